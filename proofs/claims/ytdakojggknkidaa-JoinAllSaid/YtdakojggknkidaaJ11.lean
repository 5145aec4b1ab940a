/- What the laws look at: many bytes, few parts. -/
import Derived.Test.YtdakojggknkidaaJ1
set_option linter.unusedSimpArgs false
set_option linter.unusedVariables false
namespace Go.Proofs.Ytdakojggknkidaa
open Go.RowKit Go.Shelf
/-- A fresh row of bytes. -/
def Fresh (w : World) (e : Ending) (w' : World) : Prop := ∃ v ys, e = .returned v ∧ Ow .u8 5 w.heap.size w' v ys ∧ (∀ y ∈ ys, (Lit.int .u8 y).wf = true) ∧ ys.length ≤ 60000 ∧ Below w.heap.size w w'
set_option maxRecDepth 100000 in
set_option maxHeartbeats 4000000 in
theorem many_any (A : Option Addr) (n c : Nat) (xs : List Int) (t : Int) (w : World) (h : Rd .u8 w A n c xs) (ht : 0 ≤ t ∧ t < 256) :
    Calls Try.prog 12 #[.slice A n c, .int .u8 t] w (Fresh w) := by
  have hcc := h.2.1
  have hcm := h.2.2.1
  unfold maxLen at hcm
  obtain ⟨M, hM⟩ : ∃ M, M = min n 300 := ⟨_, rfl⟩
  have HR := Lib.hid (h.pre (s := M) (by omega))
  have hM3 : M ≤ 300 := by omega
  generalize xs.take M = ys at HR
  have hsl0 : (300 : Int) < n → (Instr.slice 25 (.slice A n c) none (some (.int .i64 300)) none).run Try.prog w = .ok (.slice A M c) w := fun hlt => by
    have h2 := bytesT.run_pre A n c 0 300 (by omega) hcc w
    rw [show M = 0 + 300 by omega]
    exact h2
  have hw16 : IntKind.u8.wrap (t.tmod 16) = t.tmod 16 := by
    have h1 : t.tmod 16 = t % 16 := Int.tmod_eq_emod_of_nonneg ht.1
    rw [h1, IntKind.wrap_u8]; omega
  obtain ⟨ht1, ht2⟩ := ht
  clear h
  rcases (by omega : (n ≤ 300 ∧ M = n) ∨ (300 < n ∧ M = 300)) with ⟨h5, e5⟩ | ⟨h5, e5⟩
  case' inl =>
    subst e5
    clear hsl0 hM
  case' inr =>
    have h5' : (300 : Int) < n := by omega
    have hsl1 := hsl0 h5'
    clear hsl0 hM e5
  all_goals
    by_cases hm : t % 16 = 15
    · have hm' : (t % 16 == 15) = true := by simpa using hm
      clear hm
      go_enter Try.func12, Try.ntmps12
      go_wp2
      try clear hsl1
      go_loopw [6, 7] (fun out i wr => ∃ (k : Nat) (zs : List Int), i = .int .i64 k ∧ k ≤ 200 ∧ Ow .u8 5 w.heap.size wr out zs ∧ zs.length = k * M ∧ (∀ y ∈ zs, (Lit.int .u8 y).wf = true) ∧ Below w.heap.size w wr) (fun out i _ => 200 - (intOf i).toNat)
      case atStart => exact ⟨0, [], rfl, Nat.zero_le _, Ow.nil _ _ _ _, by simp, by simp, Below.refl _ _⟩
      case round =>
        obtain ⟨k, zs, rfl, hk, how, hzl, hzw, hb⟩ := hrel
        have hle : k * M ≤ 60000 := Nat.le_trans (Nat.mul_le_mul (show k ≤ 200 by omega) hM3) (by decide)
        by_cases hlt : k < 200
        · have hlt' : (k : Int) < 200 := by omega
          have HO := Lib.hid how
          have HB := Lib.hid hb
          have HZ := Lib.hid (And.intro hzl hzw)
          have HRW := Lib.hid (HR.out.below hb)
          have hz60 : zs.length ≤ 60000 := by omega
          clear how hzl hzw hb
          obtain ⟨A3, c3, rfl⟩ := own_slice HO.out
          go_wp2_with (at_builtin
                       refine wpList_append_ints bytesT rfl (.tmp 21) (.tmp 22) rfl rfl (w0 := w) HO.out rfl HRW.out (by omega) (by omega) HB.out ?_
                       intro v1 w1 hown hb1
                       have HO1 := Lib.hid hown
                       have HB1 := Lib.hid hb1
                       clear hown hb1)
          go_roundw
          case rel =>
            refine ⟨k + 1, _, by go_num, by omega, HO1.out, ?_, ?_, HB1.out⟩
            · rw [List.length_append, HZ.out.1, HRW.out.1, Nat.add_mul, Nat.one_mul]
            · intro y hy
              rcases List.mem_append.1 hy with h9 | h9
              · exact HZ.out.2 y h9
              · exact HRW.out.2.2.2.2.1 y h9
          case measure => simp [intOf]; omega
        · have hlt' : (200 : Int) ≤ k := by omega
          have HB := Lib.hid (And.intro how (And.intro hzw (And.intro (show zs.length ≤ 60000 by omega) hb)))
          clear how hzl hzw hb
          go_wp2
          go_ret
          exact ⟨_, zs, rfl, HB.out.1, HB.out.2.1, HB.out.2.2.1, HB.out.2.2.2⟩
    · have hm' : (t % 16 == 15) = false := by simpa using hm
      clear hm
      go_enter Try.func12, Try.ntmps12
      go_wp2
      try clear hsl1
      go_loopw [6, 7] (fun out i wr => ∃ (k : Nat) (zs : List Int), i = .int .i64 k ∧ k ≤ 1 ∧ Ow .u8 5 w.heap.size wr out zs ∧ zs.length = k * M ∧ (∀ y ∈ zs, (Lit.int .u8 y).wf = true) ∧ Below w.heap.size w wr) (fun out i _ => 1 - (intOf i).toNat)
      case atStart => exact ⟨0, [], rfl, Nat.zero_le _, Ow.nil _ _ _ _, by simp, by simp, Below.refl _ _⟩
      case round =>
        obtain ⟨k, zs, rfl, hk, how, hzl, hzw, hb⟩ := hrel
        have hle : k * M ≤ 60000 := Nat.le_trans (Nat.mul_le_mul (show k ≤ 200 by omega) hM3) (by decide)
        by_cases hlt : k < 1
        · have hlt' : (k : Int) < 1 := by omega
          have HO := Lib.hid how
          have HB := Lib.hid hb
          have HZ := Lib.hid (And.intro hzl hzw)
          have HRW := Lib.hid (HR.out.below hb)
          have hz60 : zs.length ≤ 60000 := by omega
          clear how hzl hzw hb
          obtain ⟨A3, c3, rfl⟩ := own_slice HO.out
          go_wp2_with (at_builtin
                       refine wpList_append_ints bytesT rfl (.tmp 21) (.tmp 22) rfl rfl (w0 := w) HO.out rfl HRW.out (by omega) (by omega) HB.out ?_
                       intro v1 w1 hown hb1
                       have HO1 := Lib.hid hown
                       have HB1 := Lib.hid hb1
                       clear hown hb1)
          go_roundw
          case rel =>
            refine ⟨k + 1, _, by go_num, by omega, HO1.out, ?_, ?_, HB1.out⟩
            · rw [List.length_append, HZ.out.1, HRW.out.1, Nat.add_mul, Nat.one_mul]
            · intro y hy
              rcases List.mem_append.1 hy with h9 | h9
              · exact HZ.out.2 y h9
              · exact HRW.out.2.2.2.2.1 y h9
          case measure => simp [intOf]; omega
        · have hlt' : (1 : Int) ≤ k := by omega
          have HB := Lib.hid (And.intro how (And.intro hzw (And.intro (show zs.length ≤ 60000 by omega) hb)))
          clear how hzl hzw hb
          go_wp2
          go_ret
          exact ⟨_, zs, rfl, HB.out.1, HB.out.2.1, HB.out.2.2.1, HB.out.2.2.2⟩
def fewL (ms : List (List Int)) : List (List Int) := (ms.take 20).map fun xs => xs.take 200
set_option maxHeartbeats 4000000 in
theorem few_any {w : World} {A : Option Addr} {n c : Nat} {ms : List (List Int)} (h : SlB w A n c ms) : Calls Try.prog 15 #[.slice A n c] w fun e w' => ∃ A' n' c', e = .returned (.slice A' n' c') ∧ SlB w' A' n' c' (fewL ms) ∧ Below w.heap.size w w' := by
  have HM := Lib.hid h.len
  have HH := Lib.hid h
  clear h
  go_enter Try.func15, Try.ntmps15
  go_wp2
  go_loopw [3, 4, 5] (fun out i b wr => ∃ (k : Nat) (A1 : Option Addr) (c1 : Nat) (bs : List Bs), out = .slice A1 k c1 ∧ i = .int .i64 k ∧ k ≤ n ∧ k ≤ 20 ∧ Lst 25 (w.heap.size ≤ ·) wr A1 k c1 (bs.map Bs.val) ∧
      bs.map Bs.xs = (ms.take k).map (fun xs => xs.take 200) ∧ (∀ b ∈ bs, Rd .u8 w b.A b.n b.c b.xs) ∧ Below w.heap.size w wr) (fun out i b _ => 20 - (intOf i).toNat)
  case atStart => exact ⟨0, none, 0, [], rfl, rfl, Nat.zero_le _, Nat.zero_le _, Lst.nil _ _ _, by simp, by simp, Below.refl _ _⟩
  case round =>
    obtain ⟨k, A1, c1, bs, rfl, rfl, hk, hk2, hl, hbs, hbr, hb⟩ := hrel
    by_cases hlt : k < n ∧ k < 20
    · obtain ⟨g, o, b, rfl, hcell, hrd, hat⟩ := HH.out.at hlt.1
      have hcw := (hb.cell (p := ⟨g, o + k, none⟩) (World.block_lt_of_cell? _ _ hcell)).trans hcell
      have hk1 : (k : Int) < n := by omega
      have hk3 : (k : Int) < 20 := by omega
      have hbc := hrd.2.1
      obtain ⟨M, hM⟩ : ∃ M, M = min b.n 200 := ⟨_, rfl⟩
      have hsl0 : (200 : Int) < b.n → (Instr.slice 25 (.slice b.A b.n b.c) none (some (.int .i64 200)) none).run Try.prog wr = .ok (.slice b.A M b.c) wr := fun hlt => by
        have h2 := bytesT.run_pre b.A b.n b.c 0 200 (by omega) hbc wr
        rw [show M = 0 + 200 by omega]
        exact h2
      have HN := Lib.hid hlt
      have HL := Lib.hid hl
      have HX : Hid (b.xs.take 200 = b.xs.take M) := Lib.hid (by
        rw [hM]
        rcases Nat.le_total b.n 200 with h9 | h9
        · rw [Nat.min_eq_left h9, List.take_of_length_le (by rw [hrd.1]; exact h9), List.take_of_length_le (by rw [hrd.1]; exact Nat.le_refl _)]
        · rw [Nat.min_eq_right h9])
      have HBS : Hid ((bs ++ [(⟨b.A, M, b.c, b.xs.take M⟩ : Bs)]).map Bs.xs = (ms.take (k + 1)).map (fun xs => xs.take 200)) := Lib.hid (by
        rw [List.map_append, hbs, List.take_add_one, hat, List.map_append]
        simp only [Option.toList_some, List.map_cons, List.map_nil]
        rw [HX.out])
      have HBR : Hid (∀ q ∈ bs ++ [(⟨b.A, M, b.c, b.xs.take M⟩ : Bs)], Rd .u8 w q.A q.n q.c q.xs) := Lib.hid fun q hq => by
        rcases List.mem_append.1 hq with h9 | h9
        · exact hbr q h9
        · obtain rfl : q = _ := by simpa using h9
          exact hrd.pre (by show M ≤ b.n; omega)
      have HB := Lib.hid hb
      have hbytes : (k + 1) * 24 ≤ 140737488355328 := by omega
      have hla := (hl.alloc (.cells #[.slice b.A M b.c] 25)).tight
      have hu := RdV.one wr 25 (.slice b.A M b.c) rfl
      clear hrd hat hl hbs hbr hb hlt HX hcell hbc
      rcases (by omega : (b.n ≤ 200 ∧ M = b.n) ∨ (200 < b.n ∧ M = 200)) with ⟨h5, e5⟩ | ⟨h5, e5⟩
      case' inl =>
        subst e5
        clear hsl0 hM
      case' inr =>
        have h5' : (200 : Int) < b.n := by omega
        have hsl1 := hsl0 h5'
        clear hsl0 hM e5
      all_goals
        go_wp2_with (first
          | (refine wpList_build_one (x := .slice b.A _ b.c) eltB rfl (.tmp 26) rfl rfl rfl ?_)
          | (at_builtin
             refine wpList_append_lst eltB rfl (.tmp 25) (.tmp 27) rfl rfl hla rfl hu hbytes ?_
             rintro v w2 hap
             obtain ⟨A', n', c', rfl, hl'⟩ := hap.ex
             have HAP := Lib.hid hap
             have hn' := hl'.1
             have HL' := Lib.hid hl'
             clear hap hl'))
        obtain rfl : n' = k + 1 := by have := HL.out.1; simp at this hn'; omega
        go_roundw
        case rel =>
          refine ⟨k + 1, A', c', _, rfl, by go_num, by have := HN.out; omega, by have := HN.out; omega, ?_, HBS.out, HBR.out, ?_⟩
          · rw [List.map_append]
            refine HL'.out.mono ?_
            rintro j (⟨ad, rfl, rfl⟩ | hj)
            · exact (HL.out.blk _ rfl).1
            · have := HB.out.size; simp at hj; omega
          · refine HB.out.trans (((St.alloc _ wr _).trans HAP.out.st (Gr.refl _ _)).below HB.out.size ?_)
            rintro j ⟨ad, rfl, rfl⟩
            exact (HL.out.blk _ rfl).1
        case measure => simp [intOf]; omega
    · have hkk : k = min n 20 := by omega
      have HF : Hid (bs.map Bs.xs = fewL ms) := Lib.hid (by
        rw [hbs]; unfold fewL
        rw [hkk]
        rcases Nat.le_total n 20 with h9 | h9
        · rw [Nat.min_eq_left h9, List.take_of_length_le (by rw [HM.out]; exact Nat.le_refl _), List.take_of_length_le (by rw [HM.out]; exact h9)]
        · rw [Nat.min_eq_right h9])
      have HS : Hid (SlB wr A1 k c1 (fewL ms)) := Lib.hid ⟨bs, hl.rdv, HF.out, fun b hq => (hbr b hq).below hb⟩
      have HB := Lib.hid hb
      clear hl hbs hbr hb HF hkk
      rcases (by omega : n ≤ k ∨ (k < n ∧ 20 ≤ k)) with h9 | ⟨h9, h10⟩
      · have h9' : (n : Int) ≤ k := by omega
        go_wp2
        go_ret
        exact ⟨A1, k, c1, rfl, HS.out, HB.out⟩
      · have h9' : (k : Int) < n := by omega
        have h10' : (20 : Int) ≤ k := by omega
        go_wp2
        go_ret
        exact ⟨A1, k, c1, rfl, HS.out, HB.out⟩
end Go.Proofs.Ytdakojggknkidaa
