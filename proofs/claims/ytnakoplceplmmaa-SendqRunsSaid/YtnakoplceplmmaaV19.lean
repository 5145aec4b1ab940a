/- A queue stands as the document's. -/
import Derived.Test.YtnakoplceplmmaaV18
set_option linter.unusedSimpArgs false
set_option linter.unusedVariables false
namespace Go.Proofs.Ytnakoplceplmmaa
open Go.RowKit Go.Shelf
theorem take_all_eq {xs ys : List Int} {k : Nat} (hx : xs.length = k) (hy : ys.length = k) (h : xs.take k = ys.take k) : xs = ys := by
  rw [List.take_of_length_le (by omega), List.take_of_length_le (by omega)] at h
  exact h
theorem take_succ_eq {xs ys : List Int} {k : Nat} (hx : k < xs.length) (hy : k < ys.length) (h : xs.take k = ys.take k) (he : xs.getD k 0 = ys.getD k 0) : xs.take (k + 1) = ys.take (k + 1) := by
  rw [List.take_succ_eq_append_getElem hx, List.take_succ_eq_append_getElem hy, h]
  rw [List.getD_eq_getElem?_getD, List.getD_eq_getElem?_getD, List.getElem?_eq_getElem hx, List.getElem?_eq_getElem hy] at he
  simp at he
  rw [he]
set_option maxHeartbeats 400000 in
theorem same_any (A B : Option Addr) (n c m d : Nat) (xs ys : List Int) (w : World) (h1 : RdV w A n c (intV xs)) (h2 : RdV w B m d (intV ys)) :
    Calls Try.prog 41 #[.slice A n c, .slice B m d] w fun e w' => e = .returned (.bool (decide (xs = ys))) ∧ Below w.heap.size w w' := by
  have hn := h1.1
  have hm := h2.1
  rw [intV_len] at hn hm
  have hc := h1.2.1
  have hmx := h1.2.2.1
  have hc2 := h2.2.1
  have hmx2 := h2.2.2.1
  unfold maxLen at hmx hmx2
  by_cases hnm : n = m
  · subst hnm
    have H1 := Lib.hid h1
    have H2 := Lib.hid h2
    have HN := Lib.hid hn
    have HM := Lib.hid hm
    clear h1 h2 hn hm
    go_enter Try.func41, Try.ntmps41
    go_wp2
    go_loopw [5] (fun i wr => ∃ k q : Nat, k ≤ n ∧ i = .int .i64 k ∧ wr = w.drewN q ∧ xs.take k = ys.take k) (fun i _ => n - (intOf i).toNat)
    case atStart => exact ⟨0, 0, Nat.zero_le _, rfl, rfl, by simp⟩
    case round =>
      obtain ⟨k, q, hk, rfl, rfl, htk⟩ := hrel
      by_cases hlt : k < n
      · have hx : k < xs.length := by rw [HN.out]; exact hlt
        have hy : k < ys.length := by rw [HM.out]; exact hlt
        obtain ⟨g1, o1, rfl, hg1, d1⟩ := H1.out.cell hlt
        obtain ⟨g2, o2, rfl, hg2, d2⟩ := H2.out.cell hlt
        unfold intV at d1 d2
        rw [List.getElem?_map, List.getElem?_eq_getElem hx, Option.map_some] at d1
        rw [List.getElem?_map, List.getElem?_eq_getElem hy, Option.map_some] at d2
        have e1 : xs.getD k 0 = xs[k] := by rw [List.getD_eq_getElem?_getD, List.getElem?_eq_getElem hx]; rfl
        have e2 : ys.getD k 0 = ys[k] := by rw [List.getD_eq_getElem?_getD, List.getElem?_eq_getElem hy]; rfl
        by_cases hxy : xs[k] = ys[k]
        · have HT := Lib.hid (take_succ_eq hx hy htk (by rw [e1, e2, hxy]))
          rw [hxy] at d1
          generalize ys[k] = x at d1 d2
          clear e1 e2 hxy htk
          go_wp2
          go_quiet (fail)
          go_wp2
          go_roundw
          case rel => exact ⟨k + 1, _, by omega, by go_num, rfl, HT.out⟩
          case measure => simp [intOf]; omega
        · have HF : Hid (decide (xs = ys) = false) := Lib.hid (by
            rw [decide_eq_false_iff_not]
            rintro rfl
            exact hxy rfl)
          generalize hgx : xs[k] = x at *
          generalize hgy : ys[k] = y at *
          clear e1 e2 htk hgx hgy
          go_wp2
          go_quiet (fail)
          go_wp2
          go_ret
          exact ⟨by rw [HF.out]; rfl, (Below.drewN_ w _).trans (Below.drewN_ (w.drewN q) _)⟩
      · obtain rfl : k = n := by omega
        have HE : Hid (decide (xs = ys) = true) := Lib.hid (by rw [decide_eq_true_eq]; exact take_all_eq HN.out HM.out htk)
        clear htk
        go_wp2
        go_ret
        exact ⟨by rw [HE.out]; rfl, Below.drewN_ w q⟩
  · have HF : Hid (decide (xs = ys) = false) := Lib.hid (by
      rw [decide_eq_false_iff_not]
      rintro rfl
      omega)
    have hne : (n : Int) ≠ m := by omega
    clear h1 h2 hn hm
    go_enter Try.func41, Try.ntmps41
    go_wp2
    go_ret
    exact ⟨by rw [HF.out]; rfl, Below.refl _ _⟩


theorem same_refl (A B : Option Addr) (n c m d : Nat) {xs ys : List Int} (he : xs = ys) (w : World) (h1 : RdV w A n c (intV xs)) (h2 : RdV w B m d (intV ys)) :
    Calls Try.prog 41 #[.slice A n c, .slice B m d] w fun e w' => e = .returned (.bool true) ∧ Below w.heap.size w w' := by
  have h := same_any A B n c m d xs ys w h1 h2
  rw [decide_eq_true he] at h
  exact h
theorem exec_min1 {P : Program} {w : World} {op : Oper} {a : Act} {t : TypeId} {n K : Nat} (x y : Operand) (ho : op.op = .call { callee := .builtin .min, args := #[x, y], argTypes := #[t, t] }) (hx : a.eval x = .int .i64 1) (hy : a.eval y = .int .i64 n) (hK : K = min 1 n) : (execOp a.eval op).run P w = .ok (.value (.int .i64 K)) w := by
  unfold execOp
  simp [ho, resolve, invoke, builtin, hx, hy, Builtin.min_, Builtin.min2, Result.andThen]
  split <;> omega
theorem take_min1 (xs : List Int) : xs.take (min 1 xs.length) = xs.take 1 := by
  cases xs with
  | nil => rfl
  | cons x r => simp
section
variable {X F : Nat → Prop} {w : World} {g : Nat} {m : Sm} {A B C : Option Addr} {n c k d r e : Nat}
set_option maxRecDepth 100000 in
set_option maxHeartbeats 16000000 in
theorem shows_true (hq : SqC F w g m) (hr : RqA X w m A n c B k d C r e) (ok : m.Ok) (lw : m.Low) (s : Int) :
    Calls Try.prog 24 #[.pointer (some ⟨g, 0, none⟩), .agg #[.int .i64 m.most, .slice A n c, .slice B k d, .int .i64 m.nx, .slice C r e], .int .i64 s] w fun en w' => en = .returned (.bool true) ∧ Below w.heap.size w w' := by
  have hba := box5 w m A B C n c k d r e
  have HQ0 := Lib.hid (hq.below hba)
  have HR0 := Lib.hid (hr.below hba)
  have HK0 := Lib.hid (Bk.new w 31 [.int .i64 m.most, .slice A n c, .slice B k d, .int .i64 m.nx, .slice C r e])
  have HBA := Lib.hid hba
  have HOK := Lib.hid (And.intro ok lw)
  have hz := Bk.new w 31 [.int .i64 m.most, .slice A n c, .slice B k d, .int .i64 m.nx, .slice C r e]
  have HN := Lib.hid (And.intro hr.hn hr.hr)
  have hal := Sm.all_max ok
  have hm2 := ok.m2
  have hbig := ok.big
  have HLk := Lib.hid (r_lacking (hr.below hba) ok lw)
  clear hq hr ok lw hba
  go_enter Try.func24, Try.ntmps24
  go_wp2_with (first
    | (with_reducible refine at_load 31 (.tmp 4) (by rfl) ?_
       refine wpList_load_bk rowR rfl (.tmp 4) rfl w.heap.size 0 rfl hz [.int .i64 m.most, .slice A n c, .slice B k d, .int .i64 m.nx, .slice C r e] rfl rfl ?_)
    | (go_at_call 40; refine HLk.out.mono ?_; rintro en w2 ⟨A7, n7, c7, rfl, hl7, hb7⟩
       have HB7 := Lib.hid hb7
       have HL7 := Lib.hid hl7
       clear hb7 hl7 hz))
  have hn7 : n7 = m.all.length := by have := HL7.out.1; rw [intV_len] at this; exact this.symm
  have hc7 := HL7.out.2.1
  have hnL : n = m.L.length := HN.out.1
  subst hn7 hnL
  obtain ⟨kk, hK⟩ : ∃ kk, kk = min 1 m.all.length := ⟨_, rfl⟩
  have HKe := Lib.hid hK
  have hKc : kk ≤ c7 := by omega
  have hsl : ∀ W : World, _ := fun W => eltI.run_pre A7 m.all.length c7 kk hKc hc7 W
  have hT1 : Hid (m.all.take ((m.all.length : Int) + 1).toNat = m.all) := Lib.hid (List.take_of_length_le (by omega))
  have hT2 : Hid (m.all.take (1 : Int).toNat = m.all.take kk) := Lib.hid (by rw [HKe.out, take_min1]; rfl)
  have hwa : IntKind.i64.wrap ((m.all.length : Int) + 1) = (m.all.length : Int) + 1 := by rw [IntKind.wrap_i64]; omega
  clear hK
  refine wp_region_E Ext (by kernel_rfl) (fun wd hbd hsz => ?_)
  have HM := Lib.hid ((HQ0.out.below HB7.out).below hbd)
  have HR := Lib.hid ((HR0.out.below HB7.out).below hbd)
  have HK := Lib.hid ((HK0.out.below HB7.out).below hbd)
  have HW := Lib.hid (HL7.out.below hbd)
  have HBD := Lib.hid hbd
  have q0 : ∀ W, Ext wd W → W.cell? ⟨w.heap.size, 0, none⟩ = some (.int .i64 m.most) := fun W hW => (HK.out.below hW).cell 0 rfl
  have q1 : ∀ W, Ext wd W → W.cell? ⟨w.heap.size, 1, none⟩ = some (.slice A m.L.length c) := fun W hW => (HK.out.below hW).cell 1 rfl
  have q3 : ∀ W, Ext wd W → W.cell? ⟨w.heap.size, 3, none⟩ = some (.int .i64 m.nx) := fun W hW => (HK.out.below hW).cell 3 rfl
  have q4 : ∀ W, Ext wd W → W.cell? ⟨w.heap.size, 4, none⟩ = some (.slice C r e) := fun W hW => (HK.out.below hW).cell 4 rfl
  have hE : Below wd.heap.size wd wd := Below.refl _ _
  clear hsz hbd
  (refine takeE Ext.tr 0 (by simp only [List.getElem?_toArray, List.getElem?_cons_succ, List.getElem?_cons_zero]; rfl) (by kernel_rfl) (by kernel_rfl) (by kernel_rfl) (by exact fun _ _ _ h => h) (by first | (refine Or.inl ⟨by rfl, ?_⟩; intro W hW; go_simp; try with_reducible rfl) | exact Or.inr ⟨by rfl, rfl⟩) ?_; try simp only [Act.put, List.setIfInBounds_toArray, List.set_cons_zero, List.set_cons_succ])
  (refine takeE Ext.tr 2 (by simp only [List.getElem?_toArray, List.getElem?_cons_succ, List.getElem?_cons_zero]; rfl) (by kernel_rfl) (by kernel_rfl) (by kernel_rfl) (by exact fun _ _ _ h => h) (by first | (refine Or.inl ⟨by rfl, ?_⟩; intro W hW; exact exec_load_bk rowR (.tmp 4) rfl w.heap.size 0 rfl (HK.out.below (below_on hE hW)) [.int .i64 m.most, .slice A m.L.length c, .slice B k d, .int .i64 m.nx, .slice C r e] rfl rfl) | exact Or.inr ⟨by rfl, rfl⟩) ?_; try simp only [Act.put, List.setIfInBounds_toArray, List.set_cons_zero, List.set_cons_succ])
  refine wpAnyE_one (i := 1) (by kernel_rfl) (by simp only [List.getElem?_toArray, List.getElem?_cons_succ, List.getElem?_cons_zero]; rfl) (fun K hK => ?_)
  go_simp
  refine (q_low (HM.out.below hE)).mono ?_
  rintro en v1 ⟨rfl, rfl⟩
  refine hK.out _ _ (Ext.refl _) ?_
  clear hK K
  try simp only [Act.put, List.setIfInBounds_toArray, List.set_cons_zero, List.set_cons_succ]
  refine wpAnyE_one (i := 3) (by kernel_rfl) (by simp only [List.getElem?_toArray, List.getElem?_cons_succ, List.getElem?_cons_zero]; rfl) (fun K hK => ?_)
  go_simp
  refine (r_low (HR.out.below hE) HOK.out.1 HOK.out.2).mono ?_
  rintro en v3 ⟨rfl, hE2⟩
  have hE3 := hE2
  replace hE := below_on hE hE2
  clear q0 q1 q3 q4
  have q0 : ∀ W, Ext v3 W → W.cell? ⟨w.heap.size, 0, none⟩ = some (.int .i64 m.most) := fun W hW => (HK.out.below (below_on hE hW)).cell 0 rfl
  have q1 : ∀ W, Ext v3 W → W.cell? ⟨w.heap.size, 1, none⟩ = some (.slice A m.L.length c) := fun W hW => (HK.out.below (below_on hE hW)).cell 1 rfl
  have q3 : ∀ W, Ext v3 W → W.cell? ⟨w.heap.size, 3, none⟩ = some (.int .i64 m.nx) := fun W hW => (HK.out.below (below_on hE hW)).cell 3 rfl
  have q4 : ∀ W, Ext v3 W → W.cell? ⟨w.heap.size, 4, none⟩ = some (.slice C r e) := fun W hW => (HK.out.below (below_on hE hW)).cell 4 rfl
  clear hE2
  refine hK.out _ _ hE3 ?_
  clear hK K
  try simp only [Act.put, List.setIfInBounds_toArray, List.set_cons_zero, List.set_cons_succ]
  (refine takeE Ext.tr 4 (by simp only [List.getElem?_toArray, List.getElem?_cons_succ, List.getElem?_cons_zero]; rfl) (by kernel_rfl) (by kernel_rfl) (by kernel_rfl) (by exact fun _ _ _ h => h) (by first | (refine Or.inl ⟨by rfl, ?_⟩; intro W hW; go_simp; try with_reducible rfl) | exact Or.inr ⟨by rfl, rfl⟩) ?_; try simp only [Act.put, List.setIfInBounds_toArray, List.set_cons_zero, List.set_cons_succ])
  (refine takeE Ext.tr 5 (by simp only [List.getElem?_toArray, List.getElem?_cons_succ, List.getElem?_cons_zero]; rfl) (by kernel_rfl) (by kernel_rfl) (by kernel_rfl) (by exact fun _ _ _ h => h) (by first | (refine Or.inl ⟨by rfl, ?_⟩; intro W hW; go_simp; try with_reducible rfl) | exact Or.inr ⟨by rfl, rfl⟩) ?_; try simp only [Act.put, List.setIfInBounds_toArray, List.set_cons_zero, List.set_cons_succ])
  (refine takeE Ext.tr 6 (by simp only [List.getElem?_toArray, List.getElem?_cons_succ, List.getElem?_cons_zero]; rfl) (by kernel_rfl) (by kernel_rfl) (by kernel_rfl) (by exact fun _ _ _ h => h) (by first | (refine Or.inl ⟨by rfl, ?_⟩; intro W hW; go_simp; try with_reducible rfl) | exact Or.inr ⟨by rfl, rfl⟩) ?_; try simp only [Act.put, List.setIfInBounds_toArray, List.set_cons_zero, List.set_cons_succ])
  (refine takeE Ext.tr 8 (by simp only [List.getElem?_toArray, List.getElem?_cons_succ, List.getElem?_cons_zero]; rfl) (by kernel_rfl) (by kernel_rfl) (by kernel_rfl) (by exact fun _ _ _ h => h) (by first | (refine Or.inl ⟨by rfl, ?_⟩; intro W hW; go_simp; try with_reducible rfl) | exact Or.inr ⟨by rfl, rfl⟩) ?_; try simp only [Act.put, List.setIfInBounds_toArray, List.set_cons_zero, List.set_cons_succ])
  (refine takeE Ext.tr 9 (by simp only [List.getElem?_toArray, List.getElem?_cons_succ, List.getElem?_cons_zero]; rfl) (by kernel_rfl) (by kernel_rfl) (by kernel_rfl) (by exact fun _ _ _ h => h) (by first | (refine Or.inl ⟨by rfl, ?_⟩; intro W hW; go_simp; try with_reducible rfl) | exact Or.inr ⟨by rfl, rfl⟩) ?_; try simp only [Act.put, List.setIfInBounds_toArray, List.set_cons_zero, List.set_cons_succ])
  refine wpAnyE_one (i := 7) (by kernel_rfl) (by simp only [List.getElem?_toArray, List.getElem?_cons_succ, List.getElem?_cons_zero]; rfl) (fun K hK => ?_)
  go_simp
  refine (q_next (HM.out.below hE)).mono ?_
  rintro en v1 ⟨rfl, rfl⟩
  refine hK.out _ _ (Ext.refl _) ?_
  clear hK K
  try simp only [Act.put, List.setIfInBounds_toArray, List.set_cons_zero, List.set_cons_succ]
  (refine takeE Ext.tr 10 (by simp only [List.getElem?_toArray, List.getElem?_cons_succ, List.getElem?_cons_zero]; rfl) (by kernel_rfl) (by kernel_rfl) (by kernel_rfl) (by exact fun _ _ _ h => h) (by first | (refine Or.inl ⟨by rfl, ?_⟩; intro W hW; go_simp; try with_reducible rfl) | exact Or.inr ⟨by rfl, rfl⟩) ?_; try simp only [Act.put, List.setIfInBounds_toArray, List.set_cons_zero, List.set_cons_succ])
  (refine takeE Ext.tr 11 (by simp only [List.getElem?_toArray, List.getElem?_cons_succ, List.getElem?_cons_zero]; rfl) (by kernel_rfl) (by kernel_rfl) (by kernel_rfl) (by exact fun _ _ _ h => h) (by first | (refine Or.inl ⟨by rfl, ?_⟩; intro W hW; go_simp; try with_reducible rfl) | exact Or.inr ⟨by rfl, rfl⟩) ?_; try simp only [Act.put, List.setIfInBounds_toArray, List.set_cons_zero, List.set_cons_succ])
  (refine takeE Ext.tr 12 (by simp only [List.getElem?_toArray, List.getElem?_cons_succ, List.getElem?_cons_zero]; rfl) (by kernel_rfl) (by kernel_rfl) (by kernel_rfl) (by exact fun _ _ _ h => h) (by first | (refine Or.inl ⟨by rfl, ?_⟩; intro W hW; go_simp; try with_reducible rfl) | exact Or.inr ⟨by rfl, rfl⟩) ?_; try simp only [Act.put, List.setIfInBounds_toArray, List.set_cons_zero, List.set_cons_succ])
  (refine takeE Ext.tr 13 (by simp only [List.getElem?_toArray, List.getElem?_cons_succ, List.getElem?_cons_zero]; rfl) (by kernel_rfl) (by kernel_rfl) (by kernel_rfl) (by exact fun _ _ _ h => h) (by first | (refine Or.inl ⟨by rfl, ?_⟩; intro W hW; go_simp; try with_reducible rfl) | exact Or.inr ⟨by rfl, rfl⟩) ?_; try simp only [Act.put, List.setIfInBounds_toArray, List.set_cons_zero, List.set_cons_succ])
  (refine takeE Ext.tr 15 (by simp only [List.getElem?_toArray, List.getElem?_cons_succ, List.getElem?_cons_zero]; rfl) (by kernel_rfl) (by kernel_rfl) (by kernel_rfl) (by exact fun _ _ _ h => h) (by first | (refine Or.inl ⟨by rfl, ?_⟩; intro W hW; go_simp; try with_reducible rfl) | exact Or.inr ⟨by rfl, rfl⟩) ?_; try simp only [Act.put, List.setIfInBounds_toArray, List.set_cons_zero, List.set_cons_succ])
  (refine takeE Ext.tr 16 (by simp only [List.getElem?_toArray, List.getElem?_cons_succ, List.getElem?_cons_zero]; rfl) (by kernel_rfl) (by kernel_rfl) (by kernel_rfl) (by exact fun _ _ _ h => h) (by first | (refine Or.inl ⟨by rfl, ?_⟩; intro W hW; go_simp; try with_reducible rfl) | exact Or.inr ⟨by rfl, rfl⟩) ?_; try simp only [Act.put, List.setIfInBounds_toArray, List.set_cons_zero, List.set_cons_succ])
  (refine takeE Ext.tr 17 (by simp only [List.getElem?_toArray, List.getElem?_cons_succ, List.getElem?_cons_zero]; rfl) (by kernel_rfl) (by kernel_rfl) (by kernel_rfl) (by exact fun _ _ _ h => h) (by first | (refine Or.inl ⟨by rfl, ?_⟩; intro W hW; go_simp; try with_reducible rfl) | exact Or.inr ⟨by rfl, rfl⟩) ?_; try simp only [Act.put, List.setIfInBounds_toArray, List.set_cons_zero, List.set_cons_succ])
  refine wpAnyE_one (i := 14) (by kernel_rfl) (by simp only [List.getElem?_toArray, List.getElem?_cons_succ, List.getElem?_cons_zero]; rfl) (fun K hK => ?_)
  go_simp
  refine (q_total (HM.out.below hE)).mono ?_
  rintro en v14 ⟨rfl, hE2⟩
  have hE3 := hE2
  replace hE := below_on hE hE2
  clear q0 q1 q3 q4
  have q0 : ∀ W, Ext v14 W → W.cell? ⟨w.heap.size, 0, none⟩ = some (.int .i64 m.most) := fun W hW => (HK.out.below (below_on hE hW)).cell 0 rfl
  have q1 : ∀ W, Ext v14 W → W.cell? ⟨w.heap.size, 1, none⟩ = some (.slice A m.L.length c) := fun W hW => (HK.out.below (below_on hE hW)).cell 1 rfl
  have q3 : ∀ W, Ext v14 W → W.cell? ⟨w.heap.size, 3, none⟩ = some (.int .i64 m.nx) := fun W hW => (HK.out.below (below_on hE hW)).cell 3 rfl
  have q4 : ∀ W, Ext v14 W → W.cell? ⟨w.heap.size, 4, none⟩ = some (.slice C r e) := fun W hW => (HK.out.below (below_on hE hW)).cell 4 rfl
  clear hE2
  refine hK.out _ _ hE3 ?_
  clear hK K
  try simp only [Act.put, List.setIfInBounds_toArray, List.set_cons_zero, List.set_cons_succ]
  (refine takeE Ext.tr 18 (by simp only [List.getElem?_toArray, List.getElem?_cons_succ, List.getElem?_cons_zero]; rfl) (by kernel_rfl) (by kernel_rfl) (by kernel_rfl) (by exact fun _ _ _ h => h) (by first | (refine Or.inl ⟨by rfl, ?_⟩; intro W hW; go_simp; try with_reducible rfl) | exact Or.inr ⟨by rfl, rfl⟩) ?_; try simp only [Act.put, List.setIfInBounds_toArray, List.set_cons_zero, List.set_cons_succ])
  (refine takeE Ext.tr 19 (by simp only [List.getElem?_toArray, List.getElem?_cons_succ, List.getElem?_cons_zero]; rfl) (by kernel_rfl) (by kernel_rfl) (by kernel_rfl) (by exact fun _ _ _ h => h) (by first | (refine Or.inl ⟨by rfl, ?_⟩; intro W hW; go_simp; try with_reducible rfl) | exact Or.inr ⟨by rfl, rfl⟩) ?_; try simp only [Act.put, List.setIfInBounds_toArray, List.set_cons_zero, List.set_cons_succ])
  (refine takeE Ext.tr 20 (by simp only [List.getElem?_toArray, List.getElem?_cons_succ, List.getElem?_cons_zero]; rfl) (by kernel_rfl) (by kernel_rfl) (by kernel_rfl) (by exact fun _ _ _ h => h) (by first | (refine Or.inl ⟨by rfl, ?_⟩; intro W hW; go_simp; try with_reducible rfl) | exact Or.inr ⟨by rfl, rfl⟩) ?_; try simp only [Act.put, List.setIfInBounds_toArray, List.set_cons_zero, List.set_cons_succ])
  (refine takeE Ext.tr 21 (by simp only [List.getElem?_toArray, List.getElem?_cons_succ, List.getElem?_cons_zero]; rfl) (by kernel_rfl) (by kernel_rfl) (by kernel_rfl) (by exact fun _ _ _ h => h) (by first | (refine Or.inl ⟨by rfl, ?_⟩; intro W hW; go_simp; try with_reducible rfl) | exact Or.inr ⟨by rfl, rfl⟩) ?_; try simp only [Act.put, List.setIfInBounds_toArray, List.set_cons_zero, List.set_cons_succ])
  (refine takeE Ext.tr 23 (by simp only [List.getElem?_toArray, List.getElem?_cons_succ, List.getElem?_cons_zero]; rfl) (by kernel_rfl) (by kernel_rfl) (by kernel_rfl) (by exact fun _ _ _ h => h) (by first | (refine Or.inl ⟨by rfl, ?_⟩; intro W hW; go_simp; try with_reducible rfl) | exact Or.inr ⟨by rfl, rfl⟩) ?_; try simp only [Act.put, List.setIfInBounds_toArray, List.set_cons_zero, List.set_cons_succ])
  (refine takeE Ext.tr 24 (by simp only [List.getElem?_toArray, List.getElem?_cons_succ, List.getElem?_cons_zero]; rfl) (by kernel_rfl) (by kernel_rfl) (by kernel_rfl) (by exact fun _ _ _ h => h) (by first | (refine Or.inl ⟨by rfl, ?_⟩; intro W hW; go_simp; try with_reducible rfl) | exact Or.inr ⟨by rfl, rfl⟩) ?_; try simp only [Act.put, List.setIfInBounds_toArray, List.set_cons_zero, List.set_cons_succ])
  refine wpAnyE_one (i := 22) (by kernel_rfl) (by simp only [List.getElem?_toArray, List.getElem?_cons_succ, List.getElem?_cons_zero]; rfl) (fun K hK => ?_)
  go_simp
  refine (q_row (HM.out.below hE)).mono ?_
  rintro en v22 ⟨A22, n22, c22, rfl, hl2, hE2⟩
  have HW22 := Lib.hid hl2
  have hE3 := hE2
  replace hE := below_on hE hE2
  clear q0 q1 q3 q4
  have q0 : ∀ W, Ext v22 W → W.cell? ⟨w.heap.size, 0, none⟩ = some (.int .i64 m.most) := fun W hW => (HK.out.below (below_on hE hW)).cell 0 rfl
  have q1 : ∀ W, Ext v22 W → W.cell? ⟨w.heap.size, 1, none⟩ = some (.slice A m.L.length c) := fun W hW => (HK.out.below (below_on hE hW)).cell 1 rfl
  have q3 : ∀ W, Ext v22 W → W.cell? ⟨w.heap.size, 3, none⟩ = some (.int .i64 m.nx) := fun W hW => (HK.out.below (below_on hE hW)).cell 3 rfl
  have q4 : ∀ W, Ext v22 W → W.cell? ⟨w.heap.size, 4, none⟩ = some (.slice C r e) := fun W hW => (HK.out.below (below_on hE hW)).cell 4 rfl
  clear hE2 hl2
  refine hK.out _ _ hE3 ?_
  clear hK K
  try simp only [Act.put, List.setIfInBounds_toArray, List.set_cons_zero, List.set_cons_succ]
  refine wpAnyE_one (i := 25) (by kernel_rfl) (by simp only [List.getElem?_toArray, List.getElem?_cons_succ, List.getElem?_cons_zero]; rfl) (fun K hK => ?_)
  go_simp
  refine (same_refl _ _ _ _ _ _ rfl _ HW22.out.rdv ((HR.out.below hE).r.1)).mono ?_
  rintro en v25 ⟨rfl, hE2⟩
  have hE3 := hE2
  replace hE := below_on hE hE2
  clear q0 q1 q3 q4
  have q0 : ∀ W, Ext v25 W → W.cell? ⟨w.heap.size, 0, none⟩ = some (.int .i64 m.most) := fun W hW => (HK.out.below (below_on hE hW)).cell 0 rfl
  have q1 : ∀ W, Ext v25 W → W.cell? ⟨w.heap.size, 1, none⟩ = some (.slice A m.L.length c) := fun W hW => (HK.out.below (below_on hE hW)).cell 1 rfl
  have q3 : ∀ W, Ext v25 W → W.cell? ⟨w.heap.size, 3, none⟩ = some (.int .i64 m.nx) := fun W hW => (HK.out.below (below_on hE hW)).cell 3 rfl
  have q4 : ∀ W, Ext v25 W → W.cell? ⟨w.heap.size, 4, none⟩ = some (.slice C r e) := fun W hW => (HK.out.below (below_on hE hW)).cell 4 rfl
  clear hE2
  refine hK.out _ _ hE3 ?_
  clear hK K
  try simp only [Act.put, List.setIfInBounds_toArray, List.set_cons_zero, List.set_cons_succ]
  (refine takeE Ext.tr 26 (by simp only [List.getElem?_toArray, List.getElem?_cons_succ, List.getElem?_cons_zero]; rfl) (by kernel_rfl) (by kernel_rfl) (by kernel_rfl) (by exact fun _ _ _ h => h) (by first | (refine Or.inl ⟨by rfl, ?_⟩; intro W hW; go_simp; try with_reducible rfl) | exact Or.inr ⟨by rfl, rfl⟩) ?_; try simp only [Act.put, List.setIfInBounds_toArray, List.set_cons_zero, List.set_cons_succ])
  (refine takeE Ext.tr 27 (by simp only [List.getElem?_toArray, List.getElem?_cons_succ, List.getElem?_cons_zero]; rfl) (by kernel_rfl) (by kernel_rfl) (by kernel_rfl) (by exact fun _ _ _ h => h) (by first | (refine Or.inl ⟨by rfl, ?_⟩; intro W hW; go_simp; try with_reducible rfl) | exact Or.inr ⟨by rfl, rfl⟩) ?_; try simp only [Act.put, List.setIfInBounds_toArray, List.set_cons_zero, List.set_cons_succ])
  (refine takeE Ext.tr 28 (by simp only [List.getElem?_toArray, List.getElem?_cons_succ, List.getElem?_cons_zero]; rfl) (by kernel_rfl) (by kernel_rfl) (by kernel_rfl) (by exact fun _ _ _ h => h) (by first | (refine Or.inl ⟨by rfl, ?_⟩; intro W hW; go_simp; try with_reducible rfl) | exact Or.inr ⟨by rfl, rfl⟩) ?_; try simp only [Act.put, List.setIfInBounds_toArray, List.set_cons_zero, List.set_cons_succ])
  (refine takeE Ext.tr 29 (by simp only [List.getElem?_toArray, List.getElem?_cons_succ, List.getElem?_cons_zero]; rfl) (by kernel_rfl) (by kernel_rfl) (by kernel_rfl) (by exact fun _ _ _ h => h) (by first | (refine Or.inl ⟨by rfl, ?_⟩; intro W hW; go_simp; try with_reducible rfl) | exact Or.inr ⟨by rfl, rfl⟩) ?_; try simp only [Act.put, List.setIfInBounds_toArray, List.set_cons_zero, List.set_cons_succ])
  (refine takeE Ext.tr 33 (by simp only [List.getElem?_toArray, List.getElem?_cons_succ, List.getElem?_cons_zero]; rfl) (by kernel_rfl) (by kernel_rfl) (by kernel_rfl) (by exact fun _ _ _ h => h) (by first | (refine Or.inl ⟨by rfl, ?_⟩; intro W hW; go_simp; try with_reducible rfl) | exact Or.inr ⟨by rfl, rfl⟩) ?_; try simp only [Act.put, List.setIfInBounds_toArray, List.set_cons_zero, List.set_cons_succ])
  (refine takeE Ext.tr 30 (by simp only [List.getElem?_toArray, List.getElem?_cons_succ, List.getElem?_cons_zero]; rfl) (by kernel_rfl) (by kernel_rfl) (by kernel_rfl) (by exact fun _ _ _ h => h) (by first | (refine Or.inl ⟨by rfl, ?_⟩; intro W hW; go_simp; try with_reducible rfl) | exact Or.inr ⟨by rfl, rfl⟩) ?_; try simp only [Act.put, List.setIfInBounds_toArray, List.set_cons_zero, List.set_cons_succ])
  (refine takeE Ext.tr 31 (by simp only [List.getElem?_toArray, List.getElem?_cons_succ, List.getElem?_cons_zero]; rfl) (by kernel_rfl) (by kernel_rfl) (by kernel_rfl) (by exact fun _ _ _ h => h) (by first | (refine Or.inl ⟨by rfl, ?_⟩; intro W hW; go_simp; try with_reducible rfl) | exact Or.inr ⟨by rfl, rfl⟩) ?_; try simp only [Act.put, List.setIfInBounds_toArray, List.set_cons_zero, List.set_cons_succ])
  refine wpAnyE_one (i := 32) (by kernel_rfl) (by simp only [List.getElem?_toArray, List.getElem?_cons_succ, List.getElem?_cons_zero]; rfl) (fun K hK => ?_)
  go_simp
  refine (law_lacking (fun W hW => q_lacking (HM.out.below (below_on hE hW))) (by omega) _).mono ?_
  rintro en v32 ⟨A32, n32, c32, rfl, hl2, hE2⟩
  have HW32 := Lib.hid hl2
  have hE3 := hE2
  replace hE := below_on hE hE2
  clear q0 q1 q3 q4
  have q0 : ∀ W, Ext v32 W → W.cell? ⟨w.heap.size, 0, none⟩ = some (.int .i64 m.most) := fun W hW => (HK.out.below (below_on hE hW)).cell 0 rfl
  have q1 : ∀ W, Ext v32 W → W.cell? ⟨w.heap.size, 1, none⟩ = some (.slice A m.L.length c) := fun W hW => (HK.out.below (below_on hE hW)).cell 1 rfl
  have q3 : ∀ W, Ext v32 W → W.cell? ⟨w.heap.size, 3, none⟩ = some (.int .i64 m.nx) := fun W hW => (HK.out.below (below_on hE hW)).cell 3 rfl
  have q4 : ∀ W, Ext v32 W → W.cell? ⟨w.heap.size, 4, none⟩ = some (.slice C r e) := fun W hW => (HK.out.below (below_on hE hW)).cell 4 rfl
  clear hE2 hl2
  refine hK.out _ _ hE3 ?_
  clear hK K
  try simp only [Act.put, List.setIfInBounds_toArray, List.set_cons_zero, List.set_cons_succ]
  refine wpAnyE_one (i := 34) (by kernel_rfl) (by simp only [List.getElem?_toArray, List.getElem?_cons_succ, List.getElem?_cons_zero]; rfl) (fun K hK => ?_)
  go_simp
  refine (same_refl _ _ _ _ _ _ (List.take_of_length_le (by omega)) _ HW32.out.rdv (HW.out.rdv.below hE)).mono ?_
  rintro en v34 ⟨rfl, hE2⟩
  have hE3 := hE2
  replace hE := below_on hE hE2
  clear q0 q1 q3 q4
  have q0 : ∀ W, Ext v34 W → W.cell? ⟨w.heap.size, 0, none⟩ = some (.int .i64 m.most) := fun W hW => (HK.out.below (below_on hE hW)).cell 0 rfl
  have q1 : ∀ W, Ext v34 W → W.cell? ⟨w.heap.size, 1, none⟩ = some (.slice A m.L.length c) := fun W hW => (HK.out.below (below_on hE hW)).cell 1 rfl
  have q3 : ∀ W, Ext v34 W → W.cell? ⟨w.heap.size, 3, none⟩ = some (.int .i64 m.nx) := fun W hW => (HK.out.below (below_on hE hW)).cell 3 rfl
  have q4 : ∀ W, Ext v34 W → W.cell? ⟨w.heap.size, 4, none⟩ = some (.slice C r e) := fun W hW => (HK.out.below (below_on hE hW)).cell 4 rfl
  clear hE2
  refine hK.out _ _ hE3 ?_
  clear hK K
  try simp only [Act.put, List.setIfInBounds_toArray, List.set_cons_zero, List.set_cons_succ]
  (refine takeE Ext.tr 35 (by simp only [List.getElem?_toArray, List.getElem?_cons_succ, List.getElem?_cons_zero]; rfl) (by kernel_rfl) (by kernel_rfl) (by kernel_rfl) (by exact fun _ _ _ h => h) (by first | (refine Or.inl ⟨by rfl, ?_⟩; intro W hW; go_simp; try with_reducible rfl) | exact Or.inr ⟨by rfl, rfl⟩) ?_; try simp only [Act.put, List.setIfInBounds_toArray, List.set_cons_zero, List.set_cons_succ])
  (refine takeE Ext.tr 36 (by simp only [List.getElem?_toArray, List.getElem?_cons_succ, List.getElem?_cons_zero]; rfl) (by kernel_rfl) (by kernel_rfl) (by kernel_rfl) (by exact fun _ _ _ h => h) (by first | (refine Or.inl ⟨by rfl, ?_⟩; intro W hW; go_simp; try with_reducible rfl) | exact Or.inr ⟨by rfl, rfl⟩) ?_; try simp only [Act.put, List.setIfInBounds_toArray, List.set_cons_zero, List.set_cons_succ])
  (refine takeE Ext.tr 37 (by simp only [List.getElem?_toArray, List.getElem?_cons_succ, List.getElem?_cons_zero]; rfl) (by kernel_rfl) (by kernel_rfl) (by kernel_rfl) (by exact fun _ _ _ h => h) (by first | (refine Or.inl ⟨by rfl, ?_⟩; intro W hW; go_simp; try with_reducible rfl) | exact Or.inr ⟨by rfl, rfl⟩) ?_; try simp only [Act.put, List.setIfInBounds_toArray, List.set_cons_zero, List.set_cons_succ])
  (refine takeE Ext.tr 39 (by simp only [List.getElem?_toArray, List.getElem?_cons_succ, List.getElem?_cons_zero]; rfl) (by kernel_rfl) (by kernel_rfl) (by kernel_rfl) (by exact fun _ _ _ h => h) (by first | (refine Or.inl ⟨by rfl, ?_⟩; intro W hW; go_simp; try with_reducible rfl) | exact Or.inr ⟨by rfl, rfl⟩) ?_; try simp only [Act.put, List.setIfInBounds_toArray, List.set_cons_zero, List.set_cons_succ])
  (refine takeE Ext.tr 40 (by simp only [List.getElem?_toArray, List.getElem?_cons_succ, List.getElem?_cons_zero]; rfl) (by kernel_rfl) (by kernel_rfl) (by kernel_rfl) (by exact fun _ _ _ h => h) (by first | (refine Or.inl ⟨by rfl, ?_⟩; intro W hW; go_simp; try with_reducible rfl) | exact Or.inr ⟨by rfl, rfl⟩) ?_; try simp only [Act.put, List.setIfInBounds_toArray, List.set_cons_zero, List.set_cons_succ])
  (refine takeE Ext.tr 41 (by simp only [List.getElem?_toArray, List.getElem?_cons_succ, List.getElem?_cons_zero]; rfl) (by kernel_rfl) (by kernel_rfl) (by kernel_rfl) (by exact fun _ _ _ h => h) (by first | (refine Or.inl ⟨by rfl, ?_⟩; intro W hW; go_simp; try with_reducible rfl) | exact Or.inr ⟨by rfl, rfl⟩) ?_; try simp only [Act.put, List.setIfInBounds_toArray, List.set_cons_zero, List.set_cons_succ])
  (refine takeE Ext.tr 42 (by simp only [List.getElem?_toArray, List.getElem?_cons_succ, List.getElem?_cons_zero]; rfl) (by kernel_rfl) (by kernel_rfl) (by kernel_rfl) (by exact fun _ _ _ h => h) (by first | (refine Or.inl ⟨by rfl, ?_⟩; intro W hW; exact exec_min1 (.const (.int .i64 1)) (.tmp 51) rfl rfl rfl HKe.out) | exact Or.inr ⟨by rfl, rfl⟩) ?_; try simp only [Act.put, List.setIfInBounds_toArray, List.set_cons_zero, List.set_cons_succ])
  (refine takeE Ext.tr 43 (by simp only [List.getElem?_toArray, List.getElem?_cons_succ, List.getElem?_cons_zero]; rfl) (by kernel_rfl) (by kernel_rfl) (by kernel_rfl) (by exact fun _ _ _ h => h) (by first | (refine Or.inl ⟨by rfl, ?_⟩; intro W hW; go_simp; try with_reducible rfl) | exact Or.inr ⟨by rfl, rfl⟩) ?_; try simp only [Act.put, List.setIfInBounds_toArray, List.set_cons_zero, List.set_cons_succ])
  refine wpAnyE_one (i := 38) (by kernel_rfl) (by simp only [List.getElem?_toArray, List.getElem?_cons_succ, List.getElem?_cons_zero]; rfl) (fun K hK => ?_)
  go_simp
  refine (law_lacking (fun W hW => q_lacking (HM.out.below (below_on hE hW))) (by omega) _).mono ?_
  rintro en v38 ⟨A38, n38, c38, rfl, hl2, hE2⟩
  have HW38 := Lib.hid hl2
  have hE3 := hE2
  replace hE := below_on hE hE2
  clear q0 q1 q3 q4
  have q0 : ∀ W, Ext v38 W → W.cell? ⟨w.heap.size, 0, none⟩ = some (.int .i64 m.most) := fun W hW => (HK.out.below (below_on hE hW)).cell 0 rfl
  have q1 : ∀ W, Ext v38 W → W.cell? ⟨w.heap.size, 1, none⟩ = some (.slice A m.L.length c) := fun W hW => (HK.out.below (below_on hE hW)).cell 1 rfl
  have q3 : ∀ W, Ext v38 W → W.cell? ⟨w.heap.size, 3, none⟩ = some (.int .i64 m.nx) := fun W hW => (HK.out.below (below_on hE hW)).cell 3 rfl
  have q4 : ∀ W, Ext v38 W → W.cell? ⟨w.heap.size, 4, none⟩ = some (.slice C r e) := fun W hW => (HK.out.below (below_on hE hW)).cell 4 rfl
  clear hE2 hl2
  refine hK.out _ _ hE3 ?_
  clear hK K
  try simp only [Act.put, List.setIfInBounds_toArray, List.set_cons_zero, List.set_cons_succ]
  refine wpAnyE_one (i := 44) (by kernel_rfl) (by simp only [List.getElem?_toArray, List.getElem?_cons_succ, List.getElem?_cons_zero]; rfl) (fun K hK => ?_)
  go_simp
  refine (same_refl _ _ _ _ _ _ (xs := m.all.take (1 : Int).toNat) (ys := m.all.take kk) (by rw [HKe.out, take_min1]; rfl) _ HW38.out.rdv (by have h9 := (HW.out.rdv.below hE).pre (s := kk) (by have := HKe.out; omega); rwa [show (intV m.all).take kk = intV (m.all.take kk) from by simp [intV]] at h9)).mono ?_
  rintro en v44 ⟨rfl, hE2⟩
  have hE3 := hE2
  replace hE := below_on hE hE2
  clear q0 q1 q3 q4
  have q0 : ∀ W, Ext v44 W → W.cell? ⟨w.heap.size, 0, none⟩ = some (.int .i64 m.most) := fun W hW => (HK.out.below (below_on hE hW)).cell 0 rfl
  have q1 : ∀ W, Ext v44 W → W.cell? ⟨w.heap.size, 1, none⟩ = some (.slice A m.L.length c) := fun W hW => (HK.out.below (below_on hE hW)).cell 1 rfl
  have q3 : ∀ W, Ext v44 W → W.cell? ⟨w.heap.size, 3, none⟩ = some (.int .i64 m.nx) := fun W hW => (HK.out.below (below_on hE hW)).cell 3 rfl
  have q4 : ∀ W, Ext v44 W → W.cell? ⟨w.heap.size, 4, none⟩ = some (.slice C r e) := fun W hW => (HK.out.below (below_on hE hW)).cell 4 rfl
  clear hE2
  refine hK.out _ _ hE3 ?_
  clear hK K
  try simp only [Act.put, List.setIfInBounds_toArray, List.set_cons_zero, List.set_cons_succ]
  (refine takeE Ext.tr 45 (by simp only [List.getElem?_toArray, List.getElem?_cons_succ, List.getElem?_cons_zero]; rfl) (by kernel_rfl) (by kernel_rfl) (by kernel_rfl) (by exact fun _ _ _ h => h) (by first | (refine Or.inl ⟨by rfl, ?_⟩; intro W hW; go_simp; try with_reducible rfl) | exact Or.inr ⟨by rfl, rfl⟩) ?_; try simp only [Act.put, List.setIfInBounds_toArray, List.set_cons_zero, List.set_cons_succ])
  (refine takeE Ext.tr 46 (by simp only [List.getElem?_toArray, List.getElem?_cons_succ, List.getElem?_cons_zero]; rfl) (by kernel_rfl) (by kernel_rfl) (by kernel_rfl) (by exact fun _ _ _ h => h) (by first | (refine Or.inl ⟨by rfl, ?_⟩; intro W hW; go_simp; try with_reducible rfl) | exact Or.inr ⟨by rfl, rfl⟩) ?_; try simp only [Act.put, List.setIfInBounds_toArray, List.set_cons_zero, List.set_cons_succ])
  (refine takeE Ext.tr 47 (by simp only [List.getElem?_toArray, List.getElem?_cons_succ, List.getElem?_cons_zero]; rfl) (by kernel_rfl) (by kernel_rfl) (by kernel_rfl) (by exact fun _ _ _ h => h) (by first | (refine Or.inl ⟨by rfl, ?_⟩; intro W hW; go_simp; try with_reducible rfl) | exact Or.inr ⟨by rfl, rfl⟩) ?_; try simp only [Act.put, List.setIfInBounds_toArray, List.set_cons_zero, List.set_cons_succ])
  (refine takeE Ext.tr 48 (by simp only [List.getElem?_toArray, List.getElem?_cons_succ, List.getElem?_cons_zero]; rfl) (by kernel_rfl) (by kernel_rfl) (by kernel_rfl) (by exact fun _ _ _ h => h) (by first | (refine Or.inl ⟨by rfl, ?_⟩; intro W hW; go_simp; try with_reducible rfl) | exact Or.inr ⟨by rfl, rfl⟩) ?_; try simp only [Act.put, List.setIfInBounds_toArray, List.set_cons_zero, List.set_cons_succ])
  (refine takeE Ext.tr 50 (by simp only [List.getElem?_toArray, List.getElem?_cons_succ, List.getElem?_cons_zero]; rfl) (by kernel_rfl) (by kernel_rfl) (by kernel_rfl) (by exact fun _ _ _ h => h) (by first | (refine Or.inl ⟨by rfl, ?_⟩; intro W hW; exact exec_load_bk rowR (.tmp 4) rfl w.heap.size 0 rfl (HK.out.below (below_on hE hW)) [.int .i64 m.most, .slice A m.L.length c, .slice B k d, .int .i64 m.nx, .slice C r e] rfl rfl) | exact Or.inr ⟨by rfl, rfl⟩) ?_; try simp only [Act.put, List.setIfInBounds_toArray, List.set_cons_zero, List.set_cons_succ])
  (refine takeE Ext.tr 51 (by simp only [List.getElem?_toArray, List.getElem?_cons_succ, List.getElem?_cons_zero]; rfl) (by kernel_rfl) (by kernel_rfl) (by kernel_rfl) (by exact fun _ _ _ h => h) (by first | (refine Or.inl ⟨by rfl, ?_⟩; intro W hW; go_simp; try with_reducible rfl) | exact Or.inr ⟨by rfl, rfl⟩) ?_; try simp only [Act.put, List.setIfInBounds_toArray, List.set_cons_zero, List.set_cons_succ])
  refine wpAnyE_one (i := 49) (by kernel_rfl) (by simp only [List.getElem?_toArray, List.getElem?_cons_succ, List.getElem?_cons_zero]; rfl) (fun K hK => ?_)
  go_simp
  refine (q_lacks (HM.out.below hE) s).mono ?_
  rintro en v49 ⟨rfl, hE2⟩
  have hE3 := hE2
  replace hE := below_on hE hE2
  clear q0 q1 q3 q4
  have q0 : ∀ W, Ext v49 W → W.cell? ⟨w.heap.size, 0, none⟩ = some (.int .i64 m.most) := fun W hW => (HK.out.below (below_on hE hW)).cell 0 rfl
  have q1 : ∀ W, Ext v49 W → W.cell? ⟨w.heap.size, 1, none⟩ = some (.slice A m.L.length c) := fun W hW => (HK.out.below (below_on hE hW)).cell 1 rfl
  have q3 : ∀ W, Ext v49 W → W.cell? ⟨w.heap.size, 3, none⟩ = some (.int .i64 m.nx) := fun W hW => (HK.out.below (below_on hE hW)).cell 3 rfl
  have q4 : ∀ W, Ext v49 W → W.cell? ⟨w.heap.size, 4, none⟩ = some (.slice C r e) := fun W hW => (HK.out.below (below_on hE hW)).cell 4 rfl
  clear hE2
  refine hK.out _ _ hE3 ?_
  clear hK K
  try simp only [Act.put, List.setIfInBounds_toArray, List.set_cons_zero, List.set_cons_succ]
  refine wpAnyE_one (i := 52) (by kernel_rfl) (by simp only [List.getElem?_toArray, List.getElem?_cons_succ, List.getElem?_cons_zero]; rfl) (fun K hK => ?_)
  go_simp
  refine (r_lacks (HR.out.below hE) HOK.out.1 HOK.out.2 s).mono ?_
  rintro en v52 ⟨rfl, hE2⟩
  have hE3 := hE2
  replace hE := below_on hE hE2
  clear q0 q1 q3 q4
  have q0 : ∀ W, Ext v52 W → W.cell? ⟨w.heap.size, 0, none⟩ = some (.int .i64 m.most) := fun W hW => (HK.out.below (below_on hE hW)).cell 0 rfl
  have q1 : ∀ W, Ext v52 W → W.cell? ⟨w.heap.size, 1, none⟩ = some (.slice A m.L.length c) := fun W hW => (HK.out.below (below_on hE hW)).cell 1 rfl
  have q3 : ∀ W, Ext v52 W → W.cell? ⟨w.heap.size, 3, none⟩ = some (.int .i64 m.nx) := fun W hW => (HK.out.below (below_on hE hW)).cell 3 rfl
  have q4 : ∀ W, Ext v52 W → W.cell? ⟨w.heap.size, 4, none⟩ = some (.slice C r e) := fun W hW => (HK.out.below (below_on hE hW)).cell 4 rfl
  clear hE2
  refine hK.out _ _ hE3 ?_
  clear hK K
  try simp only [Act.put, List.setIfInBounds_toArray, List.set_cons_zero, List.set_cons_succ]
  (refine takeE Ext.tr 53 (by simp only [List.getElem?_toArray, List.getElem?_cons_succ, List.getElem?_cons_zero]; rfl) (by kernel_rfl) (by kernel_rfl) (by kernel_rfl) (by exact fun _ _ _ h => h) (by first | (refine Or.inl ⟨by rfl, ?_⟩; intro W hW; go_simp; try with_reducible rfl) | exact Or.inr ⟨by rfl, rfl⟩) ?_; try simp only [Act.put, List.setIfInBounds_toArray, List.set_cons_zero, List.set_cons_succ])
  (refine takeE Ext.tr 54 (by simp only [List.getElem?_toArray, List.getElem?_cons_succ, List.getElem?_cons_zero]; rfl) (by kernel_rfl) (by kernel_rfl) (by kernel_rfl) (by exact fun _ _ _ h => h) (by first | (refine Or.inl ⟨by rfl, ?_⟩; intro W hW; go_simp; try with_reducible rfl) | exact Or.inr ⟨by rfl, rfl⟩) ?_; try simp only [Act.put, List.setIfInBounds_toArray, List.set_cons_zero, List.set_cons_succ])
  (refine takeE Ext.tr 55 (by simp only [List.getElem?_toArray, List.getElem?_cons_succ, List.getElem?_cons_zero]; rfl) (by kernel_rfl) (by kernel_rfl) (by kernel_rfl) (by exact fun _ _ _ h => h) (by first | (refine Or.inl ⟨by rfl, ?_⟩; intro W hW; go_simp; try with_reducible rfl) | exact Or.inr ⟨by rfl, rfl⟩) ?_; try simp only [Act.put, List.setIfInBounds_toArray, List.set_cons_zero, List.set_cons_succ])
  refine wpAnyE_done (by kernel_rfl) ?_ _
  have HF := Lib.hid (below_on (below_on (below_on HBA.out HB7.out) HBD.out) hE)
  clear q0 q1 q3 q4 hE
  go_wp2
  go_ret
  exact ⟨rfl, HF.out⟩
end
end Go.Proofs.Ytnakoplceplmmaa
