/- A queue: its repeat list longer, shorter; pieces told; pieces added. -/
import Derived.Test.YtnakoplceplmmaaV6
set_option linter.unusedSimpArgs false
set_option linter.unusedVariables false
namespace Go.Proofs.Ytnakoplceplmmaa
open Go.RowKit Go.Shelf
section
variable {F F' : Nat → Prop} {w w1 w2 w' : World} {g : Nat} {m m' : Sm} {A B : Option Addr} {n c k d : Nat}
theorem SqA.gB (h : SqA F w g m A n c B k d) : ¬ BlkOf B g := fun hk => ((h.rw.tyd g hk).ne (u := 65) (by decide)) h.bk.tyd
theorem SqA.gA (h : SqA F w g m A n c B k d) : ¬ BlkOf A g := fun hk => by
  obtain ⟨qs, h1, h2, h3, h4⟩ := h.ls
  exact ((h2.tyd g hk).ne (u := 65) (by decide)) h.bk.tyd
theorem SqA.AF (h : SqA F w g m A n c B k d) : ∀ j, BlkOf A j → F j := by
  obtain ⟨qs, h1, h2, h3, h4⟩ := h.ls
  rintro j ⟨ad, he, rfl⟩
  exact (h2.blk ad he).1
theorem SqA.BF (h : SqA F w g m A n c B k d) : ∀ j, BlkOf B j → F j := by
  rintro j ⟨ad, he, rfl⟩
  exact (h.rw.blk ad he).1
/-- The repeat list is another. -/
theorem Did.row {v : Value} (h : SqA F w g m A n c B k d) (hb : Below w.heap.size w w1) (ha : Apd 3 (BlkOf B) w1 v (intV m'.row) w2) (e1 : m'.most = m.most) (e2 : m'.lo = m.lo) (e3 : m'.nx = m.nx) (hz : m'.zl = m.zl) (hnm : m'.Nm) :
    Did F w g m' (w2.setCell ⟨g, 4, none⟩ v) := by
  obtain ⟨⟨B', k', d', rfl, hl⟩, hst⟩ := ha
  have h1 := h.below hb
  have hgB := h1.gB
  have hT : ∀ j, BlkOf B j → Tyd 3 w1 j := h1.rw.tyd
  have hF : ∀ j, F j → (F j ∨ w.heap.size ≤ j) ∧ j < w2.heap.size := fun j hj => ⟨.inl hj, by have := h1.lt j hj; have := hst.size; omega⟩
  have hbk2 := h1.bk.st hst hgB
  have hsA : SqA (fun j => (F j ∨ w.heap.size ≤ j) ∧ j < w2.heap.size) w2 g ⟨m.most, m.lo, m.nx, m.L, m.K, []⟩ A n c none 0 0 ∨ True := .inr trivial
  have hls2 : SlS (fun j => (F j ∨ w.heap.size ≤ j) ∧ j < w2.heap.size) w2 A n c m.zl := (h1.ls.stT hst fun j hj => ⟨(hT j hj).ne (by decide), (hT j hj).ne (by decide)⟩).mono fun j hj hf => ⟨.inl hf, hj⟩
  have hrw2 : Lst 3 (fun j => (F j ∨ w.heap.size ≤ j) ∧ j < w2.heap.size) w2 B' k' d' (intV m'.row) := by
    refine hl.tight.mono ?_
    rintro j ⟨ad, he, rfl⟩
    obtain ⟨hf, hlt⟩ := hl.blk ad he
    refine ⟨?_, hlt⟩
    rcases hf with hf | hf
    · exact .inl (h1.BF _ hf)
    · exact .inr (Nat.le_trans hb.size hf)
  have hs4 : St (· = g) w2 (w2.setCell ⟨g, 4, none⟩ (.slice B' k' d')) := St.setCell (F := (· = g)) w2 (a := ⟨g, 4, none⟩) rfl _
  have ht := hbk2.tyd
  refine ⟨fun j => (F j ∨ w.heap.size ≤ j) ∧ j < w2.heap.size, ⟨A, n, c, B', k', d', ?_, ?_, ?_, hF g h.fg, fun j hj => by simpa [World.setCell] using hj.2, hnm⟩, ?_, fun j hj => hj.1⟩
  · have := hbk2.set 4 (.slice B' k' d')
    rw [e1, e2, e3]
    exact this
  · rw [hz]
    exact hls2.stT hs4 fun j hj => hj ▸ ⟨ht.ne (by decide), ht.ne (by decide)⟩
  · refine hrw2.same fun ad he => Below.heap_setCell _ _ _ _ ?_
    intro e
    exact (ht.ne (u := 3) (by decide)) (by have := hrw2.tyd _ ⟨ad, he, rfl⟩; rw [e] at this; exact this)
  · exact ((St.ext hb).trans (hst.mono fun j _ hj => h1.BF j hj) (Gr.refl _ _)).trans (hs4.mono fun j _ hj => hj ▸ h.fg) (Gr.refl _ _)
set_option maxHeartbeats 1000000 in
theorem l_put (h : SqC F w g m) (s : Int) (hnm : (⟨m.most, m.lo, m.nx, m.L, m.K, m.row ++ [s]⟩ : Sm).Nm) : Calls Try.prog 37 #[.pointer (some ⟨g, 4, none⟩), .int .i64 s] w fun e w' =>
    e = .returned (.bool (!decide (s ∈ m.row))) ∧ Did F w g (if s ∈ m.row then m else ⟨m.most, m.lo, m.nx, m.L, m.K, m.row ++ [s]⟩) w' := by
  obtain ⟨A, n, c, B, k, d, h⟩ := h
  have c4 := h.bk.cell 4 rfl
  have hk := h.hk
  have hrl := h.ok.rl
  have HI := Lib.hid (has_any B k d m.row s w h.rw.rdv)
  by_cases hs : s ∈ m.row
  · have HV : Hid (decide (s ∈ m.row) = true) := Lib.hid (by simpa using hs)
    have HS := Lib.hid hs
    have H := Lib.hid h
    clear h hk hs
    go_enter Try.func37, Try.ntmps37
    go_wp2_with (go_at_call 47; refine HI.out.mono ?_; rintro e w' ⟨rfl, rfl⟩; rw [HV.out])
    go_ret
    exact ⟨by first | rfl | (rw [HV.out]; rfl), by first | exact Did.same ⟨_, _, _, _, _, _, H.out⟩ | (rw [if_pos HS.out]; exact Did.same ⟨_, _, _, _, _, _, H.out⟩)⟩
  · have HV : Hid (decide (s ∈ m.row) = false) := Lib.hid (by simpa using hs)
    have HS := Lib.hid hs
    have H := Lib.hid h
    have hu := RdV.one w 3 (.int .i64 s) rfl
    have hb0 : Below w.heap.size w (w.alloc (.cells #[.int .i64 s] 3)) := (Below.refl _ _).alloc (Nat.le_refl _) _
    have hla := (h.rw.below hb0).tight
    have HB0 := Lib.hid hb0
    have hby : (k + 1) * 8 ≤ 140737488355328 := by omega
    have HNm := Lib.hid hnm
    clear h hs hb0 hnm hk
    go_enter Try.func37, Try.ntmps37
    go_wp2_with (first
      | (go_at_call 47; go_loud (refine HI.out.mono ?_; rintro e w' ⟨rfl, rfl⟩; rw [HV.out]))
      | (refine wpList_build_one (x := .int .i64 s) eltI rfl (.tmp 16) rfl rfl rfl ?_)
      | (at_builtin
         refine wpList_append_lst eltI rfl (.tmp 15) (.tmp 17) rfl rfl hla rfl hu hby ?_
         rintro v w2 hap
         have hb2 := (H.out.below HB0.out).bk.st hap.st (H.out.below HB0.out).gB
         have c4' := hb2.cell 4 rfl
         have f4' := hb2.free 4
         obtain ⟨A', n', c', rfl, _⟩ := hap.ex
         have HAp := Lib.hid hap
         clear hap hb2))
    go_ret
    refine ⟨by first | rfl | (rw [HV.out]; rfl), ?_⟩
    try rw [if_neg HS.out]
    refine Did.row H.out HB0.out (m' := ⟨m.most, m.lo, m.nx, m.L, m.K, m.row ++ [s]⟩) ?_ rfl rfl rfl rfl HNm.out
    rw [intV_snoc]
    exact HAp.out
theorem q_again (h : SqC F w g m) (hok : m.Ok) (s : Int) : Calls Try.prog 17 #[.pointer (some ⟨g, 0, none⟩), .int .i64 s] w fun e w' =>
    e = .returned (.bool (m.lacks s && !decide (s ∈ m.row))) ∧ Did F w g (m.again s) w' := by
  have HL := Lib.hid (q_lacks h s)
  cases hl : m.lacks s with
  | true =>
    have HP : Hid (∀ W, Below w.heap.size w W → Calls Try.prog 37 #[.pointer (some ⟨g, 4, none⟩), .int .i64 s] W fun e w' =>
      e = .returned (.bool (!decide (s ∈ m.row))) ∧ Did F W g (if s ∈ m.row then m else ⟨m.most, m.lo, m.nx, m.L, m.K, m.row ++ [s]⟩) w') := Lib.hid fun W hW => by
      by_cases hs : s ∈ m.row
      · have hnm : m.Nm := hok.nm
        by_cases h4 : m.row.length < 4096
        · exact l_put (h.below hW) s ⟨hnm.m1, hnm.m2, hnm.lk, hnm.ln, hnm.nl, hnm.rm, hnm.big, by show (m.row ++ [s]).length ≤ 4096; rw [List.length_append]; exact h4⟩
        · have h' := h.below hW
          obtain ⟨A, n, c, B, k, d, h'⟩ := h'
          have c4 := h'.bk.cell 4 rfl
          have HI := Lib.hid (has_any B k d m.row s W h'.rw.rdv)
          have HV : Hid (decide (s ∈ m.row) = true) := Lib.hid (by simpa using hs)
          have HS := Lib.hid hs
          have H := Lib.hid h'
          clear h' hs h hok hl HL h4 hnm
          go_enter Try.func37, Try.ntmps37
          go_wp2_with (go_at_call 47; refine HI.out.mono ?_; rintro e w' ⟨rfl, rfl⟩; rw [HV.out])
          go_ret
          exact ⟨by first | rfl | (rw [HV.out]; rfl), by first | exact Did.same ⟨_, _, _, _, _, _, H.out⟩ | (rw [if_pos HS.out]; exact Did.same ⟨_, _, _, _, _, _, H.out⟩)⟩
      · have h1 := (Sm.again_ok' hok ⟨hl, hs⟩).nm
        exact l_put (h.below hW) s h1
    have HE : Hid (m.again s = if s ∈ m.row then m else ⟨m.most, m.lo, m.nx, m.L, m.K, m.row ++ [s]⟩) := Lib.hid (by
      unfold Sm.again
      by_cases hs : s ∈ m.row
      · rw [if_neg (by simp [hs]), if_pos hs]
      · rw [if_pos ⟨hl, hs⟩, if_neg hs])
    have HV := Lib.hid hl
    clear h hok hl
    go_enter Try.func17, Try.ntmps17
    go_wp2_with (first
      | (go_at_call 30; refine HL.out.mono ?_; rintro e w1 ⟨rfl, hb1⟩; rw [HV.out]
         have HP1 := Lib.hid (HP.out w1 hb1)
         have HB1 := Lib.hid hb1
         clear hb1)
      | (go_at_call 37; refine HP1.out.mono ?_; rintro e w2 ⟨rfl, hd⟩
         have HD := Lib.hid hd
         clear hd))
    go_ret
    refine ⟨by simp, ?_⟩
    rw [HE.out]
    obtain ⟨F1, d1, d2, d3⟩ := HD.out
    exact ⟨F1, d1, (St.ext HB1.out).trans d2 (Gr.refl _ _), fun j hj => (d3 j hj).imp id (Nat.le_trans HB1.out.size)⟩
  | false =>
    have HE : Hid (m.again s = m) := Lib.hid (by unfold Sm.again; rw [if_neg (by rw [hl]; simp)])
    have HV := Lib.hid hl
    have H := Lib.hid h
    clear h hok hl
    go_enter Try.func17, Try.ntmps17
    go_wp2_with (go_at_call 30; refine HL.out.mono ?_; rintro e w1 ⟨rfl, hb1⟩; rw [HV.out]
                 have HB1 := Lib.hid hb1
                 clear hb1)
    go_ret
    exact ⟨by simp, by rw [HE.out]; exact ⟨F, H.out.below HB1.out, St.ext HB1.out, Gr.refl _ _⟩⟩
theorem cut_one (xs : List Int) (s : Int) (hn : xs.Nodup) (hs : s ∈ xs) : xs.take (xs.idxOf s) ++ xs.drop (xs.idxOf s + 1) = xs.filter (· != s) := by
  rw [← List.eraseIdx_eq_take_drop_succ, ← hn.erase_eq_filter s, List.erase_eq_eraseIdx_of_idxOf]
  rfl
set_option maxHeartbeats 1000000 in
theorem l_drop (h : SqC F w g m) (s : Int) (hn : m.row.Nodup) : Calls Try.prog 35 #[.pointer (some ⟨g, 4, none⟩), .int .i64 s] w fun e w' => e = .returned (.tuple #[]) ∧ Did F w g (m.drop s) w' := by
  obtain ⟨A, n, c, B, k, d, h⟩ := h
  have c4 := h.bk.cell 4 rfl
  have hk := h.hk
  have hrl := h.ok.rl
  have HI := Lib.hid (idx_any B k d m.row s w h.rw.rdv)
  by_cases hs : s ∈ m.row
  · have hi : m.row.idxOf s < k := by rw [hk]; exact List.idxOf_lt_length_of_mem hs
    have HV : Hid (idxV m.row s = ((m.row.idxOf s : Nat) : Int)) := Lib.hid (by unfold idxV; rw [if_pos hs])
    have HC := Lib.hid (cut_one m.row s hn hs)
    obtain ⟨g1, o, rfl, hg1, hc⟩ := h.rw.rdv.cell hi
    have HDl := Lib.hid (del_any (i := m.row.idxOf s) h.rw hi (by omega))
    have H := Lib.hid h
    have hib : m.row.idxOf s ≤ 4096 := by omega
    have hgg : g ≠ g1 := fun e => h.gB ⟨_, rfl, e.symm⟩
    have f4 := h.bk.free 4
    have HG := Lib.hid hgg
    clear h hs hi hc hn hk hgg
    generalize m.row.idxOf s = i at *
    go_enter Try.func35, Try.ntmps35
    go_wp2_with (go_at_call 44; refine HI.out.mono ?_; rintro e w' ⟨rfl, rfl⟩; rw [HV.out])
    refine HDl.out.mono ?_
    rintro e w1 ⟨rfl, hl1, hs1⟩
    have hb1 := H.out.bk.st hs1 HG.out
    have c4' := hb1.cell 4 rfl
    have f4' := hb1.free 4
    have HD := Lib.hid (And.intro hl1 hs1)
    clear hl1 hs1 hb1 c4 f4
    go_wp2
    go_end0
    have hap : Apd 3 (BlkOf (some ⟨g1, o, none⟩)) w (.slice (some ⟨g1, o, none⟩) (k - 1) d) (intV (m.drop s).row) w1 := by
      refine ⟨⟨_, _, _, rfl, ?_⟩, HD.out.2.mono fun j _ hj => ⟨_, rfl, hj.symm⟩⟩
      have e : intV (m.drop s).row = (intV m.row).take i ++ (intV m.row).drop (i + 1) := by
        show intV (m.row.filter (· != s)) = _
        rw [← HC.out]
        simp [intV]
      rw [e]
      exact HD.out.1.tight.mono fun j hj => .inl hj
    exact ⟨rfl, Did.row H.out (Below.refl _ _) hap rfl rfl rfl rfl (Sm.drop_nm H.out.ok s)⟩
  · have HV : Hid (idxV m.row s = -1) := Lib.hid (by unfold idxV; rw [if_neg hs])
    have HE : Hid (m.drop s = m) := Lib.hid (by
      unfold Sm.drop
      have : m.row.filter (· != s) = m.row := List.filter_eq_self.2 fun x hx => by
        have : x ≠ s := fun e => hs (e ▸ hx)
        simpa using this
      rw [this])
    have H := Lib.hid h
    clear h hs hn hk
    go_enter Try.func35, Try.ntmps35
    go_wp2_with (go_at_call 44; refine HI.out.mono ?_; rintro e w' ⟨rfl, rfl⟩; rw [HV.out])
    go_end0
    rw [HE.out]
    exact ⟨rfl, Did.same ⟨_, _, _, _, _, _, H.out⟩⟩
end
end Go.Proofs.Ytnakoplceplmmaa
