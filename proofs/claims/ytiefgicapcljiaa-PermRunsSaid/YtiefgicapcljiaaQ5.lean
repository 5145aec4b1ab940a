/- A list of paths in memory; a round begins. -/
import Derived.Test.YtiefgicapcljiaaQ4
import Derived.Test.YtiefgicapcljiaaRegL
set_option linter.unusedSimpArgs false
set_option linter.unusedVariables false
namespace Go.Proofs.Ytiefgicapcljiaa
open Go.RowKit Go.Shelf

theorem eight {α : Type} {l : List α} (h : l.length = 8) : ∃ a b c d e f g i, l = [a, b, c, d, e, f, g, i] := by
  match l, h with
  | [a, b, c, d, e, f, g, i], _ => exact ⟨a, b, c, d, e, f, g, i, rfl⟩
/-- The cells of a list. -/
def cellsL (q : Nat) (bs : List Bool) (A : Option Addr) (n c : Nat) (r : Int) (told : List Int) : List Value :=
  .pointer (some ⟨q, 0, none⟩) :: (boolV bs ++ (.slice A n c :: .int .i64 r :: intV told))
theorem cellsL_rest (q : Nat) {bs : List Bool} (A : Option Addr) (n c : Nat) (r : Int) (told : List Int) (hb : bs.length = 8) : (cellsL q bs A n c r told)[9]? = some (.slice A n c) := by obtain ⟨_, _, _, _, _, _, _, _, rfl⟩ := eight hb; rfl
theorem cellsL_rounds (q : Nat) {bs : List Bool} (A : Option Addr) (n c : Nat) (r : Int) (told : List Int) (hb : bs.length = 8) : (cellsL q bs A n c r told)[10]? = some (.int .i64 r) := by obtain ⟨_, _, _, _, _, _, _, _, rfl⟩ := eight hb; rfl
theorem cellsL_told (q : Nat) {bs : List Bool} (A : Option Addr) (n c : Nat) (r : Int) (told : List Int) (hb : bs.length = 8) (k : Nat) (hk : k < told.length) : (cellsL q bs A n c r told)[11 + k]? = some (.int .i64 (told.getD k 0)) := by
  obtain ⟨_, _, _, _, _, _, _, _, rfl⟩ := eight hb
  show (_ :: _ :: _ :: _ :: _ :: _ :: _ :: _ :: _ :: _ :: _ :: intV told)[11 + k]? = _
  rw [Nat.add_comm 11 k]
  simp [intV, hk]
theorem cellsL_ps (q : Nat) {bs : List Bool} (A : Option Addr) (n c : Nat) (r : Int) (told : List Int) (hb : bs.length = 8) : ((cellsL q bs A n c r told).drop 1).take (boolV bs).length = boolV bs := by obtain ⟨_, _, _, _, _, _, _, _, rfl⟩ := eight hb; rfl
theorem cellsL_tolds (q : Nat) {bs : List Bool} (A : Option Addr) (n c : Nat) (r : Int) (told : List Int) (hb : bs.length = 8) : ((cellsL q bs A n c r told).drop 11).take (intV told).length = intV told := by
  obtain ⟨_, _, _, _, _, _, _, _, rfl⟩ := eight hb
  exact List.take_of_length_le (Nat.le_refl _)
theorem cellsL_set9 (q : Nat) {bs : List Bool} (A : Option Addr) (n c : Nat) (r : Int) (told : List Int) (hb : bs.length = 8) (A' : Option Addr) (n' c' : Nat) : (cellsL q bs A n c r told).set 9 (.slice A' n' c') = cellsL q bs A' n' c' r told := by obtain ⟨_, _, _, _, _, _, _, _, rfl⟩ := eight hb; rfl
theorem cellsL_set10 (q : Nat) {bs : List Bool} (A : Option Addr) (n c : Nat) (r : Int) (told : List Int) (hb : bs.length = 8) (r' : Int) : (cellsL q bs A n c r told).set 10 (.int .i64 r') = cellsL q bs A n c r' told := by obtain ⟨_, _, _, _, _, _, _, _, rfl⟩ := eight hb; rfl
theorem cellsL_set11 (q : Nat) {bs : List Bool} (A : Option Addr) (n c : Nat) (r : Int) (told : List Int) (hb : bs.length = 8) (k : Nat) (x : Int) : (cellsL q bs A n c r told).set (11 + k) (.int .i64 x) = cellsL q bs A n c r (told.set k x) := by
  obtain ⟨_, _, _, _, _, _, _, _, rfl⟩ := eight hb
  show (_ :: _ :: _ :: _ :: _ :: _ :: _ :: _ :: _ :: _ :: _ :: intV told).set (11 + k) _ = _ :: _ :: _ :: _ :: _ :: _ :: _ :: _ :: _ :: _ :: _ :: intV (told.set k x)
  rw [Nat.add_comm 11 k]
  simp [intV]
theorem cellsL_len (q : Nat) {bs : List Bool} (A : Option Addr) (n c : Nat) (r : Int) (told : List Int) (hb : bs.length = 8) (ht : told.length = 8) : (cellsL q bs A n c r told).length = 19 := by
  obtain ⟨_, _, _, _, _, _, _, _, rfl⟩ := eight hb
  obtain ⟨_, _, _, _, _, _, _, _, rfl⟩ := eight ht
  rfl
theorem cellsL_lay1 (q : Nat) {bs : List Bool} (A : Option Addr) (n c : Nat) (r : Int) (told : List Int) (hb : bs.length = 8) (bs' : List Bool) (hb' : bs'.length = 8) : lay (cellsL q bs A n c r told) 1 (boolV bs') = cellsL q bs' A n c r told := by
  obtain ⟨_, _, _, _, _, _, _, _, rfl⟩ := eight hb
  obtain ⟨_, _, _, _, _, _, _, _, rfl⟩ := eight hb'
  rfl
set_option maxRecDepth 100000 in
set_option maxHeartbeats 2000000 in
theorem begin_any (w : World) (p q : Nat) (s i : Int) (ps : List Int) (A : Option Addr) (n c : Nat) (r : Int) (told : List Int) (h : Bk w 56 p (cellsL q (memB ps) A n c r told)) (hs : Src w q s i) (hps : ps = riseL ps) (hpq : p ≠ q)
    (ht : told.length = 8) (hi0 : 0 ≤ i) (hi1 : i ≤ 1000000) (hr0 : 0 ≤ r) (hr1 : r ≤ 1000000) :
    Calls Try.prog 24 #[.pointer (some ⟨p, 0, none⟩)] w fun e w' => e = .returned (.tuple #[]) ∧ ∃ A' c', Bk w' 56 p (cellsL q (memB ps) A' ps.length c' (r + 1) told) ∧ Src w' q s (i + (ps.length - 1 : Nat)) ∧
      Lst 3 (w.heap.size ≤ ·) w' A' ps.length c' (intV (shufI s i ps)) ∧ St (fun k => k = p ∨ k = q) w w' := by
  have HPS : Hid (riseN (memB ps) 8 = ps) := Lib.hid hps.symm
  have hpl := ps_len (L := ⟨0, 0, ps, [], 0, []⟩) hps
  clear hps
  go_enter Try.func24, Try.ntmps24
  go_wp2_with fail
  refine wp_region_L (St (fun k => k = q)) [13] (by kernel_rfl) (fun wd hbd hsz => ?_)
  have hsd := hs.below hbd
  have hbk := h.below hbd
  have q0 : ∀ W, St (fun k => k = q) wd W → W.cell? ⟨p, 0, none⟩ = some (.pointer (some ⟨q, 0, none⟩)) := fun W hW => (hbk.st hW hpq).cell 0 rfl
  have HW := Lib.hid hbk
  clear hsz
  (refine takeL (St.tr (fun k => k = q)) 0 (by simp only [List.getElem?_toArray, List.getElem?_cons_succ, List.getElem?_cons_zero]; rfl) (by kernel_rfl) (by kernel_rfl) (by kernel_rfl) (by kernel_rfl) (by exact fun _ _ _ h => h) (by first | (refine Or.inl ⟨by rfl, ?_⟩; intro W hW; go_simp; try with_reducible rfl) | exact Or.inr ⟨by rfl, rfl⟩) ?_; try simp only [Act.put, List.setIfInBounds_toArray, List.set_cons_zero, List.set_cons_succ])
  (refine takeL (St.tr (fun k => k = q)) 1 (by simp only [List.getElem?_toArray, List.getElem?_cons_succ, List.getElem?_cons_zero]; rfl) (by kernel_rfl) (by kernel_rfl) (by kernel_rfl) (by kernel_rfl) (by exact fun _ _ _ h => h) (by first | (refine Or.inl ⟨by rfl, ?_⟩; intro W hW; go_simp; try with_reducible rfl) | exact Or.inr ⟨by rfl, rfl⟩) ?_; try simp only [Act.put, List.setIfInBounds_toArray, List.set_cons_zero, List.set_cons_succ])
  (refine takeL (St.tr (fun k => k = q)) 5 (by simp only [List.getElem?_toArray, List.getElem?_cons_succ, List.getElem?_cons_zero]; rfl) (by kernel_rfl) (by kernel_rfl) (by kernel_rfl) (by kernel_rfl) (by exact fun _ _ _ h => h) (by first | (refine Or.inl ⟨by rfl, ?_⟩; intro W hW; go_simp; try with_reducible rfl) | exact Or.inr ⟨by rfl, rfl⟩) ?_; try simp only [Act.put, List.setIfInBounds_toArray, List.set_cons_zero, List.set_cons_succ])
  (refine takeL (St.tr (fun k => k = q)) 2 (by simp only [List.getElem?_toArray, List.getElem?_cons_succ, List.getElem?_cons_zero]; rfl) (by kernel_rfl) (by kernel_rfl) (by kernel_rfl) (by kernel_rfl) (by exact fun _ _ _ h => h) (by first | (refine Or.inl ⟨by rfl, ?_⟩; intro W hW; go_simp; try with_reducible rfl) | exact Or.inr ⟨by rfl, rfl⟩) ?_; try simp only [Act.put, List.setIfInBounds_toArray, List.set_cons_zero, List.set_cons_succ])
  (refine takeL (St.tr (fun k => k = q)) 6 (by simp only [List.getElem?_toArray, List.getElem?_cons_succ, List.getElem?_cons_zero]; rfl) (by kernel_rfl) (by kernel_rfl) (by kernel_rfl) (by kernel_rfl) (by exact fun _ _ _ h => h) (by first | (refine Or.inl ⟨by rfl, ?_⟩; intro W hW; go_simp; try with_reducible rfl) | exact Or.inr ⟨by rfl, rfl⟩) ?_; try simp only [Act.put, List.setIfInBounds_toArray, List.set_cons_zero, List.set_cons_succ])
  (refine takeL (St.tr (fun k => k = q)) 3 (by simp only [List.getElem?_toArray, List.getElem?_cons_succ, List.getElem?_cons_zero]; rfl) (by kernel_rfl) (by kernel_rfl) (by kernel_rfl) (by kernel_rfl) (by exact fun _ _ _ h => h) (by first | (refine Or.inl ⟨by rfl, ?_⟩; intro W hW; go_simp; try with_reducible rfl) | exact Or.inr ⟨by rfl, rfl⟩) ?_; try simp only [Act.put, List.setIfInBounds_toArray, List.set_cons_zero, List.set_cons_succ])
  (refine takeL (St.tr (fun k => k = q)) 7 (by simp only [List.getElem?_toArray, List.getElem?_cons_succ, List.getElem?_cons_zero]; rfl) (by kernel_rfl) (by kernel_rfl) (by kernel_rfl) (by kernel_rfl) (by exact fun _ _ _ h => h) (by first | (refine Or.inl ⟨by rfl, ?_⟩; intro W hW; go_simp; try with_reducible rfl) | exact Or.inr ⟨by rfl, rfl⟩) ?_; try simp only [Act.put, List.setIfInBounds_toArray, List.set_cons_zero, List.set_cons_succ])
  (refine takeL (St.tr (fun k => k = q)) 4 (by simp only [List.getElem?_toArray, List.getElem?_cons_succ, List.getElem?_cons_zero]; rfl) (by kernel_rfl) (by kernel_rfl) (by kernel_rfl) (by kernel_rfl) (by exact fun _ _ _ h => h) (by first | (refine Or.inl ⟨by rfl, ?_⟩; intro W hW; go_simp; try with_reducible rfl) | exact Or.inr ⟨by rfl, rfl⟩) ?_; try simp only [Act.put, List.setIfInBounds_toArray, List.set_cons_zero, List.set_cons_succ])
  (refine takeL (St.tr (fun k => k = q)) 8 (by simp only [List.getElem?_toArray, List.getElem?_cons_succ, List.getElem?_cons_zero]; rfl) (by kernel_rfl) (by kernel_rfl) (by kernel_rfl) (by kernel_rfl) (by exact fun _ _ _ h => h) (by first | (refine Or.inl ⟨by rfl, ?_⟩; intro W hW; exact exec_load_bk rowSet _ rfl p 1 rfl (HW.out.st hW hpq) (boolV (memB ps)) (by rw [boolV_len, memB_len]) (cellsL_ps _ _ _ _ _ _ (memB_len ps))) | exact Or.inr ⟨by rfl, rfl⟩) ?_; try simp only [Act.put, List.setIfInBounds_toArray, List.set_cons_zero, List.set_cons_succ])
  refine wpAnyL_one (i := 9) (by kernel_rfl) (by simp only [List.getElem?_toArray, List.getElem?_cons_succ, List.getElem?_cons_zero]; rfl) (fun K hK => ?_)
  go_simp
  refine (rising_any (memB ps) wd (memB_len ps)).mono ?_
  rintro e w1 ⟨B, m, d, rfl, hl1, hb1⟩
  rw [HPS.out] at hl1
  have hm1 := hl1.1
  rw [intV_len] at hm1
  have hs1 := hsd.below hb1
  refine hK.out _ _ (.inr (St.ext hb1)) ?_
  clear hK K
  try simp only [Act.put, List.setIfInBounds_toArray, List.set_cons_zero, List.set_cons_succ]
  refine wpAnyL_one (i := 10) (by kernel_rfl) (by simp only [List.getElem?_toArray, List.getElem?_cons_succ, List.getElem?_cons_zero]; rfl) (fun K hK => ?_)
  go_simp
  refine (Shint.shuffle_any q s i B m d (intV ps) w1 hs1 hl1.rdv (fun v hv => by obtain ⟨x, _, rfl⟩ := List.mem_map.1 hv; exact ⟨x, rfl⟩) (by omega) hi0 hi1).mono ?_
  rintro e w2 ⟨A2, c2, rfl, hl2, hs2, hst2⟩
  have hst3 : St (fun k => k = q) wd w2 := (St.ext hb1).trans hst2 (Gr.refl _ _)
  have hk2 := hbk.st hst3 hpq
  have fz := hk2.free 9
  have c9 := hk2.cell 9 (cellsL_rest _ _ _ _ _ _ (memB_len ps))
  refine hK.out _ _ (.inr hst2) ?_
  clear hK K
  try simp only [Act.put, List.setIfInBounds_toArray, List.set_cons_zero, List.set_cons_succ]
  (refine takeL (St.tr (fun k => k = q)) 11 (by simp only [List.getElem?_toArray, List.getElem?_cons_succ, List.getElem?_cons_zero]; rfl) (by kernel_rfl) (by kernel_rfl) (by kernel_rfl) (by kernel_rfl) (by exact fun _ _ _ h => h) (by first | (refine Or.inl ⟨by rfl, ?_⟩; intro W hW; go_simp; try with_reducible rfl) | exact Or.inr ⟨by rfl, rfl⟩) ?_; try simp only [Act.put, List.setIfInBounds_toArray, List.set_cons_zero, List.set_cons_succ])
  (refine takeL (St.tr (fun k => k = q)) 12 (by simp only [List.getElem?_toArray, List.getElem?_cons_succ, List.getElem?_cons_zero]; rfl) (by kernel_rfl) (by kernel_rfl) (by kernel_rfl) (by kernel_rfl) (by exact fun _ _ _ h => h) (by first | (refine Or.inl ⟨by rfl, ?_⟩; intro W hW; go_simp; try with_reducible rfl) | exact Or.inr ⟨by rfl, rfl⟩) ?_; try simp only [Act.put, List.setIfInBounds_toArray, List.set_cons_zero, List.set_cons_succ])
  refine wpAnyL_one (i := 13) (by kernel_rfl) (by simp only [List.getElem?_toArray, List.getElem?_cons_succ, List.getElem?_cons_zero]; rfl) (fun K hK => ?_)
  go_simp
  refine hK.out _ _ (.inl (by decide)) ?_
  clear hK K
  try simp only [Act.put, List.setIfInBounds_toArray, List.set_cons_zero, List.set_cons_succ]
  refine wpAnyL_done (by kernel_rfl) ?_ _
  have hk3 := hk2.set 9 (.slice A2 m c2)
  rw [cellsL_set9 _ _ _ _ _ _ (memB_len ps)] at hk3
  have c10 := hk3.cell 10 (cellsL_rounds _ _ _ _ _ _ (memB_len ps))
  have f10 := hk2.free 10
  have hk4 := hk3.set 10 (.int .i64 (r + 1))
  rw [cellsL_set10 _ _ _ _ _ _ (memB_len ps)] at hk4
  have hst4 : St (fun k => k = p ∨ k = q) w ((w2.setCell ⟨p, 9, none⟩ (.slice A2 m c2)).setCell ⟨p, 10, none⟩ (.int .i64 (r + 1))) :=
    (((St.ext hbd).trans (hst3.mono (fun k _ hk => .inr hk)) (Gr.refl _ _)).trans (St.setCell _ (a := ⟨p, 9, none⟩) (.inl rfl) _) (Gr.refl _ _)).trans (St.setCell _ (a := ⟨p, 10, none⟩) (.inl rfl) _) (Gr.refl _ _)
  have hs4 : Src ((w2.setCell ⟨p, 9, none⟩ (.slice A2 m c2)).setCell ⟨p, 10, none⟩ (.int .i64 (r + 1))) q s (i + (m - 1 : Nat)) := ((hs2.bk.far (p := ⟨p, 9, none⟩) (Ne.symm hpq) _).far (p := ⟨p, 10, none⟩) (Ne.symm hpq) _)
  have hpw := h.lt
  have hl4 : Lst 3 (w.heap.size ≤ ·) ((w2.setCell ⟨p, 9, none⟩ (.slice A2 m c2)).setCell ⟨p, 10, none⟩ (.int .i64 (r + 1))) A2 m c2 (intV (shufI s i ps)) := by
    have h0 : Lst 3 (w.heap.size ≤ ·) w2 A2 m c2 (intV (shufI s i ps)) := by
      have := hl2.mono (F' := (w.heap.size ≤ ·)) (fun k hk => by have := hbd.size; have := hb1.size; omega)
      unfold intV at this ⊢
      rw [shufV_int] at this
      exact this
    exact (h0.far (p := ⟨p, 9, none⟩) (fun ad he => by have := (h0.blk ad he).1; simp; omega) _).far (p := ⟨p, 10, none⟩) (fun ad he => by have := (h0.blk ad he).1; simp; omega) _
  have HK := Lib.hid hk4
  have HST := Lib.hid hst4
  have HS := Lib.hid hs4
  have HL := Lib.hid hl4
  have HM := Lib.hid hm1
  clear hk4 hst4 hs4 hl4 hm1 hk3 hk2 hst3 hs2 hst2 hl2 c9 fz HW q0 hbk hsd
  go_wp2
  go_end0
  refine ⟨rfl, A2, c2, ?_⟩
  rw [HM.out]
  exact ⟨HK.out, HS.out, HL.out, HST.out⟩
end Go.Proofs.Ytiefgicapcljiaa
