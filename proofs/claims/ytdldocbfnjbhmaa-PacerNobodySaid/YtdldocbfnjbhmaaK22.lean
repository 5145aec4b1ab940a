/- A pacer that nobody made. -/
import Derived.Test.YtdldocbfnjbhmaaK21
set_option linter.unusedSimpArgs false
set_option linter.unusedVariables false
set_option maxRecDepth 100000
namespace Go.Proofs.Ytdldocbfnjbhmaa
open Go.RowKit Go.Shelf
section
variable {w : World} {P : Option Addr}
theorem no_Tick (h : NoP w P) : Calls Try.prog 12 #[.pointer P] w fun e w' => e = .returned (.tuple #[.agg #[.int .i64 0, .int .i64 0, .int .i64 0], .bool false]) ∧ Below w.heap.size w w' := by
  obtain ⟨W, hW⟩ : ∃ W, W = w.alloc (.cells #[.int .i64 0, .int .i64 0, .int .i64 0] 41) := ⟨_, rfl⟩
  have hb1 : Below w.heap.size w W := by rw [hW]; exact (Below.refl _ w).alloc (Nat.le_refl _) _
  have z1 : Bk W 41 w.heap.size [.int .i64 0, .int .i64 0, .int .i64 0] := by rw [hW]; exact Bk.new w 41 _
  have HM := Lib.hid (p_none (h.below hb1))
  have HB := Lib.hid hb1
  clear hb1 h
  go_enter Try.func12, Try.ntmps12
  go_wp2_with fail
  rw [← hW]
  clear hW
  refine HM.out.mono ?_
  rintro e w' ⟨rfl, rfl⟩
  go_wp2_with (first
    | (with_reducible refine at_store 41 (.tmp 2) (.tmp 10) (by rfl) ?_; refine wpList_store_bk rowPL rfl (.tmp 2) (.tmp 10) rfl w.heap.size 0 rfl z1 [.int .i64 0, .int .i64 0, .int .i64 0] rfl rfl (by decide) (by simp [Value.oneCell']) ?_; intro w5 hz6 hw5))
  rw [lay_all _ _ (by rfl)] at hz6
  exact bodyPost_ret (results_cell_tmp rfl rfl (rowPL.load hz6 0 (cs := [.int .i64 0, .int .i64 0, .int .i64 0]) rfl rfl)) rfl ⟨rfl, HB.out.trans (hw5.below (Nat.le_refl _) HB.out.size)⟩
theorem no_Forget (h : NoP w P) (k : Ky) : Calls Try.prog 13 #[.pointer P, .agg #[.int .i64 k.s, .int .i64 k.c]] w fun e w' => e = .returned (.tuple #[.int .i64 0, .bool false]) ∧ Below w.heap.size w w' := by
  have hb1 : Below w.heap.size w (w.alloc (.cells #[.int .i64 k.s, .int .i64 k.c] 39)) := (Below.refl _ w).alloc (Nat.le_refl _) _
  have HF := Lib.hid (p_find_no (h.below hb1) k)
  have HB := Lib.hid hb1
  unfold zKn zK at HF
  dsimp only at HF
  clear hb1 h
  go_enter Try.func13, Try.ntmps13
  go_wp2_with fail
  refine HF.out.mono ?_
  rintro e w' ⟨rfl, hb⟩
  have HB2 := Lib.hid ((below_on HB.out hb).alloc (below_on HB.out hb).size (.cells #[.int .i64 0, .int .i64 0, .int .i64 0] 76))
  clear hb
  go_wp2
  go_ret2
  exact ⟨rfl, HB2.out⟩
theorem no_Pending (h : NoP w P) (k : Ky) : Calls Try.prog 17 #[.pointer P, .agg #[.int .i64 k.s, .int .i64 k.c]] w fun e w' => e = .returned (.int .i64 0) ∧ Below w.heap.size w w' := by
  have hb1 : Below w.heap.size w (w.alloc (.cells #[.int .i64 k.s, .int .i64 k.c] 39)) := (Below.refl _ w).alloc (Nat.le_refl _) _
  have HF := Lib.hid (p_find_no (h.below hb1) k)
  have HB := Lib.hid hb1
  unfold zKn zK at HF
  dsimp only at HF
  clear hb1 h
  go_enter Try.func17, Try.ntmps17
  go_wp2_with fail
  refine HF.out.mono ?_
  rintro e w' ⟨rfl, hb⟩
  have HB2 := Lib.hid ((below_on HB.out hb).alloc (below_on HB.out hb).size (.cells #[.int .i64 0, .int .i64 0, .int .i64 0] 76))
  clear hb
  go_wp2
  go_ret
  exact ⟨rfl, HB2.out⟩
theorem no_Issued (h : NoP w P) (k : Ky) : Calls Try.prog 18 #[.pointer P, .agg #[.int .i64 k.s, .int .i64 k.c]] w fun e w' => e = .returned (.int .i64 0) ∧ Below w.heap.size w w' := by
  have hb1 : Below w.heap.size w (w.alloc (.cells #[.int .i64 k.s, .int .i64 k.c] 39)) := (Below.refl _ w).alloc (Nat.le_refl _) _
  have HF := Lib.hid (p_find_no (h.below hb1) k)
  have HB := Lib.hid hb1
  unfold zKn zK at HF
  dsimp only at HF
  clear hb1 h
  go_enter Try.func18, Try.ntmps18
  go_wp2_with fail
  refine HF.out.mono ?_
  rintro e w' ⟨rfl, hb⟩
  have HB2 := Lib.hid ((below_on HB.out hb).alloc (below_on HB.out hb).size (.cells #[.int .i64 0, .int .i64 0, .int .i64 0] 76))
  clear hb
  go_wp2
  go_ret
  exact ⟨rfl, HB2.out⟩
theorem no_Know (h : NoP w P) (k : Ky) (g : Int) : Calls Try.prog 24 #[.pointer P, .agg #[.int .i64 k.s, .int .i64 k.c], .int .i64 g] w fun e w' => e = .returned (.int .i64 4) ∧ Below w.heap.size w w' := by
  have hb1 : Below w.heap.size w (w.alloc (.cells #[.int .i64 k.s, .int .i64 k.c] 39)) := (Below.refl _ w).alloc (Nat.le_refl _) _
  have HM := Lib.hid (p_none (h.below hb1))
  have HB := Lib.hid hb1
  clear hb1 h
  go_enter Try.func24, Try.ntmps24
  go_wp2_with fail
  refine HM.out.mono ?_
  rintro e w' ⟨rfl, rfl⟩
  go_wp2
  go_ret
  exact ⟨rfl, HB.out⟩
theorem no_Owe (h : NoP w P) (k : Ky) (n : Int) : Calls Try.prog 25 #[.pointer P, .agg #[.int .i64 k.s, .int .i64 k.c], .int .i64 n] w fun e w' => e = .returned (.int .i64 4) ∧ Below w.heap.size w w' := by
  have hb1 : Below w.heap.size w (w.alloc (.cells #[.int .i64 k.s, .int .i64 k.c] 39)) := (Below.refl _ w).alloc (Nat.le_refl _) _
  have HM := Lib.hid (p_none (h.below hb1))
  have HB := Lib.hid hb1
  clear hb1 h
  go_enter Try.func25, Try.ntmps25
  go_wp2_with fail
  refine HM.out.mono ?_
  rintro e w' ⟨rfl, rfl⟩
  go_wp2
  go_ret
  exact ⟨rfl, HB.out⟩
theorem no_Total (h : NoP w P) : Calls Try.prog 19 #[.pointer P] w fun e w' => e = .returned (.int .i64 0) ∧ w = w' := by
  go_enter Try.func19, Try.ntmps19
  go_wp2_with (go_at_call 27; refine (p_none h).mono ?_; rintro e w' ⟨rfl, rfl⟩)
  go_ret
  exact ⟨rfl, rfl⟩
theorem no_Len (h : NoP w P) : Calls Try.prog 20 #[.pointer P] w fun e w' => e = .returned (.int .i64 0) ∧ w = w' := by
  go_enter Try.func20, Try.ntmps20
  go_wp2_with (go_at_call 27; refine (p_none h).mono ?_; rintro e w' ⟨rfl, rfl⟩)
  go_ret
  exact ⟨rfl, rfl⟩
theorem no_Fork (h : NoP w P) : Calls Try.prog 11 #[.pointer P] w fun e w' => e = .returned (.pointer none) ∧ w = w' := by
  go_enter Try.func11, Try.ntmps11
  go_wp2_with (go_at_call 27; refine (p_none h).mono ?_; rintro e w' ⟨rfl, rfl⟩)
  go_ret
  exact ⟨rfl, rfl⟩
theorem no_Queue (h : NoP w P) (g : Int) : Calls Try.prog 23 #[.pointer P, .int .i64 g] w fun e w' => e = .returned (.slice none 0 0) ∧ w = w' := by
  go_enter Try.func23, Try.ntmps23
  go_wp2_with (go_at_call 27; refine (p_none h).mono ?_; rintro e w' ⟨rfl, rfl⟩)
  go_ret
  exact ⟨rfl, rfl⟩
end
/-- The row of two pacers that nobody made. -/
def NoRow (w W : World) (gl : Nat) : Prop := gl < W.heap.size ∧ Below w.heap.size w W ∧ ∀ k, k < 2 → ∃ P, W.cell? ⟨gl, k, none⟩ = some (.pointer P) ∧ NoP W P
theorem NoRow.below {w W W' : World} {gl : Nat} (h : NoRow w W gl) (hb : Below W.heap.size W W') : NoRow w W' gl := by
  obtain ⟨h1, h2, h3⟩ := h
  refine ⟨by have := hb.size; omega, h2.trans (hb.mono h2.size), fun k hk => ?_⟩
  obtain ⟨P, h4, h5⟩ := h3 k hk
  exact ⟨P, (hb.cell (p := ⟨gl, k, none⟩) h1).trans h4, h5.below hb⟩
set_option maxHeartbeats 16000000 in
theorem lawNobody (k : Ky) (n : Int) (w : World) :
    Calls Try.prog 7 #[.agg #[.int .i64 k.s, .int .i64 k.c], .int .i64 n] w fun e w' => e = .returned (.bool true) ∧ Below w.heap.size w w' := by
  obtain ⟨W, hW⟩ : ∃ W, W = ((w.alloc (.cells #[.int .i64 k.s, .int .i64 k.c] 35)).alloc (.cells #[.int .i64 0, .map none, .pointer none, .pointer none, .int .i64 0, .int .i64 0] 69)).alloc (.cells #[.pointer none, .pointer (some ⟨w.heap.size + 1, 0, none⟩)] 23) := ⟨_, rfl⟩
  have hz : Bk W 69 (w.heap.size + 1) [.int .i64 0, .map none, .pointer none, .pointer none, .int .i64 0, .int .i64 0] := by
    have := (Bk.new (w.alloc (.cells #[.int .i64 k.s, .int .i64 k.c] 35)) 69 [.int .i64 0, .map none, .pointer none, .pointer none, .int .i64 0, .int .i64 0]).alloc (.cells #[.pointer none, .pointer (some ⟨w.heap.size + 1, 0, none⟩)] 23)
    rw [World.size_alloc] at this
    rw [hW]; exact this
  have hr : NoRow w W (w.heap.size + 2) := by
    have hb : Bk W 23 (w.heap.size + 2) [.pointer none, .pointer (some ⟨w.heap.size + 1, 0, none⟩)] := by
      have := Bk.new ((w.alloc (.cells #[.int .i64 k.s, .int .i64 k.c] 35)).alloc (.cells #[.int .i64 0, .map none, .pointer none, .pointer none, .int .i64 0, .int .i64 0] 69)) 23 [.pointer none, .pointer (some ⟨w.heap.size + 1, 0, none⟩)]
      simp only [World.size_alloc] at this
      rw [hW]; exact this
    refine ⟨by rw [hW]; simp, by rw [hW]; exact (((Below.refl _ _).alloc (Nat.le_refl _) _).alloc (by simp) _).alloc (by simp; omega) _, fun k hk => ?_⟩
    rcases (by omega : k = 0 ∨ k = 1) with rfl | rfl
    · exact ⟨none, hb.cell 0 rfl, .inl rfl⟩
    · exact ⟨_, hb.cell 1 rfl, .inr ⟨_, rfl, hz⟩⟩
  have zk : Bk W 35 w.heap.size k.cl := by rw [hW]; exact ((Bk.new w 35 k.cl).alloc _).alloc _
  have HZ := Lib.hid (And.intro hr zk)
  clear hz hr zk
  go_enter Try.func7, Try.ntmps7
  go_wp2
  rw [← hW]
  clear hW
  go_loopw [7, 8, 9, 10, 11] (fun i a b c d wr => ∃ k' : Nat, k' ≤ 2 ∧ i = .int .i64 k' ∧ NoRow w wr (w.heap.size + 2) ∧ Bk wr 35 w.heap.size k.cl) (fun i a b c d _ => 2 - (intOf i).toNat)
  case atStart => exact ⟨0, by omega, rfl, HZ.out.1, HZ.out.2⟩
  case round =>
    obtain ⟨k', hk, rfl, hr, zk⟩ := hrel
    by_cases hlt : k' < 2
    · obtain ⟨hgl, hb, hrow⟩ := hr
      obtain ⟨P, hcell, hn⟩ := hrow k' hlt
      have HR := Lib.hid (And.intro (show NoRow w wr (w.heap.size + 2) from ⟨hgl, hb, hrow⟩) zk)
      have hlt' : (k' : Int) < 2 := by omega
      have HN := Lib.hid hn
      generalize hgg : w.heap.size + 2 = gl at *
      clear hrow hb hn zk hgg
      go_wp2_with fail
      refine (no_Tick HN.out).mono ?_
      rintro e w2 ⟨rfl, hb2⟩
      have hb3 := hb2.trans ((Below.refl wr.heap.size w2).alloc hb2.size (.cells #[.int .i64 0, .int .i64 0, .int .i64 0] 41))
      have zt := Bk.new w2 41 [.int .i64 0, .int .i64 0, .int .i64 0]
      have hcell3 := (hb3.cell (p := ⟨gl, k', none⟩) hgl).trans hcell
      have hgl3 := Nat.lt_of_lt_of_le hgl hb3.size
      have HB3 := Lib.hid hb3
      have HZT := Lib.hid zt
      clear hb2 hcell hb3 zt
      go_wp2_with fail
      generalize hW3 : w2.alloc (.cells #[.int .i64 0, .int .i64 0, .int .i64 0] 41) = W3 at *
      generalize hg3 : w2.heap.size = gt at *
      clear hW3 hg3
      refine wp_region_E Ext (by kernel_rfl) (fun wd hbd hsz => ?_)
      have HNd := Lib.hid ((HN.out.below HB3.out).below hbd)
      have HKd := Lib.hid ((HR.out.2.below HB3.out).below hbd)
      have HTd := Lib.hid (HZT.out.below hbd)
      have hE : Below wd.heap.size wd wd := Below.refl _ _
      have q1 : ∀ V, Ext wd V → V.cell? ⟨gl, k', none⟩ = some (.pointer P) := fun V hV => ((hbd.trans ((below_on hE hV).mono hbd.size)).cell (p := ⟨gl, k', none⟩) hgl3).trans hcell3
      have q2 : ∀ V, Ext wd V → V.cell? ⟨w.heap.size, 0, none⟩ = some (.int .i64 k.s) := fun V hV => (HKd.out.below (below_on hE hV)).cell 0 rfl
      have q3 : ∀ V, Ext wd V → V.cell? ⟨w.heap.size, 1, none⟩ = some (.int .i64 k.c) := fun V hV => (HKd.out.below (below_on hE hV)).cell 1 rfl
      have q4 : ∀ V, Ext wd V → V.cell? ⟨gt, 0, none⟩ = some (.int .i64 0) := fun V hV => (HTd.out.below (below_on hE hV)).cell 0 rfl
      have q5 : ∀ V, Ext wd V → V.cell? ⟨gt, 1, none⟩ = some (.int .i64 0) := fun V hV => (HTd.out.below (below_on hE hV)).cell 1 rfl
      have q6 : ∀ V, Ext wd V → V.cell? ⟨gt, 2, none⟩ = some (.int .i64 0) := fun V hV => (HTd.out.below (below_on hE hV)).cell 2 rfl
      have HBD := Lib.hid hbd
      have hcmp : ∀ V, (binOp .neq 41 (.agg #[.int .i64 0, .int .i64 0, .int .i64 0]) (.agg #[.int .i64 0, .int .i64 0, .int .i64 0])).run Try.prog V = .ok (.bool false) V := fun V => by kernel_rfl
      clear hsz
      (refine takeE Ext.tr 0 (by simp only [List.getElem?_toArray, List.getElem?_cons_succ, List.getElem?_cons_zero]; rfl) (by kernel_rfl) (by kernel_rfl) (by kernel_rfl) (by exact fun _ _ _ h => h) (by first | (refine Or.inl ⟨by rfl, ?_⟩; intro W hW; go_simp; try with_reducible rfl) | exact Or.inr ⟨by rfl, rfl⟩) ?_; try simp only [Act.put, List.setIfInBounds_toArray, List.set_cons_zero, List.set_cons_succ])
      (refine takeE Ext.tr 1 (by simp only [List.getElem?_toArray, List.getElem?_cons_succ, List.getElem?_cons_zero]; rfl) (by kernel_rfl) (by kernel_rfl) (by kernel_rfl) (by exact fun _ _ _ h => h) (by first | (refine Or.inl ⟨by rfl, ?_⟩; intro W hW; go_simp; try with_reducible rfl) | exact Or.inr ⟨by rfl, rfl⟩) ?_; try simp only [Act.put, List.setIfInBounds_toArray, List.set_cons_zero, List.set_cons_succ])
      (refine takeE Ext.tr 4 (by simp only [List.getElem?_toArray, List.getElem?_cons_succ, List.getElem?_cons_zero]; rfl) (by kernel_rfl) (by kernel_rfl) (by kernel_rfl) (by exact fun _ _ _ h => h) (by first | (refine Or.inl ⟨by rfl, ?_⟩; intro W hW; go_simp; try with_reducible rfl) | exact Or.inr ⟨by rfl, rfl⟩) ?_; try simp only [Act.put, List.setIfInBounds_toArray, List.set_cons_zero, List.set_cons_succ])
      (refine takeE Ext.tr 2 (by simp only [List.getElem?_toArray, List.getElem?_cons_succ, List.getElem?_cons_zero]; rfl) (by kernel_rfl) (by kernel_rfl) (by kernel_rfl) (by exact fun _ _ _ h => h) (by first | (refine Or.inl ⟨by rfl, ?_⟩; intro W hW; go_simp; try with_reducible rfl) | exact Or.inr ⟨by rfl, rfl⟩) ?_; try simp only [Act.put, List.setIfInBounds_toArray, List.set_cons_zero, List.set_cons_succ])
      (refine takeE Ext.tr 3 (by simp only [List.getElem?_toArray, List.getElem?_cons_succ, List.getElem?_cons_zero]; rfl) (by kernel_rfl) (by kernel_rfl) (by kernel_rfl) (by exact fun _ _ _ h => h) (by first | (refine Or.inl ⟨by rfl, ?_⟩; intro W hW; go_simp; try with_reducible rfl) | exact Or.inr ⟨by rfl, rfl⟩) ?_; try simp only [Act.put, List.setIfInBounds_toArray, List.set_cons_zero, List.set_cons_succ])
      refine wpAnyE_one (i := 5) (by kernel_rfl) (by simp only [List.getElem?_toArray, List.getElem?_cons_succ, List.getElem?_cons_zero]; rfl) (fun K hK => ?_)
      go_simp
      refine (l_of k _).mono ?_
      rintro en v1 ⟨rfl, hE2⟩
      have hE3 := hE2
      clear q1 q2 q3 q4 q5 q6
      replace hE := below_on hE hE2
      have q1 : ∀ V, Ext v1 V → V.cell? ⟨gl, k', none⟩ = some (.pointer P) := fun V hV => ((hbd.trans ((below_on hE hV).mono hbd.size)).cell (p := ⟨gl, k', none⟩) hgl3).trans hcell3
      have q2 : ∀ V, Ext v1 V → V.cell? ⟨w.heap.size, 0, none⟩ = some (.int .i64 k.s) := fun V hV => (HKd.out.below (below_on hE hV)).cell 0 rfl
      have q3 : ∀ V, Ext v1 V → V.cell? ⟨w.heap.size, 1, none⟩ = some (.int .i64 k.c) := fun V hV => (HKd.out.below (below_on hE hV)).cell 1 rfl
      have q4 : ∀ V, Ext v1 V → V.cell? ⟨gt, 0, none⟩ = some (.int .i64 0) := fun V hV => (HTd.out.below (below_on hE hV)).cell 0 rfl
      have q5 : ∀ V, Ext v1 V → V.cell? ⟨gt, 1, none⟩ = some (.int .i64 0) := fun V hV => (HTd.out.below (below_on hE hV)).cell 1 rfl
      have q6 : ∀ V, Ext v1 V → V.cell? ⟨gt, 2, none⟩ = some (.int .i64 0) := fun V hV => (HTd.out.below (below_on hE hV)).cell 2 rfl
      clear hE2
      replace HBD := Lib.hid (hbd.trans (hE.mono hbd.size))
      refine hK.out _ _ hE3 ?_
      clear hK K
      try simp only [Act.put, List.setIfInBounds_toArray, List.set_cons_zero, List.set_cons_succ]
      refine wpAnyE_one (i := 6) (by kernel_rfl) (by simp only [List.getElem?_toArray, List.getElem?_cons_succ, List.getElem?_cons_zero]; rfl) (fun K hK => ?_)
      go_simp
      refine (no_Forget (HNd.out.below hE) k).mono ?_
      rintro en v2 ⟨rfl, hE2⟩
      have hE3 := hE2
      clear q1 q2 q3 q4 q5 q6
      replace hE := below_on hE hE2
      have q1 : ∀ V, Ext v2 V → V.cell? ⟨gl, k', none⟩ = some (.pointer P) := fun V hV => ((hbd.trans ((below_on hE hV).mono hbd.size)).cell (p := ⟨gl, k', none⟩) hgl3).trans hcell3
      have q2 : ∀ V, Ext v2 V → V.cell? ⟨w.heap.size, 0, none⟩ = some (.int .i64 k.s) := fun V hV => (HKd.out.below (below_on hE hV)).cell 0 rfl
      have q3 : ∀ V, Ext v2 V → V.cell? ⟨w.heap.size, 1, none⟩ = some (.int .i64 k.c) := fun V hV => (HKd.out.below (below_on hE hV)).cell 1 rfl
      have q4 : ∀ V, Ext v2 V → V.cell? ⟨gt, 0, none⟩ = some (.int .i64 0) := fun V hV => (HTd.out.below (below_on hE hV)).cell 0 rfl
      have q5 : ∀ V, Ext v2 V → V.cell? ⟨gt, 1, none⟩ = some (.int .i64 0) := fun V hV => (HTd.out.below (below_on hE hV)).cell 1 rfl
      have q6 : ∀ V, Ext v2 V → V.cell? ⟨gt, 2, none⟩ = some (.int .i64 0) := fun V hV => (HTd.out.below (below_on hE hV)).cell 2 rfl
      clear hE2
      replace HBD := Lib.hid (hbd.trans (hE.mono hbd.size))
      refine hK.out _ _ hE3 ?_
      clear hK K
      try simp only [Act.put, List.setIfInBounds_toArray, List.set_cons_zero, List.set_cons_succ]
      (refine takeE Ext.tr 7 (by simp only [List.getElem?_toArray, List.getElem?_cons_succ, List.getElem?_cons_zero]; rfl) (by kernel_rfl) (by kernel_rfl) (by kernel_rfl) (by exact fun _ _ _ h => h) (by first | (refine Or.inl ⟨by rfl, ?_⟩; intro W hW; go_simp; try with_reducible rfl) | exact Or.inr ⟨by rfl, rfl⟩) ?_; try simp only [Act.put, List.setIfInBounds_toArray, List.set_cons_zero, List.set_cons_succ])
      (refine takeE Ext.tr 8 (by simp only [List.getElem?_toArray, List.getElem?_cons_succ, List.getElem?_cons_zero]; rfl) (by kernel_rfl) (by kernel_rfl) (by kernel_rfl) (by exact fun _ _ _ h => h) (by first | (refine Or.inl ⟨by rfl, ?_⟩; intro W hW; go_simp; try with_reducible rfl) | exact Or.inr ⟨by rfl, rfl⟩) ?_; try simp only [Act.put, List.setIfInBounds_toArray, List.set_cons_zero, List.set_cons_succ])
      (refine takeE Ext.tr 9 (by simp only [List.getElem?_toArray, List.getElem?_cons_succ, List.getElem?_cons_zero]; rfl) (by kernel_rfl) (by kernel_rfl) (by kernel_rfl) (by exact fun _ _ _ h => h) (by first | (refine Or.inl ⟨by rfl, ?_⟩; intro W hW; go_simp; try with_reducible rfl) | exact Or.inr ⟨by rfl, rfl⟩) ?_; try simp only [Act.put, List.setIfInBounds_toArray, List.set_cons_zero, List.set_cons_succ])
      (refine takeE Ext.tr 10 (by simp only [List.getElem?_toArray, List.getElem?_cons_succ, List.getElem?_cons_zero]; rfl) (by kernel_rfl) (by kernel_rfl) (by kernel_rfl) (by exact fun _ _ _ h => h) (by first | (refine Or.inl ⟨by rfl, ?_⟩; intro W hW; go_simp; try with_reducible rfl) | exact Or.inr ⟨by rfl, rfl⟩) ?_; try simp only [Act.put, List.setIfInBounds_toArray, List.set_cons_zero, List.set_cons_succ])
      (refine takeE Ext.tr 11 (by simp only [List.getElem?_toArray, List.getElem?_cons_succ, List.getElem?_cons_zero]; rfl) (by kernel_rfl) (by kernel_rfl) (by kernel_rfl) (by exact fun _ _ _ h => h) (by first | (refine Or.inl ⟨by rfl, ?_⟩; intro W hW; go_simp; try with_reducible rfl) | exact Or.inr ⟨by rfl, rfl⟩) ?_; try simp only [Act.put, List.setIfInBounds_toArray, List.set_cons_zero, List.set_cons_succ])
      refine wpAnyE_done (by kernel_rfl) ?_ _
      clear hcmp q1 q2 q3 q4 q5 q6
      have HB7 := Lib.hid HBD.out
      clear HBD
      go_wp2_with fail
      simp only [List.append]
      refine wp_region_E Ext (by kernel_rfl) (fun wd hbd hsz => ?_)
      have HNd := Lib.hid (((HN.out.below HB3.out).below HB7.out).below hbd)
      have HKd := Lib.hid (((HR.out.2.below HB3.out).below HB7.out).below hbd)
      have HTd := Lib.hid ((HZT.out.below HB7.out).below hbd)
      have hE : Below wd.heap.size wd wd := Below.refl _ _
      have q1 : ∀ V, Ext wd V → V.cell? ⟨gl, k', none⟩ = some (.pointer P) := fun V hV => ((HB7.out.trans ((hbd.trans ((below_on hE hV).mono hbd.size)).mono HB7.out.size)).cell (p := ⟨gl, k', none⟩) hgl3).trans hcell3
      have q2 : ∀ V, Ext wd V → V.cell? ⟨w.heap.size, 0, none⟩ = some (.int .i64 k.s) := fun V hV => (HKd.out.below (below_on hE hV)).cell 0 rfl
      have q3 : ∀ V, Ext wd V → V.cell? ⟨w.heap.size, 1, none⟩ = some (.int .i64 k.c) := fun V hV => (HKd.out.below (below_on hE hV)).cell 1 rfl
      have q4 : ∀ V, Ext wd V → V.cell? ⟨gt, 0, none⟩ = some (.int .i64 0) := fun V hV => (HTd.out.below (below_on hE hV)).cell 0 rfl
      have q5 : ∀ V, Ext wd V → V.cell? ⟨gt, 1, none⟩ = some (.int .i64 0) := fun V hV => (HTd.out.below (below_on hE hV)).cell 1 rfl
      have q6 : ∀ V, Ext wd V → V.cell? ⟨gt, 2, none⟩ = some (.int .i64 0) := fun V hV => (HTd.out.below (below_on hE hV)).cell 2 rfl
      have HBD := Lib.hid hbd
      have hcmp : ∀ V, (binOp .neq 41 (.agg #[.int .i64 0, .int .i64 0, .int .i64 0]) (.agg #[.int .i64 0, .int .i64 0, .int .i64 0])).run Try.prog V = .ok (.bool false) V := fun V => by kernel_rfl
      clear hsz
      (refine takeE Ext.tr 0 (by simp only [List.getElem?_toArray, List.getElem?_cons_succ, List.getElem?_cons_zero]; rfl) (by kernel_rfl) (by kernel_rfl) (by kernel_rfl) (by exact fun _ _ _ h => h) (by first | (refine Or.inl ⟨by rfl, ?_⟩; intro W hW; go_simp; try with_reducible rfl) | exact Or.inr ⟨by rfl, rfl⟩) ?_; try simp only [Act.put, List.setIfInBounds_toArray, List.set_cons_zero, List.set_cons_succ])
      (refine takeE Ext.tr 1 (by simp only [List.getElem?_toArray, List.getElem?_cons_succ, List.getElem?_cons_zero]; rfl) (by kernel_rfl) (by kernel_rfl) (by kernel_rfl) (by exact fun _ _ _ h => h) (by first | (refine Or.inl ⟨by rfl, ?_⟩; intro W hW; go_simp; try with_reducible rfl) | exact Or.inr ⟨by rfl, rfl⟩) ?_; try simp only [Act.put, List.setIfInBounds_toArray, List.set_cons_zero, List.set_cons_succ])
      (refine takeE Ext.tr 2 (by simp only [List.getElem?_toArray, List.getElem?_cons_succ, List.getElem?_cons_zero]; rfl) (by kernel_rfl) (by kernel_rfl) (by kernel_rfl) (by exact fun _ _ _ h => h) (by first | (refine Or.inl ⟨by rfl, ?_⟩; intro W hW; exact exec_cmp_agg rfl (by kernel_rfl) rfl rfl (hcmp W)) | exact Or.inr ⟨by rfl, rfl⟩) ?_; try simp only [Act.put, List.setIfInBounds_toArray, List.set_cons_zero, List.set_cons_succ])
      (refine takeE Ext.tr 3 (by simp only [List.getElem?_toArray, List.getElem?_cons_succ, List.getElem?_cons_zero]; rfl) (by kernel_rfl) (by kernel_rfl) (by kernel_rfl) (by exact fun _ _ _ h => h) (by first | (refine Or.inl ⟨by rfl, ?_⟩; intro W hW; go_simp; try with_reducible rfl) | exact Or.inr ⟨by rfl, rfl⟩) ?_; try simp only [Act.put, List.setIfInBounds_toArray, List.set_cons_zero, List.set_cons_succ])
      (refine takeE Ext.tr 4 (by simp only [List.getElem?_toArray, List.getElem?_cons_succ, List.getElem?_cons_zero]; rfl) (by kernel_rfl) (by kernel_rfl) (by kernel_rfl) (by exact fun _ _ _ h => h) (by first | (refine Or.inl ⟨by rfl, ?_⟩; intro W hW; go_simp; try with_reducible rfl) | exact Or.inr ⟨by rfl, rfl⟩) ?_; try simp only [Act.put, List.setIfInBounds_toArray, List.set_cons_zero, List.set_cons_succ])
      (refine takeE Ext.tr 5 (by simp only [List.getElem?_toArray, List.getElem?_cons_succ, List.getElem?_cons_zero]; rfl) (by kernel_rfl) (by kernel_rfl) (by kernel_rfl) (by exact fun _ _ _ h => h) (by first | (refine Or.inl ⟨by rfl, ?_⟩; intro W hW; go_simp; try with_reducible rfl) | exact Or.inr ⟨by rfl, rfl⟩) ?_; try simp only [Act.put, List.setIfInBounds_toArray, List.set_cons_zero, List.set_cons_succ])
      (refine takeE Ext.tr 6 (by simp only [List.getElem?_toArray, List.getElem?_cons_succ, List.getElem?_cons_zero]; rfl) (by kernel_rfl) (by kernel_rfl) (by kernel_rfl) (by exact fun _ _ _ h => h) (by first | (refine Or.inl ⟨by rfl, ?_⟩; intro W hW; go_simp; try with_reducible rfl) | exact Or.inr ⟨by rfl, rfl⟩) ?_; try simp only [Act.put, List.setIfInBounds_toArray, List.set_cons_zero, List.set_cons_succ])
      (refine takeE Ext.tr 7 (by simp only [List.getElem?_toArray, List.getElem?_cons_succ, List.getElem?_cons_zero]; rfl) (by kernel_rfl) (by kernel_rfl) (by kernel_rfl) (by exact fun _ _ _ h => h) (by first | (refine Or.inl ⟨by rfl, ?_⟩; intro W hW; go_simp; try with_reducible rfl) | exact Or.inr ⟨by rfl, rfl⟩) ?_; try simp only [Act.put, List.setIfInBounds_toArray, List.set_cons_zero, List.set_cons_succ])
      (refine takeE Ext.tr 8 (by simp only [List.getElem?_toArray, List.getElem?_cons_succ, List.getElem?_cons_zero]; rfl) (by kernel_rfl) (by kernel_rfl) (by kernel_rfl) (by exact fun _ _ _ h => h) (by first | (refine Or.inl ⟨by rfl, ?_⟩; intro W hW; go_simp; try with_reducible rfl) | exact Or.inr ⟨by rfl, rfl⟩) ?_; try simp only [Act.put, List.setIfInBounds_toArray, List.set_cons_zero, List.set_cons_succ])
      (refine takeE Ext.tr 9 (by simp only [List.getElem?_toArray, List.getElem?_cons_succ, List.getElem?_cons_zero]; rfl) (by kernel_rfl) (by kernel_rfl) (by kernel_rfl) (by exact fun _ _ _ h => h) (by first | (refine Or.inl ⟨by rfl, ?_⟩; intro W hW; go_simp; try with_reducible rfl) | exact Or.inr ⟨by rfl, rfl⟩) ?_; try simp only [Act.put, List.setIfInBounds_toArray, List.set_cons_zero, List.set_cons_succ])
      (refine takeE Ext.tr 10 (by simp only [List.getElem?_toArray, List.getElem?_cons_succ, List.getElem?_cons_zero]; rfl) (by kernel_rfl) (by kernel_rfl) (by kernel_rfl) (by exact fun _ _ _ h => h) (by first | (refine Or.inl ⟨by rfl, ?_⟩; intro W hW; go_simp; try with_reducible rfl) | exact Or.inr ⟨by rfl, rfl⟩) ?_; try simp only [Act.put, List.setIfInBounds_toArray, List.set_cons_zero, List.set_cons_succ])
      (refine takeE Ext.tr 11 (by simp only [List.getElem?_toArray, List.getElem?_cons_succ, List.getElem?_cons_zero]; rfl) (by kernel_rfl) (by kernel_rfl) (by kernel_rfl) (by exact fun _ _ _ h => h) (by first | (refine Or.inl ⟨by rfl, ?_⟩; intro W hW; go_simp; try with_reducible rfl) | exact Or.inr ⟨by rfl, rfl⟩) ?_; try simp only [Act.put, List.setIfInBounds_toArray, List.set_cons_zero, List.set_cons_succ])
      (refine takeE Ext.tr 14 (by simp only [List.getElem?_toArray, List.getElem?_cons_succ, List.getElem?_cons_zero]; rfl) (by kernel_rfl) (by kernel_rfl) (by kernel_rfl) (by exact fun _ _ _ h => h) (by first | (refine Or.inl ⟨by rfl, ?_⟩; intro W hW; go_simp; try with_reducible rfl) | exact Or.inr ⟨by rfl, rfl⟩) ?_; try simp only [Act.put, List.setIfInBounds_toArray, List.set_cons_zero, List.set_cons_succ])
      (refine takeE Ext.tr 12 (by simp only [List.getElem?_toArray, List.getElem?_cons_succ, List.getElem?_cons_zero]; rfl) (by kernel_rfl) (by kernel_rfl) (by kernel_rfl) (by exact fun _ _ _ h => h) (by first | (refine Or.inl ⟨by rfl, ?_⟩; intro W hW; go_simp; try with_reducible rfl) | exact Or.inr ⟨by rfl, rfl⟩) ?_; try simp only [Act.put, List.setIfInBounds_toArray, List.set_cons_zero, List.set_cons_succ])
      (refine takeE Ext.tr 13 (by simp only [List.getElem?_toArray, List.getElem?_cons_succ, List.getElem?_cons_zero]; rfl) (by kernel_rfl) (by kernel_rfl) (by kernel_rfl) (by exact fun _ _ _ h => h) (by first | (refine Or.inl ⟨by rfl, ?_⟩; intro W hW; go_simp; try with_reducible rfl) | exact Or.inr ⟨by rfl, rfl⟩) ?_; try simp only [Act.put, List.setIfInBounds_toArray, List.set_cons_zero, List.set_cons_succ])
      refine wpAnyE_one (i := 15) (by kernel_rfl) (by simp only [List.getElem?_toArray, List.getElem?_cons_succ, List.getElem?_cons_zero]; rfl) (fun K hK => ?_)
      go_simp
      refine (l_of k _).mono ?_
      rintro en v3 ⟨rfl, hE2⟩
      have hE3 := hE2
      clear q1 q2 q3 q4 q5 q6
      replace hE := below_on hE hE2
      have q1 : ∀ V, Ext v3 V → V.cell? ⟨gl, k', none⟩ = some (.pointer P) := fun V hV => ((HB7.out.trans ((hbd.trans ((below_on hE hV).mono hbd.size)).mono HB7.out.size)).cell (p := ⟨gl, k', none⟩) hgl3).trans hcell3
      have q2 : ∀ V, Ext v3 V → V.cell? ⟨w.heap.size, 0, none⟩ = some (.int .i64 k.s) := fun V hV => (HKd.out.below (below_on hE hV)).cell 0 rfl
      have q3 : ∀ V, Ext v3 V → V.cell? ⟨w.heap.size, 1, none⟩ = some (.int .i64 k.c) := fun V hV => (HKd.out.below (below_on hE hV)).cell 1 rfl
      have q4 : ∀ V, Ext v3 V → V.cell? ⟨gt, 0, none⟩ = some (.int .i64 0) := fun V hV => (HTd.out.below (below_on hE hV)).cell 0 rfl
      have q5 : ∀ V, Ext v3 V → V.cell? ⟨gt, 1, none⟩ = some (.int .i64 0) := fun V hV => (HTd.out.below (below_on hE hV)).cell 1 rfl
      have q6 : ∀ V, Ext v3 V → V.cell? ⟨gt, 2, none⟩ = some (.int .i64 0) := fun V hV => (HTd.out.below (below_on hE hV)).cell 2 rfl
      clear hE2
      replace HBD := Lib.hid (hbd.trans (hE.mono hbd.size))
      refine hK.out _ _ hE3 ?_
      clear hK K
      try simp only [Act.put, List.setIfInBounds_toArray, List.set_cons_zero, List.set_cons_succ]
      refine wpAnyE_one (i := 16) (by kernel_rfl) (by simp only [List.getElem?_toArray, List.getElem?_cons_succ, List.getElem?_cons_zero]; rfl) (fun K hK => ?_)
      go_simp
      refine (no_Know (HNd.out.below hE) k 1).mono ?_
      rintro en v4 ⟨rfl, hE2⟩
      have hE3 := hE2
      clear q1 q2 q3 q4 q5 q6
      replace hE := below_on hE hE2
      have q1 : ∀ V, Ext v4 V → V.cell? ⟨gl, k', none⟩ = some (.pointer P) := fun V hV => ((HB7.out.trans ((hbd.trans ((below_on hE hV).mono hbd.size)).mono HB7.out.size)).cell (p := ⟨gl, k', none⟩) hgl3).trans hcell3
      have q2 : ∀ V, Ext v4 V → V.cell? ⟨w.heap.size, 0, none⟩ = some (.int .i64 k.s) := fun V hV => (HKd.out.below (below_on hE hV)).cell 0 rfl
      have q3 : ∀ V, Ext v4 V → V.cell? ⟨w.heap.size, 1, none⟩ = some (.int .i64 k.c) := fun V hV => (HKd.out.below (below_on hE hV)).cell 1 rfl
      have q4 : ∀ V, Ext v4 V → V.cell? ⟨gt, 0, none⟩ = some (.int .i64 0) := fun V hV => (HTd.out.below (below_on hE hV)).cell 0 rfl
      have q5 : ∀ V, Ext v4 V → V.cell? ⟨gt, 1, none⟩ = some (.int .i64 0) := fun V hV => (HTd.out.below (below_on hE hV)).cell 1 rfl
      have q6 : ∀ V, Ext v4 V → V.cell? ⟨gt, 2, none⟩ = some (.int .i64 0) := fun V hV => (HTd.out.below (below_on hE hV)).cell 2 rfl
      clear hE2
      replace HBD := Lib.hid (hbd.trans (hE.mono hbd.size))
      refine hK.out _ _ hE3 ?_
      clear hK K
      try simp only [Act.put, List.setIfInBounds_toArray, List.set_cons_zero, List.set_cons_succ]
      (refine takeE Ext.tr 17 (by simp only [List.getElem?_toArray, List.getElem?_cons_succ, List.getElem?_cons_zero]; rfl) (by kernel_rfl) (by kernel_rfl) (by kernel_rfl) (by exact fun _ _ _ h => h) (by first | (refine Or.inl ⟨by rfl, ?_⟩; intro W hW; go_simp; try with_reducible rfl) | exact Or.inr ⟨by rfl, rfl⟩) ?_; try simp only [Act.put, List.setIfInBounds_toArray, List.set_cons_zero, List.set_cons_succ])
      (refine takeE Ext.tr 18 (by simp only [List.getElem?_toArray, List.getElem?_cons_succ, List.getElem?_cons_zero]; rfl) (by kernel_rfl) (by kernel_rfl) (by kernel_rfl) (by exact fun _ _ _ h => h) (by first | (refine Or.inl ⟨by rfl, ?_⟩; intro W hW; go_simp; try with_reducible rfl) | exact Or.inr ⟨by rfl, rfl⟩) ?_; try simp only [Act.put, List.setIfInBounds_toArray, List.set_cons_zero, List.set_cons_succ])
      (refine takeE Ext.tr 19 (by simp only [List.getElem?_toArray, List.getElem?_cons_succ, List.getElem?_cons_zero]; rfl) (by kernel_rfl) (by kernel_rfl) (by kernel_rfl) (by exact fun _ _ _ h => h) (by first | (refine Or.inl ⟨by rfl, ?_⟩; intro W hW; go_simp; try with_reducible rfl) | exact Or.inr ⟨by rfl, rfl⟩) ?_; try simp only [Act.put, List.setIfInBounds_toArray, List.set_cons_zero, List.set_cons_succ])
      (refine takeE Ext.tr 20 (by simp only [List.getElem?_toArray, List.getElem?_cons_succ, List.getElem?_cons_zero]; rfl) (by kernel_rfl) (by kernel_rfl) (by kernel_rfl) (by exact fun _ _ _ h => h) (by first | (refine Or.inl ⟨by rfl, ?_⟩; intro W hW; go_simp; try with_reducible rfl) | exact Or.inr ⟨by rfl, rfl⟩) ?_; try simp only [Act.put, List.setIfInBounds_toArray, List.set_cons_zero, List.set_cons_succ])
      (refine takeE Ext.tr 21 (by simp only [List.getElem?_toArray, List.getElem?_cons_succ, List.getElem?_cons_zero]; rfl) (by kernel_rfl) (by kernel_rfl) (by kernel_rfl) (by exact fun _ _ _ h => h) (by first | (refine Or.inl ⟨by rfl, ?_⟩; intro W hW; go_simp; try with_reducible rfl) | exact Or.inr ⟨by rfl, rfl⟩) ?_; try simp only [Act.put, List.setIfInBounds_toArray, List.set_cons_zero, List.set_cons_succ])
      (refine takeE Ext.tr 24 (by simp only [List.getElem?_toArray, List.getElem?_cons_succ, List.getElem?_cons_zero]; rfl) (by kernel_rfl) (by kernel_rfl) (by kernel_rfl) (by exact fun _ _ _ h => h) (by first | (refine Or.inl ⟨by rfl, ?_⟩; intro W hW; go_simp; try with_reducible rfl) | exact Or.inr ⟨by rfl, rfl⟩) ?_; try simp only [Act.put, List.setIfInBounds_toArray, List.set_cons_zero, List.set_cons_succ])
      (refine takeE Ext.tr 26 (by simp only [List.getElem?_toArray, List.getElem?_cons_succ, List.getElem?_cons_zero]; rfl) (by kernel_rfl) (by kernel_rfl) (by kernel_rfl) (by exact fun _ _ _ h => h) (by first | (refine Or.inl ⟨by rfl, ?_⟩; intro W hW; go_simp; try with_reducible rfl) | exact Or.inr ⟨by rfl, rfl⟩) ?_; try simp only [Act.put, List.setIfInBounds_toArray, List.set_cons_zero, List.set_cons_succ])
      (refine takeE Ext.tr 22 (by simp only [List.getElem?_toArray, List.getElem?_cons_succ, List.getElem?_cons_zero]; rfl) (by kernel_rfl) (by kernel_rfl) (by kernel_rfl) (by exact fun _ _ _ h => h) (by first | (refine Or.inl ⟨by rfl, ?_⟩; intro W hW; go_simp; try with_reducible rfl) | exact Or.inr ⟨by rfl, rfl⟩) ?_; try simp only [Act.put, List.setIfInBounds_toArray, List.set_cons_zero, List.set_cons_succ])
      (refine takeE Ext.tr 23 (by simp only [List.getElem?_toArray, List.getElem?_cons_succ, List.getElem?_cons_zero]; rfl) (by kernel_rfl) (by kernel_rfl) (by kernel_rfl) (by exact fun _ _ _ h => h) (by first | (refine Or.inl ⟨by rfl, ?_⟩; intro W hW; go_simp; try with_reducible rfl) | exact Or.inr ⟨by rfl, rfl⟩) ?_; try simp only [Act.put, List.setIfInBounds_toArray, List.set_cons_zero, List.set_cons_succ])
      refine wpAnyE_one (i := 25) (by kernel_rfl) (by simp only [List.getElem?_toArray, List.getElem?_cons_succ, List.getElem?_cons_zero]; rfl) (fun K hK => ?_)
      go_simp
      refine (l_of k _).mono ?_
      rintro en v5 ⟨rfl, hE2⟩
      have hE3 := hE2
      clear q1 q2 q3 q4 q5 q6
      replace hE := below_on hE hE2
      have q1 : ∀ V, Ext v5 V → V.cell? ⟨gl, k', none⟩ = some (.pointer P) := fun V hV => ((HB7.out.trans ((hbd.trans ((below_on hE hV).mono hbd.size)).mono HB7.out.size)).cell (p := ⟨gl, k', none⟩) hgl3).trans hcell3
      have q2 : ∀ V, Ext v5 V → V.cell? ⟨w.heap.size, 0, none⟩ = some (.int .i64 k.s) := fun V hV => (HKd.out.below (below_on hE hV)).cell 0 rfl
      have q3 : ∀ V, Ext v5 V → V.cell? ⟨w.heap.size, 1, none⟩ = some (.int .i64 k.c) := fun V hV => (HKd.out.below (below_on hE hV)).cell 1 rfl
      have q4 : ∀ V, Ext v5 V → V.cell? ⟨gt, 0, none⟩ = some (.int .i64 0) := fun V hV => (HTd.out.below (below_on hE hV)).cell 0 rfl
      have q5 : ∀ V, Ext v5 V → V.cell? ⟨gt, 1, none⟩ = some (.int .i64 0) := fun V hV => (HTd.out.below (below_on hE hV)).cell 1 rfl
      have q6 : ∀ V, Ext v5 V → V.cell? ⟨gt, 2, none⟩ = some (.int .i64 0) := fun V hV => (HTd.out.below (below_on hE hV)).cell 2 rfl
      clear hE2
      replace HBD := Lib.hid (hbd.trans (hE.mono hbd.size))
      refine hK.out _ _ hE3 ?_
      clear hK K
      try simp only [Act.put, List.setIfInBounds_toArray, List.set_cons_zero, List.set_cons_succ]
      refine wpAnyE_one (i := 27) (by kernel_rfl) (by simp only [List.getElem?_toArray, List.getElem?_cons_succ, List.getElem?_cons_zero]; rfl) (fun K hK => ?_)
      go_simp
      refine (no_Owe (HNd.out.below hE) k n).mono ?_
      rintro en v6 ⟨rfl, hE2⟩
      have hE3 := hE2
      clear q1 q2 q3 q4 q5 q6
      replace hE := below_on hE hE2
      have q1 : ∀ V, Ext v6 V → V.cell? ⟨gl, k', none⟩ = some (.pointer P) := fun V hV => ((HB7.out.trans ((hbd.trans ((below_on hE hV).mono hbd.size)).mono HB7.out.size)).cell (p := ⟨gl, k', none⟩) hgl3).trans hcell3
      have q2 : ∀ V, Ext v6 V → V.cell? ⟨w.heap.size, 0, none⟩ = some (.int .i64 k.s) := fun V hV => (HKd.out.below (below_on hE hV)).cell 0 rfl
      have q3 : ∀ V, Ext v6 V → V.cell? ⟨w.heap.size, 1, none⟩ = some (.int .i64 k.c) := fun V hV => (HKd.out.below (below_on hE hV)).cell 1 rfl
      have q4 : ∀ V, Ext v6 V → V.cell? ⟨gt, 0, none⟩ = some (.int .i64 0) := fun V hV => (HTd.out.below (below_on hE hV)).cell 0 rfl
      have q5 : ∀ V, Ext v6 V → V.cell? ⟨gt, 1, none⟩ = some (.int .i64 0) := fun V hV => (HTd.out.below (below_on hE hV)).cell 1 rfl
      have q6 : ∀ V, Ext v6 V → V.cell? ⟨gt, 2, none⟩ = some (.int .i64 0) := fun V hV => (HTd.out.below (below_on hE hV)).cell 2 rfl
      clear hE2
      replace HBD := Lib.hid (hbd.trans (hE.mono hbd.size))
      refine hK.out _ _ hE3 ?_
      clear hK K
      try simp only [Act.put, List.setIfInBounds_toArray, List.set_cons_zero, List.set_cons_succ]
      (refine takeE Ext.tr 28 (by simp only [List.getElem?_toArray, List.getElem?_cons_succ, List.getElem?_cons_zero]; rfl) (by kernel_rfl) (by kernel_rfl) (by kernel_rfl) (by exact fun _ _ _ h => h) (by first | (refine Or.inl ⟨by rfl, ?_⟩; intro W hW; go_simp; try with_reducible rfl) | exact Or.inr ⟨by rfl, rfl⟩) ?_; try simp only [Act.put, List.setIfInBounds_toArray, List.set_cons_zero, List.set_cons_succ])
      (refine takeE Ext.tr 29 (by simp only [List.getElem?_toArray, List.getElem?_cons_succ, List.getElem?_cons_zero]; rfl) (by kernel_rfl) (by kernel_rfl) (by kernel_rfl) (by exact fun _ _ _ h => h) (by first | (refine Or.inl ⟨by rfl, ?_⟩; intro W hW; go_simp; try with_reducible rfl) | exact Or.inr ⟨by rfl, rfl⟩) ?_; try simp only [Act.put, List.setIfInBounds_toArray, List.set_cons_zero, List.set_cons_succ])
      (refine takeE Ext.tr 30 (by simp only [List.getElem?_toArray, List.getElem?_cons_succ, List.getElem?_cons_zero]; rfl) (by kernel_rfl) (by kernel_rfl) (by kernel_rfl) (by exact fun _ _ _ h => h) (by first | (refine Or.inl ⟨by rfl, ?_⟩; intro W hW; go_simp; try with_reducible rfl) | exact Or.inr ⟨by rfl, rfl⟩) ?_; try simp only [Act.put, List.setIfInBounds_toArray, List.set_cons_zero, List.set_cons_succ])
      (refine takeE Ext.tr 31 (by simp only [List.getElem?_toArray, List.getElem?_cons_succ, List.getElem?_cons_zero]; rfl) (by kernel_rfl) (by kernel_rfl) (by kernel_rfl) (by exact fun _ _ _ h => h) (by first | (refine Or.inl ⟨by rfl, ?_⟩; intro W hW; go_simp; try with_reducible rfl) | exact Or.inr ⟨by rfl, rfl⟩) ?_; try simp only [Act.put, List.setIfInBounds_toArray, List.set_cons_zero, List.set_cons_succ])
      (refine takeE Ext.tr 32 (by simp only [List.getElem?_toArray, List.getElem?_cons_succ, List.getElem?_cons_zero]; rfl) (by kernel_rfl) (by kernel_rfl) (by kernel_rfl) (by exact fun _ _ _ h => h) (by first | (refine Or.inl ⟨by rfl, ?_⟩; intro W hW; go_simp; try with_reducible rfl) | exact Or.inr ⟨by rfl, rfl⟩) ?_; try simp only [Act.put, List.setIfInBounds_toArray, List.set_cons_zero, List.set_cons_succ])
      (refine takeE Ext.tr 33 (by simp only [List.getElem?_toArray, List.getElem?_cons_succ, List.getElem?_cons_zero]; rfl) (by kernel_rfl) (by kernel_rfl) (by kernel_rfl) (by exact fun _ _ _ h => h) (by first | (refine Or.inl ⟨by rfl, ?_⟩; intro W hW; go_simp; try with_reducible rfl) | exact Or.inr ⟨by rfl, rfl⟩) ?_; try simp only [Act.put, List.setIfInBounds_toArray, List.set_cons_zero, List.set_cons_succ])
      (refine takeE Ext.tr 36 (by simp only [List.getElem?_toArray, List.getElem?_cons_succ, List.getElem?_cons_zero]; rfl) (by kernel_rfl) (by kernel_rfl) (by kernel_rfl) (by exact fun _ _ _ h => h) (by first | (refine Or.inl ⟨by rfl, ?_⟩; intro W hW; go_simp; try with_reducible rfl) | exact Or.inr ⟨by rfl, rfl⟩) ?_; try simp only [Act.put, List.setIfInBounds_toArray, List.set_cons_zero, List.set_cons_succ])
      (refine takeE Ext.tr 40 (by simp only [List.getElem?_toArray, List.getElem?_cons_succ, List.getElem?_cons_zero]; rfl) (by kernel_rfl) (by kernel_rfl) (by kernel_rfl) (by exact fun _ _ _ h => h) (by first | (refine Or.inl ⟨by rfl, ?_⟩; intro W hW; go_simp; try with_reducible rfl) | exact Or.inr ⟨by rfl, rfl⟩) ?_; try simp only [Act.put, List.setIfInBounds_toArray, List.set_cons_zero, List.set_cons_succ])
      (refine takeE Ext.tr 41 (by simp only [List.getElem?_toArray, List.getElem?_cons_succ, List.getElem?_cons_zero]; rfl) (by kernel_rfl) (by kernel_rfl) (by kernel_rfl) (by exact fun _ _ _ h => h) (by first | (refine Or.inl ⟨by rfl, ?_⟩; intro W hW; go_simp; try with_reducible rfl) | exact Or.inr ⟨by rfl, rfl⟩) ?_; try simp only [Act.put, List.setIfInBounds_toArray, List.set_cons_zero, List.set_cons_succ])
      (refine takeE Ext.tr 44 (by simp only [List.getElem?_toArray, List.getElem?_cons_succ, List.getElem?_cons_zero]; rfl) (by kernel_rfl) (by kernel_rfl) (by kernel_rfl) (by exact fun _ _ _ h => h) (by first | (refine Or.inl ⟨by rfl, ?_⟩; intro W hW; go_simp; try with_reducible rfl) | exact Or.inr ⟨by rfl, rfl⟩) ?_; try simp only [Act.put, List.setIfInBounds_toArray, List.set_cons_zero, List.set_cons_succ])
      (refine takeE Ext.tr 48 (by simp only [List.getElem?_toArray, List.getElem?_cons_succ, List.getElem?_cons_zero]; rfl) (by kernel_rfl) (by kernel_rfl) (by kernel_rfl) (by exact fun _ _ _ h => h) (by first | (refine Or.inl ⟨by rfl, ?_⟩; intro W hW; go_simp; try with_reducible rfl) | exact Or.inr ⟨by rfl, rfl⟩) ?_; try simp only [Act.put, List.setIfInBounds_toArray, List.set_cons_zero, List.set_cons_succ])
      (refine takeE Ext.tr 49 (by simp only [List.getElem?_toArray, List.getElem?_cons_succ, List.getElem?_cons_zero]; rfl) (by kernel_rfl) (by kernel_rfl) (by kernel_rfl) (by exact fun _ _ _ h => h) (by first | (refine Or.inl ⟨by rfl, ?_⟩; intro W hW; go_simp; try with_reducible rfl) | exact Or.inr ⟨by rfl, rfl⟩) ?_; try simp only [Act.put, List.setIfInBounds_toArray, List.set_cons_zero, List.set_cons_succ])
      (refine takeE Ext.tr 54 (by simp only [List.getElem?_toArray, List.getElem?_cons_succ, List.getElem?_cons_zero]; rfl) (by kernel_rfl) (by kernel_rfl) (by kernel_rfl) (by exact fun _ _ _ h => h) (by first | (refine Or.inl ⟨by rfl, ?_⟩; intro W hW; go_simp; try with_reducible rfl) | exact Or.inr ⟨by rfl, rfl⟩) ?_; try simp only [Act.put, List.setIfInBounds_toArray, List.set_cons_zero, List.set_cons_succ])
      (refine takeE Ext.tr 55 (by simp only [List.getElem?_toArray, List.getElem?_cons_succ, List.getElem?_cons_zero]; rfl) (by kernel_rfl) (by kernel_rfl) (by kernel_rfl) (by exact fun _ _ _ h => h) (by first | (refine Or.inl ⟨by rfl, ?_⟩; intro W hW; go_simp; try with_reducible rfl) | exact Or.inr ⟨by rfl, rfl⟩) ?_; try simp only [Act.put, List.setIfInBounds_toArray, List.set_cons_zero, List.set_cons_succ])
      (refine takeE Ext.tr 60 (by simp only [List.getElem?_toArray, List.getElem?_cons_succ, List.getElem?_cons_zero]; rfl) (by kernel_rfl) (by kernel_rfl) (by kernel_rfl) (by exact fun _ _ _ h => h) (by first | (refine Or.inl ⟨by rfl, ?_⟩; intro W hW; go_simp; try with_reducible rfl) | exact Or.inr ⟨by rfl, rfl⟩) ?_; try simp only [Act.put, List.setIfInBounds_toArray, List.set_cons_zero, List.set_cons_succ])
      (refine takeE Ext.tr 61 (by simp only [List.getElem?_toArray, List.getElem?_cons_succ, List.getElem?_cons_zero]; rfl) (by kernel_rfl) (by kernel_rfl) (by kernel_rfl) (by exact fun _ _ _ h => h) (by first | (refine Or.inl ⟨by rfl, ?_⟩; intro W hW; go_simp; try with_reducible rfl) | exact Or.inr ⟨by rfl, rfl⟩) ?_; try simp only [Act.put, List.setIfInBounds_toArray, List.set_cons_zero, List.set_cons_succ])
      (refine takeE Ext.tr 34 (by simp only [List.getElem?_toArray, List.getElem?_cons_succ, List.getElem?_cons_zero]; rfl) (by kernel_rfl) (by kernel_rfl) (by kernel_rfl) (by exact fun _ _ _ h => h) (by first | (refine Or.inl ⟨by rfl, ?_⟩; intro W hW; go_simp; try with_reducible rfl) | exact Or.inr ⟨by rfl, rfl⟩) ?_; try simp only [Act.put, List.setIfInBounds_toArray, List.set_cons_zero, List.set_cons_succ])
      (refine takeE Ext.tr 42 (by simp only [List.getElem?_toArray, List.getElem?_cons_succ, List.getElem?_cons_zero]; rfl) (by kernel_rfl) (by kernel_rfl) (by kernel_rfl) (by exact fun _ _ _ h => h) (by first | (refine Or.inl ⟨by rfl, ?_⟩; intro W hW; go_simp; try with_reducible rfl) | exact Or.inr ⟨by rfl, rfl⟩) ?_; try simp only [Act.put, List.setIfInBounds_toArray, List.set_cons_zero, List.set_cons_succ])
      (refine takeE Ext.tr 50 (by simp only [List.getElem?_toArray, List.getElem?_cons_succ, List.getElem?_cons_zero]; rfl) (by kernel_rfl) (by kernel_rfl) (by kernel_rfl) (by exact fun _ _ _ h => h) (by first | (refine Or.inl ⟨by rfl, ?_⟩; intro W hW; go_simp; try with_reducible rfl) | exact Or.inr ⟨by rfl, rfl⟩) ?_; try simp only [Act.put, List.setIfInBounds_toArray, List.set_cons_zero, List.set_cons_succ])
      (refine takeE Ext.tr 56 (by simp only [List.getElem?_toArray, List.getElem?_cons_succ, List.getElem?_cons_zero]; rfl) (by kernel_rfl) (by kernel_rfl) (by kernel_rfl) (by exact fun _ _ _ h => h) (by first | (refine Or.inl ⟨by rfl, ?_⟩; intro W hW; go_simp; try with_reducible rfl) | exact Or.inr ⟨by rfl, rfl⟩) ?_; try simp only [Act.put, List.setIfInBounds_toArray, List.set_cons_zero, List.set_cons_succ])
      (refine takeE Ext.tr 62 (by simp only [List.getElem?_toArray, List.getElem?_cons_succ, List.getElem?_cons_zero]; rfl) (by kernel_rfl) (by kernel_rfl) (by kernel_rfl) (by exact fun _ _ _ h => h) (by first | (refine Or.inl ⟨by rfl, ?_⟩; intro W hW; go_simp; try with_reducible rfl) | exact Or.inr ⟨by rfl, rfl⟩) ?_; try simp only [Act.put, List.setIfInBounds_toArray, List.set_cons_zero, List.set_cons_succ])
      (refine takeE Ext.tr 35 (by simp only [List.getElem?_toArray, List.getElem?_cons_succ, List.getElem?_cons_zero]; rfl) (by kernel_rfl) (by kernel_rfl) (by kernel_rfl) (by exact fun _ _ _ h => h) (by first | (refine Or.inl ⟨by rfl, ?_⟩; intro W hW; go_simp; try with_reducible rfl) | exact Or.inr ⟨by rfl, rfl⟩) ?_; try simp only [Act.put, List.setIfInBounds_toArray, List.set_cons_zero, List.set_cons_succ])
      (refine takeE Ext.tr 43 (by simp only [List.getElem?_toArray, List.getElem?_cons_succ, List.getElem?_cons_zero]; rfl) (by kernel_rfl) (by kernel_rfl) (by kernel_rfl) (by exact fun _ _ _ h => h) (by first | (refine Or.inl ⟨by rfl, ?_⟩; intro W hW; go_simp; try with_reducible rfl) | exact Or.inr ⟨by rfl, rfl⟩) ?_; try simp only [Act.put, List.setIfInBounds_toArray, List.set_cons_zero, List.set_cons_succ])
      (refine takeE Ext.tr 51 (by simp only [List.getElem?_toArray, List.getElem?_cons_succ, List.getElem?_cons_zero]; rfl) (by kernel_rfl) (by kernel_rfl) (by kernel_rfl) (by exact fun _ _ _ h => h) (by first | (refine Or.inl ⟨by rfl, ?_⟩; intro W hW; go_simp; try with_reducible rfl) | exact Or.inr ⟨by rfl, rfl⟩) ?_; try simp only [Act.put, List.setIfInBounds_toArray, List.set_cons_zero, List.set_cons_succ])
      (refine takeE Ext.tr 57 (by simp only [List.getElem?_toArray, List.getElem?_cons_succ, List.getElem?_cons_zero]; rfl) (by kernel_rfl) (by kernel_rfl) (by kernel_rfl) (by exact fun _ _ _ h => h) (by first | (refine Or.inl ⟨by rfl, ?_⟩; intro W hW; go_simp; try with_reducible rfl) | exact Or.inr ⟨by rfl, rfl⟩) ?_; try simp only [Act.put, List.setIfInBounds_toArray, List.set_cons_zero, List.set_cons_succ])
      (refine takeE Ext.tr 63 (by simp only [List.getElem?_toArray, List.getElem?_cons_succ, List.getElem?_cons_zero]; rfl) (by kernel_rfl) (by kernel_rfl) (by kernel_rfl) (by exact fun _ _ _ h => h) (by first | (refine Or.inl ⟨by rfl, ?_⟩; intro W hW; go_simp; try with_reducible rfl) | exact Or.inr ⟨by rfl, rfl⟩) ?_; try simp only [Act.put, List.setIfInBounds_toArray, List.set_cons_zero, List.set_cons_succ])
      refine wpAnyE_one (i := 37) (by kernel_rfl) (by simp only [List.getElem?_toArray, List.getElem?_cons_succ, List.getElem?_cons_zero]; rfl) (fun K hK => ?_)
      go_simp
      refine (l_of k _).mono ?_
      rintro en v7 ⟨rfl, hE2⟩
      have hE3 := hE2
      clear q1 q2 q3 q4 q5 q6
      replace hE := below_on hE hE2
      have q1 : ∀ V, Ext v7 V → V.cell? ⟨gl, k', none⟩ = some (.pointer P) := fun V hV => ((HB7.out.trans ((hbd.trans ((below_on hE hV).mono hbd.size)).mono HB7.out.size)).cell (p := ⟨gl, k', none⟩) hgl3).trans hcell3
      have q2 : ∀ V, Ext v7 V → V.cell? ⟨w.heap.size, 0, none⟩ = some (.int .i64 k.s) := fun V hV => (HKd.out.below (below_on hE hV)).cell 0 rfl
      have q3 : ∀ V, Ext v7 V → V.cell? ⟨w.heap.size, 1, none⟩ = some (.int .i64 k.c) := fun V hV => (HKd.out.below (below_on hE hV)).cell 1 rfl
      have q4 : ∀ V, Ext v7 V → V.cell? ⟨gt, 0, none⟩ = some (.int .i64 0) := fun V hV => (HTd.out.below (below_on hE hV)).cell 0 rfl
      have q5 : ∀ V, Ext v7 V → V.cell? ⟨gt, 1, none⟩ = some (.int .i64 0) := fun V hV => (HTd.out.below (below_on hE hV)).cell 1 rfl
      have q6 : ∀ V, Ext v7 V → V.cell? ⟨gt, 2, none⟩ = some (.int .i64 0) := fun V hV => (HTd.out.below (below_on hE hV)).cell 2 rfl
      clear hE2
      replace HBD := Lib.hid (hbd.trans (hE.mono hbd.size))
      refine hK.out _ _ hE3 ?_
      clear hK K
      try simp only [Act.put, List.setIfInBounds_toArray, List.set_cons_zero, List.set_cons_succ]
      refine wpAnyE_one (i := 38) (by kernel_rfl) (by simp only [List.getElem?_toArray, List.getElem?_cons_succ, List.getElem?_cons_zero]; rfl) (fun K hK => ?_)
      go_simp
      refine (no_Pending (HNd.out.below hE) k).mono ?_
      rintro en v8 ⟨rfl, hE2⟩
      have hE3 := hE2
      clear q1 q2 q3 q4 q5 q6
      replace hE := below_on hE hE2
      have q1 : ∀ V, Ext v8 V → V.cell? ⟨gl, k', none⟩ = some (.pointer P) := fun V hV => ((HB7.out.trans ((hbd.trans ((below_on hE hV).mono hbd.size)).mono HB7.out.size)).cell (p := ⟨gl, k', none⟩) hgl3).trans hcell3
      have q2 : ∀ V, Ext v8 V → V.cell? ⟨w.heap.size, 0, none⟩ = some (.int .i64 k.s) := fun V hV => (HKd.out.below (below_on hE hV)).cell 0 rfl
      have q3 : ∀ V, Ext v8 V → V.cell? ⟨w.heap.size, 1, none⟩ = some (.int .i64 k.c) := fun V hV => (HKd.out.below (below_on hE hV)).cell 1 rfl
      have q4 : ∀ V, Ext v8 V → V.cell? ⟨gt, 0, none⟩ = some (.int .i64 0) := fun V hV => (HTd.out.below (below_on hE hV)).cell 0 rfl
      have q5 : ∀ V, Ext v8 V → V.cell? ⟨gt, 1, none⟩ = some (.int .i64 0) := fun V hV => (HTd.out.below (below_on hE hV)).cell 1 rfl
      have q6 : ∀ V, Ext v8 V → V.cell? ⟨gt, 2, none⟩ = some (.int .i64 0) := fun V hV => (HTd.out.below (below_on hE hV)).cell 2 rfl
      clear hE2
      replace HBD := Lib.hid (hbd.trans (hE.mono hbd.size))
      refine hK.out _ _ hE3 ?_
      clear hK K
      try simp only [Act.put, List.setIfInBounds_toArray, List.set_cons_zero, List.set_cons_succ]
      (refine takeE Ext.tr 39 (by simp only [List.getElem?_toArray, List.getElem?_cons_succ, List.getElem?_cons_zero]; rfl) (by kernel_rfl) (by kernel_rfl) (by kernel_rfl) (by exact fun _ _ _ h => h) (by first | (refine Or.inl ⟨by rfl, ?_⟩; intro W hW; go_simp; try with_reducible rfl) | exact Or.inr ⟨by rfl, rfl⟩) ?_; try simp only [Act.put, List.setIfInBounds_toArray, List.set_cons_zero, List.set_cons_succ])
      refine wpAnyE_one (i := 45) (by kernel_rfl) (by simp only [List.getElem?_toArray, List.getElem?_cons_succ, List.getElem?_cons_zero]; rfl) (fun K hK => ?_)
      go_simp
      refine (l_of k _).mono ?_
      rintro en v9 ⟨rfl, hE2⟩
      have hE3 := hE2
      clear q1 q2 q3 q4 q5 q6
      replace hE := below_on hE hE2
      have q1 : ∀ V, Ext v9 V → V.cell? ⟨gl, k', none⟩ = some (.pointer P) := fun V hV => ((HB7.out.trans ((hbd.trans ((below_on hE hV).mono hbd.size)).mono HB7.out.size)).cell (p := ⟨gl, k', none⟩) hgl3).trans hcell3
      have q2 : ∀ V, Ext v9 V → V.cell? ⟨w.heap.size, 0, none⟩ = some (.int .i64 k.s) := fun V hV => (HKd.out.below (below_on hE hV)).cell 0 rfl
      have q3 : ∀ V, Ext v9 V → V.cell? ⟨w.heap.size, 1, none⟩ = some (.int .i64 k.c) := fun V hV => (HKd.out.below (below_on hE hV)).cell 1 rfl
      have q4 : ∀ V, Ext v9 V → V.cell? ⟨gt, 0, none⟩ = some (.int .i64 0) := fun V hV => (HTd.out.below (below_on hE hV)).cell 0 rfl
      have q5 : ∀ V, Ext v9 V → V.cell? ⟨gt, 1, none⟩ = some (.int .i64 0) := fun V hV => (HTd.out.below (below_on hE hV)).cell 1 rfl
      have q6 : ∀ V, Ext v9 V → V.cell? ⟨gt, 2, none⟩ = some (.int .i64 0) := fun V hV => (HTd.out.below (below_on hE hV)).cell 2 rfl
      clear hE2
      replace HBD := Lib.hid (hbd.trans (hE.mono hbd.size))
      refine hK.out _ _ hE3 ?_
      clear hK K
      try simp only [Act.put, List.setIfInBounds_toArray, List.set_cons_zero, List.set_cons_succ]
      refine wpAnyE_one (i := 46) (by kernel_rfl) (by simp only [List.getElem?_toArray, List.getElem?_cons_succ, List.getElem?_cons_zero]; rfl) (fun K hK => ?_)
      go_simp
      refine (no_Issued (HNd.out.below hE) k).mono ?_
      rintro en v10 ⟨rfl, hE2⟩
      have hE3 := hE2
      clear q1 q2 q3 q4 q5 q6
      replace hE := below_on hE hE2
      have q1 : ∀ V, Ext v10 V → V.cell? ⟨gl, k', none⟩ = some (.pointer P) := fun V hV => ((HB7.out.trans ((hbd.trans ((below_on hE hV).mono hbd.size)).mono HB7.out.size)).cell (p := ⟨gl, k', none⟩) hgl3).trans hcell3
      have q2 : ∀ V, Ext v10 V → V.cell? ⟨w.heap.size, 0, none⟩ = some (.int .i64 k.s) := fun V hV => (HKd.out.below (below_on hE hV)).cell 0 rfl
      have q3 : ∀ V, Ext v10 V → V.cell? ⟨w.heap.size, 1, none⟩ = some (.int .i64 k.c) := fun V hV => (HKd.out.below (below_on hE hV)).cell 1 rfl
      have q4 : ∀ V, Ext v10 V → V.cell? ⟨gt, 0, none⟩ = some (.int .i64 0) := fun V hV => (HTd.out.below (below_on hE hV)).cell 0 rfl
      have q5 : ∀ V, Ext v10 V → V.cell? ⟨gt, 1, none⟩ = some (.int .i64 0) := fun V hV => (HTd.out.below (below_on hE hV)).cell 1 rfl
      have q6 : ∀ V, Ext v10 V → V.cell? ⟨gt, 2, none⟩ = some (.int .i64 0) := fun V hV => (HTd.out.below (below_on hE hV)).cell 2 rfl
      clear hE2
      replace HBD := Lib.hid (hbd.trans (hE.mono hbd.size))
      refine hK.out _ _ hE3 ?_
      clear hK K
      try simp only [Act.put, List.setIfInBounds_toArray, List.set_cons_zero, List.set_cons_succ]
      (refine takeE Ext.tr 47 (by simp only [List.getElem?_toArray, List.getElem?_cons_succ, List.getElem?_cons_zero]; rfl) (by kernel_rfl) (by kernel_rfl) (by kernel_rfl) (by exact fun _ _ _ h => h) (by first | (refine Or.inl ⟨by rfl, ?_⟩; intro W hW; go_simp; try with_reducible rfl) | exact Or.inr ⟨by rfl, rfl⟩) ?_; try simp only [Act.put, List.setIfInBounds_toArray, List.set_cons_zero, List.set_cons_succ])
      refine wpAnyE_one (i := 52) (by kernel_rfl) (by simp only [List.getElem?_toArray, List.getElem?_cons_succ, List.getElem?_cons_zero]; rfl) (fun K hK => ?_)
      go_simp
      refine (no_Total (HNd.out.below hE)).mono ?_
      rintro en v1 ⟨rfl, rfl⟩
      refine hK.out _ _ (Ext.refl _) ?_
      clear hK K
      try simp only [Act.put, List.setIfInBounds_toArray, List.set_cons_zero, List.set_cons_succ]
      (refine takeE Ext.tr 53 (by simp only [List.getElem?_toArray, List.getElem?_cons_succ, List.getElem?_cons_zero]; rfl) (by kernel_rfl) (by kernel_rfl) (by kernel_rfl) (by exact fun _ _ _ h => h) (by first | (refine Or.inl ⟨by rfl, ?_⟩; intro W hW; go_simp; try with_reducible rfl) | exact Or.inr ⟨by rfl, rfl⟩) ?_; try simp only [Act.put, List.setIfInBounds_toArray, List.set_cons_zero, List.set_cons_succ])
      refine wpAnyE_one (i := 58) (by kernel_rfl) (by simp only [List.getElem?_toArray, List.getElem?_cons_succ, List.getElem?_cons_zero]; rfl) (fun K hK => ?_)
      go_simp
      refine (no_Len (HNd.out.below hE)).mono ?_
      rintro en v1 ⟨rfl, rfl⟩
      refine hK.out _ _ (Ext.refl _) ?_
      clear hK K
      try simp only [Act.put, List.setIfInBounds_toArray, List.set_cons_zero, List.set_cons_succ]
      (refine takeE Ext.tr 59 (by simp only [List.getElem?_toArray, List.getElem?_cons_succ, List.getElem?_cons_zero]; rfl) (by kernel_rfl) (by kernel_rfl) (by kernel_rfl) (by exact fun _ _ _ h => h) (by first | (refine Or.inl ⟨by rfl, ?_⟩; intro W hW; go_simp; try with_reducible rfl) | exact Or.inr ⟨by rfl, rfl⟩) ?_; try simp only [Act.put, List.setIfInBounds_toArray, List.set_cons_zero, List.set_cons_succ])
      refine wpAnyE_one (i := 64) (by kernel_rfl) (by simp only [List.getElem?_toArray, List.getElem?_cons_succ, List.getElem?_cons_zero]; rfl) (fun K hK => ?_)
      go_simp
      refine (no_Queue (HNd.out.below hE) 0).mono ?_
      rintro en v1 ⟨rfl, rfl⟩
      refine hK.out _ _ (Ext.refl _) ?_
      clear hK K
      try simp only [Act.put, List.setIfInBounds_toArray, List.set_cons_zero, List.set_cons_succ]
      (refine takeE Ext.tr 65 (by simp only [List.getElem?_toArray, List.getElem?_cons_succ, List.getElem?_cons_zero]; rfl) (by kernel_rfl) (by kernel_rfl) (by kernel_rfl) (by exact fun _ _ _ h => h) (by first | (refine Or.inl ⟨by rfl, ?_⟩; intro W hW; go_simp; try with_reducible rfl) | exact Or.inr ⟨by rfl, rfl⟩) ?_; try simp only [Act.put, List.setIfInBounds_toArray, List.set_cons_zero, List.set_cons_succ])
      (refine takeE Ext.tr 66 (by simp only [List.getElem?_toArray, List.getElem?_cons_succ, List.getElem?_cons_zero]; rfl) (by kernel_rfl) (by kernel_rfl) (by kernel_rfl) (by exact fun _ _ _ h => h) (by first | (refine Or.inl ⟨by rfl, ?_⟩; intro W hW; go_simp; try with_reducible rfl) | exact Or.inr ⟨by rfl, rfl⟩) ?_; try simp only [Act.put, List.setIfInBounds_toArray, List.set_cons_zero, List.set_cons_succ])
      (refine takeE Ext.tr 67 (by simp only [List.getElem?_toArray, List.getElem?_cons_succ, List.getElem?_cons_zero]; rfl) (by kernel_rfl) (by kernel_rfl) (by kernel_rfl) (by exact fun _ _ _ h => h) (by first | (refine Or.inl ⟨by rfl, ?_⟩; intro W hW; go_simp; try with_reducible rfl) | exact Or.inr ⟨by rfl, rfl⟩) ?_; try simp only [Act.put, List.setIfInBounds_toArray, List.set_cons_zero, List.set_cons_succ])
      (refine takeE Ext.tr 68 (by simp only [List.getElem?_toArray, List.getElem?_cons_succ, List.getElem?_cons_zero]; rfl) (by kernel_rfl) (by kernel_rfl) (by kernel_rfl) (by exact fun _ _ _ h => h) (by first | (refine Or.inl ⟨by rfl, ?_⟩; intro W hW; go_simp; try with_reducible rfl) | exact Or.inr ⟨by rfl, rfl⟩) ?_; try simp only [Act.put, List.setIfInBounds_toArray, List.set_cons_zero, List.set_cons_succ])
      (refine takeE Ext.tr 69 (by simp only [List.getElem?_toArray, List.getElem?_cons_succ, List.getElem?_cons_zero]; rfl) (by kernel_rfl) (by kernel_rfl) (by kernel_rfl) (by exact fun _ _ _ h => h) (by first | (refine Or.inl ⟨by rfl, ?_⟩; intro W hW; go_simp; try with_reducible rfl) | exact Or.inr ⟨by rfl, rfl⟩) ?_; try simp only [Act.put, List.setIfInBounds_toArray, List.set_cons_zero, List.set_cons_succ])
      (refine takeE Ext.tr 70 (by simp only [List.getElem?_toArray, List.getElem?_cons_succ, List.getElem?_cons_zero]; rfl) (by kernel_rfl) (by kernel_rfl) (by kernel_rfl) (by exact fun _ _ _ h => h) (by first | (refine Or.inl ⟨by rfl, ?_⟩; intro W hW; go_simp; try with_reducible rfl) | exact Or.inr ⟨by rfl, rfl⟩) ?_; try simp only [Act.put, List.setIfInBounds_toArray, List.set_cons_zero, List.set_cons_succ])
      (refine takeE Ext.tr 71 (by simp only [List.getElem?_toArray, List.getElem?_cons_succ, List.getElem?_cons_zero]; rfl) (by kernel_rfl) (by kernel_rfl) (by kernel_rfl) (by exact fun _ _ _ h => h) (by first | (refine Or.inl ⟨by rfl, ?_⟩; intro W hW; go_simp; try with_reducible rfl) | exact Or.inr ⟨by rfl, rfl⟩) ?_; try simp only [Act.put, List.setIfInBounds_toArray, List.set_cons_zero, List.set_cons_succ])
      (refine takeE Ext.tr 72 (by simp only [List.getElem?_toArray, List.getElem?_cons_succ, List.getElem?_cons_zero]; rfl) (by kernel_rfl) (by kernel_rfl) (by kernel_rfl) (by exact fun _ _ _ h => h) (by first | (refine Or.inl ⟨by rfl, ?_⟩; intro W hW; go_simp; try with_reducible rfl) | exact Or.inr ⟨by rfl, rfl⟩) ?_; try simp only [Act.put, List.setIfInBounds_toArray, List.set_cons_zero, List.set_cons_succ])
      (refine takeE Ext.tr 73 (by simp only [List.getElem?_toArray, List.getElem?_cons_succ, List.getElem?_cons_zero]; rfl) (by kernel_rfl) (by kernel_rfl) (by kernel_rfl) (by exact fun _ _ _ h => h) (by first | (refine Or.inl ⟨by rfl, ?_⟩; intro W hW; go_simp; try with_reducible rfl) | exact Or.inr ⟨by rfl, rfl⟩) ?_; try simp only [Act.put, List.setIfInBounds_toArray, List.set_cons_zero, List.set_cons_succ])
      refine wpAnyE_one (i := 74) (by kernel_rfl) (by simp only [List.getElem?_toArray, List.getElem?_cons_succ, List.getElem?_cons_zero]; rfl) (fun K hK => ?_)
      go_simp
      refine (no_Fork (HNd.out.below hE)).mono ?_
      rintro en v1 ⟨rfl, rfl⟩
      refine hK.out _ _ (Ext.refl _) ?_
      clear hK K
      try simp only [Act.put, List.setIfInBounds_toArray, List.set_cons_zero, List.set_cons_succ]
      (refine takeE Ext.tr 75 (by simp only [List.getElem?_toArray, List.getElem?_cons_succ, List.getElem?_cons_zero]; rfl) (by kernel_rfl) (by kernel_rfl) (by kernel_rfl) (by exact fun _ _ _ h => h) (by first | (refine Or.inl ⟨by rfl, ?_⟩; intro W hW; go_simp; try with_reducible rfl) | exact Or.inr ⟨by rfl, rfl⟩) ?_; try simp only [Act.put, List.setIfInBounds_toArray, List.set_cons_zero, List.set_cons_succ])
      (refine takeE Ext.tr 76 (by simp only [List.getElem?_toArray, List.getElem?_cons_succ, List.getElem?_cons_zero]; rfl) (by kernel_rfl) (by kernel_rfl) (by kernel_rfl) (by exact fun _ _ _ h => h) (by first | (refine Or.inl ⟨by rfl, ?_⟩; intro W hW; go_simp; try with_reducible rfl) | exact Or.inr ⟨by rfl, rfl⟩) ?_; try simp only [Act.put, List.setIfInBounds_toArray, List.set_cons_zero, List.set_cons_succ])
      refine wpAnyE_done (by kernel_rfl) ?_ _
      clear hcmp
      have HRd := Lib.hid (HB3.out.trans ((HB7.out.trans (HBD.out.mono HB7.out.size)).mono HB3.out.size))
      clear q1 q2 q3 q4 q5 q6
      go_wp2
      go_roundw
      case rel => exact ⟨k' + 1, by omega, by go_num, HR.out.1.below HRd.out, HR.out.2.below HRd.out⟩
      case measure => simp [intOf]; omega
    · obtain rfl : k' = 2 := by omega
      have HB := Lib.hid hr.2.1
      have HA := Lib.hid (l_awake wr)
      clear hr hlt
      go_wp2_with fail
      refine HA.out.mono ?_
      rintro e w' ⟨rfl, hb'⟩
      have HB' := Lib.hid hb'
      clear hb'
      go_wp2
      go_ret
      exact ⟨rfl, HB.out.trans (HB'.out.mono HB.out.size)⟩
end Go.Proofs.Ytdldocbfnjbhmaa
