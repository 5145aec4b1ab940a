/- A list stands as the document's. -/
import Derived.Test.YtiefgicapcljiaaQ15
set_option linter.unusedSimpArgs false
set_option linter.unusedVariables false
namespace Go.Proofs.Ytiefgicapcljiaa
open Go.RowKit Go.Shelf
theorem all_drop5 (s i : Int) (A : Option Addr) (n c : Nat) (B : Option Addr) (m d : Nat) (r : Int) (told : List Int) : ((cellsR s i A n c B m d r told).drop 5).take (intV told).length = intV told := List.take_of_length_le (Nat.le_refl _)
theorem arrTold : ArrE Try.prog 32 3 8 := ⟨rfl, ⟨_, rfl, rfl⟩, by kernel_rfl⟩
set_option maxRecDepth 100000 in
set_option maxHeartbeats 4000000 in
theorem same_law (F G : Nat → Prop) (w : World) (p : Nat) (L : PL) (v : Value) (b : Int) (h : Pm F w p L) (ho : L.ok b) (hv : RL G w L v) :
    Calls Try.prog 10 #[.pointer (some ⟨p, 0, none⟩), v] w fun e w' => e = .returned (.bool true) ∧ Below w.heap.size w w' := by
  obtain ⟨h1, A, n, c, B, m, d, rfl, hA, hB⟩ := hv
  have hn := hB.1
  rw [intV_len] at hn
  have hm0 : 0 < m := by
    have := ho.r1
    cases hL : L.rest with
    | nil => exact absurd hL this
    | cons x r => rw [hL] at hn; simp at hn; omega
  obtain ⟨g, o, rfl, hg, c0⟩ := hB.rdv.cell (i := 0) hm0
  have c0' : w.cell? ⟨g, o, none⟩ = some (.int .i64 L.top) := by
    have hc : w.cell? ⟨g, o, none⟩ = (intV L.rest)[0]? := c0
    rw [hc]
    unfold PL.top
    cases hL : L.rest with
    | nil => exact absurd hL ho.r1
    | cons x r => rfl
  have hk := Bk.new w 34 (cellsR L.s L.i A n c (some ⟨g, o, none⟩) m d L.rounds L.told)
  have HO := Lib.hid ho
  have HT : Hid ((intV L.told).length = 8) := Lib.hid (by rw [intV_len]; exact ho.t1)
  have hm0' : (0 : Int) < m := by omega
  clear c0 ho hn
  go_enter Try.func10, Try.ntmps10
  go_wp2_with fail
  refine wp_region_E Ext (by kernel_rfl) (fun wd hbd hsz => ?_)
  have hE0 : Ext (w.alloc (.cells (cellsR L.s L.i A n c (some ⟨g, o, none⟩) m d L.rounds L.told).toArray 34)) wd := hbd
  have HP := Lib.hid ((h.alloc (.cells (cellsR L.s L.i A n c (some ⟨g, o, none⟩) m d L.rounds L.told).toArray 34)).below hbd)
  have HK := Lib.hid (hk.below hbd)
  have HA := Lib.hid ((hA.alloc (.cells (cellsR L.s L.i A n c (some ⟨g, o, none⟩) m d L.rounds L.told).toArray 34)).below hbd)
  have HB := Lib.hid ((hB.alloc (.cells (cellsR L.s L.i A n c (some ⟨g, o, none⟩) m d L.rounds L.told).toArray 34)).below hbd)
  have HC0 : Hid (wd.cell? ⟨g, o, none⟩ = some (.int .i64 L.top)) := Lib.hid ((Below.cell (p := ⟨g, o, none⟩) (((Below.refl _ w).alloc (Nat.le_refl _) (.cells (cellsR L.s L.i A n c (some ⟨g, o, none⟩) m d L.rounds L.told).toArray 34)).trans (hbd.mono (by rw [World.size_alloc]; omega))) hg).trans c0')
  have HG : Hid (g < wd.heap.size) := Lib.hid (by have := hbd.size; rw [World.size_alloc] at this; omega)
  have q2 : ∀ W, Ext wd W → W.cell? ⟨w.heap.size, 2, none⟩ = some (.slice A n c) := fun W hW => (HK.out.below (Ext.trans _ _ _ (Ext.refl _) hW)).cell 2 rfl
  have q3 : ∀ W, Ext wd W → W.cell? ⟨w.heap.size, 3, none⟩ = some (.slice (some ⟨g, o, none⟩) m d) := fun W hW => (HK.out.below (Ext.trans _ _ _ (Ext.refl _) hW)).cell 3 rfl
  have q4 : ∀ W, Ext wd W → W.cell? ⟨w.heap.size, 4, none⟩ = some (.int .i64 L.rounds) := fun W hW => (HK.out.below (Ext.trans _ _ _ (Ext.refl _) hW)).cell 4 rfl
  have q0 : ∀ W, Ext wd W → W.cell? ⟨g, o, none⟩ = some (.int .i64 L.top) := fun W hW => (Below.cell (p := ⟨g, o, none⟩) (Ext.trans _ _ _ (Ext.refl _) hW) HG.out).trans HC0.out
  have HBD := Lib.hid (((Below.refl _ w).alloc (Nat.le_refl _) (.cells (cellsR L.s L.i A n c (some ⟨g, o, none⟩) m d L.rounds L.told).toArray 34)).trans (hbd.mono (by rw [World.size_alloc]; omega)))
  clear hsz h hk hA hB c0' hg hE0
  (refine takeE Ext.tr 0 (by simp only [List.getElem?_toArray, List.getElem?_cons_succ, List.getElem?_cons_zero]; rfl) (by kernel_rfl) (by kernel_rfl) (by kernel_rfl) (by exact fun _ _ _ h => h) (by first | (refine Or.inl ⟨by rfl, ?_⟩; intro W hW; go_simp; try with_reducible rfl) | exact Or.inr ⟨by rfl, rfl⟩) ?_; try simp only [Act.put, List.setIfInBounds_toArray, List.set_cons_zero, List.set_cons_succ])
  (refine takeE Ext.tr 2 (by simp only [List.getElem?_toArray, List.getElem?_cons_succ, List.getElem?_cons_zero]; rfl) (by kernel_rfl) (by kernel_rfl) (by kernel_rfl) (by exact fun _ _ _ h => h) (by first | (refine Or.inl ⟨by rfl, ?_⟩; intro W hW; go_simp; try with_reducible rfl) | exact Or.inr ⟨by rfl, rfl⟩) ?_; try simp only [Act.put, List.setIfInBounds_toArray, List.set_cons_zero, List.set_cons_succ])
  (refine takeE Ext.tr 3 (by simp only [List.getElem?_toArray, List.getElem?_cons_succ, List.getElem?_cons_zero]; rfl) (by kernel_rfl) (by kernel_rfl) (by kernel_rfl) (by exact fun _ _ _ h => h) (by first | (refine Or.inl ⟨by rfl, ?_⟩; intro W hW; go_simp; try with_reducible rfl) | exact Or.inr ⟨by rfl, rfl⟩) ?_; try simp only [Act.put, List.setIfInBounds_toArray, List.set_cons_zero, List.set_cons_succ])
  refine wpAnyE_one (i := 1) (by kernel_rfl) (by simp only [List.getElem?_toArray, List.getElem?_cons_succ, List.getElem?_cons_zero]; rfl) (fun K hK => ?_)
  go_simp
  refine (pm_left HP.out HO.out).mono ?_
  rintro e w1 ⟨A1, n1, c1, rfl, hl1, hb1⟩
  have hE1 : Ext wd w1 := hb1
  clear q2 q3 q4 q0
  have q2 : ∀ W, Ext w1 W → W.cell? ⟨w.heap.size, 2, none⟩ = some (.slice A n c) := fun W hW => (HK.out.below (Ext.trans _ _ _ hE1 hW)).cell 2 rfl
  have q3 : ∀ W, Ext w1 W → W.cell? ⟨w.heap.size, 3, none⟩ = some (.slice (some ⟨g, o, none⟩) m d) := fun W hW => (HK.out.below (Ext.trans _ _ _ hE1 hW)).cell 3 rfl
  have q4 : ∀ W, Ext w1 W → W.cell? ⟨w.heap.size, 4, none⟩ = some (.int .i64 L.rounds) := fun W hW => (HK.out.below (Ext.trans _ _ _ hE1 hW)).cell 4 rfl
  have q0 : ∀ W, Ext w1 W → W.cell? ⟨g, o, none⟩ = some (.int .i64 L.top) := fun W hW => (Below.cell (p := ⟨g, o, none⟩) (Ext.trans _ _ _ hE1 hW) HG.out).trans HC0.out
  refine hK.out _ _ hb1 ?_
  clear hK K
  try simp only [Act.put, List.setIfInBounds_toArray, List.set_cons_zero, List.set_cons_succ]
  refine wpAnyE_one (i := 4) (by kernel_rfl) (by simp only [List.getElem?_toArray, List.getElem?_cons_succ, List.getElem?_cons_zero]; rfl) (fun K hK => ?_)
  go_simp
  refine (same_any A1 (some ⟨g, o, none⟩) n1 c1 m d L.rest L.rest w1 hl1.rdv (HB.out.below hE1).rdv).mono ?_
  rintro e w2 ⟨rfl, hb2⟩
  rw [decide_eq_true (rfl : L.rest = L.rest)]
  have hE2 := Ext.trans _ _ _ hE1 hb2
  clear hl1
  clear q2 q3 q4 q0
  have q2 : ∀ W, Ext w2 W → W.cell? ⟨w.heap.size, 2, none⟩ = some (.slice A n c) := fun W hW => (HK.out.below (Ext.trans _ _ _ hE2 hW)).cell 2 rfl
  have q3 : ∀ W, Ext w2 W → W.cell? ⟨w.heap.size, 3, none⟩ = some (.slice (some ⟨g, o, none⟩) m d) := fun W hW => (HK.out.below (Ext.trans _ _ _ hE2 hW)).cell 3 rfl
  have q4 : ∀ W, Ext w2 W → W.cell? ⟨w.heap.size, 4, none⟩ = some (.int .i64 L.rounds) := fun W hW => (HK.out.below (Ext.trans _ _ _ hE2 hW)).cell 4 rfl
  have q0 : ∀ W, Ext w2 W → W.cell? ⟨g, o, none⟩ = some (.int .i64 L.top) := fun W hW => (Below.cell (p := ⟨g, o, none⟩) (Ext.trans _ _ _ hE2 hW) HG.out).trans HC0.out
  refine hK.out _ _ hb2 ?_
  clear hK K
  try simp only [Act.put, List.setIfInBounds_toArray, List.set_cons_zero, List.set_cons_succ]
  (refine takeE Ext.tr 5 (by simp only [List.getElem?_toArray, List.getElem?_cons_succ, List.getElem?_cons_zero]; rfl) (by kernel_rfl) (by kernel_rfl) (by kernel_rfl) (by exact fun _ _ _ h => h) (by first | (refine Or.inl ⟨by rfl, ?_⟩; intro W hW; go_simp; try with_reducible rfl) | exact Or.inr ⟨by rfl, rfl⟩) ?_; try simp only [Act.put, List.setIfInBounds_toArray, List.set_cons_zero, List.set_cons_succ])
  (refine takeE Ext.tr 6 (by simp only [List.getElem?_toArray, List.getElem?_cons_succ, List.getElem?_cons_zero]; rfl) (by kernel_rfl) (by kernel_rfl) (by kernel_rfl) (by exact fun _ _ _ h => h) (by first | (refine Or.inl ⟨by rfl, ?_⟩; intro W hW; go_simp; try with_reducible rfl) | exact Or.inr ⟨by rfl, rfl⟩) ?_; try simp only [Act.put, List.setIfInBounds_toArray, List.set_cons_zero, List.set_cons_succ])
  (refine takeE Ext.tr 8 (by simp only [List.getElem?_toArray, List.getElem?_cons_succ, List.getElem?_cons_zero]; rfl) (by kernel_rfl) (by kernel_rfl) (by kernel_rfl) (by exact fun _ _ _ h => h) (by first | (refine Or.inl ⟨by rfl, ?_⟩; intro W hW; go_simp; try with_reducible rfl) | exact Or.inr ⟨by rfl, rfl⟩) ?_; try simp only [Act.put, List.setIfInBounds_toArray, List.set_cons_zero, List.set_cons_succ])
  (refine takeE Ext.tr 9 (by simp only [List.getElem?_toArray, List.getElem?_cons_succ, List.getElem?_cons_zero]; rfl) (by kernel_rfl) (by kernel_rfl) (by kernel_rfl) (by exact fun _ _ _ h => h) (by first | (refine Or.inl ⟨by rfl, ?_⟩; intro W hW; go_simp; try with_reducible rfl) | exact Or.inr ⟨by rfl, rfl⟩) ?_; try simp only [Act.put, List.setIfInBounds_toArray, List.set_cons_zero, List.set_cons_succ])
  refine wpAnyE_one (i := 7) (by kernel_rfl) (by simp only [List.getElem?_toArray, List.getElem?_cons_succ, List.getElem?_cons_zero]; rfl) (fun K hK => ?_)
  go_simp
  refine (pm_paths (HP.out.below hE2) HO.out).mono ?_
  rintro e w3 ⟨A3, n3, c3, rfl, hl3, hb3⟩
  have hE3 := Ext.trans _ _ _ hE2 hb3
  clear q2 q3 q4 q0
  have q2 : ∀ W, Ext w3 W → W.cell? ⟨w.heap.size, 2, none⟩ = some (.slice A n c) := fun W hW => (HK.out.below (Ext.trans _ _ _ hE3 hW)).cell 2 rfl
  have q3 : ∀ W, Ext w3 W → W.cell? ⟨w.heap.size, 3, none⟩ = some (.slice (some ⟨g, o, none⟩) m d) := fun W hW => (HK.out.below (Ext.trans _ _ _ hE3 hW)).cell 3 rfl
  have q4 : ∀ W, Ext w3 W → W.cell? ⟨w.heap.size, 4, none⟩ = some (.int .i64 L.rounds) := fun W hW => (HK.out.below (Ext.trans _ _ _ hE3 hW)).cell 4 rfl
  have q0 : ∀ W, Ext w3 W → W.cell? ⟨g, o, none⟩ = some (.int .i64 L.top) := fun W hW => (Below.cell (p := ⟨g, o, none⟩) (Ext.trans _ _ _ hE3 hW) HG.out).trans HC0.out
  refine hK.out _ _ hb3 ?_
  clear hK K
  try simp only [Act.put, List.setIfInBounds_toArray, List.set_cons_zero, List.set_cons_succ]
  refine wpAnyE_one (i := 10) (by kernel_rfl) (by simp only [List.getElem?_toArray, List.getElem?_cons_succ, List.getElem?_cons_zero]; rfl) (fun K hK => ?_)
  go_simp
  refine (same_any A3 A n3 c3 n c L.ps L.ps w3 hl3.rdv (HA.out.below hE3).rdv).mono ?_
  rintro e w4 ⟨rfl, hb4⟩
  rw [decide_eq_true (rfl : L.ps = L.ps)]
  have hE4 := Ext.trans _ _ _ hE3 hb4
  clear hl3
  clear q2 q3 q4 q0
  have q2 : ∀ W, Ext w4 W → W.cell? ⟨w.heap.size, 2, none⟩ = some (.slice A n c) := fun W hW => (HK.out.below (Ext.trans _ _ _ hE4 hW)).cell 2 rfl
  have q3 : ∀ W, Ext w4 W → W.cell? ⟨w.heap.size, 3, none⟩ = some (.slice (some ⟨g, o, none⟩) m d) := fun W hW => (HK.out.below (Ext.trans _ _ _ hE4 hW)).cell 3 rfl
  have q4 : ∀ W, Ext w4 W → W.cell? ⟨w.heap.size, 4, none⟩ = some (.int .i64 L.rounds) := fun W hW => (HK.out.below (Ext.trans _ _ _ hE4 hW)).cell 4 rfl
  have q0 : ∀ W, Ext w4 W → W.cell? ⟨g, o, none⟩ = some (.int .i64 L.top) := fun W hW => (Below.cell (p := ⟨g, o, none⟩) (Ext.trans _ _ _ hE4 hW) HG.out).trans HC0.out
  refine hK.out _ _ hb4 ?_
  clear hK K
  try simp only [Act.put, List.setIfInBounds_toArray, List.set_cons_zero, List.set_cons_succ]
  (refine takeE Ext.tr 11 (by simp only [List.getElem?_toArray, List.getElem?_cons_succ, List.getElem?_cons_zero]; rfl) (by kernel_rfl) (by kernel_rfl) (by kernel_rfl) (by exact fun _ _ _ h => h) (by first | (refine Or.inl ⟨by rfl, ?_⟩; intro W hW; go_simp; try with_reducible rfl) | exact Or.inr ⟨by rfl, rfl⟩) ?_; try simp only [Act.put, List.setIfInBounds_toArray, List.set_cons_zero, List.set_cons_succ])
  (refine takeE Ext.tr 12 (by simp only [List.getElem?_toArray, List.getElem?_cons_succ, List.getElem?_cons_zero]; rfl) (by kernel_rfl) (by kernel_rfl) (by kernel_rfl) (by exact fun _ _ _ h => h) (by first | (refine Or.inl ⟨by rfl, ?_⟩; intro W hW; go_simp; try with_reducible rfl) | exact Or.inr ⟨by rfl, rfl⟩) ?_; try simp only [Act.put, List.setIfInBounds_toArray, List.set_cons_zero, List.set_cons_succ])
  (refine takeE Ext.tr 13 (by simp only [List.getElem?_toArray, List.getElem?_cons_succ, List.getElem?_cons_zero]; rfl) (by kernel_rfl) (by kernel_rfl) (by kernel_rfl) (by exact fun _ _ _ h => h) (by first | (refine Or.inl ⟨by rfl, ?_⟩; intro W hW; go_simp; try with_reducible rfl) | exact Or.inr ⟨by rfl, rfl⟩) ?_; try simp only [Act.put, List.setIfInBounds_toArray, List.set_cons_zero, List.set_cons_succ])
  (refine takeE Ext.tr 15 (by simp only [List.getElem?_toArray, List.getElem?_cons_succ, List.getElem?_cons_zero]; rfl) (by kernel_rfl) (by kernel_rfl) (by kernel_rfl) (by exact fun _ _ _ h => h) (by first | (refine Or.inl ⟨by rfl, ?_⟩; intro W hW; go_simp; try with_reducible rfl) | exact Or.inr ⟨by rfl, rfl⟩) ?_; try simp only [Act.put, List.setIfInBounds_toArray, List.set_cons_zero, List.set_cons_succ])
  (refine takeE Ext.tr 16 (by simp only [List.getElem?_toArray, List.getElem?_cons_succ, List.getElem?_cons_zero]; rfl) (by kernel_rfl) (by kernel_rfl) (by kernel_rfl) (by exact fun _ _ _ h => h) (by first | (refine Or.inl ⟨by rfl, ?_⟩; intro W hW; go_simp; try with_reducible rfl) | exact Or.inr ⟨by rfl, rfl⟩) ?_; try simp only [Act.put, List.setIfInBounds_toArray, List.set_cons_zero, List.set_cons_succ])
  refine wpAnyE_one (i := 14) (by kernel_rfl) (by simp only [List.getElem?_toArray, List.getElem?_cons_succ, List.getElem?_cons_zero]; rfl) (fun K hK => ?_)
  go_simp
  refine (pm_rounds (HP.out.below hE4)).mono ?_
  rintro e w5 ⟨rfl, rfl⟩
  refine hK.out _ _ (Ext.refl _) ?_
  clear hK K
  try simp only [Act.put, List.setIfInBounds_toArray, List.set_cons_zero, List.set_cons_succ]
  (refine takeE Ext.tr 17 (by simp only [List.getElem?_toArray, List.getElem?_cons_succ, List.getElem?_cons_zero]; rfl) (by kernel_rfl) (by kernel_rfl) (by kernel_rfl) (by exact fun _ _ _ h => h) (by first | (refine Or.inl ⟨by rfl, ?_⟩; intro W hW; go_simp; try with_reducible rfl) | exact Or.inr ⟨by rfl, rfl⟩) ?_; try simp only [Act.put, List.setIfInBounds_toArray, List.set_cons_zero, List.set_cons_succ])
  (refine takeE Ext.tr 18 (by simp only [List.getElem?_toArray, List.getElem?_cons_succ, List.getElem?_cons_zero]; rfl) (by kernel_rfl) (by kernel_rfl) (by kernel_rfl) (by exact fun _ _ _ h => h) (by first | (refine Or.inl ⟨by rfl, ?_⟩; intro W hW; go_simp; try with_reducible rfl) | exact Or.inr ⟨by rfl, rfl⟩) ?_; try simp only [Act.put, List.setIfInBounds_toArray, List.set_cons_zero, List.set_cons_succ])
  (refine takeE Ext.tr 19 (by simp only [List.getElem?_toArray, List.getElem?_cons_succ, List.getElem?_cons_zero]; rfl) (by kernel_rfl) (by kernel_rfl) (by kernel_rfl) (by exact fun _ _ _ h => h) (by first | (refine Or.inl ⟨by rfl, ?_⟩; intro W hW; go_simp; try with_reducible rfl) | exact Or.inr ⟨by rfl, rfl⟩) ?_; try simp only [Act.put, List.setIfInBounds_toArray, List.set_cons_zero, List.set_cons_succ])
  (refine takeE Ext.tr 20 (by simp only [List.getElem?_toArray, List.getElem?_cons_succ, List.getElem?_cons_zero]; rfl) (by kernel_rfl) (by kernel_rfl) (by kernel_rfl) (by exact fun _ _ _ h => h) (by first | (refine Or.inl ⟨by rfl, ?_⟩; intro W hW; go_simp; try with_reducible rfl) | exact Or.inr ⟨by rfl, rfl⟩) ?_; try simp only [Act.put, List.setIfInBounds_toArray, List.set_cons_zero, List.set_cons_succ])
  (refine takeE Ext.tr 22 (by simp only [List.getElem?_toArray, List.getElem?_cons_succ, List.getElem?_cons_zero]; rfl) (by kernel_rfl) (by kernel_rfl) (by kernel_rfl) (by exact fun _ _ _ h => h) (by first | (refine Or.inl ⟨by rfl, ?_⟩; intro W hW; go_simp; try with_reducible rfl) | exact Or.inr ⟨by rfl, rfl⟩) ?_; try simp only [Act.put, List.setIfInBounds_toArray, List.set_cons_zero, List.set_cons_succ])
  (refine takeE Ext.tr 23 (by simp only [List.getElem?_toArray, List.getElem?_cons_succ, List.getElem?_cons_zero]; rfl) (by kernel_rfl) (by kernel_rfl) (by kernel_rfl) (by exact fun _ _ _ h => h) (by first | (refine Or.inl ⟨by rfl, ?_⟩; intro W hW; exact exec_load_bk rowTold _ rfl w.heap.size 5 rfl (HK.out.below (Ext.trans _ _ _ hE4 hW)) (intV L.told) HT.out (all_drop5 _ _ _ _ _ _ _ _ _ _)) | exact Or.inr ⟨by rfl, rfl⟩) ?_; try simp only [Act.put, List.setIfInBounds_toArray, List.set_cons_zero, List.set_cons_succ])
  refine wpAnyE_one (i := 21) (by kernel_rfl) (by simp only [List.getElem?_toArray, List.getElem?_cons_succ, List.getElem?_cons_zero]; rfl) (fun K hK => ?_)
  go_simp
  refine (pm_sprayed (HP.out.below hE4) HO.out).mono ?_
  rintro e w6 ⟨rfl, hb6⟩
  have hE6 := Ext.trans _ _ _ hE4 hb6
  clear q2 q3 q4 q0
  have q2 : ∀ W, Ext w6 W → W.cell? ⟨w.heap.size, 2, none⟩ = some (.slice A n c) := fun W hW => (HK.out.below (Ext.trans _ _ _ hE6 hW)).cell 2 rfl
  have q3 : ∀ W, Ext w6 W → W.cell? ⟨w.heap.size, 3, none⟩ = some (.slice (some ⟨g, o, none⟩) m d) := fun W hW => (HK.out.below (Ext.trans _ _ _ hE6 hW)).cell 3 rfl
  have q4 : ∀ W, Ext w6 W → W.cell? ⟨w.heap.size, 4, none⟩ = some (.int .i64 L.rounds) := fun W hW => (HK.out.below (Ext.trans _ _ _ hE6 hW)).cell 4 rfl
  have q0 : ∀ W, Ext w6 W → W.cell? ⟨g, o, none⟩ = some (.int .i64 L.top) := fun W hW => (Below.cell (p := ⟨g, o, none⟩) (Ext.trans _ _ _ hE6 hW) HG.out).trans HC0.out
  refine hK.out _ _ hb6 ?_
  clear hK K
  try simp only [Act.put, List.setIfInBounds_toArray, List.set_cons_zero, List.set_cons_succ]
  (refine takeE Ext.tr 24 (by simp only [List.getElem?_toArray, List.getElem?_cons_succ, List.getElem?_cons_zero]; rfl) (by kernel_rfl) (by kernel_rfl) (by kernel_rfl) (by exact fun _ _ _ h => h) (by first | (refine Or.inl ⟨by rfl, ?_⟩; intro W hW; exact exec_cmp_agg rfl (by kernel_rfl) rfl rfl (arrTold.eql (.int .i64) (eq_int rfl 9998) L.told L.told HO.out.t1 HO.out.t1)) | exact Or.inr ⟨by rfl, rfl⟩) ?_; try simp only [Act.put, List.setIfInBounds_toArray, List.set_cons_zero, List.set_cons_succ])
  (refine takeE Ext.tr 25 (by simp only [List.getElem?_toArray, List.getElem?_cons_succ, List.getElem?_cons_zero]; rfl) (by kernel_rfl) (by kernel_rfl) (by kernel_rfl) (by exact fun _ _ _ h => h) (by first | (refine Or.inl ⟨by rfl, ?_⟩; intro W hW; go_simp; try with_reducible rfl) | exact Or.inr ⟨by rfl, rfl⟩) ?_; try simp only [Act.put, List.setIfInBounds_toArray, List.set_cons_zero, List.set_cons_succ])
  (refine takeE Ext.tr 26 (by simp only [List.getElem?_toArray, List.getElem?_cons_succ, List.getElem?_cons_zero]; rfl) (by kernel_rfl) (by kernel_rfl) (by kernel_rfl) (by exact fun _ _ _ h => h) (by first | (refine Or.inl ⟨by rfl, ?_⟩; intro W hW; go_simp; try with_reducible rfl) | exact Or.inr ⟨by rfl, rfl⟩) ?_; try simp only [Act.put, List.setIfInBounds_toArray, List.set_cons_zero, List.set_cons_succ])
  (refine takeE Ext.tr 27 (by simp only [List.getElem?_toArray, List.getElem?_cons_succ, List.getElem?_cons_zero]; rfl) (by kernel_rfl) (by kernel_rfl) (by kernel_rfl) (by exact fun _ _ _ h => h) (by first | (refine Or.inl ⟨by rfl, ?_⟩; intro W hW; go_simp; try with_reducible rfl) | exact Or.inr ⟨by rfl, rfl⟩) ?_; try simp only [Act.put, List.setIfInBounds_toArray, List.set_cons_zero, List.set_cons_succ])
  (refine takeE Ext.tr 29 (by simp only [List.getElem?_toArray, List.getElem?_cons_succ, List.getElem?_cons_zero]; rfl) (by kernel_rfl) (by kernel_rfl) (by kernel_rfl) (by exact fun _ _ _ h => h) (by first | (refine Or.inl ⟨by rfl, ?_⟩; intro W hW; go_simp; try with_reducible rfl) | exact Or.inr ⟨by rfl, rfl⟩) ?_; try simp only [Act.put, List.setIfInBounds_toArray, List.set_cons_zero, List.set_cons_succ])
  (refine takeE Ext.tr 30 (by simp only [List.getElem?_toArray, List.getElem?_cons_succ, List.getElem?_cons_zero]; rfl) (by kernel_rfl) (by kernel_rfl) (by kernel_rfl) (by exact fun _ _ _ h => h) (by first | (refine Or.inl ⟨by rfl, ?_⟩; intro W hW; go_simp; try with_reducible rfl) | exact Or.inr ⟨by rfl, rfl⟩) ?_; try simp only [Act.put, List.setIfInBounds_toArray, List.set_cons_zero, List.set_cons_succ])
  (refine takeE Ext.tr 31 (by simp only [List.getElem?_toArray, List.getElem?_cons_succ, List.getElem?_cons_zero]; rfl) (by kernel_rfl) (by kernel_rfl) (by kernel_rfl) (by exact fun _ _ _ h => h) (by first | (refine Or.inl ⟨by rfl, ?_⟩; intro W hW; go_simp; try with_reducible rfl) | exact Or.inr ⟨by rfl, rfl⟩) ?_; try simp only [Act.put, List.setIfInBounds_toArray, List.set_cons_zero, List.set_cons_succ])
  (refine takeE Ext.tr 32 (by simp only [List.getElem?_toArray, List.getElem?_cons_succ, List.getElem?_cons_zero]; rfl) (by kernel_rfl) (by kernel_rfl) (by kernel_rfl) (by exact fun _ _ _ h => h) (by first | (refine Or.inl ⟨by rfl, ?_⟩; intro W hW; go_simp; try with_reducible rfl) | exact Or.inr ⟨by rfl, rfl⟩) ?_; try simp only [Act.put, List.setIfInBounds_toArray, List.set_cons_zero, List.set_cons_succ])
  refine wpAnyE_one (i := 28) (by kernel_rfl) (by simp only [List.getElem?_toArray, List.getElem?_cons_succ, List.getElem?_cons_zero]; rfl) (fun K hK => ?_)
  go_simp
  refine (pm_peek (HP.out.below hE6) HO.out).mono ?_
  rintro e w7 ⟨rfl, rfl⟩
  refine hK.out _ _ (Ext.refl _) ?_
  clear hK K
  try simp only [Act.put, List.setIfInBounds_toArray, List.set_cons_zero, List.set_cons_succ]
  (refine takeE Ext.tr 33 (by simp only [List.getElem?_toArray, List.getElem?_cons_succ, List.getElem?_cons_zero]; rfl) (by kernel_rfl) (by kernel_rfl) (by kernel_rfl) (by exact fun _ _ _ h => h) (by first | (refine Or.inl ⟨by rfl, ?_⟩; intro W hW; go_simp; try with_reducible rfl) | exact Or.inr ⟨by rfl, rfl⟩) ?_; try simp only [Act.put, List.setIfInBounds_toArray, List.set_cons_zero, List.set_cons_succ])
  (refine takeE Ext.tr 34 (by simp only [List.getElem?_toArray, List.getElem?_cons_succ, List.getElem?_cons_zero]; rfl) (by kernel_rfl) (by kernel_rfl) (by kernel_rfl) (by exact fun _ _ _ h => h) (by first | (refine Or.inl ⟨by rfl, ?_⟩; intro W hW; go_simp; try with_reducible rfl) | exact Or.inr ⟨by rfl, rfl⟩) ?_; try simp only [Act.put, List.setIfInBounds_toArray, List.set_cons_zero, List.set_cons_succ])
  (refine takeE Ext.tr 35 (by simp only [List.getElem?_toArray, List.getElem?_cons_succ, List.getElem?_cons_zero]; rfl) (by kernel_rfl) (by kernel_rfl) (by kernel_rfl) (by exact fun _ _ _ h => h) (by first | (refine Or.inl ⟨by rfl, ?_⟩; intro W hW; go_simp; try with_reducible rfl) | exact Or.inr ⟨by rfl, rfl⟩) ?_; try simp only [Act.put, List.setIfInBounds_toArray, List.set_cons_zero, List.set_cons_succ])
  refine wpAnyE_done (by kernel_rfl) ?_ _
  skip
  have HF := Lib.hid (HBD.out.trans (Below.mono hE6 HBD.out.size))
  clear q2 q3 q4 q0
  go_wp2
  go_ret
  exact ⟨rfl, HF.out⟩
end Go.Proofs.Ytiefgicapcljiaa
