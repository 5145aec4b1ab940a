/- A tomb stands as the document's. -/
import Derived.Test.YtopmfpdcdclffaaD8
set_option linter.unusedSimpArgs false
set_option linter.unusedVariables false
namespace Go.Proofs.Ytopmfpdcdclffaa
open Go.RowKit Go.Shelf
set_option maxRecDepth 100000 in
set_option maxHeartbeats 8000000 in
theorem same_true {w : World} {P : Pl} {B : Bm} {A : Option Addr} {n c : Nat} (hm : Bmp w P B) (ht : B.tk) (hbb : B.base + B.size ≤ 1073741825) (hr : Rp w B A n c) (x : Int) :
    Calls Try.prog 13 #[.pointer (some ⟨P.p, P.o, none⟩), .agg (rvL B A n c).toArray, .int .i64 x] w fun e w' => e = .returned (.bool true) ∧ Below w.heap.size w w' := by
  have hn := hr.len
  subst hn
  have hba := (Below.refl w.heap.size w).alloc (Nat.le_refl _) (.cells (rvL B A (B.all true).length c).toArray 29)
  have HM0 := Lib.hid (hm.below hba)
  have HR0 := Lib.hid (RdV.below hr hba)
  have HK0 := Lib.hid (Bk.new w 29 (rvL B A (B.all true).length c))
  have HBA := Lib.hid hba
  have HT := Lib.hid ht
  have HBB := Lib.hid hbb
  have HCE : Hid (B.tclosed x = B.rclosed x) := Lib.hid (Bm.tclosed_eq ht hbb x)
  clear hm hr hba ht hbb
  go_enter Try.func13, Try.ntmps13
  go_wp2_with fail
  refine wp_region_E Ext (by kernel_rfl) (fun wd hbd hsz => ?_)
  have HM := Lib.hid (HM0.out.below hbd)
  have HR := Lib.hid (RdV.below HR0.out hbd)
  have HK := Lib.hid (HK0.out.below hbd)
  have HBD := Lib.hid hbd
  have q0 : ∀ W, Ext wd W → W.cell? ⟨w.heap.size, 0, none⟩ = some (.int .i64 B.size) := fun W hW => (HK.out.below hW).cell 0 rfl
  have q1 : ∀ W, Ext wd W → W.cell? ⟨w.heap.size, 1, none⟩ = some (.int .i64 B.base) := fun W hW => (HK.out.below hW).cell 1 rfl
  have q2 : ∀ W, Ext wd W → W.cell? ⟨w.heap.size, 2, none⟩ = some (.slice A (B.all true).length c) := fun W hW => (HK.out.below hW).cell 2 rfl
  clear hsz
  (refine takeE Ext.tr 0 (by simp only [List.getElem?_toArray, List.getElem?_cons_succ, List.getElem?_cons_zero]; rfl) (by kernel_rfl) (by kernel_rfl) (by kernel_rfl) (by exact fun _ _ _ h => h) (by first | (refine Or.inl ⟨by rfl, ?_⟩; intro W hW; go_simp; try with_reducible rfl) | exact Or.inr ⟨by rfl, rfl⟩) ?_; try simp only [Act.put, List.setIfInBounds_toArray, List.set_cons_zero, List.set_cons_succ])
  (refine takeE Ext.tr 2 (by simp only [List.getElem?_toArray, List.getElem?_cons_succ, List.getElem?_cons_zero]; rfl) (by kernel_rfl) (by kernel_rfl) (by kernel_rfl) (by exact fun _ _ _ h => h) (by first | (refine Or.inl ⟨by rfl, ?_⟩; intro W hW; go_simp; try with_reducible rfl) | exact Or.inr ⟨by rfl, rfl⟩) ?_; try simp only [Act.put, List.setIfInBounds_toArray, List.set_cons_zero, List.set_cons_succ])
  (refine takeE Ext.tr 3 (by simp only [List.getElem?_toArray, List.getElem?_cons_succ, List.getElem?_cons_zero]; rfl) (by kernel_rfl) (by kernel_rfl) (by kernel_rfl) (by exact fun _ _ _ h => h) (by first | (refine Or.inl ⟨by rfl, ?_⟩; intro W hW; go_simp; try with_reducible rfl) | exact Or.inr ⟨by rfl, rfl⟩) ?_; try simp only [Act.put, List.setIfInBounds_toArray, List.set_cons_zero, List.set_cons_succ])
  refine wpAnyE_one (i := 1) (by kernel_rfl) (by simp only [List.getElem?_toArray, List.getElem?_cons_succ, List.getElem?_cons_zero]; rfl) (fun K hK => ?_)
  go_simp
  refine (t_floor HM.out).mono ?_
  rintro e v1 ⟨rfl, rfl⟩
  refine hK.out _ _ (Ext.refl _) ?_
  clear hK K
  try simp only [Act.put, List.setIfInBounds_toArray, List.set_cons_zero, List.set_cons_succ]
  (refine takeE Ext.tr 4 (by simp only [List.getElem?_toArray, List.getElem?_cons_succ, List.getElem?_cons_zero]; rfl) (by kernel_rfl) (by kernel_rfl) (by kernel_rfl) (by exact fun _ _ _ h => h) (by first | (refine Or.inl ⟨by rfl, ?_⟩; intro W hW; go_simp; try with_reducible rfl) | exact Or.inr ⟨by rfl, rfl⟩) ?_; try simp only [Act.put, List.setIfInBounds_toArray, List.set_cons_zero, List.set_cons_succ])
  (refine takeE Ext.tr 5 (by simp only [List.getElem?_toArray, List.getElem?_cons_succ, List.getElem?_cons_zero]; rfl) (by kernel_rfl) (by kernel_rfl) (by kernel_rfl) (by exact fun _ _ _ h => h) (by first | (refine Or.inl ⟨by rfl, ?_⟩; intro W hW; go_simp; try with_reducible rfl) | exact Or.inr ⟨by rfl, rfl⟩) ?_; try simp only [Act.put, List.setIfInBounds_toArray, List.set_cons_zero, List.set_cons_succ])
  (refine takeE Ext.tr 6 (by simp only [List.getElem?_toArray, List.getElem?_cons_succ, List.getElem?_cons_zero]; rfl) (by kernel_rfl) (by kernel_rfl) (by kernel_rfl) (by exact fun _ _ _ h => h) (by first | (refine Or.inl ⟨by rfl, ?_⟩; intro W hW; go_simp; try with_reducible rfl) | exact Or.inr ⟨by rfl, rfl⟩) ?_; try simp only [Act.put, List.setIfInBounds_toArray, List.set_cons_zero, List.set_cons_succ])
  (refine takeE Ext.tr 8 (by simp only [List.getElem?_toArray, List.getElem?_cons_succ, List.getElem?_cons_zero]; rfl) (by kernel_rfl) (by kernel_rfl) (by kernel_rfl) (by exact fun _ _ _ h => h) (by first | (refine Or.inl ⟨by rfl, ?_⟩; intro W hW; go_simp; try with_reducible rfl) | exact Or.inr ⟨by rfl, rfl⟩) ?_; try simp only [Act.put, List.setIfInBounds_toArray, List.set_cons_zero, List.set_cons_succ])
  (refine takeE Ext.tr 9 (by simp only [List.getElem?_toArray, List.getElem?_cons_succ, List.getElem?_cons_zero]; rfl) (by kernel_rfl) (by kernel_rfl) (by kernel_rfl) (by exact fun _ _ _ h => h) (by first | (refine Or.inl ⟨by rfl, ?_⟩; intro W hW; go_simp; try with_reducible rfl) | exact Or.inr ⟨by rfl, rfl⟩) ?_; try simp only [Act.put, List.setIfInBounds_toArray, List.set_cons_zero, List.set_cons_succ])
  (refine takeE Ext.tr 10 (by simp only [List.getElem?_toArray, List.getElem?_cons_succ, List.getElem?_cons_zero]; rfl) (by kernel_rfl) (by kernel_rfl) (by kernel_rfl) (by exact fun _ _ _ h => h) (by first | (refine Or.inl ⟨by rfl, ?_⟩; intro W hW; go_simp; try with_reducible rfl) | exact Or.inr ⟨by rfl, rfl⟩) ?_; try simp only [Act.put, List.setIfInBounds_toArray, List.set_cons_zero, List.set_cons_succ])
  refine wpAnyE_one (i := 7) (by kernel_rfl) (by simp only [List.getElem?_toArray, List.getElem?_cons_succ, List.getElem?_cons_zero]; rfl) (fun K hK => ?_)
  go_simp
  refine (t_count HM.out).mono ?_
  rintro e v3 ⟨rfl, hb3⟩
  have hE3 : Ext wd v3 := hb3
  clear q0 q1 q2
  have q0 : ∀ W, Ext v3 W → W.cell? ⟨w.heap.size, 0, none⟩ = some (.int .i64 B.size) := fun W hW => (HK.out.below (Ext.trans _ _ _ hE3 hW)).cell 0 rfl
  have q1 : ∀ W, Ext v3 W → W.cell? ⟨w.heap.size, 1, none⟩ = some (.int .i64 B.base) := fun W hW => (HK.out.below (Ext.trans _ _ _ hE3 hW)).cell 1 rfl
  have q2 : ∀ W, Ext v3 W → W.cell? ⟨w.heap.size, 2, none⟩ = some (.slice A (B.all true).length c) := fun W hW => (HK.out.below (Ext.trans _ _ _ hE3 hW)).cell 2 rfl
  refine hK.out _ _ hb3 ?_
  clear hK K
  try simp only [Act.put, List.setIfInBounds_toArray, List.set_cons_zero, List.set_cons_succ]
  (refine takeE Ext.tr 11 (by simp only [List.getElem?_toArray, List.getElem?_cons_succ, List.getElem?_cons_zero]; rfl) (by kernel_rfl) (by kernel_rfl) (by kernel_rfl) (by exact fun _ _ _ h => h) (by first | (refine Or.inl ⟨by rfl, ?_⟩; intro W hW; go_simp; try with_reducible rfl) | exact Or.inr ⟨by rfl, rfl⟩) ?_; try simp only [Act.put, List.setIfInBounds_toArray, List.set_cons_zero, List.set_cons_succ])
  (refine takeE Ext.tr 12 (by simp only [List.getElem?_toArray, List.getElem?_cons_succ, List.getElem?_cons_zero]; rfl) (by kernel_rfl) (by kernel_rfl) (by kernel_rfl) (by exact fun _ _ _ h => h) (by first | (refine Or.inl ⟨by rfl, ?_⟩; intro W hW; go_simp; try with_reducible rfl) | exact Or.inr ⟨by rfl, rfl⟩) ?_; try simp only [Act.put, List.setIfInBounds_toArray, List.set_cons_zero, List.set_cons_succ])
  (refine takeE Ext.tr 13 (by simp only [List.getElem?_toArray, List.getElem?_cons_succ, List.getElem?_cons_zero]; rfl) (by kernel_rfl) (by kernel_rfl) (by kernel_rfl) (by exact fun _ _ _ h => h) (by first | (refine Or.inl ⟨by rfl, ?_⟩; intro W hW; go_simp; try with_reducible rfl) | exact Or.inr ⟨by rfl, rfl⟩) ?_; try simp only [Act.put, List.setIfInBounds_toArray, List.set_cons_zero, List.set_cons_succ])
  (refine takeE Ext.tr 14 (by simp only [List.getElem?_toArray, List.getElem?_cons_succ, List.getElem?_cons_zero]; rfl) (by kernel_rfl) (by kernel_rfl) (by kernel_rfl) (by exact fun _ _ _ h => h) (by first | (refine Or.inl ⟨by rfl, ?_⟩; intro W hW; go_simp; try with_reducible rfl) | exact Or.inr ⟨by rfl, rfl⟩) ?_; try simp only [Act.put, List.setIfInBounds_toArray, List.set_cons_zero, List.set_cons_succ])
  (refine takeE Ext.tr 15 (by simp only [List.getElem?_toArray, List.getElem?_cons_succ, List.getElem?_cons_zero]; rfl) (by kernel_rfl) (by kernel_rfl) (by kernel_rfl) (by exact fun _ _ _ h => h) (by first | (refine Or.inl ⟨by rfl, ?_⟩; intro W hW; go_simp; try with_reducible rfl) | exact Or.inr ⟨by rfl, rfl⟩) ?_; try simp only [Act.put, List.setIfInBounds_toArray, List.set_cons_zero, List.set_cons_succ])
  (refine takeE Ext.tr 17 (by simp only [List.getElem?_toArray, List.getElem?_cons_succ, List.getElem?_cons_zero]; rfl) (by kernel_rfl) (by kernel_rfl) (by kernel_rfl) (by exact fun _ _ _ h => h) (by first | (refine Or.inl ⟨by rfl, ?_⟩; intro W hW; exact exec_load_bk rowR (.tmp 4) rfl w.heap.size 0 rfl (HK.out.below (Ext.trans _ _ _ hE3 hW)) (rvL B A (B.all true).length c) rfl rfl) | exact Or.inr ⟨by rfl, rfl⟩) ?_; try simp only [Act.put, List.setIfInBounds_toArray, List.set_cons_zero, List.set_cons_succ])
  (refine takeE Ext.tr 18 (by simp only [List.getElem?_toArray, List.getElem?_cons_succ, List.getElem?_cons_zero]; rfl) (by kernel_rfl) (by kernel_rfl) (by kernel_rfl) (by exact fun _ _ _ h => h) (by first | (refine Or.inl ⟨by rfl, ?_⟩; intro W hW; go_simp; try with_reducible rfl) | exact Or.inr ⟨by rfl, rfl⟩) ?_; try simp only [Act.put, List.setIfInBounds_toArray, List.set_cons_zero, List.set_cons_succ])
  refine wpAnyE_one (i := 16) (by kernel_rfl) (by simp only [List.getElem?_toArray, List.getElem?_cons_succ, List.getElem?_cons_zero]; rfl) (fun K hK => ?_)
  go_simp
  refine (t_closed (HM.out.below hE3) _).mono ?_
  rintro e v4 ⟨rfl, hb4⟩
  rw [HCE.out]
  have hE4 : Ext wd v4 := Ext.trans _ _ _ hE3 hb4
  clear q0 q1 q2
  have q0 : ∀ W, Ext v4 W → W.cell? ⟨w.heap.size, 0, none⟩ = some (.int .i64 B.size) := fun W hW => (HK.out.below (Ext.trans _ _ _ hE4 hW)).cell 0 rfl
  have q1 : ∀ W, Ext v4 W → W.cell? ⟨w.heap.size, 1, none⟩ = some (.int .i64 B.base) := fun W hW => (HK.out.below (Ext.trans _ _ _ hE4 hW)).cell 1 rfl
  have q2 : ∀ W, Ext v4 W → W.cell? ⟨w.heap.size, 2, none⟩ = some (.slice A (B.all true).length c) := fun W hW => (HK.out.below (Ext.trans _ _ _ hE4 hW)).cell 2 rfl
  refine hK.out _ _ hb4 ?_
  clear hK K
  try simp only [Act.put, List.setIfInBounds_toArray, List.set_cons_zero, List.set_cons_succ]
  refine wpAnyE_one (i := 19) (by kernel_rfl) (by simp only [List.getElem?_toArray, List.getElem?_cons_succ, List.getElem?_cons_zero]; rfl) (fun K hK => ?_)
  go_simp
  refine (rclosed_any (RdV.below HR.out hE4) HM.out.1 _).mono ?_
  rintro e v5 ⟨rfl, hb5⟩
  have hE5 : Ext wd v5 := Ext.trans _ _ _ hE4 hb5
  clear q0 q1 q2
  have q0 : ∀ W, Ext v5 W → W.cell? ⟨w.heap.size, 0, none⟩ = some (.int .i64 B.size) := fun W hW => (HK.out.below (Ext.trans _ _ _ hE5 hW)).cell 0 rfl
  have q1 : ∀ W, Ext v5 W → W.cell? ⟨w.heap.size, 1, none⟩ = some (.int .i64 B.base) := fun W hW => (HK.out.below (Ext.trans _ _ _ hE5 hW)).cell 1 rfl
  have q2 : ∀ W, Ext v5 W → W.cell? ⟨w.heap.size, 2, none⟩ = some (.slice A (B.all true).length c) := fun W hW => (HK.out.below (Ext.trans _ _ _ hE5 hW)).cell 2 rfl
  refine hK.out _ _ hb5 ?_
  clear hK K
  try simp only [Act.put, List.setIfInBounds_toArray, List.set_cons_zero, List.set_cons_succ]
  (refine takeE Ext.tr 20 (by simp only [List.getElem?_toArray, List.getElem?_cons_succ, List.getElem?_cons_zero]; rfl) (by kernel_rfl) (by kernel_rfl) (by kernel_rfl) (by exact fun _ _ _ h => h) (by first | (refine Or.inl ⟨by rfl, ?_⟩; intro W hW; go_simp; try with_reducible rfl) | exact Or.inr ⟨by rfl, rfl⟩) ?_; try simp only [Act.put, List.setIfInBounds_toArray, List.set_cons_zero, List.set_cons_succ])
  (refine takeE Ext.tr 21 (by simp only [List.getElem?_toArray, List.getElem?_cons_succ, List.getElem?_cons_zero]; rfl) (by kernel_rfl) (by kernel_rfl) (by kernel_rfl) (by exact fun _ _ _ h => h) (by first | (refine Or.inl ⟨by rfl, ?_⟩; intro W hW; go_simp; try with_reducible rfl) | exact Or.inr ⟨by rfl, rfl⟩) ?_; try simp only [Act.put, List.setIfInBounds_toArray, List.set_cons_zero, List.set_cons_succ])
  (refine takeE Ext.tr 22 (by simp only [List.getElem?_toArray, List.getElem?_cons_succ, List.getElem?_cons_zero]; rfl) (by kernel_rfl) (by kernel_rfl) (by kernel_rfl) (by exact fun _ _ _ h => h) (by first | (refine Or.inl ⟨by rfl, ?_⟩; intro W hW; go_simp; try with_reducible rfl) | exact Or.inr ⟨by rfl, rfl⟩) ?_; try simp only [Act.put, List.setIfInBounds_toArray, List.set_cons_zero, List.set_cons_succ])
  (refine takeE Ext.tr 23 (by simp only [List.getElem?_toArray, List.getElem?_cons_succ, List.getElem?_cons_zero]; rfl) (by kernel_rfl) (by kernel_rfl) (by kernel_rfl) (by exact fun _ _ _ h => h) (by first | (refine Or.inl ⟨by rfl, ?_⟩; intro W hW; go_simp; try with_reducible rfl) | exact Or.inr ⟨by rfl, rfl⟩) ?_; try simp only [Act.put, List.setIfInBounds_toArray, List.set_cons_zero, List.set_cons_succ])
  (refine takeE Ext.tr 24 (by simp only [List.getElem?_toArray, List.getElem?_cons_succ, List.getElem?_cons_zero]; rfl) (by kernel_rfl) (by kernel_rfl) (by kernel_rfl) (by exact fun _ _ _ h => h) (by first | (refine Or.inl ⟨by rfl, ?_⟩; intro W hW; go_simp; try with_reducible rfl) | exact Or.inr ⟨by rfl, rfl⟩) ?_; try simp only [Act.put, List.setIfInBounds_toArray, List.set_cons_zero, List.set_cons_succ])
  (refine takeE Ext.tr 26 (by simp only [List.getElem?_toArray, List.getElem?_cons_succ, List.getElem?_cons_zero]; rfl) (by kernel_rfl) (by kernel_rfl) (by kernel_rfl) (by exact fun _ _ _ h => h) (by first | (refine Or.inl ⟨by rfl, ?_⟩; intro W hW; exact exec_load_bk rowR (.tmp 4) rfl w.heap.size 0 rfl (HK.out.below (Ext.trans _ _ _ hE5 hW)) (rvL B A (B.all true).length c) rfl rfl) | exact Or.inr ⟨by rfl, rfl⟩) ?_; try simp only [Act.put, List.setIfInBounds_toArray, List.set_cons_zero, List.set_cons_succ])
  (refine takeE Ext.tr 27 (by simp only [List.getElem?_toArray, List.getElem?_cons_succ, List.getElem?_cons_zero]; rfl) (by kernel_rfl) (by kernel_rfl) (by kernel_rfl) (by exact fun _ _ _ h => h) (by first | (refine Or.inl ⟨by rfl, ?_⟩; intro W hW; go_simp; try with_reducible rfl) | exact Or.inr ⟨by rfl, rfl⟩) ?_; try simp only [Act.put, List.setIfInBounds_toArray, List.set_cons_zero, List.set_cons_succ])
  refine wpAnyE_one (i := 25) (by kernel_rfl) (by simp only [List.getElem?_toArray, List.getElem?_cons_succ, List.getElem?_cons_zero]; rfl) (fun K hK => ?_)
  go_simp
  refine (t_may (HM.out.below hE5) _).mono ?_
  rintro e v6 ⟨rfl, hb6⟩
  have hE6 : Ext wd v6 := Ext.trans _ _ _ hE5 hb6
  clear q0 q1 q2
  have q0 : ∀ W, Ext v6 W → W.cell? ⟨w.heap.size, 0, none⟩ = some (.int .i64 B.size) := fun W hW => (HK.out.below (Ext.trans _ _ _ hE6 hW)).cell 0 rfl
  have q1 : ∀ W, Ext v6 W → W.cell? ⟨w.heap.size, 1, none⟩ = some (.int .i64 B.base) := fun W hW => (HK.out.below (Ext.trans _ _ _ hE6 hW)).cell 1 rfl
  have q2 : ∀ W, Ext v6 W → W.cell? ⟨w.heap.size, 2, none⟩ = some (.slice A (B.all true).length c) := fun W hW => (HK.out.below (Ext.trans _ _ _ hE6 hW)).cell 2 rfl
  refine hK.out _ _ hb6 ?_
  clear hK K
  try simp only [Act.put, List.setIfInBounds_toArray, List.set_cons_zero, List.set_cons_succ]
  refine wpAnyE_one (i := 28) (by kernel_rfl) (by simp only [List.getElem?_toArray, List.getElem?_cons_succ, List.getElem?_cons_zero]; rfl) (fun K hK => ?_)
  go_simp
  refine (rmay_any (RdV.below HR.out hE6) HT.out _).mono ?_
  rintro e v7 ⟨rfl, hb7⟩
  have hE7 : Ext wd v7 := Ext.trans _ _ _ hE6 hb7
  clear q0 q1 q2
  have q0 : ∀ W, Ext v7 W → W.cell? ⟨w.heap.size, 0, none⟩ = some (.int .i64 B.size) := fun W hW => (HK.out.below (Ext.trans _ _ _ hE7 hW)).cell 0 rfl
  have q1 : ∀ W, Ext v7 W → W.cell? ⟨w.heap.size, 1, none⟩ = some (.int .i64 B.base) := fun W hW => (HK.out.below (Ext.trans _ _ _ hE7 hW)).cell 1 rfl
  have q2 : ∀ W, Ext v7 W → W.cell? ⟨w.heap.size, 2, none⟩ = some (.slice A (B.all true).length c) := fun W hW => (HK.out.below (Ext.trans _ _ _ hE7 hW)).cell 2 rfl
  refine hK.out _ _ hb7 ?_
  clear hK K
  try simp only [Act.put, List.setIfInBounds_toArray, List.set_cons_zero, List.set_cons_succ]
  (refine takeE Ext.tr 29 (by simp only [List.getElem?_toArray, List.getElem?_cons_succ, List.getElem?_cons_zero]; rfl) (by kernel_rfl) (by kernel_rfl) (by kernel_rfl) (by exact fun _ _ _ h => h) (by first | (refine Or.inl ⟨by rfl, ?_⟩; intro W hW; go_simp; try with_reducible rfl) | exact Or.inr ⟨by rfl, rfl⟩) ?_; try simp only [Act.put, List.setIfInBounds_toArray, List.set_cons_zero, List.set_cons_succ])
  (refine takeE Ext.tr 30 (by simp only [List.getElem?_toArray, List.getElem?_cons_succ, List.getElem?_cons_zero]; rfl) (by kernel_rfl) (by kernel_rfl) (by kernel_rfl) (by exact fun _ _ _ h => h) (by first | (refine Or.inl ⟨by rfl, ?_⟩; intro W hW; go_simp; try with_reducible rfl) | exact Or.inr ⟨by rfl, rfl⟩) ?_; try simp only [Act.put, List.setIfInBounds_toArray, List.set_cons_zero, List.set_cons_succ])
  (refine takeE Ext.tr 31 (by simp only [List.getElem?_toArray, List.getElem?_cons_succ, List.getElem?_cons_zero]; rfl) (by kernel_rfl) (by kernel_rfl) (by kernel_rfl) (by exact fun _ _ _ h => h) (by first | (refine Or.inl ⟨by rfl, ?_⟩; intro W hW; go_simp; try with_reducible rfl) | exact Or.inr ⟨by rfl, rfl⟩) ?_; try simp only [Act.put, List.setIfInBounds_toArray, List.set_cons_zero, List.set_cons_succ])
  (refine takeE Ext.tr 32 (by simp only [List.getElem?_toArray, List.getElem?_cons_succ, List.getElem?_cons_zero]; rfl) (by kernel_rfl) (by kernel_rfl) (by kernel_rfl) (by exact fun _ _ _ h => h) (by first | (refine Or.inl ⟨by rfl, ?_⟩; intro W hW; go_simp; try with_reducible rfl) | exact Or.inr ⟨by rfl, rfl⟩) ?_; try simp only [Act.put, List.setIfInBounds_toArray, List.set_cons_zero, List.set_cons_succ])
  (refine takeE Ext.tr 34 (by simp only [List.getElem?_toArray, List.getElem?_cons_succ, List.getElem?_cons_zero]; rfl) (by kernel_rfl) (by kernel_rfl) (by kernel_rfl) (by exact fun _ _ _ h => h) (by first | (refine Or.inl ⟨by rfl, ?_⟩; intro W hW; exact exec_load_bk rowR (.tmp 4) rfl w.heap.size 0 rfl (HK.out.below (Ext.trans _ _ _ hE7 hW)) (rvL B A (B.all true).length c) rfl rfl) | exact Or.inr ⟨by rfl, rfl⟩) ?_; try simp only [Act.put, List.setIfInBounds_toArray, List.set_cons_zero, List.set_cons_succ])
  refine wpAnyE_one (i := 33) (by kernel_rfl) (by simp only [List.getElem?_toArray, List.getElem?_cons_succ, List.getElem?_cons_zero]; rfl) (fun K hK => ?_)
  go_simp
  refine (t_open (HM.out.below hE7) HT.out HBB.out 100).mono ?_
  rintro e v8 ⟨A8, n8, c8, rfl, hl8, hb8⟩
  have hE8 : Ext wd v8 := Ext.trans _ _ _ hE7 hb8
  clear q0 q1 q2
  have q0 : ∀ W, Ext v8 W → W.cell? ⟨w.heap.size, 0, none⟩ = some (.int .i64 B.size) := fun W hW => (HK.out.below (Ext.trans _ _ _ hE8 hW)).cell 0 rfl
  have q1 : ∀ W, Ext v8 W → W.cell? ⟨w.heap.size, 1, none⟩ = some (.int .i64 B.base) := fun W hW => (HK.out.below (Ext.trans _ _ _ hE8 hW)).cell 1 rfl
  have q2 : ∀ W, Ext v8 W → W.cell? ⟨w.heap.size, 2, none⟩ = some (.slice A (B.all true).length c) := fun W hW => (HK.out.below (Ext.trans _ _ _ hE8 hW)).cell 2 rfl
  refine hK.out _ _ hb8 ?_
  clear hK K
  try simp only [Act.put, List.setIfInBounds_toArray, List.set_cons_zero, List.set_cons_succ]
  refine wpAnyE_one (i := 35) (by kernel_rfl) (by simp only [List.getElem?_toArray, List.getElem?_cons_succ, List.getElem?_cons_zero]; rfl) (fun K hK => ?_)
  go_simp
  refine (ropen_any (RdV.below HR.out hE8) HT.out HBB.out 100).mono ?_
  rintro e v9 ⟨A9, n9, c9, rfl, hl9, hb9⟩
  have hE9 : Ext wd v9 := Ext.trans _ _ _ hE8 hb9
  clear q0 q1 q2
  have q0 : ∀ W, Ext v9 W → W.cell? ⟨w.heap.size, 0, none⟩ = some (.int .i64 B.size) := fun W hW => (HK.out.below (Ext.trans _ _ _ hE9 hW)).cell 0 rfl
  have q1 : ∀ W, Ext v9 W → W.cell? ⟨w.heap.size, 1, none⟩ = some (.int .i64 B.base) := fun W hW => (HK.out.below (Ext.trans _ _ _ hE9 hW)).cell 1 rfl
  have q2 : ∀ W, Ext v9 W → W.cell? ⟨w.heap.size, 2, none⟩ = some (.slice A (B.all true).length c) := fun W hW => (HK.out.below (Ext.trans _ _ _ hE9 hW)).cell 2 rfl
  refine hK.out _ _ hb9 ?_
  clear hK K
  try simp only [Act.put, List.setIfInBounds_toArray, List.set_cons_zero, List.set_cons_succ]
  refine wpAnyE_one (i := 36) (by kernel_rfl) (by simp only [List.getElem?_toArray, List.getElem?_cons_succ, List.getElem?_cons_zero]; rfl) (fun K hK => ?_)
  go_simp
  refine (same_any A8 A9 n8 c8 n9 c9 (B.opens 100) (B.opens 100) v9 (hl8.below hb9).rdv hl9.rdv).mono ?_
  rintro e v10 ⟨rfl, hb10⟩
  rw [decide_eq_true (rfl : B.opens 100 = B.opens 100)]
  clear hl8 hl9
  have hE10 : Ext wd v10 := Ext.trans _ _ _ hE9 hb10
  clear q0 q1 q2
  have q0 : ∀ W, Ext v10 W → W.cell? ⟨w.heap.size, 0, none⟩ = some (.int .i64 B.size) := fun W hW => (HK.out.below (Ext.trans _ _ _ hE10 hW)).cell 0 rfl
  have q1 : ∀ W, Ext v10 W → W.cell? ⟨w.heap.size, 1, none⟩ = some (.int .i64 B.base) := fun W hW => (HK.out.below (Ext.trans _ _ _ hE10 hW)).cell 1 rfl
  have q2 : ∀ W, Ext v10 W → W.cell? ⟨w.heap.size, 2, none⟩ = some (.slice A (B.all true).length c) := fun W hW => (HK.out.below (Ext.trans _ _ _ hE10 hW)).cell 2 rfl
  refine hK.out _ _ hb10 ?_
  clear hK K
  try simp only [Act.put, List.setIfInBounds_toArray, List.set_cons_zero, List.set_cons_succ]
  (refine takeE Ext.tr 37 (by simp only [List.getElem?_toArray, List.getElem?_cons_succ, List.getElem?_cons_zero]; rfl) (by kernel_rfl) (by kernel_rfl) (by kernel_rfl) (by exact fun _ _ _ h => h) (by first | (refine Or.inl ⟨by rfl, ?_⟩; intro W hW; go_simp; try with_reducible rfl) | exact Or.inr ⟨by rfl, rfl⟩) ?_; try simp only [Act.put, List.setIfInBounds_toArray, List.set_cons_zero, List.set_cons_succ])
  (refine takeE Ext.tr 38 (by simp only [List.getElem?_toArray, List.getElem?_cons_succ, List.getElem?_cons_zero]; rfl) (by kernel_rfl) (by kernel_rfl) (by kernel_rfl) (by exact fun _ _ _ h => h) (by first | (refine Or.inl ⟨by rfl, ?_⟩; intro W hW; go_simp; try with_reducible rfl) | exact Or.inr ⟨by rfl, rfl⟩) ?_; try simp only [Act.put, List.setIfInBounds_toArray, List.set_cons_zero, List.set_cons_succ])
  (refine takeE Ext.tr 39 (by simp only [List.getElem?_toArray, List.getElem?_cons_succ, List.getElem?_cons_zero]; rfl) (by kernel_rfl) (by kernel_rfl) (by kernel_rfl) (by exact fun _ _ _ h => h) (by first | (refine Or.inl ⟨by rfl, ?_⟩; intro W hW; go_simp; try with_reducible rfl) | exact Or.inr ⟨by rfl, rfl⟩) ?_; try simp only [Act.put, List.setIfInBounds_toArray, List.set_cons_zero, List.set_cons_succ])
  (refine takeE Ext.tr 40 (by simp only [List.getElem?_toArray, List.getElem?_cons_succ, List.getElem?_cons_zero]; rfl) (by kernel_rfl) (by kernel_rfl) (by kernel_rfl) (by exact fun _ _ _ h => h) (by first | (refine Or.inl ⟨by rfl, ?_⟩; intro W hW; go_simp; try with_reducible rfl) | exact Or.inr ⟨by rfl, rfl⟩) ?_; try simp only [Act.put, List.setIfInBounds_toArray, List.set_cons_zero, List.set_cons_succ])
  (refine takeE Ext.tr 42 (by simp only [List.getElem?_toArray, List.getElem?_cons_succ, List.getElem?_cons_zero]; rfl) (by kernel_rfl) (by kernel_rfl) (by kernel_rfl) (by exact fun _ _ _ h => h) (by first | (refine Or.inl ⟨by rfl, ?_⟩; intro W hW; exact exec_load_bk rowR (.tmp 4) rfl w.heap.size 0 rfl (HK.out.below (Ext.trans _ _ _ hE10 hW)) (rvL B A (B.all true).length c) rfl rfl) | exact Or.inr ⟨by rfl, rfl⟩) ?_; try simp only [Act.put, List.setIfInBounds_toArray, List.set_cons_zero, List.set_cons_succ])
  (refine takeE Ext.tr 43 (by simp only [List.getElem?_toArray, List.getElem?_cons_succ, List.getElem?_cons_zero]; rfl) (by kernel_rfl) (by kernel_rfl) (by kernel_rfl) (by exact fun _ _ _ h => h) (by first | (refine Or.inl ⟨by rfl, ?_⟩; intro W hW; go_simp; try with_reducible rfl) | exact Or.inr ⟨by rfl, rfl⟩) ?_; try simp only [Act.put, List.setIfInBounds_toArray, List.set_cons_zero, List.set_cons_succ])
  refine wpAnyE_one (i := 41) (by kernel_rfl) (by simp only [List.getElem?_toArray, List.getElem?_cons_succ, List.getElem?_cons_zero]; rfl) (fun K hK => ?_)
  go_simp
  refine (t_open (HM.out.below hE10) HT.out HBB.out x).mono ?_
  rintro e v11 ⟨A11, n11, c11, rfl, hl11, hb11⟩
  have hE11 : Ext wd v11 := Ext.trans _ _ _ hE10 hb11
  clear q0 q1 q2
  have q0 : ∀ W, Ext v11 W → W.cell? ⟨w.heap.size, 0, none⟩ = some (.int .i64 B.size) := fun W hW => (HK.out.below (Ext.trans _ _ _ hE11 hW)).cell 0 rfl
  have q1 : ∀ W, Ext v11 W → W.cell? ⟨w.heap.size, 1, none⟩ = some (.int .i64 B.base) := fun W hW => (HK.out.below (Ext.trans _ _ _ hE11 hW)).cell 1 rfl
  have q2 : ∀ W, Ext v11 W → W.cell? ⟨w.heap.size, 2, none⟩ = some (.slice A (B.all true).length c) := fun W hW => (HK.out.below (Ext.trans _ _ _ hE11 hW)).cell 2 rfl
  refine hK.out _ _ hb11 ?_
  clear hK K
  try simp only [Act.put, List.setIfInBounds_toArray, List.set_cons_zero, List.set_cons_succ]
  refine wpAnyE_one (i := 44) (by kernel_rfl) (by simp only [List.getElem?_toArray, List.getElem?_cons_succ, List.getElem?_cons_zero]; rfl) (fun K hK => ?_)
  go_simp
  refine (ropen_any (RdV.below HR.out hE11) HT.out HBB.out x).mono ?_
  rintro e v12 ⟨A12, n12, c12, rfl, hl12, hb12⟩
  have hE12 : Ext wd v12 := Ext.trans _ _ _ hE11 hb12
  clear q0 q1 q2
  have q0 : ∀ W, Ext v12 W → W.cell? ⟨w.heap.size, 0, none⟩ = some (.int .i64 B.size) := fun W hW => (HK.out.below (Ext.trans _ _ _ hE12 hW)).cell 0 rfl
  have q1 : ∀ W, Ext v12 W → W.cell? ⟨w.heap.size, 1, none⟩ = some (.int .i64 B.base) := fun W hW => (HK.out.below (Ext.trans _ _ _ hE12 hW)).cell 1 rfl
  have q2 : ∀ W, Ext v12 W → W.cell? ⟨w.heap.size, 2, none⟩ = some (.slice A (B.all true).length c) := fun W hW => (HK.out.below (Ext.trans _ _ _ hE12 hW)).cell 2 rfl
  refine hK.out _ _ hb12 ?_
  clear hK K
  try simp only [Act.put, List.setIfInBounds_toArray, List.set_cons_zero, List.set_cons_succ]
  refine wpAnyE_one (i := 45) (by kernel_rfl) (by simp only [List.getElem?_toArray, List.getElem?_cons_succ, List.getElem?_cons_zero]; rfl) (fun K hK => ?_)
  go_simp
  refine (same_any A11 A12 n11 c11 n12 c12 (B.opens x) (B.opens x) v12 (hl11.below hb12).rdv hl12.rdv).mono ?_
  rintro e v13 ⟨rfl, hb13⟩
  rw [decide_eq_true (rfl : B.opens x = B.opens x)]
  clear hl11 hl12
  have hE13 : Ext wd v13 := Ext.trans _ _ _ hE12 hb13
  clear q0 q1 q2
  have q0 : ∀ W, Ext v13 W → W.cell? ⟨w.heap.size, 0, none⟩ = some (.int .i64 B.size) := fun W hW => (HK.out.below (Ext.trans _ _ _ hE13 hW)).cell 0 rfl
  have q1 : ∀ W, Ext v13 W → W.cell? ⟨w.heap.size, 1, none⟩ = some (.int .i64 B.base) := fun W hW => (HK.out.below (Ext.trans _ _ _ hE13 hW)).cell 1 rfl
  have q2 : ∀ W, Ext v13 W → W.cell? ⟨w.heap.size, 2, none⟩ = some (.slice A (B.all true).length c) := fun W hW => (HK.out.below (Ext.trans _ _ _ hE13 hW)).cell 2 rfl
  refine hK.out _ _ hb13 ?_
  clear hK K
  try simp only [Act.put, List.setIfInBounds_toArray, List.set_cons_zero, List.set_cons_succ]
  (refine takeE Ext.tr 46 (by simp only [List.getElem?_toArray, List.getElem?_cons_succ, List.getElem?_cons_zero]; rfl) (by kernel_rfl) (by kernel_rfl) (by kernel_rfl) (by exact fun _ _ _ h => h) (by first | (refine Or.inl ⟨by rfl, ?_⟩; intro W hW; go_simp; try with_reducible rfl) | exact Or.inr ⟨by rfl, rfl⟩) ?_; try simp only [Act.put, List.setIfInBounds_toArray, List.set_cons_zero, List.set_cons_succ])
  (refine takeE Ext.tr 47 (by simp only [List.getElem?_toArray, List.getElem?_cons_succ, List.getElem?_cons_zero]; rfl) (by kernel_rfl) (by kernel_rfl) (by kernel_rfl) (by exact fun _ _ _ h => h) (by first | (refine Or.inl ⟨by rfl, ?_⟩; intro W hW; go_simp; try with_reducible rfl) | exact Or.inr ⟨by rfl, rfl⟩) ?_; try simp only [Act.put, List.setIfInBounds_toArray, List.set_cons_zero, List.set_cons_succ])
  refine wpAnyE_done (by kernel_rfl) ?_ _
  skip
  have HF := Lib.hid (HBA.out.trans ((HBD.out.trans (Below.mono hE13 HBD.out.size)).mono HBA.out.size))
  clear q0 q1 q2
  go_wp2
  go_ret
  exact ⟨rfl, HF.out⟩
end Go.Proofs.Ytopmfpdcdclffaa
