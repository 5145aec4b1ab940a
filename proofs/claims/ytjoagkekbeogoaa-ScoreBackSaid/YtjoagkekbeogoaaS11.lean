/- The reference of scores: what is counted. -/
import Derived.Test.YtjoagkekbeogoaaS10
set_option linter.unusedSimpArgs false
set_option linter.unusedVariables false
namespace Go.Proofs.Ytjoagkekbeogoaa
open Go.RowKit Go.Shelf

theorem did_rv (S : Sc) (x : Int) (k g c : Nat) : rvL (S.did x k) g c = rvL S g c := by
  unfold Sc.did Sc.blame
  split
  · split
    · rfl
    · split <;> rfl
  · rfl
theorem cnt_row (S : Sc) (tl : List Value) {q k : Nat} (hq : q < S.n) (hk : k < 3) : (tabV (S.n * 4) S.row ++ tl).set (q * 4 + 1 + k) (.int .i64 (S.c (q * 3 + k) + 1)) = tabV ((S.cnt q k).n * 4) (S.cnt q k).row ++ tl := by
  rw [tabV_set_app _ _ _ (by omega)]
  congr 1
  refine tabV_congr fun i hi => ?_
  unfold up Sc.row
  by_cases h1 : i = q * 4 + 1 + k
  · subst h1
    rw [if_pos rfl, if_neg (by omega)]
    show _ = up S.c (q * 3 + k) (S.c (q * 3 + k) + 1) _
    rw [show (q * 4 + 1 + k) / 4 * 3 + ((q * 4 + 1 + k) % 4 - 1) = q * 3 + k from by omega, up_at]
  · rw [if_neg h1]
    by_cases h2 : i % 4 = 0
    · rw [if_pos h2, if_pos h2]; rfl
    · rw [if_neg h2, if_neg h2]
      show _ = up S.c (q * 3 + k) (S.c (q * 3 + k) + 1) _
      rw [up_ne _ _ (by omega)]
def restRow (x : Int) (i : Nat) : Int := if i = 0 then x else 0
theorem susp_row (S : Sc) (tl : List Value) {q : Nat} (hq : q < S.n) : lay (tabV (S.n * 4) S.row ++ tl) (q * 4) (tabV 4 (restRow S.rest)) = tabV ((S.susp q).n * 4) (S.susp q).row ++ tl := by
  rw [tabV_lay_app _ _ _ _ _ (by omega)]
  congr 1
  refine tabV_congr fun i hi => ?_
  unfold Sc.row restRow
  by_cases h1 : q * 4 ≤ i ∧ i < q * 4 + 4
  · rw [if_pos h1]
    have h3 : i / 4 = q := by omega
    by_cases h2 : i % 4 = 0
    · rw [if_pos (by omega), if_pos h2, h3]
      exact (up_at _ _ _).symm
    · rw [if_neg (by omega), if_neg h2]
      exact (if_pos (by omega)).symm
  · rw [if_neg h1]
    by_cases h2 : i % 4 = 0
    · rw [if_pos h2, if_pos h2]
      exact (up_ne _ _ (by omega)).symm
    · rw [if_neg h2, if_neg h2]
      exact (if_neg (by omega)).symm
/-- Within Count: the boxes, and the paths of its own. -/
structure CtI (w : World) (S : Sc) (c' : Nat) (tl : List Value) (W : World) : Prop where
  bx : Bk W 29 w.heap.size (rvL S (w.heap.size + 3) c')
  rs : Bk W 29 (w.heap.size + 1) [.int .i64 0, .slice none 0 0]
  pt : Bk W 63 (w.heap.size + 3) (tabV (S.n * 4) S.row ++ tl)
  bel : Below w.heap.size w W
section
variable {w W W' : World} {g c c' : Nat} {S : Sc} {b : Int} {tl : List Value}
theorem CtI.next (h : CtI w S c' tl W) (hb : Below W.heap.size W W') : CtI w S c' tl W' := ⟨h.bx.below hb, h.rs.below hb, h.pt.below hb, h.bel.trans (hb.mono h.bel.size)⟩
theorem CtI.wr (h : CtI w S c' tl W) {B : Nat} (hw : Wr B W W') (h3 : w.heap.size + 3 < B) : CtI w S c' tl W' := ⟨h.bx.wr hw (by omega), h.rs.wr hw (by omega), h.pt.wr hw (by omega), h.bel.trans (hw.below (by omega) h.bel.size)⟩
theorem CtI.count (h : CtI w S c' tl W) {q k : Nat} (hq : q < S.n) (hk : k < 3) : CtI w (S.cnt q k) c' tl (W.setCell ⟨w.heap.size + 3, q * 4 + 1 + k, none⟩ (.int .i64 (S.c (q * 3 + k) + 1))) := by
  refine ⟨h.bx.far (by simp) _, h.rs.far (by simp) _, ?_, h.bel.setCell (by simp) _⟩
  rw [← cnt_row S tl hq hk]
  exact h.pt.set _ _
theorem CtI.susp (h : CtI w S c' tl W) {q : Nat} (hq : q < S.n) (hk : Bk W' 63 (w.heap.size + 3) (lay (tabV (S.n * 4) S.row ++ tl) (q * 4) (tabV 4 (restRow S.rest)))) (hw : Wr (w.heap.size + 3) W W') : CtI w (S.susp q) c' tl W' := by
  rw [susp_row S tl hq] at hk
  exact ⟨h.bx.wr hw (by omega), h.rs.wr hw (by omega), hk, h.bel.trans (hw.below (by omega) h.bel.size)⟩
set_option maxRecDepth 100000 in
set_option maxHeartbeats 4000000 in
theorem rcount_any (h : Rp w g S) (ho : S.ok b) (hb : b ≤ 99999) (x : Int) (k : Nat) (hk : k < 3) :
    Calls Try.prog 10 #[.agg (rvL S g c).toArray, .int .i64 x, .int .i64 k] w fun e w' => ∃ g' c', e = .returned (.tuple #[.agg (rvL (S.did x k) g' c').toArray, .int .i64 (S.err x)]) ∧ Rp w' g' (S.did x k) ∧ (g' = g ∨ w.heap.size ≤ g') ∧ Below w.heap.size w w' := by
  have h1 := ho.n1
  have h8 := ho.n8
  obtain ⟨wz, hwz⟩ : ∃ wz, wz = (w.alloc (.cells (rvL S g c).toArray 29)).alloc (.cells #[.int .i64 0, .slice none 0 0] 29) := ⟨_, rfl⟩
  have hbz : Below w.heap.size w wz := by rw [hwz]; exact ((Below.refl _ w).alloc (Nat.le_refl _) _).alloc (by simp) _
  have hzz : wz.heap.size = w.heap.size + 2 := by rw [hwz]; simp
  have qz0 : Bk wz 29 w.heap.size (rvL S g c) := by rw [hwz]; exact (Bk.new w _ (rvL S g c)).alloc _
  have qz1 : Bk wz 29 (w.heap.size + 1) [.int .i64 0, .slice none 0 0] := by
    have := Bk.new (w.alloc (.cells (rvL S g c).toArray 29)) 29 [.int .i64 0, .slice none 0 0]
    rw [hwz]; rw [World.size_alloc] at this; exact this
  have cz1 := qz0.cell 1 rfl
  rw [hwz] at cz1
  by_cases hx : S.has x = true
  · have hx' : 0 ≤ x ∧ x < S.n := by simpa [Sc.has] using hx
    obtain ⟨q, rfl⟩ := Int.eq_ofNat_of_zero_le hx'.1
    have HE : Hid (S.err q = 0) := Lib.hid (by simp [Sc.err, hx])
    have hdid : S.did q k = if k = 0 then S.cnt q 0 else S.blame q k := by simp [Sc.did, hx]
    have hqn : (q : Int) < S.n := hx'.2
    have HQ := Lib.hid (show q < S.n by omega)
    have HK3 := Lib.hid hk
    have HRV : Hid (rvL (S.did q k) (w.heap.size + 3) = rvL S (w.heap.size + 3)) := Lib.hid (by funext c; exact did_rv S q k _ c)
    have HDID := Lib.hid hdid
    clear hdid hx'
    obtain ⟨w1, hw1⟩ : ∃ w1, w1 = wz.alloc (.cells #[] 63) := ⟨_, rfl⟩
    have hb1 : Below w.heap.size w w1 := by rw [hw1]; exact hbz.alloc hbz.size _
    have hz1 : w1.heap.size = w.heap.size + 3 := by rw [hw1]; simp; omega
    have q0 : Bk w1 29 w.heap.size (rvL S g c) := by rw [hw1]; exact qz0.alloc _
    have q1 : Bk w1 29 (w.heap.size + 1) [.int .i64 0, .slice none 0 0] := by rw [hw1]; exact qz1.alloc _
    obtain ⟨tl0, hp1⟩ := h.below hb1
    have c1 := q0.cell 1 rfl
    rw [hw1, hwz] at c1
    have H := Lib.hid (And.intro hb1 (And.intro hz1 (And.intro q0 q1)))
    have hp1' := hp1
    rw [hw1, hwz] at hp1'
    rw [hwz] at hw1
    have HW := Lib.hid hw1
    have hy0 := ho.c0 (q * 3 + k)
    obtain ⟨y, hy⟩ : ∃ y, y = S.c (q * 3 + k) := ⟨_, rfl⟩
    rw [← hy] at hy0
    have HY := Lib.hid hy
    have HG : ∀ {tl' : List Value}, Hid ((tabV (S.n * 4) S.row ++ tl')[q * 4 + 1 + k]? = some (.int .i64 y)) := Lib.hid (by rw [hy, tabV_get_app _ _ _ (by omega), row_c _ _ _ hk])
    have hwy : IntKind.i64.wrap (y + 1) = y + 1 := by rw [IntKind.wrap_i64]; omega
    have hk3 : (k : Int) < 3 := by omega
    have HOK := Lib.hid (ho.cnt q k)
    have hb0 : 0 ≤ b := ho.b0
    clear hb1 hz1 q0 q1 hw1 hwz hbz hzz qz0 qz1 hx ho hy
    go_enter Try.func10, Try.ntmps10
    go_wp2_with (at_builtin
                 refine wpList_copy_rows eltP rfl (.tmp 20) (.tmp 22) rfl rfl rfl hp1' (by omega) (by omega) ?_
                 rintro c' tl w4 hk4 hb4
                 rw [← HW.out] at hk4 hb4
                 have q04 := (H.out.2.2.1).below hb4
                 have k1 := q04.cell 1 rfl
                 have f1 := q04.free 1
                 have HK4 := Lib.hid hk4
                 have HB4 := Lib.hid hb4
                 clear hk4 hb4 c1 hp1' cz1)
    simp only [Nat.add_assoc, Nat.reduceAdd]
    obtain ⟨hb1, hz1, q0, q1⟩ := H.out
    have hk4 := HK4.out
    have hb4 := HB4.out
    rw [hz1] at hk4
    have hI5 : CtI w S c' tl (w4.setCell ⟨w.heap.size, 1, none⟩ (.slice (some ⟨w.heap.size + 3, 0, none⟩) S.n c')) :=
      ⟨q04.set 1 (.slice (some ⟨w.heap.size + 3, 0, none⟩) S.n c'), (q1.below hb4).far (p := ⟨w.heap.size, 1, none⟩) (by simp) _, hk4.far (p := ⟨w.heap.size, 1, none⟩) (by simp) _, (hb1.trans (hb4.mono hb1.size)).setCell (Nat.le_refl _) _⟩
    have HI5 := Lib.hid hI5
    clear hI5 hk4 hb4 hb1 hz1 q0 q1 q04 k1 f1 hp1 HK4 HB4 H HW
    generalize w4.setCell ⟨w.heap.size, 1, none⟩ (.slice (some ⟨w.heap.size + 3, 0, none⟩) S.n c') = w5 at *
    refine wp_region_L Ext [12] (by kernel_rfl) (fun wd hbd hsz => ?_)
    have hI := HI5.out.next hbd
    have q0 : ∀ W', Ext wd W' → W'.cell? ⟨w.heap.size, 1, none⟩ = some (.slice (some ⟨w.heap.size + 3, 0, none⟩) S.n c') := fun W' hW => (hI.bx.below hW).cell 1 rfl
    have q1 : ∀ W', Ext wd W' → W'.cell? ⟨w.heap.size + 3, q * 4 + 1 + k, none⟩ = some (.int .i64 y) := fun W' hW => (hI.pt.below hW).cell (q * 4 + 1 + k) HG.out
    have f0 := hI.pt.free (q * 4 + 1 + k)
    have c0 := hI.pt.cell (q * 4 + 1 + k) HG.out
    have HK := Lib.hid (hI.count (q := q) (k := k) HQ.out HK3.out)
    clear hsz hI
    (refine takeL Ext.tr 0 (by simp only [List.getElem?_toArray, List.getElem?_cons_succ, List.getElem?_cons_zero]; rfl) (by kernel_rfl) (by kernel_rfl) (by kernel_rfl) (by kernel_rfl) (by exact fun _ _ _ h => h) (by first | (refine Or.inl ⟨by rfl, ?_⟩; intro W hW; go_simp; try with_reducible rfl) | exact Or.inr ⟨by rfl, rfl⟩) ?_; try simp only [Act.put, List.setIfInBounds_toArray, List.set_cons_zero, List.set_cons_succ])
    (refine takeL Ext.tr 2 (by simp only [List.getElem?_toArray, List.getElem?_cons_succ, List.getElem?_cons_zero]; rfl) (by kernel_rfl) (by kernel_rfl) (by kernel_rfl) (by kernel_rfl) (by exact fun _ _ _ h => h) (by first | (refine Or.inl ⟨by rfl, ?_⟩; intro W hW; go_simp; try with_reducible rfl) | exact Or.inr ⟨by rfl, rfl⟩) ?_; try simp only [Act.put, List.setIfInBounds_toArray, List.set_cons_zero, List.set_cons_succ])
    (refine takeL Ext.tr 3 (by simp only [List.getElem?_toArray, List.getElem?_cons_succ, List.getElem?_cons_zero]; rfl) (by kernel_rfl) (by kernel_rfl) (by kernel_rfl) (by kernel_rfl) (by exact fun _ _ _ h => h) (by first | (refine Or.inl ⟨by rfl, ?_⟩; intro W hW; go_simp; try with_reducible rfl) | exact Or.inr ⟨by rfl, rfl⟩) ?_; try simp only [Act.put, List.setIfInBounds_toArray, List.set_cons_zero, List.set_cons_succ])
    (refine takeL Ext.tr 1 (by simp only [List.getElem?_toArray, List.getElem?_cons_succ, List.getElem?_cons_zero]; rfl) (by kernel_rfl) (by kernel_rfl) (by kernel_rfl) (by kernel_rfl) (by exact fun _ _ _ h => h) (by first | (refine Or.inl ⟨by rfl, ?_⟩; intro W hW; go_simp; try with_reducible rfl) | exact Or.inr ⟨by rfl, rfl⟩) ?_; try simp only [Act.put, List.setIfInBounds_toArray, List.set_cons_zero, List.set_cons_succ])
    (refine takeL Ext.tr 4 (by simp only [List.getElem?_toArray, List.getElem?_cons_succ, List.getElem?_cons_zero]; rfl) (by kernel_rfl) (by kernel_rfl) (by kernel_rfl) (by kernel_rfl) (by exact fun _ _ _ h => h) (by first | (refine Or.inl ⟨by rfl, ?_⟩; intro W hW; go_simp; try with_reducible rfl) | exact Or.inr ⟨by rfl, rfl⟩) ?_; try simp only [Act.put, List.setIfInBounds_toArray, List.set_cons_zero, List.set_cons_succ])
    (refine takeL Ext.tr 9 (by simp only [List.getElem?_toArray, List.getElem?_cons_succ, List.getElem?_cons_zero]; rfl) (by kernel_rfl) (by kernel_rfl) (by kernel_rfl) (by kernel_rfl) (by exact fun _ _ _ h => h) (by first | (refine Or.inl ⟨by rfl, ?_⟩; intro W hW; go_simp; try with_reducible rfl) | exact Or.inr ⟨by rfl, rfl⟩) ?_; try simp only [Act.put, List.setIfInBounds_toArray, List.set_cons_zero, List.set_cons_succ])
    (refine takeL Ext.tr 5 (by simp only [List.getElem?_toArray, List.getElem?_cons_succ, List.getElem?_cons_zero]; rfl) (by kernel_rfl) (by kernel_rfl) (by kernel_rfl) (by kernel_rfl) (by exact fun _ _ _ h => h) (by first | (refine Or.inl ⟨by rfl, ?_⟩; intro W hW; go_simp; try with_reducible rfl) | exact Or.inr ⟨by rfl, rfl⟩) ?_; try simp only [Act.put, List.setIfInBounds_toArray, List.set_cons_zero, List.set_cons_succ])
    (refine takeL Ext.tr 10 (by simp only [List.getElem?_toArray, List.getElem?_cons_succ, List.getElem?_cons_zero]; rfl) (by kernel_rfl) (by kernel_rfl) (by kernel_rfl) (by kernel_rfl) (by exact fun _ _ _ h => h) (by first | (refine Or.inl ⟨by rfl, ?_⟩; intro W hW; go_simp; try with_reducible rfl) | exact Or.inr ⟨by rfl, rfl⟩) ?_; try simp only [Act.put, List.setIfInBounds_toArray, List.set_cons_zero, List.set_cons_succ])
    (refine takeL Ext.tr 6 (by simp only [List.getElem?_toArray, List.getElem?_cons_succ, List.getElem?_cons_zero]; rfl) (by kernel_rfl) (by kernel_rfl) (by kernel_rfl) (by kernel_rfl) (by exact fun _ _ _ h => h) (by first | (refine Or.inl ⟨by rfl, ?_⟩; intro W hW; go_simp; try with_reducible rfl) | exact Or.inr ⟨by rfl, rfl⟩) ?_; try simp only [Act.put, List.setIfInBounds_toArray, List.set_cons_zero, List.set_cons_succ])
    (refine takeL Ext.tr 7 (by simp only [List.getElem?_toArray, List.getElem?_cons_succ, List.getElem?_cons_zero]; rfl) (by kernel_rfl) (by kernel_rfl) (by kernel_rfl) (by kernel_rfl) (by exact fun _ _ _ h => h) (by first | (refine Or.inl ⟨by rfl, ?_⟩; intro W hW; go_simp; try with_reducible rfl) | exact Or.inr ⟨by rfl, rfl⟩) ?_; try simp only [Act.put, List.setIfInBounds_toArray, List.set_cons_zero, List.set_cons_succ])
    (refine takeL Ext.tr 8 (by simp only [List.getElem?_toArray, List.getElem?_cons_succ, List.getElem?_cons_zero]; rfl) (by kernel_rfl) (by kernel_rfl) (by kernel_rfl) (by kernel_rfl) (by exact fun _ _ _ h => h) (by first | (refine Or.inl ⟨by rfl, ?_⟩; intro W hW; go_simp; try with_reducible rfl) | exact Or.inr ⟨by rfl, rfl⟩) ?_; try simp only [Act.put, List.setIfInBounds_toArray, List.set_cons_zero, List.set_cons_succ])
    (refine takeL Ext.tr 11 (by simp only [List.getElem?_toArray, List.getElem?_cons_succ, List.getElem?_cons_zero]; rfl) (by kernel_rfl) (by kernel_rfl) (by kernel_rfl) (by kernel_rfl) (by exact fun _ _ _ h => h) (by first | (refine Or.inl ⟨by rfl, ?_⟩; intro W hW; go_simp; try with_reducible rfl) | exact Or.inr ⟨by rfl, rfl⟩) ?_; try simp only [Act.put, List.setIfInBounds_toArray, List.set_cons_zero, List.set_cons_succ])
    refine wpAnyL_one (i := 12) (by kernel_rfl) (by simp only [List.getElem?_toArray, List.getElem?_cons_succ, List.getElem?_cons_zero]; rfl) (fun K hK => ?_)
    go_simp
    refine hK.out _ _ (.inl (by decide)) ?_
    clear hK K
    try simp only [Act.put, List.setIfInBounds_toArray, List.set_cons_zero, List.set_cons_succ]
    refine wpAnyL_done (by kernel_rfl) ?_ _
    skip
    rw [← HY.out] at HK
    generalize wd.setCell ⟨w.heap.size + 3, q * 4 + 1 + k, none⟩ (.int .i64 (y + 1)) = w6 at *
    obtain ⟨S1, hS1⟩ : ∃ S1, S1 = S.cnt q k := ⟨_, rfl⟩
    have hbl : S.blame q k = if S1.must q = true then S1.susp q else S1 := by rw [hS1]; rfl
    have h0n : S1.n = S.n := by rw [hS1]; rfl
    have h0r : S1.rest = S.rest := by rw [hS1]; rfl
    have hc0 : S.did q k = if k = 0 then S1 else if S1.must q = true then S1.susp q else S1 := by
      rw [HDID.out]
      by_cases hk0 : k = 0
      · subst hk0; rw [if_pos rfl, if_pos rfl, hS1]
      · rw [if_neg hk0, if_neg hk0, hbl]
    rw [← hS1] at HK HOK
    clear hS1 hbl HDID HG HY hwy hy0 HK3 HI5
    have hrvs : ∀ g c, rvL S1 g c = rvL S g c := fun g c => by unfold rvL; rw [h0n, h0r]
    have hrt : S1.rest = S.rest := h0r
    have hI := HK.out
    have d1 := hI.bx.cell 1 (v := .slice (some ⟨w.heap.size + 3, 0, none⟩) S.n c') (by rw [hrvs]; rfl)
    have hq1 : q < S1.n := by rw [h0n]; exact HQ.out
    have HQ1 := Lib.hid hq1
    have HCS := Lib.hid (row_cs S1 tl hq1)
    have hz : Bk (w6.alloc (.cells #[.int .i64 0, .int .i64 0, .int .i64 0] 48)) 48 w6.heap.size (tabV 3 (fun _ => 0)) := Bk.new w6 48 (tabV 3 (fun _ => 0))
    have hIa := hI.next ((Below.refl _ _).alloc (Nat.le_refl _) (.cells #[.int .i64 0, .int .i64 0, .int .i64 0] 48))
    have hwlt : w.heap.size + 3 < w6.heap.size := hI.pt.lt
    have HRT : Hid ((tabV (S1.n * 4) S1.row ++ tl)[q * 4]? = some (.int .i64 (S1.r q))) := Lib.hid (by rw [tabV_get_app _ _ _ (by omega), row_r])
    have HBAD : Hid (S1.bad q = decide (S1.c (q * 3) + 4 < S1.c (q * 3 + 1) + 2 * S1.c (q * 3 + 2))) := Lib.hid rfl
    have hx0 := HOK.out.c0 (q * 3)
    have hx1 := HOK.out.c0 (q * 3 + 1)
    have hx2 := HOK.out.c0 (q * 3 + 2)
    obtain ⟨x0, hX0⟩ : ∃ x0, x0 = S1.c (q * 3) := ⟨_, rfl⟩
    obtain ⟨x1, hX1⟩ : ∃ x1, x1 = S1.c (q * 3 + 1) := ⟨_, rfl⟩
    obtain ⟨x2, hX2⟩ : ∃ x2, x2 = S1.c (q * 3 + 2) := ⟨_, rfl⟩
    have HX0 : Hid ((tabV 3 fun i => S1.c (q * 3 + i))[0]? = some (.int .i64 x0)) := Lib.hid (by rw [hX0]; rfl)
    have HX1 : Hid ((tabV 3 fun i => S1.c (q * 3 + i))[1]? = some (.int .i64 x1)) := Lib.hid (by rw [hX1]; rfl)
    have HX2 : Hid ((tabV 3 fun i => S1.c (q * 3 + i))[2]? = some (.int .i64 x2)) := Lib.hid (by rw [hX2]; rfl)
    rw [← hX0] at hx0 HBAD
    rw [← hX1] at hx1 HBAD
    rw [← hX2] at hx2 HBAD
    have hr0 := HOK.out.t0
    have HRV1 := Lib.hid hrvs
    have HN := Lib.hid h0n
    have HR1 := Lib.hid hrt
    clear hX0 hX1 hX2 h0n h0r hrvs hrt hq1 hI
    generalize (fun i => S1.c (q * 3 + i)) = fc at *
    have hcases : (k = 0 ∧ S.did q k = S1) ∨ (k ≠ 0 ∧ ¬ (x0 + 4 < x1 + 2 * x2) ∧ S.did q k = S1) ∨ (k ≠ 0 ∧ x0 + 4 < x1 + 2 * x2 ∧ S1.r q ≠ 0 ∧ S.did q k = S1) ∨
        (k ≠ 0 ∧ x0 + 4 < x1 + 2 * x2 ∧ S1.r q = 0 ∧ S1.act.length ≤ 1 ∧ S.did q k = S1) ∨ (k ≠ 0 ∧ x0 + 4 < x1 + 2 * x2 ∧ S1.r q = 0 ∧ 1 < S1.act.length ∧ S1.rest = 0 ∧ S.did q k = S1) ∨
        (k ≠ 0 ∧ x0 + 4 < x1 + 2 * x2 ∧ S1.r q = 0 ∧ 1 < S1.act.length ∧ 0 < S1.rest ∧ S.did q k = S1.susp q) := by
      rw [hc0]
      have hb := HBAD.out
      by_cases h1 : k = 0
      · exact .inl ⟨h1, if_pos h1⟩
      · rw [if_neg h1]
        by_cases h2 : x0 + 4 < x1 + 2 * x2
        · by_cases h3 : S1.r q = 0
          · by_cases h4 : 1 < S1.act.length
            · by_cases h5 : S1.rest = 0
              · exact .inr (.inr (.inr (.inr (.inl ⟨h1, h2, h3, h4, h5, if_neg (by simp [Sc.must, h5])⟩))))
              · exact .inr (.inr (.inr (.inr (.inr ⟨h1, h2, h3, h4, by omega, if_pos (by simp [Sc.must, hb, h2, h3, h4]; omega)⟩))))
            · exact .inr (.inr (.inr (.inl ⟨h1, h2, h3, by omega, if_neg (by simp [Sc.must, h4])⟩)))
          · exact .inr (.inr (.inl ⟨h1, h2, h3, if_neg (by simp [Sc.must, h3])⟩))
        · exact .inr (.inl ⟨h1, h2, if_neg (by simp [Sc.must, hb, h2])⟩)
    clear hc0 HBAD
    rcases hcases with ⟨hk0, hd⟩ | ⟨hk0, hbad, hd⟩ | ⟨hk0, hbad, hrq, hd⟩ | ⟨hk0, hbad, hrq, hlen, hd⟩ | ⟨hk0, hbad, hrq, hlen, hrest, hd⟩ | ⟨hk0, hbad, hrq, hlen, hrest, hd⟩
    · subst hk0
      have HD := Lib.hid hd
      clear hd
      go_wp2_with (first
        | (with_reducible refine at_load 48 (.tmp 41) (by rfl) ?_; refine wpList_load_bk row3 rfl (.tmp 41) rfl (w.heap.size + 3) (q * 4 + 1) rfl HK.out.pt (tabV 3 fc) (tabV_len _ _) HCS.out ?_)
        | (with_reducible refine at_store 48 (.tmp 8) (.tmp 42) (by rfl) ?_; refine wpList_store_bk row3 rfl (.tmp 8) (.tmp 42) rfl w6.heap.size 0 rfl hz (tabV 3 fc) rfl (tabV_len _ _) (by decide) (tabV_one _ _) ?_; rintro w7 hr7 hw7
           rw [lay_all _ _ (by simp only [tabV_len])] at hr7
           have n0 := hr7.cell 0 HX0.out
           have n1 := hr7.cell 1 HX1.out
           have n2 := hr7.cell 2 HX2.out
           have hI := hIa.wr hw7 hwlt
           have e0 := hI.bx.cell 0 (v := .int .i64 S.rest) (by rw [HRV1.out]; rfl)
           have e1 := hI.bx.cell 1 (v := .slice (some ⟨w.heap.size + 3, 0, none⟩) S.n c') (by rw [HRV1.out]; rfl)
           have er := hI.pt.cell (q * 4) HRT.out)
        | (with_reducible refine at_load 29 (.tmp 3) (by rfl) ?_; refine wpList_load_bk rowR rfl (.tmp 3) rfl w.heap.size 0 rfl hI.bx (rvL S1 (w.heap.size + 3) c') rfl rfl ?_)
        | (go_at_call 25; refine (ract_any (S := S1) (g := w.heap.size + 3) (c := c') ⟨tl, hI.pt⟩ (by rw [HN.out]; exact h8)).mono ?_; rintro e w8 ⟨A, m, d, rfl, hl, hb8⟩
           have hn := hl.1
           rw [intV_len] at hn
           rw [hn] at hlen
           have hI := hI.next hb8
           have e0 := hI.bx.cell 0 (v := .int .i64 S.rest) (by rw [HRV1.out]; rfl)
           have e1 := hI.bx.cell 1 (v := .slice (some ⟨w.heap.size + 3, 0, none⟩) S.n c') (by rw [HRV1.out]; rfl)
           have er := hI.pt.cell (q * 4) HRT.out)
        | (with_reducible refine at_store 29 (.tmp 6) (.tmp 85) (by rfl) ?_; refine wpList_store_bk rowR rfl (.tmp 6) (.tmp 85) rfl (w.heap.size + 1) 0 rfl hI.rs (rvL S1 (w.heap.size + 3) c') rfl rfl (by decide) (rvL_one _ _ _) ?_; rintro w10 hr10 hw10))
      rw [lay_rv] at hr10
      refine bodyPost_ret (results_cell_tmp rfl rfl (rowR.load hr10 0 (cs := rvL S1 (w.heap.size + 3) c') rfl rfl)) rfl ?_
      have t1 : Rp w10 (w.heap.size + 3) (S.did q 0) := by rw [HD.out]; exact ⟨tl, hI.pt.wr hw10 (by omega)⟩
      have t2 : Below w.heap.size w w10 := hI.bel.trans (hw10.below (by omega) hI.bel.size)
      first
        | exact ⟨w.heap.size + 3, c', by rw [HE.out, HRV.out, HRV1.out]; rfl, t1, .inr (by omega), t2⟩
        | exact ⟨w.heap.size + 3, ⟨c', by rw [HE.out, HRV.out, HRV1.out]; rfl⟩, t1, .inr (by omega), t2⟩
    · have HD := Lib.hid hd
      have hbad' : x1 + 2 * x2 ≤ x0 + 4 := by omega
      clear hd hbad
      have hkz : ((k : Int) != 0) = true := by simp; omega
      go_wp2_with (first
        | (with_reducible refine at_load 48 (.tmp 41) (by rfl) ?_; refine wpList_load_bk row3 rfl (.tmp 41) rfl (w.heap.size + 3) (q * 4 + 1) rfl HK.out.pt (tabV 3 fc) (tabV_len _ _) HCS.out ?_)
        | (with_reducible refine at_store 48 (.tmp 8) (.tmp 42) (by rfl) ?_; refine wpList_store_bk row3 rfl (.tmp 8) (.tmp 42) rfl w6.heap.size 0 rfl hz (tabV 3 fc) rfl (tabV_len _ _) (by decide) (tabV_one _ _) ?_; rintro w7 hr7 hw7
           rw [lay_all _ _ (by simp only [tabV_len])] at hr7
           have n0 := hr7.cell 0 HX0.out
           have n1 := hr7.cell 1 HX1.out
           have n2 := hr7.cell 2 HX2.out
           have hI := hIa.wr hw7 hwlt
           have e0 := hI.bx.cell 0 (v := .int .i64 S.rest) (by rw [HRV1.out]; rfl)
           have e1 := hI.bx.cell 1 (v := .slice (some ⟨w.heap.size + 3, 0, none⟩) S.n c') (by rw [HRV1.out]; rfl)
           have er := hI.pt.cell (q * 4) HRT.out)
        | (with_reducible refine at_load 29 (.tmp 3) (by rfl) ?_; refine wpList_load_bk rowR rfl (.tmp 3) rfl w.heap.size 0 rfl hI.bx (rvL S1 (w.heap.size + 3) c') rfl rfl ?_)
        | (go_at_call 25; refine (ract_any (S := S1) (g := w.heap.size + 3) (c := c') ⟨tl, hI.pt⟩ (by rw [HN.out]; exact h8)).mono ?_; rintro e w8 ⟨A, m, d, rfl, hl, hb8⟩
           have hn := hl.1
           rw [intV_len] at hn
           rw [hn] at hlen
           have hI := hI.next hb8
           have e0 := hI.bx.cell 0 (v := .int .i64 S.rest) (by rw [HRV1.out]; rfl)
           have e1 := hI.bx.cell 1 (v := .slice (some ⟨w.heap.size + 3, 0, none⟩) S.n c') (by rw [HRV1.out]; rfl)
           have er := hI.pt.cell (q * 4) HRT.out)
        | (with_reducible refine at_store 29 (.tmp 6) (.tmp 85) (by rfl) ?_; refine wpList_store_bk rowR rfl (.tmp 6) (.tmp 85) rfl (w.heap.size + 1) 0 rfl hI.rs (rvL S1 (w.heap.size + 3) c') rfl rfl (by decide) (rvL_one _ _ _) ?_; rintro w10 hr10 hw10))
      rw [lay_rv] at hr10
      refine bodyPost_ret (results_cell_tmp rfl rfl (rowR.load hr10 0 (cs := rvL S1 (w.heap.size + 3) c') rfl rfl)) rfl ?_
      have t1 : Rp w10 (w.heap.size + 3) (S.did q k) := by rw [HD.out]; exact ⟨tl, hI.pt.wr hw10 (by omega)⟩
      have t2 : Below w.heap.size w w10 := hI.bel.trans (hw10.below (by omega) hI.bel.size)
      first
        | exact ⟨w.heap.size + 3, c', by rw [HE.out, HRV.out, HRV1.out]; rfl, t1, .inr (by omega), t2⟩
        | exact ⟨w.heap.size + 3, ⟨c', by rw [HE.out, HRV.out, HRV1.out]; rfl⟩, t1, .inr (by omega), t2⟩
    · have HD := Lib.hid hd
      have hkz : ((k : Int) != 0) = true := by simp; omega
      have hrb : (S1.r q == 0) = false := by simpa using hrq
      clear hd hrq
      go_wp2_with (first
        | (with_reducible refine at_load 48 (.tmp 41) (by rfl) ?_; refine wpList_load_bk row3 rfl (.tmp 41) rfl (w.heap.size + 3) (q * 4 + 1) rfl HK.out.pt (tabV 3 fc) (tabV_len _ _) HCS.out ?_)
        | (with_reducible refine at_store 48 (.tmp 8) (.tmp 42) (by rfl) ?_; refine wpList_store_bk row3 rfl (.tmp 8) (.tmp 42) rfl w6.heap.size 0 rfl hz (tabV 3 fc) rfl (tabV_len _ _) (by decide) (tabV_one _ _) ?_; rintro w7 hr7 hw7
           rw [lay_all _ _ (by simp only [tabV_len])] at hr7
           have n0 := hr7.cell 0 HX0.out
           have n1 := hr7.cell 1 HX1.out
           have n2 := hr7.cell 2 HX2.out
           have hI := hIa.wr hw7 hwlt
           have e0 := hI.bx.cell 0 (v := .int .i64 S.rest) (by rw [HRV1.out]; rfl)
           have e1 := hI.bx.cell 1 (v := .slice (some ⟨w.heap.size + 3, 0, none⟩) S.n c') (by rw [HRV1.out]; rfl)
           have er := hI.pt.cell (q * 4) HRT.out)
        | (with_reducible refine at_load 29 (.tmp 3) (by rfl) ?_; refine wpList_load_bk rowR rfl (.tmp 3) rfl w.heap.size 0 rfl hI.bx (rvL S1 (w.heap.size + 3) c') rfl rfl ?_)
        | (go_at_call 25; refine (ract_any (S := S1) (g := w.heap.size + 3) (c := c') ⟨tl, hI.pt⟩ (by rw [HN.out]; exact h8)).mono ?_; rintro e w8 ⟨A, m, d, rfl, hl, hb8⟩
           have hn := hl.1
           rw [intV_len] at hn
           rw [hn] at hlen
           have hI := hI.next hb8
           have e0 := hI.bx.cell 0 (v := .int .i64 S.rest) (by rw [HRV1.out]; rfl)
           have e1 := hI.bx.cell 1 (v := .slice (some ⟨w.heap.size + 3, 0, none⟩) S.n c') (by rw [HRV1.out]; rfl)
           have er := hI.pt.cell (q * 4) HRT.out)
        | (with_reducible refine at_store 29 (.tmp 6) (.tmp 85) (by rfl) ?_; refine wpList_store_bk rowR rfl (.tmp 6) (.tmp 85) rfl (w.heap.size + 1) 0 rfl hI.rs (rvL S1 (w.heap.size + 3) c') rfl rfl (by decide) (rvL_one _ _ _) ?_; rintro w10 hr10 hw10))
      rw [lay_rv] at hr10
      refine bodyPost_ret (results_cell_tmp rfl rfl (rowR.load hr10 0 (cs := rvL S1 (w.heap.size + 3) c') rfl rfl)) rfl ?_
      have t1 : Rp w10 (w.heap.size + 3) (S.did q k) := by rw [HD.out]; exact ⟨tl, hI.pt.wr hw10 (by omega)⟩
      have t2 : Below w.heap.size w w10 := hI.bel.trans (hw10.below (by omega) hI.bel.size)
      first
        | exact ⟨w.heap.size + 3, c', by rw [HE.out, HRV.out, HRV1.out]; rfl, t1, .inr (by omega), t2⟩
        | exact ⟨w.heap.size + 3, ⟨c', by rw [HE.out, HRV.out, HRV1.out]; rfl⟩, t1, .inr (by omega), t2⟩
    · have HD := Lib.hid hd
      have hkz : ((k : Int) != 0) = true := by simp; omega
      rw [hrq] at HRT
      clear hd hrq
      go_wp2_with (first
        | (with_reducible refine at_load 48 (.tmp 41) (by rfl) ?_; refine wpList_load_bk row3 rfl (.tmp 41) rfl (w.heap.size + 3) (q * 4 + 1) rfl HK.out.pt (tabV 3 fc) (tabV_len _ _) HCS.out ?_)
        | (with_reducible refine at_store 48 (.tmp 8) (.tmp 42) (by rfl) ?_; refine wpList_store_bk row3 rfl (.tmp 8) (.tmp 42) rfl w6.heap.size 0 rfl hz (tabV 3 fc) rfl (tabV_len _ _) (by decide) (tabV_one _ _) ?_; rintro w7 hr7 hw7
           rw [lay_all _ _ (by simp only [tabV_len])] at hr7
           have n0 := hr7.cell 0 HX0.out
           have n1 := hr7.cell 1 HX1.out
           have n2 := hr7.cell 2 HX2.out
           have hI := hIa.wr hw7 hwlt
           have e0 := hI.bx.cell 0 (v := .int .i64 S.rest) (by rw [HRV1.out]; rfl)
           have e1 := hI.bx.cell 1 (v := .slice (some ⟨w.heap.size + 3, 0, none⟩) S.n c') (by rw [HRV1.out]; rfl)
           have er := hI.pt.cell (q * 4) HRT.out)
        | (with_reducible refine at_load 29 (.tmp 3) (by rfl) ?_; refine wpList_load_bk rowR rfl (.tmp 3) rfl w.heap.size 0 rfl hI.bx (rvL S1 (w.heap.size + 3) c') rfl rfl ?_)
        | (with_reducible refine at_load 29 (.tmp 3) (by rfl) ?_; refine wpList_load_bk_g rowR (by simp [Region.wanted, yielded] <;> fail) (.tmp 3) rfl w.heap.size 0 rfl hI.bx (rvL S1 (w.heap.size + 3) c') rfl rfl ?_)
        | (go_at_call 25; refine (ract_any (S := S1) (g := w.heap.size + 3) (c := c') ⟨tl, hI.pt⟩ (by rw [HN.out]; exact h8)).mono ?_; rintro e w8 ⟨A, m, d, rfl, hl, hb8⟩
           have hn := hl.1
           rw [intV_len] at hn
           rw [hn] at hlen
           have hI := hI.next hb8
           have e0 := hI.bx.cell 0 (v := .int .i64 S.rest) (by rw [HRV1.out]; rfl)
           have e1 := hI.bx.cell 1 (v := .slice (some ⟨w.heap.size + 3, 0, none⟩) S.n c') (by rw [HRV1.out]; rfl)
           have er := hI.pt.cell (q * 4) HRT.out)
        | (with_reducible refine at_store 29 (.tmp 6) (.tmp 85) (by rfl) ?_; refine wpList_store_bk rowR rfl (.tmp 6) (.tmp 85) rfl (w.heap.size + 1) 0 rfl hI.rs (rvL S1 (w.heap.size + 3) c') rfl rfl (by decide) (rvL_one _ _ _) ?_; rintro w10 hr10 hw10))
      rw [lay_rv] at hr10
      refine bodyPost_ret (results_cell_tmp rfl rfl (rowR.load hr10 0 (cs := rvL S1 (w.heap.size + 3) c') rfl rfl)) rfl ?_
      have t1 : Rp w10 (w.heap.size + 3) (S.did q k) := by rw [HD.out]; exact ⟨tl, hI.pt.wr hw10 (by omega)⟩
      have t2 : Below w.heap.size w w10 := hI.bel.trans (hw10.below (by omega) hI.bel.size)
      first
        | exact ⟨w.heap.size + 3, c', by rw [HE.out, HRV.out, HRV1.out]; rfl, t1, .inr (by omega), t2⟩
        | exact ⟨w.heap.size + 3, ⟨c', by rw [HE.out, HRV.out, HRV1.out]; rfl⟩, t1, .inr (by omega), t2⟩
    · have HD := Lib.hid hd
      have hkz : ((k : Int) != 0) = true := by simp; omega
      rw [hrq] at HRT
      have hrest' : S.rest = 0 := by rw [← HR1.out]; exact hrest
      have HRE := Lib.hid hrest'
      clear hd hrq hrest hrest'
      go_wp2_with (first
        | (with_reducible refine at_load 48 (.tmp 41) (by rfl) ?_; refine wpList_load_bk row3 rfl (.tmp 41) rfl (w.heap.size + 3) (q * 4 + 1) rfl HK.out.pt (tabV 3 fc) (tabV_len _ _) HCS.out ?_)
        | (with_reducible refine at_store 48 (.tmp 8) (.tmp 42) (by rfl) ?_; refine wpList_store_bk row3 rfl (.tmp 8) (.tmp 42) rfl w6.heap.size 0 rfl hz (tabV 3 fc) rfl (tabV_len _ _) (by decide) (tabV_one _ _) ?_; rintro w7 hr7 hw7
           rw [lay_all _ _ (by simp only [tabV_len])] at hr7
           have n0 := hr7.cell 0 HX0.out
           have n1 := hr7.cell 1 HX1.out
           have n2 := hr7.cell 2 HX2.out
           have hI := hIa.wr hw7 hwlt
           have e0 := hI.bx.cell 0 (v := .int .i64 0) (by rw [HRV1.out]; unfold rvL; rw [HRE.out]; rfl)
           have e1 := hI.bx.cell 1 (v := .slice (some ⟨w.heap.size + 3, 0, none⟩) S.n c') (by rw [HRV1.out]; rfl)
           have er := hI.pt.cell (q * 4) HRT.out)
        | (with_reducible refine at_load 29 (.tmp 3) (by rfl) ?_; refine wpList_load_bk rowR rfl (.tmp 3) rfl w.heap.size 0 rfl hI.bx (rvL S1 (w.heap.size + 3) c') rfl rfl ?_)
        | (with_reducible refine at_load 29 (.tmp 3) (by rfl) ?_; refine wpList_load_bk_g rowR (by simp [Region.wanted, yielded] <;> fail) (.tmp 3) rfl w.heap.size 0 rfl hI.bx (rvL S1 (w.heap.size + 3) c') rfl rfl ?_)
        | (go_at_call 25; refine (ract_any (S := S1) (g := w.heap.size + 3) (c := c') ⟨tl, hI.pt⟩ (by rw [HN.out]; exact h8)).mono ?_; rintro e w8 ⟨A, m, d, rfl, hl, hb8⟩
           have hn := hl.1
           rw [intV_len] at hn
           rw [hn] at hlen
           have hI := hI.next hb8
           have e0 := hI.bx.cell 0 (v := .int .i64 0) (by rw [HRV1.out]; unfold rvL; rw [HRE.out]; rfl)
           have e1 := hI.bx.cell 1 (v := .slice (some ⟨w.heap.size + 3, 0, none⟩) S.n c') (by rw [HRV1.out]; rfl)
           have er := hI.pt.cell (q * 4) HRT.out)
        | (with_reducible refine at_store 29 (.tmp 6) (.tmp 85) (by rfl) ?_; refine wpList_store_bk rowR rfl (.tmp 6) (.tmp 85) rfl (w.heap.size + 1) 0 rfl hI.rs (rvL S1 (w.heap.size + 3) c') rfl rfl (by decide) (rvL_one _ _ _) ?_; rintro w10 hr10 hw10))
      rw [lay_rv] at hr10
      refine bodyPost_ret (results_cell_tmp rfl rfl (rowR.load hr10 0 (cs := rvL S1 (w.heap.size + 3) c') rfl rfl)) rfl ?_
      have t1 : Rp w10 (w.heap.size + 3) (S.did q k) := by rw [HD.out]; exact ⟨tl, hI.pt.wr hw10 (by omega)⟩
      have t2 : Below w.heap.size w w10 := hI.bel.trans (hw10.below (by omega) hI.bel.size)
      first
        | exact ⟨w.heap.size + 3, c', by rw [HE.out, HRV.out, HRV1.out]; rfl, t1, .inr (by omega), t2⟩
        | exact ⟨w.heap.size + 3, ⟨c', by rw [HE.out, HRV.out, HRV1.out]; rfl⟩, t1, .inr (by omega), t2⟩
    · have HD := Lib.hid hd
      have hkz : ((k : Int) != 0) = true := by simp; omega
      rw [hrq] at HRT
      have hrest' : 0 < S.rest := by rw [← HR1.out]; exact hrest
      clear hd hrq hrest
      go_wp2_with (first
        | (with_reducible refine at_load 48 (.tmp 41) (by rfl) ?_; refine wpList_load_bk row3 rfl (.tmp 41) rfl (w.heap.size + 3) (q * 4 + 1) rfl HK.out.pt (tabV 3 fc) (tabV_len _ _) HCS.out ?_)
        | (with_reducible refine at_store 48 (.tmp 8) (.tmp 42) (by rfl) ?_; refine wpList_store_bk row3 rfl (.tmp 8) (.tmp 42) rfl w6.heap.size 0 rfl hz (tabV 3 fc) rfl (tabV_len _ _) (by decide) (tabV_one _ _) ?_; rintro w7 hr7 hw7
           rw [lay_all _ _ (by simp only [tabV_len])] at hr7
           have n0 := hr7.cell 0 HX0.out
           have n1 := hr7.cell 1 HX1.out
           have n2 := hr7.cell 2 HX2.out
           have hI := hIa.wr hw7 hwlt
           have e0 := hI.bx.cell 0 (v := .int .i64 S.rest) (by rw [HRV1.out]; rfl)
           have e1 := hI.bx.cell 1 (v := .slice (some ⟨w.heap.size + 3, 0, none⟩) S.n c') (by rw [HRV1.out]; rfl)
           have er := hI.pt.cell (q * 4) HRT.out)
        | (with_reducible refine at_load 29 (.tmp 3) (by rfl) ?_; refine wpList_load_bk rowR rfl (.tmp 3) rfl w.heap.size 0 rfl hI.bx (rvL S1 (w.heap.size + 3) c') rfl rfl ?_)
        | (with_reducible refine at_load 29 (.tmp 3) (by rfl) ?_; refine wpList_load_bk_g rowR (by simp [Region.wanted, yielded] <;> fail) (.tmp 3) rfl w.heap.size 0 rfl hI.bx (rvL S1 (w.heap.size + 3) c') rfl rfl ?_)
        | (go_at_call 25; refine (ract_any (S := S1) (g := w.heap.size + 3) (c := c') ⟨tl, hI.pt⟩ (by rw [HN.out]; exact h8)).mono ?_; rintro e w8 ⟨A, m, d, rfl, hl, hb8⟩
           have hn := hl.1
           rw [intV_len] at hn
           rw [hn] at hlen
           have hI := hI.next hb8
           have e0 := hI.bx.cell 0 (v := .int .i64 S.rest) (by rw [HRV1.out]; rfl)
           have e1 := hI.bx.cell 1 (v := .slice (some ⟨w.heap.size + 3, 0, none⟩) S.n c') (by rw [HRV1.out]; rfl)
           have er := hI.pt.cell (q * 4) HRT.out)
        | (with_reducible refine at_store 63 (.tmp 84) (.tmp 83) (by rfl) ?_; refine wpList_store_bk rowP rfl (.tmp 84) (.tmp 83) rfl (w.heap.size + 3) (q * 4) rfl hI.pt (tabV 4 (restRow S.rest)) rfl (tabV_len _ _) (by rw [List.length_append, tabV_len]; have := HQ1.out; omega) (tabV_one _ _) ?_; rintro w9 hr9 hw9
           rw [← HR1.out] at hr9
           have hI := hI.susp HQ1.out hr9 hw9)
        | (with_reducible refine at_store 29 (.tmp 6) (.tmp 85) (by rfl) ?_; refine wpList_store_bk rowR rfl (.tmp 6) (.tmp 85) rfl (w.heap.size + 1) 0 rfl hI.rs (rvL S1 (w.heap.size + 3) c') rfl rfl (by decide) (rvL_one _ _ _) ?_; rintro w10 hr10 hw10))
      rw [lay_rv] at hr10
      refine bodyPost_ret (results_cell_tmp rfl rfl (rowR.load hr10 0 (cs := rvL S1 (w.heap.size + 3) c') rfl rfl)) rfl ?_
      have t1 : Rp w10 (w.heap.size + 3) (S.did q k) := by rw [HD.out]; exact ⟨tl, hI.pt.wr hw10 (by omega)⟩
      have t2 : Below w.heap.size w w10 := hI.bel.trans (hw10.below (by omega) hI.bel.size)
      first
        | exact ⟨w.heap.size + 3, c', by rw [HE.out, HRV.out, HRV1.out]; rfl, t1, .inr (by omega), t2⟩
        | exact ⟨w.heap.size + 3, ⟨c', by rw [HE.out, HRV.out, HRV1.out]; rfl⟩, t1, .inr (by omega), t2⟩
  · have hx : S.has x = false := by simpa using hx
    have HE : Hid (S.err x = 5) := Lib.hid (by simp [Sc.err, hx])
    have HD : Hid (S.did x k = S) := Lib.hid (by simp [Sc.did, hx])
    have hnx : ¬ (0 ≤ x ∧ x < S.n) := by simpa [Sc.has] using hx
    have hcs : x < 0 ∨ 0 ≤ x ∧ (S.n : Int) ≤ x := by omega
    clear hnx
    have HB := Lib.hid hbz
    have HP := Lib.hid (h.below hbz)
    rw [hwz] at qz0 qz1 HB HP
    clear ho hx hbz hzz hwz
    rcases hcs with h0 | ⟨h0, h0'⟩
    all_goals
      go_enter Try.func10, Try.ntmps10
      go_wp2_with (first
        | (with_reducible refine at_load 29 (.tmp 3) (by rfl) ?_; refine wpList_load_bk rowR rfl (.tmp 3) rfl w.heap.size 0 rfl qz0 (rvL S g c) rfl rfl ?_)
        | (with_reducible refine at_store 29 (.tmp 6) (.tmp 19) (by rfl) ?_; refine wpList_store_bk rowR rfl (.tmp 6) (.tmp 19) rfl (w.heap.size + 1) 0 rfl qz1 (rvL S g c) rfl rfl (by decide) (rvL_one _ _ _) ?_; rintro w5 hr5 hw5))
      rw [lay_rv] at hr5
      refine bodyPost_ret (results_cell_tmp rfl rfl (rowR.load hr5 0 (cs := rvL S g c) rfl rfl)) rfl ⟨g, c, by rw [HE.out, HD.out]; rfl, ?_, .inl rfl, HB.out.trans (hw5.below (by omega) HB.out.size)⟩
      rw [HD.out]
      obtain ⟨tl, ht⟩ := HP.out
      have hgl := h.lt
      exact ⟨tl, ht.wr hw5 (by omega)⟩
end
end Go.Proofs.Ytjoagkekbeogoaa
