/- A receiver is made. -/
import Derived.Test.YtmmjhijgedboiaaE12
set_option linter.unusedSimpArgs false
set_option linter.unusedVariables false
set_option maxRecDepth 100000
namespace Go.Proofs.Ytmmjhijgedboiaa
open Go.RowKit Go.Shelf
/-- Settings. -/
structure Cf where
  c0 : Int
  c1 : Int
  c2 : Int
  c3 : Int
  c4 : Int
  c5 : Int
  c6 : Int
  c7 : Int
  c8 : Int
  c9 : Int
  c10 : Int
  c11 : Int
  c12 : Int
  c13 : Int
def Cf.cl (c : Cf) : List Value := [.int .i64 c.c0, .int .i64 c.c1, .int .i64 c.c2, .int .i64 c.c3, .int .i64 c.c4, .int .i64 c.c5, .int .i64 c.c6, .int .i64 c.c7, .int .i64 c.c8, .int .i64 c.c9, .int .i64 c.c10, .int .i64 c.c11, .int .i64 c.c12, .int .i64 c.c13]
def Rm.new (size pa : Nat) (sr ds cn cl : Int) : Rm := ⟨size, 0, [], pa, sr, ds, cn, cl, 0, 0, 0, false, ⟨[], 0, 0⟩⟩
theorem Rm.new_fit {size pa : Nat} (sr ds cn cl : Int) (h1 : 1 ≤ size) (h2 : size ≤ 256) (h3 : 1 ≤ pa) (h4 : pa ≤ 8) : (Rm.new size pa sr ds cn cl).Fit 0 where
  ok := ⟨⟨h1, h2, by show 0 ≤ _; omega, fun n hn => by simp [Rm.bm, Rm.new, hasK] at hn⟩, List.Pairwise.nil, (by intro p hp; cases hp), ⟨Int.le_refl _, Int.le_refl _⟩, (by show (0 : Int) ≤ 0 ∧ (0 : Int) ≤ ((0 : Nat) : Int) * 65536; omega), Nat.le_refl _, (by show 0 + ([] : List Pk).length ≤ 1000000; exact Nat.zero_le _), ⟨h3, h4⟩, ⟨by show 0 ≤ _; omega, by show 0 + 0 ≤ 0; omega⟩, fun _ => rfl, (by intro p hp; cases hp)⟩
  lc := Nat.le_refl _
  ac := Nat.le_refl _
  lack := by intro p hp; cases hp
theorem ext1 (w : World) (o : Obj) : Below w.heap.size w (w.alloc o) := (Below.refl _ _).alloc (Nat.le_refl _) o
section
variable {w : World}
set_option maxHeartbeats 8000000 in
theorem v_newEnd (c : Cf) (pa size : Nat) (sr ds cn cl : Int) (h1 : c.c1 = pa) (h4 : c.c4 = size) (hs1 : 1 ≤ size) (hs2 : size ≤ 256) : Calls Try.prog 31 #[.agg #[.int .i64 c.c0, .int .i64 c.c1, .int .i64 c.c2, .int .i64 c.c3, .int .i64 c.c4, .int .i64 c.c5, .int .i64 c.c6, .int .i64 c.c7, .int .i64 c.c8, .int .i64 c.c9, .int .i64 c.c10, .int .i64 c.c11, .int .i64 c.c12, .int .i64 c.c13], .agg #[.int .i64 sr, .int .i64 ds, .int .i64 cn, .int .i64 cl, .int .i64 0, .int .i64 0, .int .i64 0, .int .i64 0, .int .i64 0, .int .i64 0, .int .i64 0, .int .i64 0, .bool false, .bool false]] w fun en w' => ∃ e F, en = .returned (.pointer (some ⟨e, 0, none⟩)) ∧ EnC F w' e (Rm.new size pa sr ds cn cl) ∧ (∀ k, F k → w.heap.size ≤ k) ∧ Below w.heap.size w w' := by
  obtain ⟨c0, c1, c2, c3, c4, c5, c6, c7, c8, c9, c10, c11, c12, c13⟩ := c
  dsimp only at h1 h4 ⊢
  subst h1 h4
  obtain ⟨c, hc⟩ : ∃ c : Cf, c = ⟨c0, pa, c2, c3, size, c5, c6, c7, c8, c9, c10, c11, c12, c13⟩ := ⟨_, rfl⟩
  obtain ⟨W2, hW2⟩ : ∃ W2, W2 = (w.alloc (.cells #[.int .i64 c0, .int .i64 pa, .int .i64 c2, .int .i64 c3, .int .i64 size, .int .i64 c5, .int .i64 c6, .int .i64 c7, .int .i64 c8, .int .i64 c9, .int .i64 c10, .int .i64 c11, .int .i64 c12, .int .i64 c13] 23)).alloc (.cells #[.int .i64 sr, .int .i64 ds, .int .i64 cn, .int .i64 cl, .int .i64 0, .int .i64 0, .int .i64 0, .int .i64 0, .int .i64 0, .int .i64 0, .int .i64 0, .int .i64 0, .bool false, .bool false] 58) := ⟨_, rfl⟩
  have hb2 : Below w.heap.size w W2 := by rw [hW2]; exact ((Below.refl _ w).alloc (Nat.le_refl _) _).alloc (by simp) _
  have hz2 : W2.heap.size = w.heap.size + 2 := by rw [hW2]; simp
  have z1 : Bk W2 23 w.heap.size [.int .i64 c0, .int .i64 pa, .int .i64 c2, .int .i64 c3, .int .i64 size, .int .i64 c5, .int .i64 c6, .int .i64 c7, .int .i64 c8, .int .i64 c9, .int .i64 c10, .int .i64 c11, .int .i64 c12, .int .i64 c13] := by
    rw [hW2]; exact (Bk.new w 23 [.int .i64 c0, .int .i64 pa, .int .i64 c2, .int .i64 c3, .int .i64 size, .int .i64 c5, .int .i64 c6, .int .i64 c7, .int .i64 c8, .int .i64 c9, .int .i64 c10, .int .i64 c11, .int .i64 c12, .int .i64 c13]).alloc _
  have z2 : Bk W2 58 (w.heap.size + 1) [.int .i64 sr, .int .i64 ds, .int .i64 cn, .int .i64 cl, .int .i64 0, .int .i64 0, .int .i64 0, .int .i64 0, .int .i64 0, .int .i64 0, .int .i64 0, .int .i64 0, .bool false, .bool false] := by
    have := Bk.new (w.alloc (.cells #[.int .i64 c0, .int .i64 pa, .int .i64 c2, .int .i64 c3, .int .i64 size, .int .i64 c5, .int .i64 c6, .int .i64 c7, .int .i64 c8, .int .i64 c9, .int .i64 c10, .int .i64 c11, .int .i64 c12, .int .i64 c13] 23)) 58 [.int .i64 sr, .int .i64 ds, .int .i64 cn, .int .i64 cl, .int .i64 0, .int .i64 0, .int .i64 0, .int .i64 0, .int .i64 0, .int .i64 0, .int .i64 0, .int .i64 0, .bool false, .bool false]
    rw [World.size_alloc] at this
    rw [hW2]; exact this
  have HZ := Lib.hid (And.intro hb2 (And.intro z1 z2))
  clear hb2 z1 z2 hc
  go_enter Try.func31, Try.ntmps31
  go_wp2_with fail
  rw [← hW2]
  clear hW2
  refine wp_region_E Ext (by kernel_rfl) (fun wd hbd hsz => ?_)
  have HBD := Lib.hid (HZ.out.1.trans (hbd.mono HZ.out.1.size))
  have Z1 := Lib.hid (HZ.out.2.1.below hbd)
  have Z2 := Lib.hid (HZ.out.2.2.below hbd)
  have q1 : ∀ V, Ext wd V → V.cell? ⟨w.heap.size, 1, none⟩ = some (.int .i64 pa) := fun V hV => (Z1.out.below hV).cell 1 rfl
  have hwd : w.heap.size + 2 ≤ wd.heap.size := by have := hbd.size; omega
  clear hsz
  (refine takeE Ext.tr 0 (by simp only [List.getElem?_toArray, List.getElem?_cons_succ, List.getElem?_cons_zero]; rfl) (by kernel_rfl) (by kernel_rfl) (by kernel_rfl) (by exact fun _ _ _ h => h) (by first | (refine Or.inl ⟨by rfl, ?_⟩; intro W hW; exact exec_load_bk rowLn _ rfl (w.heap.size + 1) 0 rfl (Z2.out.below hW) [.int .i64 sr, .int .i64 ds, .int .i64 cn, .int .i64 cl, .int .i64 0, .int .i64 0, .int .i64 0, .int .i64 0, .int .i64 0, .int .i64 0, .int .i64 0, .int .i64 0, .bool false, .bool false] rfl rfl) | exact Or.inr ⟨by rfl, rfl⟩) ?_; try simp only [Act.put, List.setIfInBounds_toArray, List.set_cons_zero, List.set_cons_succ])
  (refine takeE Ext.tr 1 (by simp only [List.getElem?_toArray, List.getElem?_cons_succ, List.getElem?_cons_zero]; rfl) (by kernel_rfl) (by kernel_rfl) (by kernel_rfl) (by exact fun _ _ _ h => h) (by first | (refine Or.inl ⟨by rfl, ?_⟩; intro W hW; go_simp; try with_reducible rfl) | exact Or.inr ⟨by rfl, rfl⟩) ?_; try simp only [Act.put, List.setIfInBounds_toArray, List.set_cons_zero, List.set_cons_succ])
  (refine takeE Ext.tr 2 (by simp only [List.getElem?_toArray, List.getElem?_cons_succ, List.getElem?_cons_zero]; rfl) (by kernel_rfl) (by kernel_rfl) (by kernel_rfl) (by exact fun _ _ _ h => h) (by first | (refine Or.inl ⟨by rfl, ?_⟩; intro W hW; go_simp; try with_reducible rfl) | exact Or.inr ⟨by rfl, rfl⟩) ?_; try simp only [Act.put, List.setIfInBounds_toArray, List.set_cons_zero, List.set_cons_succ])
  refine wpAnyE_two (i := 3) (j := 4) (by kernel_rfl) (by simp only [List.getElem?_toArray, List.getElem?_cons_succ, List.getElem?_cons_zero]; rfl) (by simp only [List.getElem?_toArray, List.getElem?_cons_succ, List.getElem?_cons_zero]; rfl) (fun K hK => ?_) (fun K hK => ?_)
  ·
    go_simp
    skip
    refine hK.out _ _ ((Below.refl _ _).alloc (Nat.le_refl _) _) ?_
    clear hK K
    try simp only [Act.put, List.setIfInBounds_toArray, List.set_cons_zero, List.set_cons_succ]
    refine wpAnyE_one (i := 4) (by kernel_rfl) (by simp only [List.getElem?_toArray, List.getElem?_cons_succ, List.getElem?_cons_zero]; rfl) (fun K hK => ?_)
    go_simp
    refine (j_new _).mono ?_
    rintro en w1 ⟨rfl, hj1, hb1⟩
    have HJ1 := Lib.hid hj1
    have HB1 := Lib.hid hb1
    clear hj1 hb1
    refine hK.out _ _ HB1.out ?_
    clear hK K
    try simp only [Act.put, List.setIfInBounds_toArray, List.set_cons_zero, List.set_cons_succ]
    (refine takeE Ext.tr 5 (by simp only [List.getElem?_toArray, List.getElem?_cons_succ, List.getElem?_cons_zero]; rfl) (by kernel_rfl) (by kernel_rfl) (by kernel_rfl) (by exact fun _ _ _ h => h) (by first | (refine Or.inl ⟨by rfl, ?_⟩; intro W hW; go_simp; try with_reducible rfl) | exact Or.inr ⟨by rfl, rfl⟩) ?_; try simp only [Act.put, List.setIfInBounds_toArray, List.set_cons_zero, List.set_cons_succ])
    refine wpAnyE_one (i := 6) (by kernel_rfl) (by simp only [List.getElem?_toArray, List.getElem?_cons_succ, List.getElem?_cons_zero]; rfl) (fun K hK => ?_)
    go_simp
    skip
    refine hK.out _ _ ((Below.refl _ _).alloc (Nat.le_refl _) _) ?_
    clear hK K
    try simp only [Act.put, List.setIfInBounds_toArray, List.set_cons_zero, List.set_cons_succ]
    (refine takeE Ext.tr 7 (by simp only [List.getElem?_toArray, List.getElem?_cons_succ, List.getElem?_cons_zero]; rfl) (by kernel_rfl) (by kernel_rfl) (by kernel_rfl) (by exact fun _ _ _ h => h) (by first | (refine Or.inl ⟨by rfl, ?_⟩; intro W hW; go_simp; try with_reducible rfl) | exact Or.inr ⟨by rfl, rfl⟩) ?_; try simp only [Act.put, List.setIfInBounds_toArray, List.set_cons_zero, List.set_cons_succ])
    refine wpAnyE_done (by kernel_rfl) ?_ _
    clear q1
    have HMp : Hid (MpI (w1.alloc (.cells #[.pointer none, .int .i64 sr, .int .i64 ds, .int .i64 cn, .int .i64 cl, .int .i64 0, .int .i64 0, .int .i64 0, .int .i64 0, .int .i64 0, .int .i64 0, .int .i64 0, .int .i64 0, .bool false, .bool false, .int .i64 pa, .map (some wd.heap.size), .pointer (some ⟨wd.heap.size + 1, 0, none⟩)] 89)) wd.heap.size []) := Lib.hid (((MpI.new wd).below HB1.out).below (ext1 _ _))
    have HJn : Hid (JnC (· = (wd.heap.size + 1)) (w1.alloc (.cells #[.pointer none, .int .i64 sr, .int .i64 ds, .int .i64 cn, .int .i64 cl, .int .i64 0, .int .i64 0, .int .i64 0, .int .i64 0, .int .i64 0, .int .i64 0, .int .i64 0, .int .i64 0, .bool false, .bool false, .int .i64 pa, .map (some wd.heap.size), .pointer (some ⟨wd.heap.size + 1, 0, none⟩)] 89)) (wd.heap.size + 1) ⟨[], 0, 0⟩) := Lib.hid (by have := HJ1.out; rw [World.size_alloc] at this; exact ⟨none, 0, 0, this.below (ext1 _ _)⟩)
    have HBk : Hid (Bk (w1.alloc (.cells #[.pointer none, .int .i64 sr, .int .i64 ds, .int .i64 cn, .int .i64 cl, .int .i64 0, .int .i64 0, .int .i64 0, .int .i64 0, .int .i64 0, .int .i64 0, .int .i64 0, .int .i64 0, .bool false, .bool false, .int .i64 pa, .map (some wd.heap.size), .pointer (some ⟨wd.heap.size + 1, 0, none⟩)] 89)) 89 w1.heap.size [.pointer none, .int .i64 sr, .int .i64 ds, .int .i64 cn, .int .i64 cl, .int .i64 0, .int .i64 0, .int .i64 0, .int .i64 0, .int .i64 0, .int .i64 0, .int .i64 0, .int .i64 0, .bool false, .bool false, .int .i64 pa, .map (some wd.heap.size), .pointer (some ⟨wd.heap.size + 1, 0, none⟩)]) := Lib.hid (Bk.new w1 89 [.pointer none, .int .i64 sr, .int .i64 ds, .int .i64 cn, .int .i64 cl, .int .i64 0, .int .i64 0, .int .i64 0, .int .i64 0, .int .i64 0, .int .i64 0, .int .i64 0, .int .i64 0, .bool false, .bool false, .int .i64 pa, .map (some wd.heap.size), .pointer (some ⟨wd.heap.size + 1, 0, none⟩)])
    have HBw : Hid (Below w.heap.size w (w1.alloc (.cells #[.pointer none, .int .i64 sr, .int .i64 ds, .int .i64 cn, .int .i64 cl, .int .i64 0, .int .i64 0, .int .i64 0, .int .i64 0, .int .i64 0, .int .i64 0, .int .i64 0, .int .i64 0, .bool false, .bool false, .int .i64 pa, .map (some wd.heap.size), .pointer (some ⟨wd.heap.size + 1, 0, none⟩)] 89))) := Lib.hid (((HBD.out.alloc HBD.out.size _).trans (HB1.out.mono (by simp; omega))).alloc (by have := HB1.out.size; simp at this; omega) _)
    have HCf : Hid (Bk (w1.alloc (.cells #[.pointer none, .int .i64 sr, .int .i64 ds, .int .i64 cn, .int .i64 cl, .int .i64 0, .int .i64 0, .int .i64 0, .int .i64 0, .int .i64 0, .int .i64 0, .int .i64 0, .int .i64 0, .bool false, .bool false, .int .i64 pa, .map (some wd.heap.size), .pointer (some ⟨wd.heap.size + 1, 0, none⟩)] 89)) 23 w.heap.size [.int .i64 c0, .int .i64 pa, .int .i64 c2, .int .i64 c3, .int .i64 size, .int .i64 c5, .int .i64 c6, .int .i64 c7, .int .i64 c8, .int .i64 c9, .int .i64 c10, .int .i64 c11, .int .i64 c12, .int .i64 c13]) := Lib.hid (((Z1.out.alloc _).below HB1.out).alloc _)
    have HOd : Hid (w.heap.size + 2 ≤ wd.heap.size ∧ w.heap.size + 2 ≤ (wd.heap.size + 1) ∧ w.heap.size + 2 ≤ w1.heap.size ∧ wd.heap.size ≠ (wd.heap.size + 1) ∧ w1.heap.size ≠ (wd.heap.size + 1) ∧ w1.heap.size ≠ wd.heap.size) := Lib.hid (by have := HJ1.out.lt _ rfl; rw [World.size_alloc] at this; refine ⟨by omega, by omega, by omega, by omega, by omega, by omega⟩)
    generalize hWW : w1.alloc (.cells #[.pointer none, .int .i64 sr, .int .i64 ds, .int .i64 cn, .int .i64 cl, .int .i64 0, .int .i64 0, .int .i64 0, .int .i64 0, .int .i64 0, .int .i64 0, .int .i64 0, .int .i64 0, .bool false, .bool false, .int .i64 pa, .map (some wd.heap.size), .pointer (some ⟨wd.heap.size + 1, 0, none⟩)] 89) = WW at *
    clear hWW
    have cf4 := HCf.out.cell 4 rfl
    have hbn := b_new size 0 WW hs1 hs2 (by omega)
    rw [show ((0 : Nat) : Int) = 0 from rfl] at hbn
    have HBN := Lib.hid hbn
    clear hbn HJ1 HB1 hbd HBD Z1 Z2 HZ hwd hz2
    go_wp2_with fail
    refine HBN.out.mono ?_
    rintro en w3 ⟨rfl, hbm, hb3⟩
    have bk3 := HBk.out.below hb3
    have c0 := bk3.cell 0 rfl
    have f0 := bk3.free 0
    have HBM := Lib.hid hbm
    have HB3 := Lib.hid hb3
    have hel := HBk.out.lt
    have HK3 := Lib.hid bk3
    clear hbm hb3 HBN
    go_wp2
    go_ret
    obtain ⟨o1, o2, o3, o4, o5, o6⟩ := HOd.out
    have hs4 : St (· = w1.heap.size) w3 (w3.setCell ⟨w1.heap.size, 0, none⟩ (.pointer (some ⟨WW.heap.size, 0, none⟩))) := St.setCell (F := (· = w1.heap.size)) w3 (a := ⟨w1.heap.size, 0, none⟩) rfl _
    have hww := HBw.out.size
    have hbl := HBM.out.lt
    have hgl := HJn.out.lt _ rfl
    have hml := HMp.out.lt
    have h3z : (w3.setCell ⟨w1.heap.size, 0, none⟩ (.pointer (some ⟨WW.heap.size, 0, none⟩))).heap.size = w3.heap.size := by simp
    refine ⟨w1.heap.size, fun k => w.heap.size ≤ k ∧ k < w3.heap.size, rfl, ⟨WW.heap.size, some wd.heap.size, (wd.heap.size + 1), (· = (wd.heap.size + 1)), fun _ => False, ⟨[], 0, 0⟩, ⟨HK3.out.set 0 _, HBM.out.st hs4 (by omega), ?_, (HJn.out.below HB3.out).st hs4 (fun k hk he => by omega), fun _ => ⟨rfl, _, rfl⟩, ⟨by omega, by omega⟩, ⟨by omega, by omega⟩, ?_, ?_, (fun k hk => hk.elim), fun k hk => by rw [h3z]; exact hk.2, ⟨o5, by omega, ?_⟩, ⟨id, id, fun _ _ => id, fun _ _ => id⟩⟩⟩, fun k hk => hk.1, ?_⟩
    · intro b' hb'
      injection hb' with hb'
      subst hb'
      exact ⟨[], (HMp.out.below HB3.out).st hs4 (by omega), ⟨List.nodup_nil, (by intro p hp; cases hp), (by intro p hp; cases hp)⟩⟩
    · intro b' hb'
      injection hb' with hb'
      subst hb'
      exact ⟨by omega, by omega⟩
    · intro k hk
      subst hk
      exact ⟨by omega, by omega⟩
    · intro b' hb'
      injection hb' with hb'
      subst hb'
      exact o4
    · exact (HBw.out.trans (HB3.out.mono hww)).setCell (by show w.heap.size ≤ w1.heap.size; omega) _
  ·
    go_simp
    refine (j_new _).mono ?_
    rintro en w1 ⟨rfl, hj1, hb1⟩
    have HJ1 := Lib.hid hj1
    have HB1 := Lib.hid hb1
    clear hj1 hb1
    refine hK.out _ _ HB1.out ?_
    clear hK K
    try simp only [Act.put, List.setIfInBounds_toArray, List.set_cons_zero, List.set_cons_succ]
    refine wpAnyE_one (i := 3) (by kernel_rfl) (by simp only [List.getElem?_toArray, List.getElem?_cons_succ, List.getElem?_cons_zero]; rfl) (fun K hK => ?_)
    go_simp
    skip
    refine hK.out _ _ ((Below.refl _ _).alloc (Nat.le_refl _) _) ?_
    clear hK K
    try simp only [Act.put, List.setIfInBounds_toArray, List.set_cons_zero, List.set_cons_succ]
    (refine takeE Ext.tr 5 (by simp only [List.getElem?_toArray, List.getElem?_cons_succ, List.getElem?_cons_zero]; rfl) (by kernel_rfl) (by kernel_rfl) (by kernel_rfl) (by exact fun _ _ _ h => h) (by first | (refine Or.inl ⟨by rfl, ?_⟩; intro W hW; go_simp; try with_reducible rfl) | exact Or.inr ⟨by rfl, rfl⟩) ?_; try simp only [Act.put, List.setIfInBounds_toArray, List.set_cons_zero, List.set_cons_succ])
    refine wpAnyE_one (i := 6) (by kernel_rfl) (by simp only [List.getElem?_toArray, List.getElem?_cons_succ, List.getElem?_cons_zero]; rfl) (fun K hK => ?_)
    go_simp
    skip
    refine hK.out _ _ ((Below.refl _ _).alloc (Nat.le_refl _) _) ?_
    clear hK K
    try simp only [Act.put, List.setIfInBounds_toArray, List.set_cons_zero, List.set_cons_succ]
    (refine takeE Ext.tr 7 (by simp only [List.getElem?_toArray, List.getElem?_cons_succ, List.getElem?_cons_zero]; rfl) (by kernel_rfl) (by kernel_rfl) (by kernel_rfl) (by exact fun _ _ _ h => h) (by first | (refine Or.inl ⟨by rfl, ?_⟩; intro W hW; go_simp; try with_reducible rfl) | exact Or.inr ⟨by rfl, rfl⟩) ?_; try simp only [Act.put, List.setIfInBounds_toArray, List.set_cons_zero, List.set_cons_succ])
    refine wpAnyE_done (by kernel_rfl) ?_ _
    clear q1
    have HMp : Hid (MpI ((w1.alloc (.map #[] 0)).alloc (.cells #[.pointer none, .int .i64 sr, .int .i64 ds, .int .i64 cn, .int .i64 cl, .int .i64 0, .int .i64 0, .int .i64 0, .int .i64 0, .int .i64 0, .int .i64 0, .int .i64 0, .int .i64 0, .bool false, .bool false, .int .i64 pa, .map (some w1.heap.size), .pointer (some ⟨wd.heap.size, 0, none⟩)] 89)) w1.heap.size []) := Lib.hid ((MpI.new w1).below (ext1 _ _))
    have HJn : Hid (JnC (· = wd.heap.size) ((w1.alloc (.map #[] 0)).alloc (.cells #[.pointer none, .int .i64 sr, .int .i64 ds, .int .i64 cn, .int .i64 cl, .int .i64 0, .int .i64 0, .int .i64 0, .int .i64 0, .int .i64 0, .int .i64 0, .int .i64 0, .int .i64 0, .bool false, .bool false, .int .i64 pa, .map (some w1.heap.size), .pointer (some ⟨wd.heap.size, 0, none⟩)] 89)) wd.heap.size ⟨[], 0, 0⟩) := Lib.hid (⟨none, 0, 0, (HJ1.out.below (ext1 _ _)).below (ext1 _ _)⟩)
    have HBk : Hid (Bk ((w1.alloc (.map #[] 0)).alloc (.cells #[.pointer none, .int .i64 sr, .int .i64 ds, .int .i64 cn, .int .i64 cl, .int .i64 0, .int .i64 0, .int .i64 0, .int .i64 0, .int .i64 0, .int .i64 0, .int .i64 0, .int .i64 0, .bool false, .bool false, .int .i64 pa, .map (some w1.heap.size), .pointer (some ⟨wd.heap.size, 0, none⟩)] 89)) 89 (w1.heap.size + 1) [.pointer none, .int .i64 sr, .int .i64 ds, .int .i64 cn, .int .i64 cl, .int .i64 0, .int .i64 0, .int .i64 0, .int .i64 0, .int .i64 0, .int .i64 0, .int .i64 0, .int .i64 0, .bool false, .bool false, .int .i64 pa, .map (some w1.heap.size), .pointer (some ⟨wd.heap.size, 0, none⟩)]) := Lib.hid (by have := Bk.new (w1.alloc (.map #[] 0)) 89 [.pointer none, .int .i64 sr, .int .i64 ds, .int .i64 cn, .int .i64 cl, .int .i64 0, .int .i64 0, .int .i64 0, .int .i64 0, .int .i64 0, .int .i64 0, .int .i64 0, .int .i64 0, .bool false, .bool false, .int .i64 pa, .map (some w1.heap.size), .pointer (some ⟨wd.heap.size, 0, none⟩)]; rw [World.size_alloc] at this; exact this)
    have HBw : Hid (Below w.heap.size w ((w1.alloc (.map #[] 0)).alloc (.cells #[.pointer none, .int .i64 sr, .int .i64 ds, .int .i64 cn, .int .i64 cl, .int .i64 0, .int .i64 0, .int .i64 0, .int .i64 0, .int .i64 0, .int .i64 0, .int .i64 0, .int .i64 0, .bool false, .bool false, .int .i64 pa, .map (some w1.heap.size), .pointer (some ⟨wd.heap.size, 0, none⟩)] 89))) := Lib.hid (((HBD.out.trans (HB1.out.mono HBD.out.size)).alloc (by have := HB1.out.size; omega) _).alloc (by have := HB1.out.size; simp; omega) _)
    have HCf : Hid (Bk ((w1.alloc (.map #[] 0)).alloc (.cells #[.pointer none, .int .i64 sr, .int .i64 ds, .int .i64 cn, .int .i64 cl, .int .i64 0, .int .i64 0, .int .i64 0, .int .i64 0, .int .i64 0, .int .i64 0, .int .i64 0, .int .i64 0, .bool false, .bool false, .int .i64 pa, .map (some w1.heap.size), .pointer (some ⟨wd.heap.size, 0, none⟩)] 89)) 23 w.heap.size [.int .i64 c0, .int .i64 pa, .int .i64 c2, .int .i64 c3, .int .i64 size, .int .i64 c5, .int .i64 c6, .int .i64 c7, .int .i64 c8, .int .i64 c9, .int .i64 c10, .int .i64 c11, .int .i64 c12, .int .i64 c13]) := Lib.hid (((Z1.out.below HB1.out).alloc _).alloc _)
    have HOd : Hid (w.heap.size + 2 ≤ w1.heap.size ∧ w.heap.size + 2 ≤ wd.heap.size ∧ w.heap.size + 2 ≤ (w1.heap.size + 1) ∧ w1.heap.size ≠ wd.heap.size ∧ (w1.heap.size + 1) ≠ wd.heap.size ∧ (w1.heap.size + 1) ≠ w1.heap.size) := Lib.hid (by have := HJ1.out.lt _ rfl; refine ⟨by omega, by omega, by omega, by omega, by omega, by omega⟩)
    generalize hWW : (w1.alloc (.map #[] 0)).alloc (.cells #[.pointer none, .int .i64 sr, .int .i64 ds, .int .i64 cn, .int .i64 cl, .int .i64 0, .int .i64 0, .int .i64 0, .int .i64 0, .int .i64 0, .int .i64 0, .int .i64 0, .int .i64 0, .bool false, .bool false, .int .i64 pa, .map (some w1.heap.size), .pointer (some ⟨wd.heap.size, 0, none⟩)] 89) = WW at *
    clear hWW
    have cf4 := HCf.out.cell 4 rfl
    have hbn := b_new size 0 WW hs1 hs2 (by omega)
    rw [show ((0 : Nat) : Int) = 0 from rfl] at hbn
    have HBN := Lib.hid hbn
    clear hbn HJ1 HB1 hbd HBD Z1 Z2 HZ hwd hz2
    go_wp2_with fail
    refine HBN.out.mono ?_
    rintro en w3 ⟨rfl, hbm, hb3⟩
    have bk3 := HBk.out.below hb3
    have c0 := bk3.cell 0 rfl
    have f0 := bk3.free 0
    have HBM := Lib.hid hbm
    have HB3 := Lib.hid hb3
    have hel := HBk.out.lt
    have HK3 := Lib.hid bk3
    clear hbm hb3 HBN
    go_wp2
    go_ret
    obtain ⟨o1, o2, o3, o4, o5, o6⟩ := HOd.out
    have hs4 : St (· = (w1.heap.size + 1)) w3 (w3.setCell ⟨(w1.heap.size + 1), 0, none⟩ (.pointer (some ⟨WW.heap.size, 0, none⟩))) := St.setCell (F := (· = (w1.heap.size + 1))) w3 (a := ⟨(w1.heap.size + 1), 0, none⟩) rfl _
    have hww := HBw.out.size
    have hbl := HBM.out.lt
    have hgl := HJn.out.lt _ rfl
    have hml := HMp.out.lt
    have h3z : (w3.setCell ⟨(w1.heap.size + 1), 0, none⟩ (.pointer (some ⟨WW.heap.size, 0, none⟩))).heap.size = w3.heap.size := by simp
    refine ⟨(w1.heap.size + 1), fun k => w.heap.size ≤ k ∧ k < w3.heap.size, rfl, ⟨WW.heap.size, some w1.heap.size, wd.heap.size, (· = wd.heap.size), fun _ => False, ⟨[], 0, 0⟩, ⟨HK3.out.set 0 _, HBM.out.st hs4 (by omega), ?_, (HJn.out.below HB3.out).st hs4 (fun k hk he => by omega), fun _ => ⟨rfl, _, rfl⟩, ⟨by omega, by omega⟩, ⟨by omega, by omega⟩, ?_, ?_, (fun k hk => hk.elim), fun k hk => by rw [h3z]; exact hk.2, ⟨o5, by omega, ?_⟩, ⟨id, id, fun _ _ => id, fun _ _ => id⟩⟩⟩, fun k hk => hk.1, ?_⟩
    · intro b' hb'
      injection hb' with hb'
      subst hb'
      exact ⟨[], (HMp.out.below HB3.out).st hs4 (by omega), ⟨List.nodup_nil, (by intro p hp; cases hp), (by intro p hp; cases hp)⟩⟩
    · intro b' hb'
      injection hb' with hb'
      subst hb'
      exact ⟨by omega, by omega⟩
    · intro k hk
      subst hk
      exact ⟨by omega, by omega⟩
    · intro b' hb'
      injection hb' with hb'
      subst hb'
      exact o4
    · exact (HBw.out.trans (HB3.out.mono hww)).setCell (by show w.heap.size ≤ (w1.heap.size + 1); omega) _
end
end Go.Proofs.Ytmmjhijgedboiaa
