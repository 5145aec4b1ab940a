/- The law of codes. -/
import Derived.Test.YtochbcemobkegaaM4
import Derived.Test.YtochbcemobkegaaW16
import Derived.Deep.DeepCutAuto
import Derived.Outline
set_option linter.unusedSimpArgs false
set_option linter.unusedVariables false
namespace Go.Proofs.Ytochbcemobkegaa
open Go.RowKit Go.Shelf
set_option maxRecDepth 100000 in
set_option maxHeartbeats 16000000 in
theorem lawCodes (kd fl pa sr ds cn sq pu : Int) (A : Option Addr) (n c : Nat) (xs0 : List Int) (A1 : Option Addr) (n1 c1 : Nat) (bs0 : List Int) (w : World) (h0 : Rd .u8 w A n c xs0) (k0 : Rd .u8 w A1 n1 c1 bs0) (hf : fl ≤ 9223372036854775807) :
    Calls Try.prog 3 #[.agg #[.int .i64 kd, .int .i64 fl, .int .i64 pa, .int .i64 sr, .int .i64 ds, .int .i64 cn, .int .i64 sq, .int .i64 pu, .slice A n c], .slice A1 n1 c1] w fun e w' => e = .returned (.bool true) ∧ Below w.heap.size w w' := by
  have hnc := h0.2.1
  have hcm := h0.2.2.1
  have hnc1 := k0.2.1
  have hcm1 := k0.2.2.1
  unfold maxLen at hcm1
  obtain ⟨m, hm⟩ : ∃ m, m = min n 1100 := ⟨_, rfl⟩
  obtain ⟨xs, hxs⟩ : ∃ xs, xs = xs0.take m := ⟨_, rfl⟩
  obtain ⟨m1, hm1⟩ : ∃ m, m = min n1 1200 := ⟨_, rfl⟩
  obtain ⟨bs, hbs⟩ : ∃ bs, bs = bs0.take m1 := ⟨_, rfl⟩
  have hx : Rd .u8 w A m c xs := by rw [hxs]; exact h0.pre (by omega)
  have hy : Rd .u8 w A1 m1 c1 bs := by rw [hbs]; exact k0.pre (by omega)
  have hm2 : m ≤ 1100 := by omega
  have hm3 : m1 ≤ 1200 := by omega
  have HM := Lib.hid hm
  have HM1 := Lib.hid hm1
  have HLX := Lib.hid hx.1
  have HLY := Lib.hid hy.1
  have HXW := Lib.hid hx.2.2.2.2.1
  have HYW := Lib.hid hy.2.2.2.2.1
  clear hm hxs hm1 hbs h0 k0
  go_enter Try.func3, Try.ntmps3
  go_upto_region 1 with fail
  have hp0 := Bk.new w 25 [.int .i64 kd, .int .i64 fl, .int .i64 pa, .int .i64 sr, .int .i64 ds, .int .i64 cn, .int .i64 sq, .int .i64 pu, .slice A n c]
  have hb0 := (Below.refl w.heap.size w).alloc (Nat.le_refl _) (.cells ([.int .i64 kd, .int .i64 fl, .int .i64 pa, .int .i64 sr, .int .i64 ds, .int .i64 cn, .int .i64 sq, .int .i64 pu, .slice A n c]).toArray 25)
  go_cut [1] (fun s1 wx => s1 = .slice A1 m1 c1 ∧ Bk wx 25 w.heap.size [.int .i64 kd, .int .i64 fl, .int .i64 pa, .int .i64 sr, .int .i64 ds, .int .i64 cn, .int .i64 sq, .int .i64 pu, .slice A m c] ∧ Below w.heap.size w wx)
  case first =>
    by_cases h12 : n1 ≤ 1200
    · have e12 := HM1.out
      rw [Nat.min_eq_left h12] at e12
      have HE12 := Lib.hid e12
      clear e12
      have i1 : ¬ (1200 : Int) < n1 := by omega
      have i2 : (n1 : Int) ≤ c1 := by omega
      refine wp_region_E (Below w.heap.size) (by kernel_rfl) (fun wd hbd hsz => ?_)
      have hp := (hp0.below hbd)
      have hc := hb0.trans (hbd.mono (by simp))
      have hsz0 : w.heap.size ≤ wd.heap.size := hc.size
      clear hbd hsz
      have hp9 := hp.cells9
      (refine takeE (belowTr w.heap.size) 2 (by simp only [List.getElem?_toArray, List.getElem?_cons_succ, List.getElem?_cons_zero]; rfl) (by kernel_rfl) (by kernel_rfl) (by kernel_rfl) (by exact fun _ _ _ h => h) (by first | (refine Or.inl ⟨by rfl, ?_⟩; intro W hW; go_simp; try with_reducible rfl) | exact Or.inr ⟨by rfl, rfl⟩) ?_; try simp only [Act.put, List.setIfInBounds_toArray, List.set_cons_zero, List.set_cons_succ])
      (refine takeE (belowTr w.heap.size) 3 (by simp only [List.getElem?_toArray, List.getElem?_cons_succ, List.getElem?_cons_zero]; rfl) (by kernel_rfl) (by kernel_rfl) (by kernel_rfl) (by exact fun _ _ _ h => h) (by first | (refine Or.inl ⟨by rfl, ?_⟩; intro W hW; go_simp; try with_reducible rfl) | exact Or.inr ⟨by rfl, rfl⟩) ?_; try simp only [Act.put, List.setIfInBounds_toArray, List.set_cons_zero, List.set_cons_succ])
      (refine takeE (belowTr w.heap.size) 4 (by simp only [List.getElem?_toArray, List.getElem?_cons_succ, List.getElem?_cons_zero]; rfl) (by kernel_rfl) (by kernel_rfl) (by kernel_rfl) (by exact fun _ _ _ h => h) (by first | (refine Or.inl ⟨by rfl, ?_⟩; intro W hW; go_simp; try with_reducible rfl) | exact Or.inr ⟨by rfl, rfl⟩) ?_; try simp only [Act.put, List.setIfInBounds_toArray, List.set_cons_zero, List.set_cons_succ])
      (refine takeE (belowTr w.heap.size) 5 (by simp only [List.getElem?_toArray, List.getElem?_cons_succ, List.getElem?_cons_zero]; rfl) (by kernel_rfl) (by kernel_rfl) (by kernel_rfl) (by exact fun _ _ _ h => h) (by first | (refine Or.inl ⟨by rfl, ?_⟩; intro W hW; go_simp; try with_reducible rfl) | exact Or.inr ⟨by rfl, rfl⟩) ?_; try simp only [Act.put, List.setIfInBounds_toArray, List.set_cons_zero, List.set_cons_succ])
      (refine takeE (belowTr w.heap.size) 6 (by simp only [List.getElem?_toArray, List.getElem?_cons_succ, List.getElem?_cons_zero]; rfl) (by kernel_rfl) (by kernel_rfl) (by kernel_rfl) (by exact fun _ _ _ h => h) (by first | (refine Or.inl ⟨by rfl, ?_⟩; intro W hW; go_simp; try with_reducible rfl) | exact Or.inr ⟨by rfl, rfl⟩) ?_; try simp only [Act.put, List.setIfInBounds_toArray, List.set_cons_zero, List.set_cons_succ])
      refine wpAnyE_one (i := 0) (by kernel_rfl) (by simp only [List.getElem?_toArray, List.getElem?_cons_succ, List.getElem?_cons_zero]; rfl) (fun K hK => ?_)
      go_simp
      refine hK.out _ _ (Below.refl _ _) ?_
      clear hK K
      try simp only [Act.put, List.setIfInBounds_toArray, List.set_cons_zero, List.set_cons_succ]
      refine wpAnyE_one (i := 1) (by kernel_rfl) (by simp only [List.getElem?_toArray, List.getElem?_cons_succ, List.getElem?_cons_zero]; rfl) (fun K hK => ?_)
      go_simp
      refine (few_any _ _ _ _ _ _ _ _ _ _ _ _ hnc hcm).mono ?_
      rintro e W1 ⟨rfl, hb⟩
      rw [← HM.out]
      have hE := hb.mono hsz0
      have hp := hp.below hb
      have hc := hc.trans hE
      clear hb hp9
      have hp9 := hp.cells9
      go_simp
      refine hK.out _ _ hE ?_
      clear hK K
      try simp only [Act.put, List.setIfInBounds_toArray, List.set_cons_zero, List.set_cons_succ]
      refine wpAnyE_one (i := 7) (by kernel_rfl) (by simp only [List.getElem?_toArray, List.getElem?_cons_succ, List.getElem?_cons_zero]; rfl) (fun K hK => ?_)
      have hpf := fun i => hp.free i
      go_simp
      obtain ⟨W2, hW, hWx, hWb, hWk, hWo, hWs, -⟩ := pk_store (.int .i64 kd) (.int .i64 fl) (.int .i64 pa) (.int .i64 sr) (.int .i64 ds) (.int .i64 cn) (.int .i64 sq) (.int .i64 pu) (.slice A m c) hp
      rw [hW]
      have hE := hWb _ (Nat.le_refl _)
      have hp := hWx
      have hc := hc.trans hE
      refine hK.out _ _ hE ?_
      clear hK K
      try simp only [Act.put, List.setIfInBounds_toArray, List.set_cons_zero, List.set_cons_succ]
      (refine takeE (belowTr w.heap.size) 8 (by simp only [List.getElem?_toArray, List.getElem?_cons_succ, List.getElem?_cons_zero]; rfl) (by kernel_rfl) (by kernel_rfl) (by kernel_rfl) (by exact fun _ _ _ h => h) (by first | (refine Or.inl ⟨by rfl, ?_⟩; intro W hW; go_simp; try with_reducible rfl) | exact Or.inr ⟨by rfl, rfl⟩) ?_; try simp only [Act.put, List.setIfInBounds_toArray, List.set_cons_zero, List.set_cons_succ])
      refine wpAnyE_done (by kernel_rfl) ?_ _
      go_wp2_with fail
      go_meet
      exact ⟨by rw [HE12.out], hp, hc⟩
    · have e12 := HM1.out
      rw [Nat.min_eq_right (by omega)] at e12
      have HE12 := Lib.hid e12
      clear e12
      have i1 : (1200 : Int) < n1 := by omega
      have i2 : (1200 : Int) ≤ c1 := by omega
      have h6 : 1200 ≤ n1 := by omega
      have h7 : 1200 ≤ c1 := by omega
      refine wp_region_E (Below w.heap.size) (by kernel_rfl) (fun wd hbd hsz => ?_)
      have hp := (hp0.below hbd)
      have hc := hb0.trans (hbd.mono (by simp))
      have hsz0 : w.heap.size ≤ wd.heap.size := hc.size
      clear hbd hsz
      have hp9 := hp.cells9
      (refine takeE (belowTr w.heap.size) 2 (by simp only [List.getElem?_toArray, List.getElem?_cons_succ, List.getElem?_cons_zero]; rfl) (by kernel_rfl) (by kernel_rfl) (by kernel_rfl) (by exact fun _ _ _ h => h) (by first | (refine Or.inl ⟨by rfl, ?_⟩; intro W hW; go_simp; try with_reducible rfl) | exact Or.inr ⟨by rfl, rfl⟩) ?_; try simp only [Act.put, List.setIfInBounds_toArray, List.set_cons_zero, List.set_cons_succ])
      (refine takeE (belowTr w.heap.size) 3 (by simp only [List.getElem?_toArray, List.getElem?_cons_succ, List.getElem?_cons_zero]; rfl) (by kernel_rfl) (by kernel_rfl) (by kernel_rfl) (by exact fun _ _ _ h => h) (by first | (refine Or.inl ⟨by rfl, ?_⟩; intro W hW; go_simp; try with_reducible rfl) | exact Or.inr ⟨by rfl, rfl⟩) ?_; try simp only [Act.put, List.setIfInBounds_toArray, List.set_cons_zero, List.set_cons_succ])
      (refine takeE (belowTr w.heap.size) 4 (by simp only [List.getElem?_toArray, List.getElem?_cons_succ, List.getElem?_cons_zero]; rfl) (by kernel_rfl) (by kernel_rfl) (by kernel_rfl) (by exact fun _ _ _ h => h) (by first | (refine Or.inl ⟨by rfl, ?_⟩; intro W hW; go_simp; try with_reducible rfl) | exact Or.inr ⟨by rfl, rfl⟩) ?_; try simp only [Act.put, List.setIfInBounds_toArray, List.set_cons_zero, List.set_cons_succ])
      (refine takeE (belowTr w.heap.size) 5 (by simp only [List.getElem?_toArray, List.getElem?_cons_succ, List.getElem?_cons_zero]; rfl) (by kernel_rfl) (by kernel_rfl) (by kernel_rfl) (by exact fun _ _ _ h => h) (by first | (refine Or.inl ⟨by rfl, ?_⟩; intro W hW; go_simp; try with_reducible rfl) | exact Or.inr ⟨by rfl, rfl⟩) ?_; try simp only [Act.put, List.setIfInBounds_toArray, List.set_cons_zero, List.set_cons_succ])
      (refine takeE (belowTr w.heap.size) 6 (by simp only [List.getElem?_toArray, List.getElem?_cons_succ, List.getElem?_cons_zero]; rfl) (by kernel_rfl) (by kernel_rfl) (by kernel_rfl) (by exact fun _ _ _ h => h) (by first | (refine Or.inl ⟨by rfl, ?_⟩; intro W hW; go_simp; try with_reducible rfl) | exact Or.inr ⟨by rfl, rfl⟩) ?_; try simp only [Act.put, List.setIfInBounds_toArray, List.set_cons_zero, List.set_cons_succ])
      refine wpAnyE_one (i := 0) (by kernel_rfl) (by simp only [List.getElem?_toArray, List.getElem?_cons_succ, List.getElem?_cons_zero]; rfl) (fun K hK => ?_)
      go_simp
      refine hK.out _ _ (Below.refl _ _) ?_
      clear hK K
      try simp only [Act.put, List.setIfInBounds_toArray, List.set_cons_zero, List.set_cons_succ]
      refine wpAnyE_one (i := 1) (by kernel_rfl) (by simp only [List.getElem?_toArray, List.getElem?_cons_succ, List.getElem?_cons_zero]; rfl) (fun K hK => ?_)
      go_simp
      refine (few_any _ _ _ _ _ _ _ _ _ _ _ _ hnc hcm).mono ?_
      rintro e W1 ⟨rfl, hb⟩
      rw [← HM.out]
      have hE := hb.mono hsz0
      have hp := hp.below hb
      have hc := hc.trans hE
      clear hb hp9
      have hp9 := hp.cells9
      go_simp
      refine hK.out _ _ hE ?_
      clear hK K
      try simp only [Act.put, List.setIfInBounds_toArray, List.set_cons_zero, List.set_cons_succ]
      refine wpAnyE_one (i := 7) (by kernel_rfl) (by simp only [List.getElem?_toArray, List.getElem?_cons_succ, List.getElem?_cons_zero]; rfl) (fun K hK => ?_)
      have hpf := fun i => hp.free i
      go_simp
      obtain ⟨W2, hW, hWx, hWb, hWk, hWo, hWs, -⟩ := pk_store (.int .i64 kd) (.int .i64 fl) (.int .i64 pa) (.int .i64 sr) (.int .i64 ds) (.int .i64 cn) (.int .i64 sq) (.int .i64 pu) (.slice A m c) hp
      rw [hW]
      have hE := hWb _ (Nat.le_refl _)
      have hp := hWx
      have hc := hc.trans hE
      refine hK.out _ _ hE ?_
      clear hK K
      try simp only [Act.put, List.setIfInBounds_toArray, List.set_cons_zero, List.set_cons_succ]
      (refine takeE (belowTr w.heap.size) 8 (by simp only [List.getElem?_toArray, List.getElem?_cons_succ, List.getElem?_cons_zero]; rfl) (by kernel_rfl) (by kernel_rfl) (by kernel_rfl) (by exact fun _ _ _ h => h) (by first | (refine Or.inl ⟨by rfl, ?_⟩; intro W hW; go_simp; try with_reducible rfl) | exact Or.inr ⟨by rfl, rfl⟩) ?_; try simp only [Act.put, List.setIfInBounds_toArray, List.set_cons_zero, List.set_cons_succ])
      refine wpAnyE_done (by kernel_rfl) ?_ _
      go_wp2_with fail
      go_meet
      exact ⟨by rw [HE12.out], hp, hc⟩
  case rest =>
    obtain ⟨rfl, hp, hc⟩ := hcut
    clear hp0 hb0 hnc hcm hnc1 hcm1
    have hx := hx.below hc
    have hy := hy.below hc
    cases hck : chkB ⟨kd, fl, pa, sr, ds, cn, sq, pu⟩ (m : Int)
    all_goals
      have HCK := Lib.hid hck
      clear hck
      have hp9 := hp.cells9
      go_wp2_with fail
      refine (encode_all _ _ _ _ _ _ _ _ A m c xs _ hx hf).mono ?_
      rintro e W1 ⟨A2, m2, c2, rfl, r1, hb1⟩
      have hp := hp.below hb1
      have hx := hx.below hb1
      have hy := hy.below hb1
      have hc := below_on hc hb1
      clear hb1 hp9
      have hp9 := hp.cells9
      simp only [HCK.out, if_true, Bool.false_eq_true, if_false]
      go_wp2_with fail
      refine (rencode_all _ _ _ _ _ _ _ _ A m c xs _ hx hf).mono ?_
      rintro e W2 ⟨A3, m3, c3, rfl, r2, hb2⟩
      have hp := hp.below hb2
      have hx := hx.below hb2
      have hy := hy.below hb2
      have r1 := r1.below hb2
      have hc := below_on hc hb2
      clear hb2 hp9
      have HLE : Hid (m3 = (enX ⟨kd, fl, pa, sr, ds, cn, sq, pu⟩ m xs).length) := Lib.hid r2.1.symm
      generalize enX ⟨kd, fl, pa, sr, ds, cn, sq, pu⟩ m xs = ex at r1 r2
      simp only [HCK.out, if_true, Bool.false_eq_true, if_false]
      go_wp2_with fail
      refine (decode_all _ _ _ bs _ hy (by omega)).mono ?_
      rintro e W3 ⟨A4, n4, c4, rfl, r3, hb3⟩
      have hp := hp.below hb3
      have hx := hx.below hb3
      have hy := hy.below hb3
      have r1 := r1.below hb3
      have r2 := r2.below hb3
      have hc := below_on hc hb3
      clear hb3
      have HD := Lib.hid (fun w h => rdecode_all A1 m1 c1 bs w h (by omega))
      generalize dP bs = q at *
      generalize dX bs = qx at *
      generalize dE bs = qe at *
      obtain ⟨kd2, fl2, pa2, sr2, ds2, cn2, sq2, pu2⟩ := q
      dsimp only
      go_wp2_with fail
      have hq := Bk.new W3 25 [.int .i64 kd2, .int .i64 fl2, .int .i64 pa2, .int .i64 sr2, .int .i64 ds2, .int .i64 cn2, .int .i64 sq2, .int .i64 pu2, .slice A4 n4 c4]
      have hb0 := (Below.refl W3.heap.size W3).alloc (Nat.le_refl _) (.cells #[.int .i64 kd2, .int .i64 fl2, .int .i64 pa2, .int .i64 sr2, .int .i64 ds2, .int .i64 cn2, .int .i64 sq2, .int .i64 pu2, .slice A4 n4 c4] 25)
      have hp := hp.below hb0
      have hx := hx.below hb0
      have hy := hy.below hb0
      have r1 := r1.below hb0
      have r2 := r2.below hb0
      have r3 := r3.below hb0
      have hc := below_on hc hb0
      refine (HD.out _ (by exact hy)).mono ?_
      rintro e W4 ⟨A5, n5, c5, rfl, r4, hb4⟩
      have hp := hp.below hb4
      have hq := hq.below hb4
      have hx := hx.below hb4
      have hy := hy.below hb4
      have r1 := r1.below hb4
      have r2 := r2.below hb4
      have r3 := r3.below hb4
      have hc := below_on hc hb4
      clear hb0 hb4 HD
      dsimp only
      go_upto_region 6 with fail
      have hr := Bk.new W4 25 [.int .i64 kd2, .int .i64 fl2, .int .i64 pa2, .int .i64 sr2, .int .i64 ds2, .int .i64 cn2, .int .i64 sq2, .int .i64 pu2, .slice A5 n5 c5]
      have hb0 := (Below.refl W4.heap.size W4).alloc (Nat.le_refl _) (.cells #[.int .i64 kd2, .int .i64 fl2, .int .i64 pa2, .int .i64 sr2, .int .i64 ds2, .int .i64 cn2, .int .i64 sq2, .int .i64 pu2, .slice A5 n5 c5] 25)
      have hp := hp.below hb0
      have hq := hq.below hb0
      have hx := hx.below hb0
      have hy := hy.below hb0
      have r1 := r1.below hb0
      have r2 := r2.below hb0
      have r3 := r3.below hb0
      have r4 := r4.below hb0
      have hc := below_on hc hb0
      clear hb0
      refine wp_region_E Ext (by kernel_rfl) (fun wd hbd hsz => ?_)
      have hp := hp.below hbd
      have hq := hq.below hbd
      have hr := hr.below hbd
      have hx := hx.below hbd
      have hy := hy.below hbd
      have r1 := r1.below hbd
      have r2 := r2.below hbd
      have r3 := r3.below hbd
      have r4 := r4.below hbd
      have hc := below_on hc hbd
      have q1 := fun W (hW : Ext wd W) => conv_any (r1.below hW)
      have q2 := fun W (hW : Ext wd W) => conv_any (r2.below hW)
      have k_hp := fun W (hW : Ext wd W) => (hp.below hW).cells9
      have k_hq := fun W (hW : Ext wd W) => (hq.below hW).cells9
      have k_hr := fun W (hW : Ext wd W) => (hr.below hW).cells9
      clear hbd hsz
      (refine takeE Ext.tr 0 (by simp only [List.getElem?_toArray, List.getElem?_cons_succ, List.getElem?_cons_zero]; rfl) (by kernel_rfl) (by kernel_rfl) (by kernel_rfl) (by exact fun _ _ _ h => h) (by first | (refine Or.inl ⟨by rfl, ?_⟩; intro W hW; go_simp; try with_reducible rfl) | exact Or.inr ⟨by rfl, rfl⟩) ?_; try simp only [Act.put, List.setIfInBounds_toArray, List.set_cons_zero, List.set_cons_succ])
      (refine takeE Ext.tr 2 (by simp only [List.getElem?_toArray, List.getElem?_cons_succ, List.getElem?_cons_zero]; rfl) (by kernel_rfl) (by kernel_rfl) (by kernel_rfl) (by exact fun _ _ _ h => h) (by first | (refine Or.inl ⟨by rfl, ?_⟩; intro W hW; go_simp; try with_reducible rfl) | exact Or.inr ⟨by rfl, rfl⟩) ?_; try simp only [Act.put, List.setIfInBounds_toArray, List.set_cons_zero, List.set_cons_succ])
      (refine takeE Ext.tr 1 (by simp only [List.getElem?_toArray, List.getElem?_cons_succ, List.getElem?_cons_zero]; rfl) (by kernel_rfl) (by kernel_rfl) (by kernel_rfl) (by exact fun _ _ _ h => h) (by first | (refine Or.inl ⟨by rfl, ?_⟩; intro W hW; go_simp; try with_reducible rfl) | exact Or.inr ⟨by rfl, rfl⟩) ?_; try simp only [Act.put, List.setIfInBounds_toArray, List.set_cons_zero, List.set_cons_succ])
      (refine takeE Ext.tr 3 (by simp only [List.getElem?_toArray, List.getElem?_cons_succ, List.getElem?_cons_zero]; rfl) (by kernel_rfl) (by kernel_rfl) (by kernel_rfl) (by exact fun _ _ _ h => h) (by first | (refine Or.inl ⟨by rfl, ?_⟩; intro W hW; go_simp; try with_reducible rfl) | exact Or.inr ⟨by rfl, rfl⟩) ?_; try simp only [Act.put, List.setIfInBounds_toArray, List.set_cons_zero, List.set_cons_succ])
      (refine takeE Ext.tr 4 (by simp only [List.getElem?_toArray, List.getElem?_cons_succ, List.getElem?_cons_zero]; rfl) (by kernel_rfl) (by kernel_rfl) (by kernel_rfl) (by exact fun _ _ _ h => h) (by first | (refine Or.inl ⟨by rfl, ?_⟩; intro W hW; go_simp; try with_reducible rfl) | exact Or.inr ⟨by rfl, rfl⟩) ?_; try simp only [Act.put, List.setIfInBounds_toArray, List.set_cons_zero, List.set_cons_succ])
      (refine takeE Ext.tr 5 (by simp only [List.getElem?_toArray, List.getElem?_cons_succ, List.getElem?_cons_zero]; rfl) (by kernel_rfl) (by kernel_rfl) (by kernel_rfl) (by exact fun _ _ _ h => h) (by first | (refine Or.inl ⟨by rfl, ?_⟩; intro W hW; go_simp; try with_reducible rfl) | exact Or.inr ⟨by rfl, rfl⟩) ?_; try simp only [Act.put, List.setIfInBounds_toArray, List.set_cons_zero, List.set_cons_succ])
      (refine takeE Ext.tr 6 (by simp only [List.getElem?_toArray, List.getElem?_cons_succ, List.getElem?_cons_zero]; rfl) (by kernel_rfl) (by kernel_rfl) (by kernel_rfl) (by exact fun _ _ _ h => h) (by first | (refine Or.inl ⟨by rfl, ?_⟩; intro W hW; go_simp; try with_reducible rfl) | exact Or.inr ⟨by rfl, rfl⟩) ?_; try simp only [Act.put, List.setIfInBounds_toArray, List.set_cons_zero, List.set_cons_succ])
      (refine takeE Ext.tr 7 (by simp only [List.getElem?_toArray, List.getElem?_cons_succ, List.getElem?_cons_zero]; rfl) (by kernel_rfl) (by kernel_rfl) (by kernel_rfl) (by exact fun _ _ _ h => h) (by first | (refine Or.inl ⟨by rfl, ?_⟩; intro W hW; go_simp; try with_reducible rfl) | exact Or.inr ⟨by rfl, rfl⟩) ?_; try simp only [Act.put, List.setIfInBounds_toArray, List.set_cons_zero, List.set_cons_succ])
      (refine takeE Ext.tr 8 (by simp only [List.getElem?_toArray, List.getElem?_cons_succ, List.getElem?_cons_zero]; rfl) (by kernel_rfl) (by kernel_rfl) (by kernel_rfl) (by exact fun _ _ _ h => h) (by first | (refine Or.inl ⟨by rfl, ?_⟩; intro W hW; go_simp; try with_reducible rfl) | exact Or.inr ⟨by rfl, rfl⟩) ?_; try simp only [Act.put, List.setIfInBounds_toArray, List.set_cons_zero, List.set_cons_succ])
      (refine takeE Ext.tr 9 (by simp only [List.getElem?_toArray, List.getElem?_cons_succ, List.getElem?_cons_zero]; rfl) (by kernel_rfl) (by kernel_rfl) (by kernel_rfl) (by exact fun _ _ _ h => h) (by first | (refine Or.inl ⟨by rfl, ?_⟩; intro W hW; go_simp; try with_reducible rfl) | exact Or.inr ⟨by rfl, rfl⟩) ?_; try simp only [Act.put, List.setIfInBounds_toArray, List.set_cons_zero, List.set_cons_succ])
      (refine takeE Ext.tr 10 (by simp only [List.getElem?_toArray, List.getElem?_cons_succ, List.getElem?_cons_zero]; rfl) (by kernel_rfl) (by kernel_rfl) (by kernel_rfl) (by exact fun _ _ _ h => h) (by first | (refine Or.inl ⟨by rfl, ?_⟩; intro W hW; go_simp; try with_reducible rfl) | exact Or.inr ⟨by rfl, rfl⟩) ?_; try simp only [Act.put, List.setIfInBounds_toArray, List.set_cons_zero, List.set_cons_succ])
      (refine takeE Ext.tr 11 (by simp only [List.getElem?_toArray, List.getElem?_cons_succ, List.getElem?_cons_zero]; rfl) (by kernel_rfl) (by kernel_rfl) (by kernel_rfl) (by exact fun _ _ _ h => h) (by first | (refine Or.inl ⟨by rfl, ?_⟩; intro W hW; go_simp; try with_reducible rfl) | exact Or.inr ⟨by rfl, rfl⟩) ?_; try simp only [Act.put, List.setIfInBounds_toArray, List.set_cons_zero, List.set_cons_succ])
      (refine takeE Ext.tr 12 (by simp only [List.getElem?_toArray, List.getElem?_cons_succ, List.getElem?_cons_zero]; rfl) (by kernel_rfl) (by kernel_rfl) (by kernel_rfl) (by exact fun _ _ _ h => h) (by first | (refine Or.inl ⟨by rfl, ?_⟩; intro W hW; go_simp; try with_reducible rfl) | exact Or.inr ⟨by rfl, rfl⟩) ?_; try simp only [Act.put, List.setIfInBounds_toArray, List.set_cons_zero, List.set_cons_succ])
      refine wpAnyE_one (i := 13) (by kernel_rfl) (by simp only [List.getElem?_toArray, List.getElem?_cons_succ, List.getElem?_cons_zero]; rfl) (fun K hK => ?_)
      go_simp
      refine (rsame_any _ _ _ _ _ _ _ _ _ _ _ _ _ _ _ _ _ _ _ _ _ _ qx qx _ (by exact r3) (by exact r4)).mono ?_
      rintro e W13 ⟨rfl, hb13⟩
      rw [smB_refl]
      have hp := hp.below hb13
      have hq := hq.below hb13
      have hr := hr.below hb13
      have hx := hx.below hb13
      have hy := hy.below hb13
      have r1 := r1.below hb13
      have r2 := r2.below hb13
      have r3 := r3.below hb13
      have r4 := r4.below hb13
      have hc := below_on hc hb13
      clear k_hp k_hq k_hr
      have k_hp := fun W (hW : Ext W13 W) => (hp.below hW).cells9
      have k_hq := fun W (hW : Ext W13 W) => (hq.below hW).cells9
      have k_hr := fun W (hW : Ext W13 W) => (hr.below hW).cells9
      go_simp
      refine hK.out _ _ hb13 ?_
      clear hK K
      try simp only [Act.put, List.setIfInBounds_toArray, List.set_cons_zero, List.set_cons_succ]
      (refine takeE Ext.tr 14 (by simp only [List.getElem?_toArray, List.getElem?_cons_succ, List.getElem?_cons_zero]; rfl) (by kernel_rfl) (by kernel_rfl) (by kernel_rfl) (by exact fun _ _ _ h => h) (by first | (refine Or.inl ⟨by rfl, ?_⟩; intro W hW; go_simp; try with_reducible rfl) | exact Or.inr ⟨by rfl, rfl⟩) ?_; try simp only [Act.put, List.setIfInBounds_toArray, List.set_cons_zero, List.set_cons_succ])
      (refine takeE Ext.tr 15 (by simp only [List.getElem?_toArray, List.getElem?_cons_succ, List.getElem?_cons_zero]; rfl) (by kernel_rfl) (by kernel_rfl) (by kernel_rfl) (by exact fun _ _ _ h => h) (by first | (refine Or.inl ⟨by rfl, ?_⟩; intro W hW; go_simp; try with_reducible rfl) | exact Or.inr ⟨by rfl, rfl⟩) ?_; try simp only [Act.put, List.setIfInBounds_toArray, List.set_cons_zero, List.set_cons_succ])
      (refine takeE Ext.tr 16 (by simp only [List.getElem?_toArray, List.getElem?_cons_succ, List.getElem?_cons_zero]; rfl) (by kernel_rfl) (by kernel_rfl) (by kernel_rfl) (by exact fun _ _ _ h => h) (by first | (refine Or.inl ⟨by rfl, ?_⟩; intro W hW; go_simp; try with_reducible rfl) | exact Or.inr ⟨by rfl, rfl⟩) ?_; try simp only [Act.put, List.setIfInBounds_toArray, List.set_cons_zero, List.set_cons_succ])
      (refine takeE Ext.tr 17 (by simp only [List.getElem?_toArray, List.getElem?_cons_succ, List.getElem?_cons_zero]; rfl) (by kernel_rfl) (by kernel_rfl) (by kernel_rfl) (by exact fun _ _ _ h => h) (by first | (refine Or.inl ⟨by rfl, ?_⟩; intro W hW; go_simp; try with_reducible rfl) | exact Or.inr ⟨by rfl, rfl⟩) ?_; try simp only [Act.put, List.setIfInBounds_toArray, List.set_cons_zero, List.set_cons_succ])
      (refine takeE Ext.tr 18 (by simp only [List.getElem?_toArray, List.getElem?_cons_succ, List.getElem?_cons_zero]; rfl) (by kernel_rfl) (by kernel_rfl) (by kernel_rfl) (by exact fun _ _ _ h => h) (by first | (refine Or.inl ⟨by rfl, ?_⟩; intro W hW; go_simp; try with_reducible rfl) | exact Or.inr ⟨by rfl, rfl⟩) ?_; try simp only [Act.put, List.setIfInBounds_toArray, List.set_cons_zero, List.set_cons_succ])
      (refine takeE Ext.tr 19 (by simp only [List.getElem?_toArray, List.getElem?_cons_succ, List.getElem?_cons_zero]; rfl) (by kernel_rfl) (by kernel_rfl) (by kernel_rfl) (by exact fun _ _ _ h => h) (by first | (refine Or.inl ⟨by rfl, ?_⟩; intro W hW; go_simp; try with_reducible rfl) | exact Or.inr ⟨by rfl, rfl⟩) ?_; try simp only [Act.put, List.setIfInBounds_toArray, List.set_cons_zero, List.set_cons_succ])
      (refine takeE Ext.tr 20 (by simp only [List.getElem?_toArray, List.getElem?_cons_succ, List.getElem?_cons_zero]; rfl) (by kernel_rfl) (by kernel_rfl) (by kernel_rfl) (by exact fun _ _ _ h => h) (by first | (refine Or.inl ⟨by rfl, ?_⟩; intro W hW; go_simp; try with_reducible rfl) | exact Or.inr ⟨by rfl, rfl⟩) ?_; try simp only [Act.put, List.setIfInBounds_toArray, List.set_cons_zero, List.set_cons_succ])
      (refine takeE Ext.tr 21 (by simp only [List.getElem?_toArray, List.getElem?_cons_succ, List.getElem?_cons_zero]; rfl) (by kernel_rfl) (by kernel_rfl) (by kernel_rfl) (by exact fun _ _ _ h => h) (by first | (refine Or.inl ⟨by rfl, ?_⟩; intro W hW; go_simp; try with_reducible rfl) | exact Or.inr ⟨by rfl, rfl⟩) ?_; try simp only [Act.put, List.setIfInBounds_toArray, List.set_cons_zero, List.set_cons_succ])
      (refine takeE Ext.tr 22 (by simp only [List.getElem?_toArray, List.getElem?_cons_succ, List.getElem?_cons_zero]; rfl) (by kernel_rfl) (by kernel_rfl) (by kernel_rfl) (by exact fun _ _ _ h => h) (by first | (refine Or.inl ⟨by rfl, ?_⟩; intro W hW; go_simp; try with_reducible rfl) | exact Or.inr ⟨by rfl, rfl⟩) ?_; try simp only [Act.put, List.setIfInBounds_toArray, List.set_cons_zero, List.set_cons_succ])
      (refine takeE Ext.tr 25 (by simp only [List.getElem?_toArray, List.getElem?_cons_succ, List.getElem?_cons_zero]; rfl) (by kernel_rfl) (by kernel_rfl) (by kernel_rfl) (by exact fun _ _ _ h => h) (by first | (refine Or.inl ⟨by rfl, ?_⟩; intro W hW; go_simp; try with_reducible rfl) | exact Or.inr ⟨by rfl, rfl⟩) ?_; try simp only [Act.put, List.setIfInBounds_toArray, List.set_cons_zero, List.set_cons_succ])
      refine wpAnyE_one (i := 23) (by kernel_rfl) (by simp only [List.getElem?_toArray, List.getElem?_cons_succ, List.getElem?_cons_zero]; rfl) (fun K hK => ?_)
      go_simp
      refine (check_any _ _ _ _ _ _ _ _ _ _ _ _ hf).mono ?_
      rintro e W23 ⟨rfl, hb23⟩
      rw [HCK.out]
      simp only [errV, if_true, Bool.false_eq_true, if_false]
      have hp := hp.below hb23
      have hq := hq.below hb23
      have hr := hr.below hb23
      have hx := hx.below hb23
      have hy := hy.below hb23
      have r1 := r1.below hb23
      have r2 := r2.below hb23
      have r3 := r3.below hb23
      have r4 := r4.below hb23
      have hc := below_on hc hb23
      clear k_hp k_hq k_hr
      have k_hp := fun W (hW : Ext W23 W) => (hp.below hW).cells9
      have k_hq := fun W (hW : Ext W23 W) => (hq.below hW).cells9
      have k_hr := fun W (hW : Ext W23 W) => (hr.below hW).cells9
      go_simp
      refine hK.out _ _ hb23 ?_
      clear hK K
      try simp only [Act.put, List.setIfInBounds_toArray, List.set_cons_zero, List.set_cons_succ]
      (refine takeE Ext.tr 24 (by simp only [List.getElem?_toArray, List.getElem?_cons_succ, List.getElem?_cons_zero]; rfl) (by kernel_rfl) (by kernel_rfl) (by kernel_rfl) (by exact fun _ _ _ h => h) (by first | (refine Or.inl ⟨by rfl, ?_⟩; intro W hW; go_simp; try with_reducible rfl) | exact Or.inr ⟨by rfl, rfl⟩) ?_; try simp only [Act.put, List.setIfInBounds_toArray, List.set_cons_zero, List.set_cons_succ])
      refine wpAnyE_one (i := 26) (by kernel_rfl) (by simp only [List.getElem?_toArray, List.getElem?_cons_succ, List.getElem?_cons_zero]; rfl) (fun K hK => ?_)
      go_simp
      refine (ris_any _ _ _ _ _ _ _ _ _ _ _ _ hf).mono ?_
      rintro e W26 ⟨rfl, hb26⟩
      rw [HCK.out]
      have hp := hp.below hb26
      have hq := hq.below hb26
      have hr := hr.below hb26
      have hx := hx.below hb26
      have hy := hy.below hb26
      have r1 := r1.below hb26
      have r2 := r2.below hb26
      have r3 := r3.below hb26
      have r4 := r4.below hb26
      have hc := below_on hc hb26
      clear k_hp k_hq k_hr
      have k_hp := fun W (hW : Ext W26 W) => (hp.below hW).cells9
      have k_hq := fun W (hW : Ext W26 W) => (hq.below hW).cells9
      have k_hr := fun W (hW : Ext W26 W) => (hr.below hW).cells9
      go_simp
      refine hK.out _ _ hb26 ?_
      clear hK K
      try simp only [Act.put, List.setIfInBounds_toArray, List.set_cons_zero, List.set_cons_succ]
      (refine takeE Ext.tr 27 (by simp only [List.getElem?_toArray, List.getElem?_cons_succ, List.getElem?_cons_zero]; rfl) (by kernel_rfl) (by kernel_rfl) (by kernel_rfl) (by exact fun _ _ _ h => h) (by first | (refine Or.inl ⟨by rfl, ?_⟩; intro W hW; go_simp; try with_reducible rfl) | exact Or.inr ⟨by rfl, rfl⟩) ?_; try simp only [Act.put, List.setIfInBounds_toArray, List.set_cons_zero, List.set_cons_succ])
      (refine takeE Ext.tr 28 (by simp only [List.getElem?_toArray, List.getElem?_cons_succ, List.getElem?_cons_zero]; rfl) (by kernel_rfl) (by kernel_rfl) (by kernel_rfl) (by exact fun _ _ _ h => h) (by first | (refine Or.inl ⟨by rfl, ?_⟩; intro W hW; go_simp; try with_reducible rfl) | exact Or.inr ⟨by rfl, rfl⟩) ?_; try simp only [Act.put, List.setIfInBounds_toArray, List.set_cons_zero, List.set_cons_succ])
      refine wpAnyE_done (by kernel_rfl) ?_ _
      clear k_hp k_hq k_hr q1 q2
      have hp9 := hp.cells9
      go_wp2_with fail
      refine (size_pk _ _ _ _ _ _ _ _ _ _ _ _ hf (by omega)).mono ?_
      rintro e W30 ⟨rfl, hb30⟩
      have hp := hp.below hb30
      have hc := below_on hc hb30
      clear hb30 hp9
      unfold szV
      simp only [HCK.out, if_true, Bool.false_eq_true, if_false]
      have hp9 := hp.cells9
      go_wp2_with fail
      refine (ris_any _ _ _ _ _ _ _ _ _ _ _ _ hf).mono ?_
      rintro e W31 ⟨rfl, hb31⟩
      have hp := hp.below hb31
      have hc := below_on hc hb31
      clear hb31 hp9
      rw [HCK.out]
      have hp9 := hp.cells9
    rotate_left 1
    focus
      have hl : m3 = 36 + m := by
        have h1 := HLE.out
        unfold enX at h1
        rw [HCK.out, if_pos rfl, encL_len, HLX.out] at h1
        exact h1
      subst hl
      go_wp2_with fail
      refine (awake_any _).mono ?_
      rintro e W32 ⟨rfl, hb32⟩
      go_wp2
      go_ret
      exact ⟨rfl, hc.trans (hb32.mono hc.size)⟩
    focus
      go_wp2_with fail
      refine (ris_any _ _ _ _ _ _ _ _ _ _ _ _ hf).mono ?_
      rintro e W33 ⟨rfl, hb33⟩
      have hp := hp.below hb33
      have hc := below_on hc hb33
      clear hb33 hp9
      rw [HCK.out]
      have hp9 := hp.cells9
      go_wp2_with fail
      refine (check_any _ _ _ _ _ _ _ _ _ _ _ _ hf).mono ?_
      rintro e W34 ⟨rfl, hb34⟩
      have hc := below_on hc hb34
      clear hb34 hp9 hp
      rw [HCK.out, errV_f]
      go_wp2_with fail
      refine (awake_any _).mono ?_
      rintro e W32 ⟨rfl, hb32⟩
      go_wp2
      go_ret
      exact ⟨rfl, hc.trans (hb32.mono hc.size)⟩
end Go.Proofs.Ytochbcemobkegaa
