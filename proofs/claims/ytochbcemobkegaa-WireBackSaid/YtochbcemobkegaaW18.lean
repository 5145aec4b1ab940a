/- The law of there and back. -/
import Derived.Test.YtochbcemobkegaaM4
import Derived.Test.YtochbcemobkegaaW16
import Derived.Deep.DeepCutAuto
import Derived.Outline
set_option linter.unusedSimpArgs false
set_option linter.unusedVariables false
namespace Go.Proofs.Ytochbcemobkegaa
open Go.RowKit Go.Shelf
set_option maxRecDepth 100000 in
set_option maxHeartbeats 16000000 in
theorem lawBack (kd fl pa sr ds cn sq pu : Int) (A : Option Addr) (n c : Nat) (xs0 : List Int) (A1 : Option Addr) (n1 c1 : Nat) (bs0 : List Int) (w : World) (h0 : Rd .u8 w A n c xs0) (k0 : Rd .u8 w A1 n1 c1 bs0) (hf : fl ≤ 9223372036854775807) :
    Calls Try.prog 5 #[.agg #[.int .i64 kd, .int .i64 fl, .int .i64 pa, .int .i64 sr, .int .i64 ds, .int .i64 cn, .int .i64 sq, .int .i64 pu, .slice A n c], .slice A1 n1 c1] w fun e w' => e = .returned (.bool true) ∧ Below w.heap.size w w' := by
  have hnc := h0.2.1
  have hcm := h0.2.2.1
  have hnc1 := k0.2.1
  have hcm1 := k0.2.2.1
  unfold maxLen at hcm1
  obtain ⟨m, hm⟩ : ∃ m, m = min n 1100 := ⟨_, rfl⟩
  obtain ⟨xs, hxs⟩ : ∃ xs, xs = xs0.take m := ⟨_, rfl⟩
  obtain ⟨m1, hm1⟩ : ∃ m, m = min n1 1200 := ⟨_, rfl⟩
  obtain ⟨bs, hbs⟩ : ∃ bs, bs = bs0.take m1 := ⟨_, rfl⟩
  have hx : Rd .u8 w A m c xs := by rw [hxs]; exact h0.pre (by omega)
  have hy : Rd .u8 w A1 m1 c1 bs := by rw [hbs]; exact k0.pre (by omega)
  have hm2 : m ≤ 1100 := by omega
  have hm3 : m1 ≤ 1200 := by omega
  have HM := Lib.hid hm
  have HM1 := Lib.hid hm1
  have HLX := Lib.hid hx.1
  have HLY := Lib.hid hy.1
  have HXW := Lib.hid hx.2.2.2.2.1
  have HYW := Lib.hid hy.2.2.2.2.1
  clear hm hxs hm1 hbs h0 k0
  go_enter Try.func5, Try.ntmps5
  go_upto_region 1 with fail
  have hp0 := Bk.new w 25 [.int .i64 kd, .int .i64 fl, .int .i64 pa, .int .i64 sr, .int .i64 ds, .int .i64 cn, .int .i64 sq, .int .i64 pu, .slice A n c]
  have hb0 := (Below.refl w.heap.size w).alloc (Nat.le_refl _) (.cells ([.int .i64 kd, .int .i64 fl, .int .i64 pa, .int .i64 sr, .int .i64 ds, .int .i64 cn, .int .i64 sq, .int .i64 pu, .slice A n c]).toArray 25)
  go_cut [1] (fun s1 wx => s1 = .slice A1 m1 c1 ∧ Bk wx 25 w.heap.size [.int .i64 kd, .int .i64 fl, .int .i64 pa, .int .i64 sr, .int .i64 ds, .int .i64 cn, .int .i64 sq, .int .i64 pu, .slice A m c] ∧ Below w.heap.size w wx)
  case first =>
    by_cases h12 : n1 ≤ 1200
    · have e12 := HM1.out
      rw [Nat.min_eq_left h12] at e12
      have HE12 := Lib.hid e12
      clear e12
      have i1 : ¬ (1200 : Int) < n1 := by omega
      have i2 : (n1 : Int) ≤ c1 := by omega
      refine wp_region_E (Below w.heap.size) (by kernel_rfl) (fun wd hbd hsz => ?_)
      have hp := (hp0.below hbd)
      have hc := hb0.trans (hbd.mono (by simp))
      have hsz0 : w.heap.size ≤ wd.heap.size := hc.size
      clear hbd hsz
      have hp9 := hp.cells9
      (refine takeE (belowTr w.heap.size) 2 (by simp only [List.getElem?_toArray, List.getElem?_cons_succ, List.getElem?_cons_zero]; rfl) (by kernel_rfl) (by kernel_rfl) (by kernel_rfl) (by exact fun _ _ _ h => h) (by first | (refine Or.inl ⟨by rfl, ?_⟩; intro W hW; go_simp; try with_reducible rfl) | exact Or.inr ⟨by rfl, rfl⟩) ?_; try simp only [Act.put, List.setIfInBounds_toArray, List.set_cons_zero, List.set_cons_succ])
      (refine takeE (belowTr w.heap.size) 3 (by simp only [List.getElem?_toArray, List.getElem?_cons_succ, List.getElem?_cons_zero]; rfl) (by kernel_rfl) (by kernel_rfl) (by kernel_rfl) (by exact fun _ _ _ h => h) (by first | (refine Or.inl ⟨by rfl, ?_⟩; intro W hW; go_simp; try with_reducible rfl) | exact Or.inr ⟨by rfl, rfl⟩) ?_; try simp only [Act.put, List.setIfInBounds_toArray, List.set_cons_zero, List.set_cons_succ])
      (refine takeE (belowTr w.heap.size) 4 (by simp only [List.getElem?_toArray, List.getElem?_cons_succ, List.getElem?_cons_zero]; rfl) (by kernel_rfl) (by kernel_rfl) (by kernel_rfl) (by exact fun _ _ _ h => h) (by first | (refine Or.inl ⟨by rfl, ?_⟩; intro W hW; go_simp; try with_reducible rfl) | exact Or.inr ⟨by rfl, rfl⟩) ?_; try simp only [Act.put, List.setIfInBounds_toArray, List.set_cons_zero, List.set_cons_succ])
      (refine takeE (belowTr w.heap.size) 5 (by simp only [List.getElem?_toArray, List.getElem?_cons_succ, List.getElem?_cons_zero]; rfl) (by kernel_rfl) (by kernel_rfl) (by kernel_rfl) (by exact fun _ _ _ h => h) (by first | (refine Or.inl ⟨by rfl, ?_⟩; intro W hW; go_simp; try with_reducible rfl) | exact Or.inr ⟨by rfl, rfl⟩) ?_; try simp only [Act.put, List.setIfInBounds_toArray, List.set_cons_zero, List.set_cons_succ])
      (refine takeE (belowTr w.heap.size) 6 (by simp only [List.getElem?_toArray, List.getElem?_cons_succ, List.getElem?_cons_zero]; rfl) (by kernel_rfl) (by kernel_rfl) (by kernel_rfl) (by exact fun _ _ _ h => h) (by first | (refine Or.inl ⟨by rfl, ?_⟩; intro W hW; go_simp; try with_reducible rfl) | exact Or.inr ⟨by rfl, rfl⟩) ?_; try simp only [Act.put, List.setIfInBounds_toArray, List.set_cons_zero, List.set_cons_succ])
      refine wpAnyE_one (i := 0) (by kernel_rfl) (by simp only [List.getElem?_toArray, List.getElem?_cons_succ, List.getElem?_cons_zero]; rfl) (fun K hK => ?_)
      go_simp
      refine hK.out _ _ (Below.refl _ _) ?_
      clear hK K
      try simp only [Act.put, List.setIfInBounds_toArray, List.set_cons_zero, List.set_cons_succ]
      refine wpAnyE_one (i := 1) (by kernel_rfl) (by simp only [List.getElem?_toArray, List.getElem?_cons_succ, List.getElem?_cons_zero]; rfl) (fun K hK => ?_)
      go_simp
      refine (few_any _ _ _ _ _ _ _ _ _ _ _ _ hnc hcm).mono ?_
      rintro e W1 ⟨rfl, hb⟩
      rw [← HM.out]
      have hE := hb.mono hsz0
      have hp := hp.below hb
      have hc := hc.trans hE
      clear hb hp9
      have hp9 := hp.cells9
      go_simp
      refine hK.out _ _ hE ?_
      clear hK K
      try simp only [Act.put, List.setIfInBounds_toArray, List.set_cons_zero, List.set_cons_succ]
      refine wpAnyE_one (i := 7) (by kernel_rfl) (by simp only [List.getElem?_toArray, List.getElem?_cons_succ, List.getElem?_cons_zero]; rfl) (fun K hK => ?_)
      have hpf := fun i => hp.free i
      go_simp
      obtain ⟨W2, hW, hWx, hWb, hWk, hWo, hWs, -⟩ := pk_store (.int .i64 kd) (.int .i64 fl) (.int .i64 pa) (.int .i64 sr) (.int .i64 ds) (.int .i64 cn) (.int .i64 sq) (.int .i64 pu) (.slice A m c) hp
      rw [hW]
      have hE := hWb _ (Nat.le_refl _)
      have hp := hWx
      have hc := hc.trans hE
      refine hK.out _ _ hE ?_
      clear hK K
      try simp only [Act.put, List.setIfInBounds_toArray, List.set_cons_zero, List.set_cons_succ]
      (refine takeE (belowTr w.heap.size) 8 (by simp only [List.getElem?_toArray, List.getElem?_cons_succ, List.getElem?_cons_zero]; rfl) (by kernel_rfl) (by kernel_rfl) (by kernel_rfl) (by exact fun _ _ _ h => h) (by first | (refine Or.inl ⟨by rfl, ?_⟩; intro W hW; go_simp; try with_reducible rfl) | exact Or.inr ⟨by rfl, rfl⟩) ?_; try simp only [Act.put, List.setIfInBounds_toArray, List.set_cons_zero, List.set_cons_succ])
      refine wpAnyE_done (by kernel_rfl) ?_ _
      go_wp2_with fail
      go_meet
      exact ⟨by rw [HE12.out], hp, hc⟩
    · have e12 := HM1.out
      rw [Nat.min_eq_right (by omega)] at e12
      have HE12 := Lib.hid e12
      clear e12
      have i1 : (1200 : Int) < n1 := by omega
      have i2 : (1200 : Int) ≤ c1 := by omega
      have h6 : 1200 ≤ n1 := by omega
      have h7 : 1200 ≤ c1 := by omega
      refine wp_region_E (Below w.heap.size) (by kernel_rfl) (fun wd hbd hsz => ?_)
      have hp := (hp0.below hbd)
      have hc := hb0.trans (hbd.mono (by simp))
      have hsz0 : w.heap.size ≤ wd.heap.size := hc.size
      clear hbd hsz
      have hp9 := hp.cells9
      (refine takeE (belowTr w.heap.size) 2 (by simp only [List.getElem?_toArray, List.getElem?_cons_succ, List.getElem?_cons_zero]; rfl) (by kernel_rfl) (by kernel_rfl) (by kernel_rfl) (by exact fun _ _ _ h => h) (by first | (refine Or.inl ⟨by rfl, ?_⟩; intro W hW; go_simp; try with_reducible rfl) | exact Or.inr ⟨by rfl, rfl⟩) ?_; try simp only [Act.put, List.setIfInBounds_toArray, List.set_cons_zero, List.set_cons_succ])
      (refine takeE (belowTr w.heap.size) 3 (by simp only [List.getElem?_toArray, List.getElem?_cons_succ, List.getElem?_cons_zero]; rfl) (by kernel_rfl) (by kernel_rfl) (by kernel_rfl) (by exact fun _ _ _ h => h) (by first | (refine Or.inl ⟨by rfl, ?_⟩; intro W hW; go_simp; try with_reducible rfl) | exact Or.inr ⟨by rfl, rfl⟩) ?_; try simp only [Act.put, List.setIfInBounds_toArray, List.set_cons_zero, List.set_cons_succ])
      (refine takeE (belowTr w.heap.size) 4 (by simp only [List.getElem?_toArray, List.getElem?_cons_succ, List.getElem?_cons_zero]; rfl) (by kernel_rfl) (by kernel_rfl) (by kernel_rfl) (by exact fun _ _ _ h => h) (by first | (refine Or.inl ⟨by rfl, ?_⟩; intro W hW; go_simp; try with_reducible rfl) | exact Or.inr ⟨by rfl, rfl⟩) ?_; try simp only [Act.put, List.setIfInBounds_toArray, List.set_cons_zero, List.set_cons_succ])
      (refine takeE (belowTr w.heap.size) 5 (by simp only [List.getElem?_toArray, List.getElem?_cons_succ, List.getElem?_cons_zero]; rfl) (by kernel_rfl) (by kernel_rfl) (by kernel_rfl) (by exact fun _ _ _ h => h) (by first | (refine Or.inl ⟨by rfl, ?_⟩; intro W hW; go_simp; try with_reducible rfl) | exact Or.inr ⟨by rfl, rfl⟩) ?_; try simp only [Act.put, List.setIfInBounds_toArray, List.set_cons_zero, List.set_cons_succ])
      (refine takeE (belowTr w.heap.size) 6 (by simp only [List.getElem?_toArray, List.getElem?_cons_succ, List.getElem?_cons_zero]; rfl) (by kernel_rfl) (by kernel_rfl) (by kernel_rfl) (by exact fun _ _ _ h => h) (by first | (refine Or.inl ⟨by rfl, ?_⟩; intro W hW; go_simp; try with_reducible rfl) | exact Or.inr ⟨by rfl, rfl⟩) ?_; try simp only [Act.put, List.setIfInBounds_toArray, List.set_cons_zero, List.set_cons_succ])
      refine wpAnyE_one (i := 0) (by kernel_rfl) (by simp only [List.getElem?_toArray, List.getElem?_cons_succ, List.getElem?_cons_zero]; rfl) (fun K hK => ?_)
      go_simp
      refine hK.out _ _ (Below.refl _ _) ?_
      clear hK K
      try simp only [Act.put, List.setIfInBounds_toArray, List.set_cons_zero, List.set_cons_succ]
      refine wpAnyE_one (i := 1) (by kernel_rfl) (by simp only [List.getElem?_toArray, List.getElem?_cons_succ, List.getElem?_cons_zero]; rfl) (fun K hK => ?_)
      go_simp
      refine (few_any _ _ _ _ _ _ _ _ _ _ _ _ hnc hcm).mono ?_
      rintro e W1 ⟨rfl, hb⟩
      rw [← HM.out]
      have hE := hb.mono hsz0
      have hp := hp.below hb
      have hc := hc.trans hE
      clear hb hp9
      have hp9 := hp.cells9
      go_simp
      refine hK.out _ _ hE ?_
      clear hK K
      try simp only [Act.put, List.setIfInBounds_toArray, List.set_cons_zero, List.set_cons_succ]
      refine wpAnyE_one (i := 7) (by kernel_rfl) (by simp only [List.getElem?_toArray, List.getElem?_cons_succ, List.getElem?_cons_zero]; rfl) (fun K hK => ?_)
      have hpf := fun i => hp.free i
      go_simp
      obtain ⟨W2, hW, hWx, hWb, hWk, hWo, hWs, -⟩ := pk_store (.int .i64 kd) (.int .i64 fl) (.int .i64 pa) (.int .i64 sr) (.int .i64 ds) (.int .i64 cn) (.int .i64 sq) (.int .i64 pu) (.slice A m c) hp
      rw [hW]
      have hE := hWb _ (Nat.le_refl _)
      have hp := hWx
      have hc := hc.trans hE
      refine hK.out _ _ hE ?_
      clear hK K
      try simp only [Act.put, List.setIfInBounds_toArray, List.set_cons_zero, List.set_cons_succ]
      (refine takeE (belowTr w.heap.size) 8 (by simp only [List.getElem?_toArray, List.getElem?_cons_succ, List.getElem?_cons_zero]; rfl) (by kernel_rfl) (by kernel_rfl) (by kernel_rfl) (by exact fun _ _ _ h => h) (by first | (refine Or.inl ⟨by rfl, ?_⟩; intro W hW; go_simp; try with_reducible rfl) | exact Or.inr ⟨by rfl, rfl⟩) ?_; try simp only [Act.put, List.setIfInBounds_toArray, List.set_cons_zero, List.set_cons_succ])
      refine wpAnyE_done (by kernel_rfl) ?_ _
      go_wp2_with fail
      go_meet
      exact ⟨by rw [HE12.out], hp, hc⟩
  case rest =>
    obtain ⟨rfl, hp, hc⟩ := hcut
    clear hp0 hb0 hnc hcm hnc1 hcm1
    have hx := hx.below hc
    have hy := hy.below hc
    have hp9 := hp.cells9
    go_wp2_with fail
    refine (encode_all _ _ _ _ _ _ _ _ A m c xs _ hx hf).mono ?_
    rintro e W1 ⟨A2, m2, c2, rfl, r2, hb1⟩
    have hp := hp.below hb1
    have hx := hx.below hb1
    have hy := hy.below hb1
    have hc := below_on hc hb1
    clear hb1 hp9
    unfold enX at r2
    cases hck : chkB ⟨kd, fl, pa, sr, ds, cn, sq, pu⟩ (m : Int)
    focus
      rw [hck] at r2
      have HCK := Lib.hid hck
      clear r2 hck
      go_upto_region 7 with fail
    rotate_left 1
    focus
      rw [hck] at r2
      have HCK := Lib.hid hck
      have hlr : (encL ⟨kd, fl, pa, sr, ds, cn, sq, pu⟩ xs).length = 36 + m := by rw [encL_len, HLX.out]
      simp only [if_true] at r2
      obtain rfl : m2 = 36 + m := by rw [← hlr]; exact r2.1.symm
      obtain ⟨D1, D2, D3⟩ := d_enc ⟨kd, fl, pa, sr, ds, cn, sq, pu⟩ xs (by rw [HLX.out]; exact hck) (okB_of HXW.out)
      clear hck hlr
      go_wp2_with fail
      refine (decode_all _ _ _ _ _ r2 (by omega)).mono ?_
      rintro e W2 ⟨A3, n3, c3, rfl, r3, hb2⟩
      rw [D1, D2]
      rw [D3] at r3
      dsimp only
      have hp := hp.below hb2
      have hx := hx.below hb2
      have hy := hy.below hb2
      have hc := below_on hc hb2
      clear hb2 D1 D2 D3 r2
      have hp9 := hp.cells9
      have hlp := hp.lt
      go_wp2_with fail
      have hb0 := (Below.refl W2.heap.size W2).alloc (Nat.le_refl _) (.cells #[.int .i64 kd, .int .i64 fl, .int .i64 pa, .int .i64 sr, .int .i64 ds, .int .i64 cn, .int .i64 sq, .int .i64 pu, .slice A3 n3 c3] 25)
      have hp := hp.below hb0
      have hx := hx.below hb0
      have hy := hy.below hb0
      have hc := below_on hc hb0
      have r3 := r3.below hb0
      refine (rsame_any _ _ _ _ _ _ _ _ _ _ _ _ _ _ _ _ _ _ _ _ _ _ xs xs _ (by exact hx) (by exact r3)).mono ?_
      rintro e W3 ⟨rfl, hb3⟩
      rw [smB_refl]
      have hp := hp.below hb3
      have hx := hx.below hb3
      have hy := hy.below hb3
      have hc := below_on hc hb3
      clear hb0 hb3 hp9 r3 hlp
      go_upto_region 7 with fail
    all_goals
      go_wp2_with fail
      refine (decode_all _ _ _ bs _ hy (by omega)).mono ?_
      rintro e W4 ⟨A4, n4, c4, rfl, r4, hb4⟩
      have hp := hp.below hb4
      have hx := hx.below hb4
      have hy := hy.below hb4
      have hc := below_on hc hb4
      clear hb4
      have HDB := Lib.hid (d_back bs (okB_of HYW.out))
      generalize hq : dP bs = q at *
      generalize hqx : dX bs = qx at *
      generalize hqe : dE bs = qe at *
      clear hq hqx hqe
      obtain ⟨kd2, fl2, pa2, sr2, ds2, cn2, sq2, pu2⟩ := q
      dsimp only
      by_cases hq0 : qe = 0
      focus
        subst hq0
        obtain ⟨E1, E2, E3⟩ := HDB.out rfl
        have HE1 := Lib.hid E1
        have HE2 := Lib.hid E2
        dsimp only at E3
        clear E1 E2 HDB
        go_wp2_with fail
        have hb0 := (Below.refl W4.heap.size W4).alloc (Nat.le_refl _) (.cells #[.int .i64 kd2, .int .i64 fl2, .int .i64 pa2, .int .i64 sr2, .int .i64 ds2, .int .i64 cn2, .int .i64 sq2, .int .i64 pu2, .slice A4 n4 c4] 25)
        have hp := hp.below hb0
        have hx := hx.below hb0
        have hy := hy.below hb0
        have hc := below_on hc hb0
        have r4 := r4.below hb0
        refine (encode_all _ _ _ _ _ _ _ _ _ _ _ qx _ (by exact r4) E3).mono ?_
        rintro e W5 ⟨A5, n5, c5, rfl, r5, hb5⟩
        have hl4 := r4.1
        rw [hl4] at HE1
        unfold enX at r5
        rw [HE1.out] at r5 ⊢
        simp only [if_true] at r5 ⊢
        rw [HE2.out] at r5
        have hp := hp.below hb5
        have hx := hx.below hb5
        have hy := hy.below hb5
        have hc := below_on hc hb5
        clear hb5 hb0 r4 hl4 E3
        have q1 := conv_any r5
        have q2 := conv_any hy
        generalize strOfNums bs = sb at *
        go_upto_region 12 with fail
      rotate_left 1
      focus
        have hq1 : (qe == 0) = false := by simpa using hq0
        clear hq0 r4 HDB
        have hpx := hp.cells9
        have hlp := hp.lt
        go_upto_region 12 with fail
        have hb0 := (Below.refl W4.heap.size W4).alloc (Nat.le_refl _) (.cells #[.int .i64 kd2, .int .i64 fl2, .int .i64 pa2, .int .i64 sr2, .int .i64 ds2, .int .i64 cn2, .int .i64 sq2, .int .i64 pu2, .slice A4 n4 c4] 25)
        have hp := hp.below hb0
        have hx := hx.below hb0
        have hy := hy.below hb0
        have hc := below_on hc hb0
        clear hb0
      all_goals
        have hp9 := hp.cells9
        go_wp2_with fail
        refine (trim_all _ _ _ _ _ _ _ _ A m c xs _ hx (by omega) hf).mono ?_
        rintro e W6 ⟨A6, n6, c6, rfl, r6, hb6⟩
        have hp := hp.below hb6
        have hx := hx.below hb6
        have hy := hy.below hb6
        have hc := below_on hc hb6
        clear hb6 hp9
        cases htb : trB ⟨kd, fl, pa, sr, ds, cn, sq, pu⟩ (m : Int)
        · generalize trF ⟨kd, fl, pa, sr, ds, cn, sq, pu⟩ (m : Int) = tf at *
          clear r6
          go_wp2_with fail
          refine (awake_any _).mono ?_
          rintro e W7 ⟨rfl, hb7⟩
          go_wp2
          go_ret
          exact ⟨rfl, (hc.alloc hc.size _).trans (hb7.mono (by have := hc.size; simp; omega))⟩
        · obtain ⟨F1, F2, F3, F4, F5⟩ := trim_facts htb
          have e1 : trF ⟨kd, fl, pa, sr, ds, cn, sq, pu⟩ (m : Int) = fl + 8 := by unfold trF; rw [htb]; rfl
          have e2 : trX ⟨kd, fl, pa, sr, ds, cn, sq, pu⟩ (m : Int) xs = [] := by unfold trX; rw [htb]; rfl
          rw [e2] at r6
          obtain rfl : n6 = 0 := r6.1.symm
          rw [e1]
          have e3 : boF ⟨kd, fl + 8, pa, sr, ds, cn, sq, pu⟩ 0 = fl + 8 + 16 := by unfold boF; rw [F3]; rfl
          have e4 : boS ⟨kd, fl + 8, pa, sr, ds, cn, sq, pu⟩ 0 = ds := by unfold boS; rw [F3]; rfl
          have e5 : boD ⟨kd, fl + 8, pa, sr, ds, cn, sq, pu⟩ 0 = sr := by unfold boD; rw [F3]; rfl
          have s1 : szV ⟨kd, fl + 8, pa, sr, ds, cn, sq, pu⟩ 0 = 36 := by unfold szV; rw [F2]; rfl
          have s2 : szV ⟨kd, fl + 8 + 16, pa, ds, sr, cn, sq, pu⟩ 0 = 36 := by unfold szV; rw [F4]; rfl
          have B3 := Lib.hid F3
          have B2 := Lib.hid F2
          have B4 := Lib.hid F4
          have E3 := Lib.hid e3
          have E4 := Lib.hid e4
          have E5 := Lib.hid e5
          have S1 := Lib.hid s1
          have S2 := Lib.hid s2
          have hf8 : fl + 8 ≤ 71 := by omega
          have HCW := Lib.hid hc
          clear e1 e2 e3 e4 e5 s1 s2 F1 F2 F3 F4 htb
          have hf24 : fl + 8 + 16 ≤ 100 := by omega
          generalize fl + 8 = f8 at *
          generalize f8 + 16 = f24 at *
          go_wp2_with fail
          have hq6 := Bk.new W6 25 [.int .i64 kd, .int .i64 f8, .int .i64 pa, .int .i64 sr, .int .i64 ds, .int .i64 cn, .int .i64 sq, .int .i64 pu, .slice A6 0 c6]
          have hb0 := (Below.refl W6.heap.size W6).alloc (Nat.le_refl _) (.cells #[.int .i64 kd, .int .i64 f8, .int .i64 pa, .int .i64 sr, .int .i64 ds, .int .i64 cn, .int .i64 sq, .int .i64 pu, .slice A6 0 c6] 25)
          have r6 := r6.below hb0
          have hc := below_on hc hb0
          clear hb0
          refine (bounce_all _ _ _ _ _ _ _ _ A6 0 c6 [] _ (by exact r6) (by omega) (by omega)).mono ?_
          rintro e W7 ⟨A7, c7, rfl, r7, hb7⟩
          simp only [Int.natCast_zero] at *
          rw [B3.out, E3.out, E4.out, E5.out]
          have hq6 := hq6.below hb7
          have hc := below_on hc hb7
          clear hb7 r6
          have hq9 := hq6.cells9
          have hlq := hq6.lt
          go_wp2_with fail
          have hx6 := Bk.new W7 25 [.int .i64 kd, .int .i64 f24, .int .i64 pa, .int .i64 ds, .int .i64 sr, .int .i64 cn, .int .i64 sq, .int .i64 pu, .slice A7 0 c7]
          have hb0 := (Below.refl W7.heap.size W7).alloc (Nat.le_refl _) (.cells #[.int .i64 kd, .int .i64 f24, .int .i64 pa, .int .i64 ds, .int .i64 sr, .int .i64 cn, .int .i64 sq, .int .i64 pu, .slice A7 0 c7] 25)
          have hq6 := hq6.below hb0
          have hc := below_on hc hb0
          clear hb0 hq9 hlq r7
          refine (check_any _ _ _ _ _ _ _ _ _ _ _ _ (by omega)).mono ?_
          rintro e W8 ⟨rfl, hb8⟩
          simp only [Int.natCast_zero]
          rw [B2.out, errV_t]
          have hq6 := hq6.below hb8
          have hx6 := hx6.below hb8
          have hc := below_on hc hb8
          clear hb8
          have hq8 := hq6.cells9
          have hx8 := hx6.cells9
          go_wp2_with fail
          refine (check_any _ _ _ _ _ _ _ _ _ _ _ _ (by omega)).mono ?_
          rintro e W9 ⟨rfl, hb9⟩
          simp only [Int.natCast_zero]
          rw [B4.out, errV_t]
          have hq6 := hq6.below hb9
          have hx6 := hx6.below hb9
          have hc := below_on hc hb9
          clear hb9
          have hq9 := hq6.cells9
          have hx9 := hx6.cells9
          go_wp2_with fail
          refine (size_pk _ _ _ _ _ _ _ _ _ _ _ _ (by omega) (by omega)).mono ?_
          rintro e W10 ⟨rfl, hb10⟩
          simp only [Int.natCast_zero]
          rw [S2.out]
          have hq6 := hq6.below hb10
          have hx6 := hx6.below hb10
          have hc := below_on hc hb10
          clear hb10
          have hq10 := hq6.cells9
          have hx10 := hx6.cells9
          go_wp2_with fail
          refine (size_pk _ _ _ _ _ _ _ _ _ _ _ _ (by omega) (by omega)).mono ?_
          rintro e W11 ⟨rfl, hb11⟩
          simp only [Int.natCast_zero]
          rw [S1.out]
          have hq6 := hq6.below hb11
          have hx6 := hx6.below hb11
          have hc := below_on hc hb11
          clear hb11
          have hq11 := hq6.cells9
          have hx11 := hx6.cells9
          go_wp2_with fail
          refine (awake_any _).mono ?_
          rintro e W12 ⟨rfl, hb12⟩
          go_wp2
          go_ret
          exact ⟨rfl, hc.trans (hb12.mono hc.size)⟩
end Go.Proofs.Ytochbcemobkegaa
