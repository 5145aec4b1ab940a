/- Encode, by the reference. -/
import Derived.Test.YtochbcemobkegaaW9
import Derived.Test.YtochbcemobkegaaKit3
import Derived.BigQuiet
import Derived.Deep.QuietTactic
set_option linter.unusedSimpArgs false
set_option linter.unusedVariables false
namespace Go.Proofs.Ytochbcemobkegaa
open Go.RowKit Go.Shelf

theorem enc1 (x : Int) (h0 : 0 ≤ x) (h1 : x < 256) : enc 1 x = [x] := by
  rw [enc_succ]
  unfold byteAt
  simp [enc]
  omega
set_option maxHeartbeats 4000000 in
theorem rencode_no (kd fl pa sr ds cn sq pu : Int) (A : Option Addr) (n c : Nat) (w : World) (hf : fl ≤ 9223372036854775807) (hb : chkB ⟨kd, fl, pa, sr, ds, cn, sq, pu⟩ n = false) :
    Calls Try.prog 9 #[.agg #[.int .i64 kd, .int .i64 fl, .int .i64 pa, .int .i64 sr, .int .i64 ds, .int .i64 cn, .int .i64 sq, .int .i64 pu, .slice A n c]] w fun e w' => e = .returned (.tuple #[.slice none 0 0, .int .i64 30]) ∧ Below w.heap.size w w' := by
  have HI := Lib.hid (fun w => ris_any kd fl pa sr ds cn sq pu A n c w hf)
  rw [hb] at HI
  clear hb
  go_enter Try.func9, Try.ntmps9
  go_wp2_with fail
  refine (HI.out _).mono ?_
  rintro e w1 ⟨rfl, hb1⟩
  obtain ⟨hx, hc⟩ := pk_new hb1
  clear hb1
  go_wp2
  go_ret2
  exact ⟨rfl, hc⟩
theorem hdL_eq (h : Hd) (n : Int) (hh : (0 ≤ h.kd ∧ h.kd < 256) ∧ (0 ≤ h.fl ∧ h.fl < 256) ∧ (0 ≤ h.pa ∧ h.pa < 256) ∧ (0 ≤ h.sr ∧ h.sr < 256) ∧ (0 ≤ h.ds ∧ h.ds < 256)) :
    ((((([78, 90, 1, h.kd, h.fl, h.pa, h.sr, h.ds] ++ enc 4 h.cn) ++ enc 8 h.sq) ++ enc 8 h.pu) ++ enc 2 n) ++ enc 2 0) = hdL h n := by
  obtain ⟨⟨a0, a1⟩, ⟨b0, b1⟩, ⟨c0, c1⟩, ⟨d0, d1⟩, ⟨e0, e1⟩⟩ := hh
  simp only [hdL, preL, flds, List.take, List.flatMap_cons, List.flatMap_nil, enc1 _ a0 a1, enc1 _ b0 b1, enc1 _ c0 c1, enc1 _ d0 d1, enc1 _ e0 e1]
  simp
set_option maxRecDepth 100000 in
set_option maxHeartbeats 4000000 in
theorem rencode_yes (kd fl pa sr ds cn sq pu : Int) (A : Option Addr) (n c : Nat) (xs : List Int) (w : World) (h : Rd .u8 w A n c xs) (hb : chkB ⟨kd, fl, pa, sr, ds, cn, sq, pu⟩ n = true) :
    Calls Try.prog 9 #[.agg #[.int .i64 kd, .int .i64 fl, .int .i64 pa, .int .i64 sr, .int .i64 ds, .int .i64 cn, .int .i64 sq, .int .i64 pu, .slice A n c]] w fun e w' => ∃ v, e = .returned (.tuple #[v, .int .i64 0]) ∧ Ow .u8 5 w.heap.size w' v (encL ⟨kd, fl, pa, sr, ds, cn, sq, pu⟩ xs) ∧ Below w.heap.size w w' := by
  have hR := chk_R hb
  obtain ⟨⟨k1, k2⟩, ⟨k3, k4⟩, ⟨k5, k6⟩, ⟨k7, k8⟩, ⟨k9, k10⟩, ⟨k11, k12⟩, ⟨k13, k14⟩, ⟨k15, k16⟩, k17⟩ := chk_R hb
  dsimp only at k1 k2 k3 k4 k5 k6 k7 k8 k9 k10 k11 k12 k13 k14 k15 k16
  have hf : fl ≤ 9223372036854775807 := by omega
  have hn : n ≤ 1024 := by omega
  have HI := Lib.hid (fun w => ris_any kd fl pa sr ds cn sq pu A n c w hf)
  rw [hb] at HI
  have HE : Hid (encL ⟨kd, fl, pa, sr, ds, cn, sq, pu⟩ xs = hdL ⟨kd, fl, pa, sr, ds, cn, sq, pu⟩ n ++ enc 4 (onV 1 (hdL ⟨kd, fl, pa, sr, ds, cn, sq, pu⟩ n ++ xs)) ++ xs) := Lib.hid (by unfold encL; rw [h.1])
  have HQ := Lib.hid (hdL_eq ⟨kd, fl, pa, sr, ds, cn, sq, pu⟩ n ⟨by dsimp only; omega, by dsimp only; omega, by dsimp only; omega, by dsimp only; omega, by dsimp only; omega⟩)
  dsimp only at HQ
  have HW := Lib.hid (wf_of_ok (l := [78, 90, 1, kd, fl, pa, sr, ds]) (by simp [okB]; omega))
  clear hb hR k17
  go_enter Try.func9, Try.ntmps9
  go_wp2_with fail
  refine (HI.out _).mono ?_
  rintro e w1 ⟨rfl, hb1⟩
  obtain ⟨hx, hc⟩ := pk_new hb1
  have h1 := h.below hc
  clear hb1
  have hlt := hx.lt
  have HW0 := HW
  obtain ⟨c0, c1, c2, c3, c4, c5, c6, c7, c8⟩ := hx.cells9
  go_wp2_with fail
  have hr0 := Rd.lit w1 5 [78, 90, 1, kd, fl, pa, sr, ds] HW0.out (by simp)
  have hx0 := hx.alloc (.cells ([78, 90, 1, kd, fl, pa, sr, ds].map (Value.int .u8)).toArray 5)
  have hp0 := h1.alloc (.cells ([78, 90, 1, kd, fl, pa, sr, ds].map (Value.int .u8)).toArray 5)
  have hc0 := hc.alloc hc.size (.cells ([78, 90, 1, kd, fl, pa, sr, ds].map (Value.int .u8)).toArray 5)
  obtain ⟨l0, el0⟩ : ∃ l, l = [78, 90, 1, kd, fl, pa, sr, ds] := ⟨_, rfl⟩
  have HL0 : Hid (l0.length = 8) := Lib.hid (by rw [el0]; rfl)
  rw [← el0] at hr0 HW0
  simp only [el0] at hr0
  have HEL0 := Lib.hid el0
  clear h1 hc hx
  refine (rput_yes _ _ _ [78, 90, 1, kd, fl, pa, sr, ds] 4 cn _ (by exact hr0) (by omega) (by omega) (by omega)).mono ?_
  rintro e w2 ⟨v, rfl, hown1, hb1⟩
  rw [← el0] at hown1
  obtain ⟨B1, d1, rfl, hr1⟩ := hown1.rd (app_wf HW0.out (enc_wf _ _))
  have HW1 := Lib.hid hr1.2.2.2.2.1
  have hl1 : (l0 ++ enc 4 cn).length = 12 := by simp [HL0.out, enc_length]
  rw [hl1] at hr1 ⊢
  have HL1 := Lib.hid hl1
  have hx1 := hx0.below hb1
  have hp1 := hp0.below hb1
  have hc1 := below_on hc0 hb1
  clear hl1 hown1 hb1 hx0 hp0 hc0 c0 c1 c2 c3 c4 c5 c6 c7 c8 hr0 el0
  obtain ⟨l1, el1⟩ : ∃ l, l = l0 ++ enc 4 cn := ⟨_, rfl⟩
  rw [← el1] at hr1 HW1 HL1
  have HEL1 := Lib.hid el1
  clear el1
  obtain ⟨c0, c1, c2, c3, c4, c5, c6, c7, c8⟩ := hx1.cells9
  go_wp2_with fail
  refine (rput_yes _ _ _ l1 8 sq _ (by exact hr1) (by omega) (by omega) (by omega)).mono ?_
  rintro e w3 ⟨v, rfl, hown2, hb2⟩
  obtain ⟨B2, d2, rfl, hr2⟩ := hown2.rd (app_wf HW1.out (enc_wf _ _))
  have HW2 := Lib.hid hr2.2.2.2.2.1
  have hl2 : (l1 ++ enc 8 sq).length = 20 := by simp [HL1.out, enc_length]
  rw [hl2] at hr2 ⊢
  have HL2 := Lib.hid hl2
  have hx2 := hx1.below hb2
  have hp2 := hp1.below hb2
  have hc2 := below_on hc1 hb2
  clear hl2 hown2 hb2 hx1 hp1 hc1 c0 c1 c2 c3 c4 c5 c6 c7 c8 hr1
  obtain ⟨l2, el2⟩ : ∃ l, l = l1 ++ enc 8 sq := ⟨_, rfl⟩
  rw [← el2] at hr2 HW2 HL2
  have HEL2 := Lib.hid el2
  clear el2
  obtain ⟨c0, c1, c2, c3, c4, c5, c6, c7, c8⟩ := hx2.cells9
  go_wp2_with fail
  refine (rput_yes _ _ _ l2 8 pu _ (by exact hr2) (by omega) (by omega) (by omega)).mono ?_
  rintro e w4 ⟨v, rfl, hown3, hb3⟩
  obtain ⟨B3, d3, rfl, hr3⟩ := hown3.rd (app_wf HW2.out (enc_wf _ _))
  have HW3 := Lib.hid hr3.2.2.2.2.1
  have hl3 : (l2 ++ enc 8 pu).length = 28 := by simp [HL2.out, enc_length]
  rw [hl3] at hr3 ⊢
  have HL3 := Lib.hid hl3
  have hx3 := hx2.below hb3
  have hp3 := hp2.below hb3
  have hc3 := below_on hc2 hb3
  clear hl3 hown3 hb3 hx2 hp2 hc2 c0 c1 c2 c3 c4 c5 c6 c7 c8 hr2
  obtain ⟨l3, el3⟩ : ∃ l, l = l2 ++ enc 8 pu := ⟨_, rfl⟩
  rw [← el3] at hr3 HW3 HL3
  have HEL3 := Lib.hid el3
  clear el3
  obtain ⟨c0, c1, c2, c3, c4, c5, c6, c7, c8⟩ := hx3.cells9
  go_wp2_with fail
  refine (rput_yes _ _ _ l3 2 n _ (by exact hr3) (by omega) (by omega) (by omega)).mono ?_
  rintro e w5 ⟨v, rfl, hown4, hb4⟩
  obtain ⟨B4, d4, rfl, hr4⟩ := hown4.rd (app_wf HW3.out (enc_wf _ _))
  have HW4 := Lib.hid hr4.2.2.2.2.1
  have hl4 : (l3 ++ enc 2 n).length = 30 := by simp [HL3.out, enc_length]
  rw [hl4] at hr4 ⊢
  have HL4 := Lib.hid hl4
  have hx4 := hx3.below hb4
  have hp4 := hp3.below hb4
  have hc4 := below_on hc3 hb4
  clear hl4 hown4 hb4 hx3 hp3 hc3 c0 c1 c2 c3 c4 c5 c6 c7 c8 hr3
  obtain ⟨l4, el4⟩ : ∃ l, l = l3 ++ enc 2 n := ⟨_, rfl⟩
  rw [← el4] at hr4 HW4 HL4
  have HEL4 := Lib.hid el4
  clear el4
  obtain ⟨c0, c1, c2, c3, c4, c5, c6, c7, c8⟩ := hx4.cells9
  go_wp2_with fail
  refine (rput_yes _ _ _ l4 2 0 _ (by exact hr4) (by omega) (by omega) (by omega)).mono ?_
  rintro e w6 ⟨v, rfl, hown5, hb5⟩
  obtain ⟨B5, d5, rfl, hr5⟩ := hown5.rd (app_wf HW4.out (enc_wf _ _))
  have HW5 := Lib.hid hr5.2.2.2.2.1
  have hl5 : (l4 ++ enc 2 0).length = 32 := by simp [HL4.out, enc_length]
  rw [hl5] at hr5 ⊢
  have HL5 := Lib.hid hl5
  have hx5 := hx4.below hb5
  have hp5 := hp4.below hb5
  have hc5 := below_on hc4 hb5
  clear hl5 hown5 hb5 hx4 hp4 hc4 c0 c1 c2 c3 c4 c5 c6 c7 c8 hr4
  obtain ⟨l5, el5⟩ : ∃ l, l = l4 ++ enc 2 0 := ⟨_, rfl⟩
  rw [← el5] at hr5 HW5 HL5
  have HEL5 := Lib.hid el5
  clear el5
  obtain ⟨c0, c1, c2, c3, c4, c5, c6, c7, c8⟩ := hx5.cells9
  go_wp2_with fail
  have hl5 : l5 = hdL ⟨kd, fl, pa, sr, ds, cn, sq, pu⟩ n := by rw [HEL5.out, HEL4.out, HEL3.out, HEL2.out, HEL1.out, HEL0.out, HQ.out]
  rw [← hl5] at HE
  clear hl5 HEL5 HEL4 HEL3 HEL2 HEL1 HEL0 HL4 HL3 HL2 HL1 HL0 HW4 HW3 HW2 HW1 HW0 HQ c0 c1 c2 c3 c4 c5 c6 c7 c8 HI
  obtain ⟨ho0, ho1⟩ := onV_bd 1 l5
  have HON := Lib.hid (onV_app 1 l5 xs (by omega) (by omega))
  obtain ⟨hs0, hs1⟩ := onV_bd 1 (l5 ++ xs)
  generalize onV 1 (l5 ++ xs) = sm at *
  refine wp_region_E Ext (by kernel_rfl) (fun wd hbd hsz => ?_)
  have hrd := hr5.below hbd
  have hxs := hp5.below hbd
  have hpk := hx5.below hbd
  have kc := fun W (hW : Ext wd W) => (hpk.below hW).cells9
  have hcd := below_on hc5 hbd
  clear hr5 hp5 hx5 hc5
  (refine takeE Ext.tr 0 (by simp only [List.getElem?_toArray, List.getElem?_cons_succ, List.getElem?_cons_zero]; rfl) (by kernel_rfl) (by kernel_rfl) (by kernel_rfl) (by exact fun _ _ _ h => h) (by first | (refine Or.inl ⟨by rfl, ?_⟩; intro W hW; go_simp; try with_reducible rfl) | exact Or.inr ⟨by rfl, rfl⟩) ?_; try simp only [Act.put, List.setIfInBounds_toArray, List.set_cons_zero, List.set_cons_succ])
  (refine takeE Ext.tr 2 (by simp only [List.getElem?_toArray, List.getElem?_cons_succ, List.getElem?_cons_zero]; rfl) (by kernel_rfl) (by kernel_rfl) (by kernel_rfl) (by exact fun _ _ _ h => h) (by first | (refine Or.inl ⟨by rfl, ?_⟩; intro W hW; go_simp; try with_reducible rfl) | exact Or.inr ⟨by rfl, rfl⟩) ?_; try simp only [Act.put, List.setIfInBounds_toArray, List.set_cons_zero, List.set_cons_succ])
  (refine takeE Ext.tr 3 (by simp only [List.getElem?_toArray, List.getElem?_cons_succ, List.getElem?_cons_zero]; rfl) (by kernel_rfl) (by kernel_rfl) (by kernel_rfl) (by exact fun _ _ _ h => h) (by first | (refine Or.inl ⟨by rfl, ?_⟩; intro W hW; go_simp; try with_reducible rfl) | exact Or.inr ⟨by rfl, rfl⟩) ?_; try simp only [Act.put, List.setIfInBounds_toArray, List.set_cons_zero, List.set_cons_succ])
  refine wpAnyE_one (i := 1) (by kernel_rfl) (by simp only [List.getElem?_toArray, List.getElem?_cons_succ, List.getElem?_cons_zero]; rfl) (fun K hK => ?_)
  go_simp
  refine (of_any B5 32 d5 l5 _ (by exact hrd)).mono ?_
  rintro e w' ⟨rfl, rfl⟩
  go_simp
  refine hK.out _ _ (Ext.refl _) ?_
  clear hK K
  try simp only [Act.put, List.setIfInBounds_toArray, List.set_cons_zero, List.set_cons_succ]
  refine wpAnyE_one (i := 4) (by kernel_rfl) (by simp only [List.getElem?_toArray, List.getElem?_cons_succ, List.getElem?_cons_zero]; rfl) (fun K hK => ?_)
  go_simp
  refine (on_any _ A n c xs _ (by exact hxs) ho0 ho1).mono ?_
  rintro e w' ⟨rfl, rfl⟩
  rw [HON.out]
  go_simp
  refine hK.out _ _ (Ext.refl _) ?_
  clear hK K
  try simp only [Act.put, List.setIfInBounds_toArray, List.set_cons_zero, List.set_cons_succ]
  (refine takeE Ext.tr 5 (by simp only [List.getElem?_toArray, List.getElem?_cons_succ, List.getElem?_cons_zero]; rfl) (by kernel_rfl) (by kernel_rfl) (by kernel_rfl) (by exact fun _ _ _ h => h) (by first | (refine Or.inl ⟨by rfl, ?_⟩; intro W hW; go_simp; try with_reducible rfl) | exact Or.inr ⟨by rfl, rfl⟩) ?_; try simp only [Act.put, List.setIfInBounds_toArray, List.set_cons_zero, List.set_cons_succ])
  refine wpAnyE_done (by kernel_rfl) ?_ _
  clear kc hbd hsz
  obtain ⟨wv, rfl⟩ : ∃ x : World, x = wd := ⟨_, rfl⟩
  go_wp2_with fail
  refine wp_region_E (Below wv.heap.size) (by kernel_rfl) (fun wd hbd hsz => ?_)
  have hrd2 := hrd.below hbd
  have hxs2 := hxs.below hbd
  have hpk2 := hpk.below hbd
  have hlt5 := hpk.lt
  have kc := fun W (hW : Below wv.heap.size wd W) => (hpk2.keep hW hlt5).cells9
  have hcd2 := below_on hcd hbd
  clear hrd hxs hpk hcd hbd
  have HSZ := Lib.hid hsz
  clear hsz
  have hwr : IntKind.u64.wrap sm = sm := wraps_u64 _ hs0 (by omega)
  (refine takeE (belowTr wv.heap.size) 0 (by simp only [List.getElem?_toArray, List.getElem?_cons_succ, List.getElem?_cons_zero]; rfl) (by kernel_rfl) (by kernel_rfl) (by kernel_rfl) (by exact fun _ _ _ h => h) (by first | (refine Or.inl ⟨by rfl, ?_⟩; intro W hW; go_simp; try with_reducible rfl) | exact Or.inr ⟨by rfl, rfl⟩) ?_; try simp only [Act.put, List.setIfInBounds_toArray, List.set_cons_zero, List.set_cons_succ])
  (refine takeE (belowTr wv.heap.size) 1 (by simp only [List.getElem?_toArray, List.getElem?_cons_succ, List.getElem?_cons_zero]; rfl) (by kernel_rfl) (by kernel_rfl) (by kernel_rfl) (by exact fun _ _ _ h => h) (by first | (refine Or.inl ⟨by rfl, ?_⟩; intro W hW; go_simp; try with_reducible rfl) | exact Or.inr ⟨by rfl, rfl⟩) ?_; try simp only [Act.put, List.setIfInBounds_toArray, List.set_cons_zero, List.set_cons_succ])
  (refine takeE (belowTr wv.heap.size) 4 (by simp only [List.getElem?_toArray, List.getElem?_cons_succ, List.getElem?_cons_zero]; rfl) (by kernel_rfl) (by kernel_rfl) (by kernel_rfl) (by exact fun _ _ _ h => h) (by first | (refine Or.inl ⟨by rfl, ?_⟩; intro W hW; go_simp; try with_reducible rfl) | exact Or.inr ⟨by rfl, rfl⟩) ?_; try simp only [Act.put, List.setIfInBounds_toArray, List.set_cons_zero, List.set_cons_succ])
  (refine takeE (belowTr wv.heap.size) 2 (by simp only [List.getElem?_toArray, List.getElem?_cons_succ, List.getElem?_cons_zero]; rfl) (by kernel_rfl) (by kernel_rfl) (by kernel_rfl) (by exact fun _ _ _ h => h) (by first | (refine Or.inl ⟨by rfl, ?_⟩; intro W hW; go_simp; try with_reducible rfl) | exact Or.inr ⟨by rfl, rfl⟩) ?_; try simp only [Act.put, List.setIfInBounds_toArray, List.set_cons_zero, List.set_cons_succ])
  (refine takeE (belowTr wv.heap.size) 5 (by simp only [List.getElem?_toArray, List.getElem?_cons_succ, List.getElem?_cons_zero]; rfl) (by kernel_rfl) (by kernel_rfl) (by kernel_rfl) (by exact fun _ _ _ h => h) (by first | (refine Or.inl ⟨by rfl, ?_⟩; intro W hW; go_simp; try with_reducible rfl) | exact Or.inr ⟨by rfl, rfl⟩) ?_; try simp only [Act.put, List.setIfInBounds_toArray, List.set_cons_zero, List.set_cons_succ])
  refine wpAnyE_one (i := 3) (by kernel_rfl) (by simp only [List.getElem?_toArray, List.getElem?_cons_succ, List.getElem?_cons_zero]; rfl) (fun K hK => ?_)
  go_simp
  refine (rput_yes B5 32 d5 l5 4 sm _ (by exact hrd2) (by omega) (by omega) (by omega)).mono ?_
  rintro e w8 ⟨v, rfl, hown, hb8⟩
  rw [HSZ.out] at hown hb8
  have hpk3 := hpk2.keep hb8 hlt5
  have hxs3 := hxs2.belowB hb8 (Nat.le_of_eq HSZ.out)
  clear kc
  have kc := fun W (hW : Below wv.heap.size w8 W) => (hpk3.keep hW hlt5).cells9
  go_simp
  refine hK.out _ _ hb8 ?_
  clear hK K
  try simp only [Act.put, List.setIfInBounds_toArray, List.set_cons_zero, List.set_cons_succ]
  refine wpAnyE_one (i := 6) (by kernel_rfl) (by simp only [List.getElem?_toArray, List.getElem?_cons_succ, List.getElem?_cons_zero]; rfl) (fun K hK => ?_)
  refine opwp_append_ints bytesT rfl (.tmp 55) (.tmp 57) rfl rfl hown rfl (by exact hxs3) (by have := HL5.out; simp [enc_length]; omega) (by omega) (by have := hb8.size; have := HSZ.out; omega) ?_
  intro v9 w9 hown9 hb9
  simp only [Act.put, List.setIfInBounds_toArray, List.set_cons_zero, List.set_cons_succ]
  refine hK.out _ _ hb9 ?_
  clear hK K
  try simp only [Act.put, List.setIfInBounds_toArray, List.set_cons_zero, List.set_cons_succ]
  (refine takeE (belowTr wv.heap.size) 7 (by simp only [List.getElem?_toArray, List.getElem?_cons_succ, List.getElem?_cons_zero]; rfl) (by kernel_rfl) (by kernel_rfl) (by kernel_rfl) (by exact fun _ _ _ h => h) (by first | (refine Or.inl ⟨by rfl, ?_⟩; intro W hW; go_simp; try with_reducible rfl) | exact Or.inr ⟨by rfl, rfl⟩) ?_; try simp only [Act.put, List.setIfInBounds_toArray, List.set_cons_zero, List.set_cons_succ])
  (refine takeE (belowTr wv.heap.size) 8 (by simp only [List.getElem?_toArray, List.getElem?_cons_succ, List.getElem?_cons_zero]; rfl) (by kernel_rfl) (by kernel_rfl) (by kernel_rfl) (by exact fun _ _ _ h => h) (by first | (refine Or.inl ⟨by rfl, ?_⟩; intro W hW; go_simp; try with_reducible rfl) | exact Or.inr ⟨by rfl, rfl⟩) ?_; try simp only [Act.put, List.setIfInBounds_toArray, List.set_cons_zero, List.set_cons_succ])
  refine wpAnyE_done (by kernel_rfl) ?_ _
  clear kc hwr
  go_wp2_with fail
  go_ret2
  exact ⟨_, rfl, by rw [HE.out]; exact hown9.mono (Nat.le_of_lt hlt5), (hcd2.trans (hb8.mono (Nat.le_of_lt hlt5))).trans (hb9.mono (Nat.le_of_lt hlt5))⟩
end Go.Proofs.Ytochbcemobkegaa
