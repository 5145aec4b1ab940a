/- Scores in memory: a path is blamed, and suspended. -/
import Derived.Test.YtjoagkekbeogoaaS5
set_option linter.unusedSimpArgs false
set_option linter.unusedVariables false
namespace Go.Proofs.Ytjoagkekbeogoaa
open Go.RowKit Go.Shelf
section
variable {w : World} {p : Nat} {S : Sc} {b : Int}
set_option maxHeartbeats 1000000 in
theorem sm_must (h : Sm w p S) (ho : S.ok b) (hb : b ≤ 100000) (q : Nat) (hq : q < S.n) :
    Calls Try.prog 32 #[.pointer (some ⟨p, 0, none⟩), .int .i64 q] w fun e w' => e = .returned (.bool (S.must q)) ∧ Below w.heap.size w w' := by
  have h8 := ho.n8
  have ht := ho.t0
  have hq8 : (q : Int) < 8 := by omega
  have c1 := h.cell 1 S.mem_rest
  have c2 := h.cell (26 + q) (S.mem_r (by omega))
  have hcb : ∀ j, 0 ≤ S.c j ∧ S.c j ≤ 1000000 := fun j => ⟨(ho.c0 j).1, by have := (ho.c0 j).2; omega⟩
  have HCS := Lib.hid (S.mem_cs (j := q * 3) (k := 3) (by omega))
  rcases (by omega : S.rest = 0 ∨ 0 < S.rest) with h0 | h0
  · have HM : Hid (S.must q = false) := Lib.hid (by simp [Sc.must, h0])
    rw [h0] at c1
    clear hcb
    go_enter Try.func32, Try.ntmps32
    go_wp2
    go_ret
    exact ⟨by rw [HM.out]; rfl, Below.refl _ _⟩
  · by_cases h1 : S.r q = 0
    · rw [h1] at c2
      by_cases h2 : S.bad q = true
      · have HBAD := Lib.hid h2
        by_cases hlen : 1 < S.act.length
        · have HM : Hid (S.must q = true) := Lib.hid (by simp [Sc.must, h0, h1, h2, hlen])
          clear h1 h2
          go_enter Try.func32, Try.ntmps32
          go_wp2_with (first
      | (go_at_call 35; refine (bad_any S q hcb w).mono ?_; rintro e w1 ⟨rfl, hb1⟩; rw [HBAD.out])
      | (refine at_load 49 (.tmp 24) (by rfl) ?_; refine wpList_load_bk_g rowC (by rfl) (.tmp 24) rfl p (2 + q * 3) rfl h (tabV 3 (fun i => S.c (q * 3 + i))) (tabV_len _ _) HCS.out ?_)
      | (go_at_call 20; refine (sm_active (h.below hb1) ho).mono ?_; rintro e w2 ⟨A, n, c, rfl, hl, hb2⟩
         have hn := hl.1
         rw [intV_len] at hn
         rw [hn] at hlen))
          go_ret
          have hd : decide ((1 : Int) < n) = true := by simp; omega
          exact ⟨by rw [HM.out, ← hd]; rfl, hb1.trans (hb2.mono hb1.size)⟩
        · have HM : Hid (S.must q = false) := Lib.hid (by simp [Sc.must, h0, h1, h2]; omega)
          have hlen : S.act.length ≤ 1 := by omega
          clear h1 h2
          go_enter Try.func32, Try.ntmps32
          go_wp2_with (first
      | (go_at_call 35; refine (bad_any S q hcb w).mono ?_; rintro e w1 ⟨rfl, hb1⟩; rw [HBAD.out])
      | (refine at_load 49 (.tmp 24) (by rfl) ?_; refine wpList_load_bk_g rowC (by rfl) (.tmp 24) rfl p (2 + q * 3) rfl h (tabV 3 (fun i => S.c (q * 3 + i))) (tabV_len _ _) HCS.out ?_)
      | (go_at_call 20; refine (sm_active (h.below hb1) ho).mono ?_; rintro e w2 ⟨A, n, c, rfl, hl, hb2⟩
         have hn := hl.1
         rw [intV_len] at hn
         rw [hn] at hlen))
          have hd : decide ((1 : Int) < n) = false := by simp; omega
          go_ret
          exact ⟨by rw [HM.out, ← hd]; rfl, hb1.trans (hb2.mono hb1.size)⟩
      · have h2 : S.bad q = false := by simpa using h2
        have HBAD := Lib.hid h2
        have HM : Hid (S.must q = false) := Lib.hid (by simp [Sc.must, h0, h1, h2])
        clear h1 h2
        go_enter Try.func32, Try.ntmps32
        go_wp2_with (first
      | (go_at_call 35; refine (bad_any S q hcb w).mono ?_; rintro e w1 ⟨rfl, hb1⟩; rw [HBAD.out])
      | (refine at_load 49 (.tmp 24) (by rfl) ?_; refine wpList_load_bk_g rowC (by rfl) (.tmp 24) rfl p (2 + q * 3) rfl h (tabV 3 (fun i => S.c (q * 3 + i))) (tabV_len _ _) HCS.out ?_)
      | (go_at_call 20; refine (sm_active (h.below hb1) ho).mono ?_; rintro e w2 ⟨A, n, c, rfl, hl, hb2⟩
         have hn := hl.1
         rw [intV_len] at hn
         rw [hn] at hlen))
        go_ret
        exact ⟨by rw [HM.out]; rfl, hb1⟩
    · have HM : Hid (S.must q = false) := Lib.hid (by simp [Sc.must, h0, h1])
      have hd : (S.r q == 0) = false := by simpa using h1
      clear hcb
      go_enter Try.func32, Try.ntmps32
      go_wp2
      go_ret
      exact ⟨by rw [HM.out]; rfl, Below.refl _ _⟩
set_option maxRecDepth 100000 in
set_option maxHeartbeats 2000000 in
theorem sm_blame (h : Sm w p S) (ho : S.ok b) (hb : b ≤ 99999) (x : Int) (k : Nat) (hk : k < 3) (hk0 : k ≠ 0) :
    Calls Try.prog 26 #[.pointer (some ⟨p, 0, none⟩), .int .i64 x, .int .i64 k] w fun e w' => e = .returned (.int .i64 (S.err x)) ∧ Ds p (S.did x k) w w' := by
  have h8 := ho.n8
  have HADD := Lib.hid (sm_add h ho (by omega) x k hk)
  by_cases hx : S.has x = true
  · have hx' : 0 ≤ x ∧ x < S.n := by simpa [Sc.has] using hx
    obtain ⟨q, rfl⟩ := Int.eq_ofNat_of_zero_le hx'.1
    have HE : Hid (S.err q = 0) := Lib.hid (by simp [Sc.err, hx])
    have HA : Hid (S.add q k = S.cnt q k) := Lib.hid (by simp [Sc.add, hx])
    have HD : Hid (S.did q k = S.blame q k) := Lib.hid (by simp [Sc.did, hx, hk0])
    have hq : q < S.n := by omega
    have HQ := Lib.hid (show q < S.n from hq)
    have hq8 : (q : Int) < 8 := by omega
    have HOK := Lib.hid (ho.cnt q k)
    have hn1 : (S.cnt q k).n = S.n := rfl
    have HB : Hid (S.blame q k = if (S.cnt q k).must q = true then (S.cnt q k).susp q else S.cnt q k) := Lib.hid rfl
    rw [← hn1] at HQ
    clear hx hx' hn1 hk0 h8
    go_enter Try.func26, Try.ntmps26
    go_wp2_with fail
    refine HADD.out.mono ?_
    rintro e w1 ⟨rfl, hd⟩
    rw [HE.out]
    have hs := hd.sm
    have HST := Lib.hid hd.st
    rw [HA.out] at hs
    clear hd HADD HA
    generalize S.cnt q k = S at *
    have HMU := Lib.hid (sm_must hs HOK.out (by omega) q HQ.out)
    by_cases hm : S.must q = true
    · rw [if_pos hm] at HB
      have HM := Lib.hid hm
      clear hm
      have hz : (1 : Nat) = 1 := rfl
      have HLC := Lib.hid (S.mem_lay_c (j := q * 3) (k := 3) (by omega))
      go_wp2_with (first
        | (go_at_call 32; refine HMU.out.mono ?_; rintro e w2 ⟨rfl, hb2⟩; rw [HM.out]
           have hs2 := hs.below hb2)
        | (refine at_store 49 (.tmp 24) (.tmp 21) (by rfl) ?_; refine wpList_store_bk rowC rfl (.tmp 24) (.tmp 21) rfl p (2 + q * 3) rfl hs2 (tabV 3 (fun _ => 0)) rfl (tabV_len _ _) (by rw [S.mem_len]; omega) (tabV_one _ _) ?_; rintro w5 hr5 hw5))
      rw [HLC.out] at hr5
      have HS5 := Lib.hid hr5
      have HST5 : Hid (St (· = p) w w5) := Lib.hid ((HST.out.trans (St.ext hb2) (Gr.refl _ _)).trans ⟨hw5.os, hw5.tape, hw5.output, hw5.size, fun j hj hn => hw5.block j hj (by intro e; injection e with e; exact hn e)⟩ (Gr.refl _ _))
      have HC1 := Lib.hid (Sc.mem_rest { S with c := fun i => if q * 3 ≤ i ∧ i < q * 3 + 3 then 0 else S.c i })
      have HC2 := Lib.hid (Sc.mem_r { S with c := fun i => if q * 3 ≤ i ∧ i < q * 3 + 3 then 0 else S.c i } (j := q) (by omega))
      have HSE : Hid ((Sc.mem { S with c := fun i => if q * 3 ≤ i ∧ i < q * 3 + 3 then 0 else S.c i }).set (26 + q) (.int .i64 S.rest) = (S.susp q).mem) := Lib.hid (by rw [Sc.mem_set_r _ (by omega)]; rfl)
      clear hr5 hw5 hs2 hb2 hs HMU HLC
      refine wp_region_L Ext [9] (by kernel_rfl) (fun wd hbd hsz => ?_)
      have hbk := HS5.out.below hbd
      have q0 : ∀ W, Ext wd W → W.cell? ⟨p, 1, none⟩ = some (.int .i64 S.rest) := fun W hW => (hbk.below hW).cell 1 HC1.out
      have f0 := hbk.free (26 + q)
      have c0 := hbk.cell (26 + q) HC2.out
      have HB2 := Lib.hid hbd
      have HK := Lib.hid (hbk.set (26 + q) (.int .i64 S.rest))
      clear hsz
      (refine takeL Ext.tr 0 (by simp only [List.getElem?_toArray, List.getElem?_cons_succ, List.getElem?_cons_zero]; rfl) (by kernel_rfl) (by kernel_rfl) (by kernel_rfl) (by kernel_rfl) (by exact fun _ _ _ h => h) (by first | (refine Or.inl ⟨by rfl, ?_⟩; intro W hW; go_simp; try with_reducible rfl) | exact Or.inr ⟨by rfl, rfl⟩) ?_; try simp only [Act.put, List.setIfInBounds_toArray, List.set_cons_zero, List.set_cons_succ])
      (refine takeL Ext.tr 1 (by simp only [List.getElem?_toArray, List.getElem?_cons_succ, List.getElem?_cons_zero]; rfl) (by kernel_rfl) (by kernel_rfl) (by kernel_rfl) (by kernel_rfl) (by exact fun _ _ _ h => h) (by first | (refine Or.inl ⟨by rfl, ?_⟩; intro W hW; go_simp; try with_reducible rfl) | exact Or.inr ⟨by rfl, rfl⟩) ?_; try simp only [Act.put, List.setIfInBounds_toArray, List.set_cons_zero, List.set_cons_succ])
      (refine takeL Ext.tr 2 (by simp only [List.getElem?_toArray, List.getElem?_cons_succ, List.getElem?_cons_zero]; rfl) (by kernel_rfl) (by kernel_rfl) (by kernel_rfl) (by kernel_rfl) (by exact fun _ _ _ h => h) (by first | (refine Or.inl ⟨by rfl, ?_⟩; intro W hW; go_simp; try with_reducible rfl) | exact Or.inr ⟨by rfl, rfl⟩) ?_; try simp only [Act.put, List.setIfInBounds_toArray, List.set_cons_zero, List.set_cons_succ])
      (refine takeL Ext.tr 3 (by simp only [List.getElem?_toArray, List.getElem?_cons_succ, List.getElem?_cons_zero]; rfl) (by kernel_rfl) (by kernel_rfl) (by kernel_rfl) (by kernel_rfl) (by exact fun _ _ _ h => h) (by first | (refine Or.inl ⟨by rfl, ?_⟩; intro W hW; go_simp; try with_reducible rfl) | exact Or.inr ⟨by rfl, rfl⟩) ?_; try simp only [Act.put, List.setIfInBounds_toArray, List.set_cons_zero, List.set_cons_succ])
      (refine takeL Ext.tr 6 (by simp only [List.getElem?_toArray, List.getElem?_cons_succ, List.getElem?_cons_zero]; rfl) (by kernel_rfl) (by kernel_rfl) (by kernel_rfl) (by kernel_rfl) (by exact fun _ _ _ h => h) (by first | (refine Or.inl ⟨by rfl, ?_⟩; intro W hW; go_simp; try with_reducible rfl) | exact Or.inr ⟨by rfl, rfl⟩) ?_; try simp only [Act.put, List.setIfInBounds_toArray, List.set_cons_zero, List.set_cons_succ])
      (refine takeL Ext.tr 4 (by simp only [List.getElem?_toArray, List.getElem?_cons_succ, List.getElem?_cons_zero]; rfl) (by kernel_rfl) (by kernel_rfl) (by kernel_rfl) (by kernel_rfl) (by exact fun _ _ _ h => h) (by first | (refine Or.inl ⟨by rfl, ?_⟩; intro W hW; go_simp; try with_reducible rfl) | exact Or.inr ⟨by rfl, rfl⟩) ?_; try simp only [Act.put, List.setIfInBounds_toArray, List.set_cons_zero, List.set_cons_succ])
      (refine takeL Ext.tr 7 (by simp only [List.getElem?_toArray, List.getElem?_cons_succ, List.getElem?_cons_zero]; rfl) (by kernel_rfl) (by kernel_rfl) (by kernel_rfl) (by kernel_rfl) (by exact fun _ _ _ h => h) (by first | (refine Or.inl ⟨by rfl, ?_⟩; intro W hW; go_simp; try with_reducible rfl) | exact Or.inr ⟨by rfl, rfl⟩) ?_; try simp only [Act.put, List.setIfInBounds_toArray, List.set_cons_zero, List.set_cons_succ])
      (refine takeL Ext.tr 5 (by simp only [List.getElem?_toArray, List.getElem?_cons_succ, List.getElem?_cons_zero]; rfl) (by kernel_rfl) (by kernel_rfl) (by kernel_rfl) (by kernel_rfl) (by exact fun _ _ _ h => h) (by first | (refine Or.inl ⟨by rfl, ?_⟩; intro W hW; go_simp; try with_reducible rfl) | exact Or.inr ⟨by rfl, rfl⟩) ?_; try simp only [Act.put, List.setIfInBounds_toArray, List.set_cons_zero, List.set_cons_succ])
      (refine takeL Ext.tr 8 (by simp only [List.getElem?_toArray, List.getElem?_cons_succ, List.getElem?_cons_zero]; rfl) (by kernel_rfl) (by kernel_rfl) (by kernel_rfl) (by kernel_rfl) (by exact fun _ _ _ h => h) (by first | (refine Or.inl ⟨by rfl, ?_⟩; intro W hW; go_simp; try with_reducible rfl) | exact Or.inr ⟨by rfl, rfl⟩) ?_; try simp only [Act.put, List.setIfInBounds_toArray, List.set_cons_zero, List.set_cons_succ])
      refine wpAnyL_one (i := 9) (by kernel_rfl) (by simp only [List.getElem?_toArray, List.getElem?_cons_succ, List.getElem?_cons_zero]; rfl) (fun K hK => ?_)
      go_simp
      refine hK.out _ _ (.inl (by decide)) ?_
      clear hK K
      try simp only [Act.put, List.setIfInBounds_toArray, List.set_cons_zero, List.set_cons_succ]
      refine wpAnyL_done (by kernel_rfl) ?_ _
      skip
      go_wp2
      go_ret
      refine ⟨by rw [HE.out]; rfl, ?_, ((HST5.out.trans (St.ext HB2.out) (Gr.refl _ _)).trans (St.setCell (F := (· = p)) _ (a := ⟨p, 26 + q, none⟩) rfl _) (Gr.refl _ _))⟩
      rw [HD.out, HB.out]
      have := HK.out
      rw [HSE.out] at this
      exact this
    · rw [if_neg hm] at HB
      have hm : S.must q = false := by simpa using hm
      have HM := Lib.hid hm
      clear hm
      go_wp2_with (go_at_call 32; refine HMU.out.mono ?_; rintro e w2 ⟨rfl, hb2⟩; rw [HM.out]
                   have hs2 := hs.below hb2)
      go_ret
      refine ⟨by rw [HE.out]; rfl, ?_, HST.out.trans (St.ext hb2) (Gr.refl _ _)⟩
      rw [HD.out, HB.out]
      exact hs2
  · have hx : S.has x = false := by simpa using hx
    have HE : Hid (S.err x = 5) := Lib.hid (by simp [Sc.err, hx])
    have HA : Hid (S.add x k = S) := Lib.hid (by simp [Sc.add, hx])
    have HD : Hid (S.did x k = S) := Lib.hid (by simp [Sc.did, hx])
    clear hk0
    go_enter Try.func26, Try.ntmps26
    go_wp2_with fail
    refine HADD.out.mono ?_
    rintro e w1 ⟨rfl, hd⟩
    rw [HE.out]
    go_wp2
    go_ret
    refine ⟨by rw [HE.out]; rfl, ?_, hd.st⟩
    have := hd.sm
    rw [HA.out] at this
    rw [HD.out]
    exact this
theorem sm_nack (h : Sm w p S) (ho : S.ok b) (hb : b ≤ 99999) (x : Int) :
    Calls Try.prog 11 #[.pointer (some ⟨p, 0, none⟩), .int .i64 x] w fun e w' => e = .returned (.int .i64 (S.err x)) ∧ Ds p (S.did x 1) w w' := by
  go_enter Try.func11, Try.ntmps11
  go_wp2_with (go_at_call 26; refine (sm_blame h ho hb x 1 (by decide) (by decide)).mono ?_; rintro e w' ⟨rfl, hd⟩)
  go_ret
  exact ⟨rfl, hd⟩
theorem sm_bounce (h : Sm w p S) (ho : S.ok b) (hb : b ≤ 99999) (x : Int) :
    Calls Try.prog 12 #[.pointer (some ⟨p, 0, none⟩), .int .i64 x] w fun e w' => e = .returned (.int .i64 (S.err x)) ∧ Ds p (S.did x 2) w w' := by
  go_enter Try.func12, Try.ntmps12
  go_wp2_with (go_at_call 26; refine (sm_blame h ho hb x 2 (by decide) (by decide)).mono ?_; rintro e w' ⟨rfl, hd⟩)
  go_ret
  exact ⟨rfl, hd⟩
end
end Go.Proofs.Ytjoagkekbeogoaa
