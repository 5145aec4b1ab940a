/- A list of paths: renewed. -/
import Derived.Test.YtiefgicapcljiaaQ7
set_option linter.unusedSimpArgs false
set_option linter.unusedVariables false
namespace Go.Proofs.Ytiefgicapcljiaa
open Go.RowKit Go.Shelf
/-- What is told of paths. -/
def errV (xs : List Int) : Int := if valP xs = true then 0 else 60
theorem errV_ok {xs : List Int} (h : valP xs = true) : errV xs = 0 := if_pos h
theorem errV_no {xs : List Int} (h : valP xs = false) : errV xs = 60 := by simp [errV, h]
set_option maxRecDepth 100000 in
set_option maxHeartbeats 2000000 in
theorem pm_renew (F : Nat → Prop) (w : World) (p : Nat) (L : PL) (b : Int) (X : Option Addr) (nx cx : Nat) (xs : List Int) (h : Pm F w p L) (ho : L.ok b) (hb : b ≤ 100000) (hx : Rd .i64 w X nx cx xs) :
    Calls Try.prog 11 #[.pointer (some ⟨p, 0, none⟩), .slice X nx cx] w fun e w' => e = .returned (.int .i64 (errV xs)) ∧ Did F p (L.renew xs) w w' := by
  have HP := Lib.hid h
  obtain ⟨h1, h2, q, A, n, c, h3, h4, h5, h6, h7, h8, h9⟩ := h
  have HO := Lib.hid ho
  clear ho
  go_enter Try.func11, Try.ntmps11
  go_wp2_with (go_at_call 27; refine (pm_made _ _ _ _ h3).mono ?_; rintro e w' ⟨rfl, rfl⟩)
  refine (setOf_any X nx cx xs w hx).mono ?_
  rintro e w1 ⟨rfl, hb1⟩
  have hz := Bk.new w1 54 (boolV (List.replicate 8 false))
  have hzl : (boolV (setB xs)).length = 8 := by unfold setB; split; rw [boolV_len, memB_len]; rfl
  have HZL := Lib.hid hzl
  clear hzl hx
  by_cases hv : valP xs = true
  · have hsb : setB xs = memB xs := by unfold setB; rw [if_pos hv]
    have HZL2 : Hid ((boolV (memB xs)).length = 8) := Lib.hid (by rw [boolV_len, memB_len])
    rw [hsb]
    clear hsb HZL
    go_wp2_with (refine wpList_store_bk rowSet rfl (.tmp 5) (.tmp 13) rfl w1.heap.size 0 rfl hz (boolV (memB xs)) rfl HZL2.out (by decide) (boolV_one _) ?_; rintro w2 hz2 hw2)
    rw [lay_all _ _ HZL2.out] at hz2
    have hb2 : Below w.heap.size w w2 := (hb1.alloc hb1.size _).trans (hw2.below hb1.size (by simp; have := hb1.size; omega))
    have hb5 : Below w.heap.size w w2 := hb2
    by_cases hne : memB xs = memB L.ps
    · have HR : Hid (L.renew xs = L) := Lib.hid (by unfold PL.renew; rw [if_neg (fun h' => h'.2 hne)])
      have HV : Hid (valP xs = true) := Lib.hid hv
      have HNE : decide (memB xs = memB L.ps) = true := by simp [hne]
      clear hne hv
      refine wp_region_E Ext (by kernel_rfl) (fun wd hbd hsz => ?_)
      have hzb := hz2.below hbd
      have hpb := (h3.below hb5).below hbd
      have HZB := Lib.hid hzb
      have HPB := Lib.hid hpb
      clear hsz
      (refine takeE Ext.tr 0 (by simp only [List.getElem?_toArray, List.getElem?_cons_succ, List.getElem?_cons_zero]; rfl) (by kernel_rfl) (by kernel_rfl) (by kernel_rfl) (by exact fun _ _ _ h => h) (by first | (refine Or.inl ⟨by rfl, ?_⟩; intro W hW; exact exec_load_bk rowSet _ rfl w1.heap.size 0 rfl (HZB.out.below hW) (boolV (memB xs)) (by rw [boolV_len, memB_len]) (by rw [boolV_len, memB_len]; rfl)) | exact Or.inr ⟨by rfl, rfl⟩) ?_; try simp only [Act.put, List.setIfInBounds_toArray, List.set_cons_zero, List.set_cons_succ])
      (refine takeE Ext.tr 1 (by simp only [List.getElem?_toArray, List.getElem?_cons_succ, List.getElem?_cons_zero]; rfl) (by kernel_rfl) (by kernel_rfl) (by kernel_rfl) (by exact fun _ _ _ h => h) (by first | (refine Or.inl ⟨by rfl, ?_⟩; intro W hW; go_simp; try with_reducible rfl) | exact Or.inr ⟨by rfl, rfl⟩) ?_; try simp only [Act.put, List.setIfInBounds_toArray, List.set_cons_zero, List.set_cons_succ])
      (refine takeE Ext.tr 2 (by simp only [List.getElem?_toArray, List.getElem?_cons_succ, List.getElem?_cons_zero]; rfl) (by kernel_rfl) (by kernel_rfl) (by kernel_rfl) (by exact fun _ _ _ h => h) (by first | (refine Or.inl ⟨by rfl, ?_⟩; intro W hW; go_simp; try with_reducible rfl) | exact Or.inr ⟨by rfl, rfl⟩) ?_; try simp only [Act.put, List.setIfInBounds_toArray, List.set_cons_zero, List.set_cons_succ])
      (refine takeE Ext.tr 3 (by simp only [List.getElem?_toArray, List.getElem?_cons_succ, List.getElem?_cons_zero]; rfl) (by kernel_rfl) (by kernel_rfl) (by kernel_rfl) (by exact fun _ _ _ h => h) (by first | (refine Or.inl ⟨by rfl, ?_⟩; intro W hW; go_simp; try with_reducible rfl) | exact Or.inr ⟨by rfl, rfl⟩) ?_; try simp only [Act.put, List.setIfInBounds_toArray, List.set_cons_zero, List.set_cons_succ])
      (refine takeE Ext.tr 4 (by simp only [List.getElem?_toArray, List.getElem?_cons_succ, List.getElem?_cons_zero]; rfl) (by kernel_rfl) (by kernel_rfl) (by kernel_rfl) (by exact fun _ _ _ h => h) (by first | (refine Or.inl ⟨by rfl, ?_⟩; intro W hW; exact exec_load_bk rowSet _ rfl p 1 rfl (HPB.out.below hW) (boolV (memB L.ps)) (by rw [boolV_len, memB_len]) (cellsL_ps _ _ _ _ _ _ (memB_len _))) | exact Or.inr ⟨by rfl, rfl⟩) ?_; try simp only [Act.put, List.setIfInBounds_toArray, List.set_cons_zero, List.set_cons_succ])
      (refine takeE Ext.tr 5 (by simp only [List.getElem?_toArray, List.getElem?_cons_succ, List.getElem?_cons_zero]; rfl) (by kernel_rfl) (by kernel_rfl) (by kernel_rfl) (by exact fun _ _ _ h => h) (by first | (refine Or.inl ⟨by rfl, ?_⟩; intro W hW; exact exec_cmp_agg rfl (by kernel_rfl) rfl rfl (arrSet.neq (w := W) .bool (eq_bool rfl 9998) (memB xs) (memB L.ps) (memB_len _) (memB_len _))) | exact Or.inr ⟨by rfl, rfl⟩) ?_; try simp only [Act.put, List.setIfInBounds_toArray, List.set_cons_zero, List.set_cons_succ])
      refine wpAnyE_done (by kernel_rfl) ?_ _
      skip
      rw [HNE]
      have HB := Lib.hid (hb5.trans (hbd.mono hb5.size))
      clear hzb hpb hz2 hw2 hz hbd hb2 hb5 hb1
      go_wp2
      go_ret
      exact ⟨ret_int (errV_ok HV.out).symm, F, by rw [HR.out]; exact HP.out.below HB.out, St.ext HB.out, Gr.refl _ _⟩
    · have HR : Hid (L.renew xs = PL.begin { L with ps := riseL xs }) := Lib.hid (by unfold PL.renew; rw [if_pos ⟨hv, hne⟩])
      have HV : Hid (valP xs = true) := Lib.hid hv
      have HNE : decide (memB xs = memB L.ps) = false := by simp [hne]
      clear hne hv
      refine wp_region_E Ext (by kernel_rfl) (fun wd hbd hsz => ?_)
      have hzb := hz2.below hbd
      have hpb := (h3.below hb5).below hbd
      have HZB := Lib.hid hzb
      have HPB := Lib.hid hpb
      clear hsz
      (refine takeE Ext.tr 0 (by simp only [List.getElem?_toArray, List.getElem?_cons_succ, List.getElem?_cons_zero]; rfl) (by kernel_rfl) (by kernel_rfl) (by kernel_rfl) (by exact fun _ _ _ h => h) (by first | (refine Or.inl ⟨by rfl, ?_⟩; intro W hW; exact exec_load_bk rowSet _ rfl w1.heap.size 0 rfl (HZB.out.below hW) (boolV (memB xs)) (by rw [boolV_len, memB_len]) (by rw [boolV_len, memB_len]; rfl)) | exact Or.inr ⟨by rfl, rfl⟩) ?_; try simp only [Act.put, List.setIfInBounds_toArray, List.set_cons_zero, List.set_cons_succ])
      (refine takeE Ext.tr 1 (by simp only [List.getElem?_toArray, List.getElem?_cons_succ, List.getElem?_cons_zero]; rfl) (by kernel_rfl) (by kernel_rfl) (by kernel_rfl) (by exact fun _ _ _ h => h) (by first | (refine Or.inl ⟨by rfl, ?_⟩; intro W hW; go_simp; try with_reducible rfl) | exact Or.inr ⟨by rfl, rfl⟩) ?_; try simp only [Act.put, List.setIfInBounds_toArray, List.set_cons_zero, List.set_cons_succ])
      (refine takeE Ext.tr 2 (by simp only [List.getElem?_toArray, List.getElem?_cons_succ, List.getElem?_cons_zero]; rfl) (by kernel_rfl) (by kernel_rfl) (by kernel_rfl) (by exact fun _ _ _ h => h) (by first | (refine Or.inl ⟨by rfl, ?_⟩; intro W hW; go_simp; try with_reducible rfl) | exact Or.inr ⟨by rfl, rfl⟩) ?_; try simp only [Act.put, List.setIfInBounds_toArray, List.set_cons_zero, List.set_cons_succ])
      (refine takeE Ext.tr 3 (by simp only [List.getElem?_toArray, List.getElem?_cons_succ, List.getElem?_cons_zero]; rfl) (by kernel_rfl) (by kernel_rfl) (by kernel_rfl) (by exact fun _ _ _ h => h) (by first | (refine Or.inl ⟨by rfl, ?_⟩; intro W hW; go_simp; try with_reducible rfl) | exact Or.inr ⟨by rfl, rfl⟩) ?_; try simp only [Act.put, List.setIfInBounds_toArray, List.set_cons_zero, List.set_cons_succ])
      (refine takeE Ext.tr 4 (by simp only [List.getElem?_toArray, List.getElem?_cons_succ, List.getElem?_cons_zero]; rfl) (by kernel_rfl) (by kernel_rfl) (by kernel_rfl) (by exact fun _ _ _ h => h) (by first | (refine Or.inl ⟨by rfl, ?_⟩; intro W hW; exact exec_load_bk rowSet _ rfl p 1 rfl (HPB.out.below hW) (boolV (memB L.ps)) (by rw [boolV_len, memB_len]) (cellsL_ps _ _ _ _ _ _ (memB_len _))) | exact Or.inr ⟨by rfl, rfl⟩) ?_; try simp only [Act.put, List.setIfInBounds_toArray, List.set_cons_zero, List.set_cons_succ])
      (refine takeE Ext.tr 5 (by simp only [List.getElem?_toArray, List.getElem?_cons_succ, List.getElem?_cons_zero]; rfl) (by kernel_rfl) (by kernel_rfl) (by kernel_rfl) (by exact fun _ _ _ h => h) (by first | (refine Or.inl ⟨by rfl, ?_⟩; intro W hW; exact exec_cmp_agg rfl (by kernel_rfl) rfl rfl (arrSet.neq (w := W) .bool (eq_bool rfl 9998) (memB xs) (memB L.ps) (memB_len _) (memB_len _))) | exact Or.inr ⟨by rfl, rfl⟩) ?_; try simp only [Act.put, List.setIfInBounds_toArray, List.set_cons_zero, List.set_cons_succ])
      refine wpAnyE_done (by kernel_rfl) ?_ _
      skip
      rw [HNE]
      have HB := Lib.hid (hb5.trans (hbd.mono hb5.size))
      have hbs := HB.out.size
      clear hzb hpb hz2 hw2 hz hbd hb2 hb5 hb1
      have hk := HPB.out
      go_wp2_with (first
        | (refine wpList_load_bk rowSet rfl (.tmp 5) rfl w1.heap.size 0 rfl HZB.out (boolV (memB xs)) HZL2.out (by rw [boolV_len, memB_len]; rfl) ?_)
        | (refine wpList_store_bk rowSet rfl (.tmp 26) (.tmp 24) rfl p 1 rfl hk (boolV (memB xs)) rfl HZL2.out (by rw [cellsL_len _ _ _ _ _ _ (memB_len _) HO.out.t1]; decide) (boolV_one _) ?_; rintro w6 hk6 hw6))
      rw [cellsL_lay1 _ _ _ _ _ _ (memB_len _) _ (memB_len _), ← memB_riseL xs] at hk6
      have hs6 : Src w6 q L.s L.i := Bk.wr (Bk.below h4 HB.out) hw6 (Ne.symm h7)
      have hw6z := hw6.size
      refine (begin_any w6 p q L.s L.i (riseL xs) _ _ _ L.rounds _ hk6 hs6 (riseL_idem xs).symm h7 HO.out.t1 HO.out.i0 (by have := HO.out.i1; omega) HO.out.n0 (by have := HO.out.n1; omega)).mono ?_
      rintro e w7 ⟨rfl, A', c', hk7, hs7, hl7, hst7⟩
      have hF5 : ∀ j, F j → j < w6.heap.size := fun j hj => by have := h2 j hj; omega
      have hst6 : St F w w6 := (St.ext HB.out).trans (St.mono (F := (· = p)) ⟨hw6.os, hw6.tape, hw6.output, hw6.size, fun j hj hn => hw6.block j hj (by intro e; injection e with e; exact hn e)⟩ (fun j _ hj => by rw [hj]; exact h1)) (Gr.refl _ _)
      have hP := pm_begun (L := { L with ps := riseL xs }) h1 h6 hF5 h7 hk7 hs7 hl7 hst7.size
      have HP2 := Lib.hid hP
      have HS := Lib.hid (hst6.trans (hst7.mono (F' := F) (fun j _ hj => by rcases hj with rfl | rfl; exact h1; exact h6)) (Gr.refl _ _))
      have HZ := Lib.hid hst6.size
      clear hP hst7 hst6 hk7 hs7 hl7 hk6 hs6 hk hw6 hF5
      go_wp2
      go_ret
      refine ⟨ret_int (errV_ok HV.out).symm, _, by rw [HR.out]; exact HP2.out.1, HS.out, fun j hj => ?_⟩
      rcases HP2.out.2 j hj with h' | h'
      · exact .inl h'
      · exact .inr (Nat.le_trans HZ.out h')
  · have HR : Hid (L.renew xs = L) := Lib.hid (by unfold PL.renew; rw [if_neg (fun h' => hv h'.1)])
    have hvf : valP xs = false := by simpa using hv
    have HV : Hid (valP xs = false) := Lib.hid hvf
    rw [hvf]
    clear hv hvf
    go_wp2_with (refine wpList_store_bk rowSet rfl (.tmp 5) (.tmp 13) rfl w1.heap.size 0 rfl hz (boolV (setB xs)) rfl HZL.out (by decide) (boolV_one _) ?_; rintro w2 hz2 hw2)
    have HB := Lib.hid ((hb1.alloc hb1.size _).trans (hw2.below hb1.size (by simp; have := hb1.size; omega)))
    clear hz2 hw2 hz hb1
    go_ret
    exact ⟨ret_int (errV_no HV.out).symm, F, by rw [HR.out]; exact HP.out.below HB.out, St.ext HB.out, Gr.refl _ _⟩
end Go.Proofs.Ytiefgicapcljiaa
