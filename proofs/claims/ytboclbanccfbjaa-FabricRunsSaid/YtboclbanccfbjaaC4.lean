/- Texts of this proof, put together: P19 P20 -/
import Derived.Test.YtboclbanccfbjaaC3
namespace Go.Proofs.Ytboclbanccfbjaa
set_option linter.unusedSimpArgs false
set_option linter.unusedVariables false
set_option maxRecDepth 100000
open Go.RowKit Go.Shelf
section
variable {F : Nat → Prop} {w W W' : World} {r : RV} {m : AM} {q : Pv}
/-- The two boxes of the results. -/
def Bt (w : World) (k : Nat) : Prop := k = w.heap.size + 2 ∨ k = w.heap.size + 3
theorem bt0 : ¬ Bt w w.heap.size := by unfold Bt; omega
theorem bt1 : ¬ Bt w (w.heap.size + 1) := by unfold Bt; omega
theorem wr_bt {g : Nat} (hg : g = w.heap.size + 2 ∨ g = w.heap.size + 3) (hw : Wr g W W') : St (Bt w) W W' := ⟨hw.os, hw.tape, hw.output, hw.size, fun k hk hn => hw.block k hk fun e => hn (by injection e with e; rw [e]; exact hg)⟩
theorem b2_st (h : RS F w W r m q) {G : Nat → Prop} (hs : St G W W') (hG : ¬ G w.heap.size) : Bk W' 76 w.heap.size (r.cl m) := h.b2.st hs hG
theorem b3_st (h : RS F w W r m q) {G : Nat → Prop} (hs : St G W W') (hG : ¬ G (w.heap.size + 1)) : Bk W' 65 (w.heap.size + 1) q.cl := h.b3.st hs hG
set_option maxHeartbeats 4000000 in
set_option maxRecDepth 100000 in
theorem r_putB (h : RpR F w r m) (hq : PvR F w q) (hF : ∀ k, F k → k < w.heap.size) (hl : m.low.length ≤ 1024) (hh : m.high.length ≤ 1024) (hc : q.pk.chk = true) (hk : q.h.kd = 1) (hn : 0 < q.n) (hr : m.low.length < m.lr) :
    Calls Try.prog 60 #[.agg #[.slice r.a1 r.n1 r.c1, .slice r.a2 r.n2 r.c2, .int .i64 m.lr, .int .i64 m.hr, .int .i64 m.wt, .int .i64 m.run, .int .i64 (m.ct 0), .int .i64 (m.ct 1), .int .i64 (m.ct 2), .int .i64 (m.ct 3), .int .i64 (m.ct 4)], .agg #[.int .i64 q.h.kd, .int .i64 q.h.fl, .int .i64 q.h.pa, .int .i64 q.h.sr, .int .i64 q.h.ds, .int .i64 q.h.cn, .int .i64 q.h.sq, .int .i64 q.h.pu, .slice q.A q.n q.c]] w (RPutTo F w (m.base q.pk) (m.vd q.pk) (m.out q.pk)) := by
  have hn1 : r.n1 ≤ 1024 := by rw [← h.lo.len]; exact hl
  have hn2 : r.n2 ≤ 1024 := by rw [← h.hi.len]; exact hh
  have HN1 : Hid (r.n1 ≤ 2000) := Lib.hid (by omega)
  have HN2 : Hid (r.n2 ≤ 2000) := Lib.hid (by omega)
  have hll := h.lo.len
  have hhl := h.hi.len
  have hqn := hq.len
  have hhv : q.pk.heavy = true := by show (q.h.kd == 1 && decide (0 < q.xs.length)) = true; rw [hk, hqn]; simpa using hn
  have hv : m.vd q.pk = 1 := by unfold AM.vd; rw [if_neg (by simp [hc]), hhv]; exact if_pos hr
  have HBs : Hid (m.base q.pk = m.put false (m.low ++ [q.pk]) ∧ m.out q.pk = q.pk) := Lib.hid (by have := base1 hv; rw [hhv] at this; exact this)
  rw [hv]
  have hkb : (q.h.kd == 1) = true := by rw [hk]; rfl
  have hnn : (0 : Int) < q.n := by omega
  have hrr : (r.n1 : Int) < m.lr := by omega
  clear hk hn hr hhv hv
  have HI : Hid (∀ o o' o2 o3, Calls Try.prog 70 #[.agg #[.int .i64 q.h.kd, .int .i64 q.h.fl, .int .i64 q.h.pa, .int .i64 q.h.sr, .int .i64 q.h.ds, .int .i64 q.h.cn, .int .i64 q.h.sq, .int .i64 q.h.pu, .slice q.A q.n q.c]] ((((w.alloc o).alloc o').alloc o2).alloc o3) fun e w' => e = .returned (.bool true) ∧ Below ((((w.alloc o).alloc o').alloc o2).alloc o3).heap.size ((((w.alloc o).alloc o').alloc o2).alloc o3) w') := Lib.hid fun o o' o2 o3 => by
    have := r_is (hq.below (((((Below.refl w.heap.size w).alloc (Nat.le_refl _) o).alloc (by simp) o').alloc (by simp; omega) o2).alloc (by simp; omega) o3))
    rw [hc] at this; exact this
  have HR := Lib.hid h
  have HQ := Lib.hid hq
  have HF := Lib.hid hF
  clear h hq hF hc hl hh hll hhl hqn hn1 hn2
  go_enter Try.func60, Try.ntmps60
  go_wp2_with fail
  refine (HI.out _ _ _ _).mono ?_
  rintro e w1 ⟨rfl, hb1⟩
  have HS0 := Lib.hid (RS.new HR.out HQ.out hb1)
  clear hb1 HR HQ HI
  have a0_0 := HS0.out.b2.cell 0 rfl
  have a1_0 := HS0.out.b2.cell 1 rfl
  have a2_0 := HS0.out.b2.cell 2 rfl
  have a3_0 := HS0.out.b2.cell 3 rfl
  have k0_0 := HS0.out.b3.cell 0 rfl
  have k1_0 := HS0.out.b3.cell 1 rfl
  have k8_0 := HS0.out.b3.cell 8 rfl
  have h2_0 := HS0.out.b2
  have h3_0 := HS0.out.b3
  have f0_0 := HS0.out.b2.free 0
  have f1_0 := HS0.out.b2.free 1
  go_wp2_with (first
    | (with_reducible refine at_load 65 (.tmp 3) (by rfl) ?_; refine wpList_load_pk rowP rfl (.tmp 3) rfl q (w.heap.size + 1) 0 rfl (Bk.pk (q := q) h3_0) ?_))
  refine (r_with HS0.out.rp.lo HS0.out.pv (HS0.out.bd HF.out) HN1.out).mono ?_
  rintro e ww1 ⟨Aw1, nw1, cw1, rfl, hsw1, hbw1⟩
  have HSW1 := Lib.hid (HS0.out.below hbw1)
  have HSV1 := Lib.hid (HSW1.out.low hsw1)
  have z0w := HSW1.out.b2.cell 0 rfl
  have g0w := HSW1.out.b2.free 0
  clear a0_0 a1_0 a2_0 a3_0 k0_0 k1_0 k8_0 h2_0 h3_0 f0_0 f1_0
  go_wp2_with fail
  refine wp_region_E (St (Bt w)) (by kernel_rfl) (fun wd hbd hsz => ?_)
  have HSE := Lib.hid (HSV1.out.below hbd)
  have HE4 := Lib.hid HSE.out.b4
  have HE6 := Lib.hid HSE.out.b6
  clear hsz
  (refine takeE (St.tr (Bt w)) 0 (by simp only [List.getElem?_toArray, List.getElem?_cons_succ, List.getElem?_cons_zero]; rfl) (by kernel_rfl) (by kernel_rfl) (by kernel_rfl) (by exact fun _ _ _ h => h) (by first | (refine Or.inl ⟨by rfl, ?_⟩; intro W hW; exact exec_load_bk rowR (.tmp 2) rfl w.heap.size 0 rfl (b2_st HSE.out hW bt0) (RV.cl ⟨Aw1, nw1, cw1, r.a2, r.n2, r.c2⟩ (m.put false (m.low ++ [q.pk]))) rfl rfl) | exact Or.inr ⟨by rfl, rfl⟩) ?_; try simp only [Act.put, List.setIfInBounds_toArray, List.set_cons_zero, List.set_cons_succ])
  (refine takeE (St.tr (Bt w)) 1 (by simp only [List.getElem?_toArray, List.getElem?_cons_succ, List.getElem?_cons_zero]; rfl) (by kernel_rfl) (by kernel_rfl) (by kernel_rfl) (by exact fun _ _ _ h => h) (by first | (refine Or.inl ⟨by rfl, ?_⟩; intro W hW; exact exec_load_bk rowP (.tmp 3) rfl (w.heap.size + 1) 0 rfl (b3_st HSE.out hW bt1) q.cl rfl rfl) | exact Or.inr ⟨by rfl, rfl⟩) ?_; try simp only [Act.put, List.setIfInBounds_toArray, List.set_cons_zero, List.set_cons_succ])
  refine wpAnyE_one (i := 2) (by kernel_rfl) (by simp only [List.getElem?_toArray, List.getElem?_cons_succ, List.getElem?_cons_zero]; rfl) (fun K hK => ?_)
  refine opwp_store_bk rowR rfl (.tmp 4) (.tmp 37) rfl (w.heap.size + 2) 0 rfl HE4.out (RV.cl ⟨Aw1, nw1, cw1, r.a2, r.n2, r.c2⟩ (m.put false (m.low ++ [q.pk]))) rfl rfl (by decide) (RV.cl_one _ _) ?_
  intro w5 h45 hw5
  rw [lay_all _ _ (by rfl)] at h45
  have HW5 := Lib.hid hw5
  have H45 := Lib.hid h45
  have H65 := Lib.hid (HE6.out.wr hw5 (by omega))
  have HZ5 := Lib.hid (show St (Bt w) wd w5 from wr_bt (by omega) hw5)
  refine hK.out _ _ HZ5.out ?_
  clear hK K
  try simp only [Act.put, List.setIfInBounds_toArray, List.set_cons_zero, List.set_cons_succ]
  (refine takeE (St.tr (Bt w)) 3 (by simp only [List.getElem?_toArray, List.getElem?_cons_succ, List.getElem?_cons_zero]; rfl) (by kernel_rfl) (by kernel_rfl) (by kernel_rfl) (by exact fun _ _ _ h => h) (by first | (refine Or.inl ⟨by rfl, ?_⟩; intro W hW; go_simp; try with_reducible rfl) | exact Or.inr ⟨by rfl, rfl⟩) ?_; try simp only [Act.put, List.setIfInBounds_toArray, List.set_cons_zero, List.set_cons_succ])
  refine wpAnyE_one (i := 4) (by kernel_rfl) (by simp only [List.getElem?_toArray, List.getElem?_cons_succ, List.getElem?_cons_zero]; rfl) (fun K hK => ?_)
  refine opwp_store_bk rowP rfl (.tmp 6) (.tmp 38) rfl (w.heap.size + 3) 0 rfl H65.out q.cl rfl rfl (by decide) (Pv.cl_one _) ?_
  intro w6 h66 hw6
  rw [lay_all _ _ (by rfl)] at h66
  have HW6 := Lib.hid hw6
  have H66 := Lib.hid h66
  have H46 := Lib.hid (H45.out.wr hw6 (by omega))
  refine hK.out _ _ (wr_bt (by omega) hw6) ?_
  clear hK K
  try simp only [Act.put, List.setIfInBounds_toArray, List.set_cons_zero, List.set_cons_succ]
  refine wpAnyE_done (by kernel_rfl) ?_ _
  go_wp2
  exact bodyPost_ret (results_ctc rfl rfl rfl (rowR.load H46.out 0 (cs := (RV.cl ⟨Aw1, nw1, cw1, r.a2, r.n2, r.c2⟩ (m.put false (m.low ++ [q.pk])))) rfl rfl) (load_pk rowP H66.out)) rfl (RPutTo.of HSE.out HSE.out.pv HW5.out HW6.out (by kernel_rfl) HBs.out.1 HBs.out.2.symm)
set_option maxHeartbeats 4000000 in
set_option maxRecDepth 100000 in
theorem r_putC (h : RpR F w r m) (hq : PvR F w q) (hF : ∀ k, F k → k < w.heap.size) (hl : m.low.length ≤ 1024) (hh : m.high.length ≤ 1024) (hc : q.pk.chk = true) (hk : q.h.kd = 1) (hn : 0 < q.n) (hr : ¬ m.low.length < m.lr) (hr2 : m.high.length < m.hr) :
    Calls Try.prog 60 #[.agg #[.slice r.a1 r.n1 r.c1, .slice r.a2 r.n2 r.c2, .int .i64 m.lr, .int .i64 m.hr, .int .i64 m.wt, .int .i64 m.run, .int .i64 (m.ct 0), .int .i64 (m.ct 1), .int .i64 (m.ct 2), .int .i64 (m.ct 3), .int .i64 (m.ct 4)], .agg #[.int .i64 q.h.kd, .int .i64 q.h.fl, .int .i64 q.h.pa, .int .i64 q.h.sr, .int .i64 q.h.ds, .int .i64 q.h.cn, .int .i64 q.h.sq, .int .i64 q.h.pu, .slice q.A q.n q.c]] w (RPutTo F w (m.base q.pk) (m.vd q.pk) (m.out q.pk)) := by
  have hn1 : r.n1 ≤ 1024 := by rw [← h.lo.len]; exact hl
  have hn2 : r.n2 ≤ 1024 := by rw [← h.hi.len]; exact hh
  have HN1 : Hid (r.n1 ≤ 2000) := Lib.hid (by omega)
  have HN2 : Hid (r.n2 ≤ 2000) := Lib.hid (by omega)
  have hll := h.lo.len
  have hhl := h.hi.len
  have hqn := hq.len
  have hhv : q.pk.heavy = true := by show (q.h.kd == 1 && decide (0 < q.xs.length)) = true; rw [hk, hqn]; simpa using hn
  have hkb : (q.h.kd == 1) = true := by rw [hk]; rfl
  have hnn : (0 : Int) < q.n := by omega
  have HK := Lib.hid hk
  have hrr : (m.lr : Int) ≤ r.n1 := by omega
  have hsr : (r.n2 : Int) < m.hr := by omega
  have hv : m.vd q.pk = 2 := by unfold AM.vd; rw [if_neg (by simp [hc]), hhv, if_neg (show ¬ (m.sel (!true)).length < m.room (!true) from hr), if_pos hr2]
  have HBs := Lib.hid (base2 hv)
  rw [hv]
  clear hk hn hr hr2 hhv hv
  have HI : Hid (∀ o o' o2 o3, Calls Try.prog 70 #[.agg #[.int .i64 q.h.kd, .int .i64 q.h.fl, .int .i64 q.h.pa, .int .i64 q.h.sr, .int .i64 q.h.ds, .int .i64 q.h.cn, .int .i64 q.h.sq, .int .i64 q.h.pu, .slice q.A q.n q.c]] ((((w.alloc o).alloc o').alloc o2).alloc o3) fun e w' => e = .returned (.bool true) ∧ Below ((((w.alloc o).alloc o').alloc o2).alloc o3).heap.size ((((w.alloc o).alloc o').alloc o2).alloc o3) w') := Lib.hid fun o o' o2 o3 => by
    have := r_is (hq.below (((((Below.refl w.heap.size w).alloc (Nat.le_refl _) o).alloc (by simp) o').alloc (by simp; omega) o2).alloc (by simp; omega) o3))
    rw [hc] at this; exact this
  have HR := Lib.hid h
  have HQ := Lib.hid hq
  have HF := Lib.hid hF
  clear h hq hF hc hl hh hll hhl hqn hn1 hn2
  go_enter Try.func60, Try.ntmps60
  go_wp2_with fail
  refine (HI.out _ _ _ _).mono ?_
  rintro e w1 ⟨rfl, hb1⟩
  have HS0 := Lib.hid (RS.new HR.out HQ.out hb1)
  clear hb1 HR HQ HI
  have a0_0 := HS0.out.b2.cell 0 rfl
  have a1_0 := HS0.out.b2.cell 1 rfl
  have a2_0 := HS0.out.b2.cell 2 rfl
  have a3_0 := HS0.out.b2.cell 3 rfl
  have k0_0 := HS0.out.b3.cell 0 rfl
  have k1_0 := HS0.out.b3.cell 1 rfl
  have k8_0 := HS0.out.b3.cell 8 rfl
  have h2_0 := HS0.out.b2
  have h3_0 := HS0.out.b3
  have f0_0 := HS0.out.b2.free 0
  have f1_0 := HS0.out.b2.free 1
  go_wp2_with (first
    | (with_reducible refine at_load 65 (.tmp 3) (by rfl) ?_; refine wpList_load_pk rowP rfl (.tmp 3) rfl q (w.heap.size + 1) 0 rfl (Bk.pk (q := q) h3_0) ?_))
  refine (r_trim HS0.out.pv).mono ?_
  rintro e wt1 ⟨qt1, rfl, hqt1, hrt1, hbt1⟩
  have HST1 := Lib.hid (HS0.out.below hbt1)
  have hz3t1 := HST1.out.b3
  have HQT1 := Lib.hid hqt1
  clear hqt1
  clear a0_0 a1_0 a2_0 a3_0 k0_0 k1_0 k8_0 h2_0 h3_0 f0_0 f1_0
  go_wp2_with (first
    | (with_reducible refine at_store 65 (.tmp 3) (.tmp 43) (by rfl) ?_; refine wpList_put_pk rowP rfl (.tmp 3) (.tmp 43) rfl (w.heap.size + 1) rfl hz3t1 rfl qt1 rfl ?_; rintro wu1 h3u1 hwu1
       have HSU1 := Lib.hid (HST1.out.pack hrt1 h3u1 hwu1)
       have a0_1 := HSU1.out.b2.cell 0 rfl
       have a1_1 := HSU1.out.b2.cell 1 rfl
       have a2_1 := HSU1.out.b2.cell 2 rfl
       have a3_1 := HSU1.out.b2.cell 3 rfl
       have k0_1 := HSU1.out.b3.cell 0 rfl
       have k1_1 := HSU1.out.b3.cell 1 rfl
       have k8_1 := HSU1.out.b3.cell 8 rfl
       have h2_1 := HSU1.out.b2
       have h3_1 := HSU1.out.b3
       have f0_1 := HSU1.out.b2.free 0
       have f1_1 := HSU1.out.b2.free 1
       skip)
    | (with_reducible refine at_load 65 (.tmp 3) (by rfl) ?_; refine wpList_load_pk rowP rfl (.tmp 3) rfl qt1 (w.heap.size + 1) 0 rfl (Bk.pk (q := qt1) h3_1) ?_))
  refine (r_with HSU1.out.rp.hi HSU1.out.pv (HSU1.out.bd HF.out) HN2.out).mono ?_
  rintro e ww2 ⟨Aw2, nw2, cw2, rfl, hsw2, hbw2⟩
  have HSW2 := Lib.hid (HSU1.out.below hbw2)
  have HSV2 := Lib.hid (HSW2.out.high hsw2)
  have z0w := HSW2.out.b2.cell 1 rfl
  have g0w := HSW2.out.b2.free 1
  clear a0_1 a1_1 a2_1 a3_1 k0_1 k1_1 k8_1 h2_1 h3_1 f0_1 f1_1
  go_wp2_with fail
  refine wp_region_E (St (Bt w)) (by kernel_rfl) (fun wd hbd hsz => ?_)
  have HSE := Lib.hid (HSV2.out.below hbd)
  have HE4 := Lib.hid HSE.out.b4
  have HE6 := Lib.hid HSE.out.b6
  clear hsz
  (refine takeE (St.tr (Bt w)) 0 (by simp only [List.getElem?_toArray, List.getElem?_cons_succ, List.getElem?_cons_zero]; rfl) (by kernel_rfl) (by kernel_rfl) (by kernel_rfl) (by exact fun _ _ _ h => h) (by first | (refine Or.inl ⟨by rfl, ?_⟩; intro W hW; exact exec_load_bk rowR (.tmp 2) rfl w.heap.size 0 rfl (b2_st HSE.out hW bt0) (RV.cl ⟨r.a1, r.n1, r.c1, Aw2, nw2, cw2⟩ (m.put true (m.high ++ [qt1.pk]))) rfl rfl) | exact Or.inr ⟨by rfl, rfl⟩) ?_; try simp only [Act.put, List.setIfInBounds_toArray, List.set_cons_zero, List.set_cons_succ])
  (refine takeE (St.tr (Bt w)) 1 (by simp only [List.getElem?_toArray, List.getElem?_cons_succ, List.getElem?_cons_zero]; rfl) (by kernel_rfl) (by kernel_rfl) (by kernel_rfl) (by exact fun _ _ _ h => h) (by first | (refine Or.inl ⟨by rfl, ?_⟩; intro W hW; go_simp; try with_reducible rfl) | exact Or.inr ⟨by rfl, rfl⟩) ?_; try simp only [Act.put, List.setIfInBounds_toArray, List.set_cons_zero, List.set_cons_succ])
  (refine takeE (St.tr (Bt w)) 2 (by simp only [List.getElem?_toArray, List.getElem?_cons_succ, List.getElem?_cons_zero]; rfl) (by kernel_rfl) (by kernel_rfl) (by kernel_rfl) (by exact fun _ _ _ h => h) (by first | (refine Or.inl ⟨by rfl, ?_⟩; intro W hW; exact exec_load_bk rowP (.tmp 3) rfl (w.heap.size + 1) 0 rfl (b3_st HSE.out hW bt1) qt1.cl rfl rfl) | exact Or.inr ⟨by rfl, rfl⟩) ?_; try simp only [Act.put, List.setIfInBounds_toArray, List.set_cons_zero, List.set_cons_succ])
  refine wpAnyE_one (i := 3) (by kernel_rfl) (by simp only [List.getElem?_toArray, List.getElem?_cons_succ, List.getElem?_cons_zero]; rfl) (fun K hK => ?_)
  refine opwp_store_bk rowR rfl (.tmp 4) (.tmp 56) rfl (w.heap.size + 2) 0 rfl HE4.out (RV.cl ⟨r.a1, r.n1, r.c1, Aw2, nw2, cw2⟩ (m.put true (m.high ++ [qt1.pk]))) rfl rfl (by decide) (RV.cl_one _ _) ?_
  intro w5 h45 hw5
  rw [lay_all _ _ (by rfl)] at h45
  have HW5 := Lib.hid hw5
  have H45 := Lib.hid h45
  have H65 := Lib.hid (HE6.out.wr hw5 (by omega))
  have HZ5 := Lib.hid (show St (Bt w) wd w5 from wr_bt (by omega) hw5)
  refine hK.out _ _ HZ5.out ?_
  clear hK K
  try simp only [Act.put, List.setIfInBounds_toArray, List.set_cons_zero, List.set_cons_succ]
  (refine takeE (St.tr (Bt w)) 4 (by simp only [List.getElem?_toArray, List.getElem?_cons_succ, List.getElem?_cons_zero]; rfl) (by kernel_rfl) (by kernel_rfl) (by kernel_rfl) (by exact fun _ _ _ h => h) (by first | (refine Or.inl ⟨by rfl, ?_⟩; intro W hW; go_simp; try with_reducible rfl) | exact Or.inr ⟨by rfl, rfl⟩) ?_; try simp only [Act.put, List.setIfInBounds_toArray, List.set_cons_zero, List.set_cons_succ])
  refine wpAnyE_one (i := 5) (by kernel_rfl) (by simp only [List.getElem?_toArray, List.getElem?_cons_succ, List.getElem?_cons_zero]; rfl) (fun K hK => ?_)
  refine opwp_store_bk rowP rfl (.tmp 6) (.tmp 58) rfl (w.heap.size + 3) 0 rfl H65.out qt1.cl rfl rfl (by decide) (Pv.cl_one _) ?_
  intro w6 h66 hw6
  rw [lay_all _ _ (by rfl)] at h66
  have HW6 := Lib.hid hw6
  have H66 := Lib.hid h66
  have H46 := Lib.hid (H45.out.wr hw6 (by omega))
  refine hK.out _ _ (wr_bt (by omega) hw6) ?_
  clear hK K
  try simp only [Act.put, List.setIfInBounds_toArray, List.set_cons_zero, List.set_cons_succ]
  refine wpAnyE_done (by kernel_rfl) ?_ _
  go_wp2
  exact bodyPost_ret (results_ctc rfl rfl rfl (rowR.load H46.out 0 (cs := (RV.cl ⟨r.a1, r.n1, r.c1, Aw2, nw2, cw2⟩ (m.put true (m.high ++ [qt1.pk])))) rfl rfl) (load_pk rowP H66.out)) rfl (RPutTo.of HSE.out HSE.out.pv HW5.out HW6.out (by kernel_rfl) (HBs.out.1.trans (by rw [HQT1.out])) (HQT1.out.trans HBs.out.2.symm))
set_option maxHeartbeats 4000000 in
set_option maxRecDepth 100000 in
theorem r_putD (h : RpR F w r m) (hq : PvR F w q) (hF : ∀ k, F k → k < w.heap.size) (hl : m.low.length ≤ 1024) (hh : m.high.length ≤ 1024) (hc : q.pk.chk = true) (hk : q.h.kd = 1) (hn : 0 < q.n) (hr : ¬ m.low.length < m.lr) (hr2 : ¬ m.high.length < m.hr) (h16 : hasB q.h.fl 16 = true) :
    Calls Try.prog 60 #[.agg #[.slice r.a1 r.n1 r.c1, .slice r.a2 r.n2 r.c2, .int .i64 m.lr, .int .i64 m.hr, .int .i64 m.wt, .int .i64 m.run, .int .i64 (m.ct 0), .int .i64 (m.ct 1), .int .i64 (m.ct 2), .int .i64 (m.ct 3), .int .i64 (m.ct 4)], .agg #[.int .i64 q.h.kd, .int .i64 q.h.fl, .int .i64 q.h.pa, .int .i64 q.h.sr, .int .i64 q.h.ds, .int .i64 q.h.cn, .int .i64 q.h.sq, .int .i64 q.h.pu, .slice q.A q.n q.c]] w (RPutTo F w (m.base q.pk) (m.vd q.pk) (m.out q.pk)) := by
  have hn1 : r.n1 ≤ 1024 := by rw [← h.lo.len]; exact hl
  have hn2 : r.n2 ≤ 1024 := by rw [← h.hi.len]; exact hh
  have HN1 : Hid (r.n1 ≤ 2000) := Lib.hid (by omega)
  have HN2 : Hid (r.n2 ≤ 2000) := Lib.hid (by omega)
  have hll := h.lo.len
  have hhl := h.hi.len
  have hqn := hq.len
  have hhv : q.pk.heavy = true := by show (q.h.kd == 1 && decide (0 < q.xs.length)) = true; rw [hk, hqn]; simpa using hn
  have hkb : (q.h.kd == 1) = true := by rw [hk]; rfl
  have hnn : (0 : Int) < q.n := by omega
  have HK := Lib.hid hk
  have hrr : (m.lr : Int) ≤ r.n1 := by omega
  have hsr : (m.hr : Int) ≤ r.n2 := by omega
  have htb := Pk.trim_of_heavy hc hhv
  have h8 : hasB q.h.fl 8 = false := by have := htb; unfold Pk.trimB at this; simp only [Bool.and_eq_true] at this; simpa [Pv.pk] using this.2
  have HTE : Hid (q.pk.trim = ⟨{ q.h with fl := q.h.fl + 8 }, []⟩) := Lib.hid (by unfold Pk.trim; rw [if_pos htb]; rfl)
  have HFF := Lib.hid (hasB_16_8 (Pk.fl_of hc hk).1 h8)
  have hret : q.pk.retB = false := by rw [Pk.retB_eq hc]; show (q.h.kd == 1 && !hasB q.h.fl 16) = false; rw [h16]; simp
  have hv : m.vd q.pk = 4 := by unfold AM.vd; rw [if_neg (by simp [hc]), hhv, if_neg (show ¬ (m.sel (!true)).length < m.room (!true) from hr), if_neg hr2, hret]; rfl
  have HBs := Lib.hid (base4 hv)
  have H16 := Lib.hid h16
  rw [hv]
  clear hk hn hr hr2 hhv hv htb h8 h16 hret
  have HI : Hid (∀ o o' o2 o3, Calls Try.prog 70 #[.agg #[.int .i64 q.h.kd, .int .i64 q.h.fl, .int .i64 q.h.pa, .int .i64 q.h.sr, .int .i64 q.h.ds, .int .i64 q.h.cn, .int .i64 q.h.sq, .int .i64 q.h.pu, .slice q.A q.n q.c]] ((((w.alloc o).alloc o').alloc o2).alloc o3) fun e w' => e = .returned (.bool true) ∧ Below ((((w.alloc o).alloc o').alloc o2).alloc o3).heap.size ((((w.alloc o).alloc o').alloc o2).alloc o3) w') := Lib.hid fun o o' o2 o3 => by
    have := r_is (hq.below (((((Below.refl w.heap.size w).alloc (Nat.le_refl _) o).alloc (by simp) o').alloc (by simp; omega) o2).alloc (by simp; omega) o3))
    rw [hc] at this; exact this
  have HR := Lib.hid h
  have HQ := Lib.hid hq
  have HF := Lib.hid hF
  clear h hq hF hc hl hh hll hhl hqn hn1 hn2
  go_enter Try.func60, Try.ntmps60
  go_wp2_with fail
  refine (HI.out _ _ _ _).mono ?_
  rintro e w1 ⟨rfl, hb1⟩
  have HS0 := Lib.hid (RS.new HR.out HQ.out hb1)
  clear hb1 HR HQ HI
  have a0_0 := HS0.out.b2.cell 0 rfl
  have a1_0 := HS0.out.b2.cell 1 rfl
  have a2_0 := HS0.out.b2.cell 2 rfl
  have a3_0 := HS0.out.b2.cell 3 rfl
  have k0_0 := HS0.out.b3.cell 0 rfl
  have k1_0 := HS0.out.b3.cell 1 rfl
  have k8_0 := HS0.out.b3.cell 8 rfl
  have h2_0 := HS0.out.b2
  have h3_0 := HS0.out.b3
  have f0_0 := HS0.out.b2.free 0
  have f1_0 := HS0.out.b2.free 1
  go_wp2_with (first
    | (with_reducible refine at_load 65 (.tmp 3) (by rfl) ?_; refine wpList_load_pk rowP rfl (.tmp 3) rfl q (w.heap.size + 1) 0 rfl (Bk.pk (q := q) h3_0) ?_))
  refine (r_trim HS0.out.pv).mono ?_
  rintro e wt1 ⟨qt1, rfl, hqt1, hrt1, hbt1⟩
  have HST1 := Lib.hid (HS0.out.below hbt1)
  have hz3t1 := HST1.out.b3
  have HQT1 := Lib.hid hqt1
  clear hqt1
  clear a0_0 a1_0 a2_0 a3_0 k0_0 k1_0 k8_0 h2_0 h3_0 f0_0 f1_0
  go_wp2_with (first
    | (with_reducible refine at_store 65 (.tmp 3) (.tmp 43) (by rfl) ?_; refine wpList_put_pk rowP rfl (.tmp 3) (.tmp 43) rfl (w.heap.size + 1) rfl hz3t1 rfl qt1 rfl ?_; rintro wu1 h3u1 hwu1
       have HSU1 := Lib.hid (HST1.out.pack hrt1 h3u1 hwu1)
       have a0_1 := HSU1.out.b2.cell 0 rfl
       have a1_1 := HSU1.out.b2.cell 1 rfl
       have a2_1 := HSU1.out.b2.cell 2 rfl
       have a3_1 := HSU1.out.b2.cell 3 rfl
       have k0_1 := HSU1.out.b3.cell 0 rfl
       have k1_1 := HSU1.out.b3.cell 1 rfl
       have k8_1 := HSU1.out.b3.cell 8 rfl
       have h2_1 := HSU1.out.b2
       have h3_1 := HSU1.out.b3
       have f0_1 := HSU1.out.b2.free 0
       have f1_1 := HSU1.out.b2.free 1
       have e1 : qt1.h = { q.h with fl := q.h.fl + 8 } := congrArg Pk.h (HQT1.out.trans HTE.out)
       have hkn1 : (qt1.h.kd != 1) = false := by rw [e1]; simp [HK.out]
       have HFL : Hid (qt1.h.fl ≤ 9223372036854775807) := Lib.hid HSU1.out.pv.fl
       have hb16 : hasB qt1.h.fl 16 = true := by rw [e1]; exact HFF.out.1.trans H16.out
       have hb8 : hasB qt1.h.fl 8 = true := by rw [e1]; exact HFF.out.2.1
       clear e1)
    | (with_reducible refine at_load 65 (.tmp 3) (by rfl) ?_; refine wpList_load_pk rowP rfl (.tmp 3) rfl qt1 (w.heap.size + 1) 0 rfl (Bk.pk (q := qt1) h3_1) ?_)
    | (go_at_call 72; refine (rhas_any _ _ _ (by decide) (by decide) HFL.out).mono ?_; rintro e w' ⟨rfl, rfl⟩; simp only [hb16, hb8])
    | (with_reducible refine at_load 76 (.tmp 2) (by rfl) ?_; refine wpList_load_rp rowR rfl (.tmp 2) rfl r m w.heap.size rfl h2_1 ?_)
    | (with_reducible refine at_store 76 (.tmp 4) (.tmp 67) (by rfl) ?_; refine wpList_put_rp rowR rfl (.tmp 4) (.tmp 67) rfl (w.heap.size + 2) rfl HSU1.out.b4 rfl r m rfl ?_; rintro w5 h45 hw5; have h65 := HSU1.out.b6.wr hw5 (by omega))
    | (with_reducible refine at_store 65 (.tmp 6) (.tmp 68) (by rfl) ?_; refine wpList_put_pk rowP rfl (.tmp 6) (.tmp 68) rfl (w.heap.size + 3) rfl h65 rfl zPv rfl ?_; rintro w6 h66 hw6; have h46 := h45.wr hw6 (by omega)))
  exact bodyPost_ret (results_ctc rfl rfl rfl (rowR.load h46 0 (cs := r.cl m) rfl rfl) (load_pk rowP h66)) rfl (RPutTo.of HSU1.out (PvR.zero _ _) hw5 hw6 (by kernel_rfl) HBs.out.1 HBs.out.2.symm)
set_option maxHeartbeats 4000000 in
set_option maxRecDepth 100000 in
theorem r_putE (h : RpR F w r m) (hq : PvR F w q) (hF : ∀ k, F k → k < w.heap.size) (hl : m.low.length ≤ 1024) (hh : m.high.length ≤ 1024) (hc : q.pk.chk = true) (hk : q.h.kd = 1) (hn : 0 < q.n) (hr : ¬ m.low.length < m.lr) (hr2 : ¬ m.high.length < m.hr) (h16 : hasB q.h.fl 16 = false) :
    Calls Try.prog 60 #[.agg #[.slice r.a1 r.n1 r.c1, .slice r.a2 r.n2 r.c2, .int .i64 m.lr, .int .i64 m.hr, .int .i64 m.wt, .int .i64 m.run, .int .i64 (m.ct 0), .int .i64 (m.ct 1), .int .i64 (m.ct 2), .int .i64 (m.ct 3), .int .i64 (m.ct 4)], .agg #[.int .i64 q.h.kd, .int .i64 q.h.fl, .int .i64 q.h.pa, .int .i64 q.h.sr, .int .i64 q.h.ds, .int .i64 q.h.cn, .int .i64 q.h.sq, .int .i64 q.h.pu, .slice q.A q.n q.c]] w (RPutTo F w (m.base q.pk) (m.vd q.pk) (m.out q.pk)) := by
  have hn1 : r.n1 ≤ 1024 := by rw [← h.lo.len]; exact hl
  have hn2 : r.n2 ≤ 1024 := by rw [← h.hi.len]; exact hh
  have HN1 : Hid (r.n1 ≤ 2000) := Lib.hid (by omega)
  have HN2 : Hid (r.n2 ≤ 2000) := Lib.hid (by omega)
  have hll := h.lo.len
  have hhl := h.hi.len
  have hqn := hq.len
  have hhv : q.pk.heavy = true := by show (q.h.kd == 1 && decide (0 < q.xs.length)) = true; rw [hk, hqn]; simpa using hn
  have hkb : (q.h.kd == 1) = true := by rw [hk]; rfl
  have hnn : (0 : Int) < q.n := by omega
  have HK := Lib.hid hk
  have hrr : (m.lr : Int) ≤ r.n1 := by omega
  have hsr : (m.hr : Int) ≤ r.n2 := by omega
  have htb := Pk.trim_of_heavy hc hhv
  have h8 : hasB q.h.fl 8 = false := by have := htb; unfold Pk.trimB at this; simp only [Bool.and_eq_true] at this; simpa [Pv.pk] using this.2
  have HTE : Hid (q.pk.trim = ⟨{ q.h with fl := q.h.fl + 8 }, []⟩) := Lib.hid (by unfold Pk.trim; rw [if_pos htb]; rfl)
  have HFF := Lib.hid (hasB_16_8 (Pk.fl_of hc hk).1 h8)
  have hret : q.pk.retB = true := by rw [Pk.retB_eq hc]; show (q.h.kd == 1 && !hasB q.h.fl 16) = true; rw [h16, hk]; rfl
  have hv : m.vd q.pk = 3 := by unfold AM.vd; rw [if_neg (by simp [hc]), hhv, if_neg (show ¬ (m.sel (!true)).length < m.room (!true) from hr), if_neg hr2, hret]; rfl
  have HBs := Lib.hid (base3 hv)
  have H16 := Lib.hid h16
  rw [hv]
  clear hk hn hr hr2 hhv hv htb h8 h16 hret
  have HI : Hid (∀ o o' o2 o3, Calls Try.prog 70 #[.agg #[.int .i64 q.h.kd, .int .i64 q.h.fl, .int .i64 q.h.pa, .int .i64 q.h.sr, .int .i64 q.h.ds, .int .i64 q.h.cn, .int .i64 q.h.sq, .int .i64 q.h.pu, .slice q.A q.n q.c]] ((((w.alloc o).alloc o').alloc o2).alloc o3) fun e w' => e = .returned (.bool true) ∧ Below ((((w.alloc o).alloc o').alloc o2).alloc o3).heap.size ((((w.alloc o).alloc o').alloc o2).alloc o3) w') := Lib.hid fun o o' o2 o3 => by
    have := r_is (hq.below (((((Below.refl w.heap.size w).alloc (Nat.le_refl _) o).alloc (by simp) o').alloc (by simp; omega) o2).alloc (by simp; omega) o3))
    rw [hc] at this; exact this
  have HR := Lib.hid h
  have HQ := Lib.hid hq
  have HF := Lib.hid hF
  clear h hq hF hc hl hh hll hhl hqn hn1 hn2
  go_enter Try.func60, Try.ntmps60
  go_wp2_with fail
  refine (HI.out _ _ _ _).mono ?_
  rintro e w1 ⟨rfl, hb1⟩
  have HS0 := Lib.hid (RS.new HR.out HQ.out hb1)
  clear hb1 HR HQ HI
  have a0_0 := HS0.out.b2.cell 0 rfl
  have a1_0 := HS0.out.b2.cell 1 rfl
  have a2_0 := HS0.out.b2.cell 2 rfl
  have a3_0 := HS0.out.b2.cell 3 rfl
  have k0_0 := HS0.out.b3.cell 0 rfl
  have k1_0 := HS0.out.b3.cell 1 rfl
  have k8_0 := HS0.out.b3.cell 8 rfl
  have h2_0 := HS0.out.b2
  have h3_0 := HS0.out.b3
  have f0_0 := HS0.out.b2.free 0
  have f1_0 := HS0.out.b2.free 1
  go_wp2_with (first
    | (with_reducible refine at_load 65 (.tmp 3) (by rfl) ?_; refine wpList_load_pk rowP rfl (.tmp 3) rfl q (w.heap.size + 1) 0 rfl (Bk.pk (q := q) h3_0) ?_))
  refine (r_trim HS0.out.pv).mono ?_
  rintro e wt1 ⟨qt1, rfl, hqt1, hrt1, hbt1⟩
  have HST1 := Lib.hid (HS0.out.below hbt1)
  have hz3t1 := HST1.out.b3
  have HQT1 := Lib.hid hqt1
  clear hqt1
  clear a0_0 a1_0 a2_0 a3_0 k0_0 k1_0 k8_0 h2_0 h3_0 f0_0 f1_0
  go_wp2_with (first
    | (with_reducible refine at_store 65 (.tmp 3) (.tmp 43) (by rfl) ?_; refine wpList_put_pk rowP rfl (.tmp 3) (.tmp 43) rfl (w.heap.size + 1) rfl hz3t1 rfl qt1 rfl ?_; rintro wu1 h3u1 hwu1
       have HSU1 := Lib.hid (HST1.out.pack hrt1 h3u1 hwu1)
       have a0_1 := HSU1.out.b2.cell 0 rfl
       have a1_1 := HSU1.out.b2.cell 1 rfl
       have a2_1 := HSU1.out.b2.cell 2 rfl
       have a3_1 := HSU1.out.b2.cell 3 rfl
       have k0_1 := HSU1.out.b3.cell 0 rfl
       have k1_1 := HSU1.out.b3.cell 1 rfl
       have k8_1 := HSU1.out.b3.cell 8 rfl
       have h2_1 := HSU1.out.b2
       have h3_1 := HSU1.out.b3
       have f0_1 := HSU1.out.b2.free 0
       have f1_1 := HSU1.out.b2.free 1
       have e1 : qt1.h = { q.h with fl := q.h.fl + 8 } := congrArg Pk.h (HQT1.out.trans HTE.out)
       have hkn1 : (qt1.h.kd != 1) = false := by rw [e1]; simp [HK.out]
       have HFL : Hid (qt1.h.fl ≤ 9223372036854775807) := Lib.hid HSU1.out.pv.fl
       have hb16 : hasB qt1.h.fl 16 = false := by rw [e1]; exact HFF.out.1.trans H16.out
       have hb8 : hasB qt1.h.fl 8 = true := by rw [e1]; exact HFF.out.2.1
       clear e1)
    | (with_reducible refine at_load 65 (.tmp 3) (by rfl) ?_; refine wpList_load_pk rowP rfl (.tmp 3) rfl qt1 (w.heap.size + 1) 0 rfl (Bk.pk (q := qt1) h3_1) ?_)
    | (go_at_call 72; refine (rhas_any _ _ _ (by decide) (by decide) HFL.out).mono ?_; rintro e w' ⟨rfl, rfl⟩; simp only [hb16, hb8]))
  refine (r_bounce HSU1.out.pv).mono ?_
  rintro e wt2 ⟨qt2, rfl, hqt2, hrt2, hbt2⟩
  have HST2 := Lib.hid (HSU1.out.below hbt2)
  have hz3t2 := HST2.out.b3
  have HQT2 := Lib.hid hqt2
  clear hqt2
  clear a0_1 a1_1 a2_1 a3_1 k0_1 k1_1 k8_1 h2_1 h3_1 f0_1 f1_1
  go_wp2_with (first
    | (with_reducible refine at_store 65 (.tmp 3) (.tmp 81) (by rfl) ?_; refine wpList_put_pk rowP rfl (.tmp 3) (.tmp 81) rfl (w.heap.size + 1) rfl hz3t2 rfl qt2 rfl ?_; rintro wu2 h3u2 hwu2
       have HSU2 := Lib.hid (HST2.out.pack hrt2 h3u2 hwu2)
       have a0_2 := HSU2.out.b2.cell 0 rfl
       have a1_2 := HSU2.out.b2.cell 1 rfl
       have a2_2 := HSU2.out.b2.cell 2 rfl
       have a3_2 := HSU2.out.b2.cell 3 rfl
       have k0_2 := HSU2.out.b3.cell 0 rfl
       have k1_2 := HSU2.out.b3.cell 1 rfl
       have k8_2 := HSU2.out.b3.cell 8 rfl
       have h2_2 := HSU2.out.b2
       have h3_2 := HSU2.out.b3
       have f0_2 := HSU2.out.b2.free 0
       have f1_2 := HSU2.out.b2.free 1
       skip)
    | (with_reducible refine at_load 65 (.tmp 3) (by rfl) ?_; refine wpList_load_pk rowP rfl (.tmp 3) rfl qt2 (w.heap.size + 1) 0 rfl (Bk.pk (q := qt2) h3_2) ?_))
  refine wp_region_E (St (Bt w)) (by kernel_rfl) (fun wd hbd hsz => ?_)
  have HSE := Lib.hid (HSU2.out.below hbd)
  have HE4 := Lib.hid HSE.out.b4
  have HE6 := Lib.hid HSE.out.b6
  clear hsz
  (refine takeE (St.tr (Bt w)) 0 (by simp only [List.getElem?_toArray, List.getElem?_cons_succ, List.getElem?_cons_zero]; rfl) (by kernel_rfl) (by kernel_rfl) (by kernel_rfl) (by exact fun _ _ _ h => h) (by first | (refine Or.inl ⟨by rfl, ?_⟩; intro W hW; exact exec_load_bk rowR (.tmp 2) rfl w.heap.size 0 rfl (b2_st HSE.out hW bt0) (RV.cl r m) rfl rfl) | exact Or.inr ⟨by rfl, rfl⟩) ?_; try simp only [Act.put, List.setIfInBounds_toArray, List.set_cons_zero, List.set_cons_succ])
  (refine takeE (St.tr (Bt w)) 1 (by simp only [List.getElem?_toArray, List.getElem?_cons_succ, List.getElem?_cons_zero]; rfl) (by kernel_rfl) (by kernel_rfl) (by kernel_rfl) (by exact fun _ _ _ h => h) (by first | (refine Or.inl ⟨by rfl, ?_⟩; intro W hW; exact exec_load_bk rowP (.tmp 3) rfl (w.heap.size + 1) 0 rfl (b3_st HSE.out hW bt1) qt2.cl rfl rfl) | exact Or.inr ⟨by rfl, rfl⟩) ?_; try simp only [Act.put, List.setIfInBounds_toArray, List.set_cons_zero, List.set_cons_succ])
  refine wpAnyE_one (i := 2) (by kernel_rfl) (by simp only [List.getElem?_toArray, List.getElem?_cons_succ, List.getElem?_cons_zero]; rfl) (fun K hK => ?_)
  refine opwp_store_bk rowR rfl (.tmp 4) (.tmp 83) rfl (w.heap.size + 2) 0 rfl HE4.out (RV.cl r m) rfl rfl (by decide) (RV.cl_one _ _) ?_
  intro w5 h45 hw5
  rw [lay_all _ _ (by rfl)] at h45
  have HW5 := Lib.hid hw5
  have H45 := Lib.hid h45
  have H65 := Lib.hid (HE6.out.wr hw5 (by omega))
  have HZ5 := Lib.hid (show St (Bt w) wd w5 from wr_bt (by omega) hw5)
  refine hK.out _ _ HZ5.out ?_
  clear hK K
  try simp only [Act.put, List.setIfInBounds_toArray, List.set_cons_zero, List.set_cons_succ]
  (refine takeE (St.tr (Bt w)) 3 (by simp only [List.getElem?_toArray, List.getElem?_cons_succ, List.getElem?_cons_zero]; rfl) (by kernel_rfl) (by kernel_rfl) (by kernel_rfl) (by exact fun _ _ _ h => h) (by first | (refine Or.inl ⟨by rfl, ?_⟩; intro W hW; go_simp; try with_reducible rfl) | exact Or.inr ⟨by rfl, rfl⟩) ?_; try simp only [Act.put, List.setIfInBounds_toArray, List.set_cons_zero, List.set_cons_succ])
  refine wpAnyE_one (i := 4) (by kernel_rfl) (by simp only [List.getElem?_toArray, List.getElem?_cons_succ, List.getElem?_cons_zero]; rfl) (fun K hK => ?_)
  refine opwp_store_bk rowP rfl (.tmp 6) (.tmp 84) rfl (w.heap.size + 3) 0 rfl H65.out qt2.cl rfl rfl (by decide) (Pv.cl_one _) ?_
  intro w6 h66 hw6
  rw [lay_all _ _ (by rfl)] at h66
  have HW6 := Lib.hid hw6
  have H66 := Lib.hid h66
  have H46 := Lib.hid (H45.out.wr hw6 (by omega))
  refine hK.out _ _ (wr_bt (by omega) hw6) ?_
  clear hK K
  try simp only [Act.put, List.setIfInBounds_toArray, List.set_cons_zero, List.set_cons_succ]
  refine wpAnyE_done (by kernel_rfl) ?_ _
  go_wp2
  exact bodyPost_ret (results_ctc rfl rfl rfl (rowR.load H46.out 0 (cs := (RV.cl r m)) rfl rfl) (load_pk rowP H66.out)) rfl (RPutTo.of HSE.out HSE.out.pv HW5.out HW6.out (by kernel_rfl) HBs.out.1 (HQT2.out.trans (by rw [HQT1.out]; exact HBs.out.2.symm)))
set_option maxHeartbeats 4000000 in
set_option maxRecDepth 100000 in
theorem r_putF (h : RpR F w r m) (hq : PvR F w q) (hF : ∀ k, F k → k < w.heap.size) (hl : m.low.length ≤ 1024) (hh : m.high.length ≤ 1024) (hc : q.pk.chk = true) (hk : ¬ q.h.kd = 1) (hr2 : m.high.length < m.hr) :
    Calls Try.prog 60 #[.agg #[.slice r.a1 r.n1 r.c1, .slice r.a2 r.n2 r.c2, .int .i64 m.lr, .int .i64 m.hr, .int .i64 m.wt, .int .i64 m.run, .int .i64 (m.ct 0), .int .i64 (m.ct 1), .int .i64 (m.ct 2), .int .i64 (m.ct 3), .int .i64 (m.ct 4)], .agg #[.int .i64 q.h.kd, .int .i64 q.h.fl, .int .i64 q.h.pa, .int .i64 q.h.sr, .int .i64 q.h.ds, .int .i64 q.h.cn, .int .i64 q.h.sq, .int .i64 q.h.pu, .slice q.A q.n q.c]] w (RPutTo F w (m.base q.pk) (m.vd q.pk) (m.out q.pk)) := by
  have hn1 : r.n1 ≤ 1024 := by rw [← h.lo.len]; exact hl
  have hn2 : r.n2 ≤ 1024 := by rw [← h.hi.len]; exact hh
  have HN1 : Hid (r.n1 ≤ 2000) := Lib.hid (by omega)
  have HN2 : Hid (r.n2 ≤ 2000) := Lib.hid (by omega)
  have hll := h.lo.len
  have hhl := h.hi.len
  have hqn := hq.len
  have hhv : q.pk.heavy = false := by show (q.h.kd == 1 && decide (0 < q.xs.length)) = false; rw [hqn]; simp [hk]
  have hkb : (q.h.kd == 1) = false := by simp [hk]
  have hkn : (q.h.kd != 1) = true := by simp [hk]
  have hsr : (r.n2 : Int) < m.hr := by omega
  have hv : m.vd q.pk = 1 := by unfold AM.vd; rw [if_neg (by simp [hc]), hhv]; exact if_pos hr2
  have HBs : Hid (m.base q.pk = m.put true (m.high ++ [q.pk]) ∧ m.out q.pk = q.pk) := Lib.hid (by have := base1 hv; rw [hhv] at this; exact this)
  rw [hv]
  clear hk hr2 hhv hv
  have HI : Hid (∀ o o' o2 o3, Calls Try.prog 70 #[.agg #[.int .i64 q.h.kd, .int .i64 q.h.fl, .int .i64 q.h.pa, .int .i64 q.h.sr, .int .i64 q.h.ds, .int .i64 q.h.cn, .int .i64 q.h.sq, .int .i64 q.h.pu, .slice q.A q.n q.c]] ((((w.alloc o).alloc o').alloc o2).alloc o3) fun e w' => e = .returned (.bool true) ∧ Below ((((w.alloc o).alloc o').alloc o2).alloc o3).heap.size ((((w.alloc o).alloc o').alloc o2).alloc o3) w') := Lib.hid fun o o' o2 o3 => by
    have := r_is (hq.below (((((Below.refl w.heap.size w).alloc (Nat.le_refl _) o).alloc (by simp) o').alloc (by simp; omega) o2).alloc (by simp; omega) o3))
    rw [hc] at this; exact this
  have HR := Lib.hid h
  have HQ := Lib.hid hq
  have HF := Lib.hid hF
  clear h hq hF hc hl hh hll hhl hqn hn1 hn2
  go_enter Try.func60, Try.ntmps60
  go_wp2_with fail
  refine (HI.out _ _ _ _).mono ?_
  rintro e w1 ⟨rfl, hb1⟩
  have HS0 := Lib.hid (RS.new HR.out HQ.out hb1)
  clear hb1 HR HQ HI
  have a0_0 := HS0.out.b2.cell 0 rfl
  have a1_0 := HS0.out.b2.cell 1 rfl
  have a2_0 := HS0.out.b2.cell 2 rfl
  have a3_0 := HS0.out.b2.cell 3 rfl
  have k0_0 := HS0.out.b3.cell 0 rfl
  have k1_0 := HS0.out.b3.cell 1 rfl
  have k8_0 := HS0.out.b3.cell 8 rfl
  have h2_0 := HS0.out.b2
  have h3_0 := HS0.out.b3
  have f0_0 := HS0.out.b2.free 0
  have f1_0 := HS0.out.b2.free 1
  go_wp2_with (first
    | (with_reducible refine at_load 65 (.tmp 3) (by rfl) ?_; refine wpList_load_pk rowP rfl (.tmp 3) rfl q (w.heap.size + 1) 0 rfl (Bk.pk (q := q) h3_0) ?_))
  refine (r_with HS0.out.rp.hi HS0.out.pv (HS0.out.bd HF.out) HN2.out).mono ?_
  rintro e ww1 ⟨Aw1, nw1, cw1, rfl, hsw1, hbw1⟩
  have HSW1 := Lib.hid (HS0.out.below hbw1)
  have HSV1 := Lib.hid (HSW1.out.high hsw1)
  have z0w := HSW1.out.b2.cell 1 rfl
  have g0w := HSW1.out.b2.free 1
  clear a0_0 a1_0 a2_0 a3_0 k0_0 k1_0 k8_0 h2_0 h3_0 f0_0 f1_0
  go_wp2_with fail
  refine wp_region_E (St (Bt w)) (by kernel_rfl) (fun wd hbd hsz => ?_)
  have HSE := Lib.hid (HSV1.out.below hbd)
  have HE4 := Lib.hid HSE.out.b4
  have HE6 := Lib.hid HSE.out.b6
  clear hsz
  (refine takeE (St.tr (Bt w)) 0 (by simp only [List.getElem?_toArray, List.getElem?_cons_succ, List.getElem?_cons_zero]; rfl) (by kernel_rfl) (by kernel_rfl) (by kernel_rfl) (by exact fun _ _ _ h => h) (by first | (refine Or.inl ⟨by rfl, ?_⟩; intro W hW; exact exec_load_bk rowR (.tmp 2) rfl w.heap.size 0 rfl (b2_st HSE.out hW bt0) (RV.cl ⟨r.a1, r.n1, r.c1, Aw1, nw1, cw1⟩ (m.put true (m.high ++ [q.pk]))) rfl rfl) | exact Or.inr ⟨by rfl, rfl⟩) ?_; try simp only [Act.put, List.setIfInBounds_toArray, List.set_cons_zero, List.set_cons_succ])
  (refine takeE (St.tr (Bt w)) 1 (by simp only [List.getElem?_toArray, List.getElem?_cons_succ, List.getElem?_cons_zero]; rfl) (by kernel_rfl) (by kernel_rfl) (by kernel_rfl) (by exact fun _ _ _ h => h) (by first | (refine Or.inl ⟨by rfl, ?_⟩; intro W hW; go_simp; try with_reducible rfl) | exact Or.inr ⟨by rfl, rfl⟩) ?_; try simp only [Act.put, List.setIfInBounds_toArray, List.set_cons_zero, List.set_cons_succ])
  (refine takeE (St.tr (Bt w)) 2 (by simp only [List.getElem?_toArray, List.getElem?_cons_succ, List.getElem?_cons_zero]; rfl) (by kernel_rfl) (by kernel_rfl) (by kernel_rfl) (by exact fun _ _ _ h => h) (by first | (refine Or.inl ⟨by rfl, ?_⟩; intro W hW; exact exec_load_bk rowP (.tmp 3) rfl (w.heap.size + 1) 0 rfl (b3_st HSE.out hW bt1) q.cl rfl rfl) | exact Or.inr ⟨by rfl, rfl⟩) ?_; try simp only [Act.put, List.setIfInBounds_toArray, List.set_cons_zero, List.set_cons_succ])
  refine wpAnyE_one (i := 3) (by kernel_rfl) (by simp only [List.getElem?_toArray, List.getElem?_cons_succ, List.getElem?_cons_zero]; rfl) (fun K hK => ?_)
  refine opwp_store_bk rowR rfl (.tmp 4) (.tmp 56) rfl (w.heap.size + 2) 0 rfl HE4.out (RV.cl ⟨r.a1, r.n1, r.c1, Aw1, nw1, cw1⟩ (m.put true (m.high ++ [q.pk]))) rfl rfl (by decide) (RV.cl_one _ _) ?_
  intro w5 h45 hw5
  rw [lay_all _ _ (by rfl)] at h45
  have HW5 := Lib.hid hw5
  have H45 := Lib.hid h45
  have H65 := Lib.hid (HE6.out.wr hw5 (by omega))
  have HZ5 := Lib.hid (show St (Bt w) wd w5 from wr_bt (by omega) hw5)
  refine hK.out _ _ HZ5.out ?_
  clear hK K
  try simp only [Act.put, List.setIfInBounds_toArray, List.set_cons_zero, List.set_cons_succ]
  (refine takeE (St.tr (Bt w)) 4 (by simp only [List.getElem?_toArray, List.getElem?_cons_succ, List.getElem?_cons_zero]; rfl) (by kernel_rfl) (by kernel_rfl) (by kernel_rfl) (by exact fun _ _ _ h => h) (by first | (refine Or.inl ⟨by rfl, ?_⟩; intro W hW; go_simp; try with_reducible rfl) | exact Or.inr ⟨by rfl, rfl⟩) ?_; try simp only [Act.put, List.setIfInBounds_toArray, List.set_cons_zero, List.set_cons_succ])
  refine wpAnyE_one (i := 5) (by kernel_rfl) (by simp only [List.getElem?_toArray, List.getElem?_cons_succ, List.getElem?_cons_zero]; rfl) (fun K hK => ?_)
  refine opwp_store_bk rowP rfl (.tmp 6) (.tmp 58) rfl (w.heap.size + 3) 0 rfl H65.out q.cl rfl rfl (by decide) (Pv.cl_one _) ?_
  intro w6 h66 hw6
  rw [lay_all _ _ (by rfl)] at h66
  have HW6 := Lib.hid hw6
  have H66 := Lib.hid h66
  have H46 := Lib.hid (H45.out.wr hw6 (by omega))
  refine hK.out _ _ (wr_bt (by omega) hw6) ?_
  clear hK K
  try simp only [Act.put, List.setIfInBounds_toArray, List.set_cons_zero, List.set_cons_succ]
  refine wpAnyE_done (by kernel_rfl) ?_ _
  go_wp2
  exact bodyPost_ret (results_ctc rfl rfl rfl (rowR.load H46.out 0 (cs := (RV.cl ⟨r.a1, r.n1, r.c1, Aw1, nw1, cw1⟩ (m.put true (m.high ++ [q.pk])))) rfl rfl) (load_pk rowP H66.out)) rfl (RPutTo.of HSE.out HSE.out.pv HW5.out HW6.out (by kernel_rfl) HBs.out.1 HBs.out.2.symm)
set_option maxHeartbeats 4000000 in
set_option maxRecDepth 100000 in
theorem r_putF2 (h : RpR F w r m) (hq : PvR F w q) (hF : ∀ k, F k → k < w.heap.size) (hl : m.low.length ≤ 1024) (hh : m.high.length ≤ 1024) (hc : q.pk.chk = true) (hk : q.h.kd = 1) (hn : q.n = 0) (hr2 : m.high.length < m.hr) :
    Calls Try.prog 60 #[.agg #[.slice r.a1 r.n1 r.c1, .slice r.a2 r.n2 r.c2, .int .i64 m.lr, .int .i64 m.hr, .int .i64 m.wt, .int .i64 m.run, .int .i64 (m.ct 0), .int .i64 (m.ct 1), .int .i64 (m.ct 2), .int .i64 (m.ct 3), .int .i64 (m.ct 4)], .agg #[.int .i64 q.h.kd, .int .i64 q.h.fl, .int .i64 q.h.pa, .int .i64 q.h.sr, .int .i64 q.h.ds, .int .i64 q.h.cn, .int .i64 q.h.sq, .int .i64 q.h.pu, .slice q.A q.n q.c]] w (RPutTo F w (m.base q.pk) (m.vd q.pk) (m.out q.pk)) := by
  have hn1 : r.n1 ≤ 1024 := by rw [← h.lo.len]; exact hl
  have hn2 : r.n2 ≤ 1024 := by rw [← h.hi.len]; exact hh
  have HN1 : Hid (r.n1 ≤ 2000) := Lib.hid (by omega)
  have HN2 : Hid (r.n2 ≤ 2000) := Lib.hid (by omega)
  have hll := h.lo.len
  have hhl := h.hi.len
  have hqn := hq.len
  have hhv : q.pk.heavy = false := by show (q.h.kd == 1 && decide (0 < q.xs.length)) = false; rw [hqn, hn]; simp
  have hkb : (q.h.kd == 1) = true := by rw [hk]; rfl
  have hkn : (q.h.kd != 1) = false := by rw [hk]; rfl
  have hnn : (q.n : Int) ≤ 0 := by omega
  have HK := Lib.hid hk
  have HFL := Lib.hid hq.fl
  have hsr : (r.n2 : Int) < m.hr := by omega
  have hv : m.vd q.pk = 1 := by unfold AM.vd; rw [if_neg (by simp [hc]), hhv]; exact if_pos hr2
  have HBs : Hid (m.base q.pk = m.put true (m.high ++ [q.pk]) ∧ m.out q.pk = q.pk) := Lib.hid (by have := base1 hv; rw [hhv] at this; exact this)
  rw [hv]
  clear hk hn hr2 hhv hv
  have HI : Hid (∀ o o' o2 o3, Calls Try.prog 70 #[.agg #[.int .i64 q.h.kd, .int .i64 q.h.fl, .int .i64 q.h.pa, .int .i64 q.h.sr, .int .i64 q.h.ds, .int .i64 q.h.cn, .int .i64 q.h.sq, .int .i64 q.h.pu, .slice q.A q.n q.c]] ((((w.alloc o).alloc o').alloc o2).alloc o3) fun e w' => e = .returned (.bool true) ∧ Below ((((w.alloc o).alloc o').alloc o2).alloc o3).heap.size ((((w.alloc o).alloc o').alloc o2).alloc o3) w') := Lib.hid fun o o' o2 o3 => by
    have := r_is (hq.below (((((Below.refl w.heap.size w).alloc (Nat.le_refl _) o).alloc (by simp) o').alloc (by simp; omega) o2).alloc (by simp; omega) o3))
    rw [hc] at this; exact this
  have HR := Lib.hid h
  have HQ := Lib.hid hq
  have HF := Lib.hid hF
  clear h hq hF hc hl hh hll hhl hqn hn1 hn2
  go_enter Try.func60, Try.ntmps60
  go_wp2_with fail
  refine (HI.out _ _ _ _).mono ?_
  rintro e w1 ⟨rfl, hb1⟩
  have HS0 := Lib.hid (RS.new HR.out HQ.out hb1)
  clear hb1 HR HQ HI
  have a0_0 := HS0.out.b2.cell 0 rfl
  have a1_0 := HS0.out.b2.cell 1 rfl
  have a2_0 := HS0.out.b2.cell 2 rfl
  have a3_0 := HS0.out.b2.cell 3 rfl
  have k0_0 := HS0.out.b3.cell 0 rfl
  have k1_0 := HS0.out.b3.cell 1 rfl
  have k8_0 := HS0.out.b3.cell 8 rfl
  have h2_0 := HS0.out.b2
  have h3_0 := HS0.out.b3
  have f0_0 := HS0.out.b2.free 0
  have f1_0 := HS0.out.b2.free 1
  go_wp2_with (first
    | (with_reducible refine at_load 65 (.tmp 3) (by rfl) ?_; refine wpList_load_pk rowP rfl (.tmp 3) rfl q (w.heap.size + 1) 0 rfl (Bk.pk (q := q) h3_0) ?_))
  refine (r_with HS0.out.rp.hi HS0.out.pv (HS0.out.bd HF.out) HN2.out).mono ?_
  rintro e ww1 ⟨Aw1, nw1, cw1, rfl, hsw1, hbw1⟩
  have HSW1 := Lib.hid (HS0.out.below hbw1)
  have HSV1 := Lib.hid (HSW1.out.high hsw1)
  have z0w := HSW1.out.b2.cell 1 rfl
  have g0w := HSW1.out.b2.free 1
  clear a0_0 a1_0 a2_0 a3_0 k0_0 k1_0 k8_0 h2_0 h3_0 f0_0 f1_0
  go_wp2_with fail
  refine wp_region_E (St (Bt w)) (by kernel_rfl) (fun wd hbd hsz => ?_)
  have HSE := Lib.hid (HSV1.out.below hbd)
  have HE4 := Lib.hid HSE.out.b4
  have HE6 := Lib.hid HSE.out.b6
  clear hsz
  (refine takeE (St.tr (Bt w)) 0 (by simp only [List.getElem?_toArray, List.getElem?_cons_succ, List.getElem?_cons_zero]; rfl) (by kernel_rfl) (by kernel_rfl) (by kernel_rfl) (by exact fun _ _ _ h => h) (by first | (refine Or.inl ⟨by rfl, ?_⟩; intro W hW; exact exec_load_bk rowR (.tmp 2) rfl w.heap.size 0 rfl (b2_st HSE.out hW bt0) (RV.cl ⟨r.a1, r.n1, r.c1, Aw1, nw1, cw1⟩ (m.put true (m.high ++ [q.pk]))) rfl rfl) | exact Or.inr ⟨by rfl, rfl⟩) ?_; try simp only [Act.put, List.setIfInBounds_toArray, List.set_cons_zero, List.set_cons_succ])
  (refine takeE (St.tr (Bt w)) 1 (by simp only [List.getElem?_toArray, List.getElem?_cons_succ, List.getElem?_cons_zero]; rfl) (by kernel_rfl) (by kernel_rfl) (by kernel_rfl) (by exact fun _ _ _ h => h) (by first | (refine Or.inl ⟨by rfl, ?_⟩; intro W hW; go_simp; try with_reducible rfl) | exact Or.inr ⟨by rfl, rfl⟩) ?_; try simp only [Act.put, List.setIfInBounds_toArray, List.set_cons_zero, List.set_cons_succ])
  (refine takeE (St.tr (Bt w)) 2 (by simp only [List.getElem?_toArray, List.getElem?_cons_succ, List.getElem?_cons_zero]; rfl) (by kernel_rfl) (by kernel_rfl) (by kernel_rfl) (by exact fun _ _ _ h => h) (by first | (refine Or.inl ⟨by rfl, ?_⟩; intro W hW; exact exec_load_bk rowP (.tmp 3) rfl (w.heap.size + 1) 0 rfl (b3_st HSE.out hW bt1) q.cl rfl rfl) | exact Or.inr ⟨by rfl, rfl⟩) ?_; try simp only [Act.put, List.setIfInBounds_toArray, List.set_cons_zero, List.set_cons_succ])
  refine wpAnyE_one (i := 3) (by kernel_rfl) (by simp only [List.getElem?_toArray, List.getElem?_cons_succ, List.getElem?_cons_zero]; rfl) (fun K hK => ?_)
  refine opwp_store_bk rowR rfl (.tmp 4) (.tmp 56) rfl (w.heap.size + 2) 0 rfl HE4.out (RV.cl ⟨r.a1, r.n1, r.c1, Aw1, nw1, cw1⟩ (m.put true (m.high ++ [q.pk]))) rfl rfl (by decide) (RV.cl_one _ _) ?_
  intro w5 h45 hw5
  rw [lay_all _ _ (by rfl)] at h45
  have HW5 := Lib.hid hw5
  have H45 := Lib.hid h45
  have H65 := Lib.hid (HE6.out.wr hw5 (by omega))
  have HZ5 := Lib.hid (show St (Bt w) wd w5 from wr_bt (by omega) hw5)
  refine hK.out _ _ HZ5.out ?_
  clear hK K
  try simp only [Act.put, List.setIfInBounds_toArray, List.set_cons_zero, List.set_cons_succ]
  (refine takeE (St.tr (Bt w)) 4 (by simp only [List.getElem?_toArray, List.getElem?_cons_succ, List.getElem?_cons_zero]; rfl) (by kernel_rfl) (by kernel_rfl) (by kernel_rfl) (by exact fun _ _ _ h => h) (by first | (refine Or.inl ⟨by rfl, ?_⟩; intro W hW; go_simp; try with_reducible rfl) | exact Or.inr ⟨by rfl, rfl⟩) ?_; try simp only [Act.put, List.setIfInBounds_toArray, List.set_cons_zero, List.set_cons_succ])
  refine wpAnyE_one (i := 5) (by kernel_rfl) (by simp only [List.getElem?_toArray, List.getElem?_cons_succ, List.getElem?_cons_zero]; rfl) (fun K hK => ?_)
  refine opwp_store_bk rowP rfl (.tmp 6) (.tmp 58) rfl (w.heap.size + 3) 0 rfl H65.out q.cl rfl rfl (by decide) (Pv.cl_one _) ?_
  intro w6 h66 hw6
  rw [lay_all _ _ (by rfl)] at h66
  have HW6 := Lib.hid hw6
  have H66 := Lib.hid h66
  have H46 := Lib.hid (H45.out.wr hw6 (by omega))
  refine hK.out _ _ (wr_bt (by omega) hw6) ?_
  clear hK K
  try simp only [Act.put, List.setIfInBounds_toArray, List.set_cons_zero, List.set_cons_succ]
  refine wpAnyE_done (by kernel_rfl) ?_ _
  go_wp2
  exact bodyPost_ret (results_ctc rfl rfl rfl (rowR.load H46.out 0 (cs := (RV.cl ⟨r.a1, r.n1, r.c1, Aw1, nw1, cw1⟩ (m.put true (m.high ++ [q.pk])))) rfl rfl) (load_pk rowP H66.out)) rfl (RPutTo.of HSE.out HSE.out.pv HW5.out HW6.out (by kernel_rfl) HBs.out.1 HBs.out.2.symm)
set_option maxHeartbeats 4000000 in
set_option maxRecDepth 100000 in
theorem r_putG (h : RpR F w r m) (hq : PvR F w q) (hF : ∀ k, F k → k < w.heap.size) (hl : m.low.length ≤ 1024) (hh : m.high.length ≤ 1024) (hc : q.pk.chk = true) (hk : ¬ q.h.kd = 1) (hr2 : ¬ m.high.length < m.hr) :
    Calls Try.prog 60 #[.agg #[.slice r.a1 r.n1 r.c1, .slice r.a2 r.n2 r.c2, .int .i64 m.lr, .int .i64 m.hr, .int .i64 m.wt, .int .i64 m.run, .int .i64 (m.ct 0), .int .i64 (m.ct 1), .int .i64 (m.ct 2), .int .i64 (m.ct 3), .int .i64 (m.ct 4)], .agg #[.int .i64 q.h.kd, .int .i64 q.h.fl, .int .i64 q.h.pa, .int .i64 q.h.sr, .int .i64 q.h.ds, .int .i64 q.h.cn, .int .i64 q.h.sq, .int .i64 q.h.pu, .slice q.A q.n q.c]] w (RPutTo F w (m.base q.pk) (m.vd q.pk) (m.out q.pk)) := by
  have hn1 : r.n1 ≤ 1024 := by rw [← h.lo.len]; exact hl
  have hn2 : r.n2 ≤ 1024 := by rw [← h.hi.len]; exact hh
  have HN1 : Hid (r.n1 ≤ 2000) := Lib.hid (by omega)
  have HN2 : Hid (r.n2 ≤ 2000) := Lib.hid (by omega)
  have hll := h.lo.len
  have hhl := h.hi.len
  have hqn := hq.len
  have hhv : q.pk.heavy = false := by show (q.h.kd == 1 && decide (0 < q.xs.length)) = false; rw [hqn]; simp [hk]
  have hkb : (q.h.kd == 1) = false := by simp [hk]
  have hkn : (q.h.kd != 1) = true := by simp [hk]
  have hsr : (m.hr : Int) ≤ r.n2 := by omega
  have hret : q.pk.retB = false := by rw [Pk.retB_eq hc]; show (q.h.kd == 1 && !hasB q.h.fl 16) = false; rw [hkb]; rfl
  have hv : m.vd q.pk = 4 := by unfold AM.vd; rw [if_neg (by simp [hc]), hhv, if_neg (show ¬ (m.sel (!false)).length < m.room (!false) from hr2), if_neg hr2, hret]; rfl
  have HBs := Lib.hid (base4 hv)
  rw [hv]
  clear hk hr2 hhv hv hret
  have HI : Hid (∀ o o' o2 o3, Calls Try.prog 70 #[.agg #[.int .i64 q.h.kd, .int .i64 q.h.fl, .int .i64 q.h.pa, .int .i64 q.h.sr, .int .i64 q.h.ds, .int .i64 q.h.cn, .int .i64 q.h.sq, .int .i64 q.h.pu, .slice q.A q.n q.c]] ((((w.alloc o).alloc o').alloc o2).alloc o3) fun e w' => e = .returned (.bool true) ∧ Below ((((w.alloc o).alloc o').alloc o2).alloc o3).heap.size ((((w.alloc o).alloc o').alloc o2).alloc o3) w') := Lib.hid fun o o' o2 o3 => by
    have := r_is (hq.below (((((Below.refl w.heap.size w).alloc (Nat.le_refl _) o).alloc (by simp) o').alloc (by simp; omega) o2).alloc (by simp; omega) o3))
    rw [hc] at this; exact this
  have HR := Lib.hid h
  have HQ := Lib.hid hq
  have HF := Lib.hid hF
  clear h hq hF hc hl hh hll hhl hqn hn1 hn2
  go_enter Try.func60, Try.ntmps60
  go_wp2_with fail
  refine (HI.out _ _ _ _).mono ?_
  rintro e w1 ⟨rfl, hb1⟩
  have HS0 := Lib.hid (RS.new HR.out HQ.out hb1)
  clear hb1 HR HQ HI
  have a0_0 := HS0.out.b2.cell 0 rfl
  have a1_0 := HS0.out.b2.cell 1 rfl
  have a2_0 := HS0.out.b2.cell 2 rfl
  have a3_0 := HS0.out.b2.cell 3 rfl
  have k0_0 := HS0.out.b3.cell 0 rfl
  have k1_0 := HS0.out.b3.cell 1 rfl
  have k8_0 := HS0.out.b3.cell 8 rfl
  have h2_0 := HS0.out.b2
  have h3_0 := HS0.out.b3
  have f0_0 := HS0.out.b2.free 0
  have f1_0 := HS0.out.b2.free 1
  go_wp2_with (first
    | (with_reducible refine at_load 65 (.tmp 3) (by rfl) ?_; refine wpList_load_pk rowP rfl (.tmp 3) rfl q (w.heap.size + 1) 0 rfl (Bk.pk (q := q) h3_0) ?_)
    | (with_reducible refine at_load 76 (.tmp 2) (by rfl) ?_; refine wpList_load_rp rowR rfl (.tmp 2) rfl r m w.heap.size rfl h2_0 ?_)
    | (with_reducible refine at_store 76 (.tmp 4) (.tmp 67) (by rfl) ?_; refine wpList_put_rp rowR rfl (.tmp 4) (.tmp 67) rfl (w.heap.size + 2) rfl HS0.out.b4 rfl r m rfl ?_; rintro w5 h45 hw5; have h65 := HS0.out.b6.wr hw5 (by omega))
    | (with_reducible refine at_store 65 (.tmp 6) (.tmp 68) (by rfl) ?_; refine wpList_put_pk rowP rfl (.tmp 6) (.tmp 68) rfl (w.heap.size + 3) rfl h65 rfl zPv rfl ?_; rintro w6 h66 hw6; have h46 := h45.wr hw6 (by omega)))
  exact bodyPost_ret (results_ctc rfl rfl rfl (rowR.load h46 0 (cs := r.cl m) rfl rfl) (load_pk rowP h66)) rfl (RPutTo.of HS0.out (PvR.zero _ _) hw5 hw6 (by kernel_rfl) HBs.out.1 HBs.out.2.symm)
set_option maxHeartbeats 4000000 in
set_option maxRecDepth 100000 in
theorem r_putH (h : RpR F w r m) (hq : PvR F w q) (hF : ∀ k, F k → k < w.heap.size) (hl : m.low.length ≤ 1024) (hh : m.high.length ≤ 1024) (hc : q.pk.chk = true) (hk : q.h.kd = 1) (hn : q.n = 0) (hr2 : ¬ m.high.length < m.hr) (hb16 : hasB q.h.fl 16 = true) :
    Calls Try.prog 60 #[.agg #[.slice r.a1 r.n1 r.c1, .slice r.a2 r.n2 r.c2, .int .i64 m.lr, .int .i64 m.hr, .int .i64 m.wt, .int .i64 m.run, .int .i64 (m.ct 0), .int .i64 (m.ct 1), .int .i64 (m.ct 2), .int .i64 (m.ct 3), .int .i64 (m.ct 4)], .agg #[.int .i64 q.h.kd, .int .i64 q.h.fl, .int .i64 q.h.pa, .int .i64 q.h.sr, .int .i64 q.h.ds, .int .i64 q.h.cn, .int .i64 q.h.sq, .int .i64 q.h.pu, .slice q.A q.n q.c]] w (RPutTo F w (m.base q.pk) (m.vd q.pk) (m.out q.pk)) := by
  have hn1 : r.n1 ≤ 1024 := by rw [← h.lo.len]; exact hl
  have hn2 : r.n2 ≤ 1024 := by rw [← h.hi.len]; exact hh
  have HN1 : Hid (r.n1 ≤ 2000) := Lib.hid (by omega)
  have HN2 : Hid (r.n2 ≤ 2000) := Lib.hid (by omega)
  have hll := h.lo.len
  have hhl := h.hi.len
  have hqn := hq.len
  have hhv : q.pk.heavy = false := by show (q.h.kd == 1 && decide (0 < q.xs.length)) = false; rw [hqn, hn]; simp
  have hkb : (q.h.kd == 1) = true := by rw [hk]; rfl
  have hkn : (q.h.kd != 1) = false := by rw [hk]; rfl
  have hnn : (q.n : Int) ≤ 0 := by omega
  have HK := Lib.hid hk
  have HFL := Lib.hid hq.fl
  have hsr : (m.hr : Int) ≤ r.n2 := by omega
  have hret : q.pk.retB = false := by rw [Pk.retB_eq hc]; show (q.h.kd == 1 && !hasB q.h.fl 16) = false; rw [hb16]; simp
  have hv : m.vd q.pk = 4 := by unfold AM.vd; rw [if_neg (by simp [hc]), hhv, if_neg (show ¬ (m.sel (!false)).length < m.room (!false) from hr2), if_neg hr2, hret]; rfl
  have HBs := Lib.hid (base4 hv)
  rw [hv]
  clear hk hn hr2 hhv hv hret
  have HI : Hid (∀ o o' o2 o3, Calls Try.prog 70 #[.agg #[.int .i64 q.h.kd, .int .i64 q.h.fl, .int .i64 q.h.pa, .int .i64 q.h.sr, .int .i64 q.h.ds, .int .i64 q.h.cn, .int .i64 q.h.sq, .int .i64 q.h.pu, .slice q.A q.n q.c]] ((((w.alloc o).alloc o').alloc o2).alloc o3) fun e w' => e = .returned (.bool true) ∧ Below ((((w.alloc o).alloc o').alloc o2).alloc o3).heap.size ((((w.alloc o).alloc o').alloc o2).alloc o3) w') := Lib.hid fun o o' o2 o3 => by
    have := r_is (hq.below (((((Below.refl w.heap.size w).alloc (Nat.le_refl _) o).alloc (by simp) o').alloc (by simp; omega) o2).alloc (by simp; omega) o3))
    rw [hc] at this; exact this
  have HR := Lib.hid h
  have HQ := Lib.hid hq
  have HF := Lib.hid hF
  clear h hq hF hc hl hh hll hhl hqn hn1 hn2
  go_enter Try.func60, Try.ntmps60
  go_wp2_with fail
  refine (HI.out _ _ _ _).mono ?_
  rintro e w1 ⟨rfl, hb1⟩
  have HS0 := Lib.hid (RS.new HR.out HQ.out hb1)
  clear hb1 HR HQ HI
  have a0_0 := HS0.out.b2.cell 0 rfl
  have a1_0 := HS0.out.b2.cell 1 rfl
  have a2_0 := HS0.out.b2.cell 2 rfl
  have a3_0 := HS0.out.b2.cell 3 rfl
  have k0_0 := HS0.out.b3.cell 0 rfl
  have k1_0 := HS0.out.b3.cell 1 rfl
  have k8_0 := HS0.out.b3.cell 8 rfl
  have h2_0 := HS0.out.b2
  have h3_0 := HS0.out.b3
  have f0_0 := HS0.out.b2.free 0
  have f1_0 := HS0.out.b2.free 1
  go_wp2_with (first
    | (with_reducible refine at_load 65 (.tmp 3) (by rfl) ?_; refine wpList_load_pk rowP rfl (.tmp 3) rfl q (w.heap.size + 1) 0 rfl (Bk.pk (q := q) h3_0) ?_)
    | (go_at_call 72; refine (rhas_any _ _ _ (by decide) (by decide) HFL.out).mono ?_; rintro e w' ⟨rfl, rfl⟩; simp only [hb16])
    | (with_reducible refine at_load 76 (.tmp 2) (by rfl) ?_; refine wpList_load_rp rowR rfl (.tmp 2) rfl r m w.heap.size rfl h2_0 ?_)
    | (with_reducible refine at_store 76 (.tmp 4) (.tmp 67) (by rfl) ?_; refine wpList_put_rp rowR rfl (.tmp 4) (.tmp 67) rfl (w.heap.size + 2) rfl HS0.out.b4 rfl r m rfl ?_; rintro w5 h45 hw5; have h65 := HS0.out.b6.wr hw5 (by omega))
    | (with_reducible refine at_store 65 (.tmp 6) (.tmp 68) (by rfl) ?_; refine wpList_put_pk rowP rfl (.tmp 6) (.tmp 68) rfl (w.heap.size + 3) rfl h65 rfl zPv rfl ?_; rintro w6 h66 hw6; have h46 := h45.wr hw6 (by omega)))
  exact bodyPost_ret (results_ctc rfl rfl rfl (rowR.load h46 0 (cs := r.cl m) rfl rfl) (load_pk rowP h66)) rfl (RPutTo.of HS0.out (PvR.zero _ _) hw5 hw6 (by kernel_rfl) HBs.out.1 HBs.out.2.symm)
set_option maxHeartbeats 4000000 in
set_option maxRecDepth 100000 in
theorem r_putI (h : RpR F w r m) (hq : PvR F w q) (hF : ∀ k, F k → k < w.heap.size) (hl : m.low.length ≤ 1024) (hh : m.high.length ≤ 1024) (hc : q.pk.chk = true) (hk : q.h.kd = 1) (hn : q.n = 0) (hr2 : ¬ m.high.length < m.hr) (hb16 : hasB q.h.fl 16 = false) (hb8 : hasB q.h.fl 8 = true) :
    Calls Try.prog 60 #[.agg #[.slice r.a1 r.n1 r.c1, .slice r.a2 r.n2 r.c2, .int .i64 m.lr, .int .i64 m.hr, .int .i64 m.wt, .int .i64 m.run, .int .i64 (m.ct 0), .int .i64 (m.ct 1), .int .i64 (m.ct 2), .int .i64 (m.ct 3), .int .i64 (m.ct 4)], .agg #[.int .i64 q.h.kd, .int .i64 q.h.fl, .int .i64 q.h.pa, .int .i64 q.h.sr, .int .i64 q.h.ds, .int .i64 q.h.cn, .int .i64 q.h.sq, .int .i64 q.h.pu, .slice q.A q.n q.c]] w (RPutTo F w (m.base q.pk) (m.vd q.pk) (m.out q.pk)) := by
  have hn1 : r.n1 ≤ 1024 := by rw [← h.lo.len]; exact hl
  have hn2 : r.n2 ≤ 1024 := by rw [← h.hi.len]; exact hh
  have HN1 : Hid (r.n1 ≤ 2000) := Lib.hid (by omega)
  have HN2 : Hid (r.n2 ≤ 2000) := Lib.hid (by omega)
  have hll := h.lo.len
  have hhl := h.hi.len
  have hqn := hq.len
  have hhv : q.pk.heavy = false := by show (q.h.kd == 1 && decide (0 < q.xs.length)) = false; rw [hqn, hn]; simp
  have hkb : (q.h.kd == 1) = true := by rw [hk]; rfl
  have hkn : (q.h.kd != 1) = false := by rw [hk]; rfl
  have hnn : (q.n : Int) ≤ 0 := by omega
  have HK := Lib.hid hk
  have HFL := Lib.hid hq.fl
  have hsr : (m.hr : Int) ≤ r.n2 := by omega
  have hret : q.pk.retB = true := by rw [Pk.retB_eq hc]; show (q.h.kd == 1 && !hasB q.h.fl 16) = true; rw [hb16, hk]; rfl
  have hv : m.vd q.pk = 3 := by unfold AM.vd; rw [if_neg (by simp [hc]), hhv, if_neg (show ¬ (m.sel (!false)).length < m.room (!false) from hr2), if_neg hr2, hret]; rfl
  have HBs := Lib.hid (base3 hv)
  rw [hv]
  have HTK : Hid (q.pk.trim = q.pk) := Lib.hid (Pk.trim_kept hb8)
  clear hk hn hr2 hhv hv hret
  have HI : Hid (∀ o o' o2 o3, Calls Try.prog 70 #[.agg #[.int .i64 q.h.kd, .int .i64 q.h.fl, .int .i64 q.h.pa, .int .i64 q.h.sr, .int .i64 q.h.ds, .int .i64 q.h.cn, .int .i64 q.h.sq, .int .i64 q.h.pu, .slice q.A q.n q.c]] ((((w.alloc o).alloc o').alloc o2).alloc o3) fun e w' => e = .returned (.bool true) ∧ Below ((((w.alloc o).alloc o').alloc o2).alloc o3).heap.size ((((w.alloc o).alloc o').alloc o2).alloc o3) w') := Lib.hid fun o o' o2 o3 => by
    have := r_is (hq.below (((((Below.refl w.heap.size w).alloc (Nat.le_refl _) o).alloc (by simp) o').alloc (by simp; omega) o2).alloc (by simp; omega) o3))
    rw [hc] at this; exact this
  have HR := Lib.hid h
  have HQ := Lib.hid hq
  have HF := Lib.hid hF
  clear h hq hF hc hl hh hll hhl hqn hn1 hn2
  go_enter Try.func60, Try.ntmps60
  go_wp2_with fail
  refine (HI.out _ _ _ _).mono ?_
  rintro e w1 ⟨rfl, hb1⟩
  have HS0 := Lib.hid (RS.new HR.out HQ.out hb1)
  clear hb1 HR HQ HI
  have a0_0 := HS0.out.b2.cell 0 rfl
  have a1_0 := HS0.out.b2.cell 1 rfl
  have a2_0 := HS0.out.b2.cell 2 rfl
  have a3_0 := HS0.out.b2.cell 3 rfl
  have k0_0 := HS0.out.b3.cell 0 rfl
  have k1_0 := HS0.out.b3.cell 1 rfl
  have k8_0 := HS0.out.b3.cell 8 rfl
  have h2_0 := HS0.out.b2
  have h3_0 := HS0.out.b3
  have f0_0 := HS0.out.b2.free 0
  have f1_0 := HS0.out.b2.free 1
  go_wp2_with (first
    | (with_reducible refine at_load 65 (.tmp 3) (by rfl) ?_; refine wpList_load_pk rowP rfl (.tmp 3) rfl q (w.heap.size + 1) 0 rfl (Bk.pk (q := q) h3_0) ?_)
    | (go_at_call 72; refine (rhas_any _ _ _ (by decide) (by decide) HFL.out).mono ?_; rintro e w' ⟨rfl, rfl⟩; simp only [hb16, hb8]))
  refine (r_bounce HS0.out.pv).mono ?_
  rintro e wt1 ⟨qt1, rfl, hqt1, hrt1, hbt1⟩
  have HST1 := Lib.hid (HS0.out.below hbt1)
  have hz3t1 := HST1.out.b3
  have HQT1 := Lib.hid hqt1
  clear hqt1
  clear a0_0 a1_0 a2_0 a3_0 k0_0 k1_0 k8_0 h2_0 h3_0 f0_0 f1_0
  go_wp2_with (first
    | (with_reducible refine at_store 65 (.tmp 3) (.tmp 81) (by rfl) ?_; refine wpList_put_pk rowP rfl (.tmp 3) (.tmp 81) rfl (w.heap.size + 1) rfl hz3t1 rfl qt1 rfl ?_; rintro wu1 h3u1 hwu1
       have HSU1 := Lib.hid (HST1.out.pack hrt1 h3u1 hwu1)
       have a0_1 := HSU1.out.b2.cell 0 rfl
       have a1_1 := HSU1.out.b2.cell 1 rfl
       have a2_1 := HSU1.out.b2.cell 2 rfl
       have a3_1 := HSU1.out.b2.cell 3 rfl
       have k0_1 := HSU1.out.b3.cell 0 rfl
       have k1_1 := HSU1.out.b3.cell 1 rfl
       have k8_1 := HSU1.out.b3.cell 8 rfl
       have h2_1 := HSU1.out.b2
       have h3_1 := HSU1.out.b3
       have f0_1 := HSU1.out.b2.free 0
       have f1_1 := HSU1.out.b2.free 1
       skip)
    | (with_reducible refine at_load 65 (.tmp 3) (by rfl) ?_; refine wpList_load_pk rowP rfl (.tmp 3) rfl qt1 (w.heap.size + 1) 0 rfl (Bk.pk (q := qt1) h3_1) ?_))
  refine wp_region_E (St (Bt w)) (by kernel_rfl) (fun wd hbd hsz => ?_)
  have HSE := Lib.hid (HSU1.out.below hbd)
  have HE4 := Lib.hid HSE.out.b4
  have HE6 := Lib.hid HSE.out.b6
  clear hsz
  (refine takeE (St.tr (Bt w)) 0 (by simp only [List.getElem?_toArray, List.getElem?_cons_succ, List.getElem?_cons_zero]; rfl) (by kernel_rfl) (by kernel_rfl) (by kernel_rfl) (by exact fun _ _ _ h => h) (by first | (refine Or.inl ⟨by rfl, ?_⟩; intro W hW; exact exec_load_bk rowR (.tmp 2) rfl w.heap.size 0 rfl (b2_st HSE.out hW bt0) (RV.cl r m) rfl rfl) | exact Or.inr ⟨by rfl, rfl⟩) ?_; try simp only [Act.put, List.setIfInBounds_toArray, List.set_cons_zero, List.set_cons_succ])
  (refine takeE (St.tr (Bt w)) 1 (by simp only [List.getElem?_toArray, List.getElem?_cons_succ, List.getElem?_cons_zero]; rfl) (by kernel_rfl) (by kernel_rfl) (by kernel_rfl) (by exact fun _ _ _ h => h) (by first | (refine Or.inl ⟨by rfl, ?_⟩; intro W hW; exact exec_load_bk rowP (.tmp 3) rfl (w.heap.size + 1) 0 rfl (b3_st HSE.out hW bt1) qt1.cl rfl rfl) | exact Or.inr ⟨by rfl, rfl⟩) ?_; try simp only [Act.put, List.setIfInBounds_toArray, List.set_cons_zero, List.set_cons_succ])
  refine wpAnyE_one (i := 2) (by kernel_rfl) (by simp only [List.getElem?_toArray, List.getElem?_cons_succ, List.getElem?_cons_zero]; rfl) (fun K hK => ?_)
  refine opwp_store_bk rowR rfl (.tmp 4) (.tmp 83) rfl (w.heap.size + 2) 0 rfl HE4.out (RV.cl r m) rfl rfl (by decide) (RV.cl_one _ _) ?_
  intro w5 h45 hw5
  rw [lay_all _ _ (by rfl)] at h45
  have HW5 := Lib.hid hw5
  have H45 := Lib.hid h45
  have H65 := Lib.hid (HE6.out.wr hw5 (by omega))
  have HZ5 := Lib.hid (show St (Bt w) wd w5 from wr_bt (by omega) hw5)
  refine hK.out _ _ HZ5.out ?_
  clear hK K
  try simp only [Act.put, List.setIfInBounds_toArray, List.set_cons_zero, List.set_cons_succ]
  (refine takeE (St.tr (Bt w)) 3 (by simp only [List.getElem?_toArray, List.getElem?_cons_succ, List.getElem?_cons_zero]; rfl) (by kernel_rfl) (by kernel_rfl) (by kernel_rfl) (by exact fun _ _ _ h => h) (by first | (refine Or.inl ⟨by rfl, ?_⟩; intro W hW; go_simp; try with_reducible rfl) | exact Or.inr ⟨by rfl, rfl⟩) ?_; try simp only [Act.put, List.setIfInBounds_toArray, List.set_cons_zero, List.set_cons_succ])
  refine wpAnyE_one (i := 4) (by kernel_rfl) (by simp only [List.getElem?_toArray, List.getElem?_cons_succ, List.getElem?_cons_zero]; rfl) (fun K hK => ?_)
  refine opwp_store_bk rowP rfl (.tmp 6) (.tmp 84) rfl (w.heap.size + 3) 0 rfl H65.out qt1.cl rfl rfl (by decide) (Pv.cl_one _) ?_
  intro w6 h66 hw6
  rw [lay_all _ _ (by rfl)] at h66
  have HW6 := Lib.hid hw6
  have H66 := Lib.hid h66
  have H46 := Lib.hid (H45.out.wr hw6 (by omega))
  refine hK.out _ _ (wr_bt (by omega) hw6) ?_
  clear hK K
  try simp only [Act.put, List.setIfInBounds_toArray, List.set_cons_zero, List.set_cons_succ]
  refine wpAnyE_done (by kernel_rfl) ?_ _
  go_wp2
  exact bodyPost_ret (results_ctc rfl rfl rfl (rowR.load H46.out 0 (cs := (RV.cl r m)) rfl rfl) (load_pk rowP H66.out)) rfl (RPutTo.of HSE.out HSE.out.pv HW5.out HW6.out (by kernel_rfl) HBs.out.1 (HQT1.out.trans (by rw [HBs.out.2]; unfold Pk.ret; rw [HTK.out])))
set_option maxHeartbeats 4000000 in
set_option maxRecDepth 100000 in
theorem r_putJ (h : RpR F w r m) (hq : PvR F w q) (hF : ∀ k, F k → k < w.heap.size) (hl : m.low.length ≤ 1024) (hh : m.high.length ≤ 1024) (hc : q.pk.chk = true) (hk : q.h.kd = 1) (hn : q.n = 0) (hr2 : ¬ m.high.length < m.hr) (hb16 : hasB q.h.fl 16 = false) (hb8 : hasB q.h.fl 8 = false) :
    Calls Try.prog 60 #[.agg #[.slice r.a1 r.n1 r.c1, .slice r.a2 r.n2 r.c2, .int .i64 m.lr, .int .i64 m.hr, .int .i64 m.wt, .int .i64 m.run, .int .i64 (m.ct 0), .int .i64 (m.ct 1), .int .i64 (m.ct 2), .int .i64 (m.ct 3), .int .i64 (m.ct 4)], .agg #[.int .i64 q.h.kd, .int .i64 q.h.fl, .int .i64 q.h.pa, .int .i64 q.h.sr, .int .i64 q.h.ds, .int .i64 q.h.cn, .int .i64 q.h.sq, .int .i64 q.h.pu, .slice q.A q.n q.c]] w (RPutTo F w (m.base q.pk) (m.vd q.pk) (m.out q.pk)) := by
  have hn1 : r.n1 ≤ 1024 := by rw [← h.lo.len]; exact hl
  have hn2 : r.n2 ≤ 1024 := by rw [← h.hi.len]; exact hh
  have HN1 : Hid (r.n1 ≤ 2000) := Lib.hid (by omega)
  have HN2 : Hid (r.n2 ≤ 2000) := Lib.hid (by omega)
  have hll := h.lo.len
  have hhl := h.hi.len
  have hqn := hq.len
  have hhv : q.pk.heavy = false := by show (q.h.kd == 1 && decide (0 < q.xs.length)) = false; rw [hqn, hn]; simp
  have hkb : (q.h.kd == 1) = true := by rw [hk]; rfl
  have hkn : (q.h.kd != 1) = false := by rw [hk]; rfl
  have hnn : (q.n : Int) ≤ 0 := by omega
  have HK := Lib.hid hk
  have HFL := Lib.hid hq.fl
  have hsr : (m.hr : Int) ≤ r.n2 := by omega
  have hret : q.pk.retB = true := by rw [Pk.retB_eq hc]; show (q.h.kd == 1 && !hasB q.h.fl 16) = true; rw [hb16, hk]; rfl
  have hv : m.vd q.pk = 3 := by unfold AM.vd; rw [if_neg (by simp [hc]), hhv, if_neg (show ¬ (m.sel (!false)).length < m.room (!false) from hr2), if_neg hr2, hret]; rfl
  have HBs := Lib.hid (base3 hv)
  rw [hv]
  clear hk hn hr2 hhv hv hret
  have HI : Hid (∀ o o' o2 o3, Calls Try.prog 70 #[.agg #[.int .i64 q.h.kd, .int .i64 q.h.fl, .int .i64 q.h.pa, .int .i64 q.h.sr, .int .i64 q.h.ds, .int .i64 q.h.cn, .int .i64 q.h.sq, .int .i64 q.h.pu, .slice q.A q.n q.c]] ((((w.alloc o).alloc o').alloc o2).alloc o3) fun e w' => e = .returned (.bool true) ∧ Below ((((w.alloc o).alloc o').alloc o2).alloc o3).heap.size ((((w.alloc o).alloc o').alloc o2).alloc o3) w') := Lib.hid fun o o' o2 o3 => by
    have := r_is (hq.below (((((Below.refl w.heap.size w).alloc (Nat.le_refl _) o).alloc (by simp) o').alloc (by simp; omega) o2).alloc (by simp; omega) o3))
    rw [hc] at this; exact this
  have HR := Lib.hid h
  have HQ := Lib.hid hq
  have HF := Lib.hid hF
  clear h hq hF hc hl hh hll hhl hqn hn1 hn2
  go_enter Try.func60, Try.ntmps60
  go_wp2_with fail
  refine (HI.out _ _ _ _).mono ?_
  rintro e w1 ⟨rfl, hb1⟩
  have HS0 := Lib.hid (RS.new HR.out HQ.out hb1)
  clear hb1 HR HQ HI
  have a0_0 := HS0.out.b2.cell 0 rfl
  have a1_0 := HS0.out.b2.cell 1 rfl
  have a2_0 := HS0.out.b2.cell 2 rfl
  have a3_0 := HS0.out.b2.cell 3 rfl
  have k0_0 := HS0.out.b3.cell 0 rfl
  have k1_0 := HS0.out.b3.cell 1 rfl
  have k8_0 := HS0.out.b3.cell 8 rfl
  have h2_0 := HS0.out.b2
  have h3_0 := HS0.out.b3
  have f0_0 := HS0.out.b2.free 0
  have f1_0 := HS0.out.b2.free 1
  go_wp2_with (first
    | (with_reducible refine at_load 65 (.tmp 3) (by rfl) ?_; refine wpList_load_pk rowP rfl (.tmp 3) rfl q (w.heap.size + 1) 0 rfl (Bk.pk (q := q) h3_0) ?_)
    | (go_at_call 72; refine (rhas_any _ _ _ (by decide) (by decide) HFL.out).mono ?_; rintro e w' ⟨rfl, rfl⟩; simp only [hb16, hb8]))
  refine (r_trim HS0.out.pv).mono ?_
  rintro e wt1 ⟨qt1, rfl, hqt1, hrt1, hbt1⟩
  have HST1 := Lib.hid (HS0.out.below hbt1)
  have hz3t1 := HST1.out.b3
  have HQT1 := Lib.hid hqt1
  clear hqt1
  clear a0_0 a1_0 a2_0 a3_0 k0_0 k1_0 k8_0 h2_0 h3_0 f0_0 f1_0
  go_wp2_with (first
    | (with_reducible refine at_store 65 (.tmp 3) (.tmp 76) (by rfl) ?_; refine wpList_put_pk rowP rfl (.tmp 3) (.tmp 76) rfl (w.heap.size + 1) rfl hz3t1 rfl qt1 rfl ?_; rintro wu1 h3u1 hwu1
       have HSU1 := Lib.hid (HST1.out.pack hrt1 h3u1 hwu1)
       have a0_1 := HSU1.out.b2.cell 0 rfl
       have a1_1 := HSU1.out.b2.cell 1 rfl
       have a2_1 := HSU1.out.b2.cell 2 rfl
       have a3_1 := HSU1.out.b2.cell 3 rfl
       have k0_1 := HSU1.out.b3.cell 0 rfl
       have k1_1 := HSU1.out.b3.cell 1 rfl
       have k8_1 := HSU1.out.b3.cell 8 rfl
       have h2_1 := HSU1.out.b2
       have h3_1 := HSU1.out.b3
       have f0_1 := HSU1.out.b2.free 0
       have f1_1 := HSU1.out.b2.free 1
       skip)
    | (with_reducible refine at_load 65 (.tmp 3) (by rfl) ?_; refine wpList_load_pk rowP rfl (.tmp 3) rfl qt1 (w.heap.size + 1) 0 rfl (Bk.pk (q := qt1) h3_1) ?_))
  refine (r_bounce HSU1.out.pv).mono ?_
  rintro e wt2 ⟨qt2, rfl, hqt2, hrt2, hbt2⟩
  have HST2 := Lib.hid (HSU1.out.below hbt2)
  have hz3t2 := HST2.out.b3
  have HQT2 := Lib.hid hqt2
  clear hqt2
  clear a0_1 a1_1 a2_1 a3_1 k0_1 k1_1 k8_1 h2_1 h3_1 f0_1 f1_1
  go_wp2_with (first
    | (with_reducible refine at_store 65 (.tmp 3) (.tmp 81) (by rfl) ?_; refine wpList_put_pk rowP rfl (.tmp 3) (.tmp 81) rfl (w.heap.size + 1) rfl hz3t2 rfl qt2 rfl ?_; rintro wu2 h3u2 hwu2
       have HSU2 := Lib.hid (HST2.out.pack hrt2 h3u2 hwu2)
       have a0_2 := HSU2.out.b2.cell 0 rfl
       have a1_2 := HSU2.out.b2.cell 1 rfl
       have a2_2 := HSU2.out.b2.cell 2 rfl
       have a3_2 := HSU2.out.b2.cell 3 rfl
       have k0_2 := HSU2.out.b3.cell 0 rfl
       have k1_2 := HSU2.out.b3.cell 1 rfl
       have k8_2 := HSU2.out.b3.cell 8 rfl
       have h2_2 := HSU2.out.b2
       have h3_2 := HSU2.out.b3
       have f0_2 := HSU2.out.b2.free 0
       have f1_2 := HSU2.out.b2.free 1
       skip)
    | (with_reducible refine at_load 65 (.tmp 3) (by rfl) ?_; refine wpList_load_pk rowP rfl (.tmp 3) rfl qt2 (w.heap.size + 1) 0 rfl (Bk.pk (q := qt2) h3_2) ?_))
  refine wp_region_E (St (Bt w)) (by kernel_rfl) (fun wd hbd hsz => ?_)
  have HSE := Lib.hid (HSU2.out.below hbd)
  have HE4 := Lib.hid HSE.out.b4
  have HE6 := Lib.hid HSE.out.b6
  clear hsz
  (refine takeE (St.tr (Bt w)) 0 (by simp only [List.getElem?_toArray, List.getElem?_cons_succ, List.getElem?_cons_zero]; rfl) (by kernel_rfl) (by kernel_rfl) (by kernel_rfl) (by exact fun _ _ _ h => h) (by first | (refine Or.inl ⟨by rfl, ?_⟩; intro W hW; exact exec_load_bk rowR (.tmp 2) rfl w.heap.size 0 rfl (b2_st HSE.out hW bt0) (RV.cl r m) rfl rfl) | exact Or.inr ⟨by rfl, rfl⟩) ?_; try simp only [Act.put, List.setIfInBounds_toArray, List.set_cons_zero, List.set_cons_succ])
  (refine takeE (St.tr (Bt w)) 1 (by simp only [List.getElem?_toArray, List.getElem?_cons_succ, List.getElem?_cons_zero]; rfl) (by kernel_rfl) (by kernel_rfl) (by kernel_rfl) (by exact fun _ _ _ h => h) (by first | (refine Or.inl ⟨by rfl, ?_⟩; intro W hW; exact exec_load_bk rowP (.tmp 3) rfl (w.heap.size + 1) 0 rfl (b3_st HSE.out hW bt1) qt2.cl rfl rfl) | exact Or.inr ⟨by rfl, rfl⟩) ?_; try simp only [Act.put, List.setIfInBounds_toArray, List.set_cons_zero, List.set_cons_succ])
  refine wpAnyE_one (i := 2) (by kernel_rfl) (by simp only [List.getElem?_toArray, List.getElem?_cons_succ, List.getElem?_cons_zero]; rfl) (fun K hK => ?_)
  refine opwp_store_bk rowR rfl (.tmp 4) (.tmp 83) rfl (w.heap.size + 2) 0 rfl HE4.out (RV.cl r m) rfl rfl (by decide) (RV.cl_one _ _) ?_
  intro w5 h45 hw5
  rw [lay_all _ _ (by rfl)] at h45
  have HW5 := Lib.hid hw5
  have H45 := Lib.hid h45
  have H65 := Lib.hid (HE6.out.wr hw5 (by omega))
  have HZ5 := Lib.hid (show St (Bt w) wd w5 from wr_bt (by omega) hw5)
  refine hK.out _ _ HZ5.out ?_
  clear hK K
  try simp only [Act.put, List.setIfInBounds_toArray, List.set_cons_zero, List.set_cons_succ]
  (refine takeE (St.tr (Bt w)) 3 (by simp only [List.getElem?_toArray, List.getElem?_cons_succ, List.getElem?_cons_zero]; rfl) (by kernel_rfl) (by kernel_rfl) (by kernel_rfl) (by exact fun _ _ _ h => h) (by first | (refine Or.inl ⟨by rfl, ?_⟩; intro W hW; go_simp; try with_reducible rfl) | exact Or.inr ⟨by rfl, rfl⟩) ?_; try simp only [Act.put, List.setIfInBounds_toArray, List.set_cons_zero, List.set_cons_succ])
  refine wpAnyE_one (i := 4) (by kernel_rfl) (by simp only [List.getElem?_toArray, List.getElem?_cons_succ, List.getElem?_cons_zero]; rfl) (fun K hK => ?_)
  refine opwp_store_bk rowP rfl (.tmp 6) (.tmp 84) rfl (w.heap.size + 3) 0 rfl H65.out qt2.cl rfl rfl (by decide) (Pv.cl_one _) ?_
  intro w6 h66 hw6
  rw [lay_all _ _ (by rfl)] at h66
  have HW6 := Lib.hid hw6
  have H66 := Lib.hid h66
  have H46 := Lib.hid (H45.out.wr hw6 (by omega))
  refine hK.out _ _ (wr_bt (by omega) hw6) ?_
  clear hK K
  try simp only [Act.put, List.setIfInBounds_toArray, List.set_cons_zero, List.set_cons_succ]
  refine wpAnyE_done (by kernel_rfl) ?_ _
  go_wp2
  exact bodyPost_ret (results_ctc rfl rfl rfl (rowR.load H46.out 0 (cs := (RV.cl r m)) rfl rfl) (load_pk rowP H66.out)) rfl (RPutTo.of HSE.out HSE.out.pv HW5.out HW6.out (by kernel_rfl) HBs.out.1 (HQT2.out.trans (by rw [HQT1.out]; exact HBs.out.2.symm)))
end
end Go.Proofs.Ytboclbanccfbjaa
namespace Go.Proofs.Ytboclbanccfbjaa
set_option linter.unusedSimpArgs false
set_option linter.unusedVariables false
set_option maxRecDepth 100000
open Go.RowKit Go.Shelf
section
variable {F : Nat → Prop} {w W W' : World} {r : RV} {m : AM} {q : Pv}
theorem r_put (h : RpR F w r m) (hq : PvR F w q) (hF : ∀ k, F k → k < w.heap.size) (hl : m.low.length ≤ 1024) (hh : m.high.length ≤ 1024) :
    Calls Try.prog 60 #[.agg #[.slice r.a1 r.n1 r.c1, .slice r.a2 r.n2 r.c2, .int .i64 m.lr, .int .i64 m.hr, .int .i64 m.wt, .int .i64 m.run, .int .i64 (m.ct 0), .int .i64 (m.ct 1), .int .i64 (m.ct 2), .int .i64 (m.ct 3), .int .i64 (m.ct 4)], .agg #[.int .i64 q.h.kd, .int .i64 q.h.fl, .int .i64 q.h.pa, .int .i64 q.h.sr, .int .i64 q.h.ds, .int .i64 q.h.cn, .int .i64 q.h.sq, .int .i64 q.h.pu, .slice q.A q.n q.c]] w (RPutTo F w (m.base q.pk) (m.vd q.pk) (m.out q.pk)) := by
  cases hc : q.pk.chk with
  | false => exact r_putA h hq hF hc
  | true =>
    by_cases hk : q.h.kd = 1
    · by_cases hn : 0 < q.n
      · by_cases hr : m.low.length < m.lr
        · exact r_putB h hq hF hl hh hc hk hn hr
        · by_cases hr2 : m.high.length < m.hr
          · exact r_putC h hq hF hl hh hc hk hn hr hr2
          · cases h16 : hasB q.h.fl 16 with
            | true => exact r_putD h hq hF hl hh hc hk hn hr hr2 h16
            | false => exact r_putE h hq hF hl hh hc hk hn hr hr2 h16
      · have hn0 : q.n = 0 := by omega
        by_cases hr2 : m.high.length < m.hr
        · exact r_putF2 h hq hF hl hh hc hk hn0 hr2
        · cases h16 : hasB q.h.fl 16 with
          | true => exact r_putH h hq hF hl hh hc hk hn0 hr2 h16
          | false =>
            cases h8 : hasB q.h.fl 8 with
            | true => exact r_putI h hq hF hl hh hc hk hn0 hr2 h16 h8
            | false => exact r_putJ h hq hF hl hh hc hk hn0 hr2 h16 h8
    · by_cases hr2 : m.high.length < m.hr
      · exact r_putF h hq hF hl hh hc hk hr2
      · exact r_putG h hq hF hl hh hc hk hr2
set_option maxHeartbeats 4000000 in
set_option maxRecDepth 100000 in
theorem r_Put1 (h : RpR F w r m) (hq : PvR F w q) (hF : ∀ k, F k → k < w.heap.size) (hl : m.low.length ≤ 1024) (hh : m.high.length ≤ 1024) (hct : ∀ k, -1 ≤ m.ct k ∧ m.ct k ≤ 1000000) (hv : m.vd q.pk = 1) :
    Calls Try.prog 44 #[.agg #[.slice r.a1 r.n1 r.c1, .slice r.a2 r.n2 r.c2, .int .i64 m.lr, .int .i64 m.hr, .int .i64 m.wt, .int .i64 m.run, .int .i64 (m.ct 0), .int .i64 (m.ct 1), .int .i64 (m.ct 2), .int .i64 (m.ct 3), .int .i64 (m.ct 4)], .agg #[.int .i64 q.h.kd, .int .i64 q.h.fl, .int .i64 q.h.pa, .int .i64 q.h.sr, .int .i64 q.h.ds, .int .i64 q.h.cn, .int .i64 q.h.sq, .int .i64 q.h.pu, .slice q.A q.n q.c]] w (RPutTo F w (m.nx q.pk) 1 (m.out q.pk)) := by
  have HP : Hid (∀ o o' o2 o3, Calls Try.prog 60 #[.agg #[.slice r.a1 r.n1 r.c1, .slice r.a2 r.n2 r.c2, .int .i64 m.lr, .int .i64 m.hr, .int .i64 m.wt, .int .i64 m.run, .int .i64 (m.ct 0), .int .i64 (m.ct 1), .int .i64 (m.ct 2), .int .i64 (m.ct 3), .int .i64 (m.ct 4)], .agg #[.int .i64 q.h.kd, .int .i64 q.h.fl, .int .i64 q.h.pa, .int .i64 q.h.sr, .int .i64 q.h.ds, .int .i64 q.h.cn, .int .i64 q.h.sq, .int .i64 q.h.pu, .slice q.A q.n q.c]] ((((w.alloc o).alloc o').alloc o2).alloc o3) (RPutTo (Bx F w) ((((w.alloc o).alloc o').alloc o2).alloc o3) (m.base q.pk) 1 (m.out q.pk))) := Lib.hid fun o o' o2 o3 => by
    have hb : Below w.heap.size w ((((w.alloc o).alloc o').alloc o2).alloc o3) := ((((Below.refl w.heap.size w).alloc (Nat.le_refl _) o).alloc (by simp) o').alloc (by simp; omega) o2).alloc (by simp; omega) o3
    have := r_put ((h.st (St.refl F w) (Bx.gr F w)).below hb) ((hq.gr (Bx.gr F w)).below hb) (fun k hk => by simp; rcases hk with hk | hk; (have := hF k hk; omega); omega) hl hh
    rw [hv] at this; exact this
  have HN : Hid (m.nx q.pk = { m.base q.pk with ct := up m.ct 1 (m.ct 1 + 1) }) := Lib.hid (by unfold AM.nx; rw [hv])
  have HBC : Hid ((m.base q.pk).ct = m.ct) := Lib.hid (by unfold AM.base; (repeat' split) <;> rfl)
  rw [HN.out]
  have hw : IntKind.i64.wrap (m.ct 1 + 1) = m.ct 1 + 1 := by have := hct 1; rw [IntKind.wrap_i64]; omega
  generalize m.base q.pk = mb at *
  generalize m.out q.pk = xo at *
  clear h hq hF hl hh hct hv HN
  go_enter Try.func44, Try.ntmps44
  go_wp2_with fail
  refine (HP.out _ _ _ _).mono ?_
  rintro e w1 ⟨r', q', rfl, hr1, hk1, hq1, hb1⟩
  obtain ⟨h2, h3, h4, h6, hc⟩ := new4 hb1
  have HK := Lib.hid hk1
  have hba := (Below.refl w1.heap.size w1).alloc (Nat.le_refl _) (.cells (List.toArray [.int .i64 0, .int .i64 0, .int .i64 0, .int .i64 0, .int .i64 0, .int .i64 0, .int .i64 0, .int .i64 0, .slice none 0 0]) 65)
  have h2a := h2.below hba
  have h8a := Bk.new w1 65 [.int .i64 0, .int .i64 0, .int .i64 0, .int .i64 0, .int .i64 0, .int .i64 0, .int .i64 0, .int .i64 0, .slice none 0 0]
  have HG8 := Lib.hid h6.lt
  have HR1 := Lib.hid (hr1.st (St.refl _ _) (gr_box (Bx F w) (Nat.le_refl w1.heap.size)))
  have HQ1 := Lib.hid (hq1.gr (gr_box (Bx F w) (Nat.le_refl w1.heap.size)))
  have H4 := Lib.hid (h4.below hba)
  have H6 := Lib.hid (h6.below hba)
  have HCa := Lib.hid (hc.alloc hc.size (.cells (List.toArray [.int .i64 0, .int .i64 0, .int .i64 0, .int .i64 0, .int .i64 0, .int .i64 0, .int .i64 0, .int .i64 0, .slice none 0 0]) 65))
  have hg8 := h6.lt
  have HBA := Lib.hid hba
  have HCV : Hid (mb.ct 1 = m.ct 1) := Lib.hid (by rw [HBC.out])
  clear hk1 hb1 h3 h4 h6 hc hr1 hq1 h2 hba HP
  go_wp2_with (first
    | (with_reducible refine at_store 76 (.tmp 2) (.tmp 13) (by rfl) ?_; refine wpList_put_rp rowR rfl (.tmp 2) (.tmp 13) rfl w.heap.size rfl h2a rfl r' mb rfl ?_; rintro w2 h22 hw2; have h82 := h8a.wr hw2 (by omega))
    | (with_reducible refine at_store 65 (.tmp 8) (.tmp 15) (by rfl) ?_; refine wpList_put_pk rowP rfl (.tmp 8) (.tmp 15) rfl w1.heap.size rfl h82 rfl q' rfl ?_; rintro w3 h83 hw3
       have h23 := h22.wr hw3 (by omega)
       have cv := h23.cell 7 rfl
       have fv := h23.free 7
       rw [HCV.out] at cv
       have HS3 : Hid (St (fun k => Bx F w k ∨ k = w1.heap.size) (w1.alloc (.cells (List.toArray [.int .i64 0, .int .i64 0, .int .i64 0, .int .i64 0, .int .i64 0, .int .i64 0, .int .i64 0, .int .i64 0, .slice none 0 0]) 65)) w3) := Lib.hid (((wr_bx (F := F) (w := w) (by omega) hw2).mono fun k _ hk => .inl hk).trans (St.mono (F := (· = w1.heap.size)) ⟨hw3.os, hw3.tape, hw3.output, hw3.size, fun k hk hn => hw3.block k hk (by intro e; injection e with e; exact hn e)⟩ (fun k _ hk => .inr hk)) (Gr.refl _ _))
       have H43 := Lib.hid ((H4.out.wr hw2 (by omega)).wr hw3 (by omega))
       have H63 := Lib.hid ((H6.out.wr hw2 (by omega)).wr hw3 (by omega))
       have HC3 := Lib.hid ((HCa.out.trans (hw2.below (Nat.le_refl _) HCa.out.size)).trans (hw3.below (by omega) (Nat.le_trans HCa.out.size hw2.size)))))
  have HC2 : Hid (Bk (w3.setCell ⟨w.heap.size, 7, none⟩ (.int .i64 (m.ct 1 + 1))) 76 w.heap.size (RV.cl r' { mb with ct := up m.ct 1 (m.ct 1 + 1) })) := Lib.hid (by have := h23.set 7 (.int .i64 (m.ct 1 + 1)); rw [show (RV.cl r' mb).set 7 (.int .i64 (m.ct 1 + 1)) = RV.cl r' { mb with ct := up mb.ct 1 (m.ct 1 + 1) } from rfl, HBC.out] at this; exact this)
  have hwv := Wr.set w3 w.heap.size 7 (.int .i64 (m.ct 1 + 1))
  have HC8 := Lib.hid (h83.wr hwv (by omega))
  have HC4 := Lib.hid (H43.out.wr hwv (by omega))
  have HC6 := Lib.hid (H63.out.wr hwv (by omega))
  have HCS := Lib.hid (HS3.out.trans ((wr_bx (F := F) (w := w) (by omega) hwv).mono fun k _ hk => .inl hk) (Gr.refl _ _))
  have HCB := Lib.hid (HC3.out.trans (hwv.below (Nat.le_refl _) HC3.out.size))
  have hrr : RpR (fun k => Bx F w k ∨ k = w1.heap.size) _ r' { mb with ct := up m.ct 1 (m.ct 1 + 1) } := ⟨(HR1.out.below HBA.out).lo.st HCS.out (Gr.refl _ _), (HR1.out.below HBA.out).hi.st HCS.out (Gr.refl _ _)⟩
  have HCR := Lib.hid hrr
  have HCQ := Lib.hid ((HQ1.out.below HBA.out).st HCS.out (Gr.refl _ _))
  clear h2a h8a h22 h82 h83 h23 hwv hrr cv fv hg8
  refine wp_region_E (St (Bt w)) (by kernel_rfl) (fun wd hbd hsz => ?_)
  have HE2 := Lib.hid (HC2.out.below hbd)
  have HE8 := Lib.hid (HC8.out.below hbd)
  have HE4 := Lib.hid (HC4.out.below hbd)
  have HE6 := Lib.hid (HC6.out.below hbd)
  have HRE := Lib.hid (HCR.out.below hbd)
  have HQE := Lib.hid (HCQ.out.below hbd)
  have HBE := Lib.hid (below_on HCB.out hbd)
  have bt8 : ¬ Bt w w1.heap.size := by unfold Bt; have := HG8.out; omega
  clear hsz
  (refine takeE (St.tr (Bt w)) 0 (by simp only [List.getElem?_toArray, List.getElem?_cons_succ, List.getElem?_cons_zero]; rfl) (by kernel_rfl) (by kernel_rfl) (by kernel_rfl) (by exact fun _ _ _ h => h) (by first | (refine Or.inl ⟨by rfl, ?_⟩; intro W hW; exact exec_load_bk rowR (.tmp 2) rfl w.heap.size 0 rfl (HE2.out.st hW bt0) (RV.cl r' { mb with ct := up m.ct 1 (m.ct 1 + 1) }) rfl rfl) | exact Or.inr ⟨by rfl, rfl⟩) ?_; try simp only [Act.put, List.setIfInBounds_toArray, List.set_cons_zero, List.set_cons_succ])
  (refine takeE (St.tr (Bt w)) 1 (by simp only [List.getElem?_toArray, List.getElem?_cons_succ, List.getElem?_cons_zero]; rfl) (by kernel_rfl) (by kernel_rfl) (by kernel_rfl) (by exact fun _ _ _ h => h) (by first | (refine Or.inl ⟨by rfl, ?_⟩; intro W hW; go_simp; try with_reducible rfl) | exact Or.inr ⟨by rfl, rfl⟩) ?_; try simp only [Act.put, List.setIfInBounds_toArray, List.set_cons_zero, List.set_cons_succ])
  (refine takeE (St.tr (Bt w)) 2 (by simp only [List.getElem?_toArray, List.getElem?_cons_succ, List.getElem?_cons_zero]; rfl) (by kernel_rfl) (by kernel_rfl) (by kernel_rfl) (by exact fun _ _ _ h => h) (by first | (refine Or.inl ⟨by rfl, ?_⟩; intro W hW; exact exec_load_bk rowP (.tmp 8) rfl w1.heap.size 0 rfl (HE8.out.st hW bt8) q'.cl rfl rfl) | exact Or.inr ⟨by rfl, rfl⟩) ?_; try simp only [Act.put, List.setIfInBounds_toArray, List.set_cons_zero, List.set_cons_succ])
  refine wpAnyE_one (i := 3) (by kernel_rfl) (by simp only [List.getElem?_toArray, List.getElem?_cons_succ, List.getElem?_cons_zero]; rfl) (fun K hK => ?_)
  refine opwp_store_bk rowR rfl (.tmp 4) (.tmp 24) rfl (w.heap.size + 2) 0 rfl HE4.out (RV.cl r' { mb with ct := up m.ct 1 (m.ct 1 + 1) }) rfl rfl (by decide) (RV.cl_one _ _) ?_
  intro w5 h45 hw5
  rw [lay_all _ _ (by rfl)] at h45
  have HW5 := Lib.hid hw5
  have H45 := Lib.hid h45
  have H65 := Lib.hid (HE6.out.wr hw5 (by omega))
  have HZ5 := Lib.hid (show St (Bt w) wd w5 from wr_bt (by omega) hw5)
  refine hK.out _ _ HZ5.out ?_
  clear hK K
  try simp only [Act.put, List.setIfInBounds_toArray, List.set_cons_zero, List.set_cons_succ]
  (refine takeE (St.tr (Bt w)) 4 (by simp only [List.getElem?_toArray, List.getElem?_cons_succ, List.getElem?_cons_zero]; rfl) (by kernel_rfl) (by kernel_rfl) (by kernel_rfl) (by exact fun _ _ _ h => h) (by first | (refine Or.inl ⟨by rfl, ?_⟩; intro W hW; go_simp; try with_reducible rfl) | exact Or.inr ⟨by rfl, rfl⟩) ?_; try simp only [Act.put, List.setIfInBounds_toArray, List.set_cons_zero, List.set_cons_succ])
  refine wpAnyE_one (i := 5) (by kernel_rfl) (by simp only [List.getElem?_toArray, List.getElem?_cons_succ, List.getElem?_cons_zero]; rfl) (fun K hK => ?_)
  refine opwp_store_bk rowP rfl (.tmp 6) (.tmp 26) rfl (w.heap.size + 3) 0 rfl H65.out q'.cl rfl rfl (by decide) (Pv.cl_one _) ?_
  intro w6 h66 hw6
  rw [lay_all _ _ (by rfl)] at h66
  have HW6 := Lib.hid hw6
  have H66 := Lib.hid h66
  have H46 := Lib.hid (H45.out.wr hw6 (by omega))
  refine hK.out _ _ (wr_bt (by omega) hw6) ?_
  clear hK K
  try simp only [Act.put, List.setIfInBounds_toArray, List.set_cons_zero, List.set_cons_succ]
  refine wpAnyE_done (by kernel_rfl) ?_ _
  go_wp2
  have HSF : Hid (St (Bt w) wd w6) := Lib.hid (HZ5.out.trans (wr_bt (by omega) HW6.out) (Gr.refl _ _))
  have hsf2 : St (fun k => Bx F w k ∨ k = w1.heap.size) wd w6 := HSF.out.mono fun k _ hk => .inl (.inr (by unfold Bt at hk; omega))
  refine bodyPost_ret (results_ctc rfl rfl rfl (rowR.load H46.out 0 (cs := RV.cl r' { mb with ct := up m.ct 1 (m.ct 1 + 1) }) rfl rfl) (load_pk rowP H66.out)) rfl ?_
  exact ⟨r', q', by kernel_rfl, (HRE.out.st hsf2 (Gr.refl _ _)).mono fun k hk => .inl (.inl hk), HK.out, (HQE.out.st hsf2 (Gr.refl _ _)).mono fun k hk => .inl (.inl hk), (HBE.out.trans (HW5.out.below (by omega) HBE.out.size)).trans (HW6.out.below (by omega) (Nat.le_trans HBE.out.size HW5.out.size))⟩
set_option maxHeartbeats 4000000 in
set_option maxRecDepth 100000 in
theorem r_Put2 (h : RpR F w r m) (hq : PvR F w q) (hF : ∀ k, F k → k < w.heap.size) (hl : m.low.length ≤ 1024) (hh : m.high.length ≤ 1024) (hct : ∀ k, -1 ≤ m.ct k ∧ m.ct k ≤ 1000000) (hv : m.vd q.pk = 2) :
    Calls Try.prog 44 #[.agg #[.slice r.a1 r.n1 r.c1, .slice r.a2 r.n2 r.c2, .int .i64 m.lr, .int .i64 m.hr, .int .i64 m.wt, .int .i64 m.run, .int .i64 (m.ct 0), .int .i64 (m.ct 1), .int .i64 (m.ct 2), .int .i64 (m.ct 3), .int .i64 (m.ct 4)], .agg #[.int .i64 q.h.kd, .int .i64 q.h.fl, .int .i64 q.h.pa, .int .i64 q.h.sr, .int .i64 q.h.ds, .int .i64 q.h.cn, .int .i64 q.h.sq, .int .i64 q.h.pu, .slice q.A q.n q.c]] w (RPutTo F w (m.nx q.pk) 2 (m.out q.pk)) := by
  have HP : Hid (∀ o o' o2 o3, Calls Try.prog 60 #[.agg #[.slice r.a1 r.n1 r.c1, .slice r.a2 r.n2 r.c2, .int .i64 m.lr, .int .i64 m.hr, .int .i64 m.wt, .int .i64 m.run, .int .i64 (m.ct 0), .int .i64 (m.ct 1), .int .i64 (m.ct 2), .int .i64 (m.ct 3), .int .i64 (m.ct 4)], .agg #[.int .i64 q.h.kd, .int .i64 q.h.fl, .int .i64 q.h.pa, .int .i64 q.h.sr, .int .i64 q.h.ds, .int .i64 q.h.cn, .int .i64 q.h.sq, .int .i64 q.h.pu, .slice q.A q.n q.c]] ((((w.alloc o).alloc o').alloc o2).alloc o3) (RPutTo (Bx F w) ((((w.alloc o).alloc o').alloc o2).alloc o3) (m.base q.pk) 2 (m.out q.pk))) := Lib.hid fun o o' o2 o3 => by
    have hb : Below w.heap.size w ((((w.alloc o).alloc o').alloc o2).alloc o3) := ((((Below.refl w.heap.size w).alloc (Nat.le_refl _) o).alloc (by simp) o').alloc (by simp; omega) o2).alloc (by simp; omega) o3
    have := r_put ((h.st (St.refl F w) (Bx.gr F w)).below hb) ((hq.gr (Bx.gr F w)).below hb) (fun k hk => by simp; rcases hk with hk | hk; (have := hF k hk; omega); omega) hl hh
    rw [hv] at this; exact this
  have HN : Hid (m.nx q.pk = { m.base q.pk with ct := up m.ct 2 (m.ct 2 + 1) }) := Lib.hid (by unfold AM.nx; rw [hv])
  have HBC : Hid ((m.base q.pk).ct = m.ct) := Lib.hid (by unfold AM.base; (repeat' split) <;> rfl)
  rw [HN.out]
  have hw : IntKind.i64.wrap (m.ct 2 + 1) = m.ct 2 + 1 := by have := hct 2; rw [IntKind.wrap_i64]; omega
  generalize m.base q.pk = mb at *
  generalize m.out q.pk = xo at *
  clear h hq hF hl hh hct hv HN
  go_enter Try.func44, Try.ntmps44
  go_wp2_with fail
  refine (HP.out _ _ _ _).mono ?_
  rintro e w1 ⟨r', q', rfl, hr1, hk1, hq1, hb1⟩
  obtain ⟨h2, h3, h4, h6, hc⟩ := new4 hb1
  have HK := Lib.hid hk1
  have hba := (Below.refl w1.heap.size w1).alloc (Nat.le_refl _) (.cells (List.toArray [.int .i64 0, .int .i64 0, .int .i64 0, .int .i64 0, .int .i64 0, .int .i64 0, .int .i64 0, .int .i64 0, .slice none 0 0]) 65)
  have h2a := h2.below hba
  have h8a := Bk.new w1 65 [.int .i64 0, .int .i64 0, .int .i64 0, .int .i64 0, .int .i64 0, .int .i64 0, .int .i64 0, .int .i64 0, .slice none 0 0]
  have HG8 := Lib.hid h6.lt
  have HR1 := Lib.hid (hr1.st (St.refl _ _) (gr_box (Bx F w) (Nat.le_refl w1.heap.size)))
  have HQ1 := Lib.hid (hq1.gr (gr_box (Bx F w) (Nat.le_refl w1.heap.size)))
  have H4 := Lib.hid (h4.below hba)
  have H6 := Lib.hid (h6.below hba)
  have HCa := Lib.hid (hc.alloc hc.size (.cells (List.toArray [.int .i64 0, .int .i64 0, .int .i64 0, .int .i64 0, .int .i64 0, .int .i64 0, .int .i64 0, .int .i64 0, .slice none 0 0]) 65))
  have hg8 := h6.lt
  have HBA := Lib.hid hba
  have HCV : Hid (mb.ct 2 = m.ct 2) := Lib.hid (by rw [HBC.out])
  clear hk1 hb1 h3 h4 h6 hc hr1 hq1 h2 hba HP
  go_wp2_with (first
    | (with_reducible refine at_store 76 (.tmp 2) (.tmp 13) (by rfl) ?_; refine wpList_put_rp rowR rfl (.tmp 2) (.tmp 13) rfl w.heap.size rfl h2a rfl r' mb rfl ?_; rintro w2 h22 hw2; have h82 := h8a.wr hw2 (by omega))
    | (with_reducible refine at_store 65 (.tmp 8) (.tmp 15) (by rfl) ?_; refine wpList_put_pk rowP rfl (.tmp 8) (.tmp 15) rfl w1.heap.size rfl h82 rfl q' rfl ?_; rintro w3 h83 hw3
       have h23 := h22.wr hw3 (by omega)
       have cv := h23.cell 8 rfl
       have fv := h23.free 8
       rw [HCV.out] at cv
       have HS3 : Hid (St (fun k => Bx F w k ∨ k = w1.heap.size) (w1.alloc (.cells (List.toArray [.int .i64 0, .int .i64 0, .int .i64 0, .int .i64 0, .int .i64 0, .int .i64 0, .int .i64 0, .int .i64 0, .slice none 0 0]) 65)) w3) := Lib.hid (((wr_bx (F := F) (w := w) (by omega) hw2).mono fun k _ hk => .inl hk).trans (St.mono (F := (· = w1.heap.size)) ⟨hw3.os, hw3.tape, hw3.output, hw3.size, fun k hk hn => hw3.block k hk (by intro e; injection e with e; exact hn e)⟩ (fun k _ hk => .inr hk)) (Gr.refl _ _))
       have H43 := Lib.hid ((H4.out.wr hw2 (by omega)).wr hw3 (by omega))
       have H63 := Lib.hid ((H6.out.wr hw2 (by omega)).wr hw3 (by omega))
       have HC3 := Lib.hid ((HCa.out.trans (hw2.below (Nat.le_refl _) HCa.out.size)).trans (hw3.below (by omega) (Nat.le_trans HCa.out.size hw2.size)))))
  have HC2 : Hid (Bk (w3.setCell ⟨w.heap.size, 8, none⟩ (.int .i64 (m.ct 2 + 1))) 76 w.heap.size (RV.cl r' { mb with ct := up m.ct 2 (m.ct 2 + 1) })) := Lib.hid (by have := h23.set 8 (.int .i64 (m.ct 2 + 1)); rw [show (RV.cl r' mb).set 8 (.int .i64 (m.ct 2 + 1)) = RV.cl r' { mb with ct := up mb.ct 2 (m.ct 2 + 1) } from rfl, HBC.out] at this; exact this)
  have hwv := Wr.set w3 w.heap.size 8 (.int .i64 (m.ct 2 + 1))
  have HC8 := Lib.hid (h83.wr hwv (by omega))
  have HC4 := Lib.hid (H43.out.wr hwv (by omega))
  have HC6 := Lib.hid (H63.out.wr hwv (by omega))
  have HCS := Lib.hid (HS3.out.trans ((wr_bx (F := F) (w := w) (by omega) hwv).mono fun k _ hk => .inl hk) (Gr.refl _ _))
  have HCB := Lib.hid (HC3.out.trans (hwv.below (Nat.le_refl _) HC3.out.size))
  have hrr : RpR (fun k => Bx F w k ∨ k = w1.heap.size) _ r' { mb with ct := up m.ct 2 (m.ct 2 + 1) } := ⟨(HR1.out.below HBA.out).lo.st HCS.out (Gr.refl _ _), (HR1.out.below HBA.out).hi.st HCS.out (Gr.refl _ _)⟩
  have HCR := Lib.hid hrr
  have HCQ := Lib.hid ((HQ1.out.below HBA.out).st HCS.out (Gr.refl _ _))
  clear h2a h8a h22 h82 h83 h23 hwv hrr cv fv hg8
  refine wp_region_E (St (Bt w)) (by kernel_rfl) (fun wd hbd hsz => ?_)
  have HE2 := Lib.hid (HC2.out.below hbd)
  have HE8 := Lib.hid (HC8.out.below hbd)
  have HE4 := Lib.hid (HC4.out.below hbd)
  have HE6 := Lib.hid (HC6.out.below hbd)
  have HRE := Lib.hid (HCR.out.below hbd)
  have HQE := Lib.hid (HCQ.out.below hbd)
  have HBE := Lib.hid (below_on HCB.out hbd)
  have bt8 : ¬ Bt w w1.heap.size := by unfold Bt; have := HG8.out; omega
  clear hsz
  (refine takeE (St.tr (Bt w)) 0 (by simp only [List.getElem?_toArray, List.getElem?_cons_succ, List.getElem?_cons_zero]; rfl) (by kernel_rfl) (by kernel_rfl) (by kernel_rfl) (by exact fun _ _ _ h => h) (by first | (refine Or.inl ⟨by rfl, ?_⟩; intro W hW; exact exec_load_bk rowR (.tmp 2) rfl w.heap.size 0 rfl (HE2.out.st hW bt0) (RV.cl r' { mb with ct := up m.ct 2 (m.ct 2 + 1) }) rfl rfl) | exact Or.inr ⟨by rfl, rfl⟩) ?_; try simp only [Act.put, List.setIfInBounds_toArray, List.set_cons_zero, List.set_cons_succ])
  (refine takeE (St.tr (Bt w)) 1 (by simp only [List.getElem?_toArray, List.getElem?_cons_succ, List.getElem?_cons_zero]; rfl) (by kernel_rfl) (by kernel_rfl) (by kernel_rfl) (by exact fun _ _ _ h => h) (by first | (refine Or.inl ⟨by rfl, ?_⟩; intro W hW; go_simp; try with_reducible rfl) | exact Or.inr ⟨by rfl, rfl⟩) ?_; try simp only [Act.put, List.setIfInBounds_toArray, List.set_cons_zero, List.set_cons_succ])
  (refine takeE (St.tr (Bt w)) 2 (by simp only [List.getElem?_toArray, List.getElem?_cons_succ, List.getElem?_cons_zero]; rfl) (by kernel_rfl) (by kernel_rfl) (by kernel_rfl) (by exact fun _ _ _ h => h) (by first | (refine Or.inl ⟨by rfl, ?_⟩; intro W hW; exact exec_load_bk rowP (.tmp 8) rfl w1.heap.size 0 rfl (HE8.out.st hW bt8) q'.cl rfl rfl) | exact Or.inr ⟨by rfl, rfl⟩) ?_; try simp only [Act.put, List.setIfInBounds_toArray, List.set_cons_zero, List.set_cons_succ])
  refine wpAnyE_one (i := 3) (by kernel_rfl) (by simp only [List.getElem?_toArray, List.getElem?_cons_succ, List.getElem?_cons_zero]; rfl) (fun K hK => ?_)
  refine opwp_store_bk rowR rfl (.tmp 4) (.tmp 24) rfl (w.heap.size + 2) 0 rfl HE4.out (RV.cl r' { mb with ct := up m.ct 2 (m.ct 2 + 1) }) rfl rfl (by decide) (RV.cl_one _ _) ?_
  intro w5 h45 hw5
  rw [lay_all _ _ (by rfl)] at h45
  have HW5 := Lib.hid hw5
  have H45 := Lib.hid h45
  have H65 := Lib.hid (HE6.out.wr hw5 (by omega))
  have HZ5 := Lib.hid (show St (Bt w) wd w5 from wr_bt (by omega) hw5)
  refine hK.out _ _ HZ5.out ?_
  clear hK K
  try simp only [Act.put, List.setIfInBounds_toArray, List.set_cons_zero, List.set_cons_succ]
  (refine takeE (St.tr (Bt w)) 4 (by simp only [List.getElem?_toArray, List.getElem?_cons_succ, List.getElem?_cons_zero]; rfl) (by kernel_rfl) (by kernel_rfl) (by kernel_rfl) (by exact fun _ _ _ h => h) (by first | (refine Or.inl ⟨by rfl, ?_⟩; intro W hW; go_simp; try with_reducible rfl) | exact Or.inr ⟨by rfl, rfl⟩) ?_; try simp only [Act.put, List.setIfInBounds_toArray, List.set_cons_zero, List.set_cons_succ])
  refine wpAnyE_one (i := 5) (by kernel_rfl) (by simp only [List.getElem?_toArray, List.getElem?_cons_succ, List.getElem?_cons_zero]; rfl) (fun K hK => ?_)
  refine opwp_store_bk rowP rfl (.tmp 6) (.tmp 26) rfl (w.heap.size + 3) 0 rfl H65.out q'.cl rfl rfl (by decide) (Pv.cl_one _) ?_
  intro w6 h66 hw6
  rw [lay_all _ _ (by rfl)] at h66
  have HW6 := Lib.hid hw6
  have H66 := Lib.hid h66
  have H46 := Lib.hid (H45.out.wr hw6 (by omega))
  refine hK.out _ _ (wr_bt (by omega) hw6) ?_
  clear hK K
  try simp only [Act.put, List.setIfInBounds_toArray, List.set_cons_zero, List.set_cons_succ]
  refine wpAnyE_done (by kernel_rfl) ?_ _
  go_wp2
  have HSF : Hid (St (Bt w) wd w6) := Lib.hid (HZ5.out.trans (wr_bt (by omega) HW6.out) (Gr.refl _ _))
  have hsf2 : St (fun k => Bx F w k ∨ k = w1.heap.size) wd w6 := HSF.out.mono fun k _ hk => .inl (.inr (by unfold Bt at hk; omega))
  refine bodyPost_ret (results_ctc rfl rfl rfl (rowR.load H46.out 0 (cs := RV.cl r' { mb with ct := up m.ct 2 (m.ct 2 + 1) }) rfl rfl) (load_pk rowP H66.out)) rfl ?_
  exact ⟨r', q', by kernel_rfl, (HRE.out.st hsf2 (Gr.refl _ _)).mono fun k hk => .inl (.inl hk), HK.out, (HQE.out.st hsf2 (Gr.refl _ _)).mono fun k hk => .inl (.inl hk), (HBE.out.trans (HW5.out.below (by omega) HBE.out.size)).trans (HW6.out.below (by omega) (Nat.le_trans HBE.out.size HW5.out.size))⟩
set_option maxHeartbeats 4000000 in
set_option maxRecDepth 100000 in
theorem r_Put3 (h : RpR F w r m) (hq : PvR F w q) (hF : ∀ k, F k → k < w.heap.size) (hl : m.low.length ≤ 1024) (hh : m.high.length ≤ 1024) (hct : ∀ k, -1 ≤ m.ct k ∧ m.ct k ≤ 1000000) (hv : m.vd q.pk = 3) :
    Calls Try.prog 44 #[.agg #[.slice r.a1 r.n1 r.c1, .slice r.a2 r.n2 r.c2, .int .i64 m.lr, .int .i64 m.hr, .int .i64 m.wt, .int .i64 m.run, .int .i64 (m.ct 0), .int .i64 (m.ct 1), .int .i64 (m.ct 2), .int .i64 (m.ct 3), .int .i64 (m.ct 4)], .agg #[.int .i64 q.h.kd, .int .i64 q.h.fl, .int .i64 q.h.pa, .int .i64 q.h.sr, .int .i64 q.h.ds, .int .i64 q.h.cn, .int .i64 q.h.sq, .int .i64 q.h.pu, .slice q.A q.n q.c]] w (RPutTo F w (m.nx q.pk) 3 (m.out q.pk)) := by
  have HP : Hid (∀ o o' o2 o3, Calls Try.prog 60 #[.agg #[.slice r.a1 r.n1 r.c1, .slice r.a2 r.n2 r.c2, .int .i64 m.lr, .int .i64 m.hr, .int .i64 m.wt, .int .i64 m.run, .int .i64 (m.ct 0), .int .i64 (m.ct 1), .int .i64 (m.ct 2), .int .i64 (m.ct 3), .int .i64 (m.ct 4)], .agg #[.int .i64 q.h.kd, .int .i64 q.h.fl, .int .i64 q.h.pa, .int .i64 q.h.sr, .int .i64 q.h.ds, .int .i64 q.h.cn, .int .i64 q.h.sq, .int .i64 q.h.pu, .slice q.A q.n q.c]] ((((w.alloc o).alloc o').alloc o2).alloc o3) (RPutTo (Bx F w) ((((w.alloc o).alloc o').alloc o2).alloc o3) (m.base q.pk) 3 (m.out q.pk))) := Lib.hid fun o o' o2 o3 => by
    have hb : Below w.heap.size w ((((w.alloc o).alloc o').alloc o2).alloc o3) := ((((Below.refl w.heap.size w).alloc (Nat.le_refl _) o).alloc (by simp) o').alloc (by simp; omega) o2).alloc (by simp; omega) o3
    have := r_put ((h.st (St.refl F w) (Bx.gr F w)).below hb) ((hq.gr (Bx.gr F w)).below hb) (fun k hk => by simp; rcases hk with hk | hk; (have := hF k hk; omega); omega) hl hh
    rw [hv] at this; exact this
  have HN : Hid (m.nx q.pk = { m.base q.pk with ct := up m.ct 3 (m.ct 3 + 1) }) := Lib.hid (by unfold AM.nx; rw [hv])
  have HBC : Hid ((m.base q.pk).ct = m.ct) := Lib.hid (by unfold AM.base; (repeat' split) <;> rfl)
  rw [HN.out]
  have hw : IntKind.i64.wrap (m.ct 3 + 1) = m.ct 3 + 1 := by have := hct 3; rw [IntKind.wrap_i64]; omega
  generalize m.base q.pk = mb at *
  generalize m.out q.pk = xo at *
  clear h hq hF hl hh hct hv HN
  go_enter Try.func44, Try.ntmps44
  go_wp2_with fail
  refine (HP.out _ _ _ _).mono ?_
  rintro e w1 ⟨r', q', rfl, hr1, hk1, hq1, hb1⟩
  obtain ⟨h2, h3, h4, h6, hc⟩ := new4 hb1
  have HK := Lib.hid hk1
  have hba := (Below.refl w1.heap.size w1).alloc (Nat.le_refl _) (.cells (List.toArray [.int .i64 0, .int .i64 0, .int .i64 0, .int .i64 0, .int .i64 0, .int .i64 0, .int .i64 0, .int .i64 0, .slice none 0 0]) 65)
  have h2a := h2.below hba
  have h8a := Bk.new w1 65 [.int .i64 0, .int .i64 0, .int .i64 0, .int .i64 0, .int .i64 0, .int .i64 0, .int .i64 0, .int .i64 0, .slice none 0 0]
  have HG8 := Lib.hid h6.lt
  have HR1 := Lib.hid (hr1.st (St.refl _ _) (gr_box (Bx F w) (Nat.le_refl w1.heap.size)))
  have HQ1 := Lib.hid (hq1.gr (gr_box (Bx F w) (Nat.le_refl w1.heap.size)))
  have H4 := Lib.hid (h4.below hba)
  have H6 := Lib.hid (h6.below hba)
  have HCa := Lib.hid (hc.alloc hc.size (.cells (List.toArray [.int .i64 0, .int .i64 0, .int .i64 0, .int .i64 0, .int .i64 0, .int .i64 0, .int .i64 0, .int .i64 0, .slice none 0 0]) 65))
  have hg8 := h6.lt
  have HBA := Lib.hid hba
  have HCV : Hid (mb.ct 3 = m.ct 3) := Lib.hid (by rw [HBC.out])
  clear hk1 hb1 h3 h4 h6 hc hr1 hq1 h2 hba HP
  go_wp2_with (first
    | (with_reducible refine at_store 76 (.tmp 2) (.tmp 13) (by rfl) ?_; refine wpList_put_rp rowR rfl (.tmp 2) (.tmp 13) rfl w.heap.size rfl h2a rfl r' mb rfl ?_; rintro w2 h22 hw2; have h82 := h8a.wr hw2 (by omega))
    | (with_reducible refine at_store 65 (.tmp 8) (.tmp 15) (by rfl) ?_; refine wpList_put_pk rowP rfl (.tmp 8) (.tmp 15) rfl w1.heap.size rfl h82 rfl q' rfl ?_; rintro w3 h83 hw3
       have h23 := h22.wr hw3 (by omega)
       have cv := h23.cell 9 rfl
       have fv := h23.free 9
       rw [HCV.out] at cv
       have HS3 : Hid (St (fun k => Bx F w k ∨ k = w1.heap.size) (w1.alloc (.cells (List.toArray [.int .i64 0, .int .i64 0, .int .i64 0, .int .i64 0, .int .i64 0, .int .i64 0, .int .i64 0, .int .i64 0, .slice none 0 0]) 65)) w3) := Lib.hid (((wr_bx (F := F) (w := w) (by omega) hw2).mono fun k _ hk => .inl hk).trans (St.mono (F := (· = w1.heap.size)) ⟨hw3.os, hw3.tape, hw3.output, hw3.size, fun k hk hn => hw3.block k hk (by intro e; injection e with e; exact hn e)⟩ (fun k _ hk => .inr hk)) (Gr.refl _ _))
       have H43 := Lib.hid ((H4.out.wr hw2 (by omega)).wr hw3 (by omega))
       have H63 := Lib.hid ((H6.out.wr hw2 (by omega)).wr hw3 (by omega))
       have HC3 := Lib.hid ((HCa.out.trans (hw2.below (Nat.le_refl _) HCa.out.size)).trans (hw3.below (by omega) (Nat.le_trans HCa.out.size hw2.size)))))
  have HC2 : Hid (Bk (w3.setCell ⟨w.heap.size, 9, none⟩ (.int .i64 (m.ct 3 + 1))) 76 w.heap.size (RV.cl r' { mb with ct := up m.ct 3 (m.ct 3 + 1) })) := Lib.hid (by have := h23.set 9 (.int .i64 (m.ct 3 + 1)); rw [show (RV.cl r' mb).set 9 (.int .i64 (m.ct 3 + 1)) = RV.cl r' { mb with ct := up mb.ct 3 (m.ct 3 + 1) } from rfl, HBC.out] at this; exact this)
  have hwv := Wr.set w3 w.heap.size 9 (.int .i64 (m.ct 3 + 1))
  have HC8 := Lib.hid (h83.wr hwv (by omega))
  have HC4 := Lib.hid (H43.out.wr hwv (by omega))
  have HC6 := Lib.hid (H63.out.wr hwv (by omega))
  have HCS := Lib.hid (HS3.out.trans ((wr_bx (F := F) (w := w) (by omega) hwv).mono fun k _ hk => .inl hk) (Gr.refl _ _))
  have HCB := Lib.hid (HC3.out.trans (hwv.below (Nat.le_refl _) HC3.out.size))
  have hrr : RpR (fun k => Bx F w k ∨ k = w1.heap.size) _ r' { mb with ct := up m.ct 3 (m.ct 3 + 1) } := ⟨(HR1.out.below HBA.out).lo.st HCS.out (Gr.refl _ _), (HR1.out.below HBA.out).hi.st HCS.out (Gr.refl _ _)⟩
  have HCR := Lib.hid hrr
  have HCQ := Lib.hid ((HQ1.out.below HBA.out).st HCS.out (Gr.refl _ _))
  clear h2a h8a h22 h82 h83 h23 hwv hrr cv fv hg8
  refine wp_region_E (St (Bt w)) (by kernel_rfl) (fun wd hbd hsz => ?_)
  have HE2 := Lib.hid (HC2.out.below hbd)
  have HE8 := Lib.hid (HC8.out.below hbd)
  have HE4 := Lib.hid (HC4.out.below hbd)
  have HE6 := Lib.hid (HC6.out.below hbd)
  have HRE := Lib.hid (HCR.out.below hbd)
  have HQE := Lib.hid (HCQ.out.below hbd)
  have HBE := Lib.hid (below_on HCB.out hbd)
  have bt8 : ¬ Bt w w1.heap.size := by unfold Bt; have := HG8.out; omega
  clear hsz
  (refine takeE (St.tr (Bt w)) 0 (by simp only [List.getElem?_toArray, List.getElem?_cons_succ, List.getElem?_cons_zero]; rfl) (by kernel_rfl) (by kernel_rfl) (by kernel_rfl) (by exact fun _ _ _ h => h) (by first | (refine Or.inl ⟨by rfl, ?_⟩; intro W hW; exact exec_load_bk rowR (.tmp 2) rfl w.heap.size 0 rfl (HE2.out.st hW bt0) (RV.cl r' { mb with ct := up m.ct 3 (m.ct 3 + 1) }) rfl rfl) | exact Or.inr ⟨by rfl, rfl⟩) ?_; try simp only [Act.put, List.setIfInBounds_toArray, List.set_cons_zero, List.set_cons_succ])
  (refine takeE (St.tr (Bt w)) 1 (by simp only [List.getElem?_toArray, List.getElem?_cons_succ, List.getElem?_cons_zero]; rfl) (by kernel_rfl) (by kernel_rfl) (by kernel_rfl) (by exact fun _ _ _ h => h) (by first | (refine Or.inl ⟨by rfl, ?_⟩; intro W hW; go_simp; try with_reducible rfl) | exact Or.inr ⟨by rfl, rfl⟩) ?_; try simp only [Act.put, List.setIfInBounds_toArray, List.set_cons_zero, List.set_cons_succ])
  (refine takeE (St.tr (Bt w)) 2 (by simp only [List.getElem?_toArray, List.getElem?_cons_succ, List.getElem?_cons_zero]; rfl) (by kernel_rfl) (by kernel_rfl) (by kernel_rfl) (by exact fun _ _ _ h => h) (by first | (refine Or.inl ⟨by rfl, ?_⟩; intro W hW; exact exec_load_bk rowP (.tmp 8) rfl w1.heap.size 0 rfl (HE8.out.st hW bt8) q'.cl rfl rfl) | exact Or.inr ⟨by rfl, rfl⟩) ?_; try simp only [Act.put, List.setIfInBounds_toArray, List.set_cons_zero, List.set_cons_succ])
  refine wpAnyE_one (i := 3) (by kernel_rfl) (by simp only [List.getElem?_toArray, List.getElem?_cons_succ, List.getElem?_cons_zero]; rfl) (fun K hK => ?_)
  refine opwp_store_bk rowR rfl (.tmp 4) (.tmp 24) rfl (w.heap.size + 2) 0 rfl HE4.out (RV.cl r' { mb with ct := up m.ct 3 (m.ct 3 + 1) }) rfl rfl (by decide) (RV.cl_one _ _) ?_
  intro w5 h45 hw5
  rw [lay_all _ _ (by rfl)] at h45
  have HW5 := Lib.hid hw5
  have H45 := Lib.hid h45
  have H65 := Lib.hid (HE6.out.wr hw5 (by omega))
  have HZ5 := Lib.hid (show St (Bt w) wd w5 from wr_bt (by omega) hw5)
  refine hK.out _ _ HZ5.out ?_
  clear hK K
  try simp only [Act.put, List.setIfInBounds_toArray, List.set_cons_zero, List.set_cons_succ]
  (refine takeE (St.tr (Bt w)) 4 (by simp only [List.getElem?_toArray, List.getElem?_cons_succ, List.getElem?_cons_zero]; rfl) (by kernel_rfl) (by kernel_rfl) (by kernel_rfl) (by exact fun _ _ _ h => h) (by first | (refine Or.inl ⟨by rfl, ?_⟩; intro W hW; go_simp; try with_reducible rfl) | exact Or.inr ⟨by rfl, rfl⟩) ?_; try simp only [Act.put, List.setIfInBounds_toArray, List.set_cons_zero, List.set_cons_succ])
  refine wpAnyE_one (i := 5) (by kernel_rfl) (by simp only [List.getElem?_toArray, List.getElem?_cons_succ, List.getElem?_cons_zero]; rfl) (fun K hK => ?_)
  refine opwp_store_bk rowP rfl (.tmp 6) (.tmp 26) rfl (w.heap.size + 3) 0 rfl H65.out q'.cl rfl rfl (by decide) (Pv.cl_one _) ?_
  intro w6 h66 hw6
  rw [lay_all _ _ (by rfl)] at h66
  have HW6 := Lib.hid hw6
  have H66 := Lib.hid h66
  have H46 := Lib.hid (H45.out.wr hw6 (by omega))
  refine hK.out _ _ (wr_bt (by omega) hw6) ?_
  clear hK K
  try simp only [Act.put, List.setIfInBounds_toArray, List.set_cons_zero, List.set_cons_succ]
  refine wpAnyE_done (by kernel_rfl) ?_ _
  go_wp2
  have HSF : Hid (St (Bt w) wd w6) := Lib.hid (HZ5.out.trans (wr_bt (by omega) HW6.out) (Gr.refl _ _))
  have hsf2 : St (fun k => Bx F w k ∨ k = w1.heap.size) wd w6 := HSF.out.mono fun k _ hk => .inl (.inr (by unfold Bt at hk; omega))
  refine bodyPost_ret (results_ctc rfl rfl rfl (rowR.load H46.out 0 (cs := RV.cl r' { mb with ct := up m.ct 3 (m.ct 3 + 1) }) rfl rfl) (load_pk rowP H66.out)) rfl ?_
  exact ⟨r', q', by kernel_rfl, (HRE.out.st hsf2 (Gr.refl _ _)).mono fun k hk => .inl (.inl hk), HK.out, (HQE.out.st hsf2 (Gr.refl _ _)).mono fun k hk => .inl (.inl hk), (HBE.out.trans (HW5.out.below (by omega) HBE.out.size)).trans (HW6.out.below (by omega) (Nat.le_trans HBE.out.size HW5.out.size))⟩
set_option maxHeartbeats 4000000 in
set_option maxRecDepth 100000 in
theorem r_Put4 (h : RpR F w r m) (hq : PvR F w q) (hF : ∀ k, F k → k < w.heap.size) (hl : m.low.length ≤ 1024) (hh : m.high.length ≤ 1024) (hct : ∀ k, -1 ≤ m.ct k ∧ m.ct k ≤ 1000000) (hv : m.vd q.pk = 4) :
    Calls Try.prog 44 #[.agg #[.slice r.a1 r.n1 r.c1, .slice r.a2 r.n2 r.c2, .int .i64 m.lr, .int .i64 m.hr, .int .i64 m.wt, .int .i64 m.run, .int .i64 (m.ct 0), .int .i64 (m.ct 1), .int .i64 (m.ct 2), .int .i64 (m.ct 3), .int .i64 (m.ct 4)], .agg #[.int .i64 q.h.kd, .int .i64 q.h.fl, .int .i64 q.h.pa, .int .i64 q.h.sr, .int .i64 q.h.ds, .int .i64 q.h.cn, .int .i64 q.h.sq, .int .i64 q.h.pu, .slice q.A q.n q.c]] w (RPutTo F w (m.nx q.pk) 4 (m.out q.pk)) := by
  have HP : Hid (∀ o o' o2 o3, Calls Try.prog 60 #[.agg #[.slice r.a1 r.n1 r.c1, .slice r.a2 r.n2 r.c2, .int .i64 m.lr, .int .i64 m.hr, .int .i64 m.wt, .int .i64 m.run, .int .i64 (m.ct 0), .int .i64 (m.ct 1), .int .i64 (m.ct 2), .int .i64 (m.ct 3), .int .i64 (m.ct 4)], .agg #[.int .i64 q.h.kd, .int .i64 q.h.fl, .int .i64 q.h.pa, .int .i64 q.h.sr, .int .i64 q.h.ds, .int .i64 q.h.cn, .int .i64 q.h.sq, .int .i64 q.h.pu, .slice q.A q.n q.c]] ((((w.alloc o).alloc o').alloc o2).alloc o3) (RPutTo (Bx F w) ((((w.alloc o).alloc o').alloc o2).alloc o3) (m.base q.pk) 4 (m.out q.pk))) := Lib.hid fun o o' o2 o3 => by
    have hb : Below w.heap.size w ((((w.alloc o).alloc o').alloc o2).alloc o3) := ((((Below.refl w.heap.size w).alloc (Nat.le_refl _) o).alloc (by simp) o').alloc (by simp; omega) o2).alloc (by simp; omega) o3
    have := r_put ((h.st (St.refl F w) (Bx.gr F w)).below hb) ((hq.gr (Bx.gr F w)).below hb) (fun k hk => by simp; rcases hk with hk | hk; (have := hF k hk; omega); omega) hl hh
    rw [hv] at this; exact this
  have HN : Hid (m.nx q.pk = { m.base q.pk with ct := up m.ct 4 (m.ct 4 + 1) }) := Lib.hid (by unfold AM.nx; rw [hv])
  have HBC : Hid ((m.base q.pk).ct = m.ct) := Lib.hid (by unfold AM.base; (repeat' split) <;> rfl)
  rw [HN.out]
  have hw : IntKind.i64.wrap (m.ct 4 + 1) = m.ct 4 + 1 := by have := hct 4; rw [IntKind.wrap_i64]; omega
  generalize m.base q.pk = mb at *
  generalize m.out q.pk = xo at *
  clear h hq hF hl hh hct hv HN
  go_enter Try.func44, Try.ntmps44
  go_wp2_with fail
  refine (HP.out _ _ _ _).mono ?_
  rintro e w1 ⟨r', q', rfl, hr1, hk1, hq1, hb1⟩
  obtain ⟨h2, h3, h4, h6, hc⟩ := new4 hb1
  have HK := Lib.hid hk1
  have hba := (Below.refl w1.heap.size w1).alloc (Nat.le_refl _) (.cells (List.toArray [.int .i64 0, .int .i64 0, .int .i64 0, .int .i64 0, .int .i64 0, .int .i64 0, .int .i64 0, .int .i64 0, .slice none 0 0]) 65)
  have h2a := h2.below hba
  have h8a := Bk.new w1 65 [.int .i64 0, .int .i64 0, .int .i64 0, .int .i64 0, .int .i64 0, .int .i64 0, .int .i64 0, .int .i64 0, .slice none 0 0]
  have HG8 := Lib.hid h6.lt
  have HR1 := Lib.hid (hr1.st (St.refl _ _) (gr_box (Bx F w) (Nat.le_refl w1.heap.size)))
  have HQ1 := Lib.hid (hq1.gr (gr_box (Bx F w) (Nat.le_refl w1.heap.size)))
  have H4 := Lib.hid (h4.below hba)
  have H6 := Lib.hid (h6.below hba)
  have HCa := Lib.hid (hc.alloc hc.size (.cells (List.toArray [.int .i64 0, .int .i64 0, .int .i64 0, .int .i64 0, .int .i64 0, .int .i64 0, .int .i64 0, .int .i64 0, .slice none 0 0]) 65))
  have hg8 := h6.lt
  have HBA := Lib.hid hba
  have HCV : Hid (mb.ct 4 = m.ct 4) := Lib.hid (by rw [HBC.out])
  clear hk1 hb1 h3 h4 h6 hc hr1 hq1 h2 hba HP
  go_wp2_with (first
    | (with_reducible refine at_store 76 (.tmp 2) (.tmp 13) (by rfl) ?_; refine wpList_put_rp rowR rfl (.tmp 2) (.tmp 13) rfl w.heap.size rfl h2a rfl r' mb rfl ?_; rintro w2 h22 hw2; have h82 := h8a.wr hw2 (by omega))
    | (with_reducible refine at_store 65 (.tmp 8) (.tmp 15) (by rfl) ?_; refine wpList_put_pk rowP rfl (.tmp 8) (.tmp 15) rfl w1.heap.size rfl h82 rfl q' rfl ?_; rintro w3 h83 hw3
       have h23 := h22.wr hw3 (by omega)
       have cv := h23.cell 10 rfl
       have fv := h23.free 10
       rw [HCV.out] at cv
       have HS3 : Hid (St (fun k => Bx F w k ∨ k = w1.heap.size) (w1.alloc (.cells (List.toArray [.int .i64 0, .int .i64 0, .int .i64 0, .int .i64 0, .int .i64 0, .int .i64 0, .int .i64 0, .int .i64 0, .slice none 0 0]) 65)) w3) := Lib.hid (((wr_bx (F := F) (w := w) (by omega) hw2).mono fun k _ hk => .inl hk).trans (St.mono (F := (· = w1.heap.size)) ⟨hw3.os, hw3.tape, hw3.output, hw3.size, fun k hk hn => hw3.block k hk (by intro e; injection e with e; exact hn e)⟩ (fun k _ hk => .inr hk)) (Gr.refl _ _))
       have H43 := Lib.hid ((H4.out.wr hw2 (by omega)).wr hw3 (by omega))
       have H63 := Lib.hid ((H6.out.wr hw2 (by omega)).wr hw3 (by omega))
       have HC3 := Lib.hid ((HCa.out.trans (hw2.below (Nat.le_refl _) HCa.out.size)).trans (hw3.below (by omega) (Nat.le_trans HCa.out.size hw2.size)))))
  have HC2 : Hid (Bk (w3.setCell ⟨w.heap.size, 10, none⟩ (.int .i64 (m.ct 4 + 1))) 76 w.heap.size (RV.cl r' { mb with ct := up m.ct 4 (m.ct 4 + 1) })) := Lib.hid (by have := h23.set 10 (.int .i64 (m.ct 4 + 1)); rw [show (RV.cl r' mb).set 10 (.int .i64 (m.ct 4 + 1)) = RV.cl r' { mb with ct := up mb.ct 4 (m.ct 4 + 1) } from rfl, HBC.out] at this; exact this)
  have hwv := Wr.set w3 w.heap.size 10 (.int .i64 (m.ct 4 + 1))
  have HC8 := Lib.hid (h83.wr hwv (by omega))
  have HC4 := Lib.hid (H43.out.wr hwv (by omega))
  have HC6 := Lib.hid (H63.out.wr hwv (by omega))
  have HCS := Lib.hid (HS3.out.trans ((wr_bx (F := F) (w := w) (by omega) hwv).mono fun k _ hk => .inl hk) (Gr.refl _ _))
  have HCB := Lib.hid (HC3.out.trans (hwv.below (Nat.le_refl _) HC3.out.size))
  have hrr : RpR (fun k => Bx F w k ∨ k = w1.heap.size) _ r' { mb with ct := up m.ct 4 (m.ct 4 + 1) } := ⟨(HR1.out.below HBA.out).lo.st HCS.out (Gr.refl _ _), (HR1.out.below HBA.out).hi.st HCS.out (Gr.refl _ _)⟩
  have HCR := Lib.hid hrr
  have HCQ := Lib.hid ((HQ1.out.below HBA.out).st HCS.out (Gr.refl _ _))
  clear h2a h8a h22 h82 h83 h23 hwv hrr cv fv hg8
  refine wp_region_E (St (Bt w)) (by kernel_rfl) (fun wd hbd hsz => ?_)
  have HE2 := Lib.hid (HC2.out.below hbd)
  have HE8 := Lib.hid (HC8.out.below hbd)
  have HE4 := Lib.hid (HC4.out.below hbd)
  have HE6 := Lib.hid (HC6.out.below hbd)
  have HRE := Lib.hid (HCR.out.below hbd)
  have HQE := Lib.hid (HCQ.out.below hbd)
  have HBE := Lib.hid (below_on HCB.out hbd)
  have bt8 : ¬ Bt w w1.heap.size := by unfold Bt; have := HG8.out; omega
  clear hsz
  (refine takeE (St.tr (Bt w)) 0 (by simp only [List.getElem?_toArray, List.getElem?_cons_succ, List.getElem?_cons_zero]; rfl) (by kernel_rfl) (by kernel_rfl) (by kernel_rfl) (by exact fun _ _ _ h => h) (by first | (refine Or.inl ⟨by rfl, ?_⟩; intro W hW; exact exec_load_bk rowR (.tmp 2) rfl w.heap.size 0 rfl (HE2.out.st hW bt0) (RV.cl r' { mb with ct := up m.ct 4 (m.ct 4 + 1) }) rfl rfl) | exact Or.inr ⟨by rfl, rfl⟩) ?_; try simp only [Act.put, List.setIfInBounds_toArray, List.set_cons_zero, List.set_cons_succ])
  (refine takeE (St.tr (Bt w)) 1 (by simp only [List.getElem?_toArray, List.getElem?_cons_succ, List.getElem?_cons_zero]; rfl) (by kernel_rfl) (by kernel_rfl) (by kernel_rfl) (by exact fun _ _ _ h => h) (by first | (refine Or.inl ⟨by rfl, ?_⟩; intro W hW; go_simp; try with_reducible rfl) | exact Or.inr ⟨by rfl, rfl⟩) ?_; try simp only [Act.put, List.setIfInBounds_toArray, List.set_cons_zero, List.set_cons_succ])
  (refine takeE (St.tr (Bt w)) 2 (by simp only [List.getElem?_toArray, List.getElem?_cons_succ, List.getElem?_cons_zero]; rfl) (by kernel_rfl) (by kernel_rfl) (by kernel_rfl) (by exact fun _ _ _ h => h) (by first | (refine Or.inl ⟨by rfl, ?_⟩; intro W hW; exact exec_load_bk rowP (.tmp 8) rfl w1.heap.size 0 rfl (HE8.out.st hW bt8) q'.cl rfl rfl) | exact Or.inr ⟨by rfl, rfl⟩) ?_; try simp only [Act.put, List.setIfInBounds_toArray, List.set_cons_zero, List.set_cons_succ])
  refine wpAnyE_one (i := 3) (by kernel_rfl) (by simp only [List.getElem?_toArray, List.getElem?_cons_succ, List.getElem?_cons_zero]; rfl) (fun K hK => ?_)
  refine opwp_store_bk rowR rfl (.tmp 4) (.tmp 24) rfl (w.heap.size + 2) 0 rfl HE4.out (RV.cl r' { mb with ct := up m.ct 4 (m.ct 4 + 1) }) rfl rfl (by decide) (RV.cl_one _ _) ?_
  intro w5 h45 hw5
  rw [lay_all _ _ (by rfl)] at h45
  have HW5 := Lib.hid hw5
  have H45 := Lib.hid h45
  have H65 := Lib.hid (HE6.out.wr hw5 (by omega))
  have HZ5 := Lib.hid (show St (Bt w) wd w5 from wr_bt (by omega) hw5)
  refine hK.out _ _ HZ5.out ?_
  clear hK K
  try simp only [Act.put, List.setIfInBounds_toArray, List.set_cons_zero, List.set_cons_succ]
  (refine takeE (St.tr (Bt w)) 4 (by simp only [List.getElem?_toArray, List.getElem?_cons_succ, List.getElem?_cons_zero]; rfl) (by kernel_rfl) (by kernel_rfl) (by kernel_rfl) (by exact fun _ _ _ h => h) (by first | (refine Or.inl ⟨by rfl, ?_⟩; intro W hW; go_simp; try with_reducible rfl) | exact Or.inr ⟨by rfl, rfl⟩) ?_; try simp only [Act.put, List.setIfInBounds_toArray, List.set_cons_zero, List.set_cons_succ])
  refine wpAnyE_one (i := 5) (by kernel_rfl) (by simp only [List.getElem?_toArray, List.getElem?_cons_succ, List.getElem?_cons_zero]; rfl) (fun K hK => ?_)
  refine opwp_store_bk rowP rfl (.tmp 6) (.tmp 26) rfl (w.heap.size + 3) 0 rfl H65.out q'.cl rfl rfl (by decide) (Pv.cl_one _) ?_
  intro w6 h66 hw6
  rw [lay_all _ _ (by rfl)] at h66
  have HW6 := Lib.hid hw6
  have H66 := Lib.hid h66
  have H46 := Lib.hid (H45.out.wr hw6 (by omega))
  refine hK.out _ _ (wr_bt (by omega) hw6) ?_
  clear hK K
  try simp only [Act.put, List.setIfInBounds_toArray, List.set_cons_zero, List.set_cons_succ]
  refine wpAnyE_done (by kernel_rfl) ?_ _
  go_wp2
  have HSF : Hid (St (Bt w) wd w6) := Lib.hid (HZ5.out.trans (wr_bt (by omega) HW6.out) (Gr.refl _ _))
  have hsf2 : St (fun k => Bx F w k ∨ k = w1.heap.size) wd w6 := HSF.out.mono fun k _ hk => .inl (.inr (by unfold Bt at hk; omega))
  refine bodyPost_ret (results_ctc rfl rfl rfl (rowR.load H46.out 0 (cs := RV.cl r' { mb with ct := up m.ct 4 (m.ct 4 + 1) }) rfl rfl) (load_pk rowP H66.out)) rfl ?_
  exact ⟨r', q', by kernel_rfl, (HRE.out.st hsf2 (Gr.refl _ _)).mono fun k hk => .inl (.inl hk), HK.out, (HQE.out.st hsf2 (Gr.refl _ _)).mono fun k hk => .inl (.inl hk), (HBE.out.trans (HW5.out.below (by omega) HBE.out.size)).trans (HW6.out.below (by omega) (Nat.le_trans HBE.out.size HW5.out.size))⟩
theorem r_Put (h : RpR F w r m) (hq : PvR F w q) (hF : ∀ k, F k → k < w.heap.size) (hl : m.low.length ≤ 1024) (hh : m.high.length ≤ 1024) (hct : ∀ k, -1 ≤ m.ct k ∧ m.ct k ≤ 1000000) :
    Calls Try.prog 44 #[.agg #[.slice r.a1 r.n1 r.c1, .slice r.a2 r.n2 r.c2, .int .i64 m.lr, .int .i64 m.hr, .int .i64 m.wt, .int .i64 m.run, .int .i64 (m.ct 0), .int .i64 (m.ct 1), .int .i64 (m.ct 2), .int .i64 (m.ct 3), .int .i64 (m.ct 4)], .agg #[.int .i64 q.h.kd, .int .i64 q.h.fl, .int .i64 q.h.pa, .int .i64 q.h.sr, .int .i64 q.h.ds, .int .i64 q.h.cn, .int .i64 q.h.sq, .int .i64 q.h.pu, .slice q.A q.n q.c]] w (RPutTo F w (m.nx q.pk) (m.vd q.pk) (m.out q.pk)) := by
  rcases m.vd_cases q.pk with hv | hv | hv | hv
  · rw [hv]; exact r_Put1 h hq hF hl hh hct hv
  · rw [hv]; exact r_Put2 h hq hF hl hh hct hv
  · rw [hv]; exact r_Put3 h hq hF hl hh hct hv
  · rw [hv]; exact r_Put4 h hq hF hl hh hct hv
end
end Go.Proofs.Ytboclbanccfbjaa
