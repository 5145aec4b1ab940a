/- The reference: Put, whole. -/
import Derived.Test.YtcmakhkbkfkhkaaP19
set_option linter.unusedSimpArgs false
set_option linter.unusedVariables false
namespace Go.Proofs.Ytcmakhkbkfkhkaa
open Go.RowKit Go.Shelf
section
variable {F : Nat → Prop} {w W W' : World} {r : RV} {m : AM} {q : Pv}
theorem r_put (h : RpR F w r m) (hq : PvR F w q) (hF : ∀ k, F k → k < w.heap.size) (hl : m.low.length ≤ 1024) (hh : m.high.length ≤ 1024) :
    Calls Try.prog 41 #[.agg #[.slice r.a1 r.n1 r.c1, .slice r.a2 r.n2 r.c2, .int .i64 m.lr, .int .i64 m.hr, .int .i64 m.wt, .int .i64 m.run, .int .i64 (m.ct 0), .int .i64 (m.ct 1), .int .i64 (m.ct 2), .int .i64 (m.ct 3), .int .i64 (m.ct 4)], .agg #[.int .i64 q.h.kd, .int .i64 q.h.fl, .int .i64 q.h.pa, .int .i64 q.h.sr, .int .i64 q.h.ds, .int .i64 q.h.cn, .int .i64 q.h.sq, .int .i64 q.h.pu, .slice q.A q.n q.c]] w (RPutTo F w (m.base q.pk) (m.vd q.pk) (m.out q.pk)) := by
  cases hc : q.pk.chk with
  | false => exact r_putA h hq hF hc
  | true =>
    by_cases hk : q.h.kd = 1
    · by_cases hn : 0 < q.n
      · by_cases hr : m.low.length < m.lr
        · exact r_putB h hq hF hl hh hc hk hn hr
        · by_cases hr2 : m.high.length < m.hr
          · exact r_putC h hq hF hl hh hc hk hn hr hr2
          · cases h16 : hasB q.h.fl 16 with
            | true => exact r_putD h hq hF hl hh hc hk hn hr hr2 h16
            | false => exact r_putE h hq hF hl hh hc hk hn hr hr2 h16
      · have hn0 : q.n = 0 := by omega
        by_cases hr2 : m.high.length < m.hr
        · exact r_putF2 h hq hF hl hh hc hk hn0 hr2
        · cases h16 : hasB q.h.fl 16 with
          | true => exact r_putH h hq hF hl hh hc hk hn0 hr2 h16
          | false =>
            cases h8 : hasB q.h.fl 8 with
            | true => exact r_putI h hq hF hl hh hc hk hn0 hr2 h16 h8
            | false => exact r_putJ h hq hF hl hh hc hk hn0 hr2 h16 h8
    · by_cases hr2 : m.high.length < m.hr
      · exact r_putF h hq hF hl hh hc hk hr2
      · exact r_putG h hq hF hl hh hc hk hr2
set_option maxHeartbeats 4000000 in
set_option maxRecDepth 100000 in
theorem r_Put1 (h : RpR F w r m) (hq : PvR F w q) (hF : ∀ k, F k → k < w.heap.size) (hl : m.low.length ≤ 1024) (hh : m.high.length ≤ 1024) (hct : ∀ k, -1 ≤ m.ct k ∧ m.ct k ≤ 1000000) (hv : m.vd q.pk = 1) :
    Calls Try.prog 17 #[.agg #[.slice r.a1 r.n1 r.c1, .slice r.a2 r.n2 r.c2, .int .i64 m.lr, .int .i64 m.hr, .int .i64 m.wt, .int .i64 m.run, .int .i64 (m.ct 0), .int .i64 (m.ct 1), .int .i64 (m.ct 2), .int .i64 (m.ct 3), .int .i64 (m.ct 4)], .agg #[.int .i64 q.h.kd, .int .i64 q.h.fl, .int .i64 q.h.pa, .int .i64 q.h.sr, .int .i64 q.h.ds, .int .i64 q.h.cn, .int .i64 q.h.sq, .int .i64 q.h.pu, .slice q.A q.n q.c]] w (RPutTo F w (m.nx q.pk) 1 (m.out q.pk)) := by
  have HP : Hid (∀ o o' o2 o3, Calls Try.prog 41 #[.agg #[.slice r.a1 r.n1 r.c1, .slice r.a2 r.n2 r.c2, .int .i64 m.lr, .int .i64 m.hr, .int .i64 m.wt, .int .i64 m.run, .int .i64 (m.ct 0), .int .i64 (m.ct 1), .int .i64 (m.ct 2), .int .i64 (m.ct 3), .int .i64 (m.ct 4)], .agg #[.int .i64 q.h.kd, .int .i64 q.h.fl, .int .i64 q.h.pa, .int .i64 q.h.sr, .int .i64 q.h.ds, .int .i64 q.h.cn, .int .i64 q.h.sq, .int .i64 q.h.pu, .slice q.A q.n q.c]] ((((w.alloc o).alloc o').alloc o2).alloc o3) (RPutTo (Bx F w) ((((w.alloc o).alloc o').alloc o2).alloc o3) (m.base q.pk) 1 (m.out q.pk))) := Lib.hid fun o o' o2 o3 => by
    have hb : Below w.heap.size w ((((w.alloc o).alloc o').alloc o2).alloc o3) := ((((Below.refl w.heap.size w).alloc (Nat.le_refl _) o).alloc (by simp) o').alloc (by simp; omega) o2).alloc (by simp; omega) o3
    have := r_put ((h.st (St.refl F w) (Bx.gr F w)).below hb) ((hq.gr (Bx.gr F w)).below hb) (fun k hk => by simp; rcases hk with hk | hk; (have := hF k hk; omega); omega) hl hh
    rw [hv] at this; exact this
  have HN : Hid (m.nx q.pk = { m.base q.pk with ct := up m.ct 1 (m.ct 1 + 1) }) := Lib.hid (by unfold AM.nx; rw [hv])
  have HBC : Hid ((m.base q.pk).ct = m.ct) := Lib.hid (by unfold AM.base; (repeat' split) <;> rfl)
  rw [HN.out]
  have hw : IntKind.i64.wrap (m.ct 1 + 1) = m.ct 1 + 1 := by have := hct 1; rw [IntKind.wrap_i64]; omega
  generalize m.base q.pk = mb at *
  generalize m.out q.pk = xo at *
  clear h hq hF hl hh hct hv HN
  go_enter Try.func17, Try.ntmps17
  go_wp2_with fail
  refine (HP.out _ _ _ _).mono ?_
  rintro e w1 ⟨r', q', rfl, hr1, hk1, hq1, hb1⟩
  obtain ⟨h2, h3, h4, h6, hc⟩ := new4 hb1
  have HK := Lib.hid hk1
  have hba := (Below.refl w1.heap.size w1).alloc (Nat.le_refl _) (.cells (List.toArray [.int .i64 0, .int .i64 0, .int .i64 0, .int .i64 0, .int .i64 0, .int .i64 0, .int .i64 0, .int .i64 0, .slice none 0 0]) 37)
  have h2a := h2.below hba
  have h8a := Bk.new w1 37 [.int .i64 0, .int .i64 0, .int .i64 0, .int .i64 0, .int .i64 0, .int .i64 0, .int .i64 0, .int .i64 0, .slice none 0 0]
  have HG8 := Lib.hid h6.lt
  have HR1 := Lib.hid (hr1.st (St.refl _ _) (gr_box (Bx F w) (Nat.le_refl w1.heap.size)))
  have HQ1 := Lib.hid (hq1.gr (gr_box (Bx F w) (Nat.le_refl w1.heap.size)))
  have H4 := Lib.hid (h4.below hba)
  have H6 := Lib.hid (h6.below hba)
  have HCa := Lib.hid (hc.alloc hc.size (.cells (List.toArray [.int .i64 0, .int .i64 0, .int .i64 0, .int .i64 0, .int .i64 0, .int .i64 0, .int .i64 0, .int .i64 0, .slice none 0 0]) 37))
  have hg8 := h6.lt
  have HBA := Lib.hid hba
  have HCV : Hid (mb.ct 1 = m.ct 1) := Lib.hid (by rw [HBC.out])
  clear hk1 hb1 h3 h4 h6 hc hr1 hq1 h2 hba HP
  go_wp2_with (first
    | (with_reducible refine at_store 30 (.tmp 2) (.tmp 13) (by rfl) ?_; refine wpList_put_rp rowR rfl (.tmp 2) (.tmp 13) rfl w.heap.size rfl h2a rfl r' mb rfl ?_; rintro w2 h22 hw2; have h82 := h8a.wr hw2 (by omega))
    | (with_reducible refine at_store 37 (.tmp 8) (.tmp 15) (by rfl) ?_; refine wpList_put_pk rowP rfl (.tmp 8) (.tmp 15) rfl w1.heap.size rfl h82 rfl q' rfl ?_; rintro w3 h83 hw3
       have h23 := h22.wr hw3 (by omega)
       have cv := h23.cell 7 rfl
       have fv := h23.free 7
       rw [HCV.out] at cv
       have HS3 : Hid (St (fun k => Bx F w k ∨ k = w1.heap.size) (w1.alloc (.cells (List.toArray [.int .i64 0, .int .i64 0, .int .i64 0, .int .i64 0, .int .i64 0, .int .i64 0, .int .i64 0, .int .i64 0, .slice none 0 0]) 37)) w3) := Lib.hid (((wr_bx (F := F) (w := w) (by omega) hw2).mono fun k _ hk => .inl hk).trans (St.mono (F := (· = w1.heap.size)) ⟨hw3.os, hw3.tape, hw3.output, hw3.size, fun k hk hn => hw3.block k hk (by intro e; injection e with e; exact hn e)⟩ (fun k _ hk => .inr hk)) (Gr.refl _ _))
       have H43 := Lib.hid ((H4.out.wr hw2 (by omega)).wr hw3 (by omega))
       have H63 := Lib.hid ((H6.out.wr hw2 (by omega)).wr hw3 (by omega))
       have HC3 := Lib.hid ((HCa.out.trans (hw2.below (Nat.le_refl _) HCa.out.size)).trans (hw3.below (by omega) (Nat.le_trans HCa.out.size hw2.size)))))
  have HC2 : Hid (Bk (w3.setCell ⟨w.heap.size, 7, none⟩ (.int .i64 (m.ct 1 + 1))) 30 w.heap.size (RV.cl r' { mb with ct := up m.ct 1 (m.ct 1 + 1) })) := Lib.hid (by have := h23.set 7 (.int .i64 (m.ct 1 + 1)); rw [show (RV.cl r' mb).set 7 (.int .i64 (m.ct 1 + 1)) = RV.cl r' { mb with ct := up mb.ct 1 (m.ct 1 + 1) } from rfl, HBC.out] at this; exact this)
  have hwv := Wr.set w3 w.heap.size 7 (.int .i64 (m.ct 1 + 1))
  have HC8 := Lib.hid (h83.wr hwv (by omega))
  have HC4 := Lib.hid (H43.out.wr hwv (by omega))
  have HC6 := Lib.hid (H63.out.wr hwv (by omega))
  have HCS := Lib.hid (HS3.out.trans ((wr_bx (F := F) (w := w) (by omega) hwv).mono fun k _ hk => .inl hk) (Gr.refl _ _))
  have HCB := Lib.hid (HC3.out.trans (hwv.below (Nat.le_refl _) HC3.out.size))
  have hrr : RpR (fun k => Bx F w k ∨ k = w1.heap.size) _ r' { mb with ct := up m.ct 1 (m.ct 1 + 1) } := ⟨(HR1.out.below HBA.out).lo.st HCS.out (Gr.refl _ _), (HR1.out.below HBA.out).hi.st HCS.out (Gr.refl _ _)⟩
  have HCR := Lib.hid hrr
  have HCQ := Lib.hid ((HQ1.out.below HBA.out).st HCS.out (Gr.refl _ _))
  clear h2a h8a h22 h82 h83 h23 hwv hrr cv fv hg8
  refine wp_region_E (St (Bt w)) (by kernel_rfl) (fun wd hbd hsz => ?_)
  have HE2 := Lib.hid (HC2.out.below hbd)
  have HE8 := Lib.hid (HC8.out.below hbd)
  have HE4 := Lib.hid (HC4.out.below hbd)
  have HE6 := Lib.hid (HC6.out.below hbd)
  have HRE := Lib.hid (HCR.out.below hbd)
  have HQE := Lib.hid (HCQ.out.below hbd)
  have HBE := Lib.hid (below_on HCB.out hbd)
  have bt8 : ¬ Bt w w1.heap.size := by unfold Bt; have := HG8.out; omega
  clear hsz
  (refine takeE (St.tr (Bt w)) 0 (by simp only [List.getElem?_toArray, List.getElem?_cons_succ, List.getElem?_cons_zero]; rfl) (by kernel_rfl) (by kernel_rfl) (by kernel_rfl) (by exact fun _ _ _ h => h) (by first | (refine Or.inl ⟨by rfl, ?_⟩; intro W hW; exact exec_load_bk rowR (.tmp 2) rfl w.heap.size 0 rfl (HE2.out.st hW bt0) (RV.cl r' { mb with ct := up m.ct 1 (m.ct 1 + 1) }) rfl rfl) | exact Or.inr ⟨by rfl, rfl⟩) ?_; try simp only [Act.put, List.setIfInBounds_toArray, List.set_cons_zero, List.set_cons_succ])
  (refine takeE (St.tr (Bt w)) 1 (by simp only [List.getElem?_toArray, List.getElem?_cons_succ, List.getElem?_cons_zero]; rfl) (by kernel_rfl) (by kernel_rfl) (by kernel_rfl) (by exact fun _ _ _ h => h) (by first | (refine Or.inl ⟨by rfl, ?_⟩; intro W hW; go_simp; try with_reducible rfl) | exact Or.inr ⟨by rfl, rfl⟩) ?_; try simp only [Act.put, List.setIfInBounds_toArray, List.set_cons_zero, List.set_cons_succ])
  (refine takeE (St.tr (Bt w)) 2 (by simp only [List.getElem?_toArray, List.getElem?_cons_succ, List.getElem?_cons_zero]; rfl) (by kernel_rfl) (by kernel_rfl) (by kernel_rfl) (by exact fun _ _ _ h => h) (by first | (refine Or.inl ⟨by rfl, ?_⟩; intro W hW; exact exec_load_bk rowP (.tmp 8) rfl w1.heap.size 0 rfl (HE8.out.st hW bt8) q'.cl rfl rfl) | exact Or.inr ⟨by rfl, rfl⟩) ?_; try simp only [Act.put, List.setIfInBounds_toArray, List.set_cons_zero, List.set_cons_succ])
  refine wpAnyE_one (i := 3) (by kernel_rfl) (by simp only [List.getElem?_toArray, List.getElem?_cons_succ, List.getElem?_cons_zero]; rfl) (fun K hK => ?_)
  refine opwp_store_bk rowR rfl (.tmp 4) (.tmp 24) rfl (w.heap.size + 2) 0 rfl HE4.out (RV.cl r' { mb with ct := up m.ct 1 (m.ct 1 + 1) }) rfl rfl (by decide) (RV.cl_one _ _) ?_
  intro w5 h45 hw5
  rw [lay_all _ _ (by rfl)] at h45
  have HW5 := Lib.hid hw5
  have H45 := Lib.hid h45
  have H65 := Lib.hid (HE6.out.wr hw5 (by omega))
  have HZ5 := Lib.hid (show St (Bt w) wd w5 from wr_bt (by omega) hw5)
  refine hK.out _ _ HZ5.out ?_
  clear hK K
  try simp only [Act.put, List.setIfInBounds_toArray, List.set_cons_zero, List.set_cons_succ]
  (refine takeE (St.tr (Bt w)) 4 (by simp only [List.getElem?_toArray, List.getElem?_cons_succ, List.getElem?_cons_zero]; rfl) (by kernel_rfl) (by kernel_rfl) (by kernel_rfl) (by exact fun _ _ _ h => h) (by first | (refine Or.inl ⟨by rfl, ?_⟩; intro W hW; go_simp; try with_reducible rfl) | exact Or.inr ⟨by rfl, rfl⟩) ?_; try simp only [Act.put, List.setIfInBounds_toArray, List.set_cons_zero, List.set_cons_succ])
  refine wpAnyE_one (i := 5) (by kernel_rfl) (by simp only [List.getElem?_toArray, List.getElem?_cons_succ, List.getElem?_cons_zero]; rfl) (fun K hK => ?_)
  refine opwp_store_bk rowP rfl (.tmp 6) (.tmp 26) rfl (w.heap.size + 3) 0 rfl H65.out q'.cl rfl rfl (by decide) (Pv.cl_one _) ?_
  intro w6 h66 hw6
  rw [lay_all _ _ (by rfl)] at h66
  have HW6 := Lib.hid hw6
  have H66 := Lib.hid h66
  have H46 := Lib.hid (H45.out.wr hw6 (by omega))
  refine hK.out _ _ (wr_bt (by omega) hw6) ?_
  clear hK K
  try simp only [Act.put, List.setIfInBounds_toArray, List.set_cons_zero, List.set_cons_succ]
  refine wpAnyE_done (by kernel_rfl) ?_ _
  go_wp2
  have HSF : Hid (St (Bt w) wd w6) := Lib.hid (HZ5.out.trans (wr_bt (by omega) HW6.out) (Gr.refl _ _))
  have hsf2 : St (fun k => Bx F w k ∨ k = w1.heap.size) wd w6 := HSF.out.mono fun k _ hk => .inl (.inr (by unfold Bt at hk; omega))
  refine bodyPost_ret (results_ctc rfl rfl rfl (rowR.load H46.out 0 (cs := RV.cl r' { mb with ct := up m.ct 1 (m.ct 1 + 1) }) rfl rfl) (load_pk rowP H66.out)) rfl ?_
  exact ⟨r', q', by kernel_rfl, (HRE.out.st hsf2 (Gr.refl _ _)).mono fun k hk => .inl (.inl hk), HK.out, (HQE.out.st hsf2 (Gr.refl _ _)).mono fun k hk => .inl (.inl hk), (HBE.out.trans (HW5.out.below (by omega) HBE.out.size)).trans (HW6.out.below (by omega) (Nat.le_trans HBE.out.size HW5.out.size))⟩
set_option maxHeartbeats 4000000 in
set_option maxRecDepth 100000 in
theorem r_Put2 (h : RpR F w r m) (hq : PvR F w q) (hF : ∀ k, F k → k < w.heap.size) (hl : m.low.length ≤ 1024) (hh : m.high.length ≤ 1024) (hct : ∀ k, -1 ≤ m.ct k ∧ m.ct k ≤ 1000000) (hv : m.vd q.pk = 2) :
    Calls Try.prog 17 #[.agg #[.slice r.a1 r.n1 r.c1, .slice r.a2 r.n2 r.c2, .int .i64 m.lr, .int .i64 m.hr, .int .i64 m.wt, .int .i64 m.run, .int .i64 (m.ct 0), .int .i64 (m.ct 1), .int .i64 (m.ct 2), .int .i64 (m.ct 3), .int .i64 (m.ct 4)], .agg #[.int .i64 q.h.kd, .int .i64 q.h.fl, .int .i64 q.h.pa, .int .i64 q.h.sr, .int .i64 q.h.ds, .int .i64 q.h.cn, .int .i64 q.h.sq, .int .i64 q.h.pu, .slice q.A q.n q.c]] w (RPutTo F w (m.nx q.pk) 2 (m.out q.pk)) := by
  have HP : Hid (∀ o o' o2 o3, Calls Try.prog 41 #[.agg #[.slice r.a1 r.n1 r.c1, .slice r.a2 r.n2 r.c2, .int .i64 m.lr, .int .i64 m.hr, .int .i64 m.wt, .int .i64 m.run, .int .i64 (m.ct 0), .int .i64 (m.ct 1), .int .i64 (m.ct 2), .int .i64 (m.ct 3), .int .i64 (m.ct 4)], .agg #[.int .i64 q.h.kd, .int .i64 q.h.fl, .int .i64 q.h.pa, .int .i64 q.h.sr, .int .i64 q.h.ds, .int .i64 q.h.cn, .int .i64 q.h.sq, .int .i64 q.h.pu, .slice q.A q.n q.c]] ((((w.alloc o).alloc o').alloc o2).alloc o3) (RPutTo (Bx F w) ((((w.alloc o).alloc o').alloc o2).alloc o3) (m.base q.pk) 2 (m.out q.pk))) := Lib.hid fun o o' o2 o3 => by
    have hb : Below w.heap.size w ((((w.alloc o).alloc o').alloc o2).alloc o3) := ((((Below.refl w.heap.size w).alloc (Nat.le_refl _) o).alloc (by simp) o').alloc (by simp; omega) o2).alloc (by simp; omega) o3
    have := r_put ((h.st (St.refl F w) (Bx.gr F w)).below hb) ((hq.gr (Bx.gr F w)).below hb) (fun k hk => by simp; rcases hk with hk | hk; (have := hF k hk; omega); omega) hl hh
    rw [hv] at this; exact this
  have HN : Hid (m.nx q.pk = { m.base q.pk with ct := up m.ct 2 (m.ct 2 + 1) }) := Lib.hid (by unfold AM.nx; rw [hv])
  have HBC : Hid ((m.base q.pk).ct = m.ct) := Lib.hid (by unfold AM.base; (repeat' split) <;> rfl)
  rw [HN.out]
  have hw : IntKind.i64.wrap (m.ct 2 + 1) = m.ct 2 + 1 := by have := hct 2; rw [IntKind.wrap_i64]; omega
  generalize m.base q.pk = mb at *
  generalize m.out q.pk = xo at *
  clear h hq hF hl hh hct hv HN
  go_enter Try.func17, Try.ntmps17
  go_wp2_with fail
  refine (HP.out _ _ _ _).mono ?_
  rintro e w1 ⟨r', q', rfl, hr1, hk1, hq1, hb1⟩
  obtain ⟨h2, h3, h4, h6, hc⟩ := new4 hb1
  have HK := Lib.hid hk1
  have hba := (Below.refl w1.heap.size w1).alloc (Nat.le_refl _) (.cells (List.toArray [.int .i64 0, .int .i64 0, .int .i64 0, .int .i64 0, .int .i64 0, .int .i64 0, .int .i64 0, .int .i64 0, .slice none 0 0]) 37)
  have h2a := h2.below hba
  have h8a := Bk.new w1 37 [.int .i64 0, .int .i64 0, .int .i64 0, .int .i64 0, .int .i64 0, .int .i64 0, .int .i64 0, .int .i64 0, .slice none 0 0]
  have HG8 := Lib.hid h6.lt
  have HR1 := Lib.hid (hr1.st (St.refl _ _) (gr_box (Bx F w) (Nat.le_refl w1.heap.size)))
  have HQ1 := Lib.hid (hq1.gr (gr_box (Bx F w) (Nat.le_refl w1.heap.size)))
  have H4 := Lib.hid (h4.below hba)
  have H6 := Lib.hid (h6.below hba)
  have HCa := Lib.hid (hc.alloc hc.size (.cells (List.toArray [.int .i64 0, .int .i64 0, .int .i64 0, .int .i64 0, .int .i64 0, .int .i64 0, .int .i64 0, .int .i64 0, .slice none 0 0]) 37))
  have hg8 := h6.lt
  have HBA := Lib.hid hba
  have HCV : Hid (mb.ct 2 = m.ct 2) := Lib.hid (by rw [HBC.out])
  clear hk1 hb1 h3 h4 h6 hc hr1 hq1 h2 hba HP
  go_wp2_with (first
    | (with_reducible refine at_store 30 (.tmp 2) (.tmp 13) (by rfl) ?_; refine wpList_put_rp rowR rfl (.tmp 2) (.tmp 13) rfl w.heap.size rfl h2a rfl r' mb rfl ?_; rintro w2 h22 hw2; have h82 := h8a.wr hw2 (by omega))
    | (with_reducible refine at_store 37 (.tmp 8) (.tmp 15) (by rfl) ?_; refine wpList_put_pk rowP rfl (.tmp 8) (.tmp 15) rfl w1.heap.size rfl h82 rfl q' rfl ?_; rintro w3 h83 hw3
       have h23 := h22.wr hw3 (by omega)
       have cv := h23.cell 8 rfl
       have fv := h23.free 8
       rw [HCV.out] at cv
       have HS3 : Hid (St (fun k => Bx F w k ∨ k = w1.heap.size) (w1.alloc (.cells (List.toArray [.int .i64 0, .int .i64 0, .int .i64 0, .int .i64 0, .int .i64 0, .int .i64 0, .int .i64 0, .int .i64 0, .slice none 0 0]) 37)) w3) := Lib.hid (((wr_bx (F := F) (w := w) (by omega) hw2).mono fun k _ hk => .inl hk).trans (St.mono (F := (· = w1.heap.size)) ⟨hw3.os, hw3.tape, hw3.output, hw3.size, fun k hk hn => hw3.block k hk (by intro e; injection e with e; exact hn e)⟩ (fun k _ hk => .inr hk)) (Gr.refl _ _))
       have H43 := Lib.hid ((H4.out.wr hw2 (by omega)).wr hw3 (by omega))
       have H63 := Lib.hid ((H6.out.wr hw2 (by omega)).wr hw3 (by omega))
       have HC3 := Lib.hid ((HCa.out.trans (hw2.below (Nat.le_refl _) HCa.out.size)).trans (hw3.below (by omega) (Nat.le_trans HCa.out.size hw2.size)))))
  have HC2 : Hid (Bk (w3.setCell ⟨w.heap.size, 8, none⟩ (.int .i64 (m.ct 2 + 1))) 30 w.heap.size (RV.cl r' { mb with ct := up m.ct 2 (m.ct 2 + 1) })) := Lib.hid (by have := h23.set 8 (.int .i64 (m.ct 2 + 1)); rw [show (RV.cl r' mb).set 8 (.int .i64 (m.ct 2 + 1)) = RV.cl r' { mb with ct := up mb.ct 2 (m.ct 2 + 1) } from rfl, HBC.out] at this; exact this)
  have hwv := Wr.set w3 w.heap.size 8 (.int .i64 (m.ct 2 + 1))
  have HC8 := Lib.hid (h83.wr hwv (by omega))
  have HC4 := Lib.hid (H43.out.wr hwv (by omega))
  have HC6 := Lib.hid (H63.out.wr hwv (by omega))
  have HCS := Lib.hid (HS3.out.trans ((wr_bx (F := F) (w := w) (by omega) hwv).mono fun k _ hk => .inl hk) (Gr.refl _ _))
  have HCB := Lib.hid (HC3.out.trans (hwv.below (Nat.le_refl _) HC3.out.size))
  have hrr : RpR (fun k => Bx F w k ∨ k = w1.heap.size) _ r' { mb with ct := up m.ct 2 (m.ct 2 + 1) } := ⟨(HR1.out.below HBA.out).lo.st HCS.out (Gr.refl _ _), (HR1.out.below HBA.out).hi.st HCS.out (Gr.refl _ _)⟩
  have HCR := Lib.hid hrr
  have HCQ := Lib.hid ((HQ1.out.below HBA.out).st HCS.out (Gr.refl _ _))
  clear h2a h8a h22 h82 h83 h23 hwv hrr cv fv hg8
  refine wp_region_E (St (Bt w)) (by kernel_rfl) (fun wd hbd hsz => ?_)
  have HE2 := Lib.hid (HC2.out.below hbd)
  have HE8 := Lib.hid (HC8.out.below hbd)
  have HE4 := Lib.hid (HC4.out.below hbd)
  have HE6 := Lib.hid (HC6.out.below hbd)
  have HRE := Lib.hid (HCR.out.below hbd)
  have HQE := Lib.hid (HCQ.out.below hbd)
  have HBE := Lib.hid (below_on HCB.out hbd)
  have bt8 : ¬ Bt w w1.heap.size := by unfold Bt; have := HG8.out; omega
  clear hsz
  (refine takeE (St.tr (Bt w)) 0 (by simp only [List.getElem?_toArray, List.getElem?_cons_succ, List.getElem?_cons_zero]; rfl) (by kernel_rfl) (by kernel_rfl) (by kernel_rfl) (by exact fun _ _ _ h => h) (by first | (refine Or.inl ⟨by rfl, ?_⟩; intro W hW; exact exec_load_bk rowR (.tmp 2) rfl w.heap.size 0 rfl (HE2.out.st hW bt0) (RV.cl r' { mb with ct := up m.ct 2 (m.ct 2 + 1) }) rfl rfl) | exact Or.inr ⟨by rfl, rfl⟩) ?_; try simp only [Act.put, List.setIfInBounds_toArray, List.set_cons_zero, List.set_cons_succ])
  (refine takeE (St.tr (Bt w)) 1 (by simp only [List.getElem?_toArray, List.getElem?_cons_succ, List.getElem?_cons_zero]; rfl) (by kernel_rfl) (by kernel_rfl) (by kernel_rfl) (by exact fun _ _ _ h => h) (by first | (refine Or.inl ⟨by rfl, ?_⟩; intro W hW; go_simp; try with_reducible rfl) | exact Or.inr ⟨by rfl, rfl⟩) ?_; try simp only [Act.put, List.setIfInBounds_toArray, List.set_cons_zero, List.set_cons_succ])
  (refine takeE (St.tr (Bt w)) 2 (by simp only [List.getElem?_toArray, List.getElem?_cons_succ, List.getElem?_cons_zero]; rfl) (by kernel_rfl) (by kernel_rfl) (by kernel_rfl) (by exact fun _ _ _ h => h) (by first | (refine Or.inl ⟨by rfl, ?_⟩; intro W hW; exact exec_load_bk rowP (.tmp 8) rfl w1.heap.size 0 rfl (HE8.out.st hW bt8) q'.cl rfl rfl) | exact Or.inr ⟨by rfl, rfl⟩) ?_; try simp only [Act.put, List.setIfInBounds_toArray, List.set_cons_zero, List.set_cons_succ])
  refine wpAnyE_one (i := 3) (by kernel_rfl) (by simp only [List.getElem?_toArray, List.getElem?_cons_succ, List.getElem?_cons_zero]; rfl) (fun K hK => ?_)
  refine opwp_store_bk rowR rfl (.tmp 4) (.tmp 24) rfl (w.heap.size + 2) 0 rfl HE4.out (RV.cl r' { mb with ct := up m.ct 2 (m.ct 2 + 1) }) rfl rfl (by decide) (RV.cl_one _ _) ?_
  intro w5 h45 hw5
  rw [lay_all _ _ (by rfl)] at h45
  have HW5 := Lib.hid hw5
  have H45 := Lib.hid h45
  have H65 := Lib.hid (HE6.out.wr hw5 (by omega))
  have HZ5 := Lib.hid (show St (Bt w) wd w5 from wr_bt (by omega) hw5)
  refine hK.out _ _ HZ5.out ?_
  clear hK K
  try simp only [Act.put, List.setIfInBounds_toArray, List.set_cons_zero, List.set_cons_succ]
  (refine takeE (St.tr (Bt w)) 4 (by simp only [List.getElem?_toArray, List.getElem?_cons_succ, List.getElem?_cons_zero]; rfl) (by kernel_rfl) (by kernel_rfl) (by kernel_rfl) (by exact fun _ _ _ h => h) (by first | (refine Or.inl ⟨by rfl, ?_⟩; intro W hW; go_simp; try with_reducible rfl) | exact Or.inr ⟨by rfl, rfl⟩) ?_; try simp only [Act.put, List.setIfInBounds_toArray, List.set_cons_zero, List.set_cons_succ])
  refine wpAnyE_one (i := 5) (by kernel_rfl) (by simp only [List.getElem?_toArray, List.getElem?_cons_succ, List.getElem?_cons_zero]; rfl) (fun K hK => ?_)
  refine opwp_store_bk rowP rfl (.tmp 6) (.tmp 26) rfl (w.heap.size + 3) 0 rfl H65.out q'.cl rfl rfl (by decide) (Pv.cl_one _) ?_
  intro w6 h66 hw6
  rw [lay_all _ _ (by rfl)] at h66
  have HW6 := Lib.hid hw6
  have H66 := Lib.hid h66
  have H46 := Lib.hid (H45.out.wr hw6 (by omega))
  refine hK.out _ _ (wr_bt (by omega) hw6) ?_
  clear hK K
  try simp only [Act.put, List.setIfInBounds_toArray, List.set_cons_zero, List.set_cons_succ]
  refine wpAnyE_done (by kernel_rfl) ?_ _
  go_wp2
  have HSF : Hid (St (Bt w) wd w6) := Lib.hid (HZ5.out.trans (wr_bt (by omega) HW6.out) (Gr.refl _ _))
  have hsf2 : St (fun k => Bx F w k ∨ k = w1.heap.size) wd w6 := HSF.out.mono fun k _ hk => .inl (.inr (by unfold Bt at hk; omega))
  refine bodyPost_ret (results_ctc rfl rfl rfl (rowR.load H46.out 0 (cs := RV.cl r' { mb with ct := up m.ct 2 (m.ct 2 + 1) }) rfl rfl) (load_pk rowP H66.out)) rfl ?_
  exact ⟨r', q', by kernel_rfl, (HRE.out.st hsf2 (Gr.refl _ _)).mono fun k hk => .inl (.inl hk), HK.out, (HQE.out.st hsf2 (Gr.refl _ _)).mono fun k hk => .inl (.inl hk), (HBE.out.trans (HW5.out.below (by omega) HBE.out.size)).trans (HW6.out.below (by omega) (Nat.le_trans HBE.out.size HW5.out.size))⟩
set_option maxHeartbeats 4000000 in
set_option maxRecDepth 100000 in
theorem r_Put3 (h : RpR F w r m) (hq : PvR F w q) (hF : ∀ k, F k → k < w.heap.size) (hl : m.low.length ≤ 1024) (hh : m.high.length ≤ 1024) (hct : ∀ k, -1 ≤ m.ct k ∧ m.ct k ≤ 1000000) (hv : m.vd q.pk = 3) :
    Calls Try.prog 17 #[.agg #[.slice r.a1 r.n1 r.c1, .slice r.a2 r.n2 r.c2, .int .i64 m.lr, .int .i64 m.hr, .int .i64 m.wt, .int .i64 m.run, .int .i64 (m.ct 0), .int .i64 (m.ct 1), .int .i64 (m.ct 2), .int .i64 (m.ct 3), .int .i64 (m.ct 4)], .agg #[.int .i64 q.h.kd, .int .i64 q.h.fl, .int .i64 q.h.pa, .int .i64 q.h.sr, .int .i64 q.h.ds, .int .i64 q.h.cn, .int .i64 q.h.sq, .int .i64 q.h.pu, .slice q.A q.n q.c]] w (RPutTo F w (m.nx q.pk) 3 (m.out q.pk)) := by
  have HP : Hid (∀ o o' o2 o3, Calls Try.prog 41 #[.agg #[.slice r.a1 r.n1 r.c1, .slice r.a2 r.n2 r.c2, .int .i64 m.lr, .int .i64 m.hr, .int .i64 m.wt, .int .i64 m.run, .int .i64 (m.ct 0), .int .i64 (m.ct 1), .int .i64 (m.ct 2), .int .i64 (m.ct 3), .int .i64 (m.ct 4)], .agg #[.int .i64 q.h.kd, .int .i64 q.h.fl, .int .i64 q.h.pa, .int .i64 q.h.sr, .int .i64 q.h.ds, .int .i64 q.h.cn, .int .i64 q.h.sq, .int .i64 q.h.pu, .slice q.A q.n q.c]] ((((w.alloc o).alloc o').alloc o2).alloc o3) (RPutTo (Bx F w) ((((w.alloc o).alloc o').alloc o2).alloc o3) (m.base q.pk) 3 (m.out q.pk))) := Lib.hid fun o o' o2 o3 => by
    have hb : Below w.heap.size w ((((w.alloc o).alloc o').alloc o2).alloc o3) := ((((Below.refl w.heap.size w).alloc (Nat.le_refl _) o).alloc (by simp) o').alloc (by simp; omega) o2).alloc (by simp; omega) o3
    have := r_put ((h.st (St.refl F w) (Bx.gr F w)).below hb) ((hq.gr (Bx.gr F w)).below hb) (fun k hk => by simp; rcases hk with hk | hk; (have := hF k hk; omega); omega) hl hh
    rw [hv] at this; exact this
  have HN : Hid (m.nx q.pk = { m.base q.pk with ct := up m.ct 3 (m.ct 3 + 1) }) := Lib.hid (by unfold AM.nx; rw [hv])
  have HBC : Hid ((m.base q.pk).ct = m.ct) := Lib.hid (by unfold AM.base; (repeat' split) <;> rfl)
  rw [HN.out]
  have hw : IntKind.i64.wrap (m.ct 3 + 1) = m.ct 3 + 1 := by have := hct 3; rw [IntKind.wrap_i64]; omega
  generalize m.base q.pk = mb at *
  generalize m.out q.pk = xo at *
  clear h hq hF hl hh hct hv HN
  go_enter Try.func17, Try.ntmps17
  go_wp2_with fail
  refine (HP.out _ _ _ _).mono ?_
  rintro e w1 ⟨r', q', rfl, hr1, hk1, hq1, hb1⟩
  obtain ⟨h2, h3, h4, h6, hc⟩ := new4 hb1
  have HK := Lib.hid hk1
  have hba := (Below.refl w1.heap.size w1).alloc (Nat.le_refl _) (.cells (List.toArray [.int .i64 0, .int .i64 0, .int .i64 0, .int .i64 0, .int .i64 0, .int .i64 0, .int .i64 0, .int .i64 0, .slice none 0 0]) 37)
  have h2a := h2.below hba
  have h8a := Bk.new w1 37 [.int .i64 0, .int .i64 0, .int .i64 0, .int .i64 0, .int .i64 0, .int .i64 0, .int .i64 0, .int .i64 0, .slice none 0 0]
  have HG8 := Lib.hid h6.lt
  have HR1 := Lib.hid (hr1.st (St.refl _ _) (gr_box (Bx F w) (Nat.le_refl w1.heap.size)))
  have HQ1 := Lib.hid (hq1.gr (gr_box (Bx F w) (Nat.le_refl w1.heap.size)))
  have H4 := Lib.hid (h4.below hba)
  have H6 := Lib.hid (h6.below hba)
  have HCa := Lib.hid (hc.alloc hc.size (.cells (List.toArray [.int .i64 0, .int .i64 0, .int .i64 0, .int .i64 0, .int .i64 0, .int .i64 0, .int .i64 0, .int .i64 0, .slice none 0 0]) 37))
  have hg8 := h6.lt
  have HBA := Lib.hid hba
  have HCV : Hid (mb.ct 3 = m.ct 3) := Lib.hid (by rw [HBC.out])
  clear hk1 hb1 h3 h4 h6 hc hr1 hq1 h2 hba HP
  go_wp2_with (first
    | (with_reducible refine at_store 30 (.tmp 2) (.tmp 13) (by rfl) ?_; refine wpList_put_rp rowR rfl (.tmp 2) (.tmp 13) rfl w.heap.size rfl h2a rfl r' mb rfl ?_; rintro w2 h22 hw2; have h82 := h8a.wr hw2 (by omega))
    | (with_reducible refine at_store 37 (.tmp 8) (.tmp 15) (by rfl) ?_; refine wpList_put_pk rowP rfl (.tmp 8) (.tmp 15) rfl w1.heap.size rfl h82 rfl q' rfl ?_; rintro w3 h83 hw3
       have h23 := h22.wr hw3 (by omega)
       have cv := h23.cell 9 rfl
       have fv := h23.free 9
       rw [HCV.out] at cv
       have HS3 : Hid (St (fun k => Bx F w k ∨ k = w1.heap.size) (w1.alloc (.cells (List.toArray [.int .i64 0, .int .i64 0, .int .i64 0, .int .i64 0, .int .i64 0, .int .i64 0, .int .i64 0, .int .i64 0, .slice none 0 0]) 37)) w3) := Lib.hid (((wr_bx (F := F) (w := w) (by omega) hw2).mono fun k _ hk => .inl hk).trans (St.mono (F := (· = w1.heap.size)) ⟨hw3.os, hw3.tape, hw3.output, hw3.size, fun k hk hn => hw3.block k hk (by intro e; injection e with e; exact hn e)⟩ (fun k _ hk => .inr hk)) (Gr.refl _ _))
       have H43 := Lib.hid ((H4.out.wr hw2 (by omega)).wr hw3 (by omega))
       have H63 := Lib.hid ((H6.out.wr hw2 (by omega)).wr hw3 (by omega))
       have HC3 := Lib.hid ((HCa.out.trans (hw2.below (Nat.le_refl _) HCa.out.size)).trans (hw3.below (by omega) (Nat.le_trans HCa.out.size hw2.size)))))
  have HC2 : Hid (Bk (w3.setCell ⟨w.heap.size, 9, none⟩ (.int .i64 (m.ct 3 + 1))) 30 w.heap.size (RV.cl r' { mb with ct := up m.ct 3 (m.ct 3 + 1) })) := Lib.hid (by have := h23.set 9 (.int .i64 (m.ct 3 + 1)); rw [show (RV.cl r' mb).set 9 (.int .i64 (m.ct 3 + 1)) = RV.cl r' { mb with ct := up mb.ct 3 (m.ct 3 + 1) } from rfl, HBC.out] at this; exact this)
  have hwv := Wr.set w3 w.heap.size 9 (.int .i64 (m.ct 3 + 1))
  have HC8 := Lib.hid (h83.wr hwv (by omega))
  have HC4 := Lib.hid (H43.out.wr hwv (by omega))
  have HC6 := Lib.hid (H63.out.wr hwv (by omega))
  have HCS := Lib.hid (HS3.out.trans ((wr_bx (F := F) (w := w) (by omega) hwv).mono fun k _ hk => .inl hk) (Gr.refl _ _))
  have HCB := Lib.hid (HC3.out.trans (hwv.below (Nat.le_refl _) HC3.out.size))
  have hrr : RpR (fun k => Bx F w k ∨ k = w1.heap.size) _ r' { mb with ct := up m.ct 3 (m.ct 3 + 1) } := ⟨(HR1.out.below HBA.out).lo.st HCS.out (Gr.refl _ _), (HR1.out.below HBA.out).hi.st HCS.out (Gr.refl _ _)⟩
  have HCR := Lib.hid hrr
  have HCQ := Lib.hid ((HQ1.out.below HBA.out).st HCS.out (Gr.refl _ _))
  clear h2a h8a h22 h82 h83 h23 hwv hrr cv fv hg8
  refine wp_region_E (St (Bt w)) (by kernel_rfl) (fun wd hbd hsz => ?_)
  have HE2 := Lib.hid (HC2.out.below hbd)
  have HE8 := Lib.hid (HC8.out.below hbd)
  have HE4 := Lib.hid (HC4.out.below hbd)
  have HE6 := Lib.hid (HC6.out.below hbd)
  have HRE := Lib.hid (HCR.out.below hbd)
  have HQE := Lib.hid (HCQ.out.below hbd)
  have HBE := Lib.hid (below_on HCB.out hbd)
  have bt8 : ¬ Bt w w1.heap.size := by unfold Bt; have := HG8.out; omega
  clear hsz
  (refine takeE (St.tr (Bt w)) 0 (by simp only [List.getElem?_toArray, List.getElem?_cons_succ, List.getElem?_cons_zero]; rfl) (by kernel_rfl) (by kernel_rfl) (by kernel_rfl) (by exact fun _ _ _ h => h) (by first | (refine Or.inl ⟨by rfl, ?_⟩; intro W hW; exact exec_load_bk rowR (.tmp 2) rfl w.heap.size 0 rfl (HE2.out.st hW bt0) (RV.cl r' { mb with ct := up m.ct 3 (m.ct 3 + 1) }) rfl rfl) | exact Or.inr ⟨by rfl, rfl⟩) ?_; try simp only [Act.put, List.setIfInBounds_toArray, List.set_cons_zero, List.set_cons_succ])
  (refine takeE (St.tr (Bt w)) 1 (by simp only [List.getElem?_toArray, List.getElem?_cons_succ, List.getElem?_cons_zero]; rfl) (by kernel_rfl) (by kernel_rfl) (by kernel_rfl) (by exact fun _ _ _ h => h) (by first | (refine Or.inl ⟨by rfl, ?_⟩; intro W hW; go_simp; try with_reducible rfl) | exact Or.inr ⟨by rfl, rfl⟩) ?_; try simp only [Act.put, List.setIfInBounds_toArray, List.set_cons_zero, List.set_cons_succ])
  (refine takeE (St.tr (Bt w)) 2 (by simp only [List.getElem?_toArray, List.getElem?_cons_succ, List.getElem?_cons_zero]; rfl) (by kernel_rfl) (by kernel_rfl) (by kernel_rfl) (by exact fun _ _ _ h => h) (by first | (refine Or.inl ⟨by rfl, ?_⟩; intro W hW; exact exec_load_bk rowP (.tmp 8) rfl w1.heap.size 0 rfl (HE8.out.st hW bt8) q'.cl rfl rfl) | exact Or.inr ⟨by rfl, rfl⟩) ?_; try simp only [Act.put, List.setIfInBounds_toArray, List.set_cons_zero, List.set_cons_succ])
  refine wpAnyE_one (i := 3) (by kernel_rfl) (by simp only [List.getElem?_toArray, List.getElem?_cons_succ, List.getElem?_cons_zero]; rfl) (fun K hK => ?_)
  refine opwp_store_bk rowR rfl (.tmp 4) (.tmp 24) rfl (w.heap.size + 2) 0 rfl HE4.out (RV.cl r' { mb with ct := up m.ct 3 (m.ct 3 + 1) }) rfl rfl (by decide) (RV.cl_one _ _) ?_
  intro w5 h45 hw5
  rw [lay_all _ _ (by rfl)] at h45
  have HW5 := Lib.hid hw5
  have H45 := Lib.hid h45
  have H65 := Lib.hid (HE6.out.wr hw5 (by omega))
  have HZ5 := Lib.hid (show St (Bt w) wd w5 from wr_bt (by omega) hw5)
  refine hK.out _ _ HZ5.out ?_
  clear hK K
  try simp only [Act.put, List.setIfInBounds_toArray, List.set_cons_zero, List.set_cons_succ]
  (refine takeE (St.tr (Bt w)) 4 (by simp only [List.getElem?_toArray, List.getElem?_cons_succ, List.getElem?_cons_zero]; rfl) (by kernel_rfl) (by kernel_rfl) (by kernel_rfl) (by exact fun _ _ _ h => h) (by first | (refine Or.inl ⟨by rfl, ?_⟩; intro W hW; go_simp; try with_reducible rfl) | exact Or.inr ⟨by rfl, rfl⟩) ?_; try simp only [Act.put, List.setIfInBounds_toArray, List.set_cons_zero, List.set_cons_succ])
  refine wpAnyE_one (i := 5) (by kernel_rfl) (by simp only [List.getElem?_toArray, List.getElem?_cons_succ, List.getElem?_cons_zero]; rfl) (fun K hK => ?_)
  refine opwp_store_bk rowP rfl (.tmp 6) (.tmp 26) rfl (w.heap.size + 3) 0 rfl H65.out q'.cl rfl rfl (by decide) (Pv.cl_one _) ?_
  intro w6 h66 hw6
  rw [lay_all _ _ (by rfl)] at h66
  have HW6 := Lib.hid hw6
  have H66 := Lib.hid h66
  have H46 := Lib.hid (H45.out.wr hw6 (by omega))
  refine hK.out _ _ (wr_bt (by omega) hw6) ?_
  clear hK K
  try simp only [Act.put, List.setIfInBounds_toArray, List.set_cons_zero, List.set_cons_succ]
  refine wpAnyE_done (by kernel_rfl) ?_ _
  go_wp2
  have HSF : Hid (St (Bt w) wd w6) := Lib.hid (HZ5.out.trans (wr_bt (by omega) HW6.out) (Gr.refl _ _))
  have hsf2 : St (fun k => Bx F w k ∨ k = w1.heap.size) wd w6 := HSF.out.mono fun k _ hk => .inl (.inr (by unfold Bt at hk; omega))
  refine bodyPost_ret (results_ctc rfl rfl rfl (rowR.load H46.out 0 (cs := RV.cl r' { mb with ct := up m.ct 3 (m.ct 3 + 1) }) rfl rfl) (load_pk rowP H66.out)) rfl ?_
  exact ⟨r', q', by kernel_rfl, (HRE.out.st hsf2 (Gr.refl _ _)).mono fun k hk => .inl (.inl hk), HK.out, (HQE.out.st hsf2 (Gr.refl _ _)).mono fun k hk => .inl (.inl hk), (HBE.out.trans (HW5.out.below (by omega) HBE.out.size)).trans (HW6.out.below (by omega) (Nat.le_trans HBE.out.size HW5.out.size))⟩
set_option maxHeartbeats 4000000 in
set_option maxRecDepth 100000 in
theorem r_Put4 (h : RpR F w r m) (hq : PvR F w q) (hF : ∀ k, F k → k < w.heap.size) (hl : m.low.length ≤ 1024) (hh : m.high.length ≤ 1024) (hct : ∀ k, -1 ≤ m.ct k ∧ m.ct k ≤ 1000000) (hv : m.vd q.pk = 4) :
    Calls Try.prog 17 #[.agg #[.slice r.a1 r.n1 r.c1, .slice r.a2 r.n2 r.c2, .int .i64 m.lr, .int .i64 m.hr, .int .i64 m.wt, .int .i64 m.run, .int .i64 (m.ct 0), .int .i64 (m.ct 1), .int .i64 (m.ct 2), .int .i64 (m.ct 3), .int .i64 (m.ct 4)], .agg #[.int .i64 q.h.kd, .int .i64 q.h.fl, .int .i64 q.h.pa, .int .i64 q.h.sr, .int .i64 q.h.ds, .int .i64 q.h.cn, .int .i64 q.h.sq, .int .i64 q.h.pu, .slice q.A q.n q.c]] w (RPutTo F w (m.nx q.pk) 4 (m.out q.pk)) := by
  have HP : Hid (∀ o o' o2 o3, Calls Try.prog 41 #[.agg #[.slice r.a1 r.n1 r.c1, .slice r.a2 r.n2 r.c2, .int .i64 m.lr, .int .i64 m.hr, .int .i64 m.wt, .int .i64 m.run, .int .i64 (m.ct 0), .int .i64 (m.ct 1), .int .i64 (m.ct 2), .int .i64 (m.ct 3), .int .i64 (m.ct 4)], .agg #[.int .i64 q.h.kd, .int .i64 q.h.fl, .int .i64 q.h.pa, .int .i64 q.h.sr, .int .i64 q.h.ds, .int .i64 q.h.cn, .int .i64 q.h.sq, .int .i64 q.h.pu, .slice q.A q.n q.c]] ((((w.alloc o).alloc o').alloc o2).alloc o3) (RPutTo (Bx F w) ((((w.alloc o).alloc o').alloc o2).alloc o3) (m.base q.pk) 4 (m.out q.pk))) := Lib.hid fun o o' o2 o3 => by
    have hb : Below w.heap.size w ((((w.alloc o).alloc o').alloc o2).alloc o3) := ((((Below.refl w.heap.size w).alloc (Nat.le_refl _) o).alloc (by simp) o').alloc (by simp; omega) o2).alloc (by simp; omega) o3
    have := r_put ((h.st (St.refl F w) (Bx.gr F w)).below hb) ((hq.gr (Bx.gr F w)).below hb) (fun k hk => by simp; rcases hk with hk | hk; (have := hF k hk; omega); omega) hl hh
    rw [hv] at this; exact this
  have HN : Hid (m.nx q.pk = { m.base q.pk with ct := up m.ct 4 (m.ct 4 + 1) }) := Lib.hid (by unfold AM.nx; rw [hv])
  have HBC : Hid ((m.base q.pk).ct = m.ct) := Lib.hid (by unfold AM.base; (repeat' split) <;> rfl)
  rw [HN.out]
  have hw : IntKind.i64.wrap (m.ct 4 + 1) = m.ct 4 + 1 := by have := hct 4; rw [IntKind.wrap_i64]; omega
  generalize m.base q.pk = mb at *
  generalize m.out q.pk = xo at *
  clear h hq hF hl hh hct hv HN
  go_enter Try.func17, Try.ntmps17
  go_wp2_with fail
  refine (HP.out _ _ _ _).mono ?_
  rintro e w1 ⟨r', q', rfl, hr1, hk1, hq1, hb1⟩
  obtain ⟨h2, h3, h4, h6, hc⟩ := new4 hb1
  have HK := Lib.hid hk1
  have hba := (Below.refl w1.heap.size w1).alloc (Nat.le_refl _) (.cells (List.toArray [.int .i64 0, .int .i64 0, .int .i64 0, .int .i64 0, .int .i64 0, .int .i64 0, .int .i64 0, .int .i64 0, .slice none 0 0]) 37)
  have h2a := h2.below hba
  have h8a := Bk.new w1 37 [.int .i64 0, .int .i64 0, .int .i64 0, .int .i64 0, .int .i64 0, .int .i64 0, .int .i64 0, .int .i64 0, .slice none 0 0]
  have HG8 := Lib.hid h6.lt
  have HR1 := Lib.hid (hr1.st (St.refl _ _) (gr_box (Bx F w) (Nat.le_refl w1.heap.size)))
  have HQ1 := Lib.hid (hq1.gr (gr_box (Bx F w) (Nat.le_refl w1.heap.size)))
  have H4 := Lib.hid (h4.below hba)
  have H6 := Lib.hid (h6.below hba)
  have HCa := Lib.hid (hc.alloc hc.size (.cells (List.toArray [.int .i64 0, .int .i64 0, .int .i64 0, .int .i64 0, .int .i64 0, .int .i64 0, .int .i64 0, .int .i64 0, .slice none 0 0]) 37))
  have hg8 := h6.lt
  have HBA := Lib.hid hba
  have HCV : Hid (mb.ct 4 = m.ct 4) := Lib.hid (by rw [HBC.out])
  clear hk1 hb1 h3 h4 h6 hc hr1 hq1 h2 hba HP
  go_wp2_with (first
    | (with_reducible refine at_store 30 (.tmp 2) (.tmp 13) (by rfl) ?_; refine wpList_put_rp rowR rfl (.tmp 2) (.tmp 13) rfl w.heap.size rfl h2a rfl r' mb rfl ?_; rintro w2 h22 hw2; have h82 := h8a.wr hw2 (by omega))
    | (with_reducible refine at_store 37 (.tmp 8) (.tmp 15) (by rfl) ?_; refine wpList_put_pk rowP rfl (.tmp 8) (.tmp 15) rfl w1.heap.size rfl h82 rfl q' rfl ?_; rintro w3 h83 hw3
       have h23 := h22.wr hw3 (by omega)
       have cv := h23.cell 10 rfl
       have fv := h23.free 10
       rw [HCV.out] at cv
       have HS3 : Hid (St (fun k => Bx F w k ∨ k = w1.heap.size) (w1.alloc (.cells (List.toArray [.int .i64 0, .int .i64 0, .int .i64 0, .int .i64 0, .int .i64 0, .int .i64 0, .int .i64 0, .int .i64 0, .slice none 0 0]) 37)) w3) := Lib.hid (((wr_bx (F := F) (w := w) (by omega) hw2).mono fun k _ hk => .inl hk).trans (St.mono (F := (· = w1.heap.size)) ⟨hw3.os, hw3.tape, hw3.output, hw3.size, fun k hk hn => hw3.block k hk (by intro e; injection e with e; exact hn e)⟩ (fun k _ hk => .inr hk)) (Gr.refl _ _))
       have H43 := Lib.hid ((H4.out.wr hw2 (by omega)).wr hw3 (by omega))
       have H63 := Lib.hid ((H6.out.wr hw2 (by omega)).wr hw3 (by omega))
       have HC3 := Lib.hid ((HCa.out.trans (hw2.below (Nat.le_refl _) HCa.out.size)).trans (hw3.below (by omega) (Nat.le_trans HCa.out.size hw2.size)))))
  have HC2 : Hid (Bk (w3.setCell ⟨w.heap.size, 10, none⟩ (.int .i64 (m.ct 4 + 1))) 30 w.heap.size (RV.cl r' { mb with ct := up m.ct 4 (m.ct 4 + 1) })) := Lib.hid (by have := h23.set 10 (.int .i64 (m.ct 4 + 1)); rw [show (RV.cl r' mb).set 10 (.int .i64 (m.ct 4 + 1)) = RV.cl r' { mb with ct := up mb.ct 4 (m.ct 4 + 1) } from rfl, HBC.out] at this; exact this)
  have hwv := Wr.set w3 w.heap.size 10 (.int .i64 (m.ct 4 + 1))
  have HC8 := Lib.hid (h83.wr hwv (by omega))
  have HC4 := Lib.hid (H43.out.wr hwv (by omega))
  have HC6 := Lib.hid (H63.out.wr hwv (by omega))
  have HCS := Lib.hid (HS3.out.trans ((wr_bx (F := F) (w := w) (by omega) hwv).mono fun k _ hk => .inl hk) (Gr.refl _ _))
  have HCB := Lib.hid (HC3.out.trans (hwv.below (Nat.le_refl _) HC3.out.size))
  have hrr : RpR (fun k => Bx F w k ∨ k = w1.heap.size) _ r' { mb with ct := up m.ct 4 (m.ct 4 + 1) } := ⟨(HR1.out.below HBA.out).lo.st HCS.out (Gr.refl _ _), (HR1.out.below HBA.out).hi.st HCS.out (Gr.refl _ _)⟩
  have HCR := Lib.hid hrr
  have HCQ := Lib.hid ((HQ1.out.below HBA.out).st HCS.out (Gr.refl _ _))
  clear h2a h8a h22 h82 h83 h23 hwv hrr cv fv hg8
  refine wp_region_E (St (Bt w)) (by kernel_rfl) (fun wd hbd hsz => ?_)
  have HE2 := Lib.hid (HC2.out.below hbd)
  have HE8 := Lib.hid (HC8.out.below hbd)
  have HE4 := Lib.hid (HC4.out.below hbd)
  have HE6 := Lib.hid (HC6.out.below hbd)
  have HRE := Lib.hid (HCR.out.below hbd)
  have HQE := Lib.hid (HCQ.out.below hbd)
  have HBE := Lib.hid (below_on HCB.out hbd)
  have bt8 : ¬ Bt w w1.heap.size := by unfold Bt; have := HG8.out; omega
  clear hsz
  (refine takeE (St.tr (Bt w)) 0 (by simp only [List.getElem?_toArray, List.getElem?_cons_succ, List.getElem?_cons_zero]; rfl) (by kernel_rfl) (by kernel_rfl) (by kernel_rfl) (by exact fun _ _ _ h => h) (by first | (refine Or.inl ⟨by rfl, ?_⟩; intro W hW; exact exec_load_bk rowR (.tmp 2) rfl w.heap.size 0 rfl (HE2.out.st hW bt0) (RV.cl r' { mb with ct := up m.ct 4 (m.ct 4 + 1) }) rfl rfl) | exact Or.inr ⟨by rfl, rfl⟩) ?_; try simp only [Act.put, List.setIfInBounds_toArray, List.set_cons_zero, List.set_cons_succ])
  (refine takeE (St.tr (Bt w)) 1 (by simp only [List.getElem?_toArray, List.getElem?_cons_succ, List.getElem?_cons_zero]; rfl) (by kernel_rfl) (by kernel_rfl) (by kernel_rfl) (by exact fun _ _ _ h => h) (by first | (refine Or.inl ⟨by rfl, ?_⟩; intro W hW; go_simp; try with_reducible rfl) | exact Or.inr ⟨by rfl, rfl⟩) ?_; try simp only [Act.put, List.setIfInBounds_toArray, List.set_cons_zero, List.set_cons_succ])
  (refine takeE (St.tr (Bt w)) 2 (by simp only [List.getElem?_toArray, List.getElem?_cons_succ, List.getElem?_cons_zero]; rfl) (by kernel_rfl) (by kernel_rfl) (by kernel_rfl) (by exact fun _ _ _ h => h) (by first | (refine Or.inl ⟨by rfl, ?_⟩; intro W hW; exact exec_load_bk rowP (.tmp 8) rfl w1.heap.size 0 rfl (HE8.out.st hW bt8) q'.cl rfl rfl) | exact Or.inr ⟨by rfl, rfl⟩) ?_; try simp only [Act.put, List.setIfInBounds_toArray, List.set_cons_zero, List.set_cons_succ])
  refine wpAnyE_one (i := 3) (by kernel_rfl) (by simp only [List.getElem?_toArray, List.getElem?_cons_succ, List.getElem?_cons_zero]; rfl) (fun K hK => ?_)
  refine opwp_store_bk rowR rfl (.tmp 4) (.tmp 24) rfl (w.heap.size + 2) 0 rfl HE4.out (RV.cl r' { mb with ct := up m.ct 4 (m.ct 4 + 1) }) rfl rfl (by decide) (RV.cl_one _ _) ?_
  intro w5 h45 hw5
  rw [lay_all _ _ (by rfl)] at h45
  have HW5 := Lib.hid hw5
  have H45 := Lib.hid h45
  have H65 := Lib.hid (HE6.out.wr hw5 (by omega))
  have HZ5 := Lib.hid (show St (Bt w) wd w5 from wr_bt (by omega) hw5)
  refine hK.out _ _ HZ5.out ?_
  clear hK K
  try simp only [Act.put, List.setIfInBounds_toArray, List.set_cons_zero, List.set_cons_succ]
  (refine takeE (St.tr (Bt w)) 4 (by simp only [List.getElem?_toArray, List.getElem?_cons_succ, List.getElem?_cons_zero]; rfl) (by kernel_rfl) (by kernel_rfl) (by kernel_rfl) (by exact fun _ _ _ h => h) (by first | (refine Or.inl ⟨by rfl, ?_⟩; intro W hW; go_simp; try with_reducible rfl) | exact Or.inr ⟨by rfl, rfl⟩) ?_; try simp only [Act.put, List.setIfInBounds_toArray, List.set_cons_zero, List.set_cons_succ])
  refine wpAnyE_one (i := 5) (by kernel_rfl) (by simp only [List.getElem?_toArray, List.getElem?_cons_succ, List.getElem?_cons_zero]; rfl) (fun K hK => ?_)
  refine opwp_store_bk rowP rfl (.tmp 6) (.tmp 26) rfl (w.heap.size + 3) 0 rfl H65.out q'.cl rfl rfl (by decide) (Pv.cl_one _) ?_
  intro w6 h66 hw6
  rw [lay_all _ _ (by rfl)] at h66
  have HW6 := Lib.hid hw6
  have H66 := Lib.hid h66
  have H46 := Lib.hid (H45.out.wr hw6 (by omega))
  refine hK.out _ _ (wr_bt (by omega) hw6) ?_
  clear hK K
  try simp only [Act.put, List.setIfInBounds_toArray, List.set_cons_zero, List.set_cons_succ]
  refine wpAnyE_done (by kernel_rfl) ?_ _
  go_wp2
  have HSF : Hid (St (Bt w) wd w6) := Lib.hid (HZ5.out.trans (wr_bt (by omega) HW6.out) (Gr.refl _ _))
  have hsf2 : St (fun k => Bx F w k ∨ k = w1.heap.size) wd w6 := HSF.out.mono fun k _ hk => .inl (.inr (by unfold Bt at hk; omega))
  refine bodyPost_ret (results_ctc rfl rfl rfl (rowR.load H46.out 0 (cs := RV.cl r' { mb with ct := up m.ct 4 (m.ct 4 + 1) }) rfl rfl) (load_pk rowP H66.out)) rfl ?_
  exact ⟨r', q', by kernel_rfl, (HRE.out.st hsf2 (Gr.refl _ _)).mono fun k hk => .inl (.inl hk), HK.out, (HQE.out.st hsf2 (Gr.refl _ _)).mono fun k hk => .inl (.inl hk), (HBE.out.trans (HW5.out.below (by omega) HBE.out.size)).trans (HW6.out.below (by omega) (Nat.le_trans HBE.out.size HW5.out.size))⟩

theorem r_Put (h : RpR F w r m) (hq : PvR F w q) (hF : ∀ k, F k → k < w.heap.size) (hl : m.low.length ≤ 1024) (hh : m.high.length ≤ 1024) (hct : ∀ k, -1 ≤ m.ct k ∧ m.ct k ≤ 1000000) :
    Calls Try.prog 17 #[.agg #[.slice r.a1 r.n1 r.c1, .slice r.a2 r.n2 r.c2, .int .i64 m.lr, .int .i64 m.hr, .int .i64 m.wt, .int .i64 m.run, .int .i64 (m.ct 0), .int .i64 (m.ct 1), .int .i64 (m.ct 2), .int .i64 (m.ct 3), .int .i64 (m.ct 4)], .agg #[.int .i64 q.h.kd, .int .i64 q.h.fl, .int .i64 q.h.pa, .int .i64 q.h.sr, .int .i64 q.h.ds, .int .i64 q.h.cn, .int .i64 q.h.sq, .int .i64 q.h.pu, .slice q.A q.n q.c]] w (RPutTo F w (m.nx q.pk) (m.vd q.pk) (m.out q.pk)) := by
  rcases m.vd_cases q.pk with hv | hv | hv | hv
  · rw [hv]; exact r_Put1 h hq hF hl hh hct hv
  · rw [hv]; exact r_Put2 h hq hF hl hh hct hv
  · rw [hv]; exact r_Put3 h hq hF hl hh hct hv
  · rw [hv]; exact r_Put4 h hq hF hl hh hct hv
end
end Go.Proofs.Ytcmakhkbkfkhkaa
