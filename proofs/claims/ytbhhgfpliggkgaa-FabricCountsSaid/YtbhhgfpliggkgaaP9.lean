/- Ports: a packet is put: trimmed. -/
import Derived.Test.YtbhhgfpliggkgaaP8
import Derived.Test.YtbhhgfpliggkgaaKK
set_option linter.unusedSimpArgs false
set_option linter.unusedVariables false
set_option maxRecDepth 100000
namespace Go.Proofs.Ytbhhgfpliggkgaa
open Go.RowKit Go.Shelf

section
variable {F X : Nat → Prop} {w w' : World} {b : Nat} {m : AM} {pl ph : Nat} {Fl Fh : Nat → Prop} {ql qh : List Pv}
set_option maxHeartbeats 4000000 in
set_option maxRecDepth 100000 in
theorem pt_put2 (h : PbC F X w b m pl ph Fl Fh ql qh) {q : Pv} (hq : PvR F w q) (hct : ∀ k, -1 ≤ m.ct k ∧ m.ct k ≤ 1000000) (hv : m.vd q.pk = 2) (hroom : (m.sel (!q.pk.trim.heavy)).length + 1 ≤ m.room (!q.pk.trim.heavy)) :
    Calls Try.prog 45 #[.pointer (some ⟨b, 0, none⟩), .agg #[.int .i64 q.h.kd, .int .i64 q.h.fl, .int .i64 q.h.pa, .int .i64 q.h.sr, .int .i64 q.h.ds, .int .i64 q.h.cn, .int .i64 q.h.sq, .int .i64 q.h.pu, .slice q.A q.n q.c]] w (PutTo F X w b (({ m with ct := up m.ct 2 (m.ct 2 + 1) } : AM).put (!q.pk.trim.heavy) (m.sel (!q.pk.trim.heavy) ++ [q.pk.trim])) pl ph 2 q.pk.trim) := by
  have HRoom := Lib.hid hroom
  clear hroom
  have hF := h.bd
  have HF := Lib.hid hF
  have HX := Lib.hid h.xb
  have HM : Hid (∀ o o', Calls Try.prog 49 #[.pointer (some ⟨b, 0, none⟩)] ((w.alloc o).alloc o') fun e w' => e = .returned (.bool true) ∧ (w.alloc o).alloc o' = w') := Lib.hid fun o o' => pt_made (h.below (((Below.refl _ _).alloc (Nat.le_refl _) o).alloc (by simp) o'))
  have HV : Hid (∀ o o', Calls Try.prog 61 #[.pointer (some ⟨b, 0, none⟩), .agg #[.int .i64 q.h.kd, .int .i64 q.h.fl, .int .i64 q.h.pa, .int .i64 q.h.sr, .int .i64 q.h.ds, .int .i64 q.h.cn, .int .i64 q.h.sq, .int .i64 q.h.pu, .slice q.A q.n q.c]] ((w.alloc o).alloc o') fun e w' => e = .returned (.int .i64 2) ∧ Below ((w.alloc o).alloc o').heap.size ((w.alloc o).alloc o') w') := Lib.hid fun o o' => by
    have hb : Below w.heap.size w ((w.alloc o).alloc o') := ((Below.refl _ _).alloc (Nat.le_refl _) o).alloc (by simp) o'
    have := pt_verdict (h.below hb) (hq.below hb) (fun k hk => by have := HF.out k hk; simp; omega)
    rw [hv] at this; exact this
  have HH := Lib.hid h
  have HQ := Lib.hid hq
  have hcv := hct 2
  clear h hq hF hv
  go_enter Try.func45, Try.ntmps45
  go_wp2_with (first
    | (go_at_call 49; refine (HM.out _ _).mono ?_; rintro e w' ⟨rfl, rfl⟩)
    | (with_reducible refine at_load 65 (.tmp 3) (by rfl) ?_; refine wpList_load_pk rowP rfl (.tmp 3) rfl q w.heap.size 0 rfl (Bk.pk (q := q) ((Bk.new w 65 [.int .i64 q.h.kd, .int .i64 q.h.fl, .int .i64 q.h.pa, .int .i64 q.h.sr, .int .i64 q.h.ds, .int .i64 q.h.cn, .int .i64 q.h.sq, .int .i64 q.h.pu, .slice q.A q.n q.c]).alloc (.cells (List.toArray [.int .i64 0, .int .i64 0, .int .i64 0, .int .i64 0, .int .i64 0, .int .i64 0, .int .i64 0, .int .i64 0, .slice none 0 0]) 65))) ?_)
    | (go_at_call 61; refine (HV.out _ _).mono ?_; rintro e w1 ⟨rfl, hb1⟩))
  refine wp_region_L Ext [10] (by kernel_rfl) (fun wd hbd hsz => ?_)
  obtain ⟨hx0, hy0, hc0⟩ := pk_new2 hb1
  have hp0 := (HH.out.ext hc0 (X1 := fun k => X k ∨ k = w.heap.size ∨ k = w.heap.size + 1) (fun k hk => hk.imp id (by omega)) (fun k hk => by
    rcases hk with hk | hk
    · exact Nat.lt_of_lt_of_le (HX.out k hk) hc0.size
    · have := hx0.lt; have := hy0.lt; omega)).below hbd
  have hx1 := hx0.below hbd
  have hy1 := hy0.below hbd
  have hc1 := below_on hc0 hbd
  have hq1 := HQ.out.below hc1
  have hw : IntKind.i64.wrap (m.ct 2 + 1) = m.ct 2 + 1 := by rw [IntKind.wrap_i64]; omega
  have q0 : ∀ W, Ext wd W → W.cell? ⟨b, 6, none⟩ = some (.int .i64 (m.ct 2)) := fun W hW => (hp0.bk.below hW).cell 6 rfl
  have f0 := hp0.bk.free 6
  have c0 := hp0.bk.cell 6 rfl
  obtain ⟨hp2, hs2⟩ := hp0.cell 6 (.int .i64 (m.ct 2 + 1)) hp0.ru (ct := up m.ct 2 (m.ct 2 + 1)) rfl
  have hbw : b < w.heap.size := HH.out.bk.lt
  have hx2 := hx1.far (p := ⟨b, 6, none⟩) (show w.heap.size ≠ b by omega) (.int .i64 (m.ct 2 + 1))
  have hy2 := hy1.far (p := ⟨b, 6, none⟩) (show w.heap.size + 1 ≠ b by omega) (.int .i64 (m.ct 2 + 1))
  have hq2 := hq1.st hs2 (Gr.refl _ _)
  have hst2 := (St.ext (F := F) hc1).trans hs2 (Gr.refl _ _)
  have HP2 := Lib.hid hp2
  have HX2 := Lib.hid hx2
  have HY := Lib.hid hy2
  have HQ2 := Lib.hid hq2
  have HS2 := Lib.hid hst2
  clear hsz hb1 hx0 hy0 hc0 hp0 hx1 hy1 hc1 hq1 hp2 hs2 hx2 hy2 hq2 hst2 hbw hct
  (refine takeL Ext.tr 0 (by simp only [List.getElem?_toArray, List.getElem?_cons_succ, List.getElem?_cons_zero]; rfl) (by kernel_rfl) (by kernel_rfl) (by kernel_rfl) (by kernel_rfl) (by exact fun _ _ _ h => h) (by first | (refine Or.inl ⟨by rfl, ?_⟩; intro W hW; go_simp; try with_reducible rfl) | exact Or.inr ⟨by rfl, rfl⟩) ?_; try simp only [Act.put, List.setIfInBounds_toArray, List.set_cons_zero, List.set_cons_succ])
  (refine takeL Ext.tr 1 (by simp only [List.getElem?_toArray, List.getElem?_cons_succ, List.getElem?_cons_zero]; rfl) (by kernel_rfl) (by kernel_rfl) (by kernel_rfl) (by kernel_rfl) (by exact fun _ _ _ h => h) (by first | (refine Or.inl ⟨by rfl, ?_⟩; intro W hW; go_simp; try with_reducible rfl) | exact Or.inr ⟨by rfl, rfl⟩) ?_; try simp only [Act.put, List.setIfInBounds_toArray, List.set_cons_zero, List.set_cons_succ])
  (refine takeL Ext.tr 2 (by simp only [List.getElem?_toArray, List.getElem?_cons_succ, List.getElem?_cons_zero]; rfl) (by kernel_rfl) (by kernel_rfl) (by kernel_rfl) (by kernel_rfl) (by exact fun _ _ _ h => h) (by first | (refine Or.inl ⟨by rfl, ?_⟩; intro W hW; go_simp; try with_reducible rfl) | exact Or.inr ⟨by rfl, rfl⟩) ?_; try simp only [Act.put, List.setIfInBounds_toArray, List.set_cons_zero, List.set_cons_succ])
  (refine takeL Ext.tr 7 (by simp only [List.getElem?_toArray, List.getElem?_cons_succ, List.getElem?_cons_zero]; rfl) (by kernel_rfl) (by kernel_rfl) (by kernel_rfl) (by kernel_rfl) (by exact fun _ _ _ h => h) (by first | (refine Or.inl ⟨by rfl, ?_⟩; intro W hW; go_simp; try with_reducible rfl) | exact Or.inr ⟨by rfl, rfl⟩) ?_; try simp only [Act.put, List.setIfInBounds_toArray, List.set_cons_zero, List.set_cons_succ])
  (refine takeL Ext.tr 3 (by simp only [List.getElem?_toArray, List.getElem?_cons_succ, List.getElem?_cons_zero]; rfl) (by kernel_rfl) (by kernel_rfl) (by kernel_rfl) (by kernel_rfl) (by exact fun _ _ _ h => h) (by first | (refine Or.inl ⟨by rfl, ?_⟩; intro W hW; go_simp; try with_reducible rfl) | exact Or.inr ⟨by rfl, rfl⟩) ?_; try simp only [Act.put, List.setIfInBounds_toArray, List.set_cons_zero, List.set_cons_succ])
  (refine takeL Ext.tr 8 (by simp only [List.getElem?_toArray, List.getElem?_cons_succ, List.getElem?_cons_zero]; rfl) (by kernel_rfl) (by kernel_rfl) (by kernel_rfl) (by kernel_rfl) (by exact fun _ _ _ h => h) (by first | (refine Or.inl ⟨by rfl, ?_⟩; intro W hW; go_simp; try with_reducible rfl) | exact Or.inr ⟨by rfl, rfl⟩) ?_; try simp only [Act.put, List.setIfInBounds_toArray, List.set_cons_zero, List.set_cons_succ])
  (refine takeL Ext.tr 4 (by simp only [List.getElem?_toArray, List.getElem?_cons_succ, List.getElem?_cons_zero]; rfl) (by kernel_rfl) (by kernel_rfl) (by kernel_rfl) (by kernel_rfl) (by exact fun _ _ _ h => h) (by first | (refine Or.inl ⟨by rfl, ?_⟩; intro W hW; go_simp; try with_reducible rfl) | exact Or.inr ⟨by rfl, rfl⟩) ?_; try simp only [Act.put, List.setIfInBounds_toArray, List.set_cons_zero, List.set_cons_succ])
  (refine takeL Ext.tr 5 (by simp only [List.getElem?_toArray, List.getElem?_cons_succ, List.getElem?_cons_zero]; rfl) (by kernel_rfl) (by kernel_rfl) (by kernel_rfl) (by kernel_rfl) (by exact fun _ _ _ h => h) (by first | (refine Or.inl ⟨by rfl, ?_⟩; intro W hW; go_simp; try with_reducible rfl) | exact Or.inr ⟨by rfl, rfl⟩) ?_; try simp only [Act.put, List.setIfInBounds_toArray, List.set_cons_zero, List.set_cons_succ])
  (refine takeL Ext.tr 6 (by simp only [List.getElem?_toArray, List.getElem?_cons_succ, List.getElem?_cons_zero]; rfl) (by kernel_rfl) (by kernel_rfl) (by kernel_rfl) (by kernel_rfl) (by exact fun _ _ _ h => h) (by first | (refine Or.inl ⟨by rfl, ?_⟩; intro W hW; go_simp; try with_reducible rfl) | exact Or.inr ⟨by rfl, rfl⟩) ?_; try simp only [Act.put, List.setIfInBounds_toArray, List.set_cons_zero, List.set_cons_succ])
  (refine takeL Ext.tr 9 (by simp only [List.getElem?_toArray, List.getElem?_cons_succ, List.getElem?_cons_zero]; rfl) (by kernel_rfl) (by kernel_rfl) (by kernel_rfl) (by kernel_rfl) (by exact fun _ _ _ h => h) (by first | (refine Or.inl ⟨by rfl, ?_⟩; intro W hW; go_simp; try with_reducible rfl) | exact Or.inr ⟨by rfl, rfl⟩) ?_; try simp only [Act.put, List.setIfInBounds_toArray, List.set_cons_zero, List.set_cons_succ])
  refine wpAnyL_one (i := 10) (by kernel_rfl) (by simp only [List.getElem?_toArray, List.getElem?_cons_succ, List.getElem?_cons_zero]; rfl) (fun K hK => ?_)
  go_simp
  refine hK.out _ _ (.inl (by decide)) ?_
  clear hK K
  try simp only [Act.put, List.setIfInBounds_toArray, List.set_cons_zero, List.set_cons_succ]
  refine wpAnyL_done (by kernel_rfl) ?_ _
  skip
  have HB := Lib.hid HP2.out.bd
  have HXB := Lib.hid HP2.out.xb
  have HTr := Lib.hid (p_trim (F := fun k => F k ∨ X k ∨ k = w.heap.size ∨ k = w.heap.size + 1) HQ2.out (fun k hk => hk.elim (HB.out k) (HXB.out k)))
  go_wp2_with (first
    | (with_reducible refine at_load 65 (.tmp 3) (by rfl) ?_; refine wpList_load_pk rowP rfl (.tmp 3) rfl q w.heap.size 0 rfl (Bk.pk (q := q) HX2.out) ?_)
    | (go_at_call 63; refine HTr.out.mono ?_; rintro e w3 ⟨q1, rfl, hq1, hr1, hb3⟩; have hx3 := HX2.out.below hb3)
    | (with_reducible refine at_store 65 (.tmp 3) (.tmp 43) (by rfl) ?_; refine wpList_put_pk rowP rfl (.tmp 3) (.tmp 43) rfl w.heap.size rfl hx3 rfl q1 rfl ?_; rintro w4 hx4 hw4))
  have hs4 : St (· = w.heap.size) w3 w4 := ⟨hw4.os, hw4.tape, hw4.output, hw4.size, fun k hk hn => hw4.block k hk (by intro e; injection e with e; exact hn e)⟩
  have HXI := Lib.hid hx4
  have HYI := Lib.hid ((HY.out.below hb3).wr hw4 (by omega))
  have HPI := Lib.hid ((HP2.out.below hb3).st hs4 (fun k hk e => by have := HF.out k hk; omega) (fun k hk => .inl (.inr (.inl hk))))
  have HSI : Hid (St F w w4) := Lib.hid ⟨hs4.os.trans (hb3.os.trans HS2.out.os), hs4.tape.trans (hb3.tape.trans HS2.out.tape), hs4.output.trans (hb3.output.trans HS2.out.output), Nat.le_trans (Nat.le_trans HS2.out.size hb3.size) hs4.size, fun k hk hn => (hs4.block k (Nat.lt_of_lt_of_le hk (Nat.le_trans HS2.out.size hb3.size)) (by omega)).trans ((hb3.block k (Nat.lt_of_lt_of_le hk HS2.out.size)).trans (HS2.out.block k hk hn))⟩
  have HQI : Hid (PvR F w4 q1) := Lib.hid ((hr1.wr hw4 fun hn ad he e => hr1.2.2.2 hn ad he (.inr (.inr (.inl e)))).mono fun k hk => .inl hk)
  have HQ1 := Lib.hid hq1
  clear HP2 HX2 HY HQ2 HS2 hx3 hx4 hw4 hs4 hb3 hr1 hq1
  refine wp_region_E (St F) (by kernel_rfl) (fun wd hbd hsz => ?_)
  have HP5 := Lib.hid (HPI.out.below hbd)
  have HX5 := Lib.hid (HXI.out.below hbd)
  have HY5 := Lib.hid (HYI.out.below hbd)
  have HQ5 := Lib.hid (HQI.out.below hbd)
  have HS5 := Lib.hid (HSI.out.trans (St.ext hbd) (Gr.refl _ _))
  have HRoom5 := Lib.hid (show (({ m with ct := up m.ct 2 (m.ct 2 + 1) } : AM).sel (!q1.pk.heavy)).length + 1 ≤ ({ m with ct := up m.ct 2 (m.ct 2 + 1) } : AM).room (!q1.pk.heavy) by rw [HQ1.out]; exact HRoom.out)
  have HBd : Hid (∀ k, (F k ∨ X k ∨ k = w.heap.size ∨ k = w.heap.size + 1) → k < wd.heap.size) := Lib.hid fun k hk => hk.elim (HP5.out.bd k) (HP5.out.xb k)
  have hnF0 : ¬ F w.heap.size := fun hf => by have := HF.out _ hf; omega
  have hnF1 : ¬ F (w.heap.size + 1) := fun hf => by have := HF.out _ hf; omega
  have hcur : Below wd.heap.size wd wd := Below.refl _ _
  clear hsz HPI HXI HYI HQI HSI hbd
  (refine takeE (St.tr F) 0 (by simp only [List.getElem?_toArray, List.getElem?_cons_succ, List.getElem?_cons_zero]; rfl) (by kernel_rfl) (by kernel_rfl) (by kernel_rfl) (by exact fun _ _ _ h => h) (by first | (refine Or.inl ⟨by rfl, ?_⟩; intro W hW; go_simp; try with_reducible rfl) | exact Or.inr ⟨by rfl, rfl⟩) ?_; try simp only [Act.put, List.setIfInBounds_toArray, List.set_cons_zero, List.set_cons_succ])
  (refine takeE (St.tr F) 1 (by simp only [List.getElem?_toArray, List.getElem?_cons_succ, List.getElem?_cons_zero]; rfl) (by kernel_rfl) (by kernel_rfl) (by kernel_rfl) (by exact fun _ _ _ h => h) (by first | (refine Or.inl ⟨by rfl, ?_⟩; intro W hW; exact exec_load_bk rowP (.tmp 3) rfl w.heap.size 0 rfl (HX5.out.st hW hnF0) q1.cl rfl rfl) | exact Or.inr ⟨by rfl, rfl⟩) ?_; try simp only [Act.put, List.setIfInBounds_toArray, List.set_cons_zero, List.set_cons_succ])
  (refine takeE (St.tr F) 3 (by simp only [List.getElem?_toArray, List.getElem?_cons_succ, List.getElem?_cons_zero]; rfl) (by kernel_rfl) (by kernel_rfl) (by kernel_rfl) (by exact fun _ _ _ h => h) (by first | (refine Or.inl ⟨by rfl, ?_⟩; intro W hW; exact exec_load_bk rowP (.tmp 3) rfl w.heap.size 0 rfl (HX5.out.st hW hnF0) q1.cl rfl rfl) | exact Or.inr ⟨by rfl, rfl⟩) ?_; try simp only [Act.put, List.setIfInBounds_toArray, List.set_cons_zero, List.set_cons_succ])
  refine wpAnyE_one (i := 2) (by kernel_rfl) (by simp only [List.getElem?_toArray, List.getElem?_cons_succ, List.getElem?_cons_zero]; rfl) (fun K hK => ?_)
  go_simp
  refine (pt_queueOf (HP5.out.below hcur) (HQ5.out.below hcur)).mono ?_
  rintro e wq ⟨rfl, hbq⟩
  replace hcur := below_on hcur hbq
  try replace hr' := hr'.below hbq
  try replace hrd := hrd.below hbq
  refine hK.out _ _ (St.ext hbq) ?_
  clear hK K
  try simp only [Act.put, List.setIfInBounds_toArray, List.set_cons_zero, List.set_cons_succ]
  refine wpAnyE_one (i := 4) (by kernel_rfl) (by simp only [List.getElem?_toArray, List.getElem?_cons_succ, List.getElem?_cons_zero]; rfl) (fun K hK => ?_)
  go_simp
  refine (p_alike (F := fun k => F k ∨ X k ∨ k = w.heap.size ∨ k = w.heap.size + 1) (HQ5.out.below hcur) (fun k hk => Nat.lt_of_lt_of_le (HBd.out k hk) hcur.size)).mono ?_
  rintro e wa ⟨q', rfl, hq', hr', hba⟩
  replace hcur := below_on hcur hba
  refine hK.out _ _ (St.ext hba) ?_
  clear hK K
  try simp only [Act.put, List.setIfInBounds_toArray, List.set_cons_zero, List.set_cons_succ]
  refine wpAnyE_one (i := 5) (by kernel_rfl) (by simp only [List.getElem?_toArray, List.getElem?_cons_succ, List.getElem?_cons_zero]; rfl) (fun K hK => ?_)
  go_simp
  have hrd := RdR.one wa 65 q'.cl q'.cl_one
  replace hcur := hcur.alloc hcur.size (.cells q'.cl.toArray 65)
  replace hr' := hr'.below ((Below.refl _ _).alloc (Nat.le_refl _) (.cells q'.cl.toArray 65))
  refine hK.out _ _ (St.ext ((Below.refl _ _).alloc (Nat.le_refl _) _)) ?_
  clear hK K
  try simp only [Act.put, List.setIfInBounds_toArray, List.set_cons_zero, List.set_cons_succ]
  refine wpAnyE_one (i := 6) (by kernel_rfl) (by simp only [List.getElem?_toArray, List.getElem?_cons_succ, List.getElem?_cons_zero]; rfl) (fun K hK => ?_)
  go_simp
  refine (pt_push (HP5.out.below hcur) (!q1.pk.heavy) q' hr' _ _ hrd HRoom5.out).mono ?_
  rintro e w6 ⟨rfl, F', Fl', Fh', ql', qh', hp6, hs6, hg6⟩
  refine hK.out _ _ hs6 ?_
  clear hK K
  try simp only [Act.put, List.setIfInBounds_toArray, List.set_cons_zero, List.set_cons_succ]
  refine wpAnyE_done (by kernel_rfl) ?_ _
  skip
  all_goals
    have hst6 : St F wd w6 := (St.ext hcur).trans hs6 (Gr.refl _ _)
    have hx6 := HX5.out.st hst6 hnF0
    have hy6 := HY5.out.st hst6 hnF1
    have hgw : Gr F F' wd.heap.size := (Gr.refl F _).trans hg6 hcur.size
    have hq6 := HQ5.out.st hst6 hgw
    have HA6 := Lib.hid (p_alike (F := fun k => F' k ∨ X k ∨ k = w.heap.size ∨ k = w.heap.size + 1) hq6 (fun k hk => hk.elim (hp6.bd k) (hp6.xb k)))
    have HP6 := Lib.hid hp6
    have hnF6 : ¬ F' (w.heap.size + 1) := hgw.not HY5.out.lt hnF1
    have HG6 : Hid (Gr F F' w.heap.size) := Lib.hid ((Gr.refl F _).trans hgw HS5.out.size)
    have HS6 := Lib.hid (HS5.out.trans hst6 (Gr.refl _ _))
    clear hs6 hg6 hp6 hq6 hcur hr' hrd hst6 hgw HQ5
    go_wp2_with (first
      | (with_reducible refine at_load 65 (.tmp 3) (by rfl) ?_; refine wpList_load_pk rowP rfl (.tmp 3) rfl q1 w.heap.size 0 rfl (Bk.pk (q := q1) hx6) ?_)
      | (go_at_call 54; refine HA6.out.mono ?_; rintro e w7 ⟨q7, rfl, hq7, hr7, hb7⟩; have hy7 := hy6.below hb7)
      | (with_reducible refine at_store 65 (.tmp 5) (.tmp 54) (by rfl) ?_; refine wpList_put_pk rowP rfl (.tmp 5) (.tmp 54) rfl (w.heap.size + 1) rfl hy7 rfl q7 rfl ?_; rintro w8 hz8 hw8))
    have hp7 := HP6.out.below hb7
    rw [show ({ m with ct := up m.ct 2 (m.ct 2 + 1) } : AM).sel (!q1.pk.heavy) = m.sel (!q1.pk.heavy) from rfl, hq', HQ1.out] at hp7
    have hs7 := HS6.out.trans (St.ext hb7) (Gr.refl _ _)
    exact bodyPost_ret (results_tmp_cell rfl rfl (load_pk rowP hz8)) rfl (PutTo.of hp7 hs7 HG6.out hnF6 hw8 hr7 (hq7.trans HQ1.out) (by kernel_rfl))
/-- What Put makes of a port. -/
theorem pt_put (h : PbC F X w b m pl ph Fl Fh ql qh) {q : Pv} (hq : PvR F w q) (hct : ∀ k, -1 ≤ m.ct k ∧ m.ct k ≤ 1000000) :
    Calls Try.prog 45 #[.pointer (some ⟨b, 0, none⟩), .agg #[.int .i64 q.h.kd, .int .i64 q.h.fl, .int .i64 q.h.pa, .int .i64 q.h.sr, .int .i64 q.h.ds, .int .i64 q.h.cn, .int .i64 q.h.sq, .int .i64 q.h.pu, .slice q.A q.n q.c]] w (PutTo F X w b (m.nx q.pk) pl ph (m.vd q.pk) (m.out q.pk)) := by
  rcases m.vd_cases q.pk with hv | hv | hv | hv
  · have := pt_put1 h hq hct hv (AM.vd_one hv)
    have e : m.nx q.pk = ({ m with ct := up m.ct 1 (m.ct 1 + 1) } : AM).put (!q.pk.heavy) (m.sel (!q.pk.heavy) ++ [q.pk]) := by
      unfold AM.nx AM.base
      rw [if_pos hv, hv]
      cases q.pk.heavy <;> rfl
    rw [e, hv, show m.out q.pk = q.pk by unfold AM.out; rw [if_pos hv]]
    exact this
  · have h2 := AM.vd_two hv
    have hl := Pk.trim_light h2.1
    have hr : (m.sel (!q.pk.trim.heavy)).length + 1 ≤ m.room (!q.pk.trim.heavy) := by rw [hl]; exact h2.2
    have := pt_put2 h hq hct hv hr
    have e : m.nx q.pk = ({ m with ct := up m.ct 2 (m.ct 2 + 1) } : AM).put (!q.pk.trim.heavy) (m.sel (!q.pk.trim.heavy) ++ [q.pk.trim]) := by
      unfold AM.nx AM.base
      rw [if_neg (by omega), if_pos hv, hv, hl]
      rfl
    rw [e, hv, show m.out q.pk = q.pk.trim by unfold AM.out; rw [if_neg (by omega), if_pos hv]]
    exact this
  · have := pt_put3 h hq hct hv
    have e : m.nx q.pk = { m with ct := up m.ct 3 (m.ct 3 + 1) } := by
      unfold AM.nx AM.base
      rw [if_neg (by omega), if_neg (by omega), hv]
    rw [e, hv, show m.out q.pk = q.pk.ret by unfold AM.out; rw [if_neg (by omega), if_neg (by omega), if_pos hv]]
    exact this
  · have := pt_put4 h hq hct hv
    have e : m.nx q.pk = { m with ct := up m.ct 4 (m.ct 4 + 1) } := by
      unfold AM.nx AM.base
      rw [if_neg (by omega), if_neg (by omega), hv]
    rw [e, hv, show m.out q.pk = Pk.zero by unfold AM.out; rw [if_neg (by omega), if_neg (by omega), if_neg (by omega)]]
    exact this
end
end Go.Proofs.Ytbhhgfpliggkgaa
