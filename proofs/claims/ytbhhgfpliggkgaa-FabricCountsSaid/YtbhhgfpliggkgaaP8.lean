/- Ports: a packet is put. -/
import Derived.Test.YtbhhgfpliggkgaaP7
import Derived.Test.YtbhhgfpliggkgaaKK
set_option linter.unusedSimpArgs false
set_option linter.unusedVariables false
set_option maxRecDepth 100000
namespace Go.Proofs.Ytbhhgfpliggkgaa
open Go.RowKit Go.Shelf

theorem Pk.trim_of_heavy {x : Pk} (hc : x.chk = true) (hh : x.heavy = true) : x.trimB = true := by
  unfold Pk.heavy at hh
  simp only [Bool.and_eq_true, beq_iff_eq, decide_eq_true_eq] at hh
  have hd := hc
  unfold Pk.chk chkB kdB at hd
  rw [if_pos (by simp [hh.1])] at hd
  simp only [Bool.and_eq_true] at hd
  obtain ⟨-, -, hd⟩ := hd
  unfold dtB at hd
  unfold Pk.trimB Pk.isd isdB
  rw [show chkB x.h x.xs.length = true from hc]
  cases h4 : hasB x.h.fl 4 <;> cases h8 : hasB x.h.fl 8 <;> simp_all <;> omega
theorem Pk.trim_light {x : Pk} (h : x.trimB = true) : x.trim.heavy = false := by
  unfold Pk.trim
  rw [if_pos h]
  simp [Pk.heavy]
def AM.out (m : AM) (x : Pk) : Pk := if m.vd x = 1 then x else if m.vd x = 2 then x.trim else if m.vd x = 3 then x.ret else Pk.zero
def AM.base (m : AM) (x : Pk) : AM := if m.vd x = 1 then m.put (!x.heavy) (m.sel (!x.heavy) ++ [x]) else if m.vd x = 2 then m.put true (m.high ++ [x.trim]) else m
def AM.nx (m : AM) (x : Pk) : AM := { m.base x with ct := up m.ct (m.vd x) (m.ct (m.vd x) + 1) }
theorem AM.vd_cases (m : AM) (x : Pk) : m.vd x = 1 ∨ m.vd x = 2 ∨ m.vd x = 3 ∨ m.vd x = 4 := by
  unfold AM.vd
  repeat' split
  all_goals simp
theorem AM.vd_one {m : AM} {x : Pk} (h : m.vd x = 1) : (m.sel (!x.heavy)).length < m.room (!x.heavy) := by
  unfold AM.vd at h
  split at h
  · omega
  · split at h
    · assumption
    · split at h
      · omega
      · split at h <;> omega
theorem AM.vd_two {m : AM} {x : Pk} (h : m.vd x = 2) : x.trimB = true ∧ m.high.length < m.hr := by
  unfold AM.vd at h
  split at h
  · omega
  · rename_i hc
    split at h
    · omega
    · rename_i hn
      split at h
      · rename_i hh
        refine ⟨Pk.trim_of_heavy (by simpa using hc) ?_, hh⟩
        cases hv : x.heavy with
        | true => rfl
        | false => rw [hv] at hn; exact absurd hh hn
      · split at h <;> omega
section
variable {F X : Nat → Prop} {w w' : World} {b : Nat} {m : AM} {pl ph : Nat} {Fl Fh : Nat → Prop} {ql qh : List Pv}
/-- What Put leaves. -/
def PutTo (F X : Nat → Prop) (w : World) (b : Nat) (m' : AM) (pl ph : Nat) (v : Nat) (x : Pk) (e : Ending) (w' : World) : Prop :=
  ∃ q', e = .returned (.tuple #[.int .i64 v, .agg #[.int .i64 q'.h.kd, .int .i64 q'.h.fl, .int .i64 q'.h.pa, .int .i64 q'.h.sr, .int .i64 q'.h.ds, .int .i64 q'.h.cn, .int .i64 q'.h.sq, .int .i64 q'.h.pu, .slice q'.A q'.n q'.c]]) ∧ q'.pk = x ∧ ∃ F' Fl' Fh' ql' qh', PbC F' X w' b m' pl ph Fl' Fh' ql' qh' ∧ St F w w' ∧ Gr F F' w.heap.size ∧ PvR (fun k => F' k ∨ X k) w' q'
theorem results_tmp_cell {P : Program} {w : World} {fn : Func} {s u : Tmp} {ty : TypeId} (h : fn.results = #[.tmp u, .cell s ty]) {tmps : Array Value} {a : Addr} (ha : tmps.getD s undef = .pointer (some a)) {v : Value} (hl : (loadVar ty a).run P w = .ok v w) :
    (results fn tmps).run P w = .ok (.tuple #[tmps.getD u undef, v]) w := by
  rw [Array.getD_eq_getD_getElem?] at ha
  simp [results, h, ha, asAddr_some, hl]
theorem PutTo.of {m' : AM} {v : Nat} {x : Pk} {w4 w5 : World} {F' Fl' Fh' : Nat → Prop} {ql' qh' : List Pv} {q' : Pv} {e : Ending}
    (hp : PbC F' (fun k => X k ∨ k = w.heap.size ∨ k = w.heap.size + 1) w4 b m' pl ph Fl' Fh' ql' qh') (hs : St F w w4) (hg : Gr F F' w.heap.size) (hF' : ¬ F' (w.heap.size + 1)) (hw : Wr (w.heap.size + 1) w4 w5)
    (hr : PvR (fun k => F' k ∨ X k ∨ k = w.heap.size ∨ k = w.heap.size + 1) w4 q') (hk : q'.pk = x) (he : e = .returned (.tuple #[.int .i64 v, .agg #[.int .i64 q'.h.kd, .int .i64 q'.h.fl, .int .i64 q'.h.pa, .int .i64 q'.h.sr, .int .i64 q'.h.ds, .int .i64 q'.h.cn, .int .i64 q'.h.sq, .int .i64 q'.h.pu, .slice q'.A q'.n q'.c]])) : PutTo F X w b m' pl ph v x e w5 := by
  have hs5 : St (· = w.heap.size + 1) w4 w5 := ⟨hw.os, hw.tape, hw.output, hw.size, fun k hk hn => hw.block k hk (by intro e; injection e with e; exact hn e)⟩
  refine ⟨q', he, hk, F', Fl', Fh', ql', qh', (hp.st hs5 (fun k hk e => hF' (e ▸ hk)) (fun k hk => .inl (.inr (.inr hk)))).less (fun k hk => .inl hk), ?_, hg, ?_⟩
  · exact ⟨hs5.os.trans hs.os, hs5.tape.trans hs.tape, hs5.output.trans hs.output, Nat.le_trans hs.size hs5.size, fun k hk hn => (hs5.block k (Nat.lt_of_lt_of_le hk hs.size) (by omega)).trans (hs.block k hk hn)⟩
  · exact (hr.wr hw fun hn ad he e => hr.2.2.2 hn ad he (.inr (.inr (.inr e)))).mono fun k hk => hk.imp id .inl
set_option maxHeartbeats 2000000 in
set_option maxRecDepth 100000 in
theorem pt_put4 (h : PbC F X w b m pl ph Fl Fh ql qh) {q : Pv} (hq : PvR F w q) (hct : ∀ k, -1 ≤ m.ct k ∧ m.ct k ≤ 1000000) (hv : m.vd q.pk = 4) :
    Calls Try.prog 45 #[.pointer (some ⟨b, 0, none⟩), .agg #[.int .i64 q.h.kd, .int .i64 q.h.fl, .int .i64 q.h.pa, .int .i64 q.h.sr, .int .i64 q.h.ds, .int .i64 q.h.cn, .int .i64 q.h.sq, .int .i64 q.h.pu, .slice q.A q.n q.c]] w (PutTo F X w b { m with ct := up m.ct 4 (m.ct 4 + 1) } pl ph 4 Pk.zero) := by
  have hF := h.bd
  have HF := Lib.hid hF
  have HX := Lib.hid h.xb
  have HM : Hid (∀ o o', Calls Try.prog 49 #[.pointer (some ⟨b, 0, none⟩)] ((w.alloc o).alloc o') fun e w' => e = .returned (.bool true) ∧ (w.alloc o).alloc o' = w') := Lib.hid fun o o' => pt_made (h.below (((Below.refl _ _).alloc (Nat.le_refl _) o).alloc (by simp) o'))
  have HV : Hid (∀ o o', Calls Try.prog 61 #[.pointer (some ⟨b, 0, none⟩), .agg #[.int .i64 q.h.kd, .int .i64 q.h.fl, .int .i64 q.h.pa, .int .i64 q.h.sr, .int .i64 q.h.ds, .int .i64 q.h.cn, .int .i64 q.h.sq, .int .i64 q.h.pu, .slice q.A q.n q.c]] ((w.alloc o).alloc o') fun e w' => e = .returned (.int .i64 4) ∧ Below ((w.alloc o).alloc o').heap.size ((w.alloc o).alloc o') w') := Lib.hid fun o o' => by
    have hb : Below w.heap.size w ((w.alloc o).alloc o') := ((Below.refl _ _).alloc (Nat.le_refl _) o).alloc (by simp) o'
    have := pt_verdict (h.below hb) (hq.below hb) (fun k hk => by have := HF.out k hk; simp; omega)
    rw [hv] at this; exact this
  have HH := Lib.hid h
  have HQ := Lib.hid hq
  have hcv := hct 4
  clear h hq hF hv
  go_enter Try.func45, Try.ntmps45
  go_wp2_with (first
    | (go_at_call 49; refine (HM.out _ _).mono ?_; rintro e w' ⟨rfl, rfl⟩)
    | (with_reducible refine at_load 65 (.tmp 3) (by rfl) ?_; refine wpList_load_pk rowP rfl (.tmp 3) rfl q w.heap.size 0 rfl (Bk.pk (q := q) ((Bk.new w 65 [.int .i64 q.h.kd, .int .i64 q.h.fl, .int .i64 q.h.pa, .int .i64 q.h.sr, .int .i64 q.h.ds, .int .i64 q.h.cn, .int .i64 q.h.sq, .int .i64 q.h.pu, .slice q.A q.n q.c]).alloc (.cells (List.toArray [.int .i64 0, .int .i64 0, .int .i64 0, .int .i64 0, .int .i64 0, .int .i64 0, .int .i64 0, .int .i64 0, .slice none 0 0]) 65))) ?_)
    | (go_at_call 61; refine (HV.out _ _).mono ?_; rintro e w1 ⟨rfl, hb1⟩))
  refine wp_region_L Ext [10] (by kernel_rfl) (fun wd hbd hsz => ?_)
  obtain ⟨hx0, hy0, hc0⟩ := pk_new2 hb1
  have hp0 := (HH.out.ext hc0 (X1 := fun k => X k ∨ k = w.heap.size ∨ k = w.heap.size + 1) (fun k hk => hk.imp id (by omega)) (fun k hk => by
    rcases hk with hk | hk
    · exact Nat.lt_of_lt_of_le (HX.out k hk) hc0.size
    · have := hx0.lt; have := hy0.lt; omega)).below hbd
  have hx1 := hx0.below hbd
  have hy1 := hy0.below hbd
  have hc1 := below_on hc0 hbd
  have hq1 := HQ.out.below hc1
  have hw : IntKind.i64.wrap (m.ct 4 + 1) = m.ct 4 + 1 := by rw [IntKind.wrap_i64]; omega
  have q0 : ∀ W, Ext wd W → W.cell? ⟨b, 8, none⟩ = some (.int .i64 (m.ct 4)) := fun W hW => (hp0.bk.below hW).cell 8 rfl
  have f0 := hp0.bk.free 8
  have c0 := hp0.bk.cell 8 rfl
  obtain ⟨hp2, hs2⟩ := hp0.cell 8 (.int .i64 (m.ct 4 + 1)) hp0.ru (ct := up m.ct 4 (m.ct 4 + 1)) rfl
  have hbw : b < w.heap.size := HH.out.bk.lt
  have hx2 := hx1.far (p := ⟨b, 8, none⟩) (show w.heap.size ≠ b by omega) (.int .i64 (m.ct 4 + 1))
  have hy2 := hy1.far (p := ⟨b, 8, none⟩) (show w.heap.size + 1 ≠ b by omega) (.int .i64 (m.ct 4 + 1))
  have hq2 := hq1.st hs2 (Gr.refl _ _)
  have hst2 := (St.ext (F := F) hc1).trans hs2 (Gr.refl _ _)
  have HP2 := Lib.hid hp2
  have HX2 := Lib.hid hx2
  have HY := Lib.hid hy2
  have HQ2 := Lib.hid hq2
  have HS2 := Lib.hid hst2
  clear hsz hb1 hx0 hy0 hc0 hp0 hx1 hy1 hc1 hq1 hp2 hs2 hx2 hy2 hq2 hst2 hbw hct
  (refine takeL Ext.tr 0 (by simp only [List.getElem?_toArray, List.getElem?_cons_succ, List.getElem?_cons_zero]; rfl) (by kernel_rfl) (by kernel_rfl) (by kernel_rfl) (by kernel_rfl) (by exact fun _ _ _ h => h) (by first | (refine Or.inl ⟨by rfl, ?_⟩; intro W hW; go_simp; try with_reducible rfl) | exact Or.inr ⟨by rfl, rfl⟩) ?_; try simp only [Act.put, List.setIfInBounds_toArray, List.set_cons_zero, List.set_cons_succ])
  (refine takeL Ext.tr 1 (by simp only [List.getElem?_toArray, List.getElem?_cons_succ, List.getElem?_cons_zero]; rfl) (by kernel_rfl) (by kernel_rfl) (by kernel_rfl) (by kernel_rfl) (by exact fun _ _ _ h => h) (by first | (refine Or.inl ⟨by rfl, ?_⟩; intro W hW; go_simp; try with_reducible rfl) | exact Or.inr ⟨by rfl, rfl⟩) ?_; try simp only [Act.put, List.setIfInBounds_toArray, List.set_cons_zero, List.set_cons_succ])
  (refine takeL Ext.tr 2 (by simp only [List.getElem?_toArray, List.getElem?_cons_succ, List.getElem?_cons_zero]; rfl) (by kernel_rfl) (by kernel_rfl) (by kernel_rfl) (by kernel_rfl) (by exact fun _ _ _ h => h) (by first | (refine Or.inl ⟨by rfl, ?_⟩; intro W hW; go_simp; try with_reducible rfl) | exact Or.inr ⟨by rfl, rfl⟩) ?_; try simp only [Act.put, List.setIfInBounds_toArray, List.set_cons_zero, List.set_cons_succ])
  (refine takeL Ext.tr 7 (by simp only [List.getElem?_toArray, List.getElem?_cons_succ, List.getElem?_cons_zero]; rfl) (by kernel_rfl) (by kernel_rfl) (by kernel_rfl) (by kernel_rfl) (by exact fun _ _ _ h => h) (by first | (refine Or.inl ⟨by rfl, ?_⟩; intro W hW; go_simp; try with_reducible rfl) | exact Or.inr ⟨by rfl, rfl⟩) ?_; try simp only [Act.put, List.setIfInBounds_toArray, List.set_cons_zero, List.set_cons_succ])
  (refine takeL Ext.tr 3 (by simp only [List.getElem?_toArray, List.getElem?_cons_succ, List.getElem?_cons_zero]; rfl) (by kernel_rfl) (by kernel_rfl) (by kernel_rfl) (by kernel_rfl) (by exact fun _ _ _ h => h) (by first | (refine Or.inl ⟨by rfl, ?_⟩; intro W hW; go_simp; try with_reducible rfl) | exact Or.inr ⟨by rfl, rfl⟩) ?_; try simp only [Act.put, List.setIfInBounds_toArray, List.set_cons_zero, List.set_cons_succ])
  (refine takeL Ext.tr 8 (by simp only [List.getElem?_toArray, List.getElem?_cons_succ, List.getElem?_cons_zero]; rfl) (by kernel_rfl) (by kernel_rfl) (by kernel_rfl) (by kernel_rfl) (by exact fun _ _ _ h => h) (by first | (refine Or.inl ⟨by rfl, ?_⟩; intro W hW; go_simp; try with_reducible rfl) | exact Or.inr ⟨by rfl, rfl⟩) ?_; try simp only [Act.put, List.setIfInBounds_toArray, List.set_cons_zero, List.set_cons_succ])
  (refine takeL Ext.tr 4 (by simp only [List.getElem?_toArray, List.getElem?_cons_succ, List.getElem?_cons_zero]; rfl) (by kernel_rfl) (by kernel_rfl) (by kernel_rfl) (by kernel_rfl) (by exact fun _ _ _ h => h) (by first | (refine Or.inl ⟨by rfl, ?_⟩; intro W hW; go_simp; try with_reducible rfl) | exact Or.inr ⟨by rfl, rfl⟩) ?_; try simp only [Act.put, List.setIfInBounds_toArray, List.set_cons_zero, List.set_cons_succ])
  (refine takeL Ext.tr 5 (by simp only [List.getElem?_toArray, List.getElem?_cons_succ, List.getElem?_cons_zero]; rfl) (by kernel_rfl) (by kernel_rfl) (by kernel_rfl) (by kernel_rfl) (by exact fun _ _ _ h => h) (by first | (refine Or.inl ⟨by rfl, ?_⟩; intro W hW; go_simp; try with_reducible rfl) | exact Or.inr ⟨by rfl, rfl⟩) ?_; try simp only [Act.put, List.setIfInBounds_toArray, List.set_cons_zero, List.set_cons_succ])
  (refine takeL Ext.tr 6 (by simp only [List.getElem?_toArray, List.getElem?_cons_succ, List.getElem?_cons_zero]; rfl) (by kernel_rfl) (by kernel_rfl) (by kernel_rfl) (by kernel_rfl) (by exact fun _ _ _ h => h) (by first | (refine Or.inl ⟨by rfl, ?_⟩; intro W hW; go_simp; try with_reducible rfl) | exact Or.inr ⟨by rfl, rfl⟩) ?_; try simp only [Act.put, List.setIfInBounds_toArray, List.set_cons_zero, List.set_cons_succ])
  (refine takeL Ext.tr 9 (by simp only [List.getElem?_toArray, List.getElem?_cons_succ, List.getElem?_cons_zero]; rfl) (by kernel_rfl) (by kernel_rfl) (by kernel_rfl) (by kernel_rfl) (by exact fun _ _ _ h => h) (by first | (refine Or.inl ⟨by rfl, ?_⟩; intro W hW; go_simp; try with_reducible rfl) | exact Or.inr ⟨by rfl, rfl⟩) ?_; try simp only [Act.put, List.setIfInBounds_toArray, List.set_cons_zero, List.set_cons_succ])
  refine wpAnyL_one (i := 10) (by kernel_rfl) (by simp only [List.getElem?_toArray, List.getElem?_cons_succ, List.getElem?_cons_zero]; rfl) (fun K hK => ?_)
  go_simp
  refine hK.out _ _ (.inl (by decide)) ?_
  clear hK K
  try simp only [Act.put, List.setIfInBounds_toArray, List.set_cons_zero, List.set_cons_succ]
  refine wpAnyL_done (by kernel_rfl) ?_ _
  skip
  go_wp2_with (with_reducible refine at_store 65 (.tmp 5) (.tmp 55) (by rfl) ?_; refine wpList_put_pk rowP rfl (.tmp 5) (.tmp 55) rfl (w.heap.size + 1) rfl HY.out rfl zPv rfl ?_; rintro w5 hz5 hw5)
  exact bodyPost_ret (results_tmp_cell rfl rfl (load_pk rowP hz5)) rfl (PutTo.of HP2.out HS2.out (Gr.refl _ _) (fun hf => by have := HF.out _ hf; omega) hw5 (PvR.zero _ _) rfl (by kernel_rfl))
set_option maxHeartbeats 2000000 in
set_option maxRecDepth 100000 in
theorem pt_put3 (h : PbC F X w b m pl ph Fl Fh ql qh) {q : Pv} (hq : PvR F w q) (hct : ∀ k, -1 ≤ m.ct k ∧ m.ct k ≤ 1000000) (hv : m.vd q.pk = 3) :
    Calls Try.prog 45 #[.pointer (some ⟨b, 0, none⟩), .agg #[.int .i64 q.h.kd, .int .i64 q.h.fl, .int .i64 q.h.pa, .int .i64 q.h.sr, .int .i64 q.h.ds, .int .i64 q.h.cn, .int .i64 q.h.sq, .int .i64 q.h.pu, .slice q.A q.n q.c]] w (PutTo F X w b { m with ct := up m.ct 3 (m.ct 3 + 1) } pl ph 3 q.pk.ret) := by
  have hF := h.bd
  have HF := Lib.hid hF
  have HX := Lib.hid h.xb
  have HM : Hid (∀ o o', Calls Try.prog 49 #[.pointer (some ⟨b, 0, none⟩)] ((w.alloc o).alloc o') fun e w' => e = .returned (.bool true) ∧ (w.alloc o).alloc o' = w') := Lib.hid fun o o' => pt_made (h.below (((Below.refl _ _).alloc (Nat.le_refl _) o).alloc (by simp) o'))
  have HV : Hid (∀ o o', Calls Try.prog 61 #[.pointer (some ⟨b, 0, none⟩), .agg #[.int .i64 q.h.kd, .int .i64 q.h.fl, .int .i64 q.h.pa, .int .i64 q.h.sr, .int .i64 q.h.ds, .int .i64 q.h.cn, .int .i64 q.h.sq, .int .i64 q.h.pu, .slice q.A q.n q.c]] ((w.alloc o).alloc o') fun e w' => e = .returned (.int .i64 3) ∧ Below ((w.alloc o).alloc o').heap.size ((w.alloc o).alloc o') w') := Lib.hid fun o o' => by
    have hb : Below w.heap.size w ((w.alloc o).alloc o') := ((Below.refl _ _).alloc (Nat.le_refl _) o).alloc (by simp) o'
    have := pt_verdict (h.below hb) (hq.below hb) (fun k hk => by have := HF.out k hk; simp; omega)
    rw [hv] at this; exact this
  have HH := Lib.hid h
  have HQ := Lib.hid hq
  have hcv := hct 3
  clear h hq hF hv
  go_enter Try.func45, Try.ntmps45
  go_wp2_with (first
    | (go_at_call 49; refine (HM.out _ _).mono ?_; rintro e w' ⟨rfl, rfl⟩)
    | (with_reducible refine at_load 65 (.tmp 3) (by rfl) ?_; refine wpList_load_pk rowP rfl (.tmp 3) rfl q w.heap.size 0 rfl (Bk.pk (q := q) ((Bk.new w 65 [.int .i64 q.h.kd, .int .i64 q.h.fl, .int .i64 q.h.pa, .int .i64 q.h.sr, .int .i64 q.h.ds, .int .i64 q.h.cn, .int .i64 q.h.sq, .int .i64 q.h.pu, .slice q.A q.n q.c]).alloc (.cells (List.toArray [.int .i64 0, .int .i64 0, .int .i64 0, .int .i64 0, .int .i64 0, .int .i64 0, .int .i64 0, .int .i64 0, .slice none 0 0]) 65))) ?_)
    | (go_at_call 61; refine (HV.out _ _).mono ?_; rintro e w1 ⟨rfl, hb1⟩))
  refine wp_region_L Ext [10] (by kernel_rfl) (fun wd hbd hsz => ?_)
  obtain ⟨hx0, hy0, hc0⟩ := pk_new2 hb1
  have hp0 := (HH.out.ext hc0 (X1 := fun k => X k ∨ k = w.heap.size ∨ k = w.heap.size + 1) (fun k hk => hk.imp id (by omega)) (fun k hk => by
    rcases hk with hk | hk
    · exact Nat.lt_of_lt_of_le (HX.out k hk) hc0.size
    · have := hx0.lt; have := hy0.lt; omega)).below hbd
  have hx1 := hx0.below hbd
  have hy1 := hy0.below hbd
  have hc1 := below_on hc0 hbd
  have hq1 := HQ.out.below hc1
  have hw : IntKind.i64.wrap (m.ct 3 + 1) = m.ct 3 + 1 := by rw [IntKind.wrap_i64]; omega
  have q0 : ∀ W, Ext wd W → W.cell? ⟨b, 7, none⟩ = some (.int .i64 (m.ct 3)) := fun W hW => (hp0.bk.below hW).cell 7 rfl
  have f0 := hp0.bk.free 7
  have c0 := hp0.bk.cell 7 rfl
  obtain ⟨hp2, hs2⟩ := hp0.cell 7 (.int .i64 (m.ct 3 + 1)) hp0.ru (ct := up m.ct 3 (m.ct 3 + 1)) rfl
  have hbw : b < w.heap.size := HH.out.bk.lt
  have hx2 := hx1.far (p := ⟨b, 7, none⟩) (show w.heap.size ≠ b by omega) (.int .i64 (m.ct 3 + 1))
  have hy2 := hy1.far (p := ⟨b, 7, none⟩) (show w.heap.size + 1 ≠ b by omega) (.int .i64 (m.ct 3 + 1))
  have hq2 := hq1.st hs2 (Gr.refl _ _)
  have hst2 := (St.ext (F := F) hc1).trans hs2 (Gr.refl _ _)
  have HP2 := Lib.hid hp2
  have HX2 := Lib.hid hx2
  have HY := Lib.hid hy2
  have HQ2 := Lib.hid hq2
  have HS2 := Lib.hid hst2
  clear hsz hb1 hx0 hy0 hc0 hp0 hx1 hy1 hc1 hq1 hp2 hs2 hx2 hy2 hq2 hst2 hbw hct
  (refine takeL Ext.tr 0 (by simp only [List.getElem?_toArray, List.getElem?_cons_succ, List.getElem?_cons_zero]; rfl) (by kernel_rfl) (by kernel_rfl) (by kernel_rfl) (by kernel_rfl) (by exact fun _ _ _ h => h) (by first | (refine Or.inl ⟨by rfl, ?_⟩; intro W hW; go_simp; try with_reducible rfl) | exact Or.inr ⟨by rfl, rfl⟩) ?_; try simp only [Act.put, List.setIfInBounds_toArray, List.set_cons_zero, List.set_cons_succ])
  (refine takeL Ext.tr 1 (by simp only [List.getElem?_toArray, List.getElem?_cons_succ, List.getElem?_cons_zero]; rfl) (by kernel_rfl) (by kernel_rfl) (by kernel_rfl) (by kernel_rfl) (by exact fun _ _ _ h => h) (by first | (refine Or.inl ⟨by rfl, ?_⟩; intro W hW; go_simp; try with_reducible rfl) | exact Or.inr ⟨by rfl, rfl⟩) ?_; try simp only [Act.put, List.setIfInBounds_toArray, List.set_cons_zero, List.set_cons_succ])
  (refine takeL Ext.tr 2 (by simp only [List.getElem?_toArray, List.getElem?_cons_succ, List.getElem?_cons_zero]; rfl) (by kernel_rfl) (by kernel_rfl) (by kernel_rfl) (by kernel_rfl) (by exact fun _ _ _ h => h) (by first | (refine Or.inl ⟨by rfl, ?_⟩; intro W hW; go_simp; try with_reducible rfl) | exact Or.inr ⟨by rfl, rfl⟩) ?_; try simp only [Act.put, List.setIfInBounds_toArray, List.set_cons_zero, List.set_cons_succ])
  (refine takeL Ext.tr 7 (by simp only [List.getElem?_toArray, List.getElem?_cons_succ, List.getElem?_cons_zero]; rfl) (by kernel_rfl) (by kernel_rfl) (by kernel_rfl) (by kernel_rfl) (by exact fun _ _ _ h => h) (by first | (refine Or.inl ⟨by rfl, ?_⟩; intro W hW; go_simp; try with_reducible rfl) | exact Or.inr ⟨by rfl, rfl⟩) ?_; try simp only [Act.put, List.setIfInBounds_toArray, List.set_cons_zero, List.set_cons_succ])
  (refine takeL Ext.tr 3 (by simp only [List.getElem?_toArray, List.getElem?_cons_succ, List.getElem?_cons_zero]; rfl) (by kernel_rfl) (by kernel_rfl) (by kernel_rfl) (by kernel_rfl) (by exact fun _ _ _ h => h) (by first | (refine Or.inl ⟨by rfl, ?_⟩; intro W hW; go_simp; try with_reducible rfl) | exact Or.inr ⟨by rfl, rfl⟩) ?_; try simp only [Act.put, List.setIfInBounds_toArray, List.set_cons_zero, List.set_cons_succ])
  (refine takeL Ext.tr 8 (by simp only [List.getElem?_toArray, List.getElem?_cons_succ, List.getElem?_cons_zero]; rfl) (by kernel_rfl) (by kernel_rfl) (by kernel_rfl) (by kernel_rfl) (by exact fun _ _ _ h => h) (by first | (refine Or.inl ⟨by rfl, ?_⟩; intro W hW; go_simp; try with_reducible rfl) | exact Or.inr ⟨by rfl, rfl⟩) ?_; try simp only [Act.put, List.setIfInBounds_toArray, List.set_cons_zero, List.set_cons_succ])
  (refine takeL Ext.tr 4 (by simp only [List.getElem?_toArray, List.getElem?_cons_succ, List.getElem?_cons_zero]; rfl) (by kernel_rfl) (by kernel_rfl) (by kernel_rfl) (by kernel_rfl) (by exact fun _ _ _ h => h) (by first | (refine Or.inl ⟨by rfl, ?_⟩; intro W hW; go_simp; try with_reducible rfl) | exact Or.inr ⟨by rfl, rfl⟩) ?_; try simp only [Act.put, List.setIfInBounds_toArray, List.set_cons_zero, List.set_cons_succ])
  (refine takeL Ext.tr 5 (by simp only [List.getElem?_toArray, List.getElem?_cons_succ, List.getElem?_cons_zero]; rfl) (by kernel_rfl) (by kernel_rfl) (by kernel_rfl) (by kernel_rfl) (by exact fun _ _ _ h => h) (by first | (refine Or.inl ⟨by rfl, ?_⟩; intro W hW; go_simp; try with_reducible rfl) | exact Or.inr ⟨by rfl, rfl⟩) ?_; try simp only [Act.put, List.setIfInBounds_toArray, List.set_cons_zero, List.set_cons_succ])
  (refine takeL Ext.tr 6 (by simp only [List.getElem?_toArray, List.getElem?_cons_succ, List.getElem?_cons_zero]; rfl) (by kernel_rfl) (by kernel_rfl) (by kernel_rfl) (by kernel_rfl) (by exact fun _ _ _ h => h) (by first | (refine Or.inl ⟨by rfl, ?_⟩; intro W hW; go_simp; try with_reducible rfl) | exact Or.inr ⟨by rfl, rfl⟩) ?_; try simp only [Act.put, List.setIfInBounds_toArray, List.set_cons_zero, List.set_cons_succ])
  (refine takeL Ext.tr 9 (by simp only [List.getElem?_toArray, List.getElem?_cons_succ, List.getElem?_cons_zero]; rfl) (by kernel_rfl) (by kernel_rfl) (by kernel_rfl) (by kernel_rfl) (by exact fun _ _ _ h => h) (by first | (refine Or.inl ⟨by rfl, ?_⟩; intro W hW; go_simp; try with_reducible rfl) | exact Or.inr ⟨by rfl, rfl⟩) ?_; try simp only [Act.put, List.setIfInBounds_toArray, List.set_cons_zero, List.set_cons_succ])
  refine wpAnyL_one (i := 10) (by kernel_rfl) (by simp only [List.getElem?_toArray, List.getElem?_cons_succ, List.getElem?_cons_zero]; rfl) (fun K hK => ?_)
  go_simp
  refine hK.out _ _ (.inl (by decide)) ?_
  clear hK K
  try simp only [Act.put, List.setIfInBounds_toArray, List.set_cons_zero, List.set_cons_succ]
  refine wpAnyL_done (by kernel_rfl) ?_ _
  skip
  have HB := Lib.hid HP2.out.bd
  have HXB := Lib.hid HP2.out.xb
  have HRt := Lib.hid (p_returned (F := fun k => F k ∨ X k ∨ k = w.heap.size ∨ k = w.heap.size + 1) HQ2.out (fun k hk => hk.elim (HB.out k) (HXB.out k)))
  go_wp2_with (first
    | (with_reducible refine at_load 65 (.tmp 3) (by rfl) ?_; refine wpList_load_pk rowP rfl (.tmp 3) rfl q w.heap.size 0 rfl (Bk.pk (q := q) HX2.out) ?_)
    | (go_at_call 62; refine HRt.out.mono ?_; rintro e w3 ⟨q', rfl, hq', hr', hb3⟩))
  have hz7 := Bk.new w3 65 [.int .i64 q'.h.kd, .int .i64 q'.h.fl, .int .i64 q'.h.pa, .int .i64 q'.h.sr, .int .i64 q'.h.ds, .int .i64 q'.h.cn, .int .i64 q'.h.sq, .int .i64 q'.h.pu, .slice q'.A q'.n q'.c]
  have hb4 := hb3.alloc hb3.size (.cells (List.toArray [.int .i64 q'.h.kd, .int .i64 q'.h.fl, .int .i64 q'.h.pa, .int .i64 q'.h.sr, .int .i64 q'.h.ds, .int .i64 q'.h.cn, .int .i64 q'.h.sq, .int .i64 q'.h.pu, .slice q'.A q'.n q'.c]) 65)
  have hy4 := HY.out.below hb4
  have hr4 := hr'.below ((Below.refl _ _).alloc (Nat.le_refl _) (.cells (List.toArray [.int .i64 q'.h.kd, .int .i64 q'.h.fl, .int .i64 q'.h.pa, .int .i64 q'.h.sr, .int .i64 q'.h.ds, .int .i64 q'.h.cn, .int .i64 q'.h.sq, .int .i64 q'.h.pu, .slice q'.A q'.n q'.c]) 65))
  refine wp_region_L Ext [3] (by kernel_rfl) (fun wd hbd hsz => ?_)
  have HY4 := Lib.hid (hy4.below hbd)
  have hz8 := hz7.below hbd
  have HZ7 := Lib.hid hz8
  have hb5 := hb4.trans (hbd.mono hb4.size)
  have HP4 := Lib.hid (HP2.out.below hb5)
  have HR4 := Lib.hid (hr4.below hbd)
  have HS4 := Lib.hid (HS2.out.trans (St.ext hb5) (Gr.refl _ _))
  clear hsz hz7 hb4 hy4 hr4 hz8 hb5
  (refine takeL Ext.tr 0 (by simp only [List.getElem?_toArray, List.getElem?_cons_succ, List.getElem?_cons_zero]; rfl) (by kernel_rfl) (by kernel_rfl) (by kernel_rfl) (by kernel_rfl) (by exact fun _ _ _ h => h) (by first | (refine Or.inl ⟨by rfl, ?_⟩; intro W hW; go_simp; try with_reducible rfl) | exact Or.inr ⟨by rfl, rfl⟩) ?_; try simp only [Act.put, List.setIfInBounds_toArray, List.set_cons_zero, List.set_cons_succ])
  (refine takeL Ext.tr 1 (by simp only [List.getElem?_toArray, List.getElem?_cons_succ, List.getElem?_cons_zero]; rfl) (by kernel_rfl) (by kernel_rfl) (by kernel_rfl) (by kernel_rfl) (by exact fun _ _ _ h => h) (by first | (refine Or.inl ⟨by rfl, ?_⟩; intro W hW; exact exec_load_bk rowP (.tmp 7) rfl w3.heap.size 0 rfl (HZ7.out.below hW) q'.cl rfl rfl) | exact Or.inr ⟨by rfl, rfl⟩) ?_; try simp only [Act.put, List.setIfInBounds_toArray, List.set_cons_zero, List.set_cons_succ])
  (refine takeL Ext.tr 2 (by simp only [List.getElem?_toArray, List.getElem?_cons_succ, List.getElem?_cons_zero]; rfl) (by kernel_rfl) (by kernel_rfl) (by kernel_rfl) (by kernel_rfl) (by exact fun _ _ _ h => h) (by first | (refine Or.inl ⟨by rfl, ?_⟩; intro W hW; go_simp; try with_reducible rfl) | exact Or.inr ⟨by rfl, rfl⟩) ?_; try simp only [Act.put, List.setIfInBounds_toArray, List.set_cons_zero, List.set_cons_succ])
  refine wpAnyL_one (i := 3) (by kernel_rfl) (by simp only [List.getElem?_toArray, List.getElem?_cons_succ, List.getElem?_cons_zero]; rfl) (fun K hK => ?_)
  refine opwp_store_bk rowP rfl (.tmp 5) (.tmp 39) rfl (w.heap.size + 1) 0 rfl HY4.out q'.cl rfl q'.cl_len (by decide) q'.cl_one ?_
  intro w5 hz5 hw5
  rw [lay_all _ _ (by rfl)] at hz5
  have HZ5 := Lib.hid hz5
  have HW5 := Lib.hid hw5
  refine hK.out _ _ (.inl (by decide)) ?_
  clear hK K
  try simp only [Act.put, List.setIfInBounds_toArray, List.set_cons_zero, List.set_cons_succ]
  refine wpAnyL_done (by kernel_rfl) ?_ _
  go_wp2
  exact bodyPost_ret (results_tmp_cell rfl rfl (load_pk rowP HZ5.out)) rfl (PutTo.of (HP4.out) HS4.out (Gr.refl _ _) (fun hf => by have := HF.out _ hf; omega) HW5.out HR4.out hq' (by kernel_rfl))
set_option maxHeartbeats 4000000 in
set_option maxRecDepth 100000 in
theorem pt_put1 (h : PbC F X w b m pl ph Fl Fh ql qh) {q : Pv} (hq : PvR F w q) (hct : ∀ k, -1 ≤ m.ct k ∧ m.ct k ≤ 1000000) (hv : m.vd q.pk = 1) (hroom : (m.sel (!q.pk.heavy)).length + 1 ≤ m.room (!q.pk.heavy)) :
    Calls Try.prog 45 #[.pointer (some ⟨b, 0, none⟩), .agg #[.int .i64 q.h.kd, .int .i64 q.h.fl, .int .i64 q.h.pa, .int .i64 q.h.sr, .int .i64 q.h.ds, .int .i64 q.h.cn, .int .i64 q.h.sq, .int .i64 q.h.pu, .slice q.A q.n q.c]] w (PutTo F X w b (({ m with ct := up m.ct 1 (m.ct 1 + 1) } : AM).put (!q.pk.heavy) (m.sel (!q.pk.heavy) ++ [q.pk])) pl ph 1 q.pk) := by
  have HRoom := Lib.hid hroom
  clear hroom
  have hF := h.bd
  have HF := Lib.hid hF
  have HX := Lib.hid h.xb
  have HM : Hid (∀ o o', Calls Try.prog 49 #[.pointer (some ⟨b, 0, none⟩)] ((w.alloc o).alloc o') fun e w' => e = .returned (.bool true) ∧ (w.alloc o).alloc o' = w') := Lib.hid fun o o' => pt_made (h.below (((Below.refl _ _).alloc (Nat.le_refl _) o).alloc (by simp) o'))
  have HV : Hid (∀ o o', Calls Try.prog 61 #[.pointer (some ⟨b, 0, none⟩), .agg #[.int .i64 q.h.kd, .int .i64 q.h.fl, .int .i64 q.h.pa, .int .i64 q.h.sr, .int .i64 q.h.ds, .int .i64 q.h.cn, .int .i64 q.h.sq, .int .i64 q.h.pu, .slice q.A q.n q.c]] ((w.alloc o).alloc o') fun e w' => e = .returned (.int .i64 1) ∧ Below ((w.alloc o).alloc o').heap.size ((w.alloc o).alloc o') w') := Lib.hid fun o o' => by
    have hb : Below w.heap.size w ((w.alloc o).alloc o') := ((Below.refl _ _).alloc (Nat.le_refl _) o).alloc (by simp) o'
    have := pt_verdict (h.below hb) (hq.below hb) (fun k hk => by have := HF.out k hk; simp; omega)
    rw [hv] at this; exact this
  have HH := Lib.hid h
  have HQ := Lib.hid hq
  have hcv := hct 1
  clear h hq hF hv
  go_enter Try.func45, Try.ntmps45
  go_wp2_with (first
    | (go_at_call 49; refine (HM.out _ _).mono ?_; rintro e w' ⟨rfl, rfl⟩)
    | (with_reducible refine at_load 65 (.tmp 3) (by rfl) ?_; refine wpList_load_pk rowP rfl (.tmp 3) rfl q w.heap.size 0 rfl (Bk.pk (q := q) ((Bk.new w 65 [.int .i64 q.h.kd, .int .i64 q.h.fl, .int .i64 q.h.pa, .int .i64 q.h.sr, .int .i64 q.h.ds, .int .i64 q.h.cn, .int .i64 q.h.sq, .int .i64 q.h.pu, .slice q.A q.n q.c]).alloc (.cells (List.toArray [.int .i64 0, .int .i64 0, .int .i64 0, .int .i64 0, .int .i64 0, .int .i64 0, .int .i64 0, .int .i64 0, .slice none 0 0]) 65))) ?_)
    | (go_at_call 61; refine (HV.out _ _).mono ?_; rintro e w1 ⟨rfl, hb1⟩))
  refine wp_region_L Ext [10] (by kernel_rfl) (fun wd hbd hsz => ?_)
  obtain ⟨hx0, hy0, hc0⟩ := pk_new2 hb1
  have hp0 := (HH.out.ext hc0 (X1 := fun k => X k ∨ k = w.heap.size ∨ k = w.heap.size + 1) (fun k hk => hk.imp id (by omega)) (fun k hk => by
    rcases hk with hk | hk
    · exact Nat.lt_of_lt_of_le (HX.out k hk) hc0.size
    · have := hx0.lt; have := hy0.lt; omega)).below hbd
  have hx1 := hx0.below hbd
  have hy1 := hy0.below hbd
  have hc1 := below_on hc0 hbd
  have hq1 := HQ.out.below hc1
  have hw : IntKind.i64.wrap (m.ct 1 + 1) = m.ct 1 + 1 := by rw [IntKind.wrap_i64]; omega
  have q0 : ∀ W, Ext wd W → W.cell? ⟨b, 5, none⟩ = some (.int .i64 (m.ct 1)) := fun W hW => (hp0.bk.below hW).cell 5 rfl
  have f0 := hp0.bk.free 5
  have c0 := hp0.bk.cell 5 rfl
  obtain ⟨hp2, hs2⟩ := hp0.cell 5 (.int .i64 (m.ct 1 + 1)) hp0.ru (ct := up m.ct 1 (m.ct 1 + 1)) rfl
  have hbw : b < w.heap.size := HH.out.bk.lt
  have hx2 := hx1.far (p := ⟨b, 5, none⟩) (show w.heap.size ≠ b by omega) (.int .i64 (m.ct 1 + 1))
  have hy2 := hy1.far (p := ⟨b, 5, none⟩) (show w.heap.size + 1 ≠ b by omega) (.int .i64 (m.ct 1 + 1))
  have hq2 := hq1.st hs2 (Gr.refl _ _)
  have hst2 := (St.ext (F := F) hc1).trans hs2 (Gr.refl _ _)
  have HP2 := Lib.hid hp2
  have HX2 := Lib.hid hx2
  have HY := Lib.hid hy2
  have HQ2 := Lib.hid hq2
  have HS2 := Lib.hid hst2
  clear hsz hb1 hx0 hy0 hc0 hp0 hx1 hy1 hc1 hq1 hp2 hs2 hx2 hy2 hq2 hst2 hbw hct
  (refine takeL Ext.tr 0 (by simp only [List.getElem?_toArray, List.getElem?_cons_succ, List.getElem?_cons_zero]; rfl) (by kernel_rfl) (by kernel_rfl) (by kernel_rfl) (by kernel_rfl) (by exact fun _ _ _ h => h) (by first | (refine Or.inl ⟨by rfl, ?_⟩; intro W hW; go_simp; try with_reducible rfl) | exact Or.inr ⟨by rfl, rfl⟩) ?_; try simp only [Act.put, List.setIfInBounds_toArray, List.set_cons_zero, List.set_cons_succ])
  (refine takeL Ext.tr 1 (by simp only [List.getElem?_toArray, List.getElem?_cons_succ, List.getElem?_cons_zero]; rfl) (by kernel_rfl) (by kernel_rfl) (by kernel_rfl) (by kernel_rfl) (by exact fun _ _ _ h => h) (by first | (refine Or.inl ⟨by rfl, ?_⟩; intro W hW; go_simp; try with_reducible rfl) | exact Or.inr ⟨by rfl, rfl⟩) ?_; try simp only [Act.put, List.setIfInBounds_toArray, List.set_cons_zero, List.set_cons_succ])
  (refine takeL Ext.tr 2 (by simp only [List.getElem?_toArray, List.getElem?_cons_succ, List.getElem?_cons_zero]; rfl) (by kernel_rfl) (by kernel_rfl) (by kernel_rfl) (by kernel_rfl) (by exact fun _ _ _ h => h) (by first | (refine Or.inl ⟨by rfl, ?_⟩; intro W hW; go_simp; try with_reducible rfl) | exact Or.inr ⟨by rfl, rfl⟩) ?_; try simp only [Act.put, List.setIfInBounds_toArray, List.set_cons_zero, List.set_cons_succ])
  (refine takeL Ext.tr 7 (by simp only [List.getElem?_toArray, List.getElem?_cons_succ, List.getElem?_cons_zero]; rfl) (by kernel_rfl) (by kernel_rfl) (by kernel_rfl) (by kernel_rfl) (by exact fun _ _ _ h => h) (by first | (refine Or.inl ⟨by rfl, ?_⟩; intro W hW; go_simp; try with_reducible rfl) | exact Or.inr ⟨by rfl, rfl⟩) ?_; try simp only [Act.put, List.setIfInBounds_toArray, List.set_cons_zero, List.set_cons_succ])
  (refine takeL Ext.tr 3 (by simp only [List.getElem?_toArray, List.getElem?_cons_succ, List.getElem?_cons_zero]; rfl) (by kernel_rfl) (by kernel_rfl) (by kernel_rfl) (by kernel_rfl) (by exact fun _ _ _ h => h) (by first | (refine Or.inl ⟨by rfl, ?_⟩; intro W hW; go_simp; try with_reducible rfl) | exact Or.inr ⟨by rfl, rfl⟩) ?_; try simp only [Act.put, List.setIfInBounds_toArray, List.set_cons_zero, List.set_cons_succ])
  (refine takeL Ext.tr 8 (by simp only [List.getElem?_toArray, List.getElem?_cons_succ, List.getElem?_cons_zero]; rfl) (by kernel_rfl) (by kernel_rfl) (by kernel_rfl) (by kernel_rfl) (by exact fun _ _ _ h => h) (by first | (refine Or.inl ⟨by rfl, ?_⟩; intro W hW; go_simp; try with_reducible rfl) | exact Or.inr ⟨by rfl, rfl⟩) ?_; try simp only [Act.put, List.setIfInBounds_toArray, List.set_cons_zero, List.set_cons_succ])
  (refine takeL Ext.tr 4 (by simp only [List.getElem?_toArray, List.getElem?_cons_succ, List.getElem?_cons_zero]; rfl) (by kernel_rfl) (by kernel_rfl) (by kernel_rfl) (by kernel_rfl) (by exact fun _ _ _ h => h) (by first | (refine Or.inl ⟨by rfl, ?_⟩; intro W hW; go_simp; try with_reducible rfl) | exact Or.inr ⟨by rfl, rfl⟩) ?_; try simp only [Act.put, List.setIfInBounds_toArray, List.set_cons_zero, List.set_cons_succ])
  (refine takeL Ext.tr 5 (by simp only [List.getElem?_toArray, List.getElem?_cons_succ, List.getElem?_cons_zero]; rfl) (by kernel_rfl) (by kernel_rfl) (by kernel_rfl) (by kernel_rfl) (by exact fun _ _ _ h => h) (by first | (refine Or.inl ⟨by rfl, ?_⟩; intro W hW; go_simp; try with_reducible rfl) | exact Or.inr ⟨by rfl, rfl⟩) ?_; try simp only [Act.put, List.setIfInBounds_toArray, List.set_cons_zero, List.set_cons_succ])
  (refine takeL Ext.tr 6 (by simp only [List.getElem?_toArray, List.getElem?_cons_succ, List.getElem?_cons_zero]; rfl) (by kernel_rfl) (by kernel_rfl) (by kernel_rfl) (by kernel_rfl) (by exact fun _ _ _ h => h) (by first | (refine Or.inl ⟨by rfl, ?_⟩; intro W hW; go_simp; try with_reducible rfl) | exact Or.inr ⟨by rfl, rfl⟩) ?_; try simp only [Act.put, List.setIfInBounds_toArray, List.set_cons_zero, List.set_cons_succ])
  (refine takeL Ext.tr 9 (by simp only [List.getElem?_toArray, List.getElem?_cons_succ, List.getElem?_cons_zero]; rfl) (by kernel_rfl) (by kernel_rfl) (by kernel_rfl) (by kernel_rfl) (by exact fun _ _ _ h => h) (by first | (refine Or.inl ⟨by rfl, ?_⟩; intro W hW; go_simp; try with_reducible rfl) | exact Or.inr ⟨by rfl, rfl⟩) ?_; try simp only [Act.put, List.setIfInBounds_toArray, List.set_cons_zero, List.set_cons_succ])
  refine wpAnyL_one (i := 10) (by kernel_rfl) (by simp only [List.getElem?_toArray, List.getElem?_cons_succ, List.getElem?_cons_zero]; rfl) (fun K hK => ?_)
  go_simp
  refine hK.out _ _ (.inl (by decide)) ?_
  clear hK K
  try simp only [Act.put, List.setIfInBounds_toArray, List.set_cons_zero, List.set_cons_succ]
  refine wpAnyL_done (by kernel_rfl) ?_ _
  skip
  have HXI := Lib.hid HX2.out
  have HYI := Lib.hid HY.out
  have HPI := Lib.hid HP2.out
  have HSI := Lib.hid HS2.out
  have HQI := Lib.hid HQ2.out
  clear HP2 HX2 HY HQ2 HS2
  go_wp2_with fail
  refine wp_region_E (St F) (by kernel_rfl) (fun wd hbd hsz => ?_)
  have HP5 := Lib.hid (HPI.out.below hbd)
  have HX5 := Lib.hid (HXI.out.below hbd)
  have HY5 := Lib.hid (HYI.out.below hbd)
  have HQ5 := Lib.hid (HQI.out.below hbd)
  have HS5 := Lib.hid (HSI.out.trans (St.ext hbd) (Gr.refl _ _))
  have HRoom5 := Lib.hid (show (({ m with ct := up m.ct 1 (m.ct 1 + 1) } : AM).sel (!q.pk.heavy)).length + 1 ≤ ({ m with ct := up m.ct 1 (m.ct 1 + 1) } : AM).room (!q.pk.heavy) by exact HRoom.out)
  have HBd : Hid (∀ k, (F k ∨ X k ∨ k = w.heap.size ∨ k = w.heap.size + 1) → k < wd.heap.size) := Lib.hid fun k hk => hk.elim (HP5.out.bd k) (HP5.out.xb k)
  have hnF0 : ¬ F w.heap.size := fun hf => by have := HF.out _ hf; omega
  have hnF1 : ¬ F (w.heap.size + 1) := fun hf => by have := HF.out _ hf; omega
  have hcur : Below wd.heap.size wd wd := Below.refl _ _
  clear hsz HPI HXI HYI HQI HSI hbd
  (refine takeE (St.tr F) 0 (by simp only [List.getElem?_toArray, List.getElem?_cons_succ, List.getElem?_cons_zero]; rfl) (by kernel_rfl) (by kernel_rfl) (by kernel_rfl) (by exact fun _ _ _ h => h) (by first | (refine Or.inl ⟨by rfl, ?_⟩; intro W hW; go_simp; try with_reducible rfl) | exact Or.inr ⟨by rfl, rfl⟩) ?_; try simp only [Act.put, List.setIfInBounds_toArray, List.set_cons_zero, List.set_cons_succ])
  (refine takeE (St.tr F) 1 (by simp only [List.getElem?_toArray, List.getElem?_cons_succ, List.getElem?_cons_zero]; rfl) (by kernel_rfl) (by kernel_rfl) (by kernel_rfl) (by exact fun _ _ _ h => h) (by first | (refine Or.inl ⟨by rfl, ?_⟩; intro W hW; exact exec_load_bk rowP (.tmp 3) rfl w.heap.size 0 rfl (HX5.out.st hW hnF0) q.cl rfl rfl) | exact Or.inr ⟨by rfl, rfl⟩) ?_; try simp only [Act.put, List.setIfInBounds_toArray, List.set_cons_zero, List.set_cons_succ])
  (refine takeE (St.tr F) 3 (by simp only [List.getElem?_toArray, List.getElem?_cons_succ, List.getElem?_cons_zero]; rfl) (by kernel_rfl) (by kernel_rfl) (by kernel_rfl) (by exact fun _ _ _ h => h) (by first | (refine Or.inl ⟨by rfl, ?_⟩; intro W hW; exact exec_load_bk rowP (.tmp 3) rfl w.heap.size 0 rfl (HX5.out.st hW hnF0) q.cl rfl rfl) | exact Or.inr ⟨by rfl, rfl⟩) ?_; try simp only [Act.put, List.setIfInBounds_toArray, List.set_cons_zero, List.set_cons_succ])
  refine wpAnyE_one (i := 2) (by kernel_rfl) (by simp only [List.getElem?_toArray, List.getElem?_cons_succ, List.getElem?_cons_zero]; rfl) (fun K hK => ?_)
  go_simp
  refine (pt_queueOf (HP5.out.below hcur) (HQ5.out.below hcur)).mono ?_
  rintro e wq ⟨rfl, hbq⟩
  replace hcur := below_on hcur hbq
  try replace hr' := hr'.below hbq
  try replace hrd := hrd.below hbq
  refine hK.out _ _ (St.ext hbq) ?_
  clear hK K
  try simp only [Act.put, List.setIfInBounds_toArray, List.set_cons_zero, List.set_cons_succ]
  refine wpAnyE_one (i := 4) (by kernel_rfl) (by simp only [List.getElem?_toArray, List.getElem?_cons_succ, List.getElem?_cons_zero]; rfl) (fun K hK => ?_)
  go_simp
  refine (p_alike (F := fun k => F k ∨ X k ∨ k = w.heap.size ∨ k = w.heap.size + 1) (HQ5.out.below hcur) (fun k hk => Nat.lt_of_lt_of_le (HBd.out k hk) hcur.size)).mono ?_
  rintro e wa ⟨q', rfl, hq', hr', hba⟩
  replace hcur := below_on hcur hba
  refine hK.out _ _ (St.ext hba) ?_
  clear hK K
  try simp only [Act.put, List.setIfInBounds_toArray, List.set_cons_zero, List.set_cons_succ]
  refine wpAnyE_one (i := 5) (by kernel_rfl) (by simp only [List.getElem?_toArray, List.getElem?_cons_succ, List.getElem?_cons_zero]; rfl) (fun K hK => ?_)
  go_simp
  have hrd := RdR.one wa 65 q'.cl q'.cl_one
  replace hcur := hcur.alloc hcur.size (.cells q'.cl.toArray 65)
  replace hr' := hr'.below ((Below.refl _ _).alloc (Nat.le_refl _) (.cells q'.cl.toArray 65))
  refine hK.out _ _ (St.ext ((Below.refl _ _).alloc (Nat.le_refl _) _)) ?_
  clear hK K
  try simp only [Act.put, List.setIfInBounds_toArray, List.set_cons_zero, List.set_cons_succ]
  refine wpAnyE_one (i := 6) (by kernel_rfl) (by simp only [List.getElem?_toArray, List.getElem?_cons_succ, List.getElem?_cons_zero]; rfl) (fun K hK => ?_)
  go_simp
  refine (pt_push (HP5.out.below hcur) (!q.pk.heavy) q' hr' _ _ hrd HRoom5.out).mono ?_
  rintro e w6 ⟨rfl, F', Fl', Fh', ql', qh', hp6, hs6, hg6⟩
  refine hK.out _ _ hs6 ?_
  clear hK K
  try simp only [Act.put, List.setIfInBounds_toArray, List.set_cons_zero, List.set_cons_succ]
  refine wpAnyE_done (by kernel_rfl) ?_ _
  skip
  all_goals
    have hst6 : St F wd w6 := (St.ext hcur).trans hs6 (Gr.refl _ _)
    have hx6 := HX5.out.st hst6 hnF0
    have hy6 := HY5.out.st hst6 hnF1
    have hgw : Gr F F' wd.heap.size := (Gr.refl F _).trans hg6 hcur.size
    have hq6 := HQ5.out.st hst6 hgw
    have HA6 := Lib.hid (p_alike (F := fun k => F' k ∨ X k ∨ k = w.heap.size ∨ k = w.heap.size + 1) hq6 (fun k hk => hk.elim (hp6.bd k) (hp6.xb k)))
    have HP6 := Lib.hid hp6
    have hnF6 : ¬ F' (w.heap.size + 1) := hgw.not HY5.out.lt hnF1
    have HG6 : Hid (Gr F F' w.heap.size) := Lib.hid ((Gr.refl F _).trans hgw HS5.out.size)
    have HS6 := Lib.hid (HS5.out.trans hst6 (Gr.refl _ _))
    clear hs6 hg6 hp6 hq6 hcur hr' hrd hst6 hgw HQ5
    go_wp2_with (first
      | (with_reducible refine at_load 65 (.tmp 3) (by rfl) ?_; refine wpList_load_pk rowP rfl (.tmp 3) rfl q w.heap.size 0 rfl (Bk.pk (q := q) hx6) ?_)
      | (go_at_call 54; refine HA6.out.mono ?_; rintro e w7 ⟨q7, rfl, hq7, hr7, hb7⟩; have hy7 := hy6.below hb7)
      | (with_reducible refine at_store 65 (.tmp 5) (.tmp 54) (by rfl) ?_; refine wpList_put_pk rowP rfl (.tmp 5) (.tmp 54) rfl (w.heap.size + 1) rfl hy7 rfl q7 rfl ?_; rintro w8 hz8 hw8))
    have hp7 := HP6.out.below hb7
    rw [show ({ m with ct := up m.ct 1 (m.ct 1 + 1) } : AM).sel (!q.pk.heavy) = m.sel (!q.pk.heavy) from rfl, hq'] at hp7
    have hs7 := HS6.out.trans (St.ext hb7) (Gr.refl _ _)
    exact bodyPost_ret (results_tmp_cell rfl rfl (load_pk rowP hz8)) rfl (PutTo.of hp7 hs7 HG6.out hnF6 hw8 hr7 hq7 (by kernel_rfl))
end
end Go.Proofs.Ytbhhgfpliggkgaa
