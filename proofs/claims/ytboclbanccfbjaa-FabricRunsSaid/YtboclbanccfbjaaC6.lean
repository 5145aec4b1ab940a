/- Texts of this proof, put together: F21 F22 F27 F25 -/
import Derived.Test.YtboclbanccfbjaaC5
namespace Go.Proofs.Ytboclbanccfbjaa
set_option linter.unusedSimpArgs false
set_option linter.unusedVariables false
set_option maxRecDepth 100000
open Go.RowKit Go.Shelf
def Al (X : Nat → Prop) (w : World) : Nat → Prop := fun k => X k ∨ k = w.heap.size
theorem al_new {n0 B : Nat} {w0 w : World} {X : Nat → Prop} (hC : Below n0 w0 w) (hn : n0 ≤ w.heap.size) (hX : ∀ k, X k → k < w.heap.size) (hB : B ≤ n0) (hoff : ∀ g, g < B → ¬ X g) (T : TypeId) (vs : List Value) :
    Bk (w.alloc (.cells vs.toArray T)) T w.heap.size vs ∧ Al X w w.heap.size ∧ Below n0 w0 (w.alloc (.cells vs.toArray T)) ∧ Below n0 w (w.alloc (.cells vs.toArray T)) ∧ Below w.heap.size w (w.alloc (.cells vs.toArray T)) ∧
      (∀ k, Al X w k → k < (w.alloc (.cells vs.toArray T)).heap.size) ∧ n0 ≤ (w.alloc (.cells vs.toArray T)).heap.size ∧ Gr X (Al X w) w.heap.size ∧ (∀ g, g < B → ¬ Al X w g) ∧ ∀ k, X k → Al X w k := by
  have hb := (Below.refl w.heap.size w).alloc (Nat.le_refl _) (.cells vs.toArray T)
  refine ⟨Bk.new _ _ _, .inr rfl, hC.trans (hb.mono hn), hb.mono hn, hb, ?_, Nat.le_trans hn hb.size, fun k hk => hk.imp id (fun e => by omega), ?_, fun k hk => .inl hk⟩
  · rintro k (hk | rfl)
    · exact Nat.lt_of_lt_of_le (hX k hk) hb.size
    · simp
  · rintro g hg (hk | rfl)
    · exact hoff g hg hk
    · omega
section
variable {P : Program} {w : World} {Q : Exit → Act → World → Prop} {K : Act → World → Prop} {ops : Array Oper} {rest : List Oper} {op : Oper} {a : Act}
theorem opwp_put_rp {e t : TypeId} (R : Row P e 11) (hgd : op.guard = none) (x y : Operand) (ho : op.op = .store e x y) (g : Nat) (hx : a.eval x = .pointer (some ⟨g, 0, none⟩)) {vs : List Value} (h : Bk w t g vs) (hv : vs.length = 11) (r : RV) (m : AM) (hy : a.eval y = .agg #[.slice r.a1 r.n1 r.c1, .slice r.a2 r.n2 r.c2, .int .i64 m.lr, .int .i64 m.hr, .int .i64 m.wt, .int .i64 m.run, .int .i64 (m.ct 0), .int .i64 (m.ct 1), .int .i64 (m.ct 2), .int .i64 (m.ct 3), .int .i64 (m.ct 4)])
    (hq : ∀ w', Bk w' t g (r.cl m) → Wr g w w' → K (a.put op.dst undef) w') : if Region.wanted op (yielded ops a.tmps) = true then Oper.wp P op a w K Q else K (a.put op.dst undef) w :=
  opwp_store_bk R hgd x y ho g 0 hx h (r.cl m) hy (r.cl_len m) (by rw [hv]; decide) (r.cl_one m) fun w' h' hw => hq w' (by rw [lay_all _ _ (by rw [hv]; rfl)] at h'; exact h') hw
end
section
variable {P : Program} {w w' : World} {ty : TypeId} {op : Oper} {a : Act}
theorem exec_loadRng {m : Nat} (R : Row P ty m) (x : Operand) (ho : op.op = .load ty x) (g o : Nat) (hx : a.eval x = .pointer (some ⟨g, o, none⟩)) {cs : List Value} (h : w.rangeAt g o cs) (hm : cs.length = m) : (execOp a.eval op).run P w = .ok (.value (.agg cs.toArray)) w := by
  obtain ⟨d, h1, h2⟩ := R.ht
  have h3 : (P.info? ty).map (·.size) = some cs.length := by rw [hm]; exact R.hi
  unfold execOp
  simp only [ho, hx, Instr.loadAt, Instr.sureAddr, Sem.run_bind, Sem.run_pure, Result.andThen_ok, run_loadVar_mid w g o ty cs d h h1 h2 h3]
end
theorem FMb.len {m : FM} {L H k : Nat} {B : Int} {a : AM} (h : FMb m L H B) (hk : m.pt k = some a) (hL : L ≤ 1024) (hH : H ≤ 1024) : a.low.length ≤ 1024 ∧ a.high.length ≤ 1024 := ⟨Nat.le_trans (h k a hk).lo hL, Nat.le_trans (h k a hk).hi hH⟩
section
variable {F F' X : Nat → Prop} {w w' w1 : World} {hs ps L H : Nat} {B : Int} {g : GV} {m : FM} {rs : List (RV × AM)} {a : AM} {q : Pv}
/-- What into leaves. -/
def IntoTo (F : Nat → Prop) (w : World) (hs ps : Nat) (m m' : FM) (v : Nat) (x : Pk) (e : Ending) (w' : World) : Prop :=
  ∃ g' q', e = .returned (.tuple #[.agg #[.int .i64 hs, .int .i64 ps, .slice g'.A g'.n g'.c, .int .i64 (m.ct 0), .int .i64 (m.ct 1), .int .i64 (m.ct 2), .int .i64 (m.ct 3), .int .i64 (m.ct 4)], .int .i64 v, .agg #[.int .i64 q'.h.kd, .int .i64 q'.h.fl, .int .i64 q'.h.pa, .int .i64 q'.h.sr, .int .i64 q'.h.ds, .int .i64 q'.h.cn, .int .i64 q'.h.sq, .int .i64 q'.h.pu, .slice q'.A q'.n q'.c]]) ∧ GpR F w' hs ps g' m' ∧ q'.pk = x ∧ PvR F w' q' ∧ Below w.heap.size w w'
theorem four_boxes (w : World) (T1 T2 T3 T4 : TypeId) (v1 v2 v3 v4 : List Value) : ∃ W, W = (((w.alloc (.cells v1.toArray T1)).alloc (.cells v2.toArray T2)).alloc (.cells v3.toArray T3)).alloc (.cells v4.toArray T4) ∧ Below w.heap.size w W ∧ W.heap.size = w.heap.size + 4 ∧
    Bk W T1 w.heap.size v1 ∧ Bk W T2 (w.heap.size + 1) v2 ∧ Bk W T3 (w.heap.size + 2) v3 ∧ Bk W T4 (w.heap.size + 3) v4 := by
  refine ⟨_, rfl, (((((Below.refl w.heap.size w).alloc (Nat.le_refl _) _).alloc (by simp) _).alloc (by simp; omega) _).alloc (by simp; omega) _), by simp, (((Bk.new w _ v1).alloc _).alloc _).alloc _, ?_, ?_, ?_⟩
  · have := ((Bk.new (w.alloc (.cells v1.toArray T1)) T2 v2).alloc (.cells v3.toArray T3)).alloc (.cells v4.toArray T4)
    simpa using this
  · have := (Bk.new ((w.alloc (.cells v1.toArray T1)).alloc (.cells v2.toArray T2)) T3 v3).alloc (.cells v4.toArray T4)
    simpa using this
  · have := Bk.new (((w.alloc (.cells v1.toArray T1)).alloc (.cells v2.toArray T2)).alloc (.cells v3.toArray T3)) T4 v4
    simpa using this
theorem wpList_lay_rp {P : Program} {ops : Array Oper} {rest : List Oper} {op : Oper} {a : Act} {Q : Exit → Act → World → Prop} {e : TypeId} {g o n c i : Nat} {cs : List Value} (R : Row P e 11) (hgd : op.guard = none) (x y : Operand) (ho : op.op = .store e x y)
    (h : LstR 11 e F w (some ⟨g, o, none⟩) n c cs) (hi : i < n) (hx : a.eval x = .pointer (some ⟨g, o + i * 11, none⟩)) (r : RV × AM) (hy : a.eval y = .agg (rcl r).toArray)
    (hq : ∀ w', LstR 11 e F w' (some ⟨g, o, none⟩) n c (lay cs (i * 11) (rcl r)) → Wr g w w' → wpList P ops Q rest (a.put op.dst undef) w') : wpList P ops Q (op :: rest) a w :=
  wpList_store_mid hgd e x y ho g (o + i * 11) (rcl r).toArray hx hy (h.there hi) R.hi (all_oneCell_toArray (rcl_one r)) (hq _ (h.lay hi (rcl_len r) (rcl_one r)) (Wr.setCells g _ _ w))
theorem GpC.turn (h : GpC F w hs ps g m rs) {p' q' : Int} (hp : m.port p' q' = some a) (r' : RV) (a' : AM) (hi : gix hs p' q' < rs.length) :
    (∀ i (h' : i < (rs.set (gix hs p' q') (r', a')).length), (m.sp (ix p' q') a').pt (i / hs * 8 + i % hs) = some (rs.set (gix hs p' q') (r', a'))[i].2) ∧ GD (m.sp (ix p' q') a') hs ps := by
  obtain ⟨_, hra, hdim⟩ := h.row hp
  have hg := gix_at hdim
  have h2 := h.gd.h1
  have h8 := h.gd.h8
  refine ⟨fun i h' => ?_, h.gd.h1, h.gd.h8, h.gd.p1, h.gd.p8, fun k => ?_⟩
  · rw [List.length_set] at h'
    rw [List.getElem_set]
    unfold FM.sp
    dsimp only
    by_cases e : gix hs p' q' = i
    · rw [if_pos e, ← e, hg.1, hg.2]
      exact set1_at _ _ _
    · rw [if_neg e, set1_ne, h.pt i h']
      intro e2
      apply e
      unfold ix at e2
      have h3 : i % hs < hs := Nat.mod_lt _ (by omega)
      have h4 : i / hs = p'.toNat ∧ i % hs = q'.toNat := by omega
      have h5 := Nat.div_add_mod i hs
      unfold gix
      rw [h4.1, h4.2, Nat.mul_comm] at h5
      exact h5
  · unfold FM.sp
    dsimp only
    by_cases e : k = ix p' q'
    · subst e
      rw [set1_at]
      have := (h.gd.iff (ix p' q')).1 (by rw [FM.port_pt hp]; rfl)
      simp [this]
    · rw [set1_ne _ _ e]; exact h.gd.iff k
set_option maxHeartbeats 16000000 in
theorem r_into (h : GpR F w hs ps g m) (hM : FMb m L H B) (hB : B ≤ 1000000) (hL : L ≤ 1024) (hH : H ≤ 1024) (hq : PvR F w q) (hF : ∀ k, F k → k < w.heap.size) :
    Calls Try.prog 29 #[.agg #[.int .i64 hs, .int .i64 ps, .slice g.A g.n g.c, .int .i64 (m.ct 0), .int .i64 (m.ct 1), .int .i64 (m.ct 2), .int .i64 (m.ct 3), .int .i64 (m.ct 4)], .agg #[.int .i64 q.h.kd, .int .i64 q.h.fl, .int .i64 q.h.pa, .int .i64 q.h.sr, .int .i64 q.h.ds, .int .i64 q.h.cn, .int .i64 q.h.sq, .int .i64 q.h.pu, .slice q.A q.n q.c]] w (IntoTo F w hs ps m (m.into q.pk) (m.ivd q.pk) (m.iout q.pk)) := by
  obtain ⟨W0, hW0, hb0, hsz0, hb2, hb3, hb4, hb6⟩ := four_boxes w 30 65 30 65 [.int .i64 hs, .int .i64 ps, .slice g.A g.n g.c, .int .i64 (m.ct 0), .int .i64 (m.ct 1), .int .i64 (m.ct 2), .int .i64 (m.ct 3), .int .i64 (m.ct 4)] [.int .i64 q.h.kd, .int .i64 q.h.fl, .int .i64 q.h.pa, .int .i64 q.h.sr, .int .i64 q.h.ds, .int .i64 q.h.cn, .int .i64 q.h.sq, .int .i64 q.h.pu, .slice q.A q.n q.c] [.int .i64 0, .int .i64 0, .slice none 0 0, .int .i64 0, .int .i64 0, .int .i64 0, .int .i64 0, .int .i64 0] [.int .i64 0, .int .i64 0, .int .i64 0, .int .i64 0, .int .i64 0, .int .i64 0, .int .i64 0, .int .i64 0, .slice none 0 0]
  have hpk : q.pk.h = q.h := rfl
  have HPo := Lib.hid (fun (W : World) => g_Port (w := W) (g := g) h.gd q.h.pa q.h.ds)
  unfold FM.into FM.ivd FM.iout
  rw [hpk]
  subst hW0
  cases hp : m.port q.h.pa q.h.ds with
  | none =>
    rw [hp] at HPo
    have HH := Lib.hid h
    have H0 := Lib.hid (And.intro hb0 hsz0)
    have H4 := Lib.hid hb4
    have H6 := Lib.hid hb6
    clear hb0 hb4 hb6 h hM hq hF hsz0 hb3
    go_enter Try.func29, Try.ntmps29
    go_wp2_with (first
      | (with_reducible refine at_load 30 (.tmp 2) (by rfl) ?_; refine wpList_load_bk rowG rfl (.tmp 2) rfl w.heap.size 0 rfl hb2 [.int .i64 hs, .int .i64 ps, .slice g.A g.n g.c, .int .i64 (m.ct 0), .int .i64 (m.ct 1), .int .i64 (m.ct 2), .int .i64 (m.ct 3), .int .i64 (m.ct 4)] rfl rfl ?_)
      | (go_at_call 32; refine (HPo.out _).mono ?_; rintro e w1 ⟨rfl, hb1⟩
         replace hb2 := hb2.below hb1
         have hb4 := H4.out.below hb1
         have HB1 := Lib.hid hb1
         have H61 := Lib.hid (H6.out.below hb1)
         clear hb1)
      | (with_reducible refine at_store 30 (.tmp 4) (.tmp 23) (by rfl) ?_; refine wpList_store_bk rowG rfl (.tmp 4) (.tmp 23) rfl (w.heap.size + 2) 0 rfl hb4 [.int .i64 hs, .int .i64 ps, .slice g.A g.n g.c, .int .i64 (m.ct 0), .int .i64 (m.ct 1), .int .i64 (m.ct 2), .int .i64 (m.ct 3), .int .i64 (m.ct 4)] rfl rfl (by decide) (one8 _ _ _ _ _ _ _ _ _ _) ?_; rintro w2 hz2 hw2
         have hb6 := H61.out.wr hw2 (by omega))
      | (with_reducible refine at_store 65 (.tmp 6) (.tmp 24) (by rfl) ?_; refine wpList_put_pk rowP rfl (.tmp 6) (.tmp 24) rfl (w.heap.size + 3) rfl hb6 rfl zPv rfl ?_; rintro w3 hz3 hw3))
    rw [lay_all _ _ (by rfl)] at hz2
    have hz23 := hz2.wr hw3 (by omega)
    refine bodyPost_ret (results_ctc rfl rfl rfl (rowG.load hz23 0 (cs := [.int .i64 hs, .int .i64 ps, .slice g.A g.n g.c, .int .i64 (m.ct 0), .int .i64 (m.ct 1), .int .i64 (m.ct 2), .int .i64 (m.ct 3), .int .i64 (m.ct 4)]) rfl rfl) (load_pk rowP hz3)) rfl ?_
    have hbA := below_on H0.out.1 HB1.out
    have hb2w := hbA.trans (hw2.below (B := w.heap.size) (by omega) hbA.size)
    have hb3w := hb2w.trans (hw3.below (B := w.heap.size) (by omega) hb2w.size)
    exact ⟨g, zPv, rfl, HH.out.below hb3w, rfl, PvR.zero _ _, hb3w⟩
  | some a =>
    rw [hp] at HPo
    dsimp only [Option.isSome] at HPo
    rw [if_pos rfl] at HPo
    obtain ⟨rs, hG⟩ := h
    obtain ⟨hi, hra, hdim⟩ := hG.row hp
    have hk := FM.port_pt hp
    have hla := hM.len hk hL hH
    have hct := (hM _ _ hk).ok.ct hB
    have hrp := hG.rp _ (List.getElem_mem hi)
    rw [hra] at hrp
    have hsr : rs[gix hs q.h.pa q.h.ds] = (rs[gix hs q.h.pa q.h.ds].1, a) := by rw [← hra]
    obtain ⟨r0, hr0⟩ : ∃ r0, r0 = rs[gix hs q.h.pa q.h.ds].1 := ⟨_, rfl⟩
    rw [← hr0] at hrp hsr
    have HRPut : Hid (∀ W X, RpR X W r0 a → PvR X W q → (∀ k, X k → k < W.heap.size) → Calls Try.prog 44 #[.agg #[.slice r0.a1 r0.n1 r0.c1, .slice r0.a2 r0.n2 r0.c2, .int .i64 a.lr, .int .i64 a.hr, .int .i64 a.wt, .int .i64 a.run, .int .i64 (a.ct 0), .int .i64 (a.ct 1), .int .i64 (a.ct 2), .int .i64 (a.ct 3), .int .i64 (a.ct 4)], .agg #[.int .i64 q.h.kd, .int .i64 q.h.fl, .int .i64 q.h.pa, .int .i64 q.h.sr, .int .i64 q.h.ds, .int .i64 q.h.cn, .int .i64 q.h.sq, .int .i64 q.h.pu, .slice q.A q.n q.c]] W (RPutTo X W (a.nx q.pk) (a.vd q.pk) (a.out q.pk))) := Lib.hid fun W X h1 h2 h3 => r_Put h1 h2 h3 hla.1 hla.2 hct
    obtain ⟨ga, oa, hA, hgl, hrow⟩ := hG.rd.range (i := gix hs q.h.pa q.h.ds) (by rw [hG.ln]; exact hi)
    rw [flat_row rcl_len rs _ hi] at hrow
    rw [hsr] at hrow
    obtain ⟨A, n, c⟩ := g
    dsimp only at *
    subst hA
    have hn1 : n = rs.length := hG.ln
    have hn64 : n ≤ 64 := by
      have h1 : hs * ps ≤ 8 * 8 := Nat.mul_le_mul hG.gd.h8 hG.gd.p8
      rw [hn1, hG.dim]; omega
    have hin : gix hs q.h.pa q.h.ds < n := by omega
    have HT := Lib.hid (fun (r' : RV) (a' : AM) => hG.turn hp r' a' hi)
    have HLay := Lib.hid (fun (r' : RV) (a' : AM) => flat_set rcl_len rs (gix hs q.h.pa q.h.ds) hi (r', a'))
    have hgr0 : Gr F (fun k => F k ∨ (w.heap.size ≤ k ∧ k < w.heap.size + 4)) w.heap.size := fun k hk => hk.imp id And.left
    obtain ⟨X0, hX0⟩ : ∃ X0 : Nat → Prop, X0 = fun k => F k ∨ (w.heap.size ≤ k ∧ k < w.heap.size + 4) := ⟨_, rfl⟩
    have HXF : Hid (∀ k, F k → X0 k) := Lib.hid fun k hk => by rw [hX0]; exact .inl hk
    have HXB : Hid (X0 w.heap.size ∧ X0 (w.heap.size + 2) ∧ X0 (w.heap.size + 3)) := Lib.hid (by rw [hX0]; exact ⟨.inr (by omega), .inr (by omega), .inr (by omega)⟩)
    have HXL : Hid (∀ k, X0 k → k < w.heap.size + 4) := Lib.hid fun k hk => by
      rw [hX0] at hk
      rcases hk with hk | hk
      · have := hF k hk; omega
      · exact hk.2
    rw [← hX0] at hgr0
    have HRP0 := Lib.hid (hrp.st (St.ext hb0) hgr0)
    have HQP0 := Lib.hid (hq.st (St.ext hb0) hgr0)
    have HB20 := Lib.hid hb2
    have HB30 := Lib.hid hb3
    have HB40 := Lib.hid hb4
    have HB60 := Lib.hid hb6
    have HB0 := Lib.hid hb0
    have HSZ0 := Lib.hid hsz0
    have HG := Lib.hid hG
    have HRow := Lib.hid hrow
    have HGl := Lib.hid hgl
    clear hX0 hgr0 hrp hq hb3 hb4 hb6 hb0 hsz0 hG hrow hgl hra hsr hr0 hi hdim hM hla hct hk hn1 hF
    generalize gix hs q.h.pa q.h.ds = idx at *
    generalize a.nx q.pk = m' at *
    generalize a.vd q.pk = vv at *
    generalize a.out q.pk = xx at *
    have hin' : (idx : Int) < n := by omega
    go_enter Try.func29, Try.ntmps29
    go_upto_region 4 with (first
      | (with_reducible refine at_load 30 (.tmp 2) (by rfl) ?_; refine wpList_load_bk rowG rfl (.tmp 2) rfl w.heap.size 0 rfl hb2 [.int .i64 hs, .int .i64 ps, .slice (some ⟨ga, oa, none⟩) n c, .int .i64 (m.ct 0), .int .i64 (m.ct 1), .int .i64 (m.ct 2), .int .i64 (m.ct 3), .int .i64 (m.ct 4)] rfl rfl ?_)
      | (go_at_call 32; refine (HPo.out _).mono ?_; rintro e w1 ⟨rfl, hb1⟩))
    have HB2 := Lib.hid (HB20.out.below hb1)
    have HB3 := Lib.hid (HB30.out.below hb1)
    have HB4 := Lib.hid (HB40.out.below hb1)
    have HB6 := Lib.hid (HB60.out.below hb1)
    have HRP := Lib.hid (HRP0.out.below hb1)
    have HQP := Lib.hid (HQP0.out.below hb1)
    have HB01 := Lib.hid (below_on HB0.out hb1)
    have HX0 : Hid (∀ k, X0 k → k < w1.heap.size) := Lib.hid fun k hk => by have := HXL.out k hk; have := hb1.size; have := HSZ0.out; omega
    have HS1 : Hid (w.heap.size + 4 ≤ w1.heap.size) := Lib.hid (by have := hb1.size; have := HSZ0.out; omega)
    clear hb1 hb2 HB20 HB30 HB40 HB60 HRP0 HQP0 HB0 HSZ0
    go_cut [9, 10, 11] (fun s9 s10 s11 W => ∃ g11 g12 r6 q6, s9 = .pointer (some ⟨g11, 0, none⟩) ∧ s10 = .int .i64 vv ∧ s11 = .pointer (some ⟨g12, 0, none⟩) ∧ Bk W 76 g11 [.slice r6.a1 r6.n1 r6.c1, .slice r6.a2 r6.n2 r6.c2, .int .i64 m'.lr, .int .i64 m'.hr, .int .i64 m'.wt, .int .i64 m'.run, .int .i64 (m'.ct 0), .int .i64 (m'.ct 1), .int .i64 (m'.ct 2), .int .i64 (m'.ct 3), .int .i64 (m'.ct 4)] ∧ Bk W 65 g12 [.int .i64 q6.h.kd, .int .i64 q6.h.fl, .int .i64 q6.h.pa, .int .i64 q6.h.sr, .int .i64 q6.h.ds, .int .i64 q6.h.cn, .int .i64 q6.h.sq, .int .i64 q6.h.pu, .slice q6.A q6.n q6.c] ∧ RpR X0 W r6 m' ∧ q6.pk = xx ∧ PvR X0 W q6 ∧ w1.heap.size ≤ g11 ∧ w1.heap.size ≤ g12 ∧ Below w1.heap.size w1 W)
    case first =>
      refine wp_region_E (Below w1.heap.size) (by kernel_rfl) (fun wd hbd hsz => ?_)
      have hC := hbd
      have hn0 : w1.heap.size ≤ wd.heap.size := hbd.size
      have hX : ∀ k, X0 k → k < wd.heap.size := fun k hk => Nat.lt_of_lt_of_le (HX0.out k hk) hn0
      have hRP := HRP.out.below hbd
      have hp5 := HQP.out.below hbd
      have hsub : ∀ k, X0 k → X0 k := fun k hk => hk
      have k2 : ∀ W, Below w1.heap.size wd W → W.cell? ⟨w.heap.size, 2, none⟩ = some (.slice (some ⟨ga, oa, none⟩) n c) := fun W hW => (HB2.out.below (hbd.trans hW)).cell 2 rfl
      have HBD := Lib.hid hbd
      clear hbd hsz
      (refine takeE (belowTr w1.heap.size) 0 (by simp only [List.getElem?_toArray, List.getElem?_cons_succ, List.getElem?_cons_zero]; rfl) (by kernel_rfl) (by kernel_rfl) (by kernel_rfl) (by exact fun _ _ _ h => h) (by first | (refine Or.inl ⟨by rfl, ?_⟩; intro W hW; go_simp; try with_reducible rfl) | exact Or.inr ⟨by rfl, rfl⟩) ?_; try simp only [Act.put, List.setIfInBounds_toArray, List.set_cons_zero, List.set_cons_succ])
      (refine takeE (belowTr w1.heap.size) 2 (by simp only [List.getElem?_toArray, List.getElem?_cons_succ, List.getElem?_cons_zero]; rfl) (by kernel_rfl) (by kernel_rfl) (by kernel_rfl) (by exact fun _ _ _ h => h) (by first | (refine Or.inl ⟨by rfl, ?_⟩; intro W hW; go_simp; try with_reducible rfl) | exact Or.inr ⟨by rfl, rfl⟩) ?_; try simp only [Act.put, List.setIfInBounds_toArray, List.set_cons_zero, List.set_cons_succ])
      (refine takeE (belowTr w1.heap.size) 5 (by simp only [List.getElem?_toArray, List.getElem?_cons_succ, List.getElem?_cons_zero]; rfl) (by kernel_rfl) (by kernel_rfl) (by kernel_rfl) (by exact fun _ _ _ h => h) (by first | (refine Or.inl ⟨by rfl, ?_⟩; intro W hW; exact exec_load_bk rowP (.tmp 3) rfl (w.heap.size + 1) 0 rfl (HB3.out.below (HBD.out.trans hW)) q.cl rfl rfl) | exact Or.inr ⟨by rfl, rfl⟩) ?_; try simp only [Act.put, List.setIfInBounds_toArray, List.set_cons_zero, List.set_cons_succ])
      (refine takeE (belowTr w1.heap.size) 1 (by simp only [List.getElem?_toArray, List.getElem?_cons_succ, List.getElem?_cons_zero]; rfl) (by kernel_rfl) (by kernel_rfl) (by kernel_rfl) (by exact fun _ _ _ h => h) (by first | (refine Or.inl ⟨by rfl, ?_⟩; intro W hW; go_simp; try with_reducible rfl) | exact Or.inr ⟨by rfl, rfl⟩) ?_; try simp only [Act.put, List.setIfInBounds_toArray, List.set_cons_zero, List.set_cons_succ])
      (refine takeE (belowTr w1.heap.size) 3 (by simp only [List.getElem?_toArray, List.getElem?_cons_succ, List.getElem?_cons_zero]; rfl) (by kernel_rfl) (by kernel_rfl) (by kernel_rfl) (by exact fun _ _ _ h => h) (by first | (refine Or.inl ⟨by rfl, ?_⟩; intro W hW; go_simp; try with_reducible rfl) | exact Or.inr ⟨by rfl, rfl⟩) ?_; try simp only [Act.put, List.setIfInBounds_toArray, List.set_cons_zero, List.set_cons_succ])
      (refine takeE (belowTr w1.heap.size) 4 (by simp only [List.getElem?_toArray, List.getElem?_cons_succ, List.getElem?_cons_zero]; rfl) (by kernel_rfl) (by kernel_rfl) (by kernel_rfl) (by exact fun _ _ _ h => h) (by first | (refine Or.inl ⟨by rfl, ?_⟩; intro W hW; exact exec_loadRng rowR (.tmp 29) rfl ga (oa + idx * 11) rfl (range_below HRow.out HGl.out (HB01.out.trans ((HBD.out.trans hW).mono HB01.out.size))) rfl) | exact Or.inr ⟨by rfl, rfl⟩) ?_; try simp only [Act.put, List.setIfInBounds_toArray, List.set_cons_zero, List.set_cons_succ])
      refine wpAnyE_three (i := 6) (j := 11) (k := 12) (by kernel_rfl) (by simp only [List.getElem?_toArray, List.getElem?_cons_succ, List.getElem?_cons_zero]; rfl) (by simp only [List.getElem?_toArray, List.getElem?_cons_succ, List.getElem?_cons_zero]; rfl) (by simp only [List.getElem?_toArray, List.getElem?_cons_succ, List.getElem?_cons_zero]; rfl) (fun K hK => ?_) (fun K hK => ?_) (fun K hK => ?_)
      ·
        go_simp
        refine (HRPut.out _ _ hRP hp5 hX).mono ?_
        rintro e w6 ⟨r6, q6, rfl, hr6, hk6, hq6, hb⟩
        have hE := hb.mono hn0
        have hC := hC.trans hE
        have hn0 := Nat.le_trans hn0 hb.size
        have hX := fun k hk => Nat.lt_of_lt_of_le (hX k hk) hb.size
        have hRP := hRP.below hb
        have hp5 := hp5.below hb
        try have hz11 := hz11.below hb
        try have hz12 := hz12.below hb
        refine hK.out _ _ hE ?_
        clear hK K
        try simp only [Act.put, List.setIfInBounds_toArray, List.set_cons_zero, List.set_cons_succ]
        (refine takeE (belowTr w1.heap.size) 7 (by simp only [List.getElem?_toArray, List.getElem?_cons_succ, List.getElem?_cons_zero]; rfl) (by kernel_rfl) (by kernel_rfl) (by kernel_rfl) (by exact fun _ _ _ h => h) (by first | (refine Or.inl ⟨by rfl, ?_⟩; intro W hW; go_simp; try with_reducible rfl) | exact Or.inr ⟨by rfl, rfl⟩) ?_; try simp only [Act.put, List.setIfInBounds_toArray, List.set_cons_zero, List.set_cons_succ])
        (refine takeE (belowTr w1.heap.size) 8 (by simp only [List.getElem?_toArray, List.getElem?_cons_succ, List.getElem?_cons_zero]; rfl) (by kernel_rfl) (by kernel_rfl) (by kernel_rfl) (by exact fun _ _ _ h => h) (by first | (refine Or.inl ⟨by rfl, ?_⟩; intro W hW; go_simp; try with_reducible rfl) | exact Or.inr ⟨by rfl, rfl⟩) ?_; try simp only [Act.put, List.setIfInBounds_toArray, List.set_cons_zero, List.set_cons_succ])
        (refine takeE (belowTr w1.heap.size) 9 (by simp only [List.getElem?_toArray, List.getElem?_cons_succ, List.getElem?_cons_zero]; rfl) (by kernel_rfl) (by kernel_rfl) (by kernel_rfl) (by exact fun _ _ _ h => h) (by first | (refine Or.inl ⟨by rfl, ?_⟩; intro W hW; go_simp; try with_reducible rfl) | exact Or.inr ⟨by rfl, rfl⟩) ?_; try simp only [Act.put, List.setIfInBounds_toArray, List.set_cons_zero, List.set_cons_succ])
        (refine takeE (belowTr w1.heap.size) 10 (by simp only [List.getElem?_toArray, List.getElem?_cons_succ, List.getElem?_cons_zero]; rfl) (by kernel_rfl) (by kernel_rfl) (by kernel_rfl) (by exact fun _ _ _ h => h) (by first | (refine Or.inl ⟨by rfl, ?_⟩; intro W hW; go_simp; try with_reducible rfl) | exact Or.inr ⟨by rfl, rfl⟩) ?_; try simp only [Act.put, List.setIfInBounds_toArray, List.set_cons_zero, List.set_cons_succ])
        refine wpAnyE_two (i := 11) (j := 12) (by kernel_rfl) (by simp only [List.getElem?_toArray, List.getElem?_cons_succ, List.getElem?_cons_zero]; rfl) (by simp only [List.getElem?_toArray, List.getElem?_cons_succ, List.getElem?_cons_zero]; rfl) (fun K hK => ?_) (fun K hK => ?_)
        ·
          go_simp
          have hg11 := hn0
          try have hne := Nat.ne_of_lt hz12.lt
          obtain ⟨hz11, hx11, hC, hE, hb, hX, hn0, hgr, -, hup⟩ := al_new (B := 0) hC hn0 hX (Nat.zero_le _) (fun g hg => absurd hg (Nat.not_lt_zero _)) 76 [.slice none 0 0, .slice none 0 0, .int .i64 0, .int .i64 0, .int .i64 0, .int .i64 0, .int .i64 0, .int .i64 0, .int .i64 0, .int .i64 0, .int .i64 0]
          try have hz12 := hz12.below hb
          try have hx12 := hup _ hx12
          have hp5 := hp5.st (St.ext hb) hgr
          try have hr6 := hr6.st (St.ext hb) hgr
          try have hq6 := hq6.st (St.ext hb) hgr
          have hRP := hRP.st (St.ext hb) hgr
          have hsub := fun k hk => hup k (hsub k hk)
          refine hK.out _ _ hE ?_
          clear hK K
          try simp only [Act.put, List.setIfInBounds_toArray, List.set_cons_zero, List.set_cons_succ]
          refine wpAnyE_one (i := 12) (by kernel_rfl) (by simp only [List.getElem?_toArray, List.getElem?_cons_succ, List.getElem?_cons_zero]; rfl) (fun K hK => ?_)
          go_simp
          have hg12 := hn0
          try have hne := Nat.ne_of_gt hz11.lt
          obtain ⟨hz12, hx12, hC, hE, hb, hX, hn0, hgr, -, hup⟩ := al_new (B := 0) hC hn0 hX (Nat.zero_le _) (fun g hg => absurd hg (Nat.not_lt_zero _)) 65 [.int .i64 0, .int .i64 0, .int .i64 0, .int .i64 0, .int .i64 0, .int .i64 0, .int .i64 0, .int .i64 0, .slice none 0 0]
          try have hz11 := hz11.below hb
          try have hx11 := hup _ hx11
          have hp5 := hp5.st (St.ext hb) hgr
          try have hr6 := hr6.st (St.ext hb) hgr
          try have hq6 := hq6.st (St.ext hb) hgr
          have hRP := hRP.st (St.ext hb) hgr
          have hsub := fun k hk => hup k (hsub k hk)
          refine hK.out _ _ hE ?_
          clear hK K
          try simp only [Act.put, List.setIfInBounds_toArray, List.set_cons_zero, List.set_cons_succ]
          refine wpAnyE_one (i := 13) (by kernel_rfl) (by simp only [List.getElem?_toArray, List.getElem?_cons_succ, List.getElem?_cons_zero]; rfl) (fun K hK => ?_)
          refine opwp_put_rp rowR rfl (.tmp 9) (.tmp 33) rfl _ (by first | rfl | (simp only [World.size_alloc]; done) | (simp only [World.size_alloc]; rfl)) hz11 rfl r6 m' rfl ?_
          rintro w7 hz11 hw
          have hs := wr_st hw hx11
          have hz12 := hz12.wr hw hne
          have hE := hw.below hg11 hn0
          have hC := hC.trans hE
          have hn0 := Nat.le_trans hn0 hE.size
          have hr6 := hr6.st hs (Gr.refl _ _)
          have hq6 := hq6.st hs (Gr.refl _ _)
          refine hK.out _ _ hE ?_
          clear hK K
          try simp only [Act.put, List.setIfInBounds_toArray, List.set_cons_zero, List.set_cons_succ]
          (refine takeE (belowTr w1.heap.size) 14 (by simp only [List.getElem?_toArray, List.getElem?_cons_succ, List.getElem?_cons_zero]; rfl) (by kernel_rfl) (by kernel_rfl) (by kernel_rfl) (by exact fun _ _ _ h => h) (by first | (refine Or.inl ⟨by rfl, ?_⟩; intro W hW; go_simp; try with_reducible rfl) | exact Or.inr ⟨by rfl, rfl⟩) ?_; try simp only [Act.put, List.setIfInBounds_toArray, List.set_cons_zero, List.set_cons_succ])
          refine wpAnyE_one (i := 15) (by kernel_rfl) (by simp only [List.getElem?_toArray, List.getElem?_cons_succ, List.getElem?_cons_zero]; rfl) (fun K hK => ?_)
          refine opwp_put_pk rowP rfl (.tmp 11) (.tmp 35) rfl _ (by first | rfl | (simp only [World.size_alloc]; done) | (simp only [World.size_alloc]; rfl)) hz12 rfl q6 rfl ?_
          rintro w8 hz12 hw
          have hs := wr_st hw hx12
          have hz11 := hz11.wr hw (Ne.symm hne)
          have hE := hw.below hg12 hn0
          have hC := hC.trans hE
          have hr6 := hr6.st hs (Gr.refl _ _)
          have hq6 := hq6.st hs (Gr.refl _ _)
          refine hK.out _ _ hE ?_
          clear hK K
          try simp only [Act.put, List.setIfInBounds_toArray, List.set_cons_zero, List.set_cons_succ]
          refine wpAnyE_done (by kernel_rfl) ?_ _
          go_wp2_with fail
          go_meet
          exact ⟨_, _, r6, q6, by first | rfl | (simp only [World.size_alloc]; done) | (simp only [World.size_alloc]; rfl), rfl, by first | rfl | (simp only [World.size_alloc]; done) | (simp only [World.size_alloc]; rfl), hz11, hz12, hr6.mono hsub, hk6, hq6.mono hsub, hg11, hg12, hC⟩
        ·
          go_simp
          have hg12 := hn0
          try have hne := Nat.ne_of_gt hz11.lt
          obtain ⟨hz12, hx12, hC, hE, hb, hX, hn0, hgr, -, hup⟩ := al_new (B := 0) hC hn0 hX (Nat.zero_le _) (fun g hg => absurd hg (Nat.not_lt_zero _)) 65 [.int .i64 0, .int .i64 0, .int .i64 0, .int .i64 0, .int .i64 0, .int .i64 0, .int .i64 0, .int .i64 0, .slice none 0 0]
          try have hz11 := hz11.below hb
          try have hx11 := hup _ hx11
          have hp5 := hp5.st (St.ext hb) hgr
          try have hr6 := hr6.st (St.ext hb) hgr
          try have hq6 := hq6.st (St.ext hb) hgr
          have hRP := hRP.st (St.ext hb) hgr
          have hsub := fun k hk => hup k (hsub k hk)
          refine hK.out _ _ hE ?_
          clear hK K
          try simp only [Act.put, List.setIfInBounds_toArray, List.set_cons_zero, List.set_cons_succ]
          refine wpAnyE_one (i := 11) (by kernel_rfl) (by simp only [List.getElem?_toArray, List.getElem?_cons_succ, List.getElem?_cons_zero]; rfl) (fun K hK => ?_)
          go_simp
          have hg11 := hn0
          try have hne := Nat.ne_of_lt hz12.lt
          obtain ⟨hz11, hx11, hC, hE, hb, hX, hn0, hgr, -, hup⟩ := al_new (B := 0) hC hn0 hX (Nat.zero_le _) (fun g hg => absurd hg (Nat.not_lt_zero _)) 76 [.slice none 0 0, .slice none 0 0, .int .i64 0, .int .i64 0, .int .i64 0, .int .i64 0, .int .i64 0, .int .i64 0, .int .i64 0, .int .i64 0, .int .i64 0]
          try have hz12 := hz12.below hb
          try have hx12 := hup _ hx12
          have hp5 := hp5.st (St.ext hb) hgr
          try have hr6 := hr6.st (St.ext hb) hgr
          try have hq6 := hq6.st (St.ext hb) hgr
          have hRP := hRP.st (St.ext hb) hgr
          have hsub := fun k hk => hup k (hsub k hk)
          refine hK.out _ _ hE ?_
          clear hK K
          try simp only [Act.put, List.setIfInBounds_toArray, List.set_cons_zero, List.set_cons_succ]
          refine wpAnyE_one (i := 13) (by kernel_rfl) (by simp only [List.getElem?_toArray, List.getElem?_cons_succ, List.getElem?_cons_zero]; rfl) (fun K hK => ?_)
          refine opwp_put_rp rowR rfl (.tmp 9) (.tmp 33) rfl _ (by first | rfl | (simp only [World.size_alloc]; done) | (simp only [World.size_alloc]; rfl)) hz11 rfl r6 m' rfl ?_
          rintro w7 hz11 hw
          have hs := wr_st hw hx11
          have hz12 := hz12.wr hw hne
          have hE := hw.below hg11 hn0
          have hC := hC.trans hE
          have hn0 := Nat.le_trans hn0 hE.size
          have hr6 := hr6.st hs (Gr.refl _ _)
          have hq6 := hq6.st hs (Gr.refl _ _)
          refine hK.out _ _ hE ?_
          clear hK K
          try simp only [Act.put, List.setIfInBounds_toArray, List.set_cons_zero, List.set_cons_succ]
          (refine takeE (belowTr w1.heap.size) 14 (by simp only [List.getElem?_toArray, List.getElem?_cons_succ, List.getElem?_cons_zero]; rfl) (by kernel_rfl) (by kernel_rfl) (by kernel_rfl) (by exact fun _ _ _ h => h) (by first | (refine Or.inl ⟨by rfl, ?_⟩; intro W hW; go_simp; try with_reducible rfl) | exact Or.inr ⟨by rfl, rfl⟩) ?_; try simp only [Act.put, List.setIfInBounds_toArray, List.set_cons_zero, List.set_cons_succ])
          refine wpAnyE_one (i := 15) (by kernel_rfl) (by simp only [List.getElem?_toArray, List.getElem?_cons_succ, List.getElem?_cons_zero]; rfl) (fun K hK => ?_)
          refine opwp_put_pk rowP rfl (.tmp 11) (.tmp 35) rfl _ (by first | rfl | (simp only [World.size_alloc]; done) | (simp only [World.size_alloc]; rfl)) hz12 rfl q6 rfl ?_
          rintro w8 hz12 hw
          have hs := wr_st hw hx12
          have hz11 := hz11.wr hw (Ne.symm hne)
          have hE := hw.below hg12 hn0
          have hC := hC.trans hE
          have hr6 := hr6.st hs (Gr.refl _ _)
          have hq6 := hq6.st hs (Gr.refl _ _)
          refine hK.out _ _ hE ?_
          clear hK K
          try simp only [Act.put, List.setIfInBounds_toArray, List.set_cons_zero, List.set_cons_succ]
          refine wpAnyE_done (by kernel_rfl) ?_ _
          go_wp2_with fail
          go_meet
          exact ⟨_, _, r6, q6, by first | rfl | (simp only [World.size_alloc]; done) | (simp only [World.size_alloc]; rfl), rfl, by first | rfl | (simp only [World.size_alloc]; done) | (simp only [World.size_alloc]; rfl), hz11, hz12, hr6.mono hsub, hk6, hq6.mono hsub, hg11, hg12, hC⟩
      ·
        go_simp
        have hg11 := hn0
        try have hne := Nat.ne_of_lt hz12.lt
        obtain ⟨hz11, hx11, hC, hE, hb, hX, hn0, hgr, -, hup⟩ := al_new (B := 0) hC hn0 hX (Nat.zero_le _) (fun g hg => absurd hg (Nat.not_lt_zero _)) 76 [.slice none 0 0, .slice none 0 0, .int .i64 0, .int .i64 0, .int .i64 0, .int .i64 0, .int .i64 0, .int .i64 0, .int .i64 0, .int .i64 0, .int .i64 0]
        try have hz12 := hz12.below hb
        try have hx12 := hup _ hx12
        have hp5 := hp5.st (St.ext hb) hgr
        try have hr6 := hr6.st (St.ext hb) hgr
        try have hq6 := hq6.st (St.ext hb) hgr
        have hRP := hRP.st (St.ext hb) hgr
        have hsub := fun k hk => hup k (hsub k hk)
        refine hK.out _ _ hE ?_
        clear hK K
        try simp only [Act.put, List.setIfInBounds_toArray, List.set_cons_zero, List.set_cons_succ]
        refine wpAnyE_two (i := 6) (j := 12) (by kernel_rfl) (by simp only [List.getElem?_toArray, List.getElem?_cons_succ, List.getElem?_cons_zero]; rfl) (by simp only [List.getElem?_toArray, List.getElem?_cons_succ, List.getElem?_cons_zero]; rfl) (fun K hK => ?_) (fun K hK => ?_)
        ·
          go_simp
          refine (HRPut.out _ _ hRP hp5 hX).mono ?_
          rintro e w6 ⟨r6, q6, rfl, hr6, hk6, hq6, hb⟩
          have hE := hb.mono hn0
          have hC := hC.trans hE
          have hn0 := Nat.le_trans hn0 hb.size
          have hX := fun k hk => Nat.lt_of_lt_of_le (hX k hk) hb.size
          have hRP := hRP.below hb
          have hp5 := hp5.below hb
          try have hz11 := hz11.below hb
          try have hz12 := hz12.below hb
          refine hK.out _ _ hE ?_
          clear hK K
          try simp only [Act.put, List.setIfInBounds_toArray, List.set_cons_zero, List.set_cons_succ]
          (refine takeE (belowTr w1.heap.size) 7 (by simp only [List.getElem?_toArray, List.getElem?_cons_succ, List.getElem?_cons_zero]; rfl) (by kernel_rfl) (by kernel_rfl) (by kernel_rfl) (by exact fun _ _ _ h => h) (by first | (refine Or.inl ⟨by rfl, ?_⟩; intro W hW; go_simp; try with_reducible rfl) | exact Or.inr ⟨by rfl, rfl⟩) ?_; try simp only [Act.put, List.setIfInBounds_toArray, List.set_cons_zero, List.set_cons_succ])
          (refine takeE (belowTr w1.heap.size) 8 (by simp only [List.getElem?_toArray, List.getElem?_cons_succ, List.getElem?_cons_zero]; rfl) (by kernel_rfl) (by kernel_rfl) (by kernel_rfl) (by exact fun _ _ _ h => h) (by first | (refine Or.inl ⟨by rfl, ?_⟩; intro W hW; go_simp; try with_reducible rfl) | exact Or.inr ⟨by rfl, rfl⟩) ?_; try simp only [Act.put, List.setIfInBounds_toArray, List.set_cons_zero, List.set_cons_succ])
          (refine takeE (belowTr w1.heap.size) 9 (by simp only [List.getElem?_toArray, List.getElem?_cons_succ, List.getElem?_cons_zero]; rfl) (by kernel_rfl) (by kernel_rfl) (by kernel_rfl) (by exact fun _ _ _ h => h) (by first | (refine Or.inl ⟨by rfl, ?_⟩; intro W hW; go_simp; try with_reducible rfl) | exact Or.inr ⟨by rfl, rfl⟩) ?_; try simp only [Act.put, List.setIfInBounds_toArray, List.set_cons_zero, List.set_cons_succ])
          (refine takeE (belowTr w1.heap.size) 10 (by simp only [List.getElem?_toArray, List.getElem?_cons_succ, List.getElem?_cons_zero]; rfl) (by kernel_rfl) (by kernel_rfl) (by kernel_rfl) (by exact fun _ _ _ h => h) (by first | (refine Or.inl ⟨by rfl, ?_⟩; intro W hW; go_simp; try with_reducible rfl) | exact Or.inr ⟨by rfl, rfl⟩) ?_; try simp only [Act.put, List.setIfInBounds_toArray, List.set_cons_zero, List.set_cons_succ])
          refine wpAnyE_one (i := 12) (by kernel_rfl) (by simp only [List.getElem?_toArray, List.getElem?_cons_succ, List.getElem?_cons_zero]; rfl) (fun K hK => ?_)
          go_simp
          have hg12 := hn0
          try have hne := Nat.ne_of_gt hz11.lt
          obtain ⟨hz12, hx12, hC, hE, hb, hX, hn0, hgr, -, hup⟩ := al_new (B := 0) hC hn0 hX (Nat.zero_le _) (fun g hg => absurd hg (Nat.not_lt_zero _)) 65 [.int .i64 0, .int .i64 0, .int .i64 0, .int .i64 0, .int .i64 0, .int .i64 0, .int .i64 0, .int .i64 0, .slice none 0 0]
          try have hz11 := hz11.below hb
          try have hx11 := hup _ hx11
          have hp5 := hp5.st (St.ext hb) hgr
          try have hr6 := hr6.st (St.ext hb) hgr
          try have hq6 := hq6.st (St.ext hb) hgr
          have hRP := hRP.st (St.ext hb) hgr
          have hsub := fun k hk => hup k (hsub k hk)
          refine hK.out _ _ hE ?_
          clear hK K
          try simp only [Act.put, List.setIfInBounds_toArray, List.set_cons_zero, List.set_cons_succ]
          refine wpAnyE_one (i := 13) (by kernel_rfl) (by simp only [List.getElem?_toArray, List.getElem?_cons_succ, List.getElem?_cons_zero]; rfl) (fun K hK => ?_)
          refine opwp_put_rp rowR rfl (.tmp 9) (.tmp 33) rfl _ (by first | rfl | (simp only [World.size_alloc]; done) | (simp only [World.size_alloc]; rfl)) hz11 rfl r6 m' rfl ?_
          rintro w7 hz11 hw
          have hs := wr_st hw hx11
          have hz12 := hz12.wr hw hne
          have hE := hw.below hg11 hn0
          have hC := hC.trans hE
          have hn0 := Nat.le_trans hn0 hE.size
          have hr6 := hr6.st hs (Gr.refl _ _)
          have hq6 := hq6.st hs (Gr.refl _ _)
          refine hK.out _ _ hE ?_
          clear hK K
          try simp only [Act.put, List.setIfInBounds_toArray, List.set_cons_zero, List.set_cons_succ]
          (refine takeE (belowTr w1.heap.size) 14 (by simp only [List.getElem?_toArray, List.getElem?_cons_succ, List.getElem?_cons_zero]; rfl) (by kernel_rfl) (by kernel_rfl) (by kernel_rfl) (by exact fun _ _ _ h => h) (by first | (refine Or.inl ⟨by rfl, ?_⟩; intro W hW; go_simp; try with_reducible rfl) | exact Or.inr ⟨by rfl, rfl⟩) ?_; try simp only [Act.put, List.setIfInBounds_toArray, List.set_cons_zero, List.set_cons_succ])
          refine wpAnyE_one (i := 15) (by kernel_rfl) (by simp only [List.getElem?_toArray, List.getElem?_cons_succ, List.getElem?_cons_zero]; rfl) (fun K hK => ?_)
          refine opwp_put_pk rowP rfl (.tmp 11) (.tmp 35) rfl _ (by first | rfl | (simp only [World.size_alloc]; done) | (simp only [World.size_alloc]; rfl)) hz12 rfl q6 rfl ?_
          rintro w8 hz12 hw
          have hs := wr_st hw hx12
          have hz11 := hz11.wr hw (Ne.symm hne)
          have hE := hw.below hg12 hn0
          have hC := hC.trans hE
          have hr6 := hr6.st hs (Gr.refl _ _)
          have hq6 := hq6.st hs (Gr.refl _ _)
          refine hK.out _ _ hE ?_
          clear hK K
          try simp only [Act.put, List.setIfInBounds_toArray, List.set_cons_zero, List.set_cons_succ]
          refine wpAnyE_done (by kernel_rfl) ?_ _
          go_wp2_with fail
          go_meet
          exact ⟨_, _, r6, q6, by first | rfl | (simp only [World.size_alloc]; done) | (simp only [World.size_alloc]; rfl), rfl, by first | rfl | (simp only [World.size_alloc]; done) | (simp only [World.size_alloc]; rfl), hz11, hz12, hr6.mono hsub, hk6, hq6.mono hsub, hg11, hg12, hC⟩
        ·
          go_simp
          have hg12 := hn0
          try have hne := Nat.ne_of_gt hz11.lt
          obtain ⟨hz12, hx12, hC, hE, hb, hX, hn0, hgr, -, hup⟩ := al_new (B := 0) hC hn0 hX (Nat.zero_le _) (fun g hg => absurd hg (Nat.not_lt_zero _)) 65 [.int .i64 0, .int .i64 0, .int .i64 0, .int .i64 0, .int .i64 0, .int .i64 0, .int .i64 0, .int .i64 0, .slice none 0 0]
          try have hz11 := hz11.below hb
          try have hx11 := hup _ hx11
          have hp5 := hp5.st (St.ext hb) hgr
          try have hr6 := hr6.st (St.ext hb) hgr
          try have hq6 := hq6.st (St.ext hb) hgr
          have hRP := hRP.st (St.ext hb) hgr
          have hsub := fun k hk => hup k (hsub k hk)
          refine hK.out _ _ hE ?_
          clear hK K
          try simp only [Act.put, List.setIfInBounds_toArray, List.set_cons_zero, List.set_cons_succ]
          refine wpAnyE_one (i := 6) (by kernel_rfl) (by simp only [List.getElem?_toArray, List.getElem?_cons_succ, List.getElem?_cons_zero]; rfl) (fun K hK => ?_)
          go_simp
          refine (HRPut.out _ _ hRP hp5 hX).mono ?_
          rintro e w6 ⟨r6, q6, rfl, hr6, hk6, hq6, hb⟩
          have hE := hb.mono hn0
          have hC := hC.trans hE
          have hn0 := Nat.le_trans hn0 hb.size
          have hX := fun k hk => Nat.lt_of_lt_of_le (hX k hk) hb.size
          have hRP := hRP.below hb
          have hp5 := hp5.below hb
          try have hz11 := hz11.below hb
          try have hz12 := hz12.below hb
          refine hK.out _ _ hE ?_
          clear hK K
          try simp only [Act.put, List.setIfInBounds_toArray, List.set_cons_zero, List.set_cons_succ]
          (refine takeE (belowTr w1.heap.size) 7 (by simp only [List.getElem?_toArray, List.getElem?_cons_succ, List.getElem?_cons_zero]; rfl) (by kernel_rfl) (by kernel_rfl) (by kernel_rfl) (by exact fun _ _ _ h => h) (by first | (refine Or.inl ⟨by rfl, ?_⟩; intro W hW; go_simp; try with_reducible rfl) | exact Or.inr ⟨by rfl, rfl⟩) ?_; try simp only [Act.put, List.setIfInBounds_toArray, List.set_cons_zero, List.set_cons_succ])
          (refine takeE (belowTr w1.heap.size) 8 (by simp only [List.getElem?_toArray, List.getElem?_cons_succ, List.getElem?_cons_zero]; rfl) (by kernel_rfl) (by kernel_rfl) (by kernel_rfl) (by exact fun _ _ _ h => h) (by first | (refine Or.inl ⟨by rfl, ?_⟩; intro W hW; go_simp; try with_reducible rfl) | exact Or.inr ⟨by rfl, rfl⟩) ?_; try simp only [Act.put, List.setIfInBounds_toArray, List.set_cons_zero, List.set_cons_succ])
          (refine takeE (belowTr w1.heap.size) 9 (by simp only [List.getElem?_toArray, List.getElem?_cons_succ, List.getElem?_cons_zero]; rfl) (by kernel_rfl) (by kernel_rfl) (by kernel_rfl) (by exact fun _ _ _ h => h) (by first | (refine Or.inl ⟨by rfl, ?_⟩; intro W hW; go_simp; try with_reducible rfl) | exact Or.inr ⟨by rfl, rfl⟩) ?_; try simp only [Act.put, List.setIfInBounds_toArray, List.set_cons_zero, List.set_cons_succ])
          (refine takeE (belowTr w1.heap.size) 10 (by simp only [List.getElem?_toArray, List.getElem?_cons_succ, List.getElem?_cons_zero]; rfl) (by kernel_rfl) (by kernel_rfl) (by kernel_rfl) (by exact fun _ _ _ h => h) (by first | (refine Or.inl ⟨by rfl, ?_⟩; intro W hW; go_simp; try with_reducible rfl) | exact Or.inr ⟨by rfl, rfl⟩) ?_; try simp only [Act.put, List.setIfInBounds_toArray, List.set_cons_zero, List.set_cons_succ])
          refine wpAnyE_one (i := 13) (by kernel_rfl) (by simp only [List.getElem?_toArray, List.getElem?_cons_succ, List.getElem?_cons_zero]; rfl) (fun K hK => ?_)
          refine opwp_put_rp rowR rfl (.tmp 9) (.tmp 33) rfl _ (by first | rfl | (simp only [World.size_alloc]; done) | (simp only [World.size_alloc]; rfl)) hz11 rfl r6 m' rfl ?_
          rintro w7 hz11 hw
          have hs := wr_st hw hx11
          have hz12 := hz12.wr hw hne
          have hE := hw.below hg11 hn0
          have hC := hC.trans hE
          have hn0 := Nat.le_trans hn0 hE.size
          have hr6 := hr6.st hs (Gr.refl _ _)
          have hq6 := hq6.st hs (Gr.refl _ _)
          refine hK.out _ _ hE ?_
          clear hK K
          try simp only [Act.put, List.setIfInBounds_toArray, List.set_cons_zero, List.set_cons_succ]
          (refine takeE (belowTr w1.heap.size) 14 (by simp only [List.getElem?_toArray, List.getElem?_cons_succ, List.getElem?_cons_zero]; rfl) (by kernel_rfl) (by kernel_rfl) (by kernel_rfl) (by exact fun _ _ _ h => h) (by first | (refine Or.inl ⟨by rfl, ?_⟩; intro W hW; go_simp; try with_reducible rfl) | exact Or.inr ⟨by rfl, rfl⟩) ?_; try simp only [Act.put, List.setIfInBounds_toArray, List.set_cons_zero, List.set_cons_succ])
          refine wpAnyE_one (i := 15) (by kernel_rfl) (by simp only [List.getElem?_toArray, List.getElem?_cons_succ, List.getElem?_cons_zero]; rfl) (fun K hK => ?_)
          refine opwp_put_pk rowP rfl (.tmp 11) (.tmp 35) rfl _ (by first | rfl | (simp only [World.size_alloc]; done) | (simp only [World.size_alloc]; rfl)) hz12 rfl q6 rfl ?_
          rintro w8 hz12 hw
          have hs := wr_st hw hx12
          have hz11 := hz11.wr hw (Ne.symm hne)
          have hE := hw.below hg12 hn0
          have hC := hC.trans hE
          have hr6 := hr6.st hs (Gr.refl _ _)
          have hq6 := hq6.st hs (Gr.refl _ _)
          refine hK.out _ _ hE ?_
          clear hK K
          try simp only [Act.put, List.setIfInBounds_toArray, List.set_cons_zero, List.set_cons_succ]
          refine wpAnyE_done (by kernel_rfl) ?_ _
          go_wp2_with fail
          go_meet
          exact ⟨_, _, r6, q6, by first | rfl | (simp only [World.size_alloc]; done) | (simp only [World.size_alloc]; rfl), rfl, by first | rfl | (simp only [World.size_alloc]; done) | (simp only [World.size_alloc]; rfl), hz11, hz12, hr6.mono hsub, hk6, hq6.mono hsub, hg11, hg12, hC⟩
      ·
        go_simp
        have hg12 := hn0
        try have hne := Nat.ne_of_gt hz11.lt
        obtain ⟨hz12, hx12, hC, hE, hb, hX, hn0, hgr, -, hup⟩ := al_new (B := 0) hC hn0 hX (Nat.zero_le _) (fun g hg => absurd hg (Nat.not_lt_zero _)) 65 [.int .i64 0, .int .i64 0, .int .i64 0, .int .i64 0, .int .i64 0, .int .i64 0, .int .i64 0, .int .i64 0, .slice none 0 0]
        try have hz11 := hz11.below hb
        try have hx11 := hup _ hx11
        have hp5 := hp5.st (St.ext hb) hgr
        try have hr6 := hr6.st (St.ext hb) hgr
        try have hq6 := hq6.st (St.ext hb) hgr
        have hRP := hRP.st (St.ext hb) hgr
        have hsub := fun k hk => hup k (hsub k hk)
        refine hK.out _ _ hE ?_
        clear hK K
        try simp only [Act.put, List.setIfInBounds_toArray, List.set_cons_zero, List.set_cons_succ]
        refine wpAnyE_two (i := 6) (j := 11) (by kernel_rfl) (by simp only [List.getElem?_toArray, List.getElem?_cons_succ, List.getElem?_cons_zero]; rfl) (by simp only [List.getElem?_toArray, List.getElem?_cons_succ, List.getElem?_cons_zero]; rfl) (fun K hK => ?_) (fun K hK => ?_)
        ·
          go_simp
          refine (HRPut.out _ _ hRP hp5 hX).mono ?_
          rintro e w6 ⟨r6, q6, rfl, hr6, hk6, hq6, hb⟩
          have hE := hb.mono hn0
          have hC := hC.trans hE
          have hn0 := Nat.le_trans hn0 hb.size
          have hX := fun k hk => Nat.lt_of_lt_of_le (hX k hk) hb.size
          have hRP := hRP.below hb
          have hp5 := hp5.below hb
          try have hz11 := hz11.below hb
          try have hz12 := hz12.below hb
          refine hK.out _ _ hE ?_
          clear hK K
          try simp only [Act.put, List.setIfInBounds_toArray, List.set_cons_zero, List.set_cons_succ]
          (refine takeE (belowTr w1.heap.size) 7 (by simp only [List.getElem?_toArray, List.getElem?_cons_succ, List.getElem?_cons_zero]; rfl) (by kernel_rfl) (by kernel_rfl) (by kernel_rfl) (by exact fun _ _ _ h => h) (by first | (refine Or.inl ⟨by rfl, ?_⟩; intro W hW; go_simp; try with_reducible rfl) | exact Or.inr ⟨by rfl, rfl⟩) ?_; try simp only [Act.put, List.setIfInBounds_toArray, List.set_cons_zero, List.set_cons_succ])
          (refine takeE (belowTr w1.heap.size) 8 (by simp only [List.getElem?_toArray, List.getElem?_cons_succ, List.getElem?_cons_zero]; rfl) (by kernel_rfl) (by kernel_rfl) (by kernel_rfl) (by exact fun _ _ _ h => h) (by first | (refine Or.inl ⟨by rfl, ?_⟩; intro W hW; go_simp; try with_reducible rfl) | exact Or.inr ⟨by rfl, rfl⟩) ?_; try simp only [Act.put, List.setIfInBounds_toArray, List.set_cons_zero, List.set_cons_succ])
          (refine takeE (belowTr w1.heap.size) 9 (by simp only [List.getElem?_toArray, List.getElem?_cons_succ, List.getElem?_cons_zero]; rfl) (by kernel_rfl) (by kernel_rfl) (by kernel_rfl) (by exact fun _ _ _ h => h) (by first | (refine Or.inl ⟨by rfl, ?_⟩; intro W hW; go_simp; try with_reducible rfl) | exact Or.inr ⟨by rfl, rfl⟩) ?_; try simp only [Act.put, List.setIfInBounds_toArray, List.set_cons_zero, List.set_cons_succ])
          (refine takeE (belowTr w1.heap.size) 10 (by simp only [List.getElem?_toArray, List.getElem?_cons_succ, List.getElem?_cons_zero]; rfl) (by kernel_rfl) (by kernel_rfl) (by kernel_rfl) (by exact fun _ _ _ h => h) (by first | (refine Or.inl ⟨by rfl, ?_⟩; intro W hW; go_simp; try with_reducible rfl) | exact Or.inr ⟨by rfl, rfl⟩) ?_; try simp only [Act.put, List.setIfInBounds_toArray, List.set_cons_zero, List.set_cons_succ])
          refine wpAnyE_one (i := 11) (by kernel_rfl) (by simp only [List.getElem?_toArray, List.getElem?_cons_succ, List.getElem?_cons_zero]; rfl) (fun K hK => ?_)
          go_simp
          have hg11 := hn0
          try have hne := Nat.ne_of_lt hz12.lt
          obtain ⟨hz11, hx11, hC, hE, hb, hX, hn0, hgr, -, hup⟩ := al_new (B := 0) hC hn0 hX (Nat.zero_le _) (fun g hg => absurd hg (Nat.not_lt_zero _)) 76 [.slice none 0 0, .slice none 0 0, .int .i64 0, .int .i64 0, .int .i64 0, .int .i64 0, .int .i64 0, .int .i64 0, .int .i64 0, .int .i64 0, .int .i64 0]
          try have hz12 := hz12.below hb
          try have hx12 := hup _ hx12
          have hp5 := hp5.st (St.ext hb) hgr
          try have hr6 := hr6.st (St.ext hb) hgr
          try have hq6 := hq6.st (St.ext hb) hgr
          have hRP := hRP.st (St.ext hb) hgr
          have hsub := fun k hk => hup k (hsub k hk)
          refine hK.out _ _ hE ?_
          clear hK K
          try simp only [Act.put, List.setIfInBounds_toArray, List.set_cons_zero, List.set_cons_succ]
          refine wpAnyE_one (i := 13) (by kernel_rfl) (by simp only [List.getElem?_toArray, List.getElem?_cons_succ, List.getElem?_cons_zero]; rfl) (fun K hK => ?_)
          refine opwp_put_rp rowR rfl (.tmp 9) (.tmp 33) rfl _ (by first | rfl | (simp only [World.size_alloc]; done) | (simp only [World.size_alloc]; rfl)) hz11 rfl r6 m' rfl ?_
          rintro w7 hz11 hw
          have hs := wr_st hw hx11
          have hz12 := hz12.wr hw hne
          have hE := hw.below hg11 hn0
          have hC := hC.trans hE
          have hn0 := Nat.le_trans hn0 hE.size
          have hr6 := hr6.st hs (Gr.refl _ _)
          have hq6 := hq6.st hs (Gr.refl _ _)
          refine hK.out _ _ hE ?_
          clear hK K
          try simp only [Act.put, List.setIfInBounds_toArray, List.set_cons_zero, List.set_cons_succ]
          (refine takeE (belowTr w1.heap.size) 14 (by simp only [List.getElem?_toArray, List.getElem?_cons_succ, List.getElem?_cons_zero]; rfl) (by kernel_rfl) (by kernel_rfl) (by kernel_rfl) (by exact fun _ _ _ h => h) (by first | (refine Or.inl ⟨by rfl, ?_⟩; intro W hW; go_simp; try with_reducible rfl) | exact Or.inr ⟨by rfl, rfl⟩) ?_; try simp only [Act.put, List.setIfInBounds_toArray, List.set_cons_zero, List.set_cons_succ])
          refine wpAnyE_one (i := 15) (by kernel_rfl) (by simp only [List.getElem?_toArray, List.getElem?_cons_succ, List.getElem?_cons_zero]; rfl) (fun K hK => ?_)
          refine opwp_put_pk rowP rfl (.tmp 11) (.tmp 35) rfl _ (by first | rfl | (simp only [World.size_alloc]; done) | (simp only [World.size_alloc]; rfl)) hz12 rfl q6 rfl ?_
          rintro w8 hz12 hw
          have hs := wr_st hw hx12
          have hz11 := hz11.wr hw (Ne.symm hne)
          have hE := hw.below hg12 hn0
          have hC := hC.trans hE
          have hr6 := hr6.st hs (Gr.refl _ _)
          have hq6 := hq6.st hs (Gr.refl _ _)
          refine hK.out _ _ hE ?_
          clear hK K
          try simp only [Act.put, List.setIfInBounds_toArray, List.set_cons_zero, List.set_cons_succ]
          refine wpAnyE_done (by kernel_rfl) ?_ _
          go_wp2_with fail
          go_meet
          exact ⟨_, _, r6, q6, by first | rfl | (simp only [World.size_alloc]; done) | (simp only [World.size_alloc]; rfl), rfl, by first | rfl | (simp only [World.size_alloc]; done) | (simp only [World.size_alloc]; rfl), hz11, hz12, hr6.mono hsub, hk6, hq6.mono hsub, hg11, hg12, hC⟩
        ·
          go_simp
          have hg11 := hn0
          try have hne := Nat.ne_of_lt hz12.lt
          obtain ⟨hz11, hx11, hC, hE, hb, hX, hn0, hgr, -, hup⟩ := al_new (B := 0) hC hn0 hX (Nat.zero_le _) (fun g hg => absurd hg (Nat.not_lt_zero _)) 76 [.slice none 0 0, .slice none 0 0, .int .i64 0, .int .i64 0, .int .i64 0, .int .i64 0, .int .i64 0, .int .i64 0, .int .i64 0, .int .i64 0, .int .i64 0]
          try have hz12 := hz12.below hb
          try have hx12 := hup _ hx12
          have hp5 := hp5.st (St.ext hb) hgr
          try have hr6 := hr6.st (St.ext hb) hgr
          try have hq6 := hq6.st (St.ext hb) hgr
          have hRP := hRP.st (St.ext hb) hgr
          have hsub := fun k hk => hup k (hsub k hk)
          refine hK.out _ _ hE ?_
          clear hK K
          try simp only [Act.put, List.setIfInBounds_toArray, List.set_cons_zero, List.set_cons_succ]
          refine wpAnyE_one (i := 6) (by kernel_rfl) (by simp only [List.getElem?_toArray, List.getElem?_cons_succ, List.getElem?_cons_zero]; rfl) (fun K hK => ?_)
          go_simp
          refine (HRPut.out _ _ hRP hp5 hX).mono ?_
          rintro e w6 ⟨r6, q6, rfl, hr6, hk6, hq6, hb⟩
          have hE := hb.mono hn0
          have hC := hC.trans hE
          have hn0 := Nat.le_trans hn0 hb.size
          have hX := fun k hk => Nat.lt_of_lt_of_le (hX k hk) hb.size
          have hRP := hRP.below hb
          have hp5 := hp5.below hb
          try have hz11 := hz11.below hb
          try have hz12 := hz12.below hb
          refine hK.out _ _ hE ?_
          clear hK K
          try simp only [Act.put, List.setIfInBounds_toArray, List.set_cons_zero, List.set_cons_succ]
          (refine takeE (belowTr w1.heap.size) 7 (by simp only [List.getElem?_toArray, List.getElem?_cons_succ, List.getElem?_cons_zero]; rfl) (by kernel_rfl) (by kernel_rfl) (by kernel_rfl) (by exact fun _ _ _ h => h) (by first | (refine Or.inl ⟨by rfl, ?_⟩; intro W hW; go_simp; try with_reducible rfl) | exact Or.inr ⟨by rfl, rfl⟩) ?_; try simp only [Act.put, List.setIfInBounds_toArray, List.set_cons_zero, List.set_cons_succ])
          (refine takeE (belowTr w1.heap.size) 8 (by simp only [List.getElem?_toArray, List.getElem?_cons_succ, List.getElem?_cons_zero]; rfl) (by kernel_rfl) (by kernel_rfl) (by kernel_rfl) (by exact fun _ _ _ h => h) (by first | (refine Or.inl ⟨by rfl, ?_⟩; intro W hW; go_simp; try with_reducible rfl) | exact Or.inr ⟨by rfl, rfl⟩) ?_; try simp only [Act.put, List.setIfInBounds_toArray, List.set_cons_zero, List.set_cons_succ])
          (refine takeE (belowTr w1.heap.size) 9 (by simp only [List.getElem?_toArray, List.getElem?_cons_succ, List.getElem?_cons_zero]; rfl) (by kernel_rfl) (by kernel_rfl) (by kernel_rfl) (by exact fun _ _ _ h => h) (by first | (refine Or.inl ⟨by rfl, ?_⟩; intro W hW; go_simp; try with_reducible rfl) | exact Or.inr ⟨by rfl, rfl⟩) ?_; try simp only [Act.put, List.setIfInBounds_toArray, List.set_cons_zero, List.set_cons_succ])
          (refine takeE (belowTr w1.heap.size) 10 (by simp only [List.getElem?_toArray, List.getElem?_cons_succ, List.getElem?_cons_zero]; rfl) (by kernel_rfl) (by kernel_rfl) (by kernel_rfl) (by exact fun _ _ _ h => h) (by first | (refine Or.inl ⟨by rfl, ?_⟩; intro W hW; go_simp; try with_reducible rfl) | exact Or.inr ⟨by rfl, rfl⟩) ?_; try simp only [Act.put, List.setIfInBounds_toArray, List.set_cons_zero, List.set_cons_succ])
          refine wpAnyE_one (i := 13) (by kernel_rfl) (by simp only [List.getElem?_toArray, List.getElem?_cons_succ, List.getElem?_cons_zero]; rfl) (fun K hK => ?_)
          refine opwp_put_rp rowR rfl (.tmp 9) (.tmp 33) rfl _ (by first | rfl | (simp only [World.size_alloc]; done) | (simp only [World.size_alloc]; rfl)) hz11 rfl r6 m' rfl ?_
          rintro w7 hz11 hw
          have hs := wr_st hw hx11
          have hz12 := hz12.wr hw hne
          have hE := hw.below hg11 hn0
          have hC := hC.trans hE
          have hn0 := Nat.le_trans hn0 hE.size
          have hr6 := hr6.st hs (Gr.refl _ _)
          have hq6 := hq6.st hs (Gr.refl _ _)
          refine hK.out _ _ hE ?_
          clear hK K
          try simp only [Act.put, List.setIfInBounds_toArray, List.set_cons_zero, List.set_cons_succ]
          (refine takeE (belowTr w1.heap.size) 14 (by simp only [List.getElem?_toArray, List.getElem?_cons_succ, List.getElem?_cons_zero]; rfl) (by kernel_rfl) (by kernel_rfl) (by kernel_rfl) (by exact fun _ _ _ h => h) (by first | (refine Or.inl ⟨by rfl, ?_⟩; intro W hW; go_simp; try with_reducible rfl) | exact Or.inr ⟨by rfl, rfl⟩) ?_; try simp only [Act.put, List.setIfInBounds_toArray, List.set_cons_zero, List.set_cons_succ])
          refine wpAnyE_one (i := 15) (by kernel_rfl) (by simp only [List.getElem?_toArray, List.getElem?_cons_succ, List.getElem?_cons_zero]; rfl) (fun K hK => ?_)
          refine opwp_put_pk rowP rfl (.tmp 11) (.tmp 35) rfl _ (by first | rfl | (simp only [World.size_alloc]; done) | (simp only [World.size_alloc]; rfl)) hz12 rfl q6 rfl ?_
          rintro w8 hz12 hw
          have hs := wr_st hw hx12
          have hz11 := hz11.wr hw (Ne.symm hne)
          have hE := hw.below hg12 hn0
          have hC := hC.trans hE
          have hr6 := hr6.st hs (Gr.refl _ _)
          have hq6 := hq6.st hs (Gr.refl _ _)
          refine hK.out _ _ hE ?_
          clear hK K
          try simp only [Act.put, List.setIfInBounds_toArray, List.set_cons_zero, List.set_cons_succ]
          refine wpAnyE_done (by kernel_rfl) ?_ _
          go_wp2_with fail
          go_meet
          exact ⟨_, _, r6, q6, by first | rfl | (simp only [World.size_alloc]; done) | (simp only [World.size_alloc]; rfl), rfl, by first | rfl | (simp only [World.size_alloc]; done) | (simp only [World.size_alloc]; rfl), hz11, hz12, hr6.mono hsub, hk6, hq6.mono hsub, hg11, hg12, hC⟩
    case rest =>
      obtain ⟨g11, g12, r6, q6, rfl, rfl, rfl, hz11, hz12, hr6, hk6, hq6, hg11, hg12, hC⟩ := hcut
      have hwW : w.heap.size + 4 ≤ wc.heap.size := Nat.le_trans HS1.out hC.size
      have hbW := below_on HB01.out hC
      have hlm : LstR 11 76 (wc.heap.size ≤ ·) (wc.alloc (.cells #[] 76)) (some ⟨wc.heap.size, 0, none⟩) 0 0 [] := LstR.made 11 wc 76 #[] 0 0 [] rfl (Nat.le_refl _) (by simp) (Nat.zero_le _) (by simp) (by simp)
      have hr := (HG.out.rd.below hbW).alloc (.cells #[] 76)
      have hb2W := HB2.out.below hC
      have hb2a := hb2W.alloc (.cells #[] 76)
      have c2 := hb2a.cell 2 rfl
      have hnb : ¬ BlkOf (some ⟨wc.heap.size, 0, none⟩) w.heap.size := by rintro ⟨ad, he, hk⟩; injection he with he; subst he; simp at hk; omega
      have hk12 : (0 + n) * 120 ≤ 140737488355328 := by omega
      have HCW := Lib.hid (And.intro hC (And.intro hr6 (And.intro hk6 (And.intro hq6 (And.intro hz11 (And.intro hz12 (And.intro hg11 hg12)))))))
      clear hC hr6 hk6 hq6 hz12 hg12 HRPut HRP HQP HX0 HRow HGl
      go_upto_region 7 with (first
        | (at_builtin
           refine wpList_append_lstR eltR rfl (.tmp 36) (.tmp 38) rfl rfl hlm.tight rfl hr hk12 ?_
           rintro v w5 ⟨⟨A1, n1, c1, rfl, hl1⟩, hst1⟩
           rw [List.nil_append] at hl1
           have hn1 : n1 = n := by
             have h1 : (flat rcl rs).length = n1 * 11 := hl1.1
             have h2 : (flat rcl rs).length = n * 11 := HG.out.rd.1
             omega
           subst hn1
           obtain ⟨gl, ol, rfl, hgl1, -⟩ := hl1.rd.range (i := idx) hin
           have hlb : wc.heap.size ≤ gl := by
             rcases (hl1.blk _ rfl).1 with ⟨ad0, h0, h1⟩ | h1
             · injection h0 with h0; subst h0; exact Nat.le_of_eq h1
             · simp at h1; omega
           have hb2n := hb2a.st hst1 hnb
           have d2 := hb2n.cell 2 rfl
           have f2 := hb2n.free 2
           have hb2s := hb2n.set 2 (.slice (some ⟨gl, ol, none⟩) n1 c1)
           have hl2 : LstR 11 76 (BlkOf (some ⟨gl, ol, none⟩)) (w5.setCell ⟨w.heap.size, 2, none⟩ (.slice (some ⟨gl, ol, none⟩) n1 c1)) (some ⟨gl, ol, none⟩) n1 c1 (flat rcl rs) := hl1.tight.far (by intro ad he hk; injection he with he; subst he; simp at hk; omega) _
           have hstW : St (fun k => k = w.heap.size) wc (w5.setCell ⟨w.heap.size, 2, none⟩ (.slice (some ⟨gl, ol, none⟩) n1 c1)) := ((St.ext ((Below.refl _ _).alloc (Nat.le_refl _) _)).trans (hst1.mono (F' := fun k => k = w.heap.size ∨ wc.heap.size ≤ k) fun k _ hk => by obtain ⟨ad, he, hk⟩ := hk; injection he with he; subst he; exact .inr (Nat.le_of_eq hk)) (fun k hk => hk)).trans (St.setCell (F := (· = w.heap.size)) w5 (a := ⟨w.heap.size, 2, none⟩) rfl _) (Gr.refl _ _)
           have hz11s := hz11.st hstW (show ¬ g11 = w.heap.size by have := HS1.out; omega)
           have HStW := Lib.hid hstW
           have HB2S := Lib.hid hb2s
           have HLB := Lib.hid hlb
           clear hst1 hl1 hb2n hb2s hlb hlm hr hb2W hb2a c2 hstW)
        | (with_reducible refine at_load 76 (.tmp 9) (by rfl) ?_; refine wpList_load_bk rowR rfl (.tmp 9) rfl g11 0 rfl hz11s [.slice r6.a1 r6.n1 r6.c1, .slice r6.a2 r6.n2 r6.c2, .int .i64 m'.lr, .int .i64 m'.hr, .int .i64 m'.wt, .int .i64 m'.run, .int .i64 (m'.ct 0), .int .i64 (m'.ct 1), .int .i64 (m'.ct 2), .int .i64 (m'.ct 3), .int .i64 (m'.ct 4)] rfl rfl ?_)
        | (with_reducible refine at_store 76 (.tmp 45) (.tmp 44) (by rfl) ?_; refine wpList_lay_rp rowR rfl (.tmp 45) (.tmp 44) rfl hl2 hin rfl (r6, m') rfl ?_; rintro w6 hl6 hw6))
      obtain ⟨hC, hr6, hk6, hq6, -, hz12, -, hg12⟩ := HCW.out
      have hglb := HLB.out
      have hg12l := hz12.lt
      have h4ne : ∀ T vs (k : Nat), w.heap.size < k → k < wc.heap.size → Bk wc T k vs → Bk w6 T k vs := fun T vs k hk hk2 hz => (hz.st HStW.out (show ¬ k = w.heap.size by omega)).wr hw6 (by omega)
      have hz4 := h4ne _ _ _ (by omega) (by omega) (HB4.out.below hC)
      have hz6 := h4ne _ _ _ (by omega) (by omega) (HB6.out.below hC)
      have hb11 := h4ne _ _ _ (by have := HS1.out; omega) hg12l hz12
      have hb2n : Bk w6 30 w.heap.size [.int .i64 hs, .int .i64 ps, .slice (some ⟨gl, ol, none⟩) n1 c1, .int .i64 (m.ct 0), .int .i64 (m.ct 1), .int .i64 (m.ct 2), .int .i64 (m.ct 3), .int .i64 (m.ct 4)] := HB2S.out.wr hw6 (by omega)
      have hstF : St X0 wc w6 := (HStW.out.mono fun k _ hk => by rw [hk]; exact HXB.out.1).more ((hw6.below (B := wc.heap.size) hglb HStW.out.size))
      have HFin : Hid (∀ wd w7 w8, Below w6.heap.size w6 wd → Wr (w.heap.size + 2) wd w7 → Wr (w.heap.size + 3) w7 w8 → GpR F w8 hs ps ⟨some ⟨gl, ol, none⟩, n1, c1⟩ (m.sp (ix q.h.pa q.h.ds) m') ∧ q6.pk = xx ∧ PvR F w8 q6 ∧ Below w.heap.size w w8) := Lib.hid (by
        intro wd w7 w8 h1 h2 h3
        have hs7 : St X0 wd w7 := wr_st h2 HXB.out.2.1
        have hs8 : St X0 w7 w8 := wr_st h3 HXB.out.2.2
        have hsA : St X0 wc w8 := (((hstF.trans (St.ext h1) (Gr.refl _ _)).trans hs7 (Gr.refl _ _))).trans hs8 (Gr.refl _ _)
        have hbA : Below w.heap.size w w8 := by
          have h4 : Below w.heap.size wc w6 := ⟨hstF.os, hstF.tape, hstF.output, hstF.size, fun k hk => (hw6.block k (by have := HStW.out.size; omega) (by intro e; injection e with e; omega)).trans (HStW.out.block k (by omega) (by omega))⟩
          exact (((hbW.trans h4).trans (h1.mono (by have := h4.size; omega))).trans (h2.below (by omega) (by have := h4.size; have := h1.size; omega))).trans (h3.below (by omega) (by have := h4.size; have := h1.size; have := h2.size; omega))
        have hl8 : LstR 11 76 (BlkOf (some ⟨gl, ol, none⟩)) w8 (some ⟨gl, ol, none⟩) n1 c1 (flat rcl (rs.set idx (r6, m'))) := by
          rw [HLay.out r6 m']
          refine ((hl6.below h1).st (wr_st (X := (· = w.heap.size + 2)) h2 rfl) ?_).st (wr_st (X := (· = w.heap.size + 3)) h3 rfl) ?_
          · rintro k ⟨ad, he, hk⟩ e; injection he with he; subst he; simp at hk; omega
          · rintro k ⟨ad, he, hk⟩ e; injection he with he; subst he; simp at hk; omega
        have hT := HT.out r6 m'
        have hrs : ∀ r ∈ rs.set idx (r6, m'), RpR F w8 r.1 r.2 := by
          intro r hr
          rcases List.mem_or_eq_of_mem_set hr with hr | rfl
          · exact (HG.out.rp r hr).st (St.ext hbA) (Gr.refl _ _)
          · exact (hr6.st hsA (Gr.refl _ _)).mono HXF.out
        refine ⟨⟨rs.set idx (r6, m'), ?_, ?_, hl8.rd, hT.1, hrs, ?_, hT.2⟩, hk6, (hq6.st hsA (Gr.refl _ _)).mono HXF.out, hbA⟩
        · rw [List.length_set]; exact HG.out.ln
        · rw [List.length_set]; exact HG.out.dim
        · intro hn ad he hf
          injection he with he
          subst he
          have := HXL.out _ (HXF.out _ hf)
          simp at this
          omega)
      have hG12 := hg12
      clear hC hr6 hk6 hq6 hz12 hg12 h4ne hstF hl6 hw6
      refine wp_region_E (Keep (fun k => k = w.heap.size ∨ k = g12)) (by kernel_rfl) (fun wd hbd hsz => ?_)
      have hz4 := hz4.below hbd
      have hz6 := hz6.below hbd
      have HB2d := Lib.hid (hb2n.below hbd)
      have HB11d := Lib.hid (hb11.below hbd)
      have HK : Hid (∀ k, (k = w.heap.size ∨ k = g12) → k < wd.heap.size ∧ k ≠ w.heap.size + 2 ∧ k ≠ w.heap.size + 3) := Lib.hid fun k hk => by have h1 := HB2d.out.lt; have h2 := HB11d.out.lt; have h3 := HS1.out; rcases hk with rfl | rfl <;> omega
      have HHd := Lib.hid hbd
      clear hbd hsz hb2n hb11
      (refine takeE (Keep.tr (fun k => k = w.heap.size ∨ k = g12)) 0 (by simp only [List.getElem?_toArray, List.getElem?_cons_succ, List.getElem?_cons_zero]; rfl) (by kernel_rfl) (by kernel_rfl) (by kernel_rfl) (by exact fun _ _ _ h => h) (by first | (refine Or.inl ⟨by rfl, ?_⟩; intro W hW; exact exec_load_bk rowG (.tmp 2) rfl w.heap.size 0 rfl (HB2d.out.kp hW (.inl rfl)) [.int .i64 hs, .int .i64 ps, .slice (some ⟨gl, ol, none⟩) n1 c1, .int .i64 (m.ct 0), .int .i64 (m.ct 1), .int .i64 (m.ct 2), .int .i64 (m.ct 3), .int .i64 (m.ct 4)] rfl rfl) | exact Or.inr ⟨by rfl, rfl⟩) ?_; try simp only [Act.put, List.setIfInBounds_toArray, List.set_cons_zero, List.set_cons_succ])
      (refine takeE (Keep.tr (fun k => k = w.heap.size ∨ k = g12)) 1 (by simp only [List.getElem?_toArray, List.getElem?_cons_succ, List.getElem?_cons_zero]; rfl) (by kernel_rfl) (by kernel_rfl) (by kernel_rfl) (by exact fun _ _ _ h => h) (by first | (refine Or.inl ⟨by rfl, ?_⟩; intro W hW; go_simp; try with_reducible rfl) | exact Or.inr ⟨by rfl, rfl⟩) ?_; try simp only [Act.put, List.setIfInBounds_toArray, List.set_cons_zero, List.set_cons_succ])
      (refine takeE (Keep.tr (fun k => k = w.heap.size ∨ k = g12)) 2 (by simp only [List.getElem?_toArray, List.getElem?_cons_succ, List.getElem?_cons_zero]; rfl) (by kernel_rfl) (by kernel_rfl) (by kernel_rfl) (by exact fun _ _ _ h => h) (by first | (refine Or.inl ⟨by rfl, ?_⟩; intro W hW; exact exec_load_bk rowP (.tmp 11) rfl g12 0 rfl (HB11d.out.kp hW (.inr rfl)) q6.cl rfl rfl) | exact Or.inr ⟨by rfl, rfl⟩) ?_; try simp only [Act.put, List.setIfInBounds_toArray, List.set_cons_zero, List.set_cons_succ])
      refine wpAnyE_one (i := 3) (by kernel_rfl) (by simp only [List.getElem?_toArray, List.getElem?_cons_succ, List.getElem?_cons_zero]; rfl) (fun K hK => ?_)
      refine opwp_store_bk rowG rfl (.tmp 4) (.tmp 46) rfl (w.heap.size + 2) 0 rfl hz4 [.int .i64 hs, .int .i64 ps, .slice (some ⟨gl, ol, none⟩) n1 c1, .int .i64 (m.ct 0), .int .i64 (m.ct 1), .int .i64 (m.ct 2), .int .i64 (m.ct 3), .int .i64 (m.ct 4)] rfl rfl (by decide) (one8 _ _ _ _ _ _ _ _ _ _) ?_
      rintro w7 hz47 hw7
      rw [lay_all _ _ (by rfl)] at hz47
      have hz67 := hz6.wr hw7 (by omega)
      have hE7 : Keep (fun k => k = w.heap.size ∨ k = g12) wd w7 := Keep.setW hw7 fun k hk => ⟨by have := HK.out k hk; omega, by have := HK.out k hk; omega⟩
      refine hK.out _ _ hE7 ?_
      clear hK K
      try simp only [Act.put, List.setIfInBounds_toArray, List.set_cons_zero, List.set_cons_succ]
      (refine takeE (Keep.tr (fun k => k = w.heap.size ∨ k = g12)) 4 (by simp only [List.getElem?_toArray, List.getElem?_cons_succ, List.getElem?_cons_zero]; rfl) (by kernel_rfl) (by kernel_rfl) (by kernel_rfl) (by exact fun _ _ _ h => h) (by first | (refine Or.inl ⟨by rfl, ?_⟩; intro W hW; go_simp; try with_reducible rfl) | exact Or.inr ⟨by rfl, rfl⟩) ?_; try simp only [Act.put, List.setIfInBounds_toArray, List.set_cons_zero, List.set_cons_succ])
      refine wpAnyE_one (i := 5) (by kernel_rfl) (by simp only [List.getElem?_toArray, List.getElem?_cons_succ, List.getElem?_cons_zero]; rfl) (fun K hK => ?_)
      refine opwp_put_pk rowP rfl (.tmp 6) (.tmp 48) rfl (w.heap.size + 3) rfl hz67 rfl q6 rfl ?_
      rintro w8 hz68 hw8
      have hz48 := hz47.wr hw8 (by omega)
      have hE8 : Keep (fun k => k = w.heap.size ∨ k = g12) w7 w8 := Keep.setW hw8 fun k hk => ⟨by have := HK.out k hk; have := hw7.size; omega, by have := HK.out k hk; omega⟩
      refine hK.out _ _ hE8 ?_
      clear hK K
      try simp only [Act.put, List.setIfInBounds_toArray, List.set_cons_zero, List.set_cons_succ]
      refine wpAnyE_done (by kernel_rfl) ?_ _
      have HE := Lib.hid (HFin.out wd w7 w8 HHd.out hw7 hw8)
      have HZ4 := Lib.hid hz48
      have HZ6 := Lib.hid hz68
      clear hz4 hz6 hz47 hz67 hw7 hw8 hE7 hE8 hz48 hz68
      go_wp2
      refine bodyPost_ret (results_ctc rfl rfl rfl (rowG.load HZ4.out 0 (cs := [.int .i64 hs, .int .i64 ps, .slice (some ⟨gl, ol, none⟩) n1 c1, .int .i64 (m.ct 0), .int .i64 (m.ct 1), .int .i64 (m.ct 2), .int .i64 (m.ct 3), .int .i64 (m.ct 4)]) rfl rfl) (load_pk rowP HZ6.out)) rfl ?_
      exact ⟨⟨some ⟨gl, ol, none⟩, n1, c1⟩, q6, rfl, HE.out⟩
end
end Go.Proofs.Ytboclbanccfbjaa
namespace Go.Proofs.Ytboclbanccfbjaa
set_option linter.unusedSimpArgs false
set_option linter.unusedVariables false
set_option maxRecDepth 100000
open Go.RowKit Go.Shelf
theorem GpR.mono {F F' : Nat → Prop} {w : World} {hs ps : Nat} {g : GV} {m : FM} (h : GpR F w hs ps g m) (hF : ∀ k, F' k → F k) : GpR F' w hs ps g m := h.st (St.refl _ _) fun k hk => .inl (hF k hk)
theorem results_cc {P : Program} {w : World} {fn : Func} {s t : Tmp} {ty ty2 : TypeId} (h : fn.results = #[.cell s ty, .cell t ty2]) {tmps : Array Value} {a a2 : Addr} (ha : tmps.getD s undef = .pointer (some a)) (ha2 : tmps.getD t undef = .pointer (some a2)) {v v2 : Value} (hl : (loadVar ty a).run P w = .ok v w) (hl2 : (loadVar ty2 a2).run P w = .ok v2 w) :
    (results fn tmps).run P w = .ok (.tuple #[v, v2]) w := by
  rw [Array.getD_eq_getD_getElem?] at ha ha2
  simp [results, h, ha, ha2, asAddr_some, hl, hl2]
theorem gl_get (hs ps : Nat) (g : GV) (m : FM) (v : Nat) (hv : v < 5) : ([.int .i64 hs, .int .i64 ps, .slice g.A g.n g.c, .int .i64 (m.ct 0), .int .i64 (m.ct 1), .int .i64 (m.ct 2), .int .i64 (m.ct 3), .int .i64 (m.ct 4)] : List Value)[3 + v]? = some (.int .i64 (m.ct v)) := by
  match v, hv with
  | 0, _ => rfl
  | 1, _ => rfl
  | 2, _ => rfl
  | 3, _ => rfl
  | 4, _ => rfl
theorem gl_set (hs ps : Nat) (g : GV) (m : FM) (v : Nat) (hv : v < 5) (x : Int) : ([.int .i64 hs, .int .i64 ps, .slice g.A g.n g.c, .int .i64 (m.ct 0), .int .i64 (m.ct 1), .int .i64 (m.ct 2), .int .i64 (m.ct 3), .int .i64 (m.ct 4)] : List Value).set (3 + v) (.int .i64 x) = [.int .i64 hs, .int .i64 ps, .slice g.A g.n g.c, .int .i64 ((m.sc v x).ct 0), .int .i64 ((m.sc v x).ct 1), .int .i64 ((m.sc v x).ct 2), .int .i64 ((m.sc v x).ct 3), .int .i64 ((m.sc v x).ct 4)] := by
  match v, hv with
  | 0, _ => rfl
  | 1, _ => rfl
  | 2, _ => rfl
  | 3, _ => rfl
  | 4, _ => rfl
section
variable {F F' X X0 : Nat → Prop} {w w' w1 W : World} {hs ps L H v : Nat} {B : Int} {g g2 : GV} {m m1 m2 : FM} {t1 : Nat → Int} {rs : List (RV × AM)} {a : AM} {q : Pv} {A : Option Addr} {n d : Nat} {ks : List Pk}
/-- Within Put, but for the row in the box. -/
structure GI0 (w : World) (F X0 : Nat → Prop) (hs ps : Nat) (A : Option Addr) (n d : Nat) (ks : List Pk) (wr : World) : Prop where
  b4 : Bk wr 30 (w.heap.size + 1) [.int .i64 0, .int .i64 0, .slice none 0 0, .int .i64 0, .int .i64 0, .int .i64 0, .int .i64 0, .int .i64 0]
  b5 : Bk wr 28 (w.heap.size + 2) [.int .i64 0, .int .i64 0, .int .i64 0, .int .i64 0, .int .i64 0]
  sl : SlP X0 wr A n d ks
  bl : Below w.heap.size w wr
  sz : w.heap.size + 4 ≤ wr.heap.size
theorem GI0.below (h : GI0 w F X0 hs ps A n d ks w1) (hb : Below w1.heap.size w1 w') : GI0 w F X0 hs ps A n d ks w' :=
  ⟨h.b4.below hb, h.b5.below hb, h.sl.below hb, below_on h.bl hb, Nat.le_trans h.sz hb.size⟩
/-- Boxes 0, 3, or new ones turn. -/
theorem GI0.turn (h : GI0 w F X0 hs ps A n d ks w1) (hs' : St (fun k => k = w.heap.size ∨ k = w.heap.size + 3) w1 w') (hX : X0 w.heap.size ∧ X0 (w.heap.size + 3)) : GI0 w F X0 hs ps A n d ks w' :=
  ⟨h.b4.st hs' (by omega), h.b5.st hs' (by omega), h.sl.st (hs'.mono fun k _ hk => by first | (rcases hk with rfl | rfl <;> first | exact hX.1 | exact hX.2)) (Gr.refl _ _), h.bl.trans (hs'.below h.bl.size fun k hk => by rcases hk with rfl | rfl <;> omega), Nat.le_trans h.sz hs'.size⟩
def GI (w : World) (F X0 : Nat → Prop) (hs ps : Nat) (A : Option Addr) (n d : Nat) (ks : List Pk) (m1 : FM) (t1 : Nat → Int) (wr : World) : Prop :=
  ∃ g1, GI0 w F X0 hs ps A n d ks wr ∧ Bk wr 30 w.heap.size [.int .i64 hs, .int .i64 ps, .slice g1.A g1.n g1.c, .int .i64 (m1.ct 0), .int .i64 (m1.ct 1), .int .i64 (m1.ct 2), .int .i64 (m1.ct 3), .int .i64 (m1.ct 4)] ∧ GpR X0 wr hs ps g1 m1 ∧ Bk wr 28 (w.heap.size + 3) (tabV 5 t1)
theorem GI.step {x : Pk} (h : GI0 w F X0 hs ps A n d ks W ∧ GpR X0 W hs ps g2 m2) (hbx : Bk W 30 w.heap.size [.int .i64 hs, .int .i64 ps, .slice g2.A g2.n g2.c, .int .i64 (m1.ct 0), .int .i64 (m1.ct 1), .int .i64 (m1.ct 2), .int .i64 (m1.ct 3), .int .i64 (m1.ct 4)]) (hbn : Bk W 28 (w.heap.size + 3) (tabV 5 t1)) (hv : v = m1.pvd x) (hm : m2 = m1.pnx x) (hv5 : v < 5) (hX : X0 w.heap.size ∧ X0 (w.heap.size + 3)) :
    GI w F X0 hs ps A n d ks (FM.put1 (m1, t1) x).1 (FM.put1 (m1, t1) x).2 ((W.setCell ⟨w.heap.size + 3, v, none⟩ (.int .i64 (t1 v + 1))).setCell ⟨w.heap.size, 3 + v, none⟩ (.int .i64 (m1.ct v + 1))) := by
  obtain ⟨h0, hg⟩ := h
  have hct : m2.ct = m1.ct := by rw [hm, FM.pnx_ct]
  have hst : St (fun k => k = w.heap.size ∨ k = w.heap.size + 3) W ((W.setCell ⟨w.heap.size + 3, v, none⟩ (.int .i64 (t1 v + 1))).setCell ⟨w.heap.size, 3 + v, none⟩ (.int .i64 (m1.ct v + 1))) :=
    (St.setCell (F := fun k => k = w.heap.size ∨ k = w.heap.size + 3) W (a := ⟨w.heap.size + 3, v, none⟩) (.inr rfl) _).trans (St.setCell (F := fun k => k = w.heap.size ∨ k = w.heap.size + 3) _ (a := ⟨w.heap.size, 3 + v, none⟩) (.inl rfl) _) (Gr.refl _ _)
  have e1 : (FM.put1 (m1, t1) x).1 = m2.sc v (m1.ct v + 1) := by unfold FM.put1; dsimp only; rw [← hv, ← hm, hct]
  have e2 : (FM.put1 (m1, t1) x).2 = up t1 v (t1 v + 1) := by unfold FM.put1; dsimp only; rw [← hv]
  rw [e1, e2]
  refine ⟨g2, h0.turn hst hX, ?_, (hg.st (hst.mono fun k _ hk => by first | (rcases hk with rfl | rfl <;> first | exact hX.1 | exact hX.2)) (Gr.refl _ _)).sc v _, ?_⟩
  · have h1 := (hbx.far (p := ⟨w.heap.size + 3, v, none⟩) (show w.heap.size ≠ w.heap.size + 3 by omega) (.int .i64 (t1 v + 1))).set (3 + v) (.int .i64 (m1.ct v + 1))
    rw [gl_set hs ps g2 m1 v hv5] at h1
    have e3 : [.int .i64 hs, .int .i64 ps, .slice g2.A g2.n g2.c, .int .i64 ((m2.sc v (m1.ct v + 1)).ct 0), .int .i64 ((m2.sc v (m1.ct v + 1)).ct 1), .int .i64 ((m2.sc v (m1.ct v + 1)).ct 2), .int .i64 ((m2.sc v (m1.ct v + 1)).ct 3), .int .i64 ((m2.sc v (m1.ct v + 1)).ct 4)] = ([.int .i64 hs, .int .i64 ps, .slice g2.A g2.n g2.c, .int .i64 ((m1.sc v (m1.ct v + 1)).ct 0), .int .i64 ((m1.sc v (m1.ct v + 1)).ct 1), .int .i64 ((m1.sc v (m1.ct v + 1)).ct 2), .int .i64 ((m1.sc v (m1.ct v + 1)).ct 3), .int .i64 ((m1.sc v (m1.ct v + 1)).ct 4)] : List Value) := by unfold FM.sc; dsimp only; rw [hct]
    rw [e3]; exact h1
  · have h1 := (hbn.set v (.int .i64 (t1 v + 1))).far (p := ⟨w.heap.size, 3 + v, none⟩) (show w.heap.size + 3 ≠ w.heap.size by omega) (.int .i64 (m1.ct v + 1))
    rw [tabV_set] at h1
    exact h1
/-- Two new boxes were filled, then box 0. -/
theorem GI3 {W9 Wa Wb : World} {m9 : FM} (h0 : GI0 w F X0 hs ps A n d ks W9) (hg : GpR X0 W9 hs ps g2 m9) (hb : Below W9.heap.size W9 W) (hz : W9.heap.size + 2 ≤ W.heap.size) (h1 : Wr W9.heap.size W Wa) (h2 : Wr (W9.heap.size + 1) Wa Wb) (h3 : Wr w.heap.size Wb w') (hX : X0 w.heap.size ∧ X0 (w.heap.size + 3)) :
    GI0 w F X0 hs ps A n d ks w' ∧ GpR X0 w' hs ps g2 m9 := by
  obtain ⟨X2, hX2⟩ : ∃ X2 : Nat → Prop, X2 = fun k => X0 k ∨ k = W9.heap.size ∨ k = W9.heap.size + 1 := ⟨_, rfl⟩
  have hgr : Gr X0 X2 W9.heap.size := fun k hk => by
    rw [hX2] at hk
    rcases hk with hk | rfl | rfl
    · exact .inl hk
    · exact .inr (Nat.le_refl _)
    · exact .inr (Nat.le_succ _)
  have hb2 : Gr X2 X0 Wb.heap.size := fun k hk => .inl (by rw [hX2]; exact .inl hk)
  have x1 : X2 W9.heap.size := by rw [hX2]; exact .inr (.inl rfl)
  have x2 : X2 (W9.heap.size + 1) := by rw [hX2]; exact .inr (.inr rfl)
  have x3 : X2 w.heap.size := by rw [hX2]; exact .inl hX.1
  have hsz := h0.sz
  have s1 := h1.size
  have s2 := h2.size
  have s3 := h3.size
  have sl := ((((h0.sl.st (St.ext hb) hgr).st (wr_st h1 x1) (Gr.refl _ _)).st (wr_st h2 x2) (Gr.refl _ _)).st (wr_st h3 x3) hb2)
  have gp := ((((hg.st (St.ext hb) hgr).st (wr_st h1 x1) (Gr.refl _ _)).st (wr_st h2 x2) (Gr.refl _ _)).st (wr_st h3 x3) hb2)
  refine ⟨⟨(((h0.b4.below hb).wr h1 (by omega)).wr h2 (by omega)).wr h3 (by omega), (((h0.b5.below hb).wr h1 (by omega)).wr h2 (by omega)).wr h3 (by omega), sl, ?_, by omega⟩, gp⟩
  have b0 := below_on h0.bl hb
  exact ((b0.trans (h1.below (by omega) (by omega))).trans (h2.below (by omega) (by omega))).trans (h3.below (Nat.le_refl _) (by omega))
/-- What Put leaves. -/
def GPutTo (F : Nat → Prop) (w : World) (hs ps : Nat) (m' : FM) (t : Nat → Int) (e : Ending) (w' : World) : Prop :=
  ∃ g', e = .returned (.tuple #[.agg #[.int .i64 hs, .int .i64 ps, .slice g'.A g'.n g'.c, .int .i64 (m'.ct 0), .int .i64 (m'.ct 1), .int .i64 (m'.ct 2), .int .i64 (m'.ct 3), .int .i64 (m'.ct 4)], .agg (tabV 5 t).toArray]) ∧ GpR F w' hs ps g' m' ∧ Below w.heap.size w w'
set_option maxHeartbeats 16000000 in
theorem g_put (h : GpR F w hs ps g m) (hM : FMb m L H B) (hc : ∀ i, 0 ≤ m.ct i ∧ m.ct i ≤ B) (hB : B + 2 * n + 2 ≤ 1000000) (hL : L ≤ 1024) (hH : H ≤ 1024) (hl : SlP F w A n d ks) (hF : ∀ k, F k → k < w.heap.size) :
    Calls Try.prog 9 #[.agg #[.int .i64 hs, .int .i64 ps, .slice g.A g.n g.c, .int .i64 (m.ct 0), .int .i64 (m.ct 1), .int .i64 (m.ct 2), .int .i64 (m.ct 3), .int .i64 (m.ct 4)], .slice A n d] w (GPutTo F w hs ps (m.puts ks).1 (m.puts ks).2) := by
  obtain ⟨W0, hW0, hb0, hsz0, hb2, hb4, hb5, hb6⟩ := four_boxes w 30 30 28 28 [.int .i64 hs, .int .i64 ps, .slice g.A g.n g.c, .int .i64 (m.ct 0), .int .i64 (m.ct 1), .int .i64 (m.ct 2), .int .i64 (m.ct 3), .int .i64 (m.ct 4)] [.int .i64 0, .int .i64 0, .slice none 0 0, .int .i64 0, .int .i64 0, .int .i64 0, .int .i64 0, .int .i64 0] [.int .i64 0, .int .i64 0, .int .i64 0, .int .i64 0, .int .i64 0] [.int .i64 0, .int .i64 0, .int .i64 0, .int .i64 0, .int .i64 0]
  have hgr0 : Gr F (fun k => F k ∨ (w.heap.size ≤ k ∧ k < w.heap.size + 4)) w.heap.size := fun k hk => hk.imp id And.left
  obtain ⟨X0, hX0⟩ : ∃ X0 : Nat → Prop, X0 = fun k => F k ∨ (w.heap.size ≤ k ∧ k < w.heap.size + 4) := ⟨_, rfl⟩
  have HXF : Hid (∀ k, F k → X0 k) := Lib.hid fun k hk => by rw [hX0]; exact .inl hk
  have HXB : Hid (X0 w.heap.size ∧ X0 (w.heap.size + 3)) := Lib.hid (by rw [hX0]; exact ⟨.inr (by omega), .inr (by omega)⟩)
  have HXC : Hid (X0 (w.heap.size + 1) ∧ X0 (w.heap.size + 2)) := Lib.hid (by rw [hX0]; exact ⟨.inr (by omega), .inr (by omega)⟩)
  have HXL : Hid (∀ k, X0 k → k < w.heap.size + 4) := Lib.hid fun k hk => by
    rw [hX0] at hk
    rcases hk with hk | hk
    · have := hF k hk; omega
    · exact hk.2
  rw [← hX0] at hgr0
  have HS : Hid (GI w F X0 hs ps A n d ks m (fun _ => 0) W0) := Lib.hid ⟨g, ⟨hb4, hb5, hl.st (St.ext hb0) hgr0, hb0, by omega⟩, hb2, h.st (St.ext hb0) hgr0, hb6⟩
  have HC := Lib.hid (FMc.take hM hc ks)
  have HLN := Lib.hid hl.len
  clear hX0 hgr0 hb2 hb4 hb5 hb6 hb0 hl h hM hc hF hsz0
  subst hW0
  go_enter Try.func9, Try.ntmps9
  go_wp2
  go_loopw [7] (fun v wr => ∃ i : Nat, v = .int .i64 i ∧ i ≤ n ∧ GI w F X0 hs ps A n d ks (m.puts (ks.take i)).1 (m.puts (ks.take i)).2 wr) (fun v _ => n - (intOf v).toNat)
  case atStart => exact ⟨0, rfl, Nat.zero_le _, HS.out⟩
  case round =>
    obtain ⟨i, rfl, hi, hP⟩ := hrel
    by_cases hlt : i < n
    · have hlt' : (i : Int) < n := by omega
      obtain ⟨g1, h0, hbx, hgp, hbn⟩ := hP
      obtain ⟨gp, op, q, rfl, hra, hq, hqk, hgp'⟩ := h0.sl.row hlt
      have hM1 := HC.out i (by rw [HLN.out]; omega)
      have hsn : ks.take (i + 1) = ks.take i ++ [q.pk] := by rw [List.take_add_one, ← hqk]; rfl
      have HSn : Hid (m.puts (ks.take (i + 1)) = FM.put1 (m.puts (ks.take i)) q.pk) := Lib.hid (by rw [hsn, FM.puts_snoc])
      obtain ⟨s, hse⟩ : ∃ s, s = m.puts (ks.take i) := ⟨_, rfl⟩
      rw [← hse] at hbx hgp hbn hM1 HSn
      clear hse
      obtain ⟨m1, t1⟩ := s
      dsimp only at hbx hgp hbn
      have hMb : FMb m1 L H (B + 2 * i) := hM1.b
      have HInto : Hid (∀ W X, GpR X W hs ps g1 m1 → PvR X W q → (∀ k, X k → k < W.heap.size) → Calls Try.prog 29 #[.agg #[.int .i64 hs, .int .i64 ps, .slice g1.A g1.n g1.c, .int .i64 (m1.ct 0), .int .i64 (m1.ct 1), .int .i64 (m1.ct 2), .int .i64 (m1.ct 3), .int .i64 (m1.ct 4)], .agg #[.int .i64 q.h.kd, .int .i64 q.h.fl, .int .i64 q.h.pa, .int .i64 q.h.sr, .int .i64 q.h.ds, .int .i64 q.h.cn, .int .i64 q.h.sq, .int .i64 q.h.pu, .slice q.A q.n q.c]] W (IntoTo X W hs ps m1 (m1.into q.pk) (m1.ivd q.pk) (m1.iout q.pk))) := Lib.hid fun W X h1 h2 h3 => r_into h1 hMb (by omega) hL hH h2 h3
      have HMI := Lib.hid (hMb.into q.pk)
      have HT1 : Hid (∀ j, 0 ≤ t1 j ∧ t1 j ≤ i) := Lib.hid hM1.t
      have HC1 : Hid (∀ j, 0 ≤ m1.ct j ∧ m1.ct j ≤ B + i) := Lib.hid hM1.c
      have HXr : Hid (∀ k, X0 k → k < wr.heap.size) := Lib.hid fun k hk => by have := HXL.out k hk; have := h0.sz; omega
      have H0 := Lib.hid h0
      have HBX := Lib.hid hbx
      have HGp := Lib.hid hgp
      have HBN := Lib.hid hbn
      have HQ := Lib.hid hq
      have hgp := hgp'
      clear h0 hbx hbn hq hqk hM1 hsn hMb HS hgp'
      go_upto_region 5 with fail
      go_cut [8, 9, 10] (fun s8 s9 s10 W => ∃ g8 g10 g6 q6, s8 = .pointer (some ⟨g8, 0, none⟩) ∧ s9 = .int .i64 (m1.ivd q.pk) ∧ s10 = .pointer (some ⟨g10, 0, none⟩) ∧ Bk W 30 g8 [.int .i64 hs, .int .i64 ps, .slice g6.A g6.n g6.c, .int .i64 (m1.ct 0), .int .i64 (m1.ct 1), .int .i64 (m1.ct 2), .int .i64 (m1.ct 3), .int .i64 (m1.ct 4)] ∧ Bk W 65 g10 [.int .i64 q6.h.kd, .int .i64 q6.h.fl, .int .i64 q6.h.pa, .int .i64 q6.h.sr, .int .i64 q6.h.ds, .int .i64 q6.h.cn, .int .i64 q6.h.sq, .int .i64 q6.h.pu, .slice q6.A q6.n q6.c] ∧ GpR X0 W hs ps g6 (m1.into q.pk) ∧ q6.pk = m1.iout q.pk ∧ PvR X0 W q6 ∧ wr.heap.size ≤ g8 ∧ wr.heap.size ≤ g10 ∧ Below wr.heap.size wr W)
      case first =>
        refine wp_region_E (Below wr.heap.size) (by kernel_rfl) (fun wd hbd hsz => ?_)
        have hC := hbd
        have hn0 : wr.heap.size ≤ wd.heap.size := hbd.size
        have hX : ∀ k, X0 k → k < wd.heap.size := fun k hk => Nat.lt_of_lt_of_le (HXr.out k hk) hn0
        have hRP := HGp.out.below hbd
        have hp5 := HQ.out.below hbd
        have hsub : ∀ k, X0 k → X0 k := fun k hk => hk
        have HBD := Lib.hid hbd
        clear hbd hsz
        (refine takeE (belowTr wr.heap.size) 0 (by simp only [List.getElem?_toArray, List.getElem?_cons_succ, List.getElem?_cons_zero]; rfl) (by kernel_rfl) (by kernel_rfl) (by kernel_rfl) (by exact fun _ _ _ h => h) (by first | (refine Or.inl ⟨by rfl, ?_⟩; intro W hW; exact exec_load_bk rowG (.tmp 2) rfl w.heap.size 0 rfl (HBX.out.below (HBD.out.trans hW)) [.int .i64 hs, .int .i64 ps, .slice g1.A g1.n g1.c, .int .i64 (m1.ct 0), .int .i64 (m1.ct 1), .int .i64 (m1.ct 2), .int .i64 (m1.ct 3), .int .i64 (m1.ct 4)] rfl rfl) | exact Or.inr ⟨by rfl, rfl⟩) ?_; try simp only [Act.put, List.setIfInBounds_toArray, List.set_cons_zero, List.set_cons_succ])
        (refine takeE (belowTr wr.heap.size) 1 (by simp only [List.getElem?_toArray, List.getElem?_cons_succ, List.getElem?_cons_zero]; rfl) (by kernel_rfl) (by kernel_rfl) (by kernel_rfl) (by exact fun _ _ _ h => h) (by first | (refine Or.inl ⟨by rfl, ?_⟩; intro W hW; go_simp; try with_reducible rfl) | exact Or.inr ⟨by rfl, rfl⟩) ?_; try simp only [Act.put, List.setIfInBounds_toArray, List.set_cons_zero, List.set_cons_succ])
        (refine takeE (belowTr wr.heap.size) 2 (by simp only [List.getElem?_toArray, List.getElem?_cons_succ, List.getElem?_cons_zero]; rfl) (by kernel_rfl) (by kernel_rfl) (by kernel_rfl) (by exact fun _ _ _ h => h) (by first | (refine Or.inl ⟨by rfl, ?_⟩; intro W hW; go_simp; try with_reducible rfl) | exact Or.inr ⟨by rfl, rfl⟩) ?_; try simp only [Act.put, List.setIfInBounds_toArray, List.set_cons_zero, List.set_cons_succ])
        (refine takeE (belowTr wr.heap.size) 3 (by simp only [List.getElem?_toArray, List.getElem?_cons_succ, List.getElem?_cons_zero]; rfl) (by kernel_rfl) (by kernel_rfl) (by kernel_rfl) (by exact fun _ _ _ h => h) (by first | (refine Or.inl ⟨by rfl, ?_⟩; intro W hW; go_simp; try with_reducible rfl) | exact Or.inr ⟨by rfl, rfl⟩) ?_; try simp only [Act.put, List.setIfInBounds_toArray, List.set_cons_zero, List.set_cons_succ])
        (refine takeE (belowTr wr.heap.size) 4 (by simp only [List.getElem?_toArray, List.getElem?_cons_succ, List.getElem?_cons_zero]; rfl) (by kernel_rfl) (by kernel_rfl) (by kernel_rfl) (by exact fun _ _ _ h => h) (by first | (refine Or.inl ⟨by rfl, ?_⟩; intro W hW; exact exec_loadRow rowP (.tmp 24) rfl gp (op + i * 9) rfl q (range_below hra hgp (HBD.out.trans hW))) | exact Or.inr ⟨by rfl, rfl⟩) ?_; try simp only [Act.put, List.setIfInBounds_toArray, List.set_cons_zero, List.set_cons_succ])
        refine wpAnyE_three (i := 5) (j := 10) (k := 11) (by kernel_rfl) (by simp only [List.getElem?_toArray, List.getElem?_cons_succ, List.getElem?_cons_zero]; rfl) (by simp only [List.getElem?_toArray, List.getElem?_cons_succ, List.getElem?_cons_zero]; rfl) (by simp only [List.getElem?_toArray, List.getElem?_cons_succ, List.getElem?_cons_zero]; rfl) (fun K hK => ?_) (fun K hK => ?_) (fun K hK => ?_)
        ·
          go_simp
          refine (HInto.out _ _ hRP hp5 hX).mono ?_
          rintro e w6 ⟨g6, q6, rfl, hr6, hk6, hq6, hb⟩
          have hE := hb.mono hn0
          have hC := hC.trans hE
          have hn0 := Nat.le_trans hn0 hb.size
          have hX := fun k hk => Nat.lt_of_lt_of_le (hX k hk) hb.size
          have hRP := hRP.below hb
          have hp5 := hp5.below hb
          try have hz10 := hz10.below hb
          try have hz11 := hz11.below hb
          refine hK.out _ _ hE ?_
          clear hK K
          try simp only [Act.put, List.setIfInBounds_toArray, List.set_cons_zero, List.set_cons_succ]
          (refine takeE (belowTr wr.heap.size) 6 (by simp only [List.getElem?_toArray, List.getElem?_cons_succ, List.getElem?_cons_zero]; rfl) (by kernel_rfl) (by kernel_rfl) (by kernel_rfl) (by exact fun _ _ _ h => h) (by first | (refine Or.inl ⟨by rfl, ?_⟩; intro W hW; go_simp; try with_reducible rfl) | exact Or.inr ⟨by rfl, rfl⟩) ?_; try simp only [Act.put, List.setIfInBounds_toArray, List.set_cons_zero, List.set_cons_succ])
          (refine takeE (belowTr wr.heap.size) 7 (by simp only [List.getElem?_toArray, List.getElem?_cons_succ, List.getElem?_cons_zero]; rfl) (by kernel_rfl) (by kernel_rfl) (by kernel_rfl) (by exact fun _ _ _ h => h) (by first | (refine Or.inl ⟨by rfl, ?_⟩; intro W hW; go_simp; try with_reducible rfl) | exact Or.inr ⟨by rfl, rfl⟩) ?_; try simp only [Act.put, List.setIfInBounds_toArray, List.set_cons_zero, List.set_cons_succ])
          (refine takeE (belowTr wr.heap.size) 8 (by simp only [List.getElem?_toArray, List.getElem?_cons_succ, List.getElem?_cons_zero]; rfl) (by kernel_rfl) (by kernel_rfl) (by kernel_rfl) (by exact fun _ _ _ h => h) (by first | (refine Or.inl ⟨by rfl, ?_⟩; intro W hW; go_simp; try with_reducible rfl) | exact Or.inr ⟨by rfl, rfl⟩) ?_; try simp only [Act.put, List.setIfInBounds_toArray, List.set_cons_zero, List.set_cons_succ])
          (refine takeE (belowTr wr.heap.size) 9 (by simp only [List.getElem?_toArray, List.getElem?_cons_succ, List.getElem?_cons_zero]; rfl) (by kernel_rfl) (by kernel_rfl) (by kernel_rfl) (by exact fun _ _ _ h => h) (by first | (refine Or.inl ⟨by rfl, ?_⟩; intro W hW; go_simp; try with_reducible rfl) | exact Or.inr ⟨by rfl, rfl⟩) ?_; try simp only [Act.put, List.setIfInBounds_toArray, List.set_cons_zero, List.set_cons_succ])
          refine wpAnyE_two (i := 10) (j := 11) (by kernel_rfl) (by simp only [List.getElem?_toArray, List.getElem?_cons_succ, List.getElem?_cons_zero]; rfl) (by simp only [List.getElem?_toArray, List.getElem?_cons_succ, List.getElem?_cons_zero]; rfl) (fun K hK => ?_) (fun K hK => ?_)
          ·
            go_simp
            have hg10 := hn0
            try have hne := Nat.ne_of_lt hz11.lt
            obtain ⟨hz10, hx10, hC, hE, hb, hX, hn0, hgr, -, hup⟩ := al_new (B := 0) hC hn0 hX (Nat.zero_le _) (fun g hg => absurd hg (Nat.not_lt_zero _)) 30 [.int .i64 0, .int .i64 0, .slice none 0 0, .int .i64 0, .int .i64 0, .int .i64 0, .int .i64 0, .int .i64 0]
            try have hz11 := hz11.below hb
            try have hx11 := hup _ hx11
            have hp5 := hp5.st (St.ext hb) hgr
            have hRP := hRP.st (St.ext hb) hgr
            try have hr6 := hr6.st (St.ext hb) hgr
            try have hq6 := hq6.st (St.ext hb) hgr
            have hsub := fun k hk => hup k (hsub k hk)
            refine hK.out _ _ hE ?_
            clear hK K
            try simp only [Act.put, List.setIfInBounds_toArray, List.set_cons_zero, List.set_cons_succ]
            refine wpAnyE_one (i := 11) (by kernel_rfl) (by simp only [List.getElem?_toArray, List.getElem?_cons_succ, List.getElem?_cons_zero]; rfl) (fun K hK => ?_)
            go_simp
            have hg11 := hn0
            try have hne := Nat.ne_of_gt hz10.lt
            obtain ⟨hz11, hx11, hC, hE, hb, hX, hn0, hgr, -, hup⟩ := al_new (B := 0) hC hn0 hX (Nat.zero_le _) (fun g hg => absurd hg (Nat.not_lt_zero _)) 65 [.int .i64 0, .int .i64 0, .int .i64 0, .int .i64 0, .int .i64 0, .int .i64 0, .int .i64 0, .int .i64 0, .slice none 0 0]
            try have hz10 := hz10.below hb
            try have hx10 := hup _ hx10
            have hp5 := hp5.st (St.ext hb) hgr
            have hRP := hRP.st (St.ext hb) hgr
            try have hr6 := hr6.st (St.ext hb) hgr
            try have hq6 := hq6.st (St.ext hb) hgr
            have hsub := fun k hk => hup k (hsub k hk)
            refine hK.out _ _ hE ?_
            clear hK K
            try simp only [Act.put, List.setIfInBounds_toArray, List.set_cons_zero, List.set_cons_succ]
            refine wpAnyE_one (i := 12) (by kernel_rfl) (by simp only [List.getElem?_toArray, List.getElem?_cons_succ, List.getElem?_cons_zero]; rfl) (fun K hK => ?_)
            refine opwp_store_bk rowG rfl (.tmp 8) (.tmp 27) rfl _ 0 (by first | rfl | (simp only [World.size_alloc]; done) | (simp only [World.size_alloc]; rfl)) hz10 [.int .i64 hs, .int .i64 ps, .slice g6.A g6.n g6.c, .int .i64 (m1.ct 0), .int .i64 (m1.ct 1), .int .i64 (m1.ct 2), .int .i64 (m1.ct 3), .int .i64 (m1.ct 4)] rfl rfl (by show 0 + 8 ≤ 8; decide) (one8 _ _ _ _ _ _ _ _ _ _) ?_
            rintro w7 hz10 hw
            rw [lay_all _ _ (by rfl)] at hz10
            have hs := wr_st hw hx10
            have hz11 := hz11.wr hw hne
            have hE := hw.below hg10 hn0
            have hC := hC.trans hE
            have hn0 := Nat.le_trans hn0 hE.size
            have hr6 := hr6.st hs (Gr.refl _ _)
            have hq6 := hq6.st hs (Gr.refl _ _)
            refine hK.out _ _ hE ?_
            clear hK K
            try simp only [Act.put, List.setIfInBounds_toArray, List.set_cons_zero, List.set_cons_succ]
            (refine takeE (belowTr wr.heap.size) 13 (by simp only [List.getElem?_toArray, List.getElem?_cons_succ, List.getElem?_cons_zero]; rfl) (by kernel_rfl) (by kernel_rfl) (by kernel_rfl) (by exact fun _ _ _ h => h) (by first | (refine Or.inl ⟨by rfl, ?_⟩; intro W hW; go_simp; try with_reducible rfl) | exact Or.inr ⟨by rfl, rfl⟩) ?_; try simp only [Act.put, List.setIfInBounds_toArray, List.set_cons_zero, List.set_cons_succ])
            refine wpAnyE_one (i := 14) (by kernel_rfl) (by simp only [List.getElem?_toArray, List.getElem?_cons_succ, List.getElem?_cons_zero]; rfl) (fun K hK => ?_)
            refine opwp_put_pk rowP rfl (.tmp 10) (.tmp 29) rfl _ (by first | rfl | (simp only [World.size_alloc]; done) | (simp only [World.size_alloc]; rfl)) hz11 rfl q6 rfl ?_
            rintro w8 hz11 hw
            have hs := wr_st hw hx11
            have hz10 := hz10.wr hw (Ne.symm hne)
            have hE := hw.below hg11 hn0
            have hC := hC.trans hE
            have hr6 := hr6.st hs (Gr.refl _ _)
            have hq6 := hq6.st hs (Gr.refl _ _)
            refine hK.out _ _ hE ?_
            clear hK K
            try simp only [Act.put, List.setIfInBounds_toArray, List.set_cons_zero, List.set_cons_succ]
            refine wpAnyE_done (by kernel_rfl) ?_ _
            go_wp2_with fail
            go_meet
            exact ⟨_, _, g6, q6, by first | rfl | (simp only [World.size_alloc]; done) | (simp only [World.size_alloc]; rfl), rfl, by first | rfl | (simp only [World.size_alloc]; done) | (simp only [World.size_alloc]; rfl), hz10, hz11, hr6.mono hsub, hk6, hq6.mono hsub, hg10, hg11, hC⟩
          ·
            go_simp
            have hg11 := hn0
            try have hne := Nat.ne_of_gt hz10.lt
            obtain ⟨hz11, hx11, hC, hE, hb, hX, hn0, hgr, -, hup⟩ := al_new (B := 0) hC hn0 hX (Nat.zero_le _) (fun g hg => absurd hg (Nat.not_lt_zero _)) 65 [.int .i64 0, .int .i64 0, .int .i64 0, .int .i64 0, .int .i64 0, .int .i64 0, .int .i64 0, .int .i64 0, .slice none 0 0]
            try have hz10 := hz10.below hb
            try have hx10 := hup _ hx10
            have hp5 := hp5.st (St.ext hb) hgr
            have hRP := hRP.st (St.ext hb) hgr
            try have hr6 := hr6.st (St.ext hb) hgr
            try have hq6 := hq6.st (St.ext hb) hgr
            have hsub := fun k hk => hup k (hsub k hk)
            refine hK.out _ _ hE ?_
            clear hK K
            try simp only [Act.put, List.setIfInBounds_toArray, List.set_cons_zero, List.set_cons_succ]
            refine wpAnyE_one (i := 10) (by kernel_rfl) (by simp only [List.getElem?_toArray, List.getElem?_cons_succ, List.getElem?_cons_zero]; rfl) (fun K hK => ?_)
            go_simp
            have hg10 := hn0
            try have hne := Nat.ne_of_lt hz11.lt
            obtain ⟨hz10, hx10, hC, hE, hb, hX, hn0, hgr, -, hup⟩ := al_new (B := 0) hC hn0 hX (Nat.zero_le _) (fun g hg => absurd hg (Nat.not_lt_zero _)) 30 [.int .i64 0, .int .i64 0, .slice none 0 0, .int .i64 0, .int .i64 0, .int .i64 0, .int .i64 0, .int .i64 0]
            try have hz11 := hz11.below hb
            try have hx11 := hup _ hx11
            have hp5 := hp5.st (St.ext hb) hgr
            have hRP := hRP.st (St.ext hb) hgr
            try have hr6 := hr6.st (St.ext hb) hgr
            try have hq6 := hq6.st (St.ext hb) hgr
            have hsub := fun k hk => hup k (hsub k hk)
            refine hK.out _ _ hE ?_
            clear hK K
            try simp only [Act.put, List.setIfInBounds_toArray, List.set_cons_zero, List.set_cons_succ]
            refine wpAnyE_one (i := 12) (by kernel_rfl) (by simp only [List.getElem?_toArray, List.getElem?_cons_succ, List.getElem?_cons_zero]; rfl) (fun K hK => ?_)
            refine opwp_store_bk rowG rfl (.tmp 8) (.tmp 27) rfl _ 0 (by first | rfl | (simp only [World.size_alloc]; done) | (simp only [World.size_alloc]; rfl)) hz10 [.int .i64 hs, .int .i64 ps, .slice g6.A g6.n g6.c, .int .i64 (m1.ct 0), .int .i64 (m1.ct 1), .int .i64 (m1.ct 2), .int .i64 (m1.ct 3), .int .i64 (m1.ct 4)] rfl rfl (by show 0 + 8 ≤ 8; decide) (one8 _ _ _ _ _ _ _ _ _ _) ?_
            rintro w7 hz10 hw
            rw [lay_all _ _ (by rfl)] at hz10
            have hs := wr_st hw hx10
            have hz11 := hz11.wr hw hne
            have hE := hw.below hg10 hn0
            have hC := hC.trans hE
            have hn0 := Nat.le_trans hn0 hE.size
            have hr6 := hr6.st hs (Gr.refl _ _)
            have hq6 := hq6.st hs (Gr.refl _ _)
            refine hK.out _ _ hE ?_
            clear hK K
            try simp only [Act.put, List.setIfInBounds_toArray, List.set_cons_zero, List.set_cons_succ]
            (refine takeE (belowTr wr.heap.size) 13 (by simp only [List.getElem?_toArray, List.getElem?_cons_succ, List.getElem?_cons_zero]; rfl) (by kernel_rfl) (by kernel_rfl) (by kernel_rfl) (by exact fun _ _ _ h => h) (by first | (refine Or.inl ⟨by rfl, ?_⟩; intro W hW; go_simp; try with_reducible rfl) | exact Or.inr ⟨by rfl, rfl⟩) ?_; try simp only [Act.put, List.setIfInBounds_toArray, List.set_cons_zero, List.set_cons_succ])
            refine wpAnyE_one (i := 14) (by kernel_rfl) (by simp only [List.getElem?_toArray, List.getElem?_cons_succ, List.getElem?_cons_zero]; rfl) (fun K hK => ?_)
            refine opwp_put_pk rowP rfl (.tmp 10) (.tmp 29) rfl _ (by first | rfl | (simp only [World.size_alloc]; done) | (simp only [World.size_alloc]; rfl)) hz11 rfl q6 rfl ?_
            rintro w8 hz11 hw
            have hs := wr_st hw hx11
            have hz10 := hz10.wr hw (Ne.symm hne)
            have hE := hw.below hg11 hn0
            have hC := hC.trans hE
            have hr6 := hr6.st hs (Gr.refl _ _)
            have hq6 := hq6.st hs (Gr.refl _ _)
            refine hK.out _ _ hE ?_
            clear hK K
            try simp only [Act.put, List.setIfInBounds_toArray, List.set_cons_zero, List.set_cons_succ]
            refine wpAnyE_done (by kernel_rfl) ?_ _
            go_wp2_with fail
            go_meet
            exact ⟨_, _, g6, q6, by first | rfl | (simp only [World.size_alloc]; done) | (simp only [World.size_alloc]; rfl), rfl, by first | rfl | (simp only [World.size_alloc]; done) | (simp only [World.size_alloc]; rfl), hz10, hz11, hr6.mono hsub, hk6, hq6.mono hsub, hg10, hg11, hC⟩
        ·
          go_simp
          have hg10 := hn0
          try have hne := Nat.ne_of_lt hz11.lt
          obtain ⟨hz10, hx10, hC, hE, hb, hX, hn0, hgr, -, hup⟩ := al_new (B := 0) hC hn0 hX (Nat.zero_le _) (fun g hg => absurd hg (Nat.not_lt_zero _)) 30 [.int .i64 0, .int .i64 0, .slice none 0 0, .int .i64 0, .int .i64 0, .int .i64 0, .int .i64 0, .int .i64 0]
          try have hz11 := hz11.below hb
          try have hx11 := hup _ hx11
          have hp5 := hp5.st (St.ext hb) hgr
          have hRP := hRP.st (St.ext hb) hgr
          try have hr6 := hr6.st (St.ext hb) hgr
          try have hq6 := hq6.st (St.ext hb) hgr
          have hsub := fun k hk => hup k (hsub k hk)
          refine hK.out _ _ hE ?_
          clear hK K
          try simp only [Act.put, List.setIfInBounds_toArray, List.set_cons_zero, List.set_cons_succ]
          refine wpAnyE_two (i := 5) (j := 11) (by kernel_rfl) (by simp only [List.getElem?_toArray, List.getElem?_cons_succ, List.getElem?_cons_zero]; rfl) (by simp only [List.getElem?_toArray, List.getElem?_cons_succ, List.getElem?_cons_zero]; rfl) (fun K hK => ?_) (fun K hK => ?_)
          ·
            go_simp
            refine (HInto.out _ _ hRP hp5 hX).mono ?_
            rintro e w6 ⟨g6, q6, rfl, hr6, hk6, hq6, hb⟩
            have hE := hb.mono hn0
            have hC := hC.trans hE
            have hn0 := Nat.le_trans hn0 hb.size
            have hX := fun k hk => Nat.lt_of_lt_of_le (hX k hk) hb.size
            have hRP := hRP.below hb
            have hp5 := hp5.below hb
            try have hz10 := hz10.below hb
            try have hz11 := hz11.below hb
            refine hK.out _ _ hE ?_
            clear hK K
            try simp only [Act.put, List.setIfInBounds_toArray, List.set_cons_zero, List.set_cons_succ]
            (refine takeE (belowTr wr.heap.size) 6 (by simp only [List.getElem?_toArray, List.getElem?_cons_succ, List.getElem?_cons_zero]; rfl) (by kernel_rfl) (by kernel_rfl) (by kernel_rfl) (by exact fun _ _ _ h => h) (by first | (refine Or.inl ⟨by rfl, ?_⟩; intro W hW; go_simp; try with_reducible rfl) | exact Or.inr ⟨by rfl, rfl⟩) ?_; try simp only [Act.put, List.setIfInBounds_toArray, List.set_cons_zero, List.set_cons_succ])
            (refine takeE (belowTr wr.heap.size) 7 (by simp only [List.getElem?_toArray, List.getElem?_cons_succ, List.getElem?_cons_zero]; rfl) (by kernel_rfl) (by kernel_rfl) (by kernel_rfl) (by exact fun _ _ _ h => h) (by first | (refine Or.inl ⟨by rfl, ?_⟩; intro W hW; go_simp; try with_reducible rfl) | exact Or.inr ⟨by rfl, rfl⟩) ?_; try simp only [Act.put, List.setIfInBounds_toArray, List.set_cons_zero, List.set_cons_succ])
            (refine takeE (belowTr wr.heap.size) 8 (by simp only [List.getElem?_toArray, List.getElem?_cons_succ, List.getElem?_cons_zero]; rfl) (by kernel_rfl) (by kernel_rfl) (by kernel_rfl) (by exact fun _ _ _ h => h) (by first | (refine Or.inl ⟨by rfl, ?_⟩; intro W hW; go_simp; try with_reducible rfl) | exact Or.inr ⟨by rfl, rfl⟩) ?_; try simp only [Act.put, List.setIfInBounds_toArray, List.set_cons_zero, List.set_cons_succ])
            (refine takeE (belowTr wr.heap.size) 9 (by simp only [List.getElem?_toArray, List.getElem?_cons_succ, List.getElem?_cons_zero]; rfl) (by kernel_rfl) (by kernel_rfl) (by kernel_rfl) (by exact fun _ _ _ h => h) (by first | (refine Or.inl ⟨by rfl, ?_⟩; intro W hW; go_simp; try with_reducible rfl) | exact Or.inr ⟨by rfl, rfl⟩) ?_; try simp only [Act.put, List.setIfInBounds_toArray, List.set_cons_zero, List.set_cons_succ])
            refine wpAnyE_one (i := 11) (by kernel_rfl) (by simp only [List.getElem?_toArray, List.getElem?_cons_succ, List.getElem?_cons_zero]; rfl) (fun K hK => ?_)
            go_simp
            have hg11 := hn0
            try have hne := Nat.ne_of_gt hz10.lt
            obtain ⟨hz11, hx11, hC, hE, hb, hX, hn0, hgr, -, hup⟩ := al_new (B := 0) hC hn0 hX (Nat.zero_le _) (fun g hg => absurd hg (Nat.not_lt_zero _)) 65 [.int .i64 0, .int .i64 0, .int .i64 0, .int .i64 0, .int .i64 0, .int .i64 0, .int .i64 0, .int .i64 0, .slice none 0 0]
            try have hz10 := hz10.below hb
            try have hx10 := hup _ hx10
            have hp5 := hp5.st (St.ext hb) hgr
            have hRP := hRP.st (St.ext hb) hgr
            try have hr6 := hr6.st (St.ext hb) hgr
            try have hq6 := hq6.st (St.ext hb) hgr
            have hsub := fun k hk => hup k (hsub k hk)
            refine hK.out _ _ hE ?_
            clear hK K
            try simp only [Act.put, List.setIfInBounds_toArray, List.set_cons_zero, List.set_cons_succ]
            refine wpAnyE_one (i := 12) (by kernel_rfl) (by simp only [List.getElem?_toArray, List.getElem?_cons_succ, List.getElem?_cons_zero]; rfl) (fun K hK => ?_)
            refine opwp_store_bk rowG rfl (.tmp 8) (.tmp 27) rfl _ 0 (by first | rfl | (simp only [World.size_alloc]; done) | (simp only [World.size_alloc]; rfl)) hz10 [.int .i64 hs, .int .i64 ps, .slice g6.A g6.n g6.c, .int .i64 (m1.ct 0), .int .i64 (m1.ct 1), .int .i64 (m1.ct 2), .int .i64 (m1.ct 3), .int .i64 (m1.ct 4)] rfl rfl (by show 0 + 8 ≤ 8; decide) (one8 _ _ _ _ _ _ _ _ _ _) ?_
            rintro w7 hz10 hw
            rw [lay_all _ _ (by rfl)] at hz10
            have hs := wr_st hw hx10
            have hz11 := hz11.wr hw hne
            have hE := hw.below hg10 hn0
            have hC := hC.trans hE
            have hn0 := Nat.le_trans hn0 hE.size
            have hr6 := hr6.st hs (Gr.refl _ _)
            have hq6 := hq6.st hs (Gr.refl _ _)
            refine hK.out _ _ hE ?_
            clear hK K
            try simp only [Act.put, List.setIfInBounds_toArray, List.set_cons_zero, List.set_cons_succ]
            (refine takeE (belowTr wr.heap.size) 13 (by simp only [List.getElem?_toArray, List.getElem?_cons_succ, List.getElem?_cons_zero]; rfl) (by kernel_rfl) (by kernel_rfl) (by kernel_rfl) (by exact fun _ _ _ h => h) (by first | (refine Or.inl ⟨by rfl, ?_⟩; intro W hW; go_simp; try with_reducible rfl) | exact Or.inr ⟨by rfl, rfl⟩) ?_; try simp only [Act.put, List.setIfInBounds_toArray, List.set_cons_zero, List.set_cons_succ])
            refine wpAnyE_one (i := 14) (by kernel_rfl) (by simp only [List.getElem?_toArray, List.getElem?_cons_succ, List.getElem?_cons_zero]; rfl) (fun K hK => ?_)
            refine opwp_put_pk rowP rfl (.tmp 10) (.tmp 29) rfl _ (by first | rfl | (simp only [World.size_alloc]; done) | (simp only [World.size_alloc]; rfl)) hz11 rfl q6 rfl ?_
            rintro w8 hz11 hw
            have hs := wr_st hw hx11
            have hz10 := hz10.wr hw (Ne.symm hne)
            have hE := hw.below hg11 hn0
            have hC := hC.trans hE
            have hr6 := hr6.st hs (Gr.refl _ _)
            have hq6 := hq6.st hs (Gr.refl _ _)
            refine hK.out _ _ hE ?_
            clear hK K
            try simp only [Act.put, List.setIfInBounds_toArray, List.set_cons_zero, List.set_cons_succ]
            refine wpAnyE_done (by kernel_rfl) ?_ _
            go_wp2_with fail
            go_meet
            exact ⟨_, _, g6, q6, by first | rfl | (simp only [World.size_alloc]; done) | (simp only [World.size_alloc]; rfl), rfl, by first | rfl | (simp only [World.size_alloc]; done) | (simp only [World.size_alloc]; rfl), hz10, hz11, hr6.mono hsub, hk6, hq6.mono hsub, hg10, hg11, hC⟩
          ·
            go_simp
            have hg11 := hn0
            try have hne := Nat.ne_of_gt hz10.lt
            obtain ⟨hz11, hx11, hC, hE, hb, hX, hn0, hgr, -, hup⟩ := al_new (B := 0) hC hn0 hX (Nat.zero_le _) (fun g hg => absurd hg (Nat.not_lt_zero _)) 65 [.int .i64 0, .int .i64 0, .int .i64 0, .int .i64 0, .int .i64 0, .int .i64 0, .int .i64 0, .int .i64 0, .slice none 0 0]
            try have hz10 := hz10.below hb
            try have hx10 := hup _ hx10
            have hp5 := hp5.st (St.ext hb) hgr
            have hRP := hRP.st (St.ext hb) hgr
            try have hr6 := hr6.st (St.ext hb) hgr
            try have hq6 := hq6.st (St.ext hb) hgr
            have hsub := fun k hk => hup k (hsub k hk)
            refine hK.out _ _ hE ?_
            clear hK K
            try simp only [Act.put, List.setIfInBounds_toArray, List.set_cons_zero, List.set_cons_succ]
            refine wpAnyE_one (i := 5) (by kernel_rfl) (by simp only [List.getElem?_toArray, List.getElem?_cons_succ, List.getElem?_cons_zero]; rfl) (fun K hK => ?_)
            go_simp
            refine (HInto.out _ _ hRP hp5 hX).mono ?_
            rintro e w6 ⟨g6, q6, rfl, hr6, hk6, hq6, hb⟩
            have hE := hb.mono hn0
            have hC := hC.trans hE
            have hn0 := Nat.le_trans hn0 hb.size
            have hX := fun k hk => Nat.lt_of_lt_of_le (hX k hk) hb.size
            have hRP := hRP.below hb
            have hp5 := hp5.below hb
            try have hz10 := hz10.below hb
            try have hz11 := hz11.below hb
            refine hK.out _ _ hE ?_
            clear hK K
            try simp only [Act.put, List.setIfInBounds_toArray, List.set_cons_zero, List.set_cons_succ]
            (refine takeE (belowTr wr.heap.size) 6 (by simp only [List.getElem?_toArray, List.getElem?_cons_succ, List.getElem?_cons_zero]; rfl) (by kernel_rfl) (by kernel_rfl) (by kernel_rfl) (by exact fun _ _ _ h => h) (by first | (refine Or.inl ⟨by rfl, ?_⟩; intro W hW; go_simp; try with_reducible rfl) | exact Or.inr ⟨by rfl, rfl⟩) ?_; try simp only [Act.put, List.setIfInBounds_toArray, List.set_cons_zero, List.set_cons_succ])
            (refine takeE (belowTr wr.heap.size) 7 (by simp only [List.getElem?_toArray, List.getElem?_cons_succ, List.getElem?_cons_zero]; rfl) (by kernel_rfl) (by kernel_rfl) (by kernel_rfl) (by exact fun _ _ _ h => h) (by first | (refine Or.inl ⟨by rfl, ?_⟩; intro W hW; go_simp; try with_reducible rfl) | exact Or.inr ⟨by rfl, rfl⟩) ?_; try simp only [Act.put, List.setIfInBounds_toArray, List.set_cons_zero, List.set_cons_succ])
            (refine takeE (belowTr wr.heap.size) 8 (by simp only [List.getElem?_toArray, List.getElem?_cons_succ, List.getElem?_cons_zero]; rfl) (by kernel_rfl) (by kernel_rfl) (by kernel_rfl) (by exact fun _ _ _ h => h) (by first | (refine Or.inl ⟨by rfl, ?_⟩; intro W hW; go_simp; try with_reducible rfl) | exact Or.inr ⟨by rfl, rfl⟩) ?_; try simp only [Act.put, List.setIfInBounds_toArray, List.set_cons_zero, List.set_cons_succ])
            (refine takeE (belowTr wr.heap.size) 9 (by simp only [List.getElem?_toArray, List.getElem?_cons_succ, List.getElem?_cons_zero]; rfl) (by kernel_rfl) (by kernel_rfl) (by kernel_rfl) (by exact fun _ _ _ h => h) (by first | (refine Or.inl ⟨by rfl, ?_⟩; intro W hW; go_simp; try with_reducible rfl) | exact Or.inr ⟨by rfl, rfl⟩) ?_; try simp only [Act.put, List.setIfInBounds_toArray, List.set_cons_zero, List.set_cons_succ])
            refine wpAnyE_one (i := 12) (by kernel_rfl) (by simp only [List.getElem?_toArray, List.getElem?_cons_succ, List.getElem?_cons_zero]; rfl) (fun K hK => ?_)
            refine opwp_store_bk rowG rfl (.tmp 8) (.tmp 27) rfl _ 0 (by first | rfl | (simp only [World.size_alloc]; done) | (simp only [World.size_alloc]; rfl)) hz10 [.int .i64 hs, .int .i64 ps, .slice g6.A g6.n g6.c, .int .i64 (m1.ct 0), .int .i64 (m1.ct 1), .int .i64 (m1.ct 2), .int .i64 (m1.ct 3), .int .i64 (m1.ct 4)] rfl rfl (by show 0 + 8 ≤ 8; decide) (one8 _ _ _ _ _ _ _ _ _ _) ?_
            rintro w7 hz10 hw
            rw [lay_all _ _ (by rfl)] at hz10
            have hs := wr_st hw hx10
            have hz11 := hz11.wr hw hne
            have hE := hw.below hg10 hn0
            have hC := hC.trans hE
            have hn0 := Nat.le_trans hn0 hE.size
            have hr6 := hr6.st hs (Gr.refl _ _)
            have hq6 := hq6.st hs (Gr.refl _ _)
            refine hK.out _ _ hE ?_
            clear hK K
            try simp only [Act.put, List.setIfInBounds_toArray, List.set_cons_zero, List.set_cons_succ]
            (refine takeE (belowTr wr.heap.size) 13 (by simp only [List.getElem?_toArray, List.getElem?_cons_succ, List.getElem?_cons_zero]; rfl) (by kernel_rfl) (by kernel_rfl) (by kernel_rfl) (by exact fun _ _ _ h => h) (by first | (refine Or.inl ⟨by rfl, ?_⟩; intro W hW; go_simp; try with_reducible rfl) | exact Or.inr ⟨by rfl, rfl⟩) ?_; try simp only [Act.put, List.setIfInBounds_toArray, List.set_cons_zero, List.set_cons_succ])
            refine wpAnyE_one (i := 14) (by kernel_rfl) (by simp only [List.getElem?_toArray, List.getElem?_cons_succ, List.getElem?_cons_zero]; rfl) (fun K hK => ?_)
            refine opwp_put_pk rowP rfl (.tmp 10) (.tmp 29) rfl _ (by first | rfl | (simp only [World.size_alloc]; done) | (simp only [World.size_alloc]; rfl)) hz11 rfl q6 rfl ?_
            rintro w8 hz11 hw
            have hs := wr_st hw hx11
            have hz10 := hz10.wr hw (Ne.symm hne)
            have hE := hw.below hg11 hn0
            have hC := hC.trans hE
            have hr6 := hr6.st hs (Gr.refl _ _)
            have hq6 := hq6.st hs (Gr.refl _ _)
            refine hK.out _ _ hE ?_
            clear hK K
            try simp only [Act.put, List.setIfInBounds_toArray, List.set_cons_zero, List.set_cons_succ]
            refine wpAnyE_done (by kernel_rfl) ?_ _
            go_wp2_with fail
            go_meet
            exact ⟨_, _, g6, q6, by first | rfl | (simp only [World.size_alloc]; done) | (simp only [World.size_alloc]; rfl), rfl, by first | rfl | (simp only [World.size_alloc]; done) | (simp only [World.size_alloc]; rfl), hz10, hz11, hr6.mono hsub, hk6, hq6.mono hsub, hg10, hg11, hC⟩
        ·
          go_simp
          have hg11 := hn0
          try have hne := Nat.ne_of_gt hz10.lt
          obtain ⟨hz11, hx11, hC, hE, hb, hX, hn0, hgr, -, hup⟩ := al_new (B := 0) hC hn0 hX (Nat.zero_le _) (fun g hg => absurd hg (Nat.not_lt_zero _)) 65 [.int .i64 0, .int .i64 0, .int .i64 0, .int .i64 0, .int .i64 0, .int .i64 0, .int .i64 0, .int .i64 0, .slice none 0 0]
          try have hz10 := hz10.below hb
          try have hx10 := hup _ hx10
          have hp5 := hp5.st (St.ext hb) hgr
          have hRP := hRP.st (St.ext hb) hgr
          try have hr6 := hr6.st (St.ext hb) hgr
          try have hq6 := hq6.st (St.ext hb) hgr
          have hsub := fun k hk => hup k (hsub k hk)
          refine hK.out _ _ hE ?_
          clear hK K
          try simp only [Act.put, List.setIfInBounds_toArray, List.set_cons_zero, List.set_cons_succ]
          refine wpAnyE_two (i := 5) (j := 10) (by kernel_rfl) (by simp only [List.getElem?_toArray, List.getElem?_cons_succ, List.getElem?_cons_zero]; rfl) (by simp only [List.getElem?_toArray, List.getElem?_cons_succ, List.getElem?_cons_zero]; rfl) (fun K hK => ?_) (fun K hK => ?_)
          ·
            go_simp
            refine (HInto.out _ _ hRP hp5 hX).mono ?_
            rintro e w6 ⟨g6, q6, rfl, hr6, hk6, hq6, hb⟩
            have hE := hb.mono hn0
            have hC := hC.trans hE
            have hn0 := Nat.le_trans hn0 hb.size
            have hX := fun k hk => Nat.lt_of_lt_of_le (hX k hk) hb.size
            have hRP := hRP.below hb
            have hp5 := hp5.below hb
            try have hz10 := hz10.below hb
            try have hz11 := hz11.below hb
            refine hK.out _ _ hE ?_
            clear hK K
            try simp only [Act.put, List.setIfInBounds_toArray, List.set_cons_zero, List.set_cons_succ]
            (refine takeE (belowTr wr.heap.size) 6 (by simp only [List.getElem?_toArray, List.getElem?_cons_succ, List.getElem?_cons_zero]; rfl) (by kernel_rfl) (by kernel_rfl) (by kernel_rfl) (by exact fun _ _ _ h => h) (by first | (refine Or.inl ⟨by rfl, ?_⟩; intro W hW; go_simp; try with_reducible rfl) | exact Or.inr ⟨by rfl, rfl⟩) ?_; try simp only [Act.put, List.setIfInBounds_toArray, List.set_cons_zero, List.set_cons_succ])
            (refine takeE (belowTr wr.heap.size) 7 (by simp only [List.getElem?_toArray, List.getElem?_cons_succ, List.getElem?_cons_zero]; rfl) (by kernel_rfl) (by kernel_rfl) (by kernel_rfl) (by exact fun _ _ _ h => h) (by first | (refine Or.inl ⟨by rfl, ?_⟩; intro W hW; go_simp; try with_reducible rfl) | exact Or.inr ⟨by rfl, rfl⟩) ?_; try simp only [Act.put, List.setIfInBounds_toArray, List.set_cons_zero, List.set_cons_succ])
            (refine takeE (belowTr wr.heap.size) 8 (by simp only [List.getElem?_toArray, List.getElem?_cons_succ, List.getElem?_cons_zero]; rfl) (by kernel_rfl) (by kernel_rfl) (by kernel_rfl) (by exact fun _ _ _ h => h) (by first | (refine Or.inl ⟨by rfl, ?_⟩; intro W hW; go_simp; try with_reducible rfl) | exact Or.inr ⟨by rfl, rfl⟩) ?_; try simp only [Act.put, List.setIfInBounds_toArray, List.set_cons_zero, List.set_cons_succ])
            (refine takeE (belowTr wr.heap.size) 9 (by simp only [List.getElem?_toArray, List.getElem?_cons_succ, List.getElem?_cons_zero]; rfl) (by kernel_rfl) (by kernel_rfl) (by kernel_rfl) (by exact fun _ _ _ h => h) (by first | (refine Or.inl ⟨by rfl, ?_⟩; intro W hW; go_simp; try with_reducible rfl) | exact Or.inr ⟨by rfl, rfl⟩) ?_; try simp only [Act.put, List.setIfInBounds_toArray, List.set_cons_zero, List.set_cons_succ])
            refine wpAnyE_one (i := 10) (by kernel_rfl) (by simp only [List.getElem?_toArray, List.getElem?_cons_succ, List.getElem?_cons_zero]; rfl) (fun K hK => ?_)
            go_simp
            have hg10 := hn0
            try have hne := Nat.ne_of_lt hz11.lt
            obtain ⟨hz10, hx10, hC, hE, hb, hX, hn0, hgr, -, hup⟩ := al_new (B := 0) hC hn0 hX (Nat.zero_le _) (fun g hg => absurd hg (Nat.not_lt_zero _)) 30 [.int .i64 0, .int .i64 0, .slice none 0 0, .int .i64 0, .int .i64 0, .int .i64 0, .int .i64 0, .int .i64 0]
            try have hz11 := hz11.below hb
            try have hx11 := hup _ hx11
            have hp5 := hp5.st (St.ext hb) hgr
            have hRP := hRP.st (St.ext hb) hgr
            try have hr6 := hr6.st (St.ext hb) hgr
            try have hq6 := hq6.st (St.ext hb) hgr
            have hsub := fun k hk => hup k (hsub k hk)
            refine hK.out _ _ hE ?_
            clear hK K
            try simp only [Act.put, List.setIfInBounds_toArray, List.set_cons_zero, List.set_cons_succ]
            refine wpAnyE_one (i := 12) (by kernel_rfl) (by simp only [List.getElem?_toArray, List.getElem?_cons_succ, List.getElem?_cons_zero]; rfl) (fun K hK => ?_)
            refine opwp_store_bk rowG rfl (.tmp 8) (.tmp 27) rfl _ 0 (by first | rfl | (simp only [World.size_alloc]; done) | (simp only [World.size_alloc]; rfl)) hz10 [.int .i64 hs, .int .i64 ps, .slice g6.A g6.n g6.c, .int .i64 (m1.ct 0), .int .i64 (m1.ct 1), .int .i64 (m1.ct 2), .int .i64 (m1.ct 3), .int .i64 (m1.ct 4)] rfl rfl (by show 0 + 8 ≤ 8; decide) (one8 _ _ _ _ _ _ _ _ _ _) ?_
            rintro w7 hz10 hw
            rw [lay_all _ _ (by rfl)] at hz10
            have hs := wr_st hw hx10
            have hz11 := hz11.wr hw hne
            have hE := hw.below hg10 hn0
            have hC := hC.trans hE
            have hn0 := Nat.le_trans hn0 hE.size
            have hr6 := hr6.st hs (Gr.refl _ _)
            have hq6 := hq6.st hs (Gr.refl _ _)
            refine hK.out _ _ hE ?_
            clear hK K
            try simp only [Act.put, List.setIfInBounds_toArray, List.set_cons_zero, List.set_cons_succ]
            (refine takeE (belowTr wr.heap.size) 13 (by simp only [List.getElem?_toArray, List.getElem?_cons_succ, List.getElem?_cons_zero]; rfl) (by kernel_rfl) (by kernel_rfl) (by kernel_rfl) (by exact fun _ _ _ h => h) (by first | (refine Or.inl ⟨by rfl, ?_⟩; intro W hW; go_simp; try with_reducible rfl) | exact Or.inr ⟨by rfl, rfl⟩) ?_; try simp only [Act.put, List.setIfInBounds_toArray, List.set_cons_zero, List.set_cons_succ])
            refine wpAnyE_one (i := 14) (by kernel_rfl) (by simp only [List.getElem?_toArray, List.getElem?_cons_succ, List.getElem?_cons_zero]; rfl) (fun K hK => ?_)
            refine opwp_put_pk rowP rfl (.tmp 10) (.tmp 29) rfl _ (by first | rfl | (simp only [World.size_alloc]; done) | (simp only [World.size_alloc]; rfl)) hz11 rfl q6 rfl ?_
            rintro w8 hz11 hw
            have hs := wr_st hw hx11
            have hz10 := hz10.wr hw (Ne.symm hne)
            have hE := hw.below hg11 hn0
            have hC := hC.trans hE
            have hr6 := hr6.st hs (Gr.refl _ _)
            have hq6 := hq6.st hs (Gr.refl _ _)
            refine hK.out _ _ hE ?_
            clear hK K
            try simp only [Act.put, List.setIfInBounds_toArray, List.set_cons_zero, List.set_cons_succ]
            refine wpAnyE_done (by kernel_rfl) ?_ _
            go_wp2_with fail
            go_meet
            exact ⟨_, _, g6, q6, by first | rfl | (simp only [World.size_alloc]; done) | (simp only [World.size_alloc]; rfl), rfl, by first | rfl | (simp only [World.size_alloc]; done) | (simp only [World.size_alloc]; rfl), hz10, hz11, hr6.mono hsub, hk6, hq6.mono hsub, hg10, hg11, hC⟩
          ·
            go_simp
            have hg10 := hn0
            try have hne := Nat.ne_of_lt hz11.lt
            obtain ⟨hz10, hx10, hC, hE, hb, hX, hn0, hgr, -, hup⟩ := al_new (B := 0) hC hn0 hX (Nat.zero_le _) (fun g hg => absurd hg (Nat.not_lt_zero _)) 30 [.int .i64 0, .int .i64 0, .slice none 0 0, .int .i64 0, .int .i64 0, .int .i64 0, .int .i64 0, .int .i64 0]
            try have hz11 := hz11.below hb
            try have hx11 := hup _ hx11
            have hp5 := hp5.st (St.ext hb) hgr
            have hRP := hRP.st (St.ext hb) hgr
            try have hr6 := hr6.st (St.ext hb) hgr
            try have hq6 := hq6.st (St.ext hb) hgr
            have hsub := fun k hk => hup k (hsub k hk)
            refine hK.out _ _ hE ?_
            clear hK K
            try simp only [Act.put, List.setIfInBounds_toArray, List.set_cons_zero, List.set_cons_succ]
            refine wpAnyE_one (i := 5) (by kernel_rfl) (by simp only [List.getElem?_toArray, List.getElem?_cons_succ, List.getElem?_cons_zero]; rfl) (fun K hK => ?_)
            go_simp
            refine (HInto.out _ _ hRP hp5 hX).mono ?_
            rintro e w6 ⟨g6, q6, rfl, hr6, hk6, hq6, hb⟩
            have hE := hb.mono hn0
            have hC := hC.trans hE
            have hn0 := Nat.le_trans hn0 hb.size
            have hX := fun k hk => Nat.lt_of_lt_of_le (hX k hk) hb.size
            have hRP := hRP.below hb
            have hp5 := hp5.below hb
            try have hz10 := hz10.below hb
            try have hz11 := hz11.below hb
            refine hK.out _ _ hE ?_
            clear hK K
            try simp only [Act.put, List.setIfInBounds_toArray, List.set_cons_zero, List.set_cons_succ]
            (refine takeE (belowTr wr.heap.size) 6 (by simp only [List.getElem?_toArray, List.getElem?_cons_succ, List.getElem?_cons_zero]; rfl) (by kernel_rfl) (by kernel_rfl) (by kernel_rfl) (by exact fun _ _ _ h => h) (by first | (refine Or.inl ⟨by rfl, ?_⟩; intro W hW; go_simp; try with_reducible rfl) | exact Or.inr ⟨by rfl, rfl⟩) ?_; try simp only [Act.put, List.setIfInBounds_toArray, List.set_cons_zero, List.set_cons_succ])
            (refine takeE (belowTr wr.heap.size) 7 (by simp only [List.getElem?_toArray, List.getElem?_cons_succ, List.getElem?_cons_zero]; rfl) (by kernel_rfl) (by kernel_rfl) (by kernel_rfl) (by exact fun _ _ _ h => h) (by first | (refine Or.inl ⟨by rfl, ?_⟩; intro W hW; go_simp; try with_reducible rfl) | exact Or.inr ⟨by rfl, rfl⟩) ?_; try simp only [Act.put, List.setIfInBounds_toArray, List.set_cons_zero, List.set_cons_succ])
            (refine takeE (belowTr wr.heap.size) 8 (by simp only [List.getElem?_toArray, List.getElem?_cons_succ, List.getElem?_cons_zero]; rfl) (by kernel_rfl) (by kernel_rfl) (by kernel_rfl) (by exact fun _ _ _ h => h) (by first | (refine Or.inl ⟨by rfl, ?_⟩; intro W hW; go_simp; try with_reducible rfl) | exact Or.inr ⟨by rfl, rfl⟩) ?_; try simp only [Act.put, List.setIfInBounds_toArray, List.set_cons_zero, List.set_cons_succ])
            (refine takeE (belowTr wr.heap.size) 9 (by simp only [List.getElem?_toArray, List.getElem?_cons_succ, List.getElem?_cons_zero]; rfl) (by kernel_rfl) (by kernel_rfl) (by kernel_rfl) (by exact fun _ _ _ h => h) (by first | (refine Or.inl ⟨by rfl, ?_⟩; intro W hW; go_simp; try with_reducible rfl) | exact Or.inr ⟨by rfl, rfl⟩) ?_; try simp only [Act.put, List.setIfInBounds_toArray, List.set_cons_zero, List.set_cons_succ])
            refine wpAnyE_one (i := 12) (by kernel_rfl) (by simp only [List.getElem?_toArray, List.getElem?_cons_succ, List.getElem?_cons_zero]; rfl) (fun K hK => ?_)
            refine opwp_store_bk rowG rfl (.tmp 8) (.tmp 27) rfl _ 0 (by first | rfl | (simp only [World.size_alloc]; done) | (simp only [World.size_alloc]; rfl)) hz10 [.int .i64 hs, .int .i64 ps, .slice g6.A g6.n g6.c, .int .i64 (m1.ct 0), .int .i64 (m1.ct 1), .int .i64 (m1.ct 2), .int .i64 (m1.ct 3), .int .i64 (m1.ct 4)] rfl rfl (by show 0 + 8 ≤ 8; decide) (one8 _ _ _ _ _ _ _ _ _ _) ?_
            rintro w7 hz10 hw
            rw [lay_all _ _ (by rfl)] at hz10
            have hs := wr_st hw hx10
            have hz11 := hz11.wr hw hne
            have hE := hw.below hg10 hn0
            have hC := hC.trans hE
            have hn0 := Nat.le_trans hn0 hE.size
            have hr6 := hr6.st hs (Gr.refl _ _)
            have hq6 := hq6.st hs (Gr.refl _ _)
            refine hK.out _ _ hE ?_
            clear hK K
            try simp only [Act.put, List.setIfInBounds_toArray, List.set_cons_zero, List.set_cons_succ]
            (refine takeE (belowTr wr.heap.size) 13 (by simp only [List.getElem?_toArray, List.getElem?_cons_succ, List.getElem?_cons_zero]; rfl) (by kernel_rfl) (by kernel_rfl) (by kernel_rfl) (by exact fun _ _ _ h => h) (by first | (refine Or.inl ⟨by rfl, ?_⟩; intro W hW; go_simp; try with_reducible rfl) | exact Or.inr ⟨by rfl, rfl⟩) ?_; try simp only [Act.put, List.setIfInBounds_toArray, List.set_cons_zero, List.set_cons_succ])
            refine wpAnyE_one (i := 14) (by kernel_rfl) (by simp only [List.getElem?_toArray, List.getElem?_cons_succ, List.getElem?_cons_zero]; rfl) (fun K hK => ?_)
            refine opwp_put_pk rowP rfl (.tmp 10) (.tmp 29) rfl _ (by first | rfl | (simp only [World.size_alloc]; done) | (simp only [World.size_alloc]; rfl)) hz11 rfl q6 rfl ?_
            rintro w8 hz11 hw
            have hs := wr_st hw hx11
            have hz10 := hz10.wr hw (Ne.symm hne)
            have hE := hw.below hg11 hn0
            have hC := hC.trans hE
            have hr6 := hr6.st hs (Gr.refl _ _)
            have hq6 := hq6.st hs (Gr.refl _ _)
            refine hK.out _ _ hE ?_
            clear hK K
            try simp only [Act.put, List.setIfInBounds_toArray, List.set_cons_zero, List.set_cons_succ]
            refine wpAnyE_done (by kernel_rfl) ?_ _
            go_wp2_with fail
            go_meet
            exact ⟨_, _, g6, q6, by first | rfl | (simp only [World.size_alloc]; done) | (simp only [World.size_alloc]; rfl), rfl, by first | rfl | (simp only [World.size_alloc]; done) | (simp only [World.size_alloc]; rfl), hz10, hz11, hr6.mono hsub, hk6, hq6.mono hsub, hg10, hg11, hC⟩
      case rest =>
        obtain ⟨g8, g10, g6, q6, rfl, rfl, rfl, hz8, hz10, hr6, hk6, hq6, hg8, hg10, hC⟩ := hcut
        have hx2 := HBX.out.below hC
        have HC := Lib.hid hC
        have hr8 : w.heap.size + 4 ≤ wr.heap.size := H0.out.sz
        go_upto_if 32 with (first
          | (with_reducible refine at_load 30 (.tmp 8) (by rfl) ?_
             refine wpList_load_bk rowG rfl (.tmp 8) rfl g8 0 rfl hz8 [.int .i64 hs, .int .i64 ps, .slice g6.A g6.n g6.c, .int .i64 (m1.ct 0), .int .i64 (m1.ct 1), .int .i64 (m1.ct 2), .int .i64 (m1.ct 3), .int .i64 (m1.ct 4)] rfl rfl ?_)
          | (with_reducible refine at_store 30 (.tmp 2) (.tmp 30) (by rfl) ?_
             refine wpList_store_bk rowG rfl (.tmp 2) (.tmp 30) rfl w.heap.size 0 rfl hx2 [.int .i64 hs, .int .i64 ps, .slice g6.A g6.n g6.c, .int .i64 (m1.ct 0), .int .i64 (m1.ct 1), .int .i64 (m1.ct 2), .int .i64 (m1.ct 3), .int .i64 (m1.ct 4)] rfl rfl (by show 0 + 8 ≤ 8; decide) (one8 _ _ _ _ _ _ _ _ _ _) ?_
             rintro w8 hx8 hw8
             rw [lay_all _ _ (by rfl)] at hx8
             have HW8 := Lib.hid hw8
             have hz18 := hz10.wr hw8 (by omega)
             clear hw8 hx2))
        have hst8 : St (fun k => k = w.heap.size ∨ k = w.heap.size + 3) wc w8 := wr_st HW8.out (.inl rfl)
        have HGI2 : Hid (GI0 w F X0 hs ps (some ⟨gp, op, none⟩) n d ks w8 ∧ GpR X0 w8 hs ps g6 (m1.into q.pk)) := Lib.hid ⟨(H0.out.below HC.out).turn hst8 HXB.out, hr6.st (wr_st HW8.out HXB.out.1) (Gr.refl _ _)⟩
        have HQ6 := Lib.hid (hq6.st (wr_st HW8.out HXB.out.1) (Gr.refl _ _))
        have HBN2 : Hid (Bk w8 28 (w.heap.size + 3) (tabV 5 t1)) := Lib.hid ((HBN.out.below HC.out).wr HW8.out (by omega))
        have HBX2 := Lib.hid hx8
        have HK6 := Lib.hid hk6
        have HX8 : Hid (∀ k, X0 k → k < w8.heap.size) := Lib.hid fun k hk => by have := HXr.out k hk; have := HC.out.size; have := HW8.out.size; omega
        have hlt5 : m1.ivd q.pk < 5 := by
          have := FM.pvd_lt m1 q.pk
          unfold FM.pvd at this
          split at this <;> omega
        clear hz8 hr6 hk6 hq6 hst8 hC hz10
        by_cases h3 : m1.ivd q.pk = 3
        · have HInto2 : Hid (∀ W X, GpR X W hs ps g6 (m1.into q.pk) → PvR X W q6 → (∀ k, X k → k < W.heap.size) → Calls Try.prog 29 #[.agg #[.int .i64 hs, .int .i64 ps, .slice g6.A g6.n g6.c, .int .i64 (m1.ct 0), .int .i64 (m1.ct 1), .int .i64 (m1.ct 2), .int .i64 (m1.ct 3), .int .i64 (m1.ct 4)], .agg #[.int .i64 q6.h.kd, .int .i64 q6.h.fl, .int .i64 q6.h.pa, .int .i64 q6.h.sr, .int .i64 q6.h.ds, .int .i64 q6.h.cn, .int .i64 q6.h.sq, .int .i64 q6.h.pu, .slice q6.A q6.n q6.c]] W (fun e w' => ∃ g' q', e = .returned (.tuple #[.agg #[.int .i64 hs, .int .i64 ps, .slice g'.A g'.n g'.c, .int .i64 (m1.ct 0), .int .i64 (m1.ct 1), .int .i64 (m1.ct 2), .int .i64 (m1.ct 3), .int .i64 (m1.ct 4)], .int .i64 ((m1.into q.pk).ivd (m1.iout q.pk) : Nat), .agg #[.int .i64 q'.h.kd, .int .i64 q'.h.fl, .int .i64 q'.h.pa, .int .i64 q'.h.sr, .int .i64 q'.h.ds, .int .i64 q'.h.cn, .int .i64 q'.h.sq, .int .i64 q'.h.pu, .slice q'.A q'.n q'.c]]) ∧ GpR X w' hs ps g' ((m1.into q.pk).into (m1.iout q.pk)) ∧ PvR X w' q' ∧ Below W.heap.size W w')) := Lib.hid fun W X h1 h2 h3 => by
            have h4 := r_into h1 HMI.out (by omega) hL hH h2 h3
            unfold IntoTo at h4
            rw [FM.into_ct, HK6.out] at h4
            refine h4.mono ?_
            rintro e w' ⟨g', q', e1, e2, e3, e4, e5⟩
            exact ⟨g', q', e1, e2, e4, e5⟩
          have h3I : ((m1.ivd q.pk : Nat) : Int) = 3 := by omega
          have HV3 := Lib.hid h3
          obtain ⟨u, hu⟩ : ∃ u, u = (m1.into q.pk).ivd (m1.iout q.pk) := ⟨_, rfl⟩
          rw [← hu] at HInto2
          have HU := Lib.hid hu
          clear h3 hu
          by_cases hu1 : u = 1
          · have huI : ((u : Nat) : Int) = 1 := by omega
            have HPv : Hid (3 = m1.pvd q.pk) := Lib.hid (by unfold FM.pvd; rw [if_pos HV3.out, ← HU.out, if_pos hu1])
            have HPn : Hid ((m1.into q.pk).into (m1.iout q.pk) = m1.pnx q.pk) := Lib.hid (by unfold FM.pnx; rw [if_pos HV3.out])
            have h35 : 3 < 5 := by omega
            clear hu1
            go_wp2_with (first
              | (with_reducible refine at_load 30 (.tmp 2) (by rfl) ?_
                 refine wpList_load_bk rowG rfl (.tmp 2) rfl w.heap.size 0 rfl hx8 [.int .i64 hs, .int .i64 ps, .slice g6.A g6.n g6.c, .int .i64 (m1.ct 0), .int .i64 (m1.ct 1), .int .i64 (m1.ct 2), .int .i64 (m1.ct 3), .int .i64 (m1.ct 4)] rfl rfl ?_)
              | (with_reducible refine at_load 65 (.tmp 10) (by rfl) ?_
                 refine wpList_load_bk rowP rfl (.tmp 10) rfl g10 0 rfl hz18 [.int .i64 q6.h.kd, .int .i64 q6.h.fl, .int .i64 q6.h.pa, .int .i64 q6.h.sr, .int .i64 q6.h.ds, .int .i64 q6.h.cn, .int .i64 q6.h.sq, .int .i64 q6.h.pu, .slice q6.A q6.n q6.c] rfl rfl ?_)
              | (go_at_call 29
                 refine (HInto2.out _ _ HGI2.out.2 HQ6.out HX8.out).mono ?_
                 rintro e w9 ⟨g7, q7, rfl, hr7, hq7, hb9⟩
                 have hz11 : Bk ((w9.alloc (.cells [.int .i64 0, .int .i64 0, .slice none 0 0, .int .i64 0, .int .i64 0, .int .i64 0, .int .i64 0, .int .i64 0].toArray 30)).alloc (.cells [.int .i64 0, .int .i64 0, .int .i64 0, .int .i64 0, .int .i64 0, .int .i64 0, .int .i64 0, .int .i64 0, .slice none 0 0].toArray 65)) 30 w9.heap.size [.int .i64 0, .int .i64 0, .slice none 0 0, .int .i64 0, .int .i64 0, .int .i64 0, .int .i64 0, .int .i64 0] := (Bk.new w9 30 [.int .i64 0, .int .i64 0, .slice none 0 0, .int .i64 0, .int .i64 0, .int .i64 0, .int .i64 0, .int .i64 0]).alloc _
                 have hz13 : Bk ((w9.alloc (.cells [.int .i64 0, .int .i64 0, .slice none 0 0, .int .i64 0, .int .i64 0, .int .i64 0, .int .i64 0, .int .i64 0].toArray 30)).alloc (.cells [.int .i64 0, .int .i64 0, .int .i64 0, .int .i64 0, .int .i64 0, .int .i64 0, .int .i64 0, .int .i64 0, .slice none 0 0].toArray 65)) 65 (w9.heap.size + 1) [.int .i64 0, .int .i64 0, .int .i64 0, .int .i64 0, .int .i64 0, .int .i64 0, .int .i64 0, .int .i64 0, .slice none 0 0] := by
                   have := Bk.new (w9.alloc (.cells [.int .i64 0, .int .i64 0, .slice none 0 0, .int .i64 0, .int .i64 0, .int .i64 0, .int .i64 0, .int .i64 0].toArray 30)) 65 [.int .i64 0, .int .i64 0, .int .i64 0, .int .i64 0, .int .i64 0, .int .i64 0, .int .i64 0, .int .i64 0, .slice none 0 0]
                   rw [World.size_alloc] at this
                   exact this
                 have hb10 : Below w8.heap.size w8 ((w9.alloc (.cells [.int .i64 0, .int .i64 0, .slice none 0 0, .int .i64 0, .int .i64 0, .int .i64 0, .int .i64 0, .int .i64 0].toArray 30)).alloc (.cells [.int .i64 0, .int .i64 0, .int .i64 0, .int .i64 0, .int .i64 0, .int .i64 0, .int .i64 0, .int .i64 0, .slice none 0 0].toArray 65)) := (hb9.alloc hb9.size _).alloc (by simp; have := hb9.size; omega) _
                 have hb910 : Below w9.heap.size w9 ((w9.alloc (.cells [.int .i64 0, .int .i64 0, .slice none 0 0, .int .i64 0, .int .i64 0, .int .i64 0, .int .i64 0, .int .i64 0].toArray 30)).alloc (.cells [.int .i64 0, .int .i64 0, .int .i64 0, .int .i64 0, .int .i64 0, .int .i64 0, .int .i64 0, .int .i64 0, .slice none 0 0].toArray 65)) := ((Below.refl _ _).alloc (Nat.le_refl _) _).alloc (by simp) _
                 have hs98 := hb9.size
                 have HR9 := Lib.hid hr7
                 have HB91 := Lib.hid hb910
                 have HG9 := Lib.hid (HGI2.out.1.below hb9)
                 have hx10 := hx8.below hb10
                 have HN10 := Lib.hid (HBN2.out.below hb10)
                 have hl8 : w.heap.size + 4 ≤ w8.heap.size := HGI2.out.1.sz
                 clear hq7 hb10 hb910 hr7 hb9)
              | (with_reducible refine at_store 30 (.tmp 11) (.tmp 37) (by rfl) ?_
                 refine wpList_store_bk rowG rfl (.tmp 11) (.tmp 37) rfl w9.heap.size 0 rfl hz11 [.int .i64 hs, .int .i64 ps, .slice g7.A g7.n g7.c, .int .i64 (m1.ct 0), .int .i64 (m1.ct 1), .int .i64 (m1.ct 2), .int .i64 (m1.ct 3), .int .i64 (m1.ct 4)] rfl rfl (by decide) (one8 _ _ _ _ _ _ _ _ _ _) ?_
                 rintro w10 hy11 hw10
                 rw [lay_all _ _ (by rfl)] at hy11
                 have hy13 := hz13.wr hw10 (by omega)
                 have hx11 := hx10.wr hw10 (by omega)
                 have HN11 := Lib.hid (HN10.out.wr hw10 (by omega))
                 have hb11 : Below w9.heap.size ((w9.alloc (.cells [.int .i64 0, .int .i64 0, .slice none 0 0, .int .i64 0, .int .i64 0, .int .i64 0, .int .i64 0, .int .i64 0].toArray 30)).alloc (.cells [.int .i64 0, .int .i64 0, .int .i64 0, .int .i64 0, .int .i64 0, .int .i64 0, .int .i64 0, .int .i64 0, .slice none 0 0].toArray 65)) w10 := hw10.below (Nat.le_refl _) (by simp; omega)
                 have HW10 := Lib.hid hw10
                 clear hz11 hz13 hw10 hb11)
              | (with_reducible refine at_store 65 (.tmp 13) (.tmp 39) (by rfl) ?_
                 refine wpList_store_bk rowP rfl (.tmp 13) (.tmp 39) rfl (w9.heap.size + 1) 0 rfl hy13 [.int .i64 q7.h.kd, .int .i64 q7.h.fl, .int .i64 q7.h.pa, .int .i64 q7.h.sr, .int .i64 q7.h.ds, .int .i64 q7.h.cn, .int .i64 q7.h.sq, .int .i64 q7.h.pu, .slice q7.A q7.n q7.c] rfl rfl (by decide) (Pv.cl_one q7) ?_
                 rintro w11 hy14 hw11
                 have hy12 := hy11.wr hw11 (by omega)
                 have hx12 := hx11.wr hw11 (by omega)
                 have HN12 := Lib.hid (HN11.out.wr hw11 (by omega))
                 have HW11 := Lib.hid hw11
                 clear hy13 hy14 hw11)
              | (with_reducible refine at_load 30 (.tmp 11) (by rfl) ?_
                 refine wpList_load_bk rowG rfl (.tmp 11) rfl w9.heap.size 0 rfl hy12 [.int .i64 hs, .int .i64 ps, .slice g7.A g7.n g7.c, .int .i64 (m1.ct 0), .int .i64 (m1.ct 1), .int .i64 (m1.ct 2), .int .i64 (m1.ct 3), .int .i64 (m1.ct 4)] rfl rfl ?_)
              | (with_reducible refine at_store 30 (.tmp 2) (.tmp 40) (by rfl) ?_
                 refine wpList_store_bk rowG rfl (.tmp 2) (.tmp 40) rfl w.heap.size 0 rfl hx12 [.int .i64 hs, .int .i64 ps, .slice g7.A g7.n g7.c, .int .i64 (m1.ct 0), .int .i64 (m1.ct 1), .int .i64 (m1.ct 2), .int .i64 (m1.ct 3), .int .i64 (m1.ct 4)] rfl rfl (by show 0 + 8 ≤ 8; decide) (one8 _ _ _ _ _ _ _ _ _ _) ?_
                 rintro w12 hx13 hw12
                 rw [lay_all _ _ (by rfl)] at hx13
                 have HGI3 : Hid (GI0 w F X0 hs ps (some ⟨gp, op, none⟩) n d ks w12 ∧ GpR X0 w12 hs ps g7 ((m1.into q.pk).into (m1.iout q.pk))) := Lib.hid (GI3 HG9.out HR9.out HB91.out (by simp) HW10.out HW11.out hw12 HXB.out)
                 have HBX2 := Lib.hid hx13
                 have HBN2 := Lib.hid (HN12.out.wr hw12 (by omega))
                 have HGI2 := HGI3
                 clear hw12 hx13 hx12 hy12 hx11 hy11 hx10
                 have hb1 := HT1.out 3
                 have hct := HC1.out 3
                 have c1 := HBN2.out.cell 3 (tabV_get 5 t1 h35)
                 have f1 := HBN2.out.free 3
                 have c3 := (HBX2.out.far (p := ⟨w.heap.size + 3, 3, none⟩) (show w.heap.size ≠ w.heap.size + 3 by omega) (.int .i64 (t1 3 + 1))).cell (3 + 3) (gl_get _ _ _ _ _ h35)
                 have f3 := (HBX2.out.far (p := ⟨w.heap.size + 3, 3, none⟩) (show w.heap.size ≠ w.heap.size + 3 by omega) (.int .i64 (t1 3 + 1))).free (3 + 3)
                 have HNX : Hid (GI w F X0 hs ps (some ⟨gp, op, none⟩) n d ks (FM.put1 (m1, t1) q.pk).1 (FM.put1 (m1, t1) q.pk).2 ((w12.setCell ⟨w.heap.size + 3, 3, none⟩ (.int .i64 (t1 3 + 1))).setCell ⟨w.heap.size, 3 + 3, none⟩ (.int .i64 (m1.ct 3 + 1)))) := Lib.hid (GI.step HGI2.out HBX2.out HBN2.out HPv.out HPn.out h35 HXB.out)
                 have hw1 : IntKind.i64.wrap (t1 3 + 1) = t1 3 + 1 := by rw [IntKind.wrap_i64]; omega
                 have hw2 : IntKind.i64.wrap (m1.ct 3 + 1) = m1.ct 3 + 1 := by rw [IntKind.wrap_i64]; omega))
            go_roundw
            case rel => exact ⟨i + 1, by go_num, by omega, by rw [HSn.out]; exact HNX.out⟩
            case measure => simp [intOf]; omega
          · have huI : ¬ ((u : Nat) : Int) = 1 := by omega
            have HPv : Hid (4 = m1.pvd q.pk) := Lib.hid (by unfold FM.pvd; rw [if_pos HV3.out, ← HU.out, if_neg hu1])
            have HPn : Hid ((m1.into q.pk).into (m1.iout q.pk) = m1.pnx q.pk) := Lib.hid (by unfold FM.pnx; rw [if_pos HV3.out])
            have h45 : 4 < 5 := by omega
            have huB : ((u : Int) == 1) = false := by simp; omega
            clear hu1
            go_wp2_with (first
              | (with_reducible refine at_load 30 (.tmp 2) (by rfl) ?_
                 refine wpList_load_bk rowG rfl (.tmp 2) rfl w.heap.size 0 rfl hx8 [.int .i64 hs, .int .i64 ps, .slice g6.A g6.n g6.c, .int .i64 (m1.ct 0), .int .i64 (m1.ct 1), .int .i64 (m1.ct 2), .int .i64 (m1.ct 3), .int .i64 (m1.ct 4)] rfl rfl ?_)
              | (with_reducible refine at_load 65 (.tmp 10) (by rfl) ?_
                 refine wpList_load_bk rowP rfl (.tmp 10) rfl g10 0 rfl hz18 [.int .i64 q6.h.kd, .int .i64 q6.h.fl, .int .i64 q6.h.pa, .int .i64 q6.h.sr, .int .i64 q6.h.ds, .int .i64 q6.h.cn, .int .i64 q6.h.sq, .int .i64 q6.h.pu, .slice q6.A q6.n q6.c] rfl rfl ?_)
              | (go_at_call 29
                 refine (HInto2.out _ _ HGI2.out.2 HQ6.out HX8.out).mono ?_
                 rintro e w9 ⟨g7, q7, rfl, hr7, hq7, hb9⟩
                 have hz11 : Bk ((w9.alloc (.cells [.int .i64 0, .int .i64 0, .slice none 0 0, .int .i64 0, .int .i64 0, .int .i64 0, .int .i64 0, .int .i64 0].toArray 30)).alloc (.cells [.int .i64 0, .int .i64 0, .int .i64 0, .int .i64 0, .int .i64 0, .int .i64 0, .int .i64 0, .int .i64 0, .slice none 0 0].toArray 65)) 30 w9.heap.size [.int .i64 0, .int .i64 0, .slice none 0 0, .int .i64 0, .int .i64 0, .int .i64 0, .int .i64 0, .int .i64 0] := (Bk.new w9 30 [.int .i64 0, .int .i64 0, .slice none 0 0, .int .i64 0, .int .i64 0, .int .i64 0, .int .i64 0, .int .i64 0]).alloc _
                 have hz13 : Bk ((w9.alloc (.cells [.int .i64 0, .int .i64 0, .slice none 0 0, .int .i64 0, .int .i64 0, .int .i64 0, .int .i64 0, .int .i64 0].toArray 30)).alloc (.cells [.int .i64 0, .int .i64 0, .int .i64 0, .int .i64 0, .int .i64 0, .int .i64 0, .int .i64 0, .int .i64 0, .slice none 0 0].toArray 65)) 65 (w9.heap.size + 1) [.int .i64 0, .int .i64 0, .int .i64 0, .int .i64 0, .int .i64 0, .int .i64 0, .int .i64 0, .int .i64 0, .slice none 0 0] := by
                   have := Bk.new (w9.alloc (.cells [.int .i64 0, .int .i64 0, .slice none 0 0, .int .i64 0, .int .i64 0, .int .i64 0, .int .i64 0, .int .i64 0].toArray 30)) 65 [.int .i64 0, .int .i64 0, .int .i64 0, .int .i64 0, .int .i64 0, .int .i64 0, .int .i64 0, .int .i64 0, .slice none 0 0]
                   rw [World.size_alloc] at this
                   exact this
                 have hb10 : Below w8.heap.size w8 ((w9.alloc (.cells [.int .i64 0, .int .i64 0, .slice none 0 0, .int .i64 0, .int .i64 0, .int .i64 0, .int .i64 0, .int .i64 0].toArray 30)).alloc (.cells [.int .i64 0, .int .i64 0, .int .i64 0, .int .i64 0, .int .i64 0, .int .i64 0, .int .i64 0, .int .i64 0, .slice none 0 0].toArray 65)) := (hb9.alloc hb9.size _).alloc (by simp; have := hb9.size; omega) _
                 have hb910 : Below w9.heap.size w9 ((w9.alloc (.cells [.int .i64 0, .int .i64 0, .slice none 0 0, .int .i64 0, .int .i64 0, .int .i64 0, .int .i64 0, .int .i64 0].toArray 30)).alloc (.cells [.int .i64 0, .int .i64 0, .int .i64 0, .int .i64 0, .int .i64 0, .int .i64 0, .int .i64 0, .int .i64 0, .slice none 0 0].toArray 65)) := ((Below.refl _ _).alloc (Nat.le_refl _) _).alloc (by simp) _
                 have hs98 := hb9.size
                 have HR9 := Lib.hid hr7
                 have HB91 := Lib.hid hb910
                 have HG9 := Lib.hid (HGI2.out.1.below hb9)
                 have hx10 := hx8.below hb10
                 have HN10 := Lib.hid (HBN2.out.below hb10)
                 have hl8 : w.heap.size + 4 ≤ w8.heap.size := HGI2.out.1.sz
                 clear hq7 hb10 hb910 hr7 hb9)
              | (with_reducible refine at_store 30 (.tmp 11) (.tmp 37) (by rfl) ?_
                 refine wpList_store_bk rowG rfl (.tmp 11) (.tmp 37) rfl w9.heap.size 0 rfl hz11 [.int .i64 hs, .int .i64 ps, .slice g7.A g7.n g7.c, .int .i64 (m1.ct 0), .int .i64 (m1.ct 1), .int .i64 (m1.ct 2), .int .i64 (m1.ct 3), .int .i64 (m1.ct 4)] rfl rfl (by decide) (one8 _ _ _ _ _ _ _ _ _ _) ?_
                 rintro w10 hy11 hw10
                 rw [lay_all _ _ (by rfl)] at hy11
                 have hy13 := hz13.wr hw10 (by omega)
                 have hx11 := hx10.wr hw10 (by omega)
                 have HN11 := Lib.hid (HN10.out.wr hw10 (by omega))
                 have hb11 : Below w9.heap.size ((w9.alloc (.cells [.int .i64 0, .int .i64 0, .slice none 0 0, .int .i64 0, .int .i64 0, .int .i64 0, .int .i64 0, .int .i64 0].toArray 30)).alloc (.cells [.int .i64 0, .int .i64 0, .int .i64 0, .int .i64 0, .int .i64 0, .int .i64 0, .int .i64 0, .int .i64 0, .slice none 0 0].toArray 65)) w10 := hw10.below (Nat.le_refl _) (by simp; omega)
                 have HW10 := Lib.hid hw10
                 clear hz11 hz13 hw10 hb11)
              | (with_reducible refine at_store 65 (.tmp 13) (.tmp 39) (by rfl) ?_
                 refine wpList_store_bk rowP rfl (.tmp 13) (.tmp 39) rfl (w9.heap.size + 1) 0 rfl hy13 [.int .i64 q7.h.kd, .int .i64 q7.h.fl, .int .i64 q7.h.pa, .int .i64 q7.h.sr, .int .i64 q7.h.ds, .int .i64 q7.h.cn, .int .i64 q7.h.sq, .int .i64 q7.h.pu, .slice q7.A q7.n q7.c] rfl rfl (by decide) (Pv.cl_one q7) ?_
                 rintro w11 hy14 hw11
                 have hy12 := hy11.wr hw11 (by omega)
                 have hx12 := hx11.wr hw11 (by omega)
                 have HN12 := Lib.hid (HN11.out.wr hw11 (by omega))
                 have HW11 := Lib.hid hw11
                 clear hy13 hy14 hw11)
              | (with_reducible refine at_load 30 (.tmp 11) (by rfl) ?_
                 refine wpList_load_bk rowG rfl (.tmp 11) rfl w9.heap.size 0 rfl hy12 [.int .i64 hs, .int .i64 ps, .slice g7.A g7.n g7.c, .int .i64 (m1.ct 0), .int .i64 (m1.ct 1), .int .i64 (m1.ct 2), .int .i64 (m1.ct 3), .int .i64 (m1.ct 4)] rfl rfl ?_)
              | (with_reducible refine at_store 30 (.tmp 2) (.tmp 40) (by rfl) ?_
                 refine wpList_store_bk rowG rfl (.tmp 2) (.tmp 40) rfl w.heap.size 0 rfl hx12 [.int .i64 hs, .int .i64 ps, .slice g7.A g7.n g7.c, .int .i64 (m1.ct 0), .int .i64 (m1.ct 1), .int .i64 (m1.ct 2), .int .i64 (m1.ct 3), .int .i64 (m1.ct 4)] rfl rfl (by show 0 + 8 ≤ 8; decide) (one8 _ _ _ _ _ _ _ _ _ _) ?_
                 rintro w12 hx13 hw12
                 rw [lay_all _ _ (by rfl)] at hx13
                 have HGI3 : Hid (GI0 w F X0 hs ps (some ⟨gp, op, none⟩) n d ks w12 ∧ GpR X0 w12 hs ps g7 ((m1.into q.pk).into (m1.iout q.pk))) := Lib.hid (GI3 HG9.out HR9.out HB91.out (by simp) HW10.out HW11.out hw12 HXB.out)
                 have HBX2 := Lib.hid hx13
                 have HBN2 := Lib.hid (HN12.out.wr hw12 (by omega))
                 have HGI2 := HGI3
                 clear hw12 hx13 hx12 hy12 hx11 hy11 hx10
                 have hb1 := HT1.out 4
                 have hct := HC1.out 4
                 have c1 := HBN2.out.cell 4 (tabV_get 5 t1 h45)
                 have f1 := HBN2.out.free 4
                 have c3 := (HBX2.out.far (p := ⟨w.heap.size + 3, 4, none⟩) (show w.heap.size ≠ w.heap.size + 3 by omega) (.int .i64 (t1 4 + 1))).cell (3 + 4) (gl_get _ _ _ _ _ h45)
                 have f3 := (HBX2.out.far (p := ⟨w.heap.size + 3, 4, none⟩) (show w.heap.size ≠ w.heap.size + 3 by omega) (.int .i64 (t1 4 + 1))).free (3 + 4)
                 have HNX : Hid (GI w F X0 hs ps (some ⟨gp, op, none⟩) n d ks (FM.put1 (m1, t1) q.pk).1 (FM.put1 (m1, t1) q.pk).2 ((w12.setCell ⟨w.heap.size + 3, 4, none⟩ (.int .i64 (t1 4 + 1))).setCell ⟨w.heap.size, 3 + 4, none⟩ (.int .i64 (m1.ct 4 + 1)))) := Lib.hid (GI.step HGI2.out HBX2.out HBN2.out HPv.out HPn.out h45 HXB.out)
                 have hw1 : IntKind.i64.wrap (t1 4 + 1) = t1 4 + 1 := by rw [IntKind.wrap_i64]; omega
                 have hw2 : IntKind.i64.wrap (m1.ct 4 + 1) = m1.ct 4 + 1 := by rw [IntKind.wrap_i64]; omega))
            go_roundw
            case rel => exact ⟨i + 1, by go_num, by omega, by rw [HSn.out]; exact HNX.out⟩
            case measure => simp [intOf]; omega
        · have h3I : ¬ ((m1.ivd q.pk : Nat) : Int) = 3 := by omega
          have h3B : (((m1.ivd q.pk : Nat) : Int) == 3) = false := by simp; omega
          have HPv : Hid (m1.ivd q.pk = m1.pvd q.pk) := Lib.hid (by unfold FM.pvd; rw [if_neg h3])
          have HPn : Hid (m1.into q.pk = m1.pnx q.pk) := Lib.hid (by unfold FM.pnx; rw [if_neg h3])
          generalize m1.ivd q.pk = v at *
          generalize m1.into q.pk = m2 at *
          clear h3
          have hb1 := HT1.out v
          have hct := HC1.out v
          have c1 := HBN2.out.cell v (tabV_get 5 t1 hlt5)
          have f1 := HBN2.out.free v
          have c3 := (HBX2.out.far (p := ⟨w.heap.size + 3, v, none⟩) (show w.heap.size ≠ w.heap.size + 3 by omega) (.int .i64 (t1 v + 1))).cell (3 + v) (gl_get _ _ _ _ _ hlt5)
          have f3 := (HBX2.out.far (p := ⟨w.heap.size + 3, v, none⟩) (show w.heap.size ≠ w.heap.size + 3 by omega) (.int .i64 (t1 v + 1))).free (3 + v)
          have HNX : Hid (GI w F X0 hs ps (some ⟨gp, op, none⟩) n d ks (FM.put1 (m1, t1) q.pk).1 (FM.put1 (m1, t1) q.pk).2 ((w8.setCell ⟨w.heap.size + 3, v, none⟩ (.int .i64 (t1 v + 1))).setCell ⟨w.heap.size, 3 + v, none⟩ (.int .i64 (m1.ct v + 1)))) := Lib.hid (GI.step HGI2.out HBX2.out HBN2.out HPv.out HPn.out hlt5 HXB.out)
          have hw1 : IntKind.i64.wrap (t1 v + 1) = t1 v + 1 := by rw [IntKind.wrap_i64]; omega
          have hw2 : IntKind.i64.wrap (m1.ct v + 1) = m1.ct v + 1 := by rw [IntKind.wrap_i64]; omega
          go_wp2
          go_roundw
          case rel => exact ⟨i + 1, by go_num, by omega, by rw [HSn.out]; exact HNX.out⟩
          case measure => simp [intOf]; omega
    · obtain rfl : i = n := by omega
      rw [List.take_of_length_le (by rw [HLN.out]; exact Nat.le_refl _)] at hP
      obtain ⟨m1, hm1⟩ : ∃ m1, m1 = (m.puts ks).1 := ⟨_, rfl⟩
      rw [← hm1] at hP
      have HM1 := Lib.hid hm1
      clear hm1
      obtain ⟨g1, h0, hbx, hgp, hbn⟩ := hP
      have HFin : Hid (∀ wd w7 w8, Below wr.heap.size wr wd → Wr (w.heap.size + 1) wd w7 → Wr (w.heap.size + 2) w7 w8 → GpR F w8 hs ps g1 m1 ∧ Below w.heap.size w w8) := Lib.hid fun wd w7 w8 h1 h2 h3 => by
        have s0 := h0.sz
        have s1 := h1.size
        have s2 := h2.size
        refine ⟨(((hgp.below h1).st (wr_st h2 HXC.out.1) (Gr.refl _ _)).st (wr_st h3 HXC.out.2) (Gr.refl _ _)).mono HXF.out, ?_⟩
        exact ((below_on h0.bl h1).trans (h2.below (by omega) (by omega))).trans (h3.below (by omega) (by omega))
      have HB4 := Lib.hid h0.b4
      have HB5 := Lib.hid h0.b5
      have HBX := Lib.hid hbx
      have HBN := Lib.hid hbn
      have hr4 : w.heap.size + 4 ≤ wr.heap.size := h0.sz
      clear h0 hbx hgp hbn HS
      go_upto_region 14 with fail
      refine wp_region_E (Keep (fun k => k = w.heap.size ∨ k = w.heap.size + 3)) (by kernel_rfl) (fun wd hbd hsz => ?_)
      have HBD := Lib.hid hbd
      clear hbd hsz
      (refine takeE (Keep.tr (fun k => k = w.heap.size ∨ k = w.heap.size + 3)) 0 (by simp only [List.getElem?_toArray, List.getElem?_cons_succ, List.getElem?_cons_zero]; rfl) (by kernel_rfl) (by kernel_rfl) (by kernel_rfl) (by exact fun _ _ _ h => h) (by first | (refine Or.inl ⟨by rfl, ?_⟩; intro W hW; exact exec_load_bk rowG (.tmp 2) rfl w.heap.size 0 rfl ((HBX.out.below HBD.out).kp hW (.inl rfl)) [.int .i64 hs, .int .i64 ps, .slice g1.A g1.n g1.c, .int .i64 (m1.ct 0), .int .i64 (m1.ct 1), .int .i64 (m1.ct 2), .int .i64 (m1.ct 3), .int .i64 (m1.ct 4)] rfl rfl) | exact Or.inr ⟨by rfl, rfl⟩) ?_; try simp only [Act.put, List.setIfInBounds_toArray, List.set_cons_zero, List.set_cons_succ])
      (refine takeE (Keep.tr (fun k => k = w.heap.size ∨ k = w.heap.size + 3)) 1 (by simp only [List.getElem?_toArray, List.getElem?_cons_succ, List.getElem?_cons_zero]; rfl) (by kernel_rfl) (by kernel_rfl) (by kernel_rfl) (by exact fun _ _ _ h => h) (by first | (refine Or.inl ⟨by rfl, ?_⟩; intro W hW; exact exec_load_bk row5 (.tmp 6) rfl (w.heap.size + 3) 0 rfl ((HBN.out.below HBD.out).kp hW (.inr rfl)) (tabV 5 (m.puts ks).2) (tabV_len _ _) rfl) | exact Or.inr ⟨by rfl, rfl⟩) ?_; try simp only [Act.put, List.setIfInBounds_toArray, List.set_cons_zero, List.set_cons_succ])
      refine wpAnyE_one (i := 2) (by kernel_rfl) (by simp only [List.getElem?_toArray, List.getElem?_cons_succ, List.getElem?_cons_zero]; rfl) (fun K hK => ?_)
      refine opwp_store_bk rowG rfl (.tmp 4) (.tmp 55) rfl (w.heap.size + 1) 0 rfl (HB4.out.below HBD.out) [.int .i64 hs, .int .i64 ps, .slice g1.A g1.n g1.c, .int .i64 (m1.ct 0), .int .i64 (m1.ct 1), .int .i64 (m1.ct 2), .int .i64 (m1.ct 3), .int .i64 (m1.ct 4)] rfl rfl (by decide) (one8 _ _ _ _ _ _ _ _ _ _) ?_
      rintro w7 hz4 hw7
      rw [lay_all _ _ (by rfl)] at hz4
      have hE7 : Keep (fun k => k = w.heap.size ∨ k = w.heap.size + 3) wd w7 := Keep.setW hw7 fun k hk => ⟨by have := HBN.out.lt; have := HBD.out.size; rcases hk with rfl | rfl <;> omega, by rcases hk with rfl | rfl <;> omega⟩
      refine hK.out _ _ hE7 ?_
      clear hK K
      try simp only [Act.put, List.setIfInBounds_toArray, List.set_cons_zero, List.set_cons_succ]
      refine wpAnyE_one (i := 3) (by kernel_rfl) (by simp only [List.getElem?_toArray, List.getElem?_cons_succ, List.getElem?_cons_zero]; rfl) (fun K hK => ?_)
      refine opwp_store_bk row5 rfl (.tmp 5) (.tmp 56) rfl (w.heap.size + 2) 0 rfl ((HB5.out.below HBD.out).wr hw7 (by omega)) (tabV 5 (m.puts ks).2) rfl (tabV_len _ _) (by decide) (tabV_one _ _) ?_
      rintro w8 hz5 hw8
      rw [lay_all _ _ (by rw [tabV_len]; rfl)] at hz5
      have hz48 := hz4.wr hw8 (by omega)
      have hE8 : Keep (fun k => k = w.heap.size ∨ k = w.heap.size + 3) w7 w8 := Keep.setW hw8 fun k hk => ⟨by have := HBN.out.lt; have := HBD.out.size; have := hw7.size; rcases hk with rfl | rfl <;> omega, by rcases hk with rfl | rfl <;> omega⟩
      refine hK.out _ _ hE8 ?_
      clear hK K
      try simp only [Act.put, List.setIfInBounds_toArray, List.set_cons_zero, List.set_cons_succ]
      refine wpAnyE_done (by kernel_rfl) ?_ _
      have HE := Lib.hid (HFin.out wd w7 w8 HBD.out hw7 hw8)
      have HZ4 := Lib.hid hz48
      have HZ5 := Lib.hid hz5
      clear hz4 hz5 hw7 hw8 hE7 hE8 hz48
      go_wp2
      refine bodyPost_ret (results_cc rfl rfl rfl (rowG.load HZ4.out 0 (cs := [.int .i64 hs, .int .i64 ps, .slice g1.A g1.n g1.c, .int .i64 (m1.ct 0), .int .i64 (m1.ct 1), .int .i64 (m1.ct 2), .int .i64 (m1.ct 3), .int .i64 (m1.ct 4)]) rfl rfl) (row5.load HZ5.out 0 (tabV_len _ _) rfl)) rfl ?_
      exact ⟨g1, by rw [← HM1.out], by rw [← HM1.out]; exact HE.out⟩
end
end Go.Proofs.Ytboclbanccfbjaa
namespace Go.Proofs.Ytboclbanccfbjaa
set_option linter.unusedSimpArgs false
set_option linter.unusedVariables false
set_option maxRecDepth 100000
open Go.RowKit Go.Shelf
section
variable {F : Nat → Prop} {w : World} {r : RV} {m : AM}
theorem r_serveR (h : RpR F w r m) (hF : ∀ k, F k → k < w.heap.size) (hl : m.low.length ≤ 1024) (hh : m.high.length ≤ 1024) (hct : ∀ k, -1 ≤ m.ct k ∧ m.ct k ≤ 1000000) (hru : m.run ≤ 1024) (f : Int) :
    Calls Try.prog 33 #[.agg #[.slice r.a1 r.n1 r.c1, .slice r.a2 r.n2 r.c2, .int .i64 m.lr, .int .i64 m.hr, .int .i64 m.wt, .int .i64 m.run, .int .i64 (m.ct 0), .int .i64 (m.ct 1), .int .i64 (m.ct 2), .int .i64 (m.ct 3), .int .i64 (m.ct 4)], .int .i64 f] w (RServeTo F w (m.svM f) (m.svL f) (m.svE f)) := by
  unfold AM.svM AM.svL AM.svE
  by_cases hf : f < 1 ∨ 4 < f
  · simp only [if_pos hf]; exact r_serve_bad h f hf
  · simp only [if_neg hf]
    cases hx : m.sel m.hiB with
    | nil => exact r_serve_none h hF f (by omega) (by omega) hx
    | cons x l => exact r_serve h hF hl hh hct hru f (by omega) (by omega) x l hx
theorem AM.sv_err {a : AM} {f : Int} (h : a.svE f ≠ 0) : a.svM f = a ∧ a.svL f = [] := by
  unfold AM.svE at h
  unfold AM.svM AM.svL
  by_cases hf : f < 1 ∨ 4 < f
  · rw [if_pos hf, if_pos hf]; exact ⟨rfl, rfl⟩
  · rw [if_neg hf] at h ⊢
    rw [if_neg hf]
    cases hs : a.sel a.hiB with
    | nil => exact ⟨rfl, rfl⟩
    | cons x l => rw [hs] at h; exact absurd rfl h
end
section
variable {P : Program} {w : World} {Q : Exit → Act → World → Prop} {ops : Array Oper} {rest : List Oper} {op : Oper} {a : Act}
theorem wpList_load_rng {e : TypeId} {m : Nat} (R : Row P e m) (hgd : op.guard = none) (x : Operand) (ho : op.op = .load e x) (g o : Nat) (hx : a.eval x = .pointer (some ⟨g, o, none⟩)) {cs : List Value} (h : w.rangeAt g o cs) (hm : cs.length = m)
    (hq : wpList P ops Q rest (a.put op.dst (.agg cs.toArray)) w) : wpList P ops Q (op :: rest) a w := by
  obtain ⟨d, h1, h2⟩ := R.ht
  exact wpList_load_mid hgd e x ho g o hx cs d h h1 h2 (by rw [hm]; exact R.hi) hq
end
section
variable {F F' : Nat → Prop} {w w' : World} {hs ps L H : Nat} {B : Int} {g : GV} {m : FM} {rs : List (RV × AM)} {a : AM}
theorem FM.sv_err {p q f : Int} (hp : m.port p q = some a) (h : a.svE f ≠ 0) : m.svM p q f = m ∧ m.svL p q f = [] ∧ m.svE p q f = a.svE f := by
  obtain ⟨h1, h2⟩ := AM.sv_err h
  unfold FM.svM FM.svL FM.svE
  rw [hp]
  dsimp only
  rw [h1, h2]
  refine ⟨?_, rfl, rfl⟩
  have hk := FM.port_pt hp
  unfold FM.sc FM.sp
  cases m with
  | mk pt ct =>
    dsimp only at hk ⊢
    congr 1
    · funext i
      unfold set1
      split
      · rename_i e; rw [e, hk]
      · rfl
    · funext i
      unfold up
      split
      · rename_i e; rw [e]; simp
      · rfl
/-- What Serve leaves. -/
def GSrvTo (F : Nat → Prop) (w : World) (hs ps : Nat) (m' : FM) (l : List Pk) (err : Int) (e : Ending) (w' : World) : Prop :=
  ∃ g' A n c, e = .returned (.tuple #[.agg #[.int .i64 hs, .int .i64 ps, .slice g'.A g'.n g'.c, .int .i64 (m'.ct 0), .int .i64 (m'.ct 1), .int .i64 (m'.ct 2), .int .i64 (m'.ct 3), .int .i64 (m'.ct 4)], .slice A n c, .int .i64 err]) ∧ GpR F w' hs ps g' m' ∧ SlP F w' A n c l ∧ Below w.heap.size w w'
theorem two_boxes (w : World) (T1 T2 : TypeId) (v1 v2 : List Value) : ∃ W, W = (w.alloc (.cells v1.toArray T1)).alloc (.cells v2.toArray T2) ∧ Below w.heap.size w W ∧ W.heap.size = w.heap.size + 2 ∧ Bk W T1 w.heap.size v1 ∧ Bk W T2 (w.heap.size + 1) v2 := by
  refine ⟨_, rfl, (((Below.refl w.heap.size w).alloc (Nat.le_refl _) _).alloc (by simp) _), by simp, (Bk.new w _ v1).alloc _, ?_⟩
  have := Bk.new (w.alloc (.cells v1.toArray T1)) T2 v2
  simpa using this
set_option maxHeartbeats 16000000 in
theorem g_Serve (h : GpR F w hs ps g m) (hM : FMb m L H B) (hB : B ≤ 1000000) (hc0 : 0 ≤ m.ct 0 ∧ m.ct 0 ≤ 1000000) (hL : L ≤ 1024) (hH : H ≤ 1024) (hR : ∀ k a, m.pt k = some a → a.run ≤ 1024) (p q f : Int) (hF : ∀ k, F k → k < w.heap.size) :
    Calls Try.prog 12 #[.agg #[.int .i64 hs, .int .i64 ps, .slice g.A g.n g.c, .int .i64 (m.ct 0), .int .i64 (m.ct 1), .int .i64 (m.ct 2), .int .i64 (m.ct 3), .int .i64 (m.ct 4)], .int .i64 p, .int .i64 q, .int .i64 f] w (GSrvTo F w hs ps (m.svM p q f) (m.svL p q f) (m.svE p q f)) := by
  obtain ⟨W0, hW0, hb0, hsz0, hb2, hb4⟩ := two_boxes w 30 30 [.int .i64 hs, .int .i64 ps, .slice g.A g.n g.c, .int .i64 (m.ct 0), .int .i64 (m.ct 1), .int .i64 (m.ct 2), .int .i64 (m.ct 3), .int .i64 (m.ct 4)] [.int .i64 0, .int .i64 0, .slice none 0 0, .int .i64 0, .int .i64 0, .int .i64 0, .int .i64 0, .int .i64 0]
  have HPo := Lib.hid (fun (W : World) => g_Port (w := W) (g := g) h.gd p q)
  subst hW0
  have HH := Lib.hid h
  have HB0 := Lib.hid (And.intro hb0 hsz0)
  have HB4 := Lib.hid hb4
  cases hp : m.port p q with
  | none =>
    rw [hp] at HPo
    have HV : Hid (m.svM p q f = m ∧ m.svL p q f = [] ∧ m.svE p q f = 5) := Lib.hid (by unfold FM.svM FM.svL FM.svE; rw [hp]; exact ⟨rfl, rfl, rfl⟩)
    have HB2 := Lib.hid hb2
    clear h hM hR hp hb0 hsz0 hb4 hF
    go_enter Try.func12, Try.ntmps12
    go_wp2_with (first
      | (with_reducible refine at_load 30 (.tmp 4) (by rfl) ?_; refine wpList_load_bk rowG rfl (.tmp 4) rfl w.heap.size 0 rfl hb2 [.int .i64 hs, .int .i64 ps, .slice g.A g.n g.c, .int .i64 (m.ct 0), .int .i64 (m.ct 1), .int .i64 (m.ct 2), .int .i64 (m.ct 3), .int .i64 (m.ct 4)] rfl rfl ?_)
      | (go_at_call 32; refine (HPo.out _).mono ?_; rintro en w6 ⟨rfl, hb6⟩
         have hb2 := HB2.out.below hb6
         have hb4 := HB4.out.below hb6
         have hl4 := hb4.lt
         have HB6 := Lib.hid (below_on HB0.out.1 hb6)
         clear hb6)
      | (with_reducible refine at_store 30 (.tmp 8) (.tmp 25) (by rfl) ?_; refine wpList_store_bk rowG rfl (.tmp 8) (.tmp 25) rfl (w.heap.size + 1) 0 rfl hb4 [.int .i64 hs, .int .i64 ps, .slice g.A g.n g.c, .int .i64 (m.ct 0), .int .i64 (m.ct 1), .int .i64 (m.ct 2), .int .i64 (m.ct 3), .int .i64 (m.ct 4)] rfl rfl (by decide) (one8 _ _ _ _ _ _ _ _ _ _) ?_; rintro w7 hz7 hw7; have h9 := lay_all [.int .i64 0, .int .i64 0, .slice none 0 0, .int .i64 0, .int .i64 0, .int .i64 0, .int .i64 0, .int .i64 0] [.int .i64 hs, .int .i64 ps, .slice g.A g.n g.c, .int .i64 (m.ct 0), .int .i64 (m.ct 1), .int .i64 (m.ct 2), .int .i64 (m.ct 3), .int .i64 (m.ct 4)] rfl; rw [h9] at hz7))
    refine bodyPost_ret (results_ctt rfl rfl (rowG.load hz7 0 (cs := [.int .i64 hs, .int .i64 ps, .slice g.A g.n g.c, .int .i64 (m.ct 0), .int .i64 (m.ct 1), .int .i64 (m.ct 2), .int .i64 (m.ct 3), .int .i64 (m.ct 4)]) rfl rfl)) rfl ?_
    have hb7 : Below w.heap.size w w7 := HB6.out.trans (hw7.below (by omega) HB6.out.size)
    exact ⟨g, none, 0, 0, by rw [HV.out.1, HV.out.2.2]; rfl, by rw [HV.out.1]; exact HH.out.below (hb7.mono (Nat.le_refl _)), by rw [HV.out.2.1]; exact SlP.nil _ _, hb7⟩
  | some a =>
    rw [hp] at HPo
    have hk := FM.port_pt hp
    have hla := hM.len hk hL hH
    have hct := (hM _ _ hk).ok.ct hB
    have hru := hR _ _ hk
    obtain ⟨rs, hG⟩ := h
    obtain ⟨hi, hra, hdim⟩ := hG.row hp
    have hrp := hG.rp _ (List.getElem_mem hi)
    rw [hra] at hrp
    have hsr : rs[gix hs p q] = (rs[gix hs p q].1, a) := by rw [← hra]
    obtain ⟨r0, hr0⟩ : ∃ r0, r0 = rs[gix hs p q].1 := ⟨_, rfl⟩
    rw [← hr0] at hrp hsr
    obtain ⟨ga, oa, hA, hgl, hrow⟩ := hG.cells hi
    rw [hsr] at hrow
    have hgr0 : Gr F (fun k => F k ∨ (w.heap.size ≤ k ∧ k < w.heap.size + 2)) w.heap.size := fun k hk => hk.imp id And.left
    obtain ⟨X0, hX0⟩ : ∃ X0 : Nat → Prop, X0 = fun k => F k ∨ (w.heap.size ≤ k ∧ k < w.heap.size + 2) := ⟨_, rfl⟩
    rw [← hX0] at hgr0
    have HXF : Hid (∀ k, F k → X0 k) := Lib.hid fun k hk => by rw [hX0]; exact .inl hk
    have HXB : Hid (X0 w.heap.size ∧ X0 (w.heap.size + 1)) := Lib.hid (by rw [hX0]; exact ⟨.inr (by omega), .inr (by omega)⟩)
    have HXL : Hid (∀ k, X0 k → k < w.heap.size + 2) := Lib.hid fun k hk => by
      rw [hX0] at hk
      rcases hk with hk | hk
      · have := hF k hk; omega
      · exact hk.2
    have hrp0 := hrp.st (St.ext hb0) hgr0
    have HSV : Hid (∀ W, Below ((w.alloc (.cells ([.int .i64 hs, .int .i64 ps, .slice g.A g.n g.c, .int .i64 (m.ct 0), .int .i64 (m.ct 1), .int .i64 (m.ct 2), .int .i64 (m.ct 3), .int .i64 (m.ct 4)] : List Value).toArray 30)).alloc (.cells ([.int .i64 0, .int .i64 0, .slice none 0 0, .int .i64 0, .int .i64 0, .int .i64 0, .int .i64 0, .int .i64 0] : List Value).toArray 30)).heap.size ((w.alloc (.cells ([.int .i64 hs, .int .i64 ps, .slice g.A g.n g.c, .int .i64 (m.ct 0), .int .i64 (m.ct 1), .int .i64 (m.ct 2), .int .i64 (m.ct 3), .int .i64 (m.ct 4)] : List Value).toArray 30)).alloc (.cells ([.int .i64 0, .int .i64 0, .slice none 0 0, .int .i64 0, .int .i64 0, .int .i64 0, .int .i64 0, .int .i64 0] : List Value).toArray 30)) W → Calls Try.prog 33 #[.agg #[.slice r0.a1 r0.n1 r0.c1, .slice r0.a2 r0.n2 r0.c2, .int .i64 a.lr, .int .i64 a.hr, .int .i64 a.wt, .int .i64 a.run, .int .i64 (a.ct 0), .int .i64 (a.ct 1), .int .i64 (a.ct 2), .int .i64 (a.ct 3), .int .i64 (a.ct 4)], .int .i64 f] W (RServeTo X0 W (a.svM f) (a.svL f) (a.svE f))) := Lib.hid fun W hW => r_serveR (hrp0.below hW) (fun k hk => by have := HXL.out k hk; have := hW.size; omega) hla.1 hla.2 hct hru f
    clear hX0 hgr0 hrp0
    have hin : gix hs p q < g.n := by rw [hG.ln]; exact hi
    have hn64 : g.n ≤ 64 := by
      have h1 : hs * ps ≤ 8 * 8 := Nat.mul_le_mul hG.gd.h8 hG.gd.p8
      rw [hG.ln, hG.dim]; omega
    have HT := Lib.hid (fun (r' : RV) (a' : AM) => hG.turn hp r' a' hi)
    have HLay := Lib.hid (fun (r' : RV) (a' : AM) => flat_set rcl_len rs (gix hs p q) hi (r', a'))
    obtain ⟨gA, gn, gc⟩ := g
    dsimp only at *
    subst hA
    have HG := Lib.hid hG
    have HFS := Lib.hid hF
    have HRow : Hid (∀ W, Below w.heap.size w W → W.rangeAt ga (oa + gix hs p q * 11) (rcl (r0, a))) := Lib.hid fun W hW => range_below hrow hgl hW
    obtain ⟨idx, hidx⟩ : ∃ idx, idx = gix hs p q := ⟨_, rfl⟩
    rw [← hidx] at hin HT HLay HRow HPo
    have hin' : (idx : Int) < gn := by omega
    by_cases hE : a.svE f = 0
    · have HV : Hid (m.svM p q f = (m.sp (ix p q) (a.svM f)).sc 0 (m.ct 0 + (a.svL f).length) ∧ m.svL p q f = a.svL f ∧ m.svE p q f = 0) := Lib.hid (by unfold FM.svM FM.svL FM.svE; rw [hp]; exact ⟨rfl, rfl, hE⟩)
      rw [hE] at HSV
      have HLL := Lib.hid (a.svL_len f)
      have HB2 := Lib.hid hb2
      clear hp hk hla hct hru hi hra hdim hrp hsr hr0 hgl hrow hG hF hb0 hsz0 hb4 hE hM hR hidx
      generalize a.svM f = a' at *
      generalize a.svL f = sl at *
      have h0B : ((0 : Int) == 0) = true := rfl
      go_enter Try.func12, Try.ntmps12
      go_upto_region 7 with (first
        | (with_reducible refine at_load 30 (.tmp 4) (by rfl) ?_; refine wpList_load_bk rowG rfl (.tmp 4) rfl w.heap.size 0 rfl hb2 [.int .i64 hs, .int .i64 ps, .slice (some ⟨ga, oa, none⟩) gn gc, .int .i64 (m.ct 0), .int .i64 (m.ct 1), .int .i64 (m.ct 2), .int .i64 (m.ct 3), .int .i64 (m.ct 4)] rfl rfl ?_)
        | (go_at_call 32; refine (HPo.out _).mono ?_; rintro en w6 ⟨rfl, hb6⟩
           have c2 := (HB2.out.below hb6).cell 2 rfl
           have HX2 := Lib.hid (HB2.out.below hb6)
           have HX4 := Lib.hid (HB4.out.below hb6)
           have HBW := Lib.hid hb6
           have HB6 := Lib.hid (below_on HB0.out.1 hb6)
           have hr6 := HRow.out w6 HB6.out
           clear hb6 hb2)
        | (with_reducible refine at_load 76 (.tmp 30) (by rfl) ?_; refine wpList_load_rng rowR rfl (.tmp 30) rfl ga (oa + idx * 11) rfl hr6 (rcl_len _) ?_)
        | (go_at_call 33; refine (HSV.out _ HBW.out).mono ?_; rintro en w7 ⟨r7, A7, n7, c7, rfl, hr7, hs7, hb7⟩
           have HR7 := Lib.hid (And.intro hr7 (And.intro hs7 hb7))
           clear hr7 hs7 hb7 c2 hr6))
      obtain ⟨w8, hw8⟩ : ∃ W, W = w7.alloc (.cells ([.slice r7.a1 r7.n1 r7.c1, .slice r7.a2 r7.n2 r7.c2, .int .i64 a'.lr, .int .i64 a'.hr, .int .i64 a'.wt, .int .i64 a'.run, .int .i64 (a'.ct 0), .int .i64 (a'.ct 1), .int .i64 (a'.ct 2), .int .i64 (a'.ct 3), .int .i64 (a'.ct 4)] : List Value).toArray 76) := ⟨_, rfl⟩
      have hb78 : Below w7.heap.size w7 w8 := by rw [hw8]; exact (Below.refl _ _).alloc (Nat.le_refl _) _
      have hz13 : Bk w8 76 w7.heap.size [.slice r7.a1 r7.n1 r7.c1, .slice r7.a2 r7.n2 r7.c2, .int .i64 a'.lr, .int .i64 a'.hr, .int .i64 a'.wt, .int .i64 a'.run, .int .i64 (a'.ct 0), .int .i64 (a'.ct 1), .int .i64 (a'.ct 2), .int .i64 (a'.ct 3), .int .i64 (a'.ct 4)] := by rw [hw8]; exact Bk.new w7 76 ([.slice r7.a1 r7.n1 r7.c1, .slice r7.a2 r7.n2 r7.c2, .int .i64 a'.lr, .int .i64 a'.hr, .int .i64 a'.wt, .int .i64 a'.run, .int .i64 (a'.ct 0), .int .i64 (a'.ct 1), .int .i64 (a'.ct 2), .int .i64 (a'.ct 3), .int .i64 (a'.ct 4)])
      have hs78 : w7.heap.size < w8.heap.size := by rw [hw8, World.size_alloc]; omega
      have hs67 := (HX4.out.below HR7.out.2.2).lt
      rw [← hw8]
      have HX28 := Lib.hid ((HX2.out.below HR7.out.2.2).below hb78)
      have HX48 := Lib.hid ((HX4.out.below HR7.out.2.2).below hb78)
      have HR8 := Lib.hid (HR7.out.1.below hb78)
      have HS8 := Lib.hid (HR7.out.2.1.below hb78)
      have HB8 : Hid (Below w.heap.size w w8) := Lib.hid (below_on (below_on HB6.out HR7.out.2.2) hb78)
      have hn7 : n7 ≤ 1 := by rw [← HR7.out.2.1.len]; exact HLL.out
      have HN7 : Hid (sl.length = n7) := Lib.hid HR7.out.2.1.len
      have hlm : LstR 11 76 (w8.heap.size ≤ ·) (w8.alloc (.cells #[] 76)) (some ⟨w8.heap.size, 0, none⟩) 0 0 [] := LstR.made 11 w8 76 #[] 0 0 [] rfl (Nat.le_refl _) (by simp) (Nat.zero_le _) (by simp) (by simp)
      have hr := (HG.out.rd.below HB8.out).alloc (.cells #[] 76)
      have hb2a := HX28.out.alloc (.cells #[] 76)
      have c2 := hb2a.cell 2 rfl
      have hnb : ¬ BlkOf (some ⟨w8.heap.size, 0, none⟩) w.heap.size := by rintro ⟨ad, he, hk⟩; injection he with he; subst he; simp at hk; omega
      have hk12 : (0 + gn) * 120 ≤ 140737488355328 := by omega
      obtain ⟨hc00, hc01⟩ := hc0
      generalize w7.heap.size = b7 at *
      clear hw8 hb78 HR7
      go_wp2_with (first
        | (at_builtin
           refine wpList_append_lstR eltR rfl (.tmp 41) (.tmp 43) rfl rfl hlm.tight rfl hr hk12 ?_
           rintro v w5 ⟨⟨A1, n1, c1, rfl, hl1⟩, hst1⟩
           rw [List.nil_append] at hl1
           have hn1 : n1 = gn := by
             have h1 : (flat rcl rs).length = n1 * 11 := hl1.1
             have h2 : (flat rcl rs).length = gn * 11 := HG.out.rd.1
             omega
           subst hn1
           obtain ⟨gl, ol, rfl, hgl1, -⟩ := hl1.rd.range (i := idx) hin
           have hlb : w8.heap.size ≤ gl := by
             rcases (hl1.blk _ rfl).1 with ⟨ad0, h0, h1⟩ | h1
             · injection h0 with h0; subst h0; exact Nat.le_of_eq h1
             · simp at h1; omega
           have hb2n := hb2a.st hst1 hnb
           have d2 := hb2n.cell 2 rfl
           have f2 := hb2n.free 2
           have hb2s := hb2n.set 2 (.slice (some ⟨gl, ol, none⟩) n1 c1)
           have hl2 : LstR 11 76 (BlkOf (some ⟨gl, ol, none⟩)) (w5.setCell ⟨w.heap.size, 2, none⟩ (.slice (some ⟨gl, ol, none⟩) n1 c1)) (some ⟨gl, ol, none⟩) n1 c1 (flat rcl rs) := hl1.tight.far (by intro ad he hk; injection he with he; subst he; simp at hk; omega) _
           have hstW : St (fun k => k = w.heap.size) w8 (w5.setCell ⟨w.heap.size, 2, none⟩ (.slice (some ⟨gl, ol, none⟩) n1 c1)) := ((St.ext ((Below.refl _ _).alloc (Nat.le_refl _) _)).trans (hst1.mono (F' := fun k => k = w.heap.size ∨ w8.heap.size ≤ k) fun k _ hk => by obtain ⟨ad, he, hk⟩ := hk; injection he with he; subst he; exact .inr (Nat.le_of_eq hk)) (fun k hk => hk)).trans (St.setCell (F := (· = w.heap.size)) w5 (a := ⟨w.heap.size, 2, none⟩) rfl _) (Gr.refl _ _)
           have hz11s := hz13.st hstW (show ¬ b7 = w.heap.size by omega)
           have HStW := Lib.hid hstW
           have HB2S := Lib.hid hb2s
           have HLB := Lib.hid hlb
           have d2s := hb2s.cell 2 rfl
           clear hst1 hl1 hb2n hb2s hlb hlm hr hb2a c2 hstW hk12)
        | (with_reducible refine at_load 76 (.tmp 13) (by rfl) ?_; refine wpList_load_bk rowR rfl (.tmp 13) rfl b7 0 rfl hz11s [.slice r7.a1 r7.n1 r7.c1, .slice r7.a2 r7.n2 r7.c2, .int .i64 a'.lr, .int .i64 a'.hr, .int .i64 a'.wt, .int .i64 a'.run, .int .i64 (a'.ct 0), .int .i64 (a'.ct 1), .int .i64 (a'.ct 2), .int .i64 (a'.ct 3), .int .i64 (a'.ct 4)] rfl rfl ?_)
        | (with_reducible refine at_store 76 (.tmp 50) (.tmp 49) (by rfl) ?_; refine wpList_lay_rp rowR rfl (.tmp 50) (.tmp 49) rfl hl2 hin rfl (r7, a') rfl ?_; rintro w6b hl6 hw6
           have hgl2 := HLB.out
           have hb2n : Bk w6b 30 w.heap.size [.int .i64 hs, .int .i64 ps, .slice (some ⟨gl, ol, none⟩) n1 c1, .int .i64 (m.ct 0), .int .i64 (m.ct 1), .int .i64 (m.ct 2), .int .i64 (m.ct 3), .int .i64 (m.ct 4)] := HB2S.out.wr hw6 (by omega)
           have e3 := hb2n.cell 3 rfl
           have f3 := hb2n.free 3
           have hb3s := hb2n.set 3 (.int .i64 (m.ct 0 + n7))
           have HL6 := Lib.hid hl6
           have HW6 := Lib.hid hw6
           have HX46 := Lib.hid (((HX48.out.st HStW.out (show ¬ w.heap.size + 1 = w.heap.size by omega)).wr hw6 (by omega)).far (p := ⟨w.heap.size, 3, none⟩) (show w.heap.size + 1 ≠ w.heap.size by omega) (.int .i64 (m.ct 0 + n7)))
           clear hl6 hw6 d2s hl2 hz11s)
        | (with_reducible refine at_load 30 (.tmp 4) (by rfl) ?_; refine wpList_load_bk rowG rfl (.tmp 4) rfl w.heap.size 0 rfl hb3s [.int .i64 hs, .int .i64 ps, .slice (some ⟨gl, ol, none⟩) n1 c1, .int .i64 (m.ct 0 + n7), .int .i64 (m.ct 1), .int .i64 (m.ct 2), .int .i64 (m.ct 3), .int .i64 (m.ct 4)] rfl rfl ?_)
        | (with_reducible refine at_store 30 (.tmp 8) (.tmp 59) (by rfl) ?_; refine wpList_store_bk rowG rfl (.tmp 8) (.tmp 59) rfl (w.heap.size + 1) 0 rfl HX46.out [.int .i64 hs, .int .i64 ps, .slice (some ⟨gl, ol, none⟩) n1 c1, .int .i64 (m.ct 0 + n7), .int .i64 (m.ct 1), .int .i64 (m.ct 2), .int .i64 (m.ct 3), .int .i64 (m.ct 4)] rfl rfl (by decide) (one8 _ _ _ _ _ _ _ _ _ _) ?_; rintro w9 hz9 hw9; have h9 := lay_all [.int .i64 0, .int .i64 0, .slice none 0 0, .int .i64 0, .int .i64 0, .int .i64 0, .int .i64 0, .int .i64 0] [.int .i64 hs, .int .i64 ps, .slice (some ⟨gl, ol, none⟩) n1 c1, .int .i64 (m.ct 0 + n7), .int .i64 (m.ct 1), .int .i64 (m.ct 2), .int .i64 (m.ct 3), .int .i64 (m.ct 4)] rfl; rw [h9] at hz9))
      refine bodyPost_ret (results_ctt rfl rfl (rowG.load hz9 0 (cs := [.int .i64 hs, .int .i64 ps, .slice (some ⟨gl, ol, none⟩) n1 c1, .int .i64 (m.ct 0 + n7), .int .i64 (m.ct 1), .int .i64 (m.ct 2), .int .i64 (m.ct 3), .int .i64 (m.ct 4)]) rfl rfl)) rfl ?_
      have hs6 := HW6.out.size
      have hsW := HStW.out.size
      have hx9 : St X0 w8 w9 := (((HStW.out.mono fun k _ hk => by rw [hk]; exact HXB.out.1).more (HW6.out.below (B := w8.heap.size) HLB.out hsW)).trans (St.setCell (F := X0) w6b (a := ⟨w.heap.size, 3, none⟩) HXB.out.1 (.int .i64 (m.ct 0 + n7))) (Gr.refl _ _)).trans (wr_st hw9 HXB.out.2) (Gr.refl _ _)
      have hb89 : Below w.heap.size w8 w9 := ⟨hx9.os, hx9.tape, hx9.output, hx9.size, fun k hk => by
        have h1 := HStW.out.block k (by omega) (by omega)
        have h2 := HW6.out.block k (by omega) (by intro e; injection e with e; have := HLB.out; omega)
        have h3 := Below.heap_setCell w6b ⟨w.heap.size, 3, none⟩ (.int .i64 (m.ct 0 + n7)) k (by show k ≠ w.heap.size; omega)
        have h4 := hw9.block k (by rw [World.size_setCell]; omega) (by intro e; injection e with e; omega)
        exact h4.trans (h3.trans (h2.trans h1))⟩
      have hb9 : Below w.heap.size w w9 := HB8.out.trans hb89
      have hl9 : LstR 11 76 (BlkOf (some ⟨gl, ol, none⟩)) w9 (some ⟨gl, ol, none⟩) n1 c1 (flat rcl (rs.set idx (r7, a'))) := by
        rw [HLay.out r7 a']
        refine (HL6.out.far ?_ (.int .i64 (m.ct 0 + n7))).st (wr_st (X := (· = w.heap.size + 1)) hw9 rfl) ?_
        · intro ad he hk; injection he with he; subst he; simp at hk; have := HLB.out; omega
        · rintro k ⟨ad, he, hk⟩ e; injection he with he; subst he; simp at hk; have := HLB.out; omega
      have hT := HT.out r7 a'
      refine ⟨⟨some ⟨gl, ol, none⟩, n1, c1⟩, A7, n7, c7, by rw [HV.out.1, HV.out.2.2, HN7.out]; rfl, ?_, ?_, hb9⟩
      · rw [HV.out.1]
        refine GpR.sc ⟨rs.set idx (r7, a'), ?_, ?_, hl9.rd, hT.1, ?_, ?_, hT.2⟩ _ _
        · rw [List.length_set]; exact HG.out.ln
        · rw [List.length_set]; exact HG.out.dim
        · intro r hr
          rcases List.mem_or_eq_of_mem_set hr with hr | rfl
          · exact (HG.out.rp r hr).st (St.ext hb9) (Gr.refl _ _)
          · exact (HR8.out.st hx9 (Gr.refl _ _)).st (St.refl _ _) (fun k hk => .inl (HXF.out k hk))
        · intro hn ad he hf
          injection he with he
          subst he
          have := HXL.out _ (HXF.out _ hf)
          have := HLB.out
          simp at *
          omega
      · rw [HV.out.2.1]
        exact (HS8.out.st hx9 (Gr.refl _ _)).st (St.refl _ _) (fun k hk => .inl (HXF.out k hk))
    · have HV := Lib.hid (FM.sv_err hp hE)
      have HS0 := Lib.hid (AM.sv_err hE)
      rw [HS0.out.1, HS0.out.2] at HSV
      obtain ⟨er, her⟩ : ∃ er, er = a.svE f := ⟨_, rfl⟩
      rw [← her] at HSV hE
      have HER := Lib.hid her
      have HB2 := Lib.hid hb2
      clear hp hk hla hct hru hi hra hdim hrp hsr hr0 hgl hrow hG hF hb0 hsz0 hb4 her hM hR hidx
      have heB : (er == 0) = false := by simpa using hE
      go_enter Try.func12, Try.ntmps12
      go_wp2_with (first
        | (with_reducible refine at_load 30 (.tmp 4) (by rfl) ?_; refine wpList_load_bk rowG rfl (.tmp 4) rfl w.heap.size 0 rfl hb2 [.int .i64 hs, .int .i64 ps, .slice (some ⟨ga, oa, none⟩) gn gc, .int .i64 (m.ct 0), .int .i64 (m.ct 1), .int .i64 (m.ct 2), .int .i64 (m.ct 3), .int .i64 (m.ct 4)] rfl rfl ?_)
        | (go_at_call 32; refine (HPo.out _).mono ?_; rintro en w6 ⟨rfl, hb6⟩
           have c2 := (HB2.out.below hb6).cell 2 rfl
           have HX2 := Lib.hid (HB2.out.below hb6)
           have HX4 := Lib.hid (HB4.out.below hb6)
           have HBW := Lib.hid hb6
           have HB6 := Lib.hid (below_on HB0.out.1 hb6)
           have hr6 := HRow.out w6 HB6.out
           clear hb6 hb2)
        | (with_reducible refine at_load 76 (.tmp 30) (by rfl) ?_; refine wpList_load_rng rowR rfl (.tmp 30) rfl ga (oa + idx * 11) rfl hr6 (rcl_len _) ?_)
        | (go_at_call 33; refine (HSV.out _ HBW.out).mono ?_; rintro en w7 ⟨r7, A7, n7, c7, rfl, hr7, hs7, hb7⟩
           have hb2 := (HX2.out.below hb7).alloc (.cells ([.slice r7.a1 r7.n1 r7.c1, .slice r7.a2 r7.n2 r7.c2, .int .i64 a.lr, .int .i64 a.hr, .int .i64 a.wt, .int .i64 a.run, .int .i64 (a.ct 0), .int .i64 (a.ct 1), .int .i64 (a.ct 2), .int .i64 (a.ct 3), .int .i64 (a.ct 4)] : List Value).toArray 76)
           have hb4 := (HX4.out.below hb7).alloc (.cells ([.slice r7.a1 r7.n1 r7.c1, .slice r7.a2 r7.n2 r7.c2, .int .i64 a.lr, .int .i64 a.hr, .int .i64 a.wt, .int .i64 a.run, .int .i64 (a.ct 0), .int .i64 (a.ct 1), .int .i64 (a.ct 2), .int .i64 (a.ct 3), .int .i64 (a.ct 4)] : List Value).toArray 76)
           have hl4 := (HX4.out.below hb7).lt
           have HB8 := Lib.hid (below_on (below_on HB6.out hb7) ((Below.refl _ _).alloc (Nat.le_refl _) (.cells ([.slice r7.a1 r7.n1 r7.c1, .slice r7.a2 r7.n2 r7.c2, .int .i64 a.lr, .int .i64 a.hr, .int .i64 a.wt, .int .i64 a.run, .int .i64 (a.ct 0), .int .i64 (a.ct 1), .int .i64 (a.ct 2), .int .i64 (a.ct 3), .int .i64 (a.ct 4)] : List Value).toArray 76)))
           clear hr7 hs7 hb7 c2 hr6)
        | (with_reducible refine at_store 30 (.tmp 8) (.tmp 39) (by rfl) ?_; refine wpList_store_bk rowG rfl (.tmp 8) (.tmp 39) rfl (w.heap.size + 1) 0 rfl hb4 [.int .i64 hs, .int .i64 ps, .slice (some ⟨ga, oa, none⟩) gn gc, .int .i64 (m.ct 0), .int .i64 (m.ct 1), .int .i64 (m.ct 2), .int .i64 (m.ct 3), .int .i64 (m.ct 4)] rfl rfl (by decide) (one8 _ _ _ _ _ _ _ _ _ _) ?_; rintro w9 hz9 hw9; have h9 := lay_all [.int .i64 0, .int .i64 0, .slice none 0 0, .int .i64 0, .int .i64 0, .int .i64 0, .int .i64 0, .int .i64 0] [.int .i64 hs, .int .i64 ps, .slice (some ⟨ga, oa, none⟩) gn gc, .int .i64 (m.ct 0), .int .i64 (m.ct 1), .int .i64 (m.ct 2), .int .i64 (m.ct 3), .int .i64 (m.ct 4)] rfl; rw [h9] at hz9))
      refine bodyPost_ret (results_ctt rfl rfl (rowG.load hz9 0 (cs := [.int .i64 hs, .int .i64 ps, .slice (some ⟨ga, oa, none⟩) gn gc, .int .i64 (m.ct 0), .int .i64 (m.ct 1), .int .i64 (m.ct 2), .int .i64 (m.ct 3), .int .i64 (m.ct 4)]) rfl rfl)) rfl ?_
      have hb9 : Below w.heap.size w w9 := HB8.out.trans (hw9.below (by omega) HB8.out.size)
      exact ⟨⟨some ⟨ga, oa, none⟩, gn, gc⟩, none, 0, 0, by rw [HV.out.1, HV.out.2.2, ← HER.out]; rfl, by rw [HV.out.1]; exact ⟨rs, HG.out.below (hb9.mono (Nat.le_refl _))⟩, by rw [HV.out.2.1]; exact SlP.nil _ _, hb9⟩
end
end Go.Proofs.Ytboclbanccfbjaa
namespace Go.Proofs.Ytboclbanccfbjaa
set_option linter.unusedSimpArgs false
set_option linter.unusedVariables false
set_option maxRecDepth 100000
open Go.RowKit Go.Shelf
section
variable {P : Program} {w : World} {t e : TypeId} {zs : List Value} {bytes : Nat} {F : Nat → Prop} {A B : Option Addr} {n c m d : Nat} {cs us : List Value}
theorem opwp_append_lstR {ops : Array Oper} {o : Oper} {a : Act} {K : Act → World → Prop} {Q : Exit → Act → World → Prop} (E : EltS P t e zs bytes) (hgd : o.guard = none) (s x : Operand)
    (ho : o.op = .call { callee := .builtin .append, args := #[s, x], argTypes := #[t, t] })
    (hs : a.eval s = .slice A n c) (h : LstR zs.length e F w A n c cs) (hx : a.eval x = .slice B m d) (hu : RdR zs.length w B m d us) (hlen : (n + m) * bytes ≤ 140737488355328)
    (hq : ∀ v w', ApdR zs.length e F w v (cs ++ us) w' → K (a.put o.dst v) w') : if Region.wanted o (yielded ops a.tmps) = true then Oper.wp P o a w K Q else K (a.put o.dst undef) w := by
  obtain ⟨v, w', hrun, hap⟩ := run_append_lstR E o.type h hu hlen
  rw [if_pos (by simp only [Region.wanted, hgd])]
  unfold Oper.wp execOp
  simp only [ho, resolve, invoke, builtin, Sem.run_bind, Sem.run_pure, Result.andThen_ok, List.map_toArray, List.map_cons, List.map_nil, hs, hx, hrun]
  exact hq v w' hap
end
section
variable {F F' : Nat → Prop} {w w' : World} {hs ps L H : Nat} {B : Int} {g : GV} {m : FM} {rs : List (RV × AM)} {a : AM}
/-- A row of packets that reads. -/
def SlN (w : World) (ks : List Pk) (en : Ending) (w' : World) : Prop := ∃ A n c, en = .returned (.slice A n c) ∧ SlP (fun _ => False) w' A n c ks ∧ Below w.heap.size w w'
set_option maxHeartbeats 8000000 in
theorem g_Packets (h : GpR F w hs ps g m) (p q : Int) (hfew : (m.lows p q).length ≤ 1024 ∧ (m.highs p q).length ≤ 1024) :
    Calls Try.prog 20 #[.agg #[.int .i64 hs, .int .i64 ps, .slice g.A g.n g.c, .int .i64 (m.ct 0), .int .i64 (m.ct 1), .int .i64 (m.ct 2), .int .i64 (m.ct 3), .int .i64 (m.ct 4)], .int .i64 p, .int .i64 q] w (SlN w (m.lows p q ++ m.highs p q)) := by
  obtain ⟨rs, h⟩ := h
  have HPo := Lib.hid (fun (W : World) => g_Port (w := W) (g := g) h.gd p q)
  have hbx := Bk.new w 30 [.int .i64 hs, .int .i64 ps, .slice g.A g.n g.c, .int .i64 (m.ct 0), .int .i64 (m.ct 1), .int .i64 (m.ct 2), .int .i64 (m.ct 3), .int .i64 (m.ct 4)]
  have hb1 : Below w.heap.size w (w.alloc (.cells ([.int .i64 hs, .int .i64 ps, .slice g.A g.n g.c, .int .i64 (m.ct 0), .int .i64 (m.ct 1), .int .i64 (m.ct 2), .int .i64 (m.ct 3), .int .i64 (m.ct 4)] : List Value).toArray 30)) := (Below.refl _ w).alloc (Nat.le_refl _) _
  cases hp : m.port p q with
  | none =>
    have HL : Hid (m.lows p q = [] ∧ m.highs p q = []) := Lib.hid (by unfold FM.lows FM.highs; rw [hp]; exact ⟨rfl, rfl⟩)
    rw [hp] at HPo
    have HB1 := Lib.hid hb1
    clear h hp hb1 hfew
    go_enter Try.func20, Try.ntmps20
    go_wp2_with (first
      | (with_reducible refine at_load 30 (.tmp 3) (by rfl) ?_; refine wpList_load_bk rowG rfl (.tmp 3) rfl w.heap.size 0 rfl hbx [.int .i64 hs, .int .i64 ps, .slice g.A g.n g.c, .int .i64 (m.ct 0), .int .i64 (m.ct 1), .int .i64 (m.ct 2), .int .i64 (m.ct 3), .int .i64 (m.ct 4)] rfl rfl ?_)
      | (go_at_call 32; refine (HPo.out _).mono ?_; rintro en w6 ⟨rfl, hb6⟩; have HB6 := Lib.hid (below_on HB1.out hb6); clear hb6))
    go_ret
    exact ⟨none, 0, 0, rfl, by rw [HL.out.1, HL.out.2]; exact SlP.nil _ _, HB6.out⟩
  | some a =>
    obtain ⟨hi, h2, hr⟩ := h.row hp
    obtain ⟨gb, o, hA, hgb, hra⟩ := h.cells hi
    have hrp := h.rp _ (List.getElem_mem hi)
    obtain ⟨r, hre⟩ : ∃ r, r = rs[gix hs p q] := ⟨_, rfl⟩
    rw [← hre] at h2 hra hrp
    have hl1 := hrp.lo.len
    have hl2 := hrp.hi.len
    rw [h2] at hl1 hl2
    have HL : Hid (m.lows p q = a.low ∧ m.highs p q = a.high) := Lib.hid (by unfold FM.lows FM.highs; rw [hp]; exact ⟨rfl, rfl⟩)
    rw [HL.out.1, HL.out.2, hl1, hl2] at hfew
    obtain ⟨qs1, e1, hd1, k1, v1, _⟩ := hrp.lo
    obtain ⟨qs2, e2, hd2, k2, v2, _⟩ := hrp.hi
    rw [h2] at k1 k2
    have HQ : Hid (a.low ++ a.high = (qs1 ++ qs2).map Pv.pk ∧ r.1.n1 + r.1.n2 = (qs1 ++ qs2).length) := Lib.hid ⟨by rw [List.map_append, k1, k2], by rw [List.length_append]; omega⟩
    have HD := Lib.hid (And.intro hd1 hd2)
    have HV : Hid (∀ q ∈ qs1 ++ qs2, PvR (fun _ => False) w q) := Lib.hid fun q hq => by
      rcases List.mem_append.1 hq with h | h
      · exact (v1 q h).mono fun _ h => h.elim
      · exact (v2 q h).mono fun _ h => h.elim
    rw [hp] at HPo
    have hgn : gix hs p q < g.n := by rw [h.ln]; exact hi
    obtain ⟨gi, hgi⟩ : ∃ gi, gi = gix hs p q := ⟨_, rfl⟩
    rw [← hgi] at hgn hra HPo
    have HRA : Hid (∀ W, Below w.heap.size w W → W.rangeAt gb (o + gi * 11) (rcl r)) := Lib.hid fun W hW => range_below hra hgb hW
    have hgI : (gi : Int) < g.n := by omega
    have HB1 := Lib.hid hb1
    have HBX := Lib.hid hbx
    have hy1 : (0 + r.1.n1) * 88 ≤ 140737488355328 := by omega
    have hy2 : (r.1.n1 + r.1.n2) * 88 ≤ 140737488355328 := by omega
    clear h hp hb1 hi h2 hr hra hrp hl1 hl2 hre hgi e1 e2 hd1 hd2 k1 k2 v1 v2 hfew
    obtain ⟨gA, gn, gc⟩ := g
    dsimp only at hA hgn hgI hbx HBX HB1 HPo ⊢
    subst hA
    go_enter Try.func20, Try.ntmps20
    go_upto_region 4 with (first
      | (with_reducible refine at_load 30 (.tmp 3) (by rfl) ?_; refine wpList_load_bk rowG rfl (.tmp 3) rfl w.heap.size 0 rfl hbx [.int .i64 hs, .int .i64 ps, .slice (some ⟨gb, o, none⟩) gn gc, .int .i64 (m.ct 0), .int .i64 (m.ct 1), .int .i64 (m.ct 2), .int .i64 (m.ct 3), .int .i64 (m.ct 4)] rfl rfl ?_)
      | (go_at_call 32; refine (HPo.out _).mono ?_; rintro en w6 ⟨rfl, hb6⟩
         have HB6 := Lib.hid (below_on HB1.out hb6)
         have HX6 := Lib.hid (HBX.out.below hb6)
         clear hb6))
    refine wp_region_E (Below w6.heap.size) (by kernel_rfl) (fun wd hbd hsz => ?_)
    have HBD := Lib.hid (below_on HB6.out hbd)
    have q1 : ∀ W, Below w6.heap.size wd W → W.cell? ⟨w.heap.size, 2, none⟩ = some (.slice (some ⟨gb, o, none⟩) gn gc) := fun W hW => ((HX6.out.below hbd).keep hW (HX6.out.lt)).cell 2 rfl
    have q2 : ∀ W, Below w6.heap.size wd W → W.cell? ⟨gb, o + gi * 11, none⟩ = some (.slice r.1.a1 r.1.n1 r.1.c1) := fun W hW => HRA.out W (HB6.out.trans ((hbd.trans hW).mono HB6.out.size)) 0 _ rfl
    have q3 : ∀ W, Below w6.heap.size wd W → W.cell? ⟨gb, o + gi * 11 + 1, none⟩ = some (.slice r.1.a2 r.1.n2 r.1.c2) := fun W hW => HRA.out W (HB6.out.trans ((hbd.trans hW).mono HB6.out.size)) 1 _ rfl
    have hsw : w6.heap.size ≤ wd.heap.size := hbd.size
    have hlm : LstR 9 65 (wd.heap.size ≤ ·) (wd.alloc (.cells #[] 65)) (some ⟨wd.heap.size, 0, none⟩) 0 0 [] := LstR.made 9 wd 65 #[] 0 0 [] rfl (Nat.le_refl _) (by simp) (Nat.zero_le _) (by simp) (by simp)
    have hr1 := (HD.out.1.below HBD.out).alloc (.cells #[] 65)
    clear hsz
    (refine takeE (belowTr w6.heap.size) 1 (by simp only [List.getElem?_toArray, List.getElem?_cons_succ, List.getElem?_cons_zero]; rfl) (by kernel_rfl) (by kernel_rfl) (by kernel_rfl) (by exact fun _ _ _ h => h) (by first | (refine Or.inl ⟨by rfl, ?_⟩; intro W hW; go_simp; try with_reducible rfl) | exact Or.inr ⟨by rfl, rfl⟩) ?_; try simp only [Act.put, List.setIfInBounds_toArray, List.set_cons_zero, List.set_cons_succ])
    (refine takeE (belowTr w6.heap.size) 3 (by simp only [List.getElem?_toArray, List.getElem?_cons_succ, List.getElem?_cons_zero]; rfl) (by kernel_rfl) (by kernel_rfl) (by kernel_rfl) (by exact fun _ _ _ h => h) (by first | (refine Or.inl ⟨by rfl, ?_⟩; intro W hW; go_simp; try with_reducible rfl) | exact Or.inr ⟨by rfl, rfl⟩) ?_; try simp only [Act.put, List.setIfInBounds_toArray, List.set_cons_zero, List.set_cons_succ])
    (refine takeE (belowTr w6.heap.size) 8 (by simp only [List.getElem?_toArray, List.getElem?_cons_succ, List.getElem?_cons_zero]; rfl) (by kernel_rfl) (by kernel_rfl) (by kernel_rfl) (by exact fun _ _ _ h => h) (by first | (refine Or.inl ⟨by rfl, ?_⟩; intro W hW; go_simp; try with_reducible rfl) | exact Or.inr ⟨by rfl, rfl⟩) ?_; try simp only [Act.put, List.setIfInBounds_toArray, List.set_cons_zero, List.set_cons_succ])
    (refine takeE (belowTr w6.heap.size) 10 (by simp only [List.getElem?_toArray, List.getElem?_cons_succ, List.getElem?_cons_zero]; rfl) (by kernel_rfl) (by kernel_rfl) (by kernel_rfl) (by exact fun _ _ _ h => h) (by first | (refine Or.inl ⟨by rfl, ?_⟩; intro W hW; go_simp; try with_reducible rfl) | exact Or.inr ⟨by rfl, rfl⟩) ?_; try simp only [Act.put, List.setIfInBounds_toArray, List.set_cons_zero, List.set_cons_succ])
    (refine takeE (belowTr w6.heap.size) 2 (by simp only [List.getElem?_toArray, List.getElem?_cons_succ, List.getElem?_cons_zero]; rfl) (by kernel_rfl) (by kernel_rfl) (by kernel_rfl) (by exact fun _ _ _ h => h) (by first | (refine Or.inl ⟨by rfl, ?_⟩; intro W hW; go_simp; try with_reducible rfl) | exact Or.inr ⟨by rfl, rfl⟩) ?_; try simp only [Act.put, List.setIfInBounds_toArray, List.set_cons_zero, List.set_cons_succ])
    (refine takeE (belowTr w6.heap.size) 9 (by simp only [List.getElem?_toArray, List.getElem?_cons_succ, List.getElem?_cons_zero]; rfl) (by kernel_rfl) (by kernel_rfl) (by kernel_rfl) (by exact fun _ _ _ h => h) (by first | (refine Or.inl ⟨by rfl, ?_⟩; intro W hW; go_simp; try with_reducible rfl) | exact Or.inr ⟨by rfl, rfl⟩) ?_; try simp only [Act.put, List.setIfInBounds_toArray, List.set_cons_zero, List.set_cons_succ])
    (refine takeE (belowTr w6.heap.size) 4 (by simp only [List.getElem?_toArray, List.getElem?_cons_succ, List.getElem?_cons_zero]; rfl) (by kernel_rfl) (by kernel_rfl) (by kernel_rfl) (by exact fun _ _ _ h => h) (by first | (refine Or.inl ⟨by rfl, ?_⟩; intro W hW; go_simp; try with_reducible rfl) | exact Or.inr ⟨by rfl, rfl⟩) ?_; try simp only [Act.put, List.setIfInBounds_toArray, List.set_cons_zero, List.set_cons_succ])
    (refine takeE (belowTr w6.heap.size) 11 (by simp only [List.getElem?_toArray, List.getElem?_cons_succ, List.getElem?_cons_zero]; rfl) (by kernel_rfl) (by kernel_rfl) (by kernel_rfl) (by exact fun _ _ _ h => h) (by first | (refine Or.inl ⟨by rfl, ?_⟩; intro W hW; go_simp; try with_reducible rfl) | exact Or.inr ⟨by rfl, rfl⟩) ?_; try simp only [Act.put, List.setIfInBounds_toArray, List.set_cons_zero, List.set_cons_succ])
    (refine takeE (belowTr w6.heap.size) 5 (by simp only [List.getElem?_toArray, List.getElem?_cons_succ, List.getElem?_cons_zero]; rfl) (by kernel_rfl) (by kernel_rfl) (by kernel_rfl) (by exact fun _ _ _ h => h) (by first | (refine Or.inl ⟨by rfl, ?_⟩; intro W hW; go_simp; try with_reducible rfl) | exact Or.inr ⟨by rfl, rfl⟩) ?_; try simp only [Act.put, List.setIfInBounds_toArray, List.set_cons_zero, List.set_cons_succ])
    (refine takeE (belowTr w6.heap.size) 12 (by simp only [List.getElem?_toArray, List.getElem?_cons_succ, List.getElem?_cons_zero]; rfl) (by kernel_rfl) (by kernel_rfl) (by kernel_rfl) (by exact fun _ _ _ h => h) (by first | (refine Or.inl ⟨by rfl, ?_⟩; intro W hW; go_simp; try with_reducible rfl) | exact Or.inr ⟨by rfl, rfl⟩) ?_; try simp only [Act.put, List.setIfInBounds_toArray, List.set_cons_zero, List.set_cons_succ])
    (refine takeE (belowTr w6.heap.size) 6 (by simp only [List.getElem?_toArray, List.getElem?_cons_succ, List.getElem?_cons_zero]; rfl) (by kernel_rfl) (by kernel_rfl) (by kernel_rfl) (by exact fun _ _ _ h => h) (by first | (refine Or.inl ⟨by rfl, ?_⟩; intro W hW; go_simp; try with_reducible rfl) | exact Or.inr ⟨by rfl, rfl⟩) ?_; try simp only [Act.put, List.setIfInBounds_toArray, List.set_cons_zero, List.set_cons_succ])
    (refine takeE (belowTr w6.heap.size) 13 (by simp only [List.getElem?_toArray, List.getElem?_cons_succ, List.getElem?_cons_zero]; rfl) (by kernel_rfl) (by kernel_rfl) (by kernel_rfl) (by exact fun _ _ _ h => h) (by first | (refine Or.inl ⟨by rfl, ?_⟩; intro W hW; go_simp; try with_reducible rfl) | exact Or.inr ⟨by rfl, rfl⟩) ?_; try simp only [Act.put, List.setIfInBounds_toArray, List.set_cons_zero, List.set_cons_succ])
    refine wpAnyE_one (i := 0) (by kernel_rfl) (by simp only [List.getElem?_toArray, List.getElem?_cons_succ, List.getElem?_cons_zero]; rfl) (fun K hK => ?_)
    go_simp
    refine hK.out _ _ ((Below.refl _ _).alloc hsw _) ?_
    clear hK K
    try simp only [Act.put, List.setIfInBounds_toArray, List.set_cons_zero, List.set_cons_succ]
    refine wpAnyE_one (i := 7) (by kernel_rfl) (by simp only [List.getElem?_toArray, List.getElem?_cons_succ, List.getElem?_cons_zero]; rfl) (fun K hK => ?_)
    refine opwp_append_lstR eltP rfl (.tmp 18) (.tmp 24) rfl rfl hlm.tight rfl hr1 hy1 ?_
    rintro v w7 ⟨⟨A1, n1, c1, rfl, hl1⟩, hst1⟩
    rw [List.nil_append] at hl1
    obtain rfl : n1 = r.1.n1 := by
      have h1 : (flat Pv.cl qs1).length = n1 * 9 := hl1.1
      have h2 : (flat Pv.cl qs1).length = r.1.n1 * 9 := HD.out.1.1
      omega
    have hb7 : Below w6.heap.size (wd.alloc (.cells #[] 65)) w7 := hst1.below (by simp; omega) (by rintro k ⟨ad, he, rfl⟩; injection he with he; subst he; exact hsw)
    have hr2 : RdR 9 w7 r.1.a2 r.1.n2 r.1.c2 (flat Pv.cl qs2) := HD.out.2.below (HBD.out.trans ((((Below.refl _ _).alloc (Nat.le_refl _) _ : Below wd.heap.size wd (wd.alloc (.cells #[] 65))).mono (HBD.out.size)).trans (hb7.mono HB6.out.size)))
    have hA1 : ∀ k, BlkOf A1 k → w6.heap.size ≤ k := by
      rintro k ⟨ad, he, rfl⟩
      rcases (hl1.blk ad he).1 with ⟨ad2, h0, h1⟩ | h1
      · injection h0 with h0; subst h0; rw [← h1]; exact hsw
      · simp at h1; omega
    have HB7 := Lib.hid (HBD.out.trans ((((Below.refl _ _).alloc (Nat.le_refl _) _ : Below wd.heap.size wd (wd.alloc (.cells #[] 65))).mono (HBD.out.size)).trans (hb7.mono HB6.out.size)))
    have hs7 : w6.heap.size ≤ w7.heap.size := by have := hb7.size; simp at this; omega
    refine hK.out _ _ hb7 ?_
    clear hK K
    try simp only [Act.put, List.setIfInBounds_toArray, List.set_cons_zero, List.set_cons_succ]
    refine wpAnyE_one (i := 14) (by kernel_rfl) (by simp only [List.getElem?_toArray, List.getElem?_cons_succ, List.getElem?_cons_zero]; rfl) (fun K hK => ?_)
    refine opwp_append_lstR eltP rfl (.tmp 25) (.tmp 31) rfl rfl hl1.tight rfl hr2 hy2 ?_
    rintro v w8 ⟨⟨A2, n2, c2, rfl, hl2⟩, hst2⟩
    have hb8 : Below w6.heap.size w7 w8 := hst2.below hs7 hA1
    have HL8 := Lib.hid hl2
    have HB8 := Lib.hid (HB7.out.trans (hb8.mono HB6.out.size))
    clear hl2 hst2 hl1 hst1 hlm hr1 hr2
    refine hK.out _ _ hb8 ?_
    clear hK K
    try simp only [Act.put, List.setIfInBounds_toArray, List.set_cons_zero, List.set_cons_succ]
    (refine takeE (belowTr w6.heap.size) 15 (by simp only [List.getElem?_toArray, List.getElem?_cons_succ, List.getElem?_cons_zero]; rfl) (by kernel_rfl) (by kernel_rfl) (by kernel_rfl) (by exact fun _ _ _ h => h) (by first | (refine Or.inl ⟨by rfl, ?_⟩; intro W hW; go_simp; try with_reducible rfl) | exact Or.inr ⟨by rfl, rfl⟩) ?_; try simp only [Act.put, List.setIfInBounds_toArray, List.set_cons_zero, List.set_cons_succ])
    refine wpAnyE_done (by kernel_rfl) ?_ _
    clear q1 q2 q3
    go_wp2
    go_ret
    refine ⟨_, _, _, rfl, ⟨qs1 ++ qs2, ?_, ?_, by rw [HL.out.1, HL.out.2]; exact HQ.out.1.symm, fun q hq => (HV.out q hq).below HB8.out, fun _ _ _ h => h.elim⟩, HB8.out⟩
    · have h1 : (flat Pv.cl qs1 ++ flat Pv.cl qs2).length = n2 * 9 := HL8.out.1
      rw [← flat_app, flat_len Pv.cl_len] at h1
      omega
    · rw [flat_app]
      exact HL8.out.rd
end
end Go.Proofs.Ytboclbanccfbjaa
