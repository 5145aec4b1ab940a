/- The reference: the next packet is served. -/
import Derived.Test.YtcmakhkbkfkhkaaP20
set_option linter.unusedSimpArgs false
set_option linter.unusedVariables false
namespace Go.Proofs.Ytcmakhkbkfkhkaa
open Go.RowKit Go.Shelf
/-- F, two boxes behind w, and one more. -/
def By (F : Nat → Prop) (w : World) (g : Nat) (k : Nat) : Prop := F k ∨ k = w.heap.size ∨ k = w.heap.size + 1 ∨ k = g
/-- Where the call stands: its boxes, and what they hold. -/
structure RT (F : Nat → Prop) (w : World) (g : Nat) (W : World) (r : RV) (m : AM) (q : Pv) : Prop where
  b2 : Bk W 30 w.heap.size (r.cl m)
  b4 : Bk W 30 (w.heap.size + 1) [.slice none 0 0, .slice none 0 0, .int .i64 0, .int .i64 0, .int .i64 0, .int .i64 0, .int .i64 0, .int .i64 0, .int .i64 0, .int .i64 0, .int .i64 0]
  b7 : Bk W 37 g q.cl
  hg : w.heap.size + 1 < g
  bl : Below w.heap.size w W
  rp : RpR (By F w g) W r m
  pv : PvR (By F w g) W q
section
variable {F : Nat → Prop} {w W W' : World} {g : Nat} {r : RV} {m : AM} {q : Pv}
theorem RT.bd (h : RT F w g W r m q) (hF : ∀ k, F k → k < w.heap.size) : ∀ k, By F w g k → k < W.heap.size := fun k hk => by
  have := h.b7.lt
  have := h.hg
  have := h.bl.size
  rcases hk with hk | hk | hk | hk
  · have := hF k hk; omega
  · omega
  · omega
  · omega
theorem RT.below (h : RT F w g W r m q) (hb : Below W.heap.size W W') : RT F w g W' r m q :=
  ⟨h.b2.below hb, h.b4.below hb, h.b7.below hb, h.hg, below_on h.bl hb, h.rp.below hb, h.pv.below hb⟩
theorem wr_by {k : Nat} (hk : k = w.heap.size ∨ k = w.heap.size + 1 ∨ k = g) (hw : Wr k W W') : St (By F w g) W W' :=
  ⟨hw.os, hw.tape, hw.output, hw.size, fun j hj hn => hw.block j hj fun e => hn (.inr (by injection e with e; rw [e]; exact hk))⟩
/-- A cell of the port's box is written. -/
theorem RT.cell (h : RT F w g W r m q) (i : Nat) (u : Value) {r' : RV} {m' : AM} (hl : (r.cl m).set i u = r'.cl m') (hr : RpR (By F w g) W r' m') : RT F w g (W.setCell ⟨w.heap.size, i, none⟩ u) r' m' q := by
  have hw := Wr.set W w.heap.size i u
  have hst : St (By F w g) W _ := wr_by (.inl rfl) hw
  have hgg := h.hg
  refine ⟨?_, h.b4.wr hw (by omega), h.b7.wr hw (by omega), h.hg, h.bl.trans (hw.below (Nat.le_refl _) h.bl.size), hr.st hst (Gr.refl _ _), h.pv.st hst (Gr.refl _ _)⟩
  have := h.b2.set i u
  rw [hl] at this
  exact this
/-- What the call tells. -/
def RServeTo (F : Nat → Prop) (w : World) (m' : AM) (l : List Pk) (err : Int) (e : Ending) (w' : World) : Prop :=
  ∃ r' A n c, e = .returned (.tuple #[.agg #[.slice r'.a1 r'.n1 r'.c1, .slice r'.a2 r'.n2 r'.c2, .int .i64 m'.lr, .int .i64 m'.hr, .int .i64 m'.wt, .int .i64 m'.run, .int .i64 (m'.ct 0), .int .i64 (m'.ct 1), .int .i64 (m'.ct 2), .int .i64 (m'.ct 3), .int .i64 (m'.ct 4)], .slice A n c, .int .i64 err]) ∧ RpR F w' r' m' ∧ SlP F w' A n c l ∧ Below w.heap.size w w'
theorem results_ctt {P : Program} {w : World} {fn : Func} {s u t : Tmp} {ty : TypeId} (h : fn.results = #[.cell s ty, .tmp u, .tmp t]) {tmps : Array Value} {a : Addr} (ha : tmps.getD s undef = .pointer (some a)) {v : Value} (hl : (loadVar ty a).run P w = .ok v w) :
    (results fn tmps).run P w = .ok (.tuple #[v, tmps.getD u undef, tmps.getD t undef]) w := by
  rw [Array.getD_eq_getD_getElem?] at ha
  simp [results, h, ha, asAddr_some, hl]
theorem RpR.cutHigh {G : Nat → Prop} (h : RpR G W r m) (hn : 1 ≤ r.n2) : RpR G W ⟨r.a1, r.n1, r.c1, cutR r.a2 r.c2 1 9, r.n2 - 1, r.c2 - 1⟩ (m.put true m.high.tail) := ⟨h.lo, h.hi.cut hn⟩
theorem RpR.cutLow {G : Nat → Prop} (h : RpR G W r m) (hn : 1 ≤ r.n1) : RpR G W ⟨cutR r.a1 r.c1 1 9, r.n1 - 1, r.c1 - 1, r.a2, r.n2, r.c2⟩ (m.put false m.low.tail) := ⟨h.lo.cut hn, h.hi⟩
set_option maxHeartbeats 4000000 in
set_option maxRecDepth 100000 in
theorem r_serve_bad (h : RpR F w r m) (f : Int) (hf : f < 1 ∨ 4 < f) :
    Calls Try.prog 11 #[.agg #[.slice r.a1 r.n1 r.c1, .slice r.a2 r.n2 r.c2, .int .i64 m.lr, .int .i64 m.hr, .int .i64 m.wt, .int .i64 m.run, .int .i64 (m.ct 0), .int .i64 (m.ct 1), .int .i64 (m.ct 2), .int .i64 (m.ct 3), .int .i64 (m.ct 4)], .int .i64 f] w (RServeTo F w m [] 80) := by
  have HR := Lib.hid h
  have h2 := (Bk.new w 30 [.slice r.a1 r.n1 r.c1, .slice r.a2 r.n2 r.c2, .int .i64 m.lr, .int .i64 m.hr, .int .i64 m.wt, .int .i64 m.run, .int .i64 (m.ct 0), .int .i64 (m.ct 1), .int .i64 (m.ct 2), .int .i64 (m.ct 3), .int .i64 (m.ct 4)]).alloc (.cells (List.toArray [.slice none 0 0, .slice none 0 0, .int .i64 0, .int .i64 0, .int .i64 0, .int .i64 0, .int .i64 0, .int .i64 0, .int .i64 0, .int .i64 0, .int .i64 0]) 30)
  have h4 : Bk ((w.alloc (.cells (List.toArray [.slice r.a1 r.n1 r.c1, .slice r.a2 r.n2 r.c2, .int .i64 m.lr, .int .i64 m.hr, .int .i64 m.wt, .int .i64 m.run, .int .i64 (m.ct 0), .int .i64 (m.ct 1), .int .i64 (m.ct 2), .int .i64 (m.ct 3), .int .i64 (m.ct 4)]) 30)).alloc (.cells (List.toArray [.slice none 0 0, .slice none 0 0, .int .i64 0, .int .i64 0, .int .i64 0, .int .i64 0, .int .i64 0, .int .i64 0, .int .i64 0, .int .i64 0, .int .i64 0]) 30)) 30 (w.heap.size + 1) [.slice none 0 0, .slice none 0 0, .int .i64 0, .int .i64 0, .int .i64 0, .int .i64 0, .int .i64 0, .int .i64 0, .int .i64 0, .int .i64 0, .int .i64 0] := by
    have := Bk.new (w.alloc (.cells (List.toArray [.slice r.a1 r.n1 r.c1, .slice r.a2 r.n2 r.c2, .int .i64 m.lr, .int .i64 m.hr, .int .i64 m.wt, .int .i64 m.run, .int .i64 (m.ct 0), .int .i64 (m.ct 1), .int .i64 (m.ct 2), .int .i64 (m.ct 3), .int .i64 (m.ct 4)]) 30)) 30 [.slice none 0 0, .slice none 0 0, .int .i64 0, .int .i64 0, .int .i64 0, .int .i64 0, .int .i64 0, .int .i64 0, .int .i64 0, .int .i64 0, .int .i64 0]
    simpa using this
  have hb := ((Below.refl w.heap.size w).alloc (Nat.le_refl _) (.cells (List.toArray [.slice r.a1 r.n1 r.c1, .slice r.a2 r.n2 r.c2, .int .i64 m.lr, .int .i64 m.hr, .int .i64 m.wt, .int .i64 m.run, .int .i64 (m.ct 0), .int .i64 (m.ct 1), .int .i64 (m.ct 2), .int .i64 (m.ct 3), .int .i64 (m.ct 4)]) 30)).alloc (by simp) (.cells (List.toArray [.slice none 0 0, .slice none 0 0, .int .i64 0, .int .i64 0, .int .i64 0, .int .i64 0, .int .i64 0, .int .i64 0, .int .i64 0, .int .i64 0, .int .i64 0]) 30)
  clear h
  rcases (by omega : f < 1 ∨ (1 ≤ f ∧ 4 < f)) with h1 | ⟨h1, h3⟩
  all_goals
    clear hf
    go_enter Try.func11, Try.ntmps11
    go_wp2_with (first
      | (with_reducible refine at_load 30 (.tmp 2) (by rfl) ?_; refine wpList_load_rp rowR rfl (.tmp 2) rfl r m w.heap.size rfl h2 ?_)
      | (with_reducible refine at_store 30 (.tmp 4) (.tmp 16) (by rfl) ?_; refine wpList_put_rp rowR rfl (.tmp 4) (.tmp 16) rfl (w.heap.size + 1) rfl h4 rfl r m rfl ?_; rintro w5 h45 hw5))
    refine bodyPost_ret (results_ctt rfl rfl (rowR.load h45 0 (cs := r.cl m) rfl rfl)) rfl ?_
    have hb5 := Wr.on hb hw5 (by omega)
    exact ⟨r, none, 0, 0, by kernel_rfl, HR.out.below hb5, SlP.nil _ _, hb5⟩
set_option maxHeartbeats 4000000 in
set_option maxRecDepth 100000 in
theorem r_serve_none (h : RpR F w r m) (hF : ∀ k, F k → k < w.heap.size) (f : Int) (hf1 : 1 ≤ f) (hf2 : f ≤ 4) (hx : m.sel m.hiB = []) :
    Calls Try.prog 11 #[.agg #[.slice r.a1 r.n1 r.c1, .slice r.a2 r.n2 r.c2, .int .i64 m.lr, .int .i64 m.hr, .int .i64 m.wt, .int .i64 m.run, .int .i64 (m.ct 0), .int .i64 (m.ct 1), .int .i64 (m.ct 2), .int .i64 (m.ct 3), .int .i64 (m.ct 4)], .int .i64 f] w (RServeTo F w m [] 7) := by
  have HR := Lib.hid h
  have HP : Hid (∀ o o', Calls Try.prog 33 #[.agg #[.slice r.a1 r.n1 r.c1, .slice r.a2 r.n2 r.c2, .int .i64 m.lr, .int .i64 m.hr, .int .i64 m.wt, .int .i64 m.run, .int .i64 (m.ct 0), .int .i64 (m.ct 1), .int .i64 (m.ct 2), .int .i64 (m.ct 3), .int .i64 (m.ct 4)]] ((w.alloc o).alloc o') fun e w' => ∃ q' : Pv, e = .returned (.tuple #[.agg #[.int .i64 q'.h.kd, .int .i64 q'.h.fl, .int .i64 q'.h.pa, .int .i64 q'.h.sr, .int .i64 q'.h.ds, .int .i64 q'.h.cn, .int .i64 q'.h.sq, .int .i64 q'.h.pu, .slice q'.A q'.n q'.c], .bool false]) ∧ Below ((w.alloc o).alloc o').heap.size ((w.alloc o).alloc o') w') := Lib.hid fun o o' => by
    have := r_peek (h.below (((Below.refl _ _).alloc (Nat.le_refl _) o).alloc (by simp) o')) (fun k hk => by have := hF k hk; simp; omega)
    rw [hx] at this
    exact this.mono fun e w' ⟨q', h1, h2, h3, h4⟩ => ⟨q', h1, h4⟩
  clear h hx hF
  go_enter Try.func11, Try.ntmps11
  go_wp2_with fail
  refine (HP.out _ _).mono ?_
  rintro e w1 ⟨q1, rfl, hb1⟩
  obtain ⟨h2, h4, hc⟩ := new2 hb1
  have h2a := h2.alloc (.cells (List.toArray [.int .i64 q1.h.kd, .int .i64 q1.h.fl, .int .i64 q1.h.pa, .int .i64 q1.h.sr, .int .i64 q1.h.ds, .int .i64 q1.h.cn, .int .i64 q1.h.sq, .int .i64 q1.h.pu, .slice q1.A q1.n q1.c]) 37)
  have h4a := h4.alloc (.cells (List.toArray [.int .i64 q1.h.kd, .int .i64 q1.h.fl, .int .i64 q1.h.pa, .int .i64 q1.h.sr, .int .i64 q1.h.ds, .int .i64 q1.h.cn, .int .i64 q1.h.sq, .int .i64 q1.h.pu, .slice q1.A q1.n q1.c]) 37)
  have hca := hc.alloc hc.size (.cells (List.toArray [.int .i64 q1.h.kd, .int .i64 q1.h.fl, .int .i64 q1.h.pa, .int .i64 q1.h.sr, .int .i64 q1.h.ds, .int .i64 q1.h.cn, .int .i64 q1.h.sq, .int .i64 q1.h.pu, .slice q1.A q1.n q1.c]) 37)
  clear hb1 h2 h4 hc
  go_wp2_with (first
    | (with_reducible refine at_load 30 (.tmp 2) (by rfl) ?_; refine wpList_load_rp rowR rfl (.tmp 2) rfl r m w.heap.size rfl h2a ?_)
    | (with_reducible refine at_store 30 (.tmp 4) (.tmp 24) (by rfl) ?_; refine wpList_put_rp rowR rfl (.tmp 4) (.tmp 24) rfl (w.heap.size + 1) rfl h4a rfl r m rfl ?_; rintro w5 h45 hw5))
  refine bodyPost_ret (results_ctt rfl rfl (rowR.load h45 0 (cs := r.cl m) rfl rfl)) rfl ?_
  have hb5 := Wr.on hca hw5 (by omega)
  exact ⟨r, none, 0, 0, by kernel_rfl, HR.out.below hb5, SlP.nil _ _, hb5⟩
set_option maxHeartbeats 4000000 in
set_option maxRecDepth 100000 in
theorem r_serve_hp1 (h : RpR F w r m) (hF : ∀ k, F k → k < w.heap.size) (hl : m.low.length ≤ 1024) (hh : m.high.length ≤ 1024) (hct : ∀ k, -1 ≤ m.ct k ∧ m.ct k ≤ 1000000) (hru : m.run ≤ 1024) (hi : m.hiB = true) (hlp : 0 < m.low.length) (x : Pk) (l : List Pk) (hx : m.sel m.hiB = x :: l) :
    Calls Try.prog 11 #[.agg #[.slice r.a1 r.n1 r.c1, .slice r.a2 r.n2 r.c2, .int .i64 m.lr, .int .i64 m.hr, .int .i64 m.wt, .int .i64 m.run, .int .i64 (m.ct 0), .int .i64 (m.ct 1), .int .i64 (m.ct 2), .int .i64 (m.ct 3), .int .i64 (m.ct 4)], .int .i64 1] w (RServeTo F w (m.srv 1 true x l) [x] 0) := by
  rw [hi] at hx
  have hlm : m.high = x :: l := hx
  have hn1 : 1 ≤ r.n2 := by rw [← h.hi.len, hlm]; simp
  have hnm : r.n2 ≤ 2000 := by rw [← h.hi.len]; exact Nat.le_trans hh (by decide)
  have hnr : m.nrun true = m.run + 1 := by simp [AM.nrun, hlp]
  have HM : Hid (m.took true l = (({ m with run := m.run + 1 } : AM).put true m.high.tail)) := Lib.hid (by unfold AM.took; rw [hnr]; show _ = ({ m with run := m.run + 1 } : AM).put true m.high.tail; rw [hlm]; rfl)
  have HTL : Hid (({ m with run := m.run + 1 } : AM).put true m.high.tail = (({ m with run := m.run + 1 } : AM).put true m.high.tail) ∧ m.high.tail = l) := Lib.hid ⟨rfl, by rw [hlm]; rfl⟩
  have hlw : (0 : Int) < r.n1 := by have := h.lo.len; omega
  have hwr : IntKind.i64.wrap ((m.run : Int) + 1) = (m.run : Int) + 1 := by rw [IntKind.wrap_i64]; omega
  have hwc : IntKind.i64.wrap (m.ct 0 + 1) = m.ct 0 + 1 := by have := hct 0; rw [IntKind.wrap_i64]; omega
  have hb0 : ∀ o o', Below w.heap.size w ((w.alloc o).alloc o') := fun o o' => ((Below.refl _ _).alloc (Nat.le_refl _) o).alloc (by simp) o'
  have hg0 : Gr F (fun k => F k ∨ k = w.heap.size ∨ k = w.heap.size + 1) w.heap.size := fun k hk => hk.imp id (by omega)
  have HP : Hid (∀ o o', Calls Try.prog 33 #[.agg #[.slice r.a1 r.n1 r.c1, .slice r.a2 r.n2 r.c2, .int .i64 m.lr, .int .i64 m.hr, .int .i64 m.wt, .int .i64 m.run, .int .i64 (m.ct 0), .int .i64 (m.ct 1), .int .i64 (m.ct 2), .int .i64 (m.ct 3), .int .i64 (m.ct 4)]] ((w.alloc o).alloc o') fun e w' => ∃ q' : Pv, e = .returned (.tuple #[.agg #[.int .i64 q'.h.kd, .int .i64 q'.h.fl, .int .i64 q'.h.pa, .int .i64 q'.h.sr, .int .i64 q'.h.ds, .int .i64 q'.h.cn, .int .i64 q'.h.sq, .int .i64 q'.h.pu, .slice q'.A q'.n q'.c], .bool true]) ∧ q'.pk = x ∧ PvR (fun k => F k ∨ k = w.heap.size ∨ k = w.heap.size + 1) w' q' ∧ Below ((w.alloc o).alloc o').heap.size ((w.alloc o).alloc o') w') := Lib.hid fun o o' => by
    have := r_peek ((h.st (St.refl F w) hg0).below (hb0 o o')) (fun k hk => by simp; rcases hk with hk | hk; (have := hF k hk; omega); omega)
    rw [hi, hx] at this
    exact this
  have HR := Lib.hid (h.st (St.refl F w) hg0)
  have HF := Lib.hid hF
  have HI := Lib.hid hi
  have hcut : ∀ W, (Instr.slice 27 (.slice r.a2 r.n2 r.c2) (some (.int .i64 1)) none none).run Try.prog W = .ok (.slice (cutR r.a2 r.c2 1 9) (r.n2 - 1) (r.c2 - 1)) W := fun W => eltP.run_cut r.a2 r.n2 r.c2 1 hn1 (by obtain ⟨qs, z1, z2, z3, z4, z5⟩ := h.hi; exact z2.2.1) W
  have HCUT := Lib.hid hcut
  have HNM := Lib.hid hnm
  have HN1 := Lib.hid hn1
  clear h hF hl hh hct hru hi hx hlm hb0 hg0 hnr hnm hn1 hcut hlp
  generalize hcutX : cutR r.a2 r.c2 1 9 = cX at *
  have HCX := Lib.hid hcutX
  clear hcutX
  have hcut := HCUT.out
  go_enter Try.func11, Try.ntmps11
  go_wp2_with fail
  refine (HP.out _ _).mono ?_
  rintro e w1 ⟨q, rfl, hk1, hq1, hb1⟩
  obtain ⟨h2, h4, hc⟩ := new2 hb1
  have HK := Lib.hid hk1
  have hba := (Below.refl w1.heap.size w1).alloc (Nat.le_refl _) (.cells (List.toArray [.int .i64 q.h.kd, .int .i64 q.h.fl, .int .i64 q.h.pa, .int .i64 q.h.sr, .int .i64 q.h.ds, .int .i64 q.h.cn, .int .i64 q.h.sq, .int .i64 q.h.pu, .slice q.A q.n q.c]) 37)
  have hgy : Gr (fun k => F k ∨ k = w.heap.size ∨ k = w.heap.size + 1) (By F w w1.heap.size) w1.heap.size := fun k hk => by
    rcases hk with hk | hk | hk | hk
    · exact .inl (.inl hk)
    · exact .inl (.inr (.inl hk))
    · exact .inl (.inr (.inr hk))
    · exact .inr (by omega)
  have HS0 : Hid (RT F w w1.heap.size (w1.alloc (.cells (List.toArray [.int .i64 q.h.kd, .int .i64 q.h.fl, .int .i64 q.h.pa, .int .i64 q.h.sr, .int .i64 q.h.ds, .int .i64 q.h.cn, .int .i64 q.h.sq, .int .i64 q.h.pu, .slice q.A q.n q.c]) 37)) r m q) := Lib.hid ⟨h2.below hba, h4.below hba, Bk.new w1 37 [.int .i64 q.h.kd, .int .i64 q.h.fl, .int .i64 q.h.pa, .int .i64 q.h.sr, .int .i64 q.h.ds, .int .i64 q.h.cn, .int .i64 q.h.sq, .int .i64 q.h.pu, .slice q.A q.n q.c], h4.lt, hc.alloc hc.size _, ((HR.out.below hc).st (St.refl _ _) hgy).below hba, (hq1.gr hgy).below hba⟩
  have h2a := HS0.out.b2
  clear hk1 hq1 hb1 h2 h4 hc hba hgy HP HR
  go_wp2_with (with_reducible refine at_load 30 (.tmp 2) (by rfl) ?_; refine wpList_load_rp rowR rfl (.tmp 2) rfl r m w.heap.size rfl h2a ?_)
  refine (r_high HS0.out.rp).mono ?_
  rintro e w2 ⟨rfl, hb2⟩
  rw [HI.out]
  have HS1 := Lib.hid (HS0.out.below hb2)
  have HSa := Lib.hid (HS1.out.cell 5 (.int .i64 ((m.run : Int) + 1)) (r' := r) (m' := { m with run := m.run + 1 }) rfl ⟨HS1.out.rp.lo, HS1.out.rp.hi⟩)
  have HSb := Lib.hid (HSa.out.cell 1 (.slice (cX) (r.n2 - 1) (r.c2 - 1)) (r' := ⟨r.a1, r.n1, r.c1, cX, r.n2 - 1, r.c2 - 1⟩) (m' := (({ m with run := m.run + 1 } : AM).put true m.high.tail)) rfl (by have := HSa.out.rp.cutHigh HN1.out; rw [HCX.out] at this; exact this))
  have a0 := HS1.out.b2.cell 0 rfl
  have a1 := HS1.out.b2.cell 1 rfl
  have a5 := HS1.out.b2.cell 5 rfl
  have a6 := HS1.out.b2.cell 6 rfl
  have f0 := HS1.out.b2.free 0
  have f1 := HS1.out.b2.free 1
  have f5 := HS1.out.b2.free 5
  have f6 := HS1.out.b2.free 6
  have h7 := HSb.out.b7
  clear hb2 h2a HS0
  have HSe := Lib.hid (HSb.out.cell 6 (.int .i64 (m.ct 0 + 1)) (r' := ⟨r.a1, r.n1, r.c1, cX, r.n2 - 1, r.c2 - 1⟩) (m' := { (({ m with run := m.run + 1 } : AM).put true m.high.tail) with ct := up m.ct 0 (m.ct 0 + 1) }) rfl ⟨HSb.out.rp.lo, HSb.out.rp.hi⟩)
  go_wp2_with fail
  refine wp_region_E (St (· = w.heap.size + 1)) (by kernel_rfl) (fun wd hbd hsz => ?_)
  have HSE := Lib.hid (HSe.out.below hbd)
  have HSE4 := Lib.hid HSE.out.b4
  have bt0' : ¬ (w.heap.size = w.heap.size + 1) := by omega
  have bt7 : ¬ (w1.heap.size = w.heap.size + 1) := by have := HSE.out.hg; omega
  clear hsz
  (refine takeE (St.tr (· = w.heap.size + 1)) 0 (by simp only [List.getElem?_toArray, List.getElem?_cons_succ, List.getElem?_cons_zero]; rfl) (by kernel_rfl) (by kernel_rfl) (by kernel_rfl) (by exact fun _ _ _ h => h) (by first | (refine Or.inl ⟨by rfl, ?_⟩; intro W hW; exact exec_load_bk rowR (.tmp 2) rfl w.heap.size 0 rfl (HSE.out.b2.st hW bt0') (RV.cl ⟨r.a1, r.n1, r.c1, cX, r.n2 - 1, r.c2 - 1⟩ { (({ m with run := m.run + 1 } : AM).put true m.high.tail) with ct := up m.ct 0 (m.ct 0 + 1) }) rfl rfl) | exact Or.inr ⟨by rfl, rfl⟩) ?_; try simp only [Act.put, List.setIfInBounds_toArray, List.set_cons_zero, List.set_cons_succ])
  (refine takeE (St.tr (· = w.heap.size + 1)) 1 (by simp only [List.getElem?_toArray, List.getElem?_cons_succ, List.getElem?_cons_zero]; rfl) (by kernel_rfl) (by kernel_rfl) (by kernel_rfl) (by exact fun _ _ _ h => h) (by first | (refine Or.inl ⟨by rfl, ?_⟩; intro W hW; exact exec_loadRow rowP (.tmp 7) rfl w1.heap.size 0 rfl q (Bk.pk (HSE.out.b7.st hW bt7))) | exact Or.inr ⟨by rfl, rfl⟩) ?_; try simp only [Act.put, List.setIfInBounds_toArray, List.set_cons_zero, List.set_cons_succ])
  refine wpAnyE_two (i := 2) (j := 3) (by kernel_rfl) (by simp only [List.getElem?_toArray, List.getElem?_cons_succ, List.getElem?_cons_zero]; rfl) (by simp only [List.getElem?_toArray, List.getElem?_cons_succ, List.getElem?_cons_zero]; rfl) (fun K hK => ?_) (fun K hK => ?_)
  ·
    go_simp
    have hrd0 := RdR.one wd 37 q.cl q.cl_one
    have HB7 := Lib.hid ((Below.refl wd.heap.size wd).alloc (Nat.le_refl _) (.cells (List.toArray [.int .i64 q.h.kd, .int .i64 q.h.fl, .int .i64 q.h.pa, .int .i64 q.h.sr, .int .i64 q.h.ds, .int .i64 q.h.cn, .int .i64 q.h.sq, .int .i64 q.h.pu, .slice q.A q.n q.c]) 37))
    have HE4 := Lib.hid (HSE.out.b4.below HB7.out)
    refine hK.out _ _ (St.ext HB7.out) ?_
    clear hK K
    try simp only [Act.put, List.setIfInBounds_toArray, List.set_cons_zero, List.set_cons_succ]
    refine wpAnyE_one (i := 3) (by kernel_rfl) (by simp only [List.getElem?_toArray, List.getElem?_cons_succ, List.getElem?_cons_zero]; rfl) (fun K hK => ?_)
    refine opwp_store_bk rowR rfl (.tmp 4) (.tmp 76) rfl (w.heap.size + 1) 0 rfl HE4.out (RV.cl ⟨r.a1, r.n1, r.c1, cX, r.n2 - 1, r.c2 - 1⟩ { (({ m with run := m.run + 1 } : AM).put true m.high.tail) with ct := up m.ct 0 (m.ct 0 + 1) }) rfl rfl (by decide) (RV.cl_one _ _) ?_
    intro w5 h45 hw5
    rw [lay_all _ _ (by rfl)] at h45
    have H45 := Lib.hid h45
    have HZ5 : Hid (St (· = w.heap.size + 1) (wd.alloc (.cells (List.toArray [.int .i64 q.h.kd, .int .i64 q.h.fl, .int .i64 q.h.pa, .int .i64 q.h.sr, .int .i64 q.h.ds, .int .i64 q.h.cn, .int .i64 q.h.sq, .int .i64 q.h.pu, .slice q.A q.n q.c]) 37)) w5) := Lib.hid ⟨hw5.os, hw5.tape, hw5.output, hw5.size, fun k hk hn => hw5.block k hk (by intro e; injection e with e; exact hn e)⟩
    have HFW := Lib.hid ((St.ext HB7.out).trans HZ5.out (Gr.refl _ _))
    have HRD := Lib.hid (hrd0.st HZ5.out (fun _ ad he => by injection he with he; subst he; have := HSE.out.b4.lt; show ¬ (wd.heap.size = w.heap.size + 1); omega))
    have HGB := Lib.hid (Nat.le_refl wd.heap.size)
    refine hK.out _ _ HZ5.out ?_
    clear hK K
    try simp only [Act.put, List.setIfInBounds_toArray, List.set_cons_zero, List.set_cons_succ]
    (refine takeE (St.tr (· = w.heap.size + 1)) 4 (by simp only [List.getElem?_toArray, List.getElem?_cons_succ, List.getElem?_cons_zero]; rfl) (by kernel_rfl) (by kernel_rfl) (by kernel_rfl) (by exact fun _ _ _ h => h) (by first | (refine Or.inl ⟨by rfl, ?_⟩; intro W hW; go_simp; try with_reducible rfl) | exact Or.inr ⟨by rfl, rfl⟩) ?_; try simp only [Act.put, List.setIfInBounds_toArray, List.set_cons_zero, List.set_cons_succ])
    (refine takeE (St.tr (· = w.heap.size + 1)) 5 (by simp only [List.getElem?_toArray, List.getElem?_cons_succ, List.getElem?_cons_zero]; rfl) (by kernel_rfl) (by kernel_rfl) (by kernel_rfl) (by exact fun _ _ _ h => h) (by first | (refine Or.inl ⟨by rfl, ?_⟩; intro W hW; go_simp; try with_reducible rfl) | exact Or.inr ⟨by rfl, rfl⟩) ?_; try simp only [Act.put, List.setIfInBounds_toArray, List.set_cons_zero, List.set_cons_succ])
    refine wpAnyE_done (by kernel_rfl) ?_ _
    go_wp2
    have HSF := HFW.out.mono (F' := By F w w1.heap.size) fun k _ hk => .inr (.inr (.inl hk))
    have hrp := HSE.out.rp.st HSF (Gr.refl _ _)
    have hpv := HSE.out.pv.st HSF (Gr.refl _ _)
    have HFIN : Hid (m.srv 1 true x l = { (({ m with run := m.run + 1 } : AM).put true m.high.tail) with ct := up m.ct 0 (m.ct 0 + 1) }) := Lib.hid (by have e : m.srv 1 true x l = { m.took true l with ct := up m.ct 0 (m.ct 0 + 1) } := (by simp [AM.srv]); rw [e, HM.out])
    refine bodyPost_ret (results_ctt rfl rfl (rowR.load H45.out 0 (cs := RV.cl ⟨r.a1, r.n1, r.c1, cX, r.n2 - 1, r.c2 - 1⟩ { (({ m with run := m.run + 1 } : AM).put true m.high.tail) with ct := up m.ct 0 (m.ct 0 + 1) }) rfl rfl)) rfl ?_
    rw [HFIN.out]
    first
      | (refine ⟨⟨r.a1, r.n1, r.c1, cX, r.n2 - 1, r.c2 - 1⟩, some ⟨wd.heap.size, 0, none⟩, 1, 1, by kernel_rfl, (show RpR F _ _ _ from ⟨hrp.lo.mono fun k hk => .inl hk, hrp.hi.mono fun k hk => .inl hk⟩), ⟨[q], rfl, by rw [flat_one]; exact HRD.out, by show [q.pk] = _; rw [HK.out], fun y hy => by rw [List.mem_singleton.1 hy]; exact hpv.mono fun k hk => .inl hk, fun _ ad he hf => by injection he with he; subst he; have h1 := HF.out _ hf; have h2 := HSE.out.bl.size; have h3 := HGB.out; dsimp only at h1; omega⟩, HSE.out.bl.trans (HFW.out.below HSE.out.bl.size (fun k hk => by omega))⟩)
      | (refine ⟨⟨r.a1, r.n1, r.c1, cX, r.n2 - 1, r.c2 - 1⟩, some ⟨w5.heap.size, 0, none⟩, 1, 1, by kernel_rfl, (show RpR F _ _ _ from ⟨hrp.lo.mono fun k hk => .inl hk, hrp.hi.mono fun k hk => .inl hk⟩), ⟨[q], rfl, by rw [flat_one]; exact HRD.out, by show [q.pk] = _; rw [HK.out], fun y hy => by rw [List.mem_singleton.1 hy]; exact hpv.mono fun k hk => .inl hk, fun _ ad he hf => by injection he with he; subst he; have h1 := HF.out _ hf; have h2 := HSE.out.bl.size; have h3 := HGB.out; dsimp only at h1; omega⟩, HSE.out.bl.trans (HFW.out.below HSE.out.bl.size (fun k hk => by omega))⟩)
  ·
    refine opwp_store_bk rowR rfl (.tmp 4) (.tmp 76) rfl (w.heap.size + 1) 0 rfl HSE4.out (RV.cl ⟨r.a1, r.n1, r.c1, cX, r.n2 - 1, r.c2 - 1⟩ { (({ m with run := m.run + 1 } : AM).put true m.high.tail) with ct := up m.ct 0 (m.ct 0 + 1) }) rfl rfl (by decide) (RV.cl_one _ _) ?_
    intro w5 h45 hw5
    rw [lay_all _ _ (by rfl)] at h45
    have H45a := Lib.hid h45
    have HZ5 : Hid (St (· = w.heap.size + 1) wd w5) := Lib.hid ⟨hw5.os, hw5.tape, hw5.output, hw5.size, fun k hk hn => hw5.block k hk (by intro e; injection e with e; exact hn e)⟩
    refine hK.out _ _ HZ5.out ?_
    clear hK K
    try simp only [Act.put, List.setIfInBounds_toArray, List.set_cons_zero, List.set_cons_succ]
    refine wpAnyE_one (i := 2) (by kernel_rfl) (by simp only [List.getElem?_toArray, List.getElem?_cons_succ, List.getElem?_cons_zero]; rfl) (fun K hK => ?_)
    go_simp
    have HRD := Lib.hid (RdR.one w5 37 q.cl q.cl_one)
    have HB7 := Lib.hid ((Below.refl w5.heap.size w5).alloc (Nat.le_refl _) (.cells (List.toArray [.int .i64 q.h.kd, .int .i64 q.h.fl, .int .i64 q.h.pa, .int .i64 q.h.sr, .int .i64 q.h.ds, .int .i64 q.h.cn, .int .i64 q.h.sq, .int .i64 q.h.pu, .slice q.A q.n q.c]) 37))
    have H45 := Lib.hid (H45a.out.below HB7.out)
    have HFW := Lib.hid (HZ5.out.trans (St.ext HB7.out) (Gr.refl _ _))
    have HGB := Lib.hid HZ5.out.size
    refine hK.out _ _ (St.ext HB7.out) ?_
    clear hK K
    try simp only [Act.put, List.setIfInBounds_toArray, List.set_cons_zero, List.set_cons_succ]
    (refine takeE (St.tr (· = w.heap.size + 1)) 4 (by simp only [List.getElem?_toArray, List.getElem?_cons_succ, List.getElem?_cons_zero]; rfl) (by kernel_rfl) (by kernel_rfl) (by kernel_rfl) (by exact fun _ _ _ h => h) (by first | (refine Or.inl ⟨by rfl, ?_⟩; intro W hW; go_simp; try with_reducible rfl) | exact Or.inr ⟨by rfl, rfl⟩) ?_; try simp only [Act.put, List.setIfInBounds_toArray, List.set_cons_zero, List.set_cons_succ])
    (refine takeE (St.tr (· = w.heap.size + 1)) 5 (by simp only [List.getElem?_toArray, List.getElem?_cons_succ, List.getElem?_cons_zero]; rfl) (by kernel_rfl) (by kernel_rfl) (by kernel_rfl) (by exact fun _ _ _ h => h) (by first | (refine Or.inl ⟨by rfl, ?_⟩; intro W hW; go_simp; try with_reducible rfl) | exact Or.inr ⟨by rfl, rfl⟩) ?_; try simp only [Act.put, List.setIfInBounds_toArray, List.set_cons_zero, List.set_cons_succ])
    refine wpAnyE_done (by kernel_rfl) ?_ _
    go_wp2
    have HSF := HFW.out.mono (F' := By F w w1.heap.size) fun k _ hk => .inr (.inr (.inl hk))
    have hrp := HSE.out.rp.st HSF (Gr.refl _ _)
    have hpv := HSE.out.pv.st HSF (Gr.refl _ _)
    have HFIN : Hid (m.srv 1 true x l = { (({ m with run := m.run + 1 } : AM).put true m.high.tail) with ct := up m.ct 0 (m.ct 0 + 1) }) := Lib.hid (by have e : m.srv 1 true x l = { m.took true l with ct := up m.ct 0 (m.ct 0 + 1) } := (by simp [AM.srv]); rw [e, HM.out])
    refine bodyPost_ret (results_ctt rfl rfl (rowR.load H45.out 0 (cs := RV.cl ⟨r.a1, r.n1, r.c1, cX, r.n2 - 1, r.c2 - 1⟩ { (({ m with run := m.run + 1 } : AM).put true m.high.tail) with ct := up m.ct 0 (m.ct 0 + 1) }) rfl rfl)) rfl ?_
    rw [HFIN.out]
    first
      | (refine ⟨⟨r.a1, r.n1, r.c1, cX, r.n2 - 1, r.c2 - 1⟩, some ⟨wd.heap.size, 0, none⟩, 1, 1, by kernel_rfl, (show RpR F _ _ _ from ⟨hrp.lo.mono fun k hk => .inl hk, hrp.hi.mono fun k hk => .inl hk⟩), ⟨[q], rfl, by rw [flat_one]; exact HRD.out, by show [q.pk] = _; rw [HK.out], fun y hy => by rw [List.mem_singleton.1 hy]; exact hpv.mono fun k hk => .inl hk, fun _ ad he hf => by injection he with he; subst he; have h1 := HF.out _ hf; have h2 := HSE.out.bl.size; have h3 := HGB.out; dsimp only at h1; omega⟩, HSE.out.bl.trans (HFW.out.below HSE.out.bl.size (fun k hk => by omega))⟩)
      | (refine ⟨⟨r.a1, r.n1, r.c1, cX, r.n2 - 1, r.c2 - 1⟩, some ⟨w5.heap.size, 0, none⟩, 1, 1, by kernel_rfl, (show RpR F _ _ _ from ⟨hrp.lo.mono fun k hk => .inl hk, hrp.hi.mono fun k hk => .inl hk⟩), ⟨[q], rfl, by rw [flat_one]; exact HRD.out, by show [q.pk] = _; rw [HK.out], fun y hy => by rw [List.mem_singleton.1 hy]; exact hpv.mono fun k hk => .inl hk, fun _ ad he hf => by injection he with he; subst he; have h1 := HF.out _ hf; have h2 := HSE.out.bl.size; have h3 := HGB.out; dsimp only at h1; omega⟩, HSE.out.bl.trans (HFW.out.below HSE.out.bl.size (fun k hk => by omega))⟩)
set_option maxHeartbeats 4000000 in
set_option maxRecDepth 100000 in
theorem r_serve_h1 (h : RpR F w r m) (hF : ∀ k, F k → k < w.heap.size) (hl : m.low.length ≤ 1024) (hh : m.high.length ≤ 1024) (hct : ∀ k, -1 ≤ m.ct k ∧ m.ct k ≤ 1000000) (hru : m.run ≤ 1024) (hi : m.hiB = true) (hlp : m.low.length = 0) (x : Pk) (l : List Pk) (hx : m.sel m.hiB = x :: l) :
    Calls Try.prog 11 #[.agg #[.slice r.a1 r.n1 r.c1, .slice r.a2 r.n2 r.c2, .int .i64 m.lr, .int .i64 m.hr, .int .i64 m.wt, .int .i64 m.run, .int .i64 (m.ct 0), .int .i64 (m.ct 1), .int .i64 (m.ct 2), .int .i64 (m.ct 3), .int .i64 (m.ct 4)], .int .i64 1] w (RServeTo F w (m.srv 1 true x l) [x] 0) := by
  rw [hi] at hx
  have hlm : m.high = x :: l := hx
  have hn1 : 1 ≤ r.n2 := by rw [← h.hi.len, hlm]; simp
  have hnm : r.n2 ≤ 2000 := by rw [← h.hi.len]; exact Nat.le_trans hh (by decide)
  have hnr : m.nrun true = 0 := by simp [AM.nrun, hlp]
  have HM : Hid (m.took true l = (({ m with run := 0 } : AM).put true m.high.tail)) := Lib.hid (by unfold AM.took; rw [hnr]; show _ = ({ m with run := 0 } : AM).put true m.high.tail; rw [hlm]; rfl)
  have HTL : Hid (({ m with run := 0 } : AM).put true m.high.tail = (({ m with run := 0 } : AM).put true m.high.tail) ∧ m.high.tail = l) := Lib.hid ⟨rfl, by rw [hlm]; rfl⟩
  have hlw : (r.n1 : Int) ≤ 0 := by have := h.lo.len; omega
  have hwr : IntKind.i64.wrap ((m.run : Int) + 1) = (m.run : Int) + 1 := by rw [IntKind.wrap_i64]; omega
  have hwc : IntKind.i64.wrap (m.ct 0 + 1) = m.ct 0 + 1 := by have := hct 0; rw [IntKind.wrap_i64]; omega
  have hb0 : ∀ o o', Below w.heap.size w ((w.alloc o).alloc o') := fun o o' => ((Below.refl _ _).alloc (Nat.le_refl _) o).alloc (by simp) o'
  have hg0 : Gr F (fun k => F k ∨ k = w.heap.size ∨ k = w.heap.size + 1) w.heap.size := fun k hk => hk.imp id (by omega)
  have HP : Hid (∀ o o', Calls Try.prog 33 #[.agg #[.slice r.a1 r.n1 r.c1, .slice r.a2 r.n2 r.c2, .int .i64 m.lr, .int .i64 m.hr, .int .i64 m.wt, .int .i64 m.run, .int .i64 (m.ct 0), .int .i64 (m.ct 1), .int .i64 (m.ct 2), .int .i64 (m.ct 3), .int .i64 (m.ct 4)]] ((w.alloc o).alloc o') fun e w' => ∃ q' : Pv, e = .returned (.tuple #[.agg #[.int .i64 q'.h.kd, .int .i64 q'.h.fl, .int .i64 q'.h.pa, .int .i64 q'.h.sr, .int .i64 q'.h.ds, .int .i64 q'.h.cn, .int .i64 q'.h.sq, .int .i64 q'.h.pu, .slice q'.A q'.n q'.c], .bool true]) ∧ q'.pk = x ∧ PvR (fun k => F k ∨ k = w.heap.size ∨ k = w.heap.size + 1) w' q' ∧ Below ((w.alloc o).alloc o').heap.size ((w.alloc o).alloc o') w') := Lib.hid fun o o' => by
    have := r_peek ((h.st (St.refl F w) hg0).below (hb0 o o')) (fun k hk => by simp; rcases hk with hk | hk; (have := hF k hk; omega); omega)
    rw [hi, hx] at this
    exact this
  have HR := Lib.hid (h.st (St.refl F w) hg0)
  have HF := Lib.hid hF
  have HI := Lib.hid hi
  have hcut : ∀ W, (Instr.slice 27 (.slice r.a2 r.n2 r.c2) (some (.int .i64 1)) none none).run Try.prog W = .ok (.slice (cutR r.a2 r.c2 1 9) (r.n2 - 1) (r.c2 - 1)) W := fun W => eltP.run_cut r.a2 r.n2 r.c2 1 hn1 (by obtain ⟨qs, z1, z2, z3, z4, z5⟩ := h.hi; exact z2.2.1) W
  have HCUT := Lib.hid hcut
  have HNM := Lib.hid hnm
  have HN1 := Lib.hid hn1
  clear h hF hl hh hct hru hi hx hlm hb0 hg0 hnr hnm hn1 hcut hlp
  generalize hcutX : cutR r.a2 r.c2 1 9 = cX at *
  have HCX := Lib.hid hcutX
  clear hcutX
  have hcut := HCUT.out
  go_enter Try.func11, Try.ntmps11
  go_wp2_with fail
  refine (HP.out _ _).mono ?_
  rintro e w1 ⟨q, rfl, hk1, hq1, hb1⟩
  obtain ⟨h2, h4, hc⟩ := new2 hb1
  have HK := Lib.hid hk1
  have hba := (Below.refl w1.heap.size w1).alloc (Nat.le_refl _) (.cells (List.toArray [.int .i64 q.h.kd, .int .i64 q.h.fl, .int .i64 q.h.pa, .int .i64 q.h.sr, .int .i64 q.h.ds, .int .i64 q.h.cn, .int .i64 q.h.sq, .int .i64 q.h.pu, .slice q.A q.n q.c]) 37)
  have hgy : Gr (fun k => F k ∨ k = w.heap.size ∨ k = w.heap.size + 1) (By F w w1.heap.size) w1.heap.size := fun k hk => by
    rcases hk with hk | hk | hk | hk
    · exact .inl (.inl hk)
    · exact .inl (.inr (.inl hk))
    · exact .inl (.inr (.inr hk))
    · exact .inr (by omega)
  have HS0 : Hid (RT F w w1.heap.size (w1.alloc (.cells (List.toArray [.int .i64 q.h.kd, .int .i64 q.h.fl, .int .i64 q.h.pa, .int .i64 q.h.sr, .int .i64 q.h.ds, .int .i64 q.h.cn, .int .i64 q.h.sq, .int .i64 q.h.pu, .slice q.A q.n q.c]) 37)) r m q) := Lib.hid ⟨h2.below hba, h4.below hba, Bk.new w1 37 [.int .i64 q.h.kd, .int .i64 q.h.fl, .int .i64 q.h.pa, .int .i64 q.h.sr, .int .i64 q.h.ds, .int .i64 q.h.cn, .int .i64 q.h.sq, .int .i64 q.h.pu, .slice q.A q.n q.c], h4.lt, hc.alloc hc.size _, ((HR.out.below hc).st (St.refl _ _) hgy).below hba, (hq1.gr hgy).below hba⟩
  have h2a := HS0.out.b2
  clear hk1 hq1 hb1 h2 h4 hc hba hgy HP HR
  go_wp2_with (with_reducible refine at_load 30 (.tmp 2) (by rfl) ?_; refine wpList_load_rp rowR rfl (.tmp 2) rfl r m w.heap.size rfl h2a ?_)
  refine (r_high HS0.out.rp).mono ?_
  rintro e w2 ⟨rfl, hb2⟩
  rw [HI.out]
  have HS1 := Lib.hid (HS0.out.below hb2)
  have HSa := Lib.hid (HS1.out.cell 5 (.int .i64 (0)) (r' := r) (m' := { m with run := 0 }) rfl ⟨HS1.out.rp.lo, HS1.out.rp.hi⟩)
  have HSb := Lib.hid (HSa.out.cell 1 (.slice (cX) (r.n2 - 1) (r.c2 - 1)) (r' := ⟨r.a1, r.n1, r.c1, cX, r.n2 - 1, r.c2 - 1⟩) (m' := (({ m with run := 0 } : AM).put true m.high.tail)) rfl (by have := HSa.out.rp.cutHigh HN1.out; rw [HCX.out] at this; exact this))
  have a0 := HS1.out.b2.cell 0 rfl
  have a1 := HS1.out.b2.cell 1 rfl
  have a5 := HS1.out.b2.cell 5 rfl
  have a6 := HS1.out.b2.cell 6 rfl
  have f0 := HS1.out.b2.free 0
  have f1 := HS1.out.b2.free 1
  have f5 := HS1.out.b2.free 5
  have f6 := HS1.out.b2.free 6
  have h7 := HSb.out.b7
  clear hb2 h2a HS0
  have HSe := Lib.hid (HSb.out.cell 6 (.int .i64 (m.ct 0 + 1)) (r' := ⟨r.a1, r.n1, r.c1, cX, r.n2 - 1, r.c2 - 1⟩) (m' := { (({ m with run := 0 } : AM).put true m.high.tail) with ct := up m.ct 0 (m.ct 0 + 1) }) rfl ⟨HSb.out.rp.lo, HSb.out.rp.hi⟩)
  go_wp2_with fail
  refine wp_region_E (St (· = w.heap.size + 1)) (by kernel_rfl) (fun wd hbd hsz => ?_)
  have HSE := Lib.hid (HSe.out.below hbd)
  have HSE4 := Lib.hid HSE.out.b4
  have bt0' : ¬ (w.heap.size = w.heap.size + 1) := by omega
  have bt7 : ¬ (w1.heap.size = w.heap.size + 1) := by have := HSE.out.hg; omega
  clear hsz
  (refine takeE (St.tr (· = w.heap.size + 1)) 0 (by simp only [List.getElem?_toArray, List.getElem?_cons_succ, List.getElem?_cons_zero]; rfl) (by kernel_rfl) (by kernel_rfl) (by kernel_rfl) (by exact fun _ _ _ h => h) (by first | (refine Or.inl ⟨by rfl, ?_⟩; intro W hW; exact exec_load_bk rowR (.tmp 2) rfl w.heap.size 0 rfl (HSE.out.b2.st hW bt0') (RV.cl ⟨r.a1, r.n1, r.c1, cX, r.n2 - 1, r.c2 - 1⟩ { (({ m with run := 0 } : AM).put true m.high.tail) with ct := up m.ct 0 (m.ct 0 + 1) }) rfl rfl) | exact Or.inr ⟨by rfl, rfl⟩) ?_; try simp only [Act.put, List.setIfInBounds_toArray, List.set_cons_zero, List.set_cons_succ])
  (refine takeE (St.tr (· = w.heap.size + 1)) 1 (by simp only [List.getElem?_toArray, List.getElem?_cons_succ, List.getElem?_cons_zero]; rfl) (by kernel_rfl) (by kernel_rfl) (by kernel_rfl) (by exact fun _ _ _ h => h) (by first | (refine Or.inl ⟨by rfl, ?_⟩; intro W hW; exact exec_loadRow rowP (.tmp 7) rfl w1.heap.size 0 rfl q (Bk.pk (HSE.out.b7.st hW bt7))) | exact Or.inr ⟨by rfl, rfl⟩) ?_; try simp only [Act.put, List.setIfInBounds_toArray, List.set_cons_zero, List.set_cons_succ])
  refine wpAnyE_two (i := 2) (j := 3) (by kernel_rfl) (by simp only [List.getElem?_toArray, List.getElem?_cons_succ, List.getElem?_cons_zero]; rfl) (by simp only [List.getElem?_toArray, List.getElem?_cons_succ, List.getElem?_cons_zero]; rfl) (fun K hK => ?_) (fun K hK => ?_)
  ·
    go_simp
    have hrd0 := RdR.one wd 37 q.cl q.cl_one
    have HB7 := Lib.hid ((Below.refl wd.heap.size wd).alloc (Nat.le_refl _) (.cells (List.toArray [.int .i64 q.h.kd, .int .i64 q.h.fl, .int .i64 q.h.pa, .int .i64 q.h.sr, .int .i64 q.h.ds, .int .i64 q.h.cn, .int .i64 q.h.sq, .int .i64 q.h.pu, .slice q.A q.n q.c]) 37))
    have HE4 := Lib.hid (HSE.out.b4.below HB7.out)
    refine hK.out _ _ (St.ext HB7.out) ?_
    clear hK K
    try simp only [Act.put, List.setIfInBounds_toArray, List.set_cons_zero, List.set_cons_succ]
    refine wpAnyE_one (i := 3) (by kernel_rfl) (by simp only [List.getElem?_toArray, List.getElem?_cons_succ, List.getElem?_cons_zero]; rfl) (fun K hK => ?_)
    refine opwp_store_bk rowR rfl (.tmp 4) (.tmp 76) rfl (w.heap.size + 1) 0 rfl HE4.out (RV.cl ⟨r.a1, r.n1, r.c1, cX, r.n2 - 1, r.c2 - 1⟩ { (({ m with run := 0 } : AM).put true m.high.tail) with ct := up m.ct 0 (m.ct 0 + 1) }) rfl rfl (by decide) (RV.cl_one _ _) ?_
    intro w5 h45 hw5
    rw [lay_all _ _ (by rfl)] at h45
    have H45 := Lib.hid h45
    have HZ5 : Hid (St (· = w.heap.size + 1) (wd.alloc (.cells (List.toArray [.int .i64 q.h.kd, .int .i64 q.h.fl, .int .i64 q.h.pa, .int .i64 q.h.sr, .int .i64 q.h.ds, .int .i64 q.h.cn, .int .i64 q.h.sq, .int .i64 q.h.pu, .slice q.A q.n q.c]) 37)) w5) := Lib.hid ⟨hw5.os, hw5.tape, hw5.output, hw5.size, fun k hk hn => hw5.block k hk (by intro e; injection e with e; exact hn e)⟩
    have HFW := Lib.hid ((St.ext HB7.out).trans HZ5.out (Gr.refl _ _))
    have HRD := Lib.hid (hrd0.st HZ5.out (fun _ ad he => by injection he with he; subst he; have := HSE.out.b4.lt; show ¬ (wd.heap.size = w.heap.size + 1); omega))
    have HGB := Lib.hid (Nat.le_refl wd.heap.size)
    refine hK.out _ _ HZ5.out ?_
    clear hK K
    try simp only [Act.put, List.setIfInBounds_toArray, List.set_cons_zero, List.set_cons_succ]
    (refine takeE (St.tr (· = w.heap.size + 1)) 4 (by simp only [List.getElem?_toArray, List.getElem?_cons_succ, List.getElem?_cons_zero]; rfl) (by kernel_rfl) (by kernel_rfl) (by kernel_rfl) (by exact fun _ _ _ h => h) (by first | (refine Or.inl ⟨by rfl, ?_⟩; intro W hW; go_simp; try with_reducible rfl) | exact Or.inr ⟨by rfl, rfl⟩) ?_; try simp only [Act.put, List.setIfInBounds_toArray, List.set_cons_zero, List.set_cons_succ])
    (refine takeE (St.tr (· = w.heap.size + 1)) 5 (by simp only [List.getElem?_toArray, List.getElem?_cons_succ, List.getElem?_cons_zero]; rfl) (by kernel_rfl) (by kernel_rfl) (by kernel_rfl) (by exact fun _ _ _ h => h) (by first | (refine Or.inl ⟨by rfl, ?_⟩; intro W hW; go_simp; try with_reducible rfl) | exact Or.inr ⟨by rfl, rfl⟩) ?_; try simp only [Act.put, List.setIfInBounds_toArray, List.set_cons_zero, List.set_cons_succ])
    refine wpAnyE_done (by kernel_rfl) ?_ _
    go_wp2
    have HSF := HFW.out.mono (F' := By F w w1.heap.size) fun k _ hk => .inr (.inr (.inl hk))
    have hrp := HSE.out.rp.st HSF (Gr.refl _ _)
    have hpv := HSE.out.pv.st HSF (Gr.refl _ _)
    have HFIN : Hid (m.srv 1 true x l = { (({ m with run := 0 } : AM).put true m.high.tail) with ct := up m.ct 0 (m.ct 0 + 1) }) := Lib.hid (by have e : m.srv 1 true x l = { m.took true l with ct := up m.ct 0 (m.ct 0 + 1) } := (by simp [AM.srv]); rw [e, HM.out])
    refine bodyPost_ret (results_ctt rfl rfl (rowR.load H45.out 0 (cs := RV.cl ⟨r.a1, r.n1, r.c1, cX, r.n2 - 1, r.c2 - 1⟩ { (({ m with run := 0 } : AM).put true m.high.tail) with ct := up m.ct 0 (m.ct 0 + 1) }) rfl rfl)) rfl ?_
    rw [HFIN.out]
    first
      | (refine ⟨⟨r.a1, r.n1, r.c1, cX, r.n2 - 1, r.c2 - 1⟩, some ⟨wd.heap.size, 0, none⟩, 1, 1, by kernel_rfl, (show RpR F _ _ _ from ⟨hrp.lo.mono fun k hk => .inl hk, hrp.hi.mono fun k hk => .inl hk⟩), ⟨[q], rfl, by rw [flat_one]; exact HRD.out, by show [q.pk] = _; rw [HK.out], fun y hy => by rw [List.mem_singleton.1 hy]; exact hpv.mono fun k hk => .inl hk, fun _ ad he hf => by injection he with he; subst he; have h1 := HF.out _ hf; have h2 := HSE.out.bl.size; have h3 := HGB.out; dsimp only at h1; omega⟩, HSE.out.bl.trans (HFW.out.below HSE.out.bl.size (fun k hk => by omega))⟩)
      | (refine ⟨⟨r.a1, r.n1, r.c1, cX, r.n2 - 1, r.c2 - 1⟩, some ⟨w5.heap.size, 0, none⟩, 1, 1, by kernel_rfl, (show RpR F _ _ _ from ⟨hrp.lo.mono fun k hk => .inl hk, hrp.hi.mono fun k hk => .inl hk⟩), ⟨[q], rfl, by rw [flat_one]; exact HRD.out, by show [q.pk] = _; rw [HK.out], fun y hy => by rw [List.mem_singleton.1 hy]; exact hpv.mono fun k hk => .inl hk, fun _ ad he hf => by injection he with he; subst he; have h1 := HF.out _ hf; have h2 := HSE.out.bl.size; have h3 := HGB.out; dsimp only at h1; omega⟩, HSE.out.bl.trans (HFW.out.below HSE.out.bl.size (fun k hk => by omega))⟩)
  ·
    refine opwp_store_bk rowR rfl (.tmp 4) (.tmp 76) rfl (w.heap.size + 1) 0 rfl HSE4.out (RV.cl ⟨r.a1, r.n1, r.c1, cX, r.n2 - 1, r.c2 - 1⟩ { (({ m with run := 0 } : AM).put true m.high.tail) with ct := up m.ct 0 (m.ct 0 + 1) }) rfl rfl (by decide) (RV.cl_one _ _) ?_
    intro w5 h45 hw5
    rw [lay_all _ _ (by rfl)] at h45
    have H45a := Lib.hid h45
    have HZ5 : Hid (St (· = w.heap.size + 1) wd w5) := Lib.hid ⟨hw5.os, hw5.tape, hw5.output, hw5.size, fun k hk hn => hw5.block k hk (by intro e; injection e with e; exact hn e)⟩
    refine hK.out _ _ HZ5.out ?_
    clear hK K
    try simp only [Act.put, List.setIfInBounds_toArray, List.set_cons_zero, List.set_cons_succ]
    refine wpAnyE_one (i := 2) (by kernel_rfl) (by simp only [List.getElem?_toArray, List.getElem?_cons_succ, List.getElem?_cons_zero]; rfl) (fun K hK => ?_)
    go_simp
    have HRD := Lib.hid (RdR.one w5 37 q.cl q.cl_one)
    have HB7 := Lib.hid ((Below.refl w5.heap.size w5).alloc (Nat.le_refl _) (.cells (List.toArray [.int .i64 q.h.kd, .int .i64 q.h.fl, .int .i64 q.h.pa, .int .i64 q.h.sr, .int .i64 q.h.ds, .int .i64 q.h.cn, .int .i64 q.h.sq, .int .i64 q.h.pu, .slice q.A q.n q.c]) 37))
    have H45 := Lib.hid (H45a.out.below HB7.out)
    have HFW := Lib.hid (HZ5.out.trans (St.ext HB7.out) (Gr.refl _ _))
    have HGB := Lib.hid HZ5.out.size
    refine hK.out _ _ (St.ext HB7.out) ?_
    clear hK K
    try simp only [Act.put, List.setIfInBounds_toArray, List.set_cons_zero, List.set_cons_succ]
    (refine takeE (St.tr (· = w.heap.size + 1)) 4 (by simp only [List.getElem?_toArray, List.getElem?_cons_succ, List.getElem?_cons_zero]; rfl) (by kernel_rfl) (by kernel_rfl) (by kernel_rfl) (by exact fun _ _ _ h => h) (by first | (refine Or.inl ⟨by rfl, ?_⟩; intro W hW; go_simp; try with_reducible rfl) | exact Or.inr ⟨by rfl, rfl⟩) ?_; try simp only [Act.put, List.setIfInBounds_toArray, List.set_cons_zero, List.set_cons_succ])
    (refine takeE (St.tr (· = w.heap.size + 1)) 5 (by simp only [List.getElem?_toArray, List.getElem?_cons_succ, List.getElem?_cons_zero]; rfl) (by kernel_rfl) (by kernel_rfl) (by kernel_rfl) (by exact fun _ _ _ h => h) (by first | (refine Or.inl ⟨by rfl, ?_⟩; intro W hW; go_simp; try with_reducible rfl) | exact Or.inr ⟨by rfl, rfl⟩) ?_; try simp only [Act.put, List.setIfInBounds_toArray, List.set_cons_zero, List.set_cons_succ])
    refine wpAnyE_done (by kernel_rfl) ?_ _
    go_wp2
    have HSF := HFW.out.mono (F' := By F w w1.heap.size) fun k _ hk => .inr (.inr (.inl hk))
    have hrp := HSE.out.rp.st HSF (Gr.refl _ _)
    have hpv := HSE.out.pv.st HSF (Gr.refl _ _)
    have HFIN : Hid (m.srv 1 true x l = { (({ m with run := 0 } : AM).put true m.high.tail) with ct := up m.ct 0 (m.ct 0 + 1) }) := Lib.hid (by have e : m.srv 1 true x l = { m.took true l with ct := up m.ct 0 (m.ct 0 + 1) } := (by simp [AM.srv]); rw [e, HM.out])
    refine bodyPost_ret (results_ctt rfl rfl (rowR.load H45.out 0 (cs := RV.cl ⟨r.a1, r.n1, r.c1, cX, r.n2 - 1, r.c2 - 1⟩ { (({ m with run := 0 } : AM).put true m.high.tail) with ct := up m.ct 0 (m.ct 0 + 1) }) rfl rfl)) rfl ?_
    rw [HFIN.out]
    first
      | (refine ⟨⟨r.a1, r.n1, r.c1, cX, r.n2 - 1, r.c2 - 1⟩, some ⟨wd.heap.size, 0, none⟩, 1, 1, by kernel_rfl, (show RpR F _ _ _ from ⟨hrp.lo.mono fun k hk => .inl hk, hrp.hi.mono fun k hk => .inl hk⟩), ⟨[q], rfl, by rw [flat_one]; exact HRD.out, by show [q.pk] = _; rw [HK.out], fun y hy => by rw [List.mem_singleton.1 hy]; exact hpv.mono fun k hk => .inl hk, fun _ ad he hf => by injection he with he; subst he; have h1 := HF.out _ hf; have h2 := HSE.out.bl.size; have h3 := HGB.out; dsimp only at h1; omega⟩, HSE.out.bl.trans (HFW.out.below HSE.out.bl.size (fun k hk => by omega))⟩)
      | (refine ⟨⟨r.a1, r.n1, r.c1, cX, r.n2 - 1, r.c2 - 1⟩, some ⟨w5.heap.size, 0, none⟩, 1, 1, by kernel_rfl, (show RpR F _ _ _ from ⟨hrp.lo.mono fun k hk => .inl hk, hrp.hi.mono fun k hk => .inl hk⟩), ⟨[q], rfl, by rw [flat_one]; exact HRD.out, by show [q.pk] = _; rw [HK.out], fun y hy => by rw [List.mem_singleton.1 hy]; exact hpv.mono fun k hk => .inl hk, fun _ ad he hf => by injection he with he; subst he; have h1 := HF.out _ hf; have h2 := HSE.out.bl.size; have h3 := HGB.out; dsimp only at h1; omega⟩, HSE.out.bl.trans (HFW.out.below HSE.out.bl.size (fun k hk => by omega))⟩)
set_option maxHeartbeats 4000000 in
set_option maxRecDepth 100000 in
theorem r_serve_l1 (h : RpR F w r m) (hF : ∀ k, F k → k < w.heap.size) (hl : m.low.length ≤ 1024) (hh : m.high.length ≤ 1024) (hct : ∀ k, -1 ≤ m.ct k ∧ m.ct k ≤ 1000000) (hru : m.run ≤ 1024) (hi : m.hiB = false)  (x : Pk) (l : List Pk) (hx : m.sel m.hiB = x :: l) :
    Calls Try.prog 11 #[.agg #[.slice r.a1 r.n1 r.c1, .slice r.a2 r.n2 r.c2, .int .i64 m.lr, .int .i64 m.hr, .int .i64 m.wt, .int .i64 m.run, .int .i64 (m.ct 0), .int .i64 (m.ct 1), .int .i64 (m.ct 2), .int .i64 (m.ct 3), .int .i64 (m.ct 4)], .int .i64 1] w (RServeTo F w (m.srv 1 false x l) [x] 0) := by
  rw [hi] at hx
  have hlm : m.low = x :: l := hx
  have hn1 : 1 ≤ r.n1 := by rw [← h.lo.len, hlm]; simp
  have hnm : r.n1 ≤ 2000 := by rw [← h.lo.len]; exact Nat.le_trans hl (by decide)
  have hnr : m.nrun false = 0 := by simp [AM.nrun]
  have HM : Hid (m.took false l = (({ m with run := 0 } : AM).put false m.low.tail)) := Lib.hid (by unfold AM.took; rw [hnr]; show _ = ({ m with run := 0 } : AM).put false m.low.tail; rw [hlm]; rfl)
  have HTL : Hid (({ m with run := 0 } : AM).put false m.low.tail = (({ m with run := 0 } : AM).put false m.low.tail) ∧ m.low.tail = l) := Lib.hid ⟨rfl, by rw [hlm]; rfl⟩
  have hwr : IntKind.i64.wrap ((m.run : Int) + 1) = (m.run : Int) + 1 := by rw [IntKind.wrap_i64]; omega
  have hwc : IntKind.i64.wrap (m.ct 0 + 1) = m.ct 0 + 1 := by have := hct 0; rw [IntKind.wrap_i64]; omega
  have hb0 : ∀ o o', Below w.heap.size w ((w.alloc o).alloc o') := fun o o' => ((Below.refl _ _).alloc (Nat.le_refl _) o).alloc (by simp) o'
  have hg0 : Gr F (fun k => F k ∨ k = w.heap.size ∨ k = w.heap.size + 1) w.heap.size := fun k hk => hk.imp id (by omega)
  have HP : Hid (∀ o o', Calls Try.prog 33 #[.agg #[.slice r.a1 r.n1 r.c1, .slice r.a2 r.n2 r.c2, .int .i64 m.lr, .int .i64 m.hr, .int .i64 m.wt, .int .i64 m.run, .int .i64 (m.ct 0), .int .i64 (m.ct 1), .int .i64 (m.ct 2), .int .i64 (m.ct 3), .int .i64 (m.ct 4)]] ((w.alloc o).alloc o') fun e w' => ∃ q' : Pv, e = .returned (.tuple #[.agg #[.int .i64 q'.h.kd, .int .i64 q'.h.fl, .int .i64 q'.h.pa, .int .i64 q'.h.sr, .int .i64 q'.h.ds, .int .i64 q'.h.cn, .int .i64 q'.h.sq, .int .i64 q'.h.pu, .slice q'.A q'.n q'.c], .bool true]) ∧ q'.pk = x ∧ PvR (fun k => F k ∨ k = w.heap.size ∨ k = w.heap.size + 1) w' q' ∧ Below ((w.alloc o).alloc o').heap.size ((w.alloc o).alloc o') w') := Lib.hid fun o o' => by
    have := r_peek ((h.st (St.refl F w) hg0).below (hb0 o o')) (fun k hk => by simp; rcases hk with hk | hk; (have := hF k hk; omega); omega)
    rw [hi, hx] at this
    exact this
  have HR := Lib.hid (h.st (St.refl F w) hg0)
  have HF := Lib.hid hF
  have HI := Lib.hid hi
  have hcut : ∀ W, (Instr.slice 27 (.slice r.a1 r.n1 r.c1) (some (.int .i64 1)) none none).run Try.prog W = .ok (.slice (cutR r.a1 r.c1 1 9) (r.n1 - 1) (r.c1 - 1)) W := fun W => eltP.run_cut r.a1 r.n1 r.c1 1 hn1 (by obtain ⟨qs, z1, z2, z3, z4, z5⟩ := h.lo; exact z2.2.1) W
  have HCUT := Lib.hid hcut
  have HNM := Lib.hid hnm
  have HN1 := Lib.hid hn1
  clear h hF hl hh hct hru hi hx hlm hb0 hg0 hnr hnm hn1 hcut
  generalize hcutX : cutR r.a1 r.c1 1 9 = cX at *
  have HCX := Lib.hid hcutX
  clear hcutX
  have hcut := HCUT.out
  go_enter Try.func11, Try.ntmps11
  go_wp2_with fail
  refine (HP.out _ _).mono ?_
  rintro e w1 ⟨q, rfl, hk1, hq1, hb1⟩
  obtain ⟨h2, h4, hc⟩ := new2 hb1
  have HK := Lib.hid hk1
  have hba := (Below.refl w1.heap.size w1).alloc (Nat.le_refl _) (.cells (List.toArray [.int .i64 q.h.kd, .int .i64 q.h.fl, .int .i64 q.h.pa, .int .i64 q.h.sr, .int .i64 q.h.ds, .int .i64 q.h.cn, .int .i64 q.h.sq, .int .i64 q.h.pu, .slice q.A q.n q.c]) 37)
  have hgy : Gr (fun k => F k ∨ k = w.heap.size ∨ k = w.heap.size + 1) (By F w w1.heap.size) w1.heap.size := fun k hk => by
    rcases hk with hk | hk | hk | hk
    · exact .inl (.inl hk)
    · exact .inl (.inr (.inl hk))
    · exact .inl (.inr (.inr hk))
    · exact .inr (by omega)
  have HS0 : Hid (RT F w w1.heap.size (w1.alloc (.cells (List.toArray [.int .i64 q.h.kd, .int .i64 q.h.fl, .int .i64 q.h.pa, .int .i64 q.h.sr, .int .i64 q.h.ds, .int .i64 q.h.cn, .int .i64 q.h.sq, .int .i64 q.h.pu, .slice q.A q.n q.c]) 37)) r m q) := Lib.hid ⟨h2.below hba, h4.below hba, Bk.new w1 37 [.int .i64 q.h.kd, .int .i64 q.h.fl, .int .i64 q.h.pa, .int .i64 q.h.sr, .int .i64 q.h.ds, .int .i64 q.h.cn, .int .i64 q.h.sq, .int .i64 q.h.pu, .slice q.A q.n q.c], h4.lt, hc.alloc hc.size _, ((HR.out.below hc).st (St.refl _ _) hgy).below hba, (hq1.gr hgy).below hba⟩
  have h2a := HS0.out.b2
  clear hk1 hq1 hb1 h2 h4 hc hba hgy HP HR
  go_wp2_with (with_reducible refine at_load 30 (.tmp 2) (by rfl) ?_; refine wpList_load_rp rowR rfl (.tmp 2) rfl r m w.heap.size rfl h2a ?_)
  refine (r_high HS0.out.rp).mono ?_
  rintro e w2 ⟨rfl, hb2⟩
  rw [HI.out]
  have HS1 := Lib.hid (HS0.out.below hb2)
  have HSa := Lib.hid (HS1.out.cell 5 (.int .i64 (0)) (r' := r) (m' := { m with run := 0 }) rfl ⟨HS1.out.rp.lo, HS1.out.rp.hi⟩)
  have HSb := Lib.hid (HSa.out.cell 0 (.slice (cX) (r.n1 - 1) (r.c1 - 1)) (r' := ⟨cX, r.n1 - 1, r.c1 - 1, r.a2, r.n2, r.c2⟩) (m' := (({ m with run := 0 } : AM).put false m.low.tail)) rfl (by have := HSa.out.rp.cutLow HN1.out; rw [HCX.out] at this; exact this))
  have a0 := HS1.out.b2.cell 0 rfl
  have a1 := HS1.out.b2.cell 1 rfl
  have a5 := HS1.out.b2.cell 5 rfl
  have a6 := HS1.out.b2.cell 6 rfl
  have f0 := HS1.out.b2.free 0
  have f1 := HS1.out.b2.free 1
  have f5 := HS1.out.b2.free 5
  have f6 := HS1.out.b2.free 6
  have h7 := HSb.out.b7
  clear hb2 h2a HS0
  have HSe := Lib.hid (HSb.out.cell 6 (.int .i64 (m.ct 0 + 1)) (r' := ⟨cX, r.n1 - 1, r.c1 - 1, r.a2, r.n2, r.c2⟩) (m' := { (({ m with run := 0 } : AM).put false m.low.tail) with ct := up m.ct 0 (m.ct 0 + 1) }) rfl ⟨HSb.out.rp.lo, HSb.out.rp.hi⟩)
  go_wp2_with fail
  refine wp_region_E (St (· = w.heap.size + 1)) (by kernel_rfl) (fun wd hbd hsz => ?_)
  have HSE := Lib.hid (HSe.out.below hbd)
  have HSE4 := Lib.hid HSE.out.b4
  have bt0' : ¬ (w.heap.size = w.heap.size + 1) := by omega
  have bt7 : ¬ (w1.heap.size = w.heap.size + 1) := by have := HSE.out.hg; omega
  clear hsz
  (refine takeE (St.tr (· = w.heap.size + 1)) 0 (by simp only [List.getElem?_toArray, List.getElem?_cons_succ, List.getElem?_cons_zero]; rfl) (by kernel_rfl) (by kernel_rfl) (by kernel_rfl) (by exact fun _ _ _ h => h) (by first | (refine Or.inl ⟨by rfl, ?_⟩; intro W hW; exact exec_load_bk rowR (.tmp 2) rfl w.heap.size 0 rfl (HSE.out.b2.st hW bt0') (RV.cl ⟨cX, r.n1 - 1, r.c1 - 1, r.a2, r.n2, r.c2⟩ { (({ m with run := 0 } : AM).put false m.low.tail) with ct := up m.ct 0 (m.ct 0 + 1) }) rfl rfl) | exact Or.inr ⟨by rfl, rfl⟩) ?_; try simp only [Act.put, List.setIfInBounds_toArray, List.set_cons_zero, List.set_cons_succ])
  (refine takeE (St.tr (· = w.heap.size + 1)) 1 (by simp only [List.getElem?_toArray, List.getElem?_cons_succ, List.getElem?_cons_zero]; rfl) (by kernel_rfl) (by kernel_rfl) (by kernel_rfl) (by exact fun _ _ _ h => h) (by first | (refine Or.inl ⟨by rfl, ?_⟩; intro W hW; exact exec_loadRow rowP (.tmp 7) rfl w1.heap.size 0 rfl q (Bk.pk (HSE.out.b7.st hW bt7))) | exact Or.inr ⟨by rfl, rfl⟩) ?_; try simp only [Act.put, List.setIfInBounds_toArray, List.set_cons_zero, List.set_cons_succ])
  refine wpAnyE_two (i := 2) (j := 3) (by kernel_rfl) (by simp only [List.getElem?_toArray, List.getElem?_cons_succ, List.getElem?_cons_zero]; rfl) (by simp only [List.getElem?_toArray, List.getElem?_cons_succ, List.getElem?_cons_zero]; rfl) (fun K hK => ?_) (fun K hK => ?_)
  ·
    go_simp
    have hrd0 := RdR.one wd 37 q.cl q.cl_one
    have HB7 := Lib.hid ((Below.refl wd.heap.size wd).alloc (Nat.le_refl _) (.cells (List.toArray [.int .i64 q.h.kd, .int .i64 q.h.fl, .int .i64 q.h.pa, .int .i64 q.h.sr, .int .i64 q.h.ds, .int .i64 q.h.cn, .int .i64 q.h.sq, .int .i64 q.h.pu, .slice q.A q.n q.c]) 37))
    have HE4 := Lib.hid (HSE.out.b4.below HB7.out)
    refine hK.out _ _ (St.ext HB7.out) ?_
    clear hK K
    try simp only [Act.put, List.setIfInBounds_toArray, List.set_cons_zero, List.set_cons_succ]
    refine wpAnyE_one (i := 3) (by kernel_rfl) (by simp only [List.getElem?_toArray, List.getElem?_cons_succ, List.getElem?_cons_zero]; rfl) (fun K hK => ?_)
    refine opwp_store_bk rowR rfl (.tmp 4) (.tmp 76) rfl (w.heap.size + 1) 0 rfl HE4.out (RV.cl ⟨cX, r.n1 - 1, r.c1 - 1, r.a2, r.n2, r.c2⟩ { (({ m with run := 0 } : AM).put false m.low.tail) with ct := up m.ct 0 (m.ct 0 + 1) }) rfl rfl (by decide) (RV.cl_one _ _) ?_
    intro w5 h45 hw5
    rw [lay_all _ _ (by rfl)] at h45
    have H45 := Lib.hid h45
    have HZ5 : Hid (St (· = w.heap.size + 1) (wd.alloc (.cells (List.toArray [.int .i64 q.h.kd, .int .i64 q.h.fl, .int .i64 q.h.pa, .int .i64 q.h.sr, .int .i64 q.h.ds, .int .i64 q.h.cn, .int .i64 q.h.sq, .int .i64 q.h.pu, .slice q.A q.n q.c]) 37)) w5) := Lib.hid ⟨hw5.os, hw5.tape, hw5.output, hw5.size, fun k hk hn => hw5.block k hk (by intro e; injection e with e; exact hn e)⟩
    have HFW := Lib.hid ((St.ext HB7.out).trans HZ5.out (Gr.refl _ _))
    have HRD := Lib.hid (hrd0.st HZ5.out (fun _ ad he => by injection he with he; subst he; have := HSE.out.b4.lt; show ¬ (wd.heap.size = w.heap.size + 1); omega))
    have HGB := Lib.hid (Nat.le_refl wd.heap.size)
    refine hK.out _ _ HZ5.out ?_
    clear hK K
    try simp only [Act.put, List.setIfInBounds_toArray, List.set_cons_zero, List.set_cons_succ]
    (refine takeE (St.tr (· = w.heap.size + 1)) 4 (by simp only [List.getElem?_toArray, List.getElem?_cons_succ, List.getElem?_cons_zero]; rfl) (by kernel_rfl) (by kernel_rfl) (by kernel_rfl) (by exact fun _ _ _ h => h) (by first | (refine Or.inl ⟨by rfl, ?_⟩; intro W hW; go_simp; try with_reducible rfl) | exact Or.inr ⟨by rfl, rfl⟩) ?_; try simp only [Act.put, List.setIfInBounds_toArray, List.set_cons_zero, List.set_cons_succ])
    (refine takeE (St.tr (· = w.heap.size + 1)) 5 (by simp only [List.getElem?_toArray, List.getElem?_cons_succ, List.getElem?_cons_zero]; rfl) (by kernel_rfl) (by kernel_rfl) (by kernel_rfl) (by exact fun _ _ _ h => h) (by first | (refine Or.inl ⟨by rfl, ?_⟩; intro W hW; go_simp; try with_reducible rfl) | exact Or.inr ⟨by rfl, rfl⟩) ?_; try simp only [Act.put, List.setIfInBounds_toArray, List.set_cons_zero, List.set_cons_succ])
    refine wpAnyE_done (by kernel_rfl) ?_ _
    go_wp2
    have HSF := HFW.out.mono (F' := By F w w1.heap.size) fun k _ hk => .inr (.inr (.inl hk))
    have hrp := HSE.out.rp.st HSF (Gr.refl _ _)
    have hpv := HSE.out.pv.st HSF (Gr.refl _ _)
    have HFIN : Hid (m.srv 1 false x l = { (({ m with run := 0 } : AM).put false m.low.tail) with ct := up m.ct 0 (m.ct 0 + 1) }) := Lib.hid (by have e : m.srv 1 false x l = { m.took false l with ct := up m.ct 0 (m.ct 0 + 1) } := (by simp [AM.srv]); rw [e, HM.out])
    refine bodyPost_ret (results_ctt rfl rfl (rowR.load H45.out 0 (cs := RV.cl ⟨cX, r.n1 - 1, r.c1 - 1, r.a2, r.n2, r.c2⟩ { (({ m with run := 0 } : AM).put false m.low.tail) with ct := up m.ct 0 (m.ct 0 + 1) }) rfl rfl)) rfl ?_
    rw [HFIN.out]
    first
      | (refine ⟨⟨cX, r.n1 - 1, r.c1 - 1, r.a2, r.n2, r.c2⟩, some ⟨wd.heap.size, 0, none⟩, 1, 1, by kernel_rfl, (show RpR F _ _ _ from ⟨hrp.lo.mono fun k hk => .inl hk, hrp.hi.mono fun k hk => .inl hk⟩), ⟨[q], rfl, by rw [flat_one]; exact HRD.out, by show [q.pk] = _; rw [HK.out], fun y hy => by rw [List.mem_singleton.1 hy]; exact hpv.mono fun k hk => .inl hk, fun _ ad he hf => by injection he with he; subst he; have h1 := HF.out _ hf; have h2 := HSE.out.bl.size; have h3 := HGB.out; dsimp only at h1; omega⟩, HSE.out.bl.trans (HFW.out.below HSE.out.bl.size (fun k hk => by omega))⟩)
      | (refine ⟨⟨cX, r.n1 - 1, r.c1 - 1, r.a2, r.n2, r.c2⟩, some ⟨w5.heap.size, 0, none⟩, 1, 1, by kernel_rfl, (show RpR F _ _ _ from ⟨hrp.lo.mono fun k hk => .inl hk, hrp.hi.mono fun k hk => .inl hk⟩), ⟨[q], rfl, by rw [flat_one]; exact HRD.out, by show [q.pk] = _; rw [HK.out], fun y hy => by rw [List.mem_singleton.1 hy]; exact hpv.mono fun k hk => .inl hk, fun _ ad he hf => by injection he with he; subst he; have h1 := HF.out _ hf; have h2 := HSE.out.bl.size; have h3 := HGB.out; dsimp only at h1; omega⟩, HSE.out.bl.trans (HFW.out.below HSE.out.bl.size (fun k hk => by omega))⟩)
  ·
    refine opwp_store_bk rowR rfl (.tmp 4) (.tmp 76) rfl (w.heap.size + 1) 0 rfl HSE4.out (RV.cl ⟨cX, r.n1 - 1, r.c1 - 1, r.a2, r.n2, r.c2⟩ { (({ m with run := 0 } : AM).put false m.low.tail) with ct := up m.ct 0 (m.ct 0 + 1) }) rfl rfl (by decide) (RV.cl_one _ _) ?_
    intro w5 h45 hw5
    rw [lay_all _ _ (by rfl)] at h45
    have H45a := Lib.hid h45
    have HZ5 : Hid (St (· = w.heap.size + 1) wd w5) := Lib.hid ⟨hw5.os, hw5.tape, hw5.output, hw5.size, fun k hk hn => hw5.block k hk (by intro e; injection e with e; exact hn e)⟩
    refine hK.out _ _ HZ5.out ?_
    clear hK K
    try simp only [Act.put, List.setIfInBounds_toArray, List.set_cons_zero, List.set_cons_succ]
    refine wpAnyE_one (i := 2) (by kernel_rfl) (by simp only [List.getElem?_toArray, List.getElem?_cons_succ, List.getElem?_cons_zero]; rfl) (fun K hK => ?_)
    go_simp
    have HRD := Lib.hid (RdR.one w5 37 q.cl q.cl_one)
    have HB7 := Lib.hid ((Below.refl w5.heap.size w5).alloc (Nat.le_refl _) (.cells (List.toArray [.int .i64 q.h.kd, .int .i64 q.h.fl, .int .i64 q.h.pa, .int .i64 q.h.sr, .int .i64 q.h.ds, .int .i64 q.h.cn, .int .i64 q.h.sq, .int .i64 q.h.pu, .slice q.A q.n q.c]) 37))
    have H45 := Lib.hid (H45a.out.below HB7.out)
    have HFW := Lib.hid (HZ5.out.trans (St.ext HB7.out) (Gr.refl _ _))
    have HGB := Lib.hid HZ5.out.size
    refine hK.out _ _ (St.ext HB7.out) ?_
    clear hK K
    try simp only [Act.put, List.setIfInBounds_toArray, List.set_cons_zero, List.set_cons_succ]
    (refine takeE (St.tr (· = w.heap.size + 1)) 4 (by simp only [List.getElem?_toArray, List.getElem?_cons_succ, List.getElem?_cons_zero]; rfl) (by kernel_rfl) (by kernel_rfl) (by kernel_rfl) (by exact fun _ _ _ h => h) (by first | (refine Or.inl ⟨by rfl, ?_⟩; intro W hW; go_simp; try with_reducible rfl) | exact Or.inr ⟨by rfl, rfl⟩) ?_; try simp only [Act.put, List.setIfInBounds_toArray, List.set_cons_zero, List.set_cons_succ])
    (refine takeE (St.tr (· = w.heap.size + 1)) 5 (by simp only [List.getElem?_toArray, List.getElem?_cons_succ, List.getElem?_cons_zero]; rfl) (by kernel_rfl) (by kernel_rfl) (by kernel_rfl) (by exact fun _ _ _ h => h) (by first | (refine Or.inl ⟨by rfl, ?_⟩; intro W hW; go_simp; try with_reducible rfl) | exact Or.inr ⟨by rfl, rfl⟩) ?_; try simp only [Act.put, List.setIfInBounds_toArray, List.set_cons_zero, List.set_cons_succ])
    refine wpAnyE_done (by kernel_rfl) ?_ _
    go_wp2
    have HSF := HFW.out.mono (F' := By F w w1.heap.size) fun k _ hk => .inr (.inr (.inl hk))
    have hrp := HSE.out.rp.st HSF (Gr.refl _ _)
    have hpv := HSE.out.pv.st HSF (Gr.refl _ _)
    have HFIN : Hid (m.srv 1 false x l = { (({ m with run := 0 } : AM).put false m.low.tail) with ct := up m.ct 0 (m.ct 0 + 1) }) := Lib.hid (by have e : m.srv 1 false x l = { m.took false l with ct := up m.ct 0 (m.ct 0 + 1) } := (by simp [AM.srv]); rw [e, HM.out])
    refine bodyPost_ret (results_ctt rfl rfl (rowR.load H45.out 0 (cs := RV.cl ⟨cX, r.n1 - 1, r.c1 - 1, r.a2, r.n2, r.c2⟩ { (({ m with run := 0 } : AM).put false m.low.tail) with ct := up m.ct 0 (m.ct 0 + 1) }) rfl rfl)) rfl ?_
    rw [HFIN.out]
    first
      | (refine ⟨⟨cX, r.n1 - 1, r.c1 - 1, r.a2, r.n2, r.c2⟩, some ⟨wd.heap.size, 0, none⟩, 1, 1, by kernel_rfl, (show RpR F _ _ _ from ⟨hrp.lo.mono fun k hk => .inl hk, hrp.hi.mono fun k hk => .inl hk⟩), ⟨[q], rfl, by rw [flat_one]; exact HRD.out, by show [q.pk] = _; rw [HK.out], fun y hy => by rw [List.mem_singleton.1 hy]; exact hpv.mono fun k hk => .inl hk, fun _ ad he hf => by injection he with he; subst he; have h1 := HF.out _ hf; have h2 := HSE.out.bl.size; have h3 := HGB.out; dsimp only at h1; omega⟩, HSE.out.bl.trans (HFW.out.below HSE.out.bl.size (fun k hk => by omega))⟩)
      | (refine ⟨⟨cX, r.n1 - 1, r.c1 - 1, r.a2, r.n2, r.c2⟩, some ⟨w5.heap.size, 0, none⟩, 1, 1, by kernel_rfl, (show RpR F _ _ _ from ⟨hrp.lo.mono fun k hk => .inl hk, hrp.hi.mono fun k hk => .inl hk⟩), ⟨[q], rfl, by rw [flat_one]; exact HRD.out, by show [q.pk] = _; rw [HK.out], fun y hy => by rw [List.mem_singleton.1 hy]; exact hpv.mono fun k hk => .inl hk, fun _ ad he hf => by injection he with he; subst he; have h1 := HF.out _ hf; have h2 := HSE.out.bl.size; have h3 := HGB.out; dsimp only at h1; omega⟩, HSE.out.bl.trans (HFW.out.below HSE.out.bl.size (fun k hk => by omega))⟩)
set_option maxHeartbeats 4000000 in
set_option maxRecDepth 100000 in
theorem r_serve_hp2 (h : RpR F w r m) (hF : ∀ k, F k → k < w.heap.size) (hl : m.low.length ≤ 1024) (hh : m.high.length ≤ 1024) (hct : ∀ k, -1 ≤ m.ct k ∧ m.ct k ≤ 1000000) (hru : m.run ≤ 1024) (hi : m.hiB = true) (hlp : 0 < m.low.length) (x : Pk) (l : List Pk) (hx : m.sel m.hiB = x :: l) :
    Calls Try.prog 11 #[.agg #[.slice r.a1 r.n1 r.c1, .slice r.a2 r.n2 r.c2, .int .i64 m.lr, .int .i64 m.hr, .int .i64 m.wt, .int .i64 m.run, .int .i64 (m.ct 0), .int .i64 (m.ct 1), .int .i64 (m.ct 2), .int .i64 (m.ct 3), .int .i64 (m.ct 4)], .int .i64 2] w (RServeTo F w (m.srv 2 true x l) [] 0) := by
  rw [hi] at hx
  have hlm : m.high = x :: l := hx
  have hn1 : 1 ≤ r.n2 := by rw [← h.hi.len, hlm]; simp
  have hnm : r.n2 ≤ 2000 := by rw [← h.hi.len]; exact Nat.le_trans hh (by decide)
  have hnr : m.nrun true = m.run + 1 := by simp [AM.nrun, hlp]
  have HM : Hid (m.took true l = (({ m with run := m.run + 1 } : AM).put true m.high.tail)) := Lib.hid (by unfold AM.took; rw [hnr]; show _ = ({ m with run := m.run + 1 } : AM).put true m.high.tail; rw [hlm]; rfl)
  have HTL : Hid (({ m with run := m.run + 1 } : AM).put true m.high.tail = (({ m with run := m.run + 1 } : AM).put true m.high.tail) ∧ m.high.tail = l) := Lib.hid ⟨rfl, by rw [hlm]; rfl⟩
  have hlw : (0 : Int) < r.n1 := by have := h.lo.len; omega
  have hwr : IntKind.i64.wrap ((m.run : Int) + 1) = (m.run : Int) + 1 := by rw [IntKind.wrap_i64]; omega
  have hwc : IntKind.i64.wrap (m.ct 0 + 1) = m.ct 0 + 1 := by have := hct 0; rw [IntKind.wrap_i64]; omega
  have hb0 : ∀ o o', Below w.heap.size w ((w.alloc o).alloc o') := fun o o' => ((Below.refl _ _).alloc (Nat.le_refl _) o).alloc (by simp) o'
  have hg0 : Gr F (fun k => F k ∨ k = w.heap.size ∨ k = w.heap.size + 1) w.heap.size := fun k hk => hk.imp id (by omega)
  have HP : Hid (∀ o o', Calls Try.prog 33 #[.agg #[.slice r.a1 r.n1 r.c1, .slice r.a2 r.n2 r.c2, .int .i64 m.lr, .int .i64 m.hr, .int .i64 m.wt, .int .i64 m.run, .int .i64 (m.ct 0), .int .i64 (m.ct 1), .int .i64 (m.ct 2), .int .i64 (m.ct 3), .int .i64 (m.ct 4)]] ((w.alloc o).alloc o') fun e w' => ∃ q' : Pv, e = .returned (.tuple #[.agg #[.int .i64 q'.h.kd, .int .i64 q'.h.fl, .int .i64 q'.h.pa, .int .i64 q'.h.sr, .int .i64 q'.h.ds, .int .i64 q'.h.cn, .int .i64 q'.h.sq, .int .i64 q'.h.pu, .slice q'.A q'.n q'.c], .bool true]) ∧ q'.pk = x ∧ PvR (fun k => F k ∨ k = w.heap.size ∨ k = w.heap.size + 1) w' q' ∧ Below ((w.alloc o).alloc o').heap.size ((w.alloc o).alloc o') w') := Lib.hid fun o o' => by
    have := r_peek ((h.st (St.refl F w) hg0).below (hb0 o o')) (fun k hk => by simp; rcases hk with hk | hk; (have := hF k hk; omega); omega)
    rw [hi, hx] at this
    exact this
  have HR := Lib.hid (h.st (St.refl F w) hg0)
  have HF := Lib.hid hF
  have HI := Lib.hid hi
  have hcut : ∀ W, (Instr.slice 27 (.slice r.a2 r.n2 r.c2) (some (.int .i64 1)) none none).run Try.prog W = .ok (.slice (cutR r.a2 r.c2 1 9) (r.n2 - 1) (r.c2 - 1)) W := fun W => eltP.run_cut r.a2 r.n2 r.c2 1 hn1 (by obtain ⟨qs, z1, z2, z3, z4, z5⟩ := h.hi; exact z2.2.1) W
  have HCUT := Lib.hid hcut
  have HNM := Lib.hid hnm
  have HN1 := Lib.hid hn1
  clear h hF hl hh hct hru hi hx hlm hb0 hg0 hnr hnm hn1 hcut hlp
  generalize hcutX : cutR r.a2 r.c2 1 9 = cX at *
  have HCX := Lib.hid hcutX
  clear hcutX
  have hcut := HCUT.out
  go_enter Try.func11, Try.ntmps11
  go_wp2_with fail
  refine (HP.out _ _).mono ?_
  rintro e w1 ⟨q, rfl, hk1, hq1, hb1⟩
  obtain ⟨h2, h4, hc⟩ := new2 hb1
  have HK := Lib.hid hk1
  have hba := (Below.refl w1.heap.size w1).alloc (Nat.le_refl _) (.cells (List.toArray [.int .i64 q.h.kd, .int .i64 q.h.fl, .int .i64 q.h.pa, .int .i64 q.h.sr, .int .i64 q.h.ds, .int .i64 q.h.cn, .int .i64 q.h.sq, .int .i64 q.h.pu, .slice q.A q.n q.c]) 37)
  have hgy : Gr (fun k => F k ∨ k = w.heap.size ∨ k = w.heap.size + 1) (By F w w1.heap.size) w1.heap.size := fun k hk => by
    rcases hk with hk | hk | hk | hk
    · exact .inl (.inl hk)
    · exact .inl (.inr (.inl hk))
    · exact .inl (.inr (.inr hk))
    · exact .inr (by omega)
  have HS0 : Hid (RT F w w1.heap.size (w1.alloc (.cells (List.toArray [.int .i64 q.h.kd, .int .i64 q.h.fl, .int .i64 q.h.pa, .int .i64 q.h.sr, .int .i64 q.h.ds, .int .i64 q.h.cn, .int .i64 q.h.sq, .int .i64 q.h.pu, .slice q.A q.n q.c]) 37)) r m q) := Lib.hid ⟨h2.below hba, h4.below hba, Bk.new w1 37 [.int .i64 q.h.kd, .int .i64 q.h.fl, .int .i64 q.h.pa, .int .i64 q.h.sr, .int .i64 q.h.ds, .int .i64 q.h.cn, .int .i64 q.h.sq, .int .i64 q.h.pu, .slice q.A q.n q.c], h4.lt, hc.alloc hc.size _, ((HR.out.below hc).st (St.refl _ _) hgy).below hba, (hq1.gr hgy).below hba⟩
  have h2a := HS0.out.b2
  clear hk1 hq1 hb1 h2 h4 hc hba hgy HP HR
  go_wp2_with (with_reducible refine at_load 30 (.tmp 2) (by rfl) ?_; refine wpList_load_rp rowR rfl (.tmp 2) rfl r m w.heap.size rfl h2a ?_)
  refine (r_high HS0.out.rp).mono ?_
  rintro e w2 ⟨rfl, hb2⟩
  rw [HI.out]
  have HS1 := Lib.hid (HS0.out.below hb2)
  have HSa := Lib.hid (HS1.out.cell 5 (.int .i64 ((m.run : Int) + 1)) (r' := r) (m' := { m with run := m.run + 1 }) rfl ⟨HS1.out.rp.lo, HS1.out.rp.hi⟩)
  have HSb := Lib.hid (HSa.out.cell 1 (.slice (cX) (r.n2 - 1) (r.c2 - 1)) (r' := ⟨r.a1, r.n1, r.c1, cX, r.n2 - 1, r.c2 - 1⟩) (m' := (({ m with run := m.run + 1 } : AM).put true m.high.tail)) rfl (by have := HSa.out.rp.cutHigh HN1.out; rw [HCX.out] at this; exact this))
  have a0 := HS1.out.b2.cell 0 rfl
  have a1 := HS1.out.b2.cell 1 rfl
  have a5 := HS1.out.b2.cell 5 rfl
  have a6 := HS1.out.b2.cell 6 rfl
  have f0 := HS1.out.b2.free 0
  have f1 := HS1.out.b2.free 1
  have f5 := HS1.out.b2.free 5
  have f6 := HS1.out.b2.free 6
  have h7 := HSb.out.b7
  clear hb2 h2a HS0
  have z2 := HSb.out.b2
  have z4 := HSb.out.b4
  go_wp2_with (first
    | (with_reducible refine at_load 30 (.tmp 2) (by rfl) ?_; refine wpList_load_rp rowR rfl (.tmp 2) rfl ⟨r.a1, r.n1, r.c1, cX, r.n2 - 1, r.c2 - 1⟩ (({ m with run := m.run + 1 } : AM).put true m.high.tail) w.heap.size rfl z2 ?_)
    | (with_reducible refine at_store 30 (.tmp 4) (.tmp 69) (by rfl) ?_; refine wpList_put_rp rowR rfl (.tmp 4) (.tmp 69) rfl (w.heap.size + 1) rfl z4 rfl ⟨r.a1, r.n1, r.c1, cX, r.n2 - 1, r.c2 - 1⟩ (({ m with run := m.run + 1 } : AM).put true m.high.tail) rfl ?_; rintro w5 h45 hw5))
  have HSF := wr_by (F := F) (w := w) (g := w1.heap.size) (.inr (.inl rfl)) hw5
  have hrp := HSb.out.rp.st HSF (Gr.refl _ _)
  have HFIN : Hid (m.srv 2 true x l = (({ m with run := m.run + 1 } : AM).put true m.high.tail)) := Lib.hid (by simp [AM.srv]; rw [HM.out])
  refine bodyPost_ret (results_ctt rfl rfl (rowR.load h45 0 (cs := RV.cl ⟨r.a1, r.n1, r.c1, cX, r.n2 - 1, r.c2 - 1⟩ (({ m with run := m.run + 1 } : AM).put true m.high.tail)) rfl rfl)) rfl ?_
  rw [HFIN.out]
  refine ⟨⟨r.a1, r.n1, r.c1, cX, r.n2 - 1, r.c2 - 1⟩, none, 0, 0, ?_, (show RpR F _ _ _ from ⟨hrp.lo.mono fun k hk => .inl hk, hrp.hi.mono fun k hk => .inl hk⟩), SlP.nil _ _, HSb.out.bl.trans (hw5.below (by omega) HSb.out.bl.size)⟩
  kernel_rfl
set_option maxHeartbeats 4000000 in
set_option maxRecDepth 100000 in
theorem r_serve_h2 (h : RpR F w r m) (hF : ∀ k, F k → k < w.heap.size) (hl : m.low.length ≤ 1024) (hh : m.high.length ≤ 1024) (hct : ∀ k, -1 ≤ m.ct k ∧ m.ct k ≤ 1000000) (hru : m.run ≤ 1024) (hi : m.hiB = true) (hlp : m.low.length = 0) (x : Pk) (l : List Pk) (hx : m.sel m.hiB = x :: l) :
    Calls Try.prog 11 #[.agg #[.slice r.a1 r.n1 r.c1, .slice r.a2 r.n2 r.c2, .int .i64 m.lr, .int .i64 m.hr, .int .i64 m.wt, .int .i64 m.run, .int .i64 (m.ct 0), .int .i64 (m.ct 1), .int .i64 (m.ct 2), .int .i64 (m.ct 3), .int .i64 (m.ct 4)], .int .i64 2] w (RServeTo F w (m.srv 2 true x l) [] 0) := by
  rw [hi] at hx
  have hlm : m.high = x :: l := hx
  have hn1 : 1 ≤ r.n2 := by rw [← h.hi.len, hlm]; simp
  have hnm : r.n2 ≤ 2000 := by rw [← h.hi.len]; exact Nat.le_trans hh (by decide)
  have hnr : m.nrun true = 0 := by simp [AM.nrun, hlp]
  have HM : Hid (m.took true l = (({ m with run := 0 } : AM).put true m.high.tail)) := Lib.hid (by unfold AM.took; rw [hnr]; show _ = ({ m with run := 0 } : AM).put true m.high.tail; rw [hlm]; rfl)
  have HTL : Hid (({ m with run := 0 } : AM).put true m.high.tail = (({ m with run := 0 } : AM).put true m.high.tail) ∧ m.high.tail = l) := Lib.hid ⟨rfl, by rw [hlm]; rfl⟩
  have hlw : (r.n1 : Int) ≤ 0 := by have := h.lo.len; omega
  have hwr : IntKind.i64.wrap ((m.run : Int) + 1) = (m.run : Int) + 1 := by rw [IntKind.wrap_i64]; omega
  have hwc : IntKind.i64.wrap (m.ct 0 + 1) = m.ct 0 + 1 := by have := hct 0; rw [IntKind.wrap_i64]; omega
  have hb0 : ∀ o o', Below w.heap.size w ((w.alloc o).alloc o') := fun o o' => ((Below.refl _ _).alloc (Nat.le_refl _) o).alloc (by simp) o'
  have hg0 : Gr F (fun k => F k ∨ k = w.heap.size ∨ k = w.heap.size + 1) w.heap.size := fun k hk => hk.imp id (by omega)
  have HP : Hid (∀ o o', Calls Try.prog 33 #[.agg #[.slice r.a1 r.n1 r.c1, .slice r.a2 r.n2 r.c2, .int .i64 m.lr, .int .i64 m.hr, .int .i64 m.wt, .int .i64 m.run, .int .i64 (m.ct 0), .int .i64 (m.ct 1), .int .i64 (m.ct 2), .int .i64 (m.ct 3), .int .i64 (m.ct 4)]] ((w.alloc o).alloc o') fun e w' => ∃ q' : Pv, e = .returned (.tuple #[.agg #[.int .i64 q'.h.kd, .int .i64 q'.h.fl, .int .i64 q'.h.pa, .int .i64 q'.h.sr, .int .i64 q'.h.ds, .int .i64 q'.h.cn, .int .i64 q'.h.sq, .int .i64 q'.h.pu, .slice q'.A q'.n q'.c], .bool true]) ∧ q'.pk = x ∧ PvR (fun k => F k ∨ k = w.heap.size ∨ k = w.heap.size + 1) w' q' ∧ Below ((w.alloc o).alloc o').heap.size ((w.alloc o).alloc o') w') := Lib.hid fun o o' => by
    have := r_peek ((h.st (St.refl F w) hg0).below (hb0 o o')) (fun k hk => by simp; rcases hk with hk | hk; (have := hF k hk; omega); omega)
    rw [hi, hx] at this
    exact this
  have HR := Lib.hid (h.st (St.refl F w) hg0)
  have HF := Lib.hid hF
  have HI := Lib.hid hi
  have hcut : ∀ W, (Instr.slice 27 (.slice r.a2 r.n2 r.c2) (some (.int .i64 1)) none none).run Try.prog W = .ok (.slice (cutR r.a2 r.c2 1 9) (r.n2 - 1) (r.c2 - 1)) W := fun W => eltP.run_cut r.a2 r.n2 r.c2 1 hn1 (by obtain ⟨qs, z1, z2, z3, z4, z5⟩ := h.hi; exact z2.2.1) W
  have HCUT := Lib.hid hcut
  have HNM := Lib.hid hnm
  have HN1 := Lib.hid hn1
  clear h hF hl hh hct hru hi hx hlm hb0 hg0 hnr hnm hn1 hcut hlp
  generalize hcutX : cutR r.a2 r.c2 1 9 = cX at *
  have HCX := Lib.hid hcutX
  clear hcutX
  have hcut := HCUT.out
  go_enter Try.func11, Try.ntmps11
  go_wp2_with fail
  refine (HP.out _ _).mono ?_
  rintro e w1 ⟨q, rfl, hk1, hq1, hb1⟩
  obtain ⟨h2, h4, hc⟩ := new2 hb1
  have HK := Lib.hid hk1
  have hba := (Below.refl w1.heap.size w1).alloc (Nat.le_refl _) (.cells (List.toArray [.int .i64 q.h.kd, .int .i64 q.h.fl, .int .i64 q.h.pa, .int .i64 q.h.sr, .int .i64 q.h.ds, .int .i64 q.h.cn, .int .i64 q.h.sq, .int .i64 q.h.pu, .slice q.A q.n q.c]) 37)
  have hgy : Gr (fun k => F k ∨ k = w.heap.size ∨ k = w.heap.size + 1) (By F w w1.heap.size) w1.heap.size := fun k hk => by
    rcases hk with hk | hk | hk | hk
    · exact .inl (.inl hk)
    · exact .inl (.inr (.inl hk))
    · exact .inl (.inr (.inr hk))
    · exact .inr (by omega)
  have HS0 : Hid (RT F w w1.heap.size (w1.alloc (.cells (List.toArray [.int .i64 q.h.kd, .int .i64 q.h.fl, .int .i64 q.h.pa, .int .i64 q.h.sr, .int .i64 q.h.ds, .int .i64 q.h.cn, .int .i64 q.h.sq, .int .i64 q.h.pu, .slice q.A q.n q.c]) 37)) r m q) := Lib.hid ⟨h2.below hba, h4.below hba, Bk.new w1 37 [.int .i64 q.h.kd, .int .i64 q.h.fl, .int .i64 q.h.pa, .int .i64 q.h.sr, .int .i64 q.h.ds, .int .i64 q.h.cn, .int .i64 q.h.sq, .int .i64 q.h.pu, .slice q.A q.n q.c], h4.lt, hc.alloc hc.size _, ((HR.out.below hc).st (St.refl _ _) hgy).below hba, (hq1.gr hgy).below hba⟩
  have h2a := HS0.out.b2
  clear hk1 hq1 hb1 h2 h4 hc hba hgy HP HR
  go_wp2_with (with_reducible refine at_load 30 (.tmp 2) (by rfl) ?_; refine wpList_load_rp rowR rfl (.tmp 2) rfl r m w.heap.size rfl h2a ?_)
  refine (r_high HS0.out.rp).mono ?_
  rintro e w2 ⟨rfl, hb2⟩
  rw [HI.out]
  have HS1 := Lib.hid (HS0.out.below hb2)
  have HSa := Lib.hid (HS1.out.cell 5 (.int .i64 (0)) (r' := r) (m' := { m with run := 0 }) rfl ⟨HS1.out.rp.lo, HS1.out.rp.hi⟩)
  have HSb := Lib.hid (HSa.out.cell 1 (.slice (cX) (r.n2 - 1) (r.c2 - 1)) (r' := ⟨r.a1, r.n1, r.c1, cX, r.n2 - 1, r.c2 - 1⟩) (m' := (({ m with run := 0 } : AM).put true m.high.tail)) rfl (by have := HSa.out.rp.cutHigh HN1.out; rw [HCX.out] at this; exact this))
  have a0 := HS1.out.b2.cell 0 rfl
  have a1 := HS1.out.b2.cell 1 rfl
  have a5 := HS1.out.b2.cell 5 rfl
  have a6 := HS1.out.b2.cell 6 rfl
  have f0 := HS1.out.b2.free 0
  have f1 := HS1.out.b2.free 1
  have f5 := HS1.out.b2.free 5
  have f6 := HS1.out.b2.free 6
  have h7 := HSb.out.b7
  clear hb2 h2a HS0
  have z2 := HSb.out.b2
  have z4 := HSb.out.b4
  go_wp2_with (first
    | (with_reducible refine at_load 30 (.tmp 2) (by rfl) ?_; refine wpList_load_rp rowR rfl (.tmp 2) rfl ⟨r.a1, r.n1, r.c1, cX, r.n2 - 1, r.c2 - 1⟩ (({ m with run := 0 } : AM).put true m.high.tail) w.heap.size rfl z2 ?_)
    | (with_reducible refine at_store 30 (.tmp 4) (.tmp 69) (by rfl) ?_; refine wpList_put_rp rowR rfl (.tmp 4) (.tmp 69) rfl (w.heap.size + 1) rfl z4 rfl ⟨r.a1, r.n1, r.c1, cX, r.n2 - 1, r.c2 - 1⟩ (({ m with run := 0 } : AM).put true m.high.tail) rfl ?_; rintro w5 h45 hw5))
  have HSF := wr_by (F := F) (w := w) (g := w1.heap.size) (.inr (.inl rfl)) hw5
  have hrp := HSb.out.rp.st HSF (Gr.refl _ _)
  have HFIN : Hid (m.srv 2 true x l = (({ m with run := 0 } : AM).put true m.high.tail)) := Lib.hid (by simp [AM.srv]; rw [HM.out])
  refine bodyPost_ret (results_ctt rfl rfl (rowR.load h45 0 (cs := RV.cl ⟨r.a1, r.n1, r.c1, cX, r.n2 - 1, r.c2 - 1⟩ (({ m with run := 0 } : AM).put true m.high.tail)) rfl rfl)) rfl ?_
  rw [HFIN.out]
  refine ⟨⟨r.a1, r.n1, r.c1, cX, r.n2 - 1, r.c2 - 1⟩, none, 0, 0, ?_, (show RpR F _ _ _ from ⟨hrp.lo.mono fun k hk => .inl hk, hrp.hi.mono fun k hk => .inl hk⟩), SlP.nil _ _, HSb.out.bl.trans (hw5.below (by omega) HSb.out.bl.size)⟩
  kernel_rfl
set_option maxHeartbeats 4000000 in
set_option maxRecDepth 100000 in
theorem r_serve_l2 (h : RpR F w r m) (hF : ∀ k, F k → k < w.heap.size) (hl : m.low.length ≤ 1024) (hh : m.high.length ≤ 1024) (hct : ∀ k, -1 ≤ m.ct k ∧ m.ct k ≤ 1000000) (hru : m.run ≤ 1024) (hi : m.hiB = false)  (x : Pk) (l : List Pk) (hx : m.sel m.hiB = x :: l) :
    Calls Try.prog 11 #[.agg #[.slice r.a1 r.n1 r.c1, .slice r.a2 r.n2 r.c2, .int .i64 m.lr, .int .i64 m.hr, .int .i64 m.wt, .int .i64 m.run, .int .i64 (m.ct 0), .int .i64 (m.ct 1), .int .i64 (m.ct 2), .int .i64 (m.ct 3), .int .i64 (m.ct 4)], .int .i64 2] w (RServeTo F w (m.srv 2 false x l) [] 0) := by
  rw [hi] at hx
  have hlm : m.low = x :: l := hx
  have hn1 : 1 ≤ r.n1 := by rw [← h.lo.len, hlm]; simp
  have hnm : r.n1 ≤ 2000 := by rw [← h.lo.len]; exact Nat.le_trans hl (by decide)
  have hnr : m.nrun false = 0 := by simp [AM.nrun]
  have HM : Hid (m.took false l = (({ m with run := 0 } : AM).put false m.low.tail)) := Lib.hid (by unfold AM.took; rw [hnr]; show _ = ({ m with run := 0 } : AM).put false m.low.tail; rw [hlm]; rfl)
  have HTL : Hid (({ m with run := 0 } : AM).put false m.low.tail = (({ m with run := 0 } : AM).put false m.low.tail) ∧ m.low.tail = l) := Lib.hid ⟨rfl, by rw [hlm]; rfl⟩
  have hwr : IntKind.i64.wrap ((m.run : Int) + 1) = (m.run : Int) + 1 := by rw [IntKind.wrap_i64]; omega
  have hwc : IntKind.i64.wrap (m.ct 0 + 1) = m.ct 0 + 1 := by have := hct 0; rw [IntKind.wrap_i64]; omega
  have hb0 : ∀ o o', Below w.heap.size w ((w.alloc o).alloc o') := fun o o' => ((Below.refl _ _).alloc (Nat.le_refl _) o).alloc (by simp) o'
  have hg0 : Gr F (fun k => F k ∨ k = w.heap.size ∨ k = w.heap.size + 1) w.heap.size := fun k hk => hk.imp id (by omega)
  have HP : Hid (∀ o o', Calls Try.prog 33 #[.agg #[.slice r.a1 r.n1 r.c1, .slice r.a2 r.n2 r.c2, .int .i64 m.lr, .int .i64 m.hr, .int .i64 m.wt, .int .i64 m.run, .int .i64 (m.ct 0), .int .i64 (m.ct 1), .int .i64 (m.ct 2), .int .i64 (m.ct 3), .int .i64 (m.ct 4)]] ((w.alloc o).alloc o') fun e w' => ∃ q' : Pv, e = .returned (.tuple #[.agg #[.int .i64 q'.h.kd, .int .i64 q'.h.fl, .int .i64 q'.h.pa, .int .i64 q'.h.sr, .int .i64 q'.h.ds, .int .i64 q'.h.cn, .int .i64 q'.h.sq, .int .i64 q'.h.pu, .slice q'.A q'.n q'.c], .bool true]) ∧ q'.pk = x ∧ PvR (fun k => F k ∨ k = w.heap.size ∨ k = w.heap.size + 1) w' q' ∧ Below ((w.alloc o).alloc o').heap.size ((w.alloc o).alloc o') w') := Lib.hid fun o o' => by
    have := r_peek ((h.st (St.refl F w) hg0).below (hb0 o o')) (fun k hk => by simp; rcases hk with hk | hk; (have := hF k hk; omega); omega)
    rw [hi, hx] at this
    exact this
  have HR := Lib.hid (h.st (St.refl F w) hg0)
  have HF := Lib.hid hF
  have HI := Lib.hid hi
  have hcut : ∀ W, (Instr.slice 27 (.slice r.a1 r.n1 r.c1) (some (.int .i64 1)) none none).run Try.prog W = .ok (.slice (cutR r.a1 r.c1 1 9) (r.n1 - 1) (r.c1 - 1)) W := fun W => eltP.run_cut r.a1 r.n1 r.c1 1 hn1 (by obtain ⟨qs, z1, z2, z3, z4, z5⟩ := h.lo; exact z2.2.1) W
  have HCUT := Lib.hid hcut
  have HNM := Lib.hid hnm
  have HN1 := Lib.hid hn1
  clear h hF hl hh hct hru hi hx hlm hb0 hg0 hnr hnm hn1 hcut
  generalize hcutX : cutR r.a1 r.c1 1 9 = cX at *
  have HCX := Lib.hid hcutX
  clear hcutX
  have hcut := HCUT.out
  go_enter Try.func11, Try.ntmps11
  go_wp2_with fail
  refine (HP.out _ _).mono ?_
  rintro e w1 ⟨q, rfl, hk1, hq1, hb1⟩
  obtain ⟨h2, h4, hc⟩ := new2 hb1
  have HK := Lib.hid hk1
  have hba := (Below.refl w1.heap.size w1).alloc (Nat.le_refl _) (.cells (List.toArray [.int .i64 q.h.kd, .int .i64 q.h.fl, .int .i64 q.h.pa, .int .i64 q.h.sr, .int .i64 q.h.ds, .int .i64 q.h.cn, .int .i64 q.h.sq, .int .i64 q.h.pu, .slice q.A q.n q.c]) 37)
  have hgy : Gr (fun k => F k ∨ k = w.heap.size ∨ k = w.heap.size + 1) (By F w w1.heap.size) w1.heap.size := fun k hk => by
    rcases hk with hk | hk | hk | hk
    · exact .inl (.inl hk)
    · exact .inl (.inr (.inl hk))
    · exact .inl (.inr (.inr hk))
    · exact .inr (by omega)
  have HS0 : Hid (RT F w w1.heap.size (w1.alloc (.cells (List.toArray [.int .i64 q.h.kd, .int .i64 q.h.fl, .int .i64 q.h.pa, .int .i64 q.h.sr, .int .i64 q.h.ds, .int .i64 q.h.cn, .int .i64 q.h.sq, .int .i64 q.h.pu, .slice q.A q.n q.c]) 37)) r m q) := Lib.hid ⟨h2.below hba, h4.below hba, Bk.new w1 37 [.int .i64 q.h.kd, .int .i64 q.h.fl, .int .i64 q.h.pa, .int .i64 q.h.sr, .int .i64 q.h.ds, .int .i64 q.h.cn, .int .i64 q.h.sq, .int .i64 q.h.pu, .slice q.A q.n q.c], h4.lt, hc.alloc hc.size _, ((HR.out.below hc).st (St.refl _ _) hgy).below hba, (hq1.gr hgy).below hba⟩
  have h2a := HS0.out.b2
  clear hk1 hq1 hb1 h2 h4 hc hba hgy HP HR
  go_wp2_with (with_reducible refine at_load 30 (.tmp 2) (by rfl) ?_; refine wpList_load_rp rowR rfl (.tmp 2) rfl r m w.heap.size rfl h2a ?_)
  refine (r_high HS0.out.rp).mono ?_
  rintro e w2 ⟨rfl, hb2⟩
  rw [HI.out]
  have HS1 := Lib.hid (HS0.out.below hb2)
  have HSa := Lib.hid (HS1.out.cell 5 (.int .i64 (0)) (r' := r) (m' := { m with run := 0 }) rfl ⟨HS1.out.rp.lo, HS1.out.rp.hi⟩)
  have HSb := Lib.hid (HSa.out.cell 0 (.slice (cX) (r.n1 - 1) (r.c1 - 1)) (r' := ⟨cX, r.n1 - 1, r.c1 - 1, r.a2, r.n2, r.c2⟩) (m' := (({ m with run := 0 } : AM).put false m.low.tail)) rfl (by have := HSa.out.rp.cutLow HN1.out; rw [HCX.out] at this; exact this))
  have a0 := HS1.out.b2.cell 0 rfl
  have a1 := HS1.out.b2.cell 1 rfl
  have a5 := HS1.out.b2.cell 5 rfl
  have a6 := HS1.out.b2.cell 6 rfl
  have f0 := HS1.out.b2.free 0
  have f1 := HS1.out.b2.free 1
  have f5 := HS1.out.b2.free 5
  have f6 := HS1.out.b2.free 6
  have h7 := HSb.out.b7
  clear hb2 h2a HS0
  have z2 := HSb.out.b2
  have z4 := HSb.out.b4
  go_wp2_with (first
    | (with_reducible refine at_load 30 (.tmp 2) (by rfl) ?_; refine wpList_load_rp rowR rfl (.tmp 2) rfl ⟨cX, r.n1 - 1, r.c1 - 1, r.a2, r.n2, r.c2⟩ (({ m with run := 0 } : AM).put false m.low.tail) w.heap.size rfl z2 ?_)
    | (with_reducible refine at_store 30 (.tmp 4) (.tmp 69) (by rfl) ?_; refine wpList_put_rp rowR rfl (.tmp 4) (.tmp 69) rfl (w.heap.size + 1) rfl z4 rfl ⟨cX, r.n1 - 1, r.c1 - 1, r.a2, r.n2, r.c2⟩ (({ m with run := 0 } : AM).put false m.low.tail) rfl ?_; rintro w5 h45 hw5))
  have HSF := wr_by (F := F) (w := w) (g := w1.heap.size) (.inr (.inl rfl)) hw5
  have hrp := HSb.out.rp.st HSF (Gr.refl _ _)
  have HFIN : Hid (m.srv 2 false x l = (({ m with run := 0 } : AM).put false m.low.tail)) := Lib.hid (by simp [AM.srv]; rw [HM.out])
  refine bodyPost_ret (results_ctt rfl rfl (rowR.load h45 0 (cs := RV.cl ⟨cX, r.n1 - 1, r.c1 - 1, r.a2, r.n2, r.c2⟩ (({ m with run := 0 } : AM).put false m.low.tail)) rfl rfl)) rfl ?_
  rw [HFIN.out]
  refine ⟨⟨cX, r.n1 - 1, r.c1 - 1, r.a2, r.n2, r.c2⟩, none, 0, 0, ?_, (show RpR F _ _ _ from ⟨hrp.lo.mono fun k hk => .inl hk, hrp.hi.mono fun k hk => .inl hk⟩), SlP.nil _ _, HSb.out.bl.trans (hw5.below (by omega) HSb.out.bl.size)⟩
  kernel_rfl
set_option maxHeartbeats 4000000 in
set_option maxRecDepth 100000 in
theorem r_serve_hp3 (h : RpR F w r m) (hF : ∀ k, F k → k < w.heap.size) (hl : m.low.length ≤ 1024) (hh : m.high.length ≤ 1024) (hct : ∀ k, -1 ≤ m.ct k ∧ m.ct k ≤ 1000000) (hru : m.run ≤ 1024) (hi : m.hiB = true) (hlp : 0 < m.low.length) (x : Pk) (l : List Pk) (hx : m.sel m.hiB = x :: l) :
    Calls Try.prog 11 #[.agg #[.slice r.a1 r.n1 r.c1, .slice r.a2 r.n2 r.c2, .int .i64 m.lr, .int .i64 m.hr, .int .i64 m.wt, .int .i64 m.run, .int .i64 (m.ct 0), .int .i64 (m.ct 1), .int .i64 (m.ct 2), .int .i64 (m.ct 3), .int .i64 (m.ct 4)], .int .i64 3] w (RServeTo F w (m.srv 3 true x l) [] 0) := by
  rw [hi] at hx
  have hlm : m.high = x :: l := hx
  have hn1 : 1 ≤ r.n2 := by rw [← h.hi.len, hlm]; simp
  have hnm : r.n2 ≤ 2000 := by rw [← h.hi.len]; exact Nat.le_trans hh (by decide)
  have hnr : m.nrun true = m.run + 1 := by simp [AM.nrun, hlp]
  have HM : Hid (m.took true l = (({ m with run := m.run + 1 } : AM).put true m.high.tail)) := Lib.hid (by unfold AM.took; rw [hnr]; show _ = ({ m with run := m.run + 1 } : AM).put true m.high.tail; rw [hlm]; rfl)
  have HTL : Hid (({ m with run := m.run + 1 } : AM).put true m.high.tail = (({ m with run := m.run + 1 } : AM).put true m.high.tail) ∧ m.high.tail = l) := Lib.hid ⟨rfl, by rw [hlm]; rfl⟩
  have hlw : (0 : Int) < r.n1 := by have := h.lo.len; omega
  have hwr : IntKind.i64.wrap ((m.run : Int) + 1) = (m.run : Int) + 1 := by rw [IntKind.wrap_i64]; omega
  have hwc : IntKind.i64.wrap (m.ct 0 + 1) = m.ct 0 + 1 := by have := hct 0; rw [IntKind.wrap_i64]; omega
  have hb0 : ∀ o o', Below w.heap.size w ((w.alloc o).alloc o') := fun o o' => ((Below.refl _ _).alloc (Nat.le_refl _) o).alloc (by simp) o'
  have hg0 : Gr F (fun k => F k ∨ k = w.heap.size ∨ k = w.heap.size + 1) w.heap.size := fun k hk => hk.imp id (by omega)
  have HP : Hid (∀ o o', Calls Try.prog 33 #[.agg #[.slice r.a1 r.n1 r.c1, .slice r.a2 r.n2 r.c2, .int .i64 m.lr, .int .i64 m.hr, .int .i64 m.wt, .int .i64 m.run, .int .i64 (m.ct 0), .int .i64 (m.ct 1), .int .i64 (m.ct 2), .int .i64 (m.ct 3), .int .i64 (m.ct 4)]] ((w.alloc o).alloc o') fun e w' => ∃ q' : Pv, e = .returned (.tuple #[.agg #[.int .i64 q'.h.kd, .int .i64 q'.h.fl, .int .i64 q'.h.pa, .int .i64 q'.h.sr, .int .i64 q'.h.ds, .int .i64 q'.h.cn, .int .i64 q'.h.sq, .int .i64 q'.h.pu, .slice q'.A q'.n q'.c], .bool true]) ∧ q'.pk = x ∧ PvR (fun k => F k ∨ k = w.heap.size ∨ k = w.heap.size + 1) w' q' ∧ Below ((w.alloc o).alloc o').heap.size ((w.alloc o).alloc o') w') := Lib.hid fun o o' => by
    have := r_peek ((h.st (St.refl F w) hg0).below (hb0 o o')) (fun k hk => by simp; rcases hk with hk | hk; (have := hF k hk; omega); omega)
    rw [hi, hx] at this
    exact this
  have HR := Lib.hid (h.st (St.refl F w) hg0)
  have HF := Lib.hid hF
  have HI := Lib.hid hi
  have hcut : ∀ W, (Instr.slice 27 (.slice r.a2 r.n2 r.c2) (some (.int .i64 1)) none none).run Try.prog W = .ok (.slice (cutR r.a2 r.c2 1 9) (r.n2 - 1) (r.c2 - 1)) W := fun W => eltP.run_cut r.a2 r.n2 r.c2 1 hn1 (by obtain ⟨qs, z1, z2, z3, z4, z5⟩ := h.hi; exact z2.2.1) W
  have HCUT := Lib.hid hcut
  have HNM := Lib.hid hnm
  have HN1 := Lib.hid hn1
  clear h hF hl hh hct hru hi hx hlm hb0 hg0 hnr hnm hn1 hcut hlp
  generalize hcutX : cutR r.a2 r.c2 1 9 = cX at *
  have HCX := Lib.hid hcutX
  clear hcutX
  have hcut := HCUT.out
  go_enter Try.func11, Try.ntmps11
  go_wp2_with fail
  refine (HP.out _ _).mono ?_
  rintro e w1 ⟨q, rfl, hk1, hq1, hb1⟩
  obtain ⟨h2, h4, hc⟩ := new2 hb1
  have HK := Lib.hid hk1
  have hba := (Below.refl w1.heap.size w1).alloc (Nat.le_refl _) (.cells (List.toArray [.int .i64 q.h.kd, .int .i64 q.h.fl, .int .i64 q.h.pa, .int .i64 q.h.sr, .int .i64 q.h.ds, .int .i64 q.h.cn, .int .i64 q.h.sq, .int .i64 q.h.pu, .slice q.A q.n q.c]) 37)
  have hgy : Gr (fun k => F k ∨ k = w.heap.size ∨ k = w.heap.size + 1) (By F w w1.heap.size) w1.heap.size := fun k hk => by
    rcases hk with hk | hk | hk | hk
    · exact .inl (.inl hk)
    · exact .inl (.inr (.inl hk))
    · exact .inl (.inr (.inr hk))
    · exact .inr (by omega)
  have HS0 : Hid (RT F w w1.heap.size (w1.alloc (.cells (List.toArray [.int .i64 q.h.kd, .int .i64 q.h.fl, .int .i64 q.h.pa, .int .i64 q.h.sr, .int .i64 q.h.ds, .int .i64 q.h.cn, .int .i64 q.h.sq, .int .i64 q.h.pu, .slice q.A q.n q.c]) 37)) r m q) := Lib.hid ⟨h2.below hba, h4.below hba, Bk.new w1 37 [.int .i64 q.h.kd, .int .i64 q.h.fl, .int .i64 q.h.pa, .int .i64 q.h.sr, .int .i64 q.h.ds, .int .i64 q.h.cn, .int .i64 q.h.sq, .int .i64 q.h.pu, .slice q.A q.n q.c], h4.lt, hc.alloc hc.size _, ((HR.out.below hc).st (St.refl _ _) hgy).below hba, (hq1.gr hgy).below hba⟩
  have h2a := HS0.out.b2
  clear hk1 hq1 hb1 h2 h4 hc hba hgy HP HR
  go_wp2_with (with_reducible refine at_load 30 (.tmp 2) (by rfl) ?_; refine wpList_load_rp rowR rfl (.tmp 2) rfl r m w.heap.size rfl h2a ?_)
  refine (r_high HS0.out.rp).mono ?_
  rintro e w2 ⟨rfl, hb2⟩
  rw [HI.out]
  have HS1 := Lib.hid (HS0.out.below hb2)
  have HSa := Lib.hid (HS1.out.cell 5 (.int .i64 ((m.run : Int) + 1)) (r' := r) (m' := { m with run := m.run + 1 }) rfl ⟨HS1.out.rp.lo, HS1.out.rp.hi⟩)
  have HSb := Lib.hid (HSa.out.cell 1 (.slice (cX) (r.n2 - 1) (r.c2 - 1)) (r' := ⟨r.a1, r.n1, r.c1, cX, r.n2 - 1, r.c2 - 1⟩) (m' := (({ m with run := m.run + 1 } : AM).put true m.high.tail)) rfl (by have := HSa.out.rp.cutHigh HN1.out; rw [HCX.out] at this; exact this))
  have a0 := HS1.out.b2.cell 0 rfl
  have a1 := HS1.out.b2.cell 1 rfl
  have a5 := HS1.out.b2.cell 5 rfl
  have a6 := HS1.out.b2.cell 6 rfl
  have f0 := HS1.out.b2.free 0
  have f1 := HS1.out.b2.free 1
  have f5 := HS1.out.b2.free 5
  have f6 := HS1.out.b2.free 6
  have h7 := HSb.out.b7
  clear hb2 h2a HS0
  go_wp2_with (with_reducible refine at_load 37 (.tmp 7) (by rfl) ?_; refine wpList_load_pk rowP rfl (.tmp 7) rfl q w1.heap.size 0 rfl (Bk.pk (q := q) h7) ?_)
  refine (r_with HSb.out.rp.hi HSb.out.pv (HSb.out.bd HF.out) (show r.n2 - 1 ≤ 2000 by have := HNM.out; omega)).mono ?_
  rintro e w3 ⟨A3, n3, c3, rfl, hs3, hb3⟩
  have HSc := Lib.hid (HSb.out.below hb3)
  have HSd := Lib.hid (HSc.out.cell 1 (.slice A3 n3 c3) (r' := ⟨r.a1, r.n1, r.c1, A3, n3, c3⟩) (m' := (({ m with run := m.run + 1 } : AM).put true m.high.tail).put true (m.high.tail ++ [q.pk])) rfl ⟨HSc.out.rp.lo, hs3⟩)
  have b1 := HSc.out.b2.cell 1 rfl
  have g1 := HSc.out.b2.free 1
  have b6 : w3.cell? ⟨w.heap.size, 6, none⟩ = some (.int .i64 (m.ct 0)) := HSc.out.b2.cell 6 rfl
  have g6 := HSc.out.b2.free 6
  clear a0 a1 a5 a6 f0 f1 f5 f6 h7 hb3 hcut
  have z2 := HSd.out.b2
  have z4 := HSd.out.b4
  go_wp2_with (first
    | (with_reducible refine at_load 30 (.tmp 2) (by rfl) ?_; refine wpList_load_rp rowR rfl (.tmp 2) rfl ⟨r.a1, r.n1, r.c1, A3, n3, c3⟩ ((({ m with run := m.run + 1 } : AM).put true m.high.tail).put true (m.high.tail ++ [q.pk])) w.heap.size rfl z2 ?_)
    | (with_reducible refine at_store 30 (.tmp 4) (.tmp 69) (by rfl) ?_; refine wpList_put_rp rowR rfl (.tmp 4) (.tmp 69) rfl (w.heap.size + 1) rfl z4 rfl ⟨r.a1, r.n1, r.c1, A3, n3, c3⟩ ((({ m with run := m.run + 1 } : AM).put true m.high.tail).put true (m.high.tail ++ [q.pk])) rfl ?_; rintro w5 h45 hw5))
  have HSF := wr_by (F := F) (w := w) (g := w1.heap.size) (.inr (.inl rfl)) hw5
  have hrp := HSd.out.rp.st HSF (Gr.refl _ _)
  have HFIN : Hid (m.srv 3 true x l = ((({ m with run := m.run + 1 } : AM).put true m.high.tail).put true (m.high.tail ++ [q.pk]))) := Lib.hid (by simp [AM.srv]; rw [HM.out, ← HTL.out.2, ← HK.out])
  refine bodyPost_ret (results_ctt rfl rfl (rowR.load h45 0 (cs := RV.cl ⟨r.a1, r.n1, r.c1, A3, n3, c3⟩ ((({ m with run := m.run + 1 } : AM).put true m.high.tail).put true (m.high.tail ++ [q.pk]))) rfl rfl)) rfl ?_
  rw [HFIN.out]
  refine ⟨⟨r.a1, r.n1, r.c1, A3, n3, c3⟩, none, 0, 0, ?_, (show RpR F _ _ _ from ⟨hrp.lo.mono fun k hk => .inl hk, hrp.hi.mono fun k hk => .inl hk⟩), SlP.nil _ _, HSd.out.bl.trans (hw5.below (by omega) HSd.out.bl.size)⟩
  kernel_rfl
set_option maxHeartbeats 4000000 in
set_option maxRecDepth 100000 in
theorem r_serve_h3 (h : RpR F w r m) (hF : ∀ k, F k → k < w.heap.size) (hl : m.low.length ≤ 1024) (hh : m.high.length ≤ 1024) (hct : ∀ k, -1 ≤ m.ct k ∧ m.ct k ≤ 1000000) (hru : m.run ≤ 1024) (hi : m.hiB = true) (hlp : m.low.length = 0) (x : Pk) (l : List Pk) (hx : m.sel m.hiB = x :: l) :
    Calls Try.prog 11 #[.agg #[.slice r.a1 r.n1 r.c1, .slice r.a2 r.n2 r.c2, .int .i64 m.lr, .int .i64 m.hr, .int .i64 m.wt, .int .i64 m.run, .int .i64 (m.ct 0), .int .i64 (m.ct 1), .int .i64 (m.ct 2), .int .i64 (m.ct 3), .int .i64 (m.ct 4)], .int .i64 3] w (RServeTo F w (m.srv 3 true x l) [] 0) := by
  rw [hi] at hx
  have hlm : m.high = x :: l := hx
  have hn1 : 1 ≤ r.n2 := by rw [← h.hi.len, hlm]; simp
  have hnm : r.n2 ≤ 2000 := by rw [← h.hi.len]; exact Nat.le_trans hh (by decide)
  have hnr : m.nrun true = 0 := by simp [AM.nrun, hlp]
  have HM : Hid (m.took true l = (({ m with run := 0 } : AM).put true m.high.tail)) := Lib.hid (by unfold AM.took; rw [hnr]; show _ = ({ m with run := 0 } : AM).put true m.high.tail; rw [hlm]; rfl)
  have HTL : Hid (({ m with run := 0 } : AM).put true m.high.tail = (({ m with run := 0 } : AM).put true m.high.tail) ∧ m.high.tail = l) := Lib.hid ⟨rfl, by rw [hlm]; rfl⟩
  have hlw : (r.n1 : Int) ≤ 0 := by have := h.lo.len; omega
  have hwr : IntKind.i64.wrap ((m.run : Int) + 1) = (m.run : Int) + 1 := by rw [IntKind.wrap_i64]; omega
  have hwc : IntKind.i64.wrap (m.ct 0 + 1) = m.ct 0 + 1 := by have := hct 0; rw [IntKind.wrap_i64]; omega
  have hb0 : ∀ o o', Below w.heap.size w ((w.alloc o).alloc o') := fun o o' => ((Below.refl _ _).alloc (Nat.le_refl _) o).alloc (by simp) o'
  have hg0 : Gr F (fun k => F k ∨ k = w.heap.size ∨ k = w.heap.size + 1) w.heap.size := fun k hk => hk.imp id (by omega)
  have HP : Hid (∀ o o', Calls Try.prog 33 #[.agg #[.slice r.a1 r.n1 r.c1, .slice r.a2 r.n2 r.c2, .int .i64 m.lr, .int .i64 m.hr, .int .i64 m.wt, .int .i64 m.run, .int .i64 (m.ct 0), .int .i64 (m.ct 1), .int .i64 (m.ct 2), .int .i64 (m.ct 3), .int .i64 (m.ct 4)]] ((w.alloc o).alloc o') fun e w' => ∃ q' : Pv, e = .returned (.tuple #[.agg #[.int .i64 q'.h.kd, .int .i64 q'.h.fl, .int .i64 q'.h.pa, .int .i64 q'.h.sr, .int .i64 q'.h.ds, .int .i64 q'.h.cn, .int .i64 q'.h.sq, .int .i64 q'.h.pu, .slice q'.A q'.n q'.c], .bool true]) ∧ q'.pk = x ∧ PvR (fun k => F k ∨ k = w.heap.size ∨ k = w.heap.size + 1) w' q' ∧ Below ((w.alloc o).alloc o').heap.size ((w.alloc o).alloc o') w') := Lib.hid fun o o' => by
    have := r_peek ((h.st (St.refl F w) hg0).below (hb0 o o')) (fun k hk => by simp; rcases hk with hk | hk; (have := hF k hk; omega); omega)
    rw [hi, hx] at this
    exact this
  have HR := Lib.hid (h.st (St.refl F w) hg0)
  have HF := Lib.hid hF
  have HI := Lib.hid hi
  have hcut : ∀ W, (Instr.slice 27 (.slice r.a2 r.n2 r.c2) (some (.int .i64 1)) none none).run Try.prog W = .ok (.slice (cutR r.a2 r.c2 1 9) (r.n2 - 1) (r.c2 - 1)) W := fun W => eltP.run_cut r.a2 r.n2 r.c2 1 hn1 (by obtain ⟨qs, z1, z2, z3, z4, z5⟩ := h.hi; exact z2.2.1) W
  have HCUT := Lib.hid hcut
  have HNM := Lib.hid hnm
  have HN1 := Lib.hid hn1
  clear h hF hl hh hct hru hi hx hlm hb0 hg0 hnr hnm hn1 hcut hlp
  generalize hcutX : cutR r.a2 r.c2 1 9 = cX at *
  have HCX := Lib.hid hcutX
  clear hcutX
  have hcut := HCUT.out
  go_enter Try.func11, Try.ntmps11
  go_wp2_with fail
  refine (HP.out _ _).mono ?_
  rintro e w1 ⟨q, rfl, hk1, hq1, hb1⟩
  obtain ⟨h2, h4, hc⟩ := new2 hb1
  have HK := Lib.hid hk1
  have hba := (Below.refl w1.heap.size w1).alloc (Nat.le_refl _) (.cells (List.toArray [.int .i64 q.h.kd, .int .i64 q.h.fl, .int .i64 q.h.pa, .int .i64 q.h.sr, .int .i64 q.h.ds, .int .i64 q.h.cn, .int .i64 q.h.sq, .int .i64 q.h.pu, .slice q.A q.n q.c]) 37)
  have hgy : Gr (fun k => F k ∨ k = w.heap.size ∨ k = w.heap.size + 1) (By F w w1.heap.size) w1.heap.size := fun k hk => by
    rcases hk with hk | hk | hk | hk
    · exact .inl (.inl hk)
    · exact .inl (.inr (.inl hk))
    · exact .inl (.inr (.inr hk))
    · exact .inr (by omega)
  have HS0 : Hid (RT F w w1.heap.size (w1.alloc (.cells (List.toArray [.int .i64 q.h.kd, .int .i64 q.h.fl, .int .i64 q.h.pa, .int .i64 q.h.sr, .int .i64 q.h.ds, .int .i64 q.h.cn, .int .i64 q.h.sq, .int .i64 q.h.pu, .slice q.A q.n q.c]) 37)) r m q) := Lib.hid ⟨h2.below hba, h4.below hba, Bk.new w1 37 [.int .i64 q.h.kd, .int .i64 q.h.fl, .int .i64 q.h.pa, .int .i64 q.h.sr, .int .i64 q.h.ds, .int .i64 q.h.cn, .int .i64 q.h.sq, .int .i64 q.h.pu, .slice q.A q.n q.c], h4.lt, hc.alloc hc.size _, ((HR.out.below hc).st (St.refl _ _) hgy).below hba, (hq1.gr hgy).below hba⟩
  have h2a := HS0.out.b2
  clear hk1 hq1 hb1 h2 h4 hc hba hgy HP HR
  go_wp2_with (with_reducible refine at_load 30 (.tmp 2) (by rfl) ?_; refine wpList_load_rp rowR rfl (.tmp 2) rfl r m w.heap.size rfl h2a ?_)
  refine (r_high HS0.out.rp).mono ?_
  rintro e w2 ⟨rfl, hb2⟩
  rw [HI.out]
  have HS1 := Lib.hid (HS0.out.below hb2)
  have HSa := Lib.hid (HS1.out.cell 5 (.int .i64 (0)) (r' := r) (m' := { m with run := 0 }) rfl ⟨HS1.out.rp.lo, HS1.out.rp.hi⟩)
  have HSb := Lib.hid (HSa.out.cell 1 (.slice (cX) (r.n2 - 1) (r.c2 - 1)) (r' := ⟨r.a1, r.n1, r.c1, cX, r.n2 - 1, r.c2 - 1⟩) (m' := (({ m with run := 0 } : AM).put true m.high.tail)) rfl (by have := HSa.out.rp.cutHigh HN1.out; rw [HCX.out] at this; exact this))
  have a0 := HS1.out.b2.cell 0 rfl
  have a1 := HS1.out.b2.cell 1 rfl
  have a5 := HS1.out.b2.cell 5 rfl
  have a6 := HS1.out.b2.cell 6 rfl
  have f0 := HS1.out.b2.free 0
  have f1 := HS1.out.b2.free 1
  have f5 := HS1.out.b2.free 5
  have f6 := HS1.out.b2.free 6
  have h7 := HSb.out.b7
  clear hb2 h2a HS0
  go_wp2_with (with_reducible refine at_load 37 (.tmp 7) (by rfl) ?_; refine wpList_load_pk rowP rfl (.tmp 7) rfl q w1.heap.size 0 rfl (Bk.pk (q := q) h7) ?_)
  refine (r_with HSb.out.rp.hi HSb.out.pv (HSb.out.bd HF.out) (show r.n2 - 1 ≤ 2000 by have := HNM.out; omega)).mono ?_
  rintro e w3 ⟨A3, n3, c3, rfl, hs3, hb3⟩
  have HSc := Lib.hid (HSb.out.below hb3)
  have HSd := Lib.hid (HSc.out.cell 1 (.slice A3 n3 c3) (r' := ⟨r.a1, r.n1, r.c1, A3, n3, c3⟩) (m' := (({ m with run := 0 } : AM).put true m.high.tail).put true (m.high.tail ++ [q.pk])) rfl ⟨HSc.out.rp.lo, hs3⟩)
  have b1 := HSc.out.b2.cell 1 rfl
  have g1 := HSc.out.b2.free 1
  have b6 : w3.cell? ⟨w.heap.size, 6, none⟩ = some (.int .i64 (m.ct 0)) := HSc.out.b2.cell 6 rfl
  have g6 := HSc.out.b2.free 6
  clear a0 a1 a5 a6 f0 f1 f5 f6 h7 hb3 hcut
  have z2 := HSd.out.b2
  have z4 := HSd.out.b4
  go_wp2_with (first
    | (with_reducible refine at_load 30 (.tmp 2) (by rfl) ?_; refine wpList_load_rp rowR rfl (.tmp 2) rfl ⟨r.a1, r.n1, r.c1, A3, n3, c3⟩ ((({ m with run := 0 } : AM).put true m.high.tail).put true (m.high.tail ++ [q.pk])) w.heap.size rfl z2 ?_)
    | (with_reducible refine at_store 30 (.tmp 4) (.tmp 69) (by rfl) ?_; refine wpList_put_rp rowR rfl (.tmp 4) (.tmp 69) rfl (w.heap.size + 1) rfl z4 rfl ⟨r.a1, r.n1, r.c1, A3, n3, c3⟩ ((({ m with run := 0 } : AM).put true m.high.tail).put true (m.high.tail ++ [q.pk])) rfl ?_; rintro w5 h45 hw5))
  have HSF := wr_by (F := F) (w := w) (g := w1.heap.size) (.inr (.inl rfl)) hw5
  have hrp := HSd.out.rp.st HSF (Gr.refl _ _)
  have HFIN : Hid (m.srv 3 true x l = ((({ m with run := 0 } : AM).put true m.high.tail).put true (m.high.tail ++ [q.pk]))) := Lib.hid (by simp [AM.srv]; rw [HM.out, ← HTL.out.2, ← HK.out])
  refine bodyPost_ret (results_ctt rfl rfl (rowR.load h45 0 (cs := RV.cl ⟨r.a1, r.n1, r.c1, A3, n3, c3⟩ ((({ m with run := 0 } : AM).put true m.high.tail).put true (m.high.tail ++ [q.pk]))) rfl rfl)) rfl ?_
  rw [HFIN.out]
  refine ⟨⟨r.a1, r.n1, r.c1, A3, n3, c3⟩, none, 0, 0, ?_, (show RpR F _ _ _ from ⟨hrp.lo.mono fun k hk => .inl hk, hrp.hi.mono fun k hk => .inl hk⟩), SlP.nil _ _, HSd.out.bl.trans (hw5.below (by omega) HSd.out.bl.size)⟩
  kernel_rfl
set_option maxHeartbeats 4000000 in
set_option maxRecDepth 100000 in
theorem r_serve_l3 (h : RpR F w r m) (hF : ∀ k, F k → k < w.heap.size) (hl : m.low.length ≤ 1024) (hh : m.high.length ≤ 1024) (hct : ∀ k, -1 ≤ m.ct k ∧ m.ct k ≤ 1000000) (hru : m.run ≤ 1024) (hi : m.hiB = false)  (x : Pk) (l : List Pk) (hx : m.sel m.hiB = x :: l) :
    Calls Try.prog 11 #[.agg #[.slice r.a1 r.n1 r.c1, .slice r.a2 r.n2 r.c2, .int .i64 m.lr, .int .i64 m.hr, .int .i64 m.wt, .int .i64 m.run, .int .i64 (m.ct 0), .int .i64 (m.ct 1), .int .i64 (m.ct 2), .int .i64 (m.ct 3), .int .i64 (m.ct 4)], .int .i64 3] w (RServeTo F w (m.srv 3 false x l) [] 0) := by
  rw [hi] at hx
  have hlm : m.low = x :: l := hx
  have hn1 : 1 ≤ r.n1 := by rw [← h.lo.len, hlm]; simp
  have hnm : r.n1 ≤ 2000 := by rw [← h.lo.len]; exact Nat.le_trans hl (by decide)
  have hnr : m.nrun false = 0 := by simp [AM.nrun]
  have HM : Hid (m.took false l = (({ m with run := 0 } : AM).put false m.low.tail)) := Lib.hid (by unfold AM.took; rw [hnr]; show _ = ({ m with run := 0 } : AM).put false m.low.tail; rw [hlm]; rfl)
  have HTL : Hid (({ m with run := 0 } : AM).put false m.low.tail = (({ m with run := 0 } : AM).put false m.low.tail) ∧ m.low.tail = l) := Lib.hid ⟨rfl, by rw [hlm]; rfl⟩
  have hwr : IntKind.i64.wrap ((m.run : Int) + 1) = (m.run : Int) + 1 := by rw [IntKind.wrap_i64]; omega
  have hwc : IntKind.i64.wrap (m.ct 0 + 1) = m.ct 0 + 1 := by have := hct 0; rw [IntKind.wrap_i64]; omega
  have hb0 : ∀ o o', Below w.heap.size w ((w.alloc o).alloc o') := fun o o' => ((Below.refl _ _).alloc (Nat.le_refl _) o).alloc (by simp) o'
  have hg0 : Gr F (fun k => F k ∨ k = w.heap.size ∨ k = w.heap.size + 1) w.heap.size := fun k hk => hk.imp id (by omega)
  have HP : Hid (∀ o o', Calls Try.prog 33 #[.agg #[.slice r.a1 r.n1 r.c1, .slice r.a2 r.n2 r.c2, .int .i64 m.lr, .int .i64 m.hr, .int .i64 m.wt, .int .i64 m.run, .int .i64 (m.ct 0), .int .i64 (m.ct 1), .int .i64 (m.ct 2), .int .i64 (m.ct 3), .int .i64 (m.ct 4)]] ((w.alloc o).alloc o') fun e w' => ∃ q' : Pv, e = .returned (.tuple #[.agg #[.int .i64 q'.h.kd, .int .i64 q'.h.fl, .int .i64 q'.h.pa, .int .i64 q'.h.sr, .int .i64 q'.h.ds, .int .i64 q'.h.cn, .int .i64 q'.h.sq, .int .i64 q'.h.pu, .slice q'.A q'.n q'.c], .bool true]) ∧ q'.pk = x ∧ PvR (fun k => F k ∨ k = w.heap.size ∨ k = w.heap.size + 1) w' q' ∧ Below ((w.alloc o).alloc o').heap.size ((w.alloc o).alloc o') w') := Lib.hid fun o o' => by
    have := r_peek ((h.st (St.refl F w) hg0).below (hb0 o o')) (fun k hk => by simp; rcases hk with hk | hk; (have := hF k hk; omega); omega)
    rw [hi, hx] at this
    exact this
  have HR := Lib.hid (h.st (St.refl F w) hg0)
  have HF := Lib.hid hF
  have HI := Lib.hid hi
  have hcut : ∀ W, (Instr.slice 27 (.slice r.a1 r.n1 r.c1) (some (.int .i64 1)) none none).run Try.prog W = .ok (.slice (cutR r.a1 r.c1 1 9) (r.n1 - 1) (r.c1 - 1)) W := fun W => eltP.run_cut r.a1 r.n1 r.c1 1 hn1 (by obtain ⟨qs, z1, z2, z3, z4, z5⟩ := h.lo; exact z2.2.1) W
  have HCUT := Lib.hid hcut
  have HNM := Lib.hid hnm
  have HN1 := Lib.hid hn1
  clear h hF hl hh hct hru hi hx hlm hb0 hg0 hnr hnm hn1 hcut
  generalize hcutX : cutR r.a1 r.c1 1 9 = cX at *
  have HCX := Lib.hid hcutX
  clear hcutX
  have hcut := HCUT.out
  go_enter Try.func11, Try.ntmps11
  go_wp2_with fail
  refine (HP.out _ _).mono ?_
  rintro e w1 ⟨q, rfl, hk1, hq1, hb1⟩
  obtain ⟨h2, h4, hc⟩ := new2 hb1
  have HK := Lib.hid hk1
  have hba := (Below.refl w1.heap.size w1).alloc (Nat.le_refl _) (.cells (List.toArray [.int .i64 q.h.kd, .int .i64 q.h.fl, .int .i64 q.h.pa, .int .i64 q.h.sr, .int .i64 q.h.ds, .int .i64 q.h.cn, .int .i64 q.h.sq, .int .i64 q.h.pu, .slice q.A q.n q.c]) 37)
  have hgy : Gr (fun k => F k ∨ k = w.heap.size ∨ k = w.heap.size + 1) (By F w w1.heap.size) w1.heap.size := fun k hk => by
    rcases hk with hk | hk | hk | hk
    · exact .inl (.inl hk)
    · exact .inl (.inr (.inl hk))
    · exact .inl (.inr (.inr hk))
    · exact .inr (by omega)
  have HS0 : Hid (RT F w w1.heap.size (w1.alloc (.cells (List.toArray [.int .i64 q.h.kd, .int .i64 q.h.fl, .int .i64 q.h.pa, .int .i64 q.h.sr, .int .i64 q.h.ds, .int .i64 q.h.cn, .int .i64 q.h.sq, .int .i64 q.h.pu, .slice q.A q.n q.c]) 37)) r m q) := Lib.hid ⟨h2.below hba, h4.below hba, Bk.new w1 37 [.int .i64 q.h.kd, .int .i64 q.h.fl, .int .i64 q.h.pa, .int .i64 q.h.sr, .int .i64 q.h.ds, .int .i64 q.h.cn, .int .i64 q.h.sq, .int .i64 q.h.pu, .slice q.A q.n q.c], h4.lt, hc.alloc hc.size _, ((HR.out.below hc).st (St.refl _ _) hgy).below hba, (hq1.gr hgy).below hba⟩
  have h2a := HS0.out.b2
  clear hk1 hq1 hb1 h2 h4 hc hba hgy HP HR
  go_wp2_with (with_reducible refine at_load 30 (.tmp 2) (by rfl) ?_; refine wpList_load_rp rowR rfl (.tmp 2) rfl r m w.heap.size rfl h2a ?_)
  refine (r_high HS0.out.rp).mono ?_
  rintro e w2 ⟨rfl, hb2⟩
  rw [HI.out]
  have HS1 := Lib.hid (HS0.out.below hb2)
  have HSa := Lib.hid (HS1.out.cell 5 (.int .i64 (0)) (r' := r) (m' := { m with run := 0 }) rfl ⟨HS1.out.rp.lo, HS1.out.rp.hi⟩)
  have HSb := Lib.hid (HSa.out.cell 0 (.slice (cX) (r.n1 - 1) (r.c1 - 1)) (r' := ⟨cX, r.n1 - 1, r.c1 - 1, r.a2, r.n2, r.c2⟩) (m' := (({ m with run := 0 } : AM).put false m.low.tail)) rfl (by have := HSa.out.rp.cutLow HN1.out; rw [HCX.out] at this; exact this))
  have a0 := HS1.out.b2.cell 0 rfl
  have a1 := HS1.out.b2.cell 1 rfl
  have a5 := HS1.out.b2.cell 5 rfl
  have a6 := HS1.out.b2.cell 6 rfl
  have f0 := HS1.out.b2.free 0
  have f1 := HS1.out.b2.free 1
  have f5 := HS1.out.b2.free 5
  have f6 := HS1.out.b2.free 6
  have h7 := HSb.out.b7
  clear hb2 h2a HS0
  go_wp2_with (with_reducible refine at_load 37 (.tmp 7) (by rfl) ?_; refine wpList_load_pk rowP rfl (.tmp 7) rfl q w1.heap.size 0 rfl (Bk.pk (q := q) h7) ?_)
  refine (r_with HSb.out.rp.lo HSb.out.pv (HSb.out.bd HF.out) (show r.n1 - 1 ≤ 2000 by have := HNM.out; omega)).mono ?_
  rintro e w3 ⟨A3, n3, c3, rfl, hs3, hb3⟩
  have HSc := Lib.hid (HSb.out.below hb3)
  have HSd := Lib.hid (HSc.out.cell 0 (.slice A3 n3 c3) (r' := ⟨A3, n3, c3, r.a2, r.n2, r.c2⟩) (m' := (({ m with run := 0 } : AM).put false m.low.tail).put false (m.low.tail ++ [q.pk])) rfl ⟨hs3, HSc.out.rp.hi⟩)
  have b1 := HSc.out.b2.cell 0 rfl
  have g1 := HSc.out.b2.free 0
  have b6 : w3.cell? ⟨w.heap.size, 6, none⟩ = some (.int .i64 (m.ct 0)) := HSc.out.b2.cell 6 rfl
  have g6 := HSc.out.b2.free 6
  clear a0 a1 a5 a6 f0 f1 f5 f6 h7 hb3 hcut
  have z2 := HSd.out.b2
  have z4 := HSd.out.b4
  go_wp2_with (first
    | (with_reducible refine at_load 30 (.tmp 2) (by rfl) ?_; refine wpList_load_rp rowR rfl (.tmp 2) rfl ⟨A3, n3, c3, r.a2, r.n2, r.c2⟩ ((({ m with run := 0 } : AM).put false m.low.tail).put false (m.low.tail ++ [q.pk])) w.heap.size rfl z2 ?_)
    | (with_reducible refine at_store 30 (.tmp 4) (.tmp 69) (by rfl) ?_; refine wpList_put_rp rowR rfl (.tmp 4) (.tmp 69) rfl (w.heap.size + 1) rfl z4 rfl ⟨A3, n3, c3, r.a2, r.n2, r.c2⟩ ((({ m with run := 0 } : AM).put false m.low.tail).put false (m.low.tail ++ [q.pk])) rfl ?_; rintro w5 h45 hw5))
  have HSF := wr_by (F := F) (w := w) (g := w1.heap.size) (.inr (.inl rfl)) hw5
  have hrp := HSd.out.rp.st HSF (Gr.refl _ _)
  have HFIN : Hid (m.srv 3 false x l = ((({ m with run := 0 } : AM).put false m.low.tail).put false (m.low.tail ++ [q.pk]))) := Lib.hid (by simp [AM.srv]; rw [HM.out, ← HTL.out.2, ← HK.out])
  refine bodyPost_ret (results_ctt rfl rfl (rowR.load h45 0 (cs := RV.cl ⟨A3, n3, c3, r.a2, r.n2, r.c2⟩ ((({ m with run := 0 } : AM).put false m.low.tail).put false (m.low.tail ++ [q.pk]))) rfl rfl)) rfl ?_
  rw [HFIN.out]
  refine ⟨⟨A3, n3, c3, r.a2, r.n2, r.c2⟩, none, 0, 0, ?_, (show RpR F _ _ _ from ⟨hrp.lo.mono fun k hk => .inl hk, hrp.hi.mono fun k hk => .inl hk⟩), SlP.nil _ _, HSd.out.bl.trans (hw5.below (by omega) HSd.out.bl.size)⟩
  kernel_rfl
set_option maxHeartbeats 4000000 in
set_option maxRecDepth 100000 in
theorem r_serve_hp4 (h : RpR F w r m) (hF : ∀ k, F k → k < w.heap.size) (hl : m.low.length ≤ 1024) (hh : m.high.length ≤ 1024) (hct : ∀ k, -1 ≤ m.ct k ∧ m.ct k ≤ 1000000) (hru : m.run ≤ 1024) (hi : m.hiB = true) (hlp : 0 < m.low.length) (x : Pk) (l : List Pk) (hx : m.sel m.hiB = x :: l) :
    Calls Try.prog 11 #[.agg #[.slice r.a1 r.n1 r.c1, .slice r.a2 r.n2 r.c2, .int .i64 m.lr, .int .i64 m.hr, .int .i64 m.wt, .int .i64 m.run, .int .i64 (m.ct 0), .int .i64 (m.ct 1), .int .i64 (m.ct 2), .int .i64 (m.ct 3), .int .i64 (m.ct 4)], .int .i64 4] w (RServeTo F w (m.srv 4 true x l) [x] 0) := by
  rw [hi] at hx
  have hlm : m.high = x :: l := hx
  have hn1 : 1 ≤ r.n2 := by rw [← h.hi.len, hlm]; simp
  have hnm : r.n2 ≤ 2000 := by rw [← h.hi.len]; exact Nat.le_trans hh (by decide)
  have hnr : m.nrun true = m.run + 1 := by simp [AM.nrun, hlp]
  have HM : Hid (m.took true l = (({ m with run := m.run + 1 } : AM).put true m.high.tail)) := Lib.hid (by unfold AM.took; rw [hnr]; show _ = ({ m with run := m.run + 1 } : AM).put true m.high.tail; rw [hlm]; rfl)
  have HTL : Hid (({ m with run := m.run + 1 } : AM).put true m.high.tail = (({ m with run := m.run + 1 } : AM).put true m.high.tail) ∧ m.high.tail = l) := Lib.hid ⟨rfl, by rw [hlm]; rfl⟩
  have hlw : (0 : Int) < r.n1 := by have := h.lo.len; omega
  have hwr : IntKind.i64.wrap ((m.run : Int) + 1) = (m.run : Int) + 1 := by rw [IntKind.wrap_i64]; omega
  have hwc : IntKind.i64.wrap (m.ct 0 + 1) = m.ct 0 + 1 := by have := hct 0; rw [IntKind.wrap_i64]; omega
  have hb0 : ∀ o o', Below w.heap.size w ((w.alloc o).alloc o') := fun o o' => ((Below.refl _ _).alloc (Nat.le_refl _) o).alloc (by simp) o'
  have hg0 : Gr F (fun k => F k ∨ k = w.heap.size ∨ k = w.heap.size + 1) w.heap.size := fun k hk => hk.imp id (by omega)
  have HP : Hid (∀ o o', Calls Try.prog 33 #[.agg #[.slice r.a1 r.n1 r.c1, .slice r.a2 r.n2 r.c2, .int .i64 m.lr, .int .i64 m.hr, .int .i64 m.wt, .int .i64 m.run, .int .i64 (m.ct 0), .int .i64 (m.ct 1), .int .i64 (m.ct 2), .int .i64 (m.ct 3), .int .i64 (m.ct 4)]] ((w.alloc o).alloc o') fun e w' => ∃ q' : Pv, e = .returned (.tuple #[.agg #[.int .i64 q'.h.kd, .int .i64 q'.h.fl, .int .i64 q'.h.pa, .int .i64 q'.h.sr, .int .i64 q'.h.ds, .int .i64 q'.h.cn, .int .i64 q'.h.sq, .int .i64 q'.h.pu, .slice q'.A q'.n q'.c], .bool true]) ∧ q'.pk = x ∧ PvR (fun k => F k ∨ k = w.heap.size ∨ k = w.heap.size + 1) w' q' ∧ Below ((w.alloc o).alloc o').heap.size ((w.alloc o).alloc o') w') := Lib.hid fun o o' => by
    have := r_peek ((h.st (St.refl F w) hg0).below (hb0 o o')) (fun k hk => by simp; rcases hk with hk | hk; (have := hF k hk; omega); omega)
    rw [hi, hx] at this
    exact this
  have HR := Lib.hid (h.st (St.refl F w) hg0)
  have HF := Lib.hid hF
  have HI := Lib.hid hi
  have hcut : ∀ W, (Instr.slice 27 (.slice r.a2 r.n2 r.c2) (some (.int .i64 1)) none none).run Try.prog W = .ok (.slice (cutR r.a2 r.c2 1 9) (r.n2 - 1) (r.c2 - 1)) W := fun W => eltP.run_cut r.a2 r.n2 r.c2 1 hn1 (by obtain ⟨qs, z1, z2, z3, z4, z5⟩ := h.hi; exact z2.2.1) W
  have HCUT := Lib.hid hcut
  have HNM := Lib.hid hnm
  have HN1 := Lib.hid hn1
  clear h hF hl hh hct hru hi hx hlm hb0 hg0 hnr hnm hn1 hcut hlp
  generalize hcutX : cutR r.a2 r.c2 1 9 = cX at *
  have HCX := Lib.hid hcutX
  clear hcutX
  have hcut := HCUT.out
  go_enter Try.func11, Try.ntmps11
  go_wp2_with fail
  refine (HP.out _ _).mono ?_
  rintro e w1 ⟨q, rfl, hk1, hq1, hb1⟩
  obtain ⟨h2, h4, hc⟩ := new2 hb1
  have HK := Lib.hid hk1
  have hba := (Below.refl w1.heap.size w1).alloc (Nat.le_refl _) (.cells (List.toArray [.int .i64 q.h.kd, .int .i64 q.h.fl, .int .i64 q.h.pa, .int .i64 q.h.sr, .int .i64 q.h.ds, .int .i64 q.h.cn, .int .i64 q.h.sq, .int .i64 q.h.pu, .slice q.A q.n q.c]) 37)
  have hgy : Gr (fun k => F k ∨ k = w.heap.size ∨ k = w.heap.size + 1) (By F w w1.heap.size) w1.heap.size := fun k hk => by
    rcases hk with hk | hk | hk | hk
    · exact .inl (.inl hk)
    · exact .inl (.inr (.inl hk))
    · exact .inl (.inr (.inr hk))
    · exact .inr (by omega)
  have HS0 : Hid (RT F w w1.heap.size (w1.alloc (.cells (List.toArray [.int .i64 q.h.kd, .int .i64 q.h.fl, .int .i64 q.h.pa, .int .i64 q.h.sr, .int .i64 q.h.ds, .int .i64 q.h.cn, .int .i64 q.h.sq, .int .i64 q.h.pu, .slice q.A q.n q.c]) 37)) r m q) := Lib.hid ⟨h2.below hba, h4.below hba, Bk.new w1 37 [.int .i64 q.h.kd, .int .i64 q.h.fl, .int .i64 q.h.pa, .int .i64 q.h.sr, .int .i64 q.h.ds, .int .i64 q.h.cn, .int .i64 q.h.sq, .int .i64 q.h.pu, .slice q.A q.n q.c], h4.lt, hc.alloc hc.size _, ((HR.out.below hc).st (St.refl _ _) hgy).below hba, (hq1.gr hgy).below hba⟩
  have h2a := HS0.out.b2
  clear hk1 hq1 hb1 h2 h4 hc hba hgy HP HR
  go_wp2_with (with_reducible refine at_load 30 (.tmp 2) (by rfl) ?_; refine wpList_load_rp rowR rfl (.tmp 2) rfl r m w.heap.size rfl h2a ?_)
  refine (r_high HS0.out.rp).mono ?_
  rintro e w2 ⟨rfl, hb2⟩
  rw [HI.out]
  have HS1 := Lib.hid (HS0.out.below hb2)
  have HSa := Lib.hid (HS1.out.cell 5 (.int .i64 ((m.run : Int) + 1)) (r' := r) (m' := { m with run := m.run + 1 }) rfl ⟨HS1.out.rp.lo, HS1.out.rp.hi⟩)
  have HSb := Lib.hid (HSa.out.cell 1 (.slice (cX) (r.n2 - 1) (r.c2 - 1)) (r' := ⟨r.a1, r.n1, r.c1, cX, r.n2 - 1, r.c2 - 1⟩) (m' := (({ m with run := m.run + 1 } : AM).put true m.high.tail)) rfl (by have := HSa.out.rp.cutHigh HN1.out; rw [HCX.out] at this; exact this))
  have a0 := HS1.out.b2.cell 0 rfl
  have a1 := HS1.out.b2.cell 1 rfl
  have a5 := HS1.out.b2.cell 5 rfl
  have a6 := HS1.out.b2.cell 6 rfl
  have f0 := HS1.out.b2.free 0
  have f1 := HS1.out.b2.free 1
  have f5 := HS1.out.b2.free 5
  have f6 := HS1.out.b2.free 6
  have h7 := HSb.out.b7
  clear hb2 h2a HS0
  go_wp2_with (with_reducible refine at_load 37 (.tmp 7) (by rfl) ?_; refine wpList_load_pk rowP rfl (.tmp 7) rfl q w1.heap.size 0 rfl (Bk.pk (q := q) h7) ?_)
  refine (r_with HSb.out.rp.hi HSb.out.pv (HSb.out.bd HF.out) (show r.n2 - 1 ≤ 2000 by have := HNM.out; omega)).mono ?_
  rintro e w3 ⟨A3, n3, c3, rfl, hs3, hb3⟩
  have HSc := Lib.hid (HSb.out.below hb3)
  have HSd := Lib.hid (HSc.out.cell 1 (.slice A3 n3 c3) (r' := ⟨r.a1, r.n1, r.c1, A3, n3, c3⟩) (m' := (({ m with run := m.run + 1 } : AM).put true m.high.tail).put true (m.high.tail ++ [q.pk])) rfl ⟨HSc.out.rp.lo, hs3⟩)
  have b1 := HSc.out.b2.cell 1 rfl
  have g1 := HSc.out.b2.free 1
  have b6 : w3.cell? ⟨w.heap.size, 6, none⟩ = some (.int .i64 (m.ct 0)) := HSc.out.b2.cell 6 rfl
  have g6 := HSc.out.b2.free 6
  clear a0 a1 a5 a6 f0 f1 f5 f6 h7 hb3 hcut
  have HSe := Lib.hid (HSd.out.cell 6 (.int .i64 (m.ct 0 + 1)) (r' := ⟨r.a1, r.n1, r.c1, A3, n3, c3⟩) (m' := { ((({ m with run := m.run + 1 } : AM).put true m.high.tail).put true (m.high.tail ++ [q.pk])) with ct := up m.ct 0 (m.ct 0 + 1) }) rfl ⟨HSd.out.rp.lo, HSd.out.rp.hi⟩)
  go_wp2_with fail
  refine wp_region_E (St (· = w.heap.size + 1)) (by kernel_rfl) (fun wd hbd hsz => ?_)
  have HSE := Lib.hid (HSe.out.below hbd)
  have HSE4 := Lib.hid HSE.out.b4
  have bt0' : ¬ (w.heap.size = w.heap.size + 1) := by omega
  have bt7 : ¬ (w1.heap.size = w.heap.size + 1) := by have := HSE.out.hg; omega
  clear hsz
  (refine takeE (St.tr (· = w.heap.size + 1)) 0 (by simp only [List.getElem?_toArray, List.getElem?_cons_succ, List.getElem?_cons_zero]; rfl) (by kernel_rfl) (by kernel_rfl) (by kernel_rfl) (by exact fun _ _ _ h => h) (by first | (refine Or.inl ⟨by rfl, ?_⟩; intro W hW; exact exec_load_bk rowR (.tmp 2) rfl w.heap.size 0 rfl (HSE.out.b2.st hW bt0') (RV.cl ⟨r.a1, r.n1, r.c1, A3, n3, c3⟩ { ((({ m with run := m.run + 1 } : AM).put true m.high.tail).put true (m.high.tail ++ [q.pk])) with ct := up m.ct 0 (m.ct 0 + 1) }) rfl rfl) | exact Or.inr ⟨by rfl, rfl⟩) ?_; try simp only [Act.put, List.setIfInBounds_toArray, List.set_cons_zero, List.set_cons_succ])
  (refine takeE (St.tr (· = w.heap.size + 1)) 1 (by simp only [List.getElem?_toArray, List.getElem?_cons_succ, List.getElem?_cons_zero]; rfl) (by kernel_rfl) (by kernel_rfl) (by kernel_rfl) (by exact fun _ _ _ h => h) (by first | (refine Or.inl ⟨by rfl, ?_⟩; intro W hW; exact exec_loadRow rowP (.tmp 7) rfl w1.heap.size 0 rfl q (Bk.pk (HSE.out.b7.st hW bt7))) | exact Or.inr ⟨by rfl, rfl⟩) ?_; try simp only [Act.put, List.setIfInBounds_toArray, List.set_cons_zero, List.set_cons_succ])
  refine wpAnyE_two (i := 2) (j := 3) (by kernel_rfl) (by simp only [List.getElem?_toArray, List.getElem?_cons_succ, List.getElem?_cons_zero]; rfl) (by simp only [List.getElem?_toArray, List.getElem?_cons_succ, List.getElem?_cons_zero]; rfl) (fun K hK => ?_) (fun K hK => ?_)
  ·
    go_simp
    have hrd0 := RdR.one wd 37 q.cl q.cl_one
    have HB7 := Lib.hid ((Below.refl wd.heap.size wd).alloc (Nat.le_refl _) (.cells (List.toArray [.int .i64 q.h.kd, .int .i64 q.h.fl, .int .i64 q.h.pa, .int .i64 q.h.sr, .int .i64 q.h.ds, .int .i64 q.h.cn, .int .i64 q.h.sq, .int .i64 q.h.pu, .slice q.A q.n q.c]) 37))
    have HE4 := Lib.hid (HSE.out.b4.below HB7.out)
    refine hK.out _ _ (St.ext HB7.out) ?_
    clear hK K
    try simp only [Act.put, List.setIfInBounds_toArray, List.set_cons_zero, List.set_cons_succ]
    refine wpAnyE_one (i := 3) (by kernel_rfl) (by simp only [List.getElem?_toArray, List.getElem?_cons_succ, List.getElem?_cons_zero]; rfl) (fun K hK => ?_)
    refine opwp_store_bk rowR rfl (.tmp 4) (.tmp 76) rfl (w.heap.size + 1) 0 rfl HE4.out (RV.cl ⟨r.a1, r.n1, r.c1, A3, n3, c3⟩ { ((({ m with run := m.run + 1 } : AM).put true m.high.tail).put true (m.high.tail ++ [q.pk])) with ct := up m.ct 0 (m.ct 0 + 1) }) rfl rfl (by decide) (RV.cl_one _ _) ?_
    intro w5 h45 hw5
    rw [lay_all _ _ (by rfl)] at h45
    have H45 := Lib.hid h45
    have HZ5 : Hid (St (· = w.heap.size + 1) (wd.alloc (.cells (List.toArray [.int .i64 q.h.kd, .int .i64 q.h.fl, .int .i64 q.h.pa, .int .i64 q.h.sr, .int .i64 q.h.ds, .int .i64 q.h.cn, .int .i64 q.h.sq, .int .i64 q.h.pu, .slice q.A q.n q.c]) 37)) w5) := Lib.hid ⟨hw5.os, hw5.tape, hw5.output, hw5.size, fun k hk hn => hw5.block k hk (by intro e; injection e with e; exact hn e)⟩
    have HFW := Lib.hid ((St.ext HB7.out).trans HZ5.out (Gr.refl _ _))
    have HRD := Lib.hid (hrd0.st HZ5.out (fun _ ad he => by injection he with he; subst he; have := HSE.out.b4.lt; show ¬ (wd.heap.size = w.heap.size + 1); omega))
    have HGB := Lib.hid (Nat.le_refl wd.heap.size)
    refine hK.out _ _ HZ5.out ?_
    clear hK K
    try simp only [Act.put, List.setIfInBounds_toArray, List.set_cons_zero, List.set_cons_succ]
    (refine takeE (St.tr (· = w.heap.size + 1)) 4 (by simp only [List.getElem?_toArray, List.getElem?_cons_succ, List.getElem?_cons_zero]; rfl) (by kernel_rfl) (by kernel_rfl) (by kernel_rfl) (by exact fun _ _ _ h => h) (by first | (refine Or.inl ⟨by rfl, ?_⟩; intro W hW; go_simp; try with_reducible rfl) | exact Or.inr ⟨by rfl, rfl⟩) ?_; try simp only [Act.put, List.setIfInBounds_toArray, List.set_cons_zero, List.set_cons_succ])
    (refine takeE (St.tr (· = w.heap.size + 1)) 5 (by simp only [List.getElem?_toArray, List.getElem?_cons_succ, List.getElem?_cons_zero]; rfl) (by kernel_rfl) (by kernel_rfl) (by kernel_rfl) (by exact fun _ _ _ h => h) (by first | (refine Or.inl ⟨by rfl, ?_⟩; intro W hW; go_simp; try with_reducible rfl) | exact Or.inr ⟨by rfl, rfl⟩) ?_; try simp only [Act.put, List.setIfInBounds_toArray, List.set_cons_zero, List.set_cons_succ])
    refine wpAnyE_done (by kernel_rfl) ?_ _
    go_wp2
    have HSF := HFW.out.mono (F' := By F w w1.heap.size) fun k _ hk => .inr (.inr (.inl hk))
    have hrp := HSE.out.rp.st HSF (Gr.refl _ _)
    have hpv := HSE.out.pv.st HSF (Gr.refl _ _)
    have HFIN : Hid (m.srv 4 true x l = { ((({ m with run := m.run + 1 } : AM).put true m.high.tail).put true (m.high.tail ++ [q.pk])) with ct := up m.ct 0 (m.ct 0 + 1) }) := Lib.hid (by have e : m.srv 4 true x l = { (m.took true l).put true (l ++ [x]) with ct := up m.ct 0 (m.ct 0 + 1) } := (by simp [AM.srv]); rw [e, HM.out, ← HTL.out.2, ← HK.out])
    refine bodyPost_ret (results_ctt rfl rfl (rowR.load H45.out 0 (cs := RV.cl ⟨r.a1, r.n1, r.c1, A3, n3, c3⟩ { ((({ m with run := m.run + 1 } : AM).put true m.high.tail).put true (m.high.tail ++ [q.pk])) with ct := up m.ct 0 (m.ct 0 + 1) }) rfl rfl)) rfl ?_
    rw [HFIN.out]
    first
      | (refine ⟨⟨r.a1, r.n1, r.c1, A3, n3, c3⟩, some ⟨wd.heap.size, 0, none⟩, 1, 1, by kernel_rfl, (show RpR F _ _ _ from ⟨hrp.lo.mono fun k hk => .inl hk, hrp.hi.mono fun k hk => .inl hk⟩), ⟨[q], rfl, by rw [flat_one]; exact HRD.out, by show [q.pk] = _; rw [HK.out], fun y hy => by rw [List.mem_singleton.1 hy]; exact hpv.mono fun k hk => .inl hk, fun _ ad he hf => by injection he with he; subst he; have h1 := HF.out _ hf; have h2 := HSE.out.bl.size; have h3 := HGB.out; dsimp only at h1; omega⟩, HSE.out.bl.trans (HFW.out.below HSE.out.bl.size (fun k hk => by omega))⟩)
      | (refine ⟨⟨r.a1, r.n1, r.c1, A3, n3, c3⟩, some ⟨w5.heap.size, 0, none⟩, 1, 1, by kernel_rfl, (show RpR F _ _ _ from ⟨hrp.lo.mono fun k hk => .inl hk, hrp.hi.mono fun k hk => .inl hk⟩), ⟨[q], rfl, by rw [flat_one]; exact HRD.out, by show [q.pk] = _; rw [HK.out], fun y hy => by rw [List.mem_singleton.1 hy]; exact hpv.mono fun k hk => .inl hk, fun _ ad he hf => by injection he with he; subst he; have h1 := HF.out _ hf; have h2 := HSE.out.bl.size; have h3 := HGB.out; dsimp only at h1; omega⟩, HSE.out.bl.trans (HFW.out.below HSE.out.bl.size (fun k hk => by omega))⟩)
  ·
    refine opwp_store_bk rowR rfl (.tmp 4) (.tmp 76) rfl (w.heap.size + 1) 0 rfl HSE4.out (RV.cl ⟨r.a1, r.n1, r.c1, A3, n3, c3⟩ { ((({ m with run := m.run + 1 } : AM).put true m.high.tail).put true (m.high.tail ++ [q.pk])) with ct := up m.ct 0 (m.ct 0 + 1) }) rfl rfl (by decide) (RV.cl_one _ _) ?_
    intro w5 h45 hw5
    rw [lay_all _ _ (by rfl)] at h45
    have H45a := Lib.hid h45
    have HZ5 : Hid (St (· = w.heap.size + 1) wd w5) := Lib.hid ⟨hw5.os, hw5.tape, hw5.output, hw5.size, fun k hk hn => hw5.block k hk (by intro e; injection e with e; exact hn e)⟩
    refine hK.out _ _ HZ5.out ?_
    clear hK K
    try simp only [Act.put, List.setIfInBounds_toArray, List.set_cons_zero, List.set_cons_succ]
    refine wpAnyE_one (i := 2) (by kernel_rfl) (by simp only [List.getElem?_toArray, List.getElem?_cons_succ, List.getElem?_cons_zero]; rfl) (fun K hK => ?_)
    go_simp
    have HRD := Lib.hid (RdR.one w5 37 q.cl q.cl_one)
    have HB7 := Lib.hid ((Below.refl w5.heap.size w5).alloc (Nat.le_refl _) (.cells (List.toArray [.int .i64 q.h.kd, .int .i64 q.h.fl, .int .i64 q.h.pa, .int .i64 q.h.sr, .int .i64 q.h.ds, .int .i64 q.h.cn, .int .i64 q.h.sq, .int .i64 q.h.pu, .slice q.A q.n q.c]) 37))
    have H45 := Lib.hid (H45a.out.below HB7.out)
    have HFW := Lib.hid (HZ5.out.trans (St.ext HB7.out) (Gr.refl _ _))
    have HGB := Lib.hid HZ5.out.size
    refine hK.out _ _ (St.ext HB7.out) ?_
    clear hK K
    try simp only [Act.put, List.setIfInBounds_toArray, List.set_cons_zero, List.set_cons_succ]
    (refine takeE (St.tr (· = w.heap.size + 1)) 4 (by simp only [List.getElem?_toArray, List.getElem?_cons_succ, List.getElem?_cons_zero]; rfl) (by kernel_rfl) (by kernel_rfl) (by kernel_rfl) (by exact fun _ _ _ h => h) (by first | (refine Or.inl ⟨by rfl, ?_⟩; intro W hW; go_simp; try with_reducible rfl) | exact Or.inr ⟨by rfl, rfl⟩) ?_; try simp only [Act.put, List.setIfInBounds_toArray, List.set_cons_zero, List.set_cons_succ])
    (refine takeE (St.tr (· = w.heap.size + 1)) 5 (by simp only [List.getElem?_toArray, List.getElem?_cons_succ, List.getElem?_cons_zero]; rfl) (by kernel_rfl) (by kernel_rfl) (by kernel_rfl) (by exact fun _ _ _ h => h) (by first | (refine Or.inl ⟨by rfl, ?_⟩; intro W hW; go_simp; try with_reducible rfl) | exact Or.inr ⟨by rfl, rfl⟩) ?_; try simp only [Act.put, List.setIfInBounds_toArray, List.set_cons_zero, List.set_cons_succ])
    refine wpAnyE_done (by kernel_rfl) ?_ _
    go_wp2
    have HSF := HFW.out.mono (F' := By F w w1.heap.size) fun k _ hk => .inr (.inr (.inl hk))
    have hrp := HSE.out.rp.st HSF (Gr.refl _ _)
    have hpv := HSE.out.pv.st HSF (Gr.refl _ _)
    have HFIN : Hid (m.srv 4 true x l = { ((({ m with run := m.run + 1 } : AM).put true m.high.tail).put true (m.high.tail ++ [q.pk])) with ct := up m.ct 0 (m.ct 0 + 1) }) := Lib.hid (by have e : m.srv 4 true x l = { (m.took true l).put true (l ++ [x]) with ct := up m.ct 0 (m.ct 0 + 1) } := (by simp [AM.srv]); rw [e, HM.out, ← HTL.out.2, ← HK.out])
    refine bodyPost_ret (results_ctt rfl rfl (rowR.load H45.out 0 (cs := RV.cl ⟨r.a1, r.n1, r.c1, A3, n3, c3⟩ { ((({ m with run := m.run + 1 } : AM).put true m.high.tail).put true (m.high.tail ++ [q.pk])) with ct := up m.ct 0 (m.ct 0 + 1) }) rfl rfl)) rfl ?_
    rw [HFIN.out]
    first
      | (refine ⟨⟨r.a1, r.n1, r.c1, A3, n3, c3⟩, some ⟨wd.heap.size, 0, none⟩, 1, 1, by kernel_rfl, (show RpR F _ _ _ from ⟨hrp.lo.mono fun k hk => .inl hk, hrp.hi.mono fun k hk => .inl hk⟩), ⟨[q], rfl, by rw [flat_one]; exact HRD.out, by show [q.pk] = _; rw [HK.out], fun y hy => by rw [List.mem_singleton.1 hy]; exact hpv.mono fun k hk => .inl hk, fun _ ad he hf => by injection he with he; subst he; have h1 := HF.out _ hf; have h2 := HSE.out.bl.size; have h3 := HGB.out; dsimp only at h1; omega⟩, HSE.out.bl.trans (HFW.out.below HSE.out.bl.size (fun k hk => by omega))⟩)
      | (refine ⟨⟨r.a1, r.n1, r.c1, A3, n3, c3⟩, some ⟨w5.heap.size, 0, none⟩, 1, 1, by kernel_rfl, (show RpR F _ _ _ from ⟨hrp.lo.mono fun k hk => .inl hk, hrp.hi.mono fun k hk => .inl hk⟩), ⟨[q], rfl, by rw [flat_one]; exact HRD.out, by show [q.pk] = _; rw [HK.out], fun y hy => by rw [List.mem_singleton.1 hy]; exact hpv.mono fun k hk => .inl hk, fun _ ad he hf => by injection he with he; subst he; have h1 := HF.out _ hf; have h2 := HSE.out.bl.size; have h3 := HGB.out; dsimp only at h1; omega⟩, HSE.out.bl.trans (HFW.out.below HSE.out.bl.size (fun k hk => by omega))⟩)
set_option maxHeartbeats 4000000 in
set_option maxRecDepth 100000 in
theorem r_serve_h4 (h : RpR F w r m) (hF : ∀ k, F k → k < w.heap.size) (hl : m.low.length ≤ 1024) (hh : m.high.length ≤ 1024) (hct : ∀ k, -1 ≤ m.ct k ∧ m.ct k ≤ 1000000) (hru : m.run ≤ 1024) (hi : m.hiB = true) (hlp : m.low.length = 0) (x : Pk) (l : List Pk) (hx : m.sel m.hiB = x :: l) :
    Calls Try.prog 11 #[.agg #[.slice r.a1 r.n1 r.c1, .slice r.a2 r.n2 r.c2, .int .i64 m.lr, .int .i64 m.hr, .int .i64 m.wt, .int .i64 m.run, .int .i64 (m.ct 0), .int .i64 (m.ct 1), .int .i64 (m.ct 2), .int .i64 (m.ct 3), .int .i64 (m.ct 4)], .int .i64 4] w (RServeTo F w (m.srv 4 true x l) [x] 0) := by
  rw [hi] at hx
  have hlm : m.high = x :: l := hx
  have hn1 : 1 ≤ r.n2 := by rw [← h.hi.len, hlm]; simp
  have hnm : r.n2 ≤ 2000 := by rw [← h.hi.len]; exact Nat.le_trans hh (by decide)
  have hnr : m.nrun true = 0 := by simp [AM.nrun, hlp]
  have HM : Hid (m.took true l = (({ m with run := 0 } : AM).put true m.high.tail)) := Lib.hid (by unfold AM.took; rw [hnr]; show _ = ({ m with run := 0 } : AM).put true m.high.tail; rw [hlm]; rfl)
  have HTL : Hid (({ m with run := 0 } : AM).put true m.high.tail = (({ m with run := 0 } : AM).put true m.high.tail) ∧ m.high.tail = l) := Lib.hid ⟨rfl, by rw [hlm]; rfl⟩
  have hlw : (r.n1 : Int) ≤ 0 := by have := h.lo.len; omega
  have hwr : IntKind.i64.wrap ((m.run : Int) + 1) = (m.run : Int) + 1 := by rw [IntKind.wrap_i64]; omega
  have hwc : IntKind.i64.wrap (m.ct 0 + 1) = m.ct 0 + 1 := by have := hct 0; rw [IntKind.wrap_i64]; omega
  have hb0 : ∀ o o', Below w.heap.size w ((w.alloc o).alloc o') := fun o o' => ((Below.refl _ _).alloc (Nat.le_refl _) o).alloc (by simp) o'
  have hg0 : Gr F (fun k => F k ∨ k = w.heap.size ∨ k = w.heap.size + 1) w.heap.size := fun k hk => hk.imp id (by omega)
  have HP : Hid (∀ o o', Calls Try.prog 33 #[.agg #[.slice r.a1 r.n1 r.c1, .slice r.a2 r.n2 r.c2, .int .i64 m.lr, .int .i64 m.hr, .int .i64 m.wt, .int .i64 m.run, .int .i64 (m.ct 0), .int .i64 (m.ct 1), .int .i64 (m.ct 2), .int .i64 (m.ct 3), .int .i64 (m.ct 4)]] ((w.alloc o).alloc o') fun e w' => ∃ q' : Pv, e = .returned (.tuple #[.agg #[.int .i64 q'.h.kd, .int .i64 q'.h.fl, .int .i64 q'.h.pa, .int .i64 q'.h.sr, .int .i64 q'.h.ds, .int .i64 q'.h.cn, .int .i64 q'.h.sq, .int .i64 q'.h.pu, .slice q'.A q'.n q'.c], .bool true]) ∧ q'.pk = x ∧ PvR (fun k => F k ∨ k = w.heap.size ∨ k = w.heap.size + 1) w' q' ∧ Below ((w.alloc o).alloc o').heap.size ((w.alloc o).alloc o') w') := Lib.hid fun o o' => by
    have := r_peek ((h.st (St.refl F w) hg0).below (hb0 o o')) (fun k hk => by simp; rcases hk with hk | hk; (have := hF k hk; omega); omega)
    rw [hi, hx] at this
    exact this
  have HR := Lib.hid (h.st (St.refl F w) hg0)
  have HF := Lib.hid hF
  have HI := Lib.hid hi
  have hcut : ∀ W, (Instr.slice 27 (.slice r.a2 r.n2 r.c2) (some (.int .i64 1)) none none).run Try.prog W = .ok (.slice (cutR r.a2 r.c2 1 9) (r.n2 - 1) (r.c2 - 1)) W := fun W => eltP.run_cut r.a2 r.n2 r.c2 1 hn1 (by obtain ⟨qs, z1, z2, z3, z4, z5⟩ := h.hi; exact z2.2.1) W
  have HCUT := Lib.hid hcut
  have HNM := Lib.hid hnm
  have HN1 := Lib.hid hn1
  clear h hF hl hh hct hru hi hx hlm hb0 hg0 hnr hnm hn1 hcut hlp
  generalize hcutX : cutR r.a2 r.c2 1 9 = cX at *
  have HCX := Lib.hid hcutX
  clear hcutX
  have hcut := HCUT.out
  go_enter Try.func11, Try.ntmps11
  go_wp2_with fail
  refine (HP.out _ _).mono ?_
  rintro e w1 ⟨q, rfl, hk1, hq1, hb1⟩
  obtain ⟨h2, h4, hc⟩ := new2 hb1
  have HK := Lib.hid hk1
  have hba := (Below.refl w1.heap.size w1).alloc (Nat.le_refl _) (.cells (List.toArray [.int .i64 q.h.kd, .int .i64 q.h.fl, .int .i64 q.h.pa, .int .i64 q.h.sr, .int .i64 q.h.ds, .int .i64 q.h.cn, .int .i64 q.h.sq, .int .i64 q.h.pu, .slice q.A q.n q.c]) 37)
  have hgy : Gr (fun k => F k ∨ k = w.heap.size ∨ k = w.heap.size + 1) (By F w w1.heap.size) w1.heap.size := fun k hk => by
    rcases hk with hk | hk | hk | hk
    · exact .inl (.inl hk)
    · exact .inl (.inr (.inl hk))
    · exact .inl (.inr (.inr hk))
    · exact .inr (by omega)
  have HS0 : Hid (RT F w w1.heap.size (w1.alloc (.cells (List.toArray [.int .i64 q.h.kd, .int .i64 q.h.fl, .int .i64 q.h.pa, .int .i64 q.h.sr, .int .i64 q.h.ds, .int .i64 q.h.cn, .int .i64 q.h.sq, .int .i64 q.h.pu, .slice q.A q.n q.c]) 37)) r m q) := Lib.hid ⟨h2.below hba, h4.below hba, Bk.new w1 37 [.int .i64 q.h.kd, .int .i64 q.h.fl, .int .i64 q.h.pa, .int .i64 q.h.sr, .int .i64 q.h.ds, .int .i64 q.h.cn, .int .i64 q.h.sq, .int .i64 q.h.pu, .slice q.A q.n q.c], h4.lt, hc.alloc hc.size _, ((HR.out.below hc).st (St.refl _ _) hgy).below hba, (hq1.gr hgy).below hba⟩
  have h2a := HS0.out.b2
  clear hk1 hq1 hb1 h2 h4 hc hba hgy HP HR
  go_wp2_with (with_reducible refine at_load 30 (.tmp 2) (by rfl) ?_; refine wpList_load_rp rowR rfl (.tmp 2) rfl r m w.heap.size rfl h2a ?_)
  refine (r_high HS0.out.rp).mono ?_
  rintro e w2 ⟨rfl, hb2⟩
  rw [HI.out]
  have HS1 := Lib.hid (HS0.out.below hb2)
  have HSa := Lib.hid (HS1.out.cell 5 (.int .i64 (0)) (r' := r) (m' := { m with run := 0 }) rfl ⟨HS1.out.rp.lo, HS1.out.rp.hi⟩)
  have HSb := Lib.hid (HSa.out.cell 1 (.slice (cX) (r.n2 - 1) (r.c2 - 1)) (r' := ⟨r.a1, r.n1, r.c1, cX, r.n2 - 1, r.c2 - 1⟩) (m' := (({ m with run := 0 } : AM).put true m.high.tail)) rfl (by have := HSa.out.rp.cutHigh HN1.out; rw [HCX.out] at this; exact this))
  have a0 := HS1.out.b2.cell 0 rfl
  have a1 := HS1.out.b2.cell 1 rfl
  have a5 := HS1.out.b2.cell 5 rfl
  have a6 := HS1.out.b2.cell 6 rfl
  have f0 := HS1.out.b2.free 0
  have f1 := HS1.out.b2.free 1
  have f5 := HS1.out.b2.free 5
  have f6 := HS1.out.b2.free 6
  have h7 := HSb.out.b7
  clear hb2 h2a HS0
  go_wp2_with (with_reducible refine at_load 37 (.tmp 7) (by rfl) ?_; refine wpList_load_pk rowP rfl (.tmp 7) rfl q w1.heap.size 0 rfl (Bk.pk (q := q) h7) ?_)
  refine (r_with HSb.out.rp.hi HSb.out.pv (HSb.out.bd HF.out) (show r.n2 - 1 ≤ 2000 by have := HNM.out; omega)).mono ?_
  rintro e w3 ⟨A3, n3, c3, rfl, hs3, hb3⟩
  have HSc := Lib.hid (HSb.out.below hb3)
  have HSd := Lib.hid (HSc.out.cell 1 (.slice A3 n3 c3) (r' := ⟨r.a1, r.n1, r.c1, A3, n3, c3⟩) (m' := (({ m with run := 0 } : AM).put true m.high.tail).put true (m.high.tail ++ [q.pk])) rfl ⟨HSc.out.rp.lo, hs3⟩)
  have b1 := HSc.out.b2.cell 1 rfl
  have g1 := HSc.out.b2.free 1
  have b6 : w3.cell? ⟨w.heap.size, 6, none⟩ = some (.int .i64 (m.ct 0)) := HSc.out.b2.cell 6 rfl
  have g6 := HSc.out.b2.free 6
  clear a0 a1 a5 a6 f0 f1 f5 f6 h7 hb3 hcut
  have HSe := Lib.hid (HSd.out.cell 6 (.int .i64 (m.ct 0 + 1)) (r' := ⟨r.a1, r.n1, r.c1, A3, n3, c3⟩) (m' := { ((({ m with run := 0 } : AM).put true m.high.tail).put true (m.high.tail ++ [q.pk])) with ct := up m.ct 0 (m.ct 0 + 1) }) rfl ⟨HSd.out.rp.lo, HSd.out.rp.hi⟩)
  go_wp2_with fail
  refine wp_region_E (St (· = w.heap.size + 1)) (by kernel_rfl) (fun wd hbd hsz => ?_)
  have HSE := Lib.hid (HSe.out.below hbd)
  have HSE4 := Lib.hid HSE.out.b4
  have bt0' : ¬ (w.heap.size = w.heap.size + 1) := by omega
  have bt7 : ¬ (w1.heap.size = w.heap.size + 1) := by have := HSE.out.hg; omega
  clear hsz
  (refine takeE (St.tr (· = w.heap.size + 1)) 0 (by simp only [List.getElem?_toArray, List.getElem?_cons_succ, List.getElem?_cons_zero]; rfl) (by kernel_rfl) (by kernel_rfl) (by kernel_rfl) (by exact fun _ _ _ h => h) (by first | (refine Or.inl ⟨by rfl, ?_⟩; intro W hW; exact exec_load_bk rowR (.tmp 2) rfl w.heap.size 0 rfl (HSE.out.b2.st hW bt0') (RV.cl ⟨r.a1, r.n1, r.c1, A3, n3, c3⟩ { ((({ m with run := 0 } : AM).put true m.high.tail).put true (m.high.tail ++ [q.pk])) with ct := up m.ct 0 (m.ct 0 + 1) }) rfl rfl) | exact Or.inr ⟨by rfl, rfl⟩) ?_; try simp only [Act.put, List.setIfInBounds_toArray, List.set_cons_zero, List.set_cons_succ])
  (refine takeE (St.tr (· = w.heap.size + 1)) 1 (by simp only [List.getElem?_toArray, List.getElem?_cons_succ, List.getElem?_cons_zero]; rfl) (by kernel_rfl) (by kernel_rfl) (by kernel_rfl) (by exact fun _ _ _ h => h) (by first | (refine Or.inl ⟨by rfl, ?_⟩; intro W hW; exact exec_loadRow rowP (.tmp 7) rfl w1.heap.size 0 rfl q (Bk.pk (HSE.out.b7.st hW bt7))) | exact Or.inr ⟨by rfl, rfl⟩) ?_; try simp only [Act.put, List.setIfInBounds_toArray, List.set_cons_zero, List.set_cons_succ])
  refine wpAnyE_two (i := 2) (j := 3) (by kernel_rfl) (by simp only [List.getElem?_toArray, List.getElem?_cons_succ, List.getElem?_cons_zero]; rfl) (by simp only [List.getElem?_toArray, List.getElem?_cons_succ, List.getElem?_cons_zero]; rfl) (fun K hK => ?_) (fun K hK => ?_)
  ·
    go_simp
    have hrd0 := RdR.one wd 37 q.cl q.cl_one
    have HB7 := Lib.hid ((Below.refl wd.heap.size wd).alloc (Nat.le_refl _) (.cells (List.toArray [.int .i64 q.h.kd, .int .i64 q.h.fl, .int .i64 q.h.pa, .int .i64 q.h.sr, .int .i64 q.h.ds, .int .i64 q.h.cn, .int .i64 q.h.sq, .int .i64 q.h.pu, .slice q.A q.n q.c]) 37))
    have HE4 := Lib.hid (HSE.out.b4.below HB7.out)
    refine hK.out _ _ (St.ext HB7.out) ?_
    clear hK K
    try simp only [Act.put, List.setIfInBounds_toArray, List.set_cons_zero, List.set_cons_succ]
    refine wpAnyE_one (i := 3) (by kernel_rfl) (by simp only [List.getElem?_toArray, List.getElem?_cons_succ, List.getElem?_cons_zero]; rfl) (fun K hK => ?_)
    refine opwp_store_bk rowR rfl (.tmp 4) (.tmp 76) rfl (w.heap.size + 1) 0 rfl HE4.out (RV.cl ⟨r.a1, r.n1, r.c1, A3, n3, c3⟩ { ((({ m with run := 0 } : AM).put true m.high.tail).put true (m.high.tail ++ [q.pk])) with ct := up m.ct 0 (m.ct 0 + 1) }) rfl rfl (by decide) (RV.cl_one _ _) ?_
    intro w5 h45 hw5
    rw [lay_all _ _ (by rfl)] at h45
    have H45 := Lib.hid h45
    have HZ5 : Hid (St (· = w.heap.size + 1) (wd.alloc (.cells (List.toArray [.int .i64 q.h.kd, .int .i64 q.h.fl, .int .i64 q.h.pa, .int .i64 q.h.sr, .int .i64 q.h.ds, .int .i64 q.h.cn, .int .i64 q.h.sq, .int .i64 q.h.pu, .slice q.A q.n q.c]) 37)) w5) := Lib.hid ⟨hw5.os, hw5.tape, hw5.output, hw5.size, fun k hk hn => hw5.block k hk (by intro e; injection e with e; exact hn e)⟩
    have HFW := Lib.hid ((St.ext HB7.out).trans HZ5.out (Gr.refl _ _))
    have HRD := Lib.hid (hrd0.st HZ5.out (fun _ ad he => by injection he with he; subst he; have := HSE.out.b4.lt; show ¬ (wd.heap.size = w.heap.size + 1); omega))
    have HGB := Lib.hid (Nat.le_refl wd.heap.size)
    refine hK.out _ _ HZ5.out ?_
    clear hK K
    try simp only [Act.put, List.setIfInBounds_toArray, List.set_cons_zero, List.set_cons_succ]
    (refine takeE (St.tr (· = w.heap.size + 1)) 4 (by simp only [List.getElem?_toArray, List.getElem?_cons_succ, List.getElem?_cons_zero]; rfl) (by kernel_rfl) (by kernel_rfl) (by kernel_rfl) (by exact fun _ _ _ h => h) (by first | (refine Or.inl ⟨by rfl, ?_⟩; intro W hW; go_simp; try with_reducible rfl) | exact Or.inr ⟨by rfl, rfl⟩) ?_; try simp only [Act.put, List.setIfInBounds_toArray, List.set_cons_zero, List.set_cons_succ])
    (refine takeE (St.tr (· = w.heap.size + 1)) 5 (by simp only [List.getElem?_toArray, List.getElem?_cons_succ, List.getElem?_cons_zero]; rfl) (by kernel_rfl) (by kernel_rfl) (by kernel_rfl) (by exact fun _ _ _ h => h) (by first | (refine Or.inl ⟨by rfl, ?_⟩; intro W hW; go_simp; try with_reducible rfl) | exact Or.inr ⟨by rfl, rfl⟩) ?_; try simp only [Act.put, List.setIfInBounds_toArray, List.set_cons_zero, List.set_cons_succ])
    refine wpAnyE_done (by kernel_rfl) ?_ _
    go_wp2
    have HSF := HFW.out.mono (F' := By F w w1.heap.size) fun k _ hk => .inr (.inr (.inl hk))
    have hrp := HSE.out.rp.st HSF (Gr.refl _ _)
    have hpv := HSE.out.pv.st HSF (Gr.refl _ _)
    have HFIN : Hid (m.srv 4 true x l = { ((({ m with run := 0 } : AM).put true m.high.tail).put true (m.high.tail ++ [q.pk])) with ct := up m.ct 0 (m.ct 0 + 1) }) := Lib.hid (by have e : m.srv 4 true x l = { (m.took true l).put true (l ++ [x]) with ct := up m.ct 0 (m.ct 0 + 1) } := (by simp [AM.srv]); rw [e, HM.out, ← HTL.out.2, ← HK.out])
    refine bodyPost_ret (results_ctt rfl rfl (rowR.load H45.out 0 (cs := RV.cl ⟨r.a1, r.n1, r.c1, A3, n3, c3⟩ { ((({ m with run := 0 } : AM).put true m.high.tail).put true (m.high.tail ++ [q.pk])) with ct := up m.ct 0 (m.ct 0 + 1) }) rfl rfl)) rfl ?_
    rw [HFIN.out]
    first
      | (refine ⟨⟨r.a1, r.n1, r.c1, A3, n3, c3⟩, some ⟨wd.heap.size, 0, none⟩, 1, 1, by kernel_rfl, (show RpR F _ _ _ from ⟨hrp.lo.mono fun k hk => .inl hk, hrp.hi.mono fun k hk => .inl hk⟩), ⟨[q], rfl, by rw [flat_one]; exact HRD.out, by show [q.pk] = _; rw [HK.out], fun y hy => by rw [List.mem_singleton.1 hy]; exact hpv.mono fun k hk => .inl hk, fun _ ad he hf => by injection he with he; subst he; have h1 := HF.out _ hf; have h2 := HSE.out.bl.size; have h3 := HGB.out; dsimp only at h1; omega⟩, HSE.out.bl.trans (HFW.out.below HSE.out.bl.size (fun k hk => by omega))⟩)
      | (refine ⟨⟨r.a1, r.n1, r.c1, A3, n3, c3⟩, some ⟨w5.heap.size, 0, none⟩, 1, 1, by kernel_rfl, (show RpR F _ _ _ from ⟨hrp.lo.mono fun k hk => .inl hk, hrp.hi.mono fun k hk => .inl hk⟩), ⟨[q], rfl, by rw [flat_one]; exact HRD.out, by show [q.pk] = _; rw [HK.out], fun y hy => by rw [List.mem_singleton.1 hy]; exact hpv.mono fun k hk => .inl hk, fun _ ad he hf => by injection he with he; subst he; have h1 := HF.out _ hf; have h2 := HSE.out.bl.size; have h3 := HGB.out; dsimp only at h1; omega⟩, HSE.out.bl.trans (HFW.out.below HSE.out.bl.size (fun k hk => by omega))⟩)
  ·
    refine opwp_store_bk rowR rfl (.tmp 4) (.tmp 76) rfl (w.heap.size + 1) 0 rfl HSE4.out (RV.cl ⟨r.a1, r.n1, r.c1, A3, n3, c3⟩ { ((({ m with run := 0 } : AM).put true m.high.tail).put true (m.high.tail ++ [q.pk])) with ct := up m.ct 0 (m.ct 0 + 1) }) rfl rfl (by decide) (RV.cl_one _ _) ?_
    intro w5 h45 hw5
    rw [lay_all _ _ (by rfl)] at h45
    have H45a := Lib.hid h45
    have HZ5 : Hid (St (· = w.heap.size + 1) wd w5) := Lib.hid ⟨hw5.os, hw5.tape, hw5.output, hw5.size, fun k hk hn => hw5.block k hk (by intro e; injection e with e; exact hn e)⟩
    refine hK.out _ _ HZ5.out ?_
    clear hK K
    try simp only [Act.put, List.setIfInBounds_toArray, List.set_cons_zero, List.set_cons_succ]
    refine wpAnyE_one (i := 2) (by kernel_rfl) (by simp only [List.getElem?_toArray, List.getElem?_cons_succ, List.getElem?_cons_zero]; rfl) (fun K hK => ?_)
    go_simp
    have HRD := Lib.hid (RdR.one w5 37 q.cl q.cl_one)
    have HB7 := Lib.hid ((Below.refl w5.heap.size w5).alloc (Nat.le_refl _) (.cells (List.toArray [.int .i64 q.h.kd, .int .i64 q.h.fl, .int .i64 q.h.pa, .int .i64 q.h.sr, .int .i64 q.h.ds, .int .i64 q.h.cn, .int .i64 q.h.sq, .int .i64 q.h.pu, .slice q.A q.n q.c]) 37))
    have H45 := Lib.hid (H45a.out.below HB7.out)
    have HFW := Lib.hid (HZ5.out.trans (St.ext HB7.out) (Gr.refl _ _))
    have HGB := Lib.hid HZ5.out.size
    refine hK.out _ _ (St.ext HB7.out) ?_
    clear hK K
    try simp only [Act.put, List.setIfInBounds_toArray, List.set_cons_zero, List.set_cons_succ]
    (refine takeE (St.tr (· = w.heap.size + 1)) 4 (by simp only [List.getElem?_toArray, List.getElem?_cons_succ, List.getElem?_cons_zero]; rfl) (by kernel_rfl) (by kernel_rfl) (by kernel_rfl) (by exact fun _ _ _ h => h) (by first | (refine Or.inl ⟨by rfl, ?_⟩; intro W hW; go_simp; try with_reducible rfl) | exact Or.inr ⟨by rfl, rfl⟩) ?_; try simp only [Act.put, List.setIfInBounds_toArray, List.set_cons_zero, List.set_cons_succ])
    (refine takeE (St.tr (· = w.heap.size + 1)) 5 (by simp only [List.getElem?_toArray, List.getElem?_cons_succ, List.getElem?_cons_zero]; rfl) (by kernel_rfl) (by kernel_rfl) (by kernel_rfl) (by exact fun _ _ _ h => h) (by first | (refine Or.inl ⟨by rfl, ?_⟩; intro W hW; go_simp; try with_reducible rfl) | exact Or.inr ⟨by rfl, rfl⟩) ?_; try simp only [Act.put, List.setIfInBounds_toArray, List.set_cons_zero, List.set_cons_succ])
    refine wpAnyE_done (by kernel_rfl) ?_ _
    go_wp2
    have HSF := HFW.out.mono (F' := By F w w1.heap.size) fun k _ hk => .inr (.inr (.inl hk))
    have hrp := HSE.out.rp.st HSF (Gr.refl _ _)
    have hpv := HSE.out.pv.st HSF (Gr.refl _ _)
    have HFIN : Hid (m.srv 4 true x l = { ((({ m with run := 0 } : AM).put true m.high.tail).put true (m.high.tail ++ [q.pk])) with ct := up m.ct 0 (m.ct 0 + 1) }) := Lib.hid (by have e : m.srv 4 true x l = { (m.took true l).put true (l ++ [x]) with ct := up m.ct 0 (m.ct 0 + 1) } := (by simp [AM.srv]); rw [e, HM.out, ← HTL.out.2, ← HK.out])
    refine bodyPost_ret (results_ctt rfl rfl (rowR.load H45.out 0 (cs := RV.cl ⟨r.a1, r.n1, r.c1, A3, n3, c3⟩ { ((({ m with run := 0 } : AM).put true m.high.tail).put true (m.high.tail ++ [q.pk])) with ct := up m.ct 0 (m.ct 0 + 1) }) rfl rfl)) rfl ?_
    rw [HFIN.out]
    first
      | (refine ⟨⟨r.a1, r.n1, r.c1, A3, n3, c3⟩, some ⟨wd.heap.size, 0, none⟩, 1, 1, by kernel_rfl, (show RpR F _ _ _ from ⟨hrp.lo.mono fun k hk => .inl hk, hrp.hi.mono fun k hk => .inl hk⟩), ⟨[q], rfl, by rw [flat_one]; exact HRD.out, by show [q.pk] = _; rw [HK.out], fun y hy => by rw [List.mem_singleton.1 hy]; exact hpv.mono fun k hk => .inl hk, fun _ ad he hf => by injection he with he; subst he; have h1 := HF.out _ hf; have h2 := HSE.out.bl.size; have h3 := HGB.out; dsimp only at h1; omega⟩, HSE.out.bl.trans (HFW.out.below HSE.out.bl.size (fun k hk => by omega))⟩)
      | (refine ⟨⟨r.a1, r.n1, r.c1, A3, n3, c3⟩, some ⟨w5.heap.size, 0, none⟩, 1, 1, by kernel_rfl, (show RpR F _ _ _ from ⟨hrp.lo.mono fun k hk => .inl hk, hrp.hi.mono fun k hk => .inl hk⟩), ⟨[q], rfl, by rw [flat_one]; exact HRD.out, by show [q.pk] = _; rw [HK.out], fun y hy => by rw [List.mem_singleton.1 hy]; exact hpv.mono fun k hk => .inl hk, fun _ ad he hf => by injection he with he; subst he; have h1 := HF.out _ hf; have h2 := HSE.out.bl.size; have h3 := HGB.out; dsimp only at h1; omega⟩, HSE.out.bl.trans (HFW.out.below HSE.out.bl.size (fun k hk => by omega))⟩)
set_option maxHeartbeats 4000000 in
set_option maxRecDepth 100000 in
theorem r_serve_l4 (h : RpR F w r m) (hF : ∀ k, F k → k < w.heap.size) (hl : m.low.length ≤ 1024) (hh : m.high.length ≤ 1024) (hct : ∀ k, -1 ≤ m.ct k ∧ m.ct k ≤ 1000000) (hru : m.run ≤ 1024) (hi : m.hiB = false)  (x : Pk) (l : List Pk) (hx : m.sel m.hiB = x :: l) :
    Calls Try.prog 11 #[.agg #[.slice r.a1 r.n1 r.c1, .slice r.a2 r.n2 r.c2, .int .i64 m.lr, .int .i64 m.hr, .int .i64 m.wt, .int .i64 m.run, .int .i64 (m.ct 0), .int .i64 (m.ct 1), .int .i64 (m.ct 2), .int .i64 (m.ct 3), .int .i64 (m.ct 4)], .int .i64 4] w (RServeTo F w (m.srv 4 false x l) [x] 0) := by
  rw [hi] at hx
  have hlm : m.low = x :: l := hx
  have hn1 : 1 ≤ r.n1 := by rw [← h.lo.len, hlm]; simp
  have hnm : r.n1 ≤ 2000 := by rw [← h.lo.len]; exact Nat.le_trans hl (by decide)
  have hnr : m.nrun false = 0 := by simp [AM.nrun]
  have HM : Hid (m.took false l = (({ m with run := 0 } : AM).put false m.low.tail)) := Lib.hid (by unfold AM.took; rw [hnr]; show _ = ({ m with run := 0 } : AM).put false m.low.tail; rw [hlm]; rfl)
  have HTL : Hid (({ m with run := 0 } : AM).put false m.low.tail = (({ m with run := 0 } : AM).put false m.low.tail) ∧ m.low.tail = l) := Lib.hid ⟨rfl, by rw [hlm]; rfl⟩
  have hwr : IntKind.i64.wrap ((m.run : Int) + 1) = (m.run : Int) + 1 := by rw [IntKind.wrap_i64]; omega
  have hwc : IntKind.i64.wrap (m.ct 0 + 1) = m.ct 0 + 1 := by have := hct 0; rw [IntKind.wrap_i64]; omega
  have hb0 : ∀ o o', Below w.heap.size w ((w.alloc o).alloc o') := fun o o' => ((Below.refl _ _).alloc (Nat.le_refl _) o).alloc (by simp) o'
  have hg0 : Gr F (fun k => F k ∨ k = w.heap.size ∨ k = w.heap.size + 1) w.heap.size := fun k hk => hk.imp id (by omega)
  have HP : Hid (∀ o o', Calls Try.prog 33 #[.agg #[.slice r.a1 r.n1 r.c1, .slice r.a2 r.n2 r.c2, .int .i64 m.lr, .int .i64 m.hr, .int .i64 m.wt, .int .i64 m.run, .int .i64 (m.ct 0), .int .i64 (m.ct 1), .int .i64 (m.ct 2), .int .i64 (m.ct 3), .int .i64 (m.ct 4)]] ((w.alloc o).alloc o') fun e w' => ∃ q' : Pv, e = .returned (.tuple #[.agg #[.int .i64 q'.h.kd, .int .i64 q'.h.fl, .int .i64 q'.h.pa, .int .i64 q'.h.sr, .int .i64 q'.h.ds, .int .i64 q'.h.cn, .int .i64 q'.h.sq, .int .i64 q'.h.pu, .slice q'.A q'.n q'.c], .bool true]) ∧ q'.pk = x ∧ PvR (fun k => F k ∨ k = w.heap.size ∨ k = w.heap.size + 1) w' q' ∧ Below ((w.alloc o).alloc o').heap.size ((w.alloc o).alloc o') w') := Lib.hid fun o o' => by
    have := r_peek ((h.st (St.refl F w) hg0).below (hb0 o o')) (fun k hk => by simp; rcases hk with hk | hk; (have := hF k hk; omega); omega)
    rw [hi, hx] at this
    exact this
  have HR := Lib.hid (h.st (St.refl F w) hg0)
  have HF := Lib.hid hF
  have HI := Lib.hid hi
  have hcut : ∀ W, (Instr.slice 27 (.slice r.a1 r.n1 r.c1) (some (.int .i64 1)) none none).run Try.prog W = .ok (.slice (cutR r.a1 r.c1 1 9) (r.n1 - 1) (r.c1 - 1)) W := fun W => eltP.run_cut r.a1 r.n1 r.c1 1 hn1 (by obtain ⟨qs, z1, z2, z3, z4, z5⟩ := h.lo; exact z2.2.1) W
  have HCUT := Lib.hid hcut
  have HNM := Lib.hid hnm
  have HN1 := Lib.hid hn1
  clear h hF hl hh hct hru hi hx hlm hb0 hg0 hnr hnm hn1 hcut
  generalize hcutX : cutR r.a1 r.c1 1 9 = cX at *
  have HCX := Lib.hid hcutX
  clear hcutX
  have hcut := HCUT.out
  go_enter Try.func11, Try.ntmps11
  go_wp2_with fail
  refine (HP.out _ _).mono ?_
  rintro e w1 ⟨q, rfl, hk1, hq1, hb1⟩
  obtain ⟨h2, h4, hc⟩ := new2 hb1
  have HK := Lib.hid hk1
  have hba := (Below.refl w1.heap.size w1).alloc (Nat.le_refl _) (.cells (List.toArray [.int .i64 q.h.kd, .int .i64 q.h.fl, .int .i64 q.h.pa, .int .i64 q.h.sr, .int .i64 q.h.ds, .int .i64 q.h.cn, .int .i64 q.h.sq, .int .i64 q.h.pu, .slice q.A q.n q.c]) 37)
  have hgy : Gr (fun k => F k ∨ k = w.heap.size ∨ k = w.heap.size + 1) (By F w w1.heap.size) w1.heap.size := fun k hk => by
    rcases hk with hk | hk | hk | hk
    · exact .inl (.inl hk)
    · exact .inl (.inr (.inl hk))
    · exact .inl (.inr (.inr hk))
    · exact .inr (by omega)
  have HS0 : Hid (RT F w w1.heap.size (w1.alloc (.cells (List.toArray [.int .i64 q.h.kd, .int .i64 q.h.fl, .int .i64 q.h.pa, .int .i64 q.h.sr, .int .i64 q.h.ds, .int .i64 q.h.cn, .int .i64 q.h.sq, .int .i64 q.h.pu, .slice q.A q.n q.c]) 37)) r m q) := Lib.hid ⟨h2.below hba, h4.below hba, Bk.new w1 37 [.int .i64 q.h.kd, .int .i64 q.h.fl, .int .i64 q.h.pa, .int .i64 q.h.sr, .int .i64 q.h.ds, .int .i64 q.h.cn, .int .i64 q.h.sq, .int .i64 q.h.pu, .slice q.A q.n q.c], h4.lt, hc.alloc hc.size _, ((HR.out.below hc).st (St.refl _ _) hgy).below hba, (hq1.gr hgy).below hba⟩
  have h2a := HS0.out.b2
  clear hk1 hq1 hb1 h2 h4 hc hba hgy HP HR
  go_wp2_with (with_reducible refine at_load 30 (.tmp 2) (by rfl) ?_; refine wpList_load_rp rowR rfl (.tmp 2) rfl r m w.heap.size rfl h2a ?_)
  refine (r_high HS0.out.rp).mono ?_
  rintro e w2 ⟨rfl, hb2⟩
  rw [HI.out]
  have HS1 := Lib.hid (HS0.out.below hb2)
  have HSa := Lib.hid (HS1.out.cell 5 (.int .i64 (0)) (r' := r) (m' := { m with run := 0 }) rfl ⟨HS1.out.rp.lo, HS1.out.rp.hi⟩)
  have HSb := Lib.hid (HSa.out.cell 0 (.slice (cX) (r.n1 - 1) (r.c1 - 1)) (r' := ⟨cX, r.n1 - 1, r.c1 - 1, r.a2, r.n2, r.c2⟩) (m' := (({ m with run := 0 } : AM).put false m.low.tail)) rfl (by have := HSa.out.rp.cutLow HN1.out; rw [HCX.out] at this; exact this))
  have a0 := HS1.out.b2.cell 0 rfl
  have a1 := HS1.out.b2.cell 1 rfl
  have a5 := HS1.out.b2.cell 5 rfl
  have a6 := HS1.out.b2.cell 6 rfl
  have f0 := HS1.out.b2.free 0
  have f1 := HS1.out.b2.free 1
  have f5 := HS1.out.b2.free 5
  have f6 := HS1.out.b2.free 6
  have h7 := HSb.out.b7
  clear hb2 h2a HS0
  go_wp2_with (with_reducible refine at_load 37 (.tmp 7) (by rfl) ?_; refine wpList_load_pk rowP rfl (.tmp 7) rfl q w1.heap.size 0 rfl (Bk.pk (q := q) h7) ?_)
  refine (r_with HSb.out.rp.lo HSb.out.pv (HSb.out.bd HF.out) (show r.n1 - 1 ≤ 2000 by have := HNM.out; omega)).mono ?_
  rintro e w3 ⟨A3, n3, c3, rfl, hs3, hb3⟩
  have HSc := Lib.hid (HSb.out.below hb3)
  have HSd := Lib.hid (HSc.out.cell 0 (.slice A3 n3 c3) (r' := ⟨A3, n3, c3, r.a2, r.n2, r.c2⟩) (m' := (({ m with run := 0 } : AM).put false m.low.tail).put false (m.low.tail ++ [q.pk])) rfl ⟨hs3, HSc.out.rp.hi⟩)
  have b1 := HSc.out.b2.cell 0 rfl
  have g1 := HSc.out.b2.free 0
  have b6 : w3.cell? ⟨w.heap.size, 6, none⟩ = some (.int .i64 (m.ct 0)) := HSc.out.b2.cell 6 rfl
  have g6 := HSc.out.b2.free 6
  clear a0 a1 a5 a6 f0 f1 f5 f6 h7 hb3 hcut
  have HSe := Lib.hid (HSd.out.cell 6 (.int .i64 (m.ct 0 + 1)) (r' := ⟨A3, n3, c3, r.a2, r.n2, r.c2⟩) (m' := { ((({ m with run := 0 } : AM).put false m.low.tail).put false (m.low.tail ++ [q.pk])) with ct := up m.ct 0 (m.ct 0 + 1) }) rfl ⟨HSd.out.rp.lo, HSd.out.rp.hi⟩)
  go_wp2_with fail
  refine wp_region_E (St (· = w.heap.size + 1)) (by kernel_rfl) (fun wd hbd hsz => ?_)
  have HSE := Lib.hid (HSe.out.below hbd)
  have HSE4 := Lib.hid HSE.out.b4
  have bt0' : ¬ (w.heap.size = w.heap.size + 1) := by omega
  have bt7 : ¬ (w1.heap.size = w.heap.size + 1) := by have := HSE.out.hg; omega
  clear hsz
  (refine takeE (St.tr (· = w.heap.size + 1)) 0 (by simp only [List.getElem?_toArray, List.getElem?_cons_succ, List.getElem?_cons_zero]; rfl) (by kernel_rfl) (by kernel_rfl) (by kernel_rfl) (by exact fun _ _ _ h => h) (by first | (refine Or.inl ⟨by rfl, ?_⟩; intro W hW; exact exec_load_bk rowR (.tmp 2) rfl w.heap.size 0 rfl (HSE.out.b2.st hW bt0') (RV.cl ⟨A3, n3, c3, r.a2, r.n2, r.c2⟩ { ((({ m with run := 0 } : AM).put false m.low.tail).put false (m.low.tail ++ [q.pk])) with ct := up m.ct 0 (m.ct 0 + 1) }) rfl rfl) | exact Or.inr ⟨by rfl, rfl⟩) ?_; try simp only [Act.put, List.setIfInBounds_toArray, List.set_cons_zero, List.set_cons_succ])
  (refine takeE (St.tr (· = w.heap.size + 1)) 1 (by simp only [List.getElem?_toArray, List.getElem?_cons_succ, List.getElem?_cons_zero]; rfl) (by kernel_rfl) (by kernel_rfl) (by kernel_rfl) (by exact fun _ _ _ h => h) (by first | (refine Or.inl ⟨by rfl, ?_⟩; intro W hW; exact exec_loadRow rowP (.tmp 7) rfl w1.heap.size 0 rfl q (Bk.pk (HSE.out.b7.st hW bt7))) | exact Or.inr ⟨by rfl, rfl⟩) ?_; try simp only [Act.put, List.setIfInBounds_toArray, List.set_cons_zero, List.set_cons_succ])
  refine wpAnyE_two (i := 2) (j := 3) (by kernel_rfl) (by simp only [List.getElem?_toArray, List.getElem?_cons_succ, List.getElem?_cons_zero]; rfl) (by simp only [List.getElem?_toArray, List.getElem?_cons_succ, List.getElem?_cons_zero]; rfl) (fun K hK => ?_) (fun K hK => ?_)
  ·
    go_simp
    have hrd0 := RdR.one wd 37 q.cl q.cl_one
    have HB7 := Lib.hid ((Below.refl wd.heap.size wd).alloc (Nat.le_refl _) (.cells (List.toArray [.int .i64 q.h.kd, .int .i64 q.h.fl, .int .i64 q.h.pa, .int .i64 q.h.sr, .int .i64 q.h.ds, .int .i64 q.h.cn, .int .i64 q.h.sq, .int .i64 q.h.pu, .slice q.A q.n q.c]) 37))
    have HE4 := Lib.hid (HSE.out.b4.below HB7.out)
    refine hK.out _ _ (St.ext HB7.out) ?_
    clear hK K
    try simp only [Act.put, List.setIfInBounds_toArray, List.set_cons_zero, List.set_cons_succ]
    refine wpAnyE_one (i := 3) (by kernel_rfl) (by simp only [List.getElem?_toArray, List.getElem?_cons_succ, List.getElem?_cons_zero]; rfl) (fun K hK => ?_)
    refine opwp_store_bk rowR rfl (.tmp 4) (.tmp 76) rfl (w.heap.size + 1) 0 rfl HE4.out (RV.cl ⟨A3, n3, c3, r.a2, r.n2, r.c2⟩ { ((({ m with run := 0 } : AM).put false m.low.tail).put false (m.low.tail ++ [q.pk])) with ct := up m.ct 0 (m.ct 0 + 1) }) rfl rfl (by decide) (RV.cl_one _ _) ?_
    intro w5 h45 hw5
    rw [lay_all _ _ (by rfl)] at h45
    have H45 := Lib.hid h45
    have HZ5 : Hid (St (· = w.heap.size + 1) (wd.alloc (.cells (List.toArray [.int .i64 q.h.kd, .int .i64 q.h.fl, .int .i64 q.h.pa, .int .i64 q.h.sr, .int .i64 q.h.ds, .int .i64 q.h.cn, .int .i64 q.h.sq, .int .i64 q.h.pu, .slice q.A q.n q.c]) 37)) w5) := Lib.hid ⟨hw5.os, hw5.tape, hw5.output, hw5.size, fun k hk hn => hw5.block k hk (by intro e; injection e with e; exact hn e)⟩
    have HFW := Lib.hid ((St.ext HB7.out).trans HZ5.out (Gr.refl _ _))
    have HRD := Lib.hid (hrd0.st HZ5.out (fun _ ad he => by injection he with he; subst he; have := HSE.out.b4.lt; show ¬ (wd.heap.size = w.heap.size + 1); omega))
    have HGB := Lib.hid (Nat.le_refl wd.heap.size)
    refine hK.out _ _ HZ5.out ?_
    clear hK K
    try simp only [Act.put, List.setIfInBounds_toArray, List.set_cons_zero, List.set_cons_succ]
    (refine takeE (St.tr (· = w.heap.size + 1)) 4 (by simp only [List.getElem?_toArray, List.getElem?_cons_succ, List.getElem?_cons_zero]; rfl) (by kernel_rfl) (by kernel_rfl) (by kernel_rfl) (by exact fun _ _ _ h => h) (by first | (refine Or.inl ⟨by rfl, ?_⟩; intro W hW; go_simp; try with_reducible rfl) | exact Or.inr ⟨by rfl, rfl⟩) ?_; try simp only [Act.put, List.setIfInBounds_toArray, List.set_cons_zero, List.set_cons_succ])
    (refine takeE (St.tr (· = w.heap.size + 1)) 5 (by simp only [List.getElem?_toArray, List.getElem?_cons_succ, List.getElem?_cons_zero]; rfl) (by kernel_rfl) (by kernel_rfl) (by kernel_rfl) (by exact fun _ _ _ h => h) (by first | (refine Or.inl ⟨by rfl, ?_⟩; intro W hW; go_simp; try with_reducible rfl) | exact Or.inr ⟨by rfl, rfl⟩) ?_; try simp only [Act.put, List.setIfInBounds_toArray, List.set_cons_zero, List.set_cons_succ])
    refine wpAnyE_done (by kernel_rfl) ?_ _
    go_wp2
    have HSF := HFW.out.mono (F' := By F w w1.heap.size) fun k _ hk => .inr (.inr (.inl hk))
    have hrp := HSE.out.rp.st HSF (Gr.refl _ _)
    have hpv := HSE.out.pv.st HSF (Gr.refl _ _)
    have HFIN : Hid (m.srv 4 false x l = { ((({ m with run := 0 } : AM).put false m.low.tail).put false (m.low.tail ++ [q.pk])) with ct := up m.ct 0 (m.ct 0 + 1) }) := Lib.hid (by have e : m.srv 4 false x l = { (m.took false l).put false (l ++ [x]) with ct := up m.ct 0 (m.ct 0 + 1) } := (by simp [AM.srv]); rw [e, HM.out, ← HTL.out.2, ← HK.out])
    refine bodyPost_ret (results_ctt rfl rfl (rowR.load H45.out 0 (cs := RV.cl ⟨A3, n3, c3, r.a2, r.n2, r.c2⟩ { ((({ m with run := 0 } : AM).put false m.low.tail).put false (m.low.tail ++ [q.pk])) with ct := up m.ct 0 (m.ct 0 + 1) }) rfl rfl)) rfl ?_
    rw [HFIN.out]
    first
      | (refine ⟨⟨A3, n3, c3, r.a2, r.n2, r.c2⟩, some ⟨wd.heap.size, 0, none⟩, 1, 1, by kernel_rfl, (show RpR F _ _ _ from ⟨hrp.lo.mono fun k hk => .inl hk, hrp.hi.mono fun k hk => .inl hk⟩), ⟨[q], rfl, by rw [flat_one]; exact HRD.out, by show [q.pk] = _; rw [HK.out], fun y hy => by rw [List.mem_singleton.1 hy]; exact hpv.mono fun k hk => .inl hk, fun _ ad he hf => by injection he with he; subst he; have h1 := HF.out _ hf; have h2 := HSE.out.bl.size; have h3 := HGB.out; dsimp only at h1; omega⟩, HSE.out.bl.trans (HFW.out.below HSE.out.bl.size (fun k hk => by omega))⟩)
      | (refine ⟨⟨A3, n3, c3, r.a2, r.n2, r.c2⟩, some ⟨w5.heap.size, 0, none⟩, 1, 1, by kernel_rfl, (show RpR F _ _ _ from ⟨hrp.lo.mono fun k hk => .inl hk, hrp.hi.mono fun k hk => .inl hk⟩), ⟨[q], rfl, by rw [flat_one]; exact HRD.out, by show [q.pk] = _; rw [HK.out], fun y hy => by rw [List.mem_singleton.1 hy]; exact hpv.mono fun k hk => .inl hk, fun _ ad he hf => by injection he with he; subst he; have h1 := HF.out _ hf; have h2 := HSE.out.bl.size; have h3 := HGB.out; dsimp only at h1; omega⟩, HSE.out.bl.trans (HFW.out.below HSE.out.bl.size (fun k hk => by omega))⟩)
  ·
    refine opwp_store_bk rowR rfl (.tmp 4) (.tmp 76) rfl (w.heap.size + 1) 0 rfl HSE4.out (RV.cl ⟨A3, n3, c3, r.a2, r.n2, r.c2⟩ { ((({ m with run := 0 } : AM).put false m.low.tail).put false (m.low.tail ++ [q.pk])) with ct := up m.ct 0 (m.ct 0 + 1) }) rfl rfl (by decide) (RV.cl_one _ _) ?_
    intro w5 h45 hw5
    rw [lay_all _ _ (by rfl)] at h45
    have H45a := Lib.hid h45
    have HZ5 : Hid (St (· = w.heap.size + 1) wd w5) := Lib.hid ⟨hw5.os, hw5.tape, hw5.output, hw5.size, fun k hk hn => hw5.block k hk (by intro e; injection e with e; exact hn e)⟩
    refine hK.out _ _ HZ5.out ?_
    clear hK K
    try simp only [Act.put, List.setIfInBounds_toArray, List.set_cons_zero, List.set_cons_succ]
    refine wpAnyE_one (i := 2) (by kernel_rfl) (by simp only [List.getElem?_toArray, List.getElem?_cons_succ, List.getElem?_cons_zero]; rfl) (fun K hK => ?_)
    go_simp
    have HRD := Lib.hid (RdR.one w5 37 q.cl q.cl_one)
    have HB7 := Lib.hid ((Below.refl w5.heap.size w5).alloc (Nat.le_refl _) (.cells (List.toArray [.int .i64 q.h.kd, .int .i64 q.h.fl, .int .i64 q.h.pa, .int .i64 q.h.sr, .int .i64 q.h.ds, .int .i64 q.h.cn, .int .i64 q.h.sq, .int .i64 q.h.pu, .slice q.A q.n q.c]) 37))
    have H45 := Lib.hid (H45a.out.below HB7.out)
    have HFW := Lib.hid (HZ5.out.trans (St.ext HB7.out) (Gr.refl _ _))
    have HGB := Lib.hid HZ5.out.size
    refine hK.out _ _ (St.ext HB7.out) ?_
    clear hK K
    try simp only [Act.put, List.setIfInBounds_toArray, List.set_cons_zero, List.set_cons_succ]
    (refine takeE (St.tr (· = w.heap.size + 1)) 4 (by simp only [List.getElem?_toArray, List.getElem?_cons_succ, List.getElem?_cons_zero]; rfl) (by kernel_rfl) (by kernel_rfl) (by kernel_rfl) (by exact fun _ _ _ h => h) (by first | (refine Or.inl ⟨by rfl, ?_⟩; intro W hW; go_simp; try with_reducible rfl) | exact Or.inr ⟨by rfl, rfl⟩) ?_; try simp only [Act.put, List.setIfInBounds_toArray, List.set_cons_zero, List.set_cons_succ])
    (refine takeE (St.tr (· = w.heap.size + 1)) 5 (by simp only [List.getElem?_toArray, List.getElem?_cons_succ, List.getElem?_cons_zero]; rfl) (by kernel_rfl) (by kernel_rfl) (by kernel_rfl) (by exact fun _ _ _ h => h) (by first | (refine Or.inl ⟨by rfl, ?_⟩; intro W hW; go_simp; try with_reducible rfl) | exact Or.inr ⟨by rfl, rfl⟩) ?_; try simp only [Act.put, List.setIfInBounds_toArray, List.set_cons_zero, List.set_cons_succ])
    refine wpAnyE_done (by kernel_rfl) ?_ _
    go_wp2
    have HSF := HFW.out.mono (F' := By F w w1.heap.size) fun k _ hk => .inr (.inr (.inl hk))
    have hrp := HSE.out.rp.st HSF (Gr.refl _ _)
    have hpv := HSE.out.pv.st HSF (Gr.refl _ _)
    have HFIN : Hid (m.srv 4 false x l = { ((({ m with run := 0 } : AM).put false m.low.tail).put false (m.low.tail ++ [q.pk])) with ct := up m.ct 0 (m.ct 0 + 1) }) := Lib.hid (by have e : m.srv 4 false x l = { (m.took false l).put false (l ++ [x]) with ct := up m.ct 0 (m.ct 0 + 1) } := (by simp [AM.srv]); rw [e, HM.out, ← HTL.out.2, ← HK.out])
    refine bodyPost_ret (results_ctt rfl rfl (rowR.load H45.out 0 (cs := RV.cl ⟨A3, n3, c3, r.a2, r.n2, r.c2⟩ { ((({ m with run := 0 } : AM).put false m.low.tail).put false (m.low.tail ++ [q.pk])) with ct := up m.ct 0 (m.ct 0 + 1) }) rfl rfl)) rfl ?_
    rw [HFIN.out]
    first
      | (refine ⟨⟨A3, n3, c3, r.a2, r.n2, r.c2⟩, some ⟨wd.heap.size, 0, none⟩, 1, 1, by kernel_rfl, (show RpR F _ _ _ from ⟨hrp.lo.mono fun k hk => .inl hk, hrp.hi.mono fun k hk => .inl hk⟩), ⟨[q], rfl, by rw [flat_one]; exact HRD.out, by show [q.pk] = _; rw [HK.out], fun y hy => by rw [List.mem_singleton.1 hy]; exact hpv.mono fun k hk => .inl hk, fun _ ad he hf => by injection he with he; subst he; have h1 := HF.out _ hf; have h2 := HSE.out.bl.size; have h3 := HGB.out; dsimp only at h1; omega⟩, HSE.out.bl.trans (HFW.out.below HSE.out.bl.size (fun k hk => by omega))⟩)
      | (refine ⟨⟨A3, n3, c3, r.a2, r.n2, r.c2⟩, some ⟨w5.heap.size, 0, none⟩, 1, 1, by kernel_rfl, (show RpR F _ _ _ from ⟨hrp.lo.mono fun k hk => .inl hk, hrp.hi.mono fun k hk => .inl hk⟩), ⟨[q], rfl, by rw [flat_one]; exact HRD.out, by show [q.pk] = _; rw [HK.out], fun y hy => by rw [List.mem_singleton.1 hy]; exact hpv.mono fun k hk => .inl hk, fun _ ad he hf => by injection he with he; subst he; have h1 := HF.out _ hf; have h2 := HSE.out.bl.size; have h3 := HGB.out; dsimp only at h1; omega⟩, HSE.out.bl.trans (HFW.out.below HSE.out.bl.size (fun k hk => by omega))⟩)

theorem r_serve (h : RpR F w r m) (hF : ∀ k, F k → k < w.heap.size) (hl : m.low.length ≤ 1024) (hh : m.high.length ≤ 1024) (hct : ∀ k, -1 ≤ m.ct k ∧ m.ct k ≤ 1000000) (hru : m.run ≤ 1024) (f : Int) (hf1 : 1 ≤ f) (hf2 : f ≤ 4) (x : Pk) (l : List Pk) (hx : m.sel m.hiB = x :: l) :
    Calls Try.prog 11 #[.agg #[.slice r.a1 r.n1 r.c1, .slice r.a2 r.n2 r.c2, .int .i64 m.lr, .int .i64 m.hr, .int .i64 m.wt, .int .i64 m.run, .int .i64 (m.ct 0), .int .i64 (m.ct 1), .int .i64 (m.ct 2), .int .i64 (m.ct 3), .int .i64 (m.ct 4)], .int .i64 f] w (RServeTo F w (m.srv f m.hiB x l) (if f = 1 ∨ f = 4 then [x] else []) 0) := by
  rcases Bool.eq_false_or_eq_true m.hiB with hi | hi
  · by_cases hlp : 0 < m.low.length
    · rcases (by omega : f = 1 ∨ f = 2 ∨ f = 3 ∨ f = 4) with rfl | rfl | rfl | rfl
      · have := r_serve_hp1 h hF hl hh hct hru hi hlp x l hx; rw [hi]; exact this
      · have := r_serve_hp2 h hF hl hh hct hru hi hlp x l hx; rw [hi]; exact this
      · have := r_serve_hp3 h hF hl hh hct hru hi hlp x l hx; rw [hi]; exact this
      · have := r_serve_hp4 h hF hl hh hct hru hi hlp x l hx; rw [hi]; exact this
    · have hlz : m.low.length = 0 := by omega
      rcases (by omega : f = 1 ∨ f = 2 ∨ f = 3 ∨ f = 4) with rfl | rfl | rfl | rfl
      · have := r_serve_h1 h hF hl hh hct hru hi hlz x l hx; rw [hi]; exact this
      · have := r_serve_h2 h hF hl hh hct hru hi hlz x l hx; rw [hi]; exact this
      · have := r_serve_h3 h hF hl hh hct hru hi hlz x l hx; rw [hi]; exact this
      · have := r_serve_h4 h hF hl hh hct hru hi hlz x l hx; rw [hi]; exact this
  · rcases (by omega : f = 1 ∨ f = 2 ∨ f = 3 ∨ f = 4) with rfl | rfl | rfl | rfl
    · have := r_serve_l1 h hF hl hh hct hru hi x l hx; rw [hi]; exact this
    · have := r_serve_l2 h hF hl hh hct hru hi x l hx; rw [hi]; exact this
    · have := r_serve_l3 h hF hl hh hct hru hi x l hx; rw [hi]; exact this
    · have := r_serve_l4 h hF hl hh hct hru hi x l hx; rw [hi]; exact this
end
end Go.Proofs.Ytcmakhkbkfkhkaa
