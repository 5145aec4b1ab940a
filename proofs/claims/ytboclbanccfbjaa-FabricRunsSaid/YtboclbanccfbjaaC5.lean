/- Texts of this proof, put together: P21 F19 F20 F23 F24 -/
import Derived.Test.YtboclbanccfbjaaC4
import Derived.Test.YtboclbanccfbjaaC3
import Derived.Deep.QuietTactic
import Derived.BigQuiet
import Derived.WalkSpells
namespace Go.Proofs.Ytboclbanccfbjaa
set_option linter.unusedSimpArgs false
set_option linter.unusedVariables false
set_option maxRecDepth 100000
open Go.RowKit Go.Shelf
/-- F, two boxes behind w, and one more. -/
def By (F : Nat → Prop) (w : World) (g : Nat) (k : Nat) : Prop := F k ∨ k = w.heap.size ∨ k = w.heap.size + 1 ∨ k = g
/-- Where the call stands: its boxes, and what they hold. -/
structure RT (F : Nat → Prop) (w : World) (g : Nat) (W : World) (r : RV) (m : AM) (q : Pv) : Prop where
  b2 : Bk W 76 w.heap.size (r.cl m)
  b4 : Bk W 76 (w.heap.size + 1) [.slice none 0 0, .slice none 0 0, .int .i64 0, .int .i64 0, .int .i64 0, .int .i64 0, .int .i64 0, .int .i64 0, .int .i64 0, .int .i64 0, .int .i64 0]
  b7 : Bk W 65 g q.cl
  hg : w.heap.size + 1 < g
  bl : Below w.heap.size w W
  rp : RpR (By F w g) W r m
  pv : PvR (By F w g) W q
section
variable {F : Nat → Prop} {w W W' : World} {g : Nat} {r : RV} {m : AM} {q : Pv}
theorem RT.bd (h : RT F w g W r m q) (hF : ∀ k, F k → k < w.heap.size) : ∀ k, By F w g k → k < W.heap.size := fun k hk => by
  have := h.b7.lt
  have := h.hg
  have := h.bl.size
  rcases hk with hk | hk | hk | hk
  · have := hF k hk; omega
  · omega
  · omega
  · omega
theorem RT.below (h : RT F w g W r m q) (hb : Below W.heap.size W W') : RT F w g W' r m q :=
  ⟨h.b2.below hb, h.b4.below hb, h.b7.below hb, h.hg, below_on h.bl hb, h.rp.below hb, h.pv.below hb⟩
theorem wr_by {k : Nat} (hk : k = w.heap.size ∨ k = w.heap.size + 1 ∨ k = g) (hw : Wr k W W') : St (By F w g) W W' :=
  ⟨hw.os, hw.tape, hw.output, hw.size, fun j hj hn => hw.block j hj fun e => hn (.inr (by injection e with e; rw [e]; exact hk))⟩
/-- A cell of the port's box is written. -/
theorem RT.cell (h : RT F w g W r m q) (i : Nat) (u : Value) {r' : RV} {m' : AM} (hl : (r.cl m).set i u = r'.cl m') (hr : RpR (By F w g) W r' m') : RT F w g (W.setCell ⟨w.heap.size, i, none⟩ u) r' m' q := by
  have hw := Wr.set W w.heap.size i u
  have hst : St (By F w g) W _ := wr_by (.inl rfl) hw
  have hgg := h.hg
  refine ⟨?_, h.b4.wr hw (by omega), h.b7.wr hw (by omega), h.hg, h.bl.trans (hw.below (Nat.le_refl _) h.bl.size), hr.st hst (Gr.refl _ _), h.pv.st hst (Gr.refl _ _)⟩
  have := h.b2.set i u
  rw [hl] at this
  exact this
/-- What the call tells. -/
def RServeTo (F : Nat → Prop) (w : World) (m' : AM) (l : List Pk) (err : Int) (e : Ending) (w' : World) : Prop :=
  ∃ r' A n c, e = .returned (.tuple #[.agg #[.slice r'.a1 r'.n1 r'.c1, .slice r'.a2 r'.n2 r'.c2, .int .i64 m'.lr, .int .i64 m'.hr, .int .i64 m'.wt, .int .i64 m'.run, .int .i64 (m'.ct 0), .int .i64 (m'.ct 1), .int .i64 (m'.ct 2), .int .i64 (m'.ct 3), .int .i64 (m'.ct 4)], .slice A n c, .int .i64 err]) ∧ RpR F w' r' m' ∧ SlP F w' A n c l ∧ Below w.heap.size w w'
theorem results_ctt {P : Program} {w : World} {fn : Func} {s u t : Tmp} {ty : TypeId} (h : fn.results = #[.cell s ty, .tmp u, .tmp t]) {tmps : Array Value} {a : Addr} (ha : tmps.getD s undef = .pointer (some a)) {v : Value} (hl : (loadVar ty a).run P w = .ok v w) :
    (results fn tmps).run P w = .ok (.tuple #[v, tmps.getD u undef, tmps.getD t undef]) w := by
  rw [Array.getD_eq_getD_getElem?] at ha
  simp [results, h, ha, asAddr_some, hl]
theorem RpR.cutHigh {G : Nat → Prop} (h : RpR G W r m) (hn : 1 ≤ r.n2) : RpR G W ⟨r.a1, r.n1, r.c1, cutR r.a2 r.c2 1 9, r.n2 - 1, r.c2 - 1⟩ (m.put true m.high.tail) := ⟨h.lo, h.hi.cut hn⟩
theorem RpR.cutLow {G : Nat → Prop} (h : RpR G W r m) (hn : 1 ≤ r.n1) : RpR G W ⟨cutR r.a1 r.c1 1 9, r.n1 - 1, r.c1 - 1, r.a2, r.n2, r.c2⟩ (m.put false m.low.tail) := ⟨h.lo.cut hn, h.hi⟩
set_option maxHeartbeats 4000000 in
set_option maxRecDepth 100000 in
theorem r_serve_bad (h : RpR F w r m) (f : Int) (hf : f < 1 ∨ 4 < f) :
    Calls Try.prog 33 #[.agg #[.slice r.a1 r.n1 r.c1, .slice r.a2 r.n2 r.c2, .int .i64 m.lr, .int .i64 m.hr, .int .i64 m.wt, .int .i64 m.run, .int .i64 (m.ct 0), .int .i64 (m.ct 1), .int .i64 (m.ct 2), .int .i64 (m.ct 3), .int .i64 (m.ct 4)], .int .i64 f] w (RServeTo F w m [] 80) := by
  have HR := Lib.hid h
  have h2 := (Bk.new w 76 [.slice r.a1 r.n1 r.c1, .slice r.a2 r.n2 r.c2, .int .i64 m.lr, .int .i64 m.hr, .int .i64 m.wt, .int .i64 m.run, .int .i64 (m.ct 0), .int .i64 (m.ct 1), .int .i64 (m.ct 2), .int .i64 (m.ct 3), .int .i64 (m.ct 4)]).alloc (.cells (List.toArray [.slice none 0 0, .slice none 0 0, .int .i64 0, .int .i64 0, .int .i64 0, .int .i64 0, .int .i64 0, .int .i64 0, .int .i64 0, .int .i64 0, .int .i64 0]) 76)
  have h4 : Bk ((w.alloc (.cells (List.toArray [.slice r.a1 r.n1 r.c1, .slice r.a2 r.n2 r.c2, .int .i64 m.lr, .int .i64 m.hr, .int .i64 m.wt, .int .i64 m.run, .int .i64 (m.ct 0), .int .i64 (m.ct 1), .int .i64 (m.ct 2), .int .i64 (m.ct 3), .int .i64 (m.ct 4)]) 76)).alloc (.cells (List.toArray [.slice none 0 0, .slice none 0 0, .int .i64 0, .int .i64 0, .int .i64 0, .int .i64 0, .int .i64 0, .int .i64 0, .int .i64 0, .int .i64 0, .int .i64 0]) 76)) 76 (w.heap.size + 1) [.slice none 0 0, .slice none 0 0, .int .i64 0, .int .i64 0, .int .i64 0, .int .i64 0, .int .i64 0, .int .i64 0, .int .i64 0, .int .i64 0, .int .i64 0] := by
    have := Bk.new (w.alloc (.cells (List.toArray [.slice r.a1 r.n1 r.c1, .slice r.a2 r.n2 r.c2, .int .i64 m.lr, .int .i64 m.hr, .int .i64 m.wt, .int .i64 m.run, .int .i64 (m.ct 0), .int .i64 (m.ct 1), .int .i64 (m.ct 2), .int .i64 (m.ct 3), .int .i64 (m.ct 4)]) 76)) 76 [.slice none 0 0, .slice none 0 0, .int .i64 0, .int .i64 0, .int .i64 0, .int .i64 0, .int .i64 0, .int .i64 0, .int .i64 0, .int .i64 0, .int .i64 0]
    simpa using this
  have hb := ((Below.refl w.heap.size w).alloc (Nat.le_refl _) (.cells (List.toArray [.slice r.a1 r.n1 r.c1, .slice r.a2 r.n2 r.c2, .int .i64 m.lr, .int .i64 m.hr, .int .i64 m.wt, .int .i64 m.run, .int .i64 (m.ct 0), .int .i64 (m.ct 1), .int .i64 (m.ct 2), .int .i64 (m.ct 3), .int .i64 (m.ct 4)]) 76)).alloc (by simp) (.cells (List.toArray [.slice none 0 0, .slice none 0 0, .int .i64 0, .int .i64 0, .int .i64 0, .int .i64 0, .int .i64 0, .int .i64 0, .int .i64 0, .int .i64 0, .int .i64 0]) 76)
  clear h
  rcases (by omega : f < 1 ∨ (1 ≤ f ∧ 4 < f)) with h1 | ⟨h1, h3⟩
  all_goals
    clear hf
    go_enter Try.func33, Try.ntmps33
    go_wp2_with (first
      | (with_reducible refine at_load 76 (.tmp 2) (by rfl) ?_; refine wpList_load_rp rowR rfl (.tmp 2) rfl r m w.heap.size rfl h2 ?_)
      | (with_reducible refine at_store 76 (.tmp 4) (.tmp 16) (by rfl) ?_; refine wpList_put_rp rowR rfl (.tmp 4) (.tmp 16) rfl (w.heap.size + 1) rfl h4 rfl r m rfl ?_; rintro w5 h45 hw5))
    refine bodyPost_ret (results_ctt rfl rfl (rowR.load h45 0 (cs := r.cl m) rfl rfl)) rfl ?_
    have hb5 := Wr.on hb hw5 (by omega)
    exact ⟨r, none, 0, 0, by kernel_rfl, HR.out.below hb5, SlP.nil _ _, hb5⟩
set_option maxHeartbeats 4000000 in
set_option maxRecDepth 100000 in
theorem r_serve_none (h : RpR F w r m) (hF : ∀ k, F k → k < w.heap.size) (f : Int) (hf1 : 1 ≤ f) (hf2 : f ≤ 4) (hx : m.sel m.hiB = []) :
    Calls Try.prog 33 #[.agg #[.slice r.a1 r.n1 r.c1, .slice r.a2 r.n2 r.c2, .int .i64 m.lr, .int .i64 m.hr, .int .i64 m.wt, .int .i64 m.run, .int .i64 (m.ct 0), .int .i64 (m.ct 1), .int .i64 (m.ct 2), .int .i64 (m.ct 3), .int .i64 (m.ct 4)], .int .i64 f] w (RServeTo F w m [] 7) := by
  have HR := Lib.hid h
  have HP : Hid (∀ o o', Calls Try.prog 46 #[.agg #[.slice r.a1 r.n1 r.c1, .slice r.a2 r.n2 r.c2, .int .i64 m.lr, .int .i64 m.hr, .int .i64 m.wt, .int .i64 m.run, .int .i64 (m.ct 0), .int .i64 (m.ct 1), .int .i64 (m.ct 2), .int .i64 (m.ct 3), .int .i64 (m.ct 4)]] ((w.alloc o).alloc o') fun e w' => ∃ q' : Pv, e = .returned (.tuple #[.agg #[.int .i64 q'.h.kd, .int .i64 q'.h.fl, .int .i64 q'.h.pa, .int .i64 q'.h.sr, .int .i64 q'.h.ds, .int .i64 q'.h.cn, .int .i64 q'.h.sq, .int .i64 q'.h.pu, .slice q'.A q'.n q'.c], .bool false]) ∧ Below ((w.alloc o).alloc o').heap.size ((w.alloc o).alloc o') w') := Lib.hid fun o o' => by
    have := r_peek (h.below (((Below.refl _ _).alloc (Nat.le_refl _) o).alloc (by simp) o')) (fun k hk => by have := hF k hk; simp; omega)
    rw [hx] at this
    exact this.mono fun e w' ⟨q', h1, h2, h3, h4⟩ => ⟨q', h1, h4⟩
  clear h hx hF
  go_enter Try.func33, Try.ntmps33
  go_wp2_with fail
  refine (HP.out _ _).mono ?_
  rintro e w1 ⟨q1, rfl, hb1⟩
  obtain ⟨h2, h4, hc⟩ := new2 hb1
  have h2a := h2.alloc (.cells (List.toArray [.int .i64 q1.h.kd, .int .i64 q1.h.fl, .int .i64 q1.h.pa, .int .i64 q1.h.sr, .int .i64 q1.h.ds, .int .i64 q1.h.cn, .int .i64 q1.h.sq, .int .i64 q1.h.pu, .slice q1.A q1.n q1.c]) 65)
  have h4a := h4.alloc (.cells (List.toArray [.int .i64 q1.h.kd, .int .i64 q1.h.fl, .int .i64 q1.h.pa, .int .i64 q1.h.sr, .int .i64 q1.h.ds, .int .i64 q1.h.cn, .int .i64 q1.h.sq, .int .i64 q1.h.pu, .slice q1.A q1.n q1.c]) 65)
  have hca := hc.alloc hc.size (.cells (List.toArray [.int .i64 q1.h.kd, .int .i64 q1.h.fl, .int .i64 q1.h.pa, .int .i64 q1.h.sr, .int .i64 q1.h.ds, .int .i64 q1.h.cn, .int .i64 q1.h.sq, .int .i64 q1.h.pu, .slice q1.A q1.n q1.c]) 65)
  clear hb1 h2 h4 hc
  go_wp2_with (first
    | (with_reducible refine at_load 76 (.tmp 2) (by rfl) ?_; refine wpList_load_rp rowR rfl (.tmp 2) rfl r m w.heap.size rfl h2a ?_)
    | (with_reducible refine at_store 76 (.tmp 4) (.tmp 24) (by rfl) ?_; refine wpList_put_rp rowR rfl (.tmp 4) (.tmp 24) rfl (w.heap.size + 1) rfl h4a rfl r m rfl ?_; rintro w5 h45 hw5))
  refine bodyPost_ret (results_ctt rfl rfl (rowR.load h45 0 (cs := r.cl m) rfl rfl)) rfl ?_
  have hb5 := Wr.on hca hw5 (by omega)
  exact ⟨r, none, 0, 0, by kernel_rfl, HR.out.below hb5, SlP.nil _ _, hb5⟩
set_option maxHeartbeats 4000000 in
set_option maxRecDepth 100000 in
theorem r_serve_hp1 (h : RpR F w r m) (hF : ∀ k, F k → k < w.heap.size) (hl : m.low.length ≤ 1024) (hh : m.high.length ≤ 1024) (hct : ∀ k, -1 ≤ m.ct k ∧ m.ct k ≤ 1000000) (hru : m.run ≤ 1024) (hi : m.hiB = true) (hlp : 0 < m.low.length) (x : Pk) (l : List Pk) (hx : m.sel m.hiB = x :: l) :
    Calls Try.prog 33 #[.agg #[.slice r.a1 r.n1 r.c1, .slice r.a2 r.n2 r.c2, .int .i64 m.lr, .int .i64 m.hr, .int .i64 m.wt, .int .i64 m.run, .int .i64 (m.ct 0), .int .i64 (m.ct 1), .int .i64 (m.ct 2), .int .i64 (m.ct 3), .int .i64 (m.ct 4)], .int .i64 1] w (RServeTo F w (m.srv 1 true x l) [x] 0) := by
  rw [hi] at hx
  have hlm : m.high = x :: l := hx
  have hn1 : 1 ≤ r.n2 := by rw [← h.hi.len, hlm]; simp
  have hnm : r.n2 ≤ 2000 := by rw [← h.hi.len]; exact Nat.le_trans hh (by decide)
  have hnr : m.nrun true = m.run + 1 := by simp [AM.nrun, hlp]
  have HM : Hid (m.took true l = (({ m with run := m.run + 1 } : AM).put true m.high.tail)) := Lib.hid (by unfold AM.took; rw [hnr]; show _ = ({ m with run := m.run + 1 } : AM).put true m.high.tail; rw [hlm]; rfl)
  have HTL : Hid (({ m with run := m.run + 1 } : AM).put true m.high.tail = (({ m with run := m.run + 1 } : AM).put true m.high.tail) ∧ m.high.tail = l) := Lib.hid ⟨rfl, by rw [hlm]; rfl⟩
  have hlw : (0 : Int) < r.n1 := by have := h.lo.len; omega
  have hwr : IntKind.i64.wrap ((m.run : Int) + 1) = (m.run : Int) + 1 := by rw [IntKind.wrap_i64]; omega
  have hwc : IntKind.i64.wrap (m.ct 0 + 1) = m.ct 0 + 1 := by have := hct 0; rw [IntKind.wrap_i64]; omega
  have hb0 : ∀ o o', Below w.heap.size w ((w.alloc o).alloc o') := fun o o' => ((Below.refl _ _).alloc (Nat.le_refl _) o).alloc (by simp) o'
  have hg0 : Gr F (fun k => F k ∨ k = w.heap.size ∨ k = w.heap.size + 1) w.heap.size := fun k hk => hk.imp id (by omega)
  have HP : Hid (∀ o o', Calls Try.prog 46 #[.agg #[.slice r.a1 r.n1 r.c1, .slice r.a2 r.n2 r.c2, .int .i64 m.lr, .int .i64 m.hr, .int .i64 m.wt, .int .i64 m.run, .int .i64 (m.ct 0), .int .i64 (m.ct 1), .int .i64 (m.ct 2), .int .i64 (m.ct 3), .int .i64 (m.ct 4)]] ((w.alloc o).alloc o') fun e w' => ∃ q' : Pv, e = .returned (.tuple #[.agg #[.int .i64 q'.h.kd, .int .i64 q'.h.fl, .int .i64 q'.h.pa, .int .i64 q'.h.sr, .int .i64 q'.h.ds, .int .i64 q'.h.cn, .int .i64 q'.h.sq, .int .i64 q'.h.pu, .slice q'.A q'.n q'.c], .bool true]) ∧ q'.pk = x ∧ PvR (fun k => F k ∨ k = w.heap.size ∨ k = w.heap.size + 1) w' q' ∧ Below ((w.alloc o).alloc o').heap.size ((w.alloc o).alloc o') w') := Lib.hid fun o o' => by
    have := r_peek ((h.st (St.refl F w) hg0).below (hb0 o o')) (fun k hk => by simp; rcases hk with hk | hk; (have := hF k hk; omega); omega)
    rw [hi, hx] at this
    exact this
  have HR := Lib.hid (h.st (St.refl F w) hg0)
  have HF := Lib.hid hF
  have HI := Lib.hid hi
  have hcut : ∀ W, (Instr.slice 34 (.slice r.a2 r.n2 r.c2) (some (.int .i64 1)) none none).run Try.prog W = .ok (.slice (cutR r.a2 r.c2 1 9) (r.n2 - 1) (r.c2 - 1)) W := fun W => eltP.run_cut r.a2 r.n2 r.c2 1 hn1 (by obtain ⟨qs, z1, z2, z3, z4, z5⟩ := h.hi; exact z2.2.1) W
  have HCUT := Lib.hid hcut
  have HNM := Lib.hid hnm
  have HN1 := Lib.hid hn1
  clear h hF hl hh hct hru hi hx hlm hb0 hg0 hnr hnm hn1 hcut hlp
  generalize hcutX : cutR r.a2 r.c2 1 9 = cX at *
  have HCX := Lib.hid hcutX
  clear hcutX
  have hcut := HCUT.out
  go_enter Try.func33, Try.ntmps33
  go_wp2_with fail
  refine (HP.out _ _).mono ?_
  rintro e w1 ⟨q, rfl, hk1, hq1, hb1⟩
  obtain ⟨h2, h4, hc⟩ := new2 hb1
  have HK := Lib.hid hk1
  have hba := (Below.refl w1.heap.size w1).alloc (Nat.le_refl _) (.cells (List.toArray [.int .i64 q.h.kd, .int .i64 q.h.fl, .int .i64 q.h.pa, .int .i64 q.h.sr, .int .i64 q.h.ds, .int .i64 q.h.cn, .int .i64 q.h.sq, .int .i64 q.h.pu, .slice q.A q.n q.c]) 65)
  have hgy : Gr (fun k => F k ∨ k = w.heap.size ∨ k = w.heap.size + 1) (By F w w1.heap.size) w1.heap.size := fun k hk => by
    rcases hk with hk | hk | hk | hk
    · exact .inl (.inl hk)
    · exact .inl (.inr (.inl hk))
    · exact .inl (.inr (.inr hk))
    · exact .inr (by omega)
  have HS0 : Hid (RT F w w1.heap.size (w1.alloc (.cells (List.toArray [.int .i64 q.h.kd, .int .i64 q.h.fl, .int .i64 q.h.pa, .int .i64 q.h.sr, .int .i64 q.h.ds, .int .i64 q.h.cn, .int .i64 q.h.sq, .int .i64 q.h.pu, .slice q.A q.n q.c]) 65)) r m q) := Lib.hid ⟨h2.below hba, h4.below hba, Bk.new w1 65 [.int .i64 q.h.kd, .int .i64 q.h.fl, .int .i64 q.h.pa, .int .i64 q.h.sr, .int .i64 q.h.ds, .int .i64 q.h.cn, .int .i64 q.h.sq, .int .i64 q.h.pu, .slice q.A q.n q.c], h4.lt, hc.alloc hc.size _, ((HR.out.below hc).st (St.refl _ _) hgy).below hba, (hq1.gr hgy).below hba⟩
  have h2a := HS0.out.b2
  clear hk1 hq1 hb1 h2 h4 hc hba hgy HP HR
  go_wp2_with (with_reducible refine at_load 76 (.tmp 2) (by rfl) ?_; refine wpList_load_rp rowR rfl (.tmp 2) rfl r m w.heap.size rfl h2a ?_)
  refine (r_high HS0.out.rp).mono ?_
  rintro e w2 ⟨rfl, hb2⟩
  rw [HI.out]
  have HS1 := Lib.hid (HS0.out.below hb2)
  have HSa := Lib.hid (HS1.out.cell 5 (.int .i64 ((m.run : Int) + 1)) (r' := r) (m' := { m with run := m.run + 1 }) rfl ⟨HS1.out.rp.lo, HS1.out.rp.hi⟩)
  have HSb := Lib.hid (HSa.out.cell 1 (.slice (cX) (r.n2 - 1) (r.c2 - 1)) (r' := ⟨r.a1, r.n1, r.c1, cX, r.n2 - 1, r.c2 - 1⟩) (m' := (({ m with run := m.run + 1 } : AM).put true m.high.tail)) rfl (by have := HSa.out.rp.cutHigh HN1.out; rw [HCX.out] at this; exact this))
  have a0 := HS1.out.b2.cell 0 rfl
  have a1 := HS1.out.b2.cell 1 rfl
  have a5 := HS1.out.b2.cell 5 rfl
  have a6 := HS1.out.b2.cell 6 rfl
  have f0 := HS1.out.b2.free 0
  have f1 := HS1.out.b2.free 1
  have f5 := HS1.out.b2.free 5
  have f6 := HS1.out.b2.free 6
  have h7 := HSb.out.b7
  clear hb2 h2a HS0
  have HSe := Lib.hid (HSb.out.cell 6 (.int .i64 (m.ct 0 + 1)) (r' := ⟨r.a1, r.n1, r.c1, cX, r.n2 - 1, r.c2 - 1⟩) (m' := { (({ m with run := m.run + 1 } : AM).put true m.high.tail) with ct := up m.ct 0 (m.ct 0 + 1) }) rfl ⟨HSb.out.rp.lo, HSb.out.rp.hi⟩)
  go_wp2_with fail
  refine wp_region_E (St (· = w.heap.size + 1)) (by kernel_rfl) (fun wd hbd hsz => ?_)
  have HSE := Lib.hid (HSe.out.below hbd)
  have HSE4 := Lib.hid HSE.out.b4
  have bt0' : ¬ (w.heap.size = w.heap.size + 1) := by omega
  have bt7 : ¬ (w1.heap.size = w.heap.size + 1) := by have := HSE.out.hg; omega
  clear hsz
  (refine takeE (St.tr (· = w.heap.size + 1)) 0 (by simp only [List.getElem?_toArray, List.getElem?_cons_succ, List.getElem?_cons_zero]; rfl) (by kernel_rfl) (by kernel_rfl) (by kernel_rfl) (by exact fun _ _ _ h => h) (by first | (refine Or.inl ⟨by rfl, ?_⟩; intro W hW; exact exec_load_bk rowR (.tmp 2) rfl w.heap.size 0 rfl (HSE.out.b2.st hW bt0') (RV.cl ⟨r.a1, r.n1, r.c1, cX, r.n2 - 1, r.c2 - 1⟩ { (({ m with run := m.run + 1 } : AM).put true m.high.tail) with ct := up m.ct 0 (m.ct 0 + 1) }) rfl rfl) | exact Or.inr ⟨by rfl, rfl⟩) ?_; try simp only [Act.put, List.setIfInBounds_toArray, List.set_cons_zero, List.set_cons_succ])
  (refine takeE (St.tr (· = w.heap.size + 1)) 1 (by simp only [List.getElem?_toArray, List.getElem?_cons_succ, List.getElem?_cons_zero]; rfl) (by kernel_rfl) (by kernel_rfl) (by kernel_rfl) (by exact fun _ _ _ h => h) (by first | (refine Or.inl ⟨by rfl, ?_⟩; intro W hW; exact exec_loadRow rowP (.tmp 7) rfl w1.heap.size 0 rfl q (Bk.pk (HSE.out.b7.st hW bt7))) | exact Or.inr ⟨by rfl, rfl⟩) ?_; try simp only [Act.put, List.setIfInBounds_toArray, List.set_cons_zero, List.set_cons_succ])
  refine wpAnyE_two (i := 2) (j := 3) (by kernel_rfl) (by simp only [List.getElem?_toArray, List.getElem?_cons_succ, List.getElem?_cons_zero]; rfl) (by simp only [List.getElem?_toArray, List.getElem?_cons_succ, List.getElem?_cons_zero]; rfl) (fun K hK => ?_) (fun K hK => ?_)
  ·
    go_simp
    have hrd0 := RdR.one wd 65 q.cl q.cl_one
    have HB7 := Lib.hid ((Below.refl wd.heap.size wd).alloc (Nat.le_refl _) (.cells (List.toArray [.int .i64 q.h.kd, .int .i64 q.h.fl, .int .i64 q.h.pa, .int .i64 q.h.sr, .int .i64 q.h.ds, .int .i64 q.h.cn, .int .i64 q.h.sq, .int .i64 q.h.pu, .slice q.A q.n q.c]) 65))
    have HE4 := Lib.hid (HSE.out.b4.below HB7.out)
    refine hK.out _ _ (St.ext HB7.out) ?_
    clear hK K
    try simp only [Act.put, List.setIfInBounds_toArray, List.set_cons_zero, List.set_cons_succ]
    refine wpAnyE_one (i := 3) (by kernel_rfl) (by simp only [List.getElem?_toArray, List.getElem?_cons_succ, List.getElem?_cons_zero]; rfl) (fun K hK => ?_)
    refine opwp_store_bk rowR rfl (.tmp 4) (.tmp 76) rfl (w.heap.size + 1) 0 rfl HE4.out (RV.cl ⟨r.a1, r.n1, r.c1, cX, r.n2 - 1, r.c2 - 1⟩ { (({ m with run := m.run + 1 } : AM).put true m.high.tail) with ct := up m.ct 0 (m.ct 0 + 1) }) rfl rfl (by decide) (RV.cl_one _ _) ?_
    intro w5 h45 hw5
    rw [lay_all _ _ (by rfl)] at h45
    have H45 := Lib.hid h45
    have HZ5 : Hid (St (· = w.heap.size + 1) (wd.alloc (.cells (List.toArray [.int .i64 q.h.kd, .int .i64 q.h.fl, .int .i64 q.h.pa, .int .i64 q.h.sr, .int .i64 q.h.ds, .int .i64 q.h.cn, .int .i64 q.h.sq, .int .i64 q.h.pu, .slice q.A q.n q.c]) 65)) w5) := Lib.hid ⟨hw5.os, hw5.tape, hw5.output, hw5.size, fun k hk hn => hw5.block k hk (by intro e; injection e with e; exact hn e)⟩
    have HFW := Lib.hid ((St.ext HB7.out).trans HZ5.out (Gr.refl _ _))
    have HRD := Lib.hid (hrd0.st HZ5.out (fun _ ad he => by injection he with he; subst he; have := HSE.out.b4.lt; show ¬ (wd.heap.size = w.heap.size + 1); omega))
    have HGB := Lib.hid (Nat.le_refl wd.heap.size)
    refine hK.out _ _ HZ5.out ?_
    clear hK K
    try simp only [Act.put, List.setIfInBounds_toArray, List.set_cons_zero, List.set_cons_succ]
    (refine takeE (St.tr (· = w.heap.size + 1)) 4 (by simp only [List.getElem?_toArray, List.getElem?_cons_succ, List.getElem?_cons_zero]; rfl) (by kernel_rfl) (by kernel_rfl) (by kernel_rfl) (by exact fun _ _ _ h => h) (by first | (refine Or.inl ⟨by rfl, ?_⟩; intro W hW; go_simp; try with_reducible rfl) | exact Or.inr ⟨by rfl, rfl⟩) ?_; try simp only [Act.put, List.setIfInBounds_toArray, List.set_cons_zero, List.set_cons_succ])
    (refine takeE (St.tr (· = w.heap.size + 1)) 5 (by simp only [List.getElem?_toArray, List.getElem?_cons_succ, List.getElem?_cons_zero]; rfl) (by kernel_rfl) (by kernel_rfl) (by kernel_rfl) (by exact fun _ _ _ h => h) (by first | (refine Or.inl ⟨by rfl, ?_⟩; intro W hW; go_simp; try with_reducible rfl) | exact Or.inr ⟨by rfl, rfl⟩) ?_; try simp only [Act.put, List.setIfInBounds_toArray, List.set_cons_zero, List.set_cons_succ])
    refine wpAnyE_done (by kernel_rfl) ?_ _
    go_wp2
    have HSF := HFW.out.mono (F' := By F w w1.heap.size) fun k _ hk => .inr (.inr (.inl hk))
    have hrp := HSE.out.rp.st HSF (Gr.refl _ _)
    have hpv := HSE.out.pv.st HSF (Gr.refl _ _)
    have HFIN : Hid (m.srv 1 true x l = { (({ m with run := m.run + 1 } : AM).put true m.high.tail) with ct := up m.ct 0 (m.ct 0 + 1) }) := Lib.hid (by have e : m.srv 1 true x l = { m.took true l with ct := up m.ct 0 (m.ct 0 + 1) } := (by simp [AM.srv]); rw [e, HM.out])
    refine bodyPost_ret (results_ctt rfl rfl (rowR.load H45.out 0 (cs := RV.cl ⟨r.a1, r.n1, r.c1, cX, r.n2 - 1, r.c2 - 1⟩ { (({ m with run := m.run + 1 } : AM).put true m.high.tail) with ct := up m.ct 0 (m.ct 0 + 1) }) rfl rfl)) rfl ?_
    rw [HFIN.out]
    first
      | (refine ⟨⟨r.a1, r.n1, r.c1, cX, r.n2 - 1, r.c2 - 1⟩, some ⟨wd.heap.size, 0, none⟩, 1, 1, by kernel_rfl, (show RpR F _ _ _ from ⟨hrp.lo.mono fun k hk => .inl hk, hrp.hi.mono fun k hk => .inl hk⟩), ⟨[q], rfl, by rw [flat_one]; exact HRD.out, by show [q.pk] = _; rw [HK.out], fun y hy => by rw [List.mem_singleton.1 hy]; exact hpv.mono fun k hk => .inl hk, fun _ ad he hf => by injection he with he; subst he; have h1 := HF.out _ hf; have h2 := HSE.out.bl.size; have h3 := HGB.out; dsimp only at h1; omega⟩, HSE.out.bl.trans (HFW.out.below HSE.out.bl.size (fun k hk => by omega))⟩)
      | (refine ⟨⟨r.a1, r.n1, r.c1, cX, r.n2 - 1, r.c2 - 1⟩, some ⟨w5.heap.size, 0, none⟩, 1, 1, by kernel_rfl, (show RpR F _ _ _ from ⟨hrp.lo.mono fun k hk => .inl hk, hrp.hi.mono fun k hk => .inl hk⟩), ⟨[q], rfl, by rw [flat_one]; exact HRD.out, by show [q.pk] = _; rw [HK.out], fun y hy => by rw [List.mem_singleton.1 hy]; exact hpv.mono fun k hk => .inl hk, fun _ ad he hf => by injection he with he; subst he; have h1 := HF.out _ hf; have h2 := HSE.out.bl.size; have h3 := HGB.out; dsimp only at h1; omega⟩, HSE.out.bl.trans (HFW.out.below HSE.out.bl.size (fun k hk => by omega))⟩)
  ·
    refine opwp_store_bk rowR rfl (.tmp 4) (.tmp 76) rfl (w.heap.size + 1) 0 rfl HSE4.out (RV.cl ⟨r.a1, r.n1, r.c1, cX, r.n2 - 1, r.c2 - 1⟩ { (({ m with run := m.run + 1 } : AM).put true m.high.tail) with ct := up m.ct 0 (m.ct 0 + 1) }) rfl rfl (by decide) (RV.cl_one _ _) ?_
    intro w5 h45 hw5
    rw [lay_all _ _ (by rfl)] at h45
    have H45a := Lib.hid h45
    have HZ5 : Hid (St (· = w.heap.size + 1) wd w5) := Lib.hid ⟨hw5.os, hw5.tape, hw5.output, hw5.size, fun k hk hn => hw5.block k hk (by intro e; injection e with e; exact hn e)⟩
    refine hK.out _ _ HZ5.out ?_
    clear hK K
    try simp only [Act.put, List.setIfInBounds_toArray, List.set_cons_zero, List.set_cons_succ]
    refine wpAnyE_one (i := 2) (by kernel_rfl) (by simp only [List.getElem?_toArray, List.getElem?_cons_succ, List.getElem?_cons_zero]; rfl) (fun K hK => ?_)
    go_simp
    have HRD := Lib.hid (RdR.one w5 65 q.cl q.cl_one)
    have HB7 := Lib.hid ((Below.refl w5.heap.size w5).alloc (Nat.le_refl _) (.cells (List.toArray [.int .i64 q.h.kd, .int .i64 q.h.fl, .int .i64 q.h.pa, .int .i64 q.h.sr, .int .i64 q.h.ds, .int .i64 q.h.cn, .int .i64 q.h.sq, .int .i64 q.h.pu, .slice q.A q.n q.c]) 65))
    have H45 := Lib.hid (H45a.out.below HB7.out)
    have HFW := Lib.hid (HZ5.out.trans (St.ext HB7.out) (Gr.refl _ _))
    have HGB := Lib.hid HZ5.out.size
    refine hK.out _ _ (St.ext HB7.out) ?_
    clear hK K
    try simp only [Act.put, List.setIfInBounds_toArray, List.set_cons_zero, List.set_cons_succ]
    (refine takeE (St.tr (· = w.heap.size + 1)) 4 (by simp only [List.getElem?_toArray, List.getElem?_cons_succ, List.getElem?_cons_zero]; rfl) (by kernel_rfl) (by kernel_rfl) (by kernel_rfl) (by exact fun _ _ _ h => h) (by first | (refine Or.inl ⟨by rfl, ?_⟩; intro W hW; go_simp; try with_reducible rfl) | exact Or.inr ⟨by rfl, rfl⟩) ?_; try simp only [Act.put, List.setIfInBounds_toArray, List.set_cons_zero, List.set_cons_succ])
    (refine takeE (St.tr (· = w.heap.size + 1)) 5 (by simp only [List.getElem?_toArray, List.getElem?_cons_succ, List.getElem?_cons_zero]; rfl) (by kernel_rfl) (by kernel_rfl) (by kernel_rfl) (by exact fun _ _ _ h => h) (by first | (refine Or.inl ⟨by rfl, ?_⟩; intro W hW; go_simp; try with_reducible rfl) | exact Or.inr ⟨by rfl, rfl⟩) ?_; try simp only [Act.put, List.setIfInBounds_toArray, List.set_cons_zero, List.set_cons_succ])
    refine wpAnyE_done (by kernel_rfl) ?_ _
    go_wp2
    have HSF := HFW.out.mono (F' := By F w w1.heap.size) fun k _ hk => .inr (.inr (.inl hk))
    have hrp := HSE.out.rp.st HSF (Gr.refl _ _)
    have hpv := HSE.out.pv.st HSF (Gr.refl _ _)
    have HFIN : Hid (m.srv 1 true x l = { (({ m with run := m.run + 1 } : AM).put true m.high.tail) with ct := up m.ct 0 (m.ct 0 + 1) }) := Lib.hid (by have e : m.srv 1 true x l = { m.took true l with ct := up m.ct 0 (m.ct 0 + 1) } := (by simp [AM.srv]); rw [e, HM.out])
    refine bodyPost_ret (results_ctt rfl rfl (rowR.load H45.out 0 (cs := RV.cl ⟨r.a1, r.n1, r.c1, cX, r.n2 - 1, r.c2 - 1⟩ { (({ m with run := m.run + 1 } : AM).put true m.high.tail) with ct := up m.ct 0 (m.ct 0 + 1) }) rfl rfl)) rfl ?_
    rw [HFIN.out]
    first
      | (refine ⟨⟨r.a1, r.n1, r.c1, cX, r.n2 - 1, r.c2 - 1⟩, some ⟨wd.heap.size, 0, none⟩, 1, 1, by kernel_rfl, (show RpR F _ _ _ from ⟨hrp.lo.mono fun k hk => .inl hk, hrp.hi.mono fun k hk => .inl hk⟩), ⟨[q], rfl, by rw [flat_one]; exact HRD.out, by show [q.pk] = _; rw [HK.out], fun y hy => by rw [List.mem_singleton.1 hy]; exact hpv.mono fun k hk => .inl hk, fun _ ad he hf => by injection he with he; subst he; have h1 := HF.out _ hf; have h2 := HSE.out.bl.size; have h3 := HGB.out; dsimp only at h1; omega⟩, HSE.out.bl.trans (HFW.out.below HSE.out.bl.size (fun k hk => by omega))⟩)
      | (refine ⟨⟨r.a1, r.n1, r.c1, cX, r.n2 - 1, r.c2 - 1⟩, some ⟨w5.heap.size, 0, none⟩, 1, 1, by kernel_rfl, (show RpR F _ _ _ from ⟨hrp.lo.mono fun k hk => .inl hk, hrp.hi.mono fun k hk => .inl hk⟩), ⟨[q], rfl, by rw [flat_one]; exact HRD.out, by show [q.pk] = _; rw [HK.out], fun y hy => by rw [List.mem_singleton.1 hy]; exact hpv.mono fun k hk => .inl hk, fun _ ad he hf => by injection he with he; subst he; have h1 := HF.out _ hf; have h2 := HSE.out.bl.size; have h3 := HGB.out; dsimp only at h1; omega⟩, HSE.out.bl.trans (HFW.out.below HSE.out.bl.size (fun k hk => by omega))⟩)
set_option maxHeartbeats 4000000 in
set_option maxRecDepth 100000 in
theorem r_serve_h1 (h : RpR F w r m) (hF : ∀ k, F k → k < w.heap.size) (hl : m.low.length ≤ 1024) (hh : m.high.length ≤ 1024) (hct : ∀ k, -1 ≤ m.ct k ∧ m.ct k ≤ 1000000) (hru : m.run ≤ 1024) (hi : m.hiB = true) (hlp : m.low.length = 0) (x : Pk) (l : List Pk) (hx : m.sel m.hiB = x :: l) :
    Calls Try.prog 33 #[.agg #[.slice r.a1 r.n1 r.c1, .slice r.a2 r.n2 r.c2, .int .i64 m.lr, .int .i64 m.hr, .int .i64 m.wt, .int .i64 m.run, .int .i64 (m.ct 0), .int .i64 (m.ct 1), .int .i64 (m.ct 2), .int .i64 (m.ct 3), .int .i64 (m.ct 4)], .int .i64 1] w (RServeTo F w (m.srv 1 true x l) [x] 0) := by
  rw [hi] at hx
  have hlm : m.high = x :: l := hx
  have hn1 : 1 ≤ r.n2 := by rw [← h.hi.len, hlm]; simp
  have hnm : r.n2 ≤ 2000 := by rw [← h.hi.len]; exact Nat.le_trans hh (by decide)
  have hnr : m.nrun true = 0 := by simp [AM.nrun, hlp]
  have HM : Hid (m.took true l = (({ m with run := 0 } : AM).put true m.high.tail)) := Lib.hid (by unfold AM.took; rw [hnr]; show _ = ({ m with run := 0 } : AM).put true m.high.tail; rw [hlm]; rfl)
  have HTL : Hid (({ m with run := 0 } : AM).put true m.high.tail = (({ m with run := 0 } : AM).put true m.high.tail) ∧ m.high.tail = l) := Lib.hid ⟨rfl, by rw [hlm]; rfl⟩
  have hlw : (r.n1 : Int) ≤ 0 := by have := h.lo.len; omega
  have hwr : IntKind.i64.wrap ((m.run : Int) + 1) = (m.run : Int) + 1 := by rw [IntKind.wrap_i64]; omega
  have hwc : IntKind.i64.wrap (m.ct 0 + 1) = m.ct 0 + 1 := by have := hct 0; rw [IntKind.wrap_i64]; omega
  have hb0 : ∀ o o', Below w.heap.size w ((w.alloc o).alloc o') := fun o o' => ((Below.refl _ _).alloc (Nat.le_refl _) o).alloc (by simp) o'
  have hg0 : Gr F (fun k => F k ∨ k = w.heap.size ∨ k = w.heap.size + 1) w.heap.size := fun k hk => hk.imp id (by omega)
  have HP : Hid (∀ o o', Calls Try.prog 46 #[.agg #[.slice r.a1 r.n1 r.c1, .slice r.a2 r.n2 r.c2, .int .i64 m.lr, .int .i64 m.hr, .int .i64 m.wt, .int .i64 m.run, .int .i64 (m.ct 0), .int .i64 (m.ct 1), .int .i64 (m.ct 2), .int .i64 (m.ct 3), .int .i64 (m.ct 4)]] ((w.alloc o).alloc o') fun e w' => ∃ q' : Pv, e = .returned (.tuple #[.agg #[.int .i64 q'.h.kd, .int .i64 q'.h.fl, .int .i64 q'.h.pa, .int .i64 q'.h.sr, .int .i64 q'.h.ds, .int .i64 q'.h.cn, .int .i64 q'.h.sq, .int .i64 q'.h.pu, .slice q'.A q'.n q'.c], .bool true]) ∧ q'.pk = x ∧ PvR (fun k => F k ∨ k = w.heap.size ∨ k = w.heap.size + 1) w' q' ∧ Below ((w.alloc o).alloc o').heap.size ((w.alloc o).alloc o') w') := Lib.hid fun o o' => by
    have := r_peek ((h.st (St.refl F w) hg0).below (hb0 o o')) (fun k hk => by simp; rcases hk with hk | hk; (have := hF k hk; omega); omega)
    rw [hi, hx] at this
    exact this
  have HR := Lib.hid (h.st (St.refl F w) hg0)
  have HF := Lib.hid hF
  have HI := Lib.hid hi
  have hcut : ∀ W, (Instr.slice 34 (.slice r.a2 r.n2 r.c2) (some (.int .i64 1)) none none).run Try.prog W = .ok (.slice (cutR r.a2 r.c2 1 9) (r.n2 - 1) (r.c2 - 1)) W := fun W => eltP.run_cut r.a2 r.n2 r.c2 1 hn1 (by obtain ⟨qs, z1, z2, z3, z4, z5⟩ := h.hi; exact z2.2.1) W
  have HCUT := Lib.hid hcut
  have HNM := Lib.hid hnm
  have HN1 := Lib.hid hn1
  clear h hF hl hh hct hru hi hx hlm hb0 hg0 hnr hnm hn1 hcut hlp
  generalize hcutX : cutR r.a2 r.c2 1 9 = cX at *
  have HCX := Lib.hid hcutX
  clear hcutX
  have hcut := HCUT.out
  go_enter Try.func33, Try.ntmps33
  go_wp2_with fail
  refine (HP.out _ _).mono ?_
  rintro e w1 ⟨q, rfl, hk1, hq1, hb1⟩
  obtain ⟨h2, h4, hc⟩ := new2 hb1
  have HK := Lib.hid hk1
  have hba := (Below.refl w1.heap.size w1).alloc (Nat.le_refl _) (.cells (List.toArray [.int .i64 q.h.kd, .int .i64 q.h.fl, .int .i64 q.h.pa, .int .i64 q.h.sr, .int .i64 q.h.ds, .int .i64 q.h.cn, .int .i64 q.h.sq, .int .i64 q.h.pu, .slice q.A q.n q.c]) 65)
  have hgy : Gr (fun k => F k ∨ k = w.heap.size ∨ k = w.heap.size + 1) (By F w w1.heap.size) w1.heap.size := fun k hk => by
    rcases hk with hk | hk | hk | hk
    · exact .inl (.inl hk)
    · exact .inl (.inr (.inl hk))
    · exact .inl (.inr (.inr hk))
    · exact .inr (by omega)
  have HS0 : Hid (RT F w w1.heap.size (w1.alloc (.cells (List.toArray [.int .i64 q.h.kd, .int .i64 q.h.fl, .int .i64 q.h.pa, .int .i64 q.h.sr, .int .i64 q.h.ds, .int .i64 q.h.cn, .int .i64 q.h.sq, .int .i64 q.h.pu, .slice q.A q.n q.c]) 65)) r m q) := Lib.hid ⟨h2.below hba, h4.below hba, Bk.new w1 65 [.int .i64 q.h.kd, .int .i64 q.h.fl, .int .i64 q.h.pa, .int .i64 q.h.sr, .int .i64 q.h.ds, .int .i64 q.h.cn, .int .i64 q.h.sq, .int .i64 q.h.pu, .slice q.A q.n q.c], h4.lt, hc.alloc hc.size _, ((HR.out.below hc).st (St.refl _ _) hgy).below hba, (hq1.gr hgy).below hba⟩
  have h2a := HS0.out.b2
  clear hk1 hq1 hb1 h2 h4 hc hba hgy HP HR
  go_wp2_with (with_reducible refine at_load 76 (.tmp 2) (by rfl) ?_; refine wpList_load_rp rowR rfl (.tmp 2) rfl r m w.heap.size rfl h2a ?_)
  refine (r_high HS0.out.rp).mono ?_
  rintro e w2 ⟨rfl, hb2⟩
  rw [HI.out]
  have HS1 := Lib.hid (HS0.out.below hb2)
  have HSa := Lib.hid (HS1.out.cell 5 (.int .i64 (0)) (r' := r) (m' := { m with run := 0 }) rfl ⟨HS1.out.rp.lo, HS1.out.rp.hi⟩)
  have HSb := Lib.hid (HSa.out.cell 1 (.slice (cX) (r.n2 - 1) (r.c2 - 1)) (r' := ⟨r.a1, r.n1, r.c1, cX, r.n2 - 1, r.c2 - 1⟩) (m' := (({ m with run := 0 } : AM).put true m.high.tail)) rfl (by have := HSa.out.rp.cutHigh HN1.out; rw [HCX.out] at this; exact this))
  have a0 := HS1.out.b2.cell 0 rfl
  have a1 := HS1.out.b2.cell 1 rfl
  have a5 := HS1.out.b2.cell 5 rfl
  have a6 := HS1.out.b2.cell 6 rfl
  have f0 := HS1.out.b2.free 0
  have f1 := HS1.out.b2.free 1
  have f5 := HS1.out.b2.free 5
  have f6 := HS1.out.b2.free 6
  have h7 := HSb.out.b7
  clear hb2 h2a HS0
  have HSe := Lib.hid (HSb.out.cell 6 (.int .i64 (m.ct 0 + 1)) (r' := ⟨r.a1, r.n1, r.c1, cX, r.n2 - 1, r.c2 - 1⟩) (m' := { (({ m with run := 0 } : AM).put true m.high.tail) with ct := up m.ct 0 (m.ct 0 + 1) }) rfl ⟨HSb.out.rp.lo, HSb.out.rp.hi⟩)
  go_wp2_with fail
  refine wp_region_E (St (· = w.heap.size + 1)) (by kernel_rfl) (fun wd hbd hsz => ?_)
  have HSE := Lib.hid (HSe.out.below hbd)
  have HSE4 := Lib.hid HSE.out.b4
  have bt0' : ¬ (w.heap.size = w.heap.size + 1) := by omega
  have bt7 : ¬ (w1.heap.size = w.heap.size + 1) := by have := HSE.out.hg; omega
  clear hsz
  (refine takeE (St.tr (· = w.heap.size + 1)) 0 (by simp only [List.getElem?_toArray, List.getElem?_cons_succ, List.getElem?_cons_zero]; rfl) (by kernel_rfl) (by kernel_rfl) (by kernel_rfl) (by exact fun _ _ _ h => h) (by first | (refine Or.inl ⟨by rfl, ?_⟩; intro W hW; exact exec_load_bk rowR (.tmp 2) rfl w.heap.size 0 rfl (HSE.out.b2.st hW bt0') (RV.cl ⟨r.a1, r.n1, r.c1, cX, r.n2 - 1, r.c2 - 1⟩ { (({ m with run := 0 } : AM).put true m.high.tail) with ct := up m.ct 0 (m.ct 0 + 1) }) rfl rfl) | exact Or.inr ⟨by rfl, rfl⟩) ?_; try simp only [Act.put, List.setIfInBounds_toArray, List.set_cons_zero, List.set_cons_succ])
  (refine takeE (St.tr (· = w.heap.size + 1)) 1 (by simp only [List.getElem?_toArray, List.getElem?_cons_succ, List.getElem?_cons_zero]; rfl) (by kernel_rfl) (by kernel_rfl) (by kernel_rfl) (by exact fun _ _ _ h => h) (by first | (refine Or.inl ⟨by rfl, ?_⟩; intro W hW; exact exec_loadRow rowP (.tmp 7) rfl w1.heap.size 0 rfl q (Bk.pk (HSE.out.b7.st hW bt7))) | exact Or.inr ⟨by rfl, rfl⟩) ?_; try simp only [Act.put, List.setIfInBounds_toArray, List.set_cons_zero, List.set_cons_succ])
  refine wpAnyE_two (i := 2) (j := 3) (by kernel_rfl) (by simp only [List.getElem?_toArray, List.getElem?_cons_succ, List.getElem?_cons_zero]; rfl) (by simp only [List.getElem?_toArray, List.getElem?_cons_succ, List.getElem?_cons_zero]; rfl) (fun K hK => ?_) (fun K hK => ?_)
  ·
    go_simp
    have hrd0 := RdR.one wd 65 q.cl q.cl_one
    have HB7 := Lib.hid ((Below.refl wd.heap.size wd).alloc (Nat.le_refl _) (.cells (List.toArray [.int .i64 q.h.kd, .int .i64 q.h.fl, .int .i64 q.h.pa, .int .i64 q.h.sr, .int .i64 q.h.ds, .int .i64 q.h.cn, .int .i64 q.h.sq, .int .i64 q.h.pu, .slice q.A q.n q.c]) 65))
    have HE4 := Lib.hid (HSE.out.b4.below HB7.out)
    refine hK.out _ _ (St.ext HB7.out) ?_
    clear hK K
    try simp only [Act.put, List.setIfInBounds_toArray, List.set_cons_zero, List.set_cons_succ]
    refine wpAnyE_one (i := 3) (by kernel_rfl) (by simp only [List.getElem?_toArray, List.getElem?_cons_succ, List.getElem?_cons_zero]; rfl) (fun K hK => ?_)
    refine opwp_store_bk rowR rfl (.tmp 4) (.tmp 76) rfl (w.heap.size + 1) 0 rfl HE4.out (RV.cl ⟨r.a1, r.n1, r.c1, cX, r.n2 - 1, r.c2 - 1⟩ { (({ m with run := 0 } : AM).put true m.high.tail) with ct := up m.ct 0 (m.ct 0 + 1) }) rfl rfl (by decide) (RV.cl_one _ _) ?_
    intro w5 h45 hw5
    rw [lay_all _ _ (by rfl)] at h45
    have H45 := Lib.hid h45
    have HZ5 : Hid (St (· = w.heap.size + 1) (wd.alloc (.cells (List.toArray [.int .i64 q.h.kd, .int .i64 q.h.fl, .int .i64 q.h.pa, .int .i64 q.h.sr, .int .i64 q.h.ds, .int .i64 q.h.cn, .int .i64 q.h.sq, .int .i64 q.h.pu, .slice q.A q.n q.c]) 65)) w5) := Lib.hid ⟨hw5.os, hw5.tape, hw5.output, hw5.size, fun k hk hn => hw5.block k hk (by intro e; injection e with e; exact hn e)⟩
    have HFW := Lib.hid ((St.ext HB7.out).trans HZ5.out (Gr.refl _ _))
    have HRD := Lib.hid (hrd0.st HZ5.out (fun _ ad he => by injection he with he; subst he; have := HSE.out.b4.lt; show ¬ (wd.heap.size = w.heap.size + 1); omega))
    have HGB := Lib.hid (Nat.le_refl wd.heap.size)
    refine hK.out _ _ HZ5.out ?_
    clear hK K
    try simp only [Act.put, List.setIfInBounds_toArray, List.set_cons_zero, List.set_cons_succ]
    (refine takeE (St.tr (· = w.heap.size + 1)) 4 (by simp only [List.getElem?_toArray, List.getElem?_cons_succ, List.getElem?_cons_zero]; rfl) (by kernel_rfl) (by kernel_rfl) (by kernel_rfl) (by exact fun _ _ _ h => h) (by first | (refine Or.inl ⟨by rfl, ?_⟩; intro W hW; go_simp; try with_reducible rfl) | exact Or.inr ⟨by rfl, rfl⟩) ?_; try simp only [Act.put, List.setIfInBounds_toArray, List.set_cons_zero, List.set_cons_succ])
    (refine takeE (St.tr (· = w.heap.size + 1)) 5 (by simp only [List.getElem?_toArray, List.getElem?_cons_succ, List.getElem?_cons_zero]; rfl) (by kernel_rfl) (by kernel_rfl) (by kernel_rfl) (by exact fun _ _ _ h => h) (by first | (refine Or.inl ⟨by rfl, ?_⟩; intro W hW; go_simp; try with_reducible rfl) | exact Or.inr ⟨by rfl, rfl⟩) ?_; try simp only [Act.put, List.setIfInBounds_toArray, List.set_cons_zero, List.set_cons_succ])
    refine wpAnyE_done (by kernel_rfl) ?_ _
    go_wp2
    have HSF := HFW.out.mono (F' := By F w w1.heap.size) fun k _ hk => .inr (.inr (.inl hk))
    have hrp := HSE.out.rp.st HSF (Gr.refl _ _)
    have hpv := HSE.out.pv.st HSF (Gr.refl _ _)
    have HFIN : Hid (m.srv 1 true x l = { (({ m with run := 0 } : AM).put true m.high.tail) with ct := up m.ct 0 (m.ct 0 + 1) }) := Lib.hid (by have e : m.srv 1 true x l = { m.took true l with ct := up m.ct 0 (m.ct 0 + 1) } := (by simp [AM.srv]); rw [e, HM.out])
    refine bodyPost_ret (results_ctt rfl rfl (rowR.load H45.out 0 (cs := RV.cl ⟨r.a1, r.n1, r.c1, cX, r.n2 - 1, r.c2 - 1⟩ { (({ m with run := 0 } : AM).put true m.high.tail) with ct := up m.ct 0 (m.ct 0 + 1) }) rfl rfl)) rfl ?_
    rw [HFIN.out]
    first
      | (refine ⟨⟨r.a1, r.n1, r.c1, cX, r.n2 - 1, r.c2 - 1⟩, some ⟨wd.heap.size, 0, none⟩, 1, 1, by kernel_rfl, (show RpR F _ _ _ from ⟨hrp.lo.mono fun k hk => .inl hk, hrp.hi.mono fun k hk => .inl hk⟩), ⟨[q], rfl, by rw [flat_one]; exact HRD.out, by show [q.pk] = _; rw [HK.out], fun y hy => by rw [List.mem_singleton.1 hy]; exact hpv.mono fun k hk => .inl hk, fun _ ad he hf => by injection he with he; subst he; have h1 := HF.out _ hf; have h2 := HSE.out.bl.size; have h3 := HGB.out; dsimp only at h1; omega⟩, HSE.out.bl.trans (HFW.out.below HSE.out.bl.size (fun k hk => by omega))⟩)
      | (refine ⟨⟨r.a1, r.n1, r.c1, cX, r.n2 - 1, r.c2 - 1⟩, some ⟨w5.heap.size, 0, none⟩, 1, 1, by kernel_rfl, (show RpR F _ _ _ from ⟨hrp.lo.mono fun k hk => .inl hk, hrp.hi.mono fun k hk => .inl hk⟩), ⟨[q], rfl, by rw [flat_one]; exact HRD.out, by show [q.pk] = _; rw [HK.out], fun y hy => by rw [List.mem_singleton.1 hy]; exact hpv.mono fun k hk => .inl hk, fun _ ad he hf => by injection he with he; subst he; have h1 := HF.out _ hf; have h2 := HSE.out.bl.size; have h3 := HGB.out; dsimp only at h1; omega⟩, HSE.out.bl.trans (HFW.out.below HSE.out.bl.size (fun k hk => by omega))⟩)
  ·
    refine opwp_store_bk rowR rfl (.tmp 4) (.tmp 76) rfl (w.heap.size + 1) 0 rfl HSE4.out (RV.cl ⟨r.a1, r.n1, r.c1, cX, r.n2 - 1, r.c2 - 1⟩ { (({ m with run := 0 } : AM).put true m.high.tail) with ct := up m.ct 0 (m.ct 0 + 1) }) rfl rfl (by decide) (RV.cl_one _ _) ?_
    intro w5 h45 hw5
    rw [lay_all _ _ (by rfl)] at h45
    have H45a := Lib.hid h45
    have HZ5 : Hid (St (· = w.heap.size + 1) wd w5) := Lib.hid ⟨hw5.os, hw5.tape, hw5.output, hw5.size, fun k hk hn => hw5.block k hk (by intro e; injection e with e; exact hn e)⟩
    refine hK.out _ _ HZ5.out ?_
    clear hK K
    try simp only [Act.put, List.setIfInBounds_toArray, List.set_cons_zero, List.set_cons_succ]
    refine wpAnyE_one (i := 2) (by kernel_rfl) (by simp only [List.getElem?_toArray, List.getElem?_cons_succ, List.getElem?_cons_zero]; rfl) (fun K hK => ?_)
    go_simp
    have HRD := Lib.hid (RdR.one w5 65 q.cl q.cl_one)
    have HB7 := Lib.hid ((Below.refl w5.heap.size w5).alloc (Nat.le_refl _) (.cells (List.toArray [.int .i64 q.h.kd, .int .i64 q.h.fl, .int .i64 q.h.pa, .int .i64 q.h.sr, .int .i64 q.h.ds, .int .i64 q.h.cn, .int .i64 q.h.sq, .int .i64 q.h.pu, .slice q.A q.n q.c]) 65))
    have H45 := Lib.hid (H45a.out.below HB7.out)
    have HFW := Lib.hid (HZ5.out.trans (St.ext HB7.out) (Gr.refl _ _))
    have HGB := Lib.hid HZ5.out.size
    refine hK.out _ _ (St.ext HB7.out) ?_
    clear hK K
    try simp only [Act.put, List.setIfInBounds_toArray, List.set_cons_zero, List.set_cons_succ]
    (refine takeE (St.tr (· = w.heap.size + 1)) 4 (by simp only [List.getElem?_toArray, List.getElem?_cons_succ, List.getElem?_cons_zero]; rfl) (by kernel_rfl) (by kernel_rfl) (by kernel_rfl) (by exact fun _ _ _ h => h) (by first | (refine Or.inl ⟨by rfl, ?_⟩; intro W hW; go_simp; try with_reducible rfl) | exact Or.inr ⟨by rfl, rfl⟩) ?_; try simp only [Act.put, List.setIfInBounds_toArray, List.set_cons_zero, List.set_cons_succ])
    (refine takeE (St.tr (· = w.heap.size + 1)) 5 (by simp only [List.getElem?_toArray, List.getElem?_cons_succ, List.getElem?_cons_zero]; rfl) (by kernel_rfl) (by kernel_rfl) (by kernel_rfl) (by exact fun _ _ _ h => h) (by first | (refine Or.inl ⟨by rfl, ?_⟩; intro W hW; go_simp; try with_reducible rfl) | exact Or.inr ⟨by rfl, rfl⟩) ?_; try simp only [Act.put, List.setIfInBounds_toArray, List.set_cons_zero, List.set_cons_succ])
    refine wpAnyE_done (by kernel_rfl) ?_ _
    go_wp2
    have HSF := HFW.out.mono (F' := By F w w1.heap.size) fun k _ hk => .inr (.inr (.inl hk))
    have hrp := HSE.out.rp.st HSF (Gr.refl _ _)
    have hpv := HSE.out.pv.st HSF (Gr.refl _ _)
    have HFIN : Hid (m.srv 1 true x l = { (({ m with run := 0 } : AM).put true m.high.tail) with ct := up m.ct 0 (m.ct 0 + 1) }) := Lib.hid (by have e : m.srv 1 true x l = { m.took true l with ct := up m.ct 0 (m.ct 0 + 1) } := (by simp [AM.srv]); rw [e, HM.out])
    refine bodyPost_ret (results_ctt rfl rfl (rowR.load H45.out 0 (cs := RV.cl ⟨r.a1, r.n1, r.c1, cX, r.n2 - 1, r.c2 - 1⟩ { (({ m with run := 0 } : AM).put true m.high.tail) with ct := up m.ct 0 (m.ct 0 + 1) }) rfl rfl)) rfl ?_
    rw [HFIN.out]
    first
      | (refine ⟨⟨r.a1, r.n1, r.c1, cX, r.n2 - 1, r.c2 - 1⟩, some ⟨wd.heap.size, 0, none⟩, 1, 1, by kernel_rfl, (show RpR F _ _ _ from ⟨hrp.lo.mono fun k hk => .inl hk, hrp.hi.mono fun k hk => .inl hk⟩), ⟨[q], rfl, by rw [flat_one]; exact HRD.out, by show [q.pk] = _; rw [HK.out], fun y hy => by rw [List.mem_singleton.1 hy]; exact hpv.mono fun k hk => .inl hk, fun _ ad he hf => by injection he with he; subst he; have h1 := HF.out _ hf; have h2 := HSE.out.bl.size; have h3 := HGB.out; dsimp only at h1; omega⟩, HSE.out.bl.trans (HFW.out.below HSE.out.bl.size (fun k hk => by omega))⟩)
      | (refine ⟨⟨r.a1, r.n1, r.c1, cX, r.n2 - 1, r.c2 - 1⟩, some ⟨w5.heap.size, 0, none⟩, 1, 1, by kernel_rfl, (show RpR F _ _ _ from ⟨hrp.lo.mono fun k hk => .inl hk, hrp.hi.mono fun k hk => .inl hk⟩), ⟨[q], rfl, by rw [flat_one]; exact HRD.out, by show [q.pk] = _; rw [HK.out], fun y hy => by rw [List.mem_singleton.1 hy]; exact hpv.mono fun k hk => .inl hk, fun _ ad he hf => by injection he with he; subst he; have h1 := HF.out _ hf; have h2 := HSE.out.bl.size; have h3 := HGB.out; dsimp only at h1; omega⟩, HSE.out.bl.trans (HFW.out.below HSE.out.bl.size (fun k hk => by omega))⟩)
set_option maxHeartbeats 4000000 in
set_option maxRecDepth 100000 in
theorem r_serve_l1 (h : RpR F w r m) (hF : ∀ k, F k → k < w.heap.size) (hl : m.low.length ≤ 1024) (hh : m.high.length ≤ 1024) (hct : ∀ k, -1 ≤ m.ct k ∧ m.ct k ≤ 1000000) (hru : m.run ≤ 1024) (hi : m.hiB = false)  (x : Pk) (l : List Pk) (hx : m.sel m.hiB = x :: l) :
    Calls Try.prog 33 #[.agg #[.slice r.a1 r.n1 r.c1, .slice r.a2 r.n2 r.c2, .int .i64 m.lr, .int .i64 m.hr, .int .i64 m.wt, .int .i64 m.run, .int .i64 (m.ct 0), .int .i64 (m.ct 1), .int .i64 (m.ct 2), .int .i64 (m.ct 3), .int .i64 (m.ct 4)], .int .i64 1] w (RServeTo F w (m.srv 1 false x l) [x] 0) := by
  rw [hi] at hx
  have hlm : m.low = x :: l := hx
  have hn1 : 1 ≤ r.n1 := by rw [← h.lo.len, hlm]; simp
  have hnm : r.n1 ≤ 2000 := by rw [← h.lo.len]; exact Nat.le_trans hl (by decide)
  have hnr : m.nrun false = 0 := by simp [AM.nrun]
  have HM : Hid (m.took false l = (({ m with run := 0 } : AM).put false m.low.tail)) := Lib.hid (by unfold AM.took; rw [hnr]; show _ = ({ m with run := 0 } : AM).put false m.low.tail; rw [hlm]; rfl)
  have HTL : Hid (({ m with run := 0 } : AM).put false m.low.tail = (({ m with run := 0 } : AM).put false m.low.tail) ∧ m.low.tail = l) := Lib.hid ⟨rfl, by rw [hlm]; rfl⟩
  have hwr : IntKind.i64.wrap ((m.run : Int) + 1) = (m.run : Int) + 1 := by rw [IntKind.wrap_i64]; omega
  have hwc : IntKind.i64.wrap (m.ct 0 + 1) = m.ct 0 + 1 := by have := hct 0; rw [IntKind.wrap_i64]; omega
  have hb0 : ∀ o o', Below w.heap.size w ((w.alloc o).alloc o') := fun o o' => ((Below.refl _ _).alloc (Nat.le_refl _) o).alloc (by simp) o'
  have hg0 : Gr F (fun k => F k ∨ k = w.heap.size ∨ k = w.heap.size + 1) w.heap.size := fun k hk => hk.imp id (by omega)
  have HP : Hid (∀ o o', Calls Try.prog 46 #[.agg #[.slice r.a1 r.n1 r.c1, .slice r.a2 r.n2 r.c2, .int .i64 m.lr, .int .i64 m.hr, .int .i64 m.wt, .int .i64 m.run, .int .i64 (m.ct 0), .int .i64 (m.ct 1), .int .i64 (m.ct 2), .int .i64 (m.ct 3), .int .i64 (m.ct 4)]] ((w.alloc o).alloc o') fun e w' => ∃ q' : Pv, e = .returned (.tuple #[.agg #[.int .i64 q'.h.kd, .int .i64 q'.h.fl, .int .i64 q'.h.pa, .int .i64 q'.h.sr, .int .i64 q'.h.ds, .int .i64 q'.h.cn, .int .i64 q'.h.sq, .int .i64 q'.h.pu, .slice q'.A q'.n q'.c], .bool true]) ∧ q'.pk = x ∧ PvR (fun k => F k ∨ k = w.heap.size ∨ k = w.heap.size + 1) w' q' ∧ Below ((w.alloc o).alloc o').heap.size ((w.alloc o).alloc o') w') := Lib.hid fun o o' => by
    have := r_peek ((h.st (St.refl F w) hg0).below (hb0 o o')) (fun k hk => by simp; rcases hk with hk | hk; (have := hF k hk; omega); omega)
    rw [hi, hx] at this
    exact this
  have HR := Lib.hid (h.st (St.refl F w) hg0)
  have HF := Lib.hid hF
  have HI := Lib.hid hi
  have hcut : ∀ W, (Instr.slice 34 (.slice r.a1 r.n1 r.c1) (some (.int .i64 1)) none none).run Try.prog W = .ok (.slice (cutR r.a1 r.c1 1 9) (r.n1 - 1) (r.c1 - 1)) W := fun W => eltP.run_cut r.a1 r.n1 r.c1 1 hn1 (by obtain ⟨qs, z1, z2, z3, z4, z5⟩ := h.lo; exact z2.2.1) W
  have HCUT := Lib.hid hcut
  have HNM := Lib.hid hnm
  have HN1 := Lib.hid hn1
  clear h hF hl hh hct hru hi hx hlm hb0 hg0 hnr hnm hn1 hcut
  generalize hcutX : cutR r.a1 r.c1 1 9 = cX at *
  have HCX := Lib.hid hcutX
  clear hcutX
  have hcut := HCUT.out
  go_enter Try.func33, Try.ntmps33
  go_wp2_with fail
  refine (HP.out _ _).mono ?_
  rintro e w1 ⟨q, rfl, hk1, hq1, hb1⟩
  obtain ⟨h2, h4, hc⟩ := new2 hb1
  have HK := Lib.hid hk1
  have hba := (Below.refl w1.heap.size w1).alloc (Nat.le_refl _) (.cells (List.toArray [.int .i64 q.h.kd, .int .i64 q.h.fl, .int .i64 q.h.pa, .int .i64 q.h.sr, .int .i64 q.h.ds, .int .i64 q.h.cn, .int .i64 q.h.sq, .int .i64 q.h.pu, .slice q.A q.n q.c]) 65)
  have hgy : Gr (fun k => F k ∨ k = w.heap.size ∨ k = w.heap.size + 1) (By F w w1.heap.size) w1.heap.size := fun k hk => by
    rcases hk with hk | hk | hk | hk
    · exact .inl (.inl hk)
    · exact .inl (.inr (.inl hk))
    · exact .inl (.inr (.inr hk))
    · exact .inr (by omega)
  have HS0 : Hid (RT F w w1.heap.size (w1.alloc (.cells (List.toArray [.int .i64 q.h.kd, .int .i64 q.h.fl, .int .i64 q.h.pa, .int .i64 q.h.sr, .int .i64 q.h.ds, .int .i64 q.h.cn, .int .i64 q.h.sq, .int .i64 q.h.pu, .slice q.A q.n q.c]) 65)) r m q) := Lib.hid ⟨h2.below hba, h4.below hba, Bk.new w1 65 [.int .i64 q.h.kd, .int .i64 q.h.fl, .int .i64 q.h.pa, .int .i64 q.h.sr, .int .i64 q.h.ds, .int .i64 q.h.cn, .int .i64 q.h.sq, .int .i64 q.h.pu, .slice q.A q.n q.c], h4.lt, hc.alloc hc.size _, ((HR.out.below hc).st (St.refl _ _) hgy).below hba, (hq1.gr hgy).below hba⟩
  have h2a := HS0.out.b2
  clear hk1 hq1 hb1 h2 h4 hc hba hgy HP HR
  go_wp2_with (with_reducible refine at_load 76 (.tmp 2) (by rfl) ?_; refine wpList_load_rp rowR rfl (.tmp 2) rfl r m w.heap.size rfl h2a ?_)
  refine (r_high HS0.out.rp).mono ?_
  rintro e w2 ⟨rfl, hb2⟩
  rw [HI.out]
  have HS1 := Lib.hid (HS0.out.below hb2)
  have HSa := Lib.hid (HS1.out.cell 5 (.int .i64 (0)) (r' := r) (m' := { m with run := 0 }) rfl ⟨HS1.out.rp.lo, HS1.out.rp.hi⟩)
  have HSb := Lib.hid (HSa.out.cell 0 (.slice (cX) (r.n1 - 1) (r.c1 - 1)) (r' := ⟨cX, r.n1 - 1, r.c1 - 1, r.a2, r.n2, r.c2⟩) (m' := (({ m with run := 0 } : AM).put false m.low.tail)) rfl (by have := HSa.out.rp.cutLow HN1.out; rw [HCX.out] at this; exact this))
  have a0 := HS1.out.b2.cell 0 rfl
  have a1 := HS1.out.b2.cell 1 rfl
  have a5 := HS1.out.b2.cell 5 rfl
  have a6 := HS1.out.b2.cell 6 rfl
  have f0 := HS1.out.b2.free 0
  have f1 := HS1.out.b2.free 1
  have f5 := HS1.out.b2.free 5
  have f6 := HS1.out.b2.free 6
  have h7 := HSb.out.b7
  clear hb2 h2a HS0
  have HSe := Lib.hid (HSb.out.cell 6 (.int .i64 (m.ct 0 + 1)) (r' := ⟨cX, r.n1 - 1, r.c1 - 1, r.a2, r.n2, r.c2⟩) (m' := { (({ m with run := 0 } : AM).put false m.low.tail) with ct := up m.ct 0 (m.ct 0 + 1) }) rfl ⟨HSb.out.rp.lo, HSb.out.rp.hi⟩)
  go_wp2_with fail
  refine wp_region_E (St (· = w.heap.size + 1)) (by kernel_rfl) (fun wd hbd hsz => ?_)
  have HSE := Lib.hid (HSe.out.below hbd)
  have HSE4 := Lib.hid HSE.out.b4
  have bt0' : ¬ (w.heap.size = w.heap.size + 1) := by omega
  have bt7 : ¬ (w1.heap.size = w.heap.size + 1) := by have := HSE.out.hg; omega
  clear hsz
  (refine takeE (St.tr (· = w.heap.size + 1)) 0 (by simp only [List.getElem?_toArray, List.getElem?_cons_succ, List.getElem?_cons_zero]; rfl) (by kernel_rfl) (by kernel_rfl) (by kernel_rfl) (by exact fun _ _ _ h => h) (by first | (refine Or.inl ⟨by rfl, ?_⟩; intro W hW; exact exec_load_bk rowR (.tmp 2) rfl w.heap.size 0 rfl (HSE.out.b2.st hW bt0') (RV.cl ⟨cX, r.n1 - 1, r.c1 - 1, r.a2, r.n2, r.c2⟩ { (({ m with run := 0 } : AM).put false m.low.tail) with ct := up m.ct 0 (m.ct 0 + 1) }) rfl rfl) | exact Or.inr ⟨by rfl, rfl⟩) ?_; try simp only [Act.put, List.setIfInBounds_toArray, List.set_cons_zero, List.set_cons_succ])
  (refine takeE (St.tr (· = w.heap.size + 1)) 1 (by simp only [List.getElem?_toArray, List.getElem?_cons_succ, List.getElem?_cons_zero]; rfl) (by kernel_rfl) (by kernel_rfl) (by kernel_rfl) (by exact fun _ _ _ h => h) (by first | (refine Or.inl ⟨by rfl, ?_⟩; intro W hW; exact exec_loadRow rowP (.tmp 7) rfl w1.heap.size 0 rfl q (Bk.pk (HSE.out.b7.st hW bt7))) | exact Or.inr ⟨by rfl, rfl⟩) ?_; try simp only [Act.put, List.setIfInBounds_toArray, List.set_cons_zero, List.set_cons_succ])
  refine wpAnyE_two (i := 2) (j := 3) (by kernel_rfl) (by simp only [List.getElem?_toArray, List.getElem?_cons_succ, List.getElem?_cons_zero]; rfl) (by simp only [List.getElem?_toArray, List.getElem?_cons_succ, List.getElem?_cons_zero]; rfl) (fun K hK => ?_) (fun K hK => ?_)
  ·
    go_simp
    have hrd0 := RdR.one wd 65 q.cl q.cl_one
    have HB7 := Lib.hid ((Below.refl wd.heap.size wd).alloc (Nat.le_refl _) (.cells (List.toArray [.int .i64 q.h.kd, .int .i64 q.h.fl, .int .i64 q.h.pa, .int .i64 q.h.sr, .int .i64 q.h.ds, .int .i64 q.h.cn, .int .i64 q.h.sq, .int .i64 q.h.pu, .slice q.A q.n q.c]) 65))
    have HE4 := Lib.hid (HSE.out.b4.below HB7.out)
    refine hK.out _ _ (St.ext HB7.out) ?_
    clear hK K
    try simp only [Act.put, List.setIfInBounds_toArray, List.set_cons_zero, List.set_cons_succ]
    refine wpAnyE_one (i := 3) (by kernel_rfl) (by simp only [List.getElem?_toArray, List.getElem?_cons_succ, List.getElem?_cons_zero]; rfl) (fun K hK => ?_)
    refine opwp_store_bk rowR rfl (.tmp 4) (.tmp 76) rfl (w.heap.size + 1) 0 rfl HE4.out (RV.cl ⟨cX, r.n1 - 1, r.c1 - 1, r.a2, r.n2, r.c2⟩ { (({ m with run := 0 } : AM).put false m.low.tail) with ct := up m.ct 0 (m.ct 0 + 1) }) rfl rfl (by decide) (RV.cl_one _ _) ?_
    intro w5 h45 hw5
    rw [lay_all _ _ (by rfl)] at h45
    have H45 := Lib.hid h45
    have HZ5 : Hid (St (· = w.heap.size + 1) (wd.alloc (.cells (List.toArray [.int .i64 q.h.kd, .int .i64 q.h.fl, .int .i64 q.h.pa, .int .i64 q.h.sr, .int .i64 q.h.ds, .int .i64 q.h.cn, .int .i64 q.h.sq, .int .i64 q.h.pu, .slice q.A q.n q.c]) 65)) w5) := Lib.hid ⟨hw5.os, hw5.tape, hw5.output, hw5.size, fun k hk hn => hw5.block k hk (by intro e; injection e with e; exact hn e)⟩
    have HFW := Lib.hid ((St.ext HB7.out).trans HZ5.out (Gr.refl _ _))
    have HRD := Lib.hid (hrd0.st HZ5.out (fun _ ad he => by injection he with he; subst he; have := HSE.out.b4.lt; show ¬ (wd.heap.size = w.heap.size + 1); omega))
    have HGB := Lib.hid (Nat.le_refl wd.heap.size)
    refine hK.out _ _ HZ5.out ?_
    clear hK K
    try simp only [Act.put, List.setIfInBounds_toArray, List.set_cons_zero, List.set_cons_succ]
    (refine takeE (St.tr (· = w.heap.size + 1)) 4 (by simp only [List.getElem?_toArray, List.getElem?_cons_succ, List.getElem?_cons_zero]; rfl) (by kernel_rfl) (by kernel_rfl) (by kernel_rfl) (by exact fun _ _ _ h => h) (by first | (refine Or.inl ⟨by rfl, ?_⟩; intro W hW; go_simp; try with_reducible rfl) | exact Or.inr ⟨by rfl, rfl⟩) ?_; try simp only [Act.put, List.setIfInBounds_toArray, List.set_cons_zero, List.set_cons_succ])
    (refine takeE (St.tr (· = w.heap.size + 1)) 5 (by simp only [List.getElem?_toArray, List.getElem?_cons_succ, List.getElem?_cons_zero]; rfl) (by kernel_rfl) (by kernel_rfl) (by kernel_rfl) (by exact fun _ _ _ h => h) (by first | (refine Or.inl ⟨by rfl, ?_⟩; intro W hW; go_simp; try with_reducible rfl) | exact Or.inr ⟨by rfl, rfl⟩) ?_; try simp only [Act.put, List.setIfInBounds_toArray, List.set_cons_zero, List.set_cons_succ])
    refine wpAnyE_done (by kernel_rfl) ?_ _
    go_wp2
    have HSF := HFW.out.mono (F' := By F w w1.heap.size) fun k _ hk => .inr (.inr (.inl hk))
    have hrp := HSE.out.rp.st HSF (Gr.refl _ _)
    have hpv := HSE.out.pv.st HSF (Gr.refl _ _)
    have HFIN : Hid (m.srv 1 false x l = { (({ m with run := 0 } : AM).put false m.low.tail) with ct := up m.ct 0 (m.ct 0 + 1) }) := Lib.hid (by have e : m.srv 1 false x l = { m.took false l with ct := up m.ct 0 (m.ct 0 + 1) } := (by simp [AM.srv]); rw [e, HM.out])
    refine bodyPost_ret (results_ctt rfl rfl (rowR.load H45.out 0 (cs := RV.cl ⟨cX, r.n1 - 1, r.c1 - 1, r.a2, r.n2, r.c2⟩ { (({ m with run := 0 } : AM).put false m.low.tail) with ct := up m.ct 0 (m.ct 0 + 1) }) rfl rfl)) rfl ?_
    rw [HFIN.out]
    first
      | (refine ⟨⟨cX, r.n1 - 1, r.c1 - 1, r.a2, r.n2, r.c2⟩, some ⟨wd.heap.size, 0, none⟩, 1, 1, by kernel_rfl, (show RpR F _ _ _ from ⟨hrp.lo.mono fun k hk => .inl hk, hrp.hi.mono fun k hk => .inl hk⟩), ⟨[q], rfl, by rw [flat_one]; exact HRD.out, by show [q.pk] = _; rw [HK.out], fun y hy => by rw [List.mem_singleton.1 hy]; exact hpv.mono fun k hk => .inl hk, fun _ ad he hf => by injection he with he; subst he; have h1 := HF.out _ hf; have h2 := HSE.out.bl.size; have h3 := HGB.out; dsimp only at h1; omega⟩, HSE.out.bl.trans (HFW.out.below HSE.out.bl.size (fun k hk => by omega))⟩)
      | (refine ⟨⟨cX, r.n1 - 1, r.c1 - 1, r.a2, r.n2, r.c2⟩, some ⟨w5.heap.size, 0, none⟩, 1, 1, by kernel_rfl, (show RpR F _ _ _ from ⟨hrp.lo.mono fun k hk => .inl hk, hrp.hi.mono fun k hk => .inl hk⟩), ⟨[q], rfl, by rw [flat_one]; exact HRD.out, by show [q.pk] = _; rw [HK.out], fun y hy => by rw [List.mem_singleton.1 hy]; exact hpv.mono fun k hk => .inl hk, fun _ ad he hf => by injection he with he; subst he; have h1 := HF.out _ hf; have h2 := HSE.out.bl.size; have h3 := HGB.out; dsimp only at h1; omega⟩, HSE.out.bl.trans (HFW.out.below HSE.out.bl.size (fun k hk => by omega))⟩)
  ·
    refine opwp_store_bk rowR rfl (.tmp 4) (.tmp 76) rfl (w.heap.size + 1) 0 rfl HSE4.out (RV.cl ⟨cX, r.n1 - 1, r.c1 - 1, r.a2, r.n2, r.c2⟩ { (({ m with run := 0 } : AM).put false m.low.tail) with ct := up m.ct 0 (m.ct 0 + 1) }) rfl rfl (by decide) (RV.cl_one _ _) ?_
    intro w5 h45 hw5
    rw [lay_all _ _ (by rfl)] at h45
    have H45a := Lib.hid h45
    have HZ5 : Hid (St (· = w.heap.size + 1) wd w5) := Lib.hid ⟨hw5.os, hw5.tape, hw5.output, hw5.size, fun k hk hn => hw5.block k hk (by intro e; injection e with e; exact hn e)⟩
    refine hK.out _ _ HZ5.out ?_
    clear hK K
    try simp only [Act.put, List.setIfInBounds_toArray, List.set_cons_zero, List.set_cons_succ]
    refine wpAnyE_one (i := 2) (by kernel_rfl) (by simp only [List.getElem?_toArray, List.getElem?_cons_succ, List.getElem?_cons_zero]; rfl) (fun K hK => ?_)
    go_simp
    have HRD := Lib.hid (RdR.one w5 65 q.cl q.cl_one)
    have HB7 := Lib.hid ((Below.refl w5.heap.size w5).alloc (Nat.le_refl _) (.cells (List.toArray [.int .i64 q.h.kd, .int .i64 q.h.fl, .int .i64 q.h.pa, .int .i64 q.h.sr, .int .i64 q.h.ds, .int .i64 q.h.cn, .int .i64 q.h.sq, .int .i64 q.h.pu, .slice q.A q.n q.c]) 65))
    have H45 := Lib.hid (H45a.out.below HB7.out)
    have HFW := Lib.hid (HZ5.out.trans (St.ext HB7.out) (Gr.refl _ _))
    have HGB := Lib.hid HZ5.out.size
    refine hK.out _ _ (St.ext HB7.out) ?_
    clear hK K
    try simp only [Act.put, List.setIfInBounds_toArray, List.set_cons_zero, List.set_cons_succ]
    (refine takeE (St.tr (· = w.heap.size + 1)) 4 (by simp only [List.getElem?_toArray, List.getElem?_cons_succ, List.getElem?_cons_zero]; rfl) (by kernel_rfl) (by kernel_rfl) (by kernel_rfl) (by exact fun _ _ _ h => h) (by first | (refine Or.inl ⟨by rfl, ?_⟩; intro W hW; go_simp; try with_reducible rfl) | exact Or.inr ⟨by rfl, rfl⟩) ?_; try simp only [Act.put, List.setIfInBounds_toArray, List.set_cons_zero, List.set_cons_succ])
    (refine takeE (St.tr (· = w.heap.size + 1)) 5 (by simp only [List.getElem?_toArray, List.getElem?_cons_succ, List.getElem?_cons_zero]; rfl) (by kernel_rfl) (by kernel_rfl) (by kernel_rfl) (by exact fun _ _ _ h => h) (by first | (refine Or.inl ⟨by rfl, ?_⟩; intro W hW; go_simp; try with_reducible rfl) | exact Or.inr ⟨by rfl, rfl⟩) ?_; try simp only [Act.put, List.setIfInBounds_toArray, List.set_cons_zero, List.set_cons_succ])
    refine wpAnyE_done (by kernel_rfl) ?_ _
    go_wp2
    have HSF := HFW.out.mono (F' := By F w w1.heap.size) fun k _ hk => .inr (.inr (.inl hk))
    have hrp := HSE.out.rp.st HSF (Gr.refl _ _)
    have hpv := HSE.out.pv.st HSF (Gr.refl _ _)
    have HFIN : Hid (m.srv 1 false x l = { (({ m with run := 0 } : AM).put false m.low.tail) with ct := up m.ct 0 (m.ct 0 + 1) }) := Lib.hid (by have e : m.srv 1 false x l = { m.took false l with ct := up m.ct 0 (m.ct 0 + 1) } := (by simp [AM.srv]); rw [e, HM.out])
    refine bodyPost_ret (results_ctt rfl rfl (rowR.load H45.out 0 (cs := RV.cl ⟨cX, r.n1 - 1, r.c1 - 1, r.a2, r.n2, r.c2⟩ { (({ m with run := 0 } : AM).put false m.low.tail) with ct := up m.ct 0 (m.ct 0 + 1) }) rfl rfl)) rfl ?_
    rw [HFIN.out]
    first
      | (refine ⟨⟨cX, r.n1 - 1, r.c1 - 1, r.a2, r.n2, r.c2⟩, some ⟨wd.heap.size, 0, none⟩, 1, 1, by kernel_rfl, (show RpR F _ _ _ from ⟨hrp.lo.mono fun k hk => .inl hk, hrp.hi.mono fun k hk => .inl hk⟩), ⟨[q], rfl, by rw [flat_one]; exact HRD.out, by show [q.pk] = _; rw [HK.out], fun y hy => by rw [List.mem_singleton.1 hy]; exact hpv.mono fun k hk => .inl hk, fun _ ad he hf => by injection he with he; subst he; have h1 := HF.out _ hf; have h2 := HSE.out.bl.size; have h3 := HGB.out; dsimp only at h1; omega⟩, HSE.out.bl.trans (HFW.out.below HSE.out.bl.size (fun k hk => by omega))⟩)
      | (refine ⟨⟨cX, r.n1 - 1, r.c1 - 1, r.a2, r.n2, r.c2⟩, some ⟨w5.heap.size, 0, none⟩, 1, 1, by kernel_rfl, (show RpR F _ _ _ from ⟨hrp.lo.mono fun k hk => .inl hk, hrp.hi.mono fun k hk => .inl hk⟩), ⟨[q], rfl, by rw [flat_one]; exact HRD.out, by show [q.pk] = _; rw [HK.out], fun y hy => by rw [List.mem_singleton.1 hy]; exact hpv.mono fun k hk => .inl hk, fun _ ad he hf => by injection he with he; subst he; have h1 := HF.out _ hf; have h2 := HSE.out.bl.size; have h3 := HGB.out; dsimp only at h1; omega⟩, HSE.out.bl.trans (HFW.out.below HSE.out.bl.size (fun k hk => by omega))⟩)
set_option maxHeartbeats 4000000 in
set_option maxRecDepth 100000 in
theorem r_serve_hp2 (h : RpR F w r m) (hF : ∀ k, F k → k < w.heap.size) (hl : m.low.length ≤ 1024) (hh : m.high.length ≤ 1024) (hct : ∀ k, -1 ≤ m.ct k ∧ m.ct k ≤ 1000000) (hru : m.run ≤ 1024) (hi : m.hiB = true) (hlp : 0 < m.low.length) (x : Pk) (l : List Pk) (hx : m.sel m.hiB = x :: l) :
    Calls Try.prog 33 #[.agg #[.slice r.a1 r.n1 r.c1, .slice r.a2 r.n2 r.c2, .int .i64 m.lr, .int .i64 m.hr, .int .i64 m.wt, .int .i64 m.run, .int .i64 (m.ct 0), .int .i64 (m.ct 1), .int .i64 (m.ct 2), .int .i64 (m.ct 3), .int .i64 (m.ct 4)], .int .i64 2] w (RServeTo F w (m.srv 2 true x l) [] 0) := by
  rw [hi] at hx
  have hlm : m.high = x :: l := hx
  have hn1 : 1 ≤ r.n2 := by rw [← h.hi.len, hlm]; simp
  have hnm : r.n2 ≤ 2000 := by rw [← h.hi.len]; exact Nat.le_trans hh (by decide)
  have hnr : m.nrun true = m.run + 1 := by simp [AM.nrun, hlp]
  have HM : Hid (m.took true l = (({ m with run := m.run + 1 } : AM).put true m.high.tail)) := Lib.hid (by unfold AM.took; rw [hnr]; show _ = ({ m with run := m.run + 1 } : AM).put true m.high.tail; rw [hlm]; rfl)
  have HTL : Hid (({ m with run := m.run + 1 } : AM).put true m.high.tail = (({ m with run := m.run + 1 } : AM).put true m.high.tail) ∧ m.high.tail = l) := Lib.hid ⟨rfl, by rw [hlm]; rfl⟩
  have hlw : (0 : Int) < r.n1 := by have := h.lo.len; omega
  have hwr : IntKind.i64.wrap ((m.run : Int) + 1) = (m.run : Int) + 1 := by rw [IntKind.wrap_i64]; omega
  have hwc : IntKind.i64.wrap (m.ct 0 + 1) = m.ct 0 + 1 := by have := hct 0; rw [IntKind.wrap_i64]; omega
  have hb0 : ∀ o o', Below w.heap.size w ((w.alloc o).alloc o') := fun o o' => ((Below.refl _ _).alloc (Nat.le_refl _) o).alloc (by simp) o'
  have hg0 : Gr F (fun k => F k ∨ k = w.heap.size ∨ k = w.heap.size + 1) w.heap.size := fun k hk => hk.imp id (by omega)
  have HP : Hid (∀ o o', Calls Try.prog 46 #[.agg #[.slice r.a1 r.n1 r.c1, .slice r.a2 r.n2 r.c2, .int .i64 m.lr, .int .i64 m.hr, .int .i64 m.wt, .int .i64 m.run, .int .i64 (m.ct 0), .int .i64 (m.ct 1), .int .i64 (m.ct 2), .int .i64 (m.ct 3), .int .i64 (m.ct 4)]] ((w.alloc o).alloc o') fun e w' => ∃ q' : Pv, e = .returned (.tuple #[.agg #[.int .i64 q'.h.kd, .int .i64 q'.h.fl, .int .i64 q'.h.pa, .int .i64 q'.h.sr, .int .i64 q'.h.ds, .int .i64 q'.h.cn, .int .i64 q'.h.sq, .int .i64 q'.h.pu, .slice q'.A q'.n q'.c], .bool true]) ∧ q'.pk = x ∧ PvR (fun k => F k ∨ k = w.heap.size ∨ k = w.heap.size + 1) w' q' ∧ Below ((w.alloc o).alloc o').heap.size ((w.alloc o).alloc o') w') := Lib.hid fun o o' => by
    have := r_peek ((h.st (St.refl F w) hg0).below (hb0 o o')) (fun k hk => by simp; rcases hk with hk | hk; (have := hF k hk; omega); omega)
    rw [hi, hx] at this
    exact this
  have HR := Lib.hid (h.st (St.refl F w) hg0)
  have HF := Lib.hid hF
  have HI := Lib.hid hi
  have hcut : ∀ W, (Instr.slice 34 (.slice r.a2 r.n2 r.c2) (some (.int .i64 1)) none none).run Try.prog W = .ok (.slice (cutR r.a2 r.c2 1 9) (r.n2 - 1) (r.c2 - 1)) W := fun W => eltP.run_cut r.a2 r.n2 r.c2 1 hn1 (by obtain ⟨qs, z1, z2, z3, z4, z5⟩ := h.hi; exact z2.2.1) W
  have HCUT := Lib.hid hcut
  have HNM := Lib.hid hnm
  have HN1 := Lib.hid hn1
  clear h hF hl hh hct hru hi hx hlm hb0 hg0 hnr hnm hn1 hcut hlp
  generalize hcutX : cutR r.a2 r.c2 1 9 = cX at *
  have HCX := Lib.hid hcutX
  clear hcutX
  have hcut := HCUT.out
  go_enter Try.func33, Try.ntmps33
  go_wp2_with fail
  refine (HP.out _ _).mono ?_
  rintro e w1 ⟨q, rfl, hk1, hq1, hb1⟩
  obtain ⟨h2, h4, hc⟩ := new2 hb1
  have HK := Lib.hid hk1
  have hba := (Below.refl w1.heap.size w1).alloc (Nat.le_refl _) (.cells (List.toArray [.int .i64 q.h.kd, .int .i64 q.h.fl, .int .i64 q.h.pa, .int .i64 q.h.sr, .int .i64 q.h.ds, .int .i64 q.h.cn, .int .i64 q.h.sq, .int .i64 q.h.pu, .slice q.A q.n q.c]) 65)
  have hgy : Gr (fun k => F k ∨ k = w.heap.size ∨ k = w.heap.size + 1) (By F w w1.heap.size) w1.heap.size := fun k hk => by
    rcases hk with hk | hk | hk | hk
    · exact .inl (.inl hk)
    · exact .inl (.inr (.inl hk))
    · exact .inl (.inr (.inr hk))
    · exact .inr (by omega)
  have HS0 : Hid (RT F w w1.heap.size (w1.alloc (.cells (List.toArray [.int .i64 q.h.kd, .int .i64 q.h.fl, .int .i64 q.h.pa, .int .i64 q.h.sr, .int .i64 q.h.ds, .int .i64 q.h.cn, .int .i64 q.h.sq, .int .i64 q.h.pu, .slice q.A q.n q.c]) 65)) r m q) := Lib.hid ⟨h2.below hba, h4.below hba, Bk.new w1 65 [.int .i64 q.h.kd, .int .i64 q.h.fl, .int .i64 q.h.pa, .int .i64 q.h.sr, .int .i64 q.h.ds, .int .i64 q.h.cn, .int .i64 q.h.sq, .int .i64 q.h.pu, .slice q.A q.n q.c], h4.lt, hc.alloc hc.size _, ((HR.out.below hc).st (St.refl _ _) hgy).below hba, (hq1.gr hgy).below hba⟩
  have h2a := HS0.out.b2
  clear hk1 hq1 hb1 h2 h4 hc hba hgy HP HR
  go_wp2_with (with_reducible refine at_load 76 (.tmp 2) (by rfl) ?_; refine wpList_load_rp rowR rfl (.tmp 2) rfl r m w.heap.size rfl h2a ?_)
  refine (r_high HS0.out.rp).mono ?_
  rintro e w2 ⟨rfl, hb2⟩
  rw [HI.out]
  have HS1 := Lib.hid (HS0.out.below hb2)
  have HSa := Lib.hid (HS1.out.cell 5 (.int .i64 ((m.run : Int) + 1)) (r' := r) (m' := { m with run := m.run + 1 }) rfl ⟨HS1.out.rp.lo, HS1.out.rp.hi⟩)
  have HSb := Lib.hid (HSa.out.cell 1 (.slice (cX) (r.n2 - 1) (r.c2 - 1)) (r' := ⟨r.a1, r.n1, r.c1, cX, r.n2 - 1, r.c2 - 1⟩) (m' := (({ m with run := m.run + 1 } : AM).put true m.high.tail)) rfl (by have := HSa.out.rp.cutHigh HN1.out; rw [HCX.out] at this; exact this))
  have a0 := HS1.out.b2.cell 0 rfl
  have a1 := HS1.out.b2.cell 1 rfl
  have a5 := HS1.out.b2.cell 5 rfl
  have a6 := HS1.out.b2.cell 6 rfl
  have f0 := HS1.out.b2.free 0
  have f1 := HS1.out.b2.free 1
  have f5 := HS1.out.b2.free 5
  have f6 := HS1.out.b2.free 6
  have h7 := HSb.out.b7
  clear hb2 h2a HS0
  have z2 := HSb.out.b2
  have z4 := HSb.out.b4
  go_wp2_with (first
    | (with_reducible refine at_load 76 (.tmp 2) (by rfl) ?_; refine wpList_load_rp rowR rfl (.tmp 2) rfl ⟨r.a1, r.n1, r.c1, cX, r.n2 - 1, r.c2 - 1⟩ (({ m with run := m.run + 1 } : AM).put true m.high.tail) w.heap.size rfl z2 ?_)
    | (with_reducible refine at_store 76 (.tmp 4) (.tmp 69) (by rfl) ?_; refine wpList_put_rp rowR rfl (.tmp 4) (.tmp 69) rfl (w.heap.size + 1) rfl z4 rfl ⟨r.a1, r.n1, r.c1, cX, r.n2 - 1, r.c2 - 1⟩ (({ m with run := m.run + 1 } : AM).put true m.high.tail) rfl ?_; rintro w5 h45 hw5))
  have HSF := wr_by (F := F) (w := w) (g := w1.heap.size) (.inr (.inl rfl)) hw5
  have hrp := HSb.out.rp.st HSF (Gr.refl _ _)
  have HFIN : Hid (m.srv 2 true x l = (({ m with run := m.run + 1 } : AM).put true m.high.tail)) := Lib.hid (by simp [AM.srv]; rw [HM.out])
  refine bodyPost_ret (results_ctt rfl rfl (rowR.load h45 0 (cs := RV.cl ⟨r.a1, r.n1, r.c1, cX, r.n2 - 1, r.c2 - 1⟩ (({ m with run := m.run + 1 } : AM).put true m.high.tail)) rfl rfl)) rfl ?_
  rw [HFIN.out]
  refine ⟨⟨r.a1, r.n1, r.c1, cX, r.n2 - 1, r.c2 - 1⟩, none, 0, 0, ?_, (show RpR F _ _ _ from ⟨hrp.lo.mono fun k hk => .inl hk, hrp.hi.mono fun k hk => .inl hk⟩), SlP.nil _ _, HSb.out.bl.trans (hw5.below (by omega) HSb.out.bl.size)⟩
  kernel_rfl
set_option maxHeartbeats 4000000 in
set_option maxRecDepth 100000 in
theorem r_serve_h2 (h : RpR F w r m) (hF : ∀ k, F k → k < w.heap.size) (hl : m.low.length ≤ 1024) (hh : m.high.length ≤ 1024) (hct : ∀ k, -1 ≤ m.ct k ∧ m.ct k ≤ 1000000) (hru : m.run ≤ 1024) (hi : m.hiB = true) (hlp : m.low.length = 0) (x : Pk) (l : List Pk) (hx : m.sel m.hiB = x :: l) :
    Calls Try.prog 33 #[.agg #[.slice r.a1 r.n1 r.c1, .slice r.a2 r.n2 r.c2, .int .i64 m.lr, .int .i64 m.hr, .int .i64 m.wt, .int .i64 m.run, .int .i64 (m.ct 0), .int .i64 (m.ct 1), .int .i64 (m.ct 2), .int .i64 (m.ct 3), .int .i64 (m.ct 4)], .int .i64 2] w (RServeTo F w (m.srv 2 true x l) [] 0) := by
  rw [hi] at hx
  have hlm : m.high = x :: l := hx
  have hn1 : 1 ≤ r.n2 := by rw [← h.hi.len, hlm]; simp
  have hnm : r.n2 ≤ 2000 := by rw [← h.hi.len]; exact Nat.le_trans hh (by decide)
  have hnr : m.nrun true = 0 := by simp [AM.nrun, hlp]
  have HM : Hid (m.took true l = (({ m with run := 0 } : AM).put true m.high.tail)) := Lib.hid (by unfold AM.took; rw [hnr]; show _ = ({ m with run := 0 } : AM).put true m.high.tail; rw [hlm]; rfl)
  have HTL : Hid (({ m with run := 0 } : AM).put true m.high.tail = (({ m with run := 0 } : AM).put true m.high.tail) ∧ m.high.tail = l) := Lib.hid ⟨rfl, by rw [hlm]; rfl⟩
  have hlw : (r.n1 : Int) ≤ 0 := by have := h.lo.len; omega
  have hwr : IntKind.i64.wrap ((m.run : Int) + 1) = (m.run : Int) + 1 := by rw [IntKind.wrap_i64]; omega
  have hwc : IntKind.i64.wrap (m.ct 0 + 1) = m.ct 0 + 1 := by have := hct 0; rw [IntKind.wrap_i64]; omega
  have hb0 : ∀ o o', Below w.heap.size w ((w.alloc o).alloc o') := fun o o' => ((Below.refl _ _).alloc (Nat.le_refl _) o).alloc (by simp) o'
  have hg0 : Gr F (fun k => F k ∨ k = w.heap.size ∨ k = w.heap.size + 1) w.heap.size := fun k hk => hk.imp id (by omega)
  have HP : Hid (∀ o o', Calls Try.prog 46 #[.agg #[.slice r.a1 r.n1 r.c1, .slice r.a2 r.n2 r.c2, .int .i64 m.lr, .int .i64 m.hr, .int .i64 m.wt, .int .i64 m.run, .int .i64 (m.ct 0), .int .i64 (m.ct 1), .int .i64 (m.ct 2), .int .i64 (m.ct 3), .int .i64 (m.ct 4)]] ((w.alloc o).alloc o') fun e w' => ∃ q' : Pv, e = .returned (.tuple #[.agg #[.int .i64 q'.h.kd, .int .i64 q'.h.fl, .int .i64 q'.h.pa, .int .i64 q'.h.sr, .int .i64 q'.h.ds, .int .i64 q'.h.cn, .int .i64 q'.h.sq, .int .i64 q'.h.pu, .slice q'.A q'.n q'.c], .bool true]) ∧ q'.pk = x ∧ PvR (fun k => F k ∨ k = w.heap.size ∨ k = w.heap.size + 1) w' q' ∧ Below ((w.alloc o).alloc o').heap.size ((w.alloc o).alloc o') w') := Lib.hid fun o o' => by
    have := r_peek ((h.st (St.refl F w) hg0).below (hb0 o o')) (fun k hk => by simp; rcases hk with hk | hk; (have := hF k hk; omega); omega)
    rw [hi, hx] at this
    exact this
  have HR := Lib.hid (h.st (St.refl F w) hg0)
  have HF := Lib.hid hF
  have HI := Lib.hid hi
  have hcut : ∀ W, (Instr.slice 34 (.slice r.a2 r.n2 r.c2) (some (.int .i64 1)) none none).run Try.prog W = .ok (.slice (cutR r.a2 r.c2 1 9) (r.n2 - 1) (r.c2 - 1)) W := fun W => eltP.run_cut r.a2 r.n2 r.c2 1 hn1 (by obtain ⟨qs, z1, z2, z3, z4, z5⟩ := h.hi; exact z2.2.1) W
  have HCUT := Lib.hid hcut
  have HNM := Lib.hid hnm
  have HN1 := Lib.hid hn1
  clear h hF hl hh hct hru hi hx hlm hb0 hg0 hnr hnm hn1 hcut hlp
  generalize hcutX : cutR r.a2 r.c2 1 9 = cX at *
  have HCX := Lib.hid hcutX
  clear hcutX
  have hcut := HCUT.out
  go_enter Try.func33, Try.ntmps33
  go_wp2_with fail
  refine (HP.out _ _).mono ?_
  rintro e w1 ⟨q, rfl, hk1, hq1, hb1⟩
  obtain ⟨h2, h4, hc⟩ := new2 hb1
  have HK := Lib.hid hk1
  have hba := (Below.refl w1.heap.size w1).alloc (Nat.le_refl _) (.cells (List.toArray [.int .i64 q.h.kd, .int .i64 q.h.fl, .int .i64 q.h.pa, .int .i64 q.h.sr, .int .i64 q.h.ds, .int .i64 q.h.cn, .int .i64 q.h.sq, .int .i64 q.h.pu, .slice q.A q.n q.c]) 65)
  have hgy : Gr (fun k => F k ∨ k = w.heap.size ∨ k = w.heap.size + 1) (By F w w1.heap.size) w1.heap.size := fun k hk => by
    rcases hk with hk | hk | hk | hk
    · exact .inl (.inl hk)
    · exact .inl (.inr (.inl hk))
    · exact .inl (.inr (.inr hk))
    · exact .inr (by omega)
  have HS0 : Hid (RT F w w1.heap.size (w1.alloc (.cells (List.toArray [.int .i64 q.h.kd, .int .i64 q.h.fl, .int .i64 q.h.pa, .int .i64 q.h.sr, .int .i64 q.h.ds, .int .i64 q.h.cn, .int .i64 q.h.sq, .int .i64 q.h.pu, .slice q.A q.n q.c]) 65)) r m q) := Lib.hid ⟨h2.below hba, h4.below hba, Bk.new w1 65 [.int .i64 q.h.kd, .int .i64 q.h.fl, .int .i64 q.h.pa, .int .i64 q.h.sr, .int .i64 q.h.ds, .int .i64 q.h.cn, .int .i64 q.h.sq, .int .i64 q.h.pu, .slice q.A q.n q.c], h4.lt, hc.alloc hc.size _, ((HR.out.below hc).st (St.refl _ _) hgy).below hba, (hq1.gr hgy).below hba⟩
  have h2a := HS0.out.b2
  clear hk1 hq1 hb1 h2 h4 hc hba hgy HP HR
  go_wp2_with (with_reducible refine at_load 76 (.tmp 2) (by rfl) ?_; refine wpList_load_rp rowR rfl (.tmp 2) rfl r m w.heap.size rfl h2a ?_)
  refine (r_high HS0.out.rp).mono ?_
  rintro e w2 ⟨rfl, hb2⟩
  rw [HI.out]
  have HS1 := Lib.hid (HS0.out.below hb2)
  have HSa := Lib.hid (HS1.out.cell 5 (.int .i64 (0)) (r' := r) (m' := { m with run := 0 }) rfl ⟨HS1.out.rp.lo, HS1.out.rp.hi⟩)
  have HSb := Lib.hid (HSa.out.cell 1 (.slice (cX) (r.n2 - 1) (r.c2 - 1)) (r' := ⟨r.a1, r.n1, r.c1, cX, r.n2 - 1, r.c2 - 1⟩) (m' := (({ m with run := 0 } : AM).put true m.high.tail)) rfl (by have := HSa.out.rp.cutHigh HN1.out; rw [HCX.out] at this; exact this))
  have a0 := HS1.out.b2.cell 0 rfl
  have a1 := HS1.out.b2.cell 1 rfl
  have a5 := HS1.out.b2.cell 5 rfl
  have a6 := HS1.out.b2.cell 6 rfl
  have f0 := HS1.out.b2.free 0
  have f1 := HS1.out.b2.free 1
  have f5 := HS1.out.b2.free 5
  have f6 := HS1.out.b2.free 6
  have h7 := HSb.out.b7
  clear hb2 h2a HS0
  have z2 := HSb.out.b2
  have z4 := HSb.out.b4
  go_wp2_with (first
    | (with_reducible refine at_load 76 (.tmp 2) (by rfl) ?_; refine wpList_load_rp rowR rfl (.tmp 2) rfl ⟨r.a1, r.n1, r.c1, cX, r.n2 - 1, r.c2 - 1⟩ (({ m with run := 0 } : AM).put true m.high.tail) w.heap.size rfl z2 ?_)
    | (with_reducible refine at_store 76 (.tmp 4) (.tmp 69) (by rfl) ?_; refine wpList_put_rp rowR rfl (.tmp 4) (.tmp 69) rfl (w.heap.size + 1) rfl z4 rfl ⟨r.a1, r.n1, r.c1, cX, r.n2 - 1, r.c2 - 1⟩ (({ m with run := 0 } : AM).put true m.high.tail) rfl ?_; rintro w5 h45 hw5))
  have HSF := wr_by (F := F) (w := w) (g := w1.heap.size) (.inr (.inl rfl)) hw5
  have hrp := HSb.out.rp.st HSF (Gr.refl _ _)
  have HFIN : Hid (m.srv 2 true x l = (({ m with run := 0 } : AM).put true m.high.tail)) := Lib.hid (by simp [AM.srv]; rw [HM.out])
  refine bodyPost_ret (results_ctt rfl rfl (rowR.load h45 0 (cs := RV.cl ⟨r.a1, r.n1, r.c1, cX, r.n2 - 1, r.c2 - 1⟩ (({ m with run := 0 } : AM).put true m.high.tail)) rfl rfl)) rfl ?_
  rw [HFIN.out]
  refine ⟨⟨r.a1, r.n1, r.c1, cX, r.n2 - 1, r.c2 - 1⟩, none, 0, 0, ?_, (show RpR F _ _ _ from ⟨hrp.lo.mono fun k hk => .inl hk, hrp.hi.mono fun k hk => .inl hk⟩), SlP.nil _ _, HSb.out.bl.trans (hw5.below (by omega) HSb.out.bl.size)⟩
  kernel_rfl
set_option maxHeartbeats 4000000 in
set_option maxRecDepth 100000 in
theorem r_serve_l2 (h : RpR F w r m) (hF : ∀ k, F k → k < w.heap.size) (hl : m.low.length ≤ 1024) (hh : m.high.length ≤ 1024) (hct : ∀ k, -1 ≤ m.ct k ∧ m.ct k ≤ 1000000) (hru : m.run ≤ 1024) (hi : m.hiB = false)  (x : Pk) (l : List Pk) (hx : m.sel m.hiB = x :: l) :
    Calls Try.prog 33 #[.agg #[.slice r.a1 r.n1 r.c1, .slice r.a2 r.n2 r.c2, .int .i64 m.lr, .int .i64 m.hr, .int .i64 m.wt, .int .i64 m.run, .int .i64 (m.ct 0), .int .i64 (m.ct 1), .int .i64 (m.ct 2), .int .i64 (m.ct 3), .int .i64 (m.ct 4)], .int .i64 2] w (RServeTo F w (m.srv 2 false x l) [] 0) := by
  rw [hi] at hx
  have hlm : m.low = x :: l := hx
  have hn1 : 1 ≤ r.n1 := by rw [← h.lo.len, hlm]; simp
  have hnm : r.n1 ≤ 2000 := by rw [← h.lo.len]; exact Nat.le_trans hl (by decide)
  have hnr : m.nrun false = 0 := by simp [AM.nrun]
  have HM : Hid (m.took false l = (({ m with run := 0 } : AM).put false m.low.tail)) := Lib.hid (by unfold AM.took; rw [hnr]; show _ = ({ m with run := 0 } : AM).put false m.low.tail; rw [hlm]; rfl)
  have HTL : Hid (({ m with run := 0 } : AM).put false m.low.tail = (({ m with run := 0 } : AM).put false m.low.tail) ∧ m.low.tail = l) := Lib.hid ⟨rfl, by rw [hlm]; rfl⟩
  have hwr : IntKind.i64.wrap ((m.run : Int) + 1) = (m.run : Int) + 1 := by rw [IntKind.wrap_i64]; omega
  have hwc : IntKind.i64.wrap (m.ct 0 + 1) = m.ct 0 + 1 := by have := hct 0; rw [IntKind.wrap_i64]; omega
  have hb0 : ∀ o o', Below w.heap.size w ((w.alloc o).alloc o') := fun o o' => ((Below.refl _ _).alloc (Nat.le_refl _) o).alloc (by simp) o'
  have hg0 : Gr F (fun k => F k ∨ k = w.heap.size ∨ k = w.heap.size + 1) w.heap.size := fun k hk => hk.imp id (by omega)
  have HP : Hid (∀ o o', Calls Try.prog 46 #[.agg #[.slice r.a1 r.n1 r.c1, .slice r.a2 r.n2 r.c2, .int .i64 m.lr, .int .i64 m.hr, .int .i64 m.wt, .int .i64 m.run, .int .i64 (m.ct 0), .int .i64 (m.ct 1), .int .i64 (m.ct 2), .int .i64 (m.ct 3), .int .i64 (m.ct 4)]] ((w.alloc o).alloc o') fun e w' => ∃ q' : Pv, e = .returned (.tuple #[.agg #[.int .i64 q'.h.kd, .int .i64 q'.h.fl, .int .i64 q'.h.pa, .int .i64 q'.h.sr, .int .i64 q'.h.ds, .int .i64 q'.h.cn, .int .i64 q'.h.sq, .int .i64 q'.h.pu, .slice q'.A q'.n q'.c], .bool true]) ∧ q'.pk = x ∧ PvR (fun k => F k ∨ k = w.heap.size ∨ k = w.heap.size + 1) w' q' ∧ Below ((w.alloc o).alloc o').heap.size ((w.alloc o).alloc o') w') := Lib.hid fun o o' => by
    have := r_peek ((h.st (St.refl F w) hg0).below (hb0 o o')) (fun k hk => by simp; rcases hk with hk | hk; (have := hF k hk; omega); omega)
    rw [hi, hx] at this
    exact this
  have HR := Lib.hid (h.st (St.refl F w) hg0)
  have HF := Lib.hid hF
  have HI := Lib.hid hi
  have hcut : ∀ W, (Instr.slice 34 (.slice r.a1 r.n1 r.c1) (some (.int .i64 1)) none none).run Try.prog W = .ok (.slice (cutR r.a1 r.c1 1 9) (r.n1 - 1) (r.c1 - 1)) W := fun W => eltP.run_cut r.a1 r.n1 r.c1 1 hn1 (by obtain ⟨qs, z1, z2, z3, z4, z5⟩ := h.lo; exact z2.2.1) W
  have HCUT := Lib.hid hcut
  have HNM := Lib.hid hnm
  have HN1 := Lib.hid hn1
  clear h hF hl hh hct hru hi hx hlm hb0 hg0 hnr hnm hn1 hcut
  generalize hcutX : cutR r.a1 r.c1 1 9 = cX at *
  have HCX := Lib.hid hcutX
  clear hcutX
  have hcut := HCUT.out
  go_enter Try.func33, Try.ntmps33
  go_wp2_with fail
  refine (HP.out _ _).mono ?_
  rintro e w1 ⟨q, rfl, hk1, hq1, hb1⟩
  obtain ⟨h2, h4, hc⟩ := new2 hb1
  have HK := Lib.hid hk1
  have hba := (Below.refl w1.heap.size w1).alloc (Nat.le_refl _) (.cells (List.toArray [.int .i64 q.h.kd, .int .i64 q.h.fl, .int .i64 q.h.pa, .int .i64 q.h.sr, .int .i64 q.h.ds, .int .i64 q.h.cn, .int .i64 q.h.sq, .int .i64 q.h.pu, .slice q.A q.n q.c]) 65)
  have hgy : Gr (fun k => F k ∨ k = w.heap.size ∨ k = w.heap.size + 1) (By F w w1.heap.size) w1.heap.size := fun k hk => by
    rcases hk with hk | hk | hk | hk
    · exact .inl (.inl hk)
    · exact .inl (.inr (.inl hk))
    · exact .inl (.inr (.inr hk))
    · exact .inr (by omega)
  have HS0 : Hid (RT F w w1.heap.size (w1.alloc (.cells (List.toArray [.int .i64 q.h.kd, .int .i64 q.h.fl, .int .i64 q.h.pa, .int .i64 q.h.sr, .int .i64 q.h.ds, .int .i64 q.h.cn, .int .i64 q.h.sq, .int .i64 q.h.pu, .slice q.A q.n q.c]) 65)) r m q) := Lib.hid ⟨h2.below hba, h4.below hba, Bk.new w1 65 [.int .i64 q.h.kd, .int .i64 q.h.fl, .int .i64 q.h.pa, .int .i64 q.h.sr, .int .i64 q.h.ds, .int .i64 q.h.cn, .int .i64 q.h.sq, .int .i64 q.h.pu, .slice q.A q.n q.c], h4.lt, hc.alloc hc.size _, ((HR.out.below hc).st (St.refl _ _) hgy).below hba, (hq1.gr hgy).below hba⟩
  have h2a := HS0.out.b2
  clear hk1 hq1 hb1 h2 h4 hc hba hgy HP HR
  go_wp2_with (with_reducible refine at_load 76 (.tmp 2) (by rfl) ?_; refine wpList_load_rp rowR rfl (.tmp 2) rfl r m w.heap.size rfl h2a ?_)
  refine (r_high HS0.out.rp).mono ?_
  rintro e w2 ⟨rfl, hb2⟩
  rw [HI.out]
  have HS1 := Lib.hid (HS0.out.below hb2)
  have HSa := Lib.hid (HS1.out.cell 5 (.int .i64 (0)) (r' := r) (m' := { m with run := 0 }) rfl ⟨HS1.out.rp.lo, HS1.out.rp.hi⟩)
  have HSb := Lib.hid (HSa.out.cell 0 (.slice (cX) (r.n1 - 1) (r.c1 - 1)) (r' := ⟨cX, r.n1 - 1, r.c1 - 1, r.a2, r.n2, r.c2⟩) (m' := (({ m with run := 0 } : AM).put false m.low.tail)) rfl (by have := HSa.out.rp.cutLow HN1.out; rw [HCX.out] at this; exact this))
  have a0 := HS1.out.b2.cell 0 rfl
  have a1 := HS1.out.b2.cell 1 rfl
  have a5 := HS1.out.b2.cell 5 rfl
  have a6 := HS1.out.b2.cell 6 rfl
  have f0 := HS1.out.b2.free 0
  have f1 := HS1.out.b2.free 1
  have f5 := HS1.out.b2.free 5
  have f6 := HS1.out.b2.free 6
  have h7 := HSb.out.b7
  clear hb2 h2a HS0
  have z2 := HSb.out.b2
  have z4 := HSb.out.b4
  go_wp2_with (first
    | (with_reducible refine at_load 76 (.tmp 2) (by rfl) ?_; refine wpList_load_rp rowR rfl (.tmp 2) rfl ⟨cX, r.n1 - 1, r.c1 - 1, r.a2, r.n2, r.c2⟩ (({ m with run := 0 } : AM).put false m.low.tail) w.heap.size rfl z2 ?_)
    | (with_reducible refine at_store 76 (.tmp 4) (.tmp 69) (by rfl) ?_; refine wpList_put_rp rowR rfl (.tmp 4) (.tmp 69) rfl (w.heap.size + 1) rfl z4 rfl ⟨cX, r.n1 - 1, r.c1 - 1, r.a2, r.n2, r.c2⟩ (({ m with run := 0 } : AM).put false m.low.tail) rfl ?_; rintro w5 h45 hw5))
  have HSF := wr_by (F := F) (w := w) (g := w1.heap.size) (.inr (.inl rfl)) hw5
  have hrp := HSb.out.rp.st HSF (Gr.refl _ _)
  have HFIN : Hid (m.srv 2 false x l = (({ m with run := 0 } : AM).put false m.low.tail)) := Lib.hid (by simp [AM.srv]; rw [HM.out])
  refine bodyPost_ret (results_ctt rfl rfl (rowR.load h45 0 (cs := RV.cl ⟨cX, r.n1 - 1, r.c1 - 1, r.a2, r.n2, r.c2⟩ (({ m with run := 0 } : AM).put false m.low.tail)) rfl rfl)) rfl ?_
  rw [HFIN.out]
  refine ⟨⟨cX, r.n1 - 1, r.c1 - 1, r.a2, r.n2, r.c2⟩, none, 0, 0, ?_, (show RpR F _ _ _ from ⟨hrp.lo.mono fun k hk => .inl hk, hrp.hi.mono fun k hk => .inl hk⟩), SlP.nil _ _, HSb.out.bl.trans (hw5.below (by omega) HSb.out.bl.size)⟩
  kernel_rfl
set_option maxHeartbeats 4000000 in
set_option maxRecDepth 100000 in
theorem r_serve_hp3 (h : RpR F w r m) (hF : ∀ k, F k → k < w.heap.size) (hl : m.low.length ≤ 1024) (hh : m.high.length ≤ 1024) (hct : ∀ k, -1 ≤ m.ct k ∧ m.ct k ≤ 1000000) (hru : m.run ≤ 1024) (hi : m.hiB = true) (hlp : 0 < m.low.length) (x : Pk) (l : List Pk) (hx : m.sel m.hiB = x :: l) :
    Calls Try.prog 33 #[.agg #[.slice r.a1 r.n1 r.c1, .slice r.a2 r.n2 r.c2, .int .i64 m.lr, .int .i64 m.hr, .int .i64 m.wt, .int .i64 m.run, .int .i64 (m.ct 0), .int .i64 (m.ct 1), .int .i64 (m.ct 2), .int .i64 (m.ct 3), .int .i64 (m.ct 4)], .int .i64 3] w (RServeTo F w (m.srv 3 true x l) [] 0) := by
  rw [hi] at hx
  have hlm : m.high = x :: l := hx
  have hn1 : 1 ≤ r.n2 := by rw [← h.hi.len, hlm]; simp
  have hnm : r.n2 ≤ 2000 := by rw [← h.hi.len]; exact Nat.le_trans hh (by decide)
  have hnr : m.nrun true = m.run + 1 := by simp [AM.nrun, hlp]
  have HM : Hid (m.took true l = (({ m with run := m.run + 1 } : AM).put true m.high.tail)) := Lib.hid (by unfold AM.took; rw [hnr]; show _ = ({ m with run := m.run + 1 } : AM).put true m.high.tail; rw [hlm]; rfl)
  have HTL : Hid (({ m with run := m.run + 1 } : AM).put true m.high.tail = (({ m with run := m.run + 1 } : AM).put true m.high.tail) ∧ m.high.tail = l) := Lib.hid ⟨rfl, by rw [hlm]; rfl⟩
  have hlw : (0 : Int) < r.n1 := by have := h.lo.len; omega
  have hwr : IntKind.i64.wrap ((m.run : Int) + 1) = (m.run : Int) + 1 := by rw [IntKind.wrap_i64]; omega
  have hwc : IntKind.i64.wrap (m.ct 0 + 1) = m.ct 0 + 1 := by have := hct 0; rw [IntKind.wrap_i64]; omega
  have hb0 : ∀ o o', Below w.heap.size w ((w.alloc o).alloc o') := fun o o' => ((Below.refl _ _).alloc (Nat.le_refl _) o).alloc (by simp) o'
  have hg0 : Gr F (fun k => F k ∨ k = w.heap.size ∨ k = w.heap.size + 1) w.heap.size := fun k hk => hk.imp id (by omega)
  have HP : Hid (∀ o o', Calls Try.prog 46 #[.agg #[.slice r.a1 r.n1 r.c1, .slice r.a2 r.n2 r.c2, .int .i64 m.lr, .int .i64 m.hr, .int .i64 m.wt, .int .i64 m.run, .int .i64 (m.ct 0), .int .i64 (m.ct 1), .int .i64 (m.ct 2), .int .i64 (m.ct 3), .int .i64 (m.ct 4)]] ((w.alloc o).alloc o') fun e w' => ∃ q' : Pv, e = .returned (.tuple #[.agg #[.int .i64 q'.h.kd, .int .i64 q'.h.fl, .int .i64 q'.h.pa, .int .i64 q'.h.sr, .int .i64 q'.h.ds, .int .i64 q'.h.cn, .int .i64 q'.h.sq, .int .i64 q'.h.pu, .slice q'.A q'.n q'.c], .bool true]) ∧ q'.pk = x ∧ PvR (fun k => F k ∨ k = w.heap.size ∨ k = w.heap.size + 1) w' q' ∧ Below ((w.alloc o).alloc o').heap.size ((w.alloc o).alloc o') w') := Lib.hid fun o o' => by
    have := r_peek ((h.st (St.refl F w) hg0).below (hb0 o o')) (fun k hk => by simp; rcases hk with hk | hk; (have := hF k hk; omega); omega)
    rw [hi, hx] at this
    exact this
  have HR := Lib.hid (h.st (St.refl F w) hg0)
  have HF := Lib.hid hF
  have HI := Lib.hid hi
  have hcut : ∀ W, (Instr.slice 34 (.slice r.a2 r.n2 r.c2) (some (.int .i64 1)) none none).run Try.prog W = .ok (.slice (cutR r.a2 r.c2 1 9) (r.n2 - 1) (r.c2 - 1)) W := fun W => eltP.run_cut r.a2 r.n2 r.c2 1 hn1 (by obtain ⟨qs, z1, z2, z3, z4, z5⟩ := h.hi; exact z2.2.1) W
  have HCUT := Lib.hid hcut
  have HNM := Lib.hid hnm
  have HN1 := Lib.hid hn1
  clear h hF hl hh hct hru hi hx hlm hb0 hg0 hnr hnm hn1 hcut hlp
  generalize hcutX : cutR r.a2 r.c2 1 9 = cX at *
  have HCX := Lib.hid hcutX
  clear hcutX
  have hcut := HCUT.out
  go_enter Try.func33, Try.ntmps33
  go_wp2_with fail
  refine (HP.out _ _).mono ?_
  rintro e w1 ⟨q, rfl, hk1, hq1, hb1⟩
  obtain ⟨h2, h4, hc⟩ := new2 hb1
  have HK := Lib.hid hk1
  have hba := (Below.refl w1.heap.size w1).alloc (Nat.le_refl _) (.cells (List.toArray [.int .i64 q.h.kd, .int .i64 q.h.fl, .int .i64 q.h.pa, .int .i64 q.h.sr, .int .i64 q.h.ds, .int .i64 q.h.cn, .int .i64 q.h.sq, .int .i64 q.h.pu, .slice q.A q.n q.c]) 65)
  have hgy : Gr (fun k => F k ∨ k = w.heap.size ∨ k = w.heap.size + 1) (By F w w1.heap.size) w1.heap.size := fun k hk => by
    rcases hk with hk | hk | hk | hk
    · exact .inl (.inl hk)
    · exact .inl (.inr (.inl hk))
    · exact .inl (.inr (.inr hk))
    · exact .inr (by omega)
  have HS0 : Hid (RT F w w1.heap.size (w1.alloc (.cells (List.toArray [.int .i64 q.h.kd, .int .i64 q.h.fl, .int .i64 q.h.pa, .int .i64 q.h.sr, .int .i64 q.h.ds, .int .i64 q.h.cn, .int .i64 q.h.sq, .int .i64 q.h.pu, .slice q.A q.n q.c]) 65)) r m q) := Lib.hid ⟨h2.below hba, h4.below hba, Bk.new w1 65 [.int .i64 q.h.kd, .int .i64 q.h.fl, .int .i64 q.h.pa, .int .i64 q.h.sr, .int .i64 q.h.ds, .int .i64 q.h.cn, .int .i64 q.h.sq, .int .i64 q.h.pu, .slice q.A q.n q.c], h4.lt, hc.alloc hc.size _, ((HR.out.below hc).st (St.refl _ _) hgy).below hba, (hq1.gr hgy).below hba⟩
  have h2a := HS0.out.b2
  clear hk1 hq1 hb1 h2 h4 hc hba hgy HP HR
  go_wp2_with (with_reducible refine at_load 76 (.tmp 2) (by rfl) ?_; refine wpList_load_rp rowR rfl (.tmp 2) rfl r m w.heap.size rfl h2a ?_)
  refine (r_high HS0.out.rp).mono ?_
  rintro e w2 ⟨rfl, hb2⟩
  rw [HI.out]
  have HS1 := Lib.hid (HS0.out.below hb2)
  have HSa := Lib.hid (HS1.out.cell 5 (.int .i64 ((m.run : Int) + 1)) (r' := r) (m' := { m with run := m.run + 1 }) rfl ⟨HS1.out.rp.lo, HS1.out.rp.hi⟩)
  have HSb := Lib.hid (HSa.out.cell 1 (.slice (cX) (r.n2 - 1) (r.c2 - 1)) (r' := ⟨r.a1, r.n1, r.c1, cX, r.n2 - 1, r.c2 - 1⟩) (m' := (({ m with run := m.run + 1 } : AM).put true m.high.tail)) rfl (by have := HSa.out.rp.cutHigh HN1.out; rw [HCX.out] at this; exact this))
  have a0 := HS1.out.b2.cell 0 rfl
  have a1 := HS1.out.b2.cell 1 rfl
  have a5 := HS1.out.b2.cell 5 rfl
  have a6 := HS1.out.b2.cell 6 rfl
  have f0 := HS1.out.b2.free 0
  have f1 := HS1.out.b2.free 1
  have f5 := HS1.out.b2.free 5
  have f6 := HS1.out.b2.free 6
  have h7 := HSb.out.b7
  clear hb2 h2a HS0
  go_wp2_with (with_reducible refine at_load 65 (.tmp 7) (by rfl) ?_; refine wpList_load_pk rowP rfl (.tmp 7) rfl q w1.heap.size 0 rfl (Bk.pk (q := q) h7) ?_)
  refine (r_with HSb.out.rp.hi HSb.out.pv (HSb.out.bd HF.out) (show r.n2 - 1 ≤ 2000 by have := HNM.out; omega)).mono ?_
  rintro e w3 ⟨A3, n3, c3, rfl, hs3, hb3⟩
  have HSc := Lib.hid (HSb.out.below hb3)
  have HSd := Lib.hid (HSc.out.cell 1 (.slice A3 n3 c3) (r' := ⟨r.a1, r.n1, r.c1, A3, n3, c3⟩) (m' := (({ m with run := m.run + 1 } : AM).put true m.high.tail).put true (m.high.tail ++ [q.pk])) rfl ⟨HSc.out.rp.lo, hs3⟩)
  have b1 := HSc.out.b2.cell 1 rfl
  have g1 := HSc.out.b2.free 1
  have b6 : w3.cell? ⟨w.heap.size, 6, none⟩ = some (.int .i64 (m.ct 0)) := HSc.out.b2.cell 6 rfl
  have g6 := HSc.out.b2.free 6
  clear a0 a1 a5 a6 f0 f1 f5 f6 h7 hb3 hcut
  have z2 := HSd.out.b2
  have z4 := HSd.out.b4
  go_wp2_with (first
    | (with_reducible refine at_load 76 (.tmp 2) (by rfl) ?_; refine wpList_load_rp rowR rfl (.tmp 2) rfl ⟨r.a1, r.n1, r.c1, A3, n3, c3⟩ ((({ m with run := m.run + 1 } : AM).put true m.high.tail).put true (m.high.tail ++ [q.pk])) w.heap.size rfl z2 ?_)
    | (with_reducible refine at_store 76 (.tmp 4) (.tmp 69) (by rfl) ?_; refine wpList_put_rp rowR rfl (.tmp 4) (.tmp 69) rfl (w.heap.size + 1) rfl z4 rfl ⟨r.a1, r.n1, r.c1, A3, n3, c3⟩ ((({ m with run := m.run + 1 } : AM).put true m.high.tail).put true (m.high.tail ++ [q.pk])) rfl ?_; rintro w5 h45 hw5))
  have HSF := wr_by (F := F) (w := w) (g := w1.heap.size) (.inr (.inl rfl)) hw5
  have hrp := HSd.out.rp.st HSF (Gr.refl _ _)
  have HFIN : Hid (m.srv 3 true x l = ((({ m with run := m.run + 1 } : AM).put true m.high.tail).put true (m.high.tail ++ [q.pk]))) := Lib.hid (by simp [AM.srv]; rw [HM.out, ← HTL.out.2, ← HK.out])
  refine bodyPost_ret (results_ctt rfl rfl (rowR.load h45 0 (cs := RV.cl ⟨r.a1, r.n1, r.c1, A3, n3, c3⟩ ((({ m with run := m.run + 1 } : AM).put true m.high.tail).put true (m.high.tail ++ [q.pk]))) rfl rfl)) rfl ?_
  rw [HFIN.out]
  refine ⟨⟨r.a1, r.n1, r.c1, A3, n3, c3⟩, none, 0, 0, ?_, (show RpR F _ _ _ from ⟨hrp.lo.mono fun k hk => .inl hk, hrp.hi.mono fun k hk => .inl hk⟩), SlP.nil _ _, HSd.out.bl.trans (hw5.below (by omega) HSd.out.bl.size)⟩
  kernel_rfl
set_option maxHeartbeats 4000000 in
set_option maxRecDepth 100000 in
theorem r_serve_h3 (h : RpR F w r m) (hF : ∀ k, F k → k < w.heap.size) (hl : m.low.length ≤ 1024) (hh : m.high.length ≤ 1024) (hct : ∀ k, -1 ≤ m.ct k ∧ m.ct k ≤ 1000000) (hru : m.run ≤ 1024) (hi : m.hiB = true) (hlp : m.low.length = 0) (x : Pk) (l : List Pk) (hx : m.sel m.hiB = x :: l) :
    Calls Try.prog 33 #[.agg #[.slice r.a1 r.n1 r.c1, .slice r.a2 r.n2 r.c2, .int .i64 m.lr, .int .i64 m.hr, .int .i64 m.wt, .int .i64 m.run, .int .i64 (m.ct 0), .int .i64 (m.ct 1), .int .i64 (m.ct 2), .int .i64 (m.ct 3), .int .i64 (m.ct 4)], .int .i64 3] w (RServeTo F w (m.srv 3 true x l) [] 0) := by
  rw [hi] at hx
  have hlm : m.high = x :: l := hx
  have hn1 : 1 ≤ r.n2 := by rw [← h.hi.len, hlm]; simp
  have hnm : r.n2 ≤ 2000 := by rw [← h.hi.len]; exact Nat.le_trans hh (by decide)
  have hnr : m.nrun true = 0 := by simp [AM.nrun, hlp]
  have HM : Hid (m.took true l = (({ m with run := 0 } : AM).put true m.high.tail)) := Lib.hid (by unfold AM.took; rw [hnr]; show _ = ({ m with run := 0 } : AM).put true m.high.tail; rw [hlm]; rfl)
  have HTL : Hid (({ m with run := 0 } : AM).put true m.high.tail = (({ m with run := 0 } : AM).put true m.high.tail) ∧ m.high.tail = l) := Lib.hid ⟨rfl, by rw [hlm]; rfl⟩
  have hlw : (r.n1 : Int) ≤ 0 := by have := h.lo.len; omega
  have hwr : IntKind.i64.wrap ((m.run : Int) + 1) = (m.run : Int) + 1 := by rw [IntKind.wrap_i64]; omega
  have hwc : IntKind.i64.wrap (m.ct 0 + 1) = m.ct 0 + 1 := by have := hct 0; rw [IntKind.wrap_i64]; omega
  have hb0 : ∀ o o', Below w.heap.size w ((w.alloc o).alloc o') := fun o o' => ((Below.refl _ _).alloc (Nat.le_refl _) o).alloc (by simp) o'
  have hg0 : Gr F (fun k => F k ∨ k = w.heap.size ∨ k = w.heap.size + 1) w.heap.size := fun k hk => hk.imp id (by omega)
  have HP : Hid (∀ o o', Calls Try.prog 46 #[.agg #[.slice r.a1 r.n1 r.c1, .slice r.a2 r.n2 r.c2, .int .i64 m.lr, .int .i64 m.hr, .int .i64 m.wt, .int .i64 m.run, .int .i64 (m.ct 0), .int .i64 (m.ct 1), .int .i64 (m.ct 2), .int .i64 (m.ct 3), .int .i64 (m.ct 4)]] ((w.alloc o).alloc o') fun e w' => ∃ q' : Pv, e = .returned (.tuple #[.agg #[.int .i64 q'.h.kd, .int .i64 q'.h.fl, .int .i64 q'.h.pa, .int .i64 q'.h.sr, .int .i64 q'.h.ds, .int .i64 q'.h.cn, .int .i64 q'.h.sq, .int .i64 q'.h.pu, .slice q'.A q'.n q'.c], .bool true]) ∧ q'.pk = x ∧ PvR (fun k => F k ∨ k = w.heap.size ∨ k = w.heap.size + 1) w' q' ∧ Below ((w.alloc o).alloc o').heap.size ((w.alloc o).alloc o') w') := Lib.hid fun o o' => by
    have := r_peek ((h.st (St.refl F w) hg0).below (hb0 o o')) (fun k hk => by simp; rcases hk with hk | hk; (have := hF k hk; omega); omega)
    rw [hi, hx] at this
    exact this
  have HR := Lib.hid (h.st (St.refl F w) hg0)
  have HF := Lib.hid hF
  have HI := Lib.hid hi
  have hcut : ∀ W, (Instr.slice 34 (.slice r.a2 r.n2 r.c2) (some (.int .i64 1)) none none).run Try.prog W = .ok (.slice (cutR r.a2 r.c2 1 9) (r.n2 - 1) (r.c2 - 1)) W := fun W => eltP.run_cut r.a2 r.n2 r.c2 1 hn1 (by obtain ⟨qs, z1, z2, z3, z4, z5⟩ := h.hi; exact z2.2.1) W
  have HCUT := Lib.hid hcut
  have HNM := Lib.hid hnm
  have HN1 := Lib.hid hn1
  clear h hF hl hh hct hru hi hx hlm hb0 hg0 hnr hnm hn1 hcut hlp
  generalize hcutX : cutR r.a2 r.c2 1 9 = cX at *
  have HCX := Lib.hid hcutX
  clear hcutX
  have hcut := HCUT.out
  go_enter Try.func33, Try.ntmps33
  go_wp2_with fail
  refine (HP.out _ _).mono ?_
  rintro e w1 ⟨q, rfl, hk1, hq1, hb1⟩
  obtain ⟨h2, h4, hc⟩ := new2 hb1
  have HK := Lib.hid hk1
  have hba := (Below.refl w1.heap.size w1).alloc (Nat.le_refl _) (.cells (List.toArray [.int .i64 q.h.kd, .int .i64 q.h.fl, .int .i64 q.h.pa, .int .i64 q.h.sr, .int .i64 q.h.ds, .int .i64 q.h.cn, .int .i64 q.h.sq, .int .i64 q.h.pu, .slice q.A q.n q.c]) 65)
  have hgy : Gr (fun k => F k ∨ k = w.heap.size ∨ k = w.heap.size + 1) (By F w w1.heap.size) w1.heap.size := fun k hk => by
    rcases hk with hk | hk | hk | hk
    · exact .inl (.inl hk)
    · exact .inl (.inr (.inl hk))
    · exact .inl (.inr (.inr hk))
    · exact .inr (by omega)
  have HS0 : Hid (RT F w w1.heap.size (w1.alloc (.cells (List.toArray [.int .i64 q.h.kd, .int .i64 q.h.fl, .int .i64 q.h.pa, .int .i64 q.h.sr, .int .i64 q.h.ds, .int .i64 q.h.cn, .int .i64 q.h.sq, .int .i64 q.h.pu, .slice q.A q.n q.c]) 65)) r m q) := Lib.hid ⟨h2.below hba, h4.below hba, Bk.new w1 65 [.int .i64 q.h.kd, .int .i64 q.h.fl, .int .i64 q.h.pa, .int .i64 q.h.sr, .int .i64 q.h.ds, .int .i64 q.h.cn, .int .i64 q.h.sq, .int .i64 q.h.pu, .slice q.A q.n q.c], h4.lt, hc.alloc hc.size _, ((HR.out.below hc).st (St.refl _ _) hgy).below hba, (hq1.gr hgy).below hba⟩
  have h2a := HS0.out.b2
  clear hk1 hq1 hb1 h2 h4 hc hba hgy HP HR
  go_wp2_with (with_reducible refine at_load 76 (.tmp 2) (by rfl) ?_; refine wpList_load_rp rowR rfl (.tmp 2) rfl r m w.heap.size rfl h2a ?_)
  refine (r_high HS0.out.rp).mono ?_
  rintro e w2 ⟨rfl, hb2⟩
  rw [HI.out]
  have HS1 := Lib.hid (HS0.out.below hb2)
  have HSa := Lib.hid (HS1.out.cell 5 (.int .i64 (0)) (r' := r) (m' := { m with run := 0 }) rfl ⟨HS1.out.rp.lo, HS1.out.rp.hi⟩)
  have HSb := Lib.hid (HSa.out.cell 1 (.slice (cX) (r.n2 - 1) (r.c2 - 1)) (r' := ⟨r.a1, r.n1, r.c1, cX, r.n2 - 1, r.c2 - 1⟩) (m' := (({ m with run := 0 } : AM).put true m.high.tail)) rfl (by have := HSa.out.rp.cutHigh HN1.out; rw [HCX.out] at this; exact this))
  have a0 := HS1.out.b2.cell 0 rfl
  have a1 := HS1.out.b2.cell 1 rfl
  have a5 := HS1.out.b2.cell 5 rfl
  have a6 := HS1.out.b2.cell 6 rfl
  have f0 := HS1.out.b2.free 0
  have f1 := HS1.out.b2.free 1
  have f5 := HS1.out.b2.free 5
  have f6 := HS1.out.b2.free 6
  have h7 := HSb.out.b7
  clear hb2 h2a HS0
  go_wp2_with (with_reducible refine at_load 65 (.tmp 7) (by rfl) ?_; refine wpList_load_pk rowP rfl (.tmp 7) rfl q w1.heap.size 0 rfl (Bk.pk (q := q) h7) ?_)
  refine (r_with HSb.out.rp.hi HSb.out.pv (HSb.out.bd HF.out) (show r.n2 - 1 ≤ 2000 by have := HNM.out; omega)).mono ?_
  rintro e w3 ⟨A3, n3, c3, rfl, hs3, hb3⟩
  have HSc := Lib.hid (HSb.out.below hb3)
  have HSd := Lib.hid (HSc.out.cell 1 (.slice A3 n3 c3) (r' := ⟨r.a1, r.n1, r.c1, A3, n3, c3⟩) (m' := (({ m with run := 0 } : AM).put true m.high.tail).put true (m.high.tail ++ [q.pk])) rfl ⟨HSc.out.rp.lo, hs3⟩)
  have b1 := HSc.out.b2.cell 1 rfl
  have g1 := HSc.out.b2.free 1
  have b6 : w3.cell? ⟨w.heap.size, 6, none⟩ = some (.int .i64 (m.ct 0)) := HSc.out.b2.cell 6 rfl
  have g6 := HSc.out.b2.free 6
  clear a0 a1 a5 a6 f0 f1 f5 f6 h7 hb3 hcut
  have z2 := HSd.out.b2
  have z4 := HSd.out.b4
  go_wp2_with (first
    | (with_reducible refine at_load 76 (.tmp 2) (by rfl) ?_; refine wpList_load_rp rowR rfl (.tmp 2) rfl ⟨r.a1, r.n1, r.c1, A3, n3, c3⟩ ((({ m with run := 0 } : AM).put true m.high.tail).put true (m.high.tail ++ [q.pk])) w.heap.size rfl z2 ?_)
    | (with_reducible refine at_store 76 (.tmp 4) (.tmp 69) (by rfl) ?_; refine wpList_put_rp rowR rfl (.tmp 4) (.tmp 69) rfl (w.heap.size + 1) rfl z4 rfl ⟨r.a1, r.n1, r.c1, A3, n3, c3⟩ ((({ m with run := 0 } : AM).put true m.high.tail).put true (m.high.tail ++ [q.pk])) rfl ?_; rintro w5 h45 hw5))
  have HSF := wr_by (F := F) (w := w) (g := w1.heap.size) (.inr (.inl rfl)) hw5
  have hrp := HSd.out.rp.st HSF (Gr.refl _ _)
  have HFIN : Hid (m.srv 3 true x l = ((({ m with run := 0 } : AM).put true m.high.tail).put true (m.high.tail ++ [q.pk]))) := Lib.hid (by simp [AM.srv]; rw [HM.out, ← HTL.out.2, ← HK.out])
  refine bodyPost_ret (results_ctt rfl rfl (rowR.load h45 0 (cs := RV.cl ⟨r.a1, r.n1, r.c1, A3, n3, c3⟩ ((({ m with run := 0 } : AM).put true m.high.tail).put true (m.high.tail ++ [q.pk]))) rfl rfl)) rfl ?_
  rw [HFIN.out]
  refine ⟨⟨r.a1, r.n1, r.c1, A3, n3, c3⟩, none, 0, 0, ?_, (show RpR F _ _ _ from ⟨hrp.lo.mono fun k hk => .inl hk, hrp.hi.mono fun k hk => .inl hk⟩), SlP.nil _ _, HSd.out.bl.trans (hw5.below (by omega) HSd.out.bl.size)⟩
  kernel_rfl
set_option maxHeartbeats 4000000 in
set_option maxRecDepth 100000 in
theorem r_serve_l3 (h : RpR F w r m) (hF : ∀ k, F k → k < w.heap.size) (hl : m.low.length ≤ 1024) (hh : m.high.length ≤ 1024) (hct : ∀ k, -1 ≤ m.ct k ∧ m.ct k ≤ 1000000) (hru : m.run ≤ 1024) (hi : m.hiB = false)  (x : Pk) (l : List Pk) (hx : m.sel m.hiB = x :: l) :
    Calls Try.prog 33 #[.agg #[.slice r.a1 r.n1 r.c1, .slice r.a2 r.n2 r.c2, .int .i64 m.lr, .int .i64 m.hr, .int .i64 m.wt, .int .i64 m.run, .int .i64 (m.ct 0), .int .i64 (m.ct 1), .int .i64 (m.ct 2), .int .i64 (m.ct 3), .int .i64 (m.ct 4)], .int .i64 3] w (RServeTo F w (m.srv 3 false x l) [] 0) := by
  rw [hi] at hx
  have hlm : m.low = x :: l := hx
  have hn1 : 1 ≤ r.n1 := by rw [← h.lo.len, hlm]; simp
  have hnm : r.n1 ≤ 2000 := by rw [← h.lo.len]; exact Nat.le_trans hl (by decide)
  have hnr : m.nrun false = 0 := by simp [AM.nrun]
  have HM : Hid (m.took false l = (({ m with run := 0 } : AM).put false m.low.tail)) := Lib.hid (by unfold AM.took; rw [hnr]; show _ = ({ m with run := 0 } : AM).put false m.low.tail; rw [hlm]; rfl)
  have HTL : Hid (({ m with run := 0 } : AM).put false m.low.tail = (({ m with run := 0 } : AM).put false m.low.tail) ∧ m.low.tail = l) := Lib.hid ⟨rfl, by rw [hlm]; rfl⟩
  have hwr : IntKind.i64.wrap ((m.run : Int) + 1) = (m.run : Int) + 1 := by rw [IntKind.wrap_i64]; omega
  have hwc : IntKind.i64.wrap (m.ct 0 + 1) = m.ct 0 + 1 := by have := hct 0; rw [IntKind.wrap_i64]; omega
  have hb0 : ∀ o o', Below w.heap.size w ((w.alloc o).alloc o') := fun o o' => ((Below.refl _ _).alloc (Nat.le_refl _) o).alloc (by simp) o'
  have hg0 : Gr F (fun k => F k ∨ k = w.heap.size ∨ k = w.heap.size + 1) w.heap.size := fun k hk => hk.imp id (by omega)
  have HP : Hid (∀ o o', Calls Try.prog 46 #[.agg #[.slice r.a1 r.n1 r.c1, .slice r.a2 r.n2 r.c2, .int .i64 m.lr, .int .i64 m.hr, .int .i64 m.wt, .int .i64 m.run, .int .i64 (m.ct 0), .int .i64 (m.ct 1), .int .i64 (m.ct 2), .int .i64 (m.ct 3), .int .i64 (m.ct 4)]] ((w.alloc o).alloc o') fun e w' => ∃ q' : Pv, e = .returned (.tuple #[.agg #[.int .i64 q'.h.kd, .int .i64 q'.h.fl, .int .i64 q'.h.pa, .int .i64 q'.h.sr, .int .i64 q'.h.ds, .int .i64 q'.h.cn, .int .i64 q'.h.sq, .int .i64 q'.h.pu, .slice q'.A q'.n q'.c], .bool true]) ∧ q'.pk = x ∧ PvR (fun k => F k ∨ k = w.heap.size ∨ k = w.heap.size + 1) w' q' ∧ Below ((w.alloc o).alloc o').heap.size ((w.alloc o).alloc o') w') := Lib.hid fun o o' => by
    have := r_peek ((h.st (St.refl F w) hg0).below (hb0 o o')) (fun k hk => by simp; rcases hk with hk | hk; (have := hF k hk; omega); omega)
    rw [hi, hx] at this
    exact this
  have HR := Lib.hid (h.st (St.refl F w) hg0)
  have HF := Lib.hid hF
  have HI := Lib.hid hi
  have hcut : ∀ W, (Instr.slice 34 (.slice r.a1 r.n1 r.c1) (some (.int .i64 1)) none none).run Try.prog W = .ok (.slice (cutR r.a1 r.c1 1 9) (r.n1 - 1) (r.c1 - 1)) W := fun W => eltP.run_cut r.a1 r.n1 r.c1 1 hn1 (by obtain ⟨qs, z1, z2, z3, z4, z5⟩ := h.lo; exact z2.2.1) W
  have HCUT := Lib.hid hcut
  have HNM := Lib.hid hnm
  have HN1 := Lib.hid hn1
  clear h hF hl hh hct hru hi hx hlm hb0 hg0 hnr hnm hn1 hcut
  generalize hcutX : cutR r.a1 r.c1 1 9 = cX at *
  have HCX := Lib.hid hcutX
  clear hcutX
  have hcut := HCUT.out
  go_enter Try.func33, Try.ntmps33
  go_wp2_with fail
  refine (HP.out _ _).mono ?_
  rintro e w1 ⟨q, rfl, hk1, hq1, hb1⟩
  obtain ⟨h2, h4, hc⟩ := new2 hb1
  have HK := Lib.hid hk1
  have hba := (Below.refl w1.heap.size w1).alloc (Nat.le_refl _) (.cells (List.toArray [.int .i64 q.h.kd, .int .i64 q.h.fl, .int .i64 q.h.pa, .int .i64 q.h.sr, .int .i64 q.h.ds, .int .i64 q.h.cn, .int .i64 q.h.sq, .int .i64 q.h.pu, .slice q.A q.n q.c]) 65)
  have hgy : Gr (fun k => F k ∨ k = w.heap.size ∨ k = w.heap.size + 1) (By F w w1.heap.size) w1.heap.size := fun k hk => by
    rcases hk with hk | hk | hk | hk
    · exact .inl (.inl hk)
    · exact .inl (.inr (.inl hk))
    · exact .inl (.inr (.inr hk))
    · exact .inr (by omega)
  have HS0 : Hid (RT F w w1.heap.size (w1.alloc (.cells (List.toArray [.int .i64 q.h.kd, .int .i64 q.h.fl, .int .i64 q.h.pa, .int .i64 q.h.sr, .int .i64 q.h.ds, .int .i64 q.h.cn, .int .i64 q.h.sq, .int .i64 q.h.pu, .slice q.A q.n q.c]) 65)) r m q) := Lib.hid ⟨h2.below hba, h4.below hba, Bk.new w1 65 [.int .i64 q.h.kd, .int .i64 q.h.fl, .int .i64 q.h.pa, .int .i64 q.h.sr, .int .i64 q.h.ds, .int .i64 q.h.cn, .int .i64 q.h.sq, .int .i64 q.h.pu, .slice q.A q.n q.c], h4.lt, hc.alloc hc.size _, ((HR.out.below hc).st (St.refl _ _) hgy).below hba, (hq1.gr hgy).below hba⟩
  have h2a := HS0.out.b2
  clear hk1 hq1 hb1 h2 h4 hc hba hgy HP HR
  go_wp2_with (with_reducible refine at_load 76 (.tmp 2) (by rfl) ?_; refine wpList_load_rp rowR rfl (.tmp 2) rfl r m w.heap.size rfl h2a ?_)
  refine (r_high HS0.out.rp).mono ?_
  rintro e w2 ⟨rfl, hb2⟩
  rw [HI.out]
  have HS1 := Lib.hid (HS0.out.below hb2)
  have HSa := Lib.hid (HS1.out.cell 5 (.int .i64 (0)) (r' := r) (m' := { m with run := 0 }) rfl ⟨HS1.out.rp.lo, HS1.out.rp.hi⟩)
  have HSb := Lib.hid (HSa.out.cell 0 (.slice (cX) (r.n1 - 1) (r.c1 - 1)) (r' := ⟨cX, r.n1 - 1, r.c1 - 1, r.a2, r.n2, r.c2⟩) (m' := (({ m with run := 0 } : AM).put false m.low.tail)) rfl (by have := HSa.out.rp.cutLow HN1.out; rw [HCX.out] at this; exact this))
  have a0 := HS1.out.b2.cell 0 rfl
  have a1 := HS1.out.b2.cell 1 rfl
  have a5 := HS1.out.b2.cell 5 rfl
  have a6 := HS1.out.b2.cell 6 rfl
  have f0 := HS1.out.b2.free 0
  have f1 := HS1.out.b2.free 1
  have f5 := HS1.out.b2.free 5
  have f6 := HS1.out.b2.free 6
  have h7 := HSb.out.b7
  clear hb2 h2a HS0
  go_wp2_with (with_reducible refine at_load 65 (.tmp 7) (by rfl) ?_; refine wpList_load_pk rowP rfl (.tmp 7) rfl q w1.heap.size 0 rfl (Bk.pk (q := q) h7) ?_)
  refine (r_with HSb.out.rp.lo HSb.out.pv (HSb.out.bd HF.out) (show r.n1 - 1 ≤ 2000 by have := HNM.out; omega)).mono ?_
  rintro e w3 ⟨A3, n3, c3, rfl, hs3, hb3⟩
  have HSc := Lib.hid (HSb.out.below hb3)
  have HSd := Lib.hid (HSc.out.cell 0 (.slice A3 n3 c3) (r' := ⟨A3, n3, c3, r.a2, r.n2, r.c2⟩) (m' := (({ m with run := 0 } : AM).put false m.low.tail).put false (m.low.tail ++ [q.pk])) rfl ⟨hs3, HSc.out.rp.hi⟩)
  have b1 := HSc.out.b2.cell 0 rfl
  have g1 := HSc.out.b2.free 0
  have b6 : w3.cell? ⟨w.heap.size, 6, none⟩ = some (.int .i64 (m.ct 0)) := HSc.out.b2.cell 6 rfl
  have g6 := HSc.out.b2.free 6
  clear a0 a1 a5 a6 f0 f1 f5 f6 h7 hb3 hcut
  have z2 := HSd.out.b2
  have z4 := HSd.out.b4
  go_wp2_with (first
    | (with_reducible refine at_load 76 (.tmp 2) (by rfl) ?_; refine wpList_load_rp rowR rfl (.tmp 2) rfl ⟨A3, n3, c3, r.a2, r.n2, r.c2⟩ ((({ m with run := 0 } : AM).put false m.low.tail).put false (m.low.tail ++ [q.pk])) w.heap.size rfl z2 ?_)
    | (with_reducible refine at_store 76 (.tmp 4) (.tmp 69) (by rfl) ?_; refine wpList_put_rp rowR rfl (.tmp 4) (.tmp 69) rfl (w.heap.size + 1) rfl z4 rfl ⟨A3, n3, c3, r.a2, r.n2, r.c2⟩ ((({ m with run := 0 } : AM).put false m.low.tail).put false (m.low.tail ++ [q.pk])) rfl ?_; rintro w5 h45 hw5))
  have HSF := wr_by (F := F) (w := w) (g := w1.heap.size) (.inr (.inl rfl)) hw5
  have hrp := HSd.out.rp.st HSF (Gr.refl _ _)
  have HFIN : Hid (m.srv 3 false x l = ((({ m with run := 0 } : AM).put false m.low.tail).put false (m.low.tail ++ [q.pk]))) := Lib.hid (by simp [AM.srv]; rw [HM.out, ← HTL.out.2, ← HK.out])
  refine bodyPost_ret (results_ctt rfl rfl (rowR.load h45 0 (cs := RV.cl ⟨A3, n3, c3, r.a2, r.n2, r.c2⟩ ((({ m with run := 0 } : AM).put false m.low.tail).put false (m.low.tail ++ [q.pk]))) rfl rfl)) rfl ?_
  rw [HFIN.out]
  refine ⟨⟨A3, n3, c3, r.a2, r.n2, r.c2⟩, none, 0, 0, ?_, (show RpR F _ _ _ from ⟨hrp.lo.mono fun k hk => .inl hk, hrp.hi.mono fun k hk => .inl hk⟩), SlP.nil _ _, HSd.out.bl.trans (hw5.below (by omega) HSd.out.bl.size)⟩
  kernel_rfl
set_option maxHeartbeats 4000000 in
set_option maxRecDepth 100000 in
theorem r_serve_hp4 (h : RpR F w r m) (hF : ∀ k, F k → k < w.heap.size) (hl : m.low.length ≤ 1024) (hh : m.high.length ≤ 1024) (hct : ∀ k, -1 ≤ m.ct k ∧ m.ct k ≤ 1000000) (hru : m.run ≤ 1024) (hi : m.hiB = true) (hlp : 0 < m.low.length) (x : Pk) (l : List Pk) (hx : m.sel m.hiB = x :: l) :
    Calls Try.prog 33 #[.agg #[.slice r.a1 r.n1 r.c1, .slice r.a2 r.n2 r.c2, .int .i64 m.lr, .int .i64 m.hr, .int .i64 m.wt, .int .i64 m.run, .int .i64 (m.ct 0), .int .i64 (m.ct 1), .int .i64 (m.ct 2), .int .i64 (m.ct 3), .int .i64 (m.ct 4)], .int .i64 4] w (RServeTo F w (m.srv 4 true x l) [x] 0) := by
  rw [hi] at hx
  have hlm : m.high = x :: l := hx
  have hn1 : 1 ≤ r.n2 := by rw [← h.hi.len, hlm]; simp
  have hnm : r.n2 ≤ 2000 := by rw [← h.hi.len]; exact Nat.le_trans hh (by decide)
  have hnr : m.nrun true = m.run + 1 := by simp [AM.nrun, hlp]
  have HM : Hid (m.took true l = (({ m with run := m.run + 1 } : AM).put true m.high.tail)) := Lib.hid (by unfold AM.took; rw [hnr]; show _ = ({ m with run := m.run + 1 } : AM).put true m.high.tail; rw [hlm]; rfl)
  have HTL : Hid (({ m with run := m.run + 1 } : AM).put true m.high.tail = (({ m with run := m.run + 1 } : AM).put true m.high.tail) ∧ m.high.tail = l) := Lib.hid ⟨rfl, by rw [hlm]; rfl⟩
  have hlw : (0 : Int) < r.n1 := by have := h.lo.len; omega
  have hwr : IntKind.i64.wrap ((m.run : Int) + 1) = (m.run : Int) + 1 := by rw [IntKind.wrap_i64]; omega
  have hwc : IntKind.i64.wrap (m.ct 0 + 1) = m.ct 0 + 1 := by have := hct 0; rw [IntKind.wrap_i64]; omega
  have hb0 : ∀ o o', Below w.heap.size w ((w.alloc o).alloc o') := fun o o' => ((Below.refl _ _).alloc (Nat.le_refl _) o).alloc (by simp) o'
  have hg0 : Gr F (fun k => F k ∨ k = w.heap.size ∨ k = w.heap.size + 1) w.heap.size := fun k hk => hk.imp id (by omega)
  have HP : Hid (∀ o o', Calls Try.prog 46 #[.agg #[.slice r.a1 r.n1 r.c1, .slice r.a2 r.n2 r.c2, .int .i64 m.lr, .int .i64 m.hr, .int .i64 m.wt, .int .i64 m.run, .int .i64 (m.ct 0), .int .i64 (m.ct 1), .int .i64 (m.ct 2), .int .i64 (m.ct 3), .int .i64 (m.ct 4)]] ((w.alloc o).alloc o') fun e w' => ∃ q' : Pv, e = .returned (.tuple #[.agg #[.int .i64 q'.h.kd, .int .i64 q'.h.fl, .int .i64 q'.h.pa, .int .i64 q'.h.sr, .int .i64 q'.h.ds, .int .i64 q'.h.cn, .int .i64 q'.h.sq, .int .i64 q'.h.pu, .slice q'.A q'.n q'.c], .bool true]) ∧ q'.pk = x ∧ PvR (fun k => F k ∨ k = w.heap.size ∨ k = w.heap.size + 1) w' q' ∧ Below ((w.alloc o).alloc o').heap.size ((w.alloc o).alloc o') w') := Lib.hid fun o o' => by
    have := r_peek ((h.st (St.refl F w) hg0).below (hb0 o o')) (fun k hk => by simp; rcases hk with hk | hk; (have := hF k hk; omega); omega)
    rw [hi, hx] at this
    exact this
  have HR := Lib.hid (h.st (St.refl F w) hg0)
  have HF := Lib.hid hF
  have HI := Lib.hid hi
  have hcut : ∀ W, (Instr.slice 34 (.slice r.a2 r.n2 r.c2) (some (.int .i64 1)) none none).run Try.prog W = .ok (.slice (cutR r.a2 r.c2 1 9) (r.n2 - 1) (r.c2 - 1)) W := fun W => eltP.run_cut r.a2 r.n2 r.c2 1 hn1 (by obtain ⟨qs, z1, z2, z3, z4, z5⟩ := h.hi; exact z2.2.1) W
  have HCUT := Lib.hid hcut
  have HNM := Lib.hid hnm
  have HN1 := Lib.hid hn1
  clear h hF hl hh hct hru hi hx hlm hb0 hg0 hnr hnm hn1 hcut hlp
  generalize hcutX : cutR r.a2 r.c2 1 9 = cX at *
  have HCX := Lib.hid hcutX
  clear hcutX
  have hcut := HCUT.out
  go_enter Try.func33, Try.ntmps33
  go_wp2_with fail
  refine (HP.out _ _).mono ?_
  rintro e w1 ⟨q, rfl, hk1, hq1, hb1⟩
  obtain ⟨h2, h4, hc⟩ := new2 hb1
  have HK := Lib.hid hk1
  have hba := (Below.refl w1.heap.size w1).alloc (Nat.le_refl _) (.cells (List.toArray [.int .i64 q.h.kd, .int .i64 q.h.fl, .int .i64 q.h.pa, .int .i64 q.h.sr, .int .i64 q.h.ds, .int .i64 q.h.cn, .int .i64 q.h.sq, .int .i64 q.h.pu, .slice q.A q.n q.c]) 65)
  have hgy : Gr (fun k => F k ∨ k = w.heap.size ∨ k = w.heap.size + 1) (By F w w1.heap.size) w1.heap.size := fun k hk => by
    rcases hk with hk | hk | hk | hk
    · exact .inl (.inl hk)
    · exact .inl (.inr (.inl hk))
    · exact .inl (.inr (.inr hk))
    · exact .inr (by omega)
  have HS0 : Hid (RT F w w1.heap.size (w1.alloc (.cells (List.toArray [.int .i64 q.h.kd, .int .i64 q.h.fl, .int .i64 q.h.pa, .int .i64 q.h.sr, .int .i64 q.h.ds, .int .i64 q.h.cn, .int .i64 q.h.sq, .int .i64 q.h.pu, .slice q.A q.n q.c]) 65)) r m q) := Lib.hid ⟨h2.below hba, h4.below hba, Bk.new w1 65 [.int .i64 q.h.kd, .int .i64 q.h.fl, .int .i64 q.h.pa, .int .i64 q.h.sr, .int .i64 q.h.ds, .int .i64 q.h.cn, .int .i64 q.h.sq, .int .i64 q.h.pu, .slice q.A q.n q.c], h4.lt, hc.alloc hc.size _, ((HR.out.below hc).st (St.refl _ _) hgy).below hba, (hq1.gr hgy).below hba⟩
  have h2a := HS0.out.b2
  clear hk1 hq1 hb1 h2 h4 hc hba hgy HP HR
  go_wp2_with (with_reducible refine at_load 76 (.tmp 2) (by rfl) ?_; refine wpList_load_rp rowR rfl (.tmp 2) rfl r m w.heap.size rfl h2a ?_)
  refine (r_high HS0.out.rp).mono ?_
  rintro e w2 ⟨rfl, hb2⟩
  rw [HI.out]
  have HS1 := Lib.hid (HS0.out.below hb2)
  have HSa := Lib.hid (HS1.out.cell 5 (.int .i64 ((m.run : Int) + 1)) (r' := r) (m' := { m with run := m.run + 1 }) rfl ⟨HS1.out.rp.lo, HS1.out.rp.hi⟩)
  have HSb := Lib.hid (HSa.out.cell 1 (.slice (cX) (r.n2 - 1) (r.c2 - 1)) (r' := ⟨r.a1, r.n1, r.c1, cX, r.n2 - 1, r.c2 - 1⟩) (m' := (({ m with run := m.run + 1 } : AM).put true m.high.tail)) rfl (by have := HSa.out.rp.cutHigh HN1.out; rw [HCX.out] at this; exact this))
  have a0 := HS1.out.b2.cell 0 rfl
  have a1 := HS1.out.b2.cell 1 rfl
  have a5 := HS1.out.b2.cell 5 rfl
  have a6 := HS1.out.b2.cell 6 rfl
  have f0 := HS1.out.b2.free 0
  have f1 := HS1.out.b2.free 1
  have f5 := HS1.out.b2.free 5
  have f6 := HS1.out.b2.free 6
  have h7 := HSb.out.b7
  clear hb2 h2a HS0
  go_wp2_with (with_reducible refine at_load 65 (.tmp 7) (by rfl) ?_; refine wpList_load_pk rowP rfl (.tmp 7) rfl q w1.heap.size 0 rfl (Bk.pk (q := q) h7) ?_)
  refine (r_with HSb.out.rp.hi HSb.out.pv (HSb.out.bd HF.out) (show r.n2 - 1 ≤ 2000 by have := HNM.out; omega)).mono ?_
  rintro e w3 ⟨A3, n3, c3, rfl, hs3, hb3⟩
  have HSc := Lib.hid (HSb.out.below hb3)
  have HSd := Lib.hid (HSc.out.cell 1 (.slice A3 n3 c3) (r' := ⟨r.a1, r.n1, r.c1, A3, n3, c3⟩) (m' := (({ m with run := m.run + 1 } : AM).put true m.high.tail).put true (m.high.tail ++ [q.pk])) rfl ⟨HSc.out.rp.lo, hs3⟩)
  have b1 := HSc.out.b2.cell 1 rfl
  have g1 := HSc.out.b2.free 1
  have b6 : w3.cell? ⟨w.heap.size, 6, none⟩ = some (.int .i64 (m.ct 0)) := HSc.out.b2.cell 6 rfl
  have g6 := HSc.out.b2.free 6
  clear a0 a1 a5 a6 f0 f1 f5 f6 h7 hb3 hcut
  have HSe := Lib.hid (HSd.out.cell 6 (.int .i64 (m.ct 0 + 1)) (r' := ⟨r.a1, r.n1, r.c1, A3, n3, c3⟩) (m' := { ((({ m with run := m.run + 1 } : AM).put true m.high.tail).put true (m.high.tail ++ [q.pk])) with ct := up m.ct 0 (m.ct 0 + 1) }) rfl ⟨HSd.out.rp.lo, HSd.out.rp.hi⟩)
  go_wp2_with fail
  refine wp_region_E (St (· = w.heap.size + 1)) (by kernel_rfl) (fun wd hbd hsz => ?_)
  have HSE := Lib.hid (HSe.out.below hbd)
  have HSE4 := Lib.hid HSE.out.b4
  have bt0' : ¬ (w.heap.size = w.heap.size + 1) := by omega
  have bt7 : ¬ (w1.heap.size = w.heap.size + 1) := by have := HSE.out.hg; omega
  clear hsz
  (refine takeE (St.tr (· = w.heap.size + 1)) 0 (by simp only [List.getElem?_toArray, List.getElem?_cons_succ, List.getElem?_cons_zero]; rfl) (by kernel_rfl) (by kernel_rfl) (by kernel_rfl) (by exact fun _ _ _ h => h) (by first | (refine Or.inl ⟨by rfl, ?_⟩; intro W hW; exact exec_load_bk rowR (.tmp 2) rfl w.heap.size 0 rfl (HSE.out.b2.st hW bt0') (RV.cl ⟨r.a1, r.n1, r.c1, A3, n3, c3⟩ { ((({ m with run := m.run + 1 } : AM).put true m.high.tail).put true (m.high.tail ++ [q.pk])) with ct := up m.ct 0 (m.ct 0 + 1) }) rfl rfl) | exact Or.inr ⟨by rfl, rfl⟩) ?_; try simp only [Act.put, List.setIfInBounds_toArray, List.set_cons_zero, List.set_cons_succ])
  (refine takeE (St.tr (· = w.heap.size + 1)) 1 (by simp only [List.getElem?_toArray, List.getElem?_cons_succ, List.getElem?_cons_zero]; rfl) (by kernel_rfl) (by kernel_rfl) (by kernel_rfl) (by exact fun _ _ _ h => h) (by first | (refine Or.inl ⟨by rfl, ?_⟩; intro W hW; exact exec_loadRow rowP (.tmp 7) rfl w1.heap.size 0 rfl q (Bk.pk (HSE.out.b7.st hW bt7))) | exact Or.inr ⟨by rfl, rfl⟩) ?_; try simp only [Act.put, List.setIfInBounds_toArray, List.set_cons_zero, List.set_cons_succ])
  refine wpAnyE_two (i := 2) (j := 3) (by kernel_rfl) (by simp only [List.getElem?_toArray, List.getElem?_cons_succ, List.getElem?_cons_zero]; rfl) (by simp only [List.getElem?_toArray, List.getElem?_cons_succ, List.getElem?_cons_zero]; rfl) (fun K hK => ?_) (fun K hK => ?_)
  ·
    go_simp
    have hrd0 := RdR.one wd 65 q.cl q.cl_one
    have HB7 := Lib.hid ((Below.refl wd.heap.size wd).alloc (Nat.le_refl _) (.cells (List.toArray [.int .i64 q.h.kd, .int .i64 q.h.fl, .int .i64 q.h.pa, .int .i64 q.h.sr, .int .i64 q.h.ds, .int .i64 q.h.cn, .int .i64 q.h.sq, .int .i64 q.h.pu, .slice q.A q.n q.c]) 65))
    have HE4 := Lib.hid (HSE.out.b4.below HB7.out)
    refine hK.out _ _ (St.ext HB7.out) ?_
    clear hK K
    try simp only [Act.put, List.setIfInBounds_toArray, List.set_cons_zero, List.set_cons_succ]
    refine wpAnyE_one (i := 3) (by kernel_rfl) (by simp only [List.getElem?_toArray, List.getElem?_cons_succ, List.getElem?_cons_zero]; rfl) (fun K hK => ?_)
    refine opwp_store_bk rowR rfl (.tmp 4) (.tmp 76) rfl (w.heap.size + 1) 0 rfl HE4.out (RV.cl ⟨r.a1, r.n1, r.c1, A3, n3, c3⟩ { ((({ m with run := m.run + 1 } : AM).put true m.high.tail).put true (m.high.tail ++ [q.pk])) with ct := up m.ct 0 (m.ct 0 + 1) }) rfl rfl (by decide) (RV.cl_one _ _) ?_
    intro w5 h45 hw5
    rw [lay_all _ _ (by rfl)] at h45
    have H45 := Lib.hid h45
    have HZ5 : Hid (St (· = w.heap.size + 1) (wd.alloc (.cells (List.toArray [.int .i64 q.h.kd, .int .i64 q.h.fl, .int .i64 q.h.pa, .int .i64 q.h.sr, .int .i64 q.h.ds, .int .i64 q.h.cn, .int .i64 q.h.sq, .int .i64 q.h.pu, .slice q.A q.n q.c]) 65)) w5) := Lib.hid ⟨hw5.os, hw5.tape, hw5.output, hw5.size, fun k hk hn => hw5.block k hk (by intro e; injection e with e; exact hn e)⟩
    have HFW := Lib.hid ((St.ext HB7.out).trans HZ5.out (Gr.refl _ _))
    have HRD := Lib.hid (hrd0.st HZ5.out (fun _ ad he => by injection he with he; subst he; have := HSE.out.b4.lt; show ¬ (wd.heap.size = w.heap.size + 1); omega))
    have HGB := Lib.hid (Nat.le_refl wd.heap.size)
    refine hK.out _ _ HZ5.out ?_
    clear hK K
    try simp only [Act.put, List.setIfInBounds_toArray, List.set_cons_zero, List.set_cons_succ]
    (refine takeE (St.tr (· = w.heap.size + 1)) 4 (by simp only [List.getElem?_toArray, List.getElem?_cons_succ, List.getElem?_cons_zero]; rfl) (by kernel_rfl) (by kernel_rfl) (by kernel_rfl) (by exact fun _ _ _ h => h) (by first | (refine Or.inl ⟨by rfl, ?_⟩; intro W hW; go_simp; try with_reducible rfl) | exact Or.inr ⟨by rfl, rfl⟩) ?_; try simp only [Act.put, List.setIfInBounds_toArray, List.set_cons_zero, List.set_cons_succ])
    (refine takeE (St.tr (· = w.heap.size + 1)) 5 (by simp only [List.getElem?_toArray, List.getElem?_cons_succ, List.getElem?_cons_zero]; rfl) (by kernel_rfl) (by kernel_rfl) (by kernel_rfl) (by exact fun _ _ _ h => h) (by first | (refine Or.inl ⟨by rfl, ?_⟩; intro W hW; go_simp; try with_reducible rfl) | exact Or.inr ⟨by rfl, rfl⟩) ?_; try simp only [Act.put, List.setIfInBounds_toArray, List.set_cons_zero, List.set_cons_succ])
    refine wpAnyE_done (by kernel_rfl) ?_ _
    go_wp2
    have HSF := HFW.out.mono (F' := By F w w1.heap.size) fun k _ hk => .inr (.inr (.inl hk))
    have hrp := HSE.out.rp.st HSF (Gr.refl _ _)
    have hpv := HSE.out.pv.st HSF (Gr.refl _ _)
    have HFIN : Hid (m.srv 4 true x l = { ((({ m with run := m.run + 1 } : AM).put true m.high.tail).put true (m.high.tail ++ [q.pk])) with ct := up m.ct 0 (m.ct 0 + 1) }) := Lib.hid (by have e : m.srv 4 true x l = { (m.took true l).put true (l ++ [x]) with ct := up m.ct 0 (m.ct 0 + 1) } := (by simp [AM.srv]); rw [e, HM.out, ← HTL.out.2, ← HK.out])
    refine bodyPost_ret (results_ctt rfl rfl (rowR.load H45.out 0 (cs := RV.cl ⟨r.a1, r.n1, r.c1, A3, n3, c3⟩ { ((({ m with run := m.run + 1 } : AM).put true m.high.tail).put true (m.high.tail ++ [q.pk])) with ct := up m.ct 0 (m.ct 0 + 1) }) rfl rfl)) rfl ?_
    rw [HFIN.out]
    first
      | (refine ⟨⟨r.a1, r.n1, r.c1, A3, n3, c3⟩, some ⟨wd.heap.size, 0, none⟩, 1, 1, by kernel_rfl, (show RpR F _ _ _ from ⟨hrp.lo.mono fun k hk => .inl hk, hrp.hi.mono fun k hk => .inl hk⟩), ⟨[q], rfl, by rw [flat_one]; exact HRD.out, by show [q.pk] = _; rw [HK.out], fun y hy => by rw [List.mem_singleton.1 hy]; exact hpv.mono fun k hk => .inl hk, fun _ ad he hf => by injection he with he; subst he; have h1 := HF.out _ hf; have h2 := HSE.out.bl.size; have h3 := HGB.out; dsimp only at h1; omega⟩, HSE.out.bl.trans (HFW.out.below HSE.out.bl.size (fun k hk => by omega))⟩)
      | (refine ⟨⟨r.a1, r.n1, r.c1, A3, n3, c3⟩, some ⟨w5.heap.size, 0, none⟩, 1, 1, by kernel_rfl, (show RpR F _ _ _ from ⟨hrp.lo.mono fun k hk => .inl hk, hrp.hi.mono fun k hk => .inl hk⟩), ⟨[q], rfl, by rw [flat_one]; exact HRD.out, by show [q.pk] = _; rw [HK.out], fun y hy => by rw [List.mem_singleton.1 hy]; exact hpv.mono fun k hk => .inl hk, fun _ ad he hf => by injection he with he; subst he; have h1 := HF.out _ hf; have h2 := HSE.out.bl.size; have h3 := HGB.out; dsimp only at h1; omega⟩, HSE.out.bl.trans (HFW.out.below HSE.out.bl.size (fun k hk => by omega))⟩)
  ·
    refine opwp_store_bk rowR rfl (.tmp 4) (.tmp 76) rfl (w.heap.size + 1) 0 rfl HSE4.out (RV.cl ⟨r.a1, r.n1, r.c1, A3, n3, c3⟩ { ((({ m with run := m.run + 1 } : AM).put true m.high.tail).put true (m.high.tail ++ [q.pk])) with ct := up m.ct 0 (m.ct 0 + 1) }) rfl rfl (by decide) (RV.cl_one _ _) ?_
    intro w5 h45 hw5
    rw [lay_all _ _ (by rfl)] at h45
    have H45a := Lib.hid h45
    have HZ5 : Hid (St (· = w.heap.size + 1) wd w5) := Lib.hid ⟨hw5.os, hw5.tape, hw5.output, hw5.size, fun k hk hn => hw5.block k hk (by intro e; injection e with e; exact hn e)⟩
    refine hK.out _ _ HZ5.out ?_
    clear hK K
    try simp only [Act.put, List.setIfInBounds_toArray, List.set_cons_zero, List.set_cons_succ]
    refine wpAnyE_one (i := 2) (by kernel_rfl) (by simp only [List.getElem?_toArray, List.getElem?_cons_succ, List.getElem?_cons_zero]; rfl) (fun K hK => ?_)
    go_simp
    have HRD := Lib.hid (RdR.one w5 65 q.cl q.cl_one)
    have HB7 := Lib.hid ((Below.refl w5.heap.size w5).alloc (Nat.le_refl _) (.cells (List.toArray [.int .i64 q.h.kd, .int .i64 q.h.fl, .int .i64 q.h.pa, .int .i64 q.h.sr, .int .i64 q.h.ds, .int .i64 q.h.cn, .int .i64 q.h.sq, .int .i64 q.h.pu, .slice q.A q.n q.c]) 65))
    have H45 := Lib.hid (H45a.out.below HB7.out)
    have HFW := Lib.hid (HZ5.out.trans (St.ext HB7.out) (Gr.refl _ _))
    have HGB := Lib.hid HZ5.out.size
    refine hK.out _ _ (St.ext HB7.out) ?_
    clear hK K
    try simp only [Act.put, List.setIfInBounds_toArray, List.set_cons_zero, List.set_cons_succ]
    (refine takeE (St.tr (· = w.heap.size + 1)) 4 (by simp only [List.getElem?_toArray, List.getElem?_cons_succ, List.getElem?_cons_zero]; rfl) (by kernel_rfl) (by kernel_rfl) (by kernel_rfl) (by exact fun _ _ _ h => h) (by first | (refine Or.inl ⟨by rfl, ?_⟩; intro W hW; go_simp; try with_reducible rfl) | exact Or.inr ⟨by rfl, rfl⟩) ?_; try simp only [Act.put, List.setIfInBounds_toArray, List.set_cons_zero, List.set_cons_succ])
    (refine takeE (St.tr (· = w.heap.size + 1)) 5 (by simp only [List.getElem?_toArray, List.getElem?_cons_succ, List.getElem?_cons_zero]; rfl) (by kernel_rfl) (by kernel_rfl) (by kernel_rfl) (by exact fun _ _ _ h => h) (by first | (refine Or.inl ⟨by rfl, ?_⟩; intro W hW; go_simp; try with_reducible rfl) | exact Or.inr ⟨by rfl, rfl⟩) ?_; try simp only [Act.put, List.setIfInBounds_toArray, List.set_cons_zero, List.set_cons_succ])
    refine wpAnyE_done (by kernel_rfl) ?_ _
    go_wp2
    have HSF := HFW.out.mono (F' := By F w w1.heap.size) fun k _ hk => .inr (.inr (.inl hk))
    have hrp := HSE.out.rp.st HSF (Gr.refl _ _)
    have hpv := HSE.out.pv.st HSF (Gr.refl _ _)
    have HFIN : Hid (m.srv 4 true x l = { ((({ m with run := m.run + 1 } : AM).put true m.high.tail).put true (m.high.tail ++ [q.pk])) with ct := up m.ct 0 (m.ct 0 + 1) }) := Lib.hid (by have e : m.srv 4 true x l = { (m.took true l).put true (l ++ [x]) with ct := up m.ct 0 (m.ct 0 + 1) } := (by simp [AM.srv]); rw [e, HM.out, ← HTL.out.2, ← HK.out])
    refine bodyPost_ret (results_ctt rfl rfl (rowR.load H45.out 0 (cs := RV.cl ⟨r.a1, r.n1, r.c1, A3, n3, c3⟩ { ((({ m with run := m.run + 1 } : AM).put true m.high.tail).put true (m.high.tail ++ [q.pk])) with ct := up m.ct 0 (m.ct 0 + 1) }) rfl rfl)) rfl ?_
    rw [HFIN.out]
    first
      | (refine ⟨⟨r.a1, r.n1, r.c1, A3, n3, c3⟩, some ⟨wd.heap.size, 0, none⟩, 1, 1, by kernel_rfl, (show RpR F _ _ _ from ⟨hrp.lo.mono fun k hk => .inl hk, hrp.hi.mono fun k hk => .inl hk⟩), ⟨[q], rfl, by rw [flat_one]; exact HRD.out, by show [q.pk] = _; rw [HK.out], fun y hy => by rw [List.mem_singleton.1 hy]; exact hpv.mono fun k hk => .inl hk, fun _ ad he hf => by injection he with he; subst he; have h1 := HF.out _ hf; have h2 := HSE.out.bl.size; have h3 := HGB.out; dsimp only at h1; omega⟩, HSE.out.bl.trans (HFW.out.below HSE.out.bl.size (fun k hk => by omega))⟩)
      | (refine ⟨⟨r.a1, r.n1, r.c1, A3, n3, c3⟩, some ⟨w5.heap.size, 0, none⟩, 1, 1, by kernel_rfl, (show RpR F _ _ _ from ⟨hrp.lo.mono fun k hk => .inl hk, hrp.hi.mono fun k hk => .inl hk⟩), ⟨[q], rfl, by rw [flat_one]; exact HRD.out, by show [q.pk] = _; rw [HK.out], fun y hy => by rw [List.mem_singleton.1 hy]; exact hpv.mono fun k hk => .inl hk, fun _ ad he hf => by injection he with he; subst he; have h1 := HF.out _ hf; have h2 := HSE.out.bl.size; have h3 := HGB.out; dsimp only at h1; omega⟩, HSE.out.bl.trans (HFW.out.below HSE.out.bl.size (fun k hk => by omega))⟩)
set_option maxHeartbeats 4000000 in
set_option maxRecDepth 100000 in
theorem r_serve_h4 (h : RpR F w r m) (hF : ∀ k, F k → k < w.heap.size) (hl : m.low.length ≤ 1024) (hh : m.high.length ≤ 1024) (hct : ∀ k, -1 ≤ m.ct k ∧ m.ct k ≤ 1000000) (hru : m.run ≤ 1024) (hi : m.hiB = true) (hlp : m.low.length = 0) (x : Pk) (l : List Pk) (hx : m.sel m.hiB = x :: l) :
    Calls Try.prog 33 #[.agg #[.slice r.a1 r.n1 r.c1, .slice r.a2 r.n2 r.c2, .int .i64 m.lr, .int .i64 m.hr, .int .i64 m.wt, .int .i64 m.run, .int .i64 (m.ct 0), .int .i64 (m.ct 1), .int .i64 (m.ct 2), .int .i64 (m.ct 3), .int .i64 (m.ct 4)], .int .i64 4] w (RServeTo F w (m.srv 4 true x l) [x] 0) := by
  rw [hi] at hx
  have hlm : m.high = x :: l := hx
  have hn1 : 1 ≤ r.n2 := by rw [← h.hi.len, hlm]; simp
  have hnm : r.n2 ≤ 2000 := by rw [← h.hi.len]; exact Nat.le_trans hh (by decide)
  have hnr : m.nrun true = 0 := by simp [AM.nrun, hlp]
  have HM : Hid (m.took true l = (({ m with run := 0 } : AM).put true m.high.tail)) := Lib.hid (by unfold AM.took; rw [hnr]; show _ = ({ m with run := 0 } : AM).put true m.high.tail; rw [hlm]; rfl)
  have HTL : Hid (({ m with run := 0 } : AM).put true m.high.tail = (({ m with run := 0 } : AM).put true m.high.tail) ∧ m.high.tail = l) := Lib.hid ⟨rfl, by rw [hlm]; rfl⟩
  have hlw : (r.n1 : Int) ≤ 0 := by have := h.lo.len; omega
  have hwr : IntKind.i64.wrap ((m.run : Int) + 1) = (m.run : Int) + 1 := by rw [IntKind.wrap_i64]; omega
  have hwc : IntKind.i64.wrap (m.ct 0 + 1) = m.ct 0 + 1 := by have := hct 0; rw [IntKind.wrap_i64]; omega
  have hb0 : ∀ o o', Below w.heap.size w ((w.alloc o).alloc o') := fun o o' => ((Below.refl _ _).alloc (Nat.le_refl _) o).alloc (by simp) o'
  have hg0 : Gr F (fun k => F k ∨ k = w.heap.size ∨ k = w.heap.size + 1) w.heap.size := fun k hk => hk.imp id (by omega)
  have HP : Hid (∀ o o', Calls Try.prog 46 #[.agg #[.slice r.a1 r.n1 r.c1, .slice r.a2 r.n2 r.c2, .int .i64 m.lr, .int .i64 m.hr, .int .i64 m.wt, .int .i64 m.run, .int .i64 (m.ct 0), .int .i64 (m.ct 1), .int .i64 (m.ct 2), .int .i64 (m.ct 3), .int .i64 (m.ct 4)]] ((w.alloc o).alloc o') fun e w' => ∃ q' : Pv, e = .returned (.tuple #[.agg #[.int .i64 q'.h.kd, .int .i64 q'.h.fl, .int .i64 q'.h.pa, .int .i64 q'.h.sr, .int .i64 q'.h.ds, .int .i64 q'.h.cn, .int .i64 q'.h.sq, .int .i64 q'.h.pu, .slice q'.A q'.n q'.c], .bool true]) ∧ q'.pk = x ∧ PvR (fun k => F k ∨ k = w.heap.size ∨ k = w.heap.size + 1) w' q' ∧ Below ((w.alloc o).alloc o').heap.size ((w.alloc o).alloc o') w') := Lib.hid fun o o' => by
    have := r_peek ((h.st (St.refl F w) hg0).below (hb0 o o')) (fun k hk => by simp; rcases hk with hk | hk; (have := hF k hk; omega); omega)
    rw [hi, hx] at this
    exact this
  have HR := Lib.hid (h.st (St.refl F w) hg0)
  have HF := Lib.hid hF
  have HI := Lib.hid hi
  have hcut : ∀ W, (Instr.slice 34 (.slice r.a2 r.n2 r.c2) (some (.int .i64 1)) none none).run Try.prog W = .ok (.slice (cutR r.a2 r.c2 1 9) (r.n2 - 1) (r.c2 - 1)) W := fun W => eltP.run_cut r.a2 r.n2 r.c2 1 hn1 (by obtain ⟨qs, z1, z2, z3, z4, z5⟩ := h.hi; exact z2.2.1) W
  have HCUT := Lib.hid hcut
  have HNM := Lib.hid hnm
  have HN1 := Lib.hid hn1
  clear h hF hl hh hct hru hi hx hlm hb0 hg0 hnr hnm hn1 hcut hlp
  generalize hcutX : cutR r.a2 r.c2 1 9 = cX at *
  have HCX := Lib.hid hcutX
  clear hcutX
  have hcut := HCUT.out
  go_enter Try.func33, Try.ntmps33
  go_wp2_with fail
  refine (HP.out _ _).mono ?_
  rintro e w1 ⟨q, rfl, hk1, hq1, hb1⟩
  obtain ⟨h2, h4, hc⟩ := new2 hb1
  have HK := Lib.hid hk1
  have hba := (Below.refl w1.heap.size w1).alloc (Nat.le_refl _) (.cells (List.toArray [.int .i64 q.h.kd, .int .i64 q.h.fl, .int .i64 q.h.pa, .int .i64 q.h.sr, .int .i64 q.h.ds, .int .i64 q.h.cn, .int .i64 q.h.sq, .int .i64 q.h.pu, .slice q.A q.n q.c]) 65)
  have hgy : Gr (fun k => F k ∨ k = w.heap.size ∨ k = w.heap.size + 1) (By F w w1.heap.size) w1.heap.size := fun k hk => by
    rcases hk with hk | hk | hk | hk
    · exact .inl (.inl hk)
    · exact .inl (.inr (.inl hk))
    · exact .inl (.inr (.inr hk))
    · exact .inr (by omega)
  have HS0 : Hid (RT F w w1.heap.size (w1.alloc (.cells (List.toArray [.int .i64 q.h.kd, .int .i64 q.h.fl, .int .i64 q.h.pa, .int .i64 q.h.sr, .int .i64 q.h.ds, .int .i64 q.h.cn, .int .i64 q.h.sq, .int .i64 q.h.pu, .slice q.A q.n q.c]) 65)) r m q) := Lib.hid ⟨h2.below hba, h4.below hba, Bk.new w1 65 [.int .i64 q.h.kd, .int .i64 q.h.fl, .int .i64 q.h.pa, .int .i64 q.h.sr, .int .i64 q.h.ds, .int .i64 q.h.cn, .int .i64 q.h.sq, .int .i64 q.h.pu, .slice q.A q.n q.c], h4.lt, hc.alloc hc.size _, ((HR.out.below hc).st (St.refl _ _) hgy).below hba, (hq1.gr hgy).below hba⟩
  have h2a := HS0.out.b2
  clear hk1 hq1 hb1 h2 h4 hc hba hgy HP HR
  go_wp2_with (with_reducible refine at_load 76 (.tmp 2) (by rfl) ?_; refine wpList_load_rp rowR rfl (.tmp 2) rfl r m w.heap.size rfl h2a ?_)
  refine (r_high HS0.out.rp).mono ?_
  rintro e w2 ⟨rfl, hb2⟩
  rw [HI.out]
  have HS1 := Lib.hid (HS0.out.below hb2)
  have HSa := Lib.hid (HS1.out.cell 5 (.int .i64 (0)) (r' := r) (m' := { m with run := 0 }) rfl ⟨HS1.out.rp.lo, HS1.out.rp.hi⟩)
  have HSb := Lib.hid (HSa.out.cell 1 (.slice (cX) (r.n2 - 1) (r.c2 - 1)) (r' := ⟨r.a1, r.n1, r.c1, cX, r.n2 - 1, r.c2 - 1⟩) (m' := (({ m with run := 0 } : AM).put true m.high.tail)) rfl (by have := HSa.out.rp.cutHigh HN1.out; rw [HCX.out] at this; exact this))
  have a0 := HS1.out.b2.cell 0 rfl
  have a1 := HS1.out.b2.cell 1 rfl
  have a5 := HS1.out.b2.cell 5 rfl
  have a6 := HS1.out.b2.cell 6 rfl
  have f0 := HS1.out.b2.free 0
  have f1 := HS1.out.b2.free 1
  have f5 := HS1.out.b2.free 5
  have f6 := HS1.out.b2.free 6
  have h7 := HSb.out.b7
  clear hb2 h2a HS0
  go_wp2_with (with_reducible refine at_load 65 (.tmp 7) (by rfl) ?_; refine wpList_load_pk rowP rfl (.tmp 7) rfl q w1.heap.size 0 rfl (Bk.pk (q := q) h7) ?_)
  refine (r_with HSb.out.rp.hi HSb.out.pv (HSb.out.bd HF.out) (show r.n2 - 1 ≤ 2000 by have := HNM.out; omega)).mono ?_
  rintro e w3 ⟨A3, n3, c3, rfl, hs3, hb3⟩
  have HSc := Lib.hid (HSb.out.below hb3)
  have HSd := Lib.hid (HSc.out.cell 1 (.slice A3 n3 c3) (r' := ⟨r.a1, r.n1, r.c1, A3, n3, c3⟩) (m' := (({ m with run := 0 } : AM).put true m.high.tail).put true (m.high.tail ++ [q.pk])) rfl ⟨HSc.out.rp.lo, hs3⟩)
  have b1 := HSc.out.b2.cell 1 rfl
  have g1 := HSc.out.b2.free 1
  have b6 : w3.cell? ⟨w.heap.size, 6, none⟩ = some (.int .i64 (m.ct 0)) := HSc.out.b2.cell 6 rfl
  have g6 := HSc.out.b2.free 6
  clear a0 a1 a5 a6 f0 f1 f5 f6 h7 hb3 hcut
  have HSe := Lib.hid (HSd.out.cell 6 (.int .i64 (m.ct 0 + 1)) (r' := ⟨r.a1, r.n1, r.c1, A3, n3, c3⟩) (m' := { ((({ m with run := 0 } : AM).put true m.high.tail).put true (m.high.tail ++ [q.pk])) with ct := up m.ct 0 (m.ct 0 + 1) }) rfl ⟨HSd.out.rp.lo, HSd.out.rp.hi⟩)
  go_wp2_with fail
  refine wp_region_E (St (· = w.heap.size + 1)) (by kernel_rfl) (fun wd hbd hsz => ?_)
  have HSE := Lib.hid (HSe.out.below hbd)
  have HSE4 := Lib.hid HSE.out.b4
  have bt0' : ¬ (w.heap.size = w.heap.size + 1) := by omega
  have bt7 : ¬ (w1.heap.size = w.heap.size + 1) := by have := HSE.out.hg; omega
  clear hsz
  (refine takeE (St.tr (· = w.heap.size + 1)) 0 (by simp only [List.getElem?_toArray, List.getElem?_cons_succ, List.getElem?_cons_zero]; rfl) (by kernel_rfl) (by kernel_rfl) (by kernel_rfl) (by exact fun _ _ _ h => h) (by first | (refine Or.inl ⟨by rfl, ?_⟩; intro W hW; exact exec_load_bk rowR (.tmp 2) rfl w.heap.size 0 rfl (HSE.out.b2.st hW bt0') (RV.cl ⟨r.a1, r.n1, r.c1, A3, n3, c3⟩ { ((({ m with run := 0 } : AM).put true m.high.tail).put true (m.high.tail ++ [q.pk])) with ct := up m.ct 0 (m.ct 0 + 1) }) rfl rfl) | exact Or.inr ⟨by rfl, rfl⟩) ?_; try simp only [Act.put, List.setIfInBounds_toArray, List.set_cons_zero, List.set_cons_succ])
  (refine takeE (St.tr (· = w.heap.size + 1)) 1 (by simp only [List.getElem?_toArray, List.getElem?_cons_succ, List.getElem?_cons_zero]; rfl) (by kernel_rfl) (by kernel_rfl) (by kernel_rfl) (by exact fun _ _ _ h => h) (by first | (refine Or.inl ⟨by rfl, ?_⟩; intro W hW; exact exec_loadRow rowP (.tmp 7) rfl w1.heap.size 0 rfl q (Bk.pk (HSE.out.b7.st hW bt7))) | exact Or.inr ⟨by rfl, rfl⟩) ?_; try simp only [Act.put, List.setIfInBounds_toArray, List.set_cons_zero, List.set_cons_succ])
  refine wpAnyE_two (i := 2) (j := 3) (by kernel_rfl) (by simp only [List.getElem?_toArray, List.getElem?_cons_succ, List.getElem?_cons_zero]; rfl) (by simp only [List.getElem?_toArray, List.getElem?_cons_succ, List.getElem?_cons_zero]; rfl) (fun K hK => ?_) (fun K hK => ?_)
  ·
    go_simp
    have hrd0 := RdR.one wd 65 q.cl q.cl_one
    have HB7 := Lib.hid ((Below.refl wd.heap.size wd).alloc (Nat.le_refl _) (.cells (List.toArray [.int .i64 q.h.kd, .int .i64 q.h.fl, .int .i64 q.h.pa, .int .i64 q.h.sr, .int .i64 q.h.ds, .int .i64 q.h.cn, .int .i64 q.h.sq, .int .i64 q.h.pu, .slice q.A q.n q.c]) 65))
    have HE4 := Lib.hid (HSE.out.b4.below HB7.out)
    refine hK.out _ _ (St.ext HB7.out) ?_
    clear hK K
    try simp only [Act.put, List.setIfInBounds_toArray, List.set_cons_zero, List.set_cons_succ]
    refine wpAnyE_one (i := 3) (by kernel_rfl) (by simp only [List.getElem?_toArray, List.getElem?_cons_succ, List.getElem?_cons_zero]; rfl) (fun K hK => ?_)
    refine opwp_store_bk rowR rfl (.tmp 4) (.tmp 76) rfl (w.heap.size + 1) 0 rfl HE4.out (RV.cl ⟨r.a1, r.n1, r.c1, A3, n3, c3⟩ { ((({ m with run := 0 } : AM).put true m.high.tail).put true (m.high.tail ++ [q.pk])) with ct := up m.ct 0 (m.ct 0 + 1) }) rfl rfl (by decide) (RV.cl_one _ _) ?_
    intro w5 h45 hw5
    rw [lay_all _ _ (by rfl)] at h45
    have H45 := Lib.hid h45
    have HZ5 : Hid (St (· = w.heap.size + 1) (wd.alloc (.cells (List.toArray [.int .i64 q.h.kd, .int .i64 q.h.fl, .int .i64 q.h.pa, .int .i64 q.h.sr, .int .i64 q.h.ds, .int .i64 q.h.cn, .int .i64 q.h.sq, .int .i64 q.h.pu, .slice q.A q.n q.c]) 65)) w5) := Lib.hid ⟨hw5.os, hw5.tape, hw5.output, hw5.size, fun k hk hn => hw5.block k hk (by intro e; injection e with e; exact hn e)⟩
    have HFW := Lib.hid ((St.ext HB7.out).trans HZ5.out (Gr.refl _ _))
    have HRD := Lib.hid (hrd0.st HZ5.out (fun _ ad he => by injection he with he; subst he; have := HSE.out.b4.lt; show ¬ (wd.heap.size = w.heap.size + 1); omega))
    have HGB := Lib.hid (Nat.le_refl wd.heap.size)
    refine hK.out _ _ HZ5.out ?_
    clear hK K
    try simp only [Act.put, List.setIfInBounds_toArray, List.set_cons_zero, List.set_cons_succ]
    (refine takeE (St.tr (· = w.heap.size + 1)) 4 (by simp only [List.getElem?_toArray, List.getElem?_cons_succ, List.getElem?_cons_zero]; rfl) (by kernel_rfl) (by kernel_rfl) (by kernel_rfl) (by exact fun _ _ _ h => h) (by first | (refine Or.inl ⟨by rfl, ?_⟩; intro W hW; go_simp; try with_reducible rfl) | exact Or.inr ⟨by rfl, rfl⟩) ?_; try simp only [Act.put, List.setIfInBounds_toArray, List.set_cons_zero, List.set_cons_succ])
    (refine takeE (St.tr (· = w.heap.size + 1)) 5 (by simp only [List.getElem?_toArray, List.getElem?_cons_succ, List.getElem?_cons_zero]; rfl) (by kernel_rfl) (by kernel_rfl) (by kernel_rfl) (by exact fun _ _ _ h => h) (by first | (refine Or.inl ⟨by rfl, ?_⟩; intro W hW; go_simp; try with_reducible rfl) | exact Or.inr ⟨by rfl, rfl⟩) ?_; try simp only [Act.put, List.setIfInBounds_toArray, List.set_cons_zero, List.set_cons_succ])
    refine wpAnyE_done (by kernel_rfl) ?_ _
    go_wp2
    have HSF := HFW.out.mono (F' := By F w w1.heap.size) fun k _ hk => .inr (.inr (.inl hk))
    have hrp := HSE.out.rp.st HSF (Gr.refl _ _)
    have hpv := HSE.out.pv.st HSF (Gr.refl _ _)
    have HFIN : Hid (m.srv 4 true x l = { ((({ m with run := 0 } : AM).put true m.high.tail).put true (m.high.tail ++ [q.pk])) with ct := up m.ct 0 (m.ct 0 + 1) }) := Lib.hid (by have e : m.srv 4 true x l = { (m.took true l).put true (l ++ [x]) with ct := up m.ct 0 (m.ct 0 + 1) } := (by simp [AM.srv]); rw [e, HM.out, ← HTL.out.2, ← HK.out])
    refine bodyPost_ret (results_ctt rfl rfl (rowR.load H45.out 0 (cs := RV.cl ⟨r.a1, r.n1, r.c1, A3, n3, c3⟩ { ((({ m with run := 0 } : AM).put true m.high.tail).put true (m.high.tail ++ [q.pk])) with ct := up m.ct 0 (m.ct 0 + 1) }) rfl rfl)) rfl ?_
    rw [HFIN.out]
    first
      | (refine ⟨⟨r.a1, r.n1, r.c1, A3, n3, c3⟩, some ⟨wd.heap.size, 0, none⟩, 1, 1, by kernel_rfl, (show RpR F _ _ _ from ⟨hrp.lo.mono fun k hk => .inl hk, hrp.hi.mono fun k hk => .inl hk⟩), ⟨[q], rfl, by rw [flat_one]; exact HRD.out, by show [q.pk] = _; rw [HK.out], fun y hy => by rw [List.mem_singleton.1 hy]; exact hpv.mono fun k hk => .inl hk, fun _ ad he hf => by injection he with he; subst he; have h1 := HF.out _ hf; have h2 := HSE.out.bl.size; have h3 := HGB.out; dsimp only at h1; omega⟩, HSE.out.bl.trans (HFW.out.below HSE.out.bl.size (fun k hk => by omega))⟩)
      | (refine ⟨⟨r.a1, r.n1, r.c1, A3, n3, c3⟩, some ⟨w5.heap.size, 0, none⟩, 1, 1, by kernel_rfl, (show RpR F _ _ _ from ⟨hrp.lo.mono fun k hk => .inl hk, hrp.hi.mono fun k hk => .inl hk⟩), ⟨[q], rfl, by rw [flat_one]; exact HRD.out, by show [q.pk] = _; rw [HK.out], fun y hy => by rw [List.mem_singleton.1 hy]; exact hpv.mono fun k hk => .inl hk, fun _ ad he hf => by injection he with he; subst he; have h1 := HF.out _ hf; have h2 := HSE.out.bl.size; have h3 := HGB.out; dsimp only at h1; omega⟩, HSE.out.bl.trans (HFW.out.below HSE.out.bl.size (fun k hk => by omega))⟩)
  ·
    refine opwp_store_bk rowR rfl (.tmp 4) (.tmp 76) rfl (w.heap.size + 1) 0 rfl HSE4.out (RV.cl ⟨r.a1, r.n1, r.c1, A3, n3, c3⟩ { ((({ m with run := 0 } : AM).put true m.high.tail).put true (m.high.tail ++ [q.pk])) with ct := up m.ct 0 (m.ct 0 + 1) }) rfl rfl (by decide) (RV.cl_one _ _) ?_
    intro w5 h45 hw5
    rw [lay_all _ _ (by rfl)] at h45
    have H45a := Lib.hid h45
    have HZ5 : Hid (St (· = w.heap.size + 1) wd w5) := Lib.hid ⟨hw5.os, hw5.tape, hw5.output, hw5.size, fun k hk hn => hw5.block k hk (by intro e; injection e with e; exact hn e)⟩
    refine hK.out _ _ HZ5.out ?_
    clear hK K
    try simp only [Act.put, List.setIfInBounds_toArray, List.set_cons_zero, List.set_cons_succ]
    refine wpAnyE_one (i := 2) (by kernel_rfl) (by simp only [List.getElem?_toArray, List.getElem?_cons_succ, List.getElem?_cons_zero]; rfl) (fun K hK => ?_)
    go_simp
    have HRD := Lib.hid (RdR.one w5 65 q.cl q.cl_one)
    have HB7 := Lib.hid ((Below.refl w5.heap.size w5).alloc (Nat.le_refl _) (.cells (List.toArray [.int .i64 q.h.kd, .int .i64 q.h.fl, .int .i64 q.h.pa, .int .i64 q.h.sr, .int .i64 q.h.ds, .int .i64 q.h.cn, .int .i64 q.h.sq, .int .i64 q.h.pu, .slice q.A q.n q.c]) 65))
    have H45 := Lib.hid (H45a.out.below HB7.out)
    have HFW := Lib.hid (HZ5.out.trans (St.ext HB7.out) (Gr.refl _ _))
    have HGB := Lib.hid HZ5.out.size
    refine hK.out _ _ (St.ext HB7.out) ?_
    clear hK K
    try simp only [Act.put, List.setIfInBounds_toArray, List.set_cons_zero, List.set_cons_succ]
    (refine takeE (St.tr (· = w.heap.size + 1)) 4 (by simp only [List.getElem?_toArray, List.getElem?_cons_succ, List.getElem?_cons_zero]; rfl) (by kernel_rfl) (by kernel_rfl) (by kernel_rfl) (by exact fun _ _ _ h => h) (by first | (refine Or.inl ⟨by rfl, ?_⟩; intro W hW; go_simp; try with_reducible rfl) | exact Or.inr ⟨by rfl, rfl⟩) ?_; try simp only [Act.put, List.setIfInBounds_toArray, List.set_cons_zero, List.set_cons_succ])
    (refine takeE (St.tr (· = w.heap.size + 1)) 5 (by simp only [List.getElem?_toArray, List.getElem?_cons_succ, List.getElem?_cons_zero]; rfl) (by kernel_rfl) (by kernel_rfl) (by kernel_rfl) (by exact fun _ _ _ h => h) (by first | (refine Or.inl ⟨by rfl, ?_⟩; intro W hW; go_simp; try with_reducible rfl) | exact Or.inr ⟨by rfl, rfl⟩) ?_; try simp only [Act.put, List.setIfInBounds_toArray, List.set_cons_zero, List.set_cons_succ])
    refine wpAnyE_done (by kernel_rfl) ?_ _
    go_wp2
    have HSF := HFW.out.mono (F' := By F w w1.heap.size) fun k _ hk => .inr (.inr (.inl hk))
    have hrp := HSE.out.rp.st HSF (Gr.refl _ _)
    have hpv := HSE.out.pv.st HSF (Gr.refl _ _)
    have HFIN : Hid (m.srv 4 true x l = { ((({ m with run := 0 } : AM).put true m.high.tail).put true (m.high.tail ++ [q.pk])) with ct := up m.ct 0 (m.ct 0 + 1) }) := Lib.hid (by have e : m.srv 4 true x l = { (m.took true l).put true (l ++ [x]) with ct := up m.ct 0 (m.ct 0 + 1) } := (by simp [AM.srv]); rw [e, HM.out, ← HTL.out.2, ← HK.out])
    refine bodyPost_ret (results_ctt rfl rfl (rowR.load H45.out 0 (cs := RV.cl ⟨r.a1, r.n1, r.c1, A3, n3, c3⟩ { ((({ m with run := 0 } : AM).put true m.high.tail).put true (m.high.tail ++ [q.pk])) with ct := up m.ct 0 (m.ct 0 + 1) }) rfl rfl)) rfl ?_
    rw [HFIN.out]
    first
      | (refine ⟨⟨r.a1, r.n1, r.c1, A3, n3, c3⟩, some ⟨wd.heap.size, 0, none⟩, 1, 1, by kernel_rfl, (show RpR F _ _ _ from ⟨hrp.lo.mono fun k hk => .inl hk, hrp.hi.mono fun k hk => .inl hk⟩), ⟨[q], rfl, by rw [flat_one]; exact HRD.out, by show [q.pk] = _; rw [HK.out], fun y hy => by rw [List.mem_singleton.1 hy]; exact hpv.mono fun k hk => .inl hk, fun _ ad he hf => by injection he with he; subst he; have h1 := HF.out _ hf; have h2 := HSE.out.bl.size; have h3 := HGB.out; dsimp only at h1; omega⟩, HSE.out.bl.trans (HFW.out.below HSE.out.bl.size (fun k hk => by omega))⟩)
      | (refine ⟨⟨r.a1, r.n1, r.c1, A3, n3, c3⟩, some ⟨w5.heap.size, 0, none⟩, 1, 1, by kernel_rfl, (show RpR F _ _ _ from ⟨hrp.lo.mono fun k hk => .inl hk, hrp.hi.mono fun k hk => .inl hk⟩), ⟨[q], rfl, by rw [flat_one]; exact HRD.out, by show [q.pk] = _; rw [HK.out], fun y hy => by rw [List.mem_singleton.1 hy]; exact hpv.mono fun k hk => .inl hk, fun _ ad he hf => by injection he with he; subst he; have h1 := HF.out _ hf; have h2 := HSE.out.bl.size; have h3 := HGB.out; dsimp only at h1; omega⟩, HSE.out.bl.trans (HFW.out.below HSE.out.bl.size (fun k hk => by omega))⟩)
set_option maxHeartbeats 4000000 in
set_option maxRecDepth 100000 in
theorem r_serve_l4 (h : RpR F w r m) (hF : ∀ k, F k → k < w.heap.size) (hl : m.low.length ≤ 1024) (hh : m.high.length ≤ 1024) (hct : ∀ k, -1 ≤ m.ct k ∧ m.ct k ≤ 1000000) (hru : m.run ≤ 1024) (hi : m.hiB = false)  (x : Pk) (l : List Pk) (hx : m.sel m.hiB = x :: l) :
    Calls Try.prog 33 #[.agg #[.slice r.a1 r.n1 r.c1, .slice r.a2 r.n2 r.c2, .int .i64 m.lr, .int .i64 m.hr, .int .i64 m.wt, .int .i64 m.run, .int .i64 (m.ct 0), .int .i64 (m.ct 1), .int .i64 (m.ct 2), .int .i64 (m.ct 3), .int .i64 (m.ct 4)], .int .i64 4] w (RServeTo F w (m.srv 4 false x l) [x] 0) := by
  rw [hi] at hx
  have hlm : m.low = x :: l := hx
  have hn1 : 1 ≤ r.n1 := by rw [← h.lo.len, hlm]; simp
  have hnm : r.n1 ≤ 2000 := by rw [← h.lo.len]; exact Nat.le_trans hl (by decide)
  have hnr : m.nrun false = 0 := by simp [AM.nrun]
  have HM : Hid (m.took false l = (({ m with run := 0 } : AM).put false m.low.tail)) := Lib.hid (by unfold AM.took; rw [hnr]; show _ = ({ m with run := 0 } : AM).put false m.low.tail; rw [hlm]; rfl)
  have HTL : Hid (({ m with run := 0 } : AM).put false m.low.tail = (({ m with run := 0 } : AM).put false m.low.tail) ∧ m.low.tail = l) := Lib.hid ⟨rfl, by rw [hlm]; rfl⟩
  have hwr : IntKind.i64.wrap ((m.run : Int) + 1) = (m.run : Int) + 1 := by rw [IntKind.wrap_i64]; omega
  have hwc : IntKind.i64.wrap (m.ct 0 + 1) = m.ct 0 + 1 := by have := hct 0; rw [IntKind.wrap_i64]; omega
  have hb0 : ∀ o o', Below w.heap.size w ((w.alloc o).alloc o') := fun o o' => ((Below.refl _ _).alloc (Nat.le_refl _) o).alloc (by simp) o'
  have hg0 : Gr F (fun k => F k ∨ k = w.heap.size ∨ k = w.heap.size + 1) w.heap.size := fun k hk => hk.imp id (by omega)
  have HP : Hid (∀ o o', Calls Try.prog 46 #[.agg #[.slice r.a1 r.n1 r.c1, .slice r.a2 r.n2 r.c2, .int .i64 m.lr, .int .i64 m.hr, .int .i64 m.wt, .int .i64 m.run, .int .i64 (m.ct 0), .int .i64 (m.ct 1), .int .i64 (m.ct 2), .int .i64 (m.ct 3), .int .i64 (m.ct 4)]] ((w.alloc o).alloc o') fun e w' => ∃ q' : Pv, e = .returned (.tuple #[.agg #[.int .i64 q'.h.kd, .int .i64 q'.h.fl, .int .i64 q'.h.pa, .int .i64 q'.h.sr, .int .i64 q'.h.ds, .int .i64 q'.h.cn, .int .i64 q'.h.sq, .int .i64 q'.h.pu, .slice q'.A q'.n q'.c], .bool true]) ∧ q'.pk = x ∧ PvR (fun k => F k ∨ k = w.heap.size ∨ k = w.heap.size + 1) w' q' ∧ Below ((w.alloc o).alloc o').heap.size ((w.alloc o).alloc o') w') := Lib.hid fun o o' => by
    have := r_peek ((h.st (St.refl F w) hg0).below (hb0 o o')) (fun k hk => by simp; rcases hk with hk | hk; (have := hF k hk; omega); omega)
    rw [hi, hx] at this
    exact this
  have HR := Lib.hid (h.st (St.refl F w) hg0)
  have HF := Lib.hid hF
  have HI := Lib.hid hi
  have hcut : ∀ W, (Instr.slice 34 (.slice r.a1 r.n1 r.c1) (some (.int .i64 1)) none none).run Try.prog W = .ok (.slice (cutR r.a1 r.c1 1 9) (r.n1 - 1) (r.c1 - 1)) W := fun W => eltP.run_cut r.a1 r.n1 r.c1 1 hn1 (by obtain ⟨qs, z1, z2, z3, z4, z5⟩ := h.lo; exact z2.2.1) W
  have HCUT := Lib.hid hcut
  have HNM := Lib.hid hnm
  have HN1 := Lib.hid hn1
  clear h hF hl hh hct hru hi hx hlm hb0 hg0 hnr hnm hn1 hcut
  generalize hcutX : cutR r.a1 r.c1 1 9 = cX at *
  have HCX := Lib.hid hcutX
  clear hcutX
  have hcut := HCUT.out
  go_enter Try.func33, Try.ntmps33
  go_wp2_with fail
  refine (HP.out _ _).mono ?_
  rintro e w1 ⟨q, rfl, hk1, hq1, hb1⟩
  obtain ⟨h2, h4, hc⟩ := new2 hb1
  have HK := Lib.hid hk1
  have hba := (Below.refl w1.heap.size w1).alloc (Nat.le_refl _) (.cells (List.toArray [.int .i64 q.h.kd, .int .i64 q.h.fl, .int .i64 q.h.pa, .int .i64 q.h.sr, .int .i64 q.h.ds, .int .i64 q.h.cn, .int .i64 q.h.sq, .int .i64 q.h.pu, .slice q.A q.n q.c]) 65)
  have hgy : Gr (fun k => F k ∨ k = w.heap.size ∨ k = w.heap.size + 1) (By F w w1.heap.size) w1.heap.size := fun k hk => by
    rcases hk with hk | hk | hk | hk
    · exact .inl (.inl hk)
    · exact .inl (.inr (.inl hk))
    · exact .inl (.inr (.inr hk))
    · exact .inr (by omega)
  have HS0 : Hid (RT F w w1.heap.size (w1.alloc (.cells (List.toArray [.int .i64 q.h.kd, .int .i64 q.h.fl, .int .i64 q.h.pa, .int .i64 q.h.sr, .int .i64 q.h.ds, .int .i64 q.h.cn, .int .i64 q.h.sq, .int .i64 q.h.pu, .slice q.A q.n q.c]) 65)) r m q) := Lib.hid ⟨h2.below hba, h4.below hba, Bk.new w1 65 [.int .i64 q.h.kd, .int .i64 q.h.fl, .int .i64 q.h.pa, .int .i64 q.h.sr, .int .i64 q.h.ds, .int .i64 q.h.cn, .int .i64 q.h.sq, .int .i64 q.h.pu, .slice q.A q.n q.c], h4.lt, hc.alloc hc.size _, ((HR.out.below hc).st (St.refl _ _) hgy).below hba, (hq1.gr hgy).below hba⟩
  have h2a := HS0.out.b2
  clear hk1 hq1 hb1 h2 h4 hc hba hgy HP HR
  go_wp2_with (with_reducible refine at_load 76 (.tmp 2) (by rfl) ?_; refine wpList_load_rp rowR rfl (.tmp 2) rfl r m w.heap.size rfl h2a ?_)
  refine (r_high HS0.out.rp).mono ?_
  rintro e w2 ⟨rfl, hb2⟩
  rw [HI.out]
  have HS1 := Lib.hid (HS0.out.below hb2)
  have HSa := Lib.hid (HS1.out.cell 5 (.int .i64 (0)) (r' := r) (m' := { m with run := 0 }) rfl ⟨HS1.out.rp.lo, HS1.out.rp.hi⟩)
  have HSb := Lib.hid (HSa.out.cell 0 (.slice (cX) (r.n1 - 1) (r.c1 - 1)) (r' := ⟨cX, r.n1 - 1, r.c1 - 1, r.a2, r.n2, r.c2⟩) (m' := (({ m with run := 0 } : AM).put false m.low.tail)) rfl (by have := HSa.out.rp.cutLow HN1.out; rw [HCX.out] at this; exact this))
  have a0 := HS1.out.b2.cell 0 rfl
  have a1 := HS1.out.b2.cell 1 rfl
  have a5 := HS1.out.b2.cell 5 rfl
  have a6 := HS1.out.b2.cell 6 rfl
  have f0 := HS1.out.b2.free 0
  have f1 := HS1.out.b2.free 1
  have f5 := HS1.out.b2.free 5
  have f6 := HS1.out.b2.free 6
  have h7 := HSb.out.b7
  clear hb2 h2a HS0
  go_wp2_with (with_reducible refine at_load 65 (.tmp 7) (by rfl) ?_; refine wpList_load_pk rowP rfl (.tmp 7) rfl q w1.heap.size 0 rfl (Bk.pk (q := q) h7) ?_)
  refine (r_with HSb.out.rp.lo HSb.out.pv (HSb.out.bd HF.out) (show r.n1 - 1 ≤ 2000 by have := HNM.out; omega)).mono ?_
  rintro e w3 ⟨A3, n3, c3, rfl, hs3, hb3⟩
  have HSc := Lib.hid (HSb.out.below hb3)
  have HSd := Lib.hid (HSc.out.cell 0 (.slice A3 n3 c3) (r' := ⟨A3, n3, c3, r.a2, r.n2, r.c2⟩) (m' := (({ m with run := 0 } : AM).put false m.low.tail).put false (m.low.tail ++ [q.pk])) rfl ⟨hs3, HSc.out.rp.hi⟩)
  have b1 := HSc.out.b2.cell 0 rfl
  have g1 := HSc.out.b2.free 0
  have b6 : w3.cell? ⟨w.heap.size, 6, none⟩ = some (.int .i64 (m.ct 0)) := HSc.out.b2.cell 6 rfl
  have g6 := HSc.out.b2.free 6
  clear a0 a1 a5 a6 f0 f1 f5 f6 h7 hb3 hcut
  have HSe := Lib.hid (HSd.out.cell 6 (.int .i64 (m.ct 0 + 1)) (r' := ⟨A3, n3, c3, r.a2, r.n2, r.c2⟩) (m' := { ((({ m with run := 0 } : AM).put false m.low.tail).put false (m.low.tail ++ [q.pk])) with ct := up m.ct 0 (m.ct 0 + 1) }) rfl ⟨HSd.out.rp.lo, HSd.out.rp.hi⟩)
  go_wp2_with fail
  refine wp_region_E (St (· = w.heap.size + 1)) (by kernel_rfl) (fun wd hbd hsz => ?_)
  have HSE := Lib.hid (HSe.out.below hbd)
  have HSE4 := Lib.hid HSE.out.b4
  have bt0' : ¬ (w.heap.size = w.heap.size + 1) := by omega
  have bt7 : ¬ (w1.heap.size = w.heap.size + 1) := by have := HSE.out.hg; omega
  clear hsz
  (refine takeE (St.tr (· = w.heap.size + 1)) 0 (by simp only [List.getElem?_toArray, List.getElem?_cons_succ, List.getElem?_cons_zero]; rfl) (by kernel_rfl) (by kernel_rfl) (by kernel_rfl) (by exact fun _ _ _ h => h) (by first | (refine Or.inl ⟨by rfl, ?_⟩; intro W hW; exact exec_load_bk rowR (.tmp 2) rfl w.heap.size 0 rfl (HSE.out.b2.st hW bt0') (RV.cl ⟨A3, n3, c3, r.a2, r.n2, r.c2⟩ { ((({ m with run := 0 } : AM).put false m.low.tail).put false (m.low.tail ++ [q.pk])) with ct := up m.ct 0 (m.ct 0 + 1) }) rfl rfl) | exact Or.inr ⟨by rfl, rfl⟩) ?_; try simp only [Act.put, List.setIfInBounds_toArray, List.set_cons_zero, List.set_cons_succ])
  (refine takeE (St.tr (· = w.heap.size + 1)) 1 (by simp only [List.getElem?_toArray, List.getElem?_cons_succ, List.getElem?_cons_zero]; rfl) (by kernel_rfl) (by kernel_rfl) (by kernel_rfl) (by exact fun _ _ _ h => h) (by first | (refine Or.inl ⟨by rfl, ?_⟩; intro W hW; exact exec_loadRow rowP (.tmp 7) rfl w1.heap.size 0 rfl q (Bk.pk (HSE.out.b7.st hW bt7))) | exact Or.inr ⟨by rfl, rfl⟩) ?_; try simp only [Act.put, List.setIfInBounds_toArray, List.set_cons_zero, List.set_cons_succ])
  refine wpAnyE_two (i := 2) (j := 3) (by kernel_rfl) (by simp only [List.getElem?_toArray, List.getElem?_cons_succ, List.getElem?_cons_zero]; rfl) (by simp only [List.getElem?_toArray, List.getElem?_cons_succ, List.getElem?_cons_zero]; rfl) (fun K hK => ?_) (fun K hK => ?_)
  ·
    go_simp
    have hrd0 := RdR.one wd 65 q.cl q.cl_one
    have HB7 := Lib.hid ((Below.refl wd.heap.size wd).alloc (Nat.le_refl _) (.cells (List.toArray [.int .i64 q.h.kd, .int .i64 q.h.fl, .int .i64 q.h.pa, .int .i64 q.h.sr, .int .i64 q.h.ds, .int .i64 q.h.cn, .int .i64 q.h.sq, .int .i64 q.h.pu, .slice q.A q.n q.c]) 65))
    have HE4 := Lib.hid (HSE.out.b4.below HB7.out)
    refine hK.out _ _ (St.ext HB7.out) ?_
    clear hK K
    try simp only [Act.put, List.setIfInBounds_toArray, List.set_cons_zero, List.set_cons_succ]
    refine wpAnyE_one (i := 3) (by kernel_rfl) (by simp only [List.getElem?_toArray, List.getElem?_cons_succ, List.getElem?_cons_zero]; rfl) (fun K hK => ?_)
    refine opwp_store_bk rowR rfl (.tmp 4) (.tmp 76) rfl (w.heap.size + 1) 0 rfl HE4.out (RV.cl ⟨A3, n3, c3, r.a2, r.n2, r.c2⟩ { ((({ m with run := 0 } : AM).put false m.low.tail).put false (m.low.tail ++ [q.pk])) with ct := up m.ct 0 (m.ct 0 + 1) }) rfl rfl (by decide) (RV.cl_one _ _) ?_
    intro w5 h45 hw5
    rw [lay_all _ _ (by rfl)] at h45
    have H45 := Lib.hid h45
    have HZ5 : Hid (St (· = w.heap.size + 1) (wd.alloc (.cells (List.toArray [.int .i64 q.h.kd, .int .i64 q.h.fl, .int .i64 q.h.pa, .int .i64 q.h.sr, .int .i64 q.h.ds, .int .i64 q.h.cn, .int .i64 q.h.sq, .int .i64 q.h.pu, .slice q.A q.n q.c]) 65)) w5) := Lib.hid ⟨hw5.os, hw5.tape, hw5.output, hw5.size, fun k hk hn => hw5.block k hk (by intro e; injection e with e; exact hn e)⟩
    have HFW := Lib.hid ((St.ext HB7.out).trans HZ5.out (Gr.refl _ _))
    have HRD := Lib.hid (hrd0.st HZ5.out (fun _ ad he => by injection he with he; subst he; have := HSE.out.b4.lt; show ¬ (wd.heap.size = w.heap.size + 1); omega))
    have HGB := Lib.hid (Nat.le_refl wd.heap.size)
    refine hK.out _ _ HZ5.out ?_
    clear hK K
    try simp only [Act.put, List.setIfInBounds_toArray, List.set_cons_zero, List.set_cons_succ]
    (refine takeE (St.tr (· = w.heap.size + 1)) 4 (by simp only [List.getElem?_toArray, List.getElem?_cons_succ, List.getElem?_cons_zero]; rfl) (by kernel_rfl) (by kernel_rfl) (by kernel_rfl) (by exact fun _ _ _ h => h) (by first | (refine Or.inl ⟨by rfl, ?_⟩; intro W hW; go_simp; try with_reducible rfl) | exact Or.inr ⟨by rfl, rfl⟩) ?_; try simp only [Act.put, List.setIfInBounds_toArray, List.set_cons_zero, List.set_cons_succ])
    (refine takeE (St.tr (· = w.heap.size + 1)) 5 (by simp only [List.getElem?_toArray, List.getElem?_cons_succ, List.getElem?_cons_zero]; rfl) (by kernel_rfl) (by kernel_rfl) (by kernel_rfl) (by exact fun _ _ _ h => h) (by first | (refine Or.inl ⟨by rfl, ?_⟩; intro W hW; go_simp; try with_reducible rfl) | exact Or.inr ⟨by rfl, rfl⟩) ?_; try simp only [Act.put, List.setIfInBounds_toArray, List.set_cons_zero, List.set_cons_succ])
    refine wpAnyE_done (by kernel_rfl) ?_ _
    go_wp2
    have HSF := HFW.out.mono (F' := By F w w1.heap.size) fun k _ hk => .inr (.inr (.inl hk))
    have hrp := HSE.out.rp.st HSF (Gr.refl _ _)
    have hpv := HSE.out.pv.st HSF (Gr.refl _ _)
    have HFIN : Hid (m.srv 4 false x l = { ((({ m with run := 0 } : AM).put false m.low.tail).put false (m.low.tail ++ [q.pk])) with ct := up m.ct 0 (m.ct 0 + 1) }) := Lib.hid (by have e : m.srv 4 false x l = { (m.took false l).put false (l ++ [x]) with ct := up m.ct 0 (m.ct 0 + 1) } := (by simp [AM.srv]); rw [e, HM.out, ← HTL.out.2, ← HK.out])
    refine bodyPost_ret (results_ctt rfl rfl (rowR.load H45.out 0 (cs := RV.cl ⟨A3, n3, c3, r.a2, r.n2, r.c2⟩ { ((({ m with run := 0 } : AM).put false m.low.tail).put false (m.low.tail ++ [q.pk])) with ct := up m.ct 0 (m.ct 0 + 1) }) rfl rfl)) rfl ?_
    rw [HFIN.out]
    first
      | (refine ⟨⟨A3, n3, c3, r.a2, r.n2, r.c2⟩, some ⟨wd.heap.size, 0, none⟩, 1, 1, by kernel_rfl, (show RpR F _ _ _ from ⟨hrp.lo.mono fun k hk => .inl hk, hrp.hi.mono fun k hk => .inl hk⟩), ⟨[q], rfl, by rw [flat_one]; exact HRD.out, by show [q.pk] = _; rw [HK.out], fun y hy => by rw [List.mem_singleton.1 hy]; exact hpv.mono fun k hk => .inl hk, fun _ ad he hf => by injection he with he; subst he; have h1 := HF.out _ hf; have h2 := HSE.out.bl.size; have h3 := HGB.out; dsimp only at h1; omega⟩, HSE.out.bl.trans (HFW.out.below HSE.out.bl.size (fun k hk => by omega))⟩)
      | (refine ⟨⟨A3, n3, c3, r.a2, r.n2, r.c2⟩, some ⟨w5.heap.size, 0, none⟩, 1, 1, by kernel_rfl, (show RpR F _ _ _ from ⟨hrp.lo.mono fun k hk => .inl hk, hrp.hi.mono fun k hk => .inl hk⟩), ⟨[q], rfl, by rw [flat_one]; exact HRD.out, by show [q.pk] = _; rw [HK.out], fun y hy => by rw [List.mem_singleton.1 hy]; exact hpv.mono fun k hk => .inl hk, fun _ ad he hf => by injection he with he; subst he; have h1 := HF.out _ hf; have h2 := HSE.out.bl.size; have h3 := HGB.out; dsimp only at h1; omega⟩, HSE.out.bl.trans (HFW.out.below HSE.out.bl.size (fun k hk => by omega))⟩)
  ·
    refine opwp_store_bk rowR rfl (.tmp 4) (.tmp 76) rfl (w.heap.size + 1) 0 rfl HSE4.out (RV.cl ⟨A3, n3, c3, r.a2, r.n2, r.c2⟩ { ((({ m with run := 0 } : AM).put false m.low.tail).put false (m.low.tail ++ [q.pk])) with ct := up m.ct 0 (m.ct 0 + 1) }) rfl rfl (by decide) (RV.cl_one _ _) ?_
    intro w5 h45 hw5
    rw [lay_all _ _ (by rfl)] at h45
    have H45a := Lib.hid h45
    have HZ5 : Hid (St (· = w.heap.size + 1) wd w5) := Lib.hid ⟨hw5.os, hw5.tape, hw5.output, hw5.size, fun k hk hn => hw5.block k hk (by intro e; injection e with e; exact hn e)⟩
    refine hK.out _ _ HZ5.out ?_
    clear hK K
    try simp only [Act.put, List.setIfInBounds_toArray, List.set_cons_zero, List.set_cons_succ]
    refine wpAnyE_one (i := 2) (by kernel_rfl) (by simp only [List.getElem?_toArray, List.getElem?_cons_succ, List.getElem?_cons_zero]; rfl) (fun K hK => ?_)
    go_simp
    have HRD := Lib.hid (RdR.one w5 65 q.cl q.cl_one)
    have HB7 := Lib.hid ((Below.refl w5.heap.size w5).alloc (Nat.le_refl _) (.cells (List.toArray [.int .i64 q.h.kd, .int .i64 q.h.fl, .int .i64 q.h.pa, .int .i64 q.h.sr, .int .i64 q.h.ds, .int .i64 q.h.cn, .int .i64 q.h.sq, .int .i64 q.h.pu, .slice q.A q.n q.c]) 65))
    have H45 := Lib.hid (H45a.out.below HB7.out)
    have HFW := Lib.hid (HZ5.out.trans (St.ext HB7.out) (Gr.refl _ _))
    have HGB := Lib.hid HZ5.out.size
    refine hK.out _ _ (St.ext HB7.out) ?_
    clear hK K
    try simp only [Act.put, List.setIfInBounds_toArray, List.set_cons_zero, List.set_cons_succ]
    (refine takeE (St.tr (· = w.heap.size + 1)) 4 (by simp only [List.getElem?_toArray, List.getElem?_cons_succ, List.getElem?_cons_zero]; rfl) (by kernel_rfl) (by kernel_rfl) (by kernel_rfl) (by exact fun _ _ _ h => h) (by first | (refine Or.inl ⟨by rfl, ?_⟩; intro W hW; go_simp; try with_reducible rfl) | exact Or.inr ⟨by rfl, rfl⟩) ?_; try simp only [Act.put, List.setIfInBounds_toArray, List.set_cons_zero, List.set_cons_succ])
    (refine takeE (St.tr (· = w.heap.size + 1)) 5 (by simp only [List.getElem?_toArray, List.getElem?_cons_succ, List.getElem?_cons_zero]; rfl) (by kernel_rfl) (by kernel_rfl) (by kernel_rfl) (by exact fun _ _ _ h => h) (by first | (refine Or.inl ⟨by rfl, ?_⟩; intro W hW; go_simp; try with_reducible rfl) | exact Or.inr ⟨by rfl, rfl⟩) ?_; try simp only [Act.put, List.setIfInBounds_toArray, List.set_cons_zero, List.set_cons_succ])
    refine wpAnyE_done (by kernel_rfl) ?_ _
    go_wp2
    have HSF := HFW.out.mono (F' := By F w w1.heap.size) fun k _ hk => .inr (.inr (.inl hk))
    have hrp := HSE.out.rp.st HSF (Gr.refl _ _)
    have hpv := HSE.out.pv.st HSF (Gr.refl _ _)
    have HFIN : Hid (m.srv 4 false x l = { ((({ m with run := 0 } : AM).put false m.low.tail).put false (m.low.tail ++ [q.pk])) with ct := up m.ct 0 (m.ct 0 + 1) }) := Lib.hid (by have e : m.srv 4 false x l = { (m.took false l).put false (l ++ [x]) with ct := up m.ct 0 (m.ct 0 + 1) } := (by simp [AM.srv]); rw [e, HM.out, ← HTL.out.2, ← HK.out])
    refine bodyPost_ret (results_ctt rfl rfl (rowR.load H45.out 0 (cs := RV.cl ⟨A3, n3, c3, r.a2, r.n2, r.c2⟩ { ((({ m with run := 0 } : AM).put false m.low.tail).put false (m.low.tail ++ [q.pk])) with ct := up m.ct 0 (m.ct 0 + 1) }) rfl rfl)) rfl ?_
    rw [HFIN.out]
    first
      | (refine ⟨⟨A3, n3, c3, r.a2, r.n2, r.c2⟩, some ⟨wd.heap.size, 0, none⟩, 1, 1, by kernel_rfl, (show RpR F _ _ _ from ⟨hrp.lo.mono fun k hk => .inl hk, hrp.hi.mono fun k hk => .inl hk⟩), ⟨[q], rfl, by rw [flat_one]; exact HRD.out, by show [q.pk] = _; rw [HK.out], fun y hy => by rw [List.mem_singleton.1 hy]; exact hpv.mono fun k hk => .inl hk, fun _ ad he hf => by injection he with he; subst he; have h1 := HF.out _ hf; have h2 := HSE.out.bl.size; have h3 := HGB.out; dsimp only at h1; omega⟩, HSE.out.bl.trans (HFW.out.below HSE.out.bl.size (fun k hk => by omega))⟩)
      | (refine ⟨⟨A3, n3, c3, r.a2, r.n2, r.c2⟩, some ⟨w5.heap.size, 0, none⟩, 1, 1, by kernel_rfl, (show RpR F _ _ _ from ⟨hrp.lo.mono fun k hk => .inl hk, hrp.hi.mono fun k hk => .inl hk⟩), ⟨[q], rfl, by rw [flat_one]; exact HRD.out, by show [q.pk] = _; rw [HK.out], fun y hy => by rw [List.mem_singleton.1 hy]; exact hpv.mono fun k hk => .inl hk, fun _ ad he hf => by injection he with he; subst he; have h1 := HF.out _ hf; have h2 := HSE.out.bl.size; have h3 := HGB.out; dsimp only at h1; omega⟩, HSE.out.bl.trans (HFW.out.below HSE.out.bl.size (fun k hk => by omega))⟩)
theorem r_serve (h : RpR F w r m) (hF : ∀ k, F k → k < w.heap.size) (hl : m.low.length ≤ 1024) (hh : m.high.length ≤ 1024) (hct : ∀ k, -1 ≤ m.ct k ∧ m.ct k ≤ 1000000) (hru : m.run ≤ 1024) (f : Int) (hf1 : 1 ≤ f) (hf2 : f ≤ 4) (x : Pk) (l : List Pk) (hx : m.sel m.hiB = x :: l) :
    Calls Try.prog 33 #[.agg #[.slice r.a1 r.n1 r.c1, .slice r.a2 r.n2 r.c2, .int .i64 m.lr, .int .i64 m.hr, .int .i64 m.wt, .int .i64 m.run, .int .i64 (m.ct 0), .int .i64 (m.ct 1), .int .i64 (m.ct 2), .int .i64 (m.ct 3), .int .i64 (m.ct 4)], .int .i64 f] w (RServeTo F w (m.srv f m.hiB x l) (if f = 1 ∨ f = 4 then [x] else []) 0) := by
  rcases Bool.eq_false_or_eq_true m.hiB with hi | hi
  · by_cases hlp : 0 < m.low.length
    · rcases (by omega : f = 1 ∨ f = 2 ∨ f = 3 ∨ f = 4) with rfl | rfl | rfl | rfl
      · have := r_serve_hp1 h hF hl hh hct hru hi hlp x l hx; rw [hi]; exact this
      · have := r_serve_hp2 h hF hl hh hct hru hi hlp x l hx; rw [hi]; exact this
      · have := r_serve_hp3 h hF hl hh hct hru hi hlp x l hx; rw [hi]; exact this
      · have := r_serve_hp4 h hF hl hh hct hru hi hlp x l hx; rw [hi]; exact this
    · have hlz : m.low.length = 0 := by omega
      rcases (by omega : f = 1 ∨ f = 2 ∨ f = 3 ∨ f = 4) with rfl | rfl | rfl | rfl
      · have := r_serve_h1 h hF hl hh hct hru hi hlz x l hx; rw [hi]; exact this
      · have := r_serve_h2 h hF hl hh hct hru hi hlz x l hx; rw [hi]; exact this
      · have := r_serve_h3 h hF hl hh hct hru hi hlz x l hx; rw [hi]; exact this
      · have := r_serve_h4 h hF hl hh hct hru hi hlz x l hx; rw [hi]; exact this
  · rcases (by omega : f = 1 ∨ f = 2 ∨ f = 3 ∨ f = 4) with rfl | rfl | rfl | rfl
    · have := r_serve_l1 h hF hl hh hct hru hi x l hx; rw [hi]; exact this
    · have := r_serve_l2 h hF hl hh hct hru hi x l hx; rw [hi]; exact this
    · have := r_serve_l3 h hF hl hh hct hru hi x l hx; rw [hi]; exact this
    · have := r_serve_l4 h hF hl hh hct hru hi x l hx; rw [hi]; exact this
end
end Go.Proofs.Ytboclbanccfbjaa
namespace Go.Proofs.Ytboclbanccfbjaa
set_option linter.unusedSimpArgs false
set_option linter.unusedVariables false
set_option maxRecDepth 100000
open Go.RowKit Go.Shelf
theorem rowG : Row Try.prog 30 8 := ⟨⟨_, rfl, rfl⟩, by kernel_rfl⟩
theorem one8 (hs ps x0 x1 x2 x3 x4 : Int) (A : Option Addr) (n c : Nat) : ∀ v ∈ ([.int .i64 hs, .int .i64 ps, .slice A n c, .int .i64 x0, .int .i64 x1, .int .i64 x2, .int .i64 x3, .int .i64 x4] : List Value), v.oneCell' = true := by
  intro v hv
  simp only [List.mem_cons, List.not_mem_nil, or_false] at hv
  rcases hv with rfl | rfl | rfl | rfl | rfl | rfl | rfl | rfl <;> rfl
def zsR : List Value := [.slice none 0 0, .slice none 0 0, .int .i64 0, .int .i64 0, .int .i64 0, .int .i64 0, .int .i64 0, .int .i64 0, .int .i64 0, .int .i64 0, .int .i64 0]
theorem eltR : EltS Try.prog 27 76 zsR 120 := ⟨rfl, by kernel_rfl, by intro v hv; simp only [zsR, List.mem_cons, List.not_mem_nil, or_false] at hv; rcases hv with rfl | rfl | rfl | rfl | rfl | rfl | rfl | rfl | rfl | rfl | rfl <;> rfl, by decide, by decide, ⟨_, rfl, by decide⟩, by decide⟩
/-- A port by value among others. -/
def rcl (r : RV × AM) : List Value := r.1.cl r.2
theorem rcl_len (r : RV × AM) : (rcl r).length = 11 := rfl
theorem rcl_one (r : RV × AM) : ∀ v ∈ rcl r, v.oneCell' = true := r.1.cl_one r.2
/-- A fabric by value: its row of ports. -/
structure GV where
  A : Option Addr
  n : Nat
  c : Nat
/-- Which ports there are. -/
structure GD (m : FM) (hs ps : Nat) : Prop where
  h1 : 2 ≤ hs
  h8 : hs ≤ 8
  p1 : 1 ≤ ps
  p8 : ps ≤ 8
  iff : ∀ k, (m.pt k).isSome = true ↔ k / 8 < ps ∧ k % 8 < hs
structure GpC (F : Nat → Prop) (w : World) (hs ps : Nat) (g : GV) (m : FM) (rs : List (RV × AM)) : Prop where
  ln : g.n = rs.length
  dim : rs.length = hs * ps
  rd : RdR 11 w g.A g.n g.c (flat rcl rs)
  pt : ∀ i (h : i < rs.length), m.pt (i / hs * 8 + i % hs) = some rs[i].2
  rp : ∀ r ∈ rs, RpR F w r.1 r.2
  off : 0 < g.n → ∀ ad, g.A = some ad → ¬ F ad.block
  gd : GD m hs ps
def GpR (F : Nat → Prop) (w : World) (hs ps : Nat) (g : GV) (m : FM) : Prop := ∃ rs, GpC F w hs ps g m rs
section
variable {F F' X : Nat → Prop} {w w' w1 : World} {hs ps : Nat} {g : GV} {m : FM} {rs : List (RV × AM)} {a : AM}
theorem GpC.st (h : GpC F w hs ps g m rs) (hst : St F w w') (hg : Gr F F' w.heap.size) : GpC F' w' hs ps g m rs :=
  ⟨h.ln, h.dim, h.rd.st hst h.off, h.pt, fun r hr => (h.rp r hr).st hst hg, fun hn ad he => hg.not (h.rd.blk hn ad he) (h.off hn ad he), h.gd⟩
theorem GpC.below (h : GpC F w hs ps g m rs) (hb : Below w.heap.size w w') : GpC F w' hs ps g m rs := h.st (St.ext hb) (Gr.refl _ _)
theorem GpR.st (h : GpR F w hs ps g m) (hst : St F w w') (hg : Gr F F' w.heap.size) : GpR F' w' hs ps g m := by obtain ⟨rs, h⟩ := h; exact ⟨rs, h.st hst hg⟩
theorem GpR.below (h : GpR F w hs ps g m) (hb : Below w.heap.size w w') : GpR F w' hs ps g m := by obtain ⟨rs, h⟩ := h; exact ⟨rs, h.below hb⟩
theorem GpR.gd (h : GpR F w hs ps g m) : GD m hs ps := by obtain ⟨rs, h⟩ := h; exact h.gd
theorem GpR.sc (h : GpR F w hs ps g m) (i : Nat) (x : Int) : GpR F w hs ps g (m.sc i x) := by
  obtain ⟨rs, h⟩ := h
  exact ⟨rs, h.ln, h.dim, h.rd, h.pt, h.rp, h.off, h.gd.h1, h.gd.h8, h.gd.p1, h.gd.p8, h.gd.iff⟩
/-- Where the port of a path to a host stands. -/
def gix (hs : Nat) (p q : Int) : Nat := p.toNat * hs + q.toNat
theorem GD.port (h : GD m hs ps) (p q : Int) : (m.port p q).isSome = true ↔ 0 ≤ p ∧ p < ps ∧ 0 ≤ q ∧ q < hs := by
  have h1 := h.h8
  have h2 := h.p8
  unfold FM.port
  by_cases hi : inB p q = true
  · rw [if_pos hi, h.iff]
    simp only [inB, decide_eq_true_eq] at hi
    unfold ix
    omega
  · rw [if_neg hi]
    simp only [inB, decide_eq_true_eq] at hi
    simp
    omega
theorem gix_lt (hb : 0 ≤ (0 : Int)) {p q : Int} (h : 0 ≤ p ∧ p < ps ∧ 0 ≤ q ∧ q < hs) : gix hs p q < hs * ps := by
  unfold gix
  have h1 : p.toNat + 1 ≤ ps := by omega
  have h2 : (p.toNat + 1) * hs ≤ ps * hs := Nat.mul_le_mul_right _ h1
  rw [Nat.add_mul, Nat.one_mul, Nat.mul_comm ps hs] at h2
  omega
theorem gix_at {p q : Int} (h : 0 ≤ p ∧ p < ps ∧ 0 ≤ q ∧ q < hs) : gix hs p q / hs = p.toNat ∧ gix hs p q % hs = q.toNat := by
  unfold gix
  have h1 : q.toNat < hs := by omega
  constructor
  · rw [Nat.mul_comm, Nat.mul_add_div (by omega), Nat.div_eq_of_lt h1, Nat.add_zero]
  · rw [Nat.mul_comm, Nat.mul_add_mod, Nat.mod_eq_of_lt h1]
/-- The port of a path to a host, in the row. -/
theorem GpC.row (h : GpC F w hs ps g m rs) {p q : Int} (hp : m.port p q = some a) : ∃ hi : gix hs p q < rs.length, rs[gix hs p q].2 = a ∧ (0 ≤ p ∧ p < ps ∧ 0 ≤ q ∧ q < hs) := by
  have h1 := (h.gd.port p q).1 (by rw [hp]; rfl)
  have hi : gix hs p q < rs.length := by rw [h.dim]; exact gix_lt (Int.le_refl _) h1
  refine ⟨hi, ?_, h1⟩
  have h2 := h.pt _ hi
  rw [(gix_at h1).1, (gix_at h1).2] at h2
  have h3 := FM.port_pt hp
  unfold ix at h3
  rw [h3] at h2
  injection h2 with h2
  exact h2.symm
theorem g_Port (h : GD m hs ps) (p q : Int) :
    Calls Try.prog 32 #[.agg #[.int .i64 hs, .int .i64 ps, .slice g.A g.n g.c, .int .i64 (m.ct 0), .int .i64 (m.ct 1), .int .i64 (m.ct 2), .int .i64 (m.ct 3), .int .i64 (m.ct 4)], .int .i64 p, .int .i64 q] w fun e w' => e = .returned (.tuple #[.int .i64 (if (m.port p q).isSome = true then gix hs p q else 0 : Nat), .bool (m.port p q).isSome]) ∧ Below w.heap.size w w' := by
  have hiff := h.port p q
  have h8 := h.h8
  have p8 := h.p8
  cases hp : (m.port p q).isSome with
  | true =>
    have hr := hiff.1 hp
    have hg := gix_lt (Int.le_refl _) hr
    rw [if_pos rfl]
    obtain ⟨i, rfl⟩ := Int.eq_ofNat_of_zero_le hr.1
    obtain ⟨j, rfl⟩ := Int.eq_ofNat_of_zero_le hr.2.2.1
    have e : gix hs i j = i * hs + j := rfl
    have hm : i * hs ≤ 7 * 8 := Nat.mul_le_mul (by omega) h8
    have e2 : (i : Int) * hs = ((i * hs : Nat) : Int) := by rw [Int.natCast_mul]
    have h1 : (i : Int) < ps := hr.2.1
    have h2 : (j : Int) < hs := hr.2.2.2
    rw [e]
    clear hr hg hiff hp h e
    generalize i * hs = ih at *
    have hw1 : IntKind.i64.wrap (ih : Int) = ih := by rw [IntKind.wrap_i64]; omega
    have hw2 : IntKind.i64.wrap ((ih : Int) + j) = ih + j := by rw [IntKind.wrap_i64]; omega
    go_enter Try.func32, Try.ntmps32
    go_wp2
    go_ret2
    exact ⟨by go_num, (Below.refl _ _).alloc (Nat.le_refl _) _⟩
  | false =>
    have hn : ¬ (0 ≤ p ∧ p < ps ∧ 0 ≤ q ∧ q < hs) := fun hh => by rw [hiff.2 hh] at hp; cases hp
    rw [if_neg (by decide)]
    rcases (by omega : p < 0 ∨ 0 ≤ p ∧ (ps : Int) ≤ p ∨ 0 ≤ p ∧ p < ps ∧ q < 0 ∨ 0 ≤ p ∧ p < ps ∧ 0 ≤ q ∧ (hs : Int) ≤ q) with h0 | ⟨h0, h1⟩ | ⟨h0, h1, h2⟩ | ⟨h0, h1, h2, h3⟩
    all_goals
      clear hn hiff hp h
      go_enter Try.func32, Try.ntmps32
      go_wp2
      go_ret2
      exact ⟨rfl, (Below.refl _ _).alloc (Nat.le_refl _) _⟩
end
end Go.Proofs.Ytboclbanccfbjaa
namespace Go.Proofs.Ytboclbanccfbjaa
set_option linter.unusedSimpArgs false
set_option linter.unusedVariables false
set_option maxRecDepth 100000
open Go.RowKit Go.Shelf
def z5 : FM := FM.nobody
theorem new_gd (hs ps : Nat) (a : AM) (h1 : 2 ≤ hs) (h2 : hs ≤ 8) (h3 : 1 ≤ ps) (h4 : ps ≤ 8) : GD (FM.new hs ps a) hs ps := ⟨h1, h2, h3, h4, fun k => by
  unfold FM.new FM.newN
  dsimp only
  by_cases hk : k / 8 < ps ∧ k % 8 < hs ∨ k / 8 = ps ∧ k % 8 < 0
  · rw [if_pos hk]; simp; omega
  · rw [if_neg hk]; simp; omega⟩
theorem new_at (hs ps i : Nat) (a : AM) (h1 : 2 ≤ hs) (h2 : hs ≤ 8) (hi : i < hs * ps) : (FM.new hs ps a).pt (i / hs * 8 + i % hs) = some a := by
  have h3 : i % hs < hs := Nat.mod_lt _ (by omega)
  have h4 : i / hs < ps := Nat.div_lt_of_lt_mul hi
  unfold FM.new FM.newN
  dsimp only
  rw [if_pos (by omega)]
def rv0 : RV := ⟨none, 0, 0, none, 0, 0⟩
/-- Within New. -/
structure GnI (w : World) (b : Nat) (hs ps : Nat) (a : AM) (i : Nat) (wr : World) : Prop where
  bz : Bk wr 30 w.heap.size [.int .i64 0, .int .i64 0, .slice none 0 0, .int .i64 0, .int .i64 0, .int .i64 0, .int .i64 0, .int .i64 0]
  bp : Bk wr 76 b (rcl (rv0, a))
  bf : ∃ A c, Bk wr 30 (b + 1) [.int .i64 hs, .int .i64 ps, .slice A i c, .int .i64 0, .int .i64 0, .int .i64 0, .int .i64 0, .int .i64 0] ∧ LstR 11 76 (b + 2 ≤ ·) wr A i c (flat rcl (List.replicate i (rv0, a)))
  bl : Below w.heap.size w wr
  sz : b + 2 ≤ wr.heap.size
  wb : w.heap.size < b
set_option maxHeartbeats 8000000 in
theorem g_new (hs ps low high wt : Nat) (w : World) (h1 : 2 ≤ hs) (h2 : hs ≤ 8) (h3 : 1 ≤ ps) (h4 : ps ≤ 8) (hl : fitB low = true) (hh : fitB high = true) (hw : fitB wt = true) :
    Calls Try.prog 7 #[.int .i64 hs, .int .i64 ps, .int .i64 low, .int .i64 high, .int .i64 wt] w fun e w' => ∃ g, e = .returned (.tuple #[.agg #[.int .i64 hs, .int .i64 ps, .slice g.A g.n g.c, .int .i64 (FM.nobody.ct 0), .int .i64 (FM.nobody.ct 1), .int .i64 (FM.nobody.ct 2), .int .i64 (FM.nobody.ct 3), .int .i64 (FM.nobody.ct 4)], .int .i64 0]) ∧ (∀ F : Nat → Prop, (∀ k, F k → k < w.heap.size) → GpR F w' hs ps g (FM.new hs ps (AM.new low high wt))) ∧ Below w.heap.size w w' := by
  have HNw := Lib.hid (fun (W : World) => r_new low high wt W hl hh hw)
  have hN : hs * ps ≤ 8 * 8 := Nat.mul_le_mul h2 h4
  have e2 : (hs : Int) * ps = ((hs * ps : Nat) : Int) := by rw [Int.natCast_mul]
  have HAt := Lib.hid (fun i (hi : i < hs * ps) => new_at hs ps i (AM.new low high wt) h1 h2 hi)
  have HGd := Lib.hid (new_gd hs ps (AM.new low high wt) h1 h2 h3 h4)
  generalize hNN : hs * ps = N at *
  have HNN := Lib.hid hNN
  clear hNN
  have hwN : IntKind.i64.wrap (N : Int) = N := by rw [IntKind.wrap_i64]; omega
  have hz := Bk.new w 30 [.int .i64 0, .int .i64 0, .slice none 0 0, .int .i64 0, .int .i64 0, .int .i64 0, .int .i64 0, .int .i64 0]
  have hb0 := (Below.refl w.heap.size w).alloc (Nat.le_refl _) (.cells (List.toArray [.int .i64 0, .int .i64 0, .slice none 0 0, .int .i64 0, .int .i64 0, .int .i64 0, .int .i64 0, .int .i64 0]) 30)
  have HZ := Lib.hid hz
  have HB0 := Lib.hid hb0
  clear hz hb0 hl hh hw
  go_enter Try.func7, Try.ntmps7
  go_wp2_with fail
  refine (HNw.out _).mono ?_
  rintro e w1 ⟨rfl, hb1⟩
  have HZ1 := Lib.hid (HZ.out.below hb1)
  have HB1 := Lib.hid (below_on HB0.out hb1)
  clear hb1 HZ HB0 HNw
  have HI0 : Hid (GnI w w1.heap.size hs ps (AM.new low high wt) 0 ((w1.alloc (.cells (List.toArray (rcl (rv0, AM.new low high wt))) 76)).alloc (.cells (List.toArray [.int .i64 hs, .int .i64 ps, .slice none 0 0, .int .i64 0, .int .i64 0, .int .i64 0, .int .i64 0, .int .i64 0]) 30))) := Lib.hid (by
    have hlt := HZ1.out.lt
    refine ⟨(HZ1.out.alloc _).alloc _, (Bk.new w1 76 (rcl (rv0, AM.new low high wt))).alloc _, ⟨none, 0, ?_, LstR.nil _ _ _ _⟩, (HB1.out.alloc HB1.out.size _).alloc (by have := HB1.out.size; simp; omega) _, by simp, hlt⟩
    have := Bk.new (w1.alloc (.cells (List.toArray (rcl (rv0, AM.new low high wt))) 76)) 30 [.int .i64 hs, .int .i64 ps, .slice none 0 0, .int .i64 0, .int .i64 0, .int .i64 0, .int .i64 0, .int .i64 0]
    rw [World.size_alloc] at this
    exact this)
  clear HZ1 HB1
  go_wp2
  go_loopw [15] (fun v wr => ∃ i : Nat, v = .int .i64 i ∧ i ≤ N ∧ GnI w w1.heap.size hs ps (AM.new low high wt) i wr) (fun v _ => N - (intOf v).toNat)
  case atStart => exact ⟨0, rfl, Nat.zero_le _, HI0.out⟩
  case round =>
    clear HI0
    obtain ⟨i, rfl, hi, hI⟩ := hrel
    by_cases hlt : i < N
    · have hlt' : (i : Int) < N := by omega
      obtain ⟨bz, bp, ⟨A, c, bf, hl⟩, bl, sz, wb⟩ := hI
      have c2 := bf.cell 2 rfl
      have hla := (hl.alloc (.cells (List.toArray (rcl (rv0, AM.new low high wt))) 76)).tight
      have hu := RdR.one wr 76 (rcl (rv0, AM.new low high wt)) (rcl_one _)
      have hk : (i + 1) * 120 ≤ 140737488355328 := by omega
      have hnb : ¬ BlkOf A (w1.heap.size + 1) := by rintro ⟨ad, he, hk⟩; have := (hl.blk ad he).1; omega
      have bfa := bf.alloc (.cells (List.toArray (rcl (rv0, AM.new low high wt))) 76)
      have HI := Lib.hid (And.intro bz (And.intro bf (And.intro hl (And.intro bl (And.intro sz wb)))))
      have BP := Lib.hid bp
      clear bz bp bf hl bl sz wb
      go_wp2_with (first
        | (with_reducible refine at_load 76 (.tmp 12) (by rfl) ?_; refine wpList_load_bk rowR rfl (.tmp 12) rfl w1.heap.size 0 rfl BP.out (rcl (rv0, AM.new low high wt)) rfl rfl ?_)
        | (refine wpList_build_row eltR rfl (.tmp 54) rfl (xs := rcl (rv0, AM.new low high wt)) rfl rfl ?_)
        | (at_builtin
           refine wpList_append_lstR eltR rfl (.tmp 53) (.tmp 55) rfl rfl hla rfl hu hk ?_
           rintro v2 w2 ⟨⟨A2, n2, c2', rfl, hl2⟩, hst2⟩
           have bf2 := bfa.st hst2 hnb
           have d2 := bf2.cell 2 rfl
           have f2 := bf2.free 2
           have HL2 := Lib.hid hl2
           have HS2 := Lib.hid hst2
           have BF2 := Lib.hid (bf2.set 2 (.slice A2 n2 c2'))
           clear hl2 hst2 bf2))
      obtain ⟨bz, bf, hl, bl, sz, wb⟩ := HI.out
      have hn2 : n2 = i + 1 := by
        have h1 : (flat rcl (List.replicate i (rv0, AM.new low high wt)) ++ rcl (rv0, AM.new low high wt)).length = n2 * 11 := HL2.out.1
        rw [List.length_append, flat_len rcl_len, List.length_replicate, rcl_len] at h1
        omega
      have hG : GnI w w1.heap.size hs ps (AM.new low high wt) (i + 1) (w2.setCell ⟨w1.heap.size + 1, 2, none⟩ (.slice A2 n2 c2')) := by
        have hF : ∀ k, BlkOf A k → w1.heap.size + 2 ≤ k := by rintro k ⟨ad, he, rfl⟩; exact (hl.blk ad he).1
        have hba := (Below.refl wr.heap.size wr).alloc (Nat.le_refl _) (.cells (List.toArray (rcl (rv0, AM.new low high wt))) 76)
        have hs2 : St (BlkOf A) wr w2 := (St.ext hba).trans HS2.out (Gr.refl _ _)
        have e : flat rcl (List.replicate i (rv0, AM.new low high wt)) ++ rcl (rv0, AM.new low high wt) = flat rcl (List.replicate (i + 1) (rv0, AM.new low high wt)) := by
          rw [List.replicate_succ', flat_app]; simp [flat]
        have hl3 := HL2.out
        rw [e] at hl3
        have hl4 : LstR 11 76 (w1.heap.size + 2 ≤ ·) w2 A2 n2 c2' (flat rcl (List.replicate (i + 1) (rv0, AM.new low high wt))) := hl3.mono fun k hk => by
          rcases hk with hk | hk
          · exact hF k hk
          · have := hba.size; omega
        subst hn2
        refine ⟨(bz.st hs2 fun hk => by have := hF _ hk; omega).far (by simp; omega) _, (BP.out.st hs2 fun hk => by have := hF _ hk; omega).far (by simp) _, ⟨A2, c2', BF2.out, hl4.far (fun ad he hne => by have := (hl4.blk ad he).1; simp at hne; omega) _⟩, ?_, ?_, wb⟩
        · exact ((bl.trans (hba.mono bl.size)).trans (HS2.out.below (Nat.le_trans bl.size hba.size) fun k hk => by have := hF k hk; omega)).setCell (by simp; omega) _
        · have := hs2.size; simp [World.setCell]; omega
      have HG := Lib.hid hG
      clear hG bz bf hl bl sz wb hla hu bfa c2 d2 f2 HL2 HS2 BF2
      go_wp2
      go_roundw
      case rel => exact ⟨i + 1, by go_num, by omega, HG.out⟩
      case measure => simp [intOf]; omega
    · obtain rfl : i = N := by omega
      obtain ⟨bz, bp, ⟨A, c, bf, hl⟩, bl, sz, wb⟩ := hI
      have HI := Lib.hid (And.intro bf (And.intro hl (And.intro bl (And.intro sz wb))))
      clear bp hl bl sz
      go_wp2_with (first
        | (with_reducible refine at_load 30 (.tmp 14) (by rfl) ?_; refine wpList_load_bk rowG rfl (.tmp 14) rfl (w1.heap.size + 1) 0 rfl bf [.int .i64 hs, .int .i64 ps, .slice A i c, .int .i64 0, .int .i64 0, .int .i64 0, .int .i64 0, .int .i64 0] rfl rfl ?_)
        | (with_reducible refine at_store 30 (.tmp 10) (.tmp 58) (by rfl) ?_; refine wpList_store_bk rowG rfl (.tmp 10) (.tmp 58) rfl w.heap.size 0 rfl bz [.int .i64 hs, .int .i64 ps, .slice A i c, .int .i64 0, .int .i64 0, .int .i64 0, .int .i64 0, .int .i64 0] rfl rfl (by decide) (one8 _ _ _ _ _ _ _ _ _ _) ?_; rintro w9 hz9 hw9))
      rw [lay_all _ _ (by rfl)] at hz9
      refine bodyPost_ret (results_cell_tmp rfl rfl (rowG.load hz9 0 rfl rfl)) rfl ⟨⟨A, i, c⟩, rfl, fun F hF => ?_, ?_⟩
      · obtain ⟨bf, hl, bl, sz, wb⟩ := HI.out
        have hs9 : St (· = w.heap.size) wr w9 := wr_st hw9 rfl
        refine ⟨List.replicate i (rv0, AM.new low high wt), by simp, by simp; exact HNN.out.symm, ?_, ?_, ?_, ?_, HGd.out⟩
        · exact hl.rd.st hs9 fun hn ad he e => by have := (hl.blk ad he).1; omega
        · intro j hj
          simp at hj ⊢
          exact HAt.out j hj
        · intro r hr
          obtain ⟨_, rfl⟩ := List.mem_replicate.1 hr
          exact ⟨SlP.nil _ _, SlP.nil _ _⟩
        · intro hn ad he hf
          have := (hl.blk ad he).1
          have := hF _ hf
          omega
      · exact HI.out.2.2.1.trans (hw9.below (Nat.le_refl _) HI.out.2.2.1.size)
end Go.Proofs.Ytboclbanccfbjaa
namespace Go.Proofs.Ytboclbanccfbjaa
set_option linter.unusedSimpArgs false
set_option linter.unusedVariables false
set_option maxRecDepth 100000
open Go.RowKit Go.Shelf
def ixR (hs i : Nat) : Nat := i / hs * 8 + i % hs
theorem ixR_list : ∀ (hs ps : Fin 9), 2 ≤ hs.val → 1 ≤ ps.val → (List.range (hs.val * ps.val)).map (ixR hs.val) = (List.range 64).filter fun k => decide (k / 8 < ps.val ∧ k % 8 < hs.val) := by decide +kernel
theorem ixR_all {hs ps : Nat} (h1 : 2 ≤ hs) (h2 : hs ≤ 8) (h3 : 1 ≤ ps) (h4 : ps ≤ 8) : (List.range (hs * ps)).map (ixR hs) = (List.range 64).filter fun k => decide (k / 8 < ps ∧ k % 8 < hs) := ixR_list ⟨hs, by omega⟩ ⟨ps, by omega⟩ h1 h3
theorem ixR_at {hs i : Nat} (h1 : 0 < hs) (h2 : hs ≤ 8) : ixR hs i / 8 = i / hs ∧ ixR hs i % 8 = i % hs := by
  unfold ixR
  have := Nat.mod_lt i h1
  omega
/-- How many packets the i-th port of the row has. -/
def cntR (m : FM) (hs i : Nat) : Nat := cntO (m.pt (ixR hs i))
def totR (m : FM) (hs k : Nat) : Nat := sumN (cntR m hs) k
def busR (m : FM) (hs k : Nat) : List (Nat × Nat) := ((List.range k).filter fun i => decide (0 < cntR m hs i)).map fun i => (i / hs, i % hs)
theorem busR_succ (m : FM) (hs k : Nat) : busR m hs (k + 1) = if 0 < cntR m hs k then busR m hs k ++ [(k / hs, k % hs)] else busR m hs k := by
  unfold busR
  rw [List.range_succ, List.filter_append, List.map_append]
  split
  · rename_i h; simp [h]
  · rename_i h; simp [h]
theorem busR_len (m : FM) (hs k : Nat) : (busR m hs k).length ≤ k := by
  unfold busR
  rw [List.length_map]
  exact Nat.le_trans (List.length_filter_le _ _) (by simp)
theorem sumN_map (f : Nat → Nat) : ∀ k, ((List.range k).map f).sum = sumN f k
  | 0 => rfl
  | k + 1 => by
    rw [List.range_succ, List.map_append, List.sum_append, sumN_map f k]
    simp [sumN]
theorem sum_filter0 (f : Nat → Nat) (p : Nat → Bool) : ∀ (l : List Nat), (∀ x ∈ l, p x = false → f x = 0) → ((l.filter p).map f).sum = (l.map f).sum
  | [], _ => rfl
  | x :: t, h => by
    have ih := sum_filter0 f p t (fun y hy => h y (by simp [hy]))
    cases hp : p x with
    | true => rw [List.filter_cons_of_pos hp]; simp [ih]
    | false => rw [List.filter_cons_of_neg (by simp [hp])]; simp [ih, h x (by simp) hp]
section
variable {m : FM} {hs ps : Nat}
theorem GD.out (h : GD m hs ps) {k : Nat} (hk : decide (k / 8 < ps ∧ k % 8 < hs) = false) : cntO (m.pt k) = 0 := by
  rw [decide_eq_false_iff_not, ← h.iff k] at hk
  cases hm : m.pt k with
  | none => rfl
  | some a => rw [hm] at hk; exact absurd rfl hk
theorem GD.total (h : GD m hs ps) : totR m hs (hs * ps) = m.total := by
  unfold totR
  rw [FM.total_eq, ← sumN_map, ← sumN_map]
  have e : (List.range (hs * ps)).map (cntR m hs) = ((List.range (hs * ps)).map (ixR hs)).map fun k => cntO (m.pt k) := by rw [List.map_map]; rfl
  rw [e, ixR_all h.h1 h.h8 h.p1 h.p8]
  exact sum_filter0 _ _ _ fun x _ hx => h.out hx
theorem GD.busy (h : GD m hs ps) : busR m hs (hs * ps) = m.busy := by
  have h0 : 0 < hs := by have := h.h1; omega
  have e1 : busR m hs (hs * ps) = (((List.range (hs * ps)).map (ixR hs)).filter fun k => decide (0 < cntO (m.pt k))).map fun k => (k / 8, k % 8) := by
    unfold busR
    rw [List.filter_map, List.map_map]
    apply List.map_congr_left
    intro i _
    have := ixR_at (i := i) h0 h.h8
    show (i / hs, i % hs) = (ixR hs i / 8, ixR hs i % 8)
    rw [this.1, this.2]
  rw [e1, ixR_all h.h1 h.h8 h.p1 h.p8, List.filter_filter]
  unfold FM.busy FM.busyN
  congr 1
  apply List.filter_congr
  intro k hk
  have hk64 : k < 64 := by simpa using hk
  rw [m.many_eq hk64]
  cases hd : decide (k / 8 < ps ∧ k % 8 < hs) with
  | true => rw [Bool.and_true]
  | false => rw [h.out hd]; rfl
end
end Go.Proofs.Ytboclbanccfbjaa
namespace Go.Proofs.Ytboclbanccfbjaa
set_option linter.unusedSimpArgs false
set_option linter.unusedVariables false
set_option maxRecDepth 100000
open Go.RowKit Go.Shelf
section
variable {F F' : Nat → Prop} {w w' : World} {hs ps L H : Nat} {B : Int} {g : GV} {m : FM} {rs : List (RV × AM)} {a : AM}
/-- The cells of the i-th port. -/
theorem GpC.cells (h : GpC F w hs ps g m rs) {i : Nat} (hi : i < rs.length) : ∃ gb o, g.A = some ⟨gb, o, none⟩ ∧ gb < w.heap.size ∧ w.rangeAt gb (o + i * 11) (rcl rs[i]) := by
  obtain ⟨gb, o, hA, hg, hra⟩ := h.rd.range (i := i) (by rw [h.ln]; exact hi)
  rw [flat_row rcl_len rs i hi] at hra
  exact ⟨gb, o, hA, hg, hra⟩
set_option maxHeartbeats 4000000 in
theorem g_Lens (h : GpR F w hs ps g m) (p q : Int) :
    Calls Try.prog 17 #[.agg #[.int .i64 hs, .int .i64 ps, .slice g.A g.n g.c, .int .i64 (m.ct 0), .int .i64 (m.ct 1), .int .i64 (m.ct 2), .int .i64 (m.ct 3), .int .i64 (m.ct 4)], .int .i64 p, .int .i64 q] w fun e w' => e = .returned (.tuple #[.int .i64 (m.lows p q).length, .int .i64 (m.highs p q).length]) ∧ Below w.heap.size w w' := by
  obtain ⟨rs, h⟩ := h
  have HPo := Lib.hid (fun (W : World) => g_Port (w := W) (g := g) h.gd p q)
  have hbx := Bk.new w 30 [.int .i64 hs, .int .i64 ps, .slice g.A g.n g.c, .int .i64 (m.ct 0), .int .i64 (m.ct 1), .int .i64 (m.ct 2), .int .i64 (m.ct 3), .int .i64 (m.ct 4)]
  have hb1 : Below w.heap.size w (w.alloc (.cells ([.int .i64 hs, .int .i64 ps, .slice g.A g.n g.c, .int .i64 (m.ct 0), .int .i64 (m.ct 1), .int .i64 (m.ct 2), .int .i64 (m.ct 3), .int .i64 (m.ct 4)] : List Value).toArray 30)) := (Below.refl _ w).alloc (Nat.le_refl _) _
  cases hp : m.port p q with
  | none =>
    have HL : Hid (m.lows p q = [] ∧ m.highs p q = []) := Lib.hid (by unfold FM.lows FM.highs; rw [hp]; exact ⟨rfl, rfl⟩)
    rw [hp] at HPo
    have HB1 := Lib.hid hb1
    clear h hp hb1
    go_enter Try.func17, Try.ntmps17
    go_wp2_with (first
      | (with_reducible refine at_load 30 (.tmp 3) (by rfl) ?_; refine wpList_load_bk rowG rfl (.tmp 3) rfl w.heap.size 0 rfl hbx [.int .i64 hs, .int .i64 ps, .slice g.A g.n g.c, .int .i64 (m.ct 0), .int .i64 (m.ct 1), .int .i64 (m.ct 2), .int .i64 (m.ct 3), .int .i64 (m.ct 4)] rfl rfl ?_)
      | (go_at_call 32; refine (HPo.out _).mono ?_; rintro en w6 ⟨rfl, hb6⟩; have HB6 := Lib.hid (below_on HB1.out hb6); clear hb6))
    go_ret2
    exact ⟨by rw [HL.out.1, HL.out.2]; rfl, HB6.out⟩
  | some a =>
    obtain ⟨hi, h2, hr⟩ := h.row hp
    obtain ⟨gb, o, hA, hgb, hra⟩ := h.cells hi
    have hrp := h.rp _ (List.getElem_mem hi)
    obtain ⟨r, hre⟩ : ∃ r, r = rs[gix hs p q] := ⟨_, rfl⟩
    rw [← hre] at h2 hra hrp
    have hl1 := hrp.lo.len
    have hl2 := hrp.hi.len
    rw [h2] at hl1 hl2
    have HL : Hid (m.lows p q = a.low ∧ m.highs p q = a.high ∧ a.low.length = r.1.n1 ∧ a.high.length = r.1.n2) := Lib.hid (by unfold FM.lows FM.highs; rw [hp]; exact ⟨rfl, rfl, hl1, hl2⟩)
    rw [hp] at HPo
    have hgn : gix hs p q < g.n := by rw [h.ln]; exact hi
    obtain ⟨gi, hgi⟩ : ∃ gi, gi = gix hs p q := ⟨_, rfl⟩
    rw [← hgi] at hgn hra HPo
    have HRA : Hid (∀ W, Below w.heap.size w W → W.rangeAt gb (o + gi * 11) (rcl r)) := Lib.hid fun W hW => range_below hra hgb hW
    have hgI : (gi : Int) < g.n := by omega
    have HB1 := Lib.hid hb1
    have HBX := Lib.hid hbx
    clear h hp hb1 hi h2 hr hra hrp hl1 hl2 hre hgi
    obtain ⟨gA, gn, gc⟩ := g
    dsimp only at hA hgn hgI hbx HBX HB1 HPo ⊢
    subst hA
    go_enter Try.func17, Try.ntmps17
    go_wp2_with (first
      | (with_reducible refine at_load 30 (.tmp 3) (by rfl) ?_; refine wpList_load_bk rowG rfl (.tmp 3) rfl w.heap.size 0 rfl hbx [.int .i64 hs, .int .i64 ps, .slice (some ⟨gb, o, none⟩) gn gc, .int .i64 (m.ct 0), .int .i64 (m.ct 1), .int .i64 (m.ct 2), .int .i64 (m.ct 3), .int .i64 (m.ct 4)] rfl rfl ?_)
      | (go_at_call 32; refine (HPo.out _).mono ?_; rintro en w6 ⟨rfl, hb6⟩
         have HB6 := Lib.hid (below_on HB1.out hb6)
         have c1 := fun j => ((HBX.out.below hb6).below (Below.drewN_ w6 j)).cell 2 rfl
         have c2 : ∀ j, (w6.drewN j).cell? ⟨gb, o + gi * 11, none⟩ = some (.slice r.1.a1 r.1.n1 r.1.c1) := fun j => HRA.out (w6.drewN j) (below_on HB6.out (Below.drewN_ w6 j)) 0 _ rfl
         have c3 : ∀ j, (w6.drewN j).cell? ⟨gb, o + gi * 11 + 1, none⟩ = some (.slice r.1.a2 r.1.n2 r.1.c2) := fun j => HRA.out (w6.drewN j) (below_on HB6.out (Below.drewN_ w6 j)) 1 _ rfl
         clear hb6))
    go_quiet (fail)
    go_wp2
    go_ret2
    exact ⟨by rw [HL.out.1, HL.out.2.1, HL.out.2.2.1, HL.out.2.2.2]; rfl, below_on HB6.out (Below.drewN_ w6 _)⟩
end
end Go.Proofs.Ytboclbanccfbjaa
