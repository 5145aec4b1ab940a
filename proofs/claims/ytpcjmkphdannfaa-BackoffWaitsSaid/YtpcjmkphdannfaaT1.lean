/- A timer by value and in memory; what it is asked. -/
import Derived.Test.YtpcjmkphdannfaaLsr
import Derived.Test.YtpcjmkphdannfaaLsrI
import Derived.Test.YtpcjmkphdannfaaItrM
import Derived.Test.YtpcjmkphdannfaaItr
import Derived.Test.YtpcjmkphdannfaaCol
import Derived.Test.YtpcjmkphdannfaaKit3
import Derived.Test.YtpcjmkphdannfaaRegL
import Derived.BigQuiet
import Derived.Deep.QuietTactic
import Derived.WalkSpells
set_option linter.unusedSimpArgs false
set_option linter.unusedVariables false
namespace Go.Proofs.Ytpcjmkphdannfaa
open Go.RowKit Go.Shelf
theorem below_on {w w1 w2 : World} (h : Below w.heap.size w w1) (k : Below w1.heap.size w1 w2) : Below w.heap.size w w2 := h.trans (k.mono h.size)
theorem st_wr {w w' : World} {g : Nat} (hw : Wr g w w') : St (· = g) w w' := ⟨hw.os, hw.tape, hw.output, hw.size, fun j hj hn => hw.block j hj (by intro e; injection e with e; exact hn e)⟩
theorem rowT : Row Try.prog 48 4 := ⟨⟨_, rfl, by decide⟩, by kernel_rfl⟩
theorem rowM : Row Try.prog 46 2 := ⟨⟨_, rfl, by decide⟩, by kernel_rfl⟩
theorem rowR : Row Try.prog 28 4 := ⟨⟨_, rfl, by decide⟩, by kernel_rfl⟩
/-- A timer by value: base, cap, wait, left. -/
structure Tm where
  b : Int
  c : Int
  w : Int
  l : Int
structure Tm.Ok (m : Tm) : Prop where
  b0 : 1 ≤ m.b
  bc : m.b ≤ m.c
  cm : m.c ≤ 1048576
  w0 : 1 ≤ m.w
  wc : m.w ≤ m.c
  l0 : 0 ≤ m.l
  lc : m.l ≤ m.c
def fitT (b c : Int) : Bool := decide (1 ≤ b ∧ b ≤ c ∧ c ≤ 1048576)
theorem fitT_of {b c : Int} (h : fitT b c = true) : 1 ≤ b ∧ b ≤ c ∧ c ≤ 1048576 := by simpa only [fitT, decide_eq_true_eq] using h
theorem fitT_yes {b c : Int} (h1 : 1 ≤ b) (h2 : b ≤ c) (h3 : c ≤ 1048576) : fitT b c = true := by simp only [fitT, decide_eq_true_eq]; exact ⟨h1, h2, h3⟩
theorem fitT_no {b c : Int} (h : ¬ (1 ≤ b ∧ b ≤ c ∧ c ≤ 1048576)) : fitT b c = false := by simp only [fitT, decide_eq_false_iff_not]; exact h
theorem fitT_cases {b c : Int} (h : fitT b c = false) : b < 1 ∨ (1 ≤ b ∧ c < b) ∨ (1 ≤ b ∧ b ≤ c ∧ 1048576 < c) := by
  simp only [fitT, decide_eq_false_iff_not] at h; omega
/-- The wait that follows one. -/
def nxt (c x : Int) : Int := if 2 * x ≤ c then 2 * x else c
theorem nxt_two {c x : Int} (h : 2 * x ≤ c) : nxt c x = 2 * x := if_pos h
theorem nxt_cap {c x : Int} (h : c ≤ 2 * x) : nxt c x = c := by unfold nxt; split <;> omega
theorem nxt_ge {c x : Int} (h0 : 1 ≤ x) (h : x ≤ c) : x ≤ nxt c x ∧ nxt c x ≤ c := by unfold nxt; split <;> omega
def Tm.new (b c : Int) : Tm := ⟨b, c, b, 0⟩
theorem Tm.new_ok {b c : Int} (h : fitT b c = true) : (Tm.new b c).Ok := by
  obtain ⟨h1, h2, h3⟩ := fitT_of h
  exact ⟨h1, h2, h3, h1, h2, by show (0:Int) ≤ 0; omega, by show (0:Int) ≤ c; omega⟩
def Tm.run (m : Tm) (on : Bool) : Tm := if on = false then ⟨m.b, m.c, m.w, 0⟩ else if m.l = 0 then ⟨m.b, m.c, m.w, m.w⟩ else m
def Tm.fires (m : Tm) : Bool := decide (m.l = 1)
def Tm.tick (m : Tm) : Tm := if m.l = 0 then m else if m.l = 1 then ⟨m.b, m.c, nxt m.c m.w, nxt m.c m.w⟩ else ⟨m.b, m.c, m.w, m.l - 1⟩
def Tm.again (m : Tm) : Tm := if m.l = 0 then m else ⟨m.b, m.c, m.w, m.w⟩
def Tm.reset (m : Tm) : Tm := Tm.again ⟨m.b, m.c, m.b, m.l⟩
theorem Tm.run_ok {m : Tm} (h : m.Ok) (on : Bool) : (m.run on).Ok := by
  have h' := h
  obtain ⟨a1, a2, a3, a4, a5, a6, a7⟩ := h
  unfold Tm.run
  split
  · exact ⟨a1, a2, a3, a4, a5, by show (0:Int) ≤ 0; omega, by show (0:Int) ≤ m.c; omega⟩
  · split
    · exact ⟨a1, a2, a3, a4, a5, by show 0 ≤ m.w; omega, a5⟩
    · exact h'
theorem Tm.tick_ok {m : Tm} (h : m.Ok) : m.tick.Ok := by
  have h' := h
  obtain ⟨a1, a2, a3, a4, a5, a6, a7⟩ := h
  have hn := nxt_ge a4 a5
  unfold Tm.tick
  split
  · exact h'
  · split
    · exact ⟨a1, a2, a3, by show 1 ≤ nxt m.c m.w; omega, hn.2, by show 0 ≤ nxt m.c m.w; omega, hn.2⟩
    · exact ⟨a1, a2, a3, a4, a5, by show 0 ≤ m.l - 1; omega, by show m.l - 1 ≤ m.c; omega⟩
theorem Tm.again_ok {m : Tm} (h : m.Ok) : m.again.Ok := by
  have h' := h
  obtain ⟨a1, a2, a3, a4, a5, a6, a7⟩ := h
  unfold Tm.again
  split
  · exact h'
  · exact ⟨a1, a2, a3, a4, a5, by show 0 ≤ m.w; omega, a5⟩
theorem Tm.reset_ok {m : Tm} (h : m.Ok) : m.reset.Ok := by
  obtain ⟨a1, a2, a3, a4, a5, a6, a7⟩ := h
  exact Tm.again_ok (m := ⟨m.b, m.c, m.b, m.l⟩) ⟨a1, a2, a3, a1, a2, a6, a7⟩
/-- A timer in box g. -/
def TmC (w : World) (g : Nat) (m : Tm) : Prop := Bk w 48 g [.int .i64 m.b, .int .i64 m.c, .int .i64 m.w, .int .i64 m.l] ∧ m.Ok
/-- What a call that turns it leaves. -/
def Did (w : World) (g : Nat) (m : Tm) (w' : World) : Prop := TmC w' g m ∧ St (· = g) w w'
section
variable {w w' w1 w2 : World} {g : Nat} {m m' m2 : Tm}
theorem TmC.below (h : TmC w g m) (hb : Below w.heap.size w w') : TmC w' g m := ⟨h.1.below hb, h.2⟩
theorem TmC.st (h : TmC w g m) {F : Nat → Prop} (hs : St F w w') (hF : ¬ F g) : TmC w' g m := ⟨h.1.st hs hF, h.2⟩
theorem Did.same (h : TmC w g m) : Did w g m w := ⟨h, St.refl _ _⟩
theorem Did.next (h : Did w g m w1) (hb : Below w1.heap.size w1 w2) : Did w g m w2 := ⟨h.1.below hb, h.2.trans (St.ext hb) (Gr.refl _ _)⟩
theorem Did.trans (h : Did w g m w1) (k : Did w1 g m' w2) : Did w g m' w2 := ⟨k.1, h.2.trans k.2 (Gr.refl _ _)⟩
theorem Did.box (h : TmC w g m) (j : Nat) (v : Value) {m' : Tm} (hs : [.int .i64 m.b, .int .i64 m.c, .int .i64 m.w, .int .i64 m.l].set j v = [.int .i64 m'.b, .int .i64 m'.c, .int .i64 m'.w, .int .i64 m'.l]) (ok : m'.Ok) : Did w g m' (w.setCell ⟨g, j, none⟩ v) := by
  have hb := h.1.set j v
  rw [hs] at hb
  exact ⟨⟨hb, ok⟩, St.setCell (F := (· = g)) w (a := ⟨g, j, none⟩) rfl _⟩
theorem m_next {c x : Int} (b : Int) (h0 : 1 ≤ x) (h1 : x ≤ 1048576) (h2 : 1 ≤ c) (h3 : c ≤ 1048576) (w : World) : Calls Try.prog 24 #[.agg #[.int .i64 b, .int .i64 c], .int .i64 x] w fun e w' => e = .returned (.int .i64 (nxt c x)) ∧ Below w.heap.size w w' := by
  have q := Bk.new w 46 [.int .i64 b, .int .i64 c]
  have c1 := q.cell 1 rfl
  have HB := Lib.hid ((Below.refl w.heap.size w).alloc (Nat.le_refl _) (.cells #[.int .i64 b, .int .i64 c] 46))
  clear q
  by_cases hc : 2 * x ≤ c
  · have HV := Lib.hid (nxt_two hc)
    go_enter Try.func24, Try.ntmps24
    go_wp2
    go_ret
    exact ⟨by rw [HV.out]; rfl, HB.out⟩
  · have HV := Lib.hid (nxt_cap (c := c) (x := x) (by omega))
    have hc' : c < 2 * x := by omega
    clear hc
    go_enter Try.func24, Try.ntmps24
    go_wp2
    go_ret
    exact ⟨by rw [HV.out]; rfl, HB.out⟩
theorem m_hold (b c : Int) (w : World) : Calls Try.prog 22 #[.agg #[.int .i64 b, .int .i64 c]] w fun e w' => e = .returned (.bool (fitT b c)) ∧ Below w.heap.size w w' := by
  have q := Bk.new w 46 [.int .i64 b, .int .i64 c]
  have c0 := q.cell 0 rfl
  have c1 := q.cell 1 rfl
  have HB := Lib.hid ((Below.refl w.heap.size w).alloc (Nat.le_refl _) (.cells #[.int .i64 b, .int .i64 c] 46))
  clear q
  cases hok : fitT b c with
  | false =>
    rcases fitT_cases hok with h1 | ⟨h1, h2⟩ | ⟨h1, h2, h3⟩
    all_goals
      clear hok
      go_enter Try.func22, Try.ntmps22
      go_wp2
      go_ret
      exact ⟨by first | rfl | (show Ending.returned (.bool (decide (c ≤ 1048576))) = _; rw [decide_eq_false (by omega)]), HB.out⟩
  | true =>
    obtain ⟨h1, h2, h3⟩ := fitT_of hok
    clear hok
    go_enter Try.func22, Try.ntmps22
    go_wp2
    go_ret
    exact ⟨rfl, HB.out⟩
theorem t_made (h : TmC w g m) : Calls Try.prog 23 #[.pointer (some ⟨g, 0, none⟩)] w fun e w' => e = .returned (.bool true) ∧ w = w' := by
  have c1 := h.1.cell 1 rfl
  have h1 : 0 < m.c := by have := h.2.b0; have := h.2.bc; omega
  clear h
  go_enter Try.func23, Try.ntmps23
  go_wp2
  go_ret
  exact ⟨rfl, rfl⟩
theorem t_wait (h : TmC w g m) : Calls Try.prog 18 #[.pointer (some ⟨g, 0, none⟩)] w fun e w' => e = .returned (.int .i64 m.w) ∧ w = w' := by
  have HM := Lib.hid (t_made h)
  have c2 := h.1.cell 2 rfl
  go_enter Try.func18, Try.ntmps18
  go_wp2_with (go_at_call 23; refine HM.out.mono ?_; rintro e w' ⟨rfl, rfl⟩)
  go_ret
  exact ⟨rfl, rfl⟩
theorem t_left (h : TmC w g m) : Calls Try.prog 19 #[.pointer (some ⟨g, 0, none⟩)] w fun e w' => e = .returned (.int .i64 m.l) ∧ w = w' := by
  have HM := Lib.hid (t_made h)
  have c3 := h.1.cell 3 rfl
  go_enter Try.func19, Try.ntmps19
  go_wp2_with (go_at_call 23; refine HM.out.mono ?_; rintro e w' ⟨rfl, rfl⟩)
  go_ret
  exact ⟨rfl, rfl⟩
theorem t_running (h : TmC w g m) : Calls Try.prog 20 #[.pointer (some ⟨g, 0, none⟩)] w fun e w' => e = .returned (.bool (decide (0 < m.l))) ∧ w = w' := by
  have HL := Lib.hid (t_left h)
  clear h
  go_enter Try.func20, Try.ntmps20
  go_wp2_with (go_at_call 19; refine HL.out.mono ?_; rintro e w' ⟨rfl, rfl⟩)
  go_ret
  exact ⟨rfl, rfl⟩
theorem t_again (h : TmC w g m) : Calls Try.prog 11 #[.pointer (some ⟨g, 0, none⟩)] w fun e w' => (∃ v, e = .returned v) ∧ Did w g m.again w' := by
  have HR := Lib.hid (t_running h)
  have H := Lib.hid h
  have hl0 := h.2.l0
  by_cases hl : m.l = 0
  · have HV : Hid (m.again = m ∧ decide (0 < m.l) = false) := Lib.hid ⟨if_pos hl, by simp; omega⟩
    clear h hl hl0
    rw [HV.out.1]
    go_enter Try.func11, Try.ntmps11
    go_wp2_with (go_at_call 20; refine HR.out.mono ?_; rintro e w' ⟨rfl, rfl⟩; rw [HV.out.2])
    go_end0
    exact ⟨⟨_, rfl⟩, Did.same H.out⟩
  · have HV : Hid (m.again = ⟨m.b, m.c, m.w, m.w⟩ ∧ decide (0 < m.l) = true) := Lib.hid ⟨if_neg hl, by simp; omega⟩
    have hok := Tm.again_ok h.2
    rw [HV.out.1] at hok ⊢
    have c2 := h.1.cell 2 rfl
    have c3 := h.1.cell 3 rfl
    have f3 := h.1.free 3
    have HD := Lib.hid (Did.box h 3 (.int .i64 m.w) (m' := ⟨m.b, m.c, m.w, m.w⟩) rfl hok)
    clear h hl hl0 hok
    go_enter Try.func11, Try.ntmps11
    go_wp2_with (go_at_call 20; refine HR.out.mono ?_; rintro e w' ⟨rfl, rfl⟩; rw [HV.out.2])
    go_end0
    exact ⟨⟨_, rfl⟩, HD.out⟩
theorem t_reset (h : TmC w g m) : Calls Try.prog 13 #[.pointer (some ⟨g, 0, none⟩)] w fun e w' => (∃ v, e = .returned v) ∧ Did w g m.reset w' := by
  have HM := Lib.hid (t_made h)
  have c0 := h.1.cell 0 rfl
  have c2 := h.1.cell 2 rfl
  have f2 := h.1.free 2
  have hd := Did.box h 2 (.int .i64 m.b) (m' := ⟨m.b, m.c, m.b, m.l⟩) rfl ⟨h.2.b0, h.2.bc, h.2.cm, h.2.b0, h.2.bc, h.2.l0, h.2.lc⟩
  have HA := Lib.hid (t_again hd.1)
  have HD := Lib.hid hd
  clear h hd
  go_enter Try.func13, Try.ntmps13
  go_wp2_with (first
    | (go_at_call 23; refine HM.out.mono ?_; rintro e w' ⟨rfl, rfl⟩)
    | (go_at_call 11; refine HA.out.mono ?_; rintro e w2 ⟨⟨v, rfl⟩, hd2⟩; have HD2 := Lib.hid hd2; clear hd2))
  go_end0
  exact ⟨⟨_, rfl⟩, HD.out.trans HD2.out⟩
theorem t_run (h : TmC w g m) (on : Bool) : Calls Try.prog 9 #[.pointer (some ⟨g, 0, none⟩), .bool on] w fun e w' => (∃ v, e = .returned v) ∧ Did w g (m.run on) w' := by
  have HM := Lib.hid (t_made h)
  have c2 := h.1.cell 2 rfl
  have c3 := h.1.cell 3 rfl
  have f3 := h.1.free 3
  have HK := Lib.hid h
  have hok := Tm.run_ok h.2 on
  cases on with
  | false =>
    rw [show m.run false = ⟨m.b, m.c, m.w, 0⟩ from rfl] at hok ⊢
    have HD := Lib.hid (Did.box h 3 (.int .i64 0) (m' := ⟨m.b, m.c, m.w, 0⟩) rfl hok)
    clear h hok
    go_enter Try.func9, Try.ntmps9
    go_wp2_with (go_at_call 23; refine HM.out.mono ?_; rintro e w' ⟨rfl, rfl⟩)
    go_end0
    exact ⟨⟨_, rfl⟩, HD.out⟩
  | true =>
    by_cases hl : m.l = 0
    · rw [show m.run true = ⟨m.b, m.c, m.w, m.w⟩ from if_pos hl] at hok ⊢
      have HD := Lib.hid (Did.box h 3 (.int .i64 m.w) (m' := ⟨m.b, m.c, m.w, m.w⟩) rfl hok)
      clear h hok
      go_enter Try.func9, Try.ntmps9
      go_wp2_with (go_at_call 23; refine HM.out.mono ?_; rintro e w' ⟨rfl, rfl⟩)
      go_end0
      exact ⟨⟨_, rfl⟩, HD.out⟩
    · rw [show m.run true = m from if_neg hl] at hok ⊢
      clear h hok
      go_enter Try.func9, Try.ntmps9
      go_wp2_with (go_at_call 23; refine HM.out.mono ?_; rintro e w' ⟨rfl, rfl⟩)
      go_end0
      exact ⟨⟨_, rfl⟩, Did.same HK.out⟩
end
end Go.Proofs.Ytpcjmkphdannfaa
