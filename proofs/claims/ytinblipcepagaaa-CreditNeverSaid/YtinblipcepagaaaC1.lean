/- An account by value and in memory; what it is asked. -/
import Derived.Test.YtinblipcepagaaaLsr
import Derived.Test.YtinblipcepagaaaLsrI
import Derived.Test.YtinblipcepagaaaItrM
import Derived.Test.YtinblipcepagaaaItr
import Derived.Test.YtinblipcepagaaaCol
import Derived.Test.YtinblipcepagaaaKit3
import Derived.Test.YtinblipcepagaaaRegL
import Derived.BigQuiet
import Derived.Deep.QuietTactic
import Derived.WalkSpells
set_option linter.unusedSimpArgs false
set_option linter.unusedVariables false
namespace Go.Proofs.Ytinblipcepagaaa
open Go.RowKit Go.Shelf
theorem below_on {w w1 w2 : World} (h : Below w.heap.size w w1) (k : Below w1.heap.size w1 w2) : Below w.heap.size w w2 := h.trans (k.mono h.size)
theorem st_wr {w w' : World} {g : Nat} (hw : Wr g w w') : St (· = g) w w' := ⟨hw.os, hw.tape, hw.output, hw.size, fun j hj hn => hw.block j hj (by intro e; injection e with e; exact hn e)⟩
theorem rowA : Row Try.prog 54 5 := ⟨⟨_, rfl, by decide⟩, by kernel_rfl⟩
theorem rowR : Row Try.prog 28 4 := ⟨⟨_, rfl, by decide⟩, by kernel_rfl⟩
/-- An account by value: free, pulled, spent, timed. -/
structure Cm where
  f : Int
  p : Int
  s : Int
  t : Int
structure Cm.Ok (m : Cm) : Prop where
  f0 : 0 ≤ m.f
  f1 : m.f ≤ 256
  s0 : 0 ≤ m.s
  s1 : m.s ≤ m.p
  p1 : m.p ≤ 1152921504606846976
  t0 : 0 ≤ m.t
  t1 : m.t ≤ 1000000
def okN (x : Int) : Bool := decide (0 ≤ x ∧ x ≤ 256)
def Cm.new (x : Int) : Cm := ⟨x, 0, 0, 0⟩
theorem Cm.new_ok {x : Int} (h : okN x = true) : (Cm.new x).Ok := by
  simp only [okN, decide_eq_true_eq] at h
  exact ⟨h.1, h.2, by show (0:Int) ≤ 0; omega, by show (0:Int) ≤ 0; omega, by show (0:Int) ≤ _; omega, by show (0:Int) ≤ 0; omega, by show (0:Int) ≤ _; omega⟩
/-- Pull: what it tells, whether it refuses, what follows. -/
def Cm.more (m : Cm) (n : Int) : Int := if n < 0 ∨ 1152921504606846976 < n then 0 else if n ≤ m.p then 0 else n - m.p
def pullE (n : Int) : Int := if n < 0 ∨ 1152921504606846976 < n then 5 else 0
def Cm.pull (m : Cm) (n : Int) : Cm := ⟨m.f, m.p + m.more n, m.s, m.t⟩
theorem Cm.more_no {m : Cm} {n : Int} (h : n < 0 ∨ 1152921504606846976 < n) : m.more n = 0 ∧ pullE n = 5 ∧ m.pull n = m := by
  have h1 : m.more n = 0 := by unfold Cm.more; rw [if_pos h]
  refine ⟨h1, by unfold pullE; rw [if_pos h], ?_⟩
  unfold Cm.pull
  rw [h1, Int.add_zero]
theorem Cm.more_old {m : Cm} {n : Int} (h0 : 0 ≤ n) (h1 : n ≤ 1152921504606846976) (h : n ≤ m.p) : m.more n = 0 ∧ pullE n = 0 := by
  constructor
  · unfold Cm.more; rw [if_neg (by omega), if_pos h]
  · unfold pullE; rw [if_neg (by omega)]
theorem Cm.more_new {m : Cm} {n : Int} (h0 : 0 ≤ n) (h1 : n ≤ 1152921504606846976) (h : m.p ≤ n) : m.more n = n - m.p ∧ pullE n = 0 := by
  constructor
  · unfold Cm.more; rw [if_neg (by omega)]; split <;> omega
  · unfold pullE; rw [if_neg (by omega)]
theorem Cm.pull_ok {m : Cm} (h : m.Ok) (n : Int) : (m.pull n).Ok := by
  obtain ⟨a1, a2, a3, a4, a5, a6, a7⟩ := h
  refine ⟨a1, a2, a3, ?_, ?_, a6, a7⟩
  all_goals
    show _ ≤ _
    simp only [Cm.pull, Cm.more]
    split
    · omega
    · split <;> omega
/-- Spend. -/
def Cm.spendE (m : Cm) (n : Int) : Int := if n < 0 then 1 else if m.p - m.s < n then 140 else 0
def Cm.spend (m : Cm) (n : Int) : Cm := if n < 0 ∨ m.p - m.s < n then m else ⟨m.f, m.p, m.s + n, m.t⟩
theorem Cm.spend_ok {m : Cm} (h : m.Ok) (n : Int) : (m.spend n).Ok := by
  unfold Cm.spend
  split
  · exact h
  · obtain ⟨a1, a2, a3, a4, a5, a6, a7⟩ := h
    exact ⟨a1, a2, by show 0 ≤ m.s + n; omega, by show m.s + n ≤ m.p; omega, a5, a6, a7⟩
/-- TakeFree. -/
def Cm.taken (m : Cm) (n : Int) : Int := if n < 1 then 0 else if n ≤ m.f then n else m.f
def Cm.take (m : Cm) (n : Int) : Cm := ⟨m.f - m.taken n, m.p, m.s, m.t⟩
theorem Cm.taken_no {m : Cm} {n : Int} (h : n < 1) : m.taken n = 0 := by unfold Cm.taken; rw [if_pos h]
theorem Cm.taken_all {m : Cm} {n : Int} (h0 : 1 ≤ n) (h : n ≤ m.f) : m.taken n = n := by unfold Cm.taken; rw [if_neg (by omega), if_pos h]
theorem Cm.taken_some {m : Cm} {n : Int} (h0 : 1 ≤ n) (h : m.f ≤ n) : m.taken n = m.f := by unfold Cm.taken; rw [if_neg (by omega)]; split <;> omega
theorem Cm.take_no {m : Cm} {n : Int} (h : n < 1) : m.take n = m := by unfold Cm.take; rw [Cm.taken_no h, Int.sub_zero]
theorem Cm.take_ok {m : Cm} (h : m.Ok) (n : Int) : (m.take n).Ok := by
  obtain ⟨a1, a2, a3, a4, a5, a6, a7⟩ := h
  have : 0 ≤ m.taken n ∧ m.taken n ≤ m.f := by
    unfold Cm.taken
    split
    · omega
    · split <;> omega
  exact ⟨by show 0 ≤ m.f - m.taken n; omega, by show m.f - m.taken n ≤ 256; omega, a3, a4, a5, a6, a7⟩
/-- Timer. -/
def Cm.tick (m : Cm) : Cm := ⟨m.f, m.p, m.s, m.t + 1⟩
theorem Cm.tick_ok {m : Cm} (h : m.Ok) (ht : m.t < 1000000) : m.tick.Ok := by
  obtain ⟨a1, a2, a3, a4, a5, a6, a7⟩ := h
  exact ⟨a1, a2, a3, a4, a5, by show 0 ≤ m.t + 1; omega, by show m.t + 1 ≤ 1000000; omega⟩
/-- An account in box g. -/
def CrC (w : World) (g : Nat) (m : Cm) : Prop := Bk w 54 g [.bool true, .int .i64 m.f, .int .i64 m.p, .int .i64 m.s, .int .i64 m.t] ∧ m.Ok
/-- What a call that turns it leaves. -/
def Did (w : World) (g : Nat) (m : Cm) (w' : World) : Prop := CrC w' g m ∧ St (· = g) w w'
section
variable {w w' : World} {g : Nat} {m : Cm}
theorem CrC.below (h : CrC w g m) (hb : Below w.heap.size w w') : CrC w' g m := ⟨h.1.below hb, h.2⟩
theorem CrC.st (h : CrC w g m) {F : Nat → Prop} (hs : St F w w') (hF : ¬ F g) : CrC w' g m := ⟨h.1.st hs hF, h.2⟩
theorem Did.same (h : CrC w g m) : Did w g m w := ⟨h, St.refl _ _⟩
theorem c_made (h : CrC w g m) : Calls Try.prog 27 #[.pointer (some ⟨g, 0, none⟩)] w fun e w' => e = .returned (.bool true) ∧ w = w' := by
  have c0 := h.1.cell 0 rfl
  go_enter Try.func27, Try.ntmps27
  go_wp2
  go_ret
  exact ⟨rfl, rfl⟩
theorem c_free (h : CrC w g m) : Calls Try.prog 22 #[.pointer (some ⟨g, 0, none⟩)] w fun e w' => e = .returned (.int .i64 m.f) ∧ w = w' := by
  have HM := Lib.hid (c_made h)
  have c1 := h.1.cell 1 rfl
  go_enter Try.func22, Try.ntmps22
  go_wp2_with (go_at_call 27; refine HM.out.mono ?_; rintro e w' ⟨rfl, rfl⟩)
  go_ret
  exact ⟨rfl, rfl⟩
theorem c_pulled (h : CrC w g m) : Calls Try.prog 19 #[.pointer (some ⟨g, 0, none⟩)] w fun e w' => e = .returned (.int .i64 m.p) ∧ w = w' := by
  have HM := Lib.hid (c_made h)
  have c1 := h.1.cell 2 rfl
  go_enter Try.func19, Try.ntmps19
  go_wp2_with (go_at_call 27; refine HM.out.mono ?_; rintro e w' ⟨rfl, rfl⟩)
  go_ret
  exact ⟨rfl, rfl⟩
theorem c_spent (h : CrC w g m) : Calls Try.prog 18 #[.pointer (some ⟨g, 0, none⟩)] w fun e w' => e = .returned (.int .i64 m.s) ∧ w = w' := by
  have HM := Lib.hid (c_made h)
  have c1 := h.1.cell 3 rfl
  go_enter Try.func18, Try.ntmps18
  go_wp2_with (go_at_call 27; refine HM.out.mono ?_; rintro e w' ⟨rfl, rfl⟩)
  go_ret
  exact ⟨rfl, rfl⟩
theorem c_timed (h : CrC w g m) : Calls Try.prog 23 #[.pointer (some ⟨g, 0, none⟩)] w fun e w' => e = .returned (.int .i64 m.t) ∧ w = w' := by
  have HM := Lib.hid (c_made h)
  have c1 := h.1.cell 4 rfl
  go_enter Try.func23, Try.ntmps23
  go_wp2_with (go_at_call 27; refine HM.out.mono ?_; rintro e w' ⟨rfl, rfl⟩)
  go_ret
  exact ⟨rfl, rfl⟩
theorem k_left (h : CrC w g m) : Calls Try.prog 29 #[.pointer (some ⟨g, 2, none⟩)] w fun e w' => e = .returned (.int .i64 (m.p - m.s)) ∧ Below w.heap.size w w' := by
  have c2 := h.1.cell 2 rfl
  have c3 := h.1.cell 3 rfl
  have h1 := h.2.s0
  have h2 := h.2.s1
  have h3 := h.2.p1
  go_enter Try.func29, Try.ntmps29
  go_wp2
  go_quiet (fail)
  go_wp2
  go_ret
  exact ⟨rfl, Below.drewN_ w _⟩
theorem c_left (h : CrC w g m) : Calls Try.prog 20 #[.pointer (some ⟨g, 0, none⟩)] w fun e w' => e = .returned (.int .i64 (m.p - m.s)) ∧ Below w.heap.size w w' := by
  have HM := Lib.hid (c_made h)
  have HL := Lib.hid (k_left h)
  clear h
  go_enter Try.func20, Try.ntmps20
  go_wp2_with (first
    | (go_at_call 27; refine HM.out.mono ?_; rintro e w' ⟨rfl, rfl⟩)
    | (go_at_call 29; refine HL.out.mono ?_; rintro e w1 ⟨rfl, hb⟩; have HB := Lib.hid hb; clear hb))
  go_ret
  exact ⟨rfl, HB.out⟩
theorem c_may (h : CrC w g m) : Calls Try.prog 21 #[.pointer (some ⟨g, 0, none⟩)] w fun e w' => e = .returned (.bool (decide (m.s < m.p))) ∧ Below w.heap.size w w' := by
  have HL := Lib.hid (c_left h)
  have HV : Hid (decide (0 < m.p - m.s) = decide (m.s < m.p)) := Lib.hid (by simp only [decide_eq_decide]; omega)
  clear h
  go_enter Try.func21, Try.ntmps21
  go_wp2_with (go_at_call 20; refine HL.out.mono ?_; rintro e w1 ⟨rfl, hb⟩; have HB := Lib.hid hb; clear hb)
  go_ret
  exact ⟨by rw [← HV.out]; rfl, HB.out⟩
end
end Go.Proofs.Ytinblipcepagaaa
