/- The law of timers far ahead. -/
import Derived.Test.YtainmpeiicinmaaW18
set_option linter.unusedSimpArgs false
set_option linter.unusedVariables false
set_option maxRecDepth 100000
namespace Go.Proofs.Ytainmpeiicinmaa.Wi
open Go.RowKit Go.Shelf
/-- A wheel that is new. -/
def Nw (w : World) (g : Nat) (m : Wm Int) (W : World) : Prop := WhC W g m ∧ m.Ok ∧ w.heap.size ≤ g ∧ Below w.heap.size w W
section
variable {w W W' : World} {g : Nat} {m m' : Wm Int} {A : Option Addr} {n c : Nat} {vs : List Value}
theorem Nw.did (h : Nw w g m W) (d : Did W g m' W') (ok : m'.Ok) : Nw w g m' W' := ⟨d.1, ok, h.2.2.1, h.2.2.2.trans (d.2.below h.2.2.2.size fun j hj => by have := h.2.2.1; omega)⟩
theorem Nw.next (h : Nw w g m W) (hb : Below W.heap.size W W') : Nw w g m W' := ⟨h.1.below hb, h.2.1, h.2.2.1, below_on h.2.2.2 hb⟩
end
def f1 (a : Int) : Wm Int := (Wm.new 3).skip a
def f2 (a t : Int) : Wm Int := (f1 a).set 1 t
def f3 (a t : Int) : Wm Int := (f2 a t).skip (t - 1)
def f4 (a t : Int) : Wm Int := (f3 a t).skip 1
theorem far_row {a t : Int} (ha0 : 0 ≤ a) (ha1 : a < 256) (ht0 : 1 ≤ t) (ht1 : t ≤ 1048576) :
    (f1 a).setE 1 t = 0 ∧ (f2 a t).due (t - 1) = [] ∧ (f3 a t).due 1 = [1] ∧ (f4 a t).now = a + t ∧ (f4 a t).l = [] ∧ (f1 a).now ≤ 1000000000 ∧ (f2 a t).now ≤ 1000000000 ∧ (f3 a t).now ≤ 1000000000 := by
  have hc1 : clampN a = a := by unfold clampN; rw [if_neg (by omega), if_pos (by omega)]
  have hc2 : clampN (t - 1) = t - 1 := by unfold clampN; rw [if_neg (by omega), if_pos (by omega)]
  have hc3 : clampN 1 = 1 := by unfold clampN; rw [if_neg (by omega), if_pos (by omega)]
  have e1 : f1 a = ⟨3, a, 0, []⟩ := by simp [f1, Wm.skip, Wm.new, high, hc1]
  have hn1 : ¬ (t < 1 ∨ 1048576 < t) := by omega
  have hf : (f1 a).full 1 = false := by rw [e1]; simp [Wm.full, Wm.has]
  have e2 : f2 a t = ⟨3, a, 1, [⟨1, a + t, 0⟩]⟩ := by
    unfold f2
    rw [(Wm.set_yes hn1 hf).2, e1]
    simp [Wm.put, rem, ins, low, high]
  have hd1 : ¬ a + t ≤ a + (t - 1) := by omega
  have e3 : f3 a t = ⟨3, a + (t - 1), 1, [⟨1, a + t, 0⟩]⟩ := by
    unfold f3
    rw [e2]
    simp only [Wm.skip, high, hc2, List.dropWhile_cons]
    rw [if_neg (by simpa using hd1)]
  have hd2 : a + t ≤ a + (t - 1) + 1 := by omega
  have e4 : f4 a t = ⟨3, a + (t - 1) + 1, 1, []⟩ := by
    unfold f4
    rw [e3]
    simp only [Wm.skip, high, hc3, List.dropWhile_cons]
    rw [if_pos (by simpa using hd2)]
    rfl
  refine ⟨(Wm.set_yes hn1 hf).1, ?_, ?_, by rw [e4]; show a + (t - 1) + 1 = a + t; omega, by rw [e4], by rw [e1]; show a ≤ 1000000000; omega, by rw [e2]; show a ≤ 1000000000; omega, by rw [e3]; show a + (t - 1) ≤ 1000000000; omega⟩
  · rw [e2]
    simp only [Wm.due, low, hc2, List.takeWhile_cons]
    rw [if_neg (by simpa using hd1)]
    rfl
  · rw [e3]
    simp only [Wm.due, low, hc3, List.takeWhile_cons]
    rw [if_pos (by simpa using hd2)]
    rfl
set_option maxHeartbeats 4000000 in
theorem lawFar (t a : Int) (ha0 : 0 ≤ a) (ha1 : a < 256) (w : World) :
    Calls Try.prog 4 #[.int .i64 t, .int .u8 a] w fun en w' => en = .returned (.bool true) ∧ Below w.heap.size w w' := by
  have HN0 : ∀ W, WhC W w.heap.size (Wm.new 3) → Below w.heap.size w W → Hid (Nw w w.heap.size (Wm.new 3) W) := fun W h1 h2 => Lib.hid ⟨h1, Wm.new_ok (by decide), Nat.le_refl _, h2⟩
  by_cases ht : t < 1 ∨ 1048576 < t
  · have HS := Lib.hid (Wm.set_no (m := (Wm.new 3 : Wm Int)) (k := 1) ht)
    rcases (by omega : t < 1 ∨ (1 ≤ t ∧ 1048576 < t)) with h2 | ⟨h2, h3⟩
    all_goals
      clear ht
      go_enter Try.func4, Try.ntmps4
      go_wp2_with fail
      refine (w_new 3 (by decide) (by decide)).mono ?_
      rintro e W0 ⟨rfl, hc0, hb0⟩
      have HN := HN0 W0 hc0 hb0
      clear hc0 hb0 HN0
      generalize hg : w.heap.size = g at HN ⊢
      go_wp2_with fail
      refine (awake_any _).mono ?_
      rintro e W1 ⟨rfl, hb1⟩
      have HN1 := Lib.hid (HN.out.next hb1)
      clear hb1
      go_wp2_with fail
      have hs1 := w_set HN1.out.1 HN1.out.2.1 (show (Wm.new 3 : Wm Int).now ≤ 1000000000 by decide) 1 t
      rw [HS.out.1, HS.out.2] at hs1
      refine hs1.mono ?_
      rintro e W2 ⟨rfl, hd⟩
      have HN2 := Lib.hid (HN1.out.did hd HN1.out.2.1)
      clear hd hs1
      go_wp2
      go_ret
      exact ⟨rfl, HN2.out.2.2.2⟩
  · have h2 : 1 ≤ t := by omega
    have h3 : t ≤ 1048576 := by omega
    have HR := Lib.hid (far_row ha0 ha1 h2 h3)
    have HA : Hid (0 ≤ a ∧ a < 256) := Lib.hid ⟨ha0, ha1⟩
    clear ht
    go_enter Try.func4, Try.ntmps4
    go_wp2_with fail
    refine (w_new 3 (by decide) (by decide)).mono ?_
    rintro e W0 ⟨rfl, hc0, hb0⟩
    have HN := HN0 W0 hc0 hb0
    clear hc0 hb0 HN0
    generalize hg : w.heap.size = g at HN ⊢
    go_wp2_with fail
    refine (awake_any _).mono ?_
    rintro e W1 ⟨rfl, hb1⟩
    have HN1 := Lib.hid (HN.out.next hb1)
    clear hb1
    go_wp2_with fail
    refine (w_skip HN1.out.1 (show (Wm.new 3 : Wm Int).now ≤ 1000000000 by decide) a (by omega)).mono ?_
    rintro e W2 ⟨A0, n0, c0, rfl, _, hd⟩
    have HN2 : Hid (Nw w g (f1 a) W2) := Lib.hid (HN1.out.did hd (Wm.skip_ok HN1.out.2.1 a))
    clear hd
    go_wp2_with fail
    have hs1 := w_set HN2.out.1 HN2.out.2.1 HR.out.2.2.2.2.2.1 1 t
    rw [HR.out.1] at hs1
    refine hs1.mono ?_
    rintro e W3 ⟨rfl, hd⟩
    have HN3 : Hid (Nw w g (f2 a t) W3) := Lib.hid (HN2.out.did hd (Wm.set_ok HN2.out.2.1 1 t))
    clear hd hs1
    go_wp2_with fail
    refine (w_skip HN3.out.1 HR.out.2.2.2.2.2.2.1 (t - 1) (by omega)).mono ?_
    rintro e W4 ⟨A1, n1, c1, rfl, hl1, hd⟩
    have hn1 : n1 = 0 := by
      have := hl1.1
      rw [HR.out.2.1] at this
      exact this.symm
    subst hn1
    have HN4 : Hid (Nw w g (f3 a t) W4) := Lib.hid (HN3.out.did hd (Wm.skip_ok HN3.out.2.1 _))
    clear hd hl1
    go_wp2_with fail
    refine (w_skip HN4.out.1 HR.out.2.2.2.2.2.2.2 1 (by decide)).mono ?_
    rintro e W5 ⟨A2, n2, c2, rfl, hl2, hd⟩
    have HN5 : Hid (Nw w g (f4 a t) W5) := Lib.hid (HN4.out.did hd (Wm.skip_ok HN4.out.2.1 _))
    rw [HR.out.2.2.1] at hl2
    have HL2 := Lib.hid hl2.rdv
    clear hd hl2
    have hbb : Below W5.heap.size W5 (W5.alloc (.cells #[.int .i64 1] 3)) := (Below.refl _ _).alloc (Nat.le_refl _) _
    have hu := RdV.one W5 3 (.int .i64 1) rfl
    have HS := Lib.hid (same_refl (xs := [1]) (HL2.out.below hbb) hu)
    have HN6 := Lib.hid (HN5.out.next hbb)
    clear hbb hu
    go_wp2_with fail
    refine HS.out.mono ?_
    rintro e W6 ⟨rfl, hb6⟩
    have HN7 := Lib.hid (HN6.out.next hb6)
    clear hb6
    go_wp2_with fail
    have hs1 := w_now HN7.out.1
    rw [HR.out.2.2.2.1] at hs1
    refine hs1.mono ?_
    rintro e W7 ⟨rfl, rfl⟩
    clear hs1
    go_wp2_with fail
    have hs1 := w_len HN7.out.1
    rw [HR.out.2.2.2.2.1] at hs1
    refine hs1.mono ?_
    rintro e W8 ⟨rfl, rfl⟩
    clear hs1
    go_wp2
    go_ret
    exact ⟨rfl, HN7.out.2.2.2⟩
end Go.Proofs.Ytainmpeiicinmaa.Wi
