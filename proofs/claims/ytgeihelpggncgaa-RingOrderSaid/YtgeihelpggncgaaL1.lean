/- The law's helpers: two rows, a row cut short. -/
import Derived.Test.YtgeihelpggncgaaRgcint
import Derived.Test.YtgeihelpggncgaaRgeint
import Derived.IntWalk
set_option linter.unusedSimpArgs false
set_option linter.unusedVariables false
namespace Go.Proofs.Ytgeihelpggncgaa
open Go.RowKit Go.Shelf

theorem take_eq_succ {xs ys : List Int} {k : Nat} (hx : k < xs.length) (hy : k < ys.length) (h : xs.take k = ys.take k) (e : xs[k] = ys[k]) : xs.take (k + 1) = ys.take (k + 1) := by
  rw [List.take_succ_eq_append_getElem hx, List.take_succ_eq_append_getElem hy, h, e]
def sameB (xs ys : List Int) : Bool := decide (xs = ys)

set_option maxHeartbeats 400000 in
theorem same_any (A B : Option Addr) (n c m d : Nat) (xs ys : List Int) (w : World) (h1 : Rd .i64 w A n c xs) (h2 : Rd .i64 w B m d ys) :
    Calls Try.prog 11 #[.slice A n c, .slice B m d] w fun e w' => e = .returned (.bool (sameB xs ys)) ∧ ∃ q, w' = w.drewN q := by
  have hn := h1.1
  have hm := h2.1
  have hnm : n ≤ 9223372036854775807 := by have h := h1.2; simp only [maxLen] at h; omega
  by_cases hne : n = m
  · subst hne
    have hdec : ((n : Int) != n) = false := by simp
    have HX := Lib.hid hn
    have HY := Lib.hid hm
    clear hn hm
    go_enter Try.func11, Try.ntmps11
    go_wp2
    go_loopw [5] (fun i wr => ∃ k q : Nat, k ≤ n ∧ i = .int .i64 k ∧ Hid (xs.take k = ys.take k) ∧ wr = w.drewN q) (fun i _ => n - (intOf i).toNat)
    case atStart => exact ⟨0, 0, Nat.zero_le _, rfl, Lib.hid (by simp), rfl⟩
    case round =>
      obtain ⟨k, q, hk, rfl, ht, rfl⟩ := hrel
      by_cases hlt : k < n
      · have hkx : k < xs.length := by rw [HX.out]; exact hlt
        have hky : k < ys.length := by rw [HY.out]; exact hlt
        obtain ⟨g1, o1, rfl, hg1, c1⟩ := h1.cell hlt
        obtain ⟨g2, o2, rfl, hg2, c2⟩ := h2.cell hlt
        obtain ⟨x, hx⟩ : ∃ x, x = xs.getD k 0 := ⟨_, rfl⟩
        obtain ⟨y, hy⟩ : ∃ y, y = ys.getD k 0 := ⟨_, rfl⟩
        rw [← hx] at c1
        rw [← hy] at c2
        have hx' : x = xs[k] := by rw [hx]; simp [hkx]
        have hy' : y = ys[k] := by rw [hy]; simp [hky]
        have EX := Lib.hid hx'
        have EY := Lib.hid hy'
        have hki : (k : Int) < n := by omega
        have hk0 : (0 : Int) ≤ k := by omega
        clear hx hy hx' hy'
        by_cases he : x = y
        · have hb : (x != y) = false := by simp [he]
          have HE := Lib.hid he
          clear he
          go_wp2
          go_quiet (fail)
          go_wp2
          go_roundw
          case rel => exact ⟨k + 1, _, by omega, by go_num, Lib.hid (take_eq_succ hkx hky ht.out (by rw [← EX.out, ← EY.out, HE.out])), rfl⟩
          case measure => simp [intOf]; omega
        · have hb : (x != y) = true := by simp [he]
          have HE := Lib.hid he
          clear he
          go_wp2
          go_quiet (fail)
          go_wp2
          go_ret
          refine ⟨?_, _, World.drewN_drewN _ _ _⟩
          have : sameB xs ys = false := by
            unfold sameB
            rw [decide_eq_false_iff_not]
            intro e
            apply HE.out
            rw [EX.out, EY.out]
            simp [e]
          rw [this]
          rfl
      · obtain rfl : k = n := by omega
        go_wp2
        go_ret
        refine ⟨?_, _, rfl⟩
        have : sameB xs ys = true := by
          unfold sameB
          have := ht.out
          rw [List.take_of_length_le (by rw [HX.out]; exact Nat.le_refl _), List.take_of_length_le (by rw [HY.out]; exact Nat.le_refl _)] at this
          simp [this]
        rw [this]
        rfl
  · have hdec : ((n : Int) != m) = true := by simp; omega
    have HX := Lib.hid hn
    have HY := Lib.hid hm
    clear hn hm
    go_enter Try.func11, Try.ntmps11
    go_wp2
    go_ret
    refine ⟨?_, 0, rfl⟩
    have : sameB xs ys = false := by
      unfold sameB
      rw [decide_eq_false_iff_not]
      intro e
      apply hne
      rw [← HX.out, ← HY.out, e]
    rw [this]
    rfl
def shortN (n : Nat) : Nat := if 20 < n then 20 else n
theorem shortN_le (n : Nat) : shortN n ≤ n ∧ shortN n ≤ 20 := by unfold shortN; split <;> omega
theorem short_any (A : Option Addr) (n c : Nat) (w : World) (hn : n ≤ c) (hc : c ≤ maxLen) :
    Calls Try.prog 15 #[.slice A n c] w fun e w' => e = .returned (.slice A (shortN n) c) ∧ w = w' := by
  unfold maxLen at hc
  have hcut : 20 < n → (Instr.slice 27 (.slice A n c) none (some (.int .i64 20)) none).run Try.prog w = .ok (.slice A 20 c) w := fun h => Rgint.elt.run_pre A n c 20 (by omega) hn w
  unfold shortN
  by_cases h : 20 < n
  · have hcut := hcut h
    go_enter Try.func15, Try.ntmps15
    go_wp2
    go_ret
    exact ⟨rfl, rfl⟩
  · clear hcut
    go_enter Try.func15, Try.ntmps15
    go_wp2
    go_ret
    exact ⟨rfl, rfl⟩
end Go.Proofs.Ytgeihelpggncgaa
