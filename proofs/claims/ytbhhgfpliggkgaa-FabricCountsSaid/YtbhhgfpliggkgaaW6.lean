/- The reference: which packets may be. -/
import Derived.Test.YtbhhgfpliggkgaaW5
set_option linter.unusedSimpArgs false
set_option linter.unusedVariables false
namespace Go.Proofs.Ytbhhgfpliggkgaa
open Go.RowKit Go.Shelf

set_option maxHeartbeats 400000 in
theorem rwit_any (a lo hi : Int) (w : World) : Calls Try.prog 81 #[.int .i64 a, .int .i64 lo, .int .i64 hi] w fun e w' => e = .returned (.bool (witB a lo hi)) ∧ w = w' := by
  unfold witB
  by_cases h1 : lo ≤ a
  · by_cases h2 : a ≤ hi <;>
    · go_enter Try.func81, Try.ntmps81
      go_wp2
      go_ret
      exact ⟨by simp [h1, h2], rfl⟩
  · go_enter Try.func81, Try.ntmps81
    go_wp2
    go_ret
    exact ⟨by simp; omega, rfl⟩
set_option maxHeartbeats 400000 in
theorem rhas_any (f g : Int) (w : World) (hg : 0 < g) (hg' : g ≤ 63) (hf : f ≤ 9223372036854775807) : Calls Try.prog 72 #[.int .i64 f, .int .i64 g] w fun e w' => e = .returned (.bool (hasB f g)) ∧ w = w' := by
  unfold hasB
  by_cases h1 : 0 ≤ f
  · go_enter Try.func72, Try.ntmps72
    go_wp2
    go_ret
    exact ⟨by have := Int.tmod_eq_emod_of_nonneg (b := 2) (Int.ediv_nonneg h1 (Int.le_of_lt hg)); simp [this, h1]; exact Bool.eq_iff_iff.2 (by simp), rfl⟩
  · go_enter Try.func72, Try.ntmps72
    go_wp2
    go_ret
    exact ⟨by simp; omega, rfl⟩
set_option maxHeartbeats 4000000 in
theorem rdata_any (kd fl pa sr ds cn sq pu : Int) (A : Option Addr) (n c : Nat) (w : World) (hf : fl ≤ 9223372036854775807) : Calls Try.prog 82 #[.agg #[.int .i64 kd, .int .i64 fl, .int .i64 pa, .int .i64 sr, .int .i64 ds, .int .i64 cn, .int .i64 sq, .int .i64 pu, .slice A n c]] w fun e w' => e = .returned (.bool (pu == 0 && dtB fl n)) ∧ Below w.heap.size w w' := by
  unfold dtB
  by_cases hp : pu = 0
  · subst hp
    go_enter Try.func82, Try.ntmps82
    go_wp2_with (first | (go_at_call 81; refine (rwit_any _ _ _ _).mono ?_; rintro e w' ⟨rfl, rfl⟩) | (go_at_call 72; refine (rhas_any _ _ _ (by decide) (by decide) hf).mono ?_; rintro e w' ⟨rfl, rfl⟩))
    all_goals
      go_ret
      exact ⟨by simp_all, (Below.refl _ _).alloc (Nat.le_refl _) _⟩
  · have hp' : (pu == 0) = false := by simpa using hp
    have hp'' : (pu != 0) = true := by simpa using hp
    rw [hp', Bool.false_and]
    go_enter Try.func82, Try.ntmps82
    go_wp2_with (first | (go_at_call 81; refine (rwit_any _ _ _ _).mono ?_; rintro e w' ⟨rfl, rfl⟩) | (go_at_call 72; refine (rhas_any _ _ _ (by decide) (by decide) hf).mono ?_; rintro e w' ⟨rfl, rfl⟩))
    all_goals
      go_ret
      exact ⟨rfl, (Below.refl _ _).alloc (Nat.le_refl _) _⟩
set_option maxHeartbeats 8000000 in
theorem ris_any (kd fl pa sr ds cn sq pu : Int) (A : Option Addr) (n c : Nat) (w : World) (hf : fl ≤ 9223372036854775807) : Calls Try.prog 70 #[.agg #[.int .i64 kd, .int .i64 fl, .int .i64 pa, .int .i64 sr, .int .i64 ds, .int .i64 cn, .int .i64 sq, .int .i64 pu, .slice A n c]] w fun e w' => e = .returned (.bool (chkB ⟨kd, fl, pa, sr, ds, cn, sq, pu⟩ n)) ∧ Below w.heap.size w w' := by
  unfold chkB plB nmB kdB brB
  dsimp only
  have HD := Lib.hid (fun w => rdata_any kd fl pa sr ds cn sq pu A n c w hf)
  go_enter Try.func70, Try.ntmps70
  go_wp2_with (first | (go_at_call 81; refine (rwit_any _ _ _ _).mono ?_; rintro e w' ⟨rfl, rfl⟩) | (go_at_call 82; refine (rdata_any _ _ _ _ _ _ _ _ _ _ _ _ hf).mono ?_; rintro e w1 ⟨rfl, hb1⟩; have hc := ((Below.refl _ _).alloc (Nat.le_refl w.heap.size) _).trans (hb1.mono (by simp)); clear hb1))
  all_goals
    go_ret
    exact ⟨by simp_all; try (rw [Bool.eq_iff_iff]; simp; omega), by first | assumption | exact (Below.refl _ _).alloc (Nat.le_refl _) _⟩
end Go.Proofs.Ytbhhgfpliggkgaa
