/- draws and its reference: mix, At, Key. -/
import Derived.Test.YtiefgicapcljiaaKit3
import Derived.Deep.QuietTactic
import Derived.BigQuiet
set_option linter.unusedSimpArgs false
set_option linter.unusedVariables false
namespace Go.Proofs.Ytiefgicapcljiaa
open Go.RowKit Go.Shelf

/-- A number, mixed. -/
def mix1 (z : Int) : Int := IntKind.u64.wrap (bits BinOp.xor IntKind.u64 z (z / 1073741824) * 13787848793156543929)
def mix2 (z : Int) : Int := IntKind.u64.wrap (bits BinOp.xor IntKind.u64 z (z / 134217728) * 10723151780598845931)
def mixV (z : Int) : Int := bits BinOp.xor IntKind.u64 (mix2 (mix1 z)) (mix2 (mix1 z) / 2147483648)
theorem mixV_bounds (z : Int) : 0 ≤ mixV z ∧ mixV z < 18446744073709551616 := by
  unfold mixV bits
  rw [IntKind.wrap_u64]
  omega
/-- The i-th number of a seed. -/
def atV (seed i : Int) : Int := mixV (IntKind.u64.wrap (seed + IntKind.u64.wrap (IntKind.u64.wrap (IntKind.u64.wrap i + 1) * 11400714819323198485)))
theorem atV_bounds (s i : Int) : 0 ≤ atV s i ∧ atV s i < 18446744073709551616 := mixV_bounds _
theorem mix_any (z : Int) (w : World) : Calls Try.prog 43 #[.int .u64 z] w fun e w' => e = .returned (.int .u64 (mixV z)) ∧ w = w' := by
  go_enter Try.func43, Try.ntmps43
  go_wp2
  go_ret
  exact ⟨rfl, rfl⟩
theorem rmix_any (z : Int) (w : World) : Calls Try.prog 42 #[.int .u64 z] w fun e w' => e = .returned (.int .u64 (mixV z)) ∧ w = w' := by
  go_enter Try.func42, Try.ntmps42
  go_wp2
  go_ret
  exact ⟨rfl, rfl⟩
theorem at_any (s i : Int) (w : World) : Calls Try.prog 41 #[.int .u64 s, .int .i64 i] w fun e w' => e = .returned (.int .u64 (atV s i)) ∧ w = w' := by
  go_enter Try.func41, Try.ntmps41
  go_wp2_with (go_at_call 43; refine (mix_any _ _).mono ?_; rintro e w' ⟨rfl, rfl⟩)
  go_ret
  exact ⟨rfl, rfl⟩
theorem rat_any (s i : Int) (w : World) : Calls Try.prog 40 #[.int .u64 s, .int .i64 i] w fun e w' => e = .returned (.int .u64 (atV s i)) ∧ w = w' := by
  go_enter Try.func40, Try.ntmps40
  go_wp2_with (go_at_call 42; refine (rmix_any _ _).mono ?_; rintro e w' ⟨rfl, rfl⟩)
  go_ret
  exact ⟨rfl, rfl⟩
/-- The key of numbers. -/
def keyV (h : Int) : List Int → Int
  | [] => h
  | x :: l => keyV (mixV (IntKind.u64.wrap (IntKind.u64.wrap (h + IntKind.u64.wrap x) + 11400714819323198485))) l
theorem keyV_snoc (h : Int) (l : List Int) (x : Int) : keyV h (l ++ [x]) = mixV (IntKind.u64.wrap (IntKind.u64.wrap (keyV h l + IntKind.u64.wrap x) + 11400714819323198485)) := by
  induction l generalizing h with
  | nil => rfl
  | cons y l ih => exact ih _
theorem keyV_take (l : List Int) (k : Nat) (hk : k < l.length) : keyV 0 (l.take (k + 1)) = mixV (IntKind.u64.wrap (IntKind.u64.wrap (keyV 0 (l.take k) + IntKind.u64.wrap (l.getD k 0)) + 11400714819323198485)) := by
  rw [List.take_succ_eq_append_getElem hk, keyV_snoc]
  simp [hk]
end Go.Proofs.Ytiefgicapcljiaa
