/- The law of draws told, by what comes in. -/
import Derived.Test.YtofjnpcfdmkdoaaL1
import Derived.Test.YtofjnpcfdmkdoaaOpenV
set_option linter.unusedSimpArgs false
set_option linter.unusedVariables false
namespace Go.Proofs.Ytofjnpcfdmkdoaa
open Go.RowKit Go.Shelf
theorem i64_bounds {x : Int} (h : (Lit.int .i64 x).wf = true) : -9223372036854775808 ≤ x ∧ x ≤ 9223372036854775807 := by
  simp [Lit.wf, IntKind.min, IntKind.max, IntKind.signed, IntKind.bits] at h
  omega
theorem lawToldI (s i : Int) (A : Option Addr) (n c : Nat) (xs : List Int) (m : Int) (w : World) (h : Rd .i64 w A n c xs) (hi : (Lit.int .i64 i).wf = true) (hm : (Lit.int .u8 m).wf = true) :
    Calls Try.prog 3 #[.int .u64 s, .int .i64 i, .slice A n c, .int .u8 m] w fun e w' => e = .returned (.bool true) ∧ Below w.heap.size w w' := by
  have hb := u8_bounds hm
  obtain ⟨M, rfl⟩ := Int.eq_ofNat_of_zero_le hb.1
  exact lawTold s i A n c xs M w h (i64_bounds hi).1 (i64_bounds hi).2 (by omega)
end Go.Proofs.Ytofjnpcfdmkdoaa
