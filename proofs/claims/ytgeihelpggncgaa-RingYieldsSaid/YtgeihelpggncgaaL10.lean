/- The law on the iterator, in the statement's words. -/
import Derived.Test.YtgeihelpggncgaaL6
set_option linter.unusedSimpArgs false
set_option linter.unusedVariables false
namespace Go.Proofs.Ytgeihelpggncgaa
open Go.RowKit Go.Shelf Rgint
theorem lawYieldsI (A : Option Addr) (n c : Nat) (xs : List Int) (most : Int) (t : Int) (w : World) (h : Rd .i64 w A n c xs) (hm : (Lit.int .u8 most).wf = true) (ht : (Lit.int .i64 t).wf = true) :
    Calls Try.prog 4 #[.slice A n c, .int .u8 most, .int .i64 t] w fun e w' => e = .returned (.bool true) ∧ Below w.heap.size w w' := by
  have hb := u8_bounds hm
  obtain ⟨m, rfl⟩ := Int.eq_ofNat_of_zero_le hb.1
  exact lawYields A n c xs m t w h (by omega) ht
end Go.Proofs.Ytgeihelpggncgaa
