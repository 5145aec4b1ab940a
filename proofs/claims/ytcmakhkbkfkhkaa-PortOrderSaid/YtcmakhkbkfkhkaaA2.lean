/- What adds bytes to a pair of sums. -/
import Derived.Test.YtcmakhkbkfkhkaaA1
set_option linter.unusedSimpArgs false
set_option linter.unusedVariables false
namespace Go.Proofs.Ytcmakhkbkfkhkaa
open Go.RowKit Go.Shelf
attribute [local go_sem] Oper.semAt_some

/-- Adler's two sums go on. -/
def adA (a b : Int) (l : List Int) : Int := rawA a b l % 65521
def adB (a b : Int) (l : List Int) : Int := rawB a b l % 65521
def pr (a b : Int) (r : List Value) : List Value := .int .u64 a :: .int .u64 b :: r
theorem raw_small (a b : Int) (k : Nat) (hk : k ≤ 65536) (ha0 : 0 ≤ a) (ha : a < 65521) (hb : b < 65521) (s : Int) (h : s ≤ b + k * (a + 256 * k)) : s < 2000000000000 := by
  have h1 : (k : Int) * (a + 256 * k) ≤ 65536 * (65521 + 256 * 65536) := by
    refine Int.le_trans (Int.mul_le_mul_of_nonneg_left (c := (k : Int)) (show a + 256 * (k : Int) ≤ 65521 + 256 * 65536 from by omega) (by omega)) ?_
    exact Int.mul_le_mul_of_nonneg_right (by omega) (by omega)
  omega
end Go.Proofs.Ytcmakhkbkfkhkaa
