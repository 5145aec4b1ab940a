/- Sums continued, by the program and by the reference. -/
import Derived.Test.YtcmakhkbkfkhkaaA4
set_option linter.unusedSimpArgs false
set_option linter.unusedVariables false
namespace Go.Proofs.Ytcmakhkbkfkhkaa
open Go.RowKit Go.Shelf

theorem and16 (s : Int) (h0 : 0 ≤ s) (h1 : s < 4294967296) : bits .and .u32 s 65535 = s % 65536 := by
  have := bits_mask .u32 32 (by decide) (fun n a b => by rw [IntKind.wrap_u32]; omega) 16 (by decide) s h0 (by omega)
  simpa using this

end Go.Proofs.Ytcmakhkbkfkhkaa
