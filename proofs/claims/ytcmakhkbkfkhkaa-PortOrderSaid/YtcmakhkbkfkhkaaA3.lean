/- What adds bytes to a pair of sums, any bytes; the objects made of pairs. -/
import Derived.Test.YtcmakhkbkfkhkaaA2
set_option linter.unusedSimpArgs false
set_option linter.unusedVariables false
namespace Go.Proofs.Ytcmakhkbkfkhkaa
open Go.RowKit Go.Shelf
attribute [local go_sem] Oper.semAt_some

end Go.Proofs.Ytcmakhkbkfkhkaa
