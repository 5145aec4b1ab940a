import Derived.Test.YtcmakhkbkfkhkaaO1
namespace Go.Proofs.Ytcmakhkbkfkhkaa
open Go.RowKit
end Go.Proofs.Ytcmakhkbkfkhkaa
