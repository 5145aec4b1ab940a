import Derived.Test.YtcmakhkbkfkhkaaO3
namespace Go.Proofs.Ytcmakhkbkfkhkaa
open Go.RowKit
end Go.Proofs.Ytcmakhkbkfkhkaa
