/-
  No cell of these rows narrows 'for every input' (looked for: loops, veiled, ifaces, maps, wideKeys, modest, calm, conditions, laid).
  DERIVED. THE GIVEN ROWS OF THIS SEAT. 4 by the template 'for every input the law returns true; each argument reads behind the call as it read before'; 0 by the template 'total and deterministic' (their statements: YtcmakhkbkfkhkaaTotals.lean).
  GIVEN WITH THE SEED: the statements are not yours to turn. If you find one false, say at which input.
  Laid BY PROGRAM, IN A SANDBOX (cutbox-rows.mjs): the forced cells as the released guide's own fill.sh prints them over the translation 86c9ca7993d9072f… (all of the seat's roots in one cut). By AI agents, Wed Nov 11 2026. No macro, syntax, notation, axiom, sorry.
-/
import Derived.Test.YtcmakhkbkfkhkaaChecked
import GoSem.Claim
import GoSem.ClaimJoined
import GoSem.ClaimMapViews
import Derived.JoinedTies
import Derived.KernelRfl
namespace Go.Proofs.Ytcmakhkbkfkhkaa
/- THE CELL 'sum', in the pinned program and in every row, IS THE sha256 OF THE DUMP (.gsa) THAT YtcmakhkbkfkhkaaProg.lean LOADS. Nothing in Lean hashes anything: it is a label: what it is worth is what the hold of that sum in a sandbox is worth. -/
noncomputable def Try.pinned : Pinned := { name := "ytcmakhkbkfkhkaa", sum := "86c9ca7993d9072f82705264a2a8566b4f452b0a1aa871fde0a4cec03fd78a89", checked := Try.checked }
namespace Rows
def none {H : Type} : Left H := { results := [], args := [] }

/-- 'nozzlelaw08.PortRuns': WHATEVER THE INPUT: true; the input reads as it did. -/
def portRunsSpec : ChangeSpec := { name := "portRuns", fn := fun _ => fun
  | [d1, d2, d3, d4] => { results := [.lit (.bool true)], args := [d1, d2, d3, d4] }
  | _ => none }
def portRunsRow : OpenClaim := { program := "ytcmakhkbkfkhkaa", sum := "86c9ca7993d9072f82705264a2a8566b4f452b0a1aa871fde0a4cec03fd78a89", func := "nozzle/nozzlelaw08.PortRuns", spec := "portRuns", apart := false }
def PortRunsSaid : Prop := portRunsRow.holds Try.pinned (OpenSpec.ofChange portRunsSpec)

/-- ITS FALSE NEIGHBOUR: 'it returns false'. Refute it at one input. -/
def portRunsWrong : ChangeSpec := { name := "portRuns", fn := fun _ => fun
  | [d1, d2, d3, d4] => { results := [.lit (.bool false)], args := [d1, d2, d3, d4] }
  | _ => none }
def PortRunsWrongFalsely : Prop := portRunsRow.holds Try.pinned (OpenSpec.ofChange portRunsWrong)

/-- 'nozzlelaw08.PortOrder': WHATEVER THE INPUT: true; the input reads as it did. -/
def portOrderSpec : ChangeSpec := { name := "portOrder", fn := fun _ => fun
  | [d1, d2, d3] => { results := [.lit (.bool true)], args := [d1, d2, d3] }
  | _ => none }
def portOrderRow : OpenClaim := { program := "ytcmakhkbkfkhkaa", sum := "86c9ca7993d9072f82705264a2a8566b4f452b0a1aa871fde0a4cec03fd78a89", func := "nozzle/nozzlelaw08.PortOrder", spec := "portOrder", apart := false }
def PortOrderSaid : Prop := portOrderRow.holds Try.pinned (OpenSpec.ofChange portOrderSpec)

/-- ITS FALSE NEIGHBOUR: 'it returns false'. Refute it at one input. -/
def portOrderWrong : ChangeSpec := { name := "portOrder", fn := fun _ => fun
  | [d1, d2, d3] => { results := [.lit (.bool false)], args := [d1, d2, d3] }
  | _ => none }
def PortOrderWrongFalsely : Prop := portOrderRow.holds Try.pinned (OpenSpec.ofChange portOrderWrong)

/-- 'nozzlelaw08.PortWeighs': WHATEVER THE INPUT: true; the input reads as it did. -/
def portWeighsSpec : ChangeSpec := { name := "portWeighs", fn := fun _ => fun
  | [d1, d2] => { results := [.lit (.bool true)], args := [d1, d2] }
  | _ => none }
def portWeighsRow : OpenClaim := { program := "ytcmakhkbkfkhkaa", sum := "86c9ca7993d9072f82705264a2a8566b4f452b0a1aa871fde0a4cec03fd78a89", func := "nozzle/nozzlelaw08.PortWeighs", spec := "portWeighs", apart := false }
def PortWeighsSaid : Prop := portWeighsRow.holds Try.pinned (OpenSpec.ofChange portWeighsSpec)

/-- ITS FALSE NEIGHBOUR: 'it returns false'. Refute it at one input. -/
def portWeighsWrong : ChangeSpec := { name := "portWeighs", fn := fun _ => fun
  | [d1, d2] => { results := [.lit (.bool false)], args := [d1, d2] }
  | _ => none }
def PortWeighsWrongFalsely : Prop := portWeighsRow.holds Try.pinned (OpenSpec.ofChange portWeighsWrong)

/-- 'nozzlelaw08.PortNobody': WHATEVER THE INPUT: true; the input reads as it did. -/
def portNobodySpec : ChangeSpec := { name := "portNobody", fn := fun _ => fun
  | [d1, d2] => { results := [.lit (.bool true)], args := [d1, d2] }
  | _ => none }
def portNobodyRow : OpenClaim := { program := "ytcmakhkbkfkhkaa", sum := "86c9ca7993d9072f82705264a2a8566b4f452b0a1aa871fde0a4cec03fd78a89", func := "nozzle/nozzlelaw08.PortNobody", spec := "portNobody", apart := false }
def PortNobodySaid : Prop := portNobodyRow.holds Try.pinned (OpenSpec.ofChange portNobodySpec)

/-- ITS FALSE NEIGHBOUR: 'it returns false'. Refute it at one input. -/
def portNobodyWrong : ChangeSpec := { name := "portNobody", fn := fun _ => fun
  | [d1, d2] => { results := [.lit (.bool false)], args := [d1, d2] }
  | _ => none }
def PortNobodyWrongFalsely : Prop := portNobodyRow.holds Try.pinned (OpenSpec.ofChange portNobodyWrong)

/- THE SECOND FORM. 'bulk': how many values and letters a reading holds, each counted each time it is reached (what is shared counts as often as it is met; a slice's spare places count too). A statement '..UptoSaid' is the law's where the arguments, and the package variables that the reading takes, are together of bulk at most 1048576: NARROWER than '..Said'. Prove '..Said' where nothing that the law and all that it calls make is longer than what came in: it says more and counts as full. Else prove '..UptoSaid'. A law counts once. -/
mutual
def uptoBulk {H : Type} : DataW H → Nat
  | .lit (.string bytes) => bytes.length + 1
  | .lit _ => 1
  | .nil => 1
  | .ptr d => uptoBulk d + 1
  | .slice elems spare => uptoBulkAll elems + uptoBulkAll spare + 1
  | .agg parts => uptoBulkAll parts + 1
  | .iface _ d => uptoBulk d + 1
  | .map entries => uptoBulkEntries entries + 1
  | .held _ => 1
def uptoBulkAll {H : Type} : List (DataW H) → Nat
  | [] => 0
  | d :: r => uptoBulk d + uptoBulkAll r
def uptoBulkEntries {H : Type} : List (Lit × DataW H) → Nat
  | [] => 0
  | x :: r => uptoBulkEntry x + uptoBulkEntries r
def uptoBulkEntry {H : Type} : Lit × DataW H → Nat
  | (.string bytes, d) => bytes.length + uptoBulk d + 1
  | (_, d) => uptoBulk d + 1
 end
def uptoSmall : (H : Type) → List (DataW H) → Bool := fun _ ds => decide (uptoBulkAll ds ≤ 1048576)
def OpenSpec.upto (s : _root_.Go.ChangeSpec) : _root_.Go.OpenSpec := { _root_.Go.OpenSpec.ofChange s with cond := some uptoSmall }

/-- 'nozzlelaw08.PortRuns', WHERE WHAT IT READS IS OF BULK AT MOST 1048576: true; the input reads as it did. -/
def portRunsUptoRow : OpenClaim := { program := "ytcmakhkbkfkhkaa", sum := "86c9ca7993d9072f82705264a2a8566b4f452b0a1aa871fde0a4cec03fd78a89", func := "nozzle/nozzlelaw08.PortRuns", spec := "portRuns", apart := false, narrowed := true }
def PortRunsUptoSaid : Prop := portRunsUptoRow.holds Try.pinned (OpenSpec.upto portRunsSpec)

/-- 'nozzlelaw08.PortOrder', WHERE WHAT IT READS IS OF BULK AT MOST 1048576: true; the input reads as it did. -/
def portOrderUptoRow : OpenClaim := { program := "ytcmakhkbkfkhkaa", sum := "86c9ca7993d9072f82705264a2a8566b4f452b0a1aa871fde0a4cec03fd78a89", func := "nozzle/nozzlelaw08.PortOrder", spec := "portOrder", apart := false, narrowed := true }
def PortOrderUptoSaid : Prop := portOrderUptoRow.holds Try.pinned (OpenSpec.upto portOrderSpec)

/-- 'nozzlelaw08.PortWeighs', WHERE WHAT IT READS IS OF BULK AT MOST 1048576: true; the input reads as it did. -/
def portWeighsUptoRow : OpenClaim := { program := "ytcmakhkbkfkhkaa", sum := "86c9ca7993d9072f82705264a2a8566b4f452b0a1aa871fde0a4cec03fd78a89", func := "nozzle/nozzlelaw08.PortWeighs", spec := "portWeighs", apart := false, narrowed := true }
def PortWeighsUptoSaid : Prop := portWeighsUptoRow.holds Try.pinned (OpenSpec.upto portWeighsSpec)

/-- 'nozzlelaw08.PortNobody', WHERE WHAT IT READS IS OF BULK AT MOST 1048576: true; the input reads as it did. -/
def portNobodyUptoRow : OpenClaim := { program := "ytcmakhkbkfkhkaa", sum := "86c9ca7993d9072f82705264a2a8566b4f452b0a1aa871fde0a4cec03fd78a89", func := "nozzle/nozzlelaw08.PortNobody", spec := "portNobody", apart := false, narrowed := true }
def PortNobodyUptoSaid : Prop := portNobodyUptoRow.holds Try.pinned (OpenSpec.upto portNobodySpec)

end Rows
end Go.Proofs.Ytcmakhkbkfkhkaa
