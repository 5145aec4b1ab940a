/-
  No cell of these rows narrows 'for every input' (looked for: loops, veiled, ifaces, maps, wideKeys, modest, calm, conditions, laid).
  DERIVED. THE GIVEN ROWS OF THIS SEAT. 3 by the template 'for every input the law returns true; each argument reads behind the call as it read before'; 0 by the template 'total and deterministic' (their statements: YtiefgicapcljiaaTotals.lean).
  GIVEN WITH THE SEED: the statements are not yours to turn. If you find one false, say at which input.
  Laid BY PROGRAM, IN A SANDBOX (cutbox-rows.mjs): the forced cells as the released guide's own fill.sh prints them over the translation 759fda078da115b5… (all of the seat's roots in one cut). By AI agents, Wed Nov 11 2026. No macro, syntax, notation, axiom, sorry.
-/
import Derived.Test.YtiefgicapcljiaaChecked
import GoSem.Claim
import GoSem.ClaimJoined
import GoSem.ClaimMapViews
import Derived.JoinedTies
import Derived.KernelRfl
namespace Go.Proofs.Ytiefgicapcljiaa
/- THE CELL 'sum', in the pinned program and in every row, IS THE sha256 OF THE DUMP (.gsa) THAT YtiefgicapcljiaaProg.lean LOADS. Nothing in Lean hashes anything: it is a label: what it is worth is what the hold of that sum in a sandbox is worth. -/
noncomputable def Try.pinned : Pinned := { name := "ytiefgicapcljiaa", sum := "759fda078da115b5858a933d78848e4f3f0da269cd76717f5e554fcc9e65186c", checked := Try.checked }
namespace Rows
def none {H : Type} : Left H := { results := [], args := [] }

/-- 'nozzlelaw06.PermRuns': WHATEVER THE INPUT: true; the input reads as it did. -/
def permRunsSpec : ChangeSpec := { name := "permRuns", fn := fun _ => fun
  | [d1, d2, d3] => { results := [.lit (.bool true)], args := [d1, d2, d3] }
  | _ => none }
def permRunsRow : OpenClaim := { program := "ytiefgicapcljiaa", sum := "759fda078da115b5858a933d78848e4f3f0da269cd76717f5e554fcc9e65186c", func := "nozzle/nozzlelaw06.PermRuns", spec := "permRuns", unfollowed := true, recurses := true, apart := false }
def PermRunsSaid : Prop := permRunsRow.holds Try.pinned (OpenSpec.ofChange permRunsSpec)

/-- ITS FALSE NEIGHBOUR: 'it returns false'. Refute it at one input. -/
def permRunsWrong : ChangeSpec := { name := "permRuns", fn := fun _ => fun
  | [d1, d2, d3] => { results := [.lit (.bool false)], args := [d1, d2, d3] }
  | _ => none }
def PermRunsWrongFalsely : Prop := permRunsRow.holds Try.pinned (OpenSpec.ofChange permRunsWrong)

/-- 'nozzlelaw06.PermRounds': WHATEVER THE INPUT: true; the input reads as it did. -/
def permRoundsSpec : ChangeSpec := { name := "permRounds", fn := fun _ => fun
  | [d1, d2, d3] => { results := [.lit (.bool true)], args := [d1, d2, d3] }
  | _ => none }
def permRoundsRow : OpenClaim := { program := "ytiefgicapcljiaa", sum := "759fda078da115b5858a933d78848e4f3f0da269cd76717f5e554fcc9e65186c", func := "nozzle/nozzlelaw06.PermRounds", spec := "permRounds", unfollowed := true, recurses := true, apart := false }
def PermRoundsSaid : Prop := permRoundsRow.holds Try.pinned (OpenSpec.ofChange permRoundsSpec)

/-- ITS FALSE NEIGHBOUR: 'it returns false'. Refute it at one input. -/
def permRoundsWrong : ChangeSpec := { name := "permRounds", fn := fun _ => fun
  | [d1, d2, d3] => { results := [.lit (.bool false)], args := [d1, d2, d3] }
  | _ => none }
def PermRoundsWrongFalsely : Prop := permRoundsRow.holds Try.pinned (OpenSpec.ofChange permRoundsWrong)

/-- 'nozzlelaw06.PermNobody': WHATEVER THE INPUT: true; the input reads as it did. -/
def permNobodySpec : ChangeSpec := { name := "permNobody", fn := fun _ => fun
  | [d] => { results := [.lit (.bool true)], args := [d] }
  | _ => none }
def permNobodyRow : OpenClaim := { program := "ytiefgicapcljiaa", sum := "759fda078da115b5858a933d78848e4f3f0da269cd76717f5e554fcc9e65186c", func := "nozzle/nozzlelaw06.PermNobody", spec := "permNobody", unfollowed := true, recurses := true, apart := false }
def PermNobodySaid : Prop := permNobodyRow.holds Try.pinned (OpenSpec.ofChange permNobodySpec)

/-- ITS FALSE NEIGHBOUR: 'it returns false'. Refute it at one input. -/
def permNobodyWrong : ChangeSpec := { name := "permNobody", fn := fun _ => fun
  | [d] => { results := [.lit (.bool false)], args := [d] }
  | _ => none }
def PermNobodyWrongFalsely : Prop := permNobodyRow.holds Try.pinned (OpenSpec.ofChange permNobodyWrong)

/- THE SECOND FORM. 'bulk': how many values and letters a reading holds, each counted each time it is reached (what is shared counts as often as it is met; a slice's spare places count too). A statement '..UptoSaid' is the law's where the arguments, and the package variables that the reading takes, are together of bulk at most 1048576: NARROWER than '..Said'. Prove '..Said' where nothing that the law and all that it calls make is longer than what came in: it says more and counts as full. Else prove '..UptoSaid'. A law counts once. -/
mutual
def uptoBulk {H : Type} : DataW H → Nat
  | .lit (.string bytes) => bytes.length + 1
  | .lit _ => 1
  | .nil => 1
  | .ptr d => uptoBulk d + 1
  | .slice elems spare => uptoBulkAll elems + uptoBulkAll spare + 1
  | .agg parts => uptoBulkAll parts + 1
  | .iface _ d => uptoBulk d + 1
  | .map entries => uptoBulkEntries entries + 1
  | .held _ => 1
def uptoBulkAll {H : Type} : List (DataW H) → Nat
  | [] => 0
  | d :: r => uptoBulk d + uptoBulkAll r
def uptoBulkEntries {H : Type} : List (Lit × DataW H) → Nat
  | [] => 0
  | x :: r => uptoBulkEntry x + uptoBulkEntries r
def uptoBulkEntry {H : Type} : Lit × DataW H → Nat
  | (.string bytes, d) => bytes.length + uptoBulk d + 1
  | (_, d) => uptoBulk d + 1
 end
def uptoSmall : (H : Type) → List (DataW H) → Bool := fun _ ds => decide (uptoBulkAll ds ≤ 1048576)
def OpenSpec.upto (s : _root_.Go.ChangeSpec) : _root_.Go.OpenSpec := { _root_.Go.OpenSpec.ofChange s with cond := some uptoSmall }

/-- 'nozzlelaw06.PermRuns', WHERE WHAT IT READS IS OF BULK AT MOST 1048576: true; the input reads as it did. -/
def permRunsUptoRow : OpenClaim := { program := "ytiefgicapcljiaa", sum := "759fda078da115b5858a933d78848e4f3f0da269cd76717f5e554fcc9e65186c", func := "nozzle/nozzlelaw06.PermRuns", spec := "permRuns", unfollowed := true, recurses := true, apart := false, narrowed := true }
def PermRunsUptoSaid : Prop := permRunsUptoRow.holds Try.pinned (OpenSpec.upto permRunsSpec)

/-- 'nozzlelaw06.PermRounds', WHERE WHAT IT READS IS OF BULK AT MOST 1048576: true; the input reads as it did. -/
def permRoundsUptoRow : OpenClaim := { program := "ytiefgicapcljiaa", sum := "759fda078da115b5858a933d78848e4f3f0da269cd76717f5e554fcc9e65186c", func := "nozzle/nozzlelaw06.PermRounds", spec := "permRounds", unfollowed := true, recurses := true, apart := false, narrowed := true }
def PermRoundsUptoSaid : Prop := permRoundsUptoRow.holds Try.pinned (OpenSpec.upto permRoundsSpec)

/-- 'nozzlelaw06.PermNobody', WHERE WHAT IT READS IS OF BULK AT MOST 1048576: true; the input reads as it did. -/
def permNobodyUptoRow : OpenClaim := { program := "ytiefgicapcljiaa", sum := "759fda078da115b5858a933d78848e4f3f0da269cd76717f5e554fcc9e65186c", func := "nozzle/nozzlelaw06.PermNobody", spec := "permNobody", unfollowed := true, recurses := true, apart := false, narrowed := true }
def PermNobodyUptoSaid : Prop := permNobodyUptoRow.holds Try.pinned (OpenSpec.upto permNobodySpec)

end Rows
end Go.Proofs.Ytiefgicapcljiaa
