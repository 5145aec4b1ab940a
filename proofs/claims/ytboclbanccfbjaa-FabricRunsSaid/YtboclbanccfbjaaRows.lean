/-
  No cell of these rows narrows 'for every input' (looked for: loops, veiled, ifaces, maps, wideKeys, modest, calm, conditions, laid).
  DERIVED. THE GIVEN ROWS OF THIS SEAT. 3 by the template 'for every input the law returns true; each argument reads behind the call as it read before'; 0 by the template 'total and deterministic' (their statements: YtboclbanccfbjaaTotals.lean).
  GIVEN WITH THE SEED: the statements are not yours to turn. If you find one false, say at which input.
  Laid BY PROGRAM, IN A SANDBOX (cutbox-rows.mjs): the forced cells as the released guide's own fill.sh prints them over the translation 0a2a5a6d6718adb5… (all of the seat's roots in one cut). By AI agents, Wed Nov 11 2026. No macro, syntax, notation, axiom, sorry.
-/
import Derived.Test.YtboclbanccfbjaaChecked
import GoSem.Claim
import GoSem.ClaimJoined
import GoSem.ClaimMapViews
import Derived.JoinedTies
import Derived.KernelRfl
namespace Go.Proofs.Ytboclbanccfbjaa
/- THE CELL 'sum', in the pinned program and in every row, IS THE sha256 OF THE DUMP (.gsa) THAT YtboclbanccfbjaaProg.lean LOADS. Nothing in Lean hashes anything: it is a label: what it is worth is what the hold of that sum in a sandbox is worth. -/
noncomputable def Try.pinned : Pinned := { name := "ytboclbanccfbjaa", sum := "0a2a5a6d6718adb56e49724aa44c8fcb826442e1d78bb311a707a17957c6380c", checked := Try.checked }
namespace Rows
def none {H : Type} : Left H := { results := [], args := [] }

/-- 'nozzlelaw09.FabricRuns': WHATEVER THE INPUT: true; the input reads as it did. -/
def fabricRunsSpec : ChangeSpec := { name := "fabricRuns", fn := fun _ => fun
  | [d1, d2, d3, d4, d5, d6] => { results := [.lit (.bool true)], args := [d1, d2, d3, d4, d5, d6] }
  | _ => none }
def fabricRunsRow : OpenClaim := { program := "ytboclbanccfbjaa", sum := "0a2a5a6d6718adb56e49724aa44c8fcb826442e1d78bb311a707a17957c6380c", func := "nozzle/nozzlelaw09.FabricRuns", spec := "fabricRuns", unfollowed := true, recurses := true, apart := false }
def FabricRunsSaid : Prop := fabricRunsRow.holds Try.pinned (OpenSpec.ofChange fabricRunsSpec)

/-- ITS FALSE NEIGHBOUR: 'it returns false'. Refute it at one input. -/
def fabricRunsWrong : ChangeSpec := { name := "fabricRuns", fn := fun _ => fun
  | [d1, d2, d3, d4, d5, d6] => { results := [.lit (.bool false)], args := [d1, d2, d3, d4, d5, d6] }
  | _ => none }
def FabricRunsWrongFalsely : Prop := fabricRunsRow.holds Try.pinned (OpenSpec.ofChange fabricRunsWrong)

/-- 'nozzlelaw09.FabricCounts': WHATEVER THE INPUT: true; the input reads as it did. -/
def fabricCountsSpec : ChangeSpec := { name := "fabricCounts", fn := fun _ => fun
  | [d1, d2, d3] => { results := [.lit (.bool true)], args := [d1, d2, d3] }
  | _ => none }
def fabricCountsRow : OpenClaim := { program := "ytboclbanccfbjaa", sum := "0a2a5a6d6718adb56e49724aa44c8fcb826442e1d78bb311a707a17957c6380c", func := "nozzle/nozzlelaw09.FabricCounts", spec := "fabricCounts", unfollowed := true, recurses := true, apart := false }
def FabricCountsSaid : Prop := fabricCountsRow.holds Try.pinned (OpenSpec.ofChange fabricCountsSpec)

/-- ITS FALSE NEIGHBOUR: 'it returns false'. Refute it at one input. -/
def fabricCountsWrong : ChangeSpec := { name := "fabricCounts", fn := fun _ => fun
  | [d1, d2, d3] => { results := [.lit (.bool false)], args := [d1, d2, d3] }
  | _ => none }
def FabricCountsWrongFalsely : Prop := fabricCountsRow.holds Try.pinned (OpenSpec.ofChange fabricCountsWrong)

/-- 'nozzlelaw09.FabricNobody': WHATEVER THE INPUT: true; the input reads as it did. -/
def fabricNobodySpec : ChangeSpec := { name := "fabricNobody", fn := fun _ => fun
  | [d1, d2] => { results := [.lit (.bool true)], args := [d1, d2] }
  | _ => none }
def fabricNobodyRow : OpenClaim := { program := "ytboclbanccfbjaa", sum := "0a2a5a6d6718adb56e49724aa44c8fcb826442e1d78bb311a707a17957c6380c", func := "nozzle/nozzlelaw09.FabricNobody", spec := "fabricNobody", unfollowed := true, recurses := true, apart := false }
def FabricNobodySaid : Prop := fabricNobodyRow.holds Try.pinned (OpenSpec.ofChange fabricNobodySpec)

/-- ITS FALSE NEIGHBOUR: 'it returns false'. Refute it at one input. -/
def fabricNobodyWrong : ChangeSpec := { name := "fabricNobody", fn := fun _ => fun
  | [d1, d2] => { results := [.lit (.bool false)], args := [d1, d2] }
  | _ => none }
def FabricNobodyWrongFalsely : Prop := fabricNobodyRow.holds Try.pinned (OpenSpec.ofChange fabricNobodyWrong)

/- THE SECOND FORM. 'bulk': how many values and letters a reading holds, each counted each time it is reached (what is shared counts as often as it is met; a slice's spare places count too). A statement '..UptoSaid' is the law's where the arguments, and the package variables that the reading takes, are together of bulk at most 1048576: NARROWER than '..Said'. Prove '..Said' where nothing that the law and all that it calls make is longer than what came in: it says more and counts as full. Else prove '..UptoSaid'. A law counts once. -/
mutual
def uptoBulk {H : Type} : DataW H → Nat
  | .lit (.string bytes) => bytes.length + 1
  | .lit _ => 1
  | .nil => 1
  | .ptr d => uptoBulk d + 1
  | .slice elems spare => uptoBulkAll elems + uptoBulkAll spare + 1
  | .agg parts => uptoBulkAll parts + 1
  | .iface _ d => uptoBulk d + 1
  | .map entries => uptoBulkEntries entries + 1
  | .held _ => 1
def uptoBulkAll {H : Type} : List (DataW H) → Nat
  | [] => 0
  | d :: r => uptoBulk d + uptoBulkAll r
def uptoBulkEntries {H : Type} : List (Lit × DataW H) → Nat
  | [] => 0
  | x :: r => uptoBulkEntry x + uptoBulkEntries r
def uptoBulkEntry {H : Type} : Lit × DataW H → Nat
  | (.string bytes, d) => bytes.length + uptoBulk d + 1
  | (_, d) => uptoBulk d + 1
 end
def uptoSmall : (H : Type) → List (DataW H) → Bool := fun _ ds => decide (uptoBulkAll ds ≤ 1048576)
def OpenSpec.upto (s : _root_.Go.ChangeSpec) : _root_.Go.OpenSpec := { _root_.Go.OpenSpec.ofChange s with cond := some uptoSmall }

/-- 'nozzlelaw09.FabricRuns', WHERE WHAT IT READS IS OF BULK AT MOST 1048576: true; the input reads as it did. -/
def fabricRunsUptoRow : OpenClaim := { program := "ytboclbanccfbjaa", sum := "0a2a5a6d6718adb56e49724aa44c8fcb826442e1d78bb311a707a17957c6380c", func := "nozzle/nozzlelaw09.FabricRuns", spec := "fabricRuns", unfollowed := true, recurses := true, apart := false, narrowed := true }
def FabricRunsUptoSaid : Prop := fabricRunsUptoRow.holds Try.pinned (OpenSpec.upto fabricRunsSpec)

/-- 'nozzlelaw09.FabricCounts', WHERE WHAT IT READS IS OF BULK AT MOST 1048576: true; the input reads as it did. -/
def fabricCountsUptoRow : OpenClaim := { program := "ytboclbanccfbjaa", sum := "0a2a5a6d6718adb56e49724aa44c8fcb826442e1d78bb311a707a17957c6380c", func := "nozzle/nozzlelaw09.FabricCounts", spec := "fabricCounts", unfollowed := true, recurses := true, apart := false, narrowed := true }
def FabricCountsUptoSaid : Prop := fabricCountsUptoRow.holds Try.pinned (OpenSpec.upto fabricCountsSpec)

/-- 'nozzlelaw09.FabricNobody', WHERE WHAT IT READS IS OF BULK AT MOST 1048576: true; the input reads as it did. -/
def fabricNobodyUptoRow : OpenClaim := { program := "ytboclbanccfbjaa", sum := "0a2a5a6d6718adb56e49724aa44c8fcb826442e1d78bb311a707a17957c6380c", func := "nozzle/nozzlelaw09.FabricNobody", spec := "fabricNobody", unfollowed := true, recurses := true, apart := false, narrowed := true }
def FabricNobodyUptoSaid : Prop := fabricNobodyUptoRow.holds Try.pinned (OpenSpec.upto fabricNobodySpec)

end Rows
end Go.Proofs.Ytboclbanccfbjaa
