/-
  No cell of these rows narrows 'for every input' (looked for: loops, veiled, ifaces, maps, wideKeys, modest, calm, conditions, laid).
  DERIVED. THE GIVEN ROWS OF THIS SEAT. 3 by the template 'for every input the law returns true; each argument reads behind the call as it read before'; 0 by the template 'total and deterministic' (their statements: YtnakoplceplmmaaTotals.lean).
  GIVEN WITH THE SEED: the statements are not yours to turn. If you find one false, say at which input.
  Laid BY PROGRAM, IN A SANDBOX (cutbox-rows.mjs): the forced cells as the released guide's own fill.sh prints them over the translation 466cd63acb307923… (all of the seat's roots in one cut). By AI agents, Wed Nov 11 2026. No macro, syntax, notation, axiom, sorry.
-/
import Derived.Test.YtnakoplceplmmaaChecked
import GoSem.Claim
import GoSem.ClaimJoined
import GoSem.ClaimMapViews
import Derived.JoinedTies
import Derived.KernelRfl
namespace Go.Proofs.Ytnakoplceplmmaa
/- THE CELL 'sum', in the pinned program and in every row, IS THE sha256 OF THE DUMP (.gsa) THAT YtnakoplceplmmaaProg.lean LOADS. Nothing in Lean hashes anything: it is a label: what it is worth is what the hold of that sum in a sandbox is worth. -/
noncomputable def Try.pinned : Pinned := { name := "ytnakoplceplmmaa", sum := "466cd63acb307923934e3c1d6a9bb1c1afd665c1e3c7a5a84eda1369087fb298", checked := Try.checked }
namespace Rows
def none {H : Type} : Left H := { results := [], args := [] }

/-- 'nozzlelaw13.SendqRuns': WHATEVER THE INPUT: true; the input reads as it did. -/
def sendqRunsSpec : ChangeSpec := { name := "sendqRuns", fn := fun _ => fun
  | [d1, d2] => { results := [.lit (.bool true)], args := [d1, d2] }
  | _ => none }
def sendqRunsRow : OpenClaim := { program := "ytnakoplceplmmaa", sum := "466cd63acb307923934e3c1d6a9bb1c1afd665c1e3c7a5a84eda1369087fb298", func := "nozzle/nozzlelaw13.SendqRuns", spec := "sendqRuns", unfollowed := true, recurses := true, apart := false }
def SendqRunsSaid : Prop := sendqRunsRow.holds Try.pinned (OpenSpec.ofChange sendqRunsSpec)

/-- ITS FALSE NEIGHBOUR: 'it returns false'. Refute it at one input. -/
def sendqRunsWrong : ChangeSpec := { name := "sendqRuns", fn := fun _ => fun
  | [d1, d2] => { results := [.lit (.bool false)], args := [d1, d2] }
  | _ => none }
def SendqRunsWrongFalsely : Prop := sendqRunsRow.holds Try.pinned (OpenSpec.ofChange sendqRunsWrong)

/-- 'nozzlelaw13.SendqAll': WHATEVER THE INPUT: true; the input reads as it did. -/
def sendqAllSpec : ChangeSpec := { name := "sendqAll", fn := fun _ => fun
  | [d1, d2] => { results := [.lit (.bool true)], args := [d1, d2] }
  | _ => none }
def sendqAllRow : OpenClaim := { program := "ytnakoplceplmmaa", sum := "466cd63acb307923934e3c1d6a9bb1c1afd665c1e3c7a5a84eda1369087fb298", func := "nozzle/nozzlelaw13.SendqAll", spec := "sendqAll", unfollowed := true, recurses := true, apart := false }
def SendqAllSaid : Prop := sendqAllRow.holds Try.pinned (OpenSpec.ofChange sendqAllSpec)

/-- ITS FALSE NEIGHBOUR: 'it returns false'. Refute it at one input. -/
def sendqAllWrong : ChangeSpec := { name := "sendqAll", fn := fun _ => fun
  | [d1, d2] => { results := [.lit (.bool false)], args := [d1, d2] }
  | _ => none }
def SendqAllWrongFalsely : Prop := sendqAllRow.holds Try.pinned (OpenSpec.ofChange sendqAllWrong)

/-- 'nozzlelaw13.SendqNobody': WHATEVER THE INPUT: true; the input reads as it did. -/
def sendqNobodySpec : ChangeSpec := { name := "sendqNobody", fn := fun _ => fun
  | [d] => { results := [.lit (.bool true)], args := [d] }
  | _ => none }
def sendqNobodyRow : OpenClaim := { program := "ytnakoplceplmmaa", sum := "466cd63acb307923934e3c1d6a9bb1c1afd665c1e3c7a5a84eda1369087fb298", func := "nozzle/nozzlelaw13.SendqNobody", spec := "sendqNobody", unfollowed := true, recurses := true, apart := false }
def SendqNobodySaid : Prop := sendqNobodyRow.holds Try.pinned (OpenSpec.ofChange sendqNobodySpec)

/-- ITS FALSE NEIGHBOUR: 'it returns false'. Refute it at one input. -/
def sendqNobodyWrong : ChangeSpec := { name := "sendqNobody", fn := fun _ => fun
  | [d] => { results := [.lit (.bool false)], args := [d] }
  | _ => none }
def SendqNobodyWrongFalsely : Prop := sendqNobodyRow.holds Try.pinned (OpenSpec.ofChange sendqNobodyWrong)

/- THE SECOND FORM. 'bulk': how many values and letters a reading holds, each counted each time it is reached (what is shared counts as often as it is met; a slice's spare places count too). A statement '..UptoSaid' is the law's where the arguments, and the package variables that the reading takes, are together of bulk at most 1048576: NARROWER than '..Said'. Prove '..Said' where nothing that the law and all that it calls make is longer than what came in: it says more and counts as full. Else prove '..UptoSaid'. A law counts once. -/
mutual
def uptoBulk {H : Type} : DataW H → Nat
  | .lit (.string bytes) => bytes.length + 1
  | .lit _ => 1
  | .nil => 1
  | .ptr d => uptoBulk d + 1
  | .slice elems spare => uptoBulkAll elems + uptoBulkAll spare + 1
  | .agg parts => uptoBulkAll parts + 1
  | .iface _ d => uptoBulk d + 1
  | .map entries => uptoBulkEntries entries + 1
  | .held _ => 1
def uptoBulkAll {H : Type} : List (DataW H) → Nat
  | [] => 0
  | d :: r => uptoBulk d + uptoBulkAll r
def uptoBulkEntries {H : Type} : List (Lit × DataW H) → Nat
  | [] => 0
  | x :: r => uptoBulkEntry x + uptoBulkEntries r
def uptoBulkEntry {H : Type} : Lit × DataW H → Nat
  | (.string bytes, d) => bytes.length + uptoBulk d + 1
  | (_, d) => uptoBulk d + 1
 end
def uptoSmall : (H : Type) → List (DataW H) → Bool := fun _ ds => decide (uptoBulkAll ds ≤ 1048576)
def OpenSpec.upto (s : _root_.Go.ChangeSpec) : _root_.Go.OpenSpec := { _root_.Go.OpenSpec.ofChange s with cond := some uptoSmall }

/-- 'nozzlelaw13.SendqRuns', WHERE WHAT IT READS IS OF BULK AT MOST 1048576: true; the input reads as it did. -/
def sendqRunsUptoRow : OpenClaim := { program := "ytnakoplceplmmaa", sum := "466cd63acb307923934e3c1d6a9bb1c1afd665c1e3c7a5a84eda1369087fb298", func := "nozzle/nozzlelaw13.SendqRuns", spec := "sendqRuns", unfollowed := true, recurses := true, apart := false, narrowed := true }
def SendqRunsUptoSaid : Prop := sendqRunsUptoRow.holds Try.pinned (OpenSpec.upto sendqRunsSpec)

/-- 'nozzlelaw13.SendqAll', WHERE WHAT IT READS IS OF BULK AT MOST 1048576: true; the input reads as it did. -/
def sendqAllUptoRow : OpenClaim := { program := "ytnakoplceplmmaa", sum := "466cd63acb307923934e3c1d6a9bb1c1afd665c1e3c7a5a84eda1369087fb298", func := "nozzle/nozzlelaw13.SendqAll", spec := "sendqAll", unfollowed := true, recurses := true, apart := false, narrowed := true }
def SendqAllUptoSaid : Prop := sendqAllUptoRow.holds Try.pinned (OpenSpec.upto sendqAllSpec)

/-- 'nozzlelaw13.SendqNobody', WHERE WHAT IT READS IS OF BULK AT MOST 1048576: true; the input reads as it did. -/
def sendqNobodyUptoRow : OpenClaim := { program := "ytnakoplceplmmaa", sum := "466cd63acb307923934e3c1d6a9bb1c1afd665c1e3c7a5a84eda1369087fb298", func := "nozzle/nozzlelaw13.SendqNobody", spec := "sendqNobody", unfollowed := true, recurses := true, apart := false, narrowed := true }
def SendqNobodyUptoSaid : Prop := sendqNobodyUptoRow.holds Try.pinned (OpenSpec.upto sendqNobodySpec)

end Rows
end Go.Proofs.Ytnakoplceplmmaa
