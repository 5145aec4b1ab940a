/-
  No cell of these rows narrows 'for every input' (looked for: loops, veiled, ifaces, maps, wideKeys, modest, calm, conditions, laid).
  DERIVED. THE GIVEN ROWS OF THIS SEAT. 4 by the template 'for every input the law returns true; each argument reads behind the call as it read before'; 0 by the template 'total and deterministic' (their statements: YtdakojggknkidaaTotals.lean).
  GIVEN WITH THE SEED: the statements are not yours to turn. If you find one false, say at which input.
  Laid BY PROGRAM, IN A SANDBOX (cutbox-rows.mjs): the forced cells as the released guide's own fill.sh prints them over the translation 41a48f94a8b2ab41… (all of the seat's roots in one cut). By AI agents, Wed Nov 11 2026. No macro, syntax, notation, axiom, sorry.
-/
import Derived.Test.YtdakojggknkidaaChecked
import GoSem.Claim
import GoSem.ClaimJoined
import GoSem.ClaimMapViews
import Derived.JoinedTies
import Derived.KernelRfl
namespace Go.Proofs.Ytdakojggknkidaa
/- THE CELL 'sum', in the pinned program and in every row, IS THE sha256 OF THE DUMP (.gsa) THAT YtdakojggknkidaaProg.lean LOADS. Nothing in Lean hashes anything: it is a label: what it is worth is what the hold of that sum in a sandbox is worth. -/
noncomputable def Try.pinned : Pinned := { name := "ytdakojggknkidaa", sum := "41a48f94a8b2ab4161e2a424b6f3ae2f8cb8c5c6a4361578827c83ec9ac37e87", checked := Try.checked }
namespace Rows
def none {H : Type} : Left H := { results := [], args := [] }

/-- 'nozzlelaw12.JoinRuns': WHATEVER THE INPUT: true; the input reads as it did. -/
def joinRunsSpec : ChangeSpec := { name := "joinRuns", fn := fun _ => fun
  | [d1, d2] => { results := [.lit (.bool true)], args := [d1, d2] }
  | _ => none }
def joinRunsRow : OpenClaim := { program := "ytdakojggknkidaa", sum := "41a48f94a8b2ab4161e2a424b6f3ae2f8cb8c5c6a4361578827c83ec9ac37e87", func := "nozzle/nozzlelaw12.JoinRuns", spec := "joinRuns", apart := false }
def JoinRunsSaid : Prop := joinRunsRow.holds Try.pinned (OpenSpec.ofChange joinRunsSpec)

/-- ITS FALSE NEIGHBOUR: 'it returns false'. Refute it at one input. -/
def joinRunsWrong : ChangeSpec := { name := "joinRuns", fn := fun _ => fun
  | [d1, d2] => { results := [.lit (.bool false)], args := [d1, d2] }
  | _ => none }
def JoinRunsWrongFalsely : Prop := joinRunsRow.holds Try.pinned (OpenSpec.ofChange joinRunsWrong)

/-- 'nozzlelaw12.JoinAll': WHATEVER THE INPUT: true; the input reads as it did. -/
def joinAllSpec : ChangeSpec := { name := "joinAll", fn := fun _ => fun
  | [d1, d2] => { results := [.lit (.bool true)], args := [d1, d2] }
  | _ => none }
def joinAllRow : OpenClaim := { program := "ytdakojggknkidaa", sum := "41a48f94a8b2ab4161e2a424b6f3ae2f8cb8c5c6a4361578827c83ec9ac37e87", func := "nozzle/nozzlelaw12.JoinAll", spec := "joinAll", apart := false }
def JoinAllSaid : Prop := joinAllRow.holds Try.pinned (OpenSpec.ofChange joinAllSpec)

/-- ITS FALSE NEIGHBOUR: 'it returns false'. Refute it at one input. -/
def joinAllWrong : ChangeSpec := { name := "joinAll", fn := fun _ => fun
  | [d1, d2] => { results := [.lit (.bool false)], args := [d1, d2] }
  | _ => none }
def JoinAllWrongFalsely : Prop := joinAllRow.holds Try.pinned (OpenSpec.ofChange joinAllWrong)

/-- 'nozzlelaw12.JoinBack': WHATEVER THE INPUT: true; the input reads as it did. -/
def joinBackSpec : ChangeSpec := { name := "joinBack", fn := fun _ => fun
  | [d1, d2] => { results := [.lit (.bool true)], args := [d1, d2] }
  | _ => none }
def joinBackRow : OpenClaim := { program := "ytdakojggknkidaa", sum := "41a48f94a8b2ab4161e2a424b6f3ae2f8cb8c5c6a4361578827c83ec9ac37e87", func := "nozzle/nozzlelaw12.JoinBack", spec := "joinBack", apart := false }
def JoinBackSaid : Prop := joinBackRow.holds Try.pinned (OpenSpec.ofChange joinBackSpec)

/-- ITS FALSE NEIGHBOUR: 'it returns false'. Refute it at one input. -/
def joinBackWrong : ChangeSpec := { name := "joinBack", fn := fun _ => fun
  | [d1, d2] => { results := [.lit (.bool false)], args := [d1, d2] }
  | _ => none }
def JoinBackWrongFalsely : Prop := joinBackRow.holds Try.pinned (OpenSpec.ofChange joinBackWrong)

/-- 'nozzlelaw12.JoinNobody': WHATEVER THE INPUT: true; the input reads as it did. -/
def joinNobodySpec : ChangeSpec := { name := "joinNobody", fn := fun _ => fun
  | [d1, d2] => { results := [.lit (.bool true)], args := [d1, d2] }
  | _ => none }
def joinNobodyRow : OpenClaim := { program := "ytdakojggknkidaa", sum := "41a48f94a8b2ab4161e2a424b6f3ae2f8cb8c5c6a4361578827c83ec9ac37e87", func := "nozzle/nozzlelaw12.JoinNobody", spec := "joinNobody", apart := false }
def JoinNobodySaid : Prop := joinNobodyRow.holds Try.pinned (OpenSpec.ofChange joinNobodySpec)

/-- ITS FALSE NEIGHBOUR: 'it returns false'. Refute it at one input. -/
def joinNobodyWrong : ChangeSpec := { name := "joinNobody", fn := fun _ => fun
  | [d1, d2] => { results := [.lit (.bool false)], args := [d1, d2] }
  | _ => none }
def JoinNobodyWrongFalsely : Prop := joinNobodyRow.holds Try.pinned (OpenSpec.ofChange joinNobodyWrong)

/- THE SECOND FORM. 'bulk': how many values and letters a reading holds, each counted each time it is reached (what is shared counts as often as it is met; a slice's spare places count too). A statement '..UptoSaid' is the law's where the arguments, and the package variables that the reading takes, are together of bulk at most 1048576: NARROWER than '..Said'. Prove '..Said' where nothing that the law and all that it calls make is longer than what came in: it says more and counts as full. Else prove '..UptoSaid'. A law counts once. -/
mutual
def uptoBulk {H : Type} : DataW H → Nat
  | .lit (.string bytes) => bytes.length + 1
  | .lit _ => 1
  | .nil => 1
  | .ptr d => uptoBulk d + 1
  | .slice elems spare => uptoBulkAll elems + uptoBulkAll spare + 1
  | .agg parts => uptoBulkAll parts + 1
  | .iface _ d => uptoBulk d + 1
  | .map entries => uptoBulkEntries entries + 1
  | .held _ => 1
def uptoBulkAll {H : Type} : List (DataW H) → Nat
  | [] => 0
  | d :: r => uptoBulk d + uptoBulkAll r
def uptoBulkEntries {H : Type} : List (Lit × DataW H) → Nat
  | [] => 0
  | x :: r => uptoBulkEntry x + uptoBulkEntries r
def uptoBulkEntry {H : Type} : Lit × DataW H → Nat
  | (.string bytes, d) => bytes.length + uptoBulk d + 1
  | (_, d) => uptoBulk d + 1
 end
def uptoSmall : (H : Type) → List (DataW H) → Bool := fun _ ds => decide (uptoBulkAll ds ≤ 1048576)
def OpenSpec.upto (s : _root_.Go.ChangeSpec) : _root_.Go.OpenSpec := { _root_.Go.OpenSpec.ofChange s with cond := some uptoSmall }

/-- 'nozzlelaw12.JoinRuns', WHERE WHAT IT READS IS OF BULK AT MOST 1048576: true; the input reads as it did. -/
def joinRunsUptoRow : OpenClaim := { program := "ytdakojggknkidaa", sum := "41a48f94a8b2ab4161e2a424b6f3ae2f8cb8c5c6a4361578827c83ec9ac37e87", func := "nozzle/nozzlelaw12.JoinRuns", spec := "joinRuns", apart := false, narrowed := true }
def JoinRunsUptoSaid : Prop := joinRunsUptoRow.holds Try.pinned (OpenSpec.upto joinRunsSpec)

/-- 'nozzlelaw12.JoinAll', WHERE WHAT IT READS IS OF BULK AT MOST 1048576: true; the input reads as it did. -/
def joinAllUptoRow : OpenClaim := { program := "ytdakojggknkidaa", sum := "41a48f94a8b2ab4161e2a424b6f3ae2f8cb8c5c6a4361578827c83ec9ac37e87", func := "nozzle/nozzlelaw12.JoinAll", spec := "joinAll", apart := false, narrowed := true }
def JoinAllUptoSaid : Prop := joinAllUptoRow.holds Try.pinned (OpenSpec.upto joinAllSpec)

/-- 'nozzlelaw12.JoinBack', WHERE WHAT IT READS IS OF BULK AT MOST 1048576: true; the input reads as it did. -/
def joinBackUptoRow : OpenClaim := { program := "ytdakojggknkidaa", sum := "41a48f94a8b2ab4161e2a424b6f3ae2f8cb8c5c6a4361578827c83ec9ac37e87", func := "nozzle/nozzlelaw12.JoinBack", spec := "joinBack", apart := false, narrowed := true }
def JoinBackUptoSaid : Prop := joinBackUptoRow.holds Try.pinned (OpenSpec.upto joinBackSpec)

/-- 'nozzlelaw12.JoinNobody', WHERE WHAT IT READS IS OF BULK AT MOST 1048576: true; the input reads as it did. -/
def joinNobodyUptoRow : OpenClaim := { program := "ytdakojggknkidaa", sum := "41a48f94a8b2ab4161e2a424b6f3ae2f8cb8c5c6a4361578827c83ec9ac37e87", func := "nozzle/nozzlelaw12.JoinNobody", spec := "joinNobody", apart := false, narrowed := true }
def JoinNobodyUptoSaid : Prop := joinNobodyUptoRow.holds Try.pinned (OpenSpec.upto joinNobodySpec)

end Rows
end Go.Proofs.Ytdakojggknkidaa
