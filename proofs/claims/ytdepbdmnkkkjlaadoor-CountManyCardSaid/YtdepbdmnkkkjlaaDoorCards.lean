/-
  DERIVED. GIVEN WITH THE SEED: THE CARDS: each row of YtdepbdmnkkkjlaaDoorRows.lean that lists a variable, with what it lists TIED to the program's text (the seventh form; the later family's looks); each row that meets fmt, with fmt's text TOLD by the authors' own Lean function (tested against real Go, not proved from fmt's source: count such statements apart). THE CARD IS WHAT COUNTS. Prove the row's statement (the work); the ties are given (YtdepbdmnkkkjlaaDoorTie.lean); close each card by the builder's one call (the guide's Derived/Test/ToyasCard.lean, 'card_holds'). Laid BY PROGRAM, IN A SANDBOX (cutbox-door.mjs). By AI agents, Wed Nov 11 2026. No macro, syntax, notation, axiom, sorry.
-/
import Derived.Test.YtdepbdmnkkkjlaaDoorRows
import GoSem.ClaimSeven
namespace Go.Proofs.YtdepbdmnkkkjlaaDoor
namespace Rows

/-- THE TIED CARD OF 'nozzlelaw22.CountRuns'. -/
def countRunsCard : Claim7 := { stood := { row := countRunsRow, standIns := [], harness := (true, "2de9176db0d5b05a0b84ec38245794879267fa6bc63eaef262f3db86b906099a"), looks := true }, kinds := [], alts := [], laidByText := true, laidKinds := [.data, .data, .data], laidTests := true, laidLooks := .later }
def CountRunsCardSaid : Prop := Claim7.holds Tryd.pinned (.plain (OpenSpec.ofChange countRunsSpec)) countRunsCard

/-- THE TIED CARD OF 'nozzlelaw22.CountParts'. -/
def countPartsCard : Claim7 := { stood := { row := countPartsRow, standIns := [], harness := (true, "2de9176db0d5b05a0b84ec38245794879267fa6bc63eaef262f3db86b906099a"), looks := true }, kinds := [], alts := [], laidByText := true, laidKinds := [.data, .data, .data], laidTests := true, laidLooks := .later }
def CountPartsCardSaid : Prop := Claim7.holds Tryd.pinned (.plain (OpenSpec.ofChange countPartsSpec)) countPartsCard

/-- THE TIED CARD OF 'nozzlelaw22.CountOrder'. -/
def countOrderCard : Claim7 := { stood := { row := countOrderRow, standIns := [], harness := (true, "2de9176db0d5b05a0b84ec38245794879267fa6bc63eaef262f3db86b906099a"), looks := true }, kinds := [], alts := [], laidByText := true, laidKinds := [.data, .data, .data], laidTests := true, laidLooks := .later }
def CountOrderCardSaid : Prop := Claim7.holds Tryd.pinned (.plain (OpenSpec.ofChange countOrderSpec)) countOrderCard

/-- THE TIED CARD OF 'nozzlelaw22.CountMany'. -/
def countManyCard : Claim7 := { stood := { row := countManyRow, standIns := [], harness := (true, "2de9176db0d5b05a0b84ec38245794879267fa6bc63eaef262f3db86b906099a"), looks := true }, kinds := [], alts := [], laidByText := true, laidKinds := [.data, .data, .data], laidTests := true, laidLooks := .later }
def CountManyCardSaid : Prop := Claim7.holds Tryd.pinned (.plain (OpenSpec.ofChange countManySpec)) countManyCard

/-- THE TIED CARD OF 'nozzlelaw22.CountNobody'. -/
def countNobodyCard : Claim7 := { stood := { row := countNobodyRow, standIns := [], harness := (true, "2de9176db0d5b05a0b84ec38245794879267fa6bc63eaef262f3db86b906099a"), looks := true }, kinds := [], alts := [], laidByText := true, laidKinds := [.data, .data, .data], laidTests := true, laidLooks := .later }
def CountNobodyCardSaid : Prop := Claim7.holds Tryd.pinned (.plain (OpenSpec.ofChange countNobodySpec)) countNobodyCard

/-- THE SECOND FORM's CARD OF 'nozzlelaw22.CountRuns'. -/
def countRunsUptoCard : Claim7 := { stood := { row := countRunsUptoRow, standIns := [], harness := (true, "2de9176db0d5b05a0b84ec38245794879267fa6bc63eaef262f3db86b906099a"), looks := true }, kinds := [], alts := [], laidByText := true, laidKinds := [.data, .data, .data], laidTests := true, laidLooks := .later }
def CountRunsUptoCardSaid : Prop := Claim7.holds Tryd.pinned (.plain (OpenSpec.upto countRunsSpec)) countRunsUptoCard

/-- THE SECOND FORM's CARD OF 'nozzlelaw22.CountParts'. -/
def countPartsUptoCard : Claim7 := { stood := { row := countPartsUptoRow, standIns := [], harness := (true, "2de9176db0d5b05a0b84ec38245794879267fa6bc63eaef262f3db86b906099a"), looks := true }, kinds := [], alts := [], laidByText := true, laidKinds := [.data, .data, .data], laidTests := true, laidLooks := .later }
def CountPartsUptoCardSaid : Prop := Claim7.holds Tryd.pinned (.plain (OpenSpec.upto countPartsSpec)) countPartsUptoCard

/-- THE SECOND FORM's CARD OF 'nozzlelaw22.CountOrder'. -/
def countOrderUptoCard : Claim7 := { stood := { row := countOrderUptoRow, standIns := [], harness := (true, "2de9176db0d5b05a0b84ec38245794879267fa6bc63eaef262f3db86b906099a"), looks := true }, kinds := [], alts := [], laidByText := true, laidKinds := [.data, .data, .data], laidTests := true, laidLooks := .later }
def CountOrderUptoCardSaid : Prop := Claim7.holds Tryd.pinned (.plain (OpenSpec.upto countOrderSpec)) countOrderUptoCard

/-- THE SECOND FORM's CARD OF 'nozzlelaw22.CountMany'. -/
def countManyUptoCard : Claim7 := { stood := { row := countManyUptoRow, standIns := [], harness := (true, "2de9176db0d5b05a0b84ec38245794879267fa6bc63eaef262f3db86b906099a"), looks := true }, kinds := [], alts := [], laidByText := true, laidKinds := [.data, .data, .data], laidTests := true, laidLooks := .later }
def CountManyUptoCardSaid : Prop := Claim7.holds Tryd.pinned (.plain (OpenSpec.upto countManySpec)) countManyUptoCard

/-- THE SECOND FORM's CARD OF 'nozzlelaw22.CountNobody'. -/
def countNobodyUptoCard : Claim7 := { stood := { row := countNobodyUptoRow, standIns := [], harness := (true, "2de9176db0d5b05a0b84ec38245794879267fa6bc63eaef262f3db86b906099a"), looks := true }, kinds := [], alts := [], laidByText := true, laidKinds := [.data, .data, .data], laidTests := true, laidLooks := .later }
def CountNobodyUptoCardSaid : Prop := Claim7.holds Tryd.pinned (.plain (OpenSpec.upto countNobodySpec)) countNobodyUptoCard
end Rows
end Go.Proofs.YtdepbdmnkkkjlaaDoor
