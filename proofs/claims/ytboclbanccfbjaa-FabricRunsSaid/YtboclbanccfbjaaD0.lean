/- What comes in, by its shape: the rest. -/
import Derived.Test.YtboclbanccfbjaaC8
import Derived.Lib.SmallJoins
set_option linter.unusedSimpArgs false
set_option linter.unusedVariables false
set_option linter.unusedSimpArgs false
set_option linter.unusedVariables false
namespace Go.Proofs.Ytboclbanccfbjaa
open Go.RowKit Go.Shelf Go.ChangeShapes Go.WideShapes

section
variable {H : Type} {enc : TypeId × Value → H} {P : Program} {w : World} {base : Nat} {spare : Nat → Bool} {held : Bool}
theorem Ty.opened (ty : Ty) {t : TypeId} {v : Value} {d : DataW H} {ps : List MemPlace} (hf : ty.fits P (.inl t) = true) (h : DataW.Trod enc P w base spare held t v d ps) : ∃ x : ty.den, v.cells.toList = ty.cells x ∧ ty.reads w x := by
  obtain ⟨fuel, h⟩ := h
  exact (ty.open (fuel := fuel)).1 hf h
end
end Go.Proofs.Ytboclbanccfbjaa
