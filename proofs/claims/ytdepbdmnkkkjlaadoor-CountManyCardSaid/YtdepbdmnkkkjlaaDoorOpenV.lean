/- What comes in, by its shape: a slice of one-cell elements. -/
import Derived.Test.YtdepbdmnkkkjlaaDoorOpen
import Derived.Test.YtdepbdmnkkkjlaaDoorLst
set_option linter.unusedSimpArgs false
set_option linter.unusedVariables false
namespace Go.Proofs.YtdepbdmnkkkjlaaDoor
open Go.RowKit Go.Shelf
theorem rdv_of_reads {w : World} (t : Ty) (f : t.den → Value) (hs : t.size = 1) (hc : ∀ x, t.cells x = [f x]) (h1c : ∀ x, (f x).oneCell' = true) (s : Sl t.den) (h : (Ty.sl t).reads w s) : RdV w s.A s.n s.c (s.l.map f) := by
  obtain ⟨h1, h2, h3, h4, h5, h6⟩ := h
  refine ⟨by simpa using h1, h2, h3, h4, ?_, fun hn => ?_⟩
  · intro v hv
    obtain ⟨x, _, rfl⟩ := List.mem_map.1 hv
    exact h1c x
  · obtain ⟨g, o, e, hg, hx⟩ := h5 hn (by omega)
    refine ⟨g, o, e, hg, fun i hi => ?_⟩
    have h1' : s.l.length = s.n := h1
    have hi' : i < s.l.length := by omega
    have := hx i hi' 0 (f s.l[i]) (by rw [hc]; rfl)
    simp only [hs, Nat.mul_one, Nat.add_zero] at this
    rw [this]
    simp [hi']
end Go.Proofs.YtdepbdmnkkkjlaaDoor
