/- The table of powers as the row lists it. -/
import Derived.Test.YtdepbdmnkkkjlaaDoorN9
import Derived.Test.YtdepbdmnkkkjlaaDoorRows
import Derived.LaidMore
import Derived.Stop.Joined
set_option linter.unusedSimpArgs false
set_option linter.unusedVariables false
set_option maxRecDepth 100000
namespace Go.Proofs.YtdepbdmnkkkjlaaDoor
open Go.RowKit Go.Shelf
theorem tb_laid {W : World} (h : laidMet Tryd.prog [("math/bits.deBruijn32tab", Rows.laid_math_bits_deBruijn32tab), ("math/bits.deBruijn64tab", Rows.laid_math_bits_deBruijn64tab), ("internal/strconv.uint64pow10", Rows.laid_internal_strconv_uint64pow10)] W) : Tb W := by
  obtain ⟨ps, ⟨g0, t0, cs0, f0, p0, q0, _, _, _, _, ⟨g1, t1, cs1, f1, p1, q1, _, _, _, _, ⟨g2, t2, cs2, f2, p2, q2, hg2, ht2, hv2, hd2, _, _⟩, _⟩, _⟩, _⟩ := h
  obtain rfl := Option.some.inj ((show Tryd.prog.globalNamed "internal/strconv.uint64pow10" = some 0 by kernel_rfl).symm.trans hg2)
  obtain rfl := Option.some.inj ((show (Tryd.prog.globals[0]?).map (·.type) = some 115 by kernel_rfl).symm.trans ht2)
  unfold Tb Lib.TabIs
  rw [hv2, ← Lib.cells_of_tab (e := 99) (n := 20) (k := .u64) (zs := Lib.pow10Tab) rfl rfl (by kernel_rfl) (by kernel_rfl) hd2]
end Go.Proofs.YtdepbdmnkkkjlaaDoor
