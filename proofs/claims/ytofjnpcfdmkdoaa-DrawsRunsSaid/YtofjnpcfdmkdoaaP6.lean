/- The law awake; draws one behind the other. -/
import Derived.Test.YtofjnpcfdmkdoaaP4
set_option linter.unusedSimpArgs false
set_option linter.unusedVariables false
namespace Go.Proofs.Ytofjnpcfdmkdoaa
open Go.RowKit Go.Shelf
attribute [local go_sem] Oper.semAt_some
theorem at00 : atV 0 0 = 16294208416658607535 := by decide +kernel
set_option maxHeartbeats 2000000 in
theorem awake_any (w : World) : Calls Try.prog 11 #[] w fun e w' => e = .returned (.bool true) ∧ Below w.heap.size w w' := by
  have HA := Lib.hid at00
  go_enter Try.func11, Try.ntmps11
  go_wp2_with fail
  refine (new_any 0 w).mono ?_
  rintro e w1 ⟨rfl, hs1, hw1⟩
  have hb1 : Below w.heap.size w w1 := by rw [hw1]; exact (Below.refl _ _).alloc (Nat.le_refl _) _
  clear hw1
  go_wp2_with fail
  refine (at_any 0 0 w1).mono ?_
  rintro e w2 ⟨rfl, rfl⟩
  rw [HA.out]
  go_wp2_with fail
  refine (next_any w1 w.heap.size 0 0 hs1 (by decide) (by decide)).mono ?_
  rintro e w2 ⟨rfl, hs2, hw2⟩
  rw [HA.out]
  have hb2 : Below w.heap.size w w2 := hb1.trans (hw2.below (Nat.le_refl _) hb1.size)
  clear hs1 hb1 hw2
  go_wp2_with fail
  refine (count_any w2 w.heap.size 0 (0 + 1) hs2).mono ?_
  rintro e w3 ⟨rfl, rfl⟩
  go_wp2_with fail
  refine (below_zero w2 _ 0 (by decide)).mono ?_
  rintro e w3 ⟨rfl, rfl⟩
  go_wp2_with fail
  refine (count_any w2 w.heap.size 0 (0 + 1) hs2).mono ?_
  rintro e w3 ⟨rfl, rfl⟩
  go_wp2
  go_ret
  exact ⟨rfl, hb2⟩
theorem draws_any (s i : Int) (w : World) :
    Calls Try.prog 24 #[.int .u64 s, .int .i64 i] w fun e w' => e = .returned (.func (.func 31) #[] #[.pointer (some ⟨w.heap.size + 1, 0, none⟩), .pointer (some ⟨w.heap.size, 0, none⟩)]) ∧
      w' = (w.alloc (.cells #[.int .u64 s] 22)).alloc (.cells #[.int .i64 i] 3) := by
  go_enter Try.func24, Try.ntmps24
  go_wp2
  go_ret
  exact ⟨by simp, rfl⟩
end Go.Proofs.Ytofjnpcfdmkdoaa
