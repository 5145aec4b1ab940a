/- The laws CutPieces and CutWhole. -/
import Derived.Test.YtmnmkolcffehhaaU7
set_option linter.unusedSimpArgs false
set_option linter.unusedVariables false
namespace Go.Proofs.Ytmnmkolcffehhaa
open Go.RowKit Go.Shelf
set_option maxHeartbeats 4000000 in
theorem lawPieces (A : Option Addr) (n c : Nat) (xs : List Int) (m k : Int) (w : World) (h : Rd .u8 w A n c xs) :
    Calls Try.prog 3 #[.slice A n c, .int .i64 m, .int .i64 k] w fun e w' => e = .returned (.bool true) ∧ Below w.heap.size w w' := by
  have hcc := h.2.1
  have hcm := h.2.2.1
  have HR := Lib.hid (h.pre (s := min n 3000) (Nat.min_le_left _ _))
  clear h
  generalize hN : min n 3000 = N at HR
  generalize xs.take N = ys at HR
  have HF := Lib.hid (few_any A n c w hcc hcm)
  rw [hN] at HF
  clear hN hcm
  go_enter Try.func3, Try.ntmps3
  go_wp2_with fail
  refine HF.out.mono ?_
  rintro e w' ⟨rfl, rfl⟩
  clear HF
  go_wp2_with fail
  refine (c_cuts HR.out).mono ?_
  rintro e w1 ⟨A1, n1, c1, err, rfl, he, hl1, hb1⟩
  have HE := Lib.hid he
  have HL1 := Lib.hid hl1
  have HB1 := Lib.hid hb1
  clear he hl1 hb1
  go_wp2_with fail
  refine (r_cuts (m := m) (HR.out.below HB1.out)).mono ?_
  rintro e w2 ⟨A2, n2, c2, err2, rfl, he, hl2, hb2⟩
  obtain rfl : err = err2 := HE.out.trans he.symm
  have HL2 := Lib.hid hl2
  have HB2 := Lib.hid hb2
  have HL3 := Lib.hid (HL1.out.below hb2)
  clear he hl2 hb2 HE
  go_wp2_with fail
  refine (r_sameAll HL3.out.sl HL2.out.sl).mono ?_
  rintro e w3 ⟨rfl, hb3⟩
  have HB3 := Lib.hid hb3
  clear hb3
  go_wp2_with fail
  refine (count_any k m w3).mono ?_
  rintro e w4 ⟨rfl, rfl⟩
  go_wp2_with fail
  refine (rcount_any k m w3).mono ?_
  rintro e w4 ⟨rfl, rfl⟩
  go_wp2_with fail
  refine (awake_any w3).mono ?_
  rintro e w4 ⟨rfl, hb4⟩
  have HB4 := Lib.hid hb4
  clear hb4
  go_wp2
  go_ret
  have b2 := HB1.out.trans (HB2.out.mono HB1.out.size)
  have b3 := b2.trans (HB3.out.mono b2.size)
  exact ⟨rfl, b3.trans (HB4.out.mono b3.size)⟩
end Go.Proofs.Ytmnmkolcffehhaa
