/- The page's example. -/
import Derived.Test.YtcffmghpgbkcdaaB10
set_option linter.unusedSimpArgs false
set_option linter.unusedVariables false
namespace Go.Proofs.Ytcffmghpgbkcdaa
open Go.RowKit Go.Shelf
def aw0 : Bm := Bm.new 4 10
def aw1 : Bm := aw0.set 10
def aw2 : Bm := aw1.set 12
def aw3 : Bm := aw2.on 1
theorem aw1_f : aw0.fresh 10 = true ∧ aw0.err 10 = 0 := by decide +kernel
theorem aw2_f : aw1.fresh 12 = true ∧ aw1.err 12 = 0 := by decide +kernel
theorem aw3_r : aw2.runs 1 := ⟨fun j hj => by obtain rfl : j = 0 := by omega
                                              decide +kernel, by decide +kernel⟩
theorem aw3_b : aw3.base = 11 := by decide +kernel
theorem aw3_l : (aw3.all false).take (9 : Int).toNat = [11, 13, 14] := by decide +kernel
set_option maxHeartbeats 1000000 in
theorem awake_any (w : World) : Calls Try.prog 8 #[] w fun e w' => e = .returned (.bool true) ∧ Below w.heap.size w w' := by
  go_enter Try.func8, Try.ntmps8
  go_wp2_with fail
  refine (b_new 4 10 w (by omega) (by omega) (by omega)).mono ?_
  rintro e w1 ⟨rfl, hm1, hb1⟩
  have H1 : Hid (Bmp w1 w.heap.size aw0 ∧ Below w.heap.size w w1) := Lib.hid ⟨hm1, hb1⟩
  clear hm1 hb1
  go_wp2_with fail
  refine (b_set H1.out.1 10).mono ?_
  rintro e w2 ⟨rfl, hd⟩
  rw [aw1_f.1, aw1_f.2]
  have H2 : Hid (Bmp w2 w.heap.size aw1 ∧ Below w.heap.size w w2) := Lib.hid ⟨hd.bm, H1.out.2.trans (hd.st.below H1.out.2.size (fun k hk => by omega))⟩
  clear hd
  go_wp2_with fail
  refine (b_set H2.out.1 12).mono ?_
  rintro e w3 ⟨rfl, hd⟩
  rw [aw2_f.1, aw2_f.2]
  have H3 : Hid (Bmp w3 w.heap.size aw2 ∧ Below w.heap.size w w3) := Lib.hid ⟨hd.bm, H2.out.2.trans (hd.st.below H2.out.2.size (fun k hk => by omega))⟩
  clear hd
  go_wp2_with fail
  refine (b_advance H3.out.1).mono ?_
  rintro e w4 ⟨k, hr, rfl, hd⟩
  obtain rfl : k = 1 := Bm.runs_one hr aw3_r
  have H4 : Hid (Bmp w4 w.heap.size aw3 ∧ Below w.heap.size w w4) := Lib.hid ⟨hd.bm, H3.out.2.trans (hd.st.below H3.out.2.size (fun k hk => by omega))⟩
  clear hd hr
  go_wp2_with fail
  refine (b_base H4.out.1).mono ?_
  rintro e w5 ⟨rfl, rfl⟩
  rw [aw3_b]
  go_wp2_with fail
  refine (b_lacking H4.out.1 9).mono ?_
  rintro e w6 ⟨A, n, c, rfl, hl, hb⟩
  rw [aw3_l] at hl
  have hla := hl.alloc (.cells #[.int .i64 11, .int .i64 13, .int .i64 14] 3)
  have H6 : Hid (RdV (w6.alloc (.cells #[.int .i64 11, .int .i64 13, .int .i64 14] 3)) A n c (intV [11, 13, 14])) := Lib.hid hla.rdv
  have H7 : Hid (RdV (w6.alloc (.cells #[.int .i64 11, .int .i64 13, .int .i64 14] 3)) (some ⟨w6.heap.size, 0, none⟩) 3 3 (intV [11, 13, 14])) := Lib.hid (RdV.lit w6 3 (intV [11, 13, 14]) (by intro x hx; simp [intV] at hx; rcases hx with rfl | rfl | rfl <;> rfl) (by decide))
  have HB := Lib.hid (H4.out.2.trans (((hb.trans ((Below.refl _ _).alloc hb.size (.cells #[.int .i64 11, .int .i64 13, .int .i64 14] 3)))).mono H4.out.2.size))
  clear hl hla hb
  go_wp2_with fail
  refine (same_any _ _ _ _ _ _ _ _ _ H6.out H7.out).mono ?_
  rintro e w7 ⟨rfl, hb7⟩
  rw [decide_eq_true (rfl : ([11, 13, 14] : List Int) = [11, 13, 14])]
  have HB7 := Lib.hid (HB.out.trans (hb7.mono HB.out.size))
  clear hb7
  go_wp2
  go_ret
  exact ⟨rfl, HB7.out⟩
end Go.Proofs.Ytcffmghpgbkcdaa
