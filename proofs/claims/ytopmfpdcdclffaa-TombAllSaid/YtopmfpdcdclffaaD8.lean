/- The page's example. -/
import Derived.Test.YtopmfpdcdclffaaD7
set_option linter.unusedSimpArgs false
set_option linter.unusedVariables false
namespace Go.Proofs.Ytopmfpdcdclffaa
open Go.RowKit Go.Shelf
def aw0 : Bm := Bm.new 4 1
def aw1 : Bm := aw0.set 2
def aw2 : Bm := (aw1.set 1).on 2
theorem aw0_tk : aw0.tk := Bm.new_tk (by decide) (by decide)
theorem aw1_r : (aw0.tset 2).runs 0 := ⟨fun j hj => by omega, by decide +kernel⟩
theorem aw1_e : aw0.close 2 = aw1 := by
  rw [Bm.close_eq aw1_r, show aw0.tset 2 = aw1 from rfl, show aw1.on 0 = aw1 from Bm.on_zero (aw0_tk.ok.set 2)]
theorem aw1_tk : aw1.tk := by rw [← aw1_e]; exact (aw0_tk.close 2).1
theorem aw2_r : (aw1.tset 1).runs 2 := ⟨fun j hj => by
  rcases (by omega : j = 0 ∨ j = 1) with rfl | rfl <;> decide +kernel, by decide +kernel⟩
theorem aw2_e : aw1.close 1 = aw2 := by
  rw [Bm.close_eq aw2_r]; rfl
theorem aw2_tk : aw2.tk := by rw [← aw2_e]; exact (aw1_tk.close 1).1
theorem aw1_f : aw0.tfresh 2 = true ∧ aw0.terr 2 = 0 := by decide +kernel
theorem aw2_f : aw1.tfresh 1 = true ∧ aw1.terr 1 = 0 := by decide +kernel
theorem aw2_b : aw2.base = 3 ∧ aw2.tclosed 2 = true ∧ aw2.tmay 6 = true ∧ aw2.tmay 7 = false := by decide +kernel
theorem aw2_s : aw2.base + aw2.size ≤ 1073741825 := by decide +kernel
theorem aw2_l : aw2.opens 9 = [3, 4, 5, 6] := by decide +kernel
set_option maxHeartbeats 1000000 in
theorem awake_any (w : World) : Calls Try.prog 9 #[] w fun e w' => e = .returned (.bool true) ∧ Below w.heap.size w w' := by
  go_enter Try.func9, Try.ntmps9
  go_wp2_with fail
  refine (t_new 4 w (by omega) (by omega)).mono ?_
  rintro e w1 ⟨p, hp, rfl, hm1, hb1⟩
  have H1 : Hid (Bmp w1 (plT p) aw0 ∧ Below w.heap.size w w1) := Lib.hid ⟨hm1, hb1⟩
  have HP := Lib.hid hp
  clear hm1 hb1 hp
  go_wp2_with fail
  refine (t_close H1.out.1 aw0_tk 2).mono ?_
  rintro e w2 ⟨rfl, hd⟩
  rw [aw1_f.1, aw1_f.2]
  rw [aw1_e] at hd
  have H2 : Hid (Bmp w2 (plT p) aw1 ∧ Below w.heap.size w w2) := Lib.hid ⟨hd.bm, H1.out.2.trans (hd.st.below H1.out.2.size (fun k hk => by have : k = p := hk; have := HP.out; omega))⟩
  clear hd
  go_wp2_with fail
  refine (t_close H2.out.1 aw1_tk 1).mono ?_
  rintro e w3 ⟨rfl, hd⟩
  rw [aw2_f.1, aw2_f.2]
  rw [aw2_e] at hd
  have H3 : Hid (Bmp w3 (plT p) aw2 ∧ Below w.heap.size w w3) := Lib.hid ⟨hd.bm, H2.out.2.trans (hd.st.below H2.out.2.size (fun k hk => by have : k = p := hk; have := HP.out; omega))⟩
  clear hd
  go_wp2_with fail
  refine (t_floor H3.out.1).mono ?_
  rintro e w4 ⟨rfl, rfl⟩
  rw [aw2_b.1]
  go_wp2_with fail
  refine (t_closed H3.out.1 2).mono ?_
  rintro e w4 ⟨rfl, hb⟩
  rw [aw2_b.2.1]
  have H4 : Hid (Bmp w4 (plT p) aw2 ∧ Below w.heap.size w w4) := Lib.hid ⟨H3.out.1.below hb, H3.out.2.trans (hb.mono H3.out.2.size)⟩
  clear hb
  go_wp2_with fail
  refine (t_may H4.out.1 6).mono ?_
  rintro e w5 ⟨rfl, hb⟩
  rw [aw2_b.2.2.1]
  have H5 : Hid (Bmp w5 (plT p) aw2 ∧ Below w.heap.size w w5) := Lib.hid ⟨H4.out.1.below hb, H4.out.2.trans (hb.mono H4.out.2.size)⟩
  clear hb
  go_wp2_with fail
  refine (t_may H5.out.1 7).mono ?_
  rintro e w6 ⟨rfl, hb⟩
  rw [aw2_b.2.2.2]
  have H6 : Hid (Bmp w6 (plT p) aw2 ∧ Below w.heap.size w w6) := Lib.hid ⟨H5.out.1.below hb, H5.out.2.trans (hb.mono H5.out.2.size)⟩
  clear hb
  go_wp2_with fail
  refine (t_open H6.out.1 aw2_tk aw2_s 9).mono ?_
  rintro e w7 ⟨A, n, c, rfl, hl, hb⟩
  rw [aw2_l] at hl
  have hla := hl.alloc (.cells #[.int .i64 3, .int .i64 4, .int .i64 5, .int .i64 6] 3)
  have H7 : Hid (RdV (w7.alloc (.cells #[.int .i64 3, .int .i64 4, .int .i64 5, .int .i64 6] 3)) A n c (intV [3, 4, 5, 6])) := Lib.hid hla.rdv
  have H8 : Hid (RdV (w7.alloc (.cells #[.int .i64 3, .int .i64 4, .int .i64 5, .int .i64 6] 3)) (some ⟨w7.heap.size, 0, none⟩) 4 4 (intV [3, 4, 5, 6])) := Lib.hid (RdV.lit w7 3 (intV [3, 4, 5, 6]) (by intro x hx; simp [intV] at hx; rcases hx with rfl | rfl | rfl | rfl <;> rfl) (by decide))
  have HB := Lib.hid (H6.out.2.trans (((hb.trans ((Below.refl _ _).alloc hb.size (.cells #[.int .i64 3, .int .i64 4, .int .i64 5, .int .i64 6] 3)))).mono H6.out.2.size))
  clear hl hla hb
  go_wp2_with fail
  refine (same_any _ _ _ _ _ _ _ _ _ H7.out H8.out).mono ?_
  rintro e w8 ⟨rfl, hb7⟩
  rw [decide_eq_true (rfl : ([3, 4, 5, 6] : List Int) = [3, 4, 5, 6])]
  have HB7 := Lib.hid (HB.out.trans (hb7.mono HB.out.size))
  clear hb7
  go_wp2
  go_ret
  exact ⟨rfl, HB7.out⟩
end Go.Proofs.Ytopmfpdcdclffaa
