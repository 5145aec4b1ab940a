/- Tombs in memory: isFrom, isNumber, isMade, Floor, Count, Close, Closed. -/
import Derived.Test.YtopmfpdcdclffaaD1
set_option linter.unusedSimpArgs false
set_option linter.unusedVariables false
namespace Go.Proofs.Ytopmfpdcdclffaa
open Go.RowKit Go.Shelf
/-- From l to m. -/
def inR (n l m : Int) : Bool := decide (l ≤ n ∧ n ≤ m)
theorem from_any (n l m : Int) (w : World) : Calls Try.prog 22 #[.int .i64 n, .int .i64 l, .int .i64 m] w fun e w' => e = .returned (.bool (inR n l m)) ∧ w = w' := by
  by_cases h1 : l ≤ n
  · by_cases h2 : n ≤ m
    · have HV : Hid (inR n l m = true) := Lib.hid (decide_eq_true (show l ≤ n ∧ n ≤ m from ⟨h1, h2⟩))
      go_enter Try.func22, Try.ntmps22
      go_wp2
      go_ret
      exact ⟨by rw [HV.out]; rfl, rfl⟩
    · have HV : Hid (inR n l m = false) := Lib.hid (decide_eq_false (show ¬ (l ≤ n ∧ n ≤ m) by omega))
      go_enter Try.func22, Try.ntmps22
      go_wp2
      go_ret
      exact ⟨by rw [HV.out]; rfl, rfl⟩
  · have HV : Hid (inR n l m = false) := Lib.hid (decide_eq_false (show ¬ (l ≤ n ∧ n ≤ m) by omega))
    go_enter Try.func22, Try.ntmps22
    go_wp2
    go_ret
    exact ⟨by rw [HV.out]; rfl, rfl⟩
theorem num_any (n : Int) (w : World) : Calls Try.prog 26 #[.int .i64 n] w fun e w' => e = .returned (.bool (isNum n)) ∧ w = w' := by
  go_enter Try.func26, Try.ntmps26
  go_wp2_with fail
  refine (from_any n 1 1073741824 w).mono ?_
  rintro e w1 ⟨rfl, rfl⟩
  rw [show inR n 1 1073741824 = isNum n from rfl]
  go_wp2
  go_ret
  exact ⟨rfl, rfl⟩
section
variable {w w' : World} {P : Pl} {B : Bm} {m : Nat → Nat}
theorem t_made (h : Bmp w P B) :
    Calls Try.prog 25 #[.pointer (some ⟨P.p, P.o, none⟩)] w fun e w' => e = .returned (.bool true) ∧ w = w' := by
  have hn : 0 < B.size := h.1.s1
  have HH := Lib.hid h
  clear h
  go_enter Try.func25, Try.ntmps25
  go_wp2_with fail
  refine (b_size HH.out).mono ?_
  rintro e w1 ⟨rfl, rfl⟩
  go_wp2
  go_ret
  exact ⟨rfl, rfl⟩
theorem t_floor (h : Bmp w P B) :
    Calls Try.prog 14 #[.pointer (some ⟨P.p, P.o, none⟩)] w fun e w' => e = .returned (.int .i64 B.base) ∧ w = w' := by
  have HH := Lib.hid h
  clear h
  go_enter Try.func14, Try.ntmps14
  go_wp2_with fail
  refine (t_made HH.out).mono ?_
  rintro e w1 ⟨rfl, rfl⟩
  go_wp2_with fail
  refine (b_base HH.out).mono ?_
  rintro e w1 ⟨rfl, rfl⟩
  go_wp2
  go_ret
  exact ⟨rfl, rfl⟩
theorem t_count (h : Bmp w P B) :
    Calls Try.prog 17 #[.pointer (some ⟨P.p, P.o, none⟩)] w fun e w' => e = .returned (.int .i64 (B.all true).length) ∧ Below w.heap.size w w' := by
  have HH := Lib.hid h
  clear h
  go_enter Try.func17, Try.ntmps17
  go_wp2_with fail
  refine (t_made HH.out).mono ?_
  rintro e w1 ⟨rfl, rfl⟩
  go_wp2_with fail
  refine (b_count HH.out).mono ?_
  rintro e w1 ⟨rfl, hb⟩
  have HB := Lib.hid hb
  clear hb
  go_wp2
  go_ret
  exact ⟨rfl, HB.out⟩
theorem t_closed (h : Bmp w P B) (x : Int) :
    Calls Try.prog 15 #[.pointer (some ⟨P.p, P.o, none⟩), .int .i64 x] w fun e w' => e = .returned (.bool (B.tclosed x)) ∧ Below w.heap.size w w' := by
  have HH := Lib.hid h
  clear h
  cases hn : isNum x with
  | false =>
    have HV : Hid (B.tclosed x = false) := Lib.hid (by unfold Bm.tclosed; rw [hn]; rfl)
    go_enter Try.func15, Try.ntmps15
    go_wp2_with fail
    refine (t_made HH.out).mono ?_
    rintro e w1 ⟨rfl, rfl⟩
    go_wp2_with fail
    refine (num_any x w).mono ?_
    rintro e w1 ⟨rfl, rfl⟩
    rw [hn]
    go_wp2
    go_ret
    exact ⟨by rw [HV.out]; rfl, Below.refl _ _⟩
  | true =>
    have HV : Hid (B.tclosed x = B.has x) := Lib.hid (by unfold Bm.tclosed; rw [hn]; rfl)
    go_enter Try.func15, Try.ntmps15
    go_wp2_with fail
    refine (t_made HH.out).mono ?_
    rintro e w1 ⟨rfl, rfl⟩
    go_wp2_with fail
    refine (num_any x w).mono ?_
    rintro e w1 ⟨rfl, rfl⟩
    rw [hn]
    go_wp2_with fail
    refine (b_has HH.out x).mono ?_
    rintro e w1 ⟨rfl, hb⟩
    have HB := Lib.hid hb
    clear hb
    go_wp2
    go_ret
    exact ⟨by rw [HV.out]; rfl, HB.out⟩
theorem t_close (h : Bmp w P B) (ht : B.tk) (x : Int) :
    Calls Try.prog 11 #[.pointer (some ⟨P.p, P.o, none⟩), .int .i64 x] w fun e w' => e = .returned (.tuple #[.bool (B.tfresh x), .int .i64 (B.terr x)]) ∧ Bd P (B.close x) w w' := by
  have HH := Lib.hid h
  clear h
  cases hn : isNum x with
  | false =>
    have HV : Hid (B.tfresh x = false ∧ B.terr x = 5 ∧ B.close x = B) := Lib.hid ⟨by unfold Bm.tfresh; rw [hn]; rfl, by unfold Bm.terr; rw [hn]; rfl, ht.stays (by unfold Bm.tset; rw [hn]; rfl)⟩
    go_enter Try.func11, Try.ntmps11
    go_wp2_with fail
    refine (t_made HH.out).mono ?_
    rintro e w1 ⟨rfl, rfl⟩
    go_wp2_with fail
    refine (num_any x w).mono ?_
    rintro e w1 ⟨rfl, rfl⟩
    rw [hn]
    go_wp2
    go_ret2
    exact ⟨by rw [HV.out.1, HV.out.2.1]; rfl, by rw [HV.out.2.2]; exact HH.out, St.refl _ _⟩
  | true =>
    have HV : Hid (B.tfresh x = B.fresh x ∧ B.terr x = B.err x ∧ B.tset x = B.set x) := Lib.hid ⟨by unfold Bm.tfresh; rw [hn]; rfl, by unfold Bm.terr; rw [hn]; rfl, by unfold Bm.tset; rw [hn]; rfl⟩
    go_enter Try.func11, Try.ntmps11
    go_wp2_with fail
    refine (t_made HH.out).mono ?_
    rintro e w1 ⟨rfl, rfl⟩
    go_wp2_with fail
    refine (num_any x w).mono ?_
    rintro e w1 ⟨rfl, rfl⟩
    rw [hn]
    go_wp2_with fail
    refine (b_set HH.out x).mono ?_
    rintro e w1 ⟨rfl, hd1⟩
    have HD1 := Lib.hid hd1
    clear hd1
    go_wp2_with fail
    refine (b_advance HD1.out.bm).mono ?_
    rintro e w2 ⟨k, hr, rfl, hd2⟩
    have HD2 : Hid (Bd P (B.close x) w w2) := Lib.hid ⟨by
      rw [Bm.close_eq (k := k) (by rw [HV.out.2.2]; exact hr), HV.out.2.2]
      exact hd2.bm, HD1.out.st.trans hd2.st (Gr.refl _ _)⟩
    clear hr hd2
    go_wp2
    go_ret2
    exact ⟨by rw [HV.out.1, HV.out.2.1]; rfl, HD2.out⟩
end
end Go.Proofs.Ytopmfpdcdclffaa
