/- The document's example; the law's look at a message. -/
import Derived.Test.YtmnmkolcffehhaaU4
import Derived.Test.YtmnmkolcffehhaaU6
import Derived.Lib.SlBytesConst
set_option linter.unusedSimpArgs false
set_option linter.unusedVariables false
namespace Go.Proofs.Ytmnmkolcffehhaa
open Go.RowKit Go.Shelf
theorem c_cuts {w : World} {A : Option Addr} {n c : Nat} {xs : List Int} {m : Int} (h : Rd .u8 w A n c xs) :
    Calls Try.prog 7 #[.slice A n c, .int .i64 m] w fun e w' => ∃ A' n' c' err, e = .returned (.tuple #[.slice A' n' c', .int .i64 err]) ∧ err = (if fitB n m = true then 0 else 110) ∧ MadeC (cutsV xs m) w A' n' c' w' := by
  cases hf : fitB n m with
  | true =>
    obtain ⟨k, rfl⟩ := fit_nat hf
    refine (c_cut h hf).mono ?_
    rintro e w' ⟨A', n', c', rfl, hm⟩
    exact ⟨A', n', c', 0, rfl, by simp, by rw [cutsV_yes h.1 hf]; exact hm⟩
  | false =>
    refine (c_cut_no hf).mono ?_
    rintro e w' ⟨rfl, rfl⟩
    exact ⟨none, 0, 0, 110, rfl, by simp, by rw [cutsV_no h.1 hf]; exact LstP.madeNil w⟩
def abc : List Int := [97, 98, 99, 100, 101]
set_option maxHeartbeats 4000000 in
theorem awake_any (w : World) : Calls Try.prog 12 #[] w fun e w' => e = .returned (.bool true) ∧ Below w.heap.size w w' := by
  have hr : Rd .u8 (w.alloc (.cells (abc.map (.int .u8)).toArray 5 (5, 6))) (some ⟨w.heap.size, 0, none⟩) 5 5 abc := Rd.litF w 5 abc (5, 6) (wf_of_ok (by decide)) (by decide)
  have HR := Lib.hid hr
  have hfd : ∀ W : World, (Instr.field 36 (.agg #[.slice none 0 0, .bool false, .bool true]) 2).run Try.prog W = .ok (.bool true) W := fun W => by kernel_rfl
  have hcvs : (convert 22 22 (.slice (some ⟨w.heap.size, 0, none⟩) 5 5)).run Try.prog (w.alloc (.cells #[.int .u8 97, .int .u8 98, .int .u8 99, .int .u8 100, .int .u8 101] 5)) = .ok (.slice (some ⟨w.heap.size, 0, none⟩) 5 5) (w.alloc (.cells #[.int .u8 97, .int .u8 98, .int .u8 99, .int .u8 100, .int .u8 101] 5 (5, 6))) := Lib.run_convert_bytes_const (P := Try.prog) w 22 5 (abc.map (Value.int .u8)).toArray 5 5 Try.underlying22 Try.underlying5
  clear hr
  go_enter Try.func12, Try.ntmps12
  go_wp2_with fail
  refine (c_cut (m := 2) HR.out (by decide)).mono ?_
  rintro e w1 ⟨A', n', c', rfl, hl, hb1⟩
  have hcv : cutL abc 2 = [⟨[97, 98], false, false⟩, ⟨[99, 100], false, false⟩, ⟨[101], true, false⟩] := rfl
  rw [hcv] at hl
  obtain rfl : 3 = n' := hl.len
  obtain ⟨g, o, q1, rfl, hra1, hq1, hs1, hg⟩ := hl.sl.row (i := 1) (by decide)
  obtain ⟨g', o', q2, he, hra2, hq2, hs2, _⟩ := hl.sl.row (i := 2) (by decide)
  injection he with he
  injection he with e1 e2
  subst e1 e2
  obtain ⟨B1, m1, d1, ys1, n1, f1⟩ := q1
  obtain ⟨B2, m2, d2, ys2, n2, f2⟩ := q2
  have hs1' : (⟨[99, 100], false, false⟩ : Pp) = ⟨ys1, n1, f1⟩ := by simpa [Pc.say] using hs1
  have hs2' : (⟨[101], true, false⟩ : Pp) = ⟨ys2, n2, f2⟩ := by simpa [Pc.say] using hs2
  injection hs1' with a1 a2 a3
  injection hs2' with a4 a5 a6
  subst a1 a2 a3 a4 a5 a6
  have c11 := hra1 1 _ rfl
  have c20 := hra2 0 _ rfl
  have c21 := hra2 1 _ rfl
  have hcv := conv_any hq2
  have hstr : strOfNums [101] = { data := #[101] } := by decide
  rw [hstr] at hcv
  have HB1 := Lib.hid hb1
  clear hs1 hs2 hra1 hra2 hq1 hq2 hl hb1 HR hstr
  go_wp2_with fail
  refine (c_cut_no (A := none) (n := 0) (c := 0) (m := 2) (by decide)).mono ?_
  rintro e w2 ⟨rfl, rfl⟩
  go_wp2_with fail
  refine (count_any 5 2 _).mono ?_
  rintro e w2 ⟨rfl, rfl⟩
  go_wp2_with fail
  refine (c_fin _).mono ?_
  rintro e w2 ⟨rfl, hb2⟩
  go_wp2
  go_ret
  exact ⟨rfl, (((Below.refl _ w).alloc (Nat.le_refl _) _).trans (HB1.out.mono (by simp))).trans (hb2.mono (by have := HB1.out.size; simp at this; omega))⟩
end Go.Proofs.Ytmnmkolcffehhaa
