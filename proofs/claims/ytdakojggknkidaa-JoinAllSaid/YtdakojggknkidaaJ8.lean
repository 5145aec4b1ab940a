/- The page's example. -/
import Derived.Test.YtdakojggknkidaaJ7
import Derived.Lib.SlBytesConst
set_option linter.unusedSimpArgs false
set_option linter.unusedVariables false
namespace Go.Proofs.Ytdakojggknkidaa
open Go.RowKit Go.Shelf
def m0 : Jm := ⟨[], 0, 0⟩
def m1 : Jm := ⟨[[97, 98]], 0, 0⟩
def m2 : Jm := ⟨[], 1, 3⟩
set_option maxHeartbeats 4000000 in
theorem awake_any (w : World) : Calls Try.prog 8 #[] w fun e w' => e = .returned (.bool true) ∧ Below w.heap.size w w' := by
  go_enter Try.func8, Try.ntmps8
  go_wp2_with fail
  refine (j_new _).mono ?_
  rintro e w1 ⟨rfl, hj1, hb1⟩
  have hc1 : (convert 25 25 (.slice (some ⟨w1.heap.size, 0, none⟩) 2 2)).run Try.prog (w1.alloc (.cells #[.int .u8 97, .int .u8 98] 5)) = .ok (.slice (some ⟨w1.heap.size, 0, none⟩) 2 2) (w1.alloc (.cells #[.int .u8 97, .int .u8 98] 5 (2, 3))) := Lib.run_convert_bytes_const (P := Try.prog) w1 25 5 #[.int .u8 97, .int .u8 98] 2 2 Try.underlying25 Try.underlying5
  have hba : Below w1.heap.size w1 (w1.alloc (.cells #[.int .u8 97, .int .u8 98] 5 (2, 3))) := (Below.refl _ _).alloc (Nat.le_refl _) _
  have hr1 : Rd .u8 (w1.alloc (.cells #[.int .u8 97, .int .u8 98] 5 (2, 3))) (some ⟨w1.heap.size, 0, none⟩) 2 2 [97, 98] := Rd.litF w1 5 [97, 98] (2, 3) (wf_of_ok (by decide)) (by decide)
  have HA1 := Lib.hid (j_add (m := m0) (xs := [97, 98]) ⟨_, _, _, hj1.below hba⟩ hr1 false (by decide) (by decide))
  have HB1 := Lib.hid (hb1.trans (hba.mono hb1.size))
  clear hj1 hb1 hba hr1
  go_wp2_with fail
  refine HA1.out.mono ?_
  rintro e w2 ⟨A2, n2, c2, F2, rfl, hj2, hq2, hk2, hs2, hg2⟩
  have e1 : m0.is [97, 98] false = false := rfl
  have e2 : m0.refuse [97, 98] = 0 := rfl
  have e3 : m0.add [97, 98] false = m1 := rfl
  rw [e1, e2]
  rw [e3] at hj2
  have hb2 := HB1.out.trans (hs2.below HB1.out.size (fun k hk => by subst hk; exact Nat.le_refl _))
  have hge2 : ∀ k, F2 k → w.heap.size ≤ k := fun k hk => by
    rcases hg2 k hk with h | h
    · subst h; exact Nat.le_refl _
    · exact Nat.le_trans HB1.out.size h
  have hc2 : (convert 25 25 (.slice (some ⟨w2.heap.size, 0, none⟩) 1 1)).run Try.prog (w2.alloc (.cells #[.int .u8 99] 5)) = .ok (.slice (some ⟨w2.heap.size, 0, none⟩) 1 1) (w2.alloc (.cells #[.int .u8 99] 5 (1, 2))) := Lib.run_convert_bytes_const (P := Try.prog) w2 25 5 #[.int .u8 99] 1 1 Try.underlying25 Try.underlying5
  have hbc : Below w2.heap.size w2 (w2.alloc (.cells #[.int .u8 99] 5 (1, 2))) := (Below.refl _ _).alloc (Nat.le_refl _) _
  have hr2 : Rd .u8 (w2.alloc (.cells #[.int .u8 99] 5 (1, 2))) (some ⟨w2.heap.size, 0, none⟩) 1 1 [99] := Rd.litF w2 5 [99] (1, 2) (wf_of_ok (by decide)) (by decide)
  have HA2 := Lib.hid (j_add (m := m1) (xs := [99]) (hj2.below hbc) hr2 true (by decide) (by decide))
  have HB2 := Lib.hid (hb2.trans (hbc.mono hb2.size))
  have HG2 := Lib.hid hge2
  clear hj2 hq2 hk2 hs2 hg2 hb2 hbc hr2 e1 e2 e3 hc1 hge2
  go_wp2_with fail
  refine HA2.out.mono ?_
  rintro e w3 ⟨A3, n3, c3, F3, rfl, hj3, hq3, hk3, hs3, hg3⟩
  have e1 : m1.is [99] true = true := rfl
  have e2 : m1.refuse [99] = 0 := rfl
  have e3 : m1.add [99] true = m2 := rfl
  have e4 : m1.told [99] true = [97, 98, 99] := rfl
  rw [e1, e2]
  rw [e3] at hj3
  rw [e4] at hq3
  have hcv := conv_any hq3.1
  have hstr : strOfNums [97, 98, 99] = { data := #[97, 98, 99] } := by decide
  rw [hstr] at hcv
  have HMs := Lib.hid (j_messages hj3)
  have HBy := Lib.hid (j_bytes hj3)
  have HB3 := Lib.hid (HB2.out.trans (hs3.below HB2.out.size HG2.out))
  clear hj3 hq3 hk3 hs3 hg3 hstr e1 e2 e3 e4 hc2
  go_wp2_with (first
    | (go_at_call 22; refine HMs.out.mono ?_; rintro e w' ⟨rfl, rfl⟩)
    | (go_at_call 23; refine HBy.out.mono ?_; rintro e w' ⟨rfl, rfl⟩))
  go_ret
  exact ⟨rfl, HB3.out⟩
end Go.Proofs.Ytdakojggknkidaa
