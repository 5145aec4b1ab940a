/- What seals, by the reference. -/
import Derived.Test.YteheffhfhimkdaaC9
set_option linter.unusedSimpArgs false
set_option linter.unusedVariables false
namespace Go.Proofs.Yteheffhfhimkdaa
open Go.RowKit Go.Shelf

set_option maxHeartbeats 2000000 in
theorem rseal_any (A : Option Addr) (n c : Nat) (xs : List Int) (w : World) (h : Rd .u8 w A n c xs) (hn : n ≤ 65536) :
    Calls Try.prog 19 #[.slice A n c] w fun e w' => ∃ v, e = .returned v ∧ Ow .u8 5 w.heap.size w' v (sealL xs) ∧ Below w.heap.size w w' := by
  have hl := Lib.hid h.1
  have hwf := Lib.hid h.2.2.2.2.1
  have hf := f16_bounds (tot true xs)
  have hs : ∃ s, s = onesV xs ∧ 0 ≤ s ∧ s ≤ 65535 := ⟨_, rfl, by unfold onesV; omega, by unfold onesV; omega⟩
  obtain ⟨s, hs0, hs1, hs2⟩ := hs
  have HO := Lib.hid (show onesV (padL xs) = s by rw [onesV_padL]; omega)
  have HO2 := Lib.hid (show onesV xs = s by omega)
  have HX := Lib.hid (u8_wf_of' ((65535 - s) / 256) ((65535 - s) % 256) (by omega) (by omega) (by omega) (by omega))
  clear hs0 hf
  have HL0 := Lib.hid (show (([] : List Int).length + n) * 1 ≤ 140737488355328 by simp; omega)
  have HL := Lib.hid (show (xs.length + 1) * 1 ≤ 140737488355328 by rw [hl.out]; omega)
  have HL2 := Lib.hid (show ((padL xs).length + 2) * 1 ≤ 140737488355328 by have := hl.out; unfold padL; split <;> simp <;> omega)
  have hsh : (65535 - s) / 256 % 256 = (65535 - s) / 256 := by omega
  have hq1 : IntKind.u16.wrap ((65535 - s).tdiv 256) = (65535 - s) / 256 := by rw [Int.tdiv_eq_ediv_of_nonneg (by omega), IntKind.wrap_u16]; omega
  have hq2 : (65535 - s).tmod 256 = (65535 - s) % 256 := Int.tmod_eq_emod_of_nonneg (by omega)
  have HB := Lib.hid ((Below.refl w.heap.size w).alloc (Nat.le_refl _) (.cells #[] 5))
  have HPwf := Lib.hid (wf_of_ok (l := padL xs) (by
    unfold padL; split
    · exact okB_app (okB_of hwf.out) (by decide)
    · exact okB_of hwf.out))
  have HPn := Lib.hid (show (padL xs).length ≤ 70368744177664 by have := hl.out; unfold padL; split <;> simp <;> omega)
  by_cases hodd : n % 2 = 1
  · have HM : (n : Int) % 2 = 1 := by omega
    have HPad := Lib.hid (show padL xs = xs ++ [0] by unfold padL; rw [hl.out, if_pos hodd])
    have HW0 := Lib.hid (u8_wf_of (l := [0]) (by decide))
    go_enter Try.func19, Try.ntmps19
    go_upto_region 2 with (at_builtin
                           refine wpList_append_ints bytesT rfl (.tmp 5) (.tmp 6) rfl rfl (w0 := w) (own_empty w) rfl (h.alloc _) HL0.out (by omega) HB.out ?_
                           intro v1 w1 hown1 hb1
                           rw [List.nil_append] at hown1
                           obtain ⟨A1, c1, rfl, hr1⟩ := hown1.rd hwf.out)
    rw [hl.out]
    go_wp2_with (at_builtin
                 refine wpList_append_ints bytesT rfl (.tmp 12) (.tmp 13) rfl rfl (w0 := w) (by have := hown1; rw [hl.out] at this; exact this.alloc _) rfl (Rd.one w1 5 0 (HW0.out 0 (by simp))) HL.out (by omega) (hb1.alloc hb1.size _) ?_
                 intro v3 w3 hown3 hb3
                 rw [← HPad.out] at hown3
                 obtain ⟨A3, c3, rfl, hr3⟩ := hown3.rd HPwf.out
                 clear hr1 hown1 hb1)
    refine (rones_any _ _ _ _ _ hr3 HPn.out).mono ?_
    rintro e w4 ⟨rfl, rfl⟩
    rw [HO.out]
    go_wp2_with (at_builtin
                 refine wpList_append_ints bytesT rfl (.tmp 18) (.tmp 25) rfl rfl (w0 := w) (hown3.alloc _) rfl (by exact Rd.lit w3 5 [(65535 - s) / 256, (65535 - s) % 256] HX.out (by simp)) HL2.out (by omega) (hb3.alloc hb3.size _) ?_
                 intro v5 w5 hown5 hb5)
    go_ret
    exact ⟨_, rfl, by unfold sealL; rw [HO2.out]; exact hown5, hb5⟩
  · have HM : (n : Int) % 2 = 0 := by omega
    have HPad := Lib.hid (show padL xs = xs by unfold padL; rw [hl.out, if_neg hodd])
    go_enter Try.func19, Try.ntmps19
    go_upto_region 2 with (at_builtin
                           refine wpList_append_ints bytesT rfl (.tmp 5) (.tmp 6) rfl rfl (w0 := w) (own_empty w) rfl (h.alloc _) HL0.out (by omega) HB.out ?_
                           intro v1 w1 hown1 hb1
                           rw [List.nil_append] at hown1
                           obtain ⟨A1, c1, rfl, hr1⟩ := hown1.rd hwf.out)
    rw [hl.out] at hr1 hown1
    rw [hl.out]
    go_wp2_with fail
    refine (rones_any _ _ _ _ _ hr1 (by omega)).mono ?_
    rintro e w4 ⟨rfl, rfl⟩
    rw [HO2.out]
    rw [← HPad.out] at hown1
    go_wp2_with (at_builtin
                 refine wpList_append_ints bytesT rfl (.tmp 18) (.tmp 25) rfl rfl (w0 := w) (hown1.alloc _) rfl (by exact Rd.lit w1 5 [(65535 - s) / 256, (65535 - s) % 256] HX.out (by simp)) HL2.out (by omega) (hb1.alloc hb1.size _) ?_
                 intro v5 w5 hown5 hb5)
    go_ret
    exact ⟨_, rfl, by unfold sealL; rw [HO2.out]; exact hown5, hb5⟩
end Go.Proofs.Yteheffhfhimkdaa
