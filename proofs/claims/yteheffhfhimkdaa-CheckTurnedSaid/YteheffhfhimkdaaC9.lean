/- What seals, by the program and by the reference. -/
import Derived.Test.YteheffhfhimkdaaC8
import Derived.Deep.DeepCutAuto
set_option linter.unusedSimpArgs false
set_option linter.unusedVariables false
namespace Go.Proofs.Yteheffhfhimkdaa
open Go.RowKit Go.Shelf

set_option maxHeartbeats 2000000 in
theorem seal_any (A : Option Addr) (n c : Nat) (xs : List Int) (w : World) (h : Rd .u8 w A n c xs) (hn : n ≤ 65536) :
    Calls Try.prog 18 #[.slice A n c] w fun e w' => ∃ v, e = .returned v ∧ Ow .u8 5 w.heap.size w' v (sealL xs) ∧ Below w.heap.size w w' := by
  have hl := Lib.hid h.1
  have HE := Lib.hid (drop_rep n xs h.1)
  have hf := f16_bounds (tot true xs)
  have hs : ∃ s, s = onesV xs ∧ 0 ≤ s ∧ s ≤ 65535 := ⟨_, rfl, by unfold onesV; omega, by unfold onesV; omega⟩
  obtain ⟨s, hs0, hs1, hs2⟩ := hs
  have HO := Lib.hid (show onesV xs = s by omega)
  have HX := Lib.hid (u8_wf_of' ((65535 - s) / 256) ((65535 - s) % 256) (by omega) (by omega) (by omega) (by omega))
  clear hs0 hf
  have M0 : (0 : Int) ≤ n := by omega
  have M1 : (n : Int) ≤ n + 3 := by omega
  have M2 : ((1 : Nat) : Int) * ((n : Int) + 3) ≤ 281474976710656 := by omega
  have M3 : (n : Int) + 3 ≤ 9223372036854775807 := by omega
  have HL := Lib.hid (show (xs.length + 1) * 1 ≤ 140737488355328 by rw [hl.out]; omega)
  have HL2 := Lib.hid (show ((padL xs).length + 2) * 1 ≤ 140737488355328 by have := hl.out; unfold padL; split <;> simp <;> omega)
  have hsh : (65535 - s) / 256 % 256 = (65535 - s) / 256 := by omega
  by_cases hodd : n % 2 = 1
  · have HM : (n : Int) % 2 = 1 := by omega
    have HPad := Lib.hid (show padL xs = xs ++ [0] by unfold padL; rw [hl.out, if_pos hodd])
    have HW0 := Lib.hid (u8_wf_of (l := [0]) (by decide))
    go_enter Try.func18, Try.ntmps18
    go_wp2_with (first
      | (at_make
         refine wpList_make_ints bytesT rfl (.tmp 6) (.tmp 9) rfl (kl := .i64) (kc := .i64) (L := n) (C := n + 3) rfl rfl M0 M1 M2 M3 (w0 := w) (Below.refl _ _) ?_
         intro v1 w1 hown1 hb1)
      | (refine wpList_copy_ints bytesT rfl (.tmp 11) (.tmp 12) rfl (v := v1) rfl hown1 rfl (by exact h.below hb1) (by simp) hb1 ?_
         intro w2 r2 hown2 hb2
         rw [HE.out] at hown2
         clear hown1 hb1)
      | (at_builtin
         refine wpList_append_ints bytesT rfl (.tmp 18) (.tmp 19) rfl rfl (w0 := w) (hown2.alloc _) rfl (Rd.one w2 5 0 (HW0.out 0 (by simp))) HL.out (by omega) (hb2.alloc hb2.size _) ?_
         intro v3 w3 hown3 hb3))
    rw [← HPad.out] at hown3
    clear hown2 hb2
    refine (ones_any _ 1 1 _ _ (by exact Pts.one (h.below hb3) hn)).mono ?_
    rintro e w4 ⟨rfl, rfl⟩
    rw [cat_one, HO.out]
    have hb4 := hb3.alloc hb3.size (.cells #[.slice A n c] 22)
    have hown4 := hown3.alloc (.cells #[.slice A n c] 22)
    clear hown3 hb3
    generalize w3.alloc (.cells #[.slice A n c] 22) = w4 at *
    go_wp2_with (at_builtin
                 refine wpList_append_ints bytesT rfl (.tmp 25) (.tmp 31) rfl rfl (w0 := w) (hown4.alloc _) rfl (by exact Rd.lit w4 5 [(65535 - s) / 256, (65535 - s) % 256] HX.out (by simp)) HL2.out (by omega) (hb4.alloc hb4.size _) ?_
                 intro v5 w5 hown5 hb5)
    go_ret
    exact ⟨_, rfl, by unfold sealL; rw [HO.out]; exact hown5, hb5⟩
  · have HM : (n : Int) % 2 = 0 := by omega
    have HPad := Lib.hid (show padL xs = xs by unfold padL; rw [hl.out, if_neg hodd])
    go_enter Try.func18, Try.ntmps18
    go_wp2_with (first
      | (at_make
         refine wpList_make_ints bytesT rfl (.tmp 6) (.tmp 9) rfl (kl := .i64) (kc := .i64) (L := n) (C := n + 3) rfl rfl M0 M1 M2 M3 (w0 := w) (Below.refl _ _) ?_
         intro v1 w1 hown1 hb1)
      | (refine wpList_copy_ints bytesT rfl (.tmp 11) (.tmp 12) rfl (v := v1) rfl hown1 rfl (by exact h.below hb1) (by simp) hb1 ?_
         intro w2 r2 hown2 hb2
         rw [HE.out] at hown2
         clear hown1 hb1))
    rw [← HPad.out] at hown2
    refine (ones_any _ 1 1 _ _ (by exact Pts.one (h.below hb2) hn)).mono ?_
    rintro e w4 ⟨rfl, rfl⟩
    rw [cat_one, HO.out]
    have hb4 := hb2.alloc hb2.size (.cells #[.slice A n c] 22)
    have hown4 := hown2.alloc (.cells #[.slice A n c] 22)
    clear hown2 hb2
    generalize w2.alloc (.cells #[.slice A n c] 22) = w4 at *
    go_wp2_with (at_builtin
                 refine wpList_append_ints bytesT rfl (.tmp 25) (.tmp 31) rfl rfl (w0 := w) (hown4.alloc _) rfl (by exact Rd.lit w4 5 [(65535 - s) / 256, (65535 - s) % 256] HX.out (by simp)) HL2.out (by omega) (hb4.alloc hb4.size _) ?_
                 intro v5 w5 hown5 hb5)
    go_ret
    exact ⟨_, rfl, by unfold sealL; rw [HO.out]; exact hown5, hb5⟩
end Go.Proofs.Yteheffhfhimkdaa
