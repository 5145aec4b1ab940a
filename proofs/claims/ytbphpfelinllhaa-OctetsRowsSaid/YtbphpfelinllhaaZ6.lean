/- The law of rows of numbers. -/
import Derived.Test.YtbphpfelinllhaaZ5
import Derived.Test.YtbphpfelinllhaaX6
import Derived.BigQuiet
import Derived.Deep.QuietTactic
set_option linter.unusedSimpArgs false
set_option linter.unusedVariables false
set_option linter.unnecessarySimpa false
namespace Go.Proofs.Ytbphpfelinllhaa
open Go.RowKit Go.Shelf

set_option maxRecDepth 100000 in
set_option maxHeartbeats 4000000 in
theorem lawRows (A0 : Option Addr) (n0 c0 : Nat) (xs0 : List Int) (s y : Int) (w : World) (h0 : Rd .u8 w A0 n0 c0 xs0) (hy0 : 0 ≤ y) (hy1 : y < 256) :
    Calls Try.prog 4 #[.slice A0 n0 c0, .int .i64 s, .int .u8 y] w fun e w' => e = .returned (.bool true) ∧ Below w.heap.size w w' := by
  have H1 := Lib.hid (lawcut_any A0 n0 c0 w h0.2.1 h0.2.2.1)
  obtain ⟨n, hn⟩ : ∃ n, n = min n0 500 := ⟨_, rfl⟩
  obtain ⟨xs, hx⟩ : ∃ xs, xs = xs0.take n := ⟨_, rfl⟩
  have h : Rd .u8 w A0 n c0 xs := by rw [hx]; exact h0.pre (by omega)
  have hn5 : n ≤ 500 := by omega
  rw [← hn] at H1
  have hRl := rowsL_len xs s
  rw [h.1] at hRl
  obtain ⟨R, hR⟩ : ∃ R, R = rowsL xs s := ⟨_, rfl⟩
  rw [← hR] at hRl
  have hRwf : ∀ x ∈ R, (Lit.int .u64 x).wf = true := by rw [hR]; exact rowsL_wf xs s
  obtain ⟨L, hL⟩ : ∃ L, L = R.length := ⟨_, rfl⟩
  rw [← hL] at hRl
  obtain ⟨kk, hk, hkL⟩ : ∃ kk : Nat, (if y < (L : Int) then y else (L : Int)) = kk ∧ kk ≤ L := by
    by_cases hq : y < (L : Int)
    · exact ⟨y.toNat, by rw [if_pos hq]; omega, by omega⟩
    · exact ⟨L, by rw [if_neg hq], Nat.le_refl _⟩
  have HR := Lib.hid hR
  have HL := Lib.hid hL
  have HWF := Lib.hid hRwf
  have HWK := Lib.hid (show ∀ x ∈ R.take kk, (Lit.int .u64 x).wf = true from fun x hx => hRwf x (List.mem_of_mem_take hx))
  have HTK := Lib.hid (show (R.take kk).length = kk by rw [List.length_take]; omega)
  have HTA := Lib.hid (show R.take (n + 1) = R from List.take_of_length_le (by omega))
  clear hn hx h0 hR hL hRwf
  go_enter Try.func4, Try.ntmps4
  go_wp2_with fail
  refine H1.out.mono ?_
  rintro e w' ⟨rfl, rfl⟩
  clear H1
  go_wp2_with fail
  refine (rrows_any _ _ _ xs s _ (by exact h) (by omega) h.blk).mono ?_
  rintro e w2 ⟨v2, rfl, hown2, hb2⟩
  rw [← HR.out] at hown2
  obtain ⟨A2, c2, rfl, hr2⟩ := hown2.rd HWF.out
  rw [← HL.out] at hr2
  rw [← HL.out]
  clear hown2
  go_upto_region 4 with fail
  clear hk
  have hx2 := h.below hb2
  go_wp2_with fail
  refine (lrows_any _ _ _ s kk xs _ (by exact hx2) (by omega) (by omega)).mono ?_
  rintro e w3 ⟨v3, rfl, hown3, hb3⟩
  rw [← HR.out] at hown3
  obtain ⟨A3, c3, rfl, hr3⟩ := hown3.rd HWK.out
  rw [HTK.out] at hr3
  rw [HTK.out]
  have hx3 := hx2.below hb3
  have hr23 := hr2.below hb3
  have hb33 := hb2.trans (hb3.mono hb2.size)
  clear hown3 hx2 hr2 hb3 hb2
  go_wp2_with fail
  refine (show Calls Try.prog 13 #[.slice A0 n c0, .int .i64 s, .int .i64 ((n : Int) + 1)] w3 _ from lrows_any A0 n c0 s (n + 1) xs w3 hx3 (by omega) (by omega)).mono ?_
  rintro e w4 ⟨v4, rfl, hown4, hb4⟩
  rw [← HR.out, HTA.out] at hown4
  obtain ⟨A4, c4, rfl, hr4⟩ := hown4.rd HWF.out
  rw [← HL.out] at hr4
  rw [← HL.out]
  have hx4 := hx3.below hb4
  have hr24 := hr23.below hb4
  have hr34 := hr3.below hb4
  have hb44 := hb33.trans (hb4.mono hb33.size)
  clear hown4 hx3 hr23 hr3 hb4 hb33
  go_wp2_with fail
  refine (count_any _ _ _ s xs _ (by exact hx4) (by omega) hx4.blk).mono ?_
  rintro e w5 ⟨rfl, hb5⟩
  rw [← HR.out, ← HL.out]
  have hr25 := hr24.below hb5
  have hr35 := hr34.below hb5
  have hr45 := hr4.below hb5
  have hb55 := hb44.trans (hb5.mono hb44.size)
  clear hx4 hr24 hr34 hr4 hb5 hb44
  go_wp2_with fail
  go_loopg [11] L (fun gk ti wr => ∃ k : Nat, gk = L - k ∧ k ≤ L ∧ ti = .int .i64 k ∧ Below w5.heap.size w5 wr)
  case atStart => exact ⟨0, rfl, Nat.zero_le _, rfl, Below.refl _ _⟩
  case round =>
    obtain ⟨k, rfl, hkk, rfl, hb⟩ := hrel
    by_cases hlt : k < L
    · have hlr : k < R.length := by rw [← HL.out]; exact hlt
      obtain ⟨x0, hx0⟩ : ∃ x, x = R[k] := ⟨_, rfl⟩
      obtain ⟨g4, o4, rfl, -, e4⟩ := (hr45.below hb).cell hlt
      obtain ⟨g2, o2, rfl, -, e2⟩ := (hr25.below hb).cell hlt
      rw [show R.getD k 0 = R[k] from by simp [hlr], ← hx0] at e4 e2
      by_cases hlt2 : k < kk
      · obtain ⟨g3, o3, rfl, -, e3⟩ := (hr35.below hb).cell hlt2
        rw [show (R.take kk).getD k 0 = R[k] from by simp [hlt2, hlr], ← hx0] at e3
        clear hx0 hlr
        go_upto_region 10 with fail
        go_quiet (fail)
        clear e2 e3 e4
        go_wp2_with fail
        go_roundg (L - (k + 1))
        case measure => omega
        case rel => exact ⟨k + 1, rfl, by omega, by go_num, hb.trans ((Below.drewN_ _ _).mono hb.size)⟩
      · clear hx0 hlr
        go_upto_region 10 with fail
        go_quiet (fail)
        clear e2 e4
        go_wp2_with fail
        go_roundg (L - (k + 1))
        case measure => omega
        case rel => exact ⟨k + 1, rfl, by omega, by go_num, hb.trans ((Below.drewN_ _ _).mono hb.size)⟩
    · obtain rfl : k = L := by omega
      have hbb := hb55.trans (hb.mono hb55.size)
      clear hb
      go_wp2_with fail
      refine (awake_any _).mono ?_
      rintro e w7 ⟨rfl, hb7⟩
      go_wp2
      go_ret
      exact ⟨rfl, hbb.trans (hb7.mono hbb.size)⟩
end Go.Proofs.Ytbphpfelinllhaa
