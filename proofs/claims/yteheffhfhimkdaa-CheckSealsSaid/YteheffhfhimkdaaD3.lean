/- The law of sums; the law of seals. -/
import Derived.Test.YteheffhfhimkdaaD2
set_option linter.unusedSimpArgs false
set_option linter.unusedVariables false
namespace Go.Proofs.Yteheffhfhimkdaa
open Go.RowKit Go.Shelf

set_option maxRecDepth 100000 in
set_option maxHeartbeats 2000000 in
theorem lawSums (A0 : Option Addr) (n0 c0 : Nat) (xs0 : List Int) (B0 : Option Addr) (m0 d0 : Nat) (ys0 : List Int) (s : Int) (w : World) (h0 : Rd .u8 w A0 n0 c0 xs0) (k0 : Rd .u8 w B0 m0 d0 ys0) (hs0 : 0 ≤ s) (hs1 : s < 4294967296) :
    Calls Try.prog 3 #[.slice A0 n0 c0, .slice B0 m0 d0, .int .u32 s] w fun e w' => e = .returned (.bool true) ∧ Below w.heap.size w w' := by
  have H1 := Lib.hid (lawcut_any A0 n0 c0 w h0.2.1 h0.2.2.1)
  have H2 := Lib.hid (lawcut_any B0 m0 d0 w k0.2.1 k0.2.2.1)
  obtain ⟨n, hn⟩ : ∃ n, n = min n0 1500 := ⟨_, rfl⟩
  obtain ⟨m, hm⟩ : ∃ m, m = min m0 1500 := ⟨_, rfl⟩
  obtain ⟨xs, hx⟩ : ∃ xs, xs = xs0.take n := ⟨_, rfl⟩
  obtain ⟨ys, hy⟩ : ∃ ys, ys = ys0.take m := ⟨_, rfl⟩
  have h : Rd .u8 w A0 n c0 xs := by rw [hx]; exact h0.pre (by omega)
  have k : Rd .u8 w B0 m d0 ys := by rw [hy]; exact k0.pre (by omega)
  have hn5 : n ≤ 1500 := by omega
  have hm5 : m ≤ 1500 := by omega
  rw [← hn] at H1
  rw [← hm] at H2
  have HX := Lib.hid (okB_of h.2.2.2.2.1)
  have HY := Lib.hid (okB_of k.2.2.2.2.1)
  have HL := Lib.hid h.1
  have HM := Lib.hid k.1
  clear hn hm hx hy h0 k0
  go_enter Try.func3, Try.ntmps3
  go_wp2_with fail
  refine H1.out.mono ?_
  rintro e w' ⟨rfl, rfl⟩
  go_wp2_with fail
  refine H2.out.mono ?_
  rintro e w' ⟨rfl, rfl⟩
  clear H1 H2
  go_wp2_with fail
  refine (join_any _ _ _ xs _ _ _ ys _ (by exact h) (by exact k) (by omega) (by omega)).mono ?_
  rintro e w1 ⟨v1, rfl, hown1, hb1⟩
  obtain ⟨A1, c1, rfl, hr1⟩ := hown1.rd (wf_of_ok (okB_app HX.out HY.out))
  clear hown1
  have hlen : (xs ++ ys).length ≤ 70368744177664 := by rw [List.length_append, HL.out, HM.out]; omega
  generalize hL : (xs ++ ys).length = L at *
  have HLen := Lib.hid hL
  clear hL
  go_wp2_with fail
  refine (adler_any _ 2 2 _ _ (by exact Pts.two (h.below hb1) (k.below hb1) (by simp) (by omega) (by omega))).mono ?_
  rintro e w2 ⟨rfl, hb2⟩
  rw [cat_two]
  have hb3 := (hb1.alloc hb1.size _).trans (hb2.mono (by have := hb1.size; simp; omega))
  have hr3 := (hr1.alloc _).below hb2
  clear hb1 hb2 hr1
  go_wp2_with fail
  refine (of_any _ _ _ _ _ (by exact hr3)).mono ?_
  rintro e w' ⟨rfl, rfl⟩
  go_wp2_with fail
  refine (next_any s _ _ _ xs _ (by exact h.below hb3) (by omega) hs0 hs1).mono ?_
  rintro e w4 ⟨rfl, hb4'⟩
  have hb4 := hb3.trans (hb4'.mono hb3.size)
  have hr4 := hr3.below hb4'
  clear hb4' hb3 hr3
  go_wp2_with fail
  refine (on_any s _ _ _ xs _ (by exact h.below hb4) hs0 hs1).mono ?_
  rintro e w' ⟨rfl, rfl⟩
  go_wp2_with fail
  refine (ones_any _ 2 2 _ _ (by exact Pts.two (h.below hb4) (k.below hb4) (by simp) (by omega) (by omega))).mono ?_
  rintro e w' ⟨rfl, rfl⟩
  rw [cat_two]
  have hb5 := hb4.alloc hb4.size (.cells #[.slice A0 n c0, .slice B0 m d0] 22)
  have hr5 := hr4.alloc (.cells #[.slice A0 n c0, .slice B0 m d0] 22)
  clear hb4 hr4
  generalize w4.alloc (.cells #[.slice A0 n c0, .slice B0 m d0] 22) = w5 at *
  go_wp2_with fail
  refine (rones_any _ _ _ _ _ (by exact hr5) hlen).mono ?_
  rintro e w' ⟨rfl, rfl⟩
  go_wp2_with fail
  refine (ones_any none 0 0 [] _ (Pts.nil _)).mono ?_
  rintro e w' ⟨rfl, rfl⟩
  rw [show onesV (cat []) = 0 from by decide]
  go_wp2_with fail
  refine (awake_any _).mono ?_
  rintro e w6 ⟨rfl, hb6⟩
  go_wp2
  go_ret
  exact ⟨rfl, hb5.trans (hb6.mono hb5.size)⟩
end Go.Proofs.Yteheffhfhimkdaa
