/- Sums continued, by the program and by the reference. -/
import Derived.Test.YtochbcemobkegaaA4
set_option linter.unusedSimpArgs false
set_option linter.unusedVariables false
namespace Go.Proofs.Ytochbcemobkegaa
open Go.RowKit Go.Shelf

theorem and16 (s : Int) (h0 : 0 ≤ s) (h1 : s < 4294967296) : bits .and .u32 s 65535 = s % 65536 := by
  have := bits_mask .u32 32 (by decide) (fun n a b => by rw [IntKind.wrap_u32]; omega) 16 (by decide) s h0 (by omega)
  simpa using this

set_option maxHeartbeats 1000000 in
theorem on_any (s : Int) (A : Option Addr) (n c : Nat) (xs : List Int) (w : World) (h : Rd .u8 w A n c xs) (h0 : 0 ≤ s) (h1 : s < 4294967296) :
    Calls Try.prog 26 #[.int .u32 s, .slice A n c] w fun e w' => e = .returned (.int .u32 (onV s xs)) ∧ w = w' := by
  obtain ⟨hl, hc, hm, _, hwf, hcell⟩ := h
  unfold maxLen at hm
  obtain ⟨a0, ha0⟩ : ∃ a, a = s % 65536 % 65521 := ⟨_, rfl⟩
  obtain ⟨b0, hb0⟩ : ∃ b, b = s / 65536 % 65521 := ⟨_, rfl⟩
  have HA := Lib.hid ha0
  have HB := Lib.hid hb0
  have HT := Lib.hid (List.take_of_length_le (i := n) (l := xs) (by omega))
  have i1 : adA a0 b0 (xs.take 0) = a0 := by subst ha0; simp [adA, raw, rawA]
  have i2 : adB a0 b0 (xs.take 0) = b0 := by subst hb0; simp [adB, raw, rawB]
  clear ha0 hb0
  have I1 := Lib.hid i1
  have I2 := Lib.hid i2
  clear i1 i2
  go_enter Try.func26, Try.ntmps26
  go_wp2
  go_loop [5, 6, 7] (fun ta tb ti => ∃ k : Nat, k ≤ n ∧ ti = .int .i64 k ∧ ta = .int .u32 (adA a0 b0 (xs.take k)) ∧ tb = .int .u32 (adB a0 b0 (xs.take k))) (fun _ _ i => n - (intOf i).toNat)
  case atStart => exact ⟨0, Nat.zero_le _, rfl, by rw [I1.out, HA.out], by rw [I2.out, HB.out]⟩
  case round =>
    obtain ⟨k, hk, rfl, rfl, rfl⟩ := hrel
    obtain ⟨⟨p1, p2⟩, p3, p4⟩ := ad_lt a0 b0 (xs.take k)
    by_cases hlt : k < n
    · obtain ⟨g, o, rfl, hg, hcs⟩ := hcell (by omega)
      have hx := hcs k hlt
      have hlk : k < xs.length := by omega
      obtain ⟨x0, hx0⟩ : ∃ x, x = xs[k] := ⟨_, rfl⟩
      rw [show xs.getD k 0 = xs[k] from by simp [hlk], ← hx0] at hx
      obtain ⟨q1, q2⟩ := u8_bounds (hwf (xs[k]) (List.getElem_mem _))
      have ht := ad_take a0 b0 xs k hlk
      rw [← hx0] at q1 q2 ht
      have HK := Lib.hid ht
      clear hcs hcell ht hx0 hl
      go_wp2
      go_round
      case rel => exact ⟨k + 1, by omega, by go_num, by rw [HK.out.1], by rw [HK.out.2]⟩
      case measure => simp [intOf]; omega
    · obtain rfl : k = n := by omega
      clear hl
      go_wp2
      go_ret
      exact ⟨by rw [HT.out, HA.out, HB.out]; rfl, rfl⟩

set_option maxHeartbeats 400000 in
theorem of_any (A : Option Addr) (n c : Nat) (xs : List Int) (w : World) (h : Rd .u8 w A n c xs) :
    Calls Try.prog 27 #[.slice A n c] w fun e w' => e = .returned (.int .u32 (onV 1 xs)) ∧ w = w' := by
  go_enter Try.func27, Try.ntmps27
  go_wp2_with fail
  refine (on_any 1 A n c xs _ h (by decide) (by decide)).mono ?_
  rintro e w1 ⟨rfl, rfl⟩
  go_wp2
  go_ret
  exact ⟨rfl, rfl⟩

end Go.Proofs.Ytochbcemobkegaa
