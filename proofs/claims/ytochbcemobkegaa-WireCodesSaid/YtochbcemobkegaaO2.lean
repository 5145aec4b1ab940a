import Derived.Test.YtochbcemobkegaaO1
namespace Go.Proofs.Ytochbcemobkegaa
open Go.RowKit
set_option maxHeartbeats 400000 in
theorem rget_no (A : Option Addr) (n c : Nat) (s : Int) (w : World) (h : sizeB s = false ∨ (n : Int) < s) :
    Calls Try.prog 52 #[.slice A n c, .int .i64 s] w fun e w' => e = .returned (.tuple #[.int .u64 0, .slice none 0 0, .bool false]) ∧ Below w.heap.size w w' := by
  by_cases hsz : sizeB s = false
  · go_enter Try.func52, Try.ntmps52
    go_wp2_with (first
      | (go_at_call 49; refine (size_any _ _).mono ?_; rintro e w' ⟨rfl, rfl⟩))
    go_ret3
    exact ⟨rfl, Below.refl _ _⟩
  · have hlt : decide ((n : Int) < s) = true := by simp; simpa [hsz] using h
    have hsz' : sizeB s = true := by simpa using hsz
    clear h hsz
    go_enter Try.func52, Try.ntmps52
    go_wp2_with (first
      | (go_at_call 49; refine (size_any _ _).mono ?_; rintro e w' ⟨rfl, rfl⟩))
    go_ret3
    exact ⟨rfl, Below.refl _ _⟩

set_option maxHeartbeats 400000 in
theorem rget_yes (A : Option Addr) (n c : Nat) (xs : List Int) (s : Nat) (w : World) (h : Rd .u8 w A n c xs) (h1 : 1 ≤ s) (h8 : s ≤ 8) (hs : s ≤ n) :
    Calls Try.prog 52 #[.slice A n c, .int .i64 s] w fun e w' => e = .returned (.tuple #[.int .u64 (num (xs.take s)), .slice (cutA A c s) (n - s) (c - s), .bool true]) ∧ Rd .u8 w' (cutA A c s) (n - s) (c - s) (xs.drop s) ∧ Below w.heap.size w w' := by
  have hsz : sizeB s = true := by unfold sizeB; simp; omega
  have hlt : decide (n < s) = false := by simp; omega
  have HC := Lib.hid (h.cut hs)
  obtain ⟨hl, hc, hm, _, hwf, hcell⟩ := h
  unfold maxLen at hm
  have hsc : s ≤ c := by omega
  have hcut := fun w => bytesT.run_cut A n c s hs (by omega) w
  go_enter Try.func52, Try.ntmps52
  go_wp2_with (first
    | (go_at_call 49; refine (size_any _ _).mono ?_; rintro e w' ⟨rfl, rfl⟩))
  go_loop [7, 8] (fun t i => ∃ k : Nat, k ≤ s ∧ i = .int .i64 k ∧ t = .int .u64 (num (xs.take k))) (fun _ i => s - (intOf i).toNat)
  case atStart => exact ⟨0, Nat.zero_le _, rfl, rfl⟩
  case round =>
    obtain ⟨k, hk, rfl, rfl⟩ := hrel
    by_cases hlt : k < s
    · obtain ⟨g, o, rfl, hg, hcs⟩ := hcell (by omega)
      have hx := hcs k (by omega)
      have hb := u8_bounds (hwf (xs[k]) (List.getElem_mem _))
      clear hcs hcell
      go_wp2
      go_round
      case rel => 
        refine ⟨k + 1, by omega, by go_num, ?_⟩
        rw [num_take xs k (by omega), add8 _ _ _ (by rw [List.getElem?_eq_getElem (by omega)]; rfl) hb.1 hb.2]
      case measure => simp [intOf]; omega
    · obtain rfl : k = s := by omega
      go_wp2
      go_quiet (fail)
      go_wp2
      go_ret3
      exact ⟨rfl, HC.out, Below.drewN_ _ _⟩
end Go.Proofs.Ytochbcemobkegaa
