/- Contracts of the functions of octets and of its reference that make no reader. -/
import Derived.Test.YtochbcemobkegaaEnc
import Derived.WalkSpells
import Derived.Deep.RegionHeld3
import Derived.BigQuiet
import Derived.Deep.QuietTactic
import Derived.Outline
namespace Go.Proofs.Ytochbcemobkegaa
open Go.RowKit
theorem bytesT : Ints Try.prog 23 5 .u8 1 := ⟨Try.underlying23, by kernel_rfl⟩

def sizeB (n : Int) : Bool := decide (1 ≤ n ∧ n ≤ 8)
set_option maxHeartbeats 400000 in
theorem isSize_any (n : Int) (w : World) : Calls Try.prog 44 #[.int .i64 n] w fun e w' => e = .returned (.bool (sizeB n)) ∧ w = w' := by
  unfold sizeB
  by_cases h1 : 1 ≤ n
  · by_cases h2 : n ≤ 8 <;>
    · go_enter Try.func44, Try.ntmps44
      go_wp2
      go_ret
      exact ⟨by simp [h1, h2], rfl⟩
  · go_enter Try.func44, Try.ntmps44
    go_wp2
    go_ret
    exact ⟨by simp; omega, rfl⟩
set_option maxHeartbeats 400000 in
theorem size_any (n : Int) (w : World) : Calls Try.prog 49 #[.int .i64 n] w fun e w' => e = .returned (.bool (sizeB n)) ∧ w = w' := by
  unfold sizeB
  by_cases h1 : 1 ≤ n
  · by_cases h2 : n ≤ 8 <;>
    · go_enter Try.func49, Try.ntmps49
      go_wp2
      go_ret
      exact ⟨by simp [h1, h2], rfl⟩
  · go_enter Try.func49, Try.ntmps49
    go_wp2
    go_ret
    exact ⟨by simp; omega, rfl⟩

set_option maxHeartbeats 400000 in
theorem number_any (A : Option Addr) (n c : Nat) (xs : List Int) (w : World) (h : Rd .u8 w A n c xs) :
    Calls Try.prog 51 #[.slice A n c] w fun e w' => e = .returned (.int .u64 (num xs)) ∧ w = w' := by
  obtain ⟨hl, hc, hm, _, hwf, hcell⟩ := h
  unfold maxLen at hm
  have HT := Lib.hid (List.take_of_length_le (i := n) (l := xs) (by omega))
  go_enter Try.func51, Try.ntmps51
  go_wp2
  go_loop [3, 8] (fun t i => ∃ k : Nat, k ≤ n ∧ i = .int .i64 k ∧ t = .int .u64 (num (xs.take k))) (fun _ i => n - (intOf i).toNat)
  case atStart => exact ⟨0, Nat.zero_le _, rfl, rfl⟩
  case round =>
    obtain ⟨k, hk, rfl, rfl⟩ := hrel
    by_cases hlt : k < n
    · obtain ⟨g, o, rfl, hg, hcs⟩ := hcell (by omega)
      have hx := hcs k hlt
      have hb := u8_bounds (hwf (xs[k]) (List.getElem_mem _))
      clear hcs hcell
      go_wp2
      go_round
      case rel => exact ⟨k + 1, by omega, by go_num, by rw [or8 _ _ hb.1 hb.2, num_take _ _ (by omega)]⟩
      case measure => simp [intOf]; omega
    · obtain rfl : k = n := by omega
      go_wp2
      go_ret
      exact ⟨ret_int (by first | rfl | rw [HT.out]), rfl⟩

set_option maxHeartbeats 400000 in
theorem clone_any (A : Option Addr) (n c : Nat) (xs : List Int) (w : World) (h : Rd .u8 w A n c xs) (hn : n ≤ 70368744177664) :
    Calls Try.prog 45 #[.slice A n c] w fun e w' => ∃ v, e = .returned v ∧ Ow .u8 5 w.heap.size w' v xs ∧ Below w.heap.size w w' := by
  rcases A with _ | ad
  · have hc := h.2.2.2.1 rfl
    subst hc
    obtain rfl : n = 0 := by have := h.2.1; omega
    obtain rfl : xs = [] := List.eq_nil_of_length_eq_zero h.1
    have hq := Lib.run_eql_slice_nil (P := Try.prog) w 23 5 none 0 0 0 0 Try.underlying23
    go_enter Try.func45, Try.ntmps45
    go_wp2
    go_ret
    exact ⟨_, rfl, ⟨rfl, .inl ⟨rfl, rfl⟩⟩, Below.refl _ _⟩
  · have hq := Lib.run_eql_slice_nil (P := Try.prog) w 23 5 (some ad) n c 0 0 Try.underlying23
    go_enter Try.func45, Try.ntmps45
    go_wp2_with (first
      | (at_builtin
         go_must (refine wpList_append_ints bytesT rfl (.tmp 5) (.tmp 6) rfl rfl (w0 := w) (xs := []) ⟨rfl, .inr ⟨w.heap.size, 0, _, rfl, Nat.le_refl _, heap_alloc_new w _, Nat.le_refl _, by decide, by decide, rfl⟩⟩ rfl (h.alloc _) (by simp; omega) (by omega) ((Below.refl _ _).alloc (Nat.le_refl _) _) ?_)
         intro v1 w1 hown hb))
    go_ret
    exact ⟨_, rfl, by simpa using hown, hb⟩
end Go.Proofs.Ytochbcemobkegaa
