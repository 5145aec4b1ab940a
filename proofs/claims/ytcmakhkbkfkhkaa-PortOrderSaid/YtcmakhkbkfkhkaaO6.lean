import Derived.Test.YtcmakhkbkfkhkaaO5
import Derived.Deep.DeepCutAuto
import Derived.Deep.RegionWith
namespace Go.Proofs.Ytcmakhkbkfkhkaa
open Go.RowKit
def putL (xs : List Int) (s u : Int) : List Int := if sizeB s then xs ++ enc s.toNat u else xs
def getB (xs : List Int) (s : Int) : Bool := sizeB s && decide (s ≤ xs.length)
def getN (xs : List Int) (s : Int) : Int := if getB xs s then num (xs.take s.toNat) else 0
def getR (xs : List Int) (s : Int) : List Int := if getB xs s then xs.drop s.toNat else []
theorem sizeB_nat {s : Int} (h : sizeB s = true) : ∃ k : Nat, s = k ∧ 1 ≤ k ∧ k ≤ 8 := by
  unfold sizeB at h
  simp at h
  exact ⟨s.toNat, by omega, by omega, by omega⟩

theorem cutA_from {A : Option Addr} {c k : Nat} {ad : Addr} (he : cutA A c k = some ad) : ∃ a0, A = some a0 ∧ ad.block = a0.block := by
  unfold cutA at he
  split at he
  · exact ⟨ad, he, rfl⟩
  · cases A with
    | none => simp at he
    | some x =>
      simp at he
      subst he
      refine ⟨x, rfl, ?_⟩
      unfold Addr.add
      split <;> rfl
theorem getR_wf {xs : List Int} (s : Int) (h : ∀ x ∈ xs, (Lit.int .u8 x).wf = true) : ∀ x ∈ getR xs s, (Lit.int .u8 x).wf = true := by
  unfold getR
  split
  · exact fun x hx => h x (List.mem_of_mem_drop hx)
  · simp
theorem putL_wf {xs : List Int} (s u : Int) (h : ∀ x ∈ xs, (Lit.int .u8 x).wf = true) : ∀ x ∈ putL xs s u, (Lit.int .u8 x).wf = true := by
  unfold putL
  split
  · intro x hx
    rcases List.mem_append.1 hx with hx | hx
    · exact h x hx
    · exact enc_wf _ _ x hx
  · exact h

theorem back_B (xs : List Int) (u : Int) {k : Nat} (hs : sizeB k = true) : getB (enc k u ++ xs) k = true := by
  unfold getB
  rw [hs]
  simp [enc_length]
  omega
theorem back_R (xs : List Int) (u : Int) {k : Nat} (hs : sizeB k = true) : getR (enc k u ++ xs) k = xs := by
  unfold getR
  rw [if_pos (back_B xs u hs), Int.toNat_natCast, List.drop_append_of_le_length (by simp [enc_length]), List.drop_of_length_le (by simp [enc_length])]
  simp
theorem back_N (xs : List Int) (u : Int) {k : Nat} (hu0 : 0 ≤ u) (hs : sizeB k = true) (hk8 : k ≤ 8) : getN (enc k u ++ xs) k = u % 2 ^ (8 * k) := by
  unfold getN
  rw [if_pos (back_B xs u hs), Int.toNat_natCast, List.take_append_of_le_length (by simp [enc_length]), List.take_of_length_le (by simp [enc_length]), num_enc u hu0 k hk8]

theorem wrap_pow {k : Nat} (h : k < 8) : IntKind.u64.wrap (2 ^ (8 * k)) = 2 ^ (8 * k) := by
  have h3 : (2 : Int) ^ (8 * k) ≤ 2 ^ 56 := by
    have : 2 ^ (8 * k) ≤ 2 ^ 56 := Nat.pow_le_pow_right (by decide) (by omega)
    exact_mod_cast this
  have h4 : (0 : Int) < 2 ^ (8 * k) := Int.pow_pos (by decide)
  exact wraps_u64 _ (by omega) (by omega)
theorem pow_ne (k : Nat) : ¬ (2 : Int) ^ (8 * k) = 0 := by
  have h4 : (0 : Int) < 2 ^ (8 * k) := Int.pow_pos (by decide)
  omega

theorem conv_any {W : World} {A : Option Addr} {l c : Nat} {xs : List Int} (h : Rd .u8 W A l c xs) : (convert 35 9 (.slice A l c)).run Try.prog W = .ok (.string (strOfNums xs)) W :=
  run_str Try.underlying35 Try.underlying5 h 9 Try.underlying9

end Go.Proofs.Ytcmakhkbkfkhkaa
