/- One byte turned: Adler's sum tells. -/
import Derived.Test.YtochbcemobkegaaA6
set_option linter.unusedSimpArgs false
set_option linter.unusedVariables false
namespace Go.Proofs.Ytochbcemobkegaa
open Go.RowKit Go.Shelf
theorem rawA_sum (a b : Int) (l : List Int) : rawA a b l = a + l.sum := by
  unfold rawA
  induction l generalizing a b with
  | nil => simp [raw]
  | cons x l ih => simp only [raw, List.sum_cons]; rw [ih]; omega
theorem sum_set (l : List Int) (k : Nat) (y : Int) (h : k < l.length) : (l.set k y).sum = l.sum - l[k] + y := by
  induction l generalizing k with
  | nil => simp at h
  | cons x l ih =>
    cases k with
    | zero => simp; omega
    | succ k => simp at h; simp [ih k h]; omega
theorem onV_turned (l : List Int) (k : Nat) (y : Int) (h : k < l.length) (h0 : 0 ≤ l[k]) (h1 : l[k] < 256) (y0 : 0 ≤ y) (y1 : y < 256) : (onV 1 (l.set k y) = onV 1 l) ↔ y = l[k] := by
  constructor
  · intro he
    have b1 := ad_lt 1 0 (l.set k y)
    have b2 := ad_lt 1 0 l
    unfold onV at he
    rw [show (1 : Int) % 65536 % 65521 = 1 from rfl, show (1 : Int) / 65536 % 65521 = 0 from rfl] at he
    have ha : adA 1 0 (l.set k y) = adA 1 0 l := by unfold sm at he; omega
    unfold adA at ha
    rw [rawA_sum, rawA_sum, sum_set l k y h] at ha
    omega
  · rintro rfl
    rw [List.set_getElem_self]
theorem set_ok {l : List Int} (h : okB l = true) (k : Nat) {y : Int} (y0 : 0 ≤ y) (y1 : y < 256) : okB (l.set k y) = true := by
  simp only [okB, List.all_eq_true, decide_eq_true_eq] at h ⊢
  intro x hx
  rcases List.mem_or_eq_of_mem_set hx with hx | rfl
  · exact h x hx
  · exact ⟨y0, y1⟩

theorem xor_u8 (a b : Int) (ha0 : 0 ≤ a) (ha : a < 256) (hb0 : 0 ≤ b) (hb : b < 256) : 0 ≤ bits .xor .u8 a b ∧ bits .xor .u8 a b < 256 ∧ (bits .xor .u8 a b = a ↔ b = 0) := by
  obtain ⟨m, rfl⟩ := Int.eq_ofNat_of_zero_le ha0
  obtain ⟨n, rfl⟩ := Int.eq_ofNat_of_zero_le hb0
  have hx : m ^^^ n < 2 ^ 8 := Nat.xor_lt_two_pow (by omega) (by omega)
  have h1 : (BitVec.ofInt 8 (m : Int)).toNat = m := by rw [BitVec.ofInt_natCast, BitVec.toNat_ofNat]; exact Nat.mod_eq_of_lt (by omega)
  have h2 : (BitVec.ofInt 8 (n : Int)).toNat = n := by rw [BitVec.ofInt_natCast, BitVec.toNat_ofNat]; exact Nat.mod_eq_of_lt (by omega)
  have he : bits .xor .u8 (m : Int) (n : Int) = ((m ^^^ n : Nat) : Int) := by
    show IntKind.u8.wrap ((BitVec.ofInt 8 (m : Int) ^^^ BitVec.ofInt 8 (n : Int)).toNat : Int) = _
    rw [BitVec.toNat_xor, h1, h2, IntKind.wrap_u8]
    omega
  rw [he]
  refine ⟨by omega, by omega, ?_⟩
  constructor
  · intro h
    have h' : m ^^^ n = m := by exact_mod_cast h
    have h2 : m ^^^ (m ^^^ n) = m ^^^ m := by rw [h']
    rw [← Nat.xor_assoc, Nat.xor_self, Nat.zero_xor] at h2
    exact_mod_cast h2
  · intro h
    have : n = 0 := by exact_mod_cast h
    subst this
    simp

end Go.Proofs.Ytochbcemobkegaa
