/- Words of memory that this seat's walks use: a slice of integers that reads as a list; a list's number. -/
import Derived.Test.YtcmakhkbkfkhkaaKit2
import Derived.WalkKit
import Derived.ProofKit
import Derived.OpenShut
import Derived.ShutString
import Derived.ChangeOld
import Derived.Below
import Derived.Laws.OwnMore
import Derived.Laws.BitsLemmas
import Derived.Lib.Hide
import Derived.Deep.Draws
import Derived.Laws.CopyOwn
import Derived.Laws.BytesArg
import Derived.Laws.MakeOwn
import Derived.Maps.AppendAt
import Derived.OwnWalk
import Derived.RegionTactic
import Derived.Deep.AppendLies
namespace Go.Proofs.Ytcmakhkbkfkhkaa
open Go.RowKit

/-- One byte more behind a number. -/
def step8 (a x : Int) : Int := (a * 256 + x) % 18446744073709551616
/-- The number that bytes make, most significant first. -/
def num (l : List Int) : Int := l.foldl step8 0

theorem num_snoc (l : List Int) (x : Int) : num (l ++ [x]) = step8 (num l) x := by simp [num]
theorem num_take (l : List Int) (k : Nat) (h : k < l.length) : num (l.take (k + 1)) = step8 (num (l.take k)) l[k] := by
  rw [List.take_succ_eq_append_getElem h, num_snoc]
theorem step8_bounds (a x : Int) : 0 ≤ step8 a x ∧ step8 a x < 18446744073709551616 := by unfold step8; omega
theorem num_bounds (l : List Int) : 0 ≤ num l ∧ num l < 18446744073709551616 := by
  rcases List.eq_nil_or_concat l with rfl | ⟨l', x, rfl⟩
  · simp [num]
  · rw [List.concat_eq_append, num_snoc]; exact step8_bounds _ _
theorem or8 (a x : Int) (h0 : 0 ≤ x) (h1 : x < 256) : bits .or .u64 (IntKind.u64.wrap (a * 256)) x = step8 a x := by
  rw [IntKind.wrap_u64]
  have h := bits_join .u64 64 (by decide) wraps_u64 8 (a * 256 % 18446744073709551616) x (by omega) (by omega) (by omega) h0 h1 (by omega)
  rw [h]
  unfold step8
  omega

theorem add8 (a x y : Int) (e : y = x) (h0 : 0 ≤ x) (h1 : x < 256) : IntKind.u64.wrap (IntKind.u64.wrap (a * 256) + IntKind.u64.wrap y) = step8 a x := by
  subst e
  simp only [IntKind.wrap_u64, step8]
  omega

/-- Byte number j of a number, from the least significant on. -/
def byteAt (u : Int) (j : Nat) : Int := u / 2 ^ (8 * j) % 256
/-- The s least significant bytes, most significant first. -/
def enc (s : Nat) (u : Int) : List Int := (List.range s).reverse.map (byteAt u)
theorem byteAt_wf (u : Int) (j : Nat) : (Lit.int .u8 (byteAt u j)).wf = true := by
  unfold byteAt
  simp [Lit.wf, IntKind.min, IntKind.max, IntKind.signed, IntKind.bits]
  omega
theorem enc_length (s : Nat) (u : Int) : (enc s u).length = s := by simp [enc]
theorem enc_wf (s : Nat) (u : Int) : ∀ x ∈ enc s u, (Lit.int .u8 x).wf = true := by
  intro x hx
  simp only [enc, List.mem_map] at hx
  obtain ⟨j, _, rfl⟩ := hx
  exact byteAt_wf u j
theorem enc_take (s : Nat) (u : Int) (k : Nat) (h : k < s) : (enc s u).take (k + 1) = (enc s u).take k ++ [byteAt u (s - 1 - k)] := by
  rw [List.take_succ_eq_append_getElem (by rw [enc_length]; exact h)]
  simp [enc]
theorem enc_succ (k : Nat) (u : Int) : enc (k + 1) u = byteAt u k :: enc k u := by
  unfold enc
  rw [List.range_succ, List.reverse_append]
  rfl
theorem foldl_enc (u : Int) (hu : 0 ≤ u) : ∀ (k : Nat) (a : Int), (enc k u).foldl step8 a % 18446744073709551616 = (a * 2 ^ (8 * k) + u % 2 ^ (8 * k)) % 18446744073709551616
  | 0, a => by simp [enc]
  | k + 1, a => by
    obtain ⟨m, rfl⟩ := Int.eq_ofNat_of_zero_le hu
    rw [enc_succ, List.foldl_cons, foldl_enc _ hu k, show (2 : Int) ^ (8 * (k + 1)) = 2 ^ (8 * k) * 256 from by rw [Nat.mul_add, Int.pow_add]; rfl]
    unfold step8 byteAt
    obtain ⟨p, hp⟩ : ∃ p : Nat, (2 : Int) ^ (8 * k) = (p : Int) := ⟨2 ^ (8 * k), (Int.natCast_pow 2 _).symm⟩
    rw [hp]
    have h1 : ((m : Int) % ((p : Int) * 256)) = (m : Int) % (p : Int) + (p : Int) * ((m : Int) / (p : Int) % 256) := by
      have := congrArg (fun n : Nat => (n : Int)) (Nat.mod_mul (x := m) (a := p) (b := 256))
      simpa using this
    rw [h1]
    generalize (p : Int) = p
    generalize (m : Int) / p % 256 = b
    generalize (m : Int) % p = r
    rw [Int.add_emod, Int.mul_emod, Int.emod_emod, ← Int.mul_emod, ← Int.add_emod]
    congr 1
    rw [Int.add_mul, Int.mul_assoc, Int.mul_comm 256 p, Int.mul_comm b p]
    omega
theorem num_enc (u : Int) (hu : 0 ≤ u) (k : Nat) (hk : k ≤ 8) : num (enc k u) = u % 2 ^ (8 * k) := by
  have h := foldl_enc u hu k 0
  have hb := num_bounds (enc k u)
  unfold num at hb ⊢
  rw [Int.emod_eq_of_lt hb.1 hb.2] at h
  rw [h, Int.zero_mul, Int.zero_add, Int.emod_eq_of_lt]
  · exact Int.emod_nonneg _ (by have : (0 : Int) < 2 ^ (8 * k) := Int.pow_pos (by decide); omega)
  · have h2 : u % 2 ^ (8 * k) < 2 ^ (8 * k) := Int.emod_lt_of_pos _ (Int.pow_pos (by decide))
    have h3 : (2 : Int) ^ (8 * k) ≤ 2 ^ 64 := by
      have : 2 ^ (8 * k) ≤ 2 ^ 64 := Nat.pow_le_pow_right (by decide) (by omega)
      exact_mod_cast this
    omega
theorem byte_shr (u : Int) (j : Nat) (h : j < 8) : IntKind.u8.wrap (u / 2 ^ min (8 * (j : Int)).toNat 64) = byteAt u j := by
  rw [IntKind.wrap_u8, show min (8 * (j : Int)).toNat 64 = 8 * j from by omega]
  rfl
/-! ### A slice that reads as a list -/
section
variable {k : IntKind} {w w' : World} {A : Option Addr} {n c : Nat} {xs : List Int}
end

/-! ### A slice of the call's own -/
section
variable {k : IntKind} {e : TypeId} {base : Nat} {w w' : World} {v : Value} {xs : List Int}
end

/-! ### The laws of append, make and copy, in these words -/
section
variable {P : Program} {w : World} {ops : Array Oper} {rest : List Oper} {o : Oper} {a : Act} {Q : Exit → Act → World → Prop}
end
end Go.Proofs.Ytcmakhkbkfkhkaa
