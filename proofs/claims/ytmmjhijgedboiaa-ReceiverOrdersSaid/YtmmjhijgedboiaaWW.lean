/- Words of memory that this seat's walks use: a slice of integers that reads as a list; a list's number. -/
import Derived.Test.YtmmjhijgedboiaaKit2
import Derived.WalkKit
import Derived.ProofKit
import Derived.OpenShut
import Derived.ShutString
import Derived.ChangeOld
import Derived.Below
import Derived.Laws.OwnMore
import Derived.Laws.BitsLemmas
import Derived.Lib.Hide
import Derived.Deep.Draws
import Derived.Laws.CopyOwn
import Derived.Laws.BytesArg
import Derived.Laws.MakeOwn
import Derived.Maps.AppendAt
import Derived.OwnWalk
import Derived.RegionTactic
import Derived.Deep.AppendLies
import Derived.WalkSpells
import Derived.Deep.RegionHeld3
import Derived.BigQuiet
import Derived.Deep.QuietTactic
import Derived.Outline
import Derived.Deep.DeepCutAuto
import Derived.Deep.RegionWith
import Derived.RangeFuncNested
import Derived.RangeFuncBound
import Derived.RangeFuncCalls
import Derived.RangeFuncLeaves
import Derived.Shelf.Abstract
import Derived.Shelf.RegionOpen
import Derived.OwnWalkIn
import Derived.TacticsInMore
import Derived.LoopNIn
import Derived.LoopIn
import Derived.Deep.LoopGhost
import Derived.Test.YtmmjhijgedboiaaLsr
set_option linter.unusedSimpArgs false
set_option linter.unusedVariables false
set_option maxRecDepth 100000
namespace Go.Proofs.Ytmmjhijgedboiaa
open Go.RowKit

/-- One byte more behind a number. -/
def step8 (a x : Int) : Int := (a * 256 + x) % 18446744073709551616
/-- The number that bytes make, most significant first. -/
def num (l : List Int) : Int := l.foldl step8 0

theorem num_snoc (l : List Int) (x : Int) : num (l ++ [x]) = step8 (num l) x := by simp [num]
theorem num_take (l : List Int) (k : Nat) (h : k < l.length) : num (l.take (k + 1)) = step8 (num (l.take k)) l[k] := by
  rw [List.take_succ_eq_append_getElem h, num_snoc]
theorem step8_bounds (a x : Int) : 0 ≤ step8 a x ∧ step8 a x < 18446744073709551616 := by unfold step8; omega
theorem num_bounds (l : List Int) : 0 ≤ num l ∧ num l < 18446744073709551616 := by
  rcases List.eq_nil_or_concat l with rfl | ⟨l', x, rfl⟩
  · simp [num]
  · rw [List.concat_eq_append, num_snoc]; exact step8_bounds _ _
theorem or8 (a x : Int) (h0 : 0 ≤ x) (h1 : x < 256) : bits .or .u64 (IntKind.u64.wrap (a * 256)) x = step8 a x := by
  rw [IntKind.wrap_u64]
  have h := bits_join .u64 64 (by decide) wraps_u64 8 (a * 256 % 18446744073709551616) x (by omega) (by omega) (by omega) h0 h1 (by omega)
  rw [h]
  unfold step8
  omega

theorem add8 (a x y : Int) (e : y = x) (h0 : 0 ≤ x) (h1 : x < 256) : IntKind.u64.wrap (IntKind.u64.wrap (a * 256) + IntKind.u64.wrap y) = step8 a x := by
  subst e
  simp only [IntKind.wrap_u64, step8]
  omega

/-- Byte number j of a number, from the least significant on. -/
def byteAt (u : Int) (j : Nat) : Int := u / 2 ^ (8 * j) % 256
/-- The s least significant bytes, most significant first. -/
def enc (s : Nat) (u : Int) : List Int := (List.range s).reverse.map (byteAt u)
theorem byteAt_wf (u : Int) (j : Nat) : (Lit.int .u8 (byteAt u j)).wf = true := by
  unfold byteAt
  simp [Lit.wf, IntKind.min, IntKind.max, IntKind.signed, IntKind.bits]
  omega
theorem enc_length (s : Nat) (u : Int) : (enc s u).length = s := by simp [enc]
theorem enc_wf (s : Nat) (u : Int) : ∀ x ∈ enc s u, (Lit.int .u8 x).wf = true := by
  intro x hx
  simp only [enc, List.mem_map] at hx
  obtain ⟨j, _, rfl⟩ := hx
  exact byteAt_wf u j
theorem enc_take (s : Nat) (u : Int) (k : Nat) (h : k < s) : (enc s u).take (k + 1) = (enc s u).take k ++ [byteAt u (s - 1 - k)] := by
  rw [List.take_succ_eq_append_getElem (by rw [enc_length]; exact h)]
  simp [enc]
theorem enc_succ (k : Nat) (u : Int) : enc (k + 1) u = byteAt u k :: enc k u := by
  unfold enc
  rw [List.range_succ, List.reverse_append]
  rfl
theorem foldl_enc (u : Int) (hu : 0 ≤ u) : ∀ (k : Nat) (a : Int), (enc k u).foldl step8 a % 18446744073709551616 = (a * 2 ^ (8 * k) + u % 2 ^ (8 * k)) % 18446744073709551616
  | 0, a => by simp [enc]
  | k + 1, a => by
    obtain ⟨m, rfl⟩ := Int.eq_ofNat_of_zero_le hu
    rw [enc_succ, List.foldl_cons, foldl_enc _ hu k, show (2 : Int) ^ (8 * (k + 1)) = 2 ^ (8 * k) * 256 from by rw [Nat.mul_add, Int.pow_add]; rfl]
    unfold step8 byteAt
    obtain ⟨p, hp⟩ : ∃ p : Nat, (2 : Int) ^ (8 * k) = (p : Int) := ⟨2 ^ (8 * k), (Int.natCast_pow 2 _).symm⟩
    rw [hp]
    have h1 : ((m : Int) % ((p : Int) * 256)) = (m : Int) % (p : Int) + (p : Int) * ((m : Int) / (p : Int) % 256) := by
      have := congrArg (fun n : Nat => (n : Int)) (Nat.mod_mul (x := m) (a := p) (b := 256))
      simpa using this
    rw [h1]
    generalize (p : Int) = p
    generalize (m : Int) / p % 256 = b
    generalize (m : Int) % p = r
    rw [Int.add_emod, Int.mul_emod, Int.emod_emod, ← Int.mul_emod, ← Int.add_emod]
    congr 1
    rw [Int.add_mul, Int.mul_assoc, Int.mul_comm 256 p, Int.mul_comm b p]
    omega
theorem num_enc (u : Int) (hu : 0 ≤ u) (k : Nat) (hk : k ≤ 8) : num (enc k u) = u % 2 ^ (8 * k) := by
  have h := foldl_enc u hu k 0
  have hb := num_bounds (enc k u)
  unfold num at hb ⊢
  rw [Int.emod_eq_of_lt hb.1 hb.2] at h
  rw [h, Int.zero_mul, Int.zero_add, Int.emod_eq_of_lt]
  · exact Int.emod_nonneg _ (by have : (0 : Int) < 2 ^ (8 * k) := Int.pow_pos (by decide); omega)
  · have h2 : u % 2 ^ (8 * k) < 2 ^ (8 * k) := Int.emod_lt_of_pos _ (Int.pow_pos (by decide))
    have h3 : (2 : Int) ^ (8 * k) ≤ 2 ^ 64 := by
      have : 2 ^ (8 * k) ≤ 2 ^ 64 := Nat.pow_le_pow_right (by decide) (by omega)
      exact_mod_cast this
    omega
theorem byte_shr (u : Int) (j : Nat) (h : j < 8) : IntKind.u8.wrap (u / 2 ^ min (8 * (j : Int)).toNat 64) = byteAt u j := by
  rw [IntKind.wrap_u8, show min (8 * (j : Int)).toNat 64 = 8 * j from by omega]
  rfl
/-! ### A slice that reads as a list -/
section
variable {k : IntKind} {w w' : World} {A : Option Addr} {n c : Nat} {xs : List Int}
end

/-! ### A slice of the call's own -/
section
variable {k : IntKind} {e : TypeId} {base : Nat} {w w' : World} {v : Value} {xs : List Int}
end

/-! ### The laws of append, make and copy, in these words -/
section
variable {P : Program} {w : World} {ops : Array Oper} {rest : List Oper} {o : Oper} {a : Act} {Q : Exit → Act → World → Prop}
end
end Go.Proofs.Ytmmjhijgedboiaa
namespace Go.Proofs.Ytmmjhijgedboiaa
open Go.RowKit
theorem bytesT0x : Ints Try.prog 30 5 .u8 1 := ⟨Try.underlying30, by kernel_rfl⟩

def sizeB (n : Int) : Bool := decide (1 ≤ n ∧ n ≤ 8)
set_option maxHeartbeats 400000 in
theorem clone_any0x (A : Option Addr) (n c : Nat) (xs : List Int) (w : World) (h : Rd .u8 w A n c xs) (hn : n ≤ 70368744177664) :
    Calls Try.prog 59 #[.slice A n c] w fun e w' => ∃ v, e = .returned v ∧ Ow .u8 5 w.heap.size w' v xs ∧ Below w.heap.size w w' := by
  rcases A with _ | ad
  · have hc := h.2.2.2.1 rfl
    subst hc
    obtain rfl : n = 0 := by have := h.2.1; omega
    obtain rfl : xs = [] := List.eq_nil_of_length_eq_zero h.1
    have hq := Lib.run_eql_slice_nil (P := Try.prog) w 30 5 none 0 0 0 0 Try.underlying30
    go_enter Try.func59, Try.ntmps59
    go_wp2
    go_ret
    exact ⟨_, rfl, ⟨rfl, .inl ⟨rfl, rfl⟩⟩, Below.refl _ _⟩
  · have hq := Lib.run_eql_slice_nil (P := Try.prog) w 30 5 (some ad) n c 0 0 Try.underlying30
    go_enter Try.func59, Try.ntmps59
    go_wp2_with (first
      | (at_builtin
         go_must (refine wpList_append_ints bytesT0x rfl (.tmp 5) (.tmp 6) rfl rfl (w0 := w) (xs := []) ⟨rfl, .inr ⟨w.heap.size, 0, _, rfl, Nat.le_refl _, heap_alloc_new w _, Nat.le_refl _, by decide, by decide, rfl⟩⟩ rfl (h.alloc _) (by simp; omega) (by omega) ((Below.refl _ _).alloc (Nat.le_refl _) _) ?_)
         intro v1 w1 hown hb))
    go_ret
    exact ⟨_, rfl, by simpa using hown, hb⟩
end Go.Proofs.Ytmmjhijgedboiaa
namespace Go.Proofs.Ytmmjhijgedboiaa
open Go.RowKit
end Go.Proofs.Ytmmjhijgedboiaa
namespace Go.Proofs.Ytmmjhijgedboiaa
open Go.RowKit
theorem drop_rep (n : Nat) (xs : List Int) (h : xs.length = n) : xs ++ (List.replicate (n : Int).toNat (0 : Int)).drop xs.length = xs := by
  rw [List.drop_eq_nil_of_le (by simp [h])]; simp

theorem own_empty (w : World) : Ow .u8 5 w.heap.size (w.alloc (.cells #[] 5)) (.slice (some ⟨w.heap.size, 0, none⟩) 0 0) [] :=
  ⟨rfl, .inr ⟨w.heap.size, 0, _, rfl, Nat.le_refl _, heap_alloc_new w _, Nat.le_refl _, by decide, by decide, rfl⟩⟩

end Go.Proofs.Ytmmjhijgedboiaa
namespace Go.Proofs.Ytmmjhijgedboiaa
open Go.RowKit
end Go.Proofs.Ytmmjhijgedboiaa
namespace Go.Proofs.Ytmmjhijgedboiaa
open Go.RowKit
theorem Rd.wr {k : IntKind} {w w' : World} {A : Option Addr} {n c : Nat} {xs : List Int} (h : Rd k w A n c xs) {g : Nat} (hA : ∀ ad, A = some ad → ad.block ≠ g) (hw : Wr g w w') : Rd k w' A n c xs := by
  obtain ⟨h1, h2, h3, h4, h5, h6⟩ := h
  refine ⟨h1, h2, h3, h4, h5, fun hn => ?_⟩
  obtain ⟨g', o, e, hg, hx⟩ := h6 hn
  refine ⟨g', o, e, by have := hw.size; omega, fun i hi => ?_⟩
  rw [World.cell?_of_block (hw.block g' hg (by intro e'; injection e' with e'; exact hA _ e e'))]
  exact hx i hi
theorem cutA_block {A : Option Addr} {c k g : Nat} (h : ∀ ad, A = some ad → ad.block < g) : ∀ ad, cutA A c k = some ad → ad.block < g := by
  intro ad he
  unfold cutA at he
  split at he
  · exact h ad he
  · cases A with
    | none => simp at he
    | some x =>
      simp at he
      subst he
      have := h x rfl
      unfold Addr.add
      split <;> simpa using this

end Go.Proofs.Ytmmjhijgedboiaa
namespace Go.Proofs.Ytmmjhijgedboiaa
open Go.RowKit
def putL (xs : List Int) (s u : Int) : List Int := if sizeB s then xs ++ enc s.toNat u else xs
def getB (xs : List Int) (s : Int) : Bool := sizeB s && decide (s ≤ xs.length)
def getN (xs : List Int) (s : Int) : Int := if getB xs s then num (xs.take s.toNat) else 0
def getR (xs : List Int) (s : Int) : List Int := if getB xs s then xs.drop s.toNat else []
theorem sizeB_nat {s : Int} (h : sizeB s = true) : ∃ k : Nat, s = k ∧ 1 ≤ k ∧ k ≤ 8 := by
  unfold sizeB at h
  simp at h
  exact ⟨s.toNat, by omega, by omega, by omega⟩

theorem cutA_from {A : Option Addr} {c k : Nat} {ad : Addr} (he : cutA A c k = some ad) : ∃ a0, A = some a0 ∧ ad.block = a0.block := by
  unfold cutA at he
  split at he
  · exact ⟨ad, he, rfl⟩
  · cases A with
    | none => simp at he
    | some x =>
      simp at he
      subst he
      refine ⟨x, rfl, ?_⟩
      unfold Addr.add
      split <;> rfl
theorem getR_wf {xs : List Int} (s : Int) (h : ∀ x ∈ xs, (Lit.int .u8 x).wf = true) : ∀ x ∈ getR xs s, (Lit.int .u8 x).wf = true := by
  unfold getR
  split
  · exact fun x hx => h x (List.mem_of_mem_drop hx)
  · simp
theorem putL_wf {xs : List Int} (s u : Int) (h : ∀ x ∈ xs, (Lit.int .u8 x).wf = true) : ∀ x ∈ putL xs s u, (Lit.int .u8 x).wf = true := by
  unfold putL
  split
  · intro x hx
    rcases List.mem_append.1 hx with hx | hx
    · exact h x hx
    · exact enc_wf _ _ x hx
  · exact h

theorem back_B (xs : List Int) (u : Int) {k : Nat} (hs : sizeB k = true) : getB (enc k u ++ xs) k = true := by
  unfold getB
  rw [hs]
  simp [enc_length]
  omega
theorem back_R (xs : List Int) (u : Int) {k : Nat} (hs : sizeB k = true) : getR (enc k u ++ xs) k = xs := by
  unfold getR
  rw [if_pos (back_B xs u hs), Int.toNat_natCast, List.drop_append_of_le_length (by simp [enc_length]), List.drop_of_length_le (by simp [enc_length])]
  simp
theorem back_N (xs : List Int) (u : Int) {k : Nat} (hu0 : 0 ≤ u) (hs : sizeB k = true) (hk8 : k ≤ 8) : getN (enc k u ++ xs) k = u % 2 ^ (8 * k) := by
  unfold getN
  rw [if_pos (back_B xs u hs), Int.toNat_natCast, List.take_append_of_le_length (by simp [enc_length]), List.take_of_length_le (by simp [enc_length]), num_enc u hu0 k hk8]

theorem wrap_pow {k : Nat} (h : k < 8) : IntKind.u64.wrap (2 ^ (8 * k)) = 2 ^ (8 * k) := by
  have h3 : (2 : Int) ^ (8 * k) ≤ 2 ^ 56 := by
    have : 2 ^ (8 * k) ≤ 2 ^ 56 := Nat.pow_le_pow_right (by decide) (by omega)
    exact_mod_cast this
  have h4 : (0 : Int) < 2 ^ (8 * k) := Int.pow_pos (by decide)
  exact wraps_u64 _ (by omega) (by omega)
theorem pow_ne (k : Nat) : ¬ (2 : Int) ^ (8 * k) = 0 := by
  have h4 : (0 : Int) < 2 ^ (8 * k) := Int.pow_pos (by decide)
  omega

theorem conv_any0x {W : World} {A : Option Addr} {l c : Nat} {xs : List Int} (h : Rd .u8 W A l c xs) : (convert 30 9 (.slice A l c)).run Try.prog W = .ok (.string (strOfNums xs)) W :=
  run_str Try.underlying30 Try.underlying5 h 9 Try.underlying9

end Go.Proofs.Ytmmjhijgedboiaa
namespace Go.Proofs.Ytmmjhijgedboiaa
open Go.RowKit Go.Shelf
attribute [local go_sem] Oper.semAt_some

/-- The two boxes stay. -/
def KpB (Bs Bn : Nat) (W W' : World) : Prop := W'.heap[Bs]? = W.heap[Bs]? ∧ W'.heap[Bn]? = W.heap[Bn]?
theorem KpB.c1 {Bs Bn : Nat} {W W' : World} (h : KpB Bs Bn W W') : W'.cell? ⟨Bs, 0, none⟩ = W.cell? ⟨Bs, 0, none⟩ := World.cell?_of_block h.1
theorem KpB.c2 {Bs Bn : Nat} {W W' : World} (h : KpB Bs Bn W W') : W'.cell? ⟨Bn, 0, none⟩ = W.cell? ⟨Bn, 0, none⟩ := World.cell?_of_block h.2
theorem KpB.trans {Bs Bn : Nat} {A B C : World} (h : KpB Bs Bn A B) (k : KpB Bs Bn B C) : KpB Bs Bn A C := ⟨k.1.trans h.1, k.2.trans h.2⟩
theorem KpB.put {Bs Bn : Nat} {w : World} (h1 : Bs < w.heap.size) (h2 : Bn < w.heap.size) (W : World) (l : Nat) (o o' : Obj) (hl : w.heap.size ≤ l) (ho : W.heap[l]? = some o) (_ : o.isCells = false) (_ : o.isWalk = false) : KpB Bs Bn W (W.putObj l o') :=
  ⟨World.putObj_heap_other (by omega), World.putObj_heap_other (by omega)⟩

/-- Adler's two sums over bytes, unreduced. -/
def raw (a b : Int) : List Int → Int × Int
  | [] => (a, b)
  | x :: l => raw (a + x) (b + (a + x)) l
def rawA (a b : Int) (l : List Int) : Int := (raw a b l).1
def rawB (a b : Int) (l : List Int) : Int := (raw a b l).2
theorem raw_snoc (a b : Int) (l : List Int) (x : Int) : raw a b (l ++ [x]) = (rawA a b l + x, rawB a b l + (rawA a b l + x)) := by
  induction l generalizing a b with
  | nil => rfl
  | cons y l ih => exact ih _ _
theorem raw_take (a b : Int) (l : List Int) (k : Nat) (h : k < l.length) : rawA a b (l.take (k + 1)) = rawA a b (l.take k) + l[k] ∧ rawB a b (l.take (k + 1)) = rawB a b (l.take k) + (rawA a b (l.take k) + l[k]) := by
  rw [List.take_succ_eq_append_getElem h]
  unfold rawA rawB
  rw [raw_snoc]
  exact ⟨rfl, rfl⟩
theorem raw_bounds (a b : Int) (l : List Int) (h : okB l = true) (ha : 0 ≤ a) (hb : 0 ≤ b) :
    (0 ≤ rawA a b l ∧ rawA a b l ≤ a + 256 * l.length) ∧ 0 ≤ rawB a b l ∧ rawB a b l ≤ b + l.length * (a + 256 * l.length) := by
  unfold rawA rawB
  induction l generalizing a b with
  | nil => simp [raw]; omega
  | cons x l ih =>
    simp only [okB, List.all_cons, Bool.and_eq_true, decide_eq_true_eq] at h
    have := ih (a + x) (b + (a + x)) h.2 (by omega) (by omega)
    simp only [raw, List.length_cons]
    obtain ⟨⟨h1, h2⟩, h3, h4⟩ := this
    refine ⟨⟨h1, by omega⟩, h3, Int.le_trans h4 ?_⟩
    obtain ⟨n, hn⟩ : ∃ n : Int, n = l.length := ⟨_, rfl⟩
    rw [show ((l.length + 1 : Nat) : Int) = n + 1 from by omega, ← hn]
    have hn0 : 0 ≤ n := by omega
    have e1 : n * (a + x + 256 * n) = n * (a + 256 * n) + n * x := by rw [← Int.mul_add]; congr 1; omega
    have e2 : (n + 1) * (a + 256 * (n + 1)) = n * (a + 256 * n) + 256 * n + (a + 256 * (n + 1)) := by
      rw [Int.add_mul, Int.one_mul, show a + 256 * (n + 1) = (a + 256 * n) + 256 from by omega, Int.mul_add n (a + 256 * n) 256]
      omega
    have e3 : n * x ≤ 256 * n := by rw [Int.mul_comm]; exact Int.mul_le_mul_of_nonneg_right (by omega) hn0
    omega
end Go.Proofs.Ytmmjhijgedboiaa
namespace Go.Proofs.Ytmmjhijgedboiaa
open Go.RowKit Go.Shelf
attribute [local go_sem] Oper.semAt_some

/-- Adler's two sums go on. -/
def adA (a b : Int) (l : List Int) : Int := rawA a b l % 65521
def adB (a b : Int) (l : List Int) : Int := rawB a b l % 65521
def pr (a b : Int) (r : List Value) : List Value := .int .u64 a :: .int .u64 b :: r
theorem raw_small (a b : Int) (k : Nat) (hk : k ≤ 65536) (ha0 : 0 ≤ a) (ha : a < 65521) (hb : b < 65521) (s : Int) (h : s ≤ b + k * (a + 256 * k)) : s < 2000000000000 := by
  have h1 : (k : Int) * (a + 256 * k) ≤ 65536 * (65521 + 256 * 65536) := by
    refine Int.le_trans (Int.mul_le_mul_of_nonneg_left (c := (k : Int)) (show a + 256 * (k : Int) ≤ 65521 + 256 * 65536 from by omega) (by omega)) ?_
    exact Int.mul_le_mul_of_nonneg_right (by omega) (by omega)
  omega
end Go.Proofs.Ytmmjhijgedboiaa
namespace Go.Proofs.Ytmmjhijgedboiaa
open Go.RowKit Go.Shelf
attribute [local go_sem] Oper.semAt_some

end Go.Proofs.Ytmmjhijgedboiaa
namespace Go.Proofs.Ytmmjhijgedboiaa
open Go.RowKit Go.Shelf

theorem raw_shift (a b c d : Int) (l : List Int) : rawA (a + 65521 * c) (b + 65521 * d) l % 65521 = rawA a b l % 65521 ∧ rawB (a + 65521 * c) (b + 65521 * d) l % 65521 = rawB a b l % 65521 := by
  induction l generalizing a b c d with
  | nil => unfold rawA rawB raw; constructor <;> simp
  | cons x l ih =>
    have := ih (a + x) (b + (a + x)) c (c + d)
    unfold rawA rawB at this ⊢
    unfold raw
    rw [show a + 65521 * c + x = a + x + 65521 * c from by omega, show b + 65521 * d + (a + x + 65521 * c) = b + (a + x) + 65521 * (c + d) from by omega]
    exact this
theorem raw_mod (a b : Int) (l : List Int) : rawA (a % 65521) (b % 65521) l % 65521 = rawA a b l % 65521 ∧ rawB (a % 65521) (b % 65521) l % 65521 = rawB a b l % 65521 := by
  have := raw_shift (a % 65521) (b % 65521) (a / 65521) (b / 65521) l
  rw [show a % 65521 + 65521 * (a / 65521) = a from by omega, show b % 65521 + 65521 * (b / 65521) = b from by omega] at this
  exact ⟨this.1.symm, this.2.symm⟩
theorem raw_app (a b : Int) (l m : List Int) : raw a b (l ++ m) = raw (rawA a b l) (rawB a b l) m := by
  induction l generalizing a b with
  | nil => rfl
  | cons x l ih => exact ih _ _
theorem ad_app (a b : Int) (l m : List Int) : adA (adA a b l) (adB a b l) m = adA a b (l ++ m) ∧ adB (adA a b l) (adB a b l) m = adB a b (l ++ m) := by
  unfold adA adB
  have := raw_mod (rawA a b l) (rawB a b l) m
  rw [this.1, this.2]
  unfold rawA rawB
  rw [raw_app]
  exact ⟨rfl, rfl⟩
theorem ad_lt (a b : Int) (l : List Int) : (0 ≤ adA a b l ∧ adA a b l < 65521) ∧ 0 ≤ adB a b l ∧ adB a b l < 65521 := by unfold adA adB; omega
theorem ad_take (a b : Int) (l : List Int) (k : Nat) (h : k < l.length) : adA a b (l.take (k + 1)) = (adA a b (l.take k) + l[k]) % 65521 ∧ adB a b (l.take (k + 1)) = (adB a b (l.take k) + (adA a b (l.take k) + l[k]) % 65521) % 65521 := by
  have := raw_take a b l k h
  unfold adA adB
  rw [this.1, this.2]
  omega
/-- The checksum of two sums. -/
def sm (a b : Int) : Int := 65536 * b + a
/-- A checksum goes on by bytes. -/
def onV (s : Int) (l : List Int) : Int := sm (adA (s % 65536 % 65521) (s / 65536 % 65521) l) (adB (s % 65536 % 65521) (s / 65536 % 65521) l)
theorem onV_app (s : Int) (l m : List Int) (h0 : 0 ≤ s) (h1 : s < 4294967296) : onV (onV s l) m = onV s (l ++ m) := by
  unfold onV
  generalize s % 65536 % 65521 = a
  generalize s / 65536 % 65521 = b
  have hb := ad_lt a b l
  have := ad_app a b l m
  have e1 : sm (adA a b l) (adB a b l) % 65536 % 65521 = adA a b l := by unfold sm; omega
  have e2 : sm (adA a b l) (adB a b l) / 65536 % 65521 = adB a b l := by unfold sm; omega
  rw [e1, e2, this.1, this.2]
theorem or16 (a b : Int) (h0 : 0 ≤ a) (h1 : a < 65536) (h2 : 0 ≤ b) (h3 : b < 65536) : bits .or .u64 (b * 65536) a = sm a b := by
  have h := bits_join .u64 64 (by decide) wraps_u64 16 (b * 65536) a (by omega) (by omega) (by omega) h0 (by omega) (by omega)
  rw [h]
  unfold sm
  omega

/-- A part: where it lies, and its bytes. -/
structure Pt where
  A : Option Addr
  n : Nat
  c : Nat
  xs : List Int
/-- The slice (A, n) of parts. -/
def Pts0x (w : World) (A : Option Addr) (n : Nat) (ps : List Pt) : Prop :=
  ps.length = n ∧ n ≤ 1000 ∧ ∀ i (h : i < ps.length), (∃ g o, A = some ⟨g, o, none⟩ ∧ g < w.heap.size ∧ w.cell? ⟨g, o + i, none⟩ = some (.slice ps[i].A ps[i].n ps[i].c)) ∧ Rd .u8 w ps[i].A ps[i].n ps[i].c ps[i].xs ∧ ps[i].n ≤ 65536
/-- All bytes. -/
def cat (ps : List Pt) : List Int := ps.flatMap (·.xs)
theorem cat_take (ps : List Pt) (k : Nat) (h : k < ps.length) : cat (ps.take (k + 1)) = cat (ps.take k) ++ ps[k].xs := by
  unfold cat
  rw [List.take_succ_eq_append_getElem h, List.flatMap_append]
  simp
theorem Pts0x.below {w w' : World} {A : Option Addr} {n : Nat} {ps : List Pt} (h : Pts0x w A n ps) (hb : Below w.heap.size w w') : Pts0x w' A n ps := by
  refine ⟨h.1, h.2.1, fun i hi => ?_⟩
  obtain ⟨⟨g, o, e, hg, hc⟩, hr, hn⟩ := h.2.2 i hi
  exact ⟨⟨g, o, e, by have := hb.size; omega, (hb.cell (p := ⟨g, _, none⟩) hg).trans hc⟩, hr.below hb, hn⟩
theorem Pts0x.nil (w : World) : Pts0x w none 0 [] := ⟨rfl, by omega, fun i h => by simp at h⟩

end Go.Proofs.Ytmmjhijgedboiaa
namespace Go.Proofs.Ytmmjhijgedboiaa
open Go.RowKit Go.Shelf

theorem and16 (s : Int) (h0 : 0 ≤ s) (h1 : s < 4294967296) : bits .and .u32 s 65535 = s % 65536 := by
  have := bits_mask .u32 32 (by decide) (fun n a b => by rw [IntKind.wrap_u32]; omega) 16 (by decide) s h0 (by omega)
  simpa using this

end Go.Proofs.Ytmmjhijgedboiaa
namespace Go.Proofs.Ytmmjhijgedboiaa
open Go.RowKit Go.Shelf

/-- A packet's numbers. -/
structure Hd where
  kd : Int
  fl : Int
  pa : Int
  sr : Int
  ds : Int
  cn : Int
  sq : Int
  pu : Int
/-- A packet as a value. -/
def Hd.l (h : Hd) (p : Value) : List Value := [.int .i64 h.kd, .int .i64 h.fl, .int .i64 h.pa, .int .i64 h.sr, .int .i64 h.ds, .int .i64 h.cn, .int .i64 h.sq, .int .i64 h.pu, p]
def witB (a lo hi : Int) : Bool := decide (lo ≤ a ∧ a ≤ hi)
def hasB (f g : Int) : Bool := decide (0 ≤ f ∧ f / g % 2 = 1)

def plB (h : Hd) : Bool := witB h.pa 0 7 && witB h.sr 0 7 && witB h.ds 0 7 && !(h.sr == h.ds)
def nmB (h : Hd) : Bool := witB h.cn 1 1073741824 && witB h.sq 0 1152921504606846976 && witB h.pu 0 1152921504606846976
def brB (h : Hd) (n : Int) : Bool := h.fl == 0 && n == 0
def dtB (f : Int) (n : Int) : Bool := witB f 0 63 && !(hasB f 16 && !hasB f 8) && (if hasB f 4 then !hasB f 2 && n == 0 else if hasB f 8 then n == 0 else witB n 1 1024)
def kdB (h : Hd) (n : Int) : Bool := if h.kd == 1 then h.pu == 0 && dtB h.fl n else if h.kd == 2 || h.kd == 3 then h.pu == 0 && brB h n else if h.kd == 4 then h.sq == 0 && brB h n else false
def chkB (h : Hd) (n : Int) : Bool := plB h && nmB h && kdB h n
def errV (b : Bool) : Value := .int .i64 (if b then 0 else 30)
theorem errV_t : errV true = .int .i64 0 := rfl
theorem errV_f : errV false = .int .i64 30 := rfl
/-- A packet's cells. -/
theorem Bk.cells9 {w : World} {t : TypeId} {g : Nat} {v0 v1 v2 v3 v4 v5 v6 v7 v8 : Value} (h : Bk w t g [v0, v1, v2, v3, v4, v5, v6, v7, v8]) :
    w.cell? ⟨g, 0, none⟩ = some v0 ∧ w.cell? ⟨g, 1, none⟩ = some v1 ∧ w.cell? ⟨g, 2, none⟩ = some v2 ∧ w.cell? ⟨g, 3, none⟩ = some v3 ∧ w.cell? ⟨g, 4, none⟩ = some v4 ∧ w.cell? ⟨g, 5, none⟩ = some v5 ∧ w.cell? ⟨g, 6, none⟩ = some v6 ∧ w.cell? ⟨g, 7, none⟩ = some v7 ∧ w.cell? ⟨g, 8, none⟩ = some v8 :=
  ⟨h.cell 0 rfl, h.cell 1 rfl, h.cell 2 rfl, h.cell 3 rfl, h.cell 4 rfl, h.cell 5 rfl, h.cell 6 rfl, h.cell 7 rfl, h.cell 8 rfl⟩
theorem pk_new {w w1 : World} {vs : List Value} (hb : Below (w.alloc (.cells vs.toArray 40)).heap.size (w.alloc (.cells vs.toArray 40)) w1) : Bk w1 40 w.heap.size vs ∧ Below w.heap.size w w1 :=
  ⟨(Bk.new w 40 vs).below hb, ((Below.refl _ _).alloc (Nat.le_refl _) _).trans (hb.mono (by simp))⟩
theorem below_on {w w1 w2 : World} (h : Below w.heap.size w w1) (k : Below w1.heap.size w1 w2) : Below w.heap.size w w2 := h.trans (k.mono h.size)
end Go.Proofs.Ytmmjhijgedboiaa
namespace Go.Proofs.Ytmmjhijgedboiaa
open Go.RowKit Go.Shelf

def isdB (h : Hd) (n : Int) : Bool := h.kd == 1 && chkB h n
def szV (h : Hd) (n : Int) : Int := if chkB h n then 36 + n else 0
theorem pk_new2 {w w1 : World} {vs vs' : List Value} (hb : Below ((w.alloc (.cells vs.toArray 40)).alloc (.cells vs'.toArray 40)).heap.size ((w.alloc (.cells vs.toArray 40)).alloc (.cells vs'.toArray 40)) w1) :
    Bk w1 40 w.heap.size vs ∧ Bk w1 40 (w.heap.size + 1) vs' ∧ Below w.heap.size w w1 :=
  ⟨((Bk.new w 40 vs).alloc _).below hb, by have h := (Bk.new (w.alloc (.cells vs.toArray 40)) 40 vs').below hb; simpa using h, (((Below.refl _ _).alloc (Nat.le_refl _) _).alloc (by simp) _).trans (hb.mono (by simp; omega))⟩
theorem own_set {k : IntKind} {e : TypeId} {base : Nat} {w : World} {v u : Value} {xs : List Int} (h : Ow k e base w v xs) {p : Addr} (hp : p.block < base) : Ow k e base (w.setCell p u) v xs := by
  refine ⟨h.1, ?_⟩
  rcases h.2 with hn | ⟨b, cap, cur, hv, hb, hh, r⟩
  · exact .inl hn
  · exact .inr ⟨b, cap, cur, hv, hb, (Below.heap_setCell _ _ _ _ (by omega)).trans hh, r⟩
theorem own_rd {e : TypeId} {base : Nat} {w : World} {A : Option Addr} {n c : Nat} {xs : List Int} (h : Ow .u8 e base w (.slice A n c) xs) (hwf : ∀ x ∈ xs, (Lit.int .u8 x).wf = true) : Rd .u8 w A n c xs := by
  obtain ⟨A', c', h1, h2⟩ := h.rd hwf
  injection h1 with e1 e2 e3
  subst e1 e2 e3
  exact h2
/-- A packet is stored whole. -/
theorem pk_store {w : World} {g : Nat} {v0 v1 v2 v3 v4 v5 v6 v7 v8 : Value} (u0 u1 u2 u3 u4 u5 u6 u7 u8 : Value) (h : Bk w 40 g [v0, v1, v2, v3, v4, v5, v6, v7, v8]) :
    ∃ W, (((((((((w.setCell ⟨g, 0, none⟩ u0).setCell ⟨g, 1, none⟩ u1).setCell ⟨g, 2, none⟩ u2).setCell ⟨g, 3, none⟩ u3).setCell ⟨g, 4, none⟩ u4).setCell ⟨g, 5, none⟩ u5).setCell ⟨g, 6, none⟩ u6).setCell ⟨g, 7, none⟩ u7).setCell ⟨g, 8, none⟩ u8) = W ∧ Bk W 40 g [u0, u1, u2, u3, u4, u5, u6, u7, u8] ∧ (∀ B, B ≤ g → Below B w W) ∧ (∀ g' t' vs', g' ≠ g → Bk w t' g' vs' → Bk W t' g' vs') ∧ (∀ base v xs, g < base → Ow .u8 5 base w v xs → Ow .u8 5 base W v xs) ∧ W.heap.size = w.heap.size ∧ Wr g w W := by
  refine ⟨_, rfl, ?_, ?_, ?_, ?_, ?_, ?_⟩
  · exact ((((((((h.set 0 u0).set 1 u1).set 2 u2).set 3 u3).set 4 u4).set 5 u5).set 6 u6).set 7 u7).set 8 u8
  · intro B hB
    repeat (first | with_reducible refine Below.setCell ?_ (by exact hB) _ | with_reducible exact Below.refl _ _)
  · intro g' t' vs' hg hk
    repeat (first | with_reducible exact hk | refine Bk.far ?_ (by exact hg) _)
  · intro base v xs hb ho
    repeat (first | with_reducible refine own_set ?_ (by exact hb) | with_reducible exact ho)
  · simp [World.setCell]
  · have hs : ∀ (W : World) i u, W.heap.size = w.heap.size → Wr g w W → Wr g w (W.setCell ⟨g, i, none⟩ u) := fun W i u he hW => hW.trans (Wr.set W g i u) (by omega)
    repeat (first | with_reducible exact Wr.refl _ _ | refine hs _ _ _ (by simp [World.setCell]) ?_)
end Go.Proofs.Ytmmjhijgedboiaa
namespace Go.Proofs.Ytmmjhijgedboiaa
open Go.RowKit Go.Shelf

theorem isd_fl {h : Hd} {n : Int} (hb : isdB h n = true) : 0 ≤ h.fl ∧ h.fl ≤ 63 := by
  unfold isdB chkB kdB dtB witB at hb
  simp only [Bool.and_eq_true, beq_iff_eq] at hb
  obtain ⟨h1, _, h3⟩ := hb
  rw [if_pos h1] at h3
  simp only [Bool.and_eq_true, decide_eq_true_eq] at h3
  exact h3.2.1.1
end Go.Proofs.Ytmmjhijgedboiaa
namespace Go.Proofs.Ytmmjhijgedboiaa
open Go.RowKit Go.Shelf

end Go.Proofs.Ytmmjhijgedboiaa
namespace Go.Proofs.Ytmmjhijgedboiaa
open Go.RowKit Go.Shelf

def eqS (xs ys : List Int) : Bool := (strOfNums xs).toList == (strOfNums ys).toList
theorem eqS_refl (xs : List Int) : eqS xs xs = true := by simp [eqS]
def smB (h k : Hd) (xs ys : List Int) : Bool := h.kd == k.kd && h.fl == k.fl && h.pa == k.pa && h.sr == k.sr && h.ds == k.ds && h.cn == k.cn && h.sq == k.sq && h.pu == k.pu && eqS xs ys
theorem smB_refl (h : Hd) (xs : List Int) : smB h h xs xs = true := by simp [smB, eqS_refl]
theorem pk_newp {w : World} {vs vs' : List Value} : Bk ((w.alloc (.cells vs.toArray 40)).alloc (.cells vs'.toArray 40)) 40 w.heap.size vs := (Bk.new w 40 vs).alloc _
set_option maxHeartbeats 8000000 in
theorem rsame_any (kd fl pa sr ds cn sq pu : Int) (A : Option Addr) (n c : Nat) (kd1 fl1 pa1 sr1 ds1 cn1 sq1 pu1 : Int) (A1 : Option Addr) (n1 c1 : Nat) (xs ys : List Int) (w : World) (h : Rd .u8 w A n c xs) (k : Rd .u8 w A1 n1 c1 ys) :
    Calls Try.prog 16 #[.agg #[.int .i64 kd, .int .i64 fl, .int .i64 pa, .int .i64 sr, .int .i64 ds, .int .i64 cn, .int .i64 sq, .int .i64 pu, .slice A n c], .agg #[.int .i64 kd1, .int .i64 fl1, .int .i64 pa1, .int .i64 sr1, .int .i64 ds1, .int .i64 cn1, .int .i64 sq1, .int .i64 pu1, .slice A1 n1 c1]] w fun e w' => e = .returned (.bool (smB ⟨kd, fl, pa, sr, ds, cn, sq, pu⟩ ⟨kd1, fl1, pa1, sr1, ds1, cn1, sq1, pu1⟩ xs ys)) ∧ Below w.heap.size w w' := by
  unfold smB eqS
  dsimp only
  have q1 := fun o o' => conv_any0x ((h.alloc o).alloc o')
  have q2 := fun o o' => conv_any0x ((k.alloc o).alloc o')
  generalize strOfNums xs = sx at *
  generalize strOfNums ys = sy at *
  clear h k
  go_enter Try.func16, Try.ntmps16
  go_wp2
  all_goals
    go_ret
    exact ⟨by simp_all, by exact ((Below.refl _ _).alloc (Nat.le_refl _) _).alloc (by simp) _⟩
end Go.Proofs.Ytmmjhijgedboiaa
namespace Go.Proofs.Ytmmjhijgedboiaa
open Go.RowKit Go.Shelf

set_option maxHeartbeats 400000 in
theorem rhas_any (f g : Int) (w : World) (hg : 0 < g) (hg' : g ≤ 63) (hf : f ≤ 9223372036854775807) : Calls Try.prog 27 #[.int .i64 f, .int .i64 g] w fun e w' => e = .returned (.bool (hasB f g)) ∧ w = w' := by
  unfold hasB
  by_cases h1 : 0 ≤ f
  · go_enter Try.func27, Try.ntmps27
    go_wp2
    go_ret
    exact ⟨by have := Int.tmod_eq_emod_of_nonneg (b := 2) (Int.ediv_nonneg h1 (Int.le_of_lt hg)); simp [this, h1]; exact Bool.eq_iff_iff.2 (by simp), rfl⟩
  · go_enter Try.func27, Try.ntmps27
    go_wp2
    go_ret
    exact ⟨by simp; omega, rfl⟩
end Go.Proofs.Ytmmjhijgedboiaa
namespace Go.Proofs.Ytmmjhijgedboiaa
open Go.RowKit Go.Shelf

end Go.Proofs.Ytmmjhijgedboiaa
namespace Go.Proofs.Ytmmjhijgedboiaa
open Go.RowKit Go.Shelf

/-- A packet as a value: its numbers, its payload's slice, and what that reads. -/
structure Pv where
  h : Hd
  A : Option Addr
  n : Nat
  c : Nat
  xs : List Int
/-- A packet by what it says. -/
structure Pk where
  h : Hd
  xs : List Int
def Pv.pk (q : Pv) : Pk := ⟨q.h, q.xs⟩
def Pv.cl (q : Pv) : List Value := [.int .i64 q.h.kd, .int .i64 q.h.fl, .int .i64 q.h.pa, .int .i64 q.h.sr, .int .i64 q.h.ds, .int .i64 q.h.cn, .int .i64 q.h.sq, .int .i64 q.h.pu, .slice q.A q.n q.c]
theorem Pv.cl_len (q : Pv) : q.cl.length = 9 := rfl
theorem Pv.cl_one (q : Pv) : ∀ v ∈ q.cl, v.oneCell' = true := by
  intro v hv
  simp only [Pv.cl, List.mem_cons, List.not_mem_nil, or_false] at hv
  rcases hv with rfl | rfl | rfl | rfl | rfl | rfl | rfl | rfl | rfl <;> rfl
def zsP : List Value := [.int .i64 0, .int .i64 0, .int .i64 0, .int .i64 0, .int .i64 0, .int .i64 0, .int .i64 0, .int .i64 0, .slice none 0 0]
def zPv : Pv := ⟨⟨0, 0, 0, 0, 0, 0, 0, 0⟩, none, 0, 0, []⟩
theorem eltP : EltS Try.prog 29 40 zsP 88 := ⟨rfl, by kernel_rfl, by intro v hv; exact zPv.cl_one v hv, by decide, by decide, ⟨_, rfl, by decide⟩, by decide⟩
theorem rowP : Row Try.prog 40 9 := eltP.row
/-- The value reads, its payload is short, and lies in no block of F. -/
def PvR (F : Nat → Prop) (w : World) (q : Pv) : Prop := Rd .u8 w q.A q.n q.c q.xs ∧ q.n ≤ 1100 ∧ q.h.fl ≤ 9223372036854775807 ∧ (0 < q.n → ∀ ad, q.A = some ad → ¬ F ad.block)
section
variable {F F' : Nat → Prop} {w w' : World} {q : Pv}
theorem PvR.len (h : PvR F w q) : q.xs.length = q.n := h.1.1
theorem PvR.fl (h : PvR F w q) : q.h.fl ≤ 9223372036854775807 := h.2.2.1
theorem PvR.st (h : PvR F w q) (hs : St F w w') (hg : Gr F F' w.heap.size) : PvR F' w' q :=
  ⟨h.1.st hs h.2.2.2, h.2.1, h.2.2.1, fun hn ad he => hg.not (h.1.blk hn ad he) (h.2.2.2 hn ad he)⟩
theorem PvR.below (h : PvR F w q) (hb : Below w.heap.size w w') : PvR F w' q := ⟨h.1.below hb, h.2⟩
theorem PvR.mono (h : PvR F w q) (hF : ∀ k, F' k → F k) : PvR F' w q := ⟨h.1, h.2.1, h.2.2.1, fun hn ad he hf => h.2.2.2 hn ad he (hF _ hf)⟩
theorem PvR.gr (h : PvR F w q) (hg : Gr F F' w.heap.size) : PvR F' w q := h.st (St.refl _ _) hg
theorem PvR.zero (F : Nat → Prop) (w : World) : PvR F w zPv := ⟨Rd.nil _ _, by decide, by decide, fun h => absurd h (by decide)⟩
/-- A payload just made. -/
theorem PvR.own {h : Hd} {A : Option Addr} {n c base : Nat} {xs : List Int} (ho : Ow .u8 5 base w' (.slice A n c) xs) (hw : ∀ x ∈ xs, (Lit.int .u8 x).wf = true) (hn : n ≤ 1100) (hf : h.fl ≤ 9223372036854775807) (hF : ∀ k, F k → k < base) : PvR F w' ⟨h, A, n, c, xs⟩ :=
  ⟨own_rd ho hw, hn, hf, fun hn' ad he hf' => by
    subst he
    have := (World.ownsRow.lt ho ad.block rfl).1
    have := hF _ hf'
    omega⟩
end
/-- Of data: may it be trimmed, returned? -/
def Pk.chk (p : Pk) : Bool := chkB p.h p.xs.length
def Pk.isd (p : Pk) : Bool := isdB p.h p.xs.length
def Pk.trimB (p : Pk) : Bool := p.isd && !hasB p.h.fl 8
def Pk.trim (p : Pk) : Pk := if p.trimB = true then ⟨{ p.h with fl := p.h.fl + 8 }, []⟩ else p
def Pk.bncB (p : Pk) : Bool := p.isd && hasB p.h.fl 8 && !hasB p.h.fl 16
def Pk.bnc (p : Pk) : Pk := if p.bncB = true then ⟨{ p.h with fl := p.h.fl + 16, sr := p.h.ds, ds := p.h.sr }, p.xs⟩ else p
def Pk.heavy (p : Pk) : Bool := p.h.kd == 1 && decide (0 < p.xs.length)
def Pk.zero : Pk := zPv.pk
section
variable {F : Nat → Prop} {w : World} {q : Pv}
theorem Pk.isd_fl {p : Pk} (h : p.isd = true) : 0 ≤ p.h.fl ∧ p.h.fl ≤ 63 := Go.Proofs.Ytmmjhijgedboiaa.isd_fl h
/-- What a call with a packet makes of it: another one. -/
def MadeP (F : Nat → Prop) (w : World) (p : Pk) (q : Pv) (w' : World) : Prop := q.pk = p ∧ PvR F w' q ∧ Below w.heap.size w w'
/-! The reference. -/
def Pk.sameB (a b : Pk) : Bool := smB a.h b.h a.xs b.xs
theorem Pk.same_refl (a : Pk) : a.sameB a = true := smB_refl _ _
theorem r_same {F' : Nat → Prop} {q2 : Pv} (h : PvR F w q) (k : PvR F' w q2) :
    Calls Try.prog 16 #[.agg #[.int .i64 q.h.kd, .int .i64 q.h.fl, .int .i64 q.h.pa, .int .i64 q.h.sr, .int .i64 q.h.ds, .int .i64 q.h.cn, .int .i64 q.h.sq, .int .i64 q.h.pu, .slice q.A q.n q.c], .agg #[.int .i64 q2.h.kd, .int .i64 q2.h.fl, .int .i64 q2.h.pa, .int .i64 q2.h.sr, .int .i64 q2.h.ds, .int .i64 q2.h.cn, .int .i64 q2.h.sq, .int .i64 q2.h.pu, .slice q2.A q2.n q2.c]] w fun e w' => e = .returned (.bool (q.pk.sameB q2.pk)) ∧ Below w.heap.size w w' :=
  (rsame_any q.h.kd q.h.fl q.h.pa q.h.sr q.h.ds q.h.cn q.h.sq q.h.pu q.A q.n q.c q2.h.kd q2.h.fl q2.h.pa q2.h.sr q2.h.ds q2.h.cn q2.h.sq q2.h.pu q2.A q2.n q2.c q.xs q2.xs w h.1 k.1).mono fun e w' hh => hh
end
section
variable {P : Program} {w : World} {ops : Array Oper} {rest : List Oper} {op : Oper} {a : Act} {Q : Exit → Act → World → Prop}
/-- A packet is loaded, stored whole. -/
theorem wpList_load_pk {e : TypeId} (R : Row P e 9) (hgd : op.guard = none) (x : Operand) (ho : op.op = .load e x) (q : Pv) (g o : Nat) (hx : a.eval x = .pointer (some ⟨g, o, none⟩)) (h : w.rangeAt g o q.cl)
    (hq : wpList P ops Q rest (a.put op.dst (.agg #[.int .i64 q.h.kd, .int .i64 q.h.fl, .int .i64 q.h.pa, .int .i64 q.h.sr, .int .i64 q.h.ds, .int .i64 q.h.cn, .int .i64 q.h.sq, .int .i64 q.h.pu, .slice q.A q.n q.c])) w) : wpList P ops Q (op :: rest) a w := by
  obtain ⟨d, h1, h2⟩ := R.ht
  exact wpList_load_mid hgd e x ho g o hx q.cl d h h1 h2 R.hi hq
theorem Bk.pk {t : TypeId} {g : Nat} {q : Pv} (h : Bk w t g q.cl) : w.rangeAt g 0 q.cl := fun j v hv => h.cell (0 + j) (by rw [Nat.zero_add]; exact hv)
theorem load_pk {e t : TypeId} (R : Row P e 9) {g : Nat} {q : Pv} (h : Bk w t g q.cl) : (loadVar e ⟨g, 0, none⟩).run P w = .ok (.agg #[.int .i64 q.h.kd, .int .i64 q.h.fl, .int .i64 q.h.pa, .int .i64 q.h.sr, .int .i64 q.h.ds, .int .i64 q.h.cn, .int .i64 q.h.sq, .int .i64 q.h.pu, .slice q.A q.n q.c]) w := R.load h 0 q.cl_len rfl
theorem wpList_put_pk {e t : TypeId} (R : Row P e 9) (hgd : op.guard = none) (x y : Operand) (ho : op.op = .store e x y) (g : Nat) (hx : a.eval x = .pointer (some ⟨g, 0, none⟩)) {vs : List Value} (h : Bk w t g vs) (hv : vs.length = 9) (q : Pv) (hy : a.eval y = .agg #[.int .i64 q.h.kd, .int .i64 q.h.fl, .int .i64 q.h.pa, .int .i64 q.h.sr, .int .i64 q.h.ds, .int .i64 q.h.cn, .int .i64 q.h.sq, .int .i64 q.h.pu, .slice q.A q.n q.c])
    (hq : ∀ w', Bk w' t g q.cl → Wr g w w' → wpList P ops Q rest (a.put op.dst undef) w') : wpList P ops Q (op :: rest) a w :=
  wpList_store_bk R hgd x y ho g 0 hx h q.cl hy q.cl_len (by rw [hv]; decide) q.cl_one fun w' h' hw => hq w' (by rw [lay_all _ _ (by rw [hv]; rfl)] at h'; exact h') hw
end
end Go.Proofs.Ytmmjhijgedboiaa
