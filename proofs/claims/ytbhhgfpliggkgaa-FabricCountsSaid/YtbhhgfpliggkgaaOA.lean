/- Words of memory that this seat's walks use: a slice of integers that reads as a list; a list's number. -/
import Derived.Test.YtbhhgfpliggkgaaKK
import Derived.WalkKit
import Derived.ProofKit
import Derived.OpenShut
import Derived.ShutString
import Derived.ChangeOld
import Derived.Below
import Derived.Laws.OwnMore
import Derived.Laws.BitsLemmas
import Derived.Lib.Hide
import Derived.Deep.Draws
import Derived.Laws.CopyOwn
import Derived.Laws.BytesArg
import Derived.Laws.MakeOwn
import Derived.Maps.AppendAt
import Derived.OwnWalk
import Derived.RegionTactic
import Derived.Deep.AppendLies
import Derived.WalkSpells
import Derived.Deep.RegionHeld3
import Derived.BigQuiet
import Derived.Deep.QuietTactic
import Derived.Outline
import Derived.Deep.DeepCutAuto
import Derived.Deep.RegionWith
import Derived.RangeFuncNested
import Derived.RangeFuncBound
import Derived.RangeFuncCalls
import Derived.RangeFuncLeaves
import Derived.Shelf.Abstract
import Derived.Shelf.RegionOpen
import Derived.OwnWalkIn
import Derived.TacticsInMore
import Derived.LoopNIn
import Derived.LoopIn
import Derived.Deep.LoopGhost
set_option linter.unusedSimpArgs false
set_option linter.unusedVariables false
namespace Go.Proofs.Ytbhhgfpliggkgaa
open Go.RowKit

/-- One byte more behind a number. -/
def step8 (a x : Int) : Int := (a * 256 + x) % 18446744073709551616
/-- The number that bytes make, most significant first. -/
def num (l : List Int) : Int := l.foldl step8 0

theorem num_snoc (l : List Int) (x : Int) : num (l ++ [x]) = step8 (num l) x := by simp [num]
theorem num_take (l : List Int) (k : Nat) (h : k < l.length) : num (l.take (k + 1)) = step8 (num (l.take k)) l[k] := by
  rw [List.take_succ_eq_append_getElem h, num_snoc]
theorem step8_bounds (a x : Int) : 0 ≤ step8 a x ∧ step8 a x < 18446744073709551616 := by unfold step8; omega
theorem num_bounds (l : List Int) : 0 ≤ num l ∧ num l < 18446744073709551616 := by
  rcases List.eq_nil_or_concat l with rfl | ⟨l', x, rfl⟩
  · simp [num]
  · rw [List.concat_eq_append, num_snoc]; exact step8_bounds _ _
theorem or8 (a x : Int) (h0 : 0 ≤ x) (h1 : x < 256) : bits .or .u64 (IntKind.u64.wrap (a * 256)) x = step8 a x := by
  rw [IntKind.wrap_u64]
  have h := bits_join .u64 64 (by decide) wraps_u64 8 (a * 256 % 18446744073709551616) x (by omega) (by omega) (by omega) h0 h1 (by omega)
  rw [h]
  unfold step8
  omega

theorem add8 (a x y : Int) (e : y = x) (h0 : 0 ≤ x) (h1 : x < 256) : IntKind.u64.wrap (IntKind.u64.wrap (a * 256) + IntKind.u64.wrap y) = step8 a x := by
  subst e
  simp only [IntKind.wrap_u64, step8]
  omega

/-- Byte number j of a number, from the least significant on. -/
def byteAt (u : Int) (j : Nat) : Int := u / 2 ^ (8 * j) % 256
/-- The s least significant bytes, most significant first. -/
def enc (s : Nat) (u : Int) : List Int := (List.range s).reverse.map (byteAt u)
theorem byteAt_wf (u : Int) (j : Nat) : (Lit.int .u8 (byteAt u j)).wf = true := by
  unfold byteAt
  simp [Lit.wf, IntKind.min, IntKind.max, IntKind.signed, IntKind.bits]
  omega
theorem enc_length (s : Nat) (u : Int) : (enc s u).length = s := by simp [enc]
theorem enc_wf (s : Nat) (u : Int) : ∀ x ∈ enc s u, (Lit.int .u8 x).wf = true := by
  intro x hx
  simp only [enc, List.mem_map] at hx
  obtain ⟨j, _, rfl⟩ := hx
  exact byteAt_wf u j
theorem enc_take (s : Nat) (u : Int) (k : Nat) (h : k < s) : (enc s u).take (k + 1) = (enc s u).take k ++ [byteAt u (s - 1 - k)] := by
  rw [List.take_succ_eq_append_getElem (by rw [enc_length]; exact h)]
  simp [enc]
theorem enc_succ (k : Nat) (u : Int) : enc (k + 1) u = byteAt u k :: enc k u := by
  unfold enc
  rw [List.range_succ, List.reverse_append]
  rfl
theorem foldl_enc (u : Int) (hu : 0 ≤ u) : ∀ (k : Nat) (a : Int), (enc k u).foldl step8 a % 18446744073709551616 = (a * 2 ^ (8 * k) + u % 2 ^ (8 * k)) % 18446744073709551616
  | 0, a => by simp [enc]
  | k + 1, a => by
    obtain ⟨m, rfl⟩ := Int.eq_ofNat_of_zero_le hu
    rw [enc_succ, List.foldl_cons, foldl_enc _ hu k, show (2 : Int) ^ (8 * (k + 1)) = 2 ^ (8 * k) * 256 from by rw [Nat.mul_add, Int.pow_add]; rfl]
    unfold step8 byteAt
    obtain ⟨p, hp⟩ : ∃ p : Nat, (2 : Int) ^ (8 * k) = (p : Int) := ⟨2 ^ (8 * k), (Int.natCast_pow 2 _).symm⟩
    rw [hp]
    have h1 : ((m : Int) % ((p : Int) * 256)) = (m : Int) % (p : Int) + (p : Int) * ((m : Int) / (p : Int) % 256) := by
      have := congrArg (fun n : Nat => (n : Int)) (Nat.mod_mul (x := m) (a := p) (b := 256))
      simpa using this
    rw [h1]
    generalize (p : Int) = p
    generalize (m : Int) / p % 256 = b
    generalize (m : Int) % p = r
    rw [Int.add_emod, Int.mul_emod, Int.emod_emod, ← Int.mul_emod, ← Int.add_emod]
    congr 1
    rw [Int.add_mul, Int.mul_assoc, Int.mul_comm 256 p, Int.mul_comm b p]
    omega
theorem num_enc (u : Int) (hu : 0 ≤ u) (k : Nat) (hk : k ≤ 8) : num (enc k u) = u % 2 ^ (8 * k) := by
  have h := foldl_enc u hu k 0
  have hb := num_bounds (enc k u)
  unfold num at hb ⊢
  rw [Int.emod_eq_of_lt hb.1 hb.2] at h
  rw [h, Int.zero_mul, Int.zero_add, Int.emod_eq_of_lt]
  · exact Int.emod_nonneg _ (by have : (0 : Int) < 2 ^ (8 * k) := Int.pow_pos (by decide); omega)
  · have h2 : u % 2 ^ (8 * k) < 2 ^ (8 * k) := Int.emod_lt_of_pos _ (Int.pow_pos (by decide))
    have h3 : (2 : Int) ^ (8 * k) ≤ 2 ^ 64 := by
      have : 2 ^ (8 * k) ≤ 2 ^ 64 := Nat.pow_le_pow_right (by decide) (by omega)
      exact_mod_cast this
    omega
theorem byte_shr (u : Int) (j : Nat) (h : j < 8) : IntKind.u8.wrap (u / 2 ^ min (8 * (j : Int)).toNat 64) = byteAt u j := by
  rw [IntKind.wrap_u8, show min (8 * (j : Int)).toNat 64 = 8 * j from by omega]
  rfl
/-! ### A slice that reads as a list -/
section
variable {k : IntKind} {w w' : World} {A : Option Addr} {n c : Nat} {xs : List Int}
end

/-! ### A slice of the call's own -/
section
variable {k : IntKind} {e : TypeId} {base : Nat} {w w' : World} {v : Value} {xs : List Int}
end

/-! ### The laws of append, make and copy, in these words -/
section
variable {P : Program} {w : World} {ops : Array Oper} {rest : List Oper} {o : Oper} {a : Act} {Q : Exit → Act → World → Prop}
end
end Go.Proofs.Ytbhhgfpliggkgaa
namespace Go.Proofs.Ytbhhgfpliggkgaa
open Go.RowKit
theorem bytesT : Ints Try.prog 63 5 .u8 1 := ⟨Try.underlying63, by kernel_rfl⟩

def sizeB (n : Int) : Bool := decide (1 ≤ n ∧ n ≤ 8)
set_option maxHeartbeats 400000 in
theorem clone_any (A : Option Addr) (n c : Nat) (xs : List Int) (w : World) (h : Rd .u8 w A n c xs) (hn : n ≤ 70368744177664) :
    Calls Try.prog 68 #[.slice A n c] w fun e w' => ∃ v, e = .returned v ∧ Ow .u8 5 w.heap.size w' v xs ∧ Below w.heap.size w w' := by
  rcases A with _ | ad
  · have hc := h.2.2.2.1 rfl
    subst hc
    obtain rfl : n = 0 := by have := h.2.1; omega
    obtain rfl : xs = [] := List.eq_nil_of_length_eq_zero h.1
    have hq := Lib.run_eql_slice_nil (P := Try.prog) w 63 5 none 0 0 0 0 Try.underlying63
    go_enter Try.func68, Try.ntmps68
    go_wp2
    go_ret
    exact ⟨_, rfl, ⟨rfl, .inl ⟨rfl, rfl⟩⟩, Below.refl _ _⟩
  · have hq := Lib.run_eql_slice_nil (P := Try.prog) w 63 5 (some ad) n c 0 0 Try.underlying63
    go_enter Try.func68, Try.ntmps68
    go_wp2_with (first
      | (at_builtin
         go_must (refine wpList_append_ints bytesT rfl (.tmp 5) (.tmp 6) rfl rfl (w0 := w) (xs := []) ⟨rfl, .inr ⟨w.heap.size, 0, _, rfl, Nat.le_refl _, heap_alloc_new w _, Nat.le_refl _, by decide, by decide, rfl⟩⟩ rfl (h.alloc _) (by simp; omega) (by omega) ((Below.refl _ _).alloc (Nat.le_refl _) _) ?_)
         intro v1 w1 hown hb))
    go_ret
    exact ⟨_, rfl, by simpa using hown, hb⟩
end Go.Proofs.Ytbhhgfpliggkgaa
namespace Go.Proofs.Ytbhhgfpliggkgaa
open Go.RowKit
end Go.Proofs.Ytbhhgfpliggkgaa
namespace Go.Proofs.Ytbhhgfpliggkgaa
open Go.RowKit
theorem drop_rep (n : Nat) (xs : List Int) (h : xs.length = n) : xs ++ (List.replicate (n : Int).toNat (0 : Int)).drop xs.length = xs := by
  rw [List.drop_eq_nil_of_le (by simp [h])]; simp

theorem own_empty (w : World) : Ow .u8 5 w.heap.size (w.alloc (.cells #[] 5)) (.slice (some ⟨w.heap.size, 0, none⟩) 0 0) [] :=
  ⟨rfl, .inr ⟨w.heap.size, 0, _, rfl, Nat.le_refl _, heap_alloc_new w _, Nat.le_refl _, by decide, by decide, rfl⟩⟩

end Go.Proofs.Ytbhhgfpliggkgaa
namespace Go.Proofs.Ytbhhgfpliggkgaa
open Go.RowKit
end Go.Proofs.Ytbhhgfpliggkgaa
namespace Go.Proofs.Ytbhhgfpliggkgaa
open Go.RowKit
theorem Rd.wr {k : IntKind} {w w' : World} {A : Option Addr} {n c : Nat} {xs : List Int} (h : Rd k w A n c xs) {g : Nat} (hA : ∀ ad, A = some ad → ad.block ≠ g) (hw : Wr g w w') : Rd k w' A n c xs := by
  obtain ⟨h1, h2, h3, h4, h5, h6⟩ := h
  refine ⟨h1, h2, h3, h4, h5, fun hn => ?_⟩
  obtain ⟨g', o, e, hg, hx⟩ := h6 hn
  refine ⟨g', o, e, by have := hw.size; omega, fun i hi => ?_⟩
  rw [World.cell?_of_block (hw.block g' hg (by intro e'; injection e' with e'; exact hA _ e e'))]
  exact hx i hi
theorem cutA_block {A : Option Addr} {c k g : Nat} (h : ∀ ad, A = some ad → ad.block < g) : ∀ ad, cutA A c k = some ad → ad.block < g := by
  intro ad he
  unfold cutA at he
  split at he
  · exact h ad he
  · cases A with
    | none => simp at he
    | some x =>
      simp at he
      subst he
      have := h x rfl
      unfold Addr.add
      split <;> simpa using this

end Go.Proofs.Ytbhhgfpliggkgaa
namespace Go.Proofs.Ytbhhgfpliggkgaa
open Go.RowKit
def putL (xs : List Int) (s u : Int) : List Int := if sizeB s then xs ++ enc s.toNat u else xs
def getB (xs : List Int) (s : Int) : Bool := sizeB s && decide (s ≤ xs.length)
def getN (xs : List Int) (s : Int) : Int := if getB xs s then num (xs.take s.toNat) else 0
def getR (xs : List Int) (s : Int) : List Int := if getB xs s then xs.drop s.toNat else []
theorem sizeB_nat {s : Int} (h : sizeB s = true) : ∃ k : Nat, s = k ∧ 1 ≤ k ∧ k ≤ 8 := by
  unfold sizeB at h
  simp at h
  exact ⟨s.toNat, by omega, by omega, by omega⟩

theorem cutA_from {A : Option Addr} {c k : Nat} {ad : Addr} (he : cutA A c k = some ad) : ∃ a0, A = some a0 ∧ ad.block = a0.block := by
  unfold cutA at he
  split at he
  · exact ⟨ad, he, rfl⟩
  · cases A with
    | none => simp at he
    | some x =>
      simp at he
      subst he
      refine ⟨x, rfl, ?_⟩
      unfold Addr.add
      split <;> rfl
theorem getR_wf {xs : List Int} (s : Int) (h : ∀ x ∈ xs, (Lit.int .u8 x).wf = true) : ∀ x ∈ getR xs s, (Lit.int .u8 x).wf = true := by
  unfold getR
  split
  · exact fun x hx => h x (List.mem_of_mem_drop hx)
  · simp
theorem putL_wf {xs : List Int} (s u : Int) (h : ∀ x ∈ xs, (Lit.int .u8 x).wf = true) : ∀ x ∈ putL xs s u, (Lit.int .u8 x).wf = true := by
  unfold putL
  split
  · intro x hx
    rcases List.mem_append.1 hx with hx | hx
    · exact h x hx
    · exact enc_wf _ _ x hx
  · exact h

theorem back_B (xs : List Int) (u : Int) {k : Nat} (hs : sizeB k = true) : getB (enc k u ++ xs) k = true := by
  unfold getB
  rw [hs]
  simp [enc_length]
  omega
theorem back_R (xs : List Int) (u : Int) {k : Nat} (hs : sizeB k = true) : getR (enc k u ++ xs) k = xs := by
  unfold getR
  rw [if_pos (back_B xs u hs), Int.toNat_natCast, List.drop_append_of_le_length (by simp [enc_length]), List.drop_of_length_le (by simp [enc_length])]
  simp
theorem back_N (xs : List Int) (u : Int) {k : Nat} (hu0 : 0 ≤ u) (hs : sizeB k = true) (hk8 : k ≤ 8) : getN (enc k u ++ xs) k = u % 2 ^ (8 * k) := by
  unfold getN
  rw [if_pos (back_B xs u hs), Int.toNat_natCast, List.take_append_of_le_length (by simp [enc_length]), List.take_of_length_le (by simp [enc_length]), num_enc u hu0 k hk8]

theorem wrap_pow {k : Nat} (h : k < 8) : IntKind.u64.wrap (2 ^ (8 * k)) = 2 ^ (8 * k) := by
  have h3 : (2 : Int) ^ (8 * k) ≤ 2 ^ 56 := by
    have : 2 ^ (8 * k) ≤ 2 ^ 56 := Nat.pow_le_pow_right (by decide) (by omega)
    exact_mod_cast this
  have h4 : (0 : Int) < 2 ^ (8 * k) := Int.pow_pos (by decide)
  exact wraps_u64 _ (by omega) (by omega)
theorem pow_ne (k : Nat) : ¬ (2 : Int) ^ (8 * k) = 0 := by
  have h4 : (0 : Int) < 2 ^ (8 * k) := Int.pow_pos (by decide)
  omega

theorem conv_any {W : World} {A : Option Addr} {l c : Nat} {xs : List Int} (h : Rd .u8 W A l c xs) : (convert 63 9 (.slice A l c)).run Try.prog W = .ok (.string (strOfNums xs)) W :=
  run_str Try.underlying63 Try.underlying5 h 9 Try.underlying9

end Go.Proofs.Ytbhhgfpliggkgaa
namespace Go.Proofs.Ytbhhgfpliggkgaa
open Go.RowKit Go.Shelf
attribute [local go_sem] Oper.semAt_some

/-- The two boxes stay. -/
def KpB (Bs Bn : Nat) (W W' : World) : Prop := W'.heap[Bs]? = W.heap[Bs]? ∧ W'.heap[Bn]? = W.heap[Bn]?
theorem KpB.c1 {Bs Bn : Nat} {W W' : World} (h : KpB Bs Bn W W') : W'.cell? ⟨Bs, 0, none⟩ = W.cell? ⟨Bs, 0, none⟩ := World.cell?_of_block h.1
theorem KpB.c2 {Bs Bn : Nat} {W W' : World} (h : KpB Bs Bn W W') : W'.cell? ⟨Bn, 0, none⟩ = W.cell? ⟨Bn, 0, none⟩ := World.cell?_of_block h.2
theorem KpB.trans {Bs Bn : Nat} {A B C : World} (h : KpB Bs Bn A B) (k : KpB Bs Bn B C) : KpB Bs Bn A C := ⟨k.1.trans h.1, k.2.trans h.2⟩
theorem KpB.put {Bs Bn : Nat} {w : World} (h1 : Bs < w.heap.size) (h2 : Bn < w.heap.size) (W : World) (l : Nat) (o o' : Obj) (hl : w.heap.size ≤ l) (ho : W.heap[l]? = some o) (_ : o.isCells = false) (_ : o.isWalk = false) : KpB Bs Bn W (W.putObj l o') :=
  ⟨World.putObj_heap_other (by omega), World.putObj_heap_other (by omega)⟩

/-- Adler's two sums over bytes, unreduced. -/
def raw (a b : Int) : List Int → Int × Int
  | [] => (a, b)
  | x :: l => raw (a + x) (b + (a + x)) l
def rawA (a b : Int) (l : List Int) : Int := (raw a b l).1
def rawB (a b : Int) (l : List Int) : Int := (raw a b l).2
theorem raw_snoc (a b : Int) (l : List Int) (x : Int) : raw a b (l ++ [x]) = (rawA a b l + x, rawB a b l + (rawA a b l + x)) := by
  induction l generalizing a b with
  | nil => rfl
  | cons y l ih => exact ih _ _
theorem raw_take (a b : Int) (l : List Int) (k : Nat) (h : k < l.length) : rawA a b (l.take (k + 1)) = rawA a b (l.take k) + l[k] ∧ rawB a b (l.take (k + 1)) = rawB a b (l.take k) + (rawA a b (l.take k) + l[k]) := by
  rw [List.take_succ_eq_append_getElem h]
  unfold rawA rawB
  rw [raw_snoc]
  exact ⟨rfl, rfl⟩
theorem raw_bounds (a b : Int) (l : List Int) (h : okB l = true) (ha : 0 ≤ a) (hb : 0 ≤ b) :
    (0 ≤ rawA a b l ∧ rawA a b l ≤ a + 256 * l.length) ∧ 0 ≤ rawB a b l ∧ rawB a b l ≤ b + l.length * (a + 256 * l.length) := by
  unfold rawA rawB
  induction l generalizing a b with
  | nil => simp [raw]; omega
  | cons x l ih =>
    simp only [okB, List.all_cons, Bool.and_eq_true, decide_eq_true_eq] at h
    have := ih (a + x) (b + (a + x)) h.2 (by omega) (by omega)
    simp only [raw, List.length_cons]
    obtain ⟨⟨h1, h2⟩, h3, h4⟩ := this
    refine ⟨⟨h1, by omega⟩, h3, Int.le_trans h4 ?_⟩
    obtain ⟨n, hn⟩ : ∃ n : Int, n = l.length := ⟨_, rfl⟩
    rw [show ((l.length + 1 : Nat) : Int) = n + 1 from by omega, ← hn]
    have hn0 : 0 ≤ n := by omega
    have e1 : n * (a + x + 256 * n) = n * (a + 256 * n) + n * x := by rw [← Int.mul_add]; congr 1; omega
    have e2 : (n + 1) * (a + 256 * (n + 1)) = n * (a + 256 * n) + 256 * n + (a + 256 * (n + 1)) := by
      rw [Int.add_mul, Int.one_mul, show a + 256 * (n + 1) = (a + 256 * n) + 256 from by omega, Int.mul_add n (a + 256 * n) 256]
      omega
    have e3 : n * x ≤ 256 * n := by rw [Int.mul_comm]; exact Int.mul_le_mul_of_nonneg_right (by omega) hn0
    omega
end Go.Proofs.Ytbhhgfpliggkgaa
namespace Go.Proofs.Ytbhhgfpliggkgaa
open Go.RowKit Go.Shelf
attribute [local go_sem] Oper.semAt_some

/-- Adler's two sums go on. -/
def adA (a b : Int) (l : List Int) : Int := rawA a b l % 65521
def adB (a b : Int) (l : List Int) : Int := rawB a b l % 65521
def pr (a b : Int) (r : List Value) : List Value := .int .u64 a :: .int .u64 b :: r
theorem raw_small (a b : Int) (k : Nat) (hk : k ≤ 65536) (ha0 : 0 ≤ a) (ha : a < 65521) (hb : b < 65521) (s : Int) (h : s ≤ b + k * (a + 256 * k)) : s < 2000000000000 := by
  have h1 : (k : Int) * (a + 256 * k) ≤ 65536 * (65521 + 256 * 65536) := by
    refine Int.le_trans (Int.mul_le_mul_of_nonneg_left (c := (k : Int)) (show a + 256 * (k : Int) ≤ 65521 + 256 * 65536 from by omega) (by omega)) ?_
    exact Int.mul_le_mul_of_nonneg_right (by omega) (by omega)
  omega
end Go.Proofs.Ytbhhgfpliggkgaa
namespace Go.Proofs.Ytbhhgfpliggkgaa
open Go.RowKit Go.Shelf
attribute [local go_sem] Oper.semAt_some

end Go.Proofs.Ytbhhgfpliggkgaa
namespace Go.Proofs.Ytbhhgfpliggkgaa
open Go.RowKit Go.Shelf

theorem raw_shift (a b c d : Int) (l : List Int) : rawA (a + 65521 * c) (b + 65521 * d) l % 65521 = rawA a b l % 65521 ∧ rawB (a + 65521 * c) (b + 65521 * d) l % 65521 = rawB a b l % 65521 := by
  induction l generalizing a b c d with
  | nil => unfold rawA rawB raw; constructor <;> simp
  | cons x l ih =>
    have := ih (a + x) (b + (a + x)) c (c + d)
    unfold rawA rawB at this ⊢
    unfold raw
    rw [show a + 65521 * c + x = a + x + 65521 * c from by omega, show b + 65521 * d + (a + x + 65521 * c) = b + (a + x) + 65521 * (c + d) from by omega]
    exact this
theorem raw_mod (a b : Int) (l : List Int) : rawA (a % 65521) (b % 65521) l % 65521 = rawA a b l % 65521 ∧ rawB (a % 65521) (b % 65521) l % 65521 = rawB a b l % 65521 := by
  have := raw_shift (a % 65521) (b % 65521) (a / 65521) (b / 65521) l
  rw [show a % 65521 + 65521 * (a / 65521) = a from by omega, show b % 65521 + 65521 * (b / 65521) = b from by omega] at this
  exact ⟨this.1.symm, this.2.symm⟩
theorem raw_app (a b : Int) (l m : List Int) : raw a b (l ++ m) = raw (rawA a b l) (rawB a b l) m := by
  induction l generalizing a b with
  | nil => rfl
  | cons x l ih => exact ih _ _
theorem ad_app (a b : Int) (l m : List Int) : adA (adA a b l) (adB a b l) m = adA a b (l ++ m) ∧ adB (adA a b l) (adB a b l) m = adB a b (l ++ m) := by
  unfold adA adB
  have := raw_mod (rawA a b l) (rawB a b l) m
  rw [this.1, this.2]
  unfold rawA rawB
  rw [raw_app]
  exact ⟨rfl, rfl⟩
theorem ad_lt (a b : Int) (l : List Int) : (0 ≤ adA a b l ∧ adA a b l < 65521) ∧ 0 ≤ adB a b l ∧ adB a b l < 65521 := by unfold adA adB; omega
theorem ad_take (a b : Int) (l : List Int) (k : Nat) (h : k < l.length) : adA a b (l.take (k + 1)) = (adA a b (l.take k) + l[k]) % 65521 ∧ adB a b (l.take (k + 1)) = (adB a b (l.take k) + (adA a b (l.take k) + l[k]) % 65521) % 65521 := by
  have := raw_take a b l k h
  unfold adA adB
  rw [this.1, this.2]
  omega
/-- The checksum of two sums. -/
def sm (a b : Int) : Int := 65536 * b + a
/-- A checksum goes on by bytes. -/
def onV (s : Int) (l : List Int) : Int := sm (adA (s % 65536 % 65521) (s / 65536 % 65521) l) (adB (s % 65536 % 65521) (s / 65536 % 65521) l)
theorem onV_app (s : Int) (l m : List Int) (h0 : 0 ≤ s) (h1 : s < 4294967296) : onV (onV s l) m = onV s (l ++ m) := by
  unfold onV
  generalize s % 65536 % 65521 = a
  generalize s / 65536 % 65521 = b
  have hb := ad_lt a b l
  have := ad_app a b l m
  have e1 : sm (adA a b l) (adB a b l) % 65536 % 65521 = adA a b l := by unfold sm; omega
  have e2 : sm (adA a b l) (adB a b l) / 65536 % 65521 = adB a b l := by unfold sm; omega
  rw [e1, e2, this.1, this.2]
theorem or16 (a b : Int) (h0 : 0 ≤ a) (h1 : a < 65536) (h2 : 0 ≤ b) (h3 : b < 65536) : bits .or .u64 (b * 65536) a = sm a b := by
  have h := bits_join .u64 64 (by decide) wraps_u64 16 (b * 65536) a (by omega) (by omega) (by omega) h0 (by omega) (by omega)
  rw [h]
  unfold sm
  omega

/-- A part: where it lies, and its bytes. -/
structure Pt where
  A : Option Addr
  n : Nat
  c : Nat
  xs : List Int
/-- The slice (A, n) of parts. -/
def Pts (w : World) (A : Option Addr) (n : Nat) (ps : List Pt) : Prop :=
  ps.length = n ∧ n ≤ 1000 ∧ ∀ i (h : i < ps.length), (∃ g o, A = some ⟨g, o, none⟩ ∧ g < w.heap.size ∧ w.cell? ⟨g, o + i, none⟩ = some (.slice ps[i].A ps[i].n ps[i].c)) ∧ Rd .u8 w ps[i].A ps[i].n ps[i].c ps[i].xs ∧ ps[i].n ≤ 65536
/-- All bytes. -/
def cat (ps : List Pt) : List Int := ps.flatMap (·.xs)
theorem cat_take (ps : List Pt) (k : Nat) (h : k < ps.length) : cat (ps.take (k + 1)) = cat (ps.take k) ++ ps[k].xs := by
  unfold cat
  rw [List.take_succ_eq_append_getElem h, List.flatMap_append]
  simp
theorem Pts.below {w w' : World} {A : Option Addr} {n : Nat} {ps : List Pt} (h : Pts w A n ps) (hb : Below w.heap.size w w') : Pts w' A n ps := by
  refine ⟨h.1, h.2.1, fun i hi => ?_⟩
  obtain ⟨⟨g, o, e, hg, hc⟩, hr, hn⟩ := h.2.2 i hi
  exact ⟨⟨g, o, e, by have := hb.size; omega, (hb.cell (p := ⟨g, _, none⟩) hg).trans hc⟩, hr.below hb, hn⟩
theorem Pts.nil (w : World) : Pts w none 0 [] := ⟨rfl, by omega, fun i h => by simp at h⟩

end Go.Proofs.Ytbhhgfpliggkgaa
namespace Go.Proofs.Ytbhhgfpliggkgaa
open Go.RowKit Go.Shelf

theorem and16 (s : Int) (h0 : 0 ≤ s) (h1 : s < 4294967296) : bits .and .u32 s 65535 = s % 65536 := by
  have := bits_mask .u32 32 (by decide) (fun n a b => by rw [IntKind.wrap_u32]; omega) 16 (by decide) s h0 (by omega)
  simpa using this

end Go.Proofs.Ytbhhgfpliggkgaa
