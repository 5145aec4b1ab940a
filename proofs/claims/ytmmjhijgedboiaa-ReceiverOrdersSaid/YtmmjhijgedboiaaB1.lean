/- Bitmaps by value: what each call makes of one; their bits. -/
import Derived.Test.YtmmjhijgedboiaaTab
set_option linter.unusedSimpArgs false
set_option linter.unusedVariables false
set_option maxRecDepth 100000
namespace Go.Proofs.Ytmmjhijgedboiaa
open Go.RowKit Go.Shelf

def topN : Nat := 1152921504606846976
/-- Which numbers of a window are set. -/
structure Bm where
  size : Nat
  base : Nat
  s : Nat → Bool
structure Bm.ok (B : Bm) : Prop where
  s1 : 1 ≤ B.size
  s2 : B.size ≤ 256
  b1 : B.base ≤ 1152921504606846977
  win : ∀ n, B.s n = true → B.base ≤ n ∧ n < B.base + B.size ∧ n ≤ 1152921504606846976
/-- The words hold the bits. -/
structure Marks (B : Bm) (m : Nat → Nat) : Prop where
  lt : ∀ k, m k < 2 ^ 64
  bit : ∀ n, B.base ≤ n → n < B.base + 256 → (m (n % 256 / 64)).testBit (n % 64) = B.s n
def Bm.mem (B : Bm) (m : Nat → Nat) : List Value := [.int .i64 B.size, .int .i64 B.base, .int .u64 (m 0), .int .u64 (m 1), .int .u64 (m 2), .int .u64 (m 3)]
def Bm.new (size base : Nat) : Bm := ⟨size, base, fun _ => false⟩
def Bm.put (B : Bm) (n : Nat) : Bm := { B with s := fun i => decide (i = n) || B.s i }
def Bm.reach (B : Bm) (x : Int) : Bool := decide (0 ≤ x ∧ x < B.base + B.size ∧ x ≤ 1152921504606846976)
def Bm.has (B : Bm) (x : Int) : Bool := decide (0 ≤ x) && (decide (x < B.base) || B.s x.toNat)
def Bm.err (B : Bm) (x : Int) : Int := if B.reach x = true then 0 else 5
def Bm.fresh (B : Bm) (x : Int) : Bool := B.reach x && !B.has x
def Bm.set (B : Bm) (x : Int) : Bm := if B.fresh x = true then B.put x.toNat else B
/-- The base k numbers on. -/
def Bm.on (B : Bm) (k : Nat) : Bm := { B with base := B.base + k, s := fun i => B.s i && decide (B.base + k ≤ i) }
/-- So many from the base on are set. -/
structure Bm.runs (B : Bm) (k : Nat) : Prop where
  yes : ∀ j, j < k → B.s (B.base + j) = true
  no : B.s (B.base + k) = false
theorem Bm.runs_one {B : Bm} {k j : Nat} (h : B.runs k) (h' : B.runs j) : k = j := by
  rcases Nat.lt_trichotomy k j with hl | hl | hl
  · have := h'.yes k hl; rw [h.no] at this; cases this
  · exact hl
  · have := h.yes j hl; rw [h'.no] at this; cases this
/-! ### What holds of every one -/
theorem Bm.new_ok {size base : Nat} (h1 : 1 ≤ size) (h2 : size ≤ 256) (hb : base ≤ 1152921504606846976) : (Bm.new size base).ok := ⟨h1, h2, by show base ≤ _; omega, fun n h => by simp [Bm.new] at h⟩
theorem Bm.ok.put {B : Bm} (h : B.ok) {n : Nat} (h1 : B.base ≤ n) (h2 : n < B.base + B.size) (h3 : n ≤ 1152921504606846976) : (B.put n).ok := by
  refine ⟨h.s1, h.s2, h.b1, fun i hi => ?_⟩
  simp only [Bm.put, Bool.or_eq_true, decide_eq_true_eq] at hi
  rcases hi with rfl | hi
  · exact ⟨h1, h2, h3⟩
  · exact h.win i hi
theorem Bm.fresh_in {B : Bm} {x : Int} (h : B.fresh x = true) : 0 ≤ x ∧ B.base ≤ x.toNat ∧ x.toNat < B.base + B.size ∧ x.toNat ≤ 1152921504606846976 ∧ B.s x.toNat = false := by
  simp only [Bm.fresh, Bm.reach, Bm.has, Bool.and_eq_true, decide_eq_true_eq, Bool.not_eq_true', Bool.and_eq_false_iff, Bool.or_eq_false_iff, decide_eq_false_iff_not] at h
  obtain ⟨⟨h1, h2, h3⟩, h4 | ⟨h4, h5⟩⟩ := h
  · omega
  · exact ⟨h1, by omega, by omega, by omega, h5⟩
theorem Bm.ok.set {B : Bm} (h : B.ok) (x : Int) : (B.set x).ok := by
  unfold Bm.set
  split
  · rename_i hf
    obtain ⟨h1, h2, h3, h4, _⟩ := Bm.fresh_in hf
    exact h.put h2 h3 h4
  · exact h
theorem Bm.ok.step {B : Bm} (h : B.ok) (hs : B.s B.base = true) : (B.on 1).ok := by
  obtain ⟨_, h2, h3⟩ := h.win _ hs
  refine ⟨h.s1, h.s2, by show B.base + 1 ≤ _; omega, fun i hi => ?_⟩
  simp only [Bm.on, Bool.and_eq_true, decide_eq_true_eq] at hi
  have := h.win i hi.1
  show B.base + 1 ≤ i ∧ i < B.base + 1 + B.size ∧ _
  omega
theorem Bm.on_on (B : Bm) (k : Nat) : (B.on k).on 1 = B.on (k + 1) := by
  unfold Bm.on
  simp only [Bm.mk.injEq, true_and]
  refine ⟨by omega, funext fun i => ?_⟩
  by_cases h : B.s i = true
  · rw [h]; simp only [Bool.true_and]
    by_cases h2 : B.base + k + 1 ≤ i
    · rw [decide_eq_true (show B.base + k ≤ i by omega), decide_eq_true h2, decide_eq_true (show B.base + (k + 1) ≤ i by omega)]; rfl
    · rw [decide_eq_false h2, decide_eq_false (show ¬ B.base + (k + 1) ≤ i by omega), Bool.and_false]
  · simp at h; simp [h]
theorem Bm.on_zero {B : Bm} (h : B.ok) : B.on 0 = B := by
  obtain ⟨sz, b, s⟩ := B
  unfold Bm.on
  simp only [Bm.mk.injEq, true_and, Nat.add_zero]
  refine funext fun i => ?_
  by_cases hi : s i = true
  · have := (h.win i hi).1
    rw [hi, decide_eq_true this]; rfl
  · simp at hi; simp [hi]
theorem Bm.ok.on {B : Bm} (h : B.ok) : ∀ {k : Nat}, (∀ j, j < k → B.s (B.base + j) = true) → (B.on k).ok
  | 0, _ => by rw [Bm.on_zero h]; exact h
  | k + 1, hj => by
    rw [← Bm.on_on]
    refine Bm.ok.step (h.on fun j hk => hj j (by omega)) ?_
    show (B.s (B.base + k) && decide (B.base + k ≤ B.base + k)) = true
    rw [hj k (by omega)]; simp
theorem Bm.ok.s_high {B : Bm} (h : B.ok) {n : Nat} (hn : B.base + B.size ≤ n ∨ 1152921504606846976 < n ∨ n < B.base) : B.s n = false := by
  cases hs : B.s n with
  | false => rfl
  | true => have := h.win n hs; omega
/-! ### Bits -/
theorem nat_pow_lt {j : Nat} (h : j < 64) : 2 ^ j < 2 ^ 64 := Nat.pow_lt_pow_right (by decide) h
theorem and_bit (a j : Nat) : decide (a &&& 2 ^ j = 0) = !a.testBit j := by
  cases h : a.testBit j with
  | false =>
    refine decide_eq_true (Nat.eq_of_testBit_eq fun i => ?_)
    rw [Nat.testBit_and, Nat.testBit_two_pow, Nat.zero_testBit]
    by_cases hi : j = i
    · subst hi; rw [h]; rfl
    · rw [decide_eq_false hi, Bool.and_false]
  | true =>
    refine decide_eq_false fun h0 => ?_
    have := congrArg (fun x => Nat.testBit x j) h0
    simp only [Nat.testBit_and, Nat.testBit_two_pow_self, Nat.zero_testBit, h] at this
    cases this
theorem wraps64 (n : Int) (h0 : 0 ≤ n) (h1 : n < 2 ^ 64) : IntKind.u64.wrap n = n := by rw [IntKind.wrap_u64]; omega
theorem bits_and {a b : Nat} (ha : a < 2 ^ 64) (hb : b < 2 ^ 64) : bits .and .u64 a b = ((a &&& b : Nat) : Int) := (bits_nat .u64 64 (by decide) wraps64 a b ha hb).1
theorem bits_or {a b : Nat} (ha : a < 2 ^ 64) (hb : b < 2 ^ 64) : bits .or .u64 a b = ((a ||| b : Nat) : Int) := (bits_nat .u64 64 (by decide) wraps64 a b ha hb).2
/-- a without bit j. -/
def noBit (a j : Nat) : Nat := (BitVec.ofNat 64 a &&& ~~~ BitVec.ofNat 64 (2 ^ j)).toNat
theorem noBit_lt (a j : Nat) : noBit a j < 2 ^ 64 := BitVec.isLt _
theorem noBit_bit {a j : Nat} (ha : a < 2 ^ 64) (i : Nat) (hi : i < 64) : (noBit a j).testBit i = (a.testBit i && !decide (j = i)) := by
  unfold noBit
  rw [BitVec.testBit_toNat, BitVec.getLsbD_and, BitVec.getLsbD_not, BitVec.getLsbD_ofNat, BitVec.getLsbD_ofNat, Nat.testBit_two_pow]
  simp [hi]
theorem bits_andNot {a j : Nat} (ha : a < 2 ^ 64) (hj : j < 64) : bits .andNot .u64 a ((2 ^ j : Nat) : Int) = ((noBit a j : Nat) : Int) := by
  have h := wraps64 ((noBit a j : Nat) : Int) (by omega) (by exact_mod_cast noBit_lt a j)
  unfold bits
  simp only [BitVec.ofInt_natCast]
  exact h
def upN (m : Nat → Nat) (k x : Nat) : Nat → Nat := fun i => if i = k then x else m i
theorem Marks.put {B : Bm} {m : Nat → Nat} (h : Marks B m) (ho : B.ok) {n : Nat} (h1 : B.base ≤ n) (h2 : n < B.base + B.size) : Marks (B.put n) (upN m (n % 256 / 64) (m (n % 256 / 64) ||| 2 ^ (n % 64))) := by
  have hs := ho.s2
  refine ⟨fun k => ?_, fun i hi1 hi2 => ?_⟩
  · unfold upN
    split
    · exact Nat.or_lt_two_pow (h.lt _) (nat_pow_lt (by omega))
    · exact h.lt k
  · have hi1' : B.base ≤ i := hi1
    have hi2' : i < B.base + 256 := hi2
    have hb := h.bit i hi1' hi2'
    show (upN m (n % 256 / 64) (m (n % 256 / 64) ||| 2 ^ (n % 64)) (i % 256 / 64)).testBit (i % 64) = (decide (i = n) || B.s i)
    unfold upN
    by_cases hk : i % 256 / 64 = n % 256 / 64
    · rw [if_pos hk, Nat.testBit_or, Nat.testBit_two_pow, ← hk, hb]
      by_cases hin : i = n
      · subst hin; simp
      · rw [decide_eq_false (show ¬ n % 64 = i % 64 by omega), decide_eq_false hin, Bool.or_false, Bool.false_or]
    · rw [if_neg hk, hb, decide_eq_false (show ¬ i = n by rintro rfl; exact hk rfl), Bool.false_or]
theorem Marks.drop {B : Bm} {m : Nat → Nat} (h : Marks B m) (ho : B.ok) : Marks (B.on 1) (upN m (B.base % 256 / 64) (noBit (m (B.base % 256 / 64)) (B.base % 64))) := by
  have hs := ho.s2
  refine ⟨fun k => ?_, fun i hi1 hi2 => ?_⟩
  · unfold upN
    split
    · exact noBit_lt _ _
    · exact h.lt k
  · have hi1' : B.base + 1 ≤ i := hi1
    have hi2' : i < B.base + 1 + 256 := hi2
    show (upN m (B.base % 256 / 64) (noBit (m (B.base % 256 / 64)) (B.base % 64)) (i % 256 / 64)).testBit (i % 64) = (B.s i && decide (B.base + 1 ≤ i))
    rw [decide_eq_true hi1', Bool.and_true]
    unfold upN
    by_cases hi : i = B.base + 256
    · rw [if_pos (by omega), noBit_bit (h.lt _) _ (by omega), ho.s_high (by omega), decide_eq_true (show B.base % 64 = i % 64 by omega)]
      simp
    · have hb := h.bit i (by omega) (by omega)
      by_cases hk : i % 256 / 64 = B.base % 256 / 64
      · rw [if_pos hk, noBit_bit (h.lt _) _ (by omega), decide_eq_false (show ¬ B.base % 64 = i % 64 by omega), ← hk, hb]
        simp
      · rw [if_neg hk, hb]
theorem Marks.new (size base : Nat) : Marks (Bm.new size base) (fun _ => 0) := ⟨fun _ => by decide, fun n _ _ => by simp [Bm.new]⟩
theorem Bm.mem_word (B : Bm) (m : Nat → Nat) {k : Nat} (h : k < 4) : (B.mem m)[2 + k]? = some (.int .u64 (m k)) := by
  rcases (by omega : k = 0 ∨ k = 1 ∨ k = 2 ∨ k = 3) with rfl | rfl | rfl | rfl <;> rfl
theorem Bm.mem_set (B : Bm) (m : Nat → Nat) {k : Nat} (h : k < 4) (x : Nat) : (B.mem m).set (2 + k) (.int .u64 x) = B.mem (upN m k x) := by
  rcases (by omega : k = 0 ∨ k = 1 ∨ k = 2 ∨ k = 3) with rfl | rfl | rfl | rfl <;> rfl
theorem Bm.mem_one (B : Bm) (m : Nat → Nat) : ∀ v ∈ B.mem m, v.oneCell' = true := by
  intro v hv
  simp [Bm.mem] at hv
  rcases hv with rfl | rfl | rfl | rfl | rfl | rfl <;> rfl
/-! ### Numbers of the window -/
/-- Those of the first i of the window that are set, or that are not. -/
def Bm.cond (B : Bm) (b : Bool) (j : Nat) : Bool := (B.s (B.base + j) == b) && decide (B.base + j ≤ 1152921504606846976)
def Bm.nums (B : Bm) (b : Bool) (i : Nat) : List Int := ((List.range i).filter (B.cond b)).map fun j : Nat => ((B.base + j : Nat) : Int)
def Bm.all (B : Bm) (b : Bool) : List Int := B.nums b B.size
theorem Bm.nums_succ (B : Bm) (b : Bool) (i : Nat) : B.nums b (i + 1) = if B.cond b i = true then B.nums b i ++ [((B.base + i : Nat) : Int)] else B.nums b i := by
  unfold Bm.nums
  rw [List.range_succ, List.filter_append, List.map_append]
  by_cases h : B.cond b i = true <;> simp [h]
theorem Bm.nums_len (B : Bm) (b : Bool) (i : Nat) : (B.nums b i).length ≤ i := by
  unfold Bm.nums
  rw [List.length_map]
  exact Nat.le_trans (List.length_filter_le _ _) (by simp)
theorem Bm.nums_top (B : Bm) (b : Bool) {i : Nat} (h : 1152921504606846976 < B.base + i) : ∀ k, B.nums b (i + k) = B.nums b i
  | 0 => rfl
  | k + 1 => by
    rw [← Nat.add_assoc, Bm.nums_succ, if_neg, Bm.nums_top B b h k]
    simp only [Bm.cond, Bool.and_eq_true, decide_eq_true_eq]
    omega
theorem Bm.nums_pre (B : Bm) (b : Bool) (i : Nat) : ∀ k, ∃ r, B.nums b (i + k) = B.nums b i ++ r
  | 0 => ⟨[], by simp⟩
  | k + 1 => by
    obtain ⟨r, hr⟩ := Bm.nums_pre B b i k
    rw [← Nat.add_assoc, Bm.nums_succ, hr]
    split
    · exact ⟨r ++ [((B.base + (i + k) : Nat) : Int)], by simp⟩
    · exact ⟨r, rfl⟩
theorem Bm.nums_at (B : Bm) (b : Bool) {i : Nat} (hi : i < B.size) (hc : B.cond b i = true) : ∃ h : (B.nums b i).length < (B.all b).length, (B.all b)[(B.nums b i).length] = ((B.base + i : Nat) : Int) := by
  obtain ⟨r, hr⟩ := B.nums_pre b (i + 1) (B.size - (i + 1))
  rw [show i + 1 + (B.size - (i + 1)) = B.size from by omega, Bm.nums_succ, if_pos hc, List.append_assoc] at hr
  have hl : (B.nums b i).length < (B.all b).length := by
    unfold Bm.all
    rw [hr]
    simp
  refine ⟨hl, ?_⟩
  have h2 : (B.all b)[(B.nums b i).length]? = some ((B.base + i : Nat) : Int) := by
    unfold Bm.all
    rw [hr]
    simp
  rw [List.getElem?_eq_getElem hl] at h2
  injection h2
end Go.Proofs.Ytmmjhijgedboiaa
