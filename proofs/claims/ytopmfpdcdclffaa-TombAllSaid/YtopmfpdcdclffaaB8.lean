/- The reference's bitmap: rows by value; Has, Set. -/
import Derived.Test.YtopmfpdcdclffaaB7
set_option linter.unusedSimpArgs false
set_option linter.unusedVariables false
namespace Go.Proofs.Ytopmfpdcdclffaa
open Go.RowKit Go.Shelf

/-! ### The numbers that are set, as a row -/
theorem Bm.cond_true {B : Bm} (ho : B.ok) (j : Nat) : B.cond true j = B.s (B.base + j) := by
  unfold Bm.cond
  cases h : B.s (B.base + j) with
  | false => rfl
  | true => rw [decide_eq_true (ho.win _ h).2.2]; rfl
theorem Bm.mem_all {B : Bm} (ho : B.ok) (x : Int) : x ∈ B.all true ↔ 0 ≤ x ∧ B.s x.toNat = true := by
  unfold Bm.all Bm.nums
  simp only [List.mem_map, List.mem_filter, List.mem_range]
  constructor
  · rintro ⟨j, ⟨h1, h2⟩, rfl⟩
    rw [B.cond_true ho] at h2
    exact ⟨by omega, by rw [Int.toNat_natCast]; exact h2⟩
  · rintro ⟨h1, h2⟩
    have h3 := ho.win _ h2
    refine ⟨x.toNat - B.base, ⟨by omega, ?_⟩, by omega⟩
    rw [B.cond_true ho, show B.base + (x.toNat - B.base) = x.toNat from by omega]
    exact h2
theorem Bm.has_mem {B : Bm} (ho : B.ok) (x : Int) : B.has x = (decide (0 ≤ x) && (decide (x < B.base) || decide (x ∈ B.all true))) := by
  unfold Bm.has
  by_cases h : 0 ≤ x
  · have : decide (x ∈ B.all true) = B.s x.toNat := by
      rw [Bool.eq_iff_iff, decide_eq_true_eq, B.mem_all ho]
      exact ⟨fun h => h.2, fun h2 => ⟨h, h2⟩⟩
    rw [this]
  · rw [decide_eq_false h]; rfl
theorem Bm.nums_lt (B : Bm) (b : Bool) (i : Nat) : ∀ x ∈ B.nums b i, x < (B.base + i : Nat) := by
  intro x hx
  unfold Bm.nums at hx
  simp only [List.mem_map, List.mem_filter, List.mem_range] at hx
  obtain ⟨j, ⟨h1, _⟩, rfl⟩ := hx
  omega
/-- A number that is set goes into the row. -/
theorem Bm.put_nums {B : Bm} (ho : B.ok) {n : Nat} (h1 : B.base ≤ n) (h2 : n < B.base + B.size) (h3 : n ≤ 1152921504606846976) (hs : B.s n = false) :
    ∀ k, ∃ r, B.nums true (n - B.base + 1 + k) = B.nums true (n - B.base) ++ r ∧ (B.put n).nums true (n - B.base + 1 + k) = B.nums true (n - B.base) ++ [(n : Int)] ++ r ∧ ∀ x ∈ r, (n : Int) < x
  | 0 => by
    have hp := ho.put h1 h2 h3
    have hlow : ∀ i, i ≤ n - B.base → (B.put n).nums true i = B.nums true i := by
      intro i hi
      unfold Bm.nums
      congr 1
      apply List.filter_congr
      intro j hj
      rw [List.mem_range] at hj
      rw [Bm.cond_true hp, Bm.cond_true ho]
      show (decide (B.base + j = n) || B.s (B.base + j)) = B.s (B.base + j)
      rw [decide_eq_false (by omega)]; rfl
    refine ⟨[], ?_, ?_, by simp⟩
    · rw [Nat.add_zero, Bm.nums_succ, if_neg, List.append_nil]
      rw [Bm.cond_true ho, show B.base + (n - B.base) = n from by omega, hs]; simp
    · rw [Nat.add_zero, Bm.nums_succ, if_pos, hlow _ (Nat.le_refl _), List.append_nil]
      · congr 2
        show ((B.base + (n - B.base) : Nat) : Int) = n
        omega
      · rw [Bm.cond_true hp]
        show (decide (B.base + (n - B.base) = n) || B.s (B.base + (n - B.base))) = true
        rw [decide_eq_true (by omega)]; rfl
  | k + 1 => by
    have hp := ho.put h1 h2 h3
    obtain ⟨r, e1, e2, e3⟩ := Bm.put_nums ho h1 h2 h3 hs k
    have hc : (B.put n).cond true (n - B.base + 1 + k) = B.cond true (n - B.base + 1 + k) := by
      rw [Bm.cond_true hp, Bm.cond_true ho]
      show (decide (B.base + (n - B.base + 1 + k) = n) || B.s (B.base + (n - B.base + 1 + k))) = _
      rw [decide_eq_false (by omega)]; rfl
    rw [← Nat.add_assoc, Bm.nums_succ, Bm.nums_succ, hc, e1, e2]
    by_cases h : B.cond true (n - B.base + 1 + k) = true
    · rw [if_pos h, if_pos h]
      refine ⟨r ++ [((B.base + (n - B.base + 1 + k) : Nat) : Int)], by simp, ?_, ?_⟩
      · show _ ++ [(((B.put n).base + (n - B.base + 1 + k) : Nat) : Int)] = _
        rw [show (B.put n).base = B.base from rfl]
        simp
      · intro x hx
        rw [List.mem_append, List.mem_singleton] at hx
        rcases hx with hx | rfl
        · exact e3 x hx
        · omega
    · rw [if_neg h, if_neg h]
      exact ⟨r, rfl, rfl, e3⟩
theorem spot_split {P r : List Int} {x : Int} {k : Nat} (hP : ∀ y ∈ P, y < x) (hr : ∀ y ∈ r, x < y) (h : Spot (P ++ r) x k) : (P ++ r).take k ++ [x] ++ (P ++ r).drop k = P ++ [x] ++ r := by
  have hk : k = P.length := by
    rcases Nat.lt_trichotomy k P.length with hl | hl | hl
    · exfalso
      have h1 : k < (P ++ r).length := by rw [List.length_append]; omega
      refine h.hi h1 ?_
      rw [List.getElem_append_left hl]
      exact hP _ (List.getElem_mem _)
    · exact hl
    · exfalso
      have hle := h.le
      have h1 : P.length < (P ++ r).length := by omega
      have h2 := h.lo P.length hl h1
      rw [List.getElem_append_right (Nat.le_refl _)] at h2
      have h3 := hr _ (List.getElem_mem (by rw [List.length_append] at h1; omega : P.length - P.length < r.length))
      omega
  subst hk
  rw [List.take_left, List.drop_left]
theorem Bm.put_all {B : Bm} (ho : B.ok) {n : Nat} (h1 : B.base ≤ n) (h2 : n < B.base + B.size) (h3 : n ≤ 1152921504606846976) (hs : B.s n = false) {k : Nat} (hk : Spot (B.all true) n k) :
    (B.all true).take k ++ [(n : Int)] ++ (B.all true).drop k = (B.put n).all true := by
  obtain ⟨r, e1, e2, e3⟩ := Bm.put_nums ho h1 h2 h3 hs (B.size - (n - B.base + 1))
  have e : n - B.base + 1 + (B.size - (n - B.base + 1)) = B.size := by omega
  rw [e] at e1 e2
  have a1 : B.all true = B.nums true (n - B.base) ++ r := e1
  have a2 : (B.put n).all true = B.nums true (n - B.base) ++ [(n : Int)] ++ r := e2
  rw [a2]
  rw [a1] at hk ⊢
  refine spot_split (fun y hy => ?_) e3 hk
  have := B.nums_lt true _ y hy
  omega
/-- The base is set: it heads the row. -/
theorem Bm.on_nums {B : Bm} (ho : B.ok) (hs : B.s B.base = true) : ∀ i, B.nums true (i + 1) = (B.base : Int) :: (B.on 1).nums true i
  | 0 => by
    rw [Bm.nums_succ, if_pos]
    · simp [Bm.nums]
    · rw [Bm.cond_true ho]; exact hs
  | i + 1 => by
    rw [Bm.nums_succ, Bm.on_nums ho hs i, Bm.nums_succ]
    have hc : (B.on 1).cond true i = B.cond true (i + 1) := by
      rw [Bm.cond_true (ho.step hs), Bm.cond_true ho]
      show (B.s (B.base + 1 + i) && decide (B.base + 1 ≤ B.base + 1 + i)) = B.s (B.base + (i + 1))
      rw [decide_eq_true (by omega), Bool.and_true, show B.base + 1 + i = B.base + (i + 1) from by omega]
    rw [hc]
    split
    · rw [List.cons_append]
      congr 3
      show ((B.base + (i + 1) : Nat) : Int) = ((B.base + 1 + i : Nat) : Int)
      omega
    · rfl
theorem Bm.on_all {B : Bm} (ho : B.ok) (hs : B.s B.base = true) : B.all true = (B.base : Int) :: (B.on 1).all true := by
  obtain ⟨i, hi⟩ : ∃ i, B.size = i + 1 := ⟨B.size - 1, by have := ho.s1; omega⟩
  show B.nums true B.size = _ :: (B.on 1).nums true B.size
  rw [hi, Bm.on_nums ho hs i, Bm.nums_succ, if_neg]
  rw [Bm.cond_true (ho.step hs)]
  show ¬ (B.s (B.base + 1 + i) && decide (B.base + 1 ≤ B.base + 1 + i)) = true
  rw [ho.s_high (by omega)]
  simp
theorem Bm.not_head {B : Bm} (ho : B.ok) (hs : B.s B.base = false) {h : 0 < (B.all true).length} : (B.all true)[0] ≠ (B.base : Int) := by
  intro he
  have := (B.mem_all ho (B.base : Int)).1 (by rw [← he]; exact List.getElem_mem _)
  rw [Int.toNat_natCast, hs] at this
  exact absurd this.2 (by simp)
end Go.Proofs.Ytopmfpdcdclffaa
