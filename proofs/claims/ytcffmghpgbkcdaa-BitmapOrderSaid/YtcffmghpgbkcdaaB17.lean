/- Bitmaps of a window that began at zero, by what came; the same whatever the order. -/
import Derived.Test.YtcffmghpgbkcdaaB15
import Derived.Test.YtcffmghpgbkcdaaB11
set_option linter.unusedSimpArgs false
set_option linter.unusedVariables false
namespace Go.Proofs.Ytcffmghpgbkcdaa
open Go.RowKit Go.Shelf
/-- What came to a bitmap that began at zero. -/
structure Rep (B : Bm) (xs : List Nat) : Prop where
  ok : B.ok
  sz : B.size = 256
  has : ∀ n, (decide (n < B.base) || B.s n) = decide (n ∈ xs)
theorem Rep.new : Rep (Bm.new 256 0) [] := ⟨Bm.new_ok (by decide) (by decide) (by decide), rfl, fun n => by simp [Bm.new]⟩
theorem Rep.reach {B : Bm} {xs : List Nat} (h : Rep B xs) {x : Nat} (hx : x < 256) : B.reach (x : Int) = true := by
  have := h.sz
  unfold Bm.reach
  exact decide_eq_true ⟨by omega, by omega, by omega⟩
theorem Rep.has_int {B : Bm} {xs : List Nat} (h : Rep B xs) (x : Nat) : B.has (x : Int) = decide (x ∈ xs) := by
  have := h.has x
  unfold Bm.has
  rw [decide_eq_true (show (0 : Int) ≤ (x : Int) by omega), Int.toNat_natCast, Bool.true_and, ← this]
  congr 1
  exact decide_eq_decide.2 (by omega)
theorem Rep.fresh {B : Bm} {xs : List Nat} (h : Rep B xs) {x : Nat} (hx : x < 256) : B.fresh (x : Int) = !decide (x ∈ xs) := by
  unfold Bm.fresh
  rw [h.reach hx, h.has_int, Bool.true_and]
theorem Rep.err {B : Bm} {xs : List Nat} (h : Rep B xs) {x : Nat} (hx : x < 256) : B.err (x : Int) = 0 := by
  unfold Bm.err
  rw [if_pos (h.reach hx)]
theorem Rep.set {B : Bm} {xs : List Nat} (h : Rep B xs) {x : Nat} (hx : x < 256) : Rep (B.set (x : Int)) (x :: xs) := by
  have hf := h.fresh hx
  refine ⟨h.ok.set _, ?_, fun n => ?_⟩
  · unfold Bm.set
    split
    · exact h.sz
    · exact h.sz
  · have hn := h.has n
    unfold Bm.set
    by_cases hm : x ∈ xs
    · rw [if_neg (by rw [hf, decide_eq_true hm]; simp), hn]
      refine decide_eq_decide.2 ⟨fun h => List.mem_cons_of_mem _ h, fun h => ?_⟩
      rcases List.mem_cons.1 h with rfl | h
      · exact hm
      · exact h
    · rw [if_pos (by rw [hf, decide_eq_false hm]; rfl)]
      show (decide (n < B.base) || (decide (n = (x : Int).toNat) || B.s n)) = _
      rw [Int.toNat_natCast, Bool.eq_iff_iff]
      rw [Bool.eq_iff_iff] at hn
      simp only [Bool.or_eq_true, decide_eq_true_eq, List.mem_cons] at hn ⊢
      rw [← hn]
      constructor
      · rintro (h | h | h)
        · exact .inr (.inl h)
        · exact .inl h
        · exact .inr (.inr h)
      · rintro (h | h | h)
        · exact .inr (.inl h)
        · exact .inl h
        · exact .inr (.inr h)
theorem Rep.on {B : Bm} {xs : List Nat} {k : Nat} (h : Rep B xs) (hr : B.runs k) : Rep (B.on k) xs := by
  refine ⟨h.ok.on hr.yes, h.sz, fun n => ?_⟩
  rw [← h.has n]
  show (decide (n < B.base + k) || (B.s n && decide (B.base + k ≤ n))) = _
  by_cases h1 : n < B.base + k
  · rw [decide_eq_true h1, Bool.true_or]
    by_cases h2 : n < B.base
    · rw [decide_eq_true h2, Bool.true_or]
    · have := hr.yes (n - B.base) (by omega)
      rw [show B.base + (n - B.base) = n from by omega] at this
      rw [this, Bool.or_true]
  · rw [decide_eq_false h1, decide_eq_false (show ¬ n < B.base by omega), decide_eq_true (show B.base + k ≤ n by omega), Bool.and_true]
/-- The next number is not there. -/
theorem Bm.runs.stop {B : Bm} {k : Nat} (hr : B.runs k) : (B.on k).s (B.on k).base = false := by
  show (B.s (B.base + k) && _) = false
  rw [hr.no]; rfl
theorem Rep.base_le {A B : Bm} {xs ys : List Nat} (hA : Rep A xs) (hB : Rep B ys) (hxy : ∀ n, n ∈ xs ↔ n ∈ ys) (ha : A.s A.base = false) : B.base ≤ A.base := by
  refine Nat.le_of_not_lt fun hlt => ?_
  have h1 := hB.has A.base
  rw [decide_eq_true hlt, Bool.true_or] at h1
  have h2 := hA.has A.base
  rw [ha, decide_eq_false (Nat.lt_irrefl _)] at h2
  have h3 : A.base ∈ xs := (hxy _).2 (of_decide_eq_true h1.symm)
  rw [decide_eq_true h3] at h2
  cases h2
theorem Rep.one {A B : Bm} {xs ys : List Nat} (hA : Rep A xs) (hB : Rep B ys) (hxy : ∀ n, n ∈ xs ↔ n ∈ ys) (ha : A.s A.base = false) (hb : B.s B.base = false) : A = B := by
  have e1 : A.base = B.base := Nat.le_antisymm (hB.base_le hA (fun n => (hxy n).symm) hb) (hA.base_le hB hxy ha)
  have e2 : A.s = B.s := by
    funext n
    have h1 := hA.has n
    have h2 := hB.has n
    rw [← e1] at h2
    by_cases hn : n < A.base
    · rw [hA.ok.s_high (.inr (.inr hn)), hB.ok.s_high (.inr (.inr (by omega)))]
    · rw [decide_eq_false hn, Bool.false_or] at h1 h2
      rw [h1, h2]
      exact decide_eq_decide.2 (hxy n)
  have e3 : A.size = B.size := hA.sz.trans hB.sz.symm
  cases A; cases B
  simp only at e1 e2 e3
  subst e1 e2 e3
  rfl
theorem Bm.put_len {B : Bm} {n : Nat} (hs : B.s n = false) (h1 : B.base ≤ n) (h3 : n ≤ 1152921504606846976) : ∀ i, ((B.put n).nums true i).length = (B.nums true i).length + (if n < B.base + i then 1 else 0)
  | 0 => by rw [if_neg (by omega)]; rfl
  | i + 1 => by
    have ih := Bm.put_len hs h1 h3 i
    rw [Bm.nums_succ, Bm.nums_succ]
    have hc : (B.put n).cond true i = (decide (B.base + i = n) || B.cond true i) := by
      show ((decide (B.base + i = n) || B.s (B.base + i)) == true && decide (B.base + i ≤ 1152921504606846976)) = _
      unfold Bm.cond
      by_cases he : B.base + i = n
      · rw [decide_eq_true he, decide_eq_true (show B.base + i ≤ 1152921504606846976 by omega)]; rfl
      · rw [decide_eq_false he, Bool.false_or, Bool.false_or]
    rw [hc]
    by_cases he : B.base + i = n
    · have hcf : B.cond true i = false := by
        unfold Bm.cond
        rw [he, hs]; rfl
      rw [decide_eq_true he, Bool.true_or, if_pos rfl, hcf, if_neg (by simp), List.length_append, ih, if_neg (by omega), if_pos (by omega)]
      rfl
    · rw [decide_eq_false he, Bool.false_or]
      by_cases hcc : B.cond true i = true
      · rw [if_pos hcc, if_pos hcc, List.length_append, List.length_append, ih]
        simp only [List.length_singleton]
        by_cases hl : n < B.base + i
        · rw [if_pos hl, if_pos (by omega)]
        · rw [if_neg hl, if_neg (by omega)]
      · rw [if_neg hcc, if_neg hcc, ih]
        by_cases hl : n < B.base + i
        · rw [if_pos hl, if_pos (by omega)]
        · rw [if_neg hl, if_neg (by omega)]
theorem Rep.count {B : Bm} {xs : List Nat} (h : Rep B xs) {x : Nat} (hx : x < 256) : ((B.set (x : Int)).all true).length = (B.all true).length + (if B.fresh (x : Int) = true then 1 else 0) := by
  unfold Bm.set
  by_cases hf : B.fresh (x : Int) = true
  · rw [if_pos hf, if_pos hf]
    obtain ⟨h1, h2, h3, h4, h5⟩ := Bm.fresh_in hf
    have := Bm.put_len h5 h2 h4 B.size
    rw [if_pos h3] at this
    exact this
  · rw [if_neg hf, if_neg hf]; rfl
/-! ### Turned rows -/
/-- The first k of a row, turned, last ones first. -/
def rotN (ns : List Nat) (m t : Nat) : Nat → List Nat
  | 0 => []
  | k + 1 => ns.getD ((k + t) % m) 0 :: rotN ns m t k
theorem rotN_mem (ns : List Nat) (m t : Nat) (x : Nat) : ∀ k, x ∈ rotN ns m t k ↔ ∃ j, j < k ∧ x = ns.getD ((j + t) % m) 0
  | 0 => by simp [rotN]
  | k + 1 => by
    rw [rotN, List.mem_cons, rotN_mem ns m t x k]
    constructor
    · rintro (h | ⟨j, hj, h⟩)
      · exact ⟨k, by omega, h⟩
      · exact ⟨j, by omega, h⟩
    · rintro ⟨j, hj, h⟩
      rcases (by omega : j < k ∨ j = k) with hk | rfl
      · exact .inr ⟨j, hk, h⟩
      · exact .inl h
theorem rot_all (ns : List Nat) {m : Nat} (t x : Nat) : x ∈ rotN ns m t m ↔ x ∈ rotN ns m 0 m := by
  rw [rotN_mem, rotN_mem]
  constructor
  · rintro ⟨j, hj, h⟩
    refine ⟨(j + t) % m, Nat.mod_lt _ (by omega), ?_⟩
    rw [h, Nat.add_zero, Nat.mod_mod]
  · rintro ⟨j, hj, h⟩
    have hm : 0 < m := by omega
    have ht := Nat.mod_lt t hm
    rw [Nat.add_zero, Nat.mod_eq_of_lt hj] at h
    by_cases hjt : t % m ≤ j
    · refine ⟨j - t % m, by omega, ?_⟩
      rw [h, show (j - t % m + t) % m = j from by
        rw [Nat.add_mod, Nat.mod_eq_of_lt (show j - t % m < m by omega), show j - t % m + t % m = j from by omega, Nat.mod_eq_of_lt hj]]
    · refine ⟨j + m - t % m, by omega, ?_⟩
      rw [h, show (j + m - t % m + t) % m = j from by
        rw [Nat.add_mod, Nat.mod_eq_of_lt (show j + m - t % m < m by omega), show j + m - t % m + t % m = j + m from by omega, Nat.add_mod_right, Nat.mod_eq_of_lt hj]]
end Go.Proofs.Ytcffmghpgbkcdaa
