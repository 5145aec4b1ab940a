/- Tombs by value: what each call makes of one. -/
import Derived.Test.YtopmfpdcdclffaaB8
set_option linter.unusedSimpArgs false
set_option linter.unusedVariables false
namespace Go.Proofs.Ytopmfpdcdclffaa
open Go.RowKit Go.Shelf
/-- A number that a connection may have. -/
def isNum (x : Int) : Bool := decide (1 ≤ x ∧ x ≤ 1073741824)
/-- A tomb's record between two calls. -/
structure Bm.tk (B : Bm) : Prop where
  ok : B.ok
  b1 : 1 ≤ B.base
  top : B.s B.base = false
def Bm.terr (B : Bm) (x : Int) : Int := if isNum x = true then B.err x else 5
def Bm.tfresh (B : Bm) (x : Int) : Bool := isNum x && B.fresh x
def Bm.tclosed (B : Bm) (x : Int) : Bool := isNum x && B.has x
def Bm.tmay (B : Bm) (x : Int) : Bool := isNum x && decide (x < (B.base : Int) + B.size) && !B.has x
def Bm.tset (B : Bm) (x : Int) : Bm := if isNum x = true then B.set x else B
open Classical in
/-- The base goes on as far as it can. -/
noncomputable def Bm.adv (B : Bm) : Bm := if h : ∃ k, B.runs k then B.on (Classical.choose h) else B
noncomputable def Bm.close (B : Bm) (x : Int) : Bm := (B.tset x).adv
theorem Bm.adv_eq {B : Bm} {k : Nat} (h : B.runs k) : B.adv = B.on k := by
  unfold Bm.adv
  have hx : ∃ k, B.runs k := ⟨k, h⟩
  rw [dif_pos hx, Bm.runs_one (Classical.choose_spec hx) h]
theorem Bm.runs_ex {B : Bm} (ho : B.ok) : ∃ k, B.runs k := by
  by_cases hx : ∃ k, B.runs k
  · exact hx
  · exfalso
    have hall : ∀ n j, j < n → B.s (B.base + j) = true := by
      intro n
      induction n with
      | zero => intro j hj; omega
      | succ n ih =>
        intro j hj
        rcases (by omega : j < n ∨ j = n) with h | rfl
        · exact ih j h
        · cases hs : B.s (B.base + j) with
          | true => rfl
          | false => exact absurd ⟨j, ih, hs⟩ hx
    have := B.runs_le ho (hall 257)
    omega
theorem Bm.runs_size {B : Bm} (ho : B.ok) {k : Nat} (h : B.runs k) : k ≤ B.size := by
  rcases Nat.eq_zero_or_pos k with h0 | h0
  · omega
  · have := ho.win _ (h.yes (k - 1) (by omega))
    omega
theorem Bm.tset_ok {B : Bm} (ho : B.ok) (x : Int) : (B.tset x).ok := by
  unfold Bm.tset
  split
  · exact ho.set x
  · exact ho
theorem Bm.set_base (B : Bm) (x : Int) : (B.set x).base = B.base ∧ (B.set x).size = B.size := by
  unfold Bm.set
  split <;> exact ⟨rfl, rfl⟩
theorem Bm.tset_base (B : Bm) (x : Int) : (B.tset x).base = B.base ∧ (B.tset x).size = B.size := by
  unfold Bm.tset
  split
  · exact B.set_base x
  · exact ⟨rfl, rfl⟩
theorem Bm.close_eq {B : Bm} {x : Int} {k : Nat} (h : (B.tset x).runs k) : B.close x = (B.tset x).on k := Bm.adv_eq h
theorem Bm.tk.close {B : Bm} (h : B.tk) (x : Int) : (B.close x).tk ∧ (B.close x).base ≤ B.base + B.size ∧ B.base ≤ (B.close x).base ∧ (B.close x).size = B.size := by
  have ho := B.tset_ok h.ok x
  obtain ⟨k, hk⟩ := Bm.runs_ex ho
  rw [Bm.close_eq hk]
  have hb := B.tset_base x
  have h1 := h.b1
  refine ⟨⟨ho.on hk.yes, ?_, ?_⟩, ?_, ?_, hb.2⟩
  · show 1 ≤ (B.tset x).base + k
    omega
  · show ((B.tset x).s ((B.tset x).base + k) && decide ((B.tset x).base + k ≤ (B.tset x).base + k)) = false
    rw [hk.no]; rfl
  · show (B.tset x).base + k ≤ _
    have := Bm.runs_size ho hk
    omega
  · show _ ≤ (B.tset x).base + k
    omega
/-- Nothing goes on where nothing is set. -/
theorem Bm.tk.still {B : Bm} (h : B.tk) : B.runs 0 := ⟨fun j hj => by omega, h.top⟩
theorem Bm.tk.stays {B : Bm} (h : B.tk) {x : Int} (hx : B.tset x = B) : B.close x = B := by
  have hr : (B.tset x).runs 0 := by rw [hx]; exact h.still
  rw [Bm.close_eq hr, hx, Bm.on_zero h.ok]
theorem Bm.tset_old {B : Bm} {x : Int} (h : B.tfresh x = false) : B.tset x = B := by
  unfold Bm.tset Bm.set
  unfold Bm.tfresh at h
  cases hn : isNum x with
  | false => rfl
  | true => rw [hn] at h; simp at h; simp [h]
theorem Bm.new_tk {n : Nat} (h1 : 1 ≤ n) (h2 : n ≤ 256) : (Bm.new n 1).tk := ⟨Bm.new_ok h1 h2 (by decide), Nat.le_refl _, rfl⟩
theorem Bm.has_lt {B : Bm} (ho : B.ok) {x : Int} (h : B.has x = true) : 0 ≤ x ∧ x < B.base + B.size := by
  unfold Bm.has at h
  simp only [Bool.and_eq_true, decide_eq_true_eq, Bool.or_eq_true] at h
  obtain ⟨h1, h2 | h2⟩ := h
  · have := ho.s1; omega
  · have := ho.win _ h2; omega
theorem Bm.tclosed_eq {B : Bm} (h : B.tk) (hb : B.base + B.size ≤ 1073741825) (x : Int) : B.tclosed x = (decide (1 ≤ x) && B.has x) := by
  unfold Bm.tclosed isNum
  cases hh : B.has x with
  | false => simp
  | true =>
    have := Bm.has_lt h.ok hh
    rw [Bool.and_true, Bool.and_true]
    by_cases h1 : 1 ≤ x
    · rw [decide_eq_true h1, decide_eq_true (by omega)]
    · rw [decide_eq_false h1, decide_eq_false (by omega)]
theorem Bm.tmay_eq {B : Bm} (h : B.tk) (x : Int) : B.tmay x = (decide ((B.base : Int) ≤ x) && decide (x < (B.base : Int) + B.size) && decide (x ≤ 1073741824) && !decide (x ∈ B.all true)) := by
  have h1 := h.b1
  unfold Bm.tmay isNum
  rw [Bm.has_mem h.ok]
  by_cases ha : (B.base : Int) ≤ x
  · rw [decide_eq_true ha, decide_eq_true (show 0 ≤ x by omega), decide_eq_false (show ¬ x < (B.base : Int) by omega)]
    by_cases hb : x ≤ 1073741824
    · rw [decide_eq_true hb, decide_eq_true (show 1 ≤ x ∧ x ≤ 1073741824 by omega)]
      simp
    · rw [decide_eq_false hb, decide_eq_false (show ¬ (1 ≤ x ∧ x ≤ 1073741824) by omega)]
      simp
  · rw [decide_eq_false ha, decide_eq_true (show x < (B.base : Int) by omega)]
    by_cases hb : 0 ≤ x
    · rw [decide_eq_true hb]; simp
    · rw [decide_eq_false (show ¬ (1 ≤ x ∧ x ≤ 1073741824) by omega)]; simp
/-- The numbers that may be new. -/
def Bm.opens (B : Bm) (most : Int) : List Int := (B.all false).take most.toNat
theorem Bm.opens_num {B : Bm} (h : B.tk) (hb : B.base + B.size ≤ 1073741825) {most : Int} : ∀ x ∈ B.opens most, isNum x = true := by
  intro x hx
  have hx2 := List.mem_of_mem_take hx
  unfold Bm.all Bm.nums at hx2
  simp only [List.mem_map, List.mem_filter, List.mem_range] at hx2
  obtain ⟨j, ⟨h1, _⟩, rfl⟩ := hx2
  have := h.b1
  unfold isNum
  exact decide_eq_true (by omega)
end Go.Proofs.Ytopmfpdcdclffaa
