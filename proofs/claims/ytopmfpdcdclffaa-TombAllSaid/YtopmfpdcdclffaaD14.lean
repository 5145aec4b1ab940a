/- Tombs by value: what is closed stays closed; fewer than the span are closed above the floor. -/
import Derived.Test.YtopmfpdcdclffaaD10
set_option linter.unusedSimpArgs false
set_option linter.unusedVariables false
namespace Go.Proofs.Ytopmfpdcdclffaa
open Go.RowKit Go.Shelf
theorem Bm.has_set {B : Bm} {x : Int} (y : Int) (h : B.has x = true) : (B.set y).has x = true := by
  unfold Bm.has at h ⊢
  unfold Bm.set
  split
  · show (decide (0 ≤ x) && (decide (x < (B.base : Int)) || (decide (x.toNat = y.toNat) || B.s x.toNat))) = true
    simp only [Bool.and_eq_true, decide_eq_true_eq, Bool.or_eq_true] at h ⊢
    exact ⟨h.1, by rcases h.2 with h | h; exact .inl h; exact .inr (.inr h)⟩
  · exact h
theorem Bm.has_on {B : Bm} {x : Int} {k : Nat} (h : B.has x = true) : (B.on k).has x = true := by
  unfold Bm.has at h ⊢
  show (decide (0 ≤ x) && (decide (x < ((B.base + k : Nat) : Int)) || (B.s x.toNat && decide (B.base + k ≤ x.toNat)))) = true
  simp only [Bool.and_eq_true, decide_eq_true_eq, Bool.or_eq_true] at h ⊢
  refine ⟨h.1, ?_⟩
  by_cases hx : x < ((B.base + k : Nat) : Int)
  · exact .inl hx
  · rcases h.2 with h2 | h2
    · omega
    · exact .inr ⟨h2, by omega⟩
theorem Bm.tk.close_on {B : Bm} (h : B.tk) (y : Int) : ∃ k, B.close y = (B.tset y).on k := by
  obtain ⟨k, hk⟩ := Bm.runs_ex (B.tset_ok h.ok y)
  exact ⟨k, Bm.close_eq hk⟩
theorem Bm.tk.keeps {B : Bm} (h : B.tk) (y : Int) {x : Int} (hx : B.tclosed x = true) : (B.close y).tclosed x = true := by
  unfold Bm.tclosed at hx ⊢
  simp only [Bool.and_eq_true] at hx ⊢
  refine ⟨hx.1, ?_⟩
  obtain ⟨k, hk⟩ := h.close_on y
  rw [hk]
  refine Bm.has_on ?_
  unfold Bm.tset
  split
  · exact Bm.has_set y hx.2
  · exact hx.2
/-- A number of the span that is closed. -/
theorem Bm.tk.did {B : Bm} (h : B.tk) {y : Nat} (h1 : B.base ≤ y) (h2 : y < B.base + B.size) (h3 : y ≤ 1073741824) : B.terr (y : Int) = 0 ∧ (B.close (y : Int)).tclosed (y : Int) = true := by
  have hb := h.b1
  have hn : isNum (y : Int) = true := decide_eq_true ⟨by omega, by omega⟩
  have hr : B.reach (y : Int) = true := decide_eq_true ⟨by omega, by omega, by omega⟩
  refine ⟨by unfold Bm.terr Bm.err; rw [hn, hr]; rfl, ?_⟩
  unfold Bm.tclosed
  rw [hn, Bool.true_and]
  obtain ⟨k, hk⟩ := h.close_on y
  rw [hk]
  refine Bm.has_on ?_
  unfold Bm.tset
  rw [if_pos hn]
  cases hh : B.has (y : Int) with
  | true => exact Bm.has_set _ hh
  | false =>
    have hf : B.fresh (y : Int) = true := by unfold Bm.fresh; rw [hr, hh]; rfl
    unfold Bm.set
    rw [if_pos hf, Int.toNat_natCast]
    unfold Bm.has
    rw [decide_eq_true (show (0 : Int) ≤ (y : Int) by omega), Int.toNat_natCast]
    show (true && (_ || (decide (y = y) || B.s y))) = true
    simp
theorem Bm.not_may {B : Bm} {x : Int} (h : B.tclosed x = true) : B.tmay x = false := by
  unfold Bm.tclosed at h
  unfold Bm.tmay
  simp only [Bool.and_eq_true] at h
  rw [h.2]
  simp
theorem Bm.tk.few {B : Bm} (h : B.tk) : (B.all true).length < B.size := by
  have hs := h.ok.s1
  have : ∀ i, (B.nums true (i + 1)).length ≤ i := by
    intro i
    induction i with
    | zero =>
      rw [Bm.nums_succ, if_neg]
      · exact Nat.le_refl _
      · rw [Bm.cond_true h.ok]
        show ¬ B.s (B.base + 0) = true
        rw [Nat.add_zero, h.top]; simp
    | succ i ih =>
      rw [Bm.nums_succ]
      split
      · rw [List.length_append, List.length_singleton]; omega
      · omega
  have h2 := this (B.size - 1)
  rw [show B.size - 1 + 1 = B.size from by omega] at h2
  show (B.nums true B.size).length < _
  omega
theorem Bm.tk.at_floor {B : Bm} (h : B.tk) (hb : B.base ≤ 1073741824) : B.tclosed (B.base : Int) = false ∧ B.tmay (B.base : Int) = true := by
  have h1 := h.b1
  have hs := h.ok.s1
  have hh : B.has (B.base : Int) = false := by rw [Bm.has_base]; exact h.top
  refine ⟨by unfold Bm.tclosed; rw [hh, Bool.and_false], ?_⟩
  unfold Bm.tmay
  rw [hh, show isNum (B.base : Int) = true from decide_eq_true ⟨by omega, by omega⟩, decide_eq_true (show (B.base : Int) < (B.base : Int) + B.size by omega)]
  rfl
theorem bytes_at {w : World} {A : Option Addr} {n c : Nat} {xs : List Int} (h : Rd .u8 w A n c xs) (W : World) (hW : Below w.heap.size w W) (i : Nat) (hi : i < n) :
    ∃ (g o x : Nat), A = some ⟨g, o, none⟩ ∧ (∀ W', Below W.heap.size W W' → W'.cell? ⟨g, o + i, none⟩ = some (.int .u8 x)) ∧ x < 256 := by
  obtain ⟨g, o, e, hg, hc⟩ := h.cell hi
  have hil : i < xs.length := by rw [h.1]; exact hi
  have hx := u8_bounds (h.2.2.2.2.1 xs[i] (List.getElem_mem _))
  have e1 : xs.getD i 0 = xs[i] := by rw [List.getD_eq_getElem?_getD, List.getElem?_eq_getElem hil]; rfl
  refine ⟨g, o, xs[i].toNat, e, fun W' hW' => ?_, by omega⟩
  rw [show ((xs[i].toNat : Nat) : Int) = xs[i] from by omega, (hW.trans (hW'.mono hW.size)).cell (p := ⟨g, o + i, none⟩) hg, hc, e1]
end Go.Proofs.Ytopmfpdcdclffaa
