/- Each timer once: by value. -/
import Derived.Test.YtainmpeiicinmaaW20
set_option linter.unusedSimpArgs false
set_option linter.unusedVariables false
set_option linter.unusedSectionVars false
namespace Go.Proofs.Ytainmpeiicinmaa.Wi
open Go.RowKit Go.Shelf
theorem low_filter {l : List (Tm Int)} (hs : Srt l) (d : Int) : low l d = l.filter fun t => decide (t.d ≤ d) := by
  conv => rhs; rw [← low_high l d]
  rw [List.filter_append, List.filter_eq_self.2 (fun t ht => by simpa using low_due l d t ht), List.filter_eq_nil_iff.2 (fun t ht => by have := high_due l d hs t ht; simp; omega), List.append_nil]
theorem low_two : ∀ (l : List (Tm Int)) {N1 N2 : Int}, N1 ≤ N2 → low l N1 ++ low (high l N1) N2 = low l N2 ∧ high (high l N1) N2 = high l N2
  | [], _, _, _ => ⟨rfl, rfl⟩
  | t :: r, N1, N2, h => by
    by_cases h1 : t.d ≤ N1
    · have ih := low_two r h
      unfold low high at ih ⊢
      rw [List.takeWhile_cons, List.dropWhile_cons, if_pos (by simpa using h1), if_pos (by simpa using h1), List.takeWhile_cons, List.dropWhile_cons, if_pos (by simp; omega), if_pos (by simp; omega), List.cons_append, ih.1, ih.2]
      exact ⟨rfl, rfl⟩
    · have e1 : low (t :: r) N1 = [] := by unfold low; rw [List.takeWhile_cons, if_neg (by simpa using h1)]
      have e2 : high (t :: r) N1 = t :: r := by unfold high; rw [List.dropWhile_cons, if_neg (by simpa using h1)]
      rw [e1, e2]
      exact ⟨rfl, rfl⟩
def dOf (us : List Int) (j : Nat) : Int := 1 + us.getD j 0 % 3000
def tOf (us : List Int) (j : Nat) : Tm Int := ⟨(j : Int), dOf us j, (j : Int)⟩
def onc (us : List Int) : Nat → Wm Int
  | 0 => Wm.new 100
  | i + 1 => (onc us i).set (i : Int) (dOf us i)
theorem dOf_in (us : List Int) (j : Nat) : 1 ≤ dOf us j ∧ dOf us j ≤ 3000 := by unfold dOf; omega
structure OncF (us : List Int) (i : Nat) : Prop where
  ok : (onc us i).Ok
  mo : (onc us i).most = 100
  nw : (onc us i).now = 0
  st : (onc us i).sets = i
  pm : (onc us i).l.Perm ((List.range i).map (tOf us))
theorem OncF.len {us : List Int} {i : Nat} (h : OncF us i) : (onc us i).l.length = i := by
  have := h.pm.length_eq
  simpa using this
theorem OncF.free {us : List Int} {i : Nat} (h : OncF us i) (hi : i < 60) : (onc us i).full (i : Int) = false ∧ (i : Int) ∉ (onc us i).l.map Tm.k := by
  have hn : (i : Int) ∉ (onc us i).l.map Tm.k := by
    intro hm
    obtain ⟨t, ht, he⟩ := List.mem_map.1 hm
    obtain ⟨j, hj, rfl⟩ := List.mem_map.1 (h.pm.mem_iff.1 ht)
    have := List.mem_range.1 hj
    have he' : (j : Int) = i := he
    omega
  refine ⟨?_, hn⟩
  unfold Wm.full
  rw [h.len, h.mo, decide_eq_false (by omega), Bool.and_false]
theorem onc_set {us : List Int} {i : Nat} (h : OncF us i) (hi : i < 60) : (onc us i).setE (i : Int) (dOf us i) = 0 ∧ OncF us (i + 1) := by
  obtain ⟨hf, hn⟩ := h.free hi
  obtain ⟨hd1, hd2⟩ := dOf_in us i
  obtain ⟨e1, e2⟩ := Wm.set_yes (m := onc us i) (k := (i : Int)) (n := dOf us i) (by omega) hf
  refine ⟨e1, ?_⟩
  have e3 : onc us (i + 1) = (onc us i).put (i : Int) (dOf us i) := e2
  refine ⟨by rw [e3]; exact Wm.put_ok h.ok hf hd1 (by omega), by rw [e3]; exact h.mo, by rw [e3]; exact h.nw, by rw [e3]; show (onc us i).sets + 1 = _; rw [h.st]; omega, ?_⟩
  rw [e3]
  show (ins (rem (onc us i).l (i : Int)) ⟨(i : Int), (onc us i).now + dOf us i, (onc us i).sets⟩).Perm _
  rw [rem_none hn, h.nw, h.st, Int.zero_add, List.range_succ, List.map_append]
  refine (ins_perm _ _).trans ((h.pm.cons _).trans ?_)
  exact (List.perm_append_singleton _ _).symm
theorem onc_f (us : List Int) : ∀ i, i ≤ 60 → OncF us i
  | 0, _ => ⟨Wm.new_ok (by decide), rfl, rfl, rfl, List.Perm.refl _⟩
  | i + 1, h => (onc_set (onc_f us i (by omega)) (by omega)).2
/-- How many are due by N. -/
def cnt (us : List Int) (N : Int) (i : Nat) : Nat := (List.range i).countP fun j => decide (dOf us j ≤ N)
theorem cnt_le (us : List Int) (N : Int) (i : Nat) : cnt us N i ≤ i := by
  have := List.countP_le_length (p := fun j => decide (dOf us j ≤ N)) (l := List.range i)
  rwa [List.length_range] at this
theorem cnt_succ (us : List Int) (N : Int) (i : Nat) : cnt us N (i + 1) = cnt us N i + if dOf us i ≤ N then 1 else 0 := by
  unfold cnt
  rw [List.range_succ, List.countP_append, List.countP_singleton]
  simp
/-- What is told by N. -/
def tld (us : List Int) (L : Nat) (N : Int) : List Int := (low (onc us L).l N).map Tm.k
theorem tld_len {us : List Int} {L : Nat} (hL : L ≤ 60) (N : Int) : (tld us L N).length = cnt us N L := by
  have h := onc_f us L hL
  unfold tld cnt
  rw [List.length_map, low_filter h.ok.so, ← List.countP_eq_length_filter, h.pm.countP_eq, List.countP_map]
  rfl
theorem tld_at {us : List Int} {L : Nat} (hL : L ≤ 60) (N : Int) {i : Nat} (hi : i < (tld us L N).length) : ∃ j : Nat, j < L ∧ (tld us L N)[i] = (j : Int) ∧ dOf us j ≤ N ∧ (low (onc us L).l N)[i]'(by simpa [tld] using hi) = tOf us j := by
  have h := onc_f us L hL
  have hi' : i < (low (onc us L).l N).length := by simpa [tld] using hi
  have hm := List.getElem_mem hi'
  have hm2 : (low (onc us L).l N)[i] ∈ (onc us L).l := (List.takeWhile_sublist _).subset hm
  obtain ⟨j, hj, he⟩ := List.mem_map.1 (h.pm.mem_iff.1 hm2)
  have hd := low_due _ N _ hm
  rw [← he] at hd
  refine ⟨j, List.mem_range.1 hj, ?_, hd, he.symm⟩
  have h0 : (tld us L N)[i] = ((low (onc us L).l N)[i]).k := by simp [tld]
  rw [h0, ← he]
  rfl
theorem tld_up {us : List Int} {L : Nat} (hL : L ≤ 60) (N : Int) {i j j' : Nat} (hi : i + 1 < (tld us L N).length) (h1 : (low (onc us L).l N)[i]'(by simp [tld] at hi; omega) = tOf us j) (h2 : (low (onc us L).l N)[i + 1]'(by simpa [tld] using hi) = tOf us j') : dOf us j ≤ dOf us j' := by
  have h := onc_f us L hL
  have hs : (low (onc us L).l N).Pairwise fun a b => a.d ≤ b.d := List.Pairwise.sublist (List.takeWhile_sublist _) h.ok.so
  have hp := List.pairwise_iff_getElem.1 hs i (i + 1) (by simp [tld] at hi; omega) (by simpa [tld] using hi) (by omega)
  rw [h1, h2] at hp
  exact hp
theorem once_row {us : List Int} {L : Nat} (hL : L ≤ 60) {n m : Int} (hn : 0 ≤ n) (hn1 : n ≤ 2000) (hm : 0 ≤ m) (hm1 : m ≤ 2000) :
    (onc us L).due n ++ ((onc us L).skip n).due m = tld us L (n + m) ∧ (onc us L).due (n + m) = tld us L (n + m) ∧ (((onc us L).skip n).skip m).now = n + m ∧ ((((onc us L).skip n).skip m).l.length : Int) = (L : Int) - cnt us (n + m) L ∧ (onc us L).now ≤ 1000000000 ∧ ((onc us L).skip n).now ≤ 1000000000 := by
  have h := onc_f us L hL
  have c1 : clampN n = n := by unfold clampN; rw [if_neg (by omega), if_pos (by omega)]
  have c2 : clampN m = m := by unfold clampN; rw [if_neg (by omega), if_pos (by omega)]
  have c3 : clampN (n + m) = n + m := by unfold clampN; rw [if_neg (by omega), if_pos (by omega)]
  obtain ⟨t1, t2⟩ := low_two (onc us L).l (N1 := n) (N2 := n + m) (by omega)
  have hlen := congrArg List.length (low_high (onc us L).l (n + m))
  rw [List.length_append, h.len] at hlen
  have hcl := tld_len (us := us) hL (n + m)
  unfold tld at hcl
  rw [List.length_map] at hcl
  refine ⟨?_, ?_, ?_, ?_, by rw [h.nw]; decide, ?_⟩
  · unfold Wm.due tld Wm.skip
    simp only [c1, c2, h.nw, Int.zero_add]
    rw [← List.map_append, t1]
  · unfold Wm.due tld
    rw [c3, h.nw, Int.zero_add]
  · unfold Wm.skip
    simp only [c1, c2, h.nw, Int.zero_add]
  · unfold Wm.skip
    simp only [c1, c2, h.nw, Int.zero_add]
    rw [t2]
    omega
  · unfold Wm.skip
    simp only [c1, h.nw, Int.zero_add]
    omega
end Go.Proofs.Ytainmpeiicinmaa.Wi
