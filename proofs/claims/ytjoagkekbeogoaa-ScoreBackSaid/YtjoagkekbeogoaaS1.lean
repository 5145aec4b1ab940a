/- Scores by value: what each call makes of one. -/
import Derived.Test.YtjoagkekbeogoaaTab
set_option linter.unusedSimpArgs false
set_option linter.unusedVariables false
namespace Go.Proofs.Ytjoagkekbeogoaa
open Go.RowKit Go.Shelf

/-- How paths did: n of them; three counts a path; for how long each rests. -/
structure Sc where
  n : Nat
  rest : Int
  c : Nat → Int
  r : Nat → Int
def Sc.cell (S : Sc) (j : Nat) : Int := if j = 0 then (S.n : Int) else if j = 1 then S.rest else if j < 26 then S.c (j - 2) else S.r (j - 26)
/-- The cells of a score. -/
def Sc.mem (S : Sc) : List Value := tabV 34 S.cell
def Sc.new (n : Nat) (rest : Int) : Sc := ⟨n, rest, fun _ => 0, fun _ => 0⟩
def Sc.cnt (S : Sc) (p k : Nat) : Sc := { S with c := up S.c (p * 3 + k) (S.c (p * 3 + k) + 1) }
def Sc.bad (S : Sc) (p : Nat) : Bool := decide (S.c (p * 3) + 4 < S.c (p * 3 + 1) + 2 * S.c (p * 3 + 2))
/-- The active ones among the first k. -/
def Sc.actN (S : Sc) (k : Nat) : List Int := ((List.range k).filter fun i => decide (S.r i = 0)).map fun i : Nat => (i : Int)
def Sc.act (S : Sc) : List Int := S.actN S.n
def Sc.must (S : Sc) (p : Nat) : Bool := decide (0 < S.rest) && (decide (S.r p = 0) && (S.bad p && decide (1 < S.act.length)))
def Sc.susp (S : Sc) (p : Nat) : Sc := { S with c := fun j => if p * 3 ≤ j ∧ j < p * 3 + 3 then 0 else S.c j, r := up S.r p S.rest }
def Sc.blame (S : Sc) (p k : Nat) : Sc := if (S.cnt p k).must p = true then (S.cnt p k).susp p else S.cnt p k
def Sc.has (S : Sc) (x : Int) : Bool := decide (0 ≤ x ∧ x < S.n)
def Sc.did (S : Sc) (x : Int) (k : Nat) : Sc := if S.has x = true then (if k = 0 then S.cnt x.toNat 0 else S.blame x.toNat k) else S
def Sc.err (S : Sc) (x : Int) : Int := if S.has x = true then 0 else 5
def Sc.restsAt (S : Sc) (x : Int) : Int := if S.has x = true then S.r x.toNat else 0
def Sc.countsAt (S : Sc) (x : Int) : Nat → Int := fun i => if S.has x = true then S.c (x.toNat * 3 + i) else 0
def Sc.tick (S : Sc) : Sc := { S with r := fun i => if 0 < S.r i ∧ i < S.n then S.r i - 1 else S.r i }
def Sc.backN (S : Sc) (k : Nat) : List Int := ((List.range k).filter fun i => decide (S.r i = 1)).map fun i : Nat => (i : Int)
def Sc.back (S : Sc) : List Int := S.backN S.n
def Sc.clear (S : Sc) : Sc := { S with c := fun _ => 0 }

/-! ### Its cells -/
theorem Sc.mem_len (S : Sc) : S.mem.length = 34 := tabV_len _ _
theorem Sc.mem_one (S : Sc) : ∀ v ∈ S.mem, v.oneCell' = true := tabV_one _ _
theorem Sc.mem_n (S : Sc) : S.mem[0]? = some (.int .i64 S.n) := by rw [Sc.mem, tabV_get _ _ (by omega)]; rfl
theorem Sc.mem_rest (S : Sc) : S.mem[1]? = some (.int .i64 S.rest) := by rw [Sc.mem, tabV_get _ _ (by omega)]; rfl
theorem Sc.mem_c (S : Sc) {j : Nat} (h : j < 24) : S.mem[2 + j]? = some (.int .i64 (S.c j)) := by
  rw [Sc.mem, tabV_get _ _ (by omega), Sc.cell, if_neg (by omega), if_neg (by omega), if_pos (by omega)]
  congr 3; omega
theorem Sc.mem_r (S : Sc) {j : Nat} (h : j < 8) : S.mem[26 + j]? = some (.int .i64 (S.r j)) := by
  rw [Sc.mem, tabV_get _ _ (by omega), Sc.cell, if_neg (by omega), if_neg (by omega), if_neg (by omega)]
  congr 3; omega
theorem Sc.mem_cs (S : Sc) {j k : Nat} (h : j + k ≤ 24) : (S.mem.drop (2 + j)).take (tabV k (fun i => S.c (j + i))).length = tabV k (fun i => S.c (j + i)) := by
  refine tabV_row' _ _ _ _ (by omega) fun i hi => ?_
  rw [Sc.cell, if_neg (by omega), if_neg (by omega), if_pos (by omega)]
  congr 1; omega
theorem Sc.mem_rs (S : Sc) : (S.mem.drop 26).take (tabV 8 S.r).length = tabV 8 S.r := by
  refine tabV_row' _ _ _ _ (by omega) fun i hi => ?_
  rw [Sc.cell, if_neg (by omega), if_neg (by omega), if_neg (by omega)]
  congr 1; omega
theorem Sc.mem_set_c (S : Sc) {j : Nat} (h : j < 24) (x : Int) : S.mem.set (2 + j) (.int .i64 x) = Sc.mem { S with c := up S.c j x } := by
  rw [Sc.mem, tabV_set]
  refine tabV_congr fun i hi => ?_
  by_cases hij : i = 2 + j
  · subst hij
    rw [up_at, Sc.cell, if_neg (by omega), if_neg (by omega), if_pos (by omega)]
    rw [show 2 + j - 2 = j from by omega]
    exact (up_at _ _ _).symm
  · rw [up_ne _ _ hij, Sc.cell, Sc.cell]
    by_cases h0 : i = 0
    · rw [if_pos h0, if_pos h0]
    · rw [if_neg h0, if_neg h0]
      by_cases h1 : i = 1
      · rw [if_pos h1, if_pos h1]
      · rw [if_neg h1, if_neg h1]
        by_cases h2 : i < 26
        · rw [if_pos h2, if_pos h2]; exact (up_ne _ _ (by omega)).symm
        · rw [if_neg h2, if_neg h2]
theorem Sc.mem_set_r (S : Sc) {j : Nat} (h : j < 8) (x : Int) : S.mem.set (26 + j) (.int .i64 x) = Sc.mem { S with r := up S.r j x } := by
  rw [Sc.mem, tabV_set]
  refine tabV_congr fun i hi => ?_
  by_cases hij : i = 26 + j
  · subst hij
    rw [up_at, Sc.cell, if_neg (by omega), if_neg (by omega), if_neg (by omega)]
    rw [show 26 + j - 26 = j from by omega]
    exact (up_at _ _ _).symm
  · rw [up_ne _ _ hij, Sc.cell, Sc.cell]
    by_cases h0 : i = 0
    · rw [if_pos h0, if_pos h0]
    · rw [if_neg h0, if_neg h0]
      by_cases h1 : i = 1
      · rw [if_pos h1, if_pos h1]
      · rw [if_neg h1, if_neg h1]
        by_cases h2 : i < 26
        · rw [if_pos h2, if_pos h2]
        · rw [if_neg h2, if_neg h2]; exact (up_ne _ _ (by omega)).symm
theorem Sc.mem_lay_c (S : Sc) {j k : Nat} (h : j + k ≤ 24) : lay S.mem (2 + j) (tabV k (fun _ => 0)) = Sc.mem { S with c := fun i => if j ≤ i ∧ i < j + k then 0 else S.c i } := by
  rw [Sc.mem, tabV_lay _ _ _ _ (by omega)]
  refine tabV_congr fun i hi => ?_
  rw [Sc.cell, Sc.cell]
  by_cases h0 : i = 0
  · rw [if_pos h0, if_pos h0, if_neg (by omega)]
  · rw [if_neg h0, if_neg h0]
    by_cases h1 : i = 1
    · rw [if_pos h1, if_pos h1, if_neg (by omega)]
    · rw [if_neg h1, if_neg h1]
      by_cases h2 : i < 26
      · rw [if_pos h2, if_pos h2]
        by_cases h3 : 2 + j ≤ i ∧ i < 2 + j + k
        · rw [if_pos h3]; exact (if_pos (by omega)).symm
        · rw [if_neg h3]; exact (if_neg (by omega)).symm
      · rw [if_neg h2, if_neg h2, if_neg (by omega)]

/-! ### What holds of every score, behind b calls -/
structure Sc.ok (S : Sc) (b : Int) : Prop where
  n1 : 1 ≤ S.n
  n8 : S.n ≤ 8
  t0 : 0 ≤ S.rest
  t1 : S.rest ≤ 1048576
  b0 : 0 ≤ b
  c0 : ∀ j, 0 ≤ S.c j ∧ S.c j ≤ b
  r0 : ∀ j, 0 ≤ S.r j ∧ S.r j ≤ S.rest
  some : ∃ i, i < S.n ∧ S.r i = 0
theorem Sc.ok.mono {S : Sc} {b b' : Int} (h : S.ok b) (hb : b ≤ b') : S.ok b' :=
  ⟨h.n1, h.n8, h.t0, h.t1, by have := h.b0; omega, fun j => ⟨(h.c0 j).1, by have := (h.c0 j).2; omega⟩, h.r0, h.some⟩
theorem Sc.new_ok {n : Nat} {rest : Int} (h1 : 1 ≤ n) (h8 : n ≤ 8) (h0 : 0 ≤ rest) (hr : rest ≤ 1048576) : (Sc.new n rest).ok 0 :=
  ⟨h1, h8, h0, hr, by omega, fun j => by simp [Sc.new], fun j => by simp [Sc.new]; exact h0, 0, h1, rfl⟩
theorem Sc.ok.cnt {S : Sc} {b : Int} (h : S.ok b) (p k : Nat) : (S.cnt p k).ok (b + 1) := by
  refine ⟨h.n1, h.n8, h.t0, h.t1, by have := h.b0; omega, fun j => ?_, h.r0, h.some⟩
  show 0 ≤ up S.c (p * 3 + k) (S.c (p * 3 + k) + 1) j ∧ up S.c (p * 3 + k) (S.c (p * 3 + k) + 1) j ≤ b + 1
  unfold up
  have h1 := h.c0 j
  split
  · subst j; have := h.c0 (p * 3 + k); omega
  · omega
theorem len_one {l : List Nat} {p : Nat} (hn : l.Nodup) (h : ∀ x ∈ l, x = p) : l.length ≤ 1 := by
  match l, hn, h with
  | [], _, _ => simp
  | [_], _, _ => simp
  | a :: b :: t, hn, h =>
    have h1 := h a (by simp)
    have h2 := h b (by simp)
    rw [h1, h2] at hn
    simp at hn
theorem Sc.act_len (S : Sc) : S.act.length = ((List.range S.n).filter fun i => decide (S.r i = 0)).length := by simp [Sc.act, Sc.actN]
theorem Sc.ok.susp {S : Sc} {b : Int} (h : S.ok b) (p : Nat) (hm : S.must p = true) : (S.susp p).ok b := by
  simp only [Sc.must, Bool.and_eq_true, decide_eq_true_eq] at hm
  refine ⟨h.n1, h.n8, h.t0, h.t1, h.b0, fun j => ?_, fun j => ?_, ?_⟩
  · show 0 ≤ (if p * 3 ≤ j ∧ j < p * 3 + 3 then 0 else S.c j) ∧ (if p * 3 ≤ j ∧ j < p * 3 + 3 then 0 else S.c j) ≤ b
    have := h.c0 j
    have := h.b0
    split <;> omega
  · show 0 ≤ up S.r p S.rest j ∧ up S.r p S.rest j ≤ S.rest
    have := h.r0 j
    have := h.t0
    unfold up
    split <;> omega
  · rcases Classical.em (∃ i, i < S.n ∧ i ≠ p ∧ S.r i = 0) with ⟨i, h1, h2, h3⟩ | hn
    · exact ⟨i, h1, by show up S.r p S.rest i = 0; rw [up_ne _ _ h2]; exact h3⟩
    · have h4 := hm.2.2.2
      rw [Sc.act_len] at h4
      have := len_one (p := p) (List.Pairwise.filter (fun i => decide (S.r i = 0)) (List.nodup_range (n := S.n))) (fun x hx => by
        rw [List.mem_filter] at hx
        rcases Nat.decEq x p with h5 | h5
        · exact absurd ⟨x, by simpa using hx.1, h5, by simpa using hx.2⟩ hn
        · exact h5)
      omega
theorem Sc.ok.blame {S : Sc} {b : Int} (h : S.ok b) (p k : Nat) : (S.blame p k).ok (b + 1) := by
  unfold Sc.blame
  split
  · rename_i hm
    exact (h.cnt p k).susp p hm
  · exact h.cnt p k
theorem Sc.ok.did {S : Sc} {b : Int} (h : S.ok b) (x : Int) (k : Nat) : (S.did x k).ok (b + 1) := by
  unfold Sc.did
  split
  · split
    · exact h.cnt _ _
    · exact h.blame _ _
  · exact h.mono (by omega)
theorem Sc.ok.tick {S : Sc} {b : Int} (h : S.ok b) : S.tick.ok b := by
  obtain ⟨i, hi, h0⟩ := h.some
  refine ⟨h.n1, h.n8, h.t0, h.t1, h.b0, h.c0, fun j => ?_, i, hi, ?_⟩
  · show 0 ≤ (if 0 < S.r j ∧ j < S.n then S.r j - 1 else S.r j) ∧ (if 0 < S.r j ∧ j < S.n then S.r j - 1 else S.r j) ≤ S.rest
    have := h.r0 j
    split <;> omega
  · show (if 0 < S.r i ∧ i < S.n then S.r i - 1 else S.r i) = 0
    rw [if_neg (by omega)]; exact h0
theorem Sc.ok.clear {S : Sc} {b : Int} (h : S.ok b) : S.clear.ok b :=
  ⟨h.n1, h.n8, h.t0, h.t1, h.b0, fun j => ⟨Int.le_refl 0, h.b0⟩, h.r0, h.some⟩
theorem Sc.act_pos {S : Sc} {b : Int} (h : S.ok b) : 1 ≤ S.act.length := by
  obtain ⟨i, hi, h0⟩ := h.some
  rw [Sc.act_len]
  exact List.length_pos_of_mem (List.mem_filter.2 ⟨by simpa using hi, by simpa using h0⟩)
theorem Sc.actN_succ (S : Sc) (k : Nat) : S.actN (k + 1) = if S.r k = 0 then S.actN k ++ [(k : Int)] else S.actN k := by
  unfold Sc.actN
  rw [List.range_succ, List.filter_append, List.map_append]
  by_cases h : S.r k = 0 <;> simp [h]
theorem Sc.actN_len (S : Sc) (k : Nat) : (S.actN k).length ≤ k := by
  unfold Sc.actN
  rw [List.length_map]
  exact Nat.le_trans (List.length_filter_le _ _) (by simp)
theorem Sc.backN_succ (S : Sc) (k : Nat) : S.backN (k + 1) = if S.r k = 1 then S.backN k ++ [(k : Int)] else S.backN k := by
  unfold Sc.backN
  rw [List.range_succ, List.filter_append, List.map_append]
  by_cases h : S.r k = 1 <;> simp [h]
theorem Sc.backN_len (S : Sc) (k : Nat) : (S.backN k).length ≤ k := by
  unfold Sc.backN
  rw [List.length_map]
  exact Nat.le_trans (List.length_filter_le _ _) (by simp)
end Go.Proofs.Ytjoagkekbeogoaa
