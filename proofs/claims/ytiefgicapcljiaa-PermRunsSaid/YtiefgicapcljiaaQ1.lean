/- Paths: which rows of numbers are paths, in what order they rise; a list of paths, and what each call makes of it. -/
import Derived.Test.YtiefgicapcljiaaShint
import Derived.Test.YtiefgicapcljiaaP5
set_option linter.unusedSimpArgs false
set_option linter.unusedVariables false
namespace Go.Proofs.Ytiefgicapcljiaa
open Go.RowKit Go.Shelf

def okP (l : List Int) : Prop := (∀ p ∈ l, 0 ≤ p ∧ p < 8) ∧ l.Nodup
instance (l : List Int) : Decidable (okP l) := by unfold okP; exact inferInstance
def valP (l : List Int) : Bool := decide (okP l ∧ l ≠ [])
def memB (l : List Int) : List Bool := (List.range 8).map fun p : Nat => decide ((p : Int) ∈ l)
theorem memB_len (l : List Int) : (memB l).length = 8 := by simp [memB]
theorem memB_get (l : List Int) {p : Nat} (hp : p < 8) : (memB l)[p]? = some (decide ((p : Int) ∈ l)) := by
  simp [memB, hp]
/-- The first k paths that are in it. -/
def riseN (bs : List Bool) (k : Nat) : List Int := ((List.range k).filter fun p => bs.getD p false).map fun p : Nat => (p : Int)
theorem riseN_succ (bs : List Bool) (k : Nat) : riseN bs (k + 1) = if bs.getD k false then riseN bs k ++ [(k : Int)] else riseN bs k := by
  unfold riseN
  rw [List.range_succ, List.filter_append, List.map_append]
  by_cases h : bs.getD k false = true
  · rw [if_pos h, List.filter_cons_of_pos (p := fun p => bs.getD p false) h, List.filter_nil]; rfl
  · rw [if_neg h, List.filter_cons_of_neg (p := fun p => bs.getD p false) h, List.filter_nil]; simp
theorem riseN_len (bs : List Bool) (k : Nat) : (riseN bs k).length ≤ k := by
  unfold riseN
  rw [List.length_map]
  exact Nat.le_trans (List.length_filter_le _ _) (by simp)
def riseL (l : List Int) : List Int := riseN (memB l) 8
theorem mem_riseN (bs : List Bool) (k : Nat) (x : Int) : x ∈ riseN bs k ↔ ∃ p : Nat, p < k ∧ bs.getD p false = true ∧ x = p := by
  unfold riseN
  constructor
  · intro h
    obtain ⟨p, hp, rfl⟩ := List.mem_map.1 h
    rw [List.mem_filter] at hp
    exact ⟨p, by simpa using hp.1, by simpa using hp.2, rfl⟩
  · rintro ⟨p, h1, h2, rfl⟩
    exact List.mem_map.2 ⟨p, List.mem_filter.2 ⟨by simpa using h1, by simpa using h2⟩, rfl⟩
theorem memB_getD (l : List Int) {p : Nat} (hp : p < 8) : (memB l).getD p false = decide ((p : Int) ∈ l) := by
  rw [List.getD_eq_getElem?_getD, memB_get l hp]; rfl
theorem mem_riseL (l : List Int) (x : Int) : x ∈ riseL l ↔ x ∈ l ∧ 0 ≤ x ∧ x < 8 := by
  unfold riseL
  rw [mem_riseN]
  constructor
  · rintro ⟨p, h1, h2, rfl⟩
    rw [memB_getD l h1] at h2
    exact ⟨by simpa using h2, by omega, by omega⟩
  · rintro ⟨h1, h2, h3⟩
    obtain ⟨p, rfl⟩ := Int.eq_ofNat_of_zero_le h2
    exact ⟨p, by omega, by rw [memB_getD l (by omega)]; simpa using h1, rfl⟩
theorem nodup_riseN (bs : List Bool) (k : Nat) : (riseN bs k).Nodup := by
  unfold riseN
  exact List.Pairwise.map (S := fun a b : Int => a ≠ b) _ (fun a b h e => h (by omega)) (List.Pairwise.filter _ List.nodup_range)
theorem nodup_riseL (l : List Int) : (riseL l).Nodup := nodup_riseN _ _
theorem perm_of_nodup {a b : List Int} (ha : a.Nodup) (hb : b.Nodup) (h : ∀ x, x ∈ a ↔ x ∈ b) : a.Perm b := by
  rw [List.perm_iff_count]
  intro x
  by_cases hx : x ∈ a
  · rw [Nat.le_antisymm (List.nodup_iff_count.1 ha x) (List.one_le_count_iff.2 hx), Nat.le_antisymm (List.nodup_iff_count.1 hb x) (List.one_le_count_iff.2 ((h x).1 hx))]
  · rw [List.count_eq_zero_of_not_mem hx, List.count_eq_zero_of_not_mem (fun h' => hx ((h x).2 h'))]
theorem riseL_perm {l : List Int} (h : okP l) : (riseL l).Perm l := by
  refine perm_of_nodup (nodup_riseL l) h.2 fun x => ?_
  rw [mem_riseL]
  exact ⟨fun h => h.1, fun hx => ⟨hx, h.1 x hx⟩⟩
theorem memB_riseL (l : List Int) : memB (riseL l) = memB l := by
  unfold memB
  refine List.map_congr_left fun p hp => ?_
  have : p < 8 := by simpa using hp
  congr 1
  rw [mem_riseL]
  exact propext ⟨fun h => h.1, fun h => ⟨h, by omega, by omega⟩⟩
theorem riseL_inj {l l' : List Int} : riseL l = riseL l' ↔ memB l = memB l' := by
  constructor
  · intro h
    rw [← memB_riseL l, h, memB_riseL]
  · intro h
    unfold riseL
    rw [h]
theorem count_one_of {l : List Int} (h : ∀ p : Nat, p < 8 → l.count (p : Int) ≤ 1) : (riseL l).length = l.length ↔ okP l := by
  have h1 : (l.filter fun x => decide (0 ≤ x ∧ x < 8)).Nodup := by
    rw [List.nodup_iff_count]
    intro x
    by_cases hx : 0 ≤ x ∧ x < 8
    · obtain ⟨p, rfl⟩ := Int.eq_ofNat_of_zero_le hx.1
      rw [List.count_filter (by simpa using hx)]
      exact h p (by omega)
    · rw [List.count_eq_zero_of_not_mem]
      · omega
      · intro hm
        have := (List.mem_filter.1 hm).2
        exact hx (by simpa using this)
  have h2 : (riseL l).Perm (l.filter fun x => decide (0 ≤ x ∧ x < 8)) := by
    refine perm_of_nodup (nodup_riseL l) h1 fun x => ?_
    rw [mem_riseL, List.mem_filter]
    simp
  rw [h2.length_eq, List.length_filter_eq_length_iff]
  constructor
  · intro ha
    have he : (l.filter fun x => decide (0 ≤ x ∧ x < 8)) = l := List.filter_eq_self.2 ha
    rw [he] at h1
    exact ⟨fun p hp => by simpa using ha p hp, h1⟩
  · intro ho x hx
    simpa using ho.1 x hx
theorem not_ok_of_count {l : List Int} {p : Int} (h : 1 < l.count p) : ¬ okP l := fun ho => by
  have := (List.nodup_iff_count.1 ho.2) p
  omega
theorem okP_nil : okP [] := ⟨by simp, List.nodup_nil⟩
theorem okP_snoc {l : List Int} (h : okP l) {x : Int} (h0 : 0 ≤ x) (h8 : x < 8) (hx : x ∉ l) : okP (l ++ [x]) := by
  refine ⟨fun p hp => ?_, ?_⟩
  · rcases List.mem_append.1 hp with h' | h'
    · exact h.1 p h'
    · obtain rfl : p = x := by simpa using h'
      exact ⟨h0, h8⟩
  · rw [List.nodup_append]
    refine ⟨h.2, by simp, fun a ha b hb e => ?_⟩
    obtain rfl : b = x := by simpa using hb
    exact hx (e ▸ ha)
theorem not_okP_snoc {l r : List Int} {x : Int} (h : x < 0 ∨ 8 ≤ x ∨ x ∈ l) : ¬ okP (l ++ x :: r) := fun ho => by
  rcases h with h | h | h
  · have := ho.1 x (by simp); omega
  · have := ho.1 x (by simp); omega
  · have := ho.2
    rw [List.nodup_append] at this
    exact this.2.2 x h x (by simp) rfl
theorem memB_snoc (l : List Int) (k : Nat) : memB (l ++ [(k : Int)]) = (memB l).set k true := by
  apply List.ext_getElem?
  intro i
  by_cases hi : i < 8
  · rw [memB_get _ hi, List.getElem?_set]
    by_cases hk : k = i
    · subst hk
      simp [memB_len, hi]
    · rw [if_neg hk, memB_get _ hi]
      have : ((i : Int) = (k : Int)) = False := by simp; omega
      simp [this]
  · rw [List.getElem?_eq_none (by rw [memB_len]; omega), List.getElem?_eq_none (by rw [List.length_set, memB_len]; omega)]
theorem memB_nil : memB [] = List.replicate 8 false := by decide +kernel
/-! ### Shuffled -/
def swapI (xs : List Int) (k j : Nat) : List Int := (xs.set k (xs.getD j 0)).set j (xs.getD k 0)
def stepI (s i : Int) (n : Nat) (xs : List Int) : Nat → List Int
  | 0 => xs
  | m + 1 => swapI (stepI s i n xs m) (n - 1 - m) (belV s (i + m) ((n : Int) - m)).toNat
def shufI (s i : Int) (xs : List Int) : List Int := stepI s i xs.length xs (xs.length - 1)
theorem stepI_len (s i : Int) (n : Nat) (xs : List Int) (m : Nat) : (stepI s i n xs m).length = xs.length := by
  induction m with
  | zero => rfl
  | succ m ih => rw [stepI, swapI, List.length_set, List.length_set, ih]
theorem shufI_len (s i : Int) (xs : List Int) : (shufI s i xs).length = xs.length := stepI_len _ _ _ _ _
theorem swapV_int (xs : List Int) {k j : Nat} (hk : k < xs.length) (hj : j < xs.length) : swapV (xs.map (.int .i64)) k j = (swapI xs k j).map (.int .i64) := by
  unfold swapV swapI
  rw [List.map_set, List.map_set]
  simp [List.getD_eq_getElem?_getD, hk, hj]
theorem stepV_int (s i : Int) (xs : List Int) (m : Nat) (hm : m < xs.length) : stepV s i xs.length (xs.map (.int .i64)) m = (stepI s i xs.length xs m).map (.int .i64) := by
  induction m with
  | zero => rfl
  | succ m ih =>
    rw [stepV, stepI, ih (by omega)]
    have hb := belV_bounds s (i + m) ((xs.length : Int) - m) (by omega)
    exact swapV_int _ (by rw [stepI_len]; omega) (by rw [stepI_len]; omega)
theorem shufV_int (s i : Int) (xs : List Int) : shufV s i (xs.map (.int .i64)) = (shufI s i xs).map (.int .i64) := by
  unfold shufV shufI
  rw [List.length_map]
  cases h : xs.length with
  | zero => simp [stepV, stepI]
  | succ n => rw [← h]; exact stepV_int s i xs _ (by omega)
theorem map_int_inj : ∀ {a b : List Int}, a.map (Value.int .i64) = b.map (Value.int .i64) → a = b
  | [], [], _ => rfl
  | [], _ :: _, h => by simp at h
  | _ :: _, [], h => by simp at h
  | x :: a, y :: b, h => by
    simp only [List.map_cons, List.cons.injEq, Value.int.injEq] at h
    rw [h.1.2, map_int_inj h.2]
theorem shufI_perm (s i : Int) (xs : List Int) : (shufI s i xs).Perm xs := by
  have h := shufV_perm s i (xs.map (.int .i64))
  rw [shufV_int] at h
  have h2 := h.map (fun v : Value => match v with | .int _ x => x | _ => 0)
  simpa [List.map_map, Function.comp_def] using h2
/-! ### A list of paths -/
structure PL where
  s : Int
  i : Int
  ps : List Int
  rest : List Int
  rounds : Int
  told : List Int
def PL.begin (L : PL) : PL := { L with i := L.i + (L.ps.length - 1 : Nat), rest := shufI L.s L.i L.ps, rounds := L.rounds + 1 }
def PL.new (s : Int) (l : List Int) : PL := PL.begin { s := s, i := 0, ps := riseL l, rest := [], rounds := 0, told := List.replicate 8 0 }
/-- The next path. -/
def PL.top (L : PL) : Int := L.rest.headD 0
def PL.step (L : PL) : PL := { L with rest := L.rest.tail, told := L.told.set L.top.toNat (L.told.getD L.top.toNat 0 + 1) }
def PL.next (L : PL) : PL := if L.rest.length = 1 then L.step.begin else L.step
def PL.renew (L : PL) (l : List Int) : PL := if valP l = true ∧ memB l ≠ memB L.ps then PL.begin { L with ps := riseL l } else L
/-- What holds of every list, behind at most b calls. -/
structure PL.ok (L : PL) (b : Int) : Prop where
  i0 : 0 ≤ L.i
  i1 : L.i ≤ 7 * b
  p1 : L.ps = riseL L.ps
  p2 : L.ps ≠ []
  r1 : L.rest ≠ []
  r2 : ∀ x ∈ L.rest, x ∈ L.ps
  r3 : L.rest.Nodup
  n0 : 0 ≤ L.rounds
  n1 : L.rounds ≤ b
  t1 : L.told.length = 8
  t2 : ∀ x ∈ L.told, 0 ≤ x ∧ x ≤ b
theorem ps_bounds {L : PL} (h : L.ps = riseL L.ps) : ∀ x ∈ L.ps, 0 ≤ x ∧ x < 8 := fun x hx => by
  rw [h, mem_riseL] at hx
  exact hx.2
theorem ps_len {L : PL} (h : L.ps = riseL L.ps) : L.ps.length ≤ 8 := by
  rw [h]; exact riseN_len _ _
theorem riseL_idem (l : List Int) : riseL (riseL l) = riseL l := by
  rw [riseL_inj, memB_riseL]
end Go.Proofs.Ytiefgicapcljiaa
