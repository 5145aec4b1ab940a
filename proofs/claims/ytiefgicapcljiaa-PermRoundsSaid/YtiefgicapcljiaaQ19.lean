/- Each path once a round: how often each was told. -/
import Derived.Test.YtiefgicapcljiaaQ16
set_option linter.unusedSimpArgs false
set_option linter.unusedVariables false
namespace Go.Proofs.Ytiefgicapcljiaa
open Go.RowKit Go.Shelf
/-- How often a path was told. -/
def cntP (L : PL) (x : Int) : Int := L.told.getD x.toNat 0
/-- Behind j calls of Next: q whole rounds, and what is left of one. -/
structure CI (xs : List Int) (L : PL) (j q : Nat) : Prop where
  cnt : ∀ x ∈ xs, cntP L x = q + if x ∈ L.rest then 0 else 1
  num : j = q * xs.length + (xs.length - L.rest.length)
  sub : ∀ x ∈ L.rest, x ∈ xs
  nod : L.rest.Nodup
  pos : 0 < L.rest.length
  le : L.rest.length ≤ xs.length
  ps : L.ps.Perm xs
theorem new_perm (s : Int) {xs : List Int} (hv : valP xs = true) : (PL.new s xs).rest.Perm xs := (shufI_perm s 0 (riseL xs)).trans (riseL_perm (valP_ok hv).1)
theorem CI.new (s : Int) {xs : List Int} (hv : valP xs = true) : CI xs (PL.new s xs) 0 0 := by
  have hp := new_perm s hv
  refine ⟨fun x hx => ?_, by rw [hp.length_eq]; simp, fun x hx => hp.mem_iff.1 hx, hp.nodup_iff.2 (valP_ok hv).1.2, ?_, Nat.le_of_eq hp.length_eq, riseL_perm (valP_ok hv).1⟩
  · rw [if_pos (hp.mem_iff.2 hx)]
    have hb := (valP_ok hv).1.1 x hx
    show (List.replicate 8 (0 : Int)).getD x.toNat 0 = _
    have h8 : x.toNat < 8 := by omega
    rw [List.getD_eq_getElem?_getD, List.getElem?_replicate, if_pos h8]
    simp
  · rw [hp.length_eq]
    exact List.length_pos_iff.2 (valP_ok hv).2
theorem cnt_step {L : PL} {b : Int} (ho : L.ok b) {x : Int} (hx : 0 ≤ x ∧ x < 8) : (L.told.set L.top.toNat (L.told.getD L.top.toNat 0 + 1)).getD x.toNat 0 = cntP L x + if x = L.top then 1 else 0 := by
  have ht := ho.head_bounds
  have hl := ho.t1
  unfold cntP
  by_cases h : x = L.top
  · rw [if_pos h, ← h, List.getD_eq_getElem?_getD, List.getElem?_set_self (by omega)]
    rfl
  · rw [if_neg h, List.getD_eq_getElem?_getD, List.getElem?_set_ne (by omega), List.getD_eq_getElem?_getD, Int.add_zero]
theorem CI.next {xs : List Int} {L : PL} {j q : Nat} {b : Int} (h : CI xs L j q) (ho : L.ok b) : ∃ q', CI xs L.next (j + 1) q' := by
  obtain ⟨x0, r, hxr⟩ : ∃ x r, L.rest = x :: r := by cases hL : L.rest with | nil => exact absurd hL ho.r1 | cons x r => exact ⟨x, r, rfl⟩
  have htop : L.top = x0 := by unfold PL.top; rw [hxr]; rfl
  obtain ⟨h1, h2, h3, h4, h5, h6, h7⟩ := h
  rw [hxr] at h1 h2 h3 h4 h5 h6
  rw [List.length_cons] at h2 h6
  have hnd := List.nodup_cons.1 h4
  have hxb : ∀ x ∈ xs, 0 ≤ x ∧ x < 8 := fun x hx => ps_bounds ho.p1 x (h7.mem_iff.2 hx)
  unfold PL.next
  split
  · rename_i hr
    rw [hxr, List.length_cons] at hr
    obtain rfl : r = [] := List.eq_nil_of_length_eq_zero (by omega)
    have hsp : (shufI L.s L.i L.ps).Perm xs := (shufI_perm L.s L.i L.ps).trans h7
    refine ⟨q + 1, fun x hx => ?_, ?_, fun x hx => hsp.mem_iff.1 hx, ?_, ?_, Nat.le_of_eq hsp.length_eq, h7⟩
    · have hrest : L.step.begin.rest = shufI L.s L.i L.ps := rfl
      rw [hrest, if_pos (hsp.mem_iff.2 hx)]
      have hc := cnt_step ho (hxb x hx)
      show (L.told.set L.top.toNat (L.told.getD L.top.toNat 0 + 1)).getD x.toNat 0 = _
      rw [hc, h1 x hx, htop]
      by_cases he : x = x0
      · subst he; simp
      · rw [if_neg (by simp [he]), if_neg he]; simp
    · show j + 1 = (q + 1) * xs.length + (xs.length - (shufI L.s L.i L.ps).length)
      rw [hsp.length_eq, Nat.add_mul]
      simp only [List.length_nil, Nat.zero_add] at h2 h6
      omega
    · show (shufI L.s L.i L.ps).Nodup
      exact (shufI_perm L.s L.i L.ps).nodup_iff.2 (by rw [ho.p1]; exact nodup_riseL _)
    · show 0 < (shufI L.s L.i L.ps).length
      rw [shufI_len]
      exact List.length_pos_iff.2 ho.p2
  · rename_i hr
    rw [hxr, List.length_cons] at hr
    have ht : L.step.rest = r := by show L.rest.tail = r; rw [hxr]; rfl
    refine ⟨q, fun x hx => ?_, ?_, fun x hx => ?_, ?_, ?_, ?_, h7⟩
    · rw [ht]
      have hc := cnt_step ho (hxb x hx)
      show (L.told.set L.top.toNat (L.told.getD L.top.toNat 0 + 1)).getD x.toNat 0 = _
      rw [hc, h1 x hx, htop]
      by_cases he : x = x0
      · subst he
        rw [if_pos (by simp), if_pos rfl, if_neg hnd.1]; omega
      · rw [if_neg he]
        by_cases hm : x ∈ r
        · rw [if_pos (by simp [hm]), if_pos hm]; omega
        · rw [if_neg (by simp [hm, he]), if_neg hm]; omega
    · rw [ht]; omega
    · rw [ht] at hx; exact h3 x (by simp [hx])
    · rw [ht]; exact hnd.2
    · rw [ht]; omega
    · rw [ht]; omega
/-! ### Least, greatest, sum -/
def lowF (f : Int → Int) (a : Int) : List Int → Int
  | [] => a
  | x :: l => lowF f (if f x < a then f x else a) l
def highF (f : Int → Int) (a : Int) : List Int → Int
  | [] => a
  | x :: l => highF f (if a < f x then f x else a) l
def sumF (f : Int → Int) (a : Int) : List Int → Int
  | [] => a
  | x :: l => sumF f (a + f x) l
theorem lowF_snoc (f : Int → Int) (l : List Int) (x : Int) : ∀ a, lowF f a (l ++ [x]) = if f x < lowF f a l then f x else lowF f a l := by
  induction l with
  | nil => intro a; rfl
  | cons y l ih => intro a; exact ih _
theorem highF_snoc (f : Int → Int) (l : List Int) (x : Int) : ∀ a, highF f a (l ++ [x]) = if highF f a l < f x then f x else highF f a l := by
  induction l with
  | nil => intro a; rfl
  | cons y l ih => intro a; exact ih _
theorem sumF_snoc (f : Int → Int) (l : List Int) (x : Int) : ∀ a, sumF f a (l ++ [x]) = sumF f a l + f x := by
  induction l with
  | nil => intro a; rfl
  | cons y l ih => intro a; exact ih _
theorem lowF_ge (f : Int → Int) (b : Int) : ∀ (l : List Int) (a : Int), b ≤ a → (∀ x ∈ l, b ≤ f x) → b ≤ lowF f a l
  | [], a, ha, _ => ha
  | x :: l, a, ha, h => lowF_ge f b l _ (by have := h x (by simp); split <;> omega) (fun y hy => h y (by simp [hy]))
theorem lowF_le (f : Int → Int) : ∀ (l : List Int) (a : Int), lowF f a l ≤ a
  | [], a => Int.le_refl a
  | x :: l, a => by
    have h := lowF_le f l (if f x < a then f x else a)
    unfold lowF
    by_cases hc : f x < a
    · rw [if_pos hc] at h ⊢; omega
    · rw [if_neg hc] at h ⊢; omega
theorem lowF_mem (f : Int → Int) : ∀ (l : List Int) (a : Int), ∀ x ∈ l, lowF f a l ≤ f x
  | y :: l, a, x, hx => by
    unfold lowF
    rcases List.mem_cons.1 hx with rfl | hx
    · have h := lowF_le f l (if f x < a then f x else a)
      by_cases hc : f x < a
      · rw [if_pos hc] at h ⊢; omega
      · rw [if_neg hc] at h ⊢; omega
    · exact lowF_mem f l _ x hx
theorem highF_le (f : Int → Int) (b : Int) : ∀ (l : List Int) (a : Int), a ≤ b → (∀ x ∈ l, f x ≤ b) → highF f a l ≤ b
  | [], a, ha, _ => ha
  | x :: l, a, ha, h => highF_le f b l _ (by have := h x (by simp); split <;> omega) (fun y hy => h y (by simp [hy]))
theorem highF_ge (f : Int → Int) : ∀ (l : List Int) (a : Int), a ≤ highF f a l
  | [], a => Int.le_refl a
  | x :: l, a => by
    have h := highF_ge f l (if a < f x then f x else a)
    unfold highF
    by_cases hc : a < f x
    · rw [if_pos hc] at h ⊢; omega
    · rw [if_neg hc] at h ⊢; omega
theorem highF_mem (f : Int → Int) : ∀ (l : List Int) (a : Int), ∀ x ∈ l, f x ≤ highF f a l
  | y :: l, a, x, hx => by
    unfold highF
    rcases List.mem_cons.1 hx with rfl | hx
    · have h := highF_ge f l (if a < f x then f x else a)
      by_cases hc : a < f x
      · rw [if_pos hc] at h ⊢; omega
      · rw [if_neg hc] at h ⊢; omega
    · exact highF_mem f l _ x hx
theorem sumF_bounds (f : Int → Int) (b : Int) : ∀ (l : List Int) (a : Int), (∀ x ∈ l, 0 ≤ f x ∧ f x ≤ b) → a ≤ sumF f a l ∧ sumF f a l ≤ a + b * l.length
  | [], a, _ => ⟨Int.le_refl a, by simp [sumF]⟩
  | x :: l, a, h => by
    have h1 := h x (by simp)
    have := sumF_bounds f b l (a + f x) (fun y hy => h y (by simp [hy]))
    unfold sumF
    rw [List.length_cons, show b * ((l.length + 1 : Nat) : Int) = b * l.length + b by rw [Int.natCast_add, Int.mul_add]; simp]
    omega
theorem sumF_of (f : Int → Int) (q : Int) (R : List Int) : ∀ (l : List Int) (a : Int), (∀ x ∈ l, f x = q + if x ∈ R then 0 else 1) → sumF f a l = a + q * l.length + (l.length - (l.filter fun x => decide (x ∈ R)).length)
  | [], a, _ => by simp [sumF]
  | x :: l, a, h => by
    have h1 := h x (by simp)
    have := sumF_of f q R l (a + f x) (fun y hy => h y (by simp [hy]))
    unfold sumF
    rw [this, h1, List.length_cons, show q * ((l.length + 1 : Nat) : Int) = q * l.length + q by rw [Int.natCast_add, Int.mul_add]; simp]
    by_cases hm : x ∈ R
    · rw [if_pos hm, List.filter_cons_of_pos (by simpa using hm), List.length_cons]; omega
    · rw [if_neg hm, List.filter_cons_of_neg (by simpa using hm)]; omega
/-- What the law asks of the counts. -/
theorem CI.law {xs : List Int} {L : PL} {j q : Nat} (h : CI xs L j q) (hx : xs.Nodup) :
    highF (cntP L) 0 xs - lowF (cntP L) j xs ≤ 1 ∧ sumF (cntP L) 0 xs = j ∧ (j % xs.length = 0 → highF (cntP L) 0 xs = lowF (cntP L) j xs) := by
  obtain ⟨h1, h2, h3, h4, h5, h6, h7⟩ := h
  have hn : 0 < xs.length := by omega
  have hqj : q ≤ j := by
    have : q * 1 ≤ q * xs.length := Nat.mul_le_mul_left _ hn
    omega
  have hr : (xs.filter fun x => decide (x ∈ L.rest)).Perm L.rest := perm_of_nodup (List.Pairwise.filter _ hx) h4 fun x => by
    rw [List.mem_filter]
    simp only [decide_eq_true_eq]
    exact ⟨fun h => h.2, fun h => ⟨h3 x h, h⟩⟩
  have hup : highF (cntP L) 0 xs ≤ q + 1 := highF_le _ _ xs 0 (by omega) (fun x hx => by rw [h1 x hx]; split <;> omega)
  have hlo : (q : Int) ≤ lowF (cntP L) j xs := lowF_ge _ _ xs j (by omega) (fun x hx => by rw [h1 x hx]; split <;> omega)
  refine ⟨by omega, ?_, fun hm => ?_⟩
  · rw [sumF_of (cntP L) q L.rest xs 0 h1, hr.length_eq]
    have : (j : Int) = q * xs.length + (xs.length - L.rest.length : Nat) := by rw [h2]; simp
    rw [this]
    omega
  · have hlen : L.rest.length = xs.length := by
      rw [h2, Nat.mul_comm q, Nat.mul_add_mod, Nat.mod_eq_of_lt (by omega)] at hm
      omega
    have hall : ∀ x ∈ xs, x ∈ L.rest := fun x hx => by
      have hp : (xs.filter fun x => decide (x ∈ L.rest)) = xs := by
        have hs := List.filter_sublist (p := fun x => decide (x ∈ L.rest)) (l := xs)
        exact hs.eq_of_length (by rw [hr.length_eq, hlen])
      rw [← hp, List.mem_filter] at hx
      simpa using hx.2
    have hq : ∀ x ∈ xs, cntP L x = q := fun x hx => by rw [h1 x hx, if_pos (hall x hx)]; omega
    obtain ⟨y, hy⟩ := List.exists_mem_of_length_pos hn
    have e1 : highF (cntP L) 0 xs ≤ q := highF_le _ _ xs 0 (by omega) (fun x hx => by rw [hq x hx]; omega)
    have e2 := highF_mem (cntP L) xs 0 y hy
    have e3 := lowF_mem (cntP L) xs j y hy
    rw [hq y hy] at e2 e3
    omega
end Go.Proofs.Ytiefgicapcljiaa
