/- Both readers, with what remains as one state: the bytes, or nothing more where it is bad. -/
import Derived.Test.YtbphpfelinllhaaY1
namespace Go.Proofs.Ytbphpfelinllhaa
open Go.RowKit
def lst (st : Option (List Int)) : List Int := st.getD []
def badB (st : Option (List Int)) : Bool := st.isNone
def takeB (st : Option (List Int)) (k : Int) : Bool := !badB st && decide (0 ≤ k ∧ k ≤ (lst st).length)
def takeL (st : Option (List Int)) (k : Int) : List Int := if takeB st k then (lst st).take k.toNat else []
def takeS (st : Option (List Int)) (k : Int) : Option (List Int) := if takeB st k then some ((lst st).drop k.toNat) else none
def numB (st : Option (List Int)) (k : Int) : Bool := !badB st && getB (lst st) k
def numV (st : Option (List Int)) (k : Int) : Int := if numB st k then getN (lst st) k else 0
def numS (st : Option (List Int)) (k : Int) : Option (List Int) := if numB st k then some (getR (lst st) k) else none
/-- The reader at g stands so. -/
def StR (w : World) (g : Nat) : Option (List Int) → Prop
  | some ys => Good w g ys
  | none => BadR w g
theorem StR.below {w w' : World} {g : Nat} : ∀ {st : Option (List Int)}, StR w g st → ∀ {B : Nat}, Below B w w' → g < B → StR w' g st
  | some _, h, B, hb, hB => by
    obtain ⟨A, n, c, h1, h2, h3, h4⟩ := h
    refine ⟨A, n, c, (hb.block g hB).trans h1, h2.belowA (B := B) (fun _ ad he => by have := h3 ad he; omega) hb, h3, h4⟩
  | none, h, B, hb, hB => by
    obtain ⟨v, h1⟩ := h
    exact ⟨v, (hb.block g hB).trans h1⟩

theorem take_st (g : Nat) (st : Option (List Int)) (k : Int) (w : World) (h : StR w g st) :
    Calls Try.prog 17 #[.pointer (some ⟨g, 0, none⟩), .int .i64 k] w fun e w' => ∃ v, e = .returned v ∧ Own .u8 5 w.heap.size w' v (takeL st k) ∧ StR w' g (takeS st k) ∧ Wr g w w' := by
  unfold takeL takeS
  cases st with
  | none => exact take_bad g k w h
  | some ys =>
    by_cases hk : 0 ≤ k ∧ k ≤ ys.length
    · have hb : takeB (some ys) k = true := by simp [takeB, badB, lst, hk]
      obtain ⟨n, rfl⟩ := Int.eq_ofNat_of_zero_le hk.1
      simp only [hb, if_true]
      exact take_yes g ys n w h (by omega)
    · have hb : takeB (some ys) k = false := by
        rw [Bool.eq_false_iff]
        intro hc
        unfold takeB badB lst at hc
        simp only [Option.isNone_some, Bool.not_false, Bool.true_and, Option.getD_some] at hc
        exact hk (of_decide_eq_true hc)
      simp only [hb]
      exact take_no g ys k w h (by omega)
theorem num_st (g : Nat) (st : Option (List Int)) (k : Int) (w : World) (h : StR w g st) :
    Calls Try.prog 19 #[.pointer (some ⟨g, 0, none⟩), .int .i64 k] w fun e w' => e = .returned (.int .u64 (numV st k)) ∧ StR w' g (numS st k) ∧ Wr g w w' := by
  unfold numV numS
  cases st with
  | none => 
    refine (num_bad g k w h).mono ?_
    rintro e w' ⟨rfl, rfl⟩
    exact ⟨rfl, h, Wr.refl _ _⟩
  | some ys =>
    by_cases hk : getB ys k = true
    · have hb : numB (some ys) k = true := by simp [numB, badB, lst, hk]
      obtain ⟨h1, h2⟩ := Bool.and_eq_true_iff.1 hk
      obtain ⟨n, rfl, h3, h4⟩ := sizeB_nat h1
      simp only [hb, if_true]
      unfold getN getR
      simp only [lst, Option.getD_some, hk, if_true]
      exact num_yes g ys n w h h1 (by simpa using h2)
    · have hb : numB (some ys) k = false := by simp [numB, badB, lst, hk]
      simp only [hb]
      refine num_no g ys k w h ?_
      by_cases h1 : sizeB k = true
      · right
        simp [getB, h1] at hk
        omega
      · left; simpa using h1
theorem left_st (g : Nat) (st : Option (List Int)) (w : World) (h : StR w g st) :
    Calls Try.prog 20 #[.pointer (some ⟨g, 0, none⟩)] w fun e w' => e = .returned (.int .i64 (lst st).length) ∧ w = w' := by
  cases st with
  | none =>
    obtain ⟨v, hv⟩ := h
    exact left_bad g v w hv
  | some ys =>
    obtain ⟨A, n, c, h1, h2, h3, h4⟩ := h
    have hl : (lst (some ys)).length = n := h2.1
    rw [hl]
    exact left_ok g A n c w h1
theorem bad_st (g : Nat) (st : Option (List Int)) (w : World) (h : StR w g st) :
    Calls Try.prog 21 #[.pointer (some ⟨g, 0, none⟩)] w fun e w' => e = .returned (.bool (badB st)) ∧ w = w' := by
  cases st with
  | none => exact bad_badr h
  | some ys => exact bad_good h

theorem rtake_st (A : Option Addr) (n c : Nat) (st : Option (List Int)) (k : Int) (w : World) (h : Rd .u8 w A n c (lst st)) :
    Calls Try.prog 16 #[.agg #[.slice A n c, .bool (badB st)], .int .i64 k] w fun e w' => ∃ B m d C l f, e = .returned (.tuple #[.agg #[.slice B m d, .bool (badB (takeS st k))], .slice C l f]) ∧
      Rd .u8 w' B m d (lst (takeS st k)) ∧ From A n B m ∧ Rd .u8 w' C l f (takeL st k) ∧ From A n C l ∧ Below w.heap.size w w' := by
  unfold takeL takeS
  by_cases hk : takeB st k = true
  · have hk' := hk
    unfold takeB at hk'
    obtain ⟨h1, h2⟩ := Bool.and_eq_true_iff.1 hk'
    have h2' : 0 ≤ k ∧ k ≤ (lst st).length := by simpa using h2
    obtain ⟨j, rfl⟩ := Int.eq_ofNat_of_zero_le h2'.1
    have hb : badB st = false := by simpa using h1
    have hj : j ≤ n := by have := h.1; omega
    simp only [hk, if_true, hb, Int.toNat_natCast]
    refine (rtake_yes A n c j w hj h.2.1).mono ?_
    rintro e w' ⟨rfl, hbl⟩
    exact ⟨_, _, _, _, _, _, rfl, (h.cut hj).below hbl, fun hm ad he => ⟨by omega, cutA_from he⟩, (h.pre hj).below hbl, fun hm ad he => ⟨by omega, ad, he, rfl⟩, hbl⟩
  · simp only [hk]
    refine (rtake_no A n c (badB st) k w ?_).mono ?_
    · have := h.1
      unfold takeB at hk
      cases hb : badB st with
      | true => exact .inl rfl
      | false =>
        right
        simp [hb] at hk
        omega
    · rintro e w' ⟨rfl, hbl⟩
      exact ⟨_, _, _, _, _, _, rfl, Rd.nil _ _, fun hm => absurd hm (by omega), Rd.nil _ _, fun hm => absurd hm (by omega), hbl⟩
theorem rnum_st (A : Option Addr) (n c : Nat) (st : Option (List Int)) (k : Int) (w : World) (h : Rd .u8 w A n c (lst st)) :
    Calls Try.prog 18 #[.agg #[.slice A n c, .bool (badB st)], .int .i64 k] w fun e w' => ∃ B m d, e = .returned (.tuple #[.agg #[.slice B m d, .bool (badB (numS st k))], .int .u64 (numV st k)]) ∧
      Rd .u8 w' B m d (lst (numS st k)) ∧ From A n B m ∧ Below w.heap.size w w' := by
  unfold numV numS
  by_cases hk : numB st k = true
  · have hk' := hk
    unfold numB at hk'
    obtain ⟨h1, h2⟩ := Bool.and_eq_true_iff.1 hk'
    have hb : badB st = false := by simpa using h1
    simp only [hk, if_true, hb]
    refine (rnum_yes A n c _ k w h h2).mono ?_
    rintro e w' ⟨B, m, d, rfl, hr, hbl, hBA⟩
    exact ⟨B, m, d, rfl, hr, hBA, hbl⟩
  · simp only [hk]
    refine (rnum_no A n c (badB st) (lst st) k w h ?_).mono ?_
    · unfold numB at hk
      cases hb : badB st with
      | true => exact .inl rfl
      | false => right; simpa [hb] using hk
    · rintro e w' ⟨rfl, hbl⟩
      exact ⟨_, _, _, rfl, Rd.nil _ _, fun hm => absurd hm (by omega), hbl⟩
end Go.Proofs.Ytbphpfelinllhaa
