/- Trim and Bounce, whatever the packet. -/
import Derived.Test.YtochbcemobkegaaW16
set_option linter.unusedSimpArgs false
set_option linter.unusedVariables false
namespace Go.Proofs.Ytochbcemobkegaa
open Go.RowKit Go.Shelf

/-- What ports answer: trimmed or not, bounced or not. -/
def trB (h : Hd) (n : Int) : Bool := isdB h n && !hasB h.fl 8
def trF (h : Hd) (n : Int) : Int := if trB h n then h.fl + 8 else h.fl
def trX (h : Hd) (n : Int) (xs : List Int) : List Int := if trB h n then [] else xs
def boB (h : Hd) (n : Int) : Bool := isdB h n && hasB h.fl 8 && !hasB h.fl 16
def boF (h : Hd) (n : Int) : Int := if boB h n then h.fl + 16 else h.fl
def boS (h : Hd) (n : Int) : Int := if boB h n then h.ds else h.sr
def boD (h : Hd) (n : Int) : Int := if boB h n then h.sr else h.ds
theorem trX_wf {h : Hd} {n : Int} {xs : List Int} (hx : ∀ x ∈ xs, (Lit.int .u8 x).wf = true) : ∀ x ∈ trX h n xs, (Lit.int .u8 x).wf = true := by
  unfold trX; split
  · simp
  · exact hx
theorem trim_all (kd fl pa sr ds cn sq pu : Int) (A : Option Addr) (n c : Nat) (xs : List Int) (w : World) (h : Rd .u8 w A n c xs) (hn : n ≤ 70368744177664) (hf : fl ≤ 9223372036854775807) :
    Calls Try.prog 17 #[.agg #[.int .i64 kd, .int .i64 fl, .int .i64 pa, .int .i64 sr, .int .i64 ds, .int .i64 cn, .int .i64 sq, .int .i64 pu, .slice A n c]] w fun e w' => ∃ A' n' c', e = .returned (.tuple #[.agg #[.int .i64 kd, .int .i64 (trF ⟨kd, fl, pa, sr, ds, cn, sq, pu⟩ n), .int .i64 pa, .int .i64 sr, .int .i64 ds, .int .i64 cn, .int .i64 sq, .int .i64 pu, .slice A' n' c'], .bool (trB ⟨kd, fl, pa, sr, ds, cn, sq, pu⟩ n)]) ∧ Rd .u8 w' A' n' c' (trX ⟨kd, fl, pa, sr, ds, cn, sq, pu⟩ n xs) ∧ Below w.heap.size w w' := by
  have hwf := h.2.2.2.2.1
  unfold trF trX
  by_cases hb : trB ⟨kd, fl, pa, sr, ds, cn, sq, pu⟩ n = true
  · rw [hb]
    simp only [if_true]
    unfold trB at hb
    simp only [Bool.and_eq_true, Bool.not_eq_true'] at hb
    refine (trim_yes _ _ _ _ _ _ _ _ A n c w hf hb.1 hb.2).mono ?_
    rintro e w' ⟨rfl, hb⟩
    exact ⟨none, 0, 0, rfl, Rd.nil _ _, hb⟩
  · have hb' : trB ⟨kd, fl, pa, sr, ds, cn, sq, pu⟩ n = false := by simpa using hb
    rw [hb']
    simp only [Bool.false_eq_true, if_false]
    refine (trim_no _ _ _ _ _ _ _ _ A n c xs w h hn hf ?_).mono ?_
    · unfold trB at hb'
      dsimp only at hb'
      cases h1 : isdB ⟨kd, fl, pa, sr, ds, cn, sq, pu⟩ n
      · exact .inl rfl
      · rw [h1] at hb'; simp at hb'; exact .inr ⟨rfl, hb'⟩
    · rintro e w' ⟨A', c', rfl, ho, hb⟩
      exact ⟨A', n, c', rfl, own_rd ho hwf, hb⟩
theorem rtrim_all (kd fl pa sr ds cn sq pu : Int) (A : Option Addr) (n c : Nat) (xs : List Int) (w : World) (h : Rd .u8 w A n c xs) (hf : fl ≤ 9223372036854775807) :
    Calls Try.prog 18 #[.agg #[.int .i64 kd, .int .i64 fl, .int .i64 pa, .int .i64 sr, .int .i64 ds, .int .i64 cn, .int .i64 sq, .int .i64 pu, .slice A n c]] w fun e w' => ∃ A' n' c', e = .returned (.tuple #[.agg #[.int .i64 kd, .int .i64 (trF ⟨kd, fl, pa, sr, ds, cn, sq, pu⟩ n), .int .i64 pa, .int .i64 sr, .int .i64 ds, .int .i64 cn, .int .i64 sq, .int .i64 pu, .slice A' n' c'], .bool (trB ⟨kd, fl, pa, sr, ds, cn, sq, pu⟩ n)]) ∧ Rd .u8 w' A' n' c' (trX ⟨kd, fl, pa, sr, ds, cn, sq, pu⟩ n xs) ∧ Below w.heap.size w w' := by
  unfold trF trX
  by_cases hb : trB ⟨kd, fl, pa, sr, ds, cn, sq, pu⟩ n = true
  · rw [hb]
    simp only [if_true]
    unfold trB at hb
    simp only [Bool.and_eq_true, Bool.not_eq_true'] at hb
    refine (rtrim_yes _ _ _ _ _ _ _ _ A n c w hf hb.1 hb.2).mono ?_
    rintro e w' ⟨rfl, hb⟩
    exact ⟨none, 0, 0, rfl, Rd.nil _ _, hb⟩
  · have hb' : trB ⟨kd, fl, pa, sr, ds, cn, sq, pu⟩ n = false := by simpa using hb
    rw [hb']
    simp only [Bool.false_eq_true, if_false]
    refine (rtrim_no _ _ _ _ _ _ _ _ A n c w hf hb').mono ?_
    rintro e w' ⟨rfl, hb⟩
    exact ⟨A, n, c, rfl, h.below hb, hb⟩
theorem bounce_all (kd fl pa sr ds cn sq pu : Int) (A : Option Addr) (n c : Nat) (xs : List Int) (w : World) (h : Rd .u8 w A n c xs) (hn : n ≤ 70368744177664) (hf : fl ≤ 9223372036854775807) :
    Calls Try.prog 19 #[.agg #[.int .i64 kd, .int .i64 fl, .int .i64 pa, .int .i64 sr, .int .i64 ds, .int .i64 cn, .int .i64 sq, .int .i64 pu, .slice A n c]] w fun e w' => ∃ A' c', e = .returned (.tuple #[.agg #[.int .i64 kd, .int .i64 (boF ⟨kd, fl, pa, sr, ds, cn, sq, pu⟩ n), .int .i64 pa, .int .i64 (boS ⟨kd, fl, pa, sr, ds, cn, sq, pu⟩ n), .int .i64 (boD ⟨kd, fl, pa, sr, ds, cn, sq, pu⟩ n), .int .i64 cn, .int .i64 sq, .int .i64 pu, .slice A' n c'], .bool (boB ⟨kd, fl, pa, sr, ds, cn, sq, pu⟩ n)]) ∧ Rd .u8 w' A' n c' xs ∧ Below w.heap.size w w' := by
  have hwf := h.2.2.2.2.1
  unfold boF boS boD
  by_cases hb : boB ⟨kd, fl, pa, sr, ds, cn, sq, pu⟩ n = true
  · rw [hb]
    simp only [if_true]
    unfold boB at hb
    simp only [Bool.and_eq_true, Bool.not_eq_true'] at hb
    refine (bounce_yes _ _ _ _ _ _ _ _ A n c xs w h hn hf hb.1.1 hb.1.2 hb.2).mono ?_
    rintro e w' ⟨A', c', rfl, ho, hb⟩
    exact ⟨A', c', rfl, own_rd ho hwf, hb⟩
  · have hb' : boB ⟨kd, fl, pa, sr, ds, cn, sq, pu⟩ n = false := by simpa using hb
    rw [hb']
    simp only [Bool.false_eq_true, if_false]
    refine (bounce_no _ _ _ _ _ _ _ _ A n c xs w h hn hf hb').mono ?_
    rintro e w' ⟨A', c', rfl, ho, hb⟩
    exact ⟨A', c', rfl, own_rd ho hwf, hb⟩
theorem rbounce_all (kd fl pa sr ds cn sq pu : Int) (A : Option Addr) (n c : Nat) (xs : List Int) (w : World) (h : Rd .u8 w A n c xs) (hf : fl ≤ 9223372036854775807) :
    Calls Try.prog 20 #[.agg #[.int .i64 kd, .int .i64 fl, .int .i64 pa, .int .i64 sr, .int .i64 ds, .int .i64 cn, .int .i64 sq, .int .i64 pu, .slice A n c]] w fun e w' => ∃ A' c', e = .returned (.tuple #[.agg #[.int .i64 kd, .int .i64 (boF ⟨kd, fl, pa, sr, ds, cn, sq, pu⟩ n), .int .i64 pa, .int .i64 (boS ⟨kd, fl, pa, sr, ds, cn, sq, pu⟩ n), .int .i64 (boD ⟨kd, fl, pa, sr, ds, cn, sq, pu⟩ n), .int .i64 cn, .int .i64 sq, .int .i64 pu, .slice A' n c'], .bool (boB ⟨kd, fl, pa, sr, ds, cn, sq, pu⟩ n)]) ∧ Rd .u8 w' A' n c' xs ∧ Below w.heap.size w w' := by
  unfold boF boS boD
  by_cases hb : boB ⟨kd, fl, pa, sr, ds, cn, sq, pu⟩ n = true
  · rw [hb]
    simp only [if_true]
    unfold boB at hb
    simp only [Bool.and_eq_true, Bool.not_eq_true'] at hb
    refine (rbounce_yes _ _ _ _ _ _ _ _ A n c w hf hb.1.1 hb.1.2 hb.2).mono ?_
    rintro e w' ⟨rfl, hb⟩
    exact ⟨A, c, rfl, h.below hb, hb⟩
  · have hb' : boB ⟨kd, fl, pa, sr, ds, cn, sq, pu⟩ n = false := by simpa using hb
    rw [hb']
    simp only [Bool.false_eq_true, if_false]
    refine (rbounce_no _ _ _ _ _ _ _ _ A n c w hf hb').mono ?_
    rintro e w' ⟨rfl, hb⟩
    exact ⟨A, c, rfl, h.below hb, hb⟩
end Go.Proofs.Ytochbcemobkegaa
