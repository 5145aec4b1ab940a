/- Pieces as values; what fits; counts; bytes cloned and compared. -/
import Derived.Test.YtmnmkolcffehhaaLsr
import Derived.Test.YtmnmkolcffehhaaItrM
import Derived.Test.YtmnmkolcffehhaaKit3
import Derived.BigQuiet
import Derived.Deep.QuietTactic
import Derived.WalkSpells
set_option linter.unusedSimpArgs false
set_option linter.unusedVariables false
namespace Go.Proofs.Ytmnmkolcffehhaa
open Go.RowKit Go.Shelf

/-- What a piece says. -/
structure Pp where
  xs : List Int
  en : Bool
  fn : Bool
/-- A piece as a value: its bytes' slice, what that reads, its two marks. -/
structure Pc where
  A : Option Addr
  n : Nat
  c : Nat
  xs : List Int
  en : Bool
  fn : Bool
def Pc.say (q : Pc) : Pp := ⟨q.xs, q.en, q.fn⟩
def Pc.cl (q : Pc) : List Value := [.slice q.A q.n q.c, .bool q.en, .bool q.fn]
theorem Pc.cl_len (q : Pc) : q.cl.length = 3 := rfl
theorem Pc.cl_one (q : Pc) : ∀ v ∈ q.cl, v.oneCell' = true := by
  intro v hv
  simp only [Pc.cl, List.mem_cons, List.not_mem_nil, or_false] at hv
  rcases hv with rfl | rfl | rfl <;> rfl
def zsC : List Value := [.slice none 0 0, .bool false, .bool false]
def zPc : Pc := ⟨none, 0, 0, [], false, false⟩
theorem eltC : EltS Try.prog 24 36 zsC 32 := ⟨rfl, by kernel_rfl, by intro v hv; exact zPc.cl_one v hv, by decide, by decide, ⟨_, rfl, by decide⟩, by decide⟩
theorem rowC : Row Try.prog 36 3 := eltC.row
theorem eltB : Elt Try.prog 34 22 (.slice none 0 0) 24 := ⟨rfl, by kernel_rfl, rfl, rfl, by decide⟩
theorem bytesT : Ints Try.prog 22 5 .u8 1 := ⟨Try.underlying22, by kernel_rfl⟩

/-! ### What fits; how many -/
def fitB (n m : Int) : Bool := decide (1 ≤ n ∧ n ≤ 65536 ∧ 1 ≤ m ∧ m ≤ 1024)
def cntV (n m : Int) : Int := if fitB n m = true then (n + m - 1) / m else 0
theorem fit_of {n m : Int} (h : fitB n m = true) : 1 ≤ n ∧ n ≤ 65536 ∧ 1 ≤ m ∧ m ≤ 1024 := by simpa [fitB] using h
theorem fit_not {n m : Int} (h : fitB n m = false) : n < 1 ∨ (1 ≤ n ∧ 65536 < n) ∨ (1 ≤ n ∧ n ≤ 65536 ∧ m < 1) ∨ (1 ≤ n ∧ n ≤ 65536 ∧ 1 ≤ m ∧ 1024 < m) := by
  simp only [fitB, decide_eq_false_iff_not] at h; omega
theorem fits_any (n m : Int) (w : World) : Calls Try.prog 18 #[.int .i64 n, .int .i64 m] w fun e w' => e = .returned (.bool (fitB n m)) ∧ w = w' := by
  cases h : fitB n m with
  | true =>
    obtain ⟨h1, h2, h3, h4⟩ := fit_of h
    clear h
    go_enter Try.func18, Try.ntmps18
    go_wp2
    go_ret
    exact ⟨rfl, rfl⟩
  | false =>
    rcases fit_not h with h1 | ⟨h1, h2⟩ | ⟨h1, h2, h3⟩ | ⟨h1, h2, h3, h4⟩
    all_goals
      clear h
      go_enter Try.func18, Try.ntmps18
      go_wp2
      go_ret
      exact ⟨by first | rfl | (simp; omega), rfl⟩
theorem count_any (n m : Int) (w : World) : Calls Try.prog 10 #[.int .i64 n, .int .i64 m] w fun e w' => e = .returned (.int .i64 (cntV n m)) ∧ w = w' := by
  have HF := Lib.hid (fits_any n m w)
  cases h : fitB n m with
  | true =>
    have HB := Lib.hid h
    obtain ⟨h1, h2, h3, h4⟩ := fit_of h
    have HV : Hid (cntV n m = (n + m - 1).tdiv m) := Lib.hid (by unfold cntV; rw [if_pos h, Int.tdiv_eq_ediv_of_nonneg (by omega)])
    have hle : (n + m - 1).tdiv m ≤ n + m - 1 := by rw [Int.tdiv_eq_ediv_of_nonneg (by omega)]; exact Int.ediv_le_self _ (by omega)
    have hge : 0 ≤ (n + m - 1).tdiv m := by rw [Int.tdiv_eq_ediv_of_nonneg (by omega)]; exact Int.ediv_nonneg (by omega) (by omega)
    have hm0 : m ≠ 0 := by omega
    clear h
    go_enter Try.func10, Try.ntmps10
    go_wp2_with fail
    refine HF.out.mono ?_
    rintro e w' ⟨rfl, rfl⟩
    rw [HB.out]
    go_wp2
    go_ret
    exact ⟨by rw [HV.out] <;> rfl, rfl⟩
  | false =>
    have HB := Lib.hid h
    have HV : Hid (cntV n m = 0) := Lib.hid (by unfold cntV; rw [if_neg (by rw [h]; simp)])
    clear h
    go_enter Try.func10, Try.ntmps10
    go_wp2_with fail
    refine HF.out.mono ?_
    rintro e w' ⟨rfl, rfl⟩
    rw [HB.out]
    go_wp2
    go_ret
    exact ⟨by rw [HV.out] <;> rfl, rfl⟩
theorem rcount_any (n m : Int) (w : World) : Calls Try.prog 11 #[.int .i64 n, .int .i64 m] w fun e w' => e = .returned (.int .i64 (cntV n m)) ∧ w = w' := by
  cases h : fitB n m with
  | true =>
    obtain ⟨h1, h2, h3, h4⟩ := fit_of h
    have HV : Hid (cntV n m = (n + m - 1).tdiv m) := Lib.hid (by unfold cntV; rw [if_pos h, Int.tdiv_eq_ediv_of_nonneg (by omega)])
    have hle : (n + m - 1).tdiv m ≤ n + m - 1 := by rw [Int.tdiv_eq_ediv_of_nonneg (by omega)]; exact Int.ediv_le_self _ (by omega)
    have hge : 0 ≤ (n + m - 1).tdiv m := by rw [Int.tdiv_eq_ediv_of_nonneg (by omega)]; exact Int.ediv_nonneg (by omega) (by omega)
    have hm0 : m ≠ 0 := by omega
    clear h
    go_enter Try.func11, Try.ntmps11
    go_wp2
    go_ret
    exact ⟨by rw [HV.out] <;> rfl, rfl⟩
  | false =>
    have HV : Hid (cntV n m = 0) := Lib.hid (by unfold cntV; rw [if_neg (by rw [h]; simp)])
    rcases fit_not h with h1 | ⟨h1, h2⟩ | ⟨h1, h2, h3⟩ | ⟨h1, h2, h3, h4⟩
    all_goals
      clear h
      go_enter Try.func11, Try.ntmps11
      go_wp2
      go_ret
      exact ⟨by rw [HV.out] <;> rfl, rfl⟩

/-! ### Bytes -/
theorem conv_any {W : World} {A : Option Addr} {l c : Nat} {xs : List Int} (h : Rd .u8 W A l c xs) : (convert 22 9 (.slice A l c)).run Try.prog W = .ok (.string (strOfNums xs)) W :=
  run_str Try.underlying22 Try.underlying5 h _ Try.underlying9
def eqS (xs ys : List Int) : Bool := (strOfNums xs).toList == (strOfNums ys).toList
theorem eqS_refl (xs : List Int) : eqS xs xs = true := by simp [eqS]
theorem equal_any (A : Option Addr) (n c : Nat) (xs : List Int) (A1 : Option Addr) (n1 c1 : Nat) (ys : List Int) (w : World) (h : Rd .u8 w A n c xs) (k : Rd .u8 w A1 n1 c1 ys) :
    Calls Try.prog 21 #[.slice A n c, .slice A1 n1 c1] w fun e w' => e = .returned (.bool (eqS xs ys)) ∧ w = w' := by
  unfold eqS
  have q1 := conv_any h
  have q2 := conv_any k
  go_enter Try.func21, Try.ntmps21
  go_wp2
  go_ret
  exact ⟨rfl, rfl⟩
theorem clone_any (A : Option Addr) (n c : Nat) (xs : List Int) (w : World) (h : Rd .u8 w A n c xs) (hn : n ≤ 65536) :
    Calls Try.prog 23 #[.slice A n c] w fun e w' => ∃ v, e = .returned v ∧ Ow .u8 5 w.heap.size w' v xs ∧ Below w.heap.size w w' := by
  rcases A with _ | ad
  · have hc := h.2.2.2.1 rfl
    subst hc
    obtain rfl : n = 0 := by have := h.2.1; omega
    obtain rfl : xs = [] := List.eq_nil_of_length_eq_zero h.1
    have hq := Lib.run_eql_slice_nil (P := Try.prog) w 22 5 none 0 0 0 0 Try.underlying22
    go_enter Try.func23, Try.ntmps23
    go_wp2
    go_ret
    exact ⟨_, rfl, ⟨rfl, .inl ⟨rfl, rfl⟩⟩, Below.refl _ _⟩
  · have hq := Lib.run_eql_slice_nil (P := Try.prog) w 22 5 (some ad) n c 0 0 Try.underlying22
    go_enter Try.func23, Try.ntmps23
    go_wp2_with (first
      | (at_builtin
         go_must (refine wpList_append_ints bytesT rfl (.tmp 5) (.tmp 6) rfl rfl (w0 := w) (xs := []) ⟨rfl, .inr ⟨w.heap.size, 0, _, rfl, Nat.le_refl _, heap_alloc_new w _, Nat.le_refl _, by decide, by decide, rfl⟩⟩ rfl (h.alloc _) (by simp; omega) (by omega) ((Below.refl _ _).alloc (Nat.le_refl _) _) ?_)
         intro v1 w1 hown hb))
    go_ret
    exact ⟨_, rfl, by simpa using hown, hb⟩
theorem few_any (A : Option Addr) (n c : Nat) (w : World) (hn : n ≤ c) (hc : c ≤ maxLen) :
    Calls Try.prog 6 #[.slice A n c] w fun e w' => e = .returned (.slice A (min n 3000) c) ∧ w = w' := by
  unfold maxLen at hc
  by_cases h5 : n ≤ 3000
  · rw [Nat.min_eq_left h5]
    have hr := bytesT.run_pre A n c 0 n (by omega) hn
    simp only [Nat.zero_add] at hr
    go_enter Try.func6, Try.ntmps6
    go_wp2
    go_ret
    exact ⟨rfl, rfl⟩
  · rw [Nat.min_eq_right (by omega)]
    have hr := bytesT.run_pre A n c 0 3000 (by omega) hn
    have h5' : (3000 : Int) < n := by omega
    go_enter Try.func6, Try.ntmps6
    go_wp2
    go_ret
    exact ⟨rfl, rfl⟩
end Go.Proofs.Ytmnmkolcffehhaa
