/- Decode, by the reference: up to the sum. -/
import Derived.Test.YtochbcemobkegaaM3
import Derived.Deep.DeepCutAuto
set_option linter.unusedSimpArgs false
set_option linter.unusedVariables false
namespace Go.Proofs.Ytochbcemobkegaa
open Go.RowKit Go.Shelf

set_option maxHeartbeats 1000000 in
theorem rnum_any (A : Option Addr) (n c : Nat) (xs : List Int) (v : Int) (w : World) (h : Rd .u8 w A n c xs) (h1 : 1 ≤ n) (h8 : n ≤ 8) (hv : wrap64 (num xs) = v) :
    Calls Try.prog 33 #[.slice A n c] w fun e w' => e = .returned (.int .i64 v) ∧ Below w.heap.size w w' := by
  have hl := h.1
  have hv2 := Lib.hid hv
  have hN : getN xs (n : Int) = num xs := by
    unfold getN getB sizeB
    rw [if_pos (by simp; omega), List.take_of_length_le (by omega)]
  have HN := Lib.hid hN
  clear hl hN hv
  go_enter Try.func33, Try.ntmps33
  go_wp2_with fail
  refine (rget_any _ _ _ xs _ _ h).mono ?_
  rintro e w1 ⟨B, m, d, rfl, -, hb1, -⟩
  rw [HN.out]
  generalize num xs = u at *
  go_wp2
  go_ret
  exact ⟨by rw [← hv2.out]; rfl, hb1⟩
set_option maxHeartbeats 1000000 in
theorem rdecode_short (A : Option Addr) (n c : Nat) (w : World) (hn : n < 36) :
    Calls Try.prog 11 #[.slice A n c] w fun e w' => e = .returned (.tuple #[.agg #[.int .i64 0, .int .i64 0, .int .i64 0, .int .i64 0, .int .i64 0, .int .i64 0, .int .i64 0, .int .i64 0, .slice none 0 0], .int .i64 6]) ∧ Below w.heap.size w w' := by
  go_enter Try.func11, Try.ntmps11
  go_wp2
  refine bodyPost_ret (v := .tuple #[.agg #[.int .i64 0, .int .i64 0, .int .i64 0, .int .i64 0, .int .i64 0, .int .i64 0, .int .i64 0, .int .i64 0, .slice none 0 0], .int .i64 6]) (by simp [results, Try.results11, go_sem, *]) rfl ⟨rfl, ?_⟩
  exact (Below.refl _ _).alloc (Nat.le_refl _) _
theorem wf_at {bs : List Int} (h : ∀ x ∈ bs, (Lit.int .u8 x).wf = true) (i : Nat) : 0 ≤ bs.getD i 0 ∧ bs.getD i 0 < 256 := by
  rcases Nat.lt_or_ge i bs.length with hi | hi
  · have e : bs.getD i 0 = bs[i] := by simp [List.getD, hi]
    rw [e]
    exact u8_bounds (h _ (List.getElem_mem hi))
  · have e : bs.getD i 0 = 0 := by simp [List.getD, hi]
    rw [e]; omega
theorem gN1 {bs : List Int} (h : ∀ x ∈ bs, (Lit.int .u8 x).wf = true) (i : Nat) (hi : i < bs.length) : gN bs i 1 = bs.getD i 0 := by
  have hb := wf_at h i
  have e : (bs.drop i).take 1 = [bs.getD i 0] := by
    rw [List.drop_eq_getElem_cons hi, show bs.getD i 0 = bs[i] by simp [List.getD, hi]]
    rfl
  unfold gN
  rw [e]
  simp only [num, List.foldl, step8]
  unfold wrap64
  omega
theorem take3 {bs : List Int} (h : 3 ≤ bs.length) : bs.take 3 = [bs.getD 0 0, bs.getD 1 0, bs.getD 2 0] := by
  match bs, h with
  | x :: y :: z :: t, _ => simp
theorem getD_take {bs : List Int} {i k : Nat} (h : i < k) : (bs.take k).getD i 0 = bs.getD i 0 := by
  simp [List.getD, List.getElem?_take, h]
set_option maxRecDepth 100000 in
set_option maxHeartbeats 2000000 in
theorem rdecode_nomagic (A : Option Addr) (n c : Nat) (bs hs pl : List Int) (w : World) (h : Rd .u8 w A n c bs) (hn : 36 ≤ n) (ehs : hs = bs.take 36) (hm : ¬ magic hs) :
    Calls Try.prog 11 #[.slice A n c] w fun e w' => e = .returned (.tuple #[.agg #[.int .i64 0, .int .i64 0, .int .i64 0, .int .i64 0, .int .i64 0, .int .i64 0, .int .i64 0, .int .i64 0, .slice none 0 0], .int .i64 30]) ∧ Below w.heap.size w w' := by
  have hl := h.1
  have hwf := h.2.2.2.2.1
  have hok := okB_of hwf
  have hcm := h.2.2.1
  have hnc := h.2.1
  unfold maxLen at hcm
  obtain ⟨g, o, rfl, hg, hx⟩ := h.2.2.2.2.2 (by omega)
  have c0 := hx 0 (by omega)
  have c1 := hx 1 (by omega)
  have c2 := hx 2 (by omega)
  rw [Nat.add_zero] at c0
  have hcase : bs.getD 0 0 ≠ 78 ∨ bs.getD 0 0 = 78 ∧ (bs.getD 1 0 ≠ 90 ∨ bs.getD 1 0 = 90 ∧ bs.getD 2 0 ≠ 1) := by
    rw [magic_iff hs (by rw [ehs]; exact okB_take hok 36), ehs, List.take_take, Nat.min_eq_left (by omega), take3 (by omega)] at hm
    by_cases a0 : bs.getD 0 0 = 78
    · by_cases a1 : bs.getD 1 0 = 90
      · by_cases a2 : bs.getD 2 0 = 1
        · rw [a0, a1, a2] at hm; exact absurd rfl hm
        · exact .inr ⟨a0, .inr ⟨a1, a2⟩⟩
      · exact .inr ⟨a0, .inl a1⟩
    · exact .inl a0
  generalize bs.getD 0 0 = x0 at *
  generalize bs.getD 1 0 = x1 at *
  generalize bs.getD 2 0 = x2 at *
  clear hx hwf hok hl h ehs hm
  rcases hcase with h1 | ⟨rfl, h1 | ⟨rfl, h1⟩⟩
  all_goals
    rw [← bne_iff_ne] at h1
    go_enter Try.func11, Try.ntmps11
    go_wp2
    refine bodyPost_ret (v := .tuple #[.agg #[.int .i64 0, .int .i64 0, .int .i64 0, .int .i64 0, .int .i64 0, .int .i64 0, .int .i64 0, .int .i64 0, .slice none 0 0], .int .i64 30]) (by simp [results, Try.results11, go_sem, *]) rfl ⟨rfl, ?_⟩
    exact (Below.refl _ _).alloc (Nat.le_refl _) _
end Go.Proofs.Ytochbcemobkegaa
