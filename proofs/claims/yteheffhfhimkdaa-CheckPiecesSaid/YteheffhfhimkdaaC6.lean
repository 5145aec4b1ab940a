/- The ones' complement sum, by the program and by the reference. -/
import Derived.Test.YteheffhfhimkdaaC5
set_option linter.unusedSimpArgs false
set_option linter.unusedVariables false
namespace Go.Proofs.Yteheffhfhimkdaa
open Go.RowKit Go.Shelf

/-- Bytes as pairs, added: the next byte is a pair's first one where hi. -/
def tot : Bool → List Int → Int
  | _, [] => 0
  | true, x :: l => 256 * x + tot false l
  | false, x :: l => x + tot true l
/-- A sum of 16-bit numbers, brought down. -/
def f16 (t : Int) : Int := if t = 0 then 0 else (t - 1) % 65535 + 1
def onesV (l : List Int) : Int := f16 (tot true l)
def evenB (n : Nat) : Bool := decide (n % 2 = 0)
theorem evenB_succ (n : Nat) : evenB (n + 1) = !evenB n := by
  unfold evenB
  by_cases h : n % 2 = 0
  · simp [h]; omega
  · simp [h]; omega
theorem tot_app (h : Bool) (l m : List Int) : tot h (l ++ m) = tot h l + tot (h == evenB l.length) m := by
  induction l generalizing h with
  | nil => cases h <;> simp [tot, evenB]
  | cons x l ih => cases h <;> simp [tot, ih, evenB_succ] <;> omega
theorem tot_snoc (l : List Int) (x : Int) : tot true (l ++ [x]) = tot true l + if evenB l.length = true then 256 * x else x := by
  rw [tot_app]
  cases evenB l.length <;> simp [tot]
theorem tot_bounds (h : Bool) (l : List Int) (hl : okB l = true) : 0 ≤ tot h l ∧ tot h l ≤ 65280 * l.length := by
  induction l generalizing h with
  | nil => simp [tot]
  | cons x l ih =>
    simp only [okB, List.all_cons, Bool.and_eq_true, decide_eq_true_eq] at hl
    have h1 := ih true hl.2
    have h2 := ih false hl.2
    cases h <;> simp only [tot, List.length_cons] <;> omega
theorem f16_bounds (t : Int) : 0 ≤ f16 t ∧ f16 t ≤ 65535 := by unfold f16; split <;> omega
theorem f16_fold (t : Int) (h : 65535 < t) : f16 (t / 65536 + t % 65536) = f16 t := by unfold f16; split <;> split <;> omega
theorem f16_low (t : Int) (h0 : 0 ≤ t) (h : t ≤ 65535) : f16 t = t := by unfold f16; split <;> omega
theorem f16_step (t x : Int) (ht : 0 ≤ t) (h0 : 0 ≤ x) (h : x ≤ 65535) : f16 (t + x) = if 65535 < f16 t + x then f16 t + x - 65535 else f16 t + x := by
  unfold f16; split <;> split <;> split <;> omega

theorem and16' (s : Int) (h0 : 0 ≤ s) (h1 : s < 18446744073709551616) : bits .and .u64 s 65535 = s % 65536 := by
  have := bits_mask .u64 64 (by decide) wraps_u64 16 (by decide) s h0 (by omega)
  simpa using this

set_option maxHeartbeats 400000 in
theorem fold_any (t : Int) (w : World) (h0 : 0 ≤ t) (h1 : t < 9223372036854775808) : Calls Try.prog 31 #[.int .u64 t] w fun e w' => e = .returned (.int .u16 (f16 t)) ∧ w = w' := by
  go_enter Try.func31, Try.ntmps31
  go_wp2
  go_loop [0] (fun tt => ∃ u : Int, 0 ≤ u ∧ u < 9223372036854775808 ∧ Hid (f16 u = f16 t) ∧ tt = .int .u64 u) (fun tt => (intOf tt).toNat)
  case atStart => exact ⟨t, h0, h1, Lib.hid rfl, rfl⟩
  case round =>
    obtain ⟨u, hu0, hu1, hf, rfl⟩ := hrel
    by_cases hlt : 65535 < u
    · have ha := and16' u hu0 (by omega)
      have hb := Lib.hid (f16_fold u hlt)
      go_wp2
      go_round
      case rel => exact ⟨_, by omega, by omega, Lib.hid (hb.out.trans hf.out), rfl⟩
      case measure => simp [intOf]; omega
    · have hl := Lib.hid (f16_low u hu0 (by omega))
      go_wp2
      go_ret
      exact ⟨ret_int (by rw [← hf.out, hl.out]; try omega), rfl⟩

set_option maxHeartbeats 1000000 in
theorem rones_any (A : Option Addr) (n c : Nat) (xs : List Int) (w : World) (h : Rd .u8 w A n c xs) (hn : n ≤ 70368744177664) :
    Calls Try.prog 16 #[.slice A n c] w fun e w' => e = .returned (.int .u16 (onesV xs)) ∧ w = w' := by
  have HR := Lib.hid h
  have hl := h.1
  have hok := okB_of h.2.2.2.2.1
  clear h
  go_enter Try.func16, Try.ntmps16
  go_wp2
  go_loop [3, 4] (fun tn ti => ∃ k : Nat, (k % 2 = 0 ∧ k ≤ n ∨ k = n + 1) ∧ ti = .int .i64 k ∧ tn = .int .i64 (onesV (xs.take k))) (fun _ i => n + 1 - (intOf i).toNat)
  case atStart => exact ⟨0, .inl ⟨rfl, Nat.zero_le _⟩, rfl, rfl⟩
  case round =>
    obtain ⟨k, hk, rfl, rfl⟩ := hrel
    have hb := f16_bounds (tot true (xs.take k))
    have hb0 := tot_bounds true (xs.take k) (okB_take hok k)
    by_cases hlt : k < n
    · obtain ⟨g, o, rfl, hg, hc1⟩ := HR.out.cell hlt
      have hlk : k < xs.length := by omega
      obtain ⟨x0, hx0⟩ : ∃ x, x = xs[k] := ⟨_, rfl⟩
      rw [show xs.getD k 0 = xs[k] from by simp [hlk], ← hx0] at hc1
      obtain ⟨q1, q2⟩ := u8_bounds (HR.out.2.2.2.2.1 (xs[k]) (List.getElem_mem _))
      rw [← hx0] at q1 q2
      have hev : evenB (xs.take k).length = true := by
        rw [List.length_take, Nat.min_eq_left (by omega)]; unfold evenB; simp; omega
      have ht1 : tot true (xs.take (k + 1)) = tot true (xs.take k) + 256 * x0 := by
        rw [List.take_succ_eq_append_getElem hlk, tot_snoc, if_pos hev, hx0]
      by_cases hlt2 : k + 1 < n
      · obtain ⟨g', o', e', -, hc2⟩ := HR.out.cell hlt2
        injection e' with e'
        injection e' with e1 e2
        subst e1 e2
        have hlk2 : k + 1 < xs.length := by omega
        obtain ⟨y0, hy0⟩ : ∃ y, y = xs[k + 1] := ⟨_, rfl⟩
        rw [show xs.getD (k + 1) 0 = xs[k + 1] from by simp [hlk2], ← hy0] at hc2
        obtain ⟨q3, q4⟩ := u8_bounds (HR.out.2.2.2.2.1 (xs[k + 1]) (List.getElem_mem _))
        rw [← hy0] at q3 q4
        have ht2 : tot true (xs.take (k + 2)) = tot true (xs.take k) + (256 * x0 + y0) := by
          rw [List.take_succ_eq_append_getElem hlk2, tot_snoc, ht1, List.length_take, Nat.min_eq_left (by omega), if_neg (by unfold evenB; simp; omega), hy0]; omega
        have hst := Lib.hid (f16_step (tot true (xs.take k)) (256 * x0 + y0) hb0.1 (by omega) (by omega))
        have HT := Lib.hid ht2
        unfold onesV
        generalize hF : f16 (tot true (xs.take k)) = F at *
        have HF := Lib.hid hF
        clear hF ht1 ht2 hev hl hx0 hy0 hlk hlk2 hb0
        have e1 : o + (k + 1) = o + k + 1 := by omega
        have E1 := Lib.hid e1
        clear e1
        by_cases hov : 65535 < F + (256 * x0 + y0)
        all_goals
          go_wp2
          go_round
          case rel => exact ⟨k + 2, by omega, by go_num, by rw [HT.out, hst.out]; first | rw [if_pos hov] | rw [if_neg hov]⟩
          case measure => simp [intOf]; omega
      · obtain rfl : n = k + 1 := by omega
        have hst := Lib.hid (f16_step (tot true (xs.take k)) (256 * x0) hb0.1 (by omega) (by omega))
        have HT := Lib.hid ht1
        have HT2 := Lib.hid (show xs.take (k + 2) = xs.take (k + 1) from by rw [List.take_of_length_le (by omega), List.take_of_length_le (by omega)])
        unfold onesV
        generalize hF : f16 (tot true (xs.take k)) = F at *
        have HF := Lib.hid hF
        clear hF ht1 hev hl hx0 hlk hb0
        by_cases hov : 65535 < F + 256 * x0
        all_goals
          go_wp2
          go_round
          case rel => exact ⟨k + 2, by omega, by go_num, by rw [HT2.out, HT.out, hst.out]; first | rw [if_pos hov] | rw [if_neg hov]⟩
          case measure => simp [intOf]; omega
    · have HT := Lib.hid (List.take_of_length_le (i := k) (l := xs) (by omega))
      have hk2 : k = n ∨ k = n + 1 := by omega
      unfold onesV
      rw [HT.out] at hb ⊢
      generalize hF : f16 (tot true xs) = F at *
      have HF := Lib.hid hF
      clear hb0 hl hF
      go_wp2
      go_ret
      exact ⟨ret_int (by unfold onesV; rw [HF.out]; try omega), rfl⟩
end Go.Proofs.Yteheffhfhimkdaa
