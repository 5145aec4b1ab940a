/- The law of draws told. -/
import Derived.Test.YtofjnpcfdmkdoaaP8
set_option linter.unusedSimpArgs false
set_option linter.unusedVariables false
namespace Go.Proofs.Ytofjnpcfdmkdoaa
open Go.RowKit Go.Shelf
set_option maxRecDepth 100000 in
set_option maxHeartbeats 8000000 in
theorem lawTold (s i : Int) (A : Option Addr) (n c : Nat) (xs : List Int) (M : Nat) (w : World) (h : Rd .i64 w A n c xs) (hi0 : -9223372036854775808 ≤ i) (hi1 : i ≤ 9223372036854775807) (hM : M < 256) :
    Calls Try.prog 3 #[.int .u64 s, .int .i64 i, .slice A n c, .int .u8 M] w fun e w' => e = .returned (.bool true) ∧ Below w.heap.size w w' := by
  have hnc := h.2.1
  have hcm := h.2.2.1
  unfold maxLen at hcm
  obtain ⟨m, hm⟩ : ∃ m : Nat, m = min n 50 := ⟨_, rfl⟩
  have hmn : m ≤ n := by omega
  have hrun : ∀ W, (Instr.slice 23 (.slice A n c) none (some (.int .i64 (m : Int))) none).run Try.prog W = .ok (.slice A m c) W := fun W => eltI.run_pre A n c m (by omega) hnc W
  have h2 := h.pre hmn
  have hmin : (if (50 : Int) < n then (50 : Int) else n) = m := by split <;> omega
  have ht := Int.tmod_lt_of_pos i (show (0 : Int) < 1099511627776 by decide)
  have ht' : -1099511627776 < i.tmod 1099511627776 := by
    have := Int.lt_tmod_of_pos i (show (0 : Int) < 1099511627776 by decide)
    omega
  obtain ⟨fr, hfr⟩ : ∃ fr, fr = i.tmod 1099511627776 := ⟨_, rfl⟩
  obtain ⟨q, hq⟩ : ∃ q : Nat, q = M % 30 := ⟨_, rfl⟩
  have hmod : (M : Int) % 30 = q := by omega
  have hq30 : q ≤ 30 := by omega
  have hm50 : m ≤ 50 := by omega
  have hfr' := hfr.symm
  rw [hfr'] at ht ht'
  clear hfr h hm hq
  go_enter Try.func3, Try.ntmps3
  go_wp2_with fail
  refine (told_any s fr q w (by omega) (by omega) (by omega)).mono ?_
  rintro e w1 ⟨A1, c1, A2, c2, rfl, r1, r2, hb1⟩
  have h3 := h2.below hb1
  go_wp2_with fail
  refine (at_any _ _ _).mono ?_
  rintro e w' ⟨rfl, rfl⟩
  go_wp2_with fail
  refine (rat_any _ _ _).mono ?_
  rintro e w' ⟨rfl, rfl⟩
  go_wp2_with fail
  refine (key_any _ _ _ _ _ h3).mono ?_
  rintro e w' ⟨rfl, rfl⟩
  go_wp2_with fail
  refine (rkey_any _ _ _ _ _ h3).mono ?_
  rintro e w' ⟨rfl, rfl⟩
  go_wp2_with fail
  have R1 := Lib.hid r1
  have R2 := Lib.hid r2
  have HB := Lib.hid hb1
  clear r1 r2 hb1 h2 h3 hrun hmin hmod hfr'
  go_loopw [12] (fun k wr => ∃ j p : Nat, j ≤ q ∧ k = .int .i64 j ∧ wr = w1.drewN p) (fun k _ => q - (intOf k).toNat)
  case atStart => exact ⟨0, 0, Nat.zero_le _, rfl, rfl⟩
  case round =>
    obtain ⟨j, p, hj, rfl, rfl⟩ := hrel
    by_cases hlt : j < q
    · obtain ⟨g1, o1, rfl, hg1, d1⟩ := R1.out.cell hlt
      obtain ⟨g2, o2, rfl, hg2, d2⟩ := R2.out.cell hlt
      have e1 : (idxV fr (List.range q))[j]? = some (.int .i64 (fr + j)) := by simp [idxV, hlt]
      have e2 : (numV s fr (List.range q))[j]? = some (.int .u64 (atV s (fr + j))) := by simp [numV, hlt]
      rw [e1] at d1
      rw [e2] at d2
      clear e1 e2
      have hji : (j : Int) < q := by omega
      have hwr : IntKind.i64.wrap (fr + (j : Int)) = fr + j := by rw [IntWalk.i64_left]; exact IntWalk.wrap64_in _ (by omega)
      go_wp2
      go_quiet (exact (rat_any _ _ _).mono fun _ _ h => ⟨h.1, _, h.2.symm⟩)
      go_wp2
      go_roundw
      case rel => exact ⟨j + 1, _, by omega, by go_num, rfl⟩
      case measure => simp [intOf]; omega
    · obtain rfl : j = q := by omega
      go_wp2_with fail
      refine (awake_any _).mono ?_
      rintro e w3 ⟨rfl, hb3⟩
      go_wp2
      go_ret
      exact ⟨rfl, HB.out.trans (((Below.drewN_ w1 p).mono HB.out.size).trans (hb3.mono HB.out.size))⟩
end Go.Proofs.Ytofjnpcfdmkdoaa
