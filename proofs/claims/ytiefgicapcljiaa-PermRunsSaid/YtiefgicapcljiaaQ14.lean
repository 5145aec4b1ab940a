/- A list that nobody made; the law awake. -/
import Derived.Test.YtiefgicapcljiaaQ13
set_option linter.unusedSimpArgs false
set_option linter.unusedVariables false
namespace Go.Proofs.Ytiefgicapcljiaa
open Go.RowKit Go.Shelf
theorem no_next (w : World) (P : Option Addr) (h : NoPm w P) : Calls Try.prog 14 #[.pointer P] w fun e w' => e = .returned (.int .i64 (-1)) ∧ w = w' := by
  go_enter Try.func14, Try.ntmps14
  go_wp2_with (go_at_call 27; refine (pm_made_no _ _ h).mono ?_; rintro e w' ⟨rfl, rfl⟩)
  go_ret
  exact ⟨rfl, rfl⟩
theorem no_peek (w : World) (P : Option Addr) (h : NoPm w P) : Calls Try.prog 18 #[.pointer P] w fun e w' => e = .returned (.int .i64 (-1)) ∧ w = w' := by
  go_enter Try.func18, Try.ntmps18
  go_wp2_with (go_at_call 27; refine (pm_made_no _ _ h).mono ?_; rintro e w' ⟨rfl, rfl⟩)
  go_ret
  exact ⟨rfl, rfl⟩
theorem no_left (w : World) (P : Option Addr) (h : NoPm w P) : Calls Try.prog 19 #[.pointer P] w fun e w' => e = .returned (.slice none 0 0) ∧ w = w' := by
  go_enter Try.func19, Try.ntmps19
  go_wp2_with (go_at_call 27; refine (pm_made_no _ _ h).mono ?_; rintro e w' ⟨rfl, rfl⟩)
  go_ret
  exact ⟨rfl, rfl⟩
theorem no_paths (w : World) (P : Option Addr) (h : NoPm w P) : Calls Try.prog 20 #[.pointer P] w fun e w' => e = .returned (.slice none 0 0) ∧ w = w' := by
  go_enter Try.func20, Try.ntmps20
  go_wp2_with (go_at_call 27; refine (pm_made_no _ _ h).mono ?_; rintro e w' ⟨rfl, rfl⟩)
  go_ret
  exact ⟨rfl, rfl⟩
theorem no_rounds (w : World) (P : Option Addr) (h : NoPm w P) : Calls Try.prog 21 #[.pointer P] w fun e w' => e = .returned (.int .i64 0) ∧ w = w' := by
  go_enter Try.func21, Try.ntmps21
  go_wp2_with (go_at_call 27; refine (pm_made_no _ _ h).mono ?_; rintro e w' ⟨rfl, rfl⟩)
  go_ret
  exact ⟨rfl, rfl⟩
theorem no_renew (w : World) (P : Option Addr) (h : NoPm w P) (X : Option Addr) (nx cx : Nat) : Calls Try.prog 11 #[.pointer P, .slice X nx cx] w fun e w' => e = .returned (.int .i64 4) ∧ w = w' := by
  go_enter Try.func11, Try.ntmps11
  go_wp2_with (go_at_call 27; refine (pm_made_no _ _ h).mono ?_; rintro e w' ⟨rfl, rfl⟩)
  go_ret
  exact ⟨rfl, rfl⟩
theorem no_fork (w : World) (P : Option Addr) (h : NoPm w P) : Calls Try.prog 13 #[.pointer P] w fun e w' => e = .returned (.pointer none) ∧ w = w' := by
  go_enter Try.func13, Try.ntmps13
  go_wp2_with (go_at_call 27; refine (pm_made_no _ _ h).mono ?_; rintro e w' ⟨rfl, rfl⟩)
  go_ret
  exact ⟨rfl, rfl⟩
theorem no_sprayed (w : World) (P : Option Addr) (h : NoPm w P) : Calls Try.prog 17 #[.pointer P] w fun e w' => e = .returned (.agg (intV (List.replicate 8 0)).toArray) ∧ Below w.heap.size w w' := by
  have hz := Bk.new w 32 (intV (List.replicate 8 0))
  have hb : Below w.heap.size w (w.alloc (.cells (intV (List.replicate 8 0)).toArray 32)) := (Below.refl _ _).alloc (Nat.le_refl _) _
  have h' := h.below hb
  go_enter Try.func17, Try.ntmps17
  go_wp2_with (first
    | (go_at_call 27; refine (pm_made_no _ _ h').mono ?_; rintro e w' ⟨rfl, rfl⟩)
    | (refine at_store 32 (.tmp 2) (.tmp 6) (by rfl) ?_; refine wpList_store_bk rowTold rfl (.tmp 2) (.tmp 6) rfl w.heap.size 0 rfl hz (intV (List.replicate 8 0)) rfl rfl (by decide) (intV_one _) ?_; rintro w5 hr5 hw5))
  rw [lay_all _ _ rfl] at hr5
  exact bodyPost_ret (results_cell rfl rfl (rowTold.load hr5 0 (cs := intV (List.replicate 8 0)) rfl rfl)) rfl ⟨rfl, hb.trans (hw5.below (Nat.le_refl _) (by simp))⟩
theorem shufI_two : shufI 9 0 [0, 1] = [0, 1] ∨ shufI 9 0 [0, 1] = [1, 0] := by decide +kernel
theorem new3 : PL.new 7 [3] = ⟨7, 0, [3], [3], 1, [0, 0, 0, 0, 0, 0, 0, 0]⟩ := by
  have h : riseL [3] = [3] := by decide +kernel
  unfold PL.new PL.begin
  simp only [h]
  rfl
theorem next3 : (PL.new 7 [3]).next.top = 3 ∧ (PL.new 7 [3]).top = 3 := by
  rw [new3]
  exact ⟨by decide +kernel, rfl⟩
theorem sum10 : (PL.new 9 [1, 0]).top + (PL.new 9 [1, 0]).next.top = 1 ∧ (PL.new 9 [1, 0]).next.next.rounds = 2 := by
  decide +kernel
end Go.Proofs.Ytiefgicapcljiaa
