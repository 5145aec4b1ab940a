import Derived.Test.YtbphpfelinllhaaX5
namespace Go.Proofs.Ytbphpfelinllhaa
open Go.RowKit
theorem bad_good {g : Nat} {xs : List Int} {w : World} (h : Good w g xs) : Calls Try.prog 21 #[.pointer (some ⟨g, 0, none⟩)] w fun e w' => e = .returned (.bool false) ∧ w = w' := by
  obtain ⟨A, n, c, hB, _⟩ := h
  exact bad_at _ _ _ _ hB
theorem bad_badr {g : Nat} {w : World} (h : BadR w g) : Calls Try.prog 21 #[.pointer (some ⟨g, 0, none⟩)] w fun e w' => e = .returned (.bool true) ∧ w = w' := by
  obtain ⟨v, hB⟩ := h
  exact bad_at _ _ _ _ hB
theorem u8_wf_of {l : List Int} (h : l.all (fun x => decide (0 ≤ x ∧ x < 256)) = true) : ∀ x ∈ l, (Lit.int .u8 x).wf = true := by
  intro x hx
  have := List.all_eq_true.1 h x hx
  simp at this
  simp [Lit.wf, IntKind.min, IntKind.max, IntKind.signed, IntKind.bits]
  omega
theorem enc258 : ([] : List Int) ++ enc 3 258 = [0, 1, 2] := by decide
theorem num258 : num (([0, 1, 2, 9] : List Int).take 3) = 258 := by decide
theorem str012 : strOfNums [0, 1, 2] = ⟨#[0, 1, 2]⟩ := rfl

set_option maxHeartbeats 800000 in
theorem awake_any (w : World) : Calls Try.prog 11 #[] w fun e w' => e = .returned (.bool true) ∧ Below w.heap.size w w' := by
  have W3 := Lib.hid (u8_wf_of (l := [0, 1, 2]) (by decide))
  have W1 := Lib.hid (u8_wf_of (l := [9]) (by decide))
  go_enter Try.func11, Try.ntmps11
  go_wp2_with fail
  refine (put_yes none 0 0 [] 3 258 _ (Rd.nil _ _) (by omega) (by omega) (by omega)).mono ?_
  rintro e w1 ⟨v1, rfl, hown1, hb1⟩
  rw [enc258] at hown1
  obtain ⟨A1, c1, rfl, hr1⟩ := hown1.rd W3.out
  clear hown1
  go_wp2_with fail
  refine (get_yes _ 4 4 [0, 1, 2, 9] 3 _ (by exact Rd.lit w1 5 [0, 1, 2, 9] (u8_wf_of (by decide)) (by decide)) (by omega) (by omega) (by omega) (by omega)).mono ?_
  rintro e w2 ⟨v2, rfl, hown2, hb2⟩
  rw [num258] 
  obtain ⟨A2, c2, rfl, hr2⟩ := hown2.rd W1.out
  clear hown2
  have hr1' := (hr1.alloc _).below hb2
  have hbb : Below w.heap.size w w2 := (hb1.alloc hb1.size _).trans (hb2.mono (by have := hb1.size; simp; omega))
  clear hb2 hr1 hb1
  go_wp2_with fail
  refine (new_any _ 1 1 [7] _ (by exact Rd.lit w2 5 [7] (u8_wf_of (by decide)) (by decide)) (by omega)).mono ?_
  rintro e w3 ⟨g, rfl, hg, hG, hb3⟩
  have hs1 : (convert 22 9 (.slice A1 3 c1)).run Try.prog w3 = .ok (.string ⟨#[0, 1, 2]⟩) w3 := run_str Try.underlying22 Try.underlying5 ((hr1'.alloc _).below hb3) 9 Try.underlying9
  have hbc : Below w.heap.size w w3 := (hbb.alloc hbb.size _).trans (hb3.mono (by have := hbb.size; simp; omega))
  have hgg : w.heap.size ≤ g := by have := hbb.size; simp at hg; omega
  clear hb3 hr1' hbb hr2
  go_wp2_with fail
  refine (num_yes g [7] 1 _ hG (by decide) (by decide)).mono ?_
  rintro e w4 ⟨rfl, hG4, hw4⟩
  rw [show num (List.take 1 [7]) = 7 from by decide]
  clear hs1
  have hb4 : Below w.heap.size w w4 := hbc.trans (hw4.below hgg hbc.size)
  go_wp2_with fail
  refine (bad_good hG4).mono ?_
  rintro e w' ⟨rfl, rfl⟩
  go_wp2_with fail
  refine (num_no g _ 1 _ hG4 (.inr (by decide))).mono ?_
  rintro e w5 ⟨rfl, hG5, hw5⟩
  have hb5 : Below w.heap.size w w5 := hb4.trans (hw5.below hgg hb4.size)
  clear hb4 hw4 hw5 hG4 hG hbc
  go_wp2_with fail
  refine (bad_badr hG5).mono ?_
  rintro e w' ⟨rfl, rfl⟩
  go_wp2
  go_ret
  exact ⟨rfl, hb5⟩
end Go.Proofs.Ytbphpfelinllhaa
