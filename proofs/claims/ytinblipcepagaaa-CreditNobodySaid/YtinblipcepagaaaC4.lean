/- The document's Pull and TakeFree. -/
import Derived.Test.YtinblipcepagaaaC3
set_option linter.unusedSimpArgs false
set_option linter.unusedVariables false
namespace Go.Proofs.Ytinblipcepagaaa
open Go.RowKit Go.Shelf
section
variable {w w' : World} {g : Nat} {m : Cm}
theorem r_pull (ok : m.Ok) (n : Int) (w : World) : Calls Try.prog 16 #[.agg #[.int .i64 m.f, .int .i64 m.p, .int .i64 m.s, .int .i64 m.t], .int .i64 n] w fun en w' => en = .returned (.tuple #[.agg #[.int .i64 (m.pull n).f, .int .i64 (m.pull n).p, .int .i64 (m.pull n).s, .int .i64 (m.pull n).t], .int .i64 (m.more n), .int .i64 (pullE n)]) ∧ Below w.heap.size w w' := by
  obtain ⟨z1, z2, hb⟩ := bx2_all w [.int .i64 m.f, .int .i64 m.p, .int .i64 m.s, .int .i64 m.t]
  have hb1 := ok.s0
  have hb2 := ok.s1
  have hb3 := ok.p1
  have c1 := z1.cell 1 rfl
  have f1 := z1.free 1
  by_cases hn : n < 0 ∨ 1152921504606846976 < n
  · have HV := Lib.hid (Cm.more_no (m := m) hn)
    have HB := Lib.hid hb
    have hc : n < 0 ∨ (0 ≤ n ∧ 1152921504606846976 < n) := by omega
    clear hn hb
    unfold bx2 at *
    rcases hc with h | ⟨h1, h2⟩
    all_goals
      go_enter Try.func16, Try.ntmps16
      go_wp2_with (first
        | (with_reducible refine at_load 28 (.tmp 2) (by rfl) ?_
           refine wpList_load_bk rowR rfl (.tmp 2) rfl w.heap.size 0 rfl z1 [.int .i64 m.f, .int .i64 m.p, .int .i64 m.s, .int .i64 m.t] rfl rfl ?_)
        | (with_reducible refine at_store 28 (.tmp 4) (.tmp 14) (by rfl) ?_
           refine wpList_store_bk rowR rfl (.tmp 4) (.tmp 14) rfl (w.heap.size + 1) 0 rfl z2 [.int .i64 m.f, .int .i64 m.p, .int .i64 m.s, .int .i64 m.t] rfl rfl (by show 0 + 4 ≤ 4; omega) (by simp [Value.oneCell']) ?_
           intro w3 hz3 hw3))
      rw [lay_all _ _ (by rfl)] at hz3
      refine bodyPost_ret (results_cell_tmp2 rfl rfl (rowR.load hz3 0 (cs := [.int .i64 m.f, .int .i64 m.p, .int .i64 m.s, .int .i64 m.t]) rfl rfl)) rfl ?_
      rw [HV.out.1, HV.out.2.1, HV.out.2.2]
      exact ⟨rfl, two_st HB.out hw3 (by omega)⟩
  · have h1 : 0 ≤ n := by omega
    have h2 : n ≤ 1152921504606846976 := by omega
    have hp0 : 0 ≤ m.p := by omega
    by_cases hm : n ≤ m.p
    · have HV := Lib.hid (Cm.more_old (m := m) h1 h2 hm)
      have HB := Lib.hid hb
      have hmx : ¬ 0 < n - m.p := by omega
      clear hn hb hb1 hb2
      unfold bx2 at *
      go_enter Try.func16, Try.ntmps16
      go_wp2_with (first
        | (with_reducible refine at_load 28 (.tmp 2) (by rfl) ?_
           refine wpList_load_bk rowR rfl (.tmp 2) rfl w.heap.size 0 rfl z1 [.int .i64 m.f, .int .i64 m.p, .int .i64 m.s, .int .i64 m.t] rfl rfl ?_)
        | (with_reducible refine at_store 28 (.tmp 4) (.tmp 25) (by rfl) ?_
           refine wpList_store_bk rowR rfl (.tmp 4) (.tmp 25) rfl (w.heap.size + 1) 0 rfl z2 [.int .i64 m.f, .int .i64 m.p, .int .i64 m.s, .int .i64 m.t] rfl rfl (by show 0 + 4 ≤ 4; omega) (by simp [Value.oneCell']) ?_
           intro w3 hz3 hw3))
      rw [show m.pull n = m from by unfold Cm.pull; rw [HV.out.1, Int.add_zero]]
      rw [lay_all _ _ (by rfl)] at hz3
      refine bodyPost_ret (results_cell_tmp2 rfl rfl (rowR.load hz3 0 (cs := [.int .i64 m.f, .int .i64 m.p, .int .i64 m.s, .int .i64 m.t]) rfl rfl)) rfl ?_
      rw [HV.out.1, HV.out.2]
      exact ⟨rfl, two_st HB.out hw3 (by omega)⟩
    · have HV := Lib.hid (Cm.more_new (m := m) h1 h2 (by omega))
      obtain ⟨z1s, z2s, hbs⟩ := bx2_all w [.int .i64 m.f, .int .i64 (m.p + (n - m.p)), .int .i64 m.s, .int .i64 m.t]
      have HB := Lib.hid hbs
      have hmx : 0 < n - m.p := by omega
      clear hn hb hb1 hb2 z1 z2 hbs
      unfold bx2 at *
      go_enter Try.func16, Try.ntmps16
      go_wp2_with (first
        | (with_reducible refine at_load 28 (.tmp 2) (by rfl) ?_
           refine wpList_load_bk rowR rfl (.tmp 2) rfl w.heap.size 0 rfl z1s [.int .i64 m.f, .int .i64 (m.p + (n - m.p)), .int .i64 m.s, .int .i64 m.t] rfl rfl ?_)
        | (with_reducible refine at_store 28 (.tmp 4) (.tmp 25) (by rfl) ?_
           refine wpList_store_bk rowR rfl (.tmp 4) (.tmp 25) rfl (w.heap.size + 1) 0 rfl z2s [.int .i64 m.f, .int .i64 (m.p + (n - m.p)), .int .i64 m.s, .int .i64 m.t] rfl rfl (by show 0 + 4 ≤ 4; omega) (by simp [Value.oneCell']) ?_
           intro w3 hz3 hw3))
      rw [show m.pull n = ⟨m.f, m.p + (n - m.p), m.s, m.t⟩ from by unfold Cm.pull; rw [HV.out.1]]
      rw [lay_all _ _ (by rfl)] at hz3
      refine bodyPost_ret (results_cell_tmp2 rfl rfl (rowR.load hz3 0 (cs := [.int .i64 m.f, .int .i64 (m.p + (n - m.p)), .int .i64 m.s, .int .i64 m.t]) rfl rfl)) rfl ?_
      rw [HV.out.1, HV.out.2]
      exact ⟨rfl, two_st HB.out hw3 (by omega)⟩
theorem r_take (ok : m.Ok) (n : Int) (w : World) : Calls Try.prog 13 #[.agg #[.int .i64 m.f, .int .i64 m.p, .int .i64 m.s, .int .i64 m.t], .int .i64 n] w fun en w' => en = .returned (.tuple #[.agg #[.int .i64 (m.take n).f, .int .i64 (m.take n).p, .int .i64 (m.take n).s, .int .i64 (m.take n).t], .int .i64 (m.taken n)]) ∧ Below w.heap.size w w' := by
  obtain ⟨k, hk⟩ : ∃ k, k = m.taken n := ⟨_, rfl⟩
  have hf0 := ok.f0
  have hf1 := ok.f1
  have hkk : (n < 1 → k = 0) ∧ (1 ≤ n → n ≤ m.f → k = n) ∧ (1 ≤ n → m.f ≤ n → k = m.f) := ⟨fun h => hk.trans (Cm.taken_no h), fun h1 h2 => hk.trans (Cm.taken_all h1 h2), fun h1 h2 => hk.trans (Cm.taken_some h1 h2)⟩
  have HV : Hid (m.take n = ⟨m.f - k, m.p, m.s, m.t⟩ ∧ m.taken n = k) := Lib.hid ⟨by unfold Cm.take; rw [hk], hk.symm⟩
  clear hk
  obtain ⟨z1s, z2s, hbs⟩ := bx2_all w [.int .i64 (m.f - k), .int .i64 m.p, .int .i64 m.s, .int .i64 m.t]
  have c0 := (bx2_all w [.int .i64 m.f, .int .i64 m.p, .int .i64 m.s, .int .i64 m.t]).1.cell 0 rfl
  have f0 := (bx2_all w [.int .i64 m.f, .int .i64 m.p, .int .i64 m.s, .int .i64 m.t]).1.free 0
  have HB := Lib.hid hbs
  rw [HV.out.1, HV.out.2]
  rcases (by omega : n ≤ 0 ∨ (1 ≤ n ∧ n ≤ m.f) ∨ ((1 ≤ n ∧ m.f < n) ∧ 0 < m.f) ∨ ((1 ≤ n ∧ m.f < n) ∧ ¬ 0 < m.f)) with h | ⟨h1, h2⟩ | ⟨⟨h1, h2⟩, hp⟩ | ⟨⟨h1, h2⟩, hp⟩
  · obtain rfl := hkk.1 (by omega)
    clear hkk hbs
    rw [Int.sub_zero] at *
    unfold bx2 at *
    have h2 : n ≤ m.f := by omega
    go_enter Try.func13, Try.ntmps13
    go_wp2_with (first
      | (with_reducible refine at_load 28 (.tmp 2) (by rfl) ?_
         refine wpList_load_bk rowR rfl (.tmp 2) rfl w.heap.size 0 rfl z1s [.int .i64 m.f, .int .i64 m.p, .int .i64 m.s, .int .i64 m.t] rfl rfl ?_)
      | (with_reducible refine at_store 28 (.tmp 4) (.tmp 17) (by rfl) ?_
         refine wpList_store_bk rowR rfl (.tmp 4) (.tmp 17) rfl (w.heap.size + 1) 0 rfl z2s [.int .i64 m.f, .int .i64 m.p, .int .i64 m.s, .int .i64 m.t] rfl rfl (by show 0 + 4 ≤ 4; omega) (by simp [Value.oneCell']) ?_
         intro w3 hz3 hw3))
    all_goals
      rw [lay_all _ _ (by rfl)] at hz3
      refine bodyPost_ret (results_cell_tmp rfl rfl (rowR.load hz3 0 (cs := [.int .i64 m.f, .int .i64 m.p, .int .i64 m.s, .int .i64 m.t]) rfl rfl)) rfl ?_
      exact ⟨rfl, two_st HB.out hw3 (by omega)⟩
  · obtain rfl := hkk.2.1 h1 h2
    clear hkk hbs
    unfold bx2 at *
    have h0 : 0 ≤ k := by omega
    go_enter Try.func13, Try.ntmps13
    go_wp2_with (first
      | (with_reducible refine at_load 28 (.tmp 2) (by rfl) ?_
         refine wpList_load_bk rowR rfl (.tmp 2) rfl w.heap.size 0 rfl z1s [.int .i64 (m.f - k), .int .i64 m.p, .int .i64 m.s, .int .i64 m.t] rfl rfl ?_)
      | (with_reducible refine at_store 28 (.tmp 4) (.tmp 17) (by rfl) ?_
         refine wpList_store_bk rowR rfl (.tmp 4) (.tmp 17) rfl (w.heap.size + 1) 0 rfl z2s [.int .i64 (m.f - k), .int .i64 m.p, .int .i64 m.s, .int .i64 m.t] rfl rfl (by show 0 + 4 ≤ 4; omega) (by simp [Value.oneCell']) ?_
         intro w3 hz3 hw3))
    all_goals
      rw [lay_all _ _ (by rfl)] at hz3
      refine bodyPost_ret (results_cell_tmp rfl rfl (rowR.load hz3 0 (cs := [.int .i64 (m.f - k), .int .i64 m.p, .int .i64 m.s, .int .i64 m.t]) rfl rfl)) rfl ?_
      exact ⟨rfl, two_st HB.out hw3 (by omega)⟩
  · obtain rfl := hkk.2.2 h1 (by omega)
    clear hkk hbs
    unfold bx2 at *
    rw [Int.sub_self] at *
    go_enter Try.func13, Try.ntmps13
    go_wp2_with (first
      | (with_reducible refine at_load 28 (.tmp 2) (by rfl) ?_
         refine wpList_load_bk rowR rfl (.tmp 2) rfl w.heap.size 0 rfl z1s [.int .i64 0, .int .i64 m.p, .int .i64 m.s, .int .i64 m.t] rfl rfl ?_)
      | (with_reducible refine at_store 28 (.tmp 4) (.tmp 17) (by rfl) ?_
         refine wpList_store_bk rowR rfl (.tmp 4) (.tmp 17) rfl (w.heap.size + 1) 0 rfl z2s [.int .i64 0, .int .i64 m.p, .int .i64 m.s, .int .i64 m.t] rfl rfl (by show 0 + 4 ≤ 4; omega) (by simp [Value.oneCell']) ?_
         intro w3 hz3 hw3))
    all_goals
      rw [lay_all _ _ (by rfl)] at hz3
      refine bodyPost_ret (results_cell_tmp rfl rfl (rowR.load hz3 0 (cs := [.int .i64 0, .int .i64 m.p, .int .i64 m.s, .int .i64 m.t]) rfl rfl)) rfl ?_
      exact ⟨rfl, two_st HB.out hw3 (by omega)⟩
  · obtain rfl : k = 0 := by have := hkk.2.2 h1 (by omega); omega
    clear hkk hbs
    rw [Int.sub_zero] at *
    unfold bx2 at *
    go_enter Try.func13, Try.ntmps13
    go_wp2_with (first
      | (with_reducible refine at_load 28 (.tmp 2) (by rfl) ?_
         refine wpList_load_bk rowR rfl (.tmp 2) rfl w.heap.size 0 rfl z1s [.int .i64 m.f, .int .i64 m.p, .int .i64 m.s, .int .i64 m.t] rfl rfl ?_)
      | (with_reducible refine at_store 28 (.tmp 4) (.tmp 17) (by rfl) ?_
         refine wpList_store_bk rowR rfl (.tmp 4) (.tmp 17) rfl (w.heap.size + 1) 0 rfl z2s [.int .i64 m.f, .int .i64 m.p, .int .i64 m.s, .int .i64 m.t] rfl rfl (by show 0 + 4 ≤ 4; omega) (by simp [Value.oneCell']) ?_
         intro w3 hz3 hw3))
    all_goals
      rw [lay_all _ _ (by rfl)] at hz3
      refine bodyPost_ret (results_cell_tmp rfl rfl (rowR.load hz3 0 (cs := [.int .i64 m.f, .int .i64 m.p, .int .i64 m.s, .int .i64 m.t]) rfl rfl)) rfl ?_
      exact ⟨rfl, two_st HB.out hw3 (by omega)⟩
end
end Go.Proofs.Ytinblipcepagaaa
