/- The document's calls. -/
import Derived.Test.YtpcjmkphdannfaaT2
set_option linter.unusedSimpArgs false
set_option linter.unusedVariables false
namespace Go.Proofs.Ytpcjmkphdannfaa
open Go.RowKit Go.Shelf
section
variable {w w' : World} {g : Nat} {m : Tm}
/-- The two boxes of a call of the document's: the timer's, the answer's. -/
def bx2 (w : World) (cs : List Value) : World := (w.alloc (.cells cs.toArray 28)).alloc (.cells #[.int .i64 0, .int .i64 0, .int .i64 0, .int .i64 0] 28)
theorem bx2_all (w : World) (cs : List Value) : Bk (bx2 w cs) 28 w.heap.size cs ∧ Bk (bx2 w cs) 28 (w.heap.size + 1) [.int .i64 0, .int .i64 0, .int .i64 0, .int .i64 0] ∧ Below w.heap.size w (bx2 w cs) := by
  refine ⟨(Bk.new w 28 cs).alloc _, ?_, ((Below.refl _ _).alloc (Nat.le_refl _) _).alloc (by simp) _⟩
  have := Bk.new (w.alloc (.cells cs.toArray 28)) 28 [.int .i64 0, .int .i64 0, .int .i64 0, .int .i64 0]
  rw [World.size_alloc] at this
  exact this
theorem two_st {w w1 w2 : World} {g : Nat} (h : Below w.heap.size w w1) (hw : Wr g w1 w2) (hg : w.heap.size ≤ g) : Below w.heap.size w w2 := h.trans ((st_wr hw).below h.size (fun j hj => by omega))
theorem r_new_no {b c : Int} (h : fitT b c = false) (w : World) : Calls Try.prog 7 #[.int .i64 b, .int .i64 c] w fun en w' => en = .returned (.tuple #[.agg #[.int .i64 0, .int .i64 0, .int .i64 0, .int .i64 0], .int .i64 150]) ∧ Below w.heap.size w w' := by
  have h' := fitT_cases h
  have z := Bk.new w 28 [.int .i64 0, .int .i64 0, .int .i64 0, .int .i64 0]
  have hb : Below w.heap.size w (w.alloc (.cells #[.int .i64 0, .int .i64 0, .int .i64 0, .int .i64 0] 28)) := (Below.refl _ _).alloc (Nat.le_refl _) _
  clear h
  rcases (by omega : b < 1 ∨ (1 ≤ b ∧ 1048576 < b) ∨ (1 ≤ b ∧ b ≤ 1048576 ∧ c < b) ∨ (1 ≤ b ∧ b ≤ 1048576 ∧ b ≤ c ∧ 1048576 < c)) with h | ⟨h1, h2⟩ | ⟨h1, h2, h3⟩ | ⟨h1, h2, h3, h4⟩
  all_goals
    clear h'
    go_enter Try.func7, Try.ntmps7
    go_wp2_with (first
      | (with_reducible refine at_store 28 (.tmp 4) (.tmp 21) (by rfl) ?_
         refine wpList_store_bk rowR rfl (.tmp 4) (.tmp 21) rfl w.heap.size 0 rfl z [.int .i64 0, .int .i64 0, .int .i64 0, .int .i64 0] rfl rfl (by show 0 + 4 ≤ 4; omega) (by simp [Value.oneCell']) ?_
         intro w3 hz3 hw3))
    rw [lay_all _ _ (by rfl)] at hz3
    refine bodyPost_ret (results_cell_tmp rfl rfl (rowR.load hz3 0 (cs := [.int .i64 0, .int .i64 0, .int .i64 0, .int .i64 0]) rfl rfl)) rfl ?_
    exact ⟨rfl, two_st hb hw3 (Nat.le_refl _)⟩
theorem r_new {b c : Int} (h : fitT b c = true) (w : World) : Calls Try.prog 7 #[.int .i64 b, .int .i64 c] w fun en w' => en = .returned (.tuple #[.agg #[.int .i64 (Tm.new b c).b, .int .i64 (Tm.new b c).c, .int .i64 (Tm.new b c).w, .int .i64 (Tm.new b c).l], .int .i64 0]) ∧ Below w.heap.size w w' := by
  obtain ⟨h1, h2, h3⟩ := fitT_of h
  have z := Bk.new w 28 [.int .i64 0, .int .i64 0, .int .i64 0, .int .i64 0]
  have hb : Below w.heap.size w (w.alloc (.cells #[.int .i64 0, .int .i64 0, .int .i64 0, .int .i64 0] 28)) := (Below.refl _ _).alloc (Nat.le_refl _) _
  have h4 : b ≤ 1048576 := by omega
  clear h
  go_enter Try.func7, Try.ntmps7
  go_wp2_with (first
    | (with_reducible refine at_store 28 (.tmp 4) (.tmp 25) (by rfl) ?_
       refine wpList_store_bk rowR rfl (.tmp 4) (.tmp 25) rfl w.heap.size 0 rfl z [.int .i64 b, .int .i64 c, .int .i64 b, .int .i64 0] rfl rfl (by show 0 + 4 ≤ 4; omega) (by simp [Value.oneCell']) ?_
       intro w3 hz3 hw3))
  rw [lay_all _ _ (by rfl)] at hz3
  refine bodyPost_ret (results_cell_tmp rfl rfl (rowR.load hz3 0 (cs := [.int .i64 b, .int .i64 c, .int .i64 b, .int .i64 0]) rfl rfl)) rfl ?_
  exact ⟨rfl, two_st hb hw3 (Nat.le_refl _)⟩
theorem r_again (ok : m.Ok) (w : World) : Calls Try.prog 12 #[.agg #[.int .i64 m.b, .int .i64 m.c, .int .i64 m.w, .int .i64 m.l]] w fun en w' => en = .returned (.agg #[.int .i64 m.again.b, .int .i64 m.again.c, .int .i64 m.again.w, .int .i64 m.again.l]) ∧ Below w.heap.size w w' := by
  obtain ⟨z1, z2, hb0⟩ := bx2_all w [.int .i64 m.b, .int .i64 m.c, .int .i64 m.w, .int .i64 m.l]
  have c2 := z1.cell 2 rfl
  have c3 := z1.cell 3 rfl
  have f3 := z1.free 3
  have hl0 := ok.l0
  by_cases hl : m.l = 0
  · rw [show m.again = m from if_pos hl]
    have hl' : ¬ 0 < m.l := by omega
    have HB := Lib.hid hb0
    clear hb0 hl
    unfold bx2 at *
    go_enter Try.func12, Try.ntmps12
    go_wp2_with (first
      | (with_reducible refine at_load 28 (.tmp 1) (by rfl) ?_
         refine wpList_load_bk rowR rfl (.tmp 1) rfl w.heap.size 0 rfl z1 [.int .i64 m.b, .int .i64 m.c, .int .i64 m.w, .int .i64 m.l] rfl rfl ?_)
      | (with_reducible refine at_store 28 (.tmp 2) (.tmp 9) (by rfl) ?_
         refine wpList_store_bk rowR rfl (.tmp 2) (.tmp 9) rfl (w.heap.size + 1) 0 rfl z2 [.int .i64 m.b, .int .i64 m.c, .int .i64 m.w, .int .i64 m.l] rfl rfl (by show 0 + 4 ≤ 4; omega) (by simp [Value.oneCell']) ?_
         intro w3 hz3 hw3))
    rw [lay_all _ _ (by rfl)] at hz3
    refine bodyPost_ret (results_cell rfl rfl (rowR.load hz3 0 (cs := [.int .i64 m.b, .int .i64 m.c, .int .i64 m.w, .int .i64 m.l]) rfl rfl)) rfl ?_
    exact ⟨rfl, two_st HB.out hw3 (by omega)⟩
  · rw [show m.again = ⟨m.b, m.c, m.w, m.w⟩ from if_neg hl]
    have hl' : 0 < m.l := by omega
    obtain ⟨z1s, z2s, hbs⟩ := bx2_all w [.int .i64 m.b, .int .i64 m.c, .int .i64 m.w, .int .i64 m.w]
    have HB := Lib.hid hbs
    clear hb0 hl hbs z1 z2
    unfold bx2 at *
    go_enter Try.func12, Try.ntmps12
    go_wp2_with (first
      | (with_reducible refine at_load 28 (.tmp 1) (by rfl) ?_
         refine wpList_load_bk rowR rfl (.tmp 1) rfl w.heap.size 0 rfl z1s [.int .i64 m.b, .int .i64 m.c, .int .i64 m.w, .int .i64 m.w] rfl rfl ?_)
      | (with_reducible refine at_store 28 (.tmp 2) (.tmp 9) (by rfl) ?_
         refine wpList_store_bk rowR rfl (.tmp 2) (.tmp 9) rfl (w.heap.size + 1) 0 rfl z2s [.int .i64 m.b, .int .i64 m.c, .int .i64 m.w, .int .i64 m.w] rfl rfl (by show 0 + 4 ≤ 4; omega) (by simp [Value.oneCell']) ?_
         intro w3 hz3 hw3))
    rw [lay_all _ _ (by rfl)] at hz3
    refine bodyPost_ret (results_cell rfl rfl (rowR.load hz3 0 (cs := [.int .i64 m.b, .int .i64 m.c, .int .i64 m.w, .int .i64 m.w]) rfl rfl)) rfl ?_
    exact ⟨rfl, two_st HB.out hw3 (by omega)⟩
theorem r_reset (ok : m.Ok) (w : World) : Calls Try.prog 14 #[.agg #[.int .i64 m.b, .int .i64 m.c, .int .i64 m.w, .int .i64 m.l]] w fun en w' => en = .returned (.agg #[.int .i64 m.reset.b, .int .i64 m.reset.c, .int .i64 m.reset.w, .int .i64 m.reset.l]) ∧ Below w.heap.size w w' := by
  obtain ⟨z1, z2, hb0⟩ := bx2_all w [.int .i64 m.b, .int .i64 m.c, .int .i64 m.w, .int .i64 m.l]
  have c0 := z1.cell 0 rfl
  have c2 := z1.cell 2 rfl
  have f2 := z1.free 2
  have hl0 := ok.l0
  obtain ⟨y1, y2, hby⟩ := bx2_all w [.int .i64 m.b, .int .i64 m.c, .int .i64 m.b, .int .i64 m.l]
  have d2 := y1.cell 2 rfl
  have d3 := y1.cell 3 rfl
  have g3 := y1.free 3
  by_cases hl : m.l = 0
  · rw [show m.reset = ⟨m.b, m.c, m.b, m.l⟩ from if_pos hl]
    have hl' : ¬ 0 < m.l := by omega
    have HB := Lib.hid hby
    clear hb0 hl hby z1 z2
    unfold bx2 at *
    go_enter Try.func14, Try.ntmps14
    go_wp2_with (first
      | (with_reducible refine at_load 28 (.tmp 1) (by rfl) ?_
         refine wpList_load_bk rowR rfl (.tmp 1) rfl w.heap.size 0 rfl y1 [.int .i64 m.b, .int .i64 m.c, .int .i64 m.b, .int .i64 m.l] rfl rfl ?_)
      | (with_reducible refine at_store 28 (.tmp 2) (.tmp 12) (by rfl) ?_
         refine wpList_store_bk rowR rfl (.tmp 2) (.tmp 12) rfl (w.heap.size + 1) 0 rfl y2 [.int .i64 m.b, .int .i64 m.c, .int .i64 m.b, .int .i64 m.l] rfl rfl (by show 0 + 4 ≤ 4; omega) (by simp [Value.oneCell']) ?_
         intro w3 hz3 hw3))
    rw [lay_all _ _ (by rfl)] at hz3
    refine bodyPost_ret (results_cell rfl rfl (rowR.load hz3 0 (cs := [.int .i64 m.b, .int .i64 m.c, .int .i64 m.b, .int .i64 m.l]) rfl rfl)) rfl ?_
    exact ⟨rfl, two_st HB.out hw3 (by omega)⟩
  · rw [show m.reset = ⟨m.b, m.c, m.b, m.b⟩ from if_neg hl]
    have hl' : 0 < m.l := by omega
    obtain ⟨z1s, z2s, hbs⟩ := bx2_all w [.int .i64 m.b, .int .i64 m.c, .int .i64 m.b, .int .i64 m.b]
    have HB := Lib.hid hbs
    clear hb0 hl hbs z1 z2 y1 y2 hby
    unfold bx2 at *
    go_enter Try.func14, Try.ntmps14
    go_wp2_with (first
      | (with_reducible refine at_load 28 (.tmp 1) (by rfl) ?_
         refine wpList_load_bk rowR rfl (.tmp 1) rfl w.heap.size 0 rfl z1s [.int .i64 m.b, .int .i64 m.c, .int .i64 m.b, .int .i64 m.b] rfl rfl ?_)
      | (with_reducible refine at_store 28 (.tmp 2) (.tmp 12) (by rfl) ?_
         refine wpList_store_bk rowR rfl (.tmp 2) (.tmp 12) rfl (w.heap.size + 1) 0 rfl z2s [.int .i64 m.b, .int .i64 m.c, .int .i64 m.b, .int .i64 m.b] rfl rfl (by show 0 + 4 ≤ 4; omega) (by simp [Value.oneCell']) ?_
         intro w3 hz3 hw3))
    rw [lay_all _ _ (by rfl)] at hz3
    refine bodyPost_ret (results_cell rfl rfl (rowR.load hz3 0 (cs := [.int .i64 m.b, .int .i64 m.c, .int .i64 m.b, .int .i64 m.b]) rfl rfl)) rfl ?_
    exact ⟨rfl, two_st HB.out hw3 (by omega)⟩
theorem r_run (ok : m.Ok) (on : Bool) (w : World) : Calls Try.prog 10 #[.agg #[.int .i64 m.b, .int .i64 m.c, .int .i64 m.w, .int .i64 m.l], .bool on] w fun en w' => en = .returned (.agg #[.int .i64 (m.run on).b, .int .i64 (m.run on).c, .int .i64 (m.run on).w, .int .i64 (m.run on).l]) ∧ Below w.heap.size w w' := by
  obtain ⟨z1, z2, hb0⟩ := bx2_all w [.int .i64 m.b, .int .i64 m.c, .int .i64 m.w, .int .i64 m.l]
  have c2 := z1.cell 2 rfl
  have c3 := z1.cell 3 rfl
  have f3 := z1.free 3
  cases on with
  | false =>
    rw [show m.run false = ⟨m.b, m.c, m.w, 0⟩ from rfl]
    obtain ⟨z1s, z2s, hbs⟩ := bx2_all w [.int .i64 m.b, .int .i64 m.c, .int .i64 m.w, .int .i64 0]
    have HB := Lib.hid hbs
    clear hb0 hbs z1 z2
    unfold bx2 at *
    go_enter Try.func10, Try.ntmps10
    go_wp2_with (first
      | (with_reducible refine at_load 28 (.tmp 2) (by rfl) ?_
         refine wpList_load_bk rowR rfl (.tmp 2) rfl w.heap.size 0 rfl z1s [.int .i64 m.b, .int .i64 m.c, .int .i64 m.w, .int .i64 0] rfl rfl ?_)
      | (with_reducible refine at_store 28 (.tmp 4) (.tmp 14) (by rfl) ?_
         refine wpList_store_bk rowR rfl (.tmp 4) (.tmp 14) rfl (w.heap.size + 1) 0 rfl z2s [.int .i64 m.b, .int .i64 m.c, .int .i64 m.w, .int .i64 0] rfl rfl (by show 0 + 4 ≤ 4; omega) (by simp [Value.oneCell']) ?_
         intro w3 hz3 hw3))
    rw [lay_all _ _ (by rfl)] at hz3
    refine bodyPost_ret (results_cell rfl rfl (rowR.load hz3 0 (cs := [.int .i64 m.b, .int .i64 m.c, .int .i64 m.w, .int .i64 0]) rfl rfl)) rfl ?_
    exact ⟨rfl, two_st HB.out hw3 (by omega)⟩
  | true =>
    by_cases hl : m.l = 0
    · rw [show m.run true = ⟨m.b, m.c, m.w, m.w⟩ from if_pos hl]
      obtain ⟨z1s, z2s, hbs⟩ := bx2_all w [.int .i64 m.b, .int .i64 m.c, .int .i64 m.w, .int .i64 m.w]
      have HB := Lib.hid hbs
      clear hb0 hbs z1 z2
      unfold bx2 at *
      go_enter Try.func10, Try.ntmps10
      go_wp2_with (first
        | (with_reducible refine at_load 28 (.tmp 2) (by rfl) ?_
           refine wpList_load_bk rowR rfl (.tmp 2) rfl w.heap.size 0 rfl z1s [.int .i64 m.b, .int .i64 m.c, .int .i64 m.w, .int .i64 m.w] rfl rfl ?_)
        | (with_reducible refine at_store 28 (.tmp 4) (.tmp 14) (by rfl) ?_
           refine wpList_store_bk rowR rfl (.tmp 4) (.tmp 14) rfl (w.heap.size + 1) 0 rfl z2s [.int .i64 m.b, .int .i64 m.c, .int .i64 m.w, .int .i64 m.w] rfl rfl (by show 0 + 4 ≤ 4; omega) (by simp [Value.oneCell']) ?_
           intro w3 hz3 hw3))
      rw [lay_all _ _ (by rfl)] at hz3
      refine bodyPost_ret (results_cell rfl rfl (rowR.load hz3 0 (cs := [.int .i64 m.b, .int .i64 m.c, .int .i64 m.w, .int .i64 m.w]) rfl rfl)) rfl ?_
      exact ⟨rfl, two_st HB.out hw3 (by omega)⟩
    · rw [show m.run true = m from if_neg hl]
      have HB := Lib.hid hb0
      clear hb0
      unfold bx2 at *
      go_enter Try.func10, Try.ntmps10
      go_wp2_with (first
        | (with_reducible refine at_load 28 (.tmp 2) (by rfl) ?_
           refine wpList_load_bk rowR rfl (.tmp 2) rfl w.heap.size 0 rfl z1 [.int .i64 m.b, .int .i64 m.c, .int .i64 m.w, .int .i64 m.l] rfl rfl ?_)
        | (with_reducible refine at_store 28 (.tmp 4) (.tmp 14) (by rfl) ?_
           refine wpList_store_bk rowR rfl (.tmp 4) (.tmp 14) rfl (w.heap.size + 1) 0 rfl z2 [.int .i64 m.b, .int .i64 m.c, .int .i64 m.w, .int .i64 m.l] rfl rfl (by show 0 + 4 ≤ 4; omega) (by simp [Value.oneCell']) ?_
           intro w3 hz3 hw3))
      rw [lay_all _ _ (by rfl)] at hz3
      refine bodyPost_ret (results_cell rfl rfl (rowR.load hz3 0 (cs := [.int .i64 m.b, .int .i64 m.c, .int .i64 m.w, .int .i64 m.l]) rfl rfl)) rfl ?_
      exact ⟨rfl, two_st HB.out hw3 (by omega)⟩
set_option maxHeartbeats 1000000 in
theorem r_tick (ok : m.Ok) (w : World) : Calls Try.prog 16 #[.agg #[.int .i64 m.b, .int .i64 m.c, .int .i64 m.w, .int .i64 m.l]] w fun en w' => en = .returned (.tuple #[.agg #[.int .i64 m.tick.b, .int .i64 m.tick.c, .int .i64 m.tick.w, .int .i64 m.tick.l], .bool m.fires]) ∧ Below w.heap.size w w' := by
  obtain ⟨z1, z2, hb0⟩ := bx2_all w [.int .i64 m.b, .int .i64 m.c, .int .i64 m.w, .int .i64 m.l]
  have c3 := z1.cell 3 rfl
  have f3 := z1.free 3
  have hl0 := ok.l0
  have hl1 := ok.lc
  have hcm := ok.cm
  by_cases hl : m.l = 0
  · rw [show m.tick = m from if_pos hl, show m.fires = false from by unfold Tm.fires; simp; omega]
    have HB := Lib.hid hb0
    have he : (m.l == 0) = true := by simpa using hl
    clear hb0 hl
    unfold bx2 at *
    go_enter Try.func16, Try.ntmps16
    go_wp2_with (first
      | (with_reducible refine at_load 28 (.tmp 1) (by rfl) ?_
         refine wpList_load_bk rowR rfl (.tmp 1) rfl w.heap.size 0 rfl z1 [.int .i64 m.b, .int .i64 m.c, .int .i64 m.w, .int .i64 m.l] rfl rfl ?_)
      | (with_reducible refine at_store 28 (.tmp 2) (.tmp 7) (by rfl) ?_
         refine wpList_store_bk rowR rfl (.tmp 2) (.tmp 7) rfl (w.heap.size + 1) 0 rfl z2 [.int .i64 m.b, .int .i64 m.c, .int .i64 m.w, .int .i64 m.l] rfl rfl (by show 0 + 4 ≤ 4; omega) (by simp [Value.oneCell']) ?_
         intro w3 hz3 hw3))
    rw [lay_all _ _ (by rfl)] at hz3
    refine bodyPost_ret (results_cell_tmp rfl rfl (rowR.load hz3 0 (cs := [.int .i64 m.b, .int .i64 m.c, .int .i64 m.w, .int .i64 m.l]) rfl rfl)) rfl ?_
    exact ⟨rfl, two_st HB.out hw3 (by omega)⟩
  · by_cases hl2 : m.l = 1
    · have HT : Hid (m.tick = ⟨m.b, m.c, nxt m.c m.w, nxt m.c m.w⟩ ∧ m.fires = true) := Lib.hid ⟨by unfold Tm.tick; rw [if_neg hl, if_pos hl2], by unfold Tm.fires; rw [hl2]; rfl⟩
      rw [HT.out.1, HT.out.2]
      obtain ⟨b, c, x, l⟩ := m
      have hw0 : 1 ≤ x := ok.w0
      have hw1 : x ≤ 1048576 := by have : x ≤ c := ok.wc; have : c ≤ 1048576 := ok.cm; omega
      dsimp only at *
      subst hl2
      obtain ⟨y1, y2, hby⟩ := bx2_all w [.int .i64 b, .int .i64 c, .int .i64 x, .int .i64 0]
      have d1 := y1.cell 1 rfl
      have d2 := y1.cell 2 rfl
      have d3 := y1.cell 3 rfl
      have g2 := y1.free 2
      obtain ⟨n, hn⟩ : ∃ n, n = nxt c x := ⟨_, rfl⟩
      obtain ⟨x1, x2, hbx⟩ := bx2_all w [.int .i64 b, .int .i64 c, .int .i64 n, .int .i64 0]
      have e2 := x1.cell 2 rfl
      have e3 := x1.cell 3 rfl
      have k3 := x1.free 3
      obtain ⟨z1s, z2s, hbs⟩ := bx2_all w [.int .i64 b, .int .i64 c, .int .i64 n, .int .i64 n]
      have HB := Lib.hid hbs
      clear hb0 hbs z1 z2 y1 y2 hby x1 x2 hbx ok HT hl hl0 hl1
      rcases (by omega : 2 * x < c ∨ c ≤ 2 * x) with hc | hc
      · rw [nxt_two (by omega)] at hn ⊢
        subst hn
        unfold bx2 at *
        go_enter Try.func16, Try.ntmps16
        go_wp2_with (first
          | (with_reducible refine at_load 28 (.tmp 1) (by rfl) ?_
             refine wpList_load_bk rowR rfl (.tmp 1) rfl w.heap.size 0 rfl z1s [.int .i64 b, .int .i64 c, .int .i64 (2 * x), .int .i64 (2 * x)] rfl rfl ?_)
          | (with_reducible refine at_store 28 (.tmp 2) (.tmp 26) (by rfl) ?_
             refine wpList_store_bk rowR rfl (.tmp 2) (.tmp 26) rfl (w.heap.size + 1) 0 rfl z2s [.int .i64 b, .int .i64 c, .int .i64 (2 * x), .int .i64 (2 * x)] rfl rfl (by show 0 + 4 ≤ 4; omega) (by simp [Value.oneCell']) ?_
             intro w3 hz3 hw3))
        rw [lay_all _ _ (by rfl)] at hz3
        refine bodyPost_ret (results_cell_tmp rfl rfl (rowR.load hz3 0 (cs := [.int .i64 b, .int .i64 c, .int .i64 (2 * x), .int .i64 (2 * x)]) rfl rfl)) rfl ?_
        exact ⟨rfl, two_st HB.out hw3 (by omega)⟩
      · rw [nxt_cap hc] at hn ⊢
        subst hn
        unfold bx2 at *
        go_enter Try.func16, Try.ntmps16
        go_wp2_with (first
          | (with_reducible refine at_load 28 (.tmp 1) (by rfl) ?_
             refine wpList_load_bk rowR rfl (.tmp 1) rfl w.heap.size 0 rfl z1s [.int .i64 b, .int .i64 n, .int .i64 n, .int .i64 n] rfl rfl ?_)
          | (with_reducible refine at_store 28 (.tmp 2) (.tmp 26) (by rfl) ?_
             refine wpList_store_bk rowR rfl (.tmp 2) (.tmp 26) rfl (w.heap.size + 1) 0 rfl z2s [.int .i64 b, .int .i64 n, .int .i64 n, .int .i64 n] rfl rfl (by show 0 + 4 ≤ 4; omega) (by simp [Value.oneCell']) ?_
             intro w3 hz3 hw3))
        rw [lay_all _ _ (by rfl)] at hz3
        refine bodyPost_ret (results_cell_tmp rfl rfl (rowR.load hz3 0 (cs := [.int .i64 b, .int .i64 n, .int .i64 n, .int .i64 n]) rfl rfl)) rfl ?_
        exact ⟨rfl, two_st HB.out hw3 (by omega)⟩
    · have HT : Hid (m.tick = ⟨m.b, m.c, m.w, m.l - 1⟩ ∧ m.fires = false) := Lib.hid ⟨by unfold Tm.tick; rw [if_neg hl, if_neg hl2], by unfold Tm.fires; simp; omega⟩
      rw [HT.out.1, HT.out.2]
      have hp : 0 < m.l - 1 := by omega
      obtain ⟨z1s, z2s, hbs⟩ := bx2_all w [.int .i64 m.b, .int .i64 m.c, .int .i64 m.w, .int .i64 (m.l - 1)]
      have e3 := z1s.cell 3 rfl
      have HB := Lib.hid hbs
      clear hb0 hbs z1 z2
      unfold bx2 at *
      go_enter Try.func16, Try.ntmps16
      go_wp2_with (first
        | (with_reducible refine at_load 28 (.tmp 1) (by rfl) ?_
           refine wpList_load_bk rowR rfl (.tmp 1) rfl w.heap.size 0 rfl z1s [.int .i64 m.b, .int .i64 m.c, .int .i64 m.w, .int .i64 (m.l - 1)] rfl rfl ?_)
        | (with_reducible refine at_store 28 (.tmp 2) (.tmp 15) (by rfl) ?_
           refine wpList_store_bk rowR rfl (.tmp 2) (.tmp 15) rfl (w.heap.size + 1) 0 rfl z2s [.int .i64 m.b, .int .i64 m.c, .int .i64 m.w, .int .i64 (m.l - 1)] rfl rfl (by show 0 + 4 ≤ 4; omega) (by simp [Value.oneCell']) ?_
           intro w3 hz3 hw3))
      rw [lay_all _ _ (by rfl)] at hz3
      refine bodyPost_ret (results_cell_tmp rfl rfl (rowR.load hz3 0 (cs := [.int .i64 m.b, .int .i64 m.c, .int .i64 m.w, .int .i64 (m.l - 1)]) rfl rfl)) rfl ?_
      exact ⟨rfl, two_st HB.out hw3 (by omega)⟩
end
end Go.Proofs.Ytpcjmkphdannfaa
