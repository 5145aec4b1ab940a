/- A receiver is made, or not. -/
import Derived.Test.YtmmjhijgedboiaaE13
set_option linter.unusedSimpArgs false
set_option linter.unusedVariables false
set_option maxRecDepth 100000
namespace Go.Proofs.Ytmmjhijgedboiaa
open Go.RowKit Go.Shelf
def okS (c : Cf) : Bool := witB c.c1 1 8 && witB c.c4 1 256
def okR (s d n k : Int) : Bool := witB s 0 7 && witB d 0 7 && !(s == d) && witB n 1 1073741824 && witB k 0 1
def newE (c : Cf) (s d n k : Int) : Int := if okS c = false then 190 else if okR s d n k = false then 5 else 0
section
variable {w : World}
set_option maxHeartbeats 4000000 in
theorem v_new_bad (c : Cf) (s d n k : Int) (h : newE c s d n k ≠ 0) : Calls Try.prog 6 #[.agg #[.int .i64 c.c0, .int .i64 c.c1, .int .i64 c.c2, .int .i64 c.c3, .int .i64 c.c4, .int .i64 c.c5, .int .i64 c.c6, .int .i64 c.c7, .int .i64 c.c8, .int .i64 c.c9, .int .i64 c.c10, .int .i64 c.c11, .int .i64 c.c12, .int .i64 c.c13], .int .i64 s, .int .i64 d, .int .i64 n, .int .i64 k] w fun en w' => en = .returned (.tuple #[.pointer none, .int .i64 (newE c s d n k)]) ∧ Below w.heap.size w w' := by
  cases h1 : witB c.c1 1 8 with
  | false =>
    have HE : Hid (newE c s d n k = 190) := Lib.hid (by unfold newE okS okR; rw [h1]; rfl)
    clear h
    go_enter Try.func6, Try.ntmps6
    go_wp2_with (first
      | (go_at_call 29; refine (v_from _ _ _ _).mono ?_; rintro e w' ⟨rfl, rfl⟩)
      | (go_at_call 30; refine (v_host _ _).mono ?_; rintro e w' ⟨rfl, rfl⟩))
    go_ret2
    exact ⟨by rw [HE.out]; rfl, (Below.refl _ _).alloc (Nat.le_refl _) _⟩
  | true =>
    cases h2 : witB c.c4 1 256 with
    | false =>
      have HE : Hid (newE c s d n k = 190) := Lib.hid (by unfold newE okS okR; rw [h1, h2]; rfl)
      clear h
      go_enter Try.func6, Try.ntmps6
      go_wp2_with (first
        | (go_at_call 29; refine (v_from _ _ _ _).mono ?_; rintro e w' ⟨rfl, rfl⟩)
        | (go_at_call 30; refine (v_host _ _).mono ?_; rintro e w' ⟨rfl, rfl⟩))
      go_ret2
      exact ⟨by rw [HE.out]; rfl, (Below.refl _ _).alloc (Nat.le_refl _) _⟩
    | true =>
      cases h3 : witB s 0 7 with
      | false =>
        have HE : Hid (newE c s d n k = 5) := Lib.hid (by unfold newE okS okR; rw [h1, h2, h3]; rfl)
        clear h
        go_enter Try.func6, Try.ntmps6
        go_wp2_with (first
          | (go_at_call 29; refine (v_from _ _ _ _).mono ?_; rintro e w' ⟨rfl, rfl⟩)
          | (go_at_call 30; refine (v_host _ _).mono ?_; rintro e w' ⟨rfl, rfl⟩))
        go_ret2
        exact ⟨by rw [HE.out]; rfl, (Below.refl _ _).alloc (Nat.le_refl _) _⟩
      | true =>
        cases h4 : witB d 0 7 with
        | false =>
          have HE : Hid (newE c s d n k = 5) := Lib.hid (by unfold newE okS okR; rw [h1, h2, h3, h4]; rfl)
          clear h
          go_enter Try.func6, Try.ntmps6
          go_wp2_with (first
            | (go_at_call 29; refine (v_from _ _ _ _).mono ?_; rintro e w' ⟨rfl, rfl⟩)
            | (go_at_call 30; refine (v_host _ _).mono ?_; rintro e w' ⟨rfl, rfl⟩))
          go_ret2
          exact ⟨by rw [HE.out]; rfl, (Below.refl _ _).alloc (Nat.le_refl _) _⟩
        | true =>
          cases h5 : (s == d) with
          | true =>
            have HE : Hid (newE c s d n k = 5) := Lib.hid (by unfold newE okS okR; rw [h1, h2, h3, h4, h5]; rfl)
            clear h
            go_enter Try.func6, Try.ntmps6
            go_wp2_with (first
              | (go_at_call 29; refine (v_from _ _ _ _).mono ?_; rintro e w' ⟨rfl, rfl⟩)
              | (go_at_call 30; refine (v_host _ _).mono ?_; rintro e w' ⟨rfl, rfl⟩))
            go_ret2
            exact ⟨by rw [HE.out]; rfl, (Below.refl _ _).alloc (Nat.le_refl _) _⟩
          | false =>
            cases h6 : witB n 1 1073741824 with
            | false =>
              have HE : Hid (newE c s d n k = 5) := Lib.hid (by unfold newE okS okR; rw [h1, h2, h3, h4, h5, h6]; rfl)
              clear h
              go_enter Try.func6, Try.ntmps6
              go_wp2_with (first
                | (go_at_call 29; refine (v_from _ _ _ _).mono ?_; rintro e w' ⟨rfl, rfl⟩)
                | (go_at_call 30; refine (v_host _ _).mono ?_; rintro e w' ⟨rfl, rfl⟩))
              go_ret2
              exact ⟨by rw [HE.out]; rfl, (Below.refl _ _).alloc (Nat.le_refl _) _⟩
            | true =>
              cases h7 : witB k 0 1 with
              | false =>
                have HE : Hid (newE c s d n k = 5) := Lib.hid (by unfold newE okS okR; rw [h1, h2, h3, h4, h5, h6, h7]; rfl)
                clear h
                go_enter Try.func6, Try.ntmps6
                go_wp2_with (first
                  | (go_at_call 29; refine (v_from _ _ _ _).mono ?_; rintro e w' ⟨rfl, rfl⟩)
                  | (go_at_call 30; refine (v_host _ _).mono ?_; rintro e w' ⟨rfl, rfl⟩))
                go_ret2
                exact ⟨by rw [HE.out]; rfl, (Below.refl _ _).alloc (Nat.le_refl _) _⟩
              | true =>
                exact absurd (by unfold newE okS okR; rw [h1, h2, h3, h4, h5, h6, h7]; rfl) h
theorem newE_ok {c : Cf} {s d n k : Int} (h : newE c s d n k = 0) : okS c = true ∧ okR s d n k = true := by
  unfold newE at h
  cases h1 : okS c <;> cases h2 : okR s d n k <;> simp [h1, h2] at h ⊢
set_option maxHeartbeats 4000000 in
theorem v_new_ok (c : Cf) (s d n k : Int) (h : newE c s d n k = 0) {pa size : Nat} (hc1 : c.c1 = pa) (hc4 : c.c4 = size) : Calls Try.prog 6 #[.agg #[.int .i64 c.c0, .int .i64 c.c1, .int .i64 c.c2, .int .i64 c.c3, .int .i64 c.c4, .int .i64 c.c5, .int .i64 c.c6, .int .i64 c.c7, .int .i64 c.c8, .int .i64 c.c9, .int .i64 c.c10, .int .i64 c.c11, .int .i64 c.c12, .int .i64 c.c13], .int .i64 s, .int .i64 d, .int .i64 n, .int .i64 k] w fun en w' => ∃ r e F, en = .returned (.tuple #[.pointer (some ⟨r, 0, none⟩), .int .i64 0]) ∧ RcA F w' r e (Rm.new size pa s d n k) ∧ (∀ x, FR F r x → w.heap.size ≤ x) ∧ Below w.heap.size w w' := by
  obtain ⟨g1, g2⟩ := newE_ok h
  simp only [okS, okR, Bool.and_eq_true] at g1 g2
  obtain ⟨h1, h2⟩ := g1
  obtain ⟨⟨⟨⟨h3, h4⟩, h5'⟩, h6⟩, h7⟩ := g2
  have h5 : (s == d) = false := by cases hh : (s == d) <;> simp_all
  have hs : 1 ≤ size ∧ size ≤ 256 := by
    have := h2
    unfold witB at this
    rw [decide_eq_true_eq, hc4] at this
    omega
  have HN := Lib.hid (fun (W : World) => v_newEnd (w := W) c pa size s d n k hc1 hc4 hs.1 hs.2)
  have hb1 : Below w.heap.size w (w.alloc (.cells #[.int .i64 c.c0, .int .i64 c.c1, .int .i64 c.c2, .int .i64 c.c3, .int .i64 c.c4, .int .i64 c.c5, .int .i64 c.c6, .int .i64 c.c7, .int .i64 c.c8, .int .i64 c.c9, .int .i64 c.c10, .int .i64 c.c11, .int .i64 c.c12, .int .i64 c.c13] 23)) := (Below.refl _ w).alloc (Nat.le_refl _) _
  have HB := Lib.hid hb1
  have HZ := Lib.hid (Bk.new w 23 c.cl)
  clear h hc1 hc4 hs hb1 h5'
  go_enter Try.func6, Try.ntmps6
  go_wp2_with (first
    | (go_at_call 29; refine (v_from _ _ _ _).mono ?_; rintro e w' ⟨rfl, rfl⟩)
    | (go_at_call 30; refine (v_host _ _).mono ?_; rintro e w' ⟨rfl, rfl⟩))
  refine (HN.out _).mono ?_
  rintro en w2 ⟨e, F, rfl, he, hF, hb2⟩
  have HE := Lib.hid he
  have HF := Lib.hid hF
  have HB2 := Lib.hid (HB.out.trans (hb2.mono HB.out.size))
  clear he hF hb2
  go_wp2
  go_ret2
  have hsz := HB.out.size
  have hsz2 := HB2.out.size
  have hb3 : Below w2.heap.size w2 (w2.alloc (.cells #[.pointer (some ⟨e, 0, none⟩)] 79)) := (Below.refl _ _).alloc (Nat.le_refl _) _
  refine ⟨w2.heap.size, e, F, rfl, ⟨Bk.new w2 79 [.pointer (some ⟨e, 0, none⟩)], HE.out.below hb3, fun hf => by have := HE.out.lt _ hf; omega⟩, ?_, HB2.out.trans (hb3.mono hsz2)⟩
  rintro x (hx | rfl)
  · have := HF.out x hx; omega
  · exact hsz2
end
end Go.Proofs.Ytmmjhijgedboiaa
