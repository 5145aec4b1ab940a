/- What Trim makes of a packet. -/
import Derived.Test.YtbhhgfpliggkgaaW2
set_option linter.unusedSimpArgs false
set_option linter.unusedVariables false
namespace Go.Proofs.Ytbhhgfpliggkgaa
open Go.RowKit Go.Shelf

theorem isd_fl {h : Hd} {n : Int} (hb : isdB h n = true) : 0 ≤ h.fl ∧ h.fl ≤ 63 := by
  unfold isdB chkB kdB dtB witB at hb
  simp only [Bool.and_eq_true, beq_iff_eq] at hb
  obtain ⟨h1, _, h3⟩ := hb
  rw [if_pos h1] at h3
  simp only [Bool.and_eq_true, decide_eq_true_eq] at h3
  exact h3.2.1.1
set_option maxHeartbeats 2000000 in
theorem trim_no (kd fl pa sr ds cn sq pu : Int) (A : Option Addr) (n c : Nat) (xs : List Int) (w : World) (h : Rd .u8 w A n c xs) (hn : n ≤ 70368744177664) (hf : fl ≤ 9223372036854775807) (hb : isdB ⟨kd, fl, pa, sr, ds, cn, sq, pu⟩ n = false ∨ isdB ⟨kd, fl, pa, sr, ds, cn, sq, pu⟩ n = true ∧ hasB fl 8 = true) :
    Calls Try.prog 63 #[.agg #[.int .i64 kd, .int .i64 fl, .int .i64 pa, .int .i64 sr, .int .i64 ds, .int .i64 cn, .int .i64 sq, .int .i64 pu, .slice A n c]] w fun e w' => ∃ A' c', e = .returned (.tuple #[.agg #[.int .i64 kd, .int .i64 fl, .int .i64 pa, .int .i64 sr, .int .i64 ds, .int .i64 cn, .int .i64 sq, .int .i64 pu, .slice A' n c'], .bool false]) ∧ Ow .u8 5 w.heap.size w' (.slice A' n c') xs ∧ Below w.heap.size w w' := by
  have HI := Lib.hid (fun w => isd_any kd fl pa sr ds cn sq pu A n c w hf)
  have HH := Lib.hid (fun w => has_any fl 8 w (by decide) (by decide) hf)
  generalize isdB ⟨kd, fl, pa, sr, ds, cn, sq, pu⟩ n = b1 at *
  generalize hasB fl 8 = b2 at *
  have hcase : ∃ b, b1 = b ∧ (b = true → b2 = true) := by rcases hb with rfl | ⟨rfl, rfl⟩ <;> simp
  clear hb
  obtain ⟨b, rfl, hb⟩ := hcase
  cases b1
  all_goals
    try (have hb2 : b2 = true := hb rfl)
    try subst hb2
    clear hb
    go_enter Try.func63, Try.ntmps63
    go_wp2_with fail
    refine (HI.out _).mono ?_
    rintro e w1 ⟨rfl, hb1⟩
    obtain ⟨hx, hy, hc⟩ := pk_new2 hb1
    have h1 : Rd .u8 w1 A n c xs := by exact h.below hc
    obtain ⟨c0, c1, c2, c3, c4, c5, c6, c7, c8⟩ := hx.cells9
    clear hb1
    go_wp2_with (go_at_call 77; refine (HH.out _).mono ?_; rintro e w1 ⟨rfl, rfl⟩)
    refine (alike_any _ _ _ _ _ _ _ _ A n c xs _ h1 hn).mono ?_
    rintro e w2 ⟨A', c', rfl, hr, hb2⟩
    have hy2 := hy.below hb2
    have hc2 := below_on hc hb2
    obtain ⟨d0, d1, d2, d3, d4, d5, d6, d7, d8⟩ := hy2.cells9
    have f2 := fun i => hy2.free i
    have hlt := hy.lt
    clear hb2 c0 c1 c2 c3 c4 c5 c6 c7 c8
    go_wp2
    refine bodyPost_ret (v := .tuple #[.agg #[.int .i64 kd, .int .i64 fl, .int .i64 pa, .int .i64 sr, .int .i64 ds, .int .i64 cn, .int .i64 sq, .int .i64 pu, .slice A' n c'], .bool false]) (by simp [results, Try.results63, go_sem, *]) rfl ⟨A', c', rfl, ?_, ?_⟩
    · refine Ow.mono (base := w1.heap.size) ?_ (by omega)
      clear hx hy hy2 d0 d1 d2 d3 d4 d5 d6 d7 d8 f2
      repeat (first | with_reducible refine own_set ?_ (by exact hlt) | with_reducible exact hr)
    · clear hx hy hy2 d0 d1 d2 d3 d4 d5 d6 d7 d8 f2
      repeat (first | with_reducible refine Below.setCell ?_ (by simp) _ | with_reducible exact hc2)
set_option maxHeartbeats 2000000 in
theorem trim_yes (kd fl pa sr ds cn sq pu : Int) (A : Option Addr) (n c : Nat) (w : World) (hf : fl ≤ 9223372036854775807) (hb : isdB ⟨kd, fl, pa, sr, ds, cn, sq, pu⟩ n = true) (hb' : hasB fl 8 = false) :
    Calls Try.prog 63 #[.agg #[.int .i64 kd, .int .i64 fl, .int .i64 pa, .int .i64 sr, .int .i64 ds, .int .i64 cn, .int .i64 sq, .int .i64 pu, .slice A n c]] w fun e w' => e = .returned (.tuple #[.agg #[.int .i64 kd, .int .i64 (fl + 8), .int .i64 pa, .int .i64 sr, .int .i64 ds, .int .i64 cn, .int .i64 sq, .int .i64 pu, .slice none 0 0], .bool true]) ∧ Below w.heap.size w w' := by
  have HI := Lib.hid (fun w => isd_any kd fl pa sr ds cn sq pu A n c w hf)
  have HH := Lib.hid (fun w => has_any fl 8 w (by decide) (by decide) hf)
  obtain ⟨hf0, hf1⟩ := isd_fl hb
  dsimp only at hf0 hf1
  rw [hb] at HI
  rw [hb'] at HH
  clear hb hb'
  go_enter Try.func63, Try.ntmps63
  go_wp2_with fail
  refine (HI.out _).mono ?_
  rintro e w1 ⟨rfl, hb1⟩
  obtain ⟨hx, hy, hc⟩ := pk_new2 hb1
  obtain ⟨c0, c1, c2, c3, c4, c5, c6, c7, c8⟩ := hx.cells9
  obtain ⟨d0, d1, d2, d3, d4, d5, d6, d7, d8⟩ := hy.cells9
  have f1 := fun i => hx.free i
  have f2 := fun i => hy.free i
  clear hb1
  go_wp2_with (go_at_call 77; refine (HH.out _).mono ?_; rintro e w1 ⟨rfl, rfl⟩)
  refine bodyPost_ret (v := .tuple #[.agg #[.int .i64 kd, .int .i64 (fl + 8), .int .i64 pa, .int .i64 sr, .int .i64 ds, .int .i64 cn, .int .i64 sq, .int .i64 pu, .slice none 0 0], .bool true]) (by simp [results, Try.results63, go_sem, *]) rfl ⟨rfl, ?_⟩
  · clear hx hy c0 c1 c2 c3 c4 c5 c6 c7 c8 d0 d1 d2 d3 d4 d5 d6 d7 d8 f1 f2
    repeat (first | with_reducible refine Below.setCell ?_ (by simp) _ | with_reducible exact hc)
end Go.Proofs.Ytbhhgfpliggkgaa
