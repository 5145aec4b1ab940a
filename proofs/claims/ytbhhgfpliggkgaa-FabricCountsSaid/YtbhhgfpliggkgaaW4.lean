/- What Bounce makes of a packet. -/
import Derived.Test.YtbhhgfpliggkgaaW3
set_option linter.unusedSimpArgs false
set_option linter.unusedVariables false
namespace Go.Proofs.Ytbhhgfpliggkgaa
open Go.RowKit Go.Shelf

set_option maxHeartbeats 4000000 in
theorem bounce_no (kd fl pa sr ds cn sq pu : Int) (A : Option Addr) (n c : Nat) (xs : List Int) (w : World) (h : Rd .u8 w A n c xs) (hn : n ≤ 70368744177664) (hf : fl ≤ 9223372036854775807) (hb : (isdB ⟨kd, fl, pa, sr, ds, cn, sq, pu⟩ n && hasB fl 8 && !hasB fl 16) = false) :
    Calls Try.prog 75 #[.agg #[.int .i64 kd, .int .i64 fl, .int .i64 pa, .int .i64 sr, .int .i64 ds, .int .i64 cn, .int .i64 sq, .int .i64 pu, .slice A n c]] w fun e w' => ∃ A' c', e = .returned (.tuple #[.agg #[.int .i64 kd, .int .i64 fl, .int .i64 pa, .int .i64 sr, .int .i64 ds, .int .i64 cn, .int .i64 sq, .int .i64 pu, .slice A' n c'], .bool false]) ∧ Ow .u8 5 w.heap.size w' (.slice A' n c') xs ∧ Below w.heap.size w w' := by
  have HI := Lib.hid (fun A c w => isd_any kd fl pa sr ds cn sq pu A n c w hf)
  have HH := Lib.hid (fun w => has_any fl 8 w (by decide) (by decide) hf)
  have HG := Lib.hid (fun w => has_any fl 16 w (by decide) (by decide) hf)
  generalize isdB ⟨kd, fl, pa, sr, ds, cn, sq, pu⟩ n = b1 at *
  generalize hasB fl 8 = b2 at *
  generalize hasB fl 16 = b3 at *
  have h' := Lib.hid h
  go_enter Try.func75, Try.ntmps75
  go_wp2_with fail
  refine (alike_any _ _ _ _ _ _ _ _ A n c xs _ (by exact (h.alloc _).alloc _) hn).mono ?_
  rintro e w1 ⟨A', c', rfl, hr, hb1⟩
  obtain ⟨hx, hy, hc⟩ := pk_new2 hb1
  simp only [World.size_alloc, Nat.add_assoc, Nat.reduceAdd] at hr
  clear hb1
  obtain ⟨c0, c1, c2, c3, c4, c5, c6, c7, c8⟩ := hx.cells9
  have f1 := fun i => hx.free i
  go_wp2_with fail
  obtain ⟨W, hW, hWx, hWb, hWk, hWo, hWs, -⟩ := pk_store (.int .i64 kd) (.int .i64 fl) (.int .i64 pa) (.int .i64 sr) (.int .i64 ds) (.int .i64 cn) (.int .i64 sq) (.int .i64 pu) (.slice A' n c') hx
  rw [hW]
  have hWy := hWk _ _ _ (by omega) hy
  have hWr := hWo _ _ _ (by omega) hr
  have hWc := hc.trans (hWb _ (Nat.le_refl _))
  clear hx hy hc hr c0 c1 c2 c3 c4 c5 c6 c7 c8 f1 hWb hWk hWo hWs hW
  refine (HI.out _ _ _).mono ?_
  rintro e w2 ⟨rfl, hb2⟩
  have hx := hWx.below hb2
  have hy := hWy.below hb2
  have hr := hWr.keep hb2 (Nat.le_refl _)
  have hc := below_on hWc hb2
  clear hWx hWy hWr hWc hb2
  obtain ⟨c0, c1, c2, c3, c4, c5, c6, c7, c8⟩ := hx.cells9
  obtain ⟨d0, d1, d2, d3, d4, d5, d6, d7, d8⟩ := hy.cells9
  have f2 := fun i => hy.free i
  have hcase : b1 = false ∨ b1 = true ∧ (b2 = false ∨ b2 = true ∧ b3 = true) := by cases b1 <;> cases b2 <;> cases b3 <;> simp_all
  clear hb h
  rcases hcase with rfl | ⟨rfl, rfl | ⟨rfl, rfl⟩⟩
  all_goals
    go_wp2_with (first | ((with_reducible refine (HH.out _).mono ?_); rintro e w1 ⟨rfl, rfl⟩) | ((with_reducible refine (HG.out _).mono ?_); rintro e w1 ⟨rfl, rfl⟩))
    refine bodyPost_ret (v := .tuple #[.agg #[.int .i64 kd, .int .i64 fl, .int .i64 pa, .int .i64 sr, .int .i64 ds, .int .i64 cn, .int .i64 sq, .int .i64 pu, .slice A' n c'], .bool false]) (by simp [results, Try.results75, go_sem, *]) rfl ⟨A', c', rfl, ?_, ?_⟩
    · refine Ow.mono (base := w.heap.size + 2) ?_ (by omega)
      clear hx hy c0 c1 c2 c3 c4 c5 c6 c7 c8 d0 d1 d2 d3 d4 d5 d6 d7 d8 f2
      repeat (first | with_reducible refine own_set ?_ (by simp) | with_reducible exact hr)
    · clear hx hy c0 c1 c2 c3 c4 c5 c6 c7 c8 d0 d1 d2 d3 d4 d5 d6 d7 d8 f2
      repeat (first | with_reducible refine Below.setCell ?_ (by simp) _ | with_reducible exact hc)
set_option maxHeartbeats 4000000 in
theorem bounce_yes (kd fl pa sr ds cn sq pu : Int) (A : Option Addr) (n c : Nat) (xs : List Int) (w : World) (h : Rd .u8 w A n c xs) (hn : n ≤ 70368744177664) (hf : fl ≤ 9223372036854775807) (hb1 : isdB ⟨kd, fl, pa, sr, ds, cn, sq, pu⟩ n = true) (hb2 : hasB fl 8 = true) (hb3 : hasB fl 16 = false) :
    Calls Try.prog 75 #[.agg #[.int .i64 kd, .int .i64 fl, .int .i64 pa, .int .i64 sr, .int .i64 ds, .int .i64 cn, .int .i64 sq, .int .i64 pu, .slice A n c]] w fun e w' => ∃ A' c', e = .returned (.tuple #[.agg #[.int .i64 kd, .int .i64 (fl + 16), .int .i64 pa, .int .i64 ds, .int .i64 sr, .int .i64 cn, .int .i64 sq, .int .i64 pu, .slice A' n c'], .bool true]) ∧ Ow .u8 5 w.heap.size w' (.slice A' n c') xs ∧ Below w.heap.size w w' := by
  have HI := Lib.hid (fun A c w => isd_any kd fl pa sr ds cn sq pu A n c w hf)
  have HH := Lib.hid (fun w => has_any fl 8 w (by decide) (by decide) hf)
  have HG := Lib.hid (fun w => has_any fl 16 w (by decide) (by decide) hf)
  obtain ⟨hf0, hf1⟩ := isd_fl hb1
  dsimp only at hf0 hf1
  rw [hb1] at HI
  rw [hb2] at HH
  rw [hb3] at HG
  clear hb1 hb2 hb3
  go_enter Try.func75, Try.ntmps75
  go_wp2_with fail
  refine (alike_any _ _ _ _ _ _ _ _ A n c xs _ (by exact (h.alloc _).alloc _) hn).mono ?_
  rintro e w1 ⟨A', c', rfl, hr, hb1⟩
  obtain ⟨hx, hy, hc⟩ := pk_new2 hb1
  simp only [World.size_alloc, Nat.add_assoc, Nat.reduceAdd] at hr
  clear hb1
  obtain ⟨c0, c1, c2, c3, c4, c5, c6, c7, c8⟩ := hx.cells9
  have f1 := fun i => hx.free i
  go_wp2_with fail
  obtain ⟨W, hW, hWx, hWb, hWk, hWo, hWs, -⟩ := pk_store (.int .i64 kd) (.int .i64 fl) (.int .i64 pa) (.int .i64 sr) (.int .i64 ds) (.int .i64 cn) (.int .i64 sq) (.int .i64 pu) (.slice A' n c') hx
  rw [hW]
  have hWy := hWk _ _ _ (by omega) hy
  have hWr := hWo _ _ _ (by omega) hr
  have hWc := hc.trans (hWb _ (Nat.le_refl _))
  clear hx hy hc hr c0 c1 c2 c3 c4 c5 c6 c7 c8 f1 hWb hWk hWo hWs hW
  refine (HI.out _ _ _).mono ?_
  rintro e w2 ⟨rfl, hb2⟩
  have hx := hWx.below hb2
  have hy := hWy.below hb2
  have hr := hWr.keep hb2 (Nat.le_refl _)
  have hc := below_on hWc hb2
  clear hWx hWy hWr hWc hb2
  obtain ⟨c0, c1, c2, c3, c4, c5, c6, c7, c8⟩ := hx.cells9
  obtain ⟨d0, d1, d2, d3, d4, d5, d6, d7, d8⟩ := hy.cells9
  have f1 := fun i => hx.free i
  have f2 := fun i => hy.free i
  clear h
  go_wp2_with (first | ((with_reducible refine (HH.out _).mono ?_); rintro e w1 ⟨rfl, rfl⟩) | ((with_reducible refine (HG.out _).mono ?_); rintro e w1 ⟨rfl, rfl⟩))
  refine bodyPost_ret (v := .tuple #[.agg #[.int .i64 kd, .int .i64 (fl + 16), .int .i64 pa, .int .i64 ds, .int .i64 sr, .int .i64 cn, .int .i64 sq, .int .i64 pu, .slice A' n c'], .bool true]) (by simp [results, Try.results75, go_sem, *]) rfl ⟨A', c', rfl, ?_, ?_⟩
  · refine Ow.mono (base := w.heap.size + 2) ?_ (by omega)
    clear hx hy c0 c1 c2 c3 c4 c5 c6 c7 c8 d0 d1 d2 d3 d4 d5 d6 d7 d8 f1 f2
    repeat (first | with_reducible refine own_set ?_ (by simp) | with_reducible exact hr)
  · clear hx hy c0 c1 c2 c3 c4 c5 c6 c7 c8 d0 d1 d2 d3 d4 d5 d6 d7 d8 f1 f2
    repeat (first | with_reducible refine Below.setCell ?_ (by simp) _ | with_reducible exact hc)
end Go.Proofs.Ytbhhgfpliggkgaa
