/- The reference: what ports make of a packet. -/
import Derived.Test.YtbhhgfpliggkgaaW6
set_option linter.unusedSimpArgs false
set_option linter.unusedVariables false
namespace Go.Proofs.Ytbhhgfpliggkgaa
open Go.RowKit Go.Shelf

set_option maxHeartbeats 4000000 in
theorem rtrim_no (kd fl pa sr ds cn sq pu : Int) (A : Option Addr) (n c : Nat) (w : World) (hf : fl ≤ 9223372036854775807) (hb : (isdB ⟨kd, fl, pa, sr, ds, cn, sq, pu⟩ n && !hasB fl 8) = false) :
    Calls Try.prog 71 #[.agg #[.int .i64 kd, .int .i64 fl, .int .i64 pa, .int .i64 sr, .int .i64 ds, .int .i64 cn, .int .i64 sq, .int .i64 pu, .slice A n c]] w fun e w' => e = .returned (.tuple #[.agg #[.int .i64 kd, .int .i64 fl, .int .i64 pa, .int .i64 sr, .int .i64 ds, .int .i64 cn, .int .i64 sq, .int .i64 pu, .slice A n c], .bool false]) ∧ Below w.heap.size w w' := by
  have HI := Lib.hid (fun w => ris_any kd fl pa sr ds cn sq pu A n c w hf)
  have HH := Lib.hid (fun w => rhas_any fl 8 w (by decide) (by decide) hf)
  have HG := Lib.hid (fun w => rhas_any fl 16 w (by decide) (by decide) hf)
  unfold isdB at hb
  dsimp only at hb
  generalize chkB ⟨kd, fl, pa, sr, ds, cn, sq, pu⟩ n = b1 at *
  generalize hasB fl 8 = b2 at *
  have hcase : b1 = false ∨ b1 = true ∧ ((kd != 1) = true ∨ kd = 1 ∧ b2 = true) := by by_cases hk : kd = 1 <;> cases b1 <;> cases b2 <;> simp_all
  clear hb
  rcases hcase with rfl | ⟨rfl, hk | ⟨rfl, rfl⟩⟩
  all_goals
    go_enter Try.func71, Try.ntmps71
    go_wp2_with fail
    refine (HI.out _).mono ?_
    rintro e w1 ⟨rfl, hb1⟩
    obtain ⟨hx, hy, hc⟩ := pk_new2 hb1
    clear hb1
    obtain ⟨c0, c1, c2, c3, c4, c5, c6, c7, c8⟩ := hx.cells9
    obtain ⟨d0, d1, d2, d3, d4, d5, d6, d7, d8⟩ := hy.cells9
    have f2 := fun i => hy.free i
    go_wp2_with (first | ((with_reducible refine (HH.out _).mono ?_); rintro e w1 ⟨rfl, rfl⟩))
    refine bodyPost_ret (v := .tuple #[.agg #[.int .i64 _, .int .i64 fl, .int .i64 pa, .int .i64 sr, .int .i64 ds, .int .i64 cn, .int .i64 sq, .int .i64 pu, .slice A n c], .bool false]) (by simp [results, Try.results71, go_sem, *]) rfl ⟨rfl, ?_⟩
    · clear hx hy c0 c1 c2 c3 c4 c5 c6 c7 c8 d0 d1 d2 d3 d4 d5 d6 d7 d8 f2
      repeat (first | with_reducible refine Below.setCell ?_ (by simp) _ | with_reducible exact hc)
set_option maxHeartbeats 4000000 in
theorem rtrim_yes (kd fl pa sr ds cn sq pu : Int) (A : Option Addr) (n c : Nat) (w : World) (hf : fl ≤ 9223372036854775807) (hb : isdB ⟨kd, fl, pa, sr, ds, cn, sq, pu⟩ n = true) (hb' : hasB fl 8 = false) :
    Calls Try.prog 71 #[.agg #[.int .i64 kd, .int .i64 fl, .int .i64 pa, .int .i64 sr, .int .i64 ds, .int .i64 cn, .int .i64 sq, .int .i64 pu, .slice A n c]] w fun e w' => e = .returned (.tuple #[.agg #[.int .i64 kd, .int .i64 (fl + 8), .int .i64 pa, .int .i64 sr, .int .i64 ds, .int .i64 cn, .int .i64 sq, .int .i64 pu, .slice none 0 0], .bool true]) ∧ Below w.heap.size w w' := by
  have HI := Lib.hid (fun w => ris_any kd fl pa sr ds cn sq pu A n c w hf)
  have HH := Lib.hid (fun w => rhas_any fl 8 w (by decide) (by decide) hf)
  have HG := Lib.hid (fun w => rhas_any fl 16 w (by decide) (by decide) hf)
  obtain ⟨hf0, hf1⟩ := isd_fl hb
  dsimp only at hf0 hf1
  unfold isdB at hb
  dsimp only at hb
  simp only [Bool.and_eq_true, beq_iff_eq] at hb
  obtain ⟨rfl, hb⟩ := hb
  rw [hb] at HI
  rw [hb'] at HH
  clear hb hb'
  go_enter Try.func71, Try.ntmps71
  go_wp2_with fail
  refine (HI.out _).mono ?_
  rintro e w1 ⟨rfl, hb1⟩
  obtain ⟨hx, hy, hc⟩ := pk_new2 hb1
  clear hb1
  obtain ⟨c0, c1, c2, c3, c4, c5, c6, c7, c8⟩ := hx.cells9
  obtain ⟨d0, d1, d2, d3, d4, d5, d6, d7, d8⟩ := hy.cells9
  have f1 := fun i => hx.free i
  have f2 := fun i => hy.free i
  go_wp2_with (first | ((with_reducible refine (HH.out _).mono ?_); rintro e w1 ⟨rfl, rfl⟩))
  refine bodyPost_ret (v := .tuple #[.agg #[.int .i64 1, .int .i64 (fl + 8), .int .i64 pa, .int .i64 sr, .int .i64 ds, .int .i64 cn, .int .i64 sq, .int .i64 pu, .slice none 0 0], .bool true]) (by simp [results, Try.results71, go_sem, *]) rfl ⟨rfl, ?_⟩
  · clear hx hy c0 c1 c2 c3 c4 c5 c6 c7 c8 d0 d1 d2 d3 d4 d5 d6 d7 d8 f1 f2
    repeat (first | with_reducible refine Below.setCell ?_ (by simp) _ | with_reducible exact hc)
set_option maxHeartbeats 4000000 in
theorem rbounce_no (kd fl pa sr ds cn sq pu : Int) (A : Option Addr) (n c : Nat) (w : World) (hf : fl ≤ 9223372036854775807) (hb : (isdB ⟨kd, fl, pa, sr, ds, cn, sq, pu⟩ n && hasB fl 8 && !hasB fl 16) = false) :
    Calls Try.prog 73 #[.agg #[.int .i64 kd, .int .i64 fl, .int .i64 pa, .int .i64 sr, .int .i64 ds, .int .i64 cn, .int .i64 sq, .int .i64 pu, .slice A n c]] w fun e w' => e = .returned (.tuple #[.agg #[.int .i64 kd, .int .i64 fl, .int .i64 pa, .int .i64 sr, .int .i64 ds, .int .i64 cn, .int .i64 sq, .int .i64 pu, .slice A n c], .bool false]) ∧ Below w.heap.size w w' := by
  have HI := Lib.hid (fun w => ris_any kd fl pa sr ds cn sq pu A n c w hf)
  have HH := Lib.hid (fun w => rhas_any fl 8 w (by decide) (by decide) hf)
  have HG := Lib.hid (fun w => rhas_any fl 16 w (by decide) (by decide) hf)
  unfold isdB at hb
  dsimp only at hb
  generalize chkB ⟨kd, fl, pa, sr, ds, cn, sq, pu⟩ n = b1 at *
  generalize hasB fl 8 = b2 at *
  generalize hasB fl 16 = b3 at *
  have hcase : b1 = false ∨ b1 = true ∧ ((kd != 1) = true ∨ kd = 1 ∧ (b2 = false ∨ b2 = true ∧ b3 = true)) := by by_cases hk : kd = 1 <;> cases b1 <;> cases b2 <;> cases b3 <;> simp_all
  clear hb
  rcases hcase with rfl | ⟨rfl, hk | ⟨rfl, rfl | ⟨rfl, rfl⟩⟩⟩
  all_goals
    go_enter Try.func73, Try.ntmps73
    go_wp2_with fail
    refine (HI.out _).mono ?_
    rintro e w1 ⟨rfl, hb1⟩
    obtain ⟨hx, hy, hc⟩ := pk_new2 hb1
    clear hb1
    obtain ⟨c0, c1, c2, c3, c4, c5, c6, c7, c8⟩ := hx.cells9
    obtain ⟨d0, d1, d2, d3, d4, d5, d6, d7, d8⟩ := hy.cells9
    have f2 := fun i => hy.free i
    go_wp2_with (first | ((with_reducible refine (HH.out _).mono ?_); rintro e w1 ⟨rfl, rfl⟩) | ((with_reducible refine (HG.out _).mono ?_); rintro e w1 ⟨rfl, rfl⟩))
    refine bodyPost_ret (v := .tuple #[.agg #[.int .i64 _, .int .i64 fl, .int .i64 pa, .int .i64 sr, .int .i64 ds, .int .i64 cn, .int .i64 sq, .int .i64 pu, .slice A n c], .bool false]) (by simp [results, Try.results73, go_sem, *]) rfl ⟨rfl, ?_⟩
    · clear hx hy c0 c1 c2 c3 c4 c5 c6 c7 c8 d0 d1 d2 d3 d4 d5 d6 d7 d8 f2
      repeat (first | with_reducible refine Below.setCell ?_ (by simp) _ | with_reducible exact hc)
set_option maxHeartbeats 4000000 in
theorem rbounce_yes (kd fl pa sr ds cn sq pu : Int) (A : Option Addr) (n c : Nat) (w : World) (hf : fl ≤ 9223372036854775807) (hb : isdB ⟨kd, fl, pa, sr, ds, cn, sq, pu⟩ n = true) (hb2 : hasB fl 8 = true) (hb3 : hasB fl 16 = false) :
    Calls Try.prog 73 #[.agg #[.int .i64 kd, .int .i64 fl, .int .i64 pa, .int .i64 sr, .int .i64 ds, .int .i64 cn, .int .i64 sq, .int .i64 pu, .slice A n c]] w fun e w' => e = .returned (.tuple #[.agg #[.int .i64 kd, .int .i64 (fl + 16), .int .i64 pa, .int .i64 ds, .int .i64 sr, .int .i64 cn, .int .i64 sq, .int .i64 pu, .slice A n c], .bool true]) ∧ Below w.heap.size w w' := by
  have HI := Lib.hid (fun w => ris_any kd fl pa sr ds cn sq pu A n c w hf)
  have HH := Lib.hid (fun w => rhas_any fl 8 w (by decide) (by decide) hf)
  have HG := Lib.hid (fun w => rhas_any fl 16 w (by decide) (by decide) hf)
  obtain ⟨hf0, hf1⟩ := isd_fl hb
  dsimp only at hf0 hf1
  unfold isdB at hb
  dsimp only at hb
  simp only [Bool.and_eq_true, beq_iff_eq] at hb
  obtain ⟨rfl, hb⟩ := hb
  rw [hb] at HI
  rw [hb2] at HH
  rw [hb3] at HG
  clear hb hb2 hb3
  go_enter Try.func73, Try.ntmps73
  go_wp2_with fail
  refine (HI.out _).mono ?_
  rintro e w1 ⟨rfl, hb1⟩
  obtain ⟨hx, hy, hc⟩ := pk_new2 hb1
  clear hb1
  obtain ⟨c0, c1, c2, c3, c4, c5, c6, c7, c8⟩ := hx.cells9
  obtain ⟨d0, d1, d2, d3, d4, d5, d6, d7, d8⟩ := hy.cells9
  have f1 := fun i => hx.free i
  have f2 := fun i => hy.free i
  go_wp2_with (first | ((with_reducible refine (HH.out _).mono ?_); rintro e w1 ⟨rfl, rfl⟩) | ((with_reducible refine (HG.out _).mono ?_); rintro e w1 ⟨rfl, rfl⟩))
  refine bodyPost_ret (v := .tuple #[.agg #[.int .i64 1, .int .i64 (fl + 16), .int .i64 pa, .int .i64 ds, .int .i64 sr, .int .i64 cn, .int .i64 sq, .int .i64 pu, .slice A n c], .bool true]) (by simp [results, Try.results73, go_sem, *]) rfl ⟨rfl, ?_⟩
  · clear hx hy c0 c1 c2 c3 c4 c5 c6 c7 c8 d0 d1 d2 d3 d4 d5 d6 d7 d8 f1 f2
    repeat (first | with_reducible refine Below.setCell ?_ (by simp) _ | with_reducible exact hc)
end Go.Proofs.Ytbhhgfpliggkgaa
