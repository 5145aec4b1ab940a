/- The law awake; a list stands as the document's. -/
import Derived.Test.YtiefgicapcljiaaQ14
set_option linter.unusedSimpArgs false
set_option linter.unusedVariables false
namespace Go.Proofs.Ytiefgicapcljiaa
open Go.RowKit Go.Shelf
set_option maxRecDepth 100000 in
set_option maxHeartbeats 2000000 in
theorem awake_any (w : World) : Calls Try.prog 9 #[] w fun e w' => e = .returned (.bool true) ∧ Below w.heap.size w w' := by
  have hb1 : Below w.heap.size w (w.alloc (.cells #[.int .i64 3] 3)) := (Below.refl _ _).alloc (Nat.le_refl _) _
  have hx1 : Rd .i64 (w.alloc (.cells #[.int .i64 3] 3)) (some ⟨w.heap.size, 0, none⟩) 1 1 [3] := Rd.one w 3 3 (by decide)
  have HV1 := Lib.hid (show valP [3] = true by decide +kernel)
  have HV2 := Lib.hid (show valP [1, 0] = true by decide +kernel)
  have HS := Lib.hid sum10
  have H3 := Lib.hid next3
  go_enter Try.func9, Try.ntmps9
  go_wp2_with fail
  refine (pm_new _ 7 _ 1 1 [3] hx1 HV1.out).mono ?_
  rintro e w1 ⟨p1, F1, rfl, hp1, hF1, hbn1⟩
  have hbw1 := hb1.trans (hbn1.mono hb1.size)
  have HB1 := Lib.hid hbw1
  have hx2 : Rd .i64 (w1.alloc (.cells #[.int .i64 1, .int .i64 0] 3)) (some ⟨w1.heap.size, 0, none⟩) 2 2 [1, 0] := Rd.lit w1 3 [1, 0] (by decide) (by decide)
  have hp1' := hp1.alloc (.cells #[.int .i64 1, .int .i64 0] 3)
  have HP1 := Lib.hid hp1'
  have HL1 := Lib.hid hp1.2.1
  have HF1 := Lib.hid (fun k hk => Nat.le_trans hb1.size (hF1 k hk))
  clear hp1 hF1 hbn1 hb1 hx1 hbw1 hp1'
  go_wp2_with fail
  refine (pm_new _ 9 _ 2 2 [1, 0] hx2 HV2.out).mono ?_
  rintro e w2 ⟨p2, F2, rfl, hp2, hF2, hbn2⟩
  have hq1 := HP1.out.below hbn2
  have HB2 := Lib.hid ((HB1.out.alloc HB1.out.size (.cells #[.int .i64 1, .int .i64 0] 3)).trans (hbn2.mono (by rw [World.size_alloc]; have := HB1.out.size; omega)))
  have HSep : Hid (Sep F2 F1) := Lib.hid (fun k h2 h1 => by have := hF2 k h2; rw [World.size_alloc] at this; have := HL1.out k h1; omega)
  have HF2 := Lib.hid (fun k hk => (by have := hF2 k hk; rw [World.size_alloc] at this; have := HB1.out.size; omega : w.heap.size ≤ k))
  have HP2 := Lib.hid hp2
  have HQ1 := Lib.hid hq1
  clear hp2 hF2 hbn2 hq1 hx2
  go_wp2_with fail
  refine (pm_next F1 w2 p1 (PL.new 7 [3]) 1 HQ1.out (PL.new_ok 7 HV1.out) (by decide)).mono ?_
  rintro e w3 ⟨rfl, F1', h1', hst3, hgr3⟩
  rw [H3.out.2]
  have HP2b := Lib.hid (HP2.out.st hst3 HSep.out)
  have HB3 := Lib.hid (HB2.out.trans (hst3.below HB2.out.size HF1.out))
  have HF1' := Lib.hid (hgr3.ge HF1.out HB2.out.size)
  have HSep' : Hid (Sep F2 F1') := Lib.hid ((HSep.out.symm.gr hgr3 (fun k hk => HP2.out.2.1 k hk)).symm)
  have HQ2 := Lib.hid h1'
  clear h1' hst3 hgr3
  go_wp2_with fail
  refine (pm_next F1' w3 p1 _ 2 HQ2.out (PL.new_ok 7 HV1.out).next (by decide)).mono ?_
  rintro e w4 ⟨rfl, F1'', h1'', hst4, hgr4⟩
  rw [H3.out.1]
  have HP2c := Lib.hid (HP2b.out.st hst4 HSep'.out)
  have HB4 := Lib.hid (HB3.out.trans (hst4.below HB3.out.size HF1'.out))
  clear h1'' hst4 hgr4
  go_wp2_with fail
  refine (pm_next F2 w4 p2 (PL.new 9 [1, 0]) 1 HP2c.out (PL.new_ok 9 HV2.out) (by decide)).mono ?_
  rintro e w5 ⟨rfl, F2', h2', hst5, hgr5⟩
  have HB5 := Lib.hid (HB4.out.trans (hst5.below HB4.out.size HF2.out))
  have HF2' := Lib.hid (hgr5.ge HF2.out HB4.out.size)
  have HP5 := Lib.hid h2'
  clear h2' hst5 hgr5
  go_wp2_with fail
  refine (pm_next F2' w5 p2 _ 2 HP5.out (PL.new_ok 9 HV2.out).next (by decide)).mono ?_
  rintro e w6 ⟨rfl, F2'', h2'', hst6, hgr6⟩
  have HB6 := Lib.hid (HB5.out.trans (hst6.below HB5.out.size HF2'.out))
  have HP6 := Lib.hid h2''
  have hw1 : IntKind.i64.wrap ((PL.new 9 [1, 0]).top + (PL.new 9 [1, 0]).next.top) = 1 := by rw [HS.out.1]; decide
  clear h2'' hst6 hgr6
  generalize (PL.new 9 [1, 0]).top = a1 at *
  generalize (PL.new 9 [1, 0]).next.top = a2 at *
  have hw2 : wrap64 (a1 + a2) = 1 := by rw [← IntWalk.i64_left]; exact hw1
  go_wp2_with fail
  refine (pm_rounds HP6.out).mono ?_
  rintro e w7 ⟨rfl, rfl⟩
  rw [HS.out.2]
  clear hw1
  go_wp2
  go_ret
  exact ⟨rfl, HB6.out⟩
end Go.Proofs.Ytiefgicapcljiaa
