/- The reference: renewed. -/
import Derived.Test.YtiefgicapcljiaaQ12
set_option linter.unusedSimpArgs false
set_option linter.unusedVariables false
namespace Go.Proofs.Ytiefgicapcljiaa
open Go.RowKit Go.Shelf
set_option maxRecDepth 100000 in
set_option maxHeartbeats 2000000 in
theorem rl_renew (G : Nat → Prop) (w : World) (L : PL) (v : Value) (b : Int) (X : Option Addr) (nx cx : Nat) (xs : List Int) (h : RL G w L v) (ho : L.ok b) (hb : b ≤ 100000) (hx : Rd .i64 w X nx cx xs) :
    Calls Try.prog 12 #[v, .slice X nx cx] w fun e w' => ∃ v' G', e = .returned (.tuple #[v', .int .i64 (errV xs)]) ∧ RL G' w' (L.renew xs) v' ∧ Gr G G' w.heap.size ∧ Below w.heap.size w w' := by
  obtain ⟨h1, A, n, c, B, m, d, rfl, hA, hB⟩ := h
  have hb0 : Below w.heap.size w ((w.alloc (.cells (cellsR L.s L.i A n c B m d L.rounds L.told).toArray 34)).alloc (.cells #[.int .u64 0, .int .i64 0, .slice none 0 0, .slice none 0 0, .int .i64 0, .int .i64 0, .int .i64 0, .int .i64 0, .int .i64 0, .int .i64 0, .int .i64 0, .int .i64 0, .int .i64 0] 34)) := ((Below.refl _ _).alloc (Nat.le_refl _) _).alloc (by simp) _
  have hk0 : Bk ((w.alloc (.cells (cellsR L.s L.i A n c B m d L.rounds L.told).toArray 34)).alloc (.cells #[.int .u64 0, .int .i64 0, .slice none 0 0, .slice none 0 0, .int .i64 0, .int .i64 0, .int .i64 0, .int .i64 0, .int .i64 0, .int .i64 0, .int .i64 0, .int .i64 0, .int .i64 0] 34)) 34 w.heap.size (cellsR L.s L.i A n c B m d L.rounds L.told) := (Bk.new w 34 (cellsR L.s L.i A n c B m d L.rounds L.told)).alloc _
  have hz0 : Bk ((w.alloc (.cells (cellsR L.s L.i A n c B m d L.rounds L.told).toArray 34)).alloc (.cells #[.int .u64 0, .int .i64 0, .slice none 0 0, .slice none 0 0, .int .i64 0, .int .i64 0, .int .i64 0, .int .i64 0, .int .i64 0, .int .i64 0, .int .i64 0, .int .i64 0, .int .i64 0] 34)) 34 (w.heap.size + 1) zeroR := by
    have := Bk.new (w.alloc (.cells (cellsR L.s L.i A n c B m d L.rounds L.told).toArray 34)) 34 zeroR
    rw [World.size_alloc] at this
    exact this
  have hs0 : ((w.alloc (.cells (cellsR L.s L.i A n c B m d L.rounds L.told).toArray 34)).alloc (.cells #[.int .u64 0, .int .i64 0, .slice none 0 0, .slice none 0 0, .int .i64 0, .int .i64 0, .int .i64 0, .int .i64 0, .int .i64 0, .int .i64 0, .int .i64 0, .int .i64 0, .int .i64 0] 34)).heap.size = w.heap.size + 2 := by rw [World.size_alloc, World.size_alloc]
  have hx0 := hx.below hb0
  have HO := Lib.hid ho
  have HA := Lib.hid hA
  have HBr := Lib.hid hB
  have HC : Hid ((cellsR L.s L.i A n c B m d L.rounds L.told).length = 13) := Lib.hid (cellsR_len _ _ _ _ _ _ _ _ _ ho.t1)
  have HK0 := Lib.hid hk0
  have HZ0 := Lib.hid hz0
  have HS0 := Lib.hid hs0
  have HB0 := Lib.hid hb0
  clear hb0 hk0 hz0 hs0 ho hA hB hx
  go_enter Try.func12, Try.ntmps12
  go_wp2_with fail
  refine (rise_any X nx cx xs _ hx0).mono ?_
  rintro e w2 ⟨Y, ny, cy, ys, rfl, hly, hys, hb2⟩
  have hk2 := HK0.out.below hb2
  have hz2 := HZ0.out.below hb2
  have HB2 := Lib.hid (HB0.out.trans (hb2.mono HB0.out.size))
  by_cases hv : valP xs = true
  · have HY := Lib.hid (hys hv)
    rw [HY.out] at hly
    have HLY := Lib.hid hly
    have HV := Lib.hid hv
    have c2 := hk2.cell 2 rfl
    have hA2 := HA.out.below HB2.out
    have hpp := HO.out.p1
    have hdec : decide (riseL xs = L.ps) = decide (memB xs = memB L.ps) := by
      rw [decide_eq_decide, ← riseL_inj, ← hpp]
    have HD := Lib.hid hdec
    rw [hv]
    clear hly hys hb2 hx0 hv hpp hdec
    go_wp2_with fail
    refine (same_any Y A ny cy n c (riseL xs) L.ps w2 HLY.out.rdv hA2.rdv).mono ?_
    rintro e w3 ⟨rfl, hb3⟩
    have hk3 := hk2.below hb3
    have hz3 := hz2.below hb3
    have hHB2 := HB2.out
    clear hHB2
    have HB3 := Lib.hid (HB2.out.trans (hb3.mono HB2.out.size))
    have HS3 : Hid (w.heap.size + 2 ≤ w3.heap.size) := Lib.hid (by have := hz3.lt; have := HZ0.out.lt; have := HS0.out; have := hb3.size; have := hk2.lt; have := hz2.lt; omega)
    rw [HD.out]
    clear hk2 hz2 c2 hA2
    by_cases hne : memB xs = memB L.ps
    · have HR : Hid (L.renew xs = L) := Lib.hid (by unfold PL.renew; rw [if_neg (fun h' => h'.2 hne)])
      rw [decide_eq_true hne]
      clear hne
      go_wp2_with (first
        | (refine at_load 34 (.tmp 2) (by rfl) ?_; refine wpList_load_bk rowRef rfl (.tmp 2) rfl w.heap.size 0 rfl hk3 (cellsR L.s L.i A n c B m d L.rounds L.told) HC.out (all_take _) ?_)
        | (refine at_store 34 (.tmp 4) (.tmp 20) (by rfl) ?_; refine wpList_store_bk rowRef rfl (.tmp 4) (.tmp 20) rfl (w.heap.size + 1) 0 rfl hz3 (cellsR L.s L.i A n c B m d L.rounds L.told) rfl HC.out (by decide) (cellsR_one _ _ _ _ _ _ _ _ _ _) ?_; rintro w6 hz6 hw6
           rw [lay_all _ _ HC.out] at hz6))
      have hbl : Below w.heap.size w w6 := HB3.out.trans (hw6.below (by omega) HB3.out.size)
      have hA6 : Lst 3 (fun j => G j ∨ w.heap.size ≤ j) w6 A n c (intV L.ps) := (HA.out.below hbl).mono (fun j hj => .inl hj)
      have hB6 : Lst 3 (fun j => G j ∨ w.heap.size ≤ j) w6 B m d (intV L.rest) := (HBr.out.below hbl).mono (fun j hj => .inl hj)
      have hR := RL.mk2 (L := L) h1 hbl.size hA6 hB6

      exact bodyPost_ret (results_cell_tmp rfl rfl (rowRef.load hz6 0 HC.out (all_take _))) rfl ⟨_, _, by rw [errV_ok HV.out]; rfl, by rw [HR.out]; exact hR.1, hR.2, hbl⟩
    · have HR : Hid (L.renew xs = PL.begin { L with ps := riseL xs }) := Lib.hid (by unfold PL.renew; rw [if_pos ⟨HV.out, hne⟩])
      rw [decide_eq_false hne]
      clear hne
      have c2 := (hk3.cell 2 rfl)
      have f2 := hk3.free 2
      have hk4 := hk3.set 2 (.slice Y ny cy)
      rw [cellsR_set2] at hk4
      have hz4 := hz3.far (p := ⟨w.heap.size, 2, none⟩) (by simp) (.slice Y ny cy)
      have hy4 : RdV (w3.setCell ⟨w.heap.size, 2, none⟩ (.slice Y ny cy)) Y ny cy (intV (riseL xs)) := ((HLY.out.below hb3).far (p := ⟨w.heap.size, 2, none⟩) (fun ad he => by have := (HLY.out.blk ad he).1; have := HS0.out; simp; omega) _).rdv
      have HB4 := Lib.hid (HB3.out.setCell (p := ⟨w.heap.size, 2, none⟩) (Nat.le_refl _) (.slice Y ny cy))
      have hl8 : (riseL xs).length ≤ 8 := riseN_len _ _
      have HCY : Hid ((cellsR L.s L.i Y ny cy B m d L.rounds L.told).length = 13) := Lib.hid (cellsR_len _ _ _ _ _ _ _ _ _ HO.out.t1)
      go_wp2_with (first
        | (refine at_load 34 (.tmp 2) (by rfl) ?_; refine wpList_load_bk rowRef rfl (.tmp 2) rfl w.heap.size 0 rfl hk4 (cellsR L.s L.i Y ny cy B m d L.rounds L.told) HCY.out (all_take _) ?_))
      refine (rbegin_any _ L.s L.i Y ny cy B m d L.rounds L.told (riseL xs) hy4 hl8 HO.out.t1 HO.out.i0 (by have := HO.out.i1; omega) HO.out.n0 (by have := HO.out.n1; omega)).mono ?_
      rintro e w5 ⟨B', d', rfl, hl5, hb5⟩
      have hz5 := hz4.below hb5
      have HB5 := Lib.hid (HB4.out.trans (hb5.mono HB4.out.size))
      have hy5 : Lst 3 (((w.alloc (.cells (cellsR L.s L.i A n c B m d L.rounds L.told).toArray 34)).alloc (.cells #[.int .u64 0, .int .i64 0, .slice none 0 0, .slice none 0 0, .int .i64 0, .int .i64 0, .int .i64 0, .int .i64 0, .int .i64 0, .int .i64 0, .int .i64 0, .int .i64 0, .int .i64 0] 34)).heap.size ≤ ·) w5 Y ny cy (intV (riseL xs)) := ((HLY.out.below hb3).far (p := ⟨w.heap.size, 2, none⟩) (fun ad he => by have := (HLY.out.blk ad he).1; have := HS0.out; simp; omega) _).below hb5
      have HY5 := Lib.hid hy5
      have HL5 := Lib.hid hl5
      have hsz4 : (w3.setCell ⟨w.heap.size, 2, none⟩ (.slice Y ny cy)).heap.size = w3.heap.size := by simp [World.setCell]
      have HZ4 := Lib.hid hsz4
      generalize hii : L.i + (((riseL xs).length - 1 : Nat) : Int) = i1 at *
      generalize hrr : L.rounds + 1 = r1 at *
      have HII := Lib.hid hii
      have HRR := Lib.hid hrr
      have HC5 : Hid ((cellsR L.s i1 Y ny cy B' (riseL xs).length d' r1 L.told).length = 13) := Lib.hid (cellsR_len _ _ _ _ _ _ _ _ _ HO.out.t1)
      clear hii hrr hsz4 hy5 hl5 hb5 hy4 hk4 hz4 c2 f2 hk3 hz3
      go_wp2_with (first
        | (refine at_store 34 (.tmp 4) (.tmp 24) (by rfl) ?_; refine wpList_store_bk rowRef rfl (.tmp 4) (.tmp 24) rfl (w.heap.size + 1) 0 rfl hz5 (cellsR L.s i1 Y ny cy B' (riseL xs).length d' r1 L.told) rfl HC5.out (by decide) (cellsR_one _ _ _ _ _ _ _ _ _ _) ?_; rintro w6 hz6 hw6
           rw [lay_all _ _ HC5.out] at hz6))
      have hbl : Below w.heap.size w w6 := HB5.out.trans (hw6.below (by omega) HB5.out.size)
      have hwb : ∀ k, k < w5.heap.size → k ≠ w.heap.size + 1 → w6.heap[k]? = w5.heap[k]? := fun k hk hn => hw6.block k hk (by intro e; injection e with e; exact hn e)
      have hA6 : Lst 3 (fun j => G j ∨ w.heap.size ≤ j) w6 Y ny cy (intV (riseL xs)) := (HY5.out.same (fun ad he => hwb _ (HY5.out.blk ad he).2 (by have := (HY5.out.blk ad he).1; have := HS0.out; omega))).mono (fun j hj => .inr (by have := HS0.out; omega))
      have hB6 : Lst 3 (fun j => G j ∨ w.heap.size ≤ j) w6 B' (riseL xs).length d' (intV (shufI L.s L.i (riseL xs))) := (HL5.out.same (fun ad he => hwb _ (HL5.out.blk ad he).2 (by have := (HL5.out.blk ad he).1; have := HS3.out; have := HZ4.out; omega))).mono (fun j hj => .inr (by have := HS3.out; have := HZ4.out; omega))
      have hR := RL.mk2 (L := PL.begin { L with ps := riseL xs }) h1 hbl.size hA6 hB6
      exact bodyPost_ret (results_cell_tmp rfl rfl (rowRef.load hz6 0 HC5.out (all_take _))) rfl ⟨_, _, by rw [errV_ok HV.out, ← HII.out, ← HRR.out]; rfl, by rw [HR.out]; exact hR.1, hR.2, hbl⟩
  · have hvf : valP xs = false := by simpa using hv
    have HR : Hid (L.renew xs = L) := Lib.hid (by unfold PL.renew; rw [if_neg (fun h' => hv h'.1)])
    have HV : Hid (valP xs = false) := Lib.hid hvf
    rw [hvf]
    clear hv hvf hly hys hb2 hx0
    go_wp2_with (first
      | (refine at_load 34 (.tmp 2) (by rfl) ?_; refine wpList_load_bk rowRef rfl (.tmp 2) rfl w.heap.size 0 rfl hk2 (cellsR L.s L.i A n c B m d L.rounds L.told) HC.out (all_take _) ?_)
      | (refine at_store 34 (.tmp 4) (.tmp 15) (by rfl) ?_; refine wpList_store_bk rowRef rfl (.tmp 4) (.tmp 15) rfl (w.heap.size + 1) 0 rfl hz2 (cellsR L.s L.i A n c B m d L.rounds L.told) rfl HC.out (by decide) (cellsR_one _ _ _ _ _ _ _ _ _ _) ?_; rintro w6 hz6 hw6
         rw [lay_all _ _ HC.out] at hz6))
    have hbl : Below w.heap.size w w6 := HB2.out.trans (hw6.below (by omega) HB2.out.size)
    have hA6 : Lst 3 (fun j => G j ∨ w.heap.size ≤ j) w6 A n c (intV L.ps) := (HA.out.below hbl).mono (fun j hj => .inl hj)
    have hB6 : Lst 3 (fun j => G j ∨ w.heap.size ≤ j) w6 B m d (intV L.rest) := (HBr.out.below hbl).mono (fun j hj => .inl hj)
    have hR := RL.mk2 (L := L) h1 hbl.size hA6 hB6

    exact bodyPost_ret (results_cell_tmp rfl rfl (rowRef.load hz6 0 HC.out (all_take _))) rfl ⟨_, _, by rw [errV_no HV.out]; rfl, by rw [HR.out]; exact hR.1, hR.2, hbl⟩
end Go.Proofs.Ytiefgicapcljiaa
