/- The reference: the next path. -/
import Derived.Test.YtiefgicapcljiaaQ11
set_option linter.unusedSimpArgs false
set_option linter.unusedVariables false
namespace Go.Proofs.Ytiefgicapcljiaa
open Go.RowKit Go.Shelf
theorem Bk.cast {w : World} {t : TypeId} {g : Nat} {vs vs' : List Value} (h : Bk w t g vs) (e : vs = vs') : Bk w t g vs' := e ▸ h
set_option maxRecDepth 100000 in
set_option maxHeartbeats 2000000 in
theorem rl_next (G : Nat → Prop) (w : World) (L : PL) (v : Value) (b : Int) (h : RL G w L v) (ho : L.ok b) (hb : b ≤ 100000) :
    Calls Try.prog 15 #[v] w fun e w' => ∃ v' G', e = .returned (.tuple #[v', .int .i64 L.top]) ∧ RL G' w' L.next v' ∧ Gr G G' w.heap.size ∧ Below w.heap.size w w' := by
  obtain ⟨h1, A, n, c, B, m', d, rfl, hA, hB⟩ := h
  obtain ⟨x, r, hxr⟩ : ∃ x r, L.rest = x :: r := by cases hL : L.rest with | nil => exact absurd hL ho.r1 | cons x r => exact ⟨x, r, rfl⟩
  have hxb := ho.head_bounds
  have HH : Hid (L.top = x) := Lib.hid (by unfold PL.top; rw [hxr]; rfl)
  rw [HH.out] at hxb
  have hstep : L.step = { L with rest := r, told := L.told.set x.toNat (L.told.getD x.toNat 0 + 1) } := by
    unfold PL.step
    rw [HH.out]
    congr 1
    rw [hxr]; rfl
  have HL : Hid (L.next = if r.length = 0 then PL.begin { L with rest := r, told := L.told.set x.toNat (L.told.getD x.toNat 0 + 1) } else { L with rest := r, told := L.told.set x.toNat (L.told.getD x.toNat 0 + 1) }) := Lib.hid (by
    unfold PL.next
    rw [hstep, hxr, List.length_cons]
    simp only [Nat.add_eq_right])
  clear hstep
  obtain ⟨k, rfl⟩ := Int.eq_ofNat_of_zero_le hxb.1
  have hk8 : k < 8 := by omega
  rw [hxr] at hB
  have hn := hB.1
  rw [intV_len, List.length_cons] at hn
  obtain ⟨m, hm⟩ : ∃ m, m = r.length := ⟨_, rfl⟩
  rw [← hm] at hn
  subst hn
  have hc1 := hB.2.1
  obtain ⟨g, o, rfl, hg, c0⟩ := hB.rdv.cell (i := 0) (by omega)
  obtain ⟨t, htg⟩ : ∃ t, t = L.told.getD k 0 := ⟨_, rfl⟩
  have htb : 0 ≤ t ∧ t ≤ 100000 := by
    rw [htg, List.getD_eq_getElem?_getD, List.getElem?_eq_getElem (by rw [ho.t1]; exact hk8)]
    have := ho.t2 (L.told[k]'(by rw [ho.t1]; exact hk8)) (List.getElem_mem _)
    simp; omega
  simp only [Int.toNat_natCast] at HL
  rw [← htg] at HL
  have hb0 : Below w.heap.size w ((w.alloc (.cells (cellsR L.s L.i A n c (some ⟨g, o, none⟩) (m + 1) d L.rounds L.told).toArray 34)).alloc (.cells #[.int .u64 0, .int .i64 0, .slice none 0 0, .slice none 0 0, .int .i64 0, .int .i64 0, .int .i64 0, .int .i64 0, .int .i64 0, .int .i64 0, .int .i64 0, .int .i64 0, .int .i64 0] 34)) := ((Below.refl _ _).alloc (Nat.le_refl _) _).alloc (by simp) _
  have hk1 : Bk ((w.alloc (.cells (cellsR L.s L.i A n c (some ⟨g, o, none⟩) (m + 1) d L.rounds L.told).toArray 34)).alloc (.cells #[.int .u64 0, .int .i64 0, .slice none 0 0, .slice none 0 0, .int .i64 0, .int .i64 0, .int .i64 0, .int .i64 0, .int .i64 0, .int .i64 0, .int .i64 0, .int .i64 0, .int .i64 0] 34)) 34 w.heap.size (cellsR L.s L.i A n c (some ⟨g, o, none⟩) (m + 1) d L.rounds L.told) := (Bk.new w 34 (cellsR L.s L.i A n c (some ⟨g, o, none⟩) (m + 1) d L.rounds L.told)).alloc _
  have hz1 : Bk ((w.alloc (.cells (cellsR L.s L.i A n c (some ⟨g, o, none⟩) (m + 1) d L.rounds L.told).toArray 34)).alloc (.cells #[.int .u64 0, .int .i64 0, .slice none 0 0, .slice none 0 0, .int .i64 0, .int .i64 0, .int .i64 0, .int .i64 0, .int .i64 0, .int .i64 0, .int .i64 0, .int .i64 0, .int .i64 0] 34)) 34 (w.heap.size + 1) zeroR := by
    have := Bk.new (w.alloc (.cells (cellsR L.s L.i A n c (some ⟨g, o, none⟩) (m + 1) d L.rounds L.told).toArray 34)) 34 zeroR
    rw [World.size_alloc] at this
    exact this
  have q0 : ((w.alloc (.cells (cellsR L.s L.i A n c (some ⟨g, o, none⟩) (m + 1) d L.rounds L.told).toArray 34)).alloc (.cells #[.int .u64 0, .int .i64 0, .slice none 0 0, .slice none 0 0, .int .i64 0, .int .i64 0, .int .i64 0, .int .i64 0, .int .i64 0, .int .i64 0, .int .i64 0, .int .i64 0, .int .i64 0] 34)).cell? ⟨g, o, none⟩ = some (.int .i64 k) := (hb0.cell (p := ⟨g, o, none⟩) hg).trans c0
  have q3 : ((w.alloc (.cells (cellsR L.s L.i A n c (some ⟨g, o, none⟩) (m + 1) d L.rounds L.told).toArray 34)).alloc (.cells #[.int .u64 0, .int .i64 0, .slice none 0 0, .slice none 0 0, .int .i64 0, .int .i64 0, .int .i64 0, .int .i64 0, .int .i64 0, .int .i64 0, .int .i64 0, .int .i64 0, .int .i64 0] 34)).cell? ⟨w.heap.size, 3, none⟩ = some (.slice (some ⟨g, o, none⟩) (m + 1) d) := hk1.cell 3 rfl
  have qt : ((w.alloc (.cells (cellsR L.s L.i A n c (some ⟨g, o, none⟩) (m + 1) d L.rounds L.told).toArray 34)).alloc (.cells #[.int .u64 0, .int .i64 0, .slice none 0 0, .slice none 0 0, .int .i64 0, .int .i64 0, .int .i64 0, .int .i64 0, .int .i64 0, .int .i64 0, .int .i64 0, .int .i64 0, .int .i64 0] 34)).cell? ⟨w.heap.size, 5 + k, none⟩ = some (.int .i64 t) := by
    rw [htg]; exact hk1.cell (5 + k) (cellsR_told _ _ _ _ _ _ _ _ _ _ k (by rw [ho.t1]; exact hk8))
  have q3b : ((w.alloc (.cells ((cellsR L.s L.i A n c (some ⟨g, o, none⟩) (m + 1) d L.rounds L.told).set (5 + k) (.int .i64 (t + 1))).toArray 34)).alloc (.cells #[.int .u64 0, .int .i64 0, .slice none 0 0, .slice none 0 0, .int .i64 0, .int .i64 0, .int .i64 0, .int .i64 0, .int .i64 0, .int .i64 0, .int .i64 0, .int .i64 0, .int .i64 0] 34)).cell? ⟨w.heap.size, 3, none⟩ = some (.slice (some ⟨g, o, none⟩) (m + 1) d) := (((Bk.new w 34 ((cellsR L.s L.i A n c (some ⟨g, o, none⟩) (m + 1) d L.rounds L.told).set (5 + k) (.int .i64 (t + 1)))).alloc _).cast (cellsR_set5 _ _ _ _ _ _ _ _ _ _ _ _)).cell 3 rfl
  have hk3 : Bk ((w.alloc (.cells (((cellsR L.s L.i A n c (some ⟨g, o, none⟩) (m + 1) d L.rounds L.told).set (5 + k) (.int .i64 (t + 1))).set 3 (.slice (cutA (some ⟨g, o, none⟩) d 1) m (d - 1))).toArray 34)).alloc (.cells #[.int .u64 0, .int .i64 0, .slice none 0 0, .slice none 0 0, .int .i64 0, .int .i64 0, .int .i64 0, .int .i64 0, .int .i64 0, .int .i64 0, .int .i64 0, .int .i64 0, .int .i64 0] 34)) 34 w.heap.size (cellsR L.s L.i A n c (cutA (some ⟨g, o, none⟩) d 1) m (d - 1) L.rounds (L.told.set k (t + 1))) := ((Bk.new w 34 (((cellsR L.s L.i A n c (some ⟨g, o, none⟩) (m + 1) d L.rounds L.told).set (5 + k) (.int .i64 (t + 1))).set 3 (.slice (cutA (some ⟨g, o, none⟩) d 1) m (d - 1)))).alloc _).cast (by rw [cellsR_set5, cellsR_set3])
  have q3c : ((w.alloc (.cells (((cellsR L.s L.i A n c (some ⟨g, o, none⟩) (m + 1) d L.rounds L.told).set (5 + k) (.int .i64 (t + 1))).set 3 (.slice (cutA (some ⟨g, o, none⟩) d 1) m (d - 1))).toArray 34)).alloc (.cells #[.int .u64 0, .int .i64 0, .slice none 0 0, .slice none 0 0, .int .i64 0, .int .i64 0, .int .i64 0, .int .i64 0, .int .i64 0, .int .i64 0, .int .i64 0, .int .i64 0, .int .i64 0] 34)).cell? ⟨w.heap.size, 3, none⟩ = some (.slice (cutA (some ⟨g, o, none⟩) d 1) m (d - 1)) := hk3.cell 3 rfl
  have hz3 : Bk ((w.alloc (.cells (((cellsR L.s L.i A n c (some ⟨g, o, none⟩) (m + 1) d L.rounds L.told).set (5 + k) (.int .i64 (t + 1))).set 3 (.slice (cutA (some ⟨g, o, none⟩) d 1) m (d - 1))).toArray 34)).alloc (.cells #[.int .u64 0, .int .i64 0, .slice none 0 0, .slice none 0 0, .int .i64 0, .int .i64 0, .int .i64 0, .int .i64 0, .int .i64 0, .int .i64 0, .int .i64 0, .int .i64 0, .int .i64 0] 34)) 34 (w.heap.size + 1) zeroR := by
    have := Bk.new (w.alloc (.cells (((cellsR L.s L.i A n c (some ⟨g, o, none⟩) (m + 1) d L.rounds L.told).set (5 + k) (.int .i64 (t + 1))).set 3 (.slice (cutA (some ⟨g, o, none⟩) d 1) m (d - 1))).toArray 34)) 34 zeroR
    rw [World.size_alloc] at this
    exact this
  have hb3 : Below w.heap.size w ((w.alloc (.cells (((cellsR L.s L.i A n c (some ⟨g, o, none⟩) (m + 1) d L.rounds L.told).set (5 + k) (.int .i64 (t + 1))).set 3 (.slice (cutA (some ⟨g, o, none⟩) d 1) m (d - 1))).toArray 34)).alloc (.cells #[.int .u64 0, .int .i64 0, .slice none 0 0, .slice none 0 0, .int .i64 0, .int .i64 0, .int .i64 0, .int .i64 0, .int .i64 0, .int .i64 0, .int .i64 0, .int .i64 0, .int .i64 0] 34)) := ((Below.refl _ _).alloc (Nat.le_refl _) _).alloc (by simp) _
  have hfz : ∀ j, ((w.alloc (.cells (cellsR L.s L.i A n c (some ⟨g, o, none⟩) (m + 1) d L.rounds L.told).toArray 34)).alloc (.cells #[.int .u64 0, .int .i64 0, .slice none 0 0, .slice none 0 0, .int .i64 0, .int .i64 0, .int .i64 0, .int .i64 0, .int .i64 0, .int .i64 0, .int .i64 0, .int .i64 0, .int .i64 0] 34)).frozen? ⟨w.heap.size, j, none⟩ = false := hk1.free
  have hcut : ∀ W, (Instr.slice 23 (.slice (some ⟨g, o, none⟩) (m + 1) d) (some (.int .i64 1)) none none).run Try.prog W = .ok (.slice (cutA (some ⟨g, o, none⟩) d 1) m (d - 1)) W := fun W => eltI.run_cut _ (m + 1) d 1 (by omega) hc1 W
  have HO := Lib.hid ho
  have HM := Lib.hid hm
  have HA := Lib.hid hA
  have HBr := Lib.hid (hB.cut (s := 1) (by omega))
  have hkk : (k : Int) < 8 := by omega
  have HK3 := Lib.hid hk3
  have HZ3 := Lib.hid hz3
  have HB3 := Lib.hid hb3
  have HT : Hid ((L.told.set k (t + 1)).length = 8) := Lib.hid (by rw [List.length_set]; exact ho.t1)
  clear htg hxr ho c0 hB hA hk1 hk3 hz1 hz3 hb0 hb3 hxb hm
  go_enter Try.func15, Try.ntmps15
  by_cases hm0 : m = 0
  · have hmz : (m : Int) = 0 := by omega
    rw [if_pos (by rw [← HM.out]; exact hm0)] at HL
    clear hm0
    go_wp2_with (first
      | (refine at_load 34 (.tmp 1) (by rfl) ?_; refine wpList_load_bk rowRef rfl (.tmp 1) rfl w.heap.size 0 rfl HK3.out (cellsR L.s L.i A n c (cutA (some ⟨g, o, none⟩) d 1) m (d - 1) L.rounds (L.told.set k (t + 1))) (cellsR_len _ _ _ _ _ _ _ _ _ HT.out) (all_take _) ?_))
    refine (rbegin_any _ L.s L.i A n c _ m (d - 1) L.rounds (L.told.set k (t + 1)) L.ps (HA.out.rdv.below (Below.trans HB3.out (Below.refl _ _))) (ps_len HO.out.p1) HT.out HO.out.i0 (by have := HO.out.i1; omega) HO.out.n0 (by have := HO.out.n1; omega)).mono ?_
    rintro e w4 ⟨B', d', rfl, hl4, hb4⟩
    have hk4 := HK3.out.below hb4
    have hz4 := HZ3.out.below hb4
    have HB4 := Lib.hid (HB3.out.trans (hb4.mono HB3.out.size))
    have HL4 := Lib.hid hl4
    have HC : Hid ((cellsR L.s (L.i + (L.ps.length - 1 : Nat)) A n c B' L.ps.length d' (L.rounds + 1) (L.told.set k (t + 1))).length = 13) := Lib.hid (cellsR_len _ _ _ _ _ _ _ _ _ HT.out)
    have HZs := Lib.hid HB3.out.size
    have hsz3 : ((w.alloc (.cells (((cellsR L.s L.i A n c (some ⟨g, o, none⟩) (m + 1) d L.rounds L.told).set (5 + k) (.int .i64 (t + 1))).set 3 (.slice (cutA (some ⟨g, o, none⟩) d 1) m (d - 1))).toArray 34)).alloc (.cells #[.int .u64 0, .int .i64 0, .slice none 0 0, .slice none 0 0, .int .i64 0, .int .i64 0, .int .i64 0, .int .i64 0, .int .i64 0, .int .i64 0, .int .i64 0, .int .i64 0, .int .i64 0] 34)).heap.size = w.heap.size + 2 := by rw [World.size_alloc, World.size_alloc]
    have HS3 := Lib.hid hsz3
    clear hl4 hb4 hsz3
    generalize hii : L.i + ((L.ps.length - 1 : Nat) : Int) = i1 at *
    generalize hrr : L.rounds + 1 = r1 at *
    have HII := Lib.hid hii
    have HRR := Lib.hid hrr
    clear hii hrr
    clear q0 q3 qt q3b q3c hfz
    go_wp2_with (first
      | (refine at_store 34 (.tmp 1) (.tmp 26) (by rfl) ?_; refine wpList_store_bk rowRef rfl (.tmp 1) (.tmp 26) rfl w.heap.size 0 rfl hk4 (cellsR L.s i1 A n c B' L.ps.length d' r1 (L.told.set k (t + 1))) rfl HC.out (by rw [cellsR_len _ _ _ _ _ _ _ _ _ HT.out]; decide) (cellsR_one _ _ _ _ _ _ _ _ _ _) ?_; rintro w5 hk5 hw5
         rw [lay_all _ _ (by rw [HC.out, cellsR_len _ _ _ _ _ _ _ _ _ HT.out])] at hk5
         have hz5 := hz4.wr hw5 (by omega))
      | (refine at_load 34 (.tmp 1) (by rfl) ?_; refine wpList_load_bk rowRef rfl (.tmp 1) rfl w.heap.size 0 rfl hk5 (cellsR L.s i1 A n c B' L.ps.length d' r1 (L.told.set k (t + 1))) HC.out (all_take _) ?_)
      | (refine at_store 34 (.tmp 2) (.tmp 27) (by rfl) ?_; refine wpList_store_bk rowRef rfl (.tmp 2) (.tmp 27) rfl (w.heap.size + 1) 0 rfl hz5 (cellsR L.s i1 A n c B' L.ps.length d' r1 (L.told.set k (t + 1))) rfl HC.out (by decide) (cellsR_one _ _ _ _ _ _ _ _ _ _) ?_; rintro w6 hz6 hw6
         rw [lay_all _ _ HC.out] at hz6))
    have hbl : Below w.heap.size w4 w6 := (hw5.below (Nat.le_refl _) (by have := HB4.out.size; omega)).trans (hw6.below (by omega) (by have := HB4.out.size; have := hw5.size; omega))
    have hst : St (fun j => j = w.heap.size ∨ j = w.heap.size + 1) w4 w6 :=
      (St.mono (F := (· = w.heap.size)) ⟨hw5.os, hw5.tape, hw5.output, hw5.size, fun j hj hn => hw5.block j hj (by intro e; injection e with e; exact hn e)⟩ (fun j _ hj => .inl hj)).trans
        (St.mono (F := (· = w.heap.size + 1)) ⟨hw6.os, hw6.tape, hw6.output, hw6.size, fun j hj hn => hw6.block j hj (by intro e; injection e with e; exact hn e)⟩ (fun j _ hj => .inr hj)) (Gr.refl _ _)
    have hA6 : Lst 3 (fun j => G j ∨ w.heap.size ≤ j) w6 A n c (intV L.ps) := (HA.out.below (HB4.out.trans hbl)).mono (fun j hj => .inl hj)
    have hB6 : Lst 3 (fun j => G j ∨ w.heap.size ≤ j) w6 B' L.ps.length d' (intV (shufI L.s L.i L.ps)) :=
      (HL4.out.st hst (fun j hj => by have := HS3.out; omega)).mono (fun j hj => .inr (by have := HS3.out; omega))
    have hR := RL.mk2 (L := PL.begin { L with rest := r, told := L.told.set k (t + 1) }) h1 (HB4.out.trans hbl).size hA6 hB6
    exact bodyPost_ret (results_cell_tmp rfl rfl (rowRef.load hz6 0 HC.out (all_take _))) rfl ⟨_, _, by rw [HH.out, ← HII.out, ← HRR.out]; rfl, by rw [HL.out]; exact hR.1, hR.2, HB4.out.trans hbl⟩
  · rw [if_neg (by rw [← HM.out]; exact hm0)] at HL
    have hm1 : (m : Int) ≠ 0 := by omega
    have hk3 := HK3.out
    have hz3 := HZ3.out
    have HC : Hid ((cellsR L.s L.i A n c (cutA (some ⟨g, o, none⟩) d 1) m (d - 1) L.rounds (L.told.set k (t + 1))).length = 13) := Lib.hid (cellsR_len _ _ _ _ _ _ _ _ _ HT.out)
    go_wp2_with (first
      | (refine at_load 34 (.tmp 1) (by rfl) ?_; refine wpList_load_bk rowRef rfl (.tmp 1) rfl w.heap.size 0 rfl hk3 (cellsR L.s L.i A n c (cutA (some ⟨g, o, none⟩) d 1) m (d - 1) L.rounds (L.told.set k (t + 1))) HC.out (all_take _) ?_)
      | (refine at_store 34 (.tmp 2) (.tmp 27) (by rfl) ?_; refine wpList_store_bk rowRef rfl (.tmp 2) (.tmp 27) rfl (w.heap.size + 1) 0 rfl hz3 (cellsR L.s L.i A n c (cutA (some ⟨g, o, none⟩) d 1) m (d - 1) L.rounds (L.told.set k (t + 1))) rfl HC.out (by decide) (cellsR_one _ _ _ _ _ _ _ _ _ _) ?_; rintro w6 hz6 hw6
         rw [lay_all _ _ HC.out] at hz6))
    have hbl : Below w.heap.size w w6 := HB3.out.trans (hw6.below (by omega) HB3.out.size)
    have hA6 : Lst 3 (fun j => G j ∨ w.heap.size ≤ j) w6 A n c (intV L.ps) := (HA.out.below hbl).mono (fun j hj => .inl hj)
    have hB6 : Lst 3 (fun j => G j ∨ w.heap.size ≤ j) w6 (cutA (some ⟨g, o, none⟩) d 1) m (d - 1) (intV r) := (HBr.out.below hbl).mono (fun j hj => .inl hj)
    have hR := RL.mk2 (L := { L with rest := r, told := L.told.set k (t + 1) }) h1 hbl.size hA6 hB6
    exact bodyPost_ret (results_cell_tmp rfl rfl (rowRef.load hz6 0 HC.out (all_take _))) rfl ⟨_, _, by rw [HH.out]; rfl, by rw [HL.out]; exact hR.1, hR.2, hbl⟩
end Go.Proofs.Ytiefgicapcljiaa
