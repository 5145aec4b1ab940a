/- Scores in memory: Clear; the iterator over paths. -/
import Derived.Test.YtjoagkekbeogoaaS3
import Derived.Test.YtjoagkekbeogoaaItr
set_option linter.unusedSimpArgs false
set_option linter.unusedVariables false
namespace Go.Proofs.Ytjoagkekbeogoaa
open Go.RowKit Go.Shelf
section
variable {w : World} {p : Nat} {S : Sc} {b : Int}
theorem sm_clear (h : Sm w p S) (ho : 1 ≤ S.n) :
    Calls Try.prog 16 #[.pointer (some ⟨p, 0, none⟩)] w fun e w' => e = .returned (.tuple #[]) ∧ Ds p S.clear w w' := by
  have hi0 : (Try.prog.info? 49).map (fun i => (i.zero, i.size, i.bytes)) = some (some (.agg (tabV 3 (fun _ => 0)).toArray), 3, 24) := by kernel_rfl
  obtain ⟨i, hi, hz, -, -⟩ := info_parts hi0
  have HC : Hid ((Builtin.zeroCells (Value.agg (tabV 3 (fun _ => 0)).toArray).cells 8).toList = tabV 24 (fun _ => 0)) := Lib.hid (zeroCells_tab 3 8 (by decide))
  have HI := Lib.hid hi
  have HZ := Lib.hid hz
  clear hi hz hi0
  go_enter Try.func16, Try.ntmps16
  go_wp2_with (first
    | (go_at_call 28; refine (sm_made h ho).mono ?_; rintro e w' ⟨rfl, rfl⟩)
    | (refine wpList_clear_bk rfl (.tmp 7) rfl rfl rfl HI.out HZ.out h (by decide) HC.out (by rw [tabV_len, S.mem_len]; decide) (tabV_one _ _) ?_; rintro w5 hr5 hw5))
  go_end0
  refine ⟨rfl, ?_, ⟨hw5.os, hw5.tape, hw5.output, hw5.size, fun k hk hn => hw5.block k hk (by intro e; injection e with e; exact hn e)⟩⟩
  have := S.mem_lay_c (j := 0) (k := 24) (by omega)
  rw [show (2 + 0 : Nat) = 2 from rfl] at this
  rw [this] at hr5
  have hm : Sc.mem { S with c := fun i => if 0 ≤ i ∧ i < 0 + 24 then 0 else S.c i } = S.clear.mem := by
    refine tabV_congr fun i hi => ?_
    unfold Sc.cell
    by_cases h0 : i = 0
    · rw [if_pos h0, if_pos h0]; rfl
    · rw [if_neg h0, if_neg h0]
      by_cases h1 : i = 1
      · rw [if_pos h1, if_pos h1]; rfl
      · rw [if_neg h1, if_neg h1]
        by_cases h2 : i < 26
        · rw [if_pos h2, if_pos h2]; exact if_pos (by omega)
        · rw [if_neg h2, if_neg h2]; rfl
  rw [hm] at hr5
  exact hr5
set_option maxRecDepth 100000 in
set_option maxHeartbeats 2000000 in
theorem sm_paths (h : Sm w p S) (ho : 1 ≤ S.n) :
    Calls Try.prog 27 #[.pointer (some ⟨p, 0, none⟩)] w fun e w' => ∃ g1 g2, e = .returned (.func (.func 34) #[] #[.pointer (some ⟨g1, 0, none⟩), .pointer (some ⟨g2, 0, none⟩)]) ∧
      w.heap.size ≤ g1 ∧ w.heap.size ≤ g2 ∧ g1 ≠ g2 ∧ Bk w' 51 g1 (tabV 8 S.r) ∧ Bk w' 3 g2 [.int .i64 S.n] ∧ Below w.heap.size w w' := by
    go_enter Try.func27, Try.ntmps27
    go_wp2_with (go_at_call 28; refine (sm_made h ho).mono ?_; rintro e w' ⟨rfl, rfl⟩)
    refine wp_region_E (Below w.heap.size) (by kernel_rfl) (fun wd hbd hsz => ?_)
    have hbk := h.below hbd
    have k0 : ∀ W, Below w.heap.size wd W → W.cell? ⟨p, 0, none⟩ = some (.int .i64 S.n) := fun W hW => (hbk.keep hW h.lt).cell 0 S.mem_n
    have HZ := Lib.hid (show w.heap.size ≤ wd.heap.size from hbd.size)
    have HBD := Lib.hid hbd
    clear hsz
    (refine takeE (belowTr w.heap.size) 0 (by simp only [List.getElem?_toArray, List.getElem?_cons_succ, List.getElem?_cons_zero]; rfl) (by kernel_rfl) (by kernel_rfl) (by kernel_rfl) (by exact fun _ _ _ h => h) (by first | (refine Or.inl ⟨by rfl, ?_⟩; intro W hW; go_simp; try with_reducible rfl) | exact Or.inr ⟨by rfl, rfl⟩) ?_; try simp only [Act.put, List.setIfInBounds_toArray, List.set_cons_zero, List.set_cons_succ])
    (refine takeE (belowTr w.heap.size) 4 (by simp only [List.getElem?_toArray, List.getElem?_cons_succ, List.getElem?_cons_zero]; rfl) (by kernel_rfl) (by kernel_rfl) (by kernel_rfl) (by exact fun _ _ _ h => h) (by first | (refine Or.inl ⟨by rfl, ?_⟩; intro W hW; go_simp; try with_reducible rfl) | exact Or.inr ⟨by rfl, rfl⟩) ?_; try simp only [Act.put, List.setIfInBounds_toArray, List.set_cons_zero, List.set_cons_succ])
    (refine takeE (belowTr w.heap.size) 1 (by simp only [List.getElem?_toArray, List.getElem?_cons_succ, List.getElem?_cons_zero]; rfl) (by kernel_rfl) (by kernel_rfl) (by kernel_rfl) (by exact fun _ _ _ h => h) (by first | (refine Or.inl ⟨by rfl, ?_⟩; intro W hW; go_simp; try with_reducible rfl) | exact Or.inr ⟨by rfl, rfl⟩) ?_; try simp only [Act.put, List.setIfInBounds_toArray, List.set_cons_zero, List.set_cons_succ])
    (refine takeE (belowTr w.heap.size) 5 (by simp only [List.getElem?_toArray, List.getElem?_cons_succ, List.getElem?_cons_zero]; rfl) (by kernel_rfl) (by kernel_rfl) (by kernel_rfl) (by exact fun _ _ _ h => h) (by first | (refine Or.inl ⟨by rfl, ?_⟩; intro W hW; go_simp; try with_reducible rfl) | exact Or.inr ⟨by rfl, rfl⟩) ?_; try simp only [Act.put, List.setIfInBounds_toArray, List.set_cons_zero, List.set_cons_succ])
    (refine takeE (belowTr w.heap.size) 2 (by simp only [List.getElem?_toArray, List.getElem?_cons_succ, List.getElem?_cons_zero]; rfl) (by kernel_rfl) (by kernel_rfl) (by kernel_rfl) (by exact fun _ _ _ h => h) (by first | (refine Or.inl ⟨by rfl, ?_⟩; intro W hW; go_simp; try with_reducible rfl) | exact Or.inr ⟨by rfl, rfl⟩) ?_; try simp only [Act.put, List.setIfInBounds_toArray, List.set_cons_zero, List.set_cons_succ])
    (refine takeE (belowTr w.heap.size) 6 (by simp only [List.getElem?_toArray, List.getElem?_cons_succ, List.getElem?_cons_zero]; rfl) (by kernel_rfl) (by kernel_rfl) (by kernel_rfl) (by exact fun _ _ _ h => h) (by first | (refine Or.inl ⟨by rfl, ?_⟩; intro W hW; go_simp; try with_reducible rfl) | exact Or.inr ⟨by rfl, rfl⟩) ?_; try simp only [Act.put, List.setIfInBounds_toArray, List.set_cons_zero, List.set_cons_succ])
    (refine takeE (belowTr w.heap.size) 3 (by simp only [List.getElem?_toArray, List.getElem?_cons_succ, List.getElem?_cons_zero]; rfl) (by kernel_rfl) (by kernel_rfl) (by kernel_rfl) (by exact fun _ _ _ h => h) (by first | (refine Or.inl ⟨by rfl, ?_⟩; intro W hW; exact exec_load_bk row8 (.tmp 10) rfl p 26 rfl (hbk.keep hW h.lt) (tabV 8 S.r) (tabV_len _ _) S.mem_rs) | exact Or.inr ⟨by rfl, rfl⟩) ?_; try simp only [Act.put, List.setIfInBounds_toArray, List.set_cons_zero, List.set_cons_succ])
    (refine takeE (belowTr w.heap.size) 7 (by simp only [List.getElem?_toArray, List.getElem?_cons_succ, List.getElem?_cons_zero]; rfl) (by kernel_rfl) (by kernel_rfl) (by kernel_rfl) (by exact fun _ _ _ h => h) (by first | (refine Or.inl ⟨by rfl, ?_⟩; intro W hW; go_simp; try with_reducible rfl) | exact Or.inr ⟨by rfl, rfl⟩) ?_; try simp only [Act.put, List.setIfInBounds_toArray, List.set_cons_zero, List.set_cons_succ])
    refine wpAnyE_two (i := 8) (j := 9) (by kernel_rfl) (by simp only [List.getElem?_toArray, List.getElem?_cons_succ, List.getElem?_cons_zero]; rfl) (by simp only [List.getElem?_toArray, List.getElem?_cons_succ, List.getElem?_cons_zero]; rfl) (fun K hK => ?_) (fun K hK => ?_)
    ·
      go_simp
      have hb8 : Below w.heap.size wd (wd.alloc (.cells (tabV 8 (fun _ => 0)).toArray 51)) := (Below.refl _ _).alloc HZ.out _
      have hz8 := Bk.new wd 51 (tabV 8 (fun _ => 0))
      refine hK.out _ _ hb8 ?_
      clear hK K
      try simp only [Act.put, List.setIfInBounds_toArray, List.set_cons_zero, List.set_cons_succ]
      refine wpAnyE_one (i := 9) (by kernel_rfl) (by simp only [List.getElem?_toArray, List.getElem?_cons_succ, List.getElem?_cons_zero]; rfl) (fun K hK => ?_)
      go_simp
      have hb9 : Below w.heap.size (wd.alloc (.cells (tabV 8 (fun _ => 0)).toArray 51)) ((wd.alloc (.cells (tabV 8 (fun _ => 0)).toArray 51)).alloc (.cells #[.int .i64 0] 3)) := (Below.refl _ _).alloc (Nat.le_trans HZ.out hb8.size) _
      have hz9 : Bk ((wd.alloc (.cells (tabV 8 (fun _ => 0)).toArray 51)).alloc (.cells #[.int .i64 0] 3)) 3 (wd.alloc (.cells (tabV 8 (fun _ => 0)).toArray 51)).heap.size [.int .i64 0] := Bk.new (wd.alloc (.cells (tabV 8 (fun _ => 0)).toArray 51)) 3 [.int .i64 0]
      have hz8 := hz8.alloc (.cells #[.int .i64 0] 3)
      rw [World.size_alloc] at hz9
      refine hK.out _ _ hb9 ?_
      clear hK K
      try simp only [Act.put, List.setIfInBounds_toArray, List.set_cons_zero, List.set_cons_succ]
      refine wpAnyE_one (i := 10) (by kernel_rfl) (by simp only [List.getElem?_toArray, List.getElem?_cons_succ, List.getElem?_cons_zero]; rfl) (fun K hK => ?_)
      refine opwp_store_bk row8 rfl (.tmp 3) (.tmp 11) rfl wd.heap.size 0 rfl hz8 (tabV 8 S.r) rfl (tabV_len _ _) (by rw [tabV_len]; decide) (tabV_one _ _) ?_
      rintro w3 hr3 hw3
      rw [lay_all _ _ (by simp only [tabV_len])] at hr3
      have hr9 := hz9.wr hw3 (by omega)
      have d9 := hr9.cell 0 rfl
      have f9 := hr9.free 0
      have hb3 := hw3.below (B := w.heap.size) HZ.out (Nat.le_trans HZ.out (Nat.le_trans hb8.size hb9.size))
      refine hK.out _ _ hb3 ?_
      clear hK K
      try simp only [Act.put, List.setIfInBounds_toArray, List.set_cons_zero, List.set_cons_succ]
      refine wpAnyE_one (i := 11) (by kernel_rfl) (by simp only [List.getElem?_toArray, List.getElem?_cons_succ, List.getElem?_cons_zero]; rfl) (fun K hK => ?_)
      go_simp
      have hb11 : Below w.heap.size w3 (w3.setCell ⟨wd.heap.size + 1, 0, none⟩ (.int .i64 S.n)) := (Below.refl _ _).setCell (by have := HZ.out; simp; omega) _
      refine hK.out _ _ hb11 ?_
      clear hK K
      try simp only [Act.put, List.setIfInBounds_toArray, List.set_cons_zero, List.set_cons_succ]
      refine wpAnyE_done (by kernel_rfl) ?_ _
      have HR := Lib.hid (hr3.far (p := ⟨wd.heap.size + 1, 0, none⟩) (by simp) (.int .i64 S.n))
      have HR9 := Lib.hid (hr9.set 0 (.int .i64 S.n))
      have HB := Lib.hid (HBD.out.trans (((hb8.trans hb9).trans hb3).trans hb11))
      clear hr3 hr9 hb8 hb9 hb3 hb11 d9 f9 hz8 hz9 hw3 hbk k0
      go_wp2
      go_ret
      exact ⟨_, _, rfl, by have := HZ.out; omega, by have := HZ.out; omega, by omega, HR.out, HR9.out, HB.out⟩
    ·
      go_simp
      have hb9 : Below w.heap.size wd (wd.alloc (.cells #[.int .i64 0] 3)) := (Below.refl _ _).alloc HZ.out _
      have hz9 : Bk (wd.alloc (.cells #[.int .i64 0] 3)) 3 wd.heap.size [.int .i64 0] := Bk.new wd 3 [.int .i64 0]
      refine hK.out _ _ hb9 ?_
      clear hK K
      try simp only [Act.put, List.setIfInBounds_toArray, List.set_cons_zero, List.set_cons_succ]
      refine wpAnyE_one (i := 8) (by kernel_rfl) (by simp only [List.getElem?_toArray, List.getElem?_cons_succ, List.getElem?_cons_zero]; rfl) (fun K hK => ?_)
      go_simp
      have hb8 : Below w.heap.size (wd.alloc (.cells #[.int .i64 0] 3)) ((wd.alloc (.cells #[.int .i64 0] 3)).alloc (.cells (tabV 8 (fun _ => 0)).toArray 51)) := (Below.refl _ _).alloc (Nat.le_trans HZ.out hb9.size) _
      have hz8 := Bk.new (wd.alloc (.cells #[.int .i64 0] 3)) 51 (tabV 8 (fun _ => 0))
      have hz9 := hz9.alloc (.cells (tabV 8 (fun _ => 0)).toArray 51)
      rw [World.size_alloc] at hz8
      refine hK.out _ _ hb8 ?_
      clear hK K
      try simp only [Act.put, List.setIfInBounds_toArray, List.set_cons_zero, List.set_cons_succ]
      refine wpAnyE_one (i := 10) (by kernel_rfl) (by simp only [List.getElem?_toArray, List.getElem?_cons_succ, List.getElem?_cons_zero]; rfl) (fun K hK => ?_)
      refine opwp_store_bk row8 rfl (.tmp 3) (.tmp 11) rfl (wd.heap.size + 1) 0 rfl hz8 (tabV 8 S.r) rfl (tabV_len _ _) (by rw [tabV_len]; decide) (tabV_one _ _) ?_
      rintro w3 hr3 hw3
      rw [lay_all _ _ (by simp only [tabV_len])] at hr3
      have hr9 := hz9.wr hw3 (by omega)
      have d9 := hr9.cell 0 rfl
      have f9 := hr9.free 0
      have hb3 := hw3.below (B := w.heap.size) (by have := HZ.out; omega) (Nat.le_trans HZ.out (Nat.le_trans hb9.size hb8.size))
      refine hK.out _ _ hb3 ?_
      clear hK K
      try simp only [Act.put, List.setIfInBounds_toArray, List.set_cons_zero, List.set_cons_succ]
      refine wpAnyE_one (i := 11) (by kernel_rfl) (by simp only [List.getElem?_toArray, List.getElem?_cons_succ, List.getElem?_cons_zero]; rfl) (fun K hK => ?_)
      go_simp
      have hb11 : Below w.heap.size w3 (w3.setCell ⟨wd.heap.size, 0, none⟩ (.int .i64 S.n)) := (Below.refl _ _).setCell (by have := HZ.out; simp; omega) _
      refine hK.out _ _ hb11 ?_
      clear hK K
      try simp only [Act.put, List.setIfInBounds_toArray, List.set_cons_zero, List.set_cons_succ]
      refine wpAnyE_done (by kernel_rfl) ?_ _
      have HR := Lib.hid (hr3.far (p := ⟨wd.heap.size, 0, none⟩) (by simp) (.int .i64 S.n))
      have HR9 := Lib.hid (hr9.set 0 (.int .i64 S.n))
      have HB := Lib.hid (HBD.out.trans (((hb9.trans hb8).trans hb3).trans hb11))
      clear hr3 hr9 hb8 hb9 hb3 hb11 d9 f9 hz8 hz9 hw3 hbk k0
      go_wp2
      go_ret
      exact ⟨_, _, rfl, by have := HZ.out; omega, by have := HZ.out; omega, by omega, HR.out, HR9.out, HB.out⟩
end
attribute [local go_sem] Oper.semAt_some
/-- x[:m] of an array in memory. -/
theorem run_slice_arr (g m : Nat) (hm : m ≤ 8) (w : World) : (Instr.sliceAt 51 (.pointer (some ⟨g, 0, none⟩)) none (some (.int .i64 m)) none).run Try.prog w = .ok (.slice (some ⟨g, 0, none⟩) m 8) w := by
  have h1 := run_sliceBound (P := Try.prog) (w := w) .i64 m 8 .sliceAlen (by omega) (by omega)
  have h2 := run_sliceBound (P := Try.prog) (w := w) .i64 0 m .sliceB (by omega) (by omega)
  have hu : Try.prog.underlying 51 = some (.array 8 3) := rfl
  simp [Instr.sliceAt, run_underlying hu, Instr.sliceBounds, h1, Instr.sureAddr, Addr.add]
set_option maxRecDepth 100000 in
set_option maxHeartbeats 2000000 in
/-- The iterator over the paths of a score. -/
theorem paths_stops (fu : Nat) (hfu : 1 ≤ fu) (T : Nat → Prop) (g1 g2 : Nat) (S : Sc) (w : World) (h8 : S.n ≤ 8)
    (h1 : T g1) (h2 : T g2) (hT : ∀ k, T k → k < w.heap.size) (hb1 : Bk w 51 g1 (tabV 8 S.r)) (hb2 : Bk w 3 g2 [.int .i64 S.n]) :
    SeqStopsK Fence.wide fu Try.prog 34 #[.pointer (some ⟨g1, 0, none⟩), .pointer (some ⟨g2, 0, none⟩)] (fun i : Fin S.n => #[.int .i64 i.val, .bool (S.r i.val == 0)]) (KpS T)
      (fun ys => ys = List.finRange S.n) (fun pre => ∃ k, pre = (List.finRange S.n).take k) S.n w := fun l J Jx W hW hJ hJx hY h0 => by
  have hKW : KpS T w W := fun k hk => hW.block k (hT k hk)
  have e1 : Bk W 51 g1 (tabV 8 S.r) := (hKW g1 h1).trans hb1
  have e2 := (hKW.cell (o := 0) h2).trans (hb2.cell 0 rfl)
  have hsl := fun W : World => run_slice_arr g1 S.n h8 W
  have H8 := Lib.hid h8
  clear hW hKW hb1 hb2 h8
  refine callsIn_of_wp Try.func34 rfl trivial ?_ rfl
  simp only [Try.ntmps34, List.size_toArray, List.length_cons, List.length_nil, Nat.reduceAdd, Nat.reduceSub, Array.replicate_succ, Array.replicate_zero, List.push_toArray, List.append_toArray, List.nil_append, List.cons_append]
  gi_wp2
  gi_loopw [9] (fun i' wr => ∃ k : Nat, k ≤ S.n ∧ i' = .int .i64 k ∧ J ((List.finRange S.n).take k) wr ∧ Bk wr 51 g1 (tabV 8 S.r)) (fun i' _ => S.n + 1 - (intOf i').toNat)
  case atStart => exact ⟨0, Nat.zero_le _, rfl, by simpa using h0, e1⟩
  case round =>
    obtain ⟨k, hk, rfl, hJk, hr⟩ := hrel
    by_cases hlt : k < S.n
    · have f2 := hr.cell k (tabV_get 8 S.r (by have := H8.out; omega))
      have HF := Lib.hid (fin_take S.n k hlt)
      obtain ⟨fn, tmps, assign, body, hy, hR⟩ := hY _ ⟨k, hlt⟩ wr hJk (by simp; omega)
      clear e1 e2
      gi_wp2
      refine hR.mono ?_
      rintro e W3 (⟨rfl, hJ3, hk3⟩ | ⟨rfl, hJx3⟩)
      · have g3 : Bk W3 51 g1 (tabV 8 S.r) := (hk3 g1 h1).trans hr
        have hk8 : k ≤ 8 := by have := H8.out; omega
        clear hy hR f2
        gi_wp2
        go_roundw
        case rel => exact ⟨k + 1, by omega, by go_num, by rw [HF.out]; exact hJ3, g3⟩
        case measure => simp [intOf]; omega
      · clear hy hR f2
        gi_wp2
        refine bodyPost_ret (results_none rfl _ _ _) rfl ?_
        exact ⟨⟨_, rfl⟩, .inr ⟨_, ⟨k + 1, HF.out.symm⟩, hJx3⟩⟩
    · obtain rfl : k = S.n := by omega
      clear e1 e2
      gi_wp2
      go_end0
      exact ⟨⟨_, rfl⟩, .inl ⟨_, List.take_of_length_le (by simp), hJk⟩⟩
end Go.Proofs.Ytjoagkekbeogoaa
