/- Texts of this proof, put together: F26 F17 F18 F28 F29 -/
import Derived.Test.YtboclbanccfbjaaC5
import Derived.Test.YtboclbanccfbjaaC3
import Derived.Test.YtboclbanccfbjaaC6
namespace Go.Proofs.Ytboclbanccfbjaa
set_option linter.unusedSimpArgs false
set_option linter.unusedVariables false
set_option maxRecDepth 100000
open Go.RowKit Go.Shelf
section
variable {F F' : Nat → Prop} {w w' : World} {hs ps L H : Nat} {B : Int} {g : GV} {m : FM} {rs : List (RV × AM)} {a : AM}
/-- The lists of the k-th port. -/
theorem GpC.lens (h : GpC F w hs ps g m rs) (hM : FMb m L H B) (hL : L ≤ 1024) (hH : H ≤ 1024) {k : Nat} (hk : k < rs.length) : ∃ gb o n1 n2 c1 c2 A1 A2, g.A = some ⟨gb, o, none⟩ ∧ gb < w.heap.size ∧
    (∀ W, Below w.heap.size w W → W.cell? ⟨gb, o + k * 11, none⟩ = some (.slice A1 n1 c1)) ∧ (∀ W, Below w.heap.size w W → W.cell? ⟨gb, o + k * 11 + 1, none⟩ = some (.slice A2 n2 c2)) ∧ cntR m hs k = n1 + n2 ∧ n1 ≤ 1024 ∧ n2 ≤ 1024 := by
  obtain ⟨gb, o, hA, hg, hra⟩ := h.cells hk
  have hrp := h.rp _ (List.getElem_mem hk)
  have hpt := h.pt k hk
  have hb := hM.len hpt hL hH
  have hl1 := hrp.lo.len
  have hl2 := hrp.hi.len
  refine ⟨gb, o, rs[k].1.n1, rs[k].1.n2, rs[k].1.c1, rs[k].1.c2, rs[k].1.a1, rs[k].1.a2, hA, hg, fun W hW => range_below hra hg hW 0 _ rfl, fun W hW => range_below hra hg hW 1 _ rfl, ?_, by omega, by omega⟩
  unfold cntR ixR
  rw [hpt]
  show rs[k].2.low.length + rs[k].2.high.length = _
  omega
set_option maxHeartbeats 8000000 in
theorem g_Total (h : GpR F w hs ps g m) (hM : FMb m L H B) (hL : L ≤ 1024) (hH : H ≤ 1024) :
    Calls Try.prog 22 #[.agg #[.int .i64 hs, .int .i64 ps, .slice g.A g.n g.c, .int .i64 (m.ct 0), .int .i64 (m.ct 1), .int .i64 (m.ct 2), .int .i64 (m.ct 3), .int .i64 (m.ct 4)]] w fun e w' => e = .returned (.int .i64 m.total) ∧ Below w.heap.size w w' := by
  obtain ⟨rs, h⟩ := h
  have HD := Lib.hid h.gd
  have hln : g.n = hs * ps := by rw [h.ln, h.dim]
  have hle : hs * ps ≤ 8 * 8 := Nat.mul_le_mul h.gd.h8 h.gd.p8
  have HLN := Lib.hid hln
  have HROW := Lib.hid (fun (k : Nat) (hk : k < g.n) => h.lens hM hL hH (k := k) (by rw [← h.ln]; exact hk))
  have hbx := Bk.new w 30 [.int .i64 hs, .int .i64 ps, .slice g.A g.n g.c, .int .i64 (m.ct 0), .int .i64 (m.ct 1), .int .i64 (m.ct 2), .int .i64 (m.ct 3), .int .i64 (m.ct 4)]
  have hb1 : Below w.heap.size w (w.alloc (.cells ([.int .i64 hs, .int .i64 ps, .slice g.A g.n g.c, .int .i64 (m.ct 0), .int .i64 (m.ct 1), .int .i64 (m.ct 2), .int .i64 (m.ct 3), .int .i64 (m.ct 4)] : List Value).toArray 30)) := (Below.refl _ w).alloc (Nat.le_refl _) _
  have hn64 : g.n ≤ 64 := by omega
  obtain ⟨gA, gn, gc⟩ := g
  dsimp only at hbx hb1 hn64 HLN HROW ⊢
  obtain ⟨w0, hw0⟩ : ∃ W, W = w.alloc (.cells ([.int .i64 hs, .int .i64 ps, .slice gA gn gc, .int .i64 (m.ct 0), .int .i64 (m.ct 1), .int .i64 (m.ct 2), .int .i64 (m.ct 3), .int .i64 (m.ct 4)] : List Value).toArray 30) := ⟨_, rfl⟩
  rw [← hw0] at hbx hb1
  have HBX := Lib.hid hbx
  have HB1 := Lib.hid hb1
  have HW0 := Lib.hid hw0
  clear h hM hln hle hbx hb1 hw0
  go_enter Try.func22, Try.ntmps22
  go_wp2
  rw [← HW0.out]
  go_loopw [3, 4] (fun tv iv wr => ∃ k : Nat, iv = .int .i64 k ∧ k ≤ gn ∧ tv = .int .i64 (totR m hs k : Nat) ∧ totR m hs k ≤ k * 2048 ∧ Below w0.heap.size w0 wr) (fun tv iv _ => gn - (intOf iv).toNat)
  case atStart => exact ⟨0, rfl, Nat.zero_le _, rfl, Nat.zero_le _, Below.refl _ _⟩
  case round =>
    obtain ⟨k, rfl, hk, rfl, ht, hb⟩ := hrel
    have c0 := (HBX.out.below hb).cell 2 rfl
    by_cases hlt : k < gn
    · obtain ⟨gb, o, n1, n2, c1, c2, A1, A2, hA, hgb, hr1, hr2, hcn, hn1, hn2⟩ := HROW.out k hlt
      obtain rfl : gA = some ⟨gb, o, none⟩ := hA
      have hkI : (k : Int) < gn := by omega
      have HB := Lib.hid hb
      have hb2 := below_on HB1.out hb
      have d0 := fun j => ((HBX.out.below hb).below (Below.drewN_ wr j)).cell 2 rfl
      have d1 : ∀ j, (wr.drewN j).cell? ⟨gb, o + k * 11, none⟩ = some (.slice A1 n1 c1) := fun j => hr1 _ (below_on hb2 (Below.drewN_ wr j))
      have d2 : ∀ j, (wr.drewN j).cell? ⟨gb, o + k * 11 + 1, none⟩ = some (.slice A2 n2 c2) := fun j => hr2 _ (below_on hb2 (Below.drewN_ wr j))
      have HT : Hid (totR m hs (k + 1) = totR m hs k + (n1 + n2)) := Lib.hid (by rw [← hcn]; rfl)
      generalize totR m hs k = t at *
      clear hr1 hr2 hb hb2 hcn
      go_wp2
      go_quiet (fail)
      go_wp2
      go_roundw
      case rel => exact ⟨k + 1, by go_num, by omega, by rw [HT.out]; go_num, by rw [HT.out]; omega, HB.out.trans ((Below.drewN_ _ _).mono HB.out.size)⟩
      case measure => simp [intOf]; omega
    · obtain rfl : k = gn := by omega
      have HT : Hid (totR m hs k = m.total) := Lib.hid (by rw [HLN.out]; exact HD.out.total)
      have HB := Lib.hid hb
      clear hb ht
      generalize totR m hs k = t at *
      go_wp2
      go_ret
      exact ⟨by rw [HT.out]; rfl, below_on HB1.out HB.out⟩
set_option maxHeartbeats 8000000 in
theorem g_Busy (h : GpR F w hs ps g m) (hM : FMb m L H B) (hL : L ≤ 1024) (hH : H ≤ 1024) :
    Calls Try.prog 18 #[.agg #[.int .i64 hs, .int .i64 ps, .slice g.A g.n g.c, .int .i64 (m.ct 0), .int .i64 (m.ct 1), .int .i64 (m.ct 2), .int .i64 (m.ct 3), .int .i64 (m.ct 4)]] w (Made 3 (intV (plcs m.busy)) w) := by
  obtain ⟨rs, h⟩ := h
  have HD := Lib.hid h.gd
  have h0s : 0 < hs := by have := h.gd.h1; omega
  have h8s := h.gd.h8
  have hln : g.n = hs * ps := by rw [h.ln, h.dim]
  have hle : hs * ps ≤ 8 * 8 := Nat.mul_le_mul h.gd.h8 h.gd.p8
  have HLN := Lib.hid hln
  have HROW := Lib.hid (fun (k : Nat) (hk : k < g.n) => h.lens hM hL hH (k := k) (by rw [← h.ln]; exact hk))
  have hbx := Bk.new w 30 [.int .i64 hs, .int .i64 ps, .slice g.A g.n g.c, .int .i64 (m.ct 0), .int .i64 (m.ct 1), .int .i64 (m.ct 2), .int .i64 (m.ct 3), .int .i64 (m.ct 4)]
  have hb1 : Below w.heap.size w (w.alloc (.cells ([.int .i64 hs, .int .i64 ps, .slice g.A g.n g.c, .int .i64 (m.ct 0), .int .i64 (m.ct 1), .int .i64 (m.ct 2), .int .i64 (m.ct 3), .int .i64 (m.ct 4)] : List Value).toArray 30)) := (Below.refl _ w).alloc (Nat.le_refl _) _
  have hn64 : g.n ≤ 64 := by omega
  obtain ⟨gA, gn, gc⟩ := g
  dsimp only at hbx hb1 hn64 HLN HROW ⊢
  obtain ⟨w0, hw0⟩ : ∃ W, W = w.alloc (.cells ([.int .i64 hs, .int .i64 ps, .slice gA gn gc, .int .i64 (m.ct 0), .int .i64 (m.ct 1), .int .i64 (m.ct 2), .int .i64 (m.ct 3), .int .i64 (m.ct 4)] : List Value).toArray 30) := ⟨_, rfl⟩
  rw [← hw0] at hbx hb1
  have HBX := Lib.hid hbx
  have HB1 := Lib.hid hb1
  have HW0 := Lib.hid hw0
  clear h hM hln hle hbx hb1 hw0
  go_enter Try.func18, Try.ntmps18
  go_wp2
  rw [← HW0.out]
  go_loopw [3, 4] (fun lv iv wr => ∃ (k : Nat) (A3 : Option Addr) (n3 c3 : Nat), iv = .int .i64 k ∧ k ≤ gn ∧ lv = .slice A3 n3 c3 ∧ Lst 3 (w0.heap.size ≤ ·) wr A3 n3 c3 (intV (plcs (busR m hs k))) ∧ Below w0.heap.size w0 wr) (fun lv iv _ => gn - (intOf iv).toNat)
  case atStart => exact ⟨0, none, 0, 0, rfl, Nat.zero_le _, rfl, Lst.nil _ _ _, Below.refl _ _⟩
  case round =>
    obtain ⟨k, A3, n3, c3, rfl, hk, rfl, hl, hb⟩ := hrel
    have c0 := (HBX.out.below hb).cell 2 rfl
    by_cases hlt : k < gn
    · obtain ⟨gb, o, n1, n2, c1, c2, A1, A2, hA, hgb, hr1, hr2, hcn, hn1, hn2⟩ := HROW.out k hlt
      obtain rfl : gA = some ⟨gb, o, none⟩ := hA
      have hkI : (k : Int) < gn := by omega
      have HB := Lib.hid hb
      have hb2 := below_on HB1.out hb
      have d0 := fun j => ((HBX.out.below hb).below (Below.drewN_ wr j)).cell 2 rfl
      have d1 : ∀ j, (wr.drewN j).cell? ⟨gb, o + k * 11, none⟩ = some (.slice A1 n1 c1) := fun j => hr1 _ (below_on hb2 (Below.drewN_ wr j))
      have d2 : ∀ j, (wr.drewN j).cell? ⟨gb, o + k * 11 + 1, none⟩ = some (.slice A2 n2 c2) := fun j => hr2 _ (below_on hb2 (Below.drewN_ wr j))
      have HL := Lib.hid hl
      have hn3 : n3 ≤ 2 * k := by
        have h1 := hl.1
        rw [intV_len, plcs_len] at h1
        have := busR_len m hs k
        omega
      clear hr1 hr2 hb hb2 hl
      by_cases hz : n1 + n2 = 0
      · have HS : Hid (busR m hs (k + 1) = busR m hs k) := Lib.hid (by rw [busR_succ, hcn, if_neg (by omega)])
        obtain rfl : n1 = 0 := by omega
        obtain rfl : n2 = 0 := by omega
        clear hz hcn
        go_wp2
        go_quiet (fail)
        go_wp2
        go_roundw
        case rel => exact ⟨k + 1, A3, n3, c3, by go_num, by omega, rfl, by rw [HS.out]; exact HL.out.below (Below.drewN_ _ _), HB.out.trans ((Below.drewN_ _ _).mono HB.out.size)⟩
        case measure => simp [intOf]; omega
      · have HS : Hid (busR m hs (k + 1) = busR m hs k ++ [(k / hs, k % hs)]) := Lib.hid (by rw [busR_succ, hcn, if_pos (by omega)])
        have hzI : (0 : Int) < (n1 : Int) + n2 := by omega
        have hdv : Int.tdiv (k : Int) (hs : Int) = ((k / hs : Nat) : Int) := by rw [Int.tdiv_eq_ediv_of_nonneg (by omega)]; exact (Int.natCast_ediv k hs).symm
        have hmd : Int.tmod (k : Int) (hs : Int) = ((k % hs : Nat) : Int) := by rw [Int.tmod_eq_emod_of_nonneg (by omega)]; exact (Int.natCast_emod k hs).symm
        have hd8 : k / hs ≤ k := Nat.div_le_self k hs
        have hm8 : k % hs < hs := Nat.mod_lt k h0s
        have hs0 : ¬ hs = 0 := by omega
        have hby : (n3 + 2) * 8 ≤ 140737488355328 := by omega
        generalize k / hs = kd at *
        generalize k % hs = km at *
        have hwd : IntKind.i64.wrap (kd : Int) = kd := by rw [IntKind.wrap_i64]; omega
        have hwm : IntKind.i64.wrap (km : Int) = km := by rw [IntKind.wrap_i64]; omega
        clear hz hcn
        go_upto_region 6 with fail
        go_quiet (fail)
        go_upto_region 6 with fail
        refine wp_region_E (Below w0.heap.size) (by kernel_rfl) (fun wd hbd hsz => ?_)
        have HBD := Lib.hid (HB.out.trans ((below_on (Below.drewN_ _ _) hbd).mono HB.out.size))
        have q1 : ∀ W, Below w0.heap.size wd W → W.cell? ⟨w.heap.size, 0, none⟩ = some (.int .i64 hs) := fun W hW => (HBX.out.below (HBD.out.trans hW)).cell 0 rfl
        have hsw : w0.heap.size ≤ wd.heap.size := HBD.out.size
        have hla := ((HL.out.below (below_on (Below.drewN_ _ _) hbd)).alloc (.cells #[.int .i64 kd, .int .i64 km] 3)).tight
        have hu := RdV.two wd 3 (.int .i64 kd) (.int .i64 km) rfl rfl
        have hA3 : ∀ k, BlkOf A3 k → w0.heap.size ≤ k := by rintro k ⟨ad, he, rfl⟩; exact (HL.out.blk ad he).1
        clear hsz
        (refine takeE (belowTr w0.heap.size) 0 (by simp only [List.getElem?_toArray, List.getElem?_cons_succ, List.getElem?_cons_zero]; rfl) (by kernel_rfl) (by kernel_rfl) (by kernel_rfl) (by exact fun _ _ _ h => h) (by first | (refine Or.inl ⟨by rfl, ?_⟩; intro W hW; go_simp; try with_reducible rfl) | exact Or.inr ⟨by rfl, rfl⟩) ?_; try simp only [Act.put, List.setIfInBounds_toArray, List.set_cons_zero, List.set_cons_succ])
        (refine takeE (belowTr w0.heap.size) 1 (by simp only [List.getElem?_toArray, List.getElem?_cons_succ, List.getElem?_cons_zero]; rfl) (by kernel_rfl) (by kernel_rfl) (by kernel_rfl) (by exact fun _ _ _ h => h) (by first | (refine Or.inl ⟨by rfl, ?_⟩; intro W hW; go_simp; try with_reducible rfl) | exact Or.inr ⟨by rfl, rfl⟩) ?_; try simp only [Act.put, List.setIfInBounds_toArray, List.set_cons_zero, List.set_cons_succ])
        (refine takeE (belowTr w0.heap.size) 2 (by simp only [List.getElem?_toArray, List.getElem?_cons_succ, List.getElem?_cons_zero]; rfl) (by kernel_rfl) (by kernel_rfl) (by kernel_rfl) (by exact fun _ _ _ h => h) (by first | (refine Or.inl ⟨by rfl, ?_⟩; intro W hW; go_simp; try with_reducible rfl) | exact Or.inr ⟨by rfl, rfl⟩) ?_; try simp only [Act.put, List.setIfInBounds_toArray, List.set_cons_zero, List.set_cons_succ])
        (refine takeE (belowTr w0.heap.size) 5 (by simp only [List.getElem?_toArray, List.getElem?_cons_succ, List.getElem?_cons_zero]; rfl) (by kernel_rfl) (by kernel_rfl) (by kernel_rfl) (by exact fun _ _ _ h => h) (by first | (refine Or.inl ⟨by rfl, ?_⟩; intro W hW; go_simp; try with_reducible rfl) | exact Or.inr ⟨by rfl, rfl⟩) ?_; try simp only [Act.put, List.setIfInBounds_toArray, List.set_cons_zero, List.set_cons_succ])
        (refine takeE (belowTr w0.heap.size) 6 (by simp only [List.getElem?_toArray, List.getElem?_cons_succ, List.getElem?_cons_zero]; rfl) (by kernel_rfl) (by kernel_rfl) (by kernel_rfl) (by exact fun _ _ _ h => h) (by first | (refine Or.inl ⟨by rfl, ?_⟩; intro W hW; go_simp; try with_reducible rfl) | exact Or.inr ⟨by rfl, rfl⟩) ?_; try simp only [Act.put, List.setIfInBounds_toArray, List.set_cons_zero, List.set_cons_succ])
        (refine takeE (belowTr w0.heap.size) 3 (by simp only [List.getElem?_toArray, List.getElem?_cons_succ, List.getElem?_cons_zero]; rfl) (by kernel_rfl) (by kernel_rfl) (by kernel_rfl) (by exact fun _ _ _ h => h) (by first | (refine Or.inl ⟨by rfl, ?_⟩; intro W hW; go_simp; try with_reducible rfl) | exact Or.inr ⟨by rfl, rfl⟩) ?_; try simp only [Act.put, List.setIfInBounds_toArray, List.set_cons_zero, List.set_cons_succ])
        (refine takeE (belowTr w0.heap.size) 7 (by simp only [List.getElem?_toArray, List.getElem?_cons_succ, List.getElem?_cons_zero]; rfl) (by kernel_rfl) (by kernel_rfl) (by kernel_rfl) (by exact fun _ _ _ h => h) (by first | (refine Or.inl ⟨by rfl, ?_⟩; intro W hW; go_simp; try with_reducible rfl) | exact Or.inr ⟨by rfl, rfl⟩) ?_; try simp only [Act.put, List.setIfInBounds_toArray, List.set_cons_zero, List.set_cons_succ])
        (refine takeE (belowTr w0.heap.size) 4 (by simp only [List.getElem?_toArray, List.getElem?_cons_succ, List.getElem?_cons_zero]; rfl) (by kernel_rfl) (by kernel_rfl) (by kernel_rfl) (by exact fun _ _ _ h => h) (by first | (refine Or.inl ⟨by rfl, ?_⟩; intro W hW; go_simp; try with_reducible rfl) | exact Or.inr ⟨by rfl, rfl⟩) ?_; try simp only [Act.put, List.setIfInBounds_toArray, List.set_cons_zero, List.set_cons_succ])
        (refine takeE (belowTr w0.heap.size) 8 (by simp only [List.getElem?_toArray, List.getElem?_cons_succ, List.getElem?_cons_zero]; rfl) (by kernel_rfl) (by kernel_rfl) (by kernel_rfl) (by exact fun _ _ _ h => h) (by first | (refine Or.inl ⟨by rfl, ?_⟩; intro W hW; go_simp; try with_reducible rfl) | exact Or.inr ⟨by rfl, rfl⟩) ?_; try simp only [Act.put, List.setIfInBounds_toArray, List.set_cons_zero, List.set_cons_succ])
        refine wpAnyE_one (i := 9) (by kernel_rfl) (by simp only [List.getElem?_toArray, List.getElem?_cons_succ, List.getElem?_cons_zero]; rfl) (fun K hK => ?_)
        go_simp
        refine hK.out _ _ ((Below.refl _ _).alloc hsw _) ?_
        clear hK K
        try simp only [Act.put, List.setIfInBounds_toArray, List.set_cons_zero, List.set_cons_succ]
        refine wpAnyE_one (i := 10) (by kernel_rfl) (by simp only [List.getElem?_toArray, List.getElem?_cons_succ, List.getElem?_cons_zero]; rfl) (fun K hK => ?_)
        refine opwp_append_lst eltI rfl (.tmp 28) (.tmp 37) rfl rfl hla rfl hu hby ?_
        rintro v w9 ⟨⟨A9, n9, c9, rfl, hl9⟩, hst9⟩
        have hb9 : Below w0.heap.size (wd.alloc (.cells #[.int .i64 kd, .int .i64 km] 3)) w9 := hst9.below (by simp; omega) hA3
        have HL9 : Hid (Lst 3 (w0.heap.size ≤ ·) w9 A9 n9 c9 (intV (plcs (busR m hs k) ++ [(kd : Int), (km : Int)]))) := Lib.hid (by
          have e : intV (plcs (busR m hs k) ++ [(kd : Int), (km : Int)]) = intV (plcs (busR m hs k)) ++ [.int .i64 kd, .int .i64 km] := by simp [intV]
          rw [e]
          refine hl9.mono ?_
          rintro k (hk | hk)
          · exact hA3 k hk
          · simp at hk; omega)
        have HB9 := Lib.hid ((HBD.out.alloc hsw _).trans hb9)
        clear hl9 hst9 hla hu
        refine hK.out _ _ hb9 ?_
        clear hK K
        try simp only [Act.put, List.setIfInBounds_toArray, List.set_cons_zero, List.set_cons_succ]
        (refine takeE (belowTr w0.heap.size) 11 (by simp only [List.getElem?_toArray, List.getElem?_cons_succ, List.getElem?_cons_zero]; rfl) (by kernel_rfl) (by kernel_rfl) (by kernel_rfl) (by exact fun _ _ _ h => h) (by first | (refine Or.inl ⟨by rfl, ?_⟩; intro W hW; go_simp; try with_reducible rfl) | exact Or.inr ⟨by rfl, rfl⟩) ?_; try simp only [Act.put, List.setIfInBounds_toArray, List.set_cons_zero, List.set_cons_succ])
        refine wpAnyE_done (by kernel_rfl) ?_ _
        clear q1
        go_wp2
        go_roundw
        case rel => exact ⟨k + 1, A9, n9, c9, by go_num, by omega, rfl, by rw [HS.out, plcs_snoc]; exact HL9.out, HB9.out⟩
        case measure => simp [intOf]; omega
    · obtain rfl : k = gn := by omega
      have HT : Hid (busR m hs k = m.busy) := Lib.hid (by rw [HLN.out]; exact HD.out.busy)
      have HB := Lib.hid hb
      have HL := Lib.hid hl
      clear hb hl
      go_wp2
      go_ret
      exact ⟨A3, n3, c3, rfl, by rw [← HT.out]; exact HL.out.mono (fun k hk => Nat.le_trans HB1.out.size hk), below_on HB1.out HB.out⟩
end
end Go.Proofs.Ytboclbanccfbjaa
namespace Go.Proofs.Ytboclbanccfbjaa
set_option linter.unusedSimpArgs false
set_option linter.unusedVariables false
set_option maxRecDepth 100000
open Go.RowKit Go.Shelf
theorem rowO : Row Try.prog 37 5 := ⟨⟨_, rfl, rfl⟩, by kernel_rfl⟩
section
variable {P : Program} {w : World} {Q : Exit → Act → World → Prop} {ops : Array Oper} {rest : List Oper} {op : Oper} {a : Act}
theorem wpList_load_op {e : TypeId} (R : Row P e 5) (hgd : op.guard = none) (x : Operand) (ho : op.op = .load e x) (dv : Int) (A : Option Addr) (n c : Nat) (p q f : Int) (g o : Nat) (hx : a.eval x = .pointer (some ⟨g, o, none⟩)) (h : w.rangeAt g o (opL dv A n c p q f))
    (hq : wpList P ops Q rest (a.put op.dst (.agg #[.int .u8 dv, .slice A n c, .int .i64 p, .int .i64 q, .int .i64 f])) w) : wpList P ops Q (op :: rest) a w := by
  obtain ⟨d, h1, h2⟩ := R.ht
  exact wpList_load_mid hgd e x ho g o hx (opL dv A n c p q f) d h h1 h2 R.hi hq
end
section
variable {F X F1 X1 G : Nat → Prop} {w0 w w' w1 : World} {b : Nat} {m m1 : FM} {pp : Nat → Nat} {FF : Nat → Nat → Prop} {k L H : Nat} {B : Nat} {A : Option Addr} {n c : Nat} {qs : List Pv}
/-- Put, of few packets. -/
def Told (F : Nat → Prop) (w w0 : World) (b : Nat) (pp : Nat → Nat) (m : FM) (L H i : Nat) (ks : List Pk) (e : Ending) (w' : World) : Prop := ∃ (t : Nat → Int) (m' : FM) (F' : Nat → Prop) (FF' : Nat → Nat → Prop), e = .returned (.agg #[.int .i64 (t 0), .int .i64 (t 1), .int .i64 (t 2), .int .i64 (t 3), .int .i64 (t 4)]) ∧
  (m', t) = m.puts ks ∧ FJ w0 b m' w' F' pp FF' ∧ FOk m' L H (i + 1) ∧ (∀ j, 0 ≤ t j ∧ t j ≤ 12) ∧ St F w w'
theorem FJ.put {i : Nat} {A : Option Addr} {n c : Nat} {ks : List Pk} (h : FJ w0 b m w F pp FF) (hO : FOk m L H i) (hi : i ≤ 60) (hn : n = ks.length) (hk : ks.length ≤ 12) (hs : SlP F w A n c ks) :
    Calls Try.prog 11 #[.pointer (some ⟨b, 0, none⟩), .slice A n c] w (Told F w w0 b pp m L H i ks) := by
  refine (f_Put h.fb hO.z hO.b hO.c (by omega) hs).mono ?_
  rintro e w' ⟨rfl, F', FF', hf, hs', hg⟩
  exact ⟨_, _, F', FF', rfl, rfl, h.did hf hs' hg, (hO.put hk).1, (hO.put hk).2, hs'⟩
end
end Go.Proofs.Ytboclbanccfbjaa
namespace Go.Proofs.Ytboclbanccfbjaa
set_option linter.unusedSimpArgs false
set_option linter.unusedVariables false
set_option maxRecDepth 100000
open Go.RowKit Go.Shelf
/-- A fabric's ports, in a block that holds these cells. -/
structure FbG (F X : Nat → Prop) (w : World) (b : Nat) (mm : List Value) (m : FM) (pp : Nat → Nat) (FF : Nat → Nat → Prop) : Prop where
  bk : Bk w 70 b mm
  lt : ∀ k a, m.pt k = some a → k < 64
  pt : ∀ k a, m.pt k = some a → Pb (FF k) (fun j => F j ∨ X j) w (pp k) a
  sep : ∀ i k a c, m.pt i = some a → m.pt k = some c → i ≠ k → Sep (FF i) (FF k)
  nb : ∀ k a, m.pt k = some a → ¬ FF k b
  f : ∀ j, F j ↔ j = b ∨ ∃ k a, m.pt k = some a ∧ FF k j
  xb : ∀ j, X j → j < w.heap.size
section
variable {F X F1 X1 G : Nat → Prop} {w w' w1 : World} {b : Nat} {m m1 : FM} {pp : Nat → Nat} {FF : Nat → Nat → Prop} {k : Nat} {a c : AM}
theorem FbG.bd {mm : List Value} (h : FbG F X w b mm m pp FF) : ∀ j, F j → j < w.heap.size := fun j hj => by
  rcases (h.f j).1 hj with rfl | ⟨k, a, hk, hf⟩
  · exact h.bk.lt
  · exact (h.pt k a hk).bd j hf
theorem FbG.atB {mm : List Value} (h : FbG F X w b mm m pp FF) : F b := (h.f b).2 (.inl rfl)
theorem FbG.sub {mm : List Value} (h : FbG F X w b mm m pp FF) (hk : m.pt k = some a) : ∀ j, FF k j → F j := fun j hj => (h.f j).2 (.inr ⟨k, a, hk, hj⟩)
/-- A new port is laid in. -/
theorem FbG.newp {mm : List Value} (h : FbG F X w b mm m pp FF) {p k : Nat} (hk : k < 64) (hn : m.pt k = none) (hb : Below w.heap.size w w1) (hp : Pb F1 (fun j => F j ∨ X j) w1 p c) (hF : ∀ j, F1 j → w.heap.size ≤ j) :
    ∃ F' FF', FbG F' X (w1.setCell ⟨b, k, none⟩ (.pointer (some ⟨p, 0, none⟩))) b (mm.set k (.pointer (some ⟨p, 0, none⟩))) (m.sp k c) (set1 pp k p) FF' ∧ ∀ j, F' j → F j ∨ F1 j := by
  have hs : St (· = b) w1 (w1.setCell ⟨b, k, none⟩ (.pointer (some ⟨p, 0, none⟩))) := St.setCell (F := (· = b)) w1 (a := ⟨b, k, none⟩) rfl _
  have hpt : ∀ i e, (m.sp k c).pt i = some e → i ≠ k → m.pt i = some e := fun i e hi hik => by unfold FM.sp at hi; dsimp only at hi; rwa [set1_ne _ _ hik] at hi
  have hptk : ∀ e, (m.sp k c).pt k = some e → e = c := fun e hi => by unfold FM.sp at hi; dsimp only at hi; rw [set1_at] at hi; injection hi with hi; exact hi.symm
  have hne : ∀ i e, m.pt i = some e → i ≠ k := fun i e hi e' => by rw [e', hn] at hi; cases hi
  have hF' : ∀ j, (j = b ∨ ∃ i e, (m.sp k c).pt i = some e ∧ set1 FF k F1 i j) → F j ∨ F1 j := by
    rintro j (rfl | ⟨i, e, hi, hj⟩)
    · exact .inl h.atB
    · by_cases hik : i = k
      · subst hik; rw [set1_at] at hj; exact .inr hj
      · rw [set1_ne _ _ hik] at hj
        exact .inl (h.sub (hpt i e hi hik) j hj)
  have hX1 : ∀ j, ((j = b ∨ ∃ i e, (m.sp k c).pt i = some e ∧ set1 FF k F1 i j) ∨ X j) → j < (w1.setCell ⟨b, k, none⟩ (.pointer (some ⟨p, 0, none⟩))).heap.size := fun j hj => by
    refine Nat.lt_of_lt_of_le ?_ hs.size
    rcases hj with hj | hj
    · rcases hF' j hj with h1 | h1
      · exact Nat.lt_of_lt_of_le (h.bd j h1) hb.size
      · exact hp.bd j h1
    · exact Nat.lt_of_lt_of_le (h.xb j hj) hb.size
  have hnb1 : ¬ F1 b := fun hf => by have := hF b hf; have := h.bk.lt; omega
  have hst : St (fun j => j = b ∨ w.heap.size ≤ j) w (w1.setCell ⟨b, k, none⟩ (.pointer (some ⟨p, 0, none⟩))) := (St.ext hb).trans (hs.mono fun j _ hj => .inl hj) (Gr.refl _ _)
  refine ⟨fun j => j = b ∨ ∃ i e, (m.sp k c).pt i = some e ∧ set1 FF k F1 i j, set1 FF k F1, ⟨?_, ?_, ?_, ?_, ?_, fun j => Iff.rfl, fun j hj => hX1 j (.inr hj)⟩, hF'⟩
  · exact (h.bk.below hb).set _ _
  · intro i e hi
    by_cases hik : i = k
    · subst hik; exact hk
    · exact h.lt i e (hpt i e hi hik)
  · intro i e hi
    by_cases hik : i = k
    · subst hik
      obtain rfl := hptk e hi
      rw [set1_at, set1_at]
      refine (hp.off (X1 := fun j => (j = b ∨ ∃ i' e', (m.sp i e).pt i' = some e' ∧ set1 FF i F1 i' j) ∨ X j) fun j hj => ?_).st2 hs (fun j hj e' => hnb1 (e' ▸ hj)) (fun j hj => .inl (.inl (.inl hj))) (fun j hj => .inl hj) hX1
      rcases hj with hj | hj
      · exact (hF' j hj).elim (fun h1 => .inr (.inl h1)) .inl
      · exact .inr (.inr hj)
    · rw [set1_ne _ _ hik, set1_ne _ _ hik]
      have hi' := hpt i e hi hik
      refine (h.pt i e hi').st2 hst (fun j hj hj' => ?_) (fun j hj => ?_) (fun j hj => ?_) hX1
      · rcases hj' with rfl | hj'
        · exact h.nb i e hi' hj
        · have := (h.pt i e hi').bd j hj; omega
      · exact hj.elim (fun e => .inl (.inl (by rw [e]; exact h.atB))) .inr
      · rcases hj with hj | hj
        · rcases hF' j hj with h1 | h1
          · exact .inl (.inl h1)
          · exact .inr (hF j h1)
        · exact .inl (.inr hj)
  · have key : ∀ i e, m.pt i = some e → Sep F1 (FF i) := fun i e hi => sep_lt hF fun j hj => (h.pt i e hi).bd j hj
    intro i l e d hi hl hil
    by_cases hik : i = k
    · subst hik
      rw [set1_at, set1_ne _ _ (Ne.symm hil)]
      exact key l d (hpt l d hl (Ne.symm hil))
    · by_cases hlk : l = k
      · subst hlk
        rw [set1_at, set1_ne _ _ hik]
        exact (key i e (hpt i e hi hik)).symm
      · rw [set1_ne _ _ hik, set1_ne _ _ hlk]
        exact h.sep i l e d (hpt i e hi hik) (hpt l d hl hlk) hil
  · intro i e hi
    by_cases hik : i = k
    · subst hik
      rw [set1_at]; exact hnb1
    · rw [set1_ne _ _ hik]
      exact h.nb i e (hpt i e hi hik)
end
/-- The ports before cur. -/
def FM.bf (m : FM) (cur : Nat) : FM := ⟨fun k => if k < cur then m.pt k else none, m.ct⟩
def mix (cur : Nat) (p2 pp : Nat → Nat) : Nat → Nat := fun k => if k < cur then p2 k else pp k
theorem FM.bf_some (m : FM) {cur : Nat} {a : AM} (h : m.pt cur = some a) : (m.bf cur).sp cur a = m.bf (cur + 1) := by
  unfold FM.sp FM.bf
  congr 1
  funext k
  unfold set1
  dsimp only
  by_cases hk : k = cur
  · subst hk; rw [if_pos rfl, if_pos (by omega), h]
  · rw [if_neg hk]
    by_cases hl : k < cur
    · rw [if_pos hl, if_pos (by omega)]
    · rw [if_neg hl, if_neg (by omega)]
theorem FM.bf_none (m : FM) {cur : Nat} (h : m.pt cur = none) : m.bf (cur + 1) = m.bf cur := by
  unfold FM.bf
  congr 1
  funext k
  by_cases hk : k = cur
  · subst hk; rw [if_pos (by omega), if_neg (by omega), h]
  · by_cases hl : k < cur
    · rw [if_pos hl, if_pos (by omega)]
    · rw [if_neg hl, if_neg (by omega)]
theorem FM.bf_all (m : FM) (h : ∀ k a, m.pt k = some a → k < 64) : m.bf 64 = m := by
  unfold FM.bf
  cases m with
  | mk pt ct =>
    congr 1
    funext k
    by_cases hk : k < 64
    · rw [if_pos hk]
    · rw [if_neg hk]
      cases hp : pt k with
      | none => rfl
      | some a => exact absurd (h k a hp) hk
theorem FM.mem_mix_some (m : FM) (p2 pp : Nat → Nat) {cur p : Nat} (h : cur < 64) {a : AM} (hm : m.pt cur = some a) : (m.mem (mix cur p2 pp)).set cur (.pointer (some ⟨p, 0, none⟩)) = m.mem (mix (cur + 1) (set1 p2 cur p) pp) := by
  rw [FM.mem_sp m _ h a]
  refine FM.mem_ext (FM.mem_len _ _) fun j hj => ?_
  rw [FM.mem_get _ _ hj]
  unfold FM.cell FM.sp mix set1
  dsimp only
  by_cases hjc : j = cur
  · subst hjc
    have h1 : j < j + 1 := by omega
    simp only [if_true, hm, h1, h]
  · have h1 : (j < cur + 1) = (j < cur) := propext (by omega)
    simp only [hjc, if_false, h1]
theorem FM.mem_mix_none (m : FM) (p2 pp : Nat → Nat) {cur : Nat} (h : cur < 64) (hm : m.pt cur = none) : (m.mem (mix cur p2 pp)).set cur (.pointer none) = m.mem (mix (cur + 1) p2 pp) := by
  refine FM.mem_ext (by simp [FM.mem_len]) fun j hj => ?_
  rw [List.getElem?_set]
  by_cases hjc : cur = j
  · subst hjc
    rw [if_pos rfl, if_pos (by rw [FM.mem_len]; omega)]
    unfold FM.cell
    rw [if_pos h, hm]; rfl
  · rw [if_neg hjc, FM.mem_get _ _ hj]
    unfold FM.cell mix
    have h1 : (j < cur + 1) = (j < cur) := propext (by omega)
    simp only [h1]
/-- Behind so many forked ports. -/
def FkC (w : World) (Y : Nat → Prop) (m : FM) (cur : Nat) (pp p2 : Nat → Nat) (F2 : Nat → Prop) (FF2 : Nat → Nat → Prop) (wr : World) : Prop :=
  FbG F2 Y wr w.heap.size (m.mem (mix cur p2 pp)) (m.bf cur) p2 FF2 ∧ (∀ j, F2 j → w.heap.size ≤ j) ∧ Below w.heap.size w wr
def FkI (w : World) (Y : Nat → Prop) (m : FM) (cur : Nat) (pp : Nat → Nat) (wr : World) : Prop := ∃ p2 F2 FF2, FkC w Y m cur pp p2 F2 FF2 wr
section
variable {F X F1 F2 X1 G Y : Nat → Prop} {w w' wr w1 w6 : World} {b cur p : Nat} {m m1 : FM} {pp p2 : Nat → Nat} {FF FF2 : Nat → Nat → Prop} {k : Nat} {a c : AM}
theorem FkI.some (h : FkC w Y m cur pp p2 F2 FF2 wr) (hk : cur < 64) (hm : m.pt cur = some a) (hb : Below wr.heap.size wr w6) (hp : Pb F1 (fun j => F2 j ∨ Y j) w6 p a) (hF : ∀ j, F1 j → wr.heap.size ≤ j) :
    FkI w Y m (cur + 1) pp (w6.setCell ⟨w.heap.size, cur, none⟩ (.pointer (some ⟨p, 0, none⟩))) := by
  obtain ⟨h1, h2, h3⟩ := h
  have hn : (m.bf cur).pt cur = none := by show (if _ then _ else _) = _; rw [if_neg (Nat.lt_irrefl _)]
  obtain ⟨F', FF', h4, h5⟩ := h1.newp hk hn hb hp hF
  rw [m.bf_some hm, m.mem_mix_some p2 pp hk hm] at h4
  exact ⟨_, F', FF', h4, fun j hj => (h5 j hj).elim (h2 j) fun h => Nat.le_trans h3.size (hF j h), (h3.trans (hb.mono h3.size)).setCell (Nat.le_refl _) _⟩
theorem FkI.nil (h : FkC w Y m cur pp p2 F2 FF2 wr) (hk : cur < 64) (hm : m.pt cur = none) (hb : Below wr.heap.size wr w6) :
    FkI w Y m (cur + 1) pp (w6.setCell ⟨w.heap.size, cur, none⟩ (.pointer none)) := by
  obtain ⟨h1, h2, h3⟩ := h
  have hs : St (· = w.heap.size) w6 (w6.setCell ⟨w.heap.size, cur, none⟩ (.pointer none)) := St.setCell (F := (· = w.heap.size)) w6 (a := ⟨w.heap.size, cur, none⟩) rfl _
  refine ⟨p2, F2, FF2, ⟨?_, ?_, ?_, ?_, ?_, ?_, fun j hj => Nat.lt_of_lt_of_le (h1.xb j hj) (Nat.le_trans hb.size hs.size)⟩, h2, (h3.trans (hb.mono h3.size)).setCell (Nat.le_refl _) _⟩
  · rw [← m.mem_mix_none p2 pp hk hm]; exact (h1.bk.below hb).set _ _
  all_goals rw [m.bf_none hm]
  · exact h1.lt
  · intro k a hka
    refine ((h1.pt k a hka).below hb).st2 hs (fun j hj e => h1.nb k a hka (e ▸ hj)) (fun j hj => .inl (.inl (by rw [hj]; exact h1.atB))) (fun j hj => .inl hj) fun j hj => ?_
    exact Nat.lt_of_lt_of_le (hj.elim (h1.bd j) (h1.xb j)) (Nat.le_trans hb.size hs.size)
  · exact h1.sep
  · exact h1.nb
  · exact h1.f
theorem rowF : Row Try.prog 70 69 := ⟨⟨_, rfl, rfl⟩, by kernel_rfl⟩
theorem row64 : Row Try.prog 68 64 := ⟨⟨_, rfl, rfl⟩, by kernel_rfl⟩
theorem row8 : Row Try.prog 67 8 := ⟨⟨_, rfl, rfl⟩, by kernel_rfl⟩
theorem arr8 : ArrE Try.prog 67 66 8 := ⟨rfl, ⟨_, rfl, rfl⟩, by kernel_rfl⟩
/-- The pointers of k ports from o on. -/
def FM.ptrs (m : FM) (pp : Nat → Nat) (o k : Nat) : List Value := (List.range k).map fun j => m.cell pp (o + j)
theorem FM.ptrs_len (m : FM) (pp : Nat → Nat) (o k : Nat) : (m.ptrs pp o k).length = k := by simp [FM.ptrs]
theorem FM.ptrs_one (m : FM) (pp : Nat → Nat) (o k : Nat) : ∀ v ∈ m.ptrs pp o k, v.oneCell' = true := by
  intro v hv
  obtain ⟨j, _, rfl⟩ := List.mem_map.1 hv
  exact m.cell_one pp _
theorem FM.ptrs_get (m : FM) (pp : Nat → Nat) (o : Nat) {k j : Nat} (h : j < k) : (m.ptrs pp o k)[j]? = some (m.cell pp (o + j)) := by simp [FM.ptrs, h]
theorem FM.ptrs_mem (m : FM) (pp : Nat → Nat) : ((m.mem pp).drop 0).take (m.ptrs pp 0 64).length = m.ptrs pp 0 64 := by
  rw [FM.ptrs_len, List.drop_zero]
  apply List.ext_getElem?
  intro i
  by_cases hi : i < 64
  · rw [List.getElem?_take, if_pos hi, FM.mem_get _ _ (by omega), FM.ptrs_get _ _ _ hi, Nat.zero_add]
  · rw [List.getElem?_eq_none (by simp; omega), List.getElem?_eq_none (by rw [FM.ptrs_len]; omega)]
theorem run_index8 (m : FM) (pp : Nat → Nat) (i : Nat) (hi : i < 8) (W : World) : (Instr.index 68 (.agg (m.ptrs pp 0 64).toArray) (.int .i64 i)).run Try.prog W = .ok (.agg (m.ptrs pp (i * 8) 8).toArray) W := by
  have h1 : Try.prog.underlying 68 = some (.array 8 67) := rfl
  obtain ⟨d, h2, h3⟩ := row8.ht
  have hagg : (isAgg 67).run Try.prog W = .ok true W := by
    unfold isAgg
    rw [Sem.run_bind, run_underlying h2 W]
    cases d <;> simp_all
  cases hq : Try.prog.info? 67 with
  | none => have := row8.hi; simp [hq] at this
  | some inf =>
    have hs : inf.size = 8 := by have := row8.hi; simpa [hq] using this
    have hk' : (0 : Int) ≤ i ∧ (i : Int) < 8 := by omega
    have hx : ((m.ptrs pp 0 64).drop (i * 8)).take 8 = m.ptrs pp (i * 8) 8 := by
      apply List.ext_getElem?
      intro j
      by_cases hj : j < 8
      · rw [List.getElem?_take, if_pos hj, List.getElem?_drop, FM.ptrs_get _ _ _ (by omega), FM.ptrs_get _ _ _ hj, Nat.zero_add]
      · rw [List.getElem?_eq_none (by simp [FM.ptrs_len]; omega), List.getElem?_eq_none (by simp [FM.ptrs_len]; omega)]
    simp [Instr.index, asIntOf, run_underlying h1, hk', sizeOf, typeInfo, hq, hs, part, hagg]
    rw [if_pos hi, hx]
set_option maxHeartbeats 8000000 in
theorem f_fork (h : FbC F X w b m pp FF) (h0 : (m.pt 0).isSome = true) (hY : ∀ k, Y k → k < w.heap.size) :
    Calls Try.prog 15 #[.pointer (some ⟨b, 0, none⟩)] w fun e w' => ∃ b2 p2 F2 FF2, e = .returned (.pointer (some ⟨b2, 0, none⟩)) ∧ FbC F2 Y w' b2 m p2 FF2 ∧ (∀ k, F2 k → w.heap.size ≤ k) ∧ Below w.heap.size w w' := by
  have HMd : Hid (Calls Try.prog 30 #[.pointer (some ⟨b, 0, none⟩)] w fun e w' => e = .returned (.bool true) ∧ w = w') := Lib.hid (by
    have := f_made h.fp
    rw [h0] at this; exact this)
  have hbk := h.bk
  have hz0 : Bk (w.alloc (.cells Try.zeroCells70 70)) 70 w.heap.size (FM.nobody.mem fun _ => 0) := by
    have e : Try.zeroCells70 = (FM.nobody.mem fun _ => 0).toArray := by kernel_rfl
    rw [e]; exact Bk.new w _ _
  have HH := Lib.hid h
  have HY := Lib.hid hY
  clear h h0 hY
  have HIx := Lib.hid (run_index8 m pp)
  go_enter Try.func15, Try.ntmps15
  go_wp2_with (first
    | (go_at_call 30; refine HMd.out.mono ?_; rintro e w' ⟨rfl, rfl⟩)
    | (with_reducible refine at_load 70 (.tmp 12) (by rfl) ?_; refine wpList_load_bk rowF rfl (.tmp 12) rfl b 0 rfl hbk (m.mem pp) (m.mem_len pp) (by rw [List.drop_zero, List.take_length]) ?_)
    | (with_reducible refine at_store 70 (.tmp 3) (.tmp 13) (by rfl) ?_; refine wpList_store_bk rowF rfl (.tmp 3) (.tmp 13) rfl w.heap.size 0 rfl hz0 (m.mem pp) rfl (m.mem_len pp) (by rw [FM.mem_len]; decide) (m.mem_one pp) ?_; rintro w2 hz2 hw2
       have hb2 : Below w.heap.size w w2 := Wr.on ((Below.refl _ _).alloc (Nat.le_refl _) _) hw2 (Nat.le_refl _)
       have hbk2 := hbk.below hb2)
    | (with_reducible refine at_load 68 (.tmp 16) (by rfl) ?_; refine wpList_load_bk row64 rfl (.tmp 16) rfl b 0 rfl hbk2 (m.ptrs pp 0 64) (m.ptrs_len pp 0 64) (m.ptrs_mem pp) ?_))
  have HI0 : Hid (FkI w Y m 0 pp w2) := Lib.hid (by
    have e : m.mem (mix 0 (fun _ => 0) pp) = m.mem pp := by
      congr 1
    refine ⟨fun _ => 0, (· = w.heap.size), fun _ _ => False, ⟨?_, ?_, ?_, ?_, ?_, ?_, fun j hj => Nat.lt_of_lt_of_le (HY.out j hj) hb2.size⟩, fun j hj => by rw [hj]; exact Nat.le_refl _, hb2⟩
    · rw [e]
      rw [lay_all _ _ (by rw [FM.mem_len, FM.mem_len])] at hz2
      exact hz2
    · intro k a hk; cases hk
    · intro k a hk; cases hk
    · intro i k a c hk; cases hk
    · intro k a hk; cases hk
    · intro j
      exact ⟨.inl, fun h => h.elim id fun ⟨_, _, h, _⟩ => by cases h⟩)
  have HHb := Lib.hid (HH.out.below hb2)
  have HSb := Lib.hid hb2
  clear hbk hbk2 hz2 hw2 hb2 HMd hz0
  go_loopw [18] (fun v wr => ∃ i : Nat, v = .int .i64 i ∧ i ≤ 8 ∧ FkI w Y m (i * 8) pp wr) (fun v _ => 8 - (intOf v).toNat)
  case atStart => exact ⟨0, rfl, by decide, HI0.out⟩
  case round =>
    obtain ⟨i, rfl, hi, hI⟩ := hrel
    by_cases hlt : i < 8
    · have hlt' : (i : Int) < 8 := by omega
      have hix := HIx.out i hlt
      have hz8 := Bk.new wr 67 [.pointer none, .pointer none, .pointer none, .pointer none, .pointer none, .pointer none, .pointer none, .pointer none]
      have HI := Lib.hid hI
      clear hI HI0
      go_wp2_with (first
        | (with_reducible refine at_store 67 (.tmp 5) (.tmp 21) (by rfl) ?_; refine wpList_store_bk row8 rfl (.tmp 5) (.tmp 21) rfl wr.heap.size 0 rfl hz8 (m.ptrs pp (i * 8) 8) rfl (m.ptrs_len pp _ _) (by decide) (m.ptrs_one pp _ _) ?_; rintro w4 hz4 hw4
           rw [lay_all _ _ (by rw [FM.ptrs_len]; rfl)] at hz4)
        | (with_reducible refine at_load 67 (.tmp 5) (by rfl) ?_; refine wpList_load_bk row8 rfl (.tmp 5) rfl wr.heap.size 0 rfl hz4 (m.ptrs pp (i * 8) 8) (m.ptrs_len pp _ _) (by rw [List.drop_zero, List.take_length]) ?_))
      have HI4 : Hid (FkI w Y m (i * 8) pp w4) := Lib.hid (by
        obtain ⟨p2, F2, FF2, h1, h2, h3⟩ := HI.out
        have hb4 := Wr.on ((Below.refl wr.heap.size wr).alloc (Nat.le_refl _) (.cells (List.toArray [.pointer none, .pointer none, .pointer none, .pointer none, .pointer none, .pointer none, .pointer none, .pointer none]) 67)) hw4 (Nat.le_refl _)
        refine ⟨p2, F2, FF2, ⟨h1.bk.below hb4, h1.lt, fun k a hk => (h1.pt k a hk).below hb4, h1.sep, h1.nb, h1.f, fun j hj => Nat.lt_of_lt_of_le (h1.xb j hj) hb4.size⟩, h2, below_on h3 hb4⟩)
      clear hz8 hz4 hw4 hix HI
      go_loopw [23] (fun v wr => ∃ j : Nat, v = .int .i64 j ∧ j ≤ 8 ∧ FkI w Y m (i * 8 + j) pp wr) (fun v _ => 8 - (intOf v).toNat)
      case atStart => exact ⟨0, rfl, by decide, HI4.out⟩
      case round =>
        clear HI4
        obtain ⟨j, rfl, hj, p2, F2, FF2, hI⟩ := hrel
        by_cases hjl : j < 8
        · have hjl' : (j : Int) < 8 := by omega
          have hi8' : (i : Int) < 8 := by omega
          have hk64 : i * 8 + j < 64 := by omega
          have HI := Lib.hid hI
          have hix2 : ∀ W : World, (Instr.index 67 (.agg (m.ptrs pp (i * 8) 8).toArray) (.int .i64 j)).run Try.prog W = .ok (m.cell pp (i * 8 + j)) W := fun W => arr8.index _ j hjl _ (by rw [List.getElem?_toArray]; exact m.ptrs_get pp _ hjl)
          have hcell : m.cell pp (i * 8 + j) = .pointer ((m.pt (i * 8 + j)).map fun _ => ⟨pp (i * 8 + j), 0, none⟩) := by unfold FM.cell; rw [if_pos hk64]
          have HGet : Hid ((m.mem (mix (i * 8 + j) p2 pp))[i * 8 + j]? = some (.pointer ((m.pt (i * 8 + j)).map fun _ => ⟨pp (i * 8 + j), 0, none⟩))) := Lib.hid (by
            rw [FM.mem_pt _ _ hk64]
            unfold mix
            rw [if_neg (Nat.lt_irrefl _)])
          clear hI
          cases hm : m.pt (i * 8 + j) with
          | none =>
            rw [hcell, hm] at hix2
            rw [hm] at HGet
            clear hcell
            go_wp2
            refine wp_region_E (Below w.heap.size) (by kernel_rfl) (fun wd hbd hsz => ?_)
            have hbw := hbd
            clear hsz hbd
            (refine takeE (belowTr w.heap.size) 0 (by simp only [List.getElem?_toArray, List.getElem?_cons_succ, List.getElem?_cons_zero]; rfl) (by kernel_rfl) (by kernel_rfl) (by kernel_rfl) (by exact fun _ _ _ h => h) (by first | (refine Or.inl ⟨by rfl, ?_⟩; intro W hW; go_simp; try with_reducible rfl) | exact Or.inr ⟨by rfl, rfl⟩) ?_; try simp only [Act.put, List.setIfInBounds_toArray, List.set_cons_zero, List.set_cons_succ])
            (refine takeE (belowTr w.heap.size) 1 (by simp only [List.getElem?_toArray, List.getElem?_cons_succ, List.getElem?_cons_zero]; rfl) (by kernel_rfl) (by kernel_rfl) (by kernel_rfl) (by exact fun _ _ _ h => h) (by first | (refine Or.inl ⟨by rfl, ?_⟩; intro W hW; go_simp; try with_reducible rfl) | exact Or.inr ⟨by rfl, rfl⟩) ?_; try simp only [Act.put, List.setIfInBounds_toArray, List.set_cons_zero, List.set_cons_succ])
            (refine takeE (belowTr w.heap.size) 2 (by simp only [List.getElem?_toArray, List.getElem?_cons_succ, List.getElem?_cons_zero]; rfl) (by kernel_rfl) (by kernel_rfl) (by kernel_rfl) (by exact fun _ _ _ h => h) (by first | (refine Or.inl ⟨by rfl, ?_⟩; intro W hW; go_simp; try with_reducible rfl) | exact Or.inr ⟨by rfl, rfl⟩) ?_; try simp only [Act.put, List.setIfInBounds_toArray, List.set_cons_zero, List.set_cons_succ])
            (refine takeE (belowTr w.heap.size) 4 (by simp only [List.getElem?_toArray, List.getElem?_cons_succ, List.getElem?_cons_zero]; rfl) (by kernel_rfl) (by kernel_rfl) (by kernel_rfl) (by exact fun _ _ _ h => h) (by first | (refine Or.inl ⟨by rfl, ?_⟩; intro W hW; go_simp; try with_reducible rfl) | exact Or.inr ⟨by rfl, rfl⟩) ?_; try simp only [Act.put, List.setIfInBounds_toArray, List.set_cons_zero, List.set_cons_succ])
            (refine takeE (belowTr w.heap.size) 5 (by simp only [List.getElem?_toArray, List.getElem?_cons_succ, List.getElem?_cons_zero]; rfl) (by kernel_rfl) (by kernel_rfl) (by kernel_rfl) (by exact fun _ _ _ h => h) (by first | (refine Or.inl ⟨by rfl, ?_⟩; intro W hW; go_simp; try with_reducible rfl) | exact Or.inr ⟨by rfl, rfl⟩) ?_; try simp only [Act.put, List.setIfInBounds_toArray, List.set_cons_zero, List.set_cons_succ])
            refine wpAnyE_one (i := 3) (by kernel_rfl) (by simp only [List.getElem?_toArray, List.getElem?_cons_succ, List.getElem?_cons_zero]; rfl) (fun K hK => ?_)
            go_simp
            refine (n_fork (w := wd) (.inl rfl)).mono ?_
            rintro e w6 ⟨rfl, rfl⟩
            have hbb : Below w.heap.size wd wd := Below.refl _ _
            refine hK.out _ _ hbb ?_
            clear hK K
            try simp only [Act.put, List.setIfInBounds_toArray, List.set_cons_zero, List.set_cons_succ]
            (refine takeE (belowTr w.heap.size) 6 (by simp only [List.getElem?_toArray, List.getElem?_cons_succ, List.getElem?_cons_zero]; rfl) (by kernel_rfl) (by kernel_rfl) (by kernel_rfl) (by exact fun _ _ _ h => h) (by first | (refine Or.inl ⟨by rfl, ?_⟩; intro W hW; go_simp; try with_reducible rfl) | exact Or.inr ⟨by rfl, rfl⟩) ?_; try simp only [Act.put, List.setIfInBounds_toArray, List.set_cons_zero, List.set_cons_succ])
            refine wpAnyE_one (i := 7) (by kernel_rfl) (by simp only [List.getElem?_toArray, List.getElem?_cons_succ, List.getElem?_cons_zero]; rfl) (fun K hK => ?_)
            have hbk6 := (HI.out.1.bk.below hbw)
            have c6 := hbk6.cell _ (HGet.out)
            have f6 := hbk6.free (i * 8 + j)
            have hbs : Below w.heap.size wd (wd.setCell ⟨w.heap.size, i * 8 + j, none⟩ (.pointer none)) := (Below.refl _ _).setCell (p := ⟨w.heap.size, i * 8 + j, none⟩) (Nat.le_refl _) _
            have HN : Hid (FkI w Y m (i * 8 + j + 1) pp (wd.setCell ⟨w.heap.size, i * 8 + j, none⟩ (.pointer none))) := Lib.hid (FkI.nil HI.out hk64 hm hbw)
            clear hbk6
            go_simp
            refine hK.out _ _ hbs ?_
            clear hK K
            try simp only [Act.put, List.setIfInBounds_toArray, List.set_cons_zero, List.set_cons_succ]
            refine wpAnyE_done (by kernel_rfl) ?_ _
            go_wp2
            go_roundw
            case rel => exact ⟨j + 1, by go_num, by omega, HN.out⟩
            case measure => simp [intOf]; omega
          | some a =>
            have HPt0 := HH.out.pt _ _ hm
            obtain ⟨pl, ph, Fl, Fh, ql, qh, hpt⟩ := HPt0
            have HPt := Lib.hid (hpt.below HI.out.2.2)
            rw [hcell, hm] at hix2
            rw [hm] at HGet
            clear hcell hpt
            go_wp2
            refine wp_region_E (Below w.heap.size) (by kernel_rfl) (fun wd hbd hsz => ?_)
            have hbw := hbd
            have HS0 := Lib.hid (Nat.le_trans HI.out.2.2.size hbd.size)
            have HFk := Lib.hid (pt_fork (HPt.out.below hbd) (Y := fun j => F2 j ∨ Y j) (fun j hj => Nat.lt_of_lt_of_le (hj.elim (HI.out.1.bd j) (HI.out.1.xb j)) hbd.size))
            clear hsz hbd
            (refine takeE (belowTr w.heap.size) 0 (by simp only [List.getElem?_toArray, List.getElem?_cons_succ, List.getElem?_cons_zero]; rfl) (by kernel_rfl) (by kernel_rfl) (by kernel_rfl) (by exact fun _ _ _ h => h) (by first | (refine Or.inl ⟨by rfl, ?_⟩; intro W hW; go_simp; try with_reducible rfl) | exact Or.inr ⟨by rfl, rfl⟩) ?_; try simp only [Act.put, List.setIfInBounds_toArray, List.set_cons_zero, List.set_cons_succ])
            (refine takeE (belowTr w.heap.size) 1 (by simp only [List.getElem?_toArray, List.getElem?_cons_succ, List.getElem?_cons_zero]; rfl) (by kernel_rfl) (by kernel_rfl) (by kernel_rfl) (by exact fun _ _ _ h => h) (by first | (refine Or.inl ⟨by rfl, ?_⟩; intro W hW; go_simp; try with_reducible rfl) | exact Or.inr ⟨by rfl, rfl⟩) ?_; try simp only [Act.put, List.setIfInBounds_toArray, List.set_cons_zero, List.set_cons_succ])
            (refine takeE (belowTr w.heap.size) 2 (by simp only [List.getElem?_toArray, List.getElem?_cons_succ, List.getElem?_cons_zero]; rfl) (by kernel_rfl) (by kernel_rfl) (by kernel_rfl) (by exact fun _ _ _ h => h) (by first | (refine Or.inl ⟨by rfl, ?_⟩; intro W hW; go_simp; try with_reducible rfl) | exact Or.inr ⟨by rfl, rfl⟩) ?_; try simp only [Act.put, List.setIfInBounds_toArray, List.set_cons_zero, List.set_cons_succ])
            (refine takeE (belowTr w.heap.size) 4 (by simp only [List.getElem?_toArray, List.getElem?_cons_succ, List.getElem?_cons_zero]; rfl) (by kernel_rfl) (by kernel_rfl) (by kernel_rfl) (by exact fun _ _ _ h => h) (by first | (refine Or.inl ⟨by rfl, ?_⟩; intro W hW; go_simp; try with_reducible rfl) | exact Or.inr ⟨by rfl, rfl⟩) ?_; try simp only [Act.put, List.setIfInBounds_toArray, List.set_cons_zero, List.set_cons_succ])
            (refine takeE (belowTr w.heap.size) 5 (by simp only [List.getElem?_toArray, List.getElem?_cons_succ, List.getElem?_cons_zero]; rfl) (by kernel_rfl) (by kernel_rfl) (by kernel_rfl) (by exact fun _ _ _ h => h) (by first | (refine Or.inl ⟨by rfl, ?_⟩; intro W hW; go_simp; try with_reducible rfl) | exact Or.inr ⟨by rfl, rfl⟩) ?_; try simp only [Act.put, List.setIfInBounds_toArray, List.set_cons_zero, List.set_cons_succ])
            refine wpAnyE_one (i := 3) (by kernel_rfl) (by simp only [List.getElem?_toArray, List.getElem?_cons_succ, List.getElem?_cons_zero]; rfl) (fun K hK => ?_)
            go_simp
            refine HFk.out.mono ?_
            rintro e w6 ⟨p2, F6, pl6, ph6, Fl6, Fh6, ql6, qh6, rfl, hp6, hF6, hb6⟩
            have hbb : Below w.heap.size wd w6 := hb6.mono HS0.out
            refine hK.out _ _ hbb ?_
            clear hK K
            try simp only [Act.put, List.setIfInBounds_toArray, List.set_cons_zero, List.set_cons_succ]
            (refine takeE (belowTr w.heap.size) 6 (by simp only [List.getElem?_toArray, List.getElem?_cons_succ, List.getElem?_cons_zero]; rfl) (by kernel_rfl) (by kernel_rfl) (by kernel_rfl) (by exact fun _ _ _ h => h) (by first | (refine Or.inl ⟨by rfl, ?_⟩; intro W hW; go_simp; try with_reducible rfl) | exact Or.inr ⟨by rfl, rfl⟩) ?_; try simp only [Act.put, List.setIfInBounds_toArray, List.set_cons_zero, List.set_cons_succ])
            refine wpAnyE_one (i := 7) (by kernel_rfl) (by simp only [List.getElem?_toArray, List.getElem?_cons_succ, List.getElem?_cons_zero]; rfl) (fun K hK => ?_)
            have hbk6 := (HI.out.1.bk.below hbw).below hb6
            have c6 := hbk6.cell _ (HGet.out)
            have f6 := hbk6.free (i * 8 + j)
            have hbs : Below w.heap.size w6 (w6.setCell ⟨w.heap.size, i * 8 + j, none⟩ (.pointer (some ⟨p2, 0, none⟩))) := (Below.refl _ _).setCell (p := ⟨w.heap.size, i * 8 + j, none⟩) (Nat.le_refl _) _
            have HN : Hid (FkI w Y m (i * 8 + j + 1) pp (w6.setCell ⟨w.heap.size, i * 8 + j, none⟩ (.pointer (some ⟨p2, 0, none⟩)))) := Lib.hid (FkI.some HI.out hk64 hm (below_on hbw hb6) ⟨_, _, _, _, _, _, hp6⟩ (fun k hk => Nat.le_trans hbw.size (hF6 k hk)))
            clear hbk6 hp6 hF6 hb6
            go_simp
            refine hK.out _ _ hbs ?_
            clear hK K
            try simp only [Act.put, List.setIfInBounds_toArray, List.set_cons_zero, List.set_cons_succ]
            refine wpAnyE_done (by kernel_rfl) ?_ _
            go_wp2
            go_roundw
            case rel => exact ⟨j + 1, by go_num, by omega, HN.out⟩
            case measure => simp [intOf]; omega
        · obtain rfl : j = 8 := by omega
          have HI2 : Hid (FkI w Y m ((i + 1) * 8) pp wr) := Lib.hid (by rw [show (i + 1) * 8 = i * 8 + 8 by omega]; exact ⟨p2, F2, FF2, hI⟩)
          clear hI
          go_wp2
          go_roundw
          case rel => exact ⟨i + 1, by go_num, by omega, HI2.out⟩
          case measure => simp [intOf]; omega
    · obtain rfl : i = 8 := by omega
      have HI := Lib.hid hI
      clear hI HI0
      go_wp2
      go_ret
      obtain ⟨p2, F2, FF2, h1, h2, h3⟩ := HI.out
      refine ⟨w.heap.size, p2, F2, FF2, rfl, ?_, h2, h3⟩
      have e : m.bf 64 = m := m.bf_all HH.out.lt
      have e2 : m.mem (mix 64 p2 pp) = m.mem p2 := by
        refine FM.mem_ext (FM.mem_len _ _) fun j hj => ?_
        rw [FM.mem_get _ _ hj]
        unfold FM.cell mix
        by_cases hl : j < 64
        · rw [if_pos hl, if_pos hl]
          simp only [hl, if_true]
        · rw [if_neg hl, if_neg hl]
      rw [show 8 * 8 = 64 from rfl, e, e2] at h1
      exact ⟨h1.bk, h1.lt, h1.pt, h1.sep, h1.nb, h1.f, h1.xb⟩
end
end Go.Proofs.Ytboclbanccfbjaa
namespace Go.Proofs.Ytboclbanccfbjaa
set_option linter.unusedSimpArgs false
set_option linter.unusedVariables false
set_option maxRecDepth 100000
open Go.RowKit Go.Shelf
theorem take_all_eq {xs ys : List Int} {k : Nat} (hx : xs.length = k) (hy : ys.length = k) (h : xs.take k = ys.take k) : xs = ys := by
  rw [List.take_of_length_le (by omega), List.take_of_length_le (by omega)] at h
  exact h
theorem take_succ_eq {xs ys : List Int} {k : Nat} (hx : k < xs.length) (hy : k < ys.length) (h : xs.take k = ys.take k) (he : xs.getD k 0 = ys.getD k 0) : xs.take (k + 1) = ys.take (k + 1) := by
  rw [List.take_succ_eq_append_getElem hx, List.take_succ_eq_append_getElem hy, h]
  rw [List.getD_eq_getElem?_getD, List.getD_eq_getElem?_getD, List.getElem?_eq_getElem hx, List.getElem?_eq_getElem hy] at he
  simp at he
  rw [he]
set_option maxHeartbeats 400000 in
theorem same_any (A B : Option Addr) (n c m d : Nat) (xs ys : List Int) (w : World) (h1 : RdV w A n c (intV xs)) (h2 : RdV w B m d (intV ys)) :
    Calls Try.prog 24 #[.slice A n c, .slice B m d] w fun e w' => e = .returned (.bool (decide (xs = ys))) ∧ Below w.heap.size w w' := by
  have hn := h1.1
  have hm := h2.1
  rw [intV_len] at hn hm
  have hc := h1.2.1
  have hmx := h1.2.2.1
  have hc2 := h2.2.1
  have hmx2 := h2.2.2.1
  unfold maxLen at hmx hmx2
  by_cases hnm : n = m
  · subst hnm
    have H1 := Lib.hid h1
    have H2 := Lib.hid h2
    have HN := Lib.hid hn
    have HM := Lib.hid hm
    clear h1 h2 hn hm
    go_enter Try.func24, Try.ntmps24
    go_wp2
    go_loopw [5] (fun i wr => ∃ k q : Nat, k ≤ n ∧ i = .int .i64 k ∧ wr = w.drewN q ∧ xs.take k = ys.take k) (fun i _ => n - (intOf i).toNat)
    case atStart => exact ⟨0, 0, Nat.zero_le _, rfl, rfl, by simp⟩
    case round =>
      obtain ⟨k, q, hk, rfl, rfl, htk⟩ := hrel
      by_cases hlt : k < n
      · have hx : k < xs.length := by rw [HN.out]; exact hlt
        have hy : k < ys.length := by rw [HM.out]; exact hlt
        obtain ⟨g1, o1, rfl, hg1, d1⟩ := H1.out.cell hlt
        obtain ⟨g2, o2, rfl, hg2, d2⟩ := H2.out.cell hlt
        unfold intV at d1 d2
        rw [List.getElem?_map, List.getElem?_eq_getElem hx, Option.map_some] at d1
        rw [List.getElem?_map, List.getElem?_eq_getElem hy, Option.map_some] at d2
        have e1 : xs.getD k 0 = xs[k] := by rw [List.getD_eq_getElem?_getD, List.getElem?_eq_getElem hx]; rfl
        have e2 : ys.getD k 0 = ys[k] := by rw [List.getD_eq_getElem?_getD, List.getElem?_eq_getElem hy]; rfl
        by_cases hxy : xs[k] = ys[k]
        · have HT := Lib.hid (take_succ_eq hx hy htk (by rw [e1, e2, hxy]))
          rw [hxy] at d1
          generalize ys[k] = x at d1 d2
          clear e1 e2 hxy htk
          go_wp2
          go_quiet (fail)
          go_wp2
          go_roundw
          case rel => exact ⟨k + 1, _, by omega, by go_num, rfl, HT.out⟩
          case measure => simp [intOf]; omega
        · have HF : Hid (decide (xs = ys) = false) := Lib.hid (by
            rw [decide_eq_false_iff_not]
            rintro rfl
            exact hxy rfl)
          generalize hgx : xs[k] = x at *
          generalize hgy : ys[k] = y at *
          clear e1 e2 htk hgx hgy
          go_wp2
          go_quiet (fail)
          go_wp2
          go_ret
          exact ⟨by rw [HF.out]; rfl, (Below.drewN_ w _).trans (Below.drewN_ (w.drewN q) _)⟩
      · obtain rfl : k = n := by omega
        have HE : Hid (decide (xs = ys) = true) := Lib.hid (by rw [decide_eq_true_eq]; exact take_all_eq HN.out HM.out htk)
        clear htk
        go_wp2
        go_ret
        exact ⟨by rw [HE.out]; rfl, Below.drewN_ w q⟩
  · have HF : Hid (decide (xs = ys) = false) := Lib.hid (by
      rw [decide_eq_false_iff_not]
      rintro rfl
      omega)
    have hne : (n : Int) ≠ m := by omega
    clear h1 h2 hn hm
    go_enter Try.func24, Try.ntmps24
    go_wp2
    go_ret
    exact ⟨by rw [HF.out]; rfl, Below.refl _ _⟩
theorem plcs_one (l : List (Nat × Nat)) : intV (plcs (l.take 1)) = (intV (plcs l)).take (min 2 (plcs l).length) := by
  cases l with
  | nil => rfl
  | cons p t =>
    have h : (plcs (p :: t)).length = 2 + (plcs t).length := by rw [plcs_len, plcs_len, List.length_cons]; omega
    rw [h, Nat.min_eq_left (by omega)]
    rfl
theorem MadeA.slN {w w' : World} {ps : List Pk} {en : Ending} (h : MadeA (fun _ => False) w ps en w') : SlN w ps en w' := by
  obtain ⟨A, n, c, rs, h1, h2, h3, h4, h5, h6⟩ := h
  exact ⟨A, n, c, h1, ⟨rs, h2, h4.rd, h3, h5, fun _ _ _ h => h.elim⟩, h6⟩
theorem AMb.rows {m : FM} {L H : Nat} {B : Int} (h : FMb m L H B) (p q : Int) : (m.lows p q).length ≤ L ∧ (m.highs p q).length ≤ H := by
  unfold FM.lows FM.highs
  cases hp : m.port p q with
  | none => exact ⟨Nat.zero_le _, Nat.zero_le _⟩
  | some a => exact ⟨(h _ _ (FM.port_pt hp)).lo, (h _ _ (FM.port_pt hp)).hi⟩
def Fg (F : Nat → Prop) (gb : Nat) : Nat → Prop := fun k => F k ∨ k = gb
section
variable {F F' : Nat → Prop} {w0 W W' W1 W2 W3 : World} {b gb hs ps : Nat} {mf mr mf' mr' : FM} {g g' : GV} {pp pp' : Nat → Nat} {FF FF' : Nat → Nat → Prop}
structure JF (w0 : World) (b gb hs ps : Nat) (mf mr : FM) (g : GV) (F : Nat → Prop) (pp : Nat → Nat) (FF : Nat → Nat → Prop) (W : World) : Prop where
  fb : FbC F (· = gb) W b mf pp FF
  ge : ∀ j, F j → w0.heap.size ≤ j
  bl : Below w0.heap.size w0 W
  gp : GpR (Fg F gb) W hs ps g mr
  bx : Bk W 30 gb [.int .i64 hs, .int .i64 ps, .slice g.A g.n g.c, .int .i64 (mr.ct 0), .int .i64 (mr.ct 1), .int .i64 (mr.ct 2), .int .i64 (mr.ct 3), .int .i64 (mr.ct 4)]
  ng : ¬ F gb
  gw : w0.heap.size ≤ gb
theorem JF.lt (h : JF w0 b gb hs ps mf mr g F pp FF W) : ∀ k, Fg F gb k → w0.heap.size ≤ k ∧ k < W.heap.size := fun k hk => by
  rcases hk with hk | rfl
  · exact ⟨h.ge k hk, h.fb.bd k hk⟩
  · exact ⟨h.gw, h.bx.lt⟩
theorem JF.run (h : JF w0 b gb hs ps mf mr g F pp FF W) : ∀ k a, mf.pt k = some a → a.run ≤ 1024 := fun k a hk => by
  obtain ⟨pl, ph, Fl, Fh, ql, qh, hp⟩ := h.fb.pt k a hk
  exact Nat.le_trans hp.ru hp.w2
theorem JF.below (h : JF w0 b gb hs ps mf mr g F pp FF W) (hb : Below W.heap.size W W') : JF w0 b gb hs ps mf mr g F pp FF W' :=
  ⟨h.fb.below hb, h.ge, below_on h.bl hb, h.gp.below hb, h.bx.below hb, h.ng, h.gw⟩
theorem Fg.gr {n : Nat} (hg : Gr F F' n) : Gr (Fg F gb) (Fg F' gb) n := fun k hk => by
  rcases hk with hk | hk
  · exact (hg k hk).imp .inl id
  · exact .inl (.inr hk)
theorem Fg.st (hs : St F W W') : St (Fg F gb) W W' := hs.mono fun k _ hk => .inl hk
/-- The fabric has gone on. -/
theorem JF.code (h : JF w0 b gb hs ps mf mr g F pp FF W) (hf : FbC F' (· = gb) W' b mf' pp' FF') (hs' : St F W W') (hg : Gr F F' W.heap.size) : JF w0 b gb hs ps mf' mr g F' pp' FF' W' := by
  have hgb := h.bx.lt
  refine ⟨hf, hg.ge h.ge h.bl.size, h.bl.trans (hs'.below h.bl.size h.ge), h.gp.st (Fg.st hs') (Fg.gr hg), h.bx.st hs' h.ng, fun hF => ?_, h.gw⟩
  rcases hg gb hF with h1 | h1
  · exact h.ng h1
  · omega
/-- The reference's box is filled. -/
theorem JF.box (h : JF w0 b gb hs ps mf mr g F pp FF W) (hb : Below W.heap.size W W1) (hg : GpR (Fg F gb) W1 hs ps g' mr') (hw : Wr gb W1 W2) (hk : Bk W2 30 gb [.int .i64 hs, .int .i64 ps, .slice g'.A g'.n g'.c, .int .i64 (mr'.ct 0), .int .i64 (mr'.ct 1), .int .i64 (mr'.ct 2), .int .i64 (mr'.ct 3), .int .i64 (mr'.ct 4)]) : JF w0 b gb hs ps mf mr' g' F pp FF W2 := by
  have h1 := h.below hb
  have hst : St (· = gb) W1 W2 := wr_st hw rfl
  refine ⟨h1.fb.st hst (fun k hf hk => h.ng (hk ▸ hf)) (fun k hk => .inl hk) (fun k hk => .inl hk) (fun k hk2 => by subst hk2; exact hk.lt), h.ge, h1.bl.trans (hw.below h.gw h1.bl.size), hg.st (wr_st hw (.inr rfl)) (Gr.refl _ _), hk, h.ng, h.gw⟩
/-- A fork goes on. -/
theorem JF.fork {b2 : Nat} {p2 : Nat → Nat} {F2 : Nat → Prop} {FF2 : Nat → Nat → Prop} (h : JF w0 b gb hs ps mf mr g F pp FF W) (hf : FbC F2 (· = gb) W' b2 mf p2 FF2) (hF : ∀ k, F2 k → W.heap.size ≤ k) (hb : Below W.heap.size W W') : JF w0 b2 gb hs ps mf mr g F2 p2 FF2 W' := by
  have hgb := h.bx.lt
  refine ⟨hf, fun k hk => Nat.le_trans h.bl.size (hF k hk), below_on h.bl hb, ?_, h.bx.below hb, fun hk => by have := hF gb hk; omega, h.gw⟩
  refine (h.gp.st (St.refl _ _) (F' := Fg F2 gb) (fun k hk => ?_)).below hb
  rcases hk with hk | hk
  · exact .inr (hF k hk)
  · exact .inl (.inr hk)
end
end Go.Proofs.Ytboclbanccfbjaa
namespace Go.Proofs.Ytboclbanccfbjaa
set_option linter.unusedSimpArgs false
set_option linter.unusedVariables false
set_option maxRecDepth 100000
open Go.RowKit Go.Shelf
def dimB (h p : Int) : Bool := decide (2 ≤ h ∧ h ≤ 8 ∧ 1 ≤ p ∧ p ≤ 8)
theorem dim_bad {h p : Int} (hd : dimB h p = false) : h < 2 ∨ (2 ≤ h ∧ 8 < h) ∨ (2 ≤ h ∧ h ≤ 8 ∧ p < 1) ∨ (2 ≤ h ∧ h ≤ 8 ∧ 1 ≤ p ∧ 8 < p) := by
  simp only [dimB, decide_eq_false_iff_not] at hd
  omega
theorem dim_ok {h p : Int} (hd : dimB h p = true) : 2 ≤ h ∧ h ≤ 8 ∧ 1 ≤ p ∧ p ≤ 8 := by
  simpa only [dimB, decide_eq_true_eq] using hd
set_option maxHeartbeats 4000000 in
theorem f_new_dim (hs ps low high wt : Int) (w : World) (h : dimB hs ps = false) :
    Calls Try.prog 6 #[.int .i64 hs, .int .i64 ps, .int .i64 low, .int .i64 high, .int .i64 wt] w fun e w' => e = .returned (.tuple #[.pointer none, .int .i64 90]) ∧ Below w.heap.size w w' := by
  rcases dim_bad h with h1 | ⟨h1, h2⟩ | ⟨h1, h2, h3⟩ | ⟨h1, h2, h3, h4⟩
  all_goals
    clear h
    go_enter Try.func6, Try.ntmps6
    go_wp2
    go_ret2
    exact ⟨rfl, Below.refl _ _⟩
set_option maxHeartbeats 4000000 in
theorem f_new_fit (hs ps low high wt : Int) (w : World) (h : dimB hs ps = true) (hf : fitB low = false ∨ fitB high = false ∨ fitB wt = false) :
    Calls Try.prog 6 #[.int .i64 hs, .int .i64 ps, .int .i64 low, .int .i64 high, .int .i64 wt] w fun e w' => e = .returned (.tuple #[.pointer none, .int .i64 80]) ∧ Below w.heap.size w w' := by
  obtain ⟨h1, h2, h3, h4⟩ := dim_ok h
  have HN := Lib.hid (fun (W : World) => pt_new_bad low high wt W hf)
  have hs0 : (0 : Int) < hs := by omega
  have ps0 : (0 : Int) < ps := by omega
  clear h hf
  go_enter Try.func6, Try.ntmps6
  go_wp2
  go_loopw [13, 34] (fun u v wr => v = .int .i64 0 ∧ Below w.heap.size w wr) (fun _ _ _ => 0)
  case atStart => exact ⟨rfl, (Below.refl _ _).alloc (Nat.le_refl _) _⟩
  case round =>
    obtain ⟨rfl, hb⟩ := hrel
    have HB := Lib.hid hb
    clear hb
    go_wp2
    go_loopw [14, 15, 16, 38] (fun u1 u2 u3 v w2 => v = .int .i64 0 ∧ Below w.heap.size w w2) (fun _ _ _ _ _ => 0)
    case atStart => exact ⟨rfl, HB.out⟩
    case round =>
      obtain ⟨rfl, hb⟩ := hrel
      have HB2 := Lib.hid hb
      clear hb
      go_wp2_with (go_at_call 26; refine (HN.out _).mono ?_; rintro en w3 ⟨rfl, rfl⟩)
      go_ret2
      exact ⟨rfl, HB2.out⟩
theorem fz8 : ∀ v ∈ ([.int .i64 0, .int .i64 0, .slice none 0 0, .int .i64 0, .int .i64 0, .int .i64 0, .int .i64 0, .int .i64 0] : List Value), v.oneCell' = true := one8 0 0 0 0 0 0 0 none 0 0
set_option maxHeartbeats 4000000 in
theorem g_new_dim (hs ps low high wt : Int) (w : World) (h : dimB hs ps = false) :
    Calls Try.prog 7 #[.int .i64 hs, .int .i64 ps, .int .i64 low, .int .i64 high, .int .i64 wt] w fun e w' => e = .returned (.tuple #[.agg ([.int .i64 0, .int .i64 0, .slice none 0 0, .int .i64 0, .int .i64 0, .int .i64 0, .int .i64 0, .int .i64 0] : List Value).toArray, .int .i64 90]) ∧ Below w.heap.size w w' := by
  have hz := Bk.new w 30 [.int .i64 0, .int .i64 0, .slice none 0 0, .int .i64 0, .int .i64 0, .int .i64 0, .int .i64 0, .int .i64 0]
  have hb : Below w.heap.size w (w.alloc (.cells ([.int .i64 0, .int .i64 0, .slice none 0 0, .int .i64 0, .int .i64 0, .int .i64 0, .int .i64 0, .int .i64 0] : List Value).toArray 30)) := (Below.refl _ w).alloc (Nat.le_refl _) _
  rcases dim_bad h with h1 | ⟨h1, h2⟩ | ⟨h1, h2, h3⟩ | ⟨h1, h2, h3, h4⟩
  all_goals
    clear h
    go_enter Try.func7, Try.ntmps7
    go_wp2_with fail
    exact bodyPost_ret (results_cell_tmp rfl rfl (rowG.load hz 0 (cs := [.int .i64 0, .int .i64 0, .slice none 0 0, .int .i64 0, .int .i64 0, .int .i64 0, .int .i64 0, .int .i64 0]) rfl rfl)) rfl ⟨rfl, hb⟩
set_option maxHeartbeats 4000000 in
theorem g_new_fit (hs ps low high wt : Int) (w : World) (h : dimB hs ps = true) (hf : fitB low = false ∨ fitB high = false ∨ fitB wt = false) :
    Calls Try.prog 7 #[.int .i64 hs, .int .i64 ps, .int .i64 low, .int .i64 high, .int .i64 wt] w fun e w' => e = .returned (.tuple #[.agg ([.int .i64 0, .int .i64 0, .slice none 0 0, .int .i64 0, .int .i64 0, .int .i64 0, .int .i64 0, .int .i64 0] : List Value).toArray, .int .i64 80]) ∧ Below w.heap.size w w' := by
  have HZ := Lib.hid (Bk.new w 30 [.int .i64 0, .int .i64 0, .slice none 0 0, .int .i64 0, .int .i64 0, .int .i64 0, .int .i64 0, .int .i64 0])
  have HB := Lib.hid ((Below.refl w.heap.size w).alloc (Nat.le_refl _) (.cells ([.int .i64 0, .int .i64 0, .slice none 0 0, .int .i64 0, .int .i64 0, .int .i64 0, .int .i64 0, .int .i64 0] : List Value).toArray 30))
  obtain ⟨h1, h2, h3, h4⟩ := dim_ok h
  have HN := Lib.hid (fun (W : World) => r_new_bad low high wt W hf)
  clear h hf
  go_enter Try.func7, Try.ntmps7
  go_wp2_with (first
    | (go_at_call 27; refine (HN.out _).mono ?_; rintro en w3 ⟨rfl, hb3⟩
       have hz3 := (HZ.out.below hb3).alloc (.cells ([.slice none 0 0, .slice none 0 0, .int .i64 0, .int .i64 0, .int .i64 0, .int .i64 0, .int .i64 0, .int .i64 0, .int .i64 0, .int .i64 0, .int .i64 0] : List Value).toArray 76)
       have hb4 := Lib.hid ((below_on HB.out hb3).alloc (below_on HB.out hb3).size (.cells ([.slice none 0 0, .slice none 0 0, .int .i64 0, .int .i64 0, .int .i64 0, .int .i64 0, .int .i64 0, .int .i64 0, .int .i64 0, .int .i64 0, .int .i64 0] : List Value).toArray 76))
       clear hb3)
    | (with_reducible refine at_store 30 (.tmp 10) (.tmp 40) (by rfl) ?_; refine wpList_store_bk rowG rfl (.tmp 10) (.tmp 40) rfl w.heap.size 0 rfl hz3 [.int .i64 0, .int .i64 0, .slice none 0 0, .int .i64 0, .int .i64 0, .int .i64 0, .int .i64 0, .int .i64 0] rfl rfl (by decide) fz8 ?_; rintro w7 hz7 hw7; have h9 := lay_all [.int .i64 0, .int .i64 0, .slice none 0 0, .int .i64 0, .int .i64 0, .int .i64 0, .int .i64 0, .int .i64 0] [.int .i64 0, .int .i64 0, .slice none 0 0, .int .i64 0, .int .i64 0, .int .i64 0, .int .i64 0, .int .i64 0] rfl; rw [h9] at hz7))
  exact bodyPost_ret (results_cell_tmp rfl rfl (rowG.load hz7 0 (cs := [.int .i64 0, .int .i64 0, .slice none 0 0, .int .i64 0, .int .i64 0, .int .i64 0, .int .i64 0, .int .i64 0]) rfl rfl)) rfl ⟨rfl, hb4.out.trans (hw7.below (Nat.le_refl _) hb4.out.size)⟩
end Go.Proofs.Ytboclbanccfbjaa
