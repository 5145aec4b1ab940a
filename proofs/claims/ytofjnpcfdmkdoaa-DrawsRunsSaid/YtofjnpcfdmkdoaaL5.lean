/- The law of any calls of a source. -/
import Derived.Test.YtofjnpcfdmkdoaaShint
import Derived.Test.YtofjnpcfdmkdoaaP5
import Derived.Test.YtofjnpcfdmkdoaaP6
import Derived.Test.YtofjnpcfdmkdoaaRegL
import Derived.Test.YtofjnpcfdmkdoaaOpenV
set_option linter.unusedSimpArgs false
set_option linter.unusedVariables false
namespace Go.Proofs.Ytofjnpcfdmkdoaa
open Go.RowKit Go.Shelf
abbrev OpT : Ty := .one (.int .u8) (.one (.int .i64) .unit)
/-- The k-th call, as it lies in memory. -/
theorem op_at {w : World} {s : Sl OpT.den} (h : (Ty.sl OpT).reads w s) (k : Nat) (hk : k < s.n) : ∃ (g o dv : Nat) (on : Int), s.A = some ⟨g, o, none⟩ ∧ g < w.heap.size ∧
    w.cell? ⟨g, o + k * 2, none⟩ = some (.int .u8 dv) ∧ w.cell? ⟨g, o + k * 2 + 1, none⟩ = some (.int .i64 on) ∧ dv < 256 ∧ -9223372036854775808 ≤ on ∧ on ≤ 9223372036854775807 := by
  obtain ⟨h1, h2, h3, h4, h5, h6⟩ := h
  have h1' : s.l.length = s.n := h1
  have hkl : k < s.l.length := by omega
  obtain ⟨g, o, hA, hg, hx⟩ := h5 (by omega) (show 0 < 2 from by omega)
  obtain ⟨dv, on, u, hv⟩ : ∃ (dv : Int) (on : Int) (u : Unit), (show OpT.den from (dv, on, u)) = s.l[k] := ⟨(s.l[k] : OpT.den).1, (s.l[k] : OpT.den).2.1, (s.l[k] : OpT.den).2.2, rfl⟩
  have hr : OpT.reads w s.l[k] := h6 _ (List.getElem_mem _)
  rw [← hv] at hr
  obtain ⟨r1, r2, _⟩ := hr
  have hb : 0 ≤ dv ∧ dv < 256 := u8_bounds r1
  have hdv : dv = (dv.toNat : Int) := by omega
  have x0 := hx k hkl 0 (.int .u8 dv) (by rw [← hv]; rfl)
  have x1 := hx k hkl 1 (.int .i64 on) (by rw [← hv]; rfl)
  have r2' : (Lit.int .i64 on).wf = true := r2
  simp [Lit.wf, IntKind.min, IntKind.max, IntKind.signed, IntKind.bits] at r2'
  refine ⟨g, o, dv.toNat, on, hA, hg, ?_, x1, by omega, by omega, by omega⟩
  rw [← hdv]
  exact x0
/-- The source and the reference's, as they lie. -/
structure DR (w : World) (s i j : Int) (W : World) : Prop where
  src : Src W w.heap.size s i
  box : Bk W 36 (w.heap.size + 1) [.int .u64 s, .int .i64 j]
  bel : Below w.heap.size w W
section
variable {w W W' : World} {s i j : Int}
theorem DR.next (h : DR w s i j W) (hb : Below W.heap.size W W') : DR w s i j W' := ⟨h.src.below hb, h.box.below hb, h.bel.trans (hb.mono h.bel.size)⟩
theorem DR.turn (h : DR w s i j W) (j' : Int) : DR w s i j' ((W.setCell ⟨w.heap.size + 1, 0, none⟩ (.int .u64 s)).setCell ⟨w.heap.size + 1, 1, none⟩ (.int .i64 j')) :=
  ⟨Bk.far (Bk.far h.src (p := ⟨w.heap.size + 1, 0, none⟩) (by simp) _) (p := ⟨w.heap.size + 1, 1, none⟩) (by simp) _, (h.box.set 0 (.int .u64 s)).set 1 (.int .i64 j'), (h.bel.setCell (by simp) _).setCell (by simp) _⟩
theorem DR.draw (h : DR w s i j W) {i' : Int} (hs : Src W' w.heap.size s i') (hw : Wr w.heap.size W W') : DR w s i' j W' :=
  ⟨hs, h.box.wr hw (by omega), h.bel.trans (hw.below (Nat.le_refl _) h.bel.size)⟩
theorem DR.far (h : DR w s i j W) {g : Nat} (hg : w.heap.size + 2 ≤ g) (q : Nat) (v : Value) : DR w s i j (W.setCell ⟨g, q, none⟩ v) :=
  ⟨Bk.far h.src (by simp; omega) _, h.box.far (by simp; omega) _, h.bel.setCell (by simp; omega) _⟩
theorem DR.st (h : DR w s i j W) {i' : Int} (hs : Src W' w.heap.size s i') (hw : St (· = w.heap.size) W W') : DR w s i' j W' :=
  ⟨hs, h.box.st hw (by omega), h.bel.trans (hw.below h.bel.size (fun k hk => by omega))⟩
end
/-- How many are drawn behind a Below; what it is. -/
def nbV (i : Nat) (on : Int) : Nat := if on < 1 then i else i + 1
def vbV (s : Int) (i : Nat) (on : Int) : Int := if on < 1 then 0 else belV s i on
theorem rbelow_all (w : World) (s : Int) (i : Nat) (on : Int) (h1 : i ≤ 1000000) (hn' : on ≤ 9223372036854775807) :
    Calls Try.prog 15 #[.agg #[.int .u64 s, .int .i64 i], .int .i64 on] w fun e w' => e = .returned (.tuple #[.agg #[.int .u64 s, .int .i64 (nbV i on)], .int .i64 (vbV s i on)]) ∧ Below w.heap.size w w' := by
  unfold nbV vbV
  by_cases h : on < 1
  · simp only [h, if_true]; exact rbelow_zero w s i on h
  · simp only [h, if_false]; exact rbelow_any w s i on (by omega) (by omega) (by omega) hn'
theorem below_all (w : World) (p : Nat) (s : Int) (i : Nat) (on : Int) (h : Src w p s i) (h1 : i ≤ 1000000) (hn' : on ≤ 9223372036854775807) :
    Calls Try.prog 16 #[.pointer (some ⟨p, 0, none⟩), .int .i64 on] w fun e w' => e = .returned (.int .i64 (vbV s i on)) ∧ Src w' p s (nbV i on) ∧ Wr p w w' := by
  unfold nbV vbV
  by_cases hc : on < 1
  · simp only [hc, if_true]
    refine (below_zero w _ on hc).mono ?_
    rintro e w' ⟨he, rfl⟩
    exact ⟨he, h, Wr.refl _ _⟩
  · simp only [hc, if_false]
    refine (below_any w p s i on h (by omega) (by omega) (by omega) hn').mono ?_
    rintro e w' ⟨he, h2, h3⟩
    exact ⟨he, h2, h3⟩
theorem ints_perm {vs us : List Value} (h : vs.Perm us) (hu : ints us) : ints vs := by
  obtain ⟨xs, rfl⟩ := hu
  let f : Value → Int := fun v => match v with | .int _ x => x | _ => 0
  refine ⟨vs.map f, ?_⟩
  have hv : ∀ v ∈ vs, (Value.int .i64 ∘ f) v = id v := fun v hv => by
    obtain ⟨x, _, rfl⟩ := List.mem_map.1 (h.mem_iff.1 hv)
    rfl
  rw [List.map_map]
  exact ((List.map_congr_left hv).trans (List.map_id _)).symm
theorem DR.wrf {w W W' : World} {s i j : Int} (h : DR w s i j W) {g : Nat} (hg : w.heap.size + 2 ≤ g) (hw : Wr g W W') : DR w s i j W' :=
  ⟨Bk.wr h.src hw (by omega), h.box.wr hw (by omega), h.bel.trans (hw.below (by omega) h.bel.size)⟩
theorem nbV_le (i : Nat) (on : Int) : nbV i on ≤ i + 1 := by unfold nbV; split <;> omega
set_option maxRecDepth 100000 in
set_option maxHeartbeats 16000000 in
theorem lawRuns (s : Int) (ops : Sl OpT.den) (w : World) (h : (Ty.sl OpT).reads w ops) :
    Calls Try.prog 4 #[.int .u64 s, .slice ops.A ops.n ops.c] w fun e w' => e = .returned (.bool true) ∧ Below w.heap.size w w' := by
  have hnm : ops.n ≤ 9223372036854775807 := by have h := h.2; simp only [maxLen] at h; omega
  have HOp := Lib.hid (op_at h)
  obtain ⟨A0, n0, c0, l0⟩ := ops
  dsimp only at *
  clear h
  go_enter Try.func4, Try.ntmps4
  go_wp2_with fail
  refine (new_any s w).mono ?_
  rintro e w1 ⟨rfl, hs1, hw1⟩
  have hb1 : Below w.heap.size w w1 := by rw [hw1]; exact (Below.refl _ _).alloc (Nat.le_refl _) _
  have hz1 : w1.heap.size = w.heap.size + 1 := by rw [hw1]; simp
  clear hw1
  have hD : DR w s 0 0 (w1.alloc (.cells #[.int .u64 s, .int .i64 0] 36)) := ⟨Bk.alloc hs1 _, by rw [← hz1]; exact Bk.new w1 _ _, hb1.alloc hb1.size _⟩
  clear hs1 hb1
  go_wp2_with fail
  refine (awake_any _).mono ?_
  rintro e w2 ⟨rfl, hb2⟩
  have hD2 := hD.next hb2
  clear hb2 hD hz1
  go_wp2
  go_loopw [7] (fun vi wr => ∃ k i : Nat, k ≤ n0 ∧ k ≤ 50 ∧ i ≤ 39 * k ∧ vi = .int .i64 k ∧ DR w s i i wr) (fun vi _ => n0 + 1 - (intOf vi).toNat)
  case atStart => exact ⟨0, 0, Nat.zero_le _, by omega, by omega, rfl, hD2⟩
  case round =>
    obtain ⟨k, i, hkn, hk50, hi, rfl, hD⟩ := hrel
    by_cases hc : k < n0 ∧ k < 50
    · obtain ⟨hlt, h50⟩ := hc
      have h50' : (k : Int) < 50 := by omega
      have hlt' : (k : Int) < n0 := by omega
      obtain ⟨g, o, dv, on, hA, hg, o0, o1, hdv, hon0, hon1⟩ := HOp.out k hlt
      obtain rfl : A0 = some ⟨g, o, none⟩ := hA
      have hO : ∀ W, Below w.heap.size w W → W.cell? ⟨g, o + k * 2, none⟩ = some (.int .u8 dv) ∧ W.cell? ⟨g, o + k * 2 + 1, none⟩ = some (.int .i64 on) := fun W hW => ⟨(hW.cell hg).trans o0, (hW.cell hg).trans o1⟩
      have HO := Lib.hid hO
      have k0 := (hO _ hD.bel).1
      have k1 := (hO _ hD.bel).2
      have c0' := hD.box.cell 0 rfl
      have c1' := hD.box.cell 1 rfl
      have f0 := hD.box.free 0
      have f1 := hD.box.free 1
      have hi2 : (i : Int) ≤ 2000 := by omega
      clear hO o0 o1 hD2
      have hcs : (dv : Int) % 4 = 0 ∨ (dv : Int) % 4 = 1 ∨ (dv : Int) % 4 = 2 ∨ (dv : Int) % 4 = 3 := by omega
      rcases hcs with h0 | h0 | h0 | h0
      · go_wp2_with fail
        refine (rnext_any wr s i (by omega) (by omega)).mono ?_
        rintro e w3 ⟨rfl, hb3⟩
        have D3 := hD.next hb3
        have b0 := D3.box.cell 0 rfl
        have b1 := D3.box.cell 1 rfl
        have b2 := D3.box.free 0
        have b3 := D3.box.free 1
        have b4 := D3.box.lt
        have D4 := (D3.turn (i + 1)).next ((Below.refl _ _).alloc (Nat.le_refl _) (.cells #[.int .u64 s, .int .i64 (i + 1)] 36))
        clear hb3 c0' c1' f0 f1
        have HD4 := Lib.hid D4
        clear D4 D3
        go_wp2_with fail
        refine (next_any _ w.heap.size s i (by exact HD4.out.src) (by omega) (by omega)).mono ?_
        rintro e w5 ⟨rfl, hs5, hw5⟩
        have D9 : DR w s ((i + 1 : Nat) : Int) ((i + 1 : Nat) : Int) w5 := HD4.out.draw hs5 hw5
        clear hs5 hw5 b0 b1 b2 b3 b4 HD4
        have t0 := D9.box.cell 1 rfl
        have HD := Lib.hid D9
        skip
        go_wp2
        go_quiet (exact (count_any _ _ s _ (by exact HD.out.src)).mono fun _ _ h => ⟨h.1, _, h.2.symm⟩)
        go_wp2
        go_roundw
        case rel => exact ⟨k + 1, i + 1, by omega, by omega, by omega, by go_num, HD.out.next (Below.drewN_ _ _)⟩
        case measure => simp [intOf]; omega

      · go_wp2_with fail
        refine wp_region_E (Below wr.heap.size) (by kernel_rfl) (fun wd hbd hsz => ?_)
        have Dd := hD.next hbd
        have kb : ∀ W', Below wr.heap.size wd W' → DR w s i i W' := fun W' hW => hD.next (hbd.trans hW)
        have q0 : ∀ W', Below wr.heap.size wd W' → W'.cell? ⟨w.heap.size + 1, 0, none⟩ = some (.int .u64 s) := fun W' hW => (kb W' hW).box.cell 0 rfl
        have q1 : ∀ W', Below wr.heap.size wd W' → W'.cell? ⟨w.heap.size + 1, 1, none⟩ = some (.int .i64 i) := fun W' hW => (kb W' hW).box.cell 1 rfl
        have q2 : ∀ W', Below wr.heap.size wd W' → W'.cell? ⟨g, o + k * 2 + 1, none⟩ = some (.int .i64 on) := fun W' hW => (HO.out _ (kb W' hW).bel).2
        clear hsz kb
        (refine takeE (belowTr wr.heap.size) 0 (by simp only [List.getElem?_toArray, List.getElem?_cons_succ, List.getElem?_cons_zero]; rfl) (by kernel_rfl) (by kernel_rfl) (by kernel_rfl) (by exact fun _ _ _ h => h) (by first | (refine Or.inl ⟨by rfl, ?_⟩; intro W hW; go_simp; try with_reducible rfl) | exact Or.inr ⟨by rfl, rfl⟩) ?_; try simp only [Act.put, List.setIfInBounds_toArray, List.set_cons_zero, List.set_cons_succ])
        (refine takeE (belowTr wr.heap.size) 1 (by simp only [List.getElem?_toArray, List.getElem?_cons_succ, List.getElem?_cons_zero]; rfl) (by kernel_rfl) (by kernel_rfl) (by kernel_rfl) (by exact fun _ _ _ h => h) (by first | (refine Or.inl ⟨by rfl, ?_⟩; intro W hW; go_simp; try with_reducible rfl) | exact Or.inr ⟨by rfl, rfl⟩) ?_; try simp only [Act.put, List.setIfInBounds_toArray, List.set_cons_zero, List.set_cons_succ])
        (refine takeE (belowTr wr.heap.size) 2 (by simp only [List.getElem?_toArray, List.getElem?_cons_succ, List.getElem?_cons_zero]; rfl) (by kernel_rfl) (by kernel_rfl) (by kernel_rfl) (by exact fun _ _ _ h => h) (by first | (refine Or.inl ⟨by rfl, ?_⟩; intro W hW; go_simp; try with_reducible rfl) | exact Or.inr ⟨by rfl, rfl⟩) ?_; try simp only [Act.put, List.setIfInBounds_toArray, List.set_cons_zero, List.set_cons_succ])
        (refine takeE (belowTr wr.heap.size) 3 (by simp only [List.getElem?_toArray, List.getElem?_cons_succ, List.getElem?_cons_zero]; rfl) (by kernel_rfl) (by kernel_rfl) (by kernel_rfl) (by exact fun _ _ _ h => h) (by first | (refine Or.inl ⟨by rfl, ?_⟩; intro W hW; go_simp; try with_reducible rfl) | exact Or.inr ⟨by rfl, rfl⟩) ?_; try simp only [Act.put, List.setIfInBounds_toArray, List.set_cons_zero, List.set_cons_succ])
        (refine takeE (belowTr wr.heap.size) 4 (by simp only [List.getElem?_toArray, List.getElem?_cons_succ, List.getElem?_cons_zero]; rfl) (by kernel_rfl) (by kernel_rfl) (by kernel_rfl) (by exact fun _ _ _ h => h) (by first | (refine Or.inl ⟨by rfl, ?_⟩; intro W hW; go_simp; try with_reducible rfl) | exact Or.inr ⟨by rfl, rfl⟩) ?_; try simp only [Act.put, List.setIfInBounds_toArray, List.set_cons_zero, List.set_cons_succ])
        (refine takeE (belowTr wr.heap.size) 5 (by simp only [List.getElem?_toArray, List.getElem?_cons_succ, List.getElem?_cons_zero]; rfl) (by kernel_rfl) (by kernel_rfl) (by kernel_rfl) (by exact fun _ _ _ h => h) (by first | (refine Or.inl ⟨by rfl, ?_⟩; intro W hW; go_simp; try with_reducible rfl) | exact Or.inr ⟨by rfl, rfl⟩) ?_; try simp only [Act.put, List.setIfInBounds_toArray, List.set_cons_zero, List.set_cons_succ])
        refine wpAnyE_two (i := 6) (j := 10) (by kernel_rfl) (by simp only [List.getElem?_toArray, List.getElem?_cons_succ, List.getElem?_cons_zero]; rfl) (by simp only [List.getElem?_toArray, List.getElem?_cons_succ, List.getElem?_cons_zero]; rfl) (fun K hK => ?_) (fun K hK => ?_)
        ·
          go_simp
          refine (rbelow_all wd s i on (by omega) (by omega)).mono ?_
          rintro e w3 ⟨rfl, hb3⟩
          have hbr : wr.heap.size ≤ w3.heap.size := by have := hb3.size; have := hbd.size; omega
          have D3 := Dd.next hb3
          refine hK.out _ _ (hb3.mono hbd.size) ?_
          clear hK K
          try simp only [Act.put, List.setIfInBounds_toArray, List.set_cons_zero, List.set_cons_succ]
          (refine takeE (belowTr wr.heap.size) 7 (by simp only [List.getElem?_toArray, List.getElem?_cons_succ, List.getElem?_cons_zero]; rfl) (by kernel_rfl) (by kernel_rfl) (by kernel_rfl) (by exact fun _ _ _ h => h) (by first | (refine Or.inl ⟨by rfl, ?_⟩; intro W hW; go_simp; try with_reducible rfl) | exact Or.inr ⟨by rfl, rfl⟩) ?_; try simp only [Act.put, List.setIfInBounds_toArray, List.set_cons_zero, List.set_cons_succ])
          (refine takeE (belowTr wr.heap.size) 8 (by simp only [List.getElem?_toArray, List.getElem?_cons_succ, List.getElem?_cons_zero]; rfl) (by kernel_rfl) (by kernel_rfl) (by kernel_rfl) (by exact fun _ _ _ h => h) (by first | (refine Or.inl ⟨by rfl, ?_⟩; intro W hW; go_simp; try with_reducible rfl) | exact Or.inr ⟨by rfl, rfl⟩) ?_; try simp only [Act.put, List.setIfInBounds_toArray, List.set_cons_zero, List.set_cons_succ])
          (refine takeE (belowTr wr.heap.size) 9 (by simp only [List.getElem?_toArray, List.getElem?_cons_succ, List.getElem?_cons_zero]; rfl) (by kernel_rfl) (by kernel_rfl) (by kernel_rfl) (by exact fun _ _ _ h => h) (by first | (refine Or.inl ⟨by rfl, ?_⟩; intro W hW; go_simp; try with_reducible rfl) | exact Or.inr ⟨by rfl, rfl⟩) ?_; try simp only [Act.put, List.setIfInBounds_toArray, List.set_cons_zero, List.set_cons_succ])
          refine wpAnyE_one (i := 10) (by kernel_rfl) (by simp only [List.getElem?_toArray, List.getElem?_cons_succ, List.getElem?_cons_zero]; rfl) (fun K hK => ?_)
          go_simp
          refine hK.out _ _ ((Below.refl _ _).alloc hbr _) ?_
          clear hK K
          try simp only [Act.put, List.setIfInBounds_toArray, List.set_cons_zero, List.set_cons_succ]
          refine wpAnyE_one (i := 11) (by kernel_rfl) (by simp only [List.getElem?_toArray, List.getElem?_cons_succ, List.getElem?_cons_zero]; rfl) (fun K hK => ?_)
          go_simp
          refine hK.out _ _ (below_alloc2 hbr _ _) ?_
          clear hK K
          try simp only [Act.put, List.setIfInBounds_toArray, List.set_cons_zero, List.set_cons_succ]
          (refine takeE (belowTr wr.heap.size) 12 (by simp only [List.getElem?_toArray, List.getElem?_cons_succ, List.getElem?_cons_zero]; rfl) (by kernel_rfl) (by kernel_rfl) (by kernel_rfl) (by exact fun _ _ _ h => h) (by first | (refine Or.inl ⟨by rfl, ?_⟩; intro W hW; go_simp; try with_reducible rfl) | exact Or.inr ⟨by rfl, rfl⟩) ?_; try simp only [Act.put, List.setIfInBounds_toArray, List.set_cons_zero, List.set_cons_succ])
          refine wpAnyE_done (by kernel_rfl) ?_ _
          have D5 := D3.next ((Below.refl _ _).alloc (Nat.le_refl _) (.cells #[.int .u64 s, .int .i64 (nbV i on)] 36))
          have HD5 := Lib.hid D5
          have x1 := (HO.out _ D5.bel).2
          have b0 := D3.box.cell 0 rfl
          have b1 := D3.box.cell 1 rfl
          have b2 := D3.box.free 0
          have b3 := D3.box.free 1
          have b4 := D3.box.lt
          have y1 := (HO.out _ D3.bel).2
          have y2 : g < w3.heap.size := by omega
          have y3 : g ≠ w.heap.size + 1 := by omega
          have D6 := (D3.turn (nbV i on)).next ((Below.refl _ _).alloc (Nat.le_refl _) (.cells #[.int .u64 s, .int .i64 (nbV i on)] 36))
          have HD4 := Lib.hid D6
          clear q0 q1 q2 c0' c1' f0 f1 D5 D3 D6 Dd HD5 x1
          go_wp2_with fail
          refine (below_all _ w.heap.size s i on (by exact HD4.out.src) (by omega) (by omega)).mono ?_
          rintro e w5 ⟨rfl, hs5, hw5⟩
          have D9 : DR w s (nbV i on) (nbV i on) w5 := HD4.out.draw hs5 hw5
          have hnb := nbV_le i on
          generalize nbV i on = nb at *
          clear hs5 hw5 HD4
          have t0 := D9.box.cell 1 rfl
          have HD := Lib.hid D9
          skip
          go_wp2
          go_quiet (exact (count_any _ _ s _ (by exact HD.out.src)).mono fun _ _ h => ⟨h.1, _, h.2.symm⟩)
          go_wp2
          go_roundw
          case rel => exact ⟨k + 1, nb, by omega, by omega, by omega, by go_num, HD.out.next (Below.drewN_ _ _)⟩
          case measure => simp [intOf]; omega
        ·
          go_simp
          refine hK.out _ _ ((Below.refl _ _).alloc hbd.size _) ?_
          clear hK K
          try simp only [Act.put, List.setIfInBounds_toArray, List.set_cons_zero, List.set_cons_succ]
          refine wpAnyE_one (i := 6) (by kernel_rfl) (by simp only [List.getElem?_toArray, List.getElem?_cons_succ, List.getElem?_cons_zero]; rfl) (fun K hK => ?_)
          go_simp
          have HZ := Lib.hid (Bk.new wd 36 [.int .u64 0, .int .i64 0])
          have Da := Dd.next ((Below.refl _ _).alloc (Nat.le_refl _) (.cells #[.int .u64 0, .int .i64 0] 36))
          refine (rbelow_all _ s i on (by omega) (by omega)).mono ?_
          rintro e w3 ⟨rfl, hb3⟩
          have D3 := Da.next hb3
          have z9 := HZ.out.below hb3
          have z0 := z9.cell 0 rfl
          have z1 := z9.cell 1 rfl
          have z2 := z9.free 0
          have z3 := z9.free 1
          refine hK.out _ _ (hb3.mono (by have := hbd.size; simp; omega)) ?_
          clear hK K
          try simp only [Act.put, List.setIfInBounds_toArray, List.set_cons_zero, List.set_cons_succ]
          (refine takeE (belowTr wr.heap.size) 7 (by simp only [List.getElem?_toArray, List.getElem?_cons_succ, List.getElem?_cons_zero]; rfl) (by kernel_rfl) (by kernel_rfl) (by kernel_rfl) (by exact fun _ _ _ h => h) (by first | (refine Or.inl ⟨by rfl, ?_⟩; intro W hW; go_simp; try with_reducible rfl) | exact Or.inr ⟨by rfl, rfl⟩) ?_; try simp only [Act.put, List.setIfInBounds_toArray, List.set_cons_zero, List.set_cons_succ])
          (refine takeE (belowTr wr.heap.size) 8 (by simp only [List.getElem?_toArray, List.getElem?_cons_succ, List.getElem?_cons_zero]; rfl) (by kernel_rfl) (by kernel_rfl) (by kernel_rfl) (by exact fun _ _ _ h => h) (by first | (refine Or.inl ⟨by rfl, ?_⟩; intro W hW; go_simp; try with_reducible rfl) | exact Or.inr ⟨by rfl, rfl⟩) ?_; try simp only [Act.put, List.setIfInBounds_toArray, List.set_cons_zero, List.set_cons_succ])
          (refine takeE (belowTr wr.heap.size) 9 (by simp only [List.getElem?_toArray, List.getElem?_cons_succ, List.getElem?_cons_zero]; rfl) (by kernel_rfl) (by kernel_rfl) (by kernel_rfl) (by exact fun _ _ _ h => h) (by first | (refine Or.inl ⟨by rfl, ?_⟩; intro W hW; go_simp; try with_reducible rfl) | exact Or.inr ⟨by rfl, rfl⟩) ?_; try simp only [Act.put, List.setIfInBounds_toArray, List.set_cons_zero, List.set_cons_succ])
          refine wpAnyE_one (i := 11) (by kernel_rfl) (by simp only [List.getElem?_toArray, List.getElem?_cons_succ, List.getElem?_cons_zero]; rfl) (fun K hK => ?_)
          go_simp
          refine hK.out _ _ (((Below.refl _ _).setCell (by simpa using hbd.size) _).setCell (by simpa using hbd.size) _) ?_
          clear hK K
          try simp only [Act.put, List.setIfInBounds_toArray, List.set_cons_zero, List.set_cons_succ]
          (refine takeE (belowTr wr.heap.size) 12 (by simp only [List.getElem?_toArray, List.getElem?_cons_succ, List.getElem?_cons_zero]; rfl) (by kernel_rfl) (by kernel_rfl) (by kernel_rfl) (by exact fun _ _ _ h => h) (by first | (refine Or.inl ⟨by rfl, ?_⟩; intro W hW; go_simp; try with_reducible rfl) | exact Or.inr ⟨by rfl, rfl⟩) ?_; try simp only [Act.put, List.setIfInBounds_toArray, List.set_cons_zero, List.set_cons_succ])
          refine wpAnyE_done (by kernel_rfl) ?_ _
          have hgz : w.heap.size + 2 ≤ wd.heap.size := by have := Dd.box.lt; omega
          have D5 := (D3.far hgz 0 (.int .u64 s)).far hgz 1 (.int .i64 (nbV i on))
          have zz := (z9.set 0 (.int .u64 s)).set 1 (.int .i64 (nbV i on))
          generalize (w3.setCell ⟨wd.heap.size, 0, none⟩ (.int .u64 s)).setCell ⟨wd.heap.size, 1, none⟩ (.int .i64 (nbV i on)) = w4 at *
          have z4 := zz.cell 0 rfl
          have z5 := zz.cell 1 rfl
          have b0 := D5.box.cell 0 rfl
          have b1 := D5.box.cell 1 rfl
          have b2 := D5.box.free 0
          have b3 := D5.box.free 1
          have b4 := D5.box.lt
          have y1 := (HO.out _ D5.bel).2
          have y2 : g < w4.heap.size := by have := D5.box.lt; omega
          have y3 : g ≠ w.heap.size + 1 := by omega
          have HD4 := Lib.hid (D5.turn (nbV i on))
          clear q0 q1 q2 c0' c1' f0 f1 D5 D3 Da z0 z1 z2 z3 HZ z9 zz
          go_wp2_with fail
          refine (below_all _ w.heap.size s i on (by exact HD4.out.src) (by omega) (by omega)).mono ?_
          rintro e w5 ⟨rfl, hs5, hw5⟩
          have D9 : DR w s (nbV i on) (nbV i on) w5 := HD4.out.draw hs5 hw5
          have hnb := nbV_le i on
          generalize nbV i on = nb at *
          clear hs5 hw5 HD4
          have t0 := D9.box.cell 1 rfl
          have HD := Lib.hid D9
          skip
          go_wp2
          go_quiet (exact (count_any _ _ s _ (by exact HD.out.src)).mono fun _ _ h => ⟨h.1, _, h.2.symm⟩)
          go_wp2
          go_roundw
          case rel => exact ⟨k + 1, nb, by omega, by omega, by omega, by go_num, HD.out.next (Below.drewN_ _ _)⟩
          case measure => simp [intOf]; omega
      · obtain ⟨K, hK⟩ : ∃ K : Nat, wrap64 ((IntKind.u64.wrap on).tmod 40) = K ∧ K < 40 := by
          have h1 : 0 ≤ IntKind.u64.wrap on := by rw [IntKind.wrap_u64]; omega
          rw [Int.tmod_eq_emod_of_nonneg h1, IntWalk.wrap64_in _ (by omega)]
          exact ⟨(IntKind.u64.wrap on % 40).toNat, by omega, by omega⟩
        obtain ⟨hK, hK40⟩ := hK
        go_wp2_with fail
        rw [hK]
        refine (row_any K wr (by omega)).mono ?_
        rintro e w3 ⟨A3, n3, c3, rfl, hl3, hb3⟩
        have hn3 : n3 = K := by rw [← hl3.1, iotaV_len]
        subst hn3
        have D3 := hD.next hb3
        have b0 := D3.box.cell 0 rfl
        have b1 := D3.box.cell 1 rfl
        have b2 := D3.box.free 0
        have b3 := D3.box.free 1
        have b4 := D3.box.lt
        clear c0' c1' f0 f1 hK
        have HD3 := Lib.hid D3
        have R3 := Lib.hid hl3.rdv
        have HL3 := Lib.hid hl3
        have hDlt := hD.box.lt
        have hicon : ∀ v ∈ iotaV n3, ∃ x, v = .int .i64 x := fun v hv => by
          obtain ⟨q, _, rfl⟩ := List.mem_map.1 hv
          exact ⟨_, rfl⟩
        have HIC := Lib.hid hicon
        clear hl3 hb3 D3 hicon
        go_wp2_with fail
        refine (rshuffle_any s i A3 n3 c3 (iotaV n3) w3 R3.out HIC.out (by omega) (by omega) (by omega)).mono ?_
        rintro e w4 ⟨A4, c4, rfl, hl4, hb4⟩
        have D4 := HD3.out.next hb4
        clear b0 b1 b2 b3 b4
        have b0 := D4.box.cell 0 rfl
        have b1 := D4.box.cell 1 rfl
        have b2 := D4.box.free 0
        have b3 := D4.box.free 1
        have b4 := D4.box.lt
        obtain ⟨i2, hi2'⟩ : ∃ i2 : Nat, i2 = i + (n3 - 1) := ⟨_, rfl⟩
        have hi3 : (i : Int) + ((n3 - 1 : Nat) : Int) = (i2 : Int) := by omega
        have hi4 : i2 ≤ i + 39 := by omega
        have HI3 := Lib.hid hi3
        rw [hi3]
        clear hi2'
        have D5 := (D4.turn i2).next ((Below.refl _ _).alloc (Nat.le_refl _) (.cells #[.int .u64 s, .int .i64 i2] 36))
        have R4 : RdV ((((w4.setCell ⟨w.heap.size + 1, 0, none⟩ (.int .u64 s)).setCell ⟨w.heap.size + 1, 1, none⟩ (.int .i64 i2))).alloc (.cells #[.int .u64 s, .int .i64 i2] 36)) A4 n3 c4 (shufV s i (iotaV n3)) := by
          have hlt := HD3.out.box.lt
          exact (((hl4.far (p := ⟨w.heap.size + 1, 0, none⟩) (fun ad he => by have := (hl4.blk ad he).1; simp; omega) (.int .u64 s)).far (p := ⟨w.heap.size + 1, 1, none⟩) (fun ad he => by have := (hl4.blk ad he).1; simp; omega) (.int .i64 i2)).alloc _).rdv
        have hA4 : 0 < n3 → ∀ ad, A4 = some ad → ¬ ad.block = w.heap.size := fun _ ad he e => by
          have := (hl4.blk ad he).1
          have := HD3.out.box.lt
          omega
        have R3' : RdV ((((w4.setCell ⟨w.heap.size + 1, 0, none⟩ (.int .u64 s)).setCell ⟨w.heap.size + 1, 1, none⟩ (.int .i64 i2))).alloc (.cells #[.int .u64 s, .int .i64 i2] 36)) A3 n3 c3 (iotaV n3) := by
          exact ((((HL3.out.below hb4).far (p := ⟨w.heap.size + 1, 0, none⟩) (fun ad he => by have := (HL3.out.blk ad he).1; simp; omega) (.int .u64 s)).far (p := ⟨w.heap.size + 1, 1, none⟩) (fun ad he => by have := (HL3.out.blk ad he).1; simp; omega) (.int .i64 i2)).alloc _).rdv
        have HD5 := Lib.hid D5
        have H4 := Lib.hid R4
        have H3 := Lib.hid R3'
        have HA4 := Lib.hid hA4
        clear D4 D5 R4 R3' hA4 hl4 hb4 hi3
        go_wp2_with fail
        refine (Shint.shuffle_any w.heap.size s i A3 n3 c3 (iotaV n3) _ (by exact HD5.out.src) (by exact H3.out) HIC.out (by omega) (by omega) (by omega)).mono ?_
        rintro e w6 ⟨A6, c6, rfl, hl6, hs6, hst6⟩
        rw [HI3.out] at hs6
        have D9 := HD5.out.st hs6 hst6
        have r4 := H4.out.st hst6 HA4.out
        have hcon2 : ints (shufV s i (iotaV n3)) := ints_perm (shufV_perm s i (iotaV n3)) ⟨(List.range n3).map (fun k : Nat => (k : Int)), by simp [iotaV]⟩
        clear b0 b1 b2 b3 b4 HD5 H4 H3 hs6 hst6
        go_wp2_with fail
        refine (same_ints A6 A4 n3 c6 n3 c4 _ w6 hl6.rdv r4 hcon2).mono ?_
        rintro e w7 ⟨rfl, hb7⟩
        have D9 := D9.next hb7
        clear hl6 r4 hb7 hcon2
        have t0 := D9.box.cell 1 rfl
        have HD := Lib.hid D9
        skip
        go_wp2
        go_quiet (exact (count_any _ _ s _ (by exact HD.out.src)).mono fun _ _ h => ⟨h.1, _, h.2.symm⟩)
        go_wp2
        go_roundw
        case rel => exact ⟨k + 1, i2, by omega, by omega, by omega, by go_num, HD.out.next (Below.drewN_ _ _)⟩
        case measure => simp [intOf]; omega

      · go_wp2_with fail
        refine (fork_any wr w.heap.size s i hD.src).mono ?_
        rintro e w3 ⟨rfl, hf3, hb3⟩
        have D3 := hD.next hb3
        have hgz : w.heap.size + 2 ≤ wr.heap.size := by have := hD.box.lt; omega
        clear c0' c1' f0 f1 hb3
        go_wp2
        refine wp_region_E (Wr wr.heap.size) (by kernel_rfl) (fun wd hbd hsz => ?_)
        have Dd := D3.next hbd
        have q1 : ∀ W', Wr wr.heap.size wd W' → W'.cell? ⟨w.heap.size + 1, 1, none⟩ = some (.int .i64 i) := fun W' hW => (Dd.wrf hgz hW).box.cell 1 rfl
        clear hsz
        (refine takeE (wrTr wr.heap.size) 0 (by simp only [List.getElem?_toArray, List.getElem?_cons_succ, List.getElem?_cons_zero]; rfl) (by kernel_rfl) (by kernel_rfl) (by kernel_rfl) (by exact fun _ _ _ h => h) (by first | (refine Or.inl ⟨by rfl, ?_⟩; intro W hW; go_simp; try with_reducible rfl) | exact Or.inr ⟨by rfl, rfl⟩) ?_; try simp only [Act.put, List.setIfInBounds_toArray, List.set_cons_zero, List.set_cons_succ])
        (refine takeE (wrTr wr.heap.size) 1 (by simp only [List.getElem?_toArray, List.getElem?_cons_succ, List.getElem?_cons_zero]; rfl) (by kernel_rfl) (by kernel_rfl) (by kernel_rfl) (by exact fun _ _ _ h => h) (by first | (refine Or.inl ⟨by rfl, ?_⟩; intro W hW; go_simp; try with_reducible rfl) | exact Or.inr ⟨by rfl, rfl⟩) ?_; try simp only [Act.put, List.setIfInBounds_toArray, List.set_cons_zero, List.set_cons_succ])
        (refine takeE (wrTr wr.heap.size) 2 (by simp only [List.getElem?_toArray, List.getElem?_cons_succ, List.getElem?_cons_zero]; rfl) (by kernel_rfl) (by kernel_rfl) (by kernel_rfl) (by exact fun _ _ _ h => h) (by first | (refine Or.inl ⟨by rfl, ?_⟩; intro W hW; go_simp; try with_reducible rfl) | exact Or.inr ⟨by rfl, rfl⟩) ?_; try simp only [Act.put, List.setIfInBounds_toArray, List.set_cons_zero, List.set_cons_succ])
        (refine takeE (wrTr wr.heap.size) 3 (by simp only [List.getElem?_toArray, List.getElem?_cons_succ, List.getElem?_cons_zero]; rfl) (by kernel_rfl) (by kernel_rfl) (by kernel_rfl) (by exact fun _ _ _ h => h) (by first | (refine Or.inl ⟨by rfl, ?_⟩; intro W hW; go_simp; try with_reducible rfl) | exact Or.inr ⟨by rfl, rfl⟩) ?_; try simp only [Act.put, List.setIfInBounds_toArray, List.set_cons_zero, List.set_cons_succ])
        (refine takeE (wrTr wr.heap.size) 5 (by simp only [List.getElem?_toArray, List.getElem?_cons_succ, List.getElem?_cons_zero]; rfl) (by kernel_rfl) (by kernel_rfl) (by kernel_rfl) (by exact fun _ _ _ h => h) (by first | (refine Or.inl ⟨by rfl, ?_⟩; intro W hW; go_simp; try with_reducible rfl) | exact Or.inr ⟨by rfl, rfl⟩) ?_; try simp only [Act.put, List.setIfInBounds_toArray, List.set_cons_zero, List.set_cons_succ])
        (refine takeE (wrTr wr.heap.size) 6 (by simp only [List.getElem?_toArray, List.getElem?_cons_succ, List.getElem?_cons_zero]; rfl) (by kernel_rfl) (by kernel_rfl) (by kernel_rfl) (by exact fun _ _ _ h => h) (by first | (refine Or.inl ⟨by rfl, ?_⟩; intro W hW; go_simp; try with_reducible rfl) | exact Or.inr ⟨by rfl, rfl⟩) ?_; try simp only [Act.put, List.setIfInBounds_toArray, List.set_cons_zero, List.set_cons_succ])
        (refine takeE (wrTr wr.heap.size) 7 (by simp only [List.getElem?_toArray, List.getElem?_cons_succ, List.getElem?_cons_zero]; rfl) (by kernel_rfl) (by kernel_rfl) (by kernel_rfl) (by exact fun _ _ _ h => h) (by first | (refine Or.inl ⟨by rfl, ?_⟩; intro W hW; go_simp; try with_reducible rfl) | exact Or.inr ⟨by rfl, rfl⟩) ?_; try simp only [Act.put, List.setIfInBounds_toArray, List.set_cons_zero, List.set_cons_succ])
        refine wpAnyE_one (i := 4) (by kernel_rfl) (by simp only [List.getElem?_toArray, List.getElem?_cons_succ, List.getElem?_cons_zero]; rfl) (fun K hK => ?_)
        go_simp
        refine (next_any wd wr.heap.size s i (hf3.below hbd) (by omega) (by omega)).mono ?_
        rintro e w4 ⟨rfl, hs4, hw4⟩
        have D9 := Dd.wrf hgz hw4
        clear hs4 q1
        have q1 : ∀ W', Wr wr.heap.size w4 W' → W'.cell? ⟨w.heap.size + 1, 1, none⟩ = some (.int .i64 i) := fun W' hW => (D9.wrf hgz hW).box.cell 1 rfl
        refine hK.out _ _ hw4 ?_
        clear hK K
        try simp only [Act.put, List.setIfInBounds_toArray, List.set_cons_zero, List.set_cons_succ]
        refine wpAnyE_one (i := 8) (by kernel_rfl) (by simp only [List.getElem?_toArray, List.getElem?_cons_succ, List.getElem?_cons_zero]; rfl) (fun K hK => ?_)
        go_simp
        refine (rat_any s i w4).mono ?_
        rintro e w5 ⟨rfl, rfl⟩
        refine hK.out _ _ (Wr.refl _ _) ?_
        clear hK K
        try simp only [Act.put, List.setIfInBounds_toArray, List.set_cons_zero, List.set_cons_succ]
        (refine takeE (wrTr wr.heap.size) 9 (by simp only [List.getElem?_toArray, List.getElem?_cons_succ, List.getElem?_cons_zero]; rfl) (by kernel_rfl) (by kernel_rfl) (by kernel_rfl) (by exact fun _ _ _ h => h) (by first | (refine Or.inl ⟨by rfl, ?_⟩; intro W hW; go_simp; try with_reducible rfl) | exact Or.inr ⟨by rfl, rfl⟩) ?_; try simp only [Act.put, List.setIfInBounds_toArray, List.set_cons_zero, List.set_cons_succ])
        (refine takeE (wrTr wr.heap.size) 10 (by simp only [List.getElem?_toArray, List.getElem?_cons_succ, List.getElem?_cons_zero]; rfl) (by kernel_rfl) (by kernel_rfl) (by kernel_rfl) (by exact fun _ _ _ h => h) (by first | (refine Or.inl ⟨by rfl, ?_⟩; intro W hW; go_simp; try with_reducible rfl) | exact Or.inr ⟨by rfl, rfl⟩) ?_; try simp only [Act.put, List.setIfInBounds_toArray, List.set_cons_zero, List.set_cons_succ])
        (refine takeE (wrTr wr.heap.size) 11 (by simp only [List.getElem?_toArray, List.getElem?_cons_succ, List.getElem?_cons_zero]; rfl) (by kernel_rfl) (by kernel_rfl) (by kernel_rfl) (by exact fun _ _ _ h => h) (by first | (refine Or.inl ⟨by rfl, ?_⟩; intro W hW; go_simp; try with_reducible rfl) | exact Or.inr ⟨by rfl, rfl⟩) ?_; try simp only [Act.put, List.setIfInBounds_toArray, List.set_cons_zero, List.set_cons_succ])
        (refine takeE (wrTr wr.heap.size) 12 (by simp only [List.getElem?_toArray, List.getElem?_cons_succ, List.getElem?_cons_zero]; rfl) (by kernel_rfl) (by kernel_rfl) (by kernel_rfl) (by exact fun _ _ _ h => h) (by first | (refine Or.inl ⟨by rfl, ?_⟩; intro W hW; go_simp; try with_reducible rfl) | exact Or.inr ⟨by rfl, rfl⟩) ?_; try simp only [Act.put, List.setIfInBounds_toArray, List.set_cons_zero, List.set_cons_succ])
        (refine takeE (wrTr wr.heap.size) 14 (by simp only [List.getElem?_toArray, List.getElem?_cons_succ, List.getElem?_cons_zero]; rfl) (by kernel_rfl) (by kernel_rfl) (by kernel_rfl) (by exact fun _ _ _ h => h) (by first | (refine Or.inl ⟨by rfl, ?_⟩; intro W hW; go_simp; try with_reducible rfl) | exact Or.inr ⟨by rfl, rfl⟩) ?_; try simp only [Act.put, List.setIfInBounds_toArray, List.set_cons_zero, List.set_cons_succ])
        (refine takeE (wrTr wr.heap.size) 15 (by simp only [List.getElem?_toArray, List.getElem?_cons_succ, List.getElem?_cons_zero]; rfl) (by kernel_rfl) (by kernel_rfl) (by kernel_rfl) (by exact fun _ _ _ h => h) (by first | (refine Or.inl ⟨by rfl, ?_⟩; intro W hW; go_simp; try with_reducible rfl) | exact Or.inr ⟨by rfl, rfl⟩) ?_; try simp only [Act.put, List.setIfInBounds_toArray, List.set_cons_zero, List.set_cons_succ])
        refine wpAnyE_one (i := 13) (by kernel_rfl) (by simp only [List.getElem?_toArray, List.getElem?_cons_succ, List.getElem?_cons_zero]; rfl) (fun K hK => ?_)
        go_simp
        refine (count_any w4 w.heap.size s i D9.src).mono ?_
        rintro e w5 ⟨rfl, rfl⟩
        refine hK.out _ _ (Wr.refl _ _) ?_
        clear hK K
        try simp only [Act.put, List.setIfInBounds_toArray, List.set_cons_zero, List.set_cons_succ]
        (refine takeE (wrTr wr.heap.size) 16 (by simp only [List.getElem?_toArray, List.getElem?_cons_succ, List.getElem?_cons_zero]; rfl) (by kernel_rfl) (by kernel_rfl) (by kernel_rfl) (by exact fun _ _ _ h => h) (by first | (refine Or.inl ⟨by rfl, ?_⟩; intro W hW; go_simp; try with_reducible rfl) | exact Or.inr ⟨by rfl, rfl⟩) ?_; try simp only [Act.put, List.setIfInBounds_toArray, List.set_cons_zero, List.set_cons_succ])
        (refine takeE (wrTr wr.heap.size) 17 (by simp only [List.getElem?_toArray, List.getElem?_cons_succ, List.getElem?_cons_zero]; rfl) (by kernel_rfl) (by kernel_rfl) (by kernel_rfl) (by exact fun _ _ _ h => h) (by first | (refine Or.inl ⟨by rfl, ?_⟩; intro W hW; go_simp; try with_reducible rfl) | exact Or.inr ⟨by rfl, rfl⟩) ?_; try simp only [Act.put, List.setIfInBounds_toArray, List.set_cons_zero, List.set_cons_succ])
        refine wpAnyE_done (by kernel_rfl) ?_ _
        
        have t0 := D9.box.cell 1 rfl
        have HD := Lib.hid D9
        clear hf3 Dd hw4 D3 hbd q1
        go_wp2
        go_quiet (exact (count_any _ _ s _ (by exact HD.out.src)).mono fun _ _ h => ⟨h.1, _, h.2.symm⟩)
        go_wp2
        go_roundw
        case rel => exact ⟨k + 1, i, by omega, by omega, by omega, by go_num, HD.out.next (Below.drewN_ _ _)⟩
        case measure => simp [intOf]; omega

    · have hd : k < n0 ∧ (50 : Int) ≤ k ∨ n0 ≤ k := by omega
      have HB := Lib.hid hD.bel
      clear hD2
      rcases hd with ⟨hlt, h50⟩ | hge
      · go_wp2
        go_ret
        exact ⟨rfl, HB.out⟩
      · obtain rfl : k = n0 := by omega
        go_wp2
        go_ret
        exact ⟨rfl, HB.out⟩
end Go.Proofs.Ytofjnpcfdmkdoaa
