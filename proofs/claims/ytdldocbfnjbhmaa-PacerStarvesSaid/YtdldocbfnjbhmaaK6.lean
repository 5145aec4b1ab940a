/- A pacer is asked of a key; whose turn it is; made; a key is made known. -/
import Derived.Test.YtdldocbfnjbhmaaK5
set_option linter.unusedSimpArgs false
set_option linter.unusedVariables false
set_option maxRecDepth 100000
namespace Go.Proofs.Ytdldocbfnjbhmaa
open Go.RowKit Go.Shelf
section
variable {F F' F0 F1 : Nat → Prop} {w w' : World} {p b p0 p1 : Nat} {m : Pm} {P : Option Addr}
theorem p_find_no (h : NoP w P) (k : Ky) : Calls Try.prog 34 #[.pointer P, .agg #[.int .i64 k.s, .int .i64 k.c]] w fun e w' => e = .returned (.tuple #[.agg #[.int .i64 zKn.g, .int .i64 zKn.p, .int .i64 zKn.i], .bool false]) ∧ Below w.heap.size w w' := by
  have hb1 : Below w.heap.size w ((w.alloc (.cells #[.int .i64 k.s, .int .i64 k.c] 39)).alloc (.cells #[.int .i64 zKn.g, .int .i64 zKn.p, .int .i64 zKn.i] 76)) := ((Below.refl _ w).alloc (Nat.le_refl _) _).alloc (by simp) _
  have HM := Lib.hid (p_none (h.below hb1))
  have HB := Lib.hid hb1
  have z3 := Bk.new (w.alloc (.cells #[.int .i64 k.s, .int .i64 k.c] 39)) 76 zKn.ac
  rw [World.size_alloc] at z3
  have HZ := Lib.hid z3
  clear hb1 h z3
  unfold zKn zK Kn.ac at *
  dsimp only at *
  go_enter Try.func34, Try.ntmps34
  go_wp2_with (go_at_call 27; refine HM.out.mono ?_; rintro e w' ⟨rfl, rfl⟩)
  exact bodyPost_ret (results_cell_tmp rfl rfl (rowA.load HZ.out 0 (cs := zKn.ac) rfl rfl)) rfl ⟨rfl, HB.out⟩
theorem p_pending (h : PcA F w p m) (k : Ky) : Calls Try.prog 17 #[.pointer (some ⟨p, 0, none⟩), .agg #[.int .i64 k.s, .int .i64 k.c]] w fun e w' => e = .returned (.int .i64 (ofKey m.L k).p) ∧ Below w.heap.size w w' := by
  have hb1 : Below w.heap.size w (w.alloc (.cells #[.int .i64 k.s, .int .i64 k.c] 39)) := (Below.refl _ w).alloc (Nat.le_refl _) _
  have HF := Lib.hid (p_find (h.below hb1) k)
  have HB := Lib.hid hb1
  clear hb1 h
  generalize ofKey m.L k = x at *
  generalize isIn m.L k = y at *
  go_enter Try.func17, Try.ntmps17
  go_wp2_with fail
  refine HF.out.mono ?_
  rintro e w1 ⟨rfl, hb⟩
  have HB2 := Lib.hid ((below_on HB.out hb).alloc (below_on HB.out hb).size (.cells #[.int .i64 x.g, .int .i64 x.p, .int .i64 x.i] 76))
  clear hb
  go_wp2
  go_ret
  exact ⟨rfl, HB2.out⟩
theorem p_issued (h : PcA F w p m) (k : Ky) : Calls Try.prog 18 #[.pointer (some ⟨p, 0, none⟩), .agg #[.int .i64 k.s, .int .i64 k.c]] w fun e w' => e = .returned (.int .i64 (ofKey m.L k).i) ∧ Below w.heap.size w w' := by
  have hb1 : Below w.heap.size w (w.alloc (.cells #[.int .i64 k.s, .int .i64 k.c] 39)) := (Below.refl _ w).alloc (Nat.le_refl _) _
  have HF := Lib.hid (p_find (h.below hb1) k)
  have HB := Lib.hid hb1
  clear hb1 h
  generalize ofKey m.L k = x at *
  generalize isIn m.L k = y at *
  go_enter Try.func18, Try.ntmps18
  go_wp2_with fail
  refine HF.out.mono ?_
  rintro e w1 ⟨rfl, hb⟩
  have HB2 := Lib.hid ((below_on HB.out hb).alloc (below_on HB.out hb).size (.cells #[.int .i64 x.g, .int .i64 x.p, .int .i64 x.i] 76))
  clear hb
  go_wp2
  go_ret
  exact ⟨rfl, HB2.out⟩
/-- Whose turn it is. -/
def Pm.turn (m : Pm) : Int := if 0 < m.q0.length ∧ (4 ≤ m.run ∨ m.q1.length = 0) then 0 else 1
theorem p_turn (h : PcA F w p m) : Calls Try.prog 30 #[.pointer (some ⟨p, 0, none⟩)] w fun e w' => e = .returned (.int .i64 m.turn) ∧ Below w.heap.size w w' := by
  have HW0 := Lib.hid (p_waits h 0 (.inl rfl))
  have HW1 : Hid (∀ w1, Below w.heap.size w w1 → Calls Try.prog 47 #[.pointer (some ⟨p, 0, none⟩), .int .i64 1] w1 fun e w' => e = .returned (.bool (decide (0 < (m.q 1).length))) ∧ Below w1.heap.size w1 w') := Lib.hid fun w1 hb => p_waits (h.below hb) 1 (.inr rfl)
  obtain ⟨b, p0, p1, F0, F1, hx⟩ := h
  have HX := Lib.hid hx
  clear hx
  have e0 : m.q 0 = m.q0 := rfl
  have e1 : m.q 1 = m.q1 := rfl
  rw [e0] at HW0
  rw [e1] at HW1
  clear e0 e1
  have HT := Lib.hid (show m.turn = if 0 < m.q0.length ∧ (4 ≤ m.run ∨ m.q1.length = 0) then 0 else 1 from rfl)
  generalize m.turn = t at *
  by_cases h0 : 0 < m.q0.length
  · have HH0 := Lib.hid h0
    rw [decide_eq_true h0] at HW0
    clear h0
    rcases (by omega : 4 ≤ m.run ∨ m.run < 4) with h4 | h4
    · have HV : Hid (t = 0) := Lib.hid (by rw [HT.out, if_pos ⟨HH0.out, .inl h4⟩])
      clear HT
      go_enter Try.func30, Try.ntmps30
      go_wp2_with fail
      refine HW0.out.mono ?_
      rintro e w1 ⟨rfl, hb⟩
      have c4 := (HX.out.below hb).bk.cell 4 rfl
      go_wp2
      go_ret
      exact ⟨by rw [HV.out]; rfl, hb⟩
    · by_cases h1 : 0 < m.q1.length
      · have HV : Hid (t = 1) := Lib.hid (by rw [HT.out, if_neg (by omega)])
        rw [decide_eq_true h1] at HW1
        clear HT h1
        go_enter Try.func30, Try.ntmps30
        go_wp2_with fail
        refine HW0.out.mono ?_
        rintro e w1 ⟨rfl, hb⟩
        have c4 := (HX.out.below hb).bk.cell 4 rfl
        go_wp2_with fail
        refine (HW1.out _ hb).mono ?_
        rintro e w2 ⟨rfl, hb2⟩
        go_wp2
        go_ret
        exact ⟨by rw [HV.out]; rfl, below_on hb hb2⟩
      · have HV : Hid (t = 0) := Lib.hid (by rw [HT.out, if_pos ⟨HH0.out, .inr (by omega)⟩])
        rw [decide_eq_false h1] at HW1
        clear HT h1
        go_enter Try.func30, Try.ntmps30
        go_wp2_with fail
        refine HW0.out.mono ?_
        rintro e w1 ⟨rfl, hb⟩
        have c4 := (HX.out.below hb).bk.cell 4 rfl
        go_wp2_with fail
        refine (HW1.out _ hb).mono ?_
        rintro e w2 ⟨rfl, hb2⟩
        go_wp2
        go_ret
        exact ⟨by rw [HV.out]; rfl, below_on hb hb2⟩
  · have HV : Hid (t = 1) := Lib.hid (by rw [HT.out, if_neg (by omega)])
    rw [decide_eq_false h0] at HW0
    clear HT h0
    go_enter Try.func30, Try.ntmps30
    go_wp2_with fail
    refine HW0.out.mono ?_
    rintro e w1 ⟨rfl, hb⟩
    go_wp2
    go_ret
    exact ⟨by rw [HV.out]; rfl, hb⟩

/-! Made. -/
def Pm.new (most : Nat) : Pm := ⟨most, [], [], [], 0, 0⟩
/-- So far that many queues are there. -/
def NewI (w : World) (most k : Nat) (wr : World) : Prop :=
  Below w.heap.size w wr ∧ MpB wr w.heap.size [] ∧ ∃ P0 P1, Bk wr 69 (w.heap.size + 1) [.int .i64 most, .map (some w.heap.size), .pointer P0, .pointer P1, .int .i64 0, .int .i64 0] ∧
    (k = 0 → P0 = none ∧ P1 = none) ∧ (k = 1 → P1 = none ∧ ∃ p0, P0 = some ⟨p0, 0, none⟩ ∧ w.heap.size + 1 < p0 ∧ Qs (· = p0) wr p0 most []) ∧
    (k = 2 → ∃ p0 p1, P0 = some ⟨p0, 0, none⟩ ∧ P1 = some ⟨p1, 0, none⟩ ∧ w.heap.size + 1 < p0 ∧ p0 < p1 ∧ Qs (· = p0) wr p0 most [] ∧ Qs (· = p1) wr p1 most [])
theorem NewI.next {w wr w1 : World} {most k : Nat} (h : NewI w most k wr) (hb : Below wr.heap.size wr w1) : NewI w most k w1 := by
  obtain ⟨h1, h2, P0, P1, h3, h4, h5, h6⟩ := h
  refine ⟨h1.trans (hb.mono h1.size), h2.below hb, P0, P1, h3.below hb, h4, fun e => ?_, fun e => ?_⟩
  · obtain ⟨a, p0, b, c, d⟩ := h5 e
    exact ⟨a, p0, b, c, d.below hb⟩
  · obtain ⟨p0, p1, a, b, c, d, e, f⟩ := h6 e
    exact ⟨p0, p1, a, b, c, d, e.below hb, f.below hb⟩
set_option maxHeartbeats 2000000 in
theorem p_new (most : Nat) (w : World) (h1 : 1 ≤ most) (h2 : most ≤ 512) :
    Calls Try.prog 8 #[.int .i64 most] w fun e w' => e = .returned (.tuple #[.pointer (some ⟨w.heap.size + 1, 0, none⟩), .int .i64 0]) ∧ (∃ F, PcA F w' (w.heap.size + 1) (Pm.new most) ∧ ∀ k, F k → w.heap.size ≤ k) ∧ Below w.heap.size w w' := by
  have HN : Hid (∀ W, Calls Try.prog 26 #[.int .i64 most] W fun e w' => e = .returned (.tuple #[.pointer (some ⟨W.heap.size, 0, none⟩), .int .i64 0]) ∧ Qs (· = W.heap.size) w' W.heap.size most [] ∧ Below W.heap.size W w') := Lib.hid fun W => q_new most W (by omega) (by omega)
  obtain ⟨W, hW⟩ : ∃ W, W = (w.alloc (.map #[] 0)).alloc (.cells #[.int .i64 most, .map (some w.heap.size), .pointer none, .pointer none, .int .i64 0, .int .i64 0] 69) := ⟨_, rfl⟩
  have hi0 : NewI w most 0 W := by
    have hb : Below w.heap.size w W := by rw [hW]; exact ((Below.refl _ w).alloc (Nat.le_refl _) _).alloc (by simp) _
    have hz := Bk.new (w.alloc (.map #[] 0)) 69 [.int .i64 most, .map (some w.heap.size), .pointer none, .pointer none, .int .i64 0, .int .i64 0]
    rw [World.size_alloc] at hz
    refine ⟨hb, ?_, none, none, by rw [hW]; exact hz, fun _ => ⟨rfl, rfl⟩, fun e => by omega, fun e => by omega⟩
    rw [hW]; exact (MpB.new w).below ((Below.refl _ _).alloc (Nat.le_refl _) _)
  have h1' : ¬ (most : Int) < 1 := by omega
  have h2' : (most : Int) ≤ 512 := by omega
  have hmm : (Instr.makeMap 65 none).run Try.prog w = .ok (.map (some w.heap.size)) (w.alloc (.map #[] 0)) := by kernel_rfl
  go_enter Try.func8, Try.ntmps8
  go_wp2
  rw [← hW]
  have HH := Lib.hid (And.intro h1 h2)
  clear hW h1' h2' h1 h2
  go_loopw [16] (fun v wr => ∃ k : Nat, k ≤ 2 ∧ v = .int .i64 k ∧ NewI w most k wr) (fun v _ => 3 - (intOf v).toNat)
  case atStart => exact ⟨0, by omega, rfl, hi0⟩
  case round =>
    obtain ⟨k, hk, rfl, hI⟩ := hrel
    rcases (by omega : k = 0 ∨ k = 1 ∨ k = 2) with rfl | rfl | rfl
    · have HI := Lib.hid hI
      clear hI hk
      go_wp2_with fail
      refine wp_region_E (Below w.heap.size) (by kernel_rfl) (fun wd hbd hsz => ?_)
      have HBD := Lib.hid hbd
      have hs0 := HI.out.1.size
      have hsd := hbd.size
      clear hsz
      (refine takeE (belowTr w.heap.size) 0 (by simp only [List.getElem?_toArray, List.getElem?_cons_succ, List.getElem?_cons_zero]; rfl) (by kernel_rfl) (by kernel_rfl) (by kernel_rfl) (by exact fun _ _ _ h => h) (by first | (refine Or.inl ⟨by rfl, ?_⟩; intro W hW; go_simp; try with_reducible rfl) | exact Or.inr ⟨by rfl, rfl⟩) ?_; try simp only [Act.put, List.setIfInBounds_toArray, List.set_cons_zero, List.set_cons_succ])
      (refine takeE (belowTr w.heap.size) 1 (by simp only [List.getElem?_toArray, List.getElem?_cons_succ, List.getElem?_cons_zero]; rfl) (by kernel_rfl) (by kernel_rfl) (by kernel_rfl) (by exact fun _ _ _ h => h) (by first | (refine Or.inl ⟨by rfl, ?_⟩; intro W hW; go_simp; try with_reducible rfl) | exact Or.inr ⟨by rfl, rfl⟩) ?_; try simp only [Act.put, List.setIfInBounds_toArray, List.set_cons_zero, List.set_cons_succ])
      (refine takeE (belowTr w.heap.size) 2 (by simp only [List.getElem?_toArray, List.getElem?_cons_succ, List.getElem?_cons_zero]; rfl) (by kernel_rfl) (by kernel_rfl) (by kernel_rfl) (by exact fun _ _ _ h => h) (by first | (refine Or.inl ⟨by rfl, ?_⟩; intro W hW; go_simp; try with_reducible rfl) | exact Or.inr ⟨by rfl, rfl⟩) ?_; try simp only [Act.put, List.setIfInBounds_toArray, List.set_cons_zero, List.set_cons_succ])
      (refine takeE (belowTr w.heap.size) 7 (by simp only [List.getElem?_toArray, List.getElem?_cons_succ, List.getElem?_cons_zero]; rfl) (by kernel_rfl) (by kernel_rfl) (by kernel_rfl) (by exact fun _ _ _ h => h) (by first | (refine Or.inl ⟨by rfl, ?_⟩; intro W hW; go_simp; try with_reducible rfl) | exact Or.inr ⟨by rfl, rfl⟩) ?_; try simp only [Act.put, List.setIfInBounds_toArray, List.set_cons_zero, List.set_cons_succ])
      (refine takeE (belowTr w.heap.size) 8 (by simp only [List.getElem?_toArray, List.getElem?_cons_succ, List.getElem?_cons_zero]; rfl) (by kernel_rfl) (by kernel_rfl) (by kernel_rfl) (by exact fun _ _ _ h => h) (by first | (refine Or.inl ⟨by rfl, ?_⟩; intro W hW; go_simp; try with_reducible rfl) | exact Or.inr ⟨by rfl, rfl⟩) ?_; try simp only [Act.put, List.setIfInBounds_toArray, List.set_cons_zero, List.set_cons_succ])
      refine wpAnyE_one (i := 3) (by kernel_rfl) (by simp only [List.getElem?_toArray, List.getElem?_cons_succ, List.getElem?_cons_zero]; rfl) (fun K hK => ?_)
      go_simp
      refine (HN.out _).mono ?_
      rintro en w2 ⟨rfl, hq, hb2⟩
      obtain ⟨b1, b2, P0, P1, b3, b4, b5, b6⟩ := HI.out
      obtain ⟨rfl, rfl⟩ := b4 rfl
      have hbw := HBD.out.trans (hb2.mono HBD.out.size)
      replace b1 := b1.trans (hbw.mono b1.size)
      replace b2 := b2.below hbw
      replace b3 := b3.below hbw
      have HQ := Lib.hid hq
      have HB2 := Lib.hid hb2
      have cc := b3.cell 2 rfl
      have fr2 := b3.free 2
      have HB3 := Lib.hid (And.intro b1 (And.intro b2 (And.intro b3 trivial)))
      clear hq hb2 b1 b2 b3 b4 b5 b6 hbw
      refine hK.out _ _ (HB2.out.mono (by omega)) ?_
      clear hK K
      try simp only [Act.put, List.setIfInBounds_toArray, List.set_cons_zero, List.set_cons_succ]
      (refine takeE (belowTr w.heap.size) 4 (by simp only [List.getElem?_toArray, List.getElem?_cons_succ, List.getElem?_cons_zero]; rfl) (by kernel_rfl) (by kernel_rfl) (by kernel_rfl) (by exact fun _ _ _ h => h) (by first | (refine Or.inl ⟨by rfl, ?_⟩; intro W hW; go_simp; try with_reducible rfl) | exact Or.inr ⟨by rfl, rfl⟩) ?_; try simp only [Act.put, List.setIfInBounds_toArray, List.set_cons_zero, List.set_cons_succ])
      (refine takeE (belowTr w.heap.size) 5 (by simp only [List.getElem?_toArray, List.getElem?_cons_succ, List.getElem?_cons_zero]; rfl) (by kernel_rfl) (by kernel_rfl) (by kernel_rfl) (by exact fun _ _ _ h => h) (by first | (refine Or.inl ⟨by rfl, ?_⟩; intro W hW; go_simp; try with_reducible rfl) | exact Or.inr ⟨by rfl, rfl⟩) ?_; try simp only [Act.put, List.setIfInBounds_toArray, List.set_cons_zero, List.set_cons_succ])
      (refine takeE (belowTr w.heap.size) 6 (by simp only [List.getElem?_toArray, List.getElem?_cons_succ, List.getElem?_cons_zero]; rfl) (by kernel_rfl) (by kernel_rfl) (by kernel_rfl) (by exact fun _ _ _ h => h) (by first | (refine Or.inl ⟨by rfl, ?_⟩; intro W hW; go_simp; try with_reducible rfl) | exact Or.inr ⟨by rfl, rfl⟩) ?_; try simp only [Act.put, List.setIfInBounds_toArray, List.set_cons_zero, List.set_cons_succ])
      (refine takeE (belowTr w.heap.size) 9 (by simp only [List.getElem?_toArray, List.getElem?_cons_succ, List.getElem?_cons_zero]; rfl) (by kernel_rfl) (by kernel_rfl) (by kernel_rfl) (by exact fun _ _ _ h => h) (by first | (refine Or.inl ⟨by rfl, ?_⟩; intro W hW; go_simp; try with_reducible rfl) | exact Or.inr ⟨by rfl, rfl⟩) ?_; try simp only [Act.put, List.setIfInBounds_toArray, List.set_cons_zero, List.set_cons_succ])
      refine wpAnyE_one (i := 10) (by kernel_rfl) (by simp only [List.getElem?_toArray, List.getElem?_cons_succ, List.getElem?_cons_zero]; rfl) (fun K hK => ?_)
      go_simp
      skip
      refine hK.out _ _ (Below.setCell (Below.refl _ _) (p := ⟨w.heap.size + 1, 2, none⟩) (by show w.heap.size ≤ w.heap.size + 1; omega) _) ?_
      clear hK K
      try simp only [Act.put, List.setIfInBounds_toArray, List.set_cons_zero, List.set_cons_succ]
      refine wpAnyE_done (by kernel_rfl) ?_ _
      have HI3 : Hid (NewI w most 1 (w2.setCell ⟨w.heap.size + 1, 2, none⟩ (.pointer (some ⟨wd.heap.size, 0, none⟩)))) := Lib.hid (by
        obtain ⟨b1, b2, b3, _⟩ := HB3.out
        have hst := St.setCell (F := (· = w.heap.size + 1)) w2 (a := ⟨w.heap.size + 1, 2, none⟩) rfl (.pointer (some ⟨wd.heap.size, 0, none⟩))
        have hl := (HI.out.2.2).choose_spec.choose_spec.1.lt
        refine ⟨b1.setCell (by simp) _, b2.st hst (by omega), _, _, b3.set 2 _, fun e => by omega, fun _ => ⟨rfl, _, rfl, by omega, HQ.out.st hst (by rintro k rfl; omega)⟩, fun e => by omega⟩)
      generalize w2.setCell ⟨w.heap.size + 1, 2, none⟩ (.pointer (some ⟨wd.heap.size, 0, none⟩)) = W3 at *
      go_wp2
      go_roundw
      case rel => exact ⟨1, by omega, by go_num, HI3.out⟩
      case measure => simp [intOf]
    · have HI := Lib.hid hI
      clear hI hk
      go_wp2_with fail
      refine wp_region_E (Below w.heap.size) (by kernel_rfl) (fun wd hbd hsz => ?_)
      have HBD := Lib.hid hbd
      have hs0 := HI.out.1.size
      have hsd := hbd.size
      clear hsz
      (refine takeE (belowTr w.heap.size) 0 (by simp only [List.getElem?_toArray, List.getElem?_cons_succ, List.getElem?_cons_zero]; rfl) (by kernel_rfl) (by kernel_rfl) (by kernel_rfl) (by exact fun _ _ _ h => h) (by first | (refine Or.inl ⟨by rfl, ?_⟩; intro W hW; go_simp; try with_reducible rfl) | exact Or.inr ⟨by rfl, rfl⟩) ?_; try simp only [Act.put, List.setIfInBounds_toArray, List.set_cons_zero, List.set_cons_succ])
      (refine takeE (belowTr w.heap.size) 1 (by simp only [List.getElem?_toArray, List.getElem?_cons_succ, List.getElem?_cons_zero]; rfl) (by kernel_rfl) (by kernel_rfl) (by kernel_rfl) (by exact fun _ _ _ h => h) (by first | (refine Or.inl ⟨by rfl, ?_⟩; intro W hW; go_simp; try with_reducible rfl) | exact Or.inr ⟨by rfl, rfl⟩) ?_; try simp only [Act.put, List.setIfInBounds_toArray, List.set_cons_zero, List.set_cons_succ])
      (refine takeE (belowTr w.heap.size) 2 (by simp only [List.getElem?_toArray, List.getElem?_cons_succ, List.getElem?_cons_zero]; rfl) (by kernel_rfl) (by kernel_rfl) (by kernel_rfl) (by exact fun _ _ _ h => h) (by first | (refine Or.inl ⟨by rfl, ?_⟩; intro W hW; go_simp; try with_reducible rfl) | exact Or.inr ⟨by rfl, rfl⟩) ?_; try simp only [Act.put, List.setIfInBounds_toArray, List.set_cons_zero, List.set_cons_succ])
      (refine takeE (belowTr w.heap.size) 7 (by simp only [List.getElem?_toArray, List.getElem?_cons_succ, List.getElem?_cons_zero]; rfl) (by kernel_rfl) (by kernel_rfl) (by kernel_rfl) (by exact fun _ _ _ h => h) (by first | (refine Or.inl ⟨by rfl, ?_⟩; intro W hW; go_simp; try with_reducible rfl) | exact Or.inr ⟨by rfl, rfl⟩) ?_; try simp only [Act.put, List.setIfInBounds_toArray, List.set_cons_zero, List.set_cons_succ])
      (refine takeE (belowTr w.heap.size) 8 (by simp only [List.getElem?_toArray, List.getElem?_cons_succ, List.getElem?_cons_zero]; rfl) (by kernel_rfl) (by kernel_rfl) (by kernel_rfl) (by exact fun _ _ _ h => h) (by first | (refine Or.inl ⟨by rfl, ?_⟩; intro W hW; go_simp; try with_reducible rfl) | exact Or.inr ⟨by rfl, rfl⟩) ?_; try simp only [Act.put, List.setIfInBounds_toArray, List.set_cons_zero, List.set_cons_succ])
      refine wpAnyE_one (i := 3) (by kernel_rfl) (by simp only [List.getElem?_toArray, List.getElem?_cons_succ, List.getElem?_cons_zero]; rfl) (fun K hK => ?_)
      go_simp
      refine (HN.out _).mono ?_
      rintro en w2 ⟨rfl, hq, hb2⟩
      obtain ⟨b1, b2, P0, P1, b3, b4, b5, b6⟩ := HI.out
      obtain ⟨rfl, p0, rfl, l0, s0⟩ := b5 rfl
      have hl0 := s0.lt
      have hbw := HBD.out.trans (hb2.mono HBD.out.size)
      replace b1 := b1.trans (hbw.mono b1.size)
      replace b2 := b2.below hbw
      replace b3 := b3.below hbw
      have HQ := Lib.hid hq
      have HB2 := Lib.hid hb2
      have cc := b3.cell 3 rfl
      have fr3 := b3.free 3
      have HB3 := Lib.hid (And.intro b1 (And.intro b2 (And.intro b3 (And.intro l0 (And.intro hl0 (s0.below hbw))))))
      clear hq hb2 b1 b2 b3 b4 b5 b6 hbw
      refine hK.out _ _ (HB2.out.mono (by omega)) ?_
      clear hK K
      try simp only [Act.put, List.setIfInBounds_toArray, List.set_cons_zero, List.set_cons_succ]
      (refine takeE (belowTr w.heap.size) 4 (by simp only [List.getElem?_toArray, List.getElem?_cons_succ, List.getElem?_cons_zero]; rfl) (by kernel_rfl) (by kernel_rfl) (by kernel_rfl) (by exact fun _ _ _ h => h) (by first | (refine Or.inl ⟨by rfl, ?_⟩; intro W hW; go_simp; try with_reducible rfl) | exact Or.inr ⟨by rfl, rfl⟩) ?_; try simp only [Act.put, List.setIfInBounds_toArray, List.set_cons_zero, List.set_cons_succ])
      (refine takeE (belowTr w.heap.size) 5 (by simp only [List.getElem?_toArray, List.getElem?_cons_succ, List.getElem?_cons_zero]; rfl) (by kernel_rfl) (by kernel_rfl) (by kernel_rfl) (by exact fun _ _ _ h => h) (by first | (refine Or.inl ⟨by rfl, ?_⟩; intro W hW; go_simp; try with_reducible rfl) | exact Or.inr ⟨by rfl, rfl⟩) ?_; try simp only [Act.put, List.setIfInBounds_toArray, List.set_cons_zero, List.set_cons_succ])
      (refine takeE (belowTr w.heap.size) 6 (by simp only [List.getElem?_toArray, List.getElem?_cons_succ, List.getElem?_cons_zero]; rfl) (by kernel_rfl) (by kernel_rfl) (by kernel_rfl) (by exact fun _ _ _ h => h) (by first | (refine Or.inl ⟨by rfl, ?_⟩; intro W hW; go_simp; try with_reducible rfl) | exact Or.inr ⟨by rfl, rfl⟩) ?_; try simp only [Act.put, List.setIfInBounds_toArray, List.set_cons_zero, List.set_cons_succ])
      (refine takeE (belowTr w.heap.size) 9 (by simp only [List.getElem?_toArray, List.getElem?_cons_succ, List.getElem?_cons_zero]; rfl) (by kernel_rfl) (by kernel_rfl) (by kernel_rfl) (by exact fun _ _ _ h => h) (by first | (refine Or.inl ⟨by rfl, ?_⟩; intro W hW; go_simp; try with_reducible rfl) | exact Or.inr ⟨by rfl, rfl⟩) ?_; try simp only [Act.put, List.setIfInBounds_toArray, List.set_cons_zero, List.set_cons_succ])
      refine wpAnyE_one (i := 10) (by kernel_rfl) (by simp only [List.getElem?_toArray, List.getElem?_cons_succ, List.getElem?_cons_zero]; rfl) (fun K hK => ?_)
      go_simp
      skip
      refine hK.out _ _ (Below.setCell (Below.refl _ _) (p := ⟨w.heap.size + 1, 3, none⟩) (by show w.heap.size ≤ w.heap.size + 1; omega) _) ?_
      clear hK K
      try simp only [Act.put, List.setIfInBounds_toArray, List.set_cons_zero, List.set_cons_succ]
      refine wpAnyE_done (by kernel_rfl) ?_ _
      have HI3 : Hid (NewI w most 2 (w2.setCell ⟨w.heap.size + 1, 3, none⟩ (.pointer (some ⟨wd.heap.size, 0, none⟩)))) := Lib.hid (by
        obtain ⟨b1, b2, b3, l0, hl0, s0⟩ := HB3.out
        have hst := St.setCell (F := (· = w.heap.size + 1)) w2 (a := ⟨w.heap.size + 1, 3, none⟩) rfl (.pointer (some ⟨wd.heap.size, 0, none⟩))
        exact ⟨b1.setCell (by simp) _, b2.st hst (by omega), _, _, b3.set 3 _, fun e => by omega, fun e => by omega, fun _ => ⟨p0, _, rfl, rfl, l0, by omega, s0.st hst (by rintro k rfl; omega), HQ.out.st hst (by rintro k rfl; omega)⟩⟩)
      generalize w2.setCell ⟨w.heap.size + 1, 3, none⟩ (.pointer (some ⟨wd.heap.size, 0, none⟩)) = W3 at *
      go_wp2
      go_roundw
      case rel => exact ⟨2, by omega, by go_num, HI3.out⟩
      case measure => simp [intOf]
    · obtain ⟨b1, b2, P0, P1, b3, b4, b5, b6⟩ := hI
      obtain ⟨p0, p1, rfl, rfl, l1, l2, s0, s1⟩ := b6 rfl
      clear b4 b5 b6
      have HR := Lib.hid (And.intro b1 (And.intro b2 (And.intro b3 (And.intro s0 s1))))
      have hlt := b3.lt
      clear b1 b2 b3 s0 s1
      go_wp2
      go_ret2
      refine ⟨rfl, ⟨fun k => w.heap.size ≤ k ∧ k < wr.heap.size, ⟨w.heap.size, p0, p1, (· = p0), (· = p1), ⟨HH.out, ⟨by omega, hlt⟩, ⟨by omega, by omega⟩, by omega, HR.out.2.2.1, HR.out.2.1, HR.out.2.2.2.1, HR.out.2.2.2.2, ?_, ?_, fun k hk => hk.2⟩⟩, fun k hk => hk.1⟩, HR.out.1⟩
      · rintro k rfl
        have := HR.out.2.2.2.1.lt
        exact ⟨⟨by omega, this⟩, by omega, by omega, by omega⟩
      · rintro k rfl
        have := HR.out.2.2.2.2.lt
        exact ⟨⟨by omega, this⟩, by omega, by omega⟩
end
end Go.Proofs.Ytdldocbfnjbhmaa
