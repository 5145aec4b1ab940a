/- A queue: a piece told; pieces added. -/
import Derived.Test.YtnakoplceplmmaaV7
set_option linter.unusedSimpArgs false
set_option linter.unusedVariables false
namespace Go.Proofs.Ytnakoplceplmmaa
open Go.RowKit Go.Shelf
/-- What Piece tells. -/
def Sm.has (m : Sm) (s : Int) : Bool := decide ((m.lo : Int) ≤ s ∧ s < m.L.length)
def Sm.piece (m : Sm) (s : Int) : Pp := if (m.lo : Int) ≤ s ∧ s < m.L.length then m.L.getD s.toNat ⟨[], false, false⟩ else ⟨[], false, false⟩
/-- A piece told: it says p, its bytes read. -/
def Told (p : Pp) (b : Bool) (w : World) (e : Ending) (w' : World) : Prop :=
  ∃ q : Pc, e = .returned (.tuple #[.agg #[.slice q.A q.n q.c, .bool q.en, .bool q.fn], .bool b]) ∧ q.say = p ∧ Rd .u8 w' q.A q.n q.c q.xs ∧ Below w.heap.size w w'
section
variable {F F' : Nat → Prop} {w w1 w2 w' : World} {g : Nat} {m m' : Sm} {A B : Option Addr} {n c k d : Nat}
set_option maxHeartbeats 4000000 in
theorem q_piece (h : SqC F w g m) (s : Int) : Calls Try.prog 20 #[.pointer (some ⟨g, 0, none⟩), .int .i64 s] w (Told (m.piece s) (m.has s) w) := by
  have HLo : Hid (∀ W, Below w.heap.size w W → Calls Try.prog 26 #[.pointer (some ⟨g, 0, none⟩)] W fun e w' => e = .returned (.int .i64 m.lo) ∧ W = w') := Lib.hid fun W hW => q_low (h.below hW)
  have HTo : Hid (∀ W, Below w.heap.size w W → Calls Try.prog 25 #[.pointer (some ⟨g, 0, none⟩)] W fun e w' => e = .returned (.int .i64 m.L.length) ∧ Below W.heap.size W w') := Lib.hid fun W hW => q_total (h.below hW)
  obtain ⟨A, n, c, B, k, d, h⟩ := h
  have hn := h.hn
  have hbig := h.ok.big
  have hln := h.ok.ln
  have hnl := h.ok.nl
  have hb0 : Below w.heap.size w (w.alloc (.cells #[.slice none 0 0, .bool false, .bool false] 49)) := (Below.refl _ _).alloc (Nat.le_refl _) _
  have z0 := Bk.new w 49 [.slice none 0 0, .bool false, .bool false]
  have HL1 := Lib.hid (HLo.out _ hb0)
  have HT1 := Lib.hid (HTo.out _ hb0)
  by_cases hin : (m.lo : Int) ≤ s ∧ s < m.L.length
  · obtain ⟨h1, h2⟩ := hin
    obtain ⟨s, rfl⟩ : ∃ s' : Nat, s = s' := ⟨s.toNat, by omega⟩
    have hi : s - m.lo < n := by omega
    obtain ⟨p, b, y1, y2, y3⟩ := Sm.zl_at h.ok (i := s) (by omega) (by omega)
    obtain ⟨g1, o, q, rfl, hF, hg1, hra, hbs, hq, hss, hfz⟩ := h.ls.row hi
    have hsay : p = q.pc.say := by
      rw [y1] at hss
      injection hss with hss
      injection hss
    have HV : Hid (m.piece s = q.pc.say ∧ m.has s = true) := Lib.hid ⟨by
      unfold Sm.piece
      rw [if_pos ⟨h1, h2⟩, Int.toNat_natCast, List.getD_eq_getElem?_getD, y2, ← hsay]
      rfl, by simp only [Sm.has, decide_eq_true_eq]; exact ⟨h1, h2⟩⟩
    have e1 : (s : Int) - m.lo = ((s - m.lo : Nat) : Int) := by omega
    have d0 : decide ((s : Int) < m.lo) = false := by simp; omega
    have d1 : decide ((m.L.length : Int) ≤ s) = false := by simp; omega
    have hnb : n ≤ 1000000000 := by omega
    have hgl := h.bk.lt
    have c1 := h.bk.cell 1 rfl
    have c3 := h.bk.cell 3 rfl
    have HRa := Lib.hid hra
    have HBs := Lib.hid hbs
    have h1' : ¬ (s : Int) < m.lo := by omega
    have h2' : ¬ (m.L.length : Int) ≤ s := by omega
    have HB0 := Lib.hid hb0
    clear hra hbs hss hsay y1 y2 y3 hn hln hnl h h1 h2 hfz hb0 hF
    generalize s - m.lo = j at *
    have hi' : (j : Int) < n := by omega
    have hw1 : IntKind.i64.wrap (j : Int) = j := by rw [IntKind.wrap_i64]; omega
    go_enter Try.func20, Try.ntmps20
    go_wp2_with (first
      | (go_at_call 26; refine HL1.out.mono ?_; rintro e w1 ⟨rfl, rfl⟩)
      | (go_at_call 25; refine HT1.out.mono ?_; rintro e w1 ⟨rfl, hb1⟩
         have HB1 := Lib.hid (below_on HB0.out hb1)
         have HZ1 := Lib.hid (z0.below hb1)
         clear hb1))
    refine wp_region_L Ext [14] (by kernel_rfl) (fun wd hbd hsz => ?_)
    have HBD := Lib.hid (below_on HB1.out hbd)
    have q1 : ∀ W, Ext wd W → W.cell? ⟨g, 1, none⟩ = some (.int .i64 m.lo) := fun W hW => ((below_on HBD.out hW).cell (p := ⟨g, 1, none⟩) hgl).trans c1
    have q3 : ∀ W, Ext wd W → W.cell? ⟨g, 3, none⟩ = some (.slice (some ⟨g1, o, none⟩) n c) := fun W hW => ((below_on HBD.out hW).cell (p := ⟨g, 3, none⟩) hgl).trans c3
    have HRd := Lib.hid (HBs.out.1.below HBD.out)
    have HZd := Lib.hid (HZ1.out.below hbd)
    have hrx : ∀ W, Ext wd W → W.rangeAt g1 (o + j * 4) q.pc.cl := fun W hW => range_below (fun i v hv => HRa.out i v (by
      rcases i with _ | _ | _ | i
      · exact hv
      · exact hv
      · exact hv
      · simp [Sc.pc, Pc.cl] at hv)) hg1 (below_on HBD.out hW)
    clear hsz c1 c3
    (refine takeL Ext.tr 0 (by simp only [List.getElem?_toArray, List.getElem?_cons_succ, List.getElem?_cons_zero]; rfl) (by kernel_rfl) (by kernel_rfl) (by kernel_rfl) (by kernel_rfl) (by exact fun _ _ _ h => h) (by first | (refine Or.inl ⟨by rfl, ?_⟩; intro W hW; go_simp; try with_reducible rfl) | exact Or.inr ⟨by rfl, rfl⟩) ?_; try simp only [Act.put, List.setIfInBounds_toArray, List.set_cons_zero, List.set_cons_succ])
    (refine takeL Ext.tr 4 (by simp only [List.getElem?_toArray, List.getElem?_cons_succ, List.getElem?_cons_zero]; rfl) (by kernel_rfl) (by kernel_rfl) (by kernel_rfl) (by kernel_rfl) (by exact fun _ _ _ h => h) (by first | (refine Or.inl ⟨by rfl, ?_⟩; intro W hW; go_simp; try with_reducible rfl) | exact Or.inr ⟨by rfl, rfl⟩) ?_; try simp only [Act.put, List.setIfInBounds_toArray, List.set_cons_zero, List.set_cons_succ])
    (refine takeL Ext.tr 5 (by simp only [List.getElem?_toArray, List.getElem?_cons_succ, List.getElem?_cons_zero]; rfl) (by kernel_rfl) (by kernel_rfl) (by kernel_rfl) (by kernel_rfl) (by exact fun _ _ _ h => h) (by first | (refine Or.inl ⟨by rfl, ?_⟩; intro W hW; go_simp; try with_reducible rfl) | exact Or.inr ⟨by rfl, rfl⟩) ?_; try simp only [Act.put, List.setIfInBounds_toArray, List.set_cons_zero, List.set_cons_succ])
    (refine takeL Ext.tr 1 (by simp only [List.getElem?_toArray, List.getElem?_cons_succ, List.getElem?_cons_zero]; rfl) (by kernel_rfl) (by kernel_rfl) (by kernel_rfl) (by kernel_rfl) (by exact fun _ _ _ h => h) (by first | (refine Or.inl ⟨by rfl, ?_⟩; intro W hW; go_simp; try with_reducible rfl) | exact Or.inr ⟨by rfl, rfl⟩) ?_; try simp only [Act.put, List.setIfInBounds_toArray, List.set_cons_zero, List.set_cons_succ])
    (refine takeL Ext.tr 6 (by simp only [List.getElem?_toArray, List.getElem?_cons_succ, List.getElem?_cons_zero]; rfl) (by kernel_rfl) (by kernel_rfl) (by kernel_rfl) (by kernel_rfl) (by exact fun _ _ _ h => h) (by first | (refine Or.inl ⟨by rfl, ?_⟩; intro W hW; go_simp; try with_reducible rfl) | exact Or.inr ⟨by rfl, rfl⟩) ?_; try simp only [Act.put, List.setIfInBounds_toArray, List.set_cons_zero, List.set_cons_succ])
    (refine takeL Ext.tr 2 (by simp only [List.getElem?_toArray, List.getElem?_cons_succ, List.getElem?_cons_zero]; rfl) (by kernel_rfl) (by kernel_rfl) (by kernel_rfl) (by kernel_rfl) (by exact fun _ _ _ h => h) (by first | (refine Or.inl ⟨by rfl, ?_⟩; intro W hW; go_simp; try with_reducible rfl) | exact Or.inr ⟨by rfl, rfl⟩) ?_; try simp only [Act.put, List.setIfInBounds_toArray, List.set_cons_zero, List.set_cons_succ])
    (refine takeL Ext.tr 7 (by simp only [List.getElem?_toArray, List.getElem?_cons_succ, List.getElem?_cons_zero]; rfl) (by kernel_rfl) (by kernel_rfl) (by kernel_rfl) (by kernel_rfl) (by exact fun _ _ _ h => h) (by first | (refine Or.inl ⟨by rfl, ?_⟩; intro W hW; go_simp; try with_reducible rfl) | exact Or.inr ⟨by rfl, rfl⟩) ?_; try simp only [Act.put, List.setIfInBounds_toArray, List.set_cons_zero, List.set_cons_succ])
    (refine takeL Ext.tr 3 (by simp only [List.getElem?_toArray, List.getElem?_cons_succ, List.getElem?_cons_zero]; rfl) (by kernel_rfl) (by kernel_rfl) (by kernel_rfl) (by kernel_rfl) (by exact fun _ _ _ h => h) (by first | (refine Or.inl ⟨by rfl, ?_⟩; intro W hW; go_simp; try with_reducible rfl) | exact Or.inr ⟨by rfl, rfl⟩) ?_; try simp only [Act.put, List.setIfInBounds_toArray, List.set_cons_zero, List.set_cons_succ])
    (refine takeL Ext.tr 8 (by simp only [List.getElem?_toArray, List.getElem?_cons_succ, List.getElem?_cons_zero]; rfl) (by kernel_rfl) (by kernel_rfl) (by kernel_rfl) (by kernel_rfl) (by exact fun _ _ _ h => h) (by first | (refine Or.inl ⟨by rfl, ?_⟩; intro W hW; go_simp; try with_reducible rfl) | exact Or.inr ⟨by rfl, rfl⟩) ?_; try simp only [Act.put, List.setIfInBounds_toArray, List.set_cons_zero, List.set_cons_succ])
    (refine takeL Ext.tr 9 (by simp only [List.getElem?_toArray, List.getElem?_cons_succ, List.getElem?_cons_zero]; rfl) (by kernel_rfl) (by kernel_rfl) (by kernel_rfl) (by kernel_rfl) (by exact fun _ _ _ h => h) (by first | (refine Or.inl ⟨by rfl, ?_⟩; intro W hW; go_simp; try with_reducible rfl) | exact Or.inr ⟨by rfl, rfl⟩) ?_; try simp only [Act.put, List.setIfInBounds_toArray, List.set_cons_zero, List.set_cons_succ])
    (refine takeL Ext.tr 10 (by simp only [List.getElem?_toArray, List.getElem?_cons_succ, List.getElem?_cons_zero]; rfl) (by kernel_rfl) (by kernel_rfl) (by kernel_rfl) (by kernel_rfl) (by exact fun _ _ _ h => h) (by first | (refine Or.inl ⟨by rfl, ?_⟩; intro W hW; go_simp; try with_reducible rfl) | exact Or.inr ⟨by rfl, rfl⟩) ?_; try simp only [Act.put, List.setIfInBounds_toArray, List.set_cons_zero, List.set_cons_succ])
    (refine takeL Ext.tr 11 (by simp only [List.getElem?_toArray, List.getElem?_cons_succ, List.getElem?_cons_zero]; rfl) (by kernel_rfl) (by kernel_rfl) (by kernel_rfl) (by kernel_rfl) (by exact fun _ _ _ h => h) (by first | (refine Or.inl ⟨by rfl, ?_⟩; intro W hW; go_simp; try with_reducible rfl) | exact Or.inr ⟨by rfl, rfl⟩) ?_; try simp only [Act.put, List.setIfInBounds_toArray, List.set_cons_zero, List.set_cons_succ])
    (refine takeL Ext.tr 12 (by simp only [List.getElem?_toArray, List.getElem?_cons_succ, List.getElem?_cons_zero]; rfl) (by kernel_rfl) (by kernel_rfl) (by kernel_rfl) (by kernel_rfl) (by exact fun _ _ _ h => h) (by first | (refine Or.inl ⟨by rfl, ?_⟩; intro W hW; exact exec_load_mid rowC (.tmp 28) rfl g1 (o + j * 4) rfl q.pc.cl (hrx W hW) rfl) | exact Or.inr ⟨by rfl, rfl⟩) ?_; try simp only [Act.put, List.setIfInBounds_toArray, List.set_cons_zero, List.set_cons_succ])
    refine wpAnyL_one (i := 13) (by kernel_rfl) (by simp only [List.getElem?_toArray, List.getElem?_cons_succ, List.getElem?_cons_zero]; rfl) (fun K hK => ?_)
    go_simp
    refine (c_copied (q := q.pc) HRd.out hq).mono ?_
    rintro e w5 ⟨q', rfl, hsay, hbs5, hn5, hk5, hb5⟩
    have HQ := Lib.hid (And.intro hsay (And.intro hbs5 (And.intro hk5 hb5)))
    have z5 := HZd.out.below hb5
    clear hsay hbs5 hk5
    refine hK.out _ _ (.inr hb5) ?_
    clear hK K
    try simp only [Act.put, List.setIfInBounds_toArray, List.set_cons_zero, List.set_cons_succ]
    refine wpAnyL_one (i := 14) (by kernel_rfl) (by simp only [List.getElem?_toArray, List.getElem?_cons_succ, List.getElem?_cons_zero]; rfl) (fun K hK => ?_)
    refine opwp_store_bk rowC rfl (.tmp 4) (.tmp 30) rfl w.heap.size 0 rfl z5 [.slice q'.A q'.n q'.c, .bool q'.en, .bool q'.fn] rfl rfl (by show 0 + 3 ≤ 3; omega) (by simp [Value.oneCell']) ?_
    intro w6 hz6 hw6
    rw [lay_all _ _ (by rfl)] at hz6
    have HZ9 := Lib.hid hz6
    have HR9 := Lib.hid (HQ.out.2.1.stT (st_wr hw6) (fun i hi => hi ▸ z5.tyd.ne (by decide))).1
    have HB9 : Hid (Below w.heap.size w w6) := Lib.hid (by
      have h5 := below_on HBD.out HQ.out.2.2.2
      exact h5.trans ((st_wr hw6).below h5.size (fun i hi => by omega)))
    clear hz6
    refine hK.out _ _ (.inl (by decide)) ?_
    clear hK K
    try simp only [Act.put, List.setIfInBounds_toArray, List.set_cons_zero, List.set_cons_succ]
    (refine takeL Ext.tr 15 (by simp only [List.getElem?_toArray, List.getElem?_cons_succ, List.getElem?_cons_zero]; rfl) (by kernel_rfl) (by kernel_rfl) (by kernel_rfl) (by kernel_rfl) (by exact fun _ _ _ h => h) (by first | (refine Or.inl ⟨by rfl, ?_⟩; intro W hW; go_simp; try with_reducible rfl) | exact Or.inr ⟨by rfl, rfl⟩) ?_; try simp only [Act.put, List.setIfInBounds_toArray, List.set_cons_zero, List.set_cons_succ])
    refine wpAnyL_done (by kernel_rfl) ?_ _
    clear q1 q3 hrx
    go_wp2
    refine bodyPost_ret (results_cell_tmp rfl rfl (rowC.load HZ9.out 0 (cs := [.slice q'.A q'.n q'.c, .bool q'.en, .bool q'.fn]) rfl rfl)) rfl ?_
    rw [HV.out.1, HV.out.2]
    exact ⟨q', rfl, HQ.out.1, HR9.out, HB9.out⟩
  · have HV : Hid (m.piece s = (⟨[], false, false⟩ : Pp) ∧ m.has s = false) := Lib.hid ⟨by unfold Sm.piece; rw [if_neg hin], by simp only [Sm.has, decide_eq_false_iff_not]; exact hin⟩
    have HB0 := Lib.hid hb0
    have hcase : s < m.lo ∨ (¬ s < m.lo ∧ (m.L.length : Int) ≤ s) := by omega
    clear hin h hb0 hn
    rcases hcase with hc | ⟨hc1, hc2⟩
    · go_enter Try.func20, Try.ntmps20
      go_wp2_with (first
        | (go_at_call 26; refine HL1.out.mono ?_; rintro e w1 ⟨rfl, rfl⟩)
        | (with_reducible refine at_store 49 (.tmp 4) (.tmp 16) (by rfl) ?_
           refine wpList_store_bk rowC rfl (.tmp 4) (.tmp 16) rfl w.heap.size 0 rfl z0 [.slice none 0 0, .bool false, .bool false] rfl rfl (by show 0 + 3 ≤ 3; omega) (by simp [Value.oneCell']) ?_
           intro w3 hz3 hw3))
      rw [lay_all _ _ (by rfl)] at hz3
      refine bodyPost_ret (results_cell_tmp rfl rfl (rowC.load hz3 0 (cs := [.slice none 0 0, .bool false, .bool false]) rfl rfl)) rfl ?_
      rw [HV.out.1, HV.out.2]
      exact ⟨zPc, rfl, rfl, Rd.nil _ _, HB0.out.trans ((st_wr hw3).below HB0.out.size (fun j hj => by omega))⟩
    · go_enter Try.func20, Try.ntmps20
      go_wp2_with (first
        | (go_at_call 26; refine HL1.out.mono ?_; rintro e w1 ⟨rfl, rfl⟩)
        | (go_at_call 25; refine HT1.out.mono ?_; rintro e w1 ⟨rfl, hb1⟩
           have HB1 := Lib.hid (below_on HB0.out hb1)
           have z1 := z0.below hb1
           clear hb1)
        | (with_reducible refine at_store 49 (.tmp 4) (.tmp 16) (by rfl) ?_
           refine wpList_store_bk rowC rfl (.tmp 4) (.tmp 16) rfl w.heap.size 0 rfl z1 [.slice none 0 0, .bool false, .bool false] rfl rfl (by show 0 + 3 ≤ 3; omega) (by simp [Value.oneCell']) ?_
           intro w3 hz3 hw3))
      rw [lay_all _ _ (by rfl)] at hz3
      refine bodyPost_ret (results_cell_tmp rfl rfl (rowC.load hz3 0 (cs := [.slice none 0 0, .bool false, .bool false]) rfl rfl)) rfl ?_
      rw [HV.out.1, HV.out.2]
      exact ⟨zPc, rfl, rfl, Rd.nil _ _, HB1.out.trans ((st_wr hw3).below HB1.out.size (fun j hj => by omega))⟩
end
end Go.Proofs.Ytnakoplceplmmaa
