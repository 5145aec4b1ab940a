/- Tick, New, Fork; the document's boxes. -/
import Derived.Test.YtpcjmkphdannfaaT1
set_option linter.unusedSimpArgs false
set_option linter.unusedVariables false
namespace Go.Proofs.Ytpcjmkphdannfaa
open Go.RowKit Go.Shelf
section
variable {w w' : World} {g : Nat} {m : Tm}
set_option maxHeartbeats 1000000 in
theorem t_tick (h : TmC w g m) : Calls Try.prog 17 #[.pointer (some ⟨g, 0, none⟩)] w fun e w' => e = .returned (.bool m.fires) ∧ Did w g m.tick w' := by
  have HR := Lib.hid (t_running h)
  have H := Lib.hid h
  have hl0 := h.2.l0
  have hl1 := h.2.lc
  have hcm := h.2.cm
  by_cases hl : m.l = 0
  · have HV : Hid (m.tick = m ∧ m.fires = false ∧ decide (0 < m.l) = false) := Lib.hid ⟨if_pos hl, by unfold Tm.fires; simp; omega, by simp; omega⟩
    clear h hl hl0 hl1 hcm
    rw [HV.out.1]
    go_enter Try.func17, Try.ntmps17
    go_wp2_with (go_at_call 20; refine HR.out.mono ?_; rintro e w' ⟨rfl, rfl⟩; rw [HV.out.2.2])
    go_ret
    exact ⟨by rw [HV.out.2.1]; rfl, Did.same H.out⟩
  · have HV : Hid (decide (0 < m.l) = true) := Lib.hid (by simp; omega)
    by_cases hl2 : m.l = 1
    · have HV2 : Hid (m.fires = true) := Lib.hid (by unfold Tm.fires; rw [hl2]; rfl)
      have hok := Tm.tick_ok h.2
      have ht : m.tick = ⟨m.b, m.c, nxt m.c m.w, nxt m.c m.w⟩ := by unfold Tm.tick; rw [if_neg hl, if_pos hl2]
      rw [ht] at hok ⊢
      have c3 := h.1.cell 3 rfl
      rw [hl2] at c3
      have f3 := h.1.free 3
      have hD0 : Did w g ⟨m.b, m.c, m.w, 0⟩ (w.setCell ⟨g, 3, none⟩ (.int .i64 0)) := Did.box h 3 (.int .i64 0) rfl ⟨h.2.b0, h.2.bc, h.2.cm, h.2.w0, h.2.wc, by show (0:Int) ≤ 0; omega, by show (0:Int) ≤ m.c; have := h.2.b0; have := h.2.bc; omega⟩
      have c3' := hD0.1.1.cell 3 rfl
      have HD := Lib.hid hD0
      have HOK := Lib.hid hok
      have HB := Lib.hid h.2
      clear h hl hl2 hl0 hl1 hcm hD0 ht hok
      go_enter Try.func17, Try.ntmps17
      go_wp2_with (go_at_call 20; refine HR.out.mono ?_; rintro e w' ⟨rfl, rfl⟩; rw [HV.out])
      generalize hW1 : w.setCell ⟨g, 3, none⟩ (.int .i64 0) = W1 at *
      refine wp_region_L Ext [12] (by kernel_rfl) (fun wd hbd hsz => ?_)
      have HT := Lib.hid (HD.out.next hbd)
      have q2 : ∀ W, Ext wd W → W.cell? ⟨g, 2, none⟩ = some (.int .i64 m.w) := fun W hW => (HT.out.1.1.below hW).cell 2 rfl
      clear hsz
      (refine takeL Ext.tr 0 (by simp only [List.getElem?_toArray, List.getElem?_cons_succ, List.getElem?_cons_zero]; rfl) (by kernel_rfl) (by kernel_rfl) (by kernel_rfl) (by kernel_rfl) (by exact fun _ _ _ h => h) (by first | (refine Or.inl ⟨by rfl, ?_⟩; intro W hW; go_simp; try with_reducible rfl) | exact Or.inr ⟨by rfl, rfl⟩) ?_; try simp only [Act.put, List.setIfInBounds_toArray, List.set_cons_zero, List.set_cons_succ])
      (refine takeL Ext.tr 1 (by simp only [List.getElem?_toArray, List.getElem?_cons_succ, List.getElem?_cons_zero]; rfl) (by kernel_rfl) (by kernel_rfl) (by kernel_rfl) (by kernel_rfl) (by exact fun _ _ _ h => h) (by first | (refine Or.inl ⟨by rfl, ?_⟩; intro W hW; go_simp; try with_reducible rfl) | exact Or.inr ⟨by rfl, rfl⟩) ?_; try simp only [Act.put, List.setIfInBounds_toArray, List.set_cons_zero, List.set_cons_succ])
      (refine takeL Ext.tr 5 (by simp only [List.getElem?_toArray, List.getElem?_cons_succ, List.getElem?_cons_zero]; rfl) (by kernel_rfl) (by kernel_rfl) (by kernel_rfl) (by kernel_rfl) (by exact fun _ _ _ h => h) (by first | (refine Or.inl ⟨by rfl, ?_⟩; intro W hW; go_simp; try with_reducible rfl) | exact Or.inr ⟨by rfl, rfl⟩) ?_; try simp only [Act.put, List.setIfInBounds_toArray, List.set_cons_zero, List.set_cons_succ])
      (refine takeL Ext.tr 2 (by simp only [List.getElem?_toArray, List.getElem?_cons_succ, List.getElem?_cons_zero]; rfl) (by kernel_rfl) (by kernel_rfl) (by kernel_rfl) (by kernel_rfl) (by exact fun _ _ _ h => h) (by first | (refine Or.inl ⟨by rfl, ?_⟩; intro W hW; go_simp; try with_reducible rfl) | exact Or.inr ⟨by rfl, rfl⟩) ?_; try simp only [Act.put, List.setIfInBounds_toArray, List.set_cons_zero, List.set_cons_succ])
      (refine takeL Ext.tr 6 (by simp only [List.getElem?_toArray, List.getElem?_cons_succ, List.getElem?_cons_zero]; rfl) (by kernel_rfl) (by kernel_rfl) (by kernel_rfl) (by kernel_rfl) (by exact fun _ _ _ h => h) (by first | (refine Or.inl ⟨by rfl, ?_⟩; intro W hW; go_simp; try with_reducible rfl) | exact Or.inr ⟨by rfl, rfl⟩) ?_; try simp only [Act.put, List.setIfInBounds_toArray, List.set_cons_zero, List.set_cons_succ])
      (refine takeL Ext.tr 3 (by simp only [List.getElem?_toArray, List.getElem?_cons_succ, List.getElem?_cons_zero]; rfl) (by kernel_rfl) (by kernel_rfl) (by kernel_rfl) (by kernel_rfl) (by exact fun _ _ _ h => h) (by first | (refine Or.inl ⟨by rfl, ?_⟩; intro W hW; go_simp; try with_reducible rfl) | exact Or.inr ⟨by rfl, rfl⟩) ?_; try simp only [Act.put, List.setIfInBounds_toArray, List.set_cons_zero, List.set_cons_succ])
      (refine takeL Ext.tr 7 (by simp only [List.getElem?_toArray, List.getElem?_cons_succ, List.getElem?_cons_zero]; rfl) (by kernel_rfl) (by kernel_rfl) (by kernel_rfl) (by kernel_rfl) (by exact fun _ _ _ h => h) (by first | (refine Or.inl ⟨by rfl, ?_⟩; intro W hW; go_simp; try with_reducible rfl) | exact Or.inr ⟨by rfl, rfl⟩) ?_; try simp only [Act.put, List.setIfInBounds_toArray, List.set_cons_zero, List.set_cons_succ])
      (refine takeL Ext.tr 4 (by simp only [List.getElem?_toArray, List.getElem?_cons_succ, List.getElem?_cons_zero]; rfl) (by kernel_rfl) (by kernel_rfl) (by kernel_rfl) (by kernel_rfl) (by exact fun _ _ _ h => h) (by first | (refine Or.inl ⟨by rfl, ?_⟩; intro W hW; exact exec_load_bk rowM (.tmp 21) rfl g 0 rfl (HT.out.1.1.below hW) [.int .i64 m.b, .int .i64 m.c] rfl rfl) | exact Or.inr ⟨by rfl, rfl⟩) ?_; try simp only [Act.put, List.setIfInBounds_toArray, List.set_cons_zero, List.set_cons_succ])
      (refine takeL Ext.tr 8 (by simp only [List.getElem?_toArray, List.getElem?_cons_succ, List.getElem?_cons_zero]; rfl) (by kernel_rfl) (by kernel_rfl) (by kernel_rfl) (by kernel_rfl) (by exact fun _ _ _ h => h) (by first | (refine Or.inl ⟨by rfl, ?_⟩; intro W hW; go_simp; try with_reducible rfl) | exact Or.inr ⟨by rfl, rfl⟩) ?_; try simp only [Act.put, List.setIfInBounds_toArray, List.set_cons_zero, List.set_cons_succ])
      refine wpAnyL_one (i := 9) (by kernel_rfl) (by simp only [List.getElem?_toArray, List.getElem?_cons_succ, List.getElem?_cons_zero]; rfl) (fun K hK => ?_)
      go_simp
      refine (m_next m.b HB.out.w0 (by have := HB.out.wc; have := HB.out.cm; omega) (by have := HB.out.bc; have := HB.out.b0; omega) HB.out.cm _).mono ?_
      rintro en w2 ⟨rfl, hE2⟩
      have HT2 := Lib.hid (HT.out.next hE2)
      have hE3 := hE2
      have c2 := HT2.out.1.1.cell 2 rfl
      have f2 := HT2.out.1.1.free 2
      clear hE2
      refine hK.out _ _ (.inr hE3) ?_
      clear hK K
      try simp only [Act.put, List.setIfInBounds_toArray, List.set_cons_zero, List.set_cons_succ]
      (refine takeL Ext.tr 10 (by simp only [List.getElem?_toArray, List.getElem?_cons_succ, List.getElem?_cons_zero]; rfl) (by kernel_rfl) (by kernel_rfl) (by kernel_rfl) (by kernel_rfl) (by exact fun _ _ _ h => h) (by first | (refine Or.inl ⟨by rfl, ?_⟩; intro W hW; go_simp; try with_reducible rfl) | exact Or.inr ⟨by rfl, rfl⟩) ?_; try simp only [Act.put, List.setIfInBounds_toArray, List.set_cons_zero, List.set_cons_succ])
      (refine takeL Ext.tr 11 (by simp only [List.getElem?_toArray, List.getElem?_cons_succ, List.getElem?_cons_zero]; rfl) (by kernel_rfl) (by kernel_rfl) (by kernel_rfl) (by kernel_rfl) (by exact fun _ _ _ h => h) (by first | (refine Or.inl ⟨by rfl, ?_⟩; intro W hW; go_simp; try with_reducible rfl) | exact Or.inr ⟨by rfl, rfl⟩) ?_; try simp only [Act.put, List.setIfInBounds_toArray, List.set_cons_zero, List.set_cons_succ])
      refine wpAnyL_one (i := 12) (by kernel_rfl) (by simp only [List.getElem?_toArray, List.getElem?_cons_succ, List.getElem?_cons_zero]; rfl) (fun K hK => ?_)
      go_simp
      have HT3 := Lib.hid (HT2.out.trans (Did.box HT2.out.1 2 (.int .i64 (nxt m.c m.w)) (m' := ⟨m.b, m.c, nxt m.c m.w, 0⟩) rfl ⟨HB.out.b0, HB.out.bc, HB.out.cm, HOK.out.w0, HOK.out.wc, by show (0:Int) ≤ 0; omega, by show (0:Int) ≤ m.c; have := HB.out.b0; have := HB.out.bc; omega⟩))
      refine hK.out _ _ (.inl (by decide)) ?_
      clear hK K
      try simp only [Act.put, List.setIfInBounds_toArray, List.set_cons_zero, List.set_cons_succ]
      refine wpAnyL_done (by kernel_rfl) ?_ _
      clear q2 c2 f2
      generalize w2.setCell ⟨g, 2, none⟩ (.int .i64 (nxt m.c m.w)) = W3 at *
      have d2 := HT3.out.1.1.cell 2 rfl
      have d3 := HT3.out.1.1.cell 3 rfl
      have e3 := HT3.out.1.1.free 3
      have HD4 := Lib.hid (HT3.out.trans (Did.box HT3.out.1 3 (.int .i64 (nxt m.c m.w)) (m' := ⟨m.b, m.c, nxt m.c m.w, nxt m.c m.w⟩) rfl HOK.out))
      go_wp2
      go_ret
      exact ⟨by rw [HV2.out]; rfl, HD4.out⟩
    · have HV2 : Hid (m.fires = false) := Lib.hid (by unfold Tm.fires; simp; omega)
      have hok := Tm.tick_ok h.2
      have ht : m.tick = ⟨m.b, m.c, m.w, m.l - 1⟩ := by unfold Tm.tick; rw [if_neg hl, if_neg hl2]
      rw [ht] at hok ⊢
      have c3 := h.1.cell 3 rfl
      have f3 := h.1.free 3
      have hD0 := Did.box h 3 (.int .i64 (m.l - 1)) (m' := ⟨m.b, m.c, m.w, m.l - 1⟩) rfl hok
      have c3' := hD0.1.1.cell 3 rfl
      have hp : 0 < m.l - 1 := by omega
      have HD := Lib.hid hD0
      clear h hD0 ht hok hl hl2
      go_enter Try.func17, Try.ntmps17
      go_wp2_with (go_at_call 20; refine HR.out.mono ?_; rintro e w' ⟨rfl, rfl⟩; rw [HV.out])
      go_ret
      exact ⟨by rw [HV2.out]; rfl, HD.out⟩
theorem t_new_no {b c : Int} (h : fitT b c = false) (w : World) : Calls Try.prog 6 #[.int .i64 b, .int .i64 c] w fun e w' => e = .returned (.tuple #[.pointer none, .int .i64 150]) ∧ Below w.heap.size w w' := by
  have hz := Bk.new w 46 [.int .i64 b, .int .i64 c]
  have hba := (Below.refl w.heap.size w).alloc (Nat.le_refl _) (.cells #[.int .i64 b, .int .i64 c] 46)
  have HH := Lib.hid (m_hold b c (w.alloc (.cells #[.int .i64 b, .int .i64 c] 46)))
  have HB := Lib.hid hba
  clear hba
  go_enter Try.func6, Try.ntmps6
  go_wp2_with (first
    | (with_reducible refine at_load 46 (.tmp 6) (by rfl) ?_
       refine wpList_load_bk rowM rfl (.tmp 6) rfl w.heap.size 0 rfl hz [.int .i64 b, .int .i64 c] rfl rfl ?_)
    | (go_at_call 22; refine HH.out.mono ?_; rintro e w1 ⟨rfl, hb⟩; rw [h]
       have HB1 := Lib.hid hb
       clear hb))
  go_ret2
  exact ⟨rfl, below_on HB.out HB1.out⟩
theorem t_new {b c : Int} (h : fitT b c = true) (w : World) : Calls Try.prog 6 #[.int .i64 b, .int .i64 c] w fun e w' => ∃ g, e = .returned (.tuple #[.pointer (some ⟨g, 0, none⟩), .int .i64 0]) ∧ TmC w' g (.new b c) ∧ w.heap.size ≤ g ∧ Below w.heap.size w w' := by
  have hz := Bk.new w 46 [.int .i64 b, .int .i64 c]
  have hba := (Below.refl w.heap.size w).alloc (Nat.le_refl _) (.cells #[.int .i64 b, .int .i64 c] 46)
  have HH := Lib.hid (m_hold b c (w.alloc (.cells #[.int .i64 b, .int .i64 c] 46)))
  have HB := Lib.hid hba
  have HOK := Lib.hid (Tm.new_ok h)
  clear hba
  go_enter Try.func6, Try.ntmps6
  go_wp2_with (first
    | (with_reducible refine at_load 46 (.tmp 6) (by rfl) ?_
       refine wpList_load_bk rowM rfl (.tmp 6) rfl w.heap.size 0 rfl hz [.int .i64 b, .int .i64 c] rfl rfl ?_)
    | (go_at_call 22; refine HH.out.mono ?_; rintro e w1 ⟨rfl, hb⟩; rw [h]
       replace hz := hz.below hb
       have HB1 := Lib.hid (below_on HB.out hb)
       clear hb))
  go_ret2
  exact ⟨_, rfl, ⟨Bk.new w1 48 [.int .i64 b, .int .i64 c, .int .i64 b, .int .i64 0], HOK.out⟩, HB1.out.size, below_on HB1.out ((Below.refl _ _).alloc (Nat.le_refl _) _)⟩
theorem t_fork (h : TmC w g m) : Calls Try.prog 15 #[.pointer (some ⟨g, 0, none⟩)] w fun e w' => e = .returned (.pointer (some ⟨w.heap.size, 0, none⟩)) ∧ TmC w' w.heap.size m ∧ Below w.heap.size w w' := by
  have HM := Lib.hid (t_made h)
  have hbk := h.1
  have HO := Lib.hid h.2
  have HQ := Lib.hid (Bk.new w 48 [.int .i64 m.b, .int .i64 m.c, .int .i64 m.w, .int .i64 m.l])
  clear h
  go_enter Try.func15, Try.ntmps15
  go_wp2_with (first
    | (go_at_call 23; refine HM.out.mono ?_; rintro e w' ⟨rfl, rfl⟩)
    | (with_reducible refine at_load 48 (.tmp 8) (by rfl) ?_
       refine wpList_load_bk rowT rfl (.tmp 8) rfl g 0 rfl hbk [.int .i64 m.b, .int .i64 m.c, .int .i64 m.w, .int .i64 m.l] rfl rfl ?_))
  go_ret
  exact ⟨rfl, ⟨HQ.out, HO.out⟩, (Below.refl _ _).alloc (Nat.le_refl _) _⟩
end
end Go.Proofs.Ytpcjmkphdannfaa
