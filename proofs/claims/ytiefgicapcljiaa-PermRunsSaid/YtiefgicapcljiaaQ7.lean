/- A list of paths: its calls that turn it. -/
import Derived.Test.YtiefgicapcljiaaQ6
set_option linter.unusedSimpArgs false
set_option linter.unusedVariables false
namespace Go.Proofs.Ytiefgicapcljiaa
open Go.RowKit Go.Shelf

/-- The list has become L', and all that was not its own is as it was. -/
def Did (F : Nat → Prop) (p : Nat) (L' : PL) (w w' : World) : Prop := ∃ F', Pm F' w' p L' ∧ St F w w' ∧ Gr F F' w.heap.size
theorem pm_begun {F : Nat → Prop} {w w' : World} {p q : Nat} {L : PL} {A' : Option Addr} {c' : Nat} (hp : F p) (hq : F q) (hF : ∀ k, F k → k < w.heap.size) (hpq : p ≠ q) (hk : Bk w' 56 p (cellsL q (memB L.ps) A' L.ps.length c' (L.rounds + 1) L.told))
    (hs : Src w' q L.s (L.i + (L.ps.length - 1 : Nat))) (hl : Lst 3 (w.heap.size ≤ ·) w' A' L.ps.length c' (intV (shufI L.s L.i L.ps))) (hz : w.heap.size ≤ w'.heap.size) : Pm (fun k => F k ∨ BlkOf A' k) w' p L.begin ∧ Gr F (fun k => F k ∨ BlkOf A' k) w.heap.size := by
  have hge : ∀ k, BlkOf A' k → w.heap.size ≤ k := by
    rintro k ⟨ad, he, rfl⟩
    exact (hl.blk ad he).1
  refine ⟨⟨.inl hp, fun k hk' => ?_, q, A', _, c', hk, hs, hl.tight.mono (fun k hk' => .inr hk'), .inl hq, hpq, fun h => ?_, fun h => ?_⟩, fun k hk' => ?_⟩
  · rcases hk' with h | h
    · have := hF k h; omega
    · exact hl.lt k h
  · have := hge _ h; have := hF p hp; omega
  · have := hge _ h; have := hF q hq; omega
  · rcases hk' with h | h
    · exact .inl h
    · exact .inr (hge k h)
set_option maxRecDepth 100000 in
set_option maxHeartbeats 2000000 in
theorem pm_next (F : Nat → Prop) (w : World) (p : Nat) (L : PL) (b : Int) (h : Pm F w p L) (ho : L.ok b) (hb : b ≤ 100000) :
    Calls Try.prog 14 #[.pointer (some ⟨p, 0, none⟩)] w fun e w' => e = .returned (.int .i64 L.top) ∧ Did F p L.next w w' := by
  obtain ⟨h1, h2, q, A, n, c, h3, h4, h5, h6, h7, h8, h9⟩ := h
  obtain ⟨x, r, hxr⟩ : ∃ x r, L.rest = x :: r := by cases hL : L.rest with | nil => exact absurd hL ho.r1 | cons x r => exact ⟨x, r, rfl⟩
  have hxb := ho.head_bounds
  have HH : Hid (L.top = x) := Lib.hid (by unfold PL.top; rw [hxr]; rfl)
  rw [HH.out] at hxb
  have hstep : L.step = { L with rest := r, told := L.told.set x.toNat (L.told.getD x.toNat 0 + 1) } := by
    unfold PL.step
    rw [HH.out]
    congr 1
    rw [hxr]; rfl
  have HL : Hid (L.next = if r.length = 0 then PL.begin { L with rest := r, told := L.told.set x.toNat (L.told.getD x.toNat 0 + 1) } else { L with rest := r, told := L.told.set x.toNat (L.told.getD x.toNat 0 + 1) }) := Lib.hid (by
    unfold PL.next
    rw [hstep, hxr, List.length_cons]
    simp only [Nat.add_eq_right])
  clear hstep
  obtain ⟨k, rfl⟩ := Int.eq_ofNat_of_zero_le hxb.1
  have hk8 : k < 8 := by omega
  rw [hxr] at h5
  have hn := h5.1
  rw [intV_len, List.length_cons] at hn
  obtain ⟨m, hm⟩ : ∃ m, m = r.length := ⟨_, rfl⟩
  rw [← hm] at hn
  subst hn
  have hc1 := h5.2.1
  obtain ⟨g, o, hA, hg, c0⟩ := h5.rdv.cell (i := 0) (by omega)
  have c0' : w.cell? ⟨g, o, none⟩ = some (.int .i64 k) := c0
  have c9 := h3.cell 9 (cellsL_rest _ _ _ _ _ _ (memB_len _))
  have f9 := h3.free 9
  have H5 := Lib.hid (h5.cut (s := 1) (by omega))
  have hk1 := h3.set 9 (.slice (cutA A c 1) m (c - 1))
  rw [cellsL_set9 _ _ _ _ _ _ (memB_len _)] at hk1
  have HK1 := Lib.hid hk1
  obtain ⟨t, htg⟩ : ∃ t, t = L.told.getD k 0 := ⟨_, rfl⟩
  have htb : 0 ≤ t ∧ t ≤ 100000 := by
    have := ho.t2 L.told[k]! 
    rw [htg, List.getD_eq_getElem?_getD, List.getElem?_eq_getElem (by rw [ho.t1]; exact hk8)]
    have := ho.t2 (L.told[k]'(by rw [ho.t1]; exact hk8)) (List.getElem_mem _)
    simp; omega
  have HT : ∀ {A' : Option Addr} {n' c' : Nat} {r' : Int}, Hid ((cellsL q (memB L.ps) A' n' c' r' L.told)[11 + k]? = some (.int .i64 t)) := Lib.hid (by
    rw [htg]; exact cellsL_told _ _ _ _ _ _ (memB_len _) k (by rw [ho.t1]; exact hk8))
  simp only [Int.toNat_natCast] at HL
  rw [← htg] at HL
  have hcut : ∀ W, (Instr.slice 23 (.slice A (m + 1) c) (some (.int .i64 1)) none none).run Try.prog W = .ok (.slice (cutA A c 1) m (c - 1)) W := fun W => eltI.run_cut A (m + 1) c 1 (by omega) hc1 W
  subst hA
  have hne : ¬ BlkOf (cutA (some ⟨g, o, none⟩) c 1) p := by
    rintro ⟨ad, he, rfl⟩
    refine h8 ⟨_, rfl, ?_⟩
    unfold cutA at he
    split at he
    · injection he with he; rw [← he]
    · simp [Addr.add] at he; rw [← he]
  have hne2 : ¬ BlkOf (cutA (some ⟨g, o, none⟩) c 1) q := by
    rintro ⟨ad, he, rfl⟩
    refine h9 ⟨_, rfl, ?_⟩
    unfold cutA at he
    split at he
    · injection he with he; rw [← he]
    · simp [Addr.add] at he; rw [← he]
  have HO := Lib.hid ho
  have HM := Lib.hid hm
  clear hm
  have H4 := Lib.hid h4
  have hkk : (k : Int) < 8 := by omega
  clear htg hxr ho c0 h5 hk1 hxb h4
  go_enter Try.func14, Try.ntmps14
  go_wp2_with (go_at_call 27; refine (pm_made _ _ _ _ h3).mono ?_; rintro e w' ⟨rfl, rfl⟩)
  refine wp_region_L Ext [10] (by kernel_rfl) (fun wd hbd hsz => ?_)
  have hbk := (HK1.out.below hbd)
  have q0 : ∀ W, Ext wd W → W.cell? ⟨p, 11 + k, none⟩ = some (.int .i64 t) := fun W hW => (hbk.below hW).cell (11 + k) HT.out
  have f0 := hbk.free (11 + k)
  have c0 := hbk.cell (11 + k) HT.out
  have c9 := (hbk.set (11 + k) (.int .i64 (t + 1))).cell 9 (by rw [cellsL_set11 _ _ _ _ _ _ (memB_len _)]; exact cellsL_rest _ _ _ _ _ _ (memB_len _))
  have HK2 := Lib.hid (hbk.set (11 + k) (.int .i64 (t + 1)))
  have HB2 := Lib.hid hbd
  have hwt : IntKind.i64.wrap (t + 1) = t + 1 := by rw [IntKind.wrap_i64]; omega
  clear hsz
  (refine takeL Ext.tr 0 (by simp only [List.getElem?_toArray, List.getElem?_cons_succ, List.getElem?_cons_zero]; rfl) (by kernel_rfl) (by kernel_rfl) (by kernel_rfl) (by kernel_rfl) (by exact fun _ _ _ h => h) (by first | (refine Or.inl ⟨by rfl, ?_⟩; intro W hW; go_simp; try with_reducible rfl) | exact Or.inr ⟨by rfl, rfl⟩) ?_; try simp only [Act.put, List.setIfInBounds_toArray, List.set_cons_zero, List.set_cons_succ])
  (refine takeL Ext.tr 1 (by simp only [List.getElem?_toArray, List.getElem?_cons_succ, List.getElem?_cons_zero]; rfl) (by kernel_rfl) (by kernel_rfl) (by kernel_rfl) (by kernel_rfl) (by exact fun _ _ _ h => h) (by first | (refine Or.inl ⟨by rfl, ?_⟩; intro W hW; go_simp; try with_reducible rfl) | exact Or.inr ⟨by rfl, rfl⟩) ?_; try simp only [Act.put, List.setIfInBounds_toArray, List.set_cons_zero, List.set_cons_succ])
  (refine takeL Ext.tr 2 (by simp only [List.getElem?_toArray, List.getElem?_cons_succ, List.getElem?_cons_zero]; rfl) (by kernel_rfl) (by kernel_rfl) (by kernel_rfl) (by kernel_rfl) (by exact fun _ _ _ h => h) (by first | (refine Or.inl ⟨by rfl, ?_⟩; intro W hW; go_simp; try with_reducible rfl) | exact Or.inr ⟨by rfl, rfl⟩) ?_; try simp only [Act.put, List.setIfInBounds_toArray, List.set_cons_zero, List.set_cons_succ])
  (refine takeL Ext.tr 7 (by simp only [List.getElem?_toArray, List.getElem?_cons_succ, List.getElem?_cons_zero]; rfl) (by kernel_rfl) (by kernel_rfl) (by kernel_rfl) (by kernel_rfl) (by exact fun _ _ _ h => h) (by first | (refine Or.inl ⟨by rfl, ?_⟩; intro W hW; go_simp; try with_reducible rfl) | exact Or.inr ⟨by rfl, rfl⟩) ?_; try simp only [Act.put, List.setIfInBounds_toArray, List.set_cons_zero, List.set_cons_succ])
  (refine takeL Ext.tr 3 (by simp only [List.getElem?_toArray, List.getElem?_cons_succ, List.getElem?_cons_zero]; rfl) (by kernel_rfl) (by kernel_rfl) (by kernel_rfl) (by kernel_rfl) (by exact fun _ _ _ h => h) (by first | (refine Or.inl ⟨by rfl, ?_⟩; intro W hW; go_simp; try with_reducible rfl) | exact Or.inr ⟨by rfl, rfl⟩) ?_; try simp only [Act.put, List.setIfInBounds_toArray, List.set_cons_zero, List.set_cons_succ])
  (refine takeL Ext.tr 8 (by simp only [List.getElem?_toArray, List.getElem?_cons_succ, List.getElem?_cons_zero]; rfl) (by kernel_rfl) (by kernel_rfl) (by kernel_rfl) (by kernel_rfl) (by exact fun _ _ _ h => h) (by first | (refine Or.inl ⟨by rfl, ?_⟩; intro W hW; go_simp; try with_reducible rfl) | exact Or.inr ⟨by rfl, rfl⟩) ?_; try simp only [Act.put, List.setIfInBounds_toArray, List.set_cons_zero, List.set_cons_succ])
  (refine takeL Ext.tr 4 (by simp only [List.getElem?_toArray, List.getElem?_cons_succ, List.getElem?_cons_zero]; rfl) (by kernel_rfl) (by kernel_rfl) (by kernel_rfl) (by kernel_rfl) (by exact fun _ _ _ h => h) (by first | (refine Or.inl ⟨by rfl, ?_⟩; intro W hW; go_simp; try with_reducible rfl) | exact Or.inr ⟨by rfl, rfl⟩) ?_; try simp only [Act.put, List.setIfInBounds_toArray, List.set_cons_zero, List.set_cons_succ])
  (refine takeL Ext.tr 5 (by simp only [List.getElem?_toArray, List.getElem?_cons_succ, List.getElem?_cons_zero]; rfl) (by kernel_rfl) (by kernel_rfl) (by kernel_rfl) (by kernel_rfl) (by exact fun _ _ _ h => h) (by first | (refine Or.inl ⟨by rfl, ?_⟩; intro W hW; go_simp; try with_reducible rfl) | exact Or.inr ⟨by rfl, rfl⟩) ?_; try simp only [Act.put, List.setIfInBounds_toArray, List.set_cons_zero, List.set_cons_succ])
  (refine takeL Ext.tr 6 (by simp only [List.getElem?_toArray, List.getElem?_cons_succ, List.getElem?_cons_zero]; rfl) (by kernel_rfl) (by kernel_rfl) (by kernel_rfl) (by kernel_rfl) (by exact fun _ _ _ h => h) (by first | (refine Or.inl ⟨by rfl, ?_⟩; intro W hW; go_simp; try with_reducible rfl) | exact Or.inr ⟨by rfl, rfl⟩) ?_; try simp only [Act.put, List.setIfInBounds_toArray, List.set_cons_zero, List.set_cons_succ])
  (refine takeL Ext.tr 9 (by simp only [List.getElem?_toArray, List.getElem?_cons_succ, List.getElem?_cons_zero]; rfl) (by kernel_rfl) (by kernel_rfl) (by kernel_rfl) (by kernel_rfl) (by exact fun _ _ _ h => h) (by first | (refine Or.inl ⟨by rfl, ?_⟩; intro W hW; go_simp; try with_reducible rfl) | exact Or.inr ⟨by rfl, rfl⟩) ?_; try simp only [Act.put, List.setIfInBounds_toArray, List.set_cons_zero, List.set_cons_succ])
  refine wpAnyL_one (i := 10) (by kernel_rfl) (by simp only [List.getElem?_toArray, List.getElem?_cons_succ, List.getElem?_cons_zero]; rfl) (fun K hK => ?_)
  go_simp
  refine hK.out _ _ (.inl (by decide)) ?_
  clear hK K
  try simp only [Act.put, List.setIfInBounds_toArray, List.set_cons_zero, List.set_cons_succ]
  refine wpAnyL_done (by kernel_rfl) ?_ _
  skip
  have hw9 : St F w (w.setCell ⟨p, 9, none⟩ (.slice (cutA (some ⟨g, o, none⟩) c 1) m (c - 1))) := St.setCell w (a := ⟨p, 9, none⟩) h1 _
  have hst5 : St F w (wd.setCell ⟨p, 11 + k, none⟩ (.int .i64 (t + 1))) := (hw9.trans (St.ext HB2.out) (Gr.refl _ _)).trans (St.setCell wd (a := ⟨p, 11 + k, none⟩) h1 _) (Gr.refl _ _)
  have hk5 := HK2.out
  rw [cellsL_set11 _ _ _ _ _ _ (memB_len _)] at hk5
  have hs5 : Src (wd.setCell ⟨p, 11 + k, none⟩ (.int .i64 (t + 1))) q L.s L.i := (Bk.far (Bk.below (H4.out.bk.far (p := ⟨p, 9, none⟩) (Ne.symm h7) _) HB2.out) (p := ⟨p, 11 + k, none⟩) (Ne.symm h7) _)
  have hl5 : Lst 3 F (wd.setCell ⟨p, 11 + k, none⟩ (.int .i64 (t + 1))) (cutA (some ⟨g, o, none⟩) c 1) m (c - 1) (intV r) :=
    ((H5.out.far (p := ⟨p, 9, none⟩) (fun ad he e => hne ⟨ad, he, e⟩) _).below HB2.out).far (p := ⟨p, 11 + k, none⟩) (fun ad he e => hne ⟨ad, he, e⟩) _
  by_cases hm0 : m = 0
  · subst hm0
    rw [if_pos HM.out.symm] at HL
    clear c9 q0 f0 c0 c0' f9 hcut
    have c9 := hk5.cell 9 (cellsL_rest _ _ _ _ _ _ (memB_len _))
    go_wp2_with fail
    refine (begin_any _ p q L.s L.i L.ps _ _ _ L.rounds _ hk5 hs5 HO.out.p1 h7 (by rw [List.length_set]; exact HO.out.t1) HO.out.i0 (by have := HO.out.i1; omega) HO.out.n0 (by have := HO.out.n1; omega)).mono ?_
    rintro e w6 ⟨rfl, A', c', hk6, hs6, hl6, hst6⟩
    have hF5 : ∀ j, F j → j < (wd.setCell ⟨p, 11 + k, none⟩ (.int .i64 (t + 1))).heap.size := fun j hj => by have := h2 j hj; have := hst5.size; omega
    have hP := pm_begun (L := { L with rest := r, told := L.told.set k (t + 1) }) h1 h6 hF5 h7 hk6 hs6 hl6 hst6.size
    have HP := Lib.hid hP
    have HS := Lib.hid (hst5.trans (hst6.mono (F' := F) (fun j _ hj => by rcases hj with rfl | rfl; exact h1; exact h6)) (Gr.refl _ _))
    have HZ := Lib.hid hst5.size
    clear hP hst6 hst5 hk6 hs6 hl6 hk5 hs5 hl5 c9
    go_wp2
    go_ret
    refine ⟨by rw [HH.out]; rfl, _, by rw [HL.out]; exact HP.out.1, HS.out, fun j hj => ?_⟩
    rcases HP.out.2 j hj with h' | h'
    · exact .inl h'
    · exact .inr (Nat.le_trans HZ.out h')
  · rw [if_neg (by rw [← HM.out]; exact hm0)] at HL
    have hm1 : (m : Int) ≠ 0 := by omega
    have HP : Hid (Pm F (wd.setCell ⟨p, 11 + k, none⟩ (.int .i64 (t + 1))) p { L with rest := r, told := L.told.set k (t + 1) }) := Lib.hid
      ⟨h1, fun j hj => by have := h2 j hj; have := hst5.size; omega, q, _, _, _, hk5, hs5, hl5, h6, h7, hne, hne2⟩
    have HS := Lib.hid hst5
    clear hst5 hk5 hs5 hl5 hcut
    go_wp2
    go_ret
    exact ⟨by rw [HH.out]; rfl, F, by rw [HL.out]; exact HP.out, HS.out, Gr.refl _ _⟩
end Go.Proofs.Ytiefgicapcljiaa
