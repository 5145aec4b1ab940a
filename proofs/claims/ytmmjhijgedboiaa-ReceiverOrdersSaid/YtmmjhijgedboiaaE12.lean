/- A pull is issued; a packet is taken. -/
import Derived.Test.YtmmjhijgedboiaaE11
import Derived.Test.YtmmjhijgedboiaaEM
set_option linter.unusedSimpArgs false
set_option linter.unusedVariables false
set_option maxRecDepth 100000
namespace Go.Proofs.Ytmmjhijgedboiaa
open Go.RowKit Go.Shelf
section
variable {F FJ FP : Nat → Prop} {w w' : World} {e r : Nat} {m m' : Rm}
theorem EnC.fe (h : EnC F w e m) : F e := by obtain ⟨pb, mb, g, FJ, FP, jm, h⟩ := h; exact h.fe
theorem EnC.lte (h : EnC F w e m) : e < w.heap.size := h.lt e h.fe
theorem RcA.turn {F' : Nat → Prop} (h : RcA F w r e m) (he : EnC F' w' e m') (hs : St F w w') (hg : Gr F F' w.heap.size) : RcA F' w' r e m' :=
  ⟨h.bk.st hs h.fr, he, fun hf => (hg r hf).elim h.fr (fun h' => by have := h.bk.lt; omega)⟩
theorem SlP.mono {F F' : Nat → Prop} {w : World} {A : Option Addr} {n c : Nat} {ks : List Pk} (h : SlP F w A n c ks) (hF : ∀ k, F' k → F k) : SlP F' w A n c ks := by
  obtain ⟨qs, h1, h2, h3, h4, h5⟩ := h
  exact ⟨qs, h1, h2, h3, fun q hq => (h4 q hq).mono hF, fun hn ad he hf => h5 hn ad he (hF _ hf)⟩
set_option maxHeartbeats 4000000 in
theorem v_issue_no (h : RcA F w r e m) (hp : m.pd = 0) : Calls Try.prog 14 #[.pointer (some ⟨r, 0, none⟩)] w fun en w' => en = .returned (.tuple #[.agg #[.int .i64 zPv.h.kd, .int .i64 zPv.h.fl, .int .i64 zPv.h.pa, .int .i64 zPv.h.sr, .int .i64 zPv.h.ds, .int .i64 zPv.h.cn, .int .i64 zPv.h.sq, .int .i64 zPv.h.pu, .slice zPv.A zPv.n zPv.c], .bool false]) ∧ Below w.heap.size w w' := by
  have hb1 : Below w.heap.size w (w.alloc (.cells #[.int .i64 0, .int .i64 0, .int .i64 0, .int .i64 0, .int .i64 0, .int .i64 0, .int .i64 0, .int .i64 0, .slice none 0 0] 40)) := (Below.refl _ w).alloc (Nat.le_refl _) _
  have HP := Lib.hid (v_pending (h.below hb1))
  rw [hp] at HP
  have HB := Lib.hid hb1
  have HZ := Lib.hid (Bk.new w 40 [.int .i64 0, .int .i64 0, .int .i64 0, .int .i64 0, .int .i64 0, .int .i64 0, .int .i64 0, .int .i64 0, .slice none 0 0])
  clear h hp hb1
  go_enter Try.func14, Try.ntmps14
  go_wp2_with fail
  refine HP.out.mono ?_
  rintro en w1 ⟨rfl, hb2⟩
  have z1 := HZ.out.below hb2
  have HB2 := Lib.hid (HB.out.trans (hb2.mono HB.out.size))
  clear hb2 HP HB
  go_wp2_with (first
    | (with_reducible refine at_store 40 (.tmp 2) (.tmp 7) (by rfl) ?_
       refine wpList_put_pk rowP rfl (.tmp 2) (.tmp 7) rfl w.heap.size rfl z1 rfl zPv rfl ?_
       intro w9 z9 hw9))
  exact bodyPost_ret (results_cell_tmp rfl rfl (rowP.load z9 0 (cs := zPv.cl) rfl rfl)) rfl ⟨rfl, HB2.out.trans (hw9.below (Nat.le_refl _) HB2.out.size)⟩
set_option maxHeartbeats 4000000 in
theorem v_issue_yes (h : RcA F w r e m) (hm : m.Ok) (hp : 0 < m.pd) : Calls Try.prog 14 #[.pointer (some ⟨r, 0, none⟩)] w fun en w' => en = .returned (.tuple #[.agg #[.int .i64 ((pulV m)).h.kd, .int .i64 ((pulV m)).h.fl, .int .i64 ((pulV m)).h.pa, .int .i64 ((pulV m)).h.sr, .int .i64 ((pulV m)).h.ds, .int .i64 ((pulV m)).h.cn, .int .i64 ((pulV m)).h.sq, .int .i64 ((pulV m)).h.pu, .slice ((pulV m)).A ((pulV m)).n ((pulV m)).c], .bool true]) ∧ RcA F w' r e m.pull ∧ St F w w' := by
  have hb1 : Below w.heap.size w (w.alloc (.cells #[.int .i64 0, .int .i64 0, .int .i64 0, .int .i64 0, .int .i64 0, .int .i64 0, .int .i64 0, .int .i64 0, .slice none 0 0] 40)) := (Below.refl _ w).alloc (Nat.le_refl _) _
  have HP := Lib.hid (v_pending (h.below hb1))
  have HB := Lib.hid hb1
  have HZ := Lib.hid (Bk.new w 40 [.int .i64 0, .int .i64 0, .int .i64 0, .int .i64 0, .int .i64 0, .int .i64 0, .int .i64 0, .int .i64 0, .slice none 0 0])
  have hpz : ¬ m.pd = 0 := by omega
  have HH := Lib.hid h
  clear h hb1
  go_enter Try.func14, Try.ntmps14
  go_wp2_with fail
  refine HP.out.mono ?_
  rintro en w1 ⟨rfl, hb2⟩
  have z1 := HZ.out.below hb2
  have HB2 := Lib.hid (HB.out.trans (hb2.mono HB.out.size))
  have HH1 := Lib.hid (HH.out.below HB2.out)
  have c0 := HH1.out.bk.cell 0 rfl
  have HPU := Lib.hid (e_pull HH1.out.en hm hp)
  have hel := HH.out.en.lte
  clear hb2 HP HB HZ
  go_wp2_with fail
  refine HPU.out.mono ?_
  rintro en w2 ⟨rfl, he2, hs2⟩
  have z2 := z1.st hs2 (by omega)
  have HE2 := Lib.hid he2
  have HS2 := Lib.hid hs2
  clear he2 hs2 HPU z1
  go_wp2_with (first
    | (with_reducible refine at_store 40 (.tmp 2) (.tmp 12) (by rfl) ?_
       refine wpList_put_pk rowP rfl (.tmp 2) (.tmp 12) rfl w.heap.size rfl z2 rfl (pulV m) rfl ?_
       intro w9 z9 hw9))
  have hsF : St F w1 w2 := HS2.out.mono fun k _ hk => hk ▸ HH1.out.en.fe
  have hs9 : St (w.heap.size ≤ ·) w2 w9 := St.of_below (hw9.below (Nat.le_refl _) (Nat.le_trans HB2.out.size HS2.out.size)) (fun k _ hk => by omega)
  have hsep : Sep (FR F r) (w.heap.size ≤ ·) := fun k hk hw => by have := HH.out.lt k hk; omega
  have h2 : RcA F w2 r e m.pull := HH1.out.turn HE2.out hsF (Gr.refl _ _)
  exact bodyPost_ret (results_cell_tmp rfl rfl (rowP.load z9 0 (cs := (pulV m).cl) rfl rfl)) rfl ⟨rfl, h2.st hs9 hsep, ((St.ext HB2.out).trans hsF (Gr.refl _ _)).trans hs9 (fun k hk => .inr hk)⟩
/-- What a taken packet makes. -/
def TakR (F : Nat → Prop) (w : World) (r e : Nat) (m : Rm) (p : Pk) (en : Ending) (w' : World) : Prop :=
  ∃ A n c B k d F', en = .returned (.tuple #[.slice A n c, .slice B k d]) ∧ RcA F' w' r e (m.take p) ∧ St F w w' ∧ Gr F F' w.heap.size ∧ SlP (FR F' r) w' A n c (m.ans p) ∧ OutR (FR F' r) w w' B k d (m.told p) ∧ (0 < n → ∀ ad, A = some ad → w.heap.size ≤ ad.block)
theorem SlP.off {F : Nat → Prop} {w : World} {A : Option Addr} {n c : Nat} {ks : List Pk} (h : SlP F w A n c ks) : 0 < n → ∀ ad, A = some ad → ¬ F ad.block := by
  obtain ⟨_, _, _, _, _, h5⟩ := h
  exact h5
theorem TakR.same {p : Pk} {A : Option Addr} {n c : Nat} {l : List Pk} (h : RcA F w r e m) (hb : Below w.heap.size w w') (h1 : m.take p = m) (h2 : m.ans p = l) (h3 : m.told p = []) (h4 : SlP (FR F r) w' A n c l) (h5 : 0 < n → ∀ ad, A = some ad → w.heap.size ≤ ad.block) : TakR F w r e m p (.returned (.tuple #[.slice A n c, .slice none 0 0])) w' :=
  ⟨A, n, c, none, 0, 0, F, rfl, by rw [h1]; exact h.below hb, St.ext hb, Gr.refl _ _, by rw [h2]; exact h4, by rw [h3]; exact OutR.nil _ _ _, h5⟩
set_option maxHeartbeats 8000000 in
theorem v_take_no (h : RcA F w r e m) (hm : m.Ok) (q : Pv) (hq : PvR (FR F r) w q) (htk : q.pk.tkn = false) : Calls Try.prog 9 #[.pointer (some ⟨r, 0, none⟩), .agg #[.int .i64 q.h.kd, .int .i64 q.h.fl, .int .i64 q.h.pa, .int .i64 q.h.sr, .int .i64 q.h.ds, .int .i64 q.h.cn, .int .i64 q.h.sq, .int .i64 q.h.pu, .slice q.A q.n q.c]] w (TakR F w r e m q.pk) := by
  have hf := hq.fl
  have hb1 : Below w.heap.size w (w.alloc (.cells #[.int .i64 q.h.kd, .int .i64 q.h.fl, .int .i64 q.h.pa, .int .i64 q.h.sr, .int .i64 q.h.ds, .int .i64 q.h.cn, .int .i64 q.h.sq, .int .i64 q.h.pu, .slice q.A q.n q.c] 40)) := (Below.refl _ w).alloc (Nat.le_refl _) _
  have HM := Lib.hid (v_made (h.below hb1))
  have HT := Lib.hid (v_taken q (w.alloc (.cells #[.int .i64 q.h.kd, .int .i64 q.h.fl, .int .i64 q.h.pa, .int .i64 q.h.sr, .int .i64 q.h.ds, .int .i64 q.h.cn, .int .i64 q.h.sq, .int .i64 q.h.pu, .slice q.A q.n q.c] 40)) hf)
  rw [htk] at HT
  have HB := Lib.hid hb1
  have HZ := Lib.hid (Bk.new w 40 q.cl)
  have HH := Lib.hid h
  have HQ := Lib.hid hq
  have hel := h.en.lte
  have hrl := h.bk.lt
  clear h hq hb1
  go_enter Try.func9, Try.ntmps9
  go_wp2_with fail
  refine HM.out.mono ?_
  rintro en w' ⟨rfl, rfl⟩
  go_wp2_with fail
  refine HT.out.mono ?_
  rintro en w1 ⟨rfl, hb1⟩
  have HB1 := Lib.hid (HB.out.trans (hb1.mono HB.out.size))
  have HZ1 := Lib.hid (HZ.out.below hb1)
  have HH1 := Lib.hid (HH.out.below HB1.out)
  clear hb1 HM HT HB HZ
  have HT1 : Hid (m.take q.pk = m ∧ m.ans q.pk = [] ∧ m.told q.pk = []) := Lib.hid ⟨by unfold Rm.take; rw [if_pos htk], by unfold Rm.ans; rw [if_pos htk], by unfold Rm.told; rw [if_pos htk]⟩
  clear htk
  go_wp2
  go_ret2
  exact TakR.same HH.out HB1.out HT1.out.1 HT1.out.2.1 HT1.out.2.2 (SlP.nil _ _) (fun h => absurd h (by omega))
set_option maxHeartbeats 8000000 in
theorem v_take_done (h : RcA F w r e m) (hm : m.Ok) (q : Pv) (hq : PvR (FR F r) w q) (htk : q.pk.tkn = true) (hdn : m.dn = true) : Calls Try.prog 9 #[.pointer (some ⟨r, 0, none⟩), .agg #[.int .i64 q.h.kd, .int .i64 q.h.fl, .int .i64 q.h.pa, .int .i64 q.h.sr, .int .i64 q.h.ds, .int .i64 q.h.cn, .int .i64 q.h.sq, .int .i64 q.h.pu, .slice q.A q.n q.c]] w (TakR F w r e m q.pk) := by
  have hf := hq.fl
  have hb1 : Below w.heap.size w (w.alloc (.cells #[.int .i64 q.h.kd, .int .i64 q.h.fl, .int .i64 q.h.pa, .int .i64 q.h.sr, .int .i64 q.h.ds, .int .i64 q.h.cn, .int .i64 q.h.sq, .int .i64 q.h.pu, .slice q.A q.n q.c] 40)) := (Below.refl _ w).alloc (Nat.le_refl _) _
  have HM := Lib.hid (v_made (h.below hb1))
  have HT := Lib.hid (v_taken q (w.alloc (.cells #[.int .i64 q.h.kd, .int .i64 q.h.fl, .int .i64 q.h.pa, .int .i64 q.h.sr, .int .i64 q.h.ds, .int .i64 q.h.cn, .int .i64 q.h.sq, .int .i64 q.h.pu, .slice q.A q.n q.c] 40)) hf)
  rw [htk] at HT
  have HB := Lib.hid hb1
  have HZ := Lib.hid (Bk.new w 40 q.cl)
  have HH := Lib.hid h
  have HQ := Lib.hid hq
  have hel := h.en.lte
  have hrl := h.bk.lt
  clear h hq hb1
  go_enter Try.func9, Try.ntmps9
  go_wp2_with fail
  refine HM.out.mono ?_
  rintro en w' ⟨rfl, rfl⟩
  go_wp2_with fail
  refine HT.out.mono ?_
  rintro en w1 ⟨rfl, hb1⟩
  have HB1 := Lib.hid (HB.out.trans (hb1.mono HB.out.size))
  have HZ1 := Lib.hid (HZ.out.below hb1)
  have HH1 := Lib.hid (HH.out.below HB1.out)
  clear hb1 HM HT HB HZ
  have hdh : (m.dn || m.hs q.pk) = true := by rw [hdn]; rfl
  have c0 := HH1.out.bk.cell 0 rfl
  obtain ⟨pb, mb, g, FJ, FP, jm, hx⟩ := HH.out.en
  go_wp2_with fail
  refine wp_region_E Ext (by kernel_rfl) (fun wd hbd hsz => ?_)
  have HB2 := Lib.hid (HB1.out.trans (hbd.mono HB1.out.size))
  have HX2 := Lib.hid (hx.below HB2.out)
  have HZ2 := Lib.hid (HZ1.out.below hbd)
  have q1 : ∀ V, Ext wd V → V.cell? ⟨e, 14, none⟩ = some (.bool true) := fun V hV => by have := (HX2.out.bk.below hV).cell 14 rfl; rw [hdn] at this; exact this
  have q2 : ∀ V, Ext wd V → V.cell? ⟨e, 0, none⟩ = some (.pointer (some ⟨pb, 0, none⟩)) := fun V hV => (HX2.out.bk.below hV).cell 0 rfl
  have q3 : ∀ V, Ext wd V → V.cell? ⟨w.heap.size, 6, none⟩ = some (.int .i64 q.h.sq) := fun V hV => (HZ2.out.below hV).cell 6 rfl
  clear hsz
  (refine takeE Ext.tr 0 (by simp only [List.getElem?_toArray, List.getElem?_cons_succ, List.getElem?_cons_zero]; rfl) (by kernel_rfl) (by kernel_rfl) (by kernel_rfl) (by exact fun _ _ _ h => h) (by first | (refine Or.inl ⟨by rfl, ?_⟩; intro W hW; go_simp; try with_reducible rfl) | exact Or.inr ⟨by rfl, rfl⟩) ?_; try simp only [Act.put, List.setIfInBounds_toArray, List.set_cons_zero, List.set_cons_succ])
  (refine takeE Ext.tr 1 (by simp only [List.getElem?_toArray, List.getElem?_cons_succ, List.getElem?_cons_zero]; rfl) (by kernel_rfl) (by kernel_rfl) (by kernel_rfl) (by exact fun _ _ _ h => h) (by first | (refine Or.inl ⟨by rfl, ?_⟩; intro W hW; go_simp; try with_reducible rfl) | exact Or.inr ⟨by rfl, rfl⟩) ?_; try simp only [Act.put, List.setIfInBounds_toArray, List.set_cons_zero, List.set_cons_succ])
  (refine takeE Ext.tr 2 (by simp only [List.getElem?_toArray, List.getElem?_cons_succ, List.getElem?_cons_zero]; rfl) (by kernel_rfl) (by kernel_rfl) (by kernel_rfl) (by exact fun _ _ _ h => h) (by first | (refine Or.inl ⟨by rfl, ?_⟩; intro W hW; go_simp; try with_reducible rfl) | exact Or.inr ⟨by rfl, rfl⟩) ?_; try simp only [Act.put, List.setIfInBounds_toArray, List.set_cons_zero, List.set_cons_succ])
  (refine takeE Ext.tr 3 (by simp only [List.getElem?_toArray, List.getElem?_cons_succ, List.getElem?_cons_zero]; rfl) (by kernel_rfl) (by kernel_rfl) (by kernel_rfl) (by exact fun _ _ _ h => h) (by first | (refine Or.inl ⟨by rfl, ?_⟩; intro W hW; go_simp; try with_reducible rfl) | exact Or.inr ⟨by rfl, rfl⟩) ?_; try simp only [Act.put, List.setIfInBounds_toArray, List.set_cons_zero, List.set_cons_succ])
  (refine takeE Ext.tr 4 (by simp only [List.getElem?_toArray, List.getElem?_cons_succ, List.getElem?_cons_zero]; rfl) (by kernel_rfl) (by kernel_rfl) (by kernel_rfl) (by exact fun _ _ _ h => h) (by first | (refine Or.inl ⟨by rfl, ?_⟩; intro W hW; go_simp; try with_reducible rfl) | exact Or.inr ⟨by rfl, rfl⟩) ?_; try simp only [Act.put, List.setIfInBounds_toArray, List.set_cons_zero, List.set_cons_succ])
  (refine takeE Ext.tr 5 (by simp only [List.getElem?_toArray, List.getElem?_cons_succ, List.getElem?_cons_zero]; rfl) (by kernel_rfl) (by kernel_rfl) (by kernel_rfl) (by exact fun _ _ _ h => h) (by first | (refine Or.inl ⟨by rfl, ?_⟩; intro W hW; go_simp; try with_reducible rfl) | exact Or.inr ⟨by rfl, rfl⟩) ?_; try simp only [Act.put, List.setIfInBounds_toArray, List.set_cons_zero, List.set_cons_succ])
  (refine takeE Ext.tr 6 (by simp only [List.getElem?_toArray, List.getElem?_cons_succ, List.getElem?_cons_zero]; rfl) (by kernel_rfl) (by kernel_rfl) (by kernel_rfl) (by exact fun _ _ _ h => h) (by first | (refine Or.inl ⟨by rfl, ?_⟩; intro W hW; go_simp; try with_reducible rfl) | exact Or.inr ⟨by rfl, rfl⟩) ?_; try simp only [Act.put, List.setIfInBounds_toArray, List.set_cons_zero, List.set_cons_succ])
  (refine takeE Ext.tr 10 (by simp only [List.getElem?_toArray, List.getElem?_cons_succ, List.getElem?_cons_zero]; rfl) (by kernel_rfl) (by kernel_rfl) (by kernel_rfl) (by exact fun _ _ _ h => h) (by first | (refine Or.inl ⟨by rfl, ?_⟩; intro W hW; go_simp; try with_reducible rfl) | exact Or.inr ⟨by rfl, rfl⟩) ?_; try simp only [Act.put, List.setIfInBounds_toArray, List.set_cons_zero, List.set_cons_succ])
  (refine takeE Ext.tr 7 (by simp only [List.getElem?_toArray, List.getElem?_cons_succ, List.getElem?_cons_zero]; rfl) (by kernel_rfl) (by kernel_rfl) (by kernel_rfl) (by exact fun _ _ _ h => h) (by first | (refine Or.inl ⟨by rfl, ?_⟩; intro W hW; go_simp; try with_reducible rfl) | exact Or.inr ⟨by rfl, rfl⟩) ?_; try simp only [Act.put, List.setIfInBounds_toArray, List.set_cons_zero, List.set_cons_succ])
  (refine takeE Ext.tr 11 (by simp only [List.getElem?_toArray, List.getElem?_cons_succ, List.getElem?_cons_zero]; rfl) (by kernel_rfl) (by kernel_rfl) (by kernel_rfl) (by exact fun _ _ _ h => h) (by first | (refine Or.inl ⟨by rfl, ?_⟩; intro W hW; go_simp; try with_reducible rfl) | exact Or.inr ⟨by rfl, rfl⟩) ?_; try simp only [Act.put, List.setIfInBounds_toArray, List.set_cons_zero, List.set_cons_succ])
  (refine takeE Ext.tr 8 (by simp only [List.getElem?_toArray, List.getElem?_cons_succ, List.getElem?_cons_zero]; rfl) (by kernel_rfl) (by kernel_rfl) (by kernel_rfl) (by exact fun _ _ _ h => h) (by first | (refine Or.inl ⟨by rfl, ?_⟩; intro W hW; go_simp; try with_reducible rfl) | exact Or.inr ⟨by rfl, rfl⟩) ?_; try simp only [Act.put, List.setIfInBounds_toArray, List.set_cons_zero, List.set_cons_succ])
  (refine takeE Ext.tr 9 (by simp only [List.getElem?_toArray, List.getElem?_cons_succ, List.getElem?_cons_zero]; rfl) (by kernel_rfl) (by kernel_rfl) (by kernel_rfl) (by exact fun _ _ _ h => h) (by first | (refine Or.inl ⟨by rfl, ?_⟩; intro W hW; go_simp; try with_reducible rfl) | exact Or.inr ⟨by rfl, rfl⟩) ?_; try simp only [Act.put, List.setIfInBounds_toArray, List.set_cons_zero, List.set_cons_succ])
  refine wpAnyE_one (i := 12) (by kernel_rfl) (by simp only [List.getElem?_toArray, List.getElem?_cons_succ, List.getElem?_cons_zero]; rfl) (fun K hK => ?_)
  go_simp
  have HB3 := HB2
  have HZ3 := HZ2
  refine hK.out _ _ (Below.refl _ _) ?_
  clear hK K
  try simp only [Act.put, List.setIfInBounds_toArray, List.set_cons_zero, List.set_cons_succ]
  (refine takeE Ext.tr 13 (by simp only [List.getElem?_toArray, List.getElem?_cons_succ, List.getElem?_cons_zero]; rfl) (by kernel_rfl) (by kernel_rfl) (by kernel_rfl) (by exact fun _ _ _ h => h) (by first | (refine Or.inl ⟨by rfl, ?_⟩; intro W hW; go_simp; try with_reducible rfl) | exact Or.inr ⟨by rfl, rfl⟩) ?_; try simp only [Act.put, List.setIfInBounds_toArray, List.set_cons_zero, List.set_cons_succ])
  (refine takeE Ext.tr 14 (by simp only [List.getElem?_toArray, List.getElem?_cons_succ, List.getElem?_cons_zero]; rfl) (by kernel_rfl) (by kernel_rfl) (by kernel_rfl) (by exact fun _ _ _ h => h) (by first | (refine Or.inl ⟨by rfl, ?_⟩; intro W hW; go_simp; try with_reducible rfl) | exact Or.inr ⟨by rfl, rfl⟩) ?_; try simp only [Act.put, List.setIfInBounds_toArray, List.set_cons_zero, List.set_cons_succ])
  refine wpAnyE_done (by kernel_rfl) ?_ _
  clear q1 q2 q3
  have HE3 := Lib.hid (e_answer (HH.out.below HB3.out).en 2 q)
  have HT1 : Hid (m.take q.pk = m ∧ m.ans q.pk = [(ansV m 2 q.pk).pk] ∧ m.told q.pk = []) := Lib.hid ⟨by unfold Rm.take; rw [if_neg (by rw [htk]; decide), if_pos hdh], by unfold Rm.ans; rw [if_neg (by rw [htk]; decide), if_pos hdh], by unfold Rm.told; rw [if_neg (by rw [htk]; decide), if_pos hdh]⟩
  have z3 := HZ3.out
  clear htk hdh hx hdn
  go_wp2_with (first
    | (with_reducible refine at_load 40 (.tmp 3) (by rfl) ?_
       refine wpList_load_pk rowP rfl (.tmp 3) rfl q w.heap.size 0 rfl (Bk.pk z3) ?_)
    | (go_at_call 36; refine HE3.out.mono ?_; rintro en w4 ⟨A, c, rfl, hsl, hb4⟩))
  go_ret2
  have hsz := HB3.out.size
  exact TakR.same HH.out (HB3.out.trans (hb4.mono hsz)) HT1.out.1 HT1.out.2.1 HT1.out.2.2 (hsl.mono fun k hk => by have := HH.out.lt k hk; omega) (fun hn ad he => by have := hsl.off hn ad he; omega)
set_option maxHeartbeats 8000000 in
theorem v_take_ack (h : RcA F w r e m) (hm : m.Ok) (q : Pv) (hq : PvR (FR F r) w q) (htk : q.pk.tkn = true) (hdn : m.dn = false) (hhs : m.hs q.pk = true) : Calls Try.prog 9 #[.pointer (some ⟨r, 0, none⟩), .agg #[.int .i64 q.h.kd, .int .i64 q.h.fl, .int .i64 q.h.pa, .int .i64 q.h.sr, .int .i64 q.h.ds, .int .i64 q.h.cn, .int .i64 q.h.sq, .int .i64 q.h.pu, .slice q.A q.n q.c]] w (TakR F w r e m q.pk) := by
  have hf := hq.fl
  have hb1 : Below w.heap.size w (w.alloc (.cells #[.int .i64 q.h.kd, .int .i64 q.h.fl, .int .i64 q.h.pa, .int .i64 q.h.sr, .int .i64 q.h.ds, .int .i64 q.h.cn, .int .i64 q.h.sq, .int .i64 q.h.pu, .slice q.A q.n q.c] 40)) := (Below.refl _ w).alloc (Nat.le_refl _) _
  have HM := Lib.hid (v_made (h.below hb1))
  have HT := Lib.hid (v_taken q (w.alloc (.cells #[.int .i64 q.h.kd, .int .i64 q.h.fl, .int .i64 q.h.pa, .int .i64 q.h.sr, .int .i64 q.h.ds, .int .i64 q.h.cn, .int .i64 q.h.sq, .int .i64 q.h.pu, .slice q.A q.n q.c] 40)) hf)
  rw [htk] at HT
  have HB := Lib.hid hb1
  have HZ := Lib.hid (Bk.new w 40 q.cl)
  have HH := Lib.hid h
  have HQ := Lib.hid hq
  have hel := h.en.lte
  have hrl := h.bk.lt
  clear h hq hb1
  go_enter Try.func9, Try.ntmps9
  go_wp2_with fail
  refine HM.out.mono ?_
  rintro en w' ⟨rfl, rfl⟩
  go_wp2_with fail
  refine HT.out.mono ?_
  rintro en w1 ⟨rfl, hb1⟩
  have HB1 := Lib.hid (HB.out.trans (hb1.mono HB.out.size))
  have HZ1 := Lib.hid (HZ.out.below hb1)
  have HH1 := Lib.hid (HH.out.below HB1.out)
  clear hb1 HM HT HB HZ
  have hdh : (m.dn || m.hs q.pk) = true := by rw [hhs, Bool.or_true]
  have c0 := HH1.out.bk.cell 0 rfl
  obtain ⟨pb, mb, g, FJ, FP, jm, hx⟩ := HH.out.en
  go_wp2_with fail
  refine wp_region_E Ext (by kernel_rfl) (fun wd hbd hsz => ?_)
  have HB2 := Lib.hid (HB1.out.trans (hbd.mono HB1.out.size))
  have HX2 := Lib.hid (hx.below HB2.out)
  have HZ2 := Lib.hid (HZ1.out.below hbd)
  have q1 : ∀ V, Ext wd V → V.cell? ⟨e, 14, none⟩ = some (.bool false) := fun V hV => by have := (HX2.out.bk.below hV).cell 14 rfl; rw [hdn] at this; exact this
  have q2 : ∀ V, Ext wd V → V.cell? ⟨e, 0, none⟩ = some (.pointer (some ⟨pb, 0, none⟩)) := fun V hV => (HX2.out.bk.below hV).cell 0 rfl
  have q3 : ∀ V, Ext wd V → V.cell? ⟨w.heap.size, 6, none⟩ = some (.int .i64 q.h.sq) := fun V hV => (HZ2.out.below hV).cell 6 rfl
  clear hsz
  (refine takeE Ext.tr 0 (by simp only [List.getElem?_toArray, List.getElem?_cons_succ, List.getElem?_cons_zero]; rfl) (by kernel_rfl) (by kernel_rfl) (by kernel_rfl) (by exact fun _ _ _ h => h) (by first | (refine Or.inl ⟨by rfl, ?_⟩; intro W hW; go_simp; try with_reducible rfl) | exact Or.inr ⟨by rfl, rfl⟩) ?_; try simp only [Act.put, List.setIfInBounds_toArray, List.set_cons_zero, List.set_cons_succ])
  (refine takeE Ext.tr 1 (by simp only [List.getElem?_toArray, List.getElem?_cons_succ, List.getElem?_cons_zero]; rfl) (by kernel_rfl) (by kernel_rfl) (by kernel_rfl) (by exact fun _ _ _ h => h) (by first | (refine Or.inl ⟨by rfl, ?_⟩; intro W hW; go_simp; try with_reducible rfl) | exact Or.inr ⟨by rfl, rfl⟩) ?_; try simp only [Act.put, List.setIfInBounds_toArray, List.set_cons_zero, List.set_cons_succ])
  (refine takeE Ext.tr 2 (by simp only [List.getElem?_toArray, List.getElem?_cons_succ, List.getElem?_cons_zero]; rfl) (by kernel_rfl) (by kernel_rfl) (by kernel_rfl) (by exact fun _ _ _ h => h) (by first | (refine Or.inl ⟨by rfl, ?_⟩; intro W hW; go_simp; try with_reducible rfl) | exact Or.inr ⟨by rfl, rfl⟩) ?_; try simp only [Act.put, List.setIfInBounds_toArray, List.set_cons_zero, List.set_cons_succ])
  (refine takeE Ext.tr 3 (by simp only [List.getElem?_toArray, List.getElem?_cons_succ, List.getElem?_cons_zero]; rfl) (by kernel_rfl) (by kernel_rfl) (by kernel_rfl) (by exact fun _ _ _ h => h) (by first | (refine Or.inl ⟨by rfl, ?_⟩; intro W hW; go_simp; try with_reducible rfl) | exact Or.inr ⟨by rfl, rfl⟩) ?_; try simp only [Act.put, List.setIfInBounds_toArray, List.set_cons_zero, List.set_cons_succ])
  (refine takeE Ext.tr 4 (by simp only [List.getElem?_toArray, List.getElem?_cons_succ, List.getElem?_cons_zero]; rfl) (by kernel_rfl) (by kernel_rfl) (by kernel_rfl) (by exact fun _ _ _ h => h) (by first | (refine Or.inl ⟨by rfl, ?_⟩; intro W hW; go_simp; try with_reducible rfl) | exact Or.inr ⟨by rfl, rfl⟩) ?_; try simp only [Act.put, List.setIfInBounds_toArray, List.set_cons_zero, List.set_cons_succ])
  (refine takeE Ext.tr 5 (by simp only [List.getElem?_toArray, List.getElem?_cons_succ, List.getElem?_cons_zero]; rfl) (by kernel_rfl) (by kernel_rfl) (by kernel_rfl) (by exact fun _ _ _ h => h) (by first | (refine Or.inl ⟨by rfl, ?_⟩; intro W hW; go_simp; try with_reducible rfl) | exact Or.inr ⟨by rfl, rfl⟩) ?_; try simp only [Act.put, List.setIfInBounds_toArray, List.set_cons_zero, List.set_cons_succ])
  (refine takeE Ext.tr 6 (by simp only [List.getElem?_toArray, List.getElem?_cons_succ, List.getElem?_cons_zero]; rfl) (by kernel_rfl) (by kernel_rfl) (by kernel_rfl) (by exact fun _ _ _ h => h) (by first | (refine Or.inl ⟨by rfl, ?_⟩; intro W hW; go_simp; try with_reducible rfl) | exact Or.inr ⟨by rfl, rfl⟩) ?_; try simp only [Act.put, List.setIfInBounds_toArray, List.set_cons_zero, List.set_cons_succ])
  (refine takeE Ext.tr 10 (by simp only [List.getElem?_toArray, List.getElem?_cons_succ, List.getElem?_cons_zero]; rfl) (by kernel_rfl) (by kernel_rfl) (by kernel_rfl) (by exact fun _ _ _ h => h) (by first | (refine Or.inl ⟨by rfl, ?_⟩; intro W hW; go_simp; try with_reducible rfl) | exact Or.inr ⟨by rfl, rfl⟩) ?_; try simp only [Act.put, List.setIfInBounds_toArray, List.set_cons_zero, List.set_cons_succ])
  (refine takeE Ext.tr 7 (by simp only [List.getElem?_toArray, List.getElem?_cons_succ, List.getElem?_cons_zero]; rfl) (by kernel_rfl) (by kernel_rfl) (by kernel_rfl) (by exact fun _ _ _ h => h) (by first | (refine Or.inl ⟨by rfl, ?_⟩; intro W hW; go_simp; try with_reducible rfl) | exact Or.inr ⟨by rfl, rfl⟩) ?_; try simp only [Act.put, List.setIfInBounds_toArray, List.set_cons_zero, List.set_cons_succ])
  (refine takeE Ext.tr 11 (by simp only [List.getElem?_toArray, List.getElem?_cons_succ, List.getElem?_cons_zero]; rfl) (by kernel_rfl) (by kernel_rfl) (by kernel_rfl) (by exact fun _ _ _ h => h) (by first | (refine Or.inl ⟨by rfl, ?_⟩; intro W hW; go_simp; try with_reducible rfl) | exact Or.inr ⟨by rfl, rfl⟩) ?_; try simp only [Act.put, List.setIfInBounds_toArray, List.set_cons_zero, List.set_cons_succ])
  (refine takeE Ext.tr 8 (by simp only [List.getElem?_toArray, List.getElem?_cons_succ, List.getElem?_cons_zero]; rfl) (by kernel_rfl) (by kernel_rfl) (by kernel_rfl) (by exact fun _ _ _ h => h) (by first | (refine Or.inl ⟨by rfl, ?_⟩; intro W hW; go_simp; try with_reducible rfl) | exact Or.inr ⟨by rfl, rfl⟩) ?_; try simp only [Act.put, List.setIfInBounds_toArray, List.set_cons_zero, List.set_cons_succ])
  (refine takeE Ext.tr 9 (by simp only [List.getElem?_toArray, List.getElem?_cons_succ, List.getElem?_cons_zero]; rfl) (by kernel_rfl) (by kernel_rfl) (by kernel_rfl) (by exact fun _ _ _ h => h) (by first | (refine Or.inl ⟨by rfl, ?_⟩; intro W hW; go_simp; try with_reducible rfl) | exact Or.inr ⟨by rfl, rfl⟩) ?_; try simp only [Act.put, List.setIfInBounds_toArray, List.set_cons_zero, List.set_cons_succ])
  refine wpAnyE_one (i := 12) (by kernel_rfl) (by simp only [List.getElem?_toArray, List.getElem?_cons_succ, List.getElem?_cons_zero]; rfl) (fun K hK => ?_)
  go_simp
  refine (b_has HX2.out.bm q.h.sq).mono ?_
  rintro en w3 ⟨rfl, hb3⟩
  rw [show m.bm.has q.h.sq = true from hhs]
  have HB3 := Lib.hid (HB2.out.trans (hb3.mono HB2.out.size))
  have HZ3 := Lib.hid (HZ2.out.below hb3)
  have HB3' := Lib.hid hb3
  clear hb3
  refine hK.out _ _ HB3'.out ?_
  clear hK K
  try simp only [Act.put, List.setIfInBounds_toArray, List.set_cons_zero, List.set_cons_succ]
  (refine takeE Ext.tr 13 (by simp only [List.getElem?_toArray, List.getElem?_cons_succ, List.getElem?_cons_zero]; rfl) (by kernel_rfl) (by kernel_rfl) (by kernel_rfl) (by exact fun _ _ _ h => h) (by first | (refine Or.inl ⟨by rfl, ?_⟩; intro W hW; go_simp; try with_reducible rfl) | exact Or.inr ⟨by rfl, rfl⟩) ?_; try simp only [Act.put, List.setIfInBounds_toArray, List.set_cons_zero, List.set_cons_succ])
  (refine takeE Ext.tr 14 (by simp only [List.getElem?_toArray, List.getElem?_cons_succ, List.getElem?_cons_zero]; rfl) (by kernel_rfl) (by kernel_rfl) (by kernel_rfl) (by exact fun _ _ _ h => h) (by first | (refine Or.inl ⟨by rfl, ?_⟩; intro W hW; go_simp; try with_reducible rfl) | exact Or.inr ⟨by rfl, rfl⟩) ?_; try simp only [Act.put, List.setIfInBounds_toArray, List.set_cons_zero, List.set_cons_succ])
  refine wpAnyE_done (by kernel_rfl) ?_ _
  clear q1 q2 q3
  have HE3 := Lib.hid (e_answer (HH.out.below HB3.out).en 2 q)
  have HT1 : Hid (m.take q.pk = m ∧ m.ans q.pk = [(ansV m 2 q.pk).pk] ∧ m.told q.pk = []) := Lib.hid ⟨by unfold Rm.take; rw [if_neg (by rw [htk]; decide), if_pos hdh], by unfold Rm.ans; rw [if_neg (by rw [htk]; decide), if_pos hdh], by unfold Rm.told; rw [if_neg (by rw [htk]; decide), if_pos hdh]⟩
  have z3 := HZ3.out
  clear htk hdh hx hdn hhs
  go_wp2_with (first
    | (with_reducible refine at_load 40 (.tmp 3) (by rfl) ?_
       refine wpList_load_pk rowP rfl (.tmp 3) rfl q w.heap.size 0 rfl (Bk.pk z3) ?_)
    | (go_at_call 36; refine HE3.out.mono ?_; rintro en w4 ⟨A, c, rfl, hsl, hb4⟩))
  go_ret2
  have hsz := HB3.out.size
  exact TakR.same HH.out (HB3.out.trans (hb4.mono hsz)) HT1.out.1 HT1.out.2.1 HT1.out.2.2 (hsl.mono fun k hk => by have := HH.out.lt k hk; omega) (fun hn ad he => by have := hsl.off hn ad he; omega)
set_option maxHeartbeats 8000000 in
theorem v_take_out (h : RcA F w r e m) (hm : m.Ok) (q : Pv) (hq : PvR (FR F r) w q) (htk : q.pk.tkn = true) (hdn : m.dn = false) (hhs : m.hs q.pk = false) (hin : m.inw q.pk = false) : Calls Try.prog 9 #[.pointer (some ⟨r, 0, none⟩), .agg #[.int .i64 q.h.kd, .int .i64 q.h.fl, .int .i64 q.h.pa, .int .i64 q.h.sr, .int .i64 q.h.ds, .int .i64 q.h.cn, .int .i64 q.h.sq, .int .i64 q.h.pu, .slice q.A q.n q.c]] w (TakR F w r e m q.pk) := by
  have hf := hq.fl
  have hb1 : Below w.heap.size w (w.alloc (.cells #[.int .i64 q.h.kd, .int .i64 q.h.fl, .int .i64 q.h.pa, .int .i64 q.h.sr, .int .i64 q.h.ds, .int .i64 q.h.cn, .int .i64 q.h.sq, .int .i64 q.h.pu, .slice q.A q.n q.c] 40)) := (Below.refl _ w).alloc (Nat.le_refl _) _
  have HM := Lib.hid (v_made (h.below hb1))
  have HT := Lib.hid (v_taken q (w.alloc (.cells #[.int .i64 q.h.kd, .int .i64 q.h.fl, .int .i64 q.h.pa, .int .i64 q.h.sr, .int .i64 q.h.ds, .int .i64 q.h.cn, .int .i64 q.h.sq, .int .i64 q.h.pu, .slice q.A q.n q.c] 40)) hf)
  rw [htk] at HT
  have HB := Lib.hid hb1
  have HZ := Lib.hid (Bk.new w 40 q.cl)
  have HH := Lib.hid h
  have HQ := Lib.hid hq
  have hel := h.en.lte
  have hrl := h.bk.lt
  clear h hq hb1
  go_enter Try.func9, Try.ntmps9
  go_wp2_with fail
  refine HM.out.mono ?_
  rintro en w' ⟨rfl, rfl⟩
  go_wp2_with fail
  refine HT.out.mono ?_
  rintro en w1 ⟨rfl, hb1⟩
  have HB1 := Lib.hid (HB.out.trans (hb1.mono HB.out.size))
  have HZ1 := Lib.hid (HZ.out.below hb1)
  have HH1 := Lib.hid (HH.out.below HB1.out)
  clear hb1 HM HT HB HZ
  have hdh : ¬ (m.dn || m.hs q.pk) = true := by rw [hdn, hhs]; decide
  have c0 := HH1.out.bk.cell 0 rfl
  obtain ⟨pb, mb, g, FJ, FP, jm, hx⟩ := HH.out.en
  go_wp2_with fail
  refine wp_region_E Ext (by kernel_rfl) (fun wd hbd hsz => ?_)
  have HB2 := Lib.hid (HB1.out.trans (hbd.mono HB1.out.size))
  have HX2 := Lib.hid (hx.below HB2.out)
  have HZ2 := Lib.hid (HZ1.out.below hbd)
  have q1 : ∀ V, Ext wd V → V.cell? ⟨e, 14, none⟩ = some (.bool false) := fun V hV => by have := (HX2.out.bk.below hV).cell 14 rfl; rw [hdn] at this; exact this
  have q2 : ∀ V, Ext wd V → V.cell? ⟨e, 0, none⟩ = some (.pointer (some ⟨pb, 0, none⟩)) := fun V hV => (HX2.out.bk.below hV).cell 0 rfl
  have q3 : ∀ V, Ext wd V → V.cell? ⟨w.heap.size, 6, none⟩ = some (.int .i64 q.h.sq) := fun V hV => (HZ2.out.below hV).cell 6 rfl
  clear hsz
  (refine takeE Ext.tr 0 (by simp only [List.getElem?_toArray, List.getElem?_cons_succ, List.getElem?_cons_zero]; rfl) (by kernel_rfl) (by kernel_rfl) (by kernel_rfl) (by exact fun _ _ _ h => h) (by first | (refine Or.inl ⟨by rfl, ?_⟩; intro W hW; go_simp; try with_reducible rfl) | exact Or.inr ⟨by rfl, rfl⟩) ?_; try simp only [Act.put, List.setIfInBounds_toArray, List.set_cons_zero, List.set_cons_succ])
  (refine takeE Ext.tr 1 (by simp only [List.getElem?_toArray, List.getElem?_cons_succ, List.getElem?_cons_zero]; rfl) (by kernel_rfl) (by kernel_rfl) (by kernel_rfl) (by exact fun _ _ _ h => h) (by first | (refine Or.inl ⟨by rfl, ?_⟩; intro W hW; go_simp; try with_reducible rfl) | exact Or.inr ⟨by rfl, rfl⟩) ?_; try simp only [Act.put, List.setIfInBounds_toArray, List.set_cons_zero, List.set_cons_succ])
  (refine takeE Ext.tr 2 (by simp only [List.getElem?_toArray, List.getElem?_cons_succ, List.getElem?_cons_zero]; rfl) (by kernel_rfl) (by kernel_rfl) (by kernel_rfl) (by exact fun _ _ _ h => h) (by first | (refine Or.inl ⟨by rfl, ?_⟩; intro W hW; go_simp; try with_reducible rfl) | exact Or.inr ⟨by rfl, rfl⟩) ?_; try simp only [Act.put, List.setIfInBounds_toArray, List.set_cons_zero, List.set_cons_succ])
  (refine takeE Ext.tr 3 (by simp only [List.getElem?_toArray, List.getElem?_cons_succ, List.getElem?_cons_zero]; rfl) (by kernel_rfl) (by kernel_rfl) (by kernel_rfl) (by exact fun _ _ _ h => h) (by first | (refine Or.inl ⟨by rfl, ?_⟩; intro W hW; go_simp; try with_reducible rfl) | exact Or.inr ⟨by rfl, rfl⟩) ?_; try simp only [Act.put, List.setIfInBounds_toArray, List.set_cons_zero, List.set_cons_succ])
  (refine takeE Ext.tr 4 (by simp only [List.getElem?_toArray, List.getElem?_cons_succ, List.getElem?_cons_zero]; rfl) (by kernel_rfl) (by kernel_rfl) (by kernel_rfl) (by exact fun _ _ _ h => h) (by first | (refine Or.inl ⟨by rfl, ?_⟩; intro W hW; go_simp; try with_reducible rfl) | exact Or.inr ⟨by rfl, rfl⟩) ?_; try simp only [Act.put, List.setIfInBounds_toArray, List.set_cons_zero, List.set_cons_succ])
  (refine takeE Ext.tr 5 (by simp only [List.getElem?_toArray, List.getElem?_cons_succ, List.getElem?_cons_zero]; rfl) (by kernel_rfl) (by kernel_rfl) (by kernel_rfl) (by exact fun _ _ _ h => h) (by first | (refine Or.inl ⟨by rfl, ?_⟩; intro W hW; go_simp; try with_reducible rfl) | exact Or.inr ⟨by rfl, rfl⟩) ?_; try simp only [Act.put, List.setIfInBounds_toArray, List.set_cons_zero, List.set_cons_succ])
  (refine takeE Ext.tr 6 (by simp only [List.getElem?_toArray, List.getElem?_cons_succ, List.getElem?_cons_zero]; rfl) (by kernel_rfl) (by kernel_rfl) (by kernel_rfl) (by exact fun _ _ _ h => h) (by first | (refine Or.inl ⟨by rfl, ?_⟩; intro W hW; go_simp; try with_reducible rfl) | exact Or.inr ⟨by rfl, rfl⟩) ?_; try simp only [Act.put, List.setIfInBounds_toArray, List.set_cons_zero, List.set_cons_succ])
  (refine takeE Ext.tr 10 (by simp only [List.getElem?_toArray, List.getElem?_cons_succ, List.getElem?_cons_zero]; rfl) (by kernel_rfl) (by kernel_rfl) (by kernel_rfl) (by exact fun _ _ _ h => h) (by first | (refine Or.inl ⟨by rfl, ?_⟩; intro W hW; go_simp; try with_reducible rfl) | exact Or.inr ⟨by rfl, rfl⟩) ?_; try simp only [Act.put, List.setIfInBounds_toArray, List.set_cons_zero, List.set_cons_succ])
  (refine takeE Ext.tr 7 (by simp only [List.getElem?_toArray, List.getElem?_cons_succ, List.getElem?_cons_zero]; rfl) (by kernel_rfl) (by kernel_rfl) (by kernel_rfl) (by exact fun _ _ _ h => h) (by first | (refine Or.inl ⟨by rfl, ?_⟩; intro W hW; go_simp; try with_reducible rfl) | exact Or.inr ⟨by rfl, rfl⟩) ?_; try simp only [Act.put, List.setIfInBounds_toArray, List.set_cons_zero, List.set_cons_succ])
  (refine takeE Ext.tr 11 (by simp only [List.getElem?_toArray, List.getElem?_cons_succ, List.getElem?_cons_zero]; rfl) (by kernel_rfl) (by kernel_rfl) (by kernel_rfl) (by exact fun _ _ _ h => h) (by first | (refine Or.inl ⟨by rfl, ?_⟩; intro W hW; go_simp; try with_reducible rfl) | exact Or.inr ⟨by rfl, rfl⟩) ?_; try simp only [Act.put, List.setIfInBounds_toArray, List.set_cons_zero, List.set_cons_succ])
  (refine takeE Ext.tr 8 (by simp only [List.getElem?_toArray, List.getElem?_cons_succ, List.getElem?_cons_zero]; rfl) (by kernel_rfl) (by kernel_rfl) (by kernel_rfl) (by exact fun _ _ _ h => h) (by first | (refine Or.inl ⟨by rfl, ?_⟩; intro W hW; go_simp; try with_reducible rfl) | exact Or.inr ⟨by rfl, rfl⟩) ?_; try simp only [Act.put, List.setIfInBounds_toArray, List.set_cons_zero, List.set_cons_succ])
  (refine takeE Ext.tr 9 (by simp only [List.getElem?_toArray, List.getElem?_cons_succ, List.getElem?_cons_zero]; rfl) (by kernel_rfl) (by kernel_rfl) (by kernel_rfl) (by exact fun _ _ _ h => h) (by first | (refine Or.inl ⟨by rfl, ?_⟩; intro W hW; go_simp; try with_reducible rfl) | exact Or.inr ⟨by rfl, rfl⟩) ?_; try simp only [Act.put, List.setIfInBounds_toArray, List.set_cons_zero, List.set_cons_succ])
  refine wpAnyE_one (i := 12) (by kernel_rfl) (by simp only [List.getElem?_toArray, List.getElem?_cons_succ, List.getElem?_cons_zero]; rfl) (fun K hK => ?_)
  go_simp
  refine (b_has HX2.out.bm q.h.sq).mono ?_
  rintro en w3 ⟨rfl, hb3⟩
  rw [show m.bm.has q.h.sq = false from hhs]
  have HB3 := Lib.hid (HB2.out.trans (hb3.mono HB2.out.size))
  have HZ3 := Lib.hid (HZ2.out.below hb3)
  have HB3' := Lib.hid hb3
  clear hb3
  refine hK.out _ _ HB3'.out ?_
  clear hK K
  try simp only [Act.put, List.setIfInBounds_toArray, List.set_cons_zero, List.set_cons_succ]
  (refine takeE Ext.tr 13 (by simp only [List.getElem?_toArray, List.getElem?_cons_succ, List.getElem?_cons_zero]; rfl) (by kernel_rfl) (by kernel_rfl) (by kernel_rfl) (by exact fun _ _ _ h => h) (by first | (refine Or.inl ⟨by rfl, ?_⟩; intro W hW; go_simp; try with_reducible rfl) | exact Or.inr ⟨by rfl, rfl⟩) ?_; try simp only [Act.put, List.setIfInBounds_toArray, List.set_cons_zero, List.set_cons_succ])
  (refine takeE Ext.tr 14 (by simp only [List.getElem?_toArray, List.getElem?_cons_succ, List.getElem?_cons_zero]; rfl) (by kernel_rfl) (by kernel_rfl) (by kernel_rfl) (by exact fun _ _ _ h => h) (by first | (refine Or.inl ⟨by rfl, ?_⟩; intro W hW; go_simp; try with_reducible rfl) | exact Or.inr ⟨by rfl, rfl⟩) ?_; try simp only [Act.put, List.setIfInBounds_toArray, List.set_cons_zero, List.set_cons_succ])
  refine wpAnyE_done (by kernel_rfl) ?_ _
  clear q1 q2 q3
  have HE3' := Lib.hid (HH.out.below HB3.out)
  obtain ⟨n, hn, h1, h3, h4⟩ := Rm.hs_no hhs htk
  have HIN := Lib.hid (e_inWin HE3'.out.en n h1 (by omega))
  have hiw : decide (n < m.base + m.size) = false := by
    have := hin
    unfold Rm.inw at this
    rw [show q.pk.h.sq = ((n : Nat) : Int) from hn] at this
    rw [← this]
    by_cases hc : n < m.base + m.size
    · rw [decide_eq_true hc, decide_eq_true (by omega)]
    · rw [decide_eq_false hc, decide_eq_false (by omega)]
  rw [hiw, ← (show q.h.sq = ((n : Nat) : Int) from hn)] at HIN
  have c6 := HZ3.out.cell 6 rfl
  have HHN := Lib.hid (And.intro hn (And.intro h1 (And.intro h3 h4)))
  clear hx hn h1 h3 h4
  go_wp2_with fail
  refine HIN.out.mono ?_
  rintro en w4 ⟨rfl, hb4⟩
  have HB4 := Lib.hid (HB3.out.trans (hb4.mono HB3.out.size))
  have HZ4 := Lib.hid (HZ3.out.below hb4)
  clear hb4 HIN c6
  have HT1 : Hid (m.take q.pk = m ∧ m.ans q.pk = [] ∧ m.told q.pk = []) := Lib.hid ⟨by unfold Rm.take; rw [if_neg (by rw [htk]; decide), if_neg hdh, if_pos hin], by unfold Rm.ans; rw [if_neg (by rw [htk]; decide), if_neg hdh, if_pos hin], by unfold Rm.told; rw [if_neg (by rw [htk]; decide), if_neg hdh, if_pos hin]⟩
  clear htk hdn hhs hin hdh hiw
  go_wp2
  go_ret2
  exact TakR.same HH.out HB4.out HT1.out.1 HT1.out.2.1 HT1.out.2.2 (SlP.nil _ _) (fun h => absurd h (by omega))
set_option maxHeartbeats 8000000 in
theorem v_take_nack (h : RcA F w r e m) (hm : m.Ok) (q : Pv) (hq : PvR (FR F r) w q) (htk : q.pk.tkn = true) (hdn : m.dn = false) (hhs : m.hs q.pk = false) (hin : m.inw q.pk = true) (h8 : hasB q.pk.h.fl 8 = true) : Calls Try.prog 9 #[.pointer (some ⟨r, 0, none⟩), .agg #[.int .i64 q.h.kd, .int .i64 q.h.fl, .int .i64 q.h.pa, .int .i64 q.h.sr, .int .i64 q.h.ds, .int .i64 q.h.cn, .int .i64 q.h.sq, .int .i64 q.h.pu, .slice q.A q.n q.c]] w (TakR F w r e m q.pk) := by
  have hf := hq.fl
  have hb1 : Below w.heap.size w (w.alloc (.cells #[.int .i64 q.h.kd, .int .i64 q.h.fl, .int .i64 q.h.pa, .int .i64 q.h.sr, .int .i64 q.h.ds, .int .i64 q.h.cn, .int .i64 q.h.sq, .int .i64 q.h.pu, .slice q.A q.n q.c] 40)) := (Below.refl _ w).alloc (Nat.le_refl _) _
  have HM := Lib.hid (v_made (h.below hb1))
  have HT := Lib.hid (v_taken q (w.alloc (.cells #[.int .i64 q.h.kd, .int .i64 q.h.fl, .int .i64 q.h.pa, .int .i64 q.h.sr, .int .i64 q.h.ds, .int .i64 q.h.cn, .int .i64 q.h.sq, .int .i64 q.h.pu, .slice q.A q.n q.c] 40)) hf)
  rw [htk] at HT
  have HB := Lib.hid hb1
  have HZ := Lib.hid (Bk.new w 40 q.cl)
  have HH := Lib.hid h
  have HQ := Lib.hid hq
  have hel := h.en.lte
  have hrl := h.bk.lt
  clear h hq hb1
  go_enter Try.func9, Try.ntmps9
  go_wp2_with fail
  refine HM.out.mono ?_
  rintro en w' ⟨rfl, rfl⟩
  go_wp2_with fail
  refine HT.out.mono ?_
  rintro en w1 ⟨rfl, hb1⟩
  have HB1 := Lib.hid (HB.out.trans (hb1.mono HB.out.size))
  have HZ1 := Lib.hid (HZ.out.below hb1)
  have HH1 := Lib.hid (HH.out.below HB1.out)
  clear hb1 HM HT HB HZ
  have hdh : ¬ (m.dn || m.hs q.pk) = true := by rw [hdn, hhs]; decide
  have c0 := HH1.out.bk.cell 0 rfl
  obtain ⟨pb, mb, g, FJ, FP, jm, hx⟩ := HH.out.en
  go_wp2_with fail
  refine wp_region_E Ext (by kernel_rfl) (fun wd hbd hsz => ?_)
  have HB2 := Lib.hid (HB1.out.trans (hbd.mono HB1.out.size))
  have HX2 := Lib.hid (hx.below HB2.out)
  have HZ2 := Lib.hid (HZ1.out.below hbd)
  have q1 : ∀ V, Ext wd V → V.cell? ⟨e, 14, none⟩ = some (.bool false) := fun V hV => by have := (HX2.out.bk.below hV).cell 14 rfl; rw [hdn] at this; exact this
  have q2 : ∀ V, Ext wd V → V.cell? ⟨e, 0, none⟩ = some (.pointer (some ⟨pb, 0, none⟩)) := fun V hV => (HX2.out.bk.below hV).cell 0 rfl
  have q3 : ∀ V, Ext wd V → V.cell? ⟨w.heap.size, 6, none⟩ = some (.int .i64 q.h.sq) := fun V hV => (HZ2.out.below hV).cell 6 rfl
  clear hsz
  (refine takeE Ext.tr 0 (by simp only [List.getElem?_toArray, List.getElem?_cons_succ, List.getElem?_cons_zero]; rfl) (by kernel_rfl) (by kernel_rfl) (by kernel_rfl) (by exact fun _ _ _ h => h) (by first | (refine Or.inl ⟨by rfl, ?_⟩; intro W hW; go_simp; try with_reducible rfl) | exact Or.inr ⟨by rfl, rfl⟩) ?_; try simp only [Act.put, List.setIfInBounds_toArray, List.set_cons_zero, List.set_cons_succ])
  (refine takeE Ext.tr 1 (by simp only [List.getElem?_toArray, List.getElem?_cons_succ, List.getElem?_cons_zero]; rfl) (by kernel_rfl) (by kernel_rfl) (by kernel_rfl) (by exact fun _ _ _ h => h) (by first | (refine Or.inl ⟨by rfl, ?_⟩; intro W hW; go_simp; try with_reducible rfl) | exact Or.inr ⟨by rfl, rfl⟩) ?_; try simp only [Act.put, List.setIfInBounds_toArray, List.set_cons_zero, List.set_cons_succ])
  (refine takeE Ext.tr 2 (by simp only [List.getElem?_toArray, List.getElem?_cons_succ, List.getElem?_cons_zero]; rfl) (by kernel_rfl) (by kernel_rfl) (by kernel_rfl) (by exact fun _ _ _ h => h) (by first | (refine Or.inl ⟨by rfl, ?_⟩; intro W hW; go_simp; try with_reducible rfl) | exact Or.inr ⟨by rfl, rfl⟩) ?_; try simp only [Act.put, List.setIfInBounds_toArray, List.set_cons_zero, List.set_cons_succ])
  (refine takeE Ext.tr 3 (by simp only [List.getElem?_toArray, List.getElem?_cons_succ, List.getElem?_cons_zero]; rfl) (by kernel_rfl) (by kernel_rfl) (by kernel_rfl) (by exact fun _ _ _ h => h) (by first | (refine Or.inl ⟨by rfl, ?_⟩; intro W hW; go_simp; try with_reducible rfl) | exact Or.inr ⟨by rfl, rfl⟩) ?_; try simp only [Act.put, List.setIfInBounds_toArray, List.set_cons_zero, List.set_cons_succ])
  (refine takeE Ext.tr 4 (by simp only [List.getElem?_toArray, List.getElem?_cons_succ, List.getElem?_cons_zero]; rfl) (by kernel_rfl) (by kernel_rfl) (by kernel_rfl) (by exact fun _ _ _ h => h) (by first | (refine Or.inl ⟨by rfl, ?_⟩; intro W hW; go_simp; try with_reducible rfl) | exact Or.inr ⟨by rfl, rfl⟩) ?_; try simp only [Act.put, List.setIfInBounds_toArray, List.set_cons_zero, List.set_cons_succ])
  (refine takeE Ext.tr 5 (by simp only [List.getElem?_toArray, List.getElem?_cons_succ, List.getElem?_cons_zero]; rfl) (by kernel_rfl) (by kernel_rfl) (by kernel_rfl) (by exact fun _ _ _ h => h) (by first | (refine Or.inl ⟨by rfl, ?_⟩; intro W hW; go_simp; try with_reducible rfl) | exact Or.inr ⟨by rfl, rfl⟩) ?_; try simp only [Act.put, List.setIfInBounds_toArray, List.set_cons_zero, List.set_cons_succ])
  (refine takeE Ext.tr 6 (by simp only [List.getElem?_toArray, List.getElem?_cons_succ, List.getElem?_cons_zero]; rfl) (by kernel_rfl) (by kernel_rfl) (by kernel_rfl) (by exact fun _ _ _ h => h) (by first | (refine Or.inl ⟨by rfl, ?_⟩; intro W hW; go_simp; try with_reducible rfl) | exact Or.inr ⟨by rfl, rfl⟩) ?_; try simp only [Act.put, List.setIfInBounds_toArray, List.set_cons_zero, List.set_cons_succ])
  (refine takeE Ext.tr 10 (by simp only [List.getElem?_toArray, List.getElem?_cons_succ, List.getElem?_cons_zero]; rfl) (by kernel_rfl) (by kernel_rfl) (by kernel_rfl) (by exact fun _ _ _ h => h) (by first | (refine Or.inl ⟨by rfl, ?_⟩; intro W hW; go_simp; try with_reducible rfl) | exact Or.inr ⟨by rfl, rfl⟩) ?_; try simp only [Act.put, List.setIfInBounds_toArray, List.set_cons_zero, List.set_cons_succ])
  (refine takeE Ext.tr 7 (by simp only [List.getElem?_toArray, List.getElem?_cons_succ, List.getElem?_cons_zero]; rfl) (by kernel_rfl) (by kernel_rfl) (by kernel_rfl) (by exact fun _ _ _ h => h) (by first | (refine Or.inl ⟨by rfl, ?_⟩; intro W hW; go_simp; try with_reducible rfl) | exact Or.inr ⟨by rfl, rfl⟩) ?_; try simp only [Act.put, List.setIfInBounds_toArray, List.set_cons_zero, List.set_cons_succ])
  (refine takeE Ext.tr 11 (by simp only [List.getElem?_toArray, List.getElem?_cons_succ, List.getElem?_cons_zero]; rfl) (by kernel_rfl) (by kernel_rfl) (by kernel_rfl) (by exact fun _ _ _ h => h) (by first | (refine Or.inl ⟨by rfl, ?_⟩; intro W hW; go_simp; try with_reducible rfl) | exact Or.inr ⟨by rfl, rfl⟩) ?_; try simp only [Act.put, List.setIfInBounds_toArray, List.set_cons_zero, List.set_cons_succ])
  (refine takeE Ext.tr 8 (by simp only [List.getElem?_toArray, List.getElem?_cons_succ, List.getElem?_cons_zero]; rfl) (by kernel_rfl) (by kernel_rfl) (by kernel_rfl) (by exact fun _ _ _ h => h) (by first | (refine Or.inl ⟨by rfl, ?_⟩; intro W hW; go_simp; try with_reducible rfl) | exact Or.inr ⟨by rfl, rfl⟩) ?_; try simp only [Act.put, List.setIfInBounds_toArray, List.set_cons_zero, List.set_cons_succ])
  (refine takeE Ext.tr 9 (by simp only [List.getElem?_toArray, List.getElem?_cons_succ, List.getElem?_cons_zero]; rfl) (by kernel_rfl) (by kernel_rfl) (by kernel_rfl) (by exact fun _ _ _ h => h) (by first | (refine Or.inl ⟨by rfl, ?_⟩; intro W hW; go_simp; try with_reducible rfl) | exact Or.inr ⟨by rfl, rfl⟩) ?_; try simp only [Act.put, List.setIfInBounds_toArray, List.set_cons_zero, List.set_cons_succ])
  refine wpAnyE_one (i := 12) (by kernel_rfl) (by simp only [List.getElem?_toArray, List.getElem?_cons_succ, List.getElem?_cons_zero]; rfl) (fun K hK => ?_)
  go_simp
  refine (b_has HX2.out.bm q.h.sq).mono ?_
  rintro en w3 ⟨rfl, hb3⟩
  rw [show m.bm.has q.h.sq = false from hhs]
  have HB3 := Lib.hid (HB2.out.trans (hb3.mono HB2.out.size))
  have HZ3 := Lib.hid (HZ2.out.below hb3)
  have HB3' := Lib.hid hb3
  clear hb3
  refine hK.out _ _ HB3'.out ?_
  clear hK K
  try simp only [Act.put, List.setIfInBounds_toArray, List.set_cons_zero, List.set_cons_succ]
  (refine takeE Ext.tr 13 (by simp only [List.getElem?_toArray, List.getElem?_cons_succ, List.getElem?_cons_zero]; rfl) (by kernel_rfl) (by kernel_rfl) (by kernel_rfl) (by exact fun _ _ _ h => h) (by first | (refine Or.inl ⟨by rfl, ?_⟩; intro W hW; go_simp; try with_reducible rfl) | exact Or.inr ⟨by rfl, rfl⟩) ?_; try simp only [Act.put, List.setIfInBounds_toArray, List.set_cons_zero, List.set_cons_succ])
  (refine takeE Ext.tr 14 (by simp only [List.getElem?_toArray, List.getElem?_cons_succ, List.getElem?_cons_zero]; rfl) (by kernel_rfl) (by kernel_rfl) (by kernel_rfl) (by exact fun _ _ _ h => h) (by first | (refine Or.inl ⟨by rfl, ?_⟩; intro W hW; go_simp; try with_reducible rfl) | exact Or.inr ⟨by rfl, rfl⟩) ?_; try simp only [Act.put, List.setIfInBounds_toArray, List.set_cons_zero, List.set_cons_succ])
  refine wpAnyE_done (by kernel_rfl) ?_ _
  clear q1 q2 q3
  have HE3' := Lib.hid (HH.out.below HB3.out)
  obtain ⟨n, hn, h1, h3, h4⟩ := Rm.hs_no hhs htk
  have HIN := Lib.hid (e_inWin HE3'.out.en n h1 (by omega))
  have hiw : decide (n < m.base + m.size) = true := by
    have := hin
    unfold Rm.inw at this
    rw [show q.pk.h.sq = ((n : Nat) : Int) from hn] at this
    rw [← this]
    by_cases hc : n < m.base + m.size
    · rw [decide_eq_true hc, decide_eq_true (by omega)]
    · rw [decide_eq_false hc, decide_eq_false (by omega)]
  rw [hiw, ← (show q.h.sq = ((n : Nat) : Int) from hn)] at HIN
  have c6 := HZ3.out.cell 6 rfl
  have HHN := Lib.hid (And.intro hn (And.intro h1 (And.intro h3 h4)))
  clear hx hn h1 h3 h4
  go_wp2_with fail
  refine HIN.out.mono ?_
  rintro en w4 ⟨rfl, hb4⟩
  have HB4 := Lib.hid (HB3.out.trans (hb4.mono HB3.out.size))
  have HZ4 := Lib.hid (HZ3.out.below hb4)
  clear hb4 HIN c6
  have HT1 : Hid (m.take q.pk = m.cnt ∧ m.ans q.pk = [(ansV m 3 q.pk).pk] ∧ m.told q.pk = []) := Lib.hid ⟨by unfold Rm.take; rw [if_neg (by rw [htk]; decide), if_neg hdh, if_neg (by rw [hin]; decide), if_pos h8], by unfold Rm.ans; rw [if_neg (by rw [htk]; decide), if_neg hdh, if_neg (by rw [hin]; decide), if_pos h8], by unfold Rm.told; rw [if_neg (by rw [htk]; decide), if_neg hdh, if_neg (by rw [hin]; decide), if_pos h8]⟩
  clear htk hdn hhs hin hdh
  have h8 : hasB q.h.fl 8 = true := h8
  have HH8 : Hid (∀ W : World, Calls Try.prog 38 #[.int .i64 q.h.fl, .int .i64 8] W fun e w' => e = .returned (.bool true) ∧ W = w') := Lib.hid fun W => by have := v_has8 q.h.fl W hf; rw [h8] at this; exact this
  obtain ⟨pb4, mb4, g4, FJ4, FP4, jm4, hx4⟩ := (HH.out.below HB4.out).en
  have c11 := hx4.bk.cell 11 rfl
  have f11 := hx4.bk.free 11
  have c12 := hx4.bk.cell 12 rfl
  have f12 := hx4.bk.free 12
  have c1 := HZ4.out.cell 1 rfl
  have hct := hm.ct
  obtain ⟨W5, hW5⟩ : ∃ W5, W5 = (w4.setCell ⟨e, 11, none⟩ (.int .i64 ((m.ar : Int) + 1))).setCell ⟨e, 12, none⟩ (.int .i64 ((m.pd : Int) + 1)) := ⟨_, rfl⟩
  have hs5 : St (· = e) w4 W5 := by
    rw [hW5]
    exact (St.setCell (F := (· = e)) w4 (a := ⟨e, 11, none⟩) rfl _).trans (St.setCell (F := (· = e)) _ (a := ⟨e, 12, none⟩) rfl _) (Gr.refl _ _)
  have bk5 : Bk W5 89 e [.pointer (some ⟨pb4, 0, none⟩), .int .i64 m.cnt.sr, .int .i64 m.cnt.ds, .int .i64 m.cnt.cn, .int .i64 m.cnt.cl, .int .i64 0, .int .i64 0, .int .i64 0, .int .i64 m.cnt.pl, .int .i64 0, .int .i64 0, .int .i64 m.cnt.ar, .int .i64 m.cnt.pd, .bool false, .bool m.cnt.dn, .int .i64 m.cnt.pa, .map mb4, .pointer (some ⟨g4, 0, none⟩)] := by
    rw [hW5]
    exact (hx4.bk.set 11 (.int .i64 ((m.ar : Int) + 1))).set 12 (.int .i64 ((m.pd : Int) + 1))
  have HC5 : Hid (EnC F W5 e m.cnt) := Lib.hid ⟨pb4, mb4, g4, FJ4, FP4, jm4, hx4.line hs5 bk5 rfl rfl rfl rfl⟩
  have HS5 : Hid (St F w W5) := Lib.hid ((St.ext HB4.out).trans (hs5.mono fun k _ hk => hk ▸ hx4.fe) (Gr.refl _ _))
  have HZ5 := Lib.hid (HZ4.out.st hs5 (by omega))
  have HS45 := Lib.hid hs5
  clear hs5 bk5 hx4 h8 hiw
  go_wp2_with fail
  try rw [← hW5]
  refine (HH8.out _).mono ?_
  rintro en w6 ⟨rfl, rfl⟩
  have z5 := HZ5.out
  have HE5 := Lib.hid (e_answer HC5.out 3 q)
  clear hW5
  go_wp2_with (first
    | (with_reducible refine at_load 40 (.tmp 3) (by rfl) ?_
       refine wpList_load_pk rowP rfl (.tmp 3) rfl q w.heap.size 0 rfl (Bk.pk z5) ?_)
    | (go_at_call 36; refine HE5.out.mono ?_; rintro en w7 ⟨A, c, rfl, hsl, hb7⟩))
  go_ret2
  have hsz := HS5.out.size
  have h5 : RcA F W5 r e m.cnt := HH.out.turn HC5.out HS5.out (Gr.refl _ _)
  exact ⟨A, 1, c, none, 0, 0, F, rfl, by rw [HT1.out.1]; exact h5.below hb7, HS5.out.trans (St.ext hb7) (Gr.refl _ _), Gr.refl _ _, by rw [HT1.out.2.1]; exact hsl.mono fun k hk => by have := HH.out.lt k hk; omega, by rw [HT1.out.2.2]; exact OutR.nil _ _ _, fun hn ad he => by have := hsl.off hn ad he; omega⟩
theorem OutR.wide {w1 W : World} {A : Option Addr} {n c : Nat} {ms : List (List Int)} (h : OutR F w1 W A n c ms) (hw : w.heap.size ≤ w1.heap.size) (hr : r < w1.heap.size) : OutR (FR F r) w W A n c ms := by
  obtain ⟨bs, h1, h2, h3⟩ := h
  have hh : ∀ k, (w1.heap.size ≤ k ∧ ¬ F k) → w.heap.size ≤ k ∧ ¬ FR F r k := fun k hk => ⟨by omega, by
    rintro (hf | rfl)
    · exact hk.2 hf
    · omega⟩
  exact ⟨bs, h1.mono hh, h2, fun b hb => ⟨(h3 b hb).1, fun k hk => hh k ((h3 b hb).2 k hk)⟩⟩
theorem e_advC (h : EnC F w e m) (hm : m.Ok) (hd : m.dn = false) : Calls Try.prog 40 #[.pointer (some ⟨e, 0, none⟩)] w fun en w' => ∃ A n c F', en = .returned (.slice A n c) ∧ EnC F' w' e m.adv ∧ OutR F' w w' A n c m.av.out ∧ St F w w' ∧ Gr F F' w.heap.size := by
  obtain ⟨pb, mb, g, FJ, FP, jm, h⟩ := h
  obtain ⟨rfl, b, rfl⟩ := h.jd hd
  exact e_adv h hm hd
set_option maxHeartbeats 8000000 in
theorem v_take_keep (h : RcA F w r e m) (hm : m.Ok) (q : Pv) (hq : PvR (FR F r) w q) (htk : q.pk.tkn = true) (hdn : m.dn = false) (hhs : m.hs q.pk = false) (hin : m.inw q.pk = true) (h8 : hasB q.pk.h.fl 8 = false) (hl : m.base + m.ks.length < 1000000) (ha : m.ar < 1000000000) : Calls Try.prog 9 #[.pointer (some ⟨r, 0, none⟩), .agg #[.int .i64 q.h.kd, .int .i64 q.h.fl, .int .i64 q.h.pa, .int .i64 q.h.sr, .int .i64 q.h.ds, .int .i64 q.h.cn, .int .i64 q.h.sq, .int .i64 q.h.pu, .slice q.A q.n q.c]] w (TakR F w r e m q.pk) := by
  have hf := hq.fl
  have hb1 : Below w.heap.size w (w.alloc (.cells #[.int .i64 q.h.kd, .int .i64 q.h.fl, .int .i64 q.h.pa, .int .i64 q.h.sr, .int .i64 q.h.ds, .int .i64 q.h.cn, .int .i64 q.h.sq, .int .i64 q.h.pu, .slice q.A q.n q.c] 40)) := (Below.refl _ w).alloc (Nat.le_refl _) _
  have HM := Lib.hid (v_made (h.below hb1))
  have HT := Lib.hid (v_taken q (w.alloc (.cells #[.int .i64 q.h.kd, .int .i64 q.h.fl, .int .i64 q.h.pa, .int .i64 q.h.sr, .int .i64 q.h.ds, .int .i64 q.h.cn, .int .i64 q.h.sq, .int .i64 q.h.pu, .slice q.A q.n q.c] 40)) hf)
  rw [htk] at HT
  have HB := Lib.hid hb1
  have HZ := Lib.hid (Bk.new w 40 q.cl)
  have HH := Lib.hid h
  have HQ := Lib.hid hq
  have hel := h.en.lte
  have hrl := h.bk.lt
  clear h hq hb1
  go_enter Try.func9, Try.ntmps9
  go_wp2_with fail
  refine HM.out.mono ?_
  rintro en w' ⟨rfl, rfl⟩
  go_wp2_with fail
  refine HT.out.mono ?_
  rintro en w1 ⟨rfl, hb1⟩
  have HB1 := Lib.hid (HB.out.trans (hb1.mono HB.out.size))
  have HZ1 := Lib.hid (HZ.out.below hb1)
  have HH1 := Lib.hid (HH.out.below HB1.out)
  clear hb1 HM HT HB HZ
  have hdh : ¬ (m.dn || m.hs q.pk) = true := by rw [hdn, hhs]; decide
  have c0 := HH1.out.bk.cell 0 rfl
  obtain ⟨pb, mb, g, FJ, FP, jm, hx⟩ := HH.out.en
  go_wp2_with fail
  refine wp_region_E Ext (by kernel_rfl) (fun wd hbd hsz => ?_)
  have HB2 := Lib.hid (HB1.out.trans (hbd.mono HB1.out.size))
  have HX2 := Lib.hid (hx.below HB2.out)
  have HZ2 := Lib.hid (HZ1.out.below hbd)
  have q1 : ∀ V, Ext wd V → V.cell? ⟨e, 14, none⟩ = some (.bool false) := fun V hV => by have := (HX2.out.bk.below hV).cell 14 rfl; rw [hdn] at this; exact this
  have q2 : ∀ V, Ext wd V → V.cell? ⟨e, 0, none⟩ = some (.pointer (some ⟨pb, 0, none⟩)) := fun V hV => (HX2.out.bk.below hV).cell 0 rfl
  have q3 : ∀ V, Ext wd V → V.cell? ⟨w.heap.size, 6, none⟩ = some (.int .i64 q.h.sq) := fun V hV => (HZ2.out.below hV).cell 6 rfl
  clear hsz
  (refine takeE Ext.tr 0 (by simp only [List.getElem?_toArray, List.getElem?_cons_succ, List.getElem?_cons_zero]; rfl) (by kernel_rfl) (by kernel_rfl) (by kernel_rfl) (by exact fun _ _ _ h => h) (by first | (refine Or.inl ⟨by rfl, ?_⟩; intro W hW; go_simp; try with_reducible rfl) | exact Or.inr ⟨by rfl, rfl⟩) ?_; try simp only [Act.put, List.setIfInBounds_toArray, List.set_cons_zero, List.set_cons_succ])
  (refine takeE Ext.tr 1 (by simp only [List.getElem?_toArray, List.getElem?_cons_succ, List.getElem?_cons_zero]; rfl) (by kernel_rfl) (by kernel_rfl) (by kernel_rfl) (by exact fun _ _ _ h => h) (by first | (refine Or.inl ⟨by rfl, ?_⟩; intro W hW; go_simp; try with_reducible rfl) | exact Or.inr ⟨by rfl, rfl⟩) ?_; try simp only [Act.put, List.setIfInBounds_toArray, List.set_cons_zero, List.set_cons_succ])
  (refine takeE Ext.tr 2 (by simp only [List.getElem?_toArray, List.getElem?_cons_succ, List.getElem?_cons_zero]; rfl) (by kernel_rfl) (by kernel_rfl) (by kernel_rfl) (by exact fun _ _ _ h => h) (by first | (refine Or.inl ⟨by rfl, ?_⟩; intro W hW; go_simp; try with_reducible rfl) | exact Or.inr ⟨by rfl, rfl⟩) ?_; try simp only [Act.put, List.setIfInBounds_toArray, List.set_cons_zero, List.set_cons_succ])
  (refine takeE Ext.tr 3 (by simp only [List.getElem?_toArray, List.getElem?_cons_succ, List.getElem?_cons_zero]; rfl) (by kernel_rfl) (by kernel_rfl) (by kernel_rfl) (by exact fun _ _ _ h => h) (by first | (refine Or.inl ⟨by rfl, ?_⟩; intro W hW; go_simp; try with_reducible rfl) | exact Or.inr ⟨by rfl, rfl⟩) ?_; try simp only [Act.put, List.setIfInBounds_toArray, List.set_cons_zero, List.set_cons_succ])
  (refine takeE Ext.tr 4 (by simp only [List.getElem?_toArray, List.getElem?_cons_succ, List.getElem?_cons_zero]; rfl) (by kernel_rfl) (by kernel_rfl) (by kernel_rfl) (by exact fun _ _ _ h => h) (by first | (refine Or.inl ⟨by rfl, ?_⟩; intro W hW; go_simp; try with_reducible rfl) | exact Or.inr ⟨by rfl, rfl⟩) ?_; try simp only [Act.put, List.setIfInBounds_toArray, List.set_cons_zero, List.set_cons_succ])
  (refine takeE Ext.tr 5 (by simp only [List.getElem?_toArray, List.getElem?_cons_succ, List.getElem?_cons_zero]; rfl) (by kernel_rfl) (by kernel_rfl) (by kernel_rfl) (by exact fun _ _ _ h => h) (by first | (refine Or.inl ⟨by rfl, ?_⟩; intro W hW; go_simp; try with_reducible rfl) | exact Or.inr ⟨by rfl, rfl⟩) ?_; try simp only [Act.put, List.setIfInBounds_toArray, List.set_cons_zero, List.set_cons_succ])
  (refine takeE Ext.tr 6 (by simp only [List.getElem?_toArray, List.getElem?_cons_succ, List.getElem?_cons_zero]; rfl) (by kernel_rfl) (by kernel_rfl) (by kernel_rfl) (by exact fun _ _ _ h => h) (by first | (refine Or.inl ⟨by rfl, ?_⟩; intro W hW; go_simp; try with_reducible rfl) | exact Or.inr ⟨by rfl, rfl⟩) ?_; try simp only [Act.put, List.setIfInBounds_toArray, List.set_cons_zero, List.set_cons_succ])
  (refine takeE Ext.tr 10 (by simp only [List.getElem?_toArray, List.getElem?_cons_succ, List.getElem?_cons_zero]; rfl) (by kernel_rfl) (by kernel_rfl) (by kernel_rfl) (by exact fun _ _ _ h => h) (by first | (refine Or.inl ⟨by rfl, ?_⟩; intro W hW; go_simp; try with_reducible rfl) | exact Or.inr ⟨by rfl, rfl⟩) ?_; try simp only [Act.put, List.setIfInBounds_toArray, List.set_cons_zero, List.set_cons_succ])
  (refine takeE Ext.tr 7 (by simp only [List.getElem?_toArray, List.getElem?_cons_succ, List.getElem?_cons_zero]; rfl) (by kernel_rfl) (by kernel_rfl) (by kernel_rfl) (by exact fun _ _ _ h => h) (by first | (refine Or.inl ⟨by rfl, ?_⟩; intro W hW; go_simp; try with_reducible rfl) | exact Or.inr ⟨by rfl, rfl⟩) ?_; try simp only [Act.put, List.setIfInBounds_toArray, List.set_cons_zero, List.set_cons_succ])
  (refine takeE Ext.tr 11 (by simp only [List.getElem?_toArray, List.getElem?_cons_succ, List.getElem?_cons_zero]; rfl) (by kernel_rfl) (by kernel_rfl) (by kernel_rfl) (by exact fun _ _ _ h => h) (by first | (refine Or.inl ⟨by rfl, ?_⟩; intro W hW; go_simp; try with_reducible rfl) | exact Or.inr ⟨by rfl, rfl⟩) ?_; try simp only [Act.put, List.setIfInBounds_toArray, List.set_cons_zero, List.set_cons_succ])
  (refine takeE Ext.tr 8 (by simp only [List.getElem?_toArray, List.getElem?_cons_succ, List.getElem?_cons_zero]; rfl) (by kernel_rfl) (by kernel_rfl) (by kernel_rfl) (by exact fun _ _ _ h => h) (by first | (refine Or.inl ⟨by rfl, ?_⟩; intro W hW; go_simp; try with_reducible rfl) | exact Or.inr ⟨by rfl, rfl⟩) ?_; try simp only [Act.put, List.setIfInBounds_toArray, List.set_cons_zero, List.set_cons_succ])
  (refine takeE Ext.tr 9 (by simp only [List.getElem?_toArray, List.getElem?_cons_succ, List.getElem?_cons_zero]; rfl) (by kernel_rfl) (by kernel_rfl) (by kernel_rfl) (by exact fun _ _ _ h => h) (by first | (refine Or.inl ⟨by rfl, ?_⟩; intro W hW; go_simp; try with_reducible rfl) | exact Or.inr ⟨by rfl, rfl⟩) ?_; try simp only [Act.put, List.setIfInBounds_toArray, List.set_cons_zero, List.set_cons_succ])
  refine wpAnyE_one (i := 12) (by kernel_rfl) (by simp only [List.getElem?_toArray, List.getElem?_cons_succ, List.getElem?_cons_zero]; rfl) (fun K hK => ?_)
  go_simp
  refine (b_has HX2.out.bm q.h.sq).mono ?_
  rintro en w3 ⟨rfl, hb3⟩
  rw [show m.bm.has q.h.sq = false from hhs]
  have HB3 := Lib.hid (HB2.out.trans (hb3.mono HB2.out.size))
  have HZ3 := Lib.hid (HZ2.out.below hb3)
  have HB3' := Lib.hid hb3
  clear hb3
  refine hK.out _ _ HB3'.out ?_
  clear hK K
  try simp only [Act.put, List.setIfInBounds_toArray, List.set_cons_zero, List.set_cons_succ]
  (refine takeE Ext.tr 13 (by simp only [List.getElem?_toArray, List.getElem?_cons_succ, List.getElem?_cons_zero]; rfl) (by kernel_rfl) (by kernel_rfl) (by kernel_rfl) (by exact fun _ _ _ h => h) (by first | (refine Or.inl ⟨by rfl, ?_⟩; intro W hW; go_simp; try with_reducible rfl) | exact Or.inr ⟨by rfl, rfl⟩) ?_; try simp only [Act.put, List.setIfInBounds_toArray, List.set_cons_zero, List.set_cons_succ])
  (refine takeE Ext.tr 14 (by simp only [List.getElem?_toArray, List.getElem?_cons_succ, List.getElem?_cons_zero]; rfl) (by kernel_rfl) (by kernel_rfl) (by kernel_rfl) (by exact fun _ _ _ h => h) (by first | (refine Or.inl ⟨by rfl, ?_⟩; intro W hW; go_simp; try with_reducible rfl) | exact Or.inr ⟨by rfl, rfl⟩) ?_; try simp only [Act.put, List.setIfInBounds_toArray, List.set_cons_zero, List.set_cons_succ])
  refine wpAnyE_done (by kernel_rfl) ?_ _
  clear q1 q2 q3
  have HE3' := Lib.hid (HH.out.below HB3.out)
  obtain ⟨n, hn, h1, h3, h4⟩ := Rm.hs_no hhs htk
  have HIN := Lib.hid (e_inWin HE3'.out.en n h1 (by omega))
  have hiw : decide (n < m.base + m.size) = true := by
    have := hin
    unfold Rm.inw at this
    rw [show q.pk.h.sq = ((n : Nat) : Int) from hn] at this
    rw [← this]
    by_cases hc : n < m.base + m.size
    · rw [decide_eq_true hc, decide_eq_true (by omega)]
    · rw [decide_eq_false hc, decide_eq_false (by omega)]
  rw [hiw, ← (show q.h.sq = ((n : Nat) : Int) from hn)] at HIN
  have c6 := HZ3.out.cell 6 rfl
  have HHN := Lib.hid (And.intro hn (And.intro h1 (And.intro h3 h4)))
  clear hx hn h1 h3 h4
  go_wp2_with fail
  refine HIN.out.mono ?_
  rintro en w4 ⟨rfl, hb4⟩
  have HB4 := Lib.hid (HB3.out.trans (hb4.mono HB3.out.size))
  have HZ4 := Lib.hid (HZ3.out.below hb4)
  clear hb4 HIN c6
  have HT1 : Hid (m.take q.pk = (m.cnt.kept q.pk).adv ∧ m.ans q.pk = [(ansV m 2 q.pk).pk] ∧ m.told q.pk = (m.cnt.kept q.pk).av.out) := Lib.hid ⟨by unfold Rm.take; rw [if_neg (by rw [htk]; decide), if_neg hdh, if_neg (by rw [hin]; decide), if_neg (by rw [h8]; decide)], by unfold Rm.ans; rw [if_neg (by rw [htk]; decide), if_neg hdh, if_neg (by rw [hin]; decide), if_neg (by rw [h8]; decide)], by unfold Rm.told; rw [if_neg (by rw [htk]; decide), if_neg hdh, if_neg (by rw [hin]; decide), if_neg (by rw [h8]; decide)]⟩
  have HDN := Lib.hid hdn
  clear htk hdn hhs hin hdh
  have h8 : hasB q.h.fl 8 = false := h8
  have HIW := Lib.hid hiw
  have HH8 : Hid (∀ W : World, Calls Try.prog 38 #[.int .i64 q.h.fl, .int .i64 8] W fun e w' => e = .returned (.bool false) ∧ W = w') := Lib.hid fun W => by have := v_has8 q.h.fl W hf; rw [h8] at this; exact this
  obtain ⟨pb4, mb4, g4, FJ4, FP4, jm4, hx4⟩ := (HH.out.below HB4.out).en
  have c11 := hx4.bk.cell 11 rfl
  have f11 := hx4.bk.free 11
  have c12 := hx4.bk.cell 12 rfl
  have f12 := hx4.bk.free 12
  have c1 := HZ4.out.cell 1 rfl
  have hct := hm.ct
  obtain ⟨W5, hW5⟩ : ∃ W5, W5 = (w4.setCell ⟨e, 11, none⟩ (.int .i64 ((m.ar : Int) + 1))).setCell ⟨e, 12, none⟩ (.int .i64 ((m.pd : Int) + 1)) := ⟨_, rfl⟩
  have hs5 : St (· = e) w4 W5 := by
    rw [hW5]
    exact (St.setCell (F := (· = e)) w4 (a := ⟨e, 11, none⟩) rfl _).trans (St.setCell (F := (· = e)) _ (a := ⟨e, 12, none⟩) rfl _) (Gr.refl _ _)
  have bk5 : Bk W5 89 e [.pointer (some ⟨pb4, 0, none⟩), .int .i64 m.cnt.sr, .int .i64 m.cnt.ds, .int .i64 m.cnt.cn, .int .i64 m.cnt.cl, .int .i64 0, .int .i64 0, .int .i64 0, .int .i64 m.cnt.pl, .int .i64 0, .int .i64 0, .int .i64 m.cnt.ar, .int .i64 m.cnt.pd, .bool false, .bool m.cnt.dn, .int .i64 m.cnt.pa, .map mb4, .pointer (some ⟨g4, 0, none⟩)] := by
    rw [hW5]
    exact (hx4.bk.set 11 (.int .i64 ((m.ar : Int) + 1))).set 12 (.int .i64 ((m.pd : Int) + 1))
  have HC5 : Hid (EnC F W5 e m.cnt) := Lib.hid ⟨pb4, mb4, g4, FJ4, FP4, jm4, hx4.line hs5 bk5 rfl rfl rfl rfl⟩
  have HS5 : Hid (St F w W5) := Lib.hid ((St.ext HB4.out).trans (hs5.mono fun k _ hk => hk ▸ hx4.fe) (Gr.refl _ _))
  have HZ5 := Lib.hid (HZ4.out.st hs5 (by omega))
  have HS45 := Lib.hid hs5
  clear hs5 bk5 hx4 h8 hiw
  go_wp2_with fail
  try rw [← hW5]
  refine (HH8.out _).mono ?_
  rintro en w6 ⟨rfl, rfl⟩
  have z5 := HZ5.out
  clear hW5
  have hq5 : PvR F W5 q := (HQ.out.mono (fun k hk => (.inl hk : FR F r k))).st HS5.out (Gr.refl _ _)
  have HKE : Hid (Calls Try.prog 39 #[.pointer (some ⟨e, 0, none⟩), .agg #[.int .i64 q.h.kd, .int .i64 q.h.fl, .int .i64 q.h.pa, .int .i64 q.h.sr, .int .i64 q.h.ds, .int .i64 q.h.cn, .int .i64 q.h.sq, .int .i64 q.h.pu, .slice q.A q.n q.c]] W5 fun en w' => (∃ v, en = .returned v) ∧ DidE F W5 e (m.cnt.kept q.pk) w') := Lib.hid (e_keep HC5.out HDN.out q hq5 n HHN.out.1 HHN.out.2.1 (of_decide_eq_true HIW.out) HHN.out.2.2.1 HHN.out.2.2.2)
  have HOK : Hid ((m.cnt.kept q.pk).Ok) := Lib.hid ((hm.cnt ha).kept HHN.out.1 HHN.out.2.1 (of_decide_eq_true HIW.out) HHN.out.2.2.1 HHN.out.2.2.2 HDN.out hl (by have h1 := HQ.out.len; have h2 := HQ.out.2.1; show q.xs.length ≤ 1100; omega))
  clear hq5
  go_wp2_with (first
    | (with_reducible refine at_load 40 (.tmp 3) (by rfl) ?_
       refine wpList_load_pk rowP rfl (.tmp 3) rfl q w.heap.size 0 rfl (Bk.pk z5) ?_))
  refine HKE.out.mono ?_
  rintro en w7 ⟨⟨v, rfl⟩, F2, he7, hs7, hg7⟩
  have z7 := z5.st hs7 (fun hf => by have := HH.out.en.lt _ hf; omega)
  have HE7 := Lib.hid (e_answer he7 2 q)
  have HC7 := Lib.hid he7
  have HS7 := Lib.hid (HS5.out.trans hs7 (Gr.refl _ _))
  have HG7 := Lib.hid (show Gr F F2 w.heap.size from fun k hk => (hg7 k hk).imp id (fun h => Nat.le_trans HS5.out.size h))
  clear he7 hs7 hg7 HKE
  go_wp2_with (first
    | (with_reducible refine at_load 40 (.tmp 3) (by rfl) ?_
       refine wpList_load_pk rowP rfl (.tmp 3) rfl q w.heap.size 0 rfl (Bk.pk z7) ?_)
    | (go_at_call 36; refine HE7.out.mono ?_; rintro en w8 ⟨A, c, rfl, hsl, hb8⟩; have HSL := Lib.hid hsl; have HB8 := Lib.hid hb8; clear hsl hb8))
  have HAD := Lib.hid (e_advC (HC7.out.below HB8.out) HOK.out HDN.out)
  refine HAD.out.mono ?_
  rintro en w9 ⟨B, k, d, F3, rfl, he9, ho9, hs9, hg9⟩
  have HC9 := Lib.hid he9
  have HO9 := Lib.hid ho9
  have HS9 := Lib.hid hs9
  have HG9 := Lib.hid hg9
  clear he9 ho9 hs9 hg9 HAD
  go_wp2
  go_ret2
  have z1 := HS7.out.size
  have z2 := HB8.out.size
  have z3 := HS9.out.size
  have hst8 : St F w w8 := HS7.out.trans (St.ext HB8.out) (Gr.refl _ _)
  have hst : St F w w9 := hst8.trans HS9.out HG7.out
  have hgr : Gr F F3 w.heap.size := HG7.out.trans HG9.out (by omega)
  refine ⟨A, 1, c, B, k, d, F3, rfl, by rw [HT1.out.1]; exact HH.out.turn HC9.out hst hgr, hst, hgr, ?_, by rw [HT1.out.2.2]; exact HO9.out.wide (by omega) (by omega), fun hn ad he => by have := HSL.out.off hn ad he; omega⟩
  rw [HT1.out.2.1]
  have hs1 : SlP (FR F2 r) w8 A 1 c [(ansV m 2 q.pk).pk] := HSL.out.mono (fun x hx => by
    rcases hx with hx | rfl
    · exact HC7.out.lt x hx
    · omega)
  refine hs1.st (HS9.out.mono fun x _ hx => .inl hx) ?_
  rintro x (hx | rfl)
  · exact (HG9.out x hx).elim (fun h => .inl (.inl h)) .inr
  · exact .inl (.inr rfl)
theorem v_take (h : RcA F w r e m) {c : Nat} (hm : m.Fit c) (hc : c < 1000000) (q : Pv) (hq : PvR (FR F r) w q) : Calls Try.prog 9 #[.pointer (some ⟨r, 0, none⟩), .agg #[.int .i64 q.h.kd, .int .i64 q.h.fl, .int .i64 q.h.pa, .int .i64 q.h.sr, .int .i64 q.h.ds, .int .i64 q.h.cn, .int .i64 q.h.sq, .int .i64 q.h.pu, .slice q.A q.n q.c]] w (TakR F w r e m q.pk) := by
  have hl := hm.lc
  have ha := hm.ac
  cases htk : q.pk.tkn with
  | false => exact v_take_no h hm.ok q hq htk
  | true =>
    cases hdn : m.dn with
    | true => exact v_take_done h hm.ok q hq htk hdn
    | false =>
      cases hhs : m.hs q.pk with
      | true => exact v_take_ack h hm.ok q hq htk hdn hhs
      | false =>
        cases hin : m.inw q.pk with
        | false => exact v_take_out h hm.ok q hq htk hdn hhs hin
        | true =>
          cases h8 : hasB q.pk.h.fl 8 with
          | true => exact v_take_nack h hm.ok q hq htk hdn hhs hin h8
          | false => exact v_take_keep h hm.ok q hq htk hdn hhs hin h8 (by omega) (by omega)

end
end Go.Proofs.Ytmmjhijgedboiaa
