/- A call of both. -/
import Derived.Test.YtdldocbfnjbhmaaK21
import Derived.Test.YtdldocbfnjbhmaaOpenV
set_option linter.unusedSimpArgs false
set_option linter.unusedVariables false
set_option maxRecDepth 100000
namespace Go.Proofs.Ytdldocbfnjbhmaa
open Go.RowKit Go.Shelf
/-- What a call of both makes of them. -/
def StepP (F Kp : Nat → Prop) (w : World) (p : Nat) (m2 : Pm) (v2 : Rv) (w' : World) : Prop := ∃ F', PcA F' w' p m2 ∧ RpR (fun j => ¬ F' j ∧ ¬ Kp j) w' v2 m2 ∧ St F w w' ∧ Gr F F' w.heap.size
section
variable {F : Nat → Prop} {w w' w1 : World} {p : Nat} {m m2 : Pm} {v v2 : Rv} {k : Ky}
theorem rp_gr {F' : Nat → Prop} (h : RpR (fun j => ¬ F j) w v m) (hs : St F w w1) (hg : Gr F F' w.heap.size) : RpR (fun j => ¬ F' j) w1 v m :=
  (h.low.st hs fun j hj => hj.1).mono fun j hj => hg.not hj.2 hj.1
theorem key_eqlV (a : Ky) (V : World) : (binOp .eql 39 (.agg #[.int .i64 a.s, .int .i64 a.c]) (.agg #[.int .i64 a.s, .int .i64 a.c])).run Try.prog V = .ok (.bool true) V := by rw [key_eql, decide_eq_true rfl]
/-- What is done, and with what. -/
structure Ov where
  d : Int
  k : Ky
  g : Int
  n : Int
def Ov.cl (o : Ov) : List Value := [.int .u8 o.d, .int .i64 o.k.s, .int .i64 o.k.c, .int .i64 o.g, .int .i64 o.n]
/-- What the call makes of a pacer. -/
def Pm.step (m : Pm) (o : Ov) : Pm := if o.d % 8 = 0 then (m.knowR o.k o.g).1 else if o.d % 8 = 4 then (m.forgetR o.k).1 else if o.d % 8 = 5 ∨ o.d % 8 = 6 then m.tickR.1 else (m.oweR o.k o.n).1
theorem num_know (m : Pm) (k : Ky) (g : Int) : (m.knowR k g).1.most = m.most ∧ (m.knowR k g).1.run = m.run ∧ (m.knowR k g).1.total = m.total := by
  unfold Pm.knowR
  split
  · split
    · exact ⟨rfl, rfl, rfl⟩
    · split <;> exact ⟨rfl, rfl, rfl⟩
  · exact ⟨rfl, rfl, rfl⟩
theorem num_owe (m : Pm) (k : Ky) (n : Int) : (m.oweR k n).1.most = m.most ∧ (m.oweR k n).1.run = m.run ∧ (m.oweR k n).1.total = m.total := by
  unfold Pm.oweR
  split
  · exact ⟨rfl, rfl, rfl⟩
  · split
    · exact ⟨rfl, rfl, rfl⟩
    · split
      · exact ⟨rfl, rfl, rfl⟩
      · next ix _ _ _ =>
        obtain ⟨e1, e2, e3, e4⟩ := push_total m ix.2.g ix.2.k
        unfold Pm.owe Pm.setL
        dsimp only
        split
        · exact ⟨e2, e4, e1⟩
        · exact ⟨rfl, rfl, rfl⟩
theorem num_forget (m : Pm) (k : Ky) : (m.forgetR k).1.most = m.most ∧ (m.forgetR k).1.run = m.run ∧ (m.forgetR k).1.total = m.total := by
  unfold Pm.forgetR
  split <;> exact ⟨rfl, rfl, rfl⟩
set_option maxHeartbeats 16000000 in
theorem l_step (h : PcA F w p m) {Kp : Nat → Prop} (hr : RpR (fun j => ¬ F j ∧ ¬ Kp j) w v m) (hK : ∀ j, Kp j → j < w.heap.size) (ok : m.Ok) (ht : m.total ≤ 4611686018427387903) (o : Ov) (hd : 0 ≤ o.d ∧ o.d < 256) :
    Calls Try.prog 15 #[.pointer (some ⟨p, 0, none⟩), .agg #[.slice v.A v.n v.c, .slice v.B v.k v.d, .slice v.C v.r v.e, .int .i64 m.most, .int .i64 m.run, .int .i64 m.total], .agg #[.int .u8 o.d, .int .i64 o.k.s, .int .i64 o.k.c, .int .i64 o.g, .int .i64 o.n]] w fun e w' =>
      ∃ v2, e = .returned (.tuple #[.agg #[.slice v2.A v2.n v2.c, .slice v2.B v2.k v2.d, .slice v2.C v2.r v2.e, .int .i64 ((m.step o)).most, .int .i64 ((m.step o)).run, .int .i64 ((m.step o)).total], .bool true]) ∧ StepP F Kp w p (m.step o) v2 w' := by
  obtain ⟨d, k, g, n⟩ := o
  dsimp only at *
  obtain ⟨W, hW⟩ : ∃ W, W = ((w.alloc (.cells #[.slice v.A v.n v.c, .slice v.B v.k v.d, .slice v.C v.r v.e, .int .i64 m.most, .int .i64 m.run, .int .i64 m.total] 30)).alloc (.cells #[.int .u8 d, .int .i64 k.s, .int .i64 k.c, .int .i64 g, .int .i64 n] 37)).alloc (.cells #[.slice none 0 0, .slice none 0 0, .slice none 0 0, .int .i64 0, .int .i64 0, .int .i64 0] 30) := ⟨_, rfl⟩
  have hb1 : Below w.heap.size w W := by rw [hW]; exact (((Below.refl _ w).alloc (Nat.le_refl _) _).alloc (by simp) _).alloc (by simp; omega) _
  have z1 : Bk W 30 w.heap.size ([.slice v.A v.n v.c, .slice v.B v.k v.d, .slice v.C v.r v.e, .int .i64 m.most, .int .i64 m.run, .int .i64 m.total]) := by rw [hW]; exact ((Bk.new w 30 ([.slice v.A v.n v.c, .slice v.B v.k v.d, .slice v.C v.r v.e, .int .i64 m.most, .int .i64 m.run, .int .i64 m.total])).alloc _).alloc _
  have z2 : Bk W 37 (w.heap.size + 1) [.int .u8 d, .int .i64 k.s, .int .i64 k.c, .int .i64 g, .int .i64 n] := by
    have := (Bk.new (w.alloc (.cells #[.slice v.A v.n v.c, .slice v.B v.k v.d, .slice v.C v.r v.e, .int .i64 m.most, .int .i64 m.run, .int .i64 m.total] 30)) 37 [.int .u8 d, .int .i64 k.s, .int .i64 k.c, .int .i64 g, .int .i64 n]).alloc (.cells #[.slice none 0 0, .slice none 0 0, .slice none 0 0, .int .i64 0, .int .i64 0, .int .i64 0] 30)
    rw [World.size_alloc] at this
    rw [hW]; exact this
  have z3 : Bk W 30 (w.heap.size + 2) [.slice none 0 0, .slice none 0 0, .slice none 0 0, .int .i64 0, .int .i64 0, .int .i64 0] := by
    have := Bk.new ((w.alloc (.cells #[.slice v.A v.n v.c, .slice v.B v.k v.d, .slice v.C v.r v.e, .int .i64 m.most, .int .i64 m.run, .int .i64 m.total] 30)).alloc (.cells #[.int .u8 d, .int .i64 k.s, .int .i64 k.c, .int .i64 g, .int .i64 n] 37)) 30 [.slice none 0 0, .slice none 0 0, .slice none 0 0, .int .i64 0, .int .i64 0, .int .i64 0]
    simp only [World.size_alloc] at this
    rw [hW]; exact this
  have hbd := h.bd
  have HKK := Lib.hid hK
  have hn0 : ¬ F w.heap.size := fun e => by have := hbd _ e; omega
  have hn1 : ¬ F (w.heap.size + 1) := fun e => by have := hbd _ e; omega
  have hn2 : ¬ F (w.heap.size + 2) := fun e => by have := hbd _ e; omega
  have HA := Lib.hid (And.intro hb1 (And.intro z1 (And.intro z2 (And.intro z3 (And.intro (h.below hb1) (hr.low.below hb1))))))
  have HN := Lib.hid (And.intro hn0 (And.intro hn1 hn2))
  have HOK := Lib.hid (And.intro ok ht)
  have HSW := Lib.hid (show W.heap.size = w.heap.size + 3 by rw [hW]; simp)
  have hd0 := z2.cell 0 rfl
  obtain ⟨hd1, hd2⟩ := hd
  have HST := Lib.hid (show m.step ⟨d, k, g, n⟩ = if d % 8 = 0 then (m.knowR k g).1 else if d % 8 = 4 then (m.forgetR k).1 else if d % 8 = 5 ∨ d % 8 = 6 then m.tickR.1 else (m.oweR k n).1 from rfl)
  generalize m.step ⟨d, k, g, n⟩ = ms at *
  clear h hr hK ok ht hb1 z1 z2 z3 hbd hn0 hn1 hn2 hd0
  rcases (by omega : d % 8 = 0 ∨ d % 8 = 4 ∨ d % 8 = 5 ∨ d % 8 = 6 ∨ (d % 8 ≠ 0 ∧ d % 8 ≠ 4 ∧ d % 8 ≠ 5 ∧ d % 8 ≠ 6)) with hd8 | hd8 | hd8 | hd8 | hd8
  · have e0 : (d % 8 == 0) = true := by simpa using hd8
    have HST2 : Hid (ms = (m.knowR k g).1) := Lib.hid (by rw [HST.out, if_pos hd8])
    clear hd8
    go_enter Try.func15, Try.ntmps15
    go_wp2_with fail
    rw [← hW]
    clear hW
    have hd0 := HA.out.2.2.1.cell 0 rfl
    refine wp_region_E (St F) (by kernel_rfl) (fun wd hbd hsz => ?_)
    have HAd := Lib.hid (HA.out.2.2.2.2.1.below hbd)
    have zod := HA.out.2.2.1.below hbd
    have HBd := Lib.hid hbd
    have q1 : ∀ V, St F wd V → V.cell? ⟨w.heap.size + 1, 1, none⟩ = some (.int .i64 k.s) := fun V hV => (zod.st hV HN.out.2.1).cell 1 rfl
    have q2 : ∀ V, St F wd V → V.cell? ⟨w.heap.size + 1, 2, none⟩ = some (.int .i64 k.c) := fun V hV => (zod.st hV HN.out.2.1).cell 2 rfl
    have q3 : ∀ V, St F wd V → V.cell? ⟨w.heap.size + 1, 3, none⟩ = some (.int .i64 g) := fun V hV => (zod.st hV HN.out.2.1).cell 3 rfl
    have q4 : ∀ V, St F wd V → V.cell? ⟨w.heap.size + 1, 4, none⟩ = some (.int .i64 n) := fun V hV => (zod.st hV HN.out.2.1).cell 4 rfl
    have HEO := Lib.hid HBd.out
    clear hsz
    (refine takeE (St.tr F) 0 (by simp only [List.getElem?_toArray, List.getElem?_cons_succ, List.getElem?_cons_zero]; rfl) (by kernel_rfl) (by kernel_rfl) (by kernel_rfl) (by exact fun _ _ _ h => h) (by first | (refine Or.inl ⟨by rfl, ?_⟩; intro W hW; go_simp; try with_reducible rfl) | exact Or.inr ⟨by rfl, rfl⟩) ?_; try simp only [Act.put, List.setIfInBounds_toArray, List.set_cons_zero, List.set_cons_succ])
    (refine takeE (St.tr F) 1 (by simp only [List.getElem?_toArray, List.getElem?_cons_succ, List.getElem?_cons_zero]; rfl) (by kernel_rfl) (by kernel_rfl) (by kernel_rfl) (by exact fun _ _ _ h => h) (by first | (refine Or.inl ⟨by rfl, ?_⟩; intro W hW; go_simp; try with_reducible rfl) | exact Or.inr ⟨by rfl, rfl⟩) ?_; try simp only [Act.put, List.setIfInBounds_toArray, List.set_cons_zero, List.set_cons_succ])
    (refine takeE (St.tr F) 4 (by simp only [List.getElem?_toArray, List.getElem?_cons_succ, List.getElem?_cons_zero]; rfl) (by kernel_rfl) (by kernel_rfl) (by kernel_rfl) (by exact fun _ _ _ h => h) (by first | (refine Or.inl ⟨by rfl, ?_⟩; intro W hW; go_simp; try with_reducible rfl) | exact Or.inr ⟨by rfl, rfl⟩) ?_; try simp only [Act.put, List.setIfInBounds_toArray, List.set_cons_zero, List.set_cons_succ])
    (refine takeE (St.tr F) 2 (by simp only [List.getElem?_toArray, List.getElem?_cons_succ, List.getElem?_cons_zero]; rfl) (by kernel_rfl) (by kernel_rfl) (by kernel_rfl) (by exact fun _ _ _ h => h) (by first | (refine Or.inl ⟨by rfl, ?_⟩; intro W hW; go_simp; try with_reducible rfl) | exact Or.inr ⟨by rfl, rfl⟩) ?_; try simp only [Act.put, List.setIfInBounds_toArray, List.set_cons_zero, List.set_cons_succ])
    (refine takeE (St.tr F) 5 (by simp only [List.getElem?_toArray, List.getElem?_cons_succ, List.getElem?_cons_zero]; rfl) (by kernel_rfl) (by kernel_rfl) (by kernel_rfl) (by exact fun _ _ _ h => h) (by first | (refine Or.inl ⟨by rfl, ?_⟩; intro W hW; go_simp; try with_reducible rfl) | exact Or.inr ⟨by rfl, rfl⟩) ?_; try simp only [Act.put, List.setIfInBounds_toArray, List.set_cons_zero, List.set_cons_succ])
    refine wpAnyE_one (i := 3) (by kernel_rfl) (by simp only [List.getElem?_toArray, List.getElem?_cons_succ, List.getElem?_cons_zero]; rfl) (fun K hK => ?_)
    go_simp
    refine (l_of k _).mono ?_
    rintro en u1 ⟨rfl, hbo⟩
    have HEO2 := Lib.hid hbo
    have hso : St F _ u1 := St.ext hbo
    clear hbo
    refine hK.out _ _ hso ?_
    clear hK K
    try simp only [Act.put, List.setIfInBounds_toArray, List.set_cons_zero, List.set_cons_succ]
    refine wpAnyE_one (i := 6) (by kernel_rfl) (by simp only [List.getElem?_toArray, List.getElem?_cons_succ, List.getElem?_cons_zero]; rfl) (fun K hK => ?_)
    go_simp
    refine (p_know (HAd.out.below HEO2.out) k g).mono ?_
    rintro en w2 ⟨rfl, hd2⟩
    have HB0 := Lib.hid (HEO.out.trans (HEO2.out.mono HEO.out.size))
    obtain ⟨F', ha2, hs2, hg2⟩ := hd2
    have hb0 := HB0.out
    have hst2 : St F W w2 := (St.ext (F := F) hb0).trans hs2 (Gr.refl _ _)
    have hgr2 : Gr F F' W.heap.size := fun j hj => (hg2 j hj).imp_right fun h => Nat.le_trans hb0.size h
    have hrp2 : RpR (fun j => (¬ F' j ∧ ¬ Kp j) ∧ j < w.heap.size) w2 v m := (HA.out.2.2.2.2.2.st hst2 fun j hj => hj.1.1).mono fun j hj => ⟨⟨hgr2.not (by have := HSW.out; omega) hj.1.1, hj.1.2⟩, hj.2⟩
    have zp2 := HA.out.2.1.st hst2 HN.out.1
    have zo2 := HA.out.2.2.1.st hst2 HN.out.2.1
    have zr2 := HA.out.2.2.2.1.st hst2 HN.out.2.2
    have hF2 : ¬ F' (w.heap.size + 2) := hgr2.not (by have := HSW.out; omega) HN.out.2.2
    have H2 := Lib.hid (And.intro ha2 (And.intro hst2 (And.intro hgr2 (And.intro hrp2 (And.intro zp2 (And.intro zo2 (And.intro zr2 hF2)))))))
    have HS2 := Lib.hid hs2
    clear ha2 hg2 hst2 hgr2 hrp2 zp2 zo2 zr2 hF2 hb0
    refine hK.out _ _ HS2.out ?_
    clear hK K
    try simp only [Act.put, List.setIfInBounds_toArray, List.set_cons_zero, List.set_cons_succ]
    (refine takeE (St.tr F) 7 (by simp only [List.getElem?_toArray, List.getElem?_cons_succ, List.getElem?_cons_zero]; rfl) (by kernel_rfl) (by kernel_rfl) (by kernel_rfl) (by exact fun _ _ _ h => h) (by first | (refine Or.inl ⟨by rfl, ?_⟩; intro W hW; go_simp; try with_reducible rfl) | exact Or.inr ⟨by rfl, rfl⟩) ?_; try simp only [Act.put, List.setIfInBounds_toArray, List.set_cons_zero, List.set_cons_succ])
    refine wpAnyE_done (by kernel_rfl) ?_ _
    clear q1 q2 q3 q4
    have HRF := Lib.hid (r_know (X := fun j => (¬ F' j ∧ ¬ Kp j) ∧ j ≠ w.heap.size + 2) (H2.out.2.2.2.1.mono fun j hj => ⟨hj.1, by omega⟩) HOK.out.1 k g (fun j hj => ⟨⟨fun e => by have := H2.out.1.bd _ e; omega, fun e => by have := HKK.out _ e; have := H2.out.2.1.size; have := HSW.out; omega⟩, by have := HSW.out; have := H2.out.2.1.size; omega⟩))
    have o0 := H2.out.2.2.2.2.2.1.cell 1 rfl
    have o1 := H2.out.2.2.2.2.2.1.cell 2 rfl
    have o2 := H2.out.2.2.2.2.2.1.cell 3 rfl
    have o3 := H2.out.2.2.2.2.2.1.cell 4 rfl
    have zp2 := H2.out.2.2.2.2.1
    go_wp2_with (first
      | (with_reducible refine at_load 30 (.tmp 4) (by rfl) ?_; refine wpList_load_bk rowR rfl (.tmp 4) rfl w.heap.size 0 rfl zp2 ([.slice v.A v.n v.c, .slice v.B v.k v.d, .slice v.C v.r v.e, .int .i64 m.most, .int .i64 m.run, .int .i64 m.total]) rfl rfl ?_))
    refine HRF.out.mono ?_
    rintro e w3 ⟨v2, rfl, hr3, hb3⟩
    have hb4 : Below w2.heap.size w2 (w3.alloc (.cells #[.slice v2.A v2.n v2.c, .slice v2.B v2.k v2.d, .slice v2.C v2.r v2.e, .int .i64 m.most, .int .i64 m.run, .int .i64 m.total] 30)) := hb3.alloc hb3.size _
    have zr4 := H2.out.2.2.2.2.2.2.1.below hb4
    have hr4 := hr3.below ((Below.refl w3.heap.size w3).alloc (Nat.le_refl _) (.cells #[.slice v2.A v2.n v2.c, .slice v2.B v2.k v2.d, .slice v2.C v2.r v2.e, .int .i64 m.most, .int .i64 m.run, .int .i64 m.total] 30))
    have znw := Bk.new w3 30 [.slice v2.A v2.n v2.c, .slice v2.B v2.k v2.d, .slice v2.C v2.r v2.e, .int .i64 m.most, .int .i64 m.run, .int .i64 m.total]
    have HR4 := Lib.hid (And.intro hr4 hb4)
    clear hr3 hb3 hr4 hb4 o0 o1 o2 o3 zp2
    go_wp2_with (first
      | (with_reducible refine at_load 30 (.tmp 9) (by rfl) ?_; refine wpList_load_bk rowR rfl (.tmp 9) rfl w3.heap.size 0 rfl znw [.slice v2.A v2.n v2.c, .slice v2.B v2.k v2.d, .slice v2.C v2.r v2.e, .int .i64 m.most, .int .i64 m.run, .int .i64 m.total] rfl rfl ?_)
      | (with_reducible refine at_store 30 (.tmp 6) (.tmp 66) (by rfl) ?_; refine wpList_store_bk rowR rfl (.tmp 6) (.tmp 66) rfl (w.heap.size + 2) 0 rfl zr4 [.slice v2.A v2.n v2.c, .slice v2.B v2.k v2.d, .slice v2.C v2.r v2.e, .int .i64 m.most, .int .i64 m.run, .int .i64 m.total] rfl rfl (by decide) (by simp [Value.oneCell']) ?_; intro w5 hz5 hw5))
    rw [lay_all _ _ (by rfl)] at hz5
    have hs5 : St (· = w.heap.size + 2) _ w5 := st_wr hw5
    have hne5 : ∀ j, ¬ F' j → True := fun _ _ => trivial
    refine bodyPost_ret (results_cell_tmp rfl rfl (rowR.load hz5 0 (cs := [.slice v2.A v2.n v2.c, .slice v2.B v2.k v2.d, .slice v2.C v2.r v2.e, .int .i64 m.most, .int .i64 m.run, .int .i64 m.total]) rfl rfl)) rfl ⟨v2, ?_, F', ?_, ?_, ?_, ?_⟩
    · rw [HST2.out]
      obtain ⟨e1, e2, e3⟩ := num_know m k g
      rw [e1, e2, e3]
      rfl
    · rw [HST2.out]
      exact (H2.out.1.below HR4.out.2).st hs5 fun j hj e => H2.out.2.2.2.2.2.2.2 (e ▸ hj)
    · rw [HST2.out]
      exact (HR4.out.1.st hs5 fun j hj => hj.2).mono fun j hj => hj.1
    · refine ((((St.ext (F := F) HA.out.1).trans H2.out.2.1 (Gr.refl _ _)).trans (St.ext (F := F) HR4.out.2) (Gr.refl _ _)).trans (F' := fun j => F j ∨ j = w.heap.size + 2) (hs5.mono fun j _ e => .inr e) fun j hj => ?_)
      rcases hj with hj | rfl
      · exact .inl hj
      · exact .inr (by omega)
    · exact fun j hj => (H2.out.2.2.1 j hj).imp_right fun h => Nat.le_trans HA.out.1.size h
  · have e0 : (d % 8 == 0) = false := by simp; omega
    have e4 : (d % 8 == 4) = true := by simpa using hd8
    have HST2 : Hid (ms = (m.forgetR k).1) := Lib.hid (by rw [HST.out, if_neg (by omega), if_pos hd8])
    clear hd8
    go_enter Try.func15, Try.ntmps15
    go_wp2_with fail
    rw [← hW]
    clear hW
    have hd0 := HA.out.2.2.1.cell 0 rfl
    have o0 := HA.out.2.2.1.cell 1 rfl
    have o1 := HA.out.2.2.1.cell 2 rfl
    refine (l_of k _).mono ?_
    rintro e u1 ⟨rfl, hbo⟩
    have HB0 := Lib.hid hbo
    clear hbo o0 o1
    go_wp2_with fail
    refine (p_forget (HA.out.2.2.2.2.1.below HB0.out) HOK.out.1 k).mono ?_
    rintro e w2 ⟨rfl, hd2⟩
    obtain ⟨F', ha2, hs2, hg2⟩ := hd2
    have hb0 := HB0.out
    have hst2 : St F W w2 := (St.ext (F := F) hb0).trans hs2 (Gr.refl _ _)
    have hgr2 : Gr F F' W.heap.size := fun j hj => (hg2 j hj).imp_right fun h => Nat.le_trans hb0.size h
    have hrp2 : RpR (fun j => (¬ F' j ∧ ¬ Kp j) ∧ j < w.heap.size) w2 v m := (HA.out.2.2.2.2.2.st hst2 fun j hj => hj.1.1).mono fun j hj => ⟨⟨hgr2.not (by have := HSW.out; omega) hj.1.1, hj.1.2⟩, hj.2⟩
    have zp2 := HA.out.2.1.st hst2 HN.out.1
    have zo2 := HA.out.2.2.1.st hst2 HN.out.2.1
    have zr2 := HA.out.2.2.2.1.st hst2 HN.out.2.2
    have hF2 : ¬ F' (w.heap.size + 2) := hgr2.not (by have := HSW.out; omega) HN.out.2.2
    have H2 := Lib.hid (And.intro ha2 (And.intro hst2 (And.intro hgr2 (And.intro hrp2 (And.intro zp2 (And.intro zo2 (And.intro zr2 hF2)))))))
    have HS2 := Lib.hid hs2
    clear ha2 hg2 hst2 hgr2 hrp2 zp2 zo2 zr2 hF2 hb0
    have HRF := Lib.hid (r_forget (X := fun j => (¬ F' j ∧ ¬ Kp j) ∧ j ≠ w.heap.size + 2) (H2.out.2.2.2.1.mono fun j hj => ⟨hj.1, by omega⟩) HOK.out.1 k (fun j hj => ⟨⟨fun e => by have := H2.out.1.bd _ e; omega, fun e => by have := HKK.out _ e; have := H2.out.2.1.size; have := HSW.out; omega⟩, by have := HSW.out; have := H2.out.2.1.size; omega⟩))
    generalize (m.forgetR k).2.1 = fn at *
    generalize (m.forgetR k).2.2 = fb at *
    have o0 := H2.out.2.2.2.2.2.1.cell 1 rfl
    have o1 := H2.out.2.2.2.2.2.1.cell 2 rfl
    have zp2 := H2.out.2.2.2.2.1
    go_wp2_with (first
      | (with_reducible refine at_load 30 (.tmp 4) (by rfl) ?_; refine wpList_load_bk rowR rfl (.tmp 4) rfl w.heap.size 0 rfl zp2 ([.slice v.A v.n v.c, .slice v.B v.k v.d, .slice v.C v.r v.e, .int .i64 m.most, .int .i64 m.run, .int .i64 m.total]) rfl rfl ?_))
    refine HRF.out.mono ?_
    rintro e w3 ⟨v2, rfl, hr3, hb3⟩
    have hb4 : Below w2.heap.size w2 (w3.alloc (.cells #[.slice v2.A v2.n v2.c, .slice v2.B v2.k v2.d, .slice v2.C v2.r v2.e, .int .i64 m.most, .int .i64 m.run, .int .i64 m.total] 30)) := hb3.alloc hb3.size _
    have zr4 := H2.out.2.2.2.2.2.2.1.below hb4
    have hr4 := hr3.below ((Below.refl w3.heap.size w3).alloc (Nat.le_refl _) (.cells #[.slice v2.A v2.n v2.c, .slice v2.B v2.k v2.d, .slice v2.C v2.r v2.e, .int .i64 m.most, .int .i64 m.run, .int .i64 m.total] 30))
    have znw := Bk.new w3 30 [.slice v2.A v2.n v2.c, .slice v2.B v2.k v2.d, .slice v2.C v2.r v2.e, .int .i64 m.most, .int .i64 m.run, .int .i64 m.total]
    have HR4 := Lib.hid (And.intro hr4 hb4)
    clear hr3 hb3 hr4 hb4 o0 o1 zp2
    go_wp2_with (first
      | (with_reducible refine at_load 30 (.tmp 13) (by rfl) ?_; refine wpList_load_bk rowR rfl (.tmp 13) rfl w3.heap.size 0 rfl znw [.slice v2.A v2.n v2.c, .slice v2.B v2.k v2.d, .slice v2.C v2.r v2.e, .int .i64 m.most, .int .i64 m.run, .int .i64 m.total] rfl rfl ?_)
      | (with_reducible refine at_store 30 (.tmp 6) (.tmp 88) (by rfl) ?_; refine wpList_store_bk rowR rfl (.tmp 6) (.tmp 88) rfl (w.heap.size + 2) 0 rfl zr4 [.slice v2.A v2.n v2.c, .slice v2.B v2.k v2.d, .slice v2.C v2.r v2.e, .int .i64 m.most, .int .i64 m.run, .int .i64 m.total] rfl rfl (by decide) (by simp [Value.oneCell']) ?_; intro w5 hz5 hw5))
    rw [lay_all _ _ (by rfl)] at hz5
    have hs5 : St (· = w.heap.size + 2) _ w5 := st_wr hw5
    have hne5 : ∀ j, ¬ F' j → True := fun _ _ => trivial
    refine bodyPost_ret (results_cell_tmp rfl rfl (rowR.load hz5 0 (cs := [.slice v2.A v2.n v2.c, .slice v2.B v2.k v2.d, .slice v2.C v2.r v2.e, .int .i64 m.most, .int .i64 m.run, .int .i64 m.total]) rfl rfl)) rfl ⟨v2, ?_, F', ?_, ?_, ?_, ?_⟩
    · rw [HST2.out]
      obtain ⟨e1, e2, e3⟩ := num_forget m k
      rw [e1, e2, e3]
      rfl
    · rw [HST2.out]
      exact (H2.out.1.below HR4.out.2).st hs5 fun j hj e => H2.out.2.2.2.2.2.2.2 (e ▸ hj)
    · rw [HST2.out]
      exact (HR4.out.1.st hs5 fun j hj => hj.2).mono fun j hj => hj.1
    · refine ((((St.ext (F := F) HA.out.1).trans H2.out.2.1 (Gr.refl _ _)).trans (St.ext (F := F) HR4.out.2) (Gr.refl _ _)).trans (F' := fun j => F j ∨ j = w.heap.size + 2) (hs5.mono fun j _ e => .inr e) fun j hj => ?_)
      rcases hj with hj | rfl
      · exact .inl hj
      · exact .inr (by omega)
    · exact fun j hj => (H2.out.2.2.1 j hj).imp_right fun h => Nat.le_trans HA.out.1.size h
  · have e0 : (d % 8 == 0) = false := by simp; omega
    have e4 : (d % 8 == 4) = false := by simp; omega
    have e5 : (d % 8 == 5) = true := by simpa using hd8
    have HST2 : Hid (ms = m.tickR.1) := Lib.hid (by rw [HST.out, if_neg (by omega), if_neg (by omega), if_pos (by omega)])
    clear hd8
    have HC := p_tick HA.out.2.2.2.2.1 HOK.out.1 HOK.out.2
    have HRT : ∀ (X : Nat → Prop) (V : World), RpR X V v m → (∀ j, V.heap.size ≤ j → X j) → _ := fun X V hV hX => r_tick (X := X) hV HOK.out.1 HOK.out.2 hX
    generalize m.tickR = R at *
    obtain ⟨mm, kk, nn, bb⟩ := R
    dsimp only at *
    have HCT := Lib.hid HC
    have HRTT := Lib.hid HRT
    clear HC HRT
    go_enter Try.func15, Try.ntmps15
    go_wp2_with fail
    rw [← hW]
    clear hW
    have hd0 := HA.out.2.2.1.cell 0 rfl
    refine HCT.out.mono ?_
    rintro e w2 ⟨rfl, hd2⟩
    have HB0 : Hid (Below W.heap.size W W) := Lib.hid (Below.refl _ _)
    obtain ⟨F', ha2, hs2, hg2⟩ := hd2
    have hb0 := HB0.out
    have hst2 : St F W w2 := (St.ext (F := F) hb0).trans hs2 (Gr.refl _ _)
    have hgr2 : Gr F F' W.heap.size := fun j hj => (hg2 j hj).imp_right fun h => Nat.le_trans hb0.size h
    have hrp2 : RpR (fun j => (¬ F' j ∧ ¬ Kp j) ∧ j < w.heap.size) w2 v m := (HA.out.2.2.2.2.2.st hst2 fun j hj => hj.1.1).mono fun j hj => ⟨⟨hgr2.not (by have := HSW.out; omega) hj.1.1, hj.1.2⟩, hj.2⟩
    have zp2 := HA.out.2.1.st hst2 HN.out.1
    have zo2 := HA.out.2.2.1.st hst2 HN.out.2.1
    have zr2 := HA.out.2.2.2.1.st hst2 HN.out.2.2
    have hF2 : ¬ F' (w.heap.size + 2) := hgr2.not (by have := HSW.out; omega) HN.out.2.2
    have H2 := Lib.hid (And.intro ha2 (And.intro hst2 (And.intro hgr2 (And.intro hrp2 (And.intro zp2 (And.intro zo2 (And.intro zr2 hF2)))))))
    have HS2 := Lib.hid hs2
    clear ha2 hg2 hst2 hgr2 hrp2 zp2 zo2 zr2 hF2 hb0
    have hbp : Below w2.heap.size w2 (w2.alloc (.cells #[.int .i64 kk.s, .int .i64 kk.c, .int .i64 nn] 41)) := (Below.refl _ _).alloc (Nat.le_refl _) _
    have HRF := Lib.hid (HRTT.out (fun j => (¬ F' j ∧ ¬ Kp j) ∧ j ≠ w.heap.size + 2) _ ((H2.out.2.2.2.1.mono fun j hj => ⟨hj.1, by omega⟩).below hbp) (fun j hj => ⟨⟨fun e => by have := H2.out.1.bd _ e; simp at hj; omega, fun e => by have := HKK.out _ e; have := H2.out.2.1.size; have := HSW.out; simp at hj; omega⟩, by have := HSW.out; have := H2.out.2.1.size; simp at hj; omega⟩))
    have zp2 := H2.out.2.2.2.2.1.below hbp
    have HBP := Lib.hid hbp
    have zpl := Lib.hid (Bk.new w2 41 [.int .i64 kk.s, .int .i64 kk.c, .int .i64 nn])
    clear hbp
    go_wp2_with (first
      | (with_reducible refine at_load 30 (.tmp 4) (by rfl) ?_; refine wpList_load_bk rowR rfl (.tmp 4) rfl w.heap.size 0 rfl zp2 ([.slice v.A v.n v.c, .slice v.B v.k v.d, .slice v.C v.r v.e, .int .i64 m.most, .int .i64 m.run, .int .i64 m.total]) rfl rfl ?_))
    refine HRF.out.mono ?_
    rintro e w3 ⟨v2, rfl, hr3, hb3⟩
    have hba : Below w3.heap.size w3 ((w3.alloc (.cells #[.slice v2.A v2.n v2.c, .slice v2.B v2.k v2.d, .slice v2.C v2.r v2.e, .int .i64 mm.most, .int .i64 mm.run, .int .i64 mm.total] 30)).alloc (.cells #[.int .i64 kk.s, .int .i64 kk.c] 35)) := ((Below.refl _ _).alloc (Nat.le_refl _) _).alloc (by simp) _
    have hb4 : Below w2.heap.size w2 ((w3.alloc (.cells #[.slice v2.A v2.n v2.c, .slice v2.B v2.k v2.d, .slice v2.C v2.r v2.e, .int .i64 mm.most, .int .i64 mm.run, .int .i64 mm.total] 30)).alloc (.cells #[.int .i64 kk.s, .int .i64 kk.c] 35)) := HBP.out.trans ((hb3.trans (hba.mono hb3.size)).mono HBP.out.size)
    have hzk : Bk ((w3.alloc (.cells #[.slice v2.A v2.n v2.c, .slice v2.B v2.k v2.d, .slice v2.C v2.r v2.e, .int .i64 mm.most, .int .i64 mm.run, .int .i64 mm.total] 30)).alloc (.cells #[.int .i64 kk.s, .int .i64 kk.c] 35)) 35 (w3.heap.size + 1) kk.cl := by
      have := Bk.new (w3.alloc (.cells #[.slice v2.A v2.n v2.c, .slice v2.B v2.k v2.d, .slice v2.C v2.r v2.e, .int .i64 mm.most, .int .i64 mm.run, .int .i64 mm.total] 30)) 35 kk.cl
      rw [World.size_alloc] at this
      exact this
    have s3 := hb3.size
    have s2 := H2.out.2.1.size
    have HR4 := Lib.hid (And.intro (hr3.below hba) hb4)
    have H9 := Lib.hid (And.intro ((Bk.new w3 30 [.slice v2.A v2.n v2.c, .slice v2.B v2.k v2.d, .slice v2.C v2.r v2.e, .int .i64 mm.most, .int .i64 mm.run, .int .i64 mm.total]).alloc (.cells #[.int .i64 kk.s, .int .i64 kk.c] 35)) (And.intro hzk (And.intro ((zpl.out.below hb3).below hba) (And.intro (H2.out.2.2.2.2.2.2.1.below hb4) (And.intro (show ¬ w3.heap.size = w.heap.size + 2 by have := HSW.out; have := HBP.out.size; omega) (And.intro (show ¬ w3.heap.size + 1 = w.heap.size + 2 by have := HSW.out; have := HBP.out.size; omega) (show ¬ w2.heap.size = w.heap.size + 2 by have := HSW.out; omega)))))))
    clear hr3 hb3 hba hb4 hzk s3 s2 zp2
    go_wp2_with fail
    refine wp_region_E (St (· = w.heap.size + 2)) (by kernel_rfl) (fun wd hbd hsz => ?_)
    have zra := H9.out.1.below hbd
    have zka := H9.out.2.1.below hbd
    have zpa := H9.out.2.2.1.below hbd
    have zrr := H9.out.2.2.2.1.below hbd
    have HBD := Lib.hid hbd
    have nR : ¬ w3.heap.size = w.heap.size + 2 := H9.out.2.2.2.2.1
    have nK : ¬ w3.heap.size + 1 = w.heap.size + 2 := H9.out.2.2.2.2.2.1
    have nP : ¬ w2.heap.size = w.heap.size + 2 := H9.out.2.2.2.2.2.2
    have q1 : ∀ V, St (· = w.heap.size + 2) wd V → V.cell? ⟨w2.heap.size, 2, none⟩ = some (.int .i64 nn) := fun V hV => (zpa.st hV nP).cell 2 rfl
    have hpk : wd.rangeAt w2.heap.size 0 kk.cl := fun j u hu => zpa.cell (0 + j) (by
      rcases j with _ | _ | j
      · exact hu
      · exact hu
      · simp [Ky.cl] at hu)
    have hpV : ∀ V, St (· = w.heap.size + 2) wd V → V.rangeAt w2.heap.size 0 kk.cl := fun V hV j u hu => (zpa.st hV nP).cell (0 + j) (by
      rcases j with _ | _ | j
      · exact hu
      · exact hu
      · simp [Ky.cl] at hu)
    have hcmp := key_eqlV kk
    have hc : St (· = w.heap.size + 2) wd wd := St.refl _ _
    clear hsz
    (refine takeE (St.tr (· = w.heap.size + 2)) 0 (by simp only [List.getElem?_toArray, List.getElem?_cons_succ, List.getElem?_cons_zero]; rfl) (by kernel_rfl) (by kernel_rfl) (by kernel_rfl) (by exact fun _ _ _ h => h) (by first | (refine Or.inl ⟨by rfl, ?_⟩; intro W hW; exact exec_loadC rowR (.tmp 18) rfl w3.heap.size rfl ([.slice v2.A v2.n v2.c, .slice v2.B v2.k v2.d, .slice v2.C v2.r v2.e, .int .i64 mm.most, .int .i64 mm.run, .int .i64 mm.total]) (zra.st hW nR) rfl) | exact Or.inr ⟨by rfl, rfl⟩) ?_; try simp only [Act.put, List.setIfInBounds_toArray, List.set_cons_zero, List.set_cons_succ])
    (refine takeE (St.tr (· = w.heap.size + 2)) 1 (by simp only [List.getElem?_toArray, List.getElem?_cons_succ, List.getElem?_cons_zero]; rfl) (by kernel_rfl) (by kernel_rfl) (by kernel_rfl) (by exact fun _ _ _ h => h) (by first | (refine Or.inl ⟨by rfl, ?_⟩; intro W hW; go_simp; try with_reducible rfl) | exact Or.inr ⟨by rfl, rfl⟩) ?_; try simp only [Act.put, List.setIfInBounds_toArray, List.set_cons_zero, List.set_cons_succ])
    (refine takeE (St.tr (· = w.heap.size + 2)) 3 (by simp only [List.getElem?_toArray, List.getElem?_cons_succ, List.getElem?_cons_zero]; rfl) (by kernel_rfl) (by kernel_rfl) (by kernel_rfl) (by exact fun _ _ _ h => h) (by first | (refine Or.inl ⟨by rfl, ?_⟩; intro W hW; exact exec_loadK rowRK (.tmp 19) rfl (w3.heap.size + 1) 0 rfl kk (rangeK (zka.st hW nK))) | exact Or.inr ⟨by rfl, rfl⟩) ?_; try simp only [Act.put, List.setIfInBounds_toArray, List.set_cons_zero, List.set_cons_succ])
    (refine takeE (St.tr (· = w.heap.size + 2)) 2 (by simp only [List.getElem?_toArray, List.getElem?_cons_succ, List.getElem?_cons_zero]; rfl) (by kernel_rfl) (by kernel_rfl) (by kernel_rfl) (by exact fun _ _ _ h => h) (by first | (refine Or.inl ⟨by rfl, ?_⟩; intro W hW; exact exec_loadK rowK (.tmp 113) rfl w2.heap.size 0 rfl kk (hpV _ hW)) | exact Or.inr ⟨by rfl, rfl⟩) ?_; try simp only [Act.put, List.setIfInBounds_toArray, List.set_cons_zero, List.set_cons_succ])
    refine wpAnyE_one (i := 4) (by kernel_rfl) (by simp only [List.getElem?_toArray, List.getElem?_cons_succ, List.getElem?_cons_zero]; rfl) (fun K hK => ?_)
    go_simp
    refine (l_of kk _).mono ?_
    rintro en u7 ⟨rfl, hb7⟩
    replace zrr := zrr.below hb7
    have hs7 : St (· = w.heap.size + 2) _ u7 := St.ext hb7
    replace hc := hc.trans hs7 (Gr.refl _ _)
    clear q1
    have q1 : ∀ V, St (· = w.heap.size + 2) u7 V → V.cell? ⟨w2.heap.size, 2, none⟩ = some (.int .i64 nn) := fun V hV => (zpa.st (hc.trans hV (Gr.refl _ _)) nP).cell 2 rfl
    clear hb7
    refine hK.out _ _ hs7 ?_
    clear hK K
    try simp only [Act.put, List.setIfInBounds_toArray, List.set_cons_zero, List.set_cons_succ]
    (refine takeE (St.tr (· = w.heap.size + 2)) 5 (by simp only [List.getElem?_toArray, List.getElem?_cons_succ, List.getElem?_cons_zero]; rfl) (by kernel_rfl) (by kernel_rfl) (by kernel_rfl) (by exact fun _ _ _ h => h) (by first | (refine Or.inl ⟨by rfl, ?_⟩; intro W hW; exact exec_cmp_agg rfl (by kernel_rfl) rfl rfl (hcmp W)) | exact Or.inr ⟨by rfl, rfl⟩) ?_; try simp only [Act.put, List.setIfInBounds_toArray, List.set_cons_zero, List.set_cons_succ])
    (refine takeE (St.tr (· = w.heap.size + 2)) 6 (by simp only [List.getElem?_toArray, List.getElem?_cons_succ, List.getElem?_cons_zero]; rfl) (by kernel_rfl) (by kernel_rfl) (by kernel_rfl) (by exact fun _ _ _ h => h) (by first | (refine Or.inl ⟨by rfl, ?_⟩; intro W hW; go_simp; try with_reducible rfl) | exact Or.inr ⟨by rfl, rfl⟩) ?_; try simp only [Act.put, List.setIfInBounds_toArray, List.set_cons_zero, List.set_cons_succ])
    (refine takeE (St.tr (· = w.heap.size + 2)) 7 (by simp only [List.getElem?_toArray, List.getElem?_cons_succ, List.getElem?_cons_zero]; rfl) (by kernel_rfl) (by kernel_rfl) (by kernel_rfl) (by exact fun _ _ _ h => h) (by first | (refine Or.inl ⟨by rfl, ?_⟩; intro W hW; go_simp; try with_reducible rfl) | exact Or.inr ⟨by rfl, rfl⟩) ?_; try simp only [Act.put, List.setIfInBounds_toArray, List.set_cons_zero, List.set_cons_succ])
    (refine takeE (St.tr (· = w.heap.size + 2)) 9 (by simp only [List.getElem?_toArray, List.getElem?_cons_succ, List.getElem?_cons_zero]; rfl) (by kernel_rfl) (by kernel_rfl) (by kernel_rfl) (by exact fun _ _ _ h => h) (by first | (refine Or.inl ⟨by rfl, ?_⟩; intro W hW; go_simp; try with_reducible rfl) | exact Or.inr ⟨by rfl, rfl⟩) ?_; try simp only [Act.put, List.setIfInBounds_toArray, List.set_cons_zero, List.set_cons_succ])
    (refine takeE (St.tr (· = w.heap.size + 2)) 8 (by simp only [List.getElem?_toArray, List.getElem?_cons_succ, List.getElem?_cons_zero]; rfl) (by kernel_rfl) (by kernel_rfl) (by kernel_rfl) (by exact fun _ _ _ h => h) (by first | (refine Or.inl ⟨by rfl, ?_⟩; intro W hW; go_simp; try with_reducible rfl) | exact Or.inr ⟨by rfl, rfl⟩) ?_; try simp only [Act.put, List.setIfInBounds_toArray, List.set_cons_zero, List.set_cons_succ])
    (refine takeE (St.tr (· = w.heap.size + 2)) 10 (by simp only [List.getElem?_toArray, List.getElem?_cons_succ, List.getElem?_cons_zero]; rfl) (by kernel_rfl) (by kernel_rfl) (by kernel_rfl) (by exact fun _ _ _ h => h) (by first | (refine Or.inl ⟨by rfl, ?_⟩; intro W hW; go_simp; try with_reducible rfl) | exact Or.inr ⟨by rfl, rfl⟩) ?_; try simp only [Act.put, List.setIfInBounds_toArray, List.set_cons_zero, List.set_cons_succ])
    (refine takeE (St.tr (· = w.heap.size + 2)) 11 (by simp only [List.getElem?_toArray, List.getElem?_cons_succ, List.getElem?_cons_zero]; rfl) (by kernel_rfl) (by kernel_rfl) (by kernel_rfl) (by exact fun _ _ _ h => h) (by first | (refine Or.inl ⟨by rfl, ?_⟩; intro W hW; go_simp; try with_reducible rfl) | exact Or.inr ⟨by rfl, rfl⟩) ?_; try simp only [Act.put, List.setIfInBounds_toArray, List.set_cons_zero, List.set_cons_succ])
    (refine takeE (St.tr (· = w.heap.size + 2)) 12 (by simp only [List.getElem?_toArray, List.getElem?_cons_succ, List.getElem?_cons_zero]; rfl) (by kernel_rfl) (by kernel_rfl) (by kernel_rfl) (by exact fun _ _ _ h => h) (by first | (refine Or.inl ⟨by rfl, ?_⟩; intro W hW; go_simp; try with_reducible rfl) | exact Or.inr ⟨by rfl, rfl⟩) ?_; try simp only [Act.put, List.setIfInBounds_toArray, List.set_cons_zero, List.set_cons_succ])
    (refine takeE (St.tr (· = w.heap.size + 2)) 13 (by simp only [List.getElem?_toArray, List.getElem?_cons_succ, List.getElem?_cons_zero]; rfl) (by kernel_rfl) (by kernel_rfl) (by kernel_rfl) (by exact fun _ _ _ h => h) (by first | (refine Or.inl ⟨by rfl, ?_⟩; intro W hW; go_simp; try with_reducible rfl) | exact Or.inr ⟨by rfl, rfl⟩) ?_; try simp only [Act.put, List.setIfInBounds_toArray, List.set_cons_zero, List.set_cons_succ])
    (refine takeE (St.tr (· = w.heap.size + 2)) 14 (by simp only [List.getElem?_toArray, List.getElem?_cons_succ, List.getElem?_cons_zero]; rfl) (by kernel_rfl) (by kernel_rfl) (by kernel_rfl) (by exact fun _ _ _ h => h) (by first | (refine Or.inl ⟨by rfl, ?_⟩; intro W hW; go_simp; try with_reducible rfl) | exact Or.inr ⟨by rfl, rfl⟩) ?_; try simp only [Act.put, List.setIfInBounds_toArray, List.set_cons_zero, List.set_cons_succ])
    (refine takeE (St.tr (· = w.heap.size + 2)) 15 (by simp only [List.getElem?_toArray, List.getElem?_cons_succ, List.getElem?_cons_zero]; rfl) (by kernel_rfl) (by kernel_rfl) (by kernel_rfl) (by exact fun _ _ _ h => h) (by first | (refine Or.inl ⟨by rfl, ?_⟩; intro W hW; go_simp; try with_reducible rfl) | exact Or.inr ⟨by rfl, rfl⟩) ?_; try simp only [Act.put, List.setIfInBounds_toArray, List.set_cons_zero, List.set_cons_succ])
    (refine takeE (St.tr (· = w.heap.size + 2)) 16 (by simp only [List.getElem?_toArray, List.getElem?_cons_succ, List.getElem?_cons_zero]; rfl) (by kernel_rfl) (by kernel_rfl) (by kernel_rfl) (by exact fun _ _ _ h => h) (by first | (refine Or.inl ⟨by rfl, ?_⟩; intro W hW; go_simp; try with_reducible rfl) | exact Or.inr ⟨by rfl, rfl⟩) ?_; try simp only [Act.put, List.setIfInBounds_toArray, List.set_cons_zero, List.set_cons_succ])
    refine wpAnyE_one (i := 17) (by kernel_rfl) (by simp only [List.getElem?_toArray, List.getElem?_cons_succ, List.getElem?_cons_zero]; rfl) (fun K hK => ?_)
    refine opwp_store_bk rowR rfl (.tmp 6) (.tmp 112) rfl (w.heap.size + 2) 0 rfl zrr [.slice v2.A v2.n v2.c, .slice v2.B v2.k v2.d, .slice v2.C v2.r v2.e, .int .i64 mm.most, .int .i64 mm.run, .int .i64 mm.total] rfl rfl (by decide) (by simp [Value.oneCell']) ?_
    intro u8 hz8 hw8
    rw [lay_all _ _ (by rfl)] at hz8
    clear zrr
    have zrr := hz8
    have hs8 : St (· = w.heap.size + 2) _ u8 := st_wr hw8
    replace hc := hc.trans hs8 (Gr.refl _ _)
    clear q1
    have q1 : ∀ V, St (· = w.heap.size + 2) u8 V → V.cell? ⟨w2.heap.size, 2, none⟩ = some (.int .i64 nn) := fun V hV => (zpa.st (hc.trans hV (Gr.refl _ _)) nP).cell 2 rfl
    clear hz8 hw8
    refine hK.out _ _ hs8 ?_
    clear hK K
    try simp only [Act.put, List.setIfInBounds_toArray, List.set_cons_zero, List.set_cons_succ]
    (refine takeE (St.tr (· = w.heap.size + 2)) 18 (by simp only [List.getElem?_toArray, List.getElem?_cons_succ, List.getElem?_cons_zero]; rfl) (by kernel_rfl) (by kernel_rfl) (by kernel_rfl) (by exact fun _ _ _ h => h) (by first | (refine Or.inl ⟨by rfl, ?_⟩; intro W hW; go_simp; try with_reducible rfl) | exact Or.inr ⟨by rfl, rfl⟩) ?_; try simp only [Act.put, List.setIfInBounds_toArray, List.set_cons_zero, List.set_cons_succ])
    refine wpAnyE_done (by kernel_rfl) ?_ _
    clear q1 hcmp
    go_wp2
    refine bodyPost_ret (results_cell_tmp rfl rfl (rowR.load zrr 0 (cs := [.slice v2.A v2.n v2.c, .slice v2.B v2.k v2.d, .slice v2.C v2.r v2.e, .int .i64 mm.most, .int .i64 mm.run, .int .i64 mm.total]) rfl rfl)) rfl ⟨v2, ?_, F', ?_, ?_, ?_, ?_⟩
    · rw [HST2.out]; rfl
    · rw [HST2.out]
      exact ((H2.out.1.below HR4.out.2).below HBD.out).st hc fun j hj e => H2.out.2.2.2.2.2.2.2 (e ▸ hj)
    · rw [HST2.out]
      exact ((HR4.out.1.below HBD.out).st hc fun j hj => hj.2).mono fun j hj => hj.1
    · refine (((((St.ext (F := F) HA.out.1).trans H2.out.2.1 (Gr.refl _ _)).trans (St.ext (F := F) HR4.out.2) (Gr.refl _ _)).trans (St.ext (F := F) HBD.out) (Gr.refl _ _)).trans (F' := fun j => F j ∨ j = w.heap.size + 2) (hc.mono fun j _ e => .inr e) fun j hj => ?_)
      rcases hj with hj | rfl
      · exact .inl hj
      · exact .inr (by omega)
    · exact fun j hj => (H2.out.2.2.1 j hj).imp_right fun h => Nat.le_trans HA.out.1.size h
  · have e0 : (d % 8 == 0) = false := by simp; omega
    have e4 : (d % 8 == 4) = false := by simp; omega
    have e5 : (d % 8 == 5) = false := by simp; omega
    have e6 : (d % 8 == 6) = true := by simpa using hd8
    have HST2 : Hid (ms = m.tickR.1) := Lib.hid (by rw [HST.out, if_neg (by omega), if_neg (by omega), if_pos (by omega)])
    clear hd8
    have HC := p_tick HA.out.2.2.2.2.1 HOK.out.1 HOK.out.2
    have HRT : ∀ (X : Nat → Prop) (V : World), RpR X V v m → (∀ j, V.heap.size ≤ j → X j) → _ := fun X V hV hX => r_tick (X := X) hV HOK.out.1 HOK.out.2 hX
    generalize m.tickR = R at *
    obtain ⟨mm, kk, nn, bb⟩ := R
    dsimp only at *
    have HCT := Lib.hid HC
    have HRTT := Lib.hid HRT
    clear HC HRT
    go_enter Try.func15, Try.ntmps15
    go_wp2_with fail
    rw [← hW]
    clear hW
    have hd0 := HA.out.2.2.1.cell 0 rfl
    refine HCT.out.mono ?_
    rintro e w2 ⟨rfl, hd2⟩
    have HB0 : Hid (Below W.heap.size W W) := Lib.hid (Below.refl _ _)
    obtain ⟨F', ha2, hs2, hg2⟩ := hd2
    have hb0 := HB0.out
    have hst2 : St F W w2 := (St.ext (F := F) hb0).trans hs2 (Gr.refl _ _)
    have hgr2 : Gr F F' W.heap.size := fun j hj => (hg2 j hj).imp_right fun h => Nat.le_trans hb0.size h
    have hrp2 : RpR (fun j => (¬ F' j ∧ ¬ Kp j) ∧ j < w.heap.size) w2 v m := (HA.out.2.2.2.2.2.st hst2 fun j hj => hj.1.1).mono fun j hj => ⟨⟨hgr2.not (by have := HSW.out; omega) hj.1.1, hj.1.2⟩, hj.2⟩
    have zp2 := HA.out.2.1.st hst2 HN.out.1
    have zo2 := HA.out.2.2.1.st hst2 HN.out.2.1
    have zr2 := HA.out.2.2.2.1.st hst2 HN.out.2.2
    have hF2 : ¬ F' (w.heap.size + 2) := hgr2.not (by have := HSW.out; omega) HN.out.2.2
    have H2 := Lib.hid (And.intro ha2 (And.intro hst2 (And.intro hgr2 (And.intro hrp2 (And.intro zp2 (And.intro zo2 (And.intro zr2 hF2)))))))
    have HS2 := Lib.hid hs2
    clear ha2 hg2 hst2 hgr2 hrp2 zp2 zo2 zr2 hF2 hb0
    have hbp : Below w2.heap.size w2 (w2.alloc (.cells #[.int .i64 kk.s, .int .i64 kk.c, .int .i64 nn] 41)) := (Below.refl _ _).alloc (Nat.le_refl _) _
    have HRF := Lib.hid (HRTT.out (fun j => (¬ F' j ∧ ¬ Kp j) ∧ j ≠ w.heap.size + 2) _ ((H2.out.2.2.2.1.mono fun j hj => ⟨hj.1, by omega⟩).below hbp) (fun j hj => ⟨⟨fun e => by have := H2.out.1.bd _ e; simp at hj; omega, fun e => by have := HKK.out _ e; have := H2.out.2.1.size; have := HSW.out; simp at hj; omega⟩, by have := HSW.out; have := H2.out.2.1.size; simp at hj; omega⟩))
    have zp2 := H2.out.2.2.2.2.1.below hbp
    have HBP := Lib.hid hbp
    have zpl := Lib.hid (Bk.new w2 41 [.int .i64 kk.s, .int .i64 kk.c, .int .i64 nn])
    clear hbp
    go_wp2_with (first
      | (with_reducible refine at_load 30 (.tmp 4) (by rfl) ?_; refine wpList_load_bk rowR rfl (.tmp 4) rfl w.heap.size 0 rfl zp2 ([.slice v.A v.n v.c, .slice v.B v.k v.d, .slice v.C v.r v.e, .int .i64 m.most, .int .i64 m.run, .int .i64 m.total]) rfl rfl ?_))
    refine HRF.out.mono ?_
    rintro e w3 ⟨v2, rfl, hr3, hb3⟩
    have hba : Below w3.heap.size w3 ((w3.alloc (.cells #[.slice v2.A v2.n v2.c, .slice v2.B v2.k v2.d, .slice v2.C v2.r v2.e, .int .i64 mm.most, .int .i64 mm.run, .int .i64 mm.total] 30)).alloc (.cells #[.int .i64 kk.s, .int .i64 kk.c] 35)) := ((Below.refl _ _).alloc (Nat.le_refl _) _).alloc (by simp) _
    have hb4 : Below w2.heap.size w2 ((w3.alloc (.cells #[.slice v2.A v2.n v2.c, .slice v2.B v2.k v2.d, .slice v2.C v2.r v2.e, .int .i64 mm.most, .int .i64 mm.run, .int .i64 mm.total] 30)).alloc (.cells #[.int .i64 kk.s, .int .i64 kk.c] 35)) := HBP.out.trans ((hb3.trans (hba.mono hb3.size)).mono HBP.out.size)
    have hzk : Bk ((w3.alloc (.cells #[.slice v2.A v2.n v2.c, .slice v2.B v2.k v2.d, .slice v2.C v2.r v2.e, .int .i64 mm.most, .int .i64 mm.run, .int .i64 mm.total] 30)).alloc (.cells #[.int .i64 kk.s, .int .i64 kk.c] 35)) 35 (w3.heap.size + 1) kk.cl := by
      have := Bk.new (w3.alloc (.cells #[.slice v2.A v2.n v2.c, .slice v2.B v2.k v2.d, .slice v2.C v2.r v2.e, .int .i64 mm.most, .int .i64 mm.run, .int .i64 mm.total] 30)) 35 kk.cl
      rw [World.size_alloc] at this
      exact this
    have s3 := hb3.size
    have s2 := H2.out.2.1.size
    have HR4 := Lib.hid (And.intro (hr3.below hba) hb4)
    have H9 := Lib.hid (And.intro ((Bk.new w3 30 [.slice v2.A v2.n v2.c, .slice v2.B v2.k v2.d, .slice v2.C v2.r v2.e, .int .i64 mm.most, .int .i64 mm.run, .int .i64 mm.total]).alloc (.cells #[.int .i64 kk.s, .int .i64 kk.c] 35)) (And.intro hzk (And.intro ((zpl.out.below hb3).below hba) (And.intro (H2.out.2.2.2.2.2.2.1.below hb4) (And.intro (show ¬ w3.heap.size = w.heap.size + 2 by have := HSW.out; have := HBP.out.size; omega) (And.intro (show ¬ w3.heap.size + 1 = w.heap.size + 2 by have := HSW.out; have := HBP.out.size; omega) (show ¬ w2.heap.size = w.heap.size + 2 by have := HSW.out; omega)))))))
    clear hr3 hb3 hba hb4 hzk s3 s2 zp2
    go_wp2_with fail
    refine wp_region_E (St (· = w.heap.size + 2)) (by kernel_rfl) (fun wd hbd hsz => ?_)
    have zra := H9.out.1.below hbd
    have zka := H9.out.2.1.below hbd
    have zpa := H9.out.2.2.1.below hbd
    have zrr := H9.out.2.2.2.1.below hbd
    have HBD := Lib.hid hbd
    have nR : ¬ w3.heap.size = w.heap.size + 2 := H9.out.2.2.2.2.1
    have nK : ¬ w3.heap.size + 1 = w.heap.size + 2 := H9.out.2.2.2.2.2.1
    have nP : ¬ w2.heap.size = w.heap.size + 2 := H9.out.2.2.2.2.2.2
    have q1 : ∀ V, St (· = w.heap.size + 2) wd V → V.cell? ⟨w2.heap.size, 2, none⟩ = some (.int .i64 nn) := fun V hV => (zpa.st hV nP).cell 2 rfl
    have hpk : wd.rangeAt w2.heap.size 0 kk.cl := fun j u hu => zpa.cell (0 + j) (by
      rcases j with _ | _ | j
      · exact hu
      · exact hu
      · simp [Ky.cl] at hu)
    have hpV : ∀ V, St (· = w.heap.size + 2) wd V → V.rangeAt w2.heap.size 0 kk.cl := fun V hV j u hu => (zpa.st hV nP).cell (0 + j) (by
      rcases j with _ | _ | j
      · exact hu
      · exact hu
      · simp [Ky.cl] at hu)
    have hcmp := key_eqlV kk
    have hc : St (· = w.heap.size + 2) wd wd := St.refl _ _
    clear hsz
    (refine takeE (St.tr (· = w.heap.size + 2)) 0 (by simp only [List.getElem?_toArray, List.getElem?_cons_succ, List.getElem?_cons_zero]; rfl) (by kernel_rfl) (by kernel_rfl) (by kernel_rfl) (by exact fun _ _ _ h => h) (by first | (refine Or.inl ⟨by rfl, ?_⟩; intro W hW; exact exec_loadC rowR (.tmp 18) rfl w3.heap.size rfl ([.slice v2.A v2.n v2.c, .slice v2.B v2.k v2.d, .slice v2.C v2.r v2.e, .int .i64 mm.most, .int .i64 mm.run, .int .i64 mm.total]) (zra.st hW nR) rfl) | exact Or.inr ⟨by rfl, rfl⟩) ?_; try simp only [Act.put, List.setIfInBounds_toArray, List.set_cons_zero, List.set_cons_succ])
    (refine takeE (St.tr (· = w.heap.size + 2)) 1 (by simp only [List.getElem?_toArray, List.getElem?_cons_succ, List.getElem?_cons_zero]; rfl) (by kernel_rfl) (by kernel_rfl) (by kernel_rfl) (by exact fun _ _ _ h => h) (by first | (refine Or.inl ⟨by rfl, ?_⟩; intro W hW; go_simp; try with_reducible rfl) | exact Or.inr ⟨by rfl, rfl⟩) ?_; try simp only [Act.put, List.setIfInBounds_toArray, List.set_cons_zero, List.set_cons_succ])
    (refine takeE (St.tr (· = w.heap.size + 2)) 3 (by simp only [List.getElem?_toArray, List.getElem?_cons_succ, List.getElem?_cons_zero]; rfl) (by kernel_rfl) (by kernel_rfl) (by kernel_rfl) (by exact fun _ _ _ h => h) (by first | (refine Or.inl ⟨by rfl, ?_⟩; intro W hW; exact exec_loadK rowRK (.tmp 19) rfl (w3.heap.size + 1) 0 rfl kk (rangeK (zka.st hW nK))) | exact Or.inr ⟨by rfl, rfl⟩) ?_; try simp only [Act.put, List.setIfInBounds_toArray, List.set_cons_zero, List.set_cons_succ])
    (refine takeE (St.tr (· = w.heap.size + 2)) 2 (by simp only [List.getElem?_toArray, List.getElem?_cons_succ, List.getElem?_cons_zero]; rfl) (by kernel_rfl) (by kernel_rfl) (by kernel_rfl) (by exact fun _ _ _ h => h) (by first | (refine Or.inl ⟨by rfl, ?_⟩; intro W hW; exact exec_loadK rowK (.tmp 113) rfl w2.heap.size 0 rfl kk (hpV _ hW)) | exact Or.inr ⟨by rfl, rfl⟩) ?_; try simp only [Act.put, List.setIfInBounds_toArray, List.set_cons_zero, List.set_cons_succ])
    refine wpAnyE_one (i := 4) (by kernel_rfl) (by simp only [List.getElem?_toArray, List.getElem?_cons_succ, List.getElem?_cons_zero]; rfl) (fun K hK => ?_)
    go_simp
    refine (l_of kk _).mono ?_
    rintro en u7 ⟨rfl, hb7⟩
    replace zrr := zrr.below hb7
    have hs7 : St (· = w.heap.size + 2) _ u7 := St.ext hb7
    replace hc := hc.trans hs7 (Gr.refl _ _)
    clear q1
    have q1 : ∀ V, St (· = w.heap.size + 2) u7 V → V.cell? ⟨w2.heap.size, 2, none⟩ = some (.int .i64 nn) := fun V hV => (zpa.st (hc.trans hV (Gr.refl _ _)) nP).cell 2 rfl
    clear hb7
    refine hK.out _ _ hs7 ?_
    clear hK K
    try simp only [Act.put, List.setIfInBounds_toArray, List.set_cons_zero, List.set_cons_succ]
    (refine takeE (St.tr (· = w.heap.size + 2)) 5 (by simp only [List.getElem?_toArray, List.getElem?_cons_succ, List.getElem?_cons_zero]; rfl) (by kernel_rfl) (by kernel_rfl) (by kernel_rfl) (by exact fun _ _ _ h => h) (by first | (refine Or.inl ⟨by rfl, ?_⟩; intro W hW; exact exec_cmp_agg rfl (by kernel_rfl) rfl rfl (hcmp W)) | exact Or.inr ⟨by rfl, rfl⟩) ?_; try simp only [Act.put, List.setIfInBounds_toArray, List.set_cons_zero, List.set_cons_succ])
    (refine takeE (St.tr (· = w.heap.size + 2)) 6 (by simp only [List.getElem?_toArray, List.getElem?_cons_succ, List.getElem?_cons_zero]; rfl) (by kernel_rfl) (by kernel_rfl) (by kernel_rfl) (by exact fun _ _ _ h => h) (by first | (refine Or.inl ⟨by rfl, ?_⟩; intro W hW; go_simp; try with_reducible rfl) | exact Or.inr ⟨by rfl, rfl⟩) ?_; try simp only [Act.put, List.setIfInBounds_toArray, List.set_cons_zero, List.set_cons_succ])
    (refine takeE (St.tr (· = w.heap.size + 2)) 7 (by simp only [List.getElem?_toArray, List.getElem?_cons_succ, List.getElem?_cons_zero]; rfl) (by kernel_rfl) (by kernel_rfl) (by kernel_rfl) (by exact fun _ _ _ h => h) (by first | (refine Or.inl ⟨by rfl, ?_⟩; intro W hW; go_simp; try with_reducible rfl) | exact Or.inr ⟨by rfl, rfl⟩) ?_; try simp only [Act.put, List.setIfInBounds_toArray, List.set_cons_zero, List.set_cons_succ])
    (refine takeE (St.tr (· = w.heap.size + 2)) 9 (by simp only [List.getElem?_toArray, List.getElem?_cons_succ, List.getElem?_cons_zero]; rfl) (by kernel_rfl) (by kernel_rfl) (by kernel_rfl) (by exact fun _ _ _ h => h) (by first | (refine Or.inl ⟨by rfl, ?_⟩; intro W hW; go_simp; try with_reducible rfl) | exact Or.inr ⟨by rfl, rfl⟩) ?_; try simp only [Act.put, List.setIfInBounds_toArray, List.set_cons_zero, List.set_cons_succ])
    (refine takeE (St.tr (· = w.heap.size + 2)) 8 (by simp only [List.getElem?_toArray, List.getElem?_cons_succ, List.getElem?_cons_zero]; rfl) (by kernel_rfl) (by kernel_rfl) (by kernel_rfl) (by exact fun _ _ _ h => h) (by first | (refine Or.inl ⟨by rfl, ?_⟩; intro W hW; go_simp; try with_reducible rfl) | exact Or.inr ⟨by rfl, rfl⟩) ?_; try simp only [Act.put, List.setIfInBounds_toArray, List.set_cons_zero, List.set_cons_succ])
    (refine takeE (St.tr (· = w.heap.size + 2)) 10 (by simp only [List.getElem?_toArray, List.getElem?_cons_succ, List.getElem?_cons_zero]; rfl) (by kernel_rfl) (by kernel_rfl) (by kernel_rfl) (by exact fun _ _ _ h => h) (by first | (refine Or.inl ⟨by rfl, ?_⟩; intro W hW; go_simp; try with_reducible rfl) | exact Or.inr ⟨by rfl, rfl⟩) ?_; try simp only [Act.put, List.setIfInBounds_toArray, List.set_cons_zero, List.set_cons_succ])
    (refine takeE (St.tr (· = w.heap.size + 2)) 11 (by simp only [List.getElem?_toArray, List.getElem?_cons_succ, List.getElem?_cons_zero]; rfl) (by kernel_rfl) (by kernel_rfl) (by kernel_rfl) (by exact fun _ _ _ h => h) (by first | (refine Or.inl ⟨by rfl, ?_⟩; intro W hW; go_simp; try with_reducible rfl) | exact Or.inr ⟨by rfl, rfl⟩) ?_; try simp only [Act.put, List.setIfInBounds_toArray, List.set_cons_zero, List.set_cons_succ])
    (refine takeE (St.tr (· = w.heap.size + 2)) 12 (by simp only [List.getElem?_toArray, List.getElem?_cons_succ, List.getElem?_cons_zero]; rfl) (by kernel_rfl) (by kernel_rfl) (by kernel_rfl) (by exact fun _ _ _ h => h) (by first | (refine Or.inl ⟨by rfl, ?_⟩; intro W hW; go_simp; try with_reducible rfl) | exact Or.inr ⟨by rfl, rfl⟩) ?_; try simp only [Act.put, List.setIfInBounds_toArray, List.set_cons_zero, List.set_cons_succ])
    (refine takeE (St.tr (· = w.heap.size + 2)) 13 (by simp only [List.getElem?_toArray, List.getElem?_cons_succ, List.getElem?_cons_zero]; rfl) (by kernel_rfl) (by kernel_rfl) (by kernel_rfl) (by exact fun _ _ _ h => h) (by first | (refine Or.inl ⟨by rfl, ?_⟩; intro W hW; go_simp; try with_reducible rfl) | exact Or.inr ⟨by rfl, rfl⟩) ?_; try simp only [Act.put, List.setIfInBounds_toArray, List.set_cons_zero, List.set_cons_succ])
    (refine takeE (St.tr (· = w.heap.size + 2)) 14 (by simp only [List.getElem?_toArray, List.getElem?_cons_succ, List.getElem?_cons_zero]; rfl) (by kernel_rfl) (by kernel_rfl) (by kernel_rfl) (by exact fun _ _ _ h => h) (by first | (refine Or.inl ⟨by rfl, ?_⟩; intro W hW; go_simp; try with_reducible rfl) | exact Or.inr ⟨by rfl, rfl⟩) ?_; try simp only [Act.put, List.setIfInBounds_toArray, List.set_cons_zero, List.set_cons_succ])
    (refine takeE (St.tr (· = w.heap.size + 2)) 15 (by simp only [List.getElem?_toArray, List.getElem?_cons_succ, List.getElem?_cons_zero]; rfl) (by kernel_rfl) (by kernel_rfl) (by kernel_rfl) (by exact fun _ _ _ h => h) (by first | (refine Or.inl ⟨by rfl, ?_⟩; intro W hW; go_simp; try with_reducible rfl) | exact Or.inr ⟨by rfl, rfl⟩) ?_; try simp only [Act.put, List.setIfInBounds_toArray, List.set_cons_zero, List.set_cons_succ])
    (refine takeE (St.tr (· = w.heap.size + 2)) 16 (by simp only [List.getElem?_toArray, List.getElem?_cons_succ, List.getElem?_cons_zero]; rfl) (by kernel_rfl) (by kernel_rfl) (by kernel_rfl) (by exact fun _ _ _ h => h) (by first | (refine Or.inl ⟨by rfl, ?_⟩; intro W hW; go_simp; try with_reducible rfl) | exact Or.inr ⟨by rfl, rfl⟩) ?_; try simp only [Act.put, List.setIfInBounds_toArray, List.set_cons_zero, List.set_cons_succ])
    refine wpAnyE_one (i := 17) (by kernel_rfl) (by simp only [List.getElem?_toArray, List.getElem?_cons_succ, List.getElem?_cons_zero]; rfl) (fun K hK => ?_)
    refine opwp_store_bk rowR rfl (.tmp 6) (.tmp 112) rfl (w.heap.size + 2) 0 rfl zrr [.slice v2.A v2.n v2.c, .slice v2.B v2.k v2.d, .slice v2.C v2.r v2.e, .int .i64 mm.most, .int .i64 mm.run, .int .i64 mm.total] rfl rfl (by decide) (by simp [Value.oneCell']) ?_
    intro u8 hz8 hw8
    rw [lay_all _ _ (by rfl)] at hz8
    clear zrr
    have zrr := hz8
    have hs8 : St (· = w.heap.size + 2) _ u8 := st_wr hw8
    replace hc := hc.trans hs8 (Gr.refl _ _)
    clear q1
    have q1 : ∀ V, St (· = w.heap.size + 2) u8 V → V.cell? ⟨w2.heap.size, 2, none⟩ = some (.int .i64 nn) := fun V hV => (zpa.st (hc.trans hV (Gr.refl _ _)) nP).cell 2 rfl
    clear hz8 hw8
    refine hK.out _ _ hs8 ?_
    clear hK K
    try simp only [Act.put, List.setIfInBounds_toArray, List.set_cons_zero, List.set_cons_succ]
    (refine takeE (St.tr (· = w.heap.size + 2)) 18 (by simp only [List.getElem?_toArray, List.getElem?_cons_succ, List.getElem?_cons_zero]; rfl) (by kernel_rfl) (by kernel_rfl) (by kernel_rfl) (by exact fun _ _ _ h => h) (by first | (refine Or.inl ⟨by rfl, ?_⟩; intro W hW; go_simp; try with_reducible rfl) | exact Or.inr ⟨by rfl, rfl⟩) ?_; try simp only [Act.put, List.setIfInBounds_toArray, List.set_cons_zero, List.set_cons_succ])
    refine wpAnyE_done (by kernel_rfl) ?_ _
    clear q1 hcmp
    go_wp2
    refine bodyPost_ret (results_cell_tmp rfl rfl (rowR.load zrr 0 (cs := [.slice v2.A v2.n v2.c, .slice v2.B v2.k v2.d, .slice v2.C v2.r v2.e, .int .i64 mm.most, .int .i64 mm.run, .int .i64 mm.total]) rfl rfl)) rfl ⟨v2, ?_, F', ?_, ?_, ?_, ?_⟩
    · rw [HST2.out]; rfl
    · rw [HST2.out]
      exact ((H2.out.1.below HR4.out.2).below HBD.out).st hc fun j hj e => H2.out.2.2.2.2.2.2.2 (e ▸ hj)
    · rw [HST2.out]
      exact ((HR4.out.1.below HBD.out).st hc fun j hj => hj.2).mono fun j hj => hj.1
    · refine (((((St.ext (F := F) HA.out.1).trans H2.out.2.1 (Gr.refl _ _)).trans (St.ext (F := F) HR4.out.2) (Gr.refl _ _)).trans (St.ext (F := F) HBD.out) (Gr.refl _ _)).trans (F' := fun j => F j ∨ j = w.heap.size + 2) (hc.mono fun j _ e => .inr e) fun j hj => ?_)
      rcases hj with hj | rfl
      · exact .inl hj
      · exact .inr (by omega)
    · exact fun j hj => (H2.out.2.2.1 j hj).imp_right fun h => Nat.le_trans HA.out.1.size h
  · have e0 : (d % 8 == 0) = false := by simp; omega
    have e4 : (d % 8 == 4) = false := by simp; omega
    have e5 : (d % 8 == 5) = false := by simp; omega
    have e6 : (d % 8 == 6) = false := by simp; omega
    have HST2 : Hid (ms = (m.oweR k n).1) := Lib.hid (by rw [HST.out, if_neg (by omega), if_neg (by omega), if_neg (by omega)])
    clear hd8
    go_enter Try.func15, Try.ntmps15
    go_wp2_with fail
    rw [← hW]
    clear hW
    have hd0 := HA.out.2.2.1.cell 0 rfl
    refine wp_region_E (St F) (by kernel_rfl) (fun wd hbd hsz => ?_)
    have HAd := Lib.hid (HA.out.2.2.2.2.1.below hbd)
    have zod := HA.out.2.2.1.below hbd
    have HBd := Lib.hid hbd
    have q1 : ∀ V, St F wd V → V.cell? ⟨w.heap.size + 1, 1, none⟩ = some (.int .i64 k.s) := fun V hV => (zod.st hV HN.out.2.1).cell 1 rfl
    have q2 : ∀ V, St F wd V → V.cell? ⟨w.heap.size + 1, 2, none⟩ = some (.int .i64 k.c) := fun V hV => (zod.st hV HN.out.2.1).cell 2 rfl
    have q3 : ∀ V, St F wd V → V.cell? ⟨w.heap.size + 1, 3, none⟩ = some (.int .i64 g) := fun V hV => (zod.st hV HN.out.2.1).cell 3 rfl
    have q4 : ∀ V, St F wd V → V.cell? ⟨w.heap.size + 1, 4, none⟩ = some (.int .i64 n) := fun V hV => (zod.st hV HN.out.2.1).cell 4 rfl
    have HEO := Lib.hid HBd.out
    clear hsz
    (refine takeE (St.tr F) 0 (by simp only [List.getElem?_toArray, List.getElem?_cons_succ, List.getElem?_cons_zero]; rfl) (by kernel_rfl) (by kernel_rfl) (by kernel_rfl) (by exact fun _ _ _ h => h) (by first | (refine Or.inl ⟨by rfl, ?_⟩; intro W hW; go_simp; try with_reducible rfl) | exact Or.inr ⟨by rfl, rfl⟩) ?_; try simp only [Act.put, List.setIfInBounds_toArray, List.set_cons_zero, List.set_cons_succ])
    (refine takeE (St.tr F) 1 (by simp only [List.getElem?_toArray, List.getElem?_cons_succ, List.getElem?_cons_zero]; rfl) (by kernel_rfl) (by kernel_rfl) (by kernel_rfl) (by exact fun _ _ _ h => h) (by first | (refine Or.inl ⟨by rfl, ?_⟩; intro W hW; go_simp; try with_reducible rfl) | exact Or.inr ⟨by rfl, rfl⟩) ?_; try simp only [Act.put, List.setIfInBounds_toArray, List.set_cons_zero, List.set_cons_succ])
    (refine takeE (St.tr F) 4 (by simp only [List.getElem?_toArray, List.getElem?_cons_succ, List.getElem?_cons_zero]; rfl) (by kernel_rfl) (by kernel_rfl) (by kernel_rfl) (by exact fun _ _ _ h => h) (by first | (refine Or.inl ⟨by rfl, ?_⟩; intro W hW; go_simp; try with_reducible rfl) | exact Or.inr ⟨by rfl, rfl⟩) ?_; try simp only [Act.put, List.setIfInBounds_toArray, List.set_cons_zero, List.set_cons_succ])
    (refine takeE (St.tr F) 2 (by simp only [List.getElem?_toArray, List.getElem?_cons_succ, List.getElem?_cons_zero]; rfl) (by kernel_rfl) (by kernel_rfl) (by kernel_rfl) (by exact fun _ _ _ h => h) (by first | (refine Or.inl ⟨by rfl, ?_⟩; intro W hW; go_simp; try with_reducible rfl) | exact Or.inr ⟨by rfl, rfl⟩) ?_; try simp only [Act.put, List.setIfInBounds_toArray, List.set_cons_zero, List.set_cons_succ])
    (refine takeE (St.tr F) 5 (by simp only [List.getElem?_toArray, List.getElem?_cons_succ, List.getElem?_cons_zero]; rfl) (by kernel_rfl) (by kernel_rfl) (by kernel_rfl) (by exact fun _ _ _ h => h) (by first | (refine Or.inl ⟨by rfl, ?_⟩; intro W hW; go_simp; try with_reducible rfl) | exact Or.inr ⟨by rfl, rfl⟩) ?_; try simp only [Act.put, List.setIfInBounds_toArray, List.set_cons_zero, List.set_cons_succ])
    refine wpAnyE_one (i := 3) (by kernel_rfl) (by simp only [List.getElem?_toArray, List.getElem?_cons_succ, List.getElem?_cons_zero]; rfl) (fun K hK => ?_)
    go_simp
    refine (l_of k _).mono ?_
    rintro en u1 ⟨rfl, hbo⟩
    have HEO2 := Lib.hid hbo
    have hso : St F _ u1 := St.ext hbo
    clear hbo
    refine hK.out _ _ hso ?_
    clear hK K
    try simp only [Act.put, List.setIfInBounds_toArray, List.set_cons_zero, List.set_cons_succ]
    refine wpAnyE_one (i := 6) (by kernel_rfl) (by simp only [List.getElem?_toArray, List.getElem?_cons_succ, List.getElem?_cons_zero]; rfl) (fun K hK => ?_)
    go_simp
    refine (p_owe (HAd.out.below HEO2.out) HOK.out.1 k n).mono ?_
    rintro en w2 ⟨rfl, hd2⟩
    have HB0 := Lib.hid (HEO.out.trans (HEO2.out.mono HEO.out.size))
    obtain ⟨F', ha2, hs2, hg2⟩ := hd2
    have hb0 := HB0.out
    have hst2 : St F W w2 := (St.ext (F := F) hb0).trans hs2 (Gr.refl _ _)
    have hgr2 : Gr F F' W.heap.size := fun j hj => (hg2 j hj).imp_right fun h => Nat.le_trans hb0.size h
    have hrp2 : RpR (fun j => (¬ F' j ∧ ¬ Kp j) ∧ j < w.heap.size) w2 v m := (HA.out.2.2.2.2.2.st hst2 fun j hj => hj.1.1).mono fun j hj => ⟨⟨hgr2.not (by have := HSW.out; omega) hj.1.1, hj.1.2⟩, hj.2⟩
    have zp2 := HA.out.2.1.st hst2 HN.out.1
    have zo2 := HA.out.2.2.1.st hst2 HN.out.2.1
    have zr2 := HA.out.2.2.2.1.st hst2 HN.out.2.2
    have hF2 : ¬ F' (w.heap.size + 2) := hgr2.not (by have := HSW.out; omega) HN.out.2.2
    have H2 := Lib.hid (And.intro ha2 (And.intro hst2 (And.intro hgr2 (And.intro hrp2 (And.intro zp2 (And.intro zo2 (And.intro zr2 hF2)))))))
    have HS2 := Lib.hid hs2
    clear ha2 hg2 hst2 hgr2 hrp2 zp2 zo2 zr2 hF2 hb0
    refine hK.out _ _ HS2.out ?_
    clear hK K
    try simp only [Act.put, List.setIfInBounds_toArray, List.set_cons_zero, List.set_cons_succ]
    (refine takeE (St.tr F) 7 (by simp only [List.getElem?_toArray, List.getElem?_cons_succ, List.getElem?_cons_zero]; rfl) (by kernel_rfl) (by kernel_rfl) (by kernel_rfl) (by exact fun _ _ _ h => h) (by first | (refine Or.inl ⟨by rfl, ?_⟩; intro W hW; go_simp; try with_reducible rfl) | exact Or.inr ⟨by rfl, rfl⟩) ?_; try simp only [Act.put, List.setIfInBounds_toArray, List.set_cons_zero, List.set_cons_succ])
    refine wpAnyE_done (by kernel_rfl) ?_ _
    clear q1 q2 q3 q4
    have HRF := Lib.hid (r_owe (X := fun j => (¬ F' j ∧ ¬ Kp j) ∧ j ≠ w.heap.size + 2) (H2.out.2.2.2.1.mono fun j hj => ⟨hj.1, by omega⟩) HOK.out.1 k n (fun j hj => ⟨⟨fun e => by have := H2.out.1.bd _ e; omega, fun e => by have := HKK.out _ e; have := H2.out.2.1.size; have := HSW.out; omega⟩, by have := HSW.out; have := H2.out.2.1.size; omega⟩))
    have o0 := H2.out.2.2.2.2.2.1.cell 1 rfl
    have o1 := H2.out.2.2.2.2.2.1.cell 2 rfl
    have o2 := H2.out.2.2.2.2.2.1.cell 3 rfl
    have o3 := H2.out.2.2.2.2.2.1.cell 4 rfl
    have zp2 := H2.out.2.2.2.2.1
    go_wp2_with (first
      | (with_reducible refine at_load 30 (.tmp 4) (by rfl) ?_; refine wpList_load_bk rowR rfl (.tmp 4) rfl w.heap.size 0 rfl zp2 ([.slice v.A v.n v.c, .slice v.B v.k v.d, .slice v.C v.r v.e, .int .i64 m.most, .int .i64 m.run, .int .i64 m.total]) rfl rfl ?_))
    refine HRF.out.mono ?_
    rintro e w3 ⟨v2, rfl, hr3, hb3⟩
    have hb4 : Below w2.heap.size w2 (w3.alloc (.cells #[.slice v2.A v2.n v2.c, .slice v2.B v2.k v2.d, .slice v2.C v2.r v2.e, .int .i64 m.most, .int .i64 m.run, .int .i64 m.total] 30)) := hb3.alloc hb3.size _
    have zr4 := H2.out.2.2.2.2.2.2.1.below hb4
    have hr4 := hr3.below ((Below.refl w3.heap.size w3).alloc (Nat.le_refl _) (.cells #[.slice v2.A v2.n v2.c, .slice v2.B v2.k v2.d, .slice v2.C v2.r v2.e, .int .i64 m.most, .int .i64 m.run, .int .i64 m.total] 30))
    have znw := Bk.new w3 30 [.slice v2.A v2.n v2.c, .slice v2.B v2.k v2.d, .slice v2.C v2.r v2.e, .int .i64 m.most, .int .i64 m.run, .int .i64 m.total]
    have HR4 := Lib.hid (And.intro hr4 hb4)
    clear hr3 hb3 hr4 hb4 o0 o1 o2 o3 zp2
    go_wp2_with (first
      | (with_reducible refine at_load 30 (.tmp 23) (by rfl) ?_; refine wpList_load_bk rowR rfl (.tmp 23) rfl w3.heap.size 0 rfl znw [.slice v2.A v2.n v2.c, .slice v2.B v2.k v2.d, .slice v2.C v2.r v2.e, .int .i64 m.most, .int .i64 m.run, .int .i64 m.total] rfl rfl ?_)
      | (with_reducible refine at_store 30 (.tmp 6) (.tmp 44) (by rfl) ?_; refine wpList_store_bk rowR rfl (.tmp 6) (.tmp 44) rfl (w.heap.size + 2) 0 rfl zr4 [.slice v2.A v2.n v2.c, .slice v2.B v2.k v2.d, .slice v2.C v2.r v2.e, .int .i64 m.most, .int .i64 m.run, .int .i64 m.total] rfl rfl (by decide) (by simp [Value.oneCell']) ?_; intro w5 hz5 hw5))
    rw [lay_all _ _ (by rfl)] at hz5
    have hs5 : St (· = w.heap.size + 2) _ w5 := st_wr hw5
    have hne5 : ∀ j, ¬ F' j → True := fun _ _ => trivial
    refine bodyPost_ret (results_cell_tmp rfl rfl (rowR.load hz5 0 (cs := [.slice v2.A v2.n v2.c, .slice v2.B v2.k v2.d, .slice v2.C v2.r v2.e, .int .i64 m.most, .int .i64 m.run, .int .i64 m.total]) rfl rfl)) rfl ⟨v2, ?_, F', ?_, ?_, ?_, ?_⟩
    · rw [HST2.out]
      obtain ⟨e1, e2, e3⟩ := num_owe m k n
      rw [e1, e2, e3]
      rfl
    · rw [HST2.out]
      exact (H2.out.1.below HR4.out.2).st hs5 fun j hj e => H2.out.2.2.2.2.2.2.2 (e ▸ hj)
    · rw [HST2.out]
      exact (HR4.out.1.st hs5 fun j hj => hj.2).mono fun j hj => hj.1
    · refine ((((St.ext (F := F) HA.out.1).trans H2.out.2.1 (Gr.refl _ _)).trans (St.ext (F := F) HR4.out.2) (Gr.refl _ _)).trans (F' := fun j => F j ∨ j = w.heap.size + 2) (hs5.mono fun j _ e => .inr e) fun j hj => ?_)
      rcases hj with hj | rfl
      · exact .inl hj
      · exact .inr (by omega)
    · exact fun j hj => (H2.out.2.2.1 j hj).imp_right fun h => Nat.le_trans HA.out.1.size h
end
end Go.Proofs.Ytdldocbfnjbhmaa
