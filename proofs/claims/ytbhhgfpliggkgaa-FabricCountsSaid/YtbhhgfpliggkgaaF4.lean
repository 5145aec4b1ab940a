/- A packet is put into its port of a fabric, and what that returns into the port of who sent it. -/
import Derived.Test.YtbhhgfpliggkgaaF3
set_option linter.unusedSimpArgs false
set_option linter.unusedVariables false
set_option maxRecDepth 100000
namespace Go.Proofs.Ytbhhgfpliggkgaa
open Go.RowKit Go.Shelf

/-- A packet into its port: the fabric, the verdict, what is to be sent back. -/
def FM.into (m : FM) (x : Pk) : FM := match m.port x.h.pa x.h.ds with | none => m | some a => m.sp (ix x.h.pa x.h.ds) (a.nx x)
def FM.ivd (m : FM) (x : Pk) : Nat := match m.port x.h.pa x.h.ds with | none => 4 | some a => a.vd x
def FM.iout (m : FM) (x : Pk) : Pk := match m.port x.h.pa x.h.ds with | none => Pk.zero | some a => a.out x
def FM.pvd (m : FM) (x : Pk) : Nat := if m.ivd x = 3 then (if (m.into x).ivd (m.iout x) = 1 then 3 else 4) else m.ivd x
def FM.pv3 (m : FM) (x : Pk) : Nat := if (m.into x).ivd (m.iout x) = 1 then 3 else 4
def FM.pnx (m : FM) (x : Pk) : FM := if m.ivd x = 3 then (m.into x).into (m.iout x) else m.into x
/-- All its ports keep within their rooms. -/
def FMb (m : FM) (L H : Nat) (B : Int) : Prop := ∀ k a, m.pt k = some a → AMb a L H B
section
variable {F X F1 X1 G : Nat → Prop} {w w' w1 : World} {b : Nat} {m m1 : FM} {pp : Nat → Nat} {FF : Nat → Nat → Prop} {k L H : Nat} {a c : AM} {B C : Int}
theorem FMb.mono (h : FMb m L H B) (hC : B ≤ C) : FMb m L H C := fun k a hk => (h k a hk).mono hC
theorem FMb.sp (h : FMb m L H B) (ha : AMb a L H C) (hC : B ≤ C) : FMb (m.sp k a) L H C := fun i e hi => by
  unfold FM.sp at hi
  dsimp only at hi
  by_cases hik : i = k
  · subst hik; rw [set1_at] at hi; injection hi with hi; subst hi; exact ha
  · rw [set1_ne _ _ hik] at hi; exact (h i e hi).mono hC
theorem FMb.into (h : FMb m L H B) (x : Pk) : FMb (m.into x) L H (B + 1) := by
  unfold FM.into
  cases hp : m.port x.h.pa x.h.ds with
  | none => exact h.mono (by omega)
  | some a => exact h.sp ((h _ _ (FM.port_pt hp)).nx x) (by omega)
theorem FMb.pnx (h : FMb m L H B) (x : Pk) : FMb (m.pnx x) L H (B + 2) := by
  unfold FM.pnx
  split
  · have := (h.into x).into (m.iout x)
    rwa [show B + 1 + 1 = B + 2 by omega] at this
  · exact (h.into x).mono (by omega)
theorem FM.pvd_lt (m : FM) (x : Pk) : 1 ≤ m.pvd x ∧ m.pvd x ≤ 4 := by
  have hi : ∀ m : FM, ∀ x : Pk, 1 ≤ m.ivd x ∧ m.ivd x ≤ 4 := fun m x => by
    unfold FM.ivd
    split
    · omega
    · rename_i a _
      have := a.vd_cases x; omega
  unfold FM.pvd
  have h1 := hi m x
  repeat' split
  all_goals omega
theorem FbC.put (h : FbC F X w b m pp FF) (hM : FMb m L H B) (hB : B ≤ 1000000) {q : Pv} (hq : PvR F w q) :
    Calls Try.prog 45 #[.pointer (m.addr pp q.h.pa q.h.ds), .agg #[.int .i64 q.h.kd, .int .i64 q.h.fl, .int .i64 q.h.pa, .int .i64 q.h.sr, .int .i64 q.h.ds, .int .i64 q.h.cn, .int .i64 q.h.sq, .int .i64 q.h.pu, .slice q.A q.n q.c]] w fun e w' => ∃ q' F' FF', e = .returned (.tuple #[.int .i64 (m.ivd q.pk), .agg #[.int .i64 q'.h.kd, .int .i64 q'.h.fl, .int .i64 q'.h.pa, .int .i64 q'.h.sr, .int .i64 q'.h.ds, .int .i64 q'.h.cn, .int .i64 q'.h.sq, .int .i64 q'.h.pu, .slice q'.A q'.n q'.c]]) ∧ q'.pk = m.iout q.pk ∧
      FbC F' X w' b (m.into q.pk) pp FF' ∧ St F w w' ∧ Gr F F' w.heap.size ∧ PvR (fun k => F' k ∨ X k) w' q' := by
  have hpk : q.pk.h = q.h := rfl
  unfold FM.into FM.ivd FM.iout
  rw [hpk]
  cases hp : m.port q.h.pa q.h.ds with
  | none =>
    have e : m.addr pp q.h.pa q.h.ds = none := by unfold FM.addr; rw [hp]; rfl
    rw [e]
    refine (n_put (.inl rfl) q).mono ?_
    rintro e w' ⟨rfl, hb⟩
    exact ⟨zPv, F, FF, rfl, rfl, h.below hb, St.ext hb, Gr.refl _ _, PvR.zero _ _⟩
  | some a =>
    have e : m.addr pp q.h.pa q.h.ds = some ⟨pp (ix q.h.pa q.h.ds), 0, none⟩ := by unfold FM.addr; rw [hp]; rfl
    rw [e]
    have hk := FM.port_pt hp
    obtain ⟨pl, ph, Fl, Fh, ql, qh, hpt⟩ := h.pt _ _ hk
    refine (pt_put hpt (hq.mono fun j hj => h.sub hk j hj) ((hM _ _ hk).ok.ct hB)).mono ?_
    rintro e w' ⟨q', rfl, hk', F1, Fl', Fh', ql', qh', hp1, hs1, hg1, hr1⟩
    obtain ⟨F', FF', h1, h2, h3, h4⟩ := h.port hk ⟨pl, ph, Fl', Fh', ql', qh', hp1⟩ hs1 hg1
    refine ⟨q', F', FF', rfl, hk', h1, h2, h3, hr1.mono fun j hj => ?_⟩
    rcases hj with hj | hj
    · exact (h4 j hj).elim (fun h => .inr (.inl h)) .inl
    · exact .inr (.inr hj)
theorem Bk.kp {t : TypeId} {g : Nat} {vs : List Value} {S : Nat → Prop} (h : Bk w t g vs) (hk : Keep S w w') (hS : S g) : Bk w' t g vs := (hk.block hS).trans h
theorem Keep.setW {g : Nat} {S : Nat → Prop} (hw : Wr g w w') (hS : ∀ k, S k → k < w.heap.size ∧ k ≠ g) : Keep S w w' := ⟨hw.os, hw.tape, hw.output, hw.size, fun k hk => hw.block k (hS k hk).1 (by intro e; injection e with e; exact (hS k hk).2 e)⟩
/-- A box of the call's own is off limits. -/
theorem FbC.box (h : FbC F X w b m pp FF) {g : Nat} (hb : Below w.heap.size w w') (hg : w.heap.size ≤ g) (hg' : g < w'.heap.size) : FbC F (fun k => X k ∨ k = g) w' b m pp FF :=
  h.st (G := fun _ => False) (St.ext hb) (fun _ _ h => h) (fun _ h => h.elim) (fun k hk => hk.imp id fun e => by omega) (fun k hk => hk.elim (fun hk => Nat.lt_of_lt_of_le (h.xb k hk) hb.size) fun e => by omega)
theorem St.kp {S : Nat → Prop} (h : St F w w') (hS : ∀ k, S k → k < w.heap.size ∧ ¬ F k) : Keep S w w' := ⟨h.os, h.tape, h.output, h.size, fun k hk => h.block k (hS k hk).1 (hS k hk).2⟩
/-- The fabric is this one now; nothing else of what was there has changed. -/
def FDid (F X : Nat → Prop) (w : World) (b : Nat) (m : FM) (pp : Nat → Nat) (w' : World) : Prop := ∃ F' FF', FbC F' X w' b m pp FF' ∧ St F w w' ∧ Gr F F' w.heap.size
/-- A packet went in, and what came of it lies in box g. -/
def InTo (F X : Nat → Prop) (w : World) (b : Nat) (m : FM) (pp : Nat → Nat) (g : Nat) (q : Pv) (w' : World) : Prop := ∃ F' FF', FbC F' (fun k => X k ∨ k = g) w' b m pp FF' ∧ St F w w' ∧ Gr F F' w.heap.size ∧ PvR (fun k => F' k ∨ X k ∨ k = g) w' q ∧ Bk w' 65 g q.cl ∧ w.heap.size ≤ g ∧ ¬ F' g
theorem into_after {o : Obj} {w6 w7 : World} {F6 : Nat → Prop} {FF6 : Nat → Nat → Prop} {q : Pv} (hf : FbC F6 X w6 b m pp FF6) (hs : St F w w6) (hg : Gr F F6 w.heap.size) (hr : PvR (fun k => F6 k ∨ X k) w6 q) (hw : Wr w6.heap.size (w6.alloc o) w7) (hz : Bk w7 65 w6.heap.size q.cl) : InTo F X w b m pp w6.heap.size q w7 := by
  have hba := (Below.refl w6.heap.size w6).alloc (Nat.le_refl _) o
  have hfb := hf.box (g := w6.heap.size) hba (Nat.le_refl _) (by simp)
  have hst : St (· = w6.heap.size) (w6.alloc o) w7 := wr_st hw rfl
  have hsz := hs.size
  refine ⟨F6, FF6, hfb.st hst (fun k hk e => by have := hf.bd k hk; omega) (fun k hk => .inl (.inr hk)) (fun k hk => .inl hk) (fun k hk => Nat.lt_of_lt_of_le (hfb.xb k hk) hst.size), (hs.trans (St.ext hba) (Gr.refl _ _)).trans ((hst.mono fun k _ hk => .inr (by omega) : St (fun k => F k ∨ w6.heap.size ≤ k) _ _) |> fun h => h.mono fun k _ hk => hk) (fun k hk => hk.imp id fun h => by omega), hg, ?_, hz, hs.size, fun h => Nat.lt_irrefl _ (hf.bd _ h)⟩
  have h1 := (hr.below hba).wr hw fun hn ad he => by have := hr.1.blk hn ad he; omega
  exact ⟨h1.1, h1.2.1, h1.2.2.1, fun hn ad he hf' => by
    rcases hf' with h | h | h
    · exact h1.2.2.2 hn ad he (.inl h)
    · exact h1.2.2.2 hn ad he (.inr h)
    · have := hr.1.blk hn ad he; omega⟩
theorem into_before {o : Obj} {w6 w7 : World} {F6 : Nat → Prop} {FF6 : Nat → Nat → Prop} {q : Pv} (hF : ∀ k, F k → k < w.heap.size) (hf : FbC F6 (fun k => X k ∨ k = w.heap.size) w6 b m pp FF6) (hs : St F (w.alloc o) w6) (hg : Gr F F6 (w.alloc o).heap.size) (hr : PvR (fun k => F6 k ∨ X k ∨ k = w.heap.size) w6 q) (hw : Wr w.heap.size w6 w7) (hz : Bk w7 65 w.heap.size q.cl) : InTo F X w b m pp w.heap.size q w7 := by
  have hba := (Below.refl w.heap.size w).alloc (Nat.le_refl _) o
  have hst : St (· = w.heap.size) w6 w7 := wr_st hw rfl
  have hnF : ¬ F6 w.heap.size := hg.not (by simp) fun h => Nat.lt_irrefl _ (hF _ h)
  refine ⟨F6, FF6, hf.st hst (fun k hk e => hnF (e ▸ hk)) (fun k hk => .inl (.inr hk)) (fun k hk => .inl hk) (fun k hk => Nat.lt_of_lt_of_le (hf.xb k hk) hst.size), ?_, (Gr.refl F _).trans hg hba.size, ?_, hz, Nat.le_refl _, hnF⟩
  · exact ((St.ext hba).trans hs (Gr.refl _ _)).trans (hst.mono (F' := fun k => F k ∨ w.heap.size ≤ k) fun k _ hk => .inr (by omega)) (fun k hk => hk)
  · exact hr.wr hw fun hn ad he e => hr.2.2.2 hn ad he (.inr (.inr e))
set_option maxHeartbeats 8000000 in
theorem f_put1 (h : FbC F X w b m pp FF) (hM : FMb m L H B) (hB : B + 2 ≤ 1000000) {q : Pv} (hq : PvR F w q) (hv : m.ivd q.pk ≠ 3) :
    Calls Try.prog 31 #[.pointer (some ⟨b, 0, none⟩), .agg #[.int .i64 q.h.kd, .int .i64 q.h.fl, .int .i64 q.h.pa, .int .i64 q.h.sr, .int .i64 q.h.ds, .int .i64 q.h.cn, .int .i64 q.h.sq, .int .i64 q.h.pu, .slice q.A q.n q.c]] w fun e w' => e = .returned (.int .i64 (m.ivd q.pk)) ∧ FDid F X w b (m.into q.pk) pp w' := by
  have hb0 := (Below.refl w.heap.size w).alloc (Nat.le_refl _) (.cells (List.toArray [.int .i64 q.h.kd, .int .i64 q.h.fl, .int .i64 q.h.pa, .int .i64 q.h.sr, .int .i64 q.h.ds, .int .i64 q.h.cn, .int .i64 q.h.sq, .int .i64 q.h.pu, .slice q.A q.n q.c]) 65)
  have HX0 := Lib.hid (Bk.new w 65 [.int .i64 q.h.kd, .int .i64 q.h.fl, .int .i64 q.h.pa, .int .i64 q.h.sr, .int .i64 q.h.ds, .int .i64 q.h.cn, .int .i64 q.h.sq, .int .i64 q.h.pu, .slice q.A q.n q.c])
  have HF0 := Lib.hid (h.box (g := w.heap.size) hb0 (Nat.le_refl _) (by simp))
  have HQ0 := Lib.hid (hq.below hb0)
  have HB0 := Lib.hid hb0
  have HFB := Lib.hid h.bd
  have HM := Lib.hid hM
  clear h hq hM hb0
  go_enter Try.func31, Try.ntmps31
  go_wp2
  have hv3 : ¬ ((m.ivd q.pk : Nat) : Int) = 3 := by omega
  refine wp_region_E (Keep (· = w.heap.size)) (by kernel_rfl) (fun wd hbd hsz => ?_)
  have hfc := HF0.out.below hbd
  have hqc := HQ0.out.below hbd
  have HXC := Lib.hid (HX0.out.below hbd)
  have HBD := Lib.hid (below_on HB0.out hbd)
  have HFD := Lib.hid hfc.bd
  have HnF : Hid (¬ F w.heap.size) := Lib.hid fun hf => Nat.lt_irrefl _ (HFB.out _ hf)
  have hgF : ¬ F wd.heap.size := fun hf => Nat.lt_irrefl _ (HFD.out _ hf)
  clear hsz HF0 HQ0 HX0 hbd
  have k2 : ∀ W, Keep (· = w.heap.size) wd W → W.cell? ⟨w.heap.size, 2, none⟩ = some (.int .i64 q.h.pa) := fun W hW => (HXC.out.kp hW rfl).cell 2 rfl
  have k4 : ∀ W, Keep (· = w.heap.size) wd W → W.cell? ⟨w.heap.size, 4, none⟩ = some (.int .i64 q.h.ds) := fun W hW => (HXC.out.kp hW rfl).cell 4 rfl
  have hsz1 : wd.heap.size ≤ wd.heap.size := Nat.le_refl _
  (refine takeE (Keep.tr (· = w.heap.size)) 0 (by simp only [List.getElem?_toArray, List.getElem?_cons_succ, List.getElem?_cons_zero]; rfl) (by kernel_rfl) (by kernel_rfl) (by kernel_rfl) (by exact fun _ _ _ h => h) (by first | (refine Or.inl ⟨by rfl, ?_⟩; intro W hW; go_simp; try with_reducible rfl) | exact Or.inr ⟨by rfl, rfl⟩) ?_; try simp only [Act.put, List.setIfInBounds_toArray, List.set_cons_zero, List.set_cons_succ])
  (refine takeE (Keep.tr (· = w.heap.size)) 1 (by simp only [List.getElem?_toArray, List.getElem?_cons_succ, List.getElem?_cons_zero]; rfl) (by kernel_rfl) (by kernel_rfl) (by kernel_rfl) (by exact fun _ _ _ h => h) (by first | (refine Or.inl ⟨by rfl, ?_⟩; intro W hW; go_simp; try with_reducible rfl) | exact Or.inr ⟨by rfl, rfl⟩) ?_; try simp only [Act.put, List.setIfInBounds_toArray, List.set_cons_zero, List.set_cons_succ])
  (refine takeE (Keep.tr (· = w.heap.size)) 3 (by simp only [List.getElem?_toArray, List.getElem?_cons_succ, List.getElem?_cons_zero]; rfl) (by kernel_rfl) (by kernel_rfl) (by kernel_rfl) (by exact fun _ _ _ h => h) (by first | (refine Or.inl ⟨by rfl, ?_⟩; intro W hW; go_simp; try with_reducible rfl) | exact Or.inr ⟨by rfl, rfl⟩) ?_; try simp only [Act.put, List.setIfInBounds_toArray, List.set_cons_zero, List.set_cons_succ])
  (refine takeE (Keep.tr (· = w.heap.size)) 6 (by simp only [List.getElem?_toArray, List.getElem?_cons_succ, List.getElem?_cons_zero]; rfl) (by kernel_rfl) (by kernel_rfl) (by kernel_rfl) (by exact fun _ _ _ h => h) (by first | (refine Or.inl ⟨by rfl, ?_⟩; intro W hW; exact exec_load_bk rowP (.tmp 3) rfl w.heap.size 0 rfl (HXC.out.kp hW rfl) q.cl rfl rfl) | exact Or.inr ⟨by rfl, rfl⟩) ?_; try simp only [Act.put, List.setIfInBounds_toArray, List.set_cons_zero, List.set_cons_succ])
  (refine takeE (Keep.tr (· = w.heap.size)) 2 (by simp only [List.getElem?_toArray, List.getElem?_cons_succ, List.getElem?_cons_zero]; rfl) (by kernel_rfl) (by kernel_rfl) (by kernel_rfl) (by exact fun _ _ _ h => h) (by first | (refine Or.inl ⟨by rfl, ?_⟩; intro W hW; go_simp; try with_reducible rfl) | exact Or.inr ⟨by rfl, rfl⟩) ?_; try simp only [Act.put, List.setIfInBounds_toArray, List.set_cons_zero, List.set_cons_succ])
  (refine takeE (Keep.tr (· = w.heap.size)) 4 (by simp only [List.getElem?_toArray, List.getElem?_cons_succ, List.getElem?_cons_zero]; rfl) (by kernel_rfl) (by kernel_rfl) (by kernel_rfl) (by exact fun _ _ _ h => h) (by first | (refine Or.inl ⟨by rfl, ?_⟩; intro W hW; go_simp; try with_reducible rfl) | exact Or.inr ⟨by rfl, rfl⟩) ?_; try simp only [Act.put, List.setIfInBounds_toArray, List.set_cons_zero, List.set_cons_succ])
  refine wpAnyE_two (i := 5) (j := 11) (by kernel_rfl) (by simp only [List.getElem?_toArray, List.getElem?_cons_succ, List.getElem?_cons_zero]; rfl) (by simp only [List.getElem?_toArray, List.getElem?_cons_succ, List.getElem?_cons_zero]; rfl) (fun K hK => ?_) (fun K hK => ?_)
  ·
    go_simp
    refine (f_at hfc.fp _ _).mono ?_
    rintro e wq ⟨rfl, rfl⟩
    refine hK.out _ _ ((Keep.tr _).refl _) ?_
    clear hK K
    try simp only [Act.put, List.setIfInBounds_toArray, List.set_cons_zero, List.set_cons_succ]
    refine wpAnyE_two (i := 7) (j := 11) (by kernel_rfl) (by simp only [List.getElem?_toArray, List.getElem?_cons_succ, List.getElem?_cons_zero]; rfl) (by simp only [List.getElem?_toArray, List.getElem?_cons_succ, List.getElem?_cons_zero]; rfl) (fun K hK => ?_) (fun K hK => ?_)
    ·
      go_simp
      refine (hfc.put HM.out (by omega) hqc).mono ?_
      rintro e w6 ⟨q', F6, FF6, rfl, hk6, hf6, hs6, hg6, hr6⟩
      refine hK.out _ _ (hs6.kp fun k hk => by rw [hk]; exact ⟨Nat.lt_of_lt_of_le HXC.out.lt hsz1, HnF.out⟩) ?_
      clear hK K
      try simp only [Act.put, List.setIfInBounds_toArray, List.set_cons_zero, List.set_cons_succ]
      (refine takeE (Keep.tr (· = w.heap.size)) 8 (by simp only [List.getElem?_toArray, List.getElem?_cons_succ, List.getElem?_cons_zero]; rfl) (by kernel_rfl) (by kernel_rfl) (by kernel_rfl) (by exact fun _ _ _ h => h) (by first | (refine Or.inl ⟨by rfl, ?_⟩; intro W hW; go_simp; try with_reducible rfl) | exact Or.inr ⟨by rfl, rfl⟩) ?_; try simp only [Act.put, List.setIfInBounds_toArray, List.set_cons_zero, List.set_cons_succ])
      (refine takeE (Keep.tr (· = w.heap.size)) 9 (by simp only [List.getElem?_toArray, List.getElem?_cons_succ, List.getElem?_cons_zero]; rfl) (by kernel_rfl) (by kernel_rfl) (by kernel_rfl) (by exact fun _ _ _ h => h) (by first | (refine Or.inl ⟨by rfl, ?_⟩; intro W hW; go_simp; try with_reducible rfl) | exact Or.inr ⟨by rfl, rfl⟩) ?_; try simp only [Act.put, List.setIfInBounds_toArray, List.set_cons_zero, List.set_cons_succ])
      (refine takeE (Keep.tr (· = w.heap.size)) 10 (by simp only [List.getElem?_toArray, List.getElem?_cons_succ, List.getElem?_cons_zero]; rfl) (by kernel_rfl) (by kernel_rfl) (by kernel_rfl) (by exact fun _ _ _ h => h) (by first | (refine Or.inl ⟨by rfl, ?_⟩; intro W hW; go_simp; try with_reducible rfl) | exact Or.inr ⟨by rfl, rfl⟩) ?_; try simp only [Act.put, List.setIfInBounds_toArray, List.set_cons_zero, List.set_cons_succ])
      refine wpAnyE_one (i := 11) (by kernel_rfl) (by simp only [List.getElem?_toArray, List.getElem?_cons_succ, List.getElem?_cons_zero]; rfl) (fun K hK => ?_)
      go_simp
      have hba := (Below.refl w6.heap.size w6).alloc (Nat.le_refl _) (.cells (List.toArray [.int .i64 0, .int .i64 0, .int .i64 0, .int .i64 0, .int .i64 0, .int .i64 0, .int .i64 0, .int .i64 0, .slice none 0 0]) 65)
      have hz6 := Bk.new w6 65 [.int .i64 0, .int .i64 0, .int .i64 0, .int .i64 0, .int .i64 0, .int .i64 0, .int .i64 0, .int .i64 0, .slice none 0 0]
      refine hK.out _ _ (Keep.below hba (fun k hk => by rw [hk]; exact Nat.lt_of_lt_of_le HXC.out.lt hs6.size)) ?_
      clear hK K
      try simp only [Act.put, List.setIfInBounds_toArray, List.set_cons_zero, List.set_cons_succ]
      (refine takeE (Keep.tr (· = w.heap.size)) 12 (by simp only [List.getElem?_toArray, List.getElem?_cons_succ, List.getElem?_cons_zero]; rfl) (by kernel_rfl) (by kernel_rfl) (by kernel_rfl) (by exact fun _ _ _ h => h) (by first | (refine Or.inl ⟨by rfl, ?_⟩; intro W hW; go_simp; try with_reducible rfl) | exact Or.inr ⟨by rfl, rfl⟩) ?_; try simp only [Act.put, List.setIfInBounds_toArray, List.set_cons_zero, List.set_cons_succ])
      refine wpAnyE_one (i := 13) (by kernel_rfl) (by simp only [List.getElem?_toArray, List.getElem?_cons_succ, List.getElem?_cons_zero]; rfl) (fun K hK => ?_)
      refine opwp_put_pk rowP rfl (.tmp 6) (.tmp 19) rfl _ rfl hz6 (by rfl) q' rfl ?_
      intro w7 hz7 hw7
      have hin := into_after hf6 hs6 hg6 hr6 hw7 hz7
      refine hK.out _ _ (Keep.setW hw7 (fun k hk => by rw [hk]; exact ⟨Nat.lt_of_lt_of_le HXC.out.lt (Nat.le_trans hs6.size hba.size), fun e => by have := HXC.out.lt; have := hs6.size; omega⟩)) ?_
      clear hK K
      try simp only [Act.put, List.setIfInBounds_toArray, List.set_cons_zero, List.set_cons_succ]
      refine wpAnyE_done (by kernel_rfl) ?_ _
      try clear hba
      try clear hz
      try clear hgF
      try clear hqc hfc hs6 hg6 hf6 hr6 hz6 hz7 hw7
      clear k2 k4 hsz1
      obtain ⟨F9, FF9, hf9, hs9, hg9, hr9, hz9, hle9, hn9⟩ := hin
      have HE : Hid (FDid F X w b (m.into q.pk) pp w7) := Lib.hid ⟨F9, FF9, hf9.less fun k hk => .inl (.inl hk), (St.ext HBD.out).trans hs9 (Gr.refl _ _), (Gr.refl F _).trans hg9 HBD.out.size⟩
      clear hf9 hs9 hg9 hr9 hz9 hle9 hn9
      go_wp2
      go_ret
      exact ⟨rfl, HE.out⟩
    ·
      go_simp
      have hba := (Below.refl wd.heap.size wd).alloc (Nat.le_refl _) (.cells (List.toArray [.int .i64 0, .int .i64 0, .int .i64 0, .int .i64 0, .int .i64 0, .int .i64 0, .int .i64 0, .int .i64 0, .slice none 0 0]) 65)
      have hz := Bk.new wd 65 [.int .i64 0, .int .i64 0, .int .i64 0, .int .i64 0, .int .i64 0, .int .i64 0, .int .i64 0, .int .i64 0, .slice none 0 0]
      replace hsz1 := hba.size
      replace hfc := hfc.box (g := wd.heap.size) hba (Nat.le_refl _) (by simp)
      replace hqc := hqc.below hba
      refine hK.out _ _ (Keep.below hba (fun k hk => by rw [hk]; exact HXC.out.lt)) ?_
      clear hK K
      try simp only [Act.put, List.setIfInBounds_toArray, List.set_cons_zero, List.set_cons_succ]
      refine wpAnyE_one (i := 7) (by kernel_rfl) (by simp only [List.getElem?_toArray, List.getElem?_cons_succ, List.getElem?_cons_zero]; rfl) (fun K hK => ?_)
      go_simp
      refine (hfc.put HM.out (by omega) hqc).mono ?_
      rintro e w6 ⟨q', F6, FF6, rfl, hk6, hf6, hs6, hg6, hr6⟩
      have hz6 := hz.st hs6 hgF
      refine hK.out _ _ (hs6.kp fun k hk => by rw [hk]; exact ⟨Nat.lt_of_lt_of_le HXC.out.lt hsz1, HnF.out⟩) ?_
      clear hK K
      try simp only [Act.put, List.setIfInBounds_toArray, List.set_cons_zero, List.set_cons_succ]
      (refine takeE (Keep.tr (· = w.heap.size)) 8 (by simp only [List.getElem?_toArray, List.getElem?_cons_succ, List.getElem?_cons_zero]; rfl) (by kernel_rfl) (by kernel_rfl) (by kernel_rfl) (by exact fun _ _ _ h => h) (by first | (refine Or.inl ⟨by rfl, ?_⟩; intro W hW; go_simp; try with_reducible rfl) | exact Or.inr ⟨by rfl, rfl⟩) ?_; try simp only [Act.put, List.setIfInBounds_toArray, List.set_cons_zero, List.set_cons_succ])
      (refine takeE (Keep.tr (· = w.heap.size)) 9 (by simp only [List.getElem?_toArray, List.getElem?_cons_succ, List.getElem?_cons_zero]; rfl) (by kernel_rfl) (by kernel_rfl) (by kernel_rfl) (by exact fun _ _ _ h => h) (by first | (refine Or.inl ⟨by rfl, ?_⟩; intro W hW; go_simp; try with_reducible rfl) | exact Or.inr ⟨by rfl, rfl⟩) ?_; try simp only [Act.put, List.setIfInBounds_toArray, List.set_cons_zero, List.set_cons_succ])
      (refine takeE (Keep.tr (· = w.heap.size)) 10 (by simp only [List.getElem?_toArray, List.getElem?_cons_succ, List.getElem?_cons_zero]; rfl) (by kernel_rfl) (by kernel_rfl) (by kernel_rfl) (by exact fun _ _ _ h => h) (by first | (refine Or.inl ⟨by rfl, ?_⟩; intro W hW; go_simp; try with_reducible rfl) | exact Or.inr ⟨by rfl, rfl⟩) ?_; try simp only [Act.put, List.setIfInBounds_toArray, List.set_cons_zero, List.set_cons_succ])
      (refine takeE (Keep.tr (· = w.heap.size)) 12 (by simp only [List.getElem?_toArray, List.getElem?_cons_succ, List.getElem?_cons_zero]; rfl) (by kernel_rfl) (by kernel_rfl) (by kernel_rfl) (by exact fun _ _ _ h => h) (by first | (refine Or.inl ⟨by rfl, ?_⟩; intro W hW; go_simp; try with_reducible rfl) | exact Or.inr ⟨by rfl, rfl⟩) ?_; try simp only [Act.put, List.setIfInBounds_toArray, List.set_cons_zero, List.set_cons_succ])
      refine wpAnyE_one (i := 13) (by kernel_rfl) (by simp only [List.getElem?_toArray, List.getElem?_cons_succ, List.getElem?_cons_zero]; rfl) (fun K hK => ?_)
      refine opwp_put_pk rowP rfl (.tmp 6) (.tmp 19) rfl _ rfl hz6 (by rfl) q' rfl ?_
      intro w7 hz7 hw7
      have hin := into_before HFD.out hf6 hs6 hg6 hr6 hw7 hz7
      refine hK.out _ _ (Keep.setW hw7 (fun k hk => by rw [hk]; exact ⟨Nat.lt_of_lt_of_le HXC.out.lt (Nat.le_trans hba.size hs6.size), fun e => by have := HXC.out.lt; omega⟩)) ?_
      clear hK K
      try simp only [Act.put, List.setIfInBounds_toArray, List.set_cons_zero, List.set_cons_succ]
      refine wpAnyE_done (by kernel_rfl) ?_ _
      try clear hba
      try clear hz
      try clear hgF
      try clear hqc hfc hs6 hg6 hf6 hr6 hz6 hz7 hw7
      clear k2 k4 hsz1
      obtain ⟨F9, FF9, hf9, hs9, hg9, hr9, hz9, hle9, hn9⟩ := hin
      have HE : Hid (FDid F X w b (m.into q.pk) pp w7) := Lib.hid ⟨F9, FF9, hf9.less fun k hk => .inl (.inl hk), (St.ext HBD.out).trans hs9 (Gr.refl _ _), (Gr.refl F _).trans hg9 HBD.out.size⟩
      clear hf9 hs9 hg9 hr9 hz9 hle9 hn9
      go_wp2
      go_ret
      exact ⟨rfl, HE.out⟩
  ·
    go_simp
    have hba := (Below.refl wd.heap.size wd).alloc (Nat.le_refl _) (.cells (List.toArray [.int .i64 0, .int .i64 0, .int .i64 0, .int .i64 0, .int .i64 0, .int .i64 0, .int .i64 0, .int .i64 0, .slice none 0 0]) 65)
    have hz := Bk.new wd 65 [.int .i64 0, .int .i64 0, .int .i64 0, .int .i64 0, .int .i64 0, .int .i64 0, .int .i64 0, .int .i64 0, .slice none 0 0]
    replace hsz1 := hba.size
    replace hfc := hfc.box (g := wd.heap.size) hba (Nat.le_refl _) (by simp)
    replace hqc := hqc.below hba
    refine hK.out _ _ (Keep.below hba (fun k hk => by rw [hk]; exact HXC.out.lt)) ?_
    clear hK K
    try simp only [Act.put, List.setIfInBounds_toArray, List.set_cons_zero, List.set_cons_succ]
    refine wpAnyE_one (i := 5) (by kernel_rfl) (by simp only [List.getElem?_toArray, List.getElem?_cons_succ, List.getElem?_cons_zero]; rfl) (fun K hK => ?_)
    go_simp
    refine (f_at hfc.fp _ _).mono ?_
    rintro e wq ⟨rfl, rfl⟩
    refine hK.out _ _ ((Keep.tr _).refl _) ?_
    clear hK K
    try simp only [Act.put, List.setIfInBounds_toArray, List.set_cons_zero, List.set_cons_succ]
    refine wpAnyE_one (i := 7) (by kernel_rfl) (by simp only [List.getElem?_toArray, List.getElem?_cons_succ, List.getElem?_cons_zero]; rfl) (fun K hK => ?_)
    go_simp
    refine (hfc.put HM.out (by omega) hqc).mono ?_
    rintro e w6 ⟨q', F6, FF6, rfl, hk6, hf6, hs6, hg6, hr6⟩
    have hz6 := hz.st hs6 hgF
    refine hK.out _ _ (hs6.kp fun k hk => by rw [hk]; exact ⟨Nat.lt_of_lt_of_le HXC.out.lt hsz1, HnF.out⟩) ?_
    clear hK K
    try simp only [Act.put, List.setIfInBounds_toArray, List.set_cons_zero, List.set_cons_succ]
    (refine takeE (Keep.tr (· = w.heap.size)) 8 (by simp only [List.getElem?_toArray, List.getElem?_cons_succ, List.getElem?_cons_zero]; rfl) (by kernel_rfl) (by kernel_rfl) (by kernel_rfl) (by exact fun _ _ _ h => h) (by first | (refine Or.inl ⟨by rfl, ?_⟩; intro W hW; go_simp; try with_reducible rfl) | exact Or.inr ⟨by rfl, rfl⟩) ?_; try simp only [Act.put, List.setIfInBounds_toArray, List.set_cons_zero, List.set_cons_succ])
    (refine takeE (Keep.tr (· = w.heap.size)) 9 (by simp only [List.getElem?_toArray, List.getElem?_cons_succ, List.getElem?_cons_zero]; rfl) (by kernel_rfl) (by kernel_rfl) (by kernel_rfl) (by exact fun _ _ _ h => h) (by first | (refine Or.inl ⟨by rfl, ?_⟩; intro W hW; go_simp; try with_reducible rfl) | exact Or.inr ⟨by rfl, rfl⟩) ?_; try simp only [Act.put, List.setIfInBounds_toArray, List.set_cons_zero, List.set_cons_succ])
    (refine takeE (Keep.tr (· = w.heap.size)) 10 (by simp only [List.getElem?_toArray, List.getElem?_cons_succ, List.getElem?_cons_zero]; rfl) (by kernel_rfl) (by kernel_rfl) (by kernel_rfl) (by exact fun _ _ _ h => h) (by first | (refine Or.inl ⟨by rfl, ?_⟩; intro W hW; go_simp; try with_reducible rfl) | exact Or.inr ⟨by rfl, rfl⟩) ?_; try simp only [Act.put, List.setIfInBounds_toArray, List.set_cons_zero, List.set_cons_succ])
    (refine takeE (Keep.tr (· = w.heap.size)) 12 (by simp only [List.getElem?_toArray, List.getElem?_cons_succ, List.getElem?_cons_zero]; rfl) (by kernel_rfl) (by kernel_rfl) (by kernel_rfl) (by exact fun _ _ _ h => h) (by first | (refine Or.inl ⟨by rfl, ?_⟩; intro W hW; go_simp; try with_reducible rfl) | exact Or.inr ⟨by rfl, rfl⟩) ?_; try simp only [Act.put, List.setIfInBounds_toArray, List.set_cons_zero, List.set_cons_succ])
    refine wpAnyE_one (i := 13) (by kernel_rfl) (by simp only [List.getElem?_toArray, List.getElem?_cons_succ, List.getElem?_cons_zero]; rfl) (fun K hK => ?_)
    refine opwp_put_pk rowP rfl (.tmp 6) (.tmp 19) rfl _ rfl hz6 (by rfl) q' rfl ?_
    intro w7 hz7 hw7
    have hin := into_before HFD.out hf6 hs6 hg6 hr6 hw7 hz7
    refine hK.out _ _ (Keep.setW hw7 (fun k hk => by rw [hk]; exact ⟨Nat.lt_of_lt_of_le HXC.out.lt (Nat.le_trans hba.size hs6.size), fun e => by have := HXC.out.lt; omega⟩)) ?_
    clear hK K
    try simp only [Act.put, List.setIfInBounds_toArray, List.set_cons_zero, List.set_cons_succ]
    refine wpAnyE_done (by kernel_rfl) ?_ _
    try clear hba
    try clear hz
    try clear hgF
    try clear hqc hfc hs6 hg6 hf6 hr6 hz6 hz7 hw7
    clear k2 k4 hsz1
    obtain ⟨F9, FF9, hf9, hs9, hg9, hr9, hz9, hle9, hn9⟩ := hin
    have HE : Hid (FDid F X w b (m.into q.pk) pp w7) := Lib.hid ⟨F9, FF9, hf9.less fun k hk => .inl (.inl hk), (St.ext HBD.out).trans hs9 (Gr.refl _ _), (Gr.refl F _).trans hg9 HBD.out.size⟩
    clear hf9 hs9 hg9 hr9 hz9 hle9 hn9
    go_wp2
    go_ret
    exact ⟨rfl, HE.out⟩
set_option maxHeartbeats 16000000 in
theorem f_put3 (h : FbC F X w b m pp FF) (hM : FMb m L H B) (hB : B + 2 ≤ 1000000) {q : Pv} (hq : PvR F w q) (hv : m.ivd q.pk = 3) :
    Calls Try.prog 31 #[.pointer (some ⟨b, 0, none⟩), .agg #[.int .i64 q.h.kd, .int .i64 q.h.fl, .int .i64 q.h.pa, .int .i64 q.h.sr, .int .i64 q.h.ds, .int .i64 q.h.cn, .int .i64 q.h.sq, .int .i64 q.h.pu, .slice q.A q.n q.c]] w fun e w' => e = .returned (.int .i64 (m.pv3 q.pk)) ∧ FDid F X w b ((m.into q.pk).into (m.iout q.pk)) pp w' := by
  have hb0 := (Below.refl w.heap.size w).alloc (Nat.le_refl _) (.cells (List.toArray [.int .i64 q.h.kd, .int .i64 q.h.fl, .int .i64 q.h.pa, .int .i64 q.h.sr, .int .i64 q.h.ds, .int .i64 q.h.cn, .int .i64 q.h.sq, .int .i64 q.h.pu, .slice q.A q.n q.c]) 65)
  have HX0 := Lib.hid (Bk.new w 65 [.int .i64 q.h.kd, .int .i64 q.h.fl, .int .i64 q.h.pa, .int .i64 q.h.sr, .int .i64 q.h.ds, .int .i64 q.h.cn, .int .i64 q.h.sq, .int .i64 q.h.pu, .slice q.A q.n q.c])
  have HF0 := Lib.hid (h.box (g := w.heap.size) hb0 (Nat.le_refl _) (by simp))
  have HQ0 := Lib.hid (hq.below hb0)
  have HB0 := Lib.hid hb0
  have HFB := Lib.hid h.bd
  have HM := Lib.hid hM
  clear h hq hM hb0
  go_enter Try.func31, Try.ntmps31
  go_wp2
  have HM2 := Lib.hid (HM.out.into q.pk)
  have HV := Lib.hid hv
  clear hv
  refine wp_region_E (Keep (· = w.heap.size)) (by kernel_rfl) (fun wd hbd hsz => ?_)
  have hfc := HF0.out.below hbd
  have hqc := HQ0.out.below hbd
  have HXC := Lib.hid (HX0.out.below hbd)
  have HBD := Lib.hid (below_on HB0.out hbd)
  have HFD := Lib.hid hfc.bd
  have HnF : Hid (¬ F w.heap.size) := Lib.hid fun hf => Nat.lt_irrefl _ (HFB.out _ hf)
  have hgF : ¬ F wd.heap.size := fun hf => Nat.lt_irrefl _ (HFD.out _ hf)
  clear hsz HF0 HQ0 HX0 hbd
  have k2 : ∀ W, Keep (· = w.heap.size) wd W → W.cell? ⟨w.heap.size, 2, none⟩ = some (.int .i64 q.h.pa) := fun W hW => (HXC.out.kp hW rfl).cell 2 rfl
  have k4 : ∀ W, Keep (· = w.heap.size) wd W → W.cell? ⟨w.heap.size, 4, none⟩ = some (.int .i64 q.h.ds) := fun W hW => (HXC.out.kp hW rfl).cell 4 rfl
  have hsz1 : wd.heap.size ≤ wd.heap.size := Nat.le_refl _
  (refine takeE (Keep.tr (· = w.heap.size)) 0 (by simp only [List.getElem?_toArray, List.getElem?_cons_succ, List.getElem?_cons_zero]; rfl) (by kernel_rfl) (by kernel_rfl) (by kernel_rfl) (by exact fun _ _ _ h => h) (by first | (refine Or.inl ⟨by rfl, ?_⟩; intro W hW; go_simp; try with_reducible rfl) | exact Or.inr ⟨by rfl, rfl⟩) ?_; try simp only [Act.put, List.setIfInBounds_toArray, List.set_cons_zero, List.set_cons_succ])
  (refine takeE (Keep.tr (· = w.heap.size)) 1 (by simp only [List.getElem?_toArray, List.getElem?_cons_succ, List.getElem?_cons_zero]; rfl) (by kernel_rfl) (by kernel_rfl) (by kernel_rfl) (by exact fun _ _ _ h => h) (by first | (refine Or.inl ⟨by rfl, ?_⟩; intro W hW; go_simp; try with_reducible rfl) | exact Or.inr ⟨by rfl, rfl⟩) ?_; try simp only [Act.put, List.setIfInBounds_toArray, List.set_cons_zero, List.set_cons_succ])
  (refine takeE (Keep.tr (· = w.heap.size)) 3 (by simp only [List.getElem?_toArray, List.getElem?_cons_succ, List.getElem?_cons_zero]; rfl) (by kernel_rfl) (by kernel_rfl) (by kernel_rfl) (by exact fun _ _ _ h => h) (by first | (refine Or.inl ⟨by rfl, ?_⟩; intro W hW; go_simp; try with_reducible rfl) | exact Or.inr ⟨by rfl, rfl⟩) ?_; try simp only [Act.put, List.setIfInBounds_toArray, List.set_cons_zero, List.set_cons_succ])
  (refine takeE (Keep.tr (· = w.heap.size)) 6 (by simp only [List.getElem?_toArray, List.getElem?_cons_succ, List.getElem?_cons_zero]; rfl) (by kernel_rfl) (by kernel_rfl) (by kernel_rfl) (by exact fun _ _ _ h => h) (by first | (refine Or.inl ⟨by rfl, ?_⟩; intro W hW; exact exec_load_bk rowP (.tmp 3) rfl w.heap.size 0 rfl (HXC.out.kp hW rfl) q.cl rfl rfl) | exact Or.inr ⟨by rfl, rfl⟩) ?_; try simp only [Act.put, List.setIfInBounds_toArray, List.set_cons_zero, List.set_cons_succ])
  (refine takeE (Keep.tr (· = w.heap.size)) 2 (by simp only [List.getElem?_toArray, List.getElem?_cons_succ, List.getElem?_cons_zero]; rfl) (by kernel_rfl) (by kernel_rfl) (by kernel_rfl) (by exact fun _ _ _ h => h) (by first | (refine Or.inl ⟨by rfl, ?_⟩; intro W hW; go_simp; try with_reducible rfl) | exact Or.inr ⟨by rfl, rfl⟩) ?_; try simp only [Act.put, List.setIfInBounds_toArray, List.set_cons_zero, List.set_cons_succ])
  (refine takeE (Keep.tr (· = w.heap.size)) 4 (by simp only [List.getElem?_toArray, List.getElem?_cons_succ, List.getElem?_cons_zero]; rfl) (by kernel_rfl) (by kernel_rfl) (by kernel_rfl) (by exact fun _ _ _ h => h) (by first | (refine Or.inl ⟨by rfl, ?_⟩; intro W hW; go_simp; try with_reducible rfl) | exact Or.inr ⟨by rfl, rfl⟩) ?_; try simp only [Act.put, List.setIfInBounds_toArray, List.set_cons_zero, List.set_cons_succ])
  refine wpAnyE_two (i := 5) (j := 11) (by kernel_rfl) (by simp only [List.getElem?_toArray, List.getElem?_cons_succ, List.getElem?_cons_zero]; rfl) (by simp only [List.getElem?_toArray, List.getElem?_cons_succ, List.getElem?_cons_zero]; rfl) (fun K hK => ?_) (fun K hK => ?_)
  ·
    go_simp
    refine (f_at hfc.fp _ _).mono ?_
    rintro e wq ⟨rfl, rfl⟩
    refine hK.out _ _ ((Keep.tr _).refl _) ?_
    clear hK K
    try simp only [Act.put, List.setIfInBounds_toArray, List.set_cons_zero, List.set_cons_succ]
    refine wpAnyE_two (i := 7) (j := 11) (by kernel_rfl) (by simp only [List.getElem?_toArray, List.getElem?_cons_succ, List.getElem?_cons_zero]; rfl) (by simp only [List.getElem?_toArray, List.getElem?_cons_succ, List.getElem?_cons_zero]; rfl) (fun K hK => ?_) (fun K hK => ?_)
    ·
      go_simp
      refine (hfc.put HM.out (by omega) hqc).mono ?_
      rintro e w6 ⟨q', F6, FF6, rfl, hk6, hf6, hs6, hg6, hr6⟩
      rw [HV.out]
      refine hK.out _ _ (hs6.kp fun k hk => by rw [hk]; exact ⟨Nat.lt_of_lt_of_le HXC.out.lt hsz1, HnF.out⟩) ?_
      clear hK K
      try simp only [Act.put, List.setIfInBounds_toArray, List.set_cons_zero, List.set_cons_succ]
      (refine takeE (Keep.tr (· = w.heap.size)) 8 (by simp only [List.getElem?_toArray, List.getElem?_cons_succ, List.getElem?_cons_zero]; rfl) (by kernel_rfl) (by kernel_rfl) (by kernel_rfl) (by exact fun _ _ _ h => h) (by first | (refine Or.inl ⟨by rfl, ?_⟩; intro W hW; go_simp; try with_reducible rfl) | exact Or.inr ⟨by rfl, rfl⟩) ?_; try simp only [Act.put, List.setIfInBounds_toArray, List.set_cons_zero, List.set_cons_succ])
      (refine takeE (Keep.tr (· = w.heap.size)) 9 (by simp only [List.getElem?_toArray, List.getElem?_cons_succ, List.getElem?_cons_zero]; rfl) (by kernel_rfl) (by kernel_rfl) (by kernel_rfl) (by exact fun _ _ _ h => h) (by first | (refine Or.inl ⟨by rfl, ?_⟩; intro W hW; go_simp; try with_reducible rfl) | exact Or.inr ⟨by rfl, rfl⟩) ?_; try simp only [Act.put, List.setIfInBounds_toArray, List.set_cons_zero, List.set_cons_succ])
      (refine takeE (Keep.tr (· = w.heap.size)) 10 (by simp only [List.getElem?_toArray, List.getElem?_cons_succ, List.getElem?_cons_zero]; rfl) (by kernel_rfl) (by kernel_rfl) (by kernel_rfl) (by exact fun _ _ _ h => h) (by first | (refine Or.inl ⟨by rfl, ?_⟩; intro W hW; go_simp; try with_reducible rfl) | exact Or.inr ⟨by rfl, rfl⟩) ?_; try simp only [Act.put, List.setIfInBounds_toArray, List.set_cons_zero, List.set_cons_succ])
      refine wpAnyE_one (i := 11) (by kernel_rfl) (by simp only [List.getElem?_toArray, List.getElem?_cons_succ, List.getElem?_cons_zero]; rfl) (fun K hK => ?_)
      go_simp
      have hba := (Below.refl w6.heap.size w6).alloc (Nat.le_refl _) (.cells (List.toArray [.int .i64 0, .int .i64 0, .int .i64 0, .int .i64 0, .int .i64 0, .int .i64 0, .int .i64 0, .int .i64 0, .slice none 0 0]) 65)
      have hz6 := Bk.new w6 65 [.int .i64 0, .int .i64 0, .int .i64 0, .int .i64 0, .int .i64 0, .int .i64 0, .int .i64 0, .int .i64 0, .slice none 0 0]
      refine hK.out _ _ (Keep.below hba (fun k hk => by rw [hk]; exact Nat.lt_of_lt_of_le HXC.out.lt hs6.size)) ?_
      clear hK K
      try simp only [Act.put, List.setIfInBounds_toArray, List.set_cons_zero, List.set_cons_succ]
      (refine takeE (Keep.tr (· = w.heap.size)) 12 (by simp only [List.getElem?_toArray, List.getElem?_cons_succ, List.getElem?_cons_zero]; rfl) (by kernel_rfl) (by kernel_rfl) (by kernel_rfl) (by exact fun _ _ _ h => h) (by first | (refine Or.inl ⟨by rfl, ?_⟩; intro W hW; go_simp; try with_reducible rfl) | exact Or.inr ⟨by rfl, rfl⟩) ?_; try simp only [Act.put, List.setIfInBounds_toArray, List.set_cons_zero, List.set_cons_succ])
      refine wpAnyE_one (i := 13) (by kernel_rfl) (by simp only [List.getElem?_toArray, List.getElem?_cons_succ, List.getElem?_cons_zero]; rfl) (fun K hK => ?_)
      refine opwp_put_pk rowP rfl (.tmp 6) (.tmp 19) rfl _ rfl hz6 (by rfl) q' rfl ?_
      intro w7 hz7 hw7
      have hin := into_after hf6 hs6 hg6 hr6 hw7 hz7
      refine hK.out _ _ (Keep.setW hw7 (fun k hk => by rw [hk]; exact ⟨Nat.lt_of_lt_of_le HXC.out.lt (Nat.le_trans hs6.size hba.size), fun e => by have := HXC.out.lt; have := hs6.size; omega⟩)) ?_
      clear hK K
      try simp only [Act.put, List.setIfInBounds_toArray, List.set_cons_zero, List.set_cons_succ]
      refine wpAnyE_done (by kernel_rfl) ?_ _
      try clear hba
      try clear hz
      try clear hgF
      try clear hqc hfc hs6 hg6 hf6 hr6 hz6 hz7 hw7
      clear k2 k4 hsz1
      obtain ⟨F9, FF9, hf9, hs9, hg9, hr9, hz9, hle9, hn9⟩ := hin
      have HF9 := Lib.hid hf9
      have HQ9 : Hid (PvR F9 w7 q') := Lib.hid (hr9.mono fun k hk => .inl hk)
      have HZ9 := Lib.hid hz9
      have HKh : Hid (q'.pk = m.iout q.pk) := Lib.hid hk6
      have HSh := Lib.hid ((St.ext HBD.out).trans hs9 (Gr.refl _ _))
      have HGh : Hid (Gr F F9 w.heap.size) := Lib.hid ((Gr.refl F _).trans hg9 HBD.out.size)
      have HN9 : Hid (¬ F9 w6.heap.size) := Lib.hid hn9
      clear hf9 hs9 hr9 hz9 hk6 hle9 hg9 hn9
      try clear hsz1 
      generalize q' = qh at *
      clear HXC HnF HFD
      try generalize w6.heap.size = g9 at *
      go_wp2
      refine wp_region_E (Keep (· = g9)) (by kernel_rfl) (fun we hbd hsz => ?_)
      have hfc := HF9.out.below hbd
      have hqc := HQ9.out.below hbd
      have HXC := Lib.hid (HZ9.out.below hbd)
      have HS9 := Lib.hid (HSh.out.trans (St.ext hbd) (Gr.refl _ _))
      have HG9 := Lib.hid HGh.out
      have HFD := Lib.hid hfc.bd
      have HnF : Hid (¬ F9 g9) := Lib.hid HN9.out
      have hgF : ¬ F9 we.heap.size := fun hf => Nat.lt_irrefl _ (HFD.out _ hf)
      clear hsz HF9 HQ9 HZ9 HSh HGh HN9 hbd
      have k2 : ∀ W, Keep (· = g9) we W → W.cell? ⟨g9, 2, none⟩ = some (.int .i64 qh.h.pa) := fun W hW => (HXC.out.kp hW rfl).cell 2 rfl
      have k4 : ∀ W, Keep (· = g9) we W → W.cell? ⟨g9, 4, none⟩ = some (.int .i64 qh.h.ds) := fun W hW => (HXC.out.kp hW rfl).cell 4 rfl
      have hsz1 : we.heap.size ≤ we.heap.size := Nat.le_refl _
      (refine takeE (Keep.tr (· = g9)) 0 (by simp only [List.getElem?_toArray, List.getElem?_cons_succ, List.getElem?_cons_zero]; rfl) (by kernel_rfl) (by kernel_rfl) (by kernel_rfl) (by exact fun _ _ _ h => h) (by first | (refine Or.inl ⟨by rfl, ?_⟩; intro W hW; go_simp; try with_reducible rfl) | exact Or.inr ⟨by rfl, rfl⟩) ?_; try simp only [Act.put, List.setIfInBounds_toArray, List.set_cons_zero, List.set_cons_succ])
      (refine takeE (Keep.tr (· = g9)) 1 (by simp only [List.getElem?_toArray, List.getElem?_cons_succ, List.getElem?_cons_zero]; rfl) (by kernel_rfl) (by kernel_rfl) (by kernel_rfl) (by exact fun _ _ _ h => h) (by first | (refine Or.inl ⟨by rfl, ?_⟩; intro W hW; go_simp; try with_reducible rfl) | exact Or.inr ⟨by rfl, rfl⟩) ?_; try simp only [Act.put, List.setIfInBounds_toArray, List.set_cons_zero, List.set_cons_succ])
      (refine takeE (Keep.tr (· = g9)) 3 (by simp only [List.getElem?_toArray, List.getElem?_cons_succ, List.getElem?_cons_zero]; rfl) (by kernel_rfl) (by kernel_rfl) (by kernel_rfl) (by exact fun _ _ _ h => h) (by first | (refine Or.inl ⟨by rfl, ?_⟩; intro W hW; go_simp; try with_reducible rfl) | exact Or.inr ⟨by rfl, rfl⟩) ?_; try simp only [Act.put, List.setIfInBounds_toArray, List.set_cons_zero, List.set_cons_succ])
      (refine takeE (Keep.tr (· = g9)) 6 (by simp only [List.getElem?_toArray, List.getElem?_cons_succ, List.getElem?_cons_zero]; rfl) (by kernel_rfl) (by kernel_rfl) (by kernel_rfl) (by exact fun _ _ _ h => h) (by first | (refine Or.inl ⟨by rfl, ?_⟩; intro W hW; exact exec_load_bk rowP (.tmp 6) rfl g9 0 rfl (HXC.out.kp hW rfl) qh.cl rfl rfl) | exact Or.inr ⟨by rfl, rfl⟩) ?_; try simp only [Act.put, List.setIfInBounds_toArray, List.set_cons_zero, List.set_cons_succ])
      (refine takeE (Keep.tr (· = g9)) 2 (by simp only [List.getElem?_toArray, List.getElem?_cons_succ, List.getElem?_cons_zero]; rfl) (by kernel_rfl) (by kernel_rfl) (by kernel_rfl) (by exact fun _ _ _ h => h) (by first | (refine Or.inl ⟨by rfl, ?_⟩; intro W hW; go_simp; try with_reducible rfl) | exact Or.inr ⟨by rfl, rfl⟩) ?_; try simp only [Act.put, List.setIfInBounds_toArray, List.set_cons_zero, List.set_cons_succ])
      (refine takeE (Keep.tr (· = g9)) 4 (by simp only [List.getElem?_toArray, List.getElem?_cons_succ, List.getElem?_cons_zero]; rfl) (by kernel_rfl) (by kernel_rfl) (by kernel_rfl) (by exact fun _ _ _ h => h) (by first | (refine Or.inl ⟨by rfl, ?_⟩; intro W hW; go_simp; try with_reducible rfl) | exact Or.inr ⟨by rfl, rfl⟩) ?_; try simp only [Act.put, List.setIfInBounds_toArray, List.set_cons_zero, List.set_cons_succ])
      refine wpAnyE_two (i := 5) (j := 11) (by kernel_rfl) (by simp only [List.getElem?_toArray, List.getElem?_cons_succ, List.getElem?_cons_zero]; rfl) (by simp only [List.getElem?_toArray, List.getElem?_cons_succ, List.getElem?_cons_zero]; rfl) (fun K2 hK2 => ?_) (fun K2 hK2 => ?_)
      ·
        go_simp
        refine (f_at hfc.fp _ _).mono ?_
        rintro e wr ⟨rfl, rfl⟩
        refine hK2.out _ _ ((Keep.tr _).refl _) ?_
        clear hK2 K2
        try simp only [Act.put, List.setIfInBounds_toArray, List.set_cons_zero, List.set_cons_succ]
        refine wpAnyE_two (i := 7) (j := 11) (by kernel_rfl) (by simp only [List.getElem?_toArray, List.getElem?_cons_succ, List.getElem?_cons_zero]; rfl) (by simp only [List.getElem?_toArray, List.getElem?_cons_succ, List.getElem?_cons_zero]; rfl) (fun K2 hK2 => ?_) (fun K2 hK2 => ?_)
        ·
          go_simp
          refine (hfc.put HM2.out (by omega) hqc).mono ?_
          rintro e w8 ⟨q9, F8, FF8, rfl, hk8, hf8, hs8, hg8, hr8⟩
          rw [HKh.out] at hk8 hf8 ⊢
          refine hK2.out _ _ (hs8.kp fun k hk => by rw [hk]; exact ⟨Nat.lt_of_lt_of_le HXC.out.lt hsz1, HnF.out⟩) ?_
          clear hK2 K2
          try simp only [Act.put, List.setIfInBounds_toArray, List.set_cons_zero, List.set_cons_succ]
          (refine takeE (Keep.tr (· = g9)) 8 (by simp only [List.getElem?_toArray, List.getElem?_cons_succ, List.getElem?_cons_zero]; rfl) (by kernel_rfl) (by kernel_rfl) (by kernel_rfl) (by exact fun _ _ _ h => h) (by first | (refine Or.inl ⟨by rfl, ?_⟩; intro W hW; go_simp; try with_reducible rfl) | exact Or.inr ⟨by rfl, rfl⟩) ?_; try simp only [Act.put, List.setIfInBounds_toArray, List.set_cons_zero, List.set_cons_succ])
          (refine takeE (Keep.tr (· = g9)) 9 (by simp only [List.getElem?_toArray, List.getElem?_cons_succ, List.getElem?_cons_zero]; rfl) (by kernel_rfl) (by kernel_rfl) (by kernel_rfl) (by exact fun _ _ _ h => h) (by first | (refine Or.inl ⟨by rfl, ?_⟩; intro W hW; go_simp; try with_reducible rfl) | exact Or.inr ⟨by rfl, rfl⟩) ?_; try simp only [Act.put, List.setIfInBounds_toArray, List.set_cons_zero, List.set_cons_succ])
          (refine takeE (Keep.tr (· = g9)) 10 (by simp only [List.getElem?_toArray, List.getElem?_cons_succ, List.getElem?_cons_zero]; rfl) (by kernel_rfl) (by kernel_rfl) (by kernel_rfl) (by exact fun _ _ _ h => h) (by first | (refine Or.inl ⟨by rfl, ?_⟩; intro W hW; go_simp; try with_reducible rfl) | exact Or.inr ⟨by rfl, rfl⟩) ?_; try simp only [Act.put, List.setIfInBounds_toArray, List.set_cons_zero, List.set_cons_succ])
          refine wpAnyE_one (i := 11) (by kernel_rfl) (by simp only [List.getElem?_toArray, List.getElem?_cons_succ, List.getElem?_cons_zero]; rfl) (fun K2 hK2 => ?_)
          go_simp
          have hba := (Below.refl w8.heap.size w8).alloc (Nat.le_refl _) (.cells (List.toArray [.int .i64 0, .int .i64 0, .int .i64 0, .int .i64 0, .int .i64 0, .int .i64 0, .int .i64 0, .int .i64 0, .slice none 0 0]) 65)
          have hz8 := Bk.new w8 65 [.int .i64 0, .int .i64 0, .int .i64 0, .int .i64 0, .int .i64 0, .int .i64 0, .int .i64 0, .int .i64 0, .slice none 0 0]
          refine hK2.out _ _ (Keep.below hba (fun k hk => by rw [hk]; exact Nat.lt_of_lt_of_le HXC.out.lt hs8.size)) ?_
          clear hK2 K2
          try simp only [Act.put, List.setIfInBounds_toArray, List.set_cons_zero, List.set_cons_succ]
          (refine takeE (Keep.tr (· = g9)) 12 (by simp only [List.getElem?_toArray, List.getElem?_cons_succ, List.getElem?_cons_zero]; rfl) (by kernel_rfl) (by kernel_rfl) (by kernel_rfl) (by exact fun _ _ _ h => h) (by first | (refine Or.inl ⟨by rfl, ?_⟩; intro W hW; go_simp; try with_reducible rfl) | exact Or.inr ⟨by rfl, rfl⟩) ?_; try simp only [Act.put, List.setIfInBounds_toArray, List.set_cons_zero, List.set_cons_succ])
          refine wpAnyE_one (i := 13) (by kernel_rfl) (by simp only [List.getElem?_toArray, List.getElem?_cons_succ, List.getElem?_cons_zero]; rfl) (fun K2 hK2 => ?_)
          refine opwp_put_pk rowP rfl (.tmp 8) (.tmp 33) rfl _ rfl hz8 (by rfl) q9 rfl ?_
          intro w9 hzz hww
          have hin := into_after hf8 hs8 hg8 hr8 hww hzz
          refine hK2.out _ _ (Keep.setW hww (fun k hk => by rw [hk]; exact ⟨Nat.lt_of_lt_of_le HXC.out.lt (Nat.le_trans hs8.size hba.size), fun e => by have := HXC.out.lt; have := hs8.size; omega⟩)) ?_
          clear hK2 K2
          try simp only [Act.put, List.setIfInBounds_toArray, List.set_cons_zero, List.set_cons_succ]
          refine wpAnyE_done (by kernel_rfl) ?_ _
          try clear hba
          try clear hz
          try clear hgF
          try clear hqc hfc hs8 hg8 hf8 hr8 hz8 hzz hww
          clear k2 k4 hsz1
          obtain ⟨FA, FFA, hfA, hsA, hgA, hrA, hzA, hleA, hnA⟩ := hin
          have HE : Hid (FDid F X w b ((m.into q.pk).into (m.iout q.pk)) pp w9) := Lib.hid ⟨FA, FFA, hfA.less fun k hk => .inl (.inl (.inl hk)), HS9.out.trans hsA HG9.out, HG9.out.trans hgA HS9.out.size⟩
          clear hfA hsA hgA hrA hzA hleA hnA
          by_cases hv2 : (m.into q.pk).ivd (m.iout q.pk) = 1
          · rw [hv2]
            go_wp2
            go_ret
            exact ⟨by unfold FM.pv3; rw [if_pos hv2]; rfl, HE.out⟩
          · have hv3 : ¬ (((m.into q.pk).ivd (m.iout q.pk) : Nat) : Int) = 1 := by omega
            go_wp2
            go_ret
            exact ⟨by unfold FM.pv3; rw [if_neg hv2]; rfl, HE.out⟩
        ·
          go_simp
          have hba := (Below.refl we.heap.size we).alloc (Nat.le_refl _) (.cells (List.toArray [.int .i64 0, .int .i64 0, .int .i64 0, .int .i64 0, .int .i64 0, .int .i64 0, .int .i64 0, .int .i64 0, .slice none 0 0]) 65)
          have hz := Bk.new we 65 [.int .i64 0, .int .i64 0, .int .i64 0, .int .i64 0, .int .i64 0, .int .i64 0, .int .i64 0, .int .i64 0, .slice none 0 0]
          replace hsz1 := hba.size
          replace hfc := hfc.box (g := we.heap.size) hba (Nat.le_refl _) (by simp)
          replace hqc := hqc.below hba
          refine hK2.out _ _ (Keep.below hba (fun k hk => by rw [hk]; exact HXC.out.lt)) ?_
          clear hK2 K2
          try simp only [Act.put, List.setIfInBounds_toArray, List.set_cons_zero, List.set_cons_succ]
          refine wpAnyE_one (i := 7) (by kernel_rfl) (by simp only [List.getElem?_toArray, List.getElem?_cons_succ, List.getElem?_cons_zero]; rfl) (fun K2 hK2 => ?_)
          go_simp
          refine (hfc.put HM2.out (by omega) hqc).mono ?_
          rintro e w8 ⟨q9, F8, FF8, rfl, hk8, hf8, hs8, hg8, hr8⟩
          rw [HKh.out] at hk8 hf8 ⊢
          have hz8 := hz.st hs8 hgF
          refine hK2.out _ _ (hs8.kp fun k hk => by rw [hk]; exact ⟨Nat.lt_of_lt_of_le HXC.out.lt hsz1, HnF.out⟩) ?_
          clear hK2 K2
          try simp only [Act.put, List.setIfInBounds_toArray, List.set_cons_zero, List.set_cons_succ]
          (refine takeE (Keep.tr (· = g9)) 8 (by simp only [List.getElem?_toArray, List.getElem?_cons_succ, List.getElem?_cons_zero]; rfl) (by kernel_rfl) (by kernel_rfl) (by kernel_rfl) (by exact fun _ _ _ h => h) (by first | (refine Or.inl ⟨by rfl, ?_⟩; intro W hW; go_simp; try with_reducible rfl) | exact Or.inr ⟨by rfl, rfl⟩) ?_; try simp only [Act.put, List.setIfInBounds_toArray, List.set_cons_zero, List.set_cons_succ])
          (refine takeE (Keep.tr (· = g9)) 9 (by simp only [List.getElem?_toArray, List.getElem?_cons_succ, List.getElem?_cons_zero]; rfl) (by kernel_rfl) (by kernel_rfl) (by kernel_rfl) (by exact fun _ _ _ h => h) (by first | (refine Or.inl ⟨by rfl, ?_⟩; intro W hW; go_simp; try with_reducible rfl) | exact Or.inr ⟨by rfl, rfl⟩) ?_; try simp only [Act.put, List.setIfInBounds_toArray, List.set_cons_zero, List.set_cons_succ])
          (refine takeE (Keep.tr (· = g9)) 10 (by simp only [List.getElem?_toArray, List.getElem?_cons_succ, List.getElem?_cons_zero]; rfl) (by kernel_rfl) (by kernel_rfl) (by kernel_rfl) (by exact fun _ _ _ h => h) (by first | (refine Or.inl ⟨by rfl, ?_⟩; intro W hW; go_simp; try with_reducible rfl) | exact Or.inr ⟨by rfl, rfl⟩) ?_; try simp only [Act.put, List.setIfInBounds_toArray, List.set_cons_zero, List.set_cons_succ])
          (refine takeE (Keep.tr (· = g9)) 12 (by simp only [List.getElem?_toArray, List.getElem?_cons_succ, List.getElem?_cons_zero]; rfl) (by kernel_rfl) (by kernel_rfl) (by kernel_rfl) (by exact fun _ _ _ h => h) (by first | (refine Or.inl ⟨by rfl, ?_⟩; intro W hW; go_simp; try with_reducible rfl) | exact Or.inr ⟨by rfl, rfl⟩) ?_; try simp only [Act.put, List.setIfInBounds_toArray, List.set_cons_zero, List.set_cons_succ])
          refine wpAnyE_one (i := 13) (by kernel_rfl) (by simp only [List.getElem?_toArray, List.getElem?_cons_succ, List.getElem?_cons_zero]; rfl) (fun K2 hK2 => ?_)
          refine opwp_put_pk rowP rfl (.tmp 8) (.tmp 33) rfl _ rfl hz8 (by rfl) q9 rfl ?_
          intro w9 hzz hww
          have hin := into_before HFD.out hf8 hs8 hg8 hr8 hww hzz
          refine hK2.out _ _ (Keep.setW hww (fun k hk => by rw [hk]; exact ⟨Nat.lt_of_lt_of_le HXC.out.lt (Nat.le_trans hba.size hs8.size), fun e => by have := HXC.out.lt; omega⟩)) ?_
          clear hK2 K2
          try simp only [Act.put, List.setIfInBounds_toArray, List.set_cons_zero, List.set_cons_succ]
          refine wpAnyE_done (by kernel_rfl) ?_ _
          try clear hba
          try clear hz
          try clear hgF
          try clear hqc hfc hs8 hg8 hf8 hr8 hz8 hzz hww
          clear k2 k4 hsz1
          obtain ⟨FA, FFA, hfA, hsA, hgA, hrA, hzA, hleA, hnA⟩ := hin
          have HE : Hid (FDid F X w b ((m.into q.pk).into (m.iout q.pk)) pp w9) := Lib.hid ⟨FA, FFA, hfA.less fun k hk => .inl (.inl (.inl hk)), HS9.out.trans hsA HG9.out, HG9.out.trans hgA HS9.out.size⟩
          clear hfA hsA hgA hrA hzA hleA hnA
          by_cases hv2 : (m.into q.pk).ivd (m.iout q.pk) = 1
          · rw [hv2]
            go_wp2
            go_ret
            exact ⟨by unfold FM.pv3; rw [if_pos hv2]; rfl, HE.out⟩
          · have hv3 : ¬ (((m.into q.pk).ivd (m.iout q.pk) : Nat) : Int) = 1 := by omega
            go_wp2
            go_ret
            exact ⟨by unfold FM.pv3; rw [if_neg hv2]; rfl, HE.out⟩
      ·
        go_simp
        have hba := (Below.refl we.heap.size we).alloc (Nat.le_refl _) (.cells (List.toArray [.int .i64 0, .int .i64 0, .int .i64 0, .int .i64 0, .int .i64 0, .int .i64 0, .int .i64 0, .int .i64 0, .slice none 0 0]) 65)
        have hz := Bk.new we 65 [.int .i64 0, .int .i64 0, .int .i64 0, .int .i64 0, .int .i64 0, .int .i64 0, .int .i64 0, .int .i64 0, .slice none 0 0]
        replace hsz1 := hba.size
        replace hfc := hfc.box (g := we.heap.size) hba (Nat.le_refl _) (by simp)
        replace hqc := hqc.below hba
        refine hK2.out _ _ (Keep.below hba (fun k hk => by rw [hk]; exact HXC.out.lt)) ?_
        clear hK2 K2
        try simp only [Act.put, List.setIfInBounds_toArray, List.set_cons_zero, List.set_cons_succ]
        refine wpAnyE_one (i := 5) (by kernel_rfl) (by simp only [List.getElem?_toArray, List.getElem?_cons_succ, List.getElem?_cons_zero]; rfl) (fun K2 hK2 => ?_)
        go_simp
        refine (f_at hfc.fp _ _).mono ?_
        rintro e wr ⟨rfl, rfl⟩
        refine hK2.out _ _ ((Keep.tr _).refl _) ?_
        clear hK2 K2
        try simp only [Act.put, List.setIfInBounds_toArray, List.set_cons_zero, List.set_cons_succ]
        refine wpAnyE_one (i := 7) (by kernel_rfl) (by simp only [List.getElem?_toArray, List.getElem?_cons_succ, List.getElem?_cons_zero]; rfl) (fun K2 hK2 => ?_)
        go_simp
        refine (hfc.put HM2.out (by omega) hqc).mono ?_
        rintro e w8 ⟨q9, F8, FF8, rfl, hk8, hf8, hs8, hg8, hr8⟩
        rw [HKh.out] at hk8 hf8 ⊢
        have hz8 := hz.st hs8 hgF
        refine hK2.out _ _ (hs8.kp fun k hk => by rw [hk]; exact ⟨Nat.lt_of_lt_of_le HXC.out.lt hsz1, HnF.out⟩) ?_
        clear hK2 K2
        try simp only [Act.put, List.setIfInBounds_toArray, List.set_cons_zero, List.set_cons_succ]
        (refine takeE (Keep.tr (· = g9)) 8 (by simp only [List.getElem?_toArray, List.getElem?_cons_succ, List.getElem?_cons_zero]; rfl) (by kernel_rfl) (by kernel_rfl) (by kernel_rfl) (by exact fun _ _ _ h => h) (by first | (refine Or.inl ⟨by rfl, ?_⟩; intro W hW; go_simp; try with_reducible rfl) | exact Or.inr ⟨by rfl, rfl⟩) ?_; try simp only [Act.put, List.setIfInBounds_toArray, List.set_cons_zero, List.set_cons_succ])
        (refine takeE (Keep.tr (· = g9)) 9 (by simp only [List.getElem?_toArray, List.getElem?_cons_succ, List.getElem?_cons_zero]; rfl) (by kernel_rfl) (by kernel_rfl) (by kernel_rfl) (by exact fun _ _ _ h => h) (by first | (refine Or.inl ⟨by rfl, ?_⟩; intro W hW; go_simp; try with_reducible rfl) | exact Or.inr ⟨by rfl, rfl⟩) ?_; try simp only [Act.put, List.setIfInBounds_toArray, List.set_cons_zero, List.set_cons_succ])
        (refine takeE (Keep.tr (· = g9)) 10 (by simp only [List.getElem?_toArray, List.getElem?_cons_succ, List.getElem?_cons_zero]; rfl) (by kernel_rfl) (by kernel_rfl) (by kernel_rfl) (by exact fun _ _ _ h => h) (by first | (refine Or.inl ⟨by rfl, ?_⟩; intro W hW; go_simp; try with_reducible rfl) | exact Or.inr ⟨by rfl, rfl⟩) ?_; try simp only [Act.put, List.setIfInBounds_toArray, List.set_cons_zero, List.set_cons_succ])
        (refine takeE (Keep.tr (· = g9)) 12 (by simp only [List.getElem?_toArray, List.getElem?_cons_succ, List.getElem?_cons_zero]; rfl) (by kernel_rfl) (by kernel_rfl) (by kernel_rfl) (by exact fun _ _ _ h => h) (by first | (refine Or.inl ⟨by rfl, ?_⟩; intro W hW; go_simp; try with_reducible rfl) | exact Or.inr ⟨by rfl, rfl⟩) ?_; try simp only [Act.put, List.setIfInBounds_toArray, List.set_cons_zero, List.set_cons_succ])
        refine wpAnyE_one (i := 13) (by kernel_rfl) (by simp only [List.getElem?_toArray, List.getElem?_cons_succ, List.getElem?_cons_zero]; rfl) (fun K2 hK2 => ?_)
        refine opwp_put_pk rowP rfl (.tmp 8) (.tmp 33) rfl _ rfl hz8 (by rfl) q9 rfl ?_
        intro w9 hzz hww
        have hin := into_before HFD.out hf8 hs8 hg8 hr8 hww hzz
        refine hK2.out _ _ (Keep.setW hww (fun k hk => by rw [hk]; exact ⟨Nat.lt_of_lt_of_le HXC.out.lt (Nat.le_trans hba.size hs8.size), fun e => by have := HXC.out.lt; omega⟩)) ?_
        clear hK2 K2
        try simp only [Act.put, List.setIfInBounds_toArray, List.set_cons_zero, List.set_cons_succ]
        refine wpAnyE_done (by kernel_rfl) ?_ _
        try clear hba
        try clear hz
        try clear hgF
        try clear hqc hfc hs8 hg8 hf8 hr8 hz8 hzz hww
        clear k2 k4 hsz1
        obtain ⟨FA, FFA, hfA, hsA, hgA, hrA, hzA, hleA, hnA⟩ := hin
        have HE : Hid (FDid F X w b ((m.into q.pk).into (m.iout q.pk)) pp w9) := Lib.hid ⟨FA, FFA, hfA.less fun k hk => .inl (.inl (.inl hk)), HS9.out.trans hsA HG9.out, HG9.out.trans hgA HS9.out.size⟩
        clear hfA hsA hgA hrA hzA hleA hnA
        by_cases hv2 : (m.into q.pk).ivd (m.iout q.pk) = 1
        · rw [hv2]
          go_wp2
          go_ret
          exact ⟨by unfold FM.pv3; rw [if_pos hv2]; rfl, HE.out⟩
        · have hv3 : ¬ (((m.into q.pk).ivd (m.iout q.pk) : Nat) : Int) = 1 := by omega
          go_wp2
          go_ret
          exact ⟨by unfold FM.pv3; rw [if_neg hv2]; rfl, HE.out⟩
    ·
      go_simp
      have hba := (Below.refl wd.heap.size wd).alloc (Nat.le_refl _) (.cells (List.toArray [.int .i64 0, .int .i64 0, .int .i64 0, .int .i64 0, .int .i64 0, .int .i64 0, .int .i64 0, .int .i64 0, .slice none 0 0]) 65)
      have hz := Bk.new wd 65 [.int .i64 0, .int .i64 0, .int .i64 0, .int .i64 0, .int .i64 0, .int .i64 0, .int .i64 0, .int .i64 0, .slice none 0 0]
      replace hsz1 := hba.size
      replace hfc := hfc.box (g := wd.heap.size) hba (Nat.le_refl _) (by simp)
      replace hqc := hqc.below hba
      refine hK.out _ _ (Keep.below hba (fun k hk => by rw [hk]; exact HXC.out.lt)) ?_
      clear hK K
      try simp only [Act.put, List.setIfInBounds_toArray, List.set_cons_zero, List.set_cons_succ]
      refine wpAnyE_one (i := 7) (by kernel_rfl) (by simp only [List.getElem?_toArray, List.getElem?_cons_succ, List.getElem?_cons_zero]; rfl) (fun K hK => ?_)
      go_simp
      refine (hfc.put HM.out (by omega) hqc).mono ?_
      rintro e w6 ⟨q', F6, FF6, rfl, hk6, hf6, hs6, hg6, hr6⟩
      rw [HV.out]
      have hz6 := hz.st hs6 hgF
      refine hK.out _ _ (hs6.kp fun k hk => by rw [hk]; exact ⟨Nat.lt_of_lt_of_le HXC.out.lt hsz1, HnF.out⟩) ?_
      clear hK K
      try simp only [Act.put, List.setIfInBounds_toArray, List.set_cons_zero, List.set_cons_succ]
      (refine takeE (Keep.tr (· = w.heap.size)) 8 (by simp only [List.getElem?_toArray, List.getElem?_cons_succ, List.getElem?_cons_zero]; rfl) (by kernel_rfl) (by kernel_rfl) (by kernel_rfl) (by exact fun _ _ _ h => h) (by first | (refine Or.inl ⟨by rfl, ?_⟩; intro W hW; go_simp; try with_reducible rfl) | exact Or.inr ⟨by rfl, rfl⟩) ?_; try simp only [Act.put, List.setIfInBounds_toArray, List.set_cons_zero, List.set_cons_succ])
      (refine takeE (Keep.tr (· = w.heap.size)) 9 (by simp only [List.getElem?_toArray, List.getElem?_cons_succ, List.getElem?_cons_zero]; rfl) (by kernel_rfl) (by kernel_rfl) (by kernel_rfl) (by exact fun _ _ _ h => h) (by first | (refine Or.inl ⟨by rfl, ?_⟩; intro W hW; go_simp; try with_reducible rfl) | exact Or.inr ⟨by rfl, rfl⟩) ?_; try simp only [Act.put, List.setIfInBounds_toArray, List.set_cons_zero, List.set_cons_succ])
      (refine takeE (Keep.tr (· = w.heap.size)) 10 (by simp only [List.getElem?_toArray, List.getElem?_cons_succ, List.getElem?_cons_zero]; rfl) (by kernel_rfl) (by kernel_rfl) (by kernel_rfl) (by exact fun _ _ _ h => h) (by first | (refine Or.inl ⟨by rfl, ?_⟩; intro W hW; go_simp; try with_reducible rfl) | exact Or.inr ⟨by rfl, rfl⟩) ?_; try simp only [Act.put, List.setIfInBounds_toArray, List.set_cons_zero, List.set_cons_succ])
      (refine takeE (Keep.tr (· = w.heap.size)) 12 (by simp only [List.getElem?_toArray, List.getElem?_cons_succ, List.getElem?_cons_zero]; rfl) (by kernel_rfl) (by kernel_rfl) (by kernel_rfl) (by exact fun _ _ _ h => h) (by first | (refine Or.inl ⟨by rfl, ?_⟩; intro W hW; go_simp; try with_reducible rfl) | exact Or.inr ⟨by rfl, rfl⟩) ?_; try simp only [Act.put, List.setIfInBounds_toArray, List.set_cons_zero, List.set_cons_succ])
      refine wpAnyE_one (i := 13) (by kernel_rfl) (by simp only [List.getElem?_toArray, List.getElem?_cons_succ, List.getElem?_cons_zero]; rfl) (fun K hK => ?_)
      refine opwp_put_pk rowP rfl (.tmp 6) (.tmp 19) rfl _ rfl hz6 (by rfl) q' rfl ?_
      intro w7 hz7 hw7
      have hin := into_before HFD.out hf6 hs6 hg6 hr6 hw7 hz7
      refine hK.out _ _ (Keep.setW hw7 (fun k hk => by rw [hk]; exact ⟨Nat.lt_of_lt_of_le HXC.out.lt (Nat.le_trans hba.size hs6.size), fun e => by have := HXC.out.lt; omega⟩)) ?_
      clear hK K
      try simp only [Act.put, List.setIfInBounds_toArray, List.set_cons_zero, List.set_cons_succ]
      refine wpAnyE_done (by kernel_rfl) ?_ _
      try clear hba
      try clear hz
      try clear hgF
      try clear hqc hfc hs6 hg6 hf6 hr6 hz6 hz7 hw7
      clear k2 k4 hsz1
      obtain ⟨F9, FF9, hf9, hs9, hg9, hr9, hz9, hle9, hn9⟩ := hin
      have HF9 := Lib.hid hf9
      have HQ9 : Hid (PvR F9 w7 q') := Lib.hid (hr9.mono fun k hk => .inl hk)
      have HZ9 := Lib.hid hz9
      have HKh : Hid (q'.pk = m.iout q.pk) := Lib.hid hk6
      have HSh := Lib.hid ((St.ext HBD.out).trans hs9 (Gr.refl _ _))
      have HGh : Hid (Gr F F9 w.heap.size) := Lib.hid ((Gr.refl F _).trans hg9 HBD.out.size)
      have HN9 : Hid (¬ F9 wd.heap.size) := Lib.hid hn9
      clear hf9 hs9 hr9 hz9 hk6 hle9 hg9 hn9
      try clear hsz1 
      generalize q' = qh at *
      clear HXC HnF HFD
      try generalize wd.heap.size = g9 at *
      go_wp2
      refine wp_region_E (Keep (· = g9)) (by kernel_rfl) (fun we hbd hsz => ?_)
      have hfc := HF9.out.below hbd
      have hqc := HQ9.out.below hbd
      have HXC := Lib.hid (HZ9.out.below hbd)
      have HS9 := Lib.hid (HSh.out.trans (St.ext hbd) (Gr.refl _ _))
      have HG9 := Lib.hid HGh.out
      have HFD := Lib.hid hfc.bd
      have HnF : Hid (¬ F9 g9) := Lib.hid HN9.out
      have hgF : ¬ F9 we.heap.size := fun hf => Nat.lt_irrefl _ (HFD.out _ hf)
      clear hsz HF9 HQ9 HZ9 HSh HGh HN9 hbd
      have k2 : ∀ W, Keep (· = g9) we W → W.cell? ⟨g9, 2, none⟩ = some (.int .i64 qh.h.pa) := fun W hW => (HXC.out.kp hW rfl).cell 2 rfl
      have k4 : ∀ W, Keep (· = g9) we W → W.cell? ⟨g9, 4, none⟩ = some (.int .i64 qh.h.ds) := fun W hW => (HXC.out.kp hW rfl).cell 4 rfl
      have hsz1 : we.heap.size ≤ we.heap.size := Nat.le_refl _
      (refine takeE (Keep.tr (· = g9)) 0 (by simp only [List.getElem?_toArray, List.getElem?_cons_succ, List.getElem?_cons_zero]; rfl) (by kernel_rfl) (by kernel_rfl) (by kernel_rfl) (by exact fun _ _ _ h => h) (by first | (refine Or.inl ⟨by rfl, ?_⟩; intro W hW; go_simp; try with_reducible rfl) | exact Or.inr ⟨by rfl, rfl⟩) ?_; try simp only [Act.put, List.setIfInBounds_toArray, List.set_cons_zero, List.set_cons_succ])
      (refine takeE (Keep.tr (· = g9)) 1 (by simp only [List.getElem?_toArray, List.getElem?_cons_succ, List.getElem?_cons_zero]; rfl) (by kernel_rfl) (by kernel_rfl) (by kernel_rfl) (by exact fun _ _ _ h => h) (by first | (refine Or.inl ⟨by rfl, ?_⟩; intro W hW; go_simp; try with_reducible rfl) | exact Or.inr ⟨by rfl, rfl⟩) ?_; try simp only [Act.put, List.setIfInBounds_toArray, List.set_cons_zero, List.set_cons_succ])
      (refine takeE (Keep.tr (· = g9)) 3 (by simp only [List.getElem?_toArray, List.getElem?_cons_succ, List.getElem?_cons_zero]; rfl) (by kernel_rfl) (by kernel_rfl) (by kernel_rfl) (by exact fun _ _ _ h => h) (by first | (refine Or.inl ⟨by rfl, ?_⟩; intro W hW; go_simp; try with_reducible rfl) | exact Or.inr ⟨by rfl, rfl⟩) ?_; try simp only [Act.put, List.setIfInBounds_toArray, List.set_cons_zero, List.set_cons_succ])
      (refine takeE (Keep.tr (· = g9)) 6 (by simp only [List.getElem?_toArray, List.getElem?_cons_succ, List.getElem?_cons_zero]; rfl) (by kernel_rfl) (by kernel_rfl) (by kernel_rfl) (by exact fun _ _ _ h => h) (by first | (refine Or.inl ⟨by rfl, ?_⟩; intro W hW; exact exec_load_bk rowP (.tmp 6) rfl g9 0 rfl (HXC.out.kp hW rfl) qh.cl rfl rfl) | exact Or.inr ⟨by rfl, rfl⟩) ?_; try simp only [Act.put, List.setIfInBounds_toArray, List.set_cons_zero, List.set_cons_succ])
      (refine takeE (Keep.tr (· = g9)) 2 (by simp only [List.getElem?_toArray, List.getElem?_cons_succ, List.getElem?_cons_zero]; rfl) (by kernel_rfl) (by kernel_rfl) (by kernel_rfl) (by exact fun _ _ _ h => h) (by first | (refine Or.inl ⟨by rfl, ?_⟩; intro W hW; go_simp; try with_reducible rfl) | exact Or.inr ⟨by rfl, rfl⟩) ?_; try simp only [Act.put, List.setIfInBounds_toArray, List.set_cons_zero, List.set_cons_succ])
      (refine takeE (Keep.tr (· = g9)) 4 (by simp only [List.getElem?_toArray, List.getElem?_cons_succ, List.getElem?_cons_zero]; rfl) (by kernel_rfl) (by kernel_rfl) (by kernel_rfl) (by exact fun _ _ _ h => h) (by first | (refine Or.inl ⟨by rfl, ?_⟩; intro W hW; go_simp; try with_reducible rfl) | exact Or.inr ⟨by rfl, rfl⟩) ?_; try simp only [Act.put, List.setIfInBounds_toArray, List.set_cons_zero, List.set_cons_succ])
      refine wpAnyE_two (i := 5) (j := 11) (by kernel_rfl) (by simp only [List.getElem?_toArray, List.getElem?_cons_succ, List.getElem?_cons_zero]; rfl) (by simp only [List.getElem?_toArray, List.getElem?_cons_succ, List.getElem?_cons_zero]; rfl) (fun K2 hK2 => ?_) (fun K2 hK2 => ?_)
      ·
        go_simp
        refine (f_at hfc.fp _ _).mono ?_
        rintro e wr ⟨rfl, rfl⟩
        refine hK2.out _ _ ((Keep.tr _).refl _) ?_
        clear hK2 K2
        try simp only [Act.put, List.setIfInBounds_toArray, List.set_cons_zero, List.set_cons_succ]
        refine wpAnyE_two (i := 7) (j := 11) (by kernel_rfl) (by simp only [List.getElem?_toArray, List.getElem?_cons_succ, List.getElem?_cons_zero]; rfl) (by simp only [List.getElem?_toArray, List.getElem?_cons_succ, List.getElem?_cons_zero]; rfl) (fun K2 hK2 => ?_) (fun K2 hK2 => ?_)
        ·
          go_simp
          refine (hfc.put HM2.out (by omega) hqc).mono ?_
          rintro e w8 ⟨q9, F8, FF8, rfl, hk8, hf8, hs8, hg8, hr8⟩
          rw [HKh.out] at hk8 hf8 ⊢
          refine hK2.out _ _ (hs8.kp fun k hk => by rw [hk]; exact ⟨Nat.lt_of_lt_of_le HXC.out.lt hsz1, HnF.out⟩) ?_
          clear hK2 K2
          try simp only [Act.put, List.setIfInBounds_toArray, List.set_cons_zero, List.set_cons_succ]
          (refine takeE (Keep.tr (· = g9)) 8 (by simp only [List.getElem?_toArray, List.getElem?_cons_succ, List.getElem?_cons_zero]; rfl) (by kernel_rfl) (by kernel_rfl) (by kernel_rfl) (by exact fun _ _ _ h => h) (by first | (refine Or.inl ⟨by rfl, ?_⟩; intro W hW; go_simp; try with_reducible rfl) | exact Or.inr ⟨by rfl, rfl⟩) ?_; try simp only [Act.put, List.setIfInBounds_toArray, List.set_cons_zero, List.set_cons_succ])
          (refine takeE (Keep.tr (· = g9)) 9 (by simp only [List.getElem?_toArray, List.getElem?_cons_succ, List.getElem?_cons_zero]; rfl) (by kernel_rfl) (by kernel_rfl) (by kernel_rfl) (by exact fun _ _ _ h => h) (by first | (refine Or.inl ⟨by rfl, ?_⟩; intro W hW; go_simp; try with_reducible rfl) | exact Or.inr ⟨by rfl, rfl⟩) ?_; try simp only [Act.put, List.setIfInBounds_toArray, List.set_cons_zero, List.set_cons_succ])
          (refine takeE (Keep.tr (· = g9)) 10 (by simp only [List.getElem?_toArray, List.getElem?_cons_succ, List.getElem?_cons_zero]; rfl) (by kernel_rfl) (by kernel_rfl) (by kernel_rfl) (by exact fun _ _ _ h => h) (by first | (refine Or.inl ⟨by rfl, ?_⟩; intro W hW; go_simp; try with_reducible rfl) | exact Or.inr ⟨by rfl, rfl⟩) ?_; try simp only [Act.put, List.setIfInBounds_toArray, List.set_cons_zero, List.set_cons_succ])
          refine wpAnyE_one (i := 11) (by kernel_rfl) (by simp only [List.getElem?_toArray, List.getElem?_cons_succ, List.getElem?_cons_zero]; rfl) (fun K2 hK2 => ?_)
          go_simp
          have hba := (Below.refl w8.heap.size w8).alloc (Nat.le_refl _) (.cells (List.toArray [.int .i64 0, .int .i64 0, .int .i64 0, .int .i64 0, .int .i64 0, .int .i64 0, .int .i64 0, .int .i64 0, .slice none 0 0]) 65)
          have hz8 := Bk.new w8 65 [.int .i64 0, .int .i64 0, .int .i64 0, .int .i64 0, .int .i64 0, .int .i64 0, .int .i64 0, .int .i64 0, .slice none 0 0]
          refine hK2.out _ _ (Keep.below hba (fun k hk => by rw [hk]; exact Nat.lt_of_lt_of_le HXC.out.lt hs8.size)) ?_
          clear hK2 K2
          try simp only [Act.put, List.setIfInBounds_toArray, List.set_cons_zero, List.set_cons_succ]
          (refine takeE (Keep.tr (· = g9)) 12 (by simp only [List.getElem?_toArray, List.getElem?_cons_succ, List.getElem?_cons_zero]; rfl) (by kernel_rfl) (by kernel_rfl) (by kernel_rfl) (by exact fun _ _ _ h => h) (by first | (refine Or.inl ⟨by rfl, ?_⟩; intro W hW; go_simp; try with_reducible rfl) | exact Or.inr ⟨by rfl, rfl⟩) ?_; try simp only [Act.put, List.setIfInBounds_toArray, List.set_cons_zero, List.set_cons_succ])
          refine wpAnyE_one (i := 13) (by kernel_rfl) (by simp only [List.getElem?_toArray, List.getElem?_cons_succ, List.getElem?_cons_zero]; rfl) (fun K2 hK2 => ?_)
          refine opwp_put_pk rowP rfl (.tmp 8) (.tmp 33) rfl _ rfl hz8 (by rfl) q9 rfl ?_
          intro w9 hzz hww
          have hin := into_after hf8 hs8 hg8 hr8 hww hzz
          refine hK2.out _ _ (Keep.setW hww (fun k hk => by rw [hk]; exact ⟨Nat.lt_of_lt_of_le HXC.out.lt (Nat.le_trans hs8.size hba.size), fun e => by have := HXC.out.lt; have := hs8.size; omega⟩)) ?_
          clear hK2 K2
          try simp only [Act.put, List.setIfInBounds_toArray, List.set_cons_zero, List.set_cons_succ]
          refine wpAnyE_done (by kernel_rfl) ?_ _
          try clear hba
          try clear hz
          try clear hgF
          try clear hqc hfc hs8 hg8 hf8 hr8 hz8 hzz hww
          clear k2 k4 hsz1
          obtain ⟨FA, FFA, hfA, hsA, hgA, hrA, hzA, hleA, hnA⟩ := hin
          have HE : Hid (FDid F X w b ((m.into q.pk).into (m.iout q.pk)) pp w9) := Lib.hid ⟨FA, FFA, hfA.less fun k hk => .inl (.inl (.inl hk)), HS9.out.trans hsA HG9.out, HG9.out.trans hgA HS9.out.size⟩
          clear hfA hsA hgA hrA hzA hleA hnA
          by_cases hv2 : (m.into q.pk).ivd (m.iout q.pk) = 1
          · rw [hv2]
            go_wp2
            go_ret
            exact ⟨by unfold FM.pv3; rw [if_pos hv2]; rfl, HE.out⟩
          · have hv3 : ¬ (((m.into q.pk).ivd (m.iout q.pk) : Nat) : Int) = 1 := by omega
            go_wp2
            go_ret
            exact ⟨by unfold FM.pv3; rw [if_neg hv2]; rfl, HE.out⟩
        ·
          go_simp
          have hba := (Below.refl we.heap.size we).alloc (Nat.le_refl _) (.cells (List.toArray [.int .i64 0, .int .i64 0, .int .i64 0, .int .i64 0, .int .i64 0, .int .i64 0, .int .i64 0, .int .i64 0, .slice none 0 0]) 65)
          have hz := Bk.new we 65 [.int .i64 0, .int .i64 0, .int .i64 0, .int .i64 0, .int .i64 0, .int .i64 0, .int .i64 0, .int .i64 0, .slice none 0 0]
          replace hsz1 := hba.size
          replace hfc := hfc.box (g := we.heap.size) hba (Nat.le_refl _) (by simp)
          replace hqc := hqc.below hba
          refine hK2.out _ _ (Keep.below hba (fun k hk => by rw [hk]; exact HXC.out.lt)) ?_
          clear hK2 K2
          try simp only [Act.put, List.setIfInBounds_toArray, List.set_cons_zero, List.set_cons_succ]
          refine wpAnyE_one (i := 7) (by kernel_rfl) (by simp only [List.getElem?_toArray, List.getElem?_cons_succ, List.getElem?_cons_zero]; rfl) (fun K2 hK2 => ?_)
          go_simp
          refine (hfc.put HM2.out (by omega) hqc).mono ?_
          rintro e w8 ⟨q9, F8, FF8, rfl, hk8, hf8, hs8, hg8, hr8⟩
          rw [HKh.out] at hk8 hf8 ⊢
          have hz8 := hz.st hs8 hgF
          refine hK2.out _ _ (hs8.kp fun k hk => by rw [hk]; exact ⟨Nat.lt_of_lt_of_le HXC.out.lt hsz1, HnF.out⟩) ?_
          clear hK2 K2
          try simp only [Act.put, List.setIfInBounds_toArray, List.set_cons_zero, List.set_cons_succ]
          (refine takeE (Keep.tr (· = g9)) 8 (by simp only [List.getElem?_toArray, List.getElem?_cons_succ, List.getElem?_cons_zero]; rfl) (by kernel_rfl) (by kernel_rfl) (by kernel_rfl) (by exact fun _ _ _ h => h) (by first | (refine Or.inl ⟨by rfl, ?_⟩; intro W hW; go_simp; try with_reducible rfl) | exact Or.inr ⟨by rfl, rfl⟩) ?_; try simp only [Act.put, List.setIfInBounds_toArray, List.set_cons_zero, List.set_cons_succ])
          (refine takeE (Keep.tr (· = g9)) 9 (by simp only [List.getElem?_toArray, List.getElem?_cons_succ, List.getElem?_cons_zero]; rfl) (by kernel_rfl) (by kernel_rfl) (by kernel_rfl) (by exact fun _ _ _ h => h) (by first | (refine Or.inl ⟨by rfl, ?_⟩; intro W hW; go_simp; try with_reducible rfl) | exact Or.inr ⟨by rfl, rfl⟩) ?_; try simp only [Act.put, List.setIfInBounds_toArray, List.set_cons_zero, List.set_cons_succ])
          (refine takeE (Keep.tr (· = g9)) 10 (by simp only [List.getElem?_toArray, List.getElem?_cons_succ, List.getElem?_cons_zero]; rfl) (by kernel_rfl) (by kernel_rfl) (by kernel_rfl) (by exact fun _ _ _ h => h) (by first | (refine Or.inl ⟨by rfl, ?_⟩; intro W hW; go_simp; try with_reducible rfl) | exact Or.inr ⟨by rfl, rfl⟩) ?_; try simp only [Act.put, List.setIfInBounds_toArray, List.set_cons_zero, List.set_cons_succ])
          (refine takeE (Keep.tr (· = g9)) 12 (by simp only [List.getElem?_toArray, List.getElem?_cons_succ, List.getElem?_cons_zero]; rfl) (by kernel_rfl) (by kernel_rfl) (by kernel_rfl) (by exact fun _ _ _ h => h) (by first | (refine Or.inl ⟨by rfl, ?_⟩; intro W hW; go_simp; try with_reducible rfl) | exact Or.inr ⟨by rfl, rfl⟩) ?_; try simp only [Act.put, List.setIfInBounds_toArray, List.set_cons_zero, List.set_cons_succ])
          refine wpAnyE_one (i := 13) (by kernel_rfl) (by simp only [List.getElem?_toArray, List.getElem?_cons_succ, List.getElem?_cons_zero]; rfl) (fun K2 hK2 => ?_)
          refine opwp_put_pk rowP rfl (.tmp 8) (.tmp 33) rfl _ rfl hz8 (by rfl) q9 rfl ?_
          intro w9 hzz hww
          have hin := into_before HFD.out hf8 hs8 hg8 hr8 hww hzz
          refine hK2.out _ _ (Keep.setW hww (fun k hk => by rw [hk]; exact ⟨Nat.lt_of_lt_of_le HXC.out.lt (Nat.le_trans hba.size hs8.size), fun e => by have := HXC.out.lt; omega⟩)) ?_
          clear hK2 K2
          try simp only [Act.put, List.setIfInBounds_toArray, List.set_cons_zero, List.set_cons_succ]
          refine wpAnyE_done (by kernel_rfl) ?_ _
          try clear hba
          try clear hz
          try clear hgF
          try clear hqc hfc hs8 hg8 hf8 hr8 hz8 hzz hww
          clear k2 k4 hsz1
          obtain ⟨FA, FFA, hfA, hsA, hgA, hrA, hzA, hleA, hnA⟩ := hin
          have HE : Hid (FDid F X w b ((m.into q.pk).into (m.iout q.pk)) pp w9) := Lib.hid ⟨FA, FFA, hfA.less fun k hk => .inl (.inl (.inl hk)), HS9.out.trans hsA HG9.out, HG9.out.trans hgA HS9.out.size⟩
          clear hfA hsA hgA hrA hzA hleA hnA
          by_cases hv2 : (m.into q.pk).ivd (m.iout q.pk) = 1
          · rw [hv2]
            go_wp2
            go_ret
            exact ⟨by unfold FM.pv3; rw [if_pos hv2]; rfl, HE.out⟩
          · have hv3 : ¬ (((m.into q.pk).ivd (m.iout q.pk) : Nat) : Int) = 1 := by omega
            go_wp2
            go_ret
            exact ⟨by unfold FM.pv3; rw [if_neg hv2]; rfl, HE.out⟩
      ·
        go_simp
        have hba := (Below.refl we.heap.size we).alloc (Nat.le_refl _) (.cells (List.toArray [.int .i64 0, .int .i64 0, .int .i64 0, .int .i64 0, .int .i64 0, .int .i64 0, .int .i64 0, .int .i64 0, .slice none 0 0]) 65)
        have hz := Bk.new we 65 [.int .i64 0, .int .i64 0, .int .i64 0, .int .i64 0, .int .i64 0, .int .i64 0, .int .i64 0, .int .i64 0, .slice none 0 0]
        replace hsz1 := hba.size
        replace hfc := hfc.box (g := we.heap.size) hba (Nat.le_refl _) (by simp)
        replace hqc := hqc.below hba
        refine hK2.out _ _ (Keep.below hba (fun k hk => by rw [hk]; exact HXC.out.lt)) ?_
        clear hK2 K2
        try simp only [Act.put, List.setIfInBounds_toArray, List.set_cons_zero, List.set_cons_succ]
        refine wpAnyE_one (i := 5) (by kernel_rfl) (by simp only [List.getElem?_toArray, List.getElem?_cons_succ, List.getElem?_cons_zero]; rfl) (fun K2 hK2 => ?_)
        go_simp
        refine (f_at hfc.fp _ _).mono ?_
        rintro e wr ⟨rfl, rfl⟩
        refine hK2.out _ _ ((Keep.tr _).refl _) ?_
        clear hK2 K2
        try simp only [Act.put, List.setIfInBounds_toArray, List.set_cons_zero, List.set_cons_succ]
        refine wpAnyE_one (i := 7) (by kernel_rfl) (by simp only [List.getElem?_toArray, List.getElem?_cons_succ, List.getElem?_cons_zero]; rfl) (fun K2 hK2 => ?_)
        go_simp
        refine (hfc.put HM2.out (by omega) hqc).mono ?_
        rintro e w8 ⟨q9, F8, FF8, rfl, hk8, hf8, hs8, hg8, hr8⟩
        rw [HKh.out] at hk8 hf8 ⊢
        have hz8 := hz.st hs8 hgF
        refine hK2.out _ _ (hs8.kp fun k hk => by rw [hk]; exact ⟨Nat.lt_of_lt_of_le HXC.out.lt hsz1, HnF.out⟩) ?_
        clear hK2 K2
        try simp only [Act.put, List.setIfInBounds_toArray, List.set_cons_zero, List.set_cons_succ]
        (refine takeE (Keep.tr (· = g9)) 8 (by simp only [List.getElem?_toArray, List.getElem?_cons_succ, List.getElem?_cons_zero]; rfl) (by kernel_rfl) (by kernel_rfl) (by kernel_rfl) (by exact fun _ _ _ h => h) (by first | (refine Or.inl ⟨by rfl, ?_⟩; intro W hW; go_simp; try with_reducible rfl) | exact Or.inr ⟨by rfl, rfl⟩) ?_; try simp only [Act.put, List.setIfInBounds_toArray, List.set_cons_zero, List.set_cons_succ])
        (refine takeE (Keep.tr (· = g9)) 9 (by simp only [List.getElem?_toArray, List.getElem?_cons_succ, List.getElem?_cons_zero]; rfl) (by kernel_rfl) (by kernel_rfl) (by kernel_rfl) (by exact fun _ _ _ h => h) (by first | (refine Or.inl ⟨by rfl, ?_⟩; intro W hW; go_simp; try with_reducible rfl) | exact Or.inr ⟨by rfl, rfl⟩) ?_; try simp only [Act.put, List.setIfInBounds_toArray, List.set_cons_zero, List.set_cons_succ])
        (refine takeE (Keep.tr (· = g9)) 10 (by simp only [List.getElem?_toArray, List.getElem?_cons_succ, List.getElem?_cons_zero]; rfl) (by kernel_rfl) (by kernel_rfl) (by kernel_rfl) (by exact fun _ _ _ h => h) (by first | (refine Or.inl ⟨by rfl, ?_⟩; intro W hW; go_simp; try with_reducible rfl) | exact Or.inr ⟨by rfl, rfl⟩) ?_; try simp only [Act.put, List.setIfInBounds_toArray, List.set_cons_zero, List.set_cons_succ])
        (refine takeE (Keep.tr (· = g9)) 12 (by simp only [List.getElem?_toArray, List.getElem?_cons_succ, List.getElem?_cons_zero]; rfl) (by kernel_rfl) (by kernel_rfl) (by kernel_rfl) (by exact fun _ _ _ h => h) (by first | (refine Or.inl ⟨by rfl, ?_⟩; intro W hW; go_simp; try with_reducible rfl) | exact Or.inr ⟨by rfl, rfl⟩) ?_; try simp only [Act.put, List.setIfInBounds_toArray, List.set_cons_zero, List.set_cons_succ])
        refine wpAnyE_one (i := 13) (by kernel_rfl) (by simp only [List.getElem?_toArray, List.getElem?_cons_succ, List.getElem?_cons_zero]; rfl) (fun K2 hK2 => ?_)
        refine opwp_put_pk rowP rfl (.tmp 8) (.tmp 33) rfl _ rfl hz8 (by rfl) q9 rfl ?_
        intro w9 hzz hww
        have hin := into_before HFD.out hf8 hs8 hg8 hr8 hww hzz
        refine hK2.out _ _ (Keep.setW hww (fun k hk => by rw [hk]; exact ⟨Nat.lt_of_lt_of_le HXC.out.lt (Nat.le_trans hba.size hs8.size), fun e => by have := HXC.out.lt; omega⟩)) ?_
        clear hK2 K2
        try simp only [Act.put, List.setIfInBounds_toArray, List.set_cons_zero, List.set_cons_succ]
        refine wpAnyE_done (by kernel_rfl) ?_ _
        try clear hba
        try clear hz
        try clear hgF
        try clear hqc hfc hs8 hg8 hf8 hr8 hz8 hzz hww
        clear k2 k4 hsz1
        obtain ⟨FA, FFA, hfA, hsA, hgA, hrA, hzA, hleA, hnA⟩ := hin
        have HE : Hid (FDid F X w b ((m.into q.pk).into (m.iout q.pk)) pp w9) := Lib.hid ⟨FA, FFA, hfA.less fun k hk => .inl (.inl (.inl hk)), HS9.out.trans hsA HG9.out, HG9.out.trans hgA HS9.out.size⟩
        clear hfA hsA hgA hrA hzA hleA hnA
        by_cases hv2 : (m.into q.pk).ivd (m.iout q.pk) = 1
        · rw [hv2]
          go_wp2
          go_ret
          exact ⟨by unfold FM.pv3; rw [if_pos hv2]; rfl, HE.out⟩
        · have hv3 : ¬ (((m.into q.pk).ivd (m.iout q.pk) : Nat) : Int) = 1 := by omega
          go_wp2
          go_ret
          exact ⟨by unfold FM.pv3; rw [if_neg hv2]; rfl, HE.out⟩
  ·
    go_simp
    have hba := (Below.refl wd.heap.size wd).alloc (Nat.le_refl _) (.cells (List.toArray [.int .i64 0, .int .i64 0, .int .i64 0, .int .i64 0, .int .i64 0, .int .i64 0, .int .i64 0, .int .i64 0, .slice none 0 0]) 65)
    have hz := Bk.new wd 65 [.int .i64 0, .int .i64 0, .int .i64 0, .int .i64 0, .int .i64 0, .int .i64 0, .int .i64 0, .int .i64 0, .slice none 0 0]
    replace hsz1 := hba.size
    replace hfc := hfc.box (g := wd.heap.size) hba (Nat.le_refl _) (by simp)
    replace hqc := hqc.below hba
    refine hK.out _ _ (Keep.below hba (fun k hk => by rw [hk]; exact HXC.out.lt)) ?_
    clear hK K
    try simp only [Act.put, List.setIfInBounds_toArray, List.set_cons_zero, List.set_cons_succ]
    refine wpAnyE_one (i := 5) (by kernel_rfl) (by simp only [List.getElem?_toArray, List.getElem?_cons_succ, List.getElem?_cons_zero]; rfl) (fun K hK => ?_)
    go_simp
    refine (f_at hfc.fp _ _).mono ?_
    rintro e wq ⟨rfl, rfl⟩
    refine hK.out _ _ ((Keep.tr _).refl _) ?_
    clear hK K
    try simp only [Act.put, List.setIfInBounds_toArray, List.set_cons_zero, List.set_cons_succ]
    refine wpAnyE_one (i := 7) (by kernel_rfl) (by simp only [List.getElem?_toArray, List.getElem?_cons_succ, List.getElem?_cons_zero]; rfl) (fun K hK => ?_)
    go_simp
    refine (hfc.put HM.out (by omega) hqc).mono ?_
    rintro e w6 ⟨q', F6, FF6, rfl, hk6, hf6, hs6, hg6, hr6⟩
    rw [HV.out]
    have hz6 := hz.st hs6 hgF
    refine hK.out _ _ (hs6.kp fun k hk => by rw [hk]; exact ⟨Nat.lt_of_lt_of_le HXC.out.lt hsz1, HnF.out⟩) ?_
    clear hK K
    try simp only [Act.put, List.setIfInBounds_toArray, List.set_cons_zero, List.set_cons_succ]
    (refine takeE (Keep.tr (· = w.heap.size)) 8 (by simp only [List.getElem?_toArray, List.getElem?_cons_succ, List.getElem?_cons_zero]; rfl) (by kernel_rfl) (by kernel_rfl) (by kernel_rfl) (by exact fun _ _ _ h => h) (by first | (refine Or.inl ⟨by rfl, ?_⟩; intro W hW; go_simp; try with_reducible rfl) | exact Or.inr ⟨by rfl, rfl⟩) ?_; try simp only [Act.put, List.setIfInBounds_toArray, List.set_cons_zero, List.set_cons_succ])
    (refine takeE (Keep.tr (· = w.heap.size)) 9 (by simp only [List.getElem?_toArray, List.getElem?_cons_succ, List.getElem?_cons_zero]; rfl) (by kernel_rfl) (by kernel_rfl) (by kernel_rfl) (by exact fun _ _ _ h => h) (by first | (refine Or.inl ⟨by rfl, ?_⟩; intro W hW; go_simp; try with_reducible rfl) | exact Or.inr ⟨by rfl, rfl⟩) ?_; try simp only [Act.put, List.setIfInBounds_toArray, List.set_cons_zero, List.set_cons_succ])
    (refine takeE (Keep.tr (· = w.heap.size)) 10 (by simp only [List.getElem?_toArray, List.getElem?_cons_succ, List.getElem?_cons_zero]; rfl) (by kernel_rfl) (by kernel_rfl) (by kernel_rfl) (by exact fun _ _ _ h => h) (by first | (refine Or.inl ⟨by rfl, ?_⟩; intro W hW; go_simp; try with_reducible rfl) | exact Or.inr ⟨by rfl, rfl⟩) ?_; try simp only [Act.put, List.setIfInBounds_toArray, List.set_cons_zero, List.set_cons_succ])
    (refine takeE (Keep.tr (· = w.heap.size)) 12 (by simp only [List.getElem?_toArray, List.getElem?_cons_succ, List.getElem?_cons_zero]; rfl) (by kernel_rfl) (by kernel_rfl) (by kernel_rfl) (by exact fun _ _ _ h => h) (by first | (refine Or.inl ⟨by rfl, ?_⟩; intro W hW; go_simp; try with_reducible rfl) | exact Or.inr ⟨by rfl, rfl⟩) ?_; try simp only [Act.put, List.setIfInBounds_toArray, List.set_cons_zero, List.set_cons_succ])
    refine wpAnyE_one (i := 13) (by kernel_rfl) (by simp only [List.getElem?_toArray, List.getElem?_cons_succ, List.getElem?_cons_zero]; rfl) (fun K hK => ?_)
    refine opwp_put_pk rowP rfl (.tmp 6) (.tmp 19) rfl _ rfl hz6 (by rfl) q' rfl ?_
    intro w7 hz7 hw7
    have hin := into_before HFD.out hf6 hs6 hg6 hr6 hw7 hz7
    refine hK.out _ _ (Keep.setW hw7 (fun k hk => by rw [hk]; exact ⟨Nat.lt_of_lt_of_le HXC.out.lt (Nat.le_trans hba.size hs6.size), fun e => by have := HXC.out.lt; omega⟩)) ?_
    clear hK K
    try simp only [Act.put, List.setIfInBounds_toArray, List.set_cons_zero, List.set_cons_succ]
    refine wpAnyE_done (by kernel_rfl) ?_ _
    try clear hba
    try clear hz
    try clear hgF
    try clear hqc hfc hs6 hg6 hf6 hr6 hz6 hz7 hw7
    clear k2 k4 hsz1
    obtain ⟨F9, FF9, hf9, hs9, hg9, hr9, hz9, hle9, hn9⟩ := hin
    have HF9 := Lib.hid hf9
    have HQ9 : Hid (PvR F9 w7 q') := Lib.hid (hr9.mono fun k hk => .inl hk)
    have HZ9 := Lib.hid hz9
    have HKh : Hid (q'.pk = m.iout q.pk) := Lib.hid hk6
    have HSh := Lib.hid ((St.ext HBD.out).trans hs9 (Gr.refl _ _))
    have HGh : Hid (Gr F F9 w.heap.size) := Lib.hid ((Gr.refl F _).trans hg9 HBD.out.size)
    have HN9 : Hid (¬ F9 wd.heap.size) := Lib.hid hn9
    clear hf9 hs9 hr9 hz9 hk6 hle9 hg9 hn9
    try clear hsz1 
    generalize q' = qh at *
    clear HXC HnF HFD
    try generalize wd.heap.size = g9 at *
    go_wp2
    refine wp_region_E (Keep (· = g9)) (by kernel_rfl) (fun we hbd hsz => ?_)
    have hfc := HF9.out.below hbd
    have hqc := HQ9.out.below hbd
    have HXC := Lib.hid (HZ9.out.below hbd)
    have HS9 := Lib.hid (HSh.out.trans (St.ext hbd) (Gr.refl _ _))
    have HG9 := Lib.hid HGh.out
    have HFD := Lib.hid hfc.bd
    have HnF : Hid (¬ F9 g9) := Lib.hid HN9.out
    have hgF : ¬ F9 we.heap.size := fun hf => Nat.lt_irrefl _ (HFD.out _ hf)
    clear hsz HF9 HQ9 HZ9 HSh HGh HN9 hbd
    have k2 : ∀ W, Keep (· = g9) we W → W.cell? ⟨g9, 2, none⟩ = some (.int .i64 qh.h.pa) := fun W hW => (HXC.out.kp hW rfl).cell 2 rfl
    have k4 : ∀ W, Keep (· = g9) we W → W.cell? ⟨g9, 4, none⟩ = some (.int .i64 qh.h.ds) := fun W hW => (HXC.out.kp hW rfl).cell 4 rfl
    have hsz1 : we.heap.size ≤ we.heap.size := Nat.le_refl _
    (refine takeE (Keep.tr (· = g9)) 0 (by simp only [List.getElem?_toArray, List.getElem?_cons_succ, List.getElem?_cons_zero]; rfl) (by kernel_rfl) (by kernel_rfl) (by kernel_rfl) (by exact fun _ _ _ h => h) (by first | (refine Or.inl ⟨by rfl, ?_⟩; intro W hW; go_simp; try with_reducible rfl) | exact Or.inr ⟨by rfl, rfl⟩) ?_; try simp only [Act.put, List.setIfInBounds_toArray, List.set_cons_zero, List.set_cons_succ])
    (refine takeE (Keep.tr (· = g9)) 1 (by simp only [List.getElem?_toArray, List.getElem?_cons_succ, List.getElem?_cons_zero]; rfl) (by kernel_rfl) (by kernel_rfl) (by kernel_rfl) (by exact fun _ _ _ h => h) (by first | (refine Or.inl ⟨by rfl, ?_⟩; intro W hW; go_simp; try with_reducible rfl) | exact Or.inr ⟨by rfl, rfl⟩) ?_; try simp only [Act.put, List.setIfInBounds_toArray, List.set_cons_zero, List.set_cons_succ])
    (refine takeE (Keep.tr (· = g9)) 3 (by simp only [List.getElem?_toArray, List.getElem?_cons_succ, List.getElem?_cons_zero]; rfl) (by kernel_rfl) (by kernel_rfl) (by kernel_rfl) (by exact fun _ _ _ h => h) (by first | (refine Or.inl ⟨by rfl, ?_⟩; intro W hW; go_simp; try with_reducible rfl) | exact Or.inr ⟨by rfl, rfl⟩) ?_; try simp only [Act.put, List.setIfInBounds_toArray, List.set_cons_zero, List.set_cons_succ])
    (refine takeE (Keep.tr (· = g9)) 6 (by simp only [List.getElem?_toArray, List.getElem?_cons_succ, List.getElem?_cons_zero]; rfl) (by kernel_rfl) (by kernel_rfl) (by kernel_rfl) (by exact fun _ _ _ h => h) (by first | (refine Or.inl ⟨by rfl, ?_⟩; intro W hW; exact exec_load_bk rowP (.tmp 6) rfl g9 0 rfl (HXC.out.kp hW rfl) qh.cl rfl rfl) | exact Or.inr ⟨by rfl, rfl⟩) ?_; try simp only [Act.put, List.setIfInBounds_toArray, List.set_cons_zero, List.set_cons_succ])
    (refine takeE (Keep.tr (· = g9)) 2 (by simp only [List.getElem?_toArray, List.getElem?_cons_succ, List.getElem?_cons_zero]; rfl) (by kernel_rfl) (by kernel_rfl) (by kernel_rfl) (by exact fun _ _ _ h => h) (by first | (refine Or.inl ⟨by rfl, ?_⟩; intro W hW; go_simp; try with_reducible rfl) | exact Or.inr ⟨by rfl, rfl⟩) ?_; try simp only [Act.put, List.setIfInBounds_toArray, List.set_cons_zero, List.set_cons_succ])
    (refine takeE (Keep.tr (· = g9)) 4 (by simp only [List.getElem?_toArray, List.getElem?_cons_succ, List.getElem?_cons_zero]; rfl) (by kernel_rfl) (by kernel_rfl) (by kernel_rfl) (by exact fun _ _ _ h => h) (by first | (refine Or.inl ⟨by rfl, ?_⟩; intro W hW; go_simp; try with_reducible rfl) | exact Or.inr ⟨by rfl, rfl⟩) ?_; try simp only [Act.put, List.setIfInBounds_toArray, List.set_cons_zero, List.set_cons_succ])
    refine wpAnyE_two (i := 5) (j := 11) (by kernel_rfl) (by simp only [List.getElem?_toArray, List.getElem?_cons_succ, List.getElem?_cons_zero]; rfl) (by simp only [List.getElem?_toArray, List.getElem?_cons_succ, List.getElem?_cons_zero]; rfl) (fun K2 hK2 => ?_) (fun K2 hK2 => ?_)
    ·
      go_simp
      refine (f_at hfc.fp _ _).mono ?_
      rintro e wr ⟨rfl, rfl⟩
      refine hK2.out _ _ ((Keep.tr _).refl _) ?_
      clear hK2 K2
      try simp only [Act.put, List.setIfInBounds_toArray, List.set_cons_zero, List.set_cons_succ]
      refine wpAnyE_two (i := 7) (j := 11) (by kernel_rfl) (by simp only [List.getElem?_toArray, List.getElem?_cons_succ, List.getElem?_cons_zero]; rfl) (by simp only [List.getElem?_toArray, List.getElem?_cons_succ, List.getElem?_cons_zero]; rfl) (fun K2 hK2 => ?_) (fun K2 hK2 => ?_)
      ·
        go_simp
        refine (hfc.put HM2.out (by omega) hqc).mono ?_
        rintro e w8 ⟨q9, F8, FF8, rfl, hk8, hf8, hs8, hg8, hr8⟩
        rw [HKh.out] at hk8 hf8 ⊢
        refine hK2.out _ _ (hs8.kp fun k hk => by rw [hk]; exact ⟨Nat.lt_of_lt_of_le HXC.out.lt hsz1, HnF.out⟩) ?_
        clear hK2 K2
        try simp only [Act.put, List.setIfInBounds_toArray, List.set_cons_zero, List.set_cons_succ]
        (refine takeE (Keep.tr (· = g9)) 8 (by simp only [List.getElem?_toArray, List.getElem?_cons_succ, List.getElem?_cons_zero]; rfl) (by kernel_rfl) (by kernel_rfl) (by kernel_rfl) (by exact fun _ _ _ h => h) (by first | (refine Or.inl ⟨by rfl, ?_⟩; intro W hW; go_simp; try with_reducible rfl) | exact Or.inr ⟨by rfl, rfl⟩) ?_; try simp only [Act.put, List.setIfInBounds_toArray, List.set_cons_zero, List.set_cons_succ])
        (refine takeE (Keep.tr (· = g9)) 9 (by simp only [List.getElem?_toArray, List.getElem?_cons_succ, List.getElem?_cons_zero]; rfl) (by kernel_rfl) (by kernel_rfl) (by kernel_rfl) (by exact fun _ _ _ h => h) (by first | (refine Or.inl ⟨by rfl, ?_⟩; intro W hW; go_simp; try with_reducible rfl) | exact Or.inr ⟨by rfl, rfl⟩) ?_; try simp only [Act.put, List.setIfInBounds_toArray, List.set_cons_zero, List.set_cons_succ])
        (refine takeE (Keep.tr (· = g9)) 10 (by simp only [List.getElem?_toArray, List.getElem?_cons_succ, List.getElem?_cons_zero]; rfl) (by kernel_rfl) (by kernel_rfl) (by kernel_rfl) (by exact fun _ _ _ h => h) (by first | (refine Or.inl ⟨by rfl, ?_⟩; intro W hW; go_simp; try with_reducible rfl) | exact Or.inr ⟨by rfl, rfl⟩) ?_; try simp only [Act.put, List.setIfInBounds_toArray, List.set_cons_zero, List.set_cons_succ])
        refine wpAnyE_one (i := 11) (by kernel_rfl) (by simp only [List.getElem?_toArray, List.getElem?_cons_succ, List.getElem?_cons_zero]; rfl) (fun K2 hK2 => ?_)
        go_simp
        have hba := (Below.refl w8.heap.size w8).alloc (Nat.le_refl _) (.cells (List.toArray [.int .i64 0, .int .i64 0, .int .i64 0, .int .i64 0, .int .i64 0, .int .i64 0, .int .i64 0, .int .i64 0, .slice none 0 0]) 65)
        have hz8 := Bk.new w8 65 [.int .i64 0, .int .i64 0, .int .i64 0, .int .i64 0, .int .i64 0, .int .i64 0, .int .i64 0, .int .i64 0, .slice none 0 0]
        refine hK2.out _ _ (Keep.below hba (fun k hk => by rw [hk]; exact Nat.lt_of_lt_of_le HXC.out.lt hs8.size)) ?_
        clear hK2 K2
        try simp only [Act.put, List.setIfInBounds_toArray, List.set_cons_zero, List.set_cons_succ]
        (refine takeE (Keep.tr (· = g9)) 12 (by simp only [List.getElem?_toArray, List.getElem?_cons_succ, List.getElem?_cons_zero]; rfl) (by kernel_rfl) (by kernel_rfl) (by kernel_rfl) (by exact fun _ _ _ h => h) (by first | (refine Or.inl ⟨by rfl, ?_⟩; intro W hW; go_simp; try with_reducible rfl) | exact Or.inr ⟨by rfl, rfl⟩) ?_; try simp only [Act.put, List.setIfInBounds_toArray, List.set_cons_zero, List.set_cons_succ])
        refine wpAnyE_one (i := 13) (by kernel_rfl) (by simp only [List.getElem?_toArray, List.getElem?_cons_succ, List.getElem?_cons_zero]; rfl) (fun K2 hK2 => ?_)
        refine opwp_put_pk rowP rfl (.tmp 8) (.tmp 33) rfl _ rfl hz8 (by rfl) q9 rfl ?_
        intro w9 hzz hww
        have hin := into_after hf8 hs8 hg8 hr8 hww hzz
        refine hK2.out _ _ (Keep.setW hww (fun k hk => by rw [hk]; exact ⟨Nat.lt_of_lt_of_le HXC.out.lt (Nat.le_trans hs8.size hba.size), fun e => by have := HXC.out.lt; have := hs8.size; omega⟩)) ?_
        clear hK2 K2
        try simp only [Act.put, List.setIfInBounds_toArray, List.set_cons_zero, List.set_cons_succ]
        refine wpAnyE_done (by kernel_rfl) ?_ _
        try clear hba
        try clear hz
        try clear hgF
        try clear hqc hfc hs8 hg8 hf8 hr8 hz8 hzz hww
        clear k2 k4 hsz1
        obtain ⟨FA, FFA, hfA, hsA, hgA, hrA, hzA, hleA, hnA⟩ := hin
        have HE : Hid (FDid F X w b ((m.into q.pk).into (m.iout q.pk)) pp w9) := Lib.hid ⟨FA, FFA, hfA.less fun k hk => .inl (.inl (.inl hk)), HS9.out.trans hsA HG9.out, HG9.out.trans hgA HS9.out.size⟩
        clear hfA hsA hgA hrA hzA hleA hnA
        by_cases hv2 : (m.into q.pk).ivd (m.iout q.pk) = 1
        · rw [hv2]
          go_wp2
          go_ret
          exact ⟨by unfold FM.pv3; rw [if_pos hv2]; rfl, HE.out⟩
        · have hv3 : ¬ (((m.into q.pk).ivd (m.iout q.pk) : Nat) : Int) = 1 := by omega
          go_wp2
          go_ret
          exact ⟨by unfold FM.pv3; rw [if_neg hv2]; rfl, HE.out⟩
      ·
        go_simp
        have hba := (Below.refl we.heap.size we).alloc (Nat.le_refl _) (.cells (List.toArray [.int .i64 0, .int .i64 0, .int .i64 0, .int .i64 0, .int .i64 0, .int .i64 0, .int .i64 0, .int .i64 0, .slice none 0 0]) 65)
        have hz := Bk.new we 65 [.int .i64 0, .int .i64 0, .int .i64 0, .int .i64 0, .int .i64 0, .int .i64 0, .int .i64 0, .int .i64 0, .slice none 0 0]
        replace hsz1 := hba.size
        replace hfc := hfc.box (g := we.heap.size) hba (Nat.le_refl _) (by simp)
        replace hqc := hqc.below hba
        refine hK2.out _ _ (Keep.below hba (fun k hk => by rw [hk]; exact HXC.out.lt)) ?_
        clear hK2 K2
        try simp only [Act.put, List.setIfInBounds_toArray, List.set_cons_zero, List.set_cons_succ]
        refine wpAnyE_one (i := 7) (by kernel_rfl) (by simp only [List.getElem?_toArray, List.getElem?_cons_succ, List.getElem?_cons_zero]; rfl) (fun K2 hK2 => ?_)
        go_simp
        refine (hfc.put HM2.out (by omega) hqc).mono ?_
        rintro e w8 ⟨q9, F8, FF8, rfl, hk8, hf8, hs8, hg8, hr8⟩
        rw [HKh.out] at hk8 hf8 ⊢
        have hz8 := hz.st hs8 hgF
        refine hK2.out _ _ (hs8.kp fun k hk => by rw [hk]; exact ⟨Nat.lt_of_lt_of_le HXC.out.lt hsz1, HnF.out⟩) ?_
        clear hK2 K2
        try simp only [Act.put, List.setIfInBounds_toArray, List.set_cons_zero, List.set_cons_succ]
        (refine takeE (Keep.tr (· = g9)) 8 (by simp only [List.getElem?_toArray, List.getElem?_cons_succ, List.getElem?_cons_zero]; rfl) (by kernel_rfl) (by kernel_rfl) (by kernel_rfl) (by exact fun _ _ _ h => h) (by first | (refine Or.inl ⟨by rfl, ?_⟩; intro W hW; go_simp; try with_reducible rfl) | exact Or.inr ⟨by rfl, rfl⟩) ?_; try simp only [Act.put, List.setIfInBounds_toArray, List.set_cons_zero, List.set_cons_succ])
        (refine takeE (Keep.tr (· = g9)) 9 (by simp only [List.getElem?_toArray, List.getElem?_cons_succ, List.getElem?_cons_zero]; rfl) (by kernel_rfl) (by kernel_rfl) (by kernel_rfl) (by exact fun _ _ _ h => h) (by first | (refine Or.inl ⟨by rfl, ?_⟩; intro W hW; go_simp; try with_reducible rfl) | exact Or.inr ⟨by rfl, rfl⟩) ?_; try simp only [Act.put, List.setIfInBounds_toArray, List.set_cons_zero, List.set_cons_succ])
        (refine takeE (Keep.tr (· = g9)) 10 (by simp only [List.getElem?_toArray, List.getElem?_cons_succ, List.getElem?_cons_zero]; rfl) (by kernel_rfl) (by kernel_rfl) (by kernel_rfl) (by exact fun _ _ _ h => h) (by first | (refine Or.inl ⟨by rfl, ?_⟩; intro W hW; go_simp; try with_reducible rfl) | exact Or.inr ⟨by rfl, rfl⟩) ?_; try simp only [Act.put, List.setIfInBounds_toArray, List.set_cons_zero, List.set_cons_succ])
        (refine takeE (Keep.tr (· = g9)) 12 (by simp only [List.getElem?_toArray, List.getElem?_cons_succ, List.getElem?_cons_zero]; rfl) (by kernel_rfl) (by kernel_rfl) (by kernel_rfl) (by exact fun _ _ _ h => h) (by first | (refine Or.inl ⟨by rfl, ?_⟩; intro W hW; go_simp; try with_reducible rfl) | exact Or.inr ⟨by rfl, rfl⟩) ?_; try simp only [Act.put, List.setIfInBounds_toArray, List.set_cons_zero, List.set_cons_succ])
        refine wpAnyE_one (i := 13) (by kernel_rfl) (by simp only [List.getElem?_toArray, List.getElem?_cons_succ, List.getElem?_cons_zero]; rfl) (fun K2 hK2 => ?_)
        refine opwp_put_pk rowP rfl (.tmp 8) (.tmp 33) rfl _ rfl hz8 (by rfl) q9 rfl ?_
        intro w9 hzz hww
        have hin := into_before HFD.out hf8 hs8 hg8 hr8 hww hzz
        refine hK2.out _ _ (Keep.setW hww (fun k hk => by rw [hk]; exact ⟨Nat.lt_of_lt_of_le HXC.out.lt (Nat.le_trans hba.size hs8.size), fun e => by have := HXC.out.lt; omega⟩)) ?_
        clear hK2 K2
        try simp only [Act.put, List.setIfInBounds_toArray, List.set_cons_zero, List.set_cons_succ]
        refine wpAnyE_done (by kernel_rfl) ?_ _
        try clear hba
        try clear hz
        try clear hgF
        try clear hqc hfc hs8 hg8 hf8 hr8 hz8 hzz hww
        clear k2 k4 hsz1
        obtain ⟨FA, FFA, hfA, hsA, hgA, hrA, hzA, hleA, hnA⟩ := hin
        have HE : Hid (FDid F X w b ((m.into q.pk).into (m.iout q.pk)) pp w9) := Lib.hid ⟨FA, FFA, hfA.less fun k hk => .inl (.inl (.inl hk)), HS9.out.trans hsA HG9.out, HG9.out.trans hgA HS9.out.size⟩
        clear hfA hsA hgA hrA hzA hleA hnA
        by_cases hv2 : (m.into q.pk).ivd (m.iout q.pk) = 1
        · rw [hv2]
          go_wp2
          go_ret
          exact ⟨by unfold FM.pv3; rw [if_pos hv2]; rfl, HE.out⟩
        · have hv3 : ¬ (((m.into q.pk).ivd (m.iout q.pk) : Nat) : Int) = 1 := by omega
          go_wp2
          go_ret
          exact ⟨by unfold FM.pv3; rw [if_neg hv2]; rfl, HE.out⟩
    ·
      go_simp
      have hba := (Below.refl we.heap.size we).alloc (Nat.le_refl _) (.cells (List.toArray [.int .i64 0, .int .i64 0, .int .i64 0, .int .i64 0, .int .i64 0, .int .i64 0, .int .i64 0, .int .i64 0, .slice none 0 0]) 65)
      have hz := Bk.new we 65 [.int .i64 0, .int .i64 0, .int .i64 0, .int .i64 0, .int .i64 0, .int .i64 0, .int .i64 0, .int .i64 0, .slice none 0 0]
      replace hsz1 := hba.size
      replace hfc := hfc.box (g := we.heap.size) hba (Nat.le_refl _) (by simp)
      replace hqc := hqc.below hba
      refine hK2.out _ _ (Keep.below hba (fun k hk => by rw [hk]; exact HXC.out.lt)) ?_
      clear hK2 K2
      try simp only [Act.put, List.setIfInBounds_toArray, List.set_cons_zero, List.set_cons_succ]
      refine wpAnyE_one (i := 5) (by kernel_rfl) (by simp only [List.getElem?_toArray, List.getElem?_cons_succ, List.getElem?_cons_zero]; rfl) (fun K2 hK2 => ?_)
      go_simp
      refine (f_at hfc.fp _ _).mono ?_
      rintro e wr ⟨rfl, rfl⟩
      refine hK2.out _ _ ((Keep.tr _).refl _) ?_
      clear hK2 K2
      try simp only [Act.put, List.setIfInBounds_toArray, List.set_cons_zero, List.set_cons_succ]
      refine wpAnyE_one (i := 7) (by kernel_rfl) (by simp only [List.getElem?_toArray, List.getElem?_cons_succ, List.getElem?_cons_zero]; rfl) (fun K2 hK2 => ?_)
      go_simp
      refine (hfc.put HM2.out (by omega) hqc).mono ?_
      rintro e w8 ⟨q9, F8, FF8, rfl, hk8, hf8, hs8, hg8, hr8⟩
      rw [HKh.out] at hk8 hf8 ⊢
      have hz8 := hz.st hs8 hgF
      refine hK2.out _ _ (hs8.kp fun k hk => by rw [hk]; exact ⟨Nat.lt_of_lt_of_le HXC.out.lt hsz1, HnF.out⟩) ?_
      clear hK2 K2
      try simp only [Act.put, List.setIfInBounds_toArray, List.set_cons_zero, List.set_cons_succ]
      (refine takeE (Keep.tr (· = g9)) 8 (by simp only [List.getElem?_toArray, List.getElem?_cons_succ, List.getElem?_cons_zero]; rfl) (by kernel_rfl) (by kernel_rfl) (by kernel_rfl) (by exact fun _ _ _ h => h) (by first | (refine Or.inl ⟨by rfl, ?_⟩; intro W hW; go_simp; try with_reducible rfl) | exact Or.inr ⟨by rfl, rfl⟩) ?_; try simp only [Act.put, List.setIfInBounds_toArray, List.set_cons_zero, List.set_cons_succ])
      (refine takeE (Keep.tr (· = g9)) 9 (by simp only [List.getElem?_toArray, List.getElem?_cons_succ, List.getElem?_cons_zero]; rfl) (by kernel_rfl) (by kernel_rfl) (by kernel_rfl) (by exact fun _ _ _ h => h) (by first | (refine Or.inl ⟨by rfl, ?_⟩; intro W hW; go_simp; try with_reducible rfl) | exact Or.inr ⟨by rfl, rfl⟩) ?_; try simp only [Act.put, List.setIfInBounds_toArray, List.set_cons_zero, List.set_cons_succ])
      (refine takeE (Keep.tr (· = g9)) 10 (by simp only [List.getElem?_toArray, List.getElem?_cons_succ, List.getElem?_cons_zero]; rfl) (by kernel_rfl) (by kernel_rfl) (by kernel_rfl) (by exact fun _ _ _ h => h) (by first | (refine Or.inl ⟨by rfl, ?_⟩; intro W hW; go_simp; try with_reducible rfl) | exact Or.inr ⟨by rfl, rfl⟩) ?_; try simp only [Act.put, List.setIfInBounds_toArray, List.set_cons_zero, List.set_cons_succ])
      (refine takeE (Keep.tr (· = g9)) 12 (by simp only [List.getElem?_toArray, List.getElem?_cons_succ, List.getElem?_cons_zero]; rfl) (by kernel_rfl) (by kernel_rfl) (by kernel_rfl) (by exact fun _ _ _ h => h) (by first | (refine Or.inl ⟨by rfl, ?_⟩; intro W hW; go_simp; try with_reducible rfl) | exact Or.inr ⟨by rfl, rfl⟩) ?_; try simp only [Act.put, List.setIfInBounds_toArray, List.set_cons_zero, List.set_cons_succ])
      refine wpAnyE_one (i := 13) (by kernel_rfl) (by simp only [List.getElem?_toArray, List.getElem?_cons_succ, List.getElem?_cons_zero]; rfl) (fun K2 hK2 => ?_)
      refine opwp_put_pk rowP rfl (.tmp 8) (.tmp 33) rfl _ rfl hz8 (by rfl) q9 rfl ?_
      intro w9 hzz hww
      have hin := into_before HFD.out hf8 hs8 hg8 hr8 hww hzz
      refine hK2.out _ _ (Keep.setW hww (fun k hk => by rw [hk]; exact ⟨Nat.lt_of_lt_of_le HXC.out.lt (Nat.le_trans hba.size hs8.size), fun e => by have := HXC.out.lt; omega⟩)) ?_
      clear hK2 K2
      try simp only [Act.put, List.setIfInBounds_toArray, List.set_cons_zero, List.set_cons_succ]
      refine wpAnyE_done (by kernel_rfl) ?_ _
      try clear hba
      try clear hz
      try clear hgF
      try clear hqc hfc hs8 hg8 hf8 hr8 hz8 hzz hww
      clear k2 k4 hsz1
      obtain ⟨FA, FFA, hfA, hsA, hgA, hrA, hzA, hleA, hnA⟩ := hin
      have HE : Hid (FDid F X w b ((m.into q.pk).into (m.iout q.pk)) pp w9) := Lib.hid ⟨FA, FFA, hfA.less fun k hk => .inl (.inl (.inl hk)), HS9.out.trans hsA HG9.out, HG9.out.trans hgA HS9.out.size⟩
      clear hfA hsA hgA hrA hzA hleA hnA
      by_cases hv2 : (m.into q.pk).ivd (m.iout q.pk) = 1
      · rw [hv2]
        go_wp2
        go_ret
        exact ⟨by unfold FM.pv3; rw [if_pos hv2]; rfl, HE.out⟩
      · have hv3 : ¬ (((m.into q.pk).ivd (m.iout q.pk) : Nat) : Int) = 1 := by omega
        go_wp2
        go_ret
        exact ⟨by unfold FM.pv3; rw [if_neg hv2]; rfl, HE.out⟩
/-- What becomes of one packet. -/
theorem f_put (h : FbC F X w b m pp FF) (hM : FMb m L H B) (hB : B + 2 ≤ 1000000) {q : Pv} (hq : PvR F w q) :
    Calls Try.prog 31 #[.pointer (some ⟨b, 0, none⟩), .agg #[.int .i64 q.h.kd, .int .i64 q.h.fl, .int .i64 q.h.pa, .int .i64 q.h.sr, .int .i64 q.h.ds, .int .i64 q.h.cn, .int .i64 q.h.sq, .int .i64 q.h.pu, .slice q.A q.n q.c]] w fun e w' => e = .returned (.int .i64 (m.pvd q.pk)) ∧ FDid F X w b (m.pnx q.pk) pp w' := by
  unfold FM.pvd FM.pnx
  by_cases hv : m.ivd q.pk = 3
  · rw [if_pos hv, if_pos hv]
    exact f_put3 h hM hB hq hv
  · rw [if_neg hv, if_neg hv]
    exact f_put1 h hM hB hq hv
end
end Go.Proofs.Ytbhhgfpliggkgaa
