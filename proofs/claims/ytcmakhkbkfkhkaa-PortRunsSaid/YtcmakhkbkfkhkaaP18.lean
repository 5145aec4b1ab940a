/- The reference: a packet is put, case by case. -/
import Derived.Test.YtcmakhkbkfkhkaaP17
set_option linter.unusedSimpArgs false
set_option linter.unusedVariables false
namespace Go.Proofs.Ytcmakhkbkfkhkaa
open Go.RowKit Go.Shelf

theorem SlP.mono {F F' : Nat → Prop} {w : World} {A : Option Addr} {n c : Nat} {ks : List Pk} (h : SlP F w A n c ks) (hF : ∀ k, F' k → F k) : SlP F' w A n c ks := by
  obtain ⟨qs, h1, h2, h3, h4, h5⟩ := h
  exact ⟨qs, h1, h2, h3, fun q hq => (h4 q hq).mono hF, fun hn ad he hf => h5 hn ad he (hF _ hf)⟩
theorem RpR.mono {F F' : Nat → Prop} {w : World} {r : RV} {m : AM} (h : RpR F w r m) (hF : ∀ k, F' k → F k) : RpR F' w r m := ⟨h.lo.mono hF, h.hi.mono hF⟩
/-- F, and four boxes behind w. -/
def Bx (F : Nat → Prop) (w : World) (k : Nat) : Prop := F k ∨ (w.heap.size ≤ k ∧ k ≤ w.heap.size + 3)
theorem Bx.gr (F : Nat → Prop) (w : World) : Gr F (Bx F w) w.heap.size := fun k hk => hk.imp id And.left
/-- Where the call stands: its boxes, and what they hold. -/
structure RS (F : Nat → Prop) (w W : World) (r : RV) (m : AM) (q : Pv) : Prop where
  b2 : Bk W 30 w.heap.size (r.cl m)
  b3 : Bk W 37 (w.heap.size + 1) q.cl
  b4 : Bk W 30 (w.heap.size + 2) [.slice none 0 0, .slice none 0 0, .int .i64 0, .int .i64 0, .int .i64 0, .int .i64 0, .int .i64 0, .int .i64 0, .int .i64 0, .int .i64 0, .int .i64 0]
  b6 : Bk W 37 (w.heap.size + 3) [.int .i64 0, .int .i64 0, .int .i64 0, .int .i64 0, .int .i64 0, .int .i64 0, .int .i64 0, .int .i64 0, .slice none 0 0]
  bl : Below w.heap.size w W
  rp : RpR (Bx F w) W r m
  pv : PvR (Bx F w) W q
section
variable {F : Nat → Prop} {w W W' : World} {r : RV} {m : AM} {q : Pv}
theorem RS.bd (h : RS F w W r m q) (hF : ∀ k, F k → k < w.heap.size) : ∀ k, Bx F w k → k < W.heap.size := fun k hk => by
  have := h.b6.lt
  have := h.bl.size
  rcases hk with hk | hk
  · have := hF k hk; omega
  · omega
theorem RS.below (h : RS F w W r m q) (hb : Below W.heap.size W W') : RS F w W' r m q :=
  ⟨h.b2.below hb, h.b3.below hb, h.b4.below hb, h.b6.below hb, below_on h.bl hb, h.rp.below hb, h.pv.below hb⟩
theorem wr_bx {F : Nat → Prop} {g : Nat} (hg : w.heap.size ≤ g ∧ g ≤ w.heap.size + 3) (hw : Wr g W W') : St (Bx F w) W W' :=
  ⟨hw.os, hw.tape, hw.output, hw.size, fun k hk hn => hw.block k hk fun e => hn (.inr (by injection e with e; omega))⟩
/-- Another packet is laid into the third box. -/
theorem RS.pack (h : RS F w W r m q) {q1 : Pv} (h1 : PvR (Bx F w) W q1) (hb : Bk W' 37 (w.heap.size + 1) q1.cl) (hw : Wr (w.heap.size + 1) W W') : RS F w W' r m q1 := by
  have hs := wr_bx (F := F) (w := w) (by omega) hw
  exact ⟨h.b2.wr hw (by omega), hb, h.b4.wr hw (by omega), h.b6.wr hw (by omega), h.bl.trans (hw.below (by omega) h.bl.size), h.rp.st hs (Gr.refl _ _), h1.st hs (Gr.refl _ _)⟩
theorem RS.low (h : RS F w W r m q) {A : Option Addr} {n c : Nat} {ks : List Pk} (hs : SlP (Bx F w) W A n c ks) : RS F w (W.setCell ⟨w.heap.size, 0, none⟩ (.slice A n c)) ⟨A, n, c, r.a2, r.n2, r.c2⟩ (m.put false ks) q := by
  have hw := Wr.set W w.heap.size 0 (.slice A n c)
  have hst := wr_bx (F := F) (w := w) (by omega) hw
  exact ⟨h.b2.set 0 _, h.b3.wr hw (by omega), h.b4.wr hw (by omega), h.b6.wr hw (by omega), h.bl.trans (hw.below (Nat.le_refl _) h.bl.size), ⟨hs.st hst (Gr.refl _ _), h.rp.hi.st hst (Gr.refl _ _)⟩, h.pv.st hst (Gr.refl _ _)⟩
theorem RS.high (h : RS F w W r m q) {A : Option Addr} {n c : Nat} {ks : List Pk} (hs : SlP (Bx F w) W A n c ks) : RS F w (W.setCell ⟨w.heap.size, 1, none⟩ (.slice A n c)) ⟨r.a1, r.n1, r.c1, A, n, c⟩ (m.put true ks) q := by
  have hw := Wr.set W w.heap.size 1 (.slice A n c)
  have hst := wr_bx (F := F) (w := w) (by omega) hw
  exact ⟨h.b2.set 1 _, h.b3.wr hw (by omega), h.b4.wr hw (by omega), h.b6.wr hw (by omega), h.bl.trans (hw.below (Nat.le_refl _) h.bl.size), ⟨h.rp.lo.st hst (Gr.refl _ _), hs.st hst (Gr.refl _ _)⟩, h.pv.st hst (Gr.refl _ _)⟩
/-- What the call tells. -/
def RPutTo (F : Nat → Prop) (w : World) (m' : AM) (v : Nat) (x : Pk) (e : Ending) (w' : World) : Prop :=
  ∃ r' q', e = .returned (.tuple #[.agg #[.slice r'.a1 r'.n1 r'.c1, .slice r'.a2 r'.n2 r'.c2, .int .i64 m'.lr, .int .i64 m'.hr, .int .i64 m'.wt, .int .i64 m'.run, .int .i64 (m'.ct 0), .int .i64 (m'.ct 1), .int .i64 (m'.ct 2), .int .i64 (m'.ct 3), .int .i64 (m'.ct 4)], .int .i64 v, .agg #[.int .i64 q'.h.kd, .int .i64 q'.h.fl, .int .i64 q'.h.pa, .int .i64 q'.h.sr, .int .i64 q'.h.ds, .int .i64 q'.h.cn, .int .i64 q'.h.sq, .int .i64 q'.h.pu, .slice q'.A q'.n q'.c]]) ∧ RpR F w' r' m' ∧ q'.pk = x ∧ PvR F w' q' ∧ Below w.heap.size w w'
theorem RPutTo.of {m' : AM} {v : Nat} {x : Pk} {q' : Pv} {e : Ending} {W5 W6 : World} (h : RS F w W r m q) (hq' : PvR (Bx F w) W q') (h5 : Wr (w.heap.size + 2) W W5) (h6 : Wr (w.heap.size + 3) W5 W6)
    (he : e = .returned (.tuple #[.agg #[.slice r.a1 r.n1 r.c1, .slice r.a2 r.n2 r.c2, .int .i64 m.lr, .int .i64 m.hr, .int .i64 m.wt, .int .i64 m.run, .int .i64 (m.ct 0), .int .i64 (m.ct 1), .int .i64 (m.ct 2), .int .i64 (m.ct 3), .int .i64 (m.ct 4)], .int .i64 v, .agg #[.int .i64 q'.h.kd, .int .i64 q'.h.fl, .int .i64 q'.h.pa, .int .i64 q'.h.sr, .int .i64 q'.h.ds, .int .i64 q'.h.cn, .int .i64 q'.h.sq, .int .i64 q'.h.pu, .slice q'.A q'.n q'.c]])) (hm : m' = m) (hx : q'.pk = x) : RPutTo F w m' v x e W6 := by
  subst hm
  have hs := (wr_bx (F := F) (w := w) (by omega) h5).trans (wr_bx (F := F) (w := w) (by omega) h6) (Gr.refl _ _)
  exact ⟨r, q', he, (h.rp.st hs (Gr.refl _ _)).mono fun k hk => .inl hk, hx, (hq'.st hs (Gr.refl _ _)).mono fun k hk => .inl hk, (h.bl.trans (h5.below (by omega) h.bl.size)).trans (h6.below (by omega) (Nat.le_trans h.bl.size h5.size))⟩
theorem RS.new {q : Pv} {w1 : World} (hr : RpR F w r m) (hq : PvR F w q) (hb : Below ((((w.alloc (.cells (r.cl m).toArray 30)).alloc (.cells q.cl.toArray 37)).alloc (.cells (List.toArray [.slice none 0 0, .slice none 0 0, .int .i64 0, .int .i64 0, .int .i64 0, .int .i64 0, .int .i64 0, .int .i64 0, .int .i64 0, .int .i64 0, .int .i64 0]) 30)).alloc (.cells (List.toArray [.int .i64 0, .int .i64 0, .int .i64 0, .int .i64 0, .int .i64 0, .int .i64 0, .int .i64 0, .int .i64 0, .slice none 0 0]) 37)).heap.size
    ((((w.alloc (.cells (r.cl m).toArray 30)).alloc (.cells q.cl.toArray 37)).alloc (.cells (List.toArray [.slice none 0 0, .slice none 0 0, .int .i64 0, .int .i64 0, .int .i64 0, .int .i64 0, .int .i64 0, .int .i64 0, .int .i64 0, .int .i64 0, .int .i64 0]) 30)).alloc (.cells (List.toArray [.int .i64 0, .int .i64 0, .int .i64 0, .int .i64 0, .int .i64 0, .int .i64 0, .int .i64 0, .int .i64 0, .slice none 0 0]) 37)) w1) : RS F w w1 r m q := by
  obtain ⟨h2, h3, h4, h6, hc⟩ := new4 hb
  exact ⟨h2, h3, h4, h6, hc, (hr.st (St.refl F w) (Bx.gr F w)).below hc, (hq.gr (Bx.gr F w)).below hc⟩
theorem base1 {m : AM} {x : Pk} (hv : m.vd x = 1) : m.base x = m.put (!x.heavy) (m.sel (!x.heavy) ++ [x]) ∧ m.out x = x := by
  unfold AM.base AM.out; rw [if_pos hv, if_pos hv]; exact ⟨rfl, rfl⟩
theorem base2 {m : AM} {x : Pk} (hv : m.vd x = 2) : m.base x = m.put true (m.high ++ [x.trim]) ∧ m.out x = x.trim := by
  unfold AM.base AM.out; rw [if_neg (by omega), if_pos hv, if_neg (by omega), if_pos hv]; exact ⟨rfl, rfl⟩
theorem base3 {m : AM} {x : Pk} (hv : m.vd x = 3) : m.base x = m ∧ m.out x = x.ret := by
  unfold AM.base AM.out; rw [if_neg (by omega), if_neg (by omega), if_neg (by omega), if_neg (by omega), if_pos hv]; exact ⟨rfl, rfl⟩
theorem base4 {m : AM} {x : Pk} (hv : m.vd x = 4) : m.base x = m ∧ m.out x = Pk.zero := by
  unfold AM.base AM.out; rw [if_neg (by omega), if_neg (by omega), if_neg (by omega), if_neg (by omega), if_neg (by omega)]; exact ⟨rfl, rfl⟩
set_option maxHeartbeats 4000000 in
set_option maxRecDepth 100000 in
theorem r_putA (h : RpR F w r m) (hq : PvR F w q) (hF : ∀ k, F k → k < w.heap.size) (hc : q.pk.chk = false) :
    Calls Try.prog 41 #[.agg #[.slice r.a1 r.n1 r.c1, .slice r.a2 r.n2 r.c2, .int .i64 m.lr, .int .i64 m.hr, .int .i64 m.wt, .int .i64 m.run, .int .i64 (m.ct 0), .int .i64 (m.ct 1), .int .i64 (m.ct 2), .int .i64 (m.ct 3), .int .i64 (m.ct 4)], .agg #[.int .i64 q.h.kd, .int .i64 q.h.fl, .int .i64 q.h.pa, .int .i64 q.h.sr, .int .i64 q.h.ds, .int .i64 q.h.cn, .int .i64 q.h.sq, .int .i64 q.h.pu, .slice q.A q.n q.c]] w (RPutTo F w (m.base q.pk) (m.vd q.pk) (m.out q.pk)) := by
  have hv : m.vd q.pk = 4 := by unfold AM.vd; rw [if_pos hc]
  rw [hv, (base4 hv).2]
  have HI : Hid (∀ o o' o2 o3, Calls Try.prog 54 #[.agg #[.int .i64 q.h.kd, .int .i64 q.h.fl, .int .i64 q.h.pa, .int .i64 q.h.sr, .int .i64 q.h.ds, .int .i64 q.h.cn, .int .i64 q.h.sq, .int .i64 q.h.pu, .slice q.A q.n q.c]] ((((w.alloc o).alloc o').alloc o2).alloc o3) fun e w' => e = .returned (.bool false) ∧ Below ((((w.alloc o).alloc o').alloc o2).alloc o3).heap.size ((((w.alloc o).alloc o').alloc o2).alloc o3) w') := Lib.hid fun o o' o2 o3 => by
    have := r_is (hq.below (((((Below.refl w.heap.size w).alloc (Nat.le_refl _) o).alloc (by simp) o').alloc (by simp; omega) o2).alloc (by simp; omega) o3))
    rw [hc] at this; exact this
  have HR := Lib.hid h
  have HQ := Lib.hid hq
  have HBs := Lib.hid (base4 hv).1
  clear h hq hc hv
  go_enter Try.func41, Try.ntmps41
  go_wp2_with fail
  refine (HI.out _ _ _ _).mono ?_
  rintro e w1 ⟨rfl, hb1⟩
  have HS := Lib.hid (RS.new HR.out HQ.out hb1)
  have h2 := HS.out.b2
  have h4 := HS.out.b4
  have h6 := HS.out.b6
  clear hb1 HR HQ HI
  go_wp2_with (first
    | (with_reducible refine at_load 30 (.tmp 2) (by rfl) ?_; refine wpList_load_rp rowR rfl (.tmp 2) rfl r m w.heap.size rfl h2 ?_)
    | (with_reducible refine at_store 30 (.tmp 4) (.tmp 12) (by rfl) ?_; refine wpList_put_rp rowR rfl (.tmp 4) (.tmp 12) rfl (w.heap.size + 2) rfl h4 rfl r m rfl ?_; rintro w5 h45 hw5; have h65 := h6.wr hw5 (by omega))
    | (with_reducible refine at_store 37 (.tmp 6) (.tmp 13) (by rfl) ?_; refine wpList_put_pk rowP rfl (.tmp 6) (.tmp 13) rfl (w.heap.size + 3) rfl h65 rfl zPv rfl ?_; rintro w6 h66 hw6; have h46 := h45.wr hw6 (by omega)))
  exact bodyPost_ret (results_ctc rfl rfl rfl (rowR.load h46 0 (r.cl_len m) rfl) (load_pk rowP h66)) rfl (RPutTo.of HS.out (PvR.zero _ _) hw5 hw6 (by kernel_rfl) HBs.out rfl)
end
end Go.Proofs.Ytcmakhkbkfkhkaa
