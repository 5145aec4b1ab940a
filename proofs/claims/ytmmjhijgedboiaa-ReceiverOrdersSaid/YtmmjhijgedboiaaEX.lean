/- The reference takes a packet. -/
import Derived.Test.YtmmjhijgedboiaaE21
set_option linter.unusedSimpArgs false
set_option linter.unusedVariables false
set_option maxRecDepth 100000
namespace Go.Proofs.Ytmmjhijgedboiaa
open Go.RowKit Go.Shelf
theorem results_cell_tmp2 {P : Program} {w : World} {ty : TypeId} {fn : Func} {s u1 u2 : Tmp} (h : fn.results = #[.cell s ty, .tmp u1, .tmp u2]) {tmps : Array Value} {a : Addr} (ha : tmps.getD s undef = .pointer (some a)) {v : Value} (hl : (loadVar ty a).run P w = .ok v w) :
    (results fn tmps).run P w = .ok (.tuple #[v, tmps.getD u1 undef, tmps.getD u2 undef]) w := by
  rw [Array.getD_eq_getD_getElem?] at ha
  simp [results, h, ha, asAddr_some, hl]
def Zr.row (z : Zr) (A : Option Addr) (n c : Nat) : Zr := { z with A := A, n := n, c := c }
def RTk (F : Nat → Prop) (w : World) (m : Rm) (p : Pk) (en : Ending) (w' : World) : Prop :=
  ∃ z A n c B k d, en = .returned (.tuple #[.agg #[.int .i64 z.c0, .int .i64 (m.take p).pa, .int .i64 z.c2, .int .i64 z.c3, .int .i64 (m.take p).size, .int .i64 z.c5, .int .i64 z.c6, .int .i64 z.c7, .int .i64 z.c8, .int .i64 z.c9, .int .i64 z.c10, .int .i64 z.c11, .int .i64 z.c12, .int .i64 z.c13, .int .i64 (m.take p).sr, .int .i64 (m.take p).ds, .int .i64 (m.take p).cn, .int .i64 (m.take p).cl, .int .i64 (m.take p).base, .slice z.A z.n z.c, .slice z.J z.jn z.jc, .int .i64 (m.take p).jm.ps.length, .int .i64 (m.take p).jm.N, .int .i64 (m.take p).jm.T, .int .i64 (m.take p).ar, .int .i64 (m.take p).pl, .int .i64 (m.take p).pd, .bool (m.take p).dn], .slice A n c, .slice B k d]) ∧ RfR F w' z (m.take p) ∧ SlP F w' A n c (m.ans p) ∧ SlT w' B k d (m.told p) ∧ Below w.heap.size w w'
theorem SlT.nil (w : World) : SlT w none 0 0 [] := ⟨[], ⟨by simp, Nat.le_refl _, Nat.zero_le _, fun _ => rfl, by simp, fun h => absurd h (by omega)⟩, fun h => absurd h (by omega), rfl, by simp⟩
theorem SlT.stS {w w' : World} {A : Option Addr} {n c : Nat} {ms : List (List Int)} {G : Nat → Prop} (h : SlT w A n c ms) (hs : St G w w') (hG : ∀ x, G x → ¬ Tyd 5 w x ∧ ¬ Tyd 30 w x) : SlT w' A n c ms := by
  obtain ⟨bs, h1, ht, h2, h3⟩ := h
  refine ⟨bs, h1.st hs fun hn ad he hg => (hG _ hg).2 (ht hn ad he), fun hn ad he => ?_, h2, fun b hb => (h3 b hb).stT hs fun x hx => (hG x hx).1⟩
  obtain ⟨cur, fz, hh⟩ := ht hn ad he
  have hl := (Array.getElem?_eq_some_iff.1 hh).1
  exact ⟨cur, fz, (hs.block _ hl (fun hg => (hG _ hg).2 ⟨cur, fz, hh⟩)).trans hh⟩
theorem SlT.below {w w' : World} {A : Option Addr} {n c : Nat} {ms : List (List Int)} (h : SlT w A n c ms) (hb : Below w.heap.size w w') : SlT w' A n c ms := h.stS (G := fun _ => False) (St.ext hb) (fun _ h => h.elim)
section
variable {F : Nat → Prop} {w w' : World} {m : Rm} {z : Zr}
set_option maxHeartbeats 8000000 in
theorem r_take_no1 (h : RfR F w z m) (q : Pv) (hq : PvR F w q) (hF : ∀ x, F x → x < w.heap.size) (htk : q.pk.tkn = false) (hk : ¬ q.h.kd = 1) : Calls Try.prog 11 #[.agg #[.int .i64 z.c0, .int .i64 m.pa, .int .i64 z.c2, .int .i64 z.c3, .int .i64 m.size, .int .i64 z.c5, .int .i64 z.c6, .int .i64 z.c7, .int .i64 z.c8, .int .i64 z.c9, .int .i64 z.c10, .int .i64 z.c11, .int .i64 z.c12, .int .i64 z.c13, .int .i64 m.sr, .int .i64 m.ds, .int .i64 m.cn, .int .i64 m.cl, .int .i64 m.base, .slice z.A z.n z.c, .slice z.J z.jn z.jc, .int .i64 m.jm.ps.length, .int .i64 m.jm.N, .int .i64 m.jm.T, .int .i64 m.ar, .int .i64 m.pl, .int .i64 m.pd, .bool m.dn], .agg #[.int .i64 q.h.kd, .int .i64 q.h.fl, .int .i64 q.h.pa, .int .i64 q.h.sr, .int .i64 q.h.ds, .int .i64 q.h.cn, .int .i64 q.h.sq, .int .i64 q.h.pu, .slice q.A q.n q.c]] w (RTk F w m q.pk) := by
  have hfl := hq.fl
  obtain ⟨W, hW⟩ : ∃ W, W = ((w.alloc (.cells #[.int .i64 z.c0, .int .i64 m.pa, .int .i64 z.c2, .int .i64 z.c3, .int .i64 m.size, .int .i64 z.c5, .int .i64 z.c6, .int .i64 z.c7, .int .i64 z.c8, .int .i64 z.c9, .int .i64 z.c10, .int .i64 z.c11, .int .i64 z.c12, .int .i64 z.c13, .int .i64 m.sr, .int .i64 m.ds, .int .i64 m.cn, .int .i64 m.cl, .int .i64 m.base, .slice z.A z.n z.c, .slice z.J z.jn z.jc, .int .i64 m.jm.ps.length, .int .i64 m.jm.N, .int .i64 m.jm.T, .int .i64 m.ar, .int .i64 m.pl, .int .i64 m.pd, .bool m.dn] 34)).alloc (.cells #[.int .i64 q.h.kd, .int .i64 q.h.fl, .int .i64 q.h.pa, .int .i64 q.h.sr, .int .i64 q.h.ds, .int .i64 q.h.cn, .int .i64 q.h.sq, .int .i64 q.h.pu, .slice q.A q.n q.c] 40)).alloc (.cells #[.int .i64 0, .int .i64 0, .int .i64 0, .int .i64 0, .int .i64 0, .int .i64 0, .int .i64 0, .int .i64 0, .int .i64 0, .int .i64 0, .int .i64 0, .int .i64 0, .int .i64 0, .int .i64 0, .int .i64 0, .int .i64 0, .int .i64 0, .int .i64 0, .int .i64 0, .slice none 0 0, .slice none 0 0, .int .i64 0, .int .i64 0, .int .i64 0, .int .i64 0, .int .i64 0, .int .i64 0, .bool false] 34) := ⟨_, rfl⟩
  have hb1 : Below w.heap.size w W := by rw [hW]; exact (((Below.refl _ w).alloc (Nat.le_refl _) _).alloc (by simp) _).alloc (by simp; omega) _
  have z1 : Bk W 34 w.heap.size [.int .i64 z.c0, .int .i64 m.pa, .int .i64 z.c2, .int .i64 z.c3, .int .i64 m.size, .int .i64 z.c5, .int .i64 z.c6, .int .i64 z.c7, .int .i64 z.c8, .int .i64 z.c9, .int .i64 z.c10, .int .i64 z.c11, .int .i64 z.c12, .int .i64 z.c13, .int .i64 m.sr, .int .i64 m.ds, .int .i64 m.cn, .int .i64 m.cl, .int .i64 m.base, .slice z.A z.n z.c, .slice z.J z.jn z.jc, .int .i64 m.jm.ps.length, .int .i64 m.jm.N, .int .i64 m.jm.T, .int .i64 m.ar, .int .i64 m.pl, .int .i64 m.pd, .bool m.dn] := by rw [hW]; exact ((Bk.new w 34 [.int .i64 z.c0, .int .i64 m.pa, .int .i64 z.c2, .int .i64 z.c3, .int .i64 m.size, .int .i64 z.c5, .int .i64 z.c6, .int .i64 z.c7, .int .i64 z.c8, .int .i64 z.c9, .int .i64 z.c10, .int .i64 z.c11, .int .i64 z.c12, .int .i64 z.c13, .int .i64 m.sr, .int .i64 m.ds, .int .i64 m.cn, .int .i64 m.cl, .int .i64 m.base, .slice z.A z.n z.c, .slice z.J z.jn z.jc, .int .i64 m.jm.ps.length, .int .i64 m.jm.N, .int .i64 m.jm.T, .int .i64 m.ar, .int .i64 m.pl, .int .i64 m.pd, .bool m.dn]).alloc _).alloc _
  have z2 : Bk W 40 (w.heap.size + 1) q.cl := by
    have := (Bk.new (w.alloc (.cells #[.int .i64 z.c0, .int .i64 m.pa, .int .i64 z.c2, .int .i64 z.c3, .int .i64 m.size, .int .i64 z.c5, .int .i64 z.c6, .int .i64 z.c7, .int .i64 z.c8, .int .i64 z.c9, .int .i64 z.c10, .int .i64 z.c11, .int .i64 z.c12, .int .i64 z.c13, .int .i64 m.sr, .int .i64 m.ds, .int .i64 m.cn, .int .i64 m.cl, .int .i64 m.base, .slice z.A z.n z.c, .slice z.J z.jn z.jc, .int .i64 m.jm.ps.length, .int .i64 m.jm.N, .int .i64 m.jm.T, .int .i64 m.ar, .int .i64 m.pl, .int .i64 m.pd, .bool m.dn] 34)) 40 q.cl).alloc (.cells #[.int .i64 0, .int .i64 0, .int .i64 0, .int .i64 0, .int .i64 0, .int .i64 0, .int .i64 0, .int .i64 0, .int .i64 0, .int .i64 0, .int .i64 0, .int .i64 0, .int .i64 0, .int .i64 0, .int .i64 0, .int .i64 0, .int .i64 0, .int .i64 0, .int .i64 0, .slice none 0 0, .slice none 0 0, .int .i64 0, .int .i64 0, .int .i64 0, .int .i64 0, .int .i64 0, .int .i64 0, .bool false] 34)
    rw [World.size_alloc] at this
    rw [hW]; exact this
  have z3 : Bk W 34 (w.heap.size + 2) [.int .i64 0, .int .i64 0, .int .i64 0, .int .i64 0, .int .i64 0, .int .i64 0, .int .i64 0, .int .i64 0, .int .i64 0, .int .i64 0, .int .i64 0, .int .i64 0, .int .i64 0, .int .i64 0, .int .i64 0, .int .i64 0, .int .i64 0, .int .i64 0, .int .i64 0, .slice none 0 0, .slice none 0 0, .int .i64 0, .int .i64 0, .int .i64 0, .int .i64 0, .int .i64 0, .int .i64 0, .bool false] := by
    have := Bk.new ((w.alloc (.cells #[.int .i64 z.c0, .int .i64 m.pa, .int .i64 z.c2, .int .i64 z.c3, .int .i64 m.size, .int .i64 z.c5, .int .i64 z.c6, .int .i64 z.c7, .int .i64 z.c8, .int .i64 z.c9, .int .i64 z.c10, .int .i64 z.c11, .int .i64 z.c12, .int .i64 z.c13, .int .i64 m.sr, .int .i64 m.ds, .int .i64 m.cn, .int .i64 m.cl, .int .i64 m.base, .slice z.A z.n z.c, .slice z.J z.jn z.jc, .int .i64 m.jm.ps.length, .int .i64 m.jm.N, .int .i64 m.jm.T, .int .i64 m.ar, .int .i64 m.pl, .int .i64 m.pd, .bool m.dn] 34)).alloc (.cells #[.int .i64 q.h.kd, .int .i64 q.h.fl, .int .i64 q.h.pa, .int .i64 q.h.sr, .int .i64 q.h.ds, .int .i64 q.h.cn, .int .i64 q.h.sq, .int .i64 q.h.pu, .slice q.A q.n q.c] 40)) 34 [.int .i64 0, .int .i64 0, .int .i64 0, .int .i64 0, .int .i64 0, .int .i64 0, .int .i64 0, .int .i64 0, .int .i64 0, .int .i64 0, .int .i64 0, .int .i64 0, .int .i64 0, .int .i64 0, .int .i64 0, .int .i64 0, .int .i64 0, .int .i64 0, .int .i64 0, .slice none 0 0, .slice none 0 0, .int .i64 0, .int .i64 0, .int .i64 0, .int .i64 0, .int .i64 0, .int .i64 0, .bool false]
    simp only [World.size_alloc] at this
    rw [hW]; exact this
  have hWz : W.heap.size = w.heap.size + 3 := by rw [hW]; simp
  have H := Lib.hid h
  have HQ := Lib.hid hq
  have HF := Lib.hid hF
  have HB := Lib.hid hb1
  clear h hq hF hb1
  have HT1 : Hid (m.take q.pk = m ∧ m.ans q.pk = [] ∧ m.told q.pk = []) := Lib.hid ⟨by unfold Rm.take; rw [if_pos htk], by unfold Rm.ans; rw [if_pos htk], by unfold Rm.told; rw [if_pos htk]⟩
  clear htk
  go_enter Try.func11, Try.ntmps11
  rw [hW] at z1 z3
  go_wp2_with (first
    | (with_reducible refine at_load 34 (.tmp 2) (by rfl) ?_
       refine wpList_load_bk rowRv rfl (.tmp 2) rfl w.heap.size 0 rfl z1 [.int .i64 z.c0, .int .i64 m.pa, .int .i64 z.c2, .int .i64 z.c3, .int .i64 m.size, .int .i64 z.c5, .int .i64 z.c6, .int .i64 z.c7, .int .i64 z.c8, .int .i64 z.c9, .int .i64 z.c10, .int .i64 z.c11, .int .i64 z.c12, .int .i64 z.c13, .int .i64 m.sr, .int .i64 m.ds, .int .i64 m.cn, .int .i64 m.cl, .int .i64 m.base, .slice z.A z.n z.c, .slice z.J z.jn z.jc, .int .i64 m.jm.ps.length, .int .i64 m.jm.N, .int .i64 m.jm.T, .int .i64 m.ar, .int .i64 m.pl, .int .i64 m.pd, .bool m.dn] rfl rfl ?_)
    | (with_reducible refine at_store 34 (.tmp 4) (.tmp 23) (by rfl) ?_
       refine wpList_store_bk rowRv rfl (.tmp 4) (.tmp 23) rfl (w.heap.size + 2) 0 rfl z3 [.int .i64 z.c0, .int .i64 m.pa, .int .i64 z.c2, .int .i64 z.c3, .int .i64 m.size, .int .i64 z.c5, .int .i64 z.c6, .int .i64 z.c7, .int .i64 z.c8, .int .i64 z.c9, .int .i64 z.c10, .int .i64 z.c11, .int .i64 z.c12, .int .i64 z.c13, .int .i64 m.sr, .int .i64 m.ds, .int .i64 m.cn, .int .i64 m.cl, .int .i64 m.base, .slice z.A z.n z.c, .slice z.J z.jn z.jc, .int .i64 m.jm.ps.length, .int .i64 m.jm.N, .int .i64 m.jm.T, .int .i64 m.ar, .int .i64 m.pl, .int .i64 m.pd, .bool m.dn] rfl rfl (by decide) (Rm.rl_one _ _) ?_
       rintro w9 z9 hw9
       rw [lay_all _ _ (by rfl)] at z9))
  rw [← hW] at hw9
  have hb9 : Below w.heap.size w w9 := HB.out.trans (hw9.below (by omega) HB.out.size)
  exact bodyPost_ret (results_cell_tmp2 rfl rfl (rowRv.load z9 0 (cs := [.int .i64 z.c0, .int .i64 m.pa, .int .i64 z.c2, .int .i64 z.c3, .int .i64 m.size, .int .i64 z.c5, .int .i64 z.c6, .int .i64 z.c7, .int .i64 z.c8, .int .i64 z.c9, .int .i64 z.c10, .int .i64 z.c11, .int .i64 z.c12, .int .i64 z.c13, .int .i64 m.sr, .int .i64 m.ds, .int .i64 m.cn, .int .i64 m.cl, .int .i64 m.base, .slice z.A z.n z.c, .slice z.J z.jn z.jc, .int .i64 m.jm.ps.length, .int .i64 m.jm.N, .int .i64 m.jm.T, .int .i64 m.ar, .int .i64 m.pl, .int .i64 m.pd, .bool m.dn]) rfl rfl)) rfl ⟨z, none, 0, 0, none, 0, 0, by rw [HT1.out.1]; rfl, by rw [HT1.out.1]; exact H.out.below hb9, by rw [HT1.out.2.1]; exact SlP.nil _ _, by rw [HT1.out.2.2]; exact SlT.nil _, hb9⟩
set_option maxHeartbeats 8000000 in
theorem r_take_no2 (h : RfR F w z m) (q : Pv) (hq : PvR F w q) (hF : ∀ x, F x → x < w.heap.size) (htk : q.pk.tkn = false) (hk : q.h.kd = 1) (h16 : hasB q.h.fl 16 = true) : Calls Try.prog 11 #[.agg #[.int .i64 z.c0, .int .i64 m.pa, .int .i64 z.c2, .int .i64 z.c3, .int .i64 m.size, .int .i64 z.c5, .int .i64 z.c6, .int .i64 z.c7, .int .i64 z.c8, .int .i64 z.c9, .int .i64 z.c10, .int .i64 z.c11, .int .i64 z.c12, .int .i64 z.c13, .int .i64 m.sr, .int .i64 m.ds, .int .i64 m.cn, .int .i64 m.cl, .int .i64 m.base, .slice z.A z.n z.c, .slice z.J z.jn z.jc, .int .i64 m.jm.ps.length, .int .i64 m.jm.N, .int .i64 m.jm.T, .int .i64 m.ar, .int .i64 m.pl, .int .i64 m.pd, .bool m.dn], .agg #[.int .i64 q.h.kd, .int .i64 q.h.fl, .int .i64 q.h.pa, .int .i64 q.h.sr, .int .i64 q.h.ds, .int .i64 q.h.cn, .int .i64 q.h.sq, .int .i64 q.h.pu, .slice q.A q.n q.c]] w (RTk F w m q.pk) := by
  have hfl := hq.fl
  obtain ⟨W, hW⟩ : ∃ W, W = ((w.alloc (.cells #[.int .i64 z.c0, .int .i64 m.pa, .int .i64 z.c2, .int .i64 z.c3, .int .i64 m.size, .int .i64 z.c5, .int .i64 z.c6, .int .i64 z.c7, .int .i64 z.c8, .int .i64 z.c9, .int .i64 z.c10, .int .i64 z.c11, .int .i64 z.c12, .int .i64 z.c13, .int .i64 m.sr, .int .i64 m.ds, .int .i64 m.cn, .int .i64 m.cl, .int .i64 m.base, .slice z.A z.n z.c, .slice z.J z.jn z.jc, .int .i64 m.jm.ps.length, .int .i64 m.jm.N, .int .i64 m.jm.T, .int .i64 m.ar, .int .i64 m.pl, .int .i64 m.pd, .bool m.dn] 34)).alloc (.cells #[.int .i64 q.h.kd, .int .i64 q.h.fl, .int .i64 q.h.pa, .int .i64 q.h.sr, .int .i64 q.h.ds, .int .i64 q.h.cn, .int .i64 q.h.sq, .int .i64 q.h.pu, .slice q.A q.n q.c] 40)).alloc (.cells #[.int .i64 0, .int .i64 0, .int .i64 0, .int .i64 0, .int .i64 0, .int .i64 0, .int .i64 0, .int .i64 0, .int .i64 0, .int .i64 0, .int .i64 0, .int .i64 0, .int .i64 0, .int .i64 0, .int .i64 0, .int .i64 0, .int .i64 0, .int .i64 0, .int .i64 0, .slice none 0 0, .slice none 0 0, .int .i64 0, .int .i64 0, .int .i64 0, .int .i64 0, .int .i64 0, .int .i64 0, .bool false] 34) := ⟨_, rfl⟩
  have hb1 : Below w.heap.size w W := by rw [hW]; exact (((Below.refl _ w).alloc (Nat.le_refl _) _).alloc (by simp) _).alloc (by simp; omega) _
  have z1 : Bk W 34 w.heap.size [.int .i64 z.c0, .int .i64 m.pa, .int .i64 z.c2, .int .i64 z.c3, .int .i64 m.size, .int .i64 z.c5, .int .i64 z.c6, .int .i64 z.c7, .int .i64 z.c8, .int .i64 z.c9, .int .i64 z.c10, .int .i64 z.c11, .int .i64 z.c12, .int .i64 z.c13, .int .i64 m.sr, .int .i64 m.ds, .int .i64 m.cn, .int .i64 m.cl, .int .i64 m.base, .slice z.A z.n z.c, .slice z.J z.jn z.jc, .int .i64 m.jm.ps.length, .int .i64 m.jm.N, .int .i64 m.jm.T, .int .i64 m.ar, .int .i64 m.pl, .int .i64 m.pd, .bool m.dn] := by rw [hW]; exact ((Bk.new w 34 [.int .i64 z.c0, .int .i64 m.pa, .int .i64 z.c2, .int .i64 z.c3, .int .i64 m.size, .int .i64 z.c5, .int .i64 z.c6, .int .i64 z.c7, .int .i64 z.c8, .int .i64 z.c9, .int .i64 z.c10, .int .i64 z.c11, .int .i64 z.c12, .int .i64 z.c13, .int .i64 m.sr, .int .i64 m.ds, .int .i64 m.cn, .int .i64 m.cl, .int .i64 m.base, .slice z.A z.n z.c, .slice z.J z.jn z.jc, .int .i64 m.jm.ps.length, .int .i64 m.jm.N, .int .i64 m.jm.T, .int .i64 m.ar, .int .i64 m.pl, .int .i64 m.pd, .bool m.dn]).alloc _).alloc _
  have z2 : Bk W 40 (w.heap.size + 1) q.cl := by
    have := (Bk.new (w.alloc (.cells #[.int .i64 z.c0, .int .i64 m.pa, .int .i64 z.c2, .int .i64 z.c3, .int .i64 m.size, .int .i64 z.c5, .int .i64 z.c6, .int .i64 z.c7, .int .i64 z.c8, .int .i64 z.c9, .int .i64 z.c10, .int .i64 z.c11, .int .i64 z.c12, .int .i64 z.c13, .int .i64 m.sr, .int .i64 m.ds, .int .i64 m.cn, .int .i64 m.cl, .int .i64 m.base, .slice z.A z.n z.c, .slice z.J z.jn z.jc, .int .i64 m.jm.ps.length, .int .i64 m.jm.N, .int .i64 m.jm.T, .int .i64 m.ar, .int .i64 m.pl, .int .i64 m.pd, .bool m.dn] 34)) 40 q.cl).alloc (.cells #[.int .i64 0, .int .i64 0, .int .i64 0, .int .i64 0, .int .i64 0, .int .i64 0, .int .i64 0, .int .i64 0, .int .i64 0, .int .i64 0, .int .i64 0, .int .i64 0, .int .i64 0, .int .i64 0, .int .i64 0, .int .i64 0, .int .i64 0, .int .i64 0, .int .i64 0, .slice none 0 0, .slice none 0 0, .int .i64 0, .int .i64 0, .int .i64 0, .int .i64 0, .int .i64 0, .int .i64 0, .bool false] 34)
    rw [World.size_alloc] at this
    rw [hW]; exact this
  have z3 : Bk W 34 (w.heap.size + 2) [.int .i64 0, .int .i64 0, .int .i64 0, .int .i64 0, .int .i64 0, .int .i64 0, .int .i64 0, .int .i64 0, .int .i64 0, .int .i64 0, .int .i64 0, .int .i64 0, .int .i64 0, .int .i64 0, .int .i64 0, .int .i64 0, .int .i64 0, .int .i64 0, .int .i64 0, .slice none 0 0, .slice none 0 0, .int .i64 0, .int .i64 0, .int .i64 0, .int .i64 0, .int .i64 0, .int .i64 0, .bool false] := by
    have := Bk.new ((w.alloc (.cells #[.int .i64 z.c0, .int .i64 m.pa, .int .i64 z.c2, .int .i64 z.c3, .int .i64 m.size, .int .i64 z.c5, .int .i64 z.c6, .int .i64 z.c7, .int .i64 z.c8, .int .i64 z.c9, .int .i64 z.c10, .int .i64 z.c11, .int .i64 z.c12, .int .i64 z.c13, .int .i64 m.sr, .int .i64 m.ds, .int .i64 m.cn, .int .i64 m.cl, .int .i64 m.base, .slice z.A z.n z.c, .slice z.J z.jn z.jc, .int .i64 m.jm.ps.length, .int .i64 m.jm.N, .int .i64 m.jm.T, .int .i64 m.ar, .int .i64 m.pl, .int .i64 m.pd, .bool m.dn] 34)).alloc (.cells #[.int .i64 q.h.kd, .int .i64 q.h.fl, .int .i64 q.h.pa, .int .i64 q.h.sr, .int .i64 q.h.ds, .int .i64 q.h.cn, .int .i64 q.h.sq, .int .i64 q.h.pu, .slice q.A q.n q.c] 40)) 34 [.int .i64 0, .int .i64 0, .int .i64 0, .int .i64 0, .int .i64 0, .int .i64 0, .int .i64 0, .int .i64 0, .int .i64 0, .int .i64 0, .int .i64 0, .int .i64 0, .int .i64 0, .int .i64 0, .int .i64 0, .int .i64 0, .int .i64 0, .int .i64 0, .int .i64 0, .slice none 0 0, .slice none 0 0, .int .i64 0, .int .i64 0, .int .i64 0, .int .i64 0, .int .i64 0, .int .i64 0, .bool false]
    simp only [World.size_alloc] at this
    rw [hW]; exact this
  have hWz : W.heap.size = w.heap.size + 3 := by rw [hW]; simp
  have H := Lib.hid h
  have HQ := Lib.hid hq
  have HF := Lib.hid hF
  have HB := Lib.hid hb1
  clear h hq hF hb1
  have HT1 : Hid (m.take q.pk = m ∧ m.ans q.pk = [] ∧ m.told q.pk = []) := Lib.hid ⟨by unfold Rm.take; rw [if_pos htk], by unfold Rm.ans; rw [if_pos htk], by unfold Rm.told; rw [if_pos htk]⟩
  clear htk
  have HH16 := Lib.hid (rhas_any q.h.fl 16 W (by decide) (by decide) hfl)
  rw [h16] at HH16
  go_enter Try.func11, Try.ntmps11
  go_wp2_with fail
  rw [hk] at hW
  rw [← hW]
  clear hW hk
  refine HH16.out.mono ?_
  rintro en V ⟨rfl, rfl⟩
  clear HH16
  go_wp2_with (first
    | (with_reducible refine at_load 34 (.tmp 2) (by rfl) ?_
       refine wpList_load_bk rowRv rfl (.tmp 2) rfl w.heap.size 0 rfl z1 [.int .i64 z.c0, .int .i64 m.pa, .int .i64 z.c2, .int .i64 z.c3, .int .i64 m.size, .int .i64 z.c5, .int .i64 z.c6, .int .i64 z.c7, .int .i64 z.c8, .int .i64 z.c9, .int .i64 z.c10, .int .i64 z.c11, .int .i64 z.c12, .int .i64 z.c13, .int .i64 m.sr, .int .i64 m.ds, .int .i64 m.cn, .int .i64 m.cl, .int .i64 m.base, .slice z.A z.n z.c, .slice z.J z.jn z.jc, .int .i64 m.jm.ps.length, .int .i64 m.jm.N, .int .i64 m.jm.T, .int .i64 m.ar, .int .i64 m.pl, .int .i64 m.pd, .bool m.dn] rfl rfl ?_)
    | (with_reducible refine at_store 34 (.tmp 4) (.tmp 23) (by rfl) ?_
       refine wpList_store_bk rowRv rfl (.tmp 4) (.tmp 23) rfl (w.heap.size + 2) 0 rfl z3 [.int .i64 z.c0, .int .i64 m.pa, .int .i64 z.c2, .int .i64 z.c3, .int .i64 m.size, .int .i64 z.c5, .int .i64 z.c6, .int .i64 z.c7, .int .i64 z.c8, .int .i64 z.c9, .int .i64 z.c10, .int .i64 z.c11, .int .i64 z.c12, .int .i64 z.c13, .int .i64 m.sr, .int .i64 m.ds, .int .i64 m.cn, .int .i64 m.cl, .int .i64 m.base, .slice z.A z.n z.c, .slice z.J z.jn z.jc, .int .i64 m.jm.ps.length, .int .i64 m.jm.N, .int .i64 m.jm.T, .int .i64 m.ar, .int .i64 m.pl, .int .i64 m.pd, .bool m.dn] rfl rfl (by decide) (Rm.rl_one _ _) ?_
       rintro w9 z9 hw9
       rw [lay_all _ _ (by rfl)] at z9))
  have hb9 : Below w.heap.size w w9 := HB.out.trans (hw9.below (by omega) HB.out.size)
  exact bodyPost_ret (results_cell_tmp2 rfl rfl (rowRv.load z9 0 (cs := [.int .i64 z.c0, .int .i64 m.pa, .int .i64 z.c2, .int .i64 z.c3, .int .i64 m.size, .int .i64 z.c5, .int .i64 z.c6, .int .i64 z.c7, .int .i64 z.c8, .int .i64 z.c9, .int .i64 z.c10, .int .i64 z.c11, .int .i64 z.c12, .int .i64 z.c13, .int .i64 m.sr, .int .i64 m.ds, .int .i64 m.cn, .int .i64 m.cl, .int .i64 m.base, .slice z.A z.n z.c, .slice z.J z.jn z.jc, .int .i64 m.jm.ps.length, .int .i64 m.jm.N, .int .i64 m.jm.T, .int .i64 m.ar, .int .i64 m.pl, .int .i64 m.pd, .bool m.dn]) rfl rfl)) rfl ⟨z, none, 0, 0, none, 0, 0, by rw [HT1.out.1]; rfl, by rw [HT1.out.1]; exact H.out.below hb9, by rw [HT1.out.2.1]; exact SlP.nil _ _, by rw [HT1.out.2.2]; exact SlT.nil _, hb9⟩
set_option maxHeartbeats 8000000 in
theorem r_take_no3 (h : RfR F w z m) (q : Pv) (hq : PvR F w q) (hF : ∀ x, F x → x < w.heap.size) (htk : q.pk.tkn = false) (hk : q.h.kd = 1) (h16 : hasB q.h.fl 16 = false) (hwi : witB q.h.sq 0 1152921504606846976 = false) : Calls Try.prog 11 #[.agg #[.int .i64 z.c0, .int .i64 m.pa, .int .i64 z.c2, .int .i64 z.c3, .int .i64 m.size, .int .i64 z.c5, .int .i64 z.c6, .int .i64 z.c7, .int .i64 z.c8, .int .i64 z.c9, .int .i64 z.c10, .int .i64 z.c11, .int .i64 z.c12, .int .i64 z.c13, .int .i64 m.sr, .int .i64 m.ds, .int .i64 m.cn, .int .i64 m.cl, .int .i64 m.base, .slice z.A z.n z.c, .slice z.J z.jn z.jc, .int .i64 m.jm.ps.length, .int .i64 m.jm.N, .int .i64 m.jm.T, .int .i64 m.ar, .int .i64 m.pl, .int .i64 m.pd, .bool m.dn], .agg #[.int .i64 q.h.kd, .int .i64 q.h.fl, .int .i64 q.h.pa, .int .i64 q.h.sr, .int .i64 q.h.ds, .int .i64 q.h.cn, .int .i64 q.h.sq, .int .i64 q.h.pu, .slice q.A q.n q.c]] w (RTk F w m q.pk) := by
  have hfl := hq.fl
  obtain ⟨W, hW⟩ : ∃ W, W = ((w.alloc (.cells #[.int .i64 z.c0, .int .i64 m.pa, .int .i64 z.c2, .int .i64 z.c3, .int .i64 m.size, .int .i64 z.c5, .int .i64 z.c6, .int .i64 z.c7, .int .i64 z.c8, .int .i64 z.c9, .int .i64 z.c10, .int .i64 z.c11, .int .i64 z.c12, .int .i64 z.c13, .int .i64 m.sr, .int .i64 m.ds, .int .i64 m.cn, .int .i64 m.cl, .int .i64 m.base, .slice z.A z.n z.c, .slice z.J z.jn z.jc, .int .i64 m.jm.ps.length, .int .i64 m.jm.N, .int .i64 m.jm.T, .int .i64 m.ar, .int .i64 m.pl, .int .i64 m.pd, .bool m.dn] 34)).alloc (.cells #[.int .i64 q.h.kd, .int .i64 q.h.fl, .int .i64 q.h.pa, .int .i64 q.h.sr, .int .i64 q.h.ds, .int .i64 q.h.cn, .int .i64 q.h.sq, .int .i64 q.h.pu, .slice q.A q.n q.c] 40)).alloc (.cells #[.int .i64 0, .int .i64 0, .int .i64 0, .int .i64 0, .int .i64 0, .int .i64 0, .int .i64 0, .int .i64 0, .int .i64 0, .int .i64 0, .int .i64 0, .int .i64 0, .int .i64 0, .int .i64 0, .int .i64 0, .int .i64 0, .int .i64 0, .int .i64 0, .int .i64 0, .slice none 0 0, .slice none 0 0, .int .i64 0, .int .i64 0, .int .i64 0, .int .i64 0, .int .i64 0, .int .i64 0, .bool false] 34) := ⟨_, rfl⟩
  have hb1 : Below w.heap.size w W := by rw [hW]; exact (((Below.refl _ w).alloc (Nat.le_refl _) _).alloc (by simp) _).alloc (by simp; omega) _
  have z1 : Bk W 34 w.heap.size [.int .i64 z.c0, .int .i64 m.pa, .int .i64 z.c2, .int .i64 z.c3, .int .i64 m.size, .int .i64 z.c5, .int .i64 z.c6, .int .i64 z.c7, .int .i64 z.c8, .int .i64 z.c9, .int .i64 z.c10, .int .i64 z.c11, .int .i64 z.c12, .int .i64 z.c13, .int .i64 m.sr, .int .i64 m.ds, .int .i64 m.cn, .int .i64 m.cl, .int .i64 m.base, .slice z.A z.n z.c, .slice z.J z.jn z.jc, .int .i64 m.jm.ps.length, .int .i64 m.jm.N, .int .i64 m.jm.T, .int .i64 m.ar, .int .i64 m.pl, .int .i64 m.pd, .bool m.dn] := by rw [hW]; exact ((Bk.new w 34 [.int .i64 z.c0, .int .i64 m.pa, .int .i64 z.c2, .int .i64 z.c3, .int .i64 m.size, .int .i64 z.c5, .int .i64 z.c6, .int .i64 z.c7, .int .i64 z.c8, .int .i64 z.c9, .int .i64 z.c10, .int .i64 z.c11, .int .i64 z.c12, .int .i64 z.c13, .int .i64 m.sr, .int .i64 m.ds, .int .i64 m.cn, .int .i64 m.cl, .int .i64 m.base, .slice z.A z.n z.c, .slice z.J z.jn z.jc, .int .i64 m.jm.ps.length, .int .i64 m.jm.N, .int .i64 m.jm.T, .int .i64 m.ar, .int .i64 m.pl, .int .i64 m.pd, .bool m.dn]).alloc _).alloc _
  have z2 : Bk W 40 (w.heap.size + 1) q.cl := by
    have := (Bk.new (w.alloc (.cells #[.int .i64 z.c0, .int .i64 m.pa, .int .i64 z.c2, .int .i64 z.c3, .int .i64 m.size, .int .i64 z.c5, .int .i64 z.c6, .int .i64 z.c7, .int .i64 z.c8, .int .i64 z.c9, .int .i64 z.c10, .int .i64 z.c11, .int .i64 z.c12, .int .i64 z.c13, .int .i64 m.sr, .int .i64 m.ds, .int .i64 m.cn, .int .i64 m.cl, .int .i64 m.base, .slice z.A z.n z.c, .slice z.J z.jn z.jc, .int .i64 m.jm.ps.length, .int .i64 m.jm.N, .int .i64 m.jm.T, .int .i64 m.ar, .int .i64 m.pl, .int .i64 m.pd, .bool m.dn] 34)) 40 q.cl).alloc (.cells #[.int .i64 0, .int .i64 0, .int .i64 0, .int .i64 0, .int .i64 0, .int .i64 0, .int .i64 0, .int .i64 0, .int .i64 0, .int .i64 0, .int .i64 0, .int .i64 0, .int .i64 0, .int .i64 0, .int .i64 0, .int .i64 0, .int .i64 0, .int .i64 0, .int .i64 0, .slice none 0 0, .slice none 0 0, .int .i64 0, .int .i64 0, .int .i64 0, .int .i64 0, .int .i64 0, .int .i64 0, .bool false] 34)
    rw [World.size_alloc] at this
    rw [hW]; exact this
  have z3 : Bk W 34 (w.heap.size + 2) [.int .i64 0, .int .i64 0, .int .i64 0, .int .i64 0, .int .i64 0, .int .i64 0, .int .i64 0, .int .i64 0, .int .i64 0, .int .i64 0, .int .i64 0, .int .i64 0, .int .i64 0, .int .i64 0, .int .i64 0, .int .i64 0, .int .i64 0, .int .i64 0, .int .i64 0, .slice none 0 0, .slice none 0 0, .int .i64 0, .int .i64 0, .int .i64 0, .int .i64 0, .int .i64 0, .int .i64 0, .bool false] := by
    have := Bk.new ((w.alloc (.cells #[.int .i64 z.c0, .int .i64 m.pa, .int .i64 z.c2, .int .i64 z.c3, .int .i64 m.size, .int .i64 z.c5, .int .i64 z.c6, .int .i64 z.c7, .int .i64 z.c8, .int .i64 z.c9, .int .i64 z.c10, .int .i64 z.c11, .int .i64 z.c12, .int .i64 z.c13, .int .i64 m.sr, .int .i64 m.ds, .int .i64 m.cn, .int .i64 m.cl, .int .i64 m.base, .slice z.A z.n z.c, .slice z.J z.jn z.jc, .int .i64 m.jm.ps.length, .int .i64 m.jm.N, .int .i64 m.jm.T, .int .i64 m.ar, .int .i64 m.pl, .int .i64 m.pd, .bool m.dn] 34)).alloc (.cells #[.int .i64 q.h.kd, .int .i64 q.h.fl, .int .i64 q.h.pa, .int .i64 q.h.sr, .int .i64 q.h.ds, .int .i64 q.h.cn, .int .i64 q.h.sq, .int .i64 q.h.pu, .slice q.A q.n q.c] 40)) 34 [.int .i64 0, .int .i64 0, .int .i64 0, .int .i64 0, .int .i64 0, .int .i64 0, .int .i64 0, .int .i64 0, .int .i64 0, .int .i64 0, .int .i64 0, .int .i64 0, .int .i64 0, .int .i64 0, .int .i64 0, .int .i64 0, .int .i64 0, .int .i64 0, .int .i64 0, .slice none 0 0, .slice none 0 0, .int .i64 0, .int .i64 0, .int .i64 0, .int .i64 0, .int .i64 0, .int .i64 0, .bool false]
    simp only [World.size_alloc] at this
    rw [hW]; exact this
  have hWz : W.heap.size = w.heap.size + 3 := by rw [hW]; simp
  have H := Lib.hid h
  have HQ := Lib.hid hq
  have HF := Lib.hid hF
  have HB := Lib.hid hb1
  clear h hq hF hb1
  have HT1 : Hid (m.take q.pk = m ∧ m.ans q.pk = [] ∧ m.told q.pk = []) := Lib.hid ⟨by unfold Rm.take; rw [if_pos htk], by unfold Rm.ans; rw [if_pos htk], by unfold Rm.told; rw [if_pos htk]⟩
  clear htk
  have HH16 := Lib.hid (rhas_any q.h.fl 16 W (by decide) (by decide) hfl)
  rw [h16] at HH16
  have HWI := Lib.hid (r_within q.h.sq 0 1152921504606846976 W)
  rw [hwi] at HWI
  go_enter Try.func11, Try.ntmps11
  go_wp2_with fail
  rw [hk] at hW
  rw [← hW]
  clear hW hk
  refine HH16.out.mono ?_
  rintro en V ⟨rfl, rfl⟩
  clear HH16
  have e6 := z2.cell 6 rfl
  go_wp2_with fail
  refine HWI.out.mono ?_
  rintro en V ⟨rfl, rfl⟩
  clear HWI
  go_wp2_with (first
    | (with_reducible refine at_load 34 (.tmp 2) (by rfl) ?_
       refine wpList_load_bk rowRv rfl (.tmp 2) rfl w.heap.size 0 rfl z1 [.int .i64 z.c0, .int .i64 m.pa, .int .i64 z.c2, .int .i64 z.c3, .int .i64 m.size, .int .i64 z.c5, .int .i64 z.c6, .int .i64 z.c7, .int .i64 z.c8, .int .i64 z.c9, .int .i64 z.c10, .int .i64 z.c11, .int .i64 z.c12, .int .i64 z.c13, .int .i64 m.sr, .int .i64 m.ds, .int .i64 m.cn, .int .i64 m.cl, .int .i64 m.base, .slice z.A z.n z.c, .slice z.J z.jn z.jc, .int .i64 m.jm.ps.length, .int .i64 m.jm.N, .int .i64 m.jm.T, .int .i64 m.ar, .int .i64 m.pl, .int .i64 m.pd, .bool m.dn] rfl rfl ?_)
    | (with_reducible refine at_store 34 (.tmp 4) (.tmp 23) (by rfl) ?_
       refine wpList_store_bk rowRv rfl (.tmp 4) (.tmp 23) rfl (w.heap.size + 2) 0 rfl z3 [.int .i64 z.c0, .int .i64 m.pa, .int .i64 z.c2, .int .i64 z.c3, .int .i64 m.size, .int .i64 z.c5, .int .i64 z.c6, .int .i64 z.c7, .int .i64 z.c8, .int .i64 z.c9, .int .i64 z.c10, .int .i64 z.c11, .int .i64 z.c12, .int .i64 z.c13, .int .i64 m.sr, .int .i64 m.ds, .int .i64 m.cn, .int .i64 m.cl, .int .i64 m.base, .slice z.A z.n z.c, .slice z.J z.jn z.jc, .int .i64 m.jm.ps.length, .int .i64 m.jm.N, .int .i64 m.jm.T, .int .i64 m.ar, .int .i64 m.pl, .int .i64 m.pd, .bool m.dn] rfl rfl (by decide) (Rm.rl_one _ _) ?_
       rintro w9 z9 hw9
       rw [lay_all _ _ (by rfl)] at z9))
  have hb9 : Below w.heap.size w w9 := HB.out.trans (hw9.below (by omega) HB.out.size)
  exact bodyPost_ret (results_cell_tmp2 rfl rfl (rowRv.load z9 0 (cs := [.int .i64 z.c0, .int .i64 m.pa, .int .i64 z.c2, .int .i64 z.c3, .int .i64 m.size, .int .i64 z.c5, .int .i64 z.c6, .int .i64 z.c7, .int .i64 z.c8, .int .i64 z.c9, .int .i64 z.c10, .int .i64 z.c11, .int .i64 z.c12, .int .i64 z.c13, .int .i64 m.sr, .int .i64 m.ds, .int .i64 m.cn, .int .i64 m.cl, .int .i64 m.base, .slice z.A z.n z.c, .slice z.J z.jn z.jc, .int .i64 m.jm.ps.length, .int .i64 m.jm.N, .int .i64 m.jm.T, .int .i64 m.ar, .int .i64 m.pl, .int .i64 m.pd, .bool m.dn]) rfl rfl)) rfl ⟨z, none, 0, 0, none, 0, 0, by rw [HT1.out.1]; rfl, by rw [HT1.out.1]; exact H.out.below hb9, by rw [HT1.out.2.1]; exact SlP.nil _ _, by rw [HT1.out.2.2]; exact SlT.nil _, hb9⟩
set_option maxHeartbeats 8000000 in
theorem r_take_ack1 (h : RfR F w z m) (q : Pv) (hq : PvR F w q) (hF : ∀ x, F x → x < w.heap.size) (htk : q.pk.tkn = true) (hk : q.h.kd = 1) (h16 : hasB q.h.fl 16 = false) (hwi : witB q.h.sq 0 1152921504606846976 = true) (hdn : m.dn = true) : Calls Try.prog 11 #[.agg #[.int .i64 z.c0, .int .i64 m.pa, .int .i64 z.c2, .int .i64 z.c3, .int .i64 m.size, .int .i64 z.c5, .int .i64 z.c6, .int .i64 z.c7, .int .i64 z.c8, .int .i64 z.c9, .int .i64 z.c10, .int .i64 z.c11, .int .i64 z.c12, .int .i64 z.c13, .int .i64 m.sr, .int .i64 m.ds, .int .i64 m.cn, .int .i64 m.cl, .int .i64 m.base, .slice z.A z.n z.c, .slice z.J z.jn z.jc, .int .i64 m.jm.ps.length, .int .i64 m.jm.N, .int .i64 m.jm.T, .int .i64 m.ar, .int .i64 m.pl, .int .i64 m.pd, .bool m.dn], .agg #[.int .i64 q.h.kd, .int .i64 q.h.fl, .int .i64 q.h.pa, .int .i64 q.h.sr, .int .i64 q.h.ds, .int .i64 q.h.cn, .int .i64 q.h.sq, .int .i64 q.h.pu, .slice q.A q.n q.c]] w (RTk F w m q.pk) := by
  have hfl := hq.fl
  obtain ⟨W, hW⟩ : ∃ W, W = ((w.alloc (.cells #[.int .i64 z.c0, .int .i64 m.pa, .int .i64 z.c2, .int .i64 z.c3, .int .i64 m.size, .int .i64 z.c5, .int .i64 z.c6, .int .i64 z.c7, .int .i64 z.c8, .int .i64 z.c9, .int .i64 z.c10, .int .i64 z.c11, .int .i64 z.c12, .int .i64 z.c13, .int .i64 m.sr, .int .i64 m.ds, .int .i64 m.cn, .int .i64 m.cl, .int .i64 m.base, .slice z.A z.n z.c, .slice z.J z.jn z.jc, .int .i64 m.jm.ps.length, .int .i64 m.jm.N, .int .i64 m.jm.T, .int .i64 m.ar, .int .i64 m.pl, .int .i64 m.pd, .bool m.dn] 34)).alloc (.cells #[.int .i64 q.h.kd, .int .i64 q.h.fl, .int .i64 q.h.pa, .int .i64 q.h.sr, .int .i64 q.h.ds, .int .i64 q.h.cn, .int .i64 q.h.sq, .int .i64 q.h.pu, .slice q.A q.n q.c] 40)).alloc (.cells #[.int .i64 0, .int .i64 0, .int .i64 0, .int .i64 0, .int .i64 0, .int .i64 0, .int .i64 0, .int .i64 0, .int .i64 0, .int .i64 0, .int .i64 0, .int .i64 0, .int .i64 0, .int .i64 0, .int .i64 0, .int .i64 0, .int .i64 0, .int .i64 0, .int .i64 0, .slice none 0 0, .slice none 0 0, .int .i64 0, .int .i64 0, .int .i64 0, .int .i64 0, .int .i64 0, .int .i64 0, .bool false] 34) := ⟨_, rfl⟩
  have hb1 : Below w.heap.size w W := by rw [hW]; exact (((Below.refl _ w).alloc (Nat.le_refl _) _).alloc (by simp) _).alloc (by simp; omega) _
  have z1 : Bk W 34 w.heap.size [.int .i64 z.c0, .int .i64 m.pa, .int .i64 z.c2, .int .i64 z.c3, .int .i64 m.size, .int .i64 z.c5, .int .i64 z.c6, .int .i64 z.c7, .int .i64 z.c8, .int .i64 z.c9, .int .i64 z.c10, .int .i64 z.c11, .int .i64 z.c12, .int .i64 z.c13, .int .i64 m.sr, .int .i64 m.ds, .int .i64 m.cn, .int .i64 m.cl, .int .i64 m.base, .slice z.A z.n z.c, .slice z.J z.jn z.jc, .int .i64 m.jm.ps.length, .int .i64 m.jm.N, .int .i64 m.jm.T, .int .i64 m.ar, .int .i64 m.pl, .int .i64 m.pd, .bool m.dn] := by rw [hW]; exact ((Bk.new w 34 [.int .i64 z.c0, .int .i64 m.pa, .int .i64 z.c2, .int .i64 z.c3, .int .i64 m.size, .int .i64 z.c5, .int .i64 z.c6, .int .i64 z.c7, .int .i64 z.c8, .int .i64 z.c9, .int .i64 z.c10, .int .i64 z.c11, .int .i64 z.c12, .int .i64 z.c13, .int .i64 m.sr, .int .i64 m.ds, .int .i64 m.cn, .int .i64 m.cl, .int .i64 m.base, .slice z.A z.n z.c, .slice z.J z.jn z.jc, .int .i64 m.jm.ps.length, .int .i64 m.jm.N, .int .i64 m.jm.T, .int .i64 m.ar, .int .i64 m.pl, .int .i64 m.pd, .bool m.dn]).alloc _).alloc _
  have z2 : Bk W 40 (w.heap.size + 1) q.cl := by
    have := (Bk.new (w.alloc (.cells #[.int .i64 z.c0, .int .i64 m.pa, .int .i64 z.c2, .int .i64 z.c3, .int .i64 m.size, .int .i64 z.c5, .int .i64 z.c6, .int .i64 z.c7, .int .i64 z.c8, .int .i64 z.c9, .int .i64 z.c10, .int .i64 z.c11, .int .i64 z.c12, .int .i64 z.c13, .int .i64 m.sr, .int .i64 m.ds, .int .i64 m.cn, .int .i64 m.cl, .int .i64 m.base, .slice z.A z.n z.c, .slice z.J z.jn z.jc, .int .i64 m.jm.ps.length, .int .i64 m.jm.N, .int .i64 m.jm.T, .int .i64 m.ar, .int .i64 m.pl, .int .i64 m.pd, .bool m.dn] 34)) 40 q.cl).alloc (.cells #[.int .i64 0, .int .i64 0, .int .i64 0, .int .i64 0, .int .i64 0, .int .i64 0, .int .i64 0, .int .i64 0, .int .i64 0, .int .i64 0, .int .i64 0, .int .i64 0, .int .i64 0, .int .i64 0, .int .i64 0, .int .i64 0, .int .i64 0, .int .i64 0, .int .i64 0, .slice none 0 0, .slice none 0 0, .int .i64 0, .int .i64 0, .int .i64 0, .int .i64 0, .int .i64 0, .int .i64 0, .bool false] 34)
    rw [World.size_alloc] at this
    rw [hW]; exact this
  have z3 : Bk W 34 (w.heap.size + 2) [.int .i64 0, .int .i64 0, .int .i64 0, .int .i64 0, .int .i64 0, .int .i64 0, .int .i64 0, .int .i64 0, .int .i64 0, .int .i64 0, .int .i64 0, .int .i64 0, .int .i64 0, .int .i64 0, .int .i64 0, .int .i64 0, .int .i64 0, .int .i64 0, .int .i64 0, .slice none 0 0, .slice none 0 0, .int .i64 0, .int .i64 0, .int .i64 0, .int .i64 0, .int .i64 0, .int .i64 0, .bool false] := by
    have := Bk.new ((w.alloc (.cells #[.int .i64 z.c0, .int .i64 m.pa, .int .i64 z.c2, .int .i64 z.c3, .int .i64 m.size, .int .i64 z.c5, .int .i64 z.c6, .int .i64 z.c7, .int .i64 z.c8, .int .i64 z.c9, .int .i64 z.c10, .int .i64 z.c11, .int .i64 z.c12, .int .i64 z.c13, .int .i64 m.sr, .int .i64 m.ds, .int .i64 m.cn, .int .i64 m.cl, .int .i64 m.base, .slice z.A z.n z.c, .slice z.J z.jn z.jc, .int .i64 m.jm.ps.length, .int .i64 m.jm.N, .int .i64 m.jm.T, .int .i64 m.ar, .int .i64 m.pl, .int .i64 m.pd, .bool m.dn] 34)).alloc (.cells #[.int .i64 q.h.kd, .int .i64 q.h.fl, .int .i64 q.h.pa, .int .i64 q.h.sr, .int .i64 q.h.ds, .int .i64 q.h.cn, .int .i64 q.h.sq, .int .i64 q.h.pu, .slice q.A q.n q.c] 40)) 34 [.int .i64 0, .int .i64 0, .int .i64 0, .int .i64 0, .int .i64 0, .int .i64 0, .int .i64 0, .int .i64 0, .int .i64 0, .int .i64 0, .int .i64 0, .int .i64 0, .int .i64 0, .int .i64 0, .int .i64 0, .int .i64 0, .int .i64 0, .int .i64 0, .int .i64 0, .slice none 0 0, .slice none 0 0, .int .i64 0, .int .i64 0, .int .i64 0, .int .i64 0, .int .i64 0, .int .i64 0, .bool false]
    simp only [World.size_alloc] at this
    rw [hW]; exact this
  have hWz : W.heap.size = w.heap.size + 3 := by rw [hW]; simp
  have H := Lib.hid h
  have HQ := Lib.hid hq
  have HF := Lib.hid hF
  have HB := Lib.hid hb1
  clear h hq hF hb1
  have hdh : (m.dn || m.hs q.pk) = true := by rw [hdn]; rfl
  have HT1 : Hid (m.take q.pk = m ∧ m.ans q.pk = [(ansV m 2 q.pk).pk] ∧ m.told q.pk = []) := Lib.hid ⟨by unfold Rm.take; rw [if_neg (by rw [htk]; decide)]; rw [if_pos hdh], by unfold Rm.ans; rw [if_neg (by rw [htk]; decide)]; rw [if_pos hdh], by unfold Rm.told; rw [if_neg (by rw [htk]; decide)]; rw [if_pos hdh]⟩
  have HDN := Lib.hid hdn
  clear htk hdn
  have HH16 := Lib.hid (rhas_any q.h.fl 16 W (by decide) (by decide) hfl)
  rw [h16] at HH16
  have HWI := Lib.hid (r_within q.h.sq 0 1152921504606846976 W)
  rw [hwi] at HWI
  go_enter Try.func11, Try.ntmps11
  go_wp2_with fail
  rw [hk] at hW
  rw [← hW]
  clear hW hk
  refine HH16.out.mono ?_
  rintro en V ⟨rfl, rfl⟩
  clear HH16
  have e6 := z2.cell 6 rfl
  go_wp2_with fail
  refine HWI.out.mono ?_
  rintro en V ⟨rfl, rfl⟩
  clear HWI
  have e27 := z1.cell 27 rfl
  rw [HDN.out] at e27
  clear hdh
  go_wp2_with fail
  refine wp_region_E (Below (w.heap.size + 2)) (by kernel_rfl) (fun wd hbd hsz => ?_)
  have HBD := Lib.hid hbd
  have hdz := hbd.size
  have y1 := Lib.hid (z1.below hbd)
  have y2 := Lib.hid (z2.below hbd)
  have y3 := Lib.hid (z3.below hbd)
  clear hsz
  (refine takeE (belowTr (w.heap.size + 2)) 0 (by simp only [List.getElem?_toArray, List.getElem?_cons_succ, List.getElem?_cons_zero]; rfl) (by kernel_rfl) (by kernel_rfl) (by kernel_rfl) (by exact fun _ _ _ h => h) (by first | (refine Or.inl ⟨by rfl, ?_⟩; intro W hW; exact exec_load_bk rowRv _ rfl w.heap.size 0 rfl (y1.out.keep hW (by omega)) [.int .i64 z.c0, .int .i64 m.pa, .int .i64 z.c2, .int .i64 z.c3, .int .i64 m.size, .int .i64 z.c5, .int .i64 z.c6, .int .i64 z.c7, .int .i64 z.c8, .int .i64 z.c9, .int .i64 z.c10, .int .i64 z.c11, .int .i64 z.c12, .int .i64 z.c13, .int .i64 m.sr, .int .i64 m.ds, .int .i64 m.cn, .int .i64 m.cl, .int .i64 m.base, .slice z.A z.n z.c, .slice z.J z.jn z.jc, .int .i64 m.jm.ps.length, .int .i64 m.jm.N, .int .i64 m.jm.T, .int .i64 m.ar, .int .i64 m.pl, .int .i64 m.pd, .bool m.dn] rfl rfl) | exact Or.inr ⟨by rfl, rfl⟩) ?_; try simp only [Act.put, List.setIfInBounds_toArray, List.set_cons_zero, List.set_cons_succ])
  (refine takeE (belowTr (w.heap.size + 2)) 1 (by simp only [List.getElem?_toArray, List.getElem?_cons_succ, List.getElem?_cons_zero]; rfl) (by kernel_rfl) (by kernel_rfl) (by kernel_rfl) (by exact fun _ _ _ h => h) (by first | (refine Or.inl ⟨by rfl, ?_⟩; intro W hW; exact exec_load_bk rowRv _ rfl w.heap.size 0 rfl (y1.out.keep hW (by omega)) [.int .i64 z.c0, .int .i64 m.pa, .int .i64 z.c2, .int .i64 z.c3, .int .i64 m.size, .int .i64 z.c5, .int .i64 z.c6, .int .i64 z.c7, .int .i64 z.c8, .int .i64 z.c9, .int .i64 z.c10, .int .i64 z.c11, .int .i64 z.c12, .int .i64 z.c13, .int .i64 m.sr, .int .i64 m.ds, .int .i64 m.cn, .int .i64 m.cl, .int .i64 m.base, .slice z.A z.n z.c, .slice z.J z.jn z.jc, .int .i64 m.jm.ps.length, .int .i64 m.jm.N, .int .i64 m.jm.T, .int .i64 m.ar, .int .i64 m.pl, .int .i64 m.pd, .bool m.dn] rfl rfl) | exact Or.inr ⟨by rfl, rfl⟩) ?_; try simp only [Act.put, List.setIfInBounds_toArray, List.set_cons_zero, List.set_cons_succ])
  (refine takeE (belowTr (w.heap.size + 2)) 2 (by simp only [List.getElem?_toArray, List.getElem?_cons_succ, List.getElem?_cons_zero]; rfl) (by kernel_rfl) (by kernel_rfl) (by kernel_rfl) (by exact fun _ _ _ h => h) (by first | (refine Or.inl ⟨by rfl, ?_⟩; intro W hW; exact exec_loadRow rowP _ rfl (w.heap.size + 1) 0 rfl q (Bk.pk (y2.out.keep hW (by omega)))) | exact Or.inr ⟨by rfl, rfl⟩) ?_; try simp only [Act.put, List.setIfInBounds_toArray, List.set_cons_zero, List.set_cons_succ])
  refine wpAnyE_one (i := 3) (by kernel_rfl) (by simp only [List.getElem?_toArray, List.getElem?_cons_succ, List.getElem?_cons_zero]; rfl) (fun K hK => ?_)
  go_simp
  refine (r_answer (z := z) (m := m) 2 q _).mono ?_
  rintro en w7 ⟨A, c, rfl, hsl, hb7⟩
  have HSL := Lib.hid hsl
  have HB7 := Lib.hid hb7
  have hz7 := hb7.size
  clear hsl hb7
  refine hK.out _ _ (HB7.out.mono (by omega)) ?_
  clear hK K
  try simp only [Act.put, List.setIfInBounds_toArray, List.set_cons_zero, List.set_cons_succ]
  refine wpAnyE_one (i := 4) (by kernel_rfl) (by simp only [List.getElem?_toArray, List.getElem?_cons_succ, List.getElem?_cons_zero]; rfl) (fun K hK => ?_)
  refine opwp_store_bk rowRv rfl (.tmp 4) (.tmp 33) rfl (w.heap.size + 2) 0 rfl (y3.out.below HB7.out) [.int .i64 z.c0, .int .i64 m.pa, .int .i64 z.c2, .int .i64 z.c3, .int .i64 m.size, .int .i64 z.c5, .int .i64 z.c6, .int .i64 z.c7, .int .i64 z.c8, .int .i64 z.c9, .int .i64 z.c10, .int .i64 z.c11, .int .i64 z.c12, .int .i64 z.c13, .int .i64 m.sr, .int .i64 m.ds, .int .i64 m.cn, .int .i64 m.cl, .int .i64 m.base, .slice z.A z.n z.c, .slice z.J z.jn z.jc, .int .i64 m.jm.ps.length, .int .i64 m.jm.N, .int .i64 m.jm.T, .int .i64 m.ar, .int .i64 m.pl, .int .i64 m.pd, .bool m.dn] rfl rfl (by decide) (Rm.rl_one _ _) ?_
  intro w9 z9 hw9
  rw [lay_all _ _ (by rfl)] at z9
  have HZ9 := Lib.hid z9
  have HB9 := Lib.hid (hw9.below (Nat.le_refl _) (by omega) : Below (w.heap.size + 2) w7 w9)
  have HW9 := Lib.hid hw9
  clear z9 hw9
  refine hK.out _ _ HB9.out ?_
  clear hK K
  try simp only [Act.put, List.setIfInBounds_toArray, List.set_cons_zero, List.set_cons_succ]
  (refine takeE (belowTr (w.heap.size + 2)) 5 (by simp only [List.getElem?_toArray, List.getElem?_cons_succ, List.getElem?_cons_zero]; rfl) (by kernel_rfl) (by kernel_rfl) (by kernel_rfl) (by exact fun _ _ _ h => h) (by first | (refine Or.inl ⟨by rfl, ?_⟩; intro W hW; go_simp; try with_reducible rfl) | exact Or.inr ⟨by rfl, rfl⟩) ?_; try simp only [Act.put, List.setIfInBounds_toArray, List.set_cons_zero, List.set_cons_succ])
  (refine takeE (belowTr (w.heap.size + 2)) 6 (by simp only [List.getElem?_toArray, List.getElem?_cons_succ, List.getElem?_cons_zero]; rfl) (by kernel_rfl) (by kernel_rfl) (by kernel_rfl) (by exact fun _ _ _ h => h) (by first | (refine Or.inl ⟨by rfl, ?_⟩; intro W hW; go_simp; try with_reducible rfl) | exact Or.inr ⟨by rfl, rfl⟩) ?_; try simp only [Act.put, List.setIfInBounds_toArray, List.set_cons_zero, List.set_cons_succ])
  refine wpAnyE_done (by kernel_rfl) ?_ _
  skip
  go_wp2
  have hb9 : Below w.heap.size w w9 := (((HB.out.trans (HBD.out.mono HB.out.size)).trans (HB7.out.mono (by have := HB.out.size; omega))).trans (HB9.out.mono (by omega)))
  have hsW : St (· = w.heap.size + 2) w7 w9 := ⟨HW9.out.os, HW9.out.tape, HW9.out.output, HW9.out.size, fun x hx hn => HW9.out.block x hx (by intro he; injection he with he; exact hn he)⟩
  refine bodyPost_ret (results_cell_tmp2 rfl rfl (rowRv.load HZ9.out 0 (cs := [.int .i64 z.c0, .int .i64 m.pa, .int .i64 z.c2, .int .i64 z.c3, .int .i64 m.size, .int .i64 z.c5, .int .i64 z.c6, .int .i64 z.c7, .int .i64 z.c8, .int .i64 z.c9, .int .i64 z.c10, .int .i64 z.c11, .int .i64 z.c12, .int .i64 z.c13, .int .i64 m.sr, .int .i64 m.ds, .int .i64 m.cn, .int .i64 m.cl, .int .i64 m.base, .slice z.A z.n z.c, .slice z.J z.jn z.jc, .int .i64 m.jm.ps.length, .int .i64 m.jm.N, .int .i64 m.jm.T, .int .i64 m.ar, .int .i64 m.pl, .int .i64 m.pd, .bool m.dn]) rfl rfl)) rfl ⟨z, A, 1, c, none, 0, 0, by rw [HT1.out.1]; rfl, by rw [HT1.out.1]; exact H.out.below hb9, ?_, by rw [HT1.out.2.2]; exact SlT.nil _, hb9⟩
  rw [HT1.out.2.1]
  exact (HSL.out.mono (F' := fun x => F x ∨ x = w.heap.size + 2) (fun x hx => hx.elim (fun hx => by have := HF.out x hx; have := HB.out.size; show x < wd.heap.size; omega) (fun hx => by show x < wd.heap.size; omega))).st (hsW.mono fun x _ hx => .inr hx) (Gr.refl _ _) |>.mono fun x hx => .inl hx
set_option maxHeartbeats 8000000 in
theorem r_take_ack2 (h : RfR F w z m) (q : Pv) (hq : PvR F w q) (hF : ∀ x, F x → x < w.heap.size) (htk : q.pk.tkn = true) (hk : q.h.kd = 1) (h16 : hasB q.h.fl 16 = false) (hwi : witB q.h.sq 0 1152921504606846976 = true) (hdn : m.dn = false) (hhs : m.hs q.pk = true) (hn : z.n ≤ 1000000) : Calls Try.prog 11 #[.agg #[.int .i64 z.c0, .int .i64 m.pa, .int .i64 z.c2, .int .i64 z.c3, .int .i64 m.size, .int .i64 z.c5, .int .i64 z.c6, .int .i64 z.c7, .int .i64 z.c8, .int .i64 z.c9, .int .i64 z.c10, .int .i64 z.c11, .int .i64 z.c12, .int .i64 z.c13, .int .i64 m.sr, .int .i64 m.ds, .int .i64 m.cn, .int .i64 m.cl, .int .i64 m.base, .slice z.A z.n z.c, .slice z.J z.jn z.jc, .int .i64 m.jm.ps.length, .int .i64 m.jm.N, .int .i64 m.jm.T, .int .i64 m.ar, .int .i64 m.pl, .int .i64 m.pd, .bool m.dn], .agg #[.int .i64 q.h.kd, .int .i64 q.h.fl, .int .i64 q.h.pa, .int .i64 q.h.sr, .int .i64 q.h.ds, .int .i64 q.h.cn, .int .i64 q.h.sq, .int .i64 q.h.pu, .slice q.A q.n q.c]] w (RTk F w m q.pk) := by
  have hfl := hq.fl
  obtain ⟨W, hW⟩ : ∃ W, W = ((w.alloc (.cells #[.int .i64 z.c0, .int .i64 m.pa, .int .i64 z.c2, .int .i64 z.c3, .int .i64 m.size, .int .i64 z.c5, .int .i64 z.c6, .int .i64 z.c7, .int .i64 z.c8, .int .i64 z.c9, .int .i64 z.c10, .int .i64 z.c11, .int .i64 z.c12, .int .i64 z.c13, .int .i64 m.sr, .int .i64 m.ds, .int .i64 m.cn, .int .i64 m.cl, .int .i64 m.base, .slice z.A z.n z.c, .slice z.J z.jn z.jc, .int .i64 m.jm.ps.length, .int .i64 m.jm.N, .int .i64 m.jm.T, .int .i64 m.ar, .int .i64 m.pl, .int .i64 m.pd, .bool m.dn] 34)).alloc (.cells #[.int .i64 q.h.kd, .int .i64 q.h.fl, .int .i64 q.h.pa, .int .i64 q.h.sr, .int .i64 q.h.ds, .int .i64 q.h.cn, .int .i64 q.h.sq, .int .i64 q.h.pu, .slice q.A q.n q.c] 40)).alloc (.cells #[.int .i64 0, .int .i64 0, .int .i64 0, .int .i64 0, .int .i64 0, .int .i64 0, .int .i64 0, .int .i64 0, .int .i64 0, .int .i64 0, .int .i64 0, .int .i64 0, .int .i64 0, .int .i64 0, .int .i64 0, .int .i64 0, .int .i64 0, .int .i64 0, .int .i64 0, .slice none 0 0, .slice none 0 0, .int .i64 0, .int .i64 0, .int .i64 0, .int .i64 0, .int .i64 0, .int .i64 0, .bool false] 34) := ⟨_, rfl⟩
  have hb1 : Below w.heap.size w W := by rw [hW]; exact (((Below.refl _ w).alloc (Nat.le_refl _) _).alloc (by simp) _).alloc (by simp; omega) _
  have z1 : Bk W 34 w.heap.size [.int .i64 z.c0, .int .i64 m.pa, .int .i64 z.c2, .int .i64 z.c3, .int .i64 m.size, .int .i64 z.c5, .int .i64 z.c6, .int .i64 z.c7, .int .i64 z.c8, .int .i64 z.c9, .int .i64 z.c10, .int .i64 z.c11, .int .i64 z.c12, .int .i64 z.c13, .int .i64 m.sr, .int .i64 m.ds, .int .i64 m.cn, .int .i64 m.cl, .int .i64 m.base, .slice z.A z.n z.c, .slice z.J z.jn z.jc, .int .i64 m.jm.ps.length, .int .i64 m.jm.N, .int .i64 m.jm.T, .int .i64 m.ar, .int .i64 m.pl, .int .i64 m.pd, .bool m.dn] := by rw [hW]; exact ((Bk.new w 34 [.int .i64 z.c0, .int .i64 m.pa, .int .i64 z.c2, .int .i64 z.c3, .int .i64 m.size, .int .i64 z.c5, .int .i64 z.c6, .int .i64 z.c7, .int .i64 z.c8, .int .i64 z.c9, .int .i64 z.c10, .int .i64 z.c11, .int .i64 z.c12, .int .i64 z.c13, .int .i64 m.sr, .int .i64 m.ds, .int .i64 m.cn, .int .i64 m.cl, .int .i64 m.base, .slice z.A z.n z.c, .slice z.J z.jn z.jc, .int .i64 m.jm.ps.length, .int .i64 m.jm.N, .int .i64 m.jm.T, .int .i64 m.ar, .int .i64 m.pl, .int .i64 m.pd, .bool m.dn]).alloc _).alloc _
  have z2 : Bk W 40 (w.heap.size + 1) q.cl := by
    have := (Bk.new (w.alloc (.cells #[.int .i64 z.c0, .int .i64 m.pa, .int .i64 z.c2, .int .i64 z.c3, .int .i64 m.size, .int .i64 z.c5, .int .i64 z.c6, .int .i64 z.c7, .int .i64 z.c8, .int .i64 z.c9, .int .i64 z.c10, .int .i64 z.c11, .int .i64 z.c12, .int .i64 z.c13, .int .i64 m.sr, .int .i64 m.ds, .int .i64 m.cn, .int .i64 m.cl, .int .i64 m.base, .slice z.A z.n z.c, .slice z.J z.jn z.jc, .int .i64 m.jm.ps.length, .int .i64 m.jm.N, .int .i64 m.jm.T, .int .i64 m.ar, .int .i64 m.pl, .int .i64 m.pd, .bool m.dn] 34)) 40 q.cl).alloc (.cells #[.int .i64 0, .int .i64 0, .int .i64 0, .int .i64 0, .int .i64 0, .int .i64 0, .int .i64 0, .int .i64 0, .int .i64 0, .int .i64 0, .int .i64 0, .int .i64 0, .int .i64 0, .int .i64 0, .int .i64 0, .int .i64 0, .int .i64 0, .int .i64 0, .int .i64 0, .slice none 0 0, .slice none 0 0, .int .i64 0, .int .i64 0, .int .i64 0, .int .i64 0, .int .i64 0, .int .i64 0, .bool false] 34)
    rw [World.size_alloc] at this
    rw [hW]; exact this
  have z3 : Bk W 34 (w.heap.size + 2) [.int .i64 0, .int .i64 0, .int .i64 0, .int .i64 0, .int .i64 0, .int .i64 0, .int .i64 0, .int .i64 0, .int .i64 0, .int .i64 0, .int .i64 0, .int .i64 0, .int .i64 0, .int .i64 0, .int .i64 0, .int .i64 0, .int .i64 0, .int .i64 0, .int .i64 0, .slice none 0 0, .slice none 0 0, .int .i64 0, .int .i64 0, .int .i64 0, .int .i64 0, .int .i64 0, .int .i64 0, .bool false] := by
    have := Bk.new ((w.alloc (.cells #[.int .i64 z.c0, .int .i64 m.pa, .int .i64 z.c2, .int .i64 z.c3, .int .i64 m.size, .int .i64 z.c5, .int .i64 z.c6, .int .i64 z.c7, .int .i64 z.c8, .int .i64 z.c9, .int .i64 z.c10, .int .i64 z.c11, .int .i64 z.c12, .int .i64 z.c13, .int .i64 m.sr, .int .i64 m.ds, .int .i64 m.cn, .int .i64 m.cl, .int .i64 m.base, .slice z.A z.n z.c, .slice z.J z.jn z.jc, .int .i64 m.jm.ps.length, .int .i64 m.jm.N, .int .i64 m.jm.T, .int .i64 m.ar, .int .i64 m.pl, .int .i64 m.pd, .bool m.dn] 34)).alloc (.cells #[.int .i64 q.h.kd, .int .i64 q.h.fl, .int .i64 q.h.pa, .int .i64 q.h.sr, .int .i64 q.h.ds, .int .i64 q.h.cn, .int .i64 q.h.sq, .int .i64 q.h.pu, .slice q.A q.n q.c] 40)) 34 [.int .i64 0, .int .i64 0, .int .i64 0, .int .i64 0, .int .i64 0, .int .i64 0, .int .i64 0, .int .i64 0, .int .i64 0, .int .i64 0, .int .i64 0, .int .i64 0, .int .i64 0, .int .i64 0, .int .i64 0, .int .i64 0, .int .i64 0, .int .i64 0, .int .i64 0, .slice none 0 0, .slice none 0 0, .int .i64 0, .int .i64 0, .int .i64 0, .int .i64 0, .int .i64 0, .int .i64 0, .bool false]
    simp only [World.size_alloc] at this
    rw [hW]; exact this
  have hWz : W.heap.size = w.heap.size + 3 := by rw [hW]; simp
  have H := Lib.hid h
  have HQ := Lib.hid hq
  have HF := Lib.hid hF
  have HB := Lib.hid hb1
  clear h hq hF hb1
  have hdh : (m.dn || m.hs q.pk) = true := by rw [hhs, Bool.or_true]
  have hth : thB m q.h.sq = true := (thB_hs htk).trans hhs
  have HT1 : Hid (m.take q.pk = m ∧ m.ans q.pk = [(ansV m 2 q.pk).pk] ∧ m.told q.pk = []) := Lib.hid ⟨by unfold Rm.take; rw [if_neg (by rw [htk]; decide)]; rw [if_pos hdh], by unfold Rm.ans; rw [if_neg (by rw [htk]; decide)]; rw [if_pos hdh], by unfold Rm.told; rw [if_neg (by rw [htk]; decide)]; rw [if_pos hdh]⟩
  have HDN := Lib.hid hdn
  clear htk hdn
  have HH16 := Lib.hid (rhas_any q.h.fl 16 W (by decide) (by decide) hfl)
  rw [h16] at HH16
  have HWI := Lib.hid (r_within q.h.sq 0 1152921504606846976 W)
  rw [hwi] at HWI
  go_enter Try.func11, Try.ntmps11
  go_wp2_with fail
  rw [hk] at hW
  rw [← hW]
  clear hW hk
  refine HH16.out.mono ?_
  rintro en V ⟨rfl, rfl⟩
  clear HH16
  have e6 := z2.cell 6 rfl
  go_wp2_with fail
  refine HWI.out.mono ?_
  rintro en V ⟨rfl, rfl⟩
  clear HWI
  have e27 := z1.cell 27 rfl
  rw [HDN.out] at e27
  have HTH := Lib.hid (r_there (H.out.kp.below HB.out) hn q.h.sq)
  rw [hth] at HTH
  clear hdh hhs hth
  go_wp2_with (first
    | (with_reducible refine at_load 34 (.tmp 2) (by rfl) ?_
       refine wpList_load_bk_g rowRv (by rfl) (.tmp 2) rfl w.heap.size 0 rfl z1 [.int .i64 z.c0, .int .i64 m.pa, .int .i64 z.c2, .int .i64 z.c3, .int .i64 m.size, .int .i64 z.c5, .int .i64 z.c6, .int .i64 z.c7, .int .i64 z.c8, .int .i64 z.c9, .int .i64 z.c10, .int .i64 z.c11, .int .i64 z.c12, .int .i64 z.c13, .int .i64 m.sr, .int .i64 m.ds, .int .i64 m.cn, .int .i64 m.cl, .int .i64 m.base, .slice z.A z.n z.c, .slice z.J z.jn z.jc, .int .i64 m.jm.ps.length, .int .i64 m.jm.N, .int .i64 m.jm.T, .int .i64 m.ar, .int .i64 m.pl, .int .i64 m.pd, .bool m.dn] rfl rfl ?_))
  refine HTH.out.mono ?_
  rintro en V ⟨rfl, hbV⟩
  have HZ0 := And.intro (z1.below hbV) (And.intro (z2.below hbV) (z3.below hbV))
  have HB0 := Lib.hid (HB.out.trans (hbV.mono HB.out.size))
  have hzV := hbV.size
  clear z1 z2 z3 HB hbV HTH
  obtain ⟨z1, z2, z3⟩ := HZ0
  have HB := HB0
  clear HB0
  go_wp2_with fail
  refine wp_region_E (Below (w.heap.size + 2)) (by kernel_rfl) (fun wd hbd hsz => ?_)
  have HBD := Lib.hid hbd
  have hdz := hbd.size
  have y1 := Lib.hid (z1.below hbd)
  have y2 := Lib.hid (z2.below hbd)
  have y3 := Lib.hid (z3.below hbd)
  clear hsz
  (refine takeE (belowTr (w.heap.size + 2)) 0 (by simp only [List.getElem?_toArray, List.getElem?_cons_succ, List.getElem?_cons_zero]; rfl) (by kernel_rfl) (by kernel_rfl) (by kernel_rfl) (by exact fun _ _ _ h => h) (by first | (refine Or.inl ⟨by rfl, ?_⟩; intro W hW; exact exec_load_bk rowRv _ rfl w.heap.size 0 rfl (y1.out.keep hW (by omega)) [.int .i64 z.c0, .int .i64 m.pa, .int .i64 z.c2, .int .i64 z.c3, .int .i64 m.size, .int .i64 z.c5, .int .i64 z.c6, .int .i64 z.c7, .int .i64 z.c8, .int .i64 z.c9, .int .i64 z.c10, .int .i64 z.c11, .int .i64 z.c12, .int .i64 z.c13, .int .i64 m.sr, .int .i64 m.ds, .int .i64 m.cn, .int .i64 m.cl, .int .i64 m.base, .slice z.A z.n z.c, .slice z.J z.jn z.jc, .int .i64 m.jm.ps.length, .int .i64 m.jm.N, .int .i64 m.jm.T, .int .i64 m.ar, .int .i64 m.pl, .int .i64 m.pd, .bool m.dn] rfl rfl) | exact Or.inr ⟨by rfl, rfl⟩) ?_; try simp only [Act.put, List.setIfInBounds_toArray, List.set_cons_zero, List.set_cons_succ])
  (refine takeE (belowTr (w.heap.size + 2)) 1 (by simp only [List.getElem?_toArray, List.getElem?_cons_succ, List.getElem?_cons_zero]; rfl) (by kernel_rfl) (by kernel_rfl) (by kernel_rfl) (by exact fun _ _ _ h => h) (by first | (refine Or.inl ⟨by rfl, ?_⟩; intro W hW; exact exec_load_bk rowRv _ rfl w.heap.size 0 rfl (y1.out.keep hW (by omega)) [.int .i64 z.c0, .int .i64 m.pa, .int .i64 z.c2, .int .i64 z.c3, .int .i64 m.size, .int .i64 z.c5, .int .i64 z.c6, .int .i64 z.c7, .int .i64 z.c8, .int .i64 z.c9, .int .i64 z.c10, .int .i64 z.c11, .int .i64 z.c12, .int .i64 z.c13, .int .i64 m.sr, .int .i64 m.ds, .int .i64 m.cn, .int .i64 m.cl, .int .i64 m.base, .slice z.A z.n z.c, .slice z.J z.jn z.jc, .int .i64 m.jm.ps.length, .int .i64 m.jm.N, .int .i64 m.jm.T, .int .i64 m.ar, .int .i64 m.pl, .int .i64 m.pd, .bool m.dn] rfl rfl) | exact Or.inr ⟨by rfl, rfl⟩) ?_; try simp only [Act.put, List.setIfInBounds_toArray, List.set_cons_zero, List.set_cons_succ])
  (refine takeE (belowTr (w.heap.size + 2)) 2 (by simp only [List.getElem?_toArray, List.getElem?_cons_succ, List.getElem?_cons_zero]; rfl) (by kernel_rfl) (by kernel_rfl) (by kernel_rfl) (by exact fun _ _ _ h => h) (by first | (refine Or.inl ⟨by rfl, ?_⟩; intro W hW; exact exec_loadRow rowP _ rfl (w.heap.size + 1) 0 rfl q (Bk.pk (y2.out.keep hW (by omega)))) | exact Or.inr ⟨by rfl, rfl⟩) ?_; try simp only [Act.put, List.setIfInBounds_toArray, List.set_cons_zero, List.set_cons_succ])
  refine wpAnyE_one (i := 3) (by kernel_rfl) (by simp only [List.getElem?_toArray, List.getElem?_cons_succ, List.getElem?_cons_zero]; rfl) (fun K hK => ?_)
  go_simp
  refine (r_answer (z := z) (m := m) 2 q _).mono ?_
  rintro en w7 ⟨A, c, rfl, hsl, hb7⟩
  have HSL := Lib.hid hsl
  have HB7 := Lib.hid hb7
  have hz7 := hb7.size
  clear hsl hb7
  refine hK.out _ _ (HB7.out.mono (by omega)) ?_
  clear hK K
  try simp only [Act.put, List.setIfInBounds_toArray, List.set_cons_zero, List.set_cons_succ]
  refine wpAnyE_one (i := 4) (by kernel_rfl) (by simp only [List.getElem?_toArray, List.getElem?_cons_succ, List.getElem?_cons_zero]; rfl) (fun K hK => ?_)
  refine opwp_store_bk rowRv rfl (.tmp 4) (.tmp 33) rfl (w.heap.size + 2) 0 rfl (y3.out.below HB7.out) [.int .i64 z.c0, .int .i64 m.pa, .int .i64 z.c2, .int .i64 z.c3, .int .i64 m.size, .int .i64 z.c5, .int .i64 z.c6, .int .i64 z.c7, .int .i64 z.c8, .int .i64 z.c9, .int .i64 z.c10, .int .i64 z.c11, .int .i64 z.c12, .int .i64 z.c13, .int .i64 m.sr, .int .i64 m.ds, .int .i64 m.cn, .int .i64 m.cl, .int .i64 m.base, .slice z.A z.n z.c, .slice z.J z.jn z.jc, .int .i64 m.jm.ps.length, .int .i64 m.jm.N, .int .i64 m.jm.T, .int .i64 m.ar, .int .i64 m.pl, .int .i64 m.pd, .bool m.dn] rfl rfl (by decide) (Rm.rl_one _ _) ?_
  intro w9 z9 hw9
  rw [lay_all _ _ (by rfl)] at z9
  have HZ9 := Lib.hid z9
  have HB9 := Lib.hid (hw9.below (Nat.le_refl _) (by omega) : Below (w.heap.size + 2) w7 w9)
  have HW9 := Lib.hid hw9
  clear z9 hw9
  refine hK.out _ _ HB9.out ?_
  clear hK K
  try simp only [Act.put, List.setIfInBounds_toArray, List.set_cons_zero, List.set_cons_succ]
  (refine takeE (belowTr (w.heap.size + 2)) 5 (by simp only [List.getElem?_toArray, List.getElem?_cons_succ, List.getElem?_cons_zero]; rfl) (by kernel_rfl) (by kernel_rfl) (by kernel_rfl) (by exact fun _ _ _ h => h) (by first | (refine Or.inl ⟨by rfl, ?_⟩; intro W hW; go_simp; try with_reducible rfl) | exact Or.inr ⟨by rfl, rfl⟩) ?_; try simp only [Act.put, List.setIfInBounds_toArray, List.set_cons_zero, List.set_cons_succ])
  (refine takeE (belowTr (w.heap.size + 2)) 6 (by simp only [List.getElem?_toArray, List.getElem?_cons_succ, List.getElem?_cons_zero]; rfl) (by kernel_rfl) (by kernel_rfl) (by kernel_rfl) (by exact fun _ _ _ h => h) (by first | (refine Or.inl ⟨by rfl, ?_⟩; intro W hW; go_simp; try with_reducible rfl) | exact Or.inr ⟨by rfl, rfl⟩) ?_; try simp only [Act.put, List.setIfInBounds_toArray, List.set_cons_zero, List.set_cons_succ])
  refine wpAnyE_done (by kernel_rfl) ?_ _
  skip
  go_wp2
  have hb9 : Below w.heap.size w w9 := (((HB.out.trans (HBD.out.mono HB.out.size)).trans (HB7.out.mono (by have := HB.out.size; omega))).trans (HB9.out.mono (by omega)))
  have hsW : St (· = w.heap.size + 2) w7 w9 := ⟨HW9.out.os, HW9.out.tape, HW9.out.output, HW9.out.size, fun x hx hn => HW9.out.block x hx (by intro he; injection he with he; exact hn he)⟩
  refine bodyPost_ret (results_cell_tmp2 rfl rfl (rowRv.load HZ9.out 0 (cs := [.int .i64 z.c0, .int .i64 m.pa, .int .i64 z.c2, .int .i64 z.c3, .int .i64 m.size, .int .i64 z.c5, .int .i64 z.c6, .int .i64 z.c7, .int .i64 z.c8, .int .i64 z.c9, .int .i64 z.c10, .int .i64 z.c11, .int .i64 z.c12, .int .i64 z.c13, .int .i64 m.sr, .int .i64 m.ds, .int .i64 m.cn, .int .i64 m.cl, .int .i64 m.base, .slice z.A z.n z.c, .slice z.J z.jn z.jc, .int .i64 m.jm.ps.length, .int .i64 m.jm.N, .int .i64 m.jm.T, .int .i64 m.ar, .int .i64 m.pl, .int .i64 m.pd, .bool m.dn]) rfl rfl)) rfl ⟨z, A, 1, c, none, 0, 0, by rw [HT1.out.1]; rfl, by rw [HT1.out.1]; exact H.out.below hb9, ?_, by rw [HT1.out.2.2]; exact SlT.nil _, hb9⟩
  rw [HT1.out.2.1]
  exact (HSL.out.mono (F' := fun x => F x ∨ x = w.heap.size + 2) (fun x hx => hx.elim (fun hx => by have := HF.out x hx; have := HB.out.size; show x < wd.heap.size; omega) (fun hx => by show x < wd.heap.size; omega))).st (hsW.mono fun x _ hx => .inr hx) (Gr.refl _ _) |>.mono fun x hx => .inl hx
set_option maxHeartbeats 8000000 in
theorem r_take_out (h : RfR F w z m) (q : Pv) (hq : PvR F w q) (hF : ∀ x, F x → x < w.heap.size) (htk : q.pk.tkn = true) (hk : q.h.kd = 1) (h16 : hasB q.h.fl 16 = false) (hwi : witB q.h.sq 0 1152921504606846976 = true) (hdn : m.dn = false) (hhs : m.hs q.pk = false) (hn : z.n ≤ 1000000) (hin : m.inw q.pk = false) (hbz : m.base + m.size ≤ 4611686018427387904) : Calls Try.prog 11 #[.agg #[.int .i64 z.c0, .int .i64 m.pa, .int .i64 z.c2, .int .i64 z.c3, .int .i64 m.size, .int .i64 z.c5, .int .i64 z.c6, .int .i64 z.c7, .int .i64 z.c8, .int .i64 z.c9, .int .i64 z.c10, .int .i64 z.c11, .int .i64 z.c12, .int .i64 z.c13, .int .i64 m.sr, .int .i64 m.ds, .int .i64 m.cn, .int .i64 m.cl, .int .i64 m.base, .slice z.A z.n z.c, .slice z.J z.jn z.jc, .int .i64 m.jm.ps.length, .int .i64 m.jm.N, .int .i64 m.jm.T, .int .i64 m.ar, .int .i64 m.pl, .int .i64 m.pd, .bool m.dn], .agg #[.int .i64 q.h.kd, .int .i64 q.h.fl, .int .i64 q.h.pa, .int .i64 q.h.sr, .int .i64 q.h.ds, .int .i64 q.h.cn, .int .i64 q.h.sq, .int .i64 q.h.pu, .slice q.A q.n q.c]] w (RTk F w m q.pk) := by
  have hfl := hq.fl
  obtain ⟨W, hW⟩ : ∃ W, W = ((w.alloc (.cells #[.int .i64 z.c0, .int .i64 m.pa, .int .i64 z.c2, .int .i64 z.c3, .int .i64 m.size, .int .i64 z.c5, .int .i64 z.c6, .int .i64 z.c7, .int .i64 z.c8, .int .i64 z.c9, .int .i64 z.c10, .int .i64 z.c11, .int .i64 z.c12, .int .i64 z.c13, .int .i64 m.sr, .int .i64 m.ds, .int .i64 m.cn, .int .i64 m.cl, .int .i64 m.base, .slice z.A z.n z.c, .slice z.J z.jn z.jc, .int .i64 m.jm.ps.length, .int .i64 m.jm.N, .int .i64 m.jm.T, .int .i64 m.ar, .int .i64 m.pl, .int .i64 m.pd, .bool m.dn] 34)).alloc (.cells #[.int .i64 q.h.kd, .int .i64 q.h.fl, .int .i64 q.h.pa, .int .i64 q.h.sr, .int .i64 q.h.ds, .int .i64 q.h.cn, .int .i64 q.h.sq, .int .i64 q.h.pu, .slice q.A q.n q.c] 40)).alloc (.cells #[.int .i64 0, .int .i64 0, .int .i64 0, .int .i64 0, .int .i64 0, .int .i64 0, .int .i64 0, .int .i64 0, .int .i64 0, .int .i64 0, .int .i64 0, .int .i64 0, .int .i64 0, .int .i64 0, .int .i64 0, .int .i64 0, .int .i64 0, .int .i64 0, .int .i64 0, .slice none 0 0, .slice none 0 0, .int .i64 0, .int .i64 0, .int .i64 0, .int .i64 0, .int .i64 0, .int .i64 0, .bool false] 34) := ⟨_, rfl⟩
  have hb1 : Below w.heap.size w W := by rw [hW]; exact (((Below.refl _ w).alloc (Nat.le_refl _) _).alloc (by simp) _).alloc (by simp; omega) _
  have z1 : Bk W 34 w.heap.size [.int .i64 z.c0, .int .i64 m.pa, .int .i64 z.c2, .int .i64 z.c3, .int .i64 m.size, .int .i64 z.c5, .int .i64 z.c6, .int .i64 z.c7, .int .i64 z.c8, .int .i64 z.c9, .int .i64 z.c10, .int .i64 z.c11, .int .i64 z.c12, .int .i64 z.c13, .int .i64 m.sr, .int .i64 m.ds, .int .i64 m.cn, .int .i64 m.cl, .int .i64 m.base, .slice z.A z.n z.c, .slice z.J z.jn z.jc, .int .i64 m.jm.ps.length, .int .i64 m.jm.N, .int .i64 m.jm.T, .int .i64 m.ar, .int .i64 m.pl, .int .i64 m.pd, .bool m.dn] := by rw [hW]; exact ((Bk.new w 34 [.int .i64 z.c0, .int .i64 m.pa, .int .i64 z.c2, .int .i64 z.c3, .int .i64 m.size, .int .i64 z.c5, .int .i64 z.c6, .int .i64 z.c7, .int .i64 z.c8, .int .i64 z.c9, .int .i64 z.c10, .int .i64 z.c11, .int .i64 z.c12, .int .i64 z.c13, .int .i64 m.sr, .int .i64 m.ds, .int .i64 m.cn, .int .i64 m.cl, .int .i64 m.base, .slice z.A z.n z.c, .slice z.J z.jn z.jc, .int .i64 m.jm.ps.length, .int .i64 m.jm.N, .int .i64 m.jm.T, .int .i64 m.ar, .int .i64 m.pl, .int .i64 m.pd, .bool m.dn]).alloc _).alloc _
  have z2 : Bk W 40 (w.heap.size + 1) q.cl := by
    have := (Bk.new (w.alloc (.cells #[.int .i64 z.c0, .int .i64 m.pa, .int .i64 z.c2, .int .i64 z.c3, .int .i64 m.size, .int .i64 z.c5, .int .i64 z.c6, .int .i64 z.c7, .int .i64 z.c8, .int .i64 z.c9, .int .i64 z.c10, .int .i64 z.c11, .int .i64 z.c12, .int .i64 z.c13, .int .i64 m.sr, .int .i64 m.ds, .int .i64 m.cn, .int .i64 m.cl, .int .i64 m.base, .slice z.A z.n z.c, .slice z.J z.jn z.jc, .int .i64 m.jm.ps.length, .int .i64 m.jm.N, .int .i64 m.jm.T, .int .i64 m.ar, .int .i64 m.pl, .int .i64 m.pd, .bool m.dn] 34)) 40 q.cl).alloc (.cells #[.int .i64 0, .int .i64 0, .int .i64 0, .int .i64 0, .int .i64 0, .int .i64 0, .int .i64 0, .int .i64 0, .int .i64 0, .int .i64 0, .int .i64 0, .int .i64 0, .int .i64 0, .int .i64 0, .int .i64 0, .int .i64 0, .int .i64 0, .int .i64 0, .int .i64 0, .slice none 0 0, .slice none 0 0, .int .i64 0, .int .i64 0, .int .i64 0, .int .i64 0, .int .i64 0, .int .i64 0, .bool false] 34)
    rw [World.size_alloc] at this
    rw [hW]; exact this
  have z3 : Bk W 34 (w.heap.size + 2) [.int .i64 0, .int .i64 0, .int .i64 0, .int .i64 0, .int .i64 0, .int .i64 0, .int .i64 0, .int .i64 0, .int .i64 0, .int .i64 0, .int .i64 0, .int .i64 0, .int .i64 0, .int .i64 0, .int .i64 0, .int .i64 0, .int .i64 0, .int .i64 0, .int .i64 0, .slice none 0 0, .slice none 0 0, .int .i64 0, .int .i64 0, .int .i64 0, .int .i64 0, .int .i64 0, .int .i64 0, .bool false] := by
    have := Bk.new ((w.alloc (.cells #[.int .i64 z.c0, .int .i64 m.pa, .int .i64 z.c2, .int .i64 z.c3, .int .i64 m.size, .int .i64 z.c5, .int .i64 z.c6, .int .i64 z.c7, .int .i64 z.c8, .int .i64 z.c9, .int .i64 z.c10, .int .i64 z.c11, .int .i64 z.c12, .int .i64 z.c13, .int .i64 m.sr, .int .i64 m.ds, .int .i64 m.cn, .int .i64 m.cl, .int .i64 m.base, .slice z.A z.n z.c, .slice z.J z.jn z.jc, .int .i64 m.jm.ps.length, .int .i64 m.jm.N, .int .i64 m.jm.T, .int .i64 m.ar, .int .i64 m.pl, .int .i64 m.pd, .bool m.dn] 34)).alloc (.cells #[.int .i64 q.h.kd, .int .i64 q.h.fl, .int .i64 q.h.pa, .int .i64 q.h.sr, .int .i64 q.h.ds, .int .i64 q.h.cn, .int .i64 q.h.sq, .int .i64 q.h.pu, .slice q.A q.n q.c] 40)) 34 [.int .i64 0, .int .i64 0, .int .i64 0, .int .i64 0, .int .i64 0, .int .i64 0, .int .i64 0, .int .i64 0, .int .i64 0, .int .i64 0, .int .i64 0, .int .i64 0, .int .i64 0, .int .i64 0, .int .i64 0, .int .i64 0, .int .i64 0, .int .i64 0, .int .i64 0, .slice none 0 0, .slice none 0 0, .int .i64 0, .int .i64 0, .int .i64 0, .int .i64 0, .int .i64 0, .int .i64 0, .bool false]
    simp only [World.size_alloc] at this
    rw [hW]; exact this
  have hWz : W.heap.size = w.heap.size + 3 := by rw [hW]; simp
  have H := Lib.hid h
  have HQ := Lib.hid hq
  have HF := Lib.hid hF
  have HB := Lib.hid hb1
  clear h hq hF hb1
  have hdh : ¬ (m.dn || m.hs q.pk) = true := by rw [hdn, hhs]; decide
  have hth : thB m q.h.sq = false := (thB_hs htk).trans hhs
  have HT1 : Hid (m.take q.pk = m ∧ m.ans q.pk = [] ∧ m.told q.pk = []) := Lib.hid ⟨by unfold Rm.take; rw [if_neg (by rw [htk]; decide)]; rw [if_neg hdh, if_pos hin], by unfold Rm.ans; rw [if_neg (by rw [htk]; decide)]; rw [if_neg hdh, if_pos hin], by unfold Rm.told; rw [if_neg (by rw [htk]; decide)]; rw [if_neg hdh, if_pos hin]⟩
  have hge : ((m.base : Int) + m.size) ≤ q.h.sq := by
    unfold Rm.inw at hin
    have := of_decide_eq_false hin
    have h9 : q.pk.h.sq = q.h.sq := rfl
    omega
  have HDN := Lib.hid hdn
  clear htk hdn hin hdh hhs
  have HH16 := Lib.hid (rhas_any q.h.fl 16 W (by decide) (by decide) hfl)
  rw [h16] at HH16
  have HWI := Lib.hid (r_within q.h.sq 0 1152921504606846976 W)
  rw [hwi] at HWI
  go_enter Try.func11, Try.ntmps11
  go_wp2_with fail
  rw [hk] at hW
  rw [← hW]
  clear hW hk
  refine HH16.out.mono ?_
  rintro en V ⟨rfl, rfl⟩
  clear HH16
  have e6 := z2.cell 6 rfl
  go_wp2_with fail
  refine HWI.out.mono ?_
  rintro en V ⟨rfl, rfl⟩
  clear HWI
  have e27 := z1.cell 27 rfl
  rw [HDN.out] at e27
  have HTH := Lib.hid (r_there (H.out.kp.below HB.out) hn q.h.sq)
  rw [hth] at HTH
  clear hth
  go_wp2_with (first
    | (with_reducible refine at_load 34 (.tmp 2) (by rfl) ?_
       refine wpList_load_bk_g rowRv (by rfl) (.tmp 2) rfl w.heap.size 0 rfl z1 [.int .i64 z.c0, .int .i64 m.pa, .int .i64 z.c2, .int .i64 z.c3, .int .i64 m.size, .int .i64 z.c5, .int .i64 z.c6, .int .i64 z.c7, .int .i64 z.c8, .int .i64 z.c9, .int .i64 z.c10, .int .i64 z.c11, .int .i64 z.c12, .int .i64 z.c13, .int .i64 m.sr, .int .i64 m.ds, .int .i64 m.cn, .int .i64 m.cl, .int .i64 m.base, .slice z.A z.n z.c, .slice z.J z.jn z.jc, .int .i64 m.jm.ps.length, .int .i64 m.jm.N, .int .i64 m.jm.T, .int .i64 m.ar, .int .i64 m.pl, .int .i64 m.pd, .bool m.dn] rfl rfl ?_))
  refine HTH.out.mono ?_
  rintro en V ⟨rfl, hbV⟩
  have HZ0 := And.intro (z1.below hbV) (And.intro (z2.below hbV) (z3.below hbV))
  have HB0 := Lib.hid (HB.out.trans (hbV.mono HB.out.size))
  have hzV := hbV.size
  clear z1 z2 z3 HB hbV HTH
  obtain ⟨z1, z2, z3⟩ := HZ0
  have HB := HB0
  clear HB0
  have e6 := z2.cell 6 rfl
  have e4 := z1.cell 4 rfl
  have e18 := z1.cell 18 rfl
  go_wp2_with (first
    | (with_reducible refine at_load 34 (.tmp 2) (by rfl) ?_
       refine wpList_load_bk rowRv rfl (.tmp 2) rfl w.heap.size 0 rfl z1 [.int .i64 z.c0, .int .i64 m.pa, .int .i64 z.c2, .int .i64 z.c3, .int .i64 m.size, .int .i64 z.c5, .int .i64 z.c6, .int .i64 z.c7, .int .i64 z.c8, .int .i64 z.c9, .int .i64 z.c10, .int .i64 z.c11, .int .i64 z.c12, .int .i64 z.c13, .int .i64 m.sr, .int .i64 m.ds, .int .i64 m.cn, .int .i64 m.cl, .int .i64 m.base, .slice z.A z.n z.c, .slice z.J z.jn z.jc, .int .i64 m.jm.ps.length, .int .i64 m.jm.N, .int .i64 m.jm.T, .int .i64 m.ar, .int .i64 m.pl, .int .i64 m.pd, .bool m.dn] rfl rfl ?_)
    | (with_reducible refine at_store 34 (.tmp 4) (.tmp 47) (by rfl) ?_
       refine wpList_store_bk rowRv rfl (.tmp 4) (.tmp 47) rfl (w.heap.size + 2) 0 rfl z3 [.int .i64 z.c0, .int .i64 m.pa, .int .i64 z.c2, .int .i64 z.c3, .int .i64 m.size, .int .i64 z.c5, .int .i64 z.c6, .int .i64 z.c7, .int .i64 z.c8, .int .i64 z.c9, .int .i64 z.c10, .int .i64 z.c11, .int .i64 z.c12, .int .i64 z.c13, .int .i64 m.sr, .int .i64 m.ds, .int .i64 m.cn, .int .i64 m.cl, .int .i64 m.base, .slice z.A z.n z.c, .slice z.J z.jn z.jc, .int .i64 m.jm.ps.length, .int .i64 m.jm.N, .int .i64 m.jm.T, .int .i64 m.ar, .int .i64 m.pl, .int .i64 m.pd, .bool m.dn] rfl rfl (by decide) (Rm.rl_one _ _) ?_
       rintro w9 z9 hw9
       rw [lay_all _ _ (by rfl)] at z9))
  have hb9 : Below w.heap.size w w9 := HB.out.trans (hw9.below (by omega) HB.out.size)
  exact bodyPost_ret (results_cell_tmp2 rfl rfl (rowRv.load z9 0 (cs := [.int .i64 z.c0, .int .i64 m.pa, .int .i64 z.c2, .int .i64 z.c3, .int .i64 m.size, .int .i64 z.c5, .int .i64 z.c6, .int .i64 z.c7, .int .i64 z.c8, .int .i64 z.c9, .int .i64 z.c10, .int .i64 z.c11, .int .i64 z.c12, .int .i64 z.c13, .int .i64 m.sr, .int .i64 m.ds, .int .i64 m.cn, .int .i64 m.cl, .int .i64 m.base, .slice z.A z.n z.c, .slice z.J z.jn z.jc, .int .i64 m.jm.ps.length, .int .i64 m.jm.N, .int .i64 m.jm.T, .int .i64 m.ar, .int .i64 m.pl, .int .i64 m.pd, .bool m.dn]) rfl rfl)) rfl ⟨z, none, 0, 0, none, 0, 0, by rw [HT1.out.1]; rfl, by rw [HT1.out.1]; exact H.out.below hb9, by rw [HT1.out.2.1]; exact SlP.nil _ _, by rw [HT1.out.2.2]; exact SlT.nil _, hb9⟩

end
end Go.Proofs.Ytmmjhijgedboiaa
namespace Go.Proofs.Ytmmjhijgedboiaa
open Go.RowKit Go.Shelf
def F3 (F : Nat → Prop) (n : Nat) : Nat → Prop := fun x => F x ∨ (n ≤ x ∧ x < n + 3)
section
variable {F : Nat → Prop} {w w' : World} {m : Rm} {z : Zr}
theorem RfR.three (h : RfR F w z m) : RfR (F3 F w.heap.size) w z m := ⟨h.kp.st (St.refl _ _) (fun x hx => hx.elim .inl (fun h' => .inr h'.1)), h.jn, fun x hx hf => hf.elim (h.jo x hx) (fun h' => by have := h.jn.lt x hx; omega)⟩
theorem RfR.mono {F' : Nat → Prop} (h : RfR F w z m) (hF : ∀ x, F' x → F x) : RfR F' w z m := ⟨h.kp.mono hF, h.jn, fun x hx hf => h.jo x hx (hF x hf)⟩
set_option maxHeartbeats 8000000 in
theorem r_take_cnt (h : RfR F w z m) (q : Pv) (hq : PvR F w q) (hF : ∀ x, F x → x < w.heap.size) (htk : q.pk.tkn = true) (hk : q.h.kd = 1) (h16 : hasB q.h.fl 16 = false) (hwi : witB q.h.sq 0 1152921504606846976 = true) (hdn : m.dn = false) (hhs : m.hs q.pk = false) (hn : z.n ≤ 1000000) (hin : m.inw q.pk = true) (hbz : m.base + m.size ≤ 4611686018427387904) (hct : m.ar < 1000000000 ∧ m.pd < 1000000000) (h8 : hasB q.h.fl 8 = true) : Calls Try.prog 11 #[.agg #[.int .i64 z.c0, .int .i64 m.pa, .int .i64 z.c2, .int .i64 z.c3, .int .i64 m.size, .int .i64 z.c5, .int .i64 z.c6, .int .i64 z.c7, .int .i64 z.c8, .int .i64 z.c9, .int .i64 z.c10, .int .i64 z.c11, .int .i64 z.c12, .int .i64 z.c13, .int .i64 m.sr, .int .i64 m.ds, .int .i64 m.cn, .int .i64 m.cl, .int .i64 m.base, .slice z.A z.n z.c, .slice z.J z.jn z.jc, .int .i64 m.jm.ps.length, .int .i64 m.jm.N, .int .i64 m.jm.T, .int .i64 m.ar, .int .i64 m.pl, .int .i64 m.pd, .bool m.dn], .agg #[.int .i64 q.h.kd, .int .i64 q.h.fl, .int .i64 q.h.pa, .int .i64 q.h.sr, .int .i64 q.h.ds, .int .i64 q.h.cn, .int .i64 q.h.sq, .int .i64 q.h.pu, .slice q.A q.n q.c]] w (RTk F w m q.pk) := by
  have hfl := hq.fl
  obtain ⟨W, hW⟩ : ∃ W, W = ((w.alloc (.cells #[.int .i64 z.c0, .int .i64 m.pa, .int .i64 z.c2, .int .i64 z.c3, .int .i64 m.size, .int .i64 z.c5, .int .i64 z.c6, .int .i64 z.c7, .int .i64 z.c8, .int .i64 z.c9, .int .i64 z.c10, .int .i64 z.c11, .int .i64 z.c12, .int .i64 z.c13, .int .i64 m.sr, .int .i64 m.ds, .int .i64 m.cn, .int .i64 m.cl, .int .i64 m.base, .slice z.A z.n z.c, .slice z.J z.jn z.jc, .int .i64 m.jm.ps.length, .int .i64 m.jm.N, .int .i64 m.jm.T, .int .i64 m.ar, .int .i64 m.pl, .int .i64 m.pd, .bool m.dn] 34)).alloc (.cells #[.int .i64 q.h.kd, .int .i64 q.h.fl, .int .i64 q.h.pa, .int .i64 q.h.sr, .int .i64 q.h.ds, .int .i64 q.h.cn, .int .i64 q.h.sq, .int .i64 q.h.pu, .slice q.A q.n q.c] 40)).alloc (.cells #[.int .i64 0, .int .i64 0, .int .i64 0, .int .i64 0, .int .i64 0, .int .i64 0, .int .i64 0, .int .i64 0, .int .i64 0, .int .i64 0, .int .i64 0, .int .i64 0, .int .i64 0, .int .i64 0, .int .i64 0, .int .i64 0, .int .i64 0, .int .i64 0, .int .i64 0, .slice none 0 0, .slice none 0 0, .int .i64 0, .int .i64 0, .int .i64 0, .int .i64 0, .int .i64 0, .int .i64 0, .bool false] 34) := ⟨_, rfl⟩
  have hb1 : Below w.heap.size w W := by rw [hW]; exact (((Below.refl _ w).alloc (Nat.le_refl _) _).alloc (by simp) _).alloc (by simp; omega) _
  have z1 : Bk W 34 w.heap.size [.int .i64 z.c0, .int .i64 m.pa, .int .i64 z.c2, .int .i64 z.c3, .int .i64 m.size, .int .i64 z.c5, .int .i64 z.c6, .int .i64 z.c7, .int .i64 z.c8, .int .i64 z.c9, .int .i64 z.c10, .int .i64 z.c11, .int .i64 z.c12, .int .i64 z.c13, .int .i64 m.sr, .int .i64 m.ds, .int .i64 m.cn, .int .i64 m.cl, .int .i64 m.base, .slice z.A z.n z.c, .slice z.J z.jn z.jc, .int .i64 m.jm.ps.length, .int .i64 m.jm.N, .int .i64 m.jm.T, .int .i64 m.ar, .int .i64 m.pl, .int .i64 m.pd, .bool m.dn] := by rw [hW]; exact ((Bk.new w 34 [.int .i64 z.c0, .int .i64 m.pa, .int .i64 z.c2, .int .i64 z.c3, .int .i64 m.size, .int .i64 z.c5, .int .i64 z.c6, .int .i64 z.c7, .int .i64 z.c8, .int .i64 z.c9, .int .i64 z.c10, .int .i64 z.c11, .int .i64 z.c12, .int .i64 z.c13, .int .i64 m.sr, .int .i64 m.ds, .int .i64 m.cn, .int .i64 m.cl, .int .i64 m.base, .slice z.A z.n z.c, .slice z.J z.jn z.jc, .int .i64 m.jm.ps.length, .int .i64 m.jm.N, .int .i64 m.jm.T, .int .i64 m.ar, .int .i64 m.pl, .int .i64 m.pd, .bool m.dn]).alloc _).alloc _
  have z2 : Bk W 40 (w.heap.size + 1) q.cl := by
    have := (Bk.new (w.alloc (.cells #[.int .i64 z.c0, .int .i64 m.pa, .int .i64 z.c2, .int .i64 z.c3, .int .i64 m.size, .int .i64 z.c5, .int .i64 z.c6, .int .i64 z.c7, .int .i64 z.c8, .int .i64 z.c9, .int .i64 z.c10, .int .i64 z.c11, .int .i64 z.c12, .int .i64 z.c13, .int .i64 m.sr, .int .i64 m.ds, .int .i64 m.cn, .int .i64 m.cl, .int .i64 m.base, .slice z.A z.n z.c, .slice z.J z.jn z.jc, .int .i64 m.jm.ps.length, .int .i64 m.jm.N, .int .i64 m.jm.T, .int .i64 m.ar, .int .i64 m.pl, .int .i64 m.pd, .bool m.dn] 34)) 40 q.cl).alloc (.cells #[.int .i64 0, .int .i64 0, .int .i64 0, .int .i64 0, .int .i64 0, .int .i64 0, .int .i64 0, .int .i64 0, .int .i64 0, .int .i64 0, .int .i64 0, .int .i64 0, .int .i64 0, .int .i64 0, .int .i64 0, .int .i64 0, .int .i64 0, .int .i64 0, .int .i64 0, .slice none 0 0, .slice none 0 0, .int .i64 0, .int .i64 0, .int .i64 0, .int .i64 0, .int .i64 0, .int .i64 0, .bool false] 34)
    rw [World.size_alloc] at this
    rw [hW]; exact this
  have z3 : Bk W 34 (w.heap.size + 2) [.int .i64 0, .int .i64 0, .int .i64 0, .int .i64 0, .int .i64 0, .int .i64 0, .int .i64 0, .int .i64 0, .int .i64 0, .int .i64 0, .int .i64 0, .int .i64 0, .int .i64 0, .int .i64 0, .int .i64 0, .int .i64 0, .int .i64 0, .int .i64 0, .int .i64 0, .slice none 0 0, .slice none 0 0, .int .i64 0, .int .i64 0, .int .i64 0, .int .i64 0, .int .i64 0, .int .i64 0, .bool false] := by
    have := Bk.new ((w.alloc (.cells #[.int .i64 z.c0, .int .i64 m.pa, .int .i64 z.c2, .int .i64 z.c3, .int .i64 m.size, .int .i64 z.c5, .int .i64 z.c6, .int .i64 z.c7, .int .i64 z.c8, .int .i64 z.c9, .int .i64 z.c10, .int .i64 z.c11, .int .i64 z.c12, .int .i64 z.c13, .int .i64 m.sr, .int .i64 m.ds, .int .i64 m.cn, .int .i64 m.cl, .int .i64 m.base, .slice z.A z.n z.c, .slice z.J z.jn z.jc, .int .i64 m.jm.ps.length, .int .i64 m.jm.N, .int .i64 m.jm.T, .int .i64 m.ar, .int .i64 m.pl, .int .i64 m.pd, .bool m.dn] 34)).alloc (.cells #[.int .i64 q.h.kd, .int .i64 q.h.fl, .int .i64 q.h.pa, .int .i64 q.h.sr, .int .i64 q.h.ds, .int .i64 q.h.cn, .int .i64 q.h.sq, .int .i64 q.h.pu, .slice q.A q.n q.c] 40)) 34 [.int .i64 0, .int .i64 0, .int .i64 0, .int .i64 0, .int .i64 0, .int .i64 0, .int .i64 0, .int .i64 0, .int .i64 0, .int .i64 0, .int .i64 0, .int .i64 0, .int .i64 0, .int .i64 0, .int .i64 0, .int .i64 0, .int .i64 0, .int .i64 0, .int .i64 0, .slice none 0 0, .slice none 0 0, .int .i64 0, .int .i64 0, .int .i64 0, .int .i64 0, .int .i64 0, .int .i64 0, .bool false]
    simp only [World.size_alloc] at this
    rw [hW]; exact this
  have hWz : W.heap.size = w.heap.size + 3 := by rw [hW]; simp
  have H := Lib.hid h
  have HQ := Lib.hid hq
  have HF := Lib.hid hF
  have HB := Lib.hid hb1
  clear h hq hF hb1
  have hdh : ¬ (m.dn || m.hs q.pk) = true := by rw [hdn, hhs]; decide
  have hth : thB m q.h.sq = false := (thB_hs htk).trans hhs
  have HT1 : Hid (m.take q.pk = m.cnt ∧ m.ans q.pk = [(ansV m 3 q.pk).pk] ∧ m.told q.pk = []) := Lib.hid ⟨by unfold Rm.take; rw [if_neg (by rw [htk]; decide)]; rw [if_neg hdh, if_neg (by rw [hin]; decide), if_pos (show hasB q.pk.h.fl 8 = true from h8)], by unfold Rm.ans; rw [if_neg (by rw [htk]; decide)]; rw [if_neg hdh, if_neg (by rw [hin]; decide), if_pos (show hasB q.pk.h.fl 8 = true from h8)], by unfold Rm.told; rw [if_neg (by rw [htk]; decide)]; rw [if_neg hdh, if_neg (by rw [hin]; decide), if_pos (show hasB q.pk.h.fl 8 = true from h8)]⟩
  have hlt : ¬ ((m.base : Int) + m.size) ≤ q.h.sq := by
    unfold Rm.inw at hin
    have := of_decide_eq_true hin
    have h9 : q.pk.h.sq = q.h.sq := rfl
    omega
  obtain ⟨hct1, hct2⟩ := hct
  have HDN := Lib.hid hdn
  have H8 := Lib.hid h8
  clear htk hdn hin hdh hhs h8
  have HH16 := Lib.hid (rhas_any q.h.fl 16 W (by decide) (by decide) hfl)
  rw [h16] at HH16
  have HWI := Lib.hid (r_within q.h.sq 0 1152921504606846976 W)
  rw [hwi] at HWI
  go_enter Try.func11, Try.ntmps11
  go_wp2_with fail
  rw [hk] at hW
  rw [← hW]
  clear hW hk
  refine HH16.out.mono ?_
  rintro en V ⟨rfl, rfl⟩
  clear HH16
  have e6 := z2.cell 6 rfl
  go_wp2_with fail
  refine HWI.out.mono ?_
  rintro en V ⟨rfl, rfl⟩
  clear HWI
  have e27 := z1.cell 27 rfl
  rw [HDN.out] at e27
  have HTH := Lib.hid (r_there (H.out.kp.below HB.out) hn q.h.sq)
  rw [hth] at HTH
  clear hth
  go_wp2_with (first
    | (with_reducible refine at_load 34 (.tmp 2) (by rfl) ?_
       refine wpList_load_bk_g rowRv (by rfl) (.tmp 2) rfl w.heap.size 0 rfl z1 [.int .i64 z.c0, .int .i64 m.pa, .int .i64 z.c2, .int .i64 z.c3, .int .i64 m.size, .int .i64 z.c5, .int .i64 z.c6, .int .i64 z.c7, .int .i64 z.c8, .int .i64 z.c9, .int .i64 z.c10, .int .i64 z.c11, .int .i64 z.c12, .int .i64 z.c13, .int .i64 m.sr, .int .i64 m.ds, .int .i64 m.cn, .int .i64 m.cl, .int .i64 m.base, .slice z.A z.n z.c, .slice z.J z.jn z.jc, .int .i64 m.jm.ps.length, .int .i64 m.jm.N, .int .i64 m.jm.T, .int .i64 m.ar, .int .i64 m.pl, .int .i64 m.pd, .bool m.dn] rfl rfl ?_))
  refine HTH.out.mono ?_
  rintro en V ⟨rfl, hbV⟩
  have HZ0 := And.intro (z1.below hbV) (And.intro (z2.below hbV) (z3.below hbV))
  have HB0 := Lib.hid (HB.out.trans (hbV.mono HB.out.size))
  have hzV := hbV.size
  clear z1 z2 z3 HB hbV HTH
  obtain ⟨z1, z2, z3⟩ := HZ0
  have HB := HB0
  clear HB0
  have e6 := z2.cell 6 rfl
  have e1 := z2.cell 1 rfl
  have e4 := z1.cell 4 rfl
  have e18 := z1.cell 18 rfl
  have e24 := z1.cell 24 rfl
  have f24 := z1.free 24
  have e26 := z1.cell 26 rfl
  have f26 := z1.free 26
  go_wp2_with fail
  obtain ⟨V5, hV5⟩ : ∃ V5, V5 = (V.setCell ⟨w.heap.size, 24, none⟩ (.int .i64 ((m.ar : Int) + 1))).setCell ⟨w.heap.size, 26, none⟩ (.int .i64 ((m.pd : Int) + 1)) := ⟨_, rfl⟩
  have b5 : Bk V5 34 w.heap.size [.int .i64 z.c0, .int .i64 m.cnt.pa, .int .i64 z.c2, .int .i64 z.c3, .int .i64 m.cnt.size, .int .i64 z.c5, .int .i64 z.c6, .int .i64 z.c7, .int .i64 z.c8, .int .i64 z.c9, .int .i64 z.c10, .int .i64 z.c11, .int .i64 z.c12, .int .i64 z.c13, .int .i64 m.cnt.sr, .int .i64 m.cnt.ds, .int .i64 m.cnt.cn, .int .i64 m.cnt.cl, .int .i64 m.cnt.base, .slice z.A z.n z.c, .slice z.J z.jn z.jc, .int .i64 m.cnt.jm.ps.length, .int .i64 m.cnt.jm.N, .int .i64 m.cnt.jm.T, .int .i64 m.cnt.ar, .int .i64 m.cnt.pl, .int .i64 m.cnt.pd, .bool m.cnt.dn] := by
    rw [hV5]
    have := (z1.set 24 (.int .i64 ((m.ar : Int) + 1))).set 26 (.int .i64 ((m.pd : Int) + 1))
    rw [show (m.ar : Int) + 1 = ((m.ar + 1 : Nat) : Int) from by omega, show (m.pd : Int) + 1 = ((m.pd + 1 : Nat) : Int) from by omega] at this ⊢
    exact this
  have hs5 : St (· = w.heap.size) V V5 := by rw [hV5]; exact (St.setCell (F := (· = w.heap.size)) V (a := ⟨w.heap.size, 24, none⟩) rfl _).trans (St.setCell (F := (· = w.heap.size)) _ (a := ⟨w.heap.size, 26, none⟩) rfl _) (Gr.refl _ _)
  rw [← hV5]
  have y2 := z2.st hs5 (by omega)
  have y3 := z3.st hs5 (by omega)
  have HB0 := Lib.hid (HB.out.trans (hs5.below HB.out.size (fun x hx => by omega)))
  have hz5 := hs5.size
  clear hV5 hs5 z1 z2 z3 HB e6 e1 e4 e18 e24 f24 e26 f26 e27 hlt hct1 hct2
  have HB := HB0
  have z1 := b5
  have z2 := y2
  have z3 := y3
  clear HB0 b5 y2 y3
  have HH8 := Lib.hid (rhas_any q.h.fl 8 V5 (by decide) (by decide) hfl)
  rw [H8.out] at HH8
  refine HH8.out.mono ?_
  rintro en V6 ⟨rfl, rfl⟩
  clear HH8
  go_wp2_with fail
  refine wp_region_E (Below (w.heap.size + 2)) (by kernel_rfl) (fun wd hbd hsz => ?_)
  have HBD := Lib.hid hbd
  have hdz := hbd.size
  have y1 := Lib.hid (z1.below hbd)
  have y2 := Lib.hid (z2.below hbd)
  have y3 := Lib.hid (z3.below hbd)
  clear hsz
  (refine takeE (belowTr (w.heap.size + 2)) 0 (by simp only [List.getElem?_toArray, List.getElem?_cons_succ, List.getElem?_cons_zero]; rfl) (by kernel_rfl) (by kernel_rfl) (by kernel_rfl) (by exact fun _ _ _ h => h) (by first | (refine Or.inl ⟨by rfl, ?_⟩; intro W hW; exact exec_load_bk rowRv _ rfl w.heap.size 0 rfl (y1.out.keep hW (by omega)) [.int .i64 z.c0, .int .i64 m.cnt.pa, .int .i64 z.c2, .int .i64 z.c3, .int .i64 m.cnt.size, .int .i64 z.c5, .int .i64 z.c6, .int .i64 z.c7, .int .i64 z.c8, .int .i64 z.c9, .int .i64 z.c10, .int .i64 z.c11, .int .i64 z.c12, .int .i64 z.c13, .int .i64 m.cnt.sr, .int .i64 m.cnt.ds, .int .i64 m.cnt.cn, .int .i64 m.cnt.cl, .int .i64 m.cnt.base, .slice z.A z.n z.c, .slice z.J z.jn z.jc, .int .i64 m.cnt.jm.ps.length, .int .i64 m.cnt.jm.N, .int .i64 m.cnt.jm.T, .int .i64 m.cnt.ar, .int .i64 m.cnt.pl, .int .i64 m.cnt.pd, .bool m.cnt.dn] rfl rfl) | exact Or.inr ⟨by rfl, rfl⟩) ?_; try simp only [Act.put, List.setIfInBounds_toArray, List.set_cons_zero, List.set_cons_succ])
  (refine takeE (belowTr (w.heap.size + 2)) 1 (by simp only [List.getElem?_toArray, List.getElem?_cons_succ, List.getElem?_cons_zero]; rfl) (by kernel_rfl) (by kernel_rfl) (by kernel_rfl) (by exact fun _ _ _ h => h) (by first | (refine Or.inl ⟨by rfl, ?_⟩; intro W hW; exact exec_load_bk rowRv _ rfl w.heap.size 0 rfl (y1.out.keep hW (by omega)) [.int .i64 z.c0, .int .i64 m.cnt.pa, .int .i64 z.c2, .int .i64 z.c3, .int .i64 m.cnt.size, .int .i64 z.c5, .int .i64 z.c6, .int .i64 z.c7, .int .i64 z.c8, .int .i64 z.c9, .int .i64 z.c10, .int .i64 z.c11, .int .i64 z.c12, .int .i64 z.c13, .int .i64 m.cnt.sr, .int .i64 m.cnt.ds, .int .i64 m.cnt.cn, .int .i64 m.cnt.cl, .int .i64 m.cnt.base, .slice z.A z.n z.c, .slice z.J z.jn z.jc, .int .i64 m.cnt.jm.ps.length, .int .i64 m.cnt.jm.N, .int .i64 m.cnt.jm.T, .int .i64 m.cnt.ar, .int .i64 m.cnt.pl, .int .i64 m.cnt.pd, .bool m.cnt.dn] rfl rfl) | exact Or.inr ⟨by rfl, rfl⟩) ?_; try simp only [Act.put, List.setIfInBounds_toArray, List.set_cons_zero, List.set_cons_succ])
  (refine takeE (belowTr (w.heap.size + 2)) 2 (by simp only [List.getElem?_toArray, List.getElem?_cons_succ, List.getElem?_cons_zero]; rfl) (by kernel_rfl) (by kernel_rfl) (by kernel_rfl) (by exact fun _ _ _ h => h) (by first | (refine Or.inl ⟨by rfl, ?_⟩; intro W hW; exact exec_loadRow rowP _ rfl (w.heap.size + 1) 0 rfl q (Bk.pk (y2.out.keep hW (by omega)))) | exact Or.inr ⟨by rfl, rfl⟩) ?_; try simp only [Act.put, List.setIfInBounds_toArray, List.set_cons_zero, List.set_cons_succ])
  refine wpAnyE_one (i := 3) (by kernel_rfl) (by simp only [List.getElem?_toArray, List.getElem?_cons_succ, List.getElem?_cons_zero]; rfl) (fun K hK => ?_)
  go_simp
  refine (r_answer (z := z) (m := m.cnt) 3 q _).mono ?_
  rintro en w7 ⟨A, c, rfl, hsl, hb7⟩
  have HSL := Lib.hid hsl
  have HB7 := Lib.hid hb7
  have hz7 := hb7.size
  clear hsl hb7
  refine hK.out _ _ (HB7.out.mono (by omega)) ?_
  clear hK K
  try simp only [Act.put, List.setIfInBounds_toArray, List.set_cons_zero, List.set_cons_succ]
  refine wpAnyE_one (i := 4) (by kernel_rfl) (by simp only [List.getElem?_toArray, List.getElem?_cons_succ, List.getElem?_cons_zero]; rfl) (fun K hK => ?_)
  refine opwp_store_bk rowRv rfl (.tmp 4) (.tmp 59) rfl (w.heap.size + 2) 0 rfl (y3.out.below HB7.out) [.int .i64 z.c0, .int .i64 m.cnt.pa, .int .i64 z.c2, .int .i64 z.c3, .int .i64 m.cnt.size, .int .i64 z.c5, .int .i64 z.c6, .int .i64 z.c7, .int .i64 z.c8, .int .i64 z.c9, .int .i64 z.c10, .int .i64 z.c11, .int .i64 z.c12, .int .i64 z.c13, .int .i64 m.cnt.sr, .int .i64 m.cnt.ds, .int .i64 m.cnt.cn, .int .i64 m.cnt.cl, .int .i64 m.cnt.base, .slice z.A z.n z.c, .slice z.J z.jn z.jc, .int .i64 m.cnt.jm.ps.length, .int .i64 m.cnt.jm.N, .int .i64 m.cnt.jm.T, .int .i64 m.cnt.ar, .int .i64 m.cnt.pl, .int .i64 m.cnt.pd, .bool m.cnt.dn] rfl rfl (by decide) (Rm.rl_one _ _) ?_
  intro w9 z9 hw9
  rw [lay_all _ _ (by rfl)] at z9
  have HZ9 := Lib.hid z9
  have HB9 := Lib.hid (hw9.below (Nat.le_refl _) (by omega) : Below (w.heap.size + 2) w7 w9)
  have HW9 := Lib.hid hw9
  clear z9 hw9
  refine hK.out _ _ HB9.out ?_
  clear hK K
  try simp only [Act.put, List.setIfInBounds_toArray, List.set_cons_zero, List.set_cons_succ]
  (refine takeE (belowTr (w.heap.size + 2)) 5 (by simp only [List.getElem?_toArray, List.getElem?_cons_succ, List.getElem?_cons_zero]; rfl) (by kernel_rfl) (by kernel_rfl) (by kernel_rfl) (by exact fun _ _ _ h => h) (by first | (refine Or.inl ⟨by rfl, ?_⟩; intro W hW; go_simp; try with_reducible rfl) | exact Or.inr ⟨by rfl, rfl⟩) ?_; try simp only [Act.put, List.setIfInBounds_toArray, List.set_cons_zero, List.set_cons_succ])
  (refine takeE (belowTr (w.heap.size + 2)) 6 (by simp only [List.getElem?_toArray, List.getElem?_cons_succ, List.getElem?_cons_zero]; rfl) (by kernel_rfl) (by kernel_rfl) (by kernel_rfl) (by exact fun _ _ _ h => h) (by first | (refine Or.inl ⟨by rfl, ?_⟩; intro W hW; go_simp; try with_reducible rfl) | exact Or.inr ⟨by rfl, rfl⟩) ?_; try simp only [Act.put, List.setIfInBounds_toArray, List.set_cons_zero, List.set_cons_succ])
  refine wpAnyE_done (by kernel_rfl) ?_ _
  skip
  go_wp2
  have hb9 : Below w.heap.size w w9 := (((HB.out.trans (HBD.out.mono HB.out.size)).trans (HB7.out.mono (by have := HB.out.size; omega))).trans (HB9.out.mono (by omega)))
  have hsW : St (· = w.heap.size + 2) w7 w9 := ⟨HW9.out.os, HW9.out.tape, HW9.out.output, HW9.out.size, fun x hx hn => HW9.out.block x hx (by intro he; injection he with he; exact hn he)⟩
  refine bodyPost_ret (results_cell_tmp2 rfl rfl (rowRv.load HZ9.out 0 (cs := [.int .i64 z.c0, .int .i64 m.cnt.pa, .int .i64 z.c2, .int .i64 z.c3, .int .i64 m.cnt.size, .int .i64 z.c5, .int .i64 z.c6, .int .i64 z.c7, .int .i64 z.c8, .int .i64 z.c9, .int .i64 z.c10, .int .i64 z.c11, .int .i64 z.c12, .int .i64 z.c13, .int .i64 m.cnt.sr, .int .i64 m.cnt.ds, .int .i64 m.cnt.cn, .int .i64 m.cnt.cl, .int .i64 m.cnt.base, .slice z.A z.n z.c, .slice z.J z.jn z.jc, .int .i64 m.cnt.jm.ps.length, .int .i64 m.cnt.jm.N, .int .i64 m.cnt.jm.T, .int .i64 m.cnt.ar, .int .i64 m.cnt.pl, .int .i64 m.cnt.pd, .bool m.cnt.dn]) rfl rfl)) rfl ⟨z, A, 1, c, none, 0, 0, by rw [HT1.out.1]; rfl, by rw [HT1.out.1]; exact ⟨(H.out.below hb9).kp, (H.out.below hb9).jn, H.out.jo⟩, ?_, by rw [HT1.out.2.2]; exact SlT.nil _, hb9⟩
  rw [HT1.out.2.1]
  exact (HSL.out.mono (F' := fun x => F x ∨ x = w.heap.size + 2) (fun x hx => hx.elim (fun hx => by have := HF.out x hx; have := HB.out.size; show x < wd.heap.size; omega) (fun hx => by show x < wd.heap.size; omega))).st (hsW.mono fun x _ hx => .inr hx) (Gr.refl _ _) |>.mono fun x hx => .inl hx
set_option maxHeartbeats 8000000 in
theorem r_take_kept (h : RfR F w z m) (q : Pv) (hq : PvR F w q) (hF : ∀ x, F x → x < w.heap.size) (htk : q.pk.tkn = true) (hk : q.h.kd = 1) (h16 : hasB q.h.fl 16 = false) (hwi : witB q.h.sq 0 1152921504606846976 = true) (hdn : m.dn = false) (hhs : m.hs q.pk = false) (hn : z.n ≤ 1000000) (hin : m.inw q.pk = true) (hbz : m.base + m.size ≤ 4611686018427387904) (hct : m.ar < 1000000000 ∧ m.pd < 1000000000) (h8 : hasB q.h.fl 8 = false) (hok : (m.cnt.kept q.pk).Ok) (hln : (m.cnt.kept q.pk).base + (m.cnt.kept q.pk).ks.length ≤ 60000) (hop : m.jm.op ≤ 65536) : Calls Try.prog 11 #[.agg #[.int .i64 z.c0, .int .i64 m.pa, .int .i64 z.c2, .int .i64 z.c3, .int .i64 m.size, .int .i64 z.c5, .int .i64 z.c6, .int .i64 z.c7, .int .i64 z.c8, .int .i64 z.c9, .int .i64 z.c10, .int .i64 z.c11, .int .i64 z.c12, .int .i64 z.c13, .int .i64 m.sr, .int .i64 m.ds, .int .i64 m.cn, .int .i64 m.cl, .int .i64 m.base, .slice z.A z.n z.c, .slice z.J z.jn z.jc, .int .i64 m.jm.ps.length, .int .i64 m.jm.N, .int .i64 m.jm.T, .int .i64 m.ar, .int .i64 m.pl, .int .i64 m.pd, .bool m.dn], .agg #[.int .i64 q.h.kd, .int .i64 q.h.fl, .int .i64 q.h.pa, .int .i64 q.h.sr, .int .i64 q.h.ds, .int .i64 q.h.cn, .int .i64 q.h.sq, .int .i64 q.h.pu, .slice q.A q.n q.c]] w (RTk F w m q.pk) := by
  have hfl := hq.fl
  obtain ⟨W, hW⟩ : ∃ W, W = ((w.alloc (.cells #[.int .i64 z.c0, .int .i64 m.pa, .int .i64 z.c2, .int .i64 z.c3, .int .i64 m.size, .int .i64 z.c5, .int .i64 z.c6, .int .i64 z.c7, .int .i64 z.c8, .int .i64 z.c9, .int .i64 z.c10, .int .i64 z.c11, .int .i64 z.c12, .int .i64 z.c13, .int .i64 m.sr, .int .i64 m.ds, .int .i64 m.cn, .int .i64 m.cl, .int .i64 m.base, .slice z.A z.n z.c, .slice z.J z.jn z.jc, .int .i64 m.jm.ps.length, .int .i64 m.jm.N, .int .i64 m.jm.T, .int .i64 m.ar, .int .i64 m.pl, .int .i64 m.pd, .bool m.dn] 34)).alloc (.cells #[.int .i64 q.h.kd, .int .i64 q.h.fl, .int .i64 q.h.pa, .int .i64 q.h.sr, .int .i64 q.h.ds, .int .i64 q.h.cn, .int .i64 q.h.sq, .int .i64 q.h.pu, .slice q.A q.n q.c] 40)).alloc (.cells #[.int .i64 0, .int .i64 0, .int .i64 0, .int .i64 0, .int .i64 0, .int .i64 0, .int .i64 0, .int .i64 0, .int .i64 0, .int .i64 0, .int .i64 0, .int .i64 0, .int .i64 0, .int .i64 0, .int .i64 0, .int .i64 0, .int .i64 0, .int .i64 0, .int .i64 0, .slice none 0 0, .slice none 0 0, .int .i64 0, .int .i64 0, .int .i64 0, .int .i64 0, .int .i64 0, .int .i64 0, .bool false] 34) := ⟨_, rfl⟩
  have hb1 : Below w.heap.size w W := by rw [hW]; exact (((Below.refl _ w).alloc (Nat.le_refl _) _).alloc (by simp) _).alloc (by simp; omega) _
  have z1 : Bk W 34 w.heap.size [.int .i64 z.c0, .int .i64 m.pa, .int .i64 z.c2, .int .i64 z.c3, .int .i64 m.size, .int .i64 z.c5, .int .i64 z.c6, .int .i64 z.c7, .int .i64 z.c8, .int .i64 z.c9, .int .i64 z.c10, .int .i64 z.c11, .int .i64 z.c12, .int .i64 z.c13, .int .i64 m.sr, .int .i64 m.ds, .int .i64 m.cn, .int .i64 m.cl, .int .i64 m.base, .slice z.A z.n z.c, .slice z.J z.jn z.jc, .int .i64 m.jm.ps.length, .int .i64 m.jm.N, .int .i64 m.jm.T, .int .i64 m.ar, .int .i64 m.pl, .int .i64 m.pd, .bool m.dn] := by rw [hW]; exact ((Bk.new w 34 [.int .i64 z.c0, .int .i64 m.pa, .int .i64 z.c2, .int .i64 z.c3, .int .i64 m.size, .int .i64 z.c5, .int .i64 z.c6, .int .i64 z.c7, .int .i64 z.c8, .int .i64 z.c9, .int .i64 z.c10, .int .i64 z.c11, .int .i64 z.c12, .int .i64 z.c13, .int .i64 m.sr, .int .i64 m.ds, .int .i64 m.cn, .int .i64 m.cl, .int .i64 m.base, .slice z.A z.n z.c, .slice z.J z.jn z.jc, .int .i64 m.jm.ps.length, .int .i64 m.jm.N, .int .i64 m.jm.T, .int .i64 m.ar, .int .i64 m.pl, .int .i64 m.pd, .bool m.dn]).alloc _).alloc _
  have z2 : Bk W 40 (w.heap.size + 1) q.cl := by
    have := (Bk.new (w.alloc (.cells #[.int .i64 z.c0, .int .i64 m.pa, .int .i64 z.c2, .int .i64 z.c3, .int .i64 m.size, .int .i64 z.c5, .int .i64 z.c6, .int .i64 z.c7, .int .i64 z.c8, .int .i64 z.c9, .int .i64 z.c10, .int .i64 z.c11, .int .i64 z.c12, .int .i64 z.c13, .int .i64 m.sr, .int .i64 m.ds, .int .i64 m.cn, .int .i64 m.cl, .int .i64 m.base, .slice z.A z.n z.c, .slice z.J z.jn z.jc, .int .i64 m.jm.ps.length, .int .i64 m.jm.N, .int .i64 m.jm.T, .int .i64 m.ar, .int .i64 m.pl, .int .i64 m.pd, .bool m.dn] 34)) 40 q.cl).alloc (.cells #[.int .i64 0, .int .i64 0, .int .i64 0, .int .i64 0, .int .i64 0, .int .i64 0, .int .i64 0, .int .i64 0, .int .i64 0, .int .i64 0, .int .i64 0, .int .i64 0, .int .i64 0, .int .i64 0, .int .i64 0, .int .i64 0, .int .i64 0, .int .i64 0, .int .i64 0, .slice none 0 0, .slice none 0 0, .int .i64 0, .int .i64 0, .int .i64 0, .int .i64 0, .int .i64 0, .int .i64 0, .bool false] 34)
    rw [World.size_alloc] at this
    rw [hW]; exact this
  have z3 : Bk W 34 (w.heap.size + 2) [.int .i64 0, .int .i64 0, .int .i64 0, .int .i64 0, .int .i64 0, .int .i64 0, .int .i64 0, .int .i64 0, .int .i64 0, .int .i64 0, .int .i64 0, .int .i64 0, .int .i64 0, .int .i64 0, .int .i64 0, .int .i64 0, .int .i64 0, .int .i64 0, .int .i64 0, .slice none 0 0, .slice none 0 0, .int .i64 0, .int .i64 0, .int .i64 0, .int .i64 0, .int .i64 0, .int .i64 0, .bool false] := by
    have := Bk.new ((w.alloc (.cells #[.int .i64 z.c0, .int .i64 m.pa, .int .i64 z.c2, .int .i64 z.c3, .int .i64 m.size, .int .i64 z.c5, .int .i64 z.c6, .int .i64 z.c7, .int .i64 z.c8, .int .i64 z.c9, .int .i64 z.c10, .int .i64 z.c11, .int .i64 z.c12, .int .i64 z.c13, .int .i64 m.sr, .int .i64 m.ds, .int .i64 m.cn, .int .i64 m.cl, .int .i64 m.base, .slice z.A z.n z.c, .slice z.J z.jn z.jc, .int .i64 m.jm.ps.length, .int .i64 m.jm.N, .int .i64 m.jm.T, .int .i64 m.ar, .int .i64 m.pl, .int .i64 m.pd, .bool m.dn] 34)).alloc (.cells #[.int .i64 q.h.kd, .int .i64 q.h.fl, .int .i64 q.h.pa, .int .i64 q.h.sr, .int .i64 q.h.ds, .int .i64 q.h.cn, .int .i64 q.h.sq, .int .i64 q.h.pu, .slice q.A q.n q.c] 40)) 34 [.int .i64 0, .int .i64 0, .int .i64 0, .int .i64 0, .int .i64 0, .int .i64 0, .int .i64 0, .int .i64 0, .int .i64 0, .int .i64 0, .int .i64 0, .int .i64 0, .int .i64 0, .int .i64 0, .int .i64 0, .int .i64 0, .int .i64 0, .int .i64 0, .int .i64 0, .slice none 0 0, .slice none 0 0, .int .i64 0, .int .i64 0, .int .i64 0, .int .i64 0, .int .i64 0, .int .i64 0, .bool false]
    simp only [World.size_alloc] at this
    rw [hW]; exact this
  have hWz : W.heap.size = w.heap.size + 3 := by rw [hW]; simp
  have H := Lib.hid h
  have HQ := Lib.hid hq
  have HF := Lib.hid hF
  have HB := Lib.hid hb1
  clear h hq hF hb1
  have hdh : ¬ (m.dn || m.hs q.pk) = true := by rw [hdn, hhs]; decide
  have hth : thB m q.h.sq = false := (thB_hs htk).trans hhs
  have HT1 : Hid (m.take q.pk = (m.cnt.kept q.pk).adv ∧ m.ans q.pk = [(ansV m 2 q.pk).pk] ∧ m.told q.pk = (m.cnt.kept q.pk).av.out) := Lib.hid ⟨by unfold Rm.take; rw [if_neg (by rw [htk]; decide)]; rw [if_neg hdh, if_neg (by rw [hin]; decide), if_neg (by have h0 : hasB q.pk.h.fl 8 = false := h8; rw [h0]; decide)], by unfold Rm.ans; rw [if_neg (by rw [htk]; decide)]; rw [if_neg hdh, if_neg (by rw [hin]; decide), if_neg (by have h0 : hasB q.pk.h.fl 8 = false := h8; rw [h0]; decide)], by unfold Rm.told; rw [if_neg (by rw [htk]; decide)]; rw [if_neg hdh, if_neg (by rw [hin]; decide), if_neg (by have h0 : hasB q.pk.h.fl 8 = false := h8; rw [h0]; decide)]⟩
  have hlt : ¬ ((m.base : Int) + m.size) ≤ q.h.sq := by
    unfold Rm.inw at hin
    have := of_decide_eq_true hin
    have h9 : q.pk.h.sq = q.h.sq := rfl
    omega
  obtain ⟨hct1, hct2⟩ := hct
  have HDN := Lib.hid hdn
  have HOK := Lib.hid (And.intro hok (And.intro hln hop))
  clear hok hln hop
  have H8 := Lib.hid h8
  clear htk hdn hin hdh hhs h8
  have HH16 := Lib.hid (rhas_any q.h.fl 16 W (by decide) (by decide) hfl)
  rw [h16] at HH16
  have HWI := Lib.hid (r_within q.h.sq 0 1152921504606846976 W)
  rw [hwi] at HWI
  go_enter Try.func11, Try.ntmps11
  go_wp2_with fail
  rw [hk] at hW
  rw [← hW]
  clear hW hk
  refine HH16.out.mono ?_
  rintro en V ⟨rfl, rfl⟩
  clear HH16
  have e6 := z2.cell 6 rfl
  go_wp2_with fail
  refine HWI.out.mono ?_
  rintro en V ⟨rfl, rfl⟩
  clear HWI
  have e27 := z1.cell 27 rfl
  rw [HDN.out] at e27
  have HTH := Lib.hid (r_there (H.out.kp.below HB.out) hn q.h.sq)
  rw [hth] at HTH
  clear hth
  go_wp2_with (first
    | (with_reducible refine at_load 34 (.tmp 2) (by rfl) ?_
       refine wpList_load_bk_g rowRv (by rfl) (.tmp 2) rfl w.heap.size 0 rfl z1 [.int .i64 z.c0, .int .i64 m.pa, .int .i64 z.c2, .int .i64 z.c3, .int .i64 m.size, .int .i64 z.c5, .int .i64 z.c6, .int .i64 z.c7, .int .i64 z.c8, .int .i64 z.c9, .int .i64 z.c10, .int .i64 z.c11, .int .i64 z.c12, .int .i64 z.c13, .int .i64 m.sr, .int .i64 m.ds, .int .i64 m.cn, .int .i64 m.cl, .int .i64 m.base, .slice z.A z.n z.c, .slice z.J z.jn z.jc, .int .i64 m.jm.ps.length, .int .i64 m.jm.N, .int .i64 m.jm.T, .int .i64 m.ar, .int .i64 m.pl, .int .i64 m.pd, .bool m.dn] rfl rfl ?_))
  refine HTH.out.mono ?_
  rintro en V ⟨rfl, hbV⟩
  have HZ0 := And.intro (z1.below hbV) (And.intro (z2.below hbV) (z3.below hbV))
  have HB0 := Lib.hid (HB.out.trans (hbV.mono HB.out.size))
  have hzV := hbV.size
  clear z1 z2 z3 HB hbV HTH
  obtain ⟨z1, z2, z3⟩ := HZ0
  have HB := HB0
  clear HB0
  have e6 := z2.cell 6 rfl
  have e1 := z2.cell 1 rfl
  have e4 := z1.cell 4 rfl
  have e18 := z1.cell 18 rfl
  have e24 := z1.cell 24 rfl
  have f24 := z1.free 24
  have e26 := z1.cell 26 rfl
  have f26 := z1.free 26
  go_wp2_with fail
  obtain ⟨V5, hV5⟩ : ∃ V5, V5 = (V.setCell ⟨w.heap.size, 24, none⟩ (.int .i64 ((m.ar : Int) + 1))).setCell ⟨w.heap.size, 26, none⟩ (.int .i64 ((m.pd : Int) + 1)) := ⟨_, rfl⟩
  have b5 : Bk V5 34 w.heap.size [.int .i64 z.c0, .int .i64 m.cnt.pa, .int .i64 z.c2, .int .i64 z.c3, .int .i64 m.cnt.size, .int .i64 z.c5, .int .i64 z.c6, .int .i64 z.c7, .int .i64 z.c8, .int .i64 z.c9, .int .i64 z.c10, .int .i64 z.c11, .int .i64 z.c12, .int .i64 z.c13, .int .i64 m.cnt.sr, .int .i64 m.cnt.ds, .int .i64 m.cnt.cn, .int .i64 m.cnt.cl, .int .i64 m.cnt.base, .slice z.A z.n z.c, .slice z.J z.jn z.jc, .int .i64 m.cnt.jm.ps.length, .int .i64 m.cnt.jm.N, .int .i64 m.cnt.jm.T, .int .i64 m.cnt.ar, .int .i64 m.cnt.pl, .int .i64 m.cnt.pd, .bool m.cnt.dn] := by
    rw [hV5]
    have := (z1.set 24 (.int .i64 ((m.ar : Int) + 1))).set 26 (.int .i64 ((m.pd : Int) + 1))
    rw [show (m.ar : Int) + 1 = ((m.ar + 1 : Nat) : Int) from by omega, show (m.pd : Int) + 1 = ((m.pd + 1 : Nat) : Int) from by omega] at this ⊢
    exact this
  have hs5 : St (· = w.heap.size) V V5 := by rw [hV5]; exact (St.setCell (F := (· = w.heap.size)) V (a := ⟨w.heap.size, 24, none⟩) rfl _).trans (St.setCell (F := (· = w.heap.size)) _ (a := ⟨w.heap.size, 26, none⟩) rfl _) (Gr.refl _ _)
  rw [← hV5]
  have y2 := z2.st hs5 (by omega)
  have y3 := z3.st hs5 (by omega)
  have HB0 := Lib.hid (HB.out.trans (hs5.below HB.out.size (fun x hx => by omega)))
  have hz5 := hs5.size
  clear hV5 hs5 z1 z2 z3 HB e6 e1 e4 e18 e24 f24 e26 f26 e27 hlt hct1 hct2
  have HB := HB0
  have z1 := b5
  have z2 := y2
  have z3 := y3
  clear HB0 b5 y2 y3
  have HH8 := Lib.hid (rhas_any q.h.fl 8 V5 (by decide) (by decide) hfl)
  rw [H8.out] at HH8
  refine HH8.out.mono ?_
  rintro en V6 ⟨rfl, rfl⟩
  clear HH8
  have e19 := z1.cell 19 rfl
  have hF3 : ∀ x, F3 F w.heap.size x → x < V5.heap.size := fun x hx => hx.elim (fun h' => by have := HF.out x h'; have := HB.out.size; omega) (fun h' => by omega)
  have HR5 := Lib.hid (H.out.three.below HB.out)
  have HQ5 := Lib.hid ((HQ.out.st (St.refl _ _) (F' := F3 F w.heap.size) (fun x hx => hx.elim .inl (fun h' => .inr h'.1))).below HB.out)
  have HWI2 := Lib.hid (r_with HR5.out.kp hn q HQ5.out hF3)
  have HF5 := Lib.hid hF3
  clear hF3
  go_wp2_with (first
    | (with_reducible refine at_load 40 (.tmp 3) (by rfl) ?_
       refine wpList_load_pk rowP rfl (.tmp 3) rfl q (w.heap.size + 1) 0 rfl (Bk.pk z2) ?_))
  refine HWI2.out.mono ?_
  rintro en V6 ⟨A7, n7, c7, rfl, hk6, hb6⟩
  clear HWI2 e19
  have hz6 := hb6.size
  have HZ0 := And.intro (z1.below hb6) (And.intro (z2.below hb6) (z3.below hb6))
  have HB0 := Lib.hid (HB.out.trans (hb6.mono HB.out.size))
  have HR6 : Hid (RfR (F3 F w.heap.size) V6 (z.row A7 n7 c7) (m.cnt.kept q.pk)) := Lib.hid ⟨hk6, HR5.out.jn.below hb6, HR5.out.jo⟩
  clear z1 z2 z3 HB hb6 hk6
  obtain ⟨z1, z2, z3⟩ := HZ0
  have HB := HB0
  have e19 := z1.cell 19 rfl
  have f19 := z1.free 19
  obtain ⟨V7, hV7⟩ : ∃ V7, V7 = V6.setCell ⟨w.heap.size, 19, none⟩ (.slice A7 n7 c7) := ⟨_, rfl⟩
  have y1 : Bk V7 34 w.heap.size [.int .i64 (Zr.row z A7 n7 c7).c0, .int .i64 (m.cnt.kept q.pk).pa, .int .i64 (Zr.row z A7 n7 c7).c2, .int .i64 (Zr.row z A7 n7 c7).c3, .int .i64 (m.cnt.kept q.pk).size, .int .i64 (Zr.row z A7 n7 c7).c5, .int .i64 (Zr.row z A7 n7 c7).c6, .int .i64 (Zr.row z A7 n7 c7).c7, .int .i64 (Zr.row z A7 n7 c7).c8, .int .i64 (Zr.row z A7 n7 c7).c9, .int .i64 (Zr.row z A7 n7 c7).c10, .int .i64 (Zr.row z A7 n7 c7).c11, .int .i64 (Zr.row z A7 n7 c7).c12, .int .i64 (Zr.row z A7 n7 c7).c13, .int .i64 (m.cnt.kept q.pk).sr, .int .i64 (m.cnt.kept q.pk).ds, .int .i64 (m.cnt.kept q.pk).cn, .int .i64 (m.cnt.kept q.pk).cl, .int .i64 (m.cnt.kept q.pk).base, .slice (Zr.row z A7 n7 c7).A (Zr.row z A7 n7 c7).n (Zr.row z A7 n7 c7).c, .slice (Zr.row z A7 n7 c7).J (Zr.row z A7 n7 c7).jn (Zr.row z A7 n7 c7).jc, .int .i64 (m.cnt.kept q.pk).jm.ps.length, .int .i64 (m.cnt.kept q.pk).jm.N, .int .i64 (m.cnt.kept q.pk).jm.T, .int .i64 (m.cnt.kept q.pk).ar, .int .i64 (m.cnt.kept q.pk).pl, .int .i64 (m.cnt.kept q.pk).pd, .bool (m.cnt.kept q.pk).dn] := by rw [hV7]; exact z1.set 19 (.slice A7 n7 c7)
  have hs7 : St (· = w.heap.size) V6 V7 := by rw [hV7]; exact St.setCell (F := (· = w.heap.size)) V6 (a := ⟨w.heap.size, 19, none⟩) rfl _
  go_wp2_with (first
    | (with_reducible refine at_load 34 (.tmp 2) (by rfl) ?_
       refine wpList_load_bk rowRv rfl (.tmp 2) rfl w.heap.size 0 rfl (hV7 ▸ y1) [.int .i64 (Zr.row z A7 n7 c7).c0, .int .i64 (m.cnt.kept q.pk).pa, .int .i64 (Zr.row z A7 n7 c7).c2, .int .i64 (Zr.row z A7 n7 c7).c3, .int .i64 (m.cnt.kept q.pk).size, .int .i64 (Zr.row z A7 n7 c7).c5, .int .i64 (Zr.row z A7 n7 c7).c6, .int .i64 (Zr.row z A7 n7 c7).c7, .int .i64 (Zr.row z A7 n7 c7).c8, .int .i64 (Zr.row z A7 n7 c7).c9, .int .i64 (Zr.row z A7 n7 c7).c10, .int .i64 (Zr.row z A7 n7 c7).c11, .int .i64 (Zr.row z A7 n7 c7).c12, .int .i64 (Zr.row z A7 n7 c7).c13, .int .i64 (m.cnt.kept q.pk).sr, .int .i64 (m.cnt.kept q.pk).ds, .int .i64 (m.cnt.kept q.pk).cn, .int .i64 (m.cnt.kept q.pk).cl, .int .i64 (m.cnt.kept q.pk).base, .slice (Zr.row z A7 n7 c7).A (Zr.row z A7 n7 c7).n (Zr.row z A7 n7 c7).c, .slice (Zr.row z A7 n7 c7).J (Zr.row z A7 n7 c7).jn (Zr.row z A7 n7 c7).jc, .int .i64 (m.cnt.kept q.pk).jm.ps.length, .int .i64 (m.cnt.kept q.pk).jm.N, .int .i64 (m.cnt.kept q.pk).jm.T, .int .i64 (m.cnt.kept q.pk).ar, .int .i64 (m.cnt.kept q.pk).pl, .int .i64 (m.cnt.kept q.pk).pd, .bool (m.cnt.kept q.pk).dn] rfl rfl ?_))
  rw [← hV7]
  have y2 := z2.st hs7 (by omega)
  have y3 := z3.st hs7 (by omega)
  have hz7 := hs7.size
  have HR7 := Lib.hid (HR6.out.st (hs7.mono fun x _ hx => .inr ⟨by omega, by omega⟩) (Gr.refl _ _))
  have HB7 := Lib.hid (HB.out.trans (hs7.below HB.out.size (fun x hx => by omega)))
  clear hV7 z1 z2 z3 e19 f19 hs7 HB HB0
  have HGO := Lib.hid (r_goes HR7.out HOK.out.1 HDN.out (fun x hx => by have := HF5.out x hx; omega) HOK.out.2.1 HOK.out.2.2)
  refine HGO.out.mono ?_
  rintro en V8 ⟨z8, A8, n8, c8, rfl, hr8, ho8, hb8⟩
  clear HGO
  have hz8 := hb8.size
  have t1 := Lib.hid (y1.below hb8)
  have t2 := Lib.hid (y2.below hb8)
  have t3 := Lib.hid (y3.below hb8)
  have HR8 := Lib.hid hr8
  have HO8 := Lib.hid ho8
  have HB8 := Lib.hid (HB7.out.trans (hb8.mono HB7.out.size))
  clear y1 y2 y3 hr8 ho8 hb8 HB7
  go_wp2_with (first
    | (with_reducible refine at_store 34 (.tmp 2) (.tmp 71) (by rfl) ?_
       refine wpList_store_bk rowRv rfl (.tmp 2) (.tmp 71) rfl w.heap.size 0 rfl t1.out [.int .i64 z8.c0, .int .i64 ((m.cnt.kept q.pk).adv).pa, .int .i64 z8.c2, .int .i64 z8.c3, .int .i64 ((m.cnt.kept q.pk).adv).size, .int .i64 z8.c5, .int .i64 z8.c6, .int .i64 z8.c7, .int .i64 z8.c8, .int .i64 z8.c9, .int .i64 z8.c10, .int .i64 z8.c11, .int .i64 z8.c12, .int .i64 z8.c13, .int .i64 ((m.cnt.kept q.pk).adv).sr, .int .i64 ((m.cnt.kept q.pk).adv).ds, .int .i64 ((m.cnt.kept q.pk).adv).cn, .int .i64 ((m.cnt.kept q.pk).adv).cl, .int .i64 ((m.cnt.kept q.pk).adv).base, .slice z8.A z8.n z8.c, .slice z8.J z8.jn z8.jc, .int .i64 ((m.cnt.kept q.pk).adv).jm.ps.length, .int .i64 ((m.cnt.kept q.pk).adv).jm.N, .int .i64 ((m.cnt.kept q.pk).adv).jm.T, .int .i64 ((m.cnt.kept q.pk).adv).ar, .int .i64 ((m.cnt.kept q.pk).adv).pl, .int .i64 ((m.cnt.kept q.pk).adv).pd, .bool ((m.cnt.kept q.pk).adv).dn] rfl rfl (by show 0 + 28 ≤ 28; decide) (Rm.rl_one (m.cnt.kept q.pk).adv z8) ?_
       rintro u9 z1 hu9
       rw [lay_all _ _ (by rfl)] at z1))
  have hs9 : St (· = w.heap.size) V8 u9 := ⟨hu9.os, hu9.tape, hu9.output, hu9.size, fun x hx hn => hu9.block x hx (by intro he; injection he with he; exact hn he)⟩
  have z2 := t2.out.st hs9 (by omega)
  have z3 := t3.out.st hs9 (by omega)
  have HR9 := Lib.hid (HR8.out.st (hs9.mono fun x _ hx => .inr ⟨by omega, by omega⟩) (Gr.refl _ _))
  have HB := Lib.hid (HB8.out.trans (hs9.below HB8.out.size (fun x hx => by omega)))
  have HS9 := Lib.hid hs9
  have hz9 := hs9.size
  clear hs9 hu9
  refine wp_region_E (Below (w.heap.size + 2)) (by kernel_rfl) (fun wd hbd hsz => ?_)
  have HBD := Lib.hid hbd
  have hdz := hbd.size
  have y1 := Lib.hid (z1.below hbd)
  have y2 := Lib.hid (z2.below hbd)
  have y3 := Lib.hid (z3.below hbd)
  clear hsz
  (refine takeE (belowTr (w.heap.size + 2)) 0 (by simp only [List.getElem?_toArray, List.getElem?_cons_succ, List.getElem?_cons_zero]; rfl) (by kernel_rfl) (by kernel_rfl) (by kernel_rfl) (by exact fun _ _ _ h => h) (by first | (refine Or.inl ⟨by rfl, ?_⟩; intro W hW; exact exec_load_bk rowRv _ rfl w.heap.size 0 rfl (y1.out.keep hW (by omega)) [.int .i64 z8.c0, .int .i64 ((m.cnt.kept q.pk).adv).pa, .int .i64 z8.c2, .int .i64 z8.c3, .int .i64 ((m.cnt.kept q.pk).adv).size, .int .i64 z8.c5, .int .i64 z8.c6, .int .i64 z8.c7, .int .i64 z8.c8, .int .i64 z8.c9, .int .i64 z8.c10, .int .i64 z8.c11, .int .i64 z8.c12, .int .i64 z8.c13, .int .i64 ((m.cnt.kept q.pk).adv).sr, .int .i64 ((m.cnt.kept q.pk).adv).ds, .int .i64 ((m.cnt.kept q.pk).adv).cn, .int .i64 ((m.cnt.kept q.pk).adv).cl, .int .i64 ((m.cnt.kept q.pk).adv).base, .slice z8.A z8.n z8.c, .slice z8.J z8.jn z8.jc, .int .i64 ((m.cnt.kept q.pk).adv).jm.ps.length, .int .i64 ((m.cnt.kept q.pk).adv).jm.N, .int .i64 ((m.cnt.kept q.pk).adv).jm.T, .int .i64 ((m.cnt.kept q.pk).adv).ar, .int .i64 ((m.cnt.kept q.pk).adv).pl, .int .i64 ((m.cnt.kept q.pk).adv).pd, .bool ((m.cnt.kept q.pk).adv).dn] rfl rfl) | exact Or.inr ⟨by rfl, rfl⟩) ?_; try simp only [Act.put, List.setIfInBounds_toArray, List.set_cons_zero, List.set_cons_succ])
  (refine takeE (belowTr (w.heap.size + 2)) 1 (by simp only [List.getElem?_toArray, List.getElem?_cons_succ, List.getElem?_cons_zero]; rfl) (by kernel_rfl) (by kernel_rfl) (by kernel_rfl) (by exact fun _ _ _ h => h) (by first | (refine Or.inl ⟨by rfl, ?_⟩; intro W hW; exact exec_load_bk rowRv _ rfl w.heap.size 0 rfl (y1.out.keep hW (by omega)) [.int .i64 z8.c0, .int .i64 ((m.cnt.kept q.pk).adv).pa, .int .i64 z8.c2, .int .i64 z8.c3, .int .i64 ((m.cnt.kept q.pk).adv).size, .int .i64 z8.c5, .int .i64 z8.c6, .int .i64 z8.c7, .int .i64 z8.c8, .int .i64 z8.c9, .int .i64 z8.c10, .int .i64 z8.c11, .int .i64 z8.c12, .int .i64 z8.c13, .int .i64 ((m.cnt.kept q.pk).adv).sr, .int .i64 ((m.cnt.kept q.pk).adv).ds, .int .i64 ((m.cnt.kept q.pk).adv).cn, .int .i64 ((m.cnt.kept q.pk).adv).cl, .int .i64 ((m.cnt.kept q.pk).adv).base, .slice z8.A z8.n z8.c, .slice z8.J z8.jn z8.jc, .int .i64 ((m.cnt.kept q.pk).adv).jm.ps.length, .int .i64 ((m.cnt.kept q.pk).adv).jm.N, .int .i64 ((m.cnt.kept q.pk).adv).jm.T, .int .i64 ((m.cnt.kept q.pk).adv).ar, .int .i64 ((m.cnt.kept q.pk).adv).pl, .int .i64 ((m.cnt.kept q.pk).adv).pd, .bool ((m.cnt.kept q.pk).adv).dn] rfl rfl) | exact Or.inr ⟨by rfl, rfl⟩) ?_; try simp only [Act.put, List.setIfInBounds_toArray, List.set_cons_zero, List.set_cons_succ])
  (refine takeE (belowTr (w.heap.size + 2)) 2 (by simp only [List.getElem?_toArray, List.getElem?_cons_succ, List.getElem?_cons_zero]; rfl) (by kernel_rfl) (by kernel_rfl) (by kernel_rfl) (by exact fun _ _ _ h => h) (by first | (refine Or.inl ⟨by rfl, ?_⟩; intro W hW; exact exec_loadRow rowP _ rfl (w.heap.size + 1) 0 rfl q (Bk.pk (y2.out.keep hW (by omega)))) | exact Or.inr ⟨by rfl, rfl⟩) ?_; try simp only [Act.put, List.setIfInBounds_toArray, List.set_cons_zero, List.set_cons_succ])
  (refine takeE (belowTr (w.heap.size + 2)) 4 (by simp only [List.getElem?_toArray, List.getElem?_cons_succ, List.getElem?_cons_zero]; rfl) (by kernel_rfl) (by kernel_rfl) (by kernel_rfl) (by exact fun _ _ _ h => h) (by first | (refine Or.inl ⟨by rfl, ?_⟩; intro W hW; go_simp; try with_reducible rfl) | exact Or.inr ⟨by rfl, rfl⟩) ?_; try simp only [Act.put, List.setIfInBounds_toArray, List.set_cons_zero, List.set_cons_succ])
  refine wpAnyE_one (i := 3) (by kernel_rfl) (by simp only [List.getElem?_toArray, List.getElem?_cons_succ, List.getElem?_cons_zero]; rfl) (fun K hK => ?_)
  go_simp
  refine (r_answer (z := z8) (m := (m.cnt.kept q.pk).adv) 2 q _).mono ?_
  rintro en w7 ⟨A, c, rfl, hsl, hb7⟩
  have HSL := Lib.hid hsl
  have HB7 := Lib.hid hb7
  have hz7 := hb7.size
  clear hsl hb7
  refine hK.out _ _ (HB7.out.mono (by omega)) ?_
  clear hK K
  try simp only [Act.put, List.setIfInBounds_toArray, List.set_cons_zero, List.set_cons_succ]
  refine wpAnyE_one (i := 5) (by kernel_rfl) (by simp only [List.getElem?_toArray, List.getElem?_cons_succ, List.getElem?_cons_zero]; rfl) (fun K hK => ?_)
  refine opwp_store_bk rowRv rfl (.tmp 4) (.tmp 73) rfl (w.heap.size + 2) 0 rfl (y3.out.below HB7.out) [.int .i64 z8.c0, .int .i64 ((m.cnt.kept q.pk).adv).pa, .int .i64 z8.c2, .int .i64 z8.c3, .int .i64 ((m.cnt.kept q.pk).adv).size, .int .i64 z8.c5, .int .i64 z8.c6, .int .i64 z8.c7, .int .i64 z8.c8, .int .i64 z8.c9, .int .i64 z8.c10, .int .i64 z8.c11, .int .i64 z8.c12, .int .i64 z8.c13, .int .i64 ((m.cnt.kept q.pk).adv).sr, .int .i64 ((m.cnt.kept q.pk).adv).ds, .int .i64 ((m.cnt.kept q.pk).adv).cn, .int .i64 ((m.cnt.kept q.pk).adv).cl, .int .i64 ((m.cnt.kept q.pk).adv).base, .slice z8.A z8.n z8.c, .slice z8.J z8.jn z8.jc, .int .i64 ((m.cnt.kept q.pk).adv).jm.ps.length, .int .i64 ((m.cnt.kept q.pk).adv).jm.N, .int .i64 ((m.cnt.kept q.pk).adv).jm.T, .int .i64 ((m.cnt.kept q.pk).adv).ar, .int .i64 ((m.cnt.kept q.pk).adv).pl, .int .i64 ((m.cnt.kept q.pk).adv).pd, .bool ((m.cnt.kept q.pk).adv).dn] rfl rfl (by decide) (Rm.rl_one _ _) ?_
  intro w9 z9 hw9
  rw [lay_all _ _ (by rfl)] at z9
  have HZ9 := Lib.hid z9
  have HB9 := Lib.hid (hw9.below (Nat.le_refl _) (by omega) : Below (w.heap.size + 2) w7 w9)
  have HW9 := Lib.hid hw9
  clear z9 hw9
  refine hK.out _ _ HB9.out ?_
  clear hK K
  try simp only [Act.put, List.setIfInBounds_toArray, List.set_cons_zero, List.set_cons_succ]
  (refine takeE (belowTr (w.heap.size + 2)) 6 (by simp only [List.getElem?_toArray, List.getElem?_cons_succ, List.getElem?_cons_zero]; rfl) (by kernel_rfl) (by kernel_rfl) (by kernel_rfl) (by exact fun _ _ _ h => h) (by first | (refine Or.inl ⟨by rfl, ?_⟩; intro W hW; go_simp; try with_reducible rfl) | exact Or.inr ⟨by rfl, rfl⟩) ?_; try simp only [Act.put, List.setIfInBounds_toArray, List.set_cons_zero, List.set_cons_succ])
  (refine takeE (belowTr (w.heap.size + 2)) 7 (by simp only [List.getElem?_toArray, List.getElem?_cons_succ, List.getElem?_cons_zero]; rfl) (by kernel_rfl) (by kernel_rfl) (by kernel_rfl) (by exact fun _ _ _ h => h) (by first | (refine Or.inl ⟨by rfl, ?_⟩; intro W hW; go_simp; try with_reducible rfl) | exact Or.inr ⟨by rfl, rfl⟩) ?_; try simp only [Act.put, List.setIfInBounds_toArray, List.set_cons_zero, List.set_cons_succ])
  refine wpAnyE_done (by kernel_rfl) ?_ _
  skip
  go_wp2
  have hb9 : Below w.heap.size w w9 := (((HB.out.trans (HBD.out.mono HB.out.size)).trans (HB7.out.mono (by have := HB.out.size; omega))).trans (HB9.out.mono (by omega)))
  have hsW : St (· = w.heap.size + 2) w7 w9 := ⟨HW9.out.os, HW9.out.tape, HW9.out.output, HW9.out.size, fun x hx hn => HW9.out.block x hx (by intro he; injection he with he; exact hn he)⟩
  have hall : St (fun x => x = w.heap.size ∨ x = w.heap.size + 2) V8 w9 := (HS9.out.mono (fun x _ hx => .inl hx)).trans ((St.ext HBD.out).trans ((St.ext HB7.out).trans (hsW.mono fun x _ hx => .inr hx) (Gr.refl _ _)) (Gr.refl _ _)) (Gr.refl _ _)
  have hR : RfR F w9 z8 (m.cnt.kept q.pk).adv := (((HR9.out.below HBD.out).below HB7.out).st (hsW.mono fun x _ hx => .inr ⟨by omega, by omega⟩) (Gr.refl _ _)).mono fun x hx => .inl hx
  have hO : SlT w9 A8 n8 c8 (m.cnt.kept q.pk).av.out := HO8.out.stS hall (fun x hx => hx.elim (fun h' => by rw [h']; exact ⟨t1.out.tyd.ne (by decide), t1.out.tyd.ne (by decide)⟩) (fun h' => by rw [h']; exact ⟨t3.out.tyd.ne (by decide), t3.out.tyd.ne (by decide)⟩))
  refine bodyPost_ret (results_cell_tmp2 rfl rfl (rowRv.load HZ9.out 0 (cs := [.int .i64 z8.c0, .int .i64 ((m.cnt.kept q.pk).adv).pa, .int .i64 z8.c2, .int .i64 z8.c3, .int .i64 ((m.cnt.kept q.pk).adv).size, .int .i64 z8.c5, .int .i64 z8.c6, .int .i64 z8.c7, .int .i64 z8.c8, .int .i64 z8.c9, .int .i64 z8.c10, .int .i64 z8.c11, .int .i64 z8.c12, .int .i64 z8.c13, .int .i64 ((m.cnt.kept q.pk).adv).sr, .int .i64 ((m.cnt.kept q.pk).adv).ds, .int .i64 ((m.cnt.kept q.pk).adv).cn, .int .i64 ((m.cnt.kept q.pk).adv).cl, .int .i64 ((m.cnt.kept q.pk).adv).base, .slice z8.A z8.n z8.c, .slice z8.J z8.jn z8.jc, .int .i64 ((m.cnt.kept q.pk).adv).jm.ps.length, .int .i64 ((m.cnt.kept q.pk).adv).jm.N, .int .i64 ((m.cnt.kept q.pk).adv).jm.T, .int .i64 ((m.cnt.kept q.pk).adv).ar, .int .i64 ((m.cnt.kept q.pk).adv).pl, .int .i64 ((m.cnt.kept q.pk).adv).pd, .bool ((m.cnt.kept q.pk).adv).dn]) rfl rfl)) rfl ⟨z8, A, 1, c, A8, n8, c8, by rw [HT1.out.1]; rfl, by rw [HT1.out.1]; exact hR, ?_, by rw [HT1.out.2.2]; exact hO, hb9⟩
  rw [HT1.out.2.1]
  exact (HSL.out.mono (F' := fun x => F x ∨ x = w.heap.size + 2) (fun x hx => hx.elim (fun hx => by have := HF.out x hx; have := HB.out.size; show x < wd.heap.size; omega) (fun hx => by show x < wd.heap.size; omega))).st (hsW.mono fun x _ hx => .inr hx) (Gr.refl _ _) |>.mono fun x hx => .inl hx

end
end Go.Proofs.Ytmmjhijgedboiaa
namespace Go.Proofs.Ytmmjhijgedboiaa
open Go.RowKit Go.Shelf
theorem avL_op : ∀ (ks : List Pk) (b : Nat) (j : Jm) (out : List (List Int)), j.op ≤ 65536 → (avL b j out ks).j.op ≤ 65536
  | [], b, j, out, h => by rw [avL_nil]; exact h
  | p :: t, b, j, out, h => by
    by_cases hq : p.h.sq = b
    · cases hf : hasB p.h.fl 4 with
      | true => rw [avL_fin hq hf]; exact h
      | false => rw [avL_on hq hf]; exact avL_op t _ _ _ (add_op h _ _)
    · rw [avL_stop hq]; exact h
section
variable {F : Nat → Prop} {w w' : World} {m : Rm} {z : Zr} {p : Pk}
theorem Rm.adv_op (h : m.jm.op ≤ 65536) : m.adv.jm.op ≤ 65536 := avL_op m.ks m.base m.jm [] h
theorem Rm.take_op (h : m.jm.op ≤ 65536) (p : Pk) : (m.take p).jm.op ≤ 65536 := by
  unfold Rm.take
  split
  · exact h
  · split
    · exact h
    · split
      · exact h
      · split
        · exact h
        · exact Rm.adv_op (m := m.cnt.kept p) h
theorem r_take {c : Nat} (h : RfR F w z m) (hf : m.Fit c) (hc : c < 59000) (hop : m.jm.op ≤ 65536) (hsz : m.size ≤ 1000000000) (q : Pv) (hq : PvR F w q) (hF : ∀ x, F x → x < w.heap.size) (hxs : q.pk.xs.length ≤ 1100) : Calls Try.prog 11 #[.agg #[.int .i64 z.c0, .int .i64 m.pa, .int .i64 z.c2, .int .i64 z.c3, .int .i64 m.size, .int .i64 z.c5, .int .i64 z.c6, .int .i64 z.c7, .int .i64 z.c8, .int .i64 z.c9, .int .i64 z.c10, .int .i64 z.c11, .int .i64 z.c12, .int .i64 z.c13, .int .i64 m.sr, .int .i64 m.ds, .int .i64 m.cn, .int .i64 m.cl, .int .i64 m.base, .slice z.A z.n z.c, .slice z.J z.jn z.jc, .int .i64 m.jm.ps.length, .int .i64 m.jm.N, .int .i64 m.jm.T, .int .i64 m.ar, .int .i64 m.pl, .int .i64 m.pd, .bool m.dn], .agg #[.int .i64 q.h.kd, .int .i64 q.h.fl, .int .i64 q.h.pa, .int .i64 q.h.sr, .int .i64 q.h.ds, .int .i64 q.h.cn, .int .i64 q.h.sq, .int .i64 q.h.pu, .slice q.A q.n q.c]] w (RTk F w m q.pk) := by
  have hlen := h.kp.len
  have hlc := hf.lc
  have hn : z.n ≤ 1000000 := by omega
  have htd : q.pk.tkn = (decide (q.h.kd = 1) && !hasB q.h.fl 16 && witB q.h.sq 0 1152921504606846976) := rfl
  cases htk : q.pk.tkn with
  | false =>
    by_cases hk : q.h.kd = 1
    · cases h16 : hasB q.h.fl 16 with
      | true => exact r_take_no2 h q hq hF htk hk h16
      | false =>
        cases hwi : witB q.h.sq 0 1152921504606846976 with
        | true => rw [htk, decide_eq_true hk, h16, hwi] at htd; exact absurd htd (by decide)
        | false => exact r_take_no3 h q hq hF htk hk h16 hwi
    · exact r_take_no1 h q hq hF htk hk
  | true =>
    rw [htk] at htd
    have htd := htd.symm
    simp only [Bool.and_eq_true, Bool.not_eq_true', decide_eq_true_eq] at htd
    obtain ⟨⟨hk, h16⟩, hwi⟩ := htd
    rcases Bool.eq_false_or_eq_true m.dn with hdn | hdn
    · exact r_take_ack1 h q hq hF htk hk h16 hwi hdn
    · cases hhs : m.hs q.pk with
      | true => exact r_take_ack2 h q hq hF htk hk h16 hwi hdn hhs hn
      | false =>
        have hbz : m.base + m.size ≤ 4611686018427387904 := by omega
        cases hin : m.inw q.pk with
        | false => exact r_take_out h q hq hF htk hk h16 hwi hdn hhs hn hin hbz
        | true =>
          have hct : m.ar < 1000000000 ∧ m.pd < 1000000000 := by have := hf.ok.ct; have := hf.ac; omega
          cases h8 : hasB q.h.fl 8 with
          | true => exact r_take_cnt h q hq hF htk hk h16 hwi hdn hhs hn hin hbz hct h8
          | false =>
            obtain ⟨k, hkn, hk1, hk2, hk3⟩ := Rm.hs_no hhs htk
            have hin2 := hin
            unfold Rm.inw at hin2
            have h9 := of_decide_eq_true hin2
            have hok : (m.cnt.kept q.pk).Ok := (hf.ok.cnt hct.1).kept hkn hk1 (show k < m.base + m.size by omega) hk2 hk3 hdn (show m.base + m.ks.length < 1000000 by omega) hxs
            have hl : (m.cnt.kept q.pk).base + (m.cnt.kept q.pk).ks.length ≤ 60000 := by
              show m.base + (insK q.pk m.ks).length ≤ 60000
              rw [insK_len]; omega
            exact r_take_kept h q hq hF htk hk h16 hwi hdn hhs hn hin hbz hct h8 hok hl hop
end
end Go.Proofs.Ytmmjhijgedboiaa
namespace Go.Proofs.Ytmmjhijgedboiaa
open Go.RowKit Go.Shelf
theorem results_two_tmp {P : Program} {w : World} {t1 t2 : TypeId} {fn : Func} {s u v : Tmp} (h : fn.results = #[.cell s t1, .cell u t2, .tmp v]) {tmps : Array Value} {a b : Addr} (ha : tmps.getD s undef = .pointer (some a)) (hb : tmps.getD u undef = .pointer (some b)) {x y : Value} (hl : (loadVar t1 a).run P w = .ok x w) (hm : (loadVar t2 b).run P w = .ok y w) :
    (results fn tmps).run P w = .ok (.tuple #[x, y, tmps.getD v undef]) w := by
  rw [Array.getD_eq_getD_getElem?] at ha hb
  simp [results, h, ha, hb, asAddr_some, hl, hm]
section
variable {F : Nat → Prop} {w w' : World} {m : Rm} {z : Zr}
set_option maxHeartbeats 8000000 in
theorem r_line (z : Zr) (m : Rm) (w : World) : Calls Try.prog 19 #[.agg #[.int .i64 z.c0, .int .i64 m.pa, .int .i64 z.c2, .int .i64 z.c3, .int .i64 m.size, .int .i64 z.c5, .int .i64 z.c6, .int .i64 z.c7, .int .i64 z.c8, .int .i64 z.c9, .int .i64 z.c10, .int .i64 z.c11, .int .i64 z.c12, .int .i64 z.c13, .int .i64 m.sr, .int .i64 m.ds, .int .i64 m.cn, .int .i64 m.cl, .int .i64 m.base, .slice z.A z.n z.c, .slice z.J z.jn z.jc, .int .i64 m.jm.ps.length, .int .i64 m.jm.N, .int .i64 m.jm.T, .int .i64 m.ar, .int .i64 m.pl, .int .i64 m.pd, .bool m.dn]] w fun en w' => en = .returned (.agg #[.int .i64 m.sr, .int .i64 m.ds, .int .i64 m.cn, .int .i64 m.cl, .int .i64 m.base, .int .i64 0, .int .i64 0, .int .i64 m.pl, .int .i64 0, .int .i64 0, .int .i64 m.ar, .int .i64 m.pd, .bool false, .bool m.dn]) ∧ Below w.heap.size w w' := by
  have hb1 : Below w.heap.size w ((w.alloc (.cells #[.int .i64 z.c0, .int .i64 m.pa, .int .i64 z.c2, .int .i64 z.c3, .int .i64 m.size, .int .i64 z.c5, .int .i64 z.c6, .int .i64 z.c7, .int .i64 z.c8, .int .i64 z.c9, .int .i64 z.c10, .int .i64 z.c11, .int .i64 z.c12, .int .i64 z.c13, .int .i64 m.sr, .int .i64 m.ds, .int .i64 m.cn, .int .i64 m.cl, .int .i64 m.base, .slice z.A z.n z.c, .slice z.J z.jn z.jc, .int .i64 m.jm.ps.length, .int .i64 m.jm.N, .int .i64 m.jm.T, .int .i64 m.ar, .int .i64 m.pl, .int .i64 m.pd, .bool m.dn] 34)).alloc (.cells #[.int .i64 0, .int .i64 0, .int .i64 0, .int .i64 0, .int .i64 0, .int .i64 0, .int .i64 0, .int .i64 0, .int .i64 0, .int .i64 0, .int .i64 0, .int .i64 0, .bool false, .bool false] 58)) := ((Below.refl _ w).alloc (Nat.le_refl _) _).alloc (by simp) _
  have z1 : Bk ((w.alloc (.cells #[.int .i64 z.c0, .int .i64 m.pa, .int .i64 z.c2, .int .i64 z.c3, .int .i64 m.size, .int .i64 z.c5, .int .i64 z.c6, .int .i64 z.c7, .int .i64 z.c8, .int .i64 z.c9, .int .i64 z.c10, .int .i64 z.c11, .int .i64 z.c12, .int .i64 z.c13, .int .i64 m.sr, .int .i64 m.ds, .int .i64 m.cn, .int .i64 m.cl, .int .i64 m.base, .slice z.A z.n z.c, .slice z.J z.jn z.jc, .int .i64 m.jm.ps.length, .int .i64 m.jm.N, .int .i64 m.jm.T, .int .i64 m.ar, .int .i64 m.pl, .int .i64 m.pd, .bool m.dn] 34)).alloc (.cells #[.int .i64 0, .int .i64 0, .int .i64 0, .int .i64 0, .int .i64 0, .int .i64 0, .int .i64 0, .int .i64 0, .int .i64 0, .int .i64 0, .int .i64 0, .int .i64 0, .bool false, .bool false] 58)) 34 w.heap.size [.int .i64 z.c0, .int .i64 m.pa, .int .i64 z.c2, .int .i64 z.c3, .int .i64 m.size, .int .i64 z.c5, .int .i64 z.c6, .int .i64 z.c7, .int .i64 z.c8, .int .i64 z.c9, .int .i64 z.c10, .int .i64 z.c11, .int .i64 z.c12, .int .i64 z.c13, .int .i64 m.sr, .int .i64 m.ds, .int .i64 m.cn, .int .i64 m.cl, .int .i64 m.base, .slice z.A z.n z.c, .slice z.J z.jn z.jc, .int .i64 m.jm.ps.length, .int .i64 m.jm.N, .int .i64 m.jm.T, .int .i64 m.ar, .int .i64 m.pl, .int .i64 m.pd, .bool m.dn] := (Bk.new w 34 [.int .i64 z.c0, .int .i64 m.pa, .int .i64 z.c2, .int .i64 z.c3, .int .i64 m.size, .int .i64 z.c5, .int .i64 z.c6, .int .i64 z.c7, .int .i64 z.c8, .int .i64 z.c9, .int .i64 z.c10, .int .i64 z.c11, .int .i64 z.c12, .int .i64 z.c13, .int .i64 m.sr, .int .i64 m.ds, .int .i64 m.cn, .int .i64 m.cl, .int .i64 m.base, .slice z.A z.n z.c, .slice z.J z.jn z.jc, .int .i64 m.jm.ps.length, .int .i64 m.jm.N, .int .i64 m.jm.T, .int .i64 m.ar, .int .i64 m.pl, .int .i64 m.pd, .bool m.dn]).alloc _
  have z2 : Bk ((w.alloc (.cells #[.int .i64 z.c0, .int .i64 m.pa, .int .i64 z.c2, .int .i64 z.c3, .int .i64 m.size, .int .i64 z.c5, .int .i64 z.c6, .int .i64 z.c7, .int .i64 z.c8, .int .i64 z.c9, .int .i64 z.c10, .int .i64 z.c11, .int .i64 z.c12, .int .i64 z.c13, .int .i64 m.sr, .int .i64 m.ds, .int .i64 m.cn, .int .i64 m.cl, .int .i64 m.base, .slice z.A z.n z.c, .slice z.J z.jn z.jc, .int .i64 m.jm.ps.length, .int .i64 m.jm.N, .int .i64 m.jm.T, .int .i64 m.ar, .int .i64 m.pl, .int .i64 m.pd, .bool m.dn] 34)).alloc (.cells #[.int .i64 0, .int .i64 0, .int .i64 0, .int .i64 0, .int .i64 0, .int .i64 0, .int .i64 0, .int .i64 0, .int .i64 0, .int .i64 0, .int .i64 0, .int .i64 0, .bool false, .bool false] 58)) 58 (w.heap.size + 1) [.int .i64 0, .int .i64 0, .int .i64 0, .int .i64 0, .int .i64 0, .int .i64 0, .int .i64 0, .int .i64 0, .int .i64 0, .int .i64 0, .int .i64 0, .int .i64 0, .bool false, .bool false] := by
    have := Bk.new (w.alloc (.cells #[.int .i64 z.c0, .int .i64 m.pa, .int .i64 z.c2, .int .i64 z.c3, .int .i64 m.size, .int .i64 z.c5, .int .i64 z.c6, .int .i64 z.c7, .int .i64 z.c8, .int .i64 z.c9, .int .i64 z.c10, .int .i64 z.c11, .int .i64 z.c12, .int .i64 z.c13, .int .i64 m.sr, .int .i64 m.ds, .int .i64 m.cn, .int .i64 m.cl, .int .i64 m.base, .slice z.A z.n z.c, .slice z.J z.jn z.jc, .int .i64 m.jm.ps.length, .int .i64 m.jm.N, .int .i64 m.jm.T, .int .i64 m.ar, .int .i64 m.pl, .int .i64 m.pd, .bool m.dn] 34)) 58 [.int .i64 0, .int .i64 0, .int .i64 0, .int .i64 0, .int .i64 0, .int .i64 0, .int .i64 0, .int .i64 0, .int .i64 0, .int .i64 0, .int .i64 0, .int .i64 0, .bool false, .bool false]
    rw [World.size_alloc] at this
    exact this
  have HB := Lib.hid hb1
  clear hb1
  have e14 := z1.cell 14 rfl
  have e15 := z1.cell 15 rfl
  have e16 := z1.cell 16 rfl
  have e17 := z1.cell 17 rfl
  have e18 := z1.cell 18 rfl
  have e24 := z1.cell 24 rfl
  have e25 := z1.cell 25 rfl
  have e26 := z1.cell 26 rfl
  have e27 := z1.cell 27 rfl
  go_enter Try.func19, Try.ntmps19
  go_wp2_with (first
    | (with_reducible refine at_store 58 (.tmp 2) (.tmp 21) (by rfl) ?_
       refine wpList_store_bk rowLn rfl (.tmp 2) (.tmp 21) rfl (w.heap.size + 1) 0 rfl z2 [.int .i64 m.sr, .int .i64 m.ds, .int .i64 m.cn, .int .i64 m.cl, .int .i64 m.base, .int .i64 0, .int .i64 0, .int .i64 m.pl, .int .i64 0, .int .i64 0, .int .i64 m.ar, .int .i64 m.pd, .bool false, .bool m.dn] rfl rfl (by decide) (by simp [Value.oneCell']) ?_
       rintro w5 z5 hw5
       rw [lay_all _ _ (by rfl)] at z5))
  exact bodyPost_ret (results_cell rfl rfl (rowLn.load z5 0 (cs := [.int .i64 m.sr, .int .i64 m.ds, .int .i64 m.cn, .int .i64 m.cl, .int .i64 m.base, .int .i64 0, .int .i64 0, .int .i64 m.pl, .int .i64 0, .int .i64 0, .int .i64 m.ar, .int .i64 m.pd, .bool false, .bool m.dn]) rfl rfl)) rfl ⟨rfl, HB.out.trans (hw5.below (by omega) HB.out.size)⟩
set_option maxHeartbeats 8000000 in
theorem r_issue_no (h : RfR F w z m) (hp : m.pd = 0) : Calls Try.prog 15 #[.agg #[.int .i64 z.c0, .int .i64 m.pa, .int .i64 z.c2, .int .i64 z.c3, .int .i64 m.size, .int .i64 z.c5, .int .i64 z.c6, .int .i64 z.c7, .int .i64 z.c8, .int .i64 z.c9, .int .i64 z.c10, .int .i64 z.c11, .int .i64 z.c12, .int .i64 z.c13, .int .i64 m.sr, .int .i64 m.ds, .int .i64 m.cn, .int .i64 m.cl, .int .i64 m.base, .slice z.A z.n z.c, .slice z.J z.jn z.jc, .int .i64 m.jm.ps.length, .int .i64 m.jm.N, .int .i64 m.jm.T, .int .i64 m.ar, .int .i64 m.pl, .int .i64 m.pd, .bool m.dn]] w fun en w' => en = .returned (.tuple #[.agg #[.int .i64 z.c0, .int .i64 m.pa, .int .i64 z.c2, .int .i64 z.c3, .int .i64 m.size, .int .i64 z.c5, .int .i64 z.c6, .int .i64 z.c7, .int .i64 z.c8, .int .i64 z.c9, .int .i64 z.c10, .int .i64 z.c11, .int .i64 z.c12, .int .i64 z.c13, .int .i64 m.sr, .int .i64 m.ds, .int .i64 m.cn, .int .i64 m.cl, .int .i64 m.base, .slice z.A z.n z.c, .slice z.J z.jn z.jc, .int .i64 m.jm.ps.length, .int .i64 m.jm.N, .int .i64 m.jm.T, .int .i64 m.ar, .int .i64 m.pl, .int .i64 m.pd, .bool m.dn], .agg #[.int .i64 zPv.h.kd, .int .i64 zPv.h.fl, .int .i64 zPv.h.pa, .int .i64 zPv.h.sr, .int .i64 zPv.h.ds, .int .i64 zPv.h.cn, .int .i64 zPv.h.sq, .int .i64 zPv.h.pu, .slice zPv.A zPv.n zPv.c], .bool false]) ∧ Below w.heap.size w w' := by
  have hb1 : Below w.heap.size w (((w.alloc (.cells #[.int .i64 z.c0, .int .i64 m.pa, .int .i64 z.c2, .int .i64 z.c3, .int .i64 m.size, .int .i64 z.c5, .int .i64 z.c6, .int .i64 z.c7, .int .i64 z.c8, .int .i64 z.c9, .int .i64 z.c10, .int .i64 z.c11, .int .i64 z.c12, .int .i64 z.c13, .int .i64 m.sr, .int .i64 m.ds, .int .i64 m.cn, .int .i64 m.cl, .int .i64 m.base, .slice z.A z.n z.c, .slice z.J z.jn z.jc, .int .i64 m.jm.ps.length, .int .i64 m.jm.N, .int .i64 m.jm.T, .int .i64 m.ar, .int .i64 m.pl, .int .i64 m.pd, .bool m.dn] 34)).alloc (.cells #[.int .i64 0, .int .i64 0, .int .i64 0, .int .i64 0, .int .i64 0, .int .i64 0, .int .i64 0, .int .i64 0, .int .i64 0, .int .i64 0, .int .i64 0, .int .i64 0, .int .i64 0, .int .i64 0, .int .i64 0, .int .i64 0, .int .i64 0, .int .i64 0, .int .i64 0, .slice none 0 0, .slice none 0 0, .int .i64 0, .int .i64 0, .int .i64 0, .int .i64 0, .int .i64 0, .int .i64 0, .bool false] 34)).alloc (.cells #[.int .i64 0, .int .i64 0, .int .i64 0, .int .i64 0, .int .i64 0, .int .i64 0, .int .i64 0, .int .i64 0, .slice none 0 0] 40)) := (((Below.refl _ w).alloc (Nat.le_refl _) _).alloc (by simp) _).alloc (by simp; omega) _
  have z1 : Bk (((w.alloc (.cells #[.int .i64 z.c0, .int .i64 m.pa, .int .i64 z.c2, .int .i64 z.c3, .int .i64 m.size, .int .i64 z.c5, .int .i64 z.c6, .int .i64 z.c7, .int .i64 z.c8, .int .i64 z.c9, .int .i64 z.c10, .int .i64 z.c11, .int .i64 z.c12, .int .i64 z.c13, .int .i64 m.sr, .int .i64 m.ds, .int .i64 m.cn, .int .i64 m.cl, .int .i64 m.base, .slice z.A z.n z.c, .slice z.J z.jn z.jc, .int .i64 m.jm.ps.length, .int .i64 m.jm.N, .int .i64 m.jm.T, .int .i64 m.ar, .int .i64 m.pl, .int .i64 m.pd, .bool m.dn] 34)).alloc (.cells #[.int .i64 0, .int .i64 0, .int .i64 0, .int .i64 0, .int .i64 0, .int .i64 0, .int .i64 0, .int .i64 0, .int .i64 0, .int .i64 0, .int .i64 0, .int .i64 0, .int .i64 0, .int .i64 0, .int .i64 0, .int .i64 0, .int .i64 0, .int .i64 0, .int .i64 0, .slice none 0 0, .slice none 0 0, .int .i64 0, .int .i64 0, .int .i64 0, .int .i64 0, .int .i64 0, .int .i64 0, .bool false] 34)).alloc (.cells #[.int .i64 0, .int .i64 0, .int .i64 0, .int .i64 0, .int .i64 0, .int .i64 0, .int .i64 0, .int .i64 0, .slice none 0 0] 40)) 34 w.heap.size [.int .i64 z.c0, .int .i64 m.pa, .int .i64 z.c2, .int .i64 z.c3, .int .i64 m.size, .int .i64 z.c5, .int .i64 z.c6, .int .i64 z.c7, .int .i64 z.c8, .int .i64 z.c9, .int .i64 z.c10, .int .i64 z.c11, .int .i64 z.c12, .int .i64 z.c13, .int .i64 m.sr, .int .i64 m.ds, .int .i64 m.cn, .int .i64 m.cl, .int .i64 m.base, .slice z.A z.n z.c, .slice z.J z.jn z.jc, .int .i64 m.jm.ps.length, .int .i64 m.jm.N, .int .i64 m.jm.T, .int .i64 m.ar, .int .i64 m.pl, .int .i64 m.pd, .bool m.dn] := ((Bk.new w 34 [.int .i64 z.c0, .int .i64 m.pa, .int .i64 z.c2, .int .i64 z.c3, .int .i64 m.size, .int .i64 z.c5, .int .i64 z.c6, .int .i64 z.c7, .int .i64 z.c8, .int .i64 z.c9, .int .i64 z.c10, .int .i64 z.c11, .int .i64 z.c12, .int .i64 z.c13, .int .i64 m.sr, .int .i64 m.ds, .int .i64 m.cn, .int .i64 m.cl, .int .i64 m.base, .slice z.A z.n z.c, .slice z.J z.jn z.jc, .int .i64 m.jm.ps.length, .int .i64 m.jm.N, .int .i64 m.jm.T, .int .i64 m.ar, .int .i64 m.pl, .int .i64 m.pd, .bool m.dn]).alloc _).alloc _
  have z2 : Bk (((w.alloc (.cells #[.int .i64 z.c0, .int .i64 m.pa, .int .i64 z.c2, .int .i64 z.c3, .int .i64 m.size, .int .i64 z.c5, .int .i64 z.c6, .int .i64 z.c7, .int .i64 z.c8, .int .i64 z.c9, .int .i64 z.c10, .int .i64 z.c11, .int .i64 z.c12, .int .i64 z.c13, .int .i64 m.sr, .int .i64 m.ds, .int .i64 m.cn, .int .i64 m.cl, .int .i64 m.base, .slice z.A z.n z.c, .slice z.J z.jn z.jc, .int .i64 m.jm.ps.length, .int .i64 m.jm.N, .int .i64 m.jm.T, .int .i64 m.ar, .int .i64 m.pl, .int .i64 m.pd, .bool m.dn] 34)).alloc (.cells #[.int .i64 0, .int .i64 0, .int .i64 0, .int .i64 0, .int .i64 0, .int .i64 0, .int .i64 0, .int .i64 0, .int .i64 0, .int .i64 0, .int .i64 0, .int .i64 0, .int .i64 0, .int .i64 0, .int .i64 0, .int .i64 0, .int .i64 0, .int .i64 0, .int .i64 0, .slice none 0 0, .slice none 0 0, .int .i64 0, .int .i64 0, .int .i64 0, .int .i64 0, .int .i64 0, .int .i64 0, .bool false] 34)).alloc (.cells #[.int .i64 0, .int .i64 0, .int .i64 0, .int .i64 0, .int .i64 0, .int .i64 0, .int .i64 0, .int .i64 0, .slice none 0 0] 40)) 34 (w.heap.size + 1) [.int .i64 0, .int .i64 0, .int .i64 0, .int .i64 0, .int .i64 0, .int .i64 0, .int .i64 0, .int .i64 0, .int .i64 0, .int .i64 0, .int .i64 0, .int .i64 0, .int .i64 0, .int .i64 0, .int .i64 0, .int .i64 0, .int .i64 0, .int .i64 0, .int .i64 0, .slice none 0 0, .slice none 0 0, .int .i64 0, .int .i64 0, .int .i64 0, .int .i64 0, .int .i64 0, .int .i64 0, .bool false] := by
    have := (Bk.new (w.alloc (.cells #[.int .i64 z.c0, .int .i64 m.pa, .int .i64 z.c2, .int .i64 z.c3, .int .i64 m.size, .int .i64 z.c5, .int .i64 z.c6, .int .i64 z.c7, .int .i64 z.c8, .int .i64 z.c9, .int .i64 z.c10, .int .i64 z.c11, .int .i64 z.c12, .int .i64 z.c13, .int .i64 m.sr, .int .i64 m.ds, .int .i64 m.cn, .int .i64 m.cl, .int .i64 m.base, .slice z.A z.n z.c, .slice z.J z.jn z.jc, .int .i64 m.jm.ps.length, .int .i64 m.jm.N, .int .i64 m.jm.T, .int .i64 m.ar, .int .i64 m.pl, .int .i64 m.pd, .bool m.dn] 34)) 34 [.int .i64 0, .int .i64 0, .int .i64 0, .int .i64 0, .int .i64 0, .int .i64 0, .int .i64 0, .int .i64 0, .int .i64 0, .int .i64 0, .int .i64 0, .int .i64 0, .int .i64 0, .int .i64 0, .int .i64 0, .int .i64 0, .int .i64 0, .int .i64 0, .int .i64 0, .slice none 0 0, .slice none 0 0, .int .i64 0, .int .i64 0, .int .i64 0, .int .i64 0, .int .i64 0, .int .i64 0, .bool false]).alloc (.cells #[.int .i64 0, .int .i64 0, .int .i64 0, .int .i64 0, .int .i64 0, .int .i64 0, .int .i64 0, .int .i64 0, .slice none 0 0] 40)
    rw [World.size_alloc] at this
    exact this
  have z3 : Bk (((w.alloc (.cells #[.int .i64 z.c0, .int .i64 m.pa, .int .i64 z.c2, .int .i64 z.c3, .int .i64 m.size, .int .i64 z.c5, .int .i64 z.c6, .int .i64 z.c7, .int .i64 z.c8, .int .i64 z.c9, .int .i64 z.c10, .int .i64 z.c11, .int .i64 z.c12, .int .i64 z.c13, .int .i64 m.sr, .int .i64 m.ds, .int .i64 m.cn, .int .i64 m.cl, .int .i64 m.base, .slice z.A z.n z.c, .slice z.J z.jn z.jc, .int .i64 m.jm.ps.length, .int .i64 m.jm.N, .int .i64 m.jm.T, .int .i64 m.ar, .int .i64 m.pl, .int .i64 m.pd, .bool m.dn] 34)).alloc (.cells #[.int .i64 0, .int .i64 0, .int .i64 0, .int .i64 0, .int .i64 0, .int .i64 0, .int .i64 0, .int .i64 0, .int .i64 0, .int .i64 0, .int .i64 0, .int .i64 0, .int .i64 0, .int .i64 0, .int .i64 0, .int .i64 0, .int .i64 0, .int .i64 0, .int .i64 0, .slice none 0 0, .slice none 0 0, .int .i64 0, .int .i64 0, .int .i64 0, .int .i64 0, .int .i64 0, .int .i64 0, .bool false] 34)).alloc (.cells #[.int .i64 0, .int .i64 0, .int .i64 0, .int .i64 0, .int .i64 0, .int .i64 0, .int .i64 0, .int .i64 0, .slice none 0 0] 40)) 40 (w.heap.size + 2) [.int .i64 0, .int .i64 0, .int .i64 0, .int .i64 0, .int .i64 0, .int .i64 0, .int .i64 0, .int .i64 0, .slice none 0 0] := by
    have := Bk.new ((w.alloc (.cells #[.int .i64 z.c0, .int .i64 m.pa, .int .i64 z.c2, .int .i64 z.c3, .int .i64 m.size, .int .i64 z.c5, .int .i64 z.c6, .int .i64 z.c7, .int .i64 z.c8, .int .i64 z.c9, .int .i64 z.c10, .int .i64 z.c11, .int .i64 z.c12, .int .i64 z.c13, .int .i64 m.sr, .int .i64 m.ds, .int .i64 m.cn, .int .i64 m.cl, .int .i64 m.base, .slice z.A z.n z.c, .slice z.J z.jn z.jc, .int .i64 m.jm.ps.length, .int .i64 m.jm.N, .int .i64 m.jm.T, .int .i64 m.ar, .int .i64 m.pl, .int .i64 m.pd, .bool m.dn] 34)).alloc (.cells #[.int .i64 0, .int .i64 0, .int .i64 0, .int .i64 0, .int .i64 0, .int .i64 0, .int .i64 0, .int .i64 0, .int .i64 0, .int .i64 0, .int .i64 0, .int .i64 0, .int .i64 0, .int .i64 0, .int .i64 0, .int .i64 0, .int .i64 0, .int .i64 0, .int .i64 0, .slice none 0 0, .slice none 0 0, .int .i64 0, .int .i64 0, .int .i64 0, .int .i64 0, .int .i64 0, .int .i64 0, .bool false] 34)) 40 [.int .i64 0, .int .i64 0, .int .i64 0, .int .i64 0, .int .i64 0, .int .i64 0, .int .i64 0, .int .i64 0, .slice none 0 0]
    simp only [World.size_alloc] at this
    exact this
  have HB := Lib.hid hb1
  have hlt : (m.pd : Int) < 1 := by omega
  have hdc : decide ((m.pd : Int) < 1) = true := decide_eq_true hlt
  clear hb1 h hp
  go_enter Try.func15, Try.ntmps15
  go_wp2_with (first
    | (with_reducible refine at_load 34 (.tmp 1) (by rfl) ?_
       refine wpList_load_bk rowRv rfl (.tmp 1) rfl w.heap.size 0 rfl z1 [.int .i64 z.c0, .int .i64 m.pa, .int .i64 z.c2, .int .i64 z.c3, .int .i64 m.size, .int .i64 z.c5, .int .i64 z.c6, .int .i64 z.c7, .int .i64 z.c8, .int .i64 z.c9, .int .i64 z.c10, .int .i64 z.c11, .int .i64 z.c12, .int .i64 z.c13, .int .i64 m.sr, .int .i64 m.ds, .int .i64 m.cn, .int .i64 m.cl, .int .i64 m.base, .slice z.A z.n z.c, .slice z.J z.jn z.jc, .int .i64 m.jm.ps.length, .int .i64 m.jm.N, .int .i64 m.jm.T, .int .i64 m.ar, .int .i64 m.pl, .int .i64 m.pd, .bool m.dn] rfl rfl ?_)
    | (with_reducible refine at_store 34 (.tmp 2) (.tmp 8) (by rfl) ?_
       refine wpList_store_bk rowRv rfl (.tmp 2) (.tmp 8) rfl (w.heap.size + 1) 0 rfl z2 [.int .i64 z.c0, .int .i64 m.pa, .int .i64 z.c2, .int .i64 z.c3, .int .i64 m.size, .int .i64 z.c5, .int .i64 z.c6, .int .i64 z.c7, .int .i64 z.c8, .int .i64 z.c9, .int .i64 z.c10, .int .i64 z.c11, .int .i64 z.c12, .int .i64 z.c13, .int .i64 m.sr, .int .i64 m.ds, .int .i64 m.cn, .int .i64 m.cl, .int .i64 m.base, .slice z.A z.n z.c, .slice z.J z.jn z.jc, .int .i64 m.jm.ps.length, .int .i64 m.jm.N, .int .i64 m.jm.T, .int .i64 m.ar, .int .i64 m.pl, .int .i64 m.pd, .bool m.dn] rfl rfl (by decide) (Rm.rl_one _ _) ?_
       rintro w5 z5 hw5
       rw [lay_all _ _ (by rfl)] at z5
       have hs5 : St (· = w.heap.size + 1) (((w.alloc (.cells #[.int .i64 z.c0, .int .i64 m.pa, .int .i64 z.c2, .int .i64 z.c3, .int .i64 m.size, .int .i64 z.c5, .int .i64 z.c6, .int .i64 z.c7, .int .i64 z.c8, .int .i64 z.c9, .int .i64 z.c10, .int .i64 z.c11, .int .i64 z.c12, .int .i64 z.c13, .int .i64 m.sr, .int .i64 m.ds, .int .i64 m.cn, .int .i64 m.cl, .int .i64 m.base, .slice z.A z.n z.c, .slice z.J z.jn z.jc, .int .i64 m.jm.ps.length, .int .i64 m.jm.N, .int .i64 m.jm.T, .int .i64 m.ar, .int .i64 m.pl, .int .i64 m.pd, .bool m.dn] 34)).alloc (.cells #[.int .i64 0, .int .i64 0, .int .i64 0, .int .i64 0, .int .i64 0, .int .i64 0, .int .i64 0, .int .i64 0, .int .i64 0, .int .i64 0, .int .i64 0, .int .i64 0, .int .i64 0, .int .i64 0, .int .i64 0, .int .i64 0, .int .i64 0, .int .i64 0, .int .i64 0, .slice none 0 0, .slice none 0 0, .int .i64 0, .int .i64 0, .int .i64 0, .int .i64 0, .int .i64 0, .int .i64 0, .bool false] 34)).alloc (.cells #[.int .i64 0, .int .i64 0, .int .i64 0, .int .i64 0, .int .i64 0, .int .i64 0, .int .i64 0, .int .i64 0, .slice none 0 0] 40)) w5 := ⟨hw5.os, hw5.tape, hw5.output, hw5.size, fun x hx hn => hw5.block x hx (by intro he; injection he with he; exact hn he)⟩
       have y3 := z3.st hs5 (by omega))
    | (with_reducible refine at_store 40 (.tmp 3) (.tmp 9) (by rfl) ?_
       refine wpList_put_pk rowP rfl (.tmp 3) (.tmp 9) rfl (w.heap.size + 2) rfl y3 rfl zPv rfl ?_
       intro w9 z9 hw9))
  exact bodyPost_ret (results_two_tmp rfl rfl rfl (rowRv.load (z5.keep (hw9.below (Nat.le_refl _) (by have := hw5.size; simp at this ⊢; omega) : Below (w.heap.size + 2) w5 w9) (by omega)) 0 (cs := [.int .i64 z.c0, .int .i64 m.pa, .int .i64 z.c2, .int .i64 z.c3, .int .i64 m.size, .int .i64 z.c5, .int .i64 z.c6, .int .i64 z.c7, .int .i64 z.c8, .int .i64 z.c9, .int .i64 z.c10, .int .i64 z.c11, .int .i64 z.c12, .int .i64 z.c13, .int .i64 m.sr, .int .i64 m.ds, .int .i64 m.cn, .int .i64 m.cl, .int .i64 m.base, .slice z.A z.n z.c, .slice z.J z.jn z.jc, .int .i64 m.jm.ps.length, .int .i64 m.jm.N, .int .i64 m.jm.T, .int .i64 m.ar, .int .i64 m.pl, .int .i64 m.pd, .bool m.dn]) rfl rfl) (rowP.load z9 0 (cs := zPv.cl) rfl rfl)) rfl ⟨rfl, (HB.out.trans (hw5.below (by omega) HB.out.size)).trans (hw9.below (by omega) (Nat.le_trans HB.out.size hw5.size))⟩
end
end Go.Proofs.Ytmmjhijgedboiaa
namespace Go.Proofs.Ytmmjhijgedboiaa
open Go.RowKit Go.Shelf
section
variable {F : Nat → Prop} {w w' : World} {m : Rm} {z : Zr}
set_option maxHeartbeats 8000000 in
theorem r_issue_yes (h : RfR F w z m) (hm : m.Ok) (hp : 0 < m.pd) : Calls Try.prog 15 #[.agg #[.int .i64 z.c0, .int .i64 m.pa, .int .i64 z.c2, .int .i64 z.c3, .int .i64 m.size, .int .i64 z.c5, .int .i64 z.c6, .int .i64 z.c7, .int .i64 z.c8, .int .i64 z.c9, .int .i64 z.c10, .int .i64 z.c11, .int .i64 z.c12, .int .i64 z.c13, .int .i64 m.sr, .int .i64 m.ds, .int .i64 m.cn, .int .i64 m.cl, .int .i64 m.base, .slice z.A z.n z.c, .slice z.J z.jn z.jc, .int .i64 m.jm.ps.length, .int .i64 m.jm.N, .int .i64 m.jm.T, .int .i64 m.ar, .int .i64 m.pl, .int .i64 m.pd, .bool m.dn]] w fun en w' => en = .returned (.tuple #[.agg #[.int .i64 z.c0, .int .i64 m.pull.pa, .int .i64 z.c2, .int .i64 z.c3, .int .i64 m.pull.size, .int .i64 z.c5, .int .i64 z.c6, .int .i64 z.c7, .int .i64 z.c8, .int .i64 z.c9, .int .i64 z.c10, .int .i64 z.c11, .int .i64 z.c12, .int .i64 z.c13, .int .i64 m.pull.sr, .int .i64 m.pull.ds, .int .i64 m.pull.cn, .int .i64 m.pull.cl, .int .i64 m.pull.base, .slice z.A z.n z.c, .slice z.J z.jn z.jc, .int .i64 m.pull.jm.ps.length, .int .i64 m.pull.jm.N, .int .i64 m.pull.jm.T, .int .i64 m.pull.ar, .int .i64 m.pull.pl, .int .i64 m.pull.pd, .bool m.pull.dn], .agg #[.int .i64 ((pulV m)).h.kd, .int .i64 ((pulV m)).h.fl, .int .i64 ((pulV m)).h.pa, .int .i64 ((pulV m)).h.sr, .int .i64 ((pulV m)).h.ds, .int .i64 ((pulV m)).h.cn, .int .i64 ((pulV m)).h.sq, .int .i64 ((pulV m)).h.pu, .slice ((pulV m)).A ((pulV m)).n ((pulV m)).c], .bool true]) ∧ Below w.heap.size w w' := by
  have hpa := hm.pa1
  have hct := hm.ct
  obtain ⟨V5, hV5⟩ : ∃ V5, V5 = ((w.alloc (.cells #[.int .i64 z.c0, .int .i64 m.pa, .int .i64 z.c2, .int .i64 z.c3, .int .i64 m.size, .int .i64 z.c5, .int .i64 z.c6, .int .i64 z.c7, .int .i64 z.c8, .int .i64 z.c9, .int .i64 z.c10, .int .i64 z.c11, .int .i64 z.c12, .int .i64 z.c13, .int .i64 m.sr, .int .i64 m.ds, .int .i64 m.cn, .int .i64 m.cl, .int .i64 m.base, .slice z.A z.n z.c, .slice z.J z.jn z.jc, .int .i64 m.jm.ps.length, .int .i64 m.jm.N, .int .i64 m.jm.T, .int .i64 m.ar, .int .i64 ((m.pl : Int) + 1), .int .i64 ((m.pd : Int) - 1), .bool m.dn] 34)).alloc (.cells #[.int .i64 0, .int .i64 0, .int .i64 0, .int .i64 0, .int .i64 0, .int .i64 0, .int .i64 0, .int .i64 0, .int .i64 0, .int .i64 0, .int .i64 0, .int .i64 0, .int .i64 0, .int .i64 0, .int .i64 0, .int .i64 0, .int .i64 0, .int .i64 0, .int .i64 0, .slice none 0 0, .slice none 0 0, .int .i64 0, .int .i64 0, .int .i64 0, .int .i64 0, .int .i64 0, .int .i64 0, .bool false] 34)).alloc (.cells #[.int .i64 0, .int .i64 0, .int .i64 0, .int .i64 0, .int .i64 0, .int .i64 0, .int .i64 0, .int .i64 0, .slice none 0 0] 40) := ⟨_, rfl⟩
  have hb1 : Below w.heap.size w V5 := by rw [hV5]; exact (((Below.refl _ w).alloc (Nat.le_refl _) _).alloc (by simp) _).alloc (by simp; omega) _
  have y1 : Bk V5 34 w.heap.size [.int .i64 z.c0, .int .i64 m.pull.pa, .int .i64 z.c2, .int .i64 z.c3, .int .i64 m.pull.size, .int .i64 z.c5, .int .i64 z.c6, .int .i64 z.c7, .int .i64 z.c8, .int .i64 z.c9, .int .i64 z.c10, .int .i64 z.c11, .int .i64 z.c12, .int .i64 z.c13, .int .i64 m.pull.sr, .int .i64 m.pull.ds, .int .i64 m.pull.cn, .int .i64 m.pull.cl, .int .i64 m.pull.base, .slice z.A z.n z.c, .slice z.J z.jn z.jc, .int .i64 m.pull.jm.ps.length, .int .i64 m.pull.jm.N, .int .i64 m.pull.jm.T, .int .i64 m.pull.ar, .int .i64 m.pull.pl, .int .i64 m.pull.pd, .bool m.pull.dn] := by
    have := ((Bk.new w 34 [.int .i64 z.c0, .int .i64 m.pa, .int .i64 z.c2, .int .i64 z.c3, .int .i64 m.size, .int .i64 z.c5, .int .i64 z.c6, .int .i64 z.c7, .int .i64 z.c8, .int .i64 z.c9, .int .i64 z.c10, .int .i64 z.c11, .int .i64 z.c12, .int .i64 z.c13, .int .i64 m.sr, .int .i64 m.ds, .int .i64 m.cn, .int .i64 m.cl, .int .i64 m.base, .slice z.A z.n z.c, .slice z.J z.jn z.jc, .int .i64 m.jm.ps.length, .int .i64 m.jm.N, .int .i64 m.jm.T, .int .i64 m.ar, .int .i64 ((m.pl : Int) + 1), .int .i64 ((m.pd : Int) - 1), .bool m.dn]).alloc (.cells #[.int .i64 0, .int .i64 0, .int .i64 0, .int .i64 0, .int .i64 0, .int .i64 0, .int .i64 0, .int .i64 0, .int .i64 0, .int .i64 0, .int .i64 0, .int .i64 0, .int .i64 0, .int .i64 0, .int .i64 0, .int .i64 0, .int .i64 0, .int .i64 0, .int .i64 0, .slice none 0 0, .slice none 0 0, .int .i64 0, .int .i64 0, .int .i64 0, .int .i64 0, .int .i64 0, .int .i64 0, .bool false] 34)).alloc (.cells #[.int .i64 0, .int .i64 0, .int .i64 0, .int .i64 0, .int .i64 0, .int .i64 0, .int .i64 0, .int .i64 0, .slice none 0 0] 40)
    rw [hV5]
    rw [show (m.pd : Int) - 1 = ((m.pd - 1 : Nat) : Int) from by omega, show (m.pl : Int) + 1 = ((m.pl + 1 : Nat) : Int) from by omega] at this ⊢
    exact this
  have y2 : Bk V5 34 (w.heap.size + 1) [.int .i64 0, .int .i64 0, .int .i64 0, .int .i64 0, .int .i64 0, .int .i64 0, .int .i64 0, .int .i64 0, .int .i64 0, .int .i64 0, .int .i64 0, .int .i64 0, .int .i64 0, .int .i64 0, .int .i64 0, .int .i64 0, .int .i64 0, .int .i64 0, .int .i64 0, .slice none 0 0, .slice none 0 0, .int .i64 0, .int .i64 0, .int .i64 0, .int .i64 0, .int .i64 0, .int .i64 0, .bool false] := by
    have := (Bk.new (w.alloc (.cells #[.int .i64 z.c0, .int .i64 m.pa, .int .i64 z.c2, .int .i64 z.c3, .int .i64 m.size, .int .i64 z.c5, .int .i64 z.c6, .int .i64 z.c7, .int .i64 z.c8, .int .i64 z.c9, .int .i64 z.c10, .int .i64 z.c11, .int .i64 z.c12, .int .i64 z.c13, .int .i64 m.sr, .int .i64 m.ds, .int .i64 m.cn, .int .i64 m.cl, .int .i64 m.base, .slice z.A z.n z.c, .slice z.J z.jn z.jc, .int .i64 m.jm.ps.length, .int .i64 m.jm.N, .int .i64 m.jm.T, .int .i64 m.ar, .int .i64 ((m.pl : Int) + 1), .int .i64 ((m.pd : Int) - 1), .bool m.dn] 34)) 34 [.int .i64 0, .int .i64 0, .int .i64 0, .int .i64 0, .int .i64 0, .int .i64 0, .int .i64 0, .int .i64 0, .int .i64 0, .int .i64 0, .int .i64 0, .int .i64 0, .int .i64 0, .int .i64 0, .int .i64 0, .int .i64 0, .int .i64 0, .int .i64 0, .int .i64 0, .slice none 0 0, .slice none 0 0, .int .i64 0, .int .i64 0, .int .i64 0, .int .i64 0, .int .i64 0, .int .i64 0, .bool false]).alloc (.cells #[.int .i64 0, .int .i64 0, .int .i64 0, .int .i64 0, .int .i64 0, .int .i64 0, .int .i64 0, .int .i64 0, .slice none 0 0] 40)
    rw [World.size_alloc] at this
    rw [hV5]; exact this
  have y3 : Bk V5 40 (w.heap.size + 2) [.int .i64 0, .int .i64 0, .int .i64 0, .int .i64 0, .int .i64 0, .int .i64 0, .int .i64 0, .int .i64 0, .slice none 0 0] := by
    have := Bk.new ((w.alloc (.cells #[.int .i64 z.c0, .int .i64 m.pa, .int .i64 z.c2, .int .i64 z.c3, .int .i64 m.size, .int .i64 z.c5, .int .i64 z.c6, .int .i64 z.c7, .int .i64 z.c8, .int .i64 z.c9, .int .i64 z.c10, .int .i64 z.c11, .int .i64 z.c12, .int .i64 z.c13, .int .i64 m.sr, .int .i64 m.ds, .int .i64 m.cn, .int .i64 m.cl, .int .i64 m.base, .slice z.A z.n z.c, .slice z.J z.jn z.jc, .int .i64 m.jm.ps.length, .int .i64 m.jm.N, .int .i64 m.jm.T, .int .i64 m.ar, .int .i64 ((m.pl : Int) + 1), .int .i64 ((m.pd : Int) - 1), .bool m.dn] 34)).alloc (.cells #[.int .i64 0, .int .i64 0, .int .i64 0, .int .i64 0, .int .i64 0, .int .i64 0, .int .i64 0, .int .i64 0, .int .i64 0, .int .i64 0, .int .i64 0, .int .i64 0, .int .i64 0, .int .i64 0, .int .i64 0, .int .i64 0, .int .i64 0, .int .i64 0, .int .i64 0, .slice none 0 0, .slice none 0 0, .int .i64 0, .int .i64 0, .int .i64 0, .int .i64 0, .int .i64 0, .int .i64 0, .bool false] 34)) 40 [.int .i64 0, .int .i64 0, .int .i64 0, .int .i64 0, .int .i64 0, .int .i64 0, .int .i64 0, .int .i64 0, .slice none 0 0]
    simp only [World.size_alloc] at this
    rw [hV5]; exact this
  have hz5 : V5.heap.size = w.heap.size + 3 := by rw [hV5]; simp
  have HBW := Lib.hid hb1
  have hpa0 : ¬ (m.pa : Int) = 0 := by omega
  have hpn : ¬ m.pa = 0 := by omega
  have hwp : IntKind.i64.wrap (m.pl : Int) = m.pl := by rw [IntKind.wrap_i64]; omega
  have hge : ¬ (m.pd : Int) < 1 := by omega
  clear h hb1 hm
  go_enter Try.func15, Try.ntmps15
  go_wp2_with fail
  rw [← hV5]
  clear hV5 hge
  refine wp_region_E (Below (w.heap.size + 1)) (by kernel_rfl) (fun wd hbd hsz => ?_)
  have HBD := Lib.hid hbd
  have hdz := hbd.size
  have x1 := Lib.hid (y1.below hbd)
  have x2 := Lib.hid (y2.below hbd)
  have x3 := Lib.hid (y3.below hbd)
  have q25 : ∀ V, Below (w.heap.size + 1) wd V → V.cell? ⟨w.heap.size, 25, none⟩ = some (.int .i64 ((m.pl : Int) + 1)) := fun V hV => (x1.out.keep hV (by omega)).cell 25 rfl
  have q1 : ∀ V, Below (w.heap.size + 1) wd V → V.cell? ⟨w.heap.size, 1, none⟩ = some (.int .i64 m.pa) := fun V hV => (x1.out.keep hV (by omega)).cell 1 rfl
  have q14 : ∀ V, Below (w.heap.size + 1) wd V → V.cell? ⟨w.heap.size, 14, none⟩ = some (.int .i64 m.sr) := fun V hV => (x1.out.keep hV (by omega)).cell 14 rfl
  have q15 : ∀ V, Below (w.heap.size + 1) wd V → V.cell? ⟨w.heap.size, 15, none⟩ = some (.int .i64 m.ds) := fun V hV => (x1.out.keep hV (by omega)).cell 15 rfl
  have q16 : ∀ V, Below (w.heap.size + 1) wd V → V.cell? ⟨w.heap.size, 16, none⟩ = some (.int .i64 m.cn) := fun V hV => (x1.out.keep hV (by omega)).cell 16 rfl
  clear hsz y1 y2 y3
  (refine takeE (belowTr (w.heap.size + 1)) 0 (by simp only [List.getElem?_toArray, List.getElem?_cons_succ, List.getElem?_cons_zero]; rfl) (by kernel_rfl) (by kernel_rfl) (by kernel_rfl) (by exact fun _ _ _ h => h) (by first | (refine Or.inl ⟨by rfl, ?_⟩; intro W hW; exact exec_load_bk rowRv _ rfl w.heap.size 0 rfl (x1.out.keep hW (by omega)) [.int .i64 z.c0, .int .i64 m.pull.pa, .int .i64 z.c2, .int .i64 z.c3, .int .i64 m.pull.size, .int .i64 z.c5, .int .i64 z.c6, .int .i64 z.c7, .int .i64 z.c8, .int .i64 z.c9, .int .i64 z.c10, .int .i64 z.c11, .int .i64 z.c12, .int .i64 z.c13, .int .i64 m.pull.sr, .int .i64 m.pull.ds, .int .i64 m.pull.cn, .int .i64 m.pull.cl, .int .i64 m.pull.base, .slice z.A z.n z.c, .slice z.J z.jn z.jc, .int .i64 m.pull.jm.ps.length, .int .i64 m.pull.jm.N, .int .i64 m.pull.jm.T, .int .i64 m.pull.ar, .int .i64 m.pull.pl, .int .i64 m.pull.pd, .bool m.pull.dn] rfl rfl) | exact Or.inr ⟨by rfl, rfl⟩) ?_; try simp only [Act.put, List.setIfInBounds_toArray, List.set_cons_zero, List.set_cons_succ])
  (refine takeE (belowTr (w.heap.size + 1)) 1 (by simp only [List.getElem?_toArray, List.getElem?_cons_succ, List.getElem?_cons_zero]; rfl) (by kernel_rfl) (by kernel_rfl) (by kernel_rfl) (by exact fun _ _ _ h => h) (by first | (refine Or.inl ⟨by rfl, ?_⟩; intro W hW; go_simp; try with_reducible rfl) | exact Or.inr ⟨by rfl, rfl⟩) ?_; try simp only [Act.put, List.setIfInBounds_toArray, List.set_cons_zero, List.set_cons_succ])
  (refine takeE (belowTr (w.heap.size + 1)) 4 (by simp only [List.getElem?_toArray, List.getElem?_cons_succ, List.getElem?_cons_zero]; rfl) (by kernel_rfl) (by kernel_rfl) (by kernel_rfl) (by exact fun _ _ _ h => h) (by first | (refine Or.inl ⟨by rfl, ?_⟩; intro W hW; go_simp; try with_reducible rfl) | exact Or.inr ⟨by rfl, rfl⟩) ?_; try simp only [Act.put, List.setIfInBounds_toArray, List.set_cons_zero, List.set_cons_succ])
  (refine takeE (belowTr (w.heap.size + 1)) 8 (by simp only [List.getElem?_toArray, List.getElem?_cons_succ, List.getElem?_cons_zero]; rfl) (by kernel_rfl) (by kernel_rfl) (by kernel_rfl) (by exact fun _ _ _ h => h) (by first | (refine Or.inl ⟨by rfl, ?_⟩; intro W hW; go_simp; try with_reducible rfl) | exact Or.inr ⟨by rfl, rfl⟩) ?_; try simp only [Act.put, List.setIfInBounds_toArray, List.set_cons_zero, List.set_cons_succ])
  (refine takeE (belowTr (w.heap.size + 1)) 10 (by simp only [List.getElem?_toArray, List.getElem?_cons_succ, List.getElem?_cons_zero]; rfl) (by kernel_rfl) (by kernel_rfl) (by kernel_rfl) (by exact fun _ _ _ h => h) (by first | (refine Or.inl ⟨by rfl, ?_⟩; intro W hW; go_simp; try with_reducible rfl) | exact Or.inr ⟨by rfl, rfl⟩) ?_; try simp only [Act.put, List.setIfInBounds_toArray, List.set_cons_zero, List.set_cons_succ])
  (refine takeE (belowTr (w.heap.size + 1)) 12 (by simp only [List.getElem?_toArray, List.getElem?_cons_succ, List.getElem?_cons_zero]; rfl) (by kernel_rfl) (by kernel_rfl) (by kernel_rfl) (by exact fun _ _ _ h => h) (by first | (refine Or.inl ⟨by rfl, ?_⟩; intro W hW; go_simp; try with_reducible rfl) | exact Or.inr ⟨by rfl, rfl⟩) ?_; try simp only [Act.put, List.setIfInBounds_toArray, List.set_cons_zero, List.set_cons_succ])
  (refine takeE (belowTr (w.heap.size + 1)) 14 (by simp only [List.getElem?_toArray, List.getElem?_cons_succ, List.getElem?_cons_zero]; rfl) (by kernel_rfl) (by kernel_rfl) (by kernel_rfl) (by exact fun _ _ _ h => h) (by first | (refine Or.inl ⟨by rfl, ?_⟩; intro W hW; go_simp; try with_reducible rfl) | exact Or.inr ⟨by rfl, rfl⟩) ?_; try simp only [Act.put, List.setIfInBounds_toArray, List.set_cons_zero, List.set_cons_succ])
  (refine takeE (belowTr (w.heap.size + 1)) 2 (by simp only [List.getElem?_toArray, List.getElem?_cons_succ, List.getElem?_cons_zero]; rfl) (by kernel_rfl) (by kernel_rfl) (by kernel_rfl) (by exact fun _ _ _ h => h) (by first | (refine Or.inl ⟨by rfl, ?_⟩; intro W hW; go_simp; try with_reducible rfl) | exact Or.inr ⟨by rfl, rfl⟩) ?_; try simp only [Act.put, List.setIfInBounds_toArray, List.set_cons_zero, List.set_cons_succ])
  (refine takeE (belowTr (w.heap.size + 1)) 5 (by simp only [List.getElem?_toArray, List.getElem?_cons_succ, List.getElem?_cons_zero]; rfl) (by kernel_rfl) (by kernel_rfl) (by kernel_rfl) (by exact fun _ _ _ h => h) (by first | (refine Or.inl ⟨by rfl, ?_⟩; intro W hW; go_simp; try with_reducible rfl) | exact Or.inr ⟨by rfl, rfl⟩) ?_; try simp only [Act.put, List.setIfInBounds_toArray, List.set_cons_zero, List.set_cons_succ])
  (refine takeE (belowTr (w.heap.size + 1)) 9 (by simp only [List.getElem?_toArray, List.getElem?_cons_succ, List.getElem?_cons_zero]; rfl) (by kernel_rfl) (by kernel_rfl) (by kernel_rfl) (by exact fun _ _ _ h => h) (by first | (refine Or.inl ⟨by rfl, ?_⟩; intro W hW; go_simp; try with_reducible rfl) | exact Or.inr ⟨by rfl, rfl⟩) ?_; try simp only [Act.put, List.setIfInBounds_toArray, List.set_cons_zero, List.set_cons_succ])
  (refine takeE (belowTr (w.heap.size + 1)) 11 (by simp only [List.getElem?_toArray, List.getElem?_cons_succ, List.getElem?_cons_zero]; rfl) (by kernel_rfl) (by kernel_rfl) (by kernel_rfl) (by exact fun _ _ _ h => h) (by first | (refine Or.inl ⟨by rfl, ?_⟩; intro W hW; go_simp; try with_reducible rfl) | exact Or.inr ⟨by rfl, rfl⟩) ?_; try simp only [Act.put, List.setIfInBounds_toArray, List.set_cons_zero, List.set_cons_succ])
  (refine takeE (belowTr (w.heap.size + 1)) 13 (by simp only [List.getElem?_toArray, List.getElem?_cons_succ, List.getElem?_cons_zero]; rfl) (by kernel_rfl) (by kernel_rfl) (by kernel_rfl) (by exact fun _ _ _ h => h) (by first | (refine Or.inl ⟨by rfl, ?_⟩; intro W hW; go_simp; try with_reducible rfl) | exact Or.inr ⟨by rfl, rfl⟩) ?_; try simp only [Act.put, List.setIfInBounds_toArray, List.set_cons_zero, List.set_cons_succ])
  (refine takeE (belowTr (w.heap.size + 1)) 15 (by simp only [List.getElem?_toArray, List.getElem?_cons_succ, List.getElem?_cons_zero]; rfl) (by kernel_rfl) (by kernel_rfl) (by kernel_rfl) (by exact fun _ _ _ h => h) (by first | (refine Or.inl ⟨by rfl, ?_⟩; intro W hW; go_simp; try with_reducible rfl) | exact Or.inr ⟨by rfl, rfl⟩) ?_; try simp only [Act.put, List.setIfInBounds_toArray, List.set_cons_zero, List.set_cons_succ])
  (refine takeE (belowTr (w.heap.size + 1)) 3 (by simp only [List.getElem?_toArray, List.getElem?_cons_succ, List.getElem?_cons_zero]; rfl) (by kernel_rfl) (by kernel_rfl) (by kernel_rfl) (by exact fun _ _ _ h => h) (by first | (refine Or.inl ⟨by rfl, ?_⟩; intro W hW; go_simp; try with_reducible rfl) | exact Or.inr ⟨by rfl, rfl⟩) ?_; try simp only [Act.put, List.setIfInBounds_toArray, List.set_cons_zero, List.set_cons_succ])
  (refine takeE (belowTr (w.heap.size + 1)) 6 (by simp only [List.getElem?_toArray, List.getElem?_cons_succ, List.getElem?_cons_zero]; rfl) (by kernel_rfl) (by kernel_rfl) (by kernel_rfl) (by exact fun _ _ _ h => h) (by first | (refine Or.inl ⟨by rfl, ?_⟩; intro W hW; go_simp; try with_reducible rfl) | exact Or.inr ⟨by rfl, rfl⟩) ?_; try simp only [Act.put, List.setIfInBounds_toArray, List.set_cons_zero, List.set_cons_succ])
  (refine takeE (belowTr (w.heap.size + 1)) 7 (by simp only [List.getElem?_toArray, List.getElem?_cons_succ, List.getElem?_cons_zero]; rfl) (by kernel_rfl) (by kernel_rfl) (by kernel_rfl) (by exact fun _ _ _ h => h) (by first | (refine Or.inl ⟨by rfl, ?_⟩; intro W hW; go_simp; try with_reducible rfl) | exact Or.inr ⟨by rfl, rfl⟩) ?_; try simp only [Act.put, List.setIfInBounds_toArray, List.set_cons_zero, List.set_cons_succ])
  (refine takeE (belowTr (w.heap.size + 1)) 16 (by simp only [List.getElem?_toArray, List.getElem?_cons_succ, List.getElem?_cons_zero]; rfl) (by kernel_rfl) (by kernel_rfl) (by kernel_rfl) (by exact fun _ _ _ h => h) (by first | (refine Or.inl ⟨by rfl, ?_⟩; intro W hW; go_simp; try with_reducible rfl) | exact Or.inr ⟨by rfl, rfl⟩) ?_; try simp only [Act.put, List.setIfInBounds_toArray, List.set_cons_zero, List.set_cons_succ])
  refine wpAnyE_one (i := 17) (by kernel_rfl) (by simp only [List.getElem?_toArray, List.getElem?_cons_succ, List.getElem?_cons_zero]; rfl) (fun K hK => ?_)
  refine opwp_store_bk rowRv rfl (.tmp 2) (.tmp 18) rfl (w.heap.size + 1) 0 rfl x2.out [.int .i64 z.c0, .int .i64 m.pull.pa, .int .i64 z.c2, .int .i64 z.c3, .int .i64 m.pull.size, .int .i64 z.c5, .int .i64 z.c6, .int .i64 z.c7, .int .i64 z.c8, .int .i64 z.c9, .int .i64 z.c10, .int .i64 z.c11, .int .i64 z.c12, .int .i64 z.c13, .int .i64 m.pull.sr, .int .i64 m.pull.ds, .int .i64 m.pull.cn, .int .i64 m.pull.cl, .int .i64 m.pull.base, .slice z.A z.n z.c, .slice z.J z.jn z.jc, .int .i64 m.pull.jm.ps.length, .int .i64 m.pull.jm.N, .int .i64 m.pull.jm.T, .int .i64 m.pull.ar, .int .i64 m.pull.pl, .int .i64 m.pull.pd, .bool m.pull.dn] rfl rfl (by decide) (Rm.rl_one _ _) ?_
  intro w8 z8 hw8
  rw [lay_all _ _ (by rfl)] at z8
  have hs8 : St (· = w.heap.size + 1) wd w8 := ⟨hw8.os, hw8.tape, hw8.output, hw8.size, fun x hx hn => hw8.block x hx (by intro he; injection he with he; exact hn he)⟩
  have HS8 := Lib.hid hs8
  have HZ8 := Lib.hid z8
  have HX8 := Lib.hid (x3.out.st hs8 (by omega))
  have HB8 := Lib.hid (hs8.below (by omega) (fun x hx => by omega) : Below (w.heap.size + 1) wd w8)
  have hz8 := hs8.size
  clear z8 hw8 hs8
  refine hK.out _ _ HB8.out ?_
  clear hK K
  try simp only [Act.put, List.setIfInBounds_toArray, List.set_cons_zero, List.set_cons_succ]
  refine wpAnyE_one (i := 18) (by kernel_rfl) (by simp only [List.getElem?_toArray, List.getElem?_cons_succ, List.getElem?_cons_zero]; rfl) (fun K hK => ?_)
  refine opwp_store_bk rowP rfl (.tmp 3) (.tmp 34) rfl (w.heap.size + 2) 0 rfl HX8.out (pulV m).cl rfl rfl (by show 0 + 9 ≤ 9; decide) (Pv.cl_one _) ?_
  intro w9 z9 hw9
  rw [lay_all _ _ (by rfl)] at z9
  have hs9 : St (· = w.heap.size + 2) w8 w9 := ⟨hw9.os, hw9.tape, hw9.output, hw9.size, fun x hx hn => hw9.block x hx (by intro he; injection he with he; exact hn he)⟩
  have HS9 := Lib.hid hs9
  have HZ9 := Lib.hid z9
  have HB9 := Lib.hid (hs9.below (by omega) (fun x hx => by omega) : Below (w.heap.size + 1) w8 w9)
  clear z9 hw9 hs9
  refine hK.out _ _ HB9.out ?_
  clear hK K
  try simp only [Act.put, List.setIfInBounds_toArray, List.set_cons_zero, List.set_cons_succ]
  (refine takeE (belowTr (w.heap.size + 1)) 19 (by simp only [List.getElem?_toArray, List.getElem?_cons_succ, List.getElem?_cons_zero]; rfl) (by kernel_rfl) (by kernel_rfl) (by kernel_rfl) (by exact fun _ _ _ h => h) (by first | (refine Or.inl ⟨by rfl, ?_⟩; intro W hW; go_simp; try with_reducible rfl) | exact Or.inr ⟨by rfl, rfl⟩) ?_; try simp only [Act.put, List.setIfInBounds_toArray, List.set_cons_zero, List.set_cons_succ])
  refine wpAnyE_done (by kernel_rfl) ?_ _
  skip
  go_wp2
  have hb9 : Below w.heap.size w w9 := ((HBW.out.trans (HBD.out.mono HBW.out.size)).trans (HS8.out.below (by have := HBW.out.size; omega) (fun x hx => by omega))).trans (HS9.out.below (by have := HBW.out.size; omega) (fun x hx => by omega))
  exact bodyPost_ret (results_two_tmp rfl rfl rfl (rowRv.load (HZ8.out.st HS9.out (by omega)) 0 (cs := [.int .i64 z.c0, .int .i64 m.pull.pa, .int .i64 z.c2, .int .i64 z.c3, .int .i64 m.pull.size, .int .i64 z.c5, .int .i64 z.c6, .int .i64 z.c7, .int .i64 z.c8, .int .i64 z.c9, .int .i64 z.c10, .int .i64 z.c11, .int .i64 z.c12, .int .i64 z.c13, .int .i64 m.pull.sr, .int .i64 m.pull.ds, .int .i64 m.pull.cn, .int .i64 m.pull.cl, .int .i64 m.pull.base, .slice z.A z.n z.c, .slice z.J z.jn z.jc, .int .i64 m.pull.jm.ps.length, .int .i64 m.pull.jm.N, .int .i64 m.pull.jm.T, .int .i64 m.pull.ar, .int .i64 m.pull.pl, .int .i64 m.pull.pd, .bool m.pull.dn]) rfl rfl) (rowP.load HZ9.out 0 (cs := (pulV m).cl) rfl rfl)) rfl ⟨rfl, hb9⟩

end
end Go.Proofs.Ytmmjhijgedboiaa
