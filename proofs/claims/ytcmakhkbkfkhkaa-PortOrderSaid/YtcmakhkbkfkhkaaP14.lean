/- Laws over ports: packets that the laws make; the page's example. -/
import Derived.Test.YtcmakhkbkfkhkaaP12
set_option linter.unusedSimpArgs false
set_option linter.unusedVariables false
namespace Go.Proofs.Ytcmakhkbkfkhkaa
open Go.RowKit Go.Shelf

def hv (seq : Int) : Pk := ⟨⟨1, 0, 0, 0, 1, 1, seq, 0⟩, [7]⟩
/-- A packet that a call made: it reads, and lies in nobody's blocks. -/
def FreshP (w : World) (p : Pk) (q : Pv) (w' : World) : Prop := q.pk = p ∧ (∀ F : Nat → Prop, (∀ k, F k → k < w.heap.size) → PvR F w' q) ∧ Below w.heap.size w w'
theorem p_hv (seq : Int) (w : World) : Calls Try.prog 15 #[.int .i64 seq] w fun e w' => ∃ q, e = .returned (.agg #[.int .i64 q.h.kd, .int .i64 q.h.fl, .int .i64 q.h.pa, .int .i64 q.h.sr, .int .i64 q.h.ds, .int .i64 q.h.cn, .int .i64 q.h.sq, .int .i64 q.h.pu, .slice q.A q.n q.c]) ∧ FreshP w (hv seq) q w' := by
  go_enter Try.func15, Try.ntmps15
  go_wp2
  have hz : Bk ((w.alloc (.cells (List.toArray [.int .i64 1, .int .i64 0, .int .i64 0, .int .i64 0, .int .i64 1, .int .i64 1, .int .i64 seq, .int .i64 0, .slice (some ⟨w.heap.size + 1, 0, none⟩) 1 1]) 37)).alloc (.cells #[.int .u8 7] 5)) 37 w.heap.size (Pv.cl ⟨(hv seq).h, some ⟨w.heap.size + 1, 0, none⟩, 1, 1, [7]⟩) := (Bk.new w 37 _).alloc _
  have hrd : Rd .u8 ((w.alloc (.cells (List.toArray [.int .i64 1, .int .i64 0, .int .i64 0, .int .i64 0, .int .i64 1, .int .i64 1, .int .i64 seq, .int .i64 0, .slice (some ⟨w.heap.size + 1, 0, none⟩) 1 1]) 37)).alloc (.cells #[.int .u8 7] 5)) (some ⟨w.heap.size + 1, 0, none⟩) 1 1 [7] := by
    have := Rd.one (k := .u8) (w.alloc (.cells (List.toArray [.int .i64 1, .int .i64 0, .int .i64 0, .int .i64 0, .int .i64 1, .int .i64 1, .int .i64 seq, .int .i64 0, .slice (some ⟨w.heap.size + 1, 0, none⟩) 1 1]) 37)) 5 7 (by decide)
    simpa using this
  refine bodyPost_ret (results_cell rfl rfl (load_pk rowP hz)) rfl ⟨⟨(hv seq).h, some ⟨w.heap.size + 1, 0, none⟩, 1, 1, [7]⟩, rfl, rfl, fun F hF => ⟨hrd, by show 1 ≤ 1100; decide, by show (0 : Int) ≤ 9223372036854775807; decide, fun _ ad he hf => ?_⟩, ((Below.refl _ _).alloc (Nat.le_refl _) _).alloc (by simp) _⟩
  injection he with he
  subst he
  have := hF _ hf
  simp at this
  omega
def AM.ok (m : AM) (B : Int) : Prop := ∀ k, 0 ≤ m.ct k ∧ m.ct k ≤ B
theorem ok_up {ct : Nat → Int} {B : Int} (h : ∀ k, 0 ≤ ct k ∧ ct k ≤ B) (k : Nat) : ∀ j, 0 ≤ up ct k (ct k + 1) j ∧ up ct k (ct k + 1) j ≤ B + 1 := fun j => by
  unfold up
  have h1 := h k
  have h2 := h j
  split <;> omega
theorem AM.ok_nx {m : AM} {B : Int} (h : m.ok B) (x : Pk) : (m.nx x).ok (B + 1) := ok_up h _
theorem AM.ok.mono {m : AM} {B C : Int} (h : m.ok B) (hC : B ≤ C) : m.ok C := fun k => by have := h k; omega
theorem AM.ok_srv {m : AM} {B : Int} (h : m.ok B) (f : Int) (hi : Bool) (x : Pk) (r : List Pk) : (m.srv f hi x r).ok (B + 1) := by
  unfold AM.srv
  dsimp only
  have h1 : ∀ k, 0 ≤ up m.ct 0 (m.ct 0 + 1) k ∧ up m.ct 0 (m.ct 0 + 1) k ≤ B + 1 := ok_up h 0
  have h2 : ∀ k, 0 ≤ m.ct k ∧ m.ct k ≤ B + 1 := fun k => by have := h k; omega
  split <;> split
  · exact h1
  · exact h1
  · exact h2
  · exact h2
theorem AM.ok.ct {m : AM} {B : Int} (h : m.ok B) (hB : B ≤ 1000000) : ∀ k, -1 ≤ m.ct k ∧ m.ct k ≤ 1000000 := fun k => by have := h k; omega
theorem AM.ok_new (l h w : Nat) : (AM.new l h w).ok 0 := fun k => ⟨Int.le_refl _, Int.le_refl _⟩
/-- A port that a law made, behind world w0. -/
def PtW (F : Nat → Prop) (w0 w : World) (b : Nat) (m : AM) : Prop := (∃ pl ph Fl Fh ql qh, PbC F (fun _ => False) w b m pl ph Fl Fh ql qh) ∧ (∀ k, F k → w0.heap.size ≤ k) ∧ Below w0.heap.size w0 w
section
variable {F : Nat → Prop} {w0 w w' : World} {b : Nat} {m : AM}
theorem PtW.bl (h : PtW F w0 w b m) : Below w0.heap.size w0 w := h.2.2
theorem PtW.bd (h : PtW F w0 w b m) : ∀ k, F k → k < w.heap.size := by obtain ⟨⟨_, _, _, _, _, _, h⟩, _, _⟩ := h; exact h.bd
theorem PtW.below (h : PtW F w0 w b m) (hb : Below w.heap.size w w') : PtW F w0 w' b m := by
  obtain ⟨⟨pl, ph, Fl, Fh, ql, qh, h1⟩, h2, h3⟩ := h
  exact ⟨⟨pl, ph, Fl, Fh, ql, qh, h1.below hb⟩, h2, below_on h3 hb⟩
/-- The port is this one now, and lies in the blocks of F'; all but those of F is as it was. -/
structure PtD (F : Nat → Prop) (w0 w : World) (b : Nat) (m : AM) (w' : World) (F' : Nat → Prop) : Prop where
  pt : PtW F' w0 w' b m
  st : St F w w'
  gr : Gr F F' w.heap.size
theorem PtD.to {F' Fl' Fh' : Nat → Prop} {ql' qh' : List Pv} {pl ph : Nat} (hF : ∀ k, F k → w0.heap.size ≤ k) (hb : Below w0.heap.size w0 w) (hp : PbC F' (fun _ => False) w' b m pl ph Fl' Fh' ql' qh') (hs : St F w w') (hg : Gr F F' w.heap.size) : PtD F w0 w b m w' F' :=
  ⟨⟨⟨pl, ph, Fl', Fh', ql', qh', hp⟩, hg.ge hF hb.size, hb.trans (hs.below hb.size hF)⟩, hs, hg⟩
theorem PtD.box {F' : Nat → Prop} (h : PtD F w0 w b m w' F') {T : TypeId} {g : Nat} {vs : List Value} (hb : Bk w T g vs) (hg : ¬ F g) : Bk w' T g vs ∧ ¬ F' g := ⟨hb.st h.st hg, h.gr.not hb.lt hg⟩
theorem ptw_new (low high wt : Nat) (w : World) (hw : Below w0.heap.size w0 w) (h1 : 1 ≤ low) (h2 : low ≤ 1024) (h3 : 1 ≤ high) (h4 : high ≤ 1024) (h5 : 1 ≤ wt) (h6 : wt ≤ 1024) :
    Calls Try.prog 7 #[.int .i64 low, .int .i64 high, .int .i64 wt] w fun e w' => e = .returned (.tuple #[.pointer (some ⟨w.heap.size, 0, none⟩), .int .i64 0]) ∧ ∃ F, PtW F w0 w' w.heap.size (AM.new low high wt) ∧ Below w.heap.size w w' ∧ ∀ k, F k → w.heap.size ≤ k := by
  refine (pt_new (X := fun _ => False) low high wt w (fun _ h => h.elim) h1 h2 h3 h4 h5 h6).mono ?_
  rintro e w' ⟨rfl, hb, F, pl, ph, Fl, Fh, hp, hF⟩
  exact ⟨rfl, F, ⟨⟨pl, ph, Fl, Fh, [], [], hp⟩, fun k hk => Nat.le_trans hw.size (hF k hk), hw.trans (hb.mono hw.size)⟩, hb, hF⟩
theorem ptw_put {B : Int} {q : Pv} (h : PtW F w0 w b m) (hq : PvR F w q) (ho : m.ok B) (hB : B ≤ 1000000) :
    Calls Try.prog 14 #[.pointer (some ⟨b, 0, none⟩), .agg #[.int .i64 q.h.kd, .int .i64 q.h.fl, .int .i64 q.h.pa, .int .i64 q.h.sr, .int .i64 q.h.ds, .int .i64 q.h.cn, .int .i64 q.h.sq, .int .i64 q.h.pu, .slice q.A q.n q.c]] w fun e w' => ∃ q' F', e = .returned (.tuple #[.int .i64 (m.vd q.pk), .agg #[.int .i64 q'.h.kd, .int .i64 q'.h.fl, .int .i64 q'.h.pa, .int .i64 q'.h.sr, .int .i64 q'.h.ds, .int .i64 q'.h.cn, .int .i64 q'.h.sq, .int .i64 q'.h.pu, .slice q'.A q'.n q'.c]]) ∧ q'.pk = m.out q.pk ∧ PvR F' w' q' ∧ PtD F w0 w b (m.nx q.pk) w' F' := by
  obtain ⟨⟨pl, ph, Fl, Fh, ql, qh, h1⟩, h2, h3⟩ := h
  refine (pt_put h1 hq (ho.ct hB)).mono ?_
  rintro e w' ⟨q', rfl, hk', F', Fl', Fh', ql', qh', hp, hs, hg, hr'⟩
  exact ⟨q', F', rfl, hk', hr'.mono fun k hk => .inl hk, PtD.to h2 h3 hp hs hg⟩
theorem ptw_serve {B : Int} (h : PtW F w0 w b m) (ho : m.ok B) (hB : B ≤ 1000000) (f : Int) (hf1 : 1 ≤ f) (hf2 : f ≤ 4) (x : Pk) (r : List Pk) (hx : m.sel m.hiB = x :: r) :
    Calls Try.prog 10 #[.pointer (some ⟨b, 0, none⟩), .int .i64 f] w fun e w' => ∃ A n c qs F', e = .returned (.tuple #[.slice A n c, .int .i64 0]) ∧ n = qs.length ∧ RdR 9 w' A n c (flat Pv.cl qs) ∧ qs.map Pv.pk = (if f = 1 ∨ f = 4 then [x] else []) ∧ (∀ q ∈ qs, PvR F' w' q) ∧ PtD F w0 w b (m.srv f m.hiB x r) w' F' := by
  obtain ⟨⟨pl, ph, Fl, Fh, ql, qh, h1⟩, h2, h3⟩ := h
  refine (pt_serve h1 (ho.ct hB) f hf1 hf2 x r hx).mono ?_
  rintro e w' ⟨A, n, c, qs, rfl, hn, hrd, hk, F', Fl', Fh', ql', qh', hp, hs, hg, hr⟩
  exact ⟨A, n, c, qs, F', rfl, hn, hrd, hk, fun q hq => (hr q hq).mono fun k hk => .inl hk, PtD.to h2 h3 hp hs hg⟩
/-- One is delivered. -/
theorem ptw_deliver {B : Int} (h : PtW F w0 w b m) (ho : m.ok B) (hB : B ≤ 1000000) (x : Pk) (r : List Pk) (hx : m.sel m.hiB = x :: r) :
    Calls Try.prog 10 #[.pointer (some ⟨b, 0, none⟩), .int .i64 1] w fun e w' => ∃ g o c q F', e = .returned (.tuple #[.slice (some ⟨g, o, none⟩) 1 c, .int .i64 0]) ∧ w'.rangeAt g o q.cl ∧ g < w'.heap.size ∧ q.pk = x ∧ PvR F' w' q ∧ PtD F w0 w b (m.srv 1 m.hiB x r) w' F' := by
  refine (ptw_serve h ho hB 1 (by decide) (by decide) x r hx).mono ?_
  rintro e w' ⟨A, n, c, qs, F', rfl, hn, hrd, hk, hr, hd⟩
  rw [if_pos (.inl rfl)] at hk
  cases qs with
  | nil => cases hk
  | cons q qs =>
    rw [List.map_cons] at hk
    injection hk with hk1 hk2
    obtain rfl : qs = [] := List.map_eq_nil_iff.1 hk2
    obtain rfl : n = 1 := hn
    obtain ⟨g, o, rfl, hg, hra⟩ := hrd.range (i := 0) (by decide)
    have hrow := flat_row Pv.cl_len [q] 0 (by simp)
    simp only [Nat.zero_mul, Nat.add_zero, List.drop_zero, List.getElem_cons_zero] at hrow hra
    rw [hrow] at hra
    exact ⟨g, o, c, q, F', rfl, hra, hg, hk1, hr q List.mem_cons_self, hd⟩
theorem ptw_serve_none (h : PtW F w0 w b m) (f : Int) (hf1 : 1 ≤ f) (hf2 : f ≤ 4) (hx : m.sel m.hiB = []) :
    Calls Try.prog 10 #[.pointer (some ⟨b, 0, none⟩), .int .i64 f] w fun e w' => ∃ A c F', e = .returned (.tuple #[.slice A 0 c, .int .i64 7]) ∧ PtD F w0 w b m w' F' := by
  obtain ⟨⟨pl, ph, Fl, Fh, ql, qh, h1⟩, h2, h3⟩ := h
  refine (pt_serve_none h1 f hf1 hf2 hx).mono ?_
  rintro e w' ⟨A, n, c, qs, rfl, hn, hrd, hk, F', Fl', Fh', ql', qh', hp, hs, hg, hr⟩
  have : qs = [] := List.map_eq_nil_iff.1 hk
  subst this
  obtain rfl : n = 0 := hn
  exact ⟨A, c, F', rfl, PtD.to h2 h3 hp hs hg⟩
end
set_option maxHeartbeats 4000000 in
set_option maxRecDepth 100000 in
theorem p_awake (w : World) : Calls Try.prog 9 #[] w fun e w' => e = .returned (.bool true) ∧ Below w.heap.size w w' := by
  have HN := Lib.hid (ptw_new (w0 := w) 1 1 2 w (Below.refl _ _) (by decide) (by decide) (by decide) (by decide) (by decide) (by decide))
  go_enter Try.func9, Try.ntmps9
  go_wp2_with fail
  refine HN.out.mono ?_
  rintro e w1 ⟨rfl, F1, hp1, -, -⟩
  go_wp2_with fail
  refine (p_hv 0 _).mono ?_
  rintro e w2 ⟨q0, rfl, hk0, hr0, hb2⟩
  go_wp2_with fail
  refine (ptw_put (hp1.below hb2) (hr0 F1 hp1.bd) (AM.ok_new 1 1 2) (by decide)).mono ?_
  rintro e w3 ⟨q1, F3, rfl, hk1, hr1, hd3⟩
  rw [hk0] at hd3 hk1 ⊢
  rw [show (AM.new 1 1 2).vd (hv 0) = 1 by decide +kernel]
  have HO1 := Lib.hid (AM.ok_nx (AM.ok_new 1 1 2) (hv 0))
  have HP1 := Lib.hid (hd3.pt.below ((Below.refl _ _).alloc (Nat.le_refl _) (.cells (List.toArray [.int .i64 q1.h.kd, .int .i64 q1.h.fl, .int .i64 q1.h.pa, .int .i64 q1.h.sr, .int .i64 q1.h.ds, .int .i64 q1.h.cn, .int .i64 q1.h.sq, .int .i64 q1.h.pu, .slice q1.A q1.n q1.c]) 37)))
  clear hp1 hb2 hk0 hr0 hd3 hk1 hr1 HN
  go_wp2_with fail
  refine (p_hv 1 _).mono ?_
  rintro e w4 ⟨q2, rfl, hk2, hr2, hb4⟩
  go_wp2_with fail
  refine (ptw_put (HP1.out.below hb4) (hr2 F3 HP1.out.bd) HO1.out (by decide)).mono ?_
  rintro e w5 ⟨q3, F5, rfl, hk3, hr3, hd5⟩
  rw [hk2] at hd5 hk3 ⊢
  rw [show ((AM.new 1 1 2).nx (hv 0)).vd (hv 1) = 2 by decide +kernel]
  have HO2 := Lib.hid (AM.ok_nx HO1.out (hv 1))
  have HP2 := Lib.hid (hd5.pt.below ((Below.refl _ _).alloc (Nat.le_refl _) (.cells (List.toArray [.int .i64 q3.h.kd, .int .i64 q3.h.fl, .int .i64 q3.h.pa, .int .i64 q3.h.sr, .int .i64 q3.h.ds, .int .i64 q3.h.cn, .int .i64 q3.h.sq, .int .i64 q3.h.pu, .slice q3.A q3.n q3.c]) 37)))
  have hn3 : q3.n = 0 := by
    have h1 : q3.pk.xs = [] := by rw [hk3]; decide +kernel
    have h1 : q3.xs = [] := h1
    rw [← hr3.len, h1]; rfl
  have hbx3 := Bk.new w5 37 [.int .i64 q3.h.kd, .int .i64 q3.h.fl, .int .i64 q3.h.pa, .int .i64 q3.h.sr, .int .i64 q3.h.ds, .int .i64 q3.h.cn, .int .i64 q3.h.sq, .int .i64 q3.h.pu, .slice q3.A q3.n q3.c]
  have hnf3 : ¬ F5 w5.heap.size := fun hf => by have := hd5.pt.bd _ hf; omega
  clear hb4 hk2 hr2 hd5 hk3 hr3 HO1 HP1
  rw [hn3] at hbx3 HP2 ⊢
  go_wp2_with fail
  refine (p_hv 2 _).mono ?_
  rintro e w6 ⟨q4, rfl, hk4, hr4, hb6⟩
  go_wp2_with fail
  refine (ptw_put (HP2.out.below hb6) (hr4 F5 HP2.out.bd) HO2.out (by decide)).mono ?_
  rintro e w7 ⟨q5, F7, rfl, hk5, hr5, hd7⟩
  rw [hk4] at hd7 hk5 ⊢
  rw [show (((AM.new 1 1 2).nx (hv 0)).nx (hv 1)).vd (hv 2) = 3 by decide +kernel]
  have HO3 := Lib.hid (AM.ok_nx HO2.out (hv 2))
  have hbx7 := (hd7.box (hbx3.below hb6) hnf3).1.alloc (.cells (List.toArray [.int .i64 q5.h.kd, .int .i64 q5.h.fl, .int .i64 q5.h.pa, .int .i64 q5.h.sr, .int .i64 q5.h.ds, .int .i64 q5.h.cn, .int .i64 q5.h.sq, .int .i64 q5.h.pu, .slice q5.A q5.n q5.c]) 37)
  have hnf7 := (hd7.box (hbx3.below hb6) hnf3).2
  have HP3 := Lib.hid (hd7.pt.below ((Below.refl _ _).alloc (Nat.le_refl _) (.cells (List.toArray [.int .i64 q5.h.kd, .int .i64 q5.h.fl, .int .i64 q5.h.pa, .int .i64 q5.h.sr, .int .i64 q5.h.ds, .int .i64 q5.h.cn, .int .i64 q5.h.sq, .int .i64 q5.h.pu, .slice q5.A q5.n q5.c]) 37)))
  have hby7 := Bk.new w7 37 [.int .i64 q5.h.kd, .int .i64 q5.h.fl, .int .i64 q5.h.pa, .int .i64 q5.h.sr, .int .i64 q5.h.ds, .int .i64 q5.h.cn, .int .i64 q5.h.sq, .int .i64 q5.h.pu, .slice q5.A q5.n q5.c]
  have hnb7 : ¬ F7 w7.heap.size := fun hf => by have := hd7.pt.bd _ hf; omega
  have hs5 : q5.h.sr = 1 := by
    have h1 : q5.pk.h.sr = 1 := by rw [hk5]; decide +kernel
    exact h1
  have hd5 : q5.h.ds = 0 := by
    have h1 : q5.pk.h.ds = 0 := by rw [hk5]; decide +kernel
    exact h1
  rw [hs5, hd5] at hbx7 HP3 hby7 ⊢
  clear hb6 hk4 hr4 hd7 hk5 hr5 HO2 HP2 hbx3 hnf3 hs5 hd5
  go_wp2_with fail
  refine (ptw_deliver HP3.out HO3.out (by decide) (hv 1).trim [] (by kernel_rfl)).mono ?_
  rintro e w8 ⟨g, o, c, q6, F8, rfl, hra, hg, hk6, hr6, hd8⟩
  have hq6 : q6.h.sq = 1 := by
    have h1 : q6.pk.h.sq = 1 := by rw [hk6]; decide +kernel
    exact h1
  have c6 := hra 6 (.int .i64 q6.h.sq) rfl
  rw [hq6] at c6
  have z8 := (hd8.box hbx7 hnf7).1
  have y8 := (hd8.box hby7 hnb7).1
  have z88 := z8.cell 8 rfl
  have y83 := y8.cell 3 rfl
  have y84 := y8.cell 4 rfl
  have HB := Lib.hid hd8.pt.bl
  clear hra hk6 hr6 hd8 hbx7 hby7 hnf7 hnb7 HP3 HO3 z8 y8 hq6
  go_wp2
  go_ret
  exact ⟨rfl, HB.out⟩
end Go.Proofs.Ytcmakhkbkfkhkaa
