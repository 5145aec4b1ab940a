/- The law of any calls. -/
import Derived.Test.YtcmakhkbkfkhkaaP23
set_option linter.unusedSimpArgs false
set_option linter.unusedVariables false
namespace Go.Proofs.Ytcmakhkbkfkhkaa
open Go.RowKit Go.Shelf

def Al (X : Nat → Prop) (w : World) : Nat → Prop := fun k => X k ∨ k = w.heap.size
theorem al_new {n0 B : Nat} {w0 w : World} {X : Nat → Prop} (hC : Below n0 w0 w) (hn : n0 ≤ w.heap.size) (hX : ∀ k, X k → k < w.heap.size) (hB : B ≤ n0) (hoff : ∀ g, g < B → ¬ X g) (T : TypeId) (vs : List Value) :
    Bk (w.alloc (.cells vs.toArray T)) T w.heap.size vs ∧ Al X w w.heap.size ∧ Below n0 w0 (w.alloc (.cells vs.toArray T)) ∧ Below n0 w (w.alloc (.cells vs.toArray T)) ∧ Below w.heap.size w (w.alloc (.cells vs.toArray T)) ∧
      (∀ k, Al X w k → k < (w.alloc (.cells vs.toArray T)).heap.size) ∧ n0 ≤ (w.alloc (.cells vs.toArray T)).heap.size ∧ Gr X (Al X w) w.heap.size ∧ (∀ g, g < B → ¬ Al X w g) ∧ ∀ k, X k → Al X w k := by
  have hb := (Below.refl w.heap.size w).alloc (Nat.le_refl _) (.cells vs.toArray T)
  refine ⟨Bk.new _ _ _, .inr rfl, hC.trans (hb.mono hn), hb.mono hn, hb, ?_, Nat.le_trans hn hb.size, fun k hk => hk.imp id (fun e => by omega), ?_, fun k hk => .inl hk⟩
  · rintro k (hk | rfl)
    · exact Nat.lt_of_lt_of_le (hX k hk) hb.size
    · simp
  · rintro g hg (hk | rfl)
    · exact hoff g hg hk
    · omega
/-- Three may come up: all three ways are walked. -/
theorem wpAnyE_three {P : Program} {ops : Array Oper} {Q : Exit → Act → World → Prop} {md : Region.Mode} {E : World → World → Prop} {i j k : Nat} {o o' o2 : Oper} {fuel : Nat} {listed : Array Bool} {a : Act} {w : World} (hr : Region.ready md ops listed = [i, j, k]) (ho : ops[i]? = some o) (ho' : ops[j]? = some o') (ho2 : ops[k]? = some o2)
    (h : ∀ K' : Act → World → Prop, Shut (∀ a' w', E w w' → wpAnyE P md ops Q E fuel (listed.setIfInBounds i true) a' w' → K' a' w') →
      if Region.wanted o (yielded ops a.tmps) = true then Oper.wp P o a w K' Q else K' (a.put o.dst undef) w)
    (h' : ∀ K' : Act → World → Prop, Shut (∀ a' w', E w w' → wpAnyE P md ops Q E fuel (listed.setIfInBounds j true) a' w' → K' a' w') →
      if Region.wanted o' (yielded ops a.tmps) = true then Oper.wp P o' a w K' Q else K' (a.put o'.dst undef) w)
    (h2 : ∀ K' : Act → World → Prop, Shut (∀ a' w', E w w' → wpAnyE P md ops Q E fuel (listed.setIfInBounds k true) a' w' → K' a' w') →
      if Region.wanted o2 (yielded ops a.tmps) = true then Oper.wp P o2 a w K' Q else K' (a.put o2.dst undef) w) : wpAnyE P md ops Q E (fuel + 1) listed a w := by
  refine ⟨fun h0 => absurd (hr ▸ h0) (by simp), fun l hl => ?_⟩
  rw [hr] at hl
  have hl' : l = i ∨ l = j ∨ l = k := by simpa using hl
  rcases hl' with rfl | rfl | rfl
  · exact wpOp_step ho (fun K' hK => h K' (fun a' w' hE hW => hK a' w' ⟨hE, hW⟩))
  · exact wpOp_step ho' (fun K' hK => h' K' (fun a' w' hE hW => hK a' w' ⟨hE, hW⟩))
  · exact wpOp_step ho2 (fun K' hK => h2 K' (fun a' w' hE hW => hK a' w' ⟨hE, hW⟩))
theorem wr_st {g : Nat} {w w' : World} {X : Nat → Prop} (hw : Wr g w w') (hX : X g) : St X w w' := ⟨hw.os, hw.tape, hw.output, hw.size, fun j hj hn => hw.block j hj (by intro e; injection e with e; exact hn (e ▸ hX))⟩
theorem rowO : Row Try.prog 40 11 := ⟨⟨_, rfl, rfl⟩, by kernel_rfl⟩
section
variable {P : Program} {w : World} {Q : Exit → Act → World → Prop} {K : Act → World → Prop} {ops : Array Oper} {rest : List Oper} {op : Oper} {a : Act}
theorem wpList_load_op {e : TypeId} (R : Row P e 11) (hgd : op.guard = none) (x : Operand) (ho : op.op = .load e x) (dv : Int) (q : Pv) (f : Int) (g o : Nat) (hx : a.eval x = .pointer (some ⟨g, o, none⟩)) (h : w.rangeAt g o (opL dv q f))
    (hq : wpList P ops Q rest (a.put op.dst (.agg #[.int .u8 dv, .int .i64 q.h.kd, .int .i64 q.h.fl, .int .i64 q.h.pa, .int .i64 q.h.sr, .int .i64 q.h.ds, .int .i64 q.h.cn, .int .i64 q.h.sq, .int .i64 q.h.pu, .slice q.A q.n q.c, .int .i64 f])) w) : wpList P ops Q (op :: rest) a w := by
  obtain ⟨d, h1, h2⟩ := R.ht
  exact wpList_load_mid hgd e x ho g o hx (opL dv q f) d h h1 h2 R.hi hq
theorem exec_loadRp {ty : TypeId} (R : Row P ty 11) (x : Operand) (ho : op.op = .load ty x) (g : Nat) (hx : a.eval x = .pointer (some ⟨g, 0, none⟩)) {t : TypeId} (r : RV) (m : AM) (h : Bk w t g (r.cl m)) : (execOp a.eval op).run P w = .ok (.value (.agg #[.slice r.a1 r.n1 r.c1, .slice r.a2 r.n2 r.c2, .int .i64 m.lr, .int .i64 m.hr, .int .i64 m.wt, .int .i64 m.run, .int .i64 (m.ct 0), .int .i64 (m.ct 1), .int .i64 (m.ct 2), .int .i64 (m.ct 3), .int .i64 (m.ct 4)])) w :=
  exec_load_bk R x ho g 0 hx h (r.cl m) (r.cl_len m) rfl
theorem opwp_put_rp {e t : TypeId} (R : Row P e 11) (hgd : op.guard = none) (x y : Operand) (ho : op.op = .store e x y) (g : Nat) (hx : a.eval x = .pointer (some ⟨g, 0, none⟩)) {vs : List Value} (h : Bk w t g vs) (hv : vs.length = 11) (r : RV) (m : AM) (hy : a.eval y = .agg #[.slice r.a1 r.n1 r.c1, .slice r.a2 r.n2 r.c2, .int .i64 m.lr, .int .i64 m.hr, .int .i64 m.wt, .int .i64 m.run, .int .i64 (m.ct 0), .int .i64 (m.ct 1), .int .i64 (m.ct 2), .int .i64 (m.ct 3), .int .i64 (m.ct 4)])
    (hq : ∀ w', Bk w' t g (r.cl m) → Wr g w w' → K (a.put op.dst undef) w') : if Region.wanted op (yielded ops a.tmps) = true then Oper.wp P op a w K Q else K (a.put op.dst undef) w :=
  opwp_store_bk R hgd x y ho g 0 hx h (r.cl m) hy (r.cl_len m) (by rw [hv]; decide) (r.cl_one m) fun w' h' hw => hq w' (by rw [lay_all _ _ (by rw [hv]; rfl)] at h'; exact h') hw
theorem opwp_put_pk {e t : TypeId} (R : Row P e 9) (hgd : op.guard = none) (x y : Operand) (ho : op.op = .store e x y) (g : Nat) (hx : a.eval x = .pointer (some ⟨g, 0, none⟩)) {vs : List Value} (h : Bk w t g vs) (hv : vs.length = 9) (q : Pv) (hy : a.eval y = .agg #[.int .i64 q.h.kd, .int .i64 q.h.fl, .int .i64 q.h.pa, .int .i64 q.h.sr, .int .i64 q.h.ds, .int .i64 q.h.cn, .int .i64 q.h.sq, .int .i64 q.h.pu, .slice q.A q.n q.c])
    (hq : ∀ w', Bk w' t g q.cl → Wr g w w' → K (a.put op.dst undef) w') : if Region.wanted op (yielded ops a.tmps) = true then Oper.wp P op a w K Q else K (a.put op.dst undef) w :=
  opwp_store_bk R hgd x y ho g 0 hx h q.cl hy q.cl_len (by rw [hv]; decide) q.cl_one fun w' h' hw => hq w' (by rw [lay_all _ _ (by rw [hv]; rfl)] at h'; exact h') hw
theorem wpList_load_pk_g {e : TypeId} (R : Row P e 9) (hw : Region.wanted op (yielded ops a.tmps) = true) (x : Operand) (ho : op.op = .load e x) (q : Pv) (g o : Nat) (hx : a.eval x = .pointer (some ⟨g, o, none⟩)) (h : w.rangeAt g o q.cl)
    (hq : wpList P ops Q rest (a.put op.dst (.agg #[.int .i64 q.h.kd, .int .i64 q.h.fl, .int .i64 q.h.pa, .int .i64 q.h.sr, .int .i64 q.h.ds, .int .i64 q.h.cn, .int .i64 q.h.sq, .int .i64 q.h.pu, .slice q.A q.n q.c])) w) : wpList P ops Q (op :: rest) a w := by
  obtain ⟨d, h1, h2⟩ := R.ht
  refine wpList_step (fun K hK => ?_)
  rw [if_pos hw]
  exact wp_load_mid e x ho g o hx q.cl d h h1 h2 R.hi (hK _ _ hq)
end
section
variable {F F' F2 : Nat → Prop} {w0 w w1 w2 : World} {b b2 gb : Nat} {m : AM} {r : RV}
/-- What Serve tells lies off the reference's box: that box holds no packet. -/
theorem not_box {g o n c : Nat} {qs : List Pv} {T : TypeId} (h : RdR 9 w (some ⟨g, o, none⟩) n c (flat Pv.cl qs)) (hn : n = qs.length) (hp : 0 < n) (hb : Bk w T gb [.slice r.a1 r.n1 r.c1, .slice r.a2 r.n2 r.c2, .int .i64 m.lr, .int .i64 m.hr, .int .i64 m.wt, .int .i64 m.run, .int .i64 (m.ct 0), .int .i64 (m.ct 1), .int .i64 (m.ct 2), .int .i64 (m.ct 3), .int .i64 (m.ct 4)]) : g ≠ gb := by
  rintro rfl
  obtain ⟨g', o', hA, hg, hra⟩ := h.range hp
  injection hA with hA
  injection hA with h1 h2
  subst h1 h2
  rw [flat_row Pv.cl_len qs 0 (by omega)] at hra
  have h8 := hra 8 (.slice (qs[0]'(by omega)).A (qs[0]'(by omega)).n (qs[0]'(by omega)).c) rfl
  have h0 : w.cell? ⟨g, o + 0 * 9 + 8, none⟩ = ([.slice r.a1 r.n1 r.c1, .slice r.a2 r.n2 r.c2, .int .i64 m.lr, .int .i64 m.hr, .int .i64 m.wt, .int .i64 m.run, .int .i64 (m.ct 0), .int .i64 (m.ct 1), .int .i64 (m.ct 2), .int .i64 (m.ct 3), .int .i64 (m.ct 4)] : List Value)[o + 8]? := by
    unfold Bk at hb
    unfold World.cell?
    simp [hb]
  rw [h0] at h8
  rcases o with _ | _ | _ | o
  · simp at h8
  · simp at h8
  · simp at h8
  · simp at h8
theorem sl_off {A : Option Addr} {n c : Nat} {qs : List Pv} {l : List Pk} {T : TypeId} {X : Nat → Prop} (hn : n = qs.length) (h : RdR 9 w A n c (flat Pv.cl qs)) (hk : qs.map Pv.pk = l) (hr : ∀ q ∈ qs, PvR (fun k => X k ∨ k = gb) w q) (hb : Bk w T gb [.slice r.a1 r.n1 r.c1, .slice r.a2 r.n2 r.c2, .int .i64 m.lr, .int .i64 m.hr, .int .i64 m.wt, .int .i64 m.run, .int .i64 (m.ct 0), .int .i64 (m.ct 1), .int .i64 (m.ct 2), .int .i64 (m.ct 3), .int .i64 (m.ct 4)]) : SlP (· = gb) w A n c l :=
  ⟨qs, hn, h, hk, fun q hq => (hr q hq).mono fun k hk => .inr hk, fun hp ad he hk => by
    obtain ⟨g, o, hA, -⟩ := h.range hp
    rw [hA] at he h
    injection he with he
    subst he
    exact not_box h hn hp hb hk⟩
theorem JP.fork (h : JP w0 F b gb m r w) {pl ph : Nat} {Fl Fh : Nat → Prop} {ql qh : List Pv} (hp : PbC F2 (Fg F gb) w1 b2 m pl ph Fl Fh ql qh) (h2 : ∀ k, F2 k → w.heap.size ≤ k) (hb : Below w.heap.size w w1) (hs : St F w1 w2) : JP w0 F2 b2 gb m r w2 := by
  have hbd := h.bd
  obtain ⟨-, a2, a3, a4, a5, a6, a7⟩ := h
  have hst : St (Fg F gb) w w2 := (St.ext hb).trans (hs.mono fun k _ hk => .inl hk) (Gr.refl _ _)
  refine ⟨⟨pl, ph, Fl, Fh, ql, qh, (hp.st hs (fun k hk hF => ?_) (fun k hk => .inl (.inl hk))).less fun k hk => .inr hk⟩, a2.st hst ?_, (a3.below hb).st hs a4, fun hg => ?_, fun k hk => Nat.le_trans a7.size (h2 k hk), a6, ?_⟩
  · have := h2 k hk
    have := hbd k (.inl hF)
    omega
  · rintro k (hk | hk)
    · exact .inr (h2 k hk)
    · exact .inl (.inr hk)
  · have := h2 gb hg
    have := a3.lt
    omega
  · exact (a7.trans (hb.mono a7.size)).trans (hs.below (Nat.le_trans a7.size hb.size) a5)
end
set_option maxRecDepth 100000 in
set_option maxHeartbeats 16000000 in
theorem lawRuns (low high wt : Int) (ops : Sl OpT.den) (w : World) (h : (Ty.sl OpT).reads w ops) :
    Calls Try.prog 3 #[.int .i64 low, .int .i64 high, .int .i64 wt, .slice ops.A ops.n ops.c] w fun e w' => e = .returned (.bool true) ∧ Below w.heap.size w w' := by
  have hnm : ops.n ≤ 9223372036854775807 := by have h := h.2; simp only [maxLen] at h; omega
  have HOp := Lib.hid (op_at h)
  obtain ⟨A0, n0, c0, l0⟩ := ops
  dsimp only at *
  clear h
  by_cases hv : fitB low = true ∧ fitB high = true ∧ fitB wt = true
  · obtain ⟨hv1, hv2, hv3⟩ := hv
    have HRN := Lib.hid (fun W => r_new low high wt W hv1 hv2 hv3)
    simp only [fitB, decide_eq_true_eq] at hv1 hv2 hv3
    obtain ⟨L, rfl⟩ := Int.eq_ofNat_of_zero_le (show 0 ≤ low by omega)
    obtain ⟨H, rfl⟩ := Int.eq_ofNat_of_zero_le (show 0 ≤ high by omega)
    obtain ⟨T, rfl⟩ := Int.eq_ofNat_of_zero_le (show 0 ≤ wt by omega)
    have HPN := Lib.hid (pt_new (X := fun _ => False) L H T w (fun _ h => h.elim) (by omega) (by omega) (by omega) (by omega) (by omega) (by omega))
    have HLH : Hid (L ≤ 1024 ∧ H ≤ 1024) := Lib.hid (by omega)
    clear hv1 hv2 hv3
    go_enter Try.func3, Try.ntmps3
    go_wp2_with fail
    refine HPN.out.mono ?_
    rintro e w1 ⟨rfl, hb1, F1, pl1, ph1, Fl1, Fh1, hp1, hF1⟩
    have H1 := Lib.hid (And.intro hb1 (And.intro hp1 hF1))
    clear hb1 hp1 hF1 HPN
    go_wp2_with fail
    refine (HRN.out _).mono ?_
    rintro e w2 ⟨rfl, hb2⟩
    have H2 := Lib.hid hb2
    clear hb2 HRN
    go_wp2_with fail
    have hJ1 : JP w F1 w.heap.size w2.heap.size (AM.new L H T) ⟨none, 0, 0, none, 0, 0⟩ (w2.alloc (.cells (List.toArray [.slice none 0 0, .slice none 0 0, .int .i64 L, .int .i64 H, .int .i64 T, .int .i64 0, .int .i64 0, .int .i64 0, .int .i64 0, .int .i64 0, .int .i64 0]) 30)) := by
      obtain ⟨hb1, hp1, hF1⟩ := H1.out
      have hb2 := H2.out
      have hb3 := (Below.refl w2.heap.size w2).alloc (Nat.le_refl _) (.cells (List.toArray [.slice none 0 0, .slice none 0 0, .int .i64 L, .int .i64 H, .int .i64 T, .int .i64 0, .int .i64 0, .int .i64 0, .int .i64 0, .int .i64 0, .int .i64 0]) 30)
      refine ⟨⟨pl1, ph1, Fl1, Fh1, [], [], (hp1.below hb2).ext hb3 (fun k hk => .inr (by omega)) (fun k hk => by simp; omega)⟩, ⟨SlP.nil _ _, SlP.nil _ _⟩, Bk.new _ _ _, fun hg => ?_, hF1, Nat.le_trans hb1.size hb2.size, ?_⟩
      · have := hp1.bd _ hg
        have := hb2.size
        omega
      · exact (hb1.trans (hb2.mono hb1.size)).trans (hb3.mono (Nat.le_trans hb1.size hb2.size))
    have HJ1 := Lib.hid hJ1
    clear hJ1 H1 H2
    generalize w2.heap.size = gb at *
    refine (p_awake _).mono ?_
    rintro e w3 ⟨rfl, hb3⟩
    have HJ3 := Lib.hid (HJ1.out.below hb3)
    clear hb3 HJ1
    go_wp2_with fail
    go_loopw [9, 13] (fun sp i wr => ∃ (k b : Nat) (F : Nat → Prop) (m : AM) (r : RV), k ≤ n0 ∧ k ≤ 50 ∧ i = .int .i64 k ∧ sp = .pointer (some ⟨b, 0, none⟩) ∧ JP w F b gb m r wr ∧ AMb m L H (2 * k)) (fun _ i _ => n0 + 1 - (intOf i).toNat)
    case atStart => exact ⟨0, _, F1, _, _, Nat.zero_le _, by omega, rfl, rfl, HJ3.out, AMb.new _ _ _⟩
    case round =>
      clear HJ3
      obtain ⟨k, b, F, m, r, hkn, hk50, rfl, rfl, hJ, hM⟩ := hrel
      have HM := Lib.hid hM
      have HJ := Lib.hid hJ
      clear hM
      by_cases hc : k < n0 ∧ k < 50
      · obtain ⟨hlt, h50⟩ := hc
        have h50' : (k : Int) < 50 := by omega
        have hlt' : (k : Int) < n0 := by omega
        obtain ⟨go, o, dv, q, f, hA, hg0, hra0, hdv, hrd0, hfl⟩ := HOp.out k hlt
        obtain rfl : A0 = some ⟨go, o, none⟩ := hA
        have hra := range_below hra0 hg0 hJ.bl
        have HRD := Lib.hid (And.intro hrd0 (And.intro hfl (fun hn ad he => hrd0.blk hn ad he)))
        have hb0 := (Below.refl wr.heap.size wr).alloc (Nat.le_refl _) (.cells (List.toArray (opL dv q f)) 40)
        have HO := Lib.hid (Bk.new wr 40 (opL dv q f))
        have HJ0 := Lib.hid (hJ.below hb0)
        have HG0 := Lib.hid (fun hF => Nat.lt_irrefl _ (hJ.bd wr.heap.size hF))
        have hWr : w.heap.size ≤ wr.heap.size := hJ.bl.size
        clear hra0 hrd0 hfl hb0 hJ
        rcases (by omega : (dv : Int) % 8 < 4 ∨ (dv : Int) % 8 = 4 ∨ (dv : Int) % 8 = 5 ∨ (dv : Int) % 8 = 6 ∨ (dv : Int) % 8 = 7) with h0 | h0 | h0 | h0 | h0
        · have e4 : ((dv : Int) % 8 == 4) = false := by simp; omega
          have e5 : ((dv : Int) % 8 == 5) = false := by simp; omega
          have e6 : ((dv : Int) % 8 == 6) = false := by simp; omega
          have e7 : ((dv : Int) % 8 == 7) = false := by simp; omega
          clear h0
          go_wp2_with (first
            | (with_reducible refine at_load 40 (.tmp 70) (by rfl) ?_; refine wpList_load_op rowO rfl (.tmp 70) rfl dv q f go (o + k * 11) rfl hra ?_)
            | (with_reducible refine at_load 37 (.tmp 77) (by rfl) ?_; refine wpList_load_pk rowP rfl (.tmp 77) rfl q wr.heap.size 1 rfl (HO.out.range 1 rfl) ?_))
          refine (p_light q _ (HRD.out.1.below HJ0.out.bl) HRD.out.2.1).mono ?_
          rintro e w3 ⟨q3, rfl, hk3, hr3, hb3⟩
          have HJ3 := Lib.hid (HJ0.out.below hb3)
          have HP3 := Lib.hid (hr3 F (fun hn ad he hF => HJ3.out.off (HRD.out.2.2 hn ad he) (.inl hF)))
          have HO3 := Lib.hid (HO.out.below hb3)
          have HK3 := Lib.hid hk3
          clear hb3 hr3 hk3 e4 e5 e6 e7 hra HJ HJ0 HO
          obtain ⟨pl, ph, Fl, Fh, ql, qh, hp⟩ := HJ3.out.pb
          have HPut := Lib.hid (pt_put hp HP3.out (HM.out.ok.ct (by omega)))
          clear hp
          go_wp2_with fail
          refine HPut.out.mono ?_
          rintro e w4 ⟨q4, rfl, hk4, F4, Fl4, Fh4, ql4, qh4, hp4, hs4, hg4, hr4⟩
          rw [HK3.out] at hp4 hk4 ⊢
          have HRPut : Hid (∀ X W (q5 : Pv), RpR X W r m → PvR X W q5 → (∀ k, X k → k < W.heap.size) → q5.pk = q.pk.lit → Calls Try.prog 17 #[.agg #[.slice r.a1 r.n1 r.c1, .slice r.a2 r.n2 r.c2, .int .i64 m.lr, .int .i64 m.hr, .int .i64 m.wt, .int .i64 m.run, .int .i64 (m.ct 0), .int .i64 (m.ct 1), .int .i64 (m.ct 2), .int .i64 (m.ct 3), .int .i64 (m.ct 4)], .agg #[.int .i64 q5.h.kd, .int .i64 q5.h.fl, .int .i64 q5.h.pa, .int .i64 q5.h.sr, .int .i64 q5.h.ds, .int .i64 q5.h.cn, .int .i64 q5.h.sq, .int .i64 q5.h.pu, .slice q5.A q5.n q5.c]] W (RPutTo X W (m.nx q.pk.lit) (m.vd q.pk.lit) (m.out q.pk.lit))) := Lib.hid fun X W q5 h1 h2 h3 h4 => by
            have := r_Put h1 h2 h3 (Nat.le_trans HM.out.lo HLH.out.1) (Nat.le_trans HM.out.hi HLH.out.2) (HM.out.ok.ct (by omega))
            rw [h4] at this; exact this
          have HM' := Lib.hid ((HM.out.nx q.pk.lit).mono (show 2 * (k : Int) + 1 ≤ 2 * ((k + 1 : Nat) : Int) by omega))
          have hQ4 := HJ3.out.turn hp4 hs4 hg4
          have hO4 := HO3.out.st hs4 (fun hF => HG0.out (.inl hF))
          clear hp4 hs4 hg4 HPut HP3 HO3 HK3 HJ3
          generalize m.nx q.pk.lit = m' at hQ4 HRPut HM'
          generalize m.vd q.pk.lit = vv at HRPut ⊢
          generalize m.out q.pk.lit = xx at hk4 HRPut
          go_upto_region 11 with fail
          obtain ⟨W0, hW0⟩ : ∃ W0, W0 = w4.alloc (.cells (List.toArray [.int .i64 q4.h.kd, .int .i64 q4.h.fl, .int .i64 q4.h.pa, .int .i64 q4.h.sr, .int .i64 q4.h.ds, .int .i64 q4.h.cn, .int .i64 q4.h.sq, .int .i64 q4.h.pu, .slice q4.A q4.n q4.c]) 37) := ⟨_, rfl⟩
          have hba : Below w4.heap.size w4 W0 := by rw [hW0]; exact (Below.refl _ _).alloc (Nat.le_refl _) _
          have HQ := Lib.hid (hQ4.below hba)
          have HOW := Lib.hid (hO4.below hba)
          have HB4 : Hid (Bk W0 37 w4.heap.size [.int .i64 q4.h.kd, .int .i64 q4.h.fl, .int .i64 q4.h.pa, .int .i64 q4.h.sr, .int .i64 q4.h.ds, .int .i64 q4.h.cn, .int .i64 q4.h.sq, .int .i64 q4.h.pu, .slice q4.A q4.n q4.c]) := Lib.hid (by rw [hW0]; exact Bk.new _ _ _)
          have HR4 : Hid (PvR (Fg F4 gb) W0 q4) := Lib.hid (hr4.below hba)
          have HK4 := Lib.hid hk4
          have HRdW : Hid (∀ W, Below W0.heap.size W0 W → Rd .u8 W q.A q.n q.c q.xs) := Lib.hid fun W hW => HRD.out.1.below (below_on HQ.out.bl hW)
          have HN4 : Hid (w4.heap.size ≠ gb) := Lib.hid (Nat.ne_of_gt hQ4.bx.lt)
          rw [← hW0]
          clear hW0 hba hQ4 hO4 hr4 hk4
          generalize w4.heap.size = g4 at *
          generalize wr.heap.size = g0 at *
          go_cut [23, 24, 25] (fun s23 s24 s25 W => ∃ g9 g10 r6 q6, s23 = .pointer (some ⟨g9, 0, none⟩) ∧ s24 = .int .i64 vv ∧ s25 = .pointer (some ⟨g10, 0, none⟩) ∧ Bk W 30 g9 [.slice r6.a1 r6.n1 r6.c1, .slice r6.a2 r6.n2 r6.c2, .int .i64 m'.lr, .int .i64 m'.hr, .int .i64 m'.wt, .int .i64 m'.run, .int .i64 (m'.ct 0), .int .i64 (m'.ct 1), .int .i64 (m'.ct 2), .int .i64 (m'.ct 3), .int .i64 (m'.ct 4)] ∧ Bk W 37 g10 [.int .i64 q6.h.kd, .int .i64 q6.h.fl, .int .i64 q6.h.pa, .int .i64 q6.h.sr, .int .i64 q6.h.ds, .int .i64 q6.h.cn, .int .i64 q6.h.sq, .int .i64 q6.h.pu, .slice q6.A q6.n q6.c] ∧ RpR (Fg F4 gb) W r6 m' ∧ q6.pk = xx ∧ PvR (Fg F4 gb) W q6 ∧ W0.heap.size ≤ g10 ∧ Below W0.heap.size W0 W)
          case first =>
            refine wp_region_E (Below W0.heap.size) (by kernel_rfl) (fun wd hbd hsz => ?_)
            have hC := hbd
            have hn0 : W0.heap.size ≤ wd.heap.size := hbd.size
            have hX : ∀ k, Fg F4 gb k → k < wd.heap.size := fun k hk => Nat.lt_of_lt_of_le (HQ.out.bd k hk) hn0
            have hwW : w.heap.size ≤ W0.heap.size := HQ.out.bl.size
            have hoff : ∀ g, g < w.heap.size → ¬ Fg F4 gb g := fun g hg => HQ.out.off hg
            have hRP := HQ.out.rp.below hbd
            have hsub : ∀ k, Fg F4 gb k → Fg F4 gb k := fun k hk => hk
            have HBD := Lib.hid hbd
            clear hbd hsz
            (refine takeE (belowTr W0.heap.size) 0 (by simp only [List.getElem?_toArray, List.getElem?_cons_succ, List.getElem?_cons_zero]; rfl) (by kernel_rfl) (by kernel_rfl) (by kernel_rfl) (by exact fun _ _ _ h => h) (by first | (refine Or.inl ⟨by rfl, ?_⟩; intro W hW; exact exec_loadRp rowR (.tmp 11) rfl gb rfl r m (HQ.out.bx.below (HBD.out.trans hW))) | exact Or.inr ⟨by rfl, rfl⟩) ?_; try simp only [Act.put, List.setIfInBounds_toArray, List.set_cons_zero, List.set_cons_succ])
            (refine takeE (belowTr W0.heap.size) 1 (by simp only [List.getElem?_toArray, List.getElem?_cons_succ, List.getElem?_cons_zero]; rfl) (by kernel_rfl) (by kernel_rfl) (by kernel_rfl) (by exact fun _ _ _ h => h) (by first | (refine Or.inl ⟨by rfl, ?_⟩; intro W hW; go_simp; try with_reducible rfl) | exact Or.inr ⟨by rfl, rfl⟩) ?_; try simp only [Act.put, List.setIfInBounds_toArray, List.set_cons_zero, List.set_cons_succ])
            (refine takeE (belowTr W0.heap.size) 2 (by simp only [List.getElem?_toArray, List.getElem?_cons_succ, List.getElem?_cons_zero]; rfl) (by kernel_rfl) (by kernel_rfl) (by kernel_rfl) (by exact fun _ _ _ h => h) (by first | (refine Or.inl ⟨by rfl, ?_⟩; intro W hW; exact exec_loadRow rowP (.tmp 85) rfl g0 1 rfl q ((HOW.out.below (HBD.out.trans hW)).range 1 rfl)) | exact Or.inr ⟨by rfl, rfl⟩) ?_; try simp only [Act.put, List.setIfInBounds_toArray, List.set_cons_zero, List.set_cons_succ])
            refine wpAnyE_three (i := 3) (j := 9) (k := 10) (by kernel_rfl) (by simp only [List.getElem?_toArray, List.getElem?_cons_succ, List.getElem?_cons_zero]; rfl) (by simp only [List.getElem?_toArray, List.getElem?_cons_succ, List.getElem?_cons_zero]; rfl) (by simp only [List.getElem?_toArray, List.getElem?_cons_succ, List.getElem?_cons_zero]; rfl) (fun K hK => ?_) (fun K hK => ?_) (fun K hK => ?_)
            ·
              go_simp
              refine (p_light q _ (HRdW.out _ hC) HRD.out.2.1).mono ?_
              rintro e w5 ⟨q5, rfl, hk5, hp5, hb⟩
              have hp5 := hp5 _ (fun hn ad he => hoff _ (HRD.out.2.2 hn ad he))
              have hE := hb.mono hn0
              have hC := hC.trans hE
              have hn0 := Nat.le_trans hn0 hb.size
              have hX := fun k hk => Nat.lt_of_lt_of_le (hX k hk) hb.size
              have hRP := hRP.below hb
              try have hz9 := hz9.below hb
              try have hz10 := hz10.below hb
              refine hK.out _ _ hE ?_
              clear hK K
              try simp only [Act.put, List.setIfInBounds_toArray, List.set_cons_zero, List.set_cons_succ]
              refine wpAnyE_three (i := 4) (j := 9) (k := 10) (by kernel_rfl) (by simp only [List.getElem?_toArray, List.getElem?_cons_succ, List.getElem?_cons_zero]; rfl) (by simp only [List.getElem?_toArray, List.getElem?_cons_succ, List.getElem?_cons_zero]; rfl) (by simp only [List.getElem?_toArray, List.getElem?_cons_succ, List.getElem?_cons_zero]; rfl) (fun K hK => ?_) (fun K hK => ?_) (fun K hK => ?_)
              ·
                go_simp
                refine (HRPut.out _ _ _ hRP hp5 hX hk5).mono ?_
                rintro e w6 ⟨r6, q6, rfl, hr6, hk6, hq6, hb⟩
                have hE := hb.mono hn0
                have hC := hC.trans hE
                have hn0 := Nat.le_trans hn0 hb.size
                have hX := fun k hk => Nat.lt_of_lt_of_le (hX k hk) hb.size
                have hRP := hRP.below hb
                try have hz9 := hz9.below hb
                try have hz10 := hz10.below hb
                refine hK.out _ _ hE ?_
                clear hK K
                try simp only [Act.put, List.setIfInBounds_toArray, List.set_cons_zero, List.set_cons_succ]
                (refine takeE (belowTr W0.heap.size) 5 (by simp only [List.getElem?_toArray, List.getElem?_cons_succ, List.getElem?_cons_zero]; rfl) (by kernel_rfl) (by kernel_rfl) (by kernel_rfl) (by exact fun _ _ _ h => h) (by first | (refine Or.inl ⟨by rfl, ?_⟩; intro W hW; go_simp; try with_reducible rfl) | exact Or.inr ⟨by rfl, rfl⟩) ?_; try simp only [Act.put, List.setIfInBounds_toArray, List.set_cons_zero, List.set_cons_succ])
                (refine takeE (belowTr W0.heap.size) 6 (by simp only [List.getElem?_toArray, List.getElem?_cons_succ, List.getElem?_cons_zero]; rfl) (by kernel_rfl) (by kernel_rfl) (by kernel_rfl) (by exact fun _ _ _ h => h) (by first | (refine Or.inl ⟨by rfl, ?_⟩; intro W hW; go_simp; try with_reducible rfl) | exact Or.inr ⟨by rfl, rfl⟩) ?_; try simp only [Act.put, List.setIfInBounds_toArray, List.set_cons_zero, List.set_cons_succ])
                (refine takeE (belowTr W0.heap.size) 7 (by simp only [List.getElem?_toArray, List.getElem?_cons_succ, List.getElem?_cons_zero]; rfl) (by kernel_rfl) (by kernel_rfl) (by kernel_rfl) (by exact fun _ _ _ h => h) (by first | (refine Or.inl ⟨by rfl, ?_⟩; intro W hW; go_simp; try with_reducible rfl) | exact Or.inr ⟨by rfl, rfl⟩) ?_; try simp only [Act.put, List.setIfInBounds_toArray, List.set_cons_zero, List.set_cons_succ])
                (refine takeE (belowTr W0.heap.size) 8 (by simp only [List.getElem?_toArray, List.getElem?_cons_succ, List.getElem?_cons_zero]; rfl) (by kernel_rfl) (by kernel_rfl) (by kernel_rfl) (by exact fun _ _ _ h => h) (by first | (refine Or.inl ⟨by rfl, ?_⟩; intro W hW; go_simp; try with_reducible rfl) | exact Or.inr ⟨by rfl, rfl⟩) ?_; try simp only [Act.put, List.setIfInBounds_toArray, List.set_cons_zero, List.set_cons_succ])
                refine wpAnyE_two (i := 9) (j := 10) (by kernel_rfl) (by simp only [List.getElem?_toArray, List.getElem?_cons_succ, List.getElem?_cons_zero]; rfl) (by simp only [List.getElem?_toArray, List.getElem?_cons_succ, List.getElem?_cons_zero]; rfl) (fun K hK => ?_) (fun K hK => ?_)
                ·
                  go_simp
                  have hg9 := hn0
                  try have hne := Nat.ne_of_lt hz10.lt
                  obtain ⟨hz9, hx9, hC, hE, hb, hX, hn0, hgr, hoff, hup⟩ := al_new hC hn0 hX hwW hoff 30 [.slice none 0 0, .slice none 0 0, .int .i64 0, .int .i64 0, .int .i64 0, .int .i64 0, .int .i64 0, .int .i64 0, .int .i64 0, .int .i64 0, .int .i64 0]
                  try have hz10 := hz10.below hb
                  try have hx10 := hup _ hx10
                  try have hp5 := hp5.st (St.ext hb) hgr
                  try have hr6 := hr6.st (St.ext hb) hgr
                  try have hq6 := hq6.st (St.ext hb) hgr
                  have hRP := hRP.st (St.ext hb) hgr
                  have hsub := fun k hk => hup k (hsub k hk)
                  refine hK.out _ _ hE ?_
                  clear hK K
                  try simp only [Act.put, List.setIfInBounds_toArray, List.set_cons_zero, List.set_cons_succ]
                  refine wpAnyE_one (i := 10) (by kernel_rfl) (by simp only [List.getElem?_toArray, List.getElem?_cons_succ, List.getElem?_cons_zero]; rfl) (fun K hK => ?_)
                  go_simp
                  have hg10 := hn0
                  try have hne := Nat.ne_of_gt hz9.lt
                  obtain ⟨hz10, hx10, hC, hE, hb, hX, hn0, hgr, hoff, hup⟩ := al_new hC hn0 hX hwW hoff 37 [.int .i64 0, .int .i64 0, .int .i64 0, .int .i64 0, .int .i64 0, .int .i64 0, .int .i64 0, .int .i64 0, .slice none 0 0]
                  try have hz9 := hz9.below hb
                  try have hx9 := hup _ hx9
                  try have hp5 := hp5.st (St.ext hb) hgr
                  try have hr6 := hr6.st (St.ext hb) hgr
                  try have hq6 := hq6.st (St.ext hb) hgr
                  have hRP := hRP.st (St.ext hb) hgr
                  have hsub := fun k hk => hup k (hsub k hk)
                  refine hK.out _ _ hE ?_
                  clear hK K
                  try simp only [Act.put, List.setIfInBounds_toArray, List.set_cons_zero, List.set_cons_succ]
                  refine wpAnyE_one (i := 11) (by kernel_rfl) (by simp only [List.getElem?_toArray, List.getElem?_cons_succ, List.getElem?_cons_zero]; rfl) (fun K hK => ?_)
                  refine opwp_put_rp rowR rfl (.tmp 23) (.tmp 89) rfl _ (by first | rfl | (simp only [World.size_alloc]; done) | (simp only [World.size_alloc]; rfl)) hz9 rfl r6 m' rfl ?_
                  rintro w7 hz9 hw
                  have hs := wr_st hw hx9
                  have hz10 := hz10.wr hw hne
                  have hE := hw.below hg9 hn0
                  have hC := hC.trans hE
                  have hn0 := Nat.le_trans hn0 hE.size
                  have hr6 := hr6.st hs (Gr.refl _ _)
                  have hq6 := hq6.st hs (Gr.refl _ _)
                  refine hK.out _ _ hE ?_
                  clear hK K
                  try simp only [Act.put, List.setIfInBounds_toArray, List.set_cons_zero, List.set_cons_succ]
                  (refine takeE (belowTr W0.heap.size) 12 (by simp only [List.getElem?_toArray, List.getElem?_cons_succ, List.getElem?_cons_zero]; rfl) (by kernel_rfl) (by kernel_rfl) (by kernel_rfl) (by exact fun _ _ _ h => h) (by first | (refine Or.inl ⟨by rfl, ?_⟩; intro W hW; go_simp; try with_reducible rfl) | exact Or.inr ⟨by rfl, rfl⟩) ?_; try simp only [Act.put, List.setIfInBounds_toArray, List.set_cons_zero, List.set_cons_succ])
                  refine wpAnyE_one (i := 13) (by kernel_rfl) (by simp only [List.getElem?_toArray, List.getElem?_cons_succ, List.getElem?_cons_zero]; rfl) (fun K hK => ?_)
                  refine opwp_put_pk rowP rfl (.tmp 25) (.tmp 91) rfl _ (by first | rfl | (simp only [World.size_alloc]; done) | (simp only [World.size_alloc]; rfl)) hz10 rfl q6 rfl ?_
                  rintro w8 hz10 hw
                  have hs := wr_st hw hx10
                  have hz9 := hz9.wr hw (Ne.symm hne)
                  have hE := hw.below hg10 hn0
                  have hC := hC.trans hE
                  have hr6 := hr6.st hs (Gr.refl _ _)
                  have hq6 := hq6.st hs (Gr.refl _ _)
                  refine hK.out _ _ hE ?_
                  clear hK K
                  try simp only [Act.put, List.setIfInBounds_toArray, List.set_cons_zero, List.set_cons_succ]
                  refine wpAnyE_done (by kernel_rfl) ?_ _
                  go_wp2_with fail
                  go_meet
                  exact ⟨_, _, r6, q6, by first | rfl | (simp only [World.size_alloc]; done) | (simp only [World.size_alloc]; rfl), rfl, by first | rfl | (simp only [World.size_alloc]; done) | (simp only [World.size_alloc]; rfl), hz9, hz10, hr6.mono hsub, hk6, hq6.mono hsub, hg10, hC⟩
                ·
                  go_simp
                  have hg10 := hn0
                  try have hne := Nat.ne_of_gt hz9.lt
                  obtain ⟨hz10, hx10, hC, hE, hb, hX, hn0, hgr, hoff, hup⟩ := al_new hC hn0 hX hwW hoff 37 [.int .i64 0, .int .i64 0, .int .i64 0, .int .i64 0, .int .i64 0, .int .i64 0, .int .i64 0, .int .i64 0, .slice none 0 0]
                  try have hz9 := hz9.below hb
                  try have hx9 := hup _ hx9
                  try have hp5 := hp5.st (St.ext hb) hgr
                  try have hr6 := hr6.st (St.ext hb) hgr
                  try have hq6 := hq6.st (St.ext hb) hgr
                  have hRP := hRP.st (St.ext hb) hgr
                  have hsub := fun k hk => hup k (hsub k hk)
                  refine hK.out _ _ hE ?_
                  clear hK K
                  try simp only [Act.put, List.setIfInBounds_toArray, List.set_cons_zero, List.set_cons_succ]
                  refine wpAnyE_one (i := 9) (by kernel_rfl) (by simp only [List.getElem?_toArray, List.getElem?_cons_succ, List.getElem?_cons_zero]; rfl) (fun K hK => ?_)
                  go_simp
                  have hg9 := hn0
                  try have hne := Nat.ne_of_lt hz10.lt
                  obtain ⟨hz9, hx9, hC, hE, hb, hX, hn0, hgr, hoff, hup⟩ := al_new hC hn0 hX hwW hoff 30 [.slice none 0 0, .slice none 0 0, .int .i64 0, .int .i64 0, .int .i64 0, .int .i64 0, .int .i64 0, .int .i64 0, .int .i64 0, .int .i64 0, .int .i64 0]
                  try have hz10 := hz10.below hb
                  try have hx10 := hup _ hx10
                  try have hp5 := hp5.st (St.ext hb) hgr
                  try have hr6 := hr6.st (St.ext hb) hgr
                  try have hq6 := hq6.st (St.ext hb) hgr
                  have hRP := hRP.st (St.ext hb) hgr
                  have hsub := fun k hk => hup k (hsub k hk)
                  refine hK.out _ _ hE ?_
                  clear hK K
                  try simp only [Act.put, List.setIfInBounds_toArray, List.set_cons_zero, List.set_cons_succ]
                  refine wpAnyE_one (i := 11) (by kernel_rfl) (by simp only [List.getElem?_toArray, List.getElem?_cons_succ, List.getElem?_cons_zero]; rfl) (fun K hK => ?_)
                  refine opwp_put_rp rowR rfl (.tmp 23) (.tmp 89) rfl _ (by first | rfl | (simp only [World.size_alloc]; done) | (simp only [World.size_alloc]; rfl)) hz9 rfl r6 m' rfl ?_
                  rintro w7 hz9 hw
                  have hs := wr_st hw hx9
                  have hz10 := hz10.wr hw hne
                  have hE := hw.below hg9 hn0
                  have hC := hC.trans hE
                  have hn0 := Nat.le_trans hn0 hE.size
                  have hr6 := hr6.st hs (Gr.refl _ _)
                  have hq6 := hq6.st hs (Gr.refl _ _)
                  refine hK.out _ _ hE ?_
                  clear hK K
                  try simp only [Act.put, List.setIfInBounds_toArray, List.set_cons_zero, List.set_cons_succ]
                  (refine takeE (belowTr W0.heap.size) 12 (by simp only [List.getElem?_toArray, List.getElem?_cons_succ, List.getElem?_cons_zero]; rfl) (by kernel_rfl) (by kernel_rfl) (by kernel_rfl) (by exact fun _ _ _ h => h) (by first | (refine Or.inl ⟨by rfl, ?_⟩; intro W hW; go_simp; try with_reducible rfl) | exact Or.inr ⟨by rfl, rfl⟩) ?_; try simp only [Act.put, List.setIfInBounds_toArray, List.set_cons_zero, List.set_cons_succ])
                  refine wpAnyE_one (i := 13) (by kernel_rfl) (by simp only [List.getElem?_toArray, List.getElem?_cons_succ, List.getElem?_cons_zero]; rfl) (fun K hK => ?_)
                  refine opwp_put_pk rowP rfl (.tmp 25) (.tmp 91) rfl _ (by first | rfl | (simp only [World.size_alloc]; done) | (simp only [World.size_alloc]; rfl)) hz10 rfl q6 rfl ?_
                  rintro w8 hz10 hw
                  have hs := wr_st hw hx10
                  have hz9 := hz9.wr hw (Ne.symm hne)
                  have hE := hw.below hg10 hn0
                  have hC := hC.trans hE
                  have hr6 := hr6.st hs (Gr.refl _ _)
                  have hq6 := hq6.st hs (Gr.refl _ _)
                  refine hK.out _ _ hE ?_
                  clear hK K
                  try simp only [Act.put, List.setIfInBounds_toArray, List.set_cons_zero, List.set_cons_succ]
                  refine wpAnyE_done (by kernel_rfl) ?_ _
                  go_wp2_with fail
                  go_meet
                  exact ⟨_, _, r6, q6, by first | rfl | (simp only [World.size_alloc]; done) | (simp only [World.size_alloc]; rfl), rfl, by first | rfl | (simp only [World.size_alloc]; done) | (simp only [World.size_alloc]; rfl), hz9, hz10, hr6.mono hsub, hk6, hq6.mono hsub, hg10, hC⟩
              ·
                go_simp
                have hg9 := hn0
                try have hne := Nat.ne_of_lt hz10.lt
                obtain ⟨hz9, hx9, hC, hE, hb, hX, hn0, hgr, hoff, hup⟩ := al_new hC hn0 hX hwW hoff 30 [.slice none 0 0, .slice none 0 0, .int .i64 0, .int .i64 0, .int .i64 0, .int .i64 0, .int .i64 0, .int .i64 0, .int .i64 0, .int .i64 0, .int .i64 0]
                try have hz10 := hz10.below hb
                try have hx10 := hup _ hx10
                try have hp5 := hp5.st (St.ext hb) hgr
                try have hr6 := hr6.st (St.ext hb) hgr
                try have hq6 := hq6.st (St.ext hb) hgr
                have hRP := hRP.st (St.ext hb) hgr
                have hsub := fun k hk => hup k (hsub k hk)
                refine hK.out _ _ hE ?_
                clear hK K
                try simp only [Act.put, List.setIfInBounds_toArray, List.set_cons_zero, List.set_cons_succ]
                refine wpAnyE_two (i := 4) (j := 10) (by kernel_rfl) (by simp only [List.getElem?_toArray, List.getElem?_cons_succ, List.getElem?_cons_zero]; rfl) (by simp only [List.getElem?_toArray, List.getElem?_cons_succ, List.getElem?_cons_zero]; rfl) (fun K hK => ?_) (fun K hK => ?_)
                ·
                  go_simp
                  refine (HRPut.out _ _ _ hRP hp5 hX hk5).mono ?_
                  rintro e w6 ⟨r6, q6, rfl, hr6, hk6, hq6, hb⟩
                  have hE := hb.mono hn0
                  have hC := hC.trans hE
                  have hn0 := Nat.le_trans hn0 hb.size
                  have hX := fun k hk => Nat.lt_of_lt_of_le (hX k hk) hb.size
                  have hRP := hRP.below hb
                  try have hz9 := hz9.below hb
                  try have hz10 := hz10.below hb
                  refine hK.out _ _ hE ?_
                  clear hK K
                  try simp only [Act.put, List.setIfInBounds_toArray, List.set_cons_zero, List.set_cons_succ]
                  (refine takeE (belowTr W0.heap.size) 5 (by simp only [List.getElem?_toArray, List.getElem?_cons_succ, List.getElem?_cons_zero]; rfl) (by kernel_rfl) (by kernel_rfl) (by kernel_rfl) (by exact fun _ _ _ h => h) (by first | (refine Or.inl ⟨by rfl, ?_⟩; intro W hW; go_simp; try with_reducible rfl) | exact Or.inr ⟨by rfl, rfl⟩) ?_; try simp only [Act.put, List.setIfInBounds_toArray, List.set_cons_zero, List.set_cons_succ])
                  (refine takeE (belowTr W0.heap.size) 6 (by simp only [List.getElem?_toArray, List.getElem?_cons_succ, List.getElem?_cons_zero]; rfl) (by kernel_rfl) (by kernel_rfl) (by kernel_rfl) (by exact fun _ _ _ h => h) (by first | (refine Or.inl ⟨by rfl, ?_⟩; intro W hW; go_simp; try with_reducible rfl) | exact Or.inr ⟨by rfl, rfl⟩) ?_; try simp only [Act.put, List.setIfInBounds_toArray, List.set_cons_zero, List.set_cons_succ])
                  (refine takeE (belowTr W0.heap.size) 7 (by simp only [List.getElem?_toArray, List.getElem?_cons_succ, List.getElem?_cons_zero]; rfl) (by kernel_rfl) (by kernel_rfl) (by kernel_rfl) (by exact fun _ _ _ h => h) (by first | (refine Or.inl ⟨by rfl, ?_⟩; intro W hW; go_simp; try with_reducible rfl) | exact Or.inr ⟨by rfl, rfl⟩) ?_; try simp only [Act.put, List.setIfInBounds_toArray, List.set_cons_zero, List.set_cons_succ])
                  (refine takeE (belowTr W0.heap.size) 8 (by simp only [List.getElem?_toArray, List.getElem?_cons_succ, List.getElem?_cons_zero]; rfl) (by kernel_rfl) (by kernel_rfl) (by kernel_rfl) (by exact fun _ _ _ h => h) (by first | (refine Or.inl ⟨by rfl, ?_⟩; intro W hW; go_simp; try with_reducible rfl) | exact Or.inr ⟨by rfl, rfl⟩) ?_; try simp only [Act.put, List.setIfInBounds_toArray, List.set_cons_zero, List.set_cons_succ])
                  refine wpAnyE_one (i := 10) (by kernel_rfl) (by simp only [List.getElem?_toArray, List.getElem?_cons_succ, List.getElem?_cons_zero]; rfl) (fun K hK => ?_)
                  go_simp
                  have hg10 := hn0
                  try have hne := Nat.ne_of_gt hz9.lt
                  obtain ⟨hz10, hx10, hC, hE, hb, hX, hn0, hgr, hoff, hup⟩ := al_new hC hn0 hX hwW hoff 37 [.int .i64 0, .int .i64 0, .int .i64 0, .int .i64 0, .int .i64 0, .int .i64 0, .int .i64 0, .int .i64 0, .slice none 0 0]
                  try have hz9 := hz9.below hb
                  try have hx9 := hup _ hx9
                  try have hp5 := hp5.st (St.ext hb) hgr
                  try have hr6 := hr6.st (St.ext hb) hgr
                  try have hq6 := hq6.st (St.ext hb) hgr
                  have hRP := hRP.st (St.ext hb) hgr
                  have hsub := fun k hk => hup k (hsub k hk)
                  refine hK.out _ _ hE ?_
                  clear hK K
                  try simp only [Act.put, List.setIfInBounds_toArray, List.set_cons_zero, List.set_cons_succ]
                  refine wpAnyE_one (i := 11) (by kernel_rfl) (by simp only [List.getElem?_toArray, List.getElem?_cons_succ, List.getElem?_cons_zero]; rfl) (fun K hK => ?_)
                  refine opwp_put_rp rowR rfl (.tmp 23) (.tmp 89) rfl _ (by first | rfl | (simp only [World.size_alloc]; done) | (simp only [World.size_alloc]; rfl)) hz9 rfl r6 m' rfl ?_
                  rintro w7 hz9 hw
                  have hs := wr_st hw hx9
                  have hz10 := hz10.wr hw hne
                  have hE := hw.below hg9 hn0
                  have hC := hC.trans hE
                  have hn0 := Nat.le_trans hn0 hE.size
                  have hr6 := hr6.st hs (Gr.refl _ _)
                  have hq6 := hq6.st hs (Gr.refl _ _)
                  refine hK.out _ _ hE ?_
                  clear hK K
                  try simp only [Act.put, List.setIfInBounds_toArray, List.set_cons_zero, List.set_cons_succ]
                  (refine takeE (belowTr W0.heap.size) 12 (by simp only [List.getElem?_toArray, List.getElem?_cons_succ, List.getElem?_cons_zero]; rfl) (by kernel_rfl) (by kernel_rfl) (by kernel_rfl) (by exact fun _ _ _ h => h) (by first | (refine Or.inl ⟨by rfl, ?_⟩; intro W hW; go_simp; try with_reducible rfl) | exact Or.inr ⟨by rfl, rfl⟩) ?_; try simp only [Act.put, List.setIfInBounds_toArray, List.set_cons_zero, List.set_cons_succ])
                  refine wpAnyE_one (i := 13) (by kernel_rfl) (by simp only [List.getElem?_toArray, List.getElem?_cons_succ, List.getElem?_cons_zero]; rfl) (fun K hK => ?_)
                  refine opwp_put_pk rowP rfl (.tmp 25) (.tmp 91) rfl _ (by first | rfl | (simp only [World.size_alloc]; done) | (simp only [World.size_alloc]; rfl)) hz10 rfl q6 rfl ?_
                  rintro w8 hz10 hw
                  have hs := wr_st hw hx10
                  have hz9 := hz9.wr hw (Ne.symm hne)
                  have hE := hw.below hg10 hn0
                  have hC := hC.trans hE
                  have hr6 := hr6.st hs (Gr.refl _ _)
                  have hq6 := hq6.st hs (Gr.refl _ _)
                  refine hK.out _ _ hE ?_
                  clear hK K
                  try simp only [Act.put, List.setIfInBounds_toArray, List.set_cons_zero, List.set_cons_succ]
                  refine wpAnyE_done (by kernel_rfl) ?_ _
                  go_wp2_with fail
                  go_meet
                  exact ⟨_, _, r6, q6, by first | rfl | (simp only [World.size_alloc]; done) | (simp only [World.size_alloc]; rfl), rfl, by first | rfl | (simp only [World.size_alloc]; done) | (simp only [World.size_alloc]; rfl), hz9, hz10, hr6.mono hsub, hk6, hq6.mono hsub, hg10, hC⟩
                ·
                  go_simp
                  have hg10 := hn0
                  try have hne := Nat.ne_of_gt hz9.lt
                  obtain ⟨hz10, hx10, hC, hE, hb, hX, hn0, hgr, hoff, hup⟩ := al_new hC hn0 hX hwW hoff 37 [.int .i64 0, .int .i64 0, .int .i64 0, .int .i64 0, .int .i64 0, .int .i64 0, .int .i64 0, .int .i64 0, .slice none 0 0]
                  try have hz9 := hz9.below hb
                  try have hx9 := hup _ hx9
                  try have hp5 := hp5.st (St.ext hb) hgr
                  try have hr6 := hr6.st (St.ext hb) hgr
                  try have hq6 := hq6.st (St.ext hb) hgr
                  have hRP := hRP.st (St.ext hb) hgr
                  have hsub := fun k hk => hup k (hsub k hk)
                  refine hK.out _ _ hE ?_
                  clear hK K
                  try simp only [Act.put, List.setIfInBounds_toArray, List.set_cons_zero, List.set_cons_succ]
                  refine wpAnyE_one (i := 4) (by kernel_rfl) (by simp only [List.getElem?_toArray, List.getElem?_cons_succ, List.getElem?_cons_zero]; rfl) (fun K hK => ?_)
                  go_simp
                  refine (HRPut.out _ _ _ hRP hp5 hX hk5).mono ?_
                  rintro e w6 ⟨r6, q6, rfl, hr6, hk6, hq6, hb⟩
                  have hE := hb.mono hn0
                  have hC := hC.trans hE
                  have hn0 := Nat.le_trans hn0 hb.size
                  have hX := fun k hk => Nat.lt_of_lt_of_le (hX k hk) hb.size
                  have hRP := hRP.below hb
                  try have hz9 := hz9.below hb
                  try have hz10 := hz10.below hb
                  refine hK.out _ _ hE ?_
                  clear hK K
                  try simp only [Act.put, List.setIfInBounds_toArray, List.set_cons_zero, List.set_cons_succ]
                  (refine takeE (belowTr W0.heap.size) 5 (by simp only [List.getElem?_toArray, List.getElem?_cons_succ, List.getElem?_cons_zero]; rfl) (by kernel_rfl) (by kernel_rfl) (by kernel_rfl) (by exact fun _ _ _ h => h) (by first | (refine Or.inl ⟨by rfl, ?_⟩; intro W hW; go_simp; try with_reducible rfl) | exact Or.inr ⟨by rfl, rfl⟩) ?_; try simp only [Act.put, List.setIfInBounds_toArray, List.set_cons_zero, List.set_cons_succ])
                  (refine takeE (belowTr W0.heap.size) 6 (by simp only [List.getElem?_toArray, List.getElem?_cons_succ, List.getElem?_cons_zero]; rfl) (by kernel_rfl) (by kernel_rfl) (by kernel_rfl) (by exact fun _ _ _ h => h) (by first | (refine Or.inl ⟨by rfl, ?_⟩; intro W hW; go_simp; try with_reducible rfl) | exact Or.inr ⟨by rfl, rfl⟩) ?_; try simp only [Act.put, List.setIfInBounds_toArray, List.set_cons_zero, List.set_cons_succ])
                  (refine takeE (belowTr W0.heap.size) 7 (by simp only [List.getElem?_toArray, List.getElem?_cons_succ, List.getElem?_cons_zero]; rfl) (by kernel_rfl) (by kernel_rfl) (by kernel_rfl) (by exact fun _ _ _ h => h) (by first | (refine Or.inl ⟨by rfl, ?_⟩; intro W hW; go_simp; try with_reducible rfl) | exact Or.inr ⟨by rfl, rfl⟩) ?_; try simp only [Act.put, List.setIfInBounds_toArray, List.set_cons_zero, List.set_cons_succ])
                  (refine takeE (belowTr W0.heap.size) 8 (by simp only [List.getElem?_toArray, List.getElem?_cons_succ, List.getElem?_cons_zero]; rfl) (by kernel_rfl) (by kernel_rfl) (by kernel_rfl) (by exact fun _ _ _ h => h) (by first | (refine Or.inl ⟨by rfl, ?_⟩; intro W hW; go_simp; try with_reducible rfl) | exact Or.inr ⟨by rfl, rfl⟩) ?_; try simp only [Act.put, List.setIfInBounds_toArray, List.set_cons_zero, List.set_cons_succ])
                  refine wpAnyE_one (i := 11) (by kernel_rfl) (by simp only [List.getElem?_toArray, List.getElem?_cons_succ, List.getElem?_cons_zero]; rfl) (fun K hK => ?_)
                  refine opwp_put_rp rowR rfl (.tmp 23) (.tmp 89) rfl _ (by first | rfl | (simp only [World.size_alloc]; done) | (simp only [World.size_alloc]; rfl)) hz9 rfl r6 m' rfl ?_
                  rintro w7 hz9 hw
                  have hs := wr_st hw hx9
                  have hz10 := hz10.wr hw hne
                  have hE := hw.below hg9 hn0
                  have hC := hC.trans hE
                  have hn0 := Nat.le_trans hn0 hE.size
                  have hr6 := hr6.st hs (Gr.refl _ _)
                  have hq6 := hq6.st hs (Gr.refl _ _)
                  refine hK.out _ _ hE ?_
                  clear hK K
                  try simp only [Act.put, List.setIfInBounds_toArray, List.set_cons_zero, List.set_cons_succ]
                  (refine takeE (belowTr W0.heap.size) 12 (by simp only [List.getElem?_toArray, List.getElem?_cons_succ, List.getElem?_cons_zero]; rfl) (by kernel_rfl) (by kernel_rfl) (by kernel_rfl) (by exact fun _ _ _ h => h) (by first | (refine Or.inl ⟨by rfl, ?_⟩; intro W hW; go_simp; try with_reducible rfl) | exact Or.inr ⟨by rfl, rfl⟩) ?_; try simp only [Act.put, List.setIfInBounds_toArray, List.set_cons_zero, List.set_cons_succ])
                  refine wpAnyE_one (i := 13) (by kernel_rfl) (by simp only [List.getElem?_toArray, List.getElem?_cons_succ, List.getElem?_cons_zero]; rfl) (fun K hK => ?_)
                  refine opwp_put_pk rowP rfl (.tmp 25) (.tmp 91) rfl _ (by first | rfl | (simp only [World.size_alloc]; done) | (simp only [World.size_alloc]; rfl)) hz10 rfl q6 rfl ?_
                  rintro w8 hz10 hw
                  have hs := wr_st hw hx10
                  have hz9 := hz9.wr hw (Ne.symm hne)
                  have hE := hw.below hg10 hn0
                  have hC := hC.trans hE
                  have hr6 := hr6.st hs (Gr.refl _ _)
                  have hq6 := hq6.st hs (Gr.refl _ _)
                  refine hK.out _ _ hE ?_
                  clear hK K
                  try simp only [Act.put, List.setIfInBounds_toArray, List.set_cons_zero, List.set_cons_succ]
                  refine wpAnyE_done (by kernel_rfl) ?_ _
                  go_wp2_with fail
                  go_meet
                  exact ⟨_, _, r6, q6, by first | rfl | (simp only [World.size_alloc]; done) | (simp only [World.size_alloc]; rfl), rfl, by first | rfl | (simp only [World.size_alloc]; done) | (simp only [World.size_alloc]; rfl), hz9, hz10, hr6.mono hsub, hk6, hq6.mono hsub, hg10, hC⟩
              ·
                go_simp
                have hg10 := hn0
                try have hne := Nat.ne_of_gt hz9.lt
                obtain ⟨hz10, hx10, hC, hE, hb, hX, hn0, hgr, hoff, hup⟩ := al_new hC hn0 hX hwW hoff 37 [.int .i64 0, .int .i64 0, .int .i64 0, .int .i64 0, .int .i64 0, .int .i64 0, .int .i64 0, .int .i64 0, .slice none 0 0]
                try have hz9 := hz9.below hb
                try have hx9 := hup _ hx9
                try have hp5 := hp5.st (St.ext hb) hgr
                try have hr6 := hr6.st (St.ext hb) hgr
                try have hq6 := hq6.st (St.ext hb) hgr
                have hRP := hRP.st (St.ext hb) hgr
                have hsub := fun k hk => hup k (hsub k hk)
                refine hK.out _ _ hE ?_
                clear hK K
                try simp only [Act.put, List.setIfInBounds_toArray, List.set_cons_zero, List.set_cons_succ]
                refine wpAnyE_two (i := 4) (j := 9) (by kernel_rfl) (by simp only [List.getElem?_toArray, List.getElem?_cons_succ, List.getElem?_cons_zero]; rfl) (by simp only [List.getElem?_toArray, List.getElem?_cons_succ, List.getElem?_cons_zero]; rfl) (fun K hK => ?_) (fun K hK => ?_)
                ·
                  go_simp
                  refine (HRPut.out _ _ _ hRP hp5 hX hk5).mono ?_
                  rintro e w6 ⟨r6, q6, rfl, hr6, hk6, hq6, hb⟩
                  have hE := hb.mono hn0
                  have hC := hC.trans hE
                  have hn0 := Nat.le_trans hn0 hb.size
                  have hX := fun k hk => Nat.lt_of_lt_of_le (hX k hk) hb.size
                  have hRP := hRP.below hb
                  try have hz9 := hz9.below hb
                  try have hz10 := hz10.below hb
                  refine hK.out _ _ hE ?_
                  clear hK K
                  try simp only [Act.put, List.setIfInBounds_toArray, List.set_cons_zero, List.set_cons_succ]
                  (refine takeE (belowTr W0.heap.size) 5 (by simp only [List.getElem?_toArray, List.getElem?_cons_succ, List.getElem?_cons_zero]; rfl) (by kernel_rfl) (by kernel_rfl) (by kernel_rfl) (by exact fun _ _ _ h => h) (by first | (refine Or.inl ⟨by rfl, ?_⟩; intro W hW; go_simp; try with_reducible rfl) | exact Or.inr ⟨by rfl, rfl⟩) ?_; try simp only [Act.put, List.setIfInBounds_toArray, List.set_cons_zero, List.set_cons_succ])
                  (refine takeE (belowTr W0.heap.size) 6 (by simp only [List.getElem?_toArray, List.getElem?_cons_succ, List.getElem?_cons_zero]; rfl) (by kernel_rfl) (by kernel_rfl) (by kernel_rfl) (by exact fun _ _ _ h => h) (by first | (refine Or.inl ⟨by rfl, ?_⟩; intro W hW; go_simp; try with_reducible rfl) | exact Or.inr ⟨by rfl, rfl⟩) ?_; try simp only [Act.put, List.setIfInBounds_toArray, List.set_cons_zero, List.set_cons_succ])
                  (refine takeE (belowTr W0.heap.size) 7 (by simp only [List.getElem?_toArray, List.getElem?_cons_succ, List.getElem?_cons_zero]; rfl) (by kernel_rfl) (by kernel_rfl) (by kernel_rfl) (by exact fun _ _ _ h => h) (by first | (refine Or.inl ⟨by rfl, ?_⟩; intro W hW; go_simp; try with_reducible rfl) | exact Or.inr ⟨by rfl, rfl⟩) ?_; try simp only [Act.put, List.setIfInBounds_toArray, List.set_cons_zero, List.set_cons_succ])
                  (refine takeE (belowTr W0.heap.size) 8 (by simp only [List.getElem?_toArray, List.getElem?_cons_succ, List.getElem?_cons_zero]; rfl) (by kernel_rfl) (by kernel_rfl) (by kernel_rfl) (by exact fun _ _ _ h => h) (by first | (refine Or.inl ⟨by rfl, ?_⟩; intro W hW; go_simp; try with_reducible rfl) | exact Or.inr ⟨by rfl, rfl⟩) ?_; try simp only [Act.put, List.setIfInBounds_toArray, List.set_cons_zero, List.set_cons_succ])
                  refine wpAnyE_one (i := 9) (by kernel_rfl) (by simp only [List.getElem?_toArray, List.getElem?_cons_succ, List.getElem?_cons_zero]; rfl) (fun K hK => ?_)
                  go_simp
                  have hg9 := hn0
                  try have hne := Nat.ne_of_lt hz10.lt
                  obtain ⟨hz9, hx9, hC, hE, hb, hX, hn0, hgr, hoff, hup⟩ := al_new hC hn0 hX hwW hoff 30 [.slice none 0 0, .slice none 0 0, .int .i64 0, .int .i64 0, .int .i64 0, .int .i64 0, .int .i64 0, .int .i64 0, .int .i64 0, .int .i64 0, .int .i64 0]
                  try have hz10 := hz10.below hb
                  try have hx10 := hup _ hx10
                  try have hp5 := hp5.st (St.ext hb) hgr
                  try have hr6 := hr6.st (St.ext hb) hgr
                  try have hq6 := hq6.st (St.ext hb) hgr
                  have hRP := hRP.st (St.ext hb) hgr
                  have hsub := fun k hk => hup k (hsub k hk)
                  refine hK.out _ _ hE ?_
                  clear hK K
                  try simp only [Act.put, List.setIfInBounds_toArray, List.set_cons_zero, List.set_cons_succ]
                  refine wpAnyE_one (i := 11) (by kernel_rfl) (by simp only [List.getElem?_toArray, List.getElem?_cons_succ, List.getElem?_cons_zero]; rfl) (fun K hK => ?_)
                  refine opwp_put_rp rowR rfl (.tmp 23) (.tmp 89) rfl _ (by first | rfl | (simp only [World.size_alloc]; done) | (simp only [World.size_alloc]; rfl)) hz9 rfl r6 m' rfl ?_
                  rintro w7 hz9 hw
                  have hs := wr_st hw hx9
                  have hz10 := hz10.wr hw hne
                  have hE := hw.below hg9 hn0
                  have hC := hC.trans hE
                  have hn0 := Nat.le_trans hn0 hE.size
                  have hr6 := hr6.st hs (Gr.refl _ _)
                  have hq6 := hq6.st hs (Gr.refl _ _)
                  refine hK.out _ _ hE ?_
                  clear hK K
                  try simp only [Act.put, List.setIfInBounds_toArray, List.set_cons_zero, List.set_cons_succ]
                  (refine takeE (belowTr W0.heap.size) 12 (by simp only [List.getElem?_toArray, List.getElem?_cons_succ, List.getElem?_cons_zero]; rfl) (by kernel_rfl) (by kernel_rfl) (by kernel_rfl) (by exact fun _ _ _ h => h) (by first | (refine Or.inl ⟨by rfl, ?_⟩; intro W hW; go_simp; try with_reducible rfl) | exact Or.inr ⟨by rfl, rfl⟩) ?_; try simp only [Act.put, List.setIfInBounds_toArray, List.set_cons_zero, List.set_cons_succ])
                  refine wpAnyE_one (i := 13) (by kernel_rfl) (by simp only [List.getElem?_toArray, List.getElem?_cons_succ, List.getElem?_cons_zero]; rfl) (fun K hK => ?_)
                  refine opwp_put_pk rowP rfl (.tmp 25) (.tmp 91) rfl _ (by first | rfl | (simp only [World.size_alloc]; done) | (simp only [World.size_alloc]; rfl)) hz10 rfl q6 rfl ?_
                  rintro w8 hz10 hw
                  have hs := wr_st hw hx10
                  have hz9 := hz9.wr hw (Ne.symm hne)
                  have hE := hw.below hg10 hn0
                  have hC := hC.trans hE
                  have hr6 := hr6.st hs (Gr.refl _ _)
                  have hq6 := hq6.st hs (Gr.refl _ _)
                  refine hK.out _ _ hE ?_
                  clear hK K
                  try simp only [Act.put, List.setIfInBounds_toArray, List.set_cons_zero, List.set_cons_succ]
                  refine wpAnyE_done (by kernel_rfl) ?_ _
                  go_wp2_with fail
                  go_meet
                  exact ⟨_, _, r6, q6, by first | rfl | (simp only [World.size_alloc]; done) | (simp only [World.size_alloc]; rfl), rfl, by first | rfl | (simp only [World.size_alloc]; done) | (simp only [World.size_alloc]; rfl), hz9, hz10, hr6.mono hsub, hk6, hq6.mono hsub, hg10, hC⟩
                ·
                  go_simp
                  have hg9 := hn0
                  try have hne := Nat.ne_of_lt hz10.lt
                  obtain ⟨hz9, hx9, hC, hE, hb, hX, hn0, hgr, hoff, hup⟩ := al_new hC hn0 hX hwW hoff 30 [.slice none 0 0, .slice none 0 0, .int .i64 0, .int .i64 0, .int .i64 0, .int .i64 0, .int .i64 0, .int .i64 0, .int .i64 0, .int .i64 0, .int .i64 0]
                  try have hz10 := hz10.below hb
                  try have hx10 := hup _ hx10
                  try have hp5 := hp5.st (St.ext hb) hgr
                  try have hr6 := hr6.st (St.ext hb) hgr
                  try have hq6 := hq6.st (St.ext hb) hgr
                  have hRP := hRP.st (St.ext hb) hgr
                  have hsub := fun k hk => hup k (hsub k hk)
                  refine hK.out _ _ hE ?_
                  clear hK K
                  try simp only [Act.put, List.setIfInBounds_toArray, List.set_cons_zero, List.set_cons_succ]
                  refine wpAnyE_one (i := 4) (by kernel_rfl) (by simp only [List.getElem?_toArray, List.getElem?_cons_succ, List.getElem?_cons_zero]; rfl) (fun K hK => ?_)
                  go_simp
                  refine (HRPut.out _ _ _ hRP hp5 hX hk5).mono ?_
                  rintro e w6 ⟨r6, q6, rfl, hr6, hk6, hq6, hb⟩
                  have hE := hb.mono hn0
                  have hC := hC.trans hE
                  have hn0 := Nat.le_trans hn0 hb.size
                  have hX := fun k hk => Nat.lt_of_lt_of_le (hX k hk) hb.size
                  have hRP := hRP.below hb
                  try have hz9 := hz9.below hb
                  try have hz10 := hz10.below hb
                  refine hK.out _ _ hE ?_
                  clear hK K
                  try simp only [Act.put, List.setIfInBounds_toArray, List.set_cons_zero, List.set_cons_succ]
                  (refine takeE (belowTr W0.heap.size) 5 (by simp only [List.getElem?_toArray, List.getElem?_cons_succ, List.getElem?_cons_zero]; rfl) (by kernel_rfl) (by kernel_rfl) (by kernel_rfl) (by exact fun _ _ _ h => h) (by first | (refine Or.inl ⟨by rfl, ?_⟩; intro W hW; go_simp; try with_reducible rfl) | exact Or.inr ⟨by rfl, rfl⟩) ?_; try simp only [Act.put, List.setIfInBounds_toArray, List.set_cons_zero, List.set_cons_succ])
                  (refine takeE (belowTr W0.heap.size) 6 (by simp only [List.getElem?_toArray, List.getElem?_cons_succ, List.getElem?_cons_zero]; rfl) (by kernel_rfl) (by kernel_rfl) (by kernel_rfl) (by exact fun _ _ _ h => h) (by first | (refine Or.inl ⟨by rfl, ?_⟩; intro W hW; go_simp; try with_reducible rfl) | exact Or.inr ⟨by rfl, rfl⟩) ?_; try simp only [Act.put, List.setIfInBounds_toArray, List.set_cons_zero, List.set_cons_succ])
                  (refine takeE (belowTr W0.heap.size) 7 (by simp only [List.getElem?_toArray, List.getElem?_cons_succ, List.getElem?_cons_zero]; rfl) (by kernel_rfl) (by kernel_rfl) (by kernel_rfl) (by exact fun _ _ _ h => h) (by first | (refine Or.inl ⟨by rfl, ?_⟩; intro W hW; go_simp; try with_reducible rfl) | exact Or.inr ⟨by rfl, rfl⟩) ?_; try simp only [Act.put, List.setIfInBounds_toArray, List.set_cons_zero, List.set_cons_succ])
                  (refine takeE (belowTr W0.heap.size) 8 (by simp only [List.getElem?_toArray, List.getElem?_cons_succ, List.getElem?_cons_zero]; rfl) (by kernel_rfl) (by kernel_rfl) (by kernel_rfl) (by exact fun _ _ _ h => h) (by first | (refine Or.inl ⟨by rfl, ?_⟩; intro W hW; go_simp; try with_reducible rfl) | exact Or.inr ⟨by rfl, rfl⟩) ?_; try simp only [Act.put, List.setIfInBounds_toArray, List.set_cons_zero, List.set_cons_succ])
                  refine wpAnyE_one (i := 11) (by kernel_rfl) (by simp only [List.getElem?_toArray, List.getElem?_cons_succ, List.getElem?_cons_zero]; rfl) (fun K hK => ?_)
                  refine opwp_put_rp rowR rfl (.tmp 23) (.tmp 89) rfl _ (by first | rfl | (simp only [World.size_alloc]; done) | (simp only [World.size_alloc]; rfl)) hz9 rfl r6 m' rfl ?_
                  rintro w7 hz9 hw
                  have hs := wr_st hw hx9
                  have hz10 := hz10.wr hw hne
                  have hE := hw.below hg9 hn0
                  have hC := hC.trans hE
                  have hn0 := Nat.le_trans hn0 hE.size
                  have hr6 := hr6.st hs (Gr.refl _ _)
                  have hq6 := hq6.st hs (Gr.refl _ _)
                  refine hK.out _ _ hE ?_
                  clear hK K
                  try simp only [Act.put, List.setIfInBounds_toArray, List.set_cons_zero, List.set_cons_succ]
                  (refine takeE (belowTr W0.heap.size) 12 (by simp only [List.getElem?_toArray, List.getElem?_cons_succ, List.getElem?_cons_zero]; rfl) (by kernel_rfl) (by kernel_rfl) (by kernel_rfl) (by exact fun _ _ _ h => h) (by first | (refine Or.inl ⟨by rfl, ?_⟩; intro W hW; go_simp; try with_reducible rfl) | exact Or.inr ⟨by rfl, rfl⟩) ?_; try simp only [Act.put, List.setIfInBounds_toArray, List.set_cons_zero, List.set_cons_succ])
                  refine wpAnyE_one (i := 13) (by kernel_rfl) (by simp only [List.getElem?_toArray, List.getElem?_cons_succ, List.getElem?_cons_zero]; rfl) (fun K hK => ?_)
                  refine opwp_put_pk rowP rfl (.tmp 25) (.tmp 91) rfl _ (by first | rfl | (simp only [World.size_alloc]; done) | (simp only [World.size_alloc]; rfl)) hz10 rfl q6 rfl ?_
                  rintro w8 hz10 hw
                  have hs := wr_st hw hx10
                  have hz9 := hz9.wr hw (Ne.symm hne)
                  have hE := hw.below hg10 hn0
                  have hC := hC.trans hE
                  have hr6 := hr6.st hs (Gr.refl _ _)
                  have hq6 := hq6.st hs (Gr.refl _ _)
                  refine hK.out _ _ hE ?_
                  clear hK K
                  try simp only [Act.put, List.setIfInBounds_toArray, List.set_cons_zero, List.set_cons_succ]
                  refine wpAnyE_done (by kernel_rfl) ?_ _
                  go_wp2_with fail
                  go_meet
                  exact ⟨_, _, r6, q6, by first | rfl | (simp only [World.size_alloc]; done) | (simp only [World.size_alloc]; rfl), rfl, by first | rfl | (simp only [World.size_alloc]; done) | (simp only [World.size_alloc]; rfl), hz9, hz10, hr6.mono hsub, hk6, hq6.mono hsub, hg10, hC⟩
            ·
              go_simp
              have hg9 := hn0
              try have hne := Nat.ne_of_lt hz10.lt
              obtain ⟨hz9, hx9, hC, hE, hb, hX, hn0, hgr, hoff, hup⟩ := al_new hC hn0 hX hwW hoff 30 [.slice none 0 0, .slice none 0 0, .int .i64 0, .int .i64 0, .int .i64 0, .int .i64 0, .int .i64 0, .int .i64 0, .int .i64 0, .int .i64 0, .int .i64 0]
              try have hz10 := hz10.below hb
              try have hx10 := hup _ hx10
              try have hp5 := hp5.st (St.ext hb) hgr
              try have hr6 := hr6.st (St.ext hb) hgr
              try have hq6 := hq6.st (St.ext hb) hgr
              have hRP := hRP.st (St.ext hb) hgr
              have hsub := fun k hk => hup k (hsub k hk)
              refine hK.out _ _ hE ?_
              clear hK K
              try simp only [Act.put, List.setIfInBounds_toArray, List.set_cons_zero, List.set_cons_succ]
              refine wpAnyE_two (i := 3) (j := 10) (by kernel_rfl) (by simp only [List.getElem?_toArray, List.getElem?_cons_succ, List.getElem?_cons_zero]; rfl) (by simp only [List.getElem?_toArray, List.getElem?_cons_succ, List.getElem?_cons_zero]; rfl) (fun K hK => ?_) (fun K hK => ?_)
              ·
                go_simp
                refine (p_light q _ (HRdW.out _ hC) HRD.out.2.1).mono ?_
                rintro e w5 ⟨q5, rfl, hk5, hp5, hb⟩
                have hp5 := hp5 _ (fun hn ad he => hoff _ (HRD.out.2.2 hn ad he))
                have hE := hb.mono hn0
                have hC := hC.trans hE
                have hn0 := Nat.le_trans hn0 hb.size
                have hX := fun k hk => Nat.lt_of_lt_of_le (hX k hk) hb.size
                have hRP := hRP.below hb
                try have hz9 := hz9.below hb
                try have hz10 := hz10.below hb
                refine hK.out _ _ hE ?_
                clear hK K
                try simp only [Act.put, List.setIfInBounds_toArray, List.set_cons_zero, List.set_cons_succ]
                refine wpAnyE_two (i := 4) (j := 10) (by kernel_rfl) (by simp only [List.getElem?_toArray, List.getElem?_cons_succ, List.getElem?_cons_zero]; rfl) (by simp only [List.getElem?_toArray, List.getElem?_cons_succ, List.getElem?_cons_zero]; rfl) (fun K hK => ?_) (fun K hK => ?_)
                ·
                  go_simp
                  refine (HRPut.out _ _ _ hRP hp5 hX hk5).mono ?_
                  rintro e w6 ⟨r6, q6, rfl, hr6, hk6, hq6, hb⟩
                  have hE := hb.mono hn0
                  have hC := hC.trans hE
                  have hn0 := Nat.le_trans hn0 hb.size
                  have hX := fun k hk => Nat.lt_of_lt_of_le (hX k hk) hb.size
                  have hRP := hRP.below hb
                  try have hz9 := hz9.below hb
                  try have hz10 := hz10.below hb
                  refine hK.out _ _ hE ?_
                  clear hK K
                  try simp only [Act.put, List.setIfInBounds_toArray, List.set_cons_zero, List.set_cons_succ]
                  (refine takeE (belowTr W0.heap.size) 5 (by simp only [List.getElem?_toArray, List.getElem?_cons_succ, List.getElem?_cons_zero]; rfl) (by kernel_rfl) (by kernel_rfl) (by kernel_rfl) (by exact fun _ _ _ h => h) (by first | (refine Or.inl ⟨by rfl, ?_⟩; intro W hW; go_simp; try with_reducible rfl) | exact Or.inr ⟨by rfl, rfl⟩) ?_; try simp only [Act.put, List.setIfInBounds_toArray, List.set_cons_zero, List.set_cons_succ])
                  (refine takeE (belowTr W0.heap.size) 6 (by simp only [List.getElem?_toArray, List.getElem?_cons_succ, List.getElem?_cons_zero]; rfl) (by kernel_rfl) (by kernel_rfl) (by kernel_rfl) (by exact fun _ _ _ h => h) (by first | (refine Or.inl ⟨by rfl, ?_⟩; intro W hW; go_simp; try with_reducible rfl) | exact Or.inr ⟨by rfl, rfl⟩) ?_; try simp only [Act.put, List.setIfInBounds_toArray, List.set_cons_zero, List.set_cons_succ])
                  (refine takeE (belowTr W0.heap.size) 7 (by simp only [List.getElem?_toArray, List.getElem?_cons_succ, List.getElem?_cons_zero]; rfl) (by kernel_rfl) (by kernel_rfl) (by kernel_rfl) (by exact fun _ _ _ h => h) (by first | (refine Or.inl ⟨by rfl, ?_⟩; intro W hW; go_simp; try with_reducible rfl) | exact Or.inr ⟨by rfl, rfl⟩) ?_; try simp only [Act.put, List.setIfInBounds_toArray, List.set_cons_zero, List.set_cons_succ])
                  (refine takeE (belowTr W0.heap.size) 8 (by simp only [List.getElem?_toArray, List.getElem?_cons_succ, List.getElem?_cons_zero]; rfl) (by kernel_rfl) (by kernel_rfl) (by kernel_rfl) (by exact fun _ _ _ h => h) (by first | (refine Or.inl ⟨by rfl, ?_⟩; intro W hW; go_simp; try with_reducible rfl) | exact Or.inr ⟨by rfl, rfl⟩) ?_; try simp only [Act.put, List.setIfInBounds_toArray, List.set_cons_zero, List.set_cons_succ])
                  refine wpAnyE_one (i := 10) (by kernel_rfl) (by simp only [List.getElem?_toArray, List.getElem?_cons_succ, List.getElem?_cons_zero]; rfl) (fun K hK => ?_)
                  go_simp
                  have hg10 := hn0
                  try have hne := Nat.ne_of_gt hz9.lt
                  obtain ⟨hz10, hx10, hC, hE, hb, hX, hn0, hgr, hoff, hup⟩ := al_new hC hn0 hX hwW hoff 37 [.int .i64 0, .int .i64 0, .int .i64 0, .int .i64 0, .int .i64 0, .int .i64 0, .int .i64 0, .int .i64 0, .slice none 0 0]
                  try have hz9 := hz9.below hb
                  try have hx9 := hup _ hx9
                  try have hp5 := hp5.st (St.ext hb) hgr
                  try have hr6 := hr6.st (St.ext hb) hgr
                  try have hq6 := hq6.st (St.ext hb) hgr
                  have hRP := hRP.st (St.ext hb) hgr
                  have hsub := fun k hk => hup k (hsub k hk)
                  refine hK.out _ _ hE ?_
                  clear hK K
                  try simp only [Act.put, List.setIfInBounds_toArray, List.set_cons_zero, List.set_cons_succ]
                  refine wpAnyE_one (i := 11) (by kernel_rfl) (by simp only [List.getElem?_toArray, List.getElem?_cons_succ, List.getElem?_cons_zero]; rfl) (fun K hK => ?_)
                  refine opwp_put_rp rowR rfl (.tmp 23) (.tmp 89) rfl _ (by first | rfl | (simp only [World.size_alloc]; done) | (simp only [World.size_alloc]; rfl)) hz9 rfl r6 m' rfl ?_
                  rintro w7 hz9 hw
                  have hs := wr_st hw hx9
                  have hz10 := hz10.wr hw hne
                  have hE := hw.below hg9 hn0
                  have hC := hC.trans hE
                  have hn0 := Nat.le_trans hn0 hE.size
                  have hr6 := hr6.st hs (Gr.refl _ _)
                  have hq6 := hq6.st hs (Gr.refl _ _)
                  refine hK.out _ _ hE ?_
                  clear hK K
                  try simp only [Act.put, List.setIfInBounds_toArray, List.set_cons_zero, List.set_cons_succ]
                  (refine takeE (belowTr W0.heap.size) 12 (by simp only [List.getElem?_toArray, List.getElem?_cons_succ, List.getElem?_cons_zero]; rfl) (by kernel_rfl) (by kernel_rfl) (by kernel_rfl) (by exact fun _ _ _ h => h) (by first | (refine Or.inl ⟨by rfl, ?_⟩; intro W hW; go_simp; try with_reducible rfl) | exact Or.inr ⟨by rfl, rfl⟩) ?_; try simp only [Act.put, List.setIfInBounds_toArray, List.set_cons_zero, List.set_cons_succ])
                  refine wpAnyE_one (i := 13) (by kernel_rfl) (by simp only [List.getElem?_toArray, List.getElem?_cons_succ, List.getElem?_cons_zero]; rfl) (fun K hK => ?_)
                  refine opwp_put_pk rowP rfl (.tmp 25) (.tmp 91) rfl _ (by first | rfl | (simp only [World.size_alloc]; done) | (simp only [World.size_alloc]; rfl)) hz10 rfl q6 rfl ?_
                  rintro w8 hz10 hw
                  have hs := wr_st hw hx10
                  have hz9 := hz9.wr hw (Ne.symm hne)
                  have hE := hw.below hg10 hn0
                  have hC := hC.trans hE
                  have hr6 := hr6.st hs (Gr.refl _ _)
                  have hq6 := hq6.st hs (Gr.refl _ _)
                  refine hK.out _ _ hE ?_
                  clear hK K
                  try simp only [Act.put, List.setIfInBounds_toArray, List.set_cons_zero, List.set_cons_succ]
                  refine wpAnyE_done (by kernel_rfl) ?_ _
                  go_wp2_with fail
                  go_meet
                  exact ⟨_, _, r6, q6, by first | rfl | (simp only [World.size_alloc]; done) | (simp only [World.size_alloc]; rfl), rfl, by first | rfl | (simp only [World.size_alloc]; done) | (simp only [World.size_alloc]; rfl), hz9, hz10, hr6.mono hsub, hk6, hq6.mono hsub, hg10, hC⟩
                ·
                  go_simp
                  have hg10 := hn0
                  try have hne := Nat.ne_of_gt hz9.lt
                  obtain ⟨hz10, hx10, hC, hE, hb, hX, hn0, hgr, hoff, hup⟩ := al_new hC hn0 hX hwW hoff 37 [.int .i64 0, .int .i64 0, .int .i64 0, .int .i64 0, .int .i64 0, .int .i64 0, .int .i64 0, .int .i64 0, .slice none 0 0]
                  try have hz9 := hz9.below hb
                  try have hx9 := hup _ hx9
                  try have hp5 := hp5.st (St.ext hb) hgr
                  try have hr6 := hr6.st (St.ext hb) hgr
                  try have hq6 := hq6.st (St.ext hb) hgr
                  have hRP := hRP.st (St.ext hb) hgr
                  have hsub := fun k hk => hup k (hsub k hk)
                  refine hK.out _ _ hE ?_
                  clear hK K
                  try simp only [Act.put, List.setIfInBounds_toArray, List.set_cons_zero, List.set_cons_succ]
                  refine wpAnyE_one (i := 4) (by kernel_rfl) (by simp only [List.getElem?_toArray, List.getElem?_cons_succ, List.getElem?_cons_zero]; rfl) (fun K hK => ?_)
                  go_simp
                  refine (HRPut.out _ _ _ hRP hp5 hX hk5).mono ?_
                  rintro e w6 ⟨r6, q6, rfl, hr6, hk6, hq6, hb⟩
                  have hE := hb.mono hn0
                  have hC := hC.trans hE
                  have hn0 := Nat.le_trans hn0 hb.size
                  have hX := fun k hk => Nat.lt_of_lt_of_le (hX k hk) hb.size
                  have hRP := hRP.below hb
                  try have hz9 := hz9.below hb
                  try have hz10 := hz10.below hb
                  refine hK.out _ _ hE ?_
                  clear hK K
                  try simp only [Act.put, List.setIfInBounds_toArray, List.set_cons_zero, List.set_cons_succ]
                  (refine takeE (belowTr W0.heap.size) 5 (by simp only [List.getElem?_toArray, List.getElem?_cons_succ, List.getElem?_cons_zero]; rfl) (by kernel_rfl) (by kernel_rfl) (by kernel_rfl) (by exact fun _ _ _ h => h) (by first | (refine Or.inl ⟨by rfl, ?_⟩; intro W hW; go_simp; try with_reducible rfl) | exact Or.inr ⟨by rfl, rfl⟩) ?_; try simp only [Act.put, List.setIfInBounds_toArray, List.set_cons_zero, List.set_cons_succ])
                  (refine takeE (belowTr W0.heap.size) 6 (by simp only [List.getElem?_toArray, List.getElem?_cons_succ, List.getElem?_cons_zero]; rfl) (by kernel_rfl) (by kernel_rfl) (by kernel_rfl) (by exact fun _ _ _ h => h) (by first | (refine Or.inl ⟨by rfl, ?_⟩; intro W hW; go_simp; try with_reducible rfl) | exact Or.inr ⟨by rfl, rfl⟩) ?_; try simp only [Act.put, List.setIfInBounds_toArray, List.set_cons_zero, List.set_cons_succ])
                  (refine takeE (belowTr W0.heap.size) 7 (by simp only [List.getElem?_toArray, List.getElem?_cons_succ, List.getElem?_cons_zero]; rfl) (by kernel_rfl) (by kernel_rfl) (by kernel_rfl) (by exact fun _ _ _ h => h) (by first | (refine Or.inl ⟨by rfl, ?_⟩; intro W hW; go_simp; try with_reducible rfl) | exact Or.inr ⟨by rfl, rfl⟩) ?_; try simp only [Act.put, List.setIfInBounds_toArray, List.set_cons_zero, List.set_cons_succ])
                  (refine takeE (belowTr W0.heap.size) 8 (by simp only [List.getElem?_toArray, List.getElem?_cons_succ, List.getElem?_cons_zero]; rfl) (by kernel_rfl) (by kernel_rfl) (by kernel_rfl) (by exact fun _ _ _ h => h) (by first | (refine Or.inl ⟨by rfl, ?_⟩; intro W hW; go_simp; try with_reducible rfl) | exact Or.inr ⟨by rfl, rfl⟩) ?_; try simp only [Act.put, List.setIfInBounds_toArray, List.set_cons_zero, List.set_cons_succ])
                  refine wpAnyE_one (i := 11) (by kernel_rfl) (by simp only [List.getElem?_toArray, List.getElem?_cons_succ, List.getElem?_cons_zero]; rfl) (fun K hK => ?_)
                  refine opwp_put_rp rowR rfl (.tmp 23) (.tmp 89) rfl _ (by first | rfl | (simp only [World.size_alloc]; done) | (simp only [World.size_alloc]; rfl)) hz9 rfl r6 m' rfl ?_
                  rintro w7 hz9 hw
                  have hs := wr_st hw hx9
                  have hz10 := hz10.wr hw hne
                  have hE := hw.below hg9 hn0
                  have hC := hC.trans hE
                  have hn0 := Nat.le_trans hn0 hE.size
                  have hr6 := hr6.st hs (Gr.refl _ _)
                  have hq6 := hq6.st hs (Gr.refl _ _)
                  refine hK.out _ _ hE ?_
                  clear hK K
                  try simp only [Act.put, List.setIfInBounds_toArray, List.set_cons_zero, List.set_cons_succ]
                  (refine takeE (belowTr W0.heap.size) 12 (by simp only [List.getElem?_toArray, List.getElem?_cons_succ, List.getElem?_cons_zero]; rfl) (by kernel_rfl) (by kernel_rfl) (by kernel_rfl) (by exact fun _ _ _ h => h) (by first | (refine Or.inl ⟨by rfl, ?_⟩; intro W hW; go_simp; try with_reducible rfl) | exact Or.inr ⟨by rfl, rfl⟩) ?_; try simp only [Act.put, List.setIfInBounds_toArray, List.set_cons_zero, List.set_cons_succ])
                  refine wpAnyE_one (i := 13) (by kernel_rfl) (by simp only [List.getElem?_toArray, List.getElem?_cons_succ, List.getElem?_cons_zero]; rfl) (fun K hK => ?_)
                  refine opwp_put_pk rowP rfl (.tmp 25) (.tmp 91) rfl _ (by first | rfl | (simp only [World.size_alloc]; done) | (simp only [World.size_alloc]; rfl)) hz10 rfl q6 rfl ?_
                  rintro w8 hz10 hw
                  have hs := wr_st hw hx10
                  have hz9 := hz9.wr hw (Ne.symm hne)
                  have hE := hw.below hg10 hn0
                  have hC := hC.trans hE
                  have hr6 := hr6.st hs (Gr.refl _ _)
                  have hq6 := hq6.st hs (Gr.refl _ _)
                  refine hK.out _ _ hE ?_
                  clear hK K
                  try simp only [Act.put, List.setIfInBounds_toArray, List.set_cons_zero, List.set_cons_succ]
                  refine wpAnyE_done (by kernel_rfl) ?_ _
                  go_wp2_with fail
                  go_meet
                  exact ⟨_, _, r6, q6, by first | rfl | (simp only [World.size_alloc]; done) | (simp only [World.size_alloc]; rfl), rfl, by first | rfl | (simp only [World.size_alloc]; done) | (simp only [World.size_alloc]; rfl), hz9, hz10, hr6.mono hsub, hk6, hq6.mono hsub, hg10, hC⟩
              ·
                go_simp
                have hg10 := hn0
                try have hne := Nat.ne_of_gt hz9.lt
                obtain ⟨hz10, hx10, hC, hE, hb, hX, hn0, hgr, hoff, hup⟩ := al_new hC hn0 hX hwW hoff 37 [.int .i64 0, .int .i64 0, .int .i64 0, .int .i64 0, .int .i64 0, .int .i64 0, .int .i64 0, .int .i64 0, .slice none 0 0]
                try have hz9 := hz9.below hb
                try have hx9 := hup _ hx9
                try have hp5 := hp5.st (St.ext hb) hgr
                try have hr6 := hr6.st (St.ext hb) hgr
                try have hq6 := hq6.st (St.ext hb) hgr
                have hRP := hRP.st (St.ext hb) hgr
                have hsub := fun k hk => hup k (hsub k hk)
                refine hK.out _ _ hE ?_
                clear hK K
                try simp only [Act.put, List.setIfInBounds_toArray, List.set_cons_zero, List.set_cons_succ]
                refine wpAnyE_one (i := 3) (by kernel_rfl) (by simp only [List.getElem?_toArray, List.getElem?_cons_succ, List.getElem?_cons_zero]; rfl) (fun K hK => ?_)
                go_simp
                refine (p_light q _ (HRdW.out _ hC) HRD.out.2.1).mono ?_
                rintro e w5 ⟨q5, rfl, hk5, hp5, hb⟩
                have hp5 := hp5 _ (fun hn ad he => hoff _ (HRD.out.2.2 hn ad he))
                have hE := hb.mono hn0
                have hC := hC.trans hE
                have hn0 := Nat.le_trans hn0 hb.size
                have hX := fun k hk => Nat.lt_of_lt_of_le (hX k hk) hb.size
                have hRP := hRP.below hb
                try have hz9 := hz9.below hb
                try have hz10 := hz10.below hb
                refine hK.out _ _ hE ?_
                clear hK K
                try simp only [Act.put, List.setIfInBounds_toArray, List.set_cons_zero, List.set_cons_succ]
                refine wpAnyE_one (i := 4) (by kernel_rfl) (by simp only [List.getElem?_toArray, List.getElem?_cons_succ, List.getElem?_cons_zero]; rfl) (fun K hK => ?_)
                go_simp
                refine (HRPut.out _ _ _ hRP hp5 hX hk5).mono ?_
                rintro e w6 ⟨r6, q6, rfl, hr6, hk6, hq6, hb⟩
                have hE := hb.mono hn0
                have hC := hC.trans hE
                have hn0 := Nat.le_trans hn0 hb.size
                have hX := fun k hk => Nat.lt_of_lt_of_le (hX k hk) hb.size
                have hRP := hRP.below hb
                try have hz9 := hz9.below hb
                try have hz10 := hz10.below hb
                refine hK.out _ _ hE ?_
                clear hK K
                try simp only [Act.put, List.setIfInBounds_toArray, List.set_cons_zero, List.set_cons_succ]
                (refine takeE (belowTr W0.heap.size) 5 (by simp only [List.getElem?_toArray, List.getElem?_cons_succ, List.getElem?_cons_zero]; rfl) (by kernel_rfl) (by kernel_rfl) (by kernel_rfl) (by exact fun _ _ _ h => h) (by first | (refine Or.inl ⟨by rfl, ?_⟩; intro W hW; go_simp; try with_reducible rfl) | exact Or.inr ⟨by rfl, rfl⟩) ?_; try simp only [Act.put, List.setIfInBounds_toArray, List.set_cons_zero, List.set_cons_succ])
                (refine takeE (belowTr W0.heap.size) 6 (by simp only [List.getElem?_toArray, List.getElem?_cons_succ, List.getElem?_cons_zero]; rfl) (by kernel_rfl) (by kernel_rfl) (by kernel_rfl) (by exact fun _ _ _ h => h) (by first | (refine Or.inl ⟨by rfl, ?_⟩; intro W hW; go_simp; try with_reducible rfl) | exact Or.inr ⟨by rfl, rfl⟩) ?_; try simp only [Act.put, List.setIfInBounds_toArray, List.set_cons_zero, List.set_cons_succ])
                (refine takeE (belowTr W0.heap.size) 7 (by simp only [List.getElem?_toArray, List.getElem?_cons_succ, List.getElem?_cons_zero]; rfl) (by kernel_rfl) (by kernel_rfl) (by kernel_rfl) (by exact fun _ _ _ h => h) (by first | (refine Or.inl ⟨by rfl, ?_⟩; intro W hW; go_simp; try with_reducible rfl) | exact Or.inr ⟨by rfl, rfl⟩) ?_; try simp only [Act.put, List.setIfInBounds_toArray, List.set_cons_zero, List.set_cons_succ])
                (refine takeE (belowTr W0.heap.size) 8 (by simp only [List.getElem?_toArray, List.getElem?_cons_succ, List.getElem?_cons_zero]; rfl) (by kernel_rfl) (by kernel_rfl) (by kernel_rfl) (by exact fun _ _ _ h => h) (by first | (refine Or.inl ⟨by rfl, ?_⟩; intro W hW; go_simp; try with_reducible rfl) | exact Or.inr ⟨by rfl, rfl⟩) ?_; try simp only [Act.put, List.setIfInBounds_toArray, List.set_cons_zero, List.set_cons_succ])
                refine wpAnyE_one (i := 11) (by kernel_rfl) (by simp only [List.getElem?_toArray, List.getElem?_cons_succ, List.getElem?_cons_zero]; rfl) (fun K hK => ?_)
                refine opwp_put_rp rowR rfl (.tmp 23) (.tmp 89) rfl _ (by first | rfl | (simp only [World.size_alloc]; done) | (simp only [World.size_alloc]; rfl)) hz9 rfl r6 m' rfl ?_
                rintro w7 hz9 hw
                have hs := wr_st hw hx9
                have hz10 := hz10.wr hw hne
                have hE := hw.below hg9 hn0
                have hC := hC.trans hE
                have hn0 := Nat.le_trans hn0 hE.size
                have hr6 := hr6.st hs (Gr.refl _ _)
                have hq6 := hq6.st hs (Gr.refl _ _)
                refine hK.out _ _ hE ?_
                clear hK K
                try simp only [Act.put, List.setIfInBounds_toArray, List.set_cons_zero, List.set_cons_succ]
                (refine takeE (belowTr W0.heap.size) 12 (by simp only [List.getElem?_toArray, List.getElem?_cons_succ, List.getElem?_cons_zero]; rfl) (by kernel_rfl) (by kernel_rfl) (by kernel_rfl) (by exact fun _ _ _ h => h) (by first | (refine Or.inl ⟨by rfl, ?_⟩; intro W hW; go_simp; try with_reducible rfl) | exact Or.inr ⟨by rfl, rfl⟩) ?_; try simp only [Act.put, List.setIfInBounds_toArray, List.set_cons_zero, List.set_cons_succ])
                refine wpAnyE_one (i := 13) (by kernel_rfl) (by simp only [List.getElem?_toArray, List.getElem?_cons_succ, List.getElem?_cons_zero]; rfl) (fun K hK => ?_)
                refine opwp_put_pk rowP rfl (.tmp 25) (.tmp 91) rfl _ (by first | rfl | (simp only [World.size_alloc]; done) | (simp only [World.size_alloc]; rfl)) hz10 rfl q6 rfl ?_
                rintro w8 hz10 hw
                have hs := wr_st hw hx10
                have hz9 := hz9.wr hw (Ne.symm hne)
                have hE := hw.below hg10 hn0
                have hC := hC.trans hE
                have hr6 := hr6.st hs (Gr.refl _ _)
                have hq6 := hq6.st hs (Gr.refl _ _)
                refine hK.out _ _ hE ?_
                clear hK K
                try simp only [Act.put, List.setIfInBounds_toArray, List.set_cons_zero, List.set_cons_succ]
                refine wpAnyE_done (by kernel_rfl) ?_ _
                go_wp2_with fail
                go_meet
                exact ⟨_, _, r6, q6, by first | rfl | (simp only [World.size_alloc]; done) | (simp only [World.size_alloc]; rfl), rfl, by first | rfl | (simp only [World.size_alloc]; done) | (simp only [World.size_alloc]; rfl), hz9, hz10, hr6.mono hsub, hk6, hq6.mono hsub, hg10, hC⟩
            ·
              go_simp
              have hg10 := hn0
              try have hne := Nat.ne_of_gt hz9.lt
              obtain ⟨hz10, hx10, hC, hE, hb, hX, hn0, hgr, hoff, hup⟩ := al_new hC hn0 hX hwW hoff 37 [.int .i64 0, .int .i64 0, .int .i64 0, .int .i64 0, .int .i64 0, .int .i64 0, .int .i64 0, .int .i64 0, .slice none 0 0]
              try have hz9 := hz9.below hb
              try have hx9 := hup _ hx9
              try have hp5 := hp5.st (St.ext hb) hgr
              try have hr6 := hr6.st (St.ext hb) hgr
              try have hq6 := hq6.st (St.ext hb) hgr
              have hRP := hRP.st (St.ext hb) hgr
              have hsub := fun k hk => hup k (hsub k hk)
              refine hK.out _ _ hE ?_
              clear hK K
              try simp only [Act.put, List.setIfInBounds_toArray, List.set_cons_zero, List.set_cons_succ]
              refine wpAnyE_two (i := 3) (j := 9) (by kernel_rfl) (by simp only [List.getElem?_toArray, List.getElem?_cons_succ, List.getElem?_cons_zero]; rfl) (by simp only [List.getElem?_toArray, List.getElem?_cons_succ, List.getElem?_cons_zero]; rfl) (fun K hK => ?_) (fun K hK => ?_)
              ·
                go_simp
                refine (p_light q _ (HRdW.out _ hC) HRD.out.2.1).mono ?_
                rintro e w5 ⟨q5, rfl, hk5, hp5, hb⟩
                have hp5 := hp5 _ (fun hn ad he => hoff _ (HRD.out.2.2 hn ad he))
                have hE := hb.mono hn0
                have hC := hC.trans hE
                have hn0 := Nat.le_trans hn0 hb.size
                have hX := fun k hk => Nat.lt_of_lt_of_le (hX k hk) hb.size
                have hRP := hRP.below hb
                try have hz9 := hz9.below hb
                try have hz10 := hz10.below hb
                refine hK.out _ _ hE ?_
                clear hK K
                try simp only [Act.put, List.setIfInBounds_toArray, List.set_cons_zero, List.set_cons_succ]
                refine wpAnyE_two (i := 4) (j := 9) (by kernel_rfl) (by simp only [List.getElem?_toArray, List.getElem?_cons_succ, List.getElem?_cons_zero]; rfl) (by simp only [List.getElem?_toArray, List.getElem?_cons_succ, List.getElem?_cons_zero]; rfl) (fun K hK => ?_) (fun K hK => ?_)
                ·
                  go_simp
                  refine (HRPut.out _ _ _ hRP hp5 hX hk5).mono ?_
                  rintro e w6 ⟨r6, q6, rfl, hr6, hk6, hq6, hb⟩
                  have hE := hb.mono hn0
                  have hC := hC.trans hE
                  have hn0 := Nat.le_trans hn0 hb.size
                  have hX := fun k hk => Nat.lt_of_lt_of_le (hX k hk) hb.size
                  have hRP := hRP.below hb
                  try have hz9 := hz9.below hb
                  try have hz10 := hz10.below hb
                  refine hK.out _ _ hE ?_
                  clear hK K
                  try simp only [Act.put, List.setIfInBounds_toArray, List.set_cons_zero, List.set_cons_succ]
                  (refine takeE (belowTr W0.heap.size) 5 (by simp only [List.getElem?_toArray, List.getElem?_cons_succ, List.getElem?_cons_zero]; rfl) (by kernel_rfl) (by kernel_rfl) (by kernel_rfl) (by exact fun _ _ _ h => h) (by first | (refine Or.inl ⟨by rfl, ?_⟩; intro W hW; go_simp; try with_reducible rfl) | exact Or.inr ⟨by rfl, rfl⟩) ?_; try simp only [Act.put, List.setIfInBounds_toArray, List.set_cons_zero, List.set_cons_succ])
                  (refine takeE (belowTr W0.heap.size) 6 (by simp only [List.getElem?_toArray, List.getElem?_cons_succ, List.getElem?_cons_zero]; rfl) (by kernel_rfl) (by kernel_rfl) (by kernel_rfl) (by exact fun _ _ _ h => h) (by first | (refine Or.inl ⟨by rfl, ?_⟩; intro W hW; go_simp; try with_reducible rfl) | exact Or.inr ⟨by rfl, rfl⟩) ?_; try simp only [Act.put, List.setIfInBounds_toArray, List.set_cons_zero, List.set_cons_succ])
                  (refine takeE (belowTr W0.heap.size) 7 (by simp only [List.getElem?_toArray, List.getElem?_cons_succ, List.getElem?_cons_zero]; rfl) (by kernel_rfl) (by kernel_rfl) (by kernel_rfl) (by exact fun _ _ _ h => h) (by first | (refine Or.inl ⟨by rfl, ?_⟩; intro W hW; go_simp; try with_reducible rfl) | exact Or.inr ⟨by rfl, rfl⟩) ?_; try simp only [Act.put, List.setIfInBounds_toArray, List.set_cons_zero, List.set_cons_succ])
                  (refine takeE (belowTr W0.heap.size) 8 (by simp only [List.getElem?_toArray, List.getElem?_cons_succ, List.getElem?_cons_zero]; rfl) (by kernel_rfl) (by kernel_rfl) (by kernel_rfl) (by exact fun _ _ _ h => h) (by first | (refine Or.inl ⟨by rfl, ?_⟩; intro W hW; go_simp; try with_reducible rfl) | exact Or.inr ⟨by rfl, rfl⟩) ?_; try simp only [Act.put, List.setIfInBounds_toArray, List.set_cons_zero, List.set_cons_succ])
                  refine wpAnyE_one (i := 9) (by kernel_rfl) (by simp only [List.getElem?_toArray, List.getElem?_cons_succ, List.getElem?_cons_zero]; rfl) (fun K hK => ?_)
                  go_simp
                  have hg9 := hn0
                  try have hne := Nat.ne_of_lt hz10.lt
                  obtain ⟨hz9, hx9, hC, hE, hb, hX, hn0, hgr, hoff, hup⟩ := al_new hC hn0 hX hwW hoff 30 [.slice none 0 0, .slice none 0 0, .int .i64 0, .int .i64 0, .int .i64 0, .int .i64 0, .int .i64 0, .int .i64 0, .int .i64 0, .int .i64 0, .int .i64 0]
                  try have hz10 := hz10.below hb
                  try have hx10 := hup _ hx10
                  try have hp5 := hp5.st (St.ext hb) hgr
                  try have hr6 := hr6.st (St.ext hb) hgr
                  try have hq6 := hq6.st (St.ext hb) hgr
                  have hRP := hRP.st (St.ext hb) hgr
                  have hsub := fun k hk => hup k (hsub k hk)
                  refine hK.out _ _ hE ?_
                  clear hK K
                  try simp only [Act.put, List.setIfInBounds_toArray, List.set_cons_zero, List.set_cons_succ]
                  refine wpAnyE_one (i := 11) (by kernel_rfl) (by simp only [List.getElem?_toArray, List.getElem?_cons_succ, List.getElem?_cons_zero]; rfl) (fun K hK => ?_)
                  refine opwp_put_rp rowR rfl (.tmp 23) (.tmp 89) rfl _ (by first | rfl | (simp only [World.size_alloc]; done) | (simp only [World.size_alloc]; rfl)) hz9 rfl r6 m' rfl ?_
                  rintro w7 hz9 hw
                  have hs := wr_st hw hx9
                  have hz10 := hz10.wr hw hne
                  have hE := hw.below hg9 hn0
                  have hC := hC.trans hE
                  have hn0 := Nat.le_trans hn0 hE.size
                  have hr6 := hr6.st hs (Gr.refl _ _)
                  have hq6 := hq6.st hs (Gr.refl _ _)
                  refine hK.out _ _ hE ?_
                  clear hK K
                  try simp only [Act.put, List.setIfInBounds_toArray, List.set_cons_zero, List.set_cons_succ]
                  (refine takeE (belowTr W0.heap.size) 12 (by simp only [List.getElem?_toArray, List.getElem?_cons_succ, List.getElem?_cons_zero]; rfl) (by kernel_rfl) (by kernel_rfl) (by kernel_rfl) (by exact fun _ _ _ h => h) (by first | (refine Or.inl ⟨by rfl, ?_⟩; intro W hW; go_simp; try with_reducible rfl) | exact Or.inr ⟨by rfl, rfl⟩) ?_; try simp only [Act.put, List.setIfInBounds_toArray, List.set_cons_zero, List.set_cons_succ])
                  refine wpAnyE_one (i := 13) (by kernel_rfl) (by simp only [List.getElem?_toArray, List.getElem?_cons_succ, List.getElem?_cons_zero]; rfl) (fun K hK => ?_)
                  refine opwp_put_pk rowP rfl (.tmp 25) (.tmp 91) rfl _ (by first | rfl | (simp only [World.size_alloc]; done) | (simp only [World.size_alloc]; rfl)) hz10 rfl q6 rfl ?_
                  rintro w8 hz10 hw
                  have hs := wr_st hw hx10
                  have hz9 := hz9.wr hw (Ne.symm hne)
                  have hE := hw.below hg10 hn0
                  have hC := hC.trans hE
                  have hr6 := hr6.st hs (Gr.refl _ _)
                  have hq6 := hq6.st hs (Gr.refl _ _)
                  refine hK.out _ _ hE ?_
                  clear hK K
                  try simp only [Act.put, List.setIfInBounds_toArray, List.set_cons_zero, List.set_cons_succ]
                  refine wpAnyE_done (by kernel_rfl) ?_ _
                  go_wp2_with fail
                  go_meet
                  exact ⟨_, _, r6, q6, by first | rfl | (simp only [World.size_alloc]; done) | (simp only [World.size_alloc]; rfl), rfl, by first | rfl | (simp only [World.size_alloc]; done) | (simp only [World.size_alloc]; rfl), hz9, hz10, hr6.mono hsub, hk6, hq6.mono hsub, hg10, hC⟩
                ·
                  go_simp
                  have hg9 := hn0
                  try have hne := Nat.ne_of_lt hz10.lt
                  obtain ⟨hz9, hx9, hC, hE, hb, hX, hn0, hgr, hoff, hup⟩ := al_new hC hn0 hX hwW hoff 30 [.slice none 0 0, .slice none 0 0, .int .i64 0, .int .i64 0, .int .i64 0, .int .i64 0, .int .i64 0, .int .i64 0, .int .i64 0, .int .i64 0, .int .i64 0]
                  try have hz10 := hz10.below hb
                  try have hx10 := hup _ hx10
                  try have hp5 := hp5.st (St.ext hb) hgr
                  try have hr6 := hr6.st (St.ext hb) hgr
                  try have hq6 := hq6.st (St.ext hb) hgr
                  have hRP := hRP.st (St.ext hb) hgr
                  have hsub := fun k hk => hup k (hsub k hk)
                  refine hK.out _ _ hE ?_
                  clear hK K
                  try simp only [Act.put, List.setIfInBounds_toArray, List.set_cons_zero, List.set_cons_succ]
                  refine wpAnyE_one (i := 4) (by kernel_rfl) (by simp only [List.getElem?_toArray, List.getElem?_cons_succ, List.getElem?_cons_zero]; rfl) (fun K hK => ?_)
                  go_simp
                  refine (HRPut.out _ _ _ hRP hp5 hX hk5).mono ?_
                  rintro e w6 ⟨r6, q6, rfl, hr6, hk6, hq6, hb⟩
                  have hE := hb.mono hn0
                  have hC := hC.trans hE
                  have hn0 := Nat.le_trans hn0 hb.size
                  have hX := fun k hk => Nat.lt_of_lt_of_le (hX k hk) hb.size
                  have hRP := hRP.below hb
                  try have hz9 := hz9.below hb
                  try have hz10 := hz10.below hb
                  refine hK.out _ _ hE ?_
                  clear hK K
                  try simp only [Act.put, List.setIfInBounds_toArray, List.set_cons_zero, List.set_cons_succ]
                  (refine takeE (belowTr W0.heap.size) 5 (by simp only [List.getElem?_toArray, List.getElem?_cons_succ, List.getElem?_cons_zero]; rfl) (by kernel_rfl) (by kernel_rfl) (by kernel_rfl) (by exact fun _ _ _ h => h) (by first | (refine Or.inl ⟨by rfl, ?_⟩; intro W hW; go_simp; try with_reducible rfl) | exact Or.inr ⟨by rfl, rfl⟩) ?_; try simp only [Act.put, List.setIfInBounds_toArray, List.set_cons_zero, List.set_cons_succ])
                  (refine takeE (belowTr W0.heap.size) 6 (by simp only [List.getElem?_toArray, List.getElem?_cons_succ, List.getElem?_cons_zero]; rfl) (by kernel_rfl) (by kernel_rfl) (by kernel_rfl) (by exact fun _ _ _ h => h) (by first | (refine Or.inl ⟨by rfl, ?_⟩; intro W hW; go_simp; try with_reducible rfl) | exact Or.inr ⟨by rfl, rfl⟩) ?_; try simp only [Act.put, List.setIfInBounds_toArray, List.set_cons_zero, List.set_cons_succ])
                  (refine takeE (belowTr W0.heap.size) 7 (by simp only [List.getElem?_toArray, List.getElem?_cons_succ, List.getElem?_cons_zero]; rfl) (by kernel_rfl) (by kernel_rfl) (by kernel_rfl) (by exact fun _ _ _ h => h) (by first | (refine Or.inl ⟨by rfl, ?_⟩; intro W hW; go_simp; try with_reducible rfl) | exact Or.inr ⟨by rfl, rfl⟩) ?_; try simp only [Act.put, List.setIfInBounds_toArray, List.set_cons_zero, List.set_cons_succ])
                  (refine takeE (belowTr W0.heap.size) 8 (by simp only [List.getElem?_toArray, List.getElem?_cons_succ, List.getElem?_cons_zero]; rfl) (by kernel_rfl) (by kernel_rfl) (by kernel_rfl) (by exact fun _ _ _ h => h) (by first | (refine Or.inl ⟨by rfl, ?_⟩; intro W hW; go_simp; try with_reducible rfl) | exact Or.inr ⟨by rfl, rfl⟩) ?_; try simp only [Act.put, List.setIfInBounds_toArray, List.set_cons_zero, List.set_cons_succ])
                  refine wpAnyE_one (i := 11) (by kernel_rfl) (by simp only [List.getElem?_toArray, List.getElem?_cons_succ, List.getElem?_cons_zero]; rfl) (fun K hK => ?_)
                  refine opwp_put_rp rowR rfl (.tmp 23) (.tmp 89) rfl _ (by first | rfl | (simp only [World.size_alloc]; done) | (simp only [World.size_alloc]; rfl)) hz9 rfl r6 m' rfl ?_
                  rintro w7 hz9 hw
                  have hs := wr_st hw hx9
                  have hz10 := hz10.wr hw hne
                  have hE := hw.below hg9 hn0
                  have hC := hC.trans hE
                  have hn0 := Nat.le_trans hn0 hE.size
                  have hr6 := hr6.st hs (Gr.refl _ _)
                  have hq6 := hq6.st hs (Gr.refl _ _)
                  refine hK.out _ _ hE ?_
                  clear hK K
                  try simp only [Act.put, List.setIfInBounds_toArray, List.set_cons_zero, List.set_cons_succ]
                  (refine takeE (belowTr W0.heap.size) 12 (by simp only [List.getElem?_toArray, List.getElem?_cons_succ, List.getElem?_cons_zero]; rfl) (by kernel_rfl) (by kernel_rfl) (by kernel_rfl) (by exact fun _ _ _ h => h) (by first | (refine Or.inl ⟨by rfl, ?_⟩; intro W hW; go_simp; try with_reducible rfl) | exact Or.inr ⟨by rfl, rfl⟩) ?_; try simp only [Act.put, List.setIfInBounds_toArray, List.set_cons_zero, List.set_cons_succ])
                  refine wpAnyE_one (i := 13) (by kernel_rfl) (by simp only [List.getElem?_toArray, List.getElem?_cons_succ, List.getElem?_cons_zero]; rfl) (fun K hK => ?_)
                  refine opwp_put_pk rowP rfl (.tmp 25) (.tmp 91) rfl _ (by first | rfl | (simp only [World.size_alloc]; done) | (simp only [World.size_alloc]; rfl)) hz10 rfl q6 rfl ?_
                  rintro w8 hz10 hw
                  have hs := wr_st hw hx10
                  have hz9 := hz9.wr hw (Ne.symm hne)
                  have hE := hw.below hg10 hn0
                  have hC := hC.trans hE
                  have hr6 := hr6.st hs (Gr.refl _ _)
                  have hq6 := hq6.st hs (Gr.refl _ _)
                  refine hK.out _ _ hE ?_
                  clear hK K
                  try simp only [Act.put, List.setIfInBounds_toArray, List.set_cons_zero, List.set_cons_succ]
                  refine wpAnyE_done (by kernel_rfl) ?_ _
                  go_wp2_with fail
                  go_meet
                  exact ⟨_, _, r6, q6, by first | rfl | (simp only [World.size_alloc]; done) | (simp only [World.size_alloc]; rfl), rfl, by first | rfl | (simp only [World.size_alloc]; done) | (simp only [World.size_alloc]; rfl), hz9, hz10, hr6.mono hsub, hk6, hq6.mono hsub, hg10, hC⟩
              ·
                go_simp
                have hg9 := hn0
                try have hne := Nat.ne_of_lt hz10.lt
                obtain ⟨hz9, hx9, hC, hE, hb, hX, hn0, hgr, hoff, hup⟩ := al_new hC hn0 hX hwW hoff 30 [.slice none 0 0, .slice none 0 0, .int .i64 0, .int .i64 0, .int .i64 0, .int .i64 0, .int .i64 0, .int .i64 0, .int .i64 0, .int .i64 0, .int .i64 0]
                try have hz10 := hz10.below hb
                try have hx10 := hup _ hx10
                try have hp5 := hp5.st (St.ext hb) hgr
                try have hr6 := hr6.st (St.ext hb) hgr
                try have hq6 := hq6.st (St.ext hb) hgr
                have hRP := hRP.st (St.ext hb) hgr
                have hsub := fun k hk => hup k (hsub k hk)
                refine hK.out _ _ hE ?_
                clear hK K
                try simp only [Act.put, List.setIfInBounds_toArray, List.set_cons_zero, List.set_cons_succ]
                refine wpAnyE_one (i := 3) (by kernel_rfl) (by simp only [List.getElem?_toArray, List.getElem?_cons_succ, List.getElem?_cons_zero]; rfl) (fun K hK => ?_)
                go_simp
                refine (p_light q _ (HRdW.out _ hC) HRD.out.2.1).mono ?_
                rintro e w5 ⟨q5, rfl, hk5, hp5, hb⟩
                have hp5 := hp5 _ (fun hn ad he => hoff _ (HRD.out.2.2 hn ad he))
                have hE := hb.mono hn0
                have hC := hC.trans hE
                have hn0 := Nat.le_trans hn0 hb.size
                have hX := fun k hk => Nat.lt_of_lt_of_le (hX k hk) hb.size
                have hRP := hRP.below hb
                try have hz9 := hz9.below hb
                try have hz10 := hz10.below hb
                refine hK.out _ _ hE ?_
                clear hK K
                try simp only [Act.put, List.setIfInBounds_toArray, List.set_cons_zero, List.set_cons_succ]
                refine wpAnyE_one (i := 4) (by kernel_rfl) (by simp only [List.getElem?_toArray, List.getElem?_cons_succ, List.getElem?_cons_zero]; rfl) (fun K hK => ?_)
                go_simp
                refine (HRPut.out _ _ _ hRP hp5 hX hk5).mono ?_
                rintro e w6 ⟨r6, q6, rfl, hr6, hk6, hq6, hb⟩
                have hE := hb.mono hn0
                have hC := hC.trans hE
                have hn0 := Nat.le_trans hn0 hb.size
                have hX := fun k hk => Nat.lt_of_lt_of_le (hX k hk) hb.size
                have hRP := hRP.below hb
                try have hz9 := hz9.below hb
                try have hz10 := hz10.below hb
                refine hK.out _ _ hE ?_
                clear hK K
                try simp only [Act.put, List.setIfInBounds_toArray, List.set_cons_zero, List.set_cons_succ]
                (refine takeE (belowTr W0.heap.size) 5 (by simp only [List.getElem?_toArray, List.getElem?_cons_succ, List.getElem?_cons_zero]; rfl) (by kernel_rfl) (by kernel_rfl) (by kernel_rfl) (by exact fun _ _ _ h => h) (by first | (refine Or.inl ⟨by rfl, ?_⟩; intro W hW; go_simp; try with_reducible rfl) | exact Or.inr ⟨by rfl, rfl⟩) ?_; try simp only [Act.put, List.setIfInBounds_toArray, List.set_cons_zero, List.set_cons_succ])
                (refine takeE (belowTr W0.heap.size) 6 (by simp only [List.getElem?_toArray, List.getElem?_cons_succ, List.getElem?_cons_zero]; rfl) (by kernel_rfl) (by kernel_rfl) (by kernel_rfl) (by exact fun _ _ _ h => h) (by first | (refine Or.inl ⟨by rfl, ?_⟩; intro W hW; go_simp; try with_reducible rfl) | exact Or.inr ⟨by rfl, rfl⟩) ?_; try simp only [Act.put, List.setIfInBounds_toArray, List.set_cons_zero, List.set_cons_succ])
                (refine takeE (belowTr W0.heap.size) 7 (by simp only [List.getElem?_toArray, List.getElem?_cons_succ, List.getElem?_cons_zero]; rfl) (by kernel_rfl) (by kernel_rfl) (by kernel_rfl) (by exact fun _ _ _ h => h) (by first | (refine Or.inl ⟨by rfl, ?_⟩; intro W hW; go_simp; try with_reducible rfl) | exact Or.inr ⟨by rfl, rfl⟩) ?_; try simp only [Act.put, List.setIfInBounds_toArray, List.set_cons_zero, List.set_cons_succ])
                (refine takeE (belowTr W0.heap.size) 8 (by simp only [List.getElem?_toArray, List.getElem?_cons_succ, List.getElem?_cons_zero]; rfl) (by kernel_rfl) (by kernel_rfl) (by kernel_rfl) (by exact fun _ _ _ h => h) (by first | (refine Or.inl ⟨by rfl, ?_⟩; intro W hW; go_simp; try with_reducible rfl) | exact Or.inr ⟨by rfl, rfl⟩) ?_; try simp only [Act.put, List.setIfInBounds_toArray, List.set_cons_zero, List.set_cons_succ])
                refine wpAnyE_one (i := 11) (by kernel_rfl) (by simp only [List.getElem?_toArray, List.getElem?_cons_succ, List.getElem?_cons_zero]; rfl) (fun K hK => ?_)
                refine opwp_put_rp rowR rfl (.tmp 23) (.tmp 89) rfl _ (by first | rfl | (simp only [World.size_alloc]; done) | (simp only [World.size_alloc]; rfl)) hz9 rfl r6 m' rfl ?_
                rintro w7 hz9 hw
                have hs := wr_st hw hx9
                have hz10 := hz10.wr hw hne
                have hE := hw.below hg9 hn0
                have hC := hC.trans hE
                have hn0 := Nat.le_trans hn0 hE.size
                have hr6 := hr6.st hs (Gr.refl _ _)
                have hq6 := hq6.st hs (Gr.refl _ _)
                refine hK.out _ _ hE ?_
                clear hK K
                try simp only [Act.put, List.setIfInBounds_toArray, List.set_cons_zero, List.set_cons_succ]
                (refine takeE (belowTr W0.heap.size) 12 (by simp only [List.getElem?_toArray, List.getElem?_cons_succ, List.getElem?_cons_zero]; rfl) (by kernel_rfl) (by kernel_rfl) (by kernel_rfl) (by exact fun _ _ _ h => h) (by first | (refine Or.inl ⟨by rfl, ?_⟩; intro W hW; go_simp; try with_reducible rfl) | exact Or.inr ⟨by rfl, rfl⟩) ?_; try simp only [Act.put, List.setIfInBounds_toArray, List.set_cons_zero, List.set_cons_succ])
                refine wpAnyE_one (i := 13) (by kernel_rfl) (by simp only [List.getElem?_toArray, List.getElem?_cons_succ, List.getElem?_cons_zero]; rfl) (fun K hK => ?_)
                refine opwp_put_pk rowP rfl (.tmp 25) (.tmp 91) rfl _ (by first | rfl | (simp only [World.size_alloc]; done) | (simp only [World.size_alloc]; rfl)) hz10 rfl q6 rfl ?_
                rintro w8 hz10 hw
                have hs := wr_st hw hx10
                have hz9 := hz9.wr hw (Ne.symm hne)
                have hE := hw.below hg10 hn0
                have hC := hC.trans hE
                have hr6 := hr6.st hs (Gr.refl _ _)
                have hq6 := hq6.st hs (Gr.refl _ _)
                refine hK.out _ _ hE ?_
                clear hK K
                try simp only [Act.put, List.setIfInBounds_toArray, List.set_cons_zero, List.set_cons_succ]
                refine wpAnyE_done (by kernel_rfl) ?_ _
                go_wp2_with fail
                go_meet
                exact ⟨_, _, r6, q6, by first | rfl | (simp only [World.size_alloc]; done) | (simp only [World.size_alloc]; rfl), rfl, by first | rfl | (simp only [World.size_alloc]; done) | (simp only [World.size_alloc]; rfl), hz9, hz10, hr6.mono hsub, hk6, hq6.mono hsub, hg10, hC⟩
          case rest =>
            obtain ⟨g9, g10, r6, q6, rfl, rfl, rfl, hz9, hz10, hr6, hk6, hq6, hg10, hC⟩ := hcut
            have HQ5 := Lib.hid (HQ.out.below hC)
            have hz4 := HB4.out.below hC
            have hr4 := HR4.out.below hC
            have hgb : gb ≠ g10 := by have := HQ.out.bx.lt; omega
            have HSB : Hid (q4.pk.sameB q6.pk = true) := Lib.hid (by rw [HK4.out, hk6]; exact Pk.same_refl _)
            have HR6 := Lib.hid hr6
            have HQ6 := Lib.hid hq6
            clear hC HQ hr6 hk6 hq6 HB4 HR4 HRdW HOW HRPut
            go_wp2_with (first
              | (with_reducible refine at_load 30 (.tmp 23) (by rfl) ?_; refine wpList_load_rp rowR rfl (.tmp 23) rfl r6 m' g9 rfl hz9 ?_)
              | (with_reducible refine at_store 30 (.tmp 11) (.tmp 92) (by rfl) ?_; refine wpList_put_rp rowR rfl (.tmp 11) (.tmp 92) rfl gb rfl HQ5.out.bx rfl r6 m' rfl ?_; rintro w9 hk9 hw9
                 have HJ9 := Lib.hid (HQ5.out.ref HR6.out hw9 hk9)
                 have hy4 := hz4.wr hw9 HN4.out
                 have hy10 := hz10.wr hw9 (Ne.symm hgb)
                 have HS4 := Lib.hid (hr4.st (wr_st (X := Fg F4 gb) hw9 (.inr rfl)) (Gr.refl _ _))
                 have HS6 := Lib.hid (HQ6.out.st (wr_st (X := Fg F4 gb) hw9 (.inr rfl)) (Gr.refl _ _))
                 clear hk9 hw9 hz9 hz4 hz10 hr4)
              | (with_reducible refine at_load 37 (.tmp 22) (by rfl) ?_; refine wpList_load_pk_g rowP (by kernel_rfl) (.tmp 22) rfl q4 g4 0 rfl (Bk.pk (q := q4) hy4) ?_)
              | (with_reducible refine at_load 37 (.tmp 25) (by rfl) ?_; refine wpList_load_pk_g rowP (by kernel_rfl) (.tmp 25) rfl q6 g10 0 rfl (Bk.pk (q := q6) hy10) ?_))
            refine (r_same HS4.out HS6.out).mono ?_
            rintro e w10 ⟨rfl, hb10⟩
            rw [HSB.out]
            have HJ10 := Lib.hid (HJ9.out.below hb10)
            clear hb10 HJ9 HS4 HS6 hy4 hy10 HQ5 HR6 HQ6 HSB HN4 HG0 HRD
            obtain ⟨pl9, ph9, Fl9, Fh9, ql9, qh9, hp9⟩ := HJ10.out.pb
            have HSm := Lib.hid (p_same hp9 HJ10.out.rp HJ10.out.bd (Nat.le_trans HM'.out.lo HLH.out.1) (Nat.le_trans HM'.out.hi HLH.out.2))
            have hl1 : (r6.n1 : Int) ≤ L := by have h1 := HM'.out.lo; have h2 := HJ10.out.rp.lo.len; omega
            have hl2 : (r6.n2 : Int) ≤ H := by have h1 := HM'.out.hi; have h2 := HJ10.out.rp.hi.len; omega
            clear hp9
            go_wp2_with (with_reducible refine at_load 30 (.tmp 11) (by rfl) ?_; refine wpList_load_rp rowR rfl (.tmp 11) rfl r6 m' gb rfl HJ10.out.bx ?_)
            refine HSm.out.mono ?_
            rintro e w11 ⟨rfl, hb11⟩
            have HJ11 := Lib.hid (HJ10.out.below hb11)
            have c0 := HJ11.out.bx.cell 0 rfl
            have c1 := HJ11.out.bx.cell 1 rfl
            clear hb11 HJ10 HSm
            go_wp2
            go_roundw
            case rel => exact ⟨k + 1, b, F4, m', r6, by omega, by omega, by go_num, rfl, HJ11.out, HM'.out⟩
            case measure => simp [intOf]; omega
        · obtain ⟨pl, ph, Fl, Fh, ql, qh, hp⟩ := HJ0.out.pb
          have HServe := Lib.hid (pt_serveR hp (HM.out.ok.ct (by omega)) f)
          have HRun : Hid (m.run ≤ 1024) := Lib.hid (Nat.le_trans hp.ru hp.w2)
          clear hp HJ
          go_wp2_with (with_reducible refine at_load 40 (.tmp 70) (by rfl) ?_; refine wpList_load_op rowO rfl (.tmp 70) rfl dv q f go (o + k * 11) rfl hra ?_)
          refine HServe.out.mono ?_
          rintro e w4 ⟨A4, n4, c4, qs4, rfl, hn4, hrd4, hk4, F4, Fl4, Fh4, ql4, qh4, hp4, hs4, hg4, hr4⟩
          have HQ4 := Lib.hid (HJ0.out.turn hp4 hs4 hg4)
          have c10 := (HO.out.st hs4 (fun hF => HG0.out (.inl hF))).cell 10 rfl
          have HS4 := Lib.hid (sl_off hn4 hrd4 hk4 hr4 HQ4.out.bx)
          have HN4 : Hid (n4 ≤ 100000) := Lib.hid (by have := m.svL_len f; rw [← hk4, List.length_map, ← hn4] at this; omega)
          have HM' := Lib.hid ((HM.out.sv f).mono (show 2 * (k : Int) + 1 ≤ 2 * ((k + 1 : Nat) : Int) by omega))
          have HRS := Lib.hid (r_serveR HQ4.out.rp HQ4.out.bd (Nat.le_trans HM.out.lo HLH.out.1) (Nat.le_trans HM.out.hi HLH.out.2) (HM.out.ok.ct (by omega)) HRun.out f)
          clear hp4 hs4 hg4 hr4 hk4 hrd4 hn4 HServe HJ0 HO HRD hra HG0
          generalize wr.heap.size = g0 at *
          generalize m.svM f = m' at *
          generalize m.svL f = ks at *
          generalize m.svE f = er at *
          go_wp2_with (with_reducible refine at_load 30 (.tmp 11) (by rfl) ?_; refine wpList_load_rp rowR rfl (.tmp 11) rfl r m gb rfl HQ4.out.bx ?_)
          refine HRS.out.mono ?_
          rintro e w6 ⟨r6, A6, n6, c6, rfl, hr6, hsl6, hb6⟩
          have hba := (Below.refl w6.heap.size w6).alloc (Nat.le_refl _) (.cells (List.toArray [.slice r6.a1 r6.n1 r6.c1, .slice r6.a2 r6.n2 r6.c2, .int .i64 m'.lr, .int .i64 m'.hr, .int .i64 m'.wt, .int .i64 m'.run, .int .i64 (m'.ct 0), .int .i64 (m'.ct 1), .int .i64 (m'.ct 2), .int .i64 (m'.ct 3), .int .i64 (m'.ct 4)]) 30)
          have HQ6 := Lib.hid ((HQ4.out.below hb6).below hba)
          have HR6 := Lib.hid (hr6.below hba)
          have HS64 := Lib.hid ((HS4.out.below hb6).below hba)
          have HS66 := Lib.hid (hsl6.below hba)
          have HZ := Lib.hid (Bk.new w6 30 [.slice r6.a1 r6.n1 r6.c1, .slice r6.a2 r6.n2 r6.c2, .int .i64 m'.lr, .int .i64 m'.hr, .int .i64 m'.wt, .int .i64 m'.run, .int .i64 (m'.ct 0), .int .i64 (m'.ct 1), .int .i64 (m'.ct 2), .int .i64 (m'.ct 3), .int .i64 (m'.ct 4)])
          clear hr6 hsl6 hb6 hba HQ4 HS4 HRS c10
          go_wp2_with (first
            | (with_reducible refine at_load 30 (.tmp 17) (by rfl) ?_; refine wpList_load_rp rowR rfl (.tmp 17) rfl r6 m' w6.heap.size rfl HZ.out ?_)
            | (with_reducible refine at_store 30 (.tmp 11) (.tmp 121) (by rfl) ?_; refine wpList_put_rp rowR rfl (.tmp 11) (.tmp 121) rfl gb rfl HQ6.out.bx rfl r6 m' rfl ?_; rintro w9 hk9 hw9
               have HJ9 := Lib.hid (HQ6.out.ref HR6.out hw9 hk9)
               have HT4 := Lib.hid (HS64.out.st (wr_st (X := (· = gb)) hw9 rfl) (Gr.refl _ _))
               have HT6 := Lib.hid (HS66.out.st (wr_st (X := Fg F4 gb) hw9 (.inr rfl)) (Gr.refl _ _))
               clear hk9 hw9))
          refine (r_sameAll HT4.out HT6.out HN4.out).mono ?_
          rintro e w10 ⟨rfl, hb10⟩
          have HJ10 := Lib.hid (HJ9.out.below hb10)
          clear hb10 HJ9 HT4 HT6 HQ6 HR6 HS64 HS66 HZ
          obtain ⟨pl9, ph9, Fl9, Fh9, ql9, qh9, hp9⟩ := HJ10.out.pb
          have HSm := Lib.hid (p_same hp9 HJ10.out.rp HJ10.out.bd (Nat.le_trans HM'.out.lo HLH.out.1) (Nat.le_trans HM'.out.hi HLH.out.2))
          have hl1 : (r6.n1 : Int) ≤ L := by have h1 := HM'.out.lo; have h2 := HJ10.out.rp.lo.len; omega
          have hl2 : (r6.n2 : Int) ≤ H := by have h1 := HM'.out.hi; have h2 := HJ10.out.rp.hi.len; omega
          clear hp9
          go_wp2_with (with_reducible refine at_load 30 (.tmp 11) (by rfl) ?_; refine wpList_load_rp rowR rfl (.tmp 11) rfl r6 m' gb rfl HJ10.out.bx ?_)
          refine HSm.out.mono ?_
          rintro e w11 ⟨rfl, hb11⟩
          have HJ11 := Lib.hid (HJ10.out.below hb11)
          have c0 := HJ11.out.bx.cell 0 rfl
          have c1 := HJ11.out.bx.cell 1 rfl
          clear hb11 HJ10 HSm
          go_wp2
          go_roundw
          case rel => exact ⟨k + 1, b, F4, m', r6, by omega, by omega, by go_num, rfl, HJ11.out, HM'.out⟩
          case measure => simp [intOf]; omega
        · obtain ⟨pl, ph, Fl, Fh, ql, qh, hp⟩ := HJ0.out.pb
          have HServe := Lib.hid (pt_serveR hp (HM.out.ok.ct (by omega)) f)
          have HRun : Hid (m.run ≤ 1024) := Lib.hid (Nat.le_trans hp.ru hp.w2)
          clear hp HJ
          go_wp2_with (with_reducible refine at_load 40 (.tmp 70) (by rfl) ?_; refine wpList_load_op rowO rfl (.tmp 70) rfl dv q f go (o + k * 11) rfl hra ?_)
          refine HServe.out.mono ?_
          rintro e w4 ⟨A4, n4, c4, qs4, rfl, hn4, hrd4, hk4, F4, Fl4, Fh4, ql4, qh4, hp4, hs4, hg4, hr4⟩
          have HQ4 := Lib.hid (HJ0.out.turn hp4 hs4 hg4)
          have c10 := (HO.out.st hs4 (fun hF => HG0.out (.inl hF))).cell 10 rfl
          have HS4 := Lib.hid (sl_off hn4 hrd4 hk4 hr4 HQ4.out.bx)
          have HN4 : Hid (n4 ≤ 100000) := Lib.hid (by have := m.svL_len f; rw [← hk4, List.length_map, ← hn4] at this; omega)
          have HM' := Lib.hid ((HM.out.sv f).mono (show 2 * (k : Int) + 1 ≤ 2 * ((k + 1 : Nat) : Int) by omega))
          have HRS := Lib.hid (r_serveR HQ4.out.rp HQ4.out.bd (Nat.le_trans HM.out.lo HLH.out.1) (Nat.le_trans HM.out.hi HLH.out.2) (HM.out.ok.ct (by omega)) HRun.out f)
          clear hp4 hs4 hg4 hr4 hk4 hrd4 hn4 HServe HJ0 HO HRD hra HG0
          generalize wr.heap.size = g0 at *
          generalize m.svM f = m' at *
          generalize m.svL f = ks at *
          generalize m.svE f = er at *
          go_wp2_with (with_reducible refine at_load 30 (.tmp 11) (by rfl) ?_; refine wpList_load_rp rowR rfl (.tmp 11) rfl r m gb rfl HQ4.out.bx ?_)
          refine HRS.out.mono ?_
          rintro e w6 ⟨r6, A6, n6, c6, rfl, hr6, hsl6, hb6⟩
          have hba := (Below.refl w6.heap.size w6).alloc (Nat.le_refl _) (.cells (List.toArray [.slice r6.a1 r6.n1 r6.c1, .slice r6.a2 r6.n2 r6.c2, .int .i64 m'.lr, .int .i64 m'.hr, .int .i64 m'.wt, .int .i64 m'.run, .int .i64 (m'.ct 0), .int .i64 (m'.ct 1), .int .i64 (m'.ct 2), .int .i64 (m'.ct 3), .int .i64 (m'.ct 4)]) 30)
          have HQ6 := Lib.hid ((HQ4.out.below hb6).below hba)
          have HR6 := Lib.hid (hr6.below hba)
          have HS64 := Lib.hid ((HS4.out.below hb6).below hba)
          have HS66 := Lib.hid (hsl6.below hba)
          have HZ := Lib.hid (Bk.new w6 30 [.slice r6.a1 r6.n1 r6.c1, .slice r6.a2 r6.n2 r6.c2, .int .i64 m'.lr, .int .i64 m'.hr, .int .i64 m'.wt, .int .i64 m'.run, .int .i64 (m'.ct 0), .int .i64 (m'.ct 1), .int .i64 (m'.ct 2), .int .i64 (m'.ct 3), .int .i64 (m'.ct 4)])
          clear hr6 hsl6 hb6 hba HQ4 HS4 HRS c10
          go_wp2_with (first
            | (with_reducible refine at_load 30 (.tmp 17) (by rfl) ?_; refine wpList_load_rp rowR rfl (.tmp 17) rfl r6 m' w6.heap.size rfl HZ.out ?_)
            | (with_reducible refine at_store 30 (.tmp 11) (.tmp 121) (by rfl) ?_; refine wpList_put_rp rowR rfl (.tmp 11) (.tmp 121) rfl gb rfl HQ6.out.bx rfl r6 m' rfl ?_; rintro w9 hk9 hw9
               have HJ9 := Lib.hid (HQ6.out.ref HR6.out hw9 hk9)
               have HT4 := Lib.hid (HS64.out.st (wr_st (X := (· = gb)) hw9 rfl) (Gr.refl _ _))
               have HT6 := Lib.hid (HS66.out.st (wr_st (X := Fg F4 gb) hw9 (.inr rfl)) (Gr.refl _ _))
               clear hk9 hw9))
          refine (r_sameAll HT4.out HT6.out HN4.out).mono ?_
          rintro e w10 ⟨rfl, hb10⟩
          have HJ10 := Lib.hid (HJ9.out.below hb10)
          clear hb10 HJ9 HT4 HT6 HQ6 HR6 HS64 HS66 HZ
          obtain ⟨pl9, ph9, Fl9, Fh9, ql9, qh9, hp9⟩ := HJ10.out.pb
          have HSm := Lib.hid (p_same hp9 HJ10.out.rp HJ10.out.bd (Nat.le_trans HM'.out.lo HLH.out.1) (Nat.le_trans HM'.out.hi HLH.out.2))
          have hl1 : (r6.n1 : Int) ≤ L := by have h1 := HM'.out.lo; have h2 := HJ10.out.rp.lo.len; omega
          have hl2 : (r6.n2 : Int) ≤ H := by have h1 := HM'.out.hi; have h2 := HJ10.out.rp.hi.len; omega
          clear hp9
          go_wp2_with (with_reducible refine at_load 30 (.tmp 11) (by rfl) ?_; refine wpList_load_rp rowR rfl (.tmp 11) rfl r6 m' gb rfl HJ10.out.bx ?_)
          refine HSm.out.mono ?_
          rintro e w11 ⟨rfl, hb11⟩
          have HJ11 := Lib.hid (HJ10.out.below hb11)
          have c0 := HJ11.out.bx.cell 0 rfl
          have c1 := HJ11.out.bx.cell 1 rfl
          clear hb11 HJ10 HSm
          go_wp2
          go_roundw
          case rel => exact ⟨k + 1, b, F4, m', r6, by omega, by omega, by go_num, rfl, HJ11.out, HM'.out⟩
          case measure => simp [intOf]; omega
        · obtain ⟨pl, ph, Fl, Fh, ql, qh, hp⟩ := HJ0.out.pb
          have HServe := Lib.hid (pt_serveR hp (HM.out.ok.ct (by omega)) f)
          have HRun : Hid (m.run ≤ 1024) := Lib.hid (Nat.le_trans hp.ru hp.w2)
          clear hp HJ
          go_wp2_with (with_reducible refine at_load 40 (.tmp 70) (by rfl) ?_; refine wpList_load_op rowO rfl (.tmp 70) rfl dv q f go (o + k * 11) rfl hra ?_)
          refine HServe.out.mono ?_
          rintro e w4 ⟨A4, n4, c4, qs4, rfl, hn4, hrd4, hk4, F4, Fl4, Fh4, ql4, qh4, hp4, hs4, hg4, hr4⟩
          have HQ4 := Lib.hid (HJ0.out.turn hp4 hs4 hg4)
          have c10 := (HO.out.st hs4 (fun hF => HG0.out (.inl hF))).cell 10 rfl
          have HS4 := Lib.hid (sl_off hn4 hrd4 hk4 hr4 HQ4.out.bx)
          have HN4 : Hid (n4 ≤ 100000) := Lib.hid (by have := m.svL_len f; rw [← hk4, List.length_map, ← hn4] at this; omega)
          have HM' := Lib.hid ((HM.out.sv f).mono (show 2 * (k : Int) + 1 ≤ 2 * ((k + 1 : Nat) : Int) by omega))
          have HRS := Lib.hid (r_serveR HQ4.out.rp HQ4.out.bd (Nat.le_trans HM.out.lo HLH.out.1) (Nat.le_trans HM.out.hi HLH.out.2) (HM.out.ok.ct (by omega)) HRun.out f)
          clear hp4 hs4 hg4 hr4 hk4 hrd4 hn4 HServe HJ0 HO HRD hra HG0
          generalize wr.heap.size = g0 at *
          generalize m.svM f = m' at *
          generalize m.svL f = ks at *
          generalize m.svE f = er at *
          go_wp2_with (with_reducible refine at_load 30 (.tmp 11) (by rfl) ?_; refine wpList_load_rp rowR rfl (.tmp 11) rfl r m gb rfl HQ4.out.bx ?_)
          refine HRS.out.mono ?_
          rintro e w6 ⟨r6, A6, n6, c6, rfl, hr6, hsl6, hb6⟩
          have hba := (Below.refl w6.heap.size w6).alloc (Nat.le_refl _) (.cells (List.toArray [.slice r6.a1 r6.n1 r6.c1, .slice r6.a2 r6.n2 r6.c2, .int .i64 m'.lr, .int .i64 m'.hr, .int .i64 m'.wt, .int .i64 m'.run, .int .i64 (m'.ct 0), .int .i64 (m'.ct 1), .int .i64 (m'.ct 2), .int .i64 (m'.ct 3), .int .i64 (m'.ct 4)]) 30)
          have HQ6 := Lib.hid ((HQ4.out.below hb6).below hba)
          have HR6 := Lib.hid (hr6.below hba)
          have HS64 := Lib.hid ((HS4.out.below hb6).below hba)
          have HS66 := Lib.hid (hsl6.below hba)
          have HZ := Lib.hid (Bk.new w6 30 [.slice r6.a1 r6.n1 r6.c1, .slice r6.a2 r6.n2 r6.c2, .int .i64 m'.lr, .int .i64 m'.hr, .int .i64 m'.wt, .int .i64 m'.run, .int .i64 (m'.ct 0), .int .i64 (m'.ct 1), .int .i64 (m'.ct 2), .int .i64 (m'.ct 3), .int .i64 (m'.ct 4)])
          clear hr6 hsl6 hb6 hba HQ4 HS4 HRS c10
          go_wp2_with (first
            | (with_reducible refine at_load 30 (.tmp 17) (by rfl) ?_; refine wpList_load_rp rowR rfl (.tmp 17) rfl r6 m' w6.heap.size rfl HZ.out ?_)
            | (with_reducible refine at_store 30 (.tmp 11) (.tmp 121) (by rfl) ?_; refine wpList_put_rp rowR rfl (.tmp 11) (.tmp 121) rfl gb rfl HQ6.out.bx rfl r6 m' rfl ?_; rintro w9 hk9 hw9
               have HJ9 := Lib.hid (HQ6.out.ref HR6.out hw9 hk9)
               have HT4 := Lib.hid (HS64.out.st (wr_st (X := (· = gb)) hw9 rfl) (Gr.refl _ _))
               have HT6 := Lib.hid (HS66.out.st (wr_st (X := Fg F4 gb) hw9 (.inr rfl)) (Gr.refl _ _))
               clear hk9 hw9))
          refine (r_sameAll HT4.out HT6.out HN4.out).mono ?_
          rintro e w10 ⟨rfl, hb10⟩
          have HJ10 := Lib.hid (HJ9.out.below hb10)
          clear hb10 HJ9 HT4 HT6 HQ6 HR6 HS64 HS66 HZ
          obtain ⟨pl9, ph9, Fl9, Fh9, ql9, qh9, hp9⟩ := HJ10.out.pb
          have HSm := Lib.hid (p_same hp9 HJ10.out.rp HJ10.out.bd (Nat.le_trans HM'.out.lo HLH.out.1) (Nat.le_trans HM'.out.hi HLH.out.2))
          have hl1 : (r6.n1 : Int) ≤ L := by have h1 := HM'.out.lo; have h2 := HJ10.out.rp.lo.len; omega
          have hl2 : (r6.n2 : Int) ≤ H := by have h1 := HM'.out.hi; have h2 := HJ10.out.rp.hi.len; omega
          clear hp9
          go_wp2_with (with_reducible refine at_load 30 (.tmp 11) (by rfl) ?_; refine wpList_load_rp rowR rfl (.tmp 11) rfl r6 m' gb rfl HJ10.out.bx ?_)
          refine HSm.out.mono ?_
          rintro e w11 ⟨rfl, hb11⟩
          have HJ11 := Lib.hid (HJ10.out.below hb11)
          have c0 := HJ11.out.bx.cell 0 rfl
          have c1 := HJ11.out.bx.cell 1 rfl
          clear hb11 HJ10 HSm
          go_wp2
          go_roundw
          case rel => exact ⟨k + 1, b, F4, m', r6, by omega, by omega, by go_num, rfl, HJ11.out, HM'.out⟩
          case measure => simp [intOf]; omega
        · obtain ⟨pl, ph, Fl, Fh, ql, qh, hp⟩ := HJ0.out.pb
          have HFork := Lib.hid (pt_fork hp (Y := Fg F gb) HJ0.out.bd)
          have HP := Lib.hid hp
          clear hp HJ
          go_wp2_with (with_reducible refine at_load 40 (.tmp 70) (by rfl) ?_; refine wpList_load_op rowO rfl (.tmp 70) rfl dv q f go (o + k * 11) rfl hra ?_)
          refine HFork.out.mono ?_
          rintro e w4 ⟨b2, F2, pl2, ph2, Fl2, Fh2, ql2, qh2, rfl, hp2, hF2, hb2⟩
          have HP4 := Lib.hid (HP.out.below hb2)
          have H2 := Lib.hid (And.intro hp2 (And.intro hF2 hb2))
          clear hp2 hF2 hb2 HFork hra HRD HO HG0
          go_wp2_with fail
          refine (p_hv 5 _).mono ?_
          rintro e w5 ⟨q5, rfl, hk5, hr5, hb5⟩
          have HPut := Lib.hid (pt_put (HP4.out.below hb5) (hr5 F HP4.out.bd) (HM.out.ok.ct (by omega)))
          have HB5 := Lib.hid hb5
          clear hk5 hr5 hb5
          go_wp2_with fail
          refine HPut.out.mono ?_
          rintro e w6 ⟨q6, rfl, hk6, F6, Fl6, Fh6, ql6, qh6, hp6, hs6, hg6, hr6⟩
          have HS := Lib.hid (pt_serveR hp6 ((HM.out.nx q5.pk).ok.ct (by omega)) 2)
          have H6 := Lib.hid (And.intro hs6 hg6)
          clear hk6 hp6 hs6 hg6 hr6 HPut
          go_wp2_with fail
          refine HS.out.mono ?_
          rintro e w7 ⟨A7, n7, c7, qs7, rfl, hn7, hrd7, hk7, F7, Fl7, Fh7, ql7, qh7, hp7, hs7, hg7, hr7⟩
          have HJ10 := Lib.hid (HJ0.out.fork H2.out.1 H2.out.2.1 H2.out.2.2 ((St.ext HB5.out).trans (H6.out.1.trans hs7 H6.out.2) (Gr.refl _ _)))
          have HM' := Lib.hid (HM.out.mono (show 2 * (k : Int) ≤ 2 * ((k + 1 : Nat) : Int) by omega))
          clear hn7 hrd7 hk7 hp7 hs7 hg7 hr7 HS H6 HB5 H2 HP4 HP HJ0
          obtain ⟨pl9, ph9, Fl9, Fh9, ql9, qh9, hp9⟩ := HJ10.out.pb
          have HSm := Lib.hid (p_same hp9 HJ10.out.rp HJ10.out.bd (Nat.le_trans HM'.out.lo HLH.out.1) (Nat.le_trans HM'.out.hi HLH.out.2))
          have hl1 : (r.n1 : Int) ≤ L := by have h1 := HM'.out.lo; have h2 := HJ10.out.rp.lo.len; omega
          have hl2 : (r.n2 : Int) ≤ H := by have h1 := HM'.out.hi; have h2 := HJ10.out.rp.hi.len; omega
          clear hp9
          go_wp2_with (with_reducible refine at_load 30 (.tmp 11) (by rfl) ?_; refine wpList_load_rp rowR rfl (.tmp 11) rfl r m gb rfl HJ10.out.bx ?_)
          refine HSm.out.mono ?_
          rintro e w11 ⟨rfl, hb11⟩
          have HJ11 := Lib.hid (HJ10.out.below hb11)
          have c0 := HJ11.out.bx.cell 0 rfl
          have c1 := HJ11.out.bx.cell 1 rfl
          clear hb11 HJ10 HSm
          go_wp2
          go_roundw
          case rel => exact ⟨k + 1, b2, F2, m, r, by omega, by omega, by go_num, rfl, HJ11.out, HM'.out⟩
          case measure => simp [intOf]; omega
      · have hd : k < n0 ∧ (50 : Int) ≤ k ∨ n0 ≤ k := by omega
        have HB := Lib.hid hJ.bl
        clear hJ
        rcases hd with ⟨hlt, h50⟩ | hge
        · have hlt' : (k : Int) < n0 := by omega
          go_wp2
          go_ret
          exact ⟨rfl, HB.out⟩
        · obtain rfl : k = n0 := by omega
          go_wp2
          go_ret
          exact ⟨rfl, HB.out⟩
  · have hv' : fitB low = false ∨ fitB high = false ∨ fitB wt = false := by
      cases h1 : fitB low <;> cases h2 : fitB high <;> cases h3 : fitB wt <;> simp_all
    go_enter Try.func3, Try.ntmps3
    go_wp2_with fail
    refine (pt_new_bad low high wt w hv').mono ?_
    rintro e w1 ⟨rfl, rfl⟩
    go_wp2_with fail
    refine (r_new_bad low high wt w hv').mono ?_
    rintro e w2 ⟨rfl, hb2⟩
    have HB := Lib.hid (hb2.trans (((Below.refl w2.heap.size w2).alloc (Nat.le_refl _) (.cells (List.toArray [.slice none 0 0, .slice none 0 0, .int .i64 0, .int .i64 0, .int .i64 0, .int .i64 0, .int .i64 0, .int .i64 0, .int .i64 0, .int .i64 0, .int .i64 0]) 30)).mono hb2.size))
    clear hb2 hv hv'
    go_wp2_with fail
    refine (p_awake _).mono ?_
    rintro e w4 ⟨rfl, hb4⟩
    have HB4 := Lib.hid (HB.out.trans (hb4.mono HB.out.size))
    clear hb4 HB
    go_wp2_with fail
    go_loopw [9, 13] (fun sp i wr => sp = .pointer none ∧ i = .int .i64 0 ∧ wr = w4) (fun _ _ _ => 0)
    case atStart => exact ⟨rfl, rfl, rfl⟩
    case round =>
      obtain ⟨rfl, rfl, rfl⟩ := hrel
      by_cases hn : n0 = 0
      · subst hn
        go_wp2
        go_ret
        exact ⟨rfl, HB4.out⟩
      · have hn' : (0 : Int) < n0 := by omega
        go_wp2
        go_ret
        exact ⟨rfl, HB4.out⟩
end Go.Proofs.Ytcmakhkbkfkhkaa
