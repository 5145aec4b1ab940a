/- What the law of any calls wants: packets cut short, calls as they come in, a port and the reference's side by side. -/
import Derived.Test.YtcmakhkbkfkhkaaP22
import Derived.Test.YtcmakhkbkfkhkaaP14
import Derived.Test.YtcmakhkbkfkhkaaOpen
set_option linter.unusedSimpArgs false
set_option linter.unusedVariables false
namespace Go.Proofs.Ytcmakhkbkfkhkaa
open Go.RowKit Go.Shelf

/-- Not more bytes of a packet than the law looks at. -/
def Pk.lit (p : Pk) : Pk := ⟨p.h, p.xs.take (min p.xs.length 1100)⟩
set_option maxHeartbeats 1000000 in
theorem p_light (q : Pv) (w : World) (h : Rd .u8 w q.A q.n q.c q.xs) (hf : q.h.fl ≤ 9223372036854775807) :
    Calls Try.prog 16 #[.agg #[.int .i64 q.h.kd, .int .i64 q.h.fl, .int .i64 q.h.pa, .int .i64 q.h.sr, .int .i64 q.h.ds, .int .i64 q.h.cn, .int .i64 q.h.sq, .int .i64 q.h.pu, .slice q.A q.n q.c]] w fun e w' => ∃ q' : Pv, e = .returned (.agg #[.int .i64 q'.h.kd, .int .i64 q'.h.fl, .int .i64 q'.h.pa, .int .i64 q'.h.sr, .int .i64 q'.h.ds, .int .i64 q'.h.cn, .int .i64 q'.h.sq, .int .i64 q'.h.pu, .slice q'.A q'.n q'.c]) ∧ q'.pk = q.pk.lit ∧ (∀ F : Nat → Prop, (0 < q.n → ∀ ad, q.A = some ad → ¬ F ad.block) → PvR F w' q') ∧ Below w.heap.size w w' := by
  have hn := h.2.1
  have hc := h.2.2.1
  have hl := h.1
  simp only [maxLen] at hc
  have hb1 : ∀ o o', Below w.heap.size w ((w.alloc o).alloc o') := fun o o' => ((Below.refl _ _).alloc (Nat.le_refl _) o).alloc (by simp) o'
  have H := Lib.hid h
  have HB := Lib.hid hb1
  clear h hb1
  by_cases h5 : q.n ≤ 1100
  · go_enter Try.func16, Try.ntmps16
    go_wp2
    refine bodyPost_ret (v := .agg #[.int .i64 q.h.kd, .int .i64 q.h.fl, .int .i64 q.h.pa, .int .i64 q.h.sr, .int .i64 q.h.ds, .int .i64 q.h.cn, .int .i64 q.h.sq, .int .i64 q.h.pu, .slice q.A q.n q.c]) (by simp [results, Try.results16, go_sem, *]) rfl ⟨q, rfl, ?_, fun F hF => ⟨H.out.below (HB.out _ _), h5, hf, hF⟩, HB.out _ _⟩
    show (⟨q.h, q.xs⟩ : Pk) = ⟨q.h, q.xs.take (min q.xs.length 1100)⟩
    rw [Nat.min_eq_left (by omega), List.take_length]
  · have h6 : 1100 ≤ q.n := by omega
    have h7 : 1100 ≤ q.c := by omega
    go_enter Try.func16, Try.ntmps16
    go_wp2
    refine bodyPost_ret (v := .agg #[.int .i64 (⟨q.h, q.A, 1100, q.c, q.xs.take 1100⟩ : Pv).h.kd, .int .i64 (⟨q.h, q.A, 1100, q.c, q.xs.take 1100⟩ : Pv).h.fl, .int .i64 (⟨q.h, q.A, 1100, q.c, q.xs.take 1100⟩ : Pv).h.pa, .int .i64 (⟨q.h, q.A, 1100, q.c, q.xs.take 1100⟩ : Pv).h.sr, .int .i64 (⟨q.h, q.A, 1100, q.c, q.xs.take 1100⟩ : Pv).h.ds, .int .i64 (⟨q.h, q.A, 1100, q.c, q.xs.take 1100⟩ : Pv).h.cn, .int .i64 (⟨q.h, q.A, 1100, q.c, q.xs.take 1100⟩ : Pv).h.sq, .int .i64 (⟨q.h, q.A, 1100, q.c, q.xs.take 1100⟩ : Pv).h.pu, .slice (⟨q.h, q.A, 1100, q.c, q.xs.take 1100⟩ : Pv).A (⟨q.h, q.A, 1100, q.c, q.xs.take 1100⟩ : Pv).n (⟨q.h, q.A, 1100, q.c, q.xs.take 1100⟩ : Pv).c]) (by simp [results, Try.results16, go_sem, *]) rfl ⟨⟨q.h, q.A, 1100, q.c, q.xs.take 1100⟩, rfl, ?_, fun F hF => ⟨(H.out.pre h6).below (HB.out _ _), by simp, hf, fun _ => hF (by omega)⟩, HB.out _ _⟩
    show (⟨q.h, q.xs.take 1100⟩ : Pk) = ⟨q.h, q.xs.take (min q.xs.length 1100)⟩
    rw [Nat.min_eq_right (by omega)]
abbrev PkT : Ty := .one (.int .i64) (.one (.int .i64) (.one (.int .i64) (.one (.int .i64) (.one (.int .i64) (.one (.int .i64) (.one (.int .i64) (.one (.int .i64) (.one (.sl (.int .u8)) .unit))))))))
abbrev OpT : Ty := .one (.int .u8) (.one PkT (.one (.int .i64) .unit))
def opL (dv : Int) (q : Pv) (f : Int) : List Value := [.int .u8 dv, .int .i64 q.h.kd, .int .i64 q.h.fl, .int .i64 q.h.pa, .int .i64 q.h.sr, .int .i64 q.h.ds, .int .i64 q.h.cn, .int .i64 q.h.sq, .int .i64 q.h.pu, .slice q.A q.n q.c, .int .i64 f]
theorem i64_max {x : Int} (h : (Lit.int .i64 x).wf = true) : x ≤ 9223372036854775807 := by
  simp [Lit.wf, IntKind.min, IntKind.max, IntKind.signed, IntKind.bits] at h
  omega
theorem u8_nat {x : Int} (h : (Lit.int .u8 x).wf = true) : ∃ n : Nat, x = n ∧ n < 256 := by
  have := u8_bounds h
  exact ⟨x.toNat, by omega, by omega⟩
/-- The k-th call, as it lies in memory. -/
theorem op_at {w : World} {s : Sl OpT.den} (h : (Ty.sl OpT).reads w s) (k : Nat) (hk : k < s.n) : ∃ (g o dv : Nat) (q : Pv) (f : Int), s.A = some ⟨g, o, none⟩ ∧ g < w.heap.size ∧
    w.rangeAt g (o + k * 11) (opL dv q f) ∧ dv < 256 ∧ Rd .u8 w q.A q.n q.c q.xs ∧ q.h.fl ≤ 9223372036854775807 := by
  obtain ⟨h1, h2, h3, h4, h5, h6⟩ := h
  have h1' : s.l.length = s.n := h1
  have hkl : k < s.l.length := by omega
  obtain ⟨g, o, hA, hg, hx⟩ := h5 (by omega) (show 0 < 11 from by omega)
  have hr : OpT.reads w s.l[k] := h6 _ (List.getElem_mem _)
  have hx' := hx k hkl
  obtain ⟨x, hxe⟩ : ∃ x, x = s.l[k] := ⟨_, rfl⟩
  rw [← hxe] at hr hx'
  clear hxe hx
  obtain ⟨dv, ⟨kd, fl, pa, sr, ds, cn, sq, pu, ⟨A, n, c, xs⟩, u⟩, f, v⟩ := x
  obtain ⟨r1, r2, r3, _⟩ := hr
  obtain ⟨dn, hdn, hd⟩ := u8_nat r1
  subst hdn
  refine ⟨g, o, dn, ⟨⟨kd, fl, pa, sr, ds, cn, sq, pu⟩, A, n, c, xs⟩, f, hA, hg, ?_, hd, rd_of_reads ⟨A, n, c, xs⟩ r2.2.2.2.2.2.2.2.2.1, i64_max r2.2.1⟩
  exact fun j v hv => hx' j v hv
/-- What Serve makes of a port: the port, what comes out, the error. -/
def AM.svM (m : AM) (f : Int) : AM := if f < 1 ∨ 4 < f then m else match m.sel m.hiB with
  | [] => m
  | x :: l => m.srv f m.hiB x l
def AM.svL (m : AM) (f : Int) : List Pk := if f < 1 ∨ 4 < f then [] else match m.sel m.hiB with
  | [] => []
  | x :: _ => if f = 1 ∨ f = 4 then [x] else []
def AM.svE (m : AM) (f : Int) : Int := if f < 1 ∨ 4 < f then 80 else match m.sel m.hiB with
  | [] => 7
  | _ :: _ => 0
section
variable {F X : Nat → Prop} {w w' : World} {b : Nat} {m : AM} {pl ph : Nat} {Fl Fh : Nat → Prop} {ql qh : List Pv} {r : RV}
theorem pt_serveR (h : PbC F X w b m pl ph Fl Fh ql qh) (hct : ∀ k, -1 ≤ m.ct k ∧ m.ct k ≤ 1000000) (f : Int) :
    Calls Try.prog 10 #[.pointer (some ⟨b, 0, none⟩), .int .i64 f] w (ServeTo F X w b pl ph (m.svM f) (m.svL f) (m.svE f)) := by
  unfold AM.svM AM.svL AM.svE
  by_cases hf : f < 1 ∨ 4 < f
  · simp only [if_pos hf]; exact pt_serve_bad h f hf
  · simp only [if_neg hf]
    cases hx : m.sel m.hiB with
    | nil => exact pt_serve_none h f (by omega) (by omega) hx
    | cons x l => exact pt_serve h hct f (by omega) (by omega) x l hx
theorem r_serveR (h : RpR F w r m) (hF : ∀ k, F k → k < w.heap.size) (hl : m.low.length ≤ 1024) (hh : m.high.length ≤ 1024) (hct : ∀ k, -1 ≤ m.ct k ∧ m.ct k ≤ 1000000) (hru : m.run ≤ 1024) (f : Int) :
    Calls Try.prog 11 #[.agg #[.slice r.a1 r.n1 r.c1, .slice r.a2 r.n2 r.c2, .int .i64 m.lr, .int .i64 m.hr, .int .i64 m.wt, .int .i64 m.run, .int .i64 (m.ct 0), .int .i64 (m.ct 1), .int .i64 (m.ct 2), .int .i64 (m.ct 3), .int .i64 (m.ct 4)], .int .i64 f] w (RServeTo F w (m.svM f) (m.svL f) (m.svE f)) := by
  unfold AM.svM AM.svL AM.svE
  by_cases hf : f < 1 ∨ 4 < f
  · simp only [if_pos hf]; exact r_serve_bad h f hf
  · simp only [if_neg hf]
    cases hx : m.sel m.hiB with
    | nil => exact r_serve_none h hF f (by omega) (by omega) hx
    | cons x l => exact r_serve h hF hl hh hct hru f (by omega) (by omega) x l hx
theorem AM.svL_len (m : AM) (f : Int) : (m.svL f).length ≤ 1 := by
  unfold AM.svL
  repeat' split
  all_goals simp
/-- A port that keeps within its rooms, called at most B times. -/
structure AMb (m : AM) (L H : Nat) (B : Int) : Prop where
  lr : m.lr = L
  hr : m.hr = H
  lo : m.low.length ≤ L
  hi : m.high.length ≤ H
  ok : m.ok B
theorem AMb.mono {L H : Nat} {B C : Int} (h : AMb m L H B) (hC : B ≤ C) : AMb m L H C := ⟨h.lr, h.hr, h.lo, h.hi, h.ok.mono hC⟩
theorem AMb.new (L H W : Nat) : AMb (AM.new L H W) L H 0 := ⟨rfl, rfl, Nat.zero_le _, Nat.zero_le _, AM.ok_new _ _ _⟩
theorem AMb.sv {L H : Nat} {B : Int} (h : AMb m L H B) (f : Int) : AMb (m.svM f) L H (B + 1) := by
  have hm : AMb m L H (B + 1) := h.mono (by omega)
  unfold AM.svM
  split
  · exact hm
  · split
    · exact hm
    · rename_i x l hx
      have ho := AM.ok_srv h.ok f m.hiB x l
      have h1 := h.lo
      have h2 := h.hi
      generalize m.hiB = hi at *
      refine ⟨?_, ?_, ?_, ?_, ho⟩
      all_goals
        unfold AM.srv AM.took AM.put
        dsimp only
      · split <;> split <;> exact h.lr
      · split <;> split <;> exact h.hr
      · cases hi
        · have : m.low = x :: l := hx
          rw [this] at h1
          simp at h1
          split <;> split <;> simp <;> omega
        · split <;> split <;> simp <;> exact h1
      · cases hi
        · split <;> split <;> simp <;> exact h2
        · have : m.high = x :: l := hx
          rw [this] at h2
          simp at h2
          split <;> split <;> simp <;> omega
theorem AMb.nx {L H : Nat} {B : Int} (h : AMb m L H B) (x : Pk) : AMb (m.nx x) L H (B + 1) := by
  have ho := AM.ok_nx h.ok x
  have h1 := h.lo
  have h2 := h.hi
  have h3 := h.lr
  have h4 := h.hr
  rcases m.vd_cases x with hv | hv | hv | hv
  · have hr := AM.vd_one hv
    refine ⟨?_, ?_, ?_, ?_, ho⟩
    all_goals
      unfold AM.nx AM.base
      rw [if_pos hv]
      generalize x.heavy = b at *
      cases b <;> simp_all [AM.put, AM.sel, AM.room] <;> omega
  · have hr := (AM.vd_two hv).2
    have hn : ¬ m.vd x = 1 := by omega
    refine ⟨?_, ?_, ?_, ?_, ho⟩
    all_goals
      unfold AM.nx AM.base
      rw [if_neg hn, if_pos hv]
      simp_all [AM.put, AM.sel, AM.room] <;> omega
  · refine ⟨?_, ?_, ?_, ?_, ho⟩
    all_goals
      unfold AM.nx AM.base
      rw [if_neg (by omega), if_neg (by omega)]
      assumption
  · refine ⟨?_, ?_, ?_, ?_, ho⟩
    all_goals
      unfold AM.nx AM.base
      rw [if_neg (by omega), if_neg (by omega)]
      assumption
/-- A port in the blocks of F, and the reference's, whose value lies in box gb, side by side. -/
def Fg (F : Nat → Prop) (gb : Nat) : Nat → Prop := fun k => F k ∨ k = gb
structure JP (w0 : World) (F : Nat → Prop) (b gb : Nat) (m : AM) (r : RV) (w : World) : Prop where
  pb : ∃ pl ph Fl Fh ql qh, PbC F (· = gb) w b m pl ph Fl Fh ql qh
  rp : RpR (Fg F gb) w r m
  bx : Bk w 30 gb [.slice r.a1 r.n1 r.c1, .slice r.a2 r.n2 r.c2, .int .i64 m.lr, .int .i64 m.hr, .int .i64 m.wt, .int .i64 m.run, .int .i64 (m.ct 0), .int .i64 (m.ct 1), .int .i64 (m.ct 2), .int .i64 (m.ct 3), .int .i64 (m.ct 4)]
  gf : ¬ F gb
  ge : ∀ k, F k → w0.heap.size ≤ k
  gl : w0.heap.size ≤ gb
  bl : Below w0.heap.size w0 w
variable {w0 : World} {gb : Nat} {m' : AM} {r' : RV} {F' : Nat → Prop}
theorem JP.below (h : JP w0 F b gb m r w) (hb : Below w.heap.size w w') : JP w0 F b gb m r w' := by
  obtain ⟨⟨pl, ph, Fl, Fh, ql, qh, h1⟩, h2, h3, h4, h5, h6, h7⟩ := h
  exact ⟨⟨pl, ph, Fl, Fh, ql, qh, h1.below hb⟩, h2.below hb, h3.below hb, h4, h5, h6, below_on h7 hb⟩
theorem JP.bd (h : JP w0 F b gb m r w) : ∀ k, Fg F gb k → k < w.heap.size := by
  obtain ⟨⟨pl, ph, Fl, Fh, ql, qh, h1⟩, h2, h3, h4, h5, h6, h7⟩ := h
  rintro k (hk | rfl)
  · exact h1.bd k hk
  · exact h3.lt
/-- A packet that came in, or that a call made, lies off what the two are made of. -/
theorem JP.off (h : JP w0 F b gb m r w) {g : Nat} (hg : g < w0.heap.size) : ¬ Fg F gb g := by
  rintro (hk | rfl)
  · have := h.ge g hk; omega
  · have := h.gl; omega
/-- The port has turned; the reference's value has not yet. -/
structure JQ (w0 : World) (F : Nat → Prop) (b gb : Nat) (m' : AM) (m : AM) (r : RV) (w : World) : Prop where
  pb : ∃ pl ph Fl Fh ql qh, PbC F (· = gb) w b m' pl ph Fl Fh ql qh
  rp : RpR (Fg F gb) w r m
  bx : Bk w 30 gb [.slice r.a1 r.n1 r.c1, .slice r.a2 r.n2 r.c2, .int .i64 m.lr, .int .i64 m.hr, .int .i64 m.wt, .int .i64 m.run, .int .i64 (m.ct 0), .int .i64 (m.ct 1), .int .i64 (m.ct 2), .int .i64 (m.ct 3), .int .i64 (m.ct 4)]
  gf : ¬ F gb
  ge : ∀ k, F k → w0.heap.size ≤ k
  gl : w0.heap.size ≤ gb
  bl : Below w0.heap.size w0 w
theorem Fg.gr (hg : Gr F F' w.heap.size) : Gr (Fg F gb) (Fg F' gb) w.heap.size := by
  rintro k (hk | hk)
  · exact (hg k hk).imp .inl id
  · exact .inl (.inr hk)
theorem JP.turn (h : JP w0 F b gb m r w) {pl ph : Nat} {Fl Fh : Nat → Prop} {ql qh : List Pv} (hp : PbC F' (· = gb) w' b m' pl ph Fl Fh ql qh) (hs : St F w w') (hg : Gr F F' w.heap.size) : JQ w0 F' b gb m' m r w' :=
  ⟨⟨pl, ph, Fl, Fh, ql, qh, hp⟩, h.rp.st (hs.mono fun k _ hk => .inl hk) (Fg.gr hg), h.bx.st hs h.gf, hg.not h.bx.lt h.gf, hg.ge h.ge h.bl.size, h.gl, h.bl.trans (hs.below h.bl.size h.ge)⟩
theorem JQ.below (h : JQ w0 F b gb m' m r w) (hb : Below w.heap.size w w') : JQ w0 F b gb m' m r w' := by
  obtain ⟨⟨pl, ph, Fl, Fh, ql, qh, h1⟩, h2, h3, h4, h5, h6, h7⟩ := h
  exact ⟨⟨pl, ph, Fl, Fh, ql, qh, h1.below hb⟩, h2.below hb, h3.below hb, h4, h5, h6, below_on h7 hb⟩
theorem JQ.bd (h : JQ w0 F b gb m' m r w) : ∀ k, Fg F gb k → k < w.heap.size := by
  obtain ⟨⟨pl, ph, Fl, Fh, ql, qh, h1⟩, h2, h3, h4, h5, h6, h7⟩ := h
  rintro k (hk | rfl)
  · exact h1.bd k hk
  · exact h3.lt
theorem JQ.off (h : JQ w0 F b gb m' m r w) {g : Nat} (hg : g < w0.heap.size) : ¬ Fg F gb g := by
  rintro (hk | rfl)
  · have := h.ge g hk; omega
  · have := h.gl; omega
/-- The reference's answer goes into the box. -/
theorem JQ.ref (h : JQ w0 F b gb m' m r w) (hr : RpR (Fg F gb) w r' m') (hw : Wr gb w w') (hk : Bk w' 30 gb [.slice r'.a1 r'.n1 r'.c1, .slice r'.a2 r'.n2 r'.c2, .int .i64 m'.lr, .int .i64 m'.hr, .int .i64 m'.wt, .int .i64 m'.run, .int .i64 (m'.ct 0), .int .i64 (m'.ct 1), .int .i64 (m'.ct 2), .int .i64 (m'.ct 3), .int .i64 (m'.ct 4)]) : JP w0 F b gb m' r' w' := by
  obtain ⟨⟨pl, ph, Fl, Fh, ql, qh, h1⟩, h2, h3, h4, h5, h6, h7⟩ := h
  have hst : St (· = gb) w w' := ⟨hw.os, hw.tape, hw.output, hw.size, fun j hj hn => hw.block j hj (by intro e; injection e with e; exact hn e)⟩
  exact ⟨⟨pl, ph, Fl, Fh, ql, qh, h1.st hst (fun k hk e => h4 (e ▸ hk)) (fun k hk => .inl hk)⟩, hr.st (hst.mono fun k _ hk => .inr hk) (Gr.refl _ _), hk, h4, h5, h6, h7.trans (hw.below h6 h7.size)⟩
end
end Go.Proofs.Ytcmakhkbkfkhkaa
