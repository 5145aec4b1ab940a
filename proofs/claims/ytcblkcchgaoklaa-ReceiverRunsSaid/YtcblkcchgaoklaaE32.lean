/- The law of any calls of a receiver. -/
import Derived.Test.YtcblkcchgaoklaaEY
import Derived.Deep.Cut
import Derived.Deep.CutRange
set_option linter.unusedSimpArgs false
set_option linter.unusedVariables false
set_option maxRecDepth 100000
namespace Go.Proofs.Ytcblkcchgaoklaa
open Go.RowKit Go.Shelf
theorem Rm.take_size (m : Rm) (p : Pk) : (m.take p).size = m.size := by
  unfold Rm.take
  split
  · rfl
  · split
    · rfl
    · split
      · rfl
      · split <;> rfl
theorem pv_nil {F : Nat → Prop} (W : World) (q : Pv) (h1 : q.A = none) (h2 : q.n = 0) (h3 : q.c = 0) (h4 : q.xs = []) (h5 : q.h.fl ≤ 9223372036854775807) : PvR F W q := by
  obtain ⟨h, A, n, c, xs⟩ := q
  dsimp only at h1 h2 h3 h4 h5
  subst h1 h2 h3 h4
  exact ⟨Rd.nil _ _, by show 0 ≤ 1100; omega, h5, fun h => absurd h (by show ¬ 0 < 0; omega)⟩
set_option maxHeartbeats 100000000 in
theorem lawRuns (c : Cf) (s d n k : Int) (ops : Sl OpT.den) (w : World) (h : (Ty.sl OpT).reads w ops) :
    Calls Try.prog 3 #[.agg #[.int .i64 c.c0, .int .i64 c.c1, .int .i64 c.c2, .int .i64 c.c3, .int .i64 c.c4, .int .i64 c.c5, .int .i64 c.c6, .int .i64 c.c7, .int .i64 c.c8, .int .i64 c.c9, .int .i64 c.c10, .int .i64 c.c11, .int .i64 c.c12, .int .i64 c.c13], .int .i64 s, .int .i64 d, .int .i64 n, .int .i64 k, .slice ops.A ops.n ops.c] w fun e w' => e = .returned (.bool true) ∧ Below w.heap.size w w' := by
  have hnm : ops.n ≤ 9223372036854775807 := by have h := h.2; simp only [maxLen] at h; omega
  have HOp := Lib.hid (op_at h)
  obtain ⟨A0, n0, c0, l0⟩ := ops
  dsimp only at *
  clear h
  have hcf := Bk.new w 23 [.int .i64 c.c0, .int .i64 c.c1, .int .i64 c.c2, .int .i64 c.c3, .int .i64 c.c4, .int .i64 c.c5, .int .i64 c.c6, .int .i64 c.c7, .int .i64 c.c8, .int .i64 c.c9, .int .i64 c.c10, .int .i64 c.c11, .int .i64 c.c12, .int .i64 c.c13]
  have HB01 := Lib.hid ((Below.refl w.heap.size w).alloc (Nat.le_refl _) (.cells #[.int .i64 c.c0, .int .i64 c.c1, .int .i64 c.c2, .int .i64 c.c3, .int .i64 c.c4, .int .i64 c.c5, .int .i64 c.c6, .int .i64 c.c7, .int .i64 c.c8, .int .i64 c.c9, .int .i64 c.c10, .int .i64 c.c11, .int .i64 c.c12, .int .i64 c.c13] 23))
  have HSZ1 : Hid ((w.alloc (.cells #[.int .i64 c.c0, .int .i64 c.c1, .int .i64 c.c2, .int .i64 c.c3, .int .i64 c.c4, .int .i64 c.c5, .int .i64 c.c6, .int .i64 c.c7, .int .i64 c.c8, .int .i64 c.c9, .int .i64 c.c10, .int .i64 c.c11, .int .i64 c.c12, .int .i64 c.c13] 23)).heap.size = w.heap.size + 1) := Lib.hid (by rw [World.size_alloc])
  by_cases hE : newE c s d n k = 0
  · obtain ⟨pa, size, hc1, hc4⟩ : ∃ pa size : Nat, c.c1 = pa ∧ c.c4 = size := by
      have h1 := (newE_ok hE).1
      simp only [okS, Bool.and_eq_true, witB, decide_eq_true_eq] at h1
      exact ⟨c.c1.toNat, c.c4.toNat, by omega, by omega⟩
    have HRG : Hid (1 ≤ size ∧ size ≤ 256 ∧ 1 ≤ pa ∧ pa ≤ 8) := Lib.hid (by
      have h1 := (newE_ok hE).1
      simp only [okS, Bool.and_eq_true, witB, decide_eq_true_eq] at h1
      omega)
    have HSZ := Lib.hid hc4
    have HVN := Lib.hid (fun W : World => v_new_ok (w := W) c s d n k hE hc1 hc4)
    have HRN := Lib.hid (fun W : World => r_new_ok (w := W) c s d n k hE hc1 hc4)
    clear hE hc1 hc4
    go_enter Try.func3, Try.ntmps3
    go_wp2_with ((with_reducible refine at_load 23 (.tmp 6) (by rfl) ?_); refine wpList_load_bk rowCf rfl (.tmp 6) rfl w.heap.size 0 rfl hcf [.int .i64 c.c0, .int .i64 c.c1, .int .i64 c.c2, .int .i64 c.c3, .int .i64 c.c4, .int .i64 c.c5, .int .i64 c.c6, .int .i64 c.c7, .int .i64 c.c8, .int .i64 c.c9, .int .i64 c.c10, .int .i64 c.c11, .int .i64 c.c12, .int .i64 c.c13] rfl rfl ?_)
    refine (HVN.out _).mono ?_
    rintro en w2 ⟨r, e, F, rfl, hrc, hnw, hb2⟩
    have hcf2 := hcf.below hb2
    have HN2 := Lib.hid (And.intro hrc (And.intro hnw hb2))
    clear hrc hnw hb2 hcf
    go_wp2_with ((with_reducible refine at_load 23 (.tmp 6) (by rfl) ?_); refine wpList_load_bk rowCf rfl (.tmp 6) rfl w.heap.size 0 rfl hcf2 [.int .i64 c.c0, .int .i64 c.c1, .int .i64 c.c2, .int .i64 c.c3, .int .i64 c.c4, .int .i64 c.c5, .int .i64 c.c6, .int .i64 c.c7, .int .i64 c.c8, .int .i64 c.c9, .int .i64 c.c10, .int .i64 c.c11, .int .i64 c.c12, .int .i64 c.c13] rfl rfl ?_)
    refine (HRN.out _).mono ?_
    rintro en w3 ⟨rfl, hb3⟩
    have HB3 := Lib.hid hb3
    obtain ⟨z, hz⟩ : ∃ z, z = Zr.of c := ⟨_, rfl⟩
    obtain ⟨m, hm⟩ : ∃ m, m = Rm.new size pa s d n k := ⟨_, rfl⟩
    have HZM := Lib.hid (And.intro hz hm)
    rw [← hz, ← hm]
    rw [← hm] at HN2
    have hzr := Bk.new w3 34 [.int .i64 0, .int .i64 0, .int .i64 0, .int .i64 0, .int .i64 0, .int .i64 0, .int .i64 0, .int .i64 0, .int .i64 0, .int .i64 0, .int .i64 0, .int .i64 0, .int .i64 0, .int .i64 0, .int .i64 0, .int .i64 0, .int .i64 0, .int .i64 0, .int .i64 0, .slice none 0 0, .slice none 0 0, .int .i64 0, .int .i64 0, .int .i64 0, .int .i64 0, .int .i64 0, .int .i64 0, .bool false]
    clear hb3 hz hm hcf2
    go_wp2_with ((with_reducible refine at_store 34 (.tmp 15) (.tmp 45) (by rfl) ?_); refine wpList_store_bk rowRv rfl (.tmp 15) (.tmp 45) rfl w3.heap.size 0 rfl hzr [.int .i64 z.c0, .int .i64 m.pa, .int .i64 z.c2, .int .i64 z.c3, .int .i64 m.size, .int .i64 z.c5, .int .i64 z.c6, .int .i64 z.c7, .int .i64 z.c8, .int .i64 z.c9, .int .i64 z.c10, .int .i64 z.c11, .int .i64 z.c12, .int .i64 z.c13, .int .i64 m.sr, .int .i64 m.ds, .int .i64 m.cn, .int .i64 m.cl, .int .i64 m.base, .slice z.A z.n z.c, .slice z.J z.jn z.jc, .int .i64 m.jm.ps.length, .int .i64 m.jm.N, .int .i64 m.jm.T, .int .i64 m.ar, .int .i64 m.pl, .int .i64 m.pd, .bool m.dn] rfl rfl (by decide) (by simp [Value.oneCell']) ?_; rintro w4 hz4 hw4; rw [lay_all _ _ (by rfl)] at hz4)
    obtain ⟨w1, hw1⟩ : ∃ w1, w1 = w.alloc (.cells #[.int .i64 c.c0, .int .i64 c.c1, .int .i64 c.c2, .int .i64 c.c3, .int .i64 c.c4, .int .i64 c.c5, .int .i64 c.c6, .int .i64 c.c7, .int .i64 c.c8, .int .i64 c.c9, .int .i64 c.c10, .int .i64 c.c11, .int .i64 c.c12, .int .i64 c.c13] 23) := ⟨_, rfl⟩
    rw [← hw1] at HB01 HSZ1 HN2
    have HCF : Hid (Bk w1 23 w.heap.size [.int .i64 c.c0, .int .i64 c.c1, .int .i64 c.c2, .int .i64 c.c3, .int .i64 c.c4, .int .i64 c.c5, .int .i64 c.c6, .int .i64 c.c7, .int .i64 c.c8, .int .i64 c.c9, .int .i64 c.c10, .int .i64 c.c11, .int .i64 c.c12, .int .i64 c.c13]) := Lib.hid (by rw [hw1]; exact Bk.new w 23 [.int .i64 c.c0, .int .i64 c.c1, .int .i64 c.c2, .int .i64 c.c3, .int .i64 c.c4, .int .i64 c.c5, .int .i64 c.c6, .int .i64 c.c7, .int .i64 c.c8, .int .i64 c.c9, .int .i64 c.c10, .int .i64 c.c11, .int .i64 c.c12, .int .i64 c.c13])
    have hJ : JV w1 w3.heap.size F r e z m w4 := by
      obtain ⟨hrc, hnw, hb2⟩ := HN2.out
      have hb3 := HB3.out
      have hb34 : Below w3.heap.size w3 w4 := ((Below.refl _ _).alloc (Nat.le_refl _) _).trans (hw4.below (Nat.le_refl _) (by simp))
      have hs2 := hb2.size
      have hs3 := hb3.size
      refine ⟨(hrc.below hb3).below hb34, ?_, hz4, fun hf => by have := hrc.lt _ hf; omega, fun x hx => ?_, (hb2.trans (hb3.mono hs2)).trans (hb34.mono (by omega))⟩
      · rw [HZM.out.1, HZM.out.2]
        exact RfR.new _ c size pa s d n k
      · rcases hx with hx | rfl
        · exact hnw x hx
        · omega
    have HJ := Lib.hid hJ
    have HM0 : Hid (m.Fit 0 ∧ m.jm.op ≤ 65536 ∧ m.size = size) := Lib.hid (by
      rw [HZM.out.2]
      obtain ⟨h1, h2, h3, h4⟩ := HRG.out
      exact ⟨Rm.new_fit s d n k h1 h2 h3 h4, by show Jm.op ⟨[], 0, 0⟩ ≤ _; decide, rfl⟩)
    clear hJ hzr hz4 hw4 hw1 HVN HRN HN2 HB3 HZM
    refine (awake_any w4).mono ?_
    rintro en w5 ⟨rfl, hb5⟩
    have HJ5 := Lib.hid (HJ.out.next hb5)
    clear hb5 HJ
    generalize w3.heap.size = gb at *
    go_wp2_with fail
    go_loopw [13, 17] (fun sp iv wr => ∃ (i : Nat) (F : Nat → Prop) (r e : Nat) (z : Zr) (m : Rm), i ≤ n0 ∧ i ≤ 80 ∧ iv = .int .i64 i ∧ sp = .pointer (some ⟨r, 0, none⟩) ∧ JV w1 gb F r e z m wr ∧ (m.Fit i ∧ m.jm.op ≤ 65536 ∧ m.size = size)) (fun _ iv _ => n0 + 1 - (intOf iv).toNat)
    case atStart => exact ⟨0, F, r, e, z, m, Nat.zero_le _, by omega, rfl, rfl, HJ5.out, HM0.out⟩
    case round =>
      clear HJ5 HM0
      obtain ⟨i, F, r, e, z, m, hin, hi80, rfl, rfl, hJ, hM⟩ := hrel
      have JR := Lib.hid hJ
      have HM := Lib.hid hM
      clear hJ hM
      by_cases hc : i < n0 ∧ i < 80
      · obtain ⟨hlt, h80⟩ := hc
        have h80' : (i : Int) < 80 := by omega
        have hlt' : (i : Int) < n0 := by omega
        obtain ⟨g, o, dv, q, hA, hg0, hra, hdv, hqr, hqf⟩ := HOp.out i hlt
        obtain rfl : A0 = some ⟨g, o, none⟩ := hA
        have HWW : Hid (Below w.heap.size w wr) := Lib.hid (HB01.out.trans (JR.out.bel.mono (by have := HSZ1.out; omega)))
        have hkd := op_kd hra hg0 HWW.out
        have HQN : Hid (q.n ≤ q.c ∧ q.c ≤ 9223372036854775807) := Lib.hid (by have := hqr.2.2.1; unfold maxLen at this; exact ⟨hqr.2.1, by omega⟩)
        have HQR := Lib.hid hqr
        have HQB : Hid (0 < q.n → ∀ ad, q.A = some ad → ad.block < w.heap.size) := Lib.hid (hqr.blk)
        have HQF := Lib.hid hqf
        have HRA : Hid (∀ W, Below w.heap.size w W → W.rangeAt g (o + i * 10 + 1) q.cl) := Lib.hid (fun W hW => op_pk hra hg0 hW)
        clear hqr hqf hra hg0
        rcases (by omega : (dv : Int) % 3 = 0 ∨ (dv : Int) % 3 = 1 ∨ (dv : Int) % 3 = 2) with h0 | h0 | h0
        · have hpk := HRA.out wr HWW.out
          go_wp2_with (first
            | ((with_reducible refine at_load 40 (.tmp 92) (by rfl) ?_); refine wpList_load_pk rowP rfl (.tmp 92) rfl q g (o + i * 10 + 1) rfl hpk ?_)
            | (go_at_call 10; refine (l_packet q _ HQN.out.1 HQN.out.2).mono ?_; rintro en wb ⟨rfl, hbb⟩
               have JB := Lib.hid (JR.out.next hbb)
               have HWB : Hid (Below w.heap.size w wb) := Lib.hid (HWW.out.trans (hbb.mono HWW.out.size))
               clear hbb hpk)
            | (go_at_call 9; refine (v_take JB.out.rc HM.out.1 (by omega) q.look (look_rd (HQR.out.below HWB.out) HQF.out (fun hn ad he hf => by have h1 := HQB.out hn ad he; have h2 := JB.out.nw ad.block (.inl hf); have h3 := HSZ1.out; omega))).mono ?_; rintro en wt ⟨A6, n6, c6, B6, k6, d6, F', rfl, hr6, hs6, hg6, hsl6, ho6, hof6⟩
               obtain ⟨m', hm'⟩ : ∃ m', m' = m.take q.look.pk := ⟨_, rfl⟩
               have HME := Lib.hid hm'
               rw [← hm'] at hr6
               have HC6 := Lib.hid (JB.out.code hr6 hs6 hg6)
               have HS6 := Lib.hid (And.intro hsl6 (And.intro ho6 hof6))
               have HWT : Hid (Below w.heap.size w wt ∧ wb.heap.size ≤ wt.heap.size) := Lib.hid ⟨HB01.out.trans (HC6.out.2.2.2.2.2.mono (by have := HSZ1.out; omega)), hs6.size⟩
               clear hr6 hs6 hg6 hsl6 ho6 hof6 hm'))
          have HXL : Hid (∀ x, FG F' r gb x → x < wt.heap.size) := Lib.hid (fun x hx => by
            rcases hx with hx | rfl
            · exact HC6.out.1.lt x hx
            · exact HC6.out.2.2.1.lt)
          have HWL : Hid (w1.heap.size ≤ wt.heap.size) := Lib.hid HC6.out.2.2.2.2.2.size
          have HPK : Hid (∀ W, Below wt.heap.size wt W → W.rangeAt g (o + i * 10 + 1) q.cl) := Lib.hid (fun W hW => HRA.out W (HWT.out.1.trans (hW.mono HWT.out.1.size)))
          have HLK : Hid (q.look.pk.xs.length ≤ 1100) := Lib.hid (by show (q.xs.take 100).length ≤ 1100; rw [List.length_take]; omega)
          have HTK : Hid (∀ X W, RfR X W z m → (∀ k, X k → k < W.heap.size) → (∀ g, g < w1.heap.size → ¬ X g) → Below wt.heap.size wt W → Calls Try.prog 11 #[.agg #[.int .i64 z.c0, .int .i64 m.pa, .int .i64 z.c2, .int .i64 z.c3, .int .i64 m.size, .int .i64 z.c5, .int .i64 z.c6, .int .i64 z.c7, .int .i64 z.c8, .int .i64 z.c9, .int .i64 z.c10, .int .i64 z.c11, .int .i64 z.c12, .int .i64 z.c13, .int .i64 m.sr, .int .i64 m.ds, .int .i64 m.cn, .int .i64 m.cl, .int .i64 m.base, .slice z.A z.n z.c, .slice z.J z.jn z.jc, .int .i64 m.jm.ps.length, .int .i64 m.jm.N, .int .i64 m.jm.T, .int .i64 m.ar, .int .i64 m.pl, .int .i64 m.pd, .bool m.dn], .agg #[.int .i64 q.look.h.kd, .int .i64 q.look.h.fl, .int .i64 q.look.h.pa, .int .i64 q.look.h.sr, .int .i64 q.look.h.ds, .int .i64 q.look.h.cn, .int .i64 q.look.h.sq, .int .i64 q.look.h.pu, .slice q.look.A q.look.n q.look.c]] W (RTk X W m q.look.pk)) := Lib.hid (fun X W hrf hX hoff hC => r_take hrf HM.out.1 (by omega) HM.out.2.1 (by have := HM.out.2.2; have := HRG.out; omega) q.look (look_rd (HQR.out.below (HWT.out.1.trans (hC.mono HWT.out.1.size))) HQF.out (fun hn ad he hf => hoff ad.block (by have := HQB.out hn ad he; have := HSZ1.out; omega) hf)) hX HLK.out)
          have HK6 : Hid (m'.Fit (i + 1) ∧ m'.jm.op ≤ 65536 ∧ m'.size = size) := Lib.hid (by
            rw [HME.out]
            exact ⟨HM.out.1.take (by omega) _ HLK.out, Rm.take_op HM.out.2.1 _, by rw [Rm.take_size]; exact HM.out.2.2⟩)
          go_cut [20, 21, 22] from 99 to 109 (fun s20 s21 s22 W => ∃ b2 z' A7 n7 c7 B7 k7 d7, s20 = .pointer (some ⟨b2, 0, none⟩) ∧ s21 = .slice A7 n7 c7 ∧ s22 = .slice B7 k7 d7 ∧ Bk W 34 b2 ([.int .i64 z'.c0, .int .i64 m'.pa, .int .i64 z'.c2, .int .i64 z'.c3, .int .i64 m'.size, .int .i64 z'.c5, .int .i64 z'.c6, .int .i64 z'.c7, .int .i64 z'.c8, .int .i64 z'.c9, .int .i64 z'.c10, .int .i64 z'.c11, .int .i64 z'.c12, .int .i64 z'.c13, .int .i64 m'.sr, .int .i64 m'.ds, .int .i64 m'.cn, .int .i64 m'.cl, .int .i64 m'.base, .slice z'.A z'.n z'.c, .slice z'.J z'.jn z'.jc, .int .i64 m'.jm.ps.length, .int .i64 m'.jm.N, .int .i64 m'.jm.T, .int .i64 m'.ar, .int .i64 m'.pl, .int .i64 m'.pd, .bool m'.dn]) ∧ RfR (FG F' r gb) W z' m' ∧ SlP (FG F' r gb) W A7 n7 c7 (m.ans q.look.pk) ∧ SlT W B7 k7 d7 (m.told q.look.pk) ∧ wt.heap.size ≤ b2 ∧ Below wt.heap.size wt W)
          case first =>
            refine wp_region_E (Below wt.heap.size) (by kernel_rfl) (fun wd hbd hsz => ?_)
            have hC : Below wt.heap.size wt wd := hbd
            have hn0 : wt.heap.size ≤ wd.heap.size := hbd.size
            have hX : ∀ k, FG F' r gb k → k < wd.heap.size := fun k hk => Nat.lt_of_lt_of_le (HXL.out k hk) hbd.size
            have hoff : ∀ g, g < w1.heap.size → ¬ FG F' r gb g := fun g hg hf => by have := HC6.out.2.2.2.2.1 g hf; omega
            have hrf := HC6.out.2.1.below hbd
            have hsub : ∀ k, FG F' r gb k → FG F' r gb k := fun k hk => hk
            clear hsz
            (refine takeE (belowTr wt.heap.size) 0 (by simp only [List.getElem?_toArray, List.getElem?_cons_succ, List.getElem?_cons_zero]; rfl) (by kernel_rfl) (by kernel_rfl) (by kernel_rfl) (by exact fun _ _ _ h => h) (by first | (refine Or.inl ⟨by rfl, ?_⟩; intro W hW; exact exec_load_bk rowRv (.tmp 15) rfl gb 0 rfl (HC6.out.2.2.1.below (hbd.trans hW)) [.int .i64 z.c0, .int .i64 m.pa, .int .i64 z.c2, .int .i64 z.c3, .int .i64 m.size, .int .i64 z.c5, .int .i64 z.c6, .int .i64 z.c7, .int .i64 z.c8, .int .i64 z.c9, .int .i64 z.c10, .int .i64 z.c11, .int .i64 z.c12, .int .i64 z.c13, .int .i64 m.sr, .int .i64 m.ds, .int .i64 m.cn, .int .i64 m.cl, .int .i64 m.base, .slice z.A z.n z.c, .slice z.J z.jn z.jc, .int .i64 m.jm.ps.length, .int .i64 m.jm.N, .int .i64 m.jm.T, .int .i64 m.ar, .int .i64 m.pl, .int .i64 m.pd, .bool m.dn] rfl rfl) | exact Or.inr ⟨by rfl, rfl⟩) ?_; try simp only [Act.put, List.setIfInBounds_toArray, List.set_cons_zero, List.set_cons_succ])
            (refine takeE (belowTr wt.heap.size) 1 (by simp only [List.getElem?_toArray, List.getElem?_cons_succ, List.getElem?_cons_zero]; rfl) (by kernel_rfl) (by kernel_rfl) (by kernel_rfl) (by exact fun _ _ _ h => h) (by first | (refine Or.inl ⟨by rfl, ?_⟩; intro W hW; go_simp; try with_reducible rfl) | exact Or.inr ⟨by rfl, rfl⟩) ?_; try simp only [Act.put, List.setIfInBounds_toArray, List.set_cons_zero, List.set_cons_succ])
            (refine takeE (belowTr wt.heap.size) 2 (by simp only [List.getElem?_toArray, List.getElem?_cons_succ, List.getElem?_cons_zero]; rfl) (by kernel_rfl) (by kernel_rfl) (by kernel_rfl) (by exact fun _ _ _ h => h) (by first | (refine Or.inl ⟨by rfl, ?_⟩; intro W hW; go_simp; try with_reducible rfl) | exact Or.inr ⟨by rfl, rfl⟩) ?_; try simp only [Act.put, List.setIfInBounds_toArray, List.set_cons_zero, List.set_cons_succ])
            (refine takeE (belowTr wt.heap.size) 3 (by simp only [List.getElem?_toArray, List.getElem?_cons_succ, List.getElem?_cons_zero]; rfl) (by kernel_rfl) (by kernel_rfl) (by kernel_rfl) (by exact fun _ _ _ h => h) (by first | (refine Or.inl ⟨by rfl, ?_⟩; intro W hW; go_simp; try with_reducible rfl) | exact Or.inr ⟨by rfl, rfl⟩) ?_; try simp only [Act.put, List.setIfInBounds_toArray, List.set_cons_zero, List.set_cons_succ])
            (refine takeE (belowTr wt.heap.size) 4 (by simp only [List.getElem?_toArray, List.getElem?_cons_succ, List.getElem?_cons_zero]; rfl) (by kernel_rfl) (by kernel_rfl) (by kernel_rfl) (by exact fun _ _ _ h => h) (by first | (refine Or.inl ⟨by rfl, ?_⟩; intro W hW; go_simp; try with_reducible rfl) | exact Or.inr ⟨by rfl, rfl⟩) ?_; try simp only [Act.put, List.setIfInBounds_toArray, List.set_cons_zero, List.set_cons_succ])
            (refine takeE (belowTr wt.heap.size) 5 (by simp only [List.getElem?_toArray, List.getElem?_cons_succ, List.getElem?_cons_zero]; rfl) (by kernel_rfl) (by kernel_rfl) (by kernel_rfl) (by exact fun _ _ _ h => h) (by first | (refine Or.inl ⟨by rfl, ?_⟩; intro W hW; exact exec_loadRow rowP (.tmp 103) rfl g (o + i * 10 + 1) rfl q (HPK.out W (hbd.trans hW))) | exact Or.inr ⟨by rfl, rfl⟩) ?_; try simp only [Act.put, List.setIfInBounds_toArray, List.set_cons_zero, List.set_cons_succ])
            refine wpAnyE_two (i := 6) (j := 12) (by kernel_rfl) (by simp only [List.getElem?_toArray, List.getElem?_cons_succ, List.getElem?_cons_zero]; rfl) (by simp only [List.getElem?_toArray, List.getElem?_cons_succ, List.getElem?_cons_zero]; rfl) (fun K hK => ?_) (fun K hK => ?_)
            ·
              go_simp
              refine (l_packet q _ HQN.out.1 HQN.out.2).mono ?_
              rintro en w6 ⟨rfl, hb⟩
              have hE := hb.mono hn0
              have hC := hC.trans hE
              have hn0 := Nat.le_trans hn0 hb.size
              have hX := fun k hk => Nat.lt_of_lt_of_le (hX k hk) hb.size
              have hrf := hrf.below hb
              try have hz2 := hz2.below hb
              refine hK.out _ _ hE ?_
              clear hK K
              try simp only [Act.put, List.setIfInBounds_toArray, List.set_cons_zero, List.set_cons_succ]
              refine wpAnyE_two (i := 7) (j := 12) (by kernel_rfl) (by simp only [List.getElem?_toArray, List.getElem?_cons_succ, List.getElem?_cons_zero]; rfl) (by simp only [List.getElem?_toArray, List.getElem?_cons_succ, List.getElem?_cons_zero]; rfl) (fun K hK => ?_) (fun K hK => ?_)
              ·
                go_simp
                refine (HTK.out _ _ hrf hX hoff hC).mono ?_
                rintro en w7 ⟨z', A7, n7, c7, B7, k7, d7, rfl, hrf, hsl7, hso7, hb⟩
                rw [← HME.out] at hrf ⊢
                have hE := hb.mono hn0
                have hC := hC.trans hE
                have hn0 := Nat.le_trans hn0 hb.size
                have hX := fun k hk => Nat.lt_of_lt_of_le (hX k hk) hb.size
                try have hz2 := hz2.below hb
                refine hK.out _ _ hE ?_
                clear hK K
                try simp only [Act.put, List.setIfInBounds_toArray, List.set_cons_zero, List.set_cons_succ]
                (refine takeE (belowTr wt.heap.size) 8 (by simp only [List.getElem?_toArray, List.getElem?_cons_succ, List.getElem?_cons_zero]; rfl) (by kernel_rfl) (by kernel_rfl) (by kernel_rfl) (by exact fun _ _ _ h => h) (by first | (refine Or.inl ⟨by rfl, ?_⟩; intro W hW; go_simp; try with_reducible rfl) | exact Or.inr ⟨by rfl, rfl⟩) ?_; try simp only [Act.put, List.setIfInBounds_toArray, List.set_cons_zero, List.set_cons_succ])
                (refine takeE (belowTr wt.heap.size) 9 (by simp only [List.getElem?_toArray, List.getElem?_cons_succ, List.getElem?_cons_zero]; rfl) (by kernel_rfl) (by kernel_rfl) (by kernel_rfl) (by exact fun _ _ _ h => h) (by first | (refine Or.inl ⟨by rfl, ?_⟩; intro W hW; go_simp; try with_reducible rfl) | exact Or.inr ⟨by rfl, rfl⟩) ?_; try simp only [Act.put, List.setIfInBounds_toArray, List.set_cons_zero, List.set_cons_succ])
                (refine takeE (belowTr wt.heap.size) 10 (by simp only [List.getElem?_toArray, List.getElem?_cons_succ, List.getElem?_cons_zero]; rfl) (by kernel_rfl) (by kernel_rfl) (by kernel_rfl) (by exact fun _ _ _ h => h) (by first | (refine Or.inl ⟨by rfl, ?_⟩; intro W hW; go_simp; try with_reducible rfl) | exact Or.inr ⟨by rfl, rfl⟩) ?_; try simp only [Act.put, List.setIfInBounds_toArray, List.set_cons_zero, List.set_cons_succ])
                (refine takeE (belowTr wt.heap.size) 11 (by simp only [List.getElem?_toArray, List.getElem?_cons_succ, List.getElem?_cons_zero]; rfl) (by kernel_rfl) (by kernel_rfl) (by kernel_rfl) (by exact fun _ _ _ h => h) (by first | (refine Or.inl ⟨by rfl, ?_⟩; intro W hW; go_simp; try with_reducible rfl) | exact Or.inr ⟨by rfl, rfl⟩) ?_; try simp only [Act.put, List.setIfInBounds_toArray, List.set_cons_zero, List.set_cons_succ])
                refine wpAnyE_one (i := 12) (by kernel_rfl) (by simp only [List.getElem?_toArray, List.getElem?_cons_succ, List.getElem?_cons_zero]; rfl) (fun K hK => ?_)
                go_simp
                have hgb2 := hn0
                obtain ⟨hz2, hx2, hC, hE, hb, hX, hn0, hgr, hoff, hup⟩ := al_new (B := w1.heap.size) hC hn0 hX HWL.out hoff 34 [.int .i64 0, .int .i64 0, .int .i64 0, .int .i64 0, .int .i64 0, .int .i64 0, .int .i64 0, .int .i64 0, .int .i64 0, .int .i64 0, .int .i64 0, .int .i64 0, .int .i64 0, .int .i64 0, .int .i64 0, .int .i64 0, .int .i64 0, .int .i64 0, .int .i64 0, .slice none 0 0, .slice none 0 0, .int .i64 0, .int .i64 0, .int .i64 0, .int .i64 0, .int .i64 0, .int .i64 0, .bool false]
                have hrf := hrf.st (St.ext hb) hgr
                try have hsl7 := hsl7.st (St.ext hb) hgr
                try have hso7 := hso7.below hb
                have hsub := fun k hk => hup k (hsub k hk)
                refine hK.out _ _ hE ?_
                clear hK K
                try simp only [Act.put, List.setIfInBounds_toArray, List.set_cons_zero, List.set_cons_succ]
                refine wpAnyE_one (i := 13) (by kernel_rfl) (by simp only [List.getElem?_toArray, List.getElem?_cons_succ, List.getElem?_cons_zero]; rfl) (fun K hK => ?_)
                refine opwp_store_bk rowRv rfl (.tmp 20) (.tmp 107) rfl _ 0 (by first | rfl | (simp only [World.size_alloc]; done) | (simp only [World.size_alloc]; rfl)) hz2 ([.int .i64 z'.c0, .int .i64 m'.pa, .int .i64 z'.c2, .int .i64 z'.c3, .int .i64 m'.size, .int .i64 z'.c5, .int .i64 z'.c6, .int .i64 z'.c7, .int .i64 z'.c8, .int .i64 z'.c9, .int .i64 z'.c10, .int .i64 z'.c11, .int .i64 z'.c12, .int .i64 z'.c13, .int .i64 m'.sr, .int .i64 m'.ds, .int .i64 m'.cn, .int .i64 m'.cl, .int .i64 m'.base, .slice z'.A z'.n z'.c, .slice z'.J z'.jn z'.jc, .int .i64 m'.jm.ps.length, .int .i64 m'.jm.N, .int .i64 m'.jm.T, .int .i64 m'.ar, .int .i64 m'.pl, .int .i64 m'.pd, .bool m'.dn]) rfl rfl (by decide) (by simp [Value.oneCell']) ?_
                rintro w8 hz3 hw
                rw [lay_all _ _ (by rfl)] at hz3
                have hs := wr_stX hw hx2
                have hE := hw.below hgb2 hn0
                have hC := hC.trans hE
                have hrf := hrf.st hs (Gr.refl _ _)
                have hsl7 := hsl7.st hs (Gr.refl _ _)
                have hso7 := hso7.stS (G := (· = _)) (wr_stX hw rfl) (fun x hx => by subst hx; exact ⟨hz2.tydR.1, hz2.tydR.2.2⟩)
                refine hK.out _ _ hE ?_
                clear hK K
                try simp only [Act.put, List.setIfInBounds_toArray, List.set_cons_zero, List.set_cons_succ]
                (refine takeE (belowTr wt.heap.size) 14 (by simp only [List.getElem?_toArray, List.getElem?_cons_succ, List.getElem?_cons_zero]; rfl) (by kernel_rfl) (by kernel_rfl) (by kernel_rfl) (by exact fun _ _ _ h => h) (by first | (refine Or.inl ⟨by rfl, ?_⟩; intro W hW; go_simp; try with_reducible rfl) | exact Or.inr ⟨by rfl, rfl⟩) ?_; try simp only [Act.put, List.setIfInBounds_toArray, List.set_cons_zero, List.set_cons_succ])
                (refine takeE (belowTr wt.heap.size) 15 (by simp only [List.getElem?_toArray, List.getElem?_cons_succ, List.getElem?_cons_zero]; rfl) (by kernel_rfl) (by kernel_rfl) (by kernel_rfl) (by exact fun _ _ _ h => h) (by first | (refine Or.inl ⟨by rfl, ?_⟩; intro W hW; go_simp; try with_reducible rfl) | exact Or.inr ⟨by rfl, rfl⟩) ?_; try simp only [Act.put, List.setIfInBounds_toArray, List.set_cons_zero, List.set_cons_succ])
                refine wpAnyE_done (by kernel_rfl) ?_ _
                go_wp2_with fail
                go_meet
                exact ⟨_, z', A7, n7, c7, B7, k7, d7, by first | rfl | (simp only [World.size_alloc]; done) | (simp only [World.size_alloc]; rfl), rfl, rfl, hz3, hrf.mono hsub, hsl7.mono hsub, hso7, hgb2, hC⟩
              ·
                go_simp
                have hgb2 := hn0
                obtain ⟨hz2, hx2, hC, hE, hb, hX, hn0, hgr, hoff, hup⟩ := al_new (B := w1.heap.size) hC hn0 hX HWL.out hoff 34 [.int .i64 0, .int .i64 0, .int .i64 0, .int .i64 0, .int .i64 0, .int .i64 0, .int .i64 0, .int .i64 0, .int .i64 0, .int .i64 0, .int .i64 0, .int .i64 0, .int .i64 0, .int .i64 0, .int .i64 0, .int .i64 0, .int .i64 0, .int .i64 0, .int .i64 0, .slice none 0 0, .slice none 0 0, .int .i64 0, .int .i64 0, .int .i64 0, .int .i64 0, .int .i64 0, .int .i64 0, .bool false]
                have hrf := hrf.st (St.ext hb) hgr
                try have hsl7 := hsl7.st (St.ext hb) hgr
                try have hso7 := hso7.below hb
                have hsub := fun k hk => hup k (hsub k hk)
                refine hK.out _ _ hE ?_
                clear hK K
                try simp only [Act.put, List.setIfInBounds_toArray, List.set_cons_zero, List.set_cons_succ]
                refine wpAnyE_one (i := 7) (by kernel_rfl) (by simp only [List.getElem?_toArray, List.getElem?_cons_succ, List.getElem?_cons_zero]; rfl) (fun K hK => ?_)
                go_simp
                refine (HTK.out _ _ hrf hX hoff hC).mono ?_
                rintro en w7 ⟨z', A7, n7, c7, B7, k7, d7, rfl, hrf, hsl7, hso7, hb⟩
                rw [← HME.out] at hrf ⊢
                have hE := hb.mono hn0
                have hC := hC.trans hE
                have hn0 := Nat.le_trans hn0 hb.size
                have hX := fun k hk => Nat.lt_of_lt_of_le (hX k hk) hb.size
                try have hz2 := hz2.below hb
                refine hK.out _ _ hE ?_
                clear hK K
                try simp only [Act.put, List.setIfInBounds_toArray, List.set_cons_zero, List.set_cons_succ]
                (refine takeE (belowTr wt.heap.size) 8 (by simp only [List.getElem?_toArray, List.getElem?_cons_succ, List.getElem?_cons_zero]; rfl) (by kernel_rfl) (by kernel_rfl) (by kernel_rfl) (by exact fun _ _ _ h => h) (by first | (refine Or.inl ⟨by rfl, ?_⟩; intro W hW; go_simp; try with_reducible rfl) | exact Or.inr ⟨by rfl, rfl⟩) ?_; try simp only [Act.put, List.setIfInBounds_toArray, List.set_cons_zero, List.set_cons_succ])
                (refine takeE (belowTr wt.heap.size) 9 (by simp only [List.getElem?_toArray, List.getElem?_cons_succ, List.getElem?_cons_zero]; rfl) (by kernel_rfl) (by kernel_rfl) (by kernel_rfl) (by exact fun _ _ _ h => h) (by first | (refine Or.inl ⟨by rfl, ?_⟩; intro W hW; go_simp; try with_reducible rfl) | exact Or.inr ⟨by rfl, rfl⟩) ?_; try simp only [Act.put, List.setIfInBounds_toArray, List.set_cons_zero, List.set_cons_succ])
                (refine takeE (belowTr wt.heap.size) 10 (by simp only [List.getElem?_toArray, List.getElem?_cons_succ, List.getElem?_cons_zero]; rfl) (by kernel_rfl) (by kernel_rfl) (by kernel_rfl) (by exact fun _ _ _ h => h) (by first | (refine Or.inl ⟨by rfl, ?_⟩; intro W hW; go_simp; try with_reducible rfl) | exact Or.inr ⟨by rfl, rfl⟩) ?_; try simp only [Act.put, List.setIfInBounds_toArray, List.set_cons_zero, List.set_cons_succ])
                (refine takeE (belowTr wt.heap.size) 11 (by simp only [List.getElem?_toArray, List.getElem?_cons_succ, List.getElem?_cons_zero]; rfl) (by kernel_rfl) (by kernel_rfl) (by kernel_rfl) (by exact fun _ _ _ h => h) (by first | (refine Or.inl ⟨by rfl, ?_⟩; intro W hW; go_simp; try with_reducible rfl) | exact Or.inr ⟨by rfl, rfl⟩) ?_; try simp only [Act.put, List.setIfInBounds_toArray, List.set_cons_zero, List.set_cons_succ])
                refine wpAnyE_one (i := 13) (by kernel_rfl) (by simp only [List.getElem?_toArray, List.getElem?_cons_succ, List.getElem?_cons_zero]; rfl) (fun K hK => ?_)
                refine opwp_store_bk rowRv rfl (.tmp 20) (.tmp 107) rfl _ 0 (by first | rfl | (simp only [World.size_alloc]; done) | (simp only [World.size_alloc]; rfl)) hz2 ([.int .i64 z'.c0, .int .i64 m'.pa, .int .i64 z'.c2, .int .i64 z'.c3, .int .i64 m'.size, .int .i64 z'.c5, .int .i64 z'.c6, .int .i64 z'.c7, .int .i64 z'.c8, .int .i64 z'.c9, .int .i64 z'.c10, .int .i64 z'.c11, .int .i64 z'.c12, .int .i64 z'.c13, .int .i64 m'.sr, .int .i64 m'.ds, .int .i64 m'.cn, .int .i64 m'.cl, .int .i64 m'.base, .slice z'.A z'.n z'.c, .slice z'.J z'.jn z'.jc, .int .i64 m'.jm.ps.length, .int .i64 m'.jm.N, .int .i64 m'.jm.T, .int .i64 m'.ar, .int .i64 m'.pl, .int .i64 m'.pd, .bool m'.dn]) rfl rfl (by decide) (by simp [Value.oneCell']) ?_
                rintro w8 hz3 hw
                rw [lay_all _ _ (by rfl)] at hz3
                have hs := wr_stX hw hx2
                have hE := hw.below hgb2 hn0
                have hC := hC.trans hE
                have hrf := hrf.st hs (Gr.refl _ _)
                have hsl7 := hsl7.st hs (Gr.refl _ _)
                have hso7 := hso7.stS (G := (· = _)) (wr_stX hw rfl) (fun x hx => by subst hx; exact ⟨hz2.tydR.1, hz2.tydR.2.2⟩)
                refine hK.out _ _ hE ?_
                clear hK K
                try simp only [Act.put, List.setIfInBounds_toArray, List.set_cons_zero, List.set_cons_succ]
                (refine takeE (belowTr wt.heap.size) 14 (by simp only [List.getElem?_toArray, List.getElem?_cons_succ, List.getElem?_cons_zero]; rfl) (by kernel_rfl) (by kernel_rfl) (by kernel_rfl) (by exact fun _ _ _ h => h) (by first | (refine Or.inl ⟨by rfl, ?_⟩; intro W hW; go_simp; try with_reducible rfl) | exact Or.inr ⟨by rfl, rfl⟩) ?_; try simp only [Act.put, List.setIfInBounds_toArray, List.set_cons_zero, List.set_cons_succ])
                (refine takeE (belowTr wt.heap.size) 15 (by simp only [List.getElem?_toArray, List.getElem?_cons_succ, List.getElem?_cons_zero]; rfl) (by kernel_rfl) (by kernel_rfl) (by kernel_rfl) (by exact fun _ _ _ h => h) (by first | (refine Or.inl ⟨by rfl, ?_⟩; intro W hW; go_simp; try with_reducible rfl) | exact Or.inr ⟨by rfl, rfl⟩) ?_; try simp only [Act.put, List.setIfInBounds_toArray, List.set_cons_zero, List.set_cons_succ])
                refine wpAnyE_done (by kernel_rfl) ?_ _
                go_wp2_with fail
                go_meet
                exact ⟨_, z', A7, n7, c7, B7, k7, d7, by first | rfl | (simp only [World.size_alloc]; done) | (simp only [World.size_alloc]; rfl), rfl, rfl, hz3, hrf.mono hsub, hsl7.mono hsub, hso7, hgb2, hC⟩
            ·
              go_simp
              have hgb2 := hn0
              obtain ⟨hz2, hx2, hC, hE, hb, hX, hn0, hgr, hoff, hup⟩ := al_new (B := w1.heap.size) hC hn0 hX HWL.out hoff 34 [.int .i64 0, .int .i64 0, .int .i64 0, .int .i64 0, .int .i64 0, .int .i64 0, .int .i64 0, .int .i64 0, .int .i64 0, .int .i64 0, .int .i64 0, .int .i64 0, .int .i64 0, .int .i64 0, .int .i64 0, .int .i64 0, .int .i64 0, .int .i64 0, .int .i64 0, .slice none 0 0, .slice none 0 0, .int .i64 0, .int .i64 0, .int .i64 0, .int .i64 0, .int .i64 0, .int .i64 0, .bool false]
              have hrf := hrf.st (St.ext hb) hgr
              try have hsl7 := hsl7.st (St.ext hb) hgr
              try have hso7 := hso7.below hb
              have hsub := fun k hk => hup k (hsub k hk)
              refine hK.out _ _ hE ?_
              clear hK K
              try simp only [Act.put, List.setIfInBounds_toArray, List.set_cons_zero, List.set_cons_succ]
              refine wpAnyE_one (i := 6) (by kernel_rfl) (by simp only [List.getElem?_toArray, List.getElem?_cons_succ, List.getElem?_cons_zero]; rfl) (fun K hK => ?_)
              go_simp
              refine (l_packet q _ HQN.out.1 HQN.out.2).mono ?_
              rintro en w6 ⟨rfl, hb⟩
              have hE := hb.mono hn0
              have hC := hC.trans hE
              have hn0 := Nat.le_trans hn0 hb.size
              have hX := fun k hk => Nat.lt_of_lt_of_le (hX k hk) hb.size
              have hrf := hrf.below hb
              try have hz2 := hz2.below hb
              refine hK.out _ _ hE ?_
              clear hK K
              try simp only [Act.put, List.setIfInBounds_toArray, List.set_cons_zero, List.set_cons_succ]
              refine wpAnyE_one (i := 7) (by kernel_rfl) (by simp only [List.getElem?_toArray, List.getElem?_cons_succ, List.getElem?_cons_zero]; rfl) (fun K hK => ?_)
              go_simp
              refine (HTK.out _ _ hrf hX hoff hC).mono ?_
              rintro en w7 ⟨z', A7, n7, c7, B7, k7, d7, rfl, hrf, hsl7, hso7, hb⟩
              rw [← HME.out] at hrf ⊢
              have hE := hb.mono hn0
              have hC := hC.trans hE
              have hn0 := Nat.le_trans hn0 hb.size
              have hX := fun k hk => Nat.lt_of_lt_of_le (hX k hk) hb.size
              try have hz2 := hz2.below hb
              refine hK.out _ _ hE ?_
              clear hK K
              try simp only [Act.put, List.setIfInBounds_toArray, List.set_cons_zero, List.set_cons_succ]
              (refine takeE (belowTr wt.heap.size) 8 (by simp only [List.getElem?_toArray, List.getElem?_cons_succ, List.getElem?_cons_zero]; rfl) (by kernel_rfl) (by kernel_rfl) (by kernel_rfl) (by exact fun _ _ _ h => h) (by first | (refine Or.inl ⟨by rfl, ?_⟩; intro W hW; go_simp; try with_reducible rfl) | exact Or.inr ⟨by rfl, rfl⟩) ?_; try simp only [Act.put, List.setIfInBounds_toArray, List.set_cons_zero, List.set_cons_succ])
              (refine takeE (belowTr wt.heap.size) 9 (by simp only [List.getElem?_toArray, List.getElem?_cons_succ, List.getElem?_cons_zero]; rfl) (by kernel_rfl) (by kernel_rfl) (by kernel_rfl) (by exact fun _ _ _ h => h) (by first | (refine Or.inl ⟨by rfl, ?_⟩; intro W hW; go_simp; try with_reducible rfl) | exact Or.inr ⟨by rfl, rfl⟩) ?_; try simp only [Act.put, List.setIfInBounds_toArray, List.set_cons_zero, List.set_cons_succ])
              (refine takeE (belowTr wt.heap.size) 10 (by simp only [List.getElem?_toArray, List.getElem?_cons_succ, List.getElem?_cons_zero]; rfl) (by kernel_rfl) (by kernel_rfl) (by kernel_rfl) (by exact fun _ _ _ h => h) (by first | (refine Or.inl ⟨by rfl, ?_⟩; intro W hW; go_simp; try with_reducible rfl) | exact Or.inr ⟨by rfl, rfl⟩) ?_; try simp only [Act.put, List.setIfInBounds_toArray, List.set_cons_zero, List.set_cons_succ])
              (refine takeE (belowTr wt.heap.size) 11 (by simp only [List.getElem?_toArray, List.getElem?_cons_succ, List.getElem?_cons_zero]; rfl) (by kernel_rfl) (by kernel_rfl) (by kernel_rfl) (by exact fun _ _ _ h => h) (by first | (refine Or.inl ⟨by rfl, ?_⟩; intro W hW; go_simp; try with_reducible rfl) | exact Or.inr ⟨by rfl, rfl⟩) ?_; try simp only [Act.put, List.setIfInBounds_toArray, List.set_cons_zero, List.set_cons_succ])
              refine wpAnyE_one (i := 13) (by kernel_rfl) (by simp only [List.getElem?_toArray, List.getElem?_cons_succ, List.getElem?_cons_zero]; rfl) (fun K hK => ?_)
              refine opwp_store_bk rowRv rfl (.tmp 20) (.tmp 107) rfl _ 0 (by first | rfl | (simp only [World.size_alloc]; done) | (simp only [World.size_alloc]; rfl)) hz2 ([.int .i64 z'.c0, .int .i64 m'.pa, .int .i64 z'.c2, .int .i64 z'.c3, .int .i64 m'.size, .int .i64 z'.c5, .int .i64 z'.c6, .int .i64 z'.c7, .int .i64 z'.c8, .int .i64 z'.c9, .int .i64 z'.c10, .int .i64 z'.c11, .int .i64 z'.c12, .int .i64 z'.c13, .int .i64 m'.sr, .int .i64 m'.ds, .int .i64 m'.cn, .int .i64 m'.cl, .int .i64 m'.base, .slice z'.A z'.n z'.c, .slice z'.J z'.jn z'.jc, .int .i64 m'.jm.ps.length, .int .i64 m'.jm.N, .int .i64 m'.jm.T, .int .i64 m'.ar, .int .i64 m'.pl, .int .i64 m'.pd, .bool m'.dn]) rfl rfl (by decide) (by simp [Value.oneCell']) ?_
              rintro w8 hz3 hw
              rw [lay_all _ _ (by rfl)] at hz3
              have hs := wr_stX hw hx2
              have hE := hw.below hgb2 hn0
              have hC := hC.trans hE
              have hrf := hrf.st hs (Gr.refl _ _)
              have hsl7 := hsl7.st hs (Gr.refl _ _)
              have hso7 := hso7.stS (G := (· = _)) (wr_stX hw rfl) (fun x hx => by subst hx; exact ⟨hz2.tydR.1, hz2.tydR.2.2⟩)
              refine hK.out _ _ hE ?_
              clear hK K
              try simp only [Act.put, List.setIfInBounds_toArray, List.set_cons_zero, List.set_cons_succ]
              (refine takeE (belowTr wt.heap.size) 14 (by simp only [List.getElem?_toArray, List.getElem?_cons_succ, List.getElem?_cons_zero]; rfl) (by kernel_rfl) (by kernel_rfl) (by kernel_rfl) (by exact fun _ _ _ h => h) (by first | (refine Or.inl ⟨by rfl, ?_⟩; intro W hW; go_simp; try with_reducible rfl) | exact Or.inr ⟨by rfl, rfl⟩) ?_; try simp only [Act.put, List.setIfInBounds_toArray, List.set_cons_zero, List.set_cons_succ])
              (refine takeE (belowTr wt.heap.size) 15 (by simp only [List.getElem?_toArray, List.getElem?_cons_succ, List.getElem?_cons_zero]; rfl) (by kernel_rfl) (by kernel_rfl) (by kernel_rfl) (by exact fun _ _ _ h => h) (by first | (refine Or.inl ⟨by rfl, ?_⟩; intro W hW; go_simp; try with_reducible rfl) | exact Or.inr ⟨by rfl, rfl⟩) ?_; try simp only [Act.put, List.setIfInBounds_toArray, List.set_cons_zero, List.set_cons_succ])
              refine wpAnyE_done (by kernel_rfl) ?_ _
              go_wp2_with fail
              go_meet
              exact ⟨_, z', A7, n7, c7, B7, k7, d7, by first | rfl | (simp only [World.size_alloc]; done) | (simp only [World.size_alloc]; rfl), rfl, rfl, hz3, hrf.mono hsub, hsl7.mono hsub, hso7, hgb2, hC⟩
          case rest =>
            obtain ⟨b2, z', A7, n7, c7, B7, k7, d7, rfl, rfl, rfl, hz3, hrf, hsl7, hso7, hb2g, hC⟩ := hcut
            have hgb := HC6.out.2.2.1.below hC
            have HGB := Lib.hid hgb
            have HCR := Lib.hid (And.intro hrf (And.intro hsl7 (And.intro hso7 hC)))
            clear hrf hsl7 hso7 hb2g hC
            go_wp2_with (first
              | ((with_reducible refine at_load 34 (.tmp 20) (by rfl) ?_); refine wpList_load_bk rowRv rfl (.tmp 20) rfl b2 0 rfl hz3 ([.int .i64 z'.c0, .int .i64 m'.pa, .int .i64 z'.c2, .int .i64 z'.c3, .int .i64 m'.size, .int .i64 z'.c5, .int .i64 z'.c6, .int .i64 z'.c7, .int .i64 z'.c8, .int .i64 z'.c9, .int .i64 z'.c10, .int .i64 z'.c11, .int .i64 z'.c12, .int .i64 z'.c13, .int .i64 m'.sr, .int .i64 m'.ds, .int .i64 m'.cn, .int .i64 m'.cl, .int .i64 m'.base, .slice z'.A z'.n z'.c, .slice z'.J z'.jn z'.jc, .int .i64 m'.jm.ps.length, .int .i64 m'.jm.N, .int .i64 m'.jm.T, .int .i64 m'.ar, .int .i64 m'.pl, .int .i64 m'.pd, .bool m'.dn]) rfl rfl ?_)
              | ((with_reducible refine at_store 34 (.tmp 15) (.tmp 110) (by rfl) ?_); refine wpList_store_bk rowRv rfl (.tmp 15) (.tmp 110) rfl gb 0 rfl hgb ([.int .i64 z'.c0, .int .i64 m'.pa, .int .i64 z'.c2, .int .i64 z'.c3, .int .i64 m'.size, .int .i64 z'.c5, .int .i64 z'.c6, .int .i64 z'.c7, .int .i64 z'.c8, .int .i64 z'.c9, .int .i64 z'.c10, .int .i64 z'.c11, .int .i64 z'.c12, .int .i64 z'.c13, .int .i64 m'.sr, .int .i64 m'.ds, .int .i64 m'.cn, .int .i64 m'.cl, .int .i64 m'.base, .slice z'.A z'.n z'.c, .slice z'.J z'.jn z'.jc, .int .i64 m'.jm.ps.length, .int .i64 m'.jm.N, .int .i64 m'.jm.T, .int .i64 m'.ar, .int .i64 m'.pl, .int .i64 m'.pd, .bool m'.dn]) rfl rfl (by show 0 + 28 ≤ 28; decide) (by simp [Value.oneCell']) ?_; rintro w5 hk5 hw5
                 rw [lay_all _ _ (by rfl)] at hk5
                 have J5 : Hid (JV w1 gb F' r e z' m' w5) := Lib.hid (JV.ref HC6.out.1 HCR.out.1 HCR.out.2.2.2 (Below.refl _ _) hk5 hw5 HC6.out.2.2.2.1 HC6.out.2.2.2.2.1 HC6.out.2.2.2.2.2)
                 have HSA := Lib.hid (((HS6.out.1.plus (gb := gb) (Rm.ans_nil m q.look.pk) (fun hn ad he => by have h1 := HS6.out.2.2 hn ad he; have h2 := JB.out.bx.lt; omega)).below HCR.out.2.2.2).st (wr_stX hw5 (.inr rfl)) (Gr.refl _ _))
                 have HSB := Lib.hid (HCR.out.2.1.st (wr_stX hw5 (.inr rfl)) (Gr.refl _ _))
                 have HSC := Lib.hid ((HS6.out.2.1.slT.below HCR.out.2.2.2).stS (G := (· = gb)) (wr_stX hw5 rfl) (fun x hx => by subst hx; exact ⟨HGB.out.tydR.1, HGB.out.tydR.2.2⟩)).sl
                 have HSD := Lib.hid (HCR.out.2.2.1.stS (G := (· = gb)) (wr_stX hw5 rfl) (fun x hx => by subst hx; exact ⟨HGB.out.tydR.1, HGB.out.tydR.2.2⟩)).sl
                 clear hk5 hw5 hgb hz3)
              | (go_at_call 12; refine (r_sameAll HSA.out HSB.out (by have h1 := HSA.out.len; have h2 := Rm.ans_len m q.look.pk; omega)).mono ?_; rintro en w8 ⟨rfl, hb8⟩
                 have J8 := Lib.hid (J5.out.next hb8)
                 have HB8 := Lib.hid hb8
                 clear hb8)
              | (go_at_call 13; refine (same_rows (HSC.out.below HB8.out) (HSD.out.below HB8.out)).mono ?_; rintro en w9 ⟨rfl, hb9⟩
                 have J9 := Lib.hid (J8.out.next hb9)
                 clear hb9))
            obtain ⟨F9, hF9⟩ : ∃ F9, F9 = F' := ⟨_, rfl⟩
            obtain ⟨r9, hr9⟩ : ∃ r9, r9 = r := ⟨_, rfl⟩
            obtain ⟨e9, he9⟩ : ∃ e9, e9 = e := ⟨_, rfl⟩
            obtain ⟨z9, hz9⟩ : ∃ z9, z9 = z' := ⟨_, rfl⟩
            obtain ⟨m9, hm9⟩ : ∃ m9, m9 = m' := ⟨_, rfl⟩
            have HK9 := HK6
            rw [← hF9, ← hr9, ← he9, ← hz9, ← hm9] at J9
            rw [← hm9] at HK9
            rw [← hr9]
            clear hF9 hr9 he9 hz9 hm9
            have HFEW : Hid ((m9.ks.length : Int) < c.c4) := Lib.hid (by have := HK9.out.1.few; have h2 := HK9.out.2.2; have h3 := HSZ.out; omega)
            have HZN : Hid (z9.n ≤ 100000) := Lib.hid (by have := J9.out.rf.kp.len; have h2 := HK9.out.1.lc; omega)
            have hct := HK9.out.1.ok.ct
            have hct2 : ¬ ((m9.ar : Int) < (m9.pl : Int) + m9.pd) := by omega
            have hwr : IntKind.i64.wrap ((m9.pl : Int) + m9.pd) = (m9.pl : Int) + m9.pd := by rw [IntKind.wrap_i64]; omega
            have hct3 := decide_eq_false hct2
            clear hct
            go_wp2_with (first
              | (go_at_call 18; refine (v_line J9.out.rc).mono ?_; rintro en wa ⟨rfl, hba⟩
                 have hzl := Bk.new wa 58 [.int .i64 0, .int .i64 0, .int .i64 0, .int .i64 0, .int .i64 0, .int .i64 0, .int .i64 0, .int .i64 0, .int .i64 0, .int .i64 0, .int .i64 0, .int .i64 0, .bool false, .bool false]
                 have JA9 := Lib.hid (J9.out.next hba)
                 clear hba)
              | ((with_reducible refine at_store 58 (.tmp 28) (.tmp 145) (by rfl) ?_); refine wpList_store_bk rowLn rfl (.tmp 28) (.tmp 145) rfl wa.heap.size 0 rfl hzl [.int .i64 m9.sr, .int .i64 m9.ds, .int .i64 m9.cn, .int .i64 m9.cl, .int .i64 m9.base, .int .i64 0, .int .i64 0, .int .i64 m9.pl, .int .i64 0, .int .i64 0, .int .i64 m9.ar, .int .i64 m9.pd, .bool false, .bool m9.dn] rfl rfl (by decide) (by simp [Value.oneCell']) ?_; rintro wb zb hwb
                 rw [lay_all _ _ (by rfl)] at zb
                 have HLB := Lib.hid zb
                 have HJL := Lib.hid (JA9.out.next (((Below.refl _ _).alloc (Nat.le_refl _) (.cells #[.int .i64 0, .int .i64 0, .int .i64 0, .int .i64 0, .int .i64 0, .int .i64 0, .int .i64 0, .int .i64 0, .int .i64 0, .int .i64 0, .int .i64 0, .int .i64 0, .bool false, .bool false] 58)).trans (hwb.below (Nat.le_refl _) (by simp))))
                 clear zb hwb hzl))
            refine wp_region_E Ext (by kernel_rfl) (fun wd hbd hsz => ?_)
            have HJD := Lib.hid (HJL.out.next hbd)
            have HGD := Lib.hid (HJD.out.bx)
            have HLD := Lib.hid (HLB.out.below hbd)
            have HCD := Lib.hid (HCF.out.below HJD.out.bel)
            have HBD := Lib.hid hbd
            have q26 : ∀ W, Ext wd W → W.cell? ⟨gb, 26, none⟩ = some (.int .i64 m9.pd) := fun W hW => (HGD.out.below hW).cell 26 rfl
            have q27 : ∀ W, Ext wd W → W.cell? ⟨gb, 27, none⟩ = some (.bool m9.dn) := fun W hW => (HGD.out.below hW).cell 27 rfl
            have p7 : ∀ W, Ext wd W → W.cell? ⟨wa.heap.size, 7, none⟩ = some (.int .i64 m9.pl) := fun W hW => (HLD.out.below hW).cell 7 rfl
            have p10 : ∀ W, Ext wd W → W.cell? ⟨wa.heap.size, 10, none⟩ = some (.int .i64 m9.ar) := fun W hW => (HLD.out.below hW).cell 10 rfl
            have p11 : ∀ W, Ext wd W → W.cell? ⟨wa.heap.size, 11, none⟩ = some (.int .i64 m9.pd) := fun W hW => (HLD.out.below hW).cell 11 rfl
            have t4 : ∀ W, Ext wd W → W.cell? ⟨w.heap.size, 4, none⟩ = some (.int .i64 c.c4) := fun W hW => (HCD.out.below hW).cell 4 rfl
            clear hsz
            (refine takeE Ext.tr 0 (by simp only [List.getElem?_toArray, List.getElem?_cons_succ, List.getElem?_cons_zero]; rfl) (by kernel_rfl) (by kernel_rfl) (by kernel_rfl) (by exact fun _ _ _ h => h) (by first | (refine Or.inl ⟨by rfl, ?_⟩; intro W hW; exact exec_load_bk rowLn (.tmp 28) rfl wa.heap.size 0 rfl (HLD.out.below hW) [.int .i64 m9.sr, .int .i64 m9.ds, .int .i64 m9.cn, .int .i64 m9.cl, .int .i64 m9.base, .int .i64 0, .int .i64 0, .int .i64 m9.pl, .int .i64 0, .int .i64 0, .int .i64 m9.ar, .int .i64 m9.pd, .bool false, .bool m9.dn] rfl rfl) | exact Or.inr ⟨by rfl, rfl⟩) ?_; try simp only [Act.put, List.setIfInBounds_toArray, List.set_cons_zero, List.set_cons_succ])
            (refine takeE Ext.tr 1 (by simp only [List.getElem?_toArray, List.getElem?_cons_succ, List.getElem?_cons_zero]; rfl) (by kernel_rfl) (by kernel_rfl) (by kernel_rfl) (by exact fun _ _ _ h => h) (by first | (refine Or.inl ⟨by rfl, ?_⟩; intro W hW; exact exec_load_bk rowRv (.tmp 15) rfl gb 0 rfl (HGD.out.below hW) [.int .i64 z9.c0, .int .i64 m9.pa, .int .i64 z9.c2, .int .i64 z9.c3, .int .i64 m9.size, .int .i64 z9.c5, .int .i64 z9.c6, .int .i64 z9.c7, .int .i64 z9.c8, .int .i64 z9.c9, .int .i64 z9.c10, .int .i64 z9.c11, .int .i64 z9.c12, .int .i64 z9.c13, .int .i64 m9.sr, .int .i64 m9.ds, .int .i64 m9.cn, .int .i64 m9.cl, .int .i64 m9.base, .slice z9.A z9.n z9.c, .slice z9.J z9.jn z9.jc, .int .i64 m9.jm.ps.length, .int .i64 m9.jm.N, .int .i64 m9.jm.T, .int .i64 m9.ar, .int .i64 m9.pl, .int .i64 m9.pd, .bool m9.dn] rfl rfl) | exact Or.inr ⟨by rfl, rfl⟩) ?_; try simp only [Act.put, List.setIfInBounds_toArray, List.set_cons_zero, List.set_cons_succ])
            refine wpAnyE_one (i := 2) (by kernel_rfl) (by simp only [List.getElem?_toArray, List.getElem?_cons_succ, List.getElem?_cons_zero]; rfl) (fun K hK => ?_)
            go_simp
            refine (r_line z9 m9 _).mono ?_
            rintro en v1 ⟨rfl, hb1⟩
            have hE1 : Ext wd v1 := hb1
            clear q26 q27 p7 p10 p11 t4
            have q26 : ∀ W, Ext v1 W → W.cell? ⟨gb, 26, none⟩ = some (.int .i64 m9.pd) := fun W hW => (HGD.out.below (Ext.trans _ _ _ hE1 hW)).cell 26 rfl
            have q27 : ∀ W, Ext v1 W → W.cell? ⟨gb, 27, none⟩ = some (.bool m9.dn) := fun W hW => (HGD.out.below (Ext.trans _ _ _ hE1 hW)).cell 27 rfl
            have p7 : ∀ W, Ext v1 W → W.cell? ⟨wa.heap.size, 7, none⟩ = some (.int .i64 m9.pl) := fun W hW => (HLD.out.below (Ext.trans _ _ _ hE1 hW)).cell 7 rfl
            have p10 : ∀ W, Ext v1 W → W.cell? ⟨wa.heap.size, 10, none⟩ = some (.int .i64 m9.ar) := fun W hW => (HLD.out.below (Ext.trans _ _ _ hE1 hW)).cell 10 rfl
            have p11 : ∀ W, Ext v1 W → W.cell? ⟨wa.heap.size, 11, none⟩ = some (.int .i64 m9.pd) := fun W hW => (HLD.out.below (Ext.trans _ _ _ hE1 hW)).cell 11 rfl
            have t4 : ∀ W, Ext v1 W → W.cell? ⟨w.heap.size, 4, none⟩ = some (.int .i64 c.c4) := fun W hW => (HCD.out.below (Ext.trans _ _ _ hE1 hW)).cell 4 rfl
            refine hK.out _ _ hb1 ?_
            clear hK K
            try simp only [Act.put, List.setIfInBounds_toArray, List.set_cons_zero, List.set_cons_succ]
            (refine takeE Ext.tr 3 (by simp only [List.getElem?_toArray, List.getElem?_cons_succ, List.getElem?_cons_zero]; rfl) (by kernel_rfl) (by kernel_rfl) (by kernel_rfl) (by exact fun _ _ _ h => h) (by first | (refine Or.inl ⟨by rfl, ?_⟩; intro W hW; go_simp; try with_reducible rfl) | exact Or.inr ⟨by rfl, rfl⟩) ?_; try simp only [Act.put, List.setIfInBounds_toArray, List.set_cons_zero, List.set_cons_succ])
            (refine takeE Ext.tr 4 (by simp only [List.getElem?_toArray, List.getElem?_cons_succ, List.getElem?_cons_zero]; rfl) (by kernel_rfl) (by kernel_rfl) (by kernel_rfl) (by exact fun _ _ _ h => h) (by first | (refine Or.inl ⟨by rfl, ?_⟩; intro W hW; go_simp; try with_reducible rfl) | exact Or.inr ⟨by rfl, rfl⟩) ?_; try simp only [Act.put, List.setIfInBounds_toArray, List.set_cons_zero, List.set_cons_succ])
            (refine takeE Ext.tr 5 (by simp only [List.getElem?_toArray, List.getElem?_cons_succ, List.getElem?_cons_zero]; rfl) (by kernel_rfl) (by kernel_rfl) (by kernel_rfl) (by exact fun _ _ _ h => h) (by first | (refine Or.inl ⟨by rfl, ?_⟩; intro W hW; go_simp; try with_reducible rfl) | exact Or.inr ⟨by rfl, rfl⟩) ?_; try simp only [Act.put, List.setIfInBounds_toArray, List.set_cons_zero, List.set_cons_succ])
            (refine takeE Ext.tr 7 (by simp only [List.getElem?_toArray, List.getElem?_cons_succ, List.getElem?_cons_zero]; rfl) (by kernel_rfl) (by kernel_rfl) (by kernel_rfl) (by exact fun _ _ _ h => h) (by first | (refine Or.inl ⟨by rfl, ?_⟩; intro W hW; go_simp; try with_reducible rfl) | exact Or.inr ⟨by rfl, rfl⟩) ?_; try simp only [Act.put, List.setIfInBounds_toArray, List.set_cons_zero, List.set_cons_succ])
            (refine takeE Ext.tr 8 (by simp only [List.getElem?_toArray, List.getElem?_cons_succ, List.getElem?_cons_zero]; rfl) (by kernel_rfl) (by kernel_rfl) (by kernel_rfl) (by exact fun _ _ _ h => h) (by first | (refine Or.inl ⟨by rfl, ?_⟩; intro W hW; go_simp; try with_reducible rfl) | exact Or.inr ⟨by rfl, rfl⟩) ?_; try simp only [Act.put, List.setIfInBounds_toArray, List.set_cons_zero, List.set_cons_succ])
            refine wpAnyE_one (i := 6) (by kernel_rfl) (by simp only [List.getElem?_toArray, List.getElem?_cons_succ, List.getElem?_cons_zero]; rfl) (fun K hK => ?_)
            go_simp
            refine (v_pending (HJD.out.next hE1).rc).mono ?_
            rintro en v2 ⟨rfl, hb2⟩
            have hE2 : Ext wd v2 := Ext.trans _ _ _ hE1 hb2
            clear q26 q27 p7 p10 p11 t4
            have q26 : ∀ W, Ext v2 W → W.cell? ⟨gb, 26, none⟩ = some (.int .i64 m9.pd) := fun W hW => (HGD.out.below (Ext.trans _ _ _ hE2 hW)).cell 26 rfl
            have q27 : ∀ W, Ext v2 W → W.cell? ⟨gb, 27, none⟩ = some (.bool m9.dn) := fun W hW => (HGD.out.below (Ext.trans _ _ _ hE2 hW)).cell 27 rfl
            have p7 : ∀ W, Ext v2 W → W.cell? ⟨wa.heap.size, 7, none⟩ = some (.int .i64 m9.pl) := fun W hW => (HLD.out.below (Ext.trans _ _ _ hE2 hW)).cell 7 rfl
            have p10 : ∀ W, Ext v2 W → W.cell? ⟨wa.heap.size, 10, none⟩ = some (.int .i64 m9.ar) := fun W hW => (HLD.out.below (Ext.trans _ _ _ hE2 hW)).cell 10 rfl
            have p11 : ∀ W, Ext v2 W → W.cell? ⟨wa.heap.size, 11, none⟩ = some (.int .i64 m9.pd) := fun W hW => (HLD.out.below (Ext.trans _ _ _ hE2 hW)).cell 11 rfl
            have t4 : ∀ W, Ext v2 W → W.cell? ⟨w.heap.size, 4, none⟩ = some (.int .i64 c.c4) := fun W hW => (HCD.out.below (Ext.trans _ _ _ hE2 hW)).cell 4 rfl
            refine hK.out _ _ hb2 ?_
            clear hK K
            try simp only [Act.put, List.setIfInBounds_toArray, List.set_cons_zero, List.set_cons_succ]
            (refine takeE Ext.tr 9 (by simp only [List.getElem?_toArray, List.getElem?_cons_succ, List.getElem?_cons_zero]; rfl) (by kernel_rfl) (by kernel_rfl) (by kernel_rfl) (by exact fun _ _ _ h => h) (by first | (refine Or.inl ⟨by rfl, ?_⟩; intro W hW; go_simp; try with_reducible rfl) | exact Or.inr ⟨by rfl, rfl⟩) ?_; try simp only [Act.put, List.setIfInBounds_toArray, List.set_cons_zero, List.set_cons_succ])
            (refine takeE Ext.tr 10 (by simp only [List.getElem?_toArray, List.getElem?_cons_succ, List.getElem?_cons_zero]; rfl) (by kernel_rfl) (by kernel_rfl) (by kernel_rfl) (by exact fun _ _ _ h => h) (by first | (refine Or.inl ⟨by rfl, ?_⟩; intro W hW; go_simp; try with_reducible rfl) | exact Or.inr ⟨by rfl, rfl⟩) ?_; try simp only [Act.put, List.setIfInBounds_toArray, List.set_cons_zero, List.set_cons_succ])
            (refine takeE Ext.tr 11 (by simp only [List.getElem?_toArray, List.getElem?_cons_succ, List.getElem?_cons_zero]; rfl) (by kernel_rfl) (by kernel_rfl) (by kernel_rfl) (by exact fun _ _ _ h => h) (by first | (refine Or.inl ⟨by rfl, ?_⟩; intro W hW; go_simp; try with_reducible rfl) | exact Or.inr ⟨by rfl, rfl⟩) ?_; try simp only [Act.put, List.setIfInBounds_toArray, List.set_cons_zero, List.set_cons_succ])
            (refine takeE Ext.tr 12 (by simp only [List.getElem?_toArray, List.getElem?_cons_succ, List.getElem?_cons_zero]; rfl) (by kernel_rfl) (by kernel_rfl) (by kernel_rfl) (by exact fun _ _ _ h => h) (by first | (refine Or.inl ⟨by rfl, ?_⟩; intro W hW; go_simp; try with_reducible rfl) | exact Or.inr ⟨by rfl, rfl⟩) ?_; try simp only [Act.put, List.setIfInBounds_toArray, List.set_cons_zero, List.set_cons_succ])
            (refine takeE Ext.tr 14 (by simp only [List.getElem?_toArray, List.getElem?_cons_succ, List.getElem?_cons_zero]; rfl) (by kernel_rfl) (by kernel_rfl) (by kernel_rfl) (by exact fun _ _ _ h => h) (by first | (refine Or.inl ⟨by rfl, ?_⟩; intro W hW; go_simp; try with_reducible rfl) | exact Or.inr ⟨by rfl, rfl⟩) ?_; try simp only [Act.put, List.setIfInBounds_toArray, List.set_cons_zero, List.set_cons_succ])
            (refine takeE Ext.tr 15 (by simp only [List.getElem?_toArray, List.getElem?_cons_succ, List.getElem?_cons_zero]; rfl) (by kernel_rfl) (by kernel_rfl) (by kernel_rfl) (by exact fun _ _ _ h => h) (by first | (refine Or.inl ⟨by rfl, ?_⟩; intro W hW; go_simp; try with_reducible rfl) | exact Or.inr ⟨by rfl, rfl⟩) ?_; try simp only [Act.put, List.setIfInBounds_toArray, List.set_cons_zero, List.set_cons_succ])
            refine wpAnyE_one (i := 13) (by kernel_rfl) (by simp only [List.getElem?_toArray, List.getElem?_cons_succ, List.getElem?_cons_zero]; rfl) (fun K hK => ?_)
            go_simp
            refine (v_done (HJD.out.next hE2).rc).mono ?_
            rintro en v3 ⟨rfl, hb3⟩
            have hE3 : Ext wd v3 := Ext.trans _ _ _ hE2 hb3
            clear q26 q27 p7 p10 p11 t4
            have q26 : ∀ W, Ext v3 W → W.cell? ⟨gb, 26, none⟩ = some (.int .i64 m9.pd) := fun W hW => (HGD.out.below (Ext.trans _ _ _ hE3 hW)).cell 26 rfl
            have q27 : ∀ W, Ext v3 W → W.cell? ⟨gb, 27, none⟩ = some (.bool m9.dn) := fun W hW => (HGD.out.below (Ext.trans _ _ _ hE3 hW)).cell 27 rfl
            have p7 : ∀ W, Ext v3 W → W.cell? ⟨wa.heap.size, 7, none⟩ = some (.int .i64 m9.pl) := fun W hW => (HLD.out.below (Ext.trans _ _ _ hE3 hW)).cell 7 rfl
            have p10 : ∀ W, Ext v3 W → W.cell? ⟨wa.heap.size, 10, none⟩ = some (.int .i64 m9.ar) := fun W hW => (HLD.out.below (Ext.trans _ _ _ hE3 hW)).cell 10 rfl
            have p11 : ∀ W, Ext v3 W → W.cell? ⟨wa.heap.size, 11, none⟩ = some (.int .i64 m9.pd) := fun W hW => (HLD.out.below (Ext.trans _ _ _ hE3 hW)).cell 11 rfl
            have t4 : ∀ W, Ext v3 W → W.cell? ⟨w.heap.size, 4, none⟩ = some (.int .i64 c.c4) := fun W hW => (HCD.out.below (Ext.trans _ _ _ hE3 hW)).cell 4 rfl
            refine hK.out _ _ hb3 ?_
            clear hK K
            try simp only [Act.put, List.setIfInBounds_toArray, List.set_cons_zero, List.set_cons_succ]
            (refine takeE Ext.tr 16 (by simp only [List.getElem?_toArray, List.getElem?_cons_succ, List.getElem?_cons_zero]; rfl) (by kernel_rfl) (by kernel_rfl) (by kernel_rfl) (by exact fun _ _ _ h => h) (by first | (refine Or.inl ⟨by rfl, ?_⟩; intro W hW; go_simp; try with_reducible rfl) | exact Or.inr ⟨by rfl, rfl⟩) ?_; try simp only [Act.put, List.setIfInBounds_toArray, List.set_cons_zero, List.set_cons_succ])
            (refine takeE Ext.tr 17 (by simp only [List.getElem?_toArray, List.getElem?_cons_succ, List.getElem?_cons_zero]; rfl) (by kernel_rfl) (by kernel_rfl) (by kernel_rfl) (by exact fun _ _ _ h => h) (by first | (refine Or.inl ⟨by rfl, ?_⟩; intro W hW; go_simp; try with_reducible rfl) | exact Or.inr ⟨by rfl, rfl⟩) ?_; try simp only [Act.put, List.setIfInBounds_toArray, List.set_cons_zero, List.set_cons_succ])
            (refine takeE Ext.tr 18 (by simp only [List.getElem?_toArray, List.getElem?_cons_succ, List.getElem?_cons_zero]; rfl) (by kernel_rfl) (by kernel_rfl) (by kernel_rfl) (by exact fun _ _ _ h => h) (by first | (refine Or.inl ⟨by rfl, ?_⟩; intro W hW; go_simp; try with_reducible rfl) | exact Or.inr ⟨by rfl, rfl⟩) ?_; try simp only [Act.put, List.setIfInBounds_toArray, List.set_cons_zero, List.set_cons_succ])
            (refine takeE Ext.tr 19 (by simp only [List.getElem?_toArray, List.getElem?_cons_succ, List.getElem?_cons_zero]; rfl) (by kernel_rfl) (by kernel_rfl) (by kernel_rfl) (by exact fun _ _ _ h => h) (by first | (refine Or.inl ⟨by rfl, ?_⟩; intro W hW; go_simp; try with_reducible rfl) | exact Or.inr ⟨by rfl, rfl⟩) ?_; try simp only [Act.put, List.setIfInBounds_toArray, List.set_cons_zero, List.set_cons_succ])
            (refine takeE Ext.tr 21 (by simp only [List.getElem?_toArray, List.getElem?_cons_succ, List.getElem?_cons_zero]; rfl) (by kernel_rfl) (by kernel_rfl) (by kernel_rfl) (by exact fun _ _ _ h => h) (by first | (refine Or.inl ⟨by rfl, ?_⟩; intro W hW; exact exec_load_bk rowRv (.tmp 15) rfl gb 0 rfl (HGD.out.below (Ext.trans _ _ _ hE3 hW)) [.int .i64 z9.c0, .int .i64 m9.pa, .int .i64 z9.c2, .int .i64 z9.c3, .int .i64 m9.size, .int .i64 z9.c5, .int .i64 z9.c6, .int .i64 z9.c7, .int .i64 z9.c8, .int .i64 z9.c9, .int .i64 z9.c10, .int .i64 z9.c11, .int .i64 z9.c12, .int .i64 z9.c13, .int .i64 m9.sr, .int .i64 m9.ds, .int .i64 m9.cn, .int .i64 m9.cl, .int .i64 m9.base, .slice z9.A z9.n z9.c, .slice z9.J z9.jn z9.jc, .int .i64 m9.jm.ps.length, .int .i64 m9.jm.N, .int .i64 m9.jm.T, .int .i64 m9.ar, .int .i64 m9.pl, .int .i64 m9.pd, .bool m9.dn] rfl rfl) | exact Or.inr ⟨by rfl, rfl⟩) ?_; try simp only [Act.put, List.setIfInBounds_toArray, List.set_cons_zero, List.set_cons_succ])
            refine wpAnyE_one (i := 20) (by kernel_rfl) (by simp only [List.getElem?_toArray, List.getElem?_cons_succ, List.getElem?_cons_zero]; rfl) (fun K hK => ?_)
            go_simp
            refine (v_kept (HJD.out.next hE3).rc HK9.out.1.ok).mono ?_
            rintro en v4 ⟨A4, n4, c4, rfl, hl4, hb4⟩
            have hE4 : Ext wd v4 := Ext.trans _ _ _ hE3 hb4
            clear q26 q27 p7 p10 p11 t4
            have q26 : ∀ W, Ext v4 W → W.cell? ⟨gb, 26, none⟩ = some (.int .i64 m9.pd) := fun W hW => (HGD.out.below (Ext.trans _ _ _ hE4 hW)).cell 26 rfl
            have q27 : ∀ W, Ext v4 W → W.cell? ⟨gb, 27, none⟩ = some (.bool m9.dn) := fun W hW => (HGD.out.below (Ext.trans _ _ _ hE4 hW)).cell 27 rfl
            have p7 : ∀ W, Ext v4 W → W.cell? ⟨wa.heap.size, 7, none⟩ = some (.int .i64 m9.pl) := fun W hW => (HLD.out.below (Ext.trans _ _ _ hE4 hW)).cell 7 rfl
            have p10 : ∀ W, Ext v4 W → W.cell? ⟨wa.heap.size, 10, none⟩ = some (.int .i64 m9.ar) := fun W hW => (HLD.out.below (Ext.trans _ _ _ hE4 hW)).cell 10 rfl
            have p11 : ∀ W, Ext v4 W → W.cell? ⟨wa.heap.size, 11, none⟩ = some (.int .i64 m9.pd) := fun W hW => (HLD.out.below (Ext.trans _ _ _ hE4 hW)).cell 11 rfl
            have t4 : ∀ W, Ext v4 W → W.cell? ⟨w.heap.size, 4, none⟩ = some (.int .i64 c.c4) := fun W hW => (HCD.out.below (Ext.trans _ _ _ hE4 hW)).cell 4 rfl
            refine hK.out _ _ hb4 ?_
            clear hK K
            try simp only [Act.put, List.setIfInBounds_toArray, List.set_cons_zero, List.set_cons_succ]
            refine wpAnyE_one (i := 22) (by kernel_rfl) (by simp only [List.getElem?_toArray, List.getElem?_cons_succ, List.getElem?_cons_zero]; rfl) (fun K hK => ?_)
            go_simp
            refine (r_numbers (HJD.out.next hE4).rf.kp HZN.out).mono ?_
            rintro en v5 ⟨A5, n5, c5, rfl, hl5, hb5⟩
            have hE5 : Ext wd v5 := Ext.trans _ _ _ hE4 hb5
            clear q26 q27 p7 p10 p11 t4
            have q26 : ∀ W, Ext v5 W → W.cell? ⟨gb, 26, none⟩ = some (.int .i64 m9.pd) := fun W hW => (HGD.out.below (Ext.trans _ _ _ hE5 hW)).cell 26 rfl
            have q27 : ∀ W, Ext v5 W → W.cell? ⟨gb, 27, none⟩ = some (.bool m9.dn) := fun W hW => (HGD.out.below (Ext.trans _ _ _ hE5 hW)).cell 27 rfl
            have p7 : ∀ W, Ext v5 W → W.cell? ⟨wa.heap.size, 7, none⟩ = some (.int .i64 m9.pl) := fun W hW => (HLD.out.below (Ext.trans _ _ _ hE5 hW)).cell 7 rfl
            have p10 : ∀ W, Ext v5 W → W.cell? ⟨wa.heap.size, 10, none⟩ = some (.int .i64 m9.ar) := fun W hW => (HLD.out.below (Ext.trans _ _ _ hE5 hW)).cell 10 rfl
            have p11 : ∀ W, Ext v5 W → W.cell? ⟨wa.heap.size, 11, none⟩ = some (.int .i64 m9.pd) := fun W hW => (HLD.out.below (Ext.trans _ _ _ hE5 hW)).cell 11 rfl
            have t4 : ∀ W, Ext v5 W → W.cell? ⟨w.heap.size, 4, none⟩ = some (.int .i64 c.c4) := fun W hW => (HCD.out.below (Ext.trans _ _ _ hE5 hW)).cell 4 rfl
            refine hK.out _ _ hb5 ?_
            clear hK K
            try simp only [Act.put, List.setIfInBounds_toArray, List.set_cons_zero, List.set_cons_succ]
            refine wpAnyE_one (i := 23) (by kernel_rfl) (by simp only [List.getElem?_toArray, List.getElem?_cons_succ, List.getElem?_cons_zero]; rfl) (fun K hK => ?_)
            go_simp
            refine (same_any A4 A5 n4 c4 n5 c5 (sqs m9.ks) (sqs m9.ks) v5 (hl4.below hb5).rdv hl5.rdv).mono ?_
            rintro en v6 ⟨rfl, hb6⟩
            rw [decide_eq_true (rfl : sqs m9.ks = sqs m9.ks)]
            clear hl4 hl5
            have hE6 : Ext wd v6 := Ext.trans _ _ _ hE5 hb6
            clear q26 q27 p7 p10 p11 t4
            have q26 : ∀ W, Ext v6 W → W.cell? ⟨gb, 26, none⟩ = some (.int .i64 m9.pd) := fun W hW => (HGD.out.below (Ext.trans _ _ _ hE6 hW)).cell 26 rfl
            have q27 : ∀ W, Ext v6 W → W.cell? ⟨gb, 27, none⟩ = some (.bool m9.dn) := fun W hW => (HGD.out.below (Ext.trans _ _ _ hE6 hW)).cell 27 rfl
            have p7 : ∀ W, Ext v6 W → W.cell? ⟨wa.heap.size, 7, none⟩ = some (.int .i64 m9.pl) := fun W hW => (HLD.out.below (Ext.trans _ _ _ hE6 hW)).cell 7 rfl
            have p10 : ∀ W, Ext v6 W → W.cell? ⟨wa.heap.size, 10, none⟩ = some (.int .i64 m9.ar) := fun W hW => (HLD.out.below (Ext.trans _ _ _ hE6 hW)).cell 10 rfl
            have p11 : ∀ W, Ext v6 W → W.cell? ⟨wa.heap.size, 11, none⟩ = some (.int .i64 m9.pd) := fun W hW => (HLD.out.below (Ext.trans _ _ _ hE6 hW)).cell 11 rfl
            have t4 : ∀ W, Ext v6 W → W.cell? ⟨w.heap.size, 4, none⟩ = some (.int .i64 c.c4) := fun W hW => (HCD.out.below (Ext.trans _ _ _ hE6 hW)).cell 4 rfl
            refine hK.out _ _ hb6 ?_
            clear hK K
            try simp only [Act.put, List.setIfInBounds_toArray, List.set_cons_zero, List.set_cons_succ]
            (refine takeE Ext.tr 24 (by simp only [List.getElem?_toArray, List.getElem?_cons_succ, List.getElem?_cons_zero]; rfl) (by kernel_rfl) (by kernel_rfl) (by kernel_rfl) (by exact fun _ _ _ h => h) (by first | (refine Or.inl ⟨by rfl, ?_⟩; intro W hW; go_simp; try with_reducible rfl) | exact Or.inr ⟨by rfl, rfl⟩) ?_; try simp only [Act.put, List.setIfInBounds_toArray, List.set_cons_zero, List.set_cons_succ])
            (refine takeE Ext.tr 25 (by simp only [List.getElem?_toArray, List.getElem?_cons_succ, List.getElem?_cons_zero]; rfl) (by kernel_rfl) (by kernel_rfl) (by kernel_rfl) (by exact fun _ _ _ h => h) (by first | (refine Or.inl ⟨by rfl, ?_⟩; intro W hW; go_simp; try with_reducible rfl) | exact Or.inr ⟨by rfl, rfl⟩) ?_; try simp only [Act.put, List.setIfInBounds_toArray, List.set_cons_zero, List.set_cons_succ])
            (refine takeE Ext.tr 26 (by simp only [List.getElem?_toArray, List.getElem?_cons_succ, List.getElem?_cons_zero]; rfl) (by kernel_rfl) (by kernel_rfl) (by kernel_rfl) (by exact fun _ _ _ h => h) (by first | (refine Or.inl ⟨by rfl, ?_⟩; intro W hW; go_simp; try with_reducible rfl) | exact Or.inr ⟨by rfl, rfl⟩) ?_; try simp only [Act.put, List.setIfInBounds_toArray, List.set_cons_zero, List.set_cons_succ])
            (refine takeE Ext.tr 27 (by simp only [List.getElem?_toArray, List.getElem?_cons_succ, List.getElem?_cons_zero]; rfl) (by kernel_rfl) (by kernel_rfl) (by kernel_rfl) (by exact fun _ _ _ h => h) (by first | (refine Or.inl ⟨by rfl, ?_⟩; intro W hW; go_simp; try with_reducible rfl) | exact Or.inr ⟨by rfl, rfl⟩) ?_; try simp only [Act.put, List.setIfInBounds_toArray, List.set_cons_zero, List.set_cons_succ])
            (refine takeE Ext.tr 29 (by simp only [List.getElem?_toArray, List.getElem?_cons_succ, List.getElem?_cons_zero]; rfl) (by kernel_rfl) (by kernel_rfl) (by kernel_rfl) (by exact fun _ _ _ h => h) (by first | (refine Or.inl ⟨by rfl, ?_⟩; intro W hW; go_simp; try with_reducible rfl) | exact Or.inr ⟨by rfl, rfl⟩) ?_; try simp only [Act.put, List.setIfInBounds_toArray, List.set_cons_zero, List.set_cons_succ])
            (refine takeE Ext.tr 32 (by simp only [List.getElem?_toArray, List.getElem?_cons_succ, List.getElem?_cons_zero]; rfl) (by kernel_rfl) (by kernel_rfl) (by kernel_rfl) (by exact fun _ _ _ h => h) (by first | (refine Or.inl ⟨by rfl, ?_⟩; intro W hW; go_simp; try with_reducible rfl) | exact Or.inr ⟨by rfl, rfl⟩) ?_; try simp only [Act.put, List.setIfInBounds_toArray, List.set_cons_zero, List.set_cons_succ])
            (refine takeE Ext.tr 28 (by simp only [List.getElem?_toArray, List.getElem?_cons_succ, List.getElem?_cons_zero]; rfl) (by kernel_rfl) (by kernel_rfl) (by kernel_rfl) (by exact fun _ _ _ h => h) (by first | (refine Or.inl ⟨by rfl, ?_⟩; intro W hW; go_simp; try with_reducible rfl) | exact Or.inr ⟨by rfl, rfl⟩) ?_; try simp only [Act.put, List.setIfInBounds_toArray, List.set_cons_zero, List.set_cons_succ])
            (refine takeE Ext.tr 30 (by simp only [List.getElem?_toArray, List.getElem?_cons_succ, List.getElem?_cons_zero]; rfl) (by kernel_rfl) (by kernel_rfl) (by kernel_rfl) (by exact fun _ _ _ h => h) (by first | (refine Or.inl ⟨by rfl, ?_⟩; intro W hW; go_simp; try with_reducible rfl) | exact Or.inr ⟨by rfl, rfl⟩) ?_; try simp only [Act.put, List.setIfInBounds_toArray, List.set_cons_zero, List.set_cons_succ])
            (refine takeE Ext.tr 33 (by simp only [List.getElem?_toArray, List.getElem?_cons_succ, List.getElem?_cons_zero]; rfl) (by kernel_rfl) (by kernel_rfl) (by kernel_rfl) (by exact fun _ _ _ h => h) (by first | (refine Or.inl ⟨by rfl, ?_⟩; intro W hW; go_simp; try with_reducible rfl) | exact Or.inr ⟨by rfl, rfl⟩) ?_; try simp only [Act.put, List.setIfInBounds_toArray, List.set_cons_zero, List.set_cons_succ])
            (refine takeE Ext.tr 31 (by simp only [List.getElem?_toArray, List.getElem?_cons_succ, List.getElem?_cons_zero]; rfl) (by kernel_rfl) (by kernel_rfl) (by kernel_rfl) (by exact fun _ _ _ h => h) (by first | (refine Or.inl ⟨by rfl, ?_⟩; intro W hW; go_simp; try with_reducible rfl) | exact Or.inr ⟨by rfl, rfl⟩) ?_; try simp only [Act.put, List.setIfInBounds_toArray, List.set_cons_zero, List.set_cons_succ])
            (refine takeE Ext.tr 34 (by simp only [List.getElem?_toArray, List.getElem?_cons_succ, List.getElem?_cons_zero]; rfl) (by kernel_rfl) (by kernel_rfl) (by kernel_rfl) (by exact fun _ _ _ h => h) (by first | (refine Or.inl ⟨by rfl, ?_⟩; intro W hW; go_simp; try with_reducible rfl) | exact Or.inr ⟨by rfl, rfl⟩) ?_; try simp only [Act.put, List.setIfInBounds_toArray, List.set_cons_zero, List.set_cons_succ])
            (refine takeE Ext.tr 35 (by simp only [List.getElem?_toArray, List.getElem?_cons_succ, List.getElem?_cons_zero]; rfl) (by kernel_rfl) (by kernel_rfl) (by kernel_rfl) (by exact fun _ _ _ h => h) (by first | (refine Or.inl ⟨by rfl, ?_⟩; intro W hW; go_simp; try with_reducible rfl) | exact Or.inr ⟨by rfl, rfl⟩) ?_; try simp only [Act.put, List.setIfInBounds_toArray, List.set_cons_zero, List.set_cons_succ])
            (refine takeE Ext.tr 36 (by simp only [List.getElem?_toArray, List.getElem?_cons_succ, List.getElem?_cons_zero]; rfl) (by kernel_rfl) (by kernel_rfl) (by kernel_rfl) (by exact fun _ _ _ h => h) (by first | (refine Or.inl ⟨by rfl, ?_⟩; intro W hW; go_simp; try with_reducible rfl) | exact Or.inr ⟨by rfl, rfl⟩) ?_; try simp only [Act.put, List.setIfInBounds_toArray, List.set_cons_zero, List.set_cons_succ])
            (refine takeE Ext.tr 37 (by simp only [List.getElem?_toArray, List.getElem?_cons_succ, List.getElem?_cons_zero]; rfl) (by kernel_rfl) (by kernel_rfl) (by kernel_rfl) (by exact fun _ _ _ h => h) (by first | (refine Or.inl ⟨by rfl, ?_⟩; intro W hW; go_simp; try with_reducible rfl) | exact Or.inr ⟨by rfl, rfl⟩) ?_; try simp only [Act.put, List.setIfInBounds_toArray, List.set_cons_zero, List.set_cons_succ])
            (refine takeE Ext.tr 40 (by simp only [List.getElem?_toArray, List.getElem?_cons_succ, List.getElem?_cons_zero]; rfl) (by kernel_rfl) (by kernel_rfl) (by kernel_rfl) (by exact fun _ _ _ h => h) (by first | (refine Or.inl ⟨by rfl, ?_⟩; intro W hW; go_simp; try with_reducible rfl) | exact Or.inr ⟨by rfl, rfl⟩) ?_; try simp only [Act.put, List.setIfInBounds_toArray, List.set_cons_zero, List.set_cons_succ])
            (refine takeE Ext.tr 41 (by simp only [List.getElem?_toArray, List.getElem?_cons_succ, List.getElem?_cons_zero]; rfl) (by kernel_rfl) (by kernel_rfl) (by kernel_rfl) (by exact fun _ _ _ h => h) (by first | (refine Or.inl ⟨by rfl, ?_⟩; intro W hW; go_simp; try with_reducible rfl) | exact Or.inr ⟨by rfl, rfl⟩) ?_; try simp only [Act.put, List.setIfInBounds_toArray, List.set_cons_zero, List.set_cons_succ])
            refine wpAnyE_one (i := 38) (by kernel_rfl) (by simp only [List.getElem?_toArray, List.getElem?_cons_succ, List.getElem?_cons_zero]; rfl) (fun K hK => ?_)
            go_simp
            refine (v_kept (HJD.out.next hE6).rc HK9.out.1.ok).mono ?_
            rintro en v7 ⟨A7, n7, c7, rfl, hl7, hb7⟩
            have hn7 : ¬ c.c4 ≤ (n7 : Int) := by have := HFEW.out; have h2 := hl7.1; rw [intV_len] at h2; have h3 : (sqs m9.ks).length = m9.ks.length := (by simp [sqs]); omega
            have hn8 := decide_eq_false hn7
            clear hl7
            have hE7 : Ext wd v7 := Ext.trans _ _ _ hE6 hb7
            clear q26 q27 p7 p10 p11 t4
            have q26 : ∀ W, Ext v7 W → W.cell? ⟨gb, 26, none⟩ = some (.int .i64 m9.pd) := fun W hW => (HGD.out.below (Ext.trans _ _ _ hE7 hW)).cell 26 rfl
            have q27 : ∀ W, Ext v7 W → W.cell? ⟨gb, 27, none⟩ = some (.bool m9.dn) := fun W hW => (HGD.out.below (Ext.trans _ _ _ hE7 hW)).cell 27 rfl
            have p7 : ∀ W, Ext v7 W → W.cell? ⟨wa.heap.size, 7, none⟩ = some (.int .i64 m9.pl) := fun W hW => (HLD.out.below (Ext.trans _ _ _ hE7 hW)).cell 7 rfl
            have p10 : ∀ W, Ext v7 W → W.cell? ⟨wa.heap.size, 10, none⟩ = some (.int .i64 m9.ar) := fun W hW => (HLD.out.below (Ext.trans _ _ _ hE7 hW)).cell 10 rfl
            have p11 : ∀ W, Ext v7 W → W.cell? ⟨wa.heap.size, 11, none⟩ = some (.int .i64 m9.pd) := fun W hW => (HLD.out.below (Ext.trans _ _ _ hE7 hW)).cell 11 rfl
            have t4 : ∀ W, Ext v7 W → W.cell? ⟨w.heap.size, 4, none⟩ = some (.int .i64 c.c4) := fun W hW => (HCD.out.below (Ext.trans _ _ _ hE7 hW)).cell 4 rfl
            refine hK.out _ _ hb7 ?_
            clear hK K
            try simp only [Act.put, List.setIfInBounds_toArray, List.set_cons_zero, List.set_cons_succ]
            (refine takeE Ext.tr 39 (by simp only [List.getElem?_toArray, List.getElem?_cons_succ, List.getElem?_cons_zero]; rfl) (by kernel_rfl) (by kernel_rfl) (by kernel_rfl) (by exact fun _ _ _ h => h) (by first | (refine Or.inl ⟨by rfl, ?_⟩; intro W hW; go_simp; try with_reducible rfl) | exact Or.inr ⟨by rfl, rfl⟩) ?_; try simp only [Act.put, List.setIfInBounds_toArray, List.set_cons_zero, List.set_cons_succ])
            (refine takeE Ext.tr 42 (by simp only [List.getElem?_toArray, List.getElem?_cons_succ, List.getElem?_cons_zero]; rfl) (by kernel_rfl) (by kernel_rfl) (by kernel_rfl) (by exact fun _ _ _ h => h) (by first | (refine Or.inl ⟨by rfl, ?_⟩; intro W hW; go_simp; try with_reducible rfl) | exact Or.inr ⟨by rfl, rfl⟩) ?_; try simp only [Act.put, List.setIfInBounds_toArray, List.set_cons_zero, List.set_cons_succ])
            (refine takeE Ext.tr 43 (by simp only [List.getElem?_toArray, List.getElem?_cons_succ, List.getElem?_cons_zero]; rfl) (by kernel_rfl) (by kernel_rfl) (by kernel_rfl) (by exact fun _ _ _ h => h) (by first | (refine Or.inl ⟨by rfl, ?_⟩; intro W hW; go_simp; try with_reducible rfl) | exact Or.inr ⟨by rfl, rfl⟩) ?_; try simp only [Act.put, List.setIfInBounds_toArray, List.set_cons_zero, List.set_cons_succ])
            refine wpAnyE_done (by kernel_rfl) ?_ _
            skip
            have HJ7 := Lib.hid (HJD.out.next hE7)
            clear q26 q27 p7 p10 p11 t4
            go_wp2
            go_roundw
            case rel => exact ⟨i + 1, F9, r9, e9, z9, m9, by omega, by omega, by go_num, rfl, HJ7.out, HK9.out⟩
            case measure => simp [intOf]; omega
        · by_cases hpd : m.pd = 0
          · have HPD := Lib.hid hpd
            clear hpd
            go_wp2_with (first
              | (go_at_call 14; refine (v_issue_no JR.out.rc HPD.out).mono ?_; rintro en wa1 ⟨rfl, hb1⟩
                 have HC1 := Lib.hid (JR.out.code (JR.out.rc.below hb1) (St.ext hb1) (Gr.refl _ _))
                 have hzp := Bk.new wa1 40 [.int .i64 0, .int .i64 0, .int .i64 0, .int .i64 0, .int .i64 0, .int .i64 0, .int .i64 0, .int .i64 0, .slice none 0 0]
                 have hg1 := HC1.out.2.2.1
                 clear hb1)
              | ((with_reducible refine at_store 40 (.tmp 23) (.tmp 126) (by rfl) ?_); refine wpList_store_bk rowP rfl (.tmp 23) (.tmp 126) rfl wa1.heap.size 0 rfl hzp ([.int .i64 zPv.h.kd, .int .i64 zPv.h.fl, .int .i64 zPv.h.pa, .int .i64 zPv.h.sr, .int .i64 zPv.h.ds, .int .i64 zPv.h.cn, .int .i64 zPv.h.sq, .int .i64 zPv.h.pu, .slice zPv.A zPv.n zPv.c]) rfl rfl (by decide) (by simp [Value.oneCell']) ?_; rintro wa2 hp2 hw2
                 rw [lay_all _ _ (by rfl)] at hp2
                 have hb2 : Below wa1.heap.size wa1 wa2 := ((Below.refl _ _).alloc (Nat.le_refl _) (.cells #[.int .i64 0, .int .i64 0, .int .i64 0, .int .i64 0, .int .i64 0, .int .i64 0, .int .i64 0, .int .i64 0, .slice none 0 0] 40)).trans (hw2.below (Nat.le_refl _) (by simp))
                 have HR2 := Lib.hid (And.intro (HC1.out.1.below hb2) (And.intro (HC1.out.2.1.below hb2) (And.intro (HC1.out.2.2.1.below hb2) (HC1.out.2.2.2.2.2.trans (hb2.mono HC1.out.2.2.2.2.2.size)))))
                 have hg2 := HR2.out.2.2.1
                 have HP2 := Lib.hid hp2
                 clear hp2 hw2 hb2 hzp hg1)
              | ((with_reducible refine at_load 34 (.tmp 15) (by rfl) ?_); refine wpList_load_bk rowRv rfl (.tmp 15) rfl gb 0 rfl hg2 [.int .i64 z.c0, .int .i64 m.pa, .int .i64 z.c2, .int .i64 z.c3, .int .i64 m.size, .int .i64 z.c5, .int .i64 z.c6, .int .i64 z.c7, .int .i64 z.c8, .int .i64 z.c9, .int .i64 z.c10, .int .i64 z.c11, .int .i64 z.c12, .int .i64 z.c13, .int .i64 m.sr, .int .i64 m.ds, .int .i64 m.cn, .int .i64 m.cl, .int .i64 m.base, .slice z.A z.n z.c, .slice z.J z.jn z.jc, .int .i64 m.jm.ps.length, .int .i64 m.jm.N, .int .i64 m.jm.T, .int .i64 m.ar, .int .i64 m.pl, .int .i64 m.pd, .bool m.dn] rfl rfl ?_)
              | (go_at_call 15; refine (r_issue_no HR2.out.2.1 HPD.out).mono ?_; rintro en wa3 ⟨rfl, hb3⟩
                 have HR3 := Lib.hid (And.intro (HR2.out.1.below hb3) (And.intro (HR2.out.2.1.below hb3) (And.intro (HR2.out.2.2.1.below hb3) (HR2.out.2.2.2.trans (hb3.mono HR2.out.2.2.2.size)))))
                 have HP3 := Lib.hid (HP2.out.below hb3)
                 have hz25 : Bk ((wa3.alloc (.cells #[.int .i64 0, .int .i64 0, .int .i64 0, .int .i64 0, .int .i64 0, .int .i64 0, .int .i64 0, .int .i64 0, .int .i64 0, .int .i64 0, .int .i64 0, .int .i64 0, .int .i64 0, .int .i64 0, .int .i64 0, .int .i64 0, .int .i64 0, .int .i64 0, .int .i64 0, .slice none 0 0, .slice none 0 0, .int .i64 0, .int .i64 0, .int .i64 0, .int .i64 0, .int .i64 0, .int .i64 0, .bool false] 34)).alloc (.cells #[.int .i64 0, .int .i64 0, .int .i64 0, .int .i64 0, .int .i64 0, .int .i64 0, .int .i64 0, .int .i64 0, .slice none 0 0] 40)) 34 wa3.heap.size [.int .i64 0, .int .i64 0, .int .i64 0, .int .i64 0, .int .i64 0, .int .i64 0, .int .i64 0, .int .i64 0, .int .i64 0, .int .i64 0, .int .i64 0, .int .i64 0, .int .i64 0, .int .i64 0, .int .i64 0, .int .i64 0, .int .i64 0, .int .i64 0, .int .i64 0, .slice none 0 0, .slice none 0 0, .int .i64 0, .int .i64 0, .int .i64 0, .int .i64 0, .int .i64 0, .int .i64 0, .bool false] := (Bk.new wa3 34 [.int .i64 0, .int .i64 0, .int .i64 0, .int .i64 0, .int .i64 0, .int .i64 0, .int .i64 0, .int .i64 0, .int .i64 0, .int .i64 0, .int .i64 0, .int .i64 0, .int .i64 0, .int .i64 0, .int .i64 0, .int .i64 0, .int .i64 0, .int .i64 0, .int .i64 0, .slice none 0 0, .slice none 0 0, .int .i64 0, .int .i64 0, .int .i64 0, .int .i64 0, .int .i64 0, .int .i64 0, .bool false]).alloc _
                 have hz26 : Bk ((wa3.alloc (.cells #[.int .i64 0, .int .i64 0, .int .i64 0, .int .i64 0, .int .i64 0, .int .i64 0, .int .i64 0, .int .i64 0, .int .i64 0, .int .i64 0, .int .i64 0, .int .i64 0, .int .i64 0, .int .i64 0, .int .i64 0, .int .i64 0, .int .i64 0, .int .i64 0, .int .i64 0, .slice none 0 0, .slice none 0 0, .int .i64 0, .int .i64 0, .int .i64 0, .int .i64 0, .int .i64 0, .int .i64 0, .bool false] 34)).alloc (.cells #[.int .i64 0, .int .i64 0, .int .i64 0, .int .i64 0, .int .i64 0, .int .i64 0, .int .i64 0, .int .i64 0, .slice none 0 0] 40)) 40 (wa3.heap.size + 1) [.int .i64 0, .int .i64 0, .int .i64 0, .int .i64 0, .int .i64 0, .int .i64 0, .int .i64 0, .int .i64 0, .slice none 0 0] := by
                   have := Bk.new (wa3.alloc (.cells #[.int .i64 0, .int .i64 0, .int .i64 0, .int .i64 0, .int .i64 0, .int .i64 0, .int .i64 0, .int .i64 0, .int .i64 0, .int .i64 0, .int .i64 0, .int .i64 0, .int .i64 0, .int .i64 0, .int .i64 0, .int .i64 0, .int .i64 0, .int .i64 0, .int .i64 0, .slice none 0 0, .slice none 0 0, .int .i64 0, .int .i64 0, .int .i64 0, .int .i64 0, .int .i64 0, .int .i64 0, .bool false] 34)) 40 [.int .i64 0, .int .i64 0, .int .i64 0, .int .i64 0, .int .i64 0, .int .i64 0, .int .i64 0, .int .i64 0, .slice none 0 0]
                   rw [World.size_alloc] at this
                   exact this
                 have HBA := Lib.hid (((Below.refl wa3.heap.size wa3).alloc (Nat.le_refl _) (.cells #[.int .i64 0, .int .i64 0, .int .i64 0, .int .i64 0, .int .i64 0, .int .i64 0, .int .i64 0, .int .i64 0, .int .i64 0, .int .i64 0, .int .i64 0, .int .i64 0, .int .i64 0, .int .i64 0, .int .i64 0, .int .i64 0, .int .i64 0, .int .i64 0, .int .i64 0, .slice none 0 0, .slice none 0 0, .int .i64 0, .int .i64 0, .int .i64 0, .int .i64 0, .int .i64 0, .int .i64 0, .bool false] 34)).alloc (by simp) (.cells #[.int .i64 0, .int .i64 0, .int .i64 0, .int .i64 0, .int .i64 0, .int .i64 0, .int .i64 0, .int .i64 0, .slice none 0 0] 40))
                 clear hb3 hg2)
              | ((with_reducible refine at_store 34 (.tmp 25) (.tmp 131) (by rfl) ?_); refine wpList_store_bk rowRv rfl (.tmp 25) (.tmp 131) rfl wa3.heap.size 0 rfl hz25 ([.int .i64 z.c0, .int .i64 m.pa, .int .i64 z.c2, .int .i64 z.c3, .int .i64 m.size, .int .i64 z.c5, .int .i64 z.c6, .int .i64 z.c7, .int .i64 z.c8, .int .i64 z.c9, .int .i64 z.c10, .int .i64 z.c11, .int .i64 z.c12, .int .i64 z.c13, .int .i64 m.sr, .int .i64 m.ds, .int .i64 m.cn, .int .i64 m.cl, .int .i64 m.base, .slice z.A z.n z.c, .slice z.J z.jn z.jc, .int .i64 m.jm.ps.length, .int .i64 m.jm.N, .int .i64 m.jm.T, .int .i64 m.ar, .int .i64 m.pl, .int .i64 m.pd, .bool m.dn]) rfl rfl (by decide) (by simp [Value.oneCell']) ?_; rintro wa4 h25 hw4
                 rw [lay_all _ _ (by rfl)] at h25
                 have h26 := hz26.wr hw4 (by omega)
                 have HBB := Lib.hid (HBA.out.trans (hw4.below (Nat.le_refl _) (by simp; omega)))
                 clear hz25 hz26 hw4)
              | ((with_reducible refine at_store 40 (.tmp 26) (.tmp 132) (by rfl) ?_); refine wpList_store_bk rowP rfl (.tmp 26) (.tmp 132) rfl (wa3.heap.size + 1) 0 rfl h26 ([.int .i64 zPv.h.kd, .int .i64 zPv.h.fl, .int .i64 zPv.h.pa, .int .i64 zPv.h.sr, .int .i64 zPv.h.ds, .int .i64 zPv.h.cn, .int .i64 zPv.h.sq, .int .i64 zPv.h.pu, .slice zPv.A zPv.n zPv.c]) rfl rfl (by decide) (by simp [Value.oneCell']) ?_; rintro wa5 k26 hw5
                 rw [lay_all _ _ (by rfl)] at k26
                 have k25 := h25.wr hw5 (by omega)
                 have HBC := Lib.hid (HBB.out.trans (hw5.below (by omega) HBB.out.size))
                 have hg5 := HR3.out.2.2.1.below HBC.out
                 have HP5 := Lib.hid (HP3.out.below HBC.out)
                 have HK26 := Lib.hid k26
                 clear h25 h26 hw5 k26)
              | ((with_reducible refine at_load 34 (.tmp 25) (by rfl) ?_); refine wpList_load_bk rowRv rfl (.tmp 25) rfl wa3.heap.size 0 rfl k25 ([.int .i64 z.c0, .int .i64 m.pa, .int .i64 z.c2, .int .i64 z.c3, .int .i64 m.size, .int .i64 z.c5, .int .i64 z.c6, .int .i64 z.c7, .int .i64 z.c8, .int .i64 z.c9, .int .i64 z.c10, .int .i64 z.c11, .int .i64 z.c12, .int .i64 z.c13, .int .i64 m.sr, .int .i64 m.ds, .int .i64 m.cn, .int .i64 m.cl, .int .i64 m.base, .slice z.A z.n z.c, .slice z.J z.jn z.jc, .int .i64 m.jm.ps.length, .int .i64 m.jm.N, .int .i64 m.jm.T, .int .i64 m.ar, .int .i64 m.pl, .int .i64 m.pd, .bool m.dn]) rfl rfl ?_)
              | ((with_reducible refine at_store 34 (.tmp 15) (.tmp 134) (by rfl) ?_); refine wpList_store_bk rowRv rfl (.tmp 15) (.tmp 134) rfl gb 0 rfl hg5 ([.int .i64 z.c0, .int .i64 m.pa, .int .i64 z.c2, .int .i64 z.c3, .int .i64 m.size, .int .i64 z.c5, .int .i64 z.c6, .int .i64 z.c7, .int .i64 z.c8, .int .i64 z.c9, .int .i64 z.c10, .int .i64 z.c11, .int .i64 z.c12, .int .i64 z.c13, .int .i64 m.sr, .int .i64 m.ds, .int .i64 m.cn, .int .i64 m.cl, .int .i64 m.base, .slice z.A z.n z.c, .slice z.J z.jn z.jc, .int .i64 m.jm.ps.length, .int .i64 m.jm.N, .int .i64 m.jm.T, .int .i64 m.ar, .int .i64 m.pl, .int .i64 m.pd, .bool m.dn]) rfl rfl (by show 0 + 28 ≤ 28; decide) (by simp [Value.oneCell']) ?_; rintro wa6 hk6 hw6
                 rw [lay_all _ _ (by rfl)] at hk6
                 have J6 : Hid (JV w1 gb F r e z m wa6) := Lib.hid (JV.ref (HR3.out.1) (HR3.out.2.1.below HBC.out) HBC.out (Below.refl _ _) hk6 hw6 HC1.out.2.2.2.1 HC1.out.2.2.2.2.1 HR3.out.2.2.2)
                 have hp6 := HP5.out.wr hw6 (by have h1 := HC1.out.2.2.1.lt; omega)
                 have hq6 := HK26.out.wr hw6 (by have h1 := HR3.out.2.2.1.lt; omega)
                 clear hk6 hw6 hg5 k25)
              | ((with_reducible refine at_load 40 (.tmp 23) (by rfl) ?_); refine wpList_load_bk rowP rfl (.tmp 23) rfl wa1.heap.size 0 rfl hp6 ([.int .i64 zPv.h.kd, .int .i64 zPv.h.fl, .int .i64 zPv.h.pa, .int .i64 zPv.h.sr, .int .i64 zPv.h.ds, .int .i64 zPv.h.cn, .int .i64 zPv.h.sq, .int .i64 zPv.h.pu, .slice zPv.A zPv.n zPv.c]) rfl rfl ?_)
              | ((with_reducible refine at_load 40 (.tmp 26) (by rfl) ?_); refine wpList_load_bk rowP rfl (.tmp 26) rfl (wa3.heap.size + 1) 0 rfl hq6 ([.int .i64 zPv.h.kd, .int .i64 zPv.h.fl, .int .i64 zPv.h.pa, .int .i64 zPv.h.sr, .int .i64 zPv.h.ds, .int .i64 zPv.h.cn, .int .i64 zPv.h.sq, .int .i64 zPv.h.pu, .slice zPv.A zPv.n zPv.c]) rfl rfl ?_)
              | (go_at_call 16; refine (r_same (q := zPv) (q2 := zPv) (pv_nil (F := fun _ => False) wa6 zPv rfl rfl rfl rfl (by decide)) (pv_nil (F := fun _ => False) wa6 zPv rfl rfl rfl rfl (by decide))).mono ?_; rintro en wa7 ⟨rfl, hb7⟩
                 rw [Pk.same_refl]
                 have J9 := Lib.hid (J6.out.next hb7)
                 clear hb7 hp6 hq6))
            obtain ⟨F9, hF9⟩ : ∃ F9, F9 = F := ⟨_, rfl⟩
            obtain ⟨r9, hr9⟩ : ∃ r9, r9 = r := ⟨_, rfl⟩
            obtain ⟨e9, he9⟩ : ∃ e9, e9 = e := ⟨_, rfl⟩
            obtain ⟨z9, hz9⟩ : ∃ z9, z9 = z := ⟨_, rfl⟩
            obtain ⟨m9, hm9⟩ : ∃ m9, m9 = m := ⟨_, rfl⟩
            have HK9 : Hid (m9.Fit (i + 1) ∧ m9.jm.op ≤ 65536 ∧ m9.size = size) := Lib.hid (by rw [hm9]; exact ⟨HM.out.1.mono (by omega), HM.out.2.1, HM.out.2.2⟩)
            rw [← hF9, ← hr9, ← he9, ← hz9, ← hm9] at J9
            rw [← hr9]
            clear hF9 hr9 he9 hz9 hm9
            have HFEW : Hid ((m9.ks.length : Int) < c.c4) := Lib.hid (by have := HK9.out.1.few; have h2 := HK9.out.2.2; have h3 := HSZ.out; omega)
            have HZN : Hid (z9.n ≤ 100000) := Lib.hid (by have := J9.out.rf.kp.len; have h2 := HK9.out.1.lc; omega)
            have hct := HK9.out.1.ok.ct
            have hct2 : ¬ ((m9.ar : Int) < (m9.pl : Int) + m9.pd) := by omega
            have hwr : IntKind.i64.wrap ((m9.pl : Int) + m9.pd) = (m9.pl : Int) + m9.pd := by rw [IntKind.wrap_i64]; omega
            have hct3 := decide_eq_false hct2
            clear hct
            go_wp2_with (first
              | (go_at_call 18; refine (v_line J9.out.rc).mono ?_; rintro en wa ⟨rfl, hba⟩
                 have hzl := Bk.new wa 58 [.int .i64 0, .int .i64 0, .int .i64 0, .int .i64 0, .int .i64 0, .int .i64 0, .int .i64 0, .int .i64 0, .int .i64 0, .int .i64 0, .int .i64 0, .int .i64 0, .bool false, .bool false]
                 have JA9 := Lib.hid (J9.out.next hba)
                 clear hba)
              | ((with_reducible refine at_store 58 (.tmp 28) (.tmp 145) (by rfl) ?_); refine wpList_store_bk rowLn rfl (.tmp 28) (.tmp 145) rfl wa.heap.size 0 rfl hzl [.int .i64 m9.sr, .int .i64 m9.ds, .int .i64 m9.cn, .int .i64 m9.cl, .int .i64 m9.base, .int .i64 0, .int .i64 0, .int .i64 m9.pl, .int .i64 0, .int .i64 0, .int .i64 m9.ar, .int .i64 m9.pd, .bool false, .bool m9.dn] rfl rfl (by decide) (by simp [Value.oneCell']) ?_; rintro wb zb hwb
                 rw [lay_all _ _ (by rfl)] at zb
                 have HLB := Lib.hid zb
                 have HJL := Lib.hid (JA9.out.next (((Below.refl _ _).alloc (Nat.le_refl _) (.cells #[.int .i64 0, .int .i64 0, .int .i64 0, .int .i64 0, .int .i64 0, .int .i64 0, .int .i64 0, .int .i64 0, .int .i64 0, .int .i64 0, .int .i64 0, .int .i64 0, .bool false, .bool false] 58)).trans (hwb.below (Nat.le_refl _) (by simp))))
                 clear zb hwb hzl))
            refine wp_region_E Ext (by kernel_rfl) (fun wd hbd hsz => ?_)
            have HJD := Lib.hid (HJL.out.next hbd)
            have HGD := Lib.hid (HJD.out.bx)
            have HLD := Lib.hid (HLB.out.below hbd)
            have HCD := Lib.hid (HCF.out.below HJD.out.bel)
            have HBD := Lib.hid hbd
            have q26 : ∀ W, Ext wd W → W.cell? ⟨gb, 26, none⟩ = some (.int .i64 m9.pd) := fun W hW => (HGD.out.below hW).cell 26 rfl
            have q27 : ∀ W, Ext wd W → W.cell? ⟨gb, 27, none⟩ = some (.bool m9.dn) := fun W hW => (HGD.out.below hW).cell 27 rfl
            have p7 : ∀ W, Ext wd W → W.cell? ⟨wa.heap.size, 7, none⟩ = some (.int .i64 m9.pl) := fun W hW => (HLD.out.below hW).cell 7 rfl
            have p10 : ∀ W, Ext wd W → W.cell? ⟨wa.heap.size, 10, none⟩ = some (.int .i64 m9.ar) := fun W hW => (HLD.out.below hW).cell 10 rfl
            have p11 : ∀ W, Ext wd W → W.cell? ⟨wa.heap.size, 11, none⟩ = some (.int .i64 m9.pd) := fun W hW => (HLD.out.below hW).cell 11 rfl
            have t4 : ∀ W, Ext wd W → W.cell? ⟨w.heap.size, 4, none⟩ = some (.int .i64 c.c4) := fun W hW => (HCD.out.below hW).cell 4 rfl
            clear hsz
            (refine takeE Ext.tr 0 (by simp only [List.getElem?_toArray, List.getElem?_cons_succ, List.getElem?_cons_zero]; rfl) (by kernel_rfl) (by kernel_rfl) (by kernel_rfl) (by exact fun _ _ _ h => h) (by first | (refine Or.inl ⟨by rfl, ?_⟩; intro W hW; exact exec_load_bk rowLn (.tmp 28) rfl wa.heap.size 0 rfl (HLD.out.below hW) [.int .i64 m9.sr, .int .i64 m9.ds, .int .i64 m9.cn, .int .i64 m9.cl, .int .i64 m9.base, .int .i64 0, .int .i64 0, .int .i64 m9.pl, .int .i64 0, .int .i64 0, .int .i64 m9.ar, .int .i64 m9.pd, .bool false, .bool m9.dn] rfl rfl) | exact Or.inr ⟨by rfl, rfl⟩) ?_; try simp only [Act.put, List.setIfInBounds_toArray, List.set_cons_zero, List.set_cons_succ])
            (refine takeE Ext.tr 1 (by simp only [List.getElem?_toArray, List.getElem?_cons_succ, List.getElem?_cons_zero]; rfl) (by kernel_rfl) (by kernel_rfl) (by kernel_rfl) (by exact fun _ _ _ h => h) (by first | (refine Or.inl ⟨by rfl, ?_⟩; intro W hW; exact exec_load_bk rowRv (.tmp 15) rfl gb 0 rfl (HGD.out.below hW) [.int .i64 z9.c0, .int .i64 m9.pa, .int .i64 z9.c2, .int .i64 z9.c3, .int .i64 m9.size, .int .i64 z9.c5, .int .i64 z9.c6, .int .i64 z9.c7, .int .i64 z9.c8, .int .i64 z9.c9, .int .i64 z9.c10, .int .i64 z9.c11, .int .i64 z9.c12, .int .i64 z9.c13, .int .i64 m9.sr, .int .i64 m9.ds, .int .i64 m9.cn, .int .i64 m9.cl, .int .i64 m9.base, .slice z9.A z9.n z9.c, .slice z9.J z9.jn z9.jc, .int .i64 m9.jm.ps.length, .int .i64 m9.jm.N, .int .i64 m9.jm.T, .int .i64 m9.ar, .int .i64 m9.pl, .int .i64 m9.pd, .bool m9.dn] rfl rfl) | exact Or.inr ⟨by rfl, rfl⟩) ?_; try simp only [Act.put, List.setIfInBounds_toArray, List.set_cons_zero, List.set_cons_succ])
            refine wpAnyE_one (i := 2) (by kernel_rfl) (by simp only [List.getElem?_toArray, List.getElem?_cons_succ, List.getElem?_cons_zero]; rfl) (fun K hK => ?_)
            go_simp
            refine (r_line z9 m9 _).mono ?_
            rintro en v1 ⟨rfl, hb1⟩
            have hE1 : Ext wd v1 := hb1
            clear q26 q27 p7 p10 p11 t4
            have q26 : ∀ W, Ext v1 W → W.cell? ⟨gb, 26, none⟩ = some (.int .i64 m9.pd) := fun W hW => (HGD.out.below (Ext.trans _ _ _ hE1 hW)).cell 26 rfl
            have q27 : ∀ W, Ext v1 W → W.cell? ⟨gb, 27, none⟩ = some (.bool m9.dn) := fun W hW => (HGD.out.below (Ext.trans _ _ _ hE1 hW)).cell 27 rfl
            have p7 : ∀ W, Ext v1 W → W.cell? ⟨wa.heap.size, 7, none⟩ = some (.int .i64 m9.pl) := fun W hW => (HLD.out.below (Ext.trans _ _ _ hE1 hW)).cell 7 rfl
            have p10 : ∀ W, Ext v1 W → W.cell? ⟨wa.heap.size, 10, none⟩ = some (.int .i64 m9.ar) := fun W hW => (HLD.out.below (Ext.trans _ _ _ hE1 hW)).cell 10 rfl
            have p11 : ∀ W, Ext v1 W → W.cell? ⟨wa.heap.size, 11, none⟩ = some (.int .i64 m9.pd) := fun W hW => (HLD.out.below (Ext.trans _ _ _ hE1 hW)).cell 11 rfl
            have t4 : ∀ W, Ext v1 W → W.cell? ⟨w.heap.size, 4, none⟩ = some (.int .i64 c.c4) := fun W hW => (HCD.out.below (Ext.trans _ _ _ hE1 hW)).cell 4 rfl
            refine hK.out _ _ hb1 ?_
            clear hK K
            try simp only [Act.put, List.setIfInBounds_toArray, List.set_cons_zero, List.set_cons_succ]
            (refine takeE Ext.tr 3 (by simp only [List.getElem?_toArray, List.getElem?_cons_succ, List.getElem?_cons_zero]; rfl) (by kernel_rfl) (by kernel_rfl) (by kernel_rfl) (by exact fun _ _ _ h => h) (by first | (refine Or.inl ⟨by rfl, ?_⟩; intro W hW; go_simp; try with_reducible rfl) | exact Or.inr ⟨by rfl, rfl⟩) ?_; try simp only [Act.put, List.setIfInBounds_toArray, List.set_cons_zero, List.set_cons_succ])
            (refine takeE Ext.tr 4 (by simp only [List.getElem?_toArray, List.getElem?_cons_succ, List.getElem?_cons_zero]; rfl) (by kernel_rfl) (by kernel_rfl) (by kernel_rfl) (by exact fun _ _ _ h => h) (by first | (refine Or.inl ⟨by rfl, ?_⟩; intro W hW; go_simp; try with_reducible rfl) | exact Or.inr ⟨by rfl, rfl⟩) ?_; try simp only [Act.put, List.setIfInBounds_toArray, List.set_cons_zero, List.set_cons_succ])
            (refine takeE Ext.tr 5 (by simp only [List.getElem?_toArray, List.getElem?_cons_succ, List.getElem?_cons_zero]; rfl) (by kernel_rfl) (by kernel_rfl) (by kernel_rfl) (by exact fun _ _ _ h => h) (by first | (refine Or.inl ⟨by rfl, ?_⟩; intro W hW; go_simp; try with_reducible rfl) | exact Or.inr ⟨by rfl, rfl⟩) ?_; try simp only [Act.put, List.setIfInBounds_toArray, List.set_cons_zero, List.set_cons_succ])
            (refine takeE Ext.tr 7 (by simp only [List.getElem?_toArray, List.getElem?_cons_succ, List.getElem?_cons_zero]; rfl) (by kernel_rfl) (by kernel_rfl) (by kernel_rfl) (by exact fun _ _ _ h => h) (by first | (refine Or.inl ⟨by rfl, ?_⟩; intro W hW; go_simp; try with_reducible rfl) | exact Or.inr ⟨by rfl, rfl⟩) ?_; try simp only [Act.put, List.setIfInBounds_toArray, List.set_cons_zero, List.set_cons_succ])
            (refine takeE Ext.tr 8 (by simp only [List.getElem?_toArray, List.getElem?_cons_succ, List.getElem?_cons_zero]; rfl) (by kernel_rfl) (by kernel_rfl) (by kernel_rfl) (by exact fun _ _ _ h => h) (by first | (refine Or.inl ⟨by rfl, ?_⟩; intro W hW; go_simp; try with_reducible rfl) | exact Or.inr ⟨by rfl, rfl⟩) ?_; try simp only [Act.put, List.setIfInBounds_toArray, List.set_cons_zero, List.set_cons_succ])
            refine wpAnyE_one (i := 6) (by kernel_rfl) (by simp only [List.getElem?_toArray, List.getElem?_cons_succ, List.getElem?_cons_zero]; rfl) (fun K hK => ?_)
            go_simp
            refine (v_pending (HJD.out.next hE1).rc).mono ?_
            rintro en v2 ⟨rfl, hb2⟩
            have hE2 : Ext wd v2 := Ext.trans _ _ _ hE1 hb2
            clear q26 q27 p7 p10 p11 t4
            have q26 : ∀ W, Ext v2 W → W.cell? ⟨gb, 26, none⟩ = some (.int .i64 m9.pd) := fun W hW => (HGD.out.below (Ext.trans _ _ _ hE2 hW)).cell 26 rfl
            have q27 : ∀ W, Ext v2 W → W.cell? ⟨gb, 27, none⟩ = some (.bool m9.dn) := fun W hW => (HGD.out.below (Ext.trans _ _ _ hE2 hW)).cell 27 rfl
            have p7 : ∀ W, Ext v2 W → W.cell? ⟨wa.heap.size, 7, none⟩ = some (.int .i64 m9.pl) := fun W hW => (HLD.out.below (Ext.trans _ _ _ hE2 hW)).cell 7 rfl
            have p10 : ∀ W, Ext v2 W → W.cell? ⟨wa.heap.size, 10, none⟩ = some (.int .i64 m9.ar) := fun W hW => (HLD.out.below (Ext.trans _ _ _ hE2 hW)).cell 10 rfl
            have p11 : ∀ W, Ext v2 W → W.cell? ⟨wa.heap.size, 11, none⟩ = some (.int .i64 m9.pd) := fun W hW => (HLD.out.below (Ext.trans _ _ _ hE2 hW)).cell 11 rfl
            have t4 : ∀ W, Ext v2 W → W.cell? ⟨w.heap.size, 4, none⟩ = some (.int .i64 c.c4) := fun W hW => (HCD.out.below (Ext.trans _ _ _ hE2 hW)).cell 4 rfl
            refine hK.out _ _ hb2 ?_
            clear hK K
            try simp only [Act.put, List.setIfInBounds_toArray, List.set_cons_zero, List.set_cons_succ]
            (refine takeE Ext.tr 9 (by simp only [List.getElem?_toArray, List.getElem?_cons_succ, List.getElem?_cons_zero]; rfl) (by kernel_rfl) (by kernel_rfl) (by kernel_rfl) (by exact fun _ _ _ h => h) (by first | (refine Or.inl ⟨by rfl, ?_⟩; intro W hW; go_simp; try with_reducible rfl) | exact Or.inr ⟨by rfl, rfl⟩) ?_; try simp only [Act.put, List.setIfInBounds_toArray, List.set_cons_zero, List.set_cons_succ])
            (refine takeE Ext.tr 10 (by simp only [List.getElem?_toArray, List.getElem?_cons_succ, List.getElem?_cons_zero]; rfl) (by kernel_rfl) (by kernel_rfl) (by kernel_rfl) (by exact fun _ _ _ h => h) (by first | (refine Or.inl ⟨by rfl, ?_⟩; intro W hW; go_simp; try with_reducible rfl) | exact Or.inr ⟨by rfl, rfl⟩) ?_; try simp only [Act.put, List.setIfInBounds_toArray, List.set_cons_zero, List.set_cons_succ])
            (refine takeE Ext.tr 11 (by simp only [List.getElem?_toArray, List.getElem?_cons_succ, List.getElem?_cons_zero]; rfl) (by kernel_rfl) (by kernel_rfl) (by kernel_rfl) (by exact fun _ _ _ h => h) (by first | (refine Or.inl ⟨by rfl, ?_⟩; intro W hW; go_simp; try with_reducible rfl) | exact Or.inr ⟨by rfl, rfl⟩) ?_; try simp only [Act.put, List.setIfInBounds_toArray, List.set_cons_zero, List.set_cons_succ])
            (refine takeE Ext.tr 12 (by simp only [List.getElem?_toArray, List.getElem?_cons_succ, List.getElem?_cons_zero]; rfl) (by kernel_rfl) (by kernel_rfl) (by kernel_rfl) (by exact fun _ _ _ h => h) (by first | (refine Or.inl ⟨by rfl, ?_⟩; intro W hW; go_simp; try with_reducible rfl) | exact Or.inr ⟨by rfl, rfl⟩) ?_; try simp only [Act.put, List.setIfInBounds_toArray, List.set_cons_zero, List.set_cons_succ])
            (refine takeE Ext.tr 14 (by simp only [List.getElem?_toArray, List.getElem?_cons_succ, List.getElem?_cons_zero]; rfl) (by kernel_rfl) (by kernel_rfl) (by kernel_rfl) (by exact fun _ _ _ h => h) (by first | (refine Or.inl ⟨by rfl, ?_⟩; intro W hW; go_simp; try with_reducible rfl) | exact Or.inr ⟨by rfl, rfl⟩) ?_; try simp only [Act.put, List.setIfInBounds_toArray, List.set_cons_zero, List.set_cons_succ])
            (refine takeE Ext.tr 15 (by simp only [List.getElem?_toArray, List.getElem?_cons_succ, List.getElem?_cons_zero]; rfl) (by kernel_rfl) (by kernel_rfl) (by kernel_rfl) (by exact fun _ _ _ h => h) (by first | (refine Or.inl ⟨by rfl, ?_⟩; intro W hW; go_simp; try with_reducible rfl) | exact Or.inr ⟨by rfl, rfl⟩) ?_; try simp only [Act.put, List.setIfInBounds_toArray, List.set_cons_zero, List.set_cons_succ])
            refine wpAnyE_one (i := 13) (by kernel_rfl) (by simp only [List.getElem?_toArray, List.getElem?_cons_succ, List.getElem?_cons_zero]; rfl) (fun K hK => ?_)
            go_simp
            refine (v_done (HJD.out.next hE2).rc).mono ?_
            rintro en v3 ⟨rfl, hb3⟩
            have hE3 : Ext wd v3 := Ext.trans _ _ _ hE2 hb3
            clear q26 q27 p7 p10 p11 t4
            have q26 : ∀ W, Ext v3 W → W.cell? ⟨gb, 26, none⟩ = some (.int .i64 m9.pd) := fun W hW => (HGD.out.below (Ext.trans _ _ _ hE3 hW)).cell 26 rfl
            have q27 : ∀ W, Ext v3 W → W.cell? ⟨gb, 27, none⟩ = some (.bool m9.dn) := fun W hW => (HGD.out.below (Ext.trans _ _ _ hE3 hW)).cell 27 rfl
            have p7 : ∀ W, Ext v3 W → W.cell? ⟨wa.heap.size, 7, none⟩ = some (.int .i64 m9.pl) := fun W hW => (HLD.out.below (Ext.trans _ _ _ hE3 hW)).cell 7 rfl
            have p10 : ∀ W, Ext v3 W → W.cell? ⟨wa.heap.size, 10, none⟩ = some (.int .i64 m9.ar) := fun W hW => (HLD.out.below (Ext.trans _ _ _ hE3 hW)).cell 10 rfl
            have p11 : ∀ W, Ext v3 W → W.cell? ⟨wa.heap.size, 11, none⟩ = some (.int .i64 m9.pd) := fun W hW => (HLD.out.below (Ext.trans _ _ _ hE3 hW)).cell 11 rfl
            have t4 : ∀ W, Ext v3 W → W.cell? ⟨w.heap.size, 4, none⟩ = some (.int .i64 c.c4) := fun W hW => (HCD.out.below (Ext.trans _ _ _ hE3 hW)).cell 4 rfl
            refine hK.out _ _ hb3 ?_
            clear hK K
            try simp only [Act.put, List.setIfInBounds_toArray, List.set_cons_zero, List.set_cons_succ]
            (refine takeE Ext.tr 16 (by simp only [List.getElem?_toArray, List.getElem?_cons_succ, List.getElem?_cons_zero]; rfl) (by kernel_rfl) (by kernel_rfl) (by kernel_rfl) (by exact fun _ _ _ h => h) (by first | (refine Or.inl ⟨by rfl, ?_⟩; intro W hW; go_simp; try with_reducible rfl) | exact Or.inr ⟨by rfl, rfl⟩) ?_; try simp only [Act.put, List.setIfInBounds_toArray, List.set_cons_zero, List.set_cons_succ])
            (refine takeE Ext.tr 17 (by simp only [List.getElem?_toArray, List.getElem?_cons_succ, List.getElem?_cons_zero]; rfl) (by kernel_rfl) (by kernel_rfl) (by kernel_rfl) (by exact fun _ _ _ h => h) (by first | (refine Or.inl ⟨by rfl, ?_⟩; intro W hW; go_simp; try with_reducible rfl) | exact Or.inr ⟨by rfl, rfl⟩) ?_; try simp only [Act.put, List.setIfInBounds_toArray, List.set_cons_zero, List.set_cons_succ])
            (refine takeE Ext.tr 18 (by simp only [List.getElem?_toArray, List.getElem?_cons_succ, List.getElem?_cons_zero]; rfl) (by kernel_rfl) (by kernel_rfl) (by kernel_rfl) (by exact fun _ _ _ h => h) (by first | (refine Or.inl ⟨by rfl, ?_⟩; intro W hW; go_simp; try with_reducible rfl) | exact Or.inr ⟨by rfl, rfl⟩) ?_; try simp only [Act.put, List.setIfInBounds_toArray, List.set_cons_zero, List.set_cons_succ])
            (refine takeE Ext.tr 19 (by simp only [List.getElem?_toArray, List.getElem?_cons_succ, List.getElem?_cons_zero]; rfl) (by kernel_rfl) (by kernel_rfl) (by kernel_rfl) (by exact fun _ _ _ h => h) (by first | (refine Or.inl ⟨by rfl, ?_⟩; intro W hW; go_simp; try with_reducible rfl) | exact Or.inr ⟨by rfl, rfl⟩) ?_; try simp only [Act.put, List.setIfInBounds_toArray, List.set_cons_zero, List.set_cons_succ])
            (refine takeE Ext.tr 21 (by simp only [List.getElem?_toArray, List.getElem?_cons_succ, List.getElem?_cons_zero]; rfl) (by kernel_rfl) (by kernel_rfl) (by kernel_rfl) (by exact fun _ _ _ h => h) (by first | (refine Or.inl ⟨by rfl, ?_⟩; intro W hW; exact exec_load_bk rowRv (.tmp 15) rfl gb 0 rfl (HGD.out.below (Ext.trans _ _ _ hE3 hW)) [.int .i64 z9.c0, .int .i64 m9.pa, .int .i64 z9.c2, .int .i64 z9.c3, .int .i64 m9.size, .int .i64 z9.c5, .int .i64 z9.c6, .int .i64 z9.c7, .int .i64 z9.c8, .int .i64 z9.c9, .int .i64 z9.c10, .int .i64 z9.c11, .int .i64 z9.c12, .int .i64 z9.c13, .int .i64 m9.sr, .int .i64 m9.ds, .int .i64 m9.cn, .int .i64 m9.cl, .int .i64 m9.base, .slice z9.A z9.n z9.c, .slice z9.J z9.jn z9.jc, .int .i64 m9.jm.ps.length, .int .i64 m9.jm.N, .int .i64 m9.jm.T, .int .i64 m9.ar, .int .i64 m9.pl, .int .i64 m9.pd, .bool m9.dn] rfl rfl) | exact Or.inr ⟨by rfl, rfl⟩) ?_; try simp only [Act.put, List.setIfInBounds_toArray, List.set_cons_zero, List.set_cons_succ])
            refine wpAnyE_one (i := 20) (by kernel_rfl) (by simp only [List.getElem?_toArray, List.getElem?_cons_succ, List.getElem?_cons_zero]; rfl) (fun K hK => ?_)
            go_simp
            refine (v_kept (HJD.out.next hE3).rc HK9.out.1.ok).mono ?_
            rintro en v4 ⟨A4, n4, c4, rfl, hl4, hb4⟩
            have hE4 : Ext wd v4 := Ext.trans _ _ _ hE3 hb4
            clear q26 q27 p7 p10 p11 t4
            have q26 : ∀ W, Ext v4 W → W.cell? ⟨gb, 26, none⟩ = some (.int .i64 m9.pd) := fun W hW => (HGD.out.below (Ext.trans _ _ _ hE4 hW)).cell 26 rfl
            have q27 : ∀ W, Ext v4 W → W.cell? ⟨gb, 27, none⟩ = some (.bool m9.dn) := fun W hW => (HGD.out.below (Ext.trans _ _ _ hE4 hW)).cell 27 rfl
            have p7 : ∀ W, Ext v4 W → W.cell? ⟨wa.heap.size, 7, none⟩ = some (.int .i64 m9.pl) := fun W hW => (HLD.out.below (Ext.trans _ _ _ hE4 hW)).cell 7 rfl
            have p10 : ∀ W, Ext v4 W → W.cell? ⟨wa.heap.size, 10, none⟩ = some (.int .i64 m9.ar) := fun W hW => (HLD.out.below (Ext.trans _ _ _ hE4 hW)).cell 10 rfl
            have p11 : ∀ W, Ext v4 W → W.cell? ⟨wa.heap.size, 11, none⟩ = some (.int .i64 m9.pd) := fun W hW => (HLD.out.below (Ext.trans _ _ _ hE4 hW)).cell 11 rfl
            have t4 : ∀ W, Ext v4 W → W.cell? ⟨w.heap.size, 4, none⟩ = some (.int .i64 c.c4) := fun W hW => (HCD.out.below (Ext.trans _ _ _ hE4 hW)).cell 4 rfl
            refine hK.out _ _ hb4 ?_
            clear hK K
            try simp only [Act.put, List.setIfInBounds_toArray, List.set_cons_zero, List.set_cons_succ]
            refine wpAnyE_one (i := 22) (by kernel_rfl) (by simp only [List.getElem?_toArray, List.getElem?_cons_succ, List.getElem?_cons_zero]; rfl) (fun K hK => ?_)
            go_simp
            refine (r_numbers (HJD.out.next hE4).rf.kp HZN.out).mono ?_
            rintro en v5 ⟨A5, n5, c5, rfl, hl5, hb5⟩
            have hE5 : Ext wd v5 := Ext.trans _ _ _ hE4 hb5
            clear q26 q27 p7 p10 p11 t4
            have q26 : ∀ W, Ext v5 W → W.cell? ⟨gb, 26, none⟩ = some (.int .i64 m9.pd) := fun W hW => (HGD.out.below (Ext.trans _ _ _ hE5 hW)).cell 26 rfl
            have q27 : ∀ W, Ext v5 W → W.cell? ⟨gb, 27, none⟩ = some (.bool m9.dn) := fun W hW => (HGD.out.below (Ext.trans _ _ _ hE5 hW)).cell 27 rfl
            have p7 : ∀ W, Ext v5 W → W.cell? ⟨wa.heap.size, 7, none⟩ = some (.int .i64 m9.pl) := fun W hW => (HLD.out.below (Ext.trans _ _ _ hE5 hW)).cell 7 rfl
            have p10 : ∀ W, Ext v5 W → W.cell? ⟨wa.heap.size, 10, none⟩ = some (.int .i64 m9.ar) := fun W hW => (HLD.out.below (Ext.trans _ _ _ hE5 hW)).cell 10 rfl
            have p11 : ∀ W, Ext v5 W → W.cell? ⟨wa.heap.size, 11, none⟩ = some (.int .i64 m9.pd) := fun W hW => (HLD.out.below (Ext.trans _ _ _ hE5 hW)).cell 11 rfl
            have t4 : ∀ W, Ext v5 W → W.cell? ⟨w.heap.size, 4, none⟩ = some (.int .i64 c.c4) := fun W hW => (HCD.out.below (Ext.trans _ _ _ hE5 hW)).cell 4 rfl
            refine hK.out _ _ hb5 ?_
            clear hK K
            try simp only [Act.put, List.setIfInBounds_toArray, List.set_cons_zero, List.set_cons_succ]
            refine wpAnyE_one (i := 23) (by kernel_rfl) (by simp only [List.getElem?_toArray, List.getElem?_cons_succ, List.getElem?_cons_zero]; rfl) (fun K hK => ?_)
            go_simp
            refine (same_any A4 A5 n4 c4 n5 c5 (sqs m9.ks) (sqs m9.ks) v5 (hl4.below hb5).rdv hl5.rdv).mono ?_
            rintro en v6 ⟨rfl, hb6⟩
            rw [decide_eq_true (rfl : sqs m9.ks = sqs m9.ks)]
            clear hl4 hl5
            have hE6 : Ext wd v6 := Ext.trans _ _ _ hE5 hb6
            clear q26 q27 p7 p10 p11 t4
            have q26 : ∀ W, Ext v6 W → W.cell? ⟨gb, 26, none⟩ = some (.int .i64 m9.pd) := fun W hW => (HGD.out.below (Ext.trans _ _ _ hE6 hW)).cell 26 rfl
            have q27 : ∀ W, Ext v6 W → W.cell? ⟨gb, 27, none⟩ = some (.bool m9.dn) := fun W hW => (HGD.out.below (Ext.trans _ _ _ hE6 hW)).cell 27 rfl
            have p7 : ∀ W, Ext v6 W → W.cell? ⟨wa.heap.size, 7, none⟩ = some (.int .i64 m9.pl) := fun W hW => (HLD.out.below (Ext.trans _ _ _ hE6 hW)).cell 7 rfl
            have p10 : ∀ W, Ext v6 W → W.cell? ⟨wa.heap.size, 10, none⟩ = some (.int .i64 m9.ar) := fun W hW => (HLD.out.below (Ext.trans _ _ _ hE6 hW)).cell 10 rfl
            have p11 : ∀ W, Ext v6 W → W.cell? ⟨wa.heap.size, 11, none⟩ = some (.int .i64 m9.pd) := fun W hW => (HLD.out.below (Ext.trans _ _ _ hE6 hW)).cell 11 rfl
            have t4 : ∀ W, Ext v6 W → W.cell? ⟨w.heap.size, 4, none⟩ = some (.int .i64 c.c4) := fun W hW => (HCD.out.below (Ext.trans _ _ _ hE6 hW)).cell 4 rfl
            refine hK.out _ _ hb6 ?_
            clear hK K
            try simp only [Act.put, List.setIfInBounds_toArray, List.set_cons_zero, List.set_cons_succ]
            (refine takeE Ext.tr 24 (by simp only [List.getElem?_toArray, List.getElem?_cons_succ, List.getElem?_cons_zero]; rfl) (by kernel_rfl) (by kernel_rfl) (by kernel_rfl) (by exact fun _ _ _ h => h) (by first | (refine Or.inl ⟨by rfl, ?_⟩; intro W hW; go_simp; try with_reducible rfl) | exact Or.inr ⟨by rfl, rfl⟩) ?_; try simp only [Act.put, List.setIfInBounds_toArray, List.set_cons_zero, List.set_cons_succ])
            (refine takeE Ext.tr 25 (by simp only [List.getElem?_toArray, List.getElem?_cons_succ, List.getElem?_cons_zero]; rfl) (by kernel_rfl) (by kernel_rfl) (by kernel_rfl) (by exact fun _ _ _ h => h) (by first | (refine Or.inl ⟨by rfl, ?_⟩; intro W hW; go_simp; try with_reducible rfl) | exact Or.inr ⟨by rfl, rfl⟩) ?_; try simp only [Act.put, List.setIfInBounds_toArray, List.set_cons_zero, List.set_cons_succ])
            (refine takeE Ext.tr 26 (by simp only [List.getElem?_toArray, List.getElem?_cons_succ, List.getElem?_cons_zero]; rfl) (by kernel_rfl) (by kernel_rfl) (by kernel_rfl) (by exact fun _ _ _ h => h) (by first | (refine Or.inl ⟨by rfl, ?_⟩; intro W hW; go_simp; try with_reducible rfl) | exact Or.inr ⟨by rfl, rfl⟩) ?_; try simp only [Act.put, List.setIfInBounds_toArray, List.set_cons_zero, List.set_cons_succ])
            (refine takeE Ext.tr 27 (by simp only [List.getElem?_toArray, List.getElem?_cons_succ, List.getElem?_cons_zero]; rfl) (by kernel_rfl) (by kernel_rfl) (by kernel_rfl) (by exact fun _ _ _ h => h) (by first | (refine Or.inl ⟨by rfl, ?_⟩; intro W hW; go_simp; try with_reducible rfl) | exact Or.inr ⟨by rfl, rfl⟩) ?_; try simp only [Act.put, List.setIfInBounds_toArray, List.set_cons_zero, List.set_cons_succ])
            (refine takeE Ext.tr 29 (by simp only [List.getElem?_toArray, List.getElem?_cons_succ, List.getElem?_cons_zero]; rfl) (by kernel_rfl) (by kernel_rfl) (by kernel_rfl) (by exact fun _ _ _ h => h) (by first | (refine Or.inl ⟨by rfl, ?_⟩; intro W hW; go_simp; try with_reducible rfl) | exact Or.inr ⟨by rfl, rfl⟩) ?_; try simp only [Act.put, List.setIfInBounds_toArray, List.set_cons_zero, List.set_cons_succ])
            (refine takeE Ext.tr 32 (by simp only [List.getElem?_toArray, List.getElem?_cons_succ, List.getElem?_cons_zero]; rfl) (by kernel_rfl) (by kernel_rfl) (by kernel_rfl) (by exact fun _ _ _ h => h) (by first | (refine Or.inl ⟨by rfl, ?_⟩; intro W hW; go_simp; try with_reducible rfl) | exact Or.inr ⟨by rfl, rfl⟩) ?_; try simp only [Act.put, List.setIfInBounds_toArray, List.set_cons_zero, List.set_cons_succ])
            (refine takeE Ext.tr 28 (by simp only [List.getElem?_toArray, List.getElem?_cons_succ, List.getElem?_cons_zero]; rfl) (by kernel_rfl) (by kernel_rfl) (by kernel_rfl) (by exact fun _ _ _ h => h) (by first | (refine Or.inl ⟨by rfl, ?_⟩; intro W hW; go_simp; try with_reducible rfl) | exact Or.inr ⟨by rfl, rfl⟩) ?_; try simp only [Act.put, List.setIfInBounds_toArray, List.set_cons_zero, List.set_cons_succ])
            (refine takeE Ext.tr 30 (by simp only [List.getElem?_toArray, List.getElem?_cons_succ, List.getElem?_cons_zero]; rfl) (by kernel_rfl) (by kernel_rfl) (by kernel_rfl) (by exact fun _ _ _ h => h) (by first | (refine Or.inl ⟨by rfl, ?_⟩; intro W hW; go_simp; try with_reducible rfl) | exact Or.inr ⟨by rfl, rfl⟩) ?_; try simp only [Act.put, List.setIfInBounds_toArray, List.set_cons_zero, List.set_cons_succ])
            (refine takeE Ext.tr 33 (by simp only [List.getElem?_toArray, List.getElem?_cons_succ, List.getElem?_cons_zero]; rfl) (by kernel_rfl) (by kernel_rfl) (by kernel_rfl) (by exact fun _ _ _ h => h) (by first | (refine Or.inl ⟨by rfl, ?_⟩; intro W hW; go_simp; try with_reducible rfl) | exact Or.inr ⟨by rfl, rfl⟩) ?_; try simp only [Act.put, List.setIfInBounds_toArray, List.set_cons_zero, List.set_cons_succ])
            (refine takeE Ext.tr 31 (by simp only [List.getElem?_toArray, List.getElem?_cons_succ, List.getElem?_cons_zero]; rfl) (by kernel_rfl) (by kernel_rfl) (by kernel_rfl) (by exact fun _ _ _ h => h) (by first | (refine Or.inl ⟨by rfl, ?_⟩; intro W hW; go_simp; try with_reducible rfl) | exact Or.inr ⟨by rfl, rfl⟩) ?_; try simp only [Act.put, List.setIfInBounds_toArray, List.set_cons_zero, List.set_cons_succ])
            (refine takeE Ext.tr 34 (by simp only [List.getElem?_toArray, List.getElem?_cons_succ, List.getElem?_cons_zero]; rfl) (by kernel_rfl) (by kernel_rfl) (by kernel_rfl) (by exact fun _ _ _ h => h) (by first | (refine Or.inl ⟨by rfl, ?_⟩; intro W hW; go_simp; try with_reducible rfl) | exact Or.inr ⟨by rfl, rfl⟩) ?_; try simp only [Act.put, List.setIfInBounds_toArray, List.set_cons_zero, List.set_cons_succ])
            (refine takeE Ext.tr 35 (by simp only [List.getElem?_toArray, List.getElem?_cons_succ, List.getElem?_cons_zero]; rfl) (by kernel_rfl) (by kernel_rfl) (by kernel_rfl) (by exact fun _ _ _ h => h) (by first | (refine Or.inl ⟨by rfl, ?_⟩; intro W hW; go_simp; try with_reducible rfl) | exact Or.inr ⟨by rfl, rfl⟩) ?_; try simp only [Act.put, List.setIfInBounds_toArray, List.set_cons_zero, List.set_cons_succ])
            (refine takeE Ext.tr 36 (by simp only [List.getElem?_toArray, List.getElem?_cons_succ, List.getElem?_cons_zero]; rfl) (by kernel_rfl) (by kernel_rfl) (by kernel_rfl) (by exact fun _ _ _ h => h) (by first | (refine Or.inl ⟨by rfl, ?_⟩; intro W hW; go_simp; try with_reducible rfl) | exact Or.inr ⟨by rfl, rfl⟩) ?_; try simp only [Act.put, List.setIfInBounds_toArray, List.set_cons_zero, List.set_cons_succ])
            (refine takeE Ext.tr 37 (by simp only [List.getElem?_toArray, List.getElem?_cons_succ, List.getElem?_cons_zero]; rfl) (by kernel_rfl) (by kernel_rfl) (by kernel_rfl) (by exact fun _ _ _ h => h) (by first | (refine Or.inl ⟨by rfl, ?_⟩; intro W hW; go_simp; try with_reducible rfl) | exact Or.inr ⟨by rfl, rfl⟩) ?_; try simp only [Act.put, List.setIfInBounds_toArray, List.set_cons_zero, List.set_cons_succ])
            (refine takeE Ext.tr 40 (by simp only [List.getElem?_toArray, List.getElem?_cons_succ, List.getElem?_cons_zero]; rfl) (by kernel_rfl) (by kernel_rfl) (by kernel_rfl) (by exact fun _ _ _ h => h) (by first | (refine Or.inl ⟨by rfl, ?_⟩; intro W hW; go_simp; try with_reducible rfl) | exact Or.inr ⟨by rfl, rfl⟩) ?_; try simp only [Act.put, List.setIfInBounds_toArray, List.set_cons_zero, List.set_cons_succ])
            (refine takeE Ext.tr 41 (by simp only [List.getElem?_toArray, List.getElem?_cons_succ, List.getElem?_cons_zero]; rfl) (by kernel_rfl) (by kernel_rfl) (by kernel_rfl) (by exact fun _ _ _ h => h) (by first | (refine Or.inl ⟨by rfl, ?_⟩; intro W hW; go_simp; try with_reducible rfl) | exact Or.inr ⟨by rfl, rfl⟩) ?_; try simp only [Act.put, List.setIfInBounds_toArray, List.set_cons_zero, List.set_cons_succ])
            refine wpAnyE_one (i := 38) (by kernel_rfl) (by simp only [List.getElem?_toArray, List.getElem?_cons_succ, List.getElem?_cons_zero]; rfl) (fun K hK => ?_)
            go_simp
            refine (v_kept (HJD.out.next hE6).rc HK9.out.1.ok).mono ?_
            rintro en v7 ⟨A7, n7, c7, rfl, hl7, hb7⟩
            have hn7 : ¬ c.c4 ≤ (n7 : Int) := by have := HFEW.out; have h2 := hl7.1; rw [intV_len] at h2; have h3 : (sqs m9.ks).length = m9.ks.length := (by simp [sqs]); omega
            have hn8 := decide_eq_false hn7
            clear hl7
            have hE7 : Ext wd v7 := Ext.trans _ _ _ hE6 hb7
            clear q26 q27 p7 p10 p11 t4
            have q26 : ∀ W, Ext v7 W → W.cell? ⟨gb, 26, none⟩ = some (.int .i64 m9.pd) := fun W hW => (HGD.out.below (Ext.trans _ _ _ hE7 hW)).cell 26 rfl
            have q27 : ∀ W, Ext v7 W → W.cell? ⟨gb, 27, none⟩ = some (.bool m9.dn) := fun W hW => (HGD.out.below (Ext.trans _ _ _ hE7 hW)).cell 27 rfl
            have p7 : ∀ W, Ext v7 W → W.cell? ⟨wa.heap.size, 7, none⟩ = some (.int .i64 m9.pl) := fun W hW => (HLD.out.below (Ext.trans _ _ _ hE7 hW)).cell 7 rfl
            have p10 : ∀ W, Ext v7 W → W.cell? ⟨wa.heap.size, 10, none⟩ = some (.int .i64 m9.ar) := fun W hW => (HLD.out.below (Ext.trans _ _ _ hE7 hW)).cell 10 rfl
            have p11 : ∀ W, Ext v7 W → W.cell? ⟨wa.heap.size, 11, none⟩ = some (.int .i64 m9.pd) := fun W hW => (HLD.out.below (Ext.trans _ _ _ hE7 hW)).cell 11 rfl
            have t4 : ∀ W, Ext v7 W → W.cell? ⟨w.heap.size, 4, none⟩ = some (.int .i64 c.c4) := fun W hW => (HCD.out.below (Ext.trans _ _ _ hE7 hW)).cell 4 rfl
            refine hK.out _ _ hb7 ?_
            clear hK K
            try simp only [Act.put, List.setIfInBounds_toArray, List.set_cons_zero, List.set_cons_succ]
            (refine takeE Ext.tr 39 (by simp only [List.getElem?_toArray, List.getElem?_cons_succ, List.getElem?_cons_zero]; rfl) (by kernel_rfl) (by kernel_rfl) (by kernel_rfl) (by exact fun _ _ _ h => h) (by first | (refine Or.inl ⟨by rfl, ?_⟩; intro W hW; go_simp; try with_reducible rfl) | exact Or.inr ⟨by rfl, rfl⟩) ?_; try simp only [Act.put, List.setIfInBounds_toArray, List.set_cons_zero, List.set_cons_succ])
            (refine takeE Ext.tr 42 (by simp only [List.getElem?_toArray, List.getElem?_cons_succ, List.getElem?_cons_zero]; rfl) (by kernel_rfl) (by kernel_rfl) (by kernel_rfl) (by exact fun _ _ _ h => h) (by first | (refine Or.inl ⟨by rfl, ?_⟩; intro W hW; go_simp; try with_reducible rfl) | exact Or.inr ⟨by rfl, rfl⟩) ?_; try simp only [Act.put, List.setIfInBounds_toArray, List.set_cons_zero, List.set_cons_succ])
            (refine takeE Ext.tr 43 (by simp only [List.getElem?_toArray, List.getElem?_cons_succ, List.getElem?_cons_zero]; rfl) (by kernel_rfl) (by kernel_rfl) (by kernel_rfl) (by exact fun _ _ _ h => h) (by first | (refine Or.inl ⟨by rfl, ?_⟩; intro W hW; go_simp; try with_reducible rfl) | exact Or.inr ⟨by rfl, rfl⟩) ?_; try simp only [Act.put, List.setIfInBounds_toArray, List.set_cons_zero, List.set_cons_succ])
            refine wpAnyE_done (by kernel_rfl) ?_ _
            skip
            have HJ7 := Lib.hid (HJD.out.next hE7)
            clear q26 q27 p7 p10 p11 t4
            go_wp2
            go_roundw
            case rel => exact ⟨i + 1, F9, r9, e9, z9, m9, by omega, by omega, by go_num, rfl, HJ7.out, HK9.out⟩
            case measure => simp [intOf]; omega
          · have hpd2 : 0 < m.pd := by omega
            clear hpd
            go_wp2_with (first
              | (go_at_call 14; refine (v_issue_yes JR.out.rc HM.out.1.ok hpd2).mono ?_; rintro en wa1 ⟨rfl, hr1, hs1⟩
                 have HC1 := Lib.hid (JR.out.code hr1 hs1 (Gr.refl _ _))
                 have hzp := Bk.new wa1 40 [.int .i64 0, .int .i64 0, .int .i64 0, .int .i64 0, .int .i64 0, .int .i64 0, .int .i64 0, .int .i64 0, .slice none 0 0]
                 have hg1 := HC1.out.2.2.1
                 clear hr1 hs1)
              | ((with_reducible refine at_store 40 (.tmp 23) (.tmp 126) (by rfl) ?_); refine wpList_store_bk rowP rfl (.tmp 23) (.tmp 126) rfl wa1.heap.size 0 rfl hzp ([.int .i64 ((pulV m)).h.kd, .int .i64 ((pulV m)).h.fl, .int .i64 ((pulV m)).h.pa, .int .i64 ((pulV m)).h.sr, .int .i64 ((pulV m)).h.ds, .int .i64 ((pulV m)).h.cn, .int .i64 ((pulV m)).h.sq, .int .i64 ((pulV m)).h.pu, .slice ((pulV m)).A ((pulV m)).n ((pulV m)).c]) rfl rfl (by decide) (by simp [Value.oneCell']) ?_; rintro wa2 hp2 hw2
                 rw [lay_all _ _ (by rfl)] at hp2
                 have hb2 : Below wa1.heap.size wa1 wa2 := ((Below.refl _ _).alloc (Nat.le_refl _) (.cells #[.int .i64 0, .int .i64 0, .int .i64 0, .int .i64 0, .int .i64 0, .int .i64 0, .int .i64 0, .int .i64 0, .slice none 0 0] 40)).trans (hw2.below (Nat.le_refl _) (by simp))
                 have HR2 := Lib.hid (And.intro (HC1.out.1.below hb2) (And.intro (HC1.out.2.1.below hb2) (And.intro (HC1.out.2.2.1.below hb2) (HC1.out.2.2.2.2.2.trans (hb2.mono HC1.out.2.2.2.2.2.size)))))
                 have hg2 := HR2.out.2.2.1
                 have HP2 := Lib.hid hp2
                 clear hp2 hw2 hb2 hzp hg1)
              | ((with_reducible refine at_load 34 (.tmp 15) (by rfl) ?_); refine wpList_load_bk rowRv rfl (.tmp 15) rfl gb 0 rfl hg2 [.int .i64 z.c0, .int .i64 m.pa, .int .i64 z.c2, .int .i64 z.c3, .int .i64 m.size, .int .i64 z.c5, .int .i64 z.c6, .int .i64 z.c7, .int .i64 z.c8, .int .i64 z.c9, .int .i64 z.c10, .int .i64 z.c11, .int .i64 z.c12, .int .i64 z.c13, .int .i64 m.sr, .int .i64 m.ds, .int .i64 m.cn, .int .i64 m.cl, .int .i64 m.base, .slice z.A z.n z.c, .slice z.J z.jn z.jc, .int .i64 m.jm.ps.length, .int .i64 m.jm.N, .int .i64 m.jm.T, .int .i64 m.ar, .int .i64 m.pl, .int .i64 m.pd, .bool m.dn] rfl rfl ?_)
              | (go_at_call 15; refine (r_issue_yes HR2.out.2.1 HM.out.1.ok hpd2).mono ?_; rintro en wa3 ⟨rfl, hb3⟩
                 have HR3 := Lib.hid (And.intro (HR2.out.1.below hb3) (And.intro (HR2.out.2.1.below hb3) (And.intro (HR2.out.2.2.1.below hb3) (HR2.out.2.2.2.trans (hb3.mono HR2.out.2.2.2.size)))))
                 have HP3 := Lib.hid (HP2.out.below hb3)
                 have hz25 : Bk ((wa3.alloc (.cells #[.int .i64 0, .int .i64 0, .int .i64 0, .int .i64 0, .int .i64 0, .int .i64 0, .int .i64 0, .int .i64 0, .int .i64 0, .int .i64 0, .int .i64 0, .int .i64 0, .int .i64 0, .int .i64 0, .int .i64 0, .int .i64 0, .int .i64 0, .int .i64 0, .int .i64 0, .slice none 0 0, .slice none 0 0, .int .i64 0, .int .i64 0, .int .i64 0, .int .i64 0, .int .i64 0, .int .i64 0, .bool false] 34)).alloc (.cells #[.int .i64 0, .int .i64 0, .int .i64 0, .int .i64 0, .int .i64 0, .int .i64 0, .int .i64 0, .int .i64 0, .slice none 0 0] 40)) 34 wa3.heap.size [.int .i64 0, .int .i64 0, .int .i64 0, .int .i64 0, .int .i64 0, .int .i64 0, .int .i64 0, .int .i64 0, .int .i64 0, .int .i64 0, .int .i64 0, .int .i64 0, .int .i64 0, .int .i64 0, .int .i64 0, .int .i64 0, .int .i64 0, .int .i64 0, .int .i64 0, .slice none 0 0, .slice none 0 0, .int .i64 0, .int .i64 0, .int .i64 0, .int .i64 0, .int .i64 0, .int .i64 0, .bool false] := (Bk.new wa3 34 [.int .i64 0, .int .i64 0, .int .i64 0, .int .i64 0, .int .i64 0, .int .i64 0, .int .i64 0, .int .i64 0, .int .i64 0, .int .i64 0, .int .i64 0, .int .i64 0, .int .i64 0, .int .i64 0, .int .i64 0, .int .i64 0, .int .i64 0, .int .i64 0, .int .i64 0, .slice none 0 0, .slice none 0 0, .int .i64 0, .int .i64 0, .int .i64 0, .int .i64 0, .int .i64 0, .int .i64 0, .bool false]).alloc _
                 have hz26 : Bk ((wa3.alloc (.cells #[.int .i64 0, .int .i64 0, .int .i64 0, .int .i64 0, .int .i64 0, .int .i64 0, .int .i64 0, .int .i64 0, .int .i64 0, .int .i64 0, .int .i64 0, .int .i64 0, .int .i64 0, .int .i64 0, .int .i64 0, .int .i64 0, .int .i64 0, .int .i64 0, .int .i64 0, .slice none 0 0, .slice none 0 0, .int .i64 0, .int .i64 0, .int .i64 0, .int .i64 0, .int .i64 0, .int .i64 0, .bool false] 34)).alloc (.cells #[.int .i64 0, .int .i64 0, .int .i64 0, .int .i64 0, .int .i64 0, .int .i64 0, .int .i64 0, .int .i64 0, .slice none 0 0] 40)) 40 (wa3.heap.size + 1) [.int .i64 0, .int .i64 0, .int .i64 0, .int .i64 0, .int .i64 0, .int .i64 0, .int .i64 0, .int .i64 0, .slice none 0 0] := by
                   have := Bk.new (wa3.alloc (.cells #[.int .i64 0, .int .i64 0, .int .i64 0, .int .i64 0, .int .i64 0, .int .i64 0, .int .i64 0, .int .i64 0, .int .i64 0, .int .i64 0, .int .i64 0, .int .i64 0, .int .i64 0, .int .i64 0, .int .i64 0, .int .i64 0, .int .i64 0, .int .i64 0, .int .i64 0, .slice none 0 0, .slice none 0 0, .int .i64 0, .int .i64 0, .int .i64 0, .int .i64 0, .int .i64 0, .int .i64 0, .bool false] 34)) 40 [.int .i64 0, .int .i64 0, .int .i64 0, .int .i64 0, .int .i64 0, .int .i64 0, .int .i64 0, .int .i64 0, .slice none 0 0]
                   rw [World.size_alloc] at this
                   exact this
                 have HBA := Lib.hid (((Below.refl wa3.heap.size wa3).alloc (Nat.le_refl _) (.cells #[.int .i64 0, .int .i64 0, .int .i64 0, .int .i64 0, .int .i64 0, .int .i64 0, .int .i64 0, .int .i64 0, .int .i64 0, .int .i64 0, .int .i64 0, .int .i64 0, .int .i64 0, .int .i64 0, .int .i64 0, .int .i64 0, .int .i64 0, .int .i64 0, .int .i64 0, .slice none 0 0, .slice none 0 0, .int .i64 0, .int .i64 0, .int .i64 0, .int .i64 0, .int .i64 0, .int .i64 0, .bool false] 34)).alloc (by simp) (.cells #[.int .i64 0, .int .i64 0, .int .i64 0, .int .i64 0, .int .i64 0, .int .i64 0, .int .i64 0, .int .i64 0, .slice none 0 0] 40))
                 clear hb3 hg2)
              | ((with_reducible refine at_store 34 (.tmp 25) (.tmp 131) (by rfl) ?_); refine wpList_store_bk rowRv rfl (.tmp 25) (.tmp 131) rfl wa3.heap.size 0 rfl hz25 ([.int .i64 z.c0, .int .i64 m.pull.pa, .int .i64 z.c2, .int .i64 z.c3, .int .i64 m.pull.size, .int .i64 z.c5, .int .i64 z.c6, .int .i64 z.c7, .int .i64 z.c8, .int .i64 z.c9, .int .i64 z.c10, .int .i64 z.c11, .int .i64 z.c12, .int .i64 z.c13, .int .i64 m.pull.sr, .int .i64 m.pull.ds, .int .i64 m.pull.cn, .int .i64 m.pull.cl, .int .i64 m.pull.base, .slice z.A z.n z.c, .slice z.J z.jn z.jc, .int .i64 m.pull.jm.ps.length, .int .i64 m.pull.jm.N, .int .i64 m.pull.jm.T, .int .i64 m.pull.ar, .int .i64 m.pull.pl, .int .i64 m.pull.pd, .bool m.pull.dn]) rfl rfl (by decide) (by simp [Value.oneCell']) ?_; rintro wa4 h25 hw4
                 rw [lay_all _ _ (by rfl)] at h25
                 have h26 := hz26.wr hw4 (by omega)
                 have HBB := Lib.hid (HBA.out.trans (hw4.below (Nat.le_refl _) (by simp; omega)))
                 clear hz25 hz26 hw4)
              | ((with_reducible refine at_store 40 (.tmp 26) (.tmp 132) (by rfl) ?_); refine wpList_store_bk rowP rfl (.tmp 26) (.tmp 132) rfl (wa3.heap.size + 1) 0 rfl h26 ([.int .i64 ((pulV m)).h.kd, .int .i64 ((pulV m)).h.fl, .int .i64 ((pulV m)).h.pa, .int .i64 ((pulV m)).h.sr, .int .i64 ((pulV m)).h.ds, .int .i64 ((pulV m)).h.cn, .int .i64 ((pulV m)).h.sq, .int .i64 ((pulV m)).h.pu, .slice ((pulV m)).A ((pulV m)).n ((pulV m)).c]) rfl rfl (by decide) (by simp [Value.oneCell']) ?_; rintro wa5 k26 hw5
                 rw [lay_all _ _ (by rfl)] at k26
                 have k25 := h25.wr hw5 (by omega)
                 have HBC := Lib.hid (HBB.out.trans (hw5.below (by omega) HBB.out.size))
                 have hg5 := HR3.out.2.2.1.below HBC.out
                 have HP5 := Lib.hid (HP3.out.below HBC.out)
                 have HK26 := Lib.hid k26
                 clear h25 h26 hw5 k26)
              | ((with_reducible refine at_load 34 (.tmp 25) (by rfl) ?_); refine wpList_load_bk rowRv rfl (.tmp 25) rfl wa3.heap.size 0 rfl k25 ([.int .i64 z.c0, .int .i64 m.pull.pa, .int .i64 z.c2, .int .i64 z.c3, .int .i64 m.pull.size, .int .i64 z.c5, .int .i64 z.c6, .int .i64 z.c7, .int .i64 z.c8, .int .i64 z.c9, .int .i64 z.c10, .int .i64 z.c11, .int .i64 z.c12, .int .i64 z.c13, .int .i64 m.pull.sr, .int .i64 m.pull.ds, .int .i64 m.pull.cn, .int .i64 m.pull.cl, .int .i64 m.pull.base, .slice z.A z.n z.c, .slice z.J z.jn z.jc, .int .i64 m.pull.jm.ps.length, .int .i64 m.pull.jm.N, .int .i64 m.pull.jm.T, .int .i64 m.pull.ar, .int .i64 m.pull.pl, .int .i64 m.pull.pd, .bool m.pull.dn]) rfl rfl ?_)
              | ((with_reducible refine at_store 34 (.tmp 15) (.tmp 134) (by rfl) ?_); refine wpList_store_bk rowRv rfl (.tmp 15) (.tmp 134) rfl gb 0 rfl hg5 ([.int .i64 z.c0, .int .i64 m.pull.pa, .int .i64 z.c2, .int .i64 z.c3, .int .i64 m.pull.size, .int .i64 z.c5, .int .i64 z.c6, .int .i64 z.c7, .int .i64 z.c8, .int .i64 z.c9, .int .i64 z.c10, .int .i64 z.c11, .int .i64 z.c12, .int .i64 z.c13, .int .i64 m.pull.sr, .int .i64 m.pull.ds, .int .i64 m.pull.cn, .int .i64 m.pull.cl, .int .i64 m.pull.base, .slice z.A z.n z.c, .slice z.J z.jn z.jc, .int .i64 m.pull.jm.ps.length, .int .i64 m.pull.jm.N, .int .i64 m.pull.jm.T, .int .i64 m.pull.ar, .int .i64 m.pull.pl, .int .i64 m.pull.pd, .bool m.pull.dn]) rfl rfl (by show 0 + 28 ≤ 28; decide) (by simp [Value.oneCell']) ?_; rintro wa6 hk6 hw6
                 rw [lay_all _ _ (by rfl)] at hk6
                 have J6 : Hid (JV w1 gb F r e z m.pull wa6) := Lib.hid (JV.ref (HR3.out.1) ⟨(HR3.out.2.1.below HBC.out).kp, (HR3.out.2.1.below HBC.out).jn, (HR3.out.2.1.below HBC.out).jo⟩ HBC.out (Below.refl _ _) hk6 hw6 HC1.out.2.2.2.1 HC1.out.2.2.2.2.1 HR3.out.2.2.2)
                 have hp6 := HP5.out.wr hw6 (by have h1 := HC1.out.2.2.1.lt; omega)
                 have hq6 := HK26.out.wr hw6 (by have h1 := HR3.out.2.2.1.lt; omega)
                 clear hk6 hw6 hg5 k25)
              | ((with_reducible refine at_load 40 (.tmp 23) (by rfl) ?_); refine wpList_load_bk rowP rfl (.tmp 23) rfl wa1.heap.size 0 rfl hp6 ([.int .i64 ((pulV m)).h.kd, .int .i64 ((pulV m)).h.fl, .int .i64 ((pulV m)).h.pa, .int .i64 ((pulV m)).h.sr, .int .i64 ((pulV m)).h.ds, .int .i64 ((pulV m)).h.cn, .int .i64 ((pulV m)).h.sq, .int .i64 ((pulV m)).h.pu, .slice ((pulV m)).A ((pulV m)).n ((pulV m)).c]) rfl rfl ?_)
              | ((with_reducible refine at_load 40 (.tmp 26) (by rfl) ?_); refine wpList_load_bk rowP rfl (.tmp 26) rfl (wa3.heap.size + 1) 0 rfl hq6 ([.int .i64 ((pulV m)).h.kd, .int .i64 ((pulV m)).h.fl, .int .i64 ((pulV m)).h.pa, .int .i64 ((pulV m)).h.sr, .int .i64 ((pulV m)).h.ds, .int .i64 ((pulV m)).h.cn, .int .i64 ((pulV m)).h.sq, .int .i64 ((pulV m)).h.pu, .slice ((pulV m)).A ((pulV m)).n ((pulV m)).c]) rfl rfl ?_)
              | (go_at_call 16; refine (r_same (q := (pulV m)) (q2 := (pulV m)) (pv_nil (F := fun _ => False) wa6 (pulV m) rfl rfl rfl rfl (by show (0 : Int) ≤ 9223372036854775807; decide)) (pv_nil (F := fun _ => False) wa6 (pulV m) rfl rfl rfl rfl (by show (0 : Int) ≤ 9223372036854775807; decide))).mono ?_; rintro en wa7 ⟨rfl, hb7⟩
                 rw [Pk.same_refl]
                 have J9 := Lib.hid (J6.out.next hb7)
                 clear hb7 hp6 hq6))
            obtain ⟨F9, hF9⟩ : ∃ F9, F9 = F := ⟨_, rfl⟩
            obtain ⟨r9, hr9⟩ : ∃ r9, r9 = r := ⟨_, rfl⟩
            obtain ⟨e9, he9⟩ : ∃ e9, e9 = e := ⟨_, rfl⟩
            obtain ⟨z9, hz9⟩ : ∃ z9, z9 = z := ⟨_, rfl⟩
            obtain ⟨m9, hm9⟩ : ∃ m9, m9 = m.pull := ⟨_, rfl⟩
            have HK9 : Hid (m9.Fit (i + 1) ∧ m9.jm.op ≤ 65536 ∧ m9.size = size) := Lib.hid (by rw [hm9]; exact ⟨(HM.out.1.pull hpd2).mono (by omega), HM.out.2.1, HM.out.2.2⟩)
            rw [← hF9, ← hr9, ← he9, ← hz9, ← hm9] at J9
            rw [← hr9]
            clear hF9 hr9 he9 hz9 hm9
            have HFEW : Hid ((m9.ks.length : Int) < c.c4) := Lib.hid (by have := HK9.out.1.few; have h2 := HK9.out.2.2; have h3 := HSZ.out; omega)
            have HZN : Hid (z9.n ≤ 100000) := Lib.hid (by have := J9.out.rf.kp.len; have h2 := HK9.out.1.lc; omega)
            have hct := HK9.out.1.ok.ct
            have hct2 : ¬ ((m9.ar : Int) < (m9.pl : Int) + m9.pd) := by omega
            have hwr : IntKind.i64.wrap ((m9.pl : Int) + m9.pd) = (m9.pl : Int) + m9.pd := by rw [IntKind.wrap_i64]; omega
            have hct3 := decide_eq_false hct2
            clear hct
            go_wp2_with (first
              | (go_at_call 18; refine (v_line J9.out.rc).mono ?_; rintro en wa ⟨rfl, hba⟩
                 have hzl := Bk.new wa 58 [.int .i64 0, .int .i64 0, .int .i64 0, .int .i64 0, .int .i64 0, .int .i64 0, .int .i64 0, .int .i64 0, .int .i64 0, .int .i64 0, .int .i64 0, .int .i64 0, .bool false, .bool false]
                 have JA9 := Lib.hid (J9.out.next hba)
                 clear hba)
              | ((with_reducible refine at_store 58 (.tmp 28) (.tmp 145) (by rfl) ?_); refine wpList_store_bk rowLn rfl (.tmp 28) (.tmp 145) rfl wa.heap.size 0 rfl hzl [.int .i64 m9.sr, .int .i64 m9.ds, .int .i64 m9.cn, .int .i64 m9.cl, .int .i64 m9.base, .int .i64 0, .int .i64 0, .int .i64 m9.pl, .int .i64 0, .int .i64 0, .int .i64 m9.ar, .int .i64 m9.pd, .bool false, .bool m9.dn] rfl rfl (by decide) (by simp [Value.oneCell']) ?_; rintro wb zb hwb
                 rw [lay_all _ _ (by rfl)] at zb
                 have HLB := Lib.hid zb
                 have HJL := Lib.hid (JA9.out.next (((Below.refl _ _).alloc (Nat.le_refl _) (.cells #[.int .i64 0, .int .i64 0, .int .i64 0, .int .i64 0, .int .i64 0, .int .i64 0, .int .i64 0, .int .i64 0, .int .i64 0, .int .i64 0, .int .i64 0, .int .i64 0, .bool false, .bool false] 58)).trans (hwb.below (Nat.le_refl _) (by simp))))
                 clear zb hwb hzl))
            refine wp_region_E Ext (by kernel_rfl) (fun wd hbd hsz => ?_)
            have HJD := Lib.hid (HJL.out.next hbd)
            have HGD := Lib.hid (HJD.out.bx)
            have HLD := Lib.hid (HLB.out.below hbd)
            have HCD := Lib.hid (HCF.out.below HJD.out.bel)
            have HBD := Lib.hid hbd
            have q26 : ∀ W, Ext wd W → W.cell? ⟨gb, 26, none⟩ = some (.int .i64 m9.pd) := fun W hW => (HGD.out.below hW).cell 26 rfl
            have q27 : ∀ W, Ext wd W → W.cell? ⟨gb, 27, none⟩ = some (.bool m9.dn) := fun W hW => (HGD.out.below hW).cell 27 rfl
            have p7 : ∀ W, Ext wd W → W.cell? ⟨wa.heap.size, 7, none⟩ = some (.int .i64 m9.pl) := fun W hW => (HLD.out.below hW).cell 7 rfl
            have p10 : ∀ W, Ext wd W → W.cell? ⟨wa.heap.size, 10, none⟩ = some (.int .i64 m9.ar) := fun W hW => (HLD.out.below hW).cell 10 rfl
            have p11 : ∀ W, Ext wd W → W.cell? ⟨wa.heap.size, 11, none⟩ = some (.int .i64 m9.pd) := fun W hW => (HLD.out.below hW).cell 11 rfl
            have t4 : ∀ W, Ext wd W → W.cell? ⟨w.heap.size, 4, none⟩ = some (.int .i64 c.c4) := fun W hW => (HCD.out.below hW).cell 4 rfl
            clear hsz
            (refine takeE Ext.tr 0 (by simp only [List.getElem?_toArray, List.getElem?_cons_succ, List.getElem?_cons_zero]; rfl) (by kernel_rfl) (by kernel_rfl) (by kernel_rfl) (by exact fun _ _ _ h => h) (by first | (refine Or.inl ⟨by rfl, ?_⟩; intro W hW; exact exec_load_bk rowLn (.tmp 28) rfl wa.heap.size 0 rfl (HLD.out.below hW) [.int .i64 m9.sr, .int .i64 m9.ds, .int .i64 m9.cn, .int .i64 m9.cl, .int .i64 m9.base, .int .i64 0, .int .i64 0, .int .i64 m9.pl, .int .i64 0, .int .i64 0, .int .i64 m9.ar, .int .i64 m9.pd, .bool false, .bool m9.dn] rfl rfl) | exact Or.inr ⟨by rfl, rfl⟩) ?_; try simp only [Act.put, List.setIfInBounds_toArray, List.set_cons_zero, List.set_cons_succ])
            (refine takeE Ext.tr 1 (by simp only [List.getElem?_toArray, List.getElem?_cons_succ, List.getElem?_cons_zero]; rfl) (by kernel_rfl) (by kernel_rfl) (by kernel_rfl) (by exact fun _ _ _ h => h) (by first | (refine Or.inl ⟨by rfl, ?_⟩; intro W hW; exact exec_load_bk rowRv (.tmp 15) rfl gb 0 rfl (HGD.out.below hW) [.int .i64 z9.c0, .int .i64 m9.pa, .int .i64 z9.c2, .int .i64 z9.c3, .int .i64 m9.size, .int .i64 z9.c5, .int .i64 z9.c6, .int .i64 z9.c7, .int .i64 z9.c8, .int .i64 z9.c9, .int .i64 z9.c10, .int .i64 z9.c11, .int .i64 z9.c12, .int .i64 z9.c13, .int .i64 m9.sr, .int .i64 m9.ds, .int .i64 m9.cn, .int .i64 m9.cl, .int .i64 m9.base, .slice z9.A z9.n z9.c, .slice z9.J z9.jn z9.jc, .int .i64 m9.jm.ps.length, .int .i64 m9.jm.N, .int .i64 m9.jm.T, .int .i64 m9.ar, .int .i64 m9.pl, .int .i64 m9.pd, .bool m9.dn] rfl rfl) | exact Or.inr ⟨by rfl, rfl⟩) ?_; try simp only [Act.put, List.setIfInBounds_toArray, List.set_cons_zero, List.set_cons_succ])
            refine wpAnyE_one (i := 2) (by kernel_rfl) (by simp only [List.getElem?_toArray, List.getElem?_cons_succ, List.getElem?_cons_zero]; rfl) (fun K hK => ?_)
            go_simp
            refine (r_line z9 m9 _).mono ?_
            rintro en v1 ⟨rfl, hb1⟩
            have hE1 : Ext wd v1 := hb1
            clear q26 q27 p7 p10 p11 t4
            have q26 : ∀ W, Ext v1 W → W.cell? ⟨gb, 26, none⟩ = some (.int .i64 m9.pd) := fun W hW => (HGD.out.below (Ext.trans _ _ _ hE1 hW)).cell 26 rfl
            have q27 : ∀ W, Ext v1 W → W.cell? ⟨gb, 27, none⟩ = some (.bool m9.dn) := fun W hW => (HGD.out.below (Ext.trans _ _ _ hE1 hW)).cell 27 rfl
            have p7 : ∀ W, Ext v1 W → W.cell? ⟨wa.heap.size, 7, none⟩ = some (.int .i64 m9.pl) := fun W hW => (HLD.out.below (Ext.trans _ _ _ hE1 hW)).cell 7 rfl
            have p10 : ∀ W, Ext v1 W → W.cell? ⟨wa.heap.size, 10, none⟩ = some (.int .i64 m9.ar) := fun W hW => (HLD.out.below (Ext.trans _ _ _ hE1 hW)).cell 10 rfl
            have p11 : ∀ W, Ext v1 W → W.cell? ⟨wa.heap.size, 11, none⟩ = some (.int .i64 m9.pd) := fun W hW => (HLD.out.below (Ext.trans _ _ _ hE1 hW)).cell 11 rfl
            have t4 : ∀ W, Ext v1 W → W.cell? ⟨w.heap.size, 4, none⟩ = some (.int .i64 c.c4) := fun W hW => (HCD.out.below (Ext.trans _ _ _ hE1 hW)).cell 4 rfl
            refine hK.out _ _ hb1 ?_
            clear hK K
            try simp only [Act.put, List.setIfInBounds_toArray, List.set_cons_zero, List.set_cons_succ]
            (refine takeE Ext.tr 3 (by simp only [List.getElem?_toArray, List.getElem?_cons_succ, List.getElem?_cons_zero]; rfl) (by kernel_rfl) (by kernel_rfl) (by kernel_rfl) (by exact fun _ _ _ h => h) (by first | (refine Or.inl ⟨by rfl, ?_⟩; intro W hW; go_simp; try with_reducible rfl) | exact Or.inr ⟨by rfl, rfl⟩) ?_; try simp only [Act.put, List.setIfInBounds_toArray, List.set_cons_zero, List.set_cons_succ])
            (refine takeE Ext.tr 4 (by simp only [List.getElem?_toArray, List.getElem?_cons_succ, List.getElem?_cons_zero]; rfl) (by kernel_rfl) (by kernel_rfl) (by kernel_rfl) (by exact fun _ _ _ h => h) (by first | (refine Or.inl ⟨by rfl, ?_⟩; intro W hW; go_simp; try with_reducible rfl) | exact Or.inr ⟨by rfl, rfl⟩) ?_; try simp only [Act.put, List.setIfInBounds_toArray, List.set_cons_zero, List.set_cons_succ])
            (refine takeE Ext.tr 5 (by simp only [List.getElem?_toArray, List.getElem?_cons_succ, List.getElem?_cons_zero]; rfl) (by kernel_rfl) (by kernel_rfl) (by kernel_rfl) (by exact fun _ _ _ h => h) (by first | (refine Or.inl ⟨by rfl, ?_⟩; intro W hW; go_simp; try with_reducible rfl) | exact Or.inr ⟨by rfl, rfl⟩) ?_; try simp only [Act.put, List.setIfInBounds_toArray, List.set_cons_zero, List.set_cons_succ])
            (refine takeE Ext.tr 7 (by simp only [List.getElem?_toArray, List.getElem?_cons_succ, List.getElem?_cons_zero]; rfl) (by kernel_rfl) (by kernel_rfl) (by kernel_rfl) (by exact fun _ _ _ h => h) (by first | (refine Or.inl ⟨by rfl, ?_⟩; intro W hW; go_simp; try with_reducible rfl) | exact Or.inr ⟨by rfl, rfl⟩) ?_; try simp only [Act.put, List.setIfInBounds_toArray, List.set_cons_zero, List.set_cons_succ])
            (refine takeE Ext.tr 8 (by simp only [List.getElem?_toArray, List.getElem?_cons_succ, List.getElem?_cons_zero]; rfl) (by kernel_rfl) (by kernel_rfl) (by kernel_rfl) (by exact fun _ _ _ h => h) (by first | (refine Or.inl ⟨by rfl, ?_⟩; intro W hW; go_simp; try with_reducible rfl) | exact Or.inr ⟨by rfl, rfl⟩) ?_; try simp only [Act.put, List.setIfInBounds_toArray, List.set_cons_zero, List.set_cons_succ])
            refine wpAnyE_one (i := 6) (by kernel_rfl) (by simp only [List.getElem?_toArray, List.getElem?_cons_succ, List.getElem?_cons_zero]; rfl) (fun K hK => ?_)
            go_simp
            refine (v_pending (HJD.out.next hE1).rc).mono ?_
            rintro en v2 ⟨rfl, hb2⟩
            have hE2 : Ext wd v2 := Ext.trans _ _ _ hE1 hb2
            clear q26 q27 p7 p10 p11 t4
            have q26 : ∀ W, Ext v2 W → W.cell? ⟨gb, 26, none⟩ = some (.int .i64 m9.pd) := fun W hW => (HGD.out.below (Ext.trans _ _ _ hE2 hW)).cell 26 rfl
            have q27 : ∀ W, Ext v2 W → W.cell? ⟨gb, 27, none⟩ = some (.bool m9.dn) := fun W hW => (HGD.out.below (Ext.trans _ _ _ hE2 hW)).cell 27 rfl
            have p7 : ∀ W, Ext v2 W → W.cell? ⟨wa.heap.size, 7, none⟩ = some (.int .i64 m9.pl) := fun W hW => (HLD.out.below (Ext.trans _ _ _ hE2 hW)).cell 7 rfl
            have p10 : ∀ W, Ext v2 W → W.cell? ⟨wa.heap.size, 10, none⟩ = some (.int .i64 m9.ar) := fun W hW => (HLD.out.below (Ext.trans _ _ _ hE2 hW)).cell 10 rfl
            have p11 : ∀ W, Ext v2 W → W.cell? ⟨wa.heap.size, 11, none⟩ = some (.int .i64 m9.pd) := fun W hW => (HLD.out.below (Ext.trans _ _ _ hE2 hW)).cell 11 rfl
            have t4 : ∀ W, Ext v2 W → W.cell? ⟨w.heap.size, 4, none⟩ = some (.int .i64 c.c4) := fun W hW => (HCD.out.below (Ext.trans _ _ _ hE2 hW)).cell 4 rfl
            refine hK.out _ _ hb2 ?_
            clear hK K
            try simp only [Act.put, List.setIfInBounds_toArray, List.set_cons_zero, List.set_cons_succ]
            (refine takeE Ext.tr 9 (by simp only [List.getElem?_toArray, List.getElem?_cons_succ, List.getElem?_cons_zero]; rfl) (by kernel_rfl) (by kernel_rfl) (by kernel_rfl) (by exact fun _ _ _ h => h) (by first | (refine Or.inl ⟨by rfl, ?_⟩; intro W hW; go_simp; try with_reducible rfl) | exact Or.inr ⟨by rfl, rfl⟩) ?_; try simp only [Act.put, List.setIfInBounds_toArray, List.set_cons_zero, List.set_cons_succ])
            (refine takeE Ext.tr 10 (by simp only [List.getElem?_toArray, List.getElem?_cons_succ, List.getElem?_cons_zero]; rfl) (by kernel_rfl) (by kernel_rfl) (by kernel_rfl) (by exact fun _ _ _ h => h) (by first | (refine Or.inl ⟨by rfl, ?_⟩; intro W hW; go_simp; try with_reducible rfl) | exact Or.inr ⟨by rfl, rfl⟩) ?_; try simp only [Act.put, List.setIfInBounds_toArray, List.set_cons_zero, List.set_cons_succ])
            (refine takeE Ext.tr 11 (by simp only [List.getElem?_toArray, List.getElem?_cons_succ, List.getElem?_cons_zero]; rfl) (by kernel_rfl) (by kernel_rfl) (by kernel_rfl) (by exact fun _ _ _ h => h) (by first | (refine Or.inl ⟨by rfl, ?_⟩; intro W hW; go_simp; try with_reducible rfl) | exact Or.inr ⟨by rfl, rfl⟩) ?_; try simp only [Act.put, List.setIfInBounds_toArray, List.set_cons_zero, List.set_cons_succ])
            (refine takeE Ext.tr 12 (by simp only [List.getElem?_toArray, List.getElem?_cons_succ, List.getElem?_cons_zero]; rfl) (by kernel_rfl) (by kernel_rfl) (by kernel_rfl) (by exact fun _ _ _ h => h) (by first | (refine Or.inl ⟨by rfl, ?_⟩; intro W hW; go_simp; try with_reducible rfl) | exact Or.inr ⟨by rfl, rfl⟩) ?_; try simp only [Act.put, List.setIfInBounds_toArray, List.set_cons_zero, List.set_cons_succ])
            (refine takeE Ext.tr 14 (by simp only [List.getElem?_toArray, List.getElem?_cons_succ, List.getElem?_cons_zero]; rfl) (by kernel_rfl) (by kernel_rfl) (by kernel_rfl) (by exact fun _ _ _ h => h) (by first | (refine Or.inl ⟨by rfl, ?_⟩; intro W hW; go_simp; try with_reducible rfl) | exact Or.inr ⟨by rfl, rfl⟩) ?_; try simp only [Act.put, List.setIfInBounds_toArray, List.set_cons_zero, List.set_cons_succ])
            (refine takeE Ext.tr 15 (by simp only [List.getElem?_toArray, List.getElem?_cons_succ, List.getElem?_cons_zero]; rfl) (by kernel_rfl) (by kernel_rfl) (by kernel_rfl) (by exact fun _ _ _ h => h) (by first | (refine Or.inl ⟨by rfl, ?_⟩; intro W hW; go_simp; try with_reducible rfl) | exact Or.inr ⟨by rfl, rfl⟩) ?_; try simp only [Act.put, List.setIfInBounds_toArray, List.set_cons_zero, List.set_cons_succ])
            refine wpAnyE_one (i := 13) (by kernel_rfl) (by simp only [List.getElem?_toArray, List.getElem?_cons_succ, List.getElem?_cons_zero]; rfl) (fun K hK => ?_)
            go_simp
            refine (v_done (HJD.out.next hE2).rc).mono ?_
            rintro en v3 ⟨rfl, hb3⟩
            have hE3 : Ext wd v3 := Ext.trans _ _ _ hE2 hb3
            clear q26 q27 p7 p10 p11 t4
            have q26 : ∀ W, Ext v3 W → W.cell? ⟨gb, 26, none⟩ = some (.int .i64 m9.pd) := fun W hW => (HGD.out.below (Ext.trans _ _ _ hE3 hW)).cell 26 rfl
            have q27 : ∀ W, Ext v3 W → W.cell? ⟨gb, 27, none⟩ = some (.bool m9.dn) := fun W hW => (HGD.out.below (Ext.trans _ _ _ hE3 hW)).cell 27 rfl
            have p7 : ∀ W, Ext v3 W → W.cell? ⟨wa.heap.size, 7, none⟩ = some (.int .i64 m9.pl) := fun W hW => (HLD.out.below (Ext.trans _ _ _ hE3 hW)).cell 7 rfl
            have p10 : ∀ W, Ext v3 W → W.cell? ⟨wa.heap.size, 10, none⟩ = some (.int .i64 m9.ar) := fun W hW => (HLD.out.below (Ext.trans _ _ _ hE3 hW)).cell 10 rfl
            have p11 : ∀ W, Ext v3 W → W.cell? ⟨wa.heap.size, 11, none⟩ = some (.int .i64 m9.pd) := fun W hW => (HLD.out.below (Ext.trans _ _ _ hE3 hW)).cell 11 rfl
            have t4 : ∀ W, Ext v3 W → W.cell? ⟨w.heap.size, 4, none⟩ = some (.int .i64 c.c4) := fun W hW => (HCD.out.below (Ext.trans _ _ _ hE3 hW)).cell 4 rfl
            refine hK.out _ _ hb3 ?_
            clear hK K
            try simp only [Act.put, List.setIfInBounds_toArray, List.set_cons_zero, List.set_cons_succ]
            (refine takeE Ext.tr 16 (by simp only [List.getElem?_toArray, List.getElem?_cons_succ, List.getElem?_cons_zero]; rfl) (by kernel_rfl) (by kernel_rfl) (by kernel_rfl) (by exact fun _ _ _ h => h) (by first | (refine Or.inl ⟨by rfl, ?_⟩; intro W hW; go_simp; try with_reducible rfl) | exact Or.inr ⟨by rfl, rfl⟩) ?_; try simp only [Act.put, List.setIfInBounds_toArray, List.set_cons_zero, List.set_cons_succ])
            (refine takeE Ext.tr 17 (by simp only [List.getElem?_toArray, List.getElem?_cons_succ, List.getElem?_cons_zero]; rfl) (by kernel_rfl) (by kernel_rfl) (by kernel_rfl) (by exact fun _ _ _ h => h) (by first | (refine Or.inl ⟨by rfl, ?_⟩; intro W hW; go_simp; try with_reducible rfl) | exact Or.inr ⟨by rfl, rfl⟩) ?_; try simp only [Act.put, List.setIfInBounds_toArray, List.set_cons_zero, List.set_cons_succ])
            (refine takeE Ext.tr 18 (by simp only [List.getElem?_toArray, List.getElem?_cons_succ, List.getElem?_cons_zero]; rfl) (by kernel_rfl) (by kernel_rfl) (by kernel_rfl) (by exact fun _ _ _ h => h) (by first | (refine Or.inl ⟨by rfl, ?_⟩; intro W hW; go_simp; try with_reducible rfl) | exact Or.inr ⟨by rfl, rfl⟩) ?_; try simp only [Act.put, List.setIfInBounds_toArray, List.set_cons_zero, List.set_cons_succ])
            (refine takeE Ext.tr 19 (by simp only [List.getElem?_toArray, List.getElem?_cons_succ, List.getElem?_cons_zero]; rfl) (by kernel_rfl) (by kernel_rfl) (by kernel_rfl) (by exact fun _ _ _ h => h) (by first | (refine Or.inl ⟨by rfl, ?_⟩; intro W hW; go_simp; try with_reducible rfl) | exact Or.inr ⟨by rfl, rfl⟩) ?_; try simp only [Act.put, List.setIfInBounds_toArray, List.set_cons_zero, List.set_cons_succ])
            (refine takeE Ext.tr 21 (by simp only [List.getElem?_toArray, List.getElem?_cons_succ, List.getElem?_cons_zero]; rfl) (by kernel_rfl) (by kernel_rfl) (by kernel_rfl) (by exact fun _ _ _ h => h) (by first | (refine Or.inl ⟨by rfl, ?_⟩; intro W hW; exact exec_load_bk rowRv (.tmp 15) rfl gb 0 rfl (HGD.out.below (Ext.trans _ _ _ hE3 hW)) [.int .i64 z9.c0, .int .i64 m9.pa, .int .i64 z9.c2, .int .i64 z9.c3, .int .i64 m9.size, .int .i64 z9.c5, .int .i64 z9.c6, .int .i64 z9.c7, .int .i64 z9.c8, .int .i64 z9.c9, .int .i64 z9.c10, .int .i64 z9.c11, .int .i64 z9.c12, .int .i64 z9.c13, .int .i64 m9.sr, .int .i64 m9.ds, .int .i64 m9.cn, .int .i64 m9.cl, .int .i64 m9.base, .slice z9.A z9.n z9.c, .slice z9.J z9.jn z9.jc, .int .i64 m9.jm.ps.length, .int .i64 m9.jm.N, .int .i64 m9.jm.T, .int .i64 m9.ar, .int .i64 m9.pl, .int .i64 m9.pd, .bool m9.dn] rfl rfl) | exact Or.inr ⟨by rfl, rfl⟩) ?_; try simp only [Act.put, List.setIfInBounds_toArray, List.set_cons_zero, List.set_cons_succ])
            refine wpAnyE_one (i := 20) (by kernel_rfl) (by simp only [List.getElem?_toArray, List.getElem?_cons_succ, List.getElem?_cons_zero]; rfl) (fun K hK => ?_)
            go_simp
            refine (v_kept (HJD.out.next hE3).rc HK9.out.1.ok).mono ?_
            rintro en v4 ⟨A4, n4, c4, rfl, hl4, hb4⟩
            have hE4 : Ext wd v4 := Ext.trans _ _ _ hE3 hb4
            clear q26 q27 p7 p10 p11 t4
            have q26 : ∀ W, Ext v4 W → W.cell? ⟨gb, 26, none⟩ = some (.int .i64 m9.pd) := fun W hW => (HGD.out.below (Ext.trans _ _ _ hE4 hW)).cell 26 rfl
            have q27 : ∀ W, Ext v4 W → W.cell? ⟨gb, 27, none⟩ = some (.bool m9.dn) := fun W hW => (HGD.out.below (Ext.trans _ _ _ hE4 hW)).cell 27 rfl
            have p7 : ∀ W, Ext v4 W → W.cell? ⟨wa.heap.size, 7, none⟩ = some (.int .i64 m9.pl) := fun W hW => (HLD.out.below (Ext.trans _ _ _ hE4 hW)).cell 7 rfl
            have p10 : ∀ W, Ext v4 W → W.cell? ⟨wa.heap.size, 10, none⟩ = some (.int .i64 m9.ar) := fun W hW => (HLD.out.below (Ext.trans _ _ _ hE4 hW)).cell 10 rfl
            have p11 : ∀ W, Ext v4 W → W.cell? ⟨wa.heap.size, 11, none⟩ = some (.int .i64 m9.pd) := fun W hW => (HLD.out.below (Ext.trans _ _ _ hE4 hW)).cell 11 rfl
            have t4 : ∀ W, Ext v4 W → W.cell? ⟨w.heap.size, 4, none⟩ = some (.int .i64 c.c4) := fun W hW => (HCD.out.below (Ext.trans _ _ _ hE4 hW)).cell 4 rfl
            refine hK.out _ _ hb4 ?_
            clear hK K
            try simp only [Act.put, List.setIfInBounds_toArray, List.set_cons_zero, List.set_cons_succ]
            refine wpAnyE_one (i := 22) (by kernel_rfl) (by simp only [List.getElem?_toArray, List.getElem?_cons_succ, List.getElem?_cons_zero]; rfl) (fun K hK => ?_)
            go_simp
            refine (r_numbers (HJD.out.next hE4).rf.kp HZN.out).mono ?_
            rintro en v5 ⟨A5, n5, c5, rfl, hl5, hb5⟩
            have hE5 : Ext wd v5 := Ext.trans _ _ _ hE4 hb5
            clear q26 q27 p7 p10 p11 t4
            have q26 : ∀ W, Ext v5 W → W.cell? ⟨gb, 26, none⟩ = some (.int .i64 m9.pd) := fun W hW => (HGD.out.below (Ext.trans _ _ _ hE5 hW)).cell 26 rfl
            have q27 : ∀ W, Ext v5 W → W.cell? ⟨gb, 27, none⟩ = some (.bool m9.dn) := fun W hW => (HGD.out.below (Ext.trans _ _ _ hE5 hW)).cell 27 rfl
            have p7 : ∀ W, Ext v5 W → W.cell? ⟨wa.heap.size, 7, none⟩ = some (.int .i64 m9.pl) := fun W hW => (HLD.out.below (Ext.trans _ _ _ hE5 hW)).cell 7 rfl
            have p10 : ∀ W, Ext v5 W → W.cell? ⟨wa.heap.size, 10, none⟩ = some (.int .i64 m9.ar) := fun W hW => (HLD.out.below (Ext.trans _ _ _ hE5 hW)).cell 10 rfl
            have p11 : ∀ W, Ext v5 W → W.cell? ⟨wa.heap.size, 11, none⟩ = some (.int .i64 m9.pd) := fun W hW => (HLD.out.below (Ext.trans _ _ _ hE5 hW)).cell 11 rfl
            have t4 : ∀ W, Ext v5 W → W.cell? ⟨w.heap.size, 4, none⟩ = some (.int .i64 c.c4) := fun W hW => (HCD.out.below (Ext.trans _ _ _ hE5 hW)).cell 4 rfl
            refine hK.out _ _ hb5 ?_
            clear hK K
            try simp only [Act.put, List.setIfInBounds_toArray, List.set_cons_zero, List.set_cons_succ]
            refine wpAnyE_one (i := 23) (by kernel_rfl) (by simp only [List.getElem?_toArray, List.getElem?_cons_succ, List.getElem?_cons_zero]; rfl) (fun K hK => ?_)
            go_simp
            refine (same_any A4 A5 n4 c4 n5 c5 (sqs m9.ks) (sqs m9.ks) v5 (hl4.below hb5).rdv hl5.rdv).mono ?_
            rintro en v6 ⟨rfl, hb6⟩
            rw [decide_eq_true (rfl : sqs m9.ks = sqs m9.ks)]
            clear hl4 hl5
            have hE6 : Ext wd v6 := Ext.trans _ _ _ hE5 hb6
            clear q26 q27 p7 p10 p11 t4
            have q26 : ∀ W, Ext v6 W → W.cell? ⟨gb, 26, none⟩ = some (.int .i64 m9.pd) := fun W hW => (HGD.out.below (Ext.trans _ _ _ hE6 hW)).cell 26 rfl
            have q27 : ∀ W, Ext v6 W → W.cell? ⟨gb, 27, none⟩ = some (.bool m9.dn) := fun W hW => (HGD.out.below (Ext.trans _ _ _ hE6 hW)).cell 27 rfl
            have p7 : ∀ W, Ext v6 W → W.cell? ⟨wa.heap.size, 7, none⟩ = some (.int .i64 m9.pl) := fun W hW => (HLD.out.below (Ext.trans _ _ _ hE6 hW)).cell 7 rfl
            have p10 : ∀ W, Ext v6 W → W.cell? ⟨wa.heap.size, 10, none⟩ = some (.int .i64 m9.ar) := fun W hW => (HLD.out.below (Ext.trans _ _ _ hE6 hW)).cell 10 rfl
            have p11 : ∀ W, Ext v6 W → W.cell? ⟨wa.heap.size, 11, none⟩ = some (.int .i64 m9.pd) := fun W hW => (HLD.out.below (Ext.trans _ _ _ hE6 hW)).cell 11 rfl
            have t4 : ∀ W, Ext v6 W → W.cell? ⟨w.heap.size, 4, none⟩ = some (.int .i64 c.c4) := fun W hW => (HCD.out.below (Ext.trans _ _ _ hE6 hW)).cell 4 rfl
            refine hK.out _ _ hb6 ?_
            clear hK K
            try simp only [Act.put, List.setIfInBounds_toArray, List.set_cons_zero, List.set_cons_succ]
            (refine takeE Ext.tr 24 (by simp only [List.getElem?_toArray, List.getElem?_cons_succ, List.getElem?_cons_zero]; rfl) (by kernel_rfl) (by kernel_rfl) (by kernel_rfl) (by exact fun _ _ _ h => h) (by first | (refine Or.inl ⟨by rfl, ?_⟩; intro W hW; go_simp; try with_reducible rfl) | exact Or.inr ⟨by rfl, rfl⟩) ?_; try simp only [Act.put, List.setIfInBounds_toArray, List.set_cons_zero, List.set_cons_succ])
            (refine takeE Ext.tr 25 (by simp only [List.getElem?_toArray, List.getElem?_cons_succ, List.getElem?_cons_zero]; rfl) (by kernel_rfl) (by kernel_rfl) (by kernel_rfl) (by exact fun _ _ _ h => h) (by first | (refine Or.inl ⟨by rfl, ?_⟩; intro W hW; go_simp; try with_reducible rfl) | exact Or.inr ⟨by rfl, rfl⟩) ?_; try simp only [Act.put, List.setIfInBounds_toArray, List.set_cons_zero, List.set_cons_succ])
            (refine takeE Ext.tr 26 (by simp only [List.getElem?_toArray, List.getElem?_cons_succ, List.getElem?_cons_zero]; rfl) (by kernel_rfl) (by kernel_rfl) (by kernel_rfl) (by exact fun _ _ _ h => h) (by first | (refine Or.inl ⟨by rfl, ?_⟩; intro W hW; go_simp; try with_reducible rfl) | exact Or.inr ⟨by rfl, rfl⟩) ?_; try simp only [Act.put, List.setIfInBounds_toArray, List.set_cons_zero, List.set_cons_succ])
            (refine takeE Ext.tr 27 (by simp only [List.getElem?_toArray, List.getElem?_cons_succ, List.getElem?_cons_zero]; rfl) (by kernel_rfl) (by kernel_rfl) (by kernel_rfl) (by exact fun _ _ _ h => h) (by first | (refine Or.inl ⟨by rfl, ?_⟩; intro W hW; go_simp; try with_reducible rfl) | exact Or.inr ⟨by rfl, rfl⟩) ?_; try simp only [Act.put, List.setIfInBounds_toArray, List.set_cons_zero, List.set_cons_succ])
            (refine takeE Ext.tr 29 (by simp only [List.getElem?_toArray, List.getElem?_cons_succ, List.getElem?_cons_zero]; rfl) (by kernel_rfl) (by kernel_rfl) (by kernel_rfl) (by exact fun _ _ _ h => h) (by first | (refine Or.inl ⟨by rfl, ?_⟩; intro W hW; go_simp; try with_reducible rfl) | exact Or.inr ⟨by rfl, rfl⟩) ?_; try simp only [Act.put, List.setIfInBounds_toArray, List.set_cons_zero, List.set_cons_succ])
            (refine takeE Ext.tr 32 (by simp only [List.getElem?_toArray, List.getElem?_cons_succ, List.getElem?_cons_zero]; rfl) (by kernel_rfl) (by kernel_rfl) (by kernel_rfl) (by exact fun _ _ _ h => h) (by first | (refine Or.inl ⟨by rfl, ?_⟩; intro W hW; go_simp; try with_reducible rfl) | exact Or.inr ⟨by rfl, rfl⟩) ?_; try simp only [Act.put, List.setIfInBounds_toArray, List.set_cons_zero, List.set_cons_succ])
            (refine takeE Ext.tr 28 (by simp only [List.getElem?_toArray, List.getElem?_cons_succ, List.getElem?_cons_zero]; rfl) (by kernel_rfl) (by kernel_rfl) (by kernel_rfl) (by exact fun _ _ _ h => h) (by first | (refine Or.inl ⟨by rfl, ?_⟩; intro W hW; go_simp; try with_reducible rfl) | exact Or.inr ⟨by rfl, rfl⟩) ?_; try simp only [Act.put, List.setIfInBounds_toArray, List.set_cons_zero, List.set_cons_succ])
            (refine takeE Ext.tr 30 (by simp only [List.getElem?_toArray, List.getElem?_cons_succ, List.getElem?_cons_zero]; rfl) (by kernel_rfl) (by kernel_rfl) (by kernel_rfl) (by exact fun _ _ _ h => h) (by first | (refine Or.inl ⟨by rfl, ?_⟩; intro W hW; go_simp; try with_reducible rfl) | exact Or.inr ⟨by rfl, rfl⟩) ?_; try simp only [Act.put, List.setIfInBounds_toArray, List.set_cons_zero, List.set_cons_succ])
            (refine takeE Ext.tr 33 (by simp only [List.getElem?_toArray, List.getElem?_cons_succ, List.getElem?_cons_zero]; rfl) (by kernel_rfl) (by kernel_rfl) (by kernel_rfl) (by exact fun _ _ _ h => h) (by first | (refine Or.inl ⟨by rfl, ?_⟩; intro W hW; go_simp; try with_reducible rfl) | exact Or.inr ⟨by rfl, rfl⟩) ?_; try simp only [Act.put, List.setIfInBounds_toArray, List.set_cons_zero, List.set_cons_succ])
            (refine takeE Ext.tr 31 (by simp only [List.getElem?_toArray, List.getElem?_cons_succ, List.getElem?_cons_zero]; rfl) (by kernel_rfl) (by kernel_rfl) (by kernel_rfl) (by exact fun _ _ _ h => h) (by first | (refine Or.inl ⟨by rfl, ?_⟩; intro W hW; go_simp; try with_reducible rfl) | exact Or.inr ⟨by rfl, rfl⟩) ?_; try simp only [Act.put, List.setIfInBounds_toArray, List.set_cons_zero, List.set_cons_succ])
            (refine takeE Ext.tr 34 (by simp only [List.getElem?_toArray, List.getElem?_cons_succ, List.getElem?_cons_zero]; rfl) (by kernel_rfl) (by kernel_rfl) (by kernel_rfl) (by exact fun _ _ _ h => h) (by first | (refine Or.inl ⟨by rfl, ?_⟩; intro W hW; go_simp; try with_reducible rfl) | exact Or.inr ⟨by rfl, rfl⟩) ?_; try simp only [Act.put, List.setIfInBounds_toArray, List.set_cons_zero, List.set_cons_succ])
            (refine takeE Ext.tr 35 (by simp only [List.getElem?_toArray, List.getElem?_cons_succ, List.getElem?_cons_zero]; rfl) (by kernel_rfl) (by kernel_rfl) (by kernel_rfl) (by exact fun _ _ _ h => h) (by first | (refine Or.inl ⟨by rfl, ?_⟩; intro W hW; go_simp; try with_reducible rfl) | exact Or.inr ⟨by rfl, rfl⟩) ?_; try simp only [Act.put, List.setIfInBounds_toArray, List.set_cons_zero, List.set_cons_succ])
            (refine takeE Ext.tr 36 (by simp only [List.getElem?_toArray, List.getElem?_cons_succ, List.getElem?_cons_zero]; rfl) (by kernel_rfl) (by kernel_rfl) (by kernel_rfl) (by exact fun _ _ _ h => h) (by first | (refine Or.inl ⟨by rfl, ?_⟩; intro W hW; go_simp; try with_reducible rfl) | exact Or.inr ⟨by rfl, rfl⟩) ?_; try simp only [Act.put, List.setIfInBounds_toArray, List.set_cons_zero, List.set_cons_succ])
            (refine takeE Ext.tr 37 (by simp only [List.getElem?_toArray, List.getElem?_cons_succ, List.getElem?_cons_zero]; rfl) (by kernel_rfl) (by kernel_rfl) (by kernel_rfl) (by exact fun _ _ _ h => h) (by first | (refine Or.inl ⟨by rfl, ?_⟩; intro W hW; go_simp; try with_reducible rfl) | exact Or.inr ⟨by rfl, rfl⟩) ?_; try simp only [Act.put, List.setIfInBounds_toArray, List.set_cons_zero, List.set_cons_succ])
            (refine takeE Ext.tr 40 (by simp only [List.getElem?_toArray, List.getElem?_cons_succ, List.getElem?_cons_zero]; rfl) (by kernel_rfl) (by kernel_rfl) (by kernel_rfl) (by exact fun _ _ _ h => h) (by first | (refine Or.inl ⟨by rfl, ?_⟩; intro W hW; go_simp; try with_reducible rfl) | exact Or.inr ⟨by rfl, rfl⟩) ?_; try simp only [Act.put, List.setIfInBounds_toArray, List.set_cons_zero, List.set_cons_succ])
            (refine takeE Ext.tr 41 (by simp only [List.getElem?_toArray, List.getElem?_cons_succ, List.getElem?_cons_zero]; rfl) (by kernel_rfl) (by kernel_rfl) (by kernel_rfl) (by exact fun _ _ _ h => h) (by first | (refine Or.inl ⟨by rfl, ?_⟩; intro W hW; go_simp; try with_reducible rfl) | exact Or.inr ⟨by rfl, rfl⟩) ?_; try simp only [Act.put, List.setIfInBounds_toArray, List.set_cons_zero, List.set_cons_succ])
            refine wpAnyE_one (i := 38) (by kernel_rfl) (by simp only [List.getElem?_toArray, List.getElem?_cons_succ, List.getElem?_cons_zero]; rfl) (fun K hK => ?_)
            go_simp
            refine (v_kept (HJD.out.next hE6).rc HK9.out.1.ok).mono ?_
            rintro en v7 ⟨A7, n7, c7, rfl, hl7, hb7⟩
            have hn7 : ¬ c.c4 ≤ (n7 : Int) := by have := HFEW.out; have h2 := hl7.1; rw [intV_len] at h2; have h3 : (sqs m9.ks).length = m9.ks.length := (by simp [sqs]); omega
            have hn8 := decide_eq_false hn7
            clear hl7
            have hE7 : Ext wd v7 := Ext.trans _ _ _ hE6 hb7
            clear q26 q27 p7 p10 p11 t4
            have q26 : ∀ W, Ext v7 W → W.cell? ⟨gb, 26, none⟩ = some (.int .i64 m9.pd) := fun W hW => (HGD.out.below (Ext.trans _ _ _ hE7 hW)).cell 26 rfl
            have q27 : ∀ W, Ext v7 W → W.cell? ⟨gb, 27, none⟩ = some (.bool m9.dn) := fun W hW => (HGD.out.below (Ext.trans _ _ _ hE7 hW)).cell 27 rfl
            have p7 : ∀ W, Ext v7 W → W.cell? ⟨wa.heap.size, 7, none⟩ = some (.int .i64 m9.pl) := fun W hW => (HLD.out.below (Ext.trans _ _ _ hE7 hW)).cell 7 rfl
            have p10 : ∀ W, Ext v7 W → W.cell? ⟨wa.heap.size, 10, none⟩ = some (.int .i64 m9.ar) := fun W hW => (HLD.out.below (Ext.trans _ _ _ hE7 hW)).cell 10 rfl
            have p11 : ∀ W, Ext v7 W → W.cell? ⟨wa.heap.size, 11, none⟩ = some (.int .i64 m9.pd) := fun W hW => (HLD.out.below (Ext.trans _ _ _ hE7 hW)).cell 11 rfl
            have t4 : ∀ W, Ext v7 W → W.cell? ⟨w.heap.size, 4, none⟩ = some (.int .i64 c.c4) := fun W hW => (HCD.out.below (Ext.trans _ _ _ hE7 hW)).cell 4 rfl
            refine hK.out _ _ hb7 ?_
            clear hK K
            try simp only [Act.put, List.setIfInBounds_toArray, List.set_cons_zero, List.set_cons_succ]
            (refine takeE Ext.tr 39 (by simp only [List.getElem?_toArray, List.getElem?_cons_succ, List.getElem?_cons_zero]; rfl) (by kernel_rfl) (by kernel_rfl) (by kernel_rfl) (by exact fun _ _ _ h => h) (by first | (refine Or.inl ⟨by rfl, ?_⟩; intro W hW; go_simp; try with_reducible rfl) | exact Or.inr ⟨by rfl, rfl⟩) ?_; try simp only [Act.put, List.setIfInBounds_toArray, List.set_cons_zero, List.set_cons_succ])
            (refine takeE Ext.tr 42 (by simp only [List.getElem?_toArray, List.getElem?_cons_succ, List.getElem?_cons_zero]; rfl) (by kernel_rfl) (by kernel_rfl) (by kernel_rfl) (by exact fun _ _ _ h => h) (by first | (refine Or.inl ⟨by rfl, ?_⟩; intro W hW; go_simp; try with_reducible rfl) | exact Or.inr ⟨by rfl, rfl⟩) ?_; try simp only [Act.put, List.setIfInBounds_toArray, List.set_cons_zero, List.set_cons_succ])
            (refine takeE Ext.tr 43 (by simp only [List.getElem?_toArray, List.getElem?_cons_succ, List.getElem?_cons_zero]; rfl) (by kernel_rfl) (by kernel_rfl) (by kernel_rfl) (by exact fun _ _ _ h => h) (by first | (refine Or.inl ⟨by rfl, ?_⟩; intro W hW; go_simp; try with_reducible rfl) | exact Or.inr ⟨by rfl, rfl⟩) ?_; try simp only [Act.put, List.setIfInBounds_toArray, List.set_cons_zero, List.set_cons_succ])
            refine wpAnyE_done (by kernel_rfl) ?_ _
            skip
            have HJ7 := Lib.hid (HJD.out.next hE7)
            clear q26 q27 p7 p10 p11 t4
            go_wp2
            go_roundw
            case rel => exact ⟨i + 1, F9, r9, e9, z9, m9, by omega, by omega, by go_num, rfl, HJ7.out, HK9.out⟩
            case measure => simp [intOf]; omega
        · go_wp2_with (go_at_call 17; refine (v_fork JR.out.rc HM.out.1.ok).mono ?_; rintro en wf ⟨r9, e9, F9, rfl, hr9, hn9, hb9⟩
                       have J9' := Lib.hid (JR.out.fork hr9 hn9 hb9)
                       clear hr9 hn9 hb9)
          obtain ⟨z9, hz9⟩ : ∃ z9, z9 = z := ⟨_, rfl⟩
          obtain ⟨m9, hm9⟩ : ∃ m9, m9 = m := ⟨_, rfl⟩
          have HK9 : Hid (m9.Fit (i + 1) ∧ m9.jm.op ≤ 65536 ∧ m9.size = size) := Lib.hid (by rw [hm9]; exact ⟨HM.out.1.mono (by omega), HM.out.2.1, HM.out.2.2⟩)
          have J9 := J9'
          rw [← hz9, ← hm9] at J9
          clear hz9 hm9 J9'
          have HFEW : Hid ((m9.ks.length : Int) < c.c4) := Lib.hid (by have := HK9.out.1.few; have h2 := HK9.out.2.2; have h3 := HSZ.out; omega)
          have HZN : Hid (z9.n ≤ 100000) := Lib.hid (by have := J9.out.rf.kp.len; have h2 := HK9.out.1.lc; omega)
          have hct := HK9.out.1.ok.ct
          have hct2 : ¬ ((m9.ar : Int) < (m9.pl : Int) + m9.pd) := by omega
          have hwr : IntKind.i64.wrap ((m9.pl : Int) + m9.pd) = (m9.pl : Int) + m9.pd := by rw [IntKind.wrap_i64]; omega
          have hct3 := decide_eq_false hct2
          clear hct
          go_wp2_with (first
            | (go_at_call 18; refine (v_line J9.out.rc).mono ?_; rintro en wa ⟨rfl, hba⟩
               have hzl := Bk.new wa 58 [.int .i64 0, .int .i64 0, .int .i64 0, .int .i64 0, .int .i64 0, .int .i64 0, .int .i64 0, .int .i64 0, .int .i64 0, .int .i64 0, .int .i64 0, .int .i64 0, .bool false, .bool false]
               have JA9 := Lib.hid (J9.out.next hba)
               clear hba)
            | ((with_reducible refine at_store 58 (.tmp 28) (.tmp 145) (by rfl) ?_); refine wpList_store_bk rowLn rfl (.tmp 28) (.tmp 145) rfl wa.heap.size 0 rfl hzl [.int .i64 m9.sr, .int .i64 m9.ds, .int .i64 m9.cn, .int .i64 m9.cl, .int .i64 m9.base, .int .i64 0, .int .i64 0, .int .i64 m9.pl, .int .i64 0, .int .i64 0, .int .i64 m9.ar, .int .i64 m9.pd, .bool false, .bool m9.dn] rfl rfl (by decide) (by simp [Value.oneCell']) ?_; rintro wb zb hwb
               rw [lay_all _ _ (by rfl)] at zb
               have HLB := Lib.hid zb
               have HJL := Lib.hid (JA9.out.next (((Below.refl _ _).alloc (Nat.le_refl _) (.cells #[.int .i64 0, .int .i64 0, .int .i64 0, .int .i64 0, .int .i64 0, .int .i64 0, .int .i64 0, .int .i64 0, .int .i64 0, .int .i64 0, .int .i64 0, .int .i64 0, .bool false, .bool false] 58)).trans (hwb.below (Nat.le_refl _) (by simp))))
               clear zb hwb hzl))
          refine wp_region_E Ext (by kernel_rfl) (fun wd hbd hsz => ?_)
          have HJD := Lib.hid (HJL.out.next hbd)
          have HGD := Lib.hid (HJD.out.bx)
          have HLD := Lib.hid (HLB.out.below hbd)
          have HCD := Lib.hid (HCF.out.below HJD.out.bel)
          have HBD := Lib.hid hbd
          have q26 : ∀ W, Ext wd W → W.cell? ⟨gb, 26, none⟩ = some (.int .i64 m9.pd) := fun W hW => (HGD.out.below hW).cell 26 rfl
          have q27 : ∀ W, Ext wd W → W.cell? ⟨gb, 27, none⟩ = some (.bool m9.dn) := fun W hW => (HGD.out.below hW).cell 27 rfl
          have p7 : ∀ W, Ext wd W → W.cell? ⟨wa.heap.size, 7, none⟩ = some (.int .i64 m9.pl) := fun W hW => (HLD.out.below hW).cell 7 rfl
          have p10 : ∀ W, Ext wd W → W.cell? ⟨wa.heap.size, 10, none⟩ = some (.int .i64 m9.ar) := fun W hW => (HLD.out.below hW).cell 10 rfl
          have p11 : ∀ W, Ext wd W → W.cell? ⟨wa.heap.size, 11, none⟩ = some (.int .i64 m9.pd) := fun W hW => (HLD.out.below hW).cell 11 rfl
          have t4 : ∀ W, Ext wd W → W.cell? ⟨w.heap.size, 4, none⟩ = some (.int .i64 c.c4) := fun W hW => (HCD.out.below hW).cell 4 rfl
          clear hsz
          (refine takeE Ext.tr 0 (by simp only [List.getElem?_toArray, List.getElem?_cons_succ, List.getElem?_cons_zero]; rfl) (by kernel_rfl) (by kernel_rfl) (by kernel_rfl) (by exact fun _ _ _ h => h) (by first | (refine Or.inl ⟨by rfl, ?_⟩; intro W hW; exact exec_load_bk rowLn (.tmp 28) rfl wa.heap.size 0 rfl (HLD.out.below hW) [.int .i64 m9.sr, .int .i64 m9.ds, .int .i64 m9.cn, .int .i64 m9.cl, .int .i64 m9.base, .int .i64 0, .int .i64 0, .int .i64 m9.pl, .int .i64 0, .int .i64 0, .int .i64 m9.ar, .int .i64 m9.pd, .bool false, .bool m9.dn] rfl rfl) | exact Or.inr ⟨by rfl, rfl⟩) ?_; try simp only [Act.put, List.setIfInBounds_toArray, List.set_cons_zero, List.set_cons_succ])
          (refine takeE Ext.tr 1 (by simp only [List.getElem?_toArray, List.getElem?_cons_succ, List.getElem?_cons_zero]; rfl) (by kernel_rfl) (by kernel_rfl) (by kernel_rfl) (by exact fun _ _ _ h => h) (by first | (refine Or.inl ⟨by rfl, ?_⟩; intro W hW; exact exec_load_bk rowRv (.tmp 15) rfl gb 0 rfl (HGD.out.below hW) [.int .i64 z9.c0, .int .i64 m9.pa, .int .i64 z9.c2, .int .i64 z9.c3, .int .i64 m9.size, .int .i64 z9.c5, .int .i64 z9.c6, .int .i64 z9.c7, .int .i64 z9.c8, .int .i64 z9.c9, .int .i64 z9.c10, .int .i64 z9.c11, .int .i64 z9.c12, .int .i64 z9.c13, .int .i64 m9.sr, .int .i64 m9.ds, .int .i64 m9.cn, .int .i64 m9.cl, .int .i64 m9.base, .slice z9.A z9.n z9.c, .slice z9.J z9.jn z9.jc, .int .i64 m9.jm.ps.length, .int .i64 m9.jm.N, .int .i64 m9.jm.T, .int .i64 m9.ar, .int .i64 m9.pl, .int .i64 m9.pd, .bool m9.dn] rfl rfl) | exact Or.inr ⟨by rfl, rfl⟩) ?_; try simp only [Act.put, List.setIfInBounds_toArray, List.set_cons_zero, List.set_cons_succ])
          refine wpAnyE_one (i := 2) (by kernel_rfl) (by simp only [List.getElem?_toArray, List.getElem?_cons_succ, List.getElem?_cons_zero]; rfl) (fun K hK => ?_)
          go_simp
          refine (r_line z9 m9 _).mono ?_
          rintro en v1 ⟨rfl, hb1⟩
          have hE1 : Ext wd v1 := hb1
          clear q26 q27 p7 p10 p11 t4
          have q26 : ∀ W, Ext v1 W → W.cell? ⟨gb, 26, none⟩ = some (.int .i64 m9.pd) := fun W hW => (HGD.out.below (Ext.trans _ _ _ hE1 hW)).cell 26 rfl
          have q27 : ∀ W, Ext v1 W → W.cell? ⟨gb, 27, none⟩ = some (.bool m9.dn) := fun W hW => (HGD.out.below (Ext.trans _ _ _ hE1 hW)).cell 27 rfl
          have p7 : ∀ W, Ext v1 W → W.cell? ⟨wa.heap.size, 7, none⟩ = some (.int .i64 m9.pl) := fun W hW => (HLD.out.below (Ext.trans _ _ _ hE1 hW)).cell 7 rfl
          have p10 : ∀ W, Ext v1 W → W.cell? ⟨wa.heap.size, 10, none⟩ = some (.int .i64 m9.ar) := fun W hW => (HLD.out.below (Ext.trans _ _ _ hE1 hW)).cell 10 rfl
          have p11 : ∀ W, Ext v1 W → W.cell? ⟨wa.heap.size, 11, none⟩ = some (.int .i64 m9.pd) := fun W hW => (HLD.out.below (Ext.trans _ _ _ hE1 hW)).cell 11 rfl
          have t4 : ∀ W, Ext v1 W → W.cell? ⟨w.heap.size, 4, none⟩ = some (.int .i64 c.c4) := fun W hW => (HCD.out.below (Ext.trans _ _ _ hE1 hW)).cell 4 rfl
          refine hK.out _ _ hb1 ?_
          clear hK K
          try simp only [Act.put, List.setIfInBounds_toArray, List.set_cons_zero, List.set_cons_succ]
          (refine takeE Ext.tr 3 (by simp only [List.getElem?_toArray, List.getElem?_cons_succ, List.getElem?_cons_zero]; rfl) (by kernel_rfl) (by kernel_rfl) (by kernel_rfl) (by exact fun _ _ _ h => h) (by first | (refine Or.inl ⟨by rfl, ?_⟩; intro W hW; go_simp; try with_reducible rfl) | exact Or.inr ⟨by rfl, rfl⟩) ?_; try simp only [Act.put, List.setIfInBounds_toArray, List.set_cons_zero, List.set_cons_succ])
          (refine takeE Ext.tr 4 (by simp only [List.getElem?_toArray, List.getElem?_cons_succ, List.getElem?_cons_zero]; rfl) (by kernel_rfl) (by kernel_rfl) (by kernel_rfl) (by exact fun _ _ _ h => h) (by first | (refine Or.inl ⟨by rfl, ?_⟩; intro W hW; go_simp; try with_reducible rfl) | exact Or.inr ⟨by rfl, rfl⟩) ?_; try simp only [Act.put, List.setIfInBounds_toArray, List.set_cons_zero, List.set_cons_succ])
          (refine takeE Ext.tr 5 (by simp only [List.getElem?_toArray, List.getElem?_cons_succ, List.getElem?_cons_zero]; rfl) (by kernel_rfl) (by kernel_rfl) (by kernel_rfl) (by exact fun _ _ _ h => h) (by first | (refine Or.inl ⟨by rfl, ?_⟩; intro W hW; go_simp; try with_reducible rfl) | exact Or.inr ⟨by rfl, rfl⟩) ?_; try simp only [Act.put, List.setIfInBounds_toArray, List.set_cons_zero, List.set_cons_succ])
          (refine takeE Ext.tr 7 (by simp only [List.getElem?_toArray, List.getElem?_cons_succ, List.getElem?_cons_zero]; rfl) (by kernel_rfl) (by kernel_rfl) (by kernel_rfl) (by exact fun _ _ _ h => h) (by first | (refine Or.inl ⟨by rfl, ?_⟩; intro W hW; go_simp; try with_reducible rfl) | exact Or.inr ⟨by rfl, rfl⟩) ?_; try simp only [Act.put, List.setIfInBounds_toArray, List.set_cons_zero, List.set_cons_succ])
          (refine takeE Ext.tr 8 (by simp only [List.getElem?_toArray, List.getElem?_cons_succ, List.getElem?_cons_zero]; rfl) (by kernel_rfl) (by kernel_rfl) (by kernel_rfl) (by exact fun _ _ _ h => h) (by first | (refine Or.inl ⟨by rfl, ?_⟩; intro W hW; go_simp; try with_reducible rfl) | exact Or.inr ⟨by rfl, rfl⟩) ?_; try simp only [Act.put, List.setIfInBounds_toArray, List.set_cons_zero, List.set_cons_succ])
          refine wpAnyE_one (i := 6) (by kernel_rfl) (by simp only [List.getElem?_toArray, List.getElem?_cons_succ, List.getElem?_cons_zero]; rfl) (fun K hK => ?_)
          go_simp
          refine (v_pending (HJD.out.next hE1).rc).mono ?_
          rintro en v2 ⟨rfl, hb2⟩
          have hE2 : Ext wd v2 := Ext.trans _ _ _ hE1 hb2
          clear q26 q27 p7 p10 p11 t4
          have q26 : ∀ W, Ext v2 W → W.cell? ⟨gb, 26, none⟩ = some (.int .i64 m9.pd) := fun W hW => (HGD.out.below (Ext.trans _ _ _ hE2 hW)).cell 26 rfl
          have q27 : ∀ W, Ext v2 W → W.cell? ⟨gb, 27, none⟩ = some (.bool m9.dn) := fun W hW => (HGD.out.below (Ext.trans _ _ _ hE2 hW)).cell 27 rfl
          have p7 : ∀ W, Ext v2 W → W.cell? ⟨wa.heap.size, 7, none⟩ = some (.int .i64 m9.pl) := fun W hW => (HLD.out.below (Ext.trans _ _ _ hE2 hW)).cell 7 rfl
          have p10 : ∀ W, Ext v2 W → W.cell? ⟨wa.heap.size, 10, none⟩ = some (.int .i64 m9.ar) := fun W hW => (HLD.out.below (Ext.trans _ _ _ hE2 hW)).cell 10 rfl
          have p11 : ∀ W, Ext v2 W → W.cell? ⟨wa.heap.size, 11, none⟩ = some (.int .i64 m9.pd) := fun W hW => (HLD.out.below (Ext.trans _ _ _ hE2 hW)).cell 11 rfl
          have t4 : ∀ W, Ext v2 W → W.cell? ⟨w.heap.size, 4, none⟩ = some (.int .i64 c.c4) := fun W hW => (HCD.out.below (Ext.trans _ _ _ hE2 hW)).cell 4 rfl
          refine hK.out _ _ hb2 ?_
          clear hK K
          try simp only [Act.put, List.setIfInBounds_toArray, List.set_cons_zero, List.set_cons_succ]
          (refine takeE Ext.tr 9 (by simp only [List.getElem?_toArray, List.getElem?_cons_succ, List.getElem?_cons_zero]; rfl) (by kernel_rfl) (by kernel_rfl) (by kernel_rfl) (by exact fun _ _ _ h => h) (by first | (refine Or.inl ⟨by rfl, ?_⟩; intro W hW; go_simp; try with_reducible rfl) | exact Or.inr ⟨by rfl, rfl⟩) ?_; try simp only [Act.put, List.setIfInBounds_toArray, List.set_cons_zero, List.set_cons_succ])
          (refine takeE Ext.tr 10 (by simp only [List.getElem?_toArray, List.getElem?_cons_succ, List.getElem?_cons_zero]; rfl) (by kernel_rfl) (by kernel_rfl) (by kernel_rfl) (by exact fun _ _ _ h => h) (by first | (refine Or.inl ⟨by rfl, ?_⟩; intro W hW; go_simp; try with_reducible rfl) | exact Or.inr ⟨by rfl, rfl⟩) ?_; try simp only [Act.put, List.setIfInBounds_toArray, List.set_cons_zero, List.set_cons_succ])
          (refine takeE Ext.tr 11 (by simp only [List.getElem?_toArray, List.getElem?_cons_succ, List.getElem?_cons_zero]; rfl) (by kernel_rfl) (by kernel_rfl) (by kernel_rfl) (by exact fun _ _ _ h => h) (by first | (refine Or.inl ⟨by rfl, ?_⟩; intro W hW; go_simp; try with_reducible rfl) | exact Or.inr ⟨by rfl, rfl⟩) ?_; try simp only [Act.put, List.setIfInBounds_toArray, List.set_cons_zero, List.set_cons_succ])
          (refine takeE Ext.tr 12 (by simp only [List.getElem?_toArray, List.getElem?_cons_succ, List.getElem?_cons_zero]; rfl) (by kernel_rfl) (by kernel_rfl) (by kernel_rfl) (by exact fun _ _ _ h => h) (by first | (refine Or.inl ⟨by rfl, ?_⟩; intro W hW; go_simp; try with_reducible rfl) | exact Or.inr ⟨by rfl, rfl⟩) ?_; try simp only [Act.put, List.setIfInBounds_toArray, List.set_cons_zero, List.set_cons_succ])
          (refine takeE Ext.tr 14 (by simp only [List.getElem?_toArray, List.getElem?_cons_succ, List.getElem?_cons_zero]; rfl) (by kernel_rfl) (by kernel_rfl) (by kernel_rfl) (by exact fun _ _ _ h => h) (by first | (refine Or.inl ⟨by rfl, ?_⟩; intro W hW; go_simp; try with_reducible rfl) | exact Or.inr ⟨by rfl, rfl⟩) ?_; try simp only [Act.put, List.setIfInBounds_toArray, List.set_cons_zero, List.set_cons_succ])
          (refine takeE Ext.tr 15 (by simp only [List.getElem?_toArray, List.getElem?_cons_succ, List.getElem?_cons_zero]; rfl) (by kernel_rfl) (by kernel_rfl) (by kernel_rfl) (by exact fun _ _ _ h => h) (by first | (refine Or.inl ⟨by rfl, ?_⟩; intro W hW; go_simp; try with_reducible rfl) | exact Or.inr ⟨by rfl, rfl⟩) ?_; try simp only [Act.put, List.setIfInBounds_toArray, List.set_cons_zero, List.set_cons_succ])
          refine wpAnyE_one (i := 13) (by kernel_rfl) (by simp only [List.getElem?_toArray, List.getElem?_cons_succ, List.getElem?_cons_zero]; rfl) (fun K hK => ?_)
          go_simp
          refine (v_done (HJD.out.next hE2).rc).mono ?_
          rintro en v3 ⟨rfl, hb3⟩
          have hE3 : Ext wd v3 := Ext.trans _ _ _ hE2 hb3
          clear q26 q27 p7 p10 p11 t4
          have q26 : ∀ W, Ext v3 W → W.cell? ⟨gb, 26, none⟩ = some (.int .i64 m9.pd) := fun W hW => (HGD.out.below (Ext.trans _ _ _ hE3 hW)).cell 26 rfl
          have q27 : ∀ W, Ext v3 W → W.cell? ⟨gb, 27, none⟩ = some (.bool m9.dn) := fun W hW => (HGD.out.below (Ext.trans _ _ _ hE3 hW)).cell 27 rfl
          have p7 : ∀ W, Ext v3 W → W.cell? ⟨wa.heap.size, 7, none⟩ = some (.int .i64 m9.pl) := fun W hW => (HLD.out.below (Ext.trans _ _ _ hE3 hW)).cell 7 rfl
          have p10 : ∀ W, Ext v3 W → W.cell? ⟨wa.heap.size, 10, none⟩ = some (.int .i64 m9.ar) := fun W hW => (HLD.out.below (Ext.trans _ _ _ hE3 hW)).cell 10 rfl
          have p11 : ∀ W, Ext v3 W → W.cell? ⟨wa.heap.size, 11, none⟩ = some (.int .i64 m9.pd) := fun W hW => (HLD.out.below (Ext.trans _ _ _ hE3 hW)).cell 11 rfl
          have t4 : ∀ W, Ext v3 W → W.cell? ⟨w.heap.size, 4, none⟩ = some (.int .i64 c.c4) := fun W hW => (HCD.out.below (Ext.trans _ _ _ hE3 hW)).cell 4 rfl
          refine hK.out _ _ hb3 ?_
          clear hK K
          try simp only [Act.put, List.setIfInBounds_toArray, List.set_cons_zero, List.set_cons_succ]
          (refine takeE Ext.tr 16 (by simp only [List.getElem?_toArray, List.getElem?_cons_succ, List.getElem?_cons_zero]; rfl) (by kernel_rfl) (by kernel_rfl) (by kernel_rfl) (by exact fun _ _ _ h => h) (by first | (refine Or.inl ⟨by rfl, ?_⟩; intro W hW; go_simp; try with_reducible rfl) | exact Or.inr ⟨by rfl, rfl⟩) ?_; try simp only [Act.put, List.setIfInBounds_toArray, List.set_cons_zero, List.set_cons_succ])
          (refine takeE Ext.tr 17 (by simp only [List.getElem?_toArray, List.getElem?_cons_succ, List.getElem?_cons_zero]; rfl) (by kernel_rfl) (by kernel_rfl) (by kernel_rfl) (by exact fun _ _ _ h => h) (by first | (refine Or.inl ⟨by rfl, ?_⟩; intro W hW; go_simp; try with_reducible rfl) | exact Or.inr ⟨by rfl, rfl⟩) ?_; try simp only [Act.put, List.setIfInBounds_toArray, List.set_cons_zero, List.set_cons_succ])
          (refine takeE Ext.tr 18 (by simp only [List.getElem?_toArray, List.getElem?_cons_succ, List.getElem?_cons_zero]; rfl) (by kernel_rfl) (by kernel_rfl) (by kernel_rfl) (by exact fun _ _ _ h => h) (by first | (refine Or.inl ⟨by rfl, ?_⟩; intro W hW; go_simp; try with_reducible rfl) | exact Or.inr ⟨by rfl, rfl⟩) ?_; try simp only [Act.put, List.setIfInBounds_toArray, List.set_cons_zero, List.set_cons_succ])
          (refine takeE Ext.tr 19 (by simp only [List.getElem?_toArray, List.getElem?_cons_succ, List.getElem?_cons_zero]; rfl) (by kernel_rfl) (by kernel_rfl) (by kernel_rfl) (by exact fun _ _ _ h => h) (by first | (refine Or.inl ⟨by rfl, ?_⟩; intro W hW; go_simp; try with_reducible rfl) | exact Or.inr ⟨by rfl, rfl⟩) ?_; try simp only [Act.put, List.setIfInBounds_toArray, List.set_cons_zero, List.set_cons_succ])
          (refine takeE Ext.tr 21 (by simp only [List.getElem?_toArray, List.getElem?_cons_succ, List.getElem?_cons_zero]; rfl) (by kernel_rfl) (by kernel_rfl) (by kernel_rfl) (by exact fun _ _ _ h => h) (by first | (refine Or.inl ⟨by rfl, ?_⟩; intro W hW; exact exec_load_bk rowRv (.tmp 15) rfl gb 0 rfl (HGD.out.below (Ext.trans _ _ _ hE3 hW)) [.int .i64 z9.c0, .int .i64 m9.pa, .int .i64 z9.c2, .int .i64 z9.c3, .int .i64 m9.size, .int .i64 z9.c5, .int .i64 z9.c6, .int .i64 z9.c7, .int .i64 z9.c8, .int .i64 z9.c9, .int .i64 z9.c10, .int .i64 z9.c11, .int .i64 z9.c12, .int .i64 z9.c13, .int .i64 m9.sr, .int .i64 m9.ds, .int .i64 m9.cn, .int .i64 m9.cl, .int .i64 m9.base, .slice z9.A z9.n z9.c, .slice z9.J z9.jn z9.jc, .int .i64 m9.jm.ps.length, .int .i64 m9.jm.N, .int .i64 m9.jm.T, .int .i64 m9.ar, .int .i64 m9.pl, .int .i64 m9.pd, .bool m9.dn] rfl rfl) | exact Or.inr ⟨by rfl, rfl⟩) ?_; try simp only [Act.put, List.setIfInBounds_toArray, List.set_cons_zero, List.set_cons_succ])
          refine wpAnyE_one (i := 20) (by kernel_rfl) (by simp only [List.getElem?_toArray, List.getElem?_cons_succ, List.getElem?_cons_zero]; rfl) (fun K hK => ?_)
          go_simp
          refine (v_kept (HJD.out.next hE3).rc HK9.out.1.ok).mono ?_
          rintro en v4 ⟨A4, n4, c4, rfl, hl4, hb4⟩
          have hE4 : Ext wd v4 := Ext.trans _ _ _ hE3 hb4
          clear q26 q27 p7 p10 p11 t4
          have q26 : ∀ W, Ext v4 W → W.cell? ⟨gb, 26, none⟩ = some (.int .i64 m9.pd) := fun W hW => (HGD.out.below (Ext.trans _ _ _ hE4 hW)).cell 26 rfl
          have q27 : ∀ W, Ext v4 W → W.cell? ⟨gb, 27, none⟩ = some (.bool m9.dn) := fun W hW => (HGD.out.below (Ext.trans _ _ _ hE4 hW)).cell 27 rfl
          have p7 : ∀ W, Ext v4 W → W.cell? ⟨wa.heap.size, 7, none⟩ = some (.int .i64 m9.pl) := fun W hW => (HLD.out.below (Ext.trans _ _ _ hE4 hW)).cell 7 rfl
          have p10 : ∀ W, Ext v4 W → W.cell? ⟨wa.heap.size, 10, none⟩ = some (.int .i64 m9.ar) := fun W hW => (HLD.out.below (Ext.trans _ _ _ hE4 hW)).cell 10 rfl
          have p11 : ∀ W, Ext v4 W → W.cell? ⟨wa.heap.size, 11, none⟩ = some (.int .i64 m9.pd) := fun W hW => (HLD.out.below (Ext.trans _ _ _ hE4 hW)).cell 11 rfl
          have t4 : ∀ W, Ext v4 W → W.cell? ⟨w.heap.size, 4, none⟩ = some (.int .i64 c.c4) := fun W hW => (HCD.out.below (Ext.trans _ _ _ hE4 hW)).cell 4 rfl
          refine hK.out _ _ hb4 ?_
          clear hK K
          try simp only [Act.put, List.setIfInBounds_toArray, List.set_cons_zero, List.set_cons_succ]
          refine wpAnyE_one (i := 22) (by kernel_rfl) (by simp only [List.getElem?_toArray, List.getElem?_cons_succ, List.getElem?_cons_zero]; rfl) (fun K hK => ?_)
          go_simp
          refine (r_numbers (HJD.out.next hE4).rf.kp HZN.out).mono ?_
          rintro en v5 ⟨A5, n5, c5, rfl, hl5, hb5⟩
          have hE5 : Ext wd v5 := Ext.trans _ _ _ hE4 hb5
          clear q26 q27 p7 p10 p11 t4
          have q26 : ∀ W, Ext v5 W → W.cell? ⟨gb, 26, none⟩ = some (.int .i64 m9.pd) := fun W hW => (HGD.out.below (Ext.trans _ _ _ hE5 hW)).cell 26 rfl
          have q27 : ∀ W, Ext v5 W → W.cell? ⟨gb, 27, none⟩ = some (.bool m9.dn) := fun W hW => (HGD.out.below (Ext.trans _ _ _ hE5 hW)).cell 27 rfl
          have p7 : ∀ W, Ext v5 W → W.cell? ⟨wa.heap.size, 7, none⟩ = some (.int .i64 m9.pl) := fun W hW => (HLD.out.below (Ext.trans _ _ _ hE5 hW)).cell 7 rfl
          have p10 : ∀ W, Ext v5 W → W.cell? ⟨wa.heap.size, 10, none⟩ = some (.int .i64 m9.ar) := fun W hW => (HLD.out.below (Ext.trans _ _ _ hE5 hW)).cell 10 rfl
          have p11 : ∀ W, Ext v5 W → W.cell? ⟨wa.heap.size, 11, none⟩ = some (.int .i64 m9.pd) := fun W hW => (HLD.out.below (Ext.trans _ _ _ hE5 hW)).cell 11 rfl
          have t4 : ∀ W, Ext v5 W → W.cell? ⟨w.heap.size, 4, none⟩ = some (.int .i64 c.c4) := fun W hW => (HCD.out.below (Ext.trans _ _ _ hE5 hW)).cell 4 rfl
          refine hK.out _ _ hb5 ?_
          clear hK K
          try simp only [Act.put, List.setIfInBounds_toArray, List.set_cons_zero, List.set_cons_succ]
          refine wpAnyE_one (i := 23) (by kernel_rfl) (by simp only [List.getElem?_toArray, List.getElem?_cons_succ, List.getElem?_cons_zero]; rfl) (fun K hK => ?_)
          go_simp
          refine (same_any A4 A5 n4 c4 n5 c5 (sqs m9.ks) (sqs m9.ks) v5 (hl4.below hb5).rdv hl5.rdv).mono ?_
          rintro en v6 ⟨rfl, hb6⟩
          rw [decide_eq_true (rfl : sqs m9.ks = sqs m9.ks)]
          clear hl4 hl5
          have hE6 : Ext wd v6 := Ext.trans _ _ _ hE5 hb6
          clear q26 q27 p7 p10 p11 t4
          have q26 : ∀ W, Ext v6 W → W.cell? ⟨gb, 26, none⟩ = some (.int .i64 m9.pd) := fun W hW => (HGD.out.below (Ext.trans _ _ _ hE6 hW)).cell 26 rfl
          have q27 : ∀ W, Ext v6 W → W.cell? ⟨gb, 27, none⟩ = some (.bool m9.dn) := fun W hW => (HGD.out.below (Ext.trans _ _ _ hE6 hW)).cell 27 rfl
          have p7 : ∀ W, Ext v6 W → W.cell? ⟨wa.heap.size, 7, none⟩ = some (.int .i64 m9.pl) := fun W hW => (HLD.out.below (Ext.trans _ _ _ hE6 hW)).cell 7 rfl
          have p10 : ∀ W, Ext v6 W → W.cell? ⟨wa.heap.size, 10, none⟩ = some (.int .i64 m9.ar) := fun W hW => (HLD.out.below (Ext.trans _ _ _ hE6 hW)).cell 10 rfl
          have p11 : ∀ W, Ext v6 W → W.cell? ⟨wa.heap.size, 11, none⟩ = some (.int .i64 m9.pd) := fun W hW => (HLD.out.below (Ext.trans _ _ _ hE6 hW)).cell 11 rfl
          have t4 : ∀ W, Ext v6 W → W.cell? ⟨w.heap.size, 4, none⟩ = some (.int .i64 c.c4) := fun W hW => (HCD.out.below (Ext.trans _ _ _ hE6 hW)).cell 4 rfl
          refine hK.out _ _ hb6 ?_
          clear hK K
          try simp only [Act.put, List.setIfInBounds_toArray, List.set_cons_zero, List.set_cons_succ]
          (refine takeE Ext.tr 24 (by simp only [List.getElem?_toArray, List.getElem?_cons_succ, List.getElem?_cons_zero]; rfl) (by kernel_rfl) (by kernel_rfl) (by kernel_rfl) (by exact fun _ _ _ h => h) (by first | (refine Or.inl ⟨by rfl, ?_⟩; intro W hW; go_simp; try with_reducible rfl) | exact Or.inr ⟨by rfl, rfl⟩) ?_; try simp only [Act.put, List.setIfInBounds_toArray, List.set_cons_zero, List.set_cons_succ])
          (refine takeE Ext.tr 25 (by simp only [List.getElem?_toArray, List.getElem?_cons_succ, List.getElem?_cons_zero]; rfl) (by kernel_rfl) (by kernel_rfl) (by kernel_rfl) (by exact fun _ _ _ h => h) (by first | (refine Or.inl ⟨by rfl, ?_⟩; intro W hW; go_simp; try with_reducible rfl) | exact Or.inr ⟨by rfl, rfl⟩) ?_; try simp only [Act.put, List.setIfInBounds_toArray, List.set_cons_zero, List.set_cons_succ])
          (refine takeE Ext.tr 26 (by simp only [List.getElem?_toArray, List.getElem?_cons_succ, List.getElem?_cons_zero]; rfl) (by kernel_rfl) (by kernel_rfl) (by kernel_rfl) (by exact fun _ _ _ h => h) (by first | (refine Or.inl ⟨by rfl, ?_⟩; intro W hW; go_simp; try with_reducible rfl) | exact Or.inr ⟨by rfl, rfl⟩) ?_; try simp only [Act.put, List.setIfInBounds_toArray, List.set_cons_zero, List.set_cons_succ])
          (refine takeE Ext.tr 27 (by simp only [List.getElem?_toArray, List.getElem?_cons_succ, List.getElem?_cons_zero]; rfl) (by kernel_rfl) (by kernel_rfl) (by kernel_rfl) (by exact fun _ _ _ h => h) (by first | (refine Or.inl ⟨by rfl, ?_⟩; intro W hW; go_simp; try with_reducible rfl) | exact Or.inr ⟨by rfl, rfl⟩) ?_; try simp only [Act.put, List.setIfInBounds_toArray, List.set_cons_zero, List.set_cons_succ])
          (refine takeE Ext.tr 29 (by simp only [List.getElem?_toArray, List.getElem?_cons_succ, List.getElem?_cons_zero]; rfl) (by kernel_rfl) (by kernel_rfl) (by kernel_rfl) (by exact fun _ _ _ h => h) (by first | (refine Or.inl ⟨by rfl, ?_⟩; intro W hW; go_simp; try with_reducible rfl) | exact Or.inr ⟨by rfl, rfl⟩) ?_; try simp only [Act.put, List.setIfInBounds_toArray, List.set_cons_zero, List.set_cons_succ])
          (refine takeE Ext.tr 32 (by simp only [List.getElem?_toArray, List.getElem?_cons_succ, List.getElem?_cons_zero]; rfl) (by kernel_rfl) (by kernel_rfl) (by kernel_rfl) (by exact fun _ _ _ h => h) (by first | (refine Or.inl ⟨by rfl, ?_⟩; intro W hW; go_simp; try with_reducible rfl) | exact Or.inr ⟨by rfl, rfl⟩) ?_; try simp only [Act.put, List.setIfInBounds_toArray, List.set_cons_zero, List.set_cons_succ])
          (refine takeE Ext.tr 28 (by simp only [List.getElem?_toArray, List.getElem?_cons_succ, List.getElem?_cons_zero]; rfl) (by kernel_rfl) (by kernel_rfl) (by kernel_rfl) (by exact fun _ _ _ h => h) (by first | (refine Or.inl ⟨by rfl, ?_⟩; intro W hW; go_simp; try with_reducible rfl) | exact Or.inr ⟨by rfl, rfl⟩) ?_; try simp only [Act.put, List.setIfInBounds_toArray, List.set_cons_zero, List.set_cons_succ])
          (refine takeE Ext.tr 30 (by simp only [List.getElem?_toArray, List.getElem?_cons_succ, List.getElem?_cons_zero]; rfl) (by kernel_rfl) (by kernel_rfl) (by kernel_rfl) (by exact fun _ _ _ h => h) (by first | (refine Or.inl ⟨by rfl, ?_⟩; intro W hW; go_simp; try with_reducible rfl) | exact Or.inr ⟨by rfl, rfl⟩) ?_; try simp only [Act.put, List.setIfInBounds_toArray, List.set_cons_zero, List.set_cons_succ])
          (refine takeE Ext.tr 33 (by simp only [List.getElem?_toArray, List.getElem?_cons_succ, List.getElem?_cons_zero]; rfl) (by kernel_rfl) (by kernel_rfl) (by kernel_rfl) (by exact fun _ _ _ h => h) (by first | (refine Or.inl ⟨by rfl, ?_⟩; intro W hW; go_simp; try with_reducible rfl) | exact Or.inr ⟨by rfl, rfl⟩) ?_; try simp only [Act.put, List.setIfInBounds_toArray, List.set_cons_zero, List.set_cons_succ])
          (refine takeE Ext.tr 31 (by simp only [List.getElem?_toArray, List.getElem?_cons_succ, List.getElem?_cons_zero]; rfl) (by kernel_rfl) (by kernel_rfl) (by kernel_rfl) (by exact fun _ _ _ h => h) (by first | (refine Or.inl ⟨by rfl, ?_⟩; intro W hW; go_simp; try with_reducible rfl) | exact Or.inr ⟨by rfl, rfl⟩) ?_; try simp only [Act.put, List.setIfInBounds_toArray, List.set_cons_zero, List.set_cons_succ])
          (refine takeE Ext.tr 34 (by simp only [List.getElem?_toArray, List.getElem?_cons_succ, List.getElem?_cons_zero]; rfl) (by kernel_rfl) (by kernel_rfl) (by kernel_rfl) (by exact fun _ _ _ h => h) (by first | (refine Or.inl ⟨by rfl, ?_⟩; intro W hW; go_simp; try with_reducible rfl) | exact Or.inr ⟨by rfl, rfl⟩) ?_; try simp only [Act.put, List.setIfInBounds_toArray, List.set_cons_zero, List.set_cons_succ])
          (refine takeE Ext.tr 35 (by simp only [List.getElem?_toArray, List.getElem?_cons_succ, List.getElem?_cons_zero]; rfl) (by kernel_rfl) (by kernel_rfl) (by kernel_rfl) (by exact fun _ _ _ h => h) (by first | (refine Or.inl ⟨by rfl, ?_⟩; intro W hW; go_simp; try with_reducible rfl) | exact Or.inr ⟨by rfl, rfl⟩) ?_; try simp only [Act.put, List.setIfInBounds_toArray, List.set_cons_zero, List.set_cons_succ])
          (refine takeE Ext.tr 36 (by simp only [List.getElem?_toArray, List.getElem?_cons_succ, List.getElem?_cons_zero]; rfl) (by kernel_rfl) (by kernel_rfl) (by kernel_rfl) (by exact fun _ _ _ h => h) (by first | (refine Or.inl ⟨by rfl, ?_⟩; intro W hW; go_simp; try with_reducible rfl) | exact Or.inr ⟨by rfl, rfl⟩) ?_; try simp only [Act.put, List.setIfInBounds_toArray, List.set_cons_zero, List.set_cons_succ])
          (refine takeE Ext.tr 37 (by simp only [List.getElem?_toArray, List.getElem?_cons_succ, List.getElem?_cons_zero]; rfl) (by kernel_rfl) (by kernel_rfl) (by kernel_rfl) (by exact fun _ _ _ h => h) (by first | (refine Or.inl ⟨by rfl, ?_⟩; intro W hW; go_simp; try with_reducible rfl) | exact Or.inr ⟨by rfl, rfl⟩) ?_; try simp only [Act.put, List.setIfInBounds_toArray, List.set_cons_zero, List.set_cons_succ])
          (refine takeE Ext.tr 40 (by simp only [List.getElem?_toArray, List.getElem?_cons_succ, List.getElem?_cons_zero]; rfl) (by kernel_rfl) (by kernel_rfl) (by kernel_rfl) (by exact fun _ _ _ h => h) (by first | (refine Or.inl ⟨by rfl, ?_⟩; intro W hW; go_simp; try with_reducible rfl) | exact Or.inr ⟨by rfl, rfl⟩) ?_; try simp only [Act.put, List.setIfInBounds_toArray, List.set_cons_zero, List.set_cons_succ])
          (refine takeE Ext.tr 41 (by simp only [List.getElem?_toArray, List.getElem?_cons_succ, List.getElem?_cons_zero]; rfl) (by kernel_rfl) (by kernel_rfl) (by kernel_rfl) (by exact fun _ _ _ h => h) (by first | (refine Or.inl ⟨by rfl, ?_⟩; intro W hW; go_simp; try with_reducible rfl) | exact Or.inr ⟨by rfl, rfl⟩) ?_; try simp only [Act.put, List.setIfInBounds_toArray, List.set_cons_zero, List.set_cons_succ])
          refine wpAnyE_one (i := 38) (by kernel_rfl) (by simp only [List.getElem?_toArray, List.getElem?_cons_succ, List.getElem?_cons_zero]; rfl) (fun K hK => ?_)
          go_simp
          refine (v_kept (HJD.out.next hE6).rc HK9.out.1.ok).mono ?_
          rintro en v7 ⟨A7, n7, c7, rfl, hl7, hb7⟩
          have hn7 : ¬ c.c4 ≤ (n7 : Int) := by have := HFEW.out; have h2 := hl7.1; rw [intV_len] at h2; have h3 : (sqs m9.ks).length = m9.ks.length := (by simp [sqs]); omega
          have hn8 := decide_eq_false hn7
          clear hl7
          have hE7 : Ext wd v7 := Ext.trans _ _ _ hE6 hb7
          clear q26 q27 p7 p10 p11 t4
          have q26 : ∀ W, Ext v7 W → W.cell? ⟨gb, 26, none⟩ = some (.int .i64 m9.pd) := fun W hW => (HGD.out.below (Ext.trans _ _ _ hE7 hW)).cell 26 rfl
          have q27 : ∀ W, Ext v7 W → W.cell? ⟨gb, 27, none⟩ = some (.bool m9.dn) := fun W hW => (HGD.out.below (Ext.trans _ _ _ hE7 hW)).cell 27 rfl
          have p7 : ∀ W, Ext v7 W → W.cell? ⟨wa.heap.size, 7, none⟩ = some (.int .i64 m9.pl) := fun W hW => (HLD.out.below (Ext.trans _ _ _ hE7 hW)).cell 7 rfl
          have p10 : ∀ W, Ext v7 W → W.cell? ⟨wa.heap.size, 10, none⟩ = some (.int .i64 m9.ar) := fun W hW => (HLD.out.below (Ext.trans _ _ _ hE7 hW)).cell 10 rfl
          have p11 : ∀ W, Ext v7 W → W.cell? ⟨wa.heap.size, 11, none⟩ = some (.int .i64 m9.pd) := fun W hW => (HLD.out.below (Ext.trans _ _ _ hE7 hW)).cell 11 rfl
          have t4 : ∀ W, Ext v7 W → W.cell? ⟨w.heap.size, 4, none⟩ = some (.int .i64 c.c4) := fun W hW => (HCD.out.below (Ext.trans _ _ _ hE7 hW)).cell 4 rfl
          refine hK.out _ _ hb7 ?_
          clear hK K
          try simp only [Act.put, List.setIfInBounds_toArray, List.set_cons_zero, List.set_cons_succ]
          (refine takeE Ext.tr 39 (by simp only [List.getElem?_toArray, List.getElem?_cons_succ, List.getElem?_cons_zero]; rfl) (by kernel_rfl) (by kernel_rfl) (by kernel_rfl) (by exact fun _ _ _ h => h) (by first | (refine Or.inl ⟨by rfl, ?_⟩; intro W hW; go_simp; try with_reducible rfl) | exact Or.inr ⟨by rfl, rfl⟩) ?_; try simp only [Act.put, List.setIfInBounds_toArray, List.set_cons_zero, List.set_cons_succ])
          (refine takeE Ext.tr 42 (by simp only [List.getElem?_toArray, List.getElem?_cons_succ, List.getElem?_cons_zero]; rfl) (by kernel_rfl) (by kernel_rfl) (by kernel_rfl) (by exact fun _ _ _ h => h) (by first | (refine Or.inl ⟨by rfl, ?_⟩; intro W hW; go_simp; try with_reducible rfl) | exact Or.inr ⟨by rfl, rfl⟩) ?_; try simp only [Act.put, List.setIfInBounds_toArray, List.set_cons_zero, List.set_cons_succ])
          (refine takeE Ext.tr 43 (by simp only [List.getElem?_toArray, List.getElem?_cons_succ, List.getElem?_cons_zero]; rfl) (by kernel_rfl) (by kernel_rfl) (by kernel_rfl) (by exact fun _ _ _ h => h) (by first | (refine Or.inl ⟨by rfl, ?_⟩; intro W hW; go_simp; try with_reducible rfl) | exact Or.inr ⟨by rfl, rfl⟩) ?_; try simp only [Act.put, List.setIfInBounds_toArray, List.set_cons_zero, List.set_cons_succ])
          refine wpAnyE_done (by kernel_rfl) ?_ _
          skip
          have HJ7 := Lib.hid (HJD.out.next hE7)
          clear q26 q27 p7 p10 p11 t4
          go_wp2
          go_roundw
          case rel => exact ⟨i + 1, F9, r9, e9, z9, m9, by omega, by omega, by go_num, rfl, HJ7.out, HK9.out⟩
          case measure => simp [intOf]; omega
      · have hd : i < n0 ∧ (80 : Int) ≤ i ∨ n0 ≤ i := by omega
        rcases hd with ⟨hlt, h80⟩ | hge
        · have hlt' : (i : Int) < n0 := by omega
          go_wp2
          go_ret
          exact ⟨rfl, HB01.out.trans (JR.out.bel.mono (by have := HSZ1.out; omega))⟩
        · obtain rfl : i = n0 := by omega
          go_wp2
          go_ret
          exact ⟨rfl, HB01.out.trans (JR.out.bel.mono (by have := HSZ1.out; omega))⟩
  · have HVN := Lib.hid (fun W : World => v_new_bad (w := W) c s d n k hE)
    have HRN := Lib.hid (fun W : World => r_new_bad (w := W) c s d n k hE)
    obtain ⟨er, her⟩ : ∃ er, er = newE c s d n k := ⟨_, rfl⟩
    rw [← her] at HVN HRN hE
    clear her
    go_enter Try.func3, Try.ntmps3
    go_wp2_with ((with_reducible refine at_load 23 (.tmp 6) (by rfl) ?_); refine wpList_load_bk rowCf rfl (.tmp 6) rfl w.heap.size 0 rfl hcf [.int .i64 c.c0, .int .i64 c.c1, .int .i64 c.c2, .int .i64 c.c3, .int .i64 c.c4, .int .i64 c.c5, .int .i64 c.c6, .int .i64 c.c7, .int .i64 c.c8, .int .i64 c.c9, .int .i64 c.c10, .int .i64 c.c11, .int .i64 c.c12, .int .i64 c.c13] rfl rfl ?_)
    refine (HVN.out _).mono ?_
    rintro en w2 ⟨rfl, hb2⟩
    have hcf2 := hcf.below hb2
    have HB2 := Lib.hid (HB01.out.trans (hb2.mono (by have := HSZ1.out; omega)))
    clear hb2 hcf
    go_wp2_with ((with_reducible refine at_load 23 (.tmp 6) (by rfl) ?_); refine wpList_load_bk rowCf rfl (.tmp 6) rfl w.heap.size 0 rfl hcf2 [.int .i64 c.c0, .int .i64 c.c1, .int .i64 c.c2, .int .i64 c.c3, .int .i64 c.c4, .int .i64 c.c5, .int .i64 c.c6, .int .i64 c.c7, .int .i64 c.c8, .int .i64 c.c9, .int .i64 c.c10, .int .i64 c.c11, .int .i64 c.c12, .int .i64 c.c13] rfl rfl ?_)
    refine (HRN.out _).mono ?_
    rintro en w3 ⟨rfl, hb3⟩
    have HB3 := Lib.hid (HB2.out.trans (hb3.mono HB2.out.size))
    have hzr := Bk.new w3 34 [.int .i64 0, .int .i64 0, .int .i64 0, .int .i64 0, .int .i64 0, .int .i64 0, .int .i64 0, .int .i64 0, .int .i64 0, .int .i64 0, .int .i64 0, .int .i64 0, .int .i64 0, .int .i64 0, .int .i64 0, .int .i64 0, .int .i64 0, .int .i64 0, .int .i64 0, .slice none 0 0, .slice none 0 0, .int .i64 0, .int .i64 0, .int .i64 0, .int .i64 0, .int .i64 0, .int .i64 0, .bool false]
    clear hb3 hcf2
    go_wp2_with ((with_reducible refine at_store 34 (.tmp 15) (.tmp 45) (by rfl) ?_); refine wpList_store_bk rowRv rfl (.tmp 15) (.tmp 45) rfl w3.heap.size 0 rfl hzr [.int .i64 0, .int .i64 0, .int .i64 0, .int .i64 0, .int .i64 0, .int .i64 0, .int .i64 0, .int .i64 0, .int .i64 0, .int .i64 0, .int .i64 0, .int .i64 0, .int .i64 0, .int .i64 0, .int .i64 0, .int .i64 0, .int .i64 0, .int .i64 0, .int .i64 0, .slice none 0 0, .slice none 0 0, .int .i64 0, .int .i64 0, .int .i64 0, .int .i64 0, .int .i64 0, .int .i64 0, .bool false] rfl rfl (by decide) zR_oneR ?_; rintro w4 hz4 hw4)
    have HB4 : Hid (Below w.heap.size w w4) := Lib.hid (HB3.out.trans ((((Below.refl _ _).alloc (Nat.le_refl _) (.cells #[.int .i64 0, .int .i64 0, .int .i64 0, .int .i64 0, .int .i64 0, .int .i64 0, .int .i64 0, .int .i64 0, .int .i64 0, .int .i64 0, .int .i64 0, .int .i64 0, .int .i64 0, .int .i64 0, .int .i64 0, .int .i64 0, .int .i64 0, .int .i64 0, .int .i64 0, .slice none 0 0, .slice none 0 0, .int .i64 0, .int .i64 0, .int .i64 0, .int .i64 0, .int .i64 0, .int .i64 0, .bool false] 34)).trans (hw4.below (Nat.le_refl _) (by simp))).mono HB3.out.size))
    clear hzr hz4 hw4
    refine (awake_any w4).mono ?_
    rintro en w5 ⟨rfl, hb5⟩
    have HB5 := Lib.hid (HB4.out.trans (hb5.mono HB4.out.size))
    clear hb5
    go_wp2
    go_loopw [13, 17] (fun sp iv wr => sp = .pointer none ∧ iv = .int .i64 0 ∧ wr = w5) (fun _ _ _ => 0)
    case atStart => exact ⟨rfl, rfl, rfl⟩
    case round =>
      obtain ⟨rfl, rfl, rfl⟩ := hrel
      by_cases hn : n0 = 0
      · subst hn
        go_wp2
        go_ret
        exact ⟨rfl, HB5.out⟩
      · have hn' : (0 : Int) < n0 := by omega
        go_wp2
        go_ret
        exact ⟨rfl, HB5.out⟩
end Go.Proofs.Ytcblkcchgaoklaa
