/- The law of any calls. -/
import Derived.Test.YtdldocbfnjbhmaaK23
set_option linter.unusedSimpArgs false
set_option linter.unusedVariables false
set_option maxRecDepth 100000
namespace Go.Proofs.Ytdldocbfnjbhmaa
open Go.RowKit Go.Shelf
theorem rowO : Row Try.prog 37 5 := ⟨⟨_, rfl, by decide⟩, by kernel_rfl⟩
theorem exec_loadO {w : World} {op : Oper} {a : Act} (x : Operand) (ho : op.op = .load 37 x) (g o : Nat) (hx : a.eval x = .pointer (some ⟨g, o, none⟩)) (k : Ov) (h : w.rangeAt g o k.cl) : (execOp a.eval op).run Try.prog w = .ok (.value (.agg #[.int .u8 k.d, .int .i64 k.k.s, .int .i64 k.k.c, .int .i64 k.g, .int .i64 k.n])) w := by
  obtain ⟨d, h1, h2⟩ := rowO.ht
  have hl := run_loadVar_mid w g o 37 k.cl d h h1 h2 rowO.hi
  unfold execOp
  simp only [ho, hx, Instr.loadAt, Instr.sureAddr, Sem.run_bind, Sem.run_pure, Result.andThen_ok, hl]
  rfl
theorem st_two {F : Nat → Prop} {w : World} (h : F w.heap.size) (o o' : Obj) : St F (w.alloc o) (w.alloc o') :=
  ⟨rfl, rfl, rfl, by simp, fun k hk hn => by
    have hlt : k < w.heap.size := by
      rcases Nat.lt_or_ge k w.heap.size with h1 | h1
      · exact h1
      · exfalso; simp at hk; exact hn (by rwa [show k = w.heap.size from by omega])
    exact (((Below.refl w.heap.size w).alloc (Nat.le_refl _) o').block k hlt).trans (((Below.refl w.heap.size w).alloc (Nat.le_refl _) o).block k hlt).symm⟩
abbrev KeyT : Ty := .one (.int .i64) (.one (.int .i64) .unit)
abbrev OpT : Ty := .one (.int .u8) (.one KeyT (.one (.int .i64) (.one (.int .i64) .unit)))
/-- The k-th call, as it lies in memory. -/
theorem op_at {w : World} {s : Sl OpT.den} (h : (Ty.sl OpT).reads w s) (k : Nat) (hk : k < s.n) : ∃ (g o : Nat) (x : Ov), s.A = some ⟨g, o, none⟩ ∧ g < w.heap.size ∧
    w.rangeAt g (o + k * 5) x.cl ∧ (0 ≤ x.d ∧ x.d < 256) := by
  obtain ⟨h1, h2, h3, h4, h5, h6⟩ := h
  have h1' : s.l.length = s.n := h1
  have hkl : k < s.l.length := by omega
  obtain ⟨g, o, hA, hg, hx⟩ := h5 (by omega) (show 0 < 5 from by omega)
  have hr : OpT.reads w s.l[k] := h6 _ (List.getElem_mem _)
  have hx' := hx k hkl
  obtain ⟨x, hxe⟩ : ∃ x, x = s.l[k] := ⟨_, rfl⟩
  rw [← hxe] at hr hx'
  clear hxe hx
  obtain ⟨d, ⟨ks, kc, u0⟩, y, z, u⟩ := x
  obtain ⟨r1, r2, _⟩ := hr
  exact ⟨g, o, ⟨d, ⟨ks, kc⟩, y, z⟩, hA, hg, fun j v hv => hx' j v hv, u8_bounds r1⟩
/-- A pacer and the document's, whose numbers lie in box b, side by side. -/
structure JW (w : World) (b p : Nat) (F : Nat → Prop) (v : Rv) (m : Pm) (W : World) : Prop where
  q : PcA F W p m
  r : RpR (fun j => ¬ F j ∧ j ≠ b) W v m
  bx : Bk W 30 b ([.slice v.A v.n v.c, .slice v.B v.k v.d, .slice v.C v.r v.e, .int .i64 m.most, .int .i64 m.run, .int .i64 m.total])
  nb : ¬ F b
  fg : ∀ j, F j → w.heap.size ≤ j
  bge : w.heap.size ≤ b
  bel : Below w.heap.size w W
  ok : m.Ok
section
variable {w W W1 W2 : World} {b p : Nat} {F F' : Nat → Prop} {v v2 : Rv} {m m2 : Pm}
theorem JW.next (h : JW w b p F v m W) (hb : Below W.heap.size W W1) : JW w b p F v m W1 :=
  ⟨h.q.below hb, h.r.below hb, h.bx.below hb, h.nb, h.fg, h.bge, below_on h.bel hb, h.ok⟩
/-- Both were turned: the document's answer goes into the box. -/
theorem JW.ref (h : JW w b p F v m W) (hq : PcA F' W1 p m2) (hr : RpR (fun j => ¬ F' j ∧ j ≠ b) W1 v2 m2) (hs : St F W W1) (hg : Gr F F' W.heap.size) (ok : m2.Ok) (hk : Bk W2 30 b ([.slice v2.A v2.n v2.c, .slice v2.B v2.k v2.d, .slice v2.C v2.r v2.e, .int .i64 m2.most, .int .i64 m2.run, .int .i64 m2.total])) (hw : Wr b W1 W2) : JW w b p F' v2 m2 W2 := by
  have hst := st_wr hw
  have hnb : ¬ F' b := hg.not h.bx.lt h.nb
  have hb1 := h.bel.trans (hs.below h.bel.size h.fg)
  exact ⟨hq.st hst fun j hj e => hnb (e ▸ hj), hr.st hst fun j hj => hj.2, hk, hnb, fun j hj => (hg j hj).elim (h.fg j) fun e => Nat.le_trans h.bel.size e, h.bge, hb1.trans (hst.below hb1.size fun j e => by have := h.bge; omega), ok⟩
end
/-- Between two calls. -/
def JI (w : World) (b k : Nat) (P : Option Addr) (W : World) : Prop := ∃ (p : Nat) (F : Nat → Prop) (v : Rv) (m : Pm), P = some ⟨p, 0, none⟩ ∧ JW w b p F v m W ∧ m.total ≤ k
theorem JI.next {w W W' : World} {b k : Nat} {P : Option Addr} (h : JI w b k P W) (hb : Below W.heap.size W W') : JI w b k P W' := by
  obtain ⟨p, F, v, m, h1, h2, h3⟩ := h
  exact ⟨p, F, v, m, h1, h2.next hb, h3⟩
theorem step_ok {m : Pm} (h : m.Ok) (o : Ov) : (m.step o).Ok ∧ (m.step o).total ≤ m.total + 1 := by
  unfold Pm.step
  split
  · exact ⟨(h.knowR _ _).1, by rw [(h.knowR _ _).2]; omega⟩
  · split
    · exact ⟨(h.forgetR _).1, by rw [(h.forgetR _).2]; omega⟩
    · split
      · exact h.tick
      · exact ⟨(h.oweR _ _).1, by rw [(h.oweR _ _).2]; omega⟩
theorem p_new_no (most : Int) (w : World) (h : most < 1 ∨ 512 < most) : Calls Try.prog 8 #[.int .i64 most] w fun e w' => e = .returned (.tuple #[.pointer none, .int .i64 180]) ∧ w = w' := by
  rcases (by omega : most < 1 ∨ (1 ≤ most ∧ 512 < most)) with h1 | ⟨h1, h2⟩
  all_goals
    clear h
    go_enter Try.func8, Try.ntmps8
    go_wp2
    go_ret2
    exact ⟨rfl, rfl⟩
theorem p_qs {w : World} {F : Nat → Prop} {p : Nat} {m : Pm} (h : PcA F w p m) (g : Int) {q : List Ky} (e : m.qOf g = q) : Calls Try.prog 23 #[.pointer (some ⟨p, 0, none⟩), .int .i64 g] w fun e w' => ∃ A n c, e = .returned (.slice A n c) ∧ n = q.length ∧ RdR 2 w' A n c (flat Ky.cl q) ∧ Below w.heap.size w w' := by
  refine (p_queue h g).mono ?_
  rintro en w' ⟨A, n, c, h1, h2, h3, h4⟩
  rw [e] at h2 h3
  exact ⟨A, n, c, h1, h2, h3.rd, h4⟩
set_option maxHeartbeats 16000000 in
theorem lawRuns (x : Int) (ops : Sl OpT.den) (w : World) (h : (Ty.sl OpT).reads w ops) :
    Calls Try.prog 3 #[.int .i64 x, .slice ops.A ops.n ops.c] w fun en w' => en = .returned (.bool true) ∧ Below w.heap.size w w' := by
  have HOp := Lib.hid (op_at h)
  obtain ⟨A0, n0, c0, l0⟩ := ops
  dsimp only at *
  clear h
  by_cases hx : x < 1 ∨ 512 < x
  · have HR := Lib.hid (fun V => r_new_no x V hx)
    have HN : Hid (Calls Try.prog 8 #[.int .i64 x] w fun e w' => e = .returned (.tuple #[.pointer none, .int .i64 180]) ∧ w = w') := Lib.hid (p_new_no x w hx)
    clear hx
    go_enter Try.func3, Try.ntmps3
    go_wp2_with fail
    refine HN.out.mono ?_
    rintro en w1 ⟨rfl, rfl⟩
    go_wp2_with fail
    refine (HR.out _).mono ?_
    rintro en w2 ⟨rfl, hb2⟩
    have hba : Below w2.heap.size w2 (w2.alloc (.cells #[.slice none 0 0, .slice none 0 0, .slice none 0 0, .int .i64 0, .int .i64 0, .int .i64 0] 30)) := (Below.refl _ _).alloc (Nat.le_refl _) _
    have HB2 := Lib.hid (below_on hb2 hba)
    clear hb2 hba
    go_wp2_with fail
    refine (l_awake _).mono ?_
    rintro en w3 ⟨rfl, hb3⟩
    have HB3 := Lib.hid (below_on HB2.out hb3)
    clear hb3 HB2
    go_wp2
    go_loopw [5, 9] (fun q i W => q = .pointer none ∧ i = .int .i64 0 ∧ W = w3) (fun q i _ => 0)
    case atStart => exact ⟨rfl, rfl, rfl⟩
    case round =>
      obtain ⟨rfl, rfl, rfl⟩ := hrel
      by_cases hn0 : (0 : Int) < n0
      · go_wp2
        go_ret
        exact ⟨rfl, HB3.out⟩
      · go_wp2
        go_ret
        exact ⟨rfl, HB3.out⟩
  · obtain ⟨most, rfl⟩ : ∃ most : Nat, x = most := ⟨x.toNat, by omega⟩
    have hm1 : 1 ≤ most := by omega
    have hm2 : most ≤ 512 := by omega
    have HN := Lib.hid (p_new most w hm1 hm2)
    have HR := Lib.hid (fun V => r_new most V hm1 hm2)
    have HK := Lib.hid (Pm.Ok.new hm1 hm2)
    clear hx hm1 hm2
    go_enter Try.func3, Try.ntmps3
    go_wp2_with fail
    refine HN.out.mono ?_
    rintro en w1 ⟨rfl, ⟨F, hq1, hF⟩, hb1⟩
    have HJ1 := Lib.hid (And.intro hq1 (And.intro hF hb1))
    clear hq1 hF hb1
    go_wp2_with fail
    refine (HR.out _).mono ?_
    rintro en w2 ⟨rfl, hb2⟩
    have hba : Below w2.heap.size w2 (w2.alloc (.cells #[.slice none 0 0, .slice none 0 0, .slice none 0 0, .int .i64 most, .int .i64 0, .int .i64 0] 30)) := (Below.refl _ _).alloc (Nat.le_refl _) _
    have hJ0 : JI w w2.heap.size 0 (some ⟨w.heap.size + 1, 0, none⟩) (w2.alloc (.cells #[.slice none 0 0, .slice none 0 0, .slice none 0 0, .int .i64 most, .int .i64 0, .int .i64 0] 30)) := by
      have hs2 := hb2.size
      refine ⟨w.heap.size + 1, F, rv0, Pm.new most, rfl, ⟨(HJ1.out.1.below hb2).below hba, rp_new _ _ most, Bk.new w2 30 _, fun e => by have := HJ1.out.1.bd _ e; omega, HJ1.out.2.1, Nat.le_trans HJ1.out.2.2.size hs2, below_on (below_on HJ1.out.2.2 hb2) hba, HK.out⟩, by show (0 : Int) ≤ 0; omega⟩
    have HJ0 := Lib.hid hJ0
    have HA := Lib.hid (l_awake (w2.alloc (.cells #[.slice none 0 0, .slice none 0 0, .slice none 0 0, .int .i64 most, .int .i64 0, .int .i64 0] 30)))
    clear hb2 hba hJ0 HJ1
    go_wp2_with fail
    refine HA.out.mono ?_
    rintro en w3 ⟨rfl, hb3⟩
    have HJ := Lib.hid (HJ0.out.next hb3)
    clear hb3 HA HJ0
    generalize w2.heap.size = b at *
    go_wp2
    go_loopw [5, 9] (fun q i wr => ∃ (k : Nat) (P : Option Addr), i = .int .i64 k ∧ k ≤ 60 ∧ q = .pointer P ∧ JI w b k P wr) (fun q i _ => 60 - (intOf i).toNat)
    case atStart => exact ⟨0, _, rfl, Nat.zero_le _, rfl, HJ.out⟩
    case round =>
      obtain ⟨i, P, rfl, hk, rfl, hJk⟩ := hrel
      obtain ⟨p, F, v, m, rfl, hJR, hmt⟩ := hJk
      clear HJ
      by_cases hlt : i < n0 ∧ i < 60
      · obtain ⟨go_, oo, ov, rfl, hgo, hra, hd⟩ := HOp.out i hlt.1
        have hraW := range_belowB hra hgo hJR.bel
        have c0' : wr.cell? ⟨go_, oo + i * 5, none⟩ = some (.int .u8 ov.d) := hraW 0 _ rfl
        have c1' : wr.cell? ⟨go_, oo + i * 5 + 1, none⟩ = some (.int .i64 ov.k.s) := hraW 1 _ rfl
        have c2' : wr.cell? ⟨go_, oo + i * 5 + 2, none⟩ = some (.int .i64 ov.k.c) := hraW 2 _ rfl
        have hk1 : (i : Int) < n0 := by omega
        have hk2 : (i : Int) < 60 := by omega
        have HOR := Lib.hid (And.intro hra (And.intro hgo hd))
        have HJR := Lib.hid hJR
        have HT := Lib.hid hmt
        have htb : m.total ≤ 60 := by omega
        obtain ⟨hd1, hd2⟩ := hd
        have HLT := Lib.hid hlt
        clear hra hraW hJR hmt hgo hlt
        by_cases hd8 : ov.d % 8 = 7
        · have e7 : (ov.d % 8 == 7) = true := by simpa using hd8
          clear hd8
          go_wp2_with fail
          refine (p_fork HJR.out.q HJR.out.ok).mono ?_
          rintro en w4 ⟨pn, Fn, rfl, hqn, hFn, hb4⟩
          have HJ4 := Lib.hid (HJR.out.next hb4)
          have HQN := Lib.hid (And.intro hqn (And.intro hFn hb4))
          have c1' : w4.cell? ⟨go_, oo + i * 5 + 1, none⟩ = some (.int .i64 ov.k.s) := range_belowB HOR.out.1 HOR.out.2.1 HJ4.out.bel 1 _ rfl
          clear hqn hFn hb4
          go_wp2_with fail
          refine (p_tick HJ4.out.q HJ4.out.ok (by omega)).mono ?_
          rintro en w5 ⟨rfl, F5, hq5, hs5, hg5⟩
          have hb5 : Below w.heap.size w w5 := HJ4.out.bel.trans (hs5.below HJ4.out.bel.size HJ4.out.fg)
          have o1 : w5.cell? ⟨go_, oo + i * 5 + 1, none⟩ = some (.int .i64 ov.k.s) := range_belowB HOR.out.1 HOR.out.2.1 hb5 1 _ rfl
          have o2 : w5.cell? ⟨go_, oo + i * 5 + 2, none⟩ = some (.int .i64 ov.k.c) := range_belowB HOR.out.1 HOR.out.2.1 hb5 2 _ rfl
          have H5 := Lib.hid (And.intro hq5 (And.intro hs5 (And.intro hg5 hb5)))
          clear hq5 hs5 hg5 hb5
          go_wp2_with fail
          refine (l_of ov.k _).mono ?_
          rintro en w6 ⟨rfl, hb6⟩
          have HB6 := Lib.hid hb6
          clear hb6 o1 o2
          go_wp2_with fail
          refine (p_forget (H5.out.1.below HB6.out) HJ4.out.ok.tick.1 ov.k).mono ?_
          rintro en w7 ⟨rfl, F7, hq7, hs7, hg7⟩
          have HJ7 : Hid (JW w b pn Fn v m w7) := Lib.hid (by
            have st : St F w4 w7 := (H5.out.2.1.trans (St.ext (F := F) HB6.out) (Gr.refl _ _)).trans hs7 (fun j hj => H5.out.2.2.1 j hj)
            have hfn : ∀ j, Fn j → ¬ F j := fun j hj hf => by
              have h1 := HQN.out.2.1 j hj
              have h2 := HJR.out.q.bd _ hf
              omega
            have hbn : ¬ Fn b := fun e => by have h1 := HQN.out.2.1 b e; have h2 := HJR.out.bx.lt; omega
            have hb7 := HJ4.out.bel.trans (st.below HJ4.out.bel.size HJ4.out.fg)
            refine ⟨HQN.out.1.st st hfn, ?_, HJ4.out.bx.st st HJ4.out.nb, hbn, fun j hj => Nat.le_trans HJR.out.bel.size (HQN.out.2.1 j hj), HJ4.out.bge, hb7, HJ4.out.ok⟩
            refine RpR.mono ((HJR.out.r.low.below HQN.out.2.2).st st fun j hj => hj.1.1) fun j hj => ⟨fun e => ?_, hj.1.2⟩
            have h1 := HQN.out.2.1 j e
            have h2 := hj.2
            omega)
          have HT2 : Hid (m.total ≤ ((i + 1 : Nat) : Int)) := Lib.hid (by have := HT.out; omega)
          clear hq7 hs7 hg7 H5 HB6 HJ4 HQN c0' c1' c2' e7
          go_wp2_with fail
          refine wp_region_E (Below w7.heap.size) (by kernel_rfl) (fun wd hbd hsz => ?_)
          have HBd := Lib.hid hbd
          have hkr : ∀ V, Below w7.heap.size wd V → V.rangeAt go_ (oo + i * 5 + 1) ov.k.cl := fun V hV j u hu => by
            have hh := range_belowB HOR.out.1 HOR.out.2.1 (HJ7.out.bel.trans ((HBd.out.trans hV).mono HJ7.out.bel.size)) (1 + j) u (by
              rcases j with _ | _ | j
              · exact hu
              · exact hu
              · simp [Ky.cl] at hu)
            rw [show oo + i * 5 + 1 + j = oo + i * 5 + (1 + j) from by omega]
            exact hh
          have hsd := hbd.size
          clear hsz
          (refine takeE (belowTr w7.heap.size) 0 (by simp only [List.getElem?_toArray, List.getElem?_cons_succ, List.getElem?_cons_zero]; rfl) (by kernel_rfl) (by kernel_rfl) (by kernel_rfl) (by exact fun _ _ _ h => h) (by first | (refine Or.inl ⟨by rfl, ?_⟩; intro W hW; exact exec_loadC rowR (.tmp 7) rfl b rfl ([.slice v.A v.n v.c, .slice v.B v.k v.d, .slice v.C v.r v.e, .int .i64 (m).most, .int .i64 (m).run, .int .i64 (m).total]) (HJ7.out.bx.below (HBd.out.trans hW)) rfl) | exact Or.inr ⟨by rfl, rfl⟩) ?_; try simp only [Act.put, List.setIfInBounds_toArray, List.set_cons_zero, List.set_cons_succ])
          (refine takeE (belowTr w7.heap.size) 1 (by simp only [List.getElem?_toArray, List.getElem?_cons_succ, List.getElem?_cons_zero]; rfl) (by kernel_rfl) (by kernel_rfl) (by kernel_rfl) (by exact fun _ _ _ h => h) (by first | (refine Or.inl ⟨by rfl, ?_⟩; intro W hW; go_simp; try with_reducible rfl) | exact Or.inr ⟨by rfl, rfl⟩) ?_; try simp only [Act.put, List.setIfInBounds_toArray, List.set_cons_zero, List.set_cons_succ])
          (refine takeE (belowTr w7.heap.size) 2 (by simp only [List.getElem?_toArray, List.getElem?_cons_succ, List.getElem?_cons_zero]; rfl) (by kernel_rfl) (by kernel_rfl) (by kernel_rfl) (by exact fun _ _ _ h => h) (by first | (refine Or.inl ⟨by rfl, ?_⟩; intro W hW; go_simp; try with_reducible rfl) | exact Or.inr ⟨by rfl, rfl⟩) ?_; try simp only [Act.put, List.setIfInBounds_toArray, List.set_cons_zero, List.set_cons_succ])
          (refine takeE (belowTr w7.heap.size) 3 (by simp only [List.getElem?_toArray, List.getElem?_cons_succ, List.getElem?_cons_zero]; rfl) (by kernel_rfl) (by kernel_rfl) (by kernel_rfl) (by exact fun _ _ _ h => h) (by first | (refine Or.inl ⟨by rfl, ?_⟩; intro W hW; go_simp; try with_reducible rfl) | exact Or.inr ⟨by rfl, rfl⟩) ?_; try simp only [Act.put, List.setIfInBounds_toArray, List.set_cons_zero, List.set_cons_succ])
          (refine takeE (belowTr w7.heap.size) 4 (by simp only [List.getElem?_toArray, List.getElem?_cons_succ, List.getElem?_cons_zero]; rfl) (by kernel_rfl) (by kernel_rfl) (by kernel_rfl) (by exact fun _ _ _ h => h) (by first | (refine Or.inl ⟨by rfl, ?_⟩; intro W hW; go_simp; try with_reducible rfl) | exact Or.inr ⟨by rfl, rfl⟩) ?_; try simp only [Act.put, List.setIfInBounds_toArray, List.set_cons_zero, List.set_cons_succ])
          (refine takeE (belowTr w7.heap.size) 5 (by simp only [List.getElem?_toArray, List.getElem?_cons_succ, List.getElem?_cons_zero]; rfl) (by kernel_rfl) (by kernel_rfl) (by kernel_rfl) (by exact fun _ _ _ h => h) (by first | (refine Or.inl ⟨by rfl, ?_⟩; intro W hW; exact exec_loadK rowRK (.tmp 91) rfl go_ (oo + i * 5 + 1) rfl ov.k (hkr _ hW)) | exact Or.inr ⟨by rfl, rfl⟩) ?_; try simp only [Act.put, List.setIfInBounds_toArray, List.set_cons_zero, List.set_cons_succ])
          refine wpAnyE_two (i := 6) (j := 7) (by kernel_rfl) (by simp only [List.getElem?_toArray, List.getElem?_cons_succ, List.getElem?_cons_zero]; rfl) (by simp only [List.getElem?_toArray, List.getElem?_cons_succ, List.getElem?_cons_zero]; rfl) (fun K hK => ?_) (fun K hK => ?_)
          ·
            go_simp
            refine (r_of (HJ7.out.r.below HBd.out) (by rw [HJ7.out.r.l.1]; have := HJ7.out.ok.ll; have := HJ7.out.ok.mo; omega) ov.k).mono ?_
            rintro en w10 ⟨rfl, hb10⟩
            have HB10 := Lib.hid hb10
            clear hb10
            refine hK.out _ _ (HB10.out.mono hsd) ?_
            clear hK K
            try simp only [Act.put, List.setIfInBounds_toArray, List.set_cons_zero, List.set_cons_succ]
            refine wpAnyE_one (i := 7) (by kernel_rfl) (by simp only [List.getElem?_toArray, List.getElem?_cons_succ, List.getElem?_cons_zero]; rfl) (fun K hK => ?_)
            go_simp
            skip
            refine hK.out _ _ ((Below.refl _ _).alloc (Nat.le_trans hsd HB10.out.size) _) ?_
            clear hK K
            try simp only [Act.put, List.setIfInBounds_toArray, List.set_cons_zero, List.set_cons_succ]
            refine wpAnyE_one (i := 8) (by kernel_rfl) (by simp only [List.getElem?_toArray, List.getElem?_cons_succ, List.getElem?_cons_zero]; rfl) (fun K hK => ?_)
            go_simp
            skip
            refine hK.out _ _ (below_two (Nat.le_trans hsd HB10.out.size) _ _) ?_
            clear hK K
            try simp only [Act.put, List.setIfInBounds_toArray, List.set_cons_zero, List.set_cons_succ]
            refine wpAnyE_done (by kernel_rfl) ?_ _
            have HX := Lib.hid (And.intro (HJ7.out.next (HBd.out.trans ((HB10.out.mono hsd).trans ((Below.refl w7.heap.size w10).alloc (Nat.le_trans hsd HB10.out.size) (.cells #[.int .i64 (ofKey (m).L ov.k).k.s, .int .i64 (ofKey (m).L ov.k).k.c, .int .i64 (ofKey (m).L ov.k).g, .int .i64 (ofKey (m).L ov.k).p, .int .i64 (ofKey (m).L ov.k).i] 50))))) (Bk.new w10 50 (ofKey (m).L ov.k).cl))
            generalize w10.heap.size = gx at *
            clear hkr hsd HJ7 HB10
            go_wp2_with fail
            refine wp_region_E Ext (by kernel_rfl) (fun wd hbd hsz => ?_)
            have HXd := Lib.hid (And.intro (HX.out.1.next hbd) (HX.out.2.below hbd))
            have hE : Below wd.heap.size wd wd := Below.refl _ _
            have q1 : ∀ V, Ext wd V → V.cell? ⟨go_, oo + i * 5 + 1, none⟩ = some (.int .i64 ov.k.s) := fun V hV => range_belowB HOR.out.1 HOR.out.2.1 (below_on HXd.out.1.bel (below_on hE hV)) 1 _ rfl
            have q2 : ∀ V, Ext wd V → V.cell? ⟨go_, oo + i * 5 + 2, none⟩ = some (.int .i64 ov.k.c) := fun V hV => range_belowB HOR.out.1 HOR.out.2.1 (below_on HXd.out.1.bel (below_on hE hV)) 2 _ rfl
            have q3 : ∀ V, Ext wd V → V.cell? ⟨gx, 3, none⟩ = some (.int .i64 (ofKey (m).L ov.k).p) := fun V hV => (HXd.out.2.below (below_on hE hV)).cell 3 rfl
            have q4 : ∀ V, Ext wd V → V.cell? ⟨gx, 4, none⟩ = some (.int .i64 (ofKey (m).L ov.k).i) := fun V hV => (HXd.out.2.below (below_on hE hV)).cell 4 rfl
            have q5 : ∀ V, Ext wd V → V.cell? ⟨b, 5, none⟩ = some (.int .i64 (m).total) := fun V hV => (HXd.out.1.bx.below (below_on hE hV)).cell 5 rfl
            have q6 : ∀ V, Ext wd V → V.cell? ⟨b, 0, none⟩ = some (.slice v.A v.n v.c) := fun V hV => (HXd.out.1.bx.below (below_on hE hV)).cell 0 rfl
            have hln : (((m).L.length : Int) != (v.n : Int)) = false := by have := HX.out.1.r.l.1; simp; omega
            have HBD := Lib.hid hbd
            clear hsz
            (refine takeE Ext.tr 0 (by simp only [List.getElem?_toArray, List.getElem?_cons_succ, List.getElem?_cons_zero]; rfl) (by kernel_rfl) (by kernel_rfl) (by kernel_rfl) (by exact fun _ _ _ h => h) (by first | (refine Or.inl ⟨by rfl, ?_⟩; intro W hW; go_simp; try with_reducible rfl) | exact Or.inr ⟨by rfl, rfl⟩) ?_; try simp only [Act.put, List.setIfInBounds_toArray, List.set_cons_zero, List.set_cons_succ])
            (refine takeE Ext.tr 1 (by simp only [List.getElem?_toArray, List.getElem?_cons_succ, List.getElem?_cons_zero]; rfl) (by kernel_rfl) (by kernel_rfl) (by kernel_rfl) (by exact fun _ _ _ h => h) (by first | (refine Or.inl ⟨by rfl, ?_⟩; intro W hW; go_simp; try with_reducible rfl) | exact Or.inr ⟨by rfl, rfl⟩) ?_; try simp only [Act.put, List.setIfInBounds_toArray, List.set_cons_zero, List.set_cons_succ])
            (refine takeE Ext.tr 2 (by simp only [List.getElem?_toArray, List.getElem?_cons_succ, List.getElem?_cons_zero]; rfl) (by kernel_rfl) (by kernel_rfl) (by kernel_rfl) (by exact fun _ _ _ h => h) (by first | (refine Or.inl ⟨by rfl, ?_⟩; intro W hW; go_simp; try with_reducible rfl) | exact Or.inr ⟨by rfl, rfl⟩) ?_; try simp only [Act.put, List.setIfInBounds_toArray, List.set_cons_zero, List.set_cons_succ])
            (refine takeE Ext.tr 3 (by simp only [List.getElem?_toArray, List.getElem?_cons_succ, List.getElem?_cons_zero]; rfl) (by kernel_rfl) (by kernel_rfl) (by kernel_rfl) (by exact fun _ _ _ h => h) (by first | (refine Or.inl ⟨by rfl, ?_⟩; intro W hW; go_simp; try with_reducible rfl) | exact Or.inr ⟨by rfl, rfl⟩) ?_; try simp only [Act.put, List.setIfInBounds_toArray, List.set_cons_zero, List.set_cons_succ])
            (refine takeE Ext.tr 4 (by simp only [List.getElem?_toArray, List.getElem?_cons_succ, List.getElem?_cons_zero]; rfl) (by kernel_rfl) (by kernel_rfl) (by kernel_rfl) (by exact fun _ _ _ h => h) (by first | (refine Or.inl ⟨by rfl, ?_⟩; intro W hW; go_simp; try with_reducible rfl) | exact Or.inr ⟨by rfl, rfl⟩) ?_; try simp only [Act.put, List.setIfInBounds_toArray, List.set_cons_zero, List.set_cons_succ])
            (refine takeE Ext.tr 5 (by simp only [List.getElem?_toArray, List.getElem?_cons_succ, List.getElem?_cons_zero]; rfl) (by kernel_rfl) (by kernel_rfl) (by kernel_rfl) (by exact fun _ _ _ h => h) (by first | (refine Or.inl ⟨by rfl, ?_⟩; intro W hW; go_simp; try with_reducible rfl) | exact Or.inr ⟨by rfl, rfl⟩) ?_; try simp only [Act.put, List.setIfInBounds_toArray, List.set_cons_zero, List.set_cons_succ])
            (refine takeE Ext.tr 11 (by simp only [List.getElem?_toArray, List.getElem?_cons_succ, List.getElem?_cons_zero]; rfl) (by kernel_rfl) (by kernel_rfl) (by kernel_rfl) (by exact fun _ _ _ h => h) (by first | (refine Or.inl ⟨by rfl, ?_⟩; intro W hW; go_simp; try with_reducible rfl) | exact Or.inr ⟨by rfl, rfl⟩) ?_; try simp only [Act.put, List.setIfInBounds_toArray, List.set_cons_zero, List.set_cons_succ])
            (refine takeE Ext.tr 6 (by simp only [List.getElem?_toArray, List.getElem?_cons_succ, List.getElem?_cons_zero]; rfl) (by kernel_rfl) (by kernel_rfl) (by kernel_rfl) (by exact fun _ _ _ h => h) (by first | (refine Or.inl ⟨by rfl, ?_⟩; intro W hW; go_simp; try with_reducible rfl) | exact Or.inr ⟨by rfl, rfl⟩) ?_; try simp only [Act.put, List.setIfInBounds_toArray, List.set_cons_zero, List.set_cons_succ])
            (refine takeE Ext.tr 12 (by simp only [List.getElem?_toArray, List.getElem?_cons_succ, List.getElem?_cons_zero]; rfl) (by kernel_rfl) (by kernel_rfl) (by kernel_rfl) (by exact fun _ _ _ h => h) (by first | (refine Or.inl ⟨by rfl, ?_⟩; intro W hW; go_simp; try with_reducible rfl) | exact Or.inr ⟨by rfl, rfl⟩) ?_; try simp only [Act.put, List.setIfInBounds_toArray, List.set_cons_zero, List.set_cons_succ])
            (refine takeE Ext.tr 7 (by simp only [List.getElem?_toArray, List.getElem?_cons_succ, List.getElem?_cons_zero]; rfl) (by kernel_rfl) (by kernel_rfl) (by kernel_rfl) (by exact fun _ _ _ h => h) (by first | (refine Or.inl ⟨by rfl, ?_⟩; intro W hW; go_simp; try with_reducible rfl) | exact Or.inr ⟨by rfl, rfl⟩) ?_; try simp only [Act.put, List.setIfInBounds_toArray, List.set_cons_zero, List.set_cons_succ])
            (refine takeE Ext.tr 8 (by simp only [List.getElem?_toArray, List.getElem?_cons_succ, List.getElem?_cons_zero]; rfl) (by kernel_rfl) (by kernel_rfl) (by kernel_rfl) (by exact fun _ _ _ h => h) (by first | (refine Or.inl ⟨by rfl, ?_⟩; intro W hW; go_simp; try with_reducible rfl) | exact Or.inr ⟨by rfl, rfl⟩) ?_; try simp only [Act.put, List.setIfInBounds_toArray, List.set_cons_zero, List.set_cons_succ])
            refine wpAnyE_one (i := 9) (by kernel_rfl) (by simp only [List.getElem?_toArray, List.getElem?_cons_succ, List.getElem?_cons_zero]; rfl) (fun K hK => ?_)
            go_simp
            refine (l_of ov.k _).mono ?_
            rintro en u1 ⟨rfl, hE2⟩
            have hE3 := hE2
            clear q1 q2 q3 q4 q5 q6
            replace hE := below_on hE hE2
            have q1 : ∀ V, Ext u1 V → V.cell? ⟨go_, oo + i * 5 + 1, none⟩ = some (.int .i64 ov.k.s) := fun V hV => range_belowB HOR.out.1 HOR.out.2.1 (below_on HXd.out.1.bel (below_on hE hV)) 1 _ rfl
            have q2 : ∀ V, Ext u1 V → V.cell? ⟨go_, oo + i * 5 + 2, none⟩ = some (.int .i64 ov.k.c) := fun V hV => range_belowB HOR.out.1 HOR.out.2.1 (below_on HXd.out.1.bel (below_on hE hV)) 2 _ rfl
            have q3 : ∀ V, Ext u1 V → V.cell? ⟨gx, 3, none⟩ = some (.int .i64 (ofKey (m).L ov.k).p) := fun V hV => (HXd.out.2.below (below_on hE hV)).cell 3 rfl
            have q4 : ∀ V, Ext u1 V → V.cell? ⟨gx, 4, none⟩ = some (.int .i64 (ofKey (m).L ov.k).i) := fun V hV => (HXd.out.2.below (below_on hE hV)).cell 4 rfl
            have q5 : ∀ V, Ext u1 V → V.cell? ⟨b, 5, none⟩ = some (.int .i64 (m).total) := fun V hV => (HXd.out.1.bx.below (below_on hE hV)).cell 5 rfl
            have q6 : ∀ V, Ext u1 V → V.cell? ⟨b, 0, none⟩ = some (.slice v.A v.n v.c) := fun V hV => (HXd.out.1.bx.below (below_on hE hV)).cell 0 rfl
            clear hE2
            refine hK.out _ _ hE3 ?_
            clear hK K
            try simp only [Act.put, List.setIfInBounds_toArray, List.set_cons_zero, List.set_cons_succ]
            refine wpAnyE_one (i := 10) (by kernel_rfl) (by simp only [List.getElem?_toArray, List.getElem?_cons_succ, List.getElem?_cons_zero]; rfl) (fun K hK => ?_)
            go_simp
            refine (p_pending (HXd.out.1.q.below hE) ov.k).mono ?_
            rintro en u2 ⟨rfl, hE2⟩
            have hE3 := hE2
            clear q1 q2 q3 q4 q5 q6
            replace hE := below_on hE hE2
            have q1 : ∀ V, Ext u2 V → V.cell? ⟨go_, oo + i * 5 + 1, none⟩ = some (.int .i64 ov.k.s) := fun V hV => range_belowB HOR.out.1 HOR.out.2.1 (below_on HXd.out.1.bel (below_on hE hV)) 1 _ rfl
            have q2 : ∀ V, Ext u2 V → V.cell? ⟨go_, oo + i * 5 + 2, none⟩ = some (.int .i64 ov.k.c) := fun V hV => range_belowB HOR.out.1 HOR.out.2.1 (below_on HXd.out.1.bel (below_on hE hV)) 2 _ rfl
            have q3 : ∀ V, Ext u2 V → V.cell? ⟨gx, 3, none⟩ = some (.int .i64 (ofKey (m).L ov.k).p) := fun V hV => (HXd.out.2.below (below_on hE hV)).cell 3 rfl
            have q4 : ∀ V, Ext u2 V → V.cell? ⟨gx, 4, none⟩ = some (.int .i64 (ofKey (m).L ov.k).i) := fun V hV => (HXd.out.2.below (below_on hE hV)).cell 4 rfl
            have q5 : ∀ V, Ext u2 V → V.cell? ⟨b, 5, none⟩ = some (.int .i64 (m).total) := fun V hV => (HXd.out.1.bx.below (below_on hE hV)).cell 5 rfl
            have q6 : ∀ V, Ext u2 V → V.cell? ⟨b, 0, none⟩ = some (.slice v.A v.n v.c) := fun V hV => (HXd.out.1.bx.below (below_on hE hV)).cell 0 rfl
            clear hE2
            refine hK.out _ _ hE3 ?_
            clear hK K
            try simp only [Act.put, List.setIfInBounds_toArray, List.set_cons_zero, List.set_cons_succ]
            (refine takeE Ext.tr 13 (by simp only [List.getElem?_toArray, List.getElem?_cons_succ, List.getElem?_cons_zero]; rfl) (by kernel_rfl) (by kernel_rfl) (by kernel_rfl) (by exact fun _ _ _ h => h) (by first | (refine Or.inl ⟨by rfl, ?_⟩; intro W hW; go_simp; try with_reducible rfl) | exact Or.inr ⟨by rfl, rfl⟩) ?_; try simp only [Act.put, List.setIfInBounds_toArray, List.set_cons_zero, List.set_cons_succ])
            (refine takeE Ext.tr 14 (by simp only [List.getElem?_toArray, List.getElem?_cons_succ, List.getElem?_cons_zero]; rfl) (by kernel_rfl) (by kernel_rfl) (by kernel_rfl) (by exact fun _ _ _ h => h) (by first | (refine Or.inl ⟨by rfl, ?_⟩; intro W hW; go_simp; try with_reducible rfl) | exact Or.inr ⟨by rfl, rfl⟩) ?_; try simp only [Act.put, List.setIfInBounds_toArray, List.set_cons_zero, List.set_cons_succ])
            (refine takeE Ext.tr 15 (by simp only [List.getElem?_toArray, List.getElem?_cons_succ, List.getElem?_cons_zero]; rfl) (by kernel_rfl) (by kernel_rfl) (by kernel_rfl) (by exact fun _ _ _ h => h) (by first | (refine Or.inl ⟨by rfl, ?_⟩; intro W hW; go_simp; try with_reducible rfl) | exact Or.inr ⟨by rfl, rfl⟩) ?_; try simp only [Act.put, List.setIfInBounds_toArray, List.set_cons_zero, List.set_cons_succ])
            (refine takeE Ext.tr 16 (by simp only [List.getElem?_toArray, List.getElem?_cons_succ, List.getElem?_cons_zero]; rfl) (by kernel_rfl) (by kernel_rfl) (by kernel_rfl) (by exact fun _ _ _ h => h) (by first | (refine Or.inl ⟨by rfl, ?_⟩; intro W hW; go_simp; try with_reducible rfl) | exact Or.inr ⟨by rfl, rfl⟩) ?_; try simp only [Act.put, List.setIfInBounds_toArray, List.set_cons_zero, List.set_cons_succ])
            (refine takeE Ext.tr 17 (by simp only [List.getElem?_toArray, List.getElem?_cons_succ, List.getElem?_cons_zero]; rfl) (by kernel_rfl) (by kernel_rfl) (by kernel_rfl) (by exact fun _ _ _ h => h) (by first | (refine Or.inl ⟨by rfl, ?_⟩; intro W hW; go_simp; try with_reducible rfl) | exact Or.inr ⟨by rfl, rfl⟩) ?_; try simp only [Act.put, List.setIfInBounds_toArray, List.set_cons_zero, List.set_cons_succ])
            (refine takeE Ext.tr 18 (by simp only [List.getElem?_toArray, List.getElem?_cons_succ, List.getElem?_cons_zero]; rfl) (by kernel_rfl) (by kernel_rfl) (by kernel_rfl) (by exact fun _ _ _ h => h) (by first | (refine Or.inl ⟨by rfl, ?_⟩; intro W hW; go_simp; try with_reducible rfl) | exact Or.inr ⟨by rfl, rfl⟩) ?_; try simp only [Act.put, List.setIfInBounds_toArray, List.set_cons_zero, List.set_cons_succ])
            (refine takeE Ext.tr 24 (by simp only [List.getElem?_toArray, List.getElem?_cons_succ, List.getElem?_cons_zero]; rfl) (by kernel_rfl) (by kernel_rfl) (by kernel_rfl) (by exact fun _ _ _ h => h) (by first | (refine Or.inl ⟨by rfl, ?_⟩; intro W hW; go_simp; try with_reducible rfl) | exact Or.inr ⟨by rfl, rfl⟩) ?_; try simp only [Act.put, List.setIfInBounds_toArray, List.set_cons_zero, List.set_cons_succ])
            (refine takeE Ext.tr 19 (by simp only [List.getElem?_toArray, List.getElem?_cons_succ, List.getElem?_cons_zero]; rfl) (by kernel_rfl) (by kernel_rfl) (by kernel_rfl) (by exact fun _ _ _ h => h) (by first | (refine Or.inl ⟨by rfl, ?_⟩; intro W hW; go_simp; try with_reducible rfl) | exact Or.inr ⟨by rfl, rfl⟩) ?_; try simp only [Act.put, List.setIfInBounds_toArray, List.set_cons_zero, List.set_cons_succ])
            (refine takeE Ext.tr 25 (by simp only [List.getElem?_toArray, List.getElem?_cons_succ, List.getElem?_cons_zero]; rfl) (by kernel_rfl) (by kernel_rfl) (by kernel_rfl) (by exact fun _ _ _ h => h) (by first | (refine Or.inl ⟨by rfl, ?_⟩; intro W hW; go_simp; try with_reducible rfl) | exact Or.inr ⟨by rfl, rfl⟩) ?_; try simp only [Act.put, List.setIfInBounds_toArray, List.set_cons_zero, List.set_cons_succ])
            (refine takeE Ext.tr 20 (by simp only [List.getElem?_toArray, List.getElem?_cons_succ, List.getElem?_cons_zero]; rfl) (by kernel_rfl) (by kernel_rfl) (by kernel_rfl) (by exact fun _ _ _ h => h) (by first | (refine Or.inl ⟨by rfl, ?_⟩; intro W hW; go_simp; try with_reducible rfl) | exact Or.inr ⟨by rfl, rfl⟩) ?_; try simp only [Act.put, List.setIfInBounds_toArray, List.set_cons_zero, List.set_cons_succ])
            (refine takeE Ext.tr 21 (by simp only [List.getElem?_toArray, List.getElem?_cons_succ, List.getElem?_cons_zero]; rfl) (by kernel_rfl) (by kernel_rfl) (by kernel_rfl) (by exact fun _ _ _ h => h) (by first | (refine Or.inl ⟨by rfl, ?_⟩; intro W hW; go_simp; try with_reducible rfl) | exact Or.inr ⟨by rfl, rfl⟩) ?_; try simp only [Act.put, List.setIfInBounds_toArray, List.set_cons_zero, List.set_cons_succ])
            refine wpAnyE_one (i := 22) (by kernel_rfl) (by simp only [List.getElem?_toArray, List.getElem?_cons_succ, List.getElem?_cons_zero]; rfl) (fun K hK => ?_)
            go_simp
            refine (l_of ov.k _).mono ?_
            rintro en u3 ⟨rfl, hE2⟩
            have hE3 := hE2
            clear q1 q2 q3 q4 q5 q6
            replace hE := below_on hE hE2
            have q1 : ∀ V, Ext u3 V → V.cell? ⟨go_, oo + i * 5 + 1, none⟩ = some (.int .i64 ov.k.s) := fun V hV => range_belowB HOR.out.1 HOR.out.2.1 (below_on HXd.out.1.bel (below_on hE hV)) 1 _ rfl
            have q2 : ∀ V, Ext u3 V → V.cell? ⟨go_, oo + i * 5 + 2, none⟩ = some (.int .i64 ov.k.c) := fun V hV => range_belowB HOR.out.1 HOR.out.2.1 (below_on HXd.out.1.bel (below_on hE hV)) 2 _ rfl
            have q3 : ∀ V, Ext u3 V → V.cell? ⟨gx, 3, none⟩ = some (.int .i64 (ofKey (m).L ov.k).p) := fun V hV => (HXd.out.2.below (below_on hE hV)).cell 3 rfl
            have q4 : ∀ V, Ext u3 V → V.cell? ⟨gx, 4, none⟩ = some (.int .i64 (ofKey (m).L ov.k).i) := fun V hV => (HXd.out.2.below (below_on hE hV)).cell 4 rfl
            have q5 : ∀ V, Ext u3 V → V.cell? ⟨b, 5, none⟩ = some (.int .i64 (m).total) := fun V hV => (HXd.out.1.bx.below (below_on hE hV)).cell 5 rfl
            have q6 : ∀ V, Ext u3 V → V.cell? ⟨b, 0, none⟩ = some (.slice v.A v.n v.c) := fun V hV => (HXd.out.1.bx.below (below_on hE hV)).cell 0 rfl
            clear hE2
            refine hK.out _ _ hE3 ?_
            clear hK K
            try simp only [Act.put, List.setIfInBounds_toArray, List.set_cons_zero, List.set_cons_succ]
            refine wpAnyE_one (i := 23) (by kernel_rfl) (by simp only [List.getElem?_toArray, List.getElem?_cons_succ, List.getElem?_cons_zero]; rfl) (fun K hK => ?_)
            go_simp
            refine (p_issued (HXd.out.1.q.below hE) ov.k).mono ?_
            rintro en u4 ⟨rfl, hE2⟩
            have hE3 := hE2
            clear q1 q2 q3 q4 q5 q6
            replace hE := below_on hE hE2
            have q1 : ∀ V, Ext u4 V → V.cell? ⟨go_, oo + i * 5 + 1, none⟩ = some (.int .i64 ov.k.s) := fun V hV => range_belowB HOR.out.1 HOR.out.2.1 (below_on HXd.out.1.bel (below_on hE hV)) 1 _ rfl
            have q2 : ∀ V, Ext u4 V → V.cell? ⟨go_, oo + i * 5 + 2, none⟩ = some (.int .i64 ov.k.c) := fun V hV => range_belowB HOR.out.1 HOR.out.2.1 (below_on HXd.out.1.bel (below_on hE hV)) 2 _ rfl
            have q3 : ∀ V, Ext u4 V → V.cell? ⟨gx, 3, none⟩ = some (.int .i64 (ofKey (m).L ov.k).p) := fun V hV => (HXd.out.2.below (below_on hE hV)).cell 3 rfl
            have q4 : ∀ V, Ext u4 V → V.cell? ⟨gx, 4, none⟩ = some (.int .i64 (ofKey (m).L ov.k).i) := fun V hV => (HXd.out.2.below (below_on hE hV)).cell 4 rfl
            have q5 : ∀ V, Ext u4 V → V.cell? ⟨b, 5, none⟩ = some (.int .i64 (m).total) := fun V hV => (HXd.out.1.bx.below (below_on hE hV)).cell 5 rfl
            have q6 : ∀ V, Ext u4 V → V.cell? ⟨b, 0, none⟩ = some (.slice v.A v.n v.c) := fun V hV => (HXd.out.1.bx.below (below_on hE hV)).cell 0 rfl
            clear hE2
            refine hK.out _ _ hE3 ?_
            clear hK K
            try simp only [Act.put, List.setIfInBounds_toArray, List.set_cons_zero, List.set_cons_succ]
            (refine takeE Ext.tr 26 (by simp only [List.getElem?_toArray, List.getElem?_cons_succ, List.getElem?_cons_zero]; rfl) (by kernel_rfl) (by kernel_rfl) (by kernel_rfl) (by exact fun _ _ _ h => h) (by first | (refine Or.inl ⟨by rfl, ?_⟩; intro W hW; go_simp; try with_reducible rfl) | exact Or.inr ⟨by rfl, rfl⟩) ?_; try simp only [Act.put, List.setIfInBounds_toArray, List.set_cons_zero, List.set_cons_succ])
            (refine takeE Ext.tr 27 (by simp only [List.getElem?_toArray, List.getElem?_cons_succ, List.getElem?_cons_zero]; rfl) (by kernel_rfl) (by kernel_rfl) (by kernel_rfl) (by exact fun _ _ _ h => h) (by first | (refine Or.inl ⟨by rfl, ?_⟩; intro W hW; go_simp; try with_reducible rfl) | exact Or.inr ⟨by rfl, rfl⟩) ?_; try simp only [Act.put, List.setIfInBounds_toArray, List.set_cons_zero, List.set_cons_succ])
            (refine takeE Ext.tr 28 (by simp only [List.getElem?_toArray, List.getElem?_cons_succ, List.getElem?_cons_zero]; rfl) (by kernel_rfl) (by kernel_rfl) (by kernel_rfl) (by exact fun _ _ _ h => h) (by first | (refine Or.inl ⟨by rfl, ?_⟩; intro W hW; go_simp; try with_reducible rfl) | exact Or.inr ⟨by rfl, rfl⟩) ?_; try simp only [Act.put, List.setIfInBounds_toArray, List.set_cons_zero, List.set_cons_succ])
            (refine takeE Ext.tr 29 (by simp only [List.getElem?_toArray, List.getElem?_cons_succ, List.getElem?_cons_zero]; rfl) (by kernel_rfl) (by kernel_rfl) (by kernel_rfl) (by exact fun _ _ _ h => h) (by first | (refine Or.inl ⟨by rfl, ?_⟩; intro W hW; go_simp; try with_reducible rfl) | exact Or.inr ⟨by rfl, rfl⟩) ?_; try simp only [Act.put, List.setIfInBounds_toArray, List.set_cons_zero, List.set_cons_succ])
            (refine takeE Ext.tr 31 (by simp only [List.getElem?_toArray, List.getElem?_cons_succ, List.getElem?_cons_zero]; rfl) (by kernel_rfl) (by kernel_rfl) (by kernel_rfl) (by exact fun _ _ _ h => h) (by first | (refine Or.inl ⟨by rfl, ?_⟩; intro W hW; go_simp; try with_reducible rfl) | exact Or.inr ⟨by rfl, rfl⟩) ?_; try simp only [Act.put, List.setIfInBounds_toArray, List.set_cons_zero, List.set_cons_succ])
            (refine takeE Ext.tr 32 (by simp only [List.getElem?_toArray, List.getElem?_cons_succ, List.getElem?_cons_zero]; rfl) (by kernel_rfl) (by kernel_rfl) (by kernel_rfl) (by exact fun _ _ _ h => h) (by first | (refine Or.inl ⟨by rfl, ?_⟩; intro W hW; go_simp; try with_reducible rfl) | exact Or.inr ⟨by rfl, rfl⟩) ?_; try simp only [Act.put, List.setIfInBounds_toArray, List.set_cons_zero, List.set_cons_succ])
            refine wpAnyE_one (i := 30) (by kernel_rfl) (by simp only [List.getElem?_toArray, List.getElem?_cons_succ, List.getElem?_cons_zero]; rfl) (fun K hK => ?_)
            go_simp
            refine (p_total (HXd.out.1.q.below hE)).mono ?_
            rintro en v1 ⟨rfl, rfl⟩
            refine hK.out _ _ (Ext.refl _) ?_
            clear hK K
            try simp only [Act.put, List.setIfInBounds_toArray, List.set_cons_zero, List.set_cons_succ]
            (refine takeE Ext.tr 33 (by simp only [List.getElem?_toArray, List.getElem?_cons_succ, List.getElem?_cons_zero]; rfl) (by kernel_rfl) (by kernel_rfl) (by kernel_rfl) (by exact fun _ _ _ h => h) (by first | (refine Or.inl ⟨by rfl, ?_⟩; intro W hW; go_simp; try with_reducible rfl) | exact Or.inr ⟨by rfl, rfl⟩) ?_; try simp only [Act.put, List.setIfInBounds_toArray, List.set_cons_zero, List.set_cons_succ])
            (refine takeE Ext.tr 34 (by simp only [List.getElem?_toArray, List.getElem?_cons_succ, List.getElem?_cons_zero]; rfl) (by kernel_rfl) (by kernel_rfl) (by kernel_rfl) (by exact fun _ _ _ h => h) (by first | (refine Or.inl ⟨by rfl, ?_⟩; intro W hW; go_simp; try with_reducible rfl) | exact Or.inr ⟨by rfl, rfl⟩) ?_; try simp only [Act.put, List.setIfInBounds_toArray, List.set_cons_zero, List.set_cons_succ])
            (refine takeE Ext.tr 35 (by simp only [List.getElem?_toArray, List.getElem?_cons_succ, List.getElem?_cons_zero]; rfl) (by kernel_rfl) (by kernel_rfl) (by kernel_rfl) (by exact fun _ _ _ h => h) (by first | (refine Or.inl ⟨by rfl, ?_⟩; intro W hW; go_simp; try with_reducible rfl) | exact Or.inr ⟨by rfl, rfl⟩) ?_; try simp only [Act.put, List.setIfInBounds_toArray, List.set_cons_zero, List.set_cons_succ])
            (refine takeE Ext.tr 36 (by simp only [List.getElem?_toArray, List.getElem?_cons_succ, List.getElem?_cons_zero]; rfl) (by kernel_rfl) (by kernel_rfl) (by kernel_rfl) (by exact fun _ _ _ h => h) (by first | (refine Or.inl ⟨by rfl, ?_⟩; intro W hW; go_simp; try with_reducible rfl) | exact Or.inr ⟨by rfl, rfl⟩) ?_; try simp only [Act.put, List.setIfInBounds_toArray, List.set_cons_zero, List.set_cons_succ])
            (refine takeE Ext.tr 38 (by simp only [List.getElem?_toArray, List.getElem?_cons_succ, List.getElem?_cons_zero]; rfl) (by kernel_rfl) (by kernel_rfl) (by kernel_rfl) (by exact fun _ _ _ h => h) (by first | (refine Or.inl ⟨by rfl, ?_⟩; intro W hW; go_simp; try with_reducible rfl) | exact Or.inr ⟨by rfl, rfl⟩) ?_; try simp only [Act.put, List.setIfInBounds_toArray, List.set_cons_zero, List.set_cons_succ])
            (refine takeE Ext.tr 39 (by simp only [List.getElem?_toArray, List.getElem?_cons_succ, List.getElem?_cons_zero]; rfl) (by kernel_rfl) (by kernel_rfl) (by kernel_rfl) (by exact fun _ _ _ h => h) (by first | (refine Or.inl ⟨by rfl, ?_⟩; intro W hW; go_simp; try with_reducible rfl) | exact Or.inr ⟨by rfl, rfl⟩) ?_; try simp only [Act.put, List.setIfInBounds_toArray, List.set_cons_zero, List.set_cons_succ])
            (refine takeE Ext.tr 40 (by simp only [List.getElem?_toArray, List.getElem?_cons_succ, List.getElem?_cons_zero]; rfl) (by kernel_rfl) (by kernel_rfl) (by kernel_rfl) (by exact fun _ _ _ h => h) (by first | (refine Or.inl ⟨by rfl, ?_⟩; intro W hW; go_simp; try with_reducible rfl) | exact Or.inr ⟨by rfl, rfl⟩) ?_; try simp only [Act.put, List.setIfInBounds_toArray, List.set_cons_zero, List.set_cons_succ])
            refine wpAnyE_one (i := 37) (by kernel_rfl) (by simp only [List.getElem?_toArray, List.getElem?_cons_succ, List.getElem?_cons_zero]; rfl) (fun K hK => ?_)
            go_simp
            refine (p_len (HXd.out.1.q.below hE)).mono ?_
            rintro en v1 ⟨rfl, rfl⟩
            refine hK.out _ _ (Ext.refl _) ?_
            clear hK K
            try simp only [Act.put, List.setIfInBounds_toArray, List.set_cons_zero, List.set_cons_succ]
            (refine takeE Ext.tr 41 (by simp only [List.getElem?_toArray, List.getElem?_cons_succ, List.getElem?_cons_zero]; rfl) (by kernel_rfl) (by kernel_rfl) (by kernel_rfl) (by exact fun _ _ _ h => h) (by first | (refine Or.inl ⟨by rfl, ?_⟩; intro W hW; go_simp; try with_reducible rfl) | exact Or.inr ⟨by rfl, rfl⟩) ?_; try simp only [Act.put, List.setIfInBounds_toArray, List.set_cons_zero, List.set_cons_succ])
            (refine takeE Ext.tr 42 (by simp only [List.getElem?_toArray, List.getElem?_cons_succ, List.getElem?_cons_zero]; rfl) (by kernel_rfl) (by kernel_rfl) (by kernel_rfl) (by exact fun _ _ _ h => h) (by first | (refine Or.inl ⟨by rfl, ?_⟩; intro W hW; go_simp; try with_reducible rfl) | exact Or.inr ⟨by rfl, rfl⟩) ?_; try simp only [Act.put, List.setIfInBounds_toArray, List.set_cons_zero, List.set_cons_succ])
            refine wpAnyE_done (by kernel_rfl) ?_ _
            clear q1 q2 q3 q4 q5 q6 hln
            have HJ9 := Lib.hid (HXd.out.1.next hE)
            clear hE HX
            go_wp2_with fail
            refine wp_region_E Ext (by kernel_rfl) (fun wd hbd hsz => ?_)
            have HJd9 := Lib.hid (HJ9.out.next hbd)
            have hE : Below wd.heap.size wd wd := Below.refl _ _
            have HL0 := Lib.hid HJ9.out.ok.len0
            have HL1 := Lib.hid HJ9.out.ok.len1
            have q7 : ∀ V, Ext wd V → V.cell? ⟨b, 1, none⟩ = some (.slice v.B v.k v.d) := fun V hV => (HJd9.out.bx.below (below_on hE hV)).cell 1 rfl
            have q8 : ∀ V, Ext wd V → V.cell? ⟨b, 2, none⟩ = some (.slice v.C v.r v.e) := fun V hV => (HJd9.out.bx.below (below_on hE hV)).cell 2 rfl
            clear hsz
            (refine takeE Ext.tr 0 (by simp only [List.getElem?_toArray, List.getElem?_cons_succ, List.getElem?_cons_zero]; rfl) (by kernel_rfl) (by kernel_rfl) (by kernel_rfl) (by exact fun _ _ _ h => h) (by first | (refine Or.inl ⟨by rfl, ?_⟩; intro W hW; go_simp; try with_reducible rfl) | exact Or.inr ⟨by rfl, rfl⟩) ?_; try simp only [Act.put, List.setIfInBounds_toArray, List.set_cons_zero, List.set_cons_succ])
            (refine takeE Ext.tr 3 (by simp only [List.getElem?_toArray, List.getElem?_cons_succ, List.getElem?_cons_zero]; rfl) (by kernel_rfl) (by kernel_rfl) (by kernel_rfl) (by exact fun _ _ _ h => h) (by first | (refine Or.inl ⟨by rfl, ?_⟩; intro W hW; go_simp; try with_reducible rfl) | exact Or.inr ⟨by rfl, rfl⟩) ?_; try simp only [Act.put, List.setIfInBounds_toArray, List.set_cons_zero, List.set_cons_succ])
            (refine takeE Ext.tr 4 (by simp only [List.getElem?_toArray, List.getElem?_cons_succ, List.getElem?_cons_zero]; rfl) (by kernel_rfl) (by kernel_rfl) (by kernel_rfl) (by exact fun _ _ _ h => h) (by first | (refine Or.inl ⟨by rfl, ?_⟩; intro W hW; go_simp; try with_reducible rfl) | exact Or.inr ⟨by rfl, rfl⟩) ?_; try simp only [Act.put, List.setIfInBounds_toArray, List.set_cons_zero, List.set_cons_succ])
            refine wpAnyE_one (i := 1) (by kernel_rfl) (by simp only [List.getElem?_toArray, List.getElem?_cons_succ, List.getElem?_cons_zero]; rfl) (fun K hK => ?_)
            go_simp
            refine (p_qs (HJd9.out.q.below hE) 0 (q := (m).q0) rfl).mono ?_
            rintro en t1 ⟨qA0, qn0, qc0, rfl, hn0, hl0, hE2⟩
            have hE3 := hE2
            clear q7 q8
            replace hE := below_on hE hE2
            have q7 : ∀ V, Ext t1 V → V.cell? ⟨b, 1, none⟩ = some (.slice v.B v.k v.d) := fun V hV => (HJd9.out.bx.below (below_on hE hV)).cell 1 rfl
            have q8 : ∀ V, Ext t1 V → V.cell? ⟨b, 2, none⟩ = some (.slice v.C v.r v.e) := fun V hV => (HJd9.out.bx.below (below_on hE hV)).cell 2 rfl
            have HQ0 := Lib.hid (And.intro hn0 hl0)
            clear hE2 hn0 hl0
            refine hK.out _ _ hE3 ?_
            clear hK K
            try simp only [Act.put, List.setIfInBounds_toArray, List.set_cons_zero, List.set_cons_succ]
            refine wpAnyE_one (i := 2) (by kernel_rfl) (by simp only [List.getElem?_toArray, List.getElem?_cons_succ, List.getElem?_cons_zero]; rfl) (fun K hK => ?_)
            go_simp
            refine (l_back HQ0.out.2 HQ0.out.1 (by have h1 := HL0.out; have h2 := HQ0.out.1; omega)).mono ?_
            rintro en t2 ⟨qB0, qm0, qd0, rfl, hk0, hE2⟩
            have hE3 := hE2
            clear q7 q8
            replace hE := below_on hE hE2
            have q7 : ∀ V, Ext t2 V → V.cell? ⟨b, 1, none⟩ = some (.slice v.B v.k v.d) := fun V hV => (HJd9.out.bx.below (below_on hE hV)).cell 1 rfl
            have q8 : ∀ V, Ext t2 V → V.cell? ⟨b, 2, none⟩ = some (.slice v.C v.r v.e) := fun V hV => (HJd9.out.bx.below (below_on hE hV)).cell 2 rfl
            have HK0 := Lib.hid hk0
            clear hE2 hk0 HQ0
            refine hK.out _ _ hE3 ?_
            clear hK K
            try simp only [Act.put, List.setIfInBounds_toArray, List.set_cons_zero, List.set_cons_succ]
            refine wpAnyE_one (i := 5) (by kernel_rfl) (by simp only [List.getElem?_toArray, List.getElem?_cons_succ, List.getElem?_cons_zero]; rfl) (fun K hK => ?_)
            go_simp
            refine (r_same HK0.out (HJd9.out.r.p.below hE) (by rw [HK0.out.1]; have := HL0.out; omega)).mono ?_
            rintro en t3 ⟨rfl, hE2⟩
            have hE3 := hE2
            clear q7 q8
            replace hE := below_on hE hE2
            have q7 : ∀ V, Ext t3 V → V.cell? ⟨b, 1, none⟩ = some (.slice v.B v.k v.d) := fun V hV => (HJd9.out.bx.below (below_on hE hV)).cell 1 rfl
            have q8 : ∀ V, Ext t3 V → V.cell? ⟨b, 2, none⟩ = some (.slice v.C v.r v.e) := fun V hV => (HJd9.out.bx.below (below_on hE hV)).cell 2 rfl
            clear hE2 HK0
            refine hK.out _ _ hE3 ?_
            clear hK K
            try simp only [Act.put, List.setIfInBounds_toArray, List.set_cons_zero, List.set_cons_succ]
            (refine takeE Ext.tr 6 (by simp only [List.getElem?_toArray, List.getElem?_cons_succ, List.getElem?_cons_zero]; rfl) (by kernel_rfl) (by kernel_rfl) (by kernel_rfl) (by exact fun _ _ _ h => h) (by first | (refine Or.inl ⟨by rfl, ?_⟩; intro W hW; go_simp; try with_reducible rfl) | exact Or.inr ⟨by rfl, rfl⟩) ?_; try simp only [Act.put, List.setIfInBounds_toArray, List.set_cons_zero, List.set_cons_succ])
            (refine takeE Ext.tr 7 (by simp only [List.getElem?_toArray, List.getElem?_cons_succ, List.getElem?_cons_zero]; rfl) (by kernel_rfl) (by kernel_rfl) (by kernel_rfl) (by exact fun _ _ _ h => h) (by first | (refine Or.inl ⟨by rfl, ?_⟩; intro W hW; go_simp; try with_reducible rfl) | exact Or.inr ⟨by rfl, rfl⟩) ?_; try simp only [Act.put, List.setIfInBounds_toArray, List.set_cons_zero, List.set_cons_succ])
            (refine takeE Ext.tr 8 (by simp only [List.getElem?_toArray, List.getElem?_cons_succ, List.getElem?_cons_zero]; rfl) (by kernel_rfl) (by kernel_rfl) (by kernel_rfl) (by exact fun _ _ _ h => h) (by first | (refine Or.inl ⟨by rfl, ?_⟩; intro W hW; go_simp; try with_reducible rfl) | exact Or.inr ⟨by rfl, rfl⟩) ?_; try simp only [Act.put, List.setIfInBounds_toArray, List.set_cons_zero, List.set_cons_succ])
            (refine takeE Ext.tr 11 (by simp only [List.getElem?_toArray, List.getElem?_cons_succ, List.getElem?_cons_zero]; rfl) (by kernel_rfl) (by kernel_rfl) (by kernel_rfl) (by exact fun _ _ _ h => h) (by first | (refine Or.inl ⟨by rfl, ?_⟩; intro W hW; go_simp; try with_reducible rfl) | exact Or.inr ⟨by rfl, rfl⟩) ?_; try simp only [Act.put, List.setIfInBounds_toArray, List.set_cons_zero, List.set_cons_succ])
            (refine takeE Ext.tr 12 (by simp only [List.getElem?_toArray, List.getElem?_cons_succ, List.getElem?_cons_zero]; rfl) (by kernel_rfl) (by kernel_rfl) (by kernel_rfl) (by exact fun _ _ _ h => h) (by first | (refine Or.inl ⟨by rfl, ?_⟩; intro W hW; go_simp; try with_reducible rfl) | exact Or.inr ⟨by rfl, rfl⟩) ?_; try simp only [Act.put, List.setIfInBounds_toArray, List.set_cons_zero, List.set_cons_succ])
            refine wpAnyE_one (i := 9) (by kernel_rfl) (by simp only [List.getElem?_toArray, List.getElem?_cons_succ, List.getElem?_cons_zero]; rfl) (fun K hK => ?_)
            go_simp
            refine (p_qs (HJd9.out.q.below hE) 1 (q := (m).q1) rfl).mono ?_
            rintro en t4 ⟨qA1, qn1, qc1, rfl, hn1, hl1, hE2⟩
            have hE3 := hE2
            clear q7 q8
            replace hE := below_on hE hE2
            have q7 : ∀ V, Ext t4 V → V.cell? ⟨b, 1, none⟩ = some (.slice v.B v.k v.d) := fun V hV => (HJd9.out.bx.below (below_on hE hV)).cell 1 rfl
            have q8 : ∀ V, Ext t4 V → V.cell? ⟨b, 2, none⟩ = some (.slice v.C v.r v.e) := fun V hV => (HJd9.out.bx.below (below_on hE hV)).cell 2 rfl
            have HQ1 := Lib.hid (And.intro hn1 hl1)
            clear hE2 hn1 hl1
            refine hK.out _ _ hE3 ?_
            clear hK K
            try simp only [Act.put, List.setIfInBounds_toArray, List.set_cons_zero, List.set_cons_succ]
            refine wpAnyE_one (i := 10) (by kernel_rfl) (by simp only [List.getElem?_toArray, List.getElem?_cons_succ, List.getElem?_cons_zero]; rfl) (fun K hK => ?_)
            go_simp
            refine (l_back HQ1.out.2 HQ1.out.1 (by have h1 := HL1.out; have h2 := HQ1.out.1; omega)).mono ?_
            rintro en t5 ⟨qB1, qm1, qd1, rfl, hk1, hE2⟩
            have hE3 := hE2
            clear q7 q8
            replace hE := below_on hE hE2
            have q7 : ∀ V, Ext t5 V → V.cell? ⟨b, 1, none⟩ = some (.slice v.B v.k v.d) := fun V hV => (HJd9.out.bx.below (below_on hE hV)).cell 1 rfl
            have q8 : ∀ V, Ext t5 V → V.cell? ⟨b, 2, none⟩ = some (.slice v.C v.r v.e) := fun V hV => (HJd9.out.bx.below (below_on hE hV)).cell 2 rfl
            have HK1 := Lib.hid hk1
            clear hE2 hk1 HQ1
            refine hK.out _ _ hE3 ?_
            clear hK K
            try simp only [Act.put, List.setIfInBounds_toArray, List.set_cons_zero, List.set_cons_succ]
            refine wpAnyE_one (i := 13) (by kernel_rfl) (by simp only [List.getElem?_toArray, List.getElem?_cons_succ, List.getElem?_cons_zero]; rfl) (fun K hK => ?_)
            go_simp
            refine (r_same HK1.out (HJd9.out.r.u.below hE) (by rw [HK1.out.1]; have := HL1.out; omega)).mono ?_
            rintro en t6 ⟨rfl, hE2⟩
            have hE3 := hE2
            clear q7 q8
            replace hE := below_on hE hE2
            have q7 : ∀ V, Ext t6 V → V.cell? ⟨b, 1, none⟩ = some (.slice v.B v.k v.d) := fun V hV => (HJd9.out.bx.below (below_on hE hV)).cell 1 rfl
            have q8 : ∀ V, Ext t6 V → V.cell? ⟨b, 2, none⟩ = some (.slice v.C v.r v.e) := fun V hV => (HJd9.out.bx.below (below_on hE hV)).cell 2 rfl
            clear hE2 HK1
            refine hK.out _ _ hE3 ?_
            clear hK K
            try simp only [Act.put, List.setIfInBounds_toArray, List.set_cons_zero, List.set_cons_succ]
            (refine takeE Ext.tr 14 (by simp only [List.getElem?_toArray, List.getElem?_cons_succ, List.getElem?_cons_zero]; rfl) (by kernel_rfl) (by kernel_rfl) (by kernel_rfl) (by exact fun _ _ _ h => h) (by first | (refine Or.inl ⟨by rfl, ?_⟩; intro W hW; go_simp; try with_reducible rfl) | exact Or.inr ⟨by rfl, rfl⟩) ?_; try simp only [Act.put, List.setIfInBounds_toArray, List.set_cons_zero, List.set_cons_succ])
            (refine takeE Ext.tr 15 (by simp only [List.getElem?_toArray, List.getElem?_cons_succ, List.getElem?_cons_zero]; rfl) (by kernel_rfl) (by kernel_rfl) (by kernel_rfl) (by exact fun _ _ _ h => h) (by first | (refine Or.inl ⟨by rfl, ?_⟩; intro W hW; go_simp; try with_reducible rfl) | exact Or.inr ⟨by rfl, rfl⟩) ?_; try simp only [Act.put, List.setIfInBounds_toArray, List.set_cons_zero, List.set_cons_succ])
            (refine takeE Ext.tr 16 (by simp only [List.getElem?_toArray, List.getElem?_cons_succ, List.getElem?_cons_zero]; rfl) (by kernel_rfl) (by kernel_rfl) (by kernel_rfl) (by exact fun _ _ _ h => h) (by first | (refine Or.inl ⟨by rfl, ?_⟩; intro W hW; go_simp; try with_reducible rfl) | exact Or.inr ⟨by rfl, rfl⟩) ?_; try simp only [Act.put, List.setIfInBounds_toArray, List.set_cons_zero, List.set_cons_succ])
            (refine takeE Ext.tr 17 (by simp only [List.getElem?_toArray, List.getElem?_cons_succ, List.getElem?_cons_zero]; rfl) (by kernel_rfl) (by kernel_rfl) (by kernel_rfl) (by exact fun _ _ _ h => h) (by first | (refine Or.inl ⟨by rfl, ?_⟩; intro W hW; go_simp; try with_reducible rfl) | exact Or.inr ⟨by rfl, rfl⟩) ?_; try simp only [Act.put, List.setIfInBounds_toArray, List.set_cons_zero, List.set_cons_succ])
            refine wpAnyE_one (i := 18) (by kernel_rfl) (by simp only [List.getElem?_toArray, List.getElem?_cons_succ, List.getElem?_cons_zero]; rfl) (fun K hK => ?_)
            go_simp
            refine (p_qs (HJd9.out.q.below hE) 2 (q := []) rfl).mono ?_
            rintro en t7 ⟨qA2, qn2, qc2, rfl, hn2, hl2, hE2⟩
            have hE3 := hE2
            clear q7 q8
            replace hE := below_on hE hE2
            have q7 : ∀ V, Ext t7 V → V.cell? ⟨b, 1, none⟩ = some (.slice v.B v.k v.d) := fun V hV => (HJd9.out.bx.below (below_on hE hV)).cell 1 rfl
            have q8 : ∀ V, Ext t7 V → V.cell? ⟨b, 2, none⟩ = some (.slice v.C v.r v.e) := fun V hV => (HJd9.out.bx.below (below_on hE hV)).cell 2 rfl
            obtain rfl : qn2 = 0 := hn2
            clear hE2
            refine hK.out _ _ hE3 ?_
            clear hK K
            try simp only [Act.put, List.setIfInBounds_toArray, List.set_cons_zero, List.set_cons_succ]
            (refine takeE Ext.tr 19 (by simp only [List.getElem?_toArray, List.getElem?_cons_succ, List.getElem?_cons_zero]; rfl) (by kernel_rfl) (by kernel_rfl) (by kernel_rfl) (by exact fun _ _ _ h => h) (by first | (refine Or.inl ⟨by rfl, ?_⟩; intro W hW; go_simp; try with_reducible rfl) | exact Or.inr ⟨by rfl, rfl⟩) ?_; try simp only [Act.put, List.setIfInBounds_toArray, List.set_cons_zero, List.set_cons_succ])
            (refine takeE Ext.tr 20 (by simp only [List.getElem?_toArray, List.getElem?_cons_succ, List.getElem?_cons_zero]; rfl) (by kernel_rfl) (by kernel_rfl) (by kernel_rfl) (by exact fun _ _ _ h => h) (by first | (refine Or.inl ⟨by rfl, ?_⟩; intro W hW; go_simp; try with_reducible rfl) | exact Or.inr ⟨by rfl, rfl⟩) ?_; try simp only [Act.put, List.setIfInBounds_toArray, List.set_cons_zero, List.set_cons_succ])
            (refine takeE Ext.tr 21 (by simp only [List.getElem?_toArray, List.getElem?_cons_succ, List.getElem?_cons_zero]; rfl) (by kernel_rfl) (by kernel_rfl) (by kernel_rfl) (by exact fun _ _ _ h => h) (by first | (refine Or.inl ⟨by rfl, ?_⟩; intro W hW; go_simp; try with_reducible rfl) | exact Or.inr ⟨by rfl, rfl⟩) ?_; try simp only [Act.put, List.setIfInBounds_toArray, List.set_cons_zero, List.set_cons_succ])
            refine wpAnyE_done (by kernel_rfl) ?_ _
            clear q7 q8
            have HJX := Lib.hid (HJd9.out.next hE)
            clear hE
            go_wp2
            go_roundw
            case rel => exact ⟨i + 1, _, by go_num, by have := HLT.out; omega, rfl, pn, Fn, v, m, rfl, HJX.out, HT2.out⟩
            case measure => have := HLT.out; simp [intOf]; omega
          ·
            go_simp
            have hya : Below wd.heap.size wd (wd.alloc (.cells #[.int .i64 zKn.k.s, .int .i64 zKn.k.c, .int .i64 zKn.g, .int .i64 zKn.p, .int .i64 zKn.i] 50)) := (Below.refl _ _).alloc (Nat.le_refl _) _
            have HY := Lib.hid (And.intro hya (Bk.new wd 50 zKn.cl))
            clear hya
            refine hK.out _ _ (HY.out.1.mono hsd) ?_
            clear hK K
            try simp only [Act.put, List.setIfInBounds_toArray, List.set_cons_zero, List.set_cons_succ]
            refine wpAnyE_one (i := 6) (by kernel_rfl) (by simp only [List.getElem?_toArray, List.getElem?_cons_succ, List.getElem?_cons_zero]; rfl) (fun K hK => ?_)
            go_simp
            refine (r_of (HJ7.out.r.below (HBd.out.trans (HY.out.1.mono HBd.out.size))) (by rw [HJ7.out.r.l.1]; have := HJ7.out.ok.ll; have := HJ7.out.ok.mo; omega) ov.k).mono ?_
            rintro en w10 ⟨rfl, hb10⟩
            have HB10 := Lib.hid hb10
            clear hb10
            refine hK.out _ _ (HB10.out.mono (Nat.le_trans hsd HY.out.1.size)) ?_
            clear hK K
            try simp only [Act.put, List.setIfInBounds_toArray, List.set_cons_zero, List.set_cons_succ]
            refine wpAnyE_one (i := 8) (by kernel_rfl) (by simp only [List.getElem?_toArray, List.getElem?_cons_succ, List.getElem?_cons_zero]; rfl) (fun K hK => ?_)
            refine opwp_store_bk rowN rfl (.tmp 14) (.tmp 93) rfl wd.heap.size 0 rfl (HY.out.2.below HB10.out) (ofKey (m).L ov.k).cl rfl rfl (by decide) (ofKey (m).L ov.k).cl_one ?_
            intro w11 hz11 hw11
            rw [lay_all _ _ (by rfl)] at hz11
            have h10 : Below w7.heap.size wd w10 := HY.out.1.mono hsd |>.trans (HB10.out.mono (Nat.le_trans hsd HY.out.1.size))
            have hE11 : Below w7.heap.size w10 w11 := (Below.refl w7.heap.size w10).trans ((st_wr hw11).below (Nat.le_trans hsd (Nat.le_trans HY.out.1.size HB10.out.size)) fun j e => by omega)
            have HX := Lib.hid (And.intro (HJ7.out.next (HBd.out.trans (h10.trans hE11))) hz11)
            clear hz11 hw11 h10
            refine hK.out _ _ hE11 ?_
            clear hK K
            try simp only [Act.put, List.setIfInBounds_toArray, List.set_cons_zero, List.set_cons_succ]
            refine wpAnyE_done (by kernel_rfl) ?_ _
            generalize wd.heap.size = gx at *
            clear hkr hsd HJ7 HB10 HY
            go_wp2_with fail
            refine wp_region_E Ext (by kernel_rfl) (fun wd hbd hsz => ?_)
            have HXd := Lib.hid (And.intro (HX.out.1.next hbd) (HX.out.2.below hbd))
            have hE : Below wd.heap.size wd wd := Below.refl _ _
            have q1 : ∀ V, Ext wd V → V.cell? ⟨go_, oo + i * 5 + 1, none⟩ = some (.int .i64 ov.k.s) := fun V hV => range_belowB HOR.out.1 HOR.out.2.1 (below_on HXd.out.1.bel (below_on hE hV)) 1 _ rfl
            have q2 : ∀ V, Ext wd V → V.cell? ⟨go_, oo + i * 5 + 2, none⟩ = some (.int .i64 ov.k.c) := fun V hV => range_belowB HOR.out.1 HOR.out.2.1 (below_on HXd.out.1.bel (below_on hE hV)) 2 _ rfl
            have q3 : ∀ V, Ext wd V → V.cell? ⟨gx, 3, none⟩ = some (.int .i64 (ofKey (m).L ov.k).p) := fun V hV => (HXd.out.2.below (below_on hE hV)).cell 3 rfl
            have q4 : ∀ V, Ext wd V → V.cell? ⟨gx, 4, none⟩ = some (.int .i64 (ofKey (m).L ov.k).i) := fun V hV => (HXd.out.2.below (below_on hE hV)).cell 4 rfl
            have q5 : ∀ V, Ext wd V → V.cell? ⟨b, 5, none⟩ = some (.int .i64 (m).total) := fun V hV => (HXd.out.1.bx.below (below_on hE hV)).cell 5 rfl
            have q6 : ∀ V, Ext wd V → V.cell? ⟨b, 0, none⟩ = some (.slice v.A v.n v.c) := fun V hV => (HXd.out.1.bx.below (below_on hE hV)).cell 0 rfl
            have hln : (((m).L.length : Int) != (v.n : Int)) = false := by have := HX.out.1.r.l.1; simp; omega
            have HBD := Lib.hid hbd
            clear hsz
            (refine takeE Ext.tr 0 (by simp only [List.getElem?_toArray, List.getElem?_cons_succ, List.getElem?_cons_zero]; rfl) (by kernel_rfl) (by kernel_rfl) (by kernel_rfl) (by exact fun _ _ _ h => h) (by first | (refine Or.inl ⟨by rfl, ?_⟩; intro W hW; go_simp; try with_reducible rfl) | exact Or.inr ⟨by rfl, rfl⟩) ?_; try simp only [Act.put, List.setIfInBounds_toArray, List.set_cons_zero, List.set_cons_succ])
            (refine takeE Ext.tr 1 (by simp only [List.getElem?_toArray, List.getElem?_cons_succ, List.getElem?_cons_zero]; rfl) (by kernel_rfl) (by kernel_rfl) (by kernel_rfl) (by exact fun _ _ _ h => h) (by first | (refine Or.inl ⟨by rfl, ?_⟩; intro W hW; go_simp; try with_reducible rfl) | exact Or.inr ⟨by rfl, rfl⟩) ?_; try simp only [Act.put, List.setIfInBounds_toArray, List.set_cons_zero, List.set_cons_succ])
            (refine takeE Ext.tr 2 (by simp only [List.getElem?_toArray, List.getElem?_cons_succ, List.getElem?_cons_zero]; rfl) (by kernel_rfl) (by kernel_rfl) (by kernel_rfl) (by exact fun _ _ _ h => h) (by first | (refine Or.inl ⟨by rfl, ?_⟩; intro W hW; go_simp; try with_reducible rfl) | exact Or.inr ⟨by rfl, rfl⟩) ?_; try simp only [Act.put, List.setIfInBounds_toArray, List.set_cons_zero, List.set_cons_succ])
            (refine takeE Ext.tr 3 (by simp only [List.getElem?_toArray, List.getElem?_cons_succ, List.getElem?_cons_zero]; rfl) (by kernel_rfl) (by kernel_rfl) (by kernel_rfl) (by exact fun _ _ _ h => h) (by first | (refine Or.inl ⟨by rfl, ?_⟩; intro W hW; go_simp; try with_reducible rfl) | exact Or.inr ⟨by rfl, rfl⟩) ?_; try simp only [Act.put, List.setIfInBounds_toArray, List.set_cons_zero, List.set_cons_succ])
            (refine takeE Ext.tr 4 (by simp only [List.getElem?_toArray, List.getElem?_cons_succ, List.getElem?_cons_zero]; rfl) (by kernel_rfl) (by kernel_rfl) (by kernel_rfl) (by exact fun _ _ _ h => h) (by first | (refine Or.inl ⟨by rfl, ?_⟩; intro W hW; go_simp; try with_reducible rfl) | exact Or.inr ⟨by rfl, rfl⟩) ?_; try simp only [Act.put, List.setIfInBounds_toArray, List.set_cons_zero, List.set_cons_succ])
            (refine takeE Ext.tr 5 (by simp only [List.getElem?_toArray, List.getElem?_cons_succ, List.getElem?_cons_zero]; rfl) (by kernel_rfl) (by kernel_rfl) (by kernel_rfl) (by exact fun _ _ _ h => h) (by first | (refine Or.inl ⟨by rfl, ?_⟩; intro W hW; go_simp; try with_reducible rfl) | exact Or.inr ⟨by rfl, rfl⟩) ?_; try simp only [Act.put, List.setIfInBounds_toArray, List.set_cons_zero, List.set_cons_succ])
            (refine takeE Ext.tr 11 (by simp only [List.getElem?_toArray, List.getElem?_cons_succ, List.getElem?_cons_zero]; rfl) (by kernel_rfl) (by kernel_rfl) (by kernel_rfl) (by exact fun _ _ _ h => h) (by first | (refine Or.inl ⟨by rfl, ?_⟩; intro W hW; go_simp; try with_reducible rfl) | exact Or.inr ⟨by rfl, rfl⟩) ?_; try simp only [Act.put, List.setIfInBounds_toArray, List.set_cons_zero, List.set_cons_succ])
            (refine takeE Ext.tr 6 (by simp only [List.getElem?_toArray, List.getElem?_cons_succ, List.getElem?_cons_zero]; rfl) (by kernel_rfl) (by kernel_rfl) (by kernel_rfl) (by exact fun _ _ _ h => h) (by first | (refine Or.inl ⟨by rfl, ?_⟩; intro W hW; go_simp; try with_reducible rfl) | exact Or.inr ⟨by rfl, rfl⟩) ?_; try simp only [Act.put, List.setIfInBounds_toArray, List.set_cons_zero, List.set_cons_succ])
            (refine takeE Ext.tr 12 (by simp only [List.getElem?_toArray, List.getElem?_cons_succ, List.getElem?_cons_zero]; rfl) (by kernel_rfl) (by kernel_rfl) (by kernel_rfl) (by exact fun _ _ _ h => h) (by first | (refine Or.inl ⟨by rfl, ?_⟩; intro W hW; go_simp; try with_reducible rfl) | exact Or.inr ⟨by rfl, rfl⟩) ?_; try simp only [Act.put, List.setIfInBounds_toArray, List.set_cons_zero, List.set_cons_succ])
            (refine takeE Ext.tr 7 (by simp only [List.getElem?_toArray, List.getElem?_cons_succ, List.getElem?_cons_zero]; rfl) (by kernel_rfl) (by kernel_rfl) (by kernel_rfl) (by exact fun _ _ _ h => h) (by first | (refine Or.inl ⟨by rfl, ?_⟩; intro W hW; go_simp; try with_reducible rfl) | exact Or.inr ⟨by rfl, rfl⟩) ?_; try simp only [Act.put, List.setIfInBounds_toArray, List.set_cons_zero, List.set_cons_succ])
            (refine takeE Ext.tr 8 (by simp only [List.getElem?_toArray, List.getElem?_cons_succ, List.getElem?_cons_zero]; rfl) (by kernel_rfl) (by kernel_rfl) (by kernel_rfl) (by exact fun _ _ _ h => h) (by first | (refine Or.inl ⟨by rfl, ?_⟩; intro W hW; go_simp; try with_reducible rfl) | exact Or.inr ⟨by rfl, rfl⟩) ?_; try simp only [Act.put, List.setIfInBounds_toArray, List.set_cons_zero, List.set_cons_succ])
            refine wpAnyE_one (i := 9) (by kernel_rfl) (by simp only [List.getElem?_toArray, List.getElem?_cons_succ, List.getElem?_cons_zero]; rfl) (fun K hK => ?_)
            go_simp
            refine (l_of ov.k _).mono ?_
            rintro en u1 ⟨rfl, hE2⟩
            have hE3 := hE2
            clear q1 q2 q3 q4 q5 q6
            replace hE := below_on hE hE2
            have q1 : ∀ V, Ext u1 V → V.cell? ⟨go_, oo + i * 5 + 1, none⟩ = some (.int .i64 ov.k.s) := fun V hV => range_belowB HOR.out.1 HOR.out.2.1 (below_on HXd.out.1.bel (below_on hE hV)) 1 _ rfl
            have q2 : ∀ V, Ext u1 V → V.cell? ⟨go_, oo + i * 5 + 2, none⟩ = some (.int .i64 ov.k.c) := fun V hV => range_belowB HOR.out.1 HOR.out.2.1 (below_on HXd.out.1.bel (below_on hE hV)) 2 _ rfl
            have q3 : ∀ V, Ext u1 V → V.cell? ⟨gx, 3, none⟩ = some (.int .i64 (ofKey (m).L ov.k).p) := fun V hV => (HXd.out.2.below (below_on hE hV)).cell 3 rfl
            have q4 : ∀ V, Ext u1 V → V.cell? ⟨gx, 4, none⟩ = some (.int .i64 (ofKey (m).L ov.k).i) := fun V hV => (HXd.out.2.below (below_on hE hV)).cell 4 rfl
            have q5 : ∀ V, Ext u1 V → V.cell? ⟨b, 5, none⟩ = some (.int .i64 (m).total) := fun V hV => (HXd.out.1.bx.below (below_on hE hV)).cell 5 rfl
            have q6 : ∀ V, Ext u1 V → V.cell? ⟨b, 0, none⟩ = some (.slice v.A v.n v.c) := fun V hV => (HXd.out.1.bx.below (below_on hE hV)).cell 0 rfl
            clear hE2
            refine hK.out _ _ hE3 ?_
            clear hK K
            try simp only [Act.put, List.setIfInBounds_toArray, List.set_cons_zero, List.set_cons_succ]
            refine wpAnyE_one (i := 10) (by kernel_rfl) (by simp only [List.getElem?_toArray, List.getElem?_cons_succ, List.getElem?_cons_zero]; rfl) (fun K hK => ?_)
            go_simp
            refine (p_pending (HXd.out.1.q.below hE) ov.k).mono ?_
            rintro en u2 ⟨rfl, hE2⟩
            have hE3 := hE2
            clear q1 q2 q3 q4 q5 q6
            replace hE := below_on hE hE2
            have q1 : ∀ V, Ext u2 V → V.cell? ⟨go_, oo + i * 5 + 1, none⟩ = some (.int .i64 ov.k.s) := fun V hV => range_belowB HOR.out.1 HOR.out.2.1 (below_on HXd.out.1.bel (below_on hE hV)) 1 _ rfl
            have q2 : ∀ V, Ext u2 V → V.cell? ⟨go_, oo + i * 5 + 2, none⟩ = some (.int .i64 ov.k.c) := fun V hV => range_belowB HOR.out.1 HOR.out.2.1 (below_on HXd.out.1.bel (below_on hE hV)) 2 _ rfl
            have q3 : ∀ V, Ext u2 V → V.cell? ⟨gx, 3, none⟩ = some (.int .i64 (ofKey (m).L ov.k).p) := fun V hV => (HXd.out.2.below (below_on hE hV)).cell 3 rfl
            have q4 : ∀ V, Ext u2 V → V.cell? ⟨gx, 4, none⟩ = some (.int .i64 (ofKey (m).L ov.k).i) := fun V hV => (HXd.out.2.below (below_on hE hV)).cell 4 rfl
            have q5 : ∀ V, Ext u2 V → V.cell? ⟨b, 5, none⟩ = some (.int .i64 (m).total) := fun V hV => (HXd.out.1.bx.below (below_on hE hV)).cell 5 rfl
            have q6 : ∀ V, Ext u2 V → V.cell? ⟨b, 0, none⟩ = some (.slice v.A v.n v.c) := fun V hV => (HXd.out.1.bx.below (below_on hE hV)).cell 0 rfl
            clear hE2
            refine hK.out _ _ hE3 ?_
            clear hK K
            try simp only [Act.put, List.setIfInBounds_toArray, List.set_cons_zero, List.set_cons_succ]
            (refine takeE Ext.tr 13 (by simp only [List.getElem?_toArray, List.getElem?_cons_succ, List.getElem?_cons_zero]; rfl) (by kernel_rfl) (by kernel_rfl) (by kernel_rfl) (by exact fun _ _ _ h => h) (by first | (refine Or.inl ⟨by rfl, ?_⟩; intro W hW; go_simp; try with_reducible rfl) | exact Or.inr ⟨by rfl, rfl⟩) ?_; try simp only [Act.put, List.setIfInBounds_toArray, List.set_cons_zero, List.set_cons_succ])
            (refine takeE Ext.tr 14 (by simp only [List.getElem?_toArray, List.getElem?_cons_succ, List.getElem?_cons_zero]; rfl) (by kernel_rfl) (by kernel_rfl) (by kernel_rfl) (by exact fun _ _ _ h => h) (by first | (refine Or.inl ⟨by rfl, ?_⟩; intro W hW; go_simp; try with_reducible rfl) | exact Or.inr ⟨by rfl, rfl⟩) ?_; try simp only [Act.put, List.setIfInBounds_toArray, List.set_cons_zero, List.set_cons_succ])
            (refine takeE Ext.tr 15 (by simp only [List.getElem?_toArray, List.getElem?_cons_succ, List.getElem?_cons_zero]; rfl) (by kernel_rfl) (by kernel_rfl) (by kernel_rfl) (by exact fun _ _ _ h => h) (by first | (refine Or.inl ⟨by rfl, ?_⟩; intro W hW; go_simp; try with_reducible rfl) | exact Or.inr ⟨by rfl, rfl⟩) ?_; try simp only [Act.put, List.setIfInBounds_toArray, List.set_cons_zero, List.set_cons_succ])
            (refine takeE Ext.tr 16 (by simp only [List.getElem?_toArray, List.getElem?_cons_succ, List.getElem?_cons_zero]; rfl) (by kernel_rfl) (by kernel_rfl) (by kernel_rfl) (by exact fun _ _ _ h => h) (by first | (refine Or.inl ⟨by rfl, ?_⟩; intro W hW; go_simp; try with_reducible rfl) | exact Or.inr ⟨by rfl, rfl⟩) ?_; try simp only [Act.put, List.setIfInBounds_toArray, List.set_cons_zero, List.set_cons_succ])
            (refine takeE Ext.tr 17 (by simp only [List.getElem?_toArray, List.getElem?_cons_succ, List.getElem?_cons_zero]; rfl) (by kernel_rfl) (by kernel_rfl) (by kernel_rfl) (by exact fun _ _ _ h => h) (by first | (refine Or.inl ⟨by rfl, ?_⟩; intro W hW; go_simp; try with_reducible rfl) | exact Or.inr ⟨by rfl, rfl⟩) ?_; try simp only [Act.put, List.setIfInBounds_toArray, List.set_cons_zero, List.set_cons_succ])
            (refine takeE Ext.tr 18 (by simp only [List.getElem?_toArray, List.getElem?_cons_succ, List.getElem?_cons_zero]; rfl) (by kernel_rfl) (by kernel_rfl) (by kernel_rfl) (by exact fun _ _ _ h => h) (by first | (refine Or.inl ⟨by rfl, ?_⟩; intro W hW; go_simp; try with_reducible rfl) | exact Or.inr ⟨by rfl, rfl⟩) ?_; try simp only [Act.put, List.setIfInBounds_toArray, List.set_cons_zero, List.set_cons_succ])
            (refine takeE Ext.tr 24 (by simp only [List.getElem?_toArray, List.getElem?_cons_succ, List.getElem?_cons_zero]; rfl) (by kernel_rfl) (by kernel_rfl) (by kernel_rfl) (by exact fun _ _ _ h => h) (by first | (refine Or.inl ⟨by rfl, ?_⟩; intro W hW; go_simp; try with_reducible rfl) | exact Or.inr ⟨by rfl, rfl⟩) ?_; try simp only [Act.put, List.setIfInBounds_toArray, List.set_cons_zero, List.set_cons_succ])
            (refine takeE Ext.tr 19 (by simp only [List.getElem?_toArray, List.getElem?_cons_succ, List.getElem?_cons_zero]; rfl) (by kernel_rfl) (by kernel_rfl) (by kernel_rfl) (by exact fun _ _ _ h => h) (by first | (refine Or.inl ⟨by rfl, ?_⟩; intro W hW; go_simp; try with_reducible rfl) | exact Or.inr ⟨by rfl, rfl⟩) ?_; try simp only [Act.put, List.setIfInBounds_toArray, List.set_cons_zero, List.set_cons_succ])
            (refine takeE Ext.tr 25 (by simp only [List.getElem?_toArray, List.getElem?_cons_succ, List.getElem?_cons_zero]; rfl) (by kernel_rfl) (by kernel_rfl) (by kernel_rfl) (by exact fun _ _ _ h => h) (by first | (refine Or.inl ⟨by rfl, ?_⟩; intro W hW; go_simp; try with_reducible rfl) | exact Or.inr ⟨by rfl, rfl⟩) ?_; try simp only [Act.put, List.setIfInBounds_toArray, List.set_cons_zero, List.set_cons_succ])
            (refine takeE Ext.tr 20 (by simp only [List.getElem?_toArray, List.getElem?_cons_succ, List.getElem?_cons_zero]; rfl) (by kernel_rfl) (by kernel_rfl) (by kernel_rfl) (by exact fun _ _ _ h => h) (by first | (refine Or.inl ⟨by rfl, ?_⟩; intro W hW; go_simp; try with_reducible rfl) | exact Or.inr ⟨by rfl, rfl⟩) ?_; try simp only [Act.put, List.setIfInBounds_toArray, List.set_cons_zero, List.set_cons_succ])
            (refine takeE Ext.tr 21 (by simp only [List.getElem?_toArray, List.getElem?_cons_succ, List.getElem?_cons_zero]; rfl) (by kernel_rfl) (by kernel_rfl) (by kernel_rfl) (by exact fun _ _ _ h => h) (by first | (refine Or.inl ⟨by rfl, ?_⟩; intro W hW; go_simp; try with_reducible rfl) | exact Or.inr ⟨by rfl, rfl⟩) ?_; try simp only [Act.put, List.setIfInBounds_toArray, List.set_cons_zero, List.set_cons_succ])
            refine wpAnyE_one (i := 22) (by kernel_rfl) (by simp only [List.getElem?_toArray, List.getElem?_cons_succ, List.getElem?_cons_zero]; rfl) (fun K hK => ?_)
            go_simp
            refine (l_of ov.k _).mono ?_
            rintro en u3 ⟨rfl, hE2⟩
            have hE3 := hE2
            clear q1 q2 q3 q4 q5 q6
            replace hE := below_on hE hE2
            have q1 : ∀ V, Ext u3 V → V.cell? ⟨go_, oo + i * 5 + 1, none⟩ = some (.int .i64 ov.k.s) := fun V hV => range_belowB HOR.out.1 HOR.out.2.1 (below_on HXd.out.1.bel (below_on hE hV)) 1 _ rfl
            have q2 : ∀ V, Ext u3 V → V.cell? ⟨go_, oo + i * 5 + 2, none⟩ = some (.int .i64 ov.k.c) := fun V hV => range_belowB HOR.out.1 HOR.out.2.1 (below_on HXd.out.1.bel (below_on hE hV)) 2 _ rfl
            have q3 : ∀ V, Ext u3 V → V.cell? ⟨gx, 3, none⟩ = some (.int .i64 (ofKey (m).L ov.k).p) := fun V hV => (HXd.out.2.below (below_on hE hV)).cell 3 rfl
            have q4 : ∀ V, Ext u3 V → V.cell? ⟨gx, 4, none⟩ = some (.int .i64 (ofKey (m).L ov.k).i) := fun V hV => (HXd.out.2.below (below_on hE hV)).cell 4 rfl
            have q5 : ∀ V, Ext u3 V → V.cell? ⟨b, 5, none⟩ = some (.int .i64 (m).total) := fun V hV => (HXd.out.1.bx.below (below_on hE hV)).cell 5 rfl
            have q6 : ∀ V, Ext u3 V → V.cell? ⟨b, 0, none⟩ = some (.slice v.A v.n v.c) := fun V hV => (HXd.out.1.bx.below (below_on hE hV)).cell 0 rfl
            clear hE2
            refine hK.out _ _ hE3 ?_
            clear hK K
            try simp only [Act.put, List.setIfInBounds_toArray, List.set_cons_zero, List.set_cons_succ]
            refine wpAnyE_one (i := 23) (by kernel_rfl) (by simp only [List.getElem?_toArray, List.getElem?_cons_succ, List.getElem?_cons_zero]; rfl) (fun K hK => ?_)
            go_simp
            refine (p_issued (HXd.out.1.q.below hE) ov.k).mono ?_
            rintro en u4 ⟨rfl, hE2⟩
            have hE3 := hE2
            clear q1 q2 q3 q4 q5 q6
            replace hE := below_on hE hE2
            have q1 : ∀ V, Ext u4 V → V.cell? ⟨go_, oo + i * 5 + 1, none⟩ = some (.int .i64 ov.k.s) := fun V hV => range_belowB HOR.out.1 HOR.out.2.1 (below_on HXd.out.1.bel (below_on hE hV)) 1 _ rfl
            have q2 : ∀ V, Ext u4 V → V.cell? ⟨go_, oo + i * 5 + 2, none⟩ = some (.int .i64 ov.k.c) := fun V hV => range_belowB HOR.out.1 HOR.out.2.1 (below_on HXd.out.1.bel (below_on hE hV)) 2 _ rfl
            have q3 : ∀ V, Ext u4 V → V.cell? ⟨gx, 3, none⟩ = some (.int .i64 (ofKey (m).L ov.k).p) := fun V hV => (HXd.out.2.below (below_on hE hV)).cell 3 rfl
            have q4 : ∀ V, Ext u4 V → V.cell? ⟨gx, 4, none⟩ = some (.int .i64 (ofKey (m).L ov.k).i) := fun V hV => (HXd.out.2.below (below_on hE hV)).cell 4 rfl
            have q5 : ∀ V, Ext u4 V → V.cell? ⟨b, 5, none⟩ = some (.int .i64 (m).total) := fun V hV => (HXd.out.1.bx.below (below_on hE hV)).cell 5 rfl
            have q6 : ∀ V, Ext u4 V → V.cell? ⟨b, 0, none⟩ = some (.slice v.A v.n v.c) := fun V hV => (HXd.out.1.bx.below (below_on hE hV)).cell 0 rfl
            clear hE2
            refine hK.out _ _ hE3 ?_
            clear hK K
            try simp only [Act.put, List.setIfInBounds_toArray, List.set_cons_zero, List.set_cons_succ]
            (refine takeE Ext.tr 26 (by simp only [List.getElem?_toArray, List.getElem?_cons_succ, List.getElem?_cons_zero]; rfl) (by kernel_rfl) (by kernel_rfl) (by kernel_rfl) (by exact fun _ _ _ h => h) (by first | (refine Or.inl ⟨by rfl, ?_⟩; intro W hW; go_simp; try with_reducible rfl) | exact Or.inr ⟨by rfl, rfl⟩) ?_; try simp only [Act.put, List.setIfInBounds_toArray, List.set_cons_zero, List.set_cons_succ])
            (refine takeE Ext.tr 27 (by simp only [List.getElem?_toArray, List.getElem?_cons_succ, List.getElem?_cons_zero]; rfl) (by kernel_rfl) (by kernel_rfl) (by kernel_rfl) (by exact fun _ _ _ h => h) (by first | (refine Or.inl ⟨by rfl, ?_⟩; intro W hW; go_simp; try with_reducible rfl) | exact Or.inr ⟨by rfl, rfl⟩) ?_; try simp only [Act.put, List.setIfInBounds_toArray, List.set_cons_zero, List.set_cons_succ])
            (refine takeE Ext.tr 28 (by simp only [List.getElem?_toArray, List.getElem?_cons_succ, List.getElem?_cons_zero]; rfl) (by kernel_rfl) (by kernel_rfl) (by kernel_rfl) (by exact fun _ _ _ h => h) (by first | (refine Or.inl ⟨by rfl, ?_⟩; intro W hW; go_simp; try with_reducible rfl) | exact Or.inr ⟨by rfl, rfl⟩) ?_; try simp only [Act.put, List.setIfInBounds_toArray, List.set_cons_zero, List.set_cons_succ])
            (refine takeE Ext.tr 29 (by simp only [List.getElem?_toArray, List.getElem?_cons_succ, List.getElem?_cons_zero]; rfl) (by kernel_rfl) (by kernel_rfl) (by kernel_rfl) (by exact fun _ _ _ h => h) (by first | (refine Or.inl ⟨by rfl, ?_⟩; intro W hW; go_simp; try with_reducible rfl) | exact Or.inr ⟨by rfl, rfl⟩) ?_; try simp only [Act.put, List.setIfInBounds_toArray, List.set_cons_zero, List.set_cons_succ])
            (refine takeE Ext.tr 31 (by simp only [List.getElem?_toArray, List.getElem?_cons_succ, List.getElem?_cons_zero]; rfl) (by kernel_rfl) (by kernel_rfl) (by kernel_rfl) (by exact fun _ _ _ h => h) (by first | (refine Or.inl ⟨by rfl, ?_⟩; intro W hW; go_simp; try with_reducible rfl) | exact Or.inr ⟨by rfl, rfl⟩) ?_; try simp only [Act.put, List.setIfInBounds_toArray, List.set_cons_zero, List.set_cons_succ])
            (refine takeE Ext.tr 32 (by simp only [List.getElem?_toArray, List.getElem?_cons_succ, List.getElem?_cons_zero]; rfl) (by kernel_rfl) (by kernel_rfl) (by kernel_rfl) (by exact fun _ _ _ h => h) (by first | (refine Or.inl ⟨by rfl, ?_⟩; intro W hW; go_simp; try with_reducible rfl) | exact Or.inr ⟨by rfl, rfl⟩) ?_; try simp only [Act.put, List.setIfInBounds_toArray, List.set_cons_zero, List.set_cons_succ])
            refine wpAnyE_one (i := 30) (by kernel_rfl) (by simp only [List.getElem?_toArray, List.getElem?_cons_succ, List.getElem?_cons_zero]; rfl) (fun K hK => ?_)
            go_simp
            refine (p_total (HXd.out.1.q.below hE)).mono ?_
            rintro en v1 ⟨rfl, rfl⟩
            refine hK.out _ _ (Ext.refl _) ?_
            clear hK K
            try simp only [Act.put, List.setIfInBounds_toArray, List.set_cons_zero, List.set_cons_succ]
            (refine takeE Ext.tr 33 (by simp only [List.getElem?_toArray, List.getElem?_cons_succ, List.getElem?_cons_zero]; rfl) (by kernel_rfl) (by kernel_rfl) (by kernel_rfl) (by exact fun _ _ _ h => h) (by first | (refine Or.inl ⟨by rfl, ?_⟩; intro W hW; go_simp; try with_reducible rfl) | exact Or.inr ⟨by rfl, rfl⟩) ?_; try simp only [Act.put, List.setIfInBounds_toArray, List.set_cons_zero, List.set_cons_succ])
            (refine takeE Ext.tr 34 (by simp only [List.getElem?_toArray, List.getElem?_cons_succ, List.getElem?_cons_zero]; rfl) (by kernel_rfl) (by kernel_rfl) (by kernel_rfl) (by exact fun _ _ _ h => h) (by first | (refine Or.inl ⟨by rfl, ?_⟩; intro W hW; go_simp; try with_reducible rfl) | exact Or.inr ⟨by rfl, rfl⟩) ?_; try simp only [Act.put, List.setIfInBounds_toArray, List.set_cons_zero, List.set_cons_succ])
            (refine takeE Ext.tr 35 (by simp only [List.getElem?_toArray, List.getElem?_cons_succ, List.getElem?_cons_zero]; rfl) (by kernel_rfl) (by kernel_rfl) (by kernel_rfl) (by exact fun _ _ _ h => h) (by first | (refine Or.inl ⟨by rfl, ?_⟩; intro W hW; go_simp; try with_reducible rfl) | exact Or.inr ⟨by rfl, rfl⟩) ?_; try simp only [Act.put, List.setIfInBounds_toArray, List.set_cons_zero, List.set_cons_succ])
            (refine takeE Ext.tr 36 (by simp only [List.getElem?_toArray, List.getElem?_cons_succ, List.getElem?_cons_zero]; rfl) (by kernel_rfl) (by kernel_rfl) (by kernel_rfl) (by exact fun _ _ _ h => h) (by first | (refine Or.inl ⟨by rfl, ?_⟩; intro W hW; go_simp; try with_reducible rfl) | exact Or.inr ⟨by rfl, rfl⟩) ?_; try simp only [Act.put, List.setIfInBounds_toArray, List.set_cons_zero, List.set_cons_succ])
            (refine takeE Ext.tr 38 (by simp only [List.getElem?_toArray, List.getElem?_cons_succ, List.getElem?_cons_zero]; rfl) (by kernel_rfl) (by kernel_rfl) (by kernel_rfl) (by exact fun _ _ _ h => h) (by first | (refine Or.inl ⟨by rfl, ?_⟩; intro W hW; go_simp; try with_reducible rfl) | exact Or.inr ⟨by rfl, rfl⟩) ?_; try simp only [Act.put, List.setIfInBounds_toArray, List.set_cons_zero, List.set_cons_succ])
            (refine takeE Ext.tr 39 (by simp only [List.getElem?_toArray, List.getElem?_cons_succ, List.getElem?_cons_zero]; rfl) (by kernel_rfl) (by kernel_rfl) (by kernel_rfl) (by exact fun _ _ _ h => h) (by first | (refine Or.inl ⟨by rfl, ?_⟩; intro W hW; go_simp; try with_reducible rfl) | exact Or.inr ⟨by rfl, rfl⟩) ?_; try simp only [Act.put, List.setIfInBounds_toArray, List.set_cons_zero, List.set_cons_succ])
            (refine takeE Ext.tr 40 (by simp only [List.getElem?_toArray, List.getElem?_cons_succ, List.getElem?_cons_zero]; rfl) (by kernel_rfl) (by kernel_rfl) (by kernel_rfl) (by exact fun _ _ _ h => h) (by first | (refine Or.inl ⟨by rfl, ?_⟩; intro W hW; go_simp; try with_reducible rfl) | exact Or.inr ⟨by rfl, rfl⟩) ?_; try simp only [Act.put, List.setIfInBounds_toArray, List.set_cons_zero, List.set_cons_succ])
            refine wpAnyE_one (i := 37) (by kernel_rfl) (by simp only [List.getElem?_toArray, List.getElem?_cons_succ, List.getElem?_cons_zero]; rfl) (fun K hK => ?_)
            go_simp
            refine (p_len (HXd.out.1.q.below hE)).mono ?_
            rintro en v1 ⟨rfl, rfl⟩
            refine hK.out _ _ (Ext.refl _) ?_
            clear hK K
            try simp only [Act.put, List.setIfInBounds_toArray, List.set_cons_zero, List.set_cons_succ]
            (refine takeE Ext.tr 41 (by simp only [List.getElem?_toArray, List.getElem?_cons_succ, List.getElem?_cons_zero]; rfl) (by kernel_rfl) (by kernel_rfl) (by kernel_rfl) (by exact fun _ _ _ h => h) (by first | (refine Or.inl ⟨by rfl, ?_⟩; intro W hW; go_simp; try with_reducible rfl) | exact Or.inr ⟨by rfl, rfl⟩) ?_; try simp only [Act.put, List.setIfInBounds_toArray, List.set_cons_zero, List.set_cons_succ])
            (refine takeE Ext.tr 42 (by simp only [List.getElem?_toArray, List.getElem?_cons_succ, List.getElem?_cons_zero]; rfl) (by kernel_rfl) (by kernel_rfl) (by kernel_rfl) (by exact fun _ _ _ h => h) (by first | (refine Or.inl ⟨by rfl, ?_⟩; intro W hW; go_simp; try with_reducible rfl) | exact Or.inr ⟨by rfl, rfl⟩) ?_; try simp only [Act.put, List.setIfInBounds_toArray, List.set_cons_zero, List.set_cons_succ])
            refine wpAnyE_done (by kernel_rfl) ?_ _
            clear q1 q2 q3 q4 q5 q6 hln
            have HJ9 := Lib.hid (HXd.out.1.next hE)
            clear hE HX
            go_wp2_with fail
            refine wp_region_E Ext (by kernel_rfl) (fun wd hbd hsz => ?_)
            have HJd9 := Lib.hid (HJ9.out.next hbd)
            have hE : Below wd.heap.size wd wd := Below.refl _ _
            have HL0 := Lib.hid HJ9.out.ok.len0
            have HL1 := Lib.hid HJ9.out.ok.len1
            have q7 : ∀ V, Ext wd V → V.cell? ⟨b, 1, none⟩ = some (.slice v.B v.k v.d) := fun V hV => (HJd9.out.bx.below (below_on hE hV)).cell 1 rfl
            have q8 : ∀ V, Ext wd V → V.cell? ⟨b, 2, none⟩ = some (.slice v.C v.r v.e) := fun V hV => (HJd9.out.bx.below (below_on hE hV)).cell 2 rfl
            clear hsz
            (refine takeE Ext.tr 0 (by simp only [List.getElem?_toArray, List.getElem?_cons_succ, List.getElem?_cons_zero]; rfl) (by kernel_rfl) (by kernel_rfl) (by kernel_rfl) (by exact fun _ _ _ h => h) (by first | (refine Or.inl ⟨by rfl, ?_⟩; intro W hW; go_simp; try with_reducible rfl) | exact Or.inr ⟨by rfl, rfl⟩) ?_; try simp only [Act.put, List.setIfInBounds_toArray, List.set_cons_zero, List.set_cons_succ])
            (refine takeE Ext.tr 3 (by simp only [List.getElem?_toArray, List.getElem?_cons_succ, List.getElem?_cons_zero]; rfl) (by kernel_rfl) (by kernel_rfl) (by kernel_rfl) (by exact fun _ _ _ h => h) (by first | (refine Or.inl ⟨by rfl, ?_⟩; intro W hW; go_simp; try with_reducible rfl) | exact Or.inr ⟨by rfl, rfl⟩) ?_; try simp only [Act.put, List.setIfInBounds_toArray, List.set_cons_zero, List.set_cons_succ])
            (refine takeE Ext.tr 4 (by simp only [List.getElem?_toArray, List.getElem?_cons_succ, List.getElem?_cons_zero]; rfl) (by kernel_rfl) (by kernel_rfl) (by kernel_rfl) (by exact fun _ _ _ h => h) (by first | (refine Or.inl ⟨by rfl, ?_⟩; intro W hW; go_simp; try with_reducible rfl) | exact Or.inr ⟨by rfl, rfl⟩) ?_; try simp only [Act.put, List.setIfInBounds_toArray, List.set_cons_zero, List.set_cons_succ])
            refine wpAnyE_one (i := 1) (by kernel_rfl) (by simp only [List.getElem?_toArray, List.getElem?_cons_succ, List.getElem?_cons_zero]; rfl) (fun K hK => ?_)
            go_simp
            refine (p_qs (HJd9.out.q.below hE) 0 (q := (m).q0) rfl).mono ?_
            rintro en t1 ⟨qA0, qn0, qc0, rfl, hn0, hl0, hE2⟩
            have hE3 := hE2
            clear q7 q8
            replace hE := below_on hE hE2
            have q7 : ∀ V, Ext t1 V → V.cell? ⟨b, 1, none⟩ = some (.slice v.B v.k v.d) := fun V hV => (HJd9.out.bx.below (below_on hE hV)).cell 1 rfl
            have q8 : ∀ V, Ext t1 V → V.cell? ⟨b, 2, none⟩ = some (.slice v.C v.r v.e) := fun V hV => (HJd9.out.bx.below (below_on hE hV)).cell 2 rfl
            have HQ0 := Lib.hid (And.intro hn0 hl0)
            clear hE2 hn0 hl0
            refine hK.out _ _ hE3 ?_
            clear hK K
            try simp only [Act.put, List.setIfInBounds_toArray, List.set_cons_zero, List.set_cons_succ]
            refine wpAnyE_one (i := 2) (by kernel_rfl) (by simp only [List.getElem?_toArray, List.getElem?_cons_succ, List.getElem?_cons_zero]; rfl) (fun K hK => ?_)
            go_simp
            refine (l_back HQ0.out.2 HQ0.out.1 (by have h1 := HL0.out; have h2 := HQ0.out.1; omega)).mono ?_
            rintro en t2 ⟨qB0, qm0, qd0, rfl, hk0, hE2⟩
            have hE3 := hE2
            clear q7 q8
            replace hE := below_on hE hE2
            have q7 : ∀ V, Ext t2 V → V.cell? ⟨b, 1, none⟩ = some (.slice v.B v.k v.d) := fun V hV => (HJd9.out.bx.below (below_on hE hV)).cell 1 rfl
            have q8 : ∀ V, Ext t2 V → V.cell? ⟨b, 2, none⟩ = some (.slice v.C v.r v.e) := fun V hV => (HJd9.out.bx.below (below_on hE hV)).cell 2 rfl
            have HK0 := Lib.hid hk0
            clear hE2 hk0 HQ0
            refine hK.out _ _ hE3 ?_
            clear hK K
            try simp only [Act.put, List.setIfInBounds_toArray, List.set_cons_zero, List.set_cons_succ]
            refine wpAnyE_one (i := 5) (by kernel_rfl) (by simp only [List.getElem?_toArray, List.getElem?_cons_succ, List.getElem?_cons_zero]; rfl) (fun K hK => ?_)
            go_simp
            refine (r_same HK0.out (HJd9.out.r.p.below hE) (by rw [HK0.out.1]; have := HL0.out; omega)).mono ?_
            rintro en t3 ⟨rfl, hE2⟩
            have hE3 := hE2
            clear q7 q8
            replace hE := below_on hE hE2
            have q7 : ∀ V, Ext t3 V → V.cell? ⟨b, 1, none⟩ = some (.slice v.B v.k v.d) := fun V hV => (HJd9.out.bx.below (below_on hE hV)).cell 1 rfl
            have q8 : ∀ V, Ext t3 V → V.cell? ⟨b, 2, none⟩ = some (.slice v.C v.r v.e) := fun V hV => (HJd9.out.bx.below (below_on hE hV)).cell 2 rfl
            clear hE2 HK0
            refine hK.out _ _ hE3 ?_
            clear hK K
            try simp only [Act.put, List.setIfInBounds_toArray, List.set_cons_zero, List.set_cons_succ]
            (refine takeE Ext.tr 6 (by simp only [List.getElem?_toArray, List.getElem?_cons_succ, List.getElem?_cons_zero]; rfl) (by kernel_rfl) (by kernel_rfl) (by kernel_rfl) (by exact fun _ _ _ h => h) (by first | (refine Or.inl ⟨by rfl, ?_⟩; intro W hW; go_simp; try with_reducible rfl) | exact Or.inr ⟨by rfl, rfl⟩) ?_; try simp only [Act.put, List.setIfInBounds_toArray, List.set_cons_zero, List.set_cons_succ])
            (refine takeE Ext.tr 7 (by simp only [List.getElem?_toArray, List.getElem?_cons_succ, List.getElem?_cons_zero]; rfl) (by kernel_rfl) (by kernel_rfl) (by kernel_rfl) (by exact fun _ _ _ h => h) (by first | (refine Or.inl ⟨by rfl, ?_⟩; intro W hW; go_simp; try with_reducible rfl) | exact Or.inr ⟨by rfl, rfl⟩) ?_; try simp only [Act.put, List.setIfInBounds_toArray, List.set_cons_zero, List.set_cons_succ])
            (refine takeE Ext.tr 8 (by simp only [List.getElem?_toArray, List.getElem?_cons_succ, List.getElem?_cons_zero]; rfl) (by kernel_rfl) (by kernel_rfl) (by kernel_rfl) (by exact fun _ _ _ h => h) (by first | (refine Or.inl ⟨by rfl, ?_⟩; intro W hW; go_simp; try with_reducible rfl) | exact Or.inr ⟨by rfl, rfl⟩) ?_; try simp only [Act.put, List.setIfInBounds_toArray, List.set_cons_zero, List.set_cons_succ])
            (refine takeE Ext.tr 11 (by simp only [List.getElem?_toArray, List.getElem?_cons_succ, List.getElem?_cons_zero]; rfl) (by kernel_rfl) (by kernel_rfl) (by kernel_rfl) (by exact fun _ _ _ h => h) (by first | (refine Or.inl ⟨by rfl, ?_⟩; intro W hW; go_simp; try with_reducible rfl) | exact Or.inr ⟨by rfl, rfl⟩) ?_; try simp only [Act.put, List.setIfInBounds_toArray, List.set_cons_zero, List.set_cons_succ])
            (refine takeE Ext.tr 12 (by simp only [List.getElem?_toArray, List.getElem?_cons_succ, List.getElem?_cons_zero]; rfl) (by kernel_rfl) (by kernel_rfl) (by kernel_rfl) (by exact fun _ _ _ h => h) (by first | (refine Or.inl ⟨by rfl, ?_⟩; intro W hW; go_simp; try with_reducible rfl) | exact Or.inr ⟨by rfl, rfl⟩) ?_; try simp only [Act.put, List.setIfInBounds_toArray, List.set_cons_zero, List.set_cons_succ])
            refine wpAnyE_one (i := 9) (by kernel_rfl) (by simp only [List.getElem?_toArray, List.getElem?_cons_succ, List.getElem?_cons_zero]; rfl) (fun K hK => ?_)
            go_simp
            refine (p_qs (HJd9.out.q.below hE) 1 (q := (m).q1) rfl).mono ?_
            rintro en t4 ⟨qA1, qn1, qc1, rfl, hn1, hl1, hE2⟩
            have hE3 := hE2
            clear q7 q8
            replace hE := below_on hE hE2
            have q7 : ∀ V, Ext t4 V → V.cell? ⟨b, 1, none⟩ = some (.slice v.B v.k v.d) := fun V hV => (HJd9.out.bx.below (below_on hE hV)).cell 1 rfl
            have q8 : ∀ V, Ext t4 V → V.cell? ⟨b, 2, none⟩ = some (.slice v.C v.r v.e) := fun V hV => (HJd9.out.bx.below (below_on hE hV)).cell 2 rfl
            have HQ1 := Lib.hid (And.intro hn1 hl1)
            clear hE2 hn1 hl1
            refine hK.out _ _ hE3 ?_
            clear hK K
            try simp only [Act.put, List.setIfInBounds_toArray, List.set_cons_zero, List.set_cons_succ]
            refine wpAnyE_one (i := 10) (by kernel_rfl) (by simp only [List.getElem?_toArray, List.getElem?_cons_succ, List.getElem?_cons_zero]; rfl) (fun K hK => ?_)
            go_simp
            refine (l_back HQ1.out.2 HQ1.out.1 (by have h1 := HL1.out; have h2 := HQ1.out.1; omega)).mono ?_
            rintro en t5 ⟨qB1, qm1, qd1, rfl, hk1, hE2⟩
            have hE3 := hE2
            clear q7 q8
            replace hE := below_on hE hE2
            have q7 : ∀ V, Ext t5 V → V.cell? ⟨b, 1, none⟩ = some (.slice v.B v.k v.d) := fun V hV => (HJd9.out.bx.below (below_on hE hV)).cell 1 rfl
            have q8 : ∀ V, Ext t5 V → V.cell? ⟨b, 2, none⟩ = some (.slice v.C v.r v.e) := fun V hV => (HJd9.out.bx.below (below_on hE hV)).cell 2 rfl
            have HK1 := Lib.hid hk1
            clear hE2 hk1 HQ1
            refine hK.out _ _ hE3 ?_
            clear hK K
            try simp only [Act.put, List.setIfInBounds_toArray, List.set_cons_zero, List.set_cons_succ]
            refine wpAnyE_one (i := 13) (by kernel_rfl) (by simp only [List.getElem?_toArray, List.getElem?_cons_succ, List.getElem?_cons_zero]; rfl) (fun K hK => ?_)
            go_simp
            refine (r_same HK1.out (HJd9.out.r.u.below hE) (by rw [HK1.out.1]; have := HL1.out; omega)).mono ?_
            rintro en t6 ⟨rfl, hE2⟩
            have hE3 := hE2
            clear q7 q8
            replace hE := below_on hE hE2
            have q7 : ∀ V, Ext t6 V → V.cell? ⟨b, 1, none⟩ = some (.slice v.B v.k v.d) := fun V hV => (HJd9.out.bx.below (below_on hE hV)).cell 1 rfl
            have q8 : ∀ V, Ext t6 V → V.cell? ⟨b, 2, none⟩ = some (.slice v.C v.r v.e) := fun V hV => (HJd9.out.bx.below (below_on hE hV)).cell 2 rfl
            clear hE2 HK1
            refine hK.out _ _ hE3 ?_
            clear hK K
            try simp only [Act.put, List.setIfInBounds_toArray, List.set_cons_zero, List.set_cons_succ]
            (refine takeE Ext.tr 14 (by simp only [List.getElem?_toArray, List.getElem?_cons_succ, List.getElem?_cons_zero]; rfl) (by kernel_rfl) (by kernel_rfl) (by kernel_rfl) (by exact fun _ _ _ h => h) (by first | (refine Or.inl ⟨by rfl, ?_⟩; intro W hW; go_simp; try with_reducible rfl) | exact Or.inr ⟨by rfl, rfl⟩) ?_; try simp only [Act.put, List.setIfInBounds_toArray, List.set_cons_zero, List.set_cons_succ])
            (refine takeE Ext.tr 15 (by simp only [List.getElem?_toArray, List.getElem?_cons_succ, List.getElem?_cons_zero]; rfl) (by kernel_rfl) (by kernel_rfl) (by kernel_rfl) (by exact fun _ _ _ h => h) (by first | (refine Or.inl ⟨by rfl, ?_⟩; intro W hW; go_simp; try with_reducible rfl) | exact Or.inr ⟨by rfl, rfl⟩) ?_; try simp only [Act.put, List.setIfInBounds_toArray, List.set_cons_zero, List.set_cons_succ])
            (refine takeE Ext.tr 16 (by simp only [List.getElem?_toArray, List.getElem?_cons_succ, List.getElem?_cons_zero]; rfl) (by kernel_rfl) (by kernel_rfl) (by kernel_rfl) (by exact fun _ _ _ h => h) (by first | (refine Or.inl ⟨by rfl, ?_⟩; intro W hW; go_simp; try with_reducible rfl) | exact Or.inr ⟨by rfl, rfl⟩) ?_; try simp only [Act.put, List.setIfInBounds_toArray, List.set_cons_zero, List.set_cons_succ])
            (refine takeE Ext.tr 17 (by simp only [List.getElem?_toArray, List.getElem?_cons_succ, List.getElem?_cons_zero]; rfl) (by kernel_rfl) (by kernel_rfl) (by kernel_rfl) (by exact fun _ _ _ h => h) (by first | (refine Or.inl ⟨by rfl, ?_⟩; intro W hW; go_simp; try with_reducible rfl) | exact Or.inr ⟨by rfl, rfl⟩) ?_; try simp only [Act.put, List.setIfInBounds_toArray, List.set_cons_zero, List.set_cons_succ])
            refine wpAnyE_one (i := 18) (by kernel_rfl) (by simp only [List.getElem?_toArray, List.getElem?_cons_succ, List.getElem?_cons_zero]; rfl) (fun K hK => ?_)
            go_simp
            refine (p_qs (HJd9.out.q.below hE) 2 (q := []) rfl).mono ?_
            rintro en t7 ⟨qA2, qn2, qc2, rfl, hn2, hl2, hE2⟩
            have hE3 := hE2
            clear q7 q8
            replace hE := below_on hE hE2
            have q7 : ∀ V, Ext t7 V → V.cell? ⟨b, 1, none⟩ = some (.slice v.B v.k v.d) := fun V hV => (HJd9.out.bx.below (below_on hE hV)).cell 1 rfl
            have q8 : ∀ V, Ext t7 V → V.cell? ⟨b, 2, none⟩ = some (.slice v.C v.r v.e) := fun V hV => (HJd9.out.bx.below (below_on hE hV)).cell 2 rfl
            obtain rfl : qn2 = 0 := hn2
            clear hE2
            refine hK.out _ _ hE3 ?_
            clear hK K
            try simp only [Act.put, List.setIfInBounds_toArray, List.set_cons_zero, List.set_cons_succ]
            (refine takeE Ext.tr 19 (by simp only [List.getElem?_toArray, List.getElem?_cons_succ, List.getElem?_cons_zero]; rfl) (by kernel_rfl) (by kernel_rfl) (by kernel_rfl) (by exact fun _ _ _ h => h) (by first | (refine Or.inl ⟨by rfl, ?_⟩; intro W hW; go_simp; try with_reducible rfl) | exact Or.inr ⟨by rfl, rfl⟩) ?_; try simp only [Act.put, List.setIfInBounds_toArray, List.set_cons_zero, List.set_cons_succ])
            (refine takeE Ext.tr 20 (by simp only [List.getElem?_toArray, List.getElem?_cons_succ, List.getElem?_cons_zero]; rfl) (by kernel_rfl) (by kernel_rfl) (by kernel_rfl) (by exact fun _ _ _ h => h) (by first | (refine Or.inl ⟨by rfl, ?_⟩; intro W hW; go_simp; try with_reducible rfl) | exact Or.inr ⟨by rfl, rfl⟩) ?_; try simp only [Act.put, List.setIfInBounds_toArray, List.set_cons_zero, List.set_cons_succ])
            (refine takeE Ext.tr 21 (by simp only [List.getElem?_toArray, List.getElem?_cons_succ, List.getElem?_cons_zero]; rfl) (by kernel_rfl) (by kernel_rfl) (by kernel_rfl) (by exact fun _ _ _ h => h) (by first | (refine Or.inl ⟨by rfl, ?_⟩; intro W hW; go_simp; try with_reducible rfl) | exact Or.inr ⟨by rfl, rfl⟩) ?_; try simp only [Act.put, List.setIfInBounds_toArray, List.set_cons_zero, List.set_cons_succ])
            refine wpAnyE_done (by kernel_rfl) ?_ _
            clear q7 q8
            have HJX := Lib.hid (HJd9.out.next hE)
            clear hE
            go_wp2
            go_roundw
            case rel => exact ⟨i + 1, _, by go_num, by have := HLT.out; omega, rfl, pn, Fn, v, m, rfl, HJX.out, HT2.out⟩
            case measure => have := HLT.out; simp [intOf]; omega
        · have e7 : (ov.d % 8 == 7) = false := by simp [hd8]
          clear hd8
          go_wp2_with fail
          refine wp_region_E (St (fun j => F j ∨ wr.heap.size ≤ j)) (by kernel_rfl) (fun wd hbd hsz => ?_)
          have HJd := Lib.hid (HJR.out.next hbd)
          have hNF : ∀ j, j < w.heap.size → ¬ (F j ∨ wr.heap.size ≤ j) := fun j hj e => by
            rcases e with e | e
            · have := HJR.out.fg j e; omega
            · have := HJR.out.bel.size; omega
          have hbE : ¬ (F b ∨ wr.heap.size ≤ b) := fun e => e.elim HJR.out.nb fun e => by have := HJR.out.bx.lt; omega
          have hoc : ∀ V, St (fun j => F j ∨ wr.heap.size ≤ j) wd V → V.rangeAt go_ (oo + i * 5) ov.cl := fun V hV j u hu => (hV.cell (p := ⟨go_, oo + i * 5 + j, none⟩) (by have := HJd.out.bel.size; have := HOR.out.2.1; show go_ < _; omega) (hNF _ HOR.out.2.1)).trans (range_belowB HOR.out.1 HOR.out.2.1 HJd.out.bel j u hu)
          have HSd := Lib.hid hbd.size
          have q0 : True := trivial
          clear hsz c0' c1' c2' e7
          (refine takeE (St.tr (fun j => F j ∨ wr.heap.size ≤ j)) 0 (by simp only [List.getElem?_toArray, List.getElem?_cons_succ, List.getElem?_cons_zero]; rfl) (by kernel_rfl) (by kernel_rfl) (by kernel_rfl) (by exact fun _ _ _ h => h) (by first | (refine Or.inl ⟨by rfl, ?_⟩; intro W hW; go_simp; try with_reducible rfl) | exact Or.inr ⟨by rfl, rfl⟩) ?_; try simp only [Act.put, List.setIfInBounds_toArray, List.set_cons_zero, List.set_cons_succ])
          (refine takeE (St.tr (fun j => F j ∨ wr.heap.size ≤ j)) 1 (by simp only [List.getElem?_toArray, List.getElem?_cons_succ, List.getElem?_cons_zero]; rfl) (by kernel_rfl) (by kernel_rfl) (by kernel_rfl) (by exact fun _ _ _ h => h) (by first | (refine Or.inl ⟨by rfl, ?_⟩; intro W hW; exact exec_loadC rowR (.tmp 7) rfl b rfl ([.slice v.A v.n v.c, .slice v.B v.k v.d, .slice v.C v.r v.e, .int .i64 m.most, .int .i64 m.run, .int .i64 m.total]) (HJd.out.bx.st hW hbE) rfl) | exact Or.inr ⟨by rfl, rfl⟩) ?_; try simp only [Act.put, List.setIfInBounds_toArray, List.set_cons_zero, List.set_cons_succ])
          (refine takeE (St.tr (fun j => F j ∨ wr.heap.size ≤ j)) 2 (by simp only [List.getElem?_toArray, List.getElem?_cons_succ, List.getElem?_cons_zero]; rfl) (by kernel_rfl) (by kernel_rfl) (by kernel_rfl) (by exact fun _ _ _ h => h) (by first | (refine Or.inl ⟨by rfl, ?_⟩; intro W hW; go_simp; try with_reducible rfl) | exact Or.inr ⟨by rfl, rfl⟩) ?_; try simp only [Act.put, List.setIfInBounds_toArray, List.set_cons_zero, List.set_cons_succ])
          (refine takeE (St.tr (fun j => F j ∨ wr.heap.size ≤ j)) 3 (by simp only [List.getElem?_toArray, List.getElem?_cons_succ, List.getElem?_cons_zero]; rfl) (by kernel_rfl) (by kernel_rfl) (by kernel_rfl) (by exact fun _ _ _ h => h) (by first | (refine Or.inl ⟨by rfl, ?_⟩; intro W hW; go_simp; try with_reducible rfl) | exact Or.inr ⟨by rfl, rfl⟩) ?_; try simp only [Act.put, List.setIfInBounds_toArray, List.set_cons_zero, List.set_cons_succ])
          (refine takeE (St.tr (fun j => F j ∨ wr.heap.size ≤ j)) 4 (by simp only [List.getElem?_toArray, List.getElem?_cons_succ, List.getElem?_cons_zero]; rfl) (by kernel_rfl) (by kernel_rfl) (by kernel_rfl) (by exact fun _ _ _ h => h) (by first | (refine Or.inl ⟨by rfl, ?_⟩; intro W hW; go_simp; try with_reducible rfl) | exact Or.inr ⟨by rfl, rfl⟩) ?_; try simp only [Act.put, List.setIfInBounds_toArray, List.set_cons_zero, List.set_cons_succ])
          (refine takeE (St.tr (fun j => F j ∨ wr.heap.size ≤ j)) 5 (by simp only [List.getElem?_toArray, List.getElem?_cons_succ, List.getElem?_cons_zero]; rfl) (by kernel_rfl) (by kernel_rfl) (by kernel_rfl) (by exact fun _ _ _ h => h) (by first | (refine Or.inl ⟨by rfl, ?_⟩; intro W hW; exact exec_loadO (.tmp 80) rfl go_ (oo + i * 5) rfl ov (hoc _ hW)) | exact Or.inr ⟨by rfl, rfl⟩) ?_; try simp only [Act.put, List.setIfInBounds_toArray, List.set_cons_zero, List.set_cons_succ])
          refine wpAnyE_two (i := 6) (j := 10) (by kernel_rfl) (by simp only [List.getElem?_toArray, List.getElem?_cons_succ, List.getElem?_cons_zero]; rfl) (by simp only [List.getElem?_toArray, List.getElem?_cons_succ, List.getElem?_cons_zero]; rfl) (fun K hK => ?_) (fun K hK => ?_)
          ·
            go_simp
            refine (l_step HJd.out.q (Kp := (· = b)) HJd.out.r (fun j e => by have := HJd.out.bx.lt; omega) HJd.out.ok (by omega) ov HOR.out.2.2).mono ?_
            rintro en w6 ⟨v2, rfl, F6, hq6, hr6, hs6, hg6⟩
            have H6 := Lib.hid (And.intro hq6 (And.intro hr6 (And.intro hs6 hg6)))
            have hse : St (fun j => F j ∨ wr.heap.size ≤ j) wd w6 := hs6.mono fun j _ hj => .inl hj
            clear hq6 hr6 hs6 hg6
            refine hK.out _ _ hse ?_
            clear hK K
            try simp only [Act.put, List.setIfInBounds_toArray, List.set_cons_zero, List.set_cons_succ]
            (refine takeE (St.tr (fun j => F j ∨ wr.heap.size ≤ j)) 7 (by simp only [List.getElem?_toArray, List.getElem?_cons_succ, List.getElem?_cons_zero]; rfl) (by kernel_rfl) (by kernel_rfl) (by kernel_rfl) (by exact fun _ _ _ h => h) (by first | (refine Or.inl ⟨by rfl, ?_⟩; intro W hW; go_simp; try with_reducible rfl) | exact Or.inr ⟨by rfl, rfl⟩) ?_; try simp only [Act.put, List.setIfInBounds_toArray, List.set_cons_zero, List.set_cons_succ])
            (refine takeE (St.tr (fun j => F j ∨ wr.heap.size ≤ j)) 8 (by simp only [List.getElem?_toArray, List.getElem?_cons_succ, List.getElem?_cons_zero]; rfl) (by kernel_rfl) (by kernel_rfl) (by kernel_rfl) (by exact fun _ _ _ h => h) (by first | (refine Or.inl ⟨by rfl, ?_⟩; intro W hW; go_simp; try with_reducible rfl) | exact Or.inr ⟨by rfl, rfl⟩) ?_; try simp only [Act.put, List.setIfInBounds_toArray, List.set_cons_zero, List.set_cons_succ])
            (refine takeE (St.tr (fun j => F j ∨ wr.heap.size ≤ j)) 9 (by simp only [List.getElem?_toArray, List.getElem?_cons_succ, List.getElem?_cons_zero]; rfl) (by kernel_rfl) (by kernel_rfl) (by kernel_rfl) (by exact fun _ _ _ h => h) (by first | (refine Or.inl ⟨by rfl, ?_⟩; intro W hW; go_simp; try with_reducible rfl) | exact Or.inr ⟨by rfl, rfl⟩) ?_; try simp only [Act.put, List.setIfInBounds_toArray, List.set_cons_zero, List.set_cons_succ])
            refine wpAnyE_one (i := 10) (by kernel_rfl) (by simp only [List.getElem?_toArray, List.getElem?_cons_succ, List.getElem?_cons_zero]; rfl) (fun K hK => ?_)
            go_simp
            skip
            refine hK.out _ _ (St.alloc _ _ _) ?_
            clear hK K
            try simp only [Act.put, List.setIfInBounds_toArray, List.set_cons_zero, List.set_cons_succ]
            refine wpAnyE_one (i := 11) (by kernel_rfl) (by simp only [List.getElem?_toArray, List.getElem?_cons_succ, List.getElem?_cons_zero]; rfl) (fun K hK => ?_)
            go_simp
            skip
            refine hK.out _ _ (st_two (.inr (by have := HSd.out; have := H6.out.2.2.1.size; omega)) _ _) ?_
            clear hK K
            try simp only [Act.put, List.setIfInBounds_toArray, List.set_cons_zero, List.set_cons_succ]
            (refine takeE (St.tr (fun j => F j ∨ wr.heap.size ≤ j)) 12 (by simp only [List.getElem?_toArray, List.getElem?_cons_succ, List.getElem?_cons_zero]; rfl) (by kernel_rfl) (by kernel_rfl) (by kernel_rfl) (by exact fun _ _ _ h => h) (by first | (refine Or.inl ⟨by rfl, ?_⟩; intro W hW; go_simp; try with_reducible rfl) | exact Or.inr ⟨by rfl, rfl⟩) ?_; try simp only [Act.put, List.setIfInBounds_toArray, List.set_cons_zero, List.set_cons_succ])
            refine wpAnyE_done (by kernel_rfl) ?_ _
            have HZ8 : Hid (PcA F6 (w6.alloc (.cells #[.slice v2.A v2.n v2.c, .slice v2.B v2.k v2.d, .slice v2.C v2.r v2.e, .int .i64 (m.step ov).most, .int .i64 (m.step ov).run, .int .i64 (m.step ov).total] 30)) p (m.step ov) ∧ RpR (fun j => ¬ F6 j ∧ j ≠ b) (w6.alloc (.cells #[.slice v2.A v2.n v2.c, .slice v2.B v2.k v2.d, .slice v2.C v2.r v2.e, .int .i64 (m.step ov).most, .int .i64 (m.step ov).run, .int .i64 (m.step ov).total] 30)) v2 (m.step ov) ∧ St F wd (w6.alloc (.cells #[.slice v2.A v2.n v2.c, .slice v2.B v2.k v2.d, .slice v2.C v2.r v2.e, .int .i64 (m.step ov).most, .int .i64 (m.step ov).run, .int .i64 (m.step ov).total] 30)) ∧ Gr F F6 wd.heap.size ∧ Bk (w6.alloc (.cells #[.slice v2.A v2.n v2.c, .slice v2.B v2.k v2.d, .slice v2.C v2.r v2.e, .int .i64 (m.step ov).most, .int .i64 (m.step ov).run, .int .i64 (m.step ov).total] 30)) 30 w6.heap.size [.slice v2.A v2.n v2.c, .slice v2.B v2.k v2.d, .slice v2.C v2.r v2.e, .int .i64 (m.step ov).most, .int .i64 (m.step ov).run, .int .i64 (m.step ov).total] ∧ Bk (w6.alloc (.cells #[.slice v2.A v2.n v2.c, .slice v2.B v2.k v2.d, .slice v2.C v2.r v2.e, .int .i64 (m.step ov).most, .int .i64 (m.step ov).run, .int .i64 (m.step ov).total] 30)) 30 b ([.slice v.A v.n v.c, .slice v.B v.k v.d, .slice v.C v.r v.e, .int .i64 m.most, .int .i64 m.run, .int .i64 m.total])) := Lib.hid (by
              have hba : Below w6.heap.size w6 (w6.alloc (.cells #[.slice v2.A v2.n v2.c, .slice v2.B v2.k v2.d, .slice v2.C v2.r v2.e, .int .i64 (m.step ov).most, .int .i64 (m.step ov).run, .int .i64 (m.step ov).total] 30)) := (Below.refl _ _).alloc (Nat.le_refl _) _
              exact ⟨H6.out.1.below hba, H6.out.2.1.below hba, H6.out.2.2.1.trans (St.ext (F := F) hba) (Gr.refl _ _), H6.out.2.2.2, Bk.new w6 30 _, (HJd.out.bx.st H6.out.2.2.1 HJd.out.nb).below hba⟩)
            generalize w6.alloc (.cells #[.slice v2.A v2.n v2.c, .slice v2.B v2.k v2.d, .slice v2.C v2.r v2.e, .int .i64 (m.step ov).most, .int .i64 (m.step ov).run, .int .i64 (m.step ov).total] 30) = w8 at *
            generalize w6.heap.size = gz at *
            clear H6
            clear q0
            go_wp2_with (first
              | (with_reducible refine at_load 30 (.tmp 12) (by rfl) ?_; refine wpList_load_bk rowR rfl (.tmp 12) rfl gz 0 rfl HZ8.out.2.2.2.2.1 [.slice v2.A v2.n v2.c, .slice v2.B v2.k v2.d, .slice v2.C v2.r v2.e, .int .i64 (m.step ov).most, .int .i64 (m.step ov).run, .int .i64 (m.step ov).total] rfl rfl ?_)
              | (with_reducible refine at_store 30 (.tmp 7) (.tmp 85) (by rfl) ?_; refine wpList_store_bk rowR rfl (.tmp 7) (.tmp 85) rfl b 0 rfl HZ8.out.2.2.2.2.2 [.slice v2.A v2.n v2.c, .slice v2.B v2.k v2.d, .slice v2.C v2.r v2.e, .int .i64 (m.step ov).most, .int .i64 (m.step ov).run, .int .i64 (m.step ov).total] rfl rfl ?_ (by simp [Value.oneCell']) ?_
                 · exact Nat.le_refl 6
                 intro w7 hz9 hw9
                 rw [lay_all _ _ (by rfl)] at hz9
                 have HJ7 : Hid (JW w b p F6 v2 (m.step ov) w7) := Lib.hid (HJd.out.ref HZ8.out.1 HZ8.out.2.1 HZ8.out.2.2.1 HZ8.out.2.2.2.1 (step_ok HJR.out.ok ov).1 hz9 hw9)
                 have HT2 : Hid ((m.step ov).total ≤ ((i + 1 : Nat) : Int)) := Lib.hid (by have := (step_ok HJR.out.ok ov).2; have := HT.out; omega)
                 clear hz9 hw9))
            clear HZ8
            go_wp2_with fail
            refine wp_region_E (Below w7.heap.size) (by kernel_rfl) (fun wd hbd hsz => ?_)
            have HBd := Lib.hid hbd
            have hkr : ∀ V, Below w7.heap.size wd V → V.rangeAt go_ (oo + i * 5 + 1) ov.k.cl := fun V hV j u hu => by
              have hh := range_belowB HOR.out.1 HOR.out.2.1 (HJ7.out.bel.trans ((HBd.out.trans hV).mono HJ7.out.bel.size)) (1 + j) u (by
                rcases j with _ | _ | j
                · exact hu
                · exact hu
                · simp [Ky.cl] at hu)
              rw [show oo + i * 5 + 1 + j = oo + i * 5 + (1 + j) from by omega]
              exact hh
            have hsd := hbd.size
            clear hsz
            (refine takeE (belowTr w7.heap.size) 0 (by simp only [List.getElem?_toArray, List.getElem?_cons_succ, List.getElem?_cons_zero]; rfl) (by kernel_rfl) (by kernel_rfl) (by kernel_rfl) (by exact fun _ _ _ h => h) (by first | (refine Or.inl ⟨by rfl, ?_⟩; intro W hW; exact exec_loadC rowR (.tmp 7) rfl b rfl ([.slice v2.A v2.n v2.c, .slice v2.B v2.k v2.d, .slice v2.C v2.r v2.e, .int .i64 ((m.step ov)).most, .int .i64 ((m.step ov)).run, .int .i64 ((m.step ov)).total]) (HJ7.out.bx.below (HBd.out.trans hW)) rfl) | exact Or.inr ⟨by rfl, rfl⟩) ?_; try simp only [Act.put, List.setIfInBounds_toArray, List.set_cons_zero, List.set_cons_succ])
            (refine takeE (belowTr w7.heap.size) 1 (by simp only [List.getElem?_toArray, List.getElem?_cons_succ, List.getElem?_cons_zero]; rfl) (by kernel_rfl) (by kernel_rfl) (by kernel_rfl) (by exact fun _ _ _ h => h) (by first | (refine Or.inl ⟨by rfl, ?_⟩; intro W hW; go_simp; try with_reducible rfl) | exact Or.inr ⟨by rfl, rfl⟩) ?_; try simp only [Act.put, List.setIfInBounds_toArray, List.set_cons_zero, List.set_cons_succ])
            (refine takeE (belowTr w7.heap.size) 2 (by simp only [List.getElem?_toArray, List.getElem?_cons_succ, List.getElem?_cons_zero]; rfl) (by kernel_rfl) (by kernel_rfl) (by kernel_rfl) (by exact fun _ _ _ h => h) (by first | (refine Or.inl ⟨by rfl, ?_⟩; intro W hW; go_simp; try with_reducible rfl) | exact Or.inr ⟨by rfl, rfl⟩) ?_; try simp only [Act.put, List.setIfInBounds_toArray, List.set_cons_zero, List.set_cons_succ])
            (refine takeE (belowTr w7.heap.size) 3 (by simp only [List.getElem?_toArray, List.getElem?_cons_succ, List.getElem?_cons_zero]; rfl) (by kernel_rfl) (by kernel_rfl) (by kernel_rfl) (by exact fun _ _ _ h => h) (by first | (refine Or.inl ⟨by rfl, ?_⟩; intro W hW; go_simp; try with_reducible rfl) | exact Or.inr ⟨by rfl, rfl⟩) ?_; try simp only [Act.put, List.setIfInBounds_toArray, List.set_cons_zero, List.set_cons_succ])
            (refine takeE (belowTr w7.heap.size) 4 (by simp only [List.getElem?_toArray, List.getElem?_cons_succ, List.getElem?_cons_zero]; rfl) (by kernel_rfl) (by kernel_rfl) (by kernel_rfl) (by exact fun _ _ _ h => h) (by first | (refine Or.inl ⟨by rfl, ?_⟩; intro W hW; go_simp; try with_reducible rfl) | exact Or.inr ⟨by rfl, rfl⟩) ?_; try simp only [Act.put, List.setIfInBounds_toArray, List.set_cons_zero, List.set_cons_succ])
            (refine takeE (belowTr w7.heap.size) 5 (by simp only [List.getElem?_toArray, List.getElem?_cons_succ, List.getElem?_cons_zero]; rfl) (by kernel_rfl) (by kernel_rfl) (by kernel_rfl) (by exact fun _ _ _ h => h) (by first | (refine Or.inl ⟨by rfl, ?_⟩; intro W hW; exact exec_loadK rowRK (.tmp 91) rfl go_ (oo + i * 5 + 1) rfl ov.k (hkr _ hW)) | exact Or.inr ⟨by rfl, rfl⟩) ?_; try simp only [Act.put, List.setIfInBounds_toArray, List.set_cons_zero, List.set_cons_succ])
            refine wpAnyE_two (i := 6) (j := 7) (by kernel_rfl) (by simp only [List.getElem?_toArray, List.getElem?_cons_succ, List.getElem?_cons_zero]; rfl) (by simp only [List.getElem?_toArray, List.getElem?_cons_succ, List.getElem?_cons_zero]; rfl) (fun K hK => ?_) (fun K hK => ?_)
            ·
              go_simp
              refine (r_of (HJ7.out.r.below HBd.out) (by rw [HJ7.out.r.l.1]; have := HJ7.out.ok.ll; have := HJ7.out.ok.mo; omega) ov.k).mono ?_
              rintro en w10 ⟨rfl, hb10⟩
              have HB10 := Lib.hid hb10
              clear hb10
              refine hK.out _ _ (HB10.out.mono hsd) ?_
              clear hK K
              try simp only [Act.put, List.setIfInBounds_toArray, List.set_cons_zero, List.set_cons_succ]
              refine wpAnyE_one (i := 7) (by kernel_rfl) (by simp only [List.getElem?_toArray, List.getElem?_cons_succ, List.getElem?_cons_zero]; rfl) (fun K hK => ?_)
              go_simp
              skip
              refine hK.out _ _ ((Below.refl _ _).alloc (Nat.le_trans hsd HB10.out.size) _) ?_
              clear hK K
              try simp only [Act.put, List.setIfInBounds_toArray, List.set_cons_zero, List.set_cons_succ]
              refine wpAnyE_one (i := 8) (by kernel_rfl) (by simp only [List.getElem?_toArray, List.getElem?_cons_succ, List.getElem?_cons_zero]; rfl) (fun K hK => ?_)
              go_simp
              skip
              refine hK.out _ _ (below_two (Nat.le_trans hsd HB10.out.size) _ _) ?_
              clear hK K
              try simp only [Act.put, List.setIfInBounds_toArray, List.set_cons_zero, List.set_cons_succ]
              refine wpAnyE_done (by kernel_rfl) ?_ _
              have HX := Lib.hid (And.intro (HJ7.out.next (HBd.out.trans ((HB10.out.mono hsd).trans ((Below.refl w7.heap.size w10).alloc (Nat.le_trans hsd HB10.out.size) (.cells #[.int .i64 (ofKey ((m.step ov)).L ov.k).k.s, .int .i64 (ofKey ((m.step ov)).L ov.k).k.c, .int .i64 (ofKey ((m.step ov)).L ov.k).g, .int .i64 (ofKey ((m.step ov)).L ov.k).p, .int .i64 (ofKey ((m.step ov)).L ov.k).i] 50))))) (Bk.new w10 50 (ofKey ((m.step ov)).L ov.k).cl))
              generalize w10.heap.size = gx at *
              clear hkr hsd HJ7 HB10
              go_wp2_with fail
              refine wp_region_E Ext (by kernel_rfl) (fun wd hbd hsz => ?_)
              have HXd := Lib.hid (And.intro (HX.out.1.next hbd) (HX.out.2.below hbd))
              have hE : Below wd.heap.size wd wd := Below.refl _ _
              have q1 : ∀ V, Ext wd V → V.cell? ⟨go_, oo + i * 5 + 1, none⟩ = some (.int .i64 ov.k.s) := fun V hV => range_belowB HOR.out.1 HOR.out.2.1 (below_on HXd.out.1.bel (below_on hE hV)) 1 _ rfl
              have q2 : ∀ V, Ext wd V → V.cell? ⟨go_, oo + i * 5 + 2, none⟩ = some (.int .i64 ov.k.c) := fun V hV => range_belowB HOR.out.1 HOR.out.2.1 (below_on HXd.out.1.bel (below_on hE hV)) 2 _ rfl
              have q3 : ∀ V, Ext wd V → V.cell? ⟨gx, 3, none⟩ = some (.int .i64 (ofKey ((m.step ov)).L ov.k).p) := fun V hV => (HXd.out.2.below (below_on hE hV)).cell 3 rfl
              have q4 : ∀ V, Ext wd V → V.cell? ⟨gx, 4, none⟩ = some (.int .i64 (ofKey ((m.step ov)).L ov.k).i) := fun V hV => (HXd.out.2.below (below_on hE hV)).cell 4 rfl
              have q5 : ∀ V, Ext wd V → V.cell? ⟨b, 5, none⟩ = some (.int .i64 ((m.step ov)).total) := fun V hV => (HXd.out.1.bx.below (below_on hE hV)).cell 5 rfl
              have q6 : ∀ V, Ext wd V → V.cell? ⟨b, 0, none⟩ = some (.slice v2.A v2.n v2.c) := fun V hV => (HXd.out.1.bx.below (below_on hE hV)).cell 0 rfl
              have hln : ((((m.step ov)).L.length : Int) != (v2.n : Int)) = false := by have := HX.out.1.r.l.1; simp; omega
              have HBD := Lib.hid hbd
              clear hsz
              (refine takeE Ext.tr 0 (by simp only [List.getElem?_toArray, List.getElem?_cons_succ, List.getElem?_cons_zero]; rfl) (by kernel_rfl) (by kernel_rfl) (by kernel_rfl) (by exact fun _ _ _ h => h) (by first | (refine Or.inl ⟨by rfl, ?_⟩; intro W hW; go_simp; try with_reducible rfl) | exact Or.inr ⟨by rfl, rfl⟩) ?_; try simp only [Act.put, List.setIfInBounds_toArray, List.set_cons_zero, List.set_cons_succ])
              (refine takeE Ext.tr 1 (by simp only [List.getElem?_toArray, List.getElem?_cons_succ, List.getElem?_cons_zero]; rfl) (by kernel_rfl) (by kernel_rfl) (by kernel_rfl) (by exact fun _ _ _ h => h) (by first | (refine Or.inl ⟨by rfl, ?_⟩; intro W hW; go_simp; try with_reducible rfl) | exact Or.inr ⟨by rfl, rfl⟩) ?_; try simp only [Act.put, List.setIfInBounds_toArray, List.set_cons_zero, List.set_cons_succ])
              (refine takeE Ext.tr 2 (by simp only [List.getElem?_toArray, List.getElem?_cons_succ, List.getElem?_cons_zero]; rfl) (by kernel_rfl) (by kernel_rfl) (by kernel_rfl) (by exact fun _ _ _ h => h) (by first | (refine Or.inl ⟨by rfl, ?_⟩; intro W hW; go_simp; try with_reducible rfl) | exact Or.inr ⟨by rfl, rfl⟩) ?_; try simp only [Act.put, List.setIfInBounds_toArray, List.set_cons_zero, List.set_cons_succ])
              (refine takeE Ext.tr 3 (by simp only [List.getElem?_toArray, List.getElem?_cons_succ, List.getElem?_cons_zero]; rfl) (by kernel_rfl) (by kernel_rfl) (by kernel_rfl) (by exact fun _ _ _ h => h) (by first | (refine Or.inl ⟨by rfl, ?_⟩; intro W hW; go_simp; try with_reducible rfl) | exact Or.inr ⟨by rfl, rfl⟩) ?_; try simp only [Act.put, List.setIfInBounds_toArray, List.set_cons_zero, List.set_cons_succ])
              (refine takeE Ext.tr 4 (by simp only [List.getElem?_toArray, List.getElem?_cons_succ, List.getElem?_cons_zero]; rfl) (by kernel_rfl) (by kernel_rfl) (by kernel_rfl) (by exact fun _ _ _ h => h) (by first | (refine Or.inl ⟨by rfl, ?_⟩; intro W hW; go_simp; try with_reducible rfl) | exact Or.inr ⟨by rfl, rfl⟩) ?_; try simp only [Act.put, List.setIfInBounds_toArray, List.set_cons_zero, List.set_cons_succ])
              (refine takeE Ext.tr 5 (by simp only [List.getElem?_toArray, List.getElem?_cons_succ, List.getElem?_cons_zero]; rfl) (by kernel_rfl) (by kernel_rfl) (by kernel_rfl) (by exact fun _ _ _ h => h) (by first | (refine Or.inl ⟨by rfl, ?_⟩; intro W hW; go_simp; try with_reducible rfl) | exact Or.inr ⟨by rfl, rfl⟩) ?_; try simp only [Act.put, List.setIfInBounds_toArray, List.set_cons_zero, List.set_cons_succ])
              (refine takeE Ext.tr 11 (by simp only [List.getElem?_toArray, List.getElem?_cons_succ, List.getElem?_cons_zero]; rfl) (by kernel_rfl) (by kernel_rfl) (by kernel_rfl) (by exact fun _ _ _ h => h) (by first | (refine Or.inl ⟨by rfl, ?_⟩; intro W hW; go_simp; try with_reducible rfl) | exact Or.inr ⟨by rfl, rfl⟩) ?_; try simp only [Act.put, List.setIfInBounds_toArray, List.set_cons_zero, List.set_cons_succ])
              (refine takeE Ext.tr 6 (by simp only [List.getElem?_toArray, List.getElem?_cons_succ, List.getElem?_cons_zero]; rfl) (by kernel_rfl) (by kernel_rfl) (by kernel_rfl) (by exact fun _ _ _ h => h) (by first | (refine Or.inl ⟨by rfl, ?_⟩; intro W hW; go_simp; try with_reducible rfl) | exact Or.inr ⟨by rfl, rfl⟩) ?_; try simp only [Act.put, List.setIfInBounds_toArray, List.set_cons_zero, List.set_cons_succ])
              (refine takeE Ext.tr 12 (by simp only [List.getElem?_toArray, List.getElem?_cons_succ, List.getElem?_cons_zero]; rfl) (by kernel_rfl) (by kernel_rfl) (by kernel_rfl) (by exact fun _ _ _ h => h) (by first | (refine Or.inl ⟨by rfl, ?_⟩; intro W hW; go_simp; try with_reducible rfl) | exact Or.inr ⟨by rfl, rfl⟩) ?_; try simp only [Act.put, List.setIfInBounds_toArray, List.set_cons_zero, List.set_cons_succ])
              (refine takeE Ext.tr 7 (by simp only [List.getElem?_toArray, List.getElem?_cons_succ, List.getElem?_cons_zero]; rfl) (by kernel_rfl) (by kernel_rfl) (by kernel_rfl) (by exact fun _ _ _ h => h) (by first | (refine Or.inl ⟨by rfl, ?_⟩; intro W hW; go_simp; try with_reducible rfl) | exact Or.inr ⟨by rfl, rfl⟩) ?_; try simp only [Act.put, List.setIfInBounds_toArray, List.set_cons_zero, List.set_cons_succ])
              (refine takeE Ext.tr 8 (by simp only [List.getElem?_toArray, List.getElem?_cons_succ, List.getElem?_cons_zero]; rfl) (by kernel_rfl) (by kernel_rfl) (by kernel_rfl) (by exact fun _ _ _ h => h) (by first | (refine Or.inl ⟨by rfl, ?_⟩; intro W hW; go_simp; try with_reducible rfl) | exact Or.inr ⟨by rfl, rfl⟩) ?_; try simp only [Act.put, List.setIfInBounds_toArray, List.set_cons_zero, List.set_cons_succ])
              refine wpAnyE_one (i := 9) (by kernel_rfl) (by simp only [List.getElem?_toArray, List.getElem?_cons_succ, List.getElem?_cons_zero]; rfl) (fun K hK => ?_)
              go_simp
              refine (l_of ov.k _).mono ?_
              rintro en u1 ⟨rfl, hE2⟩
              have hE3 := hE2
              clear q1 q2 q3 q4 q5 q6
              replace hE := below_on hE hE2
              have q1 : ∀ V, Ext u1 V → V.cell? ⟨go_, oo + i * 5 + 1, none⟩ = some (.int .i64 ov.k.s) := fun V hV => range_belowB HOR.out.1 HOR.out.2.1 (below_on HXd.out.1.bel (below_on hE hV)) 1 _ rfl
              have q2 : ∀ V, Ext u1 V → V.cell? ⟨go_, oo + i * 5 + 2, none⟩ = some (.int .i64 ov.k.c) := fun V hV => range_belowB HOR.out.1 HOR.out.2.1 (below_on HXd.out.1.bel (below_on hE hV)) 2 _ rfl
              have q3 : ∀ V, Ext u1 V → V.cell? ⟨gx, 3, none⟩ = some (.int .i64 (ofKey ((m.step ov)).L ov.k).p) := fun V hV => (HXd.out.2.below (below_on hE hV)).cell 3 rfl
              have q4 : ∀ V, Ext u1 V → V.cell? ⟨gx, 4, none⟩ = some (.int .i64 (ofKey ((m.step ov)).L ov.k).i) := fun V hV => (HXd.out.2.below (below_on hE hV)).cell 4 rfl
              have q5 : ∀ V, Ext u1 V → V.cell? ⟨b, 5, none⟩ = some (.int .i64 ((m.step ov)).total) := fun V hV => (HXd.out.1.bx.below (below_on hE hV)).cell 5 rfl
              have q6 : ∀ V, Ext u1 V → V.cell? ⟨b, 0, none⟩ = some (.slice v2.A v2.n v2.c) := fun V hV => (HXd.out.1.bx.below (below_on hE hV)).cell 0 rfl
              clear hE2
              refine hK.out _ _ hE3 ?_
              clear hK K
              try simp only [Act.put, List.setIfInBounds_toArray, List.set_cons_zero, List.set_cons_succ]
              refine wpAnyE_one (i := 10) (by kernel_rfl) (by simp only [List.getElem?_toArray, List.getElem?_cons_succ, List.getElem?_cons_zero]; rfl) (fun K hK => ?_)
              go_simp
              refine (p_pending (HXd.out.1.q.below hE) ov.k).mono ?_
              rintro en u2 ⟨rfl, hE2⟩
              have hE3 := hE2
              clear q1 q2 q3 q4 q5 q6
              replace hE := below_on hE hE2
              have q1 : ∀ V, Ext u2 V → V.cell? ⟨go_, oo + i * 5 + 1, none⟩ = some (.int .i64 ov.k.s) := fun V hV => range_belowB HOR.out.1 HOR.out.2.1 (below_on HXd.out.1.bel (below_on hE hV)) 1 _ rfl
              have q2 : ∀ V, Ext u2 V → V.cell? ⟨go_, oo + i * 5 + 2, none⟩ = some (.int .i64 ov.k.c) := fun V hV => range_belowB HOR.out.1 HOR.out.2.1 (below_on HXd.out.1.bel (below_on hE hV)) 2 _ rfl
              have q3 : ∀ V, Ext u2 V → V.cell? ⟨gx, 3, none⟩ = some (.int .i64 (ofKey ((m.step ov)).L ov.k).p) := fun V hV => (HXd.out.2.below (below_on hE hV)).cell 3 rfl
              have q4 : ∀ V, Ext u2 V → V.cell? ⟨gx, 4, none⟩ = some (.int .i64 (ofKey ((m.step ov)).L ov.k).i) := fun V hV => (HXd.out.2.below (below_on hE hV)).cell 4 rfl
              have q5 : ∀ V, Ext u2 V → V.cell? ⟨b, 5, none⟩ = some (.int .i64 ((m.step ov)).total) := fun V hV => (HXd.out.1.bx.below (below_on hE hV)).cell 5 rfl
              have q6 : ∀ V, Ext u2 V → V.cell? ⟨b, 0, none⟩ = some (.slice v2.A v2.n v2.c) := fun V hV => (HXd.out.1.bx.below (below_on hE hV)).cell 0 rfl
              clear hE2
              refine hK.out _ _ hE3 ?_
              clear hK K
              try simp only [Act.put, List.setIfInBounds_toArray, List.set_cons_zero, List.set_cons_succ]
              (refine takeE Ext.tr 13 (by simp only [List.getElem?_toArray, List.getElem?_cons_succ, List.getElem?_cons_zero]; rfl) (by kernel_rfl) (by kernel_rfl) (by kernel_rfl) (by exact fun _ _ _ h => h) (by first | (refine Or.inl ⟨by rfl, ?_⟩; intro W hW; go_simp; try with_reducible rfl) | exact Or.inr ⟨by rfl, rfl⟩) ?_; try simp only [Act.put, List.setIfInBounds_toArray, List.set_cons_zero, List.set_cons_succ])
              (refine takeE Ext.tr 14 (by simp only [List.getElem?_toArray, List.getElem?_cons_succ, List.getElem?_cons_zero]; rfl) (by kernel_rfl) (by kernel_rfl) (by kernel_rfl) (by exact fun _ _ _ h => h) (by first | (refine Or.inl ⟨by rfl, ?_⟩; intro W hW; go_simp; try with_reducible rfl) | exact Or.inr ⟨by rfl, rfl⟩) ?_; try simp only [Act.put, List.setIfInBounds_toArray, List.set_cons_zero, List.set_cons_succ])
              (refine takeE Ext.tr 15 (by simp only [List.getElem?_toArray, List.getElem?_cons_succ, List.getElem?_cons_zero]; rfl) (by kernel_rfl) (by kernel_rfl) (by kernel_rfl) (by exact fun _ _ _ h => h) (by first | (refine Or.inl ⟨by rfl, ?_⟩; intro W hW; go_simp; try with_reducible rfl) | exact Or.inr ⟨by rfl, rfl⟩) ?_; try simp only [Act.put, List.setIfInBounds_toArray, List.set_cons_zero, List.set_cons_succ])
              (refine takeE Ext.tr 16 (by simp only [List.getElem?_toArray, List.getElem?_cons_succ, List.getElem?_cons_zero]; rfl) (by kernel_rfl) (by kernel_rfl) (by kernel_rfl) (by exact fun _ _ _ h => h) (by first | (refine Or.inl ⟨by rfl, ?_⟩; intro W hW; go_simp; try with_reducible rfl) | exact Or.inr ⟨by rfl, rfl⟩) ?_; try simp only [Act.put, List.setIfInBounds_toArray, List.set_cons_zero, List.set_cons_succ])
              (refine takeE Ext.tr 17 (by simp only [List.getElem?_toArray, List.getElem?_cons_succ, List.getElem?_cons_zero]; rfl) (by kernel_rfl) (by kernel_rfl) (by kernel_rfl) (by exact fun _ _ _ h => h) (by first | (refine Or.inl ⟨by rfl, ?_⟩; intro W hW; go_simp; try with_reducible rfl) | exact Or.inr ⟨by rfl, rfl⟩) ?_; try simp only [Act.put, List.setIfInBounds_toArray, List.set_cons_zero, List.set_cons_succ])
              (refine takeE Ext.tr 18 (by simp only [List.getElem?_toArray, List.getElem?_cons_succ, List.getElem?_cons_zero]; rfl) (by kernel_rfl) (by kernel_rfl) (by kernel_rfl) (by exact fun _ _ _ h => h) (by first | (refine Or.inl ⟨by rfl, ?_⟩; intro W hW; go_simp; try with_reducible rfl) | exact Or.inr ⟨by rfl, rfl⟩) ?_; try simp only [Act.put, List.setIfInBounds_toArray, List.set_cons_zero, List.set_cons_succ])
              (refine takeE Ext.tr 24 (by simp only [List.getElem?_toArray, List.getElem?_cons_succ, List.getElem?_cons_zero]; rfl) (by kernel_rfl) (by kernel_rfl) (by kernel_rfl) (by exact fun _ _ _ h => h) (by first | (refine Or.inl ⟨by rfl, ?_⟩; intro W hW; go_simp; try with_reducible rfl) | exact Or.inr ⟨by rfl, rfl⟩) ?_; try simp only [Act.put, List.setIfInBounds_toArray, List.set_cons_zero, List.set_cons_succ])
              (refine takeE Ext.tr 19 (by simp only [List.getElem?_toArray, List.getElem?_cons_succ, List.getElem?_cons_zero]; rfl) (by kernel_rfl) (by kernel_rfl) (by kernel_rfl) (by exact fun _ _ _ h => h) (by first | (refine Or.inl ⟨by rfl, ?_⟩; intro W hW; go_simp; try with_reducible rfl) | exact Or.inr ⟨by rfl, rfl⟩) ?_; try simp only [Act.put, List.setIfInBounds_toArray, List.set_cons_zero, List.set_cons_succ])
              (refine takeE Ext.tr 25 (by simp only [List.getElem?_toArray, List.getElem?_cons_succ, List.getElem?_cons_zero]; rfl) (by kernel_rfl) (by kernel_rfl) (by kernel_rfl) (by exact fun _ _ _ h => h) (by first | (refine Or.inl ⟨by rfl, ?_⟩; intro W hW; go_simp; try with_reducible rfl) | exact Or.inr ⟨by rfl, rfl⟩) ?_; try simp only [Act.put, List.setIfInBounds_toArray, List.set_cons_zero, List.set_cons_succ])
              (refine takeE Ext.tr 20 (by simp only [List.getElem?_toArray, List.getElem?_cons_succ, List.getElem?_cons_zero]; rfl) (by kernel_rfl) (by kernel_rfl) (by kernel_rfl) (by exact fun _ _ _ h => h) (by first | (refine Or.inl ⟨by rfl, ?_⟩; intro W hW; go_simp; try with_reducible rfl) | exact Or.inr ⟨by rfl, rfl⟩) ?_; try simp only [Act.put, List.setIfInBounds_toArray, List.set_cons_zero, List.set_cons_succ])
              (refine takeE Ext.tr 21 (by simp only [List.getElem?_toArray, List.getElem?_cons_succ, List.getElem?_cons_zero]; rfl) (by kernel_rfl) (by kernel_rfl) (by kernel_rfl) (by exact fun _ _ _ h => h) (by first | (refine Or.inl ⟨by rfl, ?_⟩; intro W hW; go_simp; try with_reducible rfl) | exact Or.inr ⟨by rfl, rfl⟩) ?_; try simp only [Act.put, List.setIfInBounds_toArray, List.set_cons_zero, List.set_cons_succ])
              refine wpAnyE_one (i := 22) (by kernel_rfl) (by simp only [List.getElem?_toArray, List.getElem?_cons_succ, List.getElem?_cons_zero]; rfl) (fun K hK => ?_)
              go_simp
              refine (l_of ov.k _).mono ?_
              rintro en u3 ⟨rfl, hE2⟩
              have hE3 := hE2
              clear q1 q2 q3 q4 q5 q6
              replace hE := below_on hE hE2
              have q1 : ∀ V, Ext u3 V → V.cell? ⟨go_, oo + i * 5 + 1, none⟩ = some (.int .i64 ov.k.s) := fun V hV => range_belowB HOR.out.1 HOR.out.2.1 (below_on HXd.out.1.bel (below_on hE hV)) 1 _ rfl
              have q2 : ∀ V, Ext u3 V → V.cell? ⟨go_, oo + i * 5 + 2, none⟩ = some (.int .i64 ov.k.c) := fun V hV => range_belowB HOR.out.1 HOR.out.2.1 (below_on HXd.out.1.bel (below_on hE hV)) 2 _ rfl
              have q3 : ∀ V, Ext u3 V → V.cell? ⟨gx, 3, none⟩ = some (.int .i64 (ofKey ((m.step ov)).L ov.k).p) := fun V hV => (HXd.out.2.below (below_on hE hV)).cell 3 rfl
              have q4 : ∀ V, Ext u3 V → V.cell? ⟨gx, 4, none⟩ = some (.int .i64 (ofKey ((m.step ov)).L ov.k).i) := fun V hV => (HXd.out.2.below (below_on hE hV)).cell 4 rfl
              have q5 : ∀ V, Ext u3 V → V.cell? ⟨b, 5, none⟩ = some (.int .i64 ((m.step ov)).total) := fun V hV => (HXd.out.1.bx.below (below_on hE hV)).cell 5 rfl
              have q6 : ∀ V, Ext u3 V → V.cell? ⟨b, 0, none⟩ = some (.slice v2.A v2.n v2.c) := fun V hV => (HXd.out.1.bx.below (below_on hE hV)).cell 0 rfl
              clear hE2
              refine hK.out _ _ hE3 ?_
              clear hK K
              try simp only [Act.put, List.setIfInBounds_toArray, List.set_cons_zero, List.set_cons_succ]
              refine wpAnyE_one (i := 23) (by kernel_rfl) (by simp only [List.getElem?_toArray, List.getElem?_cons_succ, List.getElem?_cons_zero]; rfl) (fun K hK => ?_)
              go_simp
              refine (p_issued (HXd.out.1.q.below hE) ov.k).mono ?_
              rintro en u4 ⟨rfl, hE2⟩
              have hE3 := hE2
              clear q1 q2 q3 q4 q5 q6
              replace hE := below_on hE hE2
              have q1 : ∀ V, Ext u4 V → V.cell? ⟨go_, oo + i * 5 + 1, none⟩ = some (.int .i64 ov.k.s) := fun V hV => range_belowB HOR.out.1 HOR.out.2.1 (below_on HXd.out.1.bel (below_on hE hV)) 1 _ rfl
              have q2 : ∀ V, Ext u4 V → V.cell? ⟨go_, oo + i * 5 + 2, none⟩ = some (.int .i64 ov.k.c) := fun V hV => range_belowB HOR.out.1 HOR.out.2.1 (below_on HXd.out.1.bel (below_on hE hV)) 2 _ rfl
              have q3 : ∀ V, Ext u4 V → V.cell? ⟨gx, 3, none⟩ = some (.int .i64 (ofKey ((m.step ov)).L ov.k).p) := fun V hV => (HXd.out.2.below (below_on hE hV)).cell 3 rfl
              have q4 : ∀ V, Ext u4 V → V.cell? ⟨gx, 4, none⟩ = some (.int .i64 (ofKey ((m.step ov)).L ov.k).i) := fun V hV => (HXd.out.2.below (below_on hE hV)).cell 4 rfl
              have q5 : ∀ V, Ext u4 V → V.cell? ⟨b, 5, none⟩ = some (.int .i64 ((m.step ov)).total) := fun V hV => (HXd.out.1.bx.below (below_on hE hV)).cell 5 rfl
              have q6 : ∀ V, Ext u4 V → V.cell? ⟨b, 0, none⟩ = some (.slice v2.A v2.n v2.c) := fun V hV => (HXd.out.1.bx.below (below_on hE hV)).cell 0 rfl
              clear hE2
              refine hK.out _ _ hE3 ?_
              clear hK K
              try simp only [Act.put, List.setIfInBounds_toArray, List.set_cons_zero, List.set_cons_succ]
              (refine takeE Ext.tr 26 (by simp only [List.getElem?_toArray, List.getElem?_cons_succ, List.getElem?_cons_zero]; rfl) (by kernel_rfl) (by kernel_rfl) (by kernel_rfl) (by exact fun _ _ _ h => h) (by first | (refine Or.inl ⟨by rfl, ?_⟩; intro W hW; go_simp; try with_reducible rfl) | exact Or.inr ⟨by rfl, rfl⟩) ?_; try simp only [Act.put, List.setIfInBounds_toArray, List.set_cons_zero, List.set_cons_succ])
              (refine takeE Ext.tr 27 (by simp only [List.getElem?_toArray, List.getElem?_cons_succ, List.getElem?_cons_zero]; rfl) (by kernel_rfl) (by kernel_rfl) (by kernel_rfl) (by exact fun _ _ _ h => h) (by first | (refine Or.inl ⟨by rfl, ?_⟩; intro W hW; go_simp; try with_reducible rfl) | exact Or.inr ⟨by rfl, rfl⟩) ?_; try simp only [Act.put, List.setIfInBounds_toArray, List.set_cons_zero, List.set_cons_succ])
              (refine takeE Ext.tr 28 (by simp only [List.getElem?_toArray, List.getElem?_cons_succ, List.getElem?_cons_zero]; rfl) (by kernel_rfl) (by kernel_rfl) (by kernel_rfl) (by exact fun _ _ _ h => h) (by first | (refine Or.inl ⟨by rfl, ?_⟩; intro W hW; go_simp; try with_reducible rfl) | exact Or.inr ⟨by rfl, rfl⟩) ?_; try simp only [Act.put, List.setIfInBounds_toArray, List.set_cons_zero, List.set_cons_succ])
              (refine takeE Ext.tr 29 (by simp only [List.getElem?_toArray, List.getElem?_cons_succ, List.getElem?_cons_zero]; rfl) (by kernel_rfl) (by kernel_rfl) (by kernel_rfl) (by exact fun _ _ _ h => h) (by first | (refine Or.inl ⟨by rfl, ?_⟩; intro W hW; go_simp; try with_reducible rfl) | exact Or.inr ⟨by rfl, rfl⟩) ?_; try simp only [Act.put, List.setIfInBounds_toArray, List.set_cons_zero, List.set_cons_succ])
              (refine takeE Ext.tr 31 (by simp only [List.getElem?_toArray, List.getElem?_cons_succ, List.getElem?_cons_zero]; rfl) (by kernel_rfl) (by kernel_rfl) (by kernel_rfl) (by exact fun _ _ _ h => h) (by first | (refine Or.inl ⟨by rfl, ?_⟩; intro W hW; go_simp; try with_reducible rfl) | exact Or.inr ⟨by rfl, rfl⟩) ?_; try simp only [Act.put, List.setIfInBounds_toArray, List.set_cons_zero, List.set_cons_succ])
              (refine takeE Ext.tr 32 (by simp only [List.getElem?_toArray, List.getElem?_cons_succ, List.getElem?_cons_zero]; rfl) (by kernel_rfl) (by kernel_rfl) (by kernel_rfl) (by exact fun _ _ _ h => h) (by first | (refine Or.inl ⟨by rfl, ?_⟩; intro W hW; go_simp; try with_reducible rfl) | exact Or.inr ⟨by rfl, rfl⟩) ?_; try simp only [Act.put, List.setIfInBounds_toArray, List.set_cons_zero, List.set_cons_succ])
              refine wpAnyE_one (i := 30) (by kernel_rfl) (by simp only [List.getElem?_toArray, List.getElem?_cons_succ, List.getElem?_cons_zero]; rfl) (fun K hK => ?_)
              go_simp
              refine (p_total (HXd.out.1.q.below hE)).mono ?_
              rintro en v1 ⟨rfl, rfl⟩
              refine hK.out _ _ (Ext.refl _) ?_
              clear hK K
              try simp only [Act.put, List.setIfInBounds_toArray, List.set_cons_zero, List.set_cons_succ]
              (refine takeE Ext.tr 33 (by simp only [List.getElem?_toArray, List.getElem?_cons_succ, List.getElem?_cons_zero]; rfl) (by kernel_rfl) (by kernel_rfl) (by kernel_rfl) (by exact fun _ _ _ h => h) (by first | (refine Or.inl ⟨by rfl, ?_⟩; intro W hW; go_simp; try with_reducible rfl) | exact Or.inr ⟨by rfl, rfl⟩) ?_; try simp only [Act.put, List.setIfInBounds_toArray, List.set_cons_zero, List.set_cons_succ])
              (refine takeE Ext.tr 34 (by simp only [List.getElem?_toArray, List.getElem?_cons_succ, List.getElem?_cons_zero]; rfl) (by kernel_rfl) (by kernel_rfl) (by kernel_rfl) (by exact fun _ _ _ h => h) (by first | (refine Or.inl ⟨by rfl, ?_⟩; intro W hW; go_simp; try with_reducible rfl) | exact Or.inr ⟨by rfl, rfl⟩) ?_; try simp only [Act.put, List.setIfInBounds_toArray, List.set_cons_zero, List.set_cons_succ])
              (refine takeE Ext.tr 35 (by simp only [List.getElem?_toArray, List.getElem?_cons_succ, List.getElem?_cons_zero]; rfl) (by kernel_rfl) (by kernel_rfl) (by kernel_rfl) (by exact fun _ _ _ h => h) (by first | (refine Or.inl ⟨by rfl, ?_⟩; intro W hW; go_simp; try with_reducible rfl) | exact Or.inr ⟨by rfl, rfl⟩) ?_; try simp only [Act.put, List.setIfInBounds_toArray, List.set_cons_zero, List.set_cons_succ])
              (refine takeE Ext.tr 36 (by simp only [List.getElem?_toArray, List.getElem?_cons_succ, List.getElem?_cons_zero]; rfl) (by kernel_rfl) (by kernel_rfl) (by kernel_rfl) (by exact fun _ _ _ h => h) (by first | (refine Or.inl ⟨by rfl, ?_⟩; intro W hW; go_simp; try with_reducible rfl) | exact Or.inr ⟨by rfl, rfl⟩) ?_; try simp only [Act.put, List.setIfInBounds_toArray, List.set_cons_zero, List.set_cons_succ])
              (refine takeE Ext.tr 38 (by simp only [List.getElem?_toArray, List.getElem?_cons_succ, List.getElem?_cons_zero]; rfl) (by kernel_rfl) (by kernel_rfl) (by kernel_rfl) (by exact fun _ _ _ h => h) (by first | (refine Or.inl ⟨by rfl, ?_⟩; intro W hW; go_simp; try with_reducible rfl) | exact Or.inr ⟨by rfl, rfl⟩) ?_; try simp only [Act.put, List.setIfInBounds_toArray, List.set_cons_zero, List.set_cons_succ])
              (refine takeE Ext.tr 39 (by simp only [List.getElem?_toArray, List.getElem?_cons_succ, List.getElem?_cons_zero]; rfl) (by kernel_rfl) (by kernel_rfl) (by kernel_rfl) (by exact fun _ _ _ h => h) (by first | (refine Or.inl ⟨by rfl, ?_⟩; intro W hW; go_simp; try with_reducible rfl) | exact Or.inr ⟨by rfl, rfl⟩) ?_; try simp only [Act.put, List.setIfInBounds_toArray, List.set_cons_zero, List.set_cons_succ])
              (refine takeE Ext.tr 40 (by simp only [List.getElem?_toArray, List.getElem?_cons_succ, List.getElem?_cons_zero]; rfl) (by kernel_rfl) (by kernel_rfl) (by kernel_rfl) (by exact fun _ _ _ h => h) (by first | (refine Or.inl ⟨by rfl, ?_⟩; intro W hW; go_simp; try with_reducible rfl) | exact Or.inr ⟨by rfl, rfl⟩) ?_; try simp only [Act.put, List.setIfInBounds_toArray, List.set_cons_zero, List.set_cons_succ])
              refine wpAnyE_one (i := 37) (by kernel_rfl) (by simp only [List.getElem?_toArray, List.getElem?_cons_succ, List.getElem?_cons_zero]; rfl) (fun K hK => ?_)
              go_simp
              refine (p_len (HXd.out.1.q.below hE)).mono ?_
              rintro en v1 ⟨rfl, rfl⟩
              refine hK.out _ _ (Ext.refl _) ?_
              clear hK K
              try simp only [Act.put, List.setIfInBounds_toArray, List.set_cons_zero, List.set_cons_succ]
              (refine takeE Ext.tr 41 (by simp only [List.getElem?_toArray, List.getElem?_cons_succ, List.getElem?_cons_zero]; rfl) (by kernel_rfl) (by kernel_rfl) (by kernel_rfl) (by exact fun _ _ _ h => h) (by first | (refine Or.inl ⟨by rfl, ?_⟩; intro W hW; go_simp; try with_reducible rfl) | exact Or.inr ⟨by rfl, rfl⟩) ?_; try simp only [Act.put, List.setIfInBounds_toArray, List.set_cons_zero, List.set_cons_succ])
              (refine takeE Ext.tr 42 (by simp only [List.getElem?_toArray, List.getElem?_cons_succ, List.getElem?_cons_zero]; rfl) (by kernel_rfl) (by kernel_rfl) (by kernel_rfl) (by exact fun _ _ _ h => h) (by first | (refine Or.inl ⟨by rfl, ?_⟩; intro W hW; go_simp; try with_reducible rfl) | exact Or.inr ⟨by rfl, rfl⟩) ?_; try simp only [Act.put, List.setIfInBounds_toArray, List.set_cons_zero, List.set_cons_succ])
              refine wpAnyE_done (by kernel_rfl) ?_ _
              clear q1 q2 q3 q4 q5 q6 hln
              have HJ9 := Lib.hid (HXd.out.1.next hE)
              clear hE HX
              go_wp2_with fail
              refine wp_region_E Ext (by kernel_rfl) (fun wd hbd hsz => ?_)
              have HJd9 := Lib.hid (HJ9.out.next hbd)
              have hE : Below wd.heap.size wd wd := Below.refl _ _
              have HL0 := Lib.hid HJ9.out.ok.len0
              have HL1 := Lib.hid HJ9.out.ok.len1
              have q7 : ∀ V, Ext wd V → V.cell? ⟨b, 1, none⟩ = some (.slice v2.B v2.k v2.d) := fun V hV => (HJd9.out.bx.below (below_on hE hV)).cell 1 rfl
              have q8 : ∀ V, Ext wd V → V.cell? ⟨b, 2, none⟩ = some (.slice v2.C v2.r v2.e) := fun V hV => (HJd9.out.bx.below (below_on hE hV)).cell 2 rfl
              clear hsz
              (refine takeE Ext.tr 0 (by simp only [List.getElem?_toArray, List.getElem?_cons_succ, List.getElem?_cons_zero]; rfl) (by kernel_rfl) (by kernel_rfl) (by kernel_rfl) (by exact fun _ _ _ h => h) (by first | (refine Or.inl ⟨by rfl, ?_⟩; intro W hW; go_simp; try with_reducible rfl) | exact Or.inr ⟨by rfl, rfl⟩) ?_; try simp only [Act.put, List.setIfInBounds_toArray, List.set_cons_zero, List.set_cons_succ])
              (refine takeE Ext.tr 3 (by simp only [List.getElem?_toArray, List.getElem?_cons_succ, List.getElem?_cons_zero]; rfl) (by kernel_rfl) (by kernel_rfl) (by kernel_rfl) (by exact fun _ _ _ h => h) (by first | (refine Or.inl ⟨by rfl, ?_⟩; intro W hW; go_simp; try with_reducible rfl) | exact Or.inr ⟨by rfl, rfl⟩) ?_; try simp only [Act.put, List.setIfInBounds_toArray, List.set_cons_zero, List.set_cons_succ])
              (refine takeE Ext.tr 4 (by simp only [List.getElem?_toArray, List.getElem?_cons_succ, List.getElem?_cons_zero]; rfl) (by kernel_rfl) (by kernel_rfl) (by kernel_rfl) (by exact fun _ _ _ h => h) (by first | (refine Or.inl ⟨by rfl, ?_⟩; intro W hW; go_simp; try with_reducible rfl) | exact Or.inr ⟨by rfl, rfl⟩) ?_; try simp only [Act.put, List.setIfInBounds_toArray, List.set_cons_zero, List.set_cons_succ])
              refine wpAnyE_one (i := 1) (by kernel_rfl) (by simp only [List.getElem?_toArray, List.getElem?_cons_succ, List.getElem?_cons_zero]; rfl) (fun K hK => ?_)
              go_simp
              refine (p_qs (HJd9.out.q.below hE) 0 (q := ((m.step ov)).q0) rfl).mono ?_
              rintro en t1 ⟨qA0, qn0, qc0, rfl, hn0, hl0, hE2⟩
              have hE3 := hE2
              clear q7 q8
              replace hE := below_on hE hE2
              have q7 : ∀ V, Ext t1 V → V.cell? ⟨b, 1, none⟩ = some (.slice v2.B v2.k v2.d) := fun V hV => (HJd9.out.bx.below (below_on hE hV)).cell 1 rfl
              have q8 : ∀ V, Ext t1 V → V.cell? ⟨b, 2, none⟩ = some (.slice v2.C v2.r v2.e) := fun V hV => (HJd9.out.bx.below (below_on hE hV)).cell 2 rfl
              have HQ0 := Lib.hid (And.intro hn0 hl0)
              clear hE2 hn0 hl0
              refine hK.out _ _ hE3 ?_
              clear hK K
              try simp only [Act.put, List.setIfInBounds_toArray, List.set_cons_zero, List.set_cons_succ]
              refine wpAnyE_one (i := 2) (by kernel_rfl) (by simp only [List.getElem?_toArray, List.getElem?_cons_succ, List.getElem?_cons_zero]; rfl) (fun K hK => ?_)
              go_simp
              refine (l_back HQ0.out.2 HQ0.out.1 (by have h1 := HL0.out; have h2 := HQ0.out.1; omega)).mono ?_
              rintro en t2 ⟨qB0, qm0, qd0, rfl, hk0, hE2⟩
              have hE3 := hE2
              clear q7 q8
              replace hE := below_on hE hE2
              have q7 : ∀ V, Ext t2 V → V.cell? ⟨b, 1, none⟩ = some (.slice v2.B v2.k v2.d) := fun V hV => (HJd9.out.bx.below (below_on hE hV)).cell 1 rfl
              have q8 : ∀ V, Ext t2 V → V.cell? ⟨b, 2, none⟩ = some (.slice v2.C v2.r v2.e) := fun V hV => (HJd9.out.bx.below (below_on hE hV)).cell 2 rfl
              have HK0 := Lib.hid hk0
              clear hE2 hk0 HQ0
              refine hK.out _ _ hE3 ?_
              clear hK K
              try simp only [Act.put, List.setIfInBounds_toArray, List.set_cons_zero, List.set_cons_succ]
              refine wpAnyE_one (i := 5) (by kernel_rfl) (by simp only [List.getElem?_toArray, List.getElem?_cons_succ, List.getElem?_cons_zero]; rfl) (fun K hK => ?_)
              go_simp
              refine (r_same HK0.out (HJd9.out.r.p.below hE) (by rw [HK0.out.1]; have := HL0.out; omega)).mono ?_
              rintro en t3 ⟨rfl, hE2⟩
              have hE3 := hE2
              clear q7 q8
              replace hE := below_on hE hE2
              have q7 : ∀ V, Ext t3 V → V.cell? ⟨b, 1, none⟩ = some (.slice v2.B v2.k v2.d) := fun V hV => (HJd9.out.bx.below (below_on hE hV)).cell 1 rfl
              have q8 : ∀ V, Ext t3 V → V.cell? ⟨b, 2, none⟩ = some (.slice v2.C v2.r v2.e) := fun V hV => (HJd9.out.bx.below (below_on hE hV)).cell 2 rfl
              clear hE2 HK0
              refine hK.out _ _ hE3 ?_
              clear hK K
              try simp only [Act.put, List.setIfInBounds_toArray, List.set_cons_zero, List.set_cons_succ]
              (refine takeE Ext.tr 6 (by simp only [List.getElem?_toArray, List.getElem?_cons_succ, List.getElem?_cons_zero]; rfl) (by kernel_rfl) (by kernel_rfl) (by kernel_rfl) (by exact fun _ _ _ h => h) (by first | (refine Or.inl ⟨by rfl, ?_⟩; intro W hW; go_simp; try with_reducible rfl) | exact Or.inr ⟨by rfl, rfl⟩) ?_; try simp only [Act.put, List.setIfInBounds_toArray, List.set_cons_zero, List.set_cons_succ])
              (refine takeE Ext.tr 7 (by simp only [List.getElem?_toArray, List.getElem?_cons_succ, List.getElem?_cons_zero]; rfl) (by kernel_rfl) (by kernel_rfl) (by kernel_rfl) (by exact fun _ _ _ h => h) (by first | (refine Or.inl ⟨by rfl, ?_⟩; intro W hW; go_simp; try with_reducible rfl) | exact Or.inr ⟨by rfl, rfl⟩) ?_; try simp only [Act.put, List.setIfInBounds_toArray, List.set_cons_zero, List.set_cons_succ])
              (refine takeE Ext.tr 8 (by simp only [List.getElem?_toArray, List.getElem?_cons_succ, List.getElem?_cons_zero]; rfl) (by kernel_rfl) (by kernel_rfl) (by kernel_rfl) (by exact fun _ _ _ h => h) (by first | (refine Or.inl ⟨by rfl, ?_⟩; intro W hW; go_simp; try with_reducible rfl) | exact Or.inr ⟨by rfl, rfl⟩) ?_; try simp only [Act.put, List.setIfInBounds_toArray, List.set_cons_zero, List.set_cons_succ])
              (refine takeE Ext.tr 11 (by simp only [List.getElem?_toArray, List.getElem?_cons_succ, List.getElem?_cons_zero]; rfl) (by kernel_rfl) (by kernel_rfl) (by kernel_rfl) (by exact fun _ _ _ h => h) (by first | (refine Or.inl ⟨by rfl, ?_⟩; intro W hW; go_simp; try with_reducible rfl) | exact Or.inr ⟨by rfl, rfl⟩) ?_; try simp only [Act.put, List.setIfInBounds_toArray, List.set_cons_zero, List.set_cons_succ])
              (refine takeE Ext.tr 12 (by simp only [List.getElem?_toArray, List.getElem?_cons_succ, List.getElem?_cons_zero]; rfl) (by kernel_rfl) (by kernel_rfl) (by kernel_rfl) (by exact fun _ _ _ h => h) (by first | (refine Or.inl ⟨by rfl, ?_⟩; intro W hW; go_simp; try with_reducible rfl) | exact Or.inr ⟨by rfl, rfl⟩) ?_; try simp only [Act.put, List.setIfInBounds_toArray, List.set_cons_zero, List.set_cons_succ])
              refine wpAnyE_one (i := 9) (by kernel_rfl) (by simp only [List.getElem?_toArray, List.getElem?_cons_succ, List.getElem?_cons_zero]; rfl) (fun K hK => ?_)
              go_simp
              refine (p_qs (HJd9.out.q.below hE) 1 (q := ((m.step ov)).q1) rfl).mono ?_
              rintro en t4 ⟨qA1, qn1, qc1, rfl, hn1, hl1, hE2⟩
              have hE3 := hE2
              clear q7 q8
              replace hE := below_on hE hE2
              have q7 : ∀ V, Ext t4 V → V.cell? ⟨b, 1, none⟩ = some (.slice v2.B v2.k v2.d) := fun V hV => (HJd9.out.bx.below (below_on hE hV)).cell 1 rfl
              have q8 : ∀ V, Ext t4 V → V.cell? ⟨b, 2, none⟩ = some (.slice v2.C v2.r v2.e) := fun V hV => (HJd9.out.bx.below (below_on hE hV)).cell 2 rfl
              have HQ1 := Lib.hid (And.intro hn1 hl1)
              clear hE2 hn1 hl1
              refine hK.out _ _ hE3 ?_
              clear hK K
              try simp only [Act.put, List.setIfInBounds_toArray, List.set_cons_zero, List.set_cons_succ]
              refine wpAnyE_one (i := 10) (by kernel_rfl) (by simp only [List.getElem?_toArray, List.getElem?_cons_succ, List.getElem?_cons_zero]; rfl) (fun K hK => ?_)
              go_simp
              refine (l_back HQ1.out.2 HQ1.out.1 (by have h1 := HL1.out; have h2 := HQ1.out.1; omega)).mono ?_
              rintro en t5 ⟨qB1, qm1, qd1, rfl, hk1, hE2⟩
              have hE3 := hE2
              clear q7 q8
              replace hE := below_on hE hE2
              have q7 : ∀ V, Ext t5 V → V.cell? ⟨b, 1, none⟩ = some (.slice v2.B v2.k v2.d) := fun V hV => (HJd9.out.bx.below (below_on hE hV)).cell 1 rfl
              have q8 : ∀ V, Ext t5 V → V.cell? ⟨b, 2, none⟩ = some (.slice v2.C v2.r v2.e) := fun V hV => (HJd9.out.bx.below (below_on hE hV)).cell 2 rfl
              have HK1 := Lib.hid hk1
              clear hE2 hk1 HQ1
              refine hK.out _ _ hE3 ?_
              clear hK K
              try simp only [Act.put, List.setIfInBounds_toArray, List.set_cons_zero, List.set_cons_succ]
              refine wpAnyE_one (i := 13) (by kernel_rfl) (by simp only [List.getElem?_toArray, List.getElem?_cons_succ, List.getElem?_cons_zero]; rfl) (fun K hK => ?_)
              go_simp
              refine (r_same HK1.out (HJd9.out.r.u.below hE) (by rw [HK1.out.1]; have := HL1.out; omega)).mono ?_
              rintro en t6 ⟨rfl, hE2⟩
              have hE3 := hE2
              clear q7 q8
              replace hE := below_on hE hE2
              have q7 : ∀ V, Ext t6 V → V.cell? ⟨b, 1, none⟩ = some (.slice v2.B v2.k v2.d) := fun V hV => (HJd9.out.bx.below (below_on hE hV)).cell 1 rfl
              have q8 : ∀ V, Ext t6 V → V.cell? ⟨b, 2, none⟩ = some (.slice v2.C v2.r v2.e) := fun V hV => (HJd9.out.bx.below (below_on hE hV)).cell 2 rfl
              clear hE2 HK1
              refine hK.out _ _ hE3 ?_
              clear hK K
              try simp only [Act.put, List.setIfInBounds_toArray, List.set_cons_zero, List.set_cons_succ]
              (refine takeE Ext.tr 14 (by simp only [List.getElem?_toArray, List.getElem?_cons_succ, List.getElem?_cons_zero]; rfl) (by kernel_rfl) (by kernel_rfl) (by kernel_rfl) (by exact fun _ _ _ h => h) (by first | (refine Or.inl ⟨by rfl, ?_⟩; intro W hW; go_simp; try with_reducible rfl) | exact Or.inr ⟨by rfl, rfl⟩) ?_; try simp only [Act.put, List.setIfInBounds_toArray, List.set_cons_zero, List.set_cons_succ])
              (refine takeE Ext.tr 15 (by simp only [List.getElem?_toArray, List.getElem?_cons_succ, List.getElem?_cons_zero]; rfl) (by kernel_rfl) (by kernel_rfl) (by kernel_rfl) (by exact fun _ _ _ h => h) (by first | (refine Or.inl ⟨by rfl, ?_⟩; intro W hW; go_simp; try with_reducible rfl) | exact Or.inr ⟨by rfl, rfl⟩) ?_; try simp only [Act.put, List.setIfInBounds_toArray, List.set_cons_zero, List.set_cons_succ])
              (refine takeE Ext.tr 16 (by simp only [List.getElem?_toArray, List.getElem?_cons_succ, List.getElem?_cons_zero]; rfl) (by kernel_rfl) (by kernel_rfl) (by kernel_rfl) (by exact fun _ _ _ h => h) (by first | (refine Or.inl ⟨by rfl, ?_⟩; intro W hW; go_simp; try with_reducible rfl) | exact Or.inr ⟨by rfl, rfl⟩) ?_; try simp only [Act.put, List.setIfInBounds_toArray, List.set_cons_zero, List.set_cons_succ])
              (refine takeE Ext.tr 17 (by simp only [List.getElem?_toArray, List.getElem?_cons_succ, List.getElem?_cons_zero]; rfl) (by kernel_rfl) (by kernel_rfl) (by kernel_rfl) (by exact fun _ _ _ h => h) (by first | (refine Or.inl ⟨by rfl, ?_⟩; intro W hW; go_simp; try with_reducible rfl) | exact Or.inr ⟨by rfl, rfl⟩) ?_; try simp only [Act.put, List.setIfInBounds_toArray, List.set_cons_zero, List.set_cons_succ])
              refine wpAnyE_one (i := 18) (by kernel_rfl) (by simp only [List.getElem?_toArray, List.getElem?_cons_succ, List.getElem?_cons_zero]; rfl) (fun K hK => ?_)
              go_simp
              refine (p_qs (HJd9.out.q.below hE) 2 (q := []) rfl).mono ?_
              rintro en t7 ⟨qA2, qn2, qc2, rfl, hn2, hl2, hE2⟩
              have hE3 := hE2
              clear q7 q8
              replace hE := below_on hE hE2
              have q7 : ∀ V, Ext t7 V → V.cell? ⟨b, 1, none⟩ = some (.slice v2.B v2.k v2.d) := fun V hV => (HJd9.out.bx.below (below_on hE hV)).cell 1 rfl
              have q8 : ∀ V, Ext t7 V → V.cell? ⟨b, 2, none⟩ = some (.slice v2.C v2.r v2.e) := fun V hV => (HJd9.out.bx.below (below_on hE hV)).cell 2 rfl
              obtain rfl : qn2 = 0 := hn2
              clear hE2
              refine hK.out _ _ hE3 ?_
              clear hK K
              try simp only [Act.put, List.setIfInBounds_toArray, List.set_cons_zero, List.set_cons_succ]
              (refine takeE Ext.tr 19 (by simp only [List.getElem?_toArray, List.getElem?_cons_succ, List.getElem?_cons_zero]; rfl) (by kernel_rfl) (by kernel_rfl) (by kernel_rfl) (by exact fun _ _ _ h => h) (by first | (refine Or.inl ⟨by rfl, ?_⟩; intro W hW; go_simp; try with_reducible rfl) | exact Or.inr ⟨by rfl, rfl⟩) ?_; try simp only [Act.put, List.setIfInBounds_toArray, List.set_cons_zero, List.set_cons_succ])
              (refine takeE Ext.tr 20 (by simp only [List.getElem?_toArray, List.getElem?_cons_succ, List.getElem?_cons_zero]; rfl) (by kernel_rfl) (by kernel_rfl) (by kernel_rfl) (by exact fun _ _ _ h => h) (by first | (refine Or.inl ⟨by rfl, ?_⟩; intro W hW; go_simp; try with_reducible rfl) | exact Or.inr ⟨by rfl, rfl⟩) ?_; try simp only [Act.put, List.setIfInBounds_toArray, List.set_cons_zero, List.set_cons_succ])
              (refine takeE Ext.tr 21 (by simp only [List.getElem?_toArray, List.getElem?_cons_succ, List.getElem?_cons_zero]; rfl) (by kernel_rfl) (by kernel_rfl) (by kernel_rfl) (by exact fun _ _ _ h => h) (by first | (refine Or.inl ⟨by rfl, ?_⟩; intro W hW; go_simp; try with_reducible rfl) | exact Or.inr ⟨by rfl, rfl⟩) ?_; try simp only [Act.put, List.setIfInBounds_toArray, List.set_cons_zero, List.set_cons_succ])
              refine wpAnyE_done (by kernel_rfl) ?_ _
              clear q7 q8
              have HJX := Lib.hid (HJd9.out.next hE)
              clear hE
              go_wp2
              go_roundw
              case rel => exact ⟨i + 1, _, by go_num, by have := HLT.out; omega, rfl, p, F6, v2, (m.step ov), rfl, HJX.out, HT2.out⟩
              case measure => have := HLT.out; simp [intOf]; omega
            ·
              go_simp
              have hya : Below wd.heap.size wd (wd.alloc (.cells #[.int .i64 zKn.k.s, .int .i64 zKn.k.c, .int .i64 zKn.g, .int .i64 zKn.p, .int .i64 zKn.i] 50)) := (Below.refl _ _).alloc (Nat.le_refl _) _
              have HY := Lib.hid (And.intro hya (Bk.new wd 50 zKn.cl))
              clear hya
              refine hK.out _ _ (HY.out.1.mono hsd) ?_
              clear hK K
              try simp only [Act.put, List.setIfInBounds_toArray, List.set_cons_zero, List.set_cons_succ]
              refine wpAnyE_one (i := 6) (by kernel_rfl) (by simp only [List.getElem?_toArray, List.getElem?_cons_succ, List.getElem?_cons_zero]; rfl) (fun K hK => ?_)
              go_simp
              refine (r_of (HJ7.out.r.below (HBd.out.trans (HY.out.1.mono HBd.out.size))) (by rw [HJ7.out.r.l.1]; have := HJ7.out.ok.ll; have := HJ7.out.ok.mo; omega) ov.k).mono ?_
              rintro en w10 ⟨rfl, hb10⟩
              have HB10 := Lib.hid hb10
              clear hb10
              refine hK.out _ _ (HB10.out.mono (Nat.le_trans hsd HY.out.1.size)) ?_
              clear hK K
              try simp only [Act.put, List.setIfInBounds_toArray, List.set_cons_zero, List.set_cons_succ]
              refine wpAnyE_one (i := 8) (by kernel_rfl) (by simp only [List.getElem?_toArray, List.getElem?_cons_succ, List.getElem?_cons_zero]; rfl) (fun K hK => ?_)
              refine opwp_store_bk rowN rfl (.tmp 14) (.tmp 93) rfl wd.heap.size 0 rfl (HY.out.2.below HB10.out) (ofKey ((m.step ov)).L ov.k).cl rfl rfl (by decide) (ofKey ((m.step ov)).L ov.k).cl_one ?_
              intro w11 hz11 hw11
              rw [lay_all _ _ (by rfl)] at hz11
              have h10 : Below w7.heap.size wd w10 := HY.out.1.mono hsd |>.trans (HB10.out.mono (Nat.le_trans hsd HY.out.1.size))
              have hE11 : Below w7.heap.size w10 w11 := (Below.refl w7.heap.size w10).trans ((st_wr hw11).below (Nat.le_trans hsd (Nat.le_trans HY.out.1.size HB10.out.size)) fun j e => by omega)
              have HX := Lib.hid (And.intro (HJ7.out.next (HBd.out.trans (h10.trans hE11))) hz11)
              clear hz11 hw11 h10
              refine hK.out _ _ hE11 ?_
              clear hK K
              try simp only [Act.put, List.setIfInBounds_toArray, List.set_cons_zero, List.set_cons_succ]
              refine wpAnyE_done (by kernel_rfl) ?_ _
              generalize wd.heap.size = gx at *
              clear hkr hsd HJ7 HB10 HY
              go_wp2_with fail
              refine wp_region_E Ext (by kernel_rfl) (fun wd hbd hsz => ?_)
              have HXd := Lib.hid (And.intro (HX.out.1.next hbd) (HX.out.2.below hbd))
              have hE : Below wd.heap.size wd wd := Below.refl _ _
              have q1 : ∀ V, Ext wd V → V.cell? ⟨go_, oo + i * 5 + 1, none⟩ = some (.int .i64 ov.k.s) := fun V hV => range_belowB HOR.out.1 HOR.out.2.1 (below_on HXd.out.1.bel (below_on hE hV)) 1 _ rfl
              have q2 : ∀ V, Ext wd V → V.cell? ⟨go_, oo + i * 5 + 2, none⟩ = some (.int .i64 ov.k.c) := fun V hV => range_belowB HOR.out.1 HOR.out.2.1 (below_on HXd.out.1.bel (below_on hE hV)) 2 _ rfl
              have q3 : ∀ V, Ext wd V → V.cell? ⟨gx, 3, none⟩ = some (.int .i64 (ofKey ((m.step ov)).L ov.k).p) := fun V hV => (HXd.out.2.below (below_on hE hV)).cell 3 rfl
              have q4 : ∀ V, Ext wd V → V.cell? ⟨gx, 4, none⟩ = some (.int .i64 (ofKey ((m.step ov)).L ov.k).i) := fun V hV => (HXd.out.2.below (below_on hE hV)).cell 4 rfl
              have q5 : ∀ V, Ext wd V → V.cell? ⟨b, 5, none⟩ = some (.int .i64 ((m.step ov)).total) := fun V hV => (HXd.out.1.bx.below (below_on hE hV)).cell 5 rfl
              have q6 : ∀ V, Ext wd V → V.cell? ⟨b, 0, none⟩ = some (.slice v2.A v2.n v2.c) := fun V hV => (HXd.out.1.bx.below (below_on hE hV)).cell 0 rfl
              have hln : ((((m.step ov)).L.length : Int) != (v2.n : Int)) = false := by have := HX.out.1.r.l.1; simp; omega
              have HBD := Lib.hid hbd
              clear hsz
              (refine takeE Ext.tr 0 (by simp only [List.getElem?_toArray, List.getElem?_cons_succ, List.getElem?_cons_zero]; rfl) (by kernel_rfl) (by kernel_rfl) (by kernel_rfl) (by exact fun _ _ _ h => h) (by first | (refine Or.inl ⟨by rfl, ?_⟩; intro W hW; go_simp; try with_reducible rfl) | exact Or.inr ⟨by rfl, rfl⟩) ?_; try simp only [Act.put, List.setIfInBounds_toArray, List.set_cons_zero, List.set_cons_succ])
              (refine takeE Ext.tr 1 (by simp only [List.getElem?_toArray, List.getElem?_cons_succ, List.getElem?_cons_zero]; rfl) (by kernel_rfl) (by kernel_rfl) (by kernel_rfl) (by exact fun _ _ _ h => h) (by first | (refine Or.inl ⟨by rfl, ?_⟩; intro W hW; go_simp; try with_reducible rfl) | exact Or.inr ⟨by rfl, rfl⟩) ?_; try simp only [Act.put, List.setIfInBounds_toArray, List.set_cons_zero, List.set_cons_succ])
              (refine takeE Ext.tr 2 (by simp only [List.getElem?_toArray, List.getElem?_cons_succ, List.getElem?_cons_zero]; rfl) (by kernel_rfl) (by kernel_rfl) (by kernel_rfl) (by exact fun _ _ _ h => h) (by first | (refine Or.inl ⟨by rfl, ?_⟩; intro W hW; go_simp; try with_reducible rfl) | exact Or.inr ⟨by rfl, rfl⟩) ?_; try simp only [Act.put, List.setIfInBounds_toArray, List.set_cons_zero, List.set_cons_succ])
              (refine takeE Ext.tr 3 (by simp only [List.getElem?_toArray, List.getElem?_cons_succ, List.getElem?_cons_zero]; rfl) (by kernel_rfl) (by kernel_rfl) (by kernel_rfl) (by exact fun _ _ _ h => h) (by first | (refine Or.inl ⟨by rfl, ?_⟩; intro W hW; go_simp; try with_reducible rfl) | exact Or.inr ⟨by rfl, rfl⟩) ?_; try simp only [Act.put, List.setIfInBounds_toArray, List.set_cons_zero, List.set_cons_succ])
              (refine takeE Ext.tr 4 (by simp only [List.getElem?_toArray, List.getElem?_cons_succ, List.getElem?_cons_zero]; rfl) (by kernel_rfl) (by kernel_rfl) (by kernel_rfl) (by exact fun _ _ _ h => h) (by first | (refine Or.inl ⟨by rfl, ?_⟩; intro W hW; go_simp; try with_reducible rfl) | exact Or.inr ⟨by rfl, rfl⟩) ?_; try simp only [Act.put, List.setIfInBounds_toArray, List.set_cons_zero, List.set_cons_succ])
              (refine takeE Ext.tr 5 (by simp only [List.getElem?_toArray, List.getElem?_cons_succ, List.getElem?_cons_zero]; rfl) (by kernel_rfl) (by kernel_rfl) (by kernel_rfl) (by exact fun _ _ _ h => h) (by first | (refine Or.inl ⟨by rfl, ?_⟩; intro W hW; go_simp; try with_reducible rfl) | exact Or.inr ⟨by rfl, rfl⟩) ?_; try simp only [Act.put, List.setIfInBounds_toArray, List.set_cons_zero, List.set_cons_succ])
              (refine takeE Ext.tr 11 (by simp only [List.getElem?_toArray, List.getElem?_cons_succ, List.getElem?_cons_zero]; rfl) (by kernel_rfl) (by kernel_rfl) (by kernel_rfl) (by exact fun _ _ _ h => h) (by first | (refine Or.inl ⟨by rfl, ?_⟩; intro W hW; go_simp; try with_reducible rfl) | exact Or.inr ⟨by rfl, rfl⟩) ?_; try simp only [Act.put, List.setIfInBounds_toArray, List.set_cons_zero, List.set_cons_succ])
              (refine takeE Ext.tr 6 (by simp only [List.getElem?_toArray, List.getElem?_cons_succ, List.getElem?_cons_zero]; rfl) (by kernel_rfl) (by kernel_rfl) (by kernel_rfl) (by exact fun _ _ _ h => h) (by first | (refine Or.inl ⟨by rfl, ?_⟩; intro W hW; go_simp; try with_reducible rfl) | exact Or.inr ⟨by rfl, rfl⟩) ?_; try simp only [Act.put, List.setIfInBounds_toArray, List.set_cons_zero, List.set_cons_succ])
              (refine takeE Ext.tr 12 (by simp only [List.getElem?_toArray, List.getElem?_cons_succ, List.getElem?_cons_zero]; rfl) (by kernel_rfl) (by kernel_rfl) (by kernel_rfl) (by exact fun _ _ _ h => h) (by first | (refine Or.inl ⟨by rfl, ?_⟩; intro W hW; go_simp; try with_reducible rfl) | exact Or.inr ⟨by rfl, rfl⟩) ?_; try simp only [Act.put, List.setIfInBounds_toArray, List.set_cons_zero, List.set_cons_succ])
              (refine takeE Ext.tr 7 (by simp only [List.getElem?_toArray, List.getElem?_cons_succ, List.getElem?_cons_zero]; rfl) (by kernel_rfl) (by kernel_rfl) (by kernel_rfl) (by exact fun _ _ _ h => h) (by first | (refine Or.inl ⟨by rfl, ?_⟩; intro W hW; go_simp; try with_reducible rfl) | exact Or.inr ⟨by rfl, rfl⟩) ?_; try simp only [Act.put, List.setIfInBounds_toArray, List.set_cons_zero, List.set_cons_succ])
              (refine takeE Ext.tr 8 (by simp only [List.getElem?_toArray, List.getElem?_cons_succ, List.getElem?_cons_zero]; rfl) (by kernel_rfl) (by kernel_rfl) (by kernel_rfl) (by exact fun _ _ _ h => h) (by first | (refine Or.inl ⟨by rfl, ?_⟩; intro W hW; go_simp; try with_reducible rfl) | exact Or.inr ⟨by rfl, rfl⟩) ?_; try simp only [Act.put, List.setIfInBounds_toArray, List.set_cons_zero, List.set_cons_succ])
              refine wpAnyE_one (i := 9) (by kernel_rfl) (by simp only [List.getElem?_toArray, List.getElem?_cons_succ, List.getElem?_cons_zero]; rfl) (fun K hK => ?_)
              go_simp
              refine (l_of ov.k _).mono ?_
              rintro en u1 ⟨rfl, hE2⟩
              have hE3 := hE2
              clear q1 q2 q3 q4 q5 q6
              replace hE := below_on hE hE2
              have q1 : ∀ V, Ext u1 V → V.cell? ⟨go_, oo + i * 5 + 1, none⟩ = some (.int .i64 ov.k.s) := fun V hV => range_belowB HOR.out.1 HOR.out.2.1 (below_on HXd.out.1.bel (below_on hE hV)) 1 _ rfl
              have q2 : ∀ V, Ext u1 V → V.cell? ⟨go_, oo + i * 5 + 2, none⟩ = some (.int .i64 ov.k.c) := fun V hV => range_belowB HOR.out.1 HOR.out.2.1 (below_on HXd.out.1.bel (below_on hE hV)) 2 _ rfl
              have q3 : ∀ V, Ext u1 V → V.cell? ⟨gx, 3, none⟩ = some (.int .i64 (ofKey ((m.step ov)).L ov.k).p) := fun V hV => (HXd.out.2.below (below_on hE hV)).cell 3 rfl
              have q4 : ∀ V, Ext u1 V → V.cell? ⟨gx, 4, none⟩ = some (.int .i64 (ofKey ((m.step ov)).L ov.k).i) := fun V hV => (HXd.out.2.below (below_on hE hV)).cell 4 rfl
              have q5 : ∀ V, Ext u1 V → V.cell? ⟨b, 5, none⟩ = some (.int .i64 ((m.step ov)).total) := fun V hV => (HXd.out.1.bx.below (below_on hE hV)).cell 5 rfl
              have q6 : ∀ V, Ext u1 V → V.cell? ⟨b, 0, none⟩ = some (.slice v2.A v2.n v2.c) := fun V hV => (HXd.out.1.bx.below (below_on hE hV)).cell 0 rfl
              clear hE2
              refine hK.out _ _ hE3 ?_
              clear hK K
              try simp only [Act.put, List.setIfInBounds_toArray, List.set_cons_zero, List.set_cons_succ]
              refine wpAnyE_one (i := 10) (by kernel_rfl) (by simp only [List.getElem?_toArray, List.getElem?_cons_succ, List.getElem?_cons_zero]; rfl) (fun K hK => ?_)
              go_simp
              refine (p_pending (HXd.out.1.q.below hE) ov.k).mono ?_
              rintro en u2 ⟨rfl, hE2⟩
              have hE3 := hE2
              clear q1 q2 q3 q4 q5 q6
              replace hE := below_on hE hE2
              have q1 : ∀ V, Ext u2 V → V.cell? ⟨go_, oo + i * 5 + 1, none⟩ = some (.int .i64 ov.k.s) := fun V hV => range_belowB HOR.out.1 HOR.out.2.1 (below_on HXd.out.1.bel (below_on hE hV)) 1 _ rfl
              have q2 : ∀ V, Ext u2 V → V.cell? ⟨go_, oo + i * 5 + 2, none⟩ = some (.int .i64 ov.k.c) := fun V hV => range_belowB HOR.out.1 HOR.out.2.1 (below_on HXd.out.1.bel (below_on hE hV)) 2 _ rfl
              have q3 : ∀ V, Ext u2 V → V.cell? ⟨gx, 3, none⟩ = some (.int .i64 (ofKey ((m.step ov)).L ov.k).p) := fun V hV => (HXd.out.2.below (below_on hE hV)).cell 3 rfl
              have q4 : ∀ V, Ext u2 V → V.cell? ⟨gx, 4, none⟩ = some (.int .i64 (ofKey ((m.step ov)).L ov.k).i) := fun V hV => (HXd.out.2.below (below_on hE hV)).cell 4 rfl
              have q5 : ∀ V, Ext u2 V → V.cell? ⟨b, 5, none⟩ = some (.int .i64 ((m.step ov)).total) := fun V hV => (HXd.out.1.bx.below (below_on hE hV)).cell 5 rfl
              have q6 : ∀ V, Ext u2 V → V.cell? ⟨b, 0, none⟩ = some (.slice v2.A v2.n v2.c) := fun V hV => (HXd.out.1.bx.below (below_on hE hV)).cell 0 rfl
              clear hE2
              refine hK.out _ _ hE3 ?_
              clear hK K
              try simp only [Act.put, List.setIfInBounds_toArray, List.set_cons_zero, List.set_cons_succ]
              (refine takeE Ext.tr 13 (by simp only [List.getElem?_toArray, List.getElem?_cons_succ, List.getElem?_cons_zero]; rfl) (by kernel_rfl) (by kernel_rfl) (by kernel_rfl) (by exact fun _ _ _ h => h) (by first | (refine Or.inl ⟨by rfl, ?_⟩; intro W hW; go_simp; try with_reducible rfl) | exact Or.inr ⟨by rfl, rfl⟩) ?_; try simp only [Act.put, List.setIfInBounds_toArray, List.set_cons_zero, List.set_cons_succ])
              (refine takeE Ext.tr 14 (by simp only [List.getElem?_toArray, List.getElem?_cons_succ, List.getElem?_cons_zero]; rfl) (by kernel_rfl) (by kernel_rfl) (by kernel_rfl) (by exact fun _ _ _ h => h) (by first | (refine Or.inl ⟨by rfl, ?_⟩; intro W hW; go_simp; try with_reducible rfl) | exact Or.inr ⟨by rfl, rfl⟩) ?_; try simp only [Act.put, List.setIfInBounds_toArray, List.set_cons_zero, List.set_cons_succ])
              (refine takeE Ext.tr 15 (by simp only [List.getElem?_toArray, List.getElem?_cons_succ, List.getElem?_cons_zero]; rfl) (by kernel_rfl) (by kernel_rfl) (by kernel_rfl) (by exact fun _ _ _ h => h) (by first | (refine Or.inl ⟨by rfl, ?_⟩; intro W hW; go_simp; try with_reducible rfl) | exact Or.inr ⟨by rfl, rfl⟩) ?_; try simp only [Act.put, List.setIfInBounds_toArray, List.set_cons_zero, List.set_cons_succ])
              (refine takeE Ext.tr 16 (by simp only [List.getElem?_toArray, List.getElem?_cons_succ, List.getElem?_cons_zero]; rfl) (by kernel_rfl) (by kernel_rfl) (by kernel_rfl) (by exact fun _ _ _ h => h) (by first | (refine Or.inl ⟨by rfl, ?_⟩; intro W hW; go_simp; try with_reducible rfl) | exact Or.inr ⟨by rfl, rfl⟩) ?_; try simp only [Act.put, List.setIfInBounds_toArray, List.set_cons_zero, List.set_cons_succ])
              (refine takeE Ext.tr 17 (by simp only [List.getElem?_toArray, List.getElem?_cons_succ, List.getElem?_cons_zero]; rfl) (by kernel_rfl) (by kernel_rfl) (by kernel_rfl) (by exact fun _ _ _ h => h) (by first | (refine Or.inl ⟨by rfl, ?_⟩; intro W hW; go_simp; try with_reducible rfl) | exact Or.inr ⟨by rfl, rfl⟩) ?_; try simp only [Act.put, List.setIfInBounds_toArray, List.set_cons_zero, List.set_cons_succ])
              (refine takeE Ext.tr 18 (by simp only [List.getElem?_toArray, List.getElem?_cons_succ, List.getElem?_cons_zero]; rfl) (by kernel_rfl) (by kernel_rfl) (by kernel_rfl) (by exact fun _ _ _ h => h) (by first | (refine Or.inl ⟨by rfl, ?_⟩; intro W hW; go_simp; try with_reducible rfl) | exact Or.inr ⟨by rfl, rfl⟩) ?_; try simp only [Act.put, List.setIfInBounds_toArray, List.set_cons_zero, List.set_cons_succ])
              (refine takeE Ext.tr 24 (by simp only [List.getElem?_toArray, List.getElem?_cons_succ, List.getElem?_cons_zero]; rfl) (by kernel_rfl) (by kernel_rfl) (by kernel_rfl) (by exact fun _ _ _ h => h) (by first | (refine Or.inl ⟨by rfl, ?_⟩; intro W hW; go_simp; try with_reducible rfl) | exact Or.inr ⟨by rfl, rfl⟩) ?_; try simp only [Act.put, List.setIfInBounds_toArray, List.set_cons_zero, List.set_cons_succ])
              (refine takeE Ext.tr 19 (by simp only [List.getElem?_toArray, List.getElem?_cons_succ, List.getElem?_cons_zero]; rfl) (by kernel_rfl) (by kernel_rfl) (by kernel_rfl) (by exact fun _ _ _ h => h) (by first | (refine Or.inl ⟨by rfl, ?_⟩; intro W hW; go_simp; try with_reducible rfl) | exact Or.inr ⟨by rfl, rfl⟩) ?_; try simp only [Act.put, List.setIfInBounds_toArray, List.set_cons_zero, List.set_cons_succ])
              (refine takeE Ext.tr 25 (by simp only [List.getElem?_toArray, List.getElem?_cons_succ, List.getElem?_cons_zero]; rfl) (by kernel_rfl) (by kernel_rfl) (by kernel_rfl) (by exact fun _ _ _ h => h) (by first | (refine Or.inl ⟨by rfl, ?_⟩; intro W hW; go_simp; try with_reducible rfl) | exact Or.inr ⟨by rfl, rfl⟩) ?_; try simp only [Act.put, List.setIfInBounds_toArray, List.set_cons_zero, List.set_cons_succ])
              (refine takeE Ext.tr 20 (by simp only [List.getElem?_toArray, List.getElem?_cons_succ, List.getElem?_cons_zero]; rfl) (by kernel_rfl) (by kernel_rfl) (by kernel_rfl) (by exact fun _ _ _ h => h) (by first | (refine Or.inl ⟨by rfl, ?_⟩; intro W hW; go_simp; try with_reducible rfl) | exact Or.inr ⟨by rfl, rfl⟩) ?_; try simp only [Act.put, List.setIfInBounds_toArray, List.set_cons_zero, List.set_cons_succ])
              (refine takeE Ext.tr 21 (by simp only [List.getElem?_toArray, List.getElem?_cons_succ, List.getElem?_cons_zero]; rfl) (by kernel_rfl) (by kernel_rfl) (by kernel_rfl) (by exact fun _ _ _ h => h) (by first | (refine Or.inl ⟨by rfl, ?_⟩; intro W hW; go_simp; try with_reducible rfl) | exact Or.inr ⟨by rfl, rfl⟩) ?_; try simp only [Act.put, List.setIfInBounds_toArray, List.set_cons_zero, List.set_cons_succ])
              refine wpAnyE_one (i := 22) (by kernel_rfl) (by simp only [List.getElem?_toArray, List.getElem?_cons_succ, List.getElem?_cons_zero]; rfl) (fun K hK => ?_)
              go_simp
              refine (l_of ov.k _).mono ?_
              rintro en u3 ⟨rfl, hE2⟩
              have hE3 := hE2
              clear q1 q2 q3 q4 q5 q6
              replace hE := below_on hE hE2
              have q1 : ∀ V, Ext u3 V → V.cell? ⟨go_, oo + i * 5 + 1, none⟩ = some (.int .i64 ov.k.s) := fun V hV => range_belowB HOR.out.1 HOR.out.2.1 (below_on HXd.out.1.bel (below_on hE hV)) 1 _ rfl
              have q2 : ∀ V, Ext u3 V → V.cell? ⟨go_, oo + i * 5 + 2, none⟩ = some (.int .i64 ov.k.c) := fun V hV => range_belowB HOR.out.1 HOR.out.2.1 (below_on HXd.out.1.bel (below_on hE hV)) 2 _ rfl
              have q3 : ∀ V, Ext u3 V → V.cell? ⟨gx, 3, none⟩ = some (.int .i64 (ofKey ((m.step ov)).L ov.k).p) := fun V hV => (HXd.out.2.below (below_on hE hV)).cell 3 rfl
              have q4 : ∀ V, Ext u3 V → V.cell? ⟨gx, 4, none⟩ = some (.int .i64 (ofKey ((m.step ov)).L ov.k).i) := fun V hV => (HXd.out.2.below (below_on hE hV)).cell 4 rfl
              have q5 : ∀ V, Ext u3 V → V.cell? ⟨b, 5, none⟩ = some (.int .i64 ((m.step ov)).total) := fun V hV => (HXd.out.1.bx.below (below_on hE hV)).cell 5 rfl
              have q6 : ∀ V, Ext u3 V → V.cell? ⟨b, 0, none⟩ = some (.slice v2.A v2.n v2.c) := fun V hV => (HXd.out.1.bx.below (below_on hE hV)).cell 0 rfl
              clear hE2
              refine hK.out _ _ hE3 ?_
              clear hK K
              try simp only [Act.put, List.setIfInBounds_toArray, List.set_cons_zero, List.set_cons_succ]
              refine wpAnyE_one (i := 23) (by kernel_rfl) (by simp only [List.getElem?_toArray, List.getElem?_cons_succ, List.getElem?_cons_zero]; rfl) (fun K hK => ?_)
              go_simp
              refine (p_issued (HXd.out.1.q.below hE) ov.k).mono ?_
              rintro en u4 ⟨rfl, hE2⟩
              have hE3 := hE2
              clear q1 q2 q3 q4 q5 q6
              replace hE := below_on hE hE2
              have q1 : ∀ V, Ext u4 V → V.cell? ⟨go_, oo + i * 5 + 1, none⟩ = some (.int .i64 ov.k.s) := fun V hV => range_belowB HOR.out.1 HOR.out.2.1 (below_on HXd.out.1.bel (below_on hE hV)) 1 _ rfl
              have q2 : ∀ V, Ext u4 V → V.cell? ⟨go_, oo + i * 5 + 2, none⟩ = some (.int .i64 ov.k.c) := fun V hV => range_belowB HOR.out.1 HOR.out.2.1 (below_on HXd.out.1.bel (below_on hE hV)) 2 _ rfl
              have q3 : ∀ V, Ext u4 V → V.cell? ⟨gx, 3, none⟩ = some (.int .i64 (ofKey ((m.step ov)).L ov.k).p) := fun V hV => (HXd.out.2.below (below_on hE hV)).cell 3 rfl
              have q4 : ∀ V, Ext u4 V → V.cell? ⟨gx, 4, none⟩ = some (.int .i64 (ofKey ((m.step ov)).L ov.k).i) := fun V hV => (HXd.out.2.below (below_on hE hV)).cell 4 rfl
              have q5 : ∀ V, Ext u4 V → V.cell? ⟨b, 5, none⟩ = some (.int .i64 ((m.step ov)).total) := fun V hV => (HXd.out.1.bx.below (below_on hE hV)).cell 5 rfl
              have q6 : ∀ V, Ext u4 V → V.cell? ⟨b, 0, none⟩ = some (.slice v2.A v2.n v2.c) := fun V hV => (HXd.out.1.bx.below (below_on hE hV)).cell 0 rfl
              clear hE2
              refine hK.out _ _ hE3 ?_
              clear hK K
              try simp only [Act.put, List.setIfInBounds_toArray, List.set_cons_zero, List.set_cons_succ]
              (refine takeE Ext.tr 26 (by simp only [List.getElem?_toArray, List.getElem?_cons_succ, List.getElem?_cons_zero]; rfl) (by kernel_rfl) (by kernel_rfl) (by kernel_rfl) (by exact fun _ _ _ h => h) (by first | (refine Or.inl ⟨by rfl, ?_⟩; intro W hW; go_simp; try with_reducible rfl) | exact Or.inr ⟨by rfl, rfl⟩) ?_; try simp only [Act.put, List.setIfInBounds_toArray, List.set_cons_zero, List.set_cons_succ])
              (refine takeE Ext.tr 27 (by simp only [List.getElem?_toArray, List.getElem?_cons_succ, List.getElem?_cons_zero]; rfl) (by kernel_rfl) (by kernel_rfl) (by kernel_rfl) (by exact fun _ _ _ h => h) (by first | (refine Or.inl ⟨by rfl, ?_⟩; intro W hW; go_simp; try with_reducible rfl) | exact Or.inr ⟨by rfl, rfl⟩) ?_; try simp only [Act.put, List.setIfInBounds_toArray, List.set_cons_zero, List.set_cons_succ])
              (refine takeE Ext.tr 28 (by simp only [List.getElem?_toArray, List.getElem?_cons_succ, List.getElem?_cons_zero]; rfl) (by kernel_rfl) (by kernel_rfl) (by kernel_rfl) (by exact fun _ _ _ h => h) (by first | (refine Or.inl ⟨by rfl, ?_⟩; intro W hW; go_simp; try with_reducible rfl) | exact Or.inr ⟨by rfl, rfl⟩) ?_; try simp only [Act.put, List.setIfInBounds_toArray, List.set_cons_zero, List.set_cons_succ])
              (refine takeE Ext.tr 29 (by simp only [List.getElem?_toArray, List.getElem?_cons_succ, List.getElem?_cons_zero]; rfl) (by kernel_rfl) (by kernel_rfl) (by kernel_rfl) (by exact fun _ _ _ h => h) (by first | (refine Or.inl ⟨by rfl, ?_⟩; intro W hW; go_simp; try with_reducible rfl) | exact Or.inr ⟨by rfl, rfl⟩) ?_; try simp only [Act.put, List.setIfInBounds_toArray, List.set_cons_zero, List.set_cons_succ])
              (refine takeE Ext.tr 31 (by simp only [List.getElem?_toArray, List.getElem?_cons_succ, List.getElem?_cons_zero]; rfl) (by kernel_rfl) (by kernel_rfl) (by kernel_rfl) (by exact fun _ _ _ h => h) (by first | (refine Or.inl ⟨by rfl, ?_⟩; intro W hW; go_simp; try with_reducible rfl) | exact Or.inr ⟨by rfl, rfl⟩) ?_; try simp only [Act.put, List.setIfInBounds_toArray, List.set_cons_zero, List.set_cons_succ])
              (refine takeE Ext.tr 32 (by simp only [List.getElem?_toArray, List.getElem?_cons_succ, List.getElem?_cons_zero]; rfl) (by kernel_rfl) (by kernel_rfl) (by kernel_rfl) (by exact fun _ _ _ h => h) (by first | (refine Or.inl ⟨by rfl, ?_⟩; intro W hW; go_simp; try with_reducible rfl) | exact Or.inr ⟨by rfl, rfl⟩) ?_; try simp only [Act.put, List.setIfInBounds_toArray, List.set_cons_zero, List.set_cons_succ])
              refine wpAnyE_one (i := 30) (by kernel_rfl) (by simp only [List.getElem?_toArray, List.getElem?_cons_succ, List.getElem?_cons_zero]; rfl) (fun K hK => ?_)
              go_simp
              refine (p_total (HXd.out.1.q.below hE)).mono ?_
              rintro en v1 ⟨rfl, rfl⟩
              refine hK.out _ _ (Ext.refl _) ?_
              clear hK K
              try simp only [Act.put, List.setIfInBounds_toArray, List.set_cons_zero, List.set_cons_succ]
              (refine takeE Ext.tr 33 (by simp only [List.getElem?_toArray, List.getElem?_cons_succ, List.getElem?_cons_zero]; rfl) (by kernel_rfl) (by kernel_rfl) (by kernel_rfl) (by exact fun _ _ _ h => h) (by first | (refine Or.inl ⟨by rfl, ?_⟩; intro W hW; go_simp; try with_reducible rfl) | exact Or.inr ⟨by rfl, rfl⟩) ?_; try simp only [Act.put, List.setIfInBounds_toArray, List.set_cons_zero, List.set_cons_succ])
              (refine takeE Ext.tr 34 (by simp only [List.getElem?_toArray, List.getElem?_cons_succ, List.getElem?_cons_zero]; rfl) (by kernel_rfl) (by kernel_rfl) (by kernel_rfl) (by exact fun _ _ _ h => h) (by first | (refine Or.inl ⟨by rfl, ?_⟩; intro W hW; go_simp; try with_reducible rfl) | exact Or.inr ⟨by rfl, rfl⟩) ?_; try simp only [Act.put, List.setIfInBounds_toArray, List.set_cons_zero, List.set_cons_succ])
              (refine takeE Ext.tr 35 (by simp only [List.getElem?_toArray, List.getElem?_cons_succ, List.getElem?_cons_zero]; rfl) (by kernel_rfl) (by kernel_rfl) (by kernel_rfl) (by exact fun _ _ _ h => h) (by first | (refine Or.inl ⟨by rfl, ?_⟩; intro W hW; go_simp; try with_reducible rfl) | exact Or.inr ⟨by rfl, rfl⟩) ?_; try simp only [Act.put, List.setIfInBounds_toArray, List.set_cons_zero, List.set_cons_succ])
              (refine takeE Ext.tr 36 (by simp only [List.getElem?_toArray, List.getElem?_cons_succ, List.getElem?_cons_zero]; rfl) (by kernel_rfl) (by kernel_rfl) (by kernel_rfl) (by exact fun _ _ _ h => h) (by first | (refine Or.inl ⟨by rfl, ?_⟩; intro W hW; go_simp; try with_reducible rfl) | exact Or.inr ⟨by rfl, rfl⟩) ?_; try simp only [Act.put, List.setIfInBounds_toArray, List.set_cons_zero, List.set_cons_succ])
              (refine takeE Ext.tr 38 (by simp only [List.getElem?_toArray, List.getElem?_cons_succ, List.getElem?_cons_zero]; rfl) (by kernel_rfl) (by kernel_rfl) (by kernel_rfl) (by exact fun _ _ _ h => h) (by first | (refine Or.inl ⟨by rfl, ?_⟩; intro W hW; go_simp; try with_reducible rfl) | exact Or.inr ⟨by rfl, rfl⟩) ?_; try simp only [Act.put, List.setIfInBounds_toArray, List.set_cons_zero, List.set_cons_succ])
              (refine takeE Ext.tr 39 (by simp only [List.getElem?_toArray, List.getElem?_cons_succ, List.getElem?_cons_zero]; rfl) (by kernel_rfl) (by kernel_rfl) (by kernel_rfl) (by exact fun _ _ _ h => h) (by first | (refine Or.inl ⟨by rfl, ?_⟩; intro W hW; go_simp; try with_reducible rfl) | exact Or.inr ⟨by rfl, rfl⟩) ?_; try simp only [Act.put, List.setIfInBounds_toArray, List.set_cons_zero, List.set_cons_succ])
              (refine takeE Ext.tr 40 (by simp only [List.getElem?_toArray, List.getElem?_cons_succ, List.getElem?_cons_zero]; rfl) (by kernel_rfl) (by kernel_rfl) (by kernel_rfl) (by exact fun _ _ _ h => h) (by first | (refine Or.inl ⟨by rfl, ?_⟩; intro W hW; go_simp; try with_reducible rfl) | exact Or.inr ⟨by rfl, rfl⟩) ?_; try simp only [Act.put, List.setIfInBounds_toArray, List.set_cons_zero, List.set_cons_succ])
              refine wpAnyE_one (i := 37) (by kernel_rfl) (by simp only [List.getElem?_toArray, List.getElem?_cons_succ, List.getElem?_cons_zero]; rfl) (fun K hK => ?_)
              go_simp
              refine (p_len (HXd.out.1.q.below hE)).mono ?_
              rintro en v1 ⟨rfl, rfl⟩
              refine hK.out _ _ (Ext.refl _) ?_
              clear hK K
              try simp only [Act.put, List.setIfInBounds_toArray, List.set_cons_zero, List.set_cons_succ]
              (refine takeE Ext.tr 41 (by simp only [List.getElem?_toArray, List.getElem?_cons_succ, List.getElem?_cons_zero]; rfl) (by kernel_rfl) (by kernel_rfl) (by kernel_rfl) (by exact fun _ _ _ h => h) (by first | (refine Or.inl ⟨by rfl, ?_⟩; intro W hW; go_simp; try with_reducible rfl) | exact Or.inr ⟨by rfl, rfl⟩) ?_; try simp only [Act.put, List.setIfInBounds_toArray, List.set_cons_zero, List.set_cons_succ])
              (refine takeE Ext.tr 42 (by simp only [List.getElem?_toArray, List.getElem?_cons_succ, List.getElem?_cons_zero]; rfl) (by kernel_rfl) (by kernel_rfl) (by kernel_rfl) (by exact fun _ _ _ h => h) (by first | (refine Or.inl ⟨by rfl, ?_⟩; intro W hW; go_simp; try with_reducible rfl) | exact Or.inr ⟨by rfl, rfl⟩) ?_; try simp only [Act.put, List.setIfInBounds_toArray, List.set_cons_zero, List.set_cons_succ])
              refine wpAnyE_done (by kernel_rfl) ?_ _
              clear q1 q2 q3 q4 q5 q6 hln
              have HJ9 := Lib.hid (HXd.out.1.next hE)
              clear hE HX
              go_wp2_with fail
              refine wp_region_E Ext (by kernel_rfl) (fun wd hbd hsz => ?_)
              have HJd9 := Lib.hid (HJ9.out.next hbd)
              have hE : Below wd.heap.size wd wd := Below.refl _ _
              have HL0 := Lib.hid HJ9.out.ok.len0
              have HL1 := Lib.hid HJ9.out.ok.len1
              have q7 : ∀ V, Ext wd V → V.cell? ⟨b, 1, none⟩ = some (.slice v2.B v2.k v2.d) := fun V hV => (HJd9.out.bx.below (below_on hE hV)).cell 1 rfl
              have q8 : ∀ V, Ext wd V → V.cell? ⟨b, 2, none⟩ = some (.slice v2.C v2.r v2.e) := fun V hV => (HJd9.out.bx.below (below_on hE hV)).cell 2 rfl
              clear hsz
              (refine takeE Ext.tr 0 (by simp only [List.getElem?_toArray, List.getElem?_cons_succ, List.getElem?_cons_zero]; rfl) (by kernel_rfl) (by kernel_rfl) (by kernel_rfl) (by exact fun _ _ _ h => h) (by first | (refine Or.inl ⟨by rfl, ?_⟩; intro W hW; go_simp; try with_reducible rfl) | exact Or.inr ⟨by rfl, rfl⟩) ?_; try simp only [Act.put, List.setIfInBounds_toArray, List.set_cons_zero, List.set_cons_succ])
              (refine takeE Ext.tr 3 (by simp only [List.getElem?_toArray, List.getElem?_cons_succ, List.getElem?_cons_zero]; rfl) (by kernel_rfl) (by kernel_rfl) (by kernel_rfl) (by exact fun _ _ _ h => h) (by first | (refine Or.inl ⟨by rfl, ?_⟩; intro W hW; go_simp; try with_reducible rfl) | exact Or.inr ⟨by rfl, rfl⟩) ?_; try simp only [Act.put, List.setIfInBounds_toArray, List.set_cons_zero, List.set_cons_succ])
              (refine takeE Ext.tr 4 (by simp only [List.getElem?_toArray, List.getElem?_cons_succ, List.getElem?_cons_zero]; rfl) (by kernel_rfl) (by kernel_rfl) (by kernel_rfl) (by exact fun _ _ _ h => h) (by first | (refine Or.inl ⟨by rfl, ?_⟩; intro W hW; go_simp; try with_reducible rfl) | exact Or.inr ⟨by rfl, rfl⟩) ?_; try simp only [Act.put, List.setIfInBounds_toArray, List.set_cons_zero, List.set_cons_succ])
              refine wpAnyE_one (i := 1) (by kernel_rfl) (by simp only [List.getElem?_toArray, List.getElem?_cons_succ, List.getElem?_cons_zero]; rfl) (fun K hK => ?_)
              go_simp
              refine (p_qs (HJd9.out.q.below hE) 0 (q := ((m.step ov)).q0) rfl).mono ?_
              rintro en t1 ⟨qA0, qn0, qc0, rfl, hn0, hl0, hE2⟩
              have hE3 := hE2
              clear q7 q8
              replace hE := below_on hE hE2
              have q7 : ∀ V, Ext t1 V → V.cell? ⟨b, 1, none⟩ = some (.slice v2.B v2.k v2.d) := fun V hV => (HJd9.out.bx.below (below_on hE hV)).cell 1 rfl
              have q8 : ∀ V, Ext t1 V → V.cell? ⟨b, 2, none⟩ = some (.slice v2.C v2.r v2.e) := fun V hV => (HJd9.out.bx.below (below_on hE hV)).cell 2 rfl
              have HQ0 := Lib.hid (And.intro hn0 hl0)
              clear hE2 hn0 hl0
              refine hK.out _ _ hE3 ?_
              clear hK K
              try simp only [Act.put, List.setIfInBounds_toArray, List.set_cons_zero, List.set_cons_succ]
              refine wpAnyE_one (i := 2) (by kernel_rfl) (by simp only [List.getElem?_toArray, List.getElem?_cons_succ, List.getElem?_cons_zero]; rfl) (fun K hK => ?_)
              go_simp
              refine (l_back HQ0.out.2 HQ0.out.1 (by have h1 := HL0.out; have h2 := HQ0.out.1; omega)).mono ?_
              rintro en t2 ⟨qB0, qm0, qd0, rfl, hk0, hE2⟩
              have hE3 := hE2
              clear q7 q8
              replace hE := below_on hE hE2
              have q7 : ∀ V, Ext t2 V → V.cell? ⟨b, 1, none⟩ = some (.slice v2.B v2.k v2.d) := fun V hV => (HJd9.out.bx.below (below_on hE hV)).cell 1 rfl
              have q8 : ∀ V, Ext t2 V → V.cell? ⟨b, 2, none⟩ = some (.slice v2.C v2.r v2.e) := fun V hV => (HJd9.out.bx.below (below_on hE hV)).cell 2 rfl
              have HK0 := Lib.hid hk0
              clear hE2 hk0 HQ0
              refine hK.out _ _ hE3 ?_
              clear hK K
              try simp only [Act.put, List.setIfInBounds_toArray, List.set_cons_zero, List.set_cons_succ]
              refine wpAnyE_one (i := 5) (by kernel_rfl) (by simp only [List.getElem?_toArray, List.getElem?_cons_succ, List.getElem?_cons_zero]; rfl) (fun K hK => ?_)
              go_simp
              refine (r_same HK0.out (HJd9.out.r.p.below hE) (by rw [HK0.out.1]; have := HL0.out; omega)).mono ?_
              rintro en t3 ⟨rfl, hE2⟩
              have hE3 := hE2
              clear q7 q8
              replace hE := below_on hE hE2
              have q7 : ∀ V, Ext t3 V → V.cell? ⟨b, 1, none⟩ = some (.slice v2.B v2.k v2.d) := fun V hV => (HJd9.out.bx.below (below_on hE hV)).cell 1 rfl
              have q8 : ∀ V, Ext t3 V → V.cell? ⟨b, 2, none⟩ = some (.slice v2.C v2.r v2.e) := fun V hV => (HJd9.out.bx.below (below_on hE hV)).cell 2 rfl
              clear hE2 HK0
              refine hK.out _ _ hE3 ?_
              clear hK K
              try simp only [Act.put, List.setIfInBounds_toArray, List.set_cons_zero, List.set_cons_succ]
              (refine takeE Ext.tr 6 (by simp only [List.getElem?_toArray, List.getElem?_cons_succ, List.getElem?_cons_zero]; rfl) (by kernel_rfl) (by kernel_rfl) (by kernel_rfl) (by exact fun _ _ _ h => h) (by first | (refine Or.inl ⟨by rfl, ?_⟩; intro W hW; go_simp; try with_reducible rfl) | exact Or.inr ⟨by rfl, rfl⟩) ?_; try simp only [Act.put, List.setIfInBounds_toArray, List.set_cons_zero, List.set_cons_succ])
              (refine takeE Ext.tr 7 (by simp only [List.getElem?_toArray, List.getElem?_cons_succ, List.getElem?_cons_zero]; rfl) (by kernel_rfl) (by kernel_rfl) (by kernel_rfl) (by exact fun _ _ _ h => h) (by first | (refine Or.inl ⟨by rfl, ?_⟩; intro W hW; go_simp; try with_reducible rfl) | exact Or.inr ⟨by rfl, rfl⟩) ?_; try simp only [Act.put, List.setIfInBounds_toArray, List.set_cons_zero, List.set_cons_succ])
              (refine takeE Ext.tr 8 (by simp only [List.getElem?_toArray, List.getElem?_cons_succ, List.getElem?_cons_zero]; rfl) (by kernel_rfl) (by kernel_rfl) (by kernel_rfl) (by exact fun _ _ _ h => h) (by first | (refine Or.inl ⟨by rfl, ?_⟩; intro W hW; go_simp; try with_reducible rfl) | exact Or.inr ⟨by rfl, rfl⟩) ?_; try simp only [Act.put, List.setIfInBounds_toArray, List.set_cons_zero, List.set_cons_succ])
              (refine takeE Ext.tr 11 (by simp only [List.getElem?_toArray, List.getElem?_cons_succ, List.getElem?_cons_zero]; rfl) (by kernel_rfl) (by kernel_rfl) (by kernel_rfl) (by exact fun _ _ _ h => h) (by first | (refine Or.inl ⟨by rfl, ?_⟩; intro W hW; go_simp; try with_reducible rfl) | exact Or.inr ⟨by rfl, rfl⟩) ?_; try simp only [Act.put, List.setIfInBounds_toArray, List.set_cons_zero, List.set_cons_succ])
              (refine takeE Ext.tr 12 (by simp only [List.getElem?_toArray, List.getElem?_cons_succ, List.getElem?_cons_zero]; rfl) (by kernel_rfl) (by kernel_rfl) (by kernel_rfl) (by exact fun _ _ _ h => h) (by first | (refine Or.inl ⟨by rfl, ?_⟩; intro W hW; go_simp; try with_reducible rfl) | exact Or.inr ⟨by rfl, rfl⟩) ?_; try simp only [Act.put, List.setIfInBounds_toArray, List.set_cons_zero, List.set_cons_succ])
              refine wpAnyE_one (i := 9) (by kernel_rfl) (by simp only [List.getElem?_toArray, List.getElem?_cons_succ, List.getElem?_cons_zero]; rfl) (fun K hK => ?_)
              go_simp
              refine (p_qs (HJd9.out.q.below hE) 1 (q := ((m.step ov)).q1) rfl).mono ?_
              rintro en t4 ⟨qA1, qn1, qc1, rfl, hn1, hl1, hE2⟩
              have hE3 := hE2
              clear q7 q8
              replace hE := below_on hE hE2
              have q7 : ∀ V, Ext t4 V → V.cell? ⟨b, 1, none⟩ = some (.slice v2.B v2.k v2.d) := fun V hV => (HJd9.out.bx.below (below_on hE hV)).cell 1 rfl
              have q8 : ∀ V, Ext t4 V → V.cell? ⟨b, 2, none⟩ = some (.slice v2.C v2.r v2.e) := fun V hV => (HJd9.out.bx.below (below_on hE hV)).cell 2 rfl
              have HQ1 := Lib.hid (And.intro hn1 hl1)
              clear hE2 hn1 hl1
              refine hK.out _ _ hE3 ?_
              clear hK K
              try simp only [Act.put, List.setIfInBounds_toArray, List.set_cons_zero, List.set_cons_succ]
              refine wpAnyE_one (i := 10) (by kernel_rfl) (by simp only [List.getElem?_toArray, List.getElem?_cons_succ, List.getElem?_cons_zero]; rfl) (fun K hK => ?_)
              go_simp
              refine (l_back HQ1.out.2 HQ1.out.1 (by have h1 := HL1.out; have h2 := HQ1.out.1; omega)).mono ?_
              rintro en t5 ⟨qB1, qm1, qd1, rfl, hk1, hE2⟩
              have hE3 := hE2
              clear q7 q8
              replace hE := below_on hE hE2
              have q7 : ∀ V, Ext t5 V → V.cell? ⟨b, 1, none⟩ = some (.slice v2.B v2.k v2.d) := fun V hV => (HJd9.out.bx.below (below_on hE hV)).cell 1 rfl
              have q8 : ∀ V, Ext t5 V → V.cell? ⟨b, 2, none⟩ = some (.slice v2.C v2.r v2.e) := fun V hV => (HJd9.out.bx.below (below_on hE hV)).cell 2 rfl
              have HK1 := Lib.hid hk1
              clear hE2 hk1 HQ1
              refine hK.out _ _ hE3 ?_
              clear hK K
              try simp only [Act.put, List.setIfInBounds_toArray, List.set_cons_zero, List.set_cons_succ]
              refine wpAnyE_one (i := 13) (by kernel_rfl) (by simp only [List.getElem?_toArray, List.getElem?_cons_succ, List.getElem?_cons_zero]; rfl) (fun K hK => ?_)
              go_simp
              refine (r_same HK1.out (HJd9.out.r.u.below hE) (by rw [HK1.out.1]; have := HL1.out; omega)).mono ?_
              rintro en t6 ⟨rfl, hE2⟩
              have hE3 := hE2
              clear q7 q8
              replace hE := below_on hE hE2
              have q7 : ∀ V, Ext t6 V → V.cell? ⟨b, 1, none⟩ = some (.slice v2.B v2.k v2.d) := fun V hV => (HJd9.out.bx.below (below_on hE hV)).cell 1 rfl
              have q8 : ∀ V, Ext t6 V → V.cell? ⟨b, 2, none⟩ = some (.slice v2.C v2.r v2.e) := fun V hV => (HJd9.out.bx.below (below_on hE hV)).cell 2 rfl
              clear hE2 HK1
              refine hK.out _ _ hE3 ?_
              clear hK K
              try simp only [Act.put, List.setIfInBounds_toArray, List.set_cons_zero, List.set_cons_succ]
              (refine takeE Ext.tr 14 (by simp only [List.getElem?_toArray, List.getElem?_cons_succ, List.getElem?_cons_zero]; rfl) (by kernel_rfl) (by kernel_rfl) (by kernel_rfl) (by exact fun _ _ _ h => h) (by first | (refine Or.inl ⟨by rfl, ?_⟩; intro W hW; go_simp; try with_reducible rfl) | exact Or.inr ⟨by rfl, rfl⟩) ?_; try simp only [Act.put, List.setIfInBounds_toArray, List.set_cons_zero, List.set_cons_succ])
              (refine takeE Ext.tr 15 (by simp only [List.getElem?_toArray, List.getElem?_cons_succ, List.getElem?_cons_zero]; rfl) (by kernel_rfl) (by kernel_rfl) (by kernel_rfl) (by exact fun _ _ _ h => h) (by first | (refine Or.inl ⟨by rfl, ?_⟩; intro W hW; go_simp; try with_reducible rfl) | exact Or.inr ⟨by rfl, rfl⟩) ?_; try simp only [Act.put, List.setIfInBounds_toArray, List.set_cons_zero, List.set_cons_succ])
              (refine takeE Ext.tr 16 (by simp only [List.getElem?_toArray, List.getElem?_cons_succ, List.getElem?_cons_zero]; rfl) (by kernel_rfl) (by kernel_rfl) (by kernel_rfl) (by exact fun _ _ _ h => h) (by first | (refine Or.inl ⟨by rfl, ?_⟩; intro W hW; go_simp; try with_reducible rfl) | exact Or.inr ⟨by rfl, rfl⟩) ?_; try simp only [Act.put, List.setIfInBounds_toArray, List.set_cons_zero, List.set_cons_succ])
              (refine takeE Ext.tr 17 (by simp only [List.getElem?_toArray, List.getElem?_cons_succ, List.getElem?_cons_zero]; rfl) (by kernel_rfl) (by kernel_rfl) (by kernel_rfl) (by exact fun _ _ _ h => h) (by first | (refine Or.inl ⟨by rfl, ?_⟩; intro W hW; go_simp; try with_reducible rfl) | exact Or.inr ⟨by rfl, rfl⟩) ?_; try simp only [Act.put, List.setIfInBounds_toArray, List.set_cons_zero, List.set_cons_succ])
              refine wpAnyE_one (i := 18) (by kernel_rfl) (by simp only [List.getElem?_toArray, List.getElem?_cons_succ, List.getElem?_cons_zero]; rfl) (fun K hK => ?_)
              go_simp
              refine (p_qs (HJd9.out.q.below hE) 2 (q := []) rfl).mono ?_
              rintro en t7 ⟨qA2, qn2, qc2, rfl, hn2, hl2, hE2⟩
              have hE3 := hE2
              clear q7 q8
              replace hE := below_on hE hE2
              have q7 : ∀ V, Ext t7 V → V.cell? ⟨b, 1, none⟩ = some (.slice v2.B v2.k v2.d) := fun V hV => (HJd9.out.bx.below (below_on hE hV)).cell 1 rfl
              have q8 : ∀ V, Ext t7 V → V.cell? ⟨b, 2, none⟩ = some (.slice v2.C v2.r v2.e) := fun V hV => (HJd9.out.bx.below (below_on hE hV)).cell 2 rfl
              obtain rfl : qn2 = 0 := hn2
              clear hE2
              refine hK.out _ _ hE3 ?_
              clear hK K
              try simp only [Act.put, List.setIfInBounds_toArray, List.set_cons_zero, List.set_cons_succ]
              (refine takeE Ext.tr 19 (by simp only [List.getElem?_toArray, List.getElem?_cons_succ, List.getElem?_cons_zero]; rfl) (by kernel_rfl) (by kernel_rfl) (by kernel_rfl) (by exact fun _ _ _ h => h) (by first | (refine Or.inl ⟨by rfl, ?_⟩; intro W hW; go_simp; try with_reducible rfl) | exact Or.inr ⟨by rfl, rfl⟩) ?_; try simp only [Act.put, List.setIfInBounds_toArray, List.set_cons_zero, List.set_cons_succ])
              (refine takeE Ext.tr 20 (by simp only [List.getElem?_toArray, List.getElem?_cons_succ, List.getElem?_cons_zero]; rfl) (by kernel_rfl) (by kernel_rfl) (by kernel_rfl) (by exact fun _ _ _ h => h) (by first | (refine Or.inl ⟨by rfl, ?_⟩; intro W hW; go_simp; try with_reducible rfl) | exact Or.inr ⟨by rfl, rfl⟩) ?_; try simp only [Act.put, List.setIfInBounds_toArray, List.set_cons_zero, List.set_cons_succ])
              (refine takeE Ext.tr 21 (by simp only [List.getElem?_toArray, List.getElem?_cons_succ, List.getElem?_cons_zero]; rfl) (by kernel_rfl) (by kernel_rfl) (by kernel_rfl) (by exact fun _ _ _ h => h) (by first | (refine Or.inl ⟨by rfl, ?_⟩; intro W hW; go_simp; try with_reducible rfl) | exact Or.inr ⟨by rfl, rfl⟩) ?_; try simp only [Act.put, List.setIfInBounds_toArray, List.set_cons_zero, List.set_cons_succ])
              refine wpAnyE_done (by kernel_rfl) ?_ _
              clear q7 q8
              have HJX := Lib.hid (HJd9.out.next hE)
              clear hE
              go_wp2
              go_roundw
              case rel => exact ⟨i + 1, _, by go_num, by have := HLT.out; omega, rfl, p, F6, v2, (m.step ov), rfl, HJX.out, HT2.out⟩
              case measure => have := HLT.out; simp [intOf]; omega
          ·
            go_simp
            have hza : Below wd.heap.size wd (wd.alloc (.cells #[.slice none 0 0, .slice none 0 0, .slice none 0 0, .int .i64 0, .int .i64 0, .int .i64 0] 30)) := (Below.refl _ _).alloc (Nat.le_refl _) _
            have hzn := Bk.new wd 30 [.slice none 0 0, .slice none 0 0, .slice none 0 0, .int .i64 0, .int .i64 0, .int .i64 0]
            have HZA := Lib.hid (And.intro hza hzn)
            clear hza hzn
            refine hK.out _ _ (St.alloc _ _ _) ?_
            clear hK K
            try simp only [Act.put, List.setIfInBounds_toArray, List.set_cons_zero, List.set_cons_succ]
            refine wpAnyE_one (i := 6) (by kernel_rfl) (by simp only [List.getElem?_toArray, List.getElem?_cons_succ, List.getElem?_cons_zero]; rfl) (fun K hK => ?_)
            go_simp
            refine (l_step (HJd.out.q.below HZA.out.1) (Kp := fun j => j = b ∨ j = wd.heap.size) ((HJd.out.r.low.below HZA.out.1).mono fun j hj => ⟨hj.1.1, fun e => e.elim hj.1.2 fun e => by have := hj.2; omega⟩) (fun j e => by have h1 := HJd.out.bx.lt; have h2 : (wd.alloc (.cells #[.slice none 0 0, .slice none 0 0, .slice none 0 0, .int .i64 0, .int .i64 0, .int .i64 0] 30)).heap.size = wd.heap.size + 1 := (by simp); rcases e with e | e <;> omega) HJd.out.ok (by omega) ov HOR.out.2.2).mono ?_
            rintro en w6 ⟨v2, rfl, F6, hq6, hr6, hs6, hg6⟩
            have hnd : ¬ F wd.heap.size := fun e => by have := HJd.out.q.bd _ e; omega
            have hnd6 : ¬ F6 wd.heap.size := hg6.not (by simp) hnd
            have hzn := HZA.out.2.st hs6 hnd
            have H6 := Lib.hid (And.intro hq6 (And.intro hr6 (And.intro hs6 (And.intro hg6 hnd6))))
            have hse : St (fun j => F j ∨ wr.heap.size ≤ j) _ w6 := hs6.mono fun j _ hj => .inl hj
            clear hq6 hr6 hs6 hg6 hnd hnd6
            refine hK.out _ _ hse ?_
            clear hK K
            try simp only [Act.put, List.setIfInBounds_toArray, List.set_cons_zero, List.set_cons_succ]
            (refine takeE (St.tr (fun j => F j ∨ wr.heap.size ≤ j)) 7 (by simp only [List.getElem?_toArray, List.getElem?_cons_succ, List.getElem?_cons_zero]; rfl) (by kernel_rfl) (by kernel_rfl) (by kernel_rfl) (by exact fun _ _ _ h => h) (by first | (refine Or.inl ⟨by rfl, ?_⟩; intro W hW; go_simp; try with_reducible rfl) | exact Or.inr ⟨by rfl, rfl⟩) ?_; try simp only [Act.put, List.setIfInBounds_toArray, List.set_cons_zero, List.set_cons_succ])
            (refine takeE (St.tr (fun j => F j ∨ wr.heap.size ≤ j)) 8 (by simp only [List.getElem?_toArray, List.getElem?_cons_succ, List.getElem?_cons_zero]; rfl) (by kernel_rfl) (by kernel_rfl) (by kernel_rfl) (by exact fun _ _ _ h => h) (by first | (refine Or.inl ⟨by rfl, ?_⟩; intro W hW; go_simp; try with_reducible rfl) | exact Or.inr ⟨by rfl, rfl⟩) ?_; try simp only [Act.put, List.setIfInBounds_toArray, List.set_cons_zero, List.set_cons_succ])
            (refine takeE (St.tr (fun j => F j ∨ wr.heap.size ≤ j)) 9 (by simp only [List.getElem?_toArray, List.getElem?_cons_succ, List.getElem?_cons_zero]; rfl) (by kernel_rfl) (by kernel_rfl) (by kernel_rfl) (by exact fun _ _ _ h => h) (by first | (refine Or.inl ⟨by rfl, ?_⟩; intro W hW; go_simp; try with_reducible rfl) | exact Or.inr ⟨by rfl, rfl⟩) ?_; try simp only [Act.put, List.setIfInBounds_toArray, List.set_cons_zero, List.set_cons_succ])
            refine wpAnyE_one (i := 11) (by kernel_rfl) (by simp only [List.getElem?_toArray, List.getElem?_cons_succ, List.getElem?_cons_zero]; rfl) (fun K hK => ?_)
            refine opwp_store_bk rowR rfl (.tmp 12) (.tmp 83) rfl wd.heap.size 0 rfl hzn [.slice v2.A v2.n v2.c, .slice v2.B v2.k v2.d, .slice v2.C v2.r v2.e, .int .i64 (m.step ov).most, .int .i64 (m.step ov).run, .int .i64 (m.step ov).total] rfl rfl (by decide) (by simp [Value.oneCell']) ?_
            intro w8 hz8 hw8
            rw [lay_all _ _ (by rfl)] at hz8
            have hs8 := st_wr hw8
            have hse8 : St (fun j => F j ∨ wr.heap.size ≤ j) w6 w8 := hs8.mono fun j _ e => .inr (by have := HSd.out; omega)
            have HZ8 : Hid (PcA F6 w8 p (m.step ov) ∧ RpR (fun j => ¬ F6 j ∧ j ≠ b) w8 v2 (m.step ov) ∧ St F wd w8 ∧ Gr F F6 wd.heap.size ∧ Bk w8 30 wd.heap.size [.slice v2.A v2.n v2.c, .slice v2.B v2.k v2.d, .slice v2.C v2.r v2.e, .int .i64 (m.step ov).most, .int .i64 (m.step ov).run, .int .i64 (m.step ov).total] ∧ Bk w8 30 b ([.slice v.A v.n v.c, .slice v.B v.k v.d, .slice v.C v.r v.e, .int .i64 m.most, .int .i64 m.run, .int .i64 m.total])) := Lib.hid (by
              have hbw := HJd.out.bx.lt
              have h1 : St F wd w6 := (St.ext (F := F) HZA.out.1).trans H6.out.2.2.1 (Gr.refl _ _)
              refine ⟨H6.out.1.st hs8 fun j hj e => H6.out.2.2.2.2 (e ▸ hj), ?_, ?_, fun j hj => (H6.out.2.2.2.1 j hj).imp_right fun h => Nat.le_trans HZA.out.1.size h, hz8, (HJd.out.bx.st h1 HJd.out.nb).st hs8 (by omega)⟩
              · exact (H6.out.2.1.st hs8 fun j hj e => hj.2 (.inr e)).mono fun j hj => ⟨hj.1, fun e => hj.2 (.inl e)⟩
              · refine ⟨hs8.os.trans h1.os, hs8.tape.trans h1.tape, hs8.output.trans h1.output, Nat.le_trans h1.size hs8.size, fun j hj hn => (hs8.block j (Nat.lt_of_lt_of_le hj h1.size) (by omega)).trans (h1.block j hj hn)⟩)
            clear hzn hz8 hw8 hs8
            refine hK.out _ _ hse8 ?_
            clear hK K
            try simp only [Act.put, List.setIfInBounds_toArray, List.set_cons_zero, List.set_cons_succ]
            (refine takeE (St.tr (fun j => F j ∨ wr.heap.size ≤ j)) 12 (by simp only [List.getElem?_toArray, List.getElem?_cons_succ, List.getElem?_cons_zero]; rfl) (by kernel_rfl) (by kernel_rfl) (by kernel_rfl) (by exact fun _ _ _ h => h) (by first | (refine Or.inl ⟨by rfl, ?_⟩; intro W hW; go_simp; try with_reducible rfl) | exact Or.inr ⟨by rfl, rfl⟩) ?_; try simp only [Act.put, List.setIfInBounds_toArray, List.set_cons_zero, List.set_cons_succ])
            refine wpAnyE_done (by kernel_rfl) ?_ _
            clear H6 HZA
            clear q0
            go_wp2_with (first
              | (with_reducible refine at_load 30 (.tmp 12) (by rfl) ?_; refine wpList_load_bk rowR rfl (.tmp 12) rfl wd.heap.size 0 rfl HZ8.out.2.2.2.2.1 [.slice v2.A v2.n v2.c, .slice v2.B v2.k v2.d, .slice v2.C v2.r v2.e, .int .i64 (m.step ov).most, .int .i64 (m.step ov).run, .int .i64 (m.step ov).total] rfl rfl ?_)
              | (with_reducible refine at_store 30 (.tmp 7) (.tmp 85) (by rfl) ?_; refine wpList_store_bk rowR rfl (.tmp 7) (.tmp 85) rfl b 0 rfl HZ8.out.2.2.2.2.2 [.slice v2.A v2.n v2.c, .slice v2.B v2.k v2.d, .slice v2.C v2.r v2.e, .int .i64 (m.step ov).most, .int .i64 (m.step ov).run, .int .i64 (m.step ov).total] rfl rfl ?_ (by simp [Value.oneCell']) ?_
                 · exact Nat.le_refl 6
                 intro w7 hz9 hw9
                 rw [lay_all _ _ (by rfl)] at hz9
                 have HJ7 : Hid (JW w b p F6 v2 (m.step ov) w7) := Lib.hid (HJd.out.ref HZ8.out.1 HZ8.out.2.1 HZ8.out.2.2.1 HZ8.out.2.2.2.1 (step_ok HJR.out.ok ov).1 hz9 hw9)
                 have HT2 : Hid ((m.step ov).total ≤ ((i + 1 : Nat) : Int)) := Lib.hid (by have := (step_ok HJR.out.ok ov).2; have := HT.out; omega)
                 clear hz9 hw9))
            clear HZ8
            go_wp2_with fail
            refine wp_region_E (Below w7.heap.size) (by kernel_rfl) (fun wd hbd hsz => ?_)
            have HBd := Lib.hid hbd
            have hkr : ∀ V, Below w7.heap.size wd V → V.rangeAt go_ (oo + i * 5 + 1) ov.k.cl := fun V hV j u hu => by
              have hh := range_belowB HOR.out.1 HOR.out.2.1 (HJ7.out.bel.trans ((HBd.out.trans hV).mono HJ7.out.bel.size)) (1 + j) u (by
                rcases j with _ | _ | j
                · exact hu
                · exact hu
                · simp [Ky.cl] at hu)
              rw [show oo + i * 5 + 1 + j = oo + i * 5 + (1 + j) from by omega]
              exact hh
            have hsd := hbd.size
            clear hsz
            (refine takeE (belowTr w7.heap.size) 0 (by simp only [List.getElem?_toArray, List.getElem?_cons_succ, List.getElem?_cons_zero]; rfl) (by kernel_rfl) (by kernel_rfl) (by kernel_rfl) (by exact fun _ _ _ h => h) (by first | (refine Or.inl ⟨by rfl, ?_⟩; intro W hW; exact exec_loadC rowR (.tmp 7) rfl b rfl ([.slice v2.A v2.n v2.c, .slice v2.B v2.k v2.d, .slice v2.C v2.r v2.e, .int .i64 ((m.step ov)).most, .int .i64 ((m.step ov)).run, .int .i64 ((m.step ov)).total]) (HJ7.out.bx.below (HBd.out.trans hW)) rfl) | exact Or.inr ⟨by rfl, rfl⟩) ?_; try simp only [Act.put, List.setIfInBounds_toArray, List.set_cons_zero, List.set_cons_succ])
            (refine takeE (belowTr w7.heap.size) 1 (by simp only [List.getElem?_toArray, List.getElem?_cons_succ, List.getElem?_cons_zero]; rfl) (by kernel_rfl) (by kernel_rfl) (by kernel_rfl) (by exact fun _ _ _ h => h) (by first | (refine Or.inl ⟨by rfl, ?_⟩; intro W hW; go_simp; try with_reducible rfl) | exact Or.inr ⟨by rfl, rfl⟩) ?_; try simp only [Act.put, List.setIfInBounds_toArray, List.set_cons_zero, List.set_cons_succ])
            (refine takeE (belowTr w7.heap.size) 2 (by simp only [List.getElem?_toArray, List.getElem?_cons_succ, List.getElem?_cons_zero]; rfl) (by kernel_rfl) (by kernel_rfl) (by kernel_rfl) (by exact fun _ _ _ h => h) (by first | (refine Or.inl ⟨by rfl, ?_⟩; intro W hW; go_simp; try with_reducible rfl) | exact Or.inr ⟨by rfl, rfl⟩) ?_; try simp only [Act.put, List.setIfInBounds_toArray, List.set_cons_zero, List.set_cons_succ])
            (refine takeE (belowTr w7.heap.size) 3 (by simp only [List.getElem?_toArray, List.getElem?_cons_succ, List.getElem?_cons_zero]; rfl) (by kernel_rfl) (by kernel_rfl) (by kernel_rfl) (by exact fun _ _ _ h => h) (by first | (refine Or.inl ⟨by rfl, ?_⟩; intro W hW; go_simp; try with_reducible rfl) | exact Or.inr ⟨by rfl, rfl⟩) ?_; try simp only [Act.put, List.setIfInBounds_toArray, List.set_cons_zero, List.set_cons_succ])
            (refine takeE (belowTr w7.heap.size) 4 (by simp only [List.getElem?_toArray, List.getElem?_cons_succ, List.getElem?_cons_zero]; rfl) (by kernel_rfl) (by kernel_rfl) (by kernel_rfl) (by exact fun _ _ _ h => h) (by first | (refine Or.inl ⟨by rfl, ?_⟩; intro W hW; go_simp; try with_reducible rfl) | exact Or.inr ⟨by rfl, rfl⟩) ?_; try simp only [Act.put, List.setIfInBounds_toArray, List.set_cons_zero, List.set_cons_succ])
            (refine takeE (belowTr w7.heap.size) 5 (by simp only [List.getElem?_toArray, List.getElem?_cons_succ, List.getElem?_cons_zero]; rfl) (by kernel_rfl) (by kernel_rfl) (by kernel_rfl) (by exact fun _ _ _ h => h) (by first | (refine Or.inl ⟨by rfl, ?_⟩; intro W hW; exact exec_loadK rowRK (.tmp 91) rfl go_ (oo + i * 5 + 1) rfl ov.k (hkr _ hW)) | exact Or.inr ⟨by rfl, rfl⟩) ?_; try simp only [Act.put, List.setIfInBounds_toArray, List.set_cons_zero, List.set_cons_succ])
            refine wpAnyE_two (i := 6) (j := 7) (by kernel_rfl) (by simp only [List.getElem?_toArray, List.getElem?_cons_succ, List.getElem?_cons_zero]; rfl) (by simp only [List.getElem?_toArray, List.getElem?_cons_succ, List.getElem?_cons_zero]; rfl) (fun K hK => ?_) (fun K hK => ?_)
            ·
              go_simp
              refine (r_of (HJ7.out.r.below HBd.out) (by rw [HJ7.out.r.l.1]; have := HJ7.out.ok.ll; have := HJ7.out.ok.mo; omega) ov.k).mono ?_
              rintro en w10 ⟨rfl, hb10⟩
              have HB10 := Lib.hid hb10
              clear hb10
              refine hK.out _ _ (HB10.out.mono hsd) ?_
              clear hK K
              try simp only [Act.put, List.setIfInBounds_toArray, List.set_cons_zero, List.set_cons_succ]
              refine wpAnyE_one (i := 7) (by kernel_rfl) (by simp only [List.getElem?_toArray, List.getElem?_cons_succ, List.getElem?_cons_zero]; rfl) (fun K hK => ?_)
              go_simp
              skip
              refine hK.out _ _ ((Below.refl _ _).alloc (Nat.le_trans hsd HB10.out.size) _) ?_
              clear hK K
              try simp only [Act.put, List.setIfInBounds_toArray, List.set_cons_zero, List.set_cons_succ]
              refine wpAnyE_one (i := 8) (by kernel_rfl) (by simp only [List.getElem?_toArray, List.getElem?_cons_succ, List.getElem?_cons_zero]; rfl) (fun K hK => ?_)
              go_simp
              skip
              refine hK.out _ _ (below_two (Nat.le_trans hsd HB10.out.size) _ _) ?_
              clear hK K
              try simp only [Act.put, List.setIfInBounds_toArray, List.set_cons_zero, List.set_cons_succ]
              refine wpAnyE_done (by kernel_rfl) ?_ _
              have HX := Lib.hid (And.intro (HJ7.out.next (HBd.out.trans ((HB10.out.mono hsd).trans ((Below.refl w7.heap.size w10).alloc (Nat.le_trans hsd HB10.out.size) (.cells #[.int .i64 (ofKey ((m.step ov)).L ov.k).k.s, .int .i64 (ofKey ((m.step ov)).L ov.k).k.c, .int .i64 (ofKey ((m.step ov)).L ov.k).g, .int .i64 (ofKey ((m.step ov)).L ov.k).p, .int .i64 (ofKey ((m.step ov)).L ov.k).i] 50))))) (Bk.new w10 50 (ofKey ((m.step ov)).L ov.k).cl))
              generalize w10.heap.size = gx at *
              clear hkr hsd HJ7 HB10
              go_wp2_with fail
              refine wp_region_E Ext (by kernel_rfl) (fun wd hbd hsz => ?_)
              have HXd := Lib.hid (And.intro (HX.out.1.next hbd) (HX.out.2.below hbd))
              have hE : Below wd.heap.size wd wd := Below.refl _ _
              have q1 : ∀ V, Ext wd V → V.cell? ⟨go_, oo + i * 5 + 1, none⟩ = some (.int .i64 ov.k.s) := fun V hV => range_belowB HOR.out.1 HOR.out.2.1 (below_on HXd.out.1.bel (below_on hE hV)) 1 _ rfl
              have q2 : ∀ V, Ext wd V → V.cell? ⟨go_, oo + i * 5 + 2, none⟩ = some (.int .i64 ov.k.c) := fun V hV => range_belowB HOR.out.1 HOR.out.2.1 (below_on HXd.out.1.bel (below_on hE hV)) 2 _ rfl
              have q3 : ∀ V, Ext wd V → V.cell? ⟨gx, 3, none⟩ = some (.int .i64 (ofKey ((m.step ov)).L ov.k).p) := fun V hV => (HXd.out.2.below (below_on hE hV)).cell 3 rfl
              have q4 : ∀ V, Ext wd V → V.cell? ⟨gx, 4, none⟩ = some (.int .i64 (ofKey ((m.step ov)).L ov.k).i) := fun V hV => (HXd.out.2.below (below_on hE hV)).cell 4 rfl
              have q5 : ∀ V, Ext wd V → V.cell? ⟨b, 5, none⟩ = some (.int .i64 ((m.step ov)).total) := fun V hV => (HXd.out.1.bx.below (below_on hE hV)).cell 5 rfl
              have q6 : ∀ V, Ext wd V → V.cell? ⟨b, 0, none⟩ = some (.slice v2.A v2.n v2.c) := fun V hV => (HXd.out.1.bx.below (below_on hE hV)).cell 0 rfl
              have hln : ((((m.step ov)).L.length : Int) != (v2.n : Int)) = false := by have := HX.out.1.r.l.1; simp; omega
              have HBD := Lib.hid hbd
              clear hsz
              (refine takeE Ext.tr 0 (by simp only [List.getElem?_toArray, List.getElem?_cons_succ, List.getElem?_cons_zero]; rfl) (by kernel_rfl) (by kernel_rfl) (by kernel_rfl) (by exact fun _ _ _ h => h) (by first | (refine Or.inl ⟨by rfl, ?_⟩; intro W hW; go_simp; try with_reducible rfl) | exact Or.inr ⟨by rfl, rfl⟩) ?_; try simp only [Act.put, List.setIfInBounds_toArray, List.set_cons_zero, List.set_cons_succ])
              (refine takeE Ext.tr 1 (by simp only [List.getElem?_toArray, List.getElem?_cons_succ, List.getElem?_cons_zero]; rfl) (by kernel_rfl) (by kernel_rfl) (by kernel_rfl) (by exact fun _ _ _ h => h) (by first | (refine Or.inl ⟨by rfl, ?_⟩; intro W hW; go_simp; try with_reducible rfl) | exact Or.inr ⟨by rfl, rfl⟩) ?_; try simp only [Act.put, List.setIfInBounds_toArray, List.set_cons_zero, List.set_cons_succ])
              (refine takeE Ext.tr 2 (by simp only [List.getElem?_toArray, List.getElem?_cons_succ, List.getElem?_cons_zero]; rfl) (by kernel_rfl) (by kernel_rfl) (by kernel_rfl) (by exact fun _ _ _ h => h) (by first | (refine Or.inl ⟨by rfl, ?_⟩; intro W hW; go_simp; try with_reducible rfl) | exact Or.inr ⟨by rfl, rfl⟩) ?_; try simp only [Act.put, List.setIfInBounds_toArray, List.set_cons_zero, List.set_cons_succ])
              (refine takeE Ext.tr 3 (by simp only [List.getElem?_toArray, List.getElem?_cons_succ, List.getElem?_cons_zero]; rfl) (by kernel_rfl) (by kernel_rfl) (by kernel_rfl) (by exact fun _ _ _ h => h) (by first | (refine Or.inl ⟨by rfl, ?_⟩; intro W hW; go_simp; try with_reducible rfl) | exact Or.inr ⟨by rfl, rfl⟩) ?_; try simp only [Act.put, List.setIfInBounds_toArray, List.set_cons_zero, List.set_cons_succ])
              (refine takeE Ext.tr 4 (by simp only [List.getElem?_toArray, List.getElem?_cons_succ, List.getElem?_cons_zero]; rfl) (by kernel_rfl) (by kernel_rfl) (by kernel_rfl) (by exact fun _ _ _ h => h) (by first | (refine Or.inl ⟨by rfl, ?_⟩; intro W hW; go_simp; try with_reducible rfl) | exact Or.inr ⟨by rfl, rfl⟩) ?_; try simp only [Act.put, List.setIfInBounds_toArray, List.set_cons_zero, List.set_cons_succ])
              (refine takeE Ext.tr 5 (by simp only [List.getElem?_toArray, List.getElem?_cons_succ, List.getElem?_cons_zero]; rfl) (by kernel_rfl) (by kernel_rfl) (by kernel_rfl) (by exact fun _ _ _ h => h) (by first | (refine Or.inl ⟨by rfl, ?_⟩; intro W hW; go_simp; try with_reducible rfl) | exact Or.inr ⟨by rfl, rfl⟩) ?_; try simp only [Act.put, List.setIfInBounds_toArray, List.set_cons_zero, List.set_cons_succ])
              (refine takeE Ext.tr 11 (by simp only [List.getElem?_toArray, List.getElem?_cons_succ, List.getElem?_cons_zero]; rfl) (by kernel_rfl) (by kernel_rfl) (by kernel_rfl) (by exact fun _ _ _ h => h) (by first | (refine Or.inl ⟨by rfl, ?_⟩; intro W hW; go_simp; try with_reducible rfl) | exact Or.inr ⟨by rfl, rfl⟩) ?_; try simp only [Act.put, List.setIfInBounds_toArray, List.set_cons_zero, List.set_cons_succ])
              (refine takeE Ext.tr 6 (by simp only [List.getElem?_toArray, List.getElem?_cons_succ, List.getElem?_cons_zero]; rfl) (by kernel_rfl) (by kernel_rfl) (by kernel_rfl) (by exact fun _ _ _ h => h) (by first | (refine Or.inl ⟨by rfl, ?_⟩; intro W hW; go_simp; try with_reducible rfl) | exact Or.inr ⟨by rfl, rfl⟩) ?_; try simp only [Act.put, List.setIfInBounds_toArray, List.set_cons_zero, List.set_cons_succ])
              (refine takeE Ext.tr 12 (by simp only [List.getElem?_toArray, List.getElem?_cons_succ, List.getElem?_cons_zero]; rfl) (by kernel_rfl) (by kernel_rfl) (by kernel_rfl) (by exact fun _ _ _ h => h) (by first | (refine Or.inl ⟨by rfl, ?_⟩; intro W hW; go_simp; try with_reducible rfl) | exact Or.inr ⟨by rfl, rfl⟩) ?_; try simp only [Act.put, List.setIfInBounds_toArray, List.set_cons_zero, List.set_cons_succ])
              (refine takeE Ext.tr 7 (by simp only [List.getElem?_toArray, List.getElem?_cons_succ, List.getElem?_cons_zero]; rfl) (by kernel_rfl) (by kernel_rfl) (by kernel_rfl) (by exact fun _ _ _ h => h) (by first | (refine Or.inl ⟨by rfl, ?_⟩; intro W hW; go_simp; try with_reducible rfl) | exact Or.inr ⟨by rfl, rfl⟩) ?_; try simp only [Act.put, List.setIfInBounds_toArray, List.set_cons_zero, List.set_cons_succ])
              (refine takeE Ext.tr 8 (by simp only [List.getElem?_toArray, List.getElem?_cons_succ, List.getElem?_cons_zero]; rfl) (by kernel_rfl) (by kernel_rfl) (by kernel_rfl) (by exact fun _ _ _ h => h) (by first | (refine Or.inl ⟨by rfl, ?_⟩; intro W hW; go_simp; try with_reducible rfl) | exact Or.inr ⟨by rfl, rfl⟩) ?_; try simp only [Act.put, List.setIfInBounds_toArray, List.set_cons_zero, List.set_cons_succ])
              refine wpAnyE_one (i := 9) (by kernel_rfl) (by simp only [List.getElem?_toArray, List.getElem?_cons_succ, List.getElem?_cons_zero]; rfl) (fun K hK => ?_)
              go_simp
              refine (l_of ov.k _).mono ?_
              rintro en u1 ⟨rfl, hE2⟩
              have hE3 := hE2
              clear q1 q2 q3 q4 q5 q6
              replace hE := below_on hE hE2
              have q1 : ∀ V, Ext u1 V → V.cell? ⟨go_, oo + i * 5 + 1, none⟩ = some (.int .i64 ov.k.s) := fun V hV => range_belowB HOR.out.1 HOR.out.2.1 (below_on HXd.out.1.bel (below_on hE hV)) 1 _ rfl
              have q2 : ∀ V, Ext u1 V → V.cell? ⟨go_, oo + i * 5 + 2, none⟩ = some (.int .i64 ov.k.c) := fun V hV => range_belowB HOR.out.1 HOR.out.2.1 (below_on HXd.out.1.bel (below_on hE hV)) 2 _ rfl
              have q3 : ∀ V, Ext u1 V → V.cell? ⟨gx, 3, none⟩ = some (.int .i64 (ofKey ((m.step ov)).L ov.k).p) := fun V hV => (HXd.out.2.below (below_on hE hV)).cell 3 rfl
              have q4 : ∀ V, Ext u1 V → V.cell? ⟨gx, 4, none⟩ = some (.int .i64 (ofKey ((m.step ov)).L ov.k).i) := fun V hV => (HXd.out.2.below (below_on hE hV)).cell 4 rfl
              have q5 : ∀ V, Ext u1 V → V.cell? ⟨b, 5, none⟩ = some (.int .i64 ((m.step ov)).total) := fun V hV => (HXd.out.1.bx.below (below_on hE hV)).cell 5 rfl
              have q6 : ∀ V, Ext u1 V → V.cell? ⟨b, 0, none⟩ = some (.slice v2.A v2.n v2.c) := fun V hV => (HXd.out.1.bx.below (below_on hE hV)).cell 0 rfl
              clear hE2
              refine hK.out _ _ hE3 ?_
              clear hK K
              try simp only [Act.put, List.setIfInBounds_toArray, List.set_cons_zero, List.set_cons_succ]
              refine wpAnyE_one (i := 10) (by kernel_rfl) (by simp only [List.getElem?_toArray, List.getElem?_cons_succ, List.getElem?_cons_zero]; rfl) (fun K hK => ?_)
              go_simp
              refine (p_pending (HXd.out.1.q.below hE) ov.k).mono ?_
              rintro en u2 ⟨rfl, hE2⟩
              have hE3 := hE2
              clear q1 q2 q3 q4 q5 q6
              replace hE := below_on hE hE2
              have q1 : ∀ V, Ext u2 V → V.cell? ⟨go_, oo + i * 5 + 1, none⟩ = some (.int .i64 ov.k.s) := fun V hV => range_belowB HOR.out.1 HOR.out.2.1 (below_on HXd.out.1.bel (below_on hE hV)) 1 _ rfl
              have q2 : ∀ V, Ext u2 V → V.cell? ⟨go_, oo + i * 5 + 2, none⟩ = some (.int .i64 ov.k.c) := fun V hV => range_belowB HOR.out.1 HOR.out.2.1 (below_on HXd.out.1.bel (below_on hE hV)) 2 _ rfl
              have q3 : ∀ V, Ext u2 V → V.cell? ⟨gx, 3, none⟩ = some (.int .i64 (ofKey ((m.step ov)).L ov.k).p) := fun V hV => (HXd.out.2.below (below_on hE hV)).cell 3 rfl
              have q4 : ∀ V, Ext u2 V → V.cell? ⟨gx, 4, none⟩ = some (.int .i64 (ofKey ((m.step ov)).L ov.k).i) := fun V hV => (HXd.out.2.below (below_on hE hV)).cell 4 rfl
              have q5 : ∀ V, Ext u2 V → V.cell? ⟨b, 5, none⟩ = some (.int .i64 ((m.step ov)).total) := fun V hV => (HXd.out.1.bx.below (below_on hE hV)).cell 5 rfl
              have q6 : ∀ V, Ext u2 V → V.cell? ⟨b, 0, none⟩ = some (.slice v2.A v2.n v2.c) := fun V hV => (HXd.out.1.bx.below (below_on hE hV)).cell 0 rfl
              clear hE2
              refine hK.out _ _ hE3 ?_
              clear hK K
              try simp only [Act.put, List.setIfInBounds_toArray, List.set_cons_zero, List.set_cons_succ]
              (refine takeE Ext.tr 13 (by simp only [List.getElem?_toArray, List.getElem?_cons_succ, List.getElem?_cons_zero]; rfl) (by kernel_rfl) (by kernel_rfl) (by kernel_rfl) (by exact fun _ _ _ h => h) (by first | (refine Or.inl ⟨by rfl, ?_⟩; intro W hW; go_simp; try with_reducible rfl) | exact Or.inr ⟨by rfl, rfl⟩) ?_; try simp only [Act.put, List.setIfInBounds_toArray, List.set_cons_zero, List.set_cons_succ])
              (refine takeE Ext.tr 14 (by simp only [List.getElem?_toArray, List.getElem?_cons_succ, List.getElem?_cons_zero]; rfl) (by kernel_rfl) (by kernel_rfl) (by kernel_rfl) (by exact fun _ _ _ h => h) (by first | (refine Or.inl ⟨by rfl, ?_⟩; intro W hW; go_simp; try with_reducible rfl) | exact Or.inr ⟨by rfl, rfl⟩) ?_; try simp only [Act.put, List.setIfInBounds_toArray, List.set_cons_zero, List.set_cons_succ])
              (refine takeE Ext.tr 15 (by simp only [List.getElem?_toArray, List.getElem?_cons_succ, List.getElem?_cons_zero]; rfl) (by kernel_rfl) (by kernel_rfl) (by kernel_rfl) (by exact fun _ _ _ h => h) (by first | (refine Or.inl ⟨by rfl, ?_⟩; intro W hW; go_simp; try with_reducible rfl) | exact Or.inr ⟨by rfl, rfl⟩) ?_; try simp only [Act.put, List.setIfInBounds_toArray, List.set_cons_zero, List.set_cons_succ])
              (refine takeE Ext.tr 16 (by simp only [List.getElem?_toArray, List.getElem?_cons_succ, List.getElem?_cons_zero]; rfl) (by kernel_rfl) (by kernel_rfl) (by kernel_rfl) (by exact fun _ _ _ h => h) (by first | (refine Or.inl ⟨by rfl, ?_⟩; intro W hW; go_simp; try with_reducible rfl) | exact Or.inr ⟨by rfl, rfl⟩) ?_; try simp only [Act.put, List.setIfInBounds_toArray, List.set_cons_zero, List.set_cons_succ])
              (refine takeE Ext.tr 17 (by simp only [List.getElem?_toArray, List.getElem?_cons_succ, List.getElem?_cons_zero]; rfl) (by kernel_rfl) (by kernel_rfl) (by kernel_rfl) (by exact fun _ _ _ h => h) (by first | (refine Or.inl ⟨by rfl, ?_⟩; intro W hW; go_simp; try with_reducible rfl) | exact Or.inr ⟨by rfl, rfl⟩) ?_; try simp only [Act.put, List.setIfInBounds_toArray, List.set_cons_zero, List.set_cons_succ])
              (refine takeE Ext.tr 18 (by simp only [List.getElem?_toArray, List.getElem?_cons_succ, List.getElem?_cons_zero]; rfl) (by kernel_rfl) (by kernel_rfl) (by kernel_rfl) (by exact fun _ _ _ h => h) (by first | (refine Or.inl ⟨by rfl, ?_⟩; intro W hW; go_simp; try with_reducible rfl) | exact Or.inr ⟨by rfl, rfl⟩) ?_; try simp only [Act.put, List.setIfInBounds_toArray, List.set_cons_zero, List.set_cons_succ])
              (refine takeE Ext.tr 24 (by simp only [List.getElem?_toArray, List.getElem?_cons_succ, List.getElem?_cons_zero]; rfl) (by kernel_rfl) (by kernel_rfl) (by kernel_rfl) (by exact fun _ _ _ h => h) (by first | (refine Or.inl ⟨by rfl, ?_⟩; intro W hW; go_simp; try with_reducible rfl) | exact Or.inr ⟨by rfl, rfl⟩) ?_; try simp only [Act.put, List.setIfInBounds_toArray, List.set_cons_zero, List.set_cons_succ])
              (refine takeE Ext.tr 19 (by simp only [List.getElem?_toArray, List.getElem?_cons_succ, List.getElem?_cons_zero]; rfl) (by kernel_rfl) (by kernel_rfl) (by kernel_rfl) (by exact fun _ _ _ h => h) (by first | (refine Or.inl ⟨by rfl, ?_⟩; intro W hW; go_simp; try with_reducible rfl) | exact Or.inr ⟨by rfl, rfl⟩) ?_; try simp only [Act.put, List.setIfInBounds_toArray, List.set_cons_zero, List.set_cons_succ])
              (refine takeE Ext.tr 25 (by simp only [List.getElem?_toArray, List.getElem?_cons_succ, List.getElem?_cons_zero]; rfl) (by kernel_rfl) (by kernel_rfl) (by kernel_rfl) (by exact fun _ _ _ h => h) (by first | (refine Or.inl ⟨by rfl, ?_⟩; intro W hW; go_simp; try with_reducible rfl) | exact Or.inr ⟨by rfl, rfl⟩) ?_; try simp only [Act.put, List.setIfInBounds_toArray, List.set_cons_zero, List.set_cons_succ])
              (refine takeE Ext.tr 20 (by simp only [List.getElem?_toArray, List.getElem?_cons_succ, List.getElem?_cons_zero]; rfl) (by kernel_rfl) (by kernel_rfl) (by kernel_rfl) (by exact fun _ _ _ h => h) (by first | (refine Or.inl ⟨by rfl, ?_⟩; intro W hW; go_simp; try with_reducible rfl) | exact Or.inr ⟨by rfl, rfl⟩) ?_; try simp only [Act.put, List.setIfInBounds_toArray, List.set_cons_zero, List.set_cons_succ])
              (refine takeE Ext.tr 21 (by simp only [List.getElem?_toArray, List.getElem?_cons_succ, List.getElem?_cons_zero]; rfl) (by kernel_rfl) (by kernel_rfl) (by kernel_rfl) (by exact fun _ _ _ h => h) (by first | (refine Or.inl ⟨by rfl, ?_⟩; intro W hW; go_simp; try with_reducible rfl) | exact Or.inr ⟨by rfl, rfl⟩) ?_; try simp only [Act.put, List.setIfInBounds_toArray, List.set_cons_zero, List.set_cons_succ])
              refine wpAnyE_one (i := 22) (by kernel_rfl) (by simp only [List.getElem?_toArray, List.getElem?_cons_succ, List.getElem?_cons_zero]; rfl) (fun K hK => ?_)
              go_simp
              refine (l_of ov.k _).mono ?_
              rintro en u3 ⟨rfl, hE2⟩
              have hE3 := hE2
              clear q1 q2 q3 q4 q5 q6
              replace hE := below_on hE hE2
              have q1 : ∀ V, Ext u3 V → V.cell? ⟨go_, oo + i * 5 + 1, none⟩ = some (.int .i64 ov.k.s) := fun V hV => range_belowB HOR.out.1 HOR.out.2.1 (below_on HXd.out.1.bel (below_on hE hV)) 1 _ rfl
              have q2 : ∀ V, Ext u3 V → V.cell? ⟨go_, oo + i * 5 + 2, none⟩ = some (.int .i64 ov.k.c) := fun V hV => range_belowB HOR.out.1 HOR.out.2.1 (below_on HXd.out.1.bel (below_on hE hV)) 2 _ rfl
              have q3 : ∀ V, Ext u3 V → V.cell? ⟨gx, 3, none⟩ = some (.int .i64 (ofKey ((m.step ov)).L ov.k).p) := fun V hV => (HXd.out.2.below (below_on hE hV)).cell 3 rfl
              have q4 : ∀ V, Ext u3 V → V.cell? ⟨gx, 4, none⟩ = some (.int .i64 (ofKey ((m.step ov)).L ov.k).i) := fun V hV => (HXd.out.2.below (below_on hE hV)).cell 4 rfl
              have q5 : ∀ V, Ext u3 V → V.cell? ⟨b, 5, none⟩ = some (.int .i64 ((m.step ov)).total) := fun V hV => (HXd.out.1.bx.below (below_on hE hV)).cell 5 rfl
              have q6 : ∀ V, Ext u3 V → V.cell? ⟨b, 0, none⟩ = some (.slice v2.A v2.n v2.c) := fun V hV => (HXd.out.1.bx.below (below_on hE hV)).cell 0 rfl
              clear hE2
              refine hK.out _ _ hE3 ?_
              clear hK K
              try simp only [Act.put, List.setIfInBounds_toArray, List.set_cons_zero, List.set_cons_succ]
              refine wpAnyE_one (i := 23) (by kernel_rfl) (by simp only [List.getElem?_toArray, List.getElem?_cons_succ, List.getElem?_cons_zero]; rfl) (fun K hK => ?_)
              go_simp
              refine (p_issued (HXd.out.1.q.below hE) ov.k).mono ?_
              rintro en u4 ⟨rfl, hE2⟩
              have hE3 := hE2
              clear q1 q2 q3 q4 q5 q6
              replace hE := below_on hE hE2
              have q1 : ∀ V, Ext u4 V → V.cell? ⟨go_, oo + i * 5 + 1, none⟩ = some (.int .i64 ov.k.s) := fun V hV => range_belowB HOR.out.1 HOR.out.2.1 (below_on HXd.out.1.bel (below_on hE hV)) 1 _ rfl
              have q2 : ∀ V, Ext u4 V → V.cell? ⟨go_, oo + i * 5 + 2, none⟩ = some (.int .i64 ov.k.c) := fun V hV => range_belowB HOR.out.1 HOR.out.2.1 (below_on HXd.out.1.bel (below_on hE hV)) 2 _ rfl
              have q3 : ∀ V, Ext u4 V → V.cell? ⟨gx, 3, none⟩ = some (.int .i64 (ofKey ((m.step ov)).L ov.k).p) := fun V hV => (HXd.out.2.below (below_on hE hV)).cell 3 rfl
              have q4 : ∀ V, Ext u4 V → V.cell? ⟨gx, 4, none⟩ = some (.int .i64 (ofKey ((m.step ov)).L ov.k).i) := fun V hV => (HXd.out.2.below (below_on hE hV)).cell 4 rfl
              have q5 : ∀ V, Ext u4 V → V.cell? ⟨b, 5, none⟩ = some (.int .i64 ((m.step ov)).total) := fun V hV => (HXd.out.1.bx.below (below_on hE hV)).cell 5 rfl
              have q6 : ∀ V, Ext u4 V → V.cell? ⟨b, 0, none⟩ = some (.slice v2.A v2.n v2.c) := fun V hV => (HXd.out.1.bx.below (below_on hE hV)).cell 0 rfl
              clear hE2
              refine hK.out _ _ hE3 ?_
              clear hK K
              try simp only [Act.put, List.setIfInBounds_toArray, List.set_cons_zero, List.set_cons_succ]
              (refine takeE Ext.tr 26 (by simp only [List.getElem?_toArray, List.getElem?_cons_succ, List.getElem?_cons_zero]; rfl) (by kernel_rfl) (by kernel_rfl) (by kernel_rfl) (by exact fun _ _ _ h => h) (by first | (refine Or.inl ⟨by rfl, ?_⟩; intro W hW; go_simp; try with_reducible rfl) | exact Or.inr ⟨by rfl, rfl⟩) ?_; try simp only [Act.put, List.setIfInBounds_toArray, List.set_cons_zero, List.set_cons_succ])
              (refine takeE Ext.tr 27 (by simp only [List.getElem?_toArray, List.getElem?_cons_succ, List.getElem?_cons_zero]; rfl) (by kernel_rfl) (by kernel_rfl) (by kernel_rfl) (by exact fun _ _ _ h => h) (by first | (refine Or.inl ⟨by rfl, ?_⟩; intro W hW; go_simp; try with_reducible rfl) | exact Or.inr ⟨by rfl, rfl⟩) ?_; try simp only [Act.put, List.setIfInBounds_toArray, List.set_cons_zero, List.set_cons_succ])
              (refine takeE Ext.tr 28 (by simp only [List.getElem?_toArray, List.getElem?_cons_succ, List.getElem?_cons_zero]; rfl) (by kernel_rfl) (by kernel_rfl) (by kernel_rfl) (by exact fun _ _ _ h => h) (by first | (refine Or.inl ⟨by rfl, ?_⟩; intro W hW; go_simp; try with_reducible rfl) | exact Or.inr ⟨by rfl, rfl⟩) ?_; try simp only [Act.put, List.setIfInBounds_toArray, List.set_cons_zero, List.set_cons_succ])
              (refine takeE Ext.tr 29 (by simp only [List.getElem?_toArray, List.getElem?_cons_succ, List.getElem?_cons_zero]; rfl) (by kernel_rfl) (by kernel_rfl) (by kernel_rfl) (by exact fun _ _ _ h => h) (by first | (refine Or.inl ⟨by rfl, ?_⟩; intro W hW; go_simp; try with_reducible rfl) | exact Or.inr ⟨by rfl, rfl⟩) ?_; try simp only [Act.put, List.setIfInBounds_toArray, List.set_cons_zero, List.set_cons_succ])
              (refine takeE Ext.tr 31 (by simp only [List.getElem?_toArray, List.getElem?_cons_succ, List.getElem?_cons_zero]; rfl) (by kernel_rfl) (by kernel_rfl) (by kernel_rfl) (by exact fun _ _ _ h => h) (by first | (refine Or.inl ⟨by rfl, ?_⟩; intro W hW; go_simp; try with_reducible rfl) | exact Or.inr ⟨by rfl, rfl⟩) ?_; try simp only [Act.put, List.setIfInBounds_toArray, List.set_cons_zero, List.set_cons_succ])
              (refine takeE Ext.tr 32 (by simp only [List.getElem?_toArray, List.getElem?_cons_succ, List.getElem?_cons_zero]; rfl) (by kernel_rfl) (by kernel_rfl) (by kernel_rfl) (by exact fun _ _ _ h => h) (by first | (refine Or.inl ⟨by rfl, ?_⟩; intro W hW; go_simp; try with_reducible rfl) | exact Or.inr ⟨by rfl, rfl⟩) ?_; try simp only [Act.put, List.setIfInBounds_toArray, List.set_cons_zero, List.set_cons_succ])
              refine wpAnyE_one (i := 30) (by kernel_rfl) (by simp only [List.getElem?_toArray, List.getElem?_cons_succ, List.getElem?_cons_zero]; rfl) (fun K hK => ?_)
              go_simp
              refine (p_total (HXd.out.1.q.below hE)).mono ?_
              rintro en v1 ⟨rfl, rfl⟩
              refine hK.out _ _ (Ext.refl _) ?_
              clear hK K
              try simp only [Act.put, List.setIfInBounds_toArray, List.set_cons_zero, List.set_cons_succ]
              (refine takeE Ext.tr 33 (by simp only [List.getElem?_toArray, List.getElem?_cons_succ, List.getElem?_cons_zero]; rfl) (by kernel_rfl) (by kernel_rfl) (by kernel_rfl) (by exact fun _ _ _ h => h) (by first | (refine Or.inl ⟨by rfl, ?_⟩; intro W hW; go_simp; try with_reducible rfl) | exact Or.inr ⟨by rfl, rfl⟩) ?_; try simp only [Act.put, List.setIfInBounds_toArray, List.set_cons_zero, List.set_cons_succ])
              (refine takeE Ext.tr 34 (by simp only [List.getElem?_toArray, List.getElem?_cons_succ, List.getElem?_cons_zero]; rfl) (by kernel_rfl) (by kernel_rfl) (by kernel_rfl) (by exact fun _ _ _ h => h) (by first | (refine Or.inl ⟨by rfl, ?_⟩; intro W hW; go_simp; try with_reducible rfl) | exact Or.inr ⟨by rfl, rfl⟩) ?_; try simp only [Act.put, List.setIfInBounds_toArray, List.set_cons_zero, List.set_cons_succ])
              (refine takeE Ext.tr 35 (by simp only [List.getElem?_toArray, List.getElem?_cons_succ, List.getElem?_cons_zero]; rfl) (by kernel_rfl) (by kernel_rfl) (by kernel_rfl) (by exact fun _ _ _ h => h) (by first | (refine Or.inl ⟨by rfl, ?_⟩; intro W hW; go_simp; try with_reducible rfl) | exact Or.inr ⟨by rfl, rfl⟩) ?_; try simp only [Act.put, List.setIfInBounds_toArray, List.set_cons_zero, List.set_cons_succ])
              (refine takeE Ext.tr 36 (by simp only [List.getElem?_toArray, List.getElem?_cons_succ, List.getElem?_cons_zero]; rfl) (by kernel_rfl) (by kernel_rfl) (by kernel_rfl) (by exact fun _ _ _ h => h) (by first | (refine Or.inl ⟨by rfl, ?_⟩; intro W hW; go_simp; try with_reducible rfl) | exact Or.inr ⟨by rfl, rfl⟩) ?_; try simp only [Act.put, List.setIfInBounds_toArray, List.set_cons_zero, List.set_cons_succ])
              (refine takeE Ext.tr 38 (by simp only [List.getElem?_toArray, List.getElem?_cons_succ, List.getElem?_cons_zero]; rfl) (by kernel_rfl) (by kernel_rfl) (by kernel_rfl) (by exact fun _ _ _ h => h) (by first | (refine Or.inl ⟨by rfl, ?_⟩; intro W hW; go_simp; try with_reducible rfl) | exact Or.inr ⟨by rfl, rfl⟩) ?_; try simp only [Act.put, List.setIfInBounds_toArray, List.set_cons_zero, List.set_cons_succ])
              (refine takeE Ext.tr 39 (by simp only [List.getElem?_toArray, List.getElem?_cons_succ, List.getElem?_cons_zero]; rfl) (by kernel_rfl) (by kernel_rfl) (by kernel_rfl) (by exact fun _ _ _ h => h) (by first | (refine Or.inl ⟨by rfl, ?_⟩; intro W hW; go_simp; try with_reducible rfl) | exact Or.inr ⟨by rfl, rfl⟩) ?_; try simp only [Act.put, List.setIfInBounds_toArray, List.set_cons_zero, List.set_cons_succ])
              (refine takeE Ext.tr 40 (by simp only [List.getElem?_toArray, List.getElem?_cons_succ, List.getElem?_cons_zero]; rfl) (by kernel_rfl) (by kernel_rfl) (by kernel_rfl) (by exact fun _ _ _ h => h) (by first | (refine Or.inl ⟨by rfl, ?_⟩; intro W hW; go_simp; try with_reducible rfl) | exact Or.inr ⟨by rfl, rfl⟩) ?_; try simp only [Act.put, List.setIfInBounds_toArray, List.set_cons_zero, List.set_cons_succ])
              refine wpAnyE_one (i := 37) (by kernel_rfl) (by simp only [List.getElem?_toArray, List.getElem?_cons_succ, List.getElem?_cons_zero]; rfl) (fun K hK => ?_)
              go_simp
              refine (p_len (HXd.out.1.q.below hE)).mono ?_
              rintro en v1 ⟨rfl, rfl⟩
              refine hK.out _ _ (Ext.refl _) ?_
              clear hK K
              try simp only [Act.put, List.setIfInBounds_toArray, List.set_cons_zero, List.set_cons_succ]
              (refine takeE Ext.tr 41 (by simp only [List.getElem?_toArray, List.getElem?_cons_succ, List.getElem?_cons_zero]; rfl) (by kernel_rfl) (by kernel_rfl) (by kernel_rfl) (by exact fun _ _ _ h => h) (by first | (refine Or.inl ⟨by rfl, ?_⟩; intro W hW; go_simp; try with_reducible rfl) | exact Or.inr ⟨by rfl, rfl⟩) ?_; try simp only [Act.put, List.setIfInBounds_toArray, List.set_cons_zero, List.set_cons_succ])
              (refine takeE Ext.tr 42 (by simp only [List.getElem?_toArray, List.getElem?_cons_succ, List.getElem?_cons_zero]; rfl) (by kernel_rfl) (by kernel_rfl) (by kernel_rfl) (by exact fun _ _ _ h => h) (by first | (refine Or.inl ⟨by rfl, ?_⟩; intro W hW; go_simp; try with_reducible rfl) | exact Or.inr ⟨by rfl, rfl⟩) ?_; try simp only [Act.put, List.setIfInBounds_toArray, List.set_cons_zero, List.set_cons_succ])
              refine wpAnyE_done (by kernel_rfl) ?_ _
              clear q1 q2 q3 q4 q5 q6 hln
              have HJ9 := Lib.hid (HXd.out.1.next hE)
              clear hE HX
              go_wp2_with fail
              refine wp_region_E Ext (by kernel_rfl) (fun wd hbd hsz => ?_)
              have HJd9 := Lib.hid (HJ9.out.next hbd)
              have hE : Below wd.heap.size wd wd := Below.refl _ _
              have HL0 := Lib.hid HJ9.out.ok.len0
              have HL1 := Lib.hid HJ9.out.ok.len1
              have q7 : ∀ V, Ext wd V → V.cell? ⟨b, 1, none⟩ = some (.slice v2.B v2.k v2.d) := fun V hV => (HJd9.out.bx.below (below_on hE hV)).cell 1 rfl
              have q8 : ∀ V, Ext wd V → V.cell? ⟨b, 2, none⟩ = some (.slice v2.C v2.r v2.e) := fun V hV => (HJd9.out.bx.below (below_on hE hV)).cell 2 rfl
              clear hsz
              (refine takeE Ext.tr 0 (by simp only [List.getElem?_toArray, List.getElem?_cons_succ, List.getElem?_cons_zero]; rfl) (by kernel_rfl) (by kernel_rfl) (by kernel_rfl) (by exact fun _ _ _ h => h) (by first | (refine Or.inl ⟨by rfl, ?_⟩; intro W hW; go_simp; try with_reducible rfl) | exact Or.inr ⟨by rfl, rfl⟩) ?_; try simp only [Act.put, List.setIfInBounds_toArray, List.set_cons_zero, List.set_cons_succ])
              (refine takeE Ext.tr 3 (by simp only [List.getElem?_toArray, List.getElem?_cons_succ, List.getElem?_cons_zero]; rfl) (by kernel_rfl) (by kernel_rfl) (by kernel_rfl) (by exact fun _ _ _ h => h) (by first | (refine Or.inl ⟨by rfl, ?_⟩; intro W hW; go_simp; try with_reducible rfl) | exact Or.inr ⟨by rfl, rfl⟩) ?_; try simp only [Act.put, List.setIfInBounds_toArray, List.set_cons_zero, List.set_cons_succ])
              (refine takeE Ext.tr 4 (by simp only [List.getElem?_toArray, List.getElem?_cons_succ, List.getElem?_cons_zero]; rfl) (by kernel_rfl) (by kernel_rfl) (by kernel_rfl) (by exact fun _ _ _ h => h) (by first | (refine Or.inl ⟨by rfl, ?_⟩; intro W hW; go_simp; try with_reducible rfl) | exact Or.inr ⟨by rfl, rfl⟩) ?_; try simp only [Act.put, List.setIfInBounds_toArray, List.set_cons_zero, List.set_cons_succ])
              refine wpAnyE_one (i := 1) (by kernel_rfl) (by simp only [List.getElem?_toArray, List.getElem?_cons_succ, List.getElem?_cons_zero]; rfl) (fun K hK => ?_)
              go_simp
              refine (p_qs (HJd9.out.q.below hE) 0 (q := ((m.step ov)).q0) rfl).mono ?_
              rintro en t1 ⟨qA0, qn0, qc0, rfl, hn0, hl0, hE2⟩
              have hE3 := hE2
              clear q7 q8
              replace hE := below_on hE hE2
              have q7 : ∀ V, Ext t1 V → V.cell? ⟨b, 1, none⟩ = some (.slice v2.B v2.k v2.d) := fun V hV => (HJd9.out.bx.below (below_on hE hV)).cell 1 rfl
              have q8 : ∀ V, Ext t1 V → V.cell? ⟨b, 2, none⟩ = some (.slice v2.C v2.r v2.e) := fun V hV => (HJd9.out.bx.below (below_on hE hV)).cell 2 rfl
              have HQ0 := Lib.hid (And.intro hn0 hl0)
              clear hE2 hn0 hl0
              refine hK.out _ _ hE3 ?_
              clear hK K
              try simp only [Act.put, List.setIfInBounds_toArray, List.set_cons_zero, List.set_cons_succ]
              refine wpAnyE_one (i := 2) (by kernel_rfl) (by simp only [List.getElem?_toArray, List.getElem?_cons_succ, List.getElem?_cons_zero]; rfl) (fun K hK => ?_)
              go_simp
              refine (l_back HQ0.out.2 HQ0.out.1 (by have h1 := HL0.out; have h2 := HQ0.out.1; omega)).mono ?_
              rintro en t2 ⟨qB0, qm0, qd0, rfl, hk0, hE2⟩
              have hE3 := hE2
              clear q7 q8
              replace hE := below_on hE hE2
              have q7 : ∀ V, Ext t2 V → V.cell? ⟨b, 1, none⟩ = some (.slice v2.B v2.k v2.d) := fun V hV => (HJd9.out.bx.below (below_on hE hV)).cell 1 rfl
              have q8 : ∀ V, Ext t2 V → V.cell? ⟨b, 2, none⟩ = some (.slice v2.C v2.r v2.e) := fun V hV => (HJd9.out.bx.below (below_on hE hV)).cell 2 rfl
              have HK0 := Lib.hid hk0
              clear hE2 hk0 HQ0
              refine hK.out _ _ hE3 ?_
              clear hK K
              try simp only [Act.put, List.setIfInBounds_toArray, List.set_cons_zero, List.set_cons_succ]
              refine wpAnyE_one (i := 5) (by kernel_rfl) (by simp only [List.getElem?_toArray, List.getElem?_cons_succ, List.getElem?_cons_zero]; rfl) (fun K hK => ?_)
              go_simp
              refine (r_same HK0.out (HJd9.out.r.p.below hE) (by rw [HK0.out.1]; have := HL0.out; omega)).mono ?_
              rintro en t3 ⟨rfl, hE2⟩
              have hE3 := hE2
              clear q7 q8
              replace hE := below_on hE hE2
              have q7 : ∀ V, Ext t3 V → V.cell? ⟨b, 1, none⟩ = some (.slice v2.B v2.k v2.d) := fun V hV => (HJd9.out.bx.below (below_on hE hV)).cell 1 rfl
              have q8 : ∀ V, Ext t3 V → V.cell? ⟨b, 2, none⟩ = some (.slice v2.C v2.r v2.e) := fun V hV => (HJd9.out.bx.below (below_on hE hV)).cell 2 rfl
              clear hE2 HK0
              refine hK.out _ _ hE3 ?_
              clear hK K
              try simp only [Act.put, List.setIfInBounds_toArray, List.set_cons_zero, List.set_cons_succ]
              (refine takeE Ext.tr 6 (by simp only [List.getElem?_toArray, List.getElem?_cons_succ, List.getElem?_cons_zero]; rfl) (by kernel_rfl) (by kernel_rfl) (by kernel_rfl) (by exact fun _ _ _ h => h) (by first | (refine Or.inl ⟨by rfl, ?_⟩; intro W hW; go_simp; try with_reducible rfl) | exact Or.inr ⟨by rfl, rfl⟩) ?_; try simp only [Act.put, List.setIfInBounds_toArray, List.set_cons_zero, List.set_cons_succ])
              (refine takeE Ext.tr 7 (by simp only [List.getElem?_toArray, List.getElem?_cons_succ, List.getElem?_cons_zero]; rfl) (by kernel_rfl) (by kernel_rfl) (by kernel_rfl) (by exact fun _ _ _ h => h) (by first | (refine Or.inl ⟨by rfl, ?_⟩; intro W hW; go_simp; try with_reducible rfl) | exact Or.inr ⟨by rfl, rfl⟩) ?_; try simp only [Act.put, List.setIfInBounds_toArray, List.set_cons_zero, List.set_cons_succ])
              (refine takeE Ext.tr 8 (by simp only [List.getElem?_toArray, List.getElem?_cons_succ, List.getElem?_cons_zero]; rfl) (by kernel_rfl) (by kernel_rfl) (by kernel_rfl) (by exact fun _ _ _ h => h) (by first | (refine Or.inl ⟨by rfl, ?_⟩; intro W hW; go_simp; try with_reducible rfl) | exact Or.inr ⟨by rfl, rfl⟩) ?_; try simp only [Act.put, List.setIfInBounds_toArray, List.set_cons_zero, List.set_cons_succ])
              (refine takeE Ext.tr 11 (by simp only [List.getElem?_toArray, List.getElem?_cons_succ, List.getElem?_cons_zero]; rfl) (by kernel_rfl) (by kernel_rfl) (by kernel_rfl) (by exact fun _ _ _ h => h) (by first | (refine Or.inl ⟨by rfl, ?_⟩; intro W hW; go_simp; try with_reducible rfl) | exact Or.inr ⟨by rfl, rfl⟩) ?_; try simp only [Act.put, List.setIfInBounds_toArray, List.set_cons_zero, List.set_cons_succ])
              (refine takeE Ext.tr 12 (by simp only [List.getElem?_toArray, List.getElem?_cons_succ, List.getElem?_cons_zero]; rfl) (by kernel_rfl) (by kernel_rfl) (by kernel_rfl) (by exact fun _ _ _ h => h) (by first | (refine Or.inl ⟨by rfl, ?_⟩; intro W hW; go_simp; try with_reducible rfl) | exact Or.inr ⟨by rfl, rfl⟩) ?_; try simp only [Act.put, List.setIfInBounds_toArray, List.set_cons_zero, List.set_cons_succ])
              refine wpAnyE_one (i := 9) (by kernel_rfl) (by simp only [List.getElem?_toArray, List.getElem?_cons_succ, List.getElem?_cons_zero]; rfl) (fun K hK => ?_)
              go_simp
              refine (p_qs (HJd9.out.q.below hE) 1 (q := ((m.step ov)).q1) rfl).mono ?_
              rintro en t4 ⟨qA1, qn1, qc1, rfl, hn1, hl1, hE2⟩
              have hE3 := hE2
              clear q7 q8
              replace hE := below_on hE hE2
              have q7 : ∀ V, Ext t4 V → V.cell? ⟨b, 1, none⟩ = some (.slice v2.B v2.k v2.d) := fun V hV => (HJd9.out.bx.below (below_on hE hV)).cell 1 rfl
              have q8 : ∀ V, Ext t4 V → V.cell? ⟨b, 2, none⟩ = some (.slice v2.C v2.r v2.e) := fun V hV => (HJd9.out.bx.below (below_on hE hV)).cell 2 rfl
              have HQ1 := Lib.hid (And.intro hn1 hl1)
              clear hE2 hn1 hl1
              refine hK.out _ _ hE3 ?_
              clear hK K
              try simp only [Act.put, List.setIfInBounds_toArray, List.set_cons_zero, List.set_cons_succ]
              refine wpAnyE_one (i := 10) (by kernel_rfl) (by simp only [List.getElem?_toArray, List.getElem?_cons_succ, List.getElem?_cons_zero]; rfl) (fun K hK => ?_)
              go_simp
              refine (l_back HQ1.out.2 HQ1.out.1 (by have h1 := HL1.out; have h2 := HQ1.out.1; omega)).mono ?_
              rintro en t5 ⟨qB1, qm1, qd1, rfl, hk1, hE2⟩
              have hE3 := hE2
              clear q7 q8
              replace hE := below_on hE hE2
              have q7 : ∀ V, Ext t5 V → V.cell? ⟨b, 1, none⟩ = some (.slice v2.B v2.k v2.d) := fun V hV => (HJd9.out.bx.below (below_on hE hV)).cell 1 rfl
              have q8 : ∀ V, Ext t5 V → V.cell? ⟨b, 2, none⟩ = some (.slice v2.C v2.r v2.e) := fun V hV => (HJd9.out.bx.below (below_on hE hV)).cell 2 rfl
              have HK1 := Lib.hid hk1
              clear hE2 hk1 HQ1
              refine hK.out _ _ hE3 ?_
              clear hK K
              try simp only [Act.put, List.setIfInBounds_toArray, List.set_cons_zero, List.set_cons_succ]
              refine wpAnyE_one (i := 13) (by kernel_rfl) (by simp only [List.getElem?_toArray, List.getElem?_cons_succ, List.getElem?_cons_zero]; rfl) (fun K hK => ?_)
              go_simp
              refine (r_same HK1.out (HJd9.out.r.u.below hE) (by rw [HK1.out.1]; have := HL1.out; omega)).mono ?_
              rintro en t6 ⟨rfl, hE2⟩
              have hE3 := hE2
              clear q7 q8
              replace hE := below_on hE hE2
              have q7 : ∀ V, Ext t6 V → V.cell? ⟨b, 1, none⟩ = some (.slice v2.B v2.k v2.d) := fun V hV => (HJd9.out.bx.below (below_on hE hV)).cell 1 rfl
              have q8 : ∀ V, Ext t6 V → V.cell? ⟨b, 2, none⟩ = some (.slice v2.C v2.r v2.e) := fun V hV => (HJd9.out.bx.below (below_on hE hV)).cell 2 rfl
              clear hE2 HK1
              refine hK.out _ _ hE3 ?_
              clear hK K
              try simp only [Act.put, List.setIfInBounds_toArray, List.set_cons_zero, List.set_cons_succ]
              (refine takeE Ext.tr 14 (by simp only [List.getElem?_toArray, List.getElem?_cons_succ, List.getElem?_cons_zero]; rfl) (by kernel_rfl) (by kernel_rfl) (by kernel_rfl) (by exact fun _ _ _ h => h) (by first | (refine Or.inl ⟨by rfl, ?_⟩; intro W hW; go_simp; try with_reducible rfl) | exact Or.inr ⟨by rfl, rfl⟩) ?_; try simp only [Act.put, List.setIfInBounds_toArray, List.set_cons_zero, List.set_cons_succ])
              (refine takeE Ext.tr 15 (by simp only [List.getElem?_toArray, List.getElem?_cons_succ, List.getElem?_cons_zero]; rfl) (by kernel_rfl) (by kernel_rfl) (by kernel_rfl) (by exact fun _ _ _ h => h) (by first | (refine Or.inl ⟨by rfl, ?_⟩; intro W hW; go_simp; try with_reducible rfl) | exact Or.inr ⟨by rfl, rfl⟩) ?_; try simp only [Act.put, List.setIfInBounds_toArray, List.set_cons_zero, List.set_cons_succ])
              (refine takeE Ext.tr 16 (by simp only [List.getElem?_toArray, List.getElem?_cons_succ, List.getElem?_cons_zero]; rfl) (by kernel_rfl) (by kernel_rfl) (by kernel_rfl) (by exact fun _ _ _ h => h) (by first | (refine Or.inl ⟨by rfl, ?_⟩; intro W hW; go_simp; try with_reducible rfl) | exact Or.inr ⟨by rfl, rfl⟩) ?_; try simp only [Act.put, List.setIfInBounds_toArray, List.set_cons_zero, List.set_cons_succ])
              (refine takeE Ext.tr 17 (by simp only [List.getElem?_toArray, List.getElem?_cons_succ, List.getElem?_cons_zero]; rfl) (by kernel_rfl) (by kernel_rfl) (by kernel_rfl) (by exact fun _ _ _ h => h) (by first | (refine Or.inl ⟨by rfl, ?_⟩; intro W hW; go_simp; try with_reducible rfl) | exact Or.inr ⟨by rfl, rfl⟩) ?_; try simp only [Act.put, List.setIfInBounds_toArray, List.set_cons_zero, List.set_cons_succ])
              refine wpAnyE_one (i := 18) (by kernel_rfl) (by simp only [List.getElem?_toArray, List.getElem?_cons_succ, List.getElem?_cons_zero]; rfl) (fun K hK => ?_)
              go_simp
              refine (p_qs (HJd9.out.q.below hE) 2 (q := []) rfl).mono ?_
              rintro en t7 ⟨qA2, qn2, qc2, rfl, hn2, hl2, hE2⟩
              have hE3 := hE2
              clear q7 q8
              replace hE := below_on hE hE2
              have q7 : ∀ V, Ext t7 V → V.cell? ⟨b, 1, none⟩ = some (.slice v2.B v2.k v2.d) := fun V hV => (HJd9.out.bx.below (below_on hE hV)).cell 1 rfl
              have q8 : ∀ V, Ext t7 V → V.cell? ⟨b, 2, none⟩ = some (.slice v2.C v2.r v2.e) := fun V hV => (HJd9.out.bx.below (below_on hE hV)).cell 2 rfl
              obtain rfl : qn2 = 0 := hn2
              clear hE2
              refine hK.out _ _ hE3 ?_
              clear hK K
              try simp only [Act.put, List.setIfInBounds_toArray, List.set_cons_zero, List.set_cons_succ]
              (refine takeE Ext.tr 19 (by simp only [List.getElem?_toArray, List.getElem?_cons_succ, List.getElem?_cons_zero]; rfl) (by kernel_rfl) (by kernel_rfl) (by kernel_rfl) (by exact fun _ _ _ h => h) (by first | (refine Or.inl ⟨by rfl, ?_⟩; intro W hW; go_simp; try with_reducible rfl) | exact Or.inr ⟨by rfl, rfl⟩) ?_; try simp only [Act.put, List.setIfInBounds_toArray, List.set_cons_zero, List.set_cons_succ])
              (refine takeE Ext.tr 20 (by simp only [List.getElem?_toArray, List.getElem?_cons_succ, List.getElem?_cons_zero]; rfl) (by kernel_rfl) (by kernel_rfl) (by kernel_rfl) (by exact fun _ _ _ h => h) (by first | (refine Or.inl ⟨by rfl, ?_⟩; intro W hW; go_simp; try with_reducible rfl) | exact Or.inr ⟨by rfl, rfl⟩) ?_; try simp only [Act.put, List.setIfInBounds_toArray, List.set_cons_zero, List.set_cons_succ])
              (refine takeE Ext.tr 21 (by simp only [List.getElem?_toArray, List.getElem?_cons_succ, List.getElem?_cons_zero]; rfl) (by kernel_rfl) (by kernel_rfl) (by kernel_rfl) (by exact fun _ _ _ h => h) (by first | (refine Or.inl ⟨by rfl, ?_⟩; intro W hW; go_simp; try with_reducible rfl) | exact Or.inr ⟨by rfl, rfl⟩) ?_; try simp only [Act.put, List.setIfInBounds_toArray, List.set_cons_zero, List.set_cons_succ])
              refine wpAnyE_done (by kernel_rfl) ?_ _
              clear q7 q8
              have HJX := Lib.hid (HJd9.out.next hE)
              clear hE
              go_wp2
              go_roundw
              case rel => exact ⟨i + 1, _, by go_num, by have := HLT.out; omega, rfl, p, F6, v2, (m.step ov), rfl, HJX.out, HT2.out⟩
              case measure => have := HLT.out; simp [intOf]; omega
            ·
              go_simp
              have hya : Below wd.heap.size wd (wd.alloc (.cells #[.int .i64 zKn.k.s, .int .i64 zKn.k.c, .int .i64 zKn.g, .int .i64 zKn.p, .int .i64 zKn.i] 50)) := (Below.refl _ _).alloc (Nat.le_refl _) _
              have HY := Lib.hid (And.intro hya (Bk.new wd 50 zKn.cl))
              clear hya
              refine hK.out _ _ (HY.out.1.mono hsd) ?_
              clear hK K
              try simp only [Act.put, List.setIfInBounds_toArray, List.set_cons_zero, List.set_cons_succ]
              refine wpAnyE_one (i := 6) (by kernel_rfl) (by simp only [List.getElem?_toArray, List.getElem?_cons_succ, List.getElem?_cons_zero]; rfl) (fun K hK => ?_)
              go_simp
              refine (r_of (HJ7.out.r.below (HBd.out.trans (HY.out.1.mono HBd.out.size))) (by rw [HJ7.out.r.l.1]; have := HJ7.out.ok.ll; have := HJ7.out.ok.mo; omega) ov.k).mono ?_
              rintro en w10 ⟨rfl, hb10⟩
              have HB10 := Lib.hid hb10
              clear hb10
              refine hK.out _ _ (HB10.out.mono (Nat.le_trans hsd HY.out.1.size)) ?_
              clear hK K
              try simp only [Act.put, List.setIfInBounds_toArray, List.set_cons_zero, List.set_cons_succ]
              refine wpAnyE_one (i := 8) (by kernel_rfl) (by simp only [List.getElem?_toArray, List.getElem?_cons_succ, List.getElem?_cons_zero]; rfl) (fun K hK => ?_)
              refine opwp_store_bk rowN rfl (.tmp 14) (.tmp 93) rfl wd.heap.size 0 rfl (HY.out.2.below HB10.out) (ofKey ((m.step ov)).L ov.k).cl rfl rfl (by decide) (ofKey ((m.step ov)).L ov.k).cl_one ?_
              intro w11 hz11 hw11
              rw [lay_all _ _ (by rfl)] at hz11
              have h10 : Below w7.heap.size wd w10 := HY.out.1.mono hsd |>.trans (HB10.out.mono (Nat.le_trans hsd HY.out.1.size))
              have hE11 : Below w7.heap.size w10 w11 := (Below.refl w7.heap.size w10).trans ((st_wr hw11).below (Nat.le_trans hsd (Nat.le_trans HY.out.1.size HB10.out.size)) fun j e => by omega)
              have HX := Lib.hid (And.intro (HJ7.out.next (HBd.out.trans (h10.trans hE11))) hz11)
              clear hz11 hw11 h10
              refine hK.out _ _ hE11 ?_
              clear hK K
              try simp only [Act.put, List.setIfInBounds_toArray, List.set_cons_zero, List.set_cons_succ]
              refine wpAnyE_done (by kernel_rfl) ?_ _
              generalize wd.heap.size = gx at *
              clear hkr hsd HJ7 HB10 HY
              go_wp2_with fail
              refine wp_region_E Ext (by kernel_rfl) (fun wd hbd hsz => ?_)
              have HXd := Lib.hid (And.intro (HX.out.1.next hbd) (HX.out.2.below hbd))
              have hE : Below wd.heap.size wd wd := Below.refl _ _
              have q1 : ∀ V, Ext wd V → V.cell? ⟨go_, oo + i * 5 + 1, none⟩ = some (.int .i64 ov.k.s) := fun V hV => range_belowB HOR.out.1 HOR.out.2.1 (below_on HXd.out.1.bel (below_on hE hV)) 1 _ rfl
              have q2 : ∀ V, Ext wd V → V.cell? ⟨go_, oo + i * 5 + 2, none⟩ = some (.int .i64 ov.k.c) := fun V hV => range_belowB HOR.out.1 HOR.out.2.1 (below_on HXd.out.1.bel (below_on hE hV)) 2 _ rfl
              have q3 : ∀ V, Ext wd V → V.cell? ⟨gx, 3, none⟩ = some (.int .i64 (ofKey ((m.step ov)).L ov.k).p) := fun V hV => (HXd.out.2.below (below_on hE hV)).cell 3 rfl
              have q4 : ∀ V, Ext wd V → V.cell? ⟨gx, 4, none⟩ = some (.int .i64 (ofKey ((m.step ov)).L ov.k).i) := fun V hV => (HXd.out.2.below (below_on hE hV)).cell 4 rfl
              have q5 : ∀ V, Ext wd V → V.cell? ⟨b, 5, none⟩ = some (.int .i64 ((m.step ov)).total) := fun V hV => (HXd.out.1.bx.below (below_on hE hV)).cell 5 rfl
              have q6 : ∀ V, Ext wd V → V.cell? ⟨b, 0, none⟩ = some (.slice v2.A v2.n v2.c) := fun V hV => (HXd.out.1.bx.below (below_on hE hV)).cell 0 rfl
              have hln : ((((m.step ov)).L.length : Int) != (v2.n : Int)) = false := by have := HX.out.1.r.l.1; simp; omega
              have HBD := Lib.hid hbd
              clear hsz
              (refine takeE Ext.tr 0 (by simp only [List.getElem?_toArray, List.getElem?_cons_succ, List.getElem?_cons_zero]; rfl) (by kernel_rfl) (by kernel_rfl) (by kernel_rfl) (by exact fun _ _ _ h => h) (by first | (refine Or.inl ⟨by rfl, ?_⟩; intro W hW; go_simp; try with_reducible rfl) | exact Or.inr ⟨by rfl, rfl⟩) ?_; try simp only [Act.put, List.setIfInBounds_toArray, List.set_cons_zero, List.set_cons_succ])
              (refine takeE Ext.tr 1 (by simp only [List.getElem?_toArray, List.getElem?_cons_succ, List.getElem?_cons_zero]; rfl) (by kernel_rfl) (by kernel_rfl) (by kernel_rfl) (by exact fun _ _ _ h => h) (by first | (refine Or.inl ⟨by rfl, ?_⟩; intro W hW; go_simp; try with_reducible rfl) | exact Or.inr ⟨by rfl, rfl⟩) ?_; try simp only [Act.put, List.setIfInBounds_toArray, List.set_cons_zero, List.set_cons_succ])
              (refine takeE Ext.tr 2 (by simp only [List.getElem?_toArray, List.getElem?_cons_succ, List.getElem?_cons_zero]; rfl) (by kernel_rfl) (by kernel_rfl) (by kernel_rfl) (by exact fun _ _ _ h => h) (by first | (refine Or.inl ⟨by rfl, ?_⟩; intro W hW; go_simp; try with_reducible rfl) | exact Or.inr ⟨by rfl, rfl⟩) ?_; try simp only [Act.put, List.setIfInBounds_toArray, List.set_cons_zero, List.set_cons_succ])
              (refine takeE Ext.tr 3 (by simp only [List.getElem?_toArray, List.getElem?_cons_succ, List.getElem?_cons_zero]; rfl) (by kernel_rfl) (by kernel_rfl) (by kernel_rfl) (by exact fun _ _ _ h => h) (by first | (refine Or.inl ⟨by rfl, ?_⟩; intro W hW; go_simp; try with_reducible rfl) | exact Or.inr ⟨by rfl, rfl⟩) ?_; try simp only [Act.put, List.setIfInBounds_toArray, List.set_cons_zero, List.set_cons_succ])
              (refine takeE Ext.tr 4 (by simp only [List.getElem?_toArray, List.getElem?_cons_succ, List.getElem?_cons_zero]; rfl) (by kernel_rfl) (by kernel_rfl) (by kernel_rfl) (by exact fun _ _ _ h => h) (by first | (refine Or.inl ⟨by rfl, ?_⟩; intro W hW; go_simp; try with_reducible rfl) | exact Or.inr ⟨by rfl, rfl⟩) ?_; try simp only [Act.put, List.setIfInBounds_toArray, List.set_cons_zero, List.set_cons_succ])
              (refine takeE Ext.tr 5 (by simp only [List.getElem?_toArray, List.getElem?_cons_succ, List.getElem?_cons_zero]; rfl) (by kernel_rfl) (by kernel_rfl) (by kernel_rfl) (by exact fun _ _ _ h => h) (by first | (refine Or.inl ⟨by rfl, ?_⟩; intro W hW; go_simp; try with_reducible rfl) | exact Or.inr ⟨by rfl, rfl⟩) ?_; try simp only [Act.put, List.setIfInBounds_toArray, List.set_cons_zero, List.set_cons_succ])
              (refine takeE Ext.tr 11 (by simp only [List.getElem?_toArray, List.getElem?_cons_succ, List.getElem?_cons_zero]; rfl) (by kernel_rfl) (by kernel_rfl) (by kernel_rfl) (by exact fun _ _ _ h => h) (by first | (refine Or.inl ⟨by rfl, ?_⟩; intro W hW; go_simp; try with_reducible rfl) | exact Or.inr ⟨by rfl, rfl⟩) ?_; try simp only [Act.put, List.setIfInBounds_toArray, List.set_cons_zero, List.set_cons_succ])
              (refine takeE Ext.tr 6 (by simp only [List.getElem?_toArray, List.getElem?_cons_succ, List.getElem?_cons_zero]; rfl) (by kernel_rfl) (by kernel_rfl) (by kernel_rfl) (by exact fun _ _ _ h => h) (by first | (refine Or.inl ⟨by rfl, ?_⟩; intro W hW; go_simp; try with_reducible rfl) | exact Or.inr ⟨by rfl, rfl⟩) ?_; try simp only [Act.put, List.setIfInBounds_toArray, List.set_cons_zero, List.set_cons_succ])
              (refine takeE Ext.tr 12 (by simp only [List.getElem?_toArray, List.getElem?_cons_succ, List.getElem?_cons_zero]; rfl) (by kernel_rfl) (by kernel_rfl) (by kernel_rfl) (by exact fun _ _ _ h => h) (by first | (refine Or.inl ⟨by rfl, ?_⟩; intro W hW; go_simp; try with_reducible rfl) | exact Or.inr ⟨by rfl, rfl⟩) ?_; try simp only [Act.put, List.setIfInBounds_toArray, List.set_cons_zero, List.set_cons_succ])
              (refine takeE Ext.tr 7 (by simp only [List.getElem?_toArray, List.getElem?_cons_succ, List.getElem?_cons_zero]; rfl) (by kernel_rfl) (by kernel_rfl) (by kernel_rfl) (by exact fun _ _ _ h => h) (by first | (refine Or.inl ⟨by rfl, ?_⟩; intro W hW; go_simp; try with_reducible rfl) | exact Or.inr ⟨by rfl, rfl⟩) ?_; try simp only [Act.put, List.setIfInBounds_toArray, List.set_cons_zero, List.set_cons_succ])
              (refine takeE Ext.tr 8 (by simp only [List.getElem?_toArray, List.getElem?_cons_succ, List.getElem?_cons_zero]; rfl) (by kernel_rfl) (by kernel_rfl) (by kernel_rfl) (by exact fun _ _ _ h => h) (by first | (refine Or.inl ⟨by rfl, ?_⟩; intro W hW; go_simp; try with_reducible rfl) | exact Or.inr ⟨by rfl, rfl⟩) ?_; try simp only [Act.put, List.setIfInBounds_toArray, List.set_cons_zero, List.set_cons_succ])
              refine wpAnyE_one (i := 9) (by kernel_rfl) (by simp only [List.getElem?_toArray, List.getElem?_cons_succ, List.getElem?_cons_zero]; rfl) (fun K hK => ?_)
              go_simp
              refine (l_of ov.k _).mono ?_
              rintro en u1 ⟨rfl, hE2⟩
              have hE3 := hE2
              clear q1 q2 q3 q4 q5 q6
              replace hE := below_on hE hE2
              have q1 : ∀ V, Ext u1 V → V.cell? ⟨go_, oo + i * 5 + 1, none⟩ = some (.int .i64 ov.k.s) := fun V hV => range_belowB HOR.out.1 HOR.out.2.1 (below_on HXd.out.1.bel (below_on hE hV)) 1 _ rfl
              have q2 : ∀ V, Ext u1 V → V.cell? ⟨go_, oo + i * 5 + 2, none⟩ = some (.int .i64 ov.k.c) := fun V hV => range_belowB HOR.out.1 HOR.out.2.1 (below_on HXd.out.1.bel (below_on hE hV)) 2 _ rfl
              have q3 : ∀ V, Ext u1 V → V.cell? ⟨gx, 3, none⟩ = some (.int .i64 (ofKey ((m.step ov)).L ov.k).p) := fun V hV => (HXd.out.2.below (below_on hE hV)).cell 3 rfl
              have q4 : ∀ V, Ext u1 V → V.cell? ⟨gx, 4, none⟩ = some (.int .i64 (ofKey ((m.step ov)).L ov.k).i) := fun V hV => (HXd.out.2.below (below_on hE hV)).cell 4 rfl
              have q5 : ∀ V, Ext u1 V → V.cell? ⟨b, 5, none⟩ = some (.int .i64 ((m.step ov)).total) := fun V hV => (HXd.out.1.bx.below (below_on hE hV)).cell 5 rfl
              have q6 : ∀ V, Ext u1 V → V.cell? ⟨b, 0, none⟩ = some (.slice v2.A v2.n v2.c) := fun V hV => (HXd.out.1.bx.below (below_on hE hV)).cell 0 rfl
              clear hE2
              refine hK.out _ _ hE3 ?_
              clear hK K
              try simp only [Act.put, List.setIfInBounds_toArray, List.set_cons_zero, List.set_cons_succ]
              refine wpAnyE_one (i := 10) (by kernel_rfl) (by simp only [List.getElem?_toArray, List.getElem?_cons_succ, List.getElem?_cons_zero]; rfl) (fun K hK => ?_)
              go_simp
              refine (p_pending (HXd.out.1.q.below hE) ov.k).mono ?_
              rintro en u2 ⟨rfl, hE2⟩
              have hE3 := hE2
              clear q1 q2 q3 q4 q5 q6
              replace hE := below_on hE hE2
              have q1 : ∀ V, Ext u2 V → V.cell? ⟨go_, oo + i * 5 + 1, none⟩ = some (.int .i64 ov.k.s) := fun V hV => range_belowB HOR.out.1 HOR.out.2.1 (below_on HXd.out.1.bel (below_on hE hV)) 1 _ rfl
              have q2 : ∀ V, Ext u2 V → V.cell? ⟨go_, oo + i * 5 + 2, none⟩ = some (.int .i64 ov.k.c) := fun V hV => range_belowB HOR.out.1 HOR.out.2.1 (below_on HXd.out.1.bel (below_on hE hV)) 2 _ rfl
              have q3 : ∀ V, Ext u2 V → V.cell? ⟨gx, 3, none⟩ = some (.int .i64 (ofKey ((m.step ov)).L ov.k).p) := fun V hV => (HXd.out.2.below (below_on hE hV)).cell 3 rfl
              have q4 : ∀ V, Ext u2 V → V.cell? ⟨gx, 4, none⟩ = some (.int .i64 (ofKey ((m.step ov)).L ov.k).i) := fun V hV => (HXd.out.2.below (below_on hE hV)).cell 4 rfl
              have q5 : ∀ V, Ext u2 V → V.cell? ⟨b, 5, none⟩ = some (.int .i64 ((m.step ov)).total) := fun V hV => (HXd.out.1.bx.below (below_on hE hV)).cell 5 rfl
              have q6 : ∀ V, Ext u2 V → V.cell? ⟨b, 0, none⟩ = some (.slice v2.A v2.n v2.c) := fun V hV => (HXd.out.1.bx.below (below_on hE hV)).cell 0 rfl
              clear hE2
              refine hK.out _ _ hE3 ?_
              clear hK K
              try simp only [Act.put, List.setIfInBounds_toArray, List.set_cons_zero, List.set_cons_succ]
              (refine takeE Ext.tr 13 (by simp only [List.getElem?_toArray, List.getElem?_cons_succ, List.getElem?_cons_zero]; rfl) (by kernel_rfl) (by kernel_rfl) (by kernel_rfl) (by exact fun _ _ _ h => h) (by first | (refine Or.inl ⟨by rfl, ?_⟩; intro W hW; go_simp; try with_reducible rfl) | exact Or.inr ⟨by rfl, rfl⟩) ?_; try simp only [Act.put, List.setIfInBounds_toArray, List.set_cons_zero, List.set_cons_succ])
              (refine takeE Ext.tr 14 (by simp only [List.getElem?_toArray, List.getElem?_cons_succ, List.getElem?_cons_zero]; rfl) (by kernel_rfl) (by kernel_rfl) (by kernel_rfl) (by exact fun _ _ _ h => h) (by first | (refine Or.inl ⟨by rfl, ?_⟩; intro W hW; go_simp; try with_reducible rfl) | exact Or.inr ⟨by rfl, rfl⟩) ?_; try simp only [Act.put, List.setIfInBounds_toArray, List.set_cons_zero, List.set_cons_succ])
              (refine takeE Ext.tr 15 (by simp only [List.getElem?_toArray, List.getElem?_cons_succ, List.getElem?_cons_zero]; rfl) (by kernel_rfl) (by kernel_rfl) (by kernel_rfl) (by exact fun _ _ _ h => h) (by first | (refine Or.inl ⟨by rfl, ?_⟩; intro W hW; go_simp; try with_reducible rfl) | exact Or.inr ⟨by rfl, rfl⟩) ?_; try simp only [Act.put, List.setIfInBounds_toArray, List.set_cons_zero, List.set_cons_succ])
              (refine takeE Ext.tr 16 (by simp only [List.getElem?_toArray, List.getElem?_cons_succ, List.getElem?_cons_zero]; rfl) (by kernel_rfl) (by kernel_rfl) (by kernel_rfl) (by exact fun _ _ _ h => h) (by first | (refine Or.inl ⟨by rfl, ?_⟩; intro W hW; go_simp; try with_reducible rfl) | exact Or.inr ⟨by rfl, rfl⟩) ?_; try simp only [Act.put, List.setIfInBounds_toArray, List.set_cons_zero, List.set_cons_succ])
              (refine takeE Ext.tr 17 (by simp only [List.getElem?_toArray, List.getElem?_cons_succ, List.getElem?_cons_zero]; rfl) (by kernel_rfl) (by kernel_rfl) (by kernel_rfl) (by exact fun _ _ _ h => h) (by first | (refine Or.inl ⟨by rfl, ?_⟩; intro W hW; go_simp; try with_reducible rfl) | exact Or.inr ⟨by rfl, rfl⟩) ?_; try simp only [Act.put, List.setIfInBounds_toArray, List.set_cons_zero, List.set_cons_succ])
              (refine takeE Ext.tr 18 (by simp only [List.getElem?_toArray, List.getElem?_cons_succ, List.getElem?_cons_zero]; rfl) (by kernel_rfl) (by kernel_rfl) (by kernel_rfl) (by exact fun _ _ _ h => h) (by first | (refine Or.inl ⟨by rfl, ?_⟩; intro W hW; go_simp; try with_reducible rfl) | exact Or.inr ⟨by rfl, rfl⟩) ?_; try simp only [Act.put, List.setIfInBounds_toArray, List.set_cons_zero, List.set_cons_succ])
              (refine takeE Ext.tr 24 (by simp only [List.getElem?_toArray, List.getElem?_cons_succ, List.getElem?_cons_zero]; rfl) (by kernel_rfl) (by kernel_rfl) (by kernel_rfl) (by exact fun _ _ _ h => h) (by first | (refine Or.inl ⟨by rfl, ?_⟩; intro W hW; go_simp; try with_reducible rfl) | exact Or.inr ⟨by rfl, rfl⟩) ?_; try simp only [Act.put, List.setIfInBounds_toArray, List.set_cons_zero, List.set_cons_succ])
              (refine takeE Ext.tr 19 (by simp only [List.getElem?_toArray, List.getElem?_cons_succ, List.getElem?_cons_zero]; rfl) (by kernel_rfl) (by kernel_rfl) (by kernel_rfl) (by exact fun _ _ _ h => h) (by first | (refine Or.inl ⟨by rfl, ?_⟩; intro W hW; go_simp; try with_reducible rfl) | exact Or.inr ⟨by rfl, rfl⟩) ?_; try simp only [Act.put, List.setIfInBounds_toArray, List.set_cons_zero, List.set_cons_succ])
              (refine takeE Ext.tr 25 (by simp only [List.getElem?_toArray, List.getElem?_cons_succ, List.getElem?_cons_zero]; rfl) (by kernel_rfl) (by kernel_rfl) (by kernel_rfl) (by exact fun _ _ _ h => h) (by first | (refine Or.inl ⟨by rfl, ?_⟩; intro W hW; go_simp; try with_reducible rfl) | exact Or.inr ⟨by rfl, rfl⟩) ?_; try simp only [Act.put, List.setIfInBounds_toArray, List.set_cons_zero, List.set_cons_succ])
              (refine takeE Ext.tr 20 (by simp only [List.getElem?_toArray, List.getElem?_cons_succ, List.getElem?_cons_zero]; rfl) (by kernel_rfl) (by kernel_rfl) (by kernel_rfl) (by exact fun _ _ _ h => h) (by first | (refine Or.inl ⟨by rfl, ?_⟩; intro W hW; go_simp; try with_reducible rfl) | exact Or.inr ⟨by rfl, rfl⟩) ?_; try simp only [Act.put, List.setIfInBounds_toArray, List.set_cons_zero, List.set_cons_succ])
              (refine takeE Ext.tr 21 (by simp only [List.getElem?_toArray, List.getElem?_cons_succ, List.getElem?_cons_zero]; rfl) (by kernel_rfl) (by kernel_rfl) (by kernel_rfl) (by exact fun _ _ _ h => h) (by first | (refine Or.inl ⟨by rfl, ?_⟩; intro W hW; go_simp; try with_reducible rfl) | exact Or.inr ⟨by rfl, rfl⟩) ?_; try simp only [Act.put, List.setIfInBounds_toArray, List.set_cons_zero, List.set_cons_succ])
              refine wpAnyE_one (i := 22) (by kernel_rfl) (by simp only [List.getElem?_toArray, List.getElem?_cons_succ, List.getElem?_cons_zero]; rfl) (fun K hK => ?_)
              go_simp
              refine (l_of ov.k _).mono ?_
              rintro en u3 ⟨rfl, hE2⟩
              have hE3 := hE2
              clear q1 q2 q3 q4 q5 q6
              replace hE := below_on hE hE2
              have q1 : ∀ V, Ext u3 V → V.cell? ⟨go_, oo + i * 5 + 1, none⟩ = some (.int .i64 ov.k.s) := fun V hV => range_belowB HOR.out.1 HOR.out.2.1 (below_on HXd.out.1.bel (below_on hE hV)) 1 _ rfl
              have q2 : ∀ V, Ext u3 V → V.cell? ⟨go_, oo + i * 5 + 2, none⟩ = some (.int .i64 ov.k.c) := fun V hV => range_belowB HOR.out.1 HOR.out.2.1 (below_on HXd.out.1.bel (below_on hE hV)) 2 _ rfl
              have q3 : ∀ V, Ext u3 V → V.cell? ⟨gx, 3, none⟩ = some (.int .i64 (ofKey ((m.step ov)).L ov.k).p) := fun V hV => (HXd.out.2.below (below_on hE hV)).cell 3 rfl
              have q4 : ∀ V, Ext u3 V → V.cell? ⟨gx, 4, none⟩ = some (.int .i64 (ofKey ((m.step ov)).L ov.k).i) := fun V hV => (HXd.out.2.below (below_on hE hV)).cell 4 rfl
              have q5 : ∀ V, Ext u3 V → V.cell? ⟨b, 5, none⟩ = some (.int .i64 ((m.step ov)).total) := fun V hV => (HXd.out.1.bx.below (below_on hE hV)).cell 5 rfl
              have q6 : ∀ V, Ext u3 V → V.cell? ⟨b, 0, none⟩ = some (.slice v2.A v2.n v2.c) := fun V hV => (HXd.out.1.bx.below (below_on hE hV)).cell 0 rfl
              clear hE2
              refine hK.out _ _ hE3 ?_
              clear hK K
              try simp only [Act.put, List.setIfInBounds_toArray, List.set_cons_zero, List.set_cons_succ]
              refine wpAnyE_one (i := 23) (by kernel_rfl) (by simp only [List.getElem?_toArray, List.getElem?_cons_succ, List.getElem?_cons_zero]; rfl) (fun K hK => ?_)
              go_simp
              refine (p_issued (HXd.out.1.q.below hE) ov.k).mono ?_
              rintro en u4 ⟨rfl, hE2⟩
              have hE3 := hE2
              clear q1 q2 q3 q4 q5 q6
              replace hE := below_on hE hE2
              have q1 : ∀ V, Ext u4 V → V.cell? ⟨go_, oo + i * 5 + 1, none⟩ = some (.int .i64 ov.k.s) := fun V hV => range_belowB HOR.out.1 HOR.out.2.1 (below_on HXd.out.1.bel (below_on hE hV)) 1 _ rfl
              have q2 : ∀ V, Ext u4 V → V.cell? ⟨go_, oo + i * 5 + 2, none⟩ = some (.int .i64 ov.k.c) := fun V hV => range_belowB HOR.out.1 HOR.out.2.1 (below_on HXd.out.1.bel (below_on hE hV)) 2 _ rfl
              have q3 : ∀ V, Ext u4 V → V.cell? ⟨gx, 3, none⟩ = some (.int .i64 (ofKey ((m.step ov)).L ov.k).p) := fun V hV => (HXd.out.2.below (below_on hE hV)).cell 3 rfl
              have q4 : ∀ V, Ext u4 V → V.cell? ⟨gx, 4, none⟩ = some (.int .i64 (ofKey ((m.step ov)).L ov.k).i) := fun V hV => (HXd.out.2.below (below_on hE hV)).cell 4 rfl
              have q5 : ∀ V, Ext u4 V → V.cell? ⟨b, 5, none⟩ = some (.int .i64 ((m.step ov)).total) := fun V hV => (HXd.out.1.bx.below (below_on hE hV)).cell 5 rfl
              have q6 : ∀ V, Ext u4 V → V.cell? ⟨b, 0, none⟩ = some (.slice v2.A v2.n v2.c) := fun V hV => (HXd.out.1.bx.below (below_on hE hV)).cell 0 rfl
              clear hE2
              refine hK.out _ _ hE3 ?_
              clear hK K
              try simp only [Act.put, List.setIfInBounds_toArray, List.set_cons_zero, List.set_cons_succ]
              (refine takeE Ext.tr 26 (by simp only [List.getElem?_toArray, List.getElem?_cons_succ, List.getElem?_cons_zero]; rfl) (by kernel_rfl) (by kernel_rfl) (by kernel_rfl) (by exact fun _ _ _ h => h) (by first | (refine Or.inl ⟨by rfl, ?_⟩; intro W hW; go_simp; try with_reducible rfl) | exact Or.inr ⟨by rfl, rfl⟩) ?_; try simp only [Act.put, List.setIfInBounds_toArray, List.set_cons_zero, List.set_cons_succ])
              (refine takeE Ext.tr 27 (by simp only [List.getElem?_toArray, List.getElem?_cons_succ, List.getElem?_cons_zero]; rfl) (by kernel_rfl) (by kernel_rfl) (by kernel_rfl) (by exact fun _ _ _ h => h) (by first | (refine Or.inl ⟨by rfl, ?_⟩; intro W hW; go_simp; try with_reducible rfl) | exact Or.inr ⟨by rfl, rfl⟩) ?_; try simp only [Act.put, List.setIfInBounds_toArray, List.set_cons_zero, List.set_cons_succ])
              (refine takeE Ext.tr 28 (by simp only [List.getElem?_toArray, List.getElem?_cons_succ, List.getElem?_cons_zero]; rfl) (by kernel_rfl) (by kernel_rfl) (by kernel_rfl) (by exact fun _ _ _ h => h) (by first | (refine Or.inl ⟨by rfl, ?_⟩; intro W hW; go_simp; try with_reducible rfl) | exact Or.inr ⟨by rfl, rfl⟩) ?_; try simp only [Act.put, List.setIfInBounds_toArray, List.set_cons_zero, List.set_cons_succ])
              (refine takeE Ext.tr 29 (by simp only [List.getElem?_toArray, List.getElem?_cons_succ, List.getElem?_cons_zero]; rfl) (by kernel_rfl) (by kernel_rfl) (by kernel_rfl) (by exact fun _ _ _ h => h) (by first | (refine Or.inl ⟨by rfl, ?_⟩; intro W hW; go_simp; try with_reducible rfl) | exact Or.inr ⟨by rfl, rfl⟩) ?_; try simp only [Act.put, List.setIfInBounds_toArray, List.set_cons_zero, List.set_cons_succ])
              (refine takeE Ext.tr 31 (by simp only [List.getElem?_toArray, List.getElem?_cons_succ, List.getElem?_cons_zero]; rfl) (by kernel_rfl) (by kernel_rfl) (by kernel_rfl) (by exact fun _ _ _ h => h) (by first | (refine Or.inl ⟨by rfl, ?_⟩; intro W hW; go_simp; try with_reducible rfl) | exact Or.inr ⟨by rfl, rfl⟩) ?_; try simp only [Act.put, List.setIfInBounds_toArray, List.set_cons_zero, List.set_cons_succ])
              (refine takeE Ext.tr 32 (by simp only [List.getElem?_toArray, List.getElem?_cons_succ, List.getElem?_cons_zero]; rfl) (by kernel_rfl) (by kernel_rfl) (by kernel_rfl) (by exact fun _ _ _ h => h) (by first | (refine Or.inl ⟨by rfl, ?_⟩; intro W hW; go_simp; try with_reducible rfl) | exact Or.inr ⟨by rfl, rfl⟩) ?_; try simp only [Act.put, List.setIfInBounds_toArray, List.set_cons_zero, List.set_cons_succ])
              refine wpAnyE_one (i := 30) (by kernel_rfl) (by simp only [List.getElem?_toArray, List.getElem?_cons_succ, List.getElem?_cons_zero]; rfl) (fun K hK => ?_)
              go_simp
              refine (p_total (HXd.out.1.q.below hE)).mono ?_
              rintro en v1 ⟨rfl, rfl⟩
              refine hK.out _ _ (Ext.refl _) ?_
              clear hK K
              try simp only [Act.put, List.setIfInBounds_toArray, List.set_cons_zero, List.set_cons_succ]
              (refine takeE Ext.tr 33 (by simp only [List.getElem?_toArray, List.getElem?_cons_succ, List.getElem?_cons_zero]; rfl) (by kernel_rfl) (by kernel_rfl) (by kernel_rfl) (by exact fun _ _ _ h => h) (by first | (refine Or.inl ⟨by rfl, ?_⟩; intro W hW; go_simp; try with_reducible rfl) | exact Or.inr ⟨by rfl, rfl⟩) ?_; try simp only [Act.put, List.setIfInBounds_toArray, List.set_cons_zero, List.set_cons_succ])
              (refine takeE Ext.tr 34 (by simp only [List.getElem?_toArray, List.getElem?_cons_succ, List.getElem?_cons_zero]; rfl) (by kernel_rfl) (by kernel_rfl) (by kernel_rfl) (by exact fun _ _ _ h => h) (by first | (refine Or.inl ⟨by rfl, ?_⟩; intro W hW; go_simp; try with_reducible rfl) | exact Or.inr ⟨by rfl, rfl⟩) ?_; try simp only [Act.put, List.setIfInBounds_toArray, List.set_cons_zero, List.set_cons_succ])
              (refine takeE Ext.tr 35 (by simp only [List.getElem?_toArray, List.getElem?_cons_succ, List.getElem?_cons_zero]; rfl) (by kernel_rfl) (by kernel_rfl) (by kernel_rfl) (by exact fun _ _ _ h => h) (by first | (refine Or.inl ⟨by rfl, ?_⟩; intro W hW; go_simp; try with_reducible rfl) | exact Or.inr ⟨by rfl, rfl⟩) ?_; try simp only [Act.put, List.setIfInBounds_toArray, List.set_cons_zero, List.set_cons_succ])
              (refine takeE Ext.tr 36 (by simp only [List.getElem?_toArray, List.getElem?_cons_succ, List.getElem?_cons_zero]; rfl) (by kernel_rfl) (by kernel_rfl) (by kernel_rfl) (by exact fun _ _ _ h => h) (by first | (refine Or.inl ⟨by rfl, ?_⟩; intro W hW; go_simp; try with_reducible rfl) | exact Or.inr ⟨by rfl, rfl⟩) ?_; try simp only [Act.put, List.setIfInBounds_toArray, List.set_cons_zero, List.set_cons_succ])
              (refine takeE Ext.tr 38 (by simp only [List.getElem?_toArray, List.getElem?_cons_succ, List.getElem?_cons_zero]; rfl) (by kernel_rfl) (by kernel_rfl) (by kernel_rfl) (by exact fun _ _ _ h => h) (by first | (refine Or.inl ⟨by rfl, ?_⟩; intro W hW; go_simp; try with_reducible rfl) | exact Or.inr ⟨by rfl, rfl⟩) ?_; try simp only [Act.put, List.setIfInBounds_toArray, List.set_cons_zero, List.set_cons_succ])
              (refine takeE Ext.tr 39 (by simp only [List.getElem?_toArray, List.getElem?_cons_succ, List.getElem?_cons_zero]; rfl) (by kernel_rfl) (by kernel_rfl) (by kernel_rfl) (by exact fun _ _ _ h => h) (by first | (refine Or.inl ⟨by rfl, ?_⟩; intro W hW; go_simp; try with_reducible rfl) | exact Or.inr ⟨by rfl, rfl⟩) ?_; try simp only [Act.put, List.setIfInBounds_toArray, List.set_cons_zero, List.set_cons_succ])
              (refine takeE Ext.tr 40 (by simp only [List.getElem?_toArray, List.getElem?_cons_succ, List.getElem?_cons_zero]; rfl) (by kernel_rfl) (by kernel_rfl) (by kernel_rfl) (by exact fun _ _ _ h => h) (by first | (refine Or.inl ⟨by rfl, ?_⟩; intro W hW; go_simp; try with_reducible rfl) | exact Or.inr ⟨by rfl, rfl⟩) ?_; try simp only [Act.put, List.setIfInBounds_toArray, List.set_cons_zero, List.set_cons_succ])
              refine wpAnyE_one (i := 37) (by kernel_rfl) (by simp only [List.getElem?_toArray, List.getElem?_cons_succ, List.getElem?_cons_zero]; rfl) (fun K hK => ?_)
              go_simp
              refine (p_len (HXd.out.1.q.below hE)).mono ?_
              rintro en v1 ⟨rfl, rfl⟩
              refine hK.out _ _ (Ext.refl _) ?_
              clear hK K
              try simp only [Act.put, List.setIfInBounds_toArray, List.set_cons_zero, List.set_cons_succ]
              (refine takeE Ext.tr 41 (by simp only [List.getElem?_toArray, List.getElem?_cons_succ, List.getElem?_cons_zero]; rfl) (by kernel_rfl) (by kernel_rfl) (by kernel_rfl) (by exact fun _ _ _ h => h) (by first | (refine Or.inl ⟨by rfl, ?_⟩; intro W hW; go_simp; try with_reducible rfl) | exact Or.inr ⟨by rfl, rfl⟩) ?_; try simp only [Act.put, List.setIfInBounds_toArray, List.set_cons_zero, List.set_cons_succ])
              (refine takeE Ext.tr 42 (by simp only [List.getElem?_toArray, List.getElem?_cons_succ, List.getElem?_cons_zero]; rfl) (by kernel_rfl) (by kernel_rfl) (by kernel_rfl) (by exact fun _ _ _ h => h) (by first | (refine Or.inl ⟨by rfl, ?_⟩; intro W hW; go_simp; try with_reducible rfl) | exact Or.inr ⟨by rfl, rfl⟩) ?_; try simp only [Act.put, List.setIfInBounds_toArray, List.set_cons_zero, List.set_cons_succ])
              refine wpAnyE_done (by kernel_rfl) ?_ _
              clear q1 q2 q3 q4 q5 q6 hln
              have HJ9 := Lib.hid (HXd.out.1.next hE)
              clear hE HX
              go_wp2_with fail
              refine wp_region_E Ext (by kernel_rfl) (fun wd hbd hsz => ?_)
              have HJd9 := Lib.hid (HJ9.out.next hbd)
              have hE : Below wd.heap.size wd wd := Below.refl _ _
              have HL0 := Lib.hid HJ9.out.ok.len0
              have HL1 := Lib.hid HJ9.out.ok.len1
              have q7 : ∀ V, Ext wd V → V.cell? ⟨b, 1, none⟩ = some (.slice v2.B v2.k v2.d) := fun V hV => (HJd9.out.bx.below (below_on hE hV)).cell 1 rfl
              have q8 : ∀ V, Ext wd V → V.cell? ⟨b, 2, none⟩ = some (.slice v2.C v2.r v2.e) := fun V hV => (HJd9.out.bx.below (below_on hE hV)).cell 2 rfl
              clear hsz
              (refine takeE Ext.tr 0 (by simp only [List.getElem?_toArray, List.getElem?_cons_succ, List.getElem?_cons_zero]; rfl) (by kernel_rfl) (by kernel_rfl) (by kernel_rfl) (by exact fun _ _ _ h => h) (by first | (refine Or.inl ⟨by rfl, ?_⟩; intro W hW; go_simp; try with_reducible rfl) | exact Or.inr ⟨by rfl, rfl⟩) ?_; try simp only [Act.put, List.setIfInBounds_toArray, List.set_cons_zero, List.set_cons_succ])
              (refine takeE Ext.tr 3 (by simp only [List.getElem?_toArray, List.getElem?_cons_succ, List.getElem?_cons_zero]; rfl) (by kernel_rfl) (by kernel_rfl) (by kernel_rfl) (by exact fun _ _ _ h => h) (by first | (refine Or.inl ⟨by rfl, ?_⟩; intro W hW; go_simp; try with_reducible rfl) | exact Or.inr ⟨by rfl, rfl⟩) ?_; try simp only [Act.put, List.setIfInBounds_toArray, List.set_cons_zero, List.set_cons_succ])
              (refine takeE Ext.tr 4 (by simp only [List.getElem?_toArray, List.getElem?_cons_succ, List.getElem?_cons_zero]; rfl) (by kernel_rfl) (by kernel_rfl) (by kernel_rfl) (by exact fun _ _ _ h => h) (by first | (refine Or.inl ⟨by rfl, ?_⟩; intro W hW; go_simp; try with_reducible rfl) | exact Or.inr ⟨by rfl, rfl⟩) ?_; try simp only [Act.put, List.setIfInBounds_toArray, List.set_cons_zero, List.set_cons_succ])
              refine wpAnyE_one (i := 1) (by kernel_rfl) (by simp only [List.getElem?_toArray, List.getElem?_cons_succ, List.getElem?_cons_zero]; rfl) (fun K hK => ?_)
              go_simp
              refine (p_qs (HJd9.out.q.below hE) 0 (q := ((m.step ov)).q0) rfl).mono ?_
              rintro en t1 ⟨qA0, qn0, qc0, rfl, hn0, hl0, hE2⟩
              have hE3 := hE2
              clear q7 q8
              replace hE := below_on hE hE2
              have q7 : ∀ V, Ext t1 V → V.cell? ⟨b, 1, none⟩ = some (.slice v2.B v2.k v2.d) := fun V hV => (HJd9.out.bx.below (below_on hE hV)).cell 1 rfl
              have q8 : ∀ V, Ext t1 V → V.cell? ⟨b, 2, none⟩ = some (.slice v2.C v2.r v2.e) := fun V hV => (HJd9.out.bx.below (below_on hE hV)).cell 2 rfl
              have HQ0 := Lib.hid (And.intro hn0 hl0)
              clear hE2 hn0 hl0
              refine hK.out _ _ hE3 ?_
              clear hK K
              try simp only [Act.put, List.setIfInBounds_toArray, List.set_cons_zero, List.set_cons_succ]
              refine wpAnyE_one (i := 2) (by kernel_rfl) (by simp only [List.getElem?_toArray, List.getElem?_cons_succ, List.getElem?_cons_zero]; rfl) (fun K hK => ?_)
              go_simp
              refine (l_back HQ0.out.2 HQ0.out.1 (by have h1 := HL0.out; have h2 := HQ0.out.1; omega)).mono ?_
              rintro en t2 ⟨qB0, qm0, qd0, rfl, hk0, hE2⟩
              have hE3 := hE2
              clear q7 q8
              replace hE := below_on hE hE2
              have q7 : ∀ V, Ext t2 V → V.cell? ⟨b, 1, none⟩ = some (.slice v2.B v2.k v2.d) := fun V hV => (HJd9.out.bx.below (below_on hE hV)).cell 1 rfl
              have q8 : ∀ V, Ext t2 V → V.cell? ⟨b, 2, none⟩ = some (.slice v2.C v2.r v2.e) := fun V hV => (HJd9.out.bx.below (below_on hE hV)).cell 2 rfl
              have HK0 := Lib.hid hk0
              clear hE2 hk0 HQ0
              refine hK.out _ _ hE3 ?_
              clear hK K
              try simp only [Act.put, List.setIfInBounds_toArray, List.set_cons_zero, List.set_cons_succ]
              refine wpAnyE_one (i := 5) (by kernel_rfl) (by simp only [List.getElem?_toArray, List.getElem?_cons_succ, List.getElem?_cons_zero]; rfl) (fun K hK => ?_)
              go_simp
              refine (r_same HK0.out (HJd9.out.r.p.below hE) (by rw [HK0.out.1]; have := HL0.out; omega)).mono ?_
              rintro en t3 ⟨rfl, hE2⟩
              have hE3 := hE2
              clear q7 q8
              replace hE := below_on hE hE2
              have q7 : ∀ V, Ext t3 V → V.cell? ⟨b, 1, none⟩ = some (.slice v2.B v2.k v2.d) := fun V hV => (HJd9.out.bx.below (below_on hE hV)).cell 1 rfl
              have q8 : ∀ V, Ext t3 V → V.cell? ⟨b, 2, none⟩ = some (.slice v2.C v2.r v2.e) := fun V hV => (HJd9.out.bx.below (below_on hE hV)).cell 2 rfl
              clear hE2 HK0
              refine hK.out _ _ hE3 ?_
              clear hK K
              try simp only [Act.put, List.setIfInBounds_toArray, List.set_cons_zero, List.set_cons_succ]
              (refine takeE Ext.tr 6 (by simp only [List.getElem?_toArray, List.getElem?_cons_succ, List.getElem?_cons_zero]; rfl) (by kernel_rfl) (by kernel_rfl) (by kernel_rfl) (by exact fun _ _ _ h => h) (by first | (refine Or.inl ⟨by rfl, ?_⟩; intro W hW; go_simp; try with_reducible rfl) | exact Or.inr ⟨by rfl, rfl⟩) ?_; try simp only [Act.put, List.setIfInBounds_toArray, List.set_cons_zero, List.set_cons_succ])
              (refine takeE Ext.tr 7 (by simp only [List.getElem?_toArray, List.getElem?_cons_succ, List.getElem?_cons_zero]; rfl) (by kernel_rfl) (by kernel_rfl) (by kernel_rfl) (by exact fun _ _ _ h => h) (by first | (refine Or.inl ⟨by rfl, ?_⟩; intro W hW; go_simp; try with_reducible rfl) | exact Or.inr ⟨by rfl, rfl⟩) ?_; try simp only [Act.put, List.setIfInBounds_toArray, List.set_cons_zero, List.set_cons_succ])
              (refine takeE Ext.tr 8 (by simp only [List.getElem?_toArray, List.getElem?_cons_succ, List.getElem?_cons_zero]; rfl) (by kernel_rfl) (by kernel_rfl) (by kernel_rfl) (by exact fun _ _ _ h => h) (by first | (refine Or.inl ⟨by rfl, ?_⟩; intro W hW; go_simp; try with_reducible rfl) | exact Or.inr ⟨by rfl, rfl⟩) ?_; try simp only [Act.put, List.setIfInBounds_toArray, List.set_cons_zero, List.set_cons_succ])
              (refine takeE Ext.tr 11 (by simp only [List.getElem?_toArray, List.getElem?_cons_succ, List.getElem?_cons_zero]; rfl) (by kernel_rfl) (by kernel_rfl) (by kernel_rfl) (by exact fun _ _ _ h => h) (by first | (refine Or.inl ⟨by rfl, ?_⟩; intro W hW; go_simp; try with_reducible rfl) | exact Or.inr ⟨by rfl, rfl⟩) ?_; try simp only [Act.put, List.setIfInBounds_toArray, List.set_cons_zero, List.set_cons_succ])
              (refine takeE Ext.tr 12 (by simp only [List.getElem?_toArray, List.getElem?_cons_succ, List.getElem?_cons_zero]; rfl) (by kernel_rfl) (by kernel_rfl) (by kernel_rfl) (by exact fun _ _ _ h => h) (by first | (refine Or.inl ⟨by rfl, ?_⟩; intro W hW; go_simp; try with_reducible rfl) | exact Or.inr ⟨by rfl, rfl⟩) ?_; try simp only [Act.put, List.setIfInBounds_toArray, List.set_cons_zero, List.set_cons_succ])
              refine wpAnyE_one (i := 9) (by kernel_rfl) (by simp only [List.getElem?_toArray, List.getElem?_cons_succ, List.getElem?_cons_zero]; rfl) (fun K hK => ?_)
              go_simp
              refine (p_qs (HJd9.out.q.below hE) 1 (q := ((m.step ov)).q1) rfl).mono ?_
              rintro en t4 ⟨qA1, qn1, qc1, rfl, hn1, hl1, hE2⟩
              have hE3 := hE2
              clear q7 q8
              replace hE := below_on hE hE2
              have q7 : ∀ V, Ext t4 V → V.cell? ⟨b, 1, none⟩ = some (.slice v2.B v2.k v2.d) := fun V hV => (HJd9.out.bx.below (below_on hE hV)).cell 1 rfl
              have q8 : ∀ V, Ext t4 V → V.cell? ⟨b, 2, none⟩ = some (.slice v2.C v2.r v2.e) := fun V hV => (HJd9.out.bx.below (below_on hE hV)).cell 2 rfl
              have HQ1 := Lib.hid (And.intro hn1 hl1)
              clear hE2 hn1 hl1
              refine hK.out _ _ hE3 ?_
              clear hK K
              try simp only [Act.put, List.setIfInBounds_toArray, List.set_cons_zero, List.set_cons_succ]
              refine wpAnyE_one (i := 10) (by kernel_rfl) (by simp only [List.getElem?_toArray, List.getElem?_cons_succ, List.getElem?_cons_zero]; rfl) (fun K hK => ?_)
              go_simp
              refine (l_back HQ1.out.2 HQ1.out.1 (by have h1 := HL1.out; have h2 := HQ1.out.1; omega)).mono ?_
              rintro en t5 ⟨qB1, qm1, qd1, rfl, hk1, hE2⟩
              have hE3 := hE2
              clear q7 q8
              replace hE := below_on hE hE2
              have q7 : ∀ V, Ext t5 V → V.cell? ⟨b, 1, none⟩ = some (.slice v2.B v2.k v2.d) := fun V hV => (HJd9.out.bx.below (below_on hE hV)).cell 1 rfl
              have q8 : ∀ V, Ext t5 V → V.cell? ⟨b, 2, none⟩ = some (.slice v2.C v2.r v2.e) := fun V hV => (HJd9.out.bx.below (below_on hE hV)).cell 2 rfl
              have HK1 := Lib.hid hk1
              clear hE2 hk1 HQ1
              refine hK.out _ _ hE3 ?_
              clear hK K
              try simp only [Act.put, List.setIfInBounds_toArray, List.set_cons_zero, List.set_cons_succ]
              refine wpAnyE_one (i := 13) (by kernel_rfl) (by simp only [List.getElem?_toArray, List.getElem?_cons_succ, List.getElem?_cons_zero]; rfl) (fun K hK => ?_)
              go_simp
              refine (r_same HK1.out (HJd9.out.r.u.below hE) (by rw [HK1.out.1]; have := HL1.out; omega)).mono ?_
              rintro en t6 ⟨rfl, hE2⟩
              have hE3 := hE2
              clear q7 q8
              replace hE := below_on hE hE2
              have q7 : ∀ V, Ext t6 V → V.cell? ⟨b, 1, none⟩ = some (.slice v2.B v2.k v2.d) := fun V hV => (HJd9.out.bx.below (below_on hE hV)).cell 1 rfl
              have q8 : ∀ V, Ext t6 V → V.cell? ⟨b, 2, none⟩ = some (.slice v2.C v2.r v2.e) := fun V hV => (HJd9.out.bx.below (below_on hE hV)).cell 2 rfl
              clear hE2 HK1
              refine hK.out _ _ hE3 ?_
              clear hK K
              try simp only [Act.put, List.setIfInBounds_toArray, List.set_cons_zero, List.set_cons_succ]
              (refine takeE Ext.tr 14 (by simp only [List.getElem?_toArray, List.getElem?_cons_succ, List.getElem?_cons_zero]; rfl) (by kernel_rfl) (by kernel_rfl) (by kernel_rfl) (by exact fun _ _ _ h => h) (by first | (refine Or.inl ⟨by rfl, ?_⟩; intro W hW; go_simp; try with_reducible rfl) | exact Or.inr ⟨by rfl, rfl⟩) ?_; try simp only [Act.put, List.setIfInBounds_toArray, List.set_cons_zero, List.set_cons_succ])
              (refine takeE Ext.tr 15 (by simp only [List.getElem?_toArray, List.getElem?_cons_succ, List.getElem?_cons_zero]; rfl) (by kernel_rfl) (by kernel_rfl) (by kernel_rfl) (by exact fun _ _ _ h => h) (by first | (refine Or.inl ⟨by rfl, ?_⟩; intro W hW; go_simp; try with_reducible rfl) | exact Or.inr ⟨by rfl, rfl⟩) ?_; try simp only [Act.put, List.setIfInBounds_toArray, List.set_cons_zero, List.set_cons_succ])
              (refine takeE Ext.tr 16 (by simp only [List.getElem?_toArray, List.getElem?_cons_succ, List.getElem?_cons_zero]; rfl) (by kernel_rfl) (by kernel_rfl) (by kernel_rfl) (by exact fun _ _ _ h => h) (by first | (refine Or.inl ⟨by rfl, ?_⟩; intro W hW; go_simp; try with_reducible rfl) | exact Or.inr ⟨by rfl, rfl⟩) ?_; try simp only [Act.put, List.setIfInBounds_toArray, List.set_cons_zero, List.set_cons_succ])
              (refine takeE Ext.tr 17 (by simp only [List.getElem?_toArray, List.getElem?_cons_succ, List.getElem?_cons_zero]; rfl) (by kernel_rfl) (by kernel_rfl) (by kernel_rfl) (by exact fun _ _ _ h => h) (by first | (refine Or.inl ⟨by rfl, ?_⟩; intro W hW; go_simp; try with_reducible rfl) | exact Or.inr ⟨by rfl, rfl⟩) ?_; try simp only [Act.put, List.setIfInBounds_toArray, List.set_cons_zero, List.set_cons_succ])
              refine wpAnyE_one (i := 18) (by kernel_rfl) (by simp only [List.getElem?_toArray, List.getElem?_cons_succ, List.getElem?_cons_zero]; rfl) (fun K hK => ?_)
              go_simp
              refine (p_qs (HJd9.out.q.below hE) 2 (q := []) rfl).mono ?_
              rintro en t7 ⟨qA2, qn2, qc2, rfl, hn2, hl2, hE2⟩
              have hE3 := hE2
              clear q7 q8
              replace hE := below_on hE hE2
              have q7 : ∀ V, Ext t7 V → V.cell? ⟨b, 1, none⟩ = some (.slice v2.B v2.k v2.d) := fun V hV => (HJd9.out.bx.below (below_on hE hV)).cell 1 rfl
              have q8 : ∀ V, Ext t7 V → V.cell? ⟨b, 2, none⟩ = some (.slice v2.C v2.r v2.e) := fun V hV => (HJd9.out.bx.below (below_on hE hV)).cell 2 rfl
              obtain rfl : qn2 = 0 := hn2
              clear hE2
              refine hK.out _ _ hE3 ?_
              clear hK K
              try simp only [Act.put, List.setIfInBounds_toArray, List.set_cons_zero, List.set_cons_succ]
              (refine takeE Ext.tr 19 (by simp only [List.getElem?_toArray, List.getElem?_cons_succ, List.getElem?_cons_zero]; rfl) (by kernel_rfl) (by kernel_rfl) (by kernel_rfl) (by exact fun _ _ _ h => h) (by first | (refine Or.inl ⟨by rfl, ?_⟩; intro W hW; go_simp; try with_reducible rfl) | exact Or.inr ⟨by rfl, rfl⟩) ?_; try simp only [Act.put, List.setIfInBounds_toArray, List.set_cons_zero, List.set_cons_succ])
              (refine takeE Ext.tr 20 (by simp only [List.getElem?_toArray, List.getElem?_cons_succ, List.getElem?_cons_zero]; rfl) (by kernel_rfl) (by kernel_rfl) (by kernel_rfl) (by exact fun _ _ _ h => h) (by first | (refine Or.inl ⟨by rfl, ?_⟩; intro W hW; go_simp; try with_reducible rfl) | exact Or.inr ⟨by rfl, rfl⟩) ?_; try simp only [Act.put, List.setIfInBounds_toArray, List.set_cons_zero, List.set_cons_succ])
              (refine takeE Ext.tr 21 (by simp only [List.getElem?_toArray, List.getElem?_cons_succ, List.getElem?_cons_zero]; rfl) (by kernel_rfl) (by kernel_rfl) (by kernel_rfl) (by exact fun _ _ _ h => h) (by first | (refine Or.inl ⟨by rfl, ?_⟩; intro W hW; go_simp; try with_reducible rfl) | exact Or.inr ⟨by rfl, rfl⟩) ?_; try simp only [Act.put, List.setIfInBounds_toArray, List.set_cons_zero, List.set_cons_succ])
              refine wpAnyE_done (by kernel_rfl) ?_ _
              clear q7 q8
              have HJX := Lib.hid (HJd9.out.next hE)
              clear hE
              go_wp2
              go_roundw
              case rel => exact ⟨i + 1, _, by go_num, by have := HLT.out; omega, rfl, p, F6, v2, (m.step ov), rfl, HJX.out, HT2.out⟩
              case measure => have := HLT.out; simp [intOf]; omega
      · have HB := Lib.hid hJR.bel
        rcases (by omega : ¬ (i : Int) < n0 ∨ ((i : Int) < n0 ∧ ¬ (i : Int) < 60)) with hge | ⟨hge1, hge2⟩
        all_goals
          clear hJR hmt hlt
          go_wp2
          go_ret
          exact ⟨rfl, HB.out⟩
end Go.Proofs.Ytdldocbfnjbhmaa
