/- The law of never more, and of any order. -/
import Derived.Test.YtinblipcepagaaaC5
import Derived.Test.YtinblipcepagaaaOpenV
set_option linter.unusedSimpArgs false
set_option linter.unusedVariables false
namespace Go.Proofs.Ytinblipcepagaaa
open Go.RowKit Go.Shelf
theorem eltU : Elt Try.prog 47 49 (.int .u16 0) 2 := ⟨rfl, by kernel_rfl, rfl, rfl, by decide⟩
theorem u16_in {x : Int} (h : (Lit.int .u16 x).wf = true) : 0 ≤ x ∧ x < 65536 := by
  simp [Lit.wf, IntKind.min, IntKind.max, IntKind.signed, IntKind.bits] at h
  omega
theorem Cm.pull_p {m : Cm} {n : Int} (h0 : 0 ≤ n) (h1 : n ≤ 1152921504606846976) : (m.p < n → (m.pull n).p = n) ∧ (¬ m.p < n → (m.pull n).p = m.p) := by
  constructor
  · intro h
    show m.p + m.more n = n
    rw [(Cm.more_new h0 h1 (by omega)).1]; omega
  · intro h
    show m.p + m.more n = m.p
    rw [(Cm.more_old h0 h1 (by omega)).1]; omega
theorem Cm.spend_p (m : Cm) (n : Int) : (m.spend n).p = m.p := by unfold Cm.spend; split <;> rfl
/-- p is the greatest of the first i elements that f names. -/
structure Mx (zs : List Int) (f : Nat → Nat) (i : Nat) (p : Int) : Prop where
  le : ∀ j, j < i → zs.getD (f j) 0 ≤ p
  at_ : p = 0 ∨ ∃ j, j < zs.length ∧ p = zs.getD j 0
  p0 : 0 ≤ p
  p1 : p < 65536
theorem Mx.up {zs : List Int} {f : Nat → Nat} {i : Nat} {p : Int} (h : Mx zs f i p) {x : Int} (hf : f i < zs.length) (hx : zs.getD (f i) 0 = x) (hp : p < x) (hx1 : x < 65536) : Mx zs f (i + 1) x := by
  refine ⟨fun j hj => ?_, .inr ⟨f i, hf, hx.symm⟩, by have := h.p0; omega, hx1⟩
  rcases (by omega : j < i ∨ j = i) with h1 | rfl
  · have := h.le j h1; omega
  · omega
theorem Mx.on {zs : List Int} {f : Nat → Nat} {i : Nat} {p : Int} (h : Mx zs f i p) {x : Int} (hx : zs.getD (f i) 0 = x) (hp : ¬ p < x) : Mx zs f (i + 1) p := by
  refine ⟨fun j hj => ?_, h.at_, h.p0, h.p1⟩
  rcases (by omega : j < i ∨ j = i) with h1 | rfl
  · exact h.le j h1
  · omega
theorem Mx.zero (zs : List Int) (f : Nat → Nat) : Mx zs f 0 0 := ⟨fun j hj => by omega, .inl rfl, Int.le_refl _, by omega⟩
theorem Mx.same {zs : List Int} {t M : Nat} {p q : Int} (h : Mx zs (fun j => j) M p) (k : Mx zs (fun j => (j + t) % M) M q) (hM : zs.length = M) : p = q := by
  refine Int.le_antisymm ?_ ?_
  · rcases h.at_ with e | ⟨j, hj, e⟩
    · rw [e]; exact k.p0
    · have hM0 : 0 < M := by omega
      have hr := Nat.mod_lt t hM0
      have h1 := k.le ((j + (M - t % M)) % M) (Nat.mod_lt _ hM0)
      have h2 : ((j + (M - t % M)) % M + t) % M = j := by
        rw [Nat.mod_add_mod, Nat.add_assoc, Nat.add_mod, Nat.add_mod (M - t % M) t, Nat.add_mod_mod]
        have h3 : ((M - t % M) % M + t % M) % M = 0 := by
          rw [Nat.mod_add_mod, show M - t % M + t % M = M from by omega, Nat.mod_self]
        first
          | rw [h3, Nat.add_zero, Nat.mod_mod, Nat.mod_eq_of_lt (by omega)]
          | (rw [Nat.add_mod, h3]; simp; exact Nat.mod_eq_of_lt (by omega))
      rw [e]
      have h4 : zs.getD (((j + (M - t % M)) % M + t) % M) 0 ≤ q := h1
      rw [h2] at h4
      exact h4
  · rcases k.at_ with e | ⟨j, hj, e⟩
    · rw [e]; exact h.p0
    · rw [e]; exact h.le j (by omega)
theorem CrC.two {W W1 : World} {ga gb : Nat} {mb ma' : Cm} (hb : CrC W gb mb) (hd : Did W ga ma' W1) (hne : ¬ gb = ga) : CrC W1 gb mb := hb.st hd.2 hne
/-- Two accounts, after i pulls. -/
structure JN (w : World) (ga gb : Nat) (zs : List Int) (t M i : Nat) (ma mb : Cm) (W : World) : Prop where
  a : CrC W ga ma
  b : CrC W gb mb
  ne : ¬ ga = gb
  ga_ : w.heap.size ≤ ga
  gb_ : w.heap.size ≤ gb
  bel : Below w.heap.size w W
  xa : Mx zs (fun j => j) i ma.p
  xb : Mx zs (fun j => (j + t) % M) i mb.p
section
variable {w W W1 : World} {ga gb : Nat} {zs : List Int} {t M i : Nat} {ma mb m' : Cm}
theorem JN.next (h : JN w ga gb zs t M i ma mb W) (hb : Below W.heap.size W W1) : JN w ga gb zs t M i ma mb W1 := ⟨h.a.below hb, h.b.below hb, h.ne, h.ga_, h.gb_, below_on h.bel hb, h.xa, h.xb⟩
theorem Mx.twice {q : Nat} {z : Int} (h : Mx zs (fun j => (j + t) % M) i mb.p) (hz : z = zs.getD q 0) (hq : q = (i + t) % M) (h0 : 0 ≤ z) (h1 : z < 65536) (hql : q < zs.length) : Mx zs (fun j => (j + t) % M) (i + 1) ((mb.pull z).pull z).p := by
  subst hq
  have e1 := Cm.pull_p (m := mb) h0 (by omega)
  have e2 := Cm.pull_p (m := mb.pull z) h0 (by omega)
  by_cases hp : mb.p < z
  · have h3 := e1.1 hp
    rw [e2.2 (by omega), h3]
    exact h.up hql hz.symm hp h1
  · have h3 := e1.2 hp
    rw [e2.2 (by omega), h3]
    exact h.on hz.symm hp
theorem bel_did (h : Below w.heap.size w W) {g : Nat} (hd : Did W g m' W1) (hg : w.heap.size ≤ g) : Below w.heap.size w W1 := h.trans (hd.2.below h.size fun j hj => hj ▸ hg)
end
set_option maxRecDepth 100000 in
set_option maxHeartbeats 16000000 in
theorem lawNever (A : Option Addr) (n c : Nat) (xs : List Int) (B : Option Addr) (l d : Nat) (ys : List Int) {t : Int} (ht : 0 ≤ t ∧ t < 256) (w : World) (h : Rd .u16 w A n c xs) (hy : Rd .u8 w B l d ys) :
    Calls Try.prog 4 #[.slice A n c, .slice B l d, .int .u8 t] w fun e w' => e = .returned (.bool true) ∧ Below w.heap.size w w' := by
  obtain ⟨t, rfl⟩ : ∃ t' : Nat, t = t' := ⟨t.toNat, by omega⟩
  obtain ⟨ht0, ht1⟩ := ht
  have hcc := h.2.1
  have hcm := h.2.2.1
  unfold maxLen at hcm
  obtain ⟨M, hM⟩ : ∃ M, M = min n 50 := ⟨_, rfl⟩
  have hR := h.pre (s := M) (by omega)
  obtain ⟨zs, hzs⟩ : ∃ zs, zs = xs.take M := ⟨_, rfl⟩
  rw [← hzs] at hR
  have HR := Lib.hid hR
  have HZ : Hid (zs.length = M) := Lib.hid hR.1
  have HB : Hid (∀ i, i < zs.length → 0 ≤ zs.getD i 0 ∧ zs.getD i 0 < 65536) := Lib.hid fun i hi => u16_in (hR.2.2.2.2.1 _ (by rw [List.getD_eq_getElem?_getD, List.getElem?_eq_getElem hi]; exact List.getElem_mem hi))
  have HY := Lib.hid hy
  have hM5 : M ≤ 50 := by omega
  have hyl := hy.1
  have hyc := hy.2.1
  have hym := hy.2.2.1
  unfold maxLen at hym
  have hw : (50 < (n : Int) ∧ M = 50) ∨ (¬ 50 < (n : Int) ∧ M = n) := by omega
  have hpre : 50 ≤ c → ∀ W : World, (Instr.slice 47 (.slice A n c) none (some (.int .i64 50)) none).run Try.prog W = .ok (.slice A 50 c) W := fun h50 W => eltU.run_pre A n c 50 h50 hcc W
  clear h hy hM hR hzs hyl
  rcases hw with ⟨hn, h50⟩ | ⟨hn, h50⟩
  · replace hpre := hpre (by omega)
    rw [show (50 : Nat) = M from h50.symm] at hpre
    clear h50
    go_enter Try.func4, Try.ntmps4
    go_wp2_with fail
    refine (c_new (x := 0) (by decide) w).mono ?_
    rintro e w1 ⟨rfl, hc1, hb1⟩
    have H1 := Lib.hid (And.intro hc1 hb1)
    clear hc1 hb1
    go_wp2_with fail
    refine (c_new (x := 0) (by decide) w1).mono ?_
    rintro e w2 ⟨rfl, hc2, hb2⟩
    have hJ : JN w w.heap.size w1.heap.size zs t M 0 (.new 0) (.new 0) w2 := ⟨H1.out.1.below hb2, hc2, by have := H1.out.1.1.lt; omega, Nat.le_refl _, H1.out.2.size, below_on H1.out.2 hb2, Mx.zero _ _, Mx.zero _ _⟩
    have HJ := Lib.hid hJ
    have HA := Lib.hid (awake_any w2)
    clear hJ hc2 hb2 H1
    generalize w.heap.size = ga at *
    generalize w1.heap.size = gb at *
    go_wp2_with fail
    refine HA.out.mono ?_
    rintro e w3 ⟨rfl, hb3⟩
    have HJ3 := Lib.hid (HJ.out.next hb3)
    clear hb3 HA HJ
    go_wp2
    go_loopw [11, 12] (fun mo i wr => ∃ (i' : Nat) (ma mb : Cm), i = .int .i64 i' ∧ i' ≤ M ∧ mo = .int .i64 ma.p ∧ JN w ga gb zs t M i' ma mb wr) (fun mo i _ => M - (intOf i).toNat)
    case atStart => exact ⟨0, .new 0, .new 0, rfl, Nat.zero_le _, rfl, HJ3.out⟩
    case round =>
      obtain ⟨i, ma, mb, rfl, hi, rfl, hJ⟩ := hrel
      clear HJ3
      by_cases hlt : i < M
      · have hM0 : 0 < M := by omega
        obtain ⟨q, hq⟩ : ∃ q, q = (i + t) % M := ⟨_, rfl⟩
        have hqM : q < M := hq ▸ Nat.mod_lt _ hM0
        have hqI : ((i : Int) + (t : Int)) % (M : Int) = (q : Int) := by rw [hq]; push_cast; rfl
        obtain ⟨gx, ox, rfl, hgx, cx⟩ := HR.out.cell hlt
        obtain ⟨gx', ox', hgg, hgx', cz⟩ := HR.out.cell hqM
        injection hgg with hgg
        injection hgg with hg1 hg2
        subst hg1 hg2
        obtain ⟨x, hx⟩ : ∃ x, x = zs.getD i 0 := ⟨_, rfl⟩
        obtain ⟨z, hz⟩ : ∃ z, z = zs.getD q 0 := ⟨_, rfl⟩
        obtain ⟨hx0, hx1⟩ := HB.out i (by rw [HZ.out]; omega)
        obtain ⟨hz0, hz1⟩ := HB.out q (by rw [HZ.out]; omega)
        rw [← hx] at cx hx0 hx1
        rw [← hz] at cz hz0 hz1
        have C : ∀ W, Below w.heap.size w W → W.cell? ⟨gx, ox + i, none⟩ = some (.int .u16 x) ∧ W.cell? ⟨gx, ox + q, none⟩ = some (.int .u16 z) := fun W hW => ⟨(hW.cell (p := ⟨gx, ox + i, none⟩) hgx).trans cx, (hW.cell (p := ⟨gx, ox + q, none⟩) hgx).trans cz⟩
        have HC := Lib.hid C
        have hc1 := (C wr hJ.bel).1
        have hxI : (i : Int) < M := by omega
        have hqI2 : (q : Int) < M := by omega
        have hMI : ((M : Int) == 0) = false := by simp; omega
        have hMI2 : ¬ (M : Int) = 0 := by omega
        have HJ := Lib.hid hJ
        have HX := Lib.hid (And.intro hx (And.intro hz hq))
        have hap := hJ.a.2.p1
        have hap0 := hJ.xa.p0
        have HLT := Lib.hid hlt
        clear cx cz C hx hz hq hJ hlt
        by_cases hmx : ma.p < x
        · have HE : Hid ((ma.pull x).p = x) := Lib.hid ((Cm.pull_p hx0 (by omega)).1 hmx)
          have HXA : Hid (Mx zs (fun j => j) (i + 1) x) := Lib.hid (HJ.out.xa.up (by rw [HZ.out]; exact HLT.out) HX.out.1.symm hmx hx1)
          by_cases hsl : i < l
          · obtain ⟨gy, oy, rfl, hgy, cy⟩ := HY.out.cell hsl
            obtain ⟨y, hyE⟩ : ∃ y, y = ys.getD i 0 := ⟨_, rfl⟩
            obtain ⟨hy0, hy1⟩ := u8_bounds (HY.out.2.2.2.2.1 _ (show ys.getD i 0 ∈ ys from by rw [List.getD_eq_getElem?_getD, List.getElem?_eq_getElem (by rw [HY.out.1]; exact hsl)]; exact List.getElem_mem _))
            rw [← hyE] at cy hy0 hy1
            have HCy : Hid (∀ W, Below w.heap.size w W → W.cell? ⟨gy, oy + i, none⟩ = some (.int .u8 y)) := Lib.hid fun W hW => (hW.cell (p := ⟨gy, oy + i, none⟩) hgy).trans cy
            have hslI : (i : Int) < l := by omega
            clear cy hyE hsl hgy
            have HF : Hid (((ma.pull x).spend y).p = x ∧ ((ma.pull x).spend y).s ≤ x ∧ 0 ≤ ((ma.pull x).spend y).s) := Lib.hid (by
              have h1 := Cm.spend_ok (Cm.pull_ok HJ.out.a.2 x) y
              have h2 := h1.s1
              have h3 := h1.s0
              have h4 : ((ma.pull x).spend y).p = x := (Cm.spend_p _ _).trans HE.out
              exact ⟨h4, by omega, h3⟩)
            obtain ⟨hfs1, hfs0⟩ := HF.out.2
            go_wp2_with fail
            refine (c_pull HJ.out.a x).mono ?_
            rintro e W1 ⟨rfl, hd1⟩
            have hb1 := bel_did HJ.out.bel hd1 HJ.out.ga_
            have HB1 := Lib.hid (HJ.out.b.two hd1 fun e => HJ.out.ne e.symm)
            have HA1 := Lib.hid hd1.1
            have hc2 := (HC.out W1 hb1).2
            have HW1 := Lib.hid hb1
            clear hd1 hb1 hc1
            go_wp2_with fail
            refine (c_pull HB1.out z).mono ?_
            rintro e W2 ⟨rfl, hd2⟩
            have hb2 := bel_did HW1.out hd2 HJ.out.gb_
            have HA2 := Lib.hid (HA1.out.two hd2 HJ.out.ne)
            have HB2 := Lib.hid hd2.1
            have hc3 := (HC.out W2 hb2).2
            have HW2 := Lib.hid hb2
            clear hd2 hb2 hc2 HA1
            go_wp2_with fail
            refine (c_pull HB2.out z).mono ?_
            rintro e W3 ⟨rfl, hd3⟩
            have hb3 := bel_did HW2.out hd3 HJ.out.gb_
            have HA3 := Lib.hid (HA2.out.two hd3 HJ.out.ne)
            have HB3 := Lib.hid hd3.1
            have HW3 := Lib.hid hb3
            have hcy := HCy.out W3 hb3
            clear hd3 hb3 hc3 HA2
            go_wp2_with fail
            refine (c_spend HA3.out y).mono ?_
            rintro e W4 ⟨rfl, hd4⟩
            have HB4 := Lib.hid (HB3.out.two hd4 fun e => HJ.out.ne e.symm)
            have HA4 := Lib.hid hd4.1
            have HW4 := Lib.hid (bel_did HW3.out hd4 HJ.out.ga_)
            clear hd4 hcy
            go_wp2_with (first
              | (go_at_call 18; first
                   | (refine (c_spent HA4.out).mono ?_; rintro e w' ⟨rfl, rfl⟩)
                   | (refine (c_spent HA5.out).mono ?_; rintro e w' ⟨rfl, rfl⟩))
              | (go_at_call 19; first
                   | (refine (c_pulled HA4.out).mono ?_; rintro e w' ⟨rfl, rfl⟩; rw [HF.out.1])
                   | (refine (c_pulled HA5.out).mono ?_; rintro e w' ⟨rfl, rfl⟩; rw [HF.out.1]))
              | (go_at_call 20; refine (c_left HA4.out).mono ?_; rintro e W5 ⟨rfl, hb5⟩; rw [HF.out.1]
                 have HA5 := Lib.hid (HA4.out.below hb5)
                 have HB5 := Lib.hid (HB4.out.below hb5)
                 have HW5 := Lib.hid (below_on HW4.out hb5)
                 clear hb5))
            go_roundw
            case rel => exact ⟨i + 1, (ma.pull x).spend y, (mb.pull z).pull z, by go_num, HLT.out, by rw [HF.out.1], HA5.out, HB5.out, HJ.out.ne, HJ.out.ga_, HJ.out.gb_, HW5.out, by rw [HF.out.1]; exact HXA.out, HJ.out.xb.twice HX.out.2.1 HX.out.2.2 hz0 hz1 (by rw [HZ.out]; omega)⟩
            case measure => have := HLT.out; simp [intOf]; omega
          · have hslI : ¬ (i : Int) < l := by omega
            clear hsl
            have HF : Hid ((ma.pull x).p = x ∧ (ma.pull x).s ≤ x ∧ 0 ≤ (ma.pull x).s) := Lib.hid (by
              have h1 := Cm.pull_ok HJ.out.a.2 x
              have h2 := h1.s1
              have h3 := h1.s0
              have h4 : (ma.pull x).p = x := HE.out
              exact ⟨h4, by omega, h3⟩)
            obtain ⟨hfs1, hfs0⟩ := HF.out.2
            go_wp2_with fail
            refine (c_pull HJ.out.a x).mono ?_
            rintro e W1 ⟨rfl, hd1⟩
            have hb1 := bel_did HJ.out.bel hd1 HJ.out.ga_
            have HB1 := Lib.hid (HJ.out.b.two hd1 fun e => HJ.out.ne e.symm)
            have HA1 := Lib.hid hd1.1
            have hc2 := (HC.out W1 hb1).2
            have HW1 := Lib.hid hb1
            clear hd1 hb1 hc1
            go_wp2_with fail
            refine (c_pull HB1.out z).mono ?_
            rintro e W2 ⟨rfl, hd2⟩
            have hb2 := bel_did HW1.out hd2 HJ.out.gb_
            have HA2 := Lib.hid (HA1.out.two hd2 HJ.out.ne)
            have HB2 := Lib.hid hd2.1
            have hc3 := (HC.out W2 hb2).2
            have HW2 := Lib.hid hb2
            clear hd2 hb2 hc2 HA1
            go_wp2_with fail
            refine (c_pull HB2.out z).mono ?_
            rintro e W3 ⟨rfl, hd3⟩
            have hb3 := bel_did HW2.out hd3 HJ.out.gb_
            have HA3 := Lib.hid (HA2.out.two hd3 HJ.out.ne)
            have HB3 := Lib.hid hd3.1
            have HW3 := Lib.hid hb3
            clear hd3 hb3 hc3 HA2
            have HA4 := HA3
            have HB4 := HB3
            have HW4 := HW3
            clear HA3 HB3
            go_wp2_with (first
              | (go_at_call 18; first
                   | (refine (c_spent HA4.out).mono ?_; rintro e w' ⟨rfl, rfl⟩)
                   | (refine (c_spent HA5.out).mono ?_; rintro e w' ⟨rfl, rfl⟩))
              | (go_at_call 19; first
                   | (refine (c_pulled HA4.out).mono ?_; rintro e w' ⟨rfl, rfl⟩; rw [HF.out.1])
                   | (refine (c_pulled HA5.out).mono ?_; rintro e w' ⟨rfl, rfl⟩; rw [HF.out.1]))
              | (go_at_call 20; refine (c_left HA4.out).mono ?_; rintro e W5 ⟨rfl, hb5⟩; rw [HF.out.1]
                 have HA5 := Lib.hid (HA4.out.below hb5)
                 have HB5 := Lib.hid (HB4.out.below hb5)
                 have HW5 := Lib.hid (below_on HW4.out hb5)
                 clear hb5))
            go_roundw
            case rel => exact ⟨i + 1, ma.pull x, (mb.pull z).pull z, by go_num, HLT.out, by rw [HF.out.1], HA5.out, HB5.out, HJ.out.ne, HJ.out.ga_, HJ.out.gb_, HW5.out, by rw [HF.out.1]; exact HXA.out, HJ.out.xb.twice HX.out.2.1 HX.out.2.2 hz0 hz1 (by rw [HZ.out]; omega)⟩
            case measure => have := HLT.out; simp [intOf]; omega
        · have HE : Hid ((ma.pull x).p = ma.p) := Lib.hid ((Cm.pull_p hx0 (by omega)).2 hmx)
          have HXA : Hid (Mx zs (fun j => j) (i + 1) ma.p) := Lib.hid (HJ.out.xa.on HX.out.1.symm hmx)
          by_cases hsl : i < l
          · obtain ⟨gy, oy, rfl, hgy, cy⟩ := HY.out.cell hsl
            obtain ⟨y, hyE⟩ : ∃ y, y = ys.getD i 0 := ⟨_, rfl⟩
            obtain ⟨hy0, hy1⟩ := u8_bounds (HY.out.2.2.2.2.1 _ (show ys.getD i 0 ∈ ys from by rw [List.getD_eq_getElem?_getD, List.getElem?_eq_getElem (by rw [HY.out.1]; exact hsl)]; exact List.getElem_mem _))
            rw [← hyE] at cy hy0 hy1
            have HCy : Hid (∀ W, Below w.heap.size w W → W.cell? ⟨gy, oy + i, none⟩ = some (.int .u8 y)) := Lib.hid fun W hW => (hW.cell (p := ⟨gy, oy + i, none⟩) hgy).trans cy
            have hslI : (i : Int) < l := by omega
            clear cy hyE hsl hgy
            have HF : Hid (((ma.pull x).spend y).p = ma.p ∧ ((ma.pull x).spend y).s ≤ ma.p ∧ 0 ≤ ((ma.pull x).spend y).s) := Lib.hid (by
              have h1 := Cm.spend_ok (Cm.pull_ok HJ.out.a.2 x) y
              have h2 := h1.s1
              have h3 := h1.s0
              have h4 : ((ma.pull x).spend y).p = ma.p := (Cm.spend_p _ _).trans HE.out
              exact ⟨h4, by omega, h3⟩)
            obtain ⟨hfs1, hfs0⟩ := HF.out.2
            go_wp2_with fail
            refine (c_pull HJ.out.a x).mono ?_
            rintro e W1 ⟨rfl, hd1⟩
            have hb1 := bel_did HJ.out.bel hd1 HJ.out.ga_
            have HB1 := Lib.hid (HJ.out.b.two hd1 fun e => HJ.out.ne e.symm)
            have HA1 := Lib.hid hd1.1
            have hc2 := (HC.out W1 hb1).2
            have HW1 := Lib.hid hb1
            clear hd1 hb1 hc1
            go_wp2_with fail
            refine (c_pull HB1.out z).mono ?_
            rintro e W2 ⟨rfl, hd2⟩
            have hb2 := bel_did HW1.out hd2 HJ.out.gb_
            have HA2 := Lib.hid (HA1.out.two hd2 HJ.out.ne)
            have HB2 := Lib.hid hd2.1
            have hc3 := (HC.out W2 hb2).2
            have HW2 := Lib.hid hb2
            clear hd2 hb2 hc2 HA1
            go_wp2_with fail
            refine (c_pull HB2.out z).mono ?_
            rintro e W3 ⟨rfl, hd3⟩
            have hb3 := bel_did HW2.out hd3 HJ.out.gb_
            have HA3 := Lib.hid (HA2.out.two hd3 HJ.out.ne)
            have HB3 := Lib.hid hd3.1
            have HW3 := Lib.hid hb3
            have hcy := HCy.out W3 hb3
            clear hd3 hb3 hc3 HA2
            go_wp2_with fail
            refine (c_spend HA3.out y).mono ?_
            rintro e W4 ⟨rfl, hd4⟩
            have HB4 := Lib.hid (HB3.out.two hd4 fun e => HJ.out.ne e.symm)
            have HA4 := Lib.hid hd4.1
            have HW4 := Lib.hid (bel_did HW3.out hd4 HJ.out.ga_)
            clear hd4 hcy
            go_wp2_with (first
              | (go_at_call 18; first
                   | (refine (c_spent HA4.out).mono ?_; rintro e w' ⟨rfl, rfl⟩)
                   | (refine (c_spent HA5.out).mono ?_; rintro e w' ⟨rfl, rfl⟩))
              | (go_at_call 19; first
                   | (refine (c_pulled HA4.out).mono ?_; rintro e w' ⟨rfl, rfl⟩; rw [HF.out.1])
                   | (refine (c_pulled HA5.out).mono ?_; rintro e w' ⟨rfl, rfl⟩; rw [HF.out.1]))
              | (go_at_call 20; refine (c_left HA4.out).mono ?_; rintro e W5 ⟨rfl, hb5⟩; rw [HF.out.1]
                 have HA5 := Lib.hid (HA4.out.below hb5)
                 have HB5 := Lib.hid (HB4.out.below hb5)
                 have HW5 := Lib.hid (below_on HW4.out hb5)
                 clear hb5))
            go_roundw
            case rel => exact ⟨i + 1, (ma.pull x).spend y, (mb.pull z).pull z, by go_num, HLT.out, by rw [HF.out.1], HA5.out, HB5.out, HJ.out.ne, HJ.out.ga_, HJ.out.gb_, HW5.out, by rw [HF.out.1]; exact HXA.out, HJ.out.xb.twice HX.out.2.1 HX.out.2.2 hz0 hz1 (by rw [HZ.out]; omega)⟩
            case measure => have := HLT.out; simp [intOf]; omega
          · have hslI : ¬ (i : Int) < l := by omega
            clear hsl
            have HF : Hid ((ma.pull x).p = ma.p ∧ (ma.pull x).s ≤ ma.p ∧ 0 ≤ (ma.pull x).s) := Lib.hid (by
              have h1 := Cm.pull_ok HJ.out.a.2 x
              have h2 := h1.s1
              have h3 := h1.s0
              have h4 : (ma.pull x).p = ma.p := HE.out
              exact ⟨h4, by omega, h3⟩)
            obtain ⟨hfs1, hfs0⟩ := HF.out.2
            go_wp2_with fail
            refine (c_pull HJ.out.a x).mono ?_
            rintro e W1 ⟨rfl, hd1⟩
            have hb1 := bel_did HJ.out.bel hd1 HJ.out.ga_
            have HB1 := Lib.hid (HJ.out.b.two hd1 fun e => HJ.out.ne e.symm)
            have HA1 := Lib.hid hd1.1
            have hc2 := (HC.out W1 hb1).2
            have HW1 := Lib.hid hb1
            clear hd1 hb1 hc1
            go_wp2_with fail
            refine (c_pull HB1.out z).mono ?_
            rintro e W2 ⟨rfl, hd2⟩
            have hb2 := bel_did HW1.out hd2 HJ.out.gb_
            have HA2 := Lib.hid (HA1.out.two hd2 HJ.out.ne)
            have HB2 := Lib.hid hd2.1
            have hc3 := (HC.out W2 hb2).2
            have HW2 := Lib.hid hb2
            clear hd2 hb2 hc2 HA1
            go_wp2_with fail
            refine (c_pull HB2.out z).mono ?_
            rintro e W3 ⟨rfl, hd3⟩
            have hb3 := bel_did HW2.out hd3 HJ.out.gb_
            have HA3 := Lib.hid (HA2.out.two hd3 HJ.out.ne)
            have HB3 := Lib.hid hd3.1
            have HW3 := Lib.hid hb3
            clear hd3 hb3 hc3 HA2
            have HA4 := HA3
            have HB4 := HB3
            have HW4 := HW3
            clear HA3 HB3
            go_wp2_with (first
              | (go_at_call 18; first
                   | (refine (c_spent HA4.out).mono ?_; rintro e w' ⟨rfl, rfl⟩)
                   | (refine (c_spent HA5.out).mono ?_; rintro e w' ⟨rfl, rfl⟩))
              | (go_at_call 19; first
                   | (refine (c_pulled HA4.out).mono ?_; rintro e w' ⟨rfl, rfl⟩; rw [HF.out.1])
                   | (refine (c_pulled HA5.out).mono ?_; rintro e w' ⟨rfl, rfl⟩; rw [HF.out.1]))
              | (go_at_call 20; refine (c_left HA4.out).mono ?_; rintro e W5 ⟨rfl, hb5⟩; rw [HF.out.1]
                 have HA5 := Lib.hid (HA4.out.below hb5)
                 have HB5 := Lib.hid (HB4.out.below hb5)
                 have HW5 := Lib.hid (below_on HW4.out hb5)
                 clear hb5))
            go_roundw
            case rel => exact ⟨i + 1, ma.pull x, (mb.pull z).pull z, by go_num, HLT.out, by rw [HF.out.1], HA5.out, HB5.out, HJ.out.ne, HJ.out.ga_, HJ.out.gb_, HW5.out, by rw [HF.out.1]; exact HXA.out, HJ.out.xb.twice HX.out.2.1 HX.out.2.2 hz0 hz1 (by rw [HZ.out]; omega)⟩
            case measure => have := HLT.out; simp [intOf]; omega
      · obtain rfl : i = M := by omega
        have HJ := Lib.hid hJ
        have HP : Hid (mb.p = ma.p) := Lib.hid (hJ.xa.same hJ.xb HZ.out).symm
        have HA := Lib.hid hJ.a
        have HBq := Lib.hid hJ.b
        clear hJ hlt
        go_wp2_with fail
        refine (c_pulled HA.out).mono ?_
        rintro e w' ⟨rfl, rfl⟩
        go_wp2_with fail
        refine (c_pulled HBq.out).mono ?_
        rintro e w' ⟨rfl, rfl⟩
        rw [HP.out]
        go_wp2
        go_ret
        exact ⟨rfl, HJ.out.bel⟩
  · subst h50
    clear hpre
    go_enter Try.func4, Try.ntmps4
    go_wp2_with fail
    refine (c_new (x := 0) (by decide) w).mono ?_
    rintro e w1 ⟨rfl, hc1, hb1⟩
    have H1 := Lib.hid (And.intro hc1 hb1)
    clear hc1 hb1
    go_wp2_with fail
    refine (c_new (x := 0) (by decide) w1).mono ?_
    rintro e w2 ⟨rfl, hc2, hb2⟩
    have hJ : JN w w.heap.size w1.heap.size zs t M 0 (.new 0) (.new 0) w2 := ⟨H1.out.1.below hb2, hc2, by have := H1.out.1.1.lt; omega, Nat.le_refl _, H1.out.2.size, below_on H1.out.2 hb2, Mx.zero _ _, Mx.zero _ _⟩
    have HJ := Lib.hid hJ
    have HA := Lib.hid (awake_any w2)
    clear hJ hc2 hb2 H1
    generalize w.heap.size = ga at *
    generalize w1.heap.size = gb at *
    go_wp2_with fail
    refine HA.out.mono ?_
    rintro e w3 ⟨rfl, hb3⟩
    have HJ3 := Lib.hid (HJ.out.next hb3)
    clear hb3 HA HJ
    go_wp2
    go_loopw [11, 12] (fun mo i wr => ∃ (i' : Nat) (ma mb : Cm), i = .int .i64 i' ∧ i' ≤ M ∧ mo = .int .i64 ma.p ∧ JN w ga gb zs t M i' ma mb wr) (fun mo i _ => M - (intOf i).toNat)
    case atStart => exact ⟨0, .new 0, .new 0, rfl, Nat.zero_le _, rfl, HJ3.out⟩
    case round =>
      obtain ⟨i, ma, mb, rfl, hi, rfl, hJ⟩ := hrel
      clear HJ3
      by_cases hlt : i < M
      · have hM0 : 0 < M := by omega
        obtain ⟨q, hq⟩ : ∃ q, q = (i + t) % M := ⟨_, rfl⟩
        have hqM : q < M := hq ▸ Nat.mod_lt _ hM0
        have hqI : ((i : Int) + (t : Int)) % (M : Int) = (q : Int) := by rw [hq]; push_cast; rfl
        obtain ⟨gx, ox, rfl, hgx, cx⟩ := HR.out.cell hlt
        obtain ⟨gx', ox', hgg, hgx', cz⟩ := HR.out.cell hqM
        injection hgg with hgg
        injection hgg with hg1 hg2
        subst hg1 hg2
        obtain ⟨x, hx⟩ : ∃ x, x = zs.getD i 0 := ⟨_, rfl⟩
        obtain ⟨z, hz⟩ : ∃ z, z = zs.getD q 0 := ⟨_, rfl⟩
        obtain ⟨hx0, hx1⟩ := HB.out i (by rw [HZ.out]; omega)
        obtain ⟨hz0, hz1⟩ := HB.out q (by rw [HZ.out]; omega)
        rw [← hx] at cx hx0 hx1
        rw [← hz] at cz hz0 hz1
        have C : ∀ W, Below w.heap.size w W → W.cell? ⟨gx, ox + i, none⟩ = some (.int .u16 x) ∧ W.cell? ⟨gx, ox + q, none⟩ = some (.int .u16 z) := fun W hW => ⟨(hW.cell (p := ⟨gx, ox + i, none⟩) hgx).trans cx, (hW.cell (p := ⟨gx, ox + q, none⟩) hgx).trans cz⟩
        have HC := Lib.hid C
        have hc1 := (C wr hJ.bel).1
        have hxI : (i : Int) < M := by omega
        have hqI2 : (q : Int) < M := by omega
        have hMI : ((M : Int) == 0) = false := by simp; omega
        have hMI2 : ¬ (M : Int) = 0 := by omega
        have HJ := Lib.hid hJ
        have HX := Lib.hid (And.intro hx (And.intro hz hq))
        have hap := hJ.a.2.p1
        have hap0 := hJ.xa.p0
        have HLT := Lib.hid hlt
        clear cx cz C hx hz hq hJ hlt
        by_cases hmx : ma.p < x
        · have HE : Hid ((ma.pull x).p = x) := Lib.hid ((Cm.pull_p hx0 (by omega)).1 hmx)
          have HXA : Hid (Mx zs (fun j => j) (i + 1) x) := Lib.hid (HJ.out.xa.up (by rw [HZ.out]; exact HLT.out) HX.out.1.symm hmx hx1)
          by_cases hsl : i < l
          · obtain ⟨gy, oy, rfl, hgy, cy⟩ := HY.out.cell hsl
            obtain ⟨y, hyE⟩ : ∃ y, y = ys.getD i 0 := ⟨_, rfl⟩
            obtain ⟨hy0, hy1⟩ := u8_bounds (HY.out.2.2.2.2.1 _ (show ys.getD i 0 ∈ ys from by rw [List.getD_eq_getElem?_getD, List.getElem?_eq_getElem (by rw [HY.out.1]; exact hsl)]; exact List.getElem_mem _))
            rw [← hyE] at cy hy0 hy1
            have HCy : Hid (∀ W, Below w.heap.size w W → W.cell? ⟨gy, oy + i, none⟩ = some (.int .u8 y)) := Lib.hid fun W hW => (hW.cell (p := ⟨gy, oy + i, none⟩) hgy).trans cy
            have hslI : (i : Int) < l := by omega
            clear cy hyE hsl hgy
            have HF : Hid (((ma.pull x).spend y).p = x ∧ ((ma.pull x).spend y).s ≤ x ∧ 0 ≤ ((ma.pull x).spend y).s) := Lib.hid (by
              have h1 := Cm.spend_ok (Cm.pull_ok HJ.out.a.2 x) y
              have h2 := h1.s1
              have h3 := h1.s0
              have h4 : ((ma.pull x).spend y).p = x := (Cm.spend_p _ _).trans HE.out
              exact ⟨h4, by omega, h3⟩)
            obtain ⟨hfs1, hfs0⟩ := HF.out.2
            go_wp2_with fail
            refine (c_pull HJ.out.a x).mono ?_
            rintro e W1 ⟨rfl, hd1⟩
            have hb1 := bel_did HJ.out.bel hd1 HJ.out.ga_
            have HB1 := Lib.hid (HJ.out.b.two hd1 fun e => HJ.out.ne e.symm)
            have HA1 := Lib.hid hd1.1
            have hc2 := (HC.out W1 hb1).2
            have HW1 := Lib.hid hb1
            clear hd1 hb1 hc1
            go_wp2_with fail
            refine (c_pull HB1.out z).mono ?_
            rintro e W2 ⟨rfl, hd2⟩
            have hb2 := bel_did HW1.out hd2 HJ.out.gb_
            have HA2 := Lib.hid (HA1.out.two hd2 HJ.out.ne)
            have HB2 := Lib.hid hd2.1
            have hc3 := (HC.out W2 hb2).2
            have HW2 := Lib.hid hb2
            clear hd2 hb2 hc2 HA1
            go_wp2_with fail
            refine (c_pull HB2.out z).mono ?_
            rintro e W3 ⟨rfl, hd3⟩
            have hb3 := bel_did HW2.out hd3 HJ.out.gb_
            have HA3 := Lib.hid (HA2.out.two hd3 HJ.out.ne)
            have HB3 := Lib.hid hd3.1
            have HW3 := Lib.hid hb3
            have hcy := HCy.out W3 hb3
            clear hd3 hb3 hc3 HA2
            go_wp2_with fail
            refine (c_spend HA3.out y).mono ?_
            rintro e W4 ⟨rfl, hd4⟩
            have HB4 := Lib.hid (HB3.out.two hd4 fun e => HJ.out.ne e.symm)
            have HA4 := Lib.hid hd4.1
            have HW4 := Lib.hid (bel_did HW3.out hd4 HJ.out.ga_)
            clear hd4 hcy
            go_wp2_with (first
              | (go_at_call 18; first
                   | (refine (c_spent HA4.out).mono ?_; rintro e w' ⟨rfl, rfl⟩)
                   | (refine (c_spent HA5.out).mono ?_; rintro e w' ⟨rfl, rfl⟩))
              | (go_at_call 19; first
                   | (refine (c_pulled HA4.out).mono ?_; rintro e w' ⟨rfl, rfl⟩; rw [HF.out.1])
                   | (refine (c_pulled HA5.out).mono ?_; rintro e w' ⟨rfl, rfl⟩; rw [HF.out.1]))
              | (go_at_call 20; refine (c_left HA4.out).mono ?_; rintro e W5 ⟨rfl, hb5⟩; rw [HF.out.1]
                 have HA5 := Lib.hid (HA4.out.below hb5)
                 have HB5 := Lib.hid (HB4.out.below hb5)
                 have HW5 := Lib.hid (below_on HW4.out hb5)
                 clear hb5))
            go_roundw
            case rel => exact ⟨i + 1, (ma.pull x).spend y, (mb.pull z).pull z, by go_num, HLT.out, by rw [HF.out.1], HA5.out, HB5.out, HJ.out.ne, HJ.out.ga_, HJ.out.gb_, HW5.out, by rw [HF.out.1]; exact HXA.out, HJ.out.xb.twice HX.out.2.1 HX.out.2.2 hz0 hz1 (by rw [HZ.out]; omega)⟩
            case measure => have := HLT.out; simp [intOf]; omega
          · have hslI : ¬ (i : Int) < l := by omega
            clear hsl
            have HF : Hid ((ma.pull x).p = x ∧ (ma.pull x).s ≤ x ∧ 0 ≤ (ma.pull x).s) := Lib.hid (by
              have h1 := Cm.pull_ok HJ.out.a.2 x
              have h2 := h1.s1
              have h3 := h1.s0
              have h4 : (ma.pull x).p = x := HE.out
              exact ⟨h4, by omega, h3⟩)
            obtain ⟨hfs1, hfs0⟩ := HF.out.2
            go_wp2_with fail
            refine (c_pull HJ.out.a x).mono ?_
            rintro e W1 ⟨rfl, hd1⟩
            have hb1 := bel_did HJ.out.bel hd1 HJ.out.ga_
            have HB1 := Lib.hid (HJ.out.b.two hd1 fun e => HJ.out.ne e.symm)
            have HA1 := Lib.hid hd1.1
            have hc2 := (HC.out W1 hb1).2
            have HW1 := Lib.hid hb1
            clear hd1 hb1 hc1
            go_wp2_with fail
            refine (c_pull HB1.out z).mono ?_
            rintro e W2 ⟨rfl, hd2⟩
            have hb2 := bel_did HW1.out hd2 HJ.out.gb_
            have HA2 := Lib.hid (HA1.out.two hd2 HJ.out.ne)
            have HB2 := Lib.hid hd2.1
            have hc3 := (HC.out W2 hb2).2
            have HW2 := Lib.hid hb2
            clear hd2 hb2 hc2 HA1
            go_wp2_with fail
            refine (c_pull HB2.out z).mono ?_
            rintro e W3 ⟨rfl, hd3⟩
            have hb3 := bel_did HW2.out hd3 HJ.out.gb_
            have HA3 := Lib.hid (HA2.out.two hd3 HJ.out.ne)
            have HB3 := Lib.hid hd3.1
            have HW3 := Lib.hid hb3
            clear hd3 hb3 hc3 HA2
            have HA4 := HA3
            have HB4 := HB3
            have HW4 := HW3
            clear HA3 HB3
            go_wp2_with (first
              | (go_at_call 18; first
                   | (refine (c_spent HA4.out).mono ?_; rintro e w' ⟨rfl, rfl⟩)
                   | (refine (c_spent HA5.out).mono ?_; rintro e w' ⟨rfl, rfl⟩))
              | (go_at_call 19; first
                   | (refine (c_pulled HA4.out).mono ?_; rintro e w' ⟨rfl, rfl⟩; rw [HF.out.1])
                   | (refine (c_pulled HA5.out).mono ?_; rintro e w' ⟨rfl, rfl⟩; rw [HF.out.1]))
              | (go_at_call 20; refine (c_left HA4.out).mono ?_; rintro e W5 ⟨rfl, hb5⟩; rw [HF.out.1]
                 have HA5 := Lib.hid (HA4.out.below hb5)
                 have HB5 := Lib.hid (HB4.out.below hb5)
                 have HW5 := Lib.hid (below_on HW4.out hb5)
                 clear hb5))
            go_roundw
            case rel => exact ⟨i + 1, ma.pull x, (mb.pull z).pull z, by go_num, HLT.out, by rw [HF.out.1], HA5.out, HB5.out, HJ.out.ne, HJ.out.ga_, HJ.out.gb_, HW5.out, by rw [HF.out.1]; exact HXA.out, HJ.out.xb.twice HX.out.2.1 HX.out.2.2 hz0 hz1 (by rw [HZ.out]; omega)⟩
            case measure => have := HLT.out; simp [intOf]; omega
        · have HE : Hid ((ma.pull x).p = ma.p) := Lib.hid ((Cm.pull_p hx0 (by omega)).2 hmx)
          have HXA : Hid (Mx zs (fun j => j) (i + 1) ma.p) := Lib.hid (HJ.out.xa.on HX.out.1.symm hmx)
          by_cases hsl : i < l
          · obtain ⟨gy, oy, rfl, hgy, cy⟩ := HY.out.cell hsl
            obtain ⟨y, hyE⟩ : ∃ y, y = ys.getD i 0 := ⟨_, rfl⟩
            obtain ⟨hy0, hy1⟩ := u8_bounds (HY.out.2.2.2.2.1 _ (show ys.getD i 0 ∈ ys from by rw [List.getD_eq_getElem?_getD, List.getElem?_eq_getElem (by rw [HY.out.1]; exact hsl)]; exact List.getElem_mem _))
            rw [← hyE] at cy hy0 hy1
            have HCy : Hid (∀ W, Below w.heap.size w W → W.cell? ⟨gy, oy + i, none⟩ = some (.int .u8 y)) := Lib.hid fun W hW => (hW.cell (p := ⟨gy, oy + i, none⟩) hgy).trans cy
            have hslI : (i : Int) < l := by omega
            clear cy hyE hsl hgy
            have HF : Hid (((ma.pull x).spend y).p = ma.p ∧ ((ma.pull x).spend y).s ≤ ma.p ∧ 0 ≤ ((ma.pull x).spend y).s) := Lib.hid (by
              have h1 := Cm.spend_ok (Cm.pull_ok HJ.out.a.2 x) y
              have h2 := h1.s1
              have h3 := h1.s0
              have h4 : ((ma.pull x).spend y).p = ma.p := (Cm.spend_p _ _).trans HE.out
              exact ⟨h4, by omega, h3⟩)
            obtain ⟨hfs1, hfs0⟩ := HF.out.2
            go_wp2_with fail
            refine (c_pull HJ.out.a x).mono ?_
            rintro e W1 ⟨rfl, hd1⟩
            have hb1 := bel_did HJ.out.bel hd1 HJ.out.ga_
            have HB1 := Lib.hid (HJ.out.b.two hd1 fun e => HJ.out.ne e.symm)
            have HA1 := Lib.hid hd1.1
            have hc2 := (HC.out W1 hb1).2
            have HW1 := Lib.hid hb1
            clear hd1 hb1 hc1
            go_wp2_with fail
            refine (c_pull HB1.out z).mono ?_
            rintro e W2 ⟨rfl, hd2⟩
            have hb2 := bel_did HW1.out hd2 HJ.out.gb_
            have HA2 := Lib.hid (HA1.out.two hd2 HJ.out.ne)
            have HB2 := Lib.hid hd2.1
            have hc3 := (HC.out W2 hb2).2
            have HW2 := Lib.hid hb2
            clear hd2 hb2 hc2 HA1
            go_wp2_with fail
            refine (c_pull HB2.out z).mono ?_
            rintro e W3 ⟨rfl, hd3⟩
            have hb3 := bel_did HW2.out hd3 HJ.out.gb_
            have HA3 := Lib.hid (HA2.out.two hd3 HJ.out.ne)
            have HB3 := Lib.hid hd3.1
            have HW3 := Lib.hid hb3
            have hcy := HCy.out W3 hb3
            clear hd3 hb3 hc3 HA2
            go_wp2_with fail
            refine (c_spend HA3.out y).mono ?_
            rintro e W4 ⟨rfl, hd4⟩
            have HB4 := Lib.hid (HB3.out.two hd4 fun e => HJ.out.ne e.symm)
            have HA4 := Lib.hid hd4.1
            have HW4 := Lib.hid (bel_did HW3.out hd4 HJ.out.ga_)
            clear hd4 hcy
            go_wp2_with (first
              | (go_at_call 18; first
                   | (refine (c_spent HA4.out).mono ?_; rintro e w' ⟨rfl, rfl⟩)
                   | (refine (c_spent HA5.out).mono ?_; rintro e w' ⟨rfl, rfl⟩))
              | (go_at_call 19; first
                   | (refine (c_pulled HA4.out).mono ?_; rintro e w' ⟨rfl, rfl⟩; rw [HF.out.1])
                   | (refine (c_pulled HA5.out).mono ?_; rintro e w' ⟨rfl, rfl⟩; rw [HF.out.1]))
              | (go_at_call 20; refine (c_left HA4.out).mono ?_; rintro e W5 ⟨rfl, hb5⟩; rw [HF.out.1]
                 have HA5 := Lib.hid (HA4.out.below hb5)
                 have HB5 := Lib.hid (HB4.out.below hb5)
                 have HW5 := Lib.hid (below_on HW4.out hb5)
                 clear hb5))
            go_roundw
            case rel => exact ⟨i + 1, (ma.pull x).spend y, (mb.pull z).pull z, by go_num, HLT.out, by rw [HF.out.1], HA5.out, HB5.out, HJ.out.ne, HJ.out.ga_, HJ.out.gb_, HW5.out, by rw [HF.out.1]; exact HXA.out, HJ.out.xb.twice HX.out.2.1 HX.out.2.2 hz0 hz1 (by rw [HZ.out]; omega)⟩
            case measure => have := HLT.out; simp [intOf]; omega
          · have hslI : ¬ (i : Int) < l := by omega
            clear hsl
            have HF : Hid ((ma.pull x).p = ma.p ∧ (ma.pull x).s ≤ ma.p ∧ 0 ≤ (ma.pull x).s) := Lib.hid (by
              have h1 := Cm.pull_ok HJ.out.a.2 x
              have h2 := h1.s1
              have h3 := h1.s0
              have h4 : (ma.pull x).p = ma.p := HE.out
              exact ⟨h4, by omega, h3⟩)
            obtain ⟨hfs1, hfs0⟩ := HF.out.2
            go_wp2_with fail
            refine (c_pull HJ.out.a x).mono ?_
            rintro e W1 ⟨rfl, hd1⟩
            have hb1 := bel_did HJ.out.bel hd1 HJ.out.ga_
            have HB1 := Lib.hid (HJ.out.b.two hd1 fun e => HJ.out.ne e.symm)
            have HA1 := Lib.hid hd1.1
            have hc2 := (HC.out W1 hb1).2
            have HW1 := Lib.hid hb1
            clear hd1 hb1 hc1
            go_wp2_with fail
            refine (c_pull HB1.out z).mono ?_
            rintro e W2 ⟨rfl, hd2⟩
            have hb2 := bel_did HW1.out hd2 HJ.out.gb_
            have HA2 := Lib.hid (HA1.out.two hd2 HJ.out.ne)
            have HB2 := Lib.hid hd2.1
            have hc3 := (HC.out W2 hb2).2
            have HW2 := Lib.hid hb2
            clear hd2 hb2 hc2 HA1
            go_wp2_with fail
            refine (c_pull HB2.out z).mono ?_
            rintro e W3 ⟨rfl, hd3⟩
            have hb3 := bel_did HW2.out hd3 HJ.out.gb_
            have HA3 := Lib.hid (HA2.out.two hd3 HJ.out.ne)
            have HB3 := Lib.hid hd3.1
            have HW3 := Lib.hid hb3
            clear hd3 hb3 hc3 HA2
            have HA4 := HA3
            have HB4 := HB3
            have HW4 := HW3
            clear HA3 HB3
            go_wp2_with (first
              | (go_at_call 18; first
                   | (refine (c_spent HA4.out).mono ?_; rintro e w' ⟨rfl, rfl⟩)
                   | (refine (c_spent HA5.out).mono ?_; rintro e w' ⟨rfl, rfl⟩))
              | (go_at_call 19; first
                   | (refine (c_pulled HA4.out).mono ?_; rintro e w' ⟨rfl, rfl⟩; rw [HF.out.1])
                   | (refine (c_pulled HA5.out).mono ?_; rintro e w' ⟨rfl, rfl⟩; rw [HF.out.1]))
              | (go_at_call 20; refine (c_left HA4.out).mono ?_; rintro e W5 ⟨rfl, hb5⟩; rw [HF.out.1]
                 have HA5 := Lib.hid (HA4.out.below hb5)
                 have HB5 := Lib.hid (HB4.out.below hb5)
                 have HW5 := Lib.hid (below_on HW4.out hb5)
                 clear hb5))
            go_roundw
            case rel => exact ⟨i + 1, ma.pull x, (mb.pull z).pull z, by go_num, HLT.out, by rw [HF.out.1], HA5.out, HB5.out, HJ.out.ne, HJ.out.ga_, HJ.out.gb_, HW5.out, by rw [HF.out.1]; exact HXA.out, HJ.out.xb.twice HX.out.2.1 HX.out.2.2 hz0 hz1 (by rw [HZ.out]; omega)⟩
            case measure => have := HLT.out; simp [intOf]; omega
      · obtain rfl : i = M := by omega
        have HJ := Lib.hid hJ
        have HP : Hid (mb.p = ma.p) := Lib.hid (hJ.xa.same hJ.xb HZ.out).symm
        have HA := Lib.hid hJ.a
        have HBq := Lib.hid hJ.b
        clear hJ hlt
        go_wp2_with fail
        refine (c_pulled HA.out).mono ?_
        rintro e w' ⟨rfl, rfl⟩
        go_wp2_with fail
        refine (c_pulled HBq.out).mono ?_
        rintro e w' ⟨rfl, rfl⟩
        rw [HP.out]
        go_wp2
        go_ret
        exact ⟨rfl, HJ.out.bel⟩
end Go.Proofs.Ytinblipcepagaaa
