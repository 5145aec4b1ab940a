/- The law of each timer once. -/
import Derived.Test.YtainmpeiicinmaaW21
import Derived.Test.YtainmpeiicinmaaOpenV
set_option linter.unusedSimpArgs false
set_option linter.unusedVariables false
set_option maxRecDepth 100000
namespace Go.Proofs.Ytainmpeiicinmaa.Wi
open Go.RowKit Go.Shelf
theorem eltU : Elt Try.prog 53 54 (.int .u16 0) 2 := ⟨rfl, by kernel_rfl, rfl, rfl, by decide⟩
theorem u16_in {x : Int} (h : (Lit.int .u16 x).wf = true) : 0 ≤ x ∧ x < 65536 := by
  simp [Lit.wf, IntKind.min, IntKind.max, IntKind.signed, IntKind.bits] at h
  omega
theorem lst_tyd {e : TypeId} {F : Nat → Prop} {w : World} {A : Option Addr} {n c : Nat} {vs : List Value} (h : Lst e F w A n c vs) : ∀ k, BlkOf A k → Tyd e w k := by
  rintro k ⟨ad, he, rfl⟩
  rcases h.2.2.2.2 with ⟨rfl, _⟩ | ⟨g, o, cur, rfl, _, hh, _⟩
  · cases he
  · injection he with he
    subst he
    exact ⟨_, _, hh⟩
section
variable {w W W1 : World} {gx gy g : Nat} {m mx my m' : Wm Int} {A : Option Addr} {n c : Nat} {vs : List Value} {F : Nat → Prop}
theorem WhC.apd (h : WhC W g m) (hl : Lst 3 F W A n c vs) (hst : St (BlkOf A) W W1) : WhC W1 g m := by
  obtain ⟨A', n', c', h⟩ := h
  exact ⟨A', n', c', h.kps (hst.block g h.bk.lt fun hk => (lst_tyd hl g hk).ne (by decide) h.bk.tyd) fun k hk => hst.block k (h.blt k hk) fun hk2 => (lst_tyd hl k hk2).ne (u := 80) (by decide) (h.ls.tyd k hk)⟩
/-- Two wheels. -/
structure JX (w : World) (gx gy : Nat) (mx my : Wm Int) (W : World) : Prop where
  x : WhC W gx mx
  y : WhC W gy my
  ne : ¬ gx = gy
  gx_ : w.heap.size ≤ gx
  gy_ : w.heap.size ≤ gy
  bel : Below w.heap.size w W
theorem JX.next (h : JX w gx gy mx my W) (hb : Below W.heap.size W W1) : JX w gx gy mx my W1 := ⟨h.x.below hb, h.y.below hb, h.ne, h.gx_, h.gy_, below_on h.bel hb⟩
theorem JX.didx (h : JX w gx gy mx my W) (hd : Did W gx m' W1) : JX w gx gy m' my W1 :=
  ⟨hd.1, h.y.st hd.2 (fun e => h.ne e.symm) h.x.tyd (by decide), h.ne, h.gx_, h.gy_, h.bel.trans (hd.2.below h.bel.size fun j hj => hj ▸ h.gx_)⟩
theorem JX.didy (h : JX w gx gy mx my W) (hd : Did W gy m' W1) : JX w gx gy mx m' W1 :=
  ⟨h.x.st hd.2 h.ne h.y.tyd (by decide), hd.1, h.ne, h.gx_, h.gy_, h.bel.trans (hd.2.below h.bel.size fun j hj => hj ▸ h.gy_)⟩
theorem JX.apd (h : JX w gx gy mx my W) {L : Nat} (hL : w.heap.size ≤ L) (hl : Lst 3 (L ≤ ·) W A n c vs) (hst : St (BlkOf A) W W1) : JX w gx gy mx my W1 :=
  ⟨h.x.apd hl hst, h.y.apd hl hst, h.ne, h.gx_, h.gy_, h.bel.trans (hst.below h.bel.size fun k hk => by
    obtain ⟨ad, he, rfl⟩ := hk
    exact Nat.le_trans hL (hl.blk ad he).1)⟩
end
theorem kvs_app (a b : List Int) : kvs (a ++ b) = kvs a ++ kvs b := by simp [kvs]
theorem kvs_cell {W : World} {A : Option Addr} {n c : Nat} {xs : List Int} (h : RdV W A n c (kvs xs)) {k : Nat} (hk : k < xs.length) : ∃ g o, A = some ⟨g, o, none⟩ ∧ g < W.heap.size ∧ W.cell? ⟨g, o + k, none⟩ = some (.int .i64 xs[k]) := by
  have hkn : k < n := by have := h.1; rw [kvs_len] at this; omega
  obtain ⟨g, o, e, hg, hc⟩ := h.cell hkn
  refine ⟨g, o, e, hg, ?_⟩
  rw [hc, kvs, List.getElem?_map, List.getElem?_eq_getElem hk]
  rfl
set_option maxHeartbeats 16000000 in
theorem lawOnce (A : Option Addr) (n c : Nat) (xs : List Int) {a b : Int} (ha : 0 ≤ a ∧ a < 65536) (hb : 0 ≤ b ∧ b < 65536) (w : World) (h : Rd .u16 w A n c xs) :
    Calls Try.prog 5 #[.slice A n c, .int .u16 a, .int .u16 b] w fun e w' => e = .returned (.bool true) ∧ Below w.heap.size w w' := by
  obtain ⟨ha0, ha1⟩ := ha
  obtain ⟨hb0, hb1⟩ := hb
  have hcc := h.2.1
  have hcm := h.2.2.1
  unfold maxLen at hcm
  obtain ⟨M, hM⟩ : ∃ M, M = min n 60 := ⟨_, rfl⟩
  have hR := h.pre (s := M) (by omega)
  obtain ⟨us, hus⟩ : ∃ us, us = xs.take M := ⟨_, rfl⟩
  rw [← hus] at hR
  have HB : Hid (∀ i, i < us.length → 0 ≤ us.getD i 0 ∧ us.getD i 0 < 65536) := Lib.hid fun i hi => u16_in (hR.2.2.2.2.1 _ (by rw [List.getD_eq_getElem?_getD, List.getElem?_eq_getElem hi]; exact List.getElem_mem hi))
  have HZ : Hid (us.length = M) := Lib.hid hR.1
  have HCU : Hid (∀ W, Below w.heap.size w W → ∀ j, j < M → ∃ g o, A = some ⟨g, o, none⟩ ∧ W.cell? ⟨g, o + j, none⟩ = some (.int .u16 (us.getD j 0)) ∧ 0 ≤ us.getD j 0 ∧ us.getD j 0 < 65536) := Lib.hid fun W hW j hj => by
    obtain ⟨g, o, e, hg, hc⟩ := hR.cell hj
    obtain ⟨h1, h2⟩ := HB.out j (by rw [HZ.out]; exact hj)
    exact ⟨g, o, e, (hW.cell (p := ⟨g, o + j, none⟩) hg).trans hc, h1, h2⟩
  have hM5 : M ≤ 60 := by omega
  have hw : (60 < (n : Int) ∧ M = 60) ∨ (¬ 60 < (n : Int) ∧ M = n) := by omega
  have hpre : 60 ≤ c → ∀ W : World, (Instr.slice 53 (.slice A n c) none (some (.int .i64 60)) none).run Try.prog W = .ok (.slice A 60 c) W := fun h50 W => eltU.run_pre A n c 60 h50 hcc W
  have HOF := Lib.hid (fun i (hi : i ≤ 60) => onc_f us i hi)
  have HRow := Lib.hid (once_row (us := us) (L := M) hM5 (n := a % 2000) (m := b % 2000) (by omega) (by omega) (by omega) (by omega))
  clear h hM hR hus
  rcases hw with ⟨hn, h50⟩ | ⟨hn, h50⟩
  · replace hpre := hpre (by omega)
    rw [show (60 : Nat) = M from h50.symm] at hpre
    clear h50
    go_enter Try.func5, Try.ntmps5
    go_wp2_with fail
    refine (w_new 100 (by decide) (by decide)).mono ?_
    rintro e w1 ⟨rfl, hc1, hb1⟩
    have H1 := Lib.hid (And.intro hc1 hb1)
    clear hc1 hb1
    go_wp2_with fail
    refine (w_new 100 (by decide) (by decide)).mono ?_
    rintro e w2 ⟨rfl, hc2, hb2⟩
    have hJ : JX w w.heap.size w1.heap.size (onc us 0) (onc us 0) w2 := ⟨H1.out.1.below hb2, hc2, by have := H1.out.1.lt; omega, Nat.le_refl _, H1.out.2.size, below_on H1.out.2 hb2⟩
    have HJ := Lib.hid hJ
    have HA := Lib.hid (awake_any w2)
    clear hJ hc2 hb2 H1
    generalize w1.heap.size = gy at *
    go_wp2_with fail
    refine HA.out.mono ?_
    rintro e w3 ⟨rfl, hb3⟩
    have HJ3 := Lib.hid (HJ.out.next hb3)
    clear hb3 HA HJ
    go_wp2
    go_loopw [11] (fun i wr => ∃ (i' : Nat), i = .int .i64 i' ∧ i' ≤ M ∧ JX w w.heap.size gy (onc us i') (onc us i') wr) (fun i _ => M - (intOf i).toNat)
    case atStart => exact ⟨0, rfl, Nat.zero_le _, HJ3.out⟩
    case round =>
      obtain ⟨i, rfl, hi, hJ⟩ := hrel
      clear HJ3
      have HJ := Lib.hid hJ
      have HF := Lib.hid (HOF.out i (by omega))
      by_cases hlt : i < M
      · obtain ⟨g, o, rfl, cu, hu0, hu1⟩ := HCU.out wr hJ.bel i hlt
        obtain ⟨hE, hF2⟩ := onc_set HF.out (by omega)
        have hlt' : (i : Int) < M := by omega
        have hdo : dOf us i = 1 + us.getD i 0 % 3000 := rfl
        have hE' : (onc us i).setE (i : Int) (1 + us.getD i 0 % 3000) = 0 := hE
        have hM' : (onc us i).set (i : Int) (1 + us.getD i 0 % 3000) = onc us (i + 1) := rfl
        have HS := Lib.hid (And.intro hE' hM')
        have hib : i ≤ 60 := by omega
        generalize us.getD i 0 = u at *
        clear hJ hE hdo hE' hM' hF2
        go_wp2_with fail
        have hs1 := w_set HJ.out.x HF.out.ok (by rw [HF.out.nw]; decide) (i : Int) (1 + u % 3000)
        rw [HS.out.1, HS.out.2] at hs1
        refine hs1.mono ?_
        rintro e W1 ⟨rfl, hd⟩
        have HJ1 := Lib.hid (HJ.out.didx hd)
        clear hd hs1
        go_wp2_with fail
        have hs1 := w_set HJ1.out.y HF.out.ok (by rw [HF.out.nw]; decide) (i : Int) (1 + u % 3000)
        rw [HS.out.1, HS.out.2] at hs1
        refine hs1.mono ?_
        rintro e W2 ⟨rfl, hd⟩
        have HJ2 := Lib.hid (HJ1.out.didy hd)
        clear hd hs1 cu
        go_wp2
        go_roundw
        case rel => exact ⟨i + 1, by go_num, by omega, HJ2.out⟩
        case measure => simp [intOf]; omega
      · obtain rfl : M = i := by omega
        clear hJ hlt
        have hgx := HJ.out.x.lt
        have hgy := HJ.out.y.lt
        have hba : Below wr.heap.size wr (wr.alloc (.cells #[] 3)) := (Below.refl _ _).alloc (Nat.le_refl _) _
        have HJa := Lib.hid (HJ.out.next hba)
        have h0 : Lst 3 (wr.heap.size ≤ ·) (wr.alloc (.cells #[] 3)) (some ⟨wr.heap.size, 0, none⟩) 0 0 [] := Lst.made wr 3 #[] 0 [] rfl (Nat.le_refl _) (Nat.zero_le _) (by simp) (by simp)
        have H0 := Lib.hid h0
        have HGG := Lib.hid (And.intro hgx hgy)
        have HWL := Lib.hid (HJ.out.bel.size)
        clear hba h0
        go_wp2_with fail
        refine (w_skip HJa.out.x HRow.out.2.2.2.2.1 (a % 2000) (by omega)).mono ?_
        rintro e W2 ⟨A1, n1, c1, rfl, hl1, hd⟩
        have HJ2 := Lib.hid (HJa.out.didx hd)
        have hl0 := H0.out.st hd.2 (fun k hk e => by have := HGG.out.1; omega)
        have hlt0 := hl0.tight
        have hu1 := hl1.rdv
        have hn1 : n1 ≤ 100 := by
          have h1 := hl1.1
          rw [kvs_len] at h1
          unfold Wm.due at h1
          rw [List.length_map] at h1
          have h2 := low_le (onc us M).l ((onc us M).now + clampN (a % 2000))
          have h3 := HF.out.len
          omega
        have H2 := Lib.hid hl0
        have HW2 := Lib.hid (show wr.heap.size ≤ W2.heap.size by have h2 := hd.2.size; simp at h2; omega)
        clear hd hl1 hl0
        go_wp2_with (refine wpList_append_lst eltK rfl (.tmp 82) (.tmp 85) rfl rfl hlt0 rfl hu1 (by omega) ?_
                     rintro v W3 hap
                     obtain ⟨A2, n2, c2, rfl, hl2'⟩ := hap.ex
                     obtain ⟨hl2, hb2⟩ := below_apd (N := wr.heap.size) HW2.out H2.out hap
                     have HJ3 := Lib.hid (HJ2.out.apd HWL.out H2.out hap.st)
                     have HL3 := Lib.hid hl2
                     have HW3 := Lib.hid (Nat.le_trans HW2.out hb2.size)
                     have hn2 : n2 ≤ 100 := by
                       have h1 := hl2.1
                       have h2 := hu1.1
                       rw [List.nil_append] at h1
                       omega
                     clear hap hl2 hl2' hb2 hlt0 hu1)
        refine (w_skip HJ3.out.x HRow.out.2.2.2.2.2 (b % 2000) (by omega)).mono ?_
        rintro e W4 ⟨A4, n4, c4, rfl, hl4, hd⟩
        have HJ4 := Lib.hid (HJ3.out.didx hd)
        have hl3 := HL3.out.st hd.2 (fun k hk e => by have := HGG.out.1; omega)
        have H4 := Lib.hid hl3
        have hlt3 := hl3.tight
        have hu4 := hl4.rdv
        have hn4 : n4 ≤ 100 := by
          have h1 := hl4.1
          rw [kvs_len] at h1
          unfold Wm.due at h1
          rw [List.length_map] at h1
          have h2 := low_le ((onc us M).skip (a % 2000)).l (((onc us M).skip (a % 2000)).now + clampN (b % 2000))
          have h3 := HF.out.len
          have h4 : ((onc us M).skip (a % 2000)).l.length ≤ (onc us M).l.length := (List.dropWhile_sublist _).length_le
          omega
        have HW4 := Lib.hid (Nat.le_trans HW3.out hd.2.size)
        clear hd hl4 hl3
        go_wp2_with (refine wpList_append_lst eltK rfl (.tmp 87) (.tmp 90) rfl rfl hlt3 rfl hu4 (by omega) ?_
                     rintro v W5 hap
                     obtain ⟨A5, n5, c5, rfl, hl5'⟩ := hap.ex
                     obtain ⟨hl5, hb5⟩ := below_apd (N := wr.heap.size) HW4.out H4.out hap
                     have HJ5 := Lib.hid (HJ4.out.apd HWL.out H4.out hap.st)
                     have HL5 := Lib.hid hl5
                     clear hap hl5 hl5' hb5 hlt3 hu4)
        refine (w_skip HJ5.out.y HRow.out.2.2.2.2.1 (a % 2000 + b % 2000) (by omega)).mono ?_
        rintro e W6 ⟨A6, n6, c6, rfl, hl6, hd⟩
        have HJ6 := Lib.hid (HJ5.out.didy hd)
        have hp6 := HL5.out.st hd.2 (fun k hk e => by have := HGG.out.2; omega)
        rw [List.nil_append, ← kvs_app, HRow.out.1] at hp6
        rw [HRow.out.2.1] at hl6
        have hn6 : n6 = cnt us (a % 2000 + b % 2000) M := by
          have h1 := hl6.1
          rw [kvs_len, tld_len hM5] at h1
          exact h1.symm
        subst hn6
        have HQ := Lib.hid (And.intro hp6.rdv hl6.rdv)
        clear hd hl6 hp6
        go_wp2
        go_loopw [17, 18] (fun cn i W => ∃ i' : Nat, i = .int .i64 i' ∧ i' ≤ M ∧ cn = .int .i64 (cnt us (a % 2000 + b % 2000) i' : Nat) ∧ W = W6) (fun cn i _ => M - (intOf i).toNat)
        case atStart => exact ⟨0, rfl, Nat.zero_le _, rfl, rfl⟩
        case round =>
          obtain ⟨i, rfl, hi, rfl, rfl⟩ := hrel
          by_cases hlt : i < M
          · obtain ⟨g, o, rfl, cu, hu0, hu1⟩ := HCU.out _ HJ6.out.bel i hlt
            have hlt' : (i : Int) < M := by omega
            have hib : i ≤ 60 := by omega
            have HCS := Lib.hid (cnt_succ us (a % 2000 + b % 2000) i)
            have hdo : dOf us i = 1 + us.getD i 0 % 3000 := rfl
            rw [hdo] at HCS
            have hcb := cnt_le us (a % 2000 + b % 2000) i
            generalize cnt us (a % 2000 + b % 2000) i = K at *
            generalize us.getD i 0 = u at *
            clear hdo
            have hKb : K ≤ 60 := by omega
            by_cases hle : 1 + u % 3000 ≤ a % 2000 + b % 2000
            · rw [if_pos hle] at HCS
              go_wp2
              go_roundw
              case rel => exact ⟨i + 1, by go_num, by omega, by rw [HCS.out]; go_num, trivial⟩
              case measure => simp [intOf]; omega
            · rw [if_neg hle] at HCS
              have hle' : a % 2000 + b % 2000 < 1 + u % 3000 := by omega
              clear hle
              go_wp2
              go_roundw
              case rel => exact ⟨i + 1, by go_num, by omega, by rw [HCS.out]; rfl, trivial⟩
              case measure => simp [intOf]; omega
          · obtain rfl : M = i := by omega
            clear hlt
            have hcb := cnt_le us (a % 2000 + b % 2000) M
            have HTL := Lib.hid (tld_len (us := us) hM5 (a % 2000 + b % 2000))
            generalize cnt us (a % 2000 + b % 2000) M = K at *
            have hKb : K ≤ 60 := by omega
            go_wp2_with fail
            refine (same_refl HQ.out.1 HQ.out.2).mono ?_
            rintro e W7 ⟨rfl, hb7⟩
            have HJ7 := Lib.hid (HJ6.out.next hb7)
            have HQ7 := Lib.hid (HQ.out.2.below hb7)
            clear hb7
            go_wp2_with fail
            have hs1 := w_now HJ7.out.x
            rw [HRow.out.2.2.1] at hs1
            refine hs1.mono ?_
            rintro e W8 ⟨rfl, rfl⟩
            clear hs1
            go_wp2_with fail
            have hs1 := w_len HJ7.out.x
            rw [HRow.out.2.2.2.1] at hs1
            refine hs1.mono ?_
            rintro e W8 ⟨rfl, rfl⟩
            clear hs1
            go_wp2
            go_loopw [19] (fun i W => ∃ i' : Nat, i = .int .i64 i' ∧ i' ≤ K ∧ Below w.heap.size w W ∧ RdV W A6 K c6 (kvs (tld us M (a % 2000 + b % 2000)))) (fun i _ => K - (intOf i).toNat)
            case atStart => exact ⟨0, rfl, Nat.zero_le _, HJ7.out.bel, HQ7.out⟩
            case round =>
              obtain ⟨i, rfl, hi, hbw, hq⟩ := hrel
              have HBW := Lib.hid (And.intro hbw hq)
              by_cases hlt : i < K
              · have hit : i < (tld us M (a % 2000 + b % 2000)).length := by rw [HTL.out]; exact hlt
                obtain ⟨j, hj, hqj, hdj, htj⟩ := tld_at hM5 _ hit
                obtain ⟨gq, oq, rfl, hgq, cq⟩ := kvs_cell hq hit
                rw [hqj] at cq
                obtain ⟨g, o, rfl, cu, hu0, hu1⟩ := HCU.out _ hbw j hj
                have hlt' : (i : Int) < K := by omega
                have hjM : (j : Int) < M := by omega
                have g1 : decide ((j : Int) < 0) = false := decide_eq_false (by omega)
                have g2 : decide ((M : Int) ≤ (j : Int)) = false := decide_eq_false (by omega)
                have g2' : decide (M ≤ j) = false := decide_eq_false (by omega)
                have hjb : j ≤ 60 := by omega
                have hib : i ≤ 60 := by omega
                have hdo : dOf us j = 1 + us.getD j 0 % 3000 := rfl
                rw [hdo] at hdj
                cases i with
                | zero =>
                  rw [Nat.add_zero] at cq
                  generalize us.getD j 0 = u at *
                  have g3 : decide (a % 2000 + b % 2000 < 1 + u % 3000) = false := decide_eq_false (by omega)
                  clear hq hbw htj hqj hdo hit hdj
                  go_wp2_with fail
                  go_quiet (fail)
                  go_wp2
                  go_roundw
                  case rel => exact ⟨1, by go_num, by omega, below_on HBW.out.1 (Below.drewN_ _ nq), HBW.out.2.below (Below.drewN_ _ nq)⟩
                  case measure => simp [intOf]; omega
                | succ i0 =>
                  have hit0 : i0 < (tld us M (a % 2000 + b % 2000)).length := by omega
                  obtain ⟨j0, hj0, hqj0, hdj0, htj0⟩ := tld_at hM5 _ hit0
                  obtain ⟨gq', oq', hgg, hgq', cq0⟩ := kvs_cell hq hit0
                  injection hgg with hgg
                  injection hgg with hg1 hg2
                  subst hg1 hg2
                  rw [hqj0] at cq0
                  obtain ⟨g', o', hgg, cu0, hv0, hv1⟩ := HCU.out _ hbw j0 hj0
                  injection hgg with hgg
                  injection hgg with hg1 hg2
                  subst hg1 hg2
                  have hup := tld_up hM5 _ hit htj0 htj
                  have hdo0 : dOf us j0 = 1 + us.getD j0 0 % 3000 := rfl
                  rw [hdo, hdo0] at hup
                  have hj0M : (j0 : Int) < M := by omega
                  have hi0 : (i0 : Int) < K := by omega
                  have hi1 : (i0 : Int) + 1 < K := by omega
                  have hj0b : j0 ≤ 60 := by omega
                  have hi0b : i0 ≤ 60 := by omega
                  have HLE := Lib.hid hlt
                  generalize us.getD j 0 = u at *
                  generalize us.getD j0 0 = v at *
                  have g3 : decide (a % 2000 + b % 2000 < 1 + u % 3000) = false := decide_eq_false (by omega)
                  have g4 : decide (u % 3000 < v % 3000) = false := decide_eq_false (by omega)
                  have g5 : decide ((0 : Int) < (i0 : Int) + 1) = true := decide_eq_true (by omega)
                  have g5' : decide (0 < i0 + 1) = true := decide_eq_true (by omega)
                  clear hq hbw htj hqj hdo hit hdj htj0 hqj0 hdj0 hdo0 hup hit0 hlt
                  go_wp2_with fail
                  go_quiet (fail)
                  go_wp2
                  go_roundw
                  case rel => exact ⟨i0 + 2, by go_num, HLE.out, below_on HBW.out.1 (Below.drewN_ _ nq), HBW.out.2.below (Below.drewN_ _ nq)⟩
                  case measure => simp [intOf]; omega
              · obtain rfl : K = i := by omega
                clear hlt hbw hq
                go_wp2
                go_ret
                exact ⟨rfl, HBW.out.1⟩
  · subst h50
    clear hpre
    go_enter Try.func5, Try.ntmps5
    go_wp2_with fail
    refine (w_new 100 (by decide) (by decide)).mono ?_
    rintro e w1 ⟨rfl, hc1, hb1⟩
    have H1 := Lib.hid (And.intro hc1 hb1)
    clear hc1 hb1
    go_wp2_with fail
    refine (w_new 100 (by decide) (by decide)).mono ?_
    rintro e w2 ⟨rfl, hc2, hb2⟩
    have hJ : JX w w.heap.size w1.heap.size (onc us 0) (onc us 0) w2 := ⟨H1.out.1.below hb2, hc2, by have := H1.out.1.lt; omega, Nat.le_refl _, H1.out.2.size, below_on H1.out.2 hb2⟩
    have HJ := Lib.hid hJ
    have HA := Lib.hid (awake_any w2)
    clear hJ hc2 hb2 H1
    generalize w1.heap.size = gy at *
    go_wp2_with fail
    refine HA.out.mono ?_
    rintro e w3 ⟨rfl, hb3⟩
    have HJ3 := Lib.hid (HJ.out.next hb3)
    clear hb3 HA HJ
    go_wp2
    go_loopw [11] (fun i wr => ∃ (i' : Nat), i = .int .i64 i' ∧ i' ≤ M ∧ JX w w.heap.size gy (onc us i') (onc us i') wr) (fun i _ => M - (intOf i).toNat)
    case atStart => exact ⟨0, rfl, Nat.zero_le _, HJ3.out⟩
    case round =>
      obtain ⟨i, rfl, hi, hJ⟩ := hrel
      clear HJ3
      have HJ := Lib.hid hJ
      have HF := Lib.hid (HOF.out i (by omega))
      by_cases hlt : i < M
      · obtain ⟨g, o, rfl, cu, hu0, hu1⟩ := HCU.out wr hJ.bel i hlt
        obtain ⟨hE, hF2⟩ := onc_set HF.out (by omega)
        have hlt' : (i : Int) < M := by omega
        have hdo : dOf us i = 1 + us.getD i 0 % 3000 := rfl
        have hE' : (onc us i).setE (i : Int) (1 + us.getD i 0 % 3000) = 0 := hE
        have hM' : (onc us i).set (i : Int) (1 + us.getD i 0 % 3000) = onc us (i + 1) := rfl
        have HS := Lib.hid (And.intro hE' hM')
        have hib : i ≤ 60 := by omega
        generalize us.getD i 0 = u at *
        clear hJ hE hdo hE' hM' hF2
        go_wp2_with fail
        have hs1 := w_set HJ.out.x HF.out.ok (by rw [HF.out.nw]; decide) (i : Int) (1 + u % 3000)
        rw [HS.out.1, HS.out.2] at hs1
        refine hs1.mono ?_
        rintro e W1 ⟨rfl, hd⟩
        have HJ1 := Lib.hid (HJ.out.didx hd)
        clear hd hs1
        go_wp2_with fail
        have hs1 := w_set HJ1.out.y HF.out.ok (by rw [HF.out.nw]; decide) (i : Int) (1 + u % 3000)
        rw [HS.out.1, HS.out.2] at hs1
        refine hs1.mono ?_
        rintro e W2 ⟨rfl, hd⟩
        have HJ2 := Lib.hid (HJ1.out.didy hd)
        clear hd hs1 cu
        go_wp2
        go_roundw
        case rel => exact ⟨i + 1, by go_num, by omega, HJ2.out⟩
        case measure => simp [intOf]; omega
      · obtain rfl : M = i := by omega
        clear hJ hlt
        have hgx := HJ.out.x.lt
        have hgy := HJ.out.y.lt
        have hba : Below wr.heap.size wr (wr.alloc (.cells #[] 3)) := (Below.refl _ _).alloc (Nat.le_refl _) _
        have HJa := Lib.hid (HJ.out.next hba)
        have h0 : Lst 3 (wr.heap.size ≤ ·) (wr.alloc (.cells #[] 3)) (some ⟨wr.heap.size, 0, none⟩) 0 0 [] := Lst.made wr 3 #[] 0 [] rfl (Nat.le_refl _) (Nat.zero_le _) (by simp) (by simp)
        have H0 := Lib.hid h0
        have HGG := Lib.hid (And.intro hgx hgy)
        have HWL := Lib.hid (HJ.out.bel.size)
        clear hba h0
        go_wp2_with fail
        refine (w_skip HJa.out.x HRow.out.2.2.2.2.1 (a % 2000) (by omega)).mono ?_
        rintro e W2 ⟨A1, n1, c1, rfl, hl1, hd⟩
        have HJ2 := Lib.hid (HJa.out.didx hd)
        have hl0 := H0.out.st hd.2 (fun k hk e => by have := HGG.out.1; omega)
        have hlt0 := hl0.tight
        have hu1 := hl1.rdv
        have hn1 : n1 ≤ 100 := by
          have h1 := hl1.1
          rw [kvs_len] at h1
          unfold Wm.due at h1
          rw [List.length_map] at h1
          have h2 := low_le (onc us M).l ((onc us M).now + clampN (a % 2000))
          have h3 := HF.out.len
          omega
        have H2 := Lib.hid hl0
        have HW2 := Lib.hid (show wr.heap.size ≤ W2.heap.size by have h2 := hd.2.size; simp at h2; omega)
        clear hd hl1 hl0
        go_wp2_with (refine wpList_append_lst eltK rfl (.tmp 82) (.tmp 85) rfl rfl hlt0 rfl hu1 (by omega) ?_
                     rintro v W3 hap
                     obtain ⟨A2, n2, c2, rfl, hl2'⟩ := hap.ex
                     obtain ⟨hl2, hb2⟩ := below_apd (N := wr.heap.size) HW2.out H2.out hap
                     have HJ3 := Lib.hid (HJ2.out.apd HWL.out H2.out hap.st)
                     have HL3 := Lib.hid hl2
                     have HW3 := Lib.hid (Nat.le_trans HW2.out hb2.size)
                     have hn2 : n2 ≤ 100 := by
                       have h1 := hl2.1
                       have h2 := hu1.1
                       rw [List.nil_append] at h1
                       omega
                     clear hap hl2 hl2' hb2 hlt0 hu1)
        refine (w_skip HJ3.out.x HRow.out.2.2.2.2.2 (b % 2000) (by omega)).mono ?_
        rintro e W4 ⟨A4, n4, c4, rfl, hl4, hd⟩
        have HJ4 := Lib.hid (HJ3.out.didx hd)
        have hl3 := HL3.out.st hd.2 (fun k hk e => by have := HGG.out.1; omega)
        have H4 := Lib.hid hl3
        have hlt3 := hl3.tight
        have hu4 := hl4.rdv
        have hn4 : n4 ≤ 100 := by
          have h1 := hl4.1
          rw [kvs_len] at h1
          unfold Wm.due at h1
          rw [List.length_map] at h1
          have h2 := low_le ((onc us M).skip (a % 2000)).l (((onc us M).skip (a % 2000)).now + clampN (b % 2000))
          have h3 := HF.out.len
          have h4 : ((onc us M).skip (a % 2000)).l.length ≤ (onc us M).l.length := (List.dropWhile_sublist _).length_le
          omega
        have HW4 := Lib.hid (Nat.le_trans HW3.out hd.2.size)
        clear hd hl4 hl3
        go_wp2_with (refine wpList_append_lst eltK rfl (.tmp 87) (.tmp 90) rfl rfl hlt3 rfl hu4 (by omega) ?_
                     rintro v W5 hap
                     obtain ⟨A5, n5, c5, rfl, hl5'⟩ := hap.ex
                     obtain ⟨hl5, hb5⟩ := below_apd (N := wr.heap.size) HW4.out H4.out hap
                     have HJ5 := Lib.hid (HJ4.out.apd HWL.out H4.out hap.st)
                     have HL5 := Lib.hid hl5
                     clear hap hl5 hl5' hb5 hlt3 hu4)
        refine (w_skip HJ5.out.y HRow.out.2.2.2.2.1 (a % 2000 + b % 2000) (by omega)).mono ?_
        rintro e W6 ⟨A6, n6, c6, rfl, hl6, hd⟩
        have HJ6 := Lib.hid (HJ5.out.didy hd)
        have hp6 := HL5.out.st hd.2 (fun k hk e => by have := HGG.out.2; omega)
        rw [List.nil_append, ← kvs_app, HRow.out.1] at hp6
        rw [HRow.out.2.1] at hl6
        have hn6 : n6 = cnt us (a % 2000 + b % 2000) M := by
          have h1 := hl6.1
          rw [kvs_len, tld_len hM5] at h1
          exact h1.symm
        subst hn6
        have HQ := Lib.hid (And.intro hp6.rdv hl6.rdv)
        clear hd hl6 hp6
        go_wp2
        go_loopw [17, 18] (fun cn i W => ∃ i' : Nat, i = .int .i64 i' ∧ i' ≤ M ∧ cn = .int .i64 (cnt us (a % 2000 + b % 2000) i' : Nat) ∧ W = W6) (fun cn i _ => M - (intOf i).toNat)
        case atStart => exact ⟨0, rfl, Nat.zero_le _, rfl, rfl⟩
        case round =>
          obtain ⟨i, rfl, hi, rfl, rfl⟩ := hrel
          by_cases hlt : i < M
          · obtain ⟨g, o, rfl, cu, hu0, hu1⟩ := HCU.out _ HJ6.out.bel i hlt
            have hlt' : (i : Int) < M := by omega
            have hib : i ≤ 60 := by omega
            have HCS := Lib.hid (cnt_succ us (a % 2000 + b % 2000) i)
            have hdo : dOf us i = 1 + us.getD i 0 % 3000 := rfl
            rw [hdo] at HCS
            have hcb := cnt_le us (a % 2000 + b % 2000) i
            generalize cnt us (a % 2000 + b % 2000) i = K at *
            generalize us.getD i 0 = u at *
            clear hdo
            have hKb : K ≤ 60 := by omega
            by_cases hle : 1 + u % 3000 ≤ a % 2000 + b % 2000
            · rw [if_pos hle] at HCS
              go_wp2
              go_roundw
              case rel => exact ⟨i + 1, by go_num, by omega, by rw [HCS.out]; go_num, trivial⟩
              case measure => simp [intOf]; omega
            · rw [if_neg hle] at HCS
              have hle' : a % 2000 + b % 2000 < 1 + u % 3000 := by omega
              clear hle
              go_wp2
              go_roundw
              case rel => exact ⟨i + 1, by go_num, by omega, by rw [HCS.out]; rfl, trivial⟩
              case measure => simp [intOf]; omega
          · obtain rfl : M = i := by omega
            clear hlt
            have hcb := cnt_le us (a % 2000 + b % 2000) M
            have HTL := Lib.hid (tld_len (us := us) hM5 (a % 2000 + b % 2000))
            generalize cnt us (a % 2000 + b % 2000) M = K at *
            have hKb : K ≤ 60 := by omega
            go_wp2_with fail
            refine (same_refl HQ.out.1 HQ.out.2).mono ?_
            rintro e W7 ⟨rfl, hb7⟩
            have HJ7 := Lib.hid (HJ6.out.next hb7)
            have HQ7 := Lib.hid (HQ.out.2.below hb7)
            clear hb7
            go_wp2_with fail
            have hs1 := w_now HJ7.out.x
            rw [HRow.out.2.2.1] at hs1
            refine hs1.mono ?_
            rintro e W8 ⟨rfl, rfl⟩
            clear hs1
            go_wp2_with fail
            have hs1 := w_len HJ7.out.x
            rw [HRow.out.2.2.2.1] at hs1
            refine hs1.mono ?_
            rintro e W8 ⟨rfl, rfl⟩
            clear hs1
            go_wp2
            go_loopw [19] (fun i W => ∃ i' : Nat, i = .int .i64 i' ∧ i' ≤ K ∧ Below w.heap.size w W ∧ RdV W A6 K c6 (kvs (tld us M (a % 2000 + b % 2000)))) (fun i _ => K - (intOf i).toNat)
            case atStart => exact ⟨0, rfl, Nat.zero_le _, HJ7.out.bel, HQ7.out⟩
            case round =>
              obtain ⟨i, rfl, hi, hbw, hq⟩ := hrel
              have HBW := Lib.hid (And.intro hbw hq)
              by_cases hlt : i < K
              · have hit : i < (tld us M (a % 2000 + b % 2000)).length := by rw [HTL.out]; exact hlt
                obtain ⟨j, hj, hqj, hdj, htj⟩ := tld_at hM5 _ hit
                obtain ⟨gq, oq, rfl, hgq, cq⟩ := kvs_cell hq hit
                rw [hqj] at cq
                obtain ⟨g, o, rfl, cu, hu0, hu1⟩ := HCU.out _ hbw j hj
                have hlt' : (i : Int) < K := by omega
                have hjM : (j : Int) < M := by omega
                have g1 : decide ((j : Int) < 0) = false := decide_eq_false (by omega)
                have g2 : decide ((M : Int) ≤ (j : Int)) = false := decide_eq_false (by omega)
                have g2' : decide (M ≤ j) = false := decide_eq_false (by omega)
                have hjb : j ≤ 60 := by omega
                have hib : i ≤ 60 := by omega
                have hdo : dOf us j = 1 + us.getD j 0 % 3000 := rfl
                rw [hdo] at hdj
                cases i with
                | zero =>
                  rw [Nat.add_zero] at cq
                  generalize us.getD j 0 = u at *
                  have g3 : decide (a % 2000 + b % 2000 < 1 + u % 3000) = false := decide_eq_false (by omega)
                  clear hq hbw htj hqj hdo hit hdj
                  go_wp2_with fail
                  go_quiet (fail)
                  go_wp2
                  go_roundw
                  case rel => exact ⟨1, by go_num, by omega, below_on HBW.out.1 (Below.drewN_ _ nq), HBW.out.2.below (Below.drewN_ _ nq)⟩
                  case measure => simp [intOf]; omega
                | succ i0 =>
                  have hit0 : i0 < (tld us M (a % 2000 + b % 2000)).length := by omega
                  obtain ⟨j0, hj0, hqj0, hdj0, htj0⟩ := tld_at hM5 _ hit0
                  obtain ⟨gq', oq', hgg, hgq', cq0⟩ := kvs_cell hq hit0
                  injection hgg with hgg
                  injection hgg with hg1 hg2
                  subst hg1 hg2
                  rw [hqj0] at cq0
                  obtain ⟨g', o', hgg, cu0, hv0, hv1⟩ := HCU.out _ hbw j0 hj0
                  injection hgg with hgg
                  injection hgg with hg1 hg2
                  subst hg1 hg2
                  have hup := tld_up hM5 _ hit htj0 htj
                  have hdo0 : dOf us j0 = 1 + us.getD j0 0 % 3000 := rfl
                  rw [hdo, hdo0] at hup
                  have hj0M : (j0 : Int) < M := by omega
                  have hi0 : (i0 : Int) < K := by omega
                  have hi1 : (i0 : Int) + 1 < K := by omega
                  have hj0b : j0 ≤ 60 := by omega
                  have hi0b : i0 ≤ 60 := by omega
                  have HLE := Lib.hid hlt
                  generalize us.getD j 0 = u at *
                  generalize us.getD j0 0 = v at *
                  have g3 : decide (a % 2000 + b % 2000 < 1 + u % 3000) = false := decide_eq_false (by omega)
                  have g4 : decide (u % 3000 < v % 3000) = false := decide_eq_false (by omega)
                  have g5 : decide ((0 : Int) < (i0 : Int) + 1) = true := decide_eq_true (by omega)
                  have g5' : decide (0 < i0 + 1) = true := decide_eq_true (by omega)
                  clear hq hbw htj hqj hdo hit hdj htj0 hqj0 hdj0 hdo0 hup hit0 hlt
                  go_wp2_with fail
                  go_quiet (fail)
                  go_wp2
                  go_roundw
                  case rel => exact ⟨i0 + 2, by go_num, HLE.out, below_on HBW.out.1 (Below.drewN_ _ nq), HBW.out.2.below (Below.drewN_ _ nq)⟩
                  case measure => simp [intOf]; omega
              · obtain rfl : K = i := by omega
                clear hlt hbw hq
                go_wp2
                go_ret
                exact ⟨rfl, HBW.out.1⟩
end Go.Proofs.Ytainmpeiicinmaa.Wi
