/- The law of the tombs of all hosts. -/
import Derived.Test.YtopmfpdcdclffaaD18
import Derived.Test.YtopmfpdcdclffaaD9
import Derived.Test.YtopmfpdcdclffaaOpen
set_option linter.unusedSimpArgs false
set_option linter.unusedVariables false
namespace Go.Proofs.Ytopmfpdcdclffaa
open Go.RowKit Go.Shelf
theorem u16_bounds {x : Int} (h : (Lit.int .u16 x).wf = true) : 0 ≤ x ∧ x < 65536 := by
  simp [Lit.wf, IntKind.min, IntKind.max, IntKind.signed, IntKind.bits] at h
  omega
theorem words_at {w : World} {A : Option Addr} {n c : Nat} {xs : List Int} (h : Rd .u16 w A n c xs) (W : World) (hW : Below w.heap.size w W) (i : Nat) (hi : i < n) :
    ∃ (g o x : Nat), A = some ⟨g, o, none⟩ ∧ (∀ W', Below W.heap.size W W' → W'.cell? ⟨g, o + i, none⟩ = some (.int .u16 x)) ∧ x < 65536 := by
  obtain ⟨g, o, e, hg, hc⟩ := h.cell hi
  have hil : i < xs.length := by rw [h.1]; exact hi
  have hx := u16_bounds (h.2.2.2.2.1 xs[i] (List.getElem_mem _))
  have e1 : xs.getD i 0 = xs[i] := by rw [List.getD_eq_getElem?_getD, List.getElem?_eq_getElem hil]; rfl
  refine ⟨g, o, xs[i].toNat, e, fun W' hW' => ?_, by omega⟩
  rw [show ((xs[i].toNat : Nat) : Int) = xs[i] from by omega, (hW.trans (hW'.mono hW.size)).cell (p := ⟨g, o + i, none⟩) hg, hc, e1]
theorem lay_zz' (B : Bm) (A : Option Addr) (n c : Nat) : lay [Value.int .i64 0, Value.int .i64 0, Value.slice none 0 0] 0 (rvL B A n c) = rvL B A n c := rfl
/-- At the start. -/
theorem JR.start {w W : World} {p g s n : Nat} {pre suf : List Value} (hs : 1 ≤ s) (h : AllC W p (List.replicate n (Bm.new s 1))) (hk : Bk W 29 g (alR pre (List.replicate n ((Bm.new s 1, none, 0, 0) : RT)) suf)) (hpg : p ≠ g) (hpl : w.heap.size ≤ p) (hgl : w.heap.size ≤ g) (hb : Below w.heap.size w W) :
    JR w p g pre suf (List.replicate n (Bm.new s 1)) (List.replicate n ((Bm.new s 1, none, 0, 0) : RT)) W := by
  refine ⟨h, hk, by rw [List.length_replicate, List.length_replicate], fun i q hq => ?_, hpg, hpl, hgl, hb⟩
  obtain ⟨hi, hq⟩ := List.getElem?_eq_some_iff.1 hq
  rw [List.length_replicate] at hi
  rw [List.getElem_replicate] at hq
  subst hq
  refine ⟨by rw [List.getElem?_replicate, if_pos hi], ?_, fun h => absurd h (by show ¬ 0 < 0; omega)⟩
  have he : (Bm.new s 1).all true = [] := by simp [Bm.all, Bm.nums, Bm.new, Bm.cond]
  show RdV W none 0 0 (intV ((Bm.new s 1).all true))
  rw [he]
  exact RdV.nil W
set_option maxRecDepth 100000 in
set_option maxHeartbeats 16000000 in
theorem lawAll (n s : Nat) (A0 : Option Addr) (n0 c0 : Nat) (us : List Int) (w : World) (h : Rd .u16 w A0 n0 c0 us) (h1 : 1 ≤ n) (h8 : n ≤ 8) (hs1 : 1 ≤ s) (hs2 : s ≤ 64) :
    Calls Try.prog 5 #[.int .i64 n, .int .i64 s, .slice A0 n0 c0] w fun e w' => e = .returned (.bool true) ∧ Below w.heap.size w w' := by
  have hnc := h.2.1
  have hcm := h.2.2.1
  unfold maxLen at hcm
  have HL := Lib.hid (words_at h)
  clear h
  have g1 : ¬ (n : Int) < 1 := by omega
  have g2 : ¬ (8 : Int) < n := by omega
  have g3 : ¬ (s : Int) < 1 := by omega
  have g4 : ¬ (64 : Int) < s := by omega
  go_enter Try.func5, Try.ntmps5
  go_wp2_with fail
  refine (a_new n s w h1 h8 hs1 hs2).mono ?_
  rintro e w1 ⟨p, hp, rfl, ha, hb1⟩
  have HA1 := Lib.hid (And.intro ha (And.intro hb1 hp))
  clear ha hb1 hp
  go_wp2_with fail
  refine (a_no HA1.out.1 n (.inr (by rw [List.length_replicate]))).mono ?_
  rintro e w' ⟨rfl, rfl⟩
  go_wp2_with fail
  refine (a_no HA1.out.1 (-1) (.inl rfl)).mono ?_
  rintro e w' ⟨rfl, rfl⟩
  go_wp2_with fail
  refine (awake_any w1).mono ?_
  rintro e w2 ⟨rfl, hb2⟩
  have HA2 : Hid (AllC w2 p (List.replicate n (Bm.new s 1)) ∧ Below w.heap.size w w2 ∧ w.heap.size ≤ p ∧ p < w2.heap.size) := Lib.hid ⟨HA1.out.1.below hb2, HA1.out.2.1.trans (hb2.mono HA1.out.2.1.size), HA1.out.2.2, (HA1.out.1.below hb2).lt⟩
  clear hb2 HA1 g1 g2 g3 g4
  go_wp2
  go_loopw [9, 10] (fun v iv wr => ∃ (i : Nat) (A : Option Addr) (c : Nat), i ≤ n ∧ iv = .int .i64 i ∧ v = .slice A i c ∧ LstR 3 29 (w2.heap.size ≤ ·) wr A i c (flat rcl (List.replicate i ((Bm.new s 1, none, 0, 0) : RT))) ∧ Below w2.heap.size w2 wr) (fun _ iv _ => n - (intOf iv).toNat)
  case atStart => exact ⟨0, none, 0, Nat.zero_le _, rfl, rfl, LstR.nil _ _ _ _, Below.refl _ _⟩
  case round =>
    obtain ⟨i, A, c, hi, rfl, rfl, hl, hbl⟩ := hrel
    have HL1 := Lib.hid hl
    have HBL := Lib.hid hbl
    by_cases hlt : i < n
    · have hlt' : (i : Int) < n := by omega
      clear hl hbl
      go_wp2_with (first
        | (go_at_call 8; refine (rnew_any s _ hs1 hs2).mono ?_; rintro e w3 ⟨rfl, hb3⟩
           have hz := Bk.new w3 29 [.int .i64 0, .int .i64 0, .slice none 0 0]
           have HB3 := Lib.hid hb3
           clear hb3)
        | (with_reducible refine at_store 29 (.tmp 11) (.tmp 82) (by rfl) ?_; refine wpList_store_bk rowR rfl (.tmp 11) (.tmp 82) rfl w3.heap.size 0 rfl hz (rvL (Bm.new s 1) none 0 0) rfl rfl (by decide) (rvL_one _ _ _ _) ?_; rintro w4 hz4 hw4
           rw [lay_zz'] at hz4
           have hb34 : Below w3.heap.size w3 w4 := ((Below.refl _ _).alloc (Nat.le_refl _) _).trans (hw4.below (Nat.le_refl _) (by simp))
           have hbr4 : Below wr.heap.size wr w4 := HB3.out.trans (hb34.mono HB3.out.size)
           have hla := ((HL1.out.below hbr4).alloc (.cells (rvL (Bm.new s 1) none 0 0).toArray 29))
           have hu := RdR.one w4 29 (rvL (Bm.new s 1) none 0 0) (rvL_one _ _ _ _)
           have HB4 := Lib.hid hbr4
           clear hb34 hbr4 hw4 hz)
        | (with_reducible refine at_load 29 (.tmp 11) (by rfl) ?_; refine wpList_load_bk rowR rfl (.tmp 11) rfl w3.heap.size 0 rfl hz4 (rvL (Bm.new s 1) none 0 0) rfl rfl ?_)
        | (refine wpList_build_row eltR rfl (.tmp 85) rfl (xs := rvL (Bm.new s 1) none 0 0) rfl rfl ?_)
        | (at_builtin
           refine wpList_append_lstR eltR rfl (.tmp 84) (.tmp 86) rfl rfl hla rfl hu (by omega) ?_
           rintro v w5 hap
           obtain ⟨A', n', c', rfl, hl'⟩ := hap.ex
           have HAP := Lib.hid (And.intro hap.st hl')
           clear hap hl' hla hu hz4))
      have hn' : n' = i + 1 := by
        have := HAP.out.2.1
        have h3 : (rvL (Bm.new s 1) none 0 0).length = 3 := rfl
        have h3' : zR.length = 3 := rfl
        rw [List.length_append, flat_len rcl_len, List.length_replicate, h3, h3'] at this
        omega
      subst hn'
      have HF : Hid (LstR 3 29 (w2.heap.size ≤ ·) w5 A' (i + 1) c' (flat rcl (List.replicate (i + 1) ((Bm.new s 1, none, 0, 0) : RT))) ∧ Below w2.heap.size w2 w5) := Lib.hid (by
        obtain ⟨hst, hl'⟩ := HAP.out
        have hs0 := HBL.out.size
        have hs4 := HB4.out.size
        refine ⟨?_, ((HBL.out.trans (HB4.out.mono hs0)).trans ((Below.refl _ _).alloc (by omega) _)).trans (hst.below (by rw [World.size_alloc]; omega) (fun k hk => hk))⟩
        rw [List.replicate_succ', flat_app, flat_one]
        exact hl'.mono fun k hk => by
          rcases hk with hk | hk
          · exact hk
          · rw [World.size_alloc] at hk; omega)
      go_roundw
      case rel => exact ⟨i + 1, A', c', by omega, by go_num, rfl, HF.out⟩
      case measure => simp [intOf]; omega
    · obtain rfl : i = n := by omega
      obtain ⟨g, pre, suf, rfl, hg, hk⟩ := lst_whole hl (by omega)
      have hcc := hl.2.1
      have hcm2 := hl.2.2.1
      unfold maxLen at hcm2
      have HJ0 : Hid (JR w p g pre suf (List.replicate i (Bm.new s 1)) (List.replicate i ((Bm.new s 1, none, 0, 0) : RT)) wr) := Lib.hid (by
        obtain ⟨a1, a2, a3, a4⟩ := HA2.out
        have := a2.size
        have hg' : w2.heap.size ≤ g := hg
        exact JR.start hs1 (a1.below hbl) hk (by omega) a3 (by omega) (a2.trans (hbl.mono a2.size)))
      have HAL0 : Hid (∀ (j : Nat) (B : Bm), (List.replicate i (Bm.new s 1))[j]? = some B → B.tk ∧ B.base ≤ 1 + 64 * 0 ∧ B.size = s) := Lib.hid (fun j B hj => by
        obtain ⟨hj, hB⟩ := List.getElem?_eq_some_iff.1 hj
        rw [List.getElem_replicate] at hB
        subst hB
        exact ⟨Bm.new_tk hs1 (by omega), Nat.le_refl _, rfl⟩)
      have HLN0 : Hid ((List.replicate i (Bm.new s 1)).length = i) := Lib.hid (List.length_replicate)
      clear hl hbl HL1 HBL HA2 hg hk
      obtain ⟨Bs0, hBs0⟩ : ∃ Bs0, Bs0 = List.replicate i (Bm.new s 1) := ⟨_, rfl⟩
      rw [← hBs0] at HJ0 HAL0 HLN0
      obtain ⟨Rs0, hRs0⟩ : ∃ Rs0, Rs0 = (List.replicate i ((Bm.new s 1, none, 0, 0) : RT)) := ⟨_, rfl⟩
      rw [← hRs0] at HJ0
      clear hBs0 hRs0
      obtain ⟨n, hn⟩ : ∃ n, n = i := ⟨_, rfl⟩
      subst hn
      go_wp2
      go_loopw [13] (fun iv wr => ∃ (k : Nat) (Bs : List Bm) (Rs : List RT), k ≤ n0 ∧ k ≤ 60 ∧ iv = .int .i64 k ∧ JR w p g pre suf Bs Rs wr ∧ (∀ (j : Nat) (B : Bm), Bs[j]? = some B → B.tk ∧ B.base ≤ 1 + 64 * k ∧ B.size = s) ∧ Bs.length = n) (fun iv _ => n0 + 1 - (intOf iv).toNat)
      case atStart => exact ⟨0, Bs0, Rs0, Nat.zero_le _, by omega, rfl, HJ0.out, HAL0.out, HLN0.out⟩
      case round =>
        clear HJ0 HAL0 HLN0
        obtain ⟨k, Bs, Rs, hkn, hk60, rfl, hJ, hal, hln⟩ := hrel
        have HJ := Lib.hid hJ
        have HAL := Lib.hid hal
        have HLN := Lib.hid hln
        clear hJ hal hln
        by_cases hc : k < n0 ∧ k < 60
        · obtain ⟨hlt, h60⟩ := hc
          have h60' : (k : Int) < 60 := by omega
          have hlt' : (k : Int) < n0 := by omega
          obtain ⟨gl, o, x, hA, hcell, hx⟩ := HL.out _ HJ.out.bel k hlt
          obtain rfl : A0 = some ⟨gl, o, none⟩ := hA
          have q0 := fun q => hcell _ (Below.drewN_ wr q)
          have k1 : IntKind.i64.wrap (x : Int) = x := by rw [IntKind.wrap_i64]; omega
          have hz0 : (n : Int) ≠ 0 := by omega
          clear hcell
          go_wp2
          go_quiet (fail)
          have hm1 : x % n < n := Nat.mod_lt _ (by omega)
          obtain ⟨i, hi⟩ : ∃ i : Nat, i = x % n := ⟨_, rfl⟩
          obtain ⟨y, hy⟩ : ∃ y : Int, y = 1 + (x : Int) / 16 % 80 := ⟨_, rfl⟩
          rw [show (x : Int) % (n : Int) = (i : Int) from by rw [hi]; exact (Int.natCast_emod x n).symm, ← hy]
          have hin : i < n := by omega
          clear hi hy hm1 q0 k1 hz0
          have HJq := Lib.hid (HJ.out.next (Below.drewN_ wr nq))
          clear HJ
          generalize wr.drewN nq = wq at *
          have hbl : i < Bs.length := by have := HLN.out; omega
          have hrl : i < Rs.length := by have := HJq.out.ln; omega
          obtain ⟨⟨B, Aq, nq', cq⟩, hq⟩ : ∃ q, Rs[i]? = some q := ⟨_, List.getElem?_eq_getElem hrl⟩
          have hBi : Bs[i]? = some B := (HJq.out.eq i _ hq).1
          obtain ⟨P, hPp, hPo, hbm, hall⟩ := HJq.out.al.at hBi
          obtain ⟨htk, htb, hts⟩ := HAL.out i B hBi
          have HTK := Lib.hid htk
          have hcl := t_close hbm htk y
          rw [hPp, hPo] at hcl
          have HCL := Lib.hid hcl
          have HSTEP : Hid (∀ w3, Bd P (B.close y) wq w3 → JM w p g pre suf i (B.close y) Bs Rs w3) := Lib.hid (fun w3 hd => HJq.out.turn (hall w3 _ hd) (hPp ▸ hd.st))
          have HNB : Hid (∀ (j : Nat) (C : Bm), (Bs.set i (B.close y))[j]? = some C → C.tk ∧ C.base ≤ 1 + 64 * (k + 1) ∧ C.size = s) := Lib.hid (fun j C hC => by
            rw [List.getElem?_set] at hC
            by_cases hij : i = j
            · subst hij
              rw [if_pos rfl, if_pos hbl] at hC
              cases hC
              obtain ⟨b1, b2, b3, b4⟩ := htk.close y
              exact ⟨b1, by omega, by omega⟩
            · rw [if_neg hij] at hC
              obtain ⟨b1, b2, b3⟩ := HAL.out j C hC
              exact ⟨b1, by omega, b3⟩)
          have HQI := Lib.hid hq
          have hin' : (i : Int) < n := by omega
          clear hcl hall hbm hPp hPo hq hBi htk htb hts
          go_wp2_with fail
          refine (a_of HJq.out.al hbl).mono ?_
          rintro e w' ⟨rfl, rfl⟩
          go_wp2_with fail
          refine HCL.out.mono ?_
          rintro e w3 ⟨rfl, hd⟩
          have HM3 := Lib.hid (HSTEP.out w3 hd)
          clear hd
          obtain ⟨B', hB'⟩ : ∃ B', B' = B.close y := ⟨_, rfl⟩
          have HBE := Lib.hid hB'
          rw [← hB'] at HM3 HNB
          clear hB' HSTEP HCL HJq
          go_wp2_with (first
            | ((with_reducible refine at_load 29 (.tmp 127) (by rfl) ?_); refine wpList_load_bk rowR rfl (.tmp 127) rfl g (pre.length + i * 3) rfl HM3.out.rs (rvL B Aq nq' cq) rfl (alR_row HQI.out) ?_)
            | (go_at_call 12; refine (rclose_any ((HM3.out.eq i _ HQI.out).2.1) HTK.out y).mono ?_; rintro e w4 ⟨A2, n2, c2, rfl, hr2⟩
               rw [← HBE.out] at hr2
               have hJ1 := HM3.out.next hr2.bel
               have hz := Bk.new w4 29 [.int .i64 0, .int .i64 0, .slice none 0 0]
               have hx1 := hJ1.rs.alloc (.cells #[.int .i64 0, .int .i64 0, .slice none 0 0] 29)
               have hgv : g < w4.heap.size := hJ1.rs.lt
               have HR2 := Lib.hid hr2
               clear hr2 hJ1)
            | (with_reducible refine at_store 29 (.tmp 19) (.tmp 131) (by rfl) ?_; refine wpList_store_bk rowR rfl (.tmp 19) (.tmp 131) rfl w4.heap.size 0 rfl hz (rvL (B.close y) A2 n2 c2) rfl rfl (by decide) (rvL_one _ _ _ _) ?_; rintro w5 hk2 hw2
               rw [lay_zz'] at hk2
               have hx2 := hx1.wr hw2 (by omega))
            | (with_reducible refine at_load 29 (.tmp 19) (by rfl) ?_; refine wpList_load_bk rowR rfl (.tmp 19) rfl w4.heap.size 0 rfl hk2 (rvL (B.close y) A2 n2 c2) rfl rfl ?_)
            | ((with_reducible refine at_store 29 (.tmp 137) (.tmp 136) (by rfl) ?_); refine wpList_store_bk rowR rfl (.tmp 137) (.tmp 136) rfl g (pre.length + i * 3) rfl hx2 (rvL (B.close y) A2 n2 c2) rfl rfl (by rw [alR_len]; omega) (rvL_one _ _ _ _) ?_; rintro w6 hk3 hw3
               have hb2 : Below w4.heap.size w4 w5 := ((Below.refl _ _).alloc (Nat.le_refl _) _).trans (hw2.below (Nat.le_refl _) (by simp))
               have JF := Lib.hid (HM3.out.ref HQI.out HR2.out hb2 (by rw [HBE.out]; exact hk3) hw3)
               clear hk2 hw2 hx2 hx1 hz hb2 hk3 hw3))
          go_roundw
          case rel => exact ⟨k + 1, _, _, by omega, by omega, by go_num, JF.out, HNB.out, by rw [List.length_set]; exact HLN.out⟩
          case measure => simp [intOf]; omega
        · have hd : k < n0 ∧ (60 : Int) ≤ k ∨ n0 ≤ k := by omega
          have HEND : Hid (k ≤ 60) := Lib.hid hk60
          rcases hd with ⟨hlt, h60⟩ | hge
          · have hlt' : (k : Int) < n0 := by omega
            clear HEND
            go_wp2
            go_loopw [22, 23] (fun sv iv wx => ∃ i : Nat, i ≤ n ∧ iv = .int .i64 i ∧ sv = .int .i64 (sumC Bs i) ∧ JR w p g pre suf Bs Rs wx) (fun _ iv _ => n - (intOf iv).toNat)
            case atStart => exact ⟨0, Nat.zero_le _, rfl, rfl, HJ.out⟩
            case round =>
              clear HJ
              obtain ⟨i, hi, rfl, rfl, hJ⟩ := hrel
              have HJ := Lib.hid hJ
              have hle := sumC_le hJ.al.oks
              have hl1 := hle (i + 1)
              have hl0 := hle i
              clear hJ hle
              by_cases hli : i < n
              · have hli' : (i : Int) < n := by omega
                have hrl : i < Rs.length := by have := HJ.out.ln; have := HLN.out; omega
                obtain ⟨⟨B, Aq, nq', cq⟩, hq⟩ : ∃ q, Rs[i]? = some q := ⟨_, List.getElem?_eq_getElem hrl⟩
                have HBI : Hid (Bs[i]? = some B) := Lib.hid (HJ.out.eq i _ hq).1
                have HSU := Lib.hid (sumC_succ HBI.out)
                have hnl : nq' = (B.all true).length := (HJ.out.eq i _ hq).2.1.len
                have hl3 : sumC Bs i + nq' ≤ 2304 := by rw [hnl]; have := HSU.out; omega
                have HNL := Lib.hid hnl
                have HQI := Lib.hid hq
                clear hq hnl hl1 hl0
                go_wp2
                refine wp_region_E Ext (by kernel_rfl) (fun wd hbd hsz => ?_)
                have HJD := Lib.hid (HJ.out.next hbd)
                obtain ⟨P, hPp, hPo, hbm, _⟩ := HJD.out.al.at HBI.out
                have hsm := same_true (x := 3) hbm (HAL.out i B HBI.out).1 (by have := (HAL.out i B HBI.out).2; omega) (HJD.out.eq i (B, Aq, nq', cq) HQI.out).2.1
                rw [hPp, hPo] at hsm
                have HSM := Lib.hid hsm
                clear hPp hPo hbm hsm hsz
                (refine takeE Ext.tr 0 (by simp only [List.getElem?_toArray, List.getElem?_cons_succ, List.getElem?_cons_zero]; rfl) (by kernel_rfl) (by kernel_rfl) (by kernel_rfl) (by exact fun _ _ _ h => h) (by first | (refine Or.inl ⟨by rfl, ?_⟩; intro W hW; go_simp; try with_reducible rfl) | exact Or.inr ⟨by rfl, rfl⟩) ?_; try simp only [Act.put, List.setIfInBounds_toArray, List.set_cons_zero, List.set_cons_succ])
                (refine takeE Ext.tr 1 (by simp only [List.getElem?_toArray, List.getElem?_cons_succ, List.getElem?_cons_zero]; rfl) (by kernel_rfl) (by kernel_rfl) (by kernel_rfl) (by exact fun _ _ _ h => h) (by first | (refine Or.inl ⟨by rfl, ?_⟩; intro W hW; go_simp; try with_reducible rfl) | exact Or.inr ⟨by rfl, rfl⟩) ?_; try simp only [Act.put, List.setIfInBounds_toArray, List.set_cons_zero, List.set_cons_succ])
                refine wpAnyE_one (i := 2) (by kernel_rfl) (by simp only [List.getElem?_toArray, List.getElem?_cons_succ, List.getElem?_cons_zero]; rfl) (fun K hK => ?_)
                go_simp
                refine (a_of HJD.out.al (by have := HLN.out; omega)).mono ?_
                rintro e v1 ⟨rfl, rfl⟩
                refine hK.out _ _ (Ext.refl _) ?_
                clear hK K
                try simp only [Act.put, List.setIfInBounds_toArray, List.set_cons_zero, List.set_cons_succ]
                (refine takeE Ext.tr 3 (by simp only [List.getElem?_toArray, List.getElem?_cons_succ, List.getElem?_cons_zero]; rfl) (by kernel_rfl) (by kernel_rfl) (by kernel_rfl) (by exact fun _ _ _ h => h) (by first | (refine Or.inl ⟨by rfl, ?_⟩; intro W hW; go_simp; try with_reducible rfl) | exact Or.inr ⟨by rfl, rfl⟩) ?_; try simp only [Act.put, List.setIfInBounds_toArray, List.set_cons_zero, List.set_cons_succ])
                (refine takeE Ext.tr 4 (by simp only [List.getElem?_toArray, List.getElem?_cons_succ, List.getElem?_cons_zero]; rfl) (by kernel_rfl) (by kernel_rfl) (by kernel_rfl) (by exact fun _ _ _ h => h) (by first | (refine Or.inl ⟨by rfl, ?_⟩; intro W hW; go_simp; try with_reducible rfl) | exact Or.inr ⟨by rfl, rfl⟩) ?_; try simp only [Act.put, List.setIfInBounds_toArray, List.set_cons_zero, List.set_cons_succ])
                (refine takeE Ext.tr 5 (by simp only [List.getElem?_toArray, List.getElem?_cons_succ, List.getElem?_cons_zero]; rfl) (by kernel_rfl) (by kernel_rfl) (by kernel_rfl) (by exact fun _ _ _ h => h) (by first | (refine Or.inl ⟨by rfl, ?_⟩; intro W hW; go_simp; try with_reducible rfl) | exact Or.inr ⟨by rfl, rfl⟩) ?_; try simp only [Act.put, List.setIfInBounds_toArray, List.set_cons_zero, List.set_cons_succ])
                (refine takeE Ext.tr 6 (by simp only [List.getElem?_toArray, List.getElem?_cons_succ, List.getElem?_cons_zero]; rfl) (by kernel_rfl) (by kernel_rfl) (by kernel_rfl) (by exact fun _ _ _ h => h) (by first | (refine Or.inl ⟨by rfl, ?_⟩; intro W hW; go_simp; try with_reducible rfl) | exact Or.inr ⟨by rfl, rfl⟩) ?_; try simp only [Act.put, List.setIfInBounds_toArray, List.set_cons_zero, List.set_cons_succ])
                (refine takeE Ext.tr 8 (by simp only [List.getElem?_toArray, List.getElem?_cons_succ, List.getElem?_cons_zero]; rfl) (by kernel_rfl) (by kernel_rfl) (by kernel_rfl) (by exact fun _ _ _ h => h) (by first | (refine Or.inl ⟨by rfl, ?_⟩; intro W hW; go_simp; try with_reducible rfl) | exact Or.inr ⟨by rfl, rfl⟩) ?_; try simp only [Act.put, List.setIfInBounds_toArray, List.set_cons_zero, List.set_cons_succ])
                (refine takeE Ext.tr 9 (by simp only [List.getElem?_toArray, List.getElem?_cons_succ, List.getElem?_cons_zero]; rfl) (by kernel_rfl) (by kernel_rfl) (by kernel_rfl) (by exact fun _ _ _ h => h) (by first | (refine Or.inl ⟨by rfl, ?_⟩; intro W hW; go_simp; try with_reducible rfl) | exact Or.inr ⟨by rfl, rfl⟩) ?_; try simp only [Act.put, List.setIfInBounds_toArray, List.set_cons_zero, List.set_cons_succ])
                (refine takeE Ext.tr 10 (by simp only [List.getElem?_toArray, List.getElem?_cons_succ, List.getElem?_cons_zero]; rfl) (by kernel_rfl) (by kernel_rfl) (by kernel_rfl) (by exact fun _ _ _ h => h) (by first | (refine Or.inl ⟨by rfl, ?_⟩; intro W hW; go_simp; try with_reducible rfl) | exact Or.inr ⟨by rfl, rfl⟩) ?_; try simp only [Act.put, List.setIfInBounds_toArray, List.set_cons_zero, List.set_cons_succ])
                (refine takeE Ext.tr 11 (by simp only [List.getElem?_toArray, List.getElem?_cons_succ, List.getElem?_cons_zero]; rfl) (by kernel_rfl) (by kernel_rfl) (by kernel_rfl) (by exact fun _ _ _ h => h) (by first | (refine Or.inl ⟨by rfl, ?_⟩; intro W hW; exact exec_load_bk rowR (.tmp 161) rfl g (pre.length + i * 3) rfl (HJD.out.rs.below hW) (rvL B Aq nq' cq) rfl (alR_row HQI.out)) | exact Or.inr ⟨by rfl, rfl⟩) ?_; try simp only [Act.put, List.setIfInBounds_toArray, List.set_cons_zero, List.set_cons_succ])
                refine wpAnyE_one (i := 7) (by kernel_rfl) (by simp only [List.getElem?_toArray, List.getElem?_cons_succ, List.getElem?_cons_zero]; rfl) (fun K hK => ?_)
                go_simp
                refine (a_of HJD.out.al (by have := HLN.out; omega)).mono ?_
                rintro e v2 ⟨rfl, rfl⟩
                refine hK.out _ _ (Ext.refl _) ?_
                clear hK K
                try simp only [Act.put, List.setIfInBounds_toArray, List.set_cons_zero, List.set_cons_succ]
                refine wpAnyE_one (i := 12) (by kernel_rfl) (by simp only [List.getElem?_toArray, List.getElem?_cons_succ, List.getElem?_cons_zero]; rfl) (fun K hK => ?_)
                go_simp
                refine HSM.out.mono ?_
                rintro e v3 ⟨rfl, hb3⟩
                have HJ3 := Lib.hid (HJD.out.next hb3)
                refine hK.out _ _ hb3 ?_
                clear hK K
                try simp only [Act.put, List.setIfInBounds_toArray, List.set_cons_zero, List.set_cons_succ]
                (refine takeE Ext.tr 13 (by simp only [List.getElem?_toArray, List.getElem?_cons_succ, List.getElem?_cons_zero]; rfl) (by kernel_rfl) (by kernel_rfl) (by kernel_rfl) (by exact fun _ _ _ h => h) (by first | (refine Or.inl ⟨by rfl, ?_⟩; intro W hW; go_simp; try with_reducible rfl) | exact Or.inr ⟨by rfl, rfl⟩) ?_; try simp only [Act.put, List.setIfInBounds_toArray, List.set_cons_zero, List.set_cons_succ])
                (refine takeE Ext.tr 14 (by simp only [List.getElem?_toArray, List.getElem?_cons_succ, List.getElem?_cons_zero]; rfl) (by kernel_rfl) (by kernel_rfl) (by kernel_rfl) (by exact fun _ _ _ h => h) (by first | (refine Or.inl ⟨by rfl, ?_⟩; intro W hW; go_simp; try with_reducible rfl) | exact Or.inr ⟨by rfl, rfl⟩) ?_; try simp only [Act.put, List.setIfInBounds_toArray, List.set_cons_zero, List.set_cons_succ])
                refine wpAnyE_done (by kernel_rfl) ?_ _
                skip
                have c3 := HJ3.out.rs.cell _ (alR_cell HQI.out)
                clear hb3 hbd
                go_wp2
                go_roundw
                case rel => exact ⟨i + 1, by omega, by go_num, by rw [HSU.out, ← HNL.out]; go_num, HJ3.out⟩
                case measure => simp [intOf]; omega
              · obtain rfl : i = n := by omega
                have HSE : Hid (sumC Bs Bs.length = sumC Bs i) := Lib.hid (by rw [HLN.out])
                go_wp2_with fail
                refine (a_count HJ.out.al).mono ?_
                rintro e w9 ⟨rfl, hb9⟩
                rw [HSE.out]
                have HB9 := Lib.hid (HJ.out.bel.trans (hb9.mono HJ.out.bel.size))
                clear hb9
                go_wp2
                go_ret
                exact ⟨rfl, HB9.out⟩
          · obtain rfl : k = n0 := by omega
            clear HEND
            go_wp2
            go_loopw [22, 23] (fun sv iv wx => ∃ i : Nat, i ≤ n ∧ iv = .int .i64 i ∧ sv = .int .i64 (sumC Bs i) ∧ JR w p g pre suf Bs Rs wx) (fun _ iv _ => n - (intOf iv).toNat)
            case atStart => exact ⟨0, Nat.zero_le _, rfl, rfl, HJ.out⟩
            case round =>
              clear HJ
              obtain ⟨i, hi, rfl, rfl, hJ⟩ := hrel
              have HJ := Lib.hid hJ
              have hle := sumC_le hJ.al.oks
              have hl1 := hle (i + 1)
              have hl0 := hle i
              clear hJ hle
              by_cases hli : i < n
              · have hli' : (i : Int) < n := by omega
                have hrl : i < Rs.length := by have := HJ.out.ln; have := HLN.out; omega
                obtain ⟨⟨B, Aq, nq', cq⟩, hq⟩ : ∃ q, Rs[i]? = some q := ⟨_, List.getElem?_eq_getElem hrl⟩
                have HBI : Hid (Bs[i]? = some B) := Lib.hid (HJ.out.eq i _ hq).1
                have HSU := Lib.hid (sumC_succ HBI.out)
                have hnl : nq' = (B.all true).length := (HJ.out.eq i _ hq).2.1.len
                have hl3 : sumC Bs i + nq' ≤ 2304 := by rw [hnl]; have := HSU.out; omega
                have HNL := Lib.hid hnl
                have HQI := Lib.hid hq
                clear hq hnl hl1 hl0
                go_wp2
                refine wp_region_E Ext (by kernel_rfl) (fun wd hbd hsz => ?_)
                have HJD := Lib.hid (HJ.out.next hbd)
                obtain ⟨P, hPp, hPo, hbm, _⟩ := HJD.out.al.at HBI.out
                have hsm := same_true (x := 3) hbm (HAL.out i B HBI.out).1 (by have := (HAL.out i B HBI.out).2; omega) (HJD.out.eq i (B, Aq, nq', cq) HQI.out).2.1
                rw [hPp, hPo] at hsm
                have HSM := Lib.hid hsm
                clear hPp hPo hbm hsm hsz
                (refine takeE Ext.tr 0 (by simp only [List.getElem?_toArray, List.getElem?_cons_succ, List.getElem?_cons_zero]; rfl) (by kernel_rfl) (by kernel_rfl) (by kernel_rfl) (by exact fun _ _ _ h => h) (by first | (refine Or.inl ⟨by rfl, ?_⟩; intro W hW; go_simp; try with_reducible rfl) | exact Or.inr ⟨by rfl, rfl⟩) ?_; try simp only [Act.put, List.setIfInBounds_toArray, List.set_cons_zero, List.set_cons_succ])
                (refine takeE Ext.tr 1 (by simp only [List.getElem?_toArray, List.getElem?_cons_succ, List.getElem?_cons_zero]; rfl) (by kernel_rfl) (by kernel_rfl) (by kernel_rfl) (by exact fun _ _ _ h => h) (by first | (refine Or.inl ⟨by rfl, ?_⟩; intro W hW; go_simp; try with_reducible rfl) | exact Or.inr ⟨by rfl, rfl⟩) ?_; try simp only [Act.put, List.setIfInBounds_toArray, List.set_cons_zero, List.set_cons_succ])
                refine wpAnyE_one (i := 2) (by kernel_rfl) (by simp only [List.getElem?_toArray, List.getElem?_cons_succ, List.getElem?_cons_zero]; rfl) (fun K hK => ?_)
                go_simp
                refine (a_of HJD.out.al (by have := HLN.out; omega)).mono ?_
                rintro e v1 ⟨rfl, rfl⟩
                refine hK.out _ _ (Ext.refl _) ?_
                clear hK K
                try simp only [Act.put, List.setIfInBounds_toArray, List.set_cons_zero, List.set_cons_succ]
                (refine takeE Ext.tr 3 (by simp only [List.getElem?_toArray, List.getElem?_cons_succ, List.getElem?_cons_zero]; rfl) (by kernel_rfl) (by kernel_rfl) (by kernel_rfl) (by exact fun _ _ _ h => h) (by first | (refine Or.inl ⟨by rfl, ?_⟩; intro W hW; go_simp; try with_reducible rfl) | exact Or.inr ⟨by rfl, rfl⟩) ?_; try simp only [Act.put, List.setIfInBounds_toArray, List.set_cons_zero, List.set_cons_succ])
                (refine takeE Ext.tr 4 (by simp only [List.getElem?_toArray, List.getElem?_cons_succ, List.getElem?_cons_zero]; rfl) (by kernel_rfl) (by kernel_rfl) (by kernel_rfl) (by exact fun _ _ _ h => h) (by first | (refine Or.inl ⟨by rfl, ?_⟩; intro W hW; go_simp; try with_reducible rfl) | exact Or.inr ⟨by rfl, rfl⟩) ?_; try simp only [Act.put, List.setIfInBounds_toArray, List.set_cons_zero, List.set_cons_succ])
                (refine takeE Ext.tr 5 (by simp only [List.getElem?_toArray, List.getElem?_cons_succ, List.getElem?_cons_zero]; rfl) (by kernel_rfl) (by kernel_rfl) (by kernel_rfl) (by exact fun _ _ _ h => h) (by first | (refine Or.inl ⟨by rfl, ?_⟩; intro W hW; go_simp; try with_reducible rfl) | exact Or.inr ⟨by rfl, rfl⟩) ?_; try simp only [Act.put, List.setIfInBounds_toArray, List.set_cons_zero, List.set_cons_succ])
                (refine takeE Ext.tr 6 (by simp only [List.getElem?_toArray, List.getElem?_cons_succ, List.getElem?_cons_zero]; rfl) (by kernel_rfl) (by kernel_rfl) (by kernel_rfl) (by exact fun _ _ _ h => h) (by first | (refine Or.inl ⟨by rfl, ?_⟩; intro W hW; go_simp; try with_reducible rfl) | exact Or.inr ⟨by rfl, rfl⟩) ?_; try simp only [Act.put, List.setIfInBounds_toArray, List.set_cons_zero, List.set_cons_succ])
                (refine takeE Ext.tr 8 (by simp only [List.getElem?_toArray, List.getElem?_cons_succ, List.getElem?_cons_zero]; rfl) (by kernel_rfl) (by kernel_rfl) (by kernel_rfl) (by exact fun _ _ _ h => h) (by first | (refine Or.inl ⟨by rfl, ?_⟩; intro W hW; go_simp; try with_reducible rfl) | exact Or.inr ⟨by rfl, rfl⟩) ?_; try simp only [Act.put, List.setIfInBounds_toArray, List.set_cons_zero, List.set_cons_succ])
                (refine takeE Ext.tr 9 (by simp only [List.getElem?_toArray, List.getElem?_cons_succ, List.getElem?_cons_zero]; rfl) (by kernel_rfl) (by kernel_rfl) (by kernel_rfl) (by exact fun _ _ _ h => h) (by first | (refine Or.inl ⟨by rfl, ?_⟩; intro W hW; go_simp; try with_reducible rfl) | exact Or.inr ⟨by rfl, rfl⟩) ?_; try simp only [Act.put, List.setIfInBounds_toArray, List.set_cons_zero, List.set_cons_succ])
                (refine takeE Ext.tr 10 (by simp only [List.getElem?_toArray, List.getElem?_cons_succ, List.getElem?_cons_zero]; rfl) (by kernel_rfl) (by kernel_rfl) (by kernel_rfl) (by exact fun _ _ _ h => h) (by first | (refine Or.inl ⟨by rfl, ?_⟩; intro W hW; go_simp; try with_reducible rfl) | exact Or.inr ⟨by rfl, rfl⟩) ?_; try simp only [Act.put, List.setIfInBounds_toArray, List.set_cons_zero, List.set_cons_succ])
                (refine takeE Ext.tr 11 (by simp only [List.getElem?_toArray, List.getElem?_cons_succ, List.getElem?_cons_zero]; rfl) (by kernel_rfl) (by kernel_rfl) (by kernel_rfl) (by exact fun _ _ _ h => h) (by first | (refine Or.inl ⟨by rfl, ?_⟩; intro W hW; exact exec_load_bk rowR (.tmp 161) rfl g (pre.length + i * 3) rfl (HJD.out.rs.below hW) (rvL B Aq nq' cq) rfl (alR_row HQI.out)) | exact Or.inr ⟨by rfl, rfl⟩) ?_; try simp only [Act.put, List.setIfInBounds_toArray, List.set_cons_zero, List.set_cons_succ])
                refine wpAnyE_one (i := 7) (by kernel_rfl) (by simp only [List.getElem?_toArray, List.getElem?_cons_succ, List.getElem?_cons_zero]; rfl) (fun K hK => ?_)
                go_simp
                refine (a_of HJD.out.al (by have := HLN.out; omega)).mono ?_
                rintro e v2 ⟨rfl, rfl⟩
                refine hK.out _ _ (Ext.refl _) ?_
                clear hK K
                try simp only [Act.put, List.setIfInBounds_toArray, List.set_cons_zero, List.set_cons_succ]
                refine wpAnyE_one (i := 12) (by kernel_rfl) (by simp only [List.getElem?_toArray, List.getElem?_cons_succ, List.getElem?_cons_zero]; rfl) (fun K hK => ?_)
                go_simp
                refine HSM.out.mono ?_
                rintro e v3 ⟨rfl, hb3⟩
                have HJ3 := Lib.hid (HJD.out.next hb3)
                refine hK.out _ _ hb3 ?_
                clear hK K
                try simp only [Act.put, List.setIfInBounds_toArray, List.set_cons_zero, List.set_cons_succ]
                (refine takeE Ext.tr 13 (by simp only [List.getElem?_toArray, List.getElem?_cons_succ, List.getElem?_cons_zero]; rfl) (by kernel_rfl) (by kernel_rfl) (by kernel_rfl) (by exact fun _ _ _ h => h) (by first | (refine Or.inl ⟨by rfl, ?_⟩; intro W hW; go_simp; try with_reducible rfl) | exact Or.inr ⟨by rfl, rfl⟩) ?_; try simp only [Act.put, List.setIfInBounds_toArray, List.set_cons_zero, List.set_cons_succ])
                (refine takeE Ext.tr 14 (by simp only [List.getElem?_toArray, List.getElem?_cons_succ, List.getElem?_cons_zero]; rfl) (by kernel_rfl) (by kernel_rfl) (by kernel_rfl) (by exact fun _ _ _ h => h) (by first | (refine Or.inl ⟨by rfl, ?_⟩; intro W hW; go_simp; try with_reducible rfl) | exact Or.inr ⟨by rfl, rfl⟩) ?_; try simp only [Act.put, List.setIfInBounds_toArray, List.set_cons_zero, List.set_cons_succ])
                refine wpAnyE_done (by kernel_rfl) ?_ _
                skip
                have c3 := HJ3.out.rs.cell _ (alR_cell HQI.out)
                clear hb3 hbd
                go_wp2
                go_roundw
                case rel => exact ⟨i + 1, by omega, by go_num, by rw [HSU.out, ← HNL.out]; go_num, HJ3.out⟩
                case measure => simp [intOf]; omega
              · obtain rfl : i = n := by omega
                have HSE : Hid (sumC Bs Bs.length = sumC Bs i) := Lib.hid (by rw [HLN.out])
                go_wp2_with fail
                refine (a_count HJ.out.al).mono ?_
                rintro e w9 ⟨rfl, hb9⟩
                rw [HSE.out]
                have HB9 := Lib.hid (HJ.out.bel.trans (hb9.mono HJ.out.bel.size))
                clear hb9
                go_wp2
                go_ret
                exact ⟨rfl, HB9.out⟩
set_option maxRecDepth 100000 in
set_option maxHeartbeats 4000000 in
theorem lawAllI (n s : Int) (A0 : Option Addr) (n0 c0 : Nat) (us : List Int) (w : World) (h : Rd .u16 w A0 n0 c0 us) :
    Calls Try.prog 5 #[.int .i64 n, .int .i64 s, .slice A0 n0 c0] w fun e w' => e = .returned (.bool true) ∧ Below w.heap.size w w' := by
  by_cases hv : 1 ≤ n ∧ n ≤ 8 ∧ 1 ≤ s ∧ s ≤ 64
  · obtain ⟨h1, h2, h3, h4⟩ := hv
    have := lawAll n.toNat s.toNat A0 n0 c0 us w h (by omega) (by omega) (by omega) (by omega)
    rwa [show ((n.toNat : Nat) : Int) = n from by omega, show ((s.toNat : Nat) : Int) = s from by omega] at this
  · have hb : n < 1 ∨ 8 < n ∨ s < 1 ∨ 64 < s := by omega
    have HN := Lib.hid (a_newBad n s w hb)
    clear h hb
    rcases (by omega : n < 1 ∨ (1 ≤ n ∧ 8 < n) ∨ (1 ≤ n ∧ n ≤ 8 ∧ s < 1) ∨ (1 ≤ n ∧ n ≤ 8 ∧ 1 ≤ s ∧ 64 < s)) with h | ⟨h1, h⟩ | ⟨h1, h2, h⟩ | ⟨h1, h2, h3, h⟩
    all_goals
      clear hv
      go_enter Try.func5, Try.ntmps5
      go_wp2_with fail
      refine HN.out.mono ?_
      rintro e w1 ⟨rfl, rfl⟩
      go_wp2_with fail
      refine (awake_any w).mono ?_
      rintro e w2 ⟨rfl, hb2⟩
      have HB := Lib.hid hb2
      clear hb2
      go_wp2
      go_ret
      exact ⟨rfl, HB.out⟩
end Go.Proofs.Ytopmfpdcdclffaa
