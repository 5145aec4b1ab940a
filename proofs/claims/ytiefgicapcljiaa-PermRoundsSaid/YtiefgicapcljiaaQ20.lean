/- The law of rounds. -/
import Derived.Test.YtiefgicapcljiaaQ19
set_option linter.unusedSimpArgs false
set_option linter.unusedVariables false
namespace Go.Proofs.Ytiefgicapcljiaa
open Go.RowKit Go.Shelf
theorem take_snoc {xs : List Int} {k : Nat} (hk : k < xs.length) : xs.take (k + 1) = xs.take k ++ [xs.getD k 0] := by
  rw [List.take_succ_eq_append_getElem hk, List.getD_eq_getElem?_getD, List.getElem?_eq_getElem hk]; rfl
set_option maxRecDepth 100000 in
set_option maxHeartbeats 8000000 in
theorem lawRounds (s : Int) (X : Option Addr) (nx cx : Nat) (xs0 : List Int) (a : Int) (w : World) (hx : Rd .i64 w X nx cx xs0) (ha : (Lit.int .u8 a).wf = true) :
    Calls Try.prog 4 #[.int .u64 s, .slice X nx cx, .int .u8 a] w fun e w' => e = .returned (.bool true) ∧ Below w.heap.size w w' := by
  have hab := u8_bounds ha
  obtain ⟨av, rfl⟩ := Int.eq_ofNat_of_zero_le hab.1
  clear ha
  go_enter Try.func4, Try.ntmps4
  go_wp2_with fail
  refine (short_any X nx cx xs0 w hx).mono ?_
  rintro e w0 ⟨⟨m, -, hm20, rfl, hxs⟩, rfl⟩
  generalize xs0.take 20 = xs at *
  clear hx
  by_cases hv : valP xs = true
  · go_wp2_with fail
    refine (pm_new w s X m cx xs hxs hv).mono ?_
    rintro e w1 ⟨p, F, rfl, hp, hF, hb1⟩
    have HX := Lib.hid hxs
    have HV := Lib.hid hv
    have HP := Lib.hid hp
    have HF := Lib.hid hF
    have HB := Lib.hid hb1
    clear hxs hv hp hF hb1
    go_wp2
    go_loopw [11] (fun i wr => ∃ (j q : Nat) (F : Nat → Prop) (L : PL), j ≤ 80 ∧ i = .int .i64 j ∧ L.ok (j + 1) ∧ CI xs L j q ∧ Pm F wr p L ∧ (∀ k, F k → w.heap.size ≤ k) ∧ Below w.heap.size w wr) (fun i _ => 80 - (intOf i).toNat)
    case atStart => exact ⟨0, 0, F, _, by omega, rfl, PL.new_ok s HV.out, CI.new s HV.out, HP.out, HF.out, HB.out⟩
    case round =>
      clear HP HF HB
      obtain ⟨j, q, F, L, hj, rfl, hok, hci, hp, hF, hb⟩ := hrel
      by_cases hlt : j < av % 80
      · have hlt' : (j : Int) < (av : Int) % 80 := by omega
        have hlt2 : (j : Int) < (av : Int).tmod 80 := by rw [Int.tmod_eq_emod_of_nonneg (by omega)]; exact hlt'
        have hj80 : j < 80 := by omega
        have hbL : (j : Int) + 1 ≤ 100000 := by omega
        have HOK := Lib.hid hok
        have HCI := Lib.hid hci
        have HB := Lib.hid hb
        have HF := Lib.hid hF
        clear hlt2 hok hci hb hF
        go_wp2_with fail
        refine (pm_next F wr p L (j + 1) hp HOK.out hbL).mono ?_
        rintro e w2 ⟨rfl, F', hp', hst, hgr⟩
        have HB2 := Lib.hid (HB.out.trans (hst.below HB.out.size HF.out))
        have HF2 := Lib.hid (hgr.ge HF.out HB.out.size)
        have HP2 := Lib.hid hp'
        have hok2 := HOK.out.next
        have HOK2 := Lib.hid hok2
        obtain ⟨q2, hci2⟩ := HCI.out.next HOK.out
        have HCI2 := Lib.hid hci2
        generalize L.next = L2 at *
        clear hp hp' hst hgr hok2 hci2 hbL
        go_wp2_with fail
        refine (pm_sprayed HP2.out HOK2.out).mono ?_
        rintro e w3 ⟨rfl, hb3⟩
        have HB3 := Lib.hid (HB2.out.trans (hb3.mono HB2.out.size))
        have HP3 := Lib.hid (HP2.out.below hb3)
        have hz := Bk.new w3 32 (intV (List.replicate 8 0))
        have HT8 : Hid ((intV L2.told).length = 8) := Lib.hid (by rw [intV_len]; exact HOK2.out.t1)
        clear hb3
        go_wp2_with (refine at_store 32 (.tmp 12) (.tmp 51) (by rfl) ?_; refine wpList_store_bk rowTold rfl (.tmp 12) (.tmp 51) rfl w3.heap.size 0 rfl hz (intV L2.told) rfl HT8.out (by decide) (intV_one _) ?_; rintro w4 hz4 hw4)
        rw [lay_all _ _ HT8.out] at hz4
        have hb4 : Below w3.heap.size w3 w4 := ((Below.refl _ _).alloc (Nat.le_refl _) _).trans (hw4.below (Nat.le_refl _) (by simp))
        have HB4 := Lib.hid (HB3.out.trans (hb4.mono HB3.out.size))
        have HP4 := Lib.hid (HP3.out.below hb4)
        have HZ4 := Lib.hid hz4
        have hX4 := HX.out.below HB4.out
        have HX4 := Lib.hid hX4
        have hml := HX.out.1
        have HML := Lib.hid hml
        have HXB := Lib.hid ((valP_ok HV.out).1.1)
        have h9 : ∀ x ∈ xs, 0 ≤ cntP L2 x ∧ cntP L2 x ≤ 100 := fun x hx => by
          have hxb := HXB.out x hx
          have h8 : x.toNat < L2.told.length := by rw [HOK2.out.t1]; omega
          have := HOK2.out.t2 _ (List.getElem_mem h8)
          unfold cntP
          rw [List.getD_eq_getElem?_getD, List.getElem?_eq_getElem h8]
          simp; omega
        have H9 := Lib.hid h9
        clear hz hz4 hw4 hb4 hX4 hml h9
        go_loopw [13, 14, 15, 16] (fun lo hi sm kk w5 => ∃ k2 : Nat, k2 ≤ m ∧ kk = .int .i64 k2 ∧ lo = .int .i64 (lowF (cntP L2) ((j : Int) + 1) (xs.take k2)) ∧ hi = .int .i64 (highF (cntP L2) 0 (xs.take k2)) ∧ sm = .int .i64 (sumF (cntP L2) 0 (xs.take k2)) ∧ w5 = w4) (fun _ _ _ kk _ => m - (intOf kk).toNat)
        case atStart => exact ⟨0, Nat.zero_le _, rfl, by go_num, rfl, rfl, rfl⟩
        case round =>
          obtain ⟨k2, hk2, rfl, rfl, rfl, rfl, rfl⟩ := hrel
          by_cases hk2m : k2 < m
          · have hxl : k2 < xs.length := by rw [HML.out]; exact hk2m
            obtain ⟨g, o, rfl, hg, hcx⟩ := HX4.out.cell hk2m
            have HT := Lib.hid (take_snoc hxl)
            have hmem : xs.getD k2 0 ∈ xs := by
              rw [List.getD_eq_getElem?_getD, List.getElem?_eq_getElem hxl]
              exact List.getElem_mem _
            have hxb := HXB.out _ hmem
            have hcb := H9.out _ hmem
            have hsb := sumF_bounds (cntP L2) 100 (xs.take k2) 0 (fun x hx => H9.out x (List.mem_of_mem_take hx))
            have htl : (xs.take k2).length ≤ 20 := by rw [List.length_take]; omega
            generalize xs.getD k2 0 = x at *
            obtain ⟨xk, rfl⟩ := Int.eq_ofNat_of_zero_le hxb.1
            have hx8 : xk < 8 := by omega
            have hx8' : (xk : Int) < 8 := by omega
            have hct : _ := HZ4.out.cell xk (v := .int .i64 (cntP L2 xk)) (by
              unfold cntP intV
              have h8 : xk < L2.told.length := by rw [HOK2.out.t1]; exact hx8
              rw [List.getElem?_map, List.getElem?_eq_getElem h8, List.getD_eq_getElem?_getD]
              simp [h8])
            have hsb1 := hsb.1
            have hsb2 : sumF (cntP L2) 0 (xs.take k2) ≤ 2000 := by have := hsb.2; omega
            have HLO : Hid (lowF (cntP L2) ((j : Int) + 1) (xs.take (k2 + 1)) = if cntP L2 xk < lowF (cntP L2) ((j : Int) + 1) (xs.take k2) then cntP L2 xk else lowF (cntP L2) ((j : Int) + 1) (xs.take k2)) := Lib.hid (by rw [HT.out, lowF_snoc])
            have HHI : Hid (highF (cntP L2) 0 (xs.take (k2 + 1)) = if highF (cntP L2) 0 (xs.take k2) < cntP L2 xk then cntP L2 xk else highF (cntP L2) 0 (xs.take k2)) := Lib.hid (by rw [HT.out, highF_snoc])
            have HSM : Hid (sumF (cntP L2) 0 (xs.take (k2 + 1)) = sumF (cntP L2) 0 (xs.take k2) + cntP L2 xk) := Lib.hid (by rw [HT.out, sumF_snoc])
            generalize lowF (cntP L2) ((j : Int) + 1) (xs.take k2) = lo at *
            generalize highF (cntP L2) 0 (xs.take k2) = hi at *
            generalize sumF (cntP L2) 0 (xs.take k2) = sm at *
            generalize cntP L2 xk = cv at *
            have hcb1 := hcb.1
            have hcb2 := hcb.2
            clear hsb htl hmem hcb hxb
            by_cases c1 : lo ≤ cv
            · have e1 : (if cv < lo then cv else lo) = lo := if_neg (by omega)
              rw [e1] at HLO
              clear e1
              by_cases c2 : cv ≤ hi
              · have e2 : (if hi < cv then cv else hi) = hi := if_neg (by omega)
                rw [e2] at HHI
                clear e2
                go_wp2
                go_roundw
                case rel => exact ⟨k2 + 1, by omega, by go_num, by rw [HLO.out], by rw [HHI.out], by rw [HSM.out], trivial⟩
                case measure => simp [intOf]; omega
              · have c2' : hi < cv := by omega
                have e2 : (if hi < cv then cv else hi) = cv := if_pos c2'
                rw [e2] at HHI
                clear e2 c2
                go_wp2
                go_roundw
                case rel => exact ⟨k2 + 1, by omega, by go_num, by rw [HLO.out], by rw [HHI.out], by rw [HSM.out], trivial⟩
                case measure => simp [intOf]; omega
            · have c1' : cv < lo := by omega
              have e1 : (if cv < lo then cv else lo) = cv := if_pos c1'
              rw [e1] at HLO
              clear e1 c1
              by_cases c2 : cv ≤ hi
              · have e2 : (if hi < cv then cv else hi) = hi := if_neg (by omega)
                rw [e2] at HHI
                clear e2
                go_wp2
                go_roundw
                case rel => exact ⟨k2 + 1, by omega, by go_num, by rw [HLO.out], by rw [HHI.out], by rw [HSM.out], trivial⟩
                case measure => simp [intOf]; omega
              · have c2' : hi < cv := by omega
                have e2 : (if hi < cv then cv else hi) = cv := if_pos c2'
                rw [e2] at HHI
                clear e2 c2
                go_wp2
                go_roundw
                case rel => exact ⟨k2 + 1, by omega, by go_num, by rw [HLO.out], by rw [HHI.out], by rw [HSM.out], trivial⟩
                case measure => simp [intOf]; omega
          · obtain rfl : k2 = m := by omega
            rw [List.take_of_length_le (Nat.le_of_eq HML.out)]
            have hlaw := HCI2.out.law (valP_ok HV.out).1.2
            have hm0 : 0 < xs.length := List.length_pos_iff.2 (valP_ok HV.out).2
            have hj1 : ((j + 1 : Nat) : Int) = (j : Int) + 1 := by omega
            rw [HML.out] at hlaw hm0
            rw [hj1] at hlaw
            have hlo1 := lowF_le (cntP L2) xs ((j : Int) + 1)
            have hlo0 := lowF_ge (cntP L2) 0 xs ((j : Int) + 1) (by omega) (fun x hx => (H9.out x hx).1)
            have hhi0 := highF_ge (cntP L2) xs 0
            have hhi1 := highF_le (cntP L2) 100 xs 0 (by omega) (fun x hx => (H9.out x hx).2)
            obtain ⟨l1, l2, l3⟩ := hlaw
            have hmz : (k2 : Int) ≠ 0 := by omega
            have hmd : (((j + 1) % k2 : Nat) : Int) = ((j : Int) + 1) % (k2 : Int) := by rw [Int.natCast_emod, hj1]
            have hmd2 : ((j : Int) + 1).tmod (k2 : Int) = ((j : Int) + 1) % (k2 : Int) := Int.tmod_eq_emod_of_nonneg (by omega)
            have HJ1 := Lib.hid hj1
            clear hj1
            rw [l2]
            generalize lowF (cntP L2) ((j : Int) + 1) xs = lo at *
            generalize highF (cntP L2) 0 xs = hi at *
            have HHP := Lib.hid HP4.out
            clear HX4
            by_cases hmod : (j + 1) % k2 = 0
            · obtain rfl := l3 hmod
              have hmi : ((j : Int) + 1) % (k2 : Int) = 0 := by rw [← hmd, hmod]; rfl
              have hmt : ((j : Int) + 1).tmod (k2 : Int) = 0 := by rw [hmd2, hmi]
              clear hmod hmd hmd2 l3 hlt
              go_wp2
              go_roundw
              case rel => exact ⟨j + 1, q2, F', L2, by omega, by go_num, by rw [HJ1.out]; exact HOK2.out, HCI2.out, HP4.out, HF2.out, HB4.out⟩
              case measure => simp [intOf]; omega
            · have hmi : ((j : Int) + 1) % (k2 : Int) ≠ 0 := by rw [← hmd]; omega
              have hmt : ((j : Int) + 1).tmod (k2 : Int) ≠ 0 := by rw [hmd2]; exact hmi
              clear hmod hmd hmd2 l3 hlt
              go_wp2
              go_roundw
              case rel => exact ⟨j + 1, q2, F', L2, by omega, by go_num, by rw [HJ1.out]; exact HOK2.out, HCI2.out, HP4.out, HF2.out, HB4.out⟩
              case measure => simp [intOf]; omega
      · have hge : (av : Int) % 80 ≤ j := by omega
        have HB := Lib.hid hb
        clear hlt hb hp hci hok hF
        go_wp2_with fail
        refine (awake_any wr).mono ?_
        rintro e w4 ⟨rfl, hb4⟩
        have HB4 := Lib.hid (HB.out.trans (hb4.mono HB.out.size))
        clear hb4
        go_wp2
        go_ret
        exact ⟨rfl, HB4.out⟩
  · have hvf : valP xs = false := by simpa using hv
    go_wp2_with fail
    refine (pm_new_bad w s X m cx xs hxs hvf).mono ?_
    rintro e w1 ⟨rfl, hb1⟩
    go_wp2_with fail
    refine (rise_any X m cx xs w1 (hxs.below hb1)).mono ?_
    rintro e w2 ⟨B2, m2, d2, ys, rfl, -, -, hb2⟩
    rw [hvf]
    have HB := Lib.hid (hb1.trans (hb2.mono hb1.size))
    clear hb1 hb2 hxs hv hvf
    go_wp2_with fail
    refine (awake_any w2).mono ?_
    rintro e w4 ⟨rfl, hb4⟩
    have HB4 := Lib.hid (HB.out.trans (hb4.mono HB.out.size))
    clear hb4
    go_wp2
    go_ret
    exact ⟨rfl, HB4.out⟩
end Go.Proofs.Ytiefgicapcljiaa
