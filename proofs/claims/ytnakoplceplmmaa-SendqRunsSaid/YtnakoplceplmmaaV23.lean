/- The law of any order. -/
import Derived.Test.YtnakoplceplmmaaV21
set_option linter.unusedSimpArgs false
set_option linter.unusedVariables false
namespace Go.Proofs.Ytnakoplceplmmaa
open Go.RowKit Go.Shelf
theorem Sm.ack_lacks {m : Sm} (h : m.Ok) (s x : Int) : (m.ack s).lacks x = (m.lacks x && (x != s)) := by
  unfold Sm.ack
  by_cases hs : m.lacks s = true
  · rw [if_pos hs, Sm.settle_lacks (Sm.mark_drop_ok h hs)]
    obtain ⟨h1, h2, h3⟩ := Sm.lacks_iff.1 hs
    by_cases hx : x = s
    · subst hx
      have hlt : x.toNat < m.K.length := by have := h.lk; have := h.nl; omega
      have : ((m.mark x).drop x).lacks x = false := by
        unfold Sm.lacks Sm.mark Sm.drop
        dsimp only
        rw [List.getD_eq_getElem?_getD, List.getElem?_set_self hlt]
        simp
      rw [this]; simp
    · have hne : (x != s) = true := by simpa using hx
      rw [hne, Bool.and_true]
      by_cases hr : (m.lo : Int) ≤ x ∧ x < m.nx
      · unfold Sm.lacks Sm.mark Sm.drop
        dsimp only
        rw [List.getD_eq_getElem?_getD, List.getElem?_set_ne (by omega), ← List.getD_eq_getElem?_getD]
      · unfold Sm.lacks
        rw [decide_eq_false (by exact hr), decide_eq_false (by exact hr)]
        rfl
  · rw [if_neg hs]
    by_cases hx : x = s
    · subst hx
      have : m.lacks x = false := by simpa using hs
      rw [this]; rfl
    · have hne : (x != s) = true := by simpa using hx
      rw [hne, Bool.and_true]
theorem Sm.ack_nx (m : Sm) (s : Int) : (m.ack s).nx = m.nx ∧ (m.ack s).L = m.L := by
  unfold Sm.ack
  split <;> exact ⟨rfl, rfl⟩
theorem Sm.all_nodup (m : Sm) : m.all.Nodup := by
  unfold Sm.all Sm.outs sel
  refine List.Pairwise.map _ (fun a b hab => ?_) (List.Pairwise.filter _ List.nodup_range)
  omega
theorem Sm.ack_all {m : Sm} (h : m.Ok) (s : Int) : (m.ack s).all = m.all.filter (· != s) := by
  unfold Sm.all Sm.outs
  rw [(m.ack_nx s).1]
  unfold sel
  rw [List.filter_map, List.filter_filter]
  congr 1
  apply List.filter_congr
  intro i _
  show (m.ack s).lacks (i : Int) = _
  rw [Sm.ack_lacks h, Bool.and_comm]
  rfl
theorem Sm.ack_len {m : Sm} (h : m.Ok) (s : Int) : (m.ack s).all.length = if m.lacks s = true then m.all.length - 1 else m.all.length := by
  rw [Sm.ack_all h, ← List.Nodup.erase_eq_filter m.all_nodup]
  split
  · rename_i hs
    obtain ⟨h1, h2, h3⟩ := Sm.lacks_iff.1 hs
    rw [List.length_erase_of_mem]
    exact (sel_mem _ _ _).2 ⟨s.toNat, by omega, by unfold Sm.p; rw [show ((s.toNat : Nat) : Int) = s from by omega]; exact hs, by omega⟩
  · rename_i hs
    rw [List.erase_of_not_mem]
    intro hm
    obtain ⟨i, h1, h2, rfl⟩ := (sel_mem _ _ _).1 hm
    exact hs h2
theorem Sm.lacks_pos {m : Sm} {s : Int} (h : m.lacks s = true) : 0 < m.all.length := by
  obtain ⟨h1, h2, h3⟩ := Sm.lacks_iff.1 h
  exact List.length_pos_of_mem (a := s) ((sel_mem m.p m.nx s).2 ⟨s.toNat, by omega, by unfold Sm.p; rw [show ((s.toNat : Nat) : Int) = s from by omega]; exact h, by omega⟩)
/-- A queue with k pieces, i of them sent. -/
def mS (k i : Nat) : Sm := ⟨30, 0, i, pcs k 0, List.replicate k false, []⟩
theorem mS_ok : ∀ (k i : Nat), 1 ≤ k → k ≤ 30 → i ≤ k → (mS k i).Ok ∧ (mS k i).Low
  | k, 0, h1, h2, _ => by
    have h := Sm.add_ok (m := .new 30) (Sm.new_ok (by decide) (by decide)).1 (Sm.new_ok (by decide) (by decide)).2 (l := pcs k 0) (by unfold Sm.fits; rw [pcs_len]; show 0 + k ≤ 0 + 30; omega) (by rw [pcs_len]; show 0 + k ≤ _; omega)
    have e : (Sm.new 30).add (pcs k 0) = mS k 0 := by
      unfold Sm.add Sm.new mS
      simp [pcs_len]
    rw [e] at h
    exact h
  | k, i + 1, h1, h2, h3 => by
    have h := mS_ok k i h1 h2 (by omega)
    have h4 := Sm.send_ok h.1 h.2
    have e : (mS k i).send = mS k (i + 1) := by
      unfold Sm.send
      rw [if_pos (by show i < (pcs k 0).length; rw [pcs_len]; omega)]
      rfl
    rw [e] at h4
    exact h4
theorem mS_send (k i : Nat) (h : i < k) : (mS k i).send = mS k (i + 1) := by
  unfold Sm.send
  rw [if_pos (by show i < (pcs k 0).length; rw [pcs_len]; exact h)]
  rfl
theorem mS_lacks (k : Nat) (i : Nat) (h : i < k) : (mS k k).lacks (i : Int) = true := by
  refine Sm.lacks_iff.2 ⟨(by show (0 : Int) ≤ i; omega), (by show (i : Int) < k; omega), ?_⟩
  show (List.replicate k false).getD (i : Int).toNat true = false
  rw [Int.toNat_natCast, List.getD_eq_getElem?_getD, List.getElem?_replicate, if_pos h]
  rfl
theorem mS_all (k : Nat) : (mS k k).all.length = k := by
  unfold Sm.all Sm.outs sel
  rw [List.length_map]
  show ((List.range k).filter (mS k k).p).length = k
  have e : (List.range k).filter (mS k k).p = List.range k := List.filter_eq_self.2 (fun i hi => mS_lacks k i (by simpa using hi))
  rw [e, List.length_range]
theorem all_none {m : Sm} (h : m.Ok) (lw : m.Low) {k : Nat} (hk : m.nx = k) (hL : m.L.length = k) (hno : ∀ i : Nat, i < k → m.lacks (i : Int) = false) : m.lo = k ∧ m.all = [] := by
  refine ⟨?_, sel_none _ _ fun i hi => hno i (by omega)⟩
  rcases lw with lw | lw
  · omega
  · refine Decidable.byContradiction fun hne => ?_
    have hln := h.ln
    have h1 := hno m.lo (by omega)
    rw [show m.lacks (m.lo : Int) = true from Sm.lacks_iff.2 ⟨by omega, by omega, by rw [Int.toNat_natCast]; exact getD_of lw⟩] at h1
    cases h1
set_option maxRecDepth 100000 in
set_option maxHeartbeats 8000000 in
theorem lawAll (x : Int) (hx : 0 ≤ x ∧ x < 256) (A : Option Addr) (n c : Nat) (xs : List Int) (w : World) (h : Rd .u8 w A n c xs) :
    Calls Try.prog 4 #[.int .u8 x, .slice A n c] w fun e w' => e = .returned (.bool true) ∧ Below w.heap.size w w' := by
  obtain ⟨k, hk⟩ : ∃ k : Nat, (1 : Int) + x % 30 = k := ⟨(1 + x % 30).toNat, by omega⟩
  have hk1 : 1 ≤ k := by omega
  have hk2 : k ≤ 30 := by omega
  obtain ⟨hx0, hx1⟩ := hx
  have HP := Lib.hid (fun W => law_pieces k 0 W (by omega) (by omega))
  have HRd := Lib.hid h
  have hn := h.1
  have hxm : x.tmod 30 = x % 30 := Int.tmod_eq_emod_of_nonneg hx0
  clear h
  go_enter Try.func4, Try.ntmps4
  go_wp2_with fail
  refine (q_new (p := 30) (by decide) w).mono ?_
  rintro e w1 ⟨rfl, hj1, hb1⟩
  have hlt1 := hj1.lt _ rfl
  have HJ1 := Lib.hid (And.intro hj1 (And.intro hb1 hlt1))
  clear hj1 hb1 hlt1
  go_wp2_with fail
  refine (HP.out w1).mono ?_
  rintro e w2 ⟨AP, nP, cP, rfl, hsl, hb2⟩
  have HA2 : Hid (Calls Try.prog 11 #[.pointer (some ⟨w.heap.size, 0, none⟩), .slice AP nP cP] w2 fun en w' => en = .returned (.int .i64 0) ∧ New w w.heap.size (mS k 0) w') := Lib.hid (by
    have hj := HJ1.out.1.below hb2
    have hf : (Sm.new 30).fits (pcs k 0).length := by unfold Sm.fits; rw [pcs_len]; show 0 + k ≤ 0 + 30; omega
    have h := n_add (m := .new 30) (b := w1.heap.size) ⟨_, hj, fun i hi => by subst hi; exact Nat.le_refl _, below_on HJ1.out.2.1 hb2⟩ hsl ⟨_, hj, fun i hi => by subst hi; exact ⟨Nat.le_refl _, HJ1.out.2.2⟩⟩ (by rw [pcs_len]; show 0 + k ≤ _; omega)
    have e1 : (Sm.new 30).refuse (pcs k 0).length = 0 := by unfold Sm.refuse; rw [if_pos hf]
    have e2 : (Sm.new 30).added (pcs k 0) = mS k 0 := by
      unfold Sm.added
      rw [if_pos hf]
      unfold Sm.add Sm.new mS
      simp [pcs_len]
    rw [e1, e2] at h
    exact h)
  clear hsl hb2 HP HJ1
  go_wp2_with fail
  refine HA2.out.mono ?_
  rintro e w3 ⟨rfl, hN3⟩
  have HN3 := Lib.hid hN3
  have HAw := Lib.hid (awake_any w3)
  clear hN3 HA2
  go_wp2_with fail
  refine HAw.out.mono ?_
  rintro e w4 ⟨rfl, hb4⟩
  have HN4 := Lib.hid (HN3.out.next hb4)
  clear hb4 HAw HN3
  go_wp2
  go_loopw [8] (fun v W => ∃ i : Nat, v = .int .i64 i ∧ i ≤ k ∧ New w w.heap.size (mS k i) W) (fun v _ => k - (intOf v).toNat)
  case atStart => exact ⟨0, rfl, Nat.zero_le _, HN4.out⟩
  case round =>
    obtain ⟨i, rfl, hi, hN⟩ := hrel
    by_cases hlt : i < k
    · have hlt' : (i : Int) < k := by omega
      have HS := Lib.hid (n_send hN)
      have HE := Lib.hid (mS_send k i hlt)
      clear hN
      go_wp2_with (go_at_call 13; refine HS.out.mono ?_; rintro e w5 ⟨rfl, hN5⟩; rw [HE.out] at hN5; have HN5 := Lib.hid hN5; clear hN5)
      go_roundw
      case rel => exact ⟨i + 1, by go_num, by omega, HN5.out⟩
      case measure => simp [intOf]; omega
    · obtain rfl : i = k := by omega
      have HN := Lib.hid hN
      clear hN HN4
      go_wp2
      go_loopw [9, 10] (fun dv v W => ∃ (j dn : Nat) (m : Sm), v = .int .i64 j ∧ j ≤ 100 ∧ dv = .int .i64 dn ∧ New w w.heap.size m W ∧ m.Ok ∧ m.Low ∧ m.nx = i ∧ m.L.length = i ∧ m.all.length + dn = i) (fun dv v _ => 100 - (intOf v).toNat)
      case atStart => exact ⟨0, 0, mS i i, rfl, Nat.zero_le _, rfl, HN.out, (mS_ok i i hk1 hk2 (Nat.le_refl _)).1, (mS_ok i i hk1 hk2 (Nat.le_refl _)).2, rfl, pcs_len i 0, mS_all i⟩
      case round =>
        obtain ⟨j, dn, m, rfl, hj, rfl, hN, ok, lw, hnx, hL, hdn⟩ := hrel
        by_cases hlt : j < n ∧ j < 100
        · obtain ⟨hlt1, hlt2⟩ := hlt
          have hltI1 : (j : Int) < n := by omega
          have hltI2 : (j : Int) < 100 := by omega
          obtain ⟨g1, o, rfl, hg, cj⟩ := HRd.out.rdv.cell hlt1
          have hjx : j < xs.length := by omega
          rw [List.getElem?_map, List.getElem?_eq_getElem hjx] at cj
          have hy := u8_bounds (HRd.out.2.2.2.2.1 xs[j] (List.getElem_mem _))
          generalize xs[j] = y at *
          obtain ⟨hy0, hy1⟩ := hy
          have cj' : wr.cell? ⟨g1, o + j, none⟩ = some (.int .u8 y) := (hN.bel.cell (p := ⟨g1, o + j, none⟩) hg).trans cj
          have hym : y.tmod (i : Int) = y % (i : Int) := Int.tmod_eq_emod_of_nonneg hy0
          have hi0 : ((i : Int) == 0) = false := by simp; omega
          have hiz : ¬ (i : Int) = 0 := by omega
          have HA := Lib.hid (n_ack hN ok (y % (i : Int)))
          have HOk := Lib.hid (Sm.ack_ok ok lw (y % (i : Int)))
          have HNx := Lib.hid (m.ack_nx (y % (i : Int)))
          have HLn := Lib.hid (Sm.ack_len ok (y % (i : Int)))
          have HPos : Hid (m.lacks (y % (i : Int)) = true → 0 < m.all.length) := Lib.hid Sm.lacks_pos
          have HI := Lib.hid (And.intro hnx (And.intro hL hdn))
          have hdb : dn ≤ 30 := by omega
          clear hN ok lw hnx hL hdn cj
          cases hl : m.lacks (y % (i : Int)) with
          | true =>
            rw [hl] at HPos
            rw [hl] at HLn
            have HV := Lib.hid hl
            have HC : Hid ((m.ack (y % (i : Int))).all.length + (dn + 1) = i) := Lib.hid (by
              have h1 := HLn.out
              rw [if_pos rfl] at h1
              have h2 := HPos.out rfl
              have h3 := HI.out.2.2
              omega)
            clear hl HLn HPos
            go_wp2_with (first
              | (go_at_call 15; refine HA.out.mono ?_; rintro e w6 ⟨rfl, hN6⟩; rw [HV.out]
                 have HN6 := Lib.hid hN6
                 have HL6 := Lib.hid (n_lack hN6 HOk.out.1 (i : Int))
                 clear hN6)
              | (go_at_call 28; refine HL6.out.mono ?_; rintro e w7 ⟨A7, n7, c7, rfl, hn7, hN7⟩
                 have hn7' : (n7 : Int) = (i : Int) - ((dn : Int) + 1) := by
                   rw [hn7, Int.toNat_natCast, List.take_of_length_le (by have := HC.out; omega)]
                   have := HC.out
                   omega
                 have HN7 := Lib.hid hN7
                 clear hN7 hn7))
            go_roundw
            case rel => exact ⟨j + 1, dn + 1, _, by go_num, by omega, by go_num, HN7.out, HOk.out.1, HOk.out.2, HNx.out.1.trans HI.out.1, (congrArg List.length HNx.out.2).trans HI.out.2.1, HC.out⟩
            case measure => simp [intOf]; omega
          | false =>
            rw [hl] at HLn
            have HV := Lib.hid hl
            have HC : Hid ((m.ack (y % (i : Int))).all.length + dn = i) := Lib.hid (by
              have h1 := HLn.out
              rw [if_neg (by simp)] at h1
              have h3 := HI.out.2.2
              omega)
            clear hl HLn HPos
            go_wp2_with (first
              | (go_at_call 15; refine HA.out.mono ?_; rintro e w6 ⟨rfl, hN6⟩; rw [HV.out]
                 have HN6 := Lib.hid hN6
                 have HL6 := Lib.hid (n_lack hN6 HOk.out.1 (i : Int))
                 clear hN6)
              | (go_at_call 28; refine HL6.out.mono ?_; rintro e w7 ⟨A7, n7, c7, rfl, hn7, hN7⟩
                 have hn7' : (n7 : Int) = (i : Int) - (dn : Int) := by
                   rw [hn7, Int.toNat_natCast, List.take_of_length_le (by have := HC.out; omega)]
                   have := HC.out
                   omega
                 have HN7 := Lib.hid hN7
                 clear hN7 hn7))
            go_roundw
            case rel => exact ⟨j + 1, dn, _, by go_num, by omega, rfl, HN7.out, HOk.out.1, HOk.out.2, HNx.out.1.trans HI.out.1, (congrArg List.length HNx.out.2).trans HI.out.2.1, HC.out⟩
            case measure => simp [intOf]; omega
        · have hge : ¬ (j : Int) < n ∨ ((j : Int) < n ∧ ¬ (j : Int) < 100) := by omega
          have HN2 := Lib.hid (And.intro hN (And.intro ok (And.intro lw (And.intro hnx hL))))
          clear hN ok lw hnx hL hdn hlt HN
          rcases hge with hge | ⟨hge1, hge2⟩
          all_goals
            go_wp2
            go_loopw [11] (fun v W => ∃ (t : Nat) (m : Sm), v = .int .i64 t ∧ t ≤ i ∧ New w w.heap.size m W ∧ m.Ok ∧ m.Low ∧ m.nx = i ∧ m.L.length = i ∧ ∀ q : Nat, q < t → m.lacks (q : Int) = false) (fun v _ => i - (intOf v).toNat)
            case atStart => exact ⟨0, m, rfl, Nat.zero_le _, HN2.out.1, HN2.out.2.1, HN2.out.2.2.1, HN2.out.2.2.2.1, HN2.out.2.2.2.2, fun q hq => by omega⟩
            case round =>
              obtain ⟨t, m', rfl, ht, hN, ok, lw, hnx, hL, hno⟩ := hrel
              by_cases hlt : t < i
              · have hlt' : (t : Int) < i := by omega
                have HA := Lib.hid (n_ack hN ok (t : Int))
                have HOk := Lib.hid (Sm.ack_ok ok lw (t : Int))
                have HNx := Lib.hid (m'.ack_nx (t : Int))
                have HI := Lib.hid (And.intro hnx hL)
                have HNo : Hid (∀ q : Nat, q < t + 1 → (m'.ack (t : Int)).lacks (q : Int) = false) := Lib.hid fun q hq => by
                  rw [Sm.ack_lacks ok]
                  rcases (by omega : q < t ∨ q = t) with h | rfl
                  · rw [hno q h]; rfl
                  · simp
                clear hN ok lw hnx hL hno
                go_wp2_with (go_at_call 15; refine HA.out.mono ?_; rintro e w8 ⟨rfl, hN8⟩; have HN8 := Lib.hid hN8; clear hN8)
                go_roundw
                case rel => exact ⟨t + 1, _, by go_num, by omega, HN8.out, HOk.out.1, HOk.out.2, HNx.out.1.trans HI.out.1, (congrArg List.length HNx.out.2).trans HI.out.2, HNo.out⟩
                case measure => simp [intOf]; omega
              · obtain rfl : t = i := by omega
                obtain ⟨hlo, hall⟩ := all_none ok lw hnx hL hno
                have HL9 := Lib.hid (n_low hN)
                have HX9 := Lib.hid (n_next hN)
                have HK9 := Lib.hid (n_lack hN ok (t : Int))
                have HV := Lib.hid (And.intro hlo (And.intro hnx hall))
                clear hN ok lw hnx hL hno hlo hall
                go_wp2_with (first
                  | (go_at_call 26; refine HL9.out.mono ?_; rintro e w9 ⟨rfl, rfl⟩; rw [HV.out.1])
                  | (go_at_call 29; refine HX9.out.mono ?_; rintro e w9 ⟨rfl, rfl⟩; rw [HV.out.2.1])
                  | (go_at_call 28; refine HK9.out.mono ?_; rintro e w9 ⟨A9, n9, c9, rfl, hn9, hN9⟩
                     obtain rfl : n9 = 0 := by rw [hn9, HV.out.2.2]; simp
                     have HB9 := Lib.hid hN9.bel
                     clear hN9 hn9))
                go_ret
                exact ⟨rfl, HB9.out⟩
end Go.Proofs.Ytnakoplceplmmaa
