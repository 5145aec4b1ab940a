/- The law: behind as many ticks as paths rest all are active. -/
import Derived.Test.YtjoagkekbeogoaaS13
set_option linter.unusedSimpArgs false
set_option linter.unusedVariables false
namespace Go.Proofs.Ytjoagkekbeogoaa
open Go.RowKit Go.Shelf

theorem did_rest (S : Sc) (x : Int) (k : Nat) : (S.did x k).rest = S.rest := by
  unfold Sc.did Sc.blame
  split
  · split
    · rfl
    · split <;> rfl
  · rfl
theorem did_r (S : Sc) (x : Int) : (S.did x 0).r = S.r := by
  unfold Sc.did
  split <;> rfl
theorem did_step {w w' : World} {p : Nat} {S : Sc} {y b : Int} {q : Nat} (hd : Ds p (S.did y q) w w') (hok : S.ok b) : ∃ S', S'.ok (b + 1) ∧ S'.n = S.n ∧ S'.rest = S.rest ∧ (q = 0 → S'.r = S.r) ∧ Ds p S' w w' :=
  ⟨S.did y q, hok.did y q, did_n _ _ _, did_rest _ _ _, fun h => by subst h; exact did_r S y, hd⟩
theorem act_all {S : Sc} (h : ∀ j, j < S.n → S.r j = 0) : S.act.length = S.n := by
  rw [Sc.act_len, List.filter_eq_self.2]
  · simp
  · intro j hj
    simpa using h j (by simpa using hj)
set_option maxRecDepth 100000 in
set_option maxHeartbeats 4000000 in
theorem lawBack (a b : Nat) (ops : Sl OpT.den) (w : World) (ha : a < 256) (hb : b < 256) (h : (Ty.sl OpT).reads w ops) :
    Calls Try.prog 4 #[.int .u8 a, .int .u8 b, .slice ops.A ops.n ops.c] w fun e w' => e = .returned (.bool true) ∧ Below w.heap.size w w' := by
  have hnm : ops.n ≤ 9223372036854775807 := by have h := h.2; simp only [maxLen] at h; omega
  have HOp := Lib.hid (op_at h)
  obtain ⟨A0, n0, c0, l0⟩ := ops
  dsimp only at *
  clear h
  go_enter Try.func4, Try.ntmps4
  go_wp2_with fail
  refine (sm_new (1 + (a : Int) % 8) ((b : Int) % 40) w (by omega) (by omega) (by omega) (by omega)).mono ?_
  rintro e w1 ⟨rfl, hs1, hb1⟩
  have hok1 := Sc.new_ok (n := (1 + (a : Int) % 8).toNat) (rest := (b : Int) % 40) (by omega) (by omega) (by omega) (by omega)
  obtain ⟨m, hm⟩ : ∃ m : Nat, (1 + (a : Int) % 8) = m := ⟨1 + a % 8, by omega⟩
  obtain ⟨k, hk⟩ : ∃ k : Nat, (b : Int) % 40 = k := ⟨b % 40, by omega⟩
  have hm1 : 1 ≤ m ∧ m ≤ 8 := by omega
  have hk40 : k < 40 := by omega
  rw [hm, hk] at hs1 hok1 ⊢
  rw [Int.toNat_natCast] at hs1 hok1
  go_wp2_with fail
  refine (awake_any w1).mono ?_
  rintro e w2 ⟨rfl, hb2⟩
  have HS := Lib.hid (Bk.below hs1 hb2)
  have HB := Lib.hid (hb1.trans (hb2.mono hb1.size))
  have HOK := Lib.hid hok1
  clear hs1 hb1 hb2 hok1 hm hk ha hb
  go_wp2
  go_loopw [11] (fun i wr => ∃ (j : Nat) (S : Sc), j ≤ n0 ∧ j ≤ 60 ∧ i = .int .i64 j ∧ S.ok j ∧ S.n = m ∧ S.rest = k ∧ Sm wr w.heap.size S ∧ Below w.heap.size w wr) (fun i _ => n0 + 1 - (intOf i).toNat)
  case atStart => exact ⟨0, _, Nat.zero_le _, by omega, rfl, HOK.out, rfl, rfl, HS.out, HB.out⟩
  case round =>
    clear HS HB HOK
    obtain ⟨j, S, hjn, hj60, rfl, hok, hSn, hSr, hs, hbl⟩ := hrel
    have H := Lib.hid (And.intro hok (And.intro hSn (And.intro hSr (And.intro hs hbl))))
    clear hok hSn hSr hs hbl
    by_cases hc : j < n0 ∧ j < 60
    · obtain ⟨hlt, h60⟩ := hc
      have h60' : (j : Int) < 60 := by omega
      have hlt' : (j : Int) < n0 := by omega
      obtain ⟨go, o, dv, x, hA, hg0, o0, o1, hdv, hx⟩ := HOp.out j hlt
      obtain rfl : A0 = some ⟨go, o, none⟩ := hA
      obtain ⟨hok, hSn, hSr, hs, hbl⟩ := H.out
      have o0 := (hbl.cell (p := ⟨go, o + j * 2, none⟩) hg0).trans o0
      have o1 := (hbl.cell (p := ⟨go, o + j * 2 + 1, none⟩) hg0).trans o1
      have hx' : -9223372036854775808 ≤ x ∧ x ≤ 9223372036854775807 := by simpa [Lit.wf, IntKind.min, IntKind.max, IntKind.signed, IntKind.bits] using hx
      have hmi : (1 : Int) ≤ m ∧ (m : Int) ≤ 8 := by omega
      clear hok hSn hSr hs hbl hx
      rcases (by omega : (dv : Int) % 2 = 0 ∨ (dv : Int) % 2 = 1) with h0 | h0
      · go_wp2_with fail
        obtain ⟨hok, hSn, hSr, hs, hbl⟩ := H.out
        refine (sm_nack hs hok (by omega) _).mono ?_
        rintro e w3 ⟨rfl, hd⟩
        obtain ⟨S2, k1, k2, k3, -, k5⟩ := did_step hd hok
        have H2 := Lib.hid (And.intro k1 (And.intro (k2.trans hSn) (And.intro (k3.trans hSr) (And.intro k5.sm (hbl.trans (k5.st.below hbl.size (fun j hj => by omega)))))))
        clear k1 k2 k3 k5
        clear hok hSn hSr hs hbl hd o0 o1
        go_wp2
        go_roundw
        case rel =>
          obtain ⟨hok, hSn, hSr, hs, hbl⟩ := H2.out
          exact ⟨j + 1, _, by omega, by omega, by go_num, by rw [show ((j + 1 : Nat) : Int) = j + 1 from by omega]; exact hok, hSn, hSr, hs, hbl⟩
        case measure => simp [intOf]; omega
      · go_wp2_with fail
        obtain ⟨hok, hSn, hSr, hs, hbl⟩ := H.out
        refine (sm_bounce hs hok (by omega) _).mono ?_
        rintro e w3 ⟨rfl, hd⟩
        obtain ⟨S2, k1, k2, k3, -, k5⟩ := did_step hd hok
        have H2 := Lib.hid (And.intro k1 (And.intro (k2.trans hSn) (And.intro (k3.trans hSr) (And.intro k5.sm (hbl.trans (k5.st.below hbl.size (fun j hj => by omega)))))))
        clear k1 k2 k3 k5
        clear hok hSn hSr hs hbl hd o0 o1
        go_wp2
        go_roundw
        case rel =>
          obtain ⟨hok, hSn, hSr, hs, hbl⟩ := H2.out
          exact ⟨j + 1, _, by omega, by omega, by go_num, by rw [show ((j + 1 : Nat) : Int) = j + 1 from by omega]; exact hok, hSn, hSr, hs, hbl⟩
        case measure => simp [intOf]; omega
    · have hd : j < n0 ∧ (60 : Int) ≤ j ∨ n0 ≤ j := by omega
      obtain ⟨hok, hSn, hSr, hs, hbl⟩ := H.out
      have H2 : Hid (S.ok 60 ∧ S.n = m ∧ S.rest = k ∧ Sm wr w.heap.size S ∧ Below w.heap.size w wr ∧ ∀ j, S.r j ≤ k) := Lib.hid ⟨hok.mono (by omega), hSn, hSr, hs, hbl, fun j => by rw [← hSr]; exact (hok.r0 j).2⟩
      clear hok hSn hSr hs hbl H
      rcases hd with ⟨hlt, h60⟩ | hge
      all_goals
        first
          | (have hlt' : (j : Int) < n0 := by omega)
          | (obtain rfl : j = n0 := by omega)
        go_wp2
        go_loopw [12] (fun i wr => ∃ (q : Nat) (S : Sc), q ≤ k ∧ i = .int .i64 q ∧ S.ok (60 + q) ∧ S.n = m ∧ S.rest = k ∧ Sm wr w.heap.size S ∧ Below w.heap.size w wr ∧ ∀ j, j < m → S.r j ≤ k - q) (fun i _ => k + 1 - (intOf i).toNat)
        case atStart =>
          obtain ⟨hok, hSn, hSr, hs, hbl, hr⟩ := H2.out
          exact ⟨0, S, Nat.zero_le _, rfl, hok.mono (by omega), hSn, hSr, hs, hbl, fun j _ => by have := hr j; simpa using this⟩
        case round =>
          clear H2
          obtain ⟨q, S, hqk, rfl, hok, hSn, hSr, hs, hbl, hr⟩ := hrel
          have H3 := Lib.hid (And.intro hok (And.intro hSn (And.intro hSr (And.intro hs (And.intro hbl hr)))))
          clear hok hSn hSr hs hbl hr
          by_cases hqk' : q < k
          · have hmi : (1 : Int) ≤ m ∧ (m : Int) ≤ 8 := by omega
            have hqi : (q : Int) < k := by omega
            go_wp2_with fail
            obtain ⟨hok, hSn, hSr, hs, hbl, hr⟩ := H3.out
            refine (sm_ack hs hok (by omega) _).mono ?_
            rintro e w4 ⟨rfl, hd⟩
            obtain ⟨S2, k1, k2, k3, k4, k5⟩ := did_step hd hok
            have H4 := Lib.hid (And.intro k1 (And.intro (k2.trans hSn) (And.intro (k3.trans hSr) (And.intro k5.sm (And.intro (hbl.trans (k5.st.below hbl.size (fun j hj => by omega))) (k4 rfl))))))
            clear k1 k2 k3 k4 k5
            clear hok hSn hSr hs hbl hd hr
            go_wp2_with fail
            obtain ⟨hok, hSn, hSr, hs, hbl, hr⟩ := H4.out
            refine (sm_tick hs hok).mono ?_
            rintro e w5 ⟨A5, n5, c5, rfl, hl5, hd⟩
            have H5 := Lib.hid (And.intro hok.tick (And.intro hSn (And.intro hSr (And.intro hd.sm (And.intro (hbl.trans (hd.st.below hbl.size (fun j hj => by omega))) hr)))))
            clear hok hSn hSr hs hbl hd hr hl5
            go_wp2
            go_roundw
            case rel =>
              obtain ⟨hok, hSn, hSr, hs, hbl, hr⟩ := H5.out
              refine ⟨q + 1, S2.tick, by omega, by go_num, by rw [show (60 + ((q + 1 : Nat) : Int)) = 60 + q + 1 from by omega]; exact hok, hSn, hSr, hs, hbl, fun j hj => ?_⟩
              have h1 := H3.out.2.2.2.2.2 j hj
              have h2 := H3.out.1.r0 j
              have hSn2 : S2.n = m := hSn
              show (if 0 < S2.r j ∧ j < S2.n then S2.r j - 1 else S2.r j) ≤ _
              rw [hr, hSn2]
              split <;> omega
            case measure => simp [intOf]; omega
          · obtain rfl : q = k := by omega
            obtain ⟨hok, hSn, hSr, hs, hbl, hr⟩ := H3.out
            have hal := act_all (S := S) (fun j hj => by have := hr j (by omega); have := (hok.r0 j).1; omega)
            have HA := Lib.hid (sm_active hs hok)
            have HAL := Lib.hid (hal.trans hSn)
            have HBL := Lib.hid hbl
            clear hok hSn hSr hs hbl hr hal
            go_wp2_with fail
            refine HA.out.mono ?_
            rintro e w5 ⟨A5, n5, c5, rfl, hl5, hb5⟩
            have hn5 := hl5.1
            rw [intV_len, HAL.out] at hn5
            subst hn5
            have HB5 := Lib.hid (HBL.out.trans (hb5.mono HBL.out.size))
            clear hl5 hb5
            go_wp2
            go_ret
            exact ⟨rfl, HB5.out⟩
theorem lawBackI (a b : Int) (ops : Sl OpT.den) (w : World) (ha : (Lit.int .u8 a).wf = true) (hb : (Lit.int .u8 b).wf = true) (h : (Ty.sl OpT).reads w ops) :
    Calls Try.prog 4 #[.int .u8 a, .int .u8 b, .slice ops.A ops.n ops.c] w fun e w' => e = .returned (.bool true) ∧ Below w.heap.size w w' := by
  have h1 := u8_bounds ha
  have h2 := u8_bounds hb
  obtain ⟨m, rfl⟩ := Int.eq_ofNat_of_zero_le h1.1
  obtain ⟨k, rfl⟩ := Int.eq_ofNat_of_zero_le h2.1
  exact lawBack m k ops w (by omega) (by omega) h
end Go.Proofs.Ytjoagkekbeogoaa
