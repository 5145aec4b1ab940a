/- The law of the waits. -/
import Derived.Test.YtpcjmkphdannfaaT8
set_option linter.unusedSimpArgs false
set_option linter.unusedVariables false
namespace Go.Proofs.Ytpcjmkphdannfaa
open Go.RowKit Go.Shelf
/-- A timer that has just begun to wait x; it after j ticks. -/
def rn (b c x : Int) : Tm := ⟨b, c, x, x⟩
def stt (b c x : Int) (j : Nat) : Tm := if (j : Int) < x then ⟨b, c, x, x - j⟩ else rn b c (nxt c x)
theorem stt_zero {b c x : Int} (h : 1 ≤ x) : stt b c x 0 = rn b c x := by
  unfold stt rn
  rw [if_pos (by show (0 : Int) < x; omega)]
  simp
theorem stt_step {b c x : Int} {j : Nat} (h : (j : Int) < x) : (stt b c x j).fires = decide ((j : Int) + 1 = x) ∧ (stt b c x j).tick = stt b c x (j + 1) := by
  have h0 : stt b c x j = ⟨b, c, x, x - j⟩ := if_pos h
  rw [h0]
  constructor
  · unfold Tm.fires
    simp only [decide_eq_decide]
    omega
  · unfold Tm.tick
    simp only
    rw [if_neg (by omega)]
    by_cases h1 : (j : Int) + 1 = x
    · rw [if_pos (by omega)]
      unfold stt
      rw [if_neg (by omega)]
      rfl
    · rw [if_neg (by omega)]
      unfold stt
      rw [if_pos (by omega)]
      congr 1
      omega
theorem stt_end {b c x : Int} {j : Nat} (h : ¬ (j : Int) < x) : stt b c x j = rn b c (nxt c x) := if_neg h
theorem wl_none {b c n : Int} (h : fitT b c = false) : wl b c n = [] := by unfold wl; rw [h]; rfl
theorem made_nil {e : TypeId} {vs : List Value} {w w' : World} {en : Ending} (h : Made e vs w en w') (hv : vs = []) : ∃ A c, en = .returned (.slice A 0 c) ∧ Below w.heap.size w w' := by
  obtain ⟨A, n, c, rfl, hl, hb⟩ := h
  subst hv
  obtain rfl : n = 0 := hl.1.symm
  exact ⟨A, c, rfl, hb⟩
/-- The waits that were told, in the list. -/
def Told (w1 : World) (ga o : Nat) (b c : Int) : Prop := ∀ k, k < 8 → ∀ W, Below w1.heap.size w1 W → W.cell? ⟨ga, o + k, none⟩ = some (.int .i64 (wt b c k))
theorem told_of {w w1 : World} {A : Option Addr} {n cp : Nat} {b c : Int} (hf : fitT b c = true) (hl : Lst 3 (w.heap.size ≤ ·) w1 A n cp (intV (wl b c 8))) : n = 8 ∧ ∃ ga o, A = some ⟨ga, o, none⟩ ∧ Told w1 ga o b c := by
  have hwl : wl b c 8 = tk b c 8 := by unfold wl; rw [if_pos hf]; rfl
  have hn := hl.1
  rw [intV_len, hwl, tk_len] at hn
  subst hn
  refine ⟨rfl, ?_⟩
  obtain ⟨g, o, e, hg, hc⟩ := hl.rdv.cell (i := 0) (by omega)
  refine ⟨g, o, e, fun k hk W hW => ?_⟩
  obtain ⟨g', o', e', hg', hc'⟩ := hl.rdv.cell (i := k) hk
  rw [e] at e'
  injection e' with e'
  injection e' with e1 e2 e3
  subst e1 e2
  rw [hW.cell (p := ⟨g, o + k, none⟩) hg', hc', hwl]
  simp [intV, tk, List.getElem?_map, List.getElem?_range, hk]
set_option maxRecDepth 100000 in
set_option maxHeartbeats 16000000 in
theorem lawWaits {p q : Int} (hp : 0 ≤ p ∧ p < 256) (hq : 0 ≤ q ∧ q < 256) (w : World) :
    Calls Try.prog 4 #[.int .u8 p, .int .u8 q] w fun e w' => e = .returned (.bool true) ∧ Below w.heap.size w w' := by
  obtain ⟨hp1, hp2⟩ := hp
  obtain ⟨hq1, hq2⟩ := hq
  go_enter Try.func4, Try.ntmps4
  go_wp2_with fail
  generalize hb : 1 + p % 9 = b
  generalize hc : b + q % 60 = c
  have hb1 : 1 ≤ b := by omega
  have hbc : b ≤ c := by omega
  have hc1 : c ≤ 1048576 := by omega
  have HF : Hid (fitT b c = true) := Lib.hid (fitT_yes hb1 hbc hc1)
  clear hb hc hp1 hp2 hq1 hq2
  refine (l_waits b c 8 (by omega) w).mono ?_
  rintro e w1 ⟨A, n, cp, rfl, hl, hbw⟩
  obtain ⟨rfl, ga, o, rfl, htold⟩ := told_of HF.out hl
  have HTo := Lib.hid htold
  have HB1 := Lib.hid hbw
  clear hl htold hbw
  go_wp2_with fail
  refine (t_new HF.out w1).mono ?_
  rintro e w2 ⟨g, rfl, ht, hg, hb2⟩
  have H1 : Hid (Nw w1 g (Tm.new b c) w2) := Lib.hid ⟨ht, hg, hb2⟩
  clear ht hg hb2
  go_wp2_with fail
  refine (awake_any w2).mono ?_
  rintro e w3 ⟨rfl, hb3⟩
  have H2 : Hid (Nw w1 g (Tm.new b c) w3) := Lib.hid (H1.out.next hb3)
  clear H1 hb3
  go_wp2_with fail
  refine (t_run H2.out.1 true).mono ?_
  rintro e w4 ⟨⟨v, rfl⟩, hd⟩
  have H3 : Hid (Nw w1 g (rn b c b) w4) := Lib.hid (H2.out.did hd)
  clear hd H2
  go_wp2
  go_loopw [10, 11] (fun x' i' wr => ∃ i : Nat, i ≤ 8 ∧ i' = .int .i64 i ∧ x' = .int .i64 (wt b c i) ∧ Nw w1 g (rn b c (wt b c i)) wr) (fun _ i' _ => 8 - (intOf i').toNat)
  case atStart => exact ⟨0, by omega, rfl, rfl, H3.out⟩
  case round =>
    clear H3
    obtain ⟨i, hi, rfl, rfl, hN⟩ := hrel
    by_cases hlt : i < 8
    · obtain ⟨hx1, hx2⟩ := wt_in hb1 hbc i
      have hli : (i : Int) < 8 := by omega
      have ci := HTo.out i hlt wr hN.2.2
      have HNX : Hid (wt b c (i + 1) = nxt c (wt b c i)) := Lib.hid rfl
      generalize wt b c i = x at *
      have HN := Lib.hid hN
      have hxm : x ≤ 1048576 := by omega
      clear hN
      go_wp2
      go_loopw [12] (fun k' W => ∃ j : Nat, k' = .int .i64 ((j : Int) + 1) ∧ (j : Int) ≤ x ∧ Nw w1 g (stt b c x j) W) (fun k' _ => (x + 1 - intOf k').toNat)
      case atStart => exact ⟨0, rfl, by omega, by rw [stt_zero hx1]; exact HN.out⟩
      case round =>
        clear HN
        obtain ⟨j, rfl, hj, hN⟩ := hrel
        by_cases hjx : (j : Int) < x
        · obtain ⟨hf, ht⟩ := stt_step (b := b) (c := c) hjx
          have HT := Lib.hid ht
          have HN := Lib.hid hN
          have hle : (j : Int) + 1 ≤ x := by omega
          clear ht hN ci
          by_cases hjn : (j : Int) + 1 = x
          · have HV : Hid ((stt b c x j).fires = true) := Lib.hid (by rw [hf]; exact decide_eq_true hjn)
            clear hf
            go_wp2_with (go_at_call 17; refine (t_tick HN.out.1).mono ?_; rintro en w7 ⟨rfl, hd7⟩; rw [HV.out]
                         have HN7 := Lib.hid (HN.out.did hd7)
                         clear hd7)
            go_roundw
            case rel => exact ⟨j + 1, by go_num, by omega, by rw [← HT.out]; exact HN7.out⟩
            case measure => simp [intOf]; omega
          · have HV : Hid ((stt b c x j).fires = false) := Lib.hid (by rw [hf]; exact decide_eq_false hjn)
            clear hf
            go_wp2_with (go_at_call 17; refine (t_tick HN.out.1).mono ?_; rintro en w7 ⟨rfl, hd7⟩; rw [HV.out]
                         have HN7 := Lib.hid (HN.out.did hd7)
                         clear hd7)
            go_roundw
            case rel => exact ⟨j + 1, by go_num, by omega, by rw [← HT.out]; exact HN7.out⟩
            case measure => simp [intOf]; omega
        · rw [stt_end hjx] at hN
          have HN := Lib.hid hN
          have hle : ¬ (j : Int) + 1 ≤ x := by omega
          clear hN ci
          rcases (by omega : 2 * x < c ∨ c ≤ 2 * x) with hc2 | hc2
          · have HV : Hid (wt b c (i + 1) = 2 * x) := Lib.hid (by rw [HNX.out, nxt_two (by omega)])
            go_wp2
            go_roundw
            case rel => exact ⟨i + 1, by omega, by go_num, by rw [HV.out], by rw [HNX.out]; exact HN.out⟩
            case measure => simp [intOf]; omega
          · have HV : Hid (wt b c (i + 1) = c) := Lib.hid (by rw [HNX.out, nxt_cap hc2])
            go_wp2
            go_roundw
            case rel => exact ⟨i + 1, by omega, by go_num, by rw [HV.out], by rw [HNX.out]; exact HN.out⟩
            case measure => simp [intOf]; omega
    · obtain rfl : i = 8 := by omega
      have HB := Lib.hid (below_on HB1.out hN.2.2)
      clear hN
      go_wp2_with fail
      refine (l_waits 0 5 3 (by omega) wr).mono ?_
      intro e w7 h7
      obtain ⟨A7, c7, rfl, hb7⟩ := made_nil h7 (by rw [wl_none (by decide)]; rfl)
      have HB7 := Lib.hid (below_on HB.out hb7)
      clear h7 hb7
      go_wp2_with fail
      refine (l_waits 5 4 3 (by omega) w7).mono ?_
      intro e w8 h8
      obtain ⟨A8, c8, rfl, hb8⟩ := made_nil h8 (by rw [wl_none (by decide)]; rfl)
      have HB8 := Lib.hid (below_on HB7.out hb8)
      clear h8 hb8
      go_wp2
      go_ret
      exact ⟨rfl, HB8.out⟩
end Go.Proofs.Ytpcjmkphdannfaa
