/- The law that nobody plain starves. -/
import Derived.Test.YtdldocbfnjbhmaaK26
import Derived.Test.YtdldocbfnjbhmaaK29
set_option linter.unusedSimpArgs false
set_option linter.unusedVariables false
set_option maxRecDepth 100000
namespace Go.Proofs.Ytdldocbfnjbhmaa
open Go.RowKit Go.Shelf
theorem PcN.drop {w W : World} {K : Nat → Prop} {p : Nat} {m : Pm} (h : PcN w K W p m) : PcN w (fun _ => False) W p m := by
  obtain ⟨h0, F, h1, h2, h3, h4⟩ := h
  exact ⟨h0, F, h1, fun k hk => ⟨(h2 k hk).1, id⟩, h3, fun k hk => hk.elim⟩
/-- A key is boxed, made known, owed: as the page's loops do it. -/
theorem boxed {w W : World} {p : Nat} {m : Pm} (h : PcN w (fun _ => False) W p m) (a : Ky) : PcN w (· = W.heap.size) (W.alloc (.cells #[.int .i64 a.s, .int .i64 a.c] 39)) p m ∧ Bk (W.alloc (.cells #[.int .i64 a.s, .int .i64 a.c] 39)) 39 W.heap.size a.cl :=
  ⟨h.keep ((Below.refl _ W).alloc (Nat.le_refl _) _) fun k hk => .inr (by subst hk; simp), Bk.new W 39 a.cl⟩
theorem UC.weak {m : Pm} {u i a b : Nat} (h : UC m u i a) (hb : a ≤ b) : UC m u i b := ⟨h.ok, h.mo, by have := h.tt; omega, h.ln, h.lo, h.ow, h.q0, h.q1, h.rr⟩
set_option maxHeartbeats 16000000 in
theorem lawStarves {pl ur ah : Int} (hp : 0 ≤ pl ∧ pl < 256) (hu : 0 ≤ ur ∧ ur < 256) (ha : 0 ≤ ah ∧ ah < 256) (w : World) :
    Calls Try.prog 5 #[.int .u8 pl, .int .u8 ur, .int .u8 ah] w fun en w' => en = .returned (.bool true) ∧ Below w.heap.size w w' := by
  obtain ⟨n, hn⟩ : ∃ n : Nat, 1 + pl % 6 = n := ⟨(1 + pl % 6).toNat, by omega⟩
  obtain ⟨u, hu'⟩ : ∃ u : Nat, ur % 6 = u := ⟨(ur % 6).toNat, by omega⟩
  obtain ⟨A, hA⟩ : ∃ A : Nat, ah % 20 = A := ⟨(ah % 20).toNat, by omega⟩
  have n1 : 1 ≤ n := by omega
  have n6 : n ≤ 6 := by omega
  have u5 : u ≤ 5 := by omega
  have A19 : A ≤ 20 := by omega
  have HN := Lib.hid (n_new 20 w (by decide) (by decide))
  go_enter Try.func5, Try.ntmps5
  go_wp2_with fail
  refine HN.out.mono ?_
  rintro en w1 ⟨rfl, h1⟩
  have H1 := Lib.hid h1
  clear h1 HN
  go_wp2_with fail
  refine (l_awake _).mono ?_
  rintro en w2 ⟨rfl, hb2⟩
  have HS : Hid (∃ m, PcN w (fun _ => False) w2 (w.heap.size + 1) m ∧ UC m 0 0 0) := Lib.hid ⟨_, H1.out.next hb2, UC.new⟩
  clear hb2 H1
  go_wp2
  rw [hu']
  clear hn hu' hp hu
  go_loopw [11] (fun i wr => ∃ (j : Nat), i = .int .i64 j ∧ j ≤ u ∧ ∃ m, PcN w (fun _ => False) wr (w.heap.size + 1) m ∧ UC m j 0 0) (fun i _ => 8 - (intOf i).toNat)
  case atStart => exact ⟨0, rfl, Nat.zero_le _, HS.out⟩
  case round =>
    obtain ⟨j, rfl, hj, m, hq, hF⟩ := hrel
    clear HS
    by_cases hjk : j < u
    · have hjk' : (j : Int) < u := by omega
      obtain ⟨e1, e2, e3⟩ := hF.urgent (by omega)
      have hbx := boxed hq (uk j)
      obtain ⟨W, hW⟩ : ∃ W, W = wr.alloc (.cells #[.int .i64 (j : Nat), .int .i64 1] 39) := ⟨_, rfl⟩
      have hbW : PcN w (· = wr.heap.size) W (w.heap.size + 1) m ∧ Bk W 39 wr.heap.size [.int .i64 (j : Nat), .int .i64 1] := by rw [hW]; exact hbx
      have HC := n_know hbW.1 (uk j) 1
      rw [e1] at HC
      have HC := Lib.hid HC
      have HZ := Lib.hid hbW.2
      have HE := Lib.hid (And.intro e2 e3)
      clear hbW hbx e1 e2 e3 hq hF
      go_wp2_with fail
      rw [← hW]
      clear hW
      refine HC.out.mono ?_
      rintro en w7 ⟨rfl, h7, hk7⟩
      have zb7 := HZ.out.kp hk7 rfl
      have b0 : w7.cell? ⟨wr.heap.size, 0, none⟩ = some (.int .i64 (j : Nat)) := zb7.cell 0 rfl
      have b1 : w7.cell? ⟨wr.heap.size, 1, none⟩ = some (.int .i64 1) := zb7.cell 1 rfl
      have HC2 := n_owe h7 (uk j) 1000
      rw [HE.out.1] at HC2
      have HC2 := Lib.hid HC2
      clear h7 hk7 zb7 HC HZ
      go_wp2_with fail
      refine HC2.out.mono ?_
      rintro en w8 ⟨rfl, h8, _⟩
      have H8 := Lib.hid h8.drop
      clear h8 HC2 b0 b1
      go_wp2
      go_roundw
      case rel => exact ⟨j + 1, by go_num, by omega, _, H8.out, HE.out.2⟩
      case measure => simp [intOf]; omega
    · obtain rfl : u = j := by omega
      have hjk' : ¬ (u : Int) < u := by omega
      have HS : Hid (∃ m, PcN w (fun _ => False) wr (w.heap.size + 1) m ∧ UC m u 0 0) := Lib.hid ⟨_, hq, hF⟩
      clear hq hF hjk hj
      go_wp2
      go_loopw [13] (fun i wr => ∃ (j : Nat), i = .int .i64 j ∧ j ≤ A ∧ ∃ m, PcN w (fun _ => False) wr (w.heap.size + 1) m ∧ UC m u 0 j) (fun i _ => 20 - (intOf i).toNat)
      case atStart => exact ⟨0, rfl, Nat.zero_le _, HS.out⟩
      case round =>
        obtain ⟨j, rfl, hj, m, hq, hF⟩ := hrel
        clear HS
        by_cases hjk : j < A
        · have hjk' : (j : Int) < A := by omega
          have HC := Lib.hid (n_tick hq (by have := hF.tt; omega))
          have HF := Lib.hid hF.ahead
          clear hq hF
          go_wp2_with fail
          refine HC.out.mono ?_
          rintro en w6 ⟨rfl, h6, _⟩
          have H6 := Lib.hid h6
          clear h6 HC
          go_wp2
          go_roundw
          case rel => exact ⟨j + 1, by go_num, by omega, _, H6.out, HF.out⟩
          case measure => simp [intOf]; omega
        · obtain rfl : A = j := by omega
          have HS : Hid (∃ m, PcN w (fun _ => False) wr (w.heap.size + 1) m ∧ UC m u 0 20) := Lib.hid ⟨_, hq, hF.weak A19⟩
          have hjk' : ¬ (A : Int) < A := by omega
          have hjk2 : ¬ (A : Int) < ah % 20 := by omega
          clear hq hF hjk hj
          go_wp2
          clear hA hjk' hjk2 ha
          go_loopw [14] (fun i wr => ∃ (j : Nat), i = .int .i64 j ∧ j ≤ n ∧ ∃ m, PcN w (fun _ => False) wr (w.heap.size + 1) m ∧ UC m u j 20) (fun i _ => 8 - (intOf i).toNat)
          case atStart => exact ⟨0, rfl, Nat.zero_le _, HS.out⟩
          case round =>
            obtain ⟨j, rfl, hj, m, hq, hF⟩ := hrel
            clear HS
            by_cases hjk : j < n
            · have hjk' : (j : Int) < n := by omega
              obtain ⟨e1, e2, e3⟩ := hF.plain (by omega) u5
              have hbx := boxed hq (pk j)
              obtain ⟨W, hW⟩ : ∃ W, W = wr.alloc (.cells #[.int .i64 (j : Nat), .int .i64 2] 39) := ⟨_, rfl⟩
              have hbW : PcN w (· = wr.heap.size) W (w.heap.size + 1) m ∧ Bk W 39 wr.heap.size [.int .i64 (j : Nat), .int .i64 2] := by rw [hW]; exact hbx
              have HC := n_know hbW.1 (pk j) 0
              rw [e1] at HC
              have HC := Lib.hid HC
              have HZ := Lib.hid hbW.2
              have HE := Lib.hid (And.intro e2 e3)
              clear hbW hbx e1 e2 e3 hq hF
              go_wp2_with fail
              rw [← hW]
              clear hW
              refine HC.out.mono ?_
              rintro en w7 ⟨rfl, h7, hk7⟩
              have zb7 := HZ.out.kp hk7 rfl
              have b0 : w7.cell? ⟨wr.heap.size, 0, none⟩ = some (.int .i64 (j : Nat)) := zb7.cell 0 rfl
              have b1 : w7.cell? ⟨wr.heap.size, 1, none⟩ = some (.int .i64 2) := zb7.cell 1 rfl
              have HC2 := n_owe h7 (pk j) (1 + j)
              rw [HE.out.1] at HC2
              have HC2 := Lib.hid HC2
              clear h7 hk7 zb7 HC HZ
              go_wp2_with fail
              refine HC2.out.mono ?_
              rintro en w8 ⟨rfl, h8, _⟩
              have H8 := Lib.hid h8.drop
              clear h8 HC2 b0 b1
              go_wp2
              go_roundw
              case rel => exact ⟨j + 1, by go_num, by omega, _, H8.out, HE.out.2⟩
              case measure => simp [intOf]; omega
            · obtain rfl : n = j := by omega
              have hjk' : ¬ (n : Int) < n := by omega
              have HS : Hid (∃ m s, PcN w (fun _ => False) wr (w.heap.size + 1) m ∧ SI m u n 0 s) := Lib.hid ⟨_, _, hq, hF.turn⟩
              clear hq hF hjk hj
              go_wp2
              go_loopw [16] (fun i wr => ∃ (t : Nat), i = .int .i64 t ∧ t ≤ 5 * n ∧ ∃ m s, PcN w (fun _ => False) wr (w.heap.size + 1) m ∧ SI m u n t s) (fun i _ => 40 - (intOf i).toNat)
              case atStart => exact ⟨0, rfl, Nat.zero_le _, HS.out⟩
              case round =>
                obtain ⟨t, rfl, ht, m, s, hq, hF⟩ := hrel
                clear HS
                by_cases htk : t < 5 * n
                · have htk' : (t : Int) < 5 * n := by omega
                  obtain ⟨e1, s', e2⟩ := hF.tick htk n6
                  have HC := n_tick hq (by have := hF.tt; omega)
                  have HF := Lib.hid e2
                  clear hq hF e2
                  rcases Bool.eq_false_or_eq_true m.tickR.2.2.2 with hb | hb
                  · rw [hb] at HC
                    have HC := Lib.hid HC
                    clear e1 hb
                    go_wp2_with fail
                    refine HC.out.mono ?_
                    rintro en w6 ⟨rfl, h6, _⟩
                    have H6 := Lib.hid (h6.next ((Below.refl _ w6).alloc (Nat.le_refl _) (.cells #[.int .i64 m.tickR.2.1.s, .int .i64 m.tickR.2.1.c, .int .i64 m.tickR.2.2.1] 41)))
                    clear h6 HC
                    go_wp2
                    go_roundw
                    case rel => exact ⟨t + 1, by go_num, by omega, _, _, H6.out, HF.out⟩
                    case measure => simp [intOf]; omega
                  · rw [hb] at HC
                    have hu0 : ¬ 0 < u := fun e => by rw [e1 e] at hb; cases hb
                    have hu1 : ¬ (0 : Int) < u := by omega
                    have HC := Lib.hid HC
                    clear e1 hb hu0
                    go_wp2_with fail
                    refine HC.out.mono ?_
                    rintro en w6 ⟨rfl, h6, _⟩
                    have H6 := Lib.hid (h6.next ((Below.refl _ w6).alloc (Nat.le_refl _) (.cells #[.int .i64 m.tickR.2.1.s, .int .i64 m.tickR.2.1.c, .int .i64 m.tickR.2.2.1] 41)))
                    clear h6 HC
                    go_wp2
                    go_roundw
                    case rel => exact ⟨t + 1, by go_num, by omega, _, _, H6.out, HF.out⟩
                    case measure => simp [intOf]; omega
                · obtain rfl : t = 5 * n := by omega
                  have htk' : ¬ ((5 * n : Nat) : Int) < 5 * n := by omega
                  have HS : Hid (PcN w (fun _ => False) wr (w.heap.size + 1) m) := Lib.hid hq
                  have HA := Lib.hid hF.all
                  clear hq hF htk ht
                  go_wp2
                  go_loopw [19] (fun i wr => ∃ (j : Nat), i = .int .i64 j ∧ j ≤ n ∧ PcN w (fun _ => False) wr (w.heap.size + 1) m) (fun i _ => 8 - (intOf i).toNat)
                  case atStart => exact ⟨0, rfl, Nat.zero_le _, HS.out⟩
                  case round =>
                    obtain ⟨j, rfl, hj, hq⟩ := hrel
                    clear HS
                    by_cases hjk : j < n
                    · have hjk' : (j : Int) < n := by omega
                      have hx := HA.out j hjk
                      have HC := Lib.hid (n_issued hq (pk j))
                      have HQ := Lib.hid hq
                      have hx1 : ¬ (ofKey m.L (pk j)).i < 1 := by omega
                      clear hq hx
                      go_wp2_with fail
                      refine HC.out.mono ?_
                      rintro en w6 ⟨rfl, hb6⟩
                      have H6 := Lib.hid (HQ.out.next hb6)
                      clear hb6 HC
                      go_wp2
                      go_roundw
                      case rel => exact ⟨j + 1, by go_num, by omega, H6.out⟩
                      case measure => simp [intOf]; omega
                    · have HB := Lib.hid hq.bel
                      have hjk' : ¬ (j : Int) < n := by omega
                      clear hq
                      go_wp2
                      go_ret
                      exact ⟨rfl, HB.out⟩
end Go.Proofs.Ytdldocbfnjbhmaa
