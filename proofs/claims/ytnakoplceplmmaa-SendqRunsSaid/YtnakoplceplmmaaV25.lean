/- The law of any calls. -/
import Derived.Test.YtnakoplceplmmaaV24
set_option linter.unusedSimpArgs false
set_option linter.unusedVariables false
namespace Go.Proofs.Ytnakoplceplmmaa
open Go.RowKit Go.Shelf
/-- Between two calls. -/
def JI (w : World) (b p k : Nat) (P : Option Addr) (W : World) : Prop :=
  ∃ (g : Nat) (m : Sm) (A : Option Addr) (n c : Nat) (B : Option Addr) (k8 d8 : Nat) (C : Option Addr) (r e : Nat) (F : Nat → Prop), P = some ⟨g, 0, none⟩ ∧ JQ w b g m m A n c B k8 d8 C r e F W ∧ m.Ok ∧ m.Low ∧ m.most = p ∧ m.L.length ≤ 5 * k
theorem JI.next {w W W' : World} {b p k : Nat} {P : Option Addr} (h : JI w b p k P W) (hb : Below W.heap.size W W') : JI w b p k P W' := by
  obtain ⟨g, m, A, n, c, B, k8, d8, C, r, e, F, h1, h2, h3⟩ := h
  exact ⟨g, m, A, n, c, B, k8, d8, C, r, e, F, h1, h2.next hb, h3⟩
theorem Sm.again_most (m : Sm) (s : Int) : (m.again s).most = m.most ∧ (m.again s).L = m.L := by unfold Sm.again; split <;> exact ⟨rfl, rfl⟩
theorem Sm.ack_most (m : Sm) (s : Int) : (m.ack s).most = m.most ∧ (m.ack s).L = m.L := by unfold Sm.ack; split <;> exact ⟨rfl, rfl⟩
theorem Sm.send_most (m : Sm) : m.send.most = m.most ∧ m.send.L = m.L := by unfold Sm.send; split <;> exact ⟨rfl, rfl⟩
theorem bk_far {w w' : World} {z : Nat} {t : TypeId} {vs : List Value} {F : Nat → Prop} (h : Bk w t z vs) (hs : St F w w') (hz : ¬ F z) : Bk w' t z vs := h.st hs hz
set_option maxRecDepth 100000 in
set_option maxHeartbeats 32000000 in
theorem lawRuns (x : Int) (ops : Sl OpT.den) (w : World) (h : (Ty.sl OpT).reads w ops) :
    Calls Try.prog 3 #[.int .i64 x, .slice ops.A ops.n ops.c] w fun en w' => en = .returned (.bool true) ∧ Below w.heap.size w w' := by
  have HOp := Lib.hid (op_at h)
  obtain ⟨A0, n0, c0, l0⟩ := ops
  dsimp only at *
  clear h
  cases hok : okN x with
  | false =>
    go_enter Try.func3, Try.ntmps3
    go_wp2_with fail
    refine (q_new_no hok w).mono ?_
    rintro en w1 ⟨rfl, rfl⟩
    go_wp2_with fail
    refine (r_new_no hok _).mono ?_
    rintro en w2 ⟨rfl, hb2⟩
    have hba : Below w2.heap.size w2 (w2.alloc (.cells #[.int .i64 0, .slice none 0 0, .slice none 0 0, .int .i64 0, .slice none 0 0] 31)) := (Below.refl _ _).alloc (Nat.le_refl _) _
    have HB2 := Lib.hid (below_on hb2 hba)
    clear hb2 hba hok
    go_wp2_with fail
    refine (awake_any _).mono ?_
    rintro en w3 ⟨rfl, hb3⟩
    have HB3 := Lib.hid (below_on HB2.out hb3)
    clear hb3 HB2
    go_wp2
    go_loopw [5, 9] (fun q i W => q = .pointer none ∧ i = .int .i64 0 ∧ W = w3) (fun q i _ => 0)
    case atStart => exact ⟨rfl, rfl, rfl⟩
    case round =>
      obtain ⟨rfl, rfl, rfl⟩ := hrel
      by_cases hn0 : (0 : Int) < n0
      · go_wp2
        go_ret
        exact ⟨rfl, HB3.out⟩
      · go_wp2
        go_ret
        exact ⟨rfl, HB3.out⟩
  | true =>
    have hp : 1 ≤ x ∧ x ≤ 4096 := by simp only [okN, decide_eq_true_eq] at hok; exact hok
    obtain ⟨p, rfl⟩ : ∃ p : Nat, x = p := ⟨x.toNat, by omega⟩
    obtain ⟨hp1, hp2⟩ := hp
    go_enter Try.func3, Try.ntmps3
    go_wp2_with fail
    refine (q_new hok w).mono ?_
    rintro en w1 ⟨rfl, hj1, hb1⟩
    have hlt1 := hj1.lt _ rfl
    have HJ1 := Lib.hid (And.intro hj1 (And.intro hb1 hlt1))
    clear hj1 hb1 hlt1
    go_wp2_with fail
    refine (r_new hok w1 (fun _ => False)).mono ?_
    rintro en w2 ⟨A2, n2, c2, B2, k2, d2, C2, r2, e2, rfl, hr2, hb2⟩
    have hba : Below w2.heap.size w2 (w2.alloc (.cells #[.int .i64 (Sm.new p).most, .slice A2 n2 c2, .slice B2 k2 d2, .int .i64 (Sm.new p).nx, .slice C2 r2 e2] 31)) := (Below.refl _ _).alloc (Nat.le_refl _) _
    have hJ0 : JI w w2.heap.size p 0 (some ⟨w.heap.size, 0, none⟩) (w2.alloc (.cells #[.int .i64 (Sm.new p).most, .slice A2 n2 c2, .slice B2 k2 d2, .int .i64 (Sm.new p).nx, .slice C2 r2 e2] 31)) := by
      have hl := HJ1.out.2.2
      have hs2 := hb2.size
      have h0 := Sm.new_ok (k := p) (by omega) (by omega)
      exact ⟨w.heap.size, .new p, A2, n2, c2, B2, k2, d2, C2, r2, e2, (· = w.heap.size), rfl, ⟨(HJ1.out.1.below hb2).below hba, Bk.new w2 31 [.int .i64 (Sm.new p).most, .slice A2 n2 c2, .slice B2 k2 d2, .int .i64 (Sm.new p).nx, .slice C2 r2 e2], (hr2.mono fun j _ hj => hj.elim).below hba, (by show ¬ w2.heap.size = w.heap.size; omega), (fun j hj => by subst hj; exact Nat.le_refl _), by omega, below_on (below_on HJ1.out.2.1 hb2) hba⟩, h0.1, h0.2, rfl, Nat.zero_le _⟩
    have HJ0 := Lib.hid hJ0
    have HA := Lib.hid (awake_any (w2.alloc (.cells #[.int .i64 (Sm.new p).most, .slice A2 n2 c2, .slice B2 k2 d2, .int .i64 (Sm.new p).nx, .slice C2 r2 e2] 31)))
    clear hr2 hb2 hba hJ0 hok HJ1
    go_wp2_with fail
    refine HA.out.mono ?_
    rintro en w3 ⟨rfl, hb3⟩
    have HJ := Lib.hid (HJ0.out.next hb3)
    clear hb3 HA HJ0
    generalize w2.heap.size = b at *
    go_wp2
    go_loopw [5, 9] (fun q i wr => ∃ (k : Nat) (P : Option Addr), i = .int .i64 k ∧ k ≤ 80 ∧ q = .pointer P ∧ JI w b p k P wr) (fun q i _ => 80 - (intOf i).toNat)
    case atStart => exact ⟨0, _, rfl, Nat.zero_le _, rfl, HJ.out⟩
    case round =>
      obtain ⟨k, P, rfl, hk, rfl, hJk⟩ := hrel
      obtain ⟨g, m, A, n, c, B, k8, d8, C, r, e, F, rfl, hJR, ok, lw, hmost, hlen⟩ := hJk
      clear HJ
      by_cases hlt : k < n0 ∧ k < 80
      · obtain ⟨go_, oo, d, nv, y, rfl, hgo, hra, hd, hnv⟩ := HOp.out k hlt.1
        have c0' := (hJR.bel.cell (p := ⟨go_, oo + k * 3, none⟩) hgo).trans (hra 0 _ rfl)
        have c1' := (hJR.bel.cell (p := ⟨go_, oo + k * 3 + 1, none⟩) hgo).trans (hra 1 _ rfl)
        have c2' := (hJR.bel.cell (p := ⟨go_, oo + k * 3 + 2, none⟩) hgo).trans (hra 2 _ rfl)
        have hk1 : (k : Int) < n0 := by omega
        have hk2 : (k : Int) < 80 := by omega
        have hbao : Below wr.heap.size wr (wr.alloc (.cells #[.int .u8 d, .int .u8 nv, .int .i64 y] 36)) := (Below.refl _ _).alloc (Nat.le_refl _) _
        have HZ := Lib.hid (Bk.new wr 36 [.int .u8 d, .int .u8 nv, .int .i64 y])
        have HFw := Lib.hid hJR.q.lt
        have HBw := Lib.hid hJR.bx.lt
        have HJR := Lib.hid (hJR.next hbao)
        have HOK := Lib.hid (And.intro ok (And.intro lw (And.intro hmost hlen)))
        have HWs : Hid (wr.heap.size < (wr.alloc (.cells #[.int .u8 d, .int .u8 nv, .int .i64 y] 36)).heap.size) := Lib.hid (by simp)
        obtain ⟨hd1, hd2⟩ := hd
        obtain ⟨hv1, hv2⟩ := hnv
        clear hra hJR ok lw hmost hlen hbao hgo hlt
        generalize hW1 : wr.alloc (.cells #[.int .u8 d, .int .u8 nv, .int .i64 y] 36) = W1 at *
        have d0 := HZ.out.cell 0 rfl
        have d1 := HZ.out.cell 1 rfl
        have d2 := HZ.out.cell 2 rfl
        have hzb := HJR.out.bx
        rcases (by omega : d % 7 = 0 ∨ d % 7 = 1 ∨ d % 7 = 2 ∨ d % 7 = 3 ∨ d % 7 = 4 ∨ d % 7 = 5 ∨ d % 7 = 6) with hd7 | hd7 | hd7 | hd7 | hd7 | hd7 | hd7
        · as_aux_lemma =>
            have e0 : (d % 7 == 0) = true := by simpa using hd7
            clear hd7
            obtain ⟨kk, hkk⟩ : ∃ kk : Nat, nv % 6 = kk := ⟨(nv % 6).toNat, by omega⟩
            have hkb : kk ≤ 5 := by omega
            have HPc := Lib.hid (law_pieces kk k W1 (by omega) (by omega))
            have HPl := Lib.hid (pcs_len kk k)
            go_wp2_with (first
              | (go_at_call 9; refine HPc.out.mono ?_; rintro en W2 ⟨AP, nP, cP, rfl, hsl, hb2⟩
                 have HS2 := Lib.hid (And.intro hsl hb2)
                 have hzb := hzb.below hb2
                 have HRA := Lib.hid (r_add (X := fun j => (¬ F j ∧ j ≠ b) ∨ W1.heap.size ≤ j) (((HJR.out.next hb2).rq).mono fun j _ hj => .inl hj) HOK.out.1 HOK.out.2.1 (hsl.mono fun j _ hj => .inr hj) (by rw [HPl.out]; have := HOK.out.2.2.2; omega))
                 clear hsl hb2 d0 d1 d2)
              | (with_reducible refine at_load 31 (.tmp 7) (by rfl) ?_
                 first
                   | refine wpList_load_bk rowR rfl (.tmp 7) rfl b 0 rfl hzb [.int .i64 m.most, .slice A n c, .slice B k8 d8, .int .i64 m.nx, .slice C r e] rfl rfl ?_
                   | refine wpList_load_bk rowR rfl (.tmp 7) rfl b 0 rfl hzb [.int .i64 (m.added (pcs kk k)).most, .slice A3 n3 c3, .slice B3 k3 d3, .int .i64 (m.added (pcs kk k)).nx, .slice C3 r3 e3] rfl rfl ?_)
              | (go_at_call 10; refine HRA.out.mono ?_; rintro en W3 ⟨A3, n3, c3, B3, k3, d3, C3, r3, e3, rfl, hr3, hb3'⟩
                 have hb3 := below_on HS2.out.2 hb3'
                 have hzn := Bk.new W3 31 [.int .i64 (m.added (pcs kk k)).most, .slice A3 n3 c3, .slice B3 k3 d3, .int .i64 (m.added (pcs kk k)).nx, .slice C3 r3 e3]
                 have hb4 : Below W3.heap.size W3 (W3.alloc (.cells (List.toArray [.int .i64 (m.added (pcs kk k)).most, .slice A3 n3 c3, .slice B3 k3 d3, .int .i64 (m.added (pcs kk k)).nx, .slice C3 r3 e3]) 31)) := (Below.refl _ _).alloc (Nat.le_refl _) _
                 have HR3 := Lib.hid (And.intro (hr3.mono (X' := fun j => (¬ F j ∧ j ≠ b) ∨ W1.heap.size ≤ j) fun j _ hj => by
                   rcases hj with h | h
                   · exact h
                   · exact .inr (Nat.le_trans HS2.out.2.size h)) (And.intro hb3 hb4))
                 have HS3 := Lib.hid ((HS2.out.1.below hb3').below hb4)
                 have hbx5 := (hzb.below hb3').below hb4
                 clear hr3 hb3 hb4 hb3' hzb)
              | (with_reducible refine at_load 31 (.tmp 12) (by rfl) ?_
                 refine wpList_load_bk rowR rfl (.tmp 12) rfl W3.heap.size 0 rfl hzn [.int .i64 (m.added (pcs kk k)).most, .slice A3 n3 c3, .slice B3 k3 d3, .int .i64 (m.added (pcs kk k)).nx, .slice C3 r3 e3] rfl rfl ?_)
              | (with_reducible refine at_store 31 (.tmp 7) (.tmp 95) (by rfl) ?_
                 refine wpList_store_bk rowR rfl (.tmp 7) (.tmp 95) rfl b 0 rfl hbx5 [.int .i64 (m.added (pcs kk k)).most, .slice A3 n3 c3, .slice B3 k3 d3, .int .i64 (m.added (pcs kk k)).nx, .slice C3 r3 e3] rfl rfl (by show 0 + 5 ≤ 5; omega) (by simp [Value.oneCell']) ?_
                 intro W6 hz6 hw6
                 rw [lay_all _ _ (by rfl)] at hz6
                 have HJ6 := Lib.hid (JQ.ref HJR.out HR3.out.1 HR3.out.2.1 HR3.out.2.2 hz6 hw6)
                 have HZ6 := Lib.hid ((((HZ.out.below HR3.out.2.1).below HR3.out.2.2)).st (st_wr hw6) (fun e => by have := HBw.out; omega))
                 have d2 := HZ6.out.cell 2 rfl
                 have HW6 := Lib.hid (And.intro hw6 (below_on HR3.out.2.1 HR3.out.2.2))
                 have HA6 := Lib.hid (q_add HJ6.out.q (HS3.out.st (st_wr hw6) (fun j hj e => by have h1 := HBw.out; have h2 := HWs.out; omega)) (fun j hj hf => by have h1 := HFw.out j hf; have h2 := HWs.out; omega) (by rw [HPl.out]; have := HOK.out.2.2.2; omega))
                 clear hzn hbx5 hz6 hw6)
              | (go_at_call 11; refine HA6.out.mono ?_; rintro en W7 ⟨rfl, hd7⟩
                 obtain ⟨F7, hj7, hs7, hg7⟩ := JQ.did HJ6.out hd7
                 have HT := Lib.hid hj7
                 have HZT := Lib.hid (HZ6.out.st hs7 (fun hf => by have := HFw.out _ hf; omega))
                 have HTO : Hid ((m.added (pcs kk k)).Ok ∧ (m.added (pcs kk k)).Low ∧ (m.added (pcs kk k)).most = p ∧ (m.added (pcs kk k)).L.length ≤ 5 * (k + 1)) := Lib.hid (by
                   obtain ⟨ok, lw, hmost, hlen⟩ := HOK.out
                   have h1 := Sm.added_ok ok lw (l := pcs kk k) (by rw [HPl.out]; omega)
                   rw [HPl.out] at h1
                   exact ⟨h1.1, h1.2.1, h1.2.2.2.trans hmost, by have := h1.2.2.1; omega⟩)
                 clear hd7 hj7 hs7 hg7 d2
                 have hzb := HT.out.bx
                 have d2 := HZT.out.cell 2 rfl
                 have HTq := Lib.hid HT.out.q
                 have hlo1 := HTO.out.1.ln
                 have hlo2 := HTO.out.1.rm
                 have hmx := HTO.out.2.2.1
                 have hbd1 : ¬ ((p : Int) < ((m.added (pcs kk k)).L.length : Int) - (m.added (pcs kk k)).lo) := by omega
                 have hlb : (m.added (pcs kk k)).L.length ≤ 1000000000 := HTO.out.1.big
                 have hlb2 : (m.added (pcs kk k)).lo ≤ 1000000000 := by have := HTO.out.1.nl; omega
                 clear hlo1 hlo2 hmx)
              | (go_at_call 24; refine (shows_true HTq.out HT.out.rq HTO.out.1 HTO.out.2.1 _).mono ?_; rintro en w9 ⟨rfl, hb9⟩
                 have HB9 := Lib.hid hb9
                 have HQ9 := Lib.hid (HTq.out.below hb9)
                 clear hb9 d2 hzb)
              | (go_at_call 25; refine (q_total HQ9.out).mono ?_; rintro en w10 ⟨rfl, hb10⟩
                 have HB10 := Lib.hid (below_on HB9.out hb10)
                 have HQ10 := Lib.hid (HQ9.out.below hb10)
                 clear hb10)
              | (go_at_call 26; refine (q_low HQ10.out).mono ?_; rintro en w' ⟨rfl, rfl⟩)
              | (go_at_call 27; refine (q_row HQ10.out).mono ?_; rintro en w11 ⟨A11, n11, c11, rfl, hl11, hb11⟩
                 have hbd2 : ¬ ((p : Int) < n11) := by
                   have h1 := hl11.1
                   rw [intV_len] at h1
                   have h2 := HTO.out.1.row_len
                   have h3 := HTO.out.2.2.1
                   omega
                 have HB11 := Lib.hid (below_on HB10.out hb11)
                 clear hb11 hl11))
            go_roundw
            case rel => exact ⟨k + 1, _, by go_num, by omega, rfl, g, m.added (pcs kk k), A3, n3, c3, B3, k3, d3, C3, r3, e3, F7, rfl, HT.out.next HB11.out, HTO.out⟩
            case measure => simp [intOf]; omega
        · as_aux_lemma =>
            have e0 : (d % 7 == 0) = false := by simp; omega
            have e1 : (d % 7 == 1) = true := by simpa using hd7
            clear hd7
            go_wp2_with (first
              | (with_reducible refine at_load 31 (.tmp 7) (by rfl) ?_
                 first
                   | refine wpList_load_bk rowR rfl (.tmp 7) rfl b 0 rfl hzb [.int .i64 m.most, .slice A n c, .slice B k8 d8, .int .i64 m.nx, .slice C r e] rfl rfl ?_
                   | refine wpList_load_bk rowR rfl (.tmp 7) rfl b 0 rfl hzb [.int .i64 (m.send).most, .slice A3 n3 c3, .slice B3 k3 d3, .int .i64 (m.send).nx, .slice C3 r3 e3] rfl rfl ?_)
              | (go_at_call 12; refine (r_send HJR.out.rq HOK.out.1).mono ?_; rintro en W3 ⟨A3, n3, c3, B3, k3, d3, C3, r3, e3, rfl, hr3, hb3⟩
                 have hzn := Bk.new W3 31 [.int .i64 (m.send).most, .slice A3 n3 c3, .slice B3 k3 d3, .int .i64 (m.send).nx, .slice C3 r3 e3]
                 have hb4 : Below W3.heap.size W3 (W3.alloc (.cells (List.toArray [.int .i64 (m.send).most, .slice A3 n3 c3, .slice B3 k3 d3, .int .i64 (m.send).nx, .slice C3 r3 e3]) 31)) := (Below.refl _ _).alloc (Nat.le_refl _) _
                 have HR3 := Lib.hid (And.intro (hr3.mono (X' := fun j => (¬ F j ∧ j ≠ b) ∨ W1.heap.size ≤ j) fun j _ hj => .inl hj) (And.intro hb3 hb4))
                 have hbx5 := (hzb.below hb3).below hb4
                 clear hr3 hb3 hb4 d2 d0 d1 hzb)
              | (with_reducible refine at_load 31 (.tmp 14) (by rfl) ?_
                 refine wpList_load_bk rowR rfl (.tmp 14) rfl W3.heap.size 0 rfl hzn [.int .i64 (m.send).most, .slice A3 n3 c3, .slice B3 k3 d3, .int .i64 (m.send).nx, .slice C3 r3 e3] rfl rfl ?_)
              | (with_reducible refine at_store 31 (.tmp 7) (.tmp 109) (by rfl) ?_
                 refine wpList_store_bk rowR rfl (.tmp 7) (.tmp 109) rfl b 0 rfl hbx5 [.int .i64 (m.send).most, .slice A3 n3 c3, .slice B3 k3 d3, .int .i64 (m.send).nx, .slice C3 r3 e3] rfl rfl (by show 0 + 5 ≤ 5; omega) (by simp [Value.oneCell']) ?_
                 intro W6 hz6 hw6
                 rw [lay_all _ _ (by rfl)] at hz6
                 have HJ6 := Lib.hid (JQ.ref HJR.out HR3.out.1 HR3.out.2.1 HR3.out.2.2 hz6 hw6)
                 have HZ6 := Lib.hid ((((HZ.out.below HR3.out.2.1).below HR3.out.2.2)).st (st_wr hw6) (fun e => by have := HBw.out; omega))
                 have d2 := HZ6.out.cell 2 rfl
                 have HW6 := Lib.hid (And.intro hw6 (below_on HR3.out.2.1 HR3.out.2.2))
                 have HA6 := Lib.hid (q_send HJ6.out.q)
                 clear hzn hbx5 hz6 hw6)
              | (go_at_call 13; refine HA6.out.mono ?_; rintro en W7 ⟨rfl, hd7⟩
                 obtain ⟨F7, hj7, hs7, hg7⟩ := JQ.did HJ6.out hd7
                 have HT := Lib.hid hj7
                 have HZT := Lib.hid (HZ6.out.st hs7 (fun hf => by have := HFw.out _ hf; omega))
                 have HTO : Hid ((m.send).Ok ∧ (m.send).Low ∧ (m.send).most = p ∧ (m.send).L.length ≤ 5 * (k + 1)) := Lib.hid (by
                   obtain ⟨ok, lw, hmost, hlen⟩ := HOK.out
                   have h1 := Sm.send_ok ok lw
                   have h2 := m.send_most
                   exact ⟨h1.1, h1.2, h2.1.trans hmost, by rw [h2.2]; omega⟩)
                 clear hd7 hj7 hs7 hg7 d2
                 have hzb := HT.out.bx
                 have d2 := HZT.out.cell 2 rfl
                 have HTq := Lib.hid HT.out.q
                 have hlo1 := HTO.out.1.ln
                 have hlo2 := HTO.out.1.rm
                 have hmx := HTO.out.2.2.1
                 have hbd1 : ¬ ((p : Int) < ((m.send).L.length : Int) - (m.send).lo) := by omega
                 have hlb : (m.send).L.length ≤ 1000000000 := HTO.out.1.big
                 have hlb2 : (m.send).lo ≤ 1000000000 := by have := HTO.out.1.nl; omega
                 clear hlo1 hlo2 hmx)
              | (go_at_call 24; refine (shows_true HTq.out HT.out.rq HTO.out.1 HTO.out.2.1 _).mono ?_; rintro en w9 ⟨rfl, hb9⟩
                 have HB9 := Lib.hid hb9
                 have HQ9 := Lib.hid (HTq.out.below hb9)
                 clear hb9 d2 hzb)
              | (go_at_call 25; refine (q_total HQ9.out).mono ?_; rintro en w10 ⟨rfl, hb10⟩
                 have HB10 := Lib.hid (below_on HB9.out hb10)
                 have HQ10 := Lib.hid (HQ9.out.below hb10)
                 clear hb10)
              | (go_at_call 26; refine (q_low HQ10.out).mono ?_; rintro en w' ⟨rfl, rfl⟩)
              | (go_at_call 27; refine (q_row HQ10.out).mono ?_; rintro en w11 ⟨A11, n11, c11, rfl, hl11, hb11⟩
                 have hbd2 : ¬ ((p : Int) < n11) := by
                   have h1 := hl11.1
                   rw [intV_len] at h1
                   have h2 := HTO.out.1.row_len
                   have h3 := HTO.out.2.2.1
                   omega
                 have HB11 := Lib.hid (below_on HB10.out hb11)
                 clear hb11 hl11))
            go_roundw
            case rel => exact ⟨k + 1, _, by go_num, by omega, rfl, g, m.send, A3, n3, c3, B3, k3, d3, C3, r3, e3, F7, rfl, HT.out.next HB11.out, HTO.out⟩
            case measure => simp [intOf]; omega
        · as_aux_lemma =>
            have e0 : (d % 7 == 0) = false := by simp; omega
            have e1 : (d % 7 == 1) = false := by simp; omega
            have e2 : (d % 7 == 2) = true := by simpa using hd7
            clear hd7
            go_wp2_with (first
              | (with_reducible refine at_load 31 (.tmp 7) (by rfl) ?_
                 first
                   | refine wpList_load_bk rowR rfl (.tmp 7) rfl b 0 rfl hzb [.int .i64 m.most, .slice A n c, .slice B k8 d8, .int .i64 m.nx, .slice C r e] rfl rfl ?_
                   | refine wpList_load_bk rowR rfl (.tmp 7) rfl b 0 rfl hzb [.int .i64 (m.ack y).most, .slice A3 n3 c3, .slice B3 k3 d3, .int .i64 (m.ack y).nx, .slice C3 r3 e3] rfl rfl ?_)
              | (go_at_call 14; refine (r_ack HJR.out.rq HOK.out.1 HOK.out.2.1 y).mono ?_; rintro en W3 ⟨A3, n3, c3, B3, k3, d3, C3, r3, e3, rfl, hr3, hb3⟩
                 have hzn := Bk.new W3 31 [.int .i64 (m.ack y).most, .slice A3 n3 c3, .slice B3 k3 d3, .int .i64 (m.ack y).nx, .slice C3 r3 e3]
                 have hb4 : Below W3.heap.size W3 (W3.alloc (.cells (List.toArray [.int .i64 (m.ack y).most, .slice A3 n3 c3, .slice B3 k3 d3, .int .i64 (m.ack y).nx, .slice C3 r3 e3]) 31)) := (Below.refl _ _).alloc (Nat.le_refl _) _
                 have HR3 := Lib.hid (And.intro (hr3.mono (X' := fun j => (¬ F j ∧ j ≠ b) ∨ W1.heap.size ≤ j) fun j _ hj => hj) (And.intro hb3 hb4))
                 have hbx5 := (hzb.below hb3).below hb4
                 clear hr3 hb3 hb4 d2 d0 d1 hzb)
              | (with_reducible refine at_load 31 (.tmp 19) (by rfl) ?_
                 refine wpList_load_bk rowR rfl (.tmp 19) rfl W3.heap.size 0 rfl hzn [.int .i64 (m.ack y).most, .slice A3 n3 c3, .slice B3 k3 d3, .int .i64 (m.ack y).nx, .slice C3 r3 e3] rfl rfl ?_)
              | (with_reducible refine at_store 31 (.tmp 7) (.tmp 132) (by rfl) ?_
                 refine wpList_store_bk rowR rfl (.tmp 7) (.tmp 132) rfl b 0 rfl hbx5 [.int .i64 (m.ack y).most, .slice A3 n3 c3, .slice B3 k3 d3, .int .i64 (m.ack y).nx, .slice C3 r3 e3] rfl rfl (by show 0 + 5 ≤ 5; omega) (by simp [Value.oneCell']) ?_
                 intro W6 hz6 hw6
                 rw [lay_all _ _ (by rfl)] at hz6
                 have HJ6 := Lib.hid (JQ.ref HJR.out HR3.out.1 HR3.out.2.1 HR3.out.2.2 hz6 hw6)
                 have HZ6 := Lib.hid ((((HZ.out.below HR3.out.2.1).below HR3.out.2.2)).st (st_wr hw6) (fun e => by have := HBw.out; omega))
                 have d2 := HZ6.out.cell 2 rfl
                 have HW6 := Lib.hid (And.intro hw6 (below_on HR3.out.2.1 HR3.out.2.2))
                 have HA6 := Lib.hid (q_ack HJ6.out.q HOK.out.1 y)
                 clear hzn hbx5 hz6 hw6)
              | (go_at_call 15; refine HA6.out.mono ?_; rintro en W7 ⟨rfl, hd7⟩
                 obtain ⟨F7, hj7, hs7, hg7⟩ := JQ.did HJ6.out hd7
                 have HT := Lib.hid hj7
                 have HZT := Lib.hid (HZ6.out.st hs7 (fun hf => by have := HFw.out _ hf; omega))
                 have HTO : Hid ((m.ack y).Ok ∧ (m.ack y).Low ∧ (m.ack y).most = p ∧ (m.ack y).L.length ≤ 5 * (k + 1)) := Lib.hid (by
                   obtain ⟨ok, lw, hmost, hlen⟩ := HOK.out
                   have h1 := Sm.ack_ok ok lw y
                   have h2 := m.ack_most y
                   exact ⟨h1.1, h1.2, h2.1.trans hmost, by rw [h2.2]; omega⟩)
                 clear hd7 hj7 hs7 hg7 d2
                 have hzb := HT.out.bx
                 have d2 := HZT.out.cell 2 rfl
                 have HTq := Lib.hid HT.out.q
                 have hlo1 := HTO.out.1.ln
                 have hlo2 := HTO.out.1.rm
                 have hmx := HTO.out.2.2.1
                 have hbd1 : ¬ ((p : Int) < ((m.ack y).L.length : Int) - (m.ack y).lo) := by omega
                 have hlb : (m.ack y).L.length ≤ 1000000000 := HTO.out.1.big
                 have hlb2 : (m.ack y).lo ≤ 1000000000 := by have := HTO.out.1.nl; omega
                 clear hlo1 hlo2 hmx)
              | (go_at_call 24; refine (shows_true HTq.out HT.out.rq HTO.out.1 HTO.out.2.1 _).mono ?_; rintro en w9 ⟨rfl, hb9⟩
                 have HB9 := Lib.hid hb9
                 have HQ9 := Lib.hid (HTq.out.below hb9)
                 clear hb9 d2 hzb)
              | (go_at_call 25; refine (q_total HQ9.out).mono ?_; rintro en w10 ⟨rfl, hb10⟩
                 have HB10 := Lib.hid (below_on HB9.out hb10)
                 have HQ10 := Lib.hid (HQ9.out.below hb10)
                 clear hb10)
              | (go_at_call 26; refine (q_low HQ10.out).mono ?_; rintro en w' ⟨rfl, rfl⟩)
              | (go_at_call 27; refine (q_row HQ10.out).mono ?_; rintro en w11 ⟨A11, n11, c11, rfl, hl11, hb11⟩
                 have hbd2 : ¬ ((p : Int) < n11) := by
                   have h1 := hl11.1
                   rw [intV_len] at h1
                   have h2 := HTO.out.1.row_len
                   have h3 := HTO.out.2.2.1
                   omega
                 have HB11 := Lib.hid (below_on HB10.out hb11)
                 clear hb11 hl11))
            go_roundw
            case rel => exact ⟨k + 1, _, by go_num, by omega, rfl, g, m.ack y, A3, n3, c3, B3, k3, d3, C3, r3, e3, F7, rfl, HT.out.next HB11.out, HTO.out⟩
            case measure => simp [intOf]; omega
        · as_aux_lemma =>
            have e0 : (d % 7 == 0) = false := by simp; omega
            have e1 : (d % 7 == 1) = false := by simp; omega
            have e2 : (d % 7 == 2) = false := by simp; omega
            have e3 : (d % 7 == 3) = true := by simpa using hd7
            clear hd7
            go_wp2_with (first
              | (with_reducible refine at_load 31 (.tmp 7) (by rfl) ?_
                 first
                   | refine wpList_load_bk rowR rfl (.tmp 7) rfl b 0 rfl hzb [.int .i64 m.most, .slice A n c, .slice B k8 d8, .int .i64 m.nx, .slice C r e] rfl rfl ?_
                   | refine wpList_load_bk rowR rfl (.tmp 7) rfl b 0 rfl hzb [.int .i64 (m.again y).most, .slice A3 n3 c3, .slice B3 k3 d3, .int .i64 (m.again y).nx, .slice C3 r3 e3] rfl rfl ?_)
              | (go_at_call 16; refine (r_again HJR.out.rq HOK.out.1 HOK.out.2.1 y).mono ?_; rintro en W3 ⟨A3, n3, c3, B3, k3, d3, C3, r3, e3, rfl, hr3, hb3⟩
                 have hzn := Bk.new W3 31 [.int .i64 (m.again y).most, .slice A3 n3 c3, .slice B3 k3 d3, .int .i64 (m.again y).nx, .slice C3 r3 e3]
                 have hb4 : Below W3.heap.size W3 (W3.alloc (.cells (List.toArray [.int .i64 (m.again y).most, .slice A3 n3 c3, .slice B3 k3 d3, .int .i64 (m.again y).nx, .slice C3 r3 e3]) 31)) := (Below.refl _ _).alloc (Nat.le_refl _) _
                 have HR3 := Lib.hid (And.intro (hr3.mono (X' := fun j => (¬ F j ∧ j ≠ b) ∨ W1.heap.size ≤ j) fun j _ hj => hj) (And.intro hb3 hb4))
                 have hbx5 := (hzb.below hb3).below hb4
                 clear hr3 hb3 hb4 d2 d0 d1 hzb)
              | (with_reducible refine at_load 31 (.tmp 21) (by rfl) ?_
                 refine wpList_load_bk rowR rfl (.tmp 21) rfl W3.heap.size 0 rfl hzn [.int .i64 (m.again y).most, .slice A3 n3 c3, .slice B3 k3 d3, .int .i64 (m.again y).nx, .slice C3 r3 e3] rfl rfl ?_)
              | (with_reducible refine at_store 31 (.tmp 7) (.tmp 148) (by rfl) ?_
                 refine wpList_store_bk rowR rfl (.tmp 7) (.tmp 148) rfl b 0 rfl hbx5 [.int .i64 (m.again y).most, .slice A3 n3 c3, .slice B3 k3 d3, .int .i64 (m.again y).nx, .slice C3 r3 e3] rfl rfl (by show 0 + 5 ≤ 5; omega) (by simp [Value.oneCell']) ?_
                 intro W6 hz6 hw6
                 rw [lay_all _ _ (by rfl)] at hz6
                 have HJ6 := Lib.hid (JQ.ref HJR.out HR3.out.1 HR3.out.2.1 HR3.out.2.2 hz6 hw6)
                 have HZ6 := Lib.hid ((((HZ.out.below HR3.out.2.1).below HR3.out.2.2)).st (st_wr hw6) (fun e => by have := HBw.out; omega))
                 have d2 := HZ6.out.cell 2 rfl
                 have HW6 := Lib.hid (And.intro hw6 (below_on HR3.out.2.1 HR3.out.2.2))
                 have HA6 := Lib.hid (q_again HJ6.out.q HOK.out.1 y)
                 clear hzn hbx5 hz6 hw6)
              | (go_at_call 17; refine HA6.out.mono ?_; rintro en W7 ⟨rfl, hd7⟩
                 obtain ⟨F7, hj7, hs7, hg7⟩ := JQ.did HJ6.out hd7
                 have HT := Lib.hid hj7
                 have HZT := Lib.hid (HZ6.out.st hs7 (fun hf => by have := HFw.out _ hf; omega))
                 have HTO : Hid ((m.again y).Ok ∧ (m.again y).Low ∧ (m.again y).most = p ∧ (m.again y).L.length ≤ 5 * (k + 1)) := Lib.hid (by
                   obtain ⟨ok, lw, hmost, hlen⟩ := HOK.out
                   have h1 := Sm.again_ok ok lw y
                   have h2 := m.again_most y
                   exact ⟨h1.1, h1.2, h2.1.trans hmost, by rw [h2.2]; omega⟩)
                 clear hd7 hj7 hs7 hg7 d2
                 have hzb := HT.out.bx
                 have d2 := HZT.out.cell 2 rfl
                 have HTq := Lib.hid HT.out.q
                 have hlo1 := HTO.out.1.ln
                 have hlo2 := HTO.out.1.rm
                 have hmx := HTO.out.2.2.1
                 have hbd1 : ¬ ((p : Int) < ((m.again y).L.length : Int) - (m.again y).lo) := by omega
                 have hlb : (m.again y).L.length ≤ 1000000000 := HTO.out.1.big
                 have hlb2 : (m.again y).lo ≤ 1000000000 := by have := HTO.out.1.nl; omega
                 clear hlo1 hlo2 hmx)
              | (go_at_call 24; refine (shows_true HTq.out HT.out.rq HTO.out.1 HTO.out.2.1 _).mono ?_; rintro en w9 ⟨rfl, hb9⟩
                 have HB9 := Lib.hid hb9
                 have HQ9 := Lib.hid (HTq.out.below hb9)
                 clear hb9 d2 hzb)
              | (go_at_call 25; refine (q_total HQ9.out).mono ?_; rintro en w10 ⟨rfl, hb10⟩
                 have HB10 := Lib.hid (below_on HB9.out hb10)
                 have HQ10 := Lib.hid (HQ9.out.below hb10)
                 clear hb10)
              | (go_at_call 26; refine (q_low HQ10.out).mono ?_; rintro en w' ⟨rfl, rfl⟩)
              | (go_at_call 27; refine (q_row HQ10.out).mono ?_; rintro en w11 ⟨A11, n11, c11, rfl, hl11, hb11⟩
                 have hbd2 : ¬ ((p : Int) < n11) := by
                   have h1 := hl11.1
                   rw [intV_len] at h1
                   have h2 := HTO.out.1.row_len
                   have h3 := HTO.out.2.2.1
                   omega
                 have HB11 := Lib.hid (below_on HB10.out hb11)
                 clear hb11 hl11))
            go_roundw
            case rel => exact ⟨k + 1, _, by go_num, by omega, rfl, g, m.again y, A3, n3, c3, B3, k3, d3, C3, r3, e3, F7, rfl, HT.out.next HB11.out, HTO.out⟩
            case measure => simp [intOf]; omega
        · as_aux_lemma =>
            have e0 : (d % 7 == 0) = false := by simp; omega
            have e1 : (d % 7 == 1) = false := by simp; omega
            have e2 : (d % 7 == 2) = false := by simp; omega
            have e3 : (d % 7 == 3) = false := by simp; omega
            have e4 : (d % 7 == 4) = true := by simpa using hd7
            clear hd7
            go_wp2_with (first
              | (with_reducible refine at_load 31 (.tmp 7) (by rfl) ?_
                 first
                   | refine wpList_load_bk rowR rfl (.tmp 7) rfl b 0 rfl hzb [.int .i64 m.most, .slice A n c, .slice B k8 d8, .int .i64 m.nx, .slice C r e] rfl rfl ?_
                   | refine wpList_load_bk rowR rfl (.tmp 7) rfl b 0 rfl hzb [.int .i64 (m.rept).most, .slice A3 n3 c3, .slice B3 k3 d3, .int .i64 (m.rept).nx, .slice C3 r3 e3] rfl rfl ?_)
              | (go_at_call 18; refine (r_repeat HJR.out.rq HOK.out.1).mono ?_; rintro en W3 ⟨A3, n3, c3, B3, k3, d3, C3, r3, e3, rfl, hr3, hb3⟩
                 have hzn := Bk.new W3 31 [.int .i64 (m.rept).most, .slice A3 n3 c3, .slice B3 k3 d3, .int .i64 (m.rept).nx, .slice C3 r3 e3]
                 have hb4 : Below W3.heap.size W3 (W3.alloc (.cells (List.toArray [.int .i64 (m.rept).most, .slice A3 n3 c3, .slice B3 k3 d3, .int .i64 (m.rept).nx, .slice C3 r3 e3]) 31)) := (Below.refl _ _).alloc (Nat.le_refl _) _
                 have HR3 := Lib.hid (And.intro (hr3.mono (X' := fun j => (¬ F j ∧ j ≠ b) ∨ W1.heap.size ≤ j) fun j _ hj => .inl hj) (And.intro hb3 hb4))
                 have hbx5 := (hzb.below hb3).below hb4
                 clear hr3 hb3 hb4 d2 d0 d1 hzb)
              | (with_reducible refine at_load 31 (.tmp 23) (by rfl) ?_
                 refine wpList_load_bk rowR rfl (.tmp 23) rfl W3.heap.size 0 rfl hzn [.int .i64 (m.rept).most, .slice A3 n3 c3, .slice B3 k3 d3, .int .i64 (m.rept).nx, .slice C3 r3 e3] rfl rfl ?_)
              | (with_reducible refine at_store 31 (.tmp 7) (.tmp 163) (by rfl) ?_
                 refine wpList_store_bk rowR rfl (.tmp 7) (.tmp 163) rfl b 0 rfl hbx5 [.int .i64 (m.rept).most, .slice A3 n3 c3, .slice B3 k3 d3, .int .i64 (m.rept).nx, .slice C3 r3 e3] rfl rfl (by show 0 + 5 ≤ 5; omega) (by simp [Value.oneCell']) ?_
                 intro W6 hz6 hw6
                 rw [lay_all _ _ (by rfl)] at hz6
                 have HJ6 := Lib.hid (JQ.ref HJR.out HR3.out.1 HR3.out.2.1 HR3.out.2.2 hz6 hw6)
                 have HZ6 := Lib.hid ((((HZ.out.below HR3.out.2.1).below HR3.out.2.2)).st (st_wr hw6) (fun e => by have := HBw.out; omega))
                 have d2 := HZ6.out.cell 2 rfl
                 have HW6 := Lib.hid (And.intro hw6 (below_on HR3.out.2.1 HR3.out.2.2))
                 have HA6 := Lib.hid (q_repeat HJ6.out.q)
                 clear hzn hbx5 hz6 hw6)
              | (go_at_call 19; refine HA6.out.mono ?_; rintro en W7 ⟨rfl, hd7⟩
                 obtain ⟨F7, hj7, hs7, hg7⟩ := JQ.did HJ6.out hd7
                 have HT := Lib.hid hj7
                 have HZT := Lib.hid (HZ6.out.st hs7 (fun hf => by have := HFw.out _ hf; omega))
                 have HTO : Hid ((m.rept).Ok ∧ (m.rept).Low ∧ (m.rept).most = p ∧ (m.rept).L.length ≤ 5 * (k + 1)) := Lib.hid (by
                   obtain ⟨ok, lw, hmost, hlen⟩ := HOK.out
                   have h1 := Sm.rept_ok ok lw
                   exact ⟨h1.1, h1.2, hmost, by show m.L.length ≤ _; omega⟩)
                 clear hd7 hj7 hs7 hg7 d2
                 have hzb := HT.out.bx
                 have d2 := HZT.out.cell 2 rfl
                 have HTq := Lib.hid HT.out.q
                 have hlo1 := HTO.out.1.ln
                 have hlo2 := HTO.out.1.rm
                 have hmx := HTO.out.2.2.1
                 have hbd1 : ¬ ((p : Int) < ((m.rept).L.length : Int) - (m.rept).lo) := by omega
                 have hlb : (m.rept).L.length ≤ 1000000000 := HTO.out.1.big
                 have hlb2 : (m.rept).lo ≤ 1000000000 := by have := HTO.out.1.nl; omega
                 clear hlo1 hlo2 hmx)
              | (go_at_call 24; refine (shows_true HTq.out HT.out.rq HTO.out.1 HTO.out.2.1 _).mono ?_; rintro en w9 ⟨rfl, hb9⟩
                 have HB9 := Lib.hid hb9
                 have HQ9 := Lib.hid (HTq.out.below hb9)
                 clear hb9 d2 hzb)
              | (go_at_call 25; refine (q_total HQ9.out).mono ?_; rintro en w10 ⟨rfl, hb10⟩
                 have HB10 := Lib.hid (below_on HB9.out hb10)
                 have HQ10 := Lib.hid (HQ9.out.below hb10)
                 clear hb10)
              | (go_at_call 26; refine (q_low HQ10.out).mono ?_; rintro en w' ⟨rfl, rfl⟩)
              | (go_at_call 27; refine (q_row HQ10.out).mono ?_; rintro en w11 ⟨A11, n11, c11, rfl, hl11, hb11⟩
                 have hbd2 : ¬ ((p : Int) < n11) := by
                   have h1 := hl11.1
                   rw [intV_len] at h1
                   have h2 := HTO.out.1.row_len
                   have h3 := HTO.out.2.2.1
                   omega
                 have HB11 := Lib.hid (below_on HB10.out hb11)
                 clear hb11 hl11))
            go_roundw
            case rel => exact ⟨k + 1, _, by go_num, by omega, rfl, g, m.rept, A3, n3, c3, B3, k3, d3, C3, r3, e3, F7, rfl, HT.out.next HB11.out, HTO.out⟩
            case measure => simp [intOf]; omega
        · as_aux_lemma =>
            have e0 : (d % 7 == 0) = false := by simp; omega
            have e1 : (d % 7 == 1) = false := by simp; omega
            have e2 : (d % 7 == 2) = false := by simp; omega
            have e3 : (d % 7 == 3) = false := by simp; omega
            have e4 : (d % 7 == 4) = false := by simp; omega
            have e5 : (d % 7 == 5) = true := by simpa using hd7
            clear hd7
            go_wp2_with (first
              | (go_at_call 20; refine (q_piece HJR.out.q y).mono ?_; rintro en W2 ⟨q2, rfl, hs2, hr2, hb2⟩
                 have z2 := Bk.new W2 49 [.slice q2.A q2.n q2.c, .bool q2.en, .bool q2.fn]
                 have hb3 : Below W2.heap.size W2 (W2.alloc (.cells #[.slice q2.A q2.n q2.c, .bool q2.en, .bool q2.fn] 49)) := (Below.refl _ _).alloc (Nat.le_refl _) _
                 have hzb := (hzb.below hb2).below hb3
                 have d2 := ((HZ.out.below hb2).below hb3).cell 2 rfl
                 have H2 := Lib.hid (And.intro hs2 (And.intro (hr2.below hb3) (And.intro z2 (below_on hb2 hb3))))
                 clear hs2 hr2 hb2 hb3 z2 d0 d1)
              | (with_reducible refine at_load 31 (.tmp 7) (by rfl) ?_
                 refine wpList_load_bk rowR rfl (.tmp 7) rfl b 0 rfl hzb [.int .i64 m.most, .slice A n c, .slice B k8 d8, .int .i64 m.nx, .slice C r e] rfl rfl ?_)
              | (go_at_call 21; refine (r_piece (HJR.out.next H2.out.2.2.2).rq HOK.out.1 HOK.out.2.1 y).mono ?_; rintro en W4 ⟨q4, rfl, hs4, hr4, hb4⟩
                 have z4 := Bk.new W4 49 [.slice q4.A q4.n q4.c, .bool q4.en, .bool q4.fn]
                 have hb5 : Below W4.heap.size W4 (W4.alloc (.cells #[.slice q4.A q4.n q4.c, .bool q4.en, .bool q4.fn] 49)) := (Below.refl _ _).alloc (Nat.le_refl _) _
                 have z2 := (H2.out.2.2.1.below hb4).below hb5
                 have HSm := Lib.hid (r_same ((H2.out.2.1.below hb4).below hb5) (hr4.below hb5))
                 have HSe : Hid (samB q2.say q4.say = true) := Lib.hid (by rw [H2.out.1, hs4, samB_refl])
                 have HB5 := Lib.hid (below_on (below_on H2.out.2.2.2 hb4) hb5)
                 clear hs4 hr4 hb4 hb5 d2 hzb)
              | (with_reducible refine at_load 49 (.tmp 28) (by rfl) ?_
                 refine wpList_load_bk rowC rfl (.tmp 28) rfl W2.heap.size 0 rfl z2 [.slice q2.A q2.n q2.c, .bool q2.en, .bool q2.fn] rfl rfl ?_)
              | (with_reducible refine at_load 49 (.tmp 30) (by rfl) ?_
                 refine wpList_load_bk rowC rfl (.tmp 30) rfl W4.heap.size 0 rfl z4 [.slice q4.A q4.n q4.c, .bool q4.en, .bool q4.fn] rfl rfl ?_)
              | (go_at_call 22; refine HSm.out.mono ?_; rintro en W7 ⟨rfl, hb7⟩; rw [HSe.out]
                 have HT := Lib.hid (HJR.out.next (below_on HB5.out hb7))
                 have HZT := Lib.hid (HZ.out.below (below_on HB5.out hb7))
                 have HTO : Hid (m.Ok ∧ m.Low ∧ m.most = p ∧ m.L.length ≤ 5 * (k + 1)) := Lib.hid (by
                   obtain ⟨ok, lw, hmost, hlen⟩ := HOK.out
                   exact ⟨ok, lw, hmost, by omega⟩)
                 clear hb7 z2 z4
                 have hzb := HT.out.bx
                 have d2 := HZT.out.cell 2 rfl
                 have HTq := Lib.hid HT.out.q
                 have hlo1 := HTO.out.1.ln
                 have hlo2 := HTO.out.1.rm
                 have hmx := HTO.out.2.2.1
                 have hbd1 : ¬ ((p : Int) < ((m).L.length : Int) - (m).lo) := by omega
                 have hlb : (m).L.length ≤ 1000000000 := HTO.out.1.big
                 have hlb2 : (m).lo ≤ 1000000000 := by have := HTO.out.1.nl; omega
                 clear hlo1 hlo2 hmx)
              | (go_at_call 24; refine (shows_true HTq.out HT.out.rq HTO.out.1 HTO.out.2.1 _).mono ?_; rintro en w9 ⟨rfl, hb9⟩
                 have HB9 := Lib.hid hb9
                 have HQ9 := Lib.hid (HTq.out.below hb9)
                 clear hb9 d2 hzb)
              | (go_at_call 25; refine (q_total HQ9.out).mono ?_; rintro en w10 ⟨rfl, hb10⟩
                 have HB10 := Lib.hid (below_on HB9.out hb10)
                 have HQ10 := Lib.hid (HQ9.out.below hb10)
                 clear hb10)
              | (go_at_call 26; refine (q_low HQ10.out).mono ?_; rintro en w' ⟨rfl, rfl⟩)
              | (go_at_call 27; refine (q_row HQ10.out).mono ?_; rintro en w11 ⟨A11, n11, c11, rfl, hl11, hb11⟩
                 have hbd2 : ¬ ((p : Int) < n11) := by
                   have h1 := hl11.1
                   rw [intV_len] at h1
                   have h2 := HTO.out.1.row_len
                   have h3 := HTO.out.2.2.1
                   omega
                 have HB11 := Lib.hid (below_on HB10.out hb11)
                 clear hb11 hl11))
            go_roundw
            case rel => exact ⟨k + 1, _, by go_num, by omega, rfl, g, m, A, n, c, B, k8, d8, C, r, e, F, rfl, HT.out.next HB11.out, HTO.out⟩
            case measure => simp [intOf]; omega
        · as_aux_lemma =>
            have e0 : (d % 7 == 0) = false := by simp; omega
            have e1 : (d % 7 == 1) = false := by simp; omega
            have e2 : (d % 7 == 2) = false := by simp; omega
            have e3 : (d % 7 == 3) = false := by simp; omega
            have e4 : (d % 7 == 4) = false := by simp; omega
            have e5 : (d % 7 == 5) = false := by simp; omega
            clear hd7
            go_wp2_with (first
              | (go_at_call 23; refine (q_fork HJR.out.q).mono ?_; rintro en W7 ⟨g7, F7, rfl, hj7, hF7, hb7⟩
                 have HT := Lib.hid (JQ.fork HJR.out hj7 hF7 hb7)
                 have HZT := Lib.hid (HZ.out.below hb7)
                 have HTO : Hid (m.Ok ∧ m.Low ∧ m.most = p ∧ m.L.length ≤ 5 * (k + 1)) := Lib.hid (by
                   obtain ⟨ok, lw, hmost, hlen⟩ := HOK.out
                   exact ⟨ok, lw, hmost, by omega⟩)
                 clear hj7 hF7 hb7 d0 d1 d2 hzb
                 have hzb := HT.out.bx
                 have d2 := HZT.out.cell 2 rfl
                 have HTq := Lib.hid HT.out.q
                 have hlo1 := HTO.out.1.ln
                 have hlo2 := HTO.out.1.rm
                 have hmx := HTO.out.2.2.1
                 have hbd1 : ¬ ((p : Int) < ((m).L.length : Int) - (m).lo) := by omega
                 have hlb : (m).L.length ≤ 1000000000 := HTO.out.1.big
                 have hlb2 : (m).lo ≤ 1000000000 := by have := HTO.out.1.nl; omega
                 clear hlo1 hlo2 hmx)
              | (with_reducible refine at_load 31 (.tmp 7) (by rfl) ?_
                 refine wpList_load_bk rowR rfl (.tmp 7) rfl b 0 rfl hzb [.int .i64 m.most, .slice A n c, .slice B k8 d8, .int .i64 m.nx, .slice C r e] rfl rfl ?_)
              | (go_at_call 24; refine (shows_true HTq.out HT.out.rq HTO.out.1 HTO.out.2.1 _).mono ?_; rintro en w9 ⟨rfl, hb9⟩
                 have HB9 := Lib.hid hb9
                 have HQ9 := Lib.hid (HTq.out.below hb9)
                 clear hb9 d2 hzb)
              | (go_at_call 25; refine (q_total HQ9.out).mono ?_; rintro en w10 ⟨rfl, hb10⟩
                 have HB10 := Lib.hid (below_on HB9.out hb10)
                 have HQ10 := Lib.hid (HQ9.out.below hb10)
                 clear hb10)
              | (go_at_call 26; refine (q_low HQ10.out).mono ?_; rintro en w' ⟨rfl, rfl⟩)
              | (go_at_call 27; refine (q_row HQ10.out).mono ?_; rintro en w11 ⟨A11, n11, c11, rfl, hl11, hb11⟩
                 have hbd2 : ¬ ((p : Int) < n11) := by
                   have h1 := hl11.1
                   rw [intV_len] at h1
                   have h2 := HTO.out.1.row_len
                   have h3 := HTO.out.2.2.1
                   omega
                 have HB11 := Lib.hid (below_on HB10.out hb11)
                 clear hb11 hl11))
            go_roundw
            case rel => exact ⟨k + 1, _, by go_num, by omega, rfl, g7, m, A, n, c, B, k8, d8, C, r, e, F7, rfl, HT.out.next HB11.out, HTO.out⟩
            case measure => simp [intOf]; omega
      · have HB := Lib.hid hJR.bel
        rcases (by omega : ¬ (k : Int) < n0 ∨ ((k : Int) < n0 ∧ ¬ (k : Int) < 80)) with hge | ⟨hge1, hge2⟩
        all_goals
          clear hJR ok lw hmost hlen hlt
          go_wp2
          go_ret
          exact ⟨rfl, HB.out⟩
end Go.Proofs.Ytnakoplceplmmaa
