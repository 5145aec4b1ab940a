/- The law of any calls. -/
import Derived.Test.YtinblipcepagaaaC5
import Derived.Test.YtinblipcepagaaaOpenV
set_option linter.unusedSimpArgs false
set_option linter.unusedVariables false
namespace Go.Proofs.Ytinblipcepagaaa
open Go.RowKit Go.Shelf
abbrev OpT : Ty := .one (.int .u8) (.one (.int .i64) .unit)
/-- The k-th call, as it lies in memory. -/
theorem op_at {w : World} {s : Sl OpT.den} (h : (Ty.sl OpT).reads w s) (k : Nat) (hk : k < s.n) : ∃ (g o : Nat) (d x : Int), s.A = some ⟨g, o, none⟩ ∧ g < w.heap.size ∧
    w.rangeAt g (o + k * 2) [.int .u8 d, .int .i64 x] ∧ (0 ≤ d ∧ d < 256) := by
  obtain ⟨h1, h2, h3, h4, h5, h6⟩ := h
  have h1' : s.l.length = s.n := h1
  have hkl : k < s.l.length := by omega
  obtain ⟨g, o, hA, hg, hx⟩ := h5 (by omega) (show 0 < 2 from by omega)
  have hr : OpT.reads w s.l[k] := h6 _ (List.getElem_mem _)
  have hx' := hx k hkl
  obtain ⟨x, hxe⟩ : ∃ x, x = s.l[k] := ⟨_, rfl⟩
  rw [← hxe] at hr hx'
  clear hxe hx
  obtain ⟨d, y, u⟩ := x
  obtain ⟨r1, r2, _⟩ := hr
  exact ⟨g, o, d, y, hA, hg, fun j v hv => hx' j v hv, u8_bounds r1⟩
/-- An account (mq), and the document's (mr), which lies in box b, side by side. -/
structure JQ (w : World) (b g : Nat) (mq mr : Cm) (W : World) : Prop where
  q : CrC W g mq
  bx : Bk W 28 b [.int .i64 mr.f, .int .i64 mr.p, .int .i64 mr.s, .int .i64 mr.t]
  ne : ¬ b = g
  ge : w.heap.size ≤ g
  bge : w.heap.size ≤ b
  bel : Below w.heap.size w W
section
variable {w W W1 W2 W3 : World} {b g g' : Nat} {m mq mr mr' mq' : Cm}
theorem JQ.next (h : JQ w b g mq mr W) (hb : Below W.heap.size W W1) : JQ w b g mq mr W1 := ⟨h.q.below hb, h.bx.below hb, h.ne, h.ge, h.bge, below_on h.bel hb⟩
theorem JQ.gne (h : JQ w b g mq mr W) : ¬ g = b := fun e => h.ne e.symm
/-- The document's answer goes into the box. -/
theorem JQ.ref (h : JQ w b g mq mr W) (hk : Bk W1 28 b [.int .i64 mr'.f, .int .i64 mr'.p, .int .i64 mr'.s, .int .i64 mr'.t]) (hw : Wr b W W1) : JQ w b g mq mr' W1 := by
  have hst := st_wr hw
  exact ⟨h.q.st hst h.gne, hk, h.ne, h.ge, h.bge, h.bel.trans (hst.below h.bel.size fun j hj => hj ▸ h.bge)⟩
theorem JQ.refc (h : JQ w b g mq mr W) (j : Nat) (v : Value) (hs : [.int .i64 mr.f, .int .i64 mr.p, .int .i64 mr.s, .int .i64 mr.t].set j v = [.int .i64 mr'.f, .int .i64 mr'.p, .int .i64 mr'.s, .int .i64 mr'.t]) : JQ w b g mq mr' (W.setCell ⟨b, j, none⟩ v) := by
  have hb := h.bx.set j v
  rw [hs] at hb
  have hst : St (· = b) W (W.setCell ⟨b, j, none⟩ v) := St.setCell (F := (· = b)) W (a := ⟨b, j, none⟩) rfl _
  exact ⟨h.q.st hst h.gne, hb, h.ne, h.ge, h.bge, h.bel.trans (hst.below h.bel.size fun j hj => hj ▸ h.bge)⟩
/-- The account is turned. -/
theorem JQ.did (h : JQ w b g mq mr W) (hd : Did W g mq' W1) : JQ w b g mq' mr W1 :=
  ⟨hd.1, h.bx.st hd.2 h.ne, h.ne, h.ge, h.bge, h.bel.trans (hd.2.below h.bel.size fun j hj => hj ▸ h.ge)⟩
/-- The copy goes on. -/
theorem JQ.fork (h : JQ w b g mq mr W) (hj : CrC W1 g' mq) (hg : W.heap.size ≤ g') (hb : Below W.heap.size W W1) : JQ w b g' mq mr W1 := by
  have hbl := h.bx.lt
  have hs := h.bel.size
  exact ⟨hj, h.bx.below hb, by omega, by omega, h.bge, below_on h.bel hb⟩
theorem JQ.off (h : JQ w b g mq mr W) (hd : St (· = g') W W1) (hg : w.heap.size ≤ g') (h1 : ¬ g = g') (h2 : ¬ b = g') : JQ w b g mq mr W1 :=
  ⟨h.q.st hd h1, h.bx.st hd h2, h.ne, h.ge, h.bge, h.bel.trans (hd.below h.bel.size fun j hj => hj ▸ hg)⟩
end
/-- Between two calls. -/
def JI (w : World) (b k : Nat) (P : Option Addr) (W : World) : Prop := ∃ (g : Nat) (m : Cm), P = some ⟨g, 0, none⟩ ∧ JQ w b g m m W ∧ m.Ok ∧ m.t ≤ k
theorem JI.next {w W W' : World} {b k : Nat} {P : Option Addr} (h : JI w b k P W) (hb : Below W.heap.size W W') : JI w b k P W' := by
  obtain ⟨g, m, h1, h2, h3⟩ := h
  exact ⟨g, m, h1, h2.next hb, h3⟩
theorem pull_t (m : Cm) (n : Int) : (m.pull n).t = m.t := rfl
theorem take_t (m : Cm) (n : Int) : (m.take n).t = m.t := rfl
theorem spend_t (m : Cm) (n : Int) : (m.spend n).t = m.t := by unfold Cm.spend; split <;> rfl
set_option maxRecDepth 100000 in
set_option maxHeartbeats 16000000 in
theorem lawRuns (x : Int) (ops : Sl OpT.den) (w : World) (h : (Ty.sl OpT).reads w ops) :
    Calls Try.prog 3 #[.int .i64 x, .slice ops.A ops.n ops.c] w fun en w' => en = .returned (.bool true) ∧ Below w.heap.size w w' := by
  have HOp := Lib.hid (op_at h)
  obtain ⟨A0, n0, c0, l0⟩ := ops
  dsimp only at *
  clear h
  cases hok : okN x with
  | false =>
    go_enter Try.func3, Try.ntmps3
    go_wp2_with fail
    refine (c_new_no hok w).mono ?_
    rintro en w1 ⟨rfl, rfl⟩
    go_wp2_with fail
    refine (r_new_no hok _).mono ?_
    rintro en w2 ⟨rfl, hb2⟩
    have hba : Below w2.heap.size w2 (w2.alloc (.cells #[.int .i64 0, .int .i64 0, .int .i64 0, .int .i64 0] 28)) := (Below.refl _ _).alloc (Nat.le_refl _) _
    have HB2 := Lib.hid (below_on hb2 hba)
    clear hb2 hba hok
    go_wp2_with fail
    refine (awake_any _).mono ?_
    rintro en w3 ⟨rfl, hb3⟩
    have HB3 := Lib.hid (below_on HB2.out hb3)
    clear hb3 HB2
    go_wp2
    go_loopw [5, 9] (fun q i W => q = .pointer none ∧ i = .int .i64 0 ∧ W = w3) (fun q i _ => 0)
    case atStart => exact ⟨rfl, rfl, rfl⟩
    case round =>
      obtain ⟨rfl, rfl, rfl⟩ := hrel
      by_cases hn0 : (0 : Int) < n0
      · go_wp2
        go_ret
        exact ⟨rfl, HB3.out⟩
      · go_wp2
        go_ret
        exact ⟨rfl, HB3.out⟩
  | true =>
    go_enter Try.func3, Try.ntmps3
    go_wp2_with fail
    refine (c_new hok w).mono ?_
    rintro en w1 ⟨rfl, hj1, hb1⟩
    have HJ1 := Lib.hid (And.intro hj1 hb1)
    clear hj1 hb1
    go_wp2_with fail
    refine (r_new hok w1).mono ?_
    rintro en w2 ⟨rfl, hb2⟩
    have hba : Below w2.heap.size w2 (w2.alloc (.cells #[.int .i64 (Cm.new x).f, .int .i64 (Cm.new x).p, .int .i64 (Cm.new x).s, .int .i64 (Cm.new x).t] 28)) := (Below.refl _ _).alloc (Nat.le_refl _) _
    have hJ0 : JI w w2.heap.size 0 (some ⟨w.heap.size, 0, none⟩) (w2.alloc (.cells #[.int .i64 (Cm.new x).f, .int .i64 (Cm.new x).p, .int .i64 (Cm.new x).s, .int .i64 (Cm.new x).t] 28)) := by
      have hl := HJ1.out.1.1.lt
      have hs2 := hb2.size
      have h0 := Cm.new_ok hok
      exact ⟨w.heap.size, .new x, rfl, ⟨(HJ1.out.1.below hb2).below hba, Bk.new w2 28 [.int .i64 (Cm.new x).f, .int .i64 (Cm.new x).p, .int .i64 (Cm.new x).s, .int .i64 (Cm.new x).t], by omega, Nat.le_refl _, by omega, below_on (below_on HJ1.out.2 hb2) hba⟩, h0, (by show (0 : Int) ≤ 0; omega)⟩
    have HJ0 := Lib.hid hJ0
    have HA := Lib.hid (awake_any (w2.alloc (.cells #[.int .i64 (Cm.new x).f, .int .i64 (Cm.new x).p, .int .i64 (Cm.new x).s, .int .i64 (Cm.new x).t] 28)))
    clear hb2 hba hJ0 HJ1 hok
    go_wp2_with fail
    refine HA.out.mono ?_
    rintro en w3 ⟨rfl, hb3⟩
    have HJ := Lib.hid (HJ0.out.next hb3)
    clear hb3 HA HJ0
    generalize w2.heap.size = b at *
    go_wp2
    go_loopw [5, 9] (fun q i wr => ∃ (k : Nat) (P : Option Addr), i = .int .i64 k ∧ k ≤ 60 ∧ q = .pointer P ∧ JI w b k P wr) (fun q i _ => 60 - (intOf i).toNat)
    case atStart => exact ⟨0, _, rfl, Nat.zero_le _, rfl, HJ.out⟩
    case round =>
      obtain ⟨k, P, rfl, hk, rfl, hJk⟩ := hrel
      obtain ⟨g, m, rfl, hJR, ok, hmt⟩ := hJk
      clear HJ
      by_cases hlt : k < n0 ∧ k < 60
      · obtain ⟨go_, oo, d, y, rfl, hgo, hra, hd⟩ := HOp.out k hlt.1
        have c0' := (hJR.bel.cell (p := ⟨go_, oo + k * 2, none⟩) hgo).trans (hra 0 _ rfl)
        have c1' := (hJR.bel.cell (p := ⟨go_, oo + k * 2 + 1, none⟩) hgo).trans (hra 1 _ rfl)
        have hk1 : (k : Int) < n0 := by omega
        have hk2 : (k : Int) < 60 := by omega
        have hbao : Below wr.heap.size wr (wr.alloc (.cells #[.int .u8 d, .int .i64 y] 33)) := (Below.refl _ _).alloc (Nat.le_refl _) _
        have hZ := Bk.new wr 33 [.int .u8 d, .int .i64 y]
        have hzg : ¬ wr.heap.size = g := by have := hJR.q.1.lt; omega
        have hzb' : ¬ wr.heap.size = b := by have := hJR.bx.lt; omega
        have HJR := Lib.hid (hJR.next hbao)
        have HNE := Lib.hid (And.intro hzg hzb')
        have HOK := Lib.hid ok
        have HT := Lib.hid hmt
        have htb : m.t < 1000000 := by omega
        have hp0 := ok.s0
        have hp1 := ok.s1
        have hp2 := ok.p1
        have ht0 := ok.t0
        obtain ⟨hd1, hd2⟩ := hd
        have HLT := Lib.hid hlt
        clear hra hJR ok hmt hbao hgo hlt hzg hzb'
        generalize hW1 : wr.alloc (.cells #[.int .u8 d, .int .i64 y] 33) = W1 at *
        have d0 := hZ.cell 0 rfl
        have d1 := hZ.cell 1 rfl
        have hzb := HJR.out.bx
        have HZ := Lib.hid hZ
        clear hZ
        rcases (by omega : d % 8 = 3 ∨ d % 8 = 4 ∨ d % 8 = 5 ∨ d % 8 = 6 ∨ d % 8 = 7 ∨ (d % 8 ≠ 3 ∧ d % 8 ≠ 4 ∧ d % 8 ≠ 5 ∧ d % 8 ≠ 6 ∧ d % 8 ≠ 7)) with hd8 | hd8 | hd8 | hd8 | hd8 | hd8
        · as_aux_lemma =>
            have e3 : (d % 8 == 3) = true := by simpa using hd8
            clear hd8
            go_wp2_with (first
              | (go_at_call 9; refine (c_spend HJR.out.q y).mono ?_; rintro en W2 ⟨rfl, hd2⟩
                 have HJ2 := Lib.hid (HJR.out.did hd2)
                 have hzb := HJ2.out.bx
                 have d1 := (HZ.out.st hd2.2 HNE.out.1).cell 1 rfl
                 clear hd2 d0)
              | (with_reducible refine at_load 28 (.tmp 7) (by rfl) ?_
                 refine wpList_load_bk rowR rfl (.tmp 7) rfl b 0 rfl hzb [.int .i64 m.f, .int .i64 m.p, .int .i64 m.s, .int .i64 m.t] rfl rfl ?_)
              | (go_at_call 10; refine (r_spend HOK.out y _).mono ?_; rintro en W3 ⟨rfl, hb3⟩
                 have hzn := Bk.new W3 28 [.int .i64 (m.spend y).f, .int .i64 (m.spend y).p, .int .i64 (m.spend y).s, .int .i64 (m.spend y).t]
                 have hb4 : Below W3.heap.size W3 (W3.alloc (.cells #[.int .i64 (m.spend y).f, .int .i64 (m.spend y).p, .int .i64 (m.spend y).s, .int .i64 (m.spend y).t] 28)) := (Below.refl _ _).alloc (Nat.le_refl _) _
                 have HJ4 := Lib.hid ((HJ2.out.next hb3).next hb4)
                 have hbx5 := HJ4.out.bx
                 clear hb3 hb4 hzb)
              | (with_reducible refine at_load 28 (.tmp 12) (by rfl) ?_
                 refine wpList_load_bk rowR rfl (.tmp 12) rfl W3.heap.size 0 rfl hzn [.int .i64 (m.spend y).f, .int .i64 (m.spend y).p, .int .i64 (m.spend y).s, .int .i64 (m.spend y).t] rfl rfl ?_)
              | (with_reducible refine at_store 28 (.tmp 7) (.tmp 106) (by rfl) ?_
                 refine wpList_store_bk rowR rfl (.tmp 7) (.tmp 106) rfl b 0 rfl hbx5 [.int .i64 (m.spend y).f, .int .i64 (m.spend y).p, .int .i64 (m.spend y).s, .int .i64 (m.spend y).t] rfl rfl (by show 0 + 4 ≤ 4; omega) (by simp [Value.oneCell']) ?_
                 intro W6 hz6 hw6
                 rw [lay_all _ _ (by rfl)] at hz6
                 have HJ6 := Lib.hid (JQ.ref HJ4.out hz6 hw6)
                 have hz7 := HJ6.out.bx
                 clear hzn hbx5 hz6 hw6)
              | (with_reducible refine at_load 28 (.tmp 7) (by rfl) ?_
                 refine wpList_load_bk rowR rfl (.tmp 7) rfl b 0 rfl hz7 [.int .i64 (m.spend y).f, .int .i64 (m.spend y).p, .int .i64 (m.spend y).s, .int .i64 (m.spend y).t] rfl rfl ?_)
              | (go_at_call 17; refine (same_true HJ6.out.q).mono ?_; rintro en w9 ⟨rfl, hb9⟩
                 have HJ9 := Lib.hid (HJ6.out.next hb9)
                 clear hb9 hz7))
            go_roundw
            case rel => exact ⟨k + 1, _, by go_num, by have := HLT.out; omega, rfl, g, m.spend y, rfl, HJ9.out, Cm.spend_ok HOK.out y, by rw [spend_t]; have := HT.out; omega⟩
            case measure => have := HLT.out; simp [intOf]; omega
        · as_aux_lemma =>
            have e3 : (d % 8 == 3) = false := by simp; omega
            have e4 : (d % 8 == 4) = true := by simpa using hd8
            clear hd8
            go_wp2_with (first
              | (go_at_call 9; refine (c_spend HJR.out.q y).mono ?_; rintro en W2 ⟨rfl, hd2⟩
                 have HJ2 := Lib.hid (HJR.out.did hd2)
                 have hzb := HJ2.out.bx
                 have d1 := (HZ.out.st hd2.2 HNE.out.1).cell 1 rfl
                 clear hd2 d0)
              | (with_reducible refine at_load 28 (.tmp 7) (by rfl) ?_
                 refine wpList_load_bk rowR rfl (.tmp 7) rfl b 0 rfl hzb [.int .i64 m.f, .int .i64 m.p, .int .i64 m.s, .int .i64 m.t] rfl rfl ?_)
              | (go_at_call 10; refine (r_spend HOK.out y _).mono ?_; rintro en W3 ⟨rfl, hb3⟩
                 have hzn := Bk.new W3 28 [.int .i64 (m.spend y).f, .int .i64 (m.spend y).p, .int .i64 (m.spend y).s, .int .i64 (m.spend y).t]
                 have hb4 : Below W3.heap.size W3 (W3.alloc (.cells #[.int .i64 (m.spend y).f, .int .i64 (m.spend y).p, .int .i64 (m.spend y).s, .int .i64 (m.spend y).t] 28)) := (Below.refl _ _).alloc (Nat.le_refl _) _
                 have HJ4 := Lib.hid ((HJ2.out.next hb3).next hb4)
                 have hbx5 := HJ4.out.bx
                 clear hb3 hb4 hzb)
              | (with_reducible refine at_load 28 (.tmp 12) (by rfl) ?_
                 refine wpList_load_bk rowR rfl (.tmp 12) rfl W3.heap.size 0 rfl hzn [.int .i64 (m.spend y).f, .int .i64 (m.spend y).p, .int .i64 (m.spend y).s, .int .i64 (m.spend y).t] rfl rfl ?_)
              | (with_reducible refine at_store 28 (.tmp 7) (.tmp 106) (by rfl) ?_
                 refine wpList_store_bk rowR rfl (.tmp 7) (.tmp 106) rfl b 0 rfl hbx5 [.int .i64 (m.spend y).f, .int .i64 (m.spend y).p, .int .i64 (m.spend y).s, .int .i64 (m.spend y).t] rfl rfl (by show 0 + 4 ≤ 4; omega) (by simp [Value.oneCell']) ?_
                 intro W6 hz6 hw6
                 rw [lay_all _ _ (by rfl)] at hz6
                 have HJ6 := Lib.hid (JQ.ref HJ4.out hz6 hw6)
                 have hz7 := HJ6.out.bx
                 clear hzn hbx5 hz6 hw6)
              | (with_reducible refine at_load 28 (.tmp 7) (by rfl) ?_
                 refine wpList_load_bk rowR rfl (.tmp 7) rfl b 0 rfl hz7 [.int .i64 (m.spend y).f, .int .i64 (m.spend y).p, .int .i64 (m.spend y).s, .int .i64 (m.spend y).t] rfl rfl ?_)
              | (go_at_call 17; refine (same_true HJ6.out.q).mono ?_; rintro en w9 ⟨rfl, hb9⟩
                 have HJ9 := Lib.hid (HJ6.out.next hb9)
                 clear hb9 hz7))
            go_roundw
            case rel => exact ⟨k + 1, _, by go_num, by have := HLT.out; omega, rfl, g, m.spend y, rfl, HJ9.out, Cm.spend_ok HOK.out y, by rw [spend_t]; have := HT.out; omega⟩
            case measure => have := HLT.out; simp [intOf]; omega
        · as_aux_lemma =>
            have e3 : (d % 8 == 3) = false := by simp; omega
            have e4 : (d % 8 == 4) = false := by simp; omega
            have e5 : (d % 8 == 5) = true := by simpa using hd8
            clear hd8
            have c3 := HJR.out.bx.cell 3 rfl
            have f3 := HJR.out.bx.free 3
            have HJs := Lib.hid (HJR.out.refc 3 (.int .i64 (m.t + 1)) (mr' := m.tick) rfl)
            clear hzb
            go_wp2_with fail
            refine wp_region_E (St (· = g)) (by kernel_rfl) (fun wd hbd hsz => ?_)
            have HJd := Lib.hid (HJs.out.next hbd)
            have q3 : ∀ W, St (· = g) wd W → W.cell? ⟨b, 3, none⟩ = some (.int .i64 (m.t + 1)) := fun W hW => (HJd.out.bx.st hW HJd.out.ne).cell 3 rfl
            clear hsz
            (refine takeE (St.tr (· = g)) 0 (by simp only [List.getElem?_toArray, List.getElem?_cons_succ, List.getElem?_cons_zero]; rfl) (by kernel_rfl) (by kernel_rfl) (by kernel_rfl) (by exact fun _ _ _ h => h) (by first | (refine Or.inl ⟨by rfl, ?_⟩; intro W hW; go_simp; try with_reducible rfl) | exact Or.inr ⟨by rfl, rfl⟩) ?_; try simp only [Act.put, List.setIfInBounds_toArray, List.set_cons_zero, List.set_cons_succ])
            (refine takeE (St.tr (· = g)) 2 (by simp only [List.getElem?_toArray, List.getElem?_cons_succ, List.getElem?_cons_zero]; rfl) (by kernel_rfl) (by kernel_rfl) (by kernel_rfl) (by exact fun _ _ _ h => h) (by first | (refine Or.inl ⟨by rfl, ?_⟩; intro W hW; go_simp; try with_reducible rfl) | exact Or.inr ⟨by rfl, rfl⟩) ?_; try simp only [Act.put, List.setIfInBounds_toArray, List.set_cons_zero, List.set_cons_succ])
            (refine takeE (St.tr (· = g)) 3 (by simp only [List.getElem?_toArray, List.getElem?_cons_succ, List.getElem?_cons_zero]; rfl) (by kernel_rfl) (by kernel_rfl) (by kernel_rfl) (by exact fun _ _ _ h => h) (by first | (refine Or.inl ⟨by rfl, ?_⟩; intro W hW; go_simp; try with_reducible rfl) | exact Or.inr ⟨by rfl, rfl⟩) ?_; try simp only [Act.put, List.setIfInBounds_toArray, List.set_cons_zero, List.set_cons_succ])
            refine wpAnyE_one (i := 1) (by kernel_rfl) (by simp only [List.getElem?_toArray, List.getElem?_cons_succ, List.getElem?_cons_zero]; rfl) (fun K hK => ?_)
            go_simp
            refine (c_timer HJd.out.q htb).mono ?_
            rintro en w5 ⟨rfl, hd5⟩
            have HJ5 := Lib.hid (HJd.out.did hd5)
            have hst5 := hd5.2
            clear hd5
            refine hK.out _ _ hst5 ?_
            clear hK K
            try simp only [Act.put, List.setIfInBounds_toArray, List.set_cons_zero, List.set_cons_succ]
            (refine takeE (St.tr (· = g)) 4 (by simp only [List.getElem?_toArray, List.getElem?_cons_succ, List.getElem?_cons_zero]; rfl) (by kernel_rfl) (by kernel_rfl) (by kernel_rfl) (by exact fun _ _ _ h => h) (by first | (refine Or.inl ⟨by rfl, ?_⟩; intro W hW; go_simp; try with_reducible rfl) | exact Or.inr ⟨by rfl, rfl⟩) ?_; try simp only [Act.put, List.setIfInBounds_toArray, List.set_cons_zero, List.set_cons_succ])
            refine wpAnyE_done (by kernel_rfl) ?_ _
            clear q3
            have hz7 := HJ5.out.bx
            go_wp2_with (first
              | (with_reducible refine at_load 28 (.tmp 7) (by rfl) ?_
                 refine wpList_load_bk rowR rfl (.tmp 7) rfl b 0 rfl hz7 [.int .i64 m.tick.f, .int .i64 m.tick.p, .int .i64 m.tick.s, .int .i64 m.tick.t] rfl rfl ?_)
              | (go_at_call 17; refine (same_true HJ5.out.q).mono ?_; rintro en w9 ⟨rfl, hb9⟩
                 have HJ9 := Lib.hid (HJ5.out.next hb9)
                 clear hb9 hz7))
            go_roundw
            case rel => exact ⟨k + 1, _, by go_num, by have := HLT.out; omega, rfl, g, m.tick, rfl, HJ9.out, Cm.tick_ok HOK.out htb, by have := HT.out; show m.t + 1 ≤ _; omega⟩
            case measure => have := HLT.out; simp [intOf]; omega
        · as_aux_lemma =>
            have e3 : (d % 8 == 3) = false := by simp; omega
            have e4 : (d % 8 == 4) = false := by simp; omega
            have e5 : (d % 8 == 5) = false := by simp; omega
            have e6 : (d % 8 == 6) = true := by simpa using hd8
            clear hd8
            go_wp2_with (first
              | (go_at_call 12; refine (c_take HJR.out.q y).mono ?_; rintro en W2 ⟨rfl, hd2⟩
                 have HJ2 := Lib.hid (HJR.out.did hd2)
                 have hzb := HJ2.out.bx
                 have d1 := (HZ.out.st hd2.2 HNE.out.1).cell 1 rfl
                 clear hd2 d0)
              | (with_reducible refine at_load 28 (.tmp 7) (by rfl) ?_
                 refine wpList_load_bk rowR rfl (.tmp 7) rfl b 0 rfl hzb [.int .i64 m.f, .int .i64 m.p, .int .i64 m.s, .int .i64 m.t] rfl rfl ?_)
              | (go_at_call 13; refine (r_take HOK.out y _).mono ?_; rintro en W3 ⟨rfl, hb3⟩
                 have hzn := Bk.new W3 28 [.int .i64 (m.take y).f, .int .i64 (m.take y).p, .int .i64 (m.take y).s, .int .i64 (m.take y).t]
                 have hb4 : Below W3.heap.size W3 (W3.alloc (.cells #[.int .i64 (m.take y).f, .int .i64 (m.take y).p, .int .i64 (m.take y).s, .int .i64 (m.take y).t] 28)) := (Below.refl _ _).alloc (Nat.le_refl _) _
                 have HJ4 := Lib.hid ((HJ2.out.next hb3).next hb4)
                 have hbx5 := HJ4.out.bx
                 clear hb3 hb4 hzb)
              | (with_reducible refine at_load 28 (.tmp 15) (by rfl) ?_
                 refine wpList_load_bk rowR rfl (.tmp 15) rfl W3.heap.size 0 rfl hzn [.int .i64 (m.take y).f, .int .i64 (m.take y).p, .int .i64 (m.take y).s, .int .i64 (m.take y).t] rfl rfl ?_)
              | (with_reducible refine at_store 28 (.tmp 7) (.tmp 134) (by rfl) ?_
                 refine wpList_store_bk rowR rfl (.tmp 7) (.tmp 134) rfl b 0 rfl hbx5 [.int .i64 (m.take y).f, .int .i64 (m.take y).p, .int .i64 (m.take y).s, .int .i64 (m.take y).t] rfl rfl (by show 0 + 4 ≤ 4; omega) (by simp [Value.oneCell']) ?_
                 intro W6 hz6 hw6
                 rw [lay_all _ _ (by rfl)] at hz6
                 have HJ6 := Lib.hid (JQ.ref HJ4.out hz6 hw6)
                 have hz7 := HJ6.out.bx
                 clear hzn hbx5 hz6 hw6)
              | (with_reducible refine at_load 28 (.tmp 7) (by rfl) ?_
                 refine wpList_load_bk rowR rfl (.tmp 7) rfl b 0 rfl hz7 [.int .i64 (m.take y).f, .int .i64 (m.take y).p, .int .i64 (m.take y).s, .int .i64 (m.take y).t] rfl rfl ?_)
              | (go_at_call 17; refine (same_true HJ6.out.q).mono ?_; rintro en w9 ⟨rfl, hb9⟩
                 have HJ9 := Lib.hid (HJ6.out.next hb9)
                 clear hb9 hz7))
            go_roundw
            case rel => exact ⟨k + 1, _, by go_num, by have := HLT.out; omega, rfl, g, m.take y, rfl, HJ9.out, Cm.take_ok HOK.out y, by rw [take_t]; have := HT.out; omega⟩
            case measure => have := HLT.out; simp [intOf]; omega
        · as_aux_lemma =>
            have e3 : (d % 8 == 3) = false := by simp; omega
            have e4 : (d % 8 == 4) = false := by simp; omega
            have e5 : (d % 8 == 5) = false := by simp; omega
            have e6 : (d % 8 == 6) = false := by simp; omega
            have e7 : (d % 8 == 7) = true := by simpa using hd8
            clear hd8
            go_wp2_with (first
              | (go_at_call 14; refine (c_fork HJR.out.q).mono ?_; rintro en W2 ⟨rfl, hj2, hb2⟩
                 have hgl := HJR.out.q.1.lt
                 have hbl := HJR.out.bx.lt
                 have HN2 : Hid (¬ W1.heap.size = g ∧ ¬ b = g ∧ w.heap.size ≤ g) := Lib.hid ⟨by omega, HJR.out.ne, HJR.out.ge⟩
                 have HJ2 := Lib.hid (HJR.out.fork hj2 (Nat.le_refl _) hb2)
                 have HQ2 := Lib.hid (HJR.out.q.below hb2)
                 have c1 := HJ2.out.bx.cell 1 rfl
                 clear hj2 hb2 hgl hbl d0 d1 hzb)
              | (go_at_call 15; refine (c_pull HQ2.out _).mono ?_; rintro en W3 ⟨rfl, hd3⟩
                 have HJ3 := Lib.hid (HJ2.out.off hd3.2 HN2.out.2.2 HN2.out.1 HN2.out.2.1)
                 have HQ3 := Lib.hid hd3.1
                 clear hd3 c1)
              | (go_at_call 12; refine (c_take HQ3.out _).mono ?_; rintro en W4 ⟨rfl, hd4⟩
                 have HJ4 := Lib.hid (HJ3.out.off hd4.2 HN2.out.2.2 HN2.out.1 HN2.out.2.1)
                 have hz7 := HJ4.out.bx
                 clear hd4)
              | (with_reducible refine at_load 28 (.tmp 7) (by rfl) ?_
                 refine wpList_load_bk rowR rfl (.tmp 7) rfl b 0 rfl hz7 [.int .i64 m.f, .int .i64 m.p, .int .i64 m.s, .int .i64 m.t] rfl rfl ?_)
              | (go_at_call 17; refine (same_true HJ4.out.q).mono ?_; rintro en w9 ⟨rfl, hb9⟩
                 have HJ9 := Lib.hid (HJ4.out.next hb9)
                 clear hb9 hz7))
            go_roundw
            case rel => exact ⟨k + 1, _, by go_num, by have := HLT.out; omega, rfl, W1.heap.size, m, rfl, HJ9.out, HOK.out, by have := HT.out; omega⟩
            case measure => have := HLT.out; simp [intOf]; omega
        · as_aux_lemma =>
            have e3 : (d % 8 == 3) = false := by simp; omega
            have e4 : (d % 8 == 4) = false := by simp; omega
            have e5 : (d % 8 == 5) = false := by simp; omega
            have e6 : (d % 8 == 6) = false := by simp; omega
            have e7 : (d % 8 == 7) = false := by simp; omega
            clear hd8
            go_wp2_with (first
              | (go_at_call 15; refine (c_pull HJR.out.q y).mono ?_; rintro en W2 ⟨rfl, hd2⟩
                 have HJ2 := Lib.hid (HJR.out.did hd2)
                 have hzb := HJ2.out.bx
                 have d1 := (HZ.out.st hd2.2 HNE.out.1).cell 1 rfl
                 clear hd2 d0)
              | (with_reducible refine at_load 28 (.tmp 7) (by rfl) ?_
                 refine wpList_load_bk rowR rfl (.tmp 7) rfl b 0 rfl hzb [.int .i64 m.f, .int .i64 m.p, .int .i64 m.s, .int .i64 m.t] rfl rfl ?_)
              | (go_at_call 16; refine (r_pull HOK.out y _).mono ?_; rintro en W3 ⟨rfl, hb3⟩
                 have hzn := Bk.new W3 28 [.int .i64 (m.pull y).f, .int .i64 (m.pull y).p, .int .i64 (m.pull y).s, .int .i64 (m.pull y).t]
                 have hb4 : Below W3.heap.size W3 (W3.alloc (.cells #[.int .i64 (m.pull y).f, .int .i64 (m.pull y).p, .int .i64 (m.pull y).s, .int .i64 (m.pull y).t] 28)) := (Below.refl _ _).alloc (Nat.le_refl _) _
                 have HJ4 := Lib.hid ((HJ2.out.next hb3).next hb4)
                 have hbx5 := HJ4.out.bx
                 clear hb3 hb4 hzb)
              | (with_reducible refine at_load 28 (.tmp 20) (by rfl) ?_
                 refine wpList_load_bk rowR rfl (.tmp 20) rfl W3.heap.size 0 rfl hzn [.int .i64 (m.pull y).f, .int .i64 (m.pull y).p, .int .i64 (m.pull y).s, .int .i64 (m.pull y).t] rfl rfl ?_)
              | (with_reducible refine at_store 28 (.tmp 7) (.tmp 83) (by rfl) ?_
                 refine wpList_store_bk rowR rfl (.tmp 7) (.tmp 83) rfl b 0 rfl hbx5 [.int .i64 (m.pull y).f, .int .i64 (m.pull y).p, .int .i64 (m.pull y).s, .int .i64 (m.pull y).t] rfl rfl (by show 0 + 4 ≤ 4; omega) (by simp [Value.oneCell']) ?_
                 intro W6 hz6 hw6
                 rw [lay_all _ _ (by rfl)] at hz6
                 have HJ6 := Lib.hid (JQ.ref HJ4.out hz6 hw6)
                 have hz7 := HJ6.out.bx
                 clear hzn hbx5 hz6 hw6)
              | (with_reducible refine at_load 28 (.tmp 7) (by rfl) ?_
                 refine wpList_load_bk rowR rfl (.tmp 7) rfl b 0 rfl hz7 [.int .i64 (m.pull y).f, .int .i64 (m.pull y).p, .int .i64 (m.pull y).s, .int .i64 (m.pull y).t] rfl rfl ?_)
              | (go_at_call 17; refine (same_true HJ6.out.q).mono ?_; rintro en w9 ⟨rfl, hb9⟩
                 have HJ9 := Lib.hid (HJ6.out.next hb9)
                 clear hb9 hz7))
            go_roundw
            case rel => exact ⟨k + 1, _, by go_num, by have := HLT.out; omega, rfl, g, m.pull y, rfl, HJ9.out, Cm.pull_ok HOK.out y, by rw [pull_t]; have := HT.out; omega⟩
            case measure => have := HLT.out; simp [intOf]; omega
      · have HB := Lib.hid hJR.bel
        rcases (by omega : ¬ (k : Int) < n0 ∨ ((k : Int) < n0 ∧ ¬ (k : Int) < 60)) with hge | ⟨hge1, hge2⟩
        all_goals
          clear hJR ok hmt hlt
          go_wp2
          go_ret
          exact ⟨rfl, HB.out⟩
end Go.Proofs.Ytinblipcepagaaa
