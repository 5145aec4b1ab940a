/- The law of any calls. -/
import Derived.Test.YtainmpeiicinmaaW18
import Derived.Test.YtainmpeiicinmaaOpenV
import Derived.Test.YtainmpeiicinmaaTab
set_option linter.unusedSimpArgs false
set_option linter.unusedVariables false
set_option maxRecDepth 100000
namespace Go.Proofs.Ytainmpeiicinmaa.Wi
open Go.RowKit Go.Shelf
theorem rowO : Row Try.prog 34 3 := ⟨⟨_, rfl, by decide⟩, by kernel_rfl⟩
abbrev OpT : Ty := .one (.int .u8) (.one (.int .i64) (.one (.int .i64) .unit))
theorem i64_bounds' {x : Int} (h : (Lit.int .i64 x).wf = true) : -9223372036854775808 ≤ x ∧ x ≤ 9223372036854775807 := by
  simp [Lit.wf, IntKind.min, IntKind.max, IntKind.signed, IntKind.bits] at h
  omega
theorem r_newbad2 (w : World) (most : Int) (hm : most < 1 ∨ (1 ≤ most ∧ 1024 < most)) : Calls Try.prog 8 #[.int .i64 most] w fun e w' => e = .returned (.tuple #[.agg #[.slice none 0 0, .int .i64 0, .int .i64 0, .int .i64 0], .int .i64 160]) ∧ Below w.heap.size w w' := by
  have z := Bk.new w 29 [.slice none 0 0, .int .i64 0, .int .i64 0, .int .i64 0]
  have HB := Lib.hid ((Below.refl _ w).alloc (Nat.le_refl _) (.cells #[.slice none 0 0, .int .i64 0, .int .i64 0, .int .i64 0] 29))
  rcases hm with hm | ⟨hm, hm2⟩ <;>
  (go_enter Try.func8, Try.ntmps8
   go_wp2_with (with_reducible refine at_store 29 (.tmp 2) (.tmp 10) (by rfl) ?_
                refine wpList_store_bk rowR rfl (.tmp 2) (.tmp 10) rfl w.heap.size 0 rfl z [.slice none 0 0, .int .i64 0, .int .i64 0, .int .i64 0] rfl rfl (by show 0 + 4 ≤ 4; omega) (by simp [Value.oneCell']) ?_
                intro w3 hz3 hw3
                rw [lay_all _ _ (by rfl)] at hz3)
   refine bodyPost_ret (results_cell_tmp rfl rfl (rowR.load hz3 0 (cs := [.slice none 0 0, .int .i64 0, .int .i64 0, .int .i64 0]) rfl rfl)) rfl ?_
   exact ⟨rfl, HB.out.trans ((st_wr hw3).below (by simp) (by rintro k rfl; exact Nat.le_refl _))⟩)
/-- The k-th call, as it lies in memory. -/
theorem op_at {w : World} {s : Go.Proofs.Ytainmpeiicinmaa.Sl OpT.den} (h : (Ty.sl OpT).reads w s) (k : Nat) (hk : k < s.n) : ∃ (g o : Nat) (d x t : Int), s.A = some ⟨g, o, none⟩ ∧ g < w.heap.size ∧
    w.rangeAt g (o + k * 3) [.int .u8 d, .int .i64 x, .int .i64 t] ∧ (0 ≤ d ∧ d < 256) ∧ (-9223372036854775808 ≤ t ∧ t ≤ 9223372036854775807) := by
  obtain ⟨h1, h2, h3, h4, h5, h6⟩ := h
  have h1' : s.l.length = s.n := h1
  have hkl : k < s.l.length := by omega
  obtain ⟨g, o, hA, hg, hx⟩ := h5 (by omega) (show 0 < 3 from by omega)
  have hr : OpT.reads w s.l[k] := h6 _ (List.getElem_mem _)
  have hx' := hx k hkl
  obtain ⟨x, hxe⟩ : ∃ x, x = s.l[k] := ⟨_, rfl⟩
  rw [← hxe] at hr hx'
  clear hxe hx
  obtain ⟨d, y, z, u⟩ := x
  obtain ⟨r1, r2, r3, _⟩ := hr
  exact ⟨g, o, d, y, z, hA, hg, fun j v hv => hx' j v hv, u8_bounds r1, i64_bounds' r3⟩
/-- A wheel, and the document's, which lies in box b, side by side. -/
structure JQ (w : World) (b g : Nat) (m : Wm Int) (A : Option Addr) (n c : Nat) (mr : Wm Int) (W : World) : Prop where
  q : WhC W g m
  bx : Bk W 29 b [.slice A n c, .int .i64 mr.most, .int .i64 mr.now, .int .i64 mr.sets]
  rv : RvL W A n c mr.l
  ok : m.Ok
  ne : ¬ b = g
  ge : w.heap.size ≤ g
  bge : w.heap.size ≤ b
  bel : Below w.heap.size w W
section
variable {w W W1 W2 W3 : World} {b g ob : Nat} {m m' mr mr' : Wm Int} {A A' : Option Addr} {n c n' c' : Nat} {d x t : Int}
theorem JQ.next (h : JQ w b g m A n c mr W) (hb : Below W.heap.size W W1) : JQ w b g m A n c mr W1 := ⟨h.q.below hb, h.bx.below hb, h.rv.below hb, h.ok, h.ne, h.ge, h.bge, below_on h.bel hb⟩
theorem JQ.did (h : JQ w b g m A n c mr W) (hd : Did W g m' W1) (ok : m'.Ok) : JQ w b g m' A n c mr W1 :=
  ⟨hd.1, h.bx.st hd.2 h.ne, h.rv.st hd.2 h.q.tyd (by decide), ok, h.ne, h.ge, h.bge, h.bel.trans (hd.2.below h.bel.size fun j hj => hj ▸ h.ge)⟩
/-- The document's answer goes into the box. -/
theorem JQ.ref (h : JQ w b g m A n c mr W) (hr : RvL W A' n' c' mr'.l) (hk : Bk W1 29 b [.slice A' n' c', .int .i64 mr'.most, .int .i64 mr'.now, .int .i64 mr'.sets]) (hw : Wr b W W1) : JQ w b g m A' n' c' mr' W1 := by
  have hst := st_wr hw
  exact ⟨h.q.st hst (fun e => h.ne e.symm) h.bx.tyd (by decide), hk, hr.st hst h.bx.tyd (by decide), h.ok, h.ne, h.ge, h.bge, h.bel.trans (hst.below h.bel.size fun j hj => hj ▸ h.bge)⟩
/-- With the call that is made, in its box. -/
structure JO (w : World) (b g : Nat) (m : Wm Int) (A : Option Addr) (n c : Nat) (mr : Wm Int) (ob : Nat) (d x t : Int) (W : World) : Prop where
  j : JQ w b g m A n c mr W
  o : Bk W 34 ob [.int .u8 d, .int .i64 x, .int .i64 t]
  n1 : ¬ ob = g
  n2 : ¬ ob = b
theorem JO.next (h : JO w b g m A n c mr ob d x t W) (hb : Below W.heap.size W W1) : JO w b g m A n c mr ob d x t W1 := ⟨h.j.next hb, h.o.below hb, h.n1, h.n2⟩
theorem JO.did (h : JO w b g m A n c mr ob d x t W) (hd : Did W g m' W1) (ok : m'.Ok) : JO w b g m' A n c mr ob d x t W1 := ⟨h.j.did hd ok, h.o.st hd.2 h.n1, h.n1, h.n2⟩
theorem JO.ref (h : JO w b g m A n c mr ob d x t W) (hr : RvL W A' n' c' mr'.l) (hk : Bk W1 29 b [.slice A' n' c', .int .i64 mr'.most, .int .i64 mr'.now, .int .i64 mr'.sets]) (hw : Wr b W W1) : JO w b g m A' n' c' mr' ob d x t W1 := ⟨h.j.ref hr hk hw, h.o.st (st_wr hw) h.n2, h.n1, h.n2⟩
end
/-- Between two calls. -/
def JI (w : World) (b g k : Nat) (W : World) : Prop := ∃ (m : Wm Int) (A : Option Addr) (n c : Nat), JQ w b g m A n c m W ∧ m.now ≤ (k : Int) * 1048576 ∧ 0 ≤ m.sets ∧ m.sets ≤ k
theorem JI.next {w W W' : World} {b g k : Nat} (h : JI w b g k W) (hb : Below W.heap.size W W') : JI w b g k W' := by
  obtain ⟨m, A, n, c, h1, h2⟩ := h
  exact ⟨m, A, n, c, h1.next hb, h2⟩
set_option maxHeartbeats 16000000 in
theorem lawRuns (most : Int) (ops : Go.Proofs.Ytainmpeiicinmaa.Sl OpT.den) (s : Int) (hs0 : 0 ≤ s) (hs1 : s < 256) (w : World) (h : (Ty.sl OpT).reads w ops) :
    Calls Try.prog 3 #[.int .i64 most, .slice ops.A ops.n ops.c, .int .u8 s] w fun en w' => en = .returned (.bool true) ∧ Below w.heap.size w w' := by
  have HOp := Lib.hid (op_at h)
  obtain ⟨A0, n0, cap0, l0⟩ := ops
  dsimp only at *
  clear h
  by_cases hmo : 1 ≤ most ∧ most ≤ 1024
  · obtain ⟨hm1, hm2⟩ := hmo
    go_enter Try.func3, Try.ntmps3
    go_wp2_with fail
    refine (w_new most hm1 hm2).mono ?_
    rintro en w1 ⟨rfl, hj1, hb1⟩
    have HJ1 := Lib.hid (And.intro hj1 hb1)
    clear hj1 hb1
    go_wp2_with fail
    refine (r_new most hm1 hm2).mono ?_
    rintro en w2 ⟨rfl, hb2⟩
    have hba : Below w2.heap.size w2 (w2.alloc (.cells #[.slice none 0 0, .int .i64 most, .int .i64 0, .int .i64 0] 29)) := (Below.refl _ _).alloc (Nat.le_refl _) _
    have hJ0 : JI w w2.heap.size w.heap.size 0 (w2.alloc (.cells #[.slice none 0 0, .int .i64 most, .int .i64 0, .int .i64 0] 29)) := by
      have hl := HJ1.out.1.lt
      have hs1 := HJ1.out.2.size
      have hs2 := hb2.size
      exact ⟨Wm.new most, none, 0, 0, ⟨(HJ1.out.1.below hb2).below hba, Bk.new w2 29 [.slice none 0 0, .int .i64 most, .int .i64 0, .int .i64 0], RvL.nil _, Wm.new_ok hm1, by omega, Nat.le_refl _, by omega, below_on (below_on HJ1.out.2 hb2) hba⟩, by show (0 : Int) ≤ _; omega, Int.le_refl _, Int.le_refl _⟩
    have HJ0 := Lib.hid hJ0
    have HA := Lib.hid (awake_any (w2.alloc (.cells #[.slice none 0 0, .int .i64 most, .int .i64 0, .int .i64 0] 29)))
    clear hb2 hba hJ0 HJ1
    go_wp2_with fail
    refine HA.out.mono ?_
    rintro en w3 ⟨rfl, hb3⟩
    have HJ := Lib.hid (HJ0.out.next hb3)
    clear hb3 HA HJ0
    generalize w2.heap.size = b at *
    go_wp2
    go_loopw [11] (fun i wr => ∃ (k : Nat), i = .int .i64 k ∧ k ≤ 50 ∧ JI w b w.heap.size k wr) (fun i _ => 50 - (intOf i).toNat)
    case atStart => exact ⟨0, rfl, Nat.zero_le _, HJ.out⟩
    case round =>
      obtain ⟨k, rfl, hk, hJk⟩ := hrel
      obtain ⟨m, A, n, c, hJR, hnow, hset0, hset1⟩ := hJk
      clear HJ
      by_cases hlt : k < n0 ∧ k < 50
      · obtain ⟨go_, oo, d, x, t, rfl, hgo, hra, hd, ht⟩ := HOp.out k hlt.1
        have hk1 : (k : Int) < n0 := by omega
        have hk2 : (k : Int) < 50 := by omega
        have hnb : m.now ≤ 1000000000 := by omega
        have hsb : m.sets ≤ 1000000 := by omega
        obtain ⟨hd1, hd2⟩ := hd
        have HLT := Lib.hid hlt
        have HT := Lib.hid ht
        have HBd := Lib.hid (And.intro hnow (And.intro hset0 hset1))
        have HNB := Lib.hid (And.intro hnb hsb)
        have hra1 := range_below hra hgo hJR.bel
        have hba : Below wr.heap.size wr (wr.alloc (.cells #[.int .u8 d, .int .i64 x, .int .i64 t] 34)) := (Below.refl _ _).alloc (Nat.le_refl _) _
        have hjo : JO w b w.heap.size m A n c m wr.heap.size d x t (wr.alloc (.cells #[.int .u8 d, .int .i64 x, .int .i64 t] 34)) := ⟨hJR.next hba, Bk.new wr 34 [.int .u8 d, .int .i64 x, .int .i64 t], by have := hJR.q.lt; omega, by have := hJR.bx.lt; omega⟩
        have HJR := Lib.hid hjo
        have o0 := hjo.o.cell 0 rfl
        clear hra hJR hlt hjo hba ht hnow hset0 hset1 hnb hsb
        rcases (by omega : d % 8 = 4 ∨ d % 8 = 5 ∨ d % 8 = 6 ∨ d % 8 = 7 ∨ (d % 8 ≠ 4 ∧ d % 8 ≠ 5 ∧ d % 8 ≠ 6 ∧ d % 8 ≠ 7)) with hd8 | hd8 | hd8 | hd8 | hd8
        · as_aux_lemma =>
            have e4 : (d % 8 == 4) = true := by simpa using hd8
            clear hd8
            have o1 := HJR.out.o.cell 1 rfl
            go_wp2_with (first
              | (with_reducible refine at_load 34 (.tmp 70) (by rfl) ?_
                 refine wpList_load_row rowO rfl (.tmp 70) rfl rfl [.int .u8 d, .int .i64 x, .int .i64 t] hra1 rfl ?_
                 clear hra1)
              | (go_at_call 10; refine (w_drop HJR.out.j.q HJR.out.j.ok x).mono ?_; rintro en W2 ⟨rfl, hd2, _⟩
                 have HJ2 := Lib.hid (HJR.out.did hd2 (Wm.drop_ok HJR.out.j.ok x))
                 have o1 := HJ2.out.o.cell 1 rfl
                 clear hd2 o0)
              | (with_reducible refine at_load 29 (.tmp 9) (by rfl) ?_
                 refine wpList_load_bk rowR rfl (.tmp 9) rfl b 0 rfl HJ2.out.j.bx [.slice A n c, .int .i64 m.most, .int .i64 m.now, .int .i64 m.sets] rfl rfl ?_)
              | (go_at_call 11; refine (r_drop HJ2.out.j.rv (by have := HJR.out.j.q.nm.ln; omega) x).mono ?_; rintro en W3 ⟨A3, n3, c3, rfl, hrv, hb3⟩
                 have hb4 : Below W3.heap.size W3 (W3.alloc (.cells #[.slice A3 n3 c3, .int .i64 (m.drop x).most, .int .i64 (m.drop x).now, .int .i64 (m.drop x).sets] 29)) := (Below.refl _ _).alloc (Nat.le_refl _) _
                 have HZ4 := Lib.hid (Bk.new W3 29 [.slice A3 n3 c3, .int .i64 (m.drop x).most, .int .i64 (m.drop x).now, .int .i64 (m.drop x).sets])
                 have HJ4 := Lib.hid ((HJ2.out.next hb3).next hb4)
                 have HR4 := Lib.hid (RvL.below hrv hb4)
                 clear hb3 hb4 hrv o1)
              | (with_reducible refine at_load 29 (.tmp 14) (by rfl) ?_
                 refine wpList_load_bk rowR rfl (.tmp 14) rfl W3.heap.size 0 rfl HZ4.out [.slice A3 n3 c3, .int .i64 (m.drop x).most, .int .i64 (m.drop x).now, .int .i64 (m.drop x).sets] rfl rfl ?_)
              | (with_reducible refine at_store 29 (.tmp 9) (.tmp 107) (by rfl) ?_
                 refine wpList_store_bk rowR rfl (.tmp 9) (.tmp 107) rfl b 0 rfl HJ4.out.j.bx [.slice A3 n3 c3, .int .i64 (m.drop x).most, .int .i64 (m.drop x).now, .int .i64 (m.drop x).sets] rfl rfl (by show 0 + 4 ≤ 4; omega) (by simp [Value.oneCell']) ?_
                 intro W6 hz6 hw6
                 rw [lay_all _ _ (by rfl)] at hz6
                 have HJ6 := Lib.hid (JO.ref HJ4.out HR4.out hz6 hw6)
                 have o1' := HJ6.out.o.cell 1 rfl
                 clear hz6 hw6)
              | (with_reducible refine at_load 29 (.tmp 9) (by rfl) ?_
                 refine wpList_load_bk rowR rfl (.tmp 9) rfl b 0 rfl HJ6.out.j.bx [.slice A3 n3 c3, .int .i64 (m.drop x).most, .int .i64 (m.drop x).now, .int .i64 (m.drop x).sets] rfl rfl ?_)
              | (go_at_call 18; refine (same_true HJ6.out.j.q HJ6.out.j.rv HJ6.out.j.ok x).mono ?_; rintro en W9 ⟨rfl, hb9⟩
                 have HJ9 := Lib.hid (HJ6.out.next hb9)
                 clear hb9))
            go_roundw
            case rel => exact ⟨k + 1, by go_num, by have := HLT.out; omega, (m.drop x), _, _, _, HJ9.out.j, by have := HBd.out; show m.now ≤ _; omega, HBd.out.2.1, by have := HBd.out; show m.sets ≤ _; omega⟩
            case measure => have := HLT.out; simp [intOf]; omega
        · as_aux_lemma =>
            have e4 : (d % 8 == 4) = false := by simp; omega
            have e5 : (d % 8 == 5) = true := by simpa using hd8
            clear hd8
            go_wp2_with (first
              | (with_reducible refine at_load 34 (.tmp 70) (by rfl) ?_
                 refine wpList_load_row rowO rfl (.tmp 70) rfl rfl [.int .u8 d, .int .i64 x, .int .i64 t] hra1 rfl ?_
                 clear hra1)
              | (go_at_call 12; refine (w_tick HJR.out.j.q HNB.out.1).mono ?_; rintro en W2 ⟨A2, n2, c2, rfl, hl2, hd2⟩
                 have HJ2 := Lib.hid (HJR.out.did hd2 (Wm.skip_ok HJR.out.j.ok _))
                 have HL2 := Lib.hid hl2
                 clear hd2 hl2 o0)
              | (with_reducible refine at_load 29 (.tmp 9) (by rfl) ?_
                 refine wpList_load_bk rowR rfl (.tmp 9) rfl b 0 rfl HJ2.out.j.bx [.slice A n c, .int .i64 m.most, .int .i64 m.now, .int .i64 m.sets] rfl rfl ?_)
              | (go_at_call 13; refine (r_skip HJ2.out.j.rv HJR.out.j.q.nm HNB.out.1 (1) (by decide)).mono ?_; rintro en W3 ⟨A3, n3, c3, A4, n4, c4, rfl, hrv, hl3, hb3⟩
                 have hb4 : Below W3.heap.size W3 (W3.alloc (.cells #[.slice A3 n3 c3, .int .i64 (m.skip (1)).most, .int .i64 (m.skip (1)).now, .int .i64 (m.skip (1)).sets] 29)) := (Below.refl _ _).alloc (Nat.le_refl _) _
                 have HZ4 := Lib.hid (Bk.new W3 29 [.slice A3 n3 c3, .int .i64 (m.skip (1)).most, .int .i64 (m.skip (1)).now, .int .i64 (m.skip (1)).sets])
                 have HJ4 := Lib.hid ((HJ2.out.next hb3).next hb4)
                 have HR4 := Lib.hid (RvL.below hrv hb4)
                 have HL4 := Lib.hid (And.intro ((HL2.out.below hb3).below hb4) (hl3.below hb4))
                 clear hb3 hb4 hrv hl3)
              | (with_reducible refine at_load 29 (.tmp 17) (by rfl) ?_
                 refine wpList_load_bk rowR rfl (.tmp 17) rfl W3.heap.size 0 rfl HZ4.out [.slice A3 n3 c3, .int .i64 (m.skip (1)).most, .int .i64 (m.skip (1)).now, .int .i64 (m.skip (1)).sets] rfl rfl ?_)
              | (with_reducible refine at_store 29 (.tmp 9) (.tmp 121) (by rfl) ?_
                 refine wpList_store_bk rowR rfl (.tmp 9) (.tmp 121) rfl b 0 rfl HJ4.out.j.bx [.slice A3 n3 c3, .int .i64 (m.skip (1)).most, .int .i64 (m.skip (1)).now, .int .i64 (m.skip (1)).sets] rfl rfl (by show 0 + 4 ≤ 4; omega) (by simp [Value.oneCell']) ?_
                 intro W6 hz6 hw6
                 rw [lay_all _ _ (by rfl)] at hz6
                 have HJ6 := Lib.hid (JO.ref HJ4.out HR4.out hz6 hw6)
                 have o1' := HJ6.out.o.cell 1 rfl
                 have HS6 := Lib.hid (And.intro ((HL4.out.1.st (st_wr hw6) fun q hq e => by have := HJR.out.j.bx.lt; omega).rdv) ((HL4.out.2.st (st_wr hw6) fun q hq e => by have := HJ2.out.j.bx.lt; omega).rdv))
                 clear hz6 hw6)
              | (go_at_call 14; refine (same_refl HS6.out.1 HS6.out.2).mono ?_; rintro en W7 ⟨rfl, hb7⟩
                 have HJ7 := Lib.hid (HJ6.out.next hb7)
                 have o1' := HJ7.out.o.cell 1 rfl
                 clear hb7)
              | (with_reducible refine at_load 29 (.tmp 9) (by rfl) ?_
                 refine wpList_load_bk rowR rfl (.tmp 9) rfl b 0 rfl HJ7.out.j.bx [.slice A3 n3 c3, .int .i64 (m.skip (1)).most, .int .i64 (m.skip (1)).now, .int .i64 (m.skip (1)).sets] rfl rfl ?_)
              | (go_at_call 18; refine (same_true HJ7.out.j.q HJ7.out.j.rv HJ7.out.j.ok x).mono ?_; rintro en W9 ⟨rfl, hb9⟩
                 have HJ9 := Lib.hid (HJ7.out.next hb9)
                 clear hb9))
            go_roundw
            case rel => exact ⟨k + 1, by go_num, by have := HLT.out; omega, (m.skip (1)), _, _, _, HJ9.out.j, by have := HBd.out; have := (clampN_in (1)).2; show m.now + clampN (1) ≤ _; omega, HBd.out.2.1, by have := HBd.out; show m.sets ≤ _; omega⟩
            case measure => have := HLT.out; simp [intOf]; omega
        · as_aux_lemma =>
            have e4 : (d % 8 == 4) = false := by simp; omega
            have e5 : (d % 8 == 5) = false := by simp; omega
            have e6 : (d % 8 == 6) = true := by simpa using hd8
            clear hd8
            go_wp2_with (first
              | (with_reducible refine at_load 34 (.tmp 70) (by rfl) ?_
                 refine wpList_load_row rowO rfl (.tmp 70) rfl rfl [.int .u8 d, .int .i64 x, .int .i64 t] hra1 rfl ?_
                 clear hra1)
              | (go_at_call 12; refine (w_tick HJR.out.j.q HNB.out.1).mono ?_; rintro en W2 ⟨A2, n2, c2, rfl, hl2, hd2⟩
                 have HJ2 := Lib.hid (HJR.out.did hd2 (Wm.skip_ok HJR.out.j.ok _))
                 have HL2 := Lib.hid hl2
                 clear hd2 hl2 o0)
              | (with_reducible refine at_load 29 (.tmp 9) (by rfl) ?_
                 refine wpList_load_bk rowR rfl (.tmp 9) rfl b 0 rfl HJ2.out.j.bx [.slice A n c, .int .i64 m.most, .int .i64 m.now, .int .i64 m.sets] rfl rfl ?_)
              | (go_at_call 13; refine (r_skip HJ2.out.j.rv HJR.out.j.q.nm HNB.out.1 (1) (by decide)).mono ?_; rintro en W3 ⟨A3, n3, c3, A4, n4, c4, rfl, hrv, hl3, hb3⟩
                 have hb4 : Below W3.heap.size W3 (W3.alloc (.cells #[.slice A3 n3 c3, .int .i64 (m.skip (1)).most, .int .i64 (m.skip (1)).now, .int .i64 (m.skip (1)).sets] 29)) := (Below.refl _ _).alloc (Nat.le_refl _) _
                 have HZ4 := Lib.hid (Bk.new W3 29 [.slice A3 n3 c3, .int .i64 (m.skip (1)).most, .int .i64 (m.skip (1)).now, .int .i64 (m.skip (1)).sets])
                 have HJ4 := Lib.hid ((HJ2.out.next hb3).next hb4)
                 have HR4 := Lib.hid (RvL.below hrv hb4)
                 have HL4 := Lib.hid (And.intro ((HL2.out.below hb3).below hb4) (hl3.below hb4))
                 clear hb3 hb4 hrv hl3)
              | (with_reducible refine at_load 29 (.tmp 17) (by rfl) ?_
                 refine wpList_load_bk rowR rfl (.tmp 17) rfl W3.heap.size 0 rfl HZ4.out [.slice A3 n3 c3, .int .i64 (m.skip (1)).most, .int .i64 (m.skip (1)).now, .int .i64 (m.skip (1)).sets] rfl rfl ?_)
              | (with_reducible refine at_store 29 (.tmp 9) (.tmp 121) (by rfl) ?_
                 refine wpList_store_bk rowR rfl (.tmp 9) (.tmp 121) rfl b 0 rfl HJ4.out.j.bx [.slice A3 n3 c3, .int .i64 (m.skip (1)).most, .int .i64 (m.skip (1)).now, .int .i64 (m.skip (1)).sets] rfl rfl (by show 0 + 4 ≤ 4; omega) (by simp [Value.oneCell']) ?_
                 intro W6 hz6 hw6
                 rw [lay_all _ _ (by rfl)] at hz6
                 have HJ6 := Lib.hid (JO.ref HJ4.out HR4.out hz6 hw6)
                 have o1' := HJ6.out.o.cell 1 rfl
                 have HS6 := Lib.hid (And.intro ((HL4.out.1.st (st_wr hw6) fun q hq e => by have := HJR.out.j.bx.lt; omega).rdv) ((HL4.out.2.st (st_wr hw6) fun q hq e => by have := HJ2.out.j.bx.lt; omega).rdv))
                 clear hz6 hw6)
              | (go_at_call 14; refine (same_refl HS6.out.1 HS6.out.2).mono ?_; rintro en W7 ⟨rfl, hb7⟩
                 have HJ7 := Lib.hid (HJ6.out.next hb7)
                 have o1' := HJ7.out.o.cell 1 rfl
                 clear hb7)
              | (with_reducible refine at_load 29 (.tmp 9) (by rfl) ?_
                 refine wpList_load_bk rowR rfl (.tmp 9) rfl b 0 rfl HJ7.out.j.bx [.slice A3 n3 c3, .int .i64 (m.skip (1)).most, .int .i64 (m.skip (1)).now, .int .i64 (m.skip (1)).sets] rfl rfl ?_)
              | (go_at_call 18; refine (same_true HJ7.out.j.q HJ7.out.j.rv HJ7.out.j.ok x).mono ?_; rintro en W9 ⟨rfl, hb9⟩
                 have HJ9 := Lib.hid (HJ7.out.next hb9)
                 clear hb9))
            go_roundw
            case rel => exact ⟨k + 1, by go_num, by have := HLT.out; omega, (m.skip (1)), _, _, _, HJ9.out.j, by have := HBd.out; have := (clampN_in (1)).2; show m.now + clampN (1) ≤ _; omega, HBd.out.2.1, by have := HBd.out; show m.sets ≤ _; omega⟩
            case measure => have := HLT.out; simp [intOf]; omega
        · as_aux_lemma =>
            have e4 : (d % 8 == 4) = false := by simp; omega
            have e5 : (d % 8 == 5) = false := by simp; omega
            have e6 : (d % 8 == 6) = false := by simp; omega
            have e7 : (d % 8 == 7) = true := by simpa using hd8
            clear hd8
            have o2 := HJR.out.o.cell 2 rfl
            by_cases ht5 : 5000 < t
            · have HTN : Hid (t % 5000 ≤ 1048576) := Lib.hid (by omega)
              have ht0 : 0 ≤ t := by omega
              go_wp2_with (first
                | (with_reducible refine at_load 34 (.tmp 70) (by rfl) ?_
                   refine wpList_load_row rowO rfl (.tmp 70) rfl rfl [.int .u8 d, .int .i64 x, .int .i64 t] hra1 rfl ?_
                   clear hra1)
                | (go_at_call 15; refine (w_skip HJR.out.j.q HNB.out.1 (t % 5000) HTN.out).mono ?_; rintro en W2 ⟨A2, n2, c2, rfl, hl2, hd2⟩
                   have HJ2 := Lib.hid (HJR.out.did hd2 (Wm.skip_ok HJR.out.j.ok _))
                   have HL2 := Lib.hid hl2
                   clear hd2 hl2 o0)
                | (with_reducible refine at_load 29 (.tmp 9) (by rfl) ?_
                   refine wpList_load_bk rowR rfl (.tmp 9) rfl b 0 rfl HJ2.out.j.bx [.slice A n c, .int .i64 m.most, .int .i64 m.now, .int .i64 m.sets] rfl rfl ?_)
                | (go_at_call 13; refine (r_skip HJ2.out.j.rv HJR.out.j.q.nm HNB.out.1 (t % 5000) HTN.out).mono ?_; rintro en W3 ⟨A3, n3, c3, A4, n4, c4, rfl, hrv, hl3, hb3⟩
                   have hb4 : Below W3.heap.size W3 (W3.alloc (.cells #[.slice A3 n3 c3, .int .i64 (m.skip (t % 5000)).most, .int .i64 (m.skip (t % 5000)).now, .int .i64 (m.skip (t % 5000)).sets] 29)) := (Below.refl _ _).alloc (Nat.le_refl _) _
                   have HZ4 := Lib.hid (Bk.new W3 29 [.slice A3 n3 c3, .int .i64 (m.skip (t % 5000)).most, .int .i64 (m.skip (t % 5000)).now, .int .i64 (m.skip (t % 5000)).sets])
                   have HJ4 := Lib.hid ((HJ2.out.next hb3).next hb4)
                   have HR4 := Lib.hid (RvL.below hrv hb4)
                   have HL4 := Lib.hid (And.intro ((HL2.out.below hb3).below hb4) (hl3.below hb4))
                   clear hb3 hb4 hrv hl3)
                | (with_reducible refine at_load 29 (.tmp 21) (by rfl) ?_
                   refine wpList_load_bk rowR rfl (.tmp 21) rfl W3.heap.size 0 rfl HZ4.out [.slice A3 n3 c3, .int .i64 (m.skip (t % 5000)).most, .int .i64 (m.skip (t % 5000)).now, .int .i64 (m.skip (t % 5000)).sets] rfl rfl ?_)
                | (with_reducible refine at_store 29 (.tmp 9) (.tmp 143) (by rfl) ?_
                   refine wpList_store_bk rowR rfl (.tmp 9) (.tmp 143) rfl b 0 rfl HJ4.out.j.bx [.slice A3 n3 c3, .int .i64 (m.skip (t % 5000)).most, .int .i64 (m.skip (t % 5000)).now, .int .i64 (m.skip (t % 5000)).sets] rfl rfl (by show 0 + 4 ≤ 4; omega) (by simp [Value.oneCell']) ?_
                   intro W6 hz6 hw6
                   rw [lay_all _ _ (by rfl)] at hz6
                   have HJ6 := Lib.hid (JO.ref HJ4.out HR4.out hz6 hw6)
                   have o1' := HJ6.out.o.cell 1 rfl
                   have HS6 := Lib.hid (And.intro ((HL4.out.1.st (st_wr hw6) fun q hq e => by have := HJR.out.j.bx.lt; omega).rdv) ((HL4.out.2.st (st_wr hw6) fun q hq e => by have := HJ2.out.j.bx.lt; omega).rdv))
                   clear hz6 hw6)
                | (go_at_call 14; refine (same_refl HS6.out.1 HS6.out.2).mono ?_; rintro en W7 ⟨rfl, hb7⟩
                   have HJ7 := Lib.hid (HJ6.out.next hb7)
                   have o1' := HJ7.out.o.cell 1 rfl
                   clear hb7)
                | (with_reducible refine at_load 29 (.tmp 9) (by rfl) ?_
                   refine wpList_load_bk rowR rfl (.tmp 9) rfl b 0 rfl HJ7.out.j.bx [.slice A3 n3 c3, .int .i64 (m.skip (t % 5000)).most, .int .i64 (m.skip (t % 5000)).now, .int .i64 (m.skip (t % 5000)).sets] rfl rfl ?_)
                | (go_at_call 18; refine (same_true HJ7.out.j.q HJ7.out.j.rv HJ7.out.j.ok x).mono ?_; rintro en W9 ⟨rfl, hb9⟩
                   have HJ9 := Lib.hid (HJ7.out.next hb9)
                   clear hb9))
              go_roundw
              case rel => exact ⟨k + 1, by go_num, by have := HLT.out; omega, (m.skip (t % 5000)), _, _, _, HJ9.out.j, by have := HBd.out; have := (clampN_in (t % 5000)).2; show m.now + clampN (t % 5000) ≤ _; omega, HBd.out.2.1, by have := HBd.out; show m.sets ≤ _; omega⟩
              case measure => have := HLT.out; simp [intOf]; omega
            · have HTN : Hid (t ≤ 1048576) := Lib.hid (by omega)
              have ht6 : t ≤ 5000 := by omega
              clear ht5
              go_wp2_with (first
                | (with_reducible refine at_load 34 (.tmp 70) (by rfl) ?_
                   refine wpList_load_row rowO rfl (.tmp 70) rfl rfl [.int .u8 d, .int .i64 x, .int .i64 t] hra1 rfl ?_
                   clear hra1)
                | (go_at_call 15; refine (w_skip HJR.out.j.q HNB.out.1 (t) HTN.out).mono ?_; rintro en W2 ⟨A2, n2, c2, rfl, hl2, hd2⟩
                   have HJ2 := Lib.hid (HJR.out.did hd2 (Wm.skip_ok HJR.out.j.ok _))
                   have HL2 := Lib.hid hl2
                   clear hd2 hl2 o0)
                | (with_reducible refine at_load 29 (.tmp 9) (by rfl) ?_
                   refine wpList_load_bk rowR rfl (.tmp 9) rfl b 0 rfl HJ2.out.j.bx [.slice A n c, .int .i64 m.most, .int .i64 m.now, .int .i64 m.sets] rfl rfl ?_)
                | (go_at_call 13; refine (r_skip HJ2.out.j.rv HJR.out.j.q.nm HNB.out.1 (t) HTN.out).mono ?_; rintro en W3 ⟨A3, n3, c3, A4, n4, c4, rfl, hrv, hl3, hb3⟩
                   have hb4 : Below W3.heap.size W3 (W3.alloc (.cells #[.slice A3 n3 c3, .int .i64 (m.skip (t)).most, .int .i64 (m.skip (t)).now, .int .i64 (m.skip (t)).sets] 29)) := (Below.refl _ _).alloc (Nat.le_refl _) _
                   have HZ4 := Lib.hid (Bk.new W3 29 [.slice A3 n3 c3, .int .i64 (m.skip (t)).most, .int .i64 (m.skip (t)).now, .int .i64 (m.skip (t)).sets])
                   have HJ4 := Lib.hid ((HJ2.out.next hb3).next hb4)
                   have HR4 := Lib.hid (RvL.below hrv hb4)
                   have HL4 := Lib.hid (And.intro ((HL2.out.below hb3).below hb4) (hl3.below hb4))
                   clear hb3 hb4 hrv hl3)
                | (with_reducible refine at_load 29 (.tmp 21) (by rfl) ?_
                   refine wpList_load_bk rowR rfl (.tmp 21) rfl W3.heap.size 0 rfl HZ4.out [.slice A3 n3 c3, .int .i64 (m.skip (t)).most, .int .i64 (m.skip (t)).now, .int .i64 (m.skip (t)).sets] rfl rfl ?_)
                | (with_reducible refine at_store 29 (.tmp 9) (.tmp 143) (by rfl) ?_
                   refine wpList_store_bk rowR rfl (.tmp 9) (.tmp 143) rfl b 0 rfl HJ4.out.j.bx [.slice A3 n3 c3, .int .i64 (m.skip (t)).most, .int .i64 (m.skip (t)).now, .int .i64 (m.skip (t)).sets] rfl rfl (by show 0 + 4 ≤ 4; omega) (by simp [Value.oneCell']) ?_
                   intro W6 hz6 hw6
                   rw [lay_all _ _ (by rfl)] at hz6
                   have HJ6 := Lib.hid (JO.ref HJ4.out HR4.out hz6 hw6)
                   have o1' := HJ6.out.o.cell 1 rfl
                   have HS6 := Lib.hid (And.intro ((HL4.out.1.st (st_wr hw6) fun q hq e => by have := HJR.out.j.bx.lt; omega).rdv) ((HL4.out.2.st (st_wr hw6) fun q hq e => by have := HJ2.out.j.bx.lt; omega).rdv))
                   clear hz6 hw6)
                | (go_at_call 14; refine (same_refl HS6.out.1 HS6.out.2).mono ?_; rintro en W7 ⟨rfl, hb7⟩
                   have HJ7 := Lib.hid (HJ6.out.next hb7)
                   have o1' := HJ7.out.o.cell 1 rfl
                   clear hb7)
                | (with_reducible refine at_load 29 (.tmp 9) (by rfl) ?_
                   refine wpList_load_bk rowR rfl (.tmp 9) rfl b 0 rfl HJ7.out.j.bx [.slice A3 n3 c3, .int .i64 (m.skip (t)).most, .int .i64 (m.skip (t)).now, .int .i64 (m.skip (t)).sets] rfl rfl ?_)
                | (go_at_call 18; refine (same_true HJ7.out.j.q HJ7.out.j.rv HJ7.out.j.ok x).mono ?_; rintro en W9 ⟨rfl, hb9⟩
                   have HJ9 := Lib.hid (HJ7.out.next hb9)
                   clear hb9))
              go_roundw
              case rel => exact ⟨k + 1, by go_num, by have := HLT.out; omega, (m.skip (t)), _, _, _, HJ9.out.j, by have := HBd.out; have := (clampN_in (t)).2; show m.now + clampN (t) ≤ _; omega, HBd.out.2.1, by have := HBd.out; show m.sets ≤ _; omega⟩
              case measure => have := HLT.out; simp [intOf]; omega
        · as_aux_lemma =>
            have e4 : (d % 8 == 4) = false := by simp; omega
            have e5 : (d % 8 == 5) = false := by simp; omega
            have e6 : (d % 8 == 6) = false := by simp; omega
            have e7 : (d % 8 == 7) = false := by simp; omega
            clear hd8
            have o1 := HJR.out.o.cell 1 rfl
            have o2 := HJR.out.o.cell 2 rfl
            go_wp2_with (first
              | (with_reducible refine at_load 34 (.tmp 70) (by rfl) ?_
                 refine wpList_load_row rowO rfl (.tmp 70) rfl rfl [.int .u8 d, .int .i64 x, .int .i64 t] hra1 rfl ?_
                 clear hra1)
              | (go_at_call 16; refine (w_set HJR.out.j.q HJR.out.j.ok HNB.out.1 x t).mono ?_; rintro en W2 ⟨rfl, hd2⟩
                 have HJ2 := Lib.hid (HJR.out.did hd2 (Wm.set_ok HJR.out.j.ok x t))
                 have o1 := HJ2.out.o.cell 1 rfl
                 have o2 := HJ2.out.o.cell 2 rfl
                 clear hd2 o0)
              | (with_reducible refine at_load 29 (.tmp 9) (by rfl) ?_
                 refine wpList_load_bk rowR rfl (.tmp 9) rfl b 0 rfl HJ2.out.j.bx [.slice A n c, .int .i64 m.most, .int .i64 m.now, .int .i64 m.sets] rfl rfl ?_)
              | (go_at_call 17; refine (r_set HJ2.out.j.rv HJR.out.j.q.nm HJR.out.j.ok HNB.out.1 HBd.out.2.1 HNB.out.2 x t).mono ?_; rintro en W3 ⟨A3, n3, c3, rfl, hrv, hb3⟩
                 have hb4 : Below W3.heap.size W3 (W3.alloc (.cells #[.slice A3 n3 c3, .int .i64 (m.set x t).most, .int .i64 (m.set x t).now, .int .i64 (m.set x t).sets] 29)) := (Below.refl _ _).alloc (Nat.le_refl _) _
                 have HZ4 := Lib.hid (Bk.new W3 29 [.slice A3 n3 c3, .int .i64 (m.set x t).most, .int .i64 (m.set x t).now, .int .i64 (m.set x t).sets])
                 have HJ4 := Lib.hid ((HJ2.out.next hb3).next hb4)
                 have HR4 := Lib.hid (RvL.below hrv hb4)
                 clear hb3 hb4 hrv o1 o2)
              | (with_reducible refine at_load 29 (.tmp 24) (by rfl) ?_
                 refine wpList_load_bk rowR rfl (.tmp 24) rfl W3.heap.size 0 rfl HZ4.out [.slice A3 n3 c3, .int .i64 (m.set x t).most, .int .i64 (m.set x t).now, .int .i64 (m.set x t).sets] rfl rfl ?_)
              | (with_reducible refine at_store 29 (.tmp 9) (.tmp 90) (by rfl) ?_
                 refine wpList_store_bk rowR rfl (.tmp 9) (.tmp 90) rfl b 0 rfl HJ4.out.j.bx [.slice A3 n3 c3, .int .i64 (m.set x t).most, .int .i64 (m.set x t).now, .int .i64 (m.set x t).sets] rfl rfl (by show 0 + 4 ≤ 4; omega) (by simp [Value.oneCell']) ?_
                 intro W6 hz6 hw6
                 rw [lay_all _ _ (by rfl)] at hz6
                 have HJ6 := Lib.hid (JO.ref HJ4.out HR4.out hz6 hw6)
                 have o1' := HJ6.out.o.cell 1 rfl
                 clear hz6 hw6)
              | (with_reducible refine at_load 29 (.tmp 9) (by rfl) ?_
                 refine wpList_load_bk rowR rfl (.tmp 9) rfl b 0 rfl HJ6.out.j.bx [.slice A3 n3 c3, .int .i64 (m.set x t).most, .int .i64 (m.set x t).now, .int .i64 (m.set x t).sets] rfl rfl ?_)
              | (go_at_call 18; refine (same_true HJ6.out.j.q HJ6.out.j.rv HJ6.out.j.ok x).mono ?_; rintro en W9 ⟨rfl, hb9⟩
                 have HJ9 := Lib.hid (HJ6.out.next hb9)
                 clear hb9))
            go_roundw
            case rel => exact ⟨k + 1, by go_num, by have := HLT.out; omega, (m.set x t), _, _, _, HJ9.out.j, by have := HBd.out; rw [Wm.set_now]; omega, by have := HBd.out; have := Wm.set_sets m x t; omega, by have := HBd.out; have := Wm.set_sets m x t; omega⟩
            case measure => have := HLT.out; simp [intOf]; omega
      · have HJE := Lib.hid hJR
        rcases (by omega : ¬ (k : Int) < n0 ∨ ((k : Int) < n0 ∧ ¬ (k : Int) < 50)) with hge | ⟨hge1, hge2⟩
        all_goals
          clear hJR hlt hnow hset0 hset1
          go_wp2_with fail
          refine (l_told HJE.out.q 2000 (by decide) (by decide)).mono ?_
          rintro en W1 ⟨A1, n1, c1, rfl, hl1, hb1⟩
          have HJ1 := Lib.hid (HJE.out.next hb1)
          have HL1 := Lib.hid hl1.rdv
          clear hl1 hb1
          go_wp2_with fail
          refine (l_told HJ1.out.q s hs0 (by omega)).mono ?_
          rintro en W2 ⟨A2, n2, c2, rfl, hl2, hb2⟩
          have HJ2 := Lib.hid (HJ1.out.next hb2)
          have HL2 := Lib.hid (And.intro (HL1.out.below hb2) hl2.rdv)
          have hzb := HJ2.out.bx
          clear hl2 hb2
          go_wp2_with (with_reducible refine at_load 29 (.tmp 9) (by rfl) ?_
                       refine wpList_load_bk_g rowR (by rfl) (.tmp 9) rfl b 0 rfl hzb [.slice A n c, .int .i64 m.most, .int .i64 m.now, .int .i64 m.sets] rfl rfl ?_)
          refine (r_all HJ2.out.rv HJ2.out.q.nm 2000 (by decide)).mono ?_
          rintro en W3 ⟨A3, n3, c3, rfl, hl3, hb3⟩
          have HJ3 := Lib.hid (HJ2.out.next hb3)
          have HL3 := Lib.hid (And.intro (HL2.out.1.below hb3) (And.intro (HL2.out.2.below hb3) hl3.rdv))
          clear hl3 hb3 hzb
          go_wp2_with fail
          refine (same_refl HL3.out.1 HL3.out.2.2).mono ?_
          rintro en W4 ⟨rfl, hb4⟩
          have HJ4 := Lib.hid (HJ3.out.next hb4)
          have HL4 := Lib.hid (HL3.out.2.1.below hb4)
          have hzb := HJ4.out.bx
          clear hb4
          go_wp2_with (with_reducible refine at_load 29 (.tmp 9) (by rfl) ?_
                       refine wpList_load_bk_g rowR (by rfl) (.tmp 9) rfl b 0 rfl hzb [.slice A n c, .int .i64 m.most, .int .i64 m.now, .int .i64 m.sets] rfl rfl ?_)
          refine (r_all HJ4.out.rv HJ4.out.q.nm s hs0).mono ?_
          rintro en W5 ⟨A5, n5, c5, rfl, hl5, hb5⟩
          have HJ5 := Lib.hid (HJ4.out.next hb5)
          have HL5 := Lib.hid (And.intro (HL4.out.below hb5) hl5.rdv)
          clear hl5 hb5 hzb
          go_wp2_with fail
          refine (same_refl HL5.out.1 HL5.out.2).mono ?_
          rintro en W6 ⟨rfl, hb6⟩
          have HJ6 := Lib.hid (HJ5.out.next hb6)
          clear hb6
          go_wp2
          go_ret
          exact ⟨rfl, HJ6.out.bel⟩
  · have hmo' : most < 1 ∨ (1 ≤ most ∧ 1024 < most) := by omega
    go_enter Try.func3, Try.ntmps3
    go_wp2_with fail
    refine (w_newbad most hmo').mono ?_
    rintro en w1 ⟨rfl, rfl⟩
    go_wp2_with fail
    refine (r_newbad2 _ most hmo').mono ?_
    rintro en w2 ⟨rfl, hb2⟩
    have hba : Below w2.heap.size w2 (w2.alloc (.cells #[.slice none 0 0, .int .i64 0, .int .i64 0, .int .i64 0] 29)) := (Below.refl _ _).alloc (Nat.le_refl _) _
    have HB2 := Lib.hid (below_on hb2 hba)
    have HA := Lib.hid (awake_any (w2.alloc (.cells #[.slice none 0 0, .int .i64 0, .int .i64 0, .int .i64 0] 29)))
    clear hb2 hba
    go_wp2_with fail
    refine HA.out.mono ?_
    rintro en w3 ⟨rfl, hb3⟩
    have HB3 := Lib.hid (below_on HB2.out hb3)
    clear hb3 HB2 HA
    go_wp2
    go_loopw [11] (fun i W => i = .int .i64 0 ∧ W = w3) (fun i _ => 0)
    case atStart => exact ⟨rfl, rfl⟩
    case round =>
      obtain ⟨rfl, rfl⟩ := hrel
      by_cases hn0 : (0 : Int) < n0
      · go_wp2
        go_ret
        exact ⟨rfl, HB3.out⟩
      · go_wp2
        go_ret
        exact ⟨rfl, HB3.out⟩
end Go.Proofs.Ytainmpeiicinmaa.Wi
