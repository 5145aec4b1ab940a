/- A queue's repeat list; made, sent, repeated, asked for a piece. -/
import Derived.Test.YtnakoplceplmmaaV5
set_option linter.unusedSimpArgs false
set_option linter.unusedVariables false
namespace Go.Proofs.Ytnakoplceplmmaa
open Go.RowKit Go.Shelf
section
variable {F F' : Nat → Prop} {w w' : World} {g : Nat} {m : Sm} {A B : Option Addr} {n c k d : Nat}
/-- One cell of the box is written. -/
theorem SqA.box (h : SqA F w g m A n c B k d) {j : Nat} {v : Value} {vs : List Value} (m' : Sm) {B' : Option Addr} {k' d' : Nat} (hset : [Value.int .i64 m.most, .int .i64 m.lo, .int .i64 m.nx, .slice A n c, .slice B k d].set j v = [.int .i64 m'.most, .int .i64 m'.lo, .int .i64 m'.nx, .slice A n c, .slice B' k' d'])
    (hz : m'.zl = m.zl) (hrow : Lst 3 F w B' k' d' (intV m'.row)) (hnm : m'.Nm) : SqA F (w.setCell ⟨g, j, none⟩ v) g m' A n c B' k' d' ∧ St F w (w.setCell ⟨g, j, none⟩ v) := by
  have hst : St (· = g) w (w.setCell ⟨g, j, none⟩ v) := St.setCell (F := (· = g)) w (a := ⟨g, j, none⟩) rfl _
  have hb := h.bk.set j v
  rw [hset] at hb
  have ht := h.bk.tyd
  refine ⟨⟨hb, by rw [hz]; exact h.ls.stT hst fun k hk => hk ▸ ⟨ht.ne (by decide), ht.ne (by decide)⟩, ?_, h.fg, fun j hj => by simpa [World.setCell] using h.lt j hj, hnm⟩, hst.mono fun k _ hk => hk ▸ h.fg⟩
  refine hrow.same fun ad he => Below.heap_setCell _ _ _ _ ?_
  intro e
  exact (ht.ne (u := 3) (by decide)) (by have := hrow.tyd _ ⟨ad, he, rfl⟩; rw [e] at this; exact this)
theorem Did.box (h : SqA F w g m A n c B k d) {j : Nat} {v : Value} (m' : Sm) {B' : Option Addr} {k' d' : Nat} (hset : [Value.int .i64 m.most, .int .i64 m.lo, .int .i64 m.nx, .slice A n c, .slice B k d].set j v = [.int .i64 m'.most, .int .i64 m'.lo, .int .i64 m'.nx, .slice A n c, .slice B' k' d'])
    (hz : m'.zl = m.zl) (hrow : Lst 3 F w B' k' d' (intV m'.row)) (hnm : m'.Nm) : Did F w g m' (w.setCell ⟨g, j, none⟩ v) := by
  obtain ⟨h1, h2⟩ := h.box (vs := []) m' hset hz hrow hnm
  exact ⟨F, ⟨_, _, _, _, _, _, h1⟩, h2, Gr.refl _ _⟩
theorem Sm.rept_zl (m : Sm) : m.rept.zl = m.zl := rfl
theorem intV_drop (xs : List Int) (k : Nat) : intV (xs.drop k) = (intV xs).drop k := by simp [intV]
theorem st_wr {w w' : World} {g : Nat} (hw : Wr g w w') : St (· = g) w w' := ⟨hw.os, hw.tape, hw.output, hw.size, fun j hj hn => hw.block j hj (by intro e; injection e with e; exact hn e)⟩
/-- What Repeat tells. -/
def Sm.head (m : Sm) : Int := m.row.headD 0
def Sm.any (m : Sm) : Bool := !m.row.isEmpty
theorem l_take (h : SqC F w g m) : Calls Try.prog 38 #[.pointer (some ⟨g, 4, none⟩)] w fun e w' => e = .returned (.tuple #[.int .i64 m.head, .bool m.any]) ∧ Did F w g m.rept w' := by
  obtain ⟨A, n, c, B, k, d, h⟩ := h
  have c4 := h.bk.cell 4 rfl
  have f4 := h.bk.free 4
  have hk := h.hk
  by_cases hr : m.row = []
  · have HV : Hid (m.head = 0 ∧ m.any = false ∧ m.rept = m) := Lib.hid ⟨by simp [Sm.head, hr], by simp [Sm.any, hr], by unfold Sm.rept; obtain ⟨a1, a2, a3, a4, a5, a6⟩ := m; simp only at hr; subst hr; rfl⟩
    obtain rfl : k = 0 := by rw [hk, hr]; rfl
    have H := Lib.hid h
    clear hk hr h
    go_enter Try.func38, Try.ntmps38
    go_wp2
    go_ret2
    exact ⟨by rw [HV.out.1, HV.out.2.1]; rfl, by rw [HV.out.2.2]; exact Did.same ⟨_, _, _, _, _, _, H.out⟩⟩
  · obtain ⟨x, r, hxr⟩ : ∃ x r, m.row = x :: r := by cases h : m.row with | nil => exact absurd h hr | cons x r => exact ⟨x, r, rfl⟩
    have hk0 : 0 < k := by rw [hk, hxr]; simp
    have hkd := h.rw.2.1
    obtain ⟨g1, o, rfl, hg1, hc⟩ := h.rw.rdv.cell hk0
    have c5 : w.cell? ⟨g1, o + 0, none⟩ = some (.int .i64 x) := by rw [hc, hxr]; rfl
    rw [Nat.add_zero] at c5
    have hcut : (Instr.slice 29 (.slice (some ⟨g1, o, none⟩) k d) (some (.int .i64 1)) none none).run Try.prog w = .ok (.slice (cutA (some ⟨g1, o, none⟩) d 1) (k - 1) (d - 1)) w := eltI.run_cut (some ⟨g1, o, none⟩) k d 1 hk0 hkd w
    have HV : Hid (m.head = x ∧ m.any = true) := Lib.hid ⟨by simp [Sm.head, hxr], by simp [Sm.any, hxr]⟩
    have hD := Did.box h (j := 4) (v := .slice (cutA (some ⟨g1, o, none⟩) d 1) (k - 1) (d - 1)) m.rept rfl rfl (by unfold Sm.rept; rw [intV_drop]; exact h.rw.cut (s := 1) hk0) (Sm.rept_nm h.ok)
    have HD := Lib.hid hD
    have hk0' : ((k : Int) == 0) = false := by simp; omega
    have hk0'' : (0 : Int) < k := by omega
    clear h hD hc hxr hr hk
    generalize cutA (some ⟨g1, o, none⟩) d 1 = C at *
    go_enter Try.func38, Try.ntmps38
    go_wp2
    go_ret2
    exact ⟨by rw [HV.out.1, HV.out.2]; rfl, HD.out⟩
theorem q_repeat (h : SqC F w g m) : Calls Try.prog 19 #[.pointer (some ⟨g, 0, none⟩)] w fun e w' => e = .returned (.tuple #[.int .i64 m.head, .bool m.any]) ∧ Did F w g m.rept w' := by
  have HM := Lib.hid (q_made h)
  have HT := Lib.hid (l_take h)
  clear h
  go_enter Try.func19, Try.ntmps19
  go_wp2_with (go_at_call 32; refine HM.out.mono ?_; rintro e w' ⟨rfl, rfl⟩)
  refine HT.out.mono ?_
  rintro e w1 ⟨rfl, hd⟩
  have HD := Lib.hid hd
  clear hd
  go_wp2
  go_ret2
  exact ⟨rfl, HD.out⟩
theorem l_copied (h : SqC F w g m) : Calls Try.prog 39 #[.pointer (some ⟨g, 4, none⟩)] w fun e w' => ∃ A n c, e = .returned (.agg #[.slice A n c]) ∧ Lst 3 (w.heap.size ≤ ·) w' A n c (intV m.row) ∧ Below w.heap.size w w' := by
  obtain ⟨A, n, c, B, k, d, h⟩ := h
  have hk := h.hk
  have hrl := h.ok.rl
  have hb0 : Below w.heap.size w (w.alloc (.cells #[.slice none 0 0] 63)) := (Below.refl _ _).alloc (Nat.le_refl _) _
  have h' := h.below hb0
  have c4 := h'.bk.cell 4 rfl
  have z1 := Bk.new w 63 [.slice none 0 0]
  have HC := Lib.hid (iclone_any B k d m.row _ h'.rw.rdv (by omega))
  have Z1 := Lib.hid z1
  clear h h' z1 hk
  go_enter Try.func39, Try.ntmps39
  go_wp2_with fail
  refine HC.out.mono ?_
  rintro e w1 ⟨A2, n2, c2, rfl, hl2, hb2⟩
  have z1 := Z1.out.below hb2
  have HL := Lib.hid (And.intro hl2 hb2)
  clear hl2 hb2 HC c4
  go_wp2_with (first
    | (with_reducible refine at_store 63 (.tmp 2) (.tmp 8) (by rfl) ?_
       refine wpList_store_bk rowL rfl (.tmp 2) (.tmp 8) rfl w.heap.size 0 rfl z1 [.slice A2 n2 c2] rfl rfl (by show 0 + 1 ≤ 1; omega) (by simp [Value.oneCell']) ?_
       intro w3 hz3 hw3))
  rw [lay_all _ _ (by rfl)] at hz3
  refine bodyPost_ret (results_cell rfl rfl (rowL.load hz3 0 (cs := [.slice A2 n2 c2]) rfl rfl)) rfl ?_
  have hs3 := st_wr hw3
  refine ⟨A2, n2, c2, rfl, (HL.out.1.mono (F' := fun j => w.heap.size < j) (fun j hj => by simp at hj; omega)).st hs3 (fun j hj e => by omega) |>.mono (fun j hj => by omega), ?_⟩
  exact (hb0.trans (HL.out.2.mono (by simp))).trans (hs3.below (by have := HL.out.2.size; simp at this; omega) (fun j hj => by omega))
theorem q_row (h : SqC F w g m) : Calls Try.prog 27 #[.pointer (some ⟨g, 0, none⟩)] w (Made 3 (intV m.row) w) := by
  have HM := Lib.hid (q_made h)
  have HT := Lib.hid (l_copied h)
  have hfd : ∀ (W : World) (A : Option Addr) (n c : Nat), (Instr.field 63 (.agg #[.slice A n c]) 0).run Try.prog W = .ok (.slice A n c) W := fun W A n c => by kernel_rfl
  clear h
  go_enter Try.func27, Try.ntmps27
  go_wp2_with (go_at_call 32; refine HM.out.mono ?_; rintro e w' ⟨rfl, rfl⟩)
  refine HT.out.mono ?_
  rintro e w1 ⟨A, n, c, rfl, hl, hb⟩
  have HD := Lib.hid (And.intro hl hb)
  clear hl hb
  go_wp2
  go_ret
  exact ⟨A, n, c, rfl, HD.out.1, HD.out.2⟩
/-- A piece with bytes of its own. -/
theorem c_copied {q : Pc} (h : Rd .u8 w q.A q.n q.c q.xs) (hn : q.n ≤ 65536) : Calls Try.prog 33 #[.agg #[.slice q.A q.n q.c, .bool q.en, .bool q.fn]] w fun e w' =>
    ∃ q' : Pc, e = .returned (.agg #[.slice q'.A q'.n q'.c, .bool q'.en, .bool q'.fn]) ∧ q'.say = q.say ∧ BsR w' q'.A q'.n q'.c q'.xs ∧ q'.n ≤ 65536 ∧ (∀ j, BlkOf q'.A j → w.heap.size ≤ j) ∧ Below w.heap.size w w' := by
  obtain ⟨A, n, c, xs, en, fn⟩ := q
  dsimp only at h hn ⊢
  obtain rfl : xs.length = n := h.1
  have z1 := (Bk.new w 49 [.slice A xs.length c, .bool en, .bool fn]).alloc (.cells #[.slice none 0 0, .bool false, .bool false] 49)
  have z2 := Bk.new (w.alloc (.cells #[.slice A xs.length c, .bool en, .bool fn] 49)) 49 [.slice none 0 0, .bool false, .bool false]
  rw [World.size_alloc] at z2
  have hb2 : Below w.heap.size w ((w.alloc (.cells #[.slice A xs.length c, .bool en, .bool fn] 49)).alloc (.cells #[.slice none 0 0, .bool false, .bool false] 49)) := ((Below.refl _ _).alloc (Nat.le_refl _) _).alloc (by simp) _
  have c0 := z1.cell 0 rfl
  have HC := Lib.hid (clone_any A xs.length c xs _ (h.below hb2) hn)
  have hwf := h.2.2.2.2.1
  have HZ := Lib.hid (And.intro z1 (And.intro z2 hb2))
  clear z1 z2 hb2 h
  go_enter Try.func33, Try.ntmps33
  go_wp2_with fail
  refine HC.out.mono ?_
  rintro e w3 ⟨v, rfl, how, hb3⟩
  obtain ⟨A3, c3, rfl⟩ := own_slice how
  obtain ⟨hr3, hk3⟩ := BsR.own how hwf
  have z1 := HZ.out.1.below hb3
  have z2 := HZ.out.2.1.below hb3
  have f0 := z1.free 0
  have c0' := z1.cell 0 rfl
  have z1s := z1.set 0 (.slice A3 xs.length c3)
  have z2s : Bk (w3.setCell ⟨w.heap.size, 0, none⟩ (.slice A3 xs.length c3)) 49 (w.heap.size + 1) [.slice none 0 0, .bool false, .bool false] := z2.far (by simp) _
  have HR := Lib.hid (And.intro hr3 (And.intro hk3 hb3))
  have HT := Lib.hid z1.tyd
  have hs1 : St (· = w.heap.size) w3 (w3.setCell ⟨w.heap.size, 0, none⟩ (.slice A3 xs.length c3)) := St.setCell (F := (· = w.heap.size)) w3 (a := ⟨w.heap.size, 0, none⟩) rfl _
  have HS1 := Lib.hid hs1
  clear how hr3 hk3 hb3 z1 z2 hs1 c0
  go_wp2_with (first
    | (with_reducible refine at_load 49 (.tmp 1) (by rfl) ?_
       refine wpList_load_bk rowC rfl (.tmp 1) rfl w.heap.size 0 rfl z1s [.slice A3 xs.length c3, .bool en, .bool fn] rfl rfl ?_)
    | (with_reducible refine at_store 49 (.tmp 2) (.tmp 7) (by rfl) ?_
       refine wpList_store_bk rowC rfl (.tmp 2) (.tmp 7) rfl (w.heap.size + 1) 0 rfl z2s [.slice A3 xs.length c3, .bool en, .bool fn] rfl rfl (by show 0 + 3 ≤ 3; omega) (by simp [Value.oneCell']) ?_
       intro w5 hz5 hw5))
  rw [lay_all _ _ (by rfl)] at hz5
  refine bodyPost_ret (results_cell rfl rfl (rowC.load hz5 0 (cs := [.slice A3 xs.length c3, .bool en, .bool fn]) rfl rfl)) rfl ?_
  have hs5 := st_wr hw5
  have t1 : BsR (w3.setCell ⟨w.heap.size, 0, none⟩ (.slice A3 xs.length c3)) A3 xs.length c3 xs := HR.out.1.stT HS1.out fun j hj => hj ▸ HT.out.ne (by decide)
  have t2 : BsR w5 A3 xs.length c3 xs := t1.stT hs5 fun j hj => hj ▸ z2s.tyd.ne (by decide)
  refine ⟨⟨A3, xs.length, c3, xs, en, fn⟩, rfl, rfl, t2, by omega, fun j hj => by have := HR.out.2.1 j hj; simp at this; omega, ?_⟩
  have hb3 := HZ.out.2.2.trans (HR.out.2.2.mono (by simp; omega))
  exact (hb3.trans (HS1.out.below hb3.size (fun j hj => by omega))).trans (hs5.below (by have := hb3.size; simp [World.setCell]; omega) (fun j hj => by omega))
/-- New. -/
def okN (k : Int) : Bool := decide (1 ≤ k ∧ k ≤ 4096)
theorem q_new_no {x : Int} (h : okN x = false) (w : World) : Calls Try.prog 6 #[.int .i64 x] w fun e w' => e = .returned (.tuple #[.pointer none, .int .i64 130]) ∧ w = w' := by
  have h' : x < 1 ∨ (1 ≤ x ∧ 4096 < x) := by simp only [okN, decide_eq_false_iff_not] at h; omega
  clear h
  rcases h' with h | ⟨h1, h2⟩
  all_goals
    go_enter Try.func6, Try.ntmps6
    go_wp2
    go_ret2
    exact ⟨rfl, rfl⟩
theorem q_new {p : Nat} (h : okN p = true) (w : World) : Calls Try.prog 6 #[.int .i64 p] w fun e w' => e = .returned (.tuple #[.pointer (some ⟨w.heap.size, 0, none⟩), .int .i64 0]) ∧ SqC (· = w.heap.size) w' w.heap.size (.new p) ∧ Below w.heap.size w w' := by
  have hp : 1 ≤ p ∧ p ≤ 4096 := by simp only [okN, decide_eq_true_eq] at h; omega
  obtain ⟨h1, h2⟩ := hp
  have HN := Lib.hid (Sm.new_ok h1 h2).1.nm
  have HQ := Lib.hid (Bk.new w 65 [.int .i64 p, .int .i64 0, .int .i64 0, .slice none 0 0, .slice none 0 0])
  have h1' : (1 : Int) ≤ p := by omega
  have h2' : (p : Int) ≤ 4096 := by omega
  clear h
  go_enter Try.func6, Try.ntmps6
  go_wp2
  go_ret2
  refine ⟨rfl, ⟨none, 0, 0, none, 0, 0, HQ.out, SlS.nil _ _, Lst.nil _ _ _, rfl, fun j hj => by subst hj; exact HQ.out.lt, HN.out⟩, (Below.refl _ _).alloc (Nat.le_refl _) _⟩
/-- Send. -/
def Sm.can (m : Sm) : Bool := decide (m.nx < m.L.length)
def Sm.sent (m : Sm) : Int := if m.nx < m.L.length then m.nx else 0
theorem q_send (h : SqC F w g m) : Calls Try.prog 13 #[.pointer (some ⟨g, 0, none⟩)] w fun e w' => e = .returned (.tuple #[.int .i64 m.sent, .bool m.can]) ∧ Did F w g m.send w' := by
  have HNx := Lib.hid (q_next h)
  have HTo := Lib.hid (q_total h)
  have hbig := h.ok.big
  by_cases hlt : m.nx < m.L.length
  · have HV : Hid (m.sent = m.nx ∧ m.can = true) := Lib.hid ⟨by unfold Sm.sent; rw [if_pos hlt], by simp [Sm.can, hlt]⟩
    have hlt' : (m.nx : Int) < m.L.length := by omega
    have HS : Hid (∀ W, Below w.heap.size w W → SqC F W g m) := Lib.hid fun W hW => h.below hW
    have HE : Hid (m.send = ⟨m.most, m.lo, m.nx + 1, m.L, m.K, m.row⟩) := Lib.hid (by unfold Sm.send; rw [if_pos hlt])
    have HNm := Lib.hid (Sm.send_nm h.ok)
    clear h
    go_enter Try.func13, Try.ntmps13
    go_wp2_with (first
      | (go_at_call 29; refine HNx.out.mono ?_; rintro e w' ⟨rfl, rfl⟩)
      | (go_at_call 25; refine HTo.out.mono ?_; rintro e w1 ⟨rfl, hb1⟩
         have HB1 := Lib.hid hb1
         obtain ⟨A, n, c, B, k, d, h⟩ := HS.out w1 hb1
         have c2 := h.bk.cell 2 rfl
         have f2 := h.bk.free 2
         have HH := Lib.hid h
         clear hb1 h))
    go_ret2
    refine ⟨by rw [HV.out.1, HV.out.2]; rfl, ?_⟩
    have hn := HNm.out
    rw [HE.out] at hn ⊢
    obtain ⟨F1, d1, d2, d3⟩ := Did.box HH.out (j := 2) (v := .int .i64 ((m.nx : Int) + 1)) ⟨m.most, m.lo, m.nx + 1, m.L, m.K, m.row⟩ rfl rfl HH.out.rw hn
    exact ⟨F1, d1, (St.ext HB1.out).trans d2 (Gr.refl _ _), fun j hj => (d3 j hj).imp id (Nat.le_trans HB1.out.size)⟩
  · have HV : Hid (m.sent = 0 ∧ m.can = false ∧ m.send = m) := Lib.hid ⟨by unfold Sm.sent; rw [if_neg hlt], by simp [Sm.can]; omega, by unfold Sm.send; rw [if_neg hlt]⟩
    have hlt' : ¬ (m.nx : Int) < m.L.length := by omega
    have H := Lib.hid h
    clear h
    go_enter Try.func13, Try.ntmps13
    go_wp2_with (first
      | (go_at_call 29; refine HNx.out.mono ?_; rintro e w' ⟨rfl, rfl⟩)
      | (go_at_call 25; refine HTo.out.mono ?_; rintro e w1 ⟨rfl, hb1⟩
         have HB1 := Lib.hid hb1
         clear hb1))
    go_ret2
    exact ⟨by rw [HV.out.1, HV.out.2.1]; rfl, by rw [HV.out.2.2]; exact ⟨F, H.out.below HB1.out, St.ext HB1.out, Gr.refl _ _⟩⟩
end
end Go.Proofs.Ytnakoplceplmmaa
