/- An account made, copied; the document's calls. -/
import Derived.Test.YtinblipcepagaaaC2
set_option linter.unusedSimpArgs false
set_option linter.unusedVariables false
namespace Go.Proofs.Ytinblipcepagaaa
open Go.RowKit Go.Shelf
section
variable {w w' : World} {g : Nat} {m : Cm}
theorem c_new_no {x : Int} (h : okN x = false) (w : World) : Calls Try.prog 6 #[.int .i64 x] w fun e w' => e = .returned (.tuple #[.pointer none, .int .i64 140]) ∧ w = w' := by
  have h' : x < 0 ∨ (0 ≤ x ∧ 256 < x) := by simp only [okN, decide_eq_false_iff_not] at h; omega
  clear h
  rcases h' with h | ⟨h1, h2⟩
  all_goals
    go_enter Try.func6, Try.ntmps6
    go_wp2
    go_ret2
    exact ⟨rfl, rfl⟩
theorem c_new {x : Int} (h : okN x = true) (w : World) : Calls Try.prog 6 #[.int .i64 x] w fun e w' => e = .returned (.tuple #[.pointer (some ⟨w.heap.size, 0, none⟩), .int .i64 0]) ∧ CrC w' w.heap.size (.new x) ∧ Below w.heap.size w w' := by
  have hp : 0 ≤ x ∧ x ≤ 256 := by simp only [okN, decide_eq_true_eq] at h; omega
  obtain ⟨h1, h2⟩ := hp
  have HN := Lib.hid (Cm.new_ok h)
  have HQ := Lib.hid (Bk.new w 54 [.bool true, .int .i64 x, .int .i64 0, .int .i64 0, .int .i64 0])
  clear h
  go_enter Try.func6, Try.ntmps6
  go_wp2
  go_ret2
  exact ⟨rfl, ⟨HQ.out, HN.out⟩, (Below.refl _ _).alloc (Nat.le_refl _) _⟩
theorem c_fork (h : CrC w g m) : Calls Try.prog 14 #[.pointer (some ⟨g, 0, none⟩)] w fun e w' => e = .returned (.pointer (some ⟨w.heap.size, 0, none⟩)) ∧ CrC w' w.heap.size m ∧ Below w.heap.size w w' := by
  have HM := Lib.hid (c_made h)
  have hbk := h.1
  have HO := Lib.hid h.2
  have HQ := Lib.hid (Bk.new w 54 [.bool true, .int .i64 m.f, .int .i64 m.p, .int .i64 m.s, .int .i64 m.t])
  clear h
  go_enter Try.func14, Try.ntmps14
  go_wp2_with (first
    | (go_at_call 27; refine HM.out.mono ?_; rintro e w' ⟨rfl, rfl⟩)
    | (with_reducible refine at_load 54 (.tmp 8) (by rfl) ?_
       refine wpList_load_bk rowA rfl (.tmp 8) rfl g 0 rfl hbk [.bool true, .int .i64 m.f, .int .i64 m.p, .int .i64 m.s, .int .i64 m.t] rfl rfl ?_))
  go_ret
  exact ⟨rfl, ⟨HQ.out, HO.out⟩, (Below.refl _ _).alloc (Nat.le_refl _) _⟩
/-- The two boxes of a call of the document's: the account's, the answer's. -/
def bx2 (w : World) (cs : List Value) : World := (w.alloc (.cells cs.toArray 28)).alloc (.cells #[.int .i64 0, .int .i64 0, .int .i64 0, .int .i64 0] 28)
theorem bx2_all (w : World) (cs : List Value) : Bk (bx2 w cs) 28 w.heap.size cs ∧ Bk (bx2 w cs) 28 (w.heap.size + 1) [.int .i64 0, .int .i64 0, .int .i64 0, .int .i64 0] ∧ Below w.heap.size w (bx2 w cs) := by
  refine ⟨(Bk.new w 28 cs).alloc _, ?_, ((Below.refl _ _).alloc (Nat.le_refl _) _).alloc (by simp) _⟩
  have := Bk.new (w.alloc (.cells cs.toArray 28)) 28 [.int .i64 0, .int .i64 0, .int .i64 0, .int .i64 0]
  rw [World.size_alloc] at this
  exact this
theorem two_st {w w1 w2 : World} {g : Nat} (h : Below w.heap.size w w1) (hw : Wr g w1 w2) (hg : w.heap.size ≤ g) : Below w.heap.size w w2 := h.trans ((st_wr hw).below h.size (fun j hj => by omega))
theorem results_cell_tmp2 {P : Program} {w : World} {ty : TypeId} {fn : Func} {s u1 u2 : Tmp} (h : fn.results = #[.cell s ty, .tmp u1, .tmp u2]) {tmps : Array Value} {a : Addr} (ha : tmps.getD s undef = .pointer (some a)) {v : Value} (hl : (loadVar ty a).run P w = .ok v w) :
    (results fn tmps).run P w = .ok (.tuple #[v, tmps.getD u1 undef, tmps.getD u2 undef]) w := by
  rw [Array.getD_eq_getD_getElem?] at ha
  simp [results, h, ha, asAddr_some, hl]
theorem r_new_no {x : Int} (h : okN x = false) (w : World) : Calls Try.prog 7 #[.int .i64 x] w fun en w' => en = .returned (.tuple #[.agg #[.int .i64 0, .int .i64 0, .int .i64 0, .int .i64 0], .int .i64 140]) ∧ Below w.heap.size w w' := by
  have h' : x < 0 ∨ (0 ≤ x ∧ 256 < x) := by simp only [okN, decide_eq_false_iff_not] at h; omega
  have z := Bk.new w 28 [.int .i64 0, .int .i64 0, .int .i64 0, .int .i64 0]
  have hb : Below w.heap.size w (w.alloc (.cells #[.int .i64 0, .int .i64 0, .int .i64 0, .int .i64 0] 28)) := (Below.refl _ _).alloc (Nat.le_refl _) _
  clear h
  rcases h' with h | ⟨h1, h2⟩
  all_goals
    go_enter Try.func7, Try.ntmps7
    go_wp2_with (first
      | (with_reducible refine at_store 28 (.tmp 2) (.tmp 10) (by rfl) ?_
         refine wpList_store_bk rowR rfl (.tmp 2) (.tmp 10) rfl w.heap.size 0 rfl z [.int .i64 0, .int .i64 0, .int .i64 0, .int .i64 0] rfl rfl (by show 0 + 4 ≤ 4; omega) (by simp [Value.oneCell']) ?_
         intro w3 hz3 hw3))
    rw [lay_all _ _ (by rfl)] at hz3
    refine bodyPost_ret (results_cell_tmp rfl rfl (rowR.load hz3 0 (cs := [.int .i64 0, .int .i64 0, .int .i64 0, .int .i64 0]) rfl rfl)) rfl ?_
    exact ⟨rfl, two_st hb hw3 (Nat.le_refl _)⟩
theorem r_new {x : Int} (h : okN x = true) (w : World) : Calls Try.prog 7 #[.int .i64 x] w fun en w' => en = .returned (.tuple #[.agg #[.int .i64 (Cm.new x).f, .int .i64 (Cm.new x).p, .int .i64 (Cm.new x).s, .int .i64 (Cm.new x).t], .int .i64 0]) ∧ Below w.heap.size w w' := by
  have hp : 0 ≤ x ∧ x ≤ 256 := by simp only [okN, decide_eq_true_eq] at h; omega
  obtain ⟨h1, h2⟩ := hp
  have z := Bk.new w 28 [.int .i64 0, .int .i64 0, .int .i64 0, .int .i64 0]
  have hb : Below w.heap.size w (w.alloc (.cells #[.int .i64 0, .int .i64 0, .int .i64 0, .int .i64 0] 28)) := (Below.refl _ _).alloc (Nat.le_refl _) _
  clear h
  go_enter Try.func7, Try.ntmps7
  go_wp2_with (first
    | (with_reducible refine at_store 28 (.tmp 2) (.tmp 12) (by rfl) ?_
       refine wpList_store_bk rowR rfl (.tmp 2) (.tmp 12) rfl w.heap.size 0 rfl z [.int .i64 x, .int .i64 0, .int .i64 0, .int .i64 0] rfl rfl (by show 0 + 4 ≤ 4; omega) (by simp [Value.oneCell']) ?_
       intro w3 hz3 hw3))
  rw [lay_all _ _ (by rfl)] at hz3
  refine bodyPost_ret (results_cell_tmp rfl rfl (rowR.load hz3 0 (cs := [.int .i64 x, .int .i64 0, .int .i64 0, .int .i64 0]) rfl rfl)) rfl ?_
  exact ⟨rfl, two_st hb hw3 (Nat.le_refl _)⟩
theorem r_spend (ok : m.Ok) (n : Int) (w : World) : Calls Try.prog 10 #[.agg #[.int .i64 m.f, .int .i64 m.p, .int .i64 m.s, .int .i64 m.t], .int .i64 n] w fun en w' => en = .returned (.tuple #[.agg #[.int .i64 (m.spend n).f, .int .i64 (m.spend n).p, .int .i64 (m.spend n).s, .int .i64 (m.spend n).t], .int .i64 (m.spendE n)]) ∧ Below w.heap.size w w' := by
  obtain ⟨z1, z2, hb⟩ := bx2_all w [.int .i64 m.f, .int .i64 m.p, .int .i64 m.s, .int .i64 m.t]
  have hb1 := ok.s0
  have hb2 := ok.s1
  have hb3 := ok.p1
  have c1 := z1.cell 1 rfl
  have c2 := z1.cell 2 rfl
  have f2 := z1.free 2
  by_cases hn : n < 0 ∨ m.p - m.s < n
  · have HV : Hid (m.spend n = m) := Lib.hid (by unfold Cm.spend; rw [if_pos hn])
    have HE : Hid ((n < 0 → m.spendE n = 1) ∧ (¬ n < 0 → m.spendE n = 140)) := Lib.hid ⟨fun h => by unfold Cm.spendE; rw [if_pos h], fun h => by unfold Cm.spendE; rw [if_neg h, if_pos (hn.resolve_left h)]⟩
    have HB := Lib.hid hb
    have hc : n < 0 ∨ (0 ≤ n ∧ m.p - m.s < n) := by omega
    clear hn hb
    unfold bx2 at *
    rcases hc with h | ⟨h1, h2⟩
    all_goals
      have hE := HE.out
      first
        | replace hE := hE.1 (by assumption)
        | replace hE := hE.2 (by omega)
      have HE' := Lib.hid hE
      clear hE HE
      go_enter Try.func10, Try.ntmps10
      go_wp2_with (first
        | (with_reducible refine at_load 28 (.tmp 2) (by rfl) ?_
           refine wpList_load_bk rowR rfl (.tmp 2) rfl w.heap.size 0 rfl z1 [.int .i64 m.f, .int .i64 m.p, .int .i64 m.s, .int .i64 m.t] rfl rfl ?_)
        | (first
             | with_reducible refine at_store 28 (.tmp 4) (.tmp 8) (by rfl) ?_
             | with_reducible refine at_store 28 (.tmp 4) (.tmp 16) (by rfl) ?_
           first
             | refine wpList_store_bk rowR rfl (.tmp 4) (.tmp 8) rfl (w.heap.size + 1) 0 rfl z2 [.int .i64 m.f, .int .i64 m.p, .int .i64 m.s, .int .i64 m.t] rfl rfl (by show 0 + 4 ≤ 4; omega) (by simp [Value.oneCell']) ?_
             | refine wpList_store_bk rowR rfl (.tmp 4) (.tmp 16) rfl (w.heap.size + 1) 0 rfl z2 [.int .i64 m.f, .int .i64 m.p, .int .i64 m.s, .int .i64 m.t] rfl rfl (by show 0 + 4 ≤ 4; omega) (by simp [Value.oneCell']) ?_
           intro w3 hz3 hw3))
      rw [lay_all _ _ (by rfl)] at hz3
      refine bodyPost_ret (results_cell_tmp rfl rfl (rowR.load hz3 0 (cs := [.int .i64 m.f, .int .i64 m.p, .int .i64 m.s, .int .i64 m.t]) rfl rfl)) rfl ?_
      rw [HV.out, HE'.out]
      exact ⟨rfl, two_st HB.out hw3 (by omega)⟩
  · have h1 : ¬ n < 0 := by omega
    have h2 : n ≤ m.p - m.s := by omega
    have HV : Hid (m.spend n = ⟨m.f, m.p, m.s + n, m.t⟩ ∧ m.spendE n = 0) := Lib.hid ⟨by unfold Cm.spend; rw [if_neg hn], by unfold Cm.spendE; rw [if_neg h1, if_neg (by omega)]⟩
    obtain ⟨z1s, z2s, hbs⟩ := bx2_all w [.int .i64 m.f, .int .i64 m.p, .int .i64 (m.s + n), .int .i64 m.t]
    have HB := Lib.hid hbs
    clear hn hb hbs z1 z2
    unfold bx2 at *
    go_enter Try.func10, Try.ntmps10
    go_wp2_with (first
      | (with_reducible refine at_load 28 (.tmp 2) (by rfl) ?_
         refine wpList_load_bk rowR rfl (.tmp 2) rfl w.heap.size 0 rfl z1s [.int .i64 m.f, .int .i64 m.p, .int .i64 (m.s + n), .int .i64 m.t] rfl rfl ?_)
      | (with_reducible refine at_store 28 (.tmp 4) (.tmp 22) (by rfl) ?_
         refine wpList_store_bk rowR rfl (.tmp 4) (.tmp 22) rfl (w.heap.size + 1) 0 rfl z2s [.int .i64 m.f, .int .i64 m.p, .int .i64 (m.s + n), .int .i64 m.t] rfl rfl (by show 0 + 4 ≤ 4; omega) (by simp [Value.oneCell']) ?_
         intro w3 hz3 hw3))
    rw [lay_all _ _ (by rfl)] at hz3
    refine bodyPost_ret (results_cell_tmp rfl rfl (rowR.load hz3 0 (cs := [.int .i64 m.f, .int .i64 m.p, .int .i64 (m.s + n), .int .i64 m.t]) rfl rfl)) rfl ?_
    rw [HV.out.1, HV.out.2]
    exact ⟨rfl, two_st HB.out hw3 (by omega)⟩
end
end Go.Proofs.Ytinblipcepagaaa
