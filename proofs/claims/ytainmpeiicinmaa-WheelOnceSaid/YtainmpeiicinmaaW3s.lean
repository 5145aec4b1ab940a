/- Wheels of string in memory: rows, a key found. -/
import Derived.Test.YtainmpeiicinmaaW2
import Derived.Defers
import Derived.Recover
import Derived.Laws.Pointers
set_option linter.unusedSimpArgs false
set_option linter.unusedVariables false
set_option maxRecDepth 100000
namespace Go.Proofs.Ytainmpeiicinmaa.Ws
open Go.RowKit Go.Shelf
def tcl (t : Tm ByteArray) : List Value := [(.string t.k), .int .i64 t.d]
theorem tcl_len (t : Tm ByteArray) : (tcl t).length = 2 := rfl
theorem tcl_one (t : Tm ByteArray) : ∀ v ∈ tcl t, v.oneCell' = true := by
  intro v hv
  simp only [tcl, List.mem_cons, List.not_mem_nil, or_false] at hv
  rcases hv with rfl | rfl <;> rfl
theorem rowM : Row Try.prog 90 2 := ⟨⟨_, rfl, by decide⟩, by kernel_rfl⟩
theorem rowW : Row Try.prog 86 3 := ⟨⟨_, rfl, by decide⟩, by kernel_rfl⟩
def zsM : List Value := [.string ⟨#[]⟩, .int .i64 0]
theorem zsM_len : zsM.length = 2 := rfl
theorem eltM : EltS Try.prog 84 90 zsM 24 := ⟨rfl, by kernel_rfl, by intro v hv; simp only [zsM, List.mem_cons, List.not_mem_nil, or_false] at hv; rcases hv with rfl | rfl <;> rfl, by decide, by decide, ⟨_, rfl, by decide⟩, by decide⟩
/-- A wheel in box g, its list at (A, n, c). -/
structure WhA (w : World) (g : Nat) (m : Wm ByteArray) (A : Option Addr) (n c : Nat) : Prop where
  bk : Bk w 86 g [.int .i64 m.most, .int .i64 m.now, .slice A n c]
  ls : LstR 2 90 (fun _ => True) w A n c (flat tcl m.l)
  nm : m.Nm
def WhC (w : World) (g : Nat) (m : Wm ByteArray) : Prop := ∃ A n c, WhA w g m A n c
/-- What a call that turns it leaves. -/
def Did (w : World) (g : Nat) (m : Wm ByteArray) (w' : World) : Prop := WhC w' g m ∧ St (· = g) w w'
section
variable {w w' w1 w2 : World} {g p b b3 : Nat} {m m' : Wm ByteArray} {A : Option Addr} {n c : Nat} {x y : ByteArray} {T : TypeId}
theorem WhA.hn (h : WhA w g m A n c) : n = m.l.length := by
  have := h.ls.1
  rw [flat_len tcl_len] at this
  omega
theorem WhA.cap (h : WhA w g m A n c) : n ≤ c ∧ c ≤ maxLen := ⟨h.ls.2.1, h.ls.2.2.1⟩
theorem WhA.below (h : WhA w g m A n c) (hb : Below w.heap.size w w') : WhA w' g m A n c := ⟨h.bk.below hb, h.ls.below hb, h.nm⟩
theorem WhA.off (h : WhA w g m A n c) (hp : Tyd T w p) (hT : T ≠ 90) : ∀ k, BlkOf A k → ¬ k = p := by
  rintro k hk rfl
  exact hp.ne hT (h.ls.tyd _ hk)
theorem WhA.st (h : WhA w g m A n c) (hs : St (· = p) w w') (hg : g ≠ p) (hp : Tyd T w p) (hT : T ≠ 90) : WhA w' g m A n c :=
  ⟨h.bk.st hs hg, h.ls.same fun ad he => hs.block _ (h.ls.blk ad he).2 (h.off hp hT _ ⟨ad, he, rfl⟩), h.nm⟩
theorem WhC.below (h : WhC w g m) (hb : Below w.heap.size w w') : WhC w' g m := by
  obtain ⟨A, n, c, h⟩ := h
  exact ⟨A, n, c, h.below hb⟩
theorem WhC.st (h : WhC w g m) (hs : St (· = p) w w') (hg : g ≠ p) (hp : Tyd T w p) (hT : T ≠ 90) : WhC w' g m := by
  obtain ⟨A, n, c, h⟩ := h
  exact ⟨A, n, c, h.st hs hg hp hT⟩
theorem WhC.nm (h : WhC w g m) : m.Nm := by
  obtain ⟨A, n, c, h⟩ := h
  exact h.nm
theorem WhC.lt (h : WhC w g m) : g < w.heap.size := by
  obtain ⟨A, n, c, h⟩ := h
  exact h.bk.lt
theorem WhC.tyd (h : WhC w g m) : Tyd 86 w g := by
  obtain ⟨A, n, c, h⟩ := h
  exact h.bk.tyd
theorem Did.same (h : WhC w g m) : Did w g m w := ⟨h, St.refl _ _⟩
theorem Did.next (h : Did w g m w1) (hb : Below w1.heap.size w1 w2) : Did w g m w2 := ⟨h.1.below hb, h.2.trans (St.ext hb) (Gr.refl _ _)⟩
theorem Did.trans (h : Did w g m w1) (k : Did w1 g m' w2) : Did w g m' w2 := ⟨k.1, h.2.trans k.2 (Gr.refl _ _)⟩
theorem Did.after (hb : Below w.heap.size w w1) (k : Did w1 g m' w2) : Did w g m' w2 := ⟨k.1, (St.ext hb).trans k.2 (Gr.refl _ _)⟩
/-- The list's row i. -/
theorem WhA.row (h : WhA w g m A n c) {i : Nat} (hi : i < m.l.length) : ∃ g1 o, A = some ⟨g1, o, none⟩ ∧ g1 < w.heap.size ∧ w.rangeAt g1 (o + i * 2) [(.string m.l[i].k), .int .i64 m.l[i].d] := by
  obtain ⟨g1, o, e, hg, hr⟩ := h.ls.rd.range (i := i) (by rw [h.hn]; exact hi)
  rw [flat_row tcl_len m.l i hi] at hr
  exact ⟨g1, o, e, hg, hr⟩
theorem wpList_load_row {ty : TypeId} {q g o : Nat} {ops : Array Oper} {rest : List Oper} {op : Oper} {a : Act} {Q : Exit → Act → World → Prop} (R : Row Try.prog ty q) (hgd : op.guard = none) (x : Operand) (ho : op.op = .load ty x) (hx : a.eval x = .pointer (some ⟨g, o, none⟩)) (cs : List Value) (h : w.rangeAt g o cs) (hm : cs.length = q)
    (hq : wpList Try.prog ops Q rest (a.put op.dst (.agg cs.toArray)) w) : wpList Try.prog ops Q (op :: rest) a w := by
  obtain ⟨d, h1, h2⟩ := R.ht
  exact wpList_load_mid hgd ty x ho g o hx cs d h h1 h2 (by rw [hm]; exact R.hi) hq
theorem range_below {g o : Nat} {vs : List Value} (h : w.rangeAt g o vs) (hg : g < w.heap.size) (hb : Below w.heap.size w w') : w'.rangeAt g o vs := fun j v hv => by
  rw [World.cell?_of_block (a := ⟨g, o + j, none⟩) (hb.block g hg)]
  exact h j v hv
/-! ### A key found -/
theorem eq_any (y : ByteArray) (h : Bk w 9 b [(.string x)]) : Calls Try.prog 55 #[(.string y), .pointer (some ⟨b, 0, none⟩)] w fun e w' => e = .returned (.bool (decide (y = x))) ∧ w = w' := by
  have c0 := h.cell 0 rfl
  go_enter Try.func55, Try.ntmps55
  go_wp2
  go_ret
  first | exact ⟨rfl, rfl⟩ | exact ⟨by rw [← bytes_beq]; rfl, rfl⟩
theorem is_any (t : Tm ByteArray) (h : Bk w 9 b [(.string x)]) (h3 : Bk w 87 b3 [.func (.func 55) #[] #[.pointer (some ⟨b, 0, none⟩)]]) :
    Calls Try.prog 64 #[.agg #[(.string t.k), .int .i64 t.d], .pointer (some ⟨b3, 0, none⟩)] w fun e w' => e = .returned (.bool (decide (t.k = x))) ∧ Below w.heap.size w w' := by
  have hb1 : Below w.heap.size w (w.alloc (.cells #[(.string t.k), .int .i64 t.d] 90)) := (Below.refl _ _).alloc (Nat.le_refl _) _
  have q := Bk.new w 90 [(.string t.k), .int .i64 t.d]
  have HE := Lib.hid (eq_any t.k (h.below hb1))
  have HB := Lib.hid hb1
  have c3 := (h3.below hb1).cell 0 rfl
  have c0 := q.cell 0 rfl
  clear h h3 hb1 q
  go_enter Try.func64, Try.ntmps64
  go_wp2_with fail
  refine HE.out.mono ?_
  rintro e w' ⟨rfl, rfl⟩
  go_wp2
  go_ret
  exact ⟨rfl, HB.out⟩
set_option maxHeartbeats 800000 in
theorem idx_any (qs : List (Tm ByteArray)) (hl : qs.length ≤ 2000) (hr : RdR 2 w A n c (flat tcl qs)) (h : Bk w 9 b [(.string x)]) (h3 : Bk w 87 b3 [.func (.func 55) #[] #[.pointer (some ⟨b, 0, none⟩)]]) :
    Calls Try.prog 63 #[.slice A n c, .func (.func 64) #[] #[.pointer (some ⟨b3, 0, none⟩)]] w fun e w' => e = .returned (.int .i64 (idxV (qs.map Tm.k) x)) ∧ Below w.heap.size w w' := by
  have hn : n = qs.length := by
    have := hr.1
    rw [flat_len tcl_len] at this
    omega
  subst hn
  have H := Lib.hid (And.intro hr (And.intro h h3))
  clear hr h h3
  go_enter Try.func63, Try.ntmps63
  go_wp2
  go_loopw [5, 8] (fun j i wr => ∃ k : Nat, k ≤ qs.length ∧ i = .int .i64 k ∧ Below w.heap.size w wr ∧ ∀ j, (hj : j < k) → (h2 : j < qs.length) → qs[j].k ≠ x) (fun j i _ => qs.length - (intOf i).toNat)
  case atStart => exact ⟨0, Nat.zero_le _, rfl, Below.refl _ _, fun j hj => by omega⟩
  case round =>
    obtain ⟨k, hk, rfl, hb, hno⟩ := hrel
    by_cases hlt : k < qs.length
    · obtain ⟨g1, o, rfl, hg1, hra⟩ := (H.out.1.below hb).range (i := k) hlt
      rw [flat_row tcl_len qs k hlt] at hra
      have HI := Lib.hid (is_any qs[k] (H.out.2.1.below hb) (H.out.2.2.below hb))
      have hlt' : (k : Int) < qs.length := by omega
      have HB := Lib.hid hb
      by_cases hxy : qs[k].k = x
      · have HT : Hid (idxV (qs.map Tm.k) x = (k : Int)) := Lib.hid (idxV_at (by simpa using hlt) (by simpa using hxy) (fun j hj => by simpa using hno j hj (by omega)))
        rw [decide_eq_true hxy] at HI
        clear hno hxy hb
        go_wp2_with (first
          | (with_reducible refine at_load 90 (.tmp 14) (by rfl) ?_
             refine wpList_load_row rowM rfl (.tmp 14) rfl rfl [(.string qs[k].k), .int .i64 qs[k].d] hra rfl ?_
             clear hra)
          | (refine HI.out.mono ?_; rintro e w2 ⟨rfl, hb2⟩
             have HB2 := Lib.hid hb2
             clear hb2))
        go_ret
        exact ⟨by rw [HT.out]; rfl, below_on HB.out HB2.out⟩
      · have HT : Hid (∀ j, (hj : j < k + 1) → (h2 : j < qs.length) → qs[j].k ≠ x) := Lib.hid (fun j hj h2 => by
          rcases (by omega : j < k ∨ j = k) with h | rfl
          · exact hno j h h2
          · exact hxy)
        rw [decide_eq_false hxy] at HI
        clear hno hxy hb
        go_wp2_with (first
          | (with_reducible refine at_load 90 (.tmp 14) (by rfl) ?_
             refine wpList_load_row rowM rfl (.tmp 14) rfl rfl [(.string qs[k].k), .int .i64 qs[k].d] hra rfl ?_
             clear hra)
          | (refine HI.out.mono ?_; rintro e w2 ⟨rfl, hb2⟩
             have HB2 := Lib.hid hb2
             clear hb2))
        go_roundw
        case rel => exact ⟨k + 1, by omega, by go_num, below_on HB.out HB2.out, HT.out⟩
        case measure => simp [intOf]; omega
    · obtain rfl : k = qs.length := by omega
      have HT : Hid (idxV (qs.map Tm.k) x = -1) := Lib.hid (idxV_no (by
        intro hm
        obtain ⟨t, ht, he⟩ := List.mem_map.1 hm
        obtain ⟨j, hj, he2⟩ := List.getElem_of_mem ht
        exact hno j hj hj (by rw [he2]; exact he)))
      have HB := Lib.hid hb
      clear hno hb
      go_wp2
      go_ret
      exact ⟨by rw [HT.out]; rfl, HB.out⟩
end
theorem idle (b : Nat) (w : World) : CallsD Try.prog 62 #[.pointer (some ⟨b, 0, none⟩)] .returning w fun e u' w' => e = .returned (.tuple #[]) ∧ u' = .returning ∧ w' = w := by
  refine callsD_of_wpS Try.func62 rfl fun c₀ cs hu => ?_
  apply wpS_seq
  apply wpS_region
  simp [wpOpsS, go_sem, recoverD, hu, Try.ntmps62, Exit.thenS]
  refine wpS_cond (t := false) (by simp [Act.eval, Array.replicate]) ?_
  refine wpS_of_wp ?_
  rw [if_neg (by simp)]
  go_wp2
  simp [bodyPostS, results, Try.results62]
  cases c₀
  simp_all
section
variable {w w' w1 w2 : World} {g p b b3 : Nat} {m m' : Wm ByteArray} {A : Option Addr} {n c : Nat} {x y : ByteArray} {T : TypeId}
theorem plc_any (h : WhC w g m) (hx : Bk w 9 b [(.string x)]) :
    Calls Try.prog 54 #[.pointer (some ⟨g, 0, none⟩), .func (.func 55) #[] #[.pointer (some ⟨b, 0, none⟩)]] w fun e w' => e = .returned (.int .i64 (m.idx x)) ∧ Below w.heap.size w w' := by
  obtain ⟨A, n, c, h⟩ := h
  have hln := h.nm.ln
  obtain ⟨w1, hw1⟩ : ∃ w1, w1 = (w.alloc (.cells #[.func (.func 55) #[] #[.pointer (some ⟨b, 0, none⟩)]] 87)).alloc (.cells #[.int .i64 0] 3) := ⟨_, rfl⟩
  have hb1 : Below w.heap.size w w1 := by rw [hw1]; exact (((Below.refl _ w).alloc (Nat.le_refl _) _).alloc (by simp) _)
  have q3 : Bk w1 87 w.heap.size [.func (.func 55) #[] #[.pointer (some ⟨b, 0, none⟩)]] := by
    rw [hw1]; exact (Bk.new w _ [.func (.func 55) #[] #[.pointer (some ⟨b, 0, none⟩)]]).alloc _
  have q4 : Bk w1 3 (w.heap.size + 1) [.int .i64 0] := by
    have := Bk.new (w.alloc (.cells #[.func (.func 55) #[] #[.pointer (some ⟨b, 0, none⟩)]] 87)) 3 [.int .i64 0]
    rw [World.size_alloc] at this
    rw [hw1]; exact this
  have h1 := h.below hb1
  have c2 := h1.bk.cell 2 rfl
  have HI := Lib.hid (idx_any m.l (by omega) h1.ls.rd (hx.below hb1) q3)
  have HB := Lib.hid hb1
  have HQ := Lib.hid q4
  have HW := Lib.hid hw1
  clear h hx hb1 q3 q4 h1 hw1
  go_enter_defers Try.func54, Try.ntmps54
  rw [HW.out] at c2
  go_wp2_with fail
  rw [← HW.out]
  refine HI.out.mono ?_
  rintro e w2 ⟨rfl, hb2⟩
  have HB2 := Lib.hid (below_on HB.out hb2)
  have q := HQ.out.below hb2
  have c0 := q.cell 0 rfl
  have f0 := q.free 0
  have HR := Lib.hid (q.set 0 (.int .i64 (m.idx x)))
  clear hb2 q
  have HX : Hid (m.idx x = idxV (m.l.map Tm.k) x) := Lib.hid rfl
  go_wp2
  refine leaves_cons (f := 62) (args := #[.pointer (some ⟨w.heap.size + 1, 0, none⟩)]) (by simp) (by simp [go_sem]) ?_
  refine (idle _ _).mono ?_
  rintro e u' w'' ⟨rfl, rfl, rfl⟩
  have hc := HR.out.cell 0 rfl
  rw [HX.out] at hc
  simp [Leaves, settle, results, Try.results54, go_sem, hc]
  exact ⟨rfl, HB2.out.trans ((Below.refl _ _).setCell (by simp) _)⟩
theorem w_made (h : WhC w g m) : Calls Try.prog 39 #[.pointer (some ⟨g, 0, none⟩)] w fun e w' => e = .returned (.bool true) ∧ w = w' := by
  obtain ⟨A, n, c, h⟩ := h
  have c0 := h.bk.cell 0 rfl
  have h1 := h.nm.m1
  have h2 : (0 : Int) < m.most := by omega
  go_enter Try.func39, Try.ntmps39
  go_wp2
  go_ret
  exact ⟨rfl, rfl⟩
theorem w_find (h : WhC w g m) (x : ByteArray) : Calls Try.prog 43 #[.pointer (some ⟨g, 0, none⟩), (.string x)] w fun e w' => e = .returned (.int .i64 (m.idx x)) ∧ Below w.heap.size w w' ∧ w.heap.size < w'.heap.size := by
  have hb1 : Below w.heap.size w (w.alloc (.cells #[(.string x)] 9)) := (Below.refl _ w).alloc (Nat.le_refl _) _
  have HM := Lib.hid (w_made (h.below hb1))
  have HP := Lib.hid (plc_any (h.below hb1) (Bk.new w 9 [(.string x)]))
  have HB := Lib.hid hb1
  clear h hb1
  go_enter Try.func43, Try.ntmps43
  go_wp2_with (first
    | (go_at_call 39; refine HM.out.mono ?_; rintro e w' ⟨rfl, rfl⟩)
    | (go_at_call 54; refine HP.out.mono ?_; rintro e w2 ⟨rfl, hb2⟩
       have HB2 := Lib.hid (And.intro (below_on HB.out hb2) hb2.size)
       clear hb2))
  go_ret
  exact ⟨rfl, HB2.out.1, by have := HB2.out.2; rw [World.size_alloc] at this; omega⟩
/-- A wheel that nobody made. -/
def NoW (w : World) (v : Option Addr) : Prop := v = none ∨ ∃ g, v = some ⟨g, 0, none⟩ ∧ Bk w 86 g [.int .i64 0, .int .i64 0, .slice none 0 0]
theorem NoW.below {v : Option Addr} (h : NoW w v) (hb : Below w.heap.size w w') : NoW w' v := by
  rcases h with rfl | ⟨g, rfl, h⟩
  · exact .inl rfl
  · exact .inr ⟨g, rfl, h.below hb⟩
end
end Go.Proofs.Ytainmpeiicinmaa.Ws
