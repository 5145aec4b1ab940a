/- The document's wheel: made, asked. -/
import Derived.Test.YtainmpeiicinmaaW10
set_option linter.unusedSimpArgs false
set_option linter.unusedVariables false
set_option maxRecDepth 100000
namespace Go.Proofs.Ytainmpeiicinmaa.Wi
open Go.RowKit Go.Shelf
def rcl (t : Tm Int) : List Value := [.int .i64 t.k, .int .i64 t.d, .int .i64 t.s]
theorem rcl_len (t : Tm Int) : (rcl t).length = 3 := rfl
theorem rcl_one (t : Tm Int) : ∀ v ∈ rcl t, v.oneCell' = true := by
  intro v hv
  simp only [rcl, List.mem_cons, List.not_mem_nil, or_false] at hv
  rcases hv with rfl | rfl | rfl <;> rfl
theorem rowR : Row Try.prog 29 4 := ⟨⟨_, rfl, by decide⟩, by kernel_rfl⟩
theorem rowT : Row Try.prog 73 3 := ⟨⟨_, rfl, by decide⟩, by kernel_rfl⟩
def zsT : List Value := [.int .i64 0, .int .i64 0, .int .i64 0]
theorem eltT : EltS Try.prog 27 73 zsT 24 := ⟨rfl, by kernel_rfl, by intro v hv; simp only [zsT, List.mem_cons, List.not_mem_nil, or_false] at hv; rcases hv with rfl | rfl | rfl <;> rfl, by decide, by decide, ⟨_, rfl, by decide⟩, by decide⟩
/-- The list of a wheel of the document's. -/
def RvL (w : World) (A : Option Addr) (n c : Nat) (l : List (Tm Int)) : Prop := LstR 3 73 (fun _ => True) w A n c (flat rcl l)
section
variable {w w' w1 w2 : World} {g p : Nat} {m m' : Wm Int} {l : List (Tm Int)} {A : Option Addr} {n c : Nat} {T : TypeId}
theorem RvL.hn (h : RvL w A n c l) : n = l.length := by
  have := h.1
  rw [flat_len rcl_len] at this
  omega
theorem RvL.below (h : RvL w A n c l) (hb : Below w.heap.size w w') : RvL w' A n c l := LstR.below h hb
theorem RvL.st (h : RvL w A n c l) (hs : St (· = p) w w') (hp : Tyd T w p) (hT : T ≠ 73) : RvL w' A n c l := h.same fun ad he => hs.block _ (h.blk ad he).2 fun e => by
  have := h.tyd _ ⟨ad, he, rfl⟩
  have e' : ad.block = p := e
  rw [e'] at this
  exact hp.ne hT this
theorem RvL.nil (w : World) : RvL w none 0 0 [] := LstR.nil _ _ _ _
theorem RvL.row (h : RvL w A n c l) {i : Nat} (hi : i < l.length) : ∃ g1 o, A = some ⟨g1, o, none⟩ ∧ g1 < w.heap.size ∧ w.rangeAt g1 (o + i * 3) [.int .i64 l[i].k, .int .i64 l[i].d, .int .i64 l[i].s] := by
  obtain ⟨g1, o, e, hg, hr⟩ := h.rd.range (i := i) (by rw [h.hn]; exact hi)
  rw [flat_row rcl_len l i hi] at hr
  exact ⟨g1, o, e, hg, hr⟩
theorem RvL.cut (h : RvL w A n c l) {s : Nat} (hs : s ≤ n) : RvL w (cutR A c s 3) (n - s) (c - s) (l.drop s) := by
  have h1 := LstR.cut h hs
  rw [← flat_drop rcl_len l s (by rw [← h.hn]; exact hs)] at h1
  exact h1
theorem bx1 (w : World) (m : Wm Int) (A : Option Addr) (n c : Nat) : Bk (w.alloc (.cells #[.slice A n c, .int .i64 m.most, .int .i64 m.now, .int .i64 m.sets] 29)) 29 w.heap.size [.slice A n c, .int .i64 m.most, .int .i64 m.now, .int .i64 m.sets] ∧ Below w.heap.size w (w.alloc (.cells #[.slice A n c, .int .i64 m.most, .int .i64 m.now, .int .i64 m.sets] 29)) := ⟨Bk.new w _ [.slice A n c, .int .i64 m.most, .int .i64 m.now, .int .i64 m.sets], (Below.refl _ _).alloc (Nat.le_refl _) _⟩
theorem bx2 (w : World) (m : Wm Int) (A : Option Addr) (n c : Nat) : Bk ((w.alloc (.cells #[.slice A n c, .int .i64 m.most, .int .i64 m.now, .int .i64 m.sets] 29)).alloc (.cells #[.slice none 0 0, .int .i64 0, .int .i64 0, .int .i64 0] 29)) 29 w.heap.size [.slice A n c, .int .i64 m.most, .int .i64 m.now, .int .i64 m.sets] ∧ Bk ((w.alloc (.cells #[.slice A n c, .int .i64 m.most, .int .i64 m.now, .int .i64 m.sets] 29)).alloc (.cells #[.slice none 0 0, .int .i64 0, .int .i64 0, .int .i64 0] 29)) 29 (w.heap.size + 1) [.slice none 0 0, .int .i64 0, .int .i64 0, .int .i64 0] ∧ Below w.heap.size w ((w.alloc (.cells #[.slice A n c, .int .i64 m.most, .int .i64 m.now, .int .i64 m.sets] 29)).alloc (.cells #[.slice none 0 0, .int .i64 0, .int .i64 0, .int .i64 0] 29)) := by
  refine ⟨(Bk.new w _ [.slice A n c, .int .i64 m.most, .int .i64 m.now, .int .i64 m.sets]).alloc _, ?_, ((Below.refl _ _).alloc (Nat.le_refl _) _).alloc (by simp) _⟩
  have := Bk.new (w.alloc (.cells #[.slice A n c, .int .i64 m.most, .int .i64 m.now, .int .i64 m.sets] 29)) 29 [.slice none 0 0, .int .i64 0, .int .i64 0, .int .i64 0]
  rw [World.size_alloc] at this
  exact this
set_option maxHeartbeats 800000 in
theorem r_find (h : RvL w A n c m.l) (hl : m.l.length ≤ 2000) (x : Int) : Calls Try.prog 32 #[.agg #[.slice A n c, .int .i64 m.most, .int .i64 m.now, .int .i64 m.sets], .int .i64 x] w fun e w' => e = .returned (.int .i64 (m.idx x)) ∧ Below w.heap.size w w' := by
  obtain ⟨q, hb⟩ := bx1 w m A n c
  have H := Lib.hid (h.below hb)
  have HB := Lib.hid hb
  have HN := Lib.hid h.hn
  have hnb : n ≤ 2000 := by rw [h.hn]; exact hl
  have c0 := q.cell 0 rfl
  clear h hb q hl
  go_enter Try.func32, Try.ntmps32
  go_wp2
  go_loopw [5] (fun i wr => ∃ k : Nat, k ≤ n ∧ i = .int .i64 k ∧ wr = w.alloc (.cells #[.slice A n c, .int .i64 m.most, .int .i64 m.now, .int .i64 m.sets] 29) ∧ ∀ j, (hj : j < k) → (h2 : j < m.l.length) → m.l[j].k ≠ x) (fun i _ => n - (intOf i).toNat)
  case atStart => exact ⟨0, Nat.zero_le _, rfl, rfl, fun j hj => by omega⟩
  case round =>
    obtain ⟨k, hk, rfl, rfl, hno⟩ := hrel
    by_cases hlt : k < n
    · have hkl : k < m.l.length := by rw [← HN.out]; exact hlt
      obtain ⟨g1, o, rfl, hg1, hra⟩ := H.out.row hkl
      have d0 := hra 0 (.int .i64 m.l[k].k) rfl
      rw [Nat.add_zero] at d0
      have hlt' : (k : Int) < n := by omega
      by_cases hxy : m.l[k].k = x
      · have HT : Hid (m.idx x = (k : Int)) := Lib.hid (idxV_at (by simpa using hkl) (by simpa using hxy) (fun j hj => by simpa using hno j hj (by omega)))
        rw [hxy] at d0
        clear hno hxy hra
        go_wp2
        go_ret
        exact ⟨by rw [HT.out]; rfl, HB.out⟩
      · have HT : Hid (∀ j, (hj : j < k + 1) → (h2 : j < m.l.length) → m.l[j].k ≠ x) := Lib.hid (fun j hj h2 => by
          rcases (by omega : j < k ∨ j = k) with h | rfl
          · exact hno j h h2
          · exact hxy)
        generalize m.l[k].k = y at *
        clear hno hra
        go_wp2
        go_roundw
        case rel => exact ⟨k + 1, by omega, by go_num, by first | rfl | trivial, HT.out⟩
        case measure => simp [intOf]; omega
    · obtain rfl : k = n := by omega
      have HT : Hid (m.idx x = -1) := Lib.hid (idxV_no (by
        intro hm
        obtain ⟨t, ht, he⟩ := List.mem_map.1 hm
        obtain ⟨j, hj, he2⟩ := List.getElem_of_mem ht
        exact hno j (by rw [HN.out]; exact hj) hj (by rw [he2]; exact he)))
      clear hno
      go_wp2
      go_ret
      exact ⟨by rw [HT.out]; rfl, HB.out⟩
theorem r_new (most : Int) (hm : 1 ≤ most) (hm2 : most ≤ 1024) : Calls Try.prog 8 #[.int .i64 most] w fun e w' => e = .returned (.tuple #[.agg #[.slice none 0 0, .int .i64 most, .int .i64 0, .int .i64 0], .int .i64 0]) ∧ Below w.heap.size w w' := by
  have z := Bk.new w 29 [.slice none 0 0, .int .i64 0, .int .i64 0, .int .i64 0]
  have HB := Lib.hid ((Below.refl _ w).alloc (Nat.le_refl _) (.cells #[.slice none 0 0, .int .i64 0, .int .i64 0, .int .i64 0] 29))
  go_enter Try.func8, Try.ntmps8
  go_wp2_with (with_reducible refine at_store 29 (.tmp 2) (.tmp 12) (by rfl) ?_
               refine wpList_store_bk rowR rfl (.tmp 2) (.tmp 12) rfl w.heap.size 0 rfl z [.slice none 0 0, .int .i64 most, .int .i64 0, .int .i64 0] rfl rfl (by show 0 + 4 ≤ 4; omega) (by simp [Value.oneCell']) ?_
               intro w3 hz3 hw3
               rw [lay_all _ _ (by rfl)] at hz3)
  refine bodyPost_ret (results_cell_tmp rfl rfl (rowR.load hz3 0 (cs := [.slice none 0 0, .int .i64 most, .int .i64 0, .int .i64 0]) rfl rfl)) rfl ?_
  exact ⟨rfl, HB.out.trans ((st_wr hw3).below (by simp) (by rintro k rfl; exact Nat.le_refl _))⟩
theorem r_newbad (most : Int) (hm : most < 1 ∨ (1 ≤ most ∧ 1024 < most)) : Calls Try.prog 8 #[.int .i64 most] w fun e w' => ∃ v, e = .returned (.tuple #[v, .int .i64 160]) ∧ Below w.heap.size w w' := by
  have z := Bk.new w 29 [.slice none 0 0, .int .i64 0, .int .i64 0, .int .i64 0]
  have HB := Lib.hid ((Below.refl _ w).alloc (Nat.le_refl _) (.cells #[.slice none 0 0, .int .i64 0, .int .i64 0, .int .i64 0] 29))
  rcases hm with hm | ⟨hm, hm2⟩ <;>
  (go_enter Try.func8, Try.ntmps8
   go_wp2_with (with_reducible refine at_store 29 (.tmp 2) (.tmp 10) (by rfl) ?_
                refine wpList_store_bk rowR rfl (.tmp 2) (.tmp 10) rfl w.heap.size 0 rfl z [.slice none 0 0, .int .i64 0, .int .i64 0, .int .i64 0] rfl rfl (by show 0 + 4 ≤ 4; omega) (by simp [Value.oneCell']) ?_
                intro w3 hz3 hw3
                rw [lay_all _ _ (by rfl)] at hz3)
   refine bodyPost_ret (results_cell_tmp rfl rfl (rowR.load hz3 0 (cs := [.slice none 0 0, .int .i64 0, .int .i64 0, .int .i64 0]) rfl rfl)) rfl ?_
   exact ⟨_, rfl, HB.out.trans ((st_wr hw3).below (by simp) (by rintro k rfl; exact Nat.le_refl _))⟩)
set_option maxHeartbeats 800000 in
theorem r_left (h : RvL w A n c m.l) (hnm : m.Nm) (hok : m.Ok) (x : Int) : Calls Try.prog 36 #[.agg #[.slice A n c, .int .i64 m.most, .int .i64 m.now, .int .i64 m.sets], .int .i64 x] w fun e w' => e = .returned (.tuple #[.int .i64 (m.left x), .bool (m.has x)]) ∧ Below w.heap.size w w' := by
  obtain ⟨q, hb⟩ := bx1 w m A n c
  have h1 := h.below hb
  have HF := Lib.hid (r_find h1 (by have := hnm.ln; omega) x)
  have HB := Lib.hid hb
  by_cases hx : x ∈ m.l.map Tm.k
  · obtain ⟨i, hi, hix, hki⟩ := idxV_yes hx
    have hi' : i < m.l.length := by simpa using hi
    have hki' : m.l[i].k = x := by simpa using hki
    have hln := hnm.ln
    have hn := h.hn
    have HX : Hid (m.idx x = (i : Int)) := Lib.hid hix
    rw [HX.out] at HF
    have HV : Hid (m.has x = true ∧ m.left x = m.l[i].d - m.now) := Lib.hid ⟨Wm.has_yes hx, by rw [← hki']; exact Wm.left_at hok hi'⟩
    have hib : i ≤ 1024 := by omega
    have hin : (i : Int) < n := by omega
    have hdn := hok.dn _ (List.getElem_mem hi')
    have hdb := hnm.db _ (List.getElem_mem hi')
    have hn0 := hnm.n0
    have hnb := hnm.nb
    obtain ⟨g1, o, rfl, hg1, hra⟩ := h1.row hi'
    generalize m.l[i].d = d at *
    generalize m.l[i].k = kk at *
    generalize m.l[i].s = ss at *
    have HH := Lib.hid (And.intro q hra)
    clear h h1 hok hx hix hki hki' hln hn hra q hb hnm
    go_enter Try.func36, Try.ntmps36
    go_wp2_with (first
      | (with_reducible refine at_load 29 (.tmp 2) (by rfl) ?_
         refine wpList_load_bk rowR rfl (.tmp 2) rfl w.heap.size 0 rfl HH.out.1 [.slice (some ⟨g1, o, none⟩) n c, .int .i64 m.most, .int .i64 m.now, .int .i64 m.sets] rfl rfl ?_)
      | (go_at_call 32; refine HF.out.mono ?_; rintro e w2 ⟨rfl, hb2⟩
         have hra := range_below HH.out.2 hg1 hb2
         have d1 := hra 1 (.int .i64 d) rfl
         have c0 := (HH.out.1.below hb2).cell 0 rfl
         have c2 := (HH.out.1.below hb2).cell 2 rfl
         have HB2 := Lib.hid (below_on HB.out hb2)
         clear hb2 hra))
    go_quiet (fail)
    go_wp2
    go_ret2
    exact ⟨by rw [HV.out.1, HV.out.2]; rfl, HB2.out.trans ((Below.drewN_ w2 _).mono HB2.out.size)⟩
  · have HX : Hid (m.idx x = -1) := Lib.hid (idxV_no hx)
    rw [HX.out] at HF
    have HV := Lib.hid (And.intro (Wm.has_no hx) (Wm.left_no hx))
    have HH := Lib.hid q
    clear h hok hx h1 hb q
    go_enter Try.func36, Try.ntmps36
    go_wp2_with (first
      | (with_reducible refine at_load 29 (.tmp 2) (by rfl) ?_
         refine wpList_load_bk rowR rfl (.tmp 2) rfl w.heap.size 0 rfl HH.out [.slice A n c, .int .i64 m.most, .int .i64 m.now, .int .i64 m.sets] rfl rfl ?_)
      | (go_at_call 32; refine HF.out.mono ?_; rintro e w2 ⟨rfl, hb2⟩
         have HB2 := Lib.hid (below_on HB.out hb2)
         clear hb2))
    go_ret2
    exact ⟨by rw [HV.out.1, HV.out.2]; rfl, HB2.out⟩
theorem r_next (h : RvL w A n c m.l) (hnm : m.Nm) : Calls Try.prog 38 #[.agg #[.slice A n c, .int .i64 m.most, .int .i64 m.now, .int .i64 m.sets]] w fun e w' => e = .returned (.int .i64 m.next) ∧ Below w.heap.size w w' := by
  obtain ⟨q, hb⟩ := bx1 w m A n c
  have h1 := h.below hb
  have HB := Lib.hid hb
  have c0 := q.cell 0 rfl
  have c2 := q.cell 2 rfl
  by_cases h0 : m.l = []
  · have HV : Hid (m.next = 0) := Lib.hid (by unfold Wm.next; rw [h0])
    have hn0 : n = 0 := by rw [h.hn, h0]; rfl
    subst hn0
    clear h h0 h1 q hb
    go_enter Try.func38, Try.ntmps38
    go_wp2
    go_ret
    exact ⟨by rw [HV.out]; rfl, HB.out⟩
  · have hl0 : 0 < m.l.length := List.length_pos_iff.2 h0
    have HV : Hid (m.next = m.l[0].d - m.now) := Lib.hid (by
      unfold Wm.next
      have : m.l = m.l[0] :: m.l.drop 1 := by
        have h := List.drop_eq_getElem_cons hl0
        rwa [List.drop_zero] at h
      conv => lhs; rw [this])
    have hn := h.hn
    obtain ⟨g1, o, rfl, hg1, hra⟩ := h1.row hl0
    have d1 := hra 1 (.int .i64 m.l[0].d) rfl
    have hdb := hnm.db _ (List.getElem_mem hl0)
    have hn0 := hnm.n0
    have hnb := hnm.nb
    have hln := hnm.ln
    have hn2 : n ≤ 1024 := by omega
    have hnz : ((n : Int) == 0) = false := by simp; omega
    have hN0 : (0 : Int) < n := by omega
    rw [show o + 0 * 3 = o from by omega] at d1
    generalize m.l[0].d = d at *
    clear hra h h0 hl0 hn hln h1 hb q hnm
    go_enter Try.func38, Try.ntmps38
    go_wp2_with fail
    go_quiet (fail)
    go_wp2
    go_ret
    exact ⟨by rw [HV.out]; rfl, HB.out.trans ((Below.drewN_ _ _).mono (by simp))⟩
end
end Go.Proofs.Ytainmpeiicinmaa.Wi
