/- The document's queue: a piece; again; added. -/
import Derived.Test.YtnakoplceplmmaaV15
set_option linter.unusedSimpArgs false
set_option linter.unusedVariables false
namespace Go.Proofs.Ytnakoplceplmmaa
open Go.RowKit Go.Shelf
section
variable {X X' F : Nat → Prop} {w w' : World} {m : Sm} {A B C : Option Addr} {n c k d r e : Nat}
set_option maxHeartbeats 1000000 in
theorem r_piece (h : RqA X w m A n c B k d C r e) (ok : m.Ok) (lw : m.Low) (s : Int) : Calls Try.prog 21 #[.agg #[.int .i64 m.most, .slice A n c, .slice B k d, .int .i64 m.nx, .slice C r e], .int .i64 s] w (Told (m.piece s) (m.has s) w) := by
  have z1 : Bk ((w.alloc (.cells #[.int .i64 m.most, .slice A n c, .slice B k d, .int .i64 m.nx, .slice C r e] 31)).alloc (.cells #[.slice none 0 0, .bool false, .bool false] 49)) 31 w.heap.size [.int .i64 m.most, .slice A n c, .slice B k d, .int .i64 m.nx, .slice C r e] := (Bk.new w 31 [.int .i64 m.most, .slice A n c, .slice B k d, .int .i64 m.nx, .slice C r e]).alloc _
  have z2 : Bk ((w.alloc (.cells #[.int .i64 m.most, .slice A n c, .slice B k d, .int .i64 m.nx, .slice C r e] 31)).alloc (.cells #[.slice none 0 0, .bool false, .bool false] 49)) 49 (w.heap.size + 1) [.slice none 0 0, .bool false, .bool false] := by
    have := Bk.new (w.alloc (.cells #[.int .i64 m.most, .slice A n c, .slice B k d, .int .i64 m.nx, .slice C r e] 31)) 49 [.slice none 0 0, .bool false, .bool false]
    rwa [World.size_alloc] at this
  have hb : Below w.heap.size w ((w.alloc (.cells #[.int .i64 m.most, .slice A n c, .slice B k d, .int .i64 m.nx, .slice C r e] 31)).alloc (.cells #[.slice none 0 0, .bool false, .bool false] 49)) := ((Below.refl _ _).alloc (Nat.le_refl _) _).alloc (by simp) _
  have hn := h.hn
  have hbig := ok.big
  have HLo := Lib.hid (r_low (h.below hb) ok lw)
  have HB := Lib.hid hb
  have HZ := Lib.hid (And.intro z1 z2)
  by_cases hin : (m.lo : Int) ≤ s ∧ s < m.L.length
  · obtain ⟨h1, h2⟩ := hin
    obtain ⟨s, rfl⟩ : ∃ s' : Nat, s = s' := ⟨s.toNat, by omega⟩
    have hi : s < n := by omega
    obtain ⟨g1, o, q, rfl, hra, hrd, hq5, hat, hg1, _⟩ := h.l.row hi
    have HV : Hid (m.piece s = q.say ∧ m.has s = true) := Lib.hid ⟨by
      unfold Sm.piece
      rw [if_pos ⟨h1, h2⟩, Int.toNat_natCast, List.getD_eq_getElem?_getD, hat]
      rfl, by simp only [Sm.has, decide_eq_true_eq]; exact ⟨h1, h2⟩⟩
    have hnb : n ≤ 1000000000 := by omega
    have h1' : ¬ (s : Int) < m.lo := by omega
    have h2' : ¬ (n : Int) ≤ s := by omega
    have hi' : (s : Int) < n := by omega
    have HRa := Lib.hid (And.intro hra hrd)
    obtain ⟨dd, hd1, hd2⟩ := rowC.ht
    clear h ok lw hb hn hra hrd hat h1 h2 z2
    go_enter Try.func21, Try.ntmps21
    go_wp2_with (first
      | (with_reducible refine at_load 31 (.tmp 2) (by rfl) ?_
         refine wpList_load_bk rowR rfl (.tmp 2) rfl w.heap.size 0 rfl z1 [.int .i64 m.most, .slice (some ⟨g1, o, none⟩) n c, .slice B k d, .int .i64 m.nx, .slice C r e] rfl rfl ?_)
      | (go_at_call 31; refine HLo.out.mono ?_; rintro en w1 ⟨rfl, hb1⟩
         have HB1 := Lib.hid (below_on HB.out hb1)
         have y1 := HZ.out.1.below hb1
         have y2 := HZ.out.2.below hb1
         have c1 := y1.cell 1 rfl
         have hra := range_below HRa.out.1 hg1 (below_on HB.out hb1)
         clear hb1 z1)
      | (with_reducible refine at_load 49 (.tmp 21) (by rfl) ?_
         refine wpList_load_mid rfl 49 (.tmp 21) rfl g1 (o + s * 3) rfl [.slice q.A q.n q.c, .bool q.en, .bool q.fn] dd hra hd1 hd2 rowC.hi ?_
         clear hra)
      | (with_reducible refine at_store 49 (.tmp 4) (.tmp 22) (by rfl) ?_
         refine wpList_store_bk rowC rfl (.tmp 4) (.tmp 22) rfl (w.heap.size + 1) 0 rfl y2 [.slice q.A q.n q.c, .bool q.en, .bool q.fn] rfl rfl (by show 0 + 3 ≤ 3; omega) (by simp [Value.oneCell']) ?_
         intro w3 hz3 hw3))
    rw [lay_all _ _ (by rfl)] at hz3
    refine bodyPost_ret (results_cell_tmp rfl rfl (rowC.load hz3 0 (cs := [.slice q.A q.n q.c, .bool q.en, .bool q.fn]) rfl rfl)) rfl ?_
    rw [HV.out.1, HV.out.2]
    have hb3 := two_st HB1.out hw3 (by omega)
    exact ⟨q, rfl, rfl, HRa.out.2.below hb3, hb3⟩
  · have HV : Hid (m.piece s = (⟨[], false, false⟩ : Pp) ∧ m.has s = false) := Lib.hid ⟨by unfold Sm.piece; rw [if_neg hin], by simp only [Sm.has, decide_eq_false_iff_not]; exact hin⟩
    have hcase : s < m.lo ∨ (¬ s < m.lo ∧ (n : Int) ≤ s) := by omega
    clear hin h hb hn ok lw
    rcases hcase with hc | ⟨hc1, hc2⟩
    all_goals
      go_enter Try.func21, Try.ntmps21
      go_wp2_with (first
        | (with_reducible refine at_load 31 (.tmp 2) (by rfl) ?_
           refine wpList_load_bk rowR rfl (.tmp 2) rfl w.heap.size 0 rfl z1 [.int .i64 m.most, .slice A n c, .slice B k d, .int .i64 m.nx, .slice C r e] rfl rfl ?_)
        | (go_at_call 31; refine HLo.out.mono ?_; rintro en w1 ⟨rfl, hb1⟩
           have HB1 := Lib.hid (below_on HB.out hb1)
           have y2 := HZ.out.2.below hb1
           have c1 := (HZ.out.1.below hb1).cell 1 rfl
           clear hb1 z1)
        | (with_reducible refine at_store 49 (.tmp 4) (.tmp 17) (by rfl) ?_
           refine wpList_store_bk rowC rfl (.tmp 4) (.tmp 17) rfl (w.heap.size + 1) 0 rfl y2 [.slice none 0 0, .bool false, .bool false] rfl rfl (by show 0 + 3 ≤ 3; omega) (by simp [Value.oneCell']) ?_
           intro w3 hz3 hw3))
      rw [lay_all _ _ (by rfl)] at hz3
      refine bodyPost_ret (results_cell_tmp rfl rfl (rowC.load hz3 0 (cs := [.slice none 0 0, .bool false, .bool false]) rfl rfl)) rfl ?_
      rw [HV.out.1, HV.out.2]
      exact ⟨zPc, rfl, rfl, Rd.nil _ _, two_st HB1.out hw3 (by omega)⟩
set_option maxHeartbeats 2000000 in
theorem r_again (h : RqA X w m A n c B k d C r e) (ok : m.Ok) (lw : m.Low) (s : Int) : Calls Try.prog 16 #[.agg #[.int .i64 m.most, .slice A n c, .slice B k d, .int .i64 m.nx, .slice C r e], .int .i64 s] w (Rt2 (fun j => X j ∨ w.heap.size ≤ j) (m.again s) (.bool (m.lacks s && !decide (s ∈ m.row))) w) := by
  obtain ⟨z1, z2, hb⟩ := bx2_all w [.int .i64 m.most, .slice A n c, .slice B k d, .int .i64 m.nx, .slice C r e]
  have hr := h.hr
  have c4 := z1.cell 4 rfl
  have HR := Lib.hid (h.r.1.below hb)
  have HX := Lib.hid (h.mono (X' := fun j => X j ∨ w.heap.size ≤ j) fun j _ hj => .inl hj)
  have HLc := Lib.hid (r_lacks (h.below hb) ok lw s)
  have HB := Lib.hid hb
  have HZ := Lib.hid (And.intro z1 z2)
  have hrb : r ≤ 4096 := by have := ok.nm.rl; omega
  have HRr := Lib.hid hr
  have HEs : Hid (s ∈ m.row → m.again s = m ∧ (m.lacks s && !decide (s ∈ m.row)) = false) := Lib.hid fun hs => ⟨by unfold Sm.again; rw [if_neg (by simp [hs])], by simp [hs]⟩
  have HEl : Hid (¬ m.lacks s = true → m.again s = m ∧ (m.lacks s && !decide (s ∈ m.row)) = false) := Lib.hid fun hs => ⟨by unfold Sm.again; rw [if_neg (by simp [hs])], by simp [hs]⟩
  have HEy : Hid (m.lacks s = true → ¬ s ∈ m.row → m.again s = ⟨m.most, m.lo, m.nx, m.L, m.K, m.row ++ [s]⟩ ∧ (m.lacks s && !decide (s ∈ m.row)) = true) := Lib.hid fun h1 h2 => ⟨by unfold Sm.again; rw [if_pos ⟨h1, h2⟩], by simp [h1, h2]⟩
  clear h ok lw hb hr
  go_enter Try.func16, Try.ntmps16
  go_wp2
  go_loopw [6] (fun i W => ∃ j : Nat, j ≤ r ∧ i = .int .i64 j ∧ W = bx2 w [.int .i64 m.most, .slice A n c, .slice B k d, .int .i64 m.nx, .slice C r e] ∧ ∀ t, (ht : t < j) → (h2 : t < m.row.length) → m.row[t] ≠ s) (fun i _ => r - (intOf i).toNat)
  case atStart => exact ⟨0, Nat.zero_le _, rfl, rfl, fun j hj => by omega⟩
  case round =>
    obtain ⟨j, hj, rfl, rfl, hno⟩ := hrel
    by_cases hlt : j < r
    · have hx : j < m.row.length := by rw [← HRr.out]; exact hlt
      obtain ⟨g1, o, rfl, hg, cd⟩ := intV_at HR.out hlt hx
      have hlt' : (j : Int) < r := by omega
      by_cases hxy : m.row[j] = s
      · have HE := Lib.hid (HEs.out (by rw [← hxy]; exact List.getElem_mem _))
        rw [hxy] at cd
        clear hno hxy
        go_wp2_with (first
          | (with_reducible refine at_load 31 (.tmp 2) (by rfl) ?_
             refine wpList_load_bk rowR rfl (.tmp 2) rfl w.heap.size 0 rfl z1 [.int .i64 m.most, .slice A n c, .slice B k d, .int .i64 m.nx, .slice (some ⟨g1, o, none⟩) r e] rfl rfl ?_)
          | (with_reducible refine at_store 31 (.tmp 4) (.tmp 21) (by rfl) ?_
             refine wpList_store_bk rowR rfl (.tmp 4) (.tmp 21) rfl (w.heap.size + 1) 0 rfl z2 [.int .i64 m.most, .slice A n c, .slice B k d, .int .i64 m.nx, .slice (some ⟨g1, o, none⟩) r e] rfl rfl (by show 0 + 5 ≤ 5; omega) (by simp [Value.oneCell']) ?_
             intro w3 hz3 hw3))
        rw [lay_all _ _ (by rfl)] at hz3
        refine bodyPost_ret (results_cell_tmp rfl rfl (rowR.load hz3 0 (cs := [.int .i64 m.most, .slice A n c, .slice B k d, .int .i64 m.nx, .slice (some ⟨g1, o, none⟩) r e]) rfl rfl)) rfl ?_
        rw [HE.out.1, HE.out.2]
        exact ⟨A, n, c, B, k, d, _, r, e, rfl, HX.out.box HB.out hw3 (by omega), two_st HB.out hw3 (by omega)⟩
      · have HT : Hid (∀ t, (ht : t < j + 1) → (h2 : t < m.row.length) → m.row[t] ≠ s) := Lib.hid (fun t ht h2 => by
          rcases (by omega : t < j ∨ t = j) with h | rfl
          · exact hno t h h2
          · exact hxy)
        generalize hgx : m.row[j] = y at *
        clear hno hgx
        go_wp2
        go_roundw
        case rel => exact ⟨j + 1, by omega, by go_num, by first | rfl | trivial, HT.out⟩
        case measure => simp [intOf]; omega
    · obtain rfl : j = r := by omega
      have HNo : Hid (¬ s ∈ m.row) := Lib.hid fun hm => by
        obtain ⟨t, ht, he⟩ := List.getElem_of_mem hm
        exact hno t (by have := HRr.out; omega) ht he
      clear hno
      cases hl : m.lacks s with
      | false =>
        have HE := Lib.hid (HEl.out (by rw [hl]; simp))
        have HV := Lib.hid hl
        clear hl
        go_wp2_with (first
          | (with_reducible refine at_load 31 (.tmp 2) (by rfl) ?_
             first
               | refine wpList_load_bk rowR rfl (.tmp 2) rfl w.heap.size 0 rfl z1 [.int .i64 m.most, .slice A n c, .slice B k d, .int .i64 m.nx, .slice C j e] rfl rfl ?_
               | refine wpList_load_bk rowR rfl (.tmp 2) rfl w.heap.size 0 rfl y1 [.int .i64 m.most, .slice A n c, .slice B k d, .int .i64 m.nx, .slice C j e] rfl rfl ?_)
          | (go_at_call 34; refine HLc.out.mono ?_; rintro en w1 ⟨rfl, hb1⟩; rw [HV.out]
             have HB1 := Lib.hid (below_on HB.out hb1)
             have y1 := HZ.out.1.below hb1
             have y2 := HZ.out.2.below hb1
             clear hb1 z1 z2)
          | (with_reducible refine at_store 31 (.tmp 4) (.tmp 26) (by rfl) ?_
             refine wpList_store_bk rowR rfl (.tmp 4) (.tmp 26) rfl (w.heap.size + 1) 0 rfl y2 [.int .i64 m.most, .slice A n c, .slice B k d, .int .i64 m.nx, .slice C j e] rfl rfl (by show 0 + 5 ≤ 5; omega) (by simp [Value.oneCell']) ?_
             intro w3 hz3 hw3))
        rw [lay_all _ _ (by rfl)] at hz3
        refine bodyPost_ret (results_cell_tmp rfl rfl (rowR.load hz3 0 (cs := [.int .i64 m.most, .slice A n c, .slice B k d, .int .i64 m.nx, .slice C j e]) rfl rfl)) rfl ?_
        rw [HE.out.1, HE.out.2]
        exact ⟨A, n, c, B, k, d, _, j, e, rfl, HX.out.box HB1.out hw3 (by omega), two_st HB1.out hw3 (by omega)⟩
      | true =>
        have HE := Lib.hid (HEy.out hl HNo.out)
        have HV := Lib.hid hl
        clear hl
        go_wp2_with (first
          | (with_reducible refine at_load 31 (.tmp 2) (by rfl) ?_
             first
               | refine wpList_load_bk rowR rfl (.tmp 2) rfl w.heap.size 0 rfl z1 [.int .i64 m.most, .slice A n c, .slice B k d, .int .i64 m.nx, .slice C j e] rfl rfl ?_
               | refine wpList_load_bk rowR rfl (.tmp 2) rfl w.heap.size 0 rfl y5 [.int .i64 m.most, .slice A n c, .slice B k d, .int .i64 m.nx, .slice A5 n5 c5] rfl rfl ?_)
          | (go_at_call 34; refine HLc.out.mono ?_; rintro en w1 ⟨rfl, hb1⟩; rw [HV.out]
             have HB1 := Lib.hid (below_on HB.out hb1)
             have y1 := HZ.out.1.below hb1
             have y2 := HZ.out.2.below hb1
             have hb0 : Below w1.heap.size w1 (w1.alloc (.cells #[] 3)) := (Below.refl _ _).alloc (Nat.le_refl _) _
             have hL0 := Lst.made w1 3 #[] 0 [] rfl (Nat.zero_le _) (by decide) (by simp) (fun i hi => by omega)
             have hR0 := HR.out.below (below_on hb1 hb0)
             have hby0 : (0 + j) * 8 ≤ 140737488355328 := by omega
             have c4' := (y1.below hb0).cell 4 rfl
             clear hb1 z1 z2)
          | (at_builtin
             refine wpList_append_lst eltI rfl (.tmp 27) (.tmp 29) rfl rfl hL0 rfl hR0 hby0 ?_
             rintro v w3 hap
             obtain ⟨A3, n3, c3, rfl, l3⟩ := hap.ex
             have hn3 : n3 = j := by have h1 := l3.1; simp [intV] at h1; have := HRr.out; omega
             subst hn3
             have hb3 : Below w1.heap.size w1 w3 := hb0.trans (hap.st.below (by simp) (fun k hk => hk))
             have hb4 : Below w3.heap.size w3 (w3.alloc (.cells #[.int .i64 s] 3)) := (Below.refl _ _).alloc (Nat.le_refl _) _
             have hL3 := (l3.mono (F' := (w1.heap.size ≤ ·)) (fun k hk => by rcases hk with hk | hk; exact hk; simp at hk; omega)).alloc (.cells #[.int .i64 s] 3)
             have hR3 := RdV.one w3 3 (.int .i64 s) rfl
             have hby3 : (n3 + 1) * 8 ≤ 140737488355328 := by omega
             have hb5 : Below w1.heap.size w1 (w3.alloc (.cells #[.int .i64 s] 3)) := hb3.trans (hb4.mono hb3.size)
             clear hap l3 hL0 hR0 hby0)
          | (refine wpList_build_one (x := .int .i64 s) eltI rfl (.tmp 31) rfl rfl rfl ?_)
          | (at_builtin
             refine wpList_append_lst eltI rfl (.tmp 30) (.tmp 32) rfl rfl hL3 rfl hR3 hby3 ?_
             rintro v w5 hap
             obtain ⟨A5, n5, c5, rfl, l5⟩ := hap.ex
             have hb6 : Below w1.heap.size w1 w5 := hb5.trans (hap.st.below hb5.size (fun k hk => hk))
             have x1 := y1.below hb6
             have x2 := y2.below hb6
             have c4'' := x1.cell 4 rfl
             have f4 := x1.free 4
             have y5 := x1.set 4 (.slice A5 n5 c5)
             have y6 : Bk (w5.setCell ⟨w.heap.size, 4, none⟩ (.slice A5 n5 c5)) 31 (w.heap.size + 1) [.int .i64 0, .slice none 0 0, .slice none 0 0, .int .i64 0, .slice none 0 0] := x2.far (by simp) _
             have hs5 : St (· = w.heap.size) w5 (w5.setCell ⟨w.heap.size, 4, none⟩ (.slice A5 n5 c5)) := St.setCell (F := (· = w.heap.size)) w5 (a := ⟨w.heap.size, 4, none⟩) rfl _
             have HL5 := Lib.hid (l5.mono (F' := (w1.heap.size ≤ ·)) (fun k hk => by rcases hk with hk | hk; exact hk; have := hb5.size; omega))
             have HB5 : Hid (Below w.heap.size w (w5.setCell ⟨w.heap.size, 4, none⟩ (.slice A5 n5 c5))) := Lib.hid ((HB1.out.trans (hb6.mono HB1.out.size)).trans (hs5.below (by have := HB1.out.size; have := hb6.size; omega) (fun k hk => by omega)))
             have HS5 := Lib.hid hs5
             have HW1 : Hid (w.heap.size + 1 < w1.heap.size) := Lib.hid y2.lt
             clear hap l5 hL3 hR3 hby3 x1 x2 hs5 y1 y2 c4')
          | (with_reducible refine at_store 31 (.tmp 4) (.tmp 35) (by rfl) ?_
             refine wpList_store_bk rowR rfl (.tmp 4) (.tmp 35) rfl (w.heap.size + 1) 0 rfl y6 [.int .i64 m.most, .slice A n c, .slice B k d, .int .i64 m.nx, .slice A5 n5 c5] rfl rfl (by show 0 + 5 ≤ 5; omega) (by simp [Value.oneCell']) ?_
             intro w7 hz7 hw7))
        rw [lay_all _ _ (by rfl)] at hz7
        refine bodyPost_ret (results_cell_tmp rfl rfl (rowR.load hz7 0 (cs := [.int .i64 m.most, .slice A n c, .slice B k d, .int .i64 m.nx, .slice A5 n5 c5]) rfl rfl)) rfl ?_
        rw [HE.out.1, HE.out.2]
        have hb9 := two_st HB5.out hw7 (by omega)
        have hl9 := (HL5.out.st HS5.out (fun k hk e => by have := HW1.out; omega)).st (st_wr hw7) (fun k hk e => by have := HW1.out; omega)
        refine ⟨A, n, c, B, k, d, A5, n5, c5, rfl, ⟨HX.out.l.below hb9, HX.out.k.below hb9, ?_⟩, hb9⟩
        have h5 := RdX.lst hl9
        show RdX _ w7 A5 n5 c5 (intV (m.row ++ [s]))
        rw [intV_snoc]
        exact h5.mono fun j _ hj => .inr (by have := HW1.out; omega)
end
end Go.Proofs.Ytnakoplceplmmaa
