/- The document's queue: acknowledged. -/
import Derived.Test.YtnakoplceplmmaaV17
set_option linter.unusedSimpArgs false
set_option linter.unusedVariables false
namespace Go.Proofs.Ytnakoplceplmmaa
open Go.RowKit Go.Shelf
section
variable {X X' F : Nat → Prop} {w w' : World} {m : Sm} {A B C : Option Addr} {n c k d r e : Nat}
theorem filter_take_succ (xs : List Int) (p : Int → Bool) (j : Nat) (h : j < xs.length) : (xs.take (j + 1)).filter p = if p xs[j] = true then (xs.take j).filter p ++ [xs[j]] else (xs.take j).filter p := by
  rw [List.take_succ_eq_append_getElem h, List.filter_append]
  by_cases hp : p xs[j] = true
  · simp [hp]
  · simp [hp]
set_option maxHeartbeats 4000000 in
theorem r_ack (h : RqA X w m A n c B k d C r e) (ok : m.Ok) (lw : m.Low) (s : Int) : Calls Try.prog 14 #[.agg #[.int .i64 m.most, .slice A n c, .slice B k d, .int .i64 m.nx, .slice C r e], .int .i64 s] w (Rt2 (fun j => X j ∨ w.heap.size ≤ j) (m.ack s) (.bool (m.lacks s)) w) := by
  obtain ⟨z1, z2, hb⟩ := bx2_all w [.int .i64 m.most, .slice A n c, .slice B k d, .int .i64 m.nx, .slice C r e]
  have hr := h.hr
  have hk := h.hk
  have HX := Lib.hid (h.mono (X' := fun j => X j ∨ w.heap.size ≤ j) fun j _ hj => .inl hj)
  have HLc := Lib.hid (r_lacks (h.below hb) ok lw s)
  have HB := Lib.hid hb
  have HZ := Lib.hid (And.intro z1 z2)
  cases hl : m.lacks s with
  | false =>
    have HV : Hid (m.ack s = m) := Lib.hid (by unfold Sm.ack; rw [if_neg (by rw [hl]; simp)])
    have HE := Lib.hid hl
    clear h ok lw hb hr hk hl
    unfold bx2 at *
    go_enter Try.func14, Try.ntmps14
    go_wp2_with (first
      | (with_reducible refine at_load 31 (.tmp 2) (by rfl) ?_
         first
           | refine wpList_load_bk rowR rfl (.tmp 2) rfl w.heap.size 0 rfl z1 [.int .i64 m.most, .slice A n c, .slice B k d, .int .i64 m.nx, .slice C r e] rfl rfl ?_
           | refine wpList_load_bk rowR rfl (.tmp 2) rfl w.heap.size 0 rfl y1 [.int .i64 m.most, .slice A n c, .slice B k d, .int .i64 m.nx, .slice C r e] rfl rfl ?_)
      | (go_at_call 34; refine HLc.out.mono ?_; rintro en w1 ⟨rfl, hb1⟩; rw [HE.out]
         have HB1 := Lib.hid (below_on HB.out hb1)
         have y1 := HZ.out.1.below hb1
         have y2 := HZ.out.2.below hb1
         clear hb1 z1 z2)
      | (with_reducible refine at_store 31 (.tmp 4) (.tmp 12) (by rfl) ?_
         refine wpList_store_bk rowR rfl (.tmp 4) (.tmp 12) rfl (w.heap.size + 1) 0 rfl y2 [.int .i64 m.most, .slice A n c, .slice B k d, .int .i64 m.nx, .slice C r e] rfl rfl (by show 0 + 5 ≤ 5; omega) (by simp [Value.oneCell']) ?_
         intro w3 hz3 hw3))
    rw [lay_all _ _ (by rfl)] at hz3
    refine bodyPost_ret (results_cell_tmp rfl rfl (rowR.load hz3 0 (cs := [.int .i64 m.most, .slice A n c, .slice B k d, .int .i64 m.nx, .slice C r e]) rfl rfl)) rfl ?_
    rw [HV.out]
    exact ⟨A, n, c, B, k, d, C, r, e, rfl, HX.out.box HB1.out hw3 (by omega), two_st HB1.out hw3 (by omega)⟩
  | true =>
    have HV : Hid (m.ack s = ((m.mark s).drop s).settle) := Lib.hid (by unfold Sm.ack; rw [if_pos hl])
    have HE := Lib.hid hl
    obtain ⟨h1, h2, h3⟩ := Sm.lacks_iff.1 hl
    obtain ⟨s, rfl⟩ : ∃ s' : Nat, s = s' := ⟨s.toNat, by omega⟩
    have hsk : s < k := by have := ok.lk; have := ok.nl; omega
    have hkb : k ≤ 1000000000 := by have := ok.lk; have := ok.big; omega
    have hrb : r ≤ 4096 := by have := ok.nm.rl; omega
    have hby0 : (0 + k) * 1 ≤ 140737488355328 := by omega
    have HRK := Lib.hid h.k.1
    have HRC := Lib.hid h.r.1
    have HRr := Lib.hid hr
    clear h ok lw hb hr hk hl h1 h2 h3
    unfold bx2 at *
    go_enter Try.func14, Try.ntmps14
    go_wp2_with (first
      | (with_reducible refine at_load 31 (.tmp 2) (by rfl) ?_
         refine wpList_load_bk rowR rfl (.tmp 2) rfl w.heap.size 0 rfl z1 [.int .i64 m.most, .slice A n c, .slice B k d, .int .i64 m.nx, .slice C r e] rfl rfl ?_)
      | (go_at_call 34; refine HLc.out.mono ?_; rintro en w1 ⟨rfl, hb1⟩; rw [HE.out]
         have HB1 := Lib.hid (below_on HB.out hb1)
         have y1 := HZ.out.1.below hb1
         have y2 := HZ.out.2.below hb1
         have hb0 : Below w1.heap.size w1 (w1.alloc (.cells #[] 4)) := (Below.refl _ _).alloc (Nat.le_refl _) _
         have hK0 := Lst.made w1 4 #[] 0 [] rfl (Nat.zero_le _) (by decide) (by simp) (fun i hi => by omega)
         have hRK := HRK.out.below (below_on HB1.out hb0)
         have c2' := (y1.below hb0).cell 2 rfl
         clear hb1 z1 z2)
      | (at_builtin
         refine wpList_append_lst eltO rfl (.tmp 13) (.tmp 15) rfl rfl hK0 rfl hRK hby0 ?_
         rintro v w3 hap
         obtain ⟨A3, n3, c3, rfl, l3⟩ := hap.ex
         have hn3 : n3 = k := by have h1 := l3.1; have h2 := HRK.out.1; simp at h1; omega
         subst hn3
         have hb3 : Below w1.heap.size w1 w3 := hb0.trans (hap.st.below (by simp) (fun k hk => hk))
         have hL3 := l3.mono (F' := (w1.heap.size ≤ ·)) (fun k hk => by rcases hk with hk | hk; exact hk; simp at hk; omega)
         have x1 := y1.below hb3
         have x2 := y2.below hb3
         have c23 := x1.cell 2 rfl
         have f23 := x1.free 2
         have hyd := y2.lt
         obtain ⟨g3, o3, rfl, hg3, hc3⟩ := hL3.rdv.cell hsk
         have hgg : g3 ≠ w.heap.size := fun e => by have := (hL3.blk _ rfl).1; simp at this; omega
         have f33 := hL3.free rfl (o3 + s)
         have hs3 : St (· = w.heap.size) w3 (w3.setCell ⟨w.heap.size, 2, none⟩ (.slice (some ⟨g3, o3, none⟩) n3 c3)) := St.setCell (F := (· = w.heap.size)) w3 (a := ⟨w.heap.size, 2, none⟩) rfl _
         have hL4 := hL3.st hs3 (fun j hj e => by have := y1.lt; omega)
         have y14 := x1.set 2 (.slice (some ⟨g3, o3, none⟩) n3 c3)
         have y24 : Bk (w3.setCell ⟨w.heap.size, 2, none⟩ (.slice (some ⟨g3, o3, none⟩) n3 c3)) 31 (w.heap.size + 1) [.int .i64 0, .slice none 0 0, .slice none 0 0, .int .i64 0, .slice none 0 0] := x2.far (by simp) _
         have hB4 : Below w.heap.size w (w3.setCell ⟨w.heap.size, 2, none⟩ (.slice (some ⟨g3, o3, none⟩) n3 c3)) := (below_on HB1.out hb3).trans (hs3.below (Nat.le_trans HB1.out.size hb3.size) (fun j hj => by omega))
         have hl5 := hL4.set s hsk (x := .bool true) rfl
         have hg3w := (hL3.blk _ rfl).1
         have hs5 : St (· = g3) (w3.setCell ⟨w.heap.size, 2, none⟩ (.slice (some ⟨g3, o3, none⟩) n3 c3)) ((w3.setCell ⟨w.heap.size, 2, none⟩ (.slice (some ⟨g3, o3, none⟩) n3 c3)).setCell ⟨g3, o3 + s, none⟩ (.bool true)) := St.setCell (F := (· = g3)) _ (a := ⟨g3, o3 + s, none⟩) rfl _
         have y15 := y14.st hs5 (fun e => hgg e.symm)
         have y25 := y24.st hs5 (fun e => by simp at hg3w; omega)
         have hB5 : Below w.heap.size w ((w3.setCell ⟨w.heap.size, 2, none⟩ (.slice (some ⟨g3, o3, none⟩) n3 c3)).setCell ⟨g3, o3 + s, none⟩ (.bool true)) := hB4.trans (hs5.below hB4.size (fun j hj => by subst hj; simp at hg3w; omega))
         have HK5 := Lib.hid (hl5.mono (F' := fun j => w.heap.size + 1 < j) (fun j hj => by have := hyd; omega))
         have HY5 := Lib.hid (And.intro y15 (And.intro y25 hB5))
         have c33 : ∃ v, w3.cell? ⟨g3, o3 + s, none⟩ = some v := ⟨_, hc3.trans (List.getElem?_eq_getElem (by have := l3.1; omega))⟩
         obtain ⟨v33, c33⟩ := c33
         clear hap l3 hK0 hRK hby0 c2' hb3 hL3 x1 x2 hs3 hL4 y14 y24 hB4 hl5 hs5 y15 y25 hB5 y1 y2 hc3 hb0))
    generalize hW5 : (w3.setCell ⟨w.heap.size, 2, none⟩ (.slice (some ⟨g3, o3, none⟩) n3 c3)).setCell ⟨g3, o3 + s, none⟩ (.bool true) = W5 at *
    clear c23 f23 f33 c33
    go_loopw [6, 7] (fun l i W => ∃ j : Nat, i = .int .i64 j ∧ j ≤ r ∧ ∃ A1 n1 c1, l = .slice A1 n1 c1 ∧ Lst 3 (W5.heap.size ≤ ·) W A1 n1 c1 (intV ((m.row.take j).filter (· != (s : Int)))) ∧ Below W5.heap.size W5 W) (fun l i _ => r - (intOf i).toNat)
    case atStart => exact ⟨0, rfl, Nat.zero_le _, none, 0, 0, rfl, by simpa [intV] using Lst.nil _ _ _, Below.refl _ _⟩
    case round =>
      obtain ⟨j, rfl, hj, A1, n1, c1, rfl, hl, hbw⟩ := hrel
      have z := HY5.out.1.below hbw
      have c4 := z.cell 4 rfl
      have HBw := Lib.hid hbw
      have HLl := Lib.hid hl
      by_cases hlt : j < r
      · have hx : j < m.row.length := by rw [← HRr.out]; exact hlt
        have hR := HRC.out.below (below_on HY5.out.2.2 hbw)
        obtain ⟨g1, o, rfl, hg, cd⟩ := intV_at hR hlt hx
        have hlt' : (j : Int) < r := by omega
        have hns := filter_take_succ m.row (· != (s : Int)) j hx
        have hn1 : n1 ≤ 4096 := by
          have h1 := hl.1
          rw [intV_len] at h1
          have h2 := List.length_filter_le (· != (s : Int)) (m.row.take j)
          have h3 := List.length_take_le j m.row
          have h4 : (m.row.take j).length ≤ j := by rw [List.length_take]; omega
          omega
        clear hl hbw hR
        by_cases hxy : m.row[j] = (s : Int)
        · rw [if_neg (by rw [hxy]; simp)] at hns
          have HNS := Lib.hid hns
          rw [hxy] at cd
          clear hns hxy
          go_wp2
          go_roundw
          case rel => exact ⟨j + 1, by go_num, by omega, A1, n1, c1, rfl, by rw [HNS.out]; exact HLl.out, HBw.out⟩
          case measure => simp [intOf]; omega
        · rw [if_pos (by simpa using hxy)] at hns
          have HNS := Lib.hid hns
          have hby : (n1 + 1) * 8 ≤ 140737488355328 := by omega
          generalize m.row[j] = y at *
          have hb2 : Below wr.heap.size wr (wr.alloc (.cells #[.int .i64 y] 3)) := (Below.refl _ _).alloc (Nat.le_refl _) _
          have hla := (HLl.out.below hb2).tight
          have hu := RdV.one wr 3 (.int .i64 y) rfl
          have HB2 := Lib.hid hb2
          clear hns hb2
          go_wp2_with (first
            | (refine wpList_build_one (x := .int .i64 y) eltI rfl (.tmp 41) rfl rfl rfl ?_)
            | (at_builtin
               refine wpList_append_lst eltI rfl (.tmp 36) (.tmp 42) rfl rfl hla rfl hu hby ?_
               rintro v w9 hap
               obtain ⟨A9, n9, c9, rfl, l9⟩ := hap.ex
               have HAP : Hid (Lst 3 (W5.heap.size ≤ ·) w9 A9 n9 c9 (intV ((m.row.take (j + 1)).filter (· != (s : Int)))) ∧ Below W5.heap.size W5 w9) := Lib.hid (by
                 have hA1 : ∀ i, BlkOf A1 i → W5.heap.size ≤ i := by rintro i ⟨ad, he, rfl⟩; exact (HLl.out.blk ad he).1
                 have hb5 := below_on HBw.out HB2.out
                 refine ⟨?_, hb5.trans (hap.st.below hb5.size hA1)⟩
                 rw [HNS.out, intV_snoc]
                 refine l9.mono fun i hi => ?_
                 rcases hi with hi | hi
                 · exact hA1 i hi
                 · exact Nat.le_trans hb5.size hi)
               clear hap l9))
          go_roundw
          case rel => exact ⟨j + 1, by go_num, by omega, A9, n9, c9, rfl, HAP.out.1, HAP.out.2⟩
          case measure => simp [intOf]; omega
      · obtain rfl : j = r := by omega
        have HT : Hid ((m.row.take j).filter (· != (s : Int)) = m.row.filter (· != (s : Int))) := Lib.hid (by rw [List.take_of_length_le (by rw [HRr.out]; exact Nat.le_refl _)])
        have f4 := z.free 4
        have x2 := HY5.out.2.1.below hbw
        have y17 := z.set 4 (.slice A1 n1 c1)
        have y27 : Bk (wr.setCell ⟨w.heap.size, 4, none⟩ (.slice A1 n1 c1)) 31 (w.heap.size + 1) [.int .i64 0, .slice none 0 0, .slice none 0 0, .int .i64 0, .slice none 0 0] := x2.far (by simp) _
        have hs7 : St (· = w.heap.size) wr (wr.setCell ⟨w.heap.size, 4, none⟩ (.slice A1 n1 c1)) := St.setCell (F := (· = w.heap.size)) wr (a := ⟨w.heap.size, 4, none⟩) rfl _
        have HB7 : Hid (Below w.heap.size w (wr.setCell ⟨w.heap.size, 4, none⟩ (.slice A1 n1 c1))) := Lib.hid ((below_on HY5.out.2.2 hbw).trans (hs7.below (Nat.le_trans HY5.out.2.2.size hbw.size) (fun i hi => by omega)))
        have HL7 := Lib.hid (hl.st hs7 (fun i hi e => by have := HY5.out.1.lt; omega))
        have HK7 := Lib.hid ((HK5.out.below hbw).st hs7 (fun i hi e => by omega))
        have HG : Hid (w.heap.size + 1 < W5.heap.size) := Lib.hid HY5.out.2.1.lt
        clear hl hbw z x2 hs7
        go_wp2_with (first
          | (with_reducible refine at_load 31 (.tmp 2) (by rfl) ?_
             refine wpList_load_bk rowR rfl (.tmp 2) rfl w.heap.size 0 rfl y17 [.int .i64 m.most, .slice A n c, .slice (some ⟨g3, o3, none⟩) n3 c3, .int .i64 m.nx, .slice A1 n1 c1] rfl rfl ?_)
          | (with_reducible refine at_store 31 (.tmp 4) (.tmp 46) (by rfl) ?_
             refine wpList_store_bk rowR rfl (.tmp 4) (.tmp 46) rfl (w.heap.size + 1) 0 rfl y27 [.int .i64 m.most, .slice A n c, .slice (some ⟨g3, o3, none⟩) n3 c3, .int .i64 m.nx, .slice A1 n1 c1] rfl rfl (by show 0 + 5 ≤ 5; omega) (by simp [Value.oneCell']) ?_
             intro w10 hz10 hw10))
        rw [lay_all _ _ (by rfl)] at hz10
        refine bodyPost_ret (results_cell_tmp rfl rfl (rowR.load hz10 0 (cs := [.int .i64 m.most, .slice A n c, .slice (some ⟨g3, o3, none⟩) n3 c3, .int .i64 m.nx, .slice A1 n1 c1]) rfl rfl)) rfl ?_
        rw [HV.out]
        have hb11 := two_st HB7.out hw10 (by omega)
        have hL11 := (HL7.out.st (st_wr hw10) (fun i hi e => by have := HG.out; omega)).mono (F' := (w.heap.size ≤ ·)) (fun i hi => by have := HG.out; omega)
        have hK11 := (HK7.out.st (st_wr hw10) (fun i hi e => by omega)).mono (F' := (w.heap.size ≤ ·)) (fun i hi => by omega)
        refine ⟨A, n, c, _, n3, c3, A1, n1, c1, rfl, ⟨HX.out.l.below hb11, ?_, ?_⟩, hb11⟩
        · have h5 := (RdX.lst hK11).mono (X' := fun j => X j ∨ w.heap.size ≤ j) fun i _ hi => .inr hi
          show RdX _ w10 _ n3 c3 (booV (m.K.set (s : Int).toNat true))
          rw [Int.toNat_natCast, show booV (m.K.set s true) = ([] ++ booV m.K).set s (.bool true) from by simp [booV, List.map_set]]
          exact h5
        · have h5 := (RdX.lst hL11).mono (X' := fun j => X j ∨ w.heap.size ≤ j) fun i _ hi => .inr hi
          show RdX _ w10 A1 n1 c1 (intV (m.row.filter (· != (s : Int))))
          rw [← HT.out]
          exact h5
end
end Go.Proofs.Ytnakoplceplmmaa
