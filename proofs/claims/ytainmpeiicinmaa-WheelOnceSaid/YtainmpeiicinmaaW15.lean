/- The document's wheel: a timer set. -/
import Derived.Test.YtainmpeiicinmaaW14
set_option linter.unusedSimpArgs false
set_option linter.unusedVariables false
set_option maxRecDepth 100000
namespace Go.Proofs.Ytainmpeiicinmaa.Wi
open Go.RowKit Go.Shelf
section
variable {w w' w1 w2 : World} {g p : Nat} {m m' : Wm Int} {l : List (Tm Int)} {A : Option Addr} {n c : Nat} {T : TypeId}
/-- Ahead of the place's search. -/
structure SeJ (m : Wm Int) (x N : Int) (w : World) (A : Option Addr) (n c tb : Nat) (W : World) : Prop where
  b0 : Bk W 29 w.heap.size [.slice A n c, .int .i64 m.most, .int .i64 m.now, .int .i64 (m.sets + 1)]
  b1 : Bk W 29 (w.heap.size + 1) [.slice none 0 0, .int .i64 0, .int .i64 0, .int .i64 0]
  bt : Bk W 73 tb [.int .i64 x, .int .i64 N, .int .i64 m.sets]
  rv : RvL W A n c (rem m.l x)
  bl : Below w.heap.size w W
  sz : w.heap.size + 2 ≤ W.heap.size
theorem SeJ.next {x N : Int} {tb : Nat} {W W' : World} (h : SeJ m x N w A n c tb W) (hb : Below W.heap.size W W') : SeJ m x N w A n c tb W' :=
  ⟨h.b0.below hb, h.b1.below hb, h.bt.below hb, h.rv.below hb, below_on h.bl hb, Nat.le_trans h.sz hb.size⟩
theorem r_set_triv (h : RvL w A n c m.l) {n0 : Int} {w3 : World} {W : World} (hb : Below w.heap.size w W) (hz : w.heap.size + 2 ≤ W.heap.size) (h1 : Bk W 29 (w.heap.size + 1) [.slice none 0 0, .int .i64 0, .int .i64 0, .int .i64 0]) (hw3 : Wr (w.heap.size + 1) W w3) (v : Value) :
    RtW m v w (.returned (.tuple #[.agg #[.slice A n c, .int .i64 m.most, .int .i64 m.now, .int .i64 m.sets], v])) w3 :=
  ⟨A, n, c, rfl, (h.below hb).st (st_wr hw3) h1.tyd (by decide), hb.trans ((st_wr hw3).below (by omega) (by rintro k rfl; omega))⟩
set_option maxHeartbeats 4000000 in
theorem r_set (h : RvL w A n c m.l) (hnm : m.Nm) (hok : m.Ok) (hnb : m.now ≤ 1000000000) (hs0 : 0 ≤ m.sets) (hs1 : m.sets ≤ 1000000) (x n0 : Int) : Calls Try.prog 17 #[.agg #[.slice A n c, .int .i64 m.most, .int .i64 m.now, .int .i64 m.sets], .int .i64 x, .int .i64 n0] w (RtW (m.set x n0) (.int .i64 (m.setE x n0)) w) := by
  obtain ⟨q, z, hb⟩ := bx2 w m A n c
  have HQ := Lib.hid (And.intro q z)
  have HH := Lib.hid h
  have HB := Lib.hid hb
  have hnw0 := hnm.n0
  have hz : ((w.alloc (.cells #[.slice A n c, .int .i64 m.most, .int .i64 m.now, .int .i64 m.sets] 29)).alloc (.cells #[.slice none 0 0, .int .i64 0, .int .i64 0, .int .i64 0] 29)).heap.size = w.heap.size + 2 := by simp
  have HZ := Lib.hid hz
  by_cases h1 : n0 < 1 ∨ 1048576 < n0
  · have HV := Lib.hid (Wm.set_no (m := m) (k := x) h1)
    rcases (by omega : n0 < 1 ∨ (1 ≤ n0 ∧ 1048576 < n0)) with h2 | ⟨h2, h3⟩
    · clear h1 h hok hnm q z hb hz
      go_enter Try.func17, Try.ntmps17
      go_wp2_with (first
        | (with_reducible refine at_load 29 (.tmp 3) (by rfl) ?_
           refine wpList_load_bk rowR rfl (.tmp 3) rfl w.heap.size 0 rfl HQ.out.1 [.slice A n c, .int .i64 m.most, .int .i64 m.now, .int .i64 m.sets] rfl rfl ?_)
        | (with_reducible refine at_store 29 (.tmp 6) (.tmp 17) (by rfl) ?_
           refine wpList_store_bk rowR rfl (.tmp 6) (.tmp 17) rfl (w.heap.size + 1) 0 rfl HQ.out.2 [.slice A n c, .int .i64 m.most, .int .i64 m.now, .int .i64 m.sets] rfl rfl (by show 0 + 4 ≤ 4; omega) (by simp [Value.oneCell']) ?_
           intro w3 hz3 hw3
           rw [lay_all _ _ (by rfl)] at hz3))
      refine bodyPost_ret (results_cell_tmp rfl rfl (rowR.load hz3 0 (cs := [.slice A n c, .int .i64 m.most, .int .i64 m.now, .int .i64 m.sets]) rfl rfl)) rfl ?_
      rw [HV.out.1, HV.out.2]
      exact r_set_triv HH.out (n0 := n0) HB.out (by rw [HZ.out]; exact Nat.le_refl _) HQ.out.2 hw3 _
    · clear h1 h hok hnm q z hb hz
      go_enter Try.func17, Try.ntmps17
      go_wp2_with (first
        | (with_reducible refine at_load 29 (.tmp 3) (by rfl) ?_
           refine wpList_load_bk rowR rfl (.tmp 3) rfl w.heap.size 0 rfl HQ.out.1 [.slice A n c, .int .i64 m.most, .int .i64 m.now, .int .i64 m.sets] rfl rfl ?_)
        | (with_reducible refine at_store 29 (.tmp 6) (.tmp 17) (by rfl) ?_
           refine wpList_store_bk rowR rfl (.tmp 6) (.tmp 17) rfl (w.heap.size + 1) 0 rfl HQ.out.2 [.slice A n c, .int .i64 m.most, .int .i64 m.now, .int .i64 m.sets] rfl rfl (by show 0 + 4 ≤ 4; omega) (by simp [Value.oneCell']) ?_
           intro w3 hz3 hw3
           rw [lay_all _ _ (by rfl)] at hz3))
      refine bodyPost_ret (results_cell_tmp rfl rfl (rowR.load hz3 0 (cs := [.slice A n c, .int .i64 m.most, .int .i64 m.now, .int .i64 m.sets]) rfl rfl)) rfl ?_
      rw [HV.out.1, HV.out.2]
      exact r_set_triv HH.out (n0 := n0) HB.out (by rw [HZ.out]; exact Nat.le_refl _) HQ.out.2 hw3 _
  · have h2 : 1 ≤ n0 := by omega
    have h3 : n0 ≤ 1048576 := by omega
    have d1 : decide (n0 < 1) = false := decide_eq_false (by omega)
    have d2 : decide (1048576 < n0) = false := decide_eq_false (by omega)
    have HNM := Lib.hid hnm
    have HOK := Lib.hid hok
    have hlen := hnm.ln
    have HF := Lib.hid (r_find (h.below hb) (by omega) x)
    have HLM := Lib.hid (And.intro hok.lm h.hn)
    have hnl : n ≤ 1024 := by rw [h.hn]; exact hlen
    by_cases hx : x ∈ m.l.map Tm.k
    · obtain ⟨i, hi, hix, hki⟩ := idxV_yes hx
      have HX : Hid (m.idx x = (i : Int)) := Lib.hid hix
      rw [HX.out] at HF
      have hf : m.full x = false := by unfold Wm.full; rw [Wm.has_yes hx]; rfl
      have HV := Lib.hid (Wm.set_yes (m := m) (k := x) h1 hf)
      have hib : i ≤ 2000 := by simp at hi; omega
      have di : decide ((i : Int) < 0) = false := decide_eq_false (by omega)
      clear h1 h hok hnm q z hb hz hx hi hix hki hf hlen
      go_enter Try.func17, Try.ntmps17
      go_wp2_with (first
        | (with_reducible refine at_load 29 (.tmp 3) (by rfl) ?_
           refine wpList_load_bk rowR rfl (.tmp 3) rfl w.heap.size 0 rfl HQ.out.1 [.slice A n c, .int .i64 m.most, .int .i64 m.now, .int .i64 m.sets] rfl rfl ?_)
        | (go_at_call 32; refine HF.out.mono ?_; rintro e w2 ⟨rfl, hb2⟩
           have HQ2 := Lib.hid (And.intro (HQ.out.1.below hb2) (HQ.out.2.below hb2))
           have c0 := HQ2.out.1.cell 0 rfl
           have c1 := HQ2.out.1.cell 1 rfl
           have HB2 := Lib.hid (below_on HB.out hb2)
           have HZ2 := Lib.hid (show w.heap.size + 2 ≤ w2.heap.size by rw [← HZ.out]; exact hb2.size)
           have HDr := Lib.hid (r_drop (HH.out.below HB2.out) (by have := HNM.out.ln; omega) x)
           clear hb2)
        | (with_reducible refine at_load 29 (.tmp 3) (by rfl) ?_
           refine wpList_load_bk rowR rfl (.tmp 3) rfl w.heap.size 0 rfl HQ2.out.1 [.slice A n c, .int .i64 m.most, .int .i64 m.now, .int .i64 m.sets] rfl rfl ?_)
        | (go_at_call 11; refine HDr.out.mono ?_; rintro e w4 ⟨A4, n4, c4, rfl, hrv, hb4⟩
           have HR4 := Lib.hid hrv
           have HQ4 := Lib.hid (And.intro (HQ2.out.1.below hb4) (HQ2.out.2.below hb4))
           have HB4 := Lib.hid (And.intro (below_on HB2.out hb4) (Nat.le_trans HZ2.out hb4.size))
           clear hrv hb4 c0 c1)
        | (with_reducible refine at_store 29 (.tmp 3) (.tmp 35) (by rfl) ?_
           refine wpList_store_bk rowR rfl (.tmp 3) (.tmp 35) rfl w.heap.size 0 rfl HQ4.out.1 [.slice A4 n4 c4, .int .i64 m.most, .int .i64 m.now, .int .i64 m.sets] rfl rfl (by show 0 + 4 ≤ 4; omega) (by simp [Value.oneCell']) ?_
           intro w5 hz5 hw5
           rw [lay_all _ _ (by rfl)] at hz5
           have c2 := hz5.cell 2 rfl
           have c3 := hz5.cell 3 rfl
           have hz6 := hz5.alloc (.cells #[.int .i64 x, .int .i64 (m.now + n0), .int .i64 m.sets] 73)
           have c4' := hz6.cell 3 rfl
           have f4' := hz6.free 3
           have HSJ : Hid (SeJ m x (m.now + n0) w A4 n4 c4 w5.heap.size ((w5.alloc (.cells #[.int .i64 x, .int .i64 (m.now + n0), .int .i64 m.sets] 73)).setCell ⟨w.heap.size, 3, none⟩ (.int .i64 (m.sets + 1)))) := Lib.hid (by
             have hbw : Below w.heap.size w w5 := HB4.out.1.trans ((st_wr hw5).below HB4.out.1.size (by rintro k rfl; exact Nat.le_refl _))
             have hsz := Nat.le_trans HB4.out.2 hw5.size
             have hrv5 := HR4.out.st (st_wr hw5) HQ4.out.1.tyd (by decide)
             have hst : St (· = w.heap.size) (w5.alloc (.cells #[.int .i64 x, .int .i64 (m.now + n0), .int .i64 m.sets] 73)) ((w5.alloc (.cells #[.int .i64 x, .int .i64 (m.now + n0), .int .i64 m.sets] 73)).setCell ⟨w.heap.size, 3, none⟩ (.int .i64 (m.sets + 1))) := St.setCell (F := (· = w.heap.size)) _ (a := ⟨w.heap.size, 3, none⟩) rfl _
             exact ⟨hz6.set 3 _, ((HQ4.out.2.st (st_wr hw5) (show ¬ w.heap.size + 1 = w.heap.size by omega)).alloc _).far (p := ⟨w.heap.size, 3, none⟩) (show w.heap.size + 1 ≠ w.heap.size by omega) _, (Bk.new w5 73 [.int .i64 x, .int .i64 (m.now + n0), .int .i64 m.sets]).far (p := ⟨w.heap.size, 3, none⟩) (show w5.heap.size ≠ w.heap.size by omega) _, (hrv5.below ((Below.refl _ _).alloc (Nat.le_refl _) _)).st hst hz6.tyd (by decide), hbw.trans (((Below.refl _ _).alloc hbw.size _).trans ((Below.refl _ _).setCell (by simp) _)), by simp [World.setCell]; omega⟩)
           clear hz5 hw5 hz6 HQ4))
      generalize ((w5.alloc (.cells #[.int .i64 x, .int .i64 (m.now + n0), .int .i64 m.sets] 73)).setCell ⟨w.heap.size, 3, none⟩ (.int .i64 (m.sets + 1))) = w6 at *
      clear c2 c3 c4' f4'
      generalize htb : w5.heap.size = tb at *
      clear htb
      obtain ⟨k, hk⟩ : ∃ k, k = (low (rem m.l x) (m.now + n0)).length := ⟨_, rfl⟩
      have HK := Lib.hid hk
      have hkl : k ≤ n4 := by
        have h1 := low_le (rem m.l x) (m.now + n0)
        have h2 := HSJ.out.rv.hn
        omega
      have HN4 := Lib.hid HSJ.out.rv.hn
      have hn4 : n4 ≤ 1024 := by
        have h1 := (rem_sub m.l x).length_le
        have h2 := HNM.out.ln
        have h3 := HN4.out
        omega
      have HKL := Lib.hid hkl
      have HSo : Hid (Srt (rem m.l x)) := Lib.hid (Wm.drop_ok HOK.out x).so
      clear hk
      go_loopw [9] (fun i W => ∃ j : Nat, j ≤ k ∧ i = .int .i64 j ∧ SeJ m x (m.now + n0) w A4 n4 c4 tb W) (fun i _ => k - (intOf i).toNat)
      case atStart => exact ⟨0, Nat.zero_le _, rfl, HSJ.out⟩
      case round =>
        obtain ⟨j, hj, rfl, hJ⟩ := hrel
        have c0 := hJ.b0.cell 0 rfl
        have ct := hJ.bt.cell 1 rfl
        by_cases hlt : j < k
        · have hjl : j < (rem m.l x).length := by rw [← HN4.out]; omega
          obtain ⟨g1, o, rfl, hg1, hra⟩ := hJ.rv.row hjl
          have d1 := hra 1 (.int .i64 (rem m.l x)[j].d) rfl
          have hle : (rem m.l x)[j].d ≤ m.now + n0 := by
            have h1 := low_at HSo.out (m.now + n0) hjl
            rw [decide_eq_false (show ¬ (low (rem m.l x) (m.now + n0)).length ≤ j by have := HK.out; omega)] at h1
            have := of_decide_eq_false h1
            omega
          have hjn : (j : Int) < n4 := by omega
          have hjp : j < n4 := by omega
          have hg0 : decide (j < n4) = true := decide_eq_true hjp
          have hj1 : j ≤ 1024 := by omega
          have HJ := Lib.hid hJ
          generalize (rem m.l x)[j].d = dd at *
          clear hJ hra
          go_wp2_with fail
          go_quiet (fail)
          go_wp2
          go_roundw
          case rel => exact ⟨j + 1, by omega, by go_num, HJ.out.next (Below.drewN_ wr nq)⟩
          case measure => simp [intOf]; omega
        · obtain rfl : k = j := by omega
          by_cases hkn : k < n4
          · have hjl : k < (rem m.l x).length := by rw [← HN4.out]; omega
            obtain ⟨g1, o, rfl, hg1, hra⟩ := hJ.rv.row hjl
            have d1 := hra 1 (.int .i64 (rem m.l x)[k].d) rfl
            have hle : m.now + n0 < (rem m.l x)[k].d := by
              have h1 := low_at HSo.out (m.now + n0) hjl
              rw [decide_eq_true (show (low (rem m.l x) (m.now + n0)).length ≤ k by have := HK.out; omega)] at h1
              exact of_decide_eq_true h1
            have hjn : (k : Int) < n4 := by omega
            have hg0 : decide (k < n4) = true := decide_eq_true hkn
            have hj1 : k ≤ 1024 := by omega
            have HJ := Lib.hid hJ
            generalize (rem m.l x)[k].d = dd at *
            clear hJ hra hlt
            go_wp2_with fail
            go_quiet (fail)
            have HJ9 := Lib.hid (HJ.out.next (Below.drewN_ wr nq))
            clear d1 c0 ct
            generalize wr.drewN nq = wq at *
            have hcc : n4 ≤ c4 := HJ9.out.rv.2.1
            have hpre : ∀ W : World, _ := fun W => eltT.run_pre (some ⟨g1, o, none⟩) n4 c4 k (by omega) hcc W
            have hcut : ∀ W : World, _ := fun W => eltT.run_cut (some ⟨g1, o, none⟩) n4 c4 k HKL.out hcc W
            have hba : Below wq.heap.size wq (wq.alloc (.cells #[] 73)) := (Below.refl _ _).alloc (Nat.le_refl _) _
            have c0 := (HJ9.out.next hba).b0.cell 0 rfl
            have HL0 : Hid (LstR 3 73 (wq.heap.size ≤ ·) (wq.alloc (.cells #[] 73)) (some ⟨wq.heap.size, 0, none⟩) 0 0 []) := Lib.hid (LstR.made 3 wq 73 #[] 0 0 [] (by simp) (Nat.le_refl _) (by simp) (Nat.zero_le _) (by simp) (fun i hi => by simp at hi))
            have hl0 := HL0.out.tight
            have hu1 := (HJ9.out.next hba).rv.rd.pre HKL.out
            have HNR := HN4.out
            rw [← flat_take rcl_len _ _ (by omega)] at hu1
            have HBA := Lib.hid hba
            clear hba HNR
            go_wp2_with (first
              | (refine wpList_append_lstR eltT rfl (.tmp 67) (.tmp 71) rfl rfl hl0 rfl hu1 (by omega) ?_
                 rintro v w7 hap
                 obtain ⟨A5, n5, c5, rfl, hl5'⟩ := hap.ex
                 obtain ⟨hl5, hb5⟩ := below_apdR (N := wq.heap.size) (by simp) HL0.out hap
                 have HL5 := Lib.hid (And.intro hl5 hb5)
                 have hn5 : n5 ≤ 1024 := by
                   have h1 := hl5.1
                   rw [List.nil_append, flat_len rcl_len, List.length_take] at h1
                   omega
                 have HB7 := Lib.hid (HBA.out.trans hb5)
                 have HJ7 := Lib.hid (HJ9.out.next HB7.out)
                 have hla7 := (hl5.alloc (.cells #[.int .i64 x, .int .i64 (m.now + n0), .int .i64 m.sets] 73)).tight
                 have hu7 := RdR.one w7 73 [.int .i64 x, .int .i64 (m.now + n0), .int .i64 m.sets] (by intro v hv; simp at hv; rcases hv with rfl | rfl | rfl <;> rfl)
                 clear hap hl5 hl5' hb5 hl0 hu1 c0)
              | (with_reducible refine at_load 73 (.tmp 8) (by rfl) ?_
                 refine wpList_load_bk rowT rfl (.tmp 8) rfl tb 0 rfl HJ7.out.bt [.int .i64 x, .int .i64 (m.now + n0), .int .i64 m.sets] rfl rfl ?_)
              | (refine wpList_build_row eltT rfl (.tmp 74) rfl (xs := [.int .i64 x, .int .i64 (m.now + n0), .int .i64 m.sets]) rfl rfl ?_)
              | (refine wpList_append_lstR eltT rfl (.tmp 73) (.tmp 75) rfl rfl hla7 rfl hu7 (by omega) ?_
                 rintro v w8 hap
                 obtain ⟨A6, n6, c6, rfl, hl6'⟩ := hap.ex
                 obtain ⟨hl6, hb6⟩ := below_apdR (N := wq.heap.size) (by have := HB7.out.size; simp; omega) (HL5.out.1.alloc _) hap
                 have HL6 := Lib.hid hl6
                 have hn6 : n6 ≤ 1025 := by
                   have h1 := hl6.1
                   rw [List.nil_append, List.length_append, flat_len rcl_len, List.length_take, List.length_cons, List.length_cons, List.length_cons, List.length_nil] at h1
                   omega
                 have HB8 := Lib.hid (HB7.out.trans (((Below.refl _ _).alloc HB7.out.size _).trans hb6))
                 have HJ8 := Lib.hid (HJ9.out.next HB8.out)
                 have c8 := HJ8.out.b0.cell 0 rfl
                 have hla8 := hl6.tight
                 have hu8 := HJ8.out.rv.rd.cut HKL.out
                 clear hap hl6 hl6' hb6 hla7 hu7)
              | (refine wpList_append_lstR eltT rfl (.tmp 77) (.tmp 81) rfl rfl hla8 rfl hu8 (by omega) ?_
                 rintro v w9 hap
                 obtain ⟨A7, n7, c7, rfl, hl7'⟩ := hap.ex
                 obtain ⟨hl7, hb7⟩ := below_apdR (N := wq.heap.size) HB8.out.size HL6.out hap
                 have HL7 := Lib.hid hl7
                 have HB9 := Lib.hid (HB8.out.trans hb7)
                 have HJT := Lib.hid (HJ9.out.next HB9.out)
                 have c9 := HJT.out.b0.cell 0 rfl
                 have f9 := HJT.out.b0.free 0
                 have HQ9 := Lib.hid (And.intro (HJT.out.b0.set 0 (.slice A7 n7 c7)) (HJT.out.b1.far (p := ⟨w.heap.size, 0, none⟩) (show w.heap.size + 1 ≠ w.heap.size by omega) (.slice A7 n7 c7)))
                 clear hap hl7 hl7' hb7 hla8 hu8 c8)
              | (with_reducible refine at_load 29 (.tmp 3) (by rfl) ?_
                 refine wpList_load_bk rowR rfl (.tmp 3) rfl w.heap.size 0 rfl HQ9.out.1 [.slice A7 n7 c7, .int .i64 m.most, .int .i64 m.now, .int .i64 (m.sets + 1)] rfl rfl ?_)
              | (with_reducible refine at_store 29 (.tmp 6) (.tmp 84) (by rfl) ?_
                 refine wpList_store_bk rowR rfl (.tmp 6) (.tmp 84) rfl (w.heap.size + 1) 0 rfl HQ9.out.2 [.slice A7 n7 c7, .int .i64 m.most, .int .i64 m.now, .int .i64 (m.sets + 1)] rfl rfl (by show 0 + 4 ≤ 4; omega) (by simp [Value.oneCell']) ?_
                 intro w3 hz3 hw3
                 rw [lay_all _ _ (by rfl)] at hz3))
            refine bodyPost_ret (results_cell_tmp rfl rfl (rowR.load hz3 0 (cs := [.slice A7 n7 c7, .int .i64 m.most, .int .i64 m.now, .int .i64 (m.sets + 1)]) rfl rfl)) rfl ?_
            rw [HV.out.1, HV.out.2]
            have hrow : RvL w9 A7 n7 c7 (ins (rem m.l x) ⟨x, m.now + n0, m.sets⟩) := by
              have h1 := HL7.out
              rw [List.nil_append, List.append_assoc, ← flat_drop rcl_len _ _ (by rw [← HN4.out]; exact HKL.out)] at h1
              unfold RvL
              rw [ins_eq, flat_app, ← HK.out]
              exact h1.mono fun _ _ => trivial
            have hsq := HJ9.out.sz
            have hfin : RvL w3 A7 n7 c7 (ins (rem m.l x) ⟨x, m.now + n0, m.sets⟩) := (hrow.st (p := w.heap.size) (St.setCell (F := (· = w.heap.size)) _ (a := ⟨w.heap.size, 0, none⟩) rfl (.slice A7 n7 c7)) HJT.out.b0.tyd (by decide)).st (st_wr hw3) HQ9.out.2.tyd (by decide)
            have hbf : Below w.heap.size w (w9.setCell ⟨w.heap.size, 0, none⟩ (.slice A7 n7 c7)) := (HJT.out.bl).trans ((Below.refl _ _).setCell (by simp) _)
            exact ⟨A7, n7, c7, rfl, hfin, hbf.trans ((st_wr hw3).below hbf.size (by rintro k rfl; omega))⟩
          · have hg0 : decide (k < n4) = false := decide_eq_false hkn
            have hj1 : k ≤ 1024 := by omega
            have HJ := Lib.hid hJ
            clear hJ hlt
            go_wp2_with fail
            go_quiet (fail)
            have HJ9 := Lib.hid (HJ.out.next (Below.drewN_ wr nq))
            clear c0 ct
            generalize wr.drewN nq = wq at *
            have hcc : n4 ≤ c4 := HJ9.out.rv.2.1
            have hpre : ∀ W : World, _ := fun W => eltT.run_pre A4 n4 c4 k (by omega) hcc W
            have hcut : ∀ W : World, _ := fun W => eltT.run_cut A4 n4 c4 k HKL.out hcc W
            have hba : Below wq.heap.size wq (wq.alloc (.cells #[] 73)) := (Below.refl _ _).alloc (Nat.le_refl _) _
            have c0 := (HJ9.out.next hba).b0.cell 0 rfl
            have HL0 : Hid (LstR 3 73 (wq.heap.size ≤ ·) (wq.alloc (.cells #[] 73)) (some ⟨wq.heap.size, 0, none⟩) 0 0 []) := Lib.hid (LstR.made 3 wq 73 #[] 0 0 [] (by simp) (Nat.le_refl _) (by simp) (Nat.zero_le _) (by simp) (fun i hi => by simp at hi))
            have hl0 := HL0.out.tight
            have hu1 := (HJ9.out.next hba).rv.rd.pre HKL.out
            have HNR := HN4.out
            rw [← flat_take rcl_len _ _ (by omega)] at hu1
            have HBA := Lib.hid hba
            clear hba HNR
            go_wp2_with (first
              | (refine wpList_append_lstR eltT rfl (.tmp 67) (.tmp 71) rfl rfl hl0 rfl hu1 (by omega) ?_
                 rintro v w7 hap
                 obtain ⟨A5, n5, c5, rfl, hl5'⟩ := hap.ex
                 obtain ⟨hl5, hb5⟩ := below_apdR (N := wq.heap.size) (by simp) HL0.out hap
                 have HL5 := Lib.hid (And.intro hl5 hb5)
                 have hn5 : n5 ≤ 1024 := by
                   have h1 := hl5.1
                   rw [List.nil_append, flat_len rcl_len, List.length_take] at h1
                   omega
                 have HB7 := Lib.hid (HBA.out.trans hb5)
                 have HJ7 := Lib.hid (HJ9.out.next HB7.out)
                 have hla7 := (hl5.alloc (.cells #[.int .i64 x, .int .i64 (m.now + n0), .int .i64 m.sets] 73)).tight
                 have hu7 := RdR.one w7 73 [.int .i64 x, .int .i64 (m.now + n0), .int .i64 m.sets] (by intro v hv; simp at hv; rcases hv with rfl | rfl | rfl <;> rfl)
                 clear hap hl5 hl5' hb5 hl0 hu1 c0)
              | (with_reducible refine at_load 73 (.tmp 8) (by rfl) ?_
                 refine wpList_load_bk rowT rfl (.tmp 8) rfl tb 0 rfl HJ7.out.bt [.int .i64 x, .int .i64 (m.now + n0), .int .i64 m.sets] rfl rfl ?_)
              | (refine wpList_build_row eltT rfl (.tmp 74) rfl (xs := [.int .i64 x, .int .i64 (m.now + n0), .int .i64 m.sets]) rfl rfl ?_)
              | (refine wpList_append_lstR eltT rfl (.tmp 73) (.tmp 75) rfl rfl hla7 rfl hu7 (by omega) ?_
                 rintro v w8 hap
                 obtain ⟨A6, n6, c6, rfl, hl6'⟩ := hap.ex
                 obtain ⟨hl6, hb6⟩ := below_apdR (N := wq.heap.size) (by have := HB7.out.size; simp; omega) (HL5.out.1.alloc _) hap
                 have HL6 := Lib.hid hl6
                 have hn6 : n6 ≤ 1025 := by
                   have h1 := hl6.1
                   rw [List.nil_append, List.length_append, flat_len rcl_len, List.length_take, List.length_cons, List.length_cons, List.length_cons, List.length_nil] at h1
                   omega
                 have HB8 := Lib.hid (HB7.out.trans (((Below.refl _ _).alloc HB7.out.size _).trans hb6))
                 have HJ8 := Lib.hid (HJ9.out.next HB8.out)
                 have c8 := HJ8.out.b0.cell 0 rfl
                 have hla8 := hl6.tight
                 have hu8 := HJ8.out.rv.rd.cut HKL.out
                 clear hap hl6 hl6' hb6 hla7 hu7)
              | (refine wpList_append_lstR eltT rfl (.tmp 77) (.tmp 81) rfl rfl hla8 rfl hu8 (by omega) ?_
                 rintro v w9 hap
                 obtain ⟨A7, n7, c7, rfl, hl7'⟩ := hap.ex
                 obtain ⟨hl7, hb7⟩ := below_apdR (N := wq.heap.size) HB8.out.size HL6.out hap
                 have HL7 := Lib.hid hl7
                 have HB9 := Lib.hid (HB8.out.trans hb7)
                 have HJT := Lib.hid (HJ9.out.next HB9.out)
                 have c9 := HJT.out.b0.cell 0 rfl
                 have f9 := HJT.out.b0.free 0
                 have HQ9 := Lib.hid (And.intro (HJT.out.b0.set 0 (.slice A7 n7 c7)) (HJT.out.b1.far (p := ⟨w.heap.size, 0, none⟩) (show w.heap.size + 1 ≠ w.heap.size by omega) (.slice A7 n7 c7)))
                 clear hap hl7 hl7' hb7 hla8 hu8 c8)
              | (with_reducible refine at_load 29 (.tmp 3) (by rfl) ?_
                 refine wpList_load_bk rowR rfl (.tmp 3) rfl w.heap.size 0 rfl HQ9.out.1 [.slice A7 n7 c7, .int .i64 m.most, .int .i64 m.now, .int .i64 (m.sets + 1)] rfl rfl ?_)
              | (with_reducible refine at_store 29 (.tmp 6) (.tmp 84) (by rfl) ?_
                 refine wpList_store_bk rowR rfl (.tmp 6) (.tmp 84) rfl (w.heap.size + 1) 0 rfl HQ9.out.2 [.slice A7 n7 c7, .int .i64 m.most, .int .i64 m.now, .int .i64 (m.sets + 1)] rfl rfl (by show 0 + 4 ≤ 4; omega) (by simp [Value.oneCell']) ?_
                 intro w3 hz3 hw3
                 rw [lay_all _ _ (by rfl)] at hz3))
            refine bodyPost_ret (results_cell_tmp rfl rfl (rowR.load hz3 0 (cs := [.slice A7 n7 c7, .int .i64 m.most, .int .i64 m.now, .int .i64 (m.sets + 1)]) rfl rfl)) rfl ?_
            rw [HV.out.1, HV.out.2]
            have hrow : RvL w9 A7 n7 c7 (ins (rem m.l x) ⟨x, m.now + n0, m.sets⟩) := by
              have h1 := HL7.out
              rw [List.nil_append, List.append_assoc, ← flat_drop rcl_len _ _ (by rw [← HN4.out]; exact HKL.out)] at h1
              unfold RvL
              rw [ins_eq, flat_app, ← HK.out]
              exact h1.mono fun _ _ => trivial
            have hsq := HJ9.out.sz
            have hfin : RvL w3 A7 n7 c7 (ins (rem m.l x) ⟨x, m.now + n0, m.sets⟩) := (hrow.st (p := w.heap.size) (St.setCell (F := (· = w.heap.size)) _ (a := ⟨w.heap.size, 0, none⟩) rfl (.slice A7 n7 c7)) HJT.out.b0.tyd (by decide)).st (st_wr hw3) HQ9.out.2.tyd (by decide)
            have hbf : Below w.heap.size w (w9.setCell ⟨w.heap.size, 0, none⟩ (.slice A7 n7 c7)) := (HJT.out.bl).trans ((Below.refl _ _).setCell (by simp) _)
            exact ⟨A7, n7, c7, rfl, hfin, hbf.trans ((st_wr hw3).below hbf.size (by rintro k rfl; omega))⟩
    · have HX : Hid (m.idx x = -1) := Lib.hid (idxV_no hx)
      rw [HX.out] at HF
      by_cases hml : m.most ≤ m.l.length
      · have hf : m.full x = true := by unfold Wm.full; rw [Wm.has_no hx, decide_eq_true hml]; rfl
        have HV := Lib.hid (Wm.set_full (m := m) (k := x) h1 hf)
        have hge : m.most ≤ (n : Int) := by rw [h.hn]; exact hml
        clear h1 h hok hnm q z hb hz hx hf hlen hml
        go_enter Try.func17, Try.ntmps17
        go_wp2_with (first
          | (with_reducible refine at_load 29 (.tmp 3) (by rfl) ?_
             refine wpList_load_bk rowR rfl (.tmp 3) rfl w.heap.size 0 rfl HQ.out.1 [.slice A n c, .int .i64 m.most, .int .i64 m.now, .int .i64 m.sets] rfl rfl ?_)
          | (go_at_call 32; refine HF.out.mono ?_; rintro e w2 ⟨rfl, hb2⟩
             have HQ2 := Lib.hid (And.intro (HQ.out.1.below hb2) (HQ.out.2.below hb2))
             have c0 := HQ2.out.1.cell 0 rfl
             have c1 := HQ2.out.1.cell 1 rfl
             have HB2 := Lib.hid hb2
             clear hb2)
          | (with_reducible refine at_load 29 (.tmp 3) (by rfl) ?_
             refine wpList_load_bk rowR rfl (.tmp 3) rfl w.heap.size 0 rfl HQ2.out.1 [.slice A n c, .int .i64 m.most, .int .i64 m.now, .int .i64 m.sets] rfl rfl ?_)
          | (with_reducible refine at_store 29 (.tmp 6) (.tmp 30) (by rfl) ?_
             refine wpList_store_bk rowR rfl (.tmp 6) (.tmp 30) rfl (w.heap.size + 1) 0 rfl HQ2.out.2 [.slice A n c, .int .i64 m.most, .int .i64 m.now, .int .i64 m.sets] rfl rfl (by show 0 + 4 ≤ 4; omega) (by simp [Value.oneCell']) ?_
             intro w3 hz3 hw3
             rw [lay_all _ _ (by rfl)] at hz3))
        refine bodyPost_ret (results_cell_tmp rfl rfl (rowR.load hz3 0 (cs := [.slice A n c, .int .i64 m.most, .int .i64 m.now, .int .i64 m.sets]) rfl rfl)) rfl ?_
        rw [HV.out.1, HV.out.2]
        exact r_set_triv HH.out (n0 := n0) (below_on HB.out HB2.out) (by rw [← HZ.out]; exact HB2.out.size) HQ2.out.2 hw3 _
      · have hf : m.full x = false := by unfold Wm.full; rw [decide_eq_false hml]; simp
        have HV := Lib.hid (Wm.set_yes (m := m) (k := x) h1 hf)
        have hge : (n : Int) < m.most := by rw [h.hn]; omega
        clear h1 h hok hnm q z hb hz hx hf hlen hml
        go_enter Try.func17, Try.ntmps17
        go_wp2_with (first
          | (with_reducible refine at_load 29 (.tmp 3) (by rfl) ?_
             refine wpList_load_bk rowR rfl (.tmp 3) rfl w.heap.size 0 rfl HQ.out.1 [.slice A n c, .int .i64 m.most, .int .i64 m.now, .int .i64 m.sets] rfl rfl ?_)
          | (go_at_call 32; refine HF.out.mono ?_; rintro e w2 ⟨rfl, hb2⟩
             have HQ2 := Lib.hid (And.intro (HQ.out.1.below hb2) (HQ.out.2.below hb2))
             have c0 := HQ2.out.1.cell 0 rfl
             have c1 := HQ2.out.1.cell 1 rfl
             have HB2 := Lib.hid (below_on HB.out hb2)
             have HZ2 := Lib.hid (show w.heap.size + 2 ≤ w2.heap.size by rw [← HZ.out]; exact hb2.size)
             have HDr := Lib.hid (r_drop (HH.out.below HB2.out) (by have := HNM.out.ln; omega) x)
             clear hb2)
          | (with_reducible refine at_load 29 (.tmp 3) (by rfl) ?_
             refine wpList_load_bk rowR rfl (.tmp 3) rfl w.heap.size 0 rfl HQ2.out.1 [.slice A n c, .int .i64 m.most, .int .i64 m.now, .int .i64 m.sets] rfl rfl ?_)
          | (go_at_call 11; refine HDr.out.mono ?_; rintro e w4 ⟨A4, n4, c4, rfl, hrv, hb4⟩
             have HR4 := Lib.hid hrv
             have HQ4 := Lib.hid (And.intro (HQ2.out.1.below hb4) (HQ2.out.2.below hb4))
             have HB4 := Lib.hid (And.intro (below_on HB2.out hb4) (Nat.le_trans HZ2.out hb4.size))
             clear hrv hb4 c0 c1)
          | (with_reducible refine at_store 29 (.tmp 3) (.tmp 35) (by rfl) ?_
             refine wpList_store_bk rowR rfl (.tmp 3) (.tmp 35) rfl w.heap.size 0 rfl HQ4.out.1 [.slice A4 n4 c4, .int .i64 m.most, .int .i64 m.now, .int .i64 m.sets] rfl rfl (by show 0 + 4 ≤ 4; omega) (by simp [Value.oneCell']) ?_
             intro w5 hz5 hw5
             rw [lay_all _ _ (by rfl)] at hz5
             have c2 := hz5.cell 2 rfl
             have c3 := hz5.cell 3 rfl
             have hz6 := hz5.alloc (.cells #[.int .i64 x, .int .i64 (m.now + n0), .int .i64 m.sets] 73)
             have c4' := hz6.cell 3 rfl
             have f4' := hz6.free 3
             have HSJ : Hid (SeJ m x (m.now + n0) w A4 n4 c4 w5.heap.size ((w5.alloc (.cells #[.int .i64 x, .int .i64 (m.now + n0), .int .i64 m.sets] 73)).setCell ⟨w.heap.size, 3, none⟩ (.int .i64 (m.sets + 1)))) := Lib.hid (by
               have hbw : Below w.heap.size w w5 := HB4.out.1.trans ((st_wr hw5).below HB4.out.1.size (by rintro k rfl; exact Nat.le_refl _))
               have hsz := Nat.le_trans HB4.out.2 hw5.size
               have hrv5 := HR4.out.st (st_wr hw5) HQ4.out.1.tyd (by decide)
               have hst : St (· = w.heap.size) (w5.alloc (.cells #[.int .i64 x, .int .i64 (m.now + n0), .int .i64 m.sets] 73)) ((w5.alloc (.cells #[.int .i64 x, .int .i64 (m.now + n0), .int .i64 m.sets] 73)).setCell ⟨w.heap.size, 3, none⟩ (.int .i64 (m.sets + 1))) := St.setCell (F := (· = w.heap.size)) _ (a := ⟨w.heap.size, 3, none⟩) rfl _
               exact ⟨hz6.set 3 _, ((HQ4.out.2.st (st_wr hw5) (show ¬ w.heap.size + 1 = w.heap.size by omega)).alloc _).far (p := ⟨w.heap.size, 3, none⟩) (show w.heap.size + 1 ≠ w.heap.size by omega) _, (Bk.new w5 73 [.int .i64 x, .int .i64 (m.now + n0), .int .i64 m.sets]).far (p := ⟨w.heap.size, 3, none⟩) (show w5.heap.size ≠ w.heap.size by omega) _, (hrv5.below ((Below.refl _ _).alloc (Nat.le_refl _) _)).st hst hz6.tyd (by decide), hbw.trans (((Below.refl _ _).alloc hbw.size _).trans ((Below.refl _ _).setCell (by simp) _)), by simp [World.setCell]; omega⟩)
             clear hz5 hw5 hz6 HQ4))
        generalize ((w5.alloc (.cells #[.int .i64 x, .int .i64 (m.now + n0), .int .i64 m.sets] 73)).setCell ⟨w.heap.size, 3, none⟩ (.int .i64 (m.sets + 1))) = w6 at *
        clear c2 c3 c4' f4'
        generalize htb : w5.heap.size = tb at *
        clear htb
        obtain ⟨k, hk⟩ : ∃ k, k = (low (rem m.l x) (m.now + n0)).length := ⟨_, rfl⟩
        have HK := Lib.hid hk
        have hkl : k ≤ n4 := by
          have h1 := low_le (rem m.l x) (m.now + n0)
          have h2 := HSJ.out.rv.hn
          omega
        have HN4 := Lib.hid HSJ.out.rv.hn
        have hn4 : n4 ≤ 1024 := by
          have h1 := (rem_sub m.l x).length_le
          have h2 := HNM.out.ln
          have h3 := HN4.out
          omega
        have HKL := Lib.hid hkl
        have HSo : Hid (Srt (rem m.l x)) := Lib.hid (Wm.drop_ok HOK.out x).so
        clear hk
        go_loopw [9] (fun i W => ∃ j : Nat, j ≤ k ∧ i = .int .i64 j ∧ SeJ m x (m.now + n0) w A4 n4 c4 tb W) (fun i _ => k - (intOf i).toNat)
        case atStart => exact ⟨0, Nat.zero_le _, rfl, HSJ.out⟩
        case round =>
          obtain ⟨j, hj, rfl, hJ⟩ := hrel
          have c0 := hJ.b0.cell 0 rfl
          have ct := hJ.bt.cell 1 rfl
          by_cases hlt : j < k
          · have hjl : j < (rem m.l x).length := by rw [← HN4.out]; omega
            obtain ⟨g1, o, rfl, hg1, hra⟩ := hJ.rv.row hjl
            have d1 := hra 1 (.int .i64 (rem m.l x)[j].d) rfl
            have hle : (rem m.l x)[j].d ≤ m.now + n0 := by
              have h1 := low_at HSo.out (m.now + n0) hjl
              rw [decide_eq_false (show ¬ (low (rem m.l x) (m.now + n0)).length ≤ j by have := HK.out; omega)] at h1
              have := of_decide_eq_false h1
              omega
            have hjn : (j : Int) < n4 := by omega
            have hjp : j < n4 := by omega
            have hg0 : decide (j < n4) = true := decide_eq_true hjp
            have hj1 : j ≤ 1024 := by omega
            have HJ := Lib.hid hJ
            generalize (rem m.l x)[j].d = dd at *
            clear hJ hra
            go_wp2_with fail
            go_quiet (fail)
            go_wp2
            go_roundw
            case rel => exact ⟨j + 1, by omega, by go_num, HJ.out.next (Below.drewN_ wr nq)⟩
            case measure => simp [intOf]; omega
          · obtain rfl : k = j := by omega
            by_cases hkn : k < n4
            · have hjl : k < (rem m.l x).length := by rw [← HN4.out]; omega
              obtain ⟨g1, o, rfl, hg1, hra⟩ := hJ.rv.row hjl
              have d1 := hra 1 (.int .i64 (rem m.l x)[k].d) rfl
              have hle : m.now + n0 < (rem m.l x)[k].d := by
                have h1 := low_at HSo.out (m.now + n0) hjl
                rw [decide_eq_true (show (low (rem m.l x) (m.now + n0)).length ≤ k by have := HK.out; omega)] at h1
                exact of_decide_eq_true h1
              have hjn : (k : Int) < n4 := by omega
              have hg0 : decide (k < n4) = true := decide_eq_true hkn
              have hj1 : k ≤ 1024 := by omega
              have HJ := Lib.hid hJ
              generalize (rem m.l x)[k].d = dd at *
              clear hJ hra hlt
              go_wp2_with fail
              go_quiet (fail)
              have HJ9 := Lib.hid (HJ.out.next (Below.drewN_ wr nq))
              clear d1 c0 ct
              generalize wr.drewN nq = wq at *
              have hcc : n4 ≤ c4 := HJ9.out.rv.2.1
              have hpre : ∀ W : World, _ := fun W => eltT.run_pre (some ⟨g1, o, none⟩) n4 c4 k (by omega) hcc W
              have hcut : ∀ W : World, _ := fun W => eltT.run_cut (some ⟨g1, o, none⟩) n4 c4 k HKL.out hcc W
              have hba : Below wq.heap.size wq (wq.alloc (.cells #[] 73)) := (Below.refl _ _).alloc (Nat.le_refl _) _
              have c0 := (HJ9.out.next hba).b0.cell 0 rfl
              have HL0 : Hid (LstR 3 73 (wq.heap.size ≤ ·) (wq.alloc (.cells #[] 73)) (some ⟨wq.heap.size, 0, none⟩) 0 0 []) := Lib.hid (LstR.made 3 wq 73 #[] 0 0 [] (by simp) (Nat.le_refl _) (by simp) (Nat.zero_le _) (by simp) (fun i hi => by simp at hi))
              have hl0 := HL0.out.tight
              have hu1 := (HJ9.out.next hba).rv.rd.pre HKL.out
              have HNR := HN4.out
              rw [← flat_take rcl_len _ _ (by omega)] at hu1
              have HBA := Lib.hid hba
              clear hba HNR
              go_wp2_with (first
                | (refine wpList_append_lstR eltT rfl (.tmp 67) (.tmp 71) rfl rfl hl0 rfl hu1 (by omega) ?_
                   rintro v w7 hap
                   obtain ⟨A5, n5, c5, rfl, hl5'⟩ := hap.ex
                   obtain ⟨hl5, hb5⟩ := below_apdR (N := wq.heap.size) (by simp) HL0.out hap
                   have HL5 := Lib.hid (And.intro hl5 hb5)
                   have hn5 : n5 ≤ 1024 := by
                     have h1 := hl5.1
                     rw [List.nil_append, flat_len rcl_len, List.length_take] at h1
                     omega
                   have HB7 := Lib.hid (HBA.out.trans hb5)
                   have HJ7 := Lib.hid (HJ9.out.next HB7.out)
                   have hla7 := (hl5.alloc (.cells #[.int .i64 x, .int .i64 (m.now + n0), .int .i64 m.sets] 73)).tight
                   have hu7 := RdR.one w7 73 [.int .i64 x, .int .i64 (m.now + n0), .int .i64 m.sets] (by intro v hv; simp at hv; rcases hv with rfl | rfl | rfl <;> rfl)
                   clear hap hl5 hl5' hb5 hl0 hu1 c0)
                | (with_reducible refine at_load 73 (.tmp 8) (by rfl) ?_
                   refine wpList_load_bk rowT rfl (.tmp 8) rfl tb 0 rfl HJ7.out.bt [.int .i64 x, .int .i64 (m.now + n0), .int .i64 m.sets] rfl rfl ?_)
                | (refine wpList_build_row eltT rfl (.tmp 74) rfl (xs := [.int .i64 x, .int .i64 (m.now + n0), .int .i64 m.sets]) rfl rfl ?_)
                | (refine wpList_append_lstR eltT rfl (.tmp 73) (.tmp 75) rfl rfl hla7 rfl hu7 (by omega) ?_
                   rintro v w8 hap
                   obtain ⟨A6, n6, c6, rfl, hl6'⟩ := hap.ex
                   obtain ⟨hl6, hb6⟩ := below_apdR (N := wq.heap.size) (by have := HB7.out.size; simp; omega) (HL5.out.1.alloc _) hap
                   have HL6 := Lib.hid hl6
                   have hn6 : n6 ≤ 1025 := by
                     have h1 := hl6.1
                     rw [List.nil_append, List.length_append, flat_len rcl_len, List.length_take, List.length_cons, List.length_cons, List.length_cons, List.length_nil] at h1
                     omega
                   have HB8 := Lib.hid (HB7.out.trans (((Below.refl _ _).alloc HB7.out.size _).trans hb6))
                   have HJ8 := Lib.hid (HJ9.out.next HB8.out)
                   have c8 := HJ8.out.b0.cell 0 rfl
                   have hla8 := hl6.tight
                   have hu8 := HJ8.out.rv.rd.cut HKL.out
                   clear hap hl6 hl6' hb6 hla7 hu7)
                | (refine wpList_append_lstR eltT rfl (.tmp 77) (.tmp 81) rfl rfl hla8 rfl hu8 (by omega) ?_
                   rintro v w9 hap
                   obtain ⟨A7, n7, c7, rfl, hl7'⟩ := hap.ex
                   obtain ⟨hl7, hb7⟩ := below_apdR (N := wq.heap.size) HB8.out.size HL6.out hap
                   have HL7 := Lib.hid hl7
                   have HB9 := Lib.hid (HB8.out.trans hb7)
                   have HJT := Lib.hid (HJ9.out.next HB9.out)
                   have c9 := HJT.out.b0.cell 0 rfl
                   have f9 := HJT.out.b0.free 0
                   have HQ9 := Lib.hid (And.intro (HJT.out.b0.set 0 (.slice A7 n7 c7)) (HJT.out.b1.far (p := ⟨w.heap.size, 0, none⟩) (show w.heap.size + 1 ≠ w.heap.size by omega) (.slice A7 n7 c7)))
                   clear hap hl7 hl7' hb7 hla8 hu8 c8)
                | (with_reducible refine at_load 29 (.tmp 3) (by rfl) ?_
                   refine wpList_load_bk rowR rfl (.tmp 3) rfl w.heap.size 0 rfl HQ9.out.1 [.slice A7 n7 c7, .int .i64 m.most, .int .i64 m.now, .int .i64 (m.sets + 1)] rfl rfl ?_)
                | (with_reducible refine at_store 29 (.tmp 6) (.tmp 84) (by rfl) ?_
                   refine wpList_store_bk rowR rfl (.tmp 6) (.tmp 84) rfl (w.heap.size + 1) 0 rfl HQ9.out.2 [.slice A7 n7 c7, .int .i64 m.most, .int .i64 m.now, .int .i64 (m.sets + 1)] rfl rfl (by show 0 + 4 ≤ 4; omega) (by simp [Value.oneCell']) ?_
                   intro w3 hz3 hw3
                   rw [lay_all _ _ (by rfl)] at hz3))
              refine bodyPost_ret (results_cell_tmp rfl rfl (rowR.load hz3 0 (cs := [.slice A7 n7 c7, .int .i64 m.most, .int .i64 m.now, .int .i64 (m.sets + 1)]) rfl rfl)) rfl ?_
              rw [HV.out.1, HV.out.2]
              have hrow : RvL w9 A7 n7 c7 (ins (rem m.l x) ⟨x, m.now + n0, m.sets⟩) := by
                have h1 := HL7.out
                rw [List.nil_append, List.append_assoc, ← flat_drop rcl_len _ _ (by rw [← HN4.out]; exact HKL.out)] at h1
                unfold RvL
                rw [ins_eq, flat_app, ← HK.out]
                exact h1.mono fun _ _ => trivial
              have hsq := HJ9.out.sz
              have hfin : RvL w3 A7 n7 c7 (ins (rem m.l x) ⟨x, m.now + n0, m.sets⟩) := (hrow.st (p := w.heap.size) (St.setCell (F := (· = w.heap.size)) _ (a := ⟨w.heap.size, 0, none⟩) rfl (.slice A7 n7 c7)) HJT.out.b0.tyd (by decide)).st (st_wr hw3) HQ9.out.2.tyd (by decide)
              have hbf : Below w.heap.size w (w9.setCell ⟨w.heap.size, 0, none⟩ (.slice A7 n7 c7)) := (HJT.out.bl).trans ((Below.refl _ _).setCell (by simp) _)
              exact ⟨A7, n7, c7, rfl, hfin, hbf.trans ((st_wr hw3).below hbf.size (by rintro k rfl; omega))⟩
            · have hg0 : decide (k < n4) = false := decide_eq_false hkn
              have hj1 : k ≤ 1024 := by omega
              have HJ := Lib.hid hJ
              clear hJ hlt
              go_wp2_with fail
              go_quiet (fail)
              have HJ9 := Lib.hid (HJ.out.next (Below.drewN_ wr nq))
              clear c0 ct
              generalize wr.drewN nq = wq at *
              have hcc : n4 ≤ c4 := HJ9.out.rv.2.1
              have hpre : ∀ W : World, _ := fun W => eltT.run_pre A4 n4 c4 k (by omega) hcc W
              have hcut : ∀ W : World, _ := fun W => eltT.run_cut A4 n4 c4 k HKL.out hcc W
              have hba : Below wq.heap.size wq (wq.alloc (.cells #[] 73)) := (Below.refl _ _).alloc (Nat.le_refl _) _
              have c0 := (HJ9.out.next hba).b0.cell 0 rfl
              have HL0 : Hid (LstR 3 73 (wq.heap.size ≤ ·) (wq.alloc (.cells #[] 73)) (some ⟨wq.heap.size, 0, none⟩) 0 0 []) := Lib.hid (LstR.made 3 wq 73 #[] 0 0 [] (by simp) (Nat.le_refl _) (by simp) (Nat.zero_le _) (by simp) (fun i hi => by simp at hi))
              have hl0 := HL0.out.tight
              have hu1 := (HJ9.out.next hba).rv.rd.pre HKL.out
              have HNR := HN4.out
              rw [← flat_take rcl_len _ _ (by omega)] at hu1
              have HBA := Lib.hid hba
              clear hba HNR
              go_wp2_with (first
                | (refine wpList_append_lstR eltT rfl (.tmp 67) (.tmp 71) rfl rfl hl0 rfl hu1 (by omega) ?_
                   rintro v w7 hap
                   obtain ⟨A5, n5, c5, rfl, hl5'⟩ := hap.ex
                   obtain ⟨hl5, hb5⟩ := below_apdR (N := wq.heap.size) (by simp) HL0.out hap
                   have HL5 := Lib.hid (And.intro hl5 hb5)
                   have hn5 : n5 ≤ 1024 := by
                     have h1 := hl5.1
                     rw [List.nil_append, flat_len rcl_len, List.length_take] at h1
                     omega
                   have HB7 := Lib.hid (HBA.out.trans hb5)
                   have HJ7 := Lib.hid (HJ9.out.next HB7.out)
                   have hla7 := (hl5.alloc (.cells #[.int .i64 x, .int .i64 (m.now + n0), .int .i64 m.sets] 73)).tight
                   have hu7 := RdR.one w7 73 [.int .i64 x, .int .i64 (m.now + n0), .int .i64 m.sets] (by intro v hv; simp at hv; rcases hv with rfl | rfl | rfl <;> rfl)
                   clear hap hl5 hl5' hb5 hl0 hu1 c0)
                | (with_reducible refine at_load 73 (.tmp 8) (by rfl) ?_
                   refine wpList_load_bk rowT rfl (.tmp 8) rfl tb 0 rfl HJ7.out.bt [.int .i64 x, .int .i64 (m.now + n0), .int .i64 m.sets] rfl rfl ?_)
                | (refine wpList_build_row eltT rfl (.tmp 74) rfl (xs := [.int .i64 x, .int .i64 (m.now + n0), .int .i64 m.sets]) rfl rfl ?_)
                | (refine wpList_append_lstR eltT rfl (.tmp 73) (.tmp 75) rfl rfl hla7 rfl hu7 (by omega) ?_
                   rintro v w8 hap
                   obtain ⟨A6, n6, c6, rfl, hl6'⟩ := hap.ex
                   obtain ⟨hl6, hb6⟩ := below_apdR (N := wq.heap.size) (by have := HB7.out.size; simp; omega) (HL5.out.1.alloc _) hap
                   have HL6 := Lib.hid hl6
                   have hn6 : n6 ≤ 1025 := by
                     have h1 := hl6.1
                     rw [List.nil_append, List.length_append, flat_len rcl_len, List.length_take, List.length_cons, List.length_cons, List.length_cons, List.length_nil] at h1
                     omega
                   have HB8 := Lib.hid (HB7.out.trans (((Below.refl _ _).alloc HB7.out.size _).trans hb6))
                   have HJ8 := Lib.hid (HJ9.out.next HB8.out)
                   have c8 := HJ8.out.b0.cell 0 rfl
                   have hla8 := hl6.tight
                   have hu8 := HJ8.out.rv.rd.cut HKL.out
                   clear hap hl6 hl6' hb6 hla7 hu7)
                | (refine wpList_append_lstR eltT rfl (.tmp 77) (.tmp 81) rfl rfl hla8 rfl hu8 (by omega) ?_
                   rintro v w9 hap
                   obtain ⟨A7, n7, c7, rfl, hl7'⟩ := hap.ex
                   obtain ⟨hl7, hb7⟩ := below_apdR (N := wq.heap.size) HB8.out.size HL6.out hap
                   have HL7 := Lib.hid hl7
                   have HB9 := Lib.hid (HB8.out.trans hb7)
                   have HJT := Lib.hid (HJ9.out.next HB9.out)
                   have c9 := HJT.out.b0.cell 0 rfl
                   have f9 := HJT.out.b0.free 0
                   have HQ9 := Lib.hid (And.intro (HJT.out.b0.set 0 (.slice A7 n7 c7)) (HJT.out.b1.far (p := ⟨w.heap.size, 0, none⟩) (show w.heap.size + 1 ≠ w.heap.size by omega) (.slice A7 n7 c7)))
                   clear hap hl7 hl7' hb7 hla8 hu8 c8)
                | (with_reducible refine at_load 29 (.tmp 3) (by rfl) ?_
                   refine wpList_load_bk rowR rfl (.tmp 3) rfl w.heap.size 0 rfl HQ9.out.1 [.slice A7 n7 c7, .int .i64 m.most, .int .i64 m.now, .int .i64 (m.sets + 1)] rfl rfl ?_)
                | (with_reducible refine at_store 29 (.tmp 6) (.tmp 84) (by rfl) ?_
                   refine wpList_store_bk rowR rfl (.tmp 6) (.tmp 84) rfl (w.heap.size + 1) 0 rfl HQ9.out.2 [.slice A7 n7 c7, .int .i64 m.most, .int .i64 m.now, .int .i64 (m.sets + 1)] rfl rfl (by show 0 + 4 ≤ 4; omega) (by simp [Value.oneCell']) ?_
                   intro w3 hz3 hw3
                   rw [lay_all _ _ (by rfl)] at hz3))
              refine bodyPost_ret (results_cell_tmp rfl rfl (rowR.load hz3 0 (cs := [.slice A7 n7 c7, .int .i64 m.most, .int .i64 m.now, .int .i64 (m.sets + 1)]) rfl rfl)) rfl ?_
              rw [HV.out.1, HV.out.2]
              have hrow : RvL w9 A7 n7 c7 (ins (rem m.l x) ⟨x, m.now + n0, m.sets⟩) := by
                have h1 := HL7.out
                rw [List.nil_append, List.append_assoc, ← flat_drop rcl_len _ _ (by rw [← HN4.out]; exact HKL.out)] at h1
                unfold RvL
                rw [ins_eq, flat_app, ← HK.out]
                exact h1.mono fun _ _ => trivial
              have hsq := HJ9.out.sz
              have hfin : RvL w3 A7 n7 c7 (ins (rem m.l x) ⟨x, m.now + n0, m.sets⟩) := (hrow.st (p := w.heap.size) (St.setCell (F := (· = w.heap.size)) _ (a := ⟨w.heap.size, 0, none⟩) rfl (.slice A7 n7 c7)) HJT.out.b0.tyd (by decide)).st (st_wr hw3) HQ9.out.2.tyd (by decide)
              have hbf : Below w.heap.size w (w9.setCell ⟨w.heap.size, 0, none⟩ (.slice A7 n7 c7)) := (HJT.out.bl).trans ((Below.refl _ _).setCell (by simp) _)
              exact ⟨A7, n7, c7, rfl, hfin, hbf.trans ((st_wr hw3).below hbf.size (by rintro k rfl; omega))⟩
end
end Go.Proofs.Ytainmpeiicinmaa.Wi
