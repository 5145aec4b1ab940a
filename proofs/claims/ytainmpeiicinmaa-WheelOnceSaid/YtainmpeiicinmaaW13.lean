/- The document's wheel: a timer taken out; ticks. -/
import Derived.Test.YtainmpeiicinmaaW12
set_option linter.unusedSimpArgs false
set_option linter.unusedVariables false
set_option maxRecDepth 100000
namespace Go.Proofs.Ytainmpeiicinmaa.Wi
open Go.RowKit Go.Shelf
/-- A wheel of the document's, and what was told. -/
def RtW (m : Wm Int) (x : Value) (w : World) (e : Ending) (w' : World) : Prop := ∃ A n c, e = .returned (.tuple #[.agg #[.slice A n c, .int .i64 m.most, .int .i64 m.now, .int .i64 m.sets], x]) ∧ RvL w' A n c m.l ∧ Below w.heap.size w w'
theorem rem_take {l : List (Tm Int)} {k : Int} {j : Nat} (h : j < l.length) : flat rcl (rem (l.take (j + 1)) k) = flat rcl (rem (l.take j) k) ++ (if l[j].k = k then [] else rcl l[j]) := by
  rw [List.take_add_one, List.getElem?_eq_getElem h]
  unfold rem
  rw [List.filter_append, flat_app]
  congr 1
  by_cases he : l[j].k = k
  · rw [if_pos he]
    simp [he, flat]
  · rw [if_neg he]
    simp [he, flat]
section
variable {w w' w1 w2 : World} {g p : Nat} {m m' : Wm Int} {l : List (Tm Int)} {A : Option Addr} {n c : Nat} {T : TypeId}
theorem Bk.keepL {W W' : World} {t : TypeId} {g N : Nat} {vs : List Value} (h : Bk W t g vs) (hg : g < N) (hb : Below N W W') : Bk W' t g vs := (hb.block g hg).trans h
set_option maxHeartbeats 2000000 in
theorem r_drop (h : RvL w A n c m.l) (hlen : m.l.length ≤ 2000) (x : Int) : Calls Try.prog 11 #[.agg #[.slice A n c, .int .i64 m.most, .int .i64 m.now, .int .i64 m.sets], .int .i64 x] w (RtW (m.drop x) (.bool (m.has x)) w) := by
  obtain ⟨q, z, hb⟩ := bx2 w m A n c
  have H := Lib.hid (And.intro (h.below hb) (And.intro q z))
  have HN := Lib.hid h.hn
  have hnb : n ≤ 2000 := by rw [h.hn]; exact hlen
  have HLN := Lib.hid hlen
  have HB := Lib.hid hb
  have c0 := q.cell 0 rfl
  have hz : ((w.alloc (.cells #[.slice A n c, .int .i64 m.most, .int .i64 m.now, .int .i64 m.sets] 29)).alloc (.cells #[.slice none 0 0, .int .i64 0, .int .i64 0, .int .i64 0] 29)).heap.size = w.heap.size + 2 := by simp
  clear h hb q z hlen
  go_enter Try.func11, Try.ntmps11
  go_wp2
  obtain ⟨w1, hw1⟩ : ∃ w1, w1 = (w.alloc (.cells #[.slice A n c, .int .i64 m.most, .int .i64 m.now, .int .i64 m.sets] 29)).alloc (.cells #[.slice none 0 0, .int .i64 0, .int .i64 0, .int .i64 0] 29) := ⟨_, rfl⟩
  rw [← hw1] at H HB hz c0 ⊢
  clear hw1
  go_loopw [6, 7] (fun s i W => ∃ j : Nat, j ≤ n ∧ i = .int .i64 j ∧ ∃ A' n' c', s = .slice A' n' c' ∧ LstR 3 73 (w1.heap.size ≤ ·) W A' n' c' (flat rcl (rem (m.l.take j) x)) ∧ Below w1.heap.size w1 W) (fun s i _ => n - (intOf i).toNat)
  case atStart => exact ⟨0, Nat.zero_le _, rfl, none, 0, 0, rfl, LstR.nil _ _ _ _, Below.refl _ _⟩
  case round =>
    clear c0
    obtain ⟨j, hj, rfl, A', n', c', rfl, hl, hb⟩ := hrel
    have c0 := (H.out.2.1.below hb).cell 0 rfl
    by_cases hlt : j < n
    · have hjl : j < m.l.length := by rw [← HN.out]; exact hlt
      obtain ⟨g1, o, rfl, hg1, hra⟩ := (H.out.1.below hb).row hjl
      have d0 := hra 0 (.int .i64 m.l[j].k) rfl
      rw [Nat.add_zero] at d0
      have hlt' : (j : Int) < n := by omega
      have HK := Lib.hid (rem_take (k := x) hjl)
      have HL := Lib.hid (And.intro hl hb)
      by_cases hx : m.l[j].k = x
      · rw [if_pos hx, List.append_nil] at HK
        rw [hx] at d0
        clear hra hl hb hx
        go_wp2
        go_roundw
        case rel => exact ⟨j + 1, by omega, by go_num, A', n', c', rfl, by rw [HK.out]; exact HL.out.1, HL.out.2⟩
        case measure => simp [intOf]; omega
      · rw [if_neg hx] at HK
        have hn' : n' ≤ 2000 := by
          have h1 := hl.1
          rw [flat_len rcl_len] at h1
          have h2 := (rem_sub (m.l.take j) x).length_le
          rw [List.length_take] at h2
          omega
        have hla := (hl.alloc (.cells #[.int .i64 m.l[j].k, .int .i64 m.l[j].d, .int .i64 m.l[j].s] 73)).tight
        have hu := RdR.one wr 73 (rcl m.l[j]) (rcl_one _)
        have HC : Hid (rcl m.l[j] = [.int .i64 m.l[j].k, .int .i64 m.l[j].d, .int .i64 m.l[j].s]) := Lib.hid rfl
        generalize hcs : rcl m.l[j] = cs at *
        generalize m.l[j].k = y at *
        generalize m.l[j].d = z at *
        generalize m.l[j].s = u at *
        have hcs' := HC.out
        subst hcs'
        clear hl hb hcs
        go_wp2_with (first
          | (with_reducible refine at_load 73 (.tmp 28) (by rfl) ?_
             refine wpList_load_row rowT rfl (.tmp 28) rfl rfl [.int .i64 y, .int .i64 z, .int .i64 u] hra rfl ?_
             clear hra)
          | (refine wpList_build_row eltT rfl (.tmp 29) rfl (xs := [.int .i64 y, .int .i64 z, .int .i64 u]) rfl rfl ?_)
          | (refine wpList_append_lstR eltT rfl (.tmp 24) (.tmp 30) rfl rfl hla rfl hu (by omega) ?_
             rintro v w3 hap
             obtain ⟨A3, n3, c3, rfl, hl3⟩ := hap.ex
             have HAP := Lib.hid hap
             clear hap hl3 hla hu))
        go_roundw
        case rel =>
          obtain ⟨k1, k2⟩ := below_apdR (by have := HL.out.2.size; simp; omega) (HL.out.1.alloc _) HAP.out
          exact ⟨j + 1, by omega, by go_num, A3, n3, c3, rfl, by rw [HK.out]; exact k1, (HL.out.2.trans ((Below.refl _ _).alloc HL.out.2.size _)).trans k2⟩
        case measure => simp [intOf]; omega
    · obtain rfl : n = j := by omega
      have HL := Lib.hid (And.intro hl hb)
      have q0 := H.out.2.1.below hb
      have HQ := Lib.hid (And.intro q0 (H.out.2.2.below hb))
      have HF := Lib.hid (r_find (m := m) (H.out.1.below hb) HLN.out x)
      have HV : Hid (decide (0 ≤ m.idx x) = m.has x) := Lib.hid (by
        by_cases hx : x ∈ m.l.map Tm.k
        · obtain ⟨i, hi, hix, hki⟩ := idxV_yes hx
          rw [Wm.has_yes hx, show m.idx x = (i : Int) from hix]
          exact decide_eq_true (by omega)
        · rw [Wm.has_no hx, show m.idx x = -1 from idxV_no hx]
          rfl)
      clear hl hb q0
      go_wp2_with (first
        | (with_reducible refine at_load 29 (.tmp 2) (by rfl) ?_
           refine wpList_load_bk rowR rfl (.tmp 2) rfl w.heap.size 0 rfl HQ.out.1 [.slice A n c, .int .i64 m.most, .int .i64 m.now, .int .i64 m.sets] rfl rfl ?_)
        | (go_at_call 32; refine HF.out.mono ?_; rintro e w2 ⟨rfl, hb2⟩
           have q2 := HQ.out.1.below hb2
           have c0 := q2.cell 0 rfl
           have f0 := q2.free 0
           have HQ2 := Lib.hid (And.intro (q2.set 0 (.slice A' n' c')) ((HQ.out.2.below hb2).far (p := ⟨w.heap.size, 0, none⟩) (show w.heap.size + 1 ≠ w.heap.size by omega) (.slice A' n' c')))
           have HB2 := Lib.hid hb2
           clear hb2 q2)
        | (with_reducible refine at_load 29 (.tmp 2) (by rfl) ?_
           refine wpList_load_bk rowR rfl (.tmp 2) rfl w.heap.size 0 rfl HQ2.out.1 [.slice A' n' c', .int .i64 m.most, .int .i64 m.now, .int .i64 m.sets] rfl rfl ?_)
        | (with_reducible refine at_store 29 (.tmp 4) (.tmp 38) (by rfl) ?_
           refine wpList_store_bk rowR rfl (.tmp 4) (.tmp 38) rfl (w.heap.size + 1) 0 rfl HQ2.out.2 [.slice A' n' c', .int .i64 m.most, .int .i64 m.now, .int .i64 m.sets] rfl rfl (by show 0 + 4 ≤ 4; omega) (by simp [Value.oneCell']) ?_
           intro w3 hz3 hw3
           rw [lay_all _ _ (by rfl)] at hz3))
      refine bodyPost_ret (results_cell_tmp rfl rfl (rowR.load hz3 0 (cs := [.slice A' n' c', .int .i64 m.most, .int .i64 m.now, .int .i64 m.sets]) rfl rfl)) rfl ?_
      have hst := (HL.out.1.below HB2.out)
      have hb9 := HL.out.2.trans (HB2.out.mono HL.out.2.size)
      have hbs : Below w.heap.size w1 ((w2.setCell ⟨w.heap.size, 0, none⟩ (.slice A' n' c'))) := (hb9.mono (by omega)).trans ((Below.refl _ _).setCell (by simp) _)
      refine ⟨A', n', c', by rw [HV.out]; rfl, ?_, HB.out.trans (hbs.trans ((st_wr hw3).below (by have := hbs.size; omega) (by rintro k rfl; omega)))⟩
      have h5 : RvL ((w2.setCell ⟨w.heap.size, 0, none⟩ (.slice A' n' c'))) A' n' c' (rem m.l x) := by
        have h6 := hst.far (p := ⟨w.heap.size, 0, none⟩) (fun ad he => by have := (hst.blk ad he).1; simp; omega) (.slice A' n' c')
        rw [List.take_of_length_le (by rw [HN.out]; exact Nat.le_refl _)] at h6
        exact h6.mono fun _ _ => trivial
      exact h5.st (st_wr hw3) HQ2.out.2.tyd (by decide)
end
end Go.Proofs.Ytainmpeiicinmaa.Wi
