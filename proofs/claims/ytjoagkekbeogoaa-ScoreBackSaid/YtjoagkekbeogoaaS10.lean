/- The reference of scores: Clear, Tick. -/
import Derived.Test.YtjoagkekbeogoaaS9
set_option linter.unusedSimpArgs false
set_option linter.unusedVariables false
namespace Go.Proofs.Ytjoagkekbeogoaa
open Go.RowKit Go.Shelf

/-- The first k paths without counts. -/
def Sc.clrK (S : Sc) (k j : Nat) : Int := if j / 4 < k ∧ j % 4 ≠ 0 then 0 else S.row j
theorem clrK_zero (S : Sc) (m : Nat) : tabV m (S.clrK 0) = tabV m S.row := tabV_congr fun i _ => by unfold Sc.clrK; rw [if_neg (by omega)]
theorem clrK_succ (S : Sc) (tl : List Value) {k : Nat} (hk : k < S.n) : lay (tabV (S.n * 4) (S.clrK k) ++ tl) (k * 4 + 1) (tabV 3 (fun _ => 0)) = tabV (S.n * 4) (S.clrK (k + 1)) ++ tl := by
  rw [tabV_lay_app _ _ _ _ _ (by omega)]
  congr 1
  refine tabV_congr fun i hi => ?_
  unfold Sc.clrK
  by_cases h1 : k * 4 + 1 ≤ i ∧ i < k * 4 + 1 + 3
  · rw [if_pos h1, if_pos (by omega)]
  · rw [if_neg h1]
    by_cases h2 : i / 4 < k ∧ i % 4 ≠ 0
    · rw [if_pos h2, if_pos (by omega)]
    · rw [if_neg h2, if_neg (by omega)]
theorem clrK_all (S : Sc) : tabV (S.n * 4) (S.clrK S.n) = tabV (S.clear.n * 4) S.clear.row := by
  refine tabV_congr fun i hi => ?_
  unfold Sc.clrK Sc.row
  by_cases h1 : i % 4 = 0
  · rw [if_neg (by omega), if_pos h1, if_pos h1]; rfl
  · rw [if_pos (by omega), if_neg h1]; rfl
/-- The first k paths a tick later. -/
def Sc.tkK (S : Sc) (k j : Nat) : Int := if j % 4 = 0 ∧ j / 4 < k ∧ 0 < S.r (j / 4) then S.r (j / 4) - 1 else S.row j
theorem tkK_zero (S : Sc) (m : Nat) : tabV m (S.tkK 0) = tabV m S.row := tabV_congr fun i _ => by unfold Sc.tkK; rw [if_neg (by omega)]
theorem tkK_at (S : Sc) (k : Nat) : S.tkK k (k * 4) = S.r k := by unfold Sc.tkK; rw [if_neg (by omega), row_r]
theorem tkK_same (S : Sc) {k : Nat} (h : ¬ 0 < S.r k) (m : Nat) : tabV m (S.tkK (k + 1)) = tabV m (S.tkK k) := by
  refine tabV_congr fun i hi => ?_
  unfold Sc.tkK
  by_cases h1 : i % 4 = 0 ∧ i / 4 < k ∧ 0 < S.r (i / 4)
  · rw [if_pos h1, if_pos (by omega)]
  · rw [if_neg h1, if_neg]
    rintro ⟨h2, h3, h4⟩
    by_cases h5 : i / 4 = k
    · rw [h5] at h4; exact h h4
    · exact h1 ⟨h2, by omega, h4⟩
theorem tkK_succ (S : Sc) (tl : List Value) {k : Nat} (hk : k < S.n) (h : 0 < S.r k) : (tabV (S.n * 4) (S.tkK k) ++ tl).set (k * 4) (.int .i64 (S.r k - 1)) = tabV (S.n * 4) (S.tkK (k + 1)) ++ tl := by
  rw [tabV_set_app _ _ _ (by omega)]
  congr 1
  refine tabV_congr fun i hi => ?_
  unfold up Sc.tkK
  by_cases h1 : i = k * 4
  · subst h1
    have h2 : k * 4 / 4 = k := by omega
    rw [if_pos rfl, if_pos (by rw [h2]; exact ⟨by omega, by omega, h⟩), h2]
  · rw [if_neg h1]
    by_cases h2 : i % 4 = 0 ∧ i / 4 < k ∧ 0 < S.r (i / 4)
    · rw [if_pos h2, if_pos (by omega)]
    · rw [if_neg h2, if_neg (by omega)]
theorem tkK_all (S : Sc) : tabV (S.n * 4) (S.tkK S.n) = tabV (S.tick.n * 4) S.tick.row := by
  refine tabV_congr fun i hi => ?_
  unfold Sc.tkK Sc.row
  by_cases h1 : i % 4 = 0
  · rw [if_pos h1, if_pos h1]
    show _ = (if 0 < S.r (i / 4) ∧ i / 4 < S.n then S.r (i / 4) - 1 else S.r (i / 4))
    by_cases h2 : 0 < S.r (i / 4)
    · rw [if_pos (by omega), if_pos (by omega)]
    · rw [if_neg (by omega), if_neg (by omega)]
  · rw [if_neg (by omega), if_neg h1, if_neg h1]; rfl
section
variable {w : World} {g c : Nat} {S : Sc} {b : Int}
set_option maxRecDepth 100000 in
set_option maxHeartbeats 1000000 in
theorem rclear_any (h : Rp w g S) (h1 : 1 ≤ S.n) (h8 : S.n ≤ 8) :
    Calls Try.prog 17 #[.agg (rvL S g c).toArray] w fun e w' => ∃ g' c', e = .returned (.agg (rvL S.clear g' c').toArray) ∧ Rp w' g' S.clear ∧ w.heap.size ≤ g' ∧ Below w.heap.size w w' := by
  obtain ⟨w1, hw1⟩ : ∃ w1, w1 = ((w.alloc (.cells (rvL S g c).toArray 29)).alloc (.cells #[.int .i64 0, .slice none 0 0] 29)).alloc (.cells #[] 63) := ⟨_, rfl⟩
  have hb1 : Below w.heap.size w w1 := by rw [hw1]; exact (((Below.refl _ w).alloc (Nat.le_refl _) _).alloc (by simp) _).alloc (by simp; omega) _
  have hz1 : w1.heap.size = w.heap.size + 3 := by rw [hw1]; simp
  have q0 : Bk w1 29 w.heap.size (rvL S g c) := by rw [hw1]; exact ((Bk.new w _ (rvL S g c)).alloc _).alloc _
  have q1 : Bk w1 29 (w.heap.size + 1) [.int .i64 0, .slice none 0 0] := by
    have := (Bk.new (w.alloc (.cells (rvL S g c).toArray 29)) 29 [.int .i64 0, .slice none 0 0]).alloc (.cells #[] 63)
    rw [hw1]; rw [World.size_alloc] at this; exact this
  obtain ⟨tl0, hp1⟩ := h.below hb1
  have c1 := q0.cell 1 rfl
  rw [hw1] at c1
  have H := Lib.hid (And.intro hb1 (And.intro hz1 (And.intro q0 q1)))
  have hp1' := hp1
  rw [hw1] at hp1'
  have HW := Lib.hid hw1
  clear hb1 hz1 q0 q1 hw1
  go_enter Try.func17, Try.ntmps17
  go_wp2_with (at_builtin
               refine wpList_copy_rows eltP rfl (.tmp 4) (.tmp 6) rfl rfl rfl hp1' (by omega) (by omega) ?_
               rintro c' tl w4 hk4 hb4
               rw [← HW.out] at hk4 hb4
               have q04 := (H.out.2.2.1).below hb4
               have k1 := q04.cell 1 rfl
               have f1 := q04.free 1
               have HK4 := Lib.hid hk4
               have HB4 := Lib.hid hb4
               clear hk4 hb4 c1 hp1')
  obtain ⟨hb1, hz1, q0, q1⟩ := H.out
  have hk4 := HK4.out
  have hb4 := HB4.out
  have hsz : (((w.alloc (.cells (rvL S g c).toArray 29)).alloc (.cells #[.int .i64 0, .slice none 0 0] 29)).alloc (.cells #[] 63)).heap.size = w.heap.size + 3 := by rw [← HW.out]; exact hz1
  have r0 := q04.set 1 (.slice (some ⟨w.heap.size + 3, 0, none⟩) S.n c')
  have r1 := (q1.below hb4).far (p := ⟨w.heap.size, 1, none⟩) (by simp) (.slice (some ⟨w.heap.size + 3, 0, none⟩) S.n c')
  rw [hz1] at hk4
  have r2 := hk4.far (p := ⟨w.heap.size, 1, none⟩) (by simp) (.slice (some ⟨w.heap.size + 3, 0, none⟩) S.n c')
  have r3 : Below w.heap.size w (w4.setCell ⟨w.heap.size, 1, none⟩ (.slice (some ⟨w.heap.size + 3, 0, none⟩) S.n c')) := (hb1.trans (hb4.mono hb1.size)).setCell (Nat.le_refl _) _
  have HR := Lib.hid (And.intro r0 (And.intro r1 (And.intro r2 r3)))
  clear r0 r1 r2 r3 hk4 hb4 q0 q1 hz1 hb1 q04 hsz k1 f1 hp1
  go_wp2
  go_loopw [3] (fun i wr => ∃ k, k ≤ S.n ∧ i = .int .i64 k ∧ Bk wr 29 w.heap.size (rvL S (w.heap.size + 3) c') ∧ Bk wr 29 (w.heap.size + 1) [.int .i64 0, .slice none 0 0] ∧ Bk wr 63 (w.heap.size + 3) (tabV (S.n * 4) (S.clrK k) ++ tl) ∧ Below w.heap.size w wr) (fun i _ => S.n - (intOf i).toNat)
  case atStart =>
    simp only [Nat.add_assoc, Nat.reduceAdd]
    obtain ⟨r0, r1, r2, r3⟩ := HR.out
    exact ⟨0, Nat.zero_le _, rfl, r0, r1, by rw [clrK_zero]; exact r2, r3⟩
  case round =>
    obtain ⟨k, hk, rfl, s0, s1, s2, hb⟩ := hrel
    have d1 := s0.cell 1 rfl
    by_cases hkn : k < S.n
    · go_wp2_with (refine at_store 48 (.tmp 21) (.tmp 19) (by rfl) ?_; refine wpList_store_bk row3 rfl (.tmp 21) (.tmp 19) rfl (w.heap.size + 3) (k * 4 + 1) rfl s2 (tabV 3 (fun _ => 0)) rfl (tabV_len _ _) (by rw [List.length_append, tabV_len]; omega) (tabV_one _ _) ?_; rintro w5 hr5 hw5)
      rw [clrK_succ S tl hkn] at hr5
      go_roundw
      case rel => exact ⟨k + 1, by omega, by go_num, s0.wr hw5 (by omega), s1.wr hw5 (by omega), hr5, hb.trans (hw5.below (by omega) hb.size)⟩
      case measure => simp [intOf]; omega
    · obtain rfl : k = S.n := by omega
      rw [clrK_all] at s2
      go_wp2_with (first
        | (refine at_load 29 (.tmp 1) (by rfl) ?_; refine wpList_load_bk rowR rfl (.tmp 1) rfl w.heap.size 0 rfl s0 (rvL S (w.heap.size + 3) c') rfl rfl ?_)
        | (refine at_store 29 (.tmp 2) (.tmp 22) (by rfl) ?_; refine wpList_store_bk rowR rfl (.tmp 2) (.tmp 22) rfl (w.heap.size + 1) 0 rfl s1 (rvL S (w.heap.size + 3) c') rfl rfl (by decide) (rvL_one _ _ _) ?_; rintro w5 hr5 hw5))
      rw [lay_rv] at hr5
      exact bodyPost_ret (results_cell rfl rfl (rowR.load hr5 0 (cs := rvL S (w.heap.size + 3) c') rfl rfl)) rfl ⟨w.heap.size + 3, c', rfl, ⟨tl, s2.wr hw5 (by omega)⟩, by omega, hb.trans (hw5.below (by omega) hb.size)⟩
set_option maxRecDepth 100000 in
set_option maxHeartbeats 2000000 in
theorem rtick_any (h : Rp w g S) (ho : S.ok b) :
    Calls Try.prog 13 #[.agg (rvL S g c).toArray] w fun e w' => ∃ g' c' A m d, e = .returned (.tuple #[.agg (rvL S.tick g' c').toArray, .slice A m d]) ∧ Rp w' g' S.tick ∧ w.heap.size ≤ g' ∧ Lst 3 (w.heap.size ≤ ·) w' A m d (intV S.back) ∧ Below w.heap.size w w' := by
  have h1 := ho.n1
  have h8 := ho.n8
  have hr1 : ∀ j, 0 ≤ S.r j ∧ S.r j ≤ 1048576 := fun j => ⟨(ho.r0 j).1, by have := (ho.r0 j).2; have := ho.t1; omega⟩
  obtain ⟨w1, hw1⟩ : ∃ w1, w1 = ((w.alloc (.cells (rvL S g c).toArray 29)).alloc (.cells #[.int .i64 0, .slice none 0 0] 29)).alloc (.cells #[] 63) := ⟨_, rfl⟩
  have hb1 : Below w.heap.size w w1 := by rw [hw1]; exact (((Below.refl _ w).alloc (Nat.le_refl _) _).alloc (by simp) _).alloc (by simp; omega) _
  have hz1 : w1.heap.size = w.heap.size + 3 := by rw [hw1]; simp
  have q0 : Bk w1 29 w.heap.size (rvL S g c) := by rw [hw1]; exact ((Bk.new w _ (rvL S g c)).alloc _).alloc _
  have q1 : Bk w1 29 (w.heap.size + 1) [.int .i64 0, .slice none 0 0] := by
    have := (Bk.new (w.alloc (.cells (rvL S g c).toArray 29)) 29 [.int .i64 0, .slice none 0 0]).alloc (.cells #[] 63)
    rw [hw1]; rw [World.size_alloc] at this; exact this
  obtain ⟨tl0, hp1⟩ := h.below hb1
  have c1 := q0.cell 1 rfl
  rw [hw1] at c1
  have H := Lib.hid (And.intro hb1 (And.intro hz1 (And.intro q0 q1)))
  have hp1' := hp1
  rw [hw1] at hp1'
  have HW := Lib.hid hw1
  clear hb1 hz1 q0 q1 hw1 ho
  go_enter Try.func13, Try.ntmps13
  go_wp2_with (at_builtin
               refine wpList_copy_rows eltP rfl (.tmp 6) (.tmp 8) rfl rfl rfl hp1' (by omega) (by omega) ?_
               rintro c' tl w4 hk4 hb4
               rw [← HW.out] at hk4 hb4
               have q04 := (H.out.2.2.1).below hb4
               have k1 := q04.cell 1 rfl
               have f1 := q04.free 1
               have HK4 := Lib.hid hk4
               have HB4 := Lib.hid hb4
               clear hk4 hb4 c1 hp1')
  obtain ⟨hb1, hz1, q0, q1⟩ := H.out
  have hk4 := HK4.out
  have hb4 := HB4.out
  have r0 := q04.set 1 (.slice (some ⟨w.heap.size + 3, 0, none⟩) S.n c')
  have r1 := (q1.below hb4).far (p := ⟨w.heap.size, 1, none⟩) (by simp) (.slice (some ⟨w.heap.size + 3, 0, none⟩) S.n c')
  rw [hz1] at hk4
  have r2 := hk4.far (p := ⟨w.heap.size, 1, none⟩) (by simp) (.slice (some ⟨w.heap.size + 3, 0, none⟩) S.n c')
  have r3 : Below w.heap.size w (w4.setCell ⟨w.heap.size, 1, none⟩ (.slice (some ⟨w.heap.size + 3, 0, none⟩) S.n c')) := (hb1.trans (hb4.mono hb1.size)).setCell (Nat.le_refl _) _
  have HR := Lib.hid (And.intro r0 (And.intro r1 (And.intro r2 r3)))
  clear r0 r1 r2 r3 hk4 hb4 q0 q1 hz1 hb1 q04 k1 f1 hp1
  go_wp2
  go_loopw [4, 5] (fun v i wr => ∃ (k : Nat) (B : Option Addr) (m d : Nat), k ≤ S.n ∧ i = .int .i64 k ∧ v = .slice B m d ∧ Lst 3 (w.heap.size + 4 ≤ ·) wr B m d (intV (S.backN k)) ∧ Bk wr 29 w.heap.size (rvL S (w.heap.size + 3) c') ∧ Bk wr 29 (w.heap.size + 1) [.int .i64 0, .slice none 0 0] ∧ Bk wr 63 (w.heap.size + 3) (tabV (S.n * 4) (S.tkK k) ++ tl) ∧ Below w.heap.size w wr) (fun _ i _ => S.n - (intOf i).toNat)
  case atStart =>
    simp only [Nat.add_assoc, Nat.reduceAdd]
    obtain ⟨r0, r1, r2, r3⟩ := HR.out
    exact ⟨0, none, 0, 0, Nat.zero_le _, rfl, rfl, Lst.nil _ _ _, r0, r1, by rw [tkK_zero]; exact r2, r3⟩
  case round =>
    obtain ⟨k, B, m, d, hk, rfl, rfl, hl, s0, s1, s2, hb⟩ := hrel
    have d1 := s0.cell 1 rfl
    have hm := hl.1
    rw [intV_len] at hm
    have hm8 := S.backN_len k
    have hz2 := s2.lt
    by_cases hkn : k < S.n
    · have d2 := s2.cell (k * 4) (v := .int .i64 (S.r k)) (by rw [tabV_get_app _ _ _ (by omega), tkK_at])
      have e2 := s2.free (k * 4)
      have HS := Lib.hid (S.backN_succ k)
      have hrk := hr1 k
      by_cases hx : 0 < S.r k
      · have hw : IntKind.i64.wrap (S.r k - 1) = S.r k - 1 := by rw [IntKind.wrap_i64]; omega
        have t2 := s2.set (k * 4) (.int .i64 (S.r k - 1))
        have d3 := t2.cell (k * 4) (v := .int .i64 (S.r k - 1)) (by rw [List.getElem?_set_self (by rw [List.length_append, tabV_len]; omega)])
        rw [tkK_succ S tl hkn hx] at t2
        have t0 := s0.far (p := ⟨w.heap.size + 3, k * 4, none⟩) (by simp) (.int .i64 (S.r k - 1))
        have t1 := s1.far (p := ⟨w.heap.size + 3, k * 4, none⟩) (by simp) (.int .i64 (S.r k - 1))
        have hl2 := hl.far (p := ⟨w.heap.size + 3, k * 4, none⟩) (fun ad he => by have := (hl.blk ad he).1; simp; omega) (.int .i64 (S.r k - 1))
        have hb2 := hb.setCell (p := ⟨w.heap.size + 3, k * 4, none⟩) (by simp) (.int .i64 (S.r k - 1))
        have d4 := t0.cell 1 rfl
        have HT := Lib.hid (And.intro t0 (And.intro t1 (And.intro t2 (And.intro hl2 hb2))))
        by_cases hy : S.r k = 1
        · rw [if_pos hy] at HS
          have hyb : (S.r k - 1 == 0) = true := by simp; omega
          have hls' := hl2.alloc (.cells #[.int .i64 k] 3)
          have hu := RdV.one (wr.setCell ⟨w.heap.size + 3, k * 4, none⟩ (.int .i64 (S.r k - 1))) 3 (.int .i64 k) rfl
          have hsw : (wr.setCell ⟨w.heap.size + 3, k * 4, none⟩ (.int .i64 (S.r k - 1))).heap.size = wr.heap.size := by simp [World.setCell]
          rw [hsw] at hu
          have hn8 : (m + 1) * 8 ≤ 140737488355328 := by omega
          clear hsw
          clear hm hm8 hl hy t0 t1 t2 hb2 s0 s1 s2 hb hl2 hr1 hrk
          go_wp2_with (at_builtin
                       refine wpList_append_lst eltI rfl (.tmp 41) (.tmp 43) rfl rfl hls' rfl hu hn8 ?_
                       rintro v w4 ⟨⟨A4, n4, c4, rfl, hl4⟩, hst4⟩)
          obtain ⟨t0, t1, t2, hl2, hb2⟩ := HT.out
          have ha := (Below.refl (wr.setCell ⟨w.heap.size + 3, k * 4, none⟩ (.int .i64 (S.r k - 1))).heap.size (wr.setCell ⟨w.heap.size + 3, k * 4, none⟩ (.int .i64 (S.r k - 1)))).alloc (Nat.le_refl _) (.cells #[.int .i64 k] 3)
          have hz := t2.lt
          go_roundw
          case rel =>
            refine ⟨k + 1, _, _, _, by omega, by go_num, rfl, ?_, (t0.below ha).st hst4 (by omega), (t1.below ha).st hst4 (by omega), (t2.below ha).st hst4 (by omega), (hb2.trans (ha.mono hb2.size)).trans (hst4.below (by have := hb2.size; have := ha.size; omega) (fun j hj => by omega))⟩
            rw [HS.out, intV_snoc]
            exact hl4.mono (fun j hj => by rcases hj with h | h; exact h; have := ha.size; omega)
          case measure => simp [intOf]; omega
        · rw [if_neg hy] at HS
          have hyb : (S.r k - 1 == 0) = false := by simp; omega
          clear hm hm8 hl hy t0 t1 t2 hb2 s0 s1 s2 hb hl2 hr1
          go_wp2
          obtain ⟨t0, t1, t2, hl2, hb2⟩ := HT.out
          go_roundw
          case rel => exact ⟨k + 1, B, m, d, by omega, by go_num, rfl, by rw [HS.out]; exact hl2, t0, t1, t2, hb2⟩
          case measure => simp [intOf]; omega
      · have hx0 : S.r k = 0 := by omega
        rw [if_neg (by omega)] at HS
        have HK := Lib.hid (tkK_same S (k := k) (by omega) (S.n * 4))
        rw [hx0] at d2
        clear hx hr1 hx0
        go_wp2
        go_roundw
        case rel => exact ⟨k + 1, B, m, d, by omega, by go_num, rfl, by rw [HS.out]; exact hl, s0, s1, by rw [HK.out]; exact s2, hb⟩
        case measure => simp [intOf]; omega
    · obtain rfl : k = S.n := by omega
      rw [tkK_all] at s2
      go_wp2_with (first
        | (refine at_load 29 (.tmp 1) (by rfl) ?_; refine wpList_load_bk rowR rfl (.tmp 1) rfl w.heap.size 0 rfl s0 (rvL S (w.heap.size + 3) c') rfl rfl ?_)
        | (refine at_store 29 (.tmp 2) (.tmp 45) (by rfl) ?_; refine wpList_store_bk rowR rfl (.tmp 2) (.tmp 45) rfl (w.heap.size + 1) 0 rfl s1 (rvL S (w.heap.size + 3) c') rfl rfl (by decide) (rvL_one _ _ _) ?_; rintro w5 hr5 hw5))
      rw [lay_rv] at hr5
      refine bodyPost_ret (results_cell_tmp rfl rfl (rowR.load hr5 0 (cs := rvL S (w.heap.size + 3) c') rfl rfl)) rfl ⟨w.heap.size + 3, c', B, m, d, rfl, ⟨tl, s2.wr hw5 (by omega)⟩, by omega, ?_, hb.trans (hw5.below (by omega) hb.size)⟩
      exact (hl.mono (F' := (w.heap.size ≤ ·)) (fun j hj => by omega)).same fun ad he => hw5.block _ (hl.blk ad he).2 (by intro e; injection e with e; have := (hl.blk ad he).1; omega)
end
end Go.Proofs.Ytjoagkekbeogoaa
