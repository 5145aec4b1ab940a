/- Rows compared; a packet cut short; the numbers of what is kept. -/
import Derived.Test.YtmmjhijgedboiaaEX
import Derived.Test.YtmmjhijgedboiaaOpenV
set_option linter.unusedSimpArgs false
set_option linter.unusedVariables false
set_option maxRecDepth 100000
namespace Go.Proofs.Ytmmjhijgedboiaa
open Go.RowKit Go.Shelf
set_option maxHeartbeats 4000000 in
theorem same_rows {w : World} {A : Option Addr} {n c : Nat} {B : Option Addr} {n1 c1 : Nat} {ms : List (List Int)} (h : SlB w A n c ms) (k : SlB w B n1 c1 ms) :
    Calls Try.prog 13 #[.slice A n c, .slice B n1 c1] w fun e w' => e = .returned (.bool true) ∧ Below w.heap.size w w' := by
  obtain rfl : n1 = n := by rw [← h.len, ← k.len]
  have HH := Lib.hid (And.intro h k)
  have hnm : n1 ≤ 9223372036854775807 := by
    obtain ⟨bs, h1, _⟩ := h
    have h2 := h1.2.1
    have h3 := h1.2.2.1
    unfold maxLen at h3
    omega
  clear h k
  go_enter Try.func13, Try.ntmps13
  go_wp2
  go_loopw [5] (fun i wr => ∃ k : Nat, i = .int .i64 k ∧ k ≤ n1 ∧ Below w.heap.size w wr) (fun i _ => n1 - (intOf i).toNat)
  case atStart => exact ⟨0, rfl, Nat.zero_le _, Below.refl _ _⟩
  case round =>
    obtain ⟨k, rfl, hk, hb⟩ := hrel
    by_cases hlt : k < n1
    · obtain ⟨g, o, b, rfl, hcell, hrd, hat⟩ := (HH.out.1.below hb).at hlt
      obtain ⟨g2, o2, b2, rfl, hcell2, hrd2, hat2⟩ := (HH.out.2.below hb).at hlt
      have hxs : b2.xs = b.xs := by rw [hat] at hat2; injection hat2 with h; exact h.symm
      rw [hxs] at hrd2
      have q1 := fun j => conv_any (hrd.below (Below.drewN_ wr j))
      have q2 := fun j => conv_any (hrd2.below (Below.drewN_ wr j))
      generalize strOfNums b.xs = sx at q1 q2
      have c1 := fun j => ((Below.drewN_ wr j).cell (p := ⟨g, o + k, none⟩) (World.block_lt_of_cell? _ _ hcell)).trans hcell
      have c2 := fun j => ((Below.drewN_ wr j).cell (p := ⟨g2, o2 + k, none⟩) (World.block_lt_of_cell? _ _ hcell2)).trans hcell2
      have hkI : (k : Int) < n1 := by omega
      have HB := Lib.hid hb
      clear hcell hcell2 hrd hrd2 hat hat2 hxs hb
      go_wp2
      go_quiet (skip)
      go_wp2
      go_roundw
      case rel => exact ⟨k + 1, by go_num, by omega, HB.out.trans ((Below.drewN_ _ _).mono HB.out.size)⟩
      case measure => simp [intOf]; omega
    · obtain rfl : k = n1 := by omega
      have HB := Lib.hid hb
      clear hb
      go_wp2
      go_ret
      exact ⟨rfl, HB.out⟩
theorem take_all_eq {xs ys : List Int} {k : Nat} (hx : xs.length = k) (hy : ys.length = k) (h : xs.take k = ys.take k) : xs = ys := by
  rw [List.take_of_length_le (by omega), List.take_of_length_le (by omega)] at h
  exact h
theorem take_succ_eq {xs ys : List Int} {k : Nat} (hx : k < xs.length) (hy : k < ys.length) (h : xs.take k = ys.take k) (he : xs.getD k 0 = ys.getD k 0) : xs.take (k + 1) = ys.take (k + 1) := by
  rw [List.take_succ_eq_append_getElem hx, List.take_succ_eq_append_getElem hy, h]
  rw [List.getD_eq_getElem?_getD, List.getD_eq_getElem?_getD, List.getElem?_eq_getElem hx, List.getElem?_eq_getElem hy] at he
  simp at he
  rw [he]
set_option maxHeartbeats 400000 in
theorem same_any (A B : Option Addr) (n c m d : Nat) (xs ys : List Int) (w : World) (h1 : RdV w A n c (intV xs)) (h2 : RdV w B m d (intV ys)) :
    Calls Try.prog 22 #[.slice A n c, .slice B m d] w fun e w' => e = .returned (.bool (decide (xs = ys))) ∧ Below w.heap.size w w' := by
  have hn := h1.1
  have hm := h2.1
  rw [intV_len] at hn hm
  have hc := h1.2.1
  have hmx := h1.2.2.1
  have hc2 := h2.2.1
  have hmx2 := h2.2.2.1
  unfold maxLen at hmx hmx2
  by_cases hnm : n = m
  · subst hnm
    have H1 := Lib.hid h1
    have H2 := Lib.hid h2
    have HN := Lib.hid hn
    have HM := Lib.hid hm
    clear h1 h2 hn hm
    go_enter Try.func22, Try.ntmps22
    go_wp2
    go_loopw [5] (fun i wr => ∃ k q : Nat, k ≤ n ∧ i = .int .i64 k ∧ wr = w.drewN q ∧ xs.take k = ys.take k) (fun i _ => n - (intOf i).toNat)
    case atStart => exact ⟨0, 0, Nat.zero_le _, rfl, rfl, by simp⟩
    case round =>
      obtain ⟨k, q, hk, rfl, rfl, htk⟩ := hrel
      by_cases hlt : k < n
      · have hx : k < xs.length := by rw [HN.out]; exact hlt
        have hy : k < ys.length := by rw [HM.out]; exact hlt
        obtain ⟨g1, o1, rfl, hg1, d1⟩ := H1.out.cell hlt
        obtain ⟨g2, o2, rfl, hg2, d2⟩ := H2.out.cell hlt
        unfold intV at d1 d2
        rw [List.getElem?_map, List.getElem?_eq_getElem hx, Option.map_some] at d1
        rw [List.getElem?_map, List.getElem?_eq_getElem hy, Option.map_some] at d2
        have e1 : xs.getD k 0 = xs[k] := by rw [List.getD_eq_getElem?_getD, List.getElem?_eq_getElem hx]; rfl
        have e2 : ys.getD k 0 = ys[k] := by rw [List.getD_eq_getElem?_getD, List.getElem?_eq_getElem hy]; rfl
        by_cases hxy : xs[k] = ys[k]
        · have HT := Lib.hid (take_succ_eq hx hy htk (by rw [e1, e2, hxy]))
          rw [hxy] at d1
          generalize ys[k] = x at d1 d2
          clear e1 e2 hxy htk
          go_wp2
          go_quiet (fail)
          go_wp2
          go_roundw
          case rel => exact ⟨k + 1, _, by omega, by go_num, rfl, HT.out⟩
          case measure => simp [intOf]; omega
        · have HF : Hid (decide (xs = ys) = false) := Lib.hid (by
            rw [decide_eq_false_iff_not]
            rintro rfl
            exact hxy rfl)
          generalize hgx : xs[k] = x at *
          generalize hgy : ys[k] = y at *
          clear e1 e2 htk hgx hgy
          go_wp2
          go_quiet (fail)
          go_wp2
          go_ret
          exact ⟨by rw [HF.out]; rfl, (Below.drewN_ w _).trans (Below.drewN_ (w.drewN q) _)⟩
      · obtain rfl : k = n := by omega
        have HE : Hid (decide (xs = ys) = true) := Lib.hid (by rw [decide_eq_true_eq]; exact take_all_eq HN.out HM.out htk)
        clear htk
        go_wp2
        go_ret
        exact ⟨by rw [HE.out]; rfl, Below.drewN_ w q⟩
  · have HF : Hid (decide (xs = ys) = false) := Lib.hid (by
      rw [decide_eq_false_iff_not]
      rintro rfl
      omega)
    have hne : (n : Int) ≠ m := by omega
    clear h1 h2 hn hm
    go_enter Try.func22, Try.ntmps22
    go_wp2
    go_ret
    exact ⟨by rw [HF.out]; rfl, Below.refl _ _⟩


/-- What is looked at of a packet. -/
def Pv.look (q : Pv) : Pv := ⟨q.h, q.A, min q.n 100, q.c, q.xs.take 100⟩
theorem look_rd {F : Nat → Prop} {w : World} {q : Pv} (h : Rd .u8 w q.A q.n q.c q.xs) (hf : q.h.fl ≤ 9223372036854775807) (hF : 0 < q.n → ∀ ad, q.A = some ad → ¬ F ad.block) : PvR F w q.look := by
  obtain ⟨h1, h2, h3, h4, h5, h6⟩ := h
  refine ⟨⟨?_, ?_, h3, h4, fun x hx => h5 x (List.mem_of_mem_take hx), fun hn => ?_⟩, ?_, hf, fun hn => hF ?_⟩
  · show (q.xs.take 100).length = min q.n 100
    rw [List.length_take, h1, Nat.min_comm]
  · show min q.n 100 ≤ q.c
    omega
  · have hn' : 0 < min q.n 100 := hn
    obtain ⟨g, o, e, hg, hx⟩ := h6 (by omega)
    refine ⟨g, o, e, hg, fun i hi => ?_⟩
    have hi' : i < min q.n 100 := hi
    rw [hx i (by omega)]
    show _ = some (Value.int .u8 ((q.xs.take 100).getD i 0))
    rw [List.getD_eq_getElem?_getD, List.getD_eq_getElem?_getD, List.getElem?_take, if_pos (by omega)]
  · show min q.n 100 ≤ 1100
    omega
  · have hn' : 0 < min q.n 100 := hn
    omega
set_option maxHeartbeats 4000000 in
theorem l_packet (q : Pv) (w : World) (hnc : q.n ≤ q.c) (hcm : q.c ≤ 9223372036854775807) : Calls Try.prog 10 #[.agg #[.int .i64 q.h.kd, .int .i64 q.h.fl, .int .i64 q.h.pa, .int .i64 q.h.sr, .int .i64 q.h.ds, .int .i64 q.h.cn, .int .i64 q.h.sq, .int .i64 q.h.pu, .slice q.A q.n q.c]] w fun e w' => e = .returned (.agg #[.int .i64 q.look.h.kd, .int .i64 q.look.h.fl, .int .i64 q.look.h.pa, .int .i64 q.look.h.sr, .int .i64 q.look.h.ds, .int .i64 q.look.h.cn, .int .i64 q.look.h.sq, .int .i64 q.look.h.pu, .slice q.look.A q.look.n q.look.c]) ∧ Below w.heap.size w w' := by
  have hb1 : Below w.heap.size w ((w.alloc (.cells #[.int .i64 q.h.kd, .int .i64 q.h.fl, .int .i64 q.h.pa, .int .i64 q.h.sr, .int .i64 q.h.ds, .int .i64 q.h.cn, .int .i64 q.h.sq, .int .i64 q.h.pu, .slice q.A q.n q.c] 40)).alloc (.cells #[.int .i64 0, .int .i64 0, .int .i64 0, .int .i64 0, .int .i64 0, .int .i64 0, .int .i64 0, .int .i64 0, .slice none 0 0] 40)) := ((Below.refl _ w).alloc (Nat.le_refl _) _).alloc (by simp) _
  have z1 : Bk ((w.alloc (.cells #[.int .i64 q.h.kd, .int .i64 q.h.fl, .int .i64 q.h.pa, .int .i64 q.h.sr, .int .i64 q.h.ds, .int .i64 q.h.cn, .int .i64 q.h.sq, .int .i64 q.h.pu, .slice q.A q.n q.c] 40)).alloc (.cells #[.int .i64 0, .int .i64 0, .int .i64 0, .int .i64 0, .int .i64 0, .int .i64 0, .int .i64 0, .int .i64 0, .slice none 0 0] 40)) 40 w.heap.size [.int .i64 q.h.kd, .int .i64 q.h.fl, .int .i64 q.h.pa, .int .i64 q.h.sr, .int .i64 q.h.ds, .int .i64 q.h.cn, .int .i64 q.h.sq, .int .i64 q.h.pu, .slice q.A q.n q.c] := (Bk.new w 40 [.int .i64 q.h.kd, .int .i64 q.h.fl, .int .i64 q.h.pa, .int .i64 q.h.sr, .int .i64 q.h.ds, .int .i64 q.h.cn, .int .i64 q.h.sq, .int .i64 q.h.pu, .slice q.A q.n q.c]).alloc _
  have z2 : Bk ((w.alloc (.cells #[.int .i64 q.h.kd, .int .i64 q.h.fl, .int .i64 q.h.pa, .int .i64 q.h.sr, .int .i64 q.h.ds, .int .i64 q.h.cn, .int .i64 q.h.sq, .int .i64 q.h.pu, .slice q.A q.n q.c] 40)).alloc (.cells #[.int .i64 0, .int .i64 0, .int .i64 0, .int .i64 0, .int .i64 0, .int .i64 0, .int .i64 0, .int .i64 0, .slice none 0 0] 40)) 40 (w.heap.size + 1) [.int .i64 0, .int .i64 0, .int .i64 0, .int .i64 0, .int .i64 0, .int .i64 0, .int .i64 0, .int .i64 0, .slice none 0 0] := by
    have := Bk.new (w.alloc (.cells #[.int .i64 q.h.kd, .int .i64 q.h.fl, .int .i64 q.h.pa, .int .i64 q.h.sr, .int .i64 q.h.ds, .int .i64 q.h.cn, .int .i64 q.h.sq, .int .i64 q.h.pu, .slice q.A q.n q.c] 40)) 40 [.int .i64 0, .int .i64 0, .int .i64 0, .int .i64 0, .int .i64 0, .int .i64 0, .int .i64 0, .int .i64 0, .slice none 0 0]
    rw [World.size_alloc] at this
    exact this
  have e8 := z1.cell 8 (v := .slice q.A q.n q.c) rfl
  have f8 := z1.free 8
  by_cases hn : q.n ≤ 100
  · have hn1 : (q.n : Int) ≤ 100 := by omega
    have hru : ∀ W : World, (Instr.slice 30 (.slice q.A q.n q.c) none (some (.int .i64 (q.n : Int))) none).run Try.prog W = .ok (.slice q.A q.n q.c) W := fun W => by
      have := bytesT.run_pre q.A q.n q.c 0 q.n (by omega) hnc W
      simpa using this
    have y1 : Bk ((w.alloc (.cells #[.int .i64 q.h.kd, .int .i64 q.h.fl, .int .i64 q.h.pa, .int .i64 q.h.sr, .int .i64 q.h.ds, .int .i64 q.h.cn, .int .i64 q.h.sq, .int .i64 q.h.pu, .slice q.A q.n q.c] 40)).alloc (.cells #[.int .i64 0, .int .i64 0, .int .i64 0, .int .i64 0, .int .i64 0, .int .i64 0, .int .i64 0, .int .i64 0, .slice none 0 0] 40)) 40 w.heap.size [.int .i64 q.h.kd, .int .i64 q.h.fl, .int .i64 q.h.pa, .int .i64 q.h.sr, .int .i64 q.h.ds, .int .i64 q.h.cn, .int .i64 q.h.sq, .int .i64 q.h.pu, .slice q.A q.n q.c] := (Bk.new w 40 [.int .i64 q.h.kd, .int .i64 q.h.fl, .int .i64 q.h.pa, .int .i64 q.h.sr, .int .i64 q.h.ds, .int .i64 q.h.cn, .int .i64 q.h.sq, .int .i64 q.h.pu, .slice q.A q.n q.c]).alloc _
    have y2 : Bk ((w.alloc (.cells #[.int .i64 q.h.kd, .int .i64 q.h.fl, .int .i64 q.h.pa, .int .i64 q.h.sr, .int .i64 q.h.ds, .int .i64 q.h.cn, .int .i64 q.h.sq, .int .i64 q.h.pu, .slice q.A q.n q.c] 40)).alloc (.cells #[.int .i64 0, .int .i64 0, .int .i64 0, .int .i64 0, .int .i64 0, .int .i64 0, .int .i64 0, .int .i64 0, .slice none 0 0] 40)) 40 (w.heap.size + 1) [.int .i64 0, .int .i64 0, .int .i64 0, .int .i64 0, .int .i64 0, .int .i64 0, .int .i64 0, .int .i64 0, .slice none 0 0] := by
      have := Bk.new (w.alloc (.cells #[.int .i64 q.h.kd, .int .i64 q.h.fl, .int .i64 q.h.pa, .int .i64 q.h.sr, .int .i64 q.h.ds, .int .i64 q.h.cn, .int .i64 q.h.sq, .int .i64 q.h.pu, .slice q.A q.n q.c] 40)) 40 [.int .i64 0, .int .i64 0, .int .i64 0, .int .i64 0, .int .i64 0, .int .i64 0, .int .i64 0, .int .i64 0, .slice none 0 0]
      rw [World.size_alloc] at this
      exact this
    have HB := Lib.hid (((Below.refl _ w).alloc (Nat.le_refl _) (.cells #[.int .i64 q.h.kd, .int .i64 q.h.fl, .int .i64 q.h.pa, .int .i64 q.h.sr, .int .i64 q.h.ds, .int .i64 q.h.cn, .int .i64 q.h.sq, .int .i64 q.h.pu, .slice q.A q.n q.c] 40)).alloc (by simp) (.cells #[.int .i64 0, .int .i64 0, .int .i64 0, .int .i64 0, .int .i64 0, .int .i64 0, .int .i64 0, .int .i64 0, .slice none 0 0] 40) : Below w.heap.size w ((w.alloc (.cells #[.int .i64 q.h.kd, .int .i64 q.h.fl, .int .i64 q.h.pa, .int .i64 q.h.sr, .int .i64 q.h.ds, .int .i64 q.h.cn, .int .i64 q.h.sq, .int .i64 q.h.pu, .slice q.A q.n q.c] 40)).alloc (.cells #[.int .i64 0, .int .i64 0, .int .i64 0, .int .i64 0, .int .i64 0, .int .i64 0, .int .i64 0, .int .i64 0, .slice none 0 0] 40)))
    have HK : Hid (min q.n 100 = q.n) := Lib.hid (by omega)
    clear hb1 z1 z2
    go_enter Try.func10, Try.ntmps10
    go_wp2_with (first
      | (with_reducible refine at_load 40 (.tmp 1) (by rfl) ?_; refine wpList_load_bk rowP rfl (.tmp 1) rfl w.heap.size 0 rfl y1 [.int .i64 q.h.kd, .int .i64 q.h.fl, .int .i64 q.h.pa, .int .i64 q.h.sr, .int .i64 q.h.ds, .int .i64 q.h.cn, .int .i64 q.h.sq, .int .i64 q.h.pu, .slice q.A q.n q.c] rfl rfl ?_)
      | (with_reducible refine at_store 40 (.tmp 2) (.tmp 11) (by rfl) ?_; refine wpList_store_bk rowP rfl (.tmp 2) (.tmp 11) rfl (w.heap.size + 1) 0 rfl y2 [.int .i64 q.h.kd, .int .i64 q.h.fl, .int .i64 q.h.pa, .int .i64 q.h.sr, .int .i64 q.h.ds, .int .i64 q.h.cn, .int .i64 q.h.sq, .int .i64 q.h.pu, .slice q.A q.n q.c] rfl rfl (by decide) (by simp [Value.oneCell']) ?_; rintro w5 z5 hw5
         rw [lay_all _ _ (by rfl)] at z5))
    exact bodyPost_ret (results_cell rfl rfl (rowP.load z5 0 (cs := [.int .i64 q.h.kd, .int .i64 q.h.fl, .int .i64 q.h.pa, .int .i64 q.h.sr, .int .i64 q.h.ds, .int .i64 q.h.cn, .int .i64 q.h.sq, .int .i64 q.h.pu, .slice q.A q.n q.c]) rfl rfl)) rfl ⟨by unfold Pv.look; rw [HK.out], HB.out.trans (hw5.below (by omega) HB.out.size)⟩
  · have hn1 : (100 : Int) < q.n := by omega
    have hn2 : ¬ (q.n : Int) ≤ 100 := by omega
    have hru : ∀ W : World, (Instr.slice 30 (.slice q.A q.n q.c) none (some (.int .i64 (100 : Int))) none).run Try.prog W = .ok (.slice q.A 100 q.c) W := fun W => by
      have := bytesT.run_pre q.A q.n q.c 0 100 (by omega) hnc W
      simpa using this
    have y1 : Bk ((w.alloc (.cells #[.int .i64 q.h.kd, .int .i64 q.h.fl, .int .i64 q.h.pa, .int .i64 q.h.sr, .int .i64 q.h.ds, .int .i64 q.h.cn, .int .i64 q.h.sq, .int .i64 q.h.pu, .slice q.A 100 q.c] 40)).alloc (.cells #[.int .i64 0, .int .i64 0, .int .i64 0, .int .i64 0, .int .i64 0, .int .i64 0, .int .i64 0, .int .i64 0, .slice none 0 0] 40)) 40 w.heap.size [.int .i64 q.h.kd, .int .i64 q.h.fl, .int .i64 q.h.pa, .int .i64 q.h.sr, .int .i64 q.h.ds, .int .i64 q.h.cn, .int .i64 q.h.sq, .int .i64 q.h.pu, .slice q.A 100 q.c] := (Bk.new w 40 [.int .i64 q.h.kd, .int .i64 q.h.fl, .int .i64 q.h.pa, .int .i64 q.h.sr, .int .i64 q.h.ds, .int .i64 q.h.cn, .int .i64 q.h.sq, .int .i64 q.h.pu, .slice q.A 100 q.c]).alloc _
    have y2 : Bk ((w.alloc (.cells #[.int .i64 q.h.kd, .int .i64 q.h.fl, .int .i64 q.h.pa, .int .i64 q.h.sr, .int .i64 q.h.ds, .int .i64 q.h.cn, .int .i64 q.h.sq, .int .i64 q.h.pu, .slice q.A 100 q.c] 40)).alloc (.cells #[.int .i64 0, .int .i64 0, .int .i64 0, .int .i64 0, .int .i64 0, .int .i64 0, .int .i64 0, .int .i64 0, .slice none 0 0] 40)) 40 (w.heap.size + 1) [.int .i64 0, .int .i64 0, .int .i64 0, .int .i64 0, .int .i64 0, .int .i64 0, .int .i64 0, .int .i64 0, .slice none 0 0] := by
      have := Bk.new (w.alloc (.cells #[.int .i64 q.h.kd, .int .i64 q.h.fl, .int .i64 q.h.pa, .int .i64 q.h.sr, .int .i64 q.h.ds, .int .i64 q.h.cn, .int .i64 q.h.sq, .int .i64 q.h.pu, .slice q.A 100 q.c] 40)) 40 [.int .i64 0, .int .i64 0, .int .i64 0, .int .i64 0, .int .i64 0, .int .i64 0, .int .i64 0, .int .i64 0, .slice none 0 0]
      rw [World.size_alloc] at this
      exact this
    have HB := Lib.hid (((Below.refl _ w).alloc (Nat.le_refl _) (.cells #[.int .i64 q.h.kd, .int .i64 q.h.fl, .int .i64 q.h.pa, .int .i64 q.h.sr, .int .i64 q.h.ds, .int .i64 q.h.cn, .int .i64 q.h.sq, .int .i64 q.h.pu, .slice q.A 100 q.c] 40)).alloc (by simp) (.cells #[.int .i64 0, .int .i64 0, .int .i64 0, .int .i64 0, .int .i64 0, .int .i64 0, .int .i64 0, .int .i64 0, .slice none 0 0] 40) : Below w.heap.size w ((w.alloc (.cells #[.int .i64 q.h.kd, .int .i64 q.h.fl, .int .i64 q.h.pa, .int .i64 q.h.sr, .int .i64 q.h.ds, .int .i64 q.h.cn, .int .i64 q.h.sq, .int .i64 q.h.pu, .slice q.A 100 q.c] 40)).alloc (.cells #[.int .i64 0, .int .i64 0, .int .i64 0, .int .i64 0, .int .i64 0, .int .i64 0, .int .i64 0, .int .i64 0, .slice none 0 0] 40)))
    have HK : Hid (min q.n 100 = 100) := Lib.hid (by omega)
    clear hb1 z1 z2
    go_enter Try.func10, Try.ntmps10
    go_wp2_with (first
      | (with_reducible refine at_load 40 (.tmp 1) (by rfl) ?_; refine wpList_load_bk rowP rfl (.tmp 1) rfl w.heap.size 0 rfl y1 [.int .i64 q.h.kd, .int .i64 q.h.fl, .int .i64 q.h.pa, .int .i64 q.h.sr, .int .i64 q.h.ds, .int .i64 q.h.cn, .int .i64 q.h.sq, .int .i64 q.h.pu, .slice q.A 100 q.c] rfl rfl ?_)
      | (with_reducible refine at_store 40 (.tmp 2) (.tmp 11) (by rfl) ?_; refine wpList_store_bk rowP rfl (.tmp 2) (.tmp 11) rfl (w.heap.size + 1) 0 rfl y2 [.int .i64 q.h.kd, .int .i64 q.h.fl, .int .i64 q.h.pa, .int .i64 q.h.sr, .int .i64 q.h.ds, .int .i64 q.h.cn, .int .i64 q.h.sq, .int .i64 q.h.pu, .slice q.A 100 q.c] rfl rfl (by decide) (by simp [Value.oneCell']) ?_; rintro w5 z5 hw5
         rw [lay_all _ _ (by rfl)] at z5))
    exact bodyPost_ret (results_cell rfl rfl (rowP.load z5 0 (cs := [.int .i64 q.h.kd, .int .i64 q.h.fl, .int .i64 q.h.pa, .int .i64 q.h.sr, .int .i64 q.h.ds, .int .i64 q.h.cn, .int .i64 q.h.sq, .int .i64 q.h.pu, .slice q.A 100 q.c]) rfl rfl)) rfl ⟨by unfold Pv.look; rw [HK.out], HB.out.trans (hw5.below (by omega) HB.out.size)⟩
end Go.Proofs.Ytmmjhijgedboiaa
namespace Go.Proofs.Ytmmjhijgedboiaa
open Go.RowKit Go.Shelf
def Zr.of (c : Cf) : Zr := ⟨c.c0, c.c2, c.c3, c.c5, c.c6, c.c7, c.c8, c.c9, c.c10, c.c11, c.c12, c.c13, none, 0, 0, none, 0, 0⟩
section
variable {w : World}
theorem zR_oneR : ∀ v ∈ ([.int .i64 0, .int .i64 0, .int .i64 0, .int .i64 0, .int .i64 0, .int .i64 0, .int .i64 0, .int .i64 0, .int .i64 0, .int .i64 0, .int .i64 0, .int .i64 0, .int .i64 0, .int .i64 0, .int .i64 0, .int .i64 0, .int .i64 0, .int .i64 0, .int .i64 0, .slice none 0 0, .slice none 0 0, .int .i64 0, .int .i64 0, .int .i64 0, .int .i64 0, .int .i64 0, .int .i64 0, .bool false] : List Value), v.oneCell' = true := by simp [Value.oneCell']
set_option maxHeartbeats 8000000 in
theorem r_new_bad (c : Cf) (s d n k : Int) (h : newE c s d n k ≠ 0) : Calls Try.prog 7 #[.agg #[.int .i64 c.c0, .int .i64 c.c1, .int .i64 c.c2, .int .i64 c.c3, .int .i64 c.c4, .int .i64 c.c5, .int .i64 c.c6, .int .i64 c.c7, .int .i64 c.c8, .int .i64 c.c9, .int .i64 c.c10, .int .i64 c.c11, .int .i64 c.c12, .int .i64 c.c13], .int .i64 s, .int .i64 d, .int .i64 n, .int .i64 k] w fun en w' => en = .returned (.tuple #[.agg #[.int .i64 0, .int .i64 0, .int .i64 0, .int .i64 0, .int .i64 0, .int .i64 0, .int .i64 0, .int .i64 0, .int .i64 0, .int .i64 0, .int .i64 0, .int .i64 0, .int .i64 0, .int .i64 0, .int .i64 0, .int .i64 0, .int .i64 0, .int .i64 0, .int .i64 0, .slice none 0 0, .slice none 0 0, .int .i64 0, .int .i64 0, .int .i64 0, .int .i64 0, .int .i64 0, .int .i64 0, .bool false], .int .i64 (newE c s d n k)]) ∧ Below w.heap.size w w' := by
  have hb1 : Below w.heap.size w ((w.alloc (.cells #[.int .i64 c.c0, .int .i64 c.c1, .int .i64 c.c2, .int .i64 c.c3, .int .i64 c.c4, .int .i64 c.c5, .int .i64 c.c6, .int .i64 c.c7, .int .i64 c.c8, .int .i64 c.c9, .int .i64 c.c10, .int .i64 c.c11, .int .i64 c.c12, .int .i64 c.c13] 23)).alloc (.cells #[.int .i64 0, .int .i64 0, .int .i64 0, .int .i64 0, .int .i64 0, .int .i64 0, .int .i64 0, .int .i64 0, .int .i64 0, .int .i64 0, .int .i64 0, .int .i64 0, .int .i64 0, .int .i64 0, .int .i64 0, .int .i64 0, .int .i64 0, .int .i64 0, .int .i64 0, .slice none 0 0, .slice none 0 0, .int .i64 0, .int .i64 0, .int .i64 0, .int .i64 0, .int .i64 0, .int .i64 0, .bool false] 34)) := ((Below.refl _ w).alloc (Nat.le_refl _) _).alloc (by simp) _
  have z1 : Bk ((w.alloc (.cells #[.int .i64 c.c0, .int .i64 c.c1, .int .i64 c.c2, .int .i64 c.c3, .int .i64 c.c4, .int .i64 c.c5, .int .i64 c.c6, .int .i64 c.c7, .int .i64 c.c8, .int .i64 c.c9, .int .i64 c.c10, .int .i64 c.c11, .int .i64 c.c12, .int .i64 c.c13] 23)).alloc (.cells #[.int .i64 0, .int .i64 0, .int .i64 0, .int .i64 0, .int .i64 0, .int .i64 0, .int .i64 0, .int .i64 0, .int .i64 0, .int .i64 0, .int .i64 0, .int .i64 0, .int .i64 0, .int .i64 0, .int .i64 0, .int .i64 0, .int .i64 0, .int .i64 0, .int .i64 0, .slice none 0 0, .slice none 0 0, .int .i64 0, .int .i64 0, .int .i64 0, .int .i64 0, .int .i64 0, .int .i64 0, .bool false] 34)) 23 w.heap.size [.int .i64 c.c0, .int .i64 c.c1, .int .i64 c.c2, .int .i64 c.c3, .int .i64 c.c4, .int .i64 c.c5, .int .i64 c.c6, .int .i64 c.c7, .int .i64 c.c8, .int .i64 c.c9, .int .i64 c.c10, .int .i64 c.c11, .int .i64 c.c12, .int .i64 c.c13] := (Bk.new w 23 [.int .i64 c.c0, .int .i64 c.c1, .int .i64 c.c2, .int .i64 c.c3, .int .i64 c.c4, .int .i64 c.c5, .int .i64 c.c6, .int .i64 c.c7, .int .i64 c.c8, .int .i64 c.c9, .int .i64 c.c10, .int .i64 c.c11, .int .i64 c.c12, .int .i64 c.c13]).alloc _
  have z2 : Bk ((w.alloc (.cells #[.int .i64 c.c0, .int .i64 c.c1, .int .i64 c.c2, .int .i64 c.c3, .int .i64 c.c4, .int .i64 c.c5, .int .i64 c.c6, .int .i64 c.c7, .int .i64 c.c8, .int .i64 c.c9, .int .i64 c.c10, .int .i64 c.c11, .int .i64 c.c12, .int .i64 c.c13] 23)).alloc (.cells #[.int .i64 0, .int .i64 0, .int .i64 0, .int .i64 0, .int .i64 0, .int .i64 0, .int .i64 0, .int .i64 0, .int .i64 0, .int .i64 0, .int .i64 0, .int .i64 0, .int .i64 0, .int .i64 0, .int .i64 0, .int .i64 0, .int .i64 0, .int .i64 0, .int .i64 0, .slice none 0 0, .slice none 0 0, .int .i64 0, .int .i64 0, .int .i64 0, .int .i64 0, .int .i64 0, .int .i64 0, .bool false] 34)) 34 (w.heap.size + 1) [.int .i64 0, .int .i64 0, .int .i64 0, .int .i64 0, .int .i64 0, .int .i64 0, .int .i64 0, .int .i64 0, .int .i64 0, .int .i64 0, .int .i64 0, .int .i64 0, .int .i64 0, .int .i64 0, .int .i64 0, .int .i64 0, .int .i64 0, .int .i64 0, .int .i64 0, .slice none 0 0, .slice none 0 0, .int .i64 0, .int .i64 0, .int .i64 0, .int .i64 0, .int .i64 0, .int .i64 0, .bool false] := by
    have := Bk.new (w.alloc (.cells #[.int .i64 c.c0, .int .i64 c.c1, .int .i64 c.c2, .int .i64 c.c3, .int .i64 c.c4, .int .i64 c.c5, .int .i64 c.c6, .int .i64 c.c7, .int .i64 c.c8, .int .i64 c.c9, .int .i64 c.c10, .int .i64 c.c11, .int .i64 c.c12, .int .i64 c.c13] 23)) 34 [.int .i64 0, .int .i64 0, .int .i64 0, .int .i64 0, .int .i64 0, .int .i64 0, .int .i64 0, .int .i64 0, .int .i64 0, .int .i64 0, .int .i64 0, .int .i64 0, .int .i64 0, .int .i64 0, .int .i64 0, .int .i64 0, .int .i64 0, .int .i64 0, .int .i64 0, .slice none 0 0, .slice none 0 0, .int .i64 0, .int .i64 0, .int .i64 0, .int .i64 0, .int .i64 0, .int .i64 0, .bool false]
    rw [World.size_alloc] at this
    exact this
  have e1 := z1.cell 1 rfl
  have e4 := z1.cell 4 rfl
  have HB := Lib.hid hb1
  clear hb1 z1
  cases h1 : witB c.c1 1 8 with
  | false =>
    have HE : Hid (newE c s d n k = 190) := Lib.hid (by unfold newE okS okR; rw [h1]; rfl)
    clear h
    go_enter Try.func7, Try.ntmps7
    go_wp2_with (first
      | (go_at_call 32; refine (r_within _ _ _ _).mono ?_; rintro e w' ⟨rfl, rfl⟩)
      | (with_reducible refine at_store 34 (.tmp 10) (.tmp 22) (by rfl) ?_
         refine wpList_store_bk rowRv rfl (.tmp 10) (.tmp 22) rfl (w.heap.size + 1) 0 rfl z2 [.int .i64 0, .int .i64 0, .int .i64 0, .int .i64 0, .int .i64 0, .int .i64 0, .int .i64 0, .int .i64 0, .int .i64 0, .int .i64 0, .int .i64 0, .int .i64 0, .int .i64 0, .int .i64 0, .int .i64 0, .int .i64 0, .int .i64 0, .int .i64 0, .int .i64 0, .slice none 0 0, .slice none 0 0, .int .i64 0, .int .i64 0, .int .i64 0, .int .i64 0, .int .i64 0, .int .i64 0, .bool false] rfl rfl (by decide) zR_oneR ?_
         rintro w5 z5 hw5
         rw [lay_all _ _ (by rfl)] at z5))
    exact bodyPost_ret (results_cell_tmp rfl rfl (rowRv.load z5 0 (cs := [.int .i64 0, .int .i64 0, .int .i64 0, .int .i64 0, .int .i64 0, .int .i64 0, .int .i64 0, .int .i64 0, .int .i64 0, .int .i64 0, .int .i64 0, .int .i64 0, .int .i64 0, .int .i64 0, .int .i64 0, .int .i64 0, .int .i64 0, .int .i64 0, .int .i64 0, .slice none 0 0, .slice none 0 0, .int .i64 0, .int .i64 0, .int .i64 0, .int .i64 0, .int .i64 0, .int .i64 0, .bool false]) rfl rfl)) rfl ⟨by rw [HE.out]; rfl, HB.out.trans (hw5.below (by omega) HB.out.size)⟩
  | true =>
    cases h2 : witB c.c4 1 256 with
    | false =>
      have HE : Hid (newE c s d n k = 190) := Lib.hid (by unfold newE okS okR; rw [h1, h2]; rfl)
      clear h
      go_enter Try.func7, Try.ntmps7
      go_wp2_with (first
        | (go_at_call 32; refine (r_within _ _ _ _).mono ?_; rintro e w' ⟨rfl, rfl⟩)
        | (with_reducible refine at_store 34 (.tmp 10) (.tmp 22) (by rfl) ?_
           refine wpList_store_bk rowRv rfl (.tmp 10) (.tmp 22) rfl (w.heap.size + 1) 0 rfl z2 [.int .i64 0, .int .i64 0, .int .i64 0, .int .i64 0, .int .i64 0, .int .i64 0, .int .i64 0, .int .i64 0, .int .i64 0, .int .i64 0, .int .i64 0, .int .i64 0, .int .i64 0, .int .i64 0, .int .i64 0, .int .i64 0, .int .i64 0, .int .i64 0, .int .i64 0, .slice none 0 0, .slice none 0 0, .int .i64 0, .int .i64 0, .int .i64 0, .int .i64 0, .int .i64 0, .int .i64 0, .bool false] rfl rfl (by decide) zR_oneR ?_
           rintro w5 z5 hw5
           rw [lay_all _ _ (by rfl)] at z5))
      exact bodyPost_ret (results_cell_tmp rfl rfl (rowRv.load z5 0 (cs := [.int .i64 0, .int .i64 0, .int .i64 0, .int .i64 0, .int .i64 0, .int .i64 0, .int .i64 0, .int .i64 0, .int .i64 0, .int .i64 0, .int .i64 0, .int .i64 0, .int .i64 0, .int .i64 0, .int .i64 0, .int .i64 0, .int .i64 0, .int .i64 0, .int .i64 0, .slice none 0 0, .slice none 0 0, .int .i64 0, .int .i64 0, .int .i64 0, .int .i64 0, .int .i64 0, .int .i64 0, .bool false]) rfl rfl)) rfl ⟨by rw [HE.out]; rfl, HB.out.trans (hw5.below (by omega) HB.out.size)⟩
    | true =>
      cases h3 : witB s 0 7 with
      | false =>
        have HE : Hid (newE c s d n k = 5) := Lib.hid (by unfold newE okS okR; rw [h1, h2, h3]; rfl)
        clear h
        go_enter Try.func7, Try.ntmps7
        go_wp2_with (first
          | (go_at_call 32; refine (r_within _ _ _ _).mono ?_; rintro e w' ⟨rfl, rfl⟩)
          | (with_reducible refine at_store 34 (.tmp 10) (.tmp 46) (by rfl) ?_
             refine wpList_store_bk rowRv rfl (.tmp 10) (.tmp 46) rfl (w.heap.size + 1) 0 rfl z2 [.int .i64 0, .int .i64 0, .int .i64 0, .int .i64 0, .int .i64 0, .int .i64 0, .int .i64 0, .int .i64 0, .int .i64 0, .int .i64 0, .int .i64 0, .int .i64 0, .int .i64 0, .int .i64 0, .int .i64 0, .int .i64 0, .int .i64 0, .int .i64 0, .int .i64 0, .slice none 0 0, .slice none 0 0, .int .i64 0, .int .i64 0, .int .i64 0, .int .i64 0, .int .i64 0, .int .i64 0, .bool false] rfl rfl (by decide) zR_oneR ?_
             rintro w5 z5 hw5
             rw [lay_all _ _ (by rfl)] at z5))
        exact bodyPost_ret (results_cell_tmp rfl rfl (rowRv.load z5 0 (cs := [.int .i64 0, .int .i64 0, .int .i64 0, .int .i64 0, .int .i64 0, .int .i64 0, .int .i64 0, .int .i64 0, .int .i64 0, .int .i64 0, .int .i64 0, .int .i64 0, .int .i64 0, .int .i64 0, .int .i64 0, .int .i64 0, .int .i64 0, .int .i64 0, .int .i64 0, .slice none 0 0, .slice none 0 0, .int .i64 0, .int .i64 0, .int .i64 0, .int .i64 0, .int .i64 0, .int .i64 0, .bool false]) rfl rfl)) rfl ⟨by rw [HE.out]; rfl, HB.out.trans (hw5.below (by omega) HB.out.size)⟩
      | true =>
        cases h4 : witB d 0 7 with
        | false =>
          have HE : Hid (newE c s d n k = 5) := Lib.hid (by unfold newE okS okR; rw [h1, h2, h3, h4]; rfl)
          clear h
          go_enter Try.func7, Try.ntmps7
          go_wp2_with (first
            | (go_at_call 32; refine (r_within _ _ _ _).mono ?_; rintro e w' ⟨rfl, rfl⟩)
            | (with_reducible refine at_store 34 (.tmp 10) (.tmp 46) (by rfl) ?_
               refine wpList_store_bk rowRv rfl (.tmp 10) (.tmp 46) rfl (w.heap.size + 1) 0 rfl z2 [.int .i64 0, .int .i64 0, .int .i64 0, .int .i64 0, .int .i64 0, .int .i64 0, .int .i64 0, .int .i64 0, .int .i64 0, .int .i64 0, .int .i64 0, .int .i64 0, .int .i64 0, .int .i64 0, .int .i64 0, .int .i64 0, .int .i64 0, .int .i64 0, .int .i64 0, .slice none 0 0, .slice none 0 0, .int .i64 0, .int .i64 0, .int .i64 0, .int .i64 0, .int .i64 0, .int .i64 0, .bool false] rfl rfl (by decide) zR_oneR ?_
               rintro w5 z5 hw5
               rw [lay_all _ _ (by rfl)] at z5))
          exact bodyPost_ret (results_cell_tmp rfl rfl (rowRv.load z5 0 (cs := [.int .i64 0, .int .i64 0, .int .i64 0, .int .i64 0, .int .i64 0, .int .i64 0, .int .i64 0, .int .i64 0, .int .i64 0, .int .i64 0, .int .i64 0, .int .i64 0, .int .i64 0, .int .i64 0, .int .i64 0, .int .i64 0, .int .i64 0, .int .i64 0, .int .i64 0, .slice none 0 0, .slice none 0 0, .int .i64 0, .int .i64 0, .int .i64 0, .int .i64 0, .int .i64 0, .int .i64 0, .bool false]) rfl rfl)) rfl ⟨by rw [HE.out]; rfl, HB.out.trans (hw5.below (by omega) HB.out.size)⟩
        | true =>
          cases h5 : (s == d) with
          | true =>
            have HE : Hid (newE c s d n k = 5) := Lib.hid (by unfold newE okS okR; rw [h1, h2, h3, h4, h5]; rfl)
            clear h
            go_enter Try.func7, Try.ntmps7
            go_wp2_with (first
              | (go_at_call 32; refine (r_within _ _ _ _).mono ?_; rintro e w' ⟨rfl, rfl⟩)
              | (with_reducible refine at_store 34 (.tmp 10) (.tmp 46) (by rfl) ?_
                 refine wpList_store_bk rowRv rfl (.tmp 10) (.tmp 46) rfl (w.heap.size + 1) 0 rfl z2 [.int .i64 0, .int .i64 0, .int .i64 0, .int .i64 0, .int .i64 0, .int .i64 0, .int .i64 0, .int .i64 0, .int .i64 0, .int .i64 0, .int .i64 0, .int .i64 0, .int .i64 0, .int .i64 0, .int .i64 0, .int .i64 0, .int .i64 0, .int .i64 0, .int .i64 0, .slice none 0 0, .slice none 0 0, .int .i64 0, .int .i64 0, .int .i64 0, .int .i64 0, .int .i64 0, .int .i64 0, .bool false] rfl rfl (by decide) zR_oneR ?_
                 rintro w5 z5 hw5
                 rw [lay_all _ _ (by rfl)] at z5))
            exact bodyPost_ret (results_cell_tmp rfl rfl (rowRv.load z5 0 (cs := [.int .i64 0, .int .i64 0, .int .i64 0, .int .i64 0, .int .i64 0, .int .i64 0, .int .i64 0, .int .i64 0, .int .i64 0, .int .i64 0, .int .i64 0, .int .i64 0, .int .i64 0, .int .i64 0, .int .i64 0, .int .i64 0, .int .i64 0, .int .i64 0, .int .i64 0, .slice none 0 0, .slice none 0 0, .int .i64 0, .int .i64 0, .int .i64 0, .int .i64 0, .int .i64 0, .int .i64 0, .bool false]) rfl rfl)) rfl ⟨by rw [HE.out]; rfl, HB.out.trans (hw5.below (by omega) HB.out.size)⟩
          | false =>
            cases h6 : witB n 1 1073741824 with
            | false =>
              have HE : Hid (newE c s d n k = 5) := Lib.hid (by unfold newE okS okR; rw [h1, h2, h3, h4, h5, h6]; rfl)
              clear h
              go_enter Try.func7, Try.ntmps7
              go_wp2_with (first
                | (go_at_call 32; refine (r_within _ _ _ _).mono ?_; rintro e w' ⟨rfl, rfl⟩)
                | (with_reducible refine at_store 34 (.tmp 10) (.tmp 46) (by rfl) ?_
                   refine wpList_store_bk rowRv rfl (.tmp 10) (.tmp 46) rfl (w.heap.size + 1) 0 rfl z2 [.int .i64 0, .int .i64 0, .int .i64 0, .int .i64 0, .int .i64 0, .int .i64 0, .int .i64 0, .int .i64 0, .int .i64 0, .int .i64 0, .int .i64 0, .int .i64 0, .int .i64 0, .int .i64 0, .int .i64 0, .int .i64 0, .int .i64 0, .int .i64 0, .int .i64 0, .slice none 0 0, .slice none 0 0, .int .i64 0, .int .i64 0, .int .i64 0, .int .i64 0, .int .i64 0, .int .i64 0, .bool false] rfl rfl (by decide) zR_oneR ?_
                   rintro w5 z5 hw5
                   rw [lay_all _ _ (by rfl)] at z5))
              exact bodyPost_ret (results_cell_tmp rfl rfl (rowRv.load z5 0 (cs := [.int .i64 0, .int .i64 0, .int .i64 0, .int .i64 0, .int .i64 0, .int .i64 0, .int .i64 0, .int .i64 0, .int .i64 0, .int .i64 0, .int .i64 0, .int .i64 0, .int .i64 0, .int .i64 0, .int .i64 0, .int .i64 0, .int .i64 0, .int .i64 0, .int .i64 0, .slice none 0 0, .slice none 0 0, .int .i64 0, .int .i64 0, .int .i64 0, .int .i64 0, .int .i64 0, .int .i64 0, .bool false]) rfl rfl)) rfl ⟨by rw [HE.out]; rfl, HB.out.trans (hw5.below (by omega) HB.out.size)⟩
            | true =>
              cases h7 : witB k 0 1 with
              | false =>
                have HE : Hid (newE c s d n k = 5) := Lib.hid (by unfold newE okS okR; rw [h1, h2, h3, h4, h5, h6, h7]; rfl)
                clear h
                go_enter Try.func7, Try.ntmps7
                go_wp2_with (first
                  | (go_at_call 32; refine (r_within _ _ _ _).mono ?_; rintro e w' ⟨rfl, rfl⟩)
                  | (with_reducible refine at_store 34 (.tmp 10) (.tmp 46) (by rfl) ?_
                     refine wpList_store_bk rowRv rfl (.tmp 10) (.tmp 46) rfl (w.heap.size + 1) 0 rfl z2 [.int .i64 0, .int .i64 0, .int .i64 0, .int .i64 0, .int .i64 0, .int .i64 0, .int .i64 0, .int .i64 0, .int .i64 0, .int .i64 0, .int .i64 0, .int .i64 0, .int .i64 0, .int .i64 0, .int .i64 0, .int .i64 0, .int .i64 0, .int .i64 0, .int .i64 0, .slice none 0 0, .slice none 0 0, .int .i64 0, .int .i64 0, .int .i64 0, .int .i64 0, .int .i64 0, .int .i64 0, .bool false] rfl rfl (by decide) zR_oneR ?_
                     rintro w5 z5 hw5
                     rw [lay_all _ _ (by rfl)] at z5))
                exact bodyPost_ret (results_cell_tmp rfl rfl (rowRv.load z5 0 (cs := [.int .i64 0, .int .i64 0, .int .i64 0, .int .i64 0, .int .i64 0, .int .i64 0, .int .i64 0, .int .i64 0, .int .i64 0, .int .i64 0, .int .i64 0, .int .i64 0, .int .i64 0, .int .i64 0, .int .i64 0, .int .i64 0, .int .i64 0, .int .i64 0, .int .i64 0, .slice none 0 0, .slice none 0 0, .int .i64 0, .int .i64 0, .int .i64 0, .int .i64 0, .int .i64 0, .int .i64 0, .bool false]) rfl rfl)) rfl ⟨by rw [HE.out]; rfl, HB.out.trans (hw5.below (by omega) HB.out.size)⟩
              | true =>
                exact absurd (by unfold newE okS okR; rw [h1, h2, h3, h4, h5, h6, h7]; rfl) h
set_option maxHeartbeats 8000000 in
theorem r_new_ok (c : Cf) (s d n k : Int) (h : newE c s d n k = 0) {pa size : Nat} (hc1 : c.c1 = pa) (hc4 : c.c4 = size) : Calls Try.prog 7 #[.agg #[.int .i64 c.c0, .int .i64 c.c1, .int .i64 c.c2, .int .i64 c.c3, .int .i64 c.c4, .int .i64 c.c5, .int .i64 c.c6, .int .i64 c.c7, .int .i64 c.c8, .int .i64 c.c9, .int .i64 c.c10, .int .i64 c.c11, .int .i64 c.c12, .int .i64 c.c13], .int .i64 s, .int .i64 d, .int .i64 n, .int .i64 k] w fun en w' => en = .returned (.tuple #[.agg #[.int .i64 (Zr.of c).c0, .int .i64 (Rm.new size pa s d n k).pa, .int .i64 (Zr.of c).c2, .int .i64 (Zr.of c).c3, .int .i64 (Rm.new size pa s d n k).size, .int .i64 (Zr.of c).c5, .int .i64 (Zr.of c).c6, .int .i64 (Zr.of c).c7, .int .i64 (Zr.of c).c8, .int .i64 (Zr.of c).c9, .int .i64 (Zr.of c).c10, .int .i64 (Zr.of c).c11, .int .i64 (Zr.of c).c12, .int .i64 (Zr.of c).c13, .int .i64 (Rm.new size pa s d n k).sr, .int .i64 (Rm.new size pa s d n k).ds, .int .i64 (Rm.new size pa s d n k).cn, .int .i64 (Rm.new size pa s d n k).cl, .int .i64 (Rm.new size pa s d n k).base, .slice (Zr.of c).A (Zr.of c).n (Zr.of c).c, .slice (Zr.of c).J (Zr.of c).jn (Zr.of c).jc, .int .i64 (Rm.new size pa s d n k).jm.ps.length, .int .i64 (Rm.new size pa s d n k).jm.N, .int .i64 (Rm.new size pa s d n k).jm.T, .int .i64 (Rm.new size pa s d n k).ar, .int .i64 (Rm.new size pa s d n k).pl, .int .i64 (Rm.new size pa s d n k).pd, .bool (Rm.new size pa s d n k).dn], .int .i64 0]) ∧ Below w.heap.size w w' := by
  obtain ⟨g1, g2⟩ := newE_ok h
  simp only [okS, okR, Bool.and_eq_true] at g1 g2
  obtain ⟨h1, h2⟩ := g1
  obtain ⟨⟨⟨⟨h3, h4⟩, h5'⟩, h6⟩, h7⟩ := g2
  have h5 : (s == d) = false := by cases hh : (s == d) <;> simp_all
  obtain ⟨c0, c1, c2, c3, c4, c5, c6, c7, c8, c9, c10, c11, c12, c13⟩ := c
  dsimp only at hc1 hc4 h1 h2
  subst hc1 hc4
  have hb1 : Below w.heap.size w ((w.alloc (.cells #[.int .i64 c0, .int .i64 pa, .int .i64 c2, .int .i64 c3, .int .i64 size, .int .i64 c5, .int .i64 c6, .int .i64 c7, .int .i64 c8, .int .i64 c9, .int .i64 c10, .int .i64 c11, .int .i64 c12, .int .i64 c13] 23)).alloc (.cells #[.int .i64 0, .int .i64 0, .int .i64 0, .int .i64 0, .int .i64 0, .int .i64 0, .int .i64 0, .int .i64 0, .int .i64 0, .int .i64 0, .int .i64 0, .int .i64 0, .int .i64 0, .int .i64 0, .int .i64 0, .int .i64 0, .int .i64 0, .int .i64 0, .int .i64 0, .slice none 0 0, .slice none 0 0, .int .i64 0, .int .i64 0, .int .i64 0, .int .i64 0, .int .i64 0, .int .i64 0, .bool false] 34)) := ((Below.refl _ w).alloc (Nat.le_refl _) _).alloc (by simp) _
  have z1 : Bk ((w.alloc (.cells #[.int .i64 c0, .int .i64 pa, .int .i64 c2, .int .i64 c3, .int .i64 size, .int .i64 c5, .int .i64 c6, .int .i64 c7, .int .i64 c8, .int .i64 c9, .int .i64 c10, .int .i64 c11, .int .i64 c12, .int .i64 c13] 23)).alloc (.cells #[.int .i64 0, .int .i64 0, .int .i64 0, .int .i64 0, .int .i64 0, .int .i64 0, .int .i64 0, .int .i64 0, .int .i64 0, .int .i64 0, .int .i64 0, .int .i64 0, .int .i64 0, .int .i64 0, .int .i64 0, .int .i64 0, .int .i64 0, .int .i64 0, .int .i64 0, .slice none 0 0, .slice none 0 0, .int .i64 0, .int .i64 0, .int .i64 0, .int .i64 0, .int .i64 0, .int .i64 0, .bool false] 34)) 23 w.heap.size [.int .i64 c0, .int .i64 pa, .int .i64 c2, .int .i64 c3, .int .i64 size, .int .i64 c5, .int .i64 c6, .int .i64 c7, .int .i64 c8, .int .i64 c9, .int .i64 c10, .int .i64 c11, .int .i64 c12, .int .i64 c13] := (Bk.new w 23 [.int .i64 c0, .int .i64 pa, .int .i64 c2, .int .i64 c3, .int .i64 size, .int .i64 c5, .int .i64 c6, .int .i64 c7, .int .i64 c8, .int .i64 c9, .int .i64 c10, .int .i64 c11, .int .i64 c12, .int .i64 c13]).alloc _
  have z2 : Bk ((w.alloc (.cells #[.int .i64 c0, .int .i64 pa, .int .i64 c2, .int .i64 c3, .int .i64 size, .int .i64 c5, .int .i64 c6, .int .i64 c7, .int .i64 c8, .int .i64 c9, .int .i64 c10, .int .i64 c11, .int .i64 c12, .int .i64 c13] 23)).alloc (.cells #[.int .i64 0, .int .i64 0, .int .i64 0, .int .i64 0, .int .i64 0, .int .i64 0, .int .i64 0, .int .i64 0, .int .i64 0, .int .i64 0, .int .i64 0, .int .i64 0, .int .i64 0, .int .i64 0, .int .i64 0, .int .i64 0, .int .i64 0, .int .i64 0, .int .i64 0, .slice none 0 0, .slice none 0 0, .int .i64 0, .int .i64 0, .int .i64 0, .int .i64 0, .int .i64 0, .int .i64 0, .bool false] 34)) 34 (w.heap.size + 1) [.int .i64 0, .int .i64 0, .int .i64 0, .int .i64 0, .int .i64 0, .int .i64 0, .int .i64 0, .int .i64 0, .int .i64 0, .int .i64 0, .int .i64 0, .int .i64 0, .int .i64 0, .int .i64 0, .int .i64 0, .int .i64 0, .int .i64 0, .int .i64 0, .int .i64 0, .slice none 0 0, .slice none 0 0, .int .i64 0, .int .i64 0, .int .i64 0, .int .i64 0, .int .i64 0, .int .i64 0, .bool false] := by
    have := Bk.new (w.alloc (.cells #[.int .i64 c0, .int .i64 pa, .int .i64 c2, .int .i64 c3, .int .i64 size, .int .i64 c5, .int .i64 c6, .int .i64 c7, .int .i64 c8, .int .i64 c9, .int .i64 c10, .int .i64 c11, .int .i64 c12, .int .i64 c13] 23)) 34 [.int .i64 0, .int .i64 0, .int .i64 0, .int .i64 0, .int .i64 0, .int .i64 0, .int .i64 0, .int .i64 0, .int .i64 0, .int .i64 0, .int .i64 0, .int .i64 0, .int .i64 0, .int .i64 0, .int .i64 0, .int .i64 0, .int .i64 0, .int .i64 0, .int .i64 0, .slice none 0 0, .slice none 0 0, .int .i64 0, .int .i64 0, .int .i64 0, .int .i64 0, .int .i64 0, .int .i64 0, .bool false]
    rw [World.size_alloc] at this
    exact this
  have e1 := z1.cell 1 rfl
  have e4 := z1.cell 4 rfl
  have HB := Lib.hid hb1
  have HNW : Hid (∀ v ∈ [Value.int .i64 c0, .int .i64 pa, .int .i64 c2, .int .i64 c3, .int .i64 size, .int .i64 c5, .int .i64 c6, .int .i64 c7, .int .i64 c8, .int .i64 c9, .int .i64 c10, .int .i64 c11, .int .i64 c12, .int .i64 c13, .int .i64 s, .int .i64 d, .int .i64 n, .int .i64 k, .int .i64 0, .slice none 0 0, .slice none 0 0, .int .i64 0, .int .i64 0, .int .i64 0, .int .i64 0, .int .i64 0, .int .i64 0, .bool false], v.oneCell' = true) := Lib.hid (by simp [Value.oneCell'])
  clear hb1 h h5'
  go_enter Try.func7, Try.ntmps7
  go_wp2_with (first
    | (go_at_call 32; refine (r_within _ _ _ _).mono ?_; rintro e w' ⟨rfl, rfl⟩)
    | (with_reducible refine at_load 23 (.tmp 5) (by rfl) ?_
       refine wpList_load_bk rowCf rfl (.tmp 5) rfl w.heap.size 0 rfl z1 [.int .i64 c0, .int .i64 pa, .int .i64 c2, .int .i64 c3, .int .i64 size, .int .i64 c5, .int .i64 c6, .int .i64 c7, .int .i64 c8, .int .i64 c9, .int .i64 c10, .int .i64 c11, .int .i64 c12, .int .i64 c13] rfl rfl ?_)
    | (with_reducible refine at_store 34 (.tmp 10) (.tmp 52) (by rfl) ?_
       refine wpList_store_bk rowRv rfl (.tmp 10) (.tmp 52) rfl (w.heap.size + 1) 0 rfl z2 [Value.int .i64 c0, .int .i64 pa, .int .i64 c2, .int .i64 c3, .int .i64 size, .int .i64 c5, .int .i64 c6, .int .i64 c7, .int .i64 c8, .int .i64 c9, .int .i64 c10, .int .i64 c11, .int .i64 c12, .int .i64 c13, .int .i64 s, .int .i64 d, .int .i64 n, .int .i64 k, .int .i64 0, .slice none 0 0, .slice none 0 0, .int .i64 0, .int .i64 0, .int .i64 0, .int .i64 0, .int .i64 0, .int .i64 0, .bool false] rfl rfl (by decide) HNW.out ?_
       rintro w5 z5 hw5
       rw [lay_all _ _ (by rfl)] at z5))
  exact bodyPost_ret (results_cell_tmp rfl rfl (rowRv.load z5 0 (cs := [Value.int .i64 c0, .int .i64 pa, .int .i64 c2, .int .i64 c3, .int .i64 size, .int .i64 c5, .int .i64 c6, .int .i64 c7, .int .i64 c8, .int .i64 c9, .int .i64 c10, .int .i64 c11, .int .i64 c12, .int .i64 c13, .int .i64 s, .int .i64 d, .int .i64 n, .int .i64 k, .int .i64 0, .slice none 0 0, .slice none 0 0, .int .i64 0, .int .i64 0, .int .i64 0, .int .i64 0, .int .i64 0, .int .i64 0, .bool false]) rfl rfl)) rfl ⟨rfl, HB.out.trans (hw5.below (by omega) HB.out.size)⟩
theorem RfR.new (F : Nat → Prop) (c : Cf) (size pa : Nat) (s d n k : Int) : RfR F w (Zr.of c) (Rm.new size pa s d n k) := ⟨SlP.nil _ _, BsR.nil _, fun k hk => by obtain ⟨ad, he, _⟩ := hk; cases he⟩
end
end Go.Proofs.Ytmmjhijgedboiaa
namespace Go.Proofs.Ytmmjhijgedboiaa
open Go.RowKit Go.Shelf
section
variable {F : Nat → Prop} {w w' : World} {m : Rm} {z : Zr}
/-- Between two rounds. -/
structure NuI (w : World) (z : Zr) (m : Rm) (xs : List Int) (A' : Option Addr) (n' c' : Nat) (W : World) : Prop where
  bx : Bk W 34 w.heap.size [.int .i64 z.c0, .int .i64 m.pa, .int .i64 z.c2, .int .i64 z.c3, .int .i64 m.size, .int .i64 z.c5, .int .i64 z.c6, .int .i64 z.c7, .int .i64 z.c8, .int .i64 z.c9, .int .i64 z.c10, .int .i64 z.c11, .int .i64 z.c12, .int .i64 z.c13, .int .i64 m.sr, .int .i64 m.ds, .int .i64 m.cn, .int .i64 m.cl, .int .i64 m.base, .slice z.A z.n z.c, .slice z.J z.jn z.jc, .int .i64 m.jm.ps.length, .int .i64 m.jm.N, .int .i64 m.jm.T, .int .i64 m.ar, .int .i64 m.pl, .int .i64 m.pd, .bool m.dn]
  ls : Lst 3 (w.heap.size + 1 ≤ ·) W A' n' c' (intV xs)
  bel : Below w.heap.size w W
theorem intV_app (xs : List Int) (x : Int) : intV (xs ++ [x]) = intV xs ++ [.int .i64 x] := by simp [intV]
theorem NuI.next {xs : List Int} {x : Int} {A' : Option Addr} {n' c' : Nat} {W W' : World} {v : Value} (h : NuI w z m xs A' n' c' W) (hap : Apd 3 (w.heap.size + 1 ≤ ·) (W.alloc (.cells #[.int .i64 x] 3)) v (intV xs ++ [.int .i64 x]) W') :
    ∃ A2 n2 c2, v = .slice A2 n2 c2 ∧ NuI w z m (xs ++ [x]) A2 n2 c2 W' := by
  obtain ⟨h1, h2, h3⟩ := h
  obtain ⟨A2, n2, c2, rfl, hl⟩ := hap.ex
  have hlt := h1.lt
  refine ⟨A2, n2, c2, rfl, (h1.alloc _).st hap.st (by omega), ?_, ?_⟩
  · rw [intV_app]
    exact hl.mono fun k hk => by
      rcases hk with hk | hk
      · exact hk
      · simp at hk; omega
  · exact (h3.trans ((Below.refl _ _).alloc h3.size _)).trans (hap.st.below (by have := h3.size; simp; omega) (fun k hk => by omega))
set_option maxHeartbeats 4000000 in
theorem r_numbers (h : SlP F w z.A z.n z.c m.ks) (hn : z.n ≤ 100000) : Calls Try.prog 24 #[.agg #[.int .i64 z.c0, .int .i64 m.pa, .int .i64 z.c2, .int .i64 z.c3, .int .i64 m.size, .int .i64 z.c5, .int .i64 z.c6, .int .i64 z.c7, .int .i64 z.c8, .int .i64 z.c9, .int .i64 z.c10, .int .i64 z.c11, .int .i64 z.c12, .int .i64 z.c13, .int .i64 m.sr, .int .i64 m.ds, .int .i64 m.cn, .int .i64 m.cl, .int .i64 m.base, .slice z.A z.n z.c, .slice z.J z.jn z.jc, .int .i64 m.jm.ps.length, .int .i64 m.jm.N, .int .i64 m.jm.T, .int .i64 m.ar, .int .i64 m.pl, .int .i64 m.pd, .bool m.dn]] w (Made 3 (intV (sqs m.ks)) w) := by
  have HI : Hid (NuI w z m ((sqs m.ks).take 0) none 0 0 (w.alloc (.cells #[.int .i64 z.c0, .int .i64 m.pa, .int .i64 z.c2, .int .i64 z.c3, .int .i64 m.size, .int .i64 z.c5, .int .i64 z.c6, .int .i64 z.c7, .int .i64 z.c8, .int .i64 z.c9, .int .i64 z.c10, .int .i64 z.c11, .int .i64 z.c12, .int .i64 z.c13, .int .i64 m.sr, .int .i64 m.ds, .int .i64 m.cn, .int .i64 m.cl, .int .i64 m.base, .slice z.A z.n z.c, .slice z.J z.jn z.jc, .int .i64 m.jm.ps.length, .int .i64 m.jm.N, .int .i64 m.jm.T, .int .i64 m.ar, .int .i64 m.pl, .int .i64 m.pd, .bool m.dn] 34))) := Lib.hid ⟨Bk.new w 34 [.int .i64 z.c0, .int .i64 m.pa, .int .i64 z.c2, .int .i64 z.c3, .int .i64 m.size, .int .i64 z.c5, .int .i64 z.c6, .int .i64 z.c7, .int .i64 z.c8, .int .i64 z.c9, .int .i64 z.c10, .int .i64 z.c11, .int .i64 z.c12, .int .i64 z.c13, .int .i64 m.sr, .int .i64 m.ds, .int .i64 m.cn, .int .i64 m.cl, .int .i64 m.base, .slice z.A z.n z.c, .slice z.J z.jn z.jc, .int .i64 m.jm.ps.length, .int .i64 m.jm.N, .int .i64 m.jm.T, .int .i64 m.ar, .int .i64 m.pl, .int .i64 m.pd, .bool m.dn], Lst.nil _ _ _, (Below.refl _ w).alloc (Nat.le_refl _) _⟩
  have hkl := h.len
  have HH := Lib.hid h
  have hzc : z.n ≤ z.c ∧ z.c ≤ 9223372036854775807 := by
    obtain ⟨qs, _, h2, _⟩ := h
    have h3 := h2.2.2.1
    unfold maxLen at h3
    exact ⟨h2.2.1, by omega⟩
  obtain ⟨hz1, hz2⟩ := hzc
  clear h
  go_enter Try.func24, Try.ntmps24
  go_wp2
  go_loopw [3, 4] (fun v i wr => ∃ (j : Nat) (A' : Option Addr) (n' c' : Nat), j ≤ z.n ∧ v = .slice A' n' c' ∧ i = .int .i64 j ∧ NuI w z m ((sqs m.ks).take j) A' n' c' wr) (fun _ i _ => z.n - (intOf i).toNat)
  case atStart => exact ⟨0, none, 0, 0, Nat.zero_le _, rfl, rfl, HI.out⟩
  case round =>
    clear HI
    obtain ⟨j, A', n', c', hj, rfl, rfl, hI⟩ := hrel
    have HIJ := Lib.hid hI
    have hnj : n' = j := by
      have := hI.ls.1
      rw [intV_len, List.length_take] at this
      have h2 : (sqs m.ks).length = m.ks.length := by simp [sqs]
      omega
    subst hnj
    have c6 := hI.bx.cell 19 rfl
    have hls := hI.ls
    have hbl := hI.bel
    by_cases hlt : n' < z.n
    · have hlt' : (n' : Int) < z.n := by omega
      obtain ⟨g, o, q, hzA, hra, _, hk, hg⟩ := (HH.out.below hbl).row hlt
      have d6 := hra 6 (.int .i64 q.h.sq) rfl
      have HT : Hid ((sqs m.ks).take (n' + 1) = (sqs m.ks).take n' ++ [q.h.sq]) := Lib.hid (by
        have hl : n' < (sqs m.ks).length := by have h2 : (sqs m.ks).length = m.ks.length := by simp [sqs]
                                               omega
        rw [List.take_succ_eq_append_getElem hl]
        congr 2
        have : (sqs m.ks)[n']? = some q.h.sq := by
          unfold sqs
          rw [List.getElem?_map, ← hk]
          rfl
        rw [List.getElem?_eq_getElem hl] at this
        injection this)
      have hla := hls.alloc (.cells #[.int .i64 q.h.sq] 3)
      have hu := RdV.one wr 3 (.int .i64 q.h.sq) rfl
      rw [hzA] at c6
      clear hls hbl hra hk hI hzA
      go_wp2_with (
         at_builtin
         refine wpList_append_lst eltI rfl (.tmp 12) (.tmp 19) rfl rfl hla rfl hu (by omega) ?_
         rintro v w2 hap
         obtain ⟨A2, n2, c2', rfl, hnx⟩ := HIJ.out.next hap
         have HNX := Lib.hid hnx
         clear hap hnx)
      go_roundw
      case rel => exact ⟨n' + 1, A2, n2, c2', by omega, rfl, by go_num, by rw [HT.out]; exact HNX.out⟩
      case measure => simp [intOf]; omega
    · obtain rfl : n' = z.n := by omega
      have HF : Hid (Made 3 (intV (sqs m.ks)) w (.returned (.slice A' z.n c')) wr) := Lib.hid ⟨A', z.n, c', rfl, by
        rw [List.take_of_length_le (by have h2 : (sqs m.ks).length = m.ks.length := by simp [sqs]
                                       omega)] at hls
        exact hls.mono fun k hk => by omega, hbl⟩
      clear hls hbl hI
      go_wp2
      go_ret
      exact HF.out
end
end Go.Proofs.Ytmmjhijgedboiaa
namespace Go.Proofs.Ytmmjhijgedboiaa
open Go.RowKit Go.Shelf
abbrev PkT : Ty := .one (.int .i64) (.one (.int .i64) (.one (.int .i64) (.one (.int .i64) (.one (.int .i64) (.one (.int .i64) (.one (.int .i64) (.one (.int .i64) (.one (.sl (.int .u8)) .unit))))))))
abbrev OpT : Ty := .one (.int .u8) (.one PkT .unit)
theorem i64_max {x : Int} (h : (Lit.int .i64 x).wf = true) : x ≤ 9223372036854775807 := by
  simp [Lit.wf, IntKind.min, IntKind.max, IntKind.signed, IntKind.bits] at h
  omega
theorem u8_nat {x : Int} (h : (Lit.int .u8 x).wf = true) : ∃ n : Nat, x = n ∧ n < 256 := by
  have := u8_bounds h
  exact ⟨x.toNat, by omega, by omega⟩
def opL (dv : Nat) (q : Pv) : List Value := .int .u8 dv :: q.cl
/-- The k-th call, as it lies in memory. -/
theorem op_at {w : World} {s : Sl OpT.den} (h : (Ty.sl OpT).reads w s) (k : Nat) (hk : k < s.n) : ∃ (g o dv : Nat) (q : Pv), s.A = some ⟨g, o, none⟩ ∧ g < w.heap.size ∧
    w.rangeAt g (o + k * 10) (opL dv q) ∧ dv < 256 ∧ Rd .u8 w q.A q.n q.c q.xs ∧ q.h.fl ≤ 9223372036854775807 := by
  obtain ⟨h1, h2, h3, h4, h5, h6⟩ := h
  have h1' : s.l.length = s.n := h1
  have hkl : k < s.l.length := by omega
  obtain ⟨g, o, hA, hg, hx⟩ := h5 (by omega) (show 0 < 10 from by omega)
  have hr : OpT.reads w s.l[k] := h6 _ (List.getElem_mem _)
  have hx' := hx k hkl
  obtain ⟨x, hxe⟩ : ∃ x, x = s.l[k] := ⟨_, rfl⟩
  rw [← hxe] at hr hx'
  clear hxe hx
  obtain ⟨dv, ⟨kd, fl, pa, sr, ds, cn, sq, pu, ⟨A, n, c, xs⟩, u⟩, v⟩ := x
  obtain ⟨r1, r2, _⟩ := hr
  obtain ⟨dn, hdn, hd⟩ := u8_nat r1
  subst hdn
  refine ⟨g, o, dn, ⟨⟨kd, fl, pa, sr, ds, cn, sq, pu⟩, A, n, c, xs⟩, hA, hg, ?_, hd, rd_of_reads ⟨A, n, c, xs⟩ r2.2.2.2.2.2.2.2.2.1, i64_max r2.2.1⟩
  exact fun j v hv => hx' j v hv
theorem op_pk {w W : World} {g o : Nat} {dv : Nat} {q : Pv} (h : w.rangeAt g o (opL dv q)) (hg : g < w.heap.size) (hb : Below w.heap.size w W) : W.rangeAt g (o + 1) q.cl := fun j v hv => by
  have := h (j + 1) v (by simpa [opL] using hv)
  rw [Nat.add_assoc, Nat.add_comm 1 j]
  exact (hb.cell (p := ⟨g, o + (j + 1), none⟩) hg).trans this
theorem op_kd {w W : World} {g o : Nat} {dv : Nat} {q : Pv} (h : w.rangeAt g o (opL dv q)) (hg : g < w.heap.size) (hb : Below w.heap.size w W) : W.cell? ⟨g, o, none⟩ = some (.int .u8 dv) := by
  have := h 0 (.int .u8 dv) rfl
  exact (hb.cell (p := ⟨g, o, none⟩) hg).trans this
/-- The blocks of the receiver, and the box of the reference's. -/
def FG (F : Nat → Prop) (r gb : Nat) : Nat → Prop := fun k => FR F r k ∨ k = gb
/-- A receiver and the reference's side by side. -/
structure JV (w : World) (gb : Nat) (F : Nat → Prop) (r e : Nat) (z : Zr) (m : Rm) (W : World) : Prop where
  rc : RcA F W r e m
  rf : RfR (FG F r gb) W z m
  bx : Bk W 34 gb [.int .i64 z.c0, .int .i64 m.pa, .int .i64 z.c2, .int .i64 z.c3, .int .i64 m.size, .int .i64 z.c5, .int .i64 z.c6, .int .i64 z.c7, .int .i64 z.c8, .int .i64 z.c9, .int .i64 z.c10, .int .i64 z.c11, .int .i64 z.c12, .int .i64 z.c13, .int .i64 m.sr, .int .i64 m.ds, .int .i64 m.cn, .int .i64 m.cl, .int .i64 m.base, .slice z.A z.n z.c, .slice z.J z.jn z.jc, .int .i64 m.jm.ps.length, .int .i64 m.jm.N, .int .i64 m.jm.T, .int .i64 m.ar, .int .i64 m.pl, .int .i64 m.pd, .bool m.dn]
  ng : ¬ FR F r gb
  nw : ∀ k, FG F r gb k → w.heap.size ≤ k
  bel : Below w.heap.size w W
def Al (X : Nat → Prop) (w : World) : Nat → Prop := fun k => X k ∨ k = w.heap.size
theorem al_new {n0 B : Nat} {w0 w : World} {X : Nat → Prop} (hC : Below n0 w0 w) (hn : n0 ≤ w.heap.size) (hX : ∀ k, X k → k < w.heap.size) (hB : B ≤ n0) (hoff : ∀ g, g < B → ¬ X g) (T : TypeId) (vs : List Value) :
    Bk (w.alloc (.cells vs.toArray T)) T w.heap.size vs ∧ Al X w w.heap.size ∧ Below n0 w0 (w.alloc (.cells vs.toArray T)) ∧ Below n0 w (w.alloc (.cells vs.toArray T)) ∧ Below w.heap.size w (w.alloc (.cells vs.toArray T)) ∧
      (∀ k, Al X w k → k < (w.alloc (.cells vs.toArray T)).heap.size) ∧ n0 ≤ (w.alloc (.cells vs.toArray T)).heap.size ∧ Gr X (Al X w) w.heap.size ∧ (∀ g, g < B → ¬ Al X w g) ∧ ∀ k, X k → Al X w k := by
  have hb : Below w.heap.size w (w.alloc (.cells vs.toArray T)) := (Below.refl _ _).alloc (Nat.le_refl _) _
  refine ⟨Bk.new w T vs, .inr rfl, hC.trans (hb.mono hn), hb.mono hn, hb, fun k hk => ?_, Nat.le_trans hn hb.size, fun k hk => ?_, fun g hg h => ?_, fun k hk => .inl hk⟩
  · rw [World.size_alloc]
    rcases hk with hk | rfl
    · have := hX k hk; omega
    · omega
  · rcases hk with hk | rfl
    · exact .inl hk
    · exact .inr (Nat.le_refl _)
  · rcases h with h | rfl
    · exact hoff g hg h
    · omega
theorem wr_stX {g : Nat} {w w' : World} {X : Nat → Prop} (hw : Wr g w w') (hX : X g) : St X w w' := ⟨hw.os, hw.tape, hw.output, hw.size, fun j hj hn => hw.block j hj (by intro e; injection e with e; exact hn (e ▸ hX))⟩
theorem Bk.tydR {W : World} {g : Nat} {vs : List Value} (h : Bk W 34 g vs) : ¬ Tyd 5 W g ∧ ¬ Tyd 43 W g ∧ ¬ Tyd 30 W g := by
  have ht : Tyd 34 W g := ⟨_, _, h⟩
  exact ⟨ht.ne (by decide), ht.ne (by decide), ht.ne (by decide)⟩
section
variable {w W W' W1 W2 W3 : World} {gb r e : Nat} {F F' : Nat → Prop} {z z' : Zr} {m m' : Rm}
theorem FG.st (hs : St F W W') : St (FG F r gb) W W' := hs.mono fun k _ hk => .inl (.inl hk)
theorem FG.gr {n : Nat} (hg : Gr F F' n) : Gr (FG F r gb) (FG F' r gb) n := fun k hk => by
  rcases hk with hk | hk
  · rcases FR.gr (r := r) hg k hk with h | h
    · exact .inl (.inl h)
    · exact .inr h
  · exact .inl (.inr hk)
theorem JV.lt (h : JV w gb F r e z m W) : ∀ k, FG F r gb k → k < W.heap.size := fun k hk => by
  rcases hk with hk | rfl
  · exact h.rc.lt k hk
  · exact h.bx.lt
theorem JV.next (h : JV w gb F r e z m W) (hb : Below W.heap.size W W') : JV w gb F r e z m W' := ⟨h.rc.below hb, h.rf.below hb, h.bx.below hb, h.ng, h.nw, h.bel.trans (hb.mono h.bel.size)⟩
/-- The code has gone on. -/
theorem JV.code (h : JV w gb F r e z m W) (hr : RcA F' W' r e m') (hs : St F W W') (hg : Gr F F' W.heap.size) : RcA F' W' r e m' ∧ RfR (FG F' r gb) W' z m ∧ Bk W' 34 gb [.int .i64 z.c0, .int .i64 m.pa, .int .i64 z.c2, .int .i64 z.c3, .int .i64 m.size, .int .i64 z.c5, .int .i64 z.c6, .int .i64 z.c7, .int .i64 z.c8, .int .i64 z.c9, .int .i64 z.c10, .int .i64 z.c11, .int .i64 z.c12, .int .i64 z.c13, .int .i64 m.sr, .int .i64 m.ds, .int .i64 m.cn, .int .i64 m.cl, .int .i64 m.base, .slice z.A z.n z.c, .slice z.J z.jn z.jc, .int .i64 m.jm.ps.length, .int .i64 m.jm.N, .int .i64 m.jm.T, .int .i64 m.ar, .int .i64 m.pl, .int .i64 m.pd, .bool m.dn] ∧ ¬ FR F' r gb ∧ (∀ k, FG F' r gb k → w.heap.size ≤ k) ∧ Below w.heap.size w W' := by
  have hgl := h.bx.lt
  have hsz := h.bel.size
  refine ⟨hr, h.rf.st (FG.st hs) (FG.gr hg), h.bx.st hs (fun hf => h.ng (.inl hf)), fun hf => ?_, fun k hk => ?_, h.bel.trans (hs.below hsz (fun k hk => h.nw k (.inl (.inl hk))))⟩
  · rcases FR.gr (r := r) hg gb hf with h1 | h1
    · exact h.ng h1
    · omega
  · rcases FG.gr (r := r) (gb := gb) hg k hk with h1 | h1
    · exact h.nw k h1
    · omega
/-- The reference's has, too: its box is filled. -/
theorem JV.ref (hr : RcA F W r e m) (hf : RfR (FG F r gb) W1 z' m) (hb1 : Below W.heap.size W W1) (hb2 : Below W1.heap.size W1 W2) (hk : Bk W3 34 gb [.int .i64 z'.c0, .int .i64 m.pa, .int .i64 z'.c2, .int .i64 z'.c3, .int .i64 m.size, .int .i64 z'.c5, .int .i64 z'.c6, .int .i64 z'.c7, .int .i64 z'.c8, .int .i64 z'.c9, .int .i64 z'.c10, .int .i64 z'.c11, .int .i64 z'.c12, .int .i64 z'.c13, .int .i64 m.sr, .int .i64 m.ds, .int .i64 m.cn, .int .i64 m.cl, .int .i64 m.base, .slice z'.A z'.n z'.c, .slice z'.J z'.jn z'.jc, .int .i64 m.jm.ps.length, .int .i64 m.jm.N, .int .i64 m.jm.T, .int .i64 m.ar, .int .i64 m.pl, .int .i64 m.pd, .bool m.dn]) (hw : Wr gb W2 W3) (hng : ¬ FR F r gb) (hnw : ∀ k, FG F r gb k → w.heap.size ≤ k) (hbl : Below w.heap.size w W) : JV w gb F r e z' m W3 := by
  have hst : St (· = gb) W2 W3 := ⟨hw.os, hw.tape, hw.output, hw.size, fun j hj hn => hw.block j hj (by intro e; injection e with e; exact hn e)⟩
  have hgw := hnw gb (.inr rfl)
  have h2 := hbl.trans (hb1.mono hbl.size)
  have h3 := h2.trans (hb2.mono h2.size)
  refine ⟨((hr.below hb1).below hb2).st hst (fun k hk hg => hng (hg ▸ hk)), (hf.below hb2).st (hst.mono fun k _ hk => .inr hk) (Gr.refl _ _), hk, hng, hnw, h3.trans (hw.below hgw h3.size)⟩
end
end Go.Proofs.Ytmmjhijgedboiaa
namespace Go.Proofs.Ytmmjhijgedboiaa
open Go.RowKit Go.Shelf
theorem rise_few : ∀ (l : List Pk) (lo hi : Int), Rise l → (∀ q ∈ l, lo < q.h.sq ∧ q.h.sq < hi) → lo < hi → (l.length : Int) < hi - lo
  | [], lo, hi, _, _, h => by simp; omega
  | p :: t, lo, hi, hr, hq, h => by
    have hp := hq p (by simp)
    have hr' := List.pairwise_cons.1 hr
    have ih := rise_few t p.h.sq hi hr'.2 (fun q hq' => ⟨hr'.1 q hq', (hq q (by simp [hq'])).2⟩) hp.2
    simp only [List.length_cons]
    omega
theorem Rm.Fit.few {m : Rm} {c : Nat} (h : m.Fit c) : m.ks.length < m.size := by
  have hs := h.ok.bo.s1
  have hs' : 1 ≤ m.size := hs
  have := rise_few m.ks m.base (m.base + m.size) h.ok.ri (fun q hq => ⟨h.lack q hq, by
    have h0 := h.ok.po q hq
    have hk : m.bm.s q.h.sq.toNat = true := by
      show hasK m.ks q.h.sq.toNat = true
      rw [hasK_iff]
      exact ⟨q, hq, by omega⟩
    have h2 : q.h.sq.toNat < m.base + m.size := (h.ok.bo.win _ hk).2.1
    omega⟩) (by omega)
  omega
theorem Rm.ans_nil (m : Rm) (p : Pk) : ∀ q ∈ m.ans p, q.xs = [] := by
  intro q hq
  unfold Rm.ans at hq
  split at hq
  · cases hq
  · split at hq
    · rw [List.mem_singleton] at hq; rw [hq]; rfl
    · split at hq
      · cases hq
      · split at hq
        · rw [List.mem_singleton] at hq; rw [hq]; rfl
        · rw [List.mem_singleton] at hq; rw [hq]; rfl
theorem Rm.ans_len (m : Rm) (p : Pk) : (m.ans p).length ≤ 1 := by
  unfold Rm.ans
  split
  · simp
  · split
    · simp
    · split
      · simp
      · split <;> simp
theorem SlP.plus {F : Nat → Prop} {w : World} {A : Option Addr} {n c gb : Nat} {ks : List Pk} (h : SlP F w A n c ks) (hx : ∀ p ∈ ks, p.xs = []) (hg : 0 < n → ∀ ad, A = some ad → ad.block ≠ gb) : SlP (fun x => F x ∨ x = gb) w A n c ks := by
  obtain ⟨qs, h1, h2, h3, h4, h5⟩ := h
  refine ⟨qs, h1, h2, h3, fun q hq => ?_, fun hn ad he hf => hf.elim (h5 hn ad he) (hg hn ad he)⟩
  obtain ⟨r1, r2, r3, r4⟩ := h4 q hq
  have hxs : q.xs = [] := hx q.pk (by rw [← h3]; exact List.mem_map_of_mem hq)
  refine ⟨r1, r2, r3, fun hn => ?_⟩
  have hl := r1.1
  rw [hxs] at hl
  simp at hl
  omega
theorem OutR.slT {F : Nat → Prop} {w W : World} {A : Option Addr} {n c : Nat} {ms : List (List Int)} (h : OutR F w W A n c ms) : SlT W A n c ms := by
  obtain ⟨bs, h1, h2, h3⟩ := h
  exact ⟨bs, h1.rdv, fun hn ad he => h1.tyd _ ⟨ad, he, rfl⟩, h2, fun b hb => (h3 b hb).1⟩
section
variable {w W W' : World} {gb r e r' e' : Nat} {F F' : Nat → Prop} {z : Zr} {m : Rm}
/-- A fork goes on. -/
theorem JV.fork (h : JV w gb F r e z m W) (hr : RcA F' W' r' e' m) (hn : ∀ k, FR F' r' k → W.heap.size ≤ k) (hb : Below W.heap.size W W') : JV w gb F' r' e' z m W' := by
  have hgl := h.bx.lt
  have hgw := h.nw gb (.inr rfl)
  have hsz := h.bel.size
  refine ⟨hr, (h.rf.st (St.refl _ _) (fun k hk => ?_)).below hb, h.bx.below hb, fun hf => by have := hn gb hf; omega, fun k hk => ?_, h.bel.trans (hb.mono hsz)⟩
  · rcases hk with hk | rfl
    · exact .inr (hn k hk)
    · exact .inl (.inr rfl)
  · rcases hk with hk | rfl
    · have := hn k hk; omega
    · exact hgw
end
end Go.Proofs.Ytmmjhijgedboiaa
namespace Go.Proofs.Ytmmjhijgedboiaa
open Go.RowKit Go.Shelf
/-- A part goes into a Join: the Join, and the messages so far. -/
def jStep (s : Jm × List (List Int)) (p : Pk) : Jm × List (List Int) := (s.1.add p.xs (hasB p.h.fl 2), s.1.outs s.2 p.xs (hasB p.h.fl 2))
def jRun (s : Jm × List (List Int)) (l : List Pk) : Jm × List (List Int) := l.foldl jStep s
theorem jRun_app (s : Jm × List (List Int)) (a b : List Pk) : jRun s (a ++ b) = jRun (jRun s a) b := by unfold jRun; rw [List.foldl_append]
/-- What is told is told behind what was told. -/
theorem jRun_out : ∀ (l : List Pk) (j : Jm) (out : List (List Int)), jRun (j, out) l = ((jRun (j, []) l).1, out ++ (jRun (j, []) l).2)
  | [], j, out => by simp [jRun]
  | p :: t, j, out => by
    have ho : ∀ o, j.outs o p.xs (hasB p.h.fl 2) = o ++ j.outs [] p.xs (hasB p.h.fl 2) := fun o => by
      unfold Jm.outs
      split <;> simp
    show jRun (j.add p.xs (hasB p.h.fl 2), j.outs out p.xs (hasB p.h.fl 2)) t = _
    rw [jRun_out t _ (j.outs out p.xs (hasB p.h.fl 2)), ho out]
    have h2 : jRun (j, []) (p :: t) = jRun (j.add p.xs (hasB p.h.fl 2), j.outs [] p.xs (hasB p.h.fl 2)) t := rfl
    rw [h2, jRun_out t _ (j.outs [] p.xs (hasB p.h.fl 2)), List.append_assoc]
/-- Numbers without a gap from b on, none the last. -/
def RunOf (b : Nat) (l : List Pk) : Prop := ∀ i p, l[i]? = some p → p.h.sq = ((b + i : Nat) : Int) ∧ hasB p.h.fl 4 = false
theorem RunOf.tail {b : Nat} {p : Pk} {t : List Pk} (h : RunOf b (p :: t)) : RunOf (b + 1) t := fun i q hq => by
  have := h (i + 1) q (by simpa using hq)
  rw [show b + 1 + i = b + (i + 1) from by omega]
  exact this
theorem avL_run : ∀ (l : List Pk) (b : Nat) (j : Jm) (out : List (List Int)) (rest : List Pk), RunOf b l → avL b j out (l ++ rest) = avL (b + l.length) (jRun (j, out) l).1 (jRun (j, out) l).2 rest
  | [], b, j, out, rest, _ => rfl
  | p :: t, b, j, out, rest, h => by
    obtain ⟨h1, h2⟩ := h 0 p rfl
    have h1' : p.h.sq = (b : Int) := h1
    have e : avL b j out (p :: (t ++ rest)) = avL (b + 1) (j.add p.xs (hasB p.h.fl 2)) (j.outs out p.xs (hasB p.h.fl 2)) (t ++ rest) := by
      conv => lhs; unfold avL
      rw [if_pos h1', if_neg (by rw [h2]; simp)]
    rw [List.cons_append, e]
    rw [avL_run t (b + 1) _ _ rest h.tail, List.length_cons, show b + 1 + t.length = b + (t.length + 1) from by omega]
    rfl
/-- It stops where a number lacks. -/
theorem avL_lack {b : Nat} {j : Jm} {out : List (List Int)} {l : List Pk} (h : ∀ p, l[0]? = some p → p.h.sq ≠ (b : Int)) : avL b j out l = ⟨b, l, j, out, false⟩ := by
  cases l with
  | nil => rfl
  | cons p t =>
    unfold avL
    rw [if_neg (h p rfl)]
end Go.Proofs.Ytmmjhijgedboiaa
namespace Go.Proofs.Ytmmjhijgedboiaa
open Go.RowKit Go.Shelf
/-- The packets of a row from number a on, below b, that came: by rising numbers. -/
def pickK (ps : List Pk) (came : Nat → Bool) (a : Nat) : Nat → List Pk
  | 0 => []
  | b + 1 => pickK ps came a b ++ (if a ≤ b ∧ came b = true then (ps[b]?).toList else [])
theorem pickK_mem {ps : List Pk} {came : Nat → Bool} {a : Nat} : ∀ {b : Nat} {p : Pk}, p ∈ pickK ps came a b ↔ ∃ i, a ≤ i ∧ i < b ∧ came i = true ∧ ps[i]? = some p
  | 0, p => by simp [pickK]
  | b + 1, p => by
    unfold pickK
    rw [List.mem_append, pickK_mem (b := b)]
    constructor
    · rintro (⟨i, h1, h2, h3, h4⟩ | h)
      · exact ⟨i, h1, by omega, h3, h4⟩
      · split at h
        · rename_i hc
          exact ⟨b, hc.1, by omega, hc.2, by simpa using h⟩
        · cases h
    · rintro ⟨i, h1, h2, h3, h4⟩
      rcases (by omega : i < b ∨ i = b) with hi | rfl
      · exact .inl ⟨i, h1, hi, h3, h4⟩
      · right
        rw [if_pos ⟨h1, h3⟩, h4]
        simp
theorem pickK_low {ps : List Pk} {came : Nat → Bool} {a : Nat} : ∀ {b : Nat}, b ≤ a → pickK ps came a b = []
  | 0, _ => rfl
  | b + 1, h => by
    unfold pickK
    rw [pickK_low (by omega), if_neg (by omega)]
    rfl
/-- Numbers from a on that all came make a run. -/
theorem pickK_run {ps : List Pk} {came : Nat → Bool} {a : Nat} : ∀ n, a + n ≤ ps.length → (∀ i, a ≤ i → i < a + n → came i = true) → pickK ps came a (a + n) = (ps.drop a).take n
  | 0, _, _ => by rw [Nat.add_zero, pickK_low (Nat.le_refl _)]; simp
  | n + 1, hl, hc => by
    have hlt : a + n < ps.length := by omega
    rw [← Nat.add_assoc]
    unfold pickK
    rw [pickK_run n (by omega) (fun i h1 h2 => hc i h1 (by omega)), if_pos ⟨by omega, hc (a + n) (by omega) (by omega)⟩, List.getElem?_eq_getElem hlt, List.take_add_one, List.getElem?_drop, List.getElem?_eq_getElem hlt]
/-- Those from a on: those of the first, then the others. -/
theorem pickK_split {ps : List Pk} {came : Nat → Bool} {a c : Nat} (hac : a ≤ c) : ∀ {b : Nat}, c ≤ b → pickK ps came a b = pickK ps came a c ++ pickK ps came c b := by
  intro b hb
  induction b with
  | zero =>
    obtain rfl : c = 0 := by omega
    simp [pickK]
  | succ b ih =>
    rcases (by omega : c = b + 1 ∨ c ≤ b) with rfl | h
    · rw [pickK_low (Nat.le_refl (b + 1)), List.append_nil]
    · show pickK ps came a b ++ _ = _ ++ (pickK ps came c b ++ _)
      rw [ih h, List.append_assoc]
      congr 2
      by_cases hc : came b = true
      · rw [if_pos ⟨by omega, hc⟩, if_pos ⟨h, hc⟩]
      · rw [if_neg (fun h => hc h.2), if_neg (fun h => hc h.2)]
end Go.Proofs.Ytmmjhijgedboiaa
namespace Go.Proofs.Ytmmjhijgedboiaa
open Go.RowKit Go.Shelf
theorem insK_mid {p : Pk} : ∀ {l1 l2 : List Pk}, (∀ q ∈ l1, q.h.sq < p.h.sq) → (∀ q ∈ l2, ¬ q.h.sq < p.h.sq) → insK p (l1 ++ l2) = l1 ++ p :: l2
  | [], [], _, _ => rfl
  | [], q :: t, _, h => by
    show insK p (q :: t) = _
    unfold insK
    rw [if_neg (h q (by simp))]
    rfl
  | q :: t, l2, h1, h2 => by
    rw [List.cons_append]
    unfold insK
    rw [if_pos (h1 q (by simp)), insK_mid (fun x hx => h1 x (by simp [hx])) h2]
    rfl
theorem pickK_congr {ps : List Pk} {came came' : Nat → Bool} {a : Nat} : ∀ {b : Nat}, (∀ i, a ≤ i → i < b → came i = came' i) → pickK ps came a b = pickK ps came' a b
  | 0, _ => rfl
  | b + 1, h => by
    unfold pickK
    rw [pickK_congr (fun i h1 h2 => h i h1 (by omega))]
    by_cases hab : a ≤ b
    · rw [h b hab (by omega)]
    · rw [if_neg (fun h => hab h.1), if_neg (fun h => hab h.1)]
/-- This number came, too. -/
def cameK (came : Nat → Bool) (k : Nat) : Nat → Bool := fun i => decide (i = k) || came i
/-- A row: each packet has its number. -/
def SqOf (ps : List Pk) : Prop := ∀ (i : Nat) (p : Pk), ps[i]? = some p → p.h.sq = i
theorem pickK_sq {ps : List Pk} {came : Nat → Bool} (hs : SqOf ps) {a b : Nat} : ∀ q ∈ pickK ps came a b, (a : Int) ≤ q.h.sq ∧ q.h.sq < b := by
  intro q hq
  obtain ⟨i, h1, h2, h3, h4⟩ := pickK_mem.1 hq
  rw [hs i q h4]
  omega
theorem pickK_ins {ps : List Pk} {came : Nat → Bool} (hs : SqOf ps) {a k b : Nat} {p : Pk} (hak : a ≤ k) (hkb : k < b) (hc : came k = false) (hp : ps[k]? = some p) :
    insK p (pickK ps came a b) = pickK ps (cameK came k) a b := by
  have h1 : pickK ps came a b = pickK ps came a k ++ pickK ps came (k + 1) b := by
    rw [pickK_split (c := k + 1) (by omega) (by omega : k + 1 ≤ b)]
    congr 1
    show pickK ps came a k ++ _ = _
    rw [if_neg (fun h => by rw [hc] at h; cases h.2), List.append_nil]
  have h2 : pickK ps (cameK came k) a b = pickK ps came a k ++ p :: pickK ps came (k + 1) b := by
    rw [pickK_split (c := k + 1) (by omega) (by omega : k + 1 ≤ b)]
    have e1 : pickK ps (cameK came k) a (k + 1) = pickK ps came a k ++ [p] := by
      show pickK ps (cameK came k) a k ++ _ = _
      rw [if_pos ⟨hak, by simp [cameK]⟩, hp, pickK_congr (came' := came) (fun i h1 h2 => by unfold cameK; rw [decide_eq_false (by omega)]; rfl)]
      rfl
    rw [e1, pickK_congr (came := cameK came k) (came' := came) (a := k + 1) (fun i h1 h2 => by unfold cameK; rw [decide_eq_false (by omega)]; rfl), List.append_assoc]
    rfl
  rw [h1, h2]
  refine insK_mid (fun q hq => ?_) (fun q hq => ?_)
  · have := pickK_sq hs q hq
    rw [hs k p hp]; omega
  · have := pickK_sq hs q hq
    rw [hs k p hp]; omega
end Go.Proofs.Ytmmjhijgedboiaa
namespace Go.Proofs.Ytmmjhijgedboiaa
open Go.RowKit Go.Shelf
structure RowP (ps : List Pk) : Prop where
  sq : SqOf ps
  n1 : 1 ≤ ps.length
  fin : ∀ (i : Nat) (p : Pk), ps[i]? = some p → hasB p.h.fl 4 = decide (i + 1 = ps.length)
def jm0 : Jm := ⟨[], 0, 0⟩
structure Ro (ps : List Pk) (came : Nat → Bool) (nx : Nat) (told : List (List Int)) (m : Rm) : Prop where
  base : m.base = nx
  le : nx ≤ ps.length
  all : ∀ i, i < nx → came i = true
  gap : came nx = false
  dom : ∀ i, came i = true → i < ps.length
  ks : m.ks = pickK ps came nx ps.length
  dn : m.dn = decide (nx = ps.length)
  jt : (m.jm, told) = jRun (jm0, []) (ps.take (min nx (ps.length - 1)))
theorem run_of {ps : List Pk} (h : RowP ps) {a n : Nat} (hn : a + n < ps.length) : RunOf a ((ps.drop a).take n) := fun i p hp => by
  rw [List.getElem?_take] at hp
  split at hp
  · rename_i hi
    rw [List.getElem?_drop] at hp
    refine ⟨h.sq _ p hp, ?_⟩
    rw [h.fin _ p hp]
    exact decide_eq_false (by omega)
  · cases hp
theorem take_seg (ps : List Pk) (a n : Nat) : ps.take (a + n) = ps.take a ++ (ps.drop a).take n := by
  rw [List.take_add]
theorem Ro.kept {ps : List Pk} {came : Nat → Bool} {nx : Nat} {told : List (List Int)} {m : Rm} (h : Ro ps came nx told m) (hp : RowP ps) {k : Nat} {p : Pk} (hk : ps[k]? = some p) (hnk : nx ≤ k) (hc : came k = false)
    {nx' : Nat} (h1 : nx ≤ nx') (h2 : ∀ i, i < nx' → cameK came k i = true) (h3 : cameK came k nx' = false) : Ro ps (cameK came k) nx' (told ++ (m.cnt.kept p).av.out) (m.cnt.kept p).adv := by
  have hkl : k < ps.length := (List.getElem?_eq_some_iff.1 hk).1
  have hdom : ∀ i, cameK came k i = true → i < ps.length := fun i hi => by
    unfold cameK at hi
    rw [Bool.or_eq_true, decide_eq_true_eq] at hi
    rcases hi with rfl | hi
    · exact hkl
    · exact h.dom i hi
  have hle : nx' ≤ ps.length := by
    rcases Nat.lt_or_ge ps.length nx' with hl | hl
    · have := hdom _ (h2 ps.length hl); omega
    · exact hl
  have hdn : m.dn = false := by rw [h.dn]; exact decide_eq_false (by omega)
  have hks : (m.cnt.kept p).ks = pickK ps (cameK came k) nx ps.length := by
    show insK p m.ks = _
    rw [h.ks]
    exact pickK_ins hp.sq hnk hkl hc hk
  have hmin : min nx (ps.length - 1) = nx := by omega
  have hjt := h.jt
  rw [hmin] at hjt
  obtain ⟨n, rfl⟩ : ∃ n, nx' = nx + n := ⟨nx' - nx, by omega⟩
  have hav0 : (m.cnt.kept p).av = avL nx m.jm [] (pickK ps (cameK came k) nx ps.length) := by
    show avL m.base m.jm [] (m.cnt.kept p).ks = _
    rw [h.base, hks]
  rcases Nat.lt_or_ge (nx + n) ps.length with hlt | hge
  · have hsp : pickK ps (cameK came k) nx ps.length = (ps.drop nx).take n ++ pickK ps (cameK came k) (nx + n) ps.length := by
      rw [pickK_split (c := nx + n) (by omega) hle, pickK_run n hle (fun i _ hi => h2 i hi)]
    have hav : (m.cnt.kept p).av = ⟨nx + n, pickK ps (cameK came k) (nx + n) ps.length, (jRun (m.jm, []) ((ps.drop nx).take n)).1, (jRun (m.jm, []) ((ps.drop nx).take n)).2, false⟩ := by
      rw [hav0, hsp, avL_run _ _ _ _ _ (run_of hp hlt), List.length_take, List.length_drop, Nat.min_eq_left (by omega)]
      refine avL_lack fun q hq => ?_
      have hq' := List.mem_of_getElem? hq
      obtain ⟨i, i1, i2, i3, i4⟩ := pickK_mem.1 hq'
      rw [hp.sq i q i4]
      intro he
      have : i = nx + n := by omega
      rw [this, h3] at i3
      cases i3
    refine ⟨by show (m.cnt.kept p).av.b = _; rw [hav], hle, h2, h3, hdom, by show (m.cnt.kept p).av.ks = _; rw [hav], ?_, ?_⟩
    · show ((m.cnt.kept p).av.fin || m.dn) = _
      rw [hav, hdn, decide_eq_false (by omega)]
      rfl
    · show ((m.cnt.kept p).av.j, told ++ (m.cnt.kept p).av.out) = _
      rw [hav, Nat.min_eq_left (by omega), take_seg, jRun_app, ← hjt, jRun_out _ m.jm told]
  · have hge' : nx + n = ps.length := by omega
    obtain ⟨n1, rfl⟩ : ∃ n1, n = n1 + 1 := ⟨n - 1, by omega⟩
    have hl1 : nx + n1 < ps.length := by omega
    have hsp : pickK ps (cameK came k) nx ps.length = (ps.drop nx).take n1 ++ [ps[nx + n1]] := by
      rw [← hge', pickK_run (n1 + 1) (by omega) (fun i _ hi => h2 i hi), List.take_add_one, List.getElem?_drop, List.getElem?_eq_getElem hl1]
      rfl
    have hav : (m.cnt.kept p).av = ⟨nx + n1 + 1, [], (jRun (m.jm, []) ((ps.drop nx).take n1)).1, (jRun (m.jm, []) ((ps.drop nx).take n1)).2, true⟩ := by
      rw [hav0, hsp, avL_run _ _ _ _ _ (run_of hp hl1), List.length_take, List.length_drop, Nat.min_eq_left (by omega)]
      refine avL_fin (hp.sq _ _ (List.getElem?_eq_getElem hl1)) ?_
      rw [hp.fin _ _ (List.getElem?_eq_getElem hl1)]
      exact decide_eq_true (by omega)
    refine ⟨by show (m.cnt.kept p).av.b = _; rw [hav]; show nx + n1 + 1 = nx + (n1 + 1); omega, hle, h2, h3, hdom, ?_, ?_, ?_⟩
    · show (m.cnt.kept p).av.ks = _
      rw [hav, pickK_low (by omega)]
    · show ((m.cnt.kept p).av.fin || m.dn) = _
      rw [hav, decide_eq_true (by omega)]
      rfl
    · show ((m.cnt.kept p).av.j, told ++ (m.cnt.kept p).av.out) = _
      rw [hav, show min (nx + (n1 + 1)) (ps.length - 1) = nx + n1 from by omega, take_seg, jRun_app, ← hjt, jRun_out _ m.jm told]
end Go.Proofs.Ytmmjhijgedboiaa
namespace Go.Proofs.Ytmmjhijgedboiaa
open Go.RowKit Go.Shelf
theorem Ro.hs {ps : List Pk} {came : Nat → Bool} {nx : Nat} {told : List (List Int)} {m : Rm} (h : Ro ps came nx told m) (hp : RowP ps) {k : Nat} {p p' : Pk} (hk : ps[k]? = some p) (hq : p'.h.sq = p.h.sq) : m.hs p' = came k := by
  have hkl : k < ps.length := (List.getElem?_eq_some_iff.1 hk).1
  unfold Rm.hs Bm.has
  rw [hq, hp.sq k p hk, decide_eq_true (show (0 : Int) ≤ (k : Int) by omega), Int.toNat_natCast, Bool.true_and]
  show (decide ((k : Int) < (m.base : Int)) || hasK m.ks k) = came k
  rw [h.base, h.ks]
  by_cases hkn : k < nx
  · rw [decide_eq_true (by omega), h.all k hkn]; rfl
  · rw [decide_eq_false (by omega), Bool.false_or, Bool.eq_iff_iff, hasK_iff]
    constructor
    · rintro ⟨q, hq1, hq2⟩
      obtain ⟨i, i1, i2, i3, i4⟩ := pickK_mem.1 hq1
      rw [hp.sq i q i4] at hq2
      have : i = k := by omega
      rw [← this]; exact i3
    · intro hc
      exact ⟨p, pickK_mem.2 ⟨k, by omega, hkl, hc, hk⟩, hp.sq k p hk⟩
theorem Ro.cnt {ps : List Pk} {came : Nat → Bool} {nx : Nat} {told : List (List Int)} {m : Rm} (h : Ro ps came nx told m) : Ro ps came nx told m.cnt := ⟨h.base, h.le, h.all, h.gap, h.dom, h.ks, h.dn, h.jt⟩
/-- One that is trimmed: nothing comes of it. -/
theorem Ro.trim {ps : List Pk} {came : Nat → Bool} {nx : Nat} {told : List (List Int)} {m : Rm} (h : Ro ps came nx told m) {p : Pk} (h8 : hasB p.h.fl 8 = true) : Ro ps came nx told (m.take p) ∧ m.told p = [] := by
  unfold Rm.take Rm.told
  split
  · exact ⟨h, rfl⟩
  · split
    · exact ⟨h, rfl⟩
    · split
      · exact ⟨h, rfl⟩
      · first | rw [if_pos h8, if_pos h8] | rw [if_pos h8] | skip
        exact ⟨h.cnt, rfl⟩
/-- One that is there, or lies beyond the window: nothing comes of it. -/
theorem Ro.none {ps : List Pk} {came : Nat → Bool} {nx : Nat} {told : List (List Int)} {m : Rm} (h : Ro ps came nx told m) (hp : RowP ps) {k : Nat} {p : Pk} (hk : ps[k]? = some p) (hc : came k = true ∨ nx + m.size ≤ k) : Ro ps came nx told (m.take p) ∧ m.told p = [] := by
  have hs := h.hs hp hk (p' := p) rfl
  unfold Rm.take Rm.told
  split
  · exact ⟨h, rfl⟩
  · split
    · exact ⟨h, rfl⟩
    · rename_i hd
      rw [hs] at hd
      have hin : m.inw p = false := by
        unfold Rm.inw
        rw [hp.sq k p hk, h.base]
        refine decide_eq_false ?_
        rcases hc with hc | hc
        · rw [hc] at hd; simp at hd
        · omega
      first | rw [if_pos hin, if_pos hin] | rw [if_pos hin] | skip
      exact ⟨h, rfl⟩
/-- One that is new, within the window. -/
theorem Ro.new {ps : List Pk} {came : Nat → Bool} {nx : Nat} {told : List (List Int)} {m : Rm} (h : Ro ps came nx told m) (hp : RowP ps) {k : Nat} {p : Pk} (hk : ps[k]? = some p) (hc : came k = false) (hw : k < nx + m.size) (ht : p.tkn = true) (h8 : hasB p.h.fl 8 = false)
    {nx' : Nat} (h1 : nx ≤ nx') (h2 : ∀ i, i < nx' → cameK came k i = true) (h3 : cameK came k nx' = false) : Ro ps (cameK came k) nx' (told ++ m.told p) (m.take p) := by
  have hs := h.hs hp hk (p' := p) rfl
  have hkl : k < ps.length := (List.getElem?_eq_some_iff.1 hk).1
  have hnk : nx ≤ k := by
    rcases Nat.lt_or_ge k nx with hl | hl
    · rw [h.all k hl] at hc; cases hc
    · exact hl
  have hdn : m.dn = false := by rw [h.dn]; exact decide_eq_false (by omega)
  have hin : m.inw p = true := by
    unfold Rm.inw
    rw [hp.sq k p hk, h.base]
    exact decide_eq_true (by omega)
  have e1 : m.take p = (m.cnt.kept p).adv := by
    unfold Rm.take
    rw [if_neg (by rw [ht]; simp), if_neg (by rw [hdn, hs, hc]; simp), if_neg (by rw [hin]; simp), if_neg (by rw [h8]; simp)]
  have e2 : m.told p = (m.cnt.kept p).av.out := by
    unfold Rm.told
    rw [if_neg (by rw [ht]; simp), if_neg (by rw [hdn, hs, hc]; simp), if_neg (by rw [hin]; simp), if_neg (by rw [h8]; simp)]
  rw [e1, e2]
  exact h.kept hp hk hnk hc h1 h2 h3
/-- At the start. -/
theorem Ro.start (ps : List Pk) (hp : RowP ps) (size pa : Nat) (s d n k : Int) : Ro ps (fun _ => false) 0 [] (Rm.new size pa s d n k) := by
  have hn := hp.n1
  refine ⟨rfl, Nat.zero_le _, fun i hi => by omega, rfl, (by intro i hi; cases hi), ?_, ?_, ?_⟩
  · show [] = pickK ps (fun _ => false) 0 ps.length
    rw [eq_comm, List.eq_nil_iff_forall_not_mem]
    intro q hq
    obtain ⟨i, i1, i2, i3, i4⟩ := pickK_mem.1 hq
    cases i3
  · show false = decide (0 = ps.length)
    rw [decide_eq_false (by omega)]
  · rw [show min 0 (ps.length - 1) = 0 from by omega]
    rfl
end Go.Proofs.Ytmmjhijgedboiaa
namespace Go.Proofs.Ytmmjhijgedboiaa
open Go.RowKit Go.Shelf
/-- What came behind a pick. -/
def cameP (came : Nat → Bool) (nx size k : Nat) (tr : Bool) : Nat → Bool := if tr = false ∧ k < nx + size then cameK came k else came
theorem cameK_same {came : Nat → Bool} {k : Nat} (h : came k = true) : cameK came k = came := by
  funext i
  unfold cameK
  by_cases e : i = k
  · subst e; simp [h]
  · simp [e]
/-- The first that lacks is one only. -/
theorem first_one {came : Nat → Bool} {a b : Nat} (ha : ∀ i, i < a → came i = true) (ga : came a = false) (hb : ∀ i, i < b → came i = true) (gb : came b = false) : a = b := by
  rcases Nat.lt_trichotomy a b with h | h | h
  · rw [hb a h] at ga; cases ga
  · exact h
  · rw [ha b h] at gb; cases gb
/-- One pick: a packet of the row, trimmed (p8) or whole (p). -/
theorem Ro.pick {ps : List Pk} {came : Nat → Bool} {nx : Nat} {told : List (List Int)} {m : Rm} (h : Ro ps came nx told m) (hp : RowP ps) {k : Nat} {p q : Pk} (hk : ps[k]? = some p) (ht : p.tkn = true) (h8 : hasB p.h.fl 8 = false)
    {tr : Bool} (hq : if tr = true then hasB q.h.fl 8 = true else q = p)
    {nx' : Nat} (h2 : ∀ i, i < nx' → cameP came nx m.size k tr i = true) (h3 : cameP came nx m.size k tr nx' = false) : Ro ps (cameP came nx m.size k tr) nx' (told ++ m.told q) (m.take q) := by
  cases tr with
  | true =>
    have e : cameP came nx m.size k true = came := by unfold cameP; rw [if_neg (by simp)]
    rw [e] at h2 h3 ⊢
    have hn := first_one h2 h3 h.all h.gap
    subst hn
    obtain ⟨a, b⟩ := h.trim (p := q) (by simpa using hq)
    rw [b, List.append_nil]
    exact a
  | false =>
    have hq' : q = p := by simpa using hq
    subst hq'
    by_cases hw : k < nx + m.size
    · have e : cameP came nx m.size k false = cameK came k := by unfold cameP; rw [if_pos ⟨rfl, hw⟩]
      rw [e] at h2 h3 ⊢
      by_cases hc : came k = true
      · rw [cameK_same hc] at h2 h3 ⊢
        have hn := first_one h2 h3 h.all h.gap
        subst hn
        obtain ⟨a, b⟩ := h.none hp hk (Or.inl hc)
        rw [b, List.append_nil]
        exact a
      · have hc' : came k = false := by simpa using hc
        have hle : nx ≤ nx' := by
          rcases Nat.lt_or_ge nx' nx with hl | hl
          · have := h.all nx' hl
            unfold cameK at h3
            rw [this] at h3
            simp at h3
          · exact hl
        exact h.new hp hk hc' hw ht h8 hle h2 h3
    · have e : cameP came nx m.size k false = came := by unfold cameP; rw [if_neg (by rintro ⟨_, h'⟩; exact hw h')]
      rw [e] at h2 h3 ⊢
      have hn := first_one h2 h3 h.all h.gap
      subst hn
      obtain ⟨a, b⟩ := h.none hp hk (Or.inr (by omega))
      rw [b, List.append_nil]
      exact a
/-- A take leaves the window's size. -/
theorem Rm.take_size (m : Rm) (p : Pk) : (m.take p).size = m.size := by
  unfold Rm.take
  split
  · rfl
  · split
    · rfl
    · split
      · rfl
      · split
        · rfl
        · rfl
end Go.Proofs.Ytmmjhijgedboiaa
namespace Go.Proofs.Ytmmjhijgedboiaa
open Go.RowKit Go.Shelf
theorem jRun_allR (es : List Bool) : ∀ (l : List Pk) (i : Nat) (m : Jm) (out : List (List Int)), (∀ (k : Nat) (p : Pk), l[k]? = some p → es.getD (i + k) false = hasB p.h.fl 2) → (∀ p ∈ l, p.xs ≠ []) → m.op + (l.map (fun p => p.xs.length)).sum ≤ 65536 →
    allR es i m out (l.map (fun p => p.xs)) = ((jRun (m, out) l).2, i + l.length, 0)
  | [], i, m, out, _, _, _ => rfl
  | p :: t, i, m, out, he, hx, hs => by
    have hr : m.refuse p.xs = 0 := by
      unfold Jm.refuse
      have h1 : p.xs ≠ [] := hx p (by simp)
      rw [if_neg (by simpa using h1), if_neg (by simp only [List.map_cons, List.sum_cons] at hs; omega)]
    have h0 : es.getD i false = hasB p.h.fl 2 := he 0 p rfl
    rw [List.map_cons, allR_on es i m out p.xs _ hr, h0]
    have hop : (m.add p.xs (hasB p.h.fl 2)).op ≤ m.op + p.xs.length := by
      unfold Jm.add
      rw [if_pos hr]
      split
      · exact Nat.zero_le _
      · rw [Jm.plus_op]; exact Nat.le_refl _
    rw [jRun_allR es t (i + 1) _ _ (fun k q hk => by rw [show i + 1 + k = i + (k + 1) from by omega]; exact he (k + 1) q (by simpa using hk)) (fun q hq => hx q (by simp [hq])) (by simp only [List.map_cons, List.sum_cons] at hs; omega)]
    rw [show i + 1 + t.length = i + (p :: t).length from by simp; omega]
    rfl
/-- What was told behind the picks is what All tells of the first pieces. -/
theorem Ro.want {ps : List Pk} {came : Nat → Bool} {nx : Nat} {told : List (List Int)} {m : Rm} (h : Ro ps came nx told m) (es : List Bool) (he : ∀ (k : Nat) (p : Pk), (ps.take (min nx (ps.length - 1)))[k]? = some p → es.getD k false = hasB p.h.fl 2)
    (hx : ∀ p ∈ ps.take (min nx (ps.length - 1)), p.xs ≠ []) (hs : ((ps.take (min nx (ps.length - 1))).map (fun p => p.xs.length)).sum ≤ 65536) : (allR es 0 ⟨[], 0, 0⟩ [] ((ps.take (min nx (ps.length - 1))).map (fun p => p.xs))).1 = told := by
  rw [jRun_allR es _ 0 ⟨[], 0, 0⟩ [] (fun k p hk => by rw [Nat.zero_add]; exact he k p hk) hx (by show 0 + _ ≤ _; omega)]
  have := h.jt
  rw [show (⟨[], 0, 0⟩ : Jm) = jm0 from rfl, ← this]
/-- All is done when all came. -/
theorem Ro.doneq {ps : List Pk} {came : Nat → Bool} {nx : Nat} {told : List (List Int)} {m : Rm} (h : Ro ps came nx told m) : m.dn = decide ((nx : Int) = (ps.length : Int)) := by
  rw [h.dn, Bool.eq_iff_iff, decide_eq_true_iff, decide_eq_true_iff]
  omega
end Go.Proofs.Ytmmjhijgedboiaa
namespace Go.Proofs.Ytmmjhijgedboiaa
open Go.RowKit Go.Shelf
/-- A piece (octets, the end of a message), as the packet of number i. -/
def pcP (i : Nat) (x : List Int × Bool) : Pk := ⟨⟨1, if x.2 = true then 2 else 0, 0, 0, 1, 1, i, 0⟩, x.1⟩
def finP (i : Nat) : Pk := ⟨⟨1, 4, 0, 0, 1, 1, i, 0⟩, []⟩
def rwL (l : List (List Int × Bool)) : List Pk := l.mapIdx pcP ++ [finP l.length]
theorem rwL_len (l : List (List Int × Bool)) : (rwL l).length = l.length + 1 := by simp [rwL]
theorem rwL_at {l : List (List Int × Bool)} {i : Nat} {x : List Int × Bool} (h : l[i]? = some x) : (rwL l)[i]? = some (pcP i x) := by
  have hl := (List.getElem?_eq_some_iff.1 h).1
  unfold rwL
  rw [List.getElem?_append_left (by simpa using hl), List.getElem?_mapIdx, h]
  rfl
theorem rwL_fin (l : List (List Int × Bool)) : (rwL l)[l.length]? = some (finP l.length) := by
  unfold rwL
  rw [List.getElem?_append_right (by simp)]
  simp
theorem rwL_or {l : List (List Int × Bool)} {i : Nat} {p : Pk} (h : (rwL l)[i]? = some p) : (∃ x, l[i]? = some x ∧ p = pcP i x) ∨ (i = l.length ∧ p = finP i) := by
  have hi := (List.getElem?_eq_some_iff.1 h).1
  rw [rwL_len] at hi
  rcases Nat.lt_or_ge i l.length with hl | hl
  · have hx : l[i]? = some l[i] := List.getElem?_eq_getElem hl
    rw [rwL_at hx] at h
    exact Or.inl ⟨_, hx, (Option.some.inj h).symm⟩
  · have : i = l.length := by omega
    subst this
    rw [rwL_fin] at h
    exact Or.inr ⟨rfl, (Option.some.inj h).symm⟩
theorem pcP_fl (i : Nat) (x : List Int × Bool) : hasB (pcP i x).h.fl 2 = x.2 ∧ hasB (pcP i x).h.fl 4 = false ∧ hasB (pcP i x).h.fl 8 = false ∧ hasB ((pcP i x).h.fl + 8) 8 = true := by
  obtain ⟨xs, e⟩ := x
  cases e <;> exact ⟨by rfl, by rfl, by rfl, by rfl⟩
theorem finP_fl (i : Nat) : hasB (finP i).h.fl 2 = false ∧ hasB (finP i).h.fl 4 = true ∧ hasB (finP i).h.fl 8 = false ∧ hasB ((finP i).h.fl + 8) 8 = true := ⟨by rfl, by rfl, by rfl, by rfl⟩
theorem rwL_ok (l : List (List Int × Bool)) : RowP (rwL l) := by
  refine ⟨?_, by rw [rwL_len]; omega, ?_⟩
  · intro i p h
    rcases rwL_or h with ⟨x, _, rfl⟩ | ⟨_, rfl⟩ <;> rfl
  · intro i p h
    rw [rwL_len]
    rcases rwL_or h with ⟨x, hx, rfl⟩ | ⟨hi, rfl⟩
    · have := (List.getElem?_eq_some_iff.1 hx).1
      rw [(pcP_fl i x).2.1, decide_eq_false (by omega)]
    · rw [(finP_fl i).2.1, decide_eq_true (by omega)]
theorem rwL_8 {l : List (List Int × Bool)} {i : Nat} {p : Pk} (h : (rwL l)[i]? = some p) : hasB p.h.fl 8 = false ∧ hasB (p.h.fl + 8) 8 = true := by
  rcases rwL_or h with ⟨x, hx, rfl⟩ | ⟨hi, rfl⟩
  · exact ⟨(pcP_fl i x).2.2.1, (pcP_fl i x).2.2.2⟩
  · exact ⟨(finP_fl i).2.2.1, (finP_fl i).2.2.2⟩
theorem rwL_tkn {l : List (List Int × Bool)} {i : Nat} {p : Pk} (h : (rwL l)[i]? = some p) (hl : l.length ≤ 1000000) : p.tkn = true := by
  have hi := (List.getElem?_eq_some_iff.1 h).1
  rw [rwL_len] at hi
  have hw : witB (i : Int) 0 1152921504606846976 = true := decide_eq_true (by omega)
  rcases rwL_or h with ⟨⟨xs, e⟩, hx, rfl⟩ | ⟨hi, rfl⟩
  · show (decide ((1 : Int) = 1) && !hasB (if e = true then 2 else 0) 16 && witB (i : Int) 0 1152921504606846976) = true
    rw [hw]
    cases e <;> rfl
  · show (decide ((1 : Int) = 1) && !hasB 4 16 && witB (i : Int) 0 1152921504606846976) = true
    rw [hw]
    rfl
/-- The first pieces of the row are pieces. -/
theorem rwL_take (l : List (List Int × Bool)) {n : Nat} (h : n ≤ l.length) : (rwL l).take n = (l.take n).mapIdx pcP := by
  apply List.ext_getElem?
  intro i
  rw [List.getElem?_mapIdx]
  rcases Nat.lt_or_ge i n with hi | hi
  · rw [List.getElem?_take_of_lt hi, List.getElem?_take_of_lt hi]
    have hx : l[i]? = some (l[i]'(by omega)) := List.getElem?_eq_getElem (by omega)
    rw [hx, rwL_at hx]; rfl
  · rw [List.getElem?_eq_none (by simp; omega), List.getElem?_eq_none (by simp; omega)]; rfl
theorem mapIdx_xs : ∀ (l : List (List Int × Bool)), (l.mapIdx pcP).map (fun p => p.xs) = l.map (·.1) := fun l => by
  apply List.ext_getElem?
  intro i
  simp only [List.getElem?_map, List.getElem?_mapIdx]
  cases l[i]? <;> rfl
/-- What was told is what All tells of the row's first pieces. -/
theorem Ro.wantV {l : List (List Int × Bool)} {came : Nat → Bool} {nx : Nat} {told : List (List Int)} {m : Rm} (h : Ro (rwL l) came nx told m) (hx : ∀ x ∈ l, x.1 ≠ []) (hs : (l.map (fun x => x.1.length)).sum ≤ 65536) :
    (allR ((l.take (min nx l.length)).map (·.2)) 0 ⟨[], 0, 0⟩ [] ((l.take (min nx l.length)).map (·.1))).1 = told := by
  have e0 : (rwL l).length - 1 = l.length := by rw [rwL_len]; omega
  have hw := h.want ((l.take (min nx l.length)).map (·.2))
  rw [e0, rwL_take l (Nat.min_le_right _ _), mapIdx_xs] at hw
  refine hw ?_ ?_ ?_
  · intro k p hk
    rw [List.getElem?_mapIdx] at hk
    rw [List.getD_eq_getElem?_getD, List.getElem?_map]
    cases he : (l.take (min nx l.length))[k]? with
    | none => rw [he] at hk; cases hk
    | some x =>
      rw [he] at hk
      obtain rfl := (Option.some.inj hk).symm
      exact (pcP_fl k x).1.symm
  · intro p hp
    obtain ⟨i, hi, rfl⟩ := List.mem_mapIdx.1 hp
    exact hx _ (List.mem_of_mem_take (List.getElem_mem hi))
  · have e : ((l.take (min nx l.length)).mapIdx pcP).map (fun p => p.xs.length) = (l.take (min nx l.length)).map (fun x => x.1.length) := by
      have := congrArg (List.map List.length) (mapIdx_xs (l.take (min nx l.length)))
      simpa [List.map_map, Function.comp_def] using this
    rw [e]
    refine Nat.le_trans ?_ hs
    rw [← List.take_append_drop (min nx l.length) l, List.map_append, List.sum_append]
    simp
end Go.Proofs.Ytmmjhijgedboiaa
