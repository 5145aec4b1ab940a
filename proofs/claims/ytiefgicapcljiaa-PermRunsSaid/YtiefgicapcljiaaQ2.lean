/- Which paths are in it: setOf, rising. -/
import Derived.Test.YtiefgicapcljiaaQ1
import Derived.Test.YtiefgicapcljiaaAgg
set_option linter.unusedSimpArgs false
set_option linter.unusedVariables false
namespace Go.Proofs.Ytiefgicapcljiaa
open Go.RowKit Go.Shelf

def boolV (bs : List Bool) : List Value := bs.map .bool
theorem boolV_len (bs : List Bool) : (boolV bs).length = bs.length := by simp [boolV]
theorem boolV_one (bs : List Bool) : ∀ v ∈ boolV bs, v.oneCell' = true := by
  intro v hv
  obtain ⟨b, _, rfl⟩ := List.mem_map.1 hv
  rfl
theorem boolV_get (bs : List Bool) (i : Nat) : (boolV bs)[i]? = (bs[i]?).map .bool := by simp [boolV]
theorem boolV_set (bs : List Bool) (i : Nat) (b : Bool) : (boolV bs).set i (.bool b) = boolV (bs.set i b) := by simp [boolV]
theorem rowSet : Row Try.prog 54 8 := ⟨⟨_, rfl, rfl⟩, by kernel_rfl⟩
def setB (l : List Int) : List Bool := if valP l = true then memB l else List.replicate 8 false
theorem valP_no {l r : List Int} {x : Int} (h : x < 0 ∨ 8 ≤ x ∨ x ∈ l) : valP (l ++ x :: r) = false := by
  simp only [valP, decide_eq_false_iff_not]
  exact fun h' => not_okP_snoc h h'.1
set_option maxHeartbeats 400000 in
theorem setOf_any (A : Option Addr) (n c : Nat) (xs : List Int) (w : World) (h : Rd .i64 w A n c xs) :
    Calls Try.prog 22 #[.slice A n c] w fun e w' => e = .returned (.tuple #[.agg (boolV (setB xs)).toArray, .bool (valP xs)]) ∧ Below w.heap.size w w' := by
  obtain ⟨hl, hc, hm, _, hwf, hcell⟩ := h
  unfold maxLen at hm
  go_enter Try.func22, Try.ntmps22
  go_wp2
  go_loopw [9] (fun i wr => ∃ k : Nat, k ≤ n ∧ i = .int .i64 k ∧ okP (xs.take k) ∧ Bk wr 54 w.heap.size (boolV (List.replicate 8 false)) ∧ Bk wr 54 (w.heap.size + 1) (boolV (memB (xs.take k))) ∧ Below w.heap.size w wr) (fun i _ => n - (intOf i).toNat)
  case atStart =>
    have h2 := Bk.new (w.alloc (.cells (boolV (List.replicate 8 false)).toArray 54)) 54 (boolV (List.replicate 8 false))
    rw [World.size_alloc] at h2
    exact ⟨0, Nat.zero_le _, rfl, okP_nil, (Bk.new w 54 (boolV (List.replicate 8 false))).alloc _, by rw [List.take_zero, memB_nil]; exact h2, ((Below.refl _ _).alloc (Nat.le_refl _) _).alloc (by simp) _⟩
  case round =>
    obtain ⟨k, hk, rfl, hok, hr, hs, hb⟩ := hrel
    by_cases hlt : k < n
    · obtain ⟨g, o, rfl, hg, hcs⟩ := hcell (by omega)
      have hx := (hb.cell (p := ⟨g, o + k, none⟩) hg).trans (hcs k hlt)
      have HX : Hid (xs = xs.take k ++ xs.getD k 0 :: xs.drop (k + 1)) := Lib.hid (by
        have := List.take_append_drop k xs
        rw [List.drop_eq_getElem_cons (show k < xs.length by omega)] at this
        rw [List.getD_eq_getElem?_getD, List.getElem?_eq_getElem (show k < xs.length by omega)]
        exact this.symm)
      have HT : Hid (xs.take (k + 1) = xs.take k ++ [xs.getD k 0]) := Lib.hid (by
        rw [List.take_succ_eq_append_getElem (show k < xs.length by omega), List.getD_eq_getElem?_getD, List.getElem?_eq_getElem (show k < xs.length by omega)]
        rfl)
      generalize xs.getD k 0 = x at *
      have HV : x < 0 ∨ 8 ≤ x ∨ x ∈ xs.take k → valP xs = false := fun h' => by rw [HX.out]; exact valP_no h'
      clear hcell hcs
      rcases (by omega : x < 0 ∨ 8 ≤ x ∨ 0 ≤ x ∧ x < 8) with h0 | h8 | ⟨h0, h8⟩
      · have hv := HV (.inl h0)
        clear HV
        go_wp2_with (refine wpList_store_bk rowSet rfl (.tmp 2) (.tmp 24) rfl w.heap.size 0 rfl hr (boolV (List.replicate 8 false)) rfl rfl (by decide) (boolV_one _) ?_; rintro w5 hr5 hw5)
        rw [lay_all _ _ rfl] at hr5
        refine bodyPost_ret (results_cell_tmp rfl rfl (rowSet.load hr5 0 (cs := boolV (List.replicate 8 false)) rfl rfl)) rfl ⟨by simp [setB, hv], hb.trans (hw5.below (Nat.le_refl _) hb.size)⟩
      · have hv := HV (.inr (.inl h8))
        clear HV
        go_wp2_with (refine wpList_store_bk rowSet rfl (.tmp 2) (.tmp 24) rfl w.heap.size 0 rfl hr (boolV (List.replicate 8 false)) rfl rfl (by decide) (boolV_one _) ?_; rintro w5 hr5 hw5)
        rw [lay_all _ _ rfl] at hr5
        refine bodyPost_ret (results_cell_tmp rfl rfl (rowSet.load hr5 0 (cs := boolV (List.replicate 8 false)) rfl rfl)) rfl ⟨by simp [setB, hv], hb.trans (hw5.below (Nat.le_refl _) hb.size)⟩
      · obtain ⟨p, rfl⟩ := Int.eq_ofNat_of_zero_le h0
        have hp : p < 8 := by omega
        have cp := hs.cell p (v := .bool (decide ((p : Int) ∈ xs.take k))) (by rw [boolV_get, memB_get _ hp]; rfl)
        have fp := hs.free p
        by_cases hin : (p : Int) ∈ xs.take k
        · have hv := HV (.inr (.inr hin))
          clear HV
          rw [decide_eq_true hin] at cp
          go_wp2_with (refine wpList_store_bk rowSet rfl (.tmp 2) (.tmp 24) rfl w.heap.size 0 rfl hr (boolV (List.replicate 8 false)) rfl rfl (by decide) (boolV_one _) ?_; rintro w5 hr5 hw5)
          rw [lay_all _ _ rfl] at hr5
          refine bodyPost_ret (results_cell_tmp rfl rfl (rowSet.load hr5 0 (cs := boolV (List.replicate 8 false)) rfl rfl)) rfl ⟨by simp [setB, hv], hb.trans (hw5.below (Nat.le_refl _) hb.size)⟩
        · rw [decide_eq_false hin] at cp
          clear HV
          have hs2 := hs.set p (.bool true)
          rw [boolV_set, ← memB_snoc, ← HT.out] at hs2
          have HS := Lib.hid hs2
          have HR := Lib.hid (hr.far (p := ⟨w.heap.size + 1, p, none⟩) (by simp) (.bool true))
          have HO := Lib.hid (okP_snoc hok (by omega) (by omega) hin)
          clear hs2 hok hin
          go_wp2
          go_roundw
          case rel => exact ⟨k + 1, by omega, by go_num, by rw [HT.out]; exact HO.out, HR.out, HS.out, hb.setCell (by simp) _⟩
          case measure => simp [intOf]; omega
    · obtain rfl : k = n := by omega
      rw [List.take_of_length_le (by omega)] at hok hs
      have hv : valP xs = decide ((0 : Int) < k) := by
        cases xs with
        | nil => simp at hl; subst hl; rfl
        | cons x l => simp only [valP, decide_eq_decide]; simp at hl; exact ⟨fun _ => by omega, fun _ => ⟨hok, by simp⟩⟩
      have hB : boolV (setB xs) = boolV (memB xs) := by
        unfold setB
        split
        · rfl
        · rename_i hn
          rw [hv] at hn
          have : k = 0 := by simp at hn; omega
          subst this
          obtain rfl : xs = [] := List.eq_nil_of_length_eq_zero hl
          rw [memB_nil]
      have hne : w.heap.size ≠ w.heap.size + 1 := by omega
      have HV := Lib.hid hv
      have HB := Lib.hid hB
      clear hv hB
      go_wp2_with (first
        | (refine wpList_load_bk rowSet rfl (.tmp 4) rfl (w.heap.size + 1) 0 rfl hs (boolV (memB xs)) (by rw [boolV_len, memB_len]) (by rw [boolV_len, memB_len]; rfl) ?_)
        | (refine wpList_store_bk rowSet rfl (.tmp 2) (.tmp 28) rfl w.heap.size 0 rfl hr (boolV (memB xs)) rfl (by rw [boolV_len, memB_len]) (by decide) (boolV_one _) ?_; rintro w5 hr5 hw5))
      rw [lay_all _ _ (by rw [boolV_len, memB_len]; rfl)] at hr5
      refine bodyPost_ret (results_cell_tmp rfl rfl (rowSet.load hr5 0 (cs := boolV (memB xs)) (by rw [boolV_len, memB_len]) (by rw [boolV_len, memB_len]; rfl))) rfl ⟨by rw [HB.out, HV.out]; simp, hb.trans (hw5.below (Nat.le_refl _) hb.size)⟩
end Go.Proofs.Ytiefgicapcljiaa
