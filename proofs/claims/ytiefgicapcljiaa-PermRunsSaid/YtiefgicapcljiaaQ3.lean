/- rising; the reference's Rise; two rows of integers compared; no more than 20 of them. -/
import Derived.Test.YtiefgicapcljiaaQ2
set_option linter.unusedSimpArgs false
set_option linter.unusedVariables false
namespace Go.Proofs.Ytiefgicapcljiaa
open Go.RowKit Go.Shelf

theorem arrSet : ArrE Try.prog 54 4 8 := ⟨rfl, ⟨_, rfl, rfl⟩, by kernel_rfl⟩
def intV (xs : List Int) : List Value := xs.map (.int .i64)
theorem intV_len (xs : List Int) : (intV xs).length = xs.length := by simp [intV]
set_option maxHeartbeats 400000 in
theorem rising_any (bs : List Bool) (w : World) (hl : bs.length = 8) :
    Calls Try.prog 30 #[.agg (boolV bs).toArray] w (Made 3 (intV (riseN bs 8)) w) := by
  have hb0 := Bk.new w 54 (boolV bs)
  go_enter Try.func30, Try.ntmps30
  go_wp2_with (refine wpList_load_bk rowSet rfl (.tmp 1) rfl w.heap.size 0 rfl hb0 (boolV bs) (by rw [boolV_len, hl]) (by rw [boolV_len, hl]; exact List.take_of_length_le (by simp [boolV, hl])) ?_)
  go_loopw [3, 7] (fun v i wr => ∃ (k : Nat) (A : Option Addr) (m c : Nat), k ≤ 8 ∧ i = .int .i64 k ∧ v = .slice A m c ∧ Lst 3 (w.heap.size ≤ ·) wr A m c (intV (riseN bs k)) ∧ Below w.heap.size w wr) (fun _ i _ => 8 - (intOf i).toNat)
  case atStart => exact ⟨0, none, 0, 0, by omega, rfl, rfl, Lst.nil _ _ _, (Below.refl _ _).alloc (Nat.le_refl _) _⟩
  case round =>
    obtain ⟨k, A, m, c, hk, rfl, rfl, hls, hb⟩ := hrel
    by_cases hlt : k < 8
    · have hm := hls.1
      rw [intV_len] at hm
      have hm8 := riseN_len bs k
      have hi : ∀ W, (Instr.index 54 (.agg (boolV bs).toArray) (.int .i64 k)).run Try.prog W = .ok (.bool (bs.getD k false)) W := fun W =>
        arrSet.index _ k hlt _ (by rw [List.getElem?_toArray, boolV_get, List.getD_eq_getElem?_getD, List.getElem?_eq_getElem (by omega)]; rfl)
      have HR := Lib.hid (riseN_succ bs k)
      by_cases hin : bs.getD k false = true
      · rw [hin] at hi
        rw [if_pos hin] at HR
        have hls' := hls.alloc (.cells #[.int .i64 k] 3)
        have hu := RdV.one wr 3 (.int .i64 k) rfl
        have hb' := hb.alloc hb.size (.cells #[.int .i64 k] 3)
        have hn8 : (m + 1) * 8 ≤ 140737488355328 := by omega
        clear hm hm8 hin
        go_wp2_with (at_builtin
                     refine wpList_append_lst eltI rfl (.tmp 12) (.tmp 14) rfl rfl hls' rfl hu hn8 ?_
                     rintro v w4 ⟨⟨A4, n4, c4, rfl, hl4⟩, hst4⟩)
        go_roundw
        case rel => exact ⟨k + 1, _, _, _, by omega, by go_num, rfl, by rw [HR.out, intV, List.map_append]; exact hl4.mono (fun j hj => by rcases hj with h | h; exact h; have := hb'.size; omega), hb'.trans (hst4.below hb'.size (fun _ h => h))⟩
        case measure => simp [intOf]; omega
      · rw [Bool.not_eq_true] at hin
        rw [hin] at hi
        rw [if_neg (by rw [hin]; decide)] at HR
        go_wp2
        go_roundw
        case rel => exact ⟨k + 1, _, _, _, by omega, by go_num, rfl, by rw [HR.out]; exact hls, hb⟩
        case measure => simp [intOf]; omega
    · obtain rfl : k = 8 := by omega
      go_wp2
      go_ret
      exact ⟨A, m, c, rfl, hls, hb⟩
theorem count_take (xs : List Int) (p : Int) (j : Nat) (hj : j < xs.length) : (xs.take (j + 1)).count p = (xs.take j).count p + if xs.getD j 0 = p then 1 else 0 := by
  rw [List.take_succ_eq_append_getElem hj, List.count_append, List.getD_eq_getElem?_getD, List.getElem?_eq_getElem hj]
  simp [List.count_singleton]
theorem riseN_count {xs : List Int} {k : Nat} (hk : k < 8) (h : xs.count (k : Int) ≤ 1) : riseN (memB xs) (k + 1) = if xs.count (k : Int) = 1 then riseN (memB xs) k ++ [(k : Int)] else riseN (memB xs) k := by
  rw [riseN_succ, memB_getD xs hk]
  by_cases hm : (k : Int) ∈ xs
  · have := List.one_le_count_iff.2 hm
    rw [if_pos (by simpa using hm), if_pos (by omega)]
  · have := List.count_eq_zero_of_not_mem hm
    rw [if_neg (by simpa using hm), if_neg (by omega)]
set_option maxHeartbeats 1000000 in
theorem rise_any (A : Option Addr) (n c : Nat) (xs : List Int) (w : World) (h : Rd .i64 w A n c xs) :
    Calls Try.prog 16 #[.slice A n c] w fun e w' => ∃ B m d ys, e = .returned (.tuple #[.slice B m d, .bool (valP xs)]) ∧ Lst 3 (w.heap.size ≤ ·) w' B m d (intV ys) ∧ (valP xs = true → ys = riseL xs) ∧ Below w.heap.size w w' := by
  obtain ⟨hl, hc, hm, _, hwf, hcell⟩ := h
  unfold maxLen at hm
  go_enter Try.func16, Try.ntmps16
  go_wp2
  go_loopw [4, 5] (fun v i wr => ∃ (k : Nat) (B : Option Addr) (m d : Nat), k ≤ 8 ∧ i = .int .i64 k ∧ v = .slice B m d ∧ Lst 3 (w.heap.size ≤ ·) wr B m d (intV (riseN (memB xs) k)) ∧ (∀ q : Nat, q < k → xs.count (q : Int) ≤ 1) ∧ Below w.heap.size w wr) (fun _ i _ => 8 - (intOf i).toNat)
  case atStart => exact ⟨0, none, 0, 0, by omega, rfl, rfl, Lst.nil _ _ _, fun q hq => by omega, Below.refl _ _⟩
  case round =>
    obtain ⟨k, B, m, d, hk, rfl, rfl, hls, hcnt, hb⟩ := hrel
    have hml := hls.1
    rw [intV_len] at hml
    have hm8 := riseN_len (memB xs) k
    have HL := Lib.hid hls
    have HC := Lib.hid hcnt
    have HB := Lib.hid hb
    clear hls hcnt hb
    by_cases hlt : k < 8
    · go_wp2
      go_loopw [6, 7] (fun cn i w2 => ∃ j : Nat, j ≤ n ∧ i = .int .i64 j ∧ cn = .int .i64 ((xs.take j).count (k : Int) : Nat) ∧ w2 = wr) (fun _ i _ => n - (intOf i).toNat)
      case atStart => exact ⟨0, Nat.zero_le _, rfl, rfl, rfl⟩
      case round =>
        obtain ⟨j, hj, rfl, rfl, rfl⟩ := hrel
        have hcl : (xs.take j).count (k : Int) ≤ j := Nat.le_trans List.count_le_length (by simp; omega)
        by_cases hjn : j < n
        · obtain ⟨g, o, rfl, hg, hcs⟩ := hcell (by omega)
          have hx := (HB.out.cell (p := ⟨g, o + j, none⟩) hg).trans (hcs j hjn)
          have HT := Lib.hid (count_take xs k j (by omega))
          generalize xs.getD j 0 = x at *
          generalize (xs.take j).count (k : Int) = cn at *
          clear hcs hcell
          by_cases hxe : x = k
          · subst hxe
            rw [if_pos rfl] at HT
            go_wp2
            go_roundw
            case rel => exact ⟨j + 1, by omega, by go_num, by rw [HT.out]; go_num, trivial⟩
            case measure => simp [intOf]; omega
          · rw [if_neg hxe] at HT
            go_wp2
            go_roundw
            case rel => exact ⟨j + 1, by omega, by go_num, by rw [HT.out]; rfl, trivial⟩
            case measure => simp [intOf]; omega
        · obtain rfl : j = n := by omega
          rw [List.take_of_length_le (by omega)] at *
          rcases (by omega : 1 < xs.count (k : Int) ∨ xs.count (k : Int) = 1 ∨ xs.count (k : Int) = 0) with h1 | h1 | h1
          · have HV : Hid (valP xs = false) := Lib.hid (by simp only [valP, decide_eq_false_iff_not]; exact fun h' => not_ok_of_count h1 h'.1)
            generalize xs.count (k : Int) = cn at *
            go_wp2
            go_ret2
            exact ⟨none, 0, 0, [], by rw [HV.out]; rfl, Lst.nil _ _ _, fun h' => by (rw [HV.out] at h'; cases h'), HB.out⟩
          · have HR := Lib.hid (riseN_count (xs := xs) hlt (by omega))
            have HC2 : Hid (∀ q : Nat, q < k + 1 → xs.count (q : Int) ≤ 1) := Lib.hid (fun q hq => by
              rcases Nat.lt_or_ge q k with h' | h'
              · exact HC.out q h'
              · obtain rfl : q = k := by omega
                omega)
            rw [if_pos h1] at HR
            rw [h1]
            clear h1 hcl
            have hls' := HL.out.alloc (.cells #[.int .i64 k] 3)
            have hu := RdV.one wr 3 (.int .i64 k) rfl
            have hb' := HB.out.alloc HB.out.size (.cells #[.int .i64 k] 3)
            have hn8 : (m + 1) * 8 ≤ 140737488355328 := by omega
            clear hml hm8
            go_wp2_with (at_builtin
                         refine wpList_append_lst eltI rfl (.tmp 30) (.tmp 32) rfl rfl hls' rfl hu hn8 ?_
                         rintro v w4 ⟨⟨A4, n4, c4, rfl, hl4⟩, hst4⟩)
            go_roundw
            case rel => exact ⟨k + 1, _, _, _, by omega, by go_num, rfl, by rw [HR.out, intV, List.map_append]; exact hl4.mono (fun j hj => by rcases hj with h | h; exact h; have := hb'.size; omega), HC2.out, hb'.trans (hst4.below hb'.size (fun _ h => h))⟩
            case measure => simp [intOf]; omega
          · have HR := Lib.hid (riseN_count (xs := xs) hlt (by omega))
            have HC2 : Hid (∀ q : Nat, q < k + 1 → xs.count (q : Int) ≤ 1) := Lib.hid (fun q hq => by
              rcases Nat.lt_or_ge q k with h' | h'
              · exact HC.out q h'
              · obtain rfl : q = k := by omega
                omega)
            rw [if_neg (by omega)] at HR
            rw [h1]
            clear h1 hcl
            go_wp2
            go_roundw
            case rel => exact ⟨k + 1, _, _, _, by omega, by go_num, rfl, by rw [HR.out]; exact HL.out, HC2.out, HB.out⟩
            case measure => simp [intOf]; omega
    · obtain rfl : k = 8 := by omega
      have hiff := count_one_of (l := xs) HC.out
      have hlen : (riseL xs).length = m := hml
      have hv : valP xs = (decide ((m : Int) = n) && decide ((0 : Int) < n)) := by
        rw [hlen, hl] at hiff
        have hne : xs ≠ [] ↔ 0 < n := by
          cases xs with
          | nil => simp at hl; subst hl; simp
          | cons x l => simp at hl; simp; omega
        rw [valP, Bool.eq_iff_iff]
        simp only [decide_eq_true_eq, Bool.and_eq_true]
        rw [← hiff, hne]
        omega
      have HV := Lib.hid hv
      clear hv hiff hlen
      go_wp2
      all_goals (go_ret2; exact ⟨B, m, d, riseL xs, by rw [HV.out]; simp [*], HL.out, fun _ => rfl, HB.out⟩)
end Go.Proofs.Ytiefgicapcljiaa
