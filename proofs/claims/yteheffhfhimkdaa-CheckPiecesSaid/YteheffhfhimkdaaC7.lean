/- The ones' complement sum of parts, by the program. -/
import Derived.Test.YteheffhfhimkdaaC6
set_option linter.unusedSimpArgs false
set_option linter.unusedVariables false
namespace Go.Proofs.Yteheffhfhimkdaa
open Go.RowKit Go.Shelf

theorem okB_app {l m : List Int} (h : okB l = true) (k : okB m = true) : okB (l ++ m) = true := by
  simp only [okB, List.all_append, Bool.and_eq_true] at *; exact ⟨h, k⟩
theorem tot_next (l : List Int) (xs : List Int) (j : Nat) (h : j < xs.length) :
    tot true (l ++ xs.take (j + 1)) = tot true (l ++ xs.take j) + (if evenB (l ++ xs.take j).length = true then 256 * xs[j] else xs[j]) ∧ evenB (l ++ xs.take (j + 1)).length = !evenB (l ++ xs.take j).length := by
  rw [List.take_succ_eq_append_getElem h, ← List.append_assoc, tot_snoc]
  refine ⟨rfl, ?_⟩
  rw [List.length_append (bs := [xs[j]]), List.length_singleton, evenB_succ]

set_option maxHeartbeats 2000000 in
theorem ones_any (A : Option Addr) (n c : Nat) (ps : List Pt) (w : World) (h : Pts w A n ps) :
    Calls Try.prog 15 #[.slice A n c] w fun e w' => e = .returned (.int .u16 (onesV (cat ps))) ∧ w = w' := by
  have HP := Lib.hid h
  have hl := h.1
  have hn := h.2.1
  clear h
  have HT := Lib.hid (List.take_of_length_le (i := n) (l := ps) (by omega))
  go_enter Try.func15, Try.ntmps15
  go_wp2
  go_loop [3, 4, 11] (fun tt th ti => ∃ k : Nat, k ≤ n ∧ okB (cat (ps.take k)) = true ∧ (cat (ps.take k)).length ≤ 65536 * k ∧ ti = .int .i64 k ∧ tt = .int .u64 (tot true (cat (ps.take k))) ∧ th = .bool (evenB (cat (ps.take k)).length)) (fun _ _ i => n - (intOf i).toNat)
  case atStart => exact ⟨0, Nat.zero_le _, rfl, by simp [cat], rfl, rfl, rfl⟩
  case round =>
    obtain ⟨k, hk, hok, hle, rfl, rfl, rfl⟩ := hrel
    by_cases hlt : k < n
    · have hlk : k < ps.length := by omega
      obtain ⟨⟨g, o, rfl, hg, hc⟩, hr, hrn⟩ := HP.out.2.2 k hlk
      have hcat := Lib.hid (cat_take ps k hlk)
      obtain ⟨pA, hpA⟩ : ∃ q, q = ps[k].A := ⟨_, rfl⟩
      obtain ⟨pn, hpn⟩ : ∃ q, q = ps[k].n := ⟨_, rfl⟩
      obtain ⟨pc, hpc⟩ : ∃ q, q = ps[k].c := ⟨_, rfl⟩
      obtain ⟨xs, hxs⟩ : ∃ q, q = ps[k].xs := ⟨_, rfl⟩
      rw [← hpA, ← hpn, ← hpc] at hc
      rw [← hpA, ← hpn, ← hpc, ← hxs] at hr
      rw [← hpn] at hrn
      rw [← hxs] at hcat
      clear hpA hpn hpc hxs
      obtain ⟨pre, hpre⟩ : ∃ q, q = cat (ps.take k) := ⟨_, rfl⟩
      rw [← hpre] at hok hle hcat ⊢
      have HR := Lib.hid hr
      have hxl := hr.1
      have hxo := okB_of hr.2.2.2.2.1
      clear hr hpre hl
      have HL := Lib.hid hxl
      clear hxl
      go_wp2
      go_loop [3, 4, 17] (fun tt th tj => ∃ j : Nat, j ≤ pn ∧ tj = .int .i64 j ∧ tt = .int .u64 (tot true (pre ++ xs.take j)) ∧ th = .bool (evenB (pre ++ xs.take j).length)) (fun _ _ j => pn - (intOf j).toNat)
      case atStart => exact ⟨0, Nat.zero_le _, rfl, by simp, by simp⟩
      case round =>
        obtain ⟨j, hj, rfl, rfl, rfl⟩ := hrel
        have hb := tot_bounds true (pre ++ xs.take j) (okB_app hok (okB_take hxo j))
        have hln : (pre ++ xs.take j).length ≤ 65536 * k + 65536 := by rw [List.length_append, List.length_take]; omega
        by_cases hlt2 : j < pn
        · obtain ⟨g', o', rfl, hg', hcx⟩ := HR.out.cell hlt2
          have hlj : j < xs.length := by rw [HL.out]; exact hlt2
          obtain ⟨hn1, hn2⟩ := tot_next pre xs j hlj
          obtain ⟨x0, hx0⟩ : ∃ x, x = xs[j] := ⟨_, rfl⟩
          rw [show xs.getD j 0 = xs[j] from by simp [hlj], ← hx0] at hcx
          obtain ⟨q1, q2⟩ := u8_bounds (HR.out.2.2.2.2.1 (xs[j]) (List.getElem_mem _))
          rw [← hx0] at q1 q2 hn1
          have HN1 := Lib.hid hn1
          have HN2 := Lib.hid hn2
          obtain ⟨hb0, hb1⟩ := hb
          have hb2 : tot true (pre ++ xs.take j) ≤ 65280 * (65536 * 1000 + 65536) := by omega
          clear hn1 hn2 hx0 hlj hb1 hln
          generalize hT : tot true (pre ++ xs.take j) = T at *
          generalize hE : evenB (pre ++ xs.take j).length = E at *
          have H1 := Lib.hid hT
          have H2 := Lib.hid hE
          clear hT hE
          cases E
          all_goals
            go_wp2
            go_round
            case rel => exact ⟨j + 1, by omega, by go_num, by rw [HN1.out]; simp [Int.mul_comm], by rw [HN2.out]; rfl⟩
            case measure => simp [intOf]; omega
        · obtain rfl : j = pn := by omega
          have hxt : xs.take j = xs := List.take_of_length_le (by rw [HL.out]; exact Nat.le_refl _)
          rw [hxt] at hln ⊢
          have HXT := Lib.hid hxt
          clear hxt hb
          go_wp2
          go_round
          case rel => exact ⟨k + 1, by omega, by rw [hcat.out]; exact okB_app hok hxo, by rw [hcat.out]; omega, by go_num, by rw [hcat.out], by rw [hcat.out]⟩
          case measure => simp [intOf]; omega
    · obtain rfl : k = n := by omega
      have hb := tot_bounds true (cat (ps.take k)) hok
      rw [HT.out] at hb hle ⊢
      clear hl
      obtain ⟨hb0, hb1⟩ := hb
      have hb2 : tot true (cat ps) < 9223372036854775808 := by omega
      clear hb1
      go_wp2_with fail
      refine (fold_any _ _ hb0 hb2).mono ?_
      rintro e w1 ⟨rfl, rfl⟩
      go_wp2
      go_ret
      exact ⟨rfl, rfl⟩
end Go.Proofs.Yteheffhfhimkdaa
