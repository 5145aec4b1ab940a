/- The reference: the pieces of many messages. -/
import Derived.Test.YtmnmkolcffehhaaU11
set_option linter.unusedSimpArgs false
set_option linter.unusedVariables false
namespace Go.Proofs.Ytmnmkolcffehhaa
open Go.RowKit Go.Shelf
theorem allP_step (m : Int) (ms : List (List Int)) {k : Nat} {xs : List Int} (h : ms[k]? = some xs) : allP m (okM m (ms.take (k + 1))) = allP m (okM m (ms.take k)) ++ cutsV xs m := by
  rw [okM_take m ms h]
  unfold allP cutsV
  rw [List.flatMap_append]
  by_cases hf : fitB xs.length m = true
  · rw [if_pos hf, if_pos hf]; simp
  · rw [if_neg hf, if_neg hf]; simp
theorem allP_le (m : Int) (ms : List (List Int)) (k : Nat) : (allP m (okM m (ms.take k))).length ≤ (allP m (okM m ms)).length := by
  have h : ms = ms.take k ++ ms.drop k := (List.take_append_drop k ms).symm
  conv => rhs; rw [h]
  unfold okM allP
  rw [List.filter_append, List.flatMap_append, List.length_append]
  omega
set_option maxRecDepth 100000 in
set_option maxHeartbeats 4000000 in
theorem r_pieces {w : World} {A : Option Addr} {n c : Nat} {ms : List (List Int)} (m : Int) (h : SlB w A n c ms) (hn : n ≤ 100000) (hb0 : (allP m (okM m ms)).length ≤ 1000000) :
    Calls Try.prog 13 #[.int .i64 m, .slice A n c] w fun e w' => ∃ A' n' c', e = .returned (.slice A' n' c') ∧ MadeC (allP m (okM m ms)) w A' n' c' w' := by
  have HM := Lib.hid h.len
  have HH := Lib.hid h
  have HB0 := Lib.hid hb0
  clear h hb0
  go_enter Try.func13, Try.ntmps13
  go_wp2
  go_loopw [5, 6, 7, 8] (fun v i p q wr => ∃ (k : Nat) (A1 : Option Addr) (n1 c1 : Nat), i = .int .i64 k ∧ k ≤ n ∧ v = .slice A1 n1 c1 ∧ LstP (w.heap.size ≤ ·) wr A1 n1 c1 (allP m (okM m (ms.take k))) ∧ Below w.heap.size w wr) (fun v i p q _ => n - (intOf i).toNat)
  case atStart => exact ⟨0, none, 0, 0, rfl, Nat.zero_le _, rfl, by simpa [allP, okM] using LstP.nil _ _, Below.refl _ _⟩
  case round =>
    obtain ⟨k, A1, n1, c1, rfl, hk, rfl, hl, hb⟩ := hrel
    by_cases hlt : k < n
    · obtain ⟨g, o, b, rfl, hcell, hrd, hat⟩ := (HH.out.below hb).at hlt
      have hkI : (k : Int) < n := by omega
      have hst := allP_step m ms hat
      have hle1 := allP_le m ms (k + 1)
      have hl1 := hl.len
      rw [hst, List.length_append] at hle1
      have HO := Lib.hid hst
      have HB := Lib.hid hb
      have HL := Lib.hid hl
      have HRC := Lib.hid (r_cuts (m := m) hrd)
      have HLE : Hid (n1 + (cutsV b.xs m).length ≤ 1000000) := Lib.hid (by have := HB0.out; omega)
      clear hat hb hl hst hle1 hl1 hrd
      go_wp2_with fail
      refine HRC.out.mono ?_
      rintro e w1 ⟨A2, n2, c2, err, rfl, he, hm2, hb2⟩
      have hn2 := hm2.len
      obtain ⟨qs, hq1, hq2, hq3, hq4⟩ := HL.out
      obtain ⟨rs, hr1, hr2, hr3, hr4⟩ := hm2
      have hla := (hq2.below hb2).tight
      have hbyt : (n1 + n2) * 32 ≤ 140737488355328 := by have := HLE.out; omega
      have HQ := Lib.hid (And.intro hq1 (And.intro hq2 (And.intro hq3 hq4)))
      have HR := Lib.hid (And.intro hr1 (And.intro hr3 hr4))
      have hu := hr2.rd
      have HB2 := Lib.hid hb2
      clear he hn2 hq1 hq2 hq3 hq4 hr1 hr2 hr3 hr4 hb2 HRC
      go_wp2_with (at_builtin
                   refine wpList_append_lstR eltC rfl (.tmp 24) (.tmp 25) rfl rfl hla rfl hu hbyt ?_
                   rintro v w2 hap
                   obtain ⟨A', n', c', rfl, hl'⟩ := hap.ex
                   have HAP := Lib.hid hap
                   clear hap hl')
      obtain ⟨A3, n3, c3, e3, hL3, hS3⟩ := LstP.apps HQ.out.2.1 HQ.out.2.2.2 HR.out.2.2 HB2.out HAP.out
      injection e3 with e1 e2 e3
      subst e1 e2 e3
      rw [List.map_append, HQ.out.2.2.1, HR.out.2.1] at hL3
      have HL3 := Lib.hid (hL3.mono (F' := (w.heap.size ≤ ·)) (fun k hk => by rcases hk with hk | hk; exact hk; exact Nat.le_trans HB.out.size hk))
      have HB3 := Lib.hid (HB.out.trans (hS3.below HB.out.size (fun k hk => by obtain ⟨ad, he, rfl⟩ := hk; exact (HQ.out.2.1.blk ad he).1)))
      clear hL3 hS3
      go_roundw
      case rel => exact ⟨k + 1, A', n', c', by go_num, by omega, rfl, by rw [HO.out]; exact HL3.out, HB3.out⟩
      case measure => simp [intOf]; omega
    · obtain rfl : k = n := by omega
      rw [List.take_of_length_le (by rw [HM.out]; exact Nat.le_refl _)] at hl
      have HL := Lib.hid hl
      have HB := Lib.hid hb
      clear hl hb
      go_wp2
      go_ret
      exact ⟨_, _, _, rfl, HL.out, HB.out⟩
end Go.Proofs.Ytmnmkolcffehhaa
