/- Rings of int: cleared, rotated. -/
import Derived.Test.YtgeihelpggncgaaRgbint
import Derived.IntWalk
set_option linter.unusedSimpArgs false
set_option linter.unusedVariables false
namespace Go.Proofs.Ytgeihelpggncgaa.Rgint
open Go.RowKit Go.Shelf

theorem clear_any (F : Nat → Prop) (p room : Nat) (vs : List Value) (w : World) (h : Rg 60 3 F w p room vs) :
    Calls Try.prog 27 #[.pointer (some ⟨p, 0, none⟩)] w fun e w' => e = .returned (.tuple #[]) ∧ Did 60 3 F p room [] w w' := by
  obtain ⟨h1, h2, h3, h4, A, n, c, h5, h6, h7, h8⟩ := h
  have c1 := h5.cell 1 rfl
  have f1 := h5.free 1
  go_enter Try.func27, Try.ntmps27
  go_wp2_with fail
  refine (made_any p room _ w h5 h2).mono ?_
  rintro e w' ⟨rfl, rfl⟩
  go_wp2
  go_end0
  exact ⟨rfl, F, ⟨h1, h2, h3, Nat.zero_le _, none, 0, 0, h5.set 1 _, Lst.nil _ _ _, by simp, by simpa [World.setCell] using h8⟩, St.setCell w (a := ⟨p, 1, none⟩) h1 _, Gr.refl _ _⟩
theorem clear_no (P : Option Addr) (w : World) (hp : NoRg 60 w P) :
    Calls Try.prog 27 #[.pointer P] w fun e w' => e = .returned (.tuple #[]) ∧ w = w' := by
  go_enter Try.func27, Try.ntmps27
  go_wp2_with fail
  refine (made_no P w hp).mono ?_
  rintro e w' ⟨rfl, rfl⟩
  go_wp2
  go_end0
  exact ⟨rfl, rfl⟩
theorem rot_no (P : Option Addr) (n : Int) (w : World) (hp : NoRg 60 w P) :
    Calls Try.prog 17 #[.pointer P, .int .i64 n] w fun e w' => e = .returned (.int .i64 0) ∧ w = w' := by
  go_enter Try.func17, Try.ntmps17
  go_wp2_with fail
  refine (len_no P w hp).mono ?_
  rintro e w' ⟨rfl, rfl⟩
  go_wp2
  go_ret
  exact ⟨rfl, rfl⟩
theorem rot_none (F : Nat → Prop) (p room : Nat) (n : Int) (w : World) (h : Rg 60 3 F w p room []) :
    Calls Try.prog 17 #[.pointer (some ⟨p, 0, none⟩), .int .i64 n] w fun e w' => e = .returned (.int .i64 0) ∧ w = w' := by
  go_enter Try.func17, Try.ntmps17
  go_wp2_with fail
  refine (len_any F p room [] w h).mono ?_
  rintro e w' ⟨rfl, rfl⟩
  go_wp2
  go_ret
  exact ⟨rfl, rfl⟩
/-- How many times: from 0 on, less than the ring is long. -/
def rotN (n : Int) (L : Nat) : Nat := (n % L).toNat
theorem rotN_lt (n : Int) (L : Nat) (h : 0 < L) : rotN n L < L := by
  unfold rotN
  have := Int.emod_nonneg n (b := (L : Int)) (by omega)
  have := Int.emod_lt_of_pos n (b := (L : Int)) (by omega)
  omega
theorem rotN_eq (n : Int) (L : Nat) (h : 0 < L) : (rotN n L : Int) = n % L := by
  unfold rotN
  have := Int.emod_nonneg n (b := (L : Int)) (by omega)
  omega
theorem tmod_cases (n : Int) (L : Nat) (h : 0 < L) : (n.tmod L < 0 ∧ n.tmod L + L = rotN n L ∨ 0 ≤ n.tmod L ∧ n.tmod L = rotN n L) ∧ -(L : Int) < n.tmod L ∧ n.tmod L < L := by
  rw [rotN_eq n L h]
  have hd := Int.mul_tdiv_add_tmod n L
  have h1 : n % L = n.tmod L % L := by
    conv => lhs; rw [← hd, Int.add_comm, Int.add_mul_emod_self_left]
  have h2 : n.tmod L < L := Int.tmod_lt_of_pos n (by omega)
  have h3 : -(L : Int) < n.tmod L := by
    have := Int.lt_tmod_of_pos n (b := (L : Int)) (by omega)
    omega
  refine ⟨?_, h3, h2⟩
  by_cases h0 : n.tmod L < 0
  · left
    refine ⟨h0, ?_⟩
    rw [h1, ← Int.add_emod_right, Int.emod_eq_of_lt (by omega) (by omega)]
  · right
    refine ⟨by omega, ?_⟩
    rw [h1, Int.emod_eq_of_lt (by omega) h2]
theorem rot_step (vs : List Value) (j : Nat) (h : j < vs.length) : vs.drop j ++ vs.take j = vs[j] :: (vs.drop (j + 1) ++ vs.take j) ∧ vs.drop (j + 1) ++ vs.take j ++ [vs[j]] = vs.drop (j + 1) ++ vs.take (j + 1) := by
  constructor
  · rw [List.drop_eq_getElem_cons h]; rfl
  · rw [List.append_assoc, List.take_succ_eq_append_getElem h]

set_option maxRecDepth 100000 in
theorem rot_any (F : Nat → Prop) (p room : Nat) (vs : List Value) (n : Int) (w : World) (h : Rg 60 3 F w p room vs) (h0 : 0 < vs.length) (hn : (Lit.int .i64 n).wf = true) :
    Calls Try.prog 17 #[.pointer (some ⟨p, 0, none⟩), .int .i64 n] w fun e w' => e = .returned (.int .i64 (rotN n vs.length)) ∧ Did 60 3 F p room (vs.drop (rotN n vs.length) ++ vs.take (rotN n vs.length)) w w' := by
  have HLen := Lib.hid (len_any F p room vs w h)
  have hL : vs.length ≤ 1024 := by obtain ⟨h1, h2, h3, h4, _⟩ := h; omega
  obtain ⟨ht, ht1, ht2⟩ := tmod_cases n vs.length h0
  have hk := rotN_lt n vs.length h0
  have hn' : -9223372036854775808 ≤ n ∧ n ≤ 9223372036854775807 := by simpa [Lit.wf, IntKind.min, IntKind.max, IntKind.signed, IntKind.bits] using hn
  obtain ⟨hn0, hn1⟩ := hn'
  have hne : ((vs.length : Int) == 0) = false := by rw [beq_eq_false_iff_ne]; omega
  generalize hK : rotN n vs.length = k at *
  have HH := Lib.hid h
  clear hK hn h
  rcases ht with ⟨hneg, he⟩ | ⟨hpos, he⟩
  all_goals
    have HE := Lib.hid he
    clear he
    go_enter Try.func17, Try.ntmps17
    go_wp2_with fail
    refine HLen.out.mono ?_
    rintro e w' ⟨rfl, rfl⟩
    go_wp2_with fail
    refine HLen.out.mono ?_
    rintro e w' ⟨rfl, rfl⟩
    go_wp2_with fail
    try (refine HLen.out.mono ?_
         rintro e w' ⟨rfl, rfl⟩
         go_wp2_with fail)
    rw [HE.out]
    clear ht1 ht2 HE
    first | clear hneg | clear hpos
    go_loopw [21] (fun i wr => ∃ j : Nat, j ≤ k ∧ i = .int .i64 j ∧ Did 60 3 F p room (vs.drop j ++ vs.take j) w wr) (fun i _ => k - (intOf i).toNat)
    case atStart => exact ⟨0, Nat.zero_le _, rfl, by simpa using Did.refl HH.out⟩
    case round =>
      obtain ⟨j, hj, rfl, F1, hr, hs, hg⟩ := hrel
      by_cases hlt : j < k
      · obtain ⟨e1, e2⟩ := rot_step vs j (by omega)
        rw [e1] at hr
        have HP := Lib.hid (pop_some F1 p room vs[j] (vs.drop (j + 1) ++ vs.take j) wr hr)
        have HE2 := Lib.hid e2
        have hlen : (vs.drop (j + 1) ++ vs.take j).length + 1 ≤ room := by
          obtain ⟨h1, h2, h3, h4, _⟩ := hr
          simpa using h4
        have h1c : vs[j].oneCell' = true := by
          obtain ⟨h1, h2, h3, h4, A, n', c, h5, h6, h7, h8⟩ := hr
          exact h6.2.2.2.1 _ (by simp)
        generalize hx : vs[j] = x at *
        clear e1 e2 hr hx
        go_wp2_with fail
        refine HP.out.mono ?_
        rintro e w2 ⟨rfl, F2, hr2, hs2, hg2⟩
        go_wp2_with (refine wpList_build_one (x := x) elt rfl (.tmp 29) rfl rfl h1c ?_)
        have hlt2 : ¬ F2 w2.heap.size := fun hf => by
          obtain ⟨h1, h2, h3, h4, A, n', c, h5, h6, h7, h8⟩ := hr2
          exact absurd (h8 _ hf) (by omega)
        refine (push_ok F2 p room _ [x] (some ⟨w2.heap.size, 0, none⟩) 1 1 _ (by exact hr2.below ((Below.refl _ _).alloc (Nat.le_refl _) _)) (RdV.one w2 _ x h1c) (by rintro - ad he; injection he with he; subst he; exact hlt2) hlen).mono ?_
        rintro e w3 ⟨rfl, hd3⟩
        have hd4 : Did 60 3 F p room (vs.drop (j + 1) ++ vs.take (j + 1)) w w3 := by
          rw [← HE2.out]
          exact Did.trans hs hg (Did.trans (hs2.trans (St.alloc _ _ _) hg2) (hg2.trans (Gr.refl _ _) (Nat.le_refl _)) hd3)
        clear hd3
        go_wp2
        go_roundw
        case rel => exact ⟨j + 1, by omega, by go_num, hd4⟩
        case measure => simp [intOf]; omega
      · obtain rfl : j = k := by omega
        go_wp2
        go_ret
        exact ⟨rfl, F1, hr, hs, hg⟩
end Go.Proofs.Ytgeihelpggncgaa.Rgint
