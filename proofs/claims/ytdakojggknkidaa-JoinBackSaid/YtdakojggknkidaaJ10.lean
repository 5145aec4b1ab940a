/- The law JoinBack. -/
import Derived.Test.YtdakojggknkidaaJ8
set_option linter.unusedSimpArgs false
set_option linter.unusedVariables false
namespace Go.Proofs.Ytdakojggknkidaa
open Go.RowKit Go.Shelf
/-- A Join into which the first a bytes went. -/
def BkI (w : World) (g : Nat) (ys : List Int) (a : Nat) (W : World) : Prop :=
  ∃ F mm, JnC F W g mm ∧ mm.fl = ys.take a ∧ mm.N = 0 ∧ mm.T = 0 ∧ (∀ k, F k → w.heap.size ≤ k) ∧ Below w.heap.size w W
theorem add_on {m : Jm} {xs : List Int} {l : Nat} (hx : xs.length = l) (h0 : 1 ≤ l) (h1 : m.op + l ≤ 65536) (en : Bool) : m.refuse xs = 0 ∧ m.is xs en = en := by
  have h : m.refuse xs = 0 := by unfold Jm.refuse; rw [if_neg (by omega), if_neg (by omega)]
  exact ⟨h, by simp [Jm.is, h]⟩
section
variable {w W : World} {g a : Nat} {ys : List Int} {A : Option Addr} {M c : Nat}
theorem mid_add (hI : BkI w g ys a W) (hR : Rd .u8 w A M c ys) {q : Nat} (ha : a + q ≤ M) (hq : 1 ≤ q) (hM : M ≤ 600) :
    Calls Try.prog 11 #[.pointer (some ⟨g, 0, none⟩), .slice (cutA A c a) q (c - a), .bool false] W fun e w' => ∃ A3 n3 c3, e = .returned (.tuple #[.slice A3 n3 c3, .bool false, .int .i64 0]) ∧ BkI w g ys (a + q) w' := by
  obtain ⟨F, mm, hj, hfl, hN0, hT0, hge, hb⟩ := hI
  have hy := hR.1
  have hop : mm.op = a := by rw [← mm.fl_len, hfl, List.length_take, hy]; omega
  have hr := (((hR.below hb).cut (s := a) (by omega)).pre (s := q) (by omega))
  obtain ⟨e1, e2⟩ := add_on (m := mm) hr.1 hq (by rw [hop]; omega) false
  refine (j_add hj hr false (by rw [hN0]; decide) (by rw [hT0]; decide)).mono ?_
  rintro e w' ⟨A3, n3, c3, F3, rfl, hj3, _, _, hs3, hg3⟩
  have e3 : mm.add ((ys.drop a).take q) false = mm.plus ((ys.drop a).take q) := by unfold Jm.add; rw [if_pos e1, if_neg (by simp)]
  rw [e3] at hj3
  refine ⟨A3, n3, c3, by rw [e1, e2], F3, _, hj3, ?_, hN0, hT0, hg3.ge hge hb.size, hb.trans (hs3.below hb.size hge)⟩
  rw [Jm.plus_fl, hfl, List.take_add]
theorem tail_add (hI : BkI w g ys a W) (hR : Rd .u8 w A M c ys) (ha : a < M) (hM : M ≤ 600) :
    Calls Try.prog 11 #[.pointer (some ⟨g, 0, none⟩), .slice (cutA A c a) (M - a) (c - a), .bool true] W fun e w' => ∃ A3 n3 c3, e = .returned (.tuple #[.slice A3 n3 c3, .bool true, .int .i64 0]) ∧ Rd .u8 w' A3 n3 c3 ys ∧ (∃ F m, JnC F w' g m ∧ m.op = 0) ∧ Below w.heap.size w w' := by
  obtain ⟨F, mm, hj, hfl, hN0, hT0, hge, hb⟩ := hI
  have hy := hR.1
  have hop : mm.op = a := by rw [← mm.fl_len, hfl, List.length_take, hy]; omega
  have hr := (hR.below hb).cut (s := a) (by omega)
  obtain ⟨e1, e2⟩ := add_on (m := mm) hr.1 (by omega) (by rw [hop]; omega) true
  refine (j_add hj hr true (by rw [hN0]; decide) (by rw [hT0]; decide)).mono ?_
  rintro e w' ⟨A3, n3, c3, F3, rfl, hj3, hq3, _, hs3, hg3⟩
  have e3 : mm.told (ys.drop a) true = ys := by unfold Jm.told; rw [if_pos e2, hfl, List.take_append_drop]
  rw [e3] at hq3
  have e4 : (mm.add (ys.drop a) true).op = 0 := by unfold Jm.add; rw [if_pos e1, if_pos rfl]; rfl
  exact ⟨A3, n3, c3, by rw [e1, e2], hq3.1, ⟨F3, _, hj3, e4⟩, hb.trans (hs3.below hb.size hge)⟩
end
set_option maxRecDepth 100000 in
set_option maxHeartbeats 8000000 in
theorem lawBack (A : Option Addr) (n c : Nat) (xs : List Int) (A1 : Option Addr) (n1 c1 : Nat) (cs : List Int) (w : World) (h : Rd .u8 w A n c xs) (h1 : Rd .u8 w A1 n1 c1 cs) :
    Calls Try.prog 5 #[.slice A n c, .slice A1 n1 c1] w fun e w' => e = .returned (.bool true) ∧ Below w.heap.size w w' := by
  have hcc := h.2.1
  have hcm := h.2.2.1
  unfold maxLen at hcm
  by_cases hz : n = 0
  · subst hz
    have HA := Lib.hid (awake_any w)
    clear h h1 hcc hcm
    go_enter Try.func5, Try.ntmps5
    go_wp2_with fail
    refine HA.out.mono ?_
    rintro e w' ⟨rfl, hb⟩
    have HB := Lib.hid hb
    clear hb
    go_wp2
    go_ret
    exact ⟨rfl, HB.out⟩
  · obtain ⟨M, hM⟩ : ∃ M, M = min n 600 := ⟨_, rfl⟩
    have HR := Lib.hid (h.pre (s := M) (by omega))
    generalize xs.take M = ys at HR
    have HS := Lib.hid h1
    have hMc : M ≤ c := by omega
    have hM6 : M ≤ 600 := by omega
    have hM1 : 1 ≤ M := by omega
    have hn1 : n1 ≤ c1 := h1.2.1
    have hz0 : ((M : Int) == 0) = false := by simp; omega
    have hsl0 : (600 : Int) < n → (Instr.slice 25 (.slice A n c) none (some (.int .i64 600)) none).run Try.prog w = .ok (.slice A M c) w := fun hlt => by
      have h2 := bytesT.run_pre A n c 0 600 (by omega) hcc w
      rw [show M = 0 + 600 by omega]
      exact h2
    clear h h1
    rcases (by omega : (n ≤ 600 ∧ M = n) ∨ (600 < n ∧ M = 600)) with ⟨h5, e5⟩ | ⟨h5, e5⟩
    case' inl =>
      subst e5
      clear hsl0 hM
    case' inr =>
      have h5' : (600 : Int) < n := by omega
      have hsl1 := hsl0 h5'
      clear hsl0 hM e5
    all_goals
      go_enter Try.func5, Try.ntmps5
      go_wp2_with fail
      refine (j_new w).mono ?_
      rintro e w1 ⟨rfl, hj1, hb1⟩
      have hI : BkI w w.heap.size ys 0 w1 := ⟨_, ⟨[], 0, 0⟩, ⟨_, _, _, hj1⟩, by simp [Jm.fl], rfl, rfl, fun k hk => by subst hk; exact Nat.le_refl _, hb1⟩
      have HI := Lib.hid hI
      clear hj1 hb1 hI
      try clear hsl1
      go_wp2
      go_loopw [6, 7, 8, 9, 10, 11] (fun at_ i q m9 ok e9 wr => ∃ (a k : Nat), at_ = .int .i64 a ∧ i = .int .i64 k ∧ k ≤ n1 ∧ k ≤ 100 ∧ a < M ∧ BkI w w.heap.size ys a wr) (fun at_ i q m9 ok e9 _ => 100 - (intOf i).toNat)
      case atStart => exact ⟨0, 0, rfl, rfl, Nat.zero_le _, Nat.zero_le _, by omega, HI.out⟩
      case round =>
        obtain ⟨a, k, rfl, rfl, hk, hk1, ha, hI⟩ := hrel
        have HI2 := Lib.hid hI
        have hb := hI.choose_spec.choose_spec.2.2.2.2.2
        by_cases hlt : k < n1 ∧ k < 100
        · obtain ⟨g1, o1, rfl, hg1, hcell⟩ := (HS.out.below hb).cell hlt.1
          have hby : 0 ≤ cs.getD k 0 ∧ cs.getD k 0 < 256 := by
            have h1 := HS.out.1
            have h2 : cs.getD k 0 ∈ cs := by
              rw [List.getD_eq_getElem?_getD, List.getElem?_eq_getElem (by omega)]
              exact List.getElem_mem _
            exact u8_bounds (HS.out.2.2.2.2.1 _ h2)
          generalize cs.getD k 0 = z at hcell hby
          obtain ⟨y, hy⟩ : ∃ y : Nat, z.tmod 20 = y := ⟨(z.tmod 20).toNat, by rw [Int.tmod_eq_emod_of_nonneg hby.1]; omega⟩
          have hy2 : y < 20 := by rw [Int.tmod_eq_emod_of_nonneg hby.1] at hy; omega
          have hk1' : (k : Int) < n1 := by omega
          have hk2' : (k : Int) < 100 := by omega
          have hwz : IntKind.i64.wrap z = z := by rw [IntKind.wrap_i64]; omega
          clear hI hb
          by_cases hbr : M - a ≤ 1 + y
          · have hbr' : (M : Int) - a ≤ 1 + y := by omega
            have hsl := fun W => bytesT.run_cut A M c a (by omega) hMc W
            have HA := Lib.hid (tail_add HI2.out HR.out ha hM6)
            go_wp2_with fail
            refine HA.out.mono ?_
            rintro e w3 ⟨A3, n3, c3, rfl, hq3, ⟨F3, m3, hj3, h30⟩, hb3⟩
            have q1 := conv_any hq3
            have q2 := conv_any (HR.out.below hb3)
            have HO := Lib.hid (j_open hj3)
            rw [h30] at HO
            have HW := Lib.hid (awake_any w3)
            have HB3 := Lib.hid hb3
            generalize strOfNums ys = sy at q1 q2
            clear hq3 hj3 hb3 hsl
            go_wp2_with (first
              | (go_at_call 19; refine HO.out.mono ?_; rintro e w4 ⟨rfl, rfl⟩)
              | (go_at_call 8; refine HW.out.mono ?_; rintro e w5 ⟨rfl, hb5⟩))
            go_ret
            exact ⟨rfl, HB3.out.trans (hb5.mono HB3.out.size)⟩
          · have hbr' : (1 : Int) + y < (M : Int) - a := by omega
            have hsl := fun W => bytesT.run_cut2 A M c a (1 + y) (by omega) hMc W
            have hq1 : (((1 + y : Nat) : Int)) = 1 + (y : Int) := by omega
            rw [hq1] at hsl
            have HA := Lib.hid (mid_add HI2.out HR.out (q := 1 + y) (by omega) (by omega) hM6)
            have HHh := Lib.hid hlt
            clear hq1 hlt
            go_wp2_with fail
            refine HA.out.mono ?_
            rintro e w3 ⟨A3, n3, c3, rfl, hI3⟩
            have HI3 := Lib.hid hI3
            clear hI3
            go_wp2
            go_roundw
            case rel => exact ⟨a + (1 + y), k + 1, by go_num, by go_num, by have := HHh.out; omega, by have := HHh.out; omega, by omega, HI3.out⟩
            case measure => simp [intOf]; omega
        · clear hI hb
          rcases (by omega : n1 ≤ k ∨ (k < n1 ∧ 100 ≤ k)) with h9 | ⟨h9, h10⟩
          · have h9' : (n1 : Int) ≤ k := by omega
            have hsl := fun W => bytesT.run_cut A M c a (by omega) hMc W
            have HA := Lib.hid (tail_add HI2.out HR.out ha hM6)
            go_wp2_with fail
            refine HA.out.mono ?_
            rintro e w3 ⟨A3, n3, c3, rfl, hq3, ⟨F3, m3, hj3, h30⟩, hb3⟩
            have q1 := conv_any hq3
            have q2 := conv_any (HR.out.below hb3)
            have HO := Lib.hid (j_open hj3)
            rw [h30] at HO
            have HW := Lib.hid (awake_any w3)
            have HB3 := Lib.hid hb3
            generalize strOfNums ys = sy at q1 q2
            clear hq3 hj3 hb3 hsl
            go_wp2_with (first
              | (go_at_call 19; refine HO.out.mono ?_; rintro e w4 ⟨rfl, rfl⟩)
              | (go_at_call 8; refine HW.out.mono ?_; rintro e w5 ⟨rfl, hb5⟩))
            go_ret
            exact ⟨rfl, HB3.out.trans (hb5.mono HB3.out.size)⟩
          · have h9' : (k : Int) < n1 := by omega
            have h10' : (100 : Int) ≤ k := by omega
            have hsl := fun W => bytesT.run_cut A M c a (by omega) hMc W
            have HA := Lib.hid (tail_add HI2.out HR.out ha hM6)
            go_wp2_with fail
            refine HA.out.mono ?_
            rintro e w3 ⟨A3, n3, c3, rfl, hq3, ⟨F3, m3, hj3, h30⟩, hb3⟩
            have q1 := conv_any hq3
            have q2 := conv_any (HR.out.below hb3)
            have HO := Lib.hid (j_open hj3)
            rw [h30] at HO
            have HW := Lib.hid (awake_any w3)
            have HB3 := Lib.hid hb3
            generalize strOfNums ys = sy at q1 q2
            clear hq3 hj3 hb3 hsl
            go_wp2_with (first
              | (go_at_call 19; refine HO.out.mono ?_; rintro e w4 ⟨rfl, rfl⟩)
              | (go_at_call 8; refine HW.out.mono ?_; rintro e w5 ⟨rfl, hb5⟩))
            go_ret
            exact ⟨rfl, HB3.out.trans (hb5.mono HB3.out.size)⟩
end Go.Proofs.Ytdakojggknkidaa
