/- The law CutWhole. -/
import Derived.Test.YtmnmkolcffehhaaU7
set_option linter.unusedSimpArgs false
set_option linter.unusedVariables false
namespace Go.Proofs.Ytmnmkolcffehhaa
open Go.RowKit Go.Shelf
set_option maxRecDepth 100000 in
set_option maxHeartbeats 4000000 in
theorem lawWhole (A : Option Addr) (n c : Nat) (xs : List Int) (mi : Int) (w : World) (h : Rd .u8 w A n c xs) :
    Calls Try.prog 5 #[.slice A n c, .int .i64 mi] w fun e w' => e = .returned (.bool true) ∧ Below w.heap.size w w' := by
  have hcc := h.2.1
  have hcm := h.2.2.1
  have HR := Lib.hid (h.pre (s := min n 3000) (Nat.min_le_left _ _))
  clear h
  generalize hN : min n 3000 = N at HR
  generalize xs.take N = ys at HR
  have hN3 : N ≤ 3000 := by omega
  have HF := Lib.hid (few_any A n c w hcc hcm)
  rw [hN] at HF
  clear hN hcm hcc
  cases hf : fitB N mi with
  | false =>
    have HV := Lib.hid (c_cut_no (w := w) (A := A) (n := N) (c := c) hf)
    have HA := Lib.hid (awake_any w)
    clear hf
    go_enter Try.func5, Try.ntmps5
    go_wp2_with fail
    refine HF.out.mono ?_
    rintro e w' ⟨rfl, rfl⟩
    go_wp2_with fail
    refine HV.out.mono ?_
    rintro e w' ⟨rfl, rfl⟩
    go_wp2_with fail
    refine HA.out.mono ?_
    rintro e w' ⟨rfl, hb⟩
    have HB := Lib.hid hb
    clear hb
    go_wp2
    go_ret
    exact ⟨rfl, HB.out⟩
  | true =>
    obtain ⟨m, rfl⟩ := fit_nat hf
    have HC := Lib.hid (c_cut HR.out hf)
    obtain ⟨hf1, hf2, hf3, hf4⟩ := fit_of hf
    have hX := HR.out.1
    have HX := Lib.hid hX
    have HCV := Lib.hid (cntV_cut hf)
    have hKn : cutN N m ≤ N := Nat.le_of_not_lt fun hlt => by
      have h1 := (cutN_lt (l := N) (m := m) (k := N) (by omega)).1 hlt
      have h2 := Nat.le_mul_of_pos_right N (show 0 < m by omega)
      omega
    clear hf hX
    go_enter Try.func5, Try.ntmps5
    go_wp2_with fail
    refine HF.out.mono ?_
    rintro e w' ⟨rfl, rfl⟩
    clear HF
    go_wp2_with fail
    refine HC.out.mono ?_
    rintro e w1 ⟨A1, n1, c1, rfl, hl, hb1⟩
    obtain rfl : cutN N m = n1 := by rw [← hl.len, cutL_len, HX.out]
    have HL := Lib.hid hl
    have HB1 := Lib.hid hb1
    clear hl hb1 HC
    go_wp2
    go_loopw [7, 8] (fun v i wr => ∃ (k : Nat), i = .int .i64 k ∧ k ≤ cutN N m ∧ Ow .u8 5 w1.heap.size wr v (ys.take (k * m)) ∧ Below w1.heap.size w1 wr) (fun v i _ => cutN N m - (intOf i).toNat)
    case atStart => exact ⟨0, rfl, Nat.zero_le _, by simpa using Ow.nil .u8 5 _ _, Below.refl _ _⟩
    case round =>
      obtain ⟨k, rfl, hk, how, hb⟩ := hrel
      obtain ⟨A3, c3, rfl⟩ := own_slice how
      by_cases hlt : k < cutN N m
      · obtain ⟨g, o, q, rfl, hra, hq, hs, hg⟩ := (HL.out.sl.below hb).row (i := k) hlt
        rw [cutL_at ys m (by rw [HX.out]; exact hlt)] at hs
        have hfn := (cutN_lt (l := N) (m := m) (k := k) (by omega)).1 hlt
        obtain ⟨f, hf⟩ : ∃ f, f = k * m := ⟨_, rfl⟩
        have hf2 : (k + 1) * m = f + m := by rw [hf, Nat.add_mul, Nat.one_mul]
        obtain ⟨B, l, d, zs, en, fn⟩ := q
        have hs' : cutP ys m k = ⟨zs, en, fn⟩ := by injection hs
        unfold cutP at hs'
        rw [← hf] at hs' how hfn ⊢
        injection hs' with s1 s2 s3
        subst s3
        have hl1 : l = min m (N - f) := by
          have h1 := hq.1
          dsimp only at h1
          rw [← h1, ← s1, List.length_take, List.length_drop, HX.out]
        have hkI : (k : Int) < cutN N m := by omega
        have hb1 : (1 : Int) ≤ l := by omega
        have hb2 : (l : Int) ≤ m := by omega
        have c0 : wr.cell? ⟨g, o + k * 3, none⟩ = some (.slice B l d) := hra 0 _ rfl
        have c1' : wr.cell? ⟨g, o + k * 3 + 1, none⟩ = some (.bool en) := hra 1 _ rfl
        have c2 : wr.cell? ⟨g, o + k * 3 + 2, none⟩ = some (.bool false) := hra 2 _ rfl
        have hen : ((k : Int) == (cutN N m : Int) - 1) = en := by
          rw [← s2, HX.out]
          by_cases hkl : k + 1 = cutN N m
          · rw [decide_eq_true hkl]; simp; omega
          · rw [decide_eq_false hkl]; simp; omega
        have hl3 : l ≤ 3000 := by omega
        have HLE : Hid (((ys.take f).length + l) * 1 ≤ 140737488355328) := Lib.hid (by rw [List.length_take]; have := HX.out; omega)
        have HT : Hid (ys.take f ++ zs = ys.take ((k + 1) * m)) := Lib.hid (by rw [hf2, ← s1, List.take_add])
        have HQ := Lib.hid hq
        have HB := Lib.hid hb
        have hne : (en != en) = false := by simp
        generalize (ys.take f).length = ln at how ⊢
        have HK := Lib.hid how
        clear hra hs s1 s2 how hq hb hf hf2 hl1 hg
        go_wp2_with (at_builtin
                     refine wpList_append_ints bytesT rfl (.tmp 68) (.tmp 73) rfl rfl (w0 := w1) HK.out rfl HQ.out HLE.out (by omega) HB.out ?_
                     intro v2 w2 hown hb3)
        rw [HT.out] at hown
        go_roundw
        case rel => exact ⟨k + 1, by go_num, by omega, hown, hb3⟩
        case measure => simp [intOf]; omega
      · obtain rfl : k = cutN N m := by omega
        have hall : ys.take (cutN N m * m) = ys := by
          refine List.take_of_length_le ?_
          rw [HX.out]
          exact Nat.le_of_not_lt fun h => Nat.lt_irrefl _ ((cutN_lt (l := N) (m := m) (k := cutN N m) (by omega)).2 h)
        rw [hall] at how ⊢
        obtain ⟨A4, c4, h4, hrd⟩ := how.rd HR.out.2.2.2.2.1
        injection h4 with e1 e2 e3
        subst e1 e3
        have q1 := conv_any hrd
        have q2 := conv_any ((HR.out.below HB1.out).below hb)
        have HB := Lib.hid hb
        generalize strOfNums ys = sy at *
        clear how hall hrd hb e2
        go_wp2_with fail
        refine (count_any N m wr).mono ?_
        rintro e w2 ⟨rfl, rfl⟩
        rw [HCV.out]
        go_wp2_with fail
        refine (awake_any wr).mono ?_
        rintro e w2 ⟨rfl, hb2⟩
        have HB2 := Lib.hid hb2
        clear hb2
        go_wp2
        go_ret
        have b2 := HB1.out.trans (HB.out.mono HB1.out.size)
        exact ⟨rfl, b2.trans (HB2.out.mono b2.size)⟩
end Go.Proofs.Ytmnmkolcffehhaa
