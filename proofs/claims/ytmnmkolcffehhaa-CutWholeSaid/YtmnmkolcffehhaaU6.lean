/- The reference: a message cut. -/
import Derived.Test.YtmnmkolcffehhaaU5
set_option linter.unusedSimpArgs false
set_option linter.unusedVariables false
namespace Go.Proofs.Ytmnmkolcffehhaa
open Go.RowKit Go.Shelf
/-- What an append of pieces to a list leaves. -/
theorem LstP.apps {F : Nat → Prop} {W W1 w2 : World} {A : Option Addr} {n c : Nat} {qs rs : List Pc} {v : Value} (hl : LstR 3 36 F W A n c (flat Pc.cl qs)) (hqs : ∀ q ∈ qs, PcR W q) (hrs : ∀ q ∈ rs, PcR W1 q)
    (hb : Below W.heap.size W W1) (hap : ApdR 3 36 (BlkOf A) W1 v (flat Pc.cl qs ++ flat Pc.cl rs) w2) :
    ∃ A' n' c', v = .slice A' n' c' ∧ LstP (fun k => F k ∨ W.heap.size ≤ k) w2 A' n' c' ((qs ++ rs).map Pc.say) ∧ St (BlkOf A) W w2 := by
  obtain ⟨⟨A', n', c', rfl, hl'⟩, hst⟩ := hap
  have hnb : ∀ k, BlkOf A k → ¬ Tyd 5 W1 k := fun k hk => ((hl.below hb).tyd k hk).ne (by decide)
  refine ⟨A', n', c', rfl, ⟨qs ++ rs, ?_, ?_, rfl, fun q hq => ?_⟩, (St.ext hb).trans hst (Gr.refl _ _)⟩
  · have := hl'.1
    rw [← flat_app, flat_len Pc.cl_len] at this
    omega
  · rw [flat_app]
    refine hl'.mono ?_
    rintro k (⟨ad, rfl, rfl⟩ | hk)
    · exact .inl (hl.blk _ rfl).1
    · exact .inr (Nat.le_trans hb.size hk)
  · rcases List.mem_append.1 hq with h | h
    · exact BsR.st (BsR.below (hqs q h) hb) hst hnb
    · exact BsR.st (hrs q h) hst hnb
set_option maxRecDepth 100000 in
set_option maxHeartbeats 4000000 in
theorem r_cut {w : World} {A : Option Addr} {n c : Nat} {xs : List Int} {m : Nat} (h : Rd .u8 w A n c xs) (hfit : fitB n m = true) :
    Calls Try.prog 8 #[.slice A n c, .int .i64 m] w fun e w' => ∃ A' n' c', e = .returned (.tuple #[.slice A' n' c', .int .i64 0]) ∧ MadeC (cutL xs m) w A' n' c' w' := by
  obtain ⟨hf1, hf2, hf3, hf4⟩ := fit_of hfit
  have HC := Lib.hid (cntV_cut hfit)
  have HX := Lib.hid h.1
  have hK : cutN n m ≤ n := Nat.le_of_not_lt fun hlt => by
    have h1 := (cutN_lt (l := n) (m := m) (k := n) (by omega)).1 hlt
    have h2 := Nat.le_mul_of_pos_right n (show 0 < m by omega)
    omega
  have hK1 : (1 : Int) ≤ cutN n m := by
    have := (cutN_lt (l := n) (m := m) (k := 0) (by omega)).2 (by omega)
    omega
  have hz0 : ((cutN n m : Int) == 0) = false := by simp; omega
  have HH := Lib.hid h
  have hcc := h.2.1
  have hcm := h.2.2.1
  unfold maxLen at hcm
  have HR := Lib.hid (rcount_any n m w)
  clear h hfit
  go_enter Try.func8, Try.ntmps8
  go_wp2_with fail
  refine HR.out.mono ?_
  rintro e w1 ⟨rfl, rfl⟩
  rw [HC.out]
  clear HR
  go_wp2
  go_loopw [7, 8, 9] (fun l i b wr => ∃ (k : Nat) (A1 : Option Addr) (n1 c1 : Nat), i = .int .i64 k ∧ k ≤ cutN n m ∧ l = .slice A1 n1 c1 ∧ LstP (w.heap.size ≤ ·) wr A1 n1 c1 ((cutL xs m).take k) ∧ Below w.heap.size w wr) (fun l i b _ => cutN n m - (intOf i).toNat)
  case atStart => exact ⟨0, none, 0, 0, rfl, Nat.zero_le _, rfl, LstP.nil _ _, Below.refl _ _⟩
  case round =>
    obtain ⟨k, A1, n1, c1, rfl, hk, rfl, hl, hb⟩ := hrel
    by_cases hlt : k < cutN n m
    · have hfn := (cutN_lt (l := n) (m := m) (k := k) (by omega)).1 hlt
      have hlast := cutN_last (l := n) (m := m) (k := k) (by omega) hfn
      obtain ⟨f, hf⟩ : ∃ f, f = k * m := ⟨_, rfl⟩
      rw [← hf] at hfn hlast
      have hkm : (k : Int) * (m : Int) = f := by rw [hf]; simp
      have hf0 : f ≤ 65536 := by omega
      obtain ⟨qs, hn1, hl, hps, hqs⟩ := hl
      have hql : qs.length = k := by
        have := congrArg List.length hps
        rw [List.length_map, List.length_take, cutL_len, HX.out] at this
        omega
      have hn8 : (n1 + 1) * 32 ≤ 140737488355328 := by omega
      have HQ := Lib.hid (And.intro hn1 (And.intro hl (And.intro hps hqs)))
      have HCT := Lib.hid (cutL_take xs m (i := k) (by rw [HX.out]; exact hlt))
      have HB := Lib.hid hb
      have hfI : (f : Int) < n := by omega
      have hkI : (k : Int) < cutN n m := by omega
      clear hn1 hps hqs hql hb
      by_cases hle : n ≤ f + m
      · have HCP : Hid (cutP xs m k = ⟨(xs.drop f).take (n - f), true, false⟩) := Lib.hid (by
          unfold cutP
          rw [← hf, HX.out, decide_eq_true (hlast.2 hle)]
          congr 1
          rw [List.take_of_length_le (by rw [List.length_drop, HX.out]; omega), List.take_of_length_le (by rw [List.length_drop, HX.out]; omega)])
        have hsl := fun W' => bytesT.run_cut2 A n c f (n - f) (by omega) hcc W'
        have hnf : (f : Int) + ((n - f : Nat) : Int) = n := by omega
        simp only [hnf] at hsl
        have hkl : (k : Int) = (cutN n m : Int) - 1 := by have := hlast.2 hle; omega
        have hkb : ((k : Int) == (cutN n m : Int) - 1) = true := by simpa using hkl
        have HRD := Lib.hid (((HH.out.below HB.out).cut (s := f) (by omega)).pre (s := n - f) (Nat.le_refl _))
        have hmf : n - f ≤ 65536 := by omega
        clear hlast hnf hkl hf
        rcases (by omega : (n : Int) < (f : Int) + m ∨ (f : Int) + m = n) with hl' | hl'
        all_goals
          go_wp2_with (first
            | (at_builtin
               refine wpList_append_ints bytesT rfl (.tmp 35) (.tmp 36) rfl rfl (w0 := wr) (xs := []) (Ow.empty .u8 5 wr) rfl (HRD.out.alloc _) (by simp; omega) (by omega) ((Below.refl _ _).alloc (Nat.le_refl _) _) ?_
               intro v1 w1 hown hb1
               simp only [List.nil_append] at hown
               obtain ⟨A2, c2, rfl⟩ := own_slice hown
               have HPC := Lib.hid (BsR.own (A := A2) (c := c2) hown HRD.out.2.2.2.2.1)
               have HB1 := Lib.hid hb1
               generalize hln : ((xs.drop f).take (n - f)).length = ln at hown ⊢
               have HLN := Lib.hid hln
               have hla := ((hl.below hb1).alloc (.cells #[.slice A2 ln c2, .bool (true), .bool false] 36)).tight
               have hu := RdR.one w1 36 [.slice A2 ln c2, .bool (true), .bool false] (by simp [Value.oneCell'])
               clear hown hln hb1)
            | (refine wpList_build_row eltC rfl (.tmp 42) rfl (xs := [.slice A2 ln c2, .bool (true), .bool false]) rfl rfl ?_)
            | (at_builtin
               refine wpList_append_lstR eltC rfl (.tmp 34) (.tmp 43) rfl rfl hla rfl hu hn8 ?_
               rintro v w2 hap
               obtain ⟨A', n', c', rfl, hl'⟩ := hap.ex
               have HAP := Lib.hid hap
               clear hap hl'))
          have hba := HB1.out.trans ((Below.refl _ w1).alloc HB1.out.size (.cells #[.slice A2 ln c2, .bool true, .bool false] 36))
          obtain ⟨A3, n3, c3, e3, hL3, hS3⟩ := LstP.apps (rs := [⟨A2, ln, c2, (xs.drop f).take (n - f), true, false⟩]) HQ.out.2.1 HQ.out.2.2.2 (fun q hq => by
            obtain rfl : q = _ := by simpa using hq
            have := HPC.out
            rw [HLN.out] at this
            exact BsR.below this ((Below.refl _ w1).alloc (Nat.le_refl _) _)) hba HAP.out
          injection e3 with e1 e2 e3
          subst e1 e2 e3
          have HL3 := Lib.hid (hL3.mono (F' := (w.heap.size ≤ ·)) (fun k hk => by rcases hk with hk | hk; exact hk; exact Nat.le_trans HB.out.size hk))
          rw [List.map_append, HQ.out.2.2.1] at HL3
          have HB3 := Lib.hid (HB.out.trans (hS3.below HB.out.size (fun k hk => by obtain ⟨ad, he, rfl⟩ := hk; exact (HQ.out.2.1.blk ad he).1)))
          go_roundw
          case rel =>
            exact ⟨k + 1, A', n', c', by go_num, by omega, rfl, by rw [HCT.out, HCP.out]; exact HL3.out, HB3.out⟩
          case measure => simp [intOf]; omega
      · have hl' : (f : Int) + m < n := by omega
        have HCP : Hid (cutP xs m k = ⟨(xs.drop f).take m, false, false⟩) := Lib.hid (by
          unfold cutP
          rw [← hf, HX.out, decide_eq_false (fun h => hle (hlast.1 h))])
        have hsl := fun W' => bytesT.run_cut2 A n c f m (by omega) hcc W'
        have hkl : ¬ (k : Int) = (cutN n m : Int) - 1 := fun h => hle (hlast.1 (by omega))
        have hkb : ((k : Int) == (cutN n m : Int) - 1) = false := by simpa using hkl
        have HRD := Lib.hid (((HH.out.below HB.out).cut (s := f) (by omega)).pre (s := m) (by omega))
        have hmf : m ≤ 65536 := by omega
        clear hlast hkl hf
        go_wp2_with (first
          | (at_builtin
             refine wpList_append_ints bytesT rfl (.tmp 35) (.tmp 36) rfl rfl (w0 := wr) (xs := []) (Ow.empty .u8 5 wr) rfl (HRD.out.alloc _) (by simp; omega) (by omega) ((Below.refl _ _).alloc (Nat.le_refl _) _) ?_
             intro v1 w1 hown hb1
             simp only [List.nil_append] at hown
             obtain ⟨A2, c2, rfl⟩ := own_slice hown
             have HPC := Lib.hid (BsR.own (A := A2) (c := c2) hown HRD.out.2.2.2.2.1)
             have HB1 := Lib.hid hb1
             generalize hln : ((xs.drop f).take m).length = ln at hown ⊢
             have HLN := Lib.hid hln
             have hla := ((hl.below hb1).alloc (.cells #[.slice A2 ln c2, .bool (false), .bool false] 36)).tight
             have hu := RdR.one w1 36 [.slice A2 ln c2, .bool (false), .bool false] (by simp [Value.oneCell'])
             clear hown hln hb1)
          | (refine wpList_build_row eltC rfl (.tmp 42) rfl (xs := [.slice A2 ln c2, .bool (false), .bool false]) rfl rfl ?_)
          | (at_builtin
             refine wpList_append_lstR eltC rfl (.tmp 34) (.tmp 43) rfl rfl hla rfl hu hn8 ?_
             rintro v w2 hap
             obtain ⟨A', n', c', rfl, hl'⟩ := hap.ex
             have HAP := Lib.hid hap
             clear hap hl'))
        have hba := HB1.out.trans ((Below.refl _ w1).alloc HB1.out.size (.cells #[.slice A2 ln c2, .bool false, .bool false] 36))
        obtain ⟨A3, n3, c3, e3, hL3, hS3⟩ := LstP.apps (rs := [⟨A2, ln, c2, (xs.drop f).take m, false, false⟩]) HQ.out.2.1 HQ.out.2.2.2 (fun q hq => by
          obtain rfl : q = _ := by simpa using hq
          have := HPC.out
          rw [HLN.out] at this
          exact BsR.below this ((Below.refl _ w1).alloc (Nat.le_refl _) _)) hba HAP.out
        injection e3 with e1 e2 e3
        subst e1 e2 e3
        have HL3 := Lib.hid (hL3.mono (F' := (w.heap.size ≤ ·)) (fun k hk => by rcases hk with hk | hk; exact hk; exact Nat.le_trans HB.out.size hk))
        rw [List.map_append, HQ.out.2.2.1] at HL3
        have HB3 := Lib.hid (HB.out.trans (hS3.below HB.out.size (fun k hk => by obtain ⟨ad, he, rfl⟩ := hk; exact (HQ.out.2.1.blk ad he).1)))
        go_roundw
        case rel =>
          exact ⟨k + 1, A', n', c', by go_num, by omega, rfl, by rw [HCT.out, HCP.out]; exact HL3.out, HB3.out⟩
        case measure => simp [intOf]; omega
    · obtain rfl : k = cutN n m := by omega
      rw [List.take_of_length_le (by rw [cutL_len, HX.out]; exact Nat.le_refl _)] at hl
      have HL := Lib.hid hl
      clear hl
      go_wp2
      go_ret2
      exact ⟨_, _, _, rfl, HL.out, hb⟩
theorem r_cut_no {w : World} {A : Option Addr} {n c : Nat} {m : Int} (hfit : fitB n m = false) :
    Calls Try.prog 8 #[.slice A n c, .int .i64 m] w fun e w' => e = .returned (.tuple #[.slice none 0 0, .int .i64 110]) ∧ w = w' := by
  have HC : Hid (cntV n m = 0) := Lib.hid (by unfold cntV; rw [if_neg (by rw [hfit]; simp)])
  clear hfit
  go_enter Try.func8, Try.ntmps8
  go_wp2_with fail
  refine (rcount_any n m w).mono ?_
  rintro e w1 ⟨rfl, rfl⟩
  rw [HC.out]
  go_wp2
  go_ret2
  exact ⟨rfl, rfl⟩
/-- What a message's pieces are, if it can be cut: both ways in one. -/
def cutsV (xs : List Int) (m : Int) : List Pp := if fitB xs.length m = true then cutL xs m.toNat else []
theorem cutsV_yes {xs : List Int} {n m : Nat} (hl : xs.length = n) (h : fitB n m = true) : cutsV xs m = cutL xs m := by
  unfold cutsV; rw [if_pos (by rw [hl]; exact h)]; simp
theorem cutsV_no {xs : List Int} {n : Nat} {m : Int} (hl : xs.length = n) (h : fitB n m = false) : cutsV xs m = [] := by
  unfold cutsV; rw [if_neg (by rw [hl, h]; simp)]
theorem fit_nat {n m : Int} (h : fitB n m = true) : ∃ k : Nat, m = k := ⟨m.toNat, by have := fit_of h; omega⟩
theorem LstP.madeNil (w : World) : MadeC [] w none 0 0 w := ⟨LstP.nil _ _, Below.refl _ _⟩
theorem r_cuts {w : World} {A : Option Addr} {n c : Nat} {xs : List Int} {m : Int} (h : Rd .u8 w A n c xs) :
    Calls Try.prog 8 #[.slice A n c, .int .i64 m] w fun e w' => ∃ A' n' c' err, e = .returned (.tuple #[.slice A' n' c', .int .i64 err]) ∧ err = (if fitB n m = true then 0 else 110) ∧ MadeC (cutsV xs m) w A' n' c' w' := by
  cases hf : fitB n m with
  | true =>
    obtain ⟨k, rfl⟩ := fit_nat hf
    refine (r_cut h hf).mono ?_
    rintro e w' ⟨A', n', c', rfl, hm⟩
    exact ⟨A', n', c', 0, rfl, by simp, by rw [cutsV_yes h.1 hf]; exact hm⟩
  | false =>
    refine (r_cut_no hf).mono ?_
    rintro e w' ⟨rfl, rfl⟩
    exact ⟨none, 0, 0, 110, rfl, by simp, by rw [cutsV_no h.1 hf]; exact LstP.madeNil w⟩
end Go.Proofs.Ytmnmkolcffehhaa
