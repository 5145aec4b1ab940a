/- The reference's rows: SameInts, in, with. -/
import Derived.Test.YtopmfpdcdclffaaB6
set_option linter.unusedSimpArgs false
set_option linter.unusedVariables false
namespace Go.Proofs.Ytopmfpdcdclffaa
open Go.RowKit Go.Shelf
theorem take_all_eq {xs ys : List Int} {k : Nat} (hx : xs.length = k) (hy : ys.length = k) (h : xs.take k = ys.take k) : xs = ys := by
  rw [List.take_of_length_le (by omega), List.take_of_length_le (by omega)] at h
  exact h
theorem take_succ_eq {xs ys : List Int} {k : Nat} (hx : k < xs.length) (hy : k < ys.length) (h : xs.take k = ys.take k) (he : xs.getD k 0 = ys.getD k 0) : xs.take (k + 1) = ys.take (k + 1) := by
  rw [List.take_succ_eq_append_getElem hx, List.take_succ_eq_append_getElem hy, h]
  rw [List.getD_eq_getElem?_getD, List.getD_eq_getElem?_getD, List.getElem?_eq_getElem hx, List.getElem?_eq_getElem hy] at he
  simp at he
  rw [he]
set_option maxHeartbeats 400000 in
theorem same_any (A B : Option Addr) (n c m d : Nat) (xs ys : List Int) (w : World) (h1 : RdV w A n c (intV xs)) (h2 : RdV w B m d (intV ys)) :
    Calls Try.prog 24 #[.slice A n c, .slice B m d] w fun e w' => e = .returned (.bool (decide (xs = ys))) ∧ Below w.heap.size w w' := by
  have hn := h1.1
  have hm := h2.1
  rw [intV_len] at hn hm
  have hc := h1.2.1
  have hmx := h1.2.2.1
  have hc2 := h2.2.1
  have hmx2 := h2.2.2.1
  unfold maxLen at hmx hmx2
  by_cases hnm : n = m
  · subst hnm
    have H1 := Lib.hid h1
    have H2 := Lib.hid h2
    have HN := Lib.hid hn
    have HM := Lib.hid hm
    clear h1 h2 hn hm
    go_enter Try.func24, Try.ntmps24
    go_wp2
    go_loopw [5] (fun i wr => ∃ k q : Nat, k ≤ n ∧ i = .int .i64 k ∧ wr = w.drewN q ∧ xs.take k = ys.take k) (fun i _ => n - (intOf i).toNat)
    case atStart => exact ⟨0, 0, Nat.zero_le _, rfl, rfl, by simp⟩
    case round =>
      obtain ⟨k, q, hk, rfl, rfl, htk⟩ := hrel
      by_cases hlt : k < n
      · have hx : k < xs.length := by rw [HN.out]; exact hlt
        have hy : k < ys.length := by rw [HM.out]; exact hlt
        obtain ⟨g1, o1, rfl, hg1, d1⟩ := H1.out.cell hlt
        obtain ⟨g2, o2, rfl, hg2, d2⟩ := H2.out.cell hlt
        unfold intV at d1 d2
        rw [List.getElem?_map, List.getElem?_eq_getElem hx, Option.map_some] at d1
        rw [List.getElem?_map, List.getElem?_eq_getElem hy, Option.map_some] at d2
        have e1 : xs.getD k 0 = xs[k] := by rw [List.getD_eq_getElem?_getD, List.getElem?_eq_getElem hx]; rfl
        have e2 : ys.getD k 0 = ys[k] := by rw [List.getD_eq_getElem?_getD, List.getElem?_eq_getElem hy]; rfl
        by_cases hxy : xs[k] = ys[k]
        · have HT := Lib.hid (take_succ_eq hx hy htk (by rw [e1, e2, hxy]))
          rw [hxy] at d1
          generalize ys[k] = x at d1 d2
          clear e1 e2 hxy htk
          go_wp2
          go_quiet (fail)
          go_wp2
          go_roundw
          case rel => exact ⟨k + 1, _, by omega, by go_num, rfl, HT.out⟩
          case measure => simp [intOf]; omega
        · have HF : Hid (decide (xs = ys) = false) := Lib.hid (by
            rw [decide_eq_false_iff_not]
            rintro rfl
            exact hxy rfl)
          generalize hgx : xs[k] = x at *
          generalize hgy : ys[k] = y at *
          clear e1 e2 htk hgx hgy
          go_wp2
          go_quiet (fail)
          go_wp2
          go_ret
          exact ⟨by rw [HF.out]; rfl, (Below.drewN_ w _).trans (Below.drewN_ (w.drewN q) _)⟩
      · obtain rfl : k = n := by omega
        have HE : Hid (decide (xs = ys) = true) := Lib.hid (by rw [decide_eq_true_eq]; exact take_all_eq HN.out HM.out htk)
        clear htk
        go_wp2
        go_ret
        exact ⟨by rw [HE.out]; rfl, Below.drewN_ w q⟩
  · have HF : Hid (decide (xs = ys) = false) := Lib.hid (by
      rw [decide_eq_false_iff_not]
      rintro rfl
      omega)
    have hne : (n : Int) ≠ m := by omega
    clear h1 h2 hn hm
    go_enter Try.func24, Try.ntmps24
    go_wp2
    go_ret
    exact ⟨by rw [HF.out]; rfl, Below.refl _ _⟩

theorem intV_at {w : World} {A : Option Addr} {n c : Nat} {xs : List Int} (h : RdV w A n c (intV xs)) {k : Nat} (hk : k < n) (hx : k < xs.length) : ∃ g o, A = some ⟨g, o, none⟩ ∧ g < w.heap.size ∧ w.cell? ⟨g, o + k, none⟩ = some (.int .i64 xs[k]) := by
  obtain ⟨g, o, e, hg, hc⟩ := h.cell hk
  refine ⟨g, o, e, hg, ?_⟩
  rw [hc, intV, List.getElem?_map, List.getElem?_eq_getElem hx]
  rfl
set_option maxHeartbeats 400000 in
theorem in_any (A : Option Addr) (n c : Nat) (xs : List Int) (x : Int) (w : World) (h : RdV w A n c (intV xs)) :
    Calls Try.prog 42 #[.slice A n c, .int .i64 x] w fun e w' => e = .returned (.bool (decide (x ∈ xs))) ∧ w = w' := by
  have hn := h.1
  rw [intV_len] at hn
  have hc := h.2.1
  have hmx := h.2.2.1
  unfold maxLen at hmx
  have H := Lib.hid h
  have HN := Lib.hid hn
  clear h hn
  go_enter Try.func42, Try.ntmps42
  go_wp2
  go_loopw [5] (fun i wr => ∃ k : Nat, k ≤ n ∧ i = .int .i64 k ∧ wr = w ∧ ¬ x ∈ xs.take k) (fun i _ => n - (intOf i).toNat)
  case atStart => exact ⟨0, Nat.zero_le _, rfl, rfl, by simp⟩
  case round =>
    obtain ⟨k, hk, rfl, rfl, hno⟩ := hrel
    by_cases hlt : k < n
    · have hx : k < xs.length := by rw [HN.out]; exact hlt
      obtain ⟨g, o, rfl, hg, d⟩ := intV_at H.out hlt hx
      have hlt' : (k : Int) < n := by omega
      by_cases hxy : xs[k] = x
      · have HT : Hid (decide (x ∈ xs) = true) := Lib.hid (by rw [decide_eq_true_eq, ← hxy]; exact List.getElem_mem _)
        rw [hxy] at d
        clear hno hxy
        go_wp2
        go_ret
        exact ⟨by rw [HT.out]; rfl, rfl⟩
      · have HT : Hid (¬ x ∈ xs.take (k + 1)) := Lib.hid (by
          rw [List.take_succ_eq_append_getElem hx, List.mem_append, List.mem_singleton]
          rintro (h | h)
          · exact hno h
          · exact hxy h.symm)
        generalize hgx : xs[k] = y at *
        clear hno hgx
        go_wp2
        go_roundw
        case rel => exact ⟨k + 1, by omega, by go_num, trivial, HT.out⟩
        case measure => simp [intOf]; omega
    · obtain rfl : k = n := by omega
      have HT : Hid (decide (x ∈ xs) = false) := Lib.hid (by
        rw [decide_eq_false_iff_not]
        rwa [List.take_of_length_le (by rw [HN.out]; exact Nat.le_refl _)] at hno)
      clear hno
      go_wp2
      go_ret
      exact ⟨by rw [HT.out]; rfl, rfl⟩
/-- Where n goes into a rising row. -/
structure Spot (xs : List Int) (x : Int) (k : Nat) : Prop where
  le : k ≤ xs.length
  lo : ∀ j, (h : j < k) → (h2 : j < xs.length) → xs[j] < x
  hi : ∀ h : k < xs.length, ¬ xs[k] < x
set_option maxRecDepth 100000 in
set_option maxHeartbeats 1000000 in
theorem with_any (A : Option Addr) (n c : Nat) (xs : List Int) (x : Int) (w : World) (h : RdV w A n c (intV xs)) (hn256 : n ≤ 256) :
    Calls Try.prog 30 #[.slice A n c, .int .i64 x] w fun e w' => ∃ k, Spot xs x k ∧ Made 3 (intV (xs.take k ++ [x] ++ xs.drop k)) w e w' := by
  have hn := h.1
  rw [intV_len] at hn
  have hc := h.2.1
  have hmx := h.2.2.1
  unfold maxLen at hmx
  have H := Lib.hid h
  have HN := Lib.hid hn
  clear h hn
  go_enter Try.func30, Try.ntmps30
  go_wp2
  go_loopw [5] (fun i wr => ∃ k : Nat, k ≤ n ∧ i = .int .i64 k ∧ wr = w ∧ ∀ j, (h : j < k) → (h2 : j < xs.length) → xs[j] < x) (fun i _ => n - (intOf i).toNat)
  case atStart => exact ⟨0, Nat.zero_le _, rfl, rfl, fun j h => by omega⟩
  case round =>
    obtain ⟨k, hk, rfl, rfl, hlo⟩ := hrel
    have HLO := Lib.hid hlo
    clear hlo
    by_cases hgo : ∃ h : k < xs.length, xs[k] < x
    · obtain ⟨hx, hxy⟩ := hgo
      have hlt : k < n := by rw [← HN.out]; exact hx
      have hlt' : (k : Int) < n := by omega
      obtain ⟨g, o, rfl, hg, d⟩ := intV_at H.out hlt hx
      have HLO2 : Hid (∀ j, (h : j < k + 1) → (h2 : j < xs.length) → xs[j] < x) := Lib.hid (fun j h h2 => by
        rcases (by omega : j < k ∨ j = k) with h' | rfl
        · exact HLO.out j h' h2
        · exact hxy)
      generalize hgx : xs[k] = y at *
      clear hgx
      go_wp2
      go_roundw
      case rel => exact ⟨k + 1, by omega, by go_num, trivial, HLO2.out⟩
      case measure => simp [intOf]; omega
    · have HSP : Hid (Spot xs x k) := Lib.hid ⟨by rw [HN.out]; exact hk, HLO.out, fun h h2 => hgo ⟨h, h2⟩⟩
      have hgo2 : k = n ∨ ∃ h : k < xs.length, k < n ∧ ¬ xs[k] < x := by
        by_cases hlt : k < xs.length
        · exact .inr ⟨hlt, by rw [← HN.out]; exact hlt, fun h => hgo ⟨hlt, h⟩⟩
        · exact .inl (by have := HN.out; omega)
      have HPRE := Lib.hid (H.out.pre hk)
      have HCUT := Lib.hid (H.out.cut hk)
      have hru := eltI.run_pre A n c k (by omega) hc
      have hrc := eltI.run_cut A n c k hk hc
      have HL0 := Lib.hid (Lst.made wr 3 #[] 0 [] rfl (Nat.zero_le _) (by decide) (by simp) (fun i hi => by omega))
      have HB0 := Lib.hid ((Below.refl wr.heap.size wr).alloc (Nat.le_refl _) (.cells #[] 3))
      have HS0 := Lib.hid (HPRE.out.below HB0.out)
      clear hgo
      rcases hgo2 with hkn | ⟨hx, hlt, hxy⟩
      · have hge : ¬ (k : Int) < n := by omega
        have HKN := Lib.hid hkn
        clear hkn
        go_wp2_with (first
          | (at_builtin
             refine wpList_append_lst eltI rfl (.tmp 21) (.tmp 24) rfl rfl HL0.out rfl HS0.out (by omega) ?_
             rintro v w2 hap
             obtain ⟨A2, n2, c2, rfl, l2⟩ := hap.ex
             obtain rfl : k = n2 := by have := l2.1; simp [intV] at this; have := HN.out; omega
             have hb2 : Below wr.heap.size wr w2 := HB0.out.trans (hap.st.below (by simp) (fun k hk => hk))
             have HL2 := Lib.hid ((l2.mono (F' := (wr.heap.size ≤ ·)) (fun k hk => by rcases hk with hk | hk; exact hk; simp at hk; omega)).alloc (.cells #[.int .i64 x] 3))
             have HS2 := Lib.hid (RdV.one w2 3 (.int .i64 x) rfl)
             have HB2 := Lib.hid (hb2.trans ((Below.refl _ _).alloc hb2.size (.cells #[.int .i64 x] 3)))
             clear hap l2 hb2)
          | (at_builtin
             refine wpList_append_lst eltI rfl (.tmp 26) (.tmp 28) rfl rfl HL2.out rfl HS2.out (by omega) ?_
             rintro v w3 hap
             obtain ⟨A3, n3, c3, rfl, l3⟩ := hap.ex
             obtain rfl : n3 = k + 1 := by have := l3.1; simp [intV] at this; have := HN.out; omega
             have hb3 : Below wr.heap.size wr w3 := HB2.out.trans (hap.st.below HB2.out.size (fun k hk => hk))
             have HL3 := Lib.hid (l3.mono (F' := (wr.heap.size ≤ ·)) (fun k hk => by rcases hk with hk | hk; exact hk; have := HB2.out.size; omega))
             have HB3 := Lib.hid hb3
             have HS3 := Lib.hid (HCUT.out.below hb3)
             clear hap l3 hb3)
          | (at_builtin
             refine wpList_append_lst eltI rfl (.tmp 30) (.tmp 33) rfl rfl HL3.out rfl HS3.out (by omega) ?_
             rintro v w4 hap
             obtain ⟨A4, n4, c4, rfl, l4⟩ := hap.ex
             have HB4 := Lib.hid (HB3.out.trans (hap.st.below HB3.out.size (fun k hk => hk)))
             have HL4 := Lib.hid (l4.mono (F' := (wr.heap.size ≤ ·)) (fun k hk => by rcases hk with hk | hk; exact hk; have := HB3.out.size; omega))
             clear hap l4))
        go_ret
        refine ⟨k, HSP.out, A4, n4, c4, rfl, ?_, HB4.out⟩
        have := HL4.out
        simpa [intV] using this
      · obtain ⟨g, o, rfl, hg, d⟩ := intV_at H.out hlt hx
        generalize hgx : xs[k] = y at *
        clear hgx
        go_wp2_with (first
          | (at_builtin
             refine wpList_append_lst eltI rfl (.tmp 21) (.tmp 24) rfl rfl HL0.out rfl HS0.out (by omega) ?_
             rintro v w2 hap
             obtain ⟨A2, n2, c2, rfl, l2⟩ := hap.ex
             obtain rfl : k = n2 := by have := l2.1; simp [intV] at this; have := HN.out; omega
             have hb2 : Below wr.heap.size wr w2 := HB0.out.trans (hap.st.below (by simp) (fun k hk => hk))
             have HL2 := Lib.hid ((l2.mono (F' := (wr.heap.size ≤ ·)) (fun k hk => by rcases hk with hk | hk; exact hk; simp at hk; omega)).alloc (.cells #[.int .i64 x] 3))
             have HS2 := Lib.hid (RdV.one w2 3 (.int .i64 x) rfl)
             have HB2 := Lib.hid (hb2.trans ((Below.refl _ _).alloc hb2.size (.cells #[.int .i64 x] 3)))
             clear hap l2 hb2)
          | (at_builtin
             refine wpList_append_lst eltI rfl (.tmp 26) (.tmp 28) rfl rfl HL2.out rfl HS2.out (by omega) ?_
             rintro v w3 hap
             obtain ⟨A3, n3, c3, rfl, l3⟩ := hap.ex
             obtain rfl : n3 = k + 1 := by have := l3.1; simp [intV] at this; have := HN.out; omega
             have hb3 : Below wr.heap.size wr w3 := HB2.out.trans (hap.st.below HB2.out.size (fun k hk => hk))
             have HL3 := Lib.hid (l3.mono (F' := (wr.heap.size ≤ ·)) (fun k hk => by rcases hk with hk | hk; exact hk; have := HB2.out.size; omega))
             have HB3 := Lib.hid hb3
             have HS3 := Lib.hid (HCUT.out.below hb3)
             clear hap l3 hb3)
          | (at_builtin
             refine wpList_append_lst eltI rfl (.tmp 30) (.tmp 33) rfl rfl HL3.out rfl HS3.out (by omega) ?_
             rintro v w4 hap
             obtain ⟨A4, n4, c4, rfl, l4⟩ := hap.ex
             have HB4 := Lib.hid (HB3.out.trans (hap.st.below HB3.out.size (fun k hk => hk)))
             have HL4 := Lib.hid (l4.mono (F' := (wr.heap.size ≤ ·)) (fun k hk => by rcases hk with hk | hk; exact hk; have := HB3.out.size; omega))
             clear hap l4))
        go_ret
        refine ⟨k, HSP.out, A4, n4, c4, rfl, ?_, HB4.out⟩
        have := HL4.out
        simpa [intV] using this
end Go.Proofs.Ytopmfpdcdclffaa
