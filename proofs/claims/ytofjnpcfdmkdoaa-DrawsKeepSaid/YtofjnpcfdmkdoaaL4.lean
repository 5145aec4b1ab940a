/- The law of shuffled strings. -/
import Derived.Test.YtofjnpcfdmkdoaaShint
import Derived.Test.YtofjnpcfdmkdoaaShstring
import Derived.Test.YtofjnpcfdmkdoaaP6
set_option linter.unusedSimpArgs false
set_option linter.unusedVariables false
namespace Go.Proofs.Ytofjnpcfdmkdoaa
open Go.RowKit Go.Shelf
def strV (l : List ByteArray) : List Value := l.map .string
theorem strV_len (l : List ByteArray) : (strV l).length = l.length := by simp [strV]
theorem strV_at (l : List ByteArray) (k : Nat) (h : k < l.length) : (strV l)[k]? = some (.string l[k]) := by simp [strV, h]
theorem strV_take (l : List ByteArray) (k : Nat) : (strV l).take k = strV (l.take k) := by simp [strV]
theorem strV_con (l : List ByteArray) : ∀ v ∈ strV l, ∃ x, v = .string x := by
  intro v hv
  obtain ⟨x, _, rfl⟩ := List.mem_map.1 hv
  exact ⟨x, rfl⟩
theorem strV_perm {vs : List Value} {l : List ByteArray} (h : vs.Perm (strV l)) : ∃ ys, vs = strV ys ∧ ys.Perm l := by
  let f : Value → ByteArray := fun v => match v with | .string b => b | _ => ByteArray.empty
  refine ⟨vs.map f, ?_, ?_⟩
  · have hv : ∀ v ∈ vs, Value.string (f v) = v := fun v hv => by
      obtain ⟨x, rfl⟩ := strV_con l v (h.mem_iff.1 hv)
      rfl
    rw [strV, List.map_map]
    exact ((List.map_congr_left hv).trans (List.map_id _)).symm
  · have := h.map f
    rw [strV, List.map_map] at this
    have hf : (f ∘ Value.string) = id := by funext b; rfl
    rw [hf, List.map_id] at this
    exact this
theorem rdv_at {w : World} {g o n c : Nat} {vs : List Value} (h : RdV w (some ⟨g, o, none⟩) n c vs) {i : Nat} (hi : i < n) : w.cell? ⟨g, o + i, none⟩ = vs[i]? := by
  obtain ⟨g', o', he, -, hc⟩ := h.cell hi
  injection he with he
  injection he with h1 h2
  subst h1 h2
  exact hc
/-- How often x stands among the first t. -/
def cnt (x : ByteArray) (l : List ByteArray) (t : Nat) : Int := ((l.take t).countP (fun y => y.toList == x.toList) : Nat)
theorem cnt_succ (x : ByteArray) (l : List ByteArray) (t : Nat) (h : t < l.length) (b : Bool) (hb : (l[t].toList == x.toList) = b) : cnt x l (t + 1) = cnt x l t + if b then 1 else 0 := by
  unfold cnt
  rw [List.take_succ_eq_append_getElem h, List.countP_append]
  cases b <;> simp [hb]
theorem cnt_bounds (x : ByteArray) (l : List ByteArray) (t : Nat) : 0 ≤ cnt x l t ∧ cnt x l t ≤ t := by
  unfold cnt
  have := List.countP_le_length (p := fun y => y.toList == x.toList) (l := l.take t)
  simp only [List.length_take] at this
  omega
theorem cnt_all (x : ByteArray) (l : List ByteArray) (t : Nat) (h : l.length = t) : cnt x l t = ((l.countP (fun y => y.toList == x.toList) : Nat) : Int) := by
  unfold cnt
  rw [List.take_of_length_le (by omega)]
set_option maxRecDepth 100000 in
set_option maxHeartbeats 8000000 in
theorem lawKeep (s : Int) (A : Option Addr) (n c : Nat) (xs0 : List ByteArray) (w : World) (h : RdV w A n c (strV xs0)) :
    Calls Try.prog 5 #[.int .u64 s, .slice A n c] w fun e w' => e = .returned (.bool true) ∧ Below w.heap.size w w' := by
  have hnc := h.2.1
  have hcm := h.2.2.1
  unfold maxLen at hcm
  obtain ⟨m, hm⟩ : ∃ m : Nat, m = min n 40 := ⟨_, rfl⟩
  have hmn : m ≤ n := by omega
  have hrun : ∀ W, (Instr.slice 54 (.slice A n c) none (some (.int .i64 (m : Int))) none).run Try.prog W = .ok (.slice A m c) W := fun W => Shstring.elt.run_pre A n c m (by omega) hnc W
  have h2 := h.pre hmn
  rw [strV_take] at h2
  have hmin : (if (40 : Int) < n then (40 : Int) else n) = m := by split <;> omega
  have hm40 : m ≤ 40 := by omega
  obtain ⟨xs, hxs⟩ : ∃ xs, xs = xs0.take m := ⟨_, rfl⟩
  rw [← hxs] at h2
  clear hxs hm h
  have hxl : xs.length = m := by have := h2.1; rwa [strV_len] at this
  go_enter Try.func5, Try.ntmps5
  go_wp2_with fail
  refine (new_any s w).mono ?_
  rintro e w1 ⟨rfl, hs1, hw1⟩
  have hb1 : Below w.heap.size w w1 := by rw [hw1]; exact (Below.refl _ _).alloc (Nat.le_refl _) _
  clear hw1
  have hl : Lst 9 (w1.heap.size ≤ ·) (w1.alloc (.cells #[] 9)) (some ⟨w1.heap.size, 0, none⟩) 0 0 [] := Lst.made w1 9 #[] 0 [] rfl (Nat.le_refl _) (Nat.zero_le _) (by simp) (by simp)
  have hba : Below w1.heap.size w1 (w1.alloc (.cells #[] 9)) := (Below.refl _ _).alloc (Nat.le_refl _) _
  have hu := (h2.below hb1).below hba
  clear hrun hmin
  go_wp2_with (at_builtin
               refine wpList_append_lst Shstring.elt rfl (.tmp 23) (.tmp 24) rfl rfl hl rfl hu (by omega) ?_
               rintro v w2 ⟨⟨A2, n2, c2, rfl, hl2⟩, hst2⟩
               rw [List.nil_append] at hl2
               obtain rfl : n2 = m := by rw [← hl2.1, strV_len, hxl])
  have hb2 : Below w1.heap.size w1 w2 := hba.trans (hst2.below hba.size (fun _ h => h))
  have hs2 := hs1.below hb2
  have r2 := (h2.below hb1).below hb2
  have r2' : RdV w2 A2 n2 c2 (strV xs) := hl2.rdv
  have hlp := hs1.bk.lt
  have hA2 : 0 < n2 → ∀ ad, A2 = some ad → ¬ ad.block = w.heap.size := fun _ ad he e => by
    have := (hl2.blk ad he).1
    simp at this
    omega
  have hA : 0 < n2 → ∀ ad, A = some ad → ¬ ad.block = w.heap.size := fun hn ad he e => by
    have := h2.blk hn ad he
    omega
  have hbw2 : Below w.heap.size w w2 := hb1.trans (hb2.mono hb1.size)
  clear hl hba hu hl2 hst2 hs1 hb1 hb2
  refine (Shstring.shuffle_any w.heap.size s 0 A n2 c (strV xs) w2 hs2 r2 (strV_con xs) (by omega) (by omega) (by omega)).mono ?_
  rintro e w3 ⟨A3, c3, rfl, hl3, hs3, hst3⟩
  have r3 := r2.st hst3 hA
  have r3' := r2'.st hst3 hA2
  have hbw3 : Below w.heap.size w w3 := hbw2.trans (hst3.below hbw2.size (fun k hk => by omega))
  obtain ⟨ys, hys, hyp⟩ := strV_perm (shufV_perm s 0 (strV xs))
  rw [hys] at hl3
  have r3x := hl3.rdv
  obtain ⟨d, hd⟩ : ∃ d : Nat, d = n2 - 1 := ⟨_, rfl⟩
  rw [← hd] at hs3
  have hmax : (if (1 : Int) < n2 then (n2 : Int) - 1 else 0) = d := by split <;> omega
  have hyl : ys.length = n2 := by rw [hyp.length_eq, hxl]
  clear hl3 hst3 r2 r2' hs2 hbw2 hys h2 hd
  go_wp2_with fail
  refine (count_any w3 w.heap.size s _ hs3).mono ?_
  rintro e w4 ⟨rfl, rfl⟩
  go_wp2_with fail
  have HX := Lib.hid r3
  have HW := Lib.hid r3'
  have HY := Lib.hid r3x
  have HP := Lib.hid hyp
  have HB := Lib.hid hbw3
  clear r3 r3' r3x hyp hbw3 hmax hs3 hA hA2 hlp
  go_loopw [8] (fun i wr => ∃ j q : Nat, j ≤ n2 ∧ i = .int .i64 j ∧ wr = w3.drewN q) (fun i _ => n2 - (intOf i).toNat)
  case atStart => exact ⟨0, 0, Nat.zero_le _, rfl, rfl⟩
  case round =>
    obtain ⟨j, q, hj, rfl, rfl⟩ := hrel
    by_cases hlt : j < n2
    · have hji : (j : Int) < n2 := by omega
      obtain ⟨g1, o1, rfl, hg1, d1⟩ := HX.out.cell hlt
      obtain ⟨g2, o2, rfl, hg2, d2⟩ := HW.out.cell hlt
      obtain ⟨g3, o3, rfl, hg3, -⟩ := HY.out.cell hlt
      rw [strV_at xs j (by omega)] at d1 d2
      obtain ⟨x, hx⟩ : ∃ x, x = xs[j] := ⟨_, rfl⟩
      rw [← hx] at d1 d2
      clear hx
      go_wp2
      go_loopw [9, 10, 11] (fun a b k wr => ∃ t p : Nat, t ≤ n2 ∧ k = .int .i64 t ∧ a = .int .i64 (cnt x xs t) ∧ b = .int .i64 (cnt x ys t) ∧ wr = w3.drewN p) (fun _ _ k _ => n2 - (intOf k).toNat)
      case atStart => exact ⟨0, q, Nat.zero_le _, rfl, rfl, rfl, rfl⟩
      case round =>
        obtain ⟨t, p, ht, rfl, rfl, rfl, rfl⟩ := hrel
        have b1 := cnt_bounds x xs t
        have b2 := cnt_bounds x ys t
        by_cases htl : t < n2
        · have hti : (t : Int) < n2 := by omega
          have e1 := rdv_at HX.out htl
          have e2 := rdv_at HY.out htl
          rw [strV_at xs t (by omega)] at e1
          rw [strV_at ys t (by omega)] at e2
          obtain ⟨bu, hu⟩ : ∃ b, (xs[t].toList == x.toList) = b := ⟨_, rfl⟩
          obtain ⟨bv, hv⟩ : ∃ b, (ys[t].toList == x.toList) = b := ⟨_, rfl⟩
          have K1 := Lib.hid (cnt_succ x xs t (by omega) bu hu)
          have K2 := Lib.hid (cnt_succ x ys t (by omega) bv hv)
          generalize xs[t] = u at *
          generalize ys[t] = v at *
          generalize cnt x xs t = c1 at *
          generalize cnt x ys t = c2' at *
          cases bu with
          | true =>
            cases bv with
            | true =>
              go_wp2
              go_quiet (fail)
              go_wp2
              go_quiet (fail)
              go_wp2
              go_roundw
              case rel => exact ⟨t + 1, _, by omega, by go_num, by rw [K1.out]; simp, by rw [K2.out]; simp, rfl⟩
              case measure => simp [intOf]; omega
            | false =>
              go_wp2
              go_quiet (fail)
              go_wp2
              go_quiet (fail)
              go_wp2
              go_roundw
              case rel => exact ⟨t + 1, _, by omega, by go_num, by rw [K1.out]; simp, by rw [K2.out]; simp, rfl⟩
              case measure => simp [intOf]; omega
          | false =>
            cases bv with
            | true =>
              go_wp2
              go_quiet (fail)
              go_wp2
              go_quiet (fail)
              go_wp2
              go_roundw
              case rel => exact ⟨t + 1, _, by omega, by go_num, by rw [K1.out]; simp, by rw [K2.out]; simp, rfl⟩
              case measure => simp [intOf]; omega
            | false =>
              go_wp2
              go_quiet (fail)
              go_wp2
              go_quiet (fail)
              go_wp2
              go_roundw
              case rel => exact ⟨t + 1, _, by omega, by go_num, by rw [K1.out]; simp, by rw [K2.out]; simp, rfl⟩
              case measure => simp [intOf]; omega
        · obtain rfl : t = n2 := by omega
          have hce : cnt x ys t = cnt x xs t := by
            rw [cnt_all x ys t hyl, cnt_all x xs t hxl, HP.out.countP_eq]
          rw [hce]
          clear hce b2
          generalize cnt x xs t = cx at *
          go_wp2
          go_quiet (fail)
          go_wp2
          go_roundw
          case rel => exact ⟨j + 1, _, by omega, by go_num, rfl⟩
          case measure => simp [intOf]; omega
    · obtain rfl : j = n2 := by omega
      have hbq : Below w.heap.size w (w3.drewN q) := HB.out.trans ((Below.drewN_ w3 q).mono HB.out.size)
      generalize w3.drewN q = v0 at *
      have r5 : ∀ W, Calls Try.prog 17 #[.int .i64 5] W (Made 3 (iotaV 5) W) := fun W => row_any 5 W (by decide)
      have R5 := Lib.hid r5
      have i5 : (iotaV 5).length = 5 := iotaV_len 5
      have hi5 : ints (iotaV 5) := ⟨(List.range 5).map (fun k : Nat => (k : Int)), by simp [iotaV]⟩
      have HI5 := Lib.hid hi5
      have HL5 := Lib.hid i5
      clear r5 HX HW HY HP HB hi5 i5 hj hlt hmn hm40 hxl hyl
      go_wp2_with fail
      refine (R5.out _).mono ?_
      rintro e v1 ⟨A4, n4, c4, rfl, hl4, hb4⟩
      have hb4' := hbq.trans (hb4.mono hbq.size)
      have hn4 : n4 = 5 := by rw [← hl4.1, HL5.out]
      subst hn4
      go_wp2_with fail
      refine (Shint.shuffle_no none A4 5 c4 (iotaV 5) v1 (.inl rfl) (by intro ad h; cases h) hl4.rdv (by decide)).mono ?_
      rintro e v2 ⟨A5, n5, c5, rfl, hl5, hb5⟩
      have hb5' := hb4'.trans (hb5.mono hb4'.size)
      have hn5 : n5 = 5 := by rw [← hl5.1, HL5.out]
      subst hn5
      clear hl4 hb4 hb4' hb5 hbq
      go_wp2_with fail
      refine (R5.out _).mono ?_
      rintro e v3 ⟨A6, n6, c6, rfl, hl6, hb6⟩
      have hn6 : n6 = 5 := by rw [← hl6.1, HL5.out]
      subst hn6
      have hl5' := hl5.below hb6
      have hb6' := hb5'.trans (hb6.mono hb5'.size)
      clear hl5 hb5' hb6
      go_wp2_with fail
      refine (same_ints A5 A6 5 c5 5 c6 (iotaV 5) v3 hl5'.rdv hl6.rdv HI5.out).mono ?_
      rintro e v4 ⟨rfl, hb7⟩
      have hb7' := hb6'.trans (hb7.mono hb6'.size)
      clear hl5' hl6 hb6' hb7
      go_wp2_with fail
      refine (next_no v4 none (.inl rfl)).mono ?_
      rintro e v5 ⟨rfl, rfl⟩
      go_wp2_with fail
      refine (below_no v4 none 5 (.inl rfl) (by decide)).mono ?_
      rintro e v5 ⟨rfl, rfl⟩
      go_wp2_with fail
      refine (count_no v4 none (.inl rfl)).mono ?_
      rintro e v5 ⟨rfl, rfl⟩
      go_wp2_with fail
      refine (fork_no v4 none (.inl rfl)).mono ?_
      rintro e v5 ⟨rfl, rfl⟩
      go_wp2_with fail
      refine (next_no _ _ (.inr ⟨v4.heap.size, 0, 0, rfl, Bk.new v4 57 [.int .u64 0, .int .i64 0, .bool false]⟩)).mono ?_
      rintro e v5 ⟨rfl, rfl⟩
      have hb8 := hb7'.alloc hb7'.size (.cells #[.int .u64 0, .int .i64 0, .bool false] 57)
      go_wp2_with fail
      refine (awake_any _).mono ?_
      rintro e v6 ⟨rfl, hb9⟩
      go_wp2
      go_ret
      exact ⟨rfl, hb8.trans (hb9.mono hb8.size)⟩
end Go.Proofs.Ytofjnpcfdmkdoaa
