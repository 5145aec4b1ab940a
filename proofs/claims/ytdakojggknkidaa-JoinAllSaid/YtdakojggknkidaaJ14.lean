/- Rows of messages compared; the law of all parts. -/
import Derived.Test.YtdakojggknkidaaJ8
import Derived.Test.YtdakojggknkidaaJ11
import Derived.Test.YtdakojggknkidaaJ13
set_option linter.unusedSimpArgs false
set_option linter.unusedVariables false
namespace Go.Proofs.Ytdakojggknkidaa
open Go.RowKit Go.Shelf
set_option maxHeartbeats 4000000 in
theorem same_rows {w : World} {A : Option Addr} {n c : Nat} {B : Option Addr} {n1 c1 : Nat} {ms : List (List Int)} (h : SlB w A n c ms) (k : SlB w B n1 c1 ms) :
    Calls Try.prog 18 #[.slice A n c, .slice B n1 c1] w fun e w' => e = .returned (.bool true) ∧ Below w.heap.size w w' := by
  obtain rfl : n1 = n := by rw [← h.len, ← k.len]
  have HH := Lib.hid (And.intro h k)
  have hnm : n1 ≤ 9223372036854775807 := by
    obtain ⟨bs, h1, _⟩ := h
    have h2 := h1.2.1
    have h3 := h1.2.2.1
    unfold maxLen at h3
    omega
  clear h k
  go_enter Try.func18, Try.ntmps18
  go_wp2
  go_loopw [5] (fun i wr => ∃ k : Nat, i = .int .i64 k ∧ k ≤ n1 ∧ Below w.heap.size w wr) (fun i _ => n1 - (intOf i).toNat)
  case atStart => exact ⟨0, rfl, Nat.zero_le _, Below.refl _ _⟩
  case round =>
    obtain ⟨k, rfl, hk, hb⟩ := hrel
    by_cases hlt : k < n1
    · obtain ⟨g, o, b, rfl, hcell, hrd, hat⟩ := (HH.out.1.below hb).at hlt
      obtain ⟨g2, o2, b2, rfl, hcell2, hrd2, hat2⟩ := (HH.out.2.below hb).at hlt
      have hxs : b2.xs = b.xs := by rw [hat] at hat2; injection hat2 with h; exact h.symm
      rw [hxs] at hrd2
      have q1 := fun j => conv_any (hrd.below (Below.drewN_ wr j))
      have q2 := fun j => conv_any (hrd2.below (Below.drewN_ wr j))
      generalize strOfNums b.xs = sx at q1 q2
      have c1 := fun j => ((Below.drewN_ wr j).cell (p := ⟨g, o + k, none⟩) (World.block_lt_of_cell? _ _ hcell)).trans hcell
      have c2 := fun j => ((Below.drewN_ wr j).cell (p := ⟨g2, o2 + k, none⟩) (World.block_lt_of_cell? _ _ hcell2)).trans hcell2
      have hkI : (k : Int) < n1 := by omega
      have HB := Lib.hid hb
      clear hcell hcell2 hrd hrd2 hat hat2 hxs hb
      go_wp2
      go_quiet (skip)
      go_wp2
      go_roundw
      case rel => exact ⟨k + 1, by go_num, by omega, HB.out.trans ((Below.drewN_ _ _).mono HB.out.size)⟩
      case measure => simp [intOf]; omega
    · obtain rfl : k = n1 := by omega
      have HB := Lib.hid hb
      clear hb
      go_wp2
      go_ret
      exact ⟨rfl, HB.out⟩
/-- A row of strings told one after the other. -/
theorem strOfNums_app (a b : List Int) : strOfNums a ++ strOfNums b = strOfNums (a ++ b) := by
  apply ByteArray.ext
  simp [strOfNums]
theorem strOfNums_take (a : List Int) (n : Nat) : (strOfNums a).extract 0 n = strOfNums (a.take n) := by
  apply ByteArray.ext
  simp [strOfNums]
theorem take_flat (ms : List (List Int)) (k : Nat) : (ms.take k).flatten.length ≤ ms.flatten.length := by
  have h : ms.flatten = (ms.take k).flatten ++ (ms.drop k).flatten := by rw [← List.flatten_append, List.take_append_drop]
  rw [h, List.length_append]; omega
theorem flat_bound : ∀ qs : List (List Int), (∀ x ∈ qs, x.length ≤ 200) → qs.flatten.length ≤ qs.length * 200
  | [], _ => Nat.le_refl _
  | x :: r, h => by
    have ih := flat_bound r fun y hy => h y (List.mem_cons_of_mem _ hy)
    have h1 := h x (List.mem_cons_self ..)
    simp only [List.flatten_cons, List.length_append, List.length_cons]
    omega
theorem step_size (ms : List (List Int)) {k : Nat} {xs : List Int} (hat : ms[k]? = some xs) {K : Nat} (h : ms.flatten.length ≤ K) : (strOfNums (ms.take k).flatten).size + (strOfNums xs).size ≤ K := by
  rw [strOfNums_size, strOfNums_size]
  have h1 := take_flat ms (k + 1)
  rw [List.take_add_one, hat] at h1
  simp only [Option.toList_some, List.flatten_append, List.length_append, List.flatten_cons, List.flatten_nil, List.append_nil] at h1
  omega
set_option maxRecDepth 100000 in
set_option maxHeartbeats 8000000 in
theorem lawAll {w : World} {A : Option Addr} {n c : Nat} {ps : List (List Int)} {B : Option Addr} {n1 c1 : Nat} {es : List Bool} (h : SlB w A n c ps) (he : RdV w B n1 c1 (es.map .bool)) :
    Calls Try.prog 4 #[.slice A n c, .slice B n1 c1] w fun e w' => e = .returned (.bool true) ∧ Below w.heap.size w w' := by
  have HF := Lib.hid (few_any h)
  have HE := Lib.hid he
  have hfl : (fewL ps).length ≤ 20 := by unfold fewL; simp; omega
  have hfb : (fewL ps).flatten.length ≤ 4000 := by
    have := flat_bound (fewL ps) fun x hx => by
      unfold fewL at hx
      obtain ⟨y, _, rfl⟩ := List.mem_map.1 hx
      simp; omega
    omega
  generalize fewL ps = qs at HF hfl hfb
  clear h he
  go_enter Try.func4, Try.ntmps4
  go_wp2_with fail
  refine HF.out.mono ?_
  rintro e w1 ⟨A2, n2, c2, rfl, hs1, hb1⟩
  have hn2 := hs1.len
  have HQ := Lib.hid hs1
  have HB1 := Lib.hid hb1
  have HA := Lib.hid (all_any hs1 (RdV.below HE.out hb1) (by omega))
  clear HF hs1 hb1
  go_wp2_with fail
  refine HA.out.mono ?_
  rintro e w2 ⟨A3, n3, c3, rfl, hs2, hb2⟩
  have HS2 := Lib.hid hs2
  have HQ2 := Lib.hid (HQ.out.below hb2)
  have HB2 := Lib.hid (HB1.out.trans (hb2.mono HB1.out.size))
  have HR := Lib.hid (rall_any HQ2.out (RdV.below HE.out HB2.out) (by omega))
  clear HA hs2 hb2
  go_wp2_with fail
  refine HR.out.mono ?_
  rintro e w3 ⟨A4, n4, c4, rfl, hs3, hb3⟩
  have HS := Lib.hid (same_rows (HS2.out.below hb3) hs3)
  have HQ3 := Lib.hid (HQ2.out.below hb3)
  have HM3 := Lib.hid (HS2.out.below hb3)
  have HB3 := Lib.hid (HB2.out.trans (hb3.mono HB2.out.size))
  obtain ⟨j, t, hj1, hj2, hj3⟩ := allR_pre es qs 0 ⟨[], 0, 0⟩ []
  clear HR hs3 hb3
  generalize allR es 0 ⟨[], 0, 0⟩ [] qs = R at *
  obtain ⟨ms, cnt, err⟩ := R
  dsimp only at *
  rw [Nat.zero_add] at hj1
  subst hj1
  have HJ := Lib.hid hj3
  have hmf : ms.flatten.length ≤ 4000 := by
    have h1 := congrArg List.length hj3
    have h2 := take_flat qs cnt
    simp only [List.length_append, List.flatten_nil, Jm.fl, List.nil_append] at h1
    omega
  clear hj3
  go_wp2_with (go_at_call 18; refine HS.out.mono ?_; rintro e w4 ⟨rfl, hb4⟩)
  have HB4 := Lib.hid (HB3.out.trans (hb4.mono HB3.out.size))
  have HM4 := Lib.hid (HM3.out.below hb4)
  have HQ4 := Lib.hid (HQ3.out.below hb4)
  have HMN := Lib.hid HM4.out.len
  have hmb : n3 ≤ 9223372036854775807 := by
    obtain ⟨bs, h1, _⟩ := HM4.out
    have h2 := h1.2.1
    have h3 := h1.2.2.1
    unfold maxLen at h3
    omega
  have HN2 := Lib.hid hn2
  clear HS HQ HQ2 HQ3 HM3 HS2 hb4 hn2
  go_loopw [11, 13] (fun s i wr => ∃ k : Nat, i = .int .i64 k ∧ k ≤ n3 ∧ s = .string (strOfNums (ms.take k).flatten) ∧ w4 = wr) (fun s i _ => n3 - (intOf i).toNat)
  case atStart => exact ⟨0, rfl, Nat.zero_le _, rfl, rfl⟩
  case round =>
    obtain ⟨k, rfl, hk, rfl, rfl⟩ := hrel
    by_cases hlt : k < n3
    · obtain ⟨g, o, b, rfl, hcell, hrd, hat⟩ := HM4.out.at hlt
      have q1 := conv_any hrd
      have hkI : (k : Int) < n3 := by omega
      have HT : Hid (strOfNums (ms.take k).flatten ++ strOfNums b.xs = strOfNums (ms.take (k + 1)).flatten) := Lib.hid (by
        rw [strOfNums_app, List.take_add_one, hat]; simp)
      have hsz := step_size ms hat hmf
      generalize strOfNums b.xs = sx at q1 HT hsz
      generalize strOfNums (ms.take k).flatten = sy at HT hsz
      clear hrd hat
      go_wp2
      go_roundw
      case rel => exact ⟨k + 1, by go_num, by omega, by rw [← HT.out], trivial⟩
      case measure => simp [intOf]; omega
    · obtain rfl : k = n3 := by omega
      rw [List.take_of_length_le (by rw [HMN.out]; exact Nat.le_refl _)]
      clear hlt hk
      go_wp2
      go_loopw [12, 14] (fun s i wr => ∃ k : Nat, i = .int .i64 k ∧ k ≤ cnt ∧ s = .string (strOfNums (qs.take k).flatten) ∧ w4 = wr) (fun s i _ => cnt - (intOf i).toNat)
      case atStart => exact ⟨0, rfl, Nat.zero_le _, rfl, rfl⟩
      case round =>
        obtain ⟨k, rfl, hk, rfl, rfl⟩ := hrel
        by_cases hlt : k < cnt
        · obtain ⟨g, o, b, rfl, hcell, hrd, hat⟩ := HQ4.out.at (i := k) (by have := HN2.out; omega)
          have q1 := conv_any hrd
          have hkI : (k : Int) < cnt := by omega
          have hkJ : (k : Int) < n2 := by have := HN2.out; omega
          have HT : Hid (strOfNums (qs.take k).flatten ++ strOfNums b.xs = strOfNums (qs.take (k + 1)).flatten) := Lib.hid (by
            rw [strOfNums_app, List.take_add_one, hat]; simp)
          have hsz := step_size qs hat hfb
          generalize strOfNums b.xs = sx at q1 HT hsz
          generalize strOfNums (qs.take k).flatten = sy at HT hsz
          clear hrd hat
          go_wp2
          go_roundw
          case rel => exact ⟨k + 1, by go_num, by omega, by rw [← HT.out], trivial⟩
          case measure => simp [intOf]; omega
        · obtain rfl : k = cnt := by omega
          have HA := Lib.hid (awake_any w4)
          have hfl' : (qs.take k).flatten = ms.flatten ++ t := by
            have := HJ.out
            simpa [Jm.fl] using this.symm
          rw [hfl']
          have hs1 : (strOfNums ms.flatten).size = ms.flatten.length := strOfNums_size _
          have hs2 : (strOfNums (ms.flatten ++ t)).size = ms.flatten.length + t.length := by rw [strOfNums_size, List.length_append]
          have hsl : (Instr.slice 9 (.string (strOfNums (ms.flatten ++ t))) none (some (.int .i64 (strOfNums ms.flatten).size)) none).run Try.prog w4 = .ok (.string (strOfNums ms.flatten)) w4 := by
            rw [run_slice_string_h w4 9 _ Try.underlying9 .i64 _ (by omega) (by rw [hs1, hs2]; omega), Int.toNat_natCast, strOfNums_take, hs1, List.take_left]
          have hle : (strOfNums ms.flatten).size ≤ (strOfNums (ms.flatten ++ t)).size := by rw [hs1, hs2]; omega
          generalize strOfNums (ms.flatten ++ t) = sb at hsl hle hs2
          generalize strOfNums ms.flatten = sa at hsl hle hs1
          clear hs1 hs2 hfl' hk hlt
          go_wp2_with (go_at_call 8; refine HA.out.mono ?_; rintro e w5 ⟨rfl, hb5⟩)
          go_ret
          exact ⟨rfl, HB4.out.trans (hb5.mono HB4.out.size)⟩
end Go.Proofs.Ytdakojggknkidaa
