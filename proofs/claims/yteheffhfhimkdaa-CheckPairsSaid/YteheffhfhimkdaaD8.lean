/- The law of two bytes turned. -/
import Derived.Test.YteheffhfhimkdaaD7
import Derived.BigQuiet
import Derived.Deep.QuietTactic
set_option linter.unusedSimpArgs false
set_option linter.unusedVariables false
namespace Go.Proofs.Yteheffhfhimkdaa
open Go.RowKit Go.Shelf

theorem tot_set (h : Bool) (l : List Int) (k : Nat) (y : Int) (hk : k < l.length) : tot h (l.set k y) = tot h l + (if h = evenB k then 256 else 1) * (y - l[k]) := by
  induction l generalizing h k with
  | nil => simp at hk
  | cons x l ih =>
    cases k with
    | zero => cases h <;> simp [tot, evenB] <;> omega
    | succ k =>
      simp at hk
      have := ih (!h) k hk
      cases h <;> simp [tot, evenB_succ] at this ⊢ <;> rw [this] <;> cases evenB k <;> simp <;> omega
theorem pair_turned (S : List Int) (k : Nat) (u v : Int) (hS : okB S = true) (h1 : onesV S = 65535) (hk : k % 2 = 0) (hk1 : k + 1 < S.length) (hu : 0 ≤ u ∧ u < 256) (hv : 0 ≤ v ∧ v < 256)
    (hs : sealedB ((S.set k u).set (k + 1) v) = true) : (256 * S[k] + S[k + 1]) % 65535 = (256 * u + v) % 65535 := by
  have e1 := tot_set true S k u (by omega)
  have e2 := tot_set true (S.set k u) (k + 1) v (by simpa using hk1)
  have ev : evenB k = true := by unfold evenB; simp [hk]
  rw [evenB_succ, ev] at e2
  rw [ev] at e1
  simp at e1 e2
  have hok2 := set_ok (set_ok hS k hu.1 hu.2) (k + 1) hv.1 hv.2
  have hb := (tot_bounds true _ hok2).1
  have hb0 := (tot_bounds true _ hS).1
  unfold sealedB onesV at hs
  simp only [decide_eq_true_eq] at hs
  have h2 := hs.2.2
  unfold onesV at h1
  rw [e2, e1] at h2 hb
  unfold f16 at h1 h2
  split at h1 <;> split at h2 <;> omega

set_option maxRecDepth 100000 in
set_option maxHeartbeats 2000000 in
theorem lawPairs (A0 : Option Addr) (n0 c0 : Nat) (xs0 : List Int) (t y : Int) (w : World) (h0 : Rd .u8 w A0 n0 c0 xs0) (ht0 : 0 ≤ t) (ht1 : t < 65536) (hy0 : 0 ≤ y) (hy1 : y < 65536) :
    Calls Try.prog 7 #[.slice A0 n0 c0, .int .u16 t, .int .u16 y] w fun e w' => e = .returned (.bool true) ∧ Below w.heap.size w w' := by
  have H1 := Lib.hid (lawcut_any A0 n0 c0 w h0.2.1 h0.2.2.1)
  obtain ⟨n, hn⟩ : ∃ n, n = min n0 1500 := ⟨_, rfl⟩
  obtain ⟨xs, hx⟩ : ∃ xs, xs = xs0.take n := ⟨_, rfl⟩
  have h : Rd .u8 w A0 n c0 xs := by rw [hx]; exact h0.pre (by omega)
  have hn5 : n ≤ 1500 := by omega
  rw [← hn] at H1
  have hl := h.1
  have hok := okB_of h.2.2.2.2.1
  obtain ⟨S, hS⟩ : ∃ S, S = sealL xs := ⟨_, rfl⟩
  have hSok : okB S = true := by rw [hS]; exact sealL_ok xs hok
  have hS1 : onesV S = 65535 := by rw [hS]; exact onesV_sealL xs hok
  have hsl := sealL_len xs
  rw [← hS] at hsl
  obtain ⟨L, hL⟩ : ∃ L, L = S.length := ⟨_, rfl⟩
  rw [← hL] at hsl
  obtain ⟨hev, hL2, hL3⟩ := hsl
  rw [hl] at hL3
  have HS := Lib.hid hS
  obtain ⟨M, hM⟩ : ∃ M : Nat, L = 2 * M := ⟨L / 2, by omega⟩
  obtain ⟨j, hj⟩ : ∃ j : Nat, t % (M : Int) = j := ⟨(t % (M : Int)).toNat, by have := Int.emod_nonneg t (show (M : Int) ≠ 0 by omega); omega⟩
  have hjM : j < M := by have := Int.emod_lt_of_pos t (show (0 : Int) < M by omega); omega
  have hlk : 2 * j < S.length := by omega
  have hlk1 : 2 * j + 1 < S.length := by omega
  obtain ⟨p, hp⟩ : ∃ p, p = S[2 * j] := ⟨_, rfl⟩
  obtain ⟨q, hq⟩ : ∃ q, q = S[2 * j + 1] := ⟨_, rfl⟩
  have hall : ∀ x ∈ S, 0 ≤ x ∧ x < 256 := by simpa only [okB, List.all_eq_true, decide_eq_true_eq] using hSok
  have hpb : 0 ≤ p ∧ p < 256 := by rw [hp]; exact hall _ (List.getElem_mem _)
  have hqb : 0 ≤ q ∧ q < 256 := by rw [hq]; exact hall _ (List.getElem_mem _)
  have HPT := Lib.hid (fun hs => pair_turned S (2 * j) (y / 256) (y % 256) hSok hS1 (by omega) hlk1 (by omega) (by omega) hs)
  rw [← hp, ← hq] at HPT
  have HOK2 := Lib.hid (set_ok (set_ok hSok (2 * j) (y := y / 256) (by omega) (by omega)) (2 * j + 1) (y := y % 256) (by omega) (by omega))
  have HSok := Lib.hid hSok
  have HP := Lib.hid hp
  have HQ := Lib.hid hq
  have HL := Lib.hid hL
  have hLM : (L : Int) / 2 = M := by omega
  have htm : t.tmod (M : Int) = j := by rw [Int.tmod_eq_emod_of_nonneg ht0]; exact hj
  have HB := Lib.hid hall
  have hL2' : (2 : Int) ≤ L := by omega
  have HL0 := Lib.hid (show (([] : List Int).length + L) * 1 ≤ 140737488355328 by simp; omega)
  clear hj hp hq hall hSok hS1 hS hn hx h0 hl hok hL hM hev
  have hyq : y.tdiv 256 = y / 256 := Int.tdiv_eq_ediv_of_nonneg hy0
  have hyq2 : y / 256 % 256 = y / 256 := by omega
  go_enter Try.func7, Try.ntmps7
  go_wp2_with fail
  refine H1.out.mono ?_
  rintro e w' ⟨rfl, rfl⟩
  clear H1
  go_wp2_with fail
  refine (seal_any _ _ _ xs _ (by exact h) (by omega)).mono ?_
  rintro e w2 ⟨v2, rfl, hown2, hb2⟩
  rw [← HS.out] at hown2
  obtain ⟨A2, c2, rfl, hs2⟩ := hown2.rd (wf_of_ok HSok.out)
  rw [← HL.out] at hs2
  rw [← HL.out]
  obtain ⟨g2, o2, rfl, hg2, hcell⟩ := hs2.2.2.2.2.2 (by omega)
  have c1 := hcell (2 * j) (by omega)
  have c2' := hcell (2 * j + 1) (by omega)
  rw [show S.getD (2 * j) 0 = S[2 * j] from by simp [hlk], ← HP.out] at c1
  rw [show S.getD (2 * j + 1) 0 = S[2 * j + 1] from by simp [hlk1], ← HQ.out] at c2'
  have c3 : w2.cell? ⟨g2, o2 + 2 * j + 1, none⟩ = some (.int .u8 q) := by rw [show o2 + 2 * j + 1 = o2 + (2 * j + 1) from by omega]; exact c2'
  clear hcell hown2 h
  go_upto_region 6 with fail
  go_quiet (fail)
  clear c1 c2' c3
  obtain ⟨w3, hw3⟩ : ∃ w3, w3 = w2.drewN nq := ⟨_, rfl⟩
  have hs3 : Rd .u8 w3 (some ⟨g2, o2, none⟩) L c2 S := by rw [hw3]; exact hs2.below (Below.drewN_ _ _)
  have hb3 : Below w.heap.size w w3 := by rw [hw3]; exact hb2.trans ((Below.drewN_ _ _).mono hb2.size)
  rw [← hw3]
  clear hw3 hs2 hb2 hg2
  have HB3 := Lib.hid ((Below.refl w3.heap.size w3).alloc (Nat.le_refl _) (.cells #[] 5))
  go_upto_region 8 with (at_builtin
                         refine wpList_append_ints bytesT rfl (.tmp 39) (.tmp 40) rfl rfl (w0 := w3) (own_empty w3) rfl (hs3.alloc _) HL0.out (by omega) HB3.out ?_
                         intro v4 w4 hown4 hb4
                         rw [List.nil_append] at hown4
                         obtain ⟨g, cap, rfl, hwg, hgl⟩ := hown4.form (by omega))
  have hlen : S.length = L := HL.out.symm
  rw [hlen] at hown4
  rw [hlen]
  have hwg' : w.heap.size ≤ g := Nat.le_trans hb3.size hwg
  have hc1 := hown4.cellAt hlen hlk
  have hf1 := hown4.free hlen (2 * j)
  have hown5 := hown4.stored hlen (2 * j) (y / 256)
  have hlk1' : 2 * j + 1 < (S.set (2 * j) (y / 256)).length := by simpa using hlk1
  have hlen' : (S.set (2 * j) (y / 256)).length = L := by rw [List.length_set]; exact hlen
  have hc2 := hown5.cellAt hlen' hlk1'
  have hf2 := hown5.free hlen' (2 * j + 1)
  have hown6 := hown5.stored hlen' (2 * j + 1) (y % 256)
  have hb5 : Below w.heap.size w ((w4.setCell ⟨g, 2 * j, none⟩ (.int .u8 (y / 256))).setCell ⟨g, 2 * j + 1, none⟩ (.int .u8 (y % 256))) :=
    ((hb3.trans (hb4.mono hb3.size)).setCell (p := ⟨g, 2 * j, none⟩) hwg' _).setCell (p := ⟨g, 2 * j + 1, none⟩) hwg' _
  obtain ⟨A6, c6, he6, hr6⟩ := hown6.rd (wf_of_ok HOK2.out)
  obtain ⟨rfl, rfl⟩ : A6 = some ⟨g, 0, none⟩ ∧ c6 = cap := by
    injection he6 with e1 _ e3
    exact ⟨e1.symm, e3.symm⟩
  rw [List.length_set, List.length_set, hlen] at hr6
  have hLlen : ((2 * j + 1 : Nat) : Int) < L := by omega
  clear he6 hown6 hown5 hown4 hlen hlen' hb4
  go_upto_region 10 with fail
  clear hc1 hc2 hf1 hf2
  generalize hw6 : (w4.setCell ⟨g, 2 * j, none⟩ (.int .u8 (y / 256))).setCell ⟨g, 2 * j + 1, none⟩ (.int .u8 (y % 256)) = w6 at *
  clear hw6
  by_cases hsd : sealedB ((S.set (2 * j) (y / 256)).set (2 * j + 1) (y % 256)) = true
  · have he := HPT.out hsd
    rw [show 256 * (y / 256) + y % 256 = y from by omega] at he
    have HE := Lib.hid he
    clear he
    go_wp2_with fail
    rw [HE.out, show (y % 65535 == y % 65535) = true from by simp]
    refine (sealed_any _ _ _ _ _ hr6 (by omega)).mono ?_
    rintro e w7 ⟨rfl, hb7⟩
    rw [hsd]
    have hb8 := hb5.trans (hb7.mono hb5.size)
    clear hb5 hb7 hsd
    go_wp2_with fail
    refine (awake_any _).mono ?_
    rintro e w9 ⟨rfl, hb9⟩
    go_wp2
    go_ret
    exact ⟨rfl, hb8.trans (hb9.mono hb8.size)⟩
  · have hsd2 : sealedB ((S.set (2 * j) (y / 256)).set (2 * j + 1) (y % 256)) = false := by simpa using hsd
    have HE := Lib.hid hsd2
    clear hsd hsd2
    go_wp2_with fail
    refine (sealed_any _ _ _ _ _ hr6 (by omega)).mono ?_
    rintro e w7 ⟨rfl, hb7⟩
    rw [HE.out]
    have hb8 := hb5.trans (hb7.mono hb5.size)
    clear hb5 hb7
    go_wp2_with fail
    refine (awake_any _).mono ?_
    rintro e w9 ⟨rfl, hb9⟩
    go_wp2
    go_ret
    exact ⟨rfl, hb8.trans (hb9.mono hb8.size)⟩
end Go.Proofs.Yteheffhfhimkdaa
