/- The law of turned bytes. -/
import Derived.Test.YtochbcemobkegaaW15
set_option linter.unusedSimpArgs false
set_option linter.unusedVariables false
namespace Go.Proofs.Ytochbcemobkegaa
open Go.RowKit Go.Shelf

theorem i64_le {x : Int} (h : (Lit.int .i64 x).wf = true) : x ≤ 9223372036854775807 := by
  simp [Lit.wf, IntKind.min, IntKind.max, IntKind.signed, IntKind.bits] at h
  omega
theorem u16_bounds {x : Int} (h : (Lit.int .u16 x).wf = true) : 0 ≤ x ∧ x < 65536 := by
  simp [Lit.wf, IntKind.min, IntKind.max, IntKind.signed, IntKind.bits] at h
  omega
set_option maxRecDepth 100000 in
set_option maxHeartbeats 8000000 in
theorem lawTurned (kd fl pa sr ds cn sq pu : Int) (A : Option Addr) (n c : Nat) (xs0 : List Int) (t y : Int) (w : World) (h0 : Rd .u8 w A n c xs0) (hf : fl ≤ 9223372036854775807) (ht0 : 0 ≤ t) (ht1 : t < 65536) (hy0 : 0 ≤ y) (hy1 : y < 256) :
    Calls Try.prog 6 #[.agg #[.int .i64 kd, .int .i64 fl, .int .i64 pa, .int .i64 sr, .int .i64 ds, .int .i64 cn, .int .i64 sq, .int .i64 pu, .slice A n c], .int .u16 t, .int .u8 y] w fun e w' => e = .returned (.bool true) ∧ Below w.heap.size w w' := by
  have hnc := h0.2.1
  have hcm := h0.2.2.1
  obtain ⟨m, hm⟩ : ∃ m, m = min n 1100 := ⟨_, rfl⟩
  obtain ⟨xs, hxs⟩ : ∃ xs, xs = xs0.take m := ⟨_, rfl⟩
  have h : Rd .u8 w A m c xs := by rw [hxs]; exact h0.pre (by omega)
  have hm1 : m ≤ 1100 := by omega
  have HM := Lib.hid hm
  have HLX := Lib.hid h.1
  have HXW := Lib.hid h.2.2.2.2.1
  clear hm hxs h0
  go_enter Try.func6, Try.ntmps6
  go_wp2_with fail
  refine (few_any _ _ _ _ _ _ _ _ _ _ _ _ hnc hcm).mono ?_
  rintro e w1 ⟨rfl, hb1⟩
  obtain ⟨hx, hc⟩ := pk_new hb1
  clear hb1
  rw [← HM.out]
  have hr1 := h.below hc
  obtain ⟨c0, c1, c2, c3, c4, c5, c6, c7, c8⟩ := hx.cells9
  have f1 := fun i => hx.free i
  go_wp2_with fail
  obtain ⟨W, hW, hWx, hWb, hWk, hWo, hWs, -⟩ := pk_store (.int .i64 kd) (.int .i64 fl) (.int .i64 pa) (.int .i64 sr) (.int .i64 ds) (.int .i64 cn) (.int .i64 sq) (.int .i64 pu) (.slice A m c) hx
  rw [hW]
  have hcW := hc.trans (hWb _ (Nat.le_refl _))
  have hrW : Rd .u8 W A m c xs := h.below hcW
  clear hx hc c0 c1 c2 c3 c4 c5 c6 c7 c8 f1 hWb hWk hWo hWs hW hr1 hnc hcm h
  cases hck : chkB ⟨kd, fl, pa, sr, ds, cn, sq, pu⟩ (m : Int)
  · refine (encode_no _ _ _ _ _ _ _ _ _ _ _ _ hf hck).mono ?_
    rintro e w2 ⟨rfl, hb2⟩
    have hc2 := below_on hcW hb2
    clear hb2
    go_wp2_with fail
    refine (awake_any _).mono ?_
    rintro e w3 ⟨rfl, hb3⟩
    have hc3 := below_on hc2 hb3
    go_wp2
    go_ret
    exact ⟨rfl, hc3⟩
  · refine (encode_yes _ _ _ _ _ _ _ _ _ _ _ xs _ hrW hck).mono ?_
    rintro e w2 ⟨v, rfl, hown, hb2⟩
    have hc2 := below_on hcW hb2
    have hown := hown.mono hcW.size
    obtain ⟨L, hL⟩ : ∃ L, L = (encL ⟨kd, fl, pa, sr, ds, cn, sq, pu⟩ xs).length := ⟨_, rfl⟩
    have hL36 : 36 ≤ L := by rw [hL, encL_len]; omega
    have hL2 : L ≤ 2000 := by rw [hL, encL_len, HLX.out]; omega
    obtain ⟨g, cap, rfl, hwg, hgl⟩ := hown.form (by omega)
    obtain ⟨k, hk⟩ : ∃ k : Nat, t % (L : Int) = k := ⟨(t % (L : Int)).toNat, by have := Int.emod_nonneg t (show (L : Int) ≠ 0 by omega); omega⟩
    have hkn : k < L := by have := Int.emod_lt_of_pos t (show (0 : Int) < L by omega); omega
    have hlk : k < (encL ⟨kd, fl, pa, sr, ds, cn, sq, pu⟩ xs).length := by omega
    obtain ⟨x0, hx0⟩ : ∃ x, x = (encL ⟨kd, fl, pa, sr, ds, cn, sq, pu⟩ xs)[k] := ⟨_, rfl⟩
    have hxb := u8_bounds (encL_ok ⟨kd, fl, pa, sr, ds, cn, sq, pu⟩ xs HXW.out _ (List.getElem_mem hlk))
    rw [← hx0] at hxb
    have hxor := xor_u8 x0 y hxb.1 hxb.2 hy0 hy1
    obtain ⟨z, hz⟩ : ∃ z, bits .xor .u8 x0 y = z := ⟨_, rfl⟩
    rw [hz] at hxor
    have htm : t.tmod (L : Int) = k := by rw [Int.tmod_eq_emod_of_nonneg ht0]; exact hk
    have hcl := hown.cellAt rfl hlk
    rw [← hx0] at hcl
    have hfz := hown.free rfl k
    have hown2 := hown.stored rfl k z
    have hb3 : Below w.heap.size w (w2.setCell ⟨g, k, none⟩ (.int .u8 z)) := hc2.setCell (p := ⟨g, k, none⟩) hwg _
    have HBO : okB (encL ⟨kd, fl, pa, sr, ds, cn, sq, pu⟩ xs) = true := okB_of (encL_ok _ _ HXW.out)
    have hr2 := own_rd hown2 (wf_of_ok (set_ok HBO k hxor.1 hxor.2.1))
    have HD : y = 0 → dE ((encL ⟨kd, fl, pa, sr, ds, cn, sq, pu⟩ xs).set k z) = 0 := fun hy => by
      have e : (encL ⟨kd, fl, pa, sr, ds, cn, sq, pu⟩ xs).set k z = encL ⟨kd, fl, pa, sr, ds, cn, sq, pu⟩ xs := by rw [hxor.2.2.2 hy, hx0, List.set_getElem_self]
      rw [e]
      exact (d_enc ⟨kd, fl, pa, sr, ds, cn, sq, pu⟩ xs (by rw [HLX.out]; exact hck) (okB_of HXW.out)).1
    have HN : y ≠ 0 → dE ((encL ⟨kd, fl, pa, sr, ds, cn, sq, pu⟩ xs).set k z) ≠ 0 := fun hy => by
      unfold dE
      rw [if_neg (by simp; omega)]
      exact dec_turned ⟨kd, fl, pa, sr, ds, cn, sq, pu⟩ xs (okB_of HXW.out) k z hlk ⟨hxor.1, hxor.2.1⟩ (fun he => hy (hxor.2.2.1 (by rw [he, hx0])))
    rw [← hL] at hr2 ⊢
    have HL := Lib.hid hL
    generalize (encL ⟨kd, fl, pa, sr, ds, cn, sq, pu⟩ xs).set k z = bz at *
    clear hown hown2 hb2 hx0 hxor hk hck hL HBO hlk hrW hWx hcW
    go_upto_region 6 with fail
    clear hcl hfz
    generalize hw3 : w2.setCell ⟨g, k, none⟩ (.int .u8 z) = w3 at *
    clear hw3 hc2 hgl
    go_wp2_with fail
    refine (decode_all _ _ _ bz _ hr2 (by omega)).mono ?_
    rintro e w4 ⟨A4, n4, c4, rfl, -, hb4⟩
    have hc4 := below_on hb3 hb4
    clear hb3 hb4 hr2
    by_cases hy : y = 0
    · rw [HD hy]
      have hy' : (y == 0) = true := by rw [hy]; rfl
      clear HD HN hy
      go_wp2_with (go_at_call 16; refine (awake_any _).mono ?_; rintro e w5 ⟨rfl, hb5⟩)
      go_ret
      exact ⟨rfl, (hc4.alloc hc4.size _).trans (hb5.mono (by have := hc4.size; simp; omega))⟩
    · have hq := HN hy
      generalize dE bz = q at *
      have hq' : (q == 0) = false := by simpa using hq
      have hy' : (y == 0) = false := by simpa using hy
      clear HD HN hy hq
      go_wp2_with (go_at_call 16; refine (awake_any _).mono ?_; rintro e w5 ⟨rfl, hb5⟩)
      go_ret
      exact ⟨rfl, (hc4.alloc hc4.size _).trans (hb5.mono (by have := hc4.size; simp; omega))⟩
end Go.Proofs.Ytochbcemobkegaa
