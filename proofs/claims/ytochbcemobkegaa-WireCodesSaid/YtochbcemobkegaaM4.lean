/- What is trimmed and bounced may be; Encode, whatever the packet. -/
import Derived.Test.YtochbcemobkegaaW17a
import Derived.Test.YtochbcemobkegaaW15
set_option linter.unusedSimpArgs false
set_option linter.unusedVariables false
namespace Go.Proofs.Ytochbcemobkegaa
open Go.RowKit Go.Shelf

def flP (f : Int) : Bool := !(hasB f 16 && !hasB f 8) && (!hasB f 4 || !hasB f 2)
theorem flags_nat : ∀ k : Fin 64, hasB (k.val : Int) 8 = false → flP (k.val : Int) = true → hasB ((k.val : Int) + 8) 8 = true ∧ hasB ((k.val : Int) + 8) 16 = false ∧ dtB ((k.val : Int) + 8) 0 = true ∧ dtB ((k.val : Int) + 8 + 16) 0 = true := by
  decide +kernel
theorem flags (f : Int) (h0 : 0 ≤ f) (h1 : f ≤ 63) (h8 : hasB f 8 = false) (hp : flP f = true) : hasB (f + 8) 8 = true ∧ hasB (f + 8) 16 = false ∧ dtB (f + 8) 0 = true ∧ dtB (f + 8 + 16) 0 = true := by
  obtain ⟨k, rfl⟩ := Int.eq_ofNat_of_zero_le h0
  exact flags_nat ⟨k, by omega⟩ h8 hp
theorem isd_parts {h : Hd} {n : Int} (hb : isdB h n = true) : h.kd = 1 ∧ plB h = true ∧ nmB h = true ∧ h.pu = 0 ∧ dtB h.fl n = true := by
  unfold isdB chkB kdB at hb
  simp only [Bool.and_eq_true, beq_iff_eq] at hb
  obtain ⟨h1, ⟨h2, h3⟩, h4⟩ := hb
  rw [if_pos h1] at h4
  simp only [Bool.and_eq_true, beq_iff_eq] at h4
  exact ⟨h1, h2, h3, h4.1, h4.2⟩
theorem isd_mk {h : Hd} {n : Int} (h1 : h.kd = 1) (h2 : plB h = true) (h3 : nmB h = true) (h4 : h.pu = 0) (h5 : dtB h.fl n = true) : isdB h n = true ∧ chkB h n = true := by
  have hc : chkB h n = true := by
    unfold chkB kdB
    rw [h2, h3, h1, h4, h5]; rfl
  exact ⟨by unfold isdB; rw [h1, hc]; rfl, hc⟩
theorem trim_facts {kd fl pa sr ds cn sq pu n : Int} (hb : trB ⟨kd, fl, pa, sr, ds, cn, sq, pu⟩ n = true) :
    isdB ⟨kd, fl + 8, pa, sr, ds, cn, sq, pu⟩ 0 = true ∧ chkB ⟨kd, fl + 8, pa, sr, ds, cn, sq, pu⟩ 0 = true ∧ boB ⟨kd, fl + 8, pa, sr, ds, cn, sq, pu⟩ 0 = true ∧ chkB ⟨kd, fl + 8 + 16, pa, ds, sr, cn, sq, pu⟩ 0 = true ∧ fl ≤ 63 := by
  unfold trB at hb
  simp only [Bool.and_eq_true, Bool.not_eq_true'] at hb
  obtain ⟨h1, h2, h3, h4, h5⟩ := isd_parts hb.1
  obtain ⟨f0, f1⟩ := isd_fl hb.1
  dsimp only at h1 h4 h5 f0 f1
  have hp : flP fl = true := by
    unfold dtB at h5
    unfold flP
    simp only [Bool.and_eq_true] at h5 ⊢
    refine ⟨h5.1.2, ?_⟩
    have h6 := h5.2
    cases h4 : hasB fl 4
    · rfl
    · rw [h4] at h6; simp at h6; simp [h6.1]
  obtain ⟨a1, a2, a3, a4⟩ := flags fl f0 f1 hb.2 hp
  have p2 : plB ⟨kd, fl + 8, pa, sr, ds, cn, sq, pu⟩ = true := h2
  have n2 : nmB ⟨kd, fl + 8, pa, sr, ds, cn, sq, pu⟩ = true := h3
  have p3 : plB ⟨kd, fl + 8 + 16, pa, ds, sr, cn, sq, pu⟩ = true := by
    unfold plB at h2 ⊢
    simp only [Bool.and_eq_true, Bool.not_eq_true', beq_eq_false_iff_ne] at h2 ⊢
    exact ⟨⟨⟨h2.1.1.1, h2.1.2⟩, h2.1.1.2⟩, fun e => h2.2 e.symm⟩
  have n3 : nmB ⟨kd, fl + 8 + 16, pa, ds, sr, cn, sq, pu⟩ = true := h3
  obtain ⟨i1, i2⟩ := isd_mk (h := ⟨kd, fl + 8, pa, sr, ds, cn, sq, pu⟩) (n := 0) h1 p2 n2 h4 a3
  obtain ⟨i3, i4⟩ := isd_mk (h := ⟨kd, fl + 8 + 16, pa, ds, sr, cn, sq, pu⟩) (n := 0) h1 p3 n3 h4 a4
  exact ⟨i1, i2, by unfold boB; rw [i1, a1, a2]; rfl, i4, f1⟩
/-- Encode, whatever the packet. -/
def enX (h : Hd) (n : Int) (xs : List Int) : List Int := if chkB h n then encL h xs else []
theorem encode_all (kd fl pa sr ds cn sq pu : Int) (A : Option Addr) (n c : Nat) (xs : List Int) (w : World) (h : Rd .u8 w A n c xs) (hf : fl ≤ 9223372036854775807) :
    Calls Try.prog 8 #[.agg #[.int .i64 kd, .int .i64 fl, .int .i64 pa, .int .i64 sr, .int .i64 ds, .int .i64 cn, .int .i64 sq, .int .i64 pu, .slice A n c]] w fun e w' => ∃ A' n' c', e = .returned (.tuple #[.slice A' n' c', .int .i64 (if chkB ⟨kd, fl, pa, sr, ds, cn, sq, pu⟩ n then 0 else 30)]) ∧ Rd .u8 w' A' n' c' (enX ⟨kd, fl, pa, sr, ds, cn, sq, pu⟩ n xs) ∧ Below w.heap.size w w' := by
  have hwf := h.2.2.2.2.1
  unfold enX
  cases hb : chkB ⟨kd, fl, pa, sr, ds, cn, sq, pu⟩ n
  · refine (encode_no _ _ _ _ _ _ _ _ A n c w hf hb).mono ?_
    rintro e w' ⟨rfl, hb⟩
    exact ⟨none, 0, 0, rfl, Rd.nil _ _, hb⟩
  · refine (encode_yes _ _ _ _ _ _ _ _ A n c xs w h hb).mono ?_
    rintro e w' ⟨v, rfl, ho, hb⟩
    obtain ⟨B, d, rfl, hr⟩ := ho.rd (encL_ok _ _ hwf)
    exact ⟨B, _, d, rfl, hr, hb⟩
theorem rencode_all (kd fl pa sr ds cn sq pu : Int) (A : Option Addr) (n c : Nat) (xs : List Int) (w : World) (h : Rd .u8 w A n c xs) (hf : fl ≤ 9223372036854775807) :
    Calls Try.prog 9 #[.agg #[.int .i64 kd, .int .i64 fl, .int .i64 pa, .int .i64 sr, .int .i64 ds, .int .i64 cn, .int .i64 sq, .int .i64 pu, .slice A n c]] w fun e w' => ∃ A' n' c', e = .returned (.tuple #[.slice A' n' c', .int .i64 (if chkB ⟨kd, fl, pa, sr, ds, cn, sq, pu⟩ n then 0 else 30)]) ∧ Rd .u8 w' A' n' c' (enX ⟨kd, fl, pa, sr, ds, cn, sq, pu⟩ n xs) ∧ Below w.heap.size w w' := by
  have hwf := h.2.2.2.2.1
  unfold enX
  cases hb : chkB ⟨kd, fl, pa, sr, ds, cn, sq, pu⟩ n
  · refine (rencode_no _ _ _ _ _ _ _ _ A n c w hf hb).mono ?_
    rintro e w' ⟨rfl, hb⟩
    exact ⟨none, 0, 0, rfl, Rd.nil _ _, hb⟩
  · refine (rencode_yes _ _ _ _ _ _ _ _ A n c xs w h hb).mono ?_
    rintro e w' ⟨v, rfl, ho, hb⟩
    obtain ⟨B, d, rfl, hr⟩ := ho.rd (encL_ok _ _ hwf)
    exact ⟨B, _, d, rfl, hr, hb⟩
/-- What is decoded, encoded. -/
theorem d_back (bs : List Int) (ho : okB bs = true) (h : dE bs = 0) : chkB (dP bs) (dX bs).length = true ∧ encL (dP bs) (dX bs) = bs ∧ (dP bs).fl ≤ 9223372036854775807 := by
  unfold dE at h
  split at h
  · simp at h
  · rename_i hl
    have hl' : 36 ≤ bs.length := by omega
    obtain ⟨h1, h2, h3, h4, h5⟩ := dec_inv h
    obtain ⟨hP, hX⟩ := dec_ok h
    have hlh : (bs.take 36).length = 36 := by simp; omega
    have e := enc_dec (bs.take 36) (bs.drop 36) hlh (okB_take ho 36) h1 h2 h3 h4 h5
    unfold dP dX
    rw [if_neg hl, if_neg hl, hP, hX]
    refine ⟨h5, by rw [e, List.take_append_drop], ?_⟩
    have := chk_R h5
    omega
end Go.Proofs.Ytochbcemobkegaa
