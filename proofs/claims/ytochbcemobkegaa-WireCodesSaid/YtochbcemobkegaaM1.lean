/- Numbers and bytes, there and back: plain facts on lists. -/
import Derived.Test.YtochbcemobkegaaW12
set_option linter.unusedSimpArgs false
set_option linter.unusedVariables false
namespace Go.Proofs.Ytochbcemobkegaa
open Go.RowKit Go.Shelf
theorem okB_iff (l : List Int) : okB l = true ↔ ∀ x ∈ l, 0 ≤ x ∧ x < 256 := by
  simp [okB, List.all_eq_true]
theorem num_lt : ∀ (k : Nat) (l : List Int), l.length = k → k ≤ 8 → okB l = true → 0 ≤ num l ∧ num l < 2 ^ (8 * k)
  | 0, l, hl, _, _ => by obtain rfl := List.eq_nil_of_length_eq_zero hl; simp [num]
  | k + 1, l, hl, hk, ho => by
    rcases List.eq_nil_or_concat l with rfl | ⟨l', x, rfl⟩
    · simp at hl
    · rw [List.concat_eq_append] at *
      simp at hl
      have ho' := (okB_iff _).1 ho
      have hx := ho' x (by simp)
      have ih := num_lt k l' hl (by omega) ((okB_iff _).2 fun y hy => ho' y (by simp [hy]))
      rw [num_snoc]
      unfold step8
      have hp : (2 : Int) ^ (8 * (k + 1)) = 2 ^ (8 * k) * 256 := by rw [Nat.mul_add, Int.pow_add]; rfl
      have hq : (2 : Int) ^ (8 * k) ≤ 2 ^ 56 := by
        have : 2 ^ (8 * k) ≤ 2 ^ 56 := Nat.pow_le_pow_right (by decide) (by omega)
        exact_mod_cast this
      rw [hp]
      generalize (2 : Int) ^ (8 * k) = p at *
      omega
theorem num_inj : ∀ (k : Nat) (l m : List Int), l.length = k → m.length = k → k ≤ 8 → okB l = true → okB m = true → num l = num m → l = m
  | 0, l, m, hl, hm, _, _, _, _ => by rw [List.eq_nil_of_length_eq_zero hl, List.eq_nil_of_length_eq_zero hm]
  | k + 1, l, m, hl, hm, hk, ho, po, he => by
    rcases List.eq_nil_or_concat l with rfl | ⟨l', x, rfl⟩
    · simp at hl
    rcases List.eq_nil_or_concat m with rfl | ⟨m', y, rfl⟩
    · simp at hm
    simp only [List.concat_eq_append] at *
    simp at hl hm
    have ho' := (okB_iff _).1 ho
    have po' := (okB_iff _).1 po
    have hx := ho' x (by simp)
    have hy := po' y (by simp)
    have ol : okB l' = true := (okB_iff _).2 fun y hy => ho' y (by simp [hy])
    have om : okB m' = true := (okB_iff _).2 fun y hy => po' y (by simp [hy])
    have b1 := num_lt k l' hl (by omega) ol
    have b2 := num_lt k m' hm (by omega) om
    have hq : (2 : Int) ^ (8 * k) ≤ 2 ^ 56 := by
      have : 2 ^ (8 * k) ≤ 2 ^ 56 := Nat.pow_le_pow_right (by decide) (by omega)
      exact_mod_cast this
    rw [num_snoc, num_snoc] at he
    unfold step8 at he
    generalize (2 : Int) ^ (8 * k) = p at *
    have e1 : x = y := by omega
    have e2 : num l' = num m' := by omega
    rw [num_inj k l' m' hl hm (by omega) ol om e2, e1]
theorem enc_okB (k : Nat) (u : Int) : okB (enc k u) = true := okB_of (enc_wf k u)
theorem enc_num (k : Nat) (l : List Int) (hl : l.length = k) (hk : k ≤ 8) (ho : okB l = true) : enc k (num l) = l := by
  have hb := num_lt k l hl hk ho
  refine num_inj k _ _ (enc_length _ _) hl hk (enc_okB _ _) ho ?_
  rw [num_enc _ hb.1 k hk, Int.emod_eq_of_lt hb.1 hb.2]
theorem strInj (xs ys : List Int) (hx : okB xs = true) (hy : okB ys = true) (h : (strOfNums xs).toList = (strOfNums ys).toList) : xs = ys := by
  have h2 : xs.map (fun n => UInt8.ofNat n.toNat) = ys.map (fun n => UInt8.ofNat n.toNat) := by
    simpa [strOfNums] using h
  have hx' := (okB_iff _).1 hx
  have hy' := (okB_iff _).1 hy
  clear h hx hy
  induction xs generalizing ys with
  | nil => simpa using h2.symm
  | cons x xs ih =>
    cases ys with
    | nil => simp at h2
    | cons y ys =>
      simp only [List.map_cons, List.cons.injEq] at h2
      have ex := hx' x (by simp)
      have ey := hy' y (by simp)
      have e : x = y := by
        have := congrArg UInt8.toNat h2.1
        simp only [UInt8.toNat_ofNat'] at this
        omega
      rw [e, ih ys h2.2 (fun z hz => hx' z (by simp [hz])) (fun z hz => hy' z (by simp [hz]))]
end Go.Proofs.Ytochbcemobkegaa
