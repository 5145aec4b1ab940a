/- What is encoded is decoded; a turned byte is told. -/
import Derived.Test.YtochbcemobkegaaM2
import Derived.Test.YtochbcemobkegaaA7
set_option linter.unusedSimpArgs false
set_option linter.unusedVariables false
namespace Go.Proofs.Ytochbcemobkegaa
open Go.RowKit Go.Shelf
theorem pre_at (h : Hd) (n : Int) (k : Nat) {o : Nat} (s : Nat) (u : Int) (hk : (flds h n)[k]? = some (s, u)) (t : List Int) (ho : (preL h n k).length = o) : (((hdL h n) ++ t).drop o).take s = enc s u := by
  have hlt : k < (flds h n).length := (List.getElem?_eq_some_iff.1 hk).1
  have e : hdL h n = preL h n k ++ (enc s u ++ ((flds h n).drop (k + 1)).flatMap fun p => enc p.1 p.2) := by
    unfold hdL preL
    rw [List.append_assoc]
    congr 1
    have hd : flds h n = (flds h n).take k ++ (s, u) :: (flds h n).drop (k + 1) := by
      have h1 := (List.getElem?_eq_some_iff.1 hk).2
      rw [← h1, List.getElem_cons_drop, List.take_append_drop]
    have ht : (flds h n).take 10 = flds h n := List.take_of_length_le (by simp [flds])
    rw [ht]
    conv => lhs; rw [hd]
    simp
  subst ho
  rw [e, List.append_assoc, List.drop_left, List.append_assoc]
  exact List.take_left' (enc_length s u)
theorem gN_at (h : Hd) (n : Int) (t : List Int) (o s : Nat) (u : Int) (he : (((hdL h n) ++ t).drop o).take s = enc s u) (hs : s ≤ 8) (hu : 0 ≤ u) (hu2 : u < 2 ^ (8 * s)) (hu3 : u ≤ 9223372036854775807) : gN (hdL h n ++ t) o s = u := by
  unfold gN
  rw [he, num_enc u hu s hs, Int.emod_eq_of_lt hu hu2]
  unfold wrap64
  omega
theorem dec_fields (h : Hd) (n : Int) (t : List Int) (hc : chkB h n = true) : decH (hdL h n ++ t) = h ∧ gN (hdL h n ++ t) 28 2 = n ∧ gN (hdL h n ++ t) 30 2 = 0 := by
  obtain ⟨k1, k2, k3, k4, k5, k6, k7, k8, k9⟩ := chk_R hc
  have L := fun k => preL h n k
  have a := fun k s u o hk ho => pre_at (o := o) h n k s u hk t ho
  have e0 := gN_at h n t 3 1 h.kd (a 0 1 h.kd 3 rfl (by simp [preL])) (by omega) (by omega) (by simp; omega) (by omega)
  have e1 := gN_at h n t 4 1 h.fl (a 1 1 h.fl 4 rfl (by simp [preL, flds, enc_length])) (by omega) (by omega) (by simp; omega) (by omega)
  have e2 := gN_at h n t 5 1 h.pa (a 2 1 h.pa 5 rfl (by simp [preL, flds, enc_length])) (by omega) (by omega) (by simp; omega) (by omega)
  have e3 := gN_at h n t 6 1 h.sr (a 3 1 h.sr 6 rfl (by simp [preL, flds, enc_length])) (by omega) (by omega) (by simp; omega) (by omega)
  have e4 := gN_at h n t 7 1 h.ds (a 4 1 h.ds 7 rfl (by simp [preL, flds, enc_length])) (by omega) (by omega) (by simp; omega) (by omega)
  have e5 := gN_at h n t 8 4 h.cn (a 5 4 h.cn 8 rfl (by simp [preL, flds, enc_length])) (by omega) (by omega) (by simp; omega) (by omega)
  have e6 := gN_at h n t 12 8 h.sq (a 6 8 h.sq 12 rfl (by simp [preL, flds, enc_length])) (by omega) (by omega) (by simp; omega) (by omega)
  have e7 := gN_at h n t 20 8 h.pu (a 7 8 h.pu 20 rfl (by simp [preL, flds, enc_length])) (by omega) (by omega) (by simp; omega) (by omega)
  have e8 := gN_at h n t 28 2 n (a 8 2 n 28 rfl (by simp [preL, flds, enc_length])) (by omega) (by omega) (by simp; omega) (by omega)
  have e9 := gN_at h n t 30 2 0 (a 9 2 0 30 rfl (by simp [preL, flds, enc_length])) (by omega) (by omega) (by simp) (by omega)
  refine ⟨?_, e8, e9⟩
  unfold decH
  rw [e0, e1, e2, e3, e4, e5, e6, e7]
/-- What is encoded is decoded. -/
theorem dec_enc (h : Hd) (xs hs pl : List Int) (hc : chkB h xs.length = true) (ho : okB xs = true) (e1 : hs = (encL h xs).take 36) (e2 : pl = (encL h xs).drop 36) :
    pl = xs ∧ decE hs pl = 0 ∧ decP hs pl = h ∧ decX hs pl = xs := by
  have hl : (hdL h xs.length ++ enc 4 (onV 1 (hdL h xs.length ++ xs))).length = 36 := by simp [hdL_len, enc_length]
  have e1' : hs = hdL h xs.length ++ enc 4 (onV 1 (hdL h xs.length ++ xs)) := by
    rw [e1]; unfold encL
    rw [List.take_append_of_le_length (by omega), List.take_of_length_le (by omega)]
  have e2' : pl = xs := by
    rw [e2]; unfold encL
    rw [List.drop_append_of_le_length (by omega), List.drop_of_length_le (by omega)]; rfl
  obtain ⟨d1, d2, d3⟩ := dec_fields h xs.length (enc 4 (onV 1 (hdL h xs.length ++ xs))) hc
  obtain ⟨s0, s1⟩ := onV_bd 1 (hdL h xs.length ++ xs)
  have hm : magic hs := by
    refine (magic_iff hs ?_).2 ?_
    · rw [e1']; exact okB_app (okB_of (hdL_ok _ _)) (enc_okB _ _)
    · rw [e1', List.take_append_of_le_length (by rw [hdL_len]; omega)]
      simp [hdL, preL]
  have h4 : num ((hs.drop 32).take 4) = onV 1 (hs.take 32 ++ pl) := by
    rw [e1', e2', List.drop_append_of_le_length (by rw [hdL_len]; omega), List.drop_of_length_le (by rw [hdL_len]; omega), List.nil_append, List.take_of_length_le (by rw [enc_length]; omega), List.take_append_of_le_length (by rw [hdL_len]; omega), List.take_of_length_le (by rw [hdL_len]; omega)]
    rw [num_enc _ s0 4 (by omega), Int.emod_eq_of_lt s0 (by simp; omega)]
  have hE : decE hs pl = 0 := by
    unfold decE
    rw [if_pos ⟨hm, by rw [e1', d2, e2']⟩, if_pos h4, if_pos ⟨by rw [e1', d3], by rw [e1', d1, e2']; exact hc⟩]
  obtain ⟨hP, hX⟩ := dec_ok hE
  exact ⟨e2', hE, by rw [hP, e1', d1], by rw [hX, e2']⟩
/-- What is decoded. -/
theorem dec_inv {hs pl : List Int} (h : decE hs pl = 0) : magic hs ∧ gN hs 28 2 = pl.length ∧ num ((hs.drop 32).take 4) = onV 1 (hs.take 32 ++ pl) ∧ gN hs 30 2 = 0 ∧ chkB (decH hs) pl.length = true := by
  unfold decE at h
  split at h
  · rename_i h1
    split at h
    · rename_i h2
      split at h
      · rename_i h3
        exact ⟨h1.1, h1.2, h2, h3.1, h3.2⟩
      · simp at h
    · simp at h
  · simp at h
/-- A turned byte: no packet. -/
theorem dec_turned (h : Hd) (xs : List Int) (ho : okB xs = true) (i : Nat) (y : Int) (hi : i < (encL h xs).length) (hy : 0 ≤ y ∧ y < 256) (hne : y ≠ (encL h xs)[i]) :
    decE (((encL h xs).set i y).take 36) (((encL h xs).set i y).drop 36) ≠ 0 := by
  intro hd
  obtain ⟨-, -, h4, -, -⟩ := dec_inv hd
  have hbo : okB (encL h xs) = true := okB_of (encL_ok h xs (wf_of_ok ho))
  have hlen := encL_len h xs
  have hb := (okB_iff _).1 hbo _ (List.getElem_mem hi)
  have hl32 : ((encL h xs).take 32).length = 32 := by simp; omega
  have c0 : (encL h xs).take 32 ++ (encL h xs).drop 36 = hdL h xs.length ++ xs := by
    have hl : (hdL h xs.length ++ enc 4 (onV 1 (hdL h xs.length ++ xs))).length = 36 := by simp [hdL_len, enc_length]
    unfold encL
    rw [List.drop_append_of_le_length (by omega), List.drop_of_length_le (by omega), List.append_assoc, List.take_append_of_le_length (by rw [hdL_len]; omega), List.take_of_length_le (by rw [hdL_len]; omega)]
    rfl
  have f0 : num (((encL h xs).drop 32).take 4) = onV 1 ((encL h xs).take 32 ++ (encL h xs).drop 36) := by
    rw [c0]
    obtain ⟨s0, s1⟩ := onV_bd 1 (hdL h xs.length ++ xs)
    unfold encL
    rw [List.append_assoc, List.drop_append_of_le_length (by rw [hdL_len]; omega), List.drop_of_length_le (by rw [hdL_len]; omega), List.nil_append, List.take_append_of_le_length (by rw [enc_length]; omega), List.take_of_length_le (by rw [enc_length]; omega)]
    rw [num_enc _ s0 4 (by omega), Int.emod_eq_of_lt s0 (by simp; omega)]
  generalize encL h xs = b at *
  have h4' : num (((b.set i y).drop 32).take 4) = onV 1 ((b.set i y).take 32 ++ (b.set i y).drop 36) := by
    rw [List.take_take, List.drop_take, List.take_take] at h4
    exact h4
  by_cases hc : 32 ≤ i ∧ i < 36
  · obtain ⟨h1, h2⟩ := hc
    have e1 : (b.set i y).take 32 = b.take 32 := by rw [List.take_set_of_le (by omega)]
    have e2 : (b.set i y).drop 36 = b.drop 36 := by rw [List.drop_set_of_lt (by omega)]
    rw [e1, e2, ← f0, List.drop_set, if_neg (by omega), List.take_set] at h4'
    have := num_inj 4 _ _ (by simp; omega) (by simp; omega) (by omega) (set_ok (okB_take (okB_drop hbo 32) 4) (i - 32) hy.1 hy.2) (okB_take (okB_drop hbo 32) 4) h4'
    have h5 := congrArg (fun l => l[i - 32]?) this
    simp only [List.getElem?_set] at h5
    rw [if_pos trivial, if_pos (by simp; omega), List.getElem?_take, if_pos (by omega), List.getElem?_drop, show 32 + (i - 32) = i by omega, List.getElem?_eq_getElem hi] at h5
    injection h5 with h5
    exact hne h5
  · have e1 : ((b.set i y).drop 32).take 4 = (b.drop 32).take 4 := by
      rcases Nat.lt_or_ge i 32 with h1 | h1
      · rw [List.drop_set_of_lt h1]
      · rw [List.drop_set, if_neg (by omega), List.take_set_of_le (by omega)]
    have e2 : ∃ j, ∃ hj : j < (b.take 32 ++ b.drop 36).length, (b.set i y).take 32 ++ (b.set i y).drop 36 = (b.take 32 ++ b.drop 36).set j y ∧ (b.take 32 ++ b.drop 36)[j] = b[i] := by
      rcases Nat.lt_or_ge i 32 with h1 | h1
      · refine ⟨i, by simp; omega, ?_, ?_⟩
        · rw [List.drop_set_of_lt (by omega), List.take_set, List.set_append_left _ _ (by omega)]
        · rw [List.getElem_append_left (by omega), List.getElem_take]
      · refine ⟨i - 4, by simp; omega, ?_, ?_⟩
        · rw [List.take_set_of_le (by omega), List.drop_set, if_neg (by omega), List.set_append_right _ _ (by omega), hl32]
          congr 2
        · rw [List.getElem_append_right (by omega), List.getElem_drop]
          congr 1
          omega
    obtain ⟨j, hj, e2, e3⟩ := e2
    rw [e1, e2, f0] at h4'
    have hx := (onV_turned _ j y hj (by rw [e3]; exact hb.1) (by rw [e3]; exact hb.2) hy.1 hy.2).1 h4'.symm
    rw [e3] at hx
    exact hne hx
end Go.Proofs.Ytochbcemobkegaa
