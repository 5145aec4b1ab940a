/- Packets and bytes, there and back: plain facts on lists. -/
import Derived.Test.YtochbcemobkegaaM1
set_option linter.unusedSimpArgs false
set_option linter.unusedVariables false
namespace Go.Proofs.Ytochbcemobkegaa
open Go.RowKit Go.Shelf
theorem gN_eq (hs : List Int) (o k : Nat) (hk : k ≤ 8) (hl : o + k ≤ hs.length) (ho : okB hs = true) (h0 : 0 ≤ gN hs o k ∨ k ≤ 7) : gN hs o k = num ((hs.drop o).take k) := by
  have hb := num_lt k ((hs.drop o).take k) (by simp; omega) hk (okB_take (okB_drop ho o) k)
  unfold gN at h0 ⊢
  have hq : k ≤ 7 → (2 : Int) ^ (8 * k) ≤ 2 ^ 56 := by
    intro h
    have : 2 ^ (8 * k) ≤ 2 ^ 56 := Nat.pow_le_pow_right (by decide) (by omega)
    exact_mod_cast this
  have hq2 : (2 : Int) ^ (8 * k) ≤ 2 ^ 64 := by
    have : 2 ^ (8 * k) ≤ 2 ^ 64 := Nat.pow_le_pow_right (by decide) (by omega)
    exact_mod_cast this
  generalize num ((hs.drop o).take k) = v at *
  generalize (2 : Int) ^ (8 * k) = p at *
  unfold wrap64 at h0 ⊢
  rcases h0 with h0 | h0
  · omega
  · have := hq h0
    omega
theorem seg (hs : List Int) (o k : Nat) (hk : k ≤ 8) (hl : o + k ≤ hs.length) (ho : okB hs = true) (h0 : 0 ≤ gN hs o k ∨ k ≤ 7) : enc k (gN hs o k) = (hs.drop o).take k := by
  rw [gN_eq hs o k hk hl ho h0]
  exact enc_num k _ (by simp; omega) hk (okB_take (okB_drop ho o) k)
theorem magic_iff (hs : List Int) (ho : okB hs = true) : magic hs ↔ hs.take 3 = [78, 90, 1] := by
  have e : ([78, 90, 1] : List UInt8) = (strOfNums [78, 90, 1]).toList := by decide +kernel
  unfold magic
  rw [e]
  constructor
  · exact fun h => strInj _ _ (okB_take ho 3) (by decide) h
  · intro h; rw [h]
theorem hd_take (hs : List Int) (n : Int) (hl : hs.length = 36) (ho : okB hs = true) (hm : hs.take 3 = [78, 90, 1]) (h7 : 0 ≤ gN hs 12 8) (h8 : 0 ≤ gN hs 20 8) (hn : gN hs 28 2 = n) (hz : gN hs 30 2 = 0) :
    hdL (decH hs) n = hs.take 32 := by
  have e := fun o k => List.take_add (l := hs) (i := o) (j := k)
  rw [show 32 = 3 + 1 + 1 + 1 + 1 + 1 + 4 + 8 + 8 + 2 + 2 from rfl, e, e, e, e, e, e, e, e, e, e, hm, ← hn]
  simp only [Nat.reduceAdd, hdL, preL, flds, decH, List.take, List.flatMap_cons, List.flatMap_nil]
  rw [← seg hs 3 1 (by omega) (by omega) ho (by omega), ← seg hs 4 1 (by omega) (by omega) ho (by omega), ← seg hs 5 1 (by omega) (by omega) ho (by omega), ← seg hs 6 1 (by omega) (by omega) ho (by omega),
    ← seg hs 7 1 (by omega) (by omega) ho (by omega), ← seg hs 8 4 (by omega) (by omega) ho (by omega), ← seg hs 12 8 (by omega) (by omega) ho (by omega), ← seg hs 20 8 (by omega) (by omega) ho (by omega),
    ← seg hs 28 2 (by omega) (by omega) ho (by omega), ← seg hs 30 2 (by omega) (by omega) ho (by omega), hz]
  simp [List.append_assoc]
theorem chk_dec {hs : List Int} {n : Int} (hc : chkB (decH hs) n = true) : 0 ≤ gN hs 12 8 ∧ 0 ≤ gN hs 20 8 := by
  obtain ⟨-, -, -, -, -, -, h7, h8, -⟩ := chk_R hc
  exact ⟨h7.1, h8.1⟩
/-- What is decoded, encoded, is what it was. -/
theorem enc_dec (hs pl : List Int) (hl : hs.length = 36) (ho : okB hs = true) (hm : magic hs) (hn : gN hs 28 2 = pl.length) (hs4 : num ((hs.drop 32).take 4) = onV 1 (hs.take 32 ++ pl)) (hz : gN hs 30 2 = 0) (hc : chkB (decH hs) pl.length = true) :
    encL (decH hs) pl = hs ++ pl := by
  obtain ⟨h7, h8⟩ := chk_dec hc
  have e := hd_take hs pl.length hl ho ((magic_iff hs ho).1 hm) h7 h8 hn hz
  unfold encL
  rw [e, ← hs4, enc_num 4 _ (by simp; omega) (by omega) (okB_take (okB_drop ho 32) 4), ← List.take_add, List.take_of_length_le (by omega)]
theorem hd_seg (h : Hd) (n : Int) : (hdL h n).drop 30 = [0, 0] := by
  have hl : (preL h n 9).length = 30 := by simp [preL, flds, enc_length]
  have e : hdL h n = preL h n 9 ++ enc 2 0 := by simp [hdL, preL, flds]
  rw [e, List.drop_append, List.drop_of_length_le (by omega), hl]
  rfl
/-- Where the two bytes are not 0, not. -/
theorem enc_nodec (hs pl : List Int) (hl : hs.length = 36) (ho : okB hs = true) (hz : gN hs 30 2 ≠ 0) (h : Hd) : encL h pl ≠ hs ++ pl := by
  intro he
  apply hz
  have e2 := congrArg (fun l => (l.drop 30).take 2) he
  simp only [encL] at e2
  rw [List.append_assoc, List.drop_append_of_le_length (by rw [hdL_len]; omega), hd_seg, List.drop_append_of_le_length (by omega), List.take_append_of_le_length (by simp), List.take_append_of_le_length (by simp; omega)] at e2
  unfold gN
  rw [← e2]
  simp [num, step8, wrap64]
end Go.Proofs.Ytochbcemobkegaa
