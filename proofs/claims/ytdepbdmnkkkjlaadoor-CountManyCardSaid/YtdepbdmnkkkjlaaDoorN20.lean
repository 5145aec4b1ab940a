/- CountMany: how many counters there are at most. -/
import Derived.Test.YtdepbdmnkkkjlaaDoorN17
set_option linter.unusedSimpArgs false
set_option linter.unusedVariables false
set_option maxRecDepth 100000
namespace Go.Proofs.YtdepbdmnkkkjlaaDoor
open Go.RowKit Go.Shelf Go.Maps Go.Sort
def nm (i : Nat) : Nm := [110, UInt8.ofNat (97 + i / 26), UInt8.ofNat (97 + i % 26)]
theorem nm_lt {i j : Nat} (h : i < j) (hj : j < 600) : nm i < nm j := by
  have hb : ∀ a b : Nat, a < 150 → b < 150 → (UInt8.ofNat a < UInt8.ofNat b ↔ a < b) := fun a b ha hb => by
    rw [UInt8.lt_iff_toNat_lt, UInt8.toNat_ofNat', UInt8.toNat_ofNat']
    omega
  have he : ∀ a b : Nat, a < 150 → b < 150 → (UInt8.ofNat a = UInt8.ofNat b ↔ a = b) := fun a b ha hb => by
    rw [← UInt8.toNat_inj, UInt8.toNat_ofNat', UInt8.toNat_ofNat']
    omega
  unfold nm
  rw [List.cons_lt_cons_iff, List.cons_lt_cons_iff, List.cons_lt_cons_iff]
  refine .inr ⟨rfl, ?_⟩
  rw [hb _ _ (by omega) (by omega), he _ _ (by omega) (by omega), hb _ _ (by omega) (by omega)]
  have h1 := Nat.div_add_mod i 26
  have h2 := Nat.div_add_mod j 26
  have h3 : i / 26 ≤ j / 26 := Nat.div_le_div_right (by omega)
  by_cases h4 : i / 26 < j / 26
  · exact .inl (by omega)
  · exact .inr ⟨by omega, .inl (by omega)⟩
theorem nm_good {i : Nat} (h : i < 600) : good (nm i) = true := by
  have h1 : i / 26 < 24 := by omega
  have h2 : i % 26 < 26 := Nat.mod_lt _ (by decide)
  have hk : ∀ a : Fin 26, okC (UInt8.ofNat (97 + a.val)) = true := by decide
  have k1 := hk ⟨i / 26, by omega⟩
  have k2 := hk ⟨i % 26, h2⟩
  simp only at k1 k2
  have k0 : okC 110 = true := by decide
  unfold good nm
  simp only [List.length_cons, List.length_nil, List.all_cons, List.all_nil, k0, k1, k2]
  rfl
def mM (k : Nat) : List Cn := (List.range k).map fun i => ⟨nm i, (i : Int)⟩
def mZ (k : Nat) : List Cn := (List.range k).map fun i => ⟨nm i, 0⟩
def nms (k : Nat) : List Nm := (List.range k).map nm
theorem mM_succ (k : Nat) : mM (k + 1) = mM k ++ [⟨nm k, (k : Int)⟩] := by simp [mM, List.range_succ]
theorem mZ_succ (k : Nat) : mZ (k + 1) = mZ k ++ [⟨nm k, 0⟩] := by simp [mZ, List.range_succ]
theorem nms_succ (k : Nat) : nms (k + 1) = nms k ++ [nm k] := by simp [nms, List.range_succ]
theorem mM_lt {k : Nat} (h : k < 600) : ∀ x ∈ mM k, x.s < nm k := fun x hx => by
  obtain ⟨i, hi, rfl⟩ := List.mem_map.1 hx
  exact nm_lt (by simpa using hi) h
theorem mZ_lt {k : Nat} (h : k < 600) : ∀ x ∈ mZ k, x.s < nm k := fun x hx => by
  obtain ⟨i, hi, rfl⟩ := List.mem_map.1 hx
  exact nm_lt (by simpa using hi) h
theorem mM_len (k : Nat) : (mM k).length = k := by simp [mM]
theorem nms_len (k : Nat) : (nms k).length = k := by simp [nms]
theorem many_add {k : Nat} (h : k < 256) : add (mM k) (nm k) (k : Int) = (mM (k + 1), 0) := by
  have hn : look (mM k) (nm k) = none := look_none fun x hx => nm_ne (mM_lt (by omega) x hx)
  rw [add_ok (nm_good (by omega)) (by omega) (.inr (by rw [mM_len]; exact h)), put_end (mM_lt (by omega)), mM_succ]
  have : get (mM k) (nm k) = 0 := by unfold get; rw [hn]; rfl
  rw [this]
  unfold sum
  rw [if_neg (by simp only [Most]; omega), Int.zero_add]
theorem many_full : add (mM 256) (nm 256) 256 = (mM 256, 3) := by
  have hn : look (mM 256) (nm 256) = none := look_none fun x hx => nm_ne (mM_lt (by omega) x hx)
  unfold add
  rw [if_neg (by rw [nm_good (by omega)]; simp), if_pos ⟨hn, by rw [mM_len]; omega⟩]
theorem many_new : ∀ k, k < 600 → newC [] (nms k) = some (mZ k)
  | 0, _ => rfl
  | k + 1, h => by
    rw [nms_succ, newC_app _ _ _ _ (many_new k (by omega)), newC, look_none fun x hx => nm_ne (mZ_lt (by omega) x hx), nm_good (by omega), if_neg (by simp), newC, put_end (mZ_lt (by omega)), mZ_succ]
def nZZ : Nm := [122, 122]
def nZY : Nm := [122, 121]
def mX : List Cn := [⟨nZY, 0⟩, ⟨nZZ, 0⟩]
theorem x_new : newC [] [nZZ, nZY] = some mX := by decide
theorem x_lacks {k : Nat} (h : k ≤ 256) : lacks mX (mM k) = k := by
  unfold lacks
  rw [List.filter_eq_self.2 fun x hx => ?_, mM_len]
  obtain ⟨i, hi, rfl⟩ := List.mem_map.1 hx
  rw [look_none]
  · rfl
  · intro y hy e
    have h1 : y.s = nZY ∨ y.s = nZZ := by
      simp only [mX, List.mem_cons, List.not_mem_nil, or_false] at hy
      rcases hy with rfl | rfl
      · exact .inl rfl
      · exact .inr rfl
    rw [e] at h1
    rcases h1 with h1 | h1 <;> simp [nm, nZY, nZZ] at h1
theorem x_merge {k : Nat} (h : 255 ≤ k) (h2 : k ≤ 256) : merge mX (mM k) = (mX, 3) := by
  unfold merge
  rw [if_pos (by rw [x_lacks h2]; simp [mX]; omega)]
theorem naa_add {k : Nat} (h : 255 ≤ k) (h2 : k ≤ 256) : (add (mM k) [110, 97, 97] 1).2 = 0 := by
  have hm : (⟨nm 0, ((0 : Nat) : Int)⟩ : Cn) ∈ mM k := List.mem_map.2 ⟨0, by simp; omega, rfl⟩
  have hl : look (mM k) [110, 97, 97] ≠ none := by
    intro e
    have hs : Srt (mM k) := by
      unfold Srt mM
      rw [List.pairwise_map]
      exact List.pairwise_lt_range.imp_of_mem fun {a b} ha hb hab => nm_lt hab (by have := List.mem_range.1 hb; omega)
    have := look_of hs hm
    rw [show (nm 0) = [110, 97, 97] from by decide] at this
    simp only at this
    rw [e] at this
    cases this
  rw [add_ok (by decide) (by decide) (.inl hl)]
end Go.Proofs.YtdepbdmnkkkjlaaDoor
