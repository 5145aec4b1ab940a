import Derived.Test.YtbphpfelinllhaaX6
import Derived.Test.YtbphpfelinllhaaReg
import Derived.Deep.DeepCutAuto
import Derived.Deep.RegionWith
namespace Go.Proofs.Ytbphpfelinllhaa
open Go.RowKit
def putL (xs : List Int) (s u : Int) : List Int := if sizeB s then xs ++ enc s.toNat u else xs
def getB (xs : List Int) (s : Int) : Bool := sizeB s && decide (s ≤ xs.length)
def getN (xs : List Int) (s : Int) : Int := if getB xs s then num (xs.take s.toNat) else 0
def getR (xs : List Int) (s : Int) : List Int := if getB xs s then xs.drop s.toNat else []
theorem sizeB_nat {s : Int} (h : sizeB s = true) : ∃ k : Nat, s = k ∧ 1 ≤ k ∧ k ≤ 8 := by
  unfold sizeB at h
  simp at h
  exact ⟨s.toNat, by omega, by omega, by omega⟩

theorem put_any (A : Option Addr) (n c : Nat) (xs : List Int) (s u : Int) (w : World) (h : Rd .u8 w A n c xs) (hn : n ≤ 70368744177664) :
    Calls Try.prog 7 #[.slice A n c, .int .i64 s, .int .u64 u] w fun e w' => ∃ v, e = .returned v ∧ Own .u8 5 w.heap.size w' v (putL xs s u) ∧ Below w.heap.size w w' := by
  unfold putL
  by_cases hs : sizeB s = true
  · obtain ⟨k, rfl, h1, h8⟩ := sizeB_nat hs
    rw [if_pos hs]
    exact put_yes A n c xs k u w h hn h1 h8
  · rw [if_neg hs]
    exact put_no A n c xs s u w h hn (by simpa using hs)
theorem rput_any (A : Option Addr) (n c : Nat) (xs : List Int) (s u : Int) (w : World) (h : Rd .u8 w A n c xs) (hn : n ≤ 70368744177664) :
    Calls Try.prog 10 #[.slice A n c, .int .i64 s, .int .u64 u] w fun e w' => ∃ v, e = .returned v ∧ Own .u8 5 w.heap.size w' v (putL xs s u) ∧ Below w.heap.size w w' := by
  unfold putL
  by_cases hs : sizeB s = true
  · obtain ⟨k, rfl, h1, h8⟩ := sizeB_nat hs
    rw [if_pos hs]
    exact rput_yes A n c xs k u w h hn h1 h8
  · rw [if_neg hs]
    exact rput_no A n c xs s u w h hn (by simpa using hs)
theorem get_any (A : Option Addr) (n c : Nat) (xs : List Int) (s : Int) (w : World) (h : Rd .u8 w A n c xs) (hn : n ≤ 70368744177664) :
    Calls Try.prog 8 #[.slice A n c, .int .i64 s] w fun e w' => ∃ v, e = .returned (.tuple #[.int .u64 (getN xs s), v, .bool (getB xs s)]) ∧ Own .u8 5 w.heap.size w' v (getR xs s) ∧ Below w.heap.size w w' := by
  unfold getN getR
  by_cases hs : getB xs s = true
  · obtain ⟨h1, h2⟩ := Bool.and_eq_true_iff.1 hs
    obtain ⟨k, rfl, h3, h4⟩ := sizeB_nat h1
    simp only [hs, if_true]
    exact get_yes A n c xs k w h hn h3 h4 (by have := h.1; simp at h2; omega)
  · simp only [hs]
    refine (get_no A n c s w ?_).mono ?_
    · by_cases h1 : sizeB s = true
      · right
        have := h.1
        simp [getB, h1] at hs
        omega
      · left; simpa using h1
    · rintro e w' ⟨rfl, hb⟩
      exact ⟨_, rfl, ⟨rfl, .inl ⟨rfl, rfl⟩⟩, hb⟩
theorem cutA_from {A : Option Addr} {c k : Nat} {ad : Addr} (he : cutA A c k = some ad) : ∃ a0, A = some a0 ∧ ad.block = a0.block := by
  unfold cutA at he
  split at he
  · exact ⟨ad, he, rfl⟩
  · cases A with
    | none => simp at he
    | some x =>
      simp at he
      subst he
      refine ⟨x, rfl, ?_⟩
      unfold Addr.add
      split <;> rfl
/-- The slice (B, m) lies in the memory of (A, n). -/
def From (A : Option Addr) (n : Nat) (B : Option Addr) (m : Nat) : Prop := 0 < m → ∀ ad, B = some ad → 0 < n ∧ ∃ a0, A = some a0 ∧ ad.block = a0.block
theorem From.lt {A B : Option Addr} {n m L : Nat} (h : From A n B m) (hA : 0 < n → ∀ ad, A = some ad → ad.block < L) : 0 < m → ∀ ad, B = some ad → ad.block < L := fun hm ad he => by
  obtain ⟨hn, a0, h0, h1⟩ := h hm ad he
  rw [h1]
  exact hA hn a0 h0
theorem rget_any (A : Option Addr) (n c : Nat) (xs : List Int) (s : Int) (w : World) (h : Rd .u8 w A n c xs) :
    Calls Try.prog 9 #[.slice A n c, .int .i64 s] w fun e w' => ∃ B m d, e = .returned (.tuple #[.int .u64 (getN xs s), .slice B m d, .bool (getB xs s)]) ∧ Rd .u8 w' B m d (getR xs s) ∧ Below w.heap.size w w' ∧ From A n B m := by
  unfold getN getR
  by_cases hs : getB xs s = true
  · obtain ⟨h1, h2⟩ := Bool.and_eq_true_iff.1 hs
    obtain ⟨k, rfl, h3, h4⟩ := sizeB_nat h1
    simp only [hs, if_true]
    refine (rget_yes A n c xs k w h h3 h4 (by have := h.1; simp at h2; omega)).mono ?_
    rintro e w' ⟨rfl, hr, hb⟩
    exact ⟨_, _, _, rfl, hr, hb, fun hm ad he => ⟨by omega, cutA_from he⟩⟩
  · simp only [hs]
    refine (rget_no A n c s w ?_).mono ?_
    · by_cases h1 : sizeB s = true
      · right
        have := h.1
        simp [getB, h1] at hs
        omega
      · left; simpa using h1
    · rintro e w' ⟨rfl, hb⟩
      exact ⟨_, _, _, rfl, Rd.nil _ _, hb, fun hm => absurd hm (by omega)⟩

set_option maxHeartbeats 400000 in
theorem lawcut_any (A : Option Addr) (n c : Nat) (w : World) (hn : n ≤ c) (hc : c ≤ maxLen) :
    Calls Try.prog 6 #[.slice A n c] w fun e w' => e = .returned (.slice A (min n 500) c) ∧ w = w' := by
  unfold maxLen at hc
  by_cases h5 : n ≤ 500
  · go_enter Try.func6, Try.ntmps6
    go_wp2
    go_ret
    exact ⟨by rw [Nat.min_eq_left h5]; rfl, rfl⟩
  · have h6 : 500 ≤ n := by omega
    have h7 : 500 ≤ c := by omega
    go_enter Try.func6, Try.ntmps6
    go_wp2
    go_ret
    exact ⟨by rw [Nat.min_eq_right h6]; rfl, rfl⟩
theorem getR_wf {xs : List Int} (s : Int) (h : ∀ x ∈ xs, (Lit.int .u8 x).wf = true) : ∀ x ∈ getR xs s, (Lit.int .u8 x).wf = true := by
  unfold getR
  split
  · exact fun x hx => h x (List.mem_of_mem_drop hx)
  · simp
theorem putL_wf {xs : List Int} (s u : Int) (h : ∀ x ∈ xs, (Lit.int .u8 x).wf = true) : ∀ x ∈ putL xs s u, (Lit.int .u8 x).wf = true := by
  unfold putL
  split
  · intro x hx
    rcases List.mem_append.1 hx with hx | hx
    · exact h x hx
    · exact enc_wf _ _ x hx
  · exact h

theorem back_B (xs : List Int) (u : Int) {k : Nat} (hs : sizeB k = true) : getB (enc k u ++ xs) k = true := by
  unfold getB
  rw [hs]
  simp [enc_length]
  omega
theorem back_R (xs : List Int) (u : Int) {k : Nat} (hs : sizeB k = true) : getR (enc k u ++ xs) k = xs := by
  unfold getR
  rw [if_pos (back_B xs u hs), Int.toNat_natCast, List.drop_append_of_le_length (by simp [enc_length]), List.drop_of_length_le (by simp [enc_length])]
  simp
theorem back_N (xs : List Int) (u : Int) {k : Nat} (hu0 : 0 ≤ u) (hs : sizeB k = true) (hk8 : k ≤ 8) : getN (enc k u ++ xs) k = u % 2 ^ (8 * k) := by
  unfold getN
  rw [if_pos (back_B xs u hs), Int.toNat_natCast, List.take_append_of_le_length (by simp [enc_length]), List.take_of_length_le (by simp [enc_length]), num_enc u hu0 k hk8]

theorem wrap_pow {k : Nat} (h : k < 8) : IntKind.u64.wrap (2 ^ (8 * k)) = 2 ^ (8 * k) := by
  have h3 : (2 : Int) ^ (8 * k) ≤ 2 ^ 56 := by
    have : 2 ^ (8 * k) ≤ 2 ^ 56 := Nat.pow_le_pow_right (by decide) (by omega)
    exact_mod_cast this
  have h4 : (0 : Int) < 2 ^ (8 * k) := Int.pow_pos (by decide)
  exact wraps_u64 _ (by omega) (by omega)
theorem pow_ne (k : Nat) : ¬ (2 : Int) ^ (8 * k) = 0 := by
  have h4 : (0 : Int) < 2 ^ (8 * k) := Int.pow_pos (by decide)
  omega

theorem conv_any {W : World} {A : Option Addr} {l c : Nat} {xs : List Int} (h : Rd .u8 W A l c xs) : (convert 22 9 (.slice A l c)).run Try.prog W = .ok (.string (strOfNums xs)) W :=
  run_str Try.underlying22 Try.underlying5 h 9 Try.underlying9

set_option maxHeartbeats 1000000 in
theorem lawPut (A0 : Option Addr) (n0 c0 : Nat) (xs0 : List Int) (s u : Int) (w : World) (h0 : Rd .u8 w A0 n0 c0 xs0) (hu0 : 0 ≤ u) (hu1 : u < 18446744073709551616) :
    Calls Try.prog 3 #[.slice A0 n0 c0, .int .i64 s, .int .u64 u] w fun e w' => e = .returned (.bool true) ∧ Below w.heap.size w w' := by
  have HC := Lib.hid (show n0 ≤ c0 ∧ c0 ≤ maxLen from ⟨h0.2.1, h0.2.2.1⟩)
  obtain ⟨n, hn⟩ : ∃ n, n = min n0 500 := ⟨_, rfl⟩
  obtain ⟨xs, hxs⟩ : ∃ xs, xs = xs0.take n := ⟨_, rfl⟩
  have h : Rd .u8 w A0 n c0 xs := by rw [hxs]; exact h0.pre (by omega)
  have hn5 : n ≤ 500 := by omega
  have HN := Lib.hid hn
  have HW := Lib.hid h.2.2.2.2.1
  have HU := Lib.hid hu1
  clear hn hxs h0 hu1
  go_enter Try.func3, Try.ntmps3
  go_wp2_with fail
  refine (lawcut_any _ _ _ _ HC.out.1 HC.out.2).mono ?_
  rintro e w' ⟨rfl, rfl⟩
  rw [← HN.out]
  go_wp2_with fail
  refine (put_any _ _ _ xs s u _ (by exact h) (by omega)).mono ?_
  rintro e w1 ⟨v1, rfl, hown1, hb1⟩
  obtain ⟨A1, c1, rfl, hr1⟩ := hown1.rd (putL_wf s u HW.out)
  clear hown1
  generalize hl1 : (putL xs s u).length = l1 at *
  have HL1 := Lib.hid hl1
  clear hl1
  go_wp2_with fail
  refine (get_any _ _ _ xs s _ (by exact h.below hb1) (by omega)).mono ?_
  rintro e w2 ⟨v2, rfl, hown2, hb2⟩
  obtain ⟨A2, c2, rfl, hr2⟩ := hown2.rd (getR_wf s HW.out)
  clear hown2
  generalize hl2 : (getR xs s).length = l2 at *
  have HL2 := Lib.hid hl2
  clear hl2
  have hr1' := hr1.below hb2
  have h' := (h.below hb1).below hb2
  have hbb := hb1.trans (hb2.mono hb1.size)
  clear hb1 hb2 hr1 h
  go_wp2_with fail
  refine (rget_any _ _ _ xs s _ (by exact h')).mono ?_
  rintro e w3 ⟨A3, l3, c3, rfl, hr3, hb3, -⟩
  have hr1 := hr1'.below hb3
  have hr2' := hr2.below hb3
  have h := h'.below hb3
  have hbc := hbb.trans (hb3.mono hbb.size)
  clear hr1' h' hbb hr2 hb3
  go_wp2_with fail
  refine wp_region_E Ext (by kernel_rfl) (fun wd hbd hsz => ?_)
  have k1 := fun W (hW : Ext wd W) => conv_any ((hr1.below hbd).below hW)
  have k2 := fun W (hW : Ext wd W) => conv_any ((hr2'.below hbd).below hW)
  have k3 := fun W (hW : Ext wd W) => conv_any ((hr3.below hbd).below hW)
  have hd := h.below hbd
  have hbw := hbc.trans (hbd.mono hbc.size)
  (refine takeE Ext.tr 0 (by simp only [List.getElem?_toArray, List.getElem?_cons_succ, List.getElem?_cons_zero]; rfl) (by kernel_rfl) (by kernel_rfl) (by kernel_rfl) (by exact fun _ _ _ h => h) (by first | (refine Or.inl ⟨by rfl, ?_⟩; intro W hW; go_simp; try with_reducible rfl) | exact Or.inr ⟨by rfl, rfl⟩) ?_; try simp only [Act.put, List.setIfInBounds_toArray, List.set_cons_zero, List.set_cons_succ])
  (refine takeE Ext.tr 2 (by simp only [List.getElem?_toArray, List.getElem?_cons_succ, List.getElem?_cons_zero]; rfl) (by kernel_rfl) (by kernel_rfl) (by kernel_rfl) (by exact fun _ _ _ h => h) (by first | (refine Or.inl ⟨by rfl, ?_⟩; intro W hW; go_simp; try with_reducible rfl) | exact Or.inr ⟨by rfl, rfl⟩) ?_; try simp only [Act.put, List.setIfInBounds_toArray, List.set_cons_zero, List.set_cons_succ])
  (refine takeE Ext.tr 3 (by simp only [List.getElem?_toArray, List.getElem?_cons_succ, List.getElem?_cons_zero]; rfl) (by kernel_rfl) (by kernel_rfl) (by kernel_rfl) (by exact fun _ _ _ h => h) (by first | (refine Or.inl ⟨by rfl, ?_⟩; intro W hW; go_simp; try with_reducible rfl) | exact Or.inr ⟨by rfl, rfl⟩) ?_; try simp only [Act.put, List.setIfInBounds_toArray, List.set_cons_zero, List.set_cons_succ])
  (refine takeE Ext.tr 4 (by simp only [List.getElem?_toArray, List.getElem?_cons_succ, List.getElem?_cons_zero]; rfl) (by kernel_rfl) (by kernel_rfl) (by kernel_rfl) (by exact fun _ _ _ h => h) (by first | (refine Or.inl ⟨by rfl, ?_⟩; intro W hW; go_simp; try with_reducible rfl) | exact Or.inr ⟨by rfl, rfl⟩) ?_; try simp only [Act.put, List.setIfInBounds_toArray, List.set_cons_zero, List.set_cons_succ])
  (refine takeE Ext.tr 1 (by simp only [List.getElem?_toArray, List.getElem?_cons_succ, List.getElem?_cons_zero]; rfl) (by kernel_rfl) (by kernel_rfl) (by kernel_rfl) (by exact fun _ _ _ h => h) (by first | (refine Or.inl ⟨by rfl, ?_⟩; intro W hW; go_simp; try with_reducible rfl) | exact Or.inr ⟨by rfl, rfl⟩) ?_; try simp only [Act.put, List.setIfInBounds_toArray, List.set_cons_zero, List.set_cons_succ])
  -- READY [5]
  refine wpAnyE_one (i := 5) (by kernel_rfl) (by simp only [List.getElem?_toArray, List.getElem?_cons_succ, List.getElem?_cons_zero]; rfl) (fun K hK => ?_)
 
  go_simp
  refine (rput_any _ _ _ xs s u _ (by exact hd) (by omega)).mono ?_
  rintro e w6 ⟨v6, rfl, hown6, hb6⟩
  obtain ⟨A6, c6, rfl, hr6⟩ := hown6.rd (putL_wf s u HW.out)
  clear k1 k2 k3
  have k2 := fun W (hW : Ext w6 W) => conv_any (((hr2'.below hbd).below hb6).below hW)
  have k3 := fun W (hW : Ext w6 W) => conv_any (((hr3.below hbd).below hb6).below hW)
  have k6 := fun W (hW : Ext w6 W) => conv_any (hr6.below hW)
  go_simp

  refine hK.out _ _ hb6 ?_
  clear hK K
  try simp only [Act.put, List.setIfInBounds_toArray, List.set_cons_zero, List.set_cons_succ]
  (refine takeE Ext.tr 6 (by simp only [List.getElem?_toArray, List.getElem?_cons_succ, List.getElem?_cons_zero]; rfl) (by kernel_rfl) (by kernel_rfl) (by kernel_rfl) (by exact fun _ _ _ h => h) (by first | (refine Or.inl ⟨by rfl, ?_⟩; intro W hW; go_simp; try with_reducible rfl) | exact Or.inr ⟨by rfl, rfl⟩) ?_; try simp only [Act.put, List.setIfInBounds_toArray, List.set_cons_zero, List.set_cons_succ])
  (refine takeE Ext.tr 7 (by simp only [List.getElem?_toArray, List.getElem?_cons_succ, List.getElem?_cons_zero]; rfl) (by kernel_rfl) (by kernel_rfl) (by kernel_rfl) (by exact fun _ _ _ h => h) (by first | (refine Or.inl ⟨by rfl, ?_⟩; intro W hW; go_simp; try with_reducible rfl) | exact Or.inr ⟨by rfl, rfl⟩) ?_; try simp only [Act.put, List.setIfInBounds_toArray, List.set_cons_zero, List.set_cons_succ])
  (refine takeE Ext.tr 8 (by simp only [List.getElem?_toArray, List.getElem?_cons_succ, List.getElem?_cons_zero]; rfl) (by kernel_rfl) (by kernel_rfl) (by kernel_rfl) (by exact fun _ _ _ h => h) (by first | (refine Or.inl ⟨by rfl, ?_⟩; intro W hW; go_simp; try with_reducible rfl) | exact Or.inr ⟨by rfl, rfl⟩) ?_; try simp only [Act.put, List.setIfInBounds_toArray, List.set_cons_zero, List.set_cons_succ])
  (refine takeE Ext.tr 9 (by simp only [List.getElem?_toArray, List.getElem?_cons_succ, List.getElem?_cons_zero]; rfl) (by kernel_rfl) (by kernel_rfl) (by kernel_rfl) (by exact fun _ _ _ h => h) (by first | (refine Or.inl ⟨by rfl, ?_⟩; intro W hW; go_simp; try with_reducible rfl) | exact Or.inr ⟨by rfl, rfl⟩) ?_; try simp only [Act.put, List.setIfInBounds_toArray, List.set_cons_zero, List.set_cons_succ])
  (refine takeE Ext.tr 10 (by simp only [List.getElem?_toArray, List.getElem?_cons_succ, List.getElem?_cons_zero]; rfl) (by kernel_rfl) (by kernel_rfl) (by kernel_rfl) (by exact fun _ _ _ h => h) (by first | (refine Or.inl ⟨by rfl, ?_⟩; intro W hW; go_simp; try with_reducible rfl) | exact Or.inr ⟨by rfl, rfl⟩) ?_; try simp only [Act.put, List.setIfInBounds_toArray, List.set_cons_zero, List.set_cons_succ])
  (refine takeE Ext.tr 11 (by simp only [List.getElem?_toArray, List.getElem?_cons_succ, List.getElem?_cons_zero]; rfl) (by kernel_rfl) (by kernel_rfl) (by kernel_rfl) (by exact fun _ _ _ h => h) (by first | (refine Or.inl ⟨by rfl, ?_⟩; intro W hW; go_simp; try with_reducible rfl) | exact Or.inr ⟨by rfl, rfl⟩) ?_; try simp only [Act.put, List.setIfInBounds_toArray, List.set_cons_zero, List.set_cons_succ])
  (refine takeE Ext.tr 12 (by simp only [List.getElem?_toArray, List.getElem?_cons_succ, List.getElem?_cons_zero]; rfl) (by kernel_rfl) (by kernel_rfl) (by kernel_rfl) (by exact fun _ _ _ h => h) (by first | (refine Or.inl ⟨by rfl, ?_⟩; intro W hW; go_simp; try with_reducible rfl) | exact Or.inr ⟨by rfl, rfl⟩) ?_; try simp only [Act.put, List.setIfInBounds_toArray, List.set_cons_zero, List.set_cons_succ])
  (refine takeE Ext.tr 13 (by simp only [List.getElem?_toArray, List.getElem?_cons_succ, List.getElem?_cons_zero]; rfl) (by kernel_rfl) (by kernel_rfl) (by kernel_rfl) (by exact fun _ _ _ h => h) (by first | (refine Or.inl ⟨by rfl, ?_⟩; intro W hW; go_simp; try with_reducible rfl) | exact Or.inr ⟨by rfl, rfl⟩) ?_; try simp only [Act.put, List.setIfInBounds_toArray, List.set_cons_zero, List.set_cons_succ])
  (refine takeE Ext.tr 14 (by simp only [List.getElem?_toArray, List.getElem?_cons_succ, List.getElem?_cons_zero]; rfl) (by kernel_rfl) (by kernel_rfl) (by kernel_rfl) (by exact fun _ _ _ h => h) (by first | (refine Or.inl ⟨by rfl, ?_⟩; intro W hW; go_simp; try with_reducible rfl) | exact Or.inr ⟨by rfl, rfl⟩) ?_; try simp only [Act.put, List.setIfInBounds_toArray, List.set_cons_zero, List.set_cons_succ])
  (refine takeE Ext.tr 16 (by simp only [List.getElem?_toArray, List.getElem?_cons_succ, List.getElem?_cons_zero]; rfl) (by kernel_rfl) (by kernel_rfl) (by kernel_rfl) (by exact fun _ _ _ h => h) (by first | (refine Or.inl ⟨by rfl, ?_⟩; intro W hW; go_simp; try with_reducible rfl) | exact Or.inr ⟨by rfl, rfl⟩) ?_; try simp only [Act.put, List.setIfInBounds_toArray, List.set_cons_zero, List.set_cons_succ])
  (refine takeE Ext.tr 15 (by simp only [List.getElem?_toArray, List.getElem?_cons_succ, List.getElem?_cons_zero]; rfl) (by kernel_rfl) (by kernel_rfl) (by kernel_rfl) (by exact fun _ _ _ h => h) (by first | (refine Or.inl ⟨by rfl, ?_⟩; intro W hW; go_simp; try with_reducible rfl) | exact Or.inr ⟨by rfl, rfl⟩) ?_; try simp only [Act.put, List.setIfInBounds_toArray, List.set_cons_zero, List.set_cons_succ])
  (refine takeE Ext.tr 17 (by simp only [List.getElem?_toArray, List.getElem?_cons_succ, List.getElem?_cons_zero]; rfl) (by kernel_rfl) (by kernel_rfl) (by kernel_rfl) (by exact fun _ _ _ h => h) (by first | (refine Or.inl ⟨by rfl, ?_⟩; intro W hW; go_simp; try with_reducible rfl) | exact Or.inr ⟨by rfl, rfl⟩) ?_; try simp only [Act.put, List.setIfInBounds_toArray, List.set_cons_zero, List.set_cons_succ])
  (refine takeE Ext.tr 18 (by simp only [List.getElem?_toArray, List.getElem?_cons_succ, List.getElem?_cons_zero]; rfl) (by kernel_rfl) (by kernel_rfl) (by kernel_rfl) (by exact fun _ _ _ h => h) (by first | (refine Or.inl ⟨by rfl, ?_⟩; intro W hW; go_simp; try with_reducible rfl) | exact Or.inr ⟨by rfl, rfl⟩) ?_; try simp only [Act.put, List.setIfInBounds_toArray, List.set_cons_zero, List.set_cons_succ])
  (refine takeE Ext.tr 19 (by simp only [List.getElem?_toArray, List.getElem?_cons_succ, List.getElem?_cons_zero]; rfl) (by kernel_rfl) (by kernel_rfl) (by kernel_rfl) (by exact fun _ _ _ h => h) (by first | (refine Or.inl ⟨by rfl, ?_⟩; intro W hW; go_simp; try with_reducible rfl) | exact Or.inr ⟨by rfl, rfl⟩) ?_; try simp only [Act.put, List.setIfInBounds_toArray, List.set_cons_zero, List.set_cons_succ])
  (refine takeE Ext.tr 20 (by simp only [List.getElem?_toArray, List.getElem?_cons_succ, List.getElem?_cons_zero]; rfl) (by kernel_rfl) (by kernel_rfl) (by kernel_rfl) (by exact fun _ _ _ h => h) (by first | (refine Or.inl ⟨by rfl, ?_⟩; intro W hW; go_simp; try with_reducible rfl) | exact Or.inr ⟨by rfl, rfl⟩) ?_; try simp only [Act.put, List.setIfInBounds_toArray, List.set_cons_zero, List.set_cons_succ])
  (refine takeE Ext.tr 21 (by simp only [List.getElem?_toArray, List.getElem?_cons_succ, List.getElem?_cons_zero]; rfl) (by kernel_rfl) (by kernel_rfl) (by kernel_rfl) (by exact fun _ _ _ h => h) (by first | (refine Or.inl ⟨by rfl, ?_⟩; intro W hW; go_simp; try with_reducible rfl) | exact Or.inr ⟨by rfl, rfl⟩) ?_; try simp only [Act.put, List.setIfInBounds_toArray, List.set_cons_zero, List.set_cons_succ])
  (refine takeE Ext.tr 22 (by simp only [List.getElem?_toArray, List.getElem?_cons_succ, List.getElem?_cons_zero]; rfl) (by kernel_rfl) (by kernel_rfl) (by kernel_rfl) (by exact fun _ _ _ h => h) (by first | (refine Or.inl ⟨by rfl, ?_⟩; intro W hW; go_simp; try with_reducible rfl) | exact Or.inr ⟨by rfl, rfl⟩) ?_; try simp only [Act.put, List.setIfInBounds_toArray, List.set_cons_zero, List.set_cons_succ])
  (refine takeE Ext.tr 23 (by simp only [List.getElem?_toArray, List.getElem?_cons_succ, List.getElem?_cons_zero]; rfl) (by kernel_rfl) (by kernel_rfl) (by kernel_rfl) (by exact fun _ _ _ h => h) (by first | (refine Or.inl ⟨by rfl, ?_⟩; intro W hW; go_simp; try with_reducible rfl) | exact Or.inr ⟨by rfl, rfl⟩) ?_; try simp only [Act.put, List.setIfInBounds_toArray, List.set_cons_zero, List.set_cons_succ])
  (refine takeE Ext.tr 24 (by simp only [List.getElem?_toArray, List.getElem?_cons_succ, List.getElem?_cons_zero]; rfl) (by kernel_rfl) (by kernel_rfl) (by kernel_rfl) (by exact fun _ _ _ h => h) (by first | (refine Or.inl ⟨by rfl, ?_⟩; intro W hW; go_simp; try with_reducible rfl) | exact Or.inr ⟨by rfl, rfl⟩) ?_; try simp only [Act.put, List.setIfInBounds_toArray, List.set_cons_zero, List.set_cons_succ])
  refine wpAnyE_done (by kernel_rfl) ?_ _

  have h6 := hd.below hb6
  have hb : Below w.heap.size w w6 := hbw.trans (hb6.mono hbw.size)
  clear k2 k3 k6 hr6 hown6 hr1 hr2' hr3 hd hbw hbd h hsz hb6
  by_cases hs : sizeB s = true
  · obtain ⟨k, rfl, hk1, hk8⟩ := sizeB_nat hs
    go_wp2_with fail
    refine (put_any none 0 0 [] k u _ (by exact Rd.nil _ _) (by omega)).mono ?_
    rintro e w7 ⟨v7, rfl, hown7, hb7⟩
    rw [show putL [] k u = enc k u from by unfold putL; rw [if_pos hs]; simp] at hown7
    have h7 := h6.below hb7
    go_wp2_with (at_builtin; go_must (refine wpList_append_ints bytesT rfl (.tmp 71) (.tmp 72) rfl rfl (w0 := w6) hown7 rfl (by exact h7) (by simp [enc_length]; omega) (by omega) hb7 ?_); intro v8 w8 hown8 hb8)
    obtain ⟨A8, c8, rfl, hr8⟩ := hown8.rd (by intro x hx; rcases List.mem_append.1 hx with hx | hx; exact enc_wf _ _ x hx; exact HW.out x hx)
    refine (get_any _ _ _ (enc k u ++ xs) k _ (by exact hr8) (by have := h6.1; simp [enc_length]; omega)).mono ?_
    rintro e w9 ⟨v9, rfl, hown9, hb9⟩
    have hB := back_B xs u hs
    have hR := back_R xs u hs
    have hN := back_N xs u hu0 hs hk8
    rw [hB, hN]
    rw [hR] at hown9
    obtain ⟨A9, c9, rfl, hr9⟩ := hown9.rd HW.out
    have hl : xs.length = n := h6.1
    rw [hl] at hr9 ⊢
    have q1 := conv_any hr9
    have q2 := conv_any ((h6.below hb8).below hb9)
    have hbz : Below w.heap.size w w9 := (hb.trans (hb8.mono hb.size)).trans (hb9.mono (Nat.le_trans hb.size hb8.size))
    clear hB hN hR hown9 hr9 hown8 hr8 hb8 hb9 hb7 h7 h6 hb hbc hown7 hl HL1 HL2
    by_cases hk : k = 8
    · subst hk
      have hU : u % 2 ^ (8 * 8) = u := by have := HU.out; omega
      rw [hU]
      clear hU
      go_wp2_with (go_at_call 11; refine (awake_any _).mono ?_; rintro e w' ⟨rfl, hba⟩)
      go_ret
      exact ⟨rfl, hbz.trans (hba.mono hbz.size)⟩
    · have hkl : k < 8 := by omega
      have hke : ((k : Int) == 8) = false := by simp; omega
      have e1 := wrap_pow hkl
      have e2 := pow_ne k
      clear hk
      go_wp2_with (go_at_call 11; refine (awake_any _).mono ?_; rintro e w' ⟨rfl, hba⟩)
      go_ret
      exact ⟨rfl, hbz.trans (hba.mono hbz.size)⟩
  · have hs' : s < 1 ∨ 8 < s := by unfold sizeB at hs; simp at hs; omega
    rcases hs' with hs' | hs'
    · go_wp2_with (go_at_call 11; refine (awake_any _).mono ?_; rintro e w' ⟨rfl, hba⟩)
      go_ret
      exact ⟨rfl, hb.trans (hba.mono hb.size)⟩
    · have h1 : 1 ≤ s := by omega
      go_wp2_with (go_at_call 11; refine (awake_any _).mono ?_; rintro e w' ⟨rfl, hba⟩)
      go_ret
      exact ⟨rfl, hb.trans (hba.mono hb.size)⟩
end Go.Proofs.Ytbphpfelinllhaa
