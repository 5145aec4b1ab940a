import Derived.Test.YtochbcemobkegaaO4
namespace Go.Proofs.Ytochbcemobkegaa
open Go.RowKit
theorem Rd.wr {k : IntKind} {w w' : World} {A : Option Addr} {n c : Nat} {xs : List Int} (h : Rd k w A n c xs) {g : Nat} (hA : ∀ ad, A = some ad → ad.block ≠ g) (hw : Wr g w w') : Rd k w' A n c xs := by
  obtain ⟨h1, h2, h3, h4, h5, h6⟩ := h
  refine ⟨h1, h2, h3, h4, h5, fun hn => ?_⟩
  obtain ⟨g', o, e, hg, hx⟩ := h6 hn
  refine ⟨g', o, e, by have := hw.size; omega, fun i hi => ?_⟩
  rw [World.cell?_of_block (hw.block g' hg (by intro e'; injection e' with e'; exact hA _ e e'))]
  exact hx i hi
theorem Blk.wr {w w' : World} {g g' : Nat} {v : Value} {b : Bool} (h : Blk w g v b) (hw : Wr g' w w') (hne : g ≠ g') : Blk w' g v b := by
  unfold Blk
  rw [hw.block g h.lt (by intro e; injection e with e; exact hne e)]
  exact h
/-- The reader at g is good, and xs remain. -/
def Good (w : World) (g : Nat) (xs : List Int) : Prop :=
  ∃ A n c, Blk w g (.slice A n c) true ∧ Rd .u8 w A n c xs ∧ (∀ ad, A = some ad → ad.block < g) ∧ n ≤ 70368744177664
def BadR (w : World) (g : Nat) : Prop := ∃ v, Blk w g v false
theorem Good.below {w w' : World} {g : Nat} {xs : List Int} (h : Good w g xs) (hb : Below w.heap.size w w') : Good w' g xs := by
  obtain ⟨A, n, c, h1, h2, h3, h4⟩ := h
  exact ⟨A, n, c, h1.keep hb (Nat.le_refl _), h2.below hb, h3, h4⟩
theorem BadR.below {w w' : World} {g : Nat} (h : BadR w g) (hb : Below w.heap.size w w') : BadR w' g := by
  obtain ⟨v, h1⟩ := h
  exact ⟨v, h1.keep hb (Nat.le_refl _)⟩

theorem cutA_block {A : Option Addr} {c k g : Nat} (h : ∀ ad, A = some ad → ad.block < g) : ∀ ad, cutA A c k = some ad → ad.block < g := by
  intro ad he
  unfold cutA at he
  split at he
  · exact h ad he
  · cases A with
    | none => simp at he
    | some x =>
      simp at he
      subst he
      have := h x rfl
      unfold Addr.add
      split <;> simpa using this

set_option maxHeartbeats 400000 in
theorem new_any (A : Option Addr) (n c : Nat) (xs : List Int) (w : World) (h : Rd .u8 w A n c xs) (hn : n ≤ 70368744177664) :
    Calls Try.prog 28 #[.slice A n c] w fun e w' => ∃ g, e = .returned (.pointer (some ⟨g, 0, none⟩)) ∧ w.heap.size ≤ g ∧ Good w' g xs ∧ Below w.heap.size w w' := by
  have hwf := Lib.hid h.2.2.2.2.1
  go_enter Try.func28, Try.ntmps28
  go_wp2_with (go_at_call 45; refine (clone_any _ _ _ xs _ (by exact h) hn).mono ?_; rintro e w1 ⟨v, rfl, hown, hb⟩; obtain ⟨B, d, rfl, hr⟩ := hown.rd hwf.out)
  go_ret
  refine ⟨w1.heap.size, rfl, hb.size, ⟨B, _, d, heap_alloc_new w1 _, hr.alloc _, ?_, by rw [h.1]; exact hn⟩, hb.alloc hb.size _⟩
  rintro ad rfl
  rcases hown.2 with ⟨he, _⟩ | ⟨g, cap, cur, he, hg, hh, _⟩
  · cases he
  · injection he with he
    injection he with he
    subst he
    exact (Array.getElem?_eq_some_iff.1 hh).1

set_option maxHeartbeats 400000 in
theorem take_yes (g : Nat) (xs : List Int) (k : Nat) (w : World) (h : Good w g xs) (hk : k ≤ xs.length) :
    Calls Try.prog 29 #[.pointer (some ⟨g, 0, none⟩), .int .i64 k] w fun e w' => ∃ v, e = .returned v ∧ Ow .u8 5 w.heap.size w' v (xs.take k) ∧ Good w' g (xs.drop k) ∧ Wr g w w' := by
  obtain ⟨A, n, c, hB, hr, hA, hn⟩ := h
  have hk' : k ≤ n := by have := hr.1; omega
  go_enter Try.func29, Try.ntmps29
  go_wp2_with fail
  refine (next_yes _ _ _ _ _ _ (by exact hB) hk' hr.2.1).mono ?_
  rintro e w1 ⟨rfl, hb1, hw1⟩
  have hr1 := hr.wr (fun ad he => Nat.ne_of_lt (hA ad he)) hw1
  go_wp2_with (go_at_call 45; refine (clone_any _ _ _ (xs.take k) _ (by exact hr1.pre hk') (by omega)).mono ?_; rintro e w2 ⟨v, rfl, hown, hb⟩)
  go_ret
  exact ⟨v, rfl, hown.mono hw1.size, ⟨_, _, _, hb1.keep hb (Nat.le_refl _), (hr1.cut hk').below hb, cutA_block hA, by omega⟩, hw1.trans (Wr.of_below hb) hw1.size⟩
set_option maxHeartbeats 400000 in
theorem take_no (g : Nat) (xs : List Int) (k : Int) (w : World) (h : Good w g xs) (hk : k < 0 ∨ (xs.length : Int) < k) :
    Calls Try.prog 29 #[.pointer (some ⟨g, 0, none⟩), .int .i64 k] w fun e w' => ∃ v, e = .returned v ∧ Ow .u8 5 w.heap.size w' v [] ∧ BadR w' g ∧ Wr g w w' := by
  obtain ⟨A, n, c, hB, hr, hA, hn⟩ := h
  have hk' := Lib.hid (show k < 0 ∨ (n : Int) < k by have := hr.1; omega)
  clear hk
  go_enter Try.func29, Try.ntmps29
  go_wp2_with fail
  refine (next_no _ _ _ _ _ _ (by exact hB) hk'.out).mono ?_
  rintro e w1 ⟨rfl, hb1, hw1⟩
  go_wp2_with (go_at_call 45; refine (clone_any _ _ _ [] _ (by exact Rd.nil _ _) (by omega)).mono ?_; rintro e w2 ⟨v, rfl, hown, hb⟩)
  go_ret
  exact ⟨v, rfl, hown.mono hw1.size, ⟨_, hb1.keep hb (Nat.le_refl _)⟩, hw1.trans (Wr.of_below hb) hw1.size⟩
set_option maxHeartbeats 400000 in
theorem take_bad (g : Nat) (k : Int) (w : World) (h : BadR w g) :
    Calls Try.prog 29 #[.pointer (some ⟨g, 0, none⟩), .int .i64 k] w fun e w' => ∃ v, e = .returned v ∧ Ow .u8 5 w.heap.size w' v [] ∧ BadR w' g ∧ Wr g w w' := by
  obtain ⟨v0, hB⟩ := h
  go_enter Try.func29, Try.ntmps29
  go_wp2_with fail
  refine (next_bad _ _ _ _ (by exact hB)).mono ?_
  rintro e w1 ⟨rfl, rfl⟩
  go_wp2_with (go_at_call 45; refine (clone_any _ _ _ [] _ (by exact Rd.nil _ _) (by omega)).mono ?_; rintro e w2 ⟨v, rfl, hown, hb⟩)
  go_ret
  exact ⟨v, rfl, hown, ⟨_, hB.keep hb (Nat.le_refl _)⟩, Wr.of_below hb⟩

set_option maxHeartbeats 400000 in
theorem num_yes (g : Nat) (xs : List Int) (k : Nat) (w : World) (h : Good w g xs) (hs : sizeB k = true) (hk : k ≤ xs.length) :
    Calls Try.prog 32 #[.pointer (some ⟨g, 0, none⟩), .int .i64 k] w fun e w' => e = .returned (.int .u64 (num (xs.take k))) ∧ Good w' g (xs.drop k) ∧ Wr g w w' := by
  obtain ⟨A, n, c, hB, hr, hA, hn⟩ := h
  have hk' : k ≤ n := by have := hr.1; omega
  go_enter Try.func32, Try.ntmps32
  go_wp2_with (first
    | (go_at_call 44; refine (isSize_any _ _).mono ?_; rintro e w' ⟨rfl, rfl⟩)
    | (go_at_call 50; refine (next_yes _ _ _ _ _ _ (by exact hB) hk' hr.2.1).mono ?_; rintro e w1 ⟨rfl, hb1, hw1⟩; have hr1 := hr.wr (fun ad he => Nat.ne_of_lt (hA ad he)) hw1)
    | (go_at_call 51; refine (number_any _ _ _ (xs.take k) _ (by exact hr1.pre hk')).mono ?_; rintro e w2 ⟨rfl, rfl⟩))
  go_ret
  exact ⟨rfl, ⟨_, _, _, hb1, hr1.cut hk', cutA_block hA, by omega⟩, hw1⟩
set_option maxHeartbeats 400000 in
theorem num_no (g : Nat) (xs : List Int) (k : Int) (w : World) (h : Good w g xs) (hk : sizeB k = false ∨ (xs.length : Int) < k) :
    Calls Try.prog 32 #[.pointer (some ⟨g, 0, none⟩), .int .i64 k] w fun e w' => e = .returned (.int .u64 0) ∧ BadR w' g ∧ Wr g w w' := by
  obtain ⟨A, n, c, hB, hr, hA, hn⟩ := h
  by_cases hs : sizeB k = true
  · have hk' := Lib.hid (show k < 0 ∨ (n : Int) < k by have := hr.1; simp [hs] at hk; omega)
    clear hk
    go_enter Try.func32, Try.ntmps32
    go_wp2_with (first
      | (go_at_call 44; refine (isSize_any _ _).mono ?_; rintro e w' ⟨rfl, rfl⟩)
      | (go_at_call 50; refine (next_no _ _ _ _ _ _ (by exact hB) hk'.out).mono ?_; rintro e w1 ⟨rfl, hb1, hw1⟩)
      | (go_at_call 51; refine (number_any _ _ _ [] _ (by exact Rd.nil _ _)).mono ?_; rintro e w2 ⟨rfl, rfl⟩))
    go_ret
    exact ⟨rfl, ⟨_, hb1⟩, hw1⟩
  · have hs' : sizeB k = false := by simpa using hs
    have hk' := Lib.hid (show (-1 : Int) < 0 ∨ (n : Int) < -1 by omega)
    clear hk hs
    go_enter Try.func32, Try.ntmps32
    go_wp2_with (first
      | (go_at_call 44; refine (isSize_any _ _).mono ?_; rintro e w' ⟨rfl, rfl⟩)
      | (go_at_call 50; refine (next_no _ _ _ _ _ _ (by exact hB) hk'.out).mono ?_; rintro e w1 ⟨rfl, hb1, hw1⟩)
      | (go_at_call 51; refine (number_any _ _ _ [] _ (by exact Rd.nil _ _)).mono ?_; rintro e w2 ⟨rfl, rfl⟩))
    go_ret
    exact ⟨rfl, ⟨_, hb1⟩, hw1⟩
set_option maxHeartbeats 400000 in
theorem num_bad (g : Nat) (k : Int) (w : World) (h : BadR w g) :
    Calls Try.prog 32 #[.pointer (some ⟨g, 0, none⟩), .int .i64 k] w fun e w' => e = .returned (.int .u64 0) ∧ w = w' := by
  obtain ⟨v0, hB⟩ := h
  rcases Bool.eq_false_or_eq_true (sizeB k) with hs | hs <;>
  · go_enter Try.func32, Try.ntmps32
    go_wp2_with (first
      | (go_at_call 44; refine (isSize_any _ _).mono ?_; rintro e w' ⟨rfl, rfl⟩)
      | (go_at_call 50; refine (next_bad _ _ _ _ (by exact hB)).mono ?_; rintro e w1 ⟨rfl, rfl⟩)
      | (go_at_call 51; refine (number_any _ _ _ [] _ (by exact Rd.nil _ _)).mono ?_; rintro e w2 ⟨rfl, rfl⟩))
    go_ret
    exact ⟨rfl, rfl⟩
set_option maxHeartbeats 400000 in
theorem num_nil (k : Int) (w : World) (hs : sizeB k = true) :
    Calls Try.prog 32 #[.pointer none, .int .i64 k] w fun e w' => e = .returned (.int .u64 0) ∧ w = w' := by
  go_enter Try.func32, Try.ntmps32
  go_wp2_with (first
    | (go_at_call 44; refine (isSize_any _ _).mono ?_; rintro e w' ⟨rfl, rfl⟩)
    | (go_at_call 50; refine (next_nil _ _).mono ?_; rintro e w1 ⟨rfl, rfl⟩)
    | (go_at_call 51; refine (number_any _ _ _ [] _ (by exact Rd.nil _ _)).mono ?_; rintro e w2 ⟨rfl, rfl⟩))
  go_ret
  exact ⟨rfl, rfl⟩
end Go.Proofs.Ytochbcemobkegaa
