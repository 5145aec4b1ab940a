import Derived.Test.YtochbcemobkegaaO3
namespace Go.Proofs.Ytochbcemobkegaa
open Go.RowKit
/-- Block g is a reader's: the bytes that remain, and whether it is good. -/
def Blk (w : World) (g : Nat) (v : Value) (good : Bool) : Prop := w.heap[g]? = some (.cells #[v, .bool good] 78 (0, 0))
theorem Blk.lt {w : World} {g : Nat} {v : Value} {b : Bool} (h : Blk w g v b) : g < w.heap.size := (Array.getElem?_eq_some_iff.1 h).1
theorem Blk.c0 {w : World} {g : Nat} {v : Value} {b : Bool} (h : Blk w g v b) : w.cell? ⟨g, 0, none⟩ = some v := cell_of_row w g 0 _ _ _ h
theorem Blk.c1 {w : World} {g : Nat} {v : Value} {b : Bool} (h : Blk w g v b) : w.cell? ⟨g, 1, none⟩ = some (.bool b) := cell_of_row w g 1 _ _ _ h
theorem Blk.free {w : World} {g : Nat} {v : Value} {b : Bool} (h : Blk w g v b) (i : Nat) : w.frozen? ⟨g, i, none⟩ = false := by
  unfold Blk at h
  simp [World.frozen?, h]
theorem Blk.keep {w w' : World} {g B : Nat} {v : Value} {b : Bool} (h : Blk w g v b) (hb : Below B w w') (hB : w.heap.size ≤ B) : Blk w' g v b := by
  unfold Blk
  rw [hb.block g (by have := h.lt; omega)]
  exact h

theorem Blk.set0 {w : World} {g : Nat} {v : Value} {b : Bool} (h : Blk w g v b) (u : Value) : Blk (w.setCell ⟨g, 0, none⟩ u) g u b := by
  unfold Blk at h ⊢
  simp [World.setCell, Array.getElem?_modify, h]
theorem Blk.set1 {w : World} {g : Nat} {v : Value} {b : Bool} (h : Blk w g v b) (u : Bool) : Blk (w.setCell ⟨g, 1, none⟩ (.bool u)) g v u := by
  unfold Blk at h ⊢
  simp [World.setCell, Array.getElem?_modify, h]

set_option maxHeartbeats 400000 in
theorem bad_nil (w : World) : Calls Try.prog 57 #[.pointer none] w fun e w' => e = .returned (.bool true) ∧ w = w' := by
  go_enter Try.func57, Try.ntmps57
  go_wp2
  go_ret
  exact ⟨rfl, rfl⟩
set_option maxHeartbeats 400000 in
theorem bad_at (g : Nat) (v : Value) (b : Bool) (w : World) (h : Blk w g v b) : Calls Try.prog 57 #[.pointer (some ⟨g, 0, none⟩)] w fun e w' => e = .returned (.bool (!b)) ∧ w = w' := by
  have h1 := h.c1
  clear h
  go_enter Try.func57, Try.ntmps57
  go_wp2
  go_ret
  exact ⟨rfl, rfl⟩
set_option maxHeartbeats 400000 in
theorem cut_no (g : Nat) (A : Option Addr) (n c : Nat) (b : Bool) (k : Int) (w : World) (h : Blk w g (.slice A n c) b) (hk : k < 0 ∨ (n : Int) < k) :
    Calls Try.prog 58 #[.pointer (some ⟨g, 0, none⟩), .int .i64 k] w fun e w' => e = .returned (.tuple #[.slice none 0 0, .bool false]) ∧ w = w' := by
  have h1 := h.c0
  by_cases hk0 : k < 0
  · clear hk
    go_enter Try.func58, Try.ntmps58
    go_wp2
    go_ret2
    exact ⟨rfl, rfl⟩
  · have hk1 : (n : Int) < k := by omega
    clear hk
    go_enter Try.func58, Try.ntmps58
    go_wp2
    go_ret2
    exact ⟨rfl, rfl⟩
theorem namedT : Ints Try.prog 76 5 .u8 1 := ⟨Try.underlying76, by kernel_rfl⟩
set_option maxHeartbeats 400000 in
theorem cut_yes (g : Nat) (A : Option Addr) (n c : Nat) (b : Bool) (k : Nat) (w : World) (h : Blk w g (.slice A n c) b) (hk : k ≤ n) (hn : n ≤ c) :
    Calls Try.prog 58 #[.pointer (some ⟨g, 0, none⟩), .int .i64 k] w fun e w' => e = .returned (.tuple #[.slice A k c, .bool true]) ∧ Blk w' g (.slice (cutA A c k) (n - k) (c - k)) b ∧ Wr g w w' := by
  have h1 := h.c0
  have hf := h.free 0
  have hkc : k ≤ c := by omega
  have hcut := fun w => namedT.run_cut A n c k hk hn w
  go_enter Try.func58, Try.ntmps58
  go_wp2
  go_ret2
  exact ⟨rfl, h.set0 _, Wr.set w g 0 _⟩

set_option maxHeartbeats 400000 in
theorem next_nil (k : Int) (w : World) : Calls Try.prog 50 #[.pointer none, .int .i64 k] w fun e w' => e = .returned (.slice none 0 0) ∧ w = w' := by
  go_enter Try.func50, Try.ntmps50
  go_wp2_with (go_at_call 57; refine (bad_nil _).mono ?_; rintro e w' ⟨rfl, rfl⟩)
  go_ret
  exact ⟨rfl, rfl⟩
set_option maxHeartbeats 400000 in
theorem next_bad (g : Nat) (v : Value) (k : Int) (w : World) (h : Blk w g v false) : Calls Try.prog 50 #[.pointer (some ⟨g, 0, none⟩), .int .i64 k] w fun e w' => e = .returned (.slice none 0 0) ∧ w = w' := by
  go_enter Try.func50, Try.ntmps50
  go_wp2_with (go_at_call 57; refine (bad_at _ _ _ _ (by exact h)).mono ?_; rintro e w' ⟨rfl, rfl⟩)
  go_ret
  exact ⟨rfl, rfl⟩
set_option maxHeartbeats 400000 in
theorem next_no (g : Nat) (A : Option Addr) (n c : Nat) (k : Int) (w : World) (h : Blk w g (.slice A n c) true) (hk : k < 0 ∨ (n : Int) < k) :
    Calls Try.prog 50 #[.pointer (some ⟨g, 0, none⟩), .int .i64 k] w fun e w' => e = .returned (.slice none 0 0) ∧ Blk w' g (.slice none 0 0) false ∧ Wr g w w' := by
  have h0 := h.c0
  have h1 := h.c1
  have hf := h.free 0
  have hf1 := h.free 1
  have HK := Lib.hid hk
  clear hk
  go_enter Try.func50, Try.ntmps50
  go_wp2_with (first
    | (go_at_call 57; refine (bad_at _ _ _ _ (by exact h)).mono ?_; rintro e w' ⟨rfl, rfl⟩)
    | (go_at_call 58; refine (cut_no _ _ _ _ _ _ _ (by exact h) HK.out).mono ?_; rintro e w' ⟨rfl, rfl⟩))
  go_ret
  exact ⟨rfl, (h.set0 _).set1 _, (Wr.set w g 0 _).trans (Wr.set _ g 1 _) (by simp)⟩
set_option maxHeartbeats 400000 in
theorem next_yes (g : Nat) (A : Option Addr) (n c : Nat) (k : Nat) (w : World) (h : Blk w g (.slice A n c) true) (hk : k ≤ n) (hn : n ≤ c) :
    Calls Try.prog 50 #[.pointer (some ⟨g, 0, none⟩), .int .i64 k] w fun e w' => e = .returned (.slice A k c) ∧ Blk w' g (.slice (cutA A c k) (n - k) (c - k)) true ∧ Wr g w w' := by
  have h0 := h.c0
  have h1 := h.c1
  have hf := h.free 0
  go_enter Try.func50, Try.ntmps50
  go_wp2_with (first
    | (go_at_call 57; refine (bad_at _ _ _ _ (by exact h)).mono ?_; rintro e w' ⟨rfl, rfl⟩)
    | (go_at_call 58; refine (cut_yes _ _ _ _ _ _ _ (by exact h) hk hn).mono ?_; rintro e w' ⟨rfl, hb, hw⟩))
  go_ret
  exact ⟨rfl, hb, hw⟩
end Go.Proofs.Ytochbcemobkegaa
