/- Sums that come piece by piece. -/
import Derived.Test.YteheffhfhimkdaaD2
import Derived.BigQuiet
import Derived.Outline
import Derived.Deep.DeepCutAuto
import Derived.Deep.LoopGhost
set_option linter.unusedSimpArgs false
set_option linter.unusedVariables false
namespace Go.Proofs.Yteheffhfhimkdaa
open Go.RowKit Go.Shelf

/-- The Sum at g has these bytes. -/
def SumAt (w : World) (g : Nat) (xs : List Int) : Prop := Bk w 47 g (pr (adA 1 0 xs) (adB 1 0 xs) [.int .i64 xs.length, .bool true])
/-- The Sum at g was made by nobody. -/
def RawAt (w : World) (g : Nat) : Prop := ∃ a b c, Bk w 47 g [a, b, c, .bool false]

set_option maxHeartbeats 400000 in
theorem made_nil (w : World) : Calls Try.prog 32 #[.pointer none] w fun e w' => e = .returned (.bool false) ∧ w = w' := by
  go_enter Try.func32, Try.ntmps32
  go_wp2
  go_ret
  exact ⟨rfl, rfl⟩
set_option maxHeartbeats 400000 in
theorem made_at (g : Nat) (a b c : Value) (m : Bool) (w : World) (h : Bk w 47 g [a, b, c, .bool m]) : Calls Try.prog 32 #[.pointer (some ⟨g, 0, none⟩)] w fun e w' => e = .returned (.bool m) ∧ w = w' := by
  have h3 := h.cell 3 rfl
  go_enter Try.func32, Try.ntmps32
  go_wp2
  go_ret
  exact ⟨rfl, rfl⟩

set_option maxHeartbeats 400000 in
theorem new_any (w : World) : Calls Try.prog 22 #[] w fun e w' => ∃ g, e = .returned (.pointer (some ⟨g, 0, none⟩)) ∧ w.heap.size ≤ g ∧ SumAt w' g [] ∧ Below w.heap.size w w' := by
  go_enter Try.func22, Try.ntmps22
  go_wp2_with fail
  refine (start_any _).mono ?_
  rintro e w1 ⟨rfl, hb1⟩
  go_wp2
  go_ret
  exact ⟨w1.heap.size, rfl, hb1.size, Bk.new w1 47 [.int .u64 1, .int .u64 0, .int .i64 0, .bool true], hb1.alloc hb1.size _⟩

set_option maxHeartbeats 1000000 in
theorem write_any (g : Nat) (xs : List Int) (A : Option Addr) (n c : Nat) (ys : List Int) (w : World) (h : SumAt w g xs) (hr : Rd .u8 w A n c ys) (hA : 0 < n → ∀ ad, A = some ad → ad.block ≠ g) (hn : n ≤ 65536) (hx : xs.length ≤ 1000000) :
    Calls Try.prog 23 #[.pointer (some ⟨g, 0, none⟩), .slice A n c] w fun e w' => e = .returned (.int .i64 n) ∧ SumAt w' g (xs ++ ys) ∧ Wr g w w' := by
  have hl := Lib.hid hr.1
  have hab := ad_lt 1 0 xs
  unfold SumAt at h
  go_enter Try.func23, Try.ntmps23
  go_wp2_with fail
  refine (made_at g _ _ _ true _ h).mono ?_
  rintro e w' ⟨rfl, rfl⟩
  go_wp2_with fail
  refine (add_any g 47 _ _ _ A n c ys _ h hab.1 hab.2 hr hA hn).mono ?_
  rintro e w1 ⟨⟨v, rfl⟩, h1, hw1⟩
  rw [(ad_app 1 0 xs ys).1, (ad_app 1 0 xs ys).2] at h1
  have c2 := h1.cell 2 rfl
  have f2 := h1.free 2
  go_wp2
  go_ret
  refine ⟨rfl, ?_, hw1.trans (Wr.set _ _ _ _) hw1.size⟩
  have := h1.set 2 (.int .i64 (xs.length + n))
  unfold SumAt
  rw [List.length_append, hl.out]
  simpa [pr] using this

set_option maxHeartbeats 1000000 in
theorem sum_any (g : Nat) (xs : List Int) (w : World) (h : SumAt w g xs) :
    Calls Try.prog 24 #[.pointer (some ⟨g, 0, none⟩)] w fun e w' => e = .returned (.int .u32 (onV 1 xs)) ∧ ∃ m, w' = w.drewN m := by
  have hab := ad_lt 1 0 xs
  unfold SumAt at h
  go_enter Try.func24, Try.ntmps24
  go_wp2_with fail
  refine (made_at g _ _ _ true _ h).mono ?_
  rintro e w' ⟨rfl, rfl⟩
  go_wp2_with fail
  refine (checksum_any g 47 _ _ _ _ h hab.1 hab.2).mono ?_
  rintro e w1 ⟨rfl, m, rfl⟩
  go_wp2
  go_ret
  exact ⟨rfl, m, rfl⟩

set_option maxHeartbeats 1000000 in
theorem len_any (g : Nat) (xs : List Int) (w : World) (h : SumAt w g xs) :
    Calls Try.prog 25 #[.pointer (some ⟨g, 0, none⟩)] w fun e w' => e = .returned (.int .i64 xs.length) ∧ w = w' := by
  unfold SumAt at h
  have c2 := h.cell 2 rfl
  go_enter Try.func25, Try.ntmps25
  go_wp2_with fail
  refine (made_at g _ _ _ true _ h).mono ?_
  rintro e w' ⟨rfl, rfl⟩
  go_wp2
  go_ret
  exact ⟨rfl, rfl⟩

set_option maxHeartbeats 1000000 in
theorem fork_any (g : Nat) (xs : List Int) (w : World) (h : SumAt w g xs) :
    Calls Try.prog 26 #[.pointer (some ⟨g, 0, none⟩)] w fun e w' => ∃ g', e = .returned (.pointer (some ⟨g', 0, none⟩)) ∧ w.heap.size ≤ g' ∧ SumAt w' g' xs ∧ Below w.heap.size w w' := by
  unfold SumAt at h
  have c0 := h.cell 0 rfl
  have c1 := h.cell 1 rfl
  have c2 := h.cell 2 rfl
  have c3 := h.cell 3 rfl
  go_enter Try.func26, Try.ntmps26
  go_wp2_with fail
  refine (made_at g _ _ _ true _ h).mono ?_
  rintro e w' ⟨rfl, rfl⟩
  go_wp2
  go_ret
  exact ⟨w.heap.size, rfl, Nat.le_refl _, Bk.new w 47 [.int .u64 (adA 1 0 xs), .int .u64 (adB 1 0 xs), .int .i64 xs.length, .bool true], (Below.refl _ _).alloc (Nat.le_refl _) _⟩

/-- Nobody made it: nil, or a zero value. -/
def Nob (w : World) (p : Option Addr) : Prop := p = none ∨ ∃ g a b c, p = some ⟨g, 0, none⟩ ∧ Bk w 47 g [a, b, c, .bool false]
theorem Nob.below {w w' : World} {p : Option Addr} (h : Nob w p) (hb : Below w.heap.size w w') : Nob w' p := by
  rcases h with rfl | ⟨g, a, b, c, rfl, h⟩
  · exact .inl rfl
  · exact .inr ⟨g, a, b, c, rfl, h.below hb⟩
theorem made_nob (p : Option Addr) (w : World) (h : Nob w p) : Calls Try.prog 32 #[.pointer p] w fun e w' => e = .returned (.bool false) ∧ w = w' := by
  rcases h with rfl | ⟨g, a, b, c, rfl, h⟩
  · exact made_nil w
  · exact made_at g a b c false w h
set_option maxHeartbeats 400000 in
theorem write_nob (p : Option Addr) (A : Option Addr) (n c : Nat) (w : World) (h : Nob w p) : Calls Try.prog 23 #[.pointer p, .slice A n c] w fun e w' => e = .returned (.int .i64 0) ∧ w = w' := by
  go_enter Try.func23, Try.ntmps23
  go_wp2_with fail
  refine (made_nob p _ h).mono ?_
  rintro e w' ⟨rfl, rfl⟩
  go_wp2
  go_ret
  exact ⟨rfl, rfl⟩
set_option maxHeartbeats 400000 in
theorem sum_nob (p : Option Addr) (w : World) (h : Nob w p) : Calls Try.prog 24 #[.pointer p] w fun e w' => e = .returned (.int .u32 0) ∧ w = w' := by
  go_enter Try.func24, Try.ntmps24
  go_wp2_with fail
  refine (made_nob p _ h).mono ?_
  rintro e w' ⟨rfl, rfl⟩
  go_wp2
  go_ret
  exact ⟨rfl, rfl⟩
set_option maxHeartbeats 400000 in
theorem len_nob (p : Option Addr) (w : World) (h : Nob w p) : Calls Try.prog 25 #[.pointer p] w fun e w' => e = .returned (.int .i64 0) ∧ w = w' := by
  go_enter Try.func25, Try.ntmps25
  go_wp2_with fail
  refine (made_nob p _ h).mono ?_
  rintro e w' ⟨rfl, rfl⟩
  go_wp2
  go_ret
  exact ⟨rfl, rfl⟩
set_option maxHeartbeats 400000 in
theorem fork_nob (p : Option Addr) (w : World) (h : Nob w p) : Calls Try.prog 26 #[.pointer p] w fun e w' => e = .returned (.pointer none) ∧ w = w' := by
  go_enter Try.func26, Try.ntmps26
  go_wp2_with fail
  refine (made_nob p _ h).mono ?_
  rintro e w' ⟨rfl, rfl⟩
  go_wp2
  go_ret
  exact ⟨rfl, rfl⟩
end Go.Proofs.Yteheffhfhimkdaa
