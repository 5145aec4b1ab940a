/- Sources: made, asked, drawn from. -/
import Derived.Test.YtiefgicapcljiaaP1
set_option linter.unusedSimpArgs false
set_option linter.unusedVariables false
namespace Go.Proofs.Ytiefgicapcljiaa
open Go.RowKit Go.Shelf

/-- Block p is a source of a seed, from which i numbers were drawn. -/
def Src (w : World) (p : Nat) (s i : Int) : Prop := Bk w 67 p [.int .u64 s, .int .i64 i, .bool true]
/-- P is nil, or a source that nobody made. -/
def NoSrc (w : World) (P : Option Addr) : Prop := P = none ∨ ∃ p s i, P = some ⟨p, 0, none⟩ ∧ Bk w 67 p [.int .u64 s, .int .i64 i, .bool false]
section
variable {w w' : World} {p : Nat} {s i : Int}
theorem Src.bk (h : Src w p s i) : Bk w 67 p [.int .u64 s, .int .i64 i, .bool true] := h
theorem Src.below (h : Src w p s i) (hb : Below w.heap.size w w') : Src w' p s i := Bk.below h hb
end
theorem made_any (w : World) (p : Nat) (s i : Int) (h : Src w p s i) :
    Calls Try.prog 33 #[.pointer (some ⟨p, 0, none⟩)] w fun e w' => e = .returned (.bool true) ∧ w = w' := by
  have c2 := h.bk.cell 2 rfl
  go_enter Try.func33, Try.ntmps33
  go_wp2
  go_ret
  exact ⟨rfl, rfl⟩
theorem made_no (w : World) (P : Option Addr) (h : NoSrc w P) :
    Calls Try.prog 33 #[.pointer P] w fun e w' => e = .returned (.bool false) ∧ w = w' := by
  rcases h with rfl | ⟨p, s, i, rfl, h⟩
  · go_enter Try.func33, Try.ntmps33
    go_wp2
    go_ret
    exact ⟨rfl, rfl⟩
  · have c2 := h.cell 2 rfl
    go_enter Try.func33, Try.ntmps33
    go_wp2
    go_ret
    exact ⟨rfl, rfl⟩
theorem new_any (s : Int) (w : World) :
    Calls Try.prog 23 #[.int .u64 s] w fun e w' => e = .returned (.pointer (some ⟨w.heap.size, 0, none⟩)) ∧ Src w' w.heap.size s 0 ∧ w' = w.alloc (.cells #[.int .u64 s, .int .i64 0, .bool true] 67) := by
  go_enter Try.func23, Try.ntmps23
  go_wp2
  go_ret
  exact ⟨rfl, Bk.new w _ _, rfl⟩
theorem next_any (w : World) (p : Nat) (s i : Int) (h : Src w p s i) (h0 : 0 ≤ i) (h1 : i ≤ 1000000000) :
    Calls Try.prog 39 #[.pointer (some ⟨p, 0, none⟩)] w fun e w' => e = .returned (.int .u64 (atV s i)) ∧ Src w' p s (i + 1) ∧ Wr p w w' := by
  have c0 := h.bk.cell 0 rfl
  have c1 := h.bk.cell 1 rfl
  have f1 := h.bk.free 1
  have d0 := (h.bk.set 1 (.int .i64 (i + 1))).cell 0 rfl
  go_enter Try.func39, Try.ntmps39
  go_wp2_with (go_at_call 33; refine (made_any _ _ s i (by exact h)).mono ?_; rintro e w' ⟨rfl, rfl⟩)
  go_quiet (exact Calls.quiet_of_same ((at_any _ _ _).mono fun _ _ h => ⟨h.1, h.2.symm⟩))
  go_wp2
  go_ret
  exact ⟨rfl, h.bk.set 1 _, (Wr.set w p 1 _).trans (Wr.of_below (Below.drewN_ _ _)) (by simp [World.setCell])⟩
theorem next_no (w : World) (P : Option Addr) (h : NoSrc w P) :
    Calls Try.prog 39 #[.pointer P] w fun e w' => e = .returned (.int .u64 0) ∧ w = w' := by
  go_enter Try.func39, Try.ntmps39
  go_wp2_with (go_at_call 33; refine (made_no _ _ (by exact h)).mono ?_; rintro e w' ⟨rfl, rfl⟩)
  go_ret
  exact ⟨rfl, rfl⟩
/-- A number of the seed, modulo n. -/
def belV (s i n : Int) : Int := atV s i % n
theorem belV_bounds (s i n : Int) (hn : 0 < n) : 0 ≤ belV s i n ∧ belV s i n < n := ⟨Int.emod_nonneg _ (by omega), Int.emod_lt_of_pos _ hn⟩
theorem belV_wrap (s i n : Int) (hn : 1 ≤ n) (hn' : n ≤ 9223372036854775807) : wrap64 ((atV s i).tmod n) = belV s i n := by
  have hb := atV_bounds s i
  have h1 := belV_bounds s i n (by omega)
  rw [Int.tmod_eq_emod_of_nonneg hb.1]
  have h2 := h1.1; have h3 := h1.2
  unfold belV at h2 h3 ⊢
  unfold wrap64
  omega
theorem below_any (w : World) (p : Nat) (s i : Int) (n : Int) (h : Src w p s i) (h0 : 0 ≤ i) (h1 : i ≤ 1000000000) (hn : 1 ≤ n) (hn' : n ≤ 9223372036854775807) :
    Calls Try.prog 37 #[.pointer (some ⟨p, 0, none⟩), .int .i64 n] w fun e w' => e = .returned (.int .i64 (belV s i n)) ∧ Src w' p s (i + 1) ∧ Wr p w w' := by
  have HB := Lib.hid (belV_wrap s i n hn hn')
  go_enter Try.func37, Try.ntmps37
  go_wp2_with (go_at_call 39; refine (next_any _ _ s i (by exact h) h0 h1).mono ?_; rintro e w' ⟨rfl, h2, h3⟩)
  go_ret
  exact ⟨ret_int HB.out, h2, h3⟩
theorem below_zero (w : World) (P : Option Addr) (n : Int) (hn : n < 1) :
    Calls Try.prog 37 #[.pointer P, .int .i64 n] w fun e w' => e = .returned (.int .i64 0) ∧ w = w' := by
  go_enter Try.func37, Try.ntmps37
  go_wp2
  go_ret
  exact ⟨rfl, rfl⟩
theorem below_no (w : World) (P : Option Addr) (n : Int) (h : NoSrc w P) (hx : n ≤ 9223372036854775807) :
    Calls Try.prog 37 #[.pointer P, .int .i64 n] w fun e w' => e = .returned (.int .i64 0) ∧ w = w' := by
  by_cases hn : n < 1
  · exact below_zero w P n hn
  · have hn' : 1 ≤ n := by omega
    go_enter Try.func37, Try.ntmps37
    go_wp2_with (go_at_call 39; refine (next_no _ _ (by exact h)).mono ?_; rintro e w' ⟨rfl, rfl⟩)
    go_ret
    exact ⟨ret_int (by simp [wrap64]), rfl⟩
theorem fork_any (w : World) (p : Nat) (s i : Int) (h : Src w p s i) :
    Calls Try.prog 28 #[.pointer (some ⟨p, 0, none⟩)] w fun e w' => e = .returned (.pointer (some ⟨w.heap.size, 0, none⟩)) ∧ Src w' w.heap.size s i ∧ Below w.heap.size w w' := by
  have c0 := h.bk.cell 0 rfl
  have c1 := h.bk.cell 1 rfl
  have c2 := h.bk.cell 2 rfl
  go_enter Try.func28, Try.ntmps28
  go_wp2_with (go_at_call 33; refine (made_any _ _ s i (by exact h)).mono ?_; rintro e w' ⟨rfl, rfl⟩)
  go_ret
  exact ⟨rfl, Bk.new w _ _, (Below.refl _ _).alloc (Nat.le_refl _) _⟩
theorem fork_no (w : World) (P : Option Addr) (h : NoSrc w P) :
    Calls Try.prog 28 #[.pointer P] w fun e w' => e = .returned (.pointer none) ∧ w = w' := by
  go_enter Try.func28, Try.ntmps28
  go_wp2_with (go_at_call 33; refine (made_no _ _ (by exact h)).mono ?_; rintro e w' ⟨rfl, rfl⟩)
  go_ret
  exact ⟨rfl, rfl⟩
end Go.Proofs.Ytiefgicapcljiaa
