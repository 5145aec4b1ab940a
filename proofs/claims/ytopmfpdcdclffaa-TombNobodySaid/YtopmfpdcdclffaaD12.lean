/- Tombs that nobody made. -/
import Derived.Test.YtopmfpdcdclffaaD8
set_option linter.unusedSimpArgs false
set_option linter.unusedVariables false
namespace Go.Proofs.Ytopmfpdcdclffaa
open Go.RowKit Go.Shelf
def zB : List Value := [.int .i64 0, .int .i64 0, .int .u64 0, .int .u64 0, .int .u64 0, .int .u64 0]
/-- Nobody made it. -/
def NoTm (w : World) (P : Option Addr) : Prop := P = none ∨ ∃ p, P = some ⟨p, 0, none⟩ ∧ Bk w 63 p zB
theorem NoTm.below {w w' : World} {P : Option Addr} (h : NoTm w P) (hb : Below w.heap.size w w') : NoTm w' P := by
  rcases h with h | ⟨p, e, h⟩
  · exact .inl h
  · exact .inr ⟨p, e, h.below hb⟩
section
variable {w : World} {P : Option Addr}
theorem nb_made {p : Nat} (h : Bk w 63 p zB) : Calls Try.prog 38 #[.pointer (some ⟨p, 0, none⟩)] w fun e w' => e = .returned (.bool false) ∧ w = w' := by
  have c0 := h.cell 0 (v := .int .i64 0) rfl
  go_enter Try.func38, Try.ntmps38
  go_wp2
  go_ret
  exact ⟨rfl, rfl⟩
theorem nb_size {p : Nat} (h : Bk w 63 p zB) : Calls Try.prog 35 #[.pointer (some ⟨p, 0, none⟩)] w fun e w' => e = .returned (.int .i64 0) ∧ w = w' := by
  go_enter Try.func35, Try.ntmps35
  go_wp2_with (go_at_call 38; refine (nb_made h).mono ?_; rintro e w' ⟨rfl, rfl⟩)
  go_ret
  exact ⟨rfl, rfl⟩
theorem no_made (h : NoTm w P) : Calls Try.prog 25 #[.pointer P] w fun e w' => e = .returned (.bool false) ∧ w = w' := by
  rcases h with rfl | ⟨p, rfl, h⟩
  · go_enter Try.func25, Try.ntmps25
    go_wp2
    go_ret
    exact ⟨rfl, rfl⟩
  · go_enter Try.func25, Try.ntmps25
    go_wp2_with fail
    refine (nb_size h).mono ?_
    rintro e w' ⟨rfl, rfl⟩
    go_wp2
    go_ret
    exact ⟨rfl, rfl⟩
theorem no_floor (h : NoTm w P) : Calls Try.prog 14 #[.pointer P] w fun e w' => e = .returned (.int .i64 0) ∧ w = w' := by
  go_enter Try.func14, Try.ntmps14
  go_wp2_with (go_at_call 25; refine (no_made h).mono ?_; rintro e w' ⟨rfl, rfl⟩)
  go_ret
  exact ⟨rfl, rfl⟩
theorem no_count (h : NoTm w P) : Calls Try.prog 17 #[.pointer P] w fun e w' => e = .returned (.int .i64 0) ∧ w = w' := by
  go_enter Try.func17, Try.ntmps17
  go_wp2_with (go_at_call 25; refine (no_made h).mono ?_; rintro e w' ⟨rfl, rfl⟩)
  go_ret
  exact ⟨rfl, rfl⟩
theorem no_closed (h : NoTm w P) (x : Int) : Calls Try.prog 15 #[.pointer P, .int .i64 x] w fun e w' => e = .returned (.bool false) ∧ w = w' := by
  go_enter Try.func15, Try.ntmps15
  go_wp2_with (go_at_call 25; refine (no_made h).mono ?_; rintro e w' ⟨rfl, rfl⟩)
  go_ret
  exact ⟨rfl, rfl⟩
theorem no_close (h : NoTm w P) (x : Int) : Calls Try.prog 11 #[.pointer P, .int .i64 x] w fun e w' => e = .returned (.tuple #[.bool false, .int .i64 4]) ∧ w = w' := by
  go_enter Try.func11, Try.ntmps11
  go_wp2_with (go_at_call 25; refine (no_made h).mono ?_; rintro e w' ⟨rfl, rfl⟩)
  go_ret2
  exact ⟨rfl, rfl⟩
theorem no_fork (h : NoTm w P) : Calls Try.prog 10 #[.pointer P] w fun e w' => e = .returned (.pointer none) ∧ w = w' := by
  go_enter Try.func10, Try.ntmps10
  go_wp2_with (go_at_call 25; refine (no_made h).mono ?_; rintro e w' ⟨rfl, rfl⟩)
  go_ret
  exact ⟨rfl, rfl⟩
theorem no_open (h : NoTm w P) (x : Int) : Calls Try.prog 21 #[.pointer P, .int .i64 x] w fun e w' => e = .returned (.slice none 0 0) ∧ w = w' := by
  go_enter Try.func21, Try.ntmps21
  go_wp2_with (go_at_call 25; refine (no_made h).mono ?_; rintro e w' ⟨rfl, rfl⟩)
  go_ret
  exact ⟨rfl, rfl⟩
set_option maxRecDepth 100000 in
set_option maxHeartbeats 1000000 in
theorem no_may (h : NoTm w P) (x : Int) : Calls Try.prog 16 #[.pointer P, .int .i64 x] w fun e w' => e = .returned (.bool false) ∧ Below w.heap.size w w' := by
  have hM := Lib.hid (fun n => no_made (h.below (Below.drewN_ w n)))
  clear h
  go_enter Try.func16, Try.ntmps16
  go_wp2
  go_quiet (exact (hM.out _).mono fun _ _ h => ⟨h.1, _, h.2.symm⟩)
  go_wp2
  go_ret
  exact ⟨rfl, Below.drewN_ _ _⟩
end
/-- Tombs that nobody made. -/
def zA : List Value := .int .i64 0 :: (List.replicate 8 zB).flatten
def NoTs (w : World) (P : Option Addr) : Prop := P = none ∨ ∃ p, P = some ⟨p, 0, none⟩ ∧ Bk w 68 p zA
theorem NoTs.below {w w' : World} {P : Option Addr} (h : NoTs w P) (hb : Below w.heap.size w w') : NoTs w' P := by
  rcases h with h | ⟨p, e, h⟩
  · exact .inl h
  · exact .inr ⟨p, e, h.below hb⟩
section
variable {w : World} {P : Option Addr}
theorem no_of (h : NoTs w P) : Calls Try.prog 19 #[.pointer P, .int .i64 0] w fun e w' => e = .returned (.pointer none) ∧ w = w' := by
  rcases h with rfl | ⟨p, rfl, h⟩
  · go_enter Try.func19, Try.ntmps19
    go_wp2
    go_ret
    exact ⟨rfl, rfl⟩
  · have c0 := h.cell 0 (v := .int .i64 0) rfl
    clear h
    go_enter Try.func19, Try.ntmps19
    go_wp2_with fail
    refine (from_any _ _ _ w).mono ?_
    rintro e w' ⟨rfl, rfl⟩
    rw [show inR 0 0 (-1) = false from rfl]
    go_wp2
    go_ret
    exact ⟨rfl, rfl⟩
theorem no_all (h : NoTs w P) : Calls Try.prog 20 #[.pointer P] w fun e w' => e = .returned (.int .i64 0) ∧ w = w' := by
  rcases h with rfl | ⟨p, rfl, h⟩
  · go_enter Try.func20, Try.ntmps20
    go_wp2
    go_ret
    exact ⟨rfl, rfl⟩
  · have c0 := h.cell 0 (v := .int .i64 0) rfl
    clear h
    go_enter Try.func20, Try.ntmps20
    go_wp2
    go_loopw [3, 11] (fun n i wr => n = .int .i64 0 ∧ i = .int .i64 0 ∧ wr = w) (fun _ _ _ => 0)
    case atStart => exact ⟨rfl, rfl, rfl⟩
    case round =>
      obtain ⟨rfl, rfl, rfl⟩ := hrel
      go_wp2
      go_ret
      exact ⟨rfl, rfl⟩
end
end Go.Proofs.Ytopmfpdcdclffaa
