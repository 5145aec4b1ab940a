/- Rings of int: made, asked. -/
import Derived.Test.YtgeihelpggncgaaRg0
import Derived.Deep.QuietTactic
import Derived.BigQuiet
set_option linter.unusedSimpArgs false
set_option linter.unusedVariables false
namespace Go.Proofs.Ytgeihelpggncgaa.Rgint
open Go.RowKit Go.Shelf

theorem elt : Elt Try.prog 27 3 (.int .i64 0) 8 := ⟨rfl, by kernel_rfl, rfl, rfl, by decide⟩

theorem made_any (p : Nat) (room : Nat) (l : Value) (w : World) (hp : Bk w 60 p [.int .i64 room, l]) (h0 : 0 < room) :
    Calls Try.prog 34 #[.pointer (some ⟨p, 0, none⟩)] w fun e w' => e = .returned (.bool true) ∧ w = w' := by
  go_enter Try.func34, Try.ntmps34
  have c0 := hp.cell 0 rfl
  go_wp2
  go_ret
  exact ⟨rfl, rfl⟩
theorem made_no (P : Option Addr) (w : World) (hp : NoRg 60 w P) :
    Calls Try.prog 34 #[.pointer P] w fun e w' => e = .returned (.bool false) ∧ w = w' := by
  rcases hp with rfl | ⟨p, rfl, hp⟩
  · go_enter Try.func34, Try.ntmps34
    go_wp2
    go_ret
    exact ⟨rfl, rfl⟩
  · go_enter Try.func34, Try.ntmps34
    have c0 := hp.cell 0 rfl
    go_wp2
    go_ret
    exact ⟨rfl, rfl⟩

theorem new_ok (room : Nat) (w : World) (h0 : 0 < room) (h1 : room ≤ 1024) :
    Calls Try.prog 7 #[.int .i64 room] w fun e w' => e = .returned (.tuple #[.pointer (some ⟨w.heap.size, 0, none⟩), .int .i64 0]) ∧ Rg 60 3 (· = w.heap.size) w' w.heap.size room [] ∧ Below w.heap.size w w' := by
  go_enter Try.func7, Try.ntmps7
  go_wp2
  go_ret2
  exact ⟨rfl, ⟨rfl, h0, h1, Nat.zero_le _, none, 0, 0, Bk.new w _ [.int .i64 room, .slice none 0 0], Lst.nil _ _ _, by simp, by simp⟩, (Below.refl _ _).alloc (Nat.le_refl _) _⟩
def badRoom (room : Int) : Bool := decide (room < 1 ∨ 1024 < room)
theorem new_bad (room : Int) (w : World) (h : badRoom room = true) :
    Calls Try.prog 7 #[.int .i64 room] w fun e w' => e = .returned (.tuple #[.pointer none, .int .i64 40]) ∧ w = w' := by
  unfold badRoom at h
  by_cases h1 : room < 1
  · clear h
    go_enter Try.func7, Try.ntmps7
    go_wp2
    go_ret2
    exact ⟨rfl, rfl⟩
  · have h2 : 1024 < room := by simp at h; omega
    clear h
    go_enter Try.func7, Try.ntmps7
    go_wp2
    go_ret2
    exact ⟨rfl, rfl⟩

theorem len_any (F : Nat → Prop) (p room : Nat) (vs : List Value) (w : World) (h : Rg 60 3 F w p room vs) :
    Calls Try.prog 13 #[.pointer (some ⟨p, 0, none⟩)] w fun e w' => e = .returned (.int .i64 vs.length) ∧ w = w' := by
  obtain ⟨h1, h2, h3, h4, A, n, c, h5, h6, h7, h8⟩ := h
  have c1 := h5.cell 1 rfl
  have HL := Lib.hid h6.1
  go_enter Try.func13, Try.ntmps13
  go_wp2_with fail
  refine (made_any p room _ w h5 h2).mono ?_
  rintro e w' ⟨rfl, rfl⟩
  go_wp2
  go_ret
  exact ⟨by rw [HL.out]; rfl, rfl⟩
theorem len_no (P : Option Addr) (w : World) (hp : NoRg 60 w P) :
    Calls Try.prog 13 #[.pointer P] w fun e w' => e = .returned (.int .i64 0) ∧ w = w' := by
  go_enter Try.func13, Try.ntmps13
  go_wp2_with fail
  refine (made_no P w hp).mono ?_
  rintro e w' ⟨rfl, rfl⟩
  go_wp2
  go_ret
  exact ⟨rfl, rfl⟩
theorem room_any (F : Nat → Prop) (p room : Nat) (vs : List Value) (w : World) (h : Rg 60 3 F w p room vs) :
    Calls Try.prog 14 #[.pointer (some ⟨p, 0, none⟩)] w fun e w' => e = .returned (.int .i64 (room - vs.length)) ∧ ∃ m, w' = w.drewN m := by
  obtain ⟨h1, h2, h3, h4, A, n, c, h5, h6, h7, h8⟩ := h
  have c0 := h5.cell 0 rfl
  have c1 := h5.cell 1 rfl
  have hl := h6.1
  have hn : n ≤ room := by omega
  have HL := Lib.hid hl
  clear hl h4
  go_enter Try.func14, Try.ntmps14
  go_wp2_with fail
  refine (made_any p room _ w h5 h2).mono ?_
  rintro e w' ⟨rfl, rfl⟩
  go_wp2
  go_quiet (fail)
  go_wp2
  go_ret
  exact ⟨by rw [HL.out]; rfl, _, rfl⟩
theorem room_no (P : Option Addr) (w : World) (hp : NoRg 60 w P) :
    Calls Try.prog 14 #[.pointer P] w fun e w' => e = .returned (.int .i64 0) ∧ w = w' := by
  go_enter Try.func14, Try.ntmps14
  go_wp2_with fail
  refine (made_no P w hp).mono ?_
  rintro e w' ⟨rfl, rfl⟩
  go_wp2
  go_ret
  exact ⟨rfl, rfl⟩
theorem peek_any (F : Nat → Prop) (p room : Nat) (vs : List Value) (w : World) (h : Rg 60 3 F w p room vs) (i : Nat) (hi : i < vs.length) :
    Calls Try.prog 26 #[.pointer (some ⟨p, 0, none⟩), .int .i64 i] w fun e w' => e = .returned (.tuple #[vs[i], .bool true]) ∧ w = w' := by
  have hlen := len_any F p room vs w h
  obtain ⟨h1, h2, h3, h4, A, n, c, h5, h6, h7, h8⟩ := h
  have c1 := h5.cell 1 rfl
  have hin : i < n := by rw [← h6.1]; exact hi
  have hnr : n ≤ 1024 := by have := h6.1; omega
  obtain ⟨g, o, rfl, hg, hc⟩ := h6.rdv.cell hin
  rw [List.getElem?_eq_getElem hi] at hc
  have hv1 : (decide (vs.length ≤ i)) = false := by simp; omega
  obtain ⟨x, hx⟩ : ∃ x, x = vs[i] := ⟨_, rfl⟩
  rw [← hx] at hc ⊢
  clear hx
  have HLen := Lib.hid hlen
  clear hlen
  go_enter Try.func26, Try.ntmps26
  go_wp2_with fail
  refine HLen.out.mono ?_
  rintro e w' ⟨rfl, rfl⟩
  go_wp2
  go_ret2
  exact ⟨rfl, rfl⟩
theorem peek_out (F : Nat → Prop) (p room : Nat) (vs : List Value) (w : World) (h : Rg 60 3 F w p room vs) (i : Int) (hi : 0 ≤ i → (vs.length : Int) ≤ i) :
    Calls Try.prog 26 #[.pointer (some ⟨p, 0, none⟩), .int .i64 i] w fun e w' => e = .returned (.tuple #[(.int .i64 0), .bool false]) ∧ w = w' := by
  have HLen := Lib.hid (len_any F p room vs w h)
  by_cases h0 : i < 0
  · clear hi
    go_enter Try.func26, Try.ntmps26
    go_wp2
    go_ret2
    exact ⟨rfl, rfl⟩
  · have h1 : 0 ≤ i := by omega
    have h2 := hi h1
    clear hi
    generalize hL : vs.length = L at *
    clear hL
    go_enter Try.func26, Try.ntmps26
    go_wp2_with fail
    refine HLen.out.mono ?_
    rintro e w' ⟨rfl, rfl⟩
    go_wp2
    go_ret2
    exact ⟨rfl, rfl⟩
theorem peek_no (P : Option Addr) (w : World) (hp : NoRg 60 w P) (i : Int) (h0 : 0 ≤ i) :
    Calls Try.prog 26 #[.pointer P, .int .i64 i] w fun e w' => e = .returned (.tuple #[(.int .i64 0), .bool false]) ∧ w = w' := by
  go_enter Try.func26, Try.ntmps26
  go_wp2_with fail
  refine (len_no P w hp).mono ?_
  rintro e w' ⟨rfl, rfl⟩
  go_wp2
  go_ret2
  exact ⟨rfl, rfl⟩
end Go.Proofs.Ytgeihelpggncgaa.Rgint
