/- A Join: made; asked; reset. -/
import Derived.Test.YtmmjhijgedboiaaJ1
set_option linter.unusedSimpArgs false
set_option linter.unusedVariables false
set_option maxRecDepth 100000
namespace Go.Proofs.Ytmmjhijgedboiaa
open Go.RowKit Go.Shelf
section
variable {F : Nat → Prop} {w : World} {g : Nat} {m : Jm} {A : Option Addr} {n c : Nat}
theorem j_made (h : JnC F w g m) : Calls Try.prog 70 #[.pointer (some ⟨g, 0, none⟩)] w fun e w' => e = .returned (.bool true) ∧ w = w' := by
  obtain ⟨A, n, c, h⟩ := h
  have c4 := h.bk.cell 4 rfl
  go_enter Try.func70, Try.ntmps70
  go_wp2
  go_ret
  exact ⟨rfl, rfl⟩
/-- What fits. -/
def fitV (m : Jm) (x : Int) : Bool := decide (1 ≤ x ∧ x ≤ 65536 - m.op)
theorem j_fits (h : JnC F w g m) (x : Int) : Calls Try.prog 71 #[.pointer (some ⟨g, 0, none⟩), .int .i64 x] w fun e w' => e = .returned (.bool (fitV m x)) ∧ w = w' := by
  have HM := Lib.hid (j_made h)
  obtain ⟨A, n, c, h⟩ := h
  have c0 := h.bk.cell 0 rfl
  have hle := h.le
  by_cases h1 : 1 ≤ x
  · by_cases h2 : x ≤ 65536 - m.op
    · have HV : Hid (fitV m x = true) := Lib.hid (by simp [fitV]; omega)
      go_enter Try.func71, Try.ntmps71
      go_wp2_with (go_at_call 70; refine HM.out.mono ?_; rintro e w' ⟨rfl, rfl⟩)
      go_ret
      exact ⟨by rw [HV.out]; first | rfl | (simp; omega), rfl⟩
    · have HV : Hid (fitV m x = false) := Lib.hid (by simp [fitV]; omega)
      go_enter Try.func71, Try.ntmps71
      go_wp2_with (go_at_call 70; refine HM.out.mono ?_; rintro e w' ⟨rfl, rfl⟩)
      go_ret
      exact ⟨by rw [HV.out]; first | rfl | (simp; omega), rfl⟩
  · have HV : Hid (fitV m x = false) := Lib.hid (by simp [fitV]; omega)
    go_enter Try.func71, Try.ntmps71
    go_wp2_with (go_at_call 70; refine HM.out.mono ?_; rintro e w' ⟨rfl, rfl⟩)
    go_ret
    exact ⟨by rw [HV.out]; first | rfl | (simp; omega), rfl⟩
/-- Two stores into the box: nothing is open. -/
theorem JnA.wipe (h : JnA F w g m A n c) : JnA F ((w.setCell ⟨g, 3, none⟩ (.slice none 0 0)).setCell ⟨g, 0, none⟩ (.int .i64 0)) g ⟨[], m.N, m.T⟩ none 0 0 ∧
    St (· = g) w ((w.setCell ⟨g, 3, none⟩ (.slice none 0 0)).setCell ⟨g, 0, none⟩ (.int .i64 0)) :=
  ⟨⟨(h.bk.set 3 _).set 0 _, Pts.nil _ _, h.fg, fun k hk => by have := h.lt k hk; simpa [World.setCell] using this, by simp [Jm.op]⟩,
    (St.setCell (F := (· = g)) w (a := ⟨g, 3, none⟩) rfl _).trans (St.setCell (F := (· = g)) _ (a := ⟨g, 0, none⟩) rfl _) (Gr.refl _ _)⟩
theorem j_reset (h : JnC F w g m) : Calls Try.prog 69 #[.pointer (some ⟨g, 0, none⟩)] w fun e w' => e = .returned (.int .i64 m.op) ∧ JnA F w' g ⟨[], m.N, m.T⟩ none 0 0 ∧ St (· = g) w w' := by
  have HM := Lib.hid (j_made h)
  obtain ⟨A, n, c, h⟩ := h
  have c0 := h.bk.cell 0 rfl
  have c3 := h.bk.cell 3 rfl
  have f0 := h.bk.free 0
  have f3 := h.bk.free 3
  have HH := Lib.hid h
  clear h
  go_enter Try.func69, Try.ntmps69
  go_wp2_with (go_at_call 70; refine HM.out.mono ?_; rintro e w' ⟨rfl, rfl⟩)
  go_ret
  exact ⟨rfl, HH.out.wipe⟩
end
theorem j_new (w : World) : Calls Try.prog 52 #[] w fun e w' => e = .returned (.pointer (some ⟨w.heap.size, 0, none⟩)) ∧ JnA (· = w.heap.size) w' w.heap.size ⟨[], 0, 0⟩ none 0 0 ∧ Below w.heap.size w w' := by
  have hz := Bk.new w 130 [.int .i64 0, .int .i64 0, .int .i64 0, .slice none 0 0, .bool true]
  go_enter Try.func52, Try.ntmps52
  go_wp2
  go_ret
  exact ⟨rfl, ⟨hz, Pts.nil _ _, rfl, fun k hk => by subst hk; simp, by simp [Jm.op]⟩, (Below.refl _ _).alloc (Nat.le_refl _) _⟩
end Go.Proofs.Ytmmjhijgedboiaa
