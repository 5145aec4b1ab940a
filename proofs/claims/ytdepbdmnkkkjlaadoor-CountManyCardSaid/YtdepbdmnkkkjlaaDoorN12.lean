/- What each call tells, of an object and of nobody's. -/
import Derived.Test.YtdepbdmnkkkjlaaDoorN11
set_option linter.unusedSimpArgs false
set_option linter.unusedVariables false
set_option maxRecDepth 100000
namespace Go.Proofs.YtdepbdmnkkkjlaaDoor
open Go.RowKit Go.Shelf Go.Maps Go.Sort
section
variable {w w' : World} {g b : Nat} {m : List Cn} {A B : Option Addr}
theorem NoC.below (h : NoC w A) (hb : Below w.heap.size w w') : NoC w' A := fun ad e => by
  obtain ⟨g, e2, h2⟩ := h ad e
  exact ⟨g, e2, h2.below hb⟩
theorem c_total (h : CtC w g b m) (p : Nm) : Calls Tryd.prog 18 #[.pointer (some ⟨g, 0, none⟩), str p] w fun e w' => e = .returned (num (total m p)) ∧ Below w.heap.size w w' :=
  all_total h.ok p fun W g1 hW hb => all_gives OwnN 4 (by omega) (h.below hW) hb (fitN _)
theorem c_names (h : CtC w g b m) : Calls Tryd.prog 28 #[.pointer (some ⟨g, 0, none⟩)] w (Made 9 (m.map fun x => str x.s) w) :=
  all_names h.ok fun W g1 hW hq hb => all_gives (OwnS w.heap.size) 4 (by omega) (h.below hW) hb (fitS hq)
theorem c_text (ht : Tb w) (h : CtC w g b m) : Calls Tryd.prog 29 #[.pointer (some ⟨g, 0, none⟩)] w fun e w' => e = .returned (str (txt m)) ∧ Below w.heap.size w w' :=
  all_text ht h.ok fun W g1 hW hb => all_gives OwnT 4 (by omega) (h.below hW) hb (fitT _)
theorem n_total (h : NoC w A) (p : Nm) : Calls Tryd.prog 18 #[.pointer A, str p] w fun e w' => e = .returned (num 0) ∧ Below w.heap.size w w' :=
  all_total Ok.nil p fun W g1 hW hb => no_gives OwnN 4 (by omega) (h.below hW) hb
theorem n_names (h : NoC w A) : Calls Tryd.prog 28 #[.pointer A] w (Made 9 [] w) :=
  all_names Ok.nil fun W g1 hW hq hb => no_gives (OwnS w.heap.size) 4 (by omega) (h.below hW) hb
theorem n_text (ht : Tb w) (h : NoC w A) : Calls Tryd.prog 29 #[.pointer A] w fun e w' => e = .returned (str []) ∧ Below w.heap.size w w' :=
  all_text ht Ok.nil fun W g1 hW hb => no_gives OwnT 4 (by omega) (h.below hW) hb
theorem n_add (h : NoC w A) (s : Value) (n : Value) : Calls Tryd.prog 13 #[.pointer A, s, n] w fun e w' => e = .returned (num 4) ∧ w = w' := by
  have HM := Lib.hid (n_made h)
  go_enter Tryd.func13, Tryd.ntmps13
  go_wp2_with (go_at_call 33; refine HM.out.mono ?_; rintro e w' ⟨rfl, rfl⟩)
  go_ret
  exact ⟨rfl, rfl⟩
theorem n_get (h : NoC w A) (s : Value) : Calls Tryd.prog 16 #[.pointer A, s] w fun e w' => e = .returned (num 0) ∧ w = w' := by
  have HM := Lib.hid (n_made h)
  go_enter Tryd.func16, Tryd.ntmps16
  go_wp2_with (go_at_call 33; refine HM.out.mono ?_; rintro e w' ⟨rfl, rfl⟩)
  go_ret
  exact ⟨rfl, rfl⟩
theorem n_fork (h : NoC w A) : Calls Tryd.prog 23 #[.pointer A] w fun e w' => e = .returned (.pointer none) ∧ w = w' := by
  have HM := Lib.hid (n_made h)
  go_enter Tryd.func23, Tryd.ntmps23
  go_wp2_with (go_at_call 33; refine HM.out.mono ?_; rintro e w' ⟨rfl, rfl⟩)
  go_ret
  exact ⟨rfl, rfl⟩
/-- A pointer in a box. -/
theorem box1 (w : World) (A : Option Addr) : Below w.heap.size w (w.alloc (.cells #[.pointer A] 25)) ∧ Bk (w.alloc (.cells #[.pointer A] 25)) 25 w.heap.size [.pointer A] := ⟨(Below.refl _ w).alloc (Nat.le_refl _) _, Bk.new w _ _⟩
theorem n_merge1 (h : NoC w A) (B : Option Addr) : Calls Tryd.prog 24 #[.pointer A, .pointer B] w fun e w' => e = .returned (num 4) ∧ Below w.heap.size w w' := by
  obtain ⟨hb, hq⟩ := box1 w A
  have HM := Lib.hid (n_made (h.below hb))
  have c1 := hq.cell 0 rfl
  have HB := Lib.hid hb
  clear hb hq
  go_enter Tryd.func24, Tryd.ntmps24
  go_wp2_with (go_at_call 33; refine HM.out.mono ?_; rintro e w' ⟨rfl, rfl⟩)
  go_ret
  exact ⟨rfl, HB.out⟩
theorem n_merge2 (h : CtC w g b m) (hB : NoC w B) : Calls Tryd.prog 24 #[.pointer (some ⟨g, 0, none⟩), .pointer B] w fun e w' => e = .returned (num 4) ∧ Below w.heap.size w w' := by
  obtain ⟨hb, hq⟩ := box1 w (some ⟨g, 0, none⟩)
  have HM := Lib.hid (c_made (h.below hb))
  have HM2 := Lib.hid (n_made (hB.below hb))
  have c1 := hq.cell 0 rfl
  have HBb := Lib.hid hb
  clear hb hq
  go_enter Tryd.func24, Tryd.ntmps24
  go_wp2_with fail
  refine HM.out.mono ?_
  rintro e w' ⟨rfl, rfl⟩
  go_wp2_with fail
  refine HM2.out.mono ?_
  rintro e w' ⟨rfl, rfl⟩
  go_wp2
  go_ret
  exact ⟨rfl, HBb.out⟩
theorem n_since1 (h : NoC w A) (B : Option Addr) : Calls Tryd.prog 26 #[.pointer A, .pointer B] w fun e w' => e = .returned (.pointer none) ∧ Below w.heap.size w w' := by
  obtain ⟨hb, hq⟩ := box1 w B
  have HM := Lib.hid (n_made (h.below hb))
  have c1 := hq.cell 0 rfl
  have HB := Lib.hid hb
  clear hb hq
  go_enter Tryd.func26, Tryd.ntmps26
  go_wp2_with (go_at_call 33; refine HM.out.mono ?_; rintro e w' ⟨rfl, rfl⟩)
  go_ret
  exact ⟨rfl, HB.out⟩
theorem n_since2 (h : CtC w g b m) (hB : NoC w B) : Calls Tryd.prog 26 #[.pointer (some ⟨g, 0, none⟩), .pointer B] w fun e w' => e = .returned (.pointer none) ∧ Below w.heap.size w w' := by
  obtain ⟨hb, hq⟩ := box1 w B
  have HM := Lib.hid (c_made (h.below hb))
  have HM2 := Lib.hid (n_made (hB.below hb))
  have c1 := hq.cell 0 rfl
  have HBb := Lib.hid hb
  clear hb hq
  go_enter Tryd.func26, Tryd.ntmps26
  go_wp2_with fail
  refine HM.out.mono ?_
  rintro e w' ⟨rfl, rfl⟩
  go_wp2_with fail
  refine HM2.out.mono ?_
  rintro e w' ⟨rfl, rfl⟩
  go_wp2
  go_ret
  exact ⟨rfl, HBb.out⟩
end
end Go.Proofs.YtdepbdmnkkkjlaaDoor
