/- The law's example at the head of each statement. -/
import Derived.Test.YtdepbdmnkkkjlaaDoorN16
set_option linter.unusedSimpArgs false
set_option linter.unusedVariables false
set_option maxRecDepth 100000
namespace Go.Proofs.YtdepbdmnkkkjlaaDoor
open Go.RowKit Go.Shelf Go.Maps Go.Sort
/-- New of no names. -/
theorem c_new0 (w : World) : Calls Tryd.prog 9 #[.slice none 0 0] w fun e w' => ∃ g b, e = .returned (.tuple #[.pointer (some ⟨g, 0, none⟩), num 0]) ∧ CtC w' g b [] ∧ w.heap.size ≤ g ∧ w.heap.size ≤ b ∧ Below w.heap.size w w' := by
  refine (c_new (w := w) (ns := []) (A := none) (n := 0) (c := 0) ⟨rfl, Nat.le_refl _, Nat.zero_le _, fun _ => rfl, by simp, fun h => absurd h (by omega)⟩ (by simp) (by simp)).mono ?_
  rintro e w' ⟨hb, (⟨h, _⟩ | ⟨m, hm, (⟨h, _⟩ | ⟨_, g, b, rfl, hct, h1, h2⟩)⟩)⟩
  · simp [newC] at h
  · simp at h
  · rw [newC] at hm
    injection hm with hm
    subst hm
    exact ⟨g, b, rfl, hct, h1, h2, hb⟩
def nAX : Nm := [97, 46, 120]
def nAY : Nm := [97, 46, 121]
def nAd : Nm := [97, 46]
def mA1 : List Cn := [⟨nAX, 2⟩]
def mA2 : List Cn := [⟨nAX, 2⟩, ⟨nAY, 3⟩]
theorem aw1 : add [] nAX 2 = (mA1, 0) := by decide
theorem aw2 : add mA1 nAY 3 = (mA2, 0) := by decide
theorem aw3 : total mA2 nAd = 5 := by decide
theorem aw4 : get mA2 nAY = 3 := by decide
theorem aw5 : add mA2 [65] 1 = (mA2, 1) := by decide
theorem aw6 : txt mA2 = [97, 46, 120, 32, 50, 10, 97, 46, 121, 32, 51, 10] := by
  have h2 : Lib.itoa 2 = [50] := by unfold Lib.itoa Lib.decDigits; decide
  have h3 : Lib.itoa 3 = [51] := by unfold Lib.itoa Lib.decDigits; decide
  simp [txt, mA2, line, h2, h3, nAX, nAY]
theorem did_below {w w1 w' : World} {g b : Nat} {m : List Cn} (h : Did w1 g b m w') (hb : Below w.heap.size w w1) (hge : w.heap.size ≤ b) : Below w.heap.size w w' := hb.trans (h.2.below hb.size fun j hj => by omega)
set_option maxHeartbeats 4000000 in
theorem l_awake {w : World} (ht : Tb w) : Calls Tryd.prog 11 #[] w fun e w' => e = .returned (.bool true) ∧ Below w.heap.size w w' := by
  have HT := Lib.hid ht
  have HN := Lib.hid (c_new0 w)
  clear ht
  go_enter Tryd.func11, Tryd.ntmps11
  go_wp2_with fail
  refine HN.out.mono ?_
  rintro e w1 ⟨g, b, rfl, hct, hg, hbb, hb1⟩
  have HA1 := Lib.hid (c_add hct (s := nAX) (n := 2) (by decide) (by decide))
  rw [aw1] at HA1
  have HB := Lib.hid (And.intro hb1 (And.intro hg hbb))
  clear hct hb1 hg hbb
  go_wp2_with fail
  refine HA1.out.mono ?_
  rintro e w2 ⟨rfl, hd⟩
  have HD2 := Lib.hid hd
  have HA2 := Lib.hid (c_add hd.1 (s := nAY) (n := 3) (by decide) (by decide))
  rw [aw2] at HA2
  clear hd
  go_wp2_with fail
  refine HA2.out.mono ?_
  rintro e w3 ⟨rfl, hd⟩
  have hb3 := did_below hd (did_below HD2.out HB.out.1 HB.out.2.2) HB.out.2.2
  have HD3 := Lib.hid (And.intro hd hb3)
  have HTo := Lib.hid (c_total hd.1 nAd)
  rw [aw3] at HTo
  clear hd hb3
  go_wp2_with fail
  refine HTo.out.mono ?_
  rintro e w4 ⟨rfl, hb4⟩
  have hct4 := HD3.out.1.1.below hb4
  have HTx := Lib.hid (c_text ((HT.out.below HD3.out.2).below hb4) hct4)
  rw [aw6] at HTx
  have H4 := Lib.hid (And.intro hct4 (below_on HD3.out.2 hb4))
  clear hct4 hb4
  go_wp2_with fail
  refine HTx.out.mono ?_
  rintro e w5 ⟨rfl, hb5⟩
  have hct5 := H4.out.1.below hb5
  have HGe := Lib.hid (c_get hct5 (s := nAY) (by decide))
  rw [aw4] at HGe
  have H5 := Lib.hid (And.intro hct5 (below_on H4.out.2 hb5))
  have HA3 := Lib.hid (c_add hct5 (s := [65]) (n := 1) (by decide) (by decide))
  rw [aw5] at HA3
  clear hct5 hb5
  go_wp2_with fail
  refine HGe.out.mono ?_
  rintro e w6 ⟨rfl, rfl⟩
  go_wp2_with fail
  refine HA3.out.mono ?_
  rintro e w7 ⟨rfl, hd⟩
  have hb7 := did_below hd H5.out.2 HB.out.2.2
  clear hd
  go_wp2
  go_ret
  exact ⟨rfl, hb7⟩
end Go.Proofs.YtdepbdmnkkkjlaaDoor
