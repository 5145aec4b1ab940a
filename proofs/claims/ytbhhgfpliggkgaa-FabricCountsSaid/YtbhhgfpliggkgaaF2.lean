/- Fabrics asked: which port, is there one, how many packets. -/
import Derived.Test.YtbhhgfpliggkgaaF1
set_option linter.unusedSimpArgs false
set_option linter.unusedVariables false
set_option maxRecDepth 100000
namespace Go.Proofs.Ytbhhgfpliggkgaa
open Go.RowKit Go.Shelf

/-- What a pointer to a fabric, or none, leads to. -/
def FbP (F X : Nat → Prop) (w : World) (P : Option Addr) (m : FM) (pp : Nat → Nat) (FF : Nat → Nat → Prop) : Prop := (P = none ∧ m = FM.nobody) ∨ ∃ b, P = some ⟨b, 0, none⟩ ∧ FbC F X w b m pp FF
def inB (p h : Int) : Bool := decide (0 ≤ p ∧ p < 8 ∧ 0 ≤ h ∧ h < 8)
def ix (p h : Int) : Nat := p.toNat * 8 + h.toNat
def FM.port (m : FM) (p h : Int) : Option AM := if inB p h = true then m.pt (ix p h) else none
def FM.addr (m : FM) (pp : Nat → Nat) (p h : Int) : Option Addr := (m.port p h).map fun _ => ⟨pp (ix p h), 0, none⟩
def FM.lows (m : FM) (p h : Int) : List Pk := match m.port p h with | none => [] | some a => a.low
def FM.highs (m : FM) (p h : Int) : List Pk := match m.port p h with | none => [] | some a => a.high
theorem ix_lt {p h : Int} (hi : inB p h = true) : ix p h < 64 := by
  simp only [inB, decide_eq_true_eq] at hi
  unfold ix; omega
section
variable {F X F1 X1 G : Nat → Prop} {w w' w1 : World} {P : Option Addr} {m m1 : FM} {pp : Nat → Nat} {FF : Nat → Nat → Prop} {k : Nat} {a c : AM}
theorem FbC.fp {b : Nat} (h : FbC F X w b m pp FF) : FbP F X w (some ⟨b, 0, none⟩) m pp FF := .inr ⟨b, rfl, h⟩
theorem FbP.below (h : FbP F X w P m pp FF) (hb : Below w.heap.size w w') : FbP F X w' P m pp FF := by
  rcases h with h | ⟨b, h, h'⟩
  · exact .inl h
  · exact .inr ⟨b, h, h'.below hb⟩
theorem FM.port_pt {p h : Int} (hp : m.port p h = some a) : m.pt (ix p h) = some a := by
  unfold FM.port at hp
  split at hp
  · exact hp
  · cases hp
theorem FbP.pt (h : FbP F X w P m pp FF) {p q : Int} (hp : m.port p q = some a) : Pb (FF (ix p q)) (fun j => F j ∨ X j) w (pp (ix p q)) a := by
  rcases h with ⟨_, rfl⟩ | ⟨b, _, h⟩
  · have := FM.port_pt hp; cases this
  · exact h.pt _ _ (FM.port_pt hp)
theorem f_at (h : FbP F X w P m pp FF) (p q : Int) :
    Calls Try.prog 34 #[.pointer P, .int .i64 p, .int .i64 q] w fun e w' => e = .returned (.pointer (m.addr pp p q)) ∧ w = w' := by
  rcases h with ⟨rfl, rfl⟩ | ⟨b, rfl, h⟩
  · have e : FM.nobody.addr pp p q = none := by
      unfold FM.addr FM.port
      split <;> rfl
    rw [e]
    go_enter Try.func34, Try.ntmps34
    go_wp2
    go_ret
    exact ⟨rfl, rfl⟩
  · by_cases hi : inB p q = true
    · have e : m.addr pp p q = (m.pt (ix p q)).map fun _ => ⟨pp (ix p q), 0, none⟩ := by unfold FM.addr FM.port; rw [if_pos hi]
      have hc := h.bk.cell _ (m.mem_pt pp (ix_lt hi))
      rw [← e] at hc
      clear h e
      generalize m.addr pp p q = A at *
      simp only [inB, decide_eq_true_eq] at hi
      obtain ⟨i, rfl⟩ := Int.eq_ofNat_of_zero_le (show 0 ≤ p by omega)
      obtain ⟨j, rfl⟩ := Int.eq_ofNat_of_zero_le (show 0 ≤ q by omega)
      simp only [ix, Int.toNat_natCast] at hc
      have hi1 : i < 8 := by omega
      have hj1 : j < 8 := by omega
      have hi2 : (i : Int) < 8 := by omega
      have hj2 : (j : Int) < 8 := by omega
      clear hi
      go_enter Try.func34, Try.ntmps34
      go_wp2
      go_ret
      exact ⟨rfl, rfl⟩
    · have e : m.addr pp p q = none := by unfold FM.addr FM.port; rw [if_neg hi]; rfl
      rw [e]
      simp only [inB, decide_eq_true_eq] at hi
      rcases (by omega : p < 0 ∨ 0 ≤ p ∧ 8 ≤ p ∨ 0 ≤ p ∧ p < 8 ∧ q < 0 ∨ 0 ≤ p ∧ p < 8 ∧ 0 ≤ q ∧ 8 ≤ q) with h0 | ⟨h0, h1⟩ | ⟨h0, h1, h2⟩ | ⟨h0, h1, h2, h3⟩
      all_goals
        clear hi h e
        go_enter Try.func34, Try.ntmps34
        go_wp2
        go_ret
        exact ⟨rfl, rfl⟩
theorem f_made (h : FbP F X w P m pp FF) :
    Calls Try.prog 30 #[.pointer P] w fun e w' => e = .returned (.bool (m.pt 0).isSome) ∧ w = w' := by
  have HA := Lib.hid (f_at h 0 0)
  clear h
  have e : m.addr pp 0 0 = (m.pt 0).map fun _ => ⟨pp 0, 0, none⟩ := rfl
  rw [e] at HA
  clear e
  cases h0 : m.pt 0 with
  | none =>
    rw [h0] at HA
    go_enter Try.func30, Try.ntmps30
    go_wp2_with fail
    refine HA.out.mono ?_
    rintro e w' ⟨rfl, rfl⟩
    go_wp2
    go_ret
    exact ⟨rfl, rfl⟩
  | some a =>
    rw [h0] at HA
    go_enter Try.func30, Try.ntmps30
    go_wp2_with fail
    refine HA.out.mono ?_
    rintro e w' ⟨rfl, rfl⟩
    go_wp2
    go_ret
    exact ⟨rfl, rfl⟩
theorem f_lens (h : FbP F X w P m pp FF) (p q : Int) :
    Calls Try.prog 16 #[.pointer P, .int .i64 p, .int .i64 q] w fun e w' => e = .returned (.tuple #[.int .i64 (m.lows p q).length, .int .i64 (m.highs p q).length]) ∧ Below w.heap.size w w' := by
  have HA := Lib.hid (f_at h p q)
  have HL : Hid (Calls Try.prog 38 #[.pointer (m.addr pp p q)] w fun e w' => e = .returned (.tuple #[.int .i64 (m.lows p q).length, .int .i64 (m.highs p q).length]) ∧ Below w.heap.size w w') := Lib.hid (by
    cases hp : m.port p q with
    | none =>
      have e1 : m.addr pp p q = none := by unfold FM.addr; rw [hp]; rfl
      have e2 : m.lows p q = [] := by unfold FM.lows; rw [hp]
      have e3 : m.highs p q = [] := by unfold FM.highs; rw [hp]
      rw [e1, e2, e3]
      exact (n_lens (.inl rfl)).mono fun e w' hh => ⟨hh.1, hh.2 ▸ Below.refl _ _⟩
    | some a =>
      have e1 : m.addr pp p q = some ⟨pp (ix p q), 0, none⟩ := by unfold FM.addr; rw [hp]; rfl
      have e2 : m.lows p q = a.low := by unfold FM.lows; rw [hp]
      have e3 : m.highs p q = a.high := by unfold FM.highs; rw [hp]
      rw [e1, e2, e3]
      obtain ⟨_, _, _, _, _, _, hh⟩ := h.pt hp
      exact pt_lens hh)
  clear h
  generalize ((m.lows p q).length : Int) = L at *
  generalize ((m.highs p q).length : Int) = H at *
  generalize m.addr pp p q = A at *
  go_enter Try.func16, Try.ntmps16
  go_wp2_with fail
  refine HA.out.mono ?_
  rintro e w' ⟨rfl, rfl⟩
  go_wp2_with fail
  refine HL.out.mono ?_
  rintro e w' ⟨rfl, hb⟩
  have HB := Lib.hid hb
  clear hb
  go_wp2
  go_ret2
  exact ⟨rfl, HB.out⟩
end
end Go.Proofs.Ytbhhgfpliggkgaa
