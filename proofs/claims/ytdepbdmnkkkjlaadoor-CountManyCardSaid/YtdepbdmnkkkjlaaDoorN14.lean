/- The document's counters: a name's place, its number, two numbers together. -/
import Derived.Test.YtdepbdmnkkkjlaaDoorN13
set_option linter.unusedSimpArgs false
set_option linter.unusedVariables false
set_option maxRecDepth 100000
namespace Go.Proofs.YtdepbdmnkkkjlaaDoor
open Go.RowKit Go.Shelf Go.Maps Go.Sort
def Cn.cl (x : Cn) : List Value := [str x.s, num x.n]
theorem Cn.cl_len (x : Cn) : x.cl.length = 2 := rfl
theorem Cn.cl_one (x : Cn) : ∀ v ∈ x.cl, v.oneCell' = true := by
  intro v hv
  simp only [Cn.cl, List.mem_cons, List.not_mem_nil, or_false] at hv
  rcases hv with rfl | rfl <;> rfl
def zsO : List Value := [str [], num 0]
theorem eltO : EltS Tryd.prog 29 54 zsO 24 := ⟨rfl, by kernel_rfl, by intro v hv; exact Cn.cl_one ⟨[], 0⟩ v hv, by decide, by decide, ⟨_, rfl, by decide⟩, by decide⟩
theorem rowO : Row Tryd.prog 54 2 := eltO.row
theorem rowC : Row Tryd.prog 31 1 := ⟨⟨_, rfl, by decide⟩, by kernel_rfl⟩
/-- A slice reads as the counters m. -/
def RvL (w : World) (A : Option Addr) (n c : Nat) (m : List Cn) : Prop := n = m.length ∧ RdR 2 w A n c (flat Cn.cl m)
section
variable {w w' : World} {A : Option Addr} {n c b : Nat} {m : List Cn}
theorem RvL.below (h : RvL w A n c m) (hb : Below w.heap.size w w') : RvL w' A n c m := ⟨h.1, h.2.below hb⟩
theorem RvL.row (h : RvL w A n c m) {i : Nat} (hi : i < m.length) : ∃ g o, A = some ⟨g, o, none⟩ ∧ g < w.heap.size ∧ w.cell? ⟨g, o + i * 2, none⟩ = some (str m[i].s) ∧ w.cell? ⟨g, o + i * 2 + 1, none⟩ = some (num m[i].n) := by
  obtain ⟨g, o, hA, hg, hr⟩ := h.2.range (i := i) (by rw [h.1]; exact hi)
  rw [flat_row Cn.cl_len m i hi] at hr
  exact ⟨g, o, hA, hg, hr 0 _ rfl, hr 1 _ rfl⟩
theorem RvL.st (h : RvL w A n c m) (hm : ∃ m', MpN w b m') (hs : St (· = b) w w') : RvL w' A n c m := by
  refine ⟨h.1, h.2.st hs fun hn ad he e => ?_⟩
  obtain ⟨g, o, hA, hg, hc, _⟩ := h.row (i := 0) (by have := h.1; omega)
  obtain ⟨m', es, clock, hb, _⟩ := hm
  rw [hA] at he
  injection he with he
  subst he
  simp only at e
  subst e
  simp [World.cell?, hb] at hc
end
theorem plc_of {m : List Cn} {s : Nm} : ∀ {k : Nat}, k ≤ m.length → (∀ x ∈ m.take k, x.s < s) → (∀ x, m[k]? = some x → ¬ x.s < s) → plc m s = k := by
  induction m with
  | nil => intro k hk _ _; simp at hk; subst hk; rfl
  | cons y l ih =>
    intro k hk h1 h2
    cases k with
    | zero =>
      have := h2 y rfl
      simp [plc, this]
    | succ k =>
      have hy := h1 y (by simp)
      have := ih (k := k) (by simpa using hk) (fun x hx => h1 x (by simp [hx])) (fun x hx => h2 x (by simpa using hx))
      simp only [plc] at this ⊢
      rw [List.takeWhile_cons, if_pos (by simpa using hy), List.length_cons, this]
theorem at_of {m : List Cn} {s : Nm} {k : Nat} (h : plc m s = k) : at' m s = match m[k]? with | some x => decide (x.s = s) | none => false := by
  unfold at'
  rw [h]
  rfl
theorem look_plc {m : List Cn} (hm : Srt m) (s : Nm) : look m s = if at' m s then (m[plc m s]?).map (·.n) else none := by
  induction m with
  | nil => simp [look, at', plc]
  | cons y l ih =>
    obtain ⟨h1, h2⟩ := List.pairwise_cons.1 hm
    by_cases h : y.s < s
    · have e : plc (y :: l) s = plc l s + 1 := by simp [plc, h]
      have e2 : at' (y :: l) s = at' l s := by simp [at', e]
      rw [look, if_neg (nm_ne h), ih h2, e2, e]
      simp
    · have e : plc (y :: l) s = 0 := by simp [plc, h]
      by_cases he : y.s = s
      · rw [look, if_pos he, e]
        simp [at', e, he]
      · have hlt : s < y.s := by
          rcases nm_tri y.s s with h' | h' | h'
          · exact absurd h' h
          · exact absurd h' he
          · exact h'
        rw [look_none]
        · simp [at', e, he]
        · intro x hx e'
          rcases List.mem_cons.1 hx with rfl | hx
          · exact he e'
          · exact nm_irr s (by have := nm_trans hlt (h1 x hx); rw [e'] at this; exact this)
theorem get_plc {m : List Cn} (hm : Srt m) (s : Nm) {x : Cn} (hx : m[plc m s]? = some x) : get m s = if at' m s then x.n else 0 := by
  unfold get
  rw [look_plc hm, hx]
  cases at' m s <;> rfl
def Shrt (m : List Cn) : Prop := ∀ x ∈ m, x.s.length ≤ 1000000
theorem Ok.shrt {m : List Cn} (h : Ok m) : Shrt m := fun x hx => by
  have := (h.all x hx).1
  simp only [good, Bool.and_eq_true, decide_eq_true_eq] at this
  omega
theorem str_beq (a b : Nm) : (a == b) = decide (a = b) := by
  rw [Bool.eq_iff_iff]
  simp
set_option maxHeartbeats 4000000 in
theorem r_place {w : World} {A : Option Addr} {n c : Nat} {m : List Cn} (h : RvL w A n c m) (hsh : Shrt m) (hn : m.length ≤ 1000000) {s : Nm} (hs : s.length ≤ 1000000) :
    Calls Tryd.prog 31 #[.agg #[.slice A n c], str s] w fun e w' => e = .returned (.tuple #[num (plc m s), .bool (at' m s)]) ∧ Below w.heap.size w w' := by
  have hb1 : Below w.heap.size w (w.alloc (.cells #[.slice A n c] 31)) := (Below.refl _ w).alloc (Nat.le_refl _) _
  have q1 := Bk.new w 31 [.slice A n c]
  have HQ := Lib.hid (And.intro hb1 (And.intro q1 (h.below hb1)))
  have hnm : n = m.length := h.1
  subst hnm
  have hsz : (w.alloc (.cells #[.slice A m.length c] 31)).heap.size = w.heap.size + 1 := by simp
  clear hb1 q1 h
  go_enter Tryd.func31, Tryd.ntmps31
  go_wp2
  generalize (w.alloc (.cells #[.slice A m.length c] 31)) = W1 at *
  go_loopw [6] (fun i wr => ∃ k : Nat, i = .int .i64 (k : Nat) ∧ k ≤ m.length ∧ (∀ x ∈ m.take k, x.s < s) ∧ Below W1.heap.size W1 wr) (fun i _ => m.length - (intOf i).toNat)
  case atStart => exact ⟨0, rfl, by omega, by simp, Below.refl _ _⟩
  case round =>
    obtain ⟨k, rfl, hk, hall, hbw⟩ := hrel
    have HB := Lib.hid (And.intro hall hbw)
    have c0 := (HQ.out.2.1.below hbw).cell 0 rfl
    by_cases hlt : k < m.length
    · obtain ⟨g, o, hA, hg, k1, k2⟩ := (HQ.out.2.2.below hbw).row hlt
      subst hA
      have HRW := Lib.hid (HQ.out.2.2.below hbw)
      have hlt' : (k : Int) < m.length := by omega
      have HL := Lib.hid (r_less m[k].s s (hsh _ (List.getElem_mem hlt)) hs wr)
      have HT : Hid (m.take (k + 1) = m.take k ++ [m[k]]) := Lib.hid (List.take_succ_eq_append_getElem hlt)
      have HE : Hid (m[k]? = some m[k]) := Lib.hid (List.getElem?_eq_getElem hlt)
      generalize m[k] = x at *
      have HG := Lib.hid hg
      clear hall hbw hg k2
      by_cases hx : x.s < s
      · rw [decide_eq_true hx] at HL
        go_wp2_with (go_at_call 47; refine HL.out.mono ?_; rintro e w2 ⟨rfl, hb2⟩; have HB2 := Lib.hid hb2; clear hb2)
        go_roundw
        case rel =>
          refine ⟨k + 1, by go_num, by omega, fun y hy => ?_, below_on HB.out.2 HB2.out⟩
          rw [HT.out] at hy
          rcases List.mem_append.1 hy with hy | hy
          · exact HB.out.1 y hy
          · simp at hy; subst hy; exact hx
        case measure => simp [intOf]; omega
      · rw [decide_eq_false hx] at HL
        have HP : Hid (plc m s = k) := Lib.hid (plc_of (by omega) HB.out.1 fun y hy => by rw [HE.out] at hy; injection hy with hy; subst hy; exact hx)
        have HA : Hid (at' m s = (x.s == s)) := Lib.hid (by rw [at_of HP.out, HE.out, str_beq])
        go_wp2_with (go_at_call 47; refine HL.out.mono ?_; rintro e w2 ⟨rfl, hb2⟩; have HB2 := Lib.hid (below_on HB.out.2 hb2); have HC2 := Lib.hid hb2; clear hb2)
        have hd : decide ((k : Int) < m.length) = true := decide_eq_true hlt'
        have HK1 := Lib.hid k1
        clear c0 k1
        refine wp_region_E Ext (by kernel_rfl) (fun wd hbd hsz => ?_)
        have HWD := Lib.hid (below_on HB2.out hbd)
        have q0 : ∀ W, Ext wd W → W.cell? ⟨w.heap.size, 0, none⟩ = some (.slice (some ⟨g, o, none⟩) m.length c) := fun W hW => ((HQ.out.2.1.below HWD.out).below hW).cell 0 rfl
        have q1 : ∀ W, Ext wd W → W.cell? ⟨g, o + k * 2, none⟩ = some (str x.s) := fun W hW => ((below_on (below_on HC2.out hbd) hW).cell HG.out).trans HK1.out
        clear hsz
        (refine takeE Ext.tr 0 (by simp only [List.getElem?_toArray, List.getElem?_cons_succ, List.getElem?_cons_zero]; rfl) (by kernel_rfl) (by kernel_rfl) (by kernel_rfl) (by exact fun _ _ _ h => h) (by first | (refine Or.inl ⟨by rfl, ?_⟩; intro W hW; go_simp; try with_reducible rfl) | exact Or.inr ⟨by rfl, rfl⟩) ?_; try simp only [Act.put, List.setIfInBounds_toArray, List.set_cons_zero, List.set_cons_succ])
        (refine takeE Ext.tr 1 (by simp only [List.getElem?_toArray, List.getElem?_cons_succ, List.getElem?_cons_zero]; rfl) (by kernel_rfl) (by kernel_rfl) (by kernel_rfl) (by exact fun _ _ _ h => h) (by first | (refine Or.inl ⟨by rfl, ?_⟩; intro W hW; go_simp; try with_reducible rfl) | exact Or.inr ⟨by rfl, rfl⟩) ?_; try simp only [Act.put, List.setIfInBounds_toArray, List.set_cons_zero, List.set_cons_succ])
        (refine takeE Ext.tr 2 (by simp only [List.getElem?_toArray, List.getElem?_cons_succ, List.getElem?_cons_zero]; rfl) (by kernel_rfl) (by kernel_rfl) (by kernel_rfl) (by exact fun _ _ _ h => h) (by first | (refine Or.inl ⟨by rfl, ?_⟩; intro W hW; go_simp; try with_reducible rfl) | exact Or.inr ⟨by rfl, rfl⟩) ?_; try simp only [Act.put, List.setIfInBounds_toArray, List.set_cons_zero, List.set_cons_succ])
        (refine takeE Ext.tr 3 (by simp only [List.getElem?_toArray, List.getElem?_cons_succ, List.getElem?_cons_zero]; rfl) (by kernel_rfl) (by kernel_rfl) (by kernel_rfl) (by exact fun _ _ _ h => h) (by first | (refine Or.inl ⟨by rfl, ?_⟩; intro W hW; go_simp; try with_reducible rfl) | exact Or.inr ⟨by rfl, rfl⟩) ?_; try simp only [Act.put, List.setIfInBounds_toArray, List.set_cons_zero, List.set_cons_succ])
        (refine takeE Ext.tr 4 (by simp only [List.getElem?_toArray, List.getElem?_cons_succ, List.getElem?_cons_zero]; rfl) (by kernel_rfl) (by kernel_rfl) (by kernel_rfl) (by exact fun _ _ _ h => h) (by first | (refine Or.inl ⟨by rfl, ?_⟩; intro W hW; go_simp; try with_reducible rfl) | exact Or.inr ⟨by rfl, rfl⟩) ?_; try simp only [Act.put, List.setIfInBounds_toArray, List.set_cons_zero, List.set_cons_succ])
        (refine takeE Ext.tr 5 (by simp only [List.getElem?_toArray, List.getElem?_cons_succ, List.getElem?_cons_zero]; rfl) (by kernel_rfl) (by kernel_rfl) (by kernel_rfl) (by exact fun _ _ _ h => h) (by first | (refine Or.inl ⟨by rfl, ?_⟩; intro W hW; go_simp; try with_reducible rfl) | exact Or.inr ⟨by rfl, rfl⟩) ?_; try simp only [Act.put, List.setIfInBounds_toArray, List.set_cons_zero, List.set_cons_succ])
        (refine takeE Ext.tr 6 (by simp only [List.getElem?_toArray, List.getElem?_cons_succ, List.getElem?_cons_zero]; rfl) (by kernel_rfl) (by kernel_rfl) (by kernel_rfl) (by exact fun _ _ _ h => h) (by first | (refine Or.inl ⟨by rfl, ?_⟩; intro W hW; go_simp; try with_reducible rfl) | exact Or.inr ⟨by rfl, rfl⟩) ?_; try simp only [Act.put, List.setIfInBounds_toArray, List.set_cons_zero, List.set_cons_succ])
        (refine takeE Ext.tr 7 (by simp only [List.getElem?_toArray, List.getElem?_cons_succ, List.getElem?_cons_zero]; rfl) (by kernel_rfl) (by kernel_rfl) (by kernel_rfl) (by exact fun _ _ _ h => h) (by first | (refine Or.inl ⟨by rfl, ?_⟩; intro W hW; go_simp; try with_reducible rfl) | exact Or.inr ⟨by rfl, rfl⟩) ?_; try simp only [Act.put, List.setIfInBounds_toArray, List.set_cons_zero, List.set_cons_succ])
        (refine takeE Ext.tr 9 (by simp only [List.getElem?_toArray, List.getElem?_cons_succ, List.getElem?_cons_zero]; rfl) (by kernel_rfl) (by kernel_rfl) (by kernel_rfl) (by exact fun _ _ _ h => h) (by first | (refine Or.inl ⟨by rfl, ?_⟩; intro W hW; go_simp; try with_reducible rfl) | exact Or.inr ⟨by rfl, rfl⟩) ?_; try simp only [Act.put, List.setIfInBounds_toArray, List.set_cons_zero, List.set_cons_succ])
        (refine takeE Ext.tr 13 (by simp only [List.getElem?_toArray, List.getElem?_cons_succ, List.getElem?_cons_zero]; rfl) (by kernel_rfl) (by kernel_rfl) (by kernel_rfl) (by exact fun _ _ _ h => h) (by first | (refine Or.inl ⟨by rfl, ?_⟩; intro W hW; go_simp; try with_reducible rfl) | exact Or.inr ⟨by rfl, rfl⟩) ?_; try simp only [Act.put, List.setIfInBounds_toArray, List.set_cons_zero, List.set_cons_succ])
        (refine takeE Ext.tr 16 (by simp only [List.getElem?_toArray, List.getElem?_cons_succ, List.getElem?_cons_zero]; rfl) (by kernel_rfl) (by kernel_rfl) (by kernel_rfl) (by exact fun _ _ _ h => h) (by first | (refine Or.inl ⟨by rfl, ?_⟩; intro W hW; go_simp; try with_reducible rfl) | exact Or.inr ⟨by rfl, rfl⟩) ?_; try simp only [Act.put, List.setIfInBounds_toArray, List.set_cons_zero, List.set_cons_succ])
        (refine takeE Ext.tr 8 (by simp only [List.getElem?_toArray, List.getElem?_cons_succ, List.getElem?_cons_zero]; rfl) (by kernel_rfl) (by kernel_rfl) (by kernel_rfl) (by exact fun _ _ _ h => h) (by first | (refine Or.inl ⟨by rfl, ?_⟩; intro W hW; go_simp; try with_reducible rfl) | exact Or.inr ⟨by rfl, rfl⟩) ?_; try simp only [Act.put, List.setIfInBounds_toArray, List.set_cons_zero, List.set_cons_succ])
        (refine takeE Ext.tr 10 (by simp only [List.getElem?_toArray, List.getElem?_cons_succ, List.getElem?_cons_zero]; rfl) (by kernel_rfl) (by kernel_rfl) (by kernel_rfl) (by exact fun _ _ _ h => h) (by first | (refine Or.inl ⟨by rfl, ?_⟩; intro W hW; go_simp; try with_reducible rfl) | exact Or.inr ⟨by rfl, rfl⟩) ?_; try simp only [Act.put, List.setIfInBounds_toArray, List.set_cons_zero, List.set_cons_succ])
        (refine takeE Ext.tr 11 (by simp only [List.getElem?_toArray, List.getElem?_cons_succ, List.getElem?_cons_zero]; rfl) (by kernel_rfl) (by kernel_rfl) (by kernel_rfl) (by exact fun _ _ _ h => h) (by first | (refine Or.inl ⟨by rfl, ?_⟩; intro W hW; go_simp; try with_reducible rfl) | exact Or.inr ⟨by rfl, rfl⟩) ?_; try simp only [Act.put, List.setIfInBounds_toArray, List.set_cons_zero, List.set_cons_succ])
        (refine takeE Ext.tr 12 (by simp only [List.getElem?_toArray, List.getElem?_cons_succ, List.getElem?_cons_zero]; rfl) (by kernel_rfl) (by kernel_rfl) (by kernel_rfl) (by exact fun _ _ _ h => h) (by first | (refine Or.inl ⟨by rfl, ?_⟩; intro W hW; go_simp; try with_reducible rfl) | exact Or.inr ⟨by rfl, rfl⟩) ?_; try simp only [Act.put, List.setIfInBounds_toArray, List.set_cons_zero, List.set_cons_succ])
        (refine takeE Ext.tr 14 (by simp only [List.getElem?_toArray, List.getElem?_cons_succ, List.getElem?_cons_zero]; rfl) (by kernel_rfl) (by kernel_rfl) (by kernel_rfl) (by exact fun _ _ _ h => h) (by first | (refine Or.inl ⟨by rfl, ?_⟩; intro W hW; go_simp; try with_reducible rfl) | exact Or.inr ⟨by rfl, rfl⟩) ?_; try simp only [Act.put, List.setIfInBounds_toArray, List.set_cons_zero, List.set_cons_succ])
        (refine takeE Ext.tr 15 (by simp only [List.getElem?_toArray, List.getElem?_cons_succ, List.getElem?_cons_zero]; rfl) (by kernel_rfl) (by kernel_rfl) (by kernel_rfl) (by exact fun _ _ _ h => h) (by first | (refine Or.inl ⟨by rfl, ?_⟩; intro W hW; go_simp; try with_reducible rfl) | exact Or.inr ⟨by rfl, rfl⟩) ?_; try simp only [Act.put, List.setIfInBounds_toArray, List.set_cons_zero, List.set_cons_succ])
        (refine takeE Ext.tr 17 (by simp only [List.getElem?_toArray, List.getElem?_cons_succ, List.getElem?_cons_zero]; rfl) (by kernel_rfl) (by kernel_rfl) (by kernel_rfl) (by exact fun _ _ _ h => h) (by first | (refine Or.inl ⟨by rfl, ?_⟩; intro W hW; go_simp; try with_reducible rfl) | exact Or.inr ⟨by rfl, rfl⟩) ?_; try simp only [Act.put, List.setIfInBounds_toArray, List.set_cons_zero, List.set_cons_succ])
        refine wpAnyE_done (by kernel_rfl) ?_ _
        clear q0 q1
        go_wp2
        go_ret2
        exact ⟨by rw [HP.out, HA.out]; rfl, below_on HQ.out.1 HWD.out⟩
    · obtain rfl : k = m.length := by omega
      have HP : Hid (plc m s = m.length) := Lib.hid (plc_of (by omega) HB.out.1 fun y hy => by simp at hy)
      have HA : Hid (at' m s = false) := Lib.hid (by rw [at_of HP.out]; simp)
      have hi0 : ¬ (m.length : Int) < m.length := by omega
      have HB2 := Lib.hid HB.out.2
      have HC2 := Lib.hid (Below.refl wr.heap.size wr)
      clear hall hbw
      go_wp2
      have hd : decide ((m.length : Int) < m.length) = false := by simp
      clear c0
      refine wp_region_E Ext (by kernel_rfl) (fun wd hbd hsz => ?_)
      have HWD := Lib.hid (below_on HB2.out hbd)
      have q0 : ∀ W, Ext wd W → W.cell? ⟨w.heap.size, 0, none⟩ = some (.slice A m.length c) := fun W hW => ((HQ.out.2.1.below HWD.out).below hW).cell 0 rfl
      clear hsz
      (refine takeE Ext.tr 0 (by simp only [List.getElem?_toArray, List.getElem?_cons_succ, List.getElem?_cons_zero]; rfl) (by kernel_rfl) (by kernel_rfl) (by kernel_rfl) (by exact fun _ _ _ h => h) (by first | (refine Or.inl ⟨by rfl, ?_⟩; intro W hW; go_simp; try with_reducible rfl) | exact Or.inr ⟨by rfl, rfl⟩) ?_; try simp only [Act.put, List.setIfInBounds_toArray, List.set_cons_zero, List.set_cons_succ])
      (refine takeE Ext.tr 1 (by simp only [List.getElem?_toArray, List.getElem?_cons_succ, List.getElem?_cons_zero]; rfl) (by kernel_rfl) (by kernel_rfl) (by kernel_rfl) (by exact fun _ _ _ h => h) (by first | (refine Or.inl ⟨by rfl, ?_⟩; intro W hW; go_simp; try with_reducible rfl) | exact Or.inr ⟨by rfl, rfl⟩) ?_; try simp only [Act.put, List.setIfInBounds_toArray, List.set_cons_zero, List.set_cons_succ])
      (refine takeE Ext.tr 2 (by simp only [List.getElem?_toArray, List.getElem?_cons_succ, List.getElem?_cons_zero]; rfl) (by kernel_rfl) (by kernel_rfl) (by kernel_rfl) (by exact fun _ _ _ h => h) (by first | (refine Or.inl ⟨by rfl, ?_⟩; intro W hW; go_simp; try with_reducible rfl) | exact Or.inr ⟨by rfl, rfl⟩) ?_; try simp only [Act.put, List.setIfInBounds_toArray, List.set_cons_zero, List.set_cons_succ])
      (refine takeE Ext.tr 3 (by simp only [List.getElem?_toArray, List.getElem?_cons_succ, List.getElem?_cons_zero]; rfl) (by kernel_rfl) (by kernel_rfl) (by kernel_rfl) (by exact fun _ _ _ h => h) (by first | (refine Or.inl ⟨by rfl, ?_⟩; intro W hW; go_simp; try with_reducible rfl) | exact Or.inr ⟨by rfl, rfl⟩) ?_; try simp only [Act.put, List.setIfInBounds_toArray, List.set_cons_zero, List.set_cons_succ])
      (refine takeE Ext.tr 4 (by simp only [List.getElem?_toArray, List.getElem?_cons_succ, List.getElem?_cons_zero]; rfl) (by kernel_rfl) (by kernel_rfl) (by kernel_rfl) (by exact fun _ _ _ h => h) (by first | (refine Or.inl ⟨by rfl, ?_⟩; intro W hW; go_simp; try with_reducible rfl) | exact Or.inr ⟨by rfl, rfl⟩) ?_; try simp only [Act.put, List.setIfInBounds_toArray, List.set_cons_zero, List.set_cons_succ])
      (refine takeE Ext.tr 5 (by simp only [List.getElem?_toArray, List.getElem?_cons_succ, List.getElem?_cons_zero]; rfl) (by kernel_rfl) (by kernel_rfl) (by kernel_rfl) (by exact fun _ _ _ h => h) (by first | (refine Or.inl ⟨by rfl, ?_⟩; intro W hW; go_simp; try with_reducible rfl) | exact Or.inr ⟨by rfl, rfl⟩) ?_; try simp only [Act.put, List.setIfInBounds_toArray, List.set_cons_zero, List.set_cons_succ])
      (refine takeE Ext.tr 6 (by simp only [List.getElem?_toArray, List.getElem?_cons_succ, List.getElem?_cons_zero]; rfl) (by kernel_rfl) (by kernel_rfl) (by kernel_rfl) (by exact fun _ _ _ h => h) (by first | (refine Or.inl ⟨by rfl, ?_⟩; intro W hW; go_simp; try with_reducible rfl) | exact Or.inr ⟨by rfl, rfl⟩) ?_; try simp only [Act.put, List.setIfInBounds_toArray, List.set_cons_zero, List.set_cons_succ])
      (refine takeE Ext.tr 7 (by simp only [List.getElem?_toArray, List.getElem?_cons_succ, List.getElem?_cons_zero]; rfl) (by kernel_rfl) (by kernel_rfl) (by kernel_rfl) (by exact fun _ _ _ h => h) (by first | (refine Or.inl ⟨by rfl, ?_⟩; intro W hW; go_simp; try with_reducible rfl) | exact Or.inr ⟨by rfl, rfl⟩) ?_; try simp only [Act.put, List.setIfInBounds_toArray, List.set_cons_zero, List.set_cons_succ])
      (refine takeE Ext.tr 9 (by simp only [List.getElem?_toArray, List.getElem?_cons_succ, List.getElem?_cons_zero]; rfl) (by kernel_rfl) (by kernel_rfl) (by kernel_rfl) (by exact fun _ _ _ h => h) (by first | (refine Or.inl ⟨by rfl, ?_⟩; intro W hW; go_simp; try with_reducible rfl) | exact Or.inr ⟨by rfl, rfl⟩) ?_; try simp only [Act.put, List.setIfInBounds_toArray, List.set_cons_zero, List.set_cons_succ])
      (refine takeE Ext.tr 13 (by simp only [List.getElem?_toArray, List.getElem?_cons_succ, List.getElem?_cons_zero]; rfl) (by kernel_rfl) (by kernel_rfl) (by kernel_rfl) (by exact fun _ _ _ h => h) (by first | (refine Or.inl ⟨by rfl, ?_⟩; intro W hW; go_simp; try with_reducible rfl) | exact Or.inr ⟨by rfl, rfl⟩) ?_; try simp only [Act.put, List.setIfInBounds_toArray, List.set_cons_zero, List.set_cons_succ])
      (refine takeE Ext.tr 16 (by simp only [List.getElem?_toArray, List.getElem?_cons_succ, List.getElem?_cons_zero]; rfl) (by kernel_rfl) (by kernel_rfl) (by kernel_rfl) (by exact fun _ _ _ h => h) (by first | (refine Or.inl ⟨by rfl, ?_⟩; intro W hW; go_simp; try with_reducible rfl) | exact Or.inr ⟨by rfl, rfl⟩) ?_; try simp only [Act.put, List.setIfInBounds_toArray, List.set_cons_zero, List.set_cons_succ])
      (refine takeE Ext.tr 8 (by simp only [List.getElem?_toArray, List.getElem?_cons_succ, List.getElem?_cons_zero]; rfl) (by kernel_rfl) (by kernel_rfl) (by kernel_rfl) (by exact fun _ _ _ h => h) (by first | (refine Or.inl ⟨by rfl, ?_⟩; intro W hW; go_simp; try with_reducible rfl) | exact Or.inr ⟨by rfl, rfl⟩) ?_; try simp only [Act.put, List.setIfInBounds_toArray, List.set_cons_zero, List.set_cons_succ])
      (refine takeE Ext.tr 10 (by simp only [List.getElem?_toArray, List.getElem?_cons_succ, List.getElem?_cons_zero]; rfl) (by kernel_rfl) (by kernel_rfl) (by kernel_rfl) (by exact fun _ _ _ h => h) (by first | (refine Or.inl ⟨by rfl, ?_⟩; intro W hW; go_simp; try with_reducible rfl) | exact Or.inr ⟨by rfl, rfl⟩) ?_; try simp only [Act.put, List.setIfInBounds_toArray, List.set_cons_zero, List.set_cons_succ])
      (refine takeE Ext.tr 11 (by simp only [List.getElem?_toArray, List.getElem?_cons_succ, List.getElem?_cons_zero]; rfl) (by kernel_rfl) (by kernel_rfl) (by kernel_rfl) (by exact fun _ _ _ h => h) (by first | (refine Or.inl ⟨by rfl, ?_⟩; intro W hW; go_simp; try with_reducible rfl) | exact Or.inr ⟨by rfl, rfl⟩) ?_; try simp only [Act.put, List.setIfInBounds_toArray, List.set_cons_zero, List.set_cons_succ])
      (refine takeE Ext.tr 12 (by simp only [List.getElem?_toArray, List.getElem?_cons_succ, List.getElem?_cons_zero]; rfl) (by kernel_rfl) (by kernel_rfl) (by kernel_rfl) (by exact fun _ _ _ h => h) (by first | (refine Or.inl ⟨by rfl, ?_⟩; intro W hW; go_simp; try with_reducible rfl) | exact Or.inr ⟨by rfl, rfl⟩) ?_; try simp only [Act.put, List.setIfInBounds_toArray, List.set_cons_zero, List.set_cons_succ])
      (refine takeE Ext.tr 14 (by simp only [List.getElem?_toArray, List.getElem?_cons_succ, List.getElem?_cons_zero]; rfl) (by kernel_rfl) (by kernel_rfl) (by kernel_rfl) (by exact fun _ _ _ h => h) (by first | (refine Or.inl ⟨by rfl, ?_⟩; intro W hW; go_simp; try with_reducible rfl) | exact Or.inr ⟨by rfl, rfl⟩) ?_; try simp only [Act.put, List.setIfInBounds_toArray, List.set_cons_zero, List.set_cons_succ])
      (refine takeE Ext.tr 15 (by simp only [List.getElem?_toArray, List.getElem?_cons_succ, List.getElem?_cons_zero]; rfl) (by kernel_rfl) (by kernel_rfl) (by kernel_rfl) (by exact fun _ _ _ h => h) (by first | (refine Or.inl ⟨by rfl, ?_⟩; intro W hW; go_simp; try with_reducible rfl) | exact Or.inr ⟨by rfl, rfl⟩) ?_; try simp only [Act.put, List.setIfInBounds_toArray, List.set_cons_zero, List.set_cons_succ])
      (refine takeE Ext.tr 17 (by simp only [List.getElem?_toArray, List.getElem?_cons_succ, List.getElem?_cons_zero]; rfl) (by kernel_rfl) (by kernel_rfl) (by kernel_rfl) (by exact fun _ _ _ h => h) (by first | (refine Or.inl ⟨by rfl, ?_⟩; intro W hW; go_simp; try with_reducible rfl) | exact Or.inr ⟨by rfl, rfl⟩) ?_; try simp only [Act.put, List.setIfInBounds_toArray, List.set_cons_zero, List.set_cons_succ])
      refine wpAnyE_done (by kernel_rfl) ?_ _
      clear q0
      go_wp2
      go_ret2
      exact ⟨by rw [HP.out, HA.out]; rfl, below_on HQ.out.1 HWD.out⟩
set_option maxHeartbeats 1000000 in
theorem r_get {w : World} {A : Option Addr} {n c : Nat} {m : List Cn} (h : RvL w A n c m) (hm : Srt m) (hsh : Shrt m) (hn : m.length ≤ 1000000) {s : Nm} (hs : s.length ≤ 1000000) :
    Calls Tryd.prog 17 #[.agg #[.slice A n c], str s] w fun e w' => e = .returned (num (get m s)) ∧ Below w.heap.size w w' := by
  have hb1 : Below w.heap.size w (w.alloc (.cells #[.slice A n c] 31)) := (Below.refl _ w).alloc (Nat.le_refl _) _
  have q1 := Bk.new w 31 [.slice A n c]
  have HQ := Lib.hid (And.intro hb1 (And.intro q1 (h.below hb1)))
  have HP := Lib.hid (r_place (h.below hb1) hsh hn hs)
  have hq1 := q1
  clear hb1 q1
  have HN : Hid (n = m.length) := Lib.hid h.1
  clear h
  cases ha : at' m s with
  | false =>
    have HG : Hid (get m s = 0) := Lib.hid (by unfold get; rw [look_plc hm, ha]; rfl)
    rw [ha] at HP
    go_enter Tryd.func17, Tryd.ntmps17
    go_wp2_with (first
      | (with_reducible refine at_load 31 (.tmp 2) (by rfl) ?_; refine wpList_load_bk rowC rfl (.tmp 2) rfl w.heap.size 0 rfl hq1 [.slice A n c] rfl rfl ?_)
      | (go_at_call 31; refine HP.out.mono ?_; rintro e w2 ⟨rfl, hb2⟩; have HB2 := Lib.hid hb2; clear hb2))
    go_ret
    exact ⟨by rw [HG.out]; rfl, below_on HQ.out.1 HB2.out⟩
  | true =>
    rw [ha] at HP
    have hlt : plc m s < m.length := by
      unfold at' at ha
      rcases Nat.lt_or_ge (plc m s) m.length with h1 | h1
      · exact h1
      · rw [List.getElem?_eq_none h1] at ha; cases ha
    have HG : Hid (get m s = m[plc m s].n) := Lib.hid (by rw [get_plc hm s (List.getElem?_eq_getElem hlt), ha]; rfl)
    have hlt' : (plc m s : Int) < n := by rw [HN.out]; omega
    have HLT := Lib.hid hlt
    go_enter Tryd.func17, Tryd.ntmps17
    go_wp2_with (first
      | (with_reducible refine at_load 31 (.tmp 2) (by rfl) ?_; refine wpList_load_bk rowC rfl (.tmp 2) rfl w.heap.size 0 rfl hq1 [.slice A n c] rfl rfl ?_)
      | (go_at_call 31; refine HP.out.mono ?_; rintro e w2 ⟨rfl, hb2⟩; have HB2 := Lib.hid hb2; have c0 := (HQ.out.2.1.below hb2).cell 0 rfl; obtain ⟨g, o, hA, hg, k1, k2⟩ := (HQ.out.2.2.below hb2).row HLT.out; rw [hA] at c0; clear hb2 k1))
    go_ret
    exact ⟨by rw [HG.out]; rfl, below_on HQ.out.1 HB2.out⟩
theorem r_sum {a b : Int} (h0 : 0 ≤ a) (h1 : a ≤ Most) (h2 : 0 ≤ b) (h3 : b ≤ 9223372036854775807) (w : World) : Calls Tryd.prog 36 #[num a, num b] w fun e w' => e = .returned (num (sum a b)) ∧ w = w' := by
  simp only [Most] at h1
  by_cases h : b ≤ 1152921504606846976 - a
  · have HE : Hid (sum a b = a + b) := Lib.hid (by unfold sum; rw [if_neg (by simp only [Most]; omega)])
    go_enter Tryd.func36, Tryd.ntmps36
    go_wp2
    go_ret
    exact ⟨by rw [HE.out]; rfl, rfl⟩
  · have HE : Hid (sum a b = 1152921504606846976) := Lib.hid (by unfold sum; rw [if_pos (by simp only [Most]; omega)])
    have h' : 1152921504606846976 - a < b := by omega
    clear h
    go_enter Tryd.func36, Tryd.ntmps36
    go_wp2
    go_ret
    exact ⟨by rw [HE.out]; rfl, rfl⟩
end Go.Proofs.YtdepbdmnkkkjlaaDoor
