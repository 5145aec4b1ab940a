/- As RegL, but one of the late operations may call the body of the loop that a function is ranged over by (a yield). -/
import Derived.Test.YtdepbdmnkkkjlaaDoorRegL
import Derived.OrdersIn
import Derived.RangeFuncCalls
namespace Go.Proofs.YtdepbdmnkkkjlaaDoor
open Go.RowKit
section
variable {P : Program} {ops : Array Oper} {Q : Exit → Act → World → Prop} {md : Region.Mode} {E : World → World → Prop} {late : List Nat} {n : Nat}

theorem oper_in_wide {o : Oper} {a : Act} {w : World} {K : Act → World → Prop} (h : o.wp P a w K Q) : o.wpIn Fence.wide n P a w K Q := by
  unfold Oper.wp at h
  refine ⟨fun _ _ => trivial, ?_⟩
  rw [show Oper.semAt Fence.wide.round a.eval o = execOp a.eval o from rfl]
  generalize (execOp a.eval o).run P w = r at *
  cases r with
  | ok x w' =>
    cases x <;> simp only [Oper.upon, Oper.uponIn] at h ⊢
    case value => exact h
    case skip => exact h
    case defer => exact h
    case enter => exact ⟨fun hx => by simp [Fence.wide] at hx, callsIn_wide.2 h⟩
    case row row args =>
      refine ⟨fun hx => by simp [Fence.wide] at hx, fun c cs _ => ?_⟩
      obtain ⟨v, w', r, s⟩ := h c cs
      exact ⟨v, w', r, stepsIn_wide.2 s⟩
  | halt x w' => cases x <;> simp only [Oper.upon, Oper.uponIn] at h ⊢ <;> exact h
theorem wpOp_in_wide {i : Nat} (hL : ¬ LetsOut Q) {a : Act} {w : World} {K : Act → World → Prop} (h : wpOp P ops Q i K a w) : wpOpIn Fence.wide n P ops Q i K a w := by
  unfold wpOp at h
  unfold wpOpIn
  split
  · rename_i hi; simp only [hi] at h; exact h
  · rename_i o hi
    simp only [hi] at h
    split
    · rename_i hw
      simp only [hw, if_true] at h
      rcases h with h | h
      · exact oper_in_wide h
      · exact absurd h.2 hL
    · rename_i hw
      simp only [hw] at h
      exact ⟨fun _ _ => trivial, h⟩
/-- A late operation is taken within the fence, any other as ever. -/
def stepZ (n : Nat) (P : Program) (ops : Array Oper) (Q : Exit → Act → World → Prop) (late : List Nat) (i : Nat) (K : Act → World → Prop) (a : Act) (w : World) : Prop :=
  (i ∈ late → wpOpIn Fence.wide n P ops Q i K a w) ∧ (¬ i ∈ late → wpOp P ops Q i K a w)
theorem stepZ_early {i : Nat} {K : Act → World → Prop} {a : Act} {w : World} (hi : ¬ i ∈ late) (h : stepZ n P ops Q late i K a w) : wpOp P ops Q i K a w := h.2 hi
theorem stepZ_of {i : Nat} {K : Act → World → Prop} {a : Act} {w : World} (hi : ¬ i ∈ late) (h : wpOp P ops Q i K a w) : stepZ n P ops Q late i K a w := ⟨fun hl => absurd hl hi, fun _ => h⟩
theorem stepZ_late {i : Nat} {K : Act → World → Prop} {a : Act} {w : World} (hi : i ∈ late) (h : wpOpIn Fence.wide n P ops Q i K a w) : stepZ n P ops Q late i K a w := ⟨fun _ => h, fun hn => absurd hi hn⟩
def wpAnyZ (n : Nat) (P : Program) (md : Region.Mode) (ops : Array Oper) (Q : Exit → Act → World → Prop) (E : World → World → Prop) (late : List Nat) : Nat → Array Bool → Act → World → Prop
  | 0, listed, a, w => Region.ready md ops listed = [] ∧ Q .normal a w
  | fuel + 1, listed, a, w =>
    (Region.ready md ops listed = [] → Q .normal a w) ∧
    ∀ i ∈ Region.ready md ops listed, stepZ n P ops Q late i (fun a' w' => (i ∈ late ∨ E w w') ∧ wpAnyZ n P md ops Q E late fuel (listed.setIfInBounds i true) a' w') a w
theorem wpAnyIn_of_Z (hL : ¬ LetsOut Q) : ∀ (fuel : Nat) (listed : Array Bool) (a : Act) (w : World), wpAnyZ n P md ops Q E late fuel listed a w → wpAnyIn Fence.wide n P md ops Q fuel listed a w
  | 0, _, _, _, h => h
  | fuel + 1, _, _, _, h => ⟨h.1, fun i hi => by
    by_cases hl : i ∈ late
    · exact wpOpIn_mono (fun a' w' h' => wpAnyIn_of_Z hL fuel _ a' w' h'.2) ((h.2 i hi).1 hl)
    · exact wpOp_in_wide hL (wpOp_mono (fun a' w' h' => wpAnyIn_of_Z hL fuel _ a' w' h'.2) ((h.2 i hi).2 hl))⟩
theorem wpAnyZ_first (hrefl : ∀ w, E w w) (htr : ∀ a b c, E a b → E b c → E a c) {i : Nat} {oi : Oper} {v : Value} (hi : ops[i]? = some oi)
    (hlate : ¬ i ∈ late) (hsel : ∀ (j : Nat) (o : Oper) cs b, ops[j]? = some o → o.op ≠ .select cs b) (hQ : ∀ c a w, Q (.panic c) (a.put oi.dst v) w → Q (.panic c) a w) :
    ∀ (fuel : Nat) (listed : Array Bool) (a : Act) (w : World), waits md ops late listed i = true → Closed md ops listed →
      (∀ j oj, ops[j]? = some oj → j ≠ i → listed.getD j true = false → (∀ e ∈ oj.after, Region.binds md e = true → e.on ≠ i) → oi.apart ops oj = true) →
      i ∈ Region.ready md ops listed → YieldsIf P ops (E w) oi v a →
      wpAnyZ n P md ops Q E late fuel (listed.setIfInBounds i true) (a.put oi.dst v) w → wpAnyZ n P md ops Q E late (fuel + 1) listed a w := by
  intro fuel
  induction fuel with
  | zero =>
    intro listed a w _ _ _ hr hy H
    refine ⟨fun h => absurd hr (by rw [h]; simp), fun j hj => ?_⟩
    rcases Nat.decEq j i with hji | rfl
    · have h0 := ready_mono hj hji
      rw [H.1] at h0
      simp at h0
    · exact stepZ_of hlate (hy.wpOp hi (hrefl w) ⟨.inr (hrefl w), H⟩)
  | succ fuel ih =>
    intro listed a w hw hcl hfree hr hy H
    refine ⟨fun h => absurd hr (by rw [h]; simp), fun j hj => ?_⟩
    rcases Nat.decEq j i with hji | rfl
    · have h0 := H.2 j (ready_mono hj hji)
      obtain ⟨hjun, oj, hoj, hall⟩ := mem_ready.1 hj
      have hun := (mem_ready.1 hr).1
      have hnot : ∀ e ∈ oj.after, Region.binds md e = true → e.on ≠ i := by
        intro e he hb heq
        have h3 := hall e he hb
        rw [heq] at h3
        rcases Nat.lt_or_ge i listed.size with h' | h'
        · simp [h'] at hun h3
          rw [hun] at h3
          cases h3
        · simp [Array.getElem?_eq_none h'] at h3
      have hdeps : ∀ e ∈ oj.after, Region.binds md e = true → listed.getD e.on false = true := fun e he hb => by
        simpa using hall e he hb
      have hearly : ¬ j ∈ late := fun hl => by
        have h3 : reach md ops ops.size j i = true := by
          have h3 := (List.all_eq_true.1 hw) j hl
          rw [Bool.or_eq_true] at h3
          rcases h3 with h3 | h3
          · exfalso
            rcases Nat.lt_or_ge j listed.size with h' | h'
            · simp [h'] at hjun h3
              rw [hjun] at h3
              cases h3
            · simp [Array.getElem?_eq_none h'] at h3
          · exact h3
        have h4 := reach_listed hcl _ _ h3 (fun o ho => by
          rw [hoj] at ho
          injection ho with ho
          subst ho
          exact hdeps)
        rcases Nat.lt_or_ge i listed.size with h' | h'
        · simp [h'] at hun h4
          rw [hun] at h4
          cases h4
        · simp [Array.getElem?_eq_none h'] at h4
      have h1 := stepZ_early hearly h0
      refine stepZ_of hearly ?_
      have h2 := wpOp_putIf (S := E w) hoj (hfree j oj hoj hji hjun hnot) (fun cs b => hsel i oi cs b hi) (fun cs b => hsel j oj cs b hoj) hQ hy h1
      refine wpOp_mono (fun a' w' h3 => ?_) h2
      have hE : E w w' := by
        rcases h3.2.1 with h | h
        · exact absurd h hearly
        · exact h
      refine ⟨h3.2.1, ih _ a' w' (waits_set hw j) (hcl.set hoj hdeps) ?_ (ready_mono hr (Ne.symm hji)) (yieldsIf_mono (fun W hW => htr _ _ _ hE hW) h3.1) ?_⟩
      · intro k ok hk hki hkun hno
        refine hfree k ok hk hki ?_ hno
        by_cases hjk : j = k
        · subst hjk
          exact hjun
        · rw [getD_set_ne true hjk] at hkun
          exact hkun
      · rw [Array.setIfInBounds_comm _ _ hji]
        exact h3.2.2
    · exact stepZ_of hlate (hy.wpOp hi (hrefl w) ⟨.inr (hrefl w), H⟩)

/-- Operation number i is taken now: the side conditions are paid by reckoning. -/
theorem takeZ (hE : Tr E) (i : Nat) {oi : Oper} {v : Value} {fuel : Nat} {listed : Array Bool} {a : Act} {w : World} (hi : ops[i]? = some oi)
    (hs : Region.noSelect ops = true) (hf : Region.free md ops listed i = true) (hr : (Region.ready md ops listed).contains i = true) (hw : (waits md ops late listed i && closedB md ops listed) = true) (hlate : ¬ i ∈ late)
    (hQ : ∀ c a w, Q (.panic c) (a.put oi.dst v) w → Q (.panic c) a w)
    (hy : (Region.wanted oi (yielded ops a.tmps) = true ∧ ∀ W, E w W → (execOp a.eval oi).run P W = .ok (.value v) W) ∨ (Region.wanted oi (yielded ops a.tmps) = false ∧ v = undef))
    (h : wpAnyZ n P md ops Q E late fuel (listed.setIfInBounds i true) (a.put oi.dst v) w) : wpAnyZ n P md ops Q E late (fuel + 1) listed a w :=
  wpAnyZ_first hE.refl hE.trans hi hlate (Region.noSelect_spec hs) hQ fuel listed a w (Bool.and_eq_true _ _ ▸ hw).1 (closedB_spec (Bool.and_eq_true _ _ ▸ hw).2) (Region.free_spec hi hf) (by simpa using hr) hy h

/-- Just one may come up: an early one. -/
theorem wpAnyZ_one {i : Nat} {o : Oper} {fuel : Nat} {listed : Array Bool} {a : Act} {w : World} (hr : Region.ready md ops listed = [i]) (hl : ¬ i ∈ late) (ho : ops[i]? = some o)
    (h : ∀ K' : Act → World → Prop, Shut (∀ a' w', (i ∈ late ∨ E w w') → wpAnyZ n P md ops Q E late fuel (listed.setIfInBounds i true) a' w' → K' a' w') →
      if Region.wanted o (yielded ops a.tmps) = true then Oper.wp P o a w K' Q else K' (a.put o.dst undef) w) : wpAnyZ n P md ops Q E late (fuel + 1) listed a w := by
  refine ⟨fun h0 => absurd (hr ▸ h0) (by simp), fun j hj => ?_⟩
  rw [hr] at hj
  obtain rfl : j = i := by simpa using hj
  exact stepZ_of hl (wpOp_step ho (fun K' hK => h K' (fun a' w' hE hW => hK a' w' ⟨hE, hW⟩)))
/-- Just one may come up: the yield. -/
theorem wpAnyZ_yield {i : Nat} {o : Oper} {fuel : Nat} {listed : Array Bool} {a : Act} {w : World} (hr : Region.ready md ops listed = [i]) (hl : i ∈ late) (ho : ops[i]? = some o)
    {l : Nat} {args : Array Value} (hx : (execOp a.eval o).run P w = (Instr.yield l args).run P w) (hn : n = n) (hw : Region.wanted o (yielded ops a.tmps) = true)
    {R : Ending → World → Prop} (hy : YieldAt Fence.wide (n - 1) P l args w R)
    (hR : ∀ e w', R e w' → ∃ v, e = .returned v ∧ wpAnyZ n P md ops Q E late fuel (listed.setIfInBounds i true) (a.put o.dst v) w') : wpAnyZ n P md ops Q E late (fuel + 1) listed a w := by
  refine ⟨fun h0 => absurd (hr ▸ h0) (by simp), fun j hj => ?_⟩
  rw [hr] at hj
  obtain rfl : j = i := by simpa using hj
  refine stepZ_late hl ?_
  unfold wpOpIn
  simp only [ho, hw, if_true]
  obtain ⟨fn, tmps, assign, body, h1, h2⟩ := hy
  refine ⟨fun _ _ => trivial, ?_⟩
  rw [show Oper.semAt Fence.wide.round a.eval o = execOp a.eval o from rfl, hx, h1]
  refine ⟨fun hx => by simp [Fence.wide] at hx, RoundIn.mono h2 fun e w' he => ?_⟩
  obtain ⟨v, rfl, h3⟩ := hR e w' he
  exact ⟨.inl hl, h3⟩
theorem noOutZ_done {listed : Array Bool} {a : Act} {w : World} (hr : Region.ready md ops listed = []) (h : Q .normal a w) : ∀ fuel, wpAnyZ n P md ops (noOut Q) E late fuel listed a w
  | 0 => ⟨hr, h⟩
  | _ + 1 => ⟨fun _ => h, by rw [hr]; simp⟩
theorem wpIn_region_Z (E : World → World → Prop) (late : List Nat) {id : Nat} {a : Act} {w : World} (hm : P.follows .mixedOrders = true)
    (h : ∀ wd : World, Below w.heap.size w wd → wd.heap.size = w.heap.size → wpAnyZ n P .any ops (noOut Q) E late ops.size (Array.replicate ops.size false) a wd) : (Code.region id ops true).wpIn Fence.wide n P Q a w :=
  wpIn_mono (wpIn_region_any hm (wpAnyIn_of_Z noOut_lets _ _ _ _ (h _ (Below.refl _ _).drew rfl))) noOut_mono
end
end Go.Proofs.YtdepbdmnkkkjlaaDoor
