/- What a round of a loop over a function keeps, where the iterator makes memory of its own: all cells, but the blocks that the body owns just then. -/
import Derived.Test.YtdepbdmnkkkjlaaDoorLst
import Derived.OwnWalkIn
set_option linter.unusedSimpArgs false
set_option linter.unusedVariables false
namespace Go.Proofs.YtdepbdmnkkkjlaaDoor
open Go.RowKit Go.Shelf

/-- All cells stay but those of the blocks that Own names; what it names later is named now, or new. -/
def KpO (Own : World → Nat → Prop) (W W' : World) : Prop :=
  W.heap.size ≤ W'.heap.size ∧ (∀ k o, W.heap[k]? = some o → o.isCells = true → ¬ Own W k → W'.heap[k]? = some o) ∧ ∀ k, Own W' k → Own W k ∨ W.heap.size ≤ k
theorem KpO.refl (Own : World → Nat → Prop) (W : World) : KpO Own W W := ⟨Nat.le_refl _, fun _ _ h _ _ => h, fun _ h => .inl h⟩
theorem KpO.trans {Own : World → Nat → Prop} {A B C : World} (h : KpO Own A B) (k : KpO Own B C) : KpO Own A C := by
  refine ⟨Nat.le_trans h.1 k.1, fun i o hi ho hn => ?_, fun i hi => ?_⟩
  · have hlt : i < A.heap.size := (Array.getElem?_eq_some_iff.1 hi).1
    refine k.2.1 i o (h.2.1 i o hi ho hn) ho fun hf => ?_
    rcases h.2.2 i hf with h1 | h1
    · exact hn h1
    · omega
  · rcases k.2.2 i hi with h1 | h1
    · exact h.2.2 i h1
    · exact .inr (Nat.le_trans h.1 h1)
/-- The blocks Bs, the variable Bl, and the block of the slice that the variable holds. -/
def OwnB (Bs : List Nat) (Bl : Nat) (W : World) (k : Nat) : Prop := k ∈ Bs ∨ k = Bl ∨ ∃ ad n c, W.cell? ⟨Bl, 0, none⟩ = some (.slice (some ad) n c) ∧ ad.block = k
theorem OwnB.of_block {Bs : List Nat} {Bl k : Nat} {W W' : World} (h : W'.heap[Bl]? = W.heap[Bl]?) (hk : OwnB Bs Bl W' k) : OwnB Bs Bl W k := by
  rcases hk with h1 | h1 | ⟨ad, n, c, h1, h2⟩
  · exact .inl h1
  · exact .inr (.inl h1)
  · exact .inr (.inr ⟨ad, n, c, (World.cell?_of_block (a := ⟨Bl, 0, none⟩) h).symm.trans h1, h2⟩)
theorem KpO.put (Bs : List Nat) {Bl B : Nat} (hBl : Bl < B) (W : World) (l : Nat) (o o' : Obj) (hl : B ≤ l) (ho : W.heap[l]? = some o) (hc : o.isCells = false) (_ : o.isWalk = false) : KpO (OwnB Bs Bl) W (W.putObj l o') := by
  refine ⟨by simp [World.putObj], fun k x hk hx _ => ?_, fun k hk => .inl (OwnB.of_block (World.putObj_heap_other (by omega)) hk)⟩
  rw [World.putObj_heap_other ?_]
  · exact hk
  · rintro rfl
    rw [ho] at hk
    injection hk with hk
    subst hk
    rw [hc] at hx
    cases hx
/-- A list that the iterator made stays. -/
theorem KpO.list {Own : World → Nat → Prop} {e : TypeId} {W W' : World} {A : Option Addr} {n c : Nat} {vs : List Value} {F : Nat → Prop} (hk : KpO Own W W') (h : Lst e F W A n c vs) (hO : ∀ k, F k → ¬ Own W k) : Lst e F W' A n c vs := by
  obtain ⟨h1, h2, h3, h4, h5⟩ := h
  refine ⟨h1, h2, h3, h4, ?_⟩
  rcases h5 with h5 | ⟨g, o, cur, hA, hf, hh, r⟩
  · exact .inl h5
  · exact .inr ⟨g, o, cur, hA, hf, hk.2.1 g _ hh rfl (hO g hf), r⟩
section
variable {P : Program} {w : World} {t e : TypeId} {z : Value} {bytes : Nat} {F : Nat → Prop} {A B : Option Addr} {n c m d : Nat} {vs us : List Value}
theorem wpListIn_append_lst {Fe : Fence} {q : Nat} {ops : Array Oper} {rest : List Oper} {o : Oper} {a : Act} {Q : Exit → Act → World → Prop} (E : Elt P t e z bytes) (hgd : o.guard = none) (s x : Operand)
    (ho : o.op = .call { callee := .builtin .append, args := #[s, x], argTypes := #[t, t] })
    (hs : a.eval s = .slice A n c) (h : Lst e F w A n c vs) (hx : a.eval x = .slice B m d) (hu : RdV w B m d us) (hlen : (n + m) * bytes ≤ 140737488355328)
    (hq : ∀ v w', Apd e F w v (vs ++ us) w' → wpListIn Fe q P ops Q rest (a.put o.dst v) w') : wpListIn Fe q P ops Q (o :: rest) a w := by
  obtain ⟨v, w', hrun, hap⟩ := run_append_lst E o.type h hu hlen
  refine wpListIn_plain hgd fun K hK => ?_
  unfold Oper.wpIn
  refine ⟨?_, ?_⟩
  · simp [Oper.about, ho, resolve, Target.leads, Sem.run_pure]
  · rw [Oper.semAt_plain Fe _ _ (by rw [ho]; intro c hc'; cases hc')]
    simp [execOp, ho, resolve, invoke, builtin, hs, hx, hrun, Result.andThen]
    exact hK _ _ (hq v w' hap)
theorem wpListIn_build_one {Fe : Fence} {q : Nat} {ops : Array Oper} {rest : List Oper} {o : Oper} {a : Act} {Q : Exit → Act → World → Prop} (E : Elt P t e z bytes) (hgd : o.guard = none) (s : Operand)
    (ho : o.op = .buildSlice t 1 #[(0, s)]) {x : Value} (hs : a.eval s = x) (hx : x.oneCell' = true)
    (hq : wpListIn Fe q P ops Q rest (a.put o.dst (.slice (some ⟨w.heap.size, 0, none⟩) 1 1)) (w.alloc (.cells #[x] e))) : wpListIn Fe q P ops Q (o :: rest) a w := by
  have hr := E.build_one hx w
  refine wpListIn_plain hgd fun K hK => ?_
  unfold Oper.wpIn
  refine ⟨?_, ?_⟩
  · simp [Oper.about, ho]
  · rw [Oper.semAt_plain Fe _ _ (by rw [ho]; intro c hc'; cases hc')]
    simp only [execOp, ho, List.map_toArray, List.map_cons, List.map_nil, hs, Sem.run_bind, Sem.run_pure, hr, Result.andThen_ok]
    exact hK _ _ hq
end
/-- What an append within a round turns: the variable's block, and the block of the list that it holds. -/
theorem KpO.stored {Bs : List Nat} {Bl : Nat} {W W1 w2 : World} {A A' : Option Addr} {n c n' c' : Nat} {t : TypeId}
    (hl : Bk W t Bl [.slice A n c]) (hnb : ¬ BlkOf A Bl) (h1 : Below W.heap.size W W1) (hst : St (BlkOf A) W1 w2) (hF : ∀ ad, A' = some ad → (BlkOf A ad.block) ∨ W.heap.size ≤ ad.block) : KpO (OwnB Bs Bl) W (w2.setCell ⟨Bl, 0, none⟩ (.slice A' n' c')) := by
  have hlt := hl.lt
  refine ⟨by have := h1.size; have := hst.size; simp [World.setCell]; omega, fun k o hk _ hn => ?_, fun k hk => ?_⟩
  · have hkl : k < W.heap.size := (Array.getElem?_eq_some_iff.1 hk).1
    have hne : k ≠ Bl := fun e => hn (.inr (.inl e))
    rw [Below.heap_setCell _ _ _ _ (by simpa using hne), hst.block k (by have := h1.size; omega) ?_, h1.block k hkl]
    · exact hk
    · rintro ⟨ad, rfl, rfl⟩
      exact hn (.inr (.inr ⟨ad, n, c, hl.cell 0 rfl, rfl⟩))
  · rcases hk with hk | hk | ⟨ad, n2, c2, hk, rfl⟩
    · exact .inl (.inl hk)
    · exact .inl (.inr (.inl hk))
    · rw [((hl.below h1).st hst hnb |>.set 0 (.slice A' n' c')).cell 0 rfl] at hk
      injection hk with hk
      injection hk with hk
      rcases hF ad hk with ⟨ad0, rfl, h'⟩ | h'
      · exact .inl (.inr (.inr ⟨ad0, n, c, hl.cell 0 rfl, h'⟩))
      · exact .inr h'
theorem KpO.box {Bs : List Nat} {Bl b i : Nat} (hb : b ∈ Bs) (hne : b ≠ Bl) (W : World) (v : Value) : KpO (OwnB Bs Bl) W (W.setCell ⟨b, i, none⟩ v) := by
  refine ⟨by simp [World.setCell], fun k o hk _ hn => ?_, fun k hk => .inl (OwnB.of_block (Below.heap_setCell _ _ _ _ (by simpa using fun e => hne e.symm)) hk)⟩
  have : k ≠ b := fun e => hn (.inl (e ▸ hb))
  rw [Below.heap_setCell _ _ _ _ (by simpa using this)]
  exact hk
theorem fin_take (n k : Nat) (h : k < n) : (List.finRange n).take (k + 1) = (List.finRange n).take k ++ [⟨k, h⟩] := by
  rw [List.take_succ_eq_append_getElem (by simpa using h)]
  simp
/-- The values at these places. -/
def vals (vs : List Value) (pre : List (Fin vs.length)) : List Value := pre.map fun i => vs[i]
theorem vals_all (vs : List Value) : vals vs (List.finRange vs.length) = vs := by
  apply List.ext_getElem
  · simp [vals]
  · intro i h1 h2
    simp [vals]
theorem vals_snoc (vs : List Value) (pre : List (Fin vs.length)) (i : Fin vs.length) : vals vs (pre ++ [i]) = vals vs pre ++ [vs[i]] := by simp [vals]
theorem vals_length (vs : List Value) (pre : List (Fin vs.length)) : (vals vs pre).length = pre.length := by simp [vals]
theorem vals_take (vs : List Value) (k : Nat) : vals vs ((List.finRange vs.length).take k) = vs.take k := by
  have := congrArg (List.take k) (vals_all vs)
  rw [← this, vals, vals, List.map_take]
end Go.Proofs.YtdepbdmnkkkjlaaDoor
