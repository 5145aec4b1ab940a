/- Rows of values within a round of a loop over a function: loaded, stored, built, appended. -/
import Derived.Test.YtdepbdmnkkkjlaaDoorLsr
import Derived.Test.YtdepbdmnkkkjlaaDoorItr
set_option linter.unusedSimpArgs false
set_option linter.unusedVariables false
namespace Go.Proofs.YtdepbdmnkkkjlaaDoor
open Go.RowKit Go.Shelf
section
variable {P : Program} {w : World} {Fe : Fence} {qn : Nat} {ops : Array Oper} {rest : List Oper} {op : Oper} {a : Act} {Q : Exit → Act → World → Prop}
/-- An operation that is no call of a Go function, by its run. -/
theorem wpListIn_exec {v : Value} {w' : World} (hgd : op.guard = none) (ha : op.about P w a.eval = none) (hd : ∀ c, op.op ≠ .defer c) (hr : (execOp a.eval op).run P w = .ok (.value v) w')
    (hq : wpListIn Fe qn P ops Q rest (a.put op.dst v) w') : wpListIn Fe qn P ops Q (op :: rest) a w := by
  refine wpListIn_plain hgd fun K hK => ?_
  unfold Oper.wpIn
  refine ⟨fun f hf => absurd (ha ▸ hf) (by simp), ?_⟩
  rw [Oper.semAt_plain Fe _ _ hd, hr]
  exact hK _ _ hq
theorem wpListIn_exec_skip {w' : World} (hgd : op.guard = none) (ha : op.about P w a.eval = none) (hd : ∀ c, op.op ≠ .defer c) (hr : (execOp a.eval op).run P w = .ok .skip w')
    (hq : wpListIn Fe qn P ops Q rest (a.put op.dst undef) w') : wpListIn Fe qn P ops Q (op :: rest) a w := by
  refine wpListIn_plain hgd fun K hK => ?_
  unfold Oper.wpIn
  refine ⟨fun f hf => absurd (ha ▸ hf) (by simp), ?_⟩
  rw [Oper.semAt_plain Fe _ _ hd, hr]
  exact hK _ _ hq
variable {ty t : TypeId} {m g o : Nat} {vs cs : List Value}
theorem wpListIn_load_bk (R : Row P ty m) (hgd : op.guard = none) (x : Operand) (ho : op.op = .load ty x) (g o : Nat) (hx : a.eval x = .pointer (some ⟨g, o, none⟩)) (h : Bk w t g vs) (cs : List Value) (hm : cs.length = m)
    (hcs : (vs.drop o).take cs.length = cs) (hq : wpListIn Fe qn P ops Q rest (a.put op.dst (.agg cs.toArray)) w) : wpListIn Fe qn P ops Q (op :: rest) a w :=
  wpListIn_exec hgd (by simp [Oper.about, ho, resolve, Target.leads, Sem.run_pure]) (by rw [ho]; intro c hc; cases hc) (exec_load_bk R x ho g o hx h cs hm hcs) hq
theorem wpListIn_store_bk (R : Row P ty m) (hgd : op.guard = none) (x y : Operand) (ho : op.op = .store ty x y) (g o : Nat) (hx : a.eval x = .pointer (some ⟨g, o, none⟩)) (h : Bk w t g vs) (cs : List Value) (hy : a.eval y = .agg cs.toArray) (hm : cs.length = m)
    (hl : o + m ≤ vs.length) (h1 : ∀ v ∈ cs, v.oneCell' = true) (hq : ∀ w', Bk w' t g (lay vs o cs) → Wr g w w' → wpListIn Fe qn P ops Q rest (a.put op.dst undef) w') : wpListIn Fe qn P ops Q (op :: rest) a w := by
  obtain ⟨d, hd1, hd2⟩ := R.ht
  have hst := R.store h o hm hl h1
  refine wpListIn_exec_skip hgd (by simp [Oper.about, ho, resolve, Target.leads, Sem.run_pure]) (by rw [ho]; intro c hc; cases hc) (w' := w.setCells g o cs) ?_ (hq _ (h.setCells o cs (by omega)) (Wr.setCells g o cs w))
  unfold execOp
  simp only [ho, hx, hy, Instr.storeAt, Instr.sureAddr, Sem.run_bind, Sem.run_pure, Result.andThen_ok, hst]
theorem at_loadI (ty : TypeId) (x : Operand) (ho : op.op = .load ty x) (h : wpListIn Fe qn P ops Q (op :: rest) a w) : wpListIn Fe qn P ops Q (op :: rest) a w := h
theorem at_storeI (ty : TypeId) (x y : Operand) (ho : op.op = .store ty x y) (h : wpListIn Fe qn P ops Q (op :: rest) a w) : wpListIn Fe qn P ops Q (op :: rest) a w := h
variable {e : TypeId} {zs us : List Value} {bytes : Nat} {F : Nat → Prop} {A B : Option Addr} {n c d : Nat}
theorem wpListIn_append_lstR (E : EltS P t e zs bytes) (hgd : op.guard = none) (s x : Operand)
    (ho : op.op = .call { callee := .builtin .append, args := #[s, x], argTypes := #[t, t] })
    (hs : a.eval s = .slice A n c) (h : LstR zs.length e F w A n c cs) (hx : a.eval x = .slice B m d) (hu : RdR zs.length w B m d us) (hlen : (n + m) * bytes ≤ 140737488355328)
    (hq : ∀ v w', ApdR zs.length e F w v (cs ++ us) w' → wpListIn Fe qn P ops Q rest (a.put op.dst v) w') : wpListIn Fe qn P ops Q (op :: rest) a w := by
  obtain ⟨v, w', hrun, hap⟩ := run_append_lstR E op.type h hu hlen
  refine wpListIn_plain hgd fun K hK => ?_
  unfold Oper.wpIn
  refine ⟨?_, ?_⟩
  · simp [Oper.about, ho, resolve, Target.leads, Sem.run_pure]
  · rw [Oper.semAt_plain Fe _ _ (by rw [ho]; intro c hc'; cases hc')]
    simp [execOp, ho, resolve, invoke, builtin, hs, hx, hrun, Result.andThen]
    exact hK _ _ (hq v w' hap)
theorem wpListIn_build_row (E : EltS P t e zs bytes) (hgd : op.guard = none) (s : Operand)
    (ho : op.op = .buildSlice t 1 #[(0, s)]) {xs : List Value} (hs : a.eval s = .agg xs.toArray) (hx : xs.length = zs.length)
    (hq : wpListIn Fe qn P ops Q rest (a.put op.dst (.slice (some ⟨w.heap.size, 0, none⟩) 1 1)) (w.alloc (.cells xs.toArray e))) : wpListIn Fe qn P ops Q (op :: rest) a w := by
  have hr := E.build_one hx w
  refine wpListIn_exec hgd (by simp [Oper.about, ho, resolve, Target.leads, Sem.run_pure]) (by rw [ho]; intro c hc; cases hc) ?_ hq
  simp only [execOp, ho, List.map_toArray, List.map_cons, List.map_nil, hs, Sem.run_bind, Sem.run_pure, hr, Result.andThen_ok]
end
end Go.Proofs.YtdepbdmnkkkjlaaDoor
