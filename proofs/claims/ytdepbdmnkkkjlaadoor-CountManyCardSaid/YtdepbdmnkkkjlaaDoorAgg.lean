/- Rows and structs by value, out of and into a block that is known whole. -/
import Derived.Test.YtdepbdmnkkkjlaaDoorLst
import Derived.Deep.MidRow
import Derived.Deep.WholeRow
import Derived.DeepKeys
set_option linter.unusedSimpArgs false
set_option linter.unusedVariables false
namespace Go.Proofs.YtdepbdmnkkkjlaaDoor
open Go.RowKit Go.Shelf

/-- In P, a variable of type t is a row or a struct of m cells. -/
structure Row (P : Program) (t : TypeId) (m : Nat) : Prop where
  ht : ∃ d, P.underlying t = some d ∧ d.isRow = true
  hi : (P.info? t).map (·.size) = some m
section
variable {P : Program} {w w' : World} {t ty : TypeId} {g m : Nat} {vs : List Value}
theorem Bk.range (h : Bk w t g vs) (o : Nat) {cs : List Value} (hcs : (vs.drop o).take cs.length = cs) : w.rangeAt g o cs := fun j v hv => by
  refine h.cell (o + j) ?_
  rw [← hcs, List.getElem?_take] at hv
  split at hv
  · rw [List.getElem?_drop] at hv; exact hv
  · cases hv
theorem Bk.there (h : Bk w t g vs) (o : Nat) {n : Nat} (hn : o + n ≤ vs.length) : w.there g o n := fun j hj => by
  refine ⟨?_, h.free _⟩
  rw [h.cell (o + j) (List.getElem?_eq_getElem (by omega))]; rfl
theorem Row.load (R : Row P ty m) (h : Bk w t g vs) (o : Nat) {cs : List Value} (hm : cs.length = m) (hcs : (vs.drop o).take cs.length = cs) : (loadVar ty ⟨g, o, none⟩).run P w = .ok (.agg cs.toArray) w := by
  obtain ⟨d, h1, h2⟩ := R.ht
  exact run_loadVar_mid w g o ty cs d (h.range o hcs) h1 h2 (by rw [hm]; exact R.hi)
theorem Row.loadAt (R : Row P ty m) (h : Bk w t g vs) (o : Nat) {cs : List Value} (hm : cs.length = m) (hcs : (vs.drop o).take cs.length = cs) : (Instr.loadAt ty (.pointer (some ⟨g, o, none⟩))).run P w = .ok (.agg cs.toArray) w := by
  obtain ⟨d, h1, h2⟩ := R.ht
  exact run_loadAt_mid w g o ty cs d (h.range o hcs) h1 h2 (by rw [hm]; exact R.hi)
/-- What a row of cells leaves of a block. -/
def lay (vs : List Value) (o : Nat) (cs : List Value) : List Value := vs.take o ++ cs ++ vs.drop (o + cs.length)
theorem lay_len (vs : List Value) (o : Nat) (cs : List Value) (h : o + cs.length ≤ vs.length) : (lay vs o cs).length = vs.length := by simp [lay]; omega
theorem lay_all (vs cs : List Value) (h : cs.length = vs.length) : lay vs 0 cs = cs := by simp [lay, h]
theorem lay_in (vs : List Value) (o : Nat) (cs : List Value) (h : o + cs.length ≤ vs.length) {i : Nat} (hi : i < cs.length) : (lay vs o cs)[o + i]? = cs[i]? := by
  unfold lay
  rw [List.append_assoc, List.getElem?_append_right (by simp; omega), List.length_take, List.getElem?_append_left (by omega)]
  congr 1; omega
theorem lay_out (vs : List Value) (o : Nat) (cs : List Value) (h : o + cs.length ≤ vs.length) {i : Nat} (hi : i < o ∨ o + cs.length ≤ i) : (lay vs o cs)[i]? = vs[i]? := by
  unfold lay
  rw [List.append_assoc]
  rcases hi with hi | hi
  · rw [List.getElem?_append_left (by simp; omega), List.getElem?_take, if_pos hi]
  · rw [List.getElem?_append_right (by simp; omega), List.length_take, List.getElem?_append_right (by omega), List.getElem?_drop]
    congr 1; omega
theorem Bk.setCells (h : Bk w t g vs) (o : Nat) (cs : List Value) (hl : o + cs.length ≤ vs.length) : Bk (w.setCells g o cs) t g (lay vs o cs) := by
  unfold Bk at h ⊢
  obtain ⟨cur', h1, h2, h3, h4⟩ := heap_setCells g t (0, 0) cs o w vs.toArray h (by simpa using hl)
  rw [h1]
  congr 2
  apply Array.ext_getElem?
  intro i
  rcases (by omega : (o ≤ i ∧ i < o + cs.length) ∨ (i < o ∨ o + cs.length ≤ i)) with hi | hi
  · obtain ⟨j, rfl⟩ := Nat.exists_eq_add_of_le hi.1
    rw [h3 j (by omega), List.getElem?_toArray, lay_in vs o cs hl (by omega)]
  · rw [h4 i hi, List.getElem?_toArray, List.getElem?_toArray, lay_out vs o cs hl hi]
theorem Wr.setCells (g o : Nat) (cs : List Value) (w : World) : Wr g w (w.setCells g o cs) := by
  have h := st_setCells (· = g) g rfl cs o w
  exact ⟨h.os, h.tape, h.output, h.size, fun k hk hn => h.block k hk fun e => hn (by rw [e])⟩
theorem Row.store (R : Row P ty m) (h : Bk w t g vs) (o : Nat) {cs : List Value} (hm : cs.length = m) (hl : o + m ≤ vs.length) (h1 : ∀ v ∈ cs, v.oneCell' = true) :
    (storeVar ty ⟨g, o, none⟩ (.agg cs.toArray)).run P w = .ok () (w.setCells g o cs) :=
  run_storeVar_mid w g o ty cs.toArray (h.there o (by simpa [hm] using hl)) (by simp only [List.size_toArray, hm]; exact R.hi) (all_oneCell_toArray h1)
section
variable {ops : Array Oper} {rest : List Oper} {op : Oper} {a : Act} {Q : Exit → Act → World → Prop}
theorem wpList_load_bk (R : Row P ty m) (hgd : op.guard = none) (x : Operand) (ho : op.op = .load ty x) (g o : Nat) (hx : a.eval x = .pointer (some ⟨g, o, none⟩)) (h : Bk w t g vs) (cs : List Value) (hm : cs.length = m)
    (hcs : (vs.drop o).take cs.length = cs) (hq : wpList P ops Q rest (a.put op.dst (.agg cs.toArray)) w) : wpList P ops Q (op :: rest) a w := by
  obtain ⟨d, h1, h2⟩ := R.ht
  exact wpList_load_mid hgd ty x ho g o hx cs d (h.range o hcs) h1 h2 (by rw [hm]; exact R.hi) hq
theorem wpList_load_bk_g (R : Row P ty m) (hw : Region.wanted op (yielded ops a.tmps) = true) (x : Operand) (ho : op.op = .load ty x) (g o : Nat) (hx : a.eval x = .pointer (some ⟨g, o, none⟩)) (h : Bk w t g vs) (cs : List Value) (hm : cs.length = m)
    (hcs : (vs.drop o).take cs.length = cs) (hq : wpList P ops Q rest (a.put op.dst (.agg cs.toArray)) w) : wpList P ops Q (op :: rest) a w := by
  obtain ⟨d, h1, h2⟩ := R.ht
  refine wpList_step (fun K hK => ?_)
  rw [if_pos hw]
  exact wp_load_mid ty x ho g o hx cs d (h.range o hcs) h1 h2 (by rw [hm]; exact R.hi) (hK _ _ hq)
theorem wpList_store_bk (R : Row P ty m) (hgd : op.guard = none) (x y : Operand) (ho : op.op = .store ty x y) (g o : Nat) (hx : a.eval x = .pointer (some ⟨g, o, none⟩)) (h : Bk w t g vs) (cs : List Value) (hy : a.eval y = .agg cs.toArray) (hm : cs.length = m)
    (hl : o + m ≤ vs.length) (h1 : ∀ v ∈ cs, v.oneCell' = true) (hq : ∀ w', Bk w' t g (lay vs o cs) → Wr g w w' → wpList P ops Q rest (a.put op.dst undef) w') : wpList P ops Q (op :: rest) a w :=
  wpList_store_mid hgd ty x y ho g o cs.toArray hx hy (h.there o (by simpa [hm] using hl)) (by simp only [List.size_toArray, hm]; exact R.hi) (all_oneCell_toArray h1)
    (hq _ (h.setCells o cs (by omega)) (Wr.setCells g o cs w))
end
/-- Guards of a walk's arms: the goal is a load of this, a store of that. -/
theorem at_load {ops : Array Oper} {rest : List Oper} {op : Oper} {a : Act} {Q : Exit → Act → World → Prop} (ty : TypeId) (x : Operand) (ho : op.op = .load ty x) (h : wpList P ops Q (op :: rest) a w) : wpList P ops Q (op :: rest) a w := h
theorem at_store {ops : Array Oper} {rest : List Oper} {op : Oper} {a : Act} {Q : Exit → Act → World → Prop} (ty : TypeId) (x y : Operand) (ho : op.op = .store ty x y) (h : wpList P ops Q (op :: rest) a w) : wpList P ops Q (op :: rest) a w := h
theorem exec_load_bk {op : Oper} {a : Act} (R : Row P ty m) (x : Operand) (ho : op.op = .load ty x) (g o : Nat) (hx : a.eval x = .pointer (some ⟨g, o, none⟩)) (h : Bk w t g vs) (cs : List Value) (hm : cs.length = m)
    (hcs : (vs.drop o).take cs.length = cs) : (execOp a.eval op).run P w = .ok (.value (.agg cs.toArray)) w := by
  unfold execOp
  simp only [ho, hx, Instr.loadAt, Instr.sureAddr, Sem.run_bind, Sem.run_pure, Result.andThen_ok, R.load h o hm hcs]
theorem asAddr_some {a : Addr} : (asAddr (.pointer (some a))).run P w = .ok a w := by simp [asAddr]
theorem results_cell {fn : Func} {s : Tmp} (h : fn.results = #[.cell s ty]) {tmps : Array Value} {a : Addr} (ha : tmps.getD s undef = .pointer (some a)) {v : Value} (hl : (loadVar ty a).run P w = .ok v w) :
    (results fn tmps).run P w = .ok v w := by
  rw [Array.getD_eq_getD_getElem?] at ha
  simp [results, h, ha, asAddr_some, hl]
theorem results_cell_tmp {fn : Func} {s u : Tmp} (h : fn.results = #[.cell s ty, .tmp u]) {tmps : Array Value} {a : Addr} (ha : tmps.getD s undef = .pointer (some a)) {v : Value} (hl : (loadVar ty a).run P w = .ok v w) :
    (results fn tmps).run P w = .ok (.tuple #[v, tmps.getD u undef]) w := by
  rw [Array.getD_eq_getD_getElem?] at ha
  simp [results, h, ha, asAddr_some, hl]
/-- In P, t is an array of n elements of type e, which are one cell each. -/
structure ArrE (P : Program) (t e : TypeId) (n : Nat) : Prop where
  ht : P.underlying t = some (.array n e)
  he : ∃ d, P.underlying e = some d ∧ d.isRow = false
  hi : (P.info? e).map (·.size) = some 1
theorem ArrE.index {e : TypeId} {n : Nat} (E : ArrE P t e n) (cs : Array Value) (k : Nat) (hk : k < n) (v : Value) (hv : cs[k]? = some v) : (Instr.index t (.agg cs) (.int .i64 k)).run P w = .ok v w := by
  obtain ⟨d, h1, h2⟩ := E.he
  have hagg : (isAgg e).run P w = .ok false w := by
    unfold isAgg
    rw [Sem.run_bind, run_underlying h1 w]
    cases d <;> simp_all
  cases hq : P.info? e with
  | none => have := E.hi; simp [hq] at this
  | some i =>
    have hs : i.size = 1 := by have := E.hi; simpa [hq] using this
    have hk' : (0 : Int) ≤ k ∧ (k : Int) < n := by omega
    simp [Instr.index, asIntOf, run_underlying E.ht, hk', sizeOf, typeInfo, hq, hs, part, hagg, hv]
    omega
theorem ArrE.part {e : TypeId} {n : Nat} (E : ArrE P t e n) {cs : Array Value} {k : Nat} {v : Value} (hv : cs[k]? = some v) : (part e cs (k * P.cellsOf e)).run P w = .ok v w := by
  obtain ⟨d, h1, h2⟩ := E.he
  have hagg : (isAgg e).run P w = .ok false w := by
    unfold isAgg
    rw [Sem.run_bind, run_underlying h1 w]
    cases d <;> simp_all
  have h1' : P.cellsOf e = 1 := by
    have := E.hi
    unfold Program.cellsOf
    cases hq : P.info? e with
    | none => simp [hq] at this
    | some i => simpa [hq] using this
  rw [h1', Nat.mul_one]
  simp [Go.part, hagg, hv]
/-- Two arrays are compared: their elements, one by one. -/
theorem ArrE.eqItems {α : Type} [DecidableEq α] {e : TypeId} {n dd : Nat} (E : ArrE P t e n) (f : α → Value) (hf : ∀ a b, (Op.equalIn dd e (f a) (f b)).run P w = .ok (decide (a = b)) w) (xs ys : List α) :
    ∀ (m k : Nat), k + m ≤ xs.length → k + m ≤ ys.length → (Op.eqItems dd e (P.cellsOf e) (xs.map f).toArray (ys.map f).toArray (List.range' k m)).run P w = .ok (decide ((xs.drop k).take m = (ys.drop k).take m)) w
  | 0, k, _, _ => by simp [Op.eqItems]
  | m + 1, k, hx, hy => by
    have ih := E.eqItems f hf xs ys m (k + 1) (by omega) (by omega)
    have h1 := E.part (w := w) (cs := (xs.map f).toArray) (k := k) (v := f xs[k]) (by simp; exact ⟨_, List.getElem?_eq_getElem (by omega), rfl⟩)
    have h2 := E.part (w := w) (cs := (ys.map f).toArray) (k := k) (v := f ys[k]) (by simp; exact ⟨_, List.getElem?_eq_getElem (by omega), rfl⟩)
    rw [List.range'_succ]
    simp only [Op.eqItems, Sem.run_bind, h1, h2, hf, Result.andThen_ok]
    rw [List.drop_eq_getElem_cons (show k < xs.length by omega), List.drop_eq_getElem_cons (show k < ys.length by omega), List.take_succ_cons, List.take_succ_cons]
    by_cases hxy : xs[k] = ys[k]
    · simp only [hxy, decide_true, Bool.not_true, Bool.false_eq_true, if_false, List.cons.injEq, true_and]
      exact ih
    · simp [hxy, Sem.run_pure]
theorem ArrE.neq {α : Type} [DecidableEq α] {e : TypeId} {n : Nat} (E : ArrE P t e n) (f : α → Value) (hf : ∀ a b, (Op.equalIn 9999 e (f a) (f b)).run P w = .ok (decide (a = b)) w) (xs ys : List α) (hx : xs.length = n) (hy : ys.length = n) :
    (binOp .neq t (.agg (xs.map f).toArray) (.agg (ys.map f).toArray)).run P w = .ok (.bool (!decide (xs = ys))) w := by
  have hi : ∃ i, P.info? e = some i := by
    have := E.hi
    cases hq : P.info? e with
    | none => simp [hq] at this
    | some i => exact ⟨i, rfl⟩
  obtain ⟨i, hi⟩ := hi
  have h := E.eqItems f hf xs ys n 0 (by omega) (by omega)
  rw [List.drop_zero, List.drop_zero, List.take_of_length_le (by omega), List.take_of_length_le (by omega), ← List.range_eq_range'] at h
  rw [run_neq_struct]
  have h2 := run_equalIn_array (P := P) w 9999 (xs.map f).toArray (ys.map f).toArray E.ht hi
  rw [h] at h2
  rw [h2]
  rfl
theorem ArrE.eql {α : Type} [DecidableEq α] {e : TypeId} {n : Nat} (E : ArrE P t e n) (f : α → Value) (hf : ∀ a b, (Op.equalIn 9999 e (f a) (f b)).run P w = .ok (decide (a = b)) w) (xs ys : List α) (hx : xs.length = n) (hy : ys.length = n) :
    (binOp .eql t (.agg (xs.map f).toArray) (.agg (ys.map f).toArray)).run P w = .ok (.bool (decide (xs = ys))) w := by
  have hi : ∃ i, P.info? e = some i := by
    have := E.hi
    cases hq : P.info? e with
    | none => simp [hq] at this
    | some i => exact ⟨i, rfl⟩
  obtain ⟨i, hi⟩ := hi
  have h := E.eqItems f hf xs ys n 0 (by omega) (by omega)
  rw [List.drop_zero, List.drop_zero, List.take_of_length_le (by omega), List.take_of_length_le (by omega), ← List.range_eq_range'] at h
  rw [run_eql_struct]
  have h2 := run_equalIn_array (P := P) w 9999 (xs.map f).toArray (ys.map f).toArray E.ht hi
  rw [h] at h2
  rw [h2]
  rfl
theorem eq_int {e : TypeId} {k : IntKind} (he : P.underlying e = some (.int k)) (dd : Nat) (a b : Int) : (Op.equalIn (dd + 1) e (.int k a) (.int k b)).run P w = .ok (decide (a = b)) w := by
  simp only [run_equalIn_int w dd e k k a b he]
  by_cases h : a = b <;> simp [h]
theorem eq_bool {e : TypeId} (he : P.underlying e = some .bool) (dd : Nat) (a b : Bool) : (Op.equalIn (dd + 1) e (.bool a) (.bool b)).run P w = .ok (decide (a = b)) w := by
  rw [run_equalIn_bool w dd e a b he]
  cases a <;> cases b <;> rfl
theorem exec_cmp_agg {op : Oper} {a : Act} {bo : BinOp} {x y : Operand} {t' : TypeId} (ho : op.op = .binOp bo t x y t') (hg : P.eqGuardType P.depth t = false) {cs ds : Array Value} (hx : a.eval x = .agg cs) (hy : a.eval y = .agg ds) {b : Bool}
    (h : (binOp bo t (.agg cs) (.agg ds)).run P w = .ok (.bool b) w) : (execOp a.eval op).run P w = .ok (.value (.bool b)) w := by
  unfold execOp
  simp only [ho, hx, hy, Sem.run_bind, run_eqGuard_agg w bo t x y cs ds hg, Result.andThen_ok, h, Sem.run_pure]
theorem exec_build {op : Oper} {a : Act} {parts : Array (Nat × Operand)} (ho : op.op = .build t parts) {vs' : Array (Nat × Value)} (hv : (parts.map fun (i, x) => (i, a.eval x)) = vs') {v : Value}
    (h : (Instr.build t vs').run P w = .ok v w) : (execOp a.eval op).run P w = .ok (.value v) w := by
  unfold execOp
  simp only [ho, hv, Sem.run_bind, h, Result.andThen_ok, Sem.run_pure]
end
end Go.Proofs.YtdepbdmnkkkjlaaDoor
