/- Keys, what is known of one, as values; lists of them; the map in memory: looked up, stored into, deleted from. -/
import Derived.Test.YtdldocbfnjbhmaaLsr
import Derived.Maps.OwnSet
import Derived.Laws.StructEq
import Derived.MapKept
import Derived.ChangeMaps4
set_option linter.unusedSimpArgs false
set_option linter.unusedVariables false
set_option maxRecDepth 100000
namespace Go.Proofs.Ytdldocbfnjbhmaa
open Go.RowKit Go.Shelf

structure Ky where
  s : Int
  c : Int
deriving DecidableEq
/-- A known key: its class, what is pending, what was issued. -/
structure Kn where
  k : Ky
  g : Int
  p : Int
  i : Int
def Ky.cl (k : Ky) : List Value := [.int .i64 k.s, .int .i64 k.c]
def Kn.cl (x : Kn) : List Value := [.int .i64 x.k.s, .int .i64 x.k.c, .int .i64 x.g, .int .i64 x.p, .int .i64 x.i]
def zK : Ky := ⟨0, 0⟩
def zKn : Kn := ⟨zK, 0, 0, 0⟩
def zsK : List Value := [.int .i64 0, .int .i64 0]
def zsN : List Value := [.int .i64 0, .int .i64 0, .int .i64 0, .int .i64 0, .int .i64 0]
theorem Ky.cl_len (k : Ky) : k.cl.length = 2 := rfl
theorem Kn.cl_len (x : Kn) : x.cl.length = 5 := rfl
theorem Ky.cl_one (k : Ky) : ∀ v ∈ k.cl, v.oneCell' = true := by
  intro v hv
  simp only [Ky.cl, List.mem_cons, List.not_mem_nil, or_false] at hv
  rcases hv with rfl | rfl <;> rfl
theorem Kn.cl_one (x : Kn) : ∀ v ∈ x.cl, v.oneCell' = true := by
  intro v hv
  simp only [Kn.cl, List.mem_cons, List.not_mem_nil, or_false] at hv
  rcases hv with rfl | rfl | rfl | rfl | rfl <;> rfl
theorem eltK : EltS Try.prog 56 39 zsK 16 := ⟨rfl, by kernel_rfl, by intro v hv; exact zK.cl_one v hv, by decide, by decide, ⟨_, rfl, by decide⟩, by decide⟩
theorem eltRK : EltS Try.prog 28 35 zsK 16 := ⟨rfl, by kernel_rfl, by intro v hv; exact zK.cl_one v hv, by decide, by decide, ⟨_, rfl, by decide⟩, by decide⟩
theorem eltN : EltS Try.prog 27 50 zsN 40 := ⟨rfl, by kernel_rfl, by intro v hv; exact zKn.cl_one v hv, by decide, by decide, ⟨_, rfl, by decide⟩, by decide⟩
theorem rowK : Row Try.prog 39 2 := eltK.row
theorem rowRK : Row Try.prog 35 2 := eltRK.row
theorem rowN : Row Try.prog 50 5 := eltN.row
theorem rowA : Row Try.prog 76 3 := ⟨⟨_, rfl, by decide⟩, by kernel_rfl⟩

/-! Keys compared. -/
theorem Ky.eq_iff {a b : Ky} : a = b ↔ a.s = b.s ∧ a.c = b.c := by
  cases a; cases b; simp
theorem key_eq (a b : Ky) (w : World) : (Op.equal 39 (.agg #[.int .i64 a.s, .int .i64 a.c]) (.agg #[.int .i64 b.s, .int .i64 b.c])).run Try.prog w = .ok (decide (a = b)) w := by
  have ht : Try.prog.underlying 39 = some (.struct (Try.prog.fieldsOf 39)) := by kernel_rfl
  have hp : Try.prog.stoodInHeld 39 = false := by kernel_rfl
  have hf : (Try.prog.fieldsOf 39).toList.map (fun f => (f.name, f.type, f.offset)) = [("Src", 3, 0), ("Conn", 3, 1)] := by kernel_rfl
  have hi : Try.prog.underlying 3 = some (.int .i64) := rfl
  show (Op.equalIn 10000 39 (.agg #[.int .i64 a.s, .int .i64 a.c]) (.agg #[.int .i64 b.s, .int .i64 b.c])).run Try.prog w = _
  rw [run_equalIn_struct w 9999 39 _ _ ht hp]
  generalize (Try.prog.fieldsOf 39).toList = fs at hf
  obtain ⟨f1, f2, rfl⟩ : ∃ f1 f2, fs = [f1, f2] := by
    have hl := congrArg List.length hf
    cases fs with
    | nil => simp at hl
    | cons f1 fs =>
      cases fs with
      | nil => simp at hl
      | cons f2 fs =>
        cases fs with
        | nil => exact ⟨f1, f2, rfl⟩
        | cons f3 fs => simp at hl
  simp only [List.map_cons, List.map_nil, List.cons.injEq, Prod.mk.injEq, and_true] at hf
  obtain ⟨⟨n1, t1, o1⟩, n2, t2, o2⟩ := hf
  have hag : ∀ W, (isAgg 3).run Try.prog W = .ok false W := by
    intro W; unfold isAgg; rw [Sem.run_bind, run_underlying hi W]; rfl
  have hE : ∀ (x y : Int) W, (Op.equalIn 9999 3 (.int .i64 x) (.int .i64 y)).run Try.prog W = .ok (x == y) W := fun x y W => run_equalIn_int W 9998 _ _ _ x y hi
  simp only [Op.eqFields, n1, n2, t1, t2, o1, o2, part, Sem.run_bind, hag, Result.andThen_ok]
  by_cases h1 : a.s = b.s <;> by_cases h2 : a.c = b.c <;> simp [h1, h2, Ky.eq_iff, hE]

/-! ### The map -/
/-- Block b is a map whose entries are those of L, in the order in which they came. -/
def MpB (w : World) (b : Nat) (L : List Kn) : Prop := ∃ es clock, w.heap[b]? = some (.map es clock) ∧ es.toList.map (fun e => (e.key, e.val)) = L.map fun x => (.agg #[.int .i64 x.k.s, .int .i64 x.k.c], .agg #[.int .i64 x.g, .int .i64 x.p, .int .i64 x.i])
/-- L has the key k at place i; L has it not. -/
def Got (L : List Kn) (k : Ky) (i : Nat) (x : Kn) : Prop := L[i]? = some x ∧ x.k = k ∧ ∀ j y, j < i → L[j]? = some y → y.k ≠ k
def Lacks (L : List Kn) (k : Ky) : Prop := ∀ x ∈ L, x.k ≠ k
section
variable {w w' : World} {b : Nat} {L : List Kn} {k : Ky} {i : Nat} {x : Kn}
theorem got_or (L : List Kn) (k : Ky) : (∃ i x, Got L k i x) ∨ Lacks L k := by
  induction L with
  | nil => exact .inr (by intro x hx; cases hx)
  | cons y l ih =>
    by_cases hy : y.k = k
    · exact .inl ⟨0, y, rfl, hy, fun j _ hj => by omega⟩
    · rcases ih with ⟨i, x, h1, h2, h3⟩ | h
      · refine .inl ⟨i + 1, x, by simpa using h1, h2, fun j z hj hz => ?_⟩
        cases j with
        | zero => simp at hz; subst hz; exact hy
        | succ j => exact h3 j z (by omega) (by simpa using hz)
      · refine .inr fun z hz => ?_
        rcases List.mem_cons.1 hz with rfl | hz
        · exact hy
        · exact h z hz
theorem Got.lt (h : Got L k i x) : i < L.length := (List.getElem?_eq_some_iff.1 h.1).1
theorem Got.mem (h : Got L k i x) : x ∈ L := List.mem_of_getElem? h.1
theorem Got.key (h : Got L k i x) : x.k = k := h.2.1
theorem MpB.lt (h : MpB w b L) : b < w.heap.size := by
  obtain ⟨es, clock, hb, _⟩ := h
  exact (Array.getElem?_eq_some_iff.1 hb).1
theorem MpB.st (h : MpB w b L) {G : Nat → Prop} (hs : St G w w') (hG : ¬ G b) : MpB w' b L := by
  have hlt := h.lt
  obtain ⟨es, clock, hb, he⟩ := h
  exact ⟨es, clock, (hs.block b hlt hG).trans hb, he⟩
theorem MpB.below (h : MpB w b L) (hb : Below w.heap.size w w') : MpB w' b L := h.st (G := fun _ => False) (St.ext hb) id
theorem MpB.new (w : World) : MpB (w.alloc (.map #[] 0)) w.heap.size [] := ⟨#[], 0, heap_alloc_new w _, rfl⟩
theorem st_block (w : World) (b : Nat) (o : Obj) : St (· = b) w { w with heap := w.heap.setIfInBounds b o } := by
  refine ⟨rfl, rfl, rfl, by simp, fun k hk hn => ?_⟩
  simp only
  rw [Array.getElem?_setIfInBounds_ne (Ne.symm hn)]
theorem check_key (em : Bool) (w : World) : (Instr.checkKey em 10000 39 (.agg #[.int .i64 k.s, .int .i64 k.c])).run Try.prog w = .ok () w := by
  cases em <;> kernel_rfl
theorem find_go (k : Ky) (w : World) : ∀ (es : List MapEntry) (L : List Kn) (n : Nat), es.map (fun e => (e.key, e.val)) = L.map (fun x => (.agg #[.int .i64 x.k.s, .int .i64 x.k.c], .agg #[.int .i64 x.g, .int .i64 x.p, .int .i64 x.i])) →
    (Lacks L k → (Instr.findAsking 39 (.agg #[.int .i64 k.s, .int .i64 k.c]) es n).run Try.prog w = .ok none w) ∧ ∀ i x, Got L k i x → (Instr.findAsking 39 (.agg #[.int .i64 k.s, .int .i64 k.c]) es n).run Try.prog w = .ok (some (n + i, .agg #[.int .i64 x.g, .int .i64 x.p, .int .i64 x.i])) w
  | [], L, n, h => by
    obtain rfl : L = [] := by simpa using h.symm
    refine ⟨fun _ => by simp [Instr.findAsking], fun i x hx => ?_⟩
    have := hx.1; simp at this
  | e :: es, [], n, h => by simp at h
  | e :: es, y :: l, n, h => by
    simp only [List.map_cons, List.cons.injEq, Prod.mk.injEq] at h
    obtain ⟨⟨h1, h2⟩, h3⟩ := h
    obtain ⟨i1, i2⟩ := find_go k w es l (n + 1) h3
    simp only [Instr.findAsking, Sem.run_bind, h1, key_eq, Result.andThen_ok, Sem.run_ite]
    refine ⟨fun hl => ?_, fun i x hx => ?_⟩
    · have hne : ¬ k = y.k := fun e => hl y (by simp) e.symm
      simp only [hne, decide_false, Bool.false_eq_true, if_false]
      exact i1 fun z hz => hl z (by simp [hz])
    · cases i with
      | zero =>
        obtain ⟨g1, g2, _⟩ := hx
        simp at g1; subst g1
        simp [g2, h2]
      | succ i =>
        have hne : ¬ k = y.k := fun e => hx.2.2 0 y (by omega) rfl e.symm
        simp only [hne, decide_false, Bool.false_eq_true, if_false]
        rw [show n + (i + 1) = n + 1 + i from by omega]
        exact i2 i x ⟨by simpa using hx.1, hx.2.1, fun j z hj hz => hx.2.2 (j + 1) z (by omega) (by simpa using hz)⟩
theorem find_key (k : Ky) (w : World) (es : List MapEntry) : (Instr.findKey 39 (.agg #[.int .i64 k.s, .int .i64 k.c]) es).run Try.prog w = (Instr.findAsking 39 (.agg #[.int .i64 k.s, .int .i64 k.c]) es).run Try.prog w :=
  run_findKey_eq w (by kernel_rfl) _ _
theorem tyM : Try.prog.underlying 65 = some (.map 39 76) := rfl
theorem look_hit (h : MpB w b L) (hg : Got L k i x) : (Instr.lookup 65 (.map (some b)) (.agg #[.int .i64 k.s, .int .i64 k.c]) true).run Try.prog w = .ok (.tuple #[.agg #[.int .i64 x.g, .int .i64 x.p, .int .i64 x.i], .bool true]) w := by
  obtain ⟨es, clock, hb, he⟩ := h
  have h1 := (find_go k w es.toList L 0 he).2 i x hg
  simp [Instr.lookup, run_underlying tyM, MapKept.run_getObj_map hb, check_key, find_key, h1, Result.andThen]
theorem look_at (h : MpB w b L) (hg : Got L k i x) : (Instr.lookup 65 (.map (some b)) (.agg #[.int .i64 k.s, .int .i64 k.c]) false).run Try.prog w = .ok (.agg #[.int .i64 x.g, .int .i64 x.p, .int .i64 x.i]) w := by
  obtain ⟨es, clock, hb, he⟩ := h
  have h1 := (find_go k w es.toList L 0 he).2 i x hg
  simp [Instr.lookup, run_underlying tyM, MapKept.run_getObj_map hb, check_key, find_key, h1, Result.andThen]
theorem look_miss (h : MpB w b L) (hg : Lacks L k) : (Instr.lookup 65 (.map (some b)) (.agg #[.int .i64 k.s, .int .i64 k.c]) true).run Try.prog w = .ok (.tuple #[.agg #[.int .i64 0, .int .i64 0, .int .i64 0], .bool false]) w := by
  obtain ⟨es, clock, hb, he⟩ := h
  have h1 := (find_go k w es.toList L 0 he).1 hg
  have hz : (zeroValue 76).run Try.prog w = .ok (.agg #[.int .i64 0, .int .i64 0, .int .i64 0]) w := by kernel_rfl
  simp [Instr.lookup, run_underlying tyM, MapKept.run_getObj_map hb, check_key, find_key, h1, hz, Result.andThen]
theorem map_len (h : MpB w b L) (ty : TypeId) : (Builtin.len_ #[65] ty #[.map (some b)]).run Try.prog w = .ok (.int .i64 L.length) w := by
  obtain ⟨es, clock, hb, he⟩ := h
  have hl : es.size = L.length := by have := congrArg List.length he; simpa using this
  simp [Builtin.len_, run_underlying tyM, MapKept.run_getObj_map hb, goInt, Result.andThen, hl]
theorem store_new (h : MpB w b L) (hg : Lacks L k) {y : Kn} (hy : y.k = k) : ∃ w', (Instr.mapUpdate 65 (.map (some b)) (.agg #[.int .i64 k.s, .int .i64 k.c]) (.agg #[.int .i64 y.g, .int .i64 y.p, .int .i64 y.i])).run Try.prog w = .ok () w' ∧ MpB w' b (L ++ [y]) ∧ St (· = b) w w' := by
  have hlt := h.lt
  obtain ⟨es, clock, hb, he⟩ := h
  have h1 := (find_go k w es.toList L 0 he).1 hg
  refine ⟨_, by simp [Instr.mapUpdate, run_underlying tyM, MapKept.run_getObj_map hb, check_key, find_key, h1, MapKept.run_setObj_map _ hb, Result.andThen]; rfl, ⟨_, _, by simp [hlt]; exact ⟨rfl, rfl⟩, ?_⟩, st_block _ _ _⟩
  subst hy
  simp [he]
theorem modify_pairs (es : List MapEntry) (L : List Kn) (i : Nat) (y : Kn) (h : es.map (fun e => (e.key, e.val)) = L.map (fun x => (.agg #[.int .i64 x.k.s, .int .i64 x.k.c], .agg #[.int .i64 x.g, .int .i64 x.p, .int .i64 x.i]))) :
    (es.modify i fun e => { e with key := .agg #[.int .i64 y.k.s, .int .i64 y.k.c], val := .agg #[.int .i64 y.g, .int .i64 y.p, .int .i64 y.i] }).map (fun e => (e.key, e.val)) = (L.set i y).map fun x => (.agg #[.int .i64 x.k.s, .int .i64 x.k.c], .agg #[.int .i64 x.g, .int .i64 x.p, .int .i64 x.i]) := by
  induction es generalizing L i with
  | nil =>
    obtain rfl : L = [] := by simpa using h.symm
    simp
  | cons e es ih =>
    cases L with
    | nil => simp at h
    | cons x l =>
      simp only [List.map_cons, List.cons.injEq] at h
      cases i with
      | zero => simp [h.2]
      | succ i => simp [h.1, ih l i h.2]
theorem store_old (h : MpB w b L) (hg : Got L k i x) {y : Kn} (hy : y.k = k) : ∃ w', (Instr.mapUpdate 65 (.map (some b)) (.agg #[.int .i64 k.s, .int .i64 k.c]) (.agg #[.int .i64 y.g, .int .i64 y.p, .int .i64 y.i])).run Try.prog w = .ok () w' ∧ MpB w' b (L.set i y) ∧ St (· = b) w w' := by
  have hlt := h.lt
  obtain ⟨es, clock, hb, he⟩ := h
  have h1 := (find_go k w es.toList L 0 he).2 i x hg
  have hi : i < es.size := by have := congrArg List.length he; have := hg.lt; simp at *; omega
  have hk : es[i].key = .agg #[.int .i64 k.s, .int .i64 k.c] := by
    have h2 := congrArg (fun l => l[i]?) he
    simp only [List.getElem?_map, hg.1, Option.map_some, Array.getElem?_toList, Array.getElem?_eq_getElem hi] at h2
    have h3 := congrArg Prod.fst (Option.some.inj h2)
    simp only at h3
    rw [h3, hg.2.1]
  have hs : (Instr.keyThatStays (.agg #[.int .i64 k.s, .int .i64 k.c]) (.agg #[.int .i64 k.s, .int .i64 k.c])).run Try.prog w = .ok (.agg #[.int .i64 k.s, .int .i64 k.c]) w := by
    unfold Instr.keyThatStays
    rw [if_pos (by simp [Instr.sameBits])]
    simp
  refine ⟨_, by simp [Instr.mapUpdate, run_underlying tyM, MapKept.run_getObj_map hb, check_key, find_key, h1, hi, hk, hs, MapKept.run_setObj_map _ hb, Result.andThen]; rfl, ⟨_, _, by simp [hlt]; exact ⟨rfl, rfl⟩, ?_⟩, st_block _ _ _⟩
  subst hy
  rw [Array.toList_modify]
  exact modify_pairs es.toList L i y he
theorem erase_map {α β : Type} (f : α → β) : ∀ (l : List α) (j : Nat), (l.eraseIdx j).map f = (l.map f).eraseIdx j
  | [], _ => by simp
  | _ :: _, 0 => by simp
  | a :: r, j + 1 => by simp [erase_map f r j]
theorem drop_old (h : MpB w b L) (hg : Got L k i x) (ty : TypeId) : ∃ w', (Builtin.delete_ #[65, 39] ty #[.map (some b), .agg #[.int .i64 k.s, .int .i64 k.c]]).run Try.prog w = .ok (.tuple #[]) w' ∧ MpB w' b (L.eraseIdx i) ∧ St (· = b) w w' := by
  have hlt := h.lt
  obtain ⟨es, clock, hb, he⟩ := h
  have h1 := (find_go k w es.toList L 0 he).2 i x hg
  have hi : i < es.size := by have := congrArg List.length he; have := hg.lt; simp at *; omega
  refine ⟨_, by simp [Builtin.delete_, run_underlying tyM, MapKept.run_getObj_map hb, check_key, find_key, h1, MapKept.run_setObj_map _ hb, Result.andThen]; rfl, ⟨_, _, by simp [hlt]; exact ⟨rfl, rfl⟩, ?_⟩, st_block _ _ _⟩
  rw [Array.eraseIdxIfInBounds_eq, dif_pos hi, Array.toList_eraseIdx, erase_map, erase_map, he]
end
section
variable {w : World} {ops : Array Oper} {rest : List Oper} {o : Oper} {a : Act} {Q : Exit → Act → World → Prop} {b : Nat} {L : List Kn} {k : Ky} {i : Nat} {x : Kn}
theorem wpList_store_new (hg : o.guard = none) (m x v : Operand) (hop : o.op = Op.mapUpdate 65 m x v) (hm : a.eval m = .map (some b)) (h : MpB w b L) (k : Ky) (hx : a.eval x = .agg #[.int .i64 k.s, .int .i64 k.c]) (hl : Lacks L k) (y : Kn) (hy : y.k = k) (hv : a.eval v = .agg #[.int .i64 y.g, .int .i64 y.p, .int .i64 y.i])
    (hK : ∀ w', MpB w' b (L ++ [y]) → St (· = b) w w' → wpList Try.prog ops Q rest (a.put o.dst undef) w') : wpList Try.prog ops Q (o :: rest) a w := by
  refine wpList_plain hg fun K' hK' => ?_
  obtain ⟨w', hrun, r1, r2⟩ := store_new h hl hy
  unfold Oper.wp
  simp [execOp, hop, hm, hx, hv, hrun, Result.andThen]
  exact hK' _ _ (hK w' r1 r2)
theorem wpList_store_old (hg : o.guard = none) (m x v : Operand) (hop : o.op = Op.mapUpdate 65 m x v) (hm : a.eval m = .map (some b)) (h : MpB w b L) (k : Ky) (hx : a.eval x = .agg #[.int .i64 k.s, .int .i64 k.c]) {x0 : Kn} (hl : Got L k i x0) (y : Kn) (hy : y.k = k) (hv : a.eval v = .agg #[.int .i64 y.g, .int .i64 y.p, .int .i64 y.i])
    (hK : ∀ w', MpB w' b (L.set i y) → St (· = b) w w' → wpList Try.prog ops Q rest (a.put o.dst undef) w') : wpList Try.prog ops Q (o :: rest) a w := by
  refine wpList_plain hg fun K' hK' => ?_
  obtain ⟨w', hrun, r1, r2⟩ := store_old h hl hy
  unfold Oper.wp
  simp [execOp, hop, hm, hx, hv, hrun, Result.andThen]
  exact hK' _ _ (hK w' r1 r2)
theorem wpList_drop_old (hg : o.guard = none) (m x : Operand) (hop : o.op = Op.call { callee := Callee.builtin Builtin.delete, args := #[m, x], argTypes := #[65, 39] }) (hm : a.eval m = .map (some b)) (h : MpB w b L) (k : Ky) (hx : a.eval x = .agg #[.int .i64 k.s, .int .i64 k.c]) {x0 : Kn} (hl : Got L k i x0)
    (hK : ∀ w', MpB w' b (L.eraseIdx i) → St (· = b) w w' → wpList Try.prog ops Q rest (a.put o.dst (.tuple #[])) w') : wpList Try.prog ops Q (o :: rest) a w := by
  refine wpList_plain hg fun K' hK' => ?_
  obtain ⟨w', hrun, r1, r2⟩ := drop_old h hl o.type
  unfold Oper.wp
  simp [execOp, hop, resolve, invoke, builtin, hm, hx, hrun, Result.andThen]
  exact hK' _ _ (hK w' r1 r2)
end
end Go.Proofs.Ytdldocbfnjbhmaa
