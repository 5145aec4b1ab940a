/- Pieces that are kept; the map of them in memory: looked up, stored into, deleted from; a receiver by value. -/
import Derived.Test.YtmmjhijgedboiaaWW
import Derived.Test.YtmmjhijgedboiaaB4
import Derived.Test.YtmmjhijgedboiaaJ5
import Derived.Test.YtmmjhijgedboiaaJ12
import Derived.Maps.OwnSet
import Derived.Laws.StructEq
import Derived.MapKept
import Derived.ChangeMaps4
set_option linter.unusedSimpArgs false
set_option linter.unusedVariables false
set_option maxRecDepth 100000
namespace Go.Proofs.Ytmmjhijgedboiaa
open Go.RowKit Go.Shelf

/-- An entry: a piece that is kept, by its number. -/
structure Pe where
  k : Nat
  A : Option Addr
  n : Nat
  c : Nat
  xs : List Int
  en : Bool
  fi : Bool
def Pe.cl (x : Pe) : List Value := [.slice x.A x.n x.c, .bool x.en, .bool x.fi]
theorem Pe.cl_len (x : Pe) : x.cl.length = 3 := rfl
theorem Pe.cl_one (x : Pe) : ∀ v ∈ x.cl, v.oneCell' = true := by
  intro v hv
  simp only [Pe.cl, List.mem_cons, List.not_mem_nil, or_false] at hv
  rcases hv with rfl | rfl | rfl <;> rfl
theorem rowPc : Row Try.prog 104 3 := ⟨⟨_, rfl, by decide⟩, by kernel_rfl⟩
/-- It is what a packet had. -/
def Pe.mt (x : Pe) (p : Pk) : Prop := p.h.sq = x.k ∧ p.xs = x.xs ∧ hasB p.h.fl 2 = x.en ∧ hasB p.h.fl 4 = x.fi

/-! ### The map -/
/-- Block b is a map whose entries are those of L, in the order in which they came. -/
def MpI (w : World) (b : Nat) (L : List Pe) : Prop := ∃ es clock, w.heap[b]? = some (.map es clock) ∧ es.toList.map (fun e => (e.key, e.val)) = L.map fun x => (.int .i64 x.k, .agg #[.slice x.A x.n x.c, .bool x.en, .bool x.fi])
def Got (L : List Pe) (k : Nat) (i : Nat) (x : Pe) : Prop := L[i]? = some x ∧ x.k = k ∧ ∀ j y, j < i → L[j]? = some y → y.k ≠ k
def Lacks (L : List Pe) (k : Nat) : Prop := ∀ x ∈ L, x.k ≠ k
section
variable {w w' : World} {b : Nat} {L : List Pe} {k : Nat} {i : Nat} {x : Pe}
theorem Got.lt (h : Got L k i x) : i < L.length := (List.getElem?_eq_some_iff.1 h.1).1
theorem MpI.lt (h : MpI w b L) : b < w.heap.size := by
  obtain ⟨es, clock, hb, _⟩ := h
  exact (Array.getElem?_eq_some_iff.1 hb).1
theorem MpI.st (h : MpI w b L) {G : Nat → Prop} (hs : St G w w') (hG : ¬ G b) : MpI w' b L := by
  have hlt := h.lt
  obtain ⟨es, clock, hb, he⟩ := h
  exact ⟨es, clock, (hs.block b hlt hG).trans hb, he⟩
theorem MpI.below (h : MpI w b L) (hb : Below w.heap.size w w') : MpI w' b L := h.st (G := fun _ => False) (St.ext hb) id
theorem MpI.new (w : World) : MpI (w.alloc (.map #[] 0)) w.heap.size [] := ⟨#[], 0, heap_alloc_new w _, rfl⟩
theorem st_block (w : World) (b : Nat) (o : Obj) : St (· = b) w { w with heap := w.heap.setIfInBounds b o } := by
  refine ⟨rfl, rfl, rfl, by simp, fun k hk hn => ?_⟩
  simp only
  rw [Array.getElem?_setIfInBounds_ne (Ne.symm hn)]
theorem check_key (em : Bool) (w : World) (k : Int) : (Instr.checkKey em 10000 3 (.int .i64 k)).run Try.prog w = .ok () w := by
  cases em <;> kernel_rfl
theorem find_go (k : Nat) : ∀ (es : List MapEntry) (L : List Pe) (n : Nat), es.map (fun e => (e.key, e.val)) = L.map (fun x => (.int .i64 x.k, .agg #[.slice x.A x.n x.c, .bool x.en, .bool x.fi])) →
    (Lacks L k → Instr.findNow (.int .i64) (.int .i64 k) es n = some none) ∧ ∀ i x, Got L k i x → Instr.findNow (.int .i64) (.int .i64 k) es n = some (some (n + i, .agg #[.slice x.A x.n x.c, .bool x.en, .bool x.fi]))
  | [], L, n, h => by
    obtain rfl : L = [] := by simpa using h.symm
    refine ⟨fun _ => by simp [Instr.findNow], fun i x hx => ?_⟩
    have := hx.1; simp at this
  | e :: es, [], n, h => by simp at h
  | e :: es, y :: l, n, h => by
    simp only [List.map_cons, List.cons.injEq, Prod.mk.injEq] at h
    obtain ⟨⟨h1, h2⟩, h3⟩ := h
    obtain ⟨i1, i2⟩ := find_go k es l (n + 1) h3
    simp only [Instr.findNow, h1, Instr.sameNow, if_true]
    refine ⟨fun hl => ?_, fun i x hx => ?_⟩
    · have hne : ((k : Int) == y.k) = false := by
        have := hl y (by simp)
        simp only [beq_eq_false_iff_ne]; omega
      rw [hne]
      exact i1 fun z hz => hl z (by simp [hz])
    · cases i with
      | zero =>
        obtain ⟨g1, g2, _⟩ := hx
        simp at g1; subst g1
        simp [g2, h2]
      | succ i =>
        have hne : ((k : Int) == y.k) = false := by
          have := hx.2.2 0 y (by omega) rfl
          simp only [beq_eq_false_iff_ne]; omega
        rw [hne, show n + (i + 1) = n + 1 + i from by omega]
        exact i2 i x ⟨by simpa using hx.1, hx.2.1, fun j z hj hz => hx.2.2 (j + 1) z (by omega) (by simpa using hz)⟩
theorem tyI : Try.prog.underlying 3 = some (.int .i64) := rfl
theorem find_no (w : World) {es : List MapEntry} (he : es.map (fun e => (e.key, e.val)) = L.map (fun x => (.int .i64 x.k, .agg #[.slice x.A x.n x.c, .bool x.en, .bool x.fi]))) (h : Lacks L k) : (Instr.findKey 3 (.int .i64 k) es).run Try.prog w = .ok none w := MapKept.run_findKey tyI ((find_go k es L 0 he).1 h)
theorem find_at (w : World) {es : List MapEntry} (he : es.map (fun e => (e.key, e.val)) = L.map (fun x => (.int .i64 x.k, .agg #[.slice x.A x.n x.c, .bool x.en, .bool x.fi]))) (h : Got L k i x) : (Instr.findKey 3 (.int .i64 k) es).run Try.prog w = .ok (some (i, .agg #[.slice x.A x.n x.c, .bool x.en, .bool x.fi])) w := MapKept.run_findKey tyI (by have := (find_go k es L 0 he).2 i x h; rwa [Nat.zero_add] at this)
theorem tyM : Try.prog.underlying 86 = some (.map 3 104) := rfl
theorem look_at (h : MpI w b L) (hg : Got L k i x) : (Instr.lookup 86 (.map (some b)) (.int .i64 k) false).run Try.prog w = .ok (.agg #[.slice x.A x.n x.c, .bool x.en, .bool x.fi]) w := by
  obtain ⟨es, clock, hb, he⟩ := h
  have h1 := find_at w he hg
  simp [Instr.lookup, run_underlying tyM, MapKept.run_getObj_map hb, check_key, h1, Result.andThen]
theorem store_new (h : MpI w b L) {y : Pe} (hg : Lacks L y.k) : ∃ w', (Instr.mapUpdate 86 (.map (some b)) (.int .i64 y.k) (.agg #[.slice y.A y.n y.c, .bool y.en, .bool y.fi])).run Try.prog w = .ok () w' ∧ MpI w' b (L ++ [y]) ∧ St (· = b) w w' := by
  have hlt := h.lt
  obtain ⟨es, clock, hb, he⟩ := h
  have h1 := find_no w he hg
  refine ⟨_, by simp [Instr.mapUpdate, run_underlying tyM, MapKept.run_getObj_map hb, check_key, h1, MapKept.run_setObj_map _ hb, Result.andThen]; rfl, ⟨_, _, by simp [hlt]; exact ⟨rfl, rfl⟩, ?_⟩, st_block _ _ _⟩
  simp [he]
theorem erase_map {α β : Type} (f : α → β) : ∀ (l : List α) (j : Nat), (l.eraseIdx j).map f = (l.map f).eraseIdx j
  | [], _ => by simp
  | _ :: _, 0 => by simp
  | a :: r, j + 1 => by simp [erase_map f r j]
theorem drop_old (h : MpI w b L) (hg : Got L k i x) (ty : TypeId) : ∃ w', (Builtin.delete_ #[86, 3] ty #[.map (some b), .int .i64 k]).run Try.prog w = .ok (.tuple #[]) w' ∧ MpI w' b (L.eraseIdx i) ∧ St (· = b) w w' := by
  have hlt := h.lt
  obtain ⟨es, clock, hb, he⟩ := h
  have h1 := find_at w he hg
  have hi : i < es.size := by have := congrArg List.length he; have := hg.lt; simp at *; omega
  refine ⟨_, by simp [Builtin.delete_, run_underlying tyM, MapKept.run_getObj_map hb, check_key, h1, MapKept.run_setObj_map _ hb, Result.andThen]; rfl, ⟨_, _, by simp [hlt]; exact ⟨rfl, rfl⟩, ?_⟩, st_block _ _ _⟩
  rw [Array.eraseIdxIfInBounds_eq, dif_pos hi, Array.toList_eraseIdx, erase_map, erase_map, he]
/-- The entries by value: each is a packet's, each packet has one; their bytes lie in FP's blocks. -/
def Ent (FP : Nat → Prop) (w : World) (L : List Pe) (ks : List Pk) : Prop :=
  (L.map Pe.k).Nodup ∧ (∀ x ∈ L, (∃ p ∈ ks, x.mt p) ∧ BsR w x.A x.n x.c x.xs ∧ ∀ k, BlkOf x.A k → FP k) ∧ ∀ p ∈ ks, ∃ x ∈ L, x.mt p
def MpK (FP : Nat → Prop) (w : World) (b : Nat) (ks : List Pk) : Prop := ∃ L, MpI w b L ∧ Ent FP w L ks
/-- What an iterator over them wants: those of ks are there. -/
def MpR (w : World) (b : Nat) (ks : List Pk) : Prop := ∃ L, MpI w b L ∧ (L.map Pe.k).Nodup ∧ ∀ p ∈ ks, ∃ x ∈ L, x.mt p ∧ BsR w x.A x.n x.c x.xs
theorem MpK.rd {FP : Nat → Prop} {ks : List Pk} (h : MpK FP w b ks) : MpR w b ks := by
  obtain ⟨L, h1, h2, h3, h4⟩ := h
  refine ⟨L, h1, h2, fun p hp => ?_⟩
  obtain ⟨x, hx, hm⟩ := h4 p hp
  exact ⟨x, hx, hm, (h3 x hx).2.1⟩
theorem got_of (hn : (L.map Pe.k).Nodup) (hx : x ∈ L) : ∃ i, Got L x.k i x := by
  obtain ⟨i, hi, he⟩ := List.getElem_of_mem hx
  refine ⟨i, by rw [List.getElem?_eq_getElem hi, he], rfl, fun j y hj hy hk => ?_⟩
  have hj' : j < L.length := by omega
  rw [List.getElem?_eq_getElem hj'] at hy
  have h1 := (List.pairwise_iff_getElem.1 hn) j i (by simpa using hj') (by simpa using hi) hj
  simp only [List.getElem_map] at h1
  rw [Option.some.inj hy, he] at h1
  exact h1 hk
end
section
variable {w : World} {ops : Array Oper} {rest : List Oper} {o : Oper} {a : Act} {Q : Exit → Act → World → Prop} {b : Nat} {L : List Pe} {k : Nat} {i : Nat} {x : Pe}
theorem wpList_store_new (hg : o.guard = none) (m x v : Operand) (hop : o.op = Op.mapUpdate 86 m x v) (hm : a.eval m = .map (some b)) (h : MpI w b L) (y : Pe) (hx : a.eval x = .int .i64 y.k) (hl : Lacks L y.k) (hv : a.eval v = .agg #[.slice y.A y.n y.c, .bool y.en, .bool y.fi])
    (hK : ∀ w', MpI w' b (L ++ [y]) → St (· = b) w w' → wpList Try.prog ops Q rest (a.put o.dst undef) w') : wpList Try.prog ops Q (o :: rest) a w := by
  refine wpList_plain hg fun K' hK' => ?_
  obtain ⟨w', hrun, r1, r2⟩ := store_new h hl
  unfold Oper.wp
  simp [execOp, hop, hm, hx, hv, hrun, Result.andThen]
  exact hK' _ _ (hK w' r1 r2)
theorem wpList_drop_old (hg : o.guard = none) (m x : Operand) (hop : o.op = Op.call { callee := Callee.builtin Builtin.delete, args := #[m, x], argTypes := #[86, 3] }) (hm : a.eval m = .map (some b)) (h : MpI w b L) (k : Nat) (hx : a.eval x = .int .i64 k) {x0 : Pe} (hl : Got L k i x0)
    (hK : ∀ w', MpI w' b (L.eraseIdx i) → St (· = b) w w' → wpList Try.prog ops Q rest (a.put o.dst (.tuple #[])) w') : wpList Try.prog ops Q (o :: rest) a w := by
  refine wpList_plain hg fun K' hK' => ?_
  obtain ⟨w', hrun, r1, r2⟩ := drop_old h hl o.type
  unfold Oper.wp
  simp [execOp, hop, resolve, invoke, builtin, hm, hx, hrun, Result.andThen]
  exact hK' _ _ (hK w' r1 r2)
end

/-! ### By value -/
structure Rm where
  size : Nat
  base : Nat
  ks : List Pk
  pa : Nat
  sr : Int
  ds : Int
  cn : Int
  cl : Int
  ar : Nat
  pl : Nat
  pd : Nat
  dn : Bool
  jm : Jm
/-- Is a number kept? -/
def hasK (ks : List Pk) (n : Nat) : Bool := ks.any fun p => p.h.sq == (n : Int)
def Rm.bm (m : Rm) : Bm := ⟨m.size, m.base, hasK m.ks⟩
theorem hasK_iff {ks : List Pk} {n : Nat} : hasK ks n = true ↔ ∃ p ∈ ks, p.h.sq = n := by
  unfold hasK; rw [List.any_eq_true]
  constructor
  · rintro ⟨p, h1, h2⟩; exact ⟨p, h1, by simpa using h2⟩
  · rintro ⟨p, h1, h2⟩; exact ⟨p, h1, by simpa using h2⟩
/-- What advancing makes of what is kept: from a number on, with a Join, and messages so far. -/
structure Av where
  b : Nat
  ks : List Pk
  j : Jm
  out : List (List Int)
  fin : Bool
def avL (b : Nat) (j : Jm) (out : List (List Int)) : List Pk → Av
  | [] => ⟨b, [], j, out, false⟩
  | p :: t => if p.h.sq = b then (if hasB p.h.fl 4 = true then ⟨b + 1, [], j, out, true⟩ else avL (b + 1) (j.add p.xs (hasB p.h.fl 2)) (j.outs out p.xs (hasB p.h.fl 2)) t) else ⟨b, p :: t, j, out, false⟩
/-- One more, by rising numbers. -/
def insK (p : Pk) : List Pk → List Pk
  | [] => [p]
  | q :: t => if q.h.sq < p.h.sq then q :: insK p t else p :: q :: t
theorem mem_insK {p q : Pk} : ∀ {l : List Pk}, q ∈ insK p l ↔ q = p ∨ q ∈ l
  | [] => by simp [insK]
  | r :: t => by
    unfold insK
    split
    · simp only [List.mem_cons, mem_insK (l := t)]
      constructor
      · rintro (h | h | h) <;> simp [h]
      · rintro (h | h | h) <;> simp [h]
    · simp only [List.mem_cons]
theorem insK_len (p : Pk) : ∀ l : List Pk, (insK p l).length = l.length + 1
  | [] => rfl
  | r :: t => by
    unfold insK
    split
    · simp [insK_len p t]
    · simp
/-- Rising. -/
def Rise (l : List Pk) : Prop := l.Pairwise fun a b => a.h.sq < b.h.sq
theorem Rise.ins {p : Pk} : ∀ {l : List Pk}, Rise l → (∀ q ∈ l, q.h.sq ≠ p.h.sq) → Rise (insK p l)
  | [], _, _ => by simp [insK, Rise]
  | r :: t, h, hn => by
    unfold Rise at h
    rw [List.pairwise_cons] at h
    unfold insK
    split
    · rename_i hlt
      refine List.pairwise_cons.2 ⟨fun q hq => ?_, Rise.ins h.2 fun q hq => hn q (by simp [hq])⟩
      rcases mem_insK.1 hq with rfl | hq
      · exact hlt
      · exact h.1 q hq
    · rename_i hlt
      have := hn r (by simp)
      refine List.pairwise_cons.2 ⟨fun q hq => ?_, List.pairwise_cons.2 h⟩
      rcases List.mem_cons.1 hq with rfl | hq
      · omega
      · have := h.1 q hq; omega
/-- A receiver that may be, when called: its window, what is kept rises in it, its Join's counts are small. -/
structure Rm.Ok (m : Rm) : Prop where
  bo : m.bm.ok
  ri : Rise m.ks
  po : ∀ p ∈ m.ks, 0 ≤ p.h.sq
  n0 : 0 ≤ m.jm.N ∧ m.jm.N ≤ m.base
  t0 : 0 ≤ m.jm.T ∧ m.jm.T ≤ m.base * 65536
  p0 : m.jm.ps.length ≤ m.base
  lm : m.base + m.ks.length ≤ 1000000
  pa1 : 1 ≤ m.pa ∧ m.pa ≤ 8
  ct : m.ar ≤ 1000000000 ∧ m.pl + m.pd ≤ m.ar
  dk : m.dn = true → m.ks = []
  sh : ∀ p ∈ m.ks, p.xs.length ≤ 1100
end Go.Proofs.Ytmmjhijgedboiaa
