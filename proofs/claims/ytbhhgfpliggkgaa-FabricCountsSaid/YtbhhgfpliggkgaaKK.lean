/- Words of memory that this seat's walks use: a slice of integers that reads as a list; a slice of the call's own; blocks; regions whose order is open. -/
import Derived.Test.YtbhhgfpliggkgaaRows
import Derived.WalkKit
import Derived.ProofKit
import Derived.OpenShut
import Derived.ShutString
import Derived.ChangeOld
import Derived.Below
import Derived.Laws.OwnMore
import Derived.Laws.BitsLemmas
import Derived.Lib.Hide
import Derived.Deep.Draws
import Derived.Laws.CopyOwn
import Derived.Laws.BytesArg
import Derived.Laws.MakeOwn
import Derived.Maps.AppendAt
import Derived.OwnWalk
import Derived.RegionTactic
import Derived.Deep.AppendLies
import Derived.OrdersHeld
import Derived.Deep.RegionHeld3
import Derived.KernelRfl
import Derived.OrdersIn
import Derived.ControlIn
import Derived.RangeFuncCalls
import Derived.RangeFuncNested
import Derived.RangeFuncBound
import Derived.RangeFuncLeaves
import Derived.Shelf.Abstract
import Derived.Shelf.RegionOpen
import Derived.OwnWalkIn
import Derived.TacticsInMore
import Derived.LoopNIn
import Derived.LoopIn
import Derived.Lib.SlBytesConst
import Derived.Lib.SliceRun
import Derived.Lib.SmallJoins
set_option linter.unusedSimpArgs false
set_option linter.unusedVariables false
set_option linter.unnecessarySimpa false
namespace Go.Proofs.Ytbhhgfpliggkgaa
open Go.RowKit

/-- The slice (A, n, c) reads in w as the n integers xs, all of kind k. -/
def Rd (k : IntKind) (w : World) (A : Option Addr) (n c : Nat) (xs : List Int) : Prop :=
  xs.length = n ∧ n ≤ c ∧ c ≤ maxLen ∧ (A = none → c = 0) ∧ (∀ x ∈ xs, (Lit.int k x).wf = true) ∧
  (0 < n → ∃ g o, A = some ⟨g, o, none⟩ ∧ g < w.heap.size ∧ ∀ i, i < n → w.cell? ⟨g, o + i, none⟩ = some (.int k (xs.getD i 0)))

theorem ret_int {k : IntKind} {a b : Int} (h : a = b) : Ending.returned (.int k a) = .returned (.int k b) := by rw [h]
/-- Where x[s:] of a slice (A, n, c) of one-cell elements begins. -/
def cutA (A : Option Addr) (c s : Nat) : Option Addr := if c = s then A else A.map (·.add s)
theorem u8_bounds {x : Int} (h : (Lit.int .u8 x).wf = true) : 0 ≤ x ∧ x < 256 := by
  simp [Lit.wf, IntKind.min, IntKind.max, IntKind.signed, IntKind.bits] at h
  omega
theorem wraps_u64 (n : Int) (h₀ : 0 ≤ n) (h₁ : n < 2 ^ 64) : IntKind.u64.wrap n = n := by rw [IntKind.wrap_u64]; omega
theorem Below.drewN_ (w : World) (m : Nat) : Below w.heap.size w (w.drewN m) := ⟨rfl, rfl, rfl, Nat.le_refl _, fun _ _ => rfl⟩

/-! ### A slice that reads as a list -/
section
variable {k : IntKind} {w w' : World} {A : Option Addr} {n c : Nat} {xs : List Int}
theorem Rd.keep (h : Rd k w A n c xs) (hs : w.heap.size ≤ w'.heap.size) (hc : ∀ g o, g < w.heap.size → w'.cell? ⟨g, o, none⟩ = w.cell? ⟨g, o, none⟩) : Rd k w' A n c xs := by
  obtain ⟨h1, h2, h3, h4, h5, h6⟩ := h
  refine ⟨h1, h2, h3, h4, h5, fun hn => ?_⟩
  obtain ⟨g, o, e, hg, hx⟩ := h6 hn
  exact ⟨g, o, e, by omega, fun i hi => (hc _ _ hg).trans (hx i hi)⟩
theorem Rd.below (h : Rd k w A n c xs) (hb : Below w.heap.size w w') : Rd k w' A n c xs := h.keep hb.size fun _ _ hg => hb.cell hg
theorem Rd.belowB {B : Nat} (h : Rd k w A n c xs) (hb : Below B w w') (hB : w.heap.size ≤ B) : Rd k w' A n c xs := h.below (hb.mono hB)
theorem Rd.alloc (h : Rd k w A n c xs) (o : Obj) : Rd k (w.alloc o) A n c xs := h.below ((Below.refl _ _).alloc (Nat.le_refl _) o)
theorem Rd.nil (k : IntKind) (w : World) : Rd k w none 0 0 [] := ⟨rfl, Nat.le_refl _, Nat.zero_le _, fun _ => rfl, by simp, fun h => absurd h (by omega)⟩
theorem Rd.drew (h : Rd k w A n c xs) : Rd k w.drew A n c xs := h
theorem Rd.one (w : World) (e : TypeId) (x : Int) (hx : (Lit.int k x).wf = true) : Rd k (w.alloc (.cells #[.int k x] e)) (some ⟨w.heap.size, 0, none⟩) 1 1 [x] := by
  refine ⟨rfl, Nat.le_refl _, by decide, by simp, by simpa using hx, fun _ => ⟨w.heap.size, 0, rfl, by simp, fun i hi => ?_⟩⟩
  obtain rfl : i = 0 := by omega
  rw [cell_of_row _ _ _ _ _ _ (heap_alloc_new w _)]
  simp
theorem Rd.lit (w : World) (e : TypeId) (xs : List Int) (hx : ∀ x ∈ xs, (Lit.int k x).wf = true) (hl : xs.length ≤ 1000) : Rd k (w.alloc (.cells (xs.map (Value.int k)).toArray e)) (some ⟨w.heap.size, 0, none⟩) xs.length xs.length xs := by
  refine ⟨rfl, Nat.le_refl _, by simp only [maxLen]; omega, by simp, hx, fun _ => ⟨w.heap.size, 0, rfl, by simp, fun i hi => ?_⟩⟩
  rw [cell_of_row _ _ _ _ _ _ (heap_alloc_new w _)]
  simp [hi]
theorem Rd.pre (h : Rd k w A n c xs) {s : Nat} (hs : s ≤ n) : Rd k w A s c (xs.take s) := by
  obtain ⟨h1, h2, h3, h4, h5, h6⟩ := h
  refine ⟨by simp; omega, by omega, h3, h4, fun x hx => h5 x (List.mem_of_mem_take hx), fun hn => ?_⟩
  obtain ⟨g, o, e, hg, hx⟩ := h6 (by omega)
  refine ⟨g, o, e, hg, fun i hi => ?_⟩
  rw [hx i (by omega)]
  simp [hi]
theorem Rd.cut (h : Rd k w A n c xs) {s : Nat} (hs : s ≤ n) : Rd k w (cutA A c s) (n - s) (c - s) (xs.drop s) := by
  unfold cutA
  obtain ⟨h1, h2, h3, h4, h5, h6⟩ := h
  refine ⟨by simp; omega, by omega, by omega, ?_, fun x hx => h5 x (List.mem_of_mem_drop hx), fun hn => ?_⟩
  · split
    · omega
    · intro he
      have : A = none := by simpa using he
      have := h4 this
      omega
  · obtain ⟨g, o, rfl, hg, hx⟩ := h6 (by omega)
    rw [if_neg (by omega)]
    refine ⟨g, o + s, ?_, hg, fun i hi => ?_⟩
    · simp [Addr.add]
    · rw [show o + s + i = o + (s + i) from by omega, hx (s + i) (by omega)]
      simp
theorem Rd.cell (h : Rd k w A n c xs) {i : Nat} (hi : i < n) : ∃ g o, A = some ⟨g, o, none⟩ ∧ g < w.heap.size ∧ w.cell? ⟨g, o + i, none⟩ = some (.int k (xs.getD i 0)) := by
  obtain ⟨g, o, e, hg, hx⟩ := h.2.2.2.2.2 (by omega)
  exact ⟨g, o, e, hg, hx i hi⟩
end

/-! ### A slice of the call's own -/
/-- v is a slice of integers of kind k (their type: e) in a block from base on, whose elements are xs. -/
def Ow (k : IntKind) (e : TypeId) (base : Nat) (w : World) (v : Value) (xs : List Int) : Prop := w.ownsRow base e 1 v xs.length (xs.map (.int k))

section
variable {k : IntKind} {e : TypeId} {base : Nat} {w w' : World} {v : Value} {xs : List Int}
theorem Ow.rd (h : Ow k e base w v xs) (hwf : ∀ x ∈ xs, (Lit.int k x).wf = true) : ∃ A c, v = .slice A xs.length c ∧ Rd k w A xs.length c xs := by
  have h' : w.ownsRow base e 1 v xs.length (xs.map (.int k)) := h
  rcases h'.2 with ⟨rfl, h0⟩ | ⟨g, cap, cur, rfl, hb, hh, hc, hm, hs, ht⟩
  · obtain rfl : xs = [] := List.eq_nil_of_length_eq_zero h0
    exact ⟨none, 0, rfl, Rd.nil _ _⟩
  · refine ⟨_, cap, rfl, rfl, hc, hm, by simp, hwf, fun hn => ⟨g, 0, rfl, (h'.lt g rfl).2, fun i hi => ?_⟩⟩
    have hx := h'.cellAt i (by omega)
    rw [Nat.zero_add, hx, List.getElem?_map, List.getElem?_eq_getElem hi]
    simp [hi]
theorem Ow.keep (h : Ow k e base w v xs) {B : Nat} (hb : Below B w w') (hB : w.heap.size ≤ B) : Ow k e base w' v xs := by
  refine ⟨h.1, ?_⟩
  rcases h.2 with hn | ⟨g, cap, cur, hv, hg, hh, r⟩
  · exact .inl hn
  · have hlt : g < w.heap.size := (Array.getElem?_eq_some_iff.1 hh).1
    exact .inr ⟨g, cap, cur, hv, hg, by rw [hb.block g (by omega)]; exact hh, r⟩
theorem Ow.mono (h : Ow k e base w v xs) {B : Nat} (hB : B ≤ base) : Ow k e B w v xs := by
  refine ⟨h.1, ?_⟩
  rcases h.2 with hn | ⟨g, cap, cur, hv, hg, r⟩
  · exact .inl hn
  · exact .inr ⟨g, cap, cur, hv, by omega, r⟩
theorem Ow.alloc (h : Ow k e base w v xs) (o : Obj) : Ow k e base (w.alloc o) v xs := World.ownsRow.alloc (h : w.ownsRow base e 1 v xs.length (xs.map (.int k))) o
end

/-! ### The laws of append, make and copy, in these words -/
/-- In P, type t is a slice of type e, e an integer type of kind k whose elements take so many bytes. -/
structure Ints (P : Program) (t e : TypeId) (k : IntKind) (bytes : Nat) : Prop where
  ht : P.underlying t = some (.slice e)
  hi : (P.info? e).map (fun i => (i.zero, i.size, i.bytes)) = some (some (.int k 0), 1, bytes)

theorem Ints.run_cut {P : Program} {t e : TypeId} {k : IntKind} {bytes : Nat} (S : Ints P t e k bytes) (A : Option Addr) (n c s : Nat) (hs : s ≤ n) (hn : n ≤ c) (w : World) :
    (Instr.slice t (.slice A n c) (some (.int .i64 s)) none none).run P w = .ok (.slice (cutA A c s) (n - s) (c - s)) w := by
  obtain ⟨i, hi, hz, hsz, hby⟩ := info_parts S.hi
  have h1 := run_sliceBound (P := P) (w := w) .i64 s n .sliceB (by omega) (by omega)
  simp [Instr.slice, run_underlying S.ht, Instr.sliceBounds, h1, sizeOf, typeInfo, hi, hsz, cutA]

theorem run_str {P : Program} {w : World} {t e : TypeId} (ht : P.underlying t = some (.slice e)) (he : P.underlying e = some (.int .u8)) {A : Option Addr} {n c : Nat} {xs : List Int} (h : Rd .u8 w A n c xs)
    (dst : TypeId) (hd : P.underlying dst = some .string) : (convert t dst (.slice A n c)).run P w = .ok (.string (strOfNums xs)) w := by
  obtain ⟨h1, h2, h3, h4, h5, h6⟩ := h
  by_cases hn : n = 0
  · subst hn
    obtain rfl : xs = [] := List.eq_nil_of_length_eq_zero h1
    cases A with
    | none => exact run_convert_bytes_nil w t e ht he 0 c dst hd
    | some a =>
      rw [run_convert_bytes_string w t dst e _ 0 c ht he hd, run_bytesToString w a 0 c [] (by simp [loadCells, loadCellsFrom, Sem.run_pure])]
      rfl
  · obtain ⟨g, o, rfl, hg, hx⟩ := h6 (by omega)
    exact run_convert_bytes_arg w t e ht he g o n c xs h1 hx dst hd

section
variable {P : Program} {w : World} {ops : Array Oper} {rest : List Oper} {o : Oper} {a : Act} {Q : Exit → Act → World → Prop}
theorem wpList_append_ints {t e : TypeId} {k : IntKind} {bytes : Nat} (S : Ints P t e k bytes) (hgd : o.guard = none) (s x : Operand)
    (ho : o.op = .call { callee := .builtin .append, args := #[s, x], argTypes := #[t, t] })
    {v : Value} {xs : List Int} (hs : a.eval s = v) {w0 : World} (hown : Ow k e w0.heap.size w v xs)
    {A : Option Addr} {m c : Nat} {ys : List Int} (hx : a.eval x = .slice A m c) (hr : Rd k w A m c ys)
    (hlen : (xs.length + m) * bytes ≤ 140737488355328) (hb1 : 0 < bytes) (hb : Below w0.heap.size w0 w)
    (h : ∀ v' w', Ow k e w0.heap.size w' v' (xs ++ ys) → Below w0.heap.size w0 w' → wpList P ops Q rest (a.put o.dst v') w') : wpList P ops Q (o :: rest) a w := by
  obtain ⟨i, hi, hz, hsz, hby⟩ := info_parts S.hi
  have hmax : xs.length + m ≤ maxLen := by
    have : (xs.length + m) * 1 ≤ (xs.length + m) * bytes := Nat.mul_le_mul_left _ hb1
    simp only [maxLen]; omega
  have hvb : ∀ g, v.ownBlock = some g → w0.heap.size ≤ g := fun g hg => (World.ownsRow.lt hown g hg).1
  obtain ⟨hl, _, hcm, hnil, hwf, hcell⟩ := hr
  refine wpList_plain hgd fun K hK => ?_
  unfold Oper.wp execOp
  rcases A with _ | ad
  · have h0 := hnil rfl
    subst h0
    obtain rfl : m = 0 := by omega
    obtain rfl : ys = [] := List.eq_nil_of_length_eq_zero hl
    have hrun := run_append_owned_none (P := P) (w := w) w0.heap.size t o.type e i 1 S.ht hi v xs.length (xs.map (.int k)) hown
    simp only [ho, resolve, invoke, builtin, Sem.run_bind, Sem.run_pure, Result.andThen_ok, List.map_toArray, List.map_cons, List.map_nil, hs, hx, hrun]
    exact hK _ _ (h v w (by simpa using hown) hb)
  · have hnews : ∀ j u, (ys.map (Value.int k))[j]? = some u → w.cell? (ad.add j) = some u := by
      intro j u hu
      rw [List.getElem?_map] at hu
      have hj : j < ys.length := by
        rcases Nat.lt_or_ge j ys.length with h1 | h1
        · exact h1
        · rw [List.getElem?_eq_none h1] at hu; simp at hu
      obtain ⟨g, off, he, _, hx'⟩ := hcell (by omega)
      injection he with he
      subst he
      have hadd : (⟨g, off, none⟩ : Addr).add j = ⟨g, off + j, none⟩ := by unfold Addr.add; split <;> simp_all
      rw [hadd, hx' j (by omega)]
      rw [List.getElem?_eq_getElem hj] at hu
      simp at hu
      simp [hj, ← hu]
    obtain ⟨v', w', hrun, h2, h3, _, _⟩ := run_append_own_at (P := P) w w0.heap.size t o.type e i (.int k 0) 1 bytes S.ht hi hz hsz hby rfl (by omega) v xs.length (xs.map (.int k)) hown ad m c (ys.map (.int k))
      (by simp [hl]) hnews (by simp [Value.oneCell']) hmax hlen hb.size
    simp only [ho, resolve, invoke, builtin, Sem.run_bind, Sem.run_pure, Result.andThen_ok, List.map_toArray, List.map_cons, List.map_nil, hs, hx, hrun]
    refine hK _ _ (h v' w' ?_ (hb.grown h3 hb.size hvb))
    unfold Ow
    rw [List.length_append, hl, List.map_append]
    exact h2

theorem wpList_make_ints {t e : TypeId} {k : IntKind} {bytes : Nat} (S : Ints P t e k bytes) (hgd : o.guard = none) (l c : Operand)
    (ho : o.op = Op.makeSlice t l c) {kl kc : IntKind} {L C : Int} (hl : a.eval l = .int kl L) (hc : a.eval c = .int kc C) (h0 : 0 ≤ L) (h1 : L ≤ C)
    (hby : bytes * C ≤ 281474976710656) (h63 : C ≤ 9223372036854775807) {w0 : World} (hb : Below w0.heap.size w0 w)
    (h : ∀ v' w', Ow k e w0.heap.size w' v' (List.replicate L.toNat 0) → Below w0.heap.size w0 w' → wpList P ops Q rest (a.put o.dst v') w') : wpList P ops Q (o :: rest) a w := by
  obtain ⟨i, hi, hz, hsz, hbytes⟩ := info_parts S.hi
  obtain ⟨n, rfl⟩ := Int.eq_ofNat_of_zero_le h0
  obtain ⟨m, rfl⟩ := Int.eq_ofNat_of_zero_le (Int.le_trans h0 h1)
  refine wpList_plain hgd fun K hK => ?_
  have hr := run_make (P := P) w t e i (.int k 0) S.ht hi hz kl kc n m (by omega) h1 (by rw [hbytes]; exact hby) h63
  unfold Oper.wp
  simp [execOp, ho, hl, hc, hr, Result.andThen]
  refine hK _ _ (h _ _ ?_ (hb.alloc hb.size _))
  unfold Ow
  rw [List.length_replicate]
  refine ⟨by simp, .inr ⟨w.heap.size, m, _, rfl, hb.size, heap_alloc_new w _, by omega, by simp only [maxLen]; omega, by rw [hsz]; simp [madeCells], ?_⟩⟩
  rw [hsz, Nat.mul_one, Nat.mul_one, show (Value.int k 0).cells = #[Value.int k 0] from rfl, toList_madeCells_one, List.take_replicate, List.map_replicate]
  congr 1
  omega

theorem wpList_copy_ints {t e : TypeId} {k : IntKind} {bytes : Nat} (S : Ints P t e k bytes) (hgd : o.guard = none) (d s : Operand)
    (ho : o.op = .call { callee := .builtin .copy, args := #[d, s], argTypes := #[t, t] })
    {v : Value} {xs : List Int} (hd : a.eval d = v) {w0 : World} (hown : Ow k e w0.heap.size w v xs)
    {A : Option Addr} {m c : Nat} {ys : List Int} (hs : a.eval s = .slice A m c) (hr : Rd k w A m c ys) (hm : m ≤ xs.length) (hb : Below w0.heap.size w0 w)
    (h : ∀ w' r, Ow k e w0.heap.size w' v (ys ++ xs.drop ys.length) → Below w0.heap.size w0 w' → wpList P ops Q rest (a.put o.dst r) w') : wpList P ops Q (o :: rest) a w := by
  obtain ⟨i, hi, hz, hsz, hby⟩ := info_parts S.hi
  obtain ⟨hl, _, hcm, hnil, hwf, hcell⟩ := hr
  have hsz' : (P.info? e).map (·.size) = some 1 := by rw [hi]; simp [hsz]
  rcases hown.2 with ⟨rfl, h0⟩ | ⟨g, cap, cur, rfl, hbg, hh, hc, hmx, hcs, ht⟩
  · obtain rfl : m = 0 := by omega
    obtain rfl : ys = [] := List.eq_nil_of_length_eq_zero hl
    refine wpList_copy_nothing hgd d s t t ho e S.ht hsz' none A 0 0 0 c hd hs (by simp) ?_
    exact h w _ (by simpa using hown) hb
  · by_cases hm0 : m = 0
    · subst hm0
      obtain rfl : ys = [] := List.eq_nil_of_length_eq_zero hl
      refine wpList_copy_nothing hgd d s t t ho e S.ht hsz' _ A _ _ 0 c hd hs (by simp) ?_
      exact h w _ (by simpa using hown) hb
    · obtain ⟨gs, off, rfl, hgs, hx⟩ := hcell (by omega)
      refine wpList_copy_own hgd d s t t ho e S.ht hsz' g 0 xs.length cap ⟨gs, off, none⟩ m c hd hs cur e hh (ys.map (.int k)) (by rw [List.length_map, hl]; exact (Nat.min_eq_left hm).symm) ?_ (by simp; omega) (by simp [Value.oneCell']) ?_
      · intro j u hu
        rw [List.getElem?_map] at hu
        have hj : j < ys.length := by
          rcases Nat.lt_or_ge j ys.length with h1 | h1
          · exact h1
          · rw [List.getElem?_eq_none h1] at hu; simp at hu
        have hadd : (⟨gs, off, none⟩ : Addr).add j = ⟨gs, off + j, none⟩ := by unfold Addr.add; split <;> simp_all
        rw [hadd, hx j (by omega)]
        rw [List.getElem?_eq_getElem hj] at hu
        simp at hu
        simp [hj, ← hu]
      · refine h _ _ ?_ (below_setRow hb hbg _)
        have hlen : (ys ++ xs.drop ys.length).length = xs.length := by simp; omega
        unfold Ow
        rw [hlen]
        refine ⟨by simp; omega, .inr ⟨g, cap, _, rfl, hbg, setRow_heap w g _ _ e _ hh, hc, hmx, by simp; omega, ?_⟩⟩
        simp only [List.take_zero, List.nil_append, Nat.zero_add, Nat.mul_one, List.length_map] at ht ⊢
        rw [List.take_append, List.length_map, List.take_of_length_le (by simp; omega), List.map_append, List.map_drop, ← ht, List.drop_take]
end
/-- Nothing but block g has turned. -/
def Wr (g : Nat) (w w' : World) : Prop := w.grownBy w' (some g)
theorem Wr.below {g : Nat} {w w' : World} (h : Wr g w w') {B : Nat} (hB : B ≤ g) (hs : B ≤ w.heap.size) : Below B w w' :=
  ⟨h.os, h.tape, h.output, h.size, fun k hk => h.block k (by omega) (by intro e; injection e; omega)⟩

theorem Wr.set (w : World) (g i : Nat) (u : Value) : Wr g w (w.setCell ⟨g, i, none⟩ u) :=
  ⟨rfl, rfl, rfl, by simp [World.setCell], fun k _ hk => Below.heap_setCell w _ u k (by intro e; exact hk (by rw [e]))⟩
theorem Wr.refl (w : World) (g : Nat) : Wr g w w := World.grownBy.refl w _
theorem Wr.trans {g : Nat} {a b c : World} (h : Wr g a b) (k : Wr g b c) (hs : a.heap.size ≤ b.heap.size) : Wr g a c :=
  ⟨k.os.trans h.os, k.tape.trans h.tape, k.output.trans h.output, Nat.le_trans h.size k.size, fun i hi hn => (k.block i (by omega) hn).trans (h.block i hi hn)⟩
theorem Wr.of_below {g : Nat} {w w' : World} (h : Below w.heap.size w w') : Wr g w w' := ⟨h.os, h.tape, h.output, h.size, fun k hk _ => h.block k hk⟩
/-- Block g, of type t, holds these. -/
def Bk (w : World) (t : TypeId) (g : Nat) (vs : List Value) : Prop := w.heap[g]? = some (.cells vs.toArray t (0, 0))
section
variable {w w' : World} {t : TypeId} {g : Nat} {vs : List Value}
theorem Bk.lt (h : Bk w t g vs) : g < w.heap.size := (Array.getElem?_eq_some_iff.1 h).1
theorem Bk.cell (h : Bk w t g vs) (i : Nat) {v : Value} (hv : vs[i]? = some v) : w.cell? ⟨g, i, none⟩ = some v := by
  rw [cell_of_row w g i _ _ _ h]; simpa using hv
theorem Bk.free (h : Bk w t g vs) (i : Nat) : w.frozen? ⟨g, i, none⟩ = false := by
  unfold Bk at h
  simp [World.frozen?, h]
theorem Bk.keep (h : Bk w t g vs) {B : Nat} (hb : Below B w w') (hB : g < B) : Bk w' t g vs := (hb.block g hB).trans h
theorem Bk.below (h : Bk w t g vs) (hb : Below w.heap.size w w') : Bk w' t g vs := h.keep hb h.lt
theorem Bk.wr (h : Bk w t g vs) {g' : Nat} (hw : Wr g' w w') (hp : g ≠ g') : Bk w' t g vs :=
  (hw.block g h.lt (by intro e; injection e with e; exact hp e)).trans h
theorem Bk.new (w : World) (t : TypeId) (vs : List Value) : Bk (w.alloc (.cells vs.toArray t)) t w.heap.size vs := heap_alloc_new w _
theorem Bk.alloc (h : Bk w t g vs) (o : Obj) : Bk (w.alloc o) t g vs := h.keep ((Below.refl _ _).alloc (Nat.le_refl _) o) h.lt
theorem Bk.set (h : Bk w t g vs) (i : Nat) (x : Value) : Bk (w.setCell ⟨g, i, none⟩ x) t g (vs.set i x) := by
  unfold Bk at h ⊢
  simp [World.setCell, Array.getElem?_modify, h]
theorem Bk.far (h : Bk w t g vs) {p : Addr} (hp : g ≠ p.block) (x : Value) : Bk (w.setCell p x) t g vs := (Below.heap_setCell w p x g hp).trans h
end
theorem Rd.blk {k : IntKind} {w : World} {A : Option Addr} {n c : Nat} {xs : List Int} (h : Rd k w A n c xs) : 0 < n → ∀ ad, A = some ad → ad.block < w.heap.size := fun hn ad he => by
  obtain ⟨g, o, e, hg, _⟩ := h.2.2.2.2.2 hn
  rw [e] at he
  injection he with he
  subst he
  exact hg
theorem Rd.belowA {k : IntKind} {w w' : World} {A : Option Addr} {n c : Nat} {xs : List Int} (h : Rd k w A n c xs) {B : Nat} (hA : 0 < n → ∀ ad, A = some ad → ad.block < B) (hb : Below B w w') : Rd k w' A n c xs := by
  obtain ⟨h1, h2, h3, h4, h5, h6⟩ := h
  refine ⟨h1, h2, h3, h4, h5, fun hn => ?_⟩
  obtain ⟨g', o, e, hg, hx⟩ := h6 hn
  exact ⟨g', o, e, by have := hb.size; omega, fun i hi => (hb.cell (p := ⟨g', o + i, none⟩) (show g' < B from hA hn _ e)).trans (hx i hi)⟩

theorem Rd.wr' {k : IntKind} {w w' : World} {A : Option Addr} {n c : Nat} {xs : List Int} (h : Rd k w A n c xs) {g : Nat} (hA : 0 < n → ∀ ad, A = some ad → ad.block ≠ g) (hw : Wr g w w') : Rd k w' A n c xs := by
  obtain ⟨h1, h2, h3, h4, h5, h6⟩ := h
  refine ⟨h1, h2, h3, h4, h5, fun hn => ?_⟩
  obtain ⟨g', o, e, hg, hx⟩ := h6 hn
  refine ⟨g', o, e, by have := hw.size; omega, fun i hi => ?_⟩
  rw [World.cell?_of_block (hw.block g' hg (by intro e'; injection e' with e'; exact hA hn _ e e'))]
  exact hx i hi
theorem wr_cell {g : Nat} {w w' : World} (h : Wr g w w') {p : Addr} (hp : p.block ≠ g) (hs : p.block < w.heap.size) : w'.cell? p = w.cell? p :=
  World.cell?_of_block (h.block p.block hs (by intro e; injection e with e; exact hp e))
theorem own_ne {k : IntKind} {e : TypeId} {base : Nat} {w : World} {A : Option Addr} {n c : Nat} {xs : List Int} (h : Ow k e base w (.slice A n c) xs) {g : Nat} (hg : g < base) : 0 < n → ∀ ad, A = some ad → ad.block ≠ g := by
  rintro - ad rfl
  have := (World.ownsRow.lt h ad.block rfl).1
  omega
theorem Rd.to {k : IntKind} {w W : World} {B : Option Addr} {m d L L' : Nat} {xs : List Int} (h : Rd k w B m d xs) (hB : 0 < m → ∀ ad, B = some ad → ad.block < L) (hL : L ≤ L') (hb : Below L' w W) : Rd k W B m d xs :=
  h.belowA (fun hm ad he => Nat.lt_of_lt_of_le (hB hm ad he) hL) hb
theorem below_alloc2 {B : Nat} {w : World} (hB : B ≤ w.heap.size) (o o' : Obj) : Below B (w.alloc o) (w.alloc o') :=
  ⟨rfl, rfl, rfl, by simp, fun k hk => (Below.heap_alloc w o' k (by omega)).trans (Below.heap_alloc w o k (by omega)).symm⟩
/-- The slice (B, m) lies in the memory of (A, n). -/
def From (A : Option Addr) (n : Nat) (B : Option Addr) (m : Nat) : Prop := 0 < m → ∀ ad, B = some ad → 0 < n ∧ ∃ a0, A = some a0 ∧ ad.block = a0.block
theorem From.lt {A B : Option Addr} {n m L : Nat} (h : From A n B m) (hA : 0 < n → ∀ ad, A = some ad → ad.block < L) : 0 < m → ∀ ad, B = some ad → ad.block < L := fun hm ad he => by
  obtain ⟨hn, a0, h0, h1⟩ := h hm ad he
  rw [h1]
  exact hA hn a0 h0
def IsRow (k : IntKind) (w : World) (a : Option Addr) (len cap : Nat) (zs : List Int) : Prop :=
  (a = none ∧ len = 0 ∧ cap = 0 ∧ zs = []) ∨
  ∃ x, a = some x ∧ len ≤ cap ∧ cap ≤ maxLen ∧ zs.length = cap ∧ (∀ i, i < zs.length → w.cell? (x.add i) = some (.int k (zs.getD i 0))) ∧ ∀ n ∈ zs, (Lit.int k n).wf = true

theorem rd_of_row {k : IntKind} {w : World} {a : Option Addr} {len cap : Nat} {zs : List Int} (h : IsRow k w a len cap zs) : Rd k w a len cap (zs.take len) := by
  rcases h with ⟨rfl, rfl, rfl, rfl⟩ | ⟨x, rfl, hl, hm, hz, hcell, hwz⟩
  · exact Rd.nil _ _
  · refine ⟨by simp; omega, hl, hm, by simp, fun y hy => hwz y (List.mem_of_mem_take hy), fun hn => ?_⟩
    obtain ⟨b, off, spot⟩ := x
    have h0 := hcell 0 (by omega)
    obtain rfl : spot = none := by simpa [Addr.add] using World.cell?_spot h0
    have hlt := World.block_lt_of_cell? _ _ h0
    refine ⟨b, off, rfl, by simpa [Addr.add] using hlt, fun i hi => ?_⟩
    have hi' := hcell i (by omega)
    have hadd : (⟨b, off, none⟩ : Addr).add i = ⟨b, off + i, none⟩ := by unfold Addr.add; split <;> simp_all
    rw [hadd] at hi'
    rw [hi']
    simp [hi]
end Go.Proofs.Ytbhhgfpliggkgaa
namespace Go.Proofs.Ytbhhgfpliggkgaa
open Go.RowKit
section
variable {P : Program} {ops : Array Oper} {Q : Exit → Act → World → Prop} {md : Region.Mode} {E : World → World → Prop}

theorem yieldsIf_mono {S S' : World → Prop} {o : Oper} {v : Value} {a : Act} (h : ∀ w, S' w → S w) (hy : YieldsIf P ops S o v a) : YieldsIf P ops S' o v a :=
  hy.imp (fun ⟨hw, hv⟩ => ⟨hw, fun w hS => hv w (h w hS)⟩) id

/-- Whatever order is picked from here on; each operation leads from a world to one that E lets. -/
def wpAnyE (P : Program) (md : Region.Mode) (ops : Array Oper) (Q : Exit → Act → World → Prop) (E : World → World → Prop) : Nat → Array Bool → Act → World → Prop
  | 0, listed, a, w => Region.ready md ops listed = [] ∧ Q .normal a w
  | fuel + 1, listed, a, w =>
    (Region.ready md ops listed = [] → Q .normal a w) ∧
    ∀ i ∈ Region.ready md ops listed, wpOp P ops Q i (fun a' w' => E w w' ∧ wpAnyE P md ops Q E fuel (listed.setIfInBounds i true) a' w') a w

theorem wpAny_of_E : ∀ (fuel : Nat) (listed : Array Bool) (a : Act) (w : World), wpAnyE P md ops Q E fuel listed a w → wpAny P md ops Q fuel listed a w
  | 0, _, _, _, h => h
  | fuel + 1, _, _, _, h => ⟨h.1, fun i hi => wpOp_mono (fun a' w' h' => wpAny_of_E fuel _ a' w' h'.2) (h.2 i hi)⟩

theorem wpAnyE_first (hrefl : ∀ w, E w w) (htr : ∀ a b c, E a b → E b c → E a c) {i : Nat} {oi : Oper} {v : Value} (hi : ops[i]? = some oi)
    (hsel : ∀ (j : Nat) (o : Oper) cs b, ops[j]? = some o → o.op ≠ .select cs b) (hQ : ∀ c a w, Q (.panic c) (a.put oi.dst v) w → Q (.panic c) a w) :
    ∀ (fuel : Nat) (listed : Array Bool) (a : Act) (w : World),
      (∀ j oj, ops[j]? = some oj → j ≠ i → listed.getD j true = false → (∀ e ∈ oj.after, Region.binds md e = true → e.on ≠ i) → oi.apart ops oj = true) →
      i ∈ Region.ready md ops listed → YieldsIf P ops (E w) oi v a →
      wpAnyE P md ops Q E fuel (listed.setIfInBounds i true) (a.put oi.dst v) w → wpAnyE P md ops Q E (fuel + 1) listed a w := by
  intro fuel
  induction fuel with
  | zero =>
    intro listed a w _ hr hy H
    refine ⟨fun h => absurd hr (by rw [h]; simp), fun j hj => ?_⟩
    rcases Nat.decEq j i with hji | rfl
    · have h0 := ready_mono hj hji
      rw [H.1] at h0
      simp at h0
    · exact hy.wpOp hi (hrefl w) ⟨hrefl w, H⟩
  | succ fuel ih =>
    intro listed a w hfree hr hy H
    refine ⟨fun h => absurd hr (by rw [h]; simp), fun j hj => ?_⟩
    rcases Nat.decEq j i with hji | rfl
    · have h1 := H.2 j (ready_mono hj hji)
      obtain ⟨hjun, oj, hoj, hall⟩ := mem_ready.1 hj
      have hun := (mem_ready.1 hr).1
      have hnot : ∀ e ∈ oj.after, Region.binds md e = true → e.on ≠ i := by
        intro e he hb heq
        have h3 := hall e he hb
        rw [heq] at h3
        rcases Nat.lt_or_ge i listed.size with h' | h'
        · simp [h'] at hun h3
          rw [hun] at h3
          cases h3
        · simp [Array.getElem?_eq_none h'] at h3
      have h2 := wpOp_putIf (S := E w) hoj (hfree j oj hoj hji hjun hnot) (fun cs b => hsel i oi cs b hi) (fun cs b => hsel j oj cs b hoj) hQ hy h1
      refine wpOp_mono (fun a' w' h3 => ⟨h3.2.1, ih _ a' w' ?_ (ready_mono hr (Ne.symm hji)) (yieldsIf_mono (fun W hW => htr _ _ _ h3.2.1 hW) h3.1) ?_⟩) h2
      · intro k ok hk hki hkun hno
        refine hfree k ok hk hki ?_ hno
        by_cases hjk : j = k
        · subst hjk
          exact hjun
        · rw [getD_set_ne true hjk] at hkun
          exact hkun
      · rw [Array.setIfInBounds_comm _ _ hji]
        exact h3.2.2
    · exact hy.wpOp hi (hrefl w) ⟨hrefl w, H⟩

theorem wpAnyE_take (hrefl : ∀ w, E w w) (htr : ∀ a b c, E a b → E b c → E a c) {i : Nat} {oi : Oper} {v : Value} {fuel : Nat} {listed : Array Bool} {a : Act} {w : World} (hi : ops[i]? = some oi)
    (hs : Region.noSelect ops = true) (hf : Region.free md ops listed i = true) (hr : (Region.ready md ops listed).contains i = true)
    (hQ : ∀ c a w, Q (.panic c) (a.put oi.dst v) w → Q (.panic c) a w) (hy : YieldsIf P ops (E w) oi v a)
    (h : wpAnyE P md ops Q E fuel (listed.setIfInBounds i true) (a.put oi.dst v) w) : wpAnyE P md ops Q E (fuel + 1) listed a w :=
  wpAnyE_first hrefl htr hi (Region.noSelect_spec hs) hQ fuel listed a w (Region.free_spec hi hf) (by simpa using hr) hy h

structure Tr (E : World → World → Prop) : Prop where
  refl : ∀ w, E w w
  trans : ∀ a b c, E a b → E b c → E a c

/-- Operation number i is taken now: the side conditions are paid by reckoning. -/
theorem takeE (hE : Tr E) (i : Nat) {oi : Oper} {v : Value} {fuel : Nat} {listed : Array Bool} {a : Act} {w : World} (hi : ops[i]? = some oi)
    (hs : Region.noSelect ops = true) (hf : Region.free md ops listed i = true) (hr : (Region.ready md ops listed).contains i = true)
    (hQ : ∀ c a w, Q (.panic c) (a.put oi.dst v) w → Q (.panic c) a w)
    (hy : (Region.wanted oi (yielded ops a.tmps) = true ∧ ∀ W, E w W → (execOp a.eval oi).run P W = .ok (.value v) W) ∨ (Region.wanted oi (yielded ops a.tmps) = false ∧ v = undef))
    (h : wpAnyE P md ops Q E fuel (listed.setIfInBounds i true) (a.put oi.dst v) w) : wpAnyE P md ops Q E (fuel + 1) listed a w :=
  wpAnyE_take hE.refl hE.trans hi hs hf hr hQ hy h

/-- Just one may come up. -/
theorem wpAnyE_one {i : Nat} {o : Oper} {fuel : Nat} {listed : Array Bool} {a : Act} {w : World} (hr : Region.ready md ops listed = [i]) (ho : ops[i]? = some o)
    (h : ∀ K' : Act → World → Prop, Shut (∀ a' w', E w w' → wpAnyE P md ops Q E fuel (listed.setIfInBounds i true) a' w' → K' a' w') →
      if Region.wanted o (yielded ops a.tmps) = true then Oper.wp P o a w K' Q else K' (a.put o.dst undef) w) : wpAnyE P md ops Q E (fuel + 1) listed a w := by
  refine ⟨fun h0 => absurd (hr ▸ h0) (by simp), fun j hj => ?_⟩
  rw [hr] at hj
  obtain rfl : j = i := by simpa using hj
  exact wpOp_step ho (fun K' hK => h K' (fun a' w' hE hW => hK a' w' ⟨hE, hW⟩))

/-- Two may come up: both ways are walked. -/
theorem wpAnyE_two {i j : Nat} {o o' : Oper} {fuel : Nat} {listed : Array Bool} {a : Act} {w : World} (hr : Region.ready md ops listed = [i, j]) (ho : ops[i]? = some o) (ho' : ops[j]? = some o')
    (h : ∀ K' : Act → World → Prop, Shut (∀ a' w', E w w' → wpAnyE P md ops Q E fuel (listed.setIfInBounds i true) a' w' → K' a' w') →
      if Region.wanted o (yielded ops a.tmps) = true then Oper.wp P o a w K' Q else K' (a.put o.dst undef) w)
    (h' : ∀ K' : Act → World → Prop, Shut (∀ a' w', E w w' → wpAnyE P md ops Q E fuel (listed.setIfInBounds j true) a' w' → K' a' w') →
      if Region.wanted o' (yielded ops a.tmps) = true then Oper.wp P o' a w K' Q else K' (a.put o'.dst undef) w) : wpAnyE P md ops Q E (fuel + 1) listed a w := by
  refine ⟨fun h0 => absurd (hr ▸ h0) (by simp), fun l hl => ?_⟩
  rw [hr] at hl
  have hl' : l = i ∨ l = j := by simpa using hl
  rcases hl' with rfl | rfl
  · exact wpOp_step ho (fun K' hK => h K' (fun a' w' hE hW => hK a' w' ⟨hE, hW⟩))
  · exact wpOp_step ho' (fun K' hK => h' K' (fun a' w' hE hW => hK a' w' ⟨hE, hW⟩))

/-- Three may come up: all three ways are walked. -/
theorem wpAnyE_three {i j k : Nat} {o o' o2 : Oper} {fuel : Nat} {listed : Array Bool} {a : Act} {w : World} (hr : Region.ready md ops listed = [i, j, k]) (ho : ops[i]? = some o) (ho' : ops[j]? = some o') (ho2 : ops[k]? = some o2)
    (h : ∀ K' : Act → World → Prop, Shut (∀ a' w', E w w' → wpAnyE P md ops Q E fuel (listed.setIfInBounds i true) a' w' → K' a' w') →
      if Region.wanted o (yielded ops a.tmps) = true then Oper.wp P o a w K' Q else K' (a.put o.dst undef) w)
    (h' : ∀ K' : Act → World → Prop, Shut (∀ a' w', E w w' → wpAnyE P md ops Q E fuel (listed.setIfInBounds j true) a' w' → K' a' w') →
      if Region.wanted o' (yielded ops a.tmps) = true then Oper.wp P o' a w K' Q else K' (a.put o'.dst undef) w)
    (h2 : ∀ K' : Act → World → Prop, Shut (∀ a' w', E w w' → wpAnyE P md ops Q E fuel (listed.setIfInBounds k true) a' w' → K' a' w') →
      if Region.wanted o2 (yielded ops a.tmps) = true then Oper.wp P o2 a w K' Q else K' (a.put o2.dst undef) w) : wpAnyE P md ops Q E (fuel + 1) listed a w := by
  refine ⟨fun h0 => absurd (hr ▸ h0) (by simp), fun l hl => ?_⟩
  rw [hr] at hl
  have hl' : l = i ∨ l = j ∨ l = k := by simpa using hl
  rcases hl' with rfl | rfl | rfl
  · exact wpOp_step ho (fun K' hK => h K' (fun a' w' hE hW => hK a' w' ⟨hE, hW⟩))
  · exact wpOp_step ho' (fun K' hK => h' K' (fun a' w' hE hW => hK a' w' ⟨hE, hW⟩))
  · exact wpOp_step ho2 (fun K' hK => h2 K' (fun a' w' hE hW => hK a' w' ⟨hE, hW⟩))

theorem wpAnyE_done {listed : Array Bool} {a : Act} {w : World} (hr : Region.ready md ops listed = []) (h : Q .normal a w) : ∀ fuel, wpAnyE P md ops Q E fuel listed a w
  | 0 => ⟨hr, h⟩
  | _ + 1 => ⟨fun _ => h, by rw [hr]; simp⟩

/-- The beginning. -/
theorem wp_region_E (E : World → World → Prop) {id : Nat} {a : Act} {w : World} (hm : P.follows .mixedOrders = true)
    (h : ∀ wd : World, Below w.heap.size w wd → wd.heap.size = w.heap.size → wpAnyE P .any ops Q E ops.size (Array.replicate ops.size false) a wd) : (Code.region id ops true).wp P Q a w :=
  wp_region_any hm (wpAny_of_E _ _ _ _ (h _ (Below.refl _ _).drew rfl))

/-- The blocks of S stay. -/
def Keep (S : Nat → Prop) (w w' : World) : Prop :=
  w'.os = w.os ∧ w'.tape = w.tape ∧ w'.output = w.output ∧ w.heap.size ≤ w'.heap.size ∧ ∀ k, S k → w'.heap[k]? = w.heap[k]?
theorem Keep.tr (S : Nat → Prop) : Tr (Keep S) :=
  ⟨fun _ => ⟨rfl, rfl, rfl, Nat.le_refl _, fun _ _ => rfl⟩, fun _ _ _ h k => ⟨k.1.trans h.1, k.2.1.trans h.2.1, k.2.2.1.trans h.2.2.1, Nat.le_trans h.2.2.2.1 k.2.2.2.1, fun i hi => (k.2.2.2.2 i hi).trans (h.2.2.2.2 i hi)⟩⟩
theorem Keep.below {S : Nat → Prop} {w w' : World} {B : Nat} (h : Below B w w') (hS : ∀ k, S k → k < B) : Keep S w w' := ⟨h.os, h.tape, h.output, h.size, fun k hk => h.block k (hS k hk)⟩
theorem Keep.to {S : Nat → Prop} {w w' : World} {B : Nat} (h : Keep S w w') (hS : ∀ k, k < B → S k) : Below B w w' := ⟨h.1, h.2.1, h.2.2.1, h.2.2.2.1, fun k hk => h.2.2.2.2 k (hS k hk)⟩
theorem Keep.setCell {S : Nat → Prop} (w : World) {a : Addr} (ha : ¬ S a.block) (u : Value) : Keep S w (w.setCell a u) :=
  ⟨rfl, rfl, rfl, by simp [World.setCell], fun k hk => Below.heap_setCell _ _ _ _ (by intro e; subst e; exact ha hk)⟩
theorem Keep.alloc {S : Nat → Prop} (w : World) (hS : ∀ k, S k → k < w.heap.size) (o : Obj) : Keep S w (w.alloc o) := Keep.below ((Below.refl _ _).alloc (Nat.le_refl _) o) hS
theorem Keep.block {S : Nat → Prop} {w w' : World} (h : Keep S w w') {k : Nat} (hk : S k) : w'.heap[k]? = w.heap[k]? := h.2.2.2.2 k hk
theorem Keep.cell {S : Nat → Prop} {w w' : World} (h : Keep S w w') {p : Addr} (hk : S p.block) : w'.cell? p = w.cell? p := World.cell?_of_block (h.block hk)

theorem belowTr (B : Nat) : Tr (Below B) := ⟨fun w => Below.refl B w, fun _ _ _ h k => Below.trans h k⟩

/-- What was there stays. -/
def Ext (w w' : World) : Prop := Below w.heap.size w w'
theorem Ext.tr : Tr Ext := ⟨fun w => Below.refl _ w, fun a b c h k => Below.trans h (k.mono h.size)⟩
theorem Ext.refl (w : World) : Ext w w := Below.refl _ _
theorem Ext.trans (a b c : World) (h : Ext a b) (k : Ext b c) : Ext a c := Below.trans h (k.mono h.size)
theorem wrTr (g : Nat) : Tr (Wr g) := ⟨fun w => Wr.refl w g, fun _ _ _ h k => h.trans k h.size⟩
end
end Go.Proofs.Ytbhhgfpliggkgaa
namespace Go.Proofs.Ytbhhgfpliggkgaa
open Go.RowKit
section
variable {P : Program} {ops : Array Oper} {Q : Exit → Act → World → Prop} {md : Region.Mode} {E : World → World → Prop}
def noDefer (ops : Array Oper) : Bool := ops.all fun o => match o.op with | .defer _ => false | _ => true

theorem noDefer_spec (h : noDefer ops = true) {i : Nat} {o : Oper} (hi : ops[i]? = some o) : ∀ c, o.op ≠ .defer c := by
  intro c hc
  obtain ⟨hlt, he⟩ := Array.getElem?_eq_some_iff.1 hi
  have := (Array.all_eq_true.1 h) i hlt
  rw [he, hc] at this
  simp at this

theorem oper_in_round {o : Oper} {l n : Nat} (hd : ∀ c, o.op ≠ .defer c) {a : Act} {w : World} {K : Act → World → Prop} (h : o.wp P a w K Q) : o.wpIn (Fence.wide.inRound l) n P a w K Q := by
  unfold Oper.wp at h
  refine ⟨fun _ _ => trivial, ?_⟩
  rw [show Oper.semAt (Fence.wide.inRound l).round a.eval o = execOp a.eval o from Oper.semAt_eq _ _ _ hd]
  generalize (execOp a.eval o).run P w = r at *
  cases r with
  | ok x w' =>
    cases x <;> simp only [Oper.upon, Oper.uponIn] at h ⊢
    case value => exact h
    case skip => exact h
    case defer => exact h
    case enter => exact ⟨fun hx => by simp [Fence.inRound, Fence.wide] at hx, (callsIn_wide.2 h).inRound l⟩
    case row row args =>
      refine ⟨fun hx => by simp [Fence.inRound, Fence.wide] at hx, fun c cs _ => ?_⟩
      obtain ⟨v, w', r, s⟩ := h c cs
      exact ⟨v, w', r, stepsIn_wide.2 s⟩
  | halt x w' => cases x <;> simp only [Oper.upon, Oper.uponIn] at h ⊢ <;> exact h

theorem wpOp_in_round {l n i : Nat} (hn : noDefer ops = true) (hL : ¬ LetsOut Q) {a : Act} {w : World} {K : Act → World → Prop} (h : wpOp P ops Q i K a w) : wpOpIn (Fence.wide.inRound l) n P ops Q i K a w := by
  unfold wpOp at h
  unfold wpOpIn
  split
  · rename_i hi; simp only [hi] at h; exact h
  · rename_i o hi
    simp only [hi] at h
    split
    · rename_i hw
      simp only [hw, if_true] at h
      rcases h with h | h
      · exact oper_in_round (noDefer_spec hn hi) h
      · exact absurd h.2 hL
    · rename_i hw
      simp only [hw] at h
      exact ⟨fun _ _ => trivial, h⟩

theorem wpAnyIn_of_E {l n : Nat} (hn : noDefer ops = true) (hL : ¬ LetsOut Q) : ∀ (fuel : Nat) (listed : Array Bool) (a : Act) (w : World), wpAnyE P md ops Q E fuel listed a w → wpAnyIn (Fence.wide.inRound l) n P md ops Q fuel listed a w
  | 0, _, _, _, h => h
  | fuel + 1, _, _, _, h => ⟨h.1, fun i hi => wpOp_in_round hn hL (wpOp_mono (fun a' w' h' => wpAnyIn_of_E hn hL fuel _ a' w' h'.2) (h.2 i hi))⟩

/-- Q, but nothing is let out. -/
def noOut (Q : Exit → Act → World → Prop) : Exit → Act → World → Prop := fun e a w => match e with
  | .outgrown => False
  | e => Q e a w
theorem noOut_mono : ∀ e a w, noOut Q e a w → Q e a w := fun e _ _ h => by cases e <;> first | exact h | exact h.elim
theorem noOut_lets : ¬ LetsOut (noOut Q) := fun ⟨_, _, h⟩ => h
theorem noOut_done {listed : Array Bool} {a : Act} {w : World} (hr : Region.ready md ops listed = []) (h : Q .normal a w) (fuel : Nat) : wpAnyE P md ops (noOut Q) E fuel listed a w := wpAnyE_done (Q := noOut Q) hr h fuel

theorem wpIn_region_E {l n : Nat} (E : World → World → Prop) {id : Nat} {a : Act} {w : World} (hm : P.follows .mixedOrders = true) (hn : noDefer ops = true)
    (h : ∀ wd : World, Below w.heap.size w wd → wd.heap.size = w.heap.size → wpAnyE P .any ops (noOut Q) E ops.size (Array.replicate ops.size false) a wd) : (Code.region id ops true).wpIn (Fence.wide.inRound l) n P Q a w :=
  wpIn_mono (wpIn_region_any hm (wpAnyIn_of_E hn noOut_lets _ _ _ _ (h _ (Below.refl _ _).drew rfl))) noOut_mono
end
end Go.Proofs.Ytbhhgfpliggkgaa
namespace Go.Proofs.Ytbhhgfpliggkgaa
open Go.RowKit Go.Shelf
section
variable {k : IntKind} {e : TypeId} {base : Nat} {w : World} {v : Value} {xs : List Int} {g cap n : Nat}
theorem Ow.form (h : Ow k e base w v xs) (hn : 0 < xs.length) : ∃ g cap, v = .slice (some ⟨g, 0, none⟩) xs.length cap ∧ base ≤ g ∧ g < w.heap.size :=
  World.ownsRow.form (h : w.ownsRow base e 1 v xs.length (xs.map (.int k))) hn
theorem Ow.cellAt (h : Ow k e base w (.slice (some ⟨g, 0, none⟩) n cap) xs) (hn : xs.length = n) {j : Nat} (hj : j < xs.length) : w.cell? ⟨g, j, none⟩ = some (.int k xs[j]) := by
  subst hn
  rw [World.ownsRow.cellAt h j (by omega)]
  simp [hj]
theorem Ow.free (h : Ow k e base w (.slice (some ⟨g, 0, none⟩) n cap) xs) (hn : xs.length = n) (j : Nat) : w.frozen? ⟨g, j, none⟩ = false := by
  subst hn
  exact World.ownsRow.frozenAt h j
theorem Ow.stored (h : Ow k e base w (.slice (some ⟨g, 0, none⟩) n cap) xs) (hn : xs.length = n) (j : Nat) (y : Int) : Ow k e base (w.setCell ⟨g, j, none⟩ (.int k y)) (.slice (some ⟨g, 0, none⟩) n cap) (xs.set j y) := by
  subst hn
  have := (World.ownsRow.stored h j (.int k y)).1
  unfold Ow
  rw [List.length_set, List.map_set]
  exact this
end

theorem own_slice {k : IntKind} {e : TypeId} {base : Nat} {w : World} {v : Value} {xs : List Int} (h : Ow k e base w v xs) : ∃ A c, v = .slice A xs.length c := by
  rcases h.2 with ⟨rfl, h0⟩ | ⟨g, cap, cur, rfl, _⟩
  · exact ⟨none, 0, by rw [h0]⟩
  · exact ⟨_, cap, rfl⟩
theorem own_grown {k : IntKind} {e : TypeId} {base : Nat} {w w' : World} {v : Value} {xs : List Int} (h : Ow k e base w v xs) {row : Option Nat} (hw : w.grownBy w' row) (hr : ∀ r, row = some r → ∃ o : Obj, w.heap[r]? = some o ∧ o.isCells = false) : Ow k e base w' v xs := by
  refine ⟨h.1, ?_⟩
  rcases h.2 with hn | ⟨g, cap, cur, hv, hg, hh, r⟩
  · exact .inl hn
  · refine .inr ⟨g, cap, cur, hv, hg, ?_, r⟩
    rw [hw.block g (Array.getElem?_eq_some_iff.1 hh).1 (fun e => ?_)]
    · exact hh
    · obtain ⟨o, ho, hc⟩ := hr g e.symm
      rw [hh] at ho
      injection ho with ho
      subst ho
      simp [Obj.isCells] at hc

theorem own_far {k : IntKind} {e : TypeId} {base : Nat} {w : World} {v u : Value} {xs : List Int} (h : Ow k e base w v xs) {g : Nat} (hg : g < base) : Ow k e base (w.setCell ⟨g, 0, none⟩ u) v xs := by
  refine ⟨h.1, ?_⟩
  rcases h.2 with hn | ⟨b, cap, cur, hv, hb, hh, r⟩
  · exact .inl hn
  · exact .inr ⟨b, cap, cur, hv, hb, (Below.heap_setCell _ _ _ _ (by simp; omega)).trans hh, r⟩
theorem own_cells {k : IntKind} {e : TypeId} {base : Nat} {w : World} {v : Value} {xs : List Int} (h : Ow k e base w v xs) {j : Nat} {o : Obj} (hj : v.ownBlock = some j) (ho : w.heap[j]? = some o) : o.isCells = true := by
  rcases h.2 with ⟨rfl, _⟩ | ⟨b, cap, cur, rfl, hb, hh, r⟩
  · simp [Value.ownBlock] at hj
  · simp [Value.ownBlock] at hj
    subst hj
    rw [hh] at ho
    injection ho with ho
    subst ho
    rfl
theorem Ow.nil (k : IntKind) (e : TypeId) (base : Nat) (w : World) : Ow k e base w (.slice none 0 0) [] := ⟨rfl, .inl ⟨rfl, rfl⟩⟩
theorem Ow.empty (k : IntKind) (e : TypeId) (w : World) : Ow k e w.heap.size (w.alloc (.cells #[] e)) (.slice (some ⟨w.heap.size, 0, none⟩) 0 0) [] :=
  ⟨rfl, .inr ⟨w.heap.size, 0, _, rfl, Nat.le_refl _, heap_alloc_new w _, Nat.le_refl _, by decide, by decide, rfl⟩⟩
theorem grown_keep {w w' : World} {n₀ : Nat} {k : IntKind} {e : TypeId} {v : Value} {pre : List Int} {t : TypeId} {g : Nat} {vs : List Value} (hg : w.grownBy w' v.ownBlock) (hown : Ow k e n₀ w v pre) (h : Bk w t g vs) (hlt : g < n₀) : Bk w' t g vs :=
  (hg.block g h.lt (fun e => by have := (World.ownsRow.lt hown g e.symm).1; omega)).trans h
theorem Rd.via {k : IntKind} {w w1 w2 : World} {A : Option Addr} {n c : Nat} {xs : List Int} (h : Rd k w1 A n c xs) (hA : 0 < n → ∀ ad, A = some ad → ad.block < w.heap.size) (h1 : Below w.heap.size w w1) (h2 : Below w.heap.size w w2) : Rd k w2 A n c xs := by
  obtain ⟨a1, a2, a3, a4, a5, a6⟩ := h
  refine ⟨a1, a2, a3, a4, a5, fun hn => ?_⟩
  obtain ⟨g, o, e, hg, hx⟩ := a6 hn
  have hl : g < w.heap.size := hA hn _ e
  exact ⟨g, o, e, by have := h2.size; omega, fun i hi => ((h2.cell (p := ⟨g, o + i, none⟩) hl).trans (h1.cell (p := ⟨g, o + i, none⟩) hl).symm).trans (hx i hi)⟩
theorem Rd.litF (w : World) (e : TypeId) (xs : List Int) (fz : Nat × Nat) (hx : ∀ x ∈ xs, (Lit.int .u8 x).wf = true) (hl : xs.length ≤ 1000) : Rd .u8 (w.alloc (.cells (xs.map (Value.int .u8)).toArray e fz)) (some ⟨w.heap.size, 0, none⟩) xs.length xs.length xs := by
  refine ⟨rfl, Nat.le_refl _, by simp only [maxLen]; omega, by simp, hx, fun _ => ⟨w.heap.size, 0, rfl, by simp, fun i hi => ?_⟩⟩
  have h := heap_alloc_new w (.cells (xs.map (Value.int .u8)).toArray e fz)
  unfold World.cell?
  rw [h]
  simp [hi]
theorem Ints.run_cut2 {P : Program} {t e : TypeId} {k : IntKind} {bytes : Nat} (S : Ints P t e k bytes) (A : Option Addr) (n c s m : Nat) (hs : s + m ≤ n) (hn : n ≤ c) (w : World) :
    (Instr.slice t (.slice A n c) (some (.int .i64 s)) (some (.int .i64 (s + m))) none).run P w = .ok (.slice (cutA A c s) m (c - s)) w := by
  obtain ⟨i, hi, hz, hsz, hby⟩ := info_parts S.hi
  have h1 := run_sliceBound (P := P) (w := w) .i64 (s + m) c .sliceAcap (by omega) (by omega)
  have h2 := run_sliceBound (P := P) (w := w) .i64 s (s + m) .sliceB (by omega) (by omega)
  have e1 : ((s : Int) + m).toNat = s + m := by omega
  simp [Instr.slice, run_underlying S.ht, Instr.sliceBounds, h1, h2, sizeOf, typeInfo, hi, hsz, cutA, e1]
theorem Ints.run_pre {P : Program} {t e : TypeId} {k : IntKind} {bytes : Nat} (S : Ints P t e k bytes) (A : Option Addr) (n c s m : Nat) (hs : s + m ≤ n) (hn : n ≤ c) (w : World) :
    (Instr.slice t (.slice A n c) none (some (.int .i64 (s + m))) none).run P w = .ok (.slice A (s + m) c) w := by
  obtain ⟨i, hi, hz, hsz, hby⟩ := info_parts S.hi
  have h1 := run_sliceBound (P := P) (w := w) .i64 (s + m) c .sliceAcap (by omega) (by omega)
  have h2 := run_sliceBound (P := P) (w := w) .i64 0 (s + m) .sliceB (by omega) (by omega)
  have e1 : ((s : Int) + m).toNat = s + m := by omega
  have e2 : Option.map (fun x => Addr.add x 0) A = A := by
    cases A with
    | none => rfl
    | some x => simp [Addr.add]
  simp [Instr.slice, run_underlying S.ht, Instr.sliceBounds, h1, h2, sizeOf, typeInfo, hi, hsz, e1, e2]
theorem cutA_ne {A : Option Addr} {c k g : Nat} (h : ∀ ad, A = some ad → ad.block < g) : ∀ ad, cutA A c k = some ad → ad.block ≠ g := by
  intro ad he
  have : ad.block < g := by
    unfold cutA at he
    split at he
    · exact h ad he
    · cases A with
      | none => simp at he
      | some x =>
        simp at he
        subst he
        have := h x rfl
        unfold Addr.add
        split <;> exact this
  omega

theorem keepsOthers_of {w w' : World} (h : Below w.heap.size w w') : KeepsOthers w w' := ⟨h.size, fun k o ho _ => (h.block k (Array.getElem?_eq_some_iff.1 ho).1).trans ho⟩
/-- The blocks of S stay. -/
def KpS (S : Nat → Prop) (W W' : World) : Prop := (∀ k, S k → W'.heap[k]? = W.heap[k]?)
theorem KpS.refl (S : Nat → Prop) (W : World) : KpS S W W := fun _ _ => rfl
theorem KpS.trans {S : Nat → Prop} {A B C : World} (h : KpS S A B) (k : KpS S B C) : KpS S A C := fun i hi => (k i hi).trans (h i hi)
theorem KpS.put {S : Nat → Prop} {w : World} (hS : ∀ k, S k → k < w.heap.size) (W : World) (l : Nat) (o o' : Obj) (hl : w.heap.size ≤ l) (ho : W.heap[l]? = some o) (_ : o.isCells = false) (_ : o.isWalk = false) : KpS S W (W.putObj l o') :=
  fun k hk => World.putObj_heap_other (by have := hS k hk; omega)
theorem KpS.cell {S : Nat → Prop} {W W' : World} (h : KpS S W W') {g o : Nat} (hg : S g) : W'.cell? ⟨g, o, none⟩ = W.cell? ⟨g, o, none⟩ := World.cell?_of_block (h g hg)
theorem Rd.kps {S : Nat → Prop} {k : IntKind} {w w' : World} {A : Option Addr} {n c : Nat} {xs : List Int} (h : Rd k w A n c xs) (hA : 0 < n → ∀ ad, A = some ad → S ad.block) (hk : KpS S w w') : Rd k w' A n c xs := by
  obtain ⟨a1, a2, a3, a4, a5, a6⟩ := h
  refine ⟨a1, a2, a3, a4, a5, fun hn => ?_⟩
  obtain ⟨g, o, e, hg, hx⟩ := a6 hn
  have hs : S g := hA hn _ e
  refine ⟨g, o, e, ?_, fun i hi => (hk.cell hs).trans (hx i hi)⟩
  have h1 := hk g hs
  rw [Array.getElem?_eq_getElem hg] at h1
  exact (Array.getElem?_eq_some_iff.1 h1).1

/-- A list of bytes. -/
def okB (l : List Int) : Bool := l.all fun x => decide (0 ≤ x ∧ x < 256)
theorem okB_of {l : List Int} (h : ∀ x ∈ l, (Lit.int .u8 x).wf = true) : okB l = true := by
  simp only [okB, List.all_eq_true, decide_eq_true_eq]
  exact fun x hx => u8_bounds (h x hx)
theorem wf_of_ok {l : List Int} (h : okB l = true) : ∀ x ∈ l, (Lit.int .u8 x).wf = true := by
  intro x hx
  simp only [okB, List.all_eq_true, decide_eq_true_eq] at h
  have := h x hx
  simp [Lit.wf, IntKind.min, IntKind.max, IntKind.signed, IntKind.bits]
  omega
theorem okB_app {l m : List Int} (h : okB l = true) (k : okB m = true) : okB (l ++ m) = true := by
  simp only [okB, List.all_append, Bool.and_eq_true] at *; exact ⟨h, k⟩
theorem okB_take {l : List Int} (h : okB l = true) (k : Nat) : okB (l.take k) = true := by
  simp only [okB, List.all_eq_true, decide_eq_true_eq] at h ⊢
  exact fun x hx => h x (List.mem_of_mem_take hx)
theorem okB_drop {l : List Int} (h : okB l = true) (k : Nat) : okB (l.drop k) = true := by
  simp only [okB, List.all_eq_true, decide_eq_true_eq] at h ⊢
  exact fun x hx => h x (List.mem_of_mem_drop hx)

theorem wpListIn_append_one {F : Fence} {n : Nat} {P : Program} {W : World} {ops : Array Oper} {rest : List Oper} {o : Oper} {a : Act} {Q : Exit → Act → World → Prop} {t e : TypeId} {k : IntKind} {bytes : Nat} (S : Ints P t e k bytes) (hgd : o.guard = none) (s x : Operand)
    (ho : o.op = .call { callee := .builtin .append, args := #[s, x], argTypes := #[t, t] }) {v : Value} {base : Nat} {pre : List Int} (hs : a.eval s = v) (hown : Ow k e base W v pre)
    {x0 : Int} {g : Nat} (hx : a.eval x = .slice (some ⟨g, 0, none⟩) 1 1) (hc : W.cell? ⟨g, 0, none⟩ = some (.int k x0)) (hlen : pre.length + 1 ≤ 1000000) (hby : bytes ≤ 8) (hb : base ≤ W.heap.size)
    (h : ∀ v' w', Ow k e base w' v' (pre ++ [x0]) → W.grownBy w' v.ownBlock → wpListIn F n P ops Q rest (a.put o.dst v') w') : wpListIn F n P ops Q (o :: rest) a W := by
  obtain ⟨i, hi, hz, hsz, hb1⟩ := info_parts S.hi
  have hm : (pre.length + 1) * bytes ≤ (pre.length + 1) * 8 := Nat.mul_le_mul_left _ hby
  refine wpListIn_append_own W hgd s x t ho base e i (.int k 0) 1 bytes S.ht hi hz hsz hb1 rfl (by decide) v pre.length (pre.map (.int k)) hs hown ⟨g, 0, none⟩ 1 1 [.int k x0] hx rfl ?_ (by simp [Value.oneCell']) (by simp only [maxLen]; omega) (by omega) hb ?_
  · intro j u hu
    cases j with
    | zero => simp at hu; subst hu; simpa [Addr.add] using hc
    | succ j => simp at hu
  · intro v' w' h1 h2 _
    refine h v' w' ?_ h2
    unfold Ow
    rw [List.length_append, List.map_append]
    exact h1
end Go.Proofs.Ytbhhgfpliggkgaa
namespace Go.Proofs.Ytbhhgfpliggkgaa
open Go.RowKit Go.Shelf
section
variable {P : Program} {w : World} {ops : Array Oper} {o : Oper} {a : Act} {Q : Exit → Act → World → Prop} {K : Act → World → Prop}
theorem opwp_append_ints {t e : TypeId} {k : IntKind} {bytes : Nat} (S : Ints P t e k bytes) (hgd : o.guard = none) (s x : Operand)
    (ho : o.op = .call { callee := .builtin .append, args := #[s, x], argTypes := #[t, t] })
    {v : Value} {xs : List Int} (hs : a.eval s = v) {base : Nat} (hown : Ow k e base w v xs)
    {A : Option Addr} {m c : Nat} {ys : List Int} (hx : a.eval x = .slice A m c) (hr : Rd k w A m c ys)
    (hlen : (xs.length + m) * bytes ≤ 140737488355328) (hb1 : 0 < bytes) (hb : base ≤ w.heap.size)
    (h : ∀ v' w', Ow k e base w' v' (xs ++ ys) → Below base w w' → K (a.put o.dst v') w') : if Region.wanted o (yielded ops a.tmps) = true then Oper.wp P o a w K Q else K (a.put o.dst undef) w := by
  obtain ⟨i, hi, hz, hsz, hby⟩ := info_parts S.hi
  have hmax : xs.length + m ≤ maxLen := by
    have : (xs.length + m) * 1 ≤ (xs.length + m) * bytes := Nat.mul_le_mul_left _ hb1
    simp only [maxLen]; omega
  have hvb : ∀ g, v.ownBlock = some g → base ≤ g := fun g hg => (World.ownsRow.lt hown g hg).1
  obtain ⟨hl, _, hcm, hnil, hwf, hcell⟩ := hr
  rw [if_pos (by simp only [Region.wanted, hgd])]
  have hK : ∀ a w, K a w → K a w := fun _ _ h => h
  unfold Oper.wp execOp
  rcases A with _ | ad
  · have h0 := hnil rfl
    subst h0
    obtain rfl : m = 0 := by omega
    obtain rfl : ys = [] := List.eq_nil_of_length_eq_zero hl
    have hrun := run_append_owned_none (P := P) (w := w) base t o.type e i 1 S.ht hi v xs.length (xs.map (.int k)) hown
    simp only [ho, resolve, invoke, builtin, Sem.run_bind, Sem.run_pure, Result.andThen_ok, List.map_toArray, List.map_cons, List.map_nil, hs, hx, hrun]
    exact hK _ _ (h v w (by simpa using hown) (Below.refl _ _))
  · have hnews : ∀ j u, (ys.map (Value.int k))[j]? = some u → w.cell? (ad.add j) = some u := by
      intro j u hu
      rw [List.getElem?_map] at hu
      have hj : j < ys.length := by
        rcases Nat.lt_or_ge j ys.length with h1 | h1
        · exact h1
        · rw [List.getElem?_eq_none h1] at hu; simp at hu
      obtain ⟨g, off, he, _, hx'⟩ := hcell (by omega)
      injection he with he
      subst he
      have hadd : (⟨g, off, none⟩ : Addr).add j = ⟨g, off + j, none⟩ := by unfold Addr.add; split <;> simp_all
      rw [hadd, hx' j (by omega)]
      rw [List.getElem?_eq_getElem hj] at hu
      simp at hu
      simp [hj, ← hu]
    obtain ⟨v', w', hrun, h2, h3, _, _⟩ := run_append_own_at (P := P) w base t o.type e i (.int k 0) 1 bytes S.ht hi hz hsz hby rfl (by omega) v xs.length (xs.map (.int k)) hown ad m c (ys.map (.int k))
      (by simp [hl]) hnews (by simp [Value.oneCell']) hmax hlen hb
    simp only [ho, resolve, invoke, builtin, Sem.run_bind, Sem.run_pure, Result.andThen_ok, List.map_toArray, List.map_cons, List.map_nil, hs, hx, hrun]
    refine hK _ _ (h v' w' ?_ ((Below.refl base w).grown h3 hb hvb))
    unfold Ow
    rw [List.length_append, hl, List.map_append]
    exact h2

end
end Go.Proofs.Ytbhhgfpliggkgaa
namespace Go.Proofs.Ytbhhgfpliggkgaa
open Go.RowKit Go.Shelf Go.ChangeShapes Go.WideShapes

/-- A shape. A struct is a row of fields: 'one' before the others. -/
inductive Ty where
  | int (k : IntKind)
  | bool
  | str
  | sl (e : Ty)
  | unit
  | one (a b : Ty)
structure Sl (α : Type) where
  A : Option Addr
  n : Nat
  c : Nat
  l : List α
def Ty.size : Ty → Nat
  | .unit => 0
  | .one a b => a.size + b.size
  | _ => 1
def Ty.den : Ty → Type
  | .int _ => Int
  | .bool => Bool
  | .str => ByteArray
  | .sl e => Sl e.den
  | .unit => Unit
  | .one a b => a.den × b.den
def Ty.cells : (t : Ty) → t.den → List Value
  | .int k, (x : Int) => [.int k x]
  | .bool, (b : Bool) => [.bool b]
  | .str, (s : ByteArray) => [.string s]
  | .sl e, (s : Sl e.den) => [.slice s.A s.n s.c]
  | .unit, _ => []
  | .one a b, (x : a.den × b.den) => a.cells x.1 ++ b.cells x.2
theorem Ty.cells_length : ∀ (t : Ty) (x : t.den), (t.cells x).length = t.size
  | .int _, _ => rfl
  | .bool, _ => rfl
  | .str, _ => rfl
  | .sl _, _ => rfl
  | .unit, _ => rfl
  | .one a b, x => by
    show (a.cells x.1 ++ b.cells x.2).length = a.size + b.size
    rw [List.length_append, a.cells_length, b.cells_length]
def Ty.reads (w : World) : (t : Ty) → t.den → Prop
  | .int k, (x : Int) => (Lit.int k x).wf = true
  | .bool, _ => True
  | .str, (s : ByteArray) => s.size ≤ maxLen
  | .sl e, (s : Sl e.den) => s.l.length = s.n ∧ s.n ≤ s.c ∧ s.c ≤ maxLen ∧ (s.A = none → s.c = 0) ∧
      (0 < s.n → 0 < e.size → ∃ g o, s.A = some ⟨g, o, none⟩ ∧ g < w.heap.size ∧ ∀ i (h : i < s.l.length) j v, (e.cells s.l[i])[j]? = some v → w.cell? ⟨g, o + i * e.size + j, none⟩ = some v) ∧
      ∀ x ∈ s.l, e.reads w x
  | .unit, _ => True
  | .one a b, (x : a.den × b.den) => a.reads w x.1 ∧ b.reads w x.2
/-- In P, type t (or the fields that are left, from an offset on) is of this shape. -/
def Ty.fits (P : Program) : Ty → (TypeId ⊕ (List Field × Nat)) → Bool
  | .int k, .inl t => match P.underlying t with | some (.int k') => decide (k' = k) | _ => false
  | .bool, .inl t => match P.underlying t with | some .bool => true | _ => false
  | .str, .inl t => match P.underlying t with | some .string => true | _ => false
  | .sl e, .inl t => match P.underlying t with | some (.slice e') => decide (P.cellsOf e' = e.size) && e.fits P (.inl e') | _ => false
  | .unit, .inl t => match P.underlying t with | some (.struct fs) => fs.toList.isEmpty && decide (P.cellsOf t = 0) | _ => false
  | .one a b, .inl t => match P.underlying t with
    | some (.struct fs) => decide (P.cellsOf t = a.size + b.size) && match fs.toList with
      | f :: r => decide (f.offset = 0) && (decide (P.cellsOf f.type = a.size) && (a.fits P (.inl f.type) && b.fits P (.inr (r, a.size))))
      | [] => false
    | _ => false
  | .unit, .inr (fs, _) => fs.isEmpty
  | .one a b, .inr (f :: r, o) => decide (f.offset = o) && (decide (P.cellsOf f.type = a.size) && (a.fits P (.inl f.type) && b.fits P (.inr (r, o + a.size))))
  | _, _ => false

section
variable {H : Type} {enc : TypeId × Value → H} {P : Program} {w : World} {base : Nat} {spare : Nat → Bool} {held : Bool}
theorem mapM_some {α β : Type} (f : α → Option β) : ∀ (l : List α) (r : List β), l.mapM f = some r → ∀ i (h : i < l.length), ∃ b, r[i]? = some b ∧ f l[i] = some b
  | [], r, h, i, hi => by simp at hi
  | a :: l, r, h, i, hi => by
    simp only [List.mapM_cons, Option.bind_eq_bind, Option.bind_eq_some_iff, Option.pure_def, Option.some.injEq] at h
    obtain ⟨b, hb, r', hr, rfl⟩ := h
    cases i with
    | zero => exact ⟨b, rfl, hb⟩
    | succ i => simpa using mapM_some f l r' hr i (by simpa using hi)
theorem mapM_len {α β : Type} (f : α → Option β) : ∀ (l : List α) (r : List β), l.mapM f = some r → r.length = l.length
  | [], r, h => by simp at h; subst h; rfl
  | a :: l, r, h => by
    simp only [List.mapM_cons, Option.bind_eq_bind, Option.bind_eq_some_iff, Option.pure_def, Option.some.injEq] at h
    obtain ⟨b, hb, r', hr, rfl⟩ := h
    simp [mapM_len f l r' hr]
theorem cells_at {a : Addr} {n : Nat} {cs : List Value} (h : w.cells? base a n = some cs) : cs.length = n ∧ ∀ j v, cs[j]? = some v → w.cell? (a.add j) = some v := by
  unfold World.cells? at h
  split at h
  · have hl := mapM_len _ _ _ h
    refine ⟨by simpa using hl, fun j v hv => ?_⟩
    have hj : j < cs.length := (List.getElem?_eq_some_iff.1 hv).1
    obtain ⟨b, hb, hc⟩ := mapM_some _ _ _ h j (by rw [← hl]; exact hj)
    rw [hb] at hv
    injection hv with hv
    subst hv
    simpa using hc
  · simp at h
theorem choose_list {α : Type} {p : Nat → α → Prop} : ∀ (n : Nat), (∀ i, i < n → ∃ x, p i x) → ∃ l : List α, l.length = n ∧ ∀ i (h : i < l.length), p i l[i]
  | 0, _ => ⟨[], rfl, fun i h => by simp at h⟩
  | n + 1, h => by
    obtain ⟨l, hl, hp⟩ := choose_list n (fun i hi => h i (by omega))
    obtain ⟨x, hx⟩ := h n (by omega)
    refine ⟨l ++ [x], by simp [hl], fun i hi => ?_⟩
    rcases Nat.lt_or_ge i l.length with h1 | h1
    · rw [List.getElem_append_left h1]
      exact hp i h1
    · have : i = n := by simp at hi; omega
      subst this
      rw [List.getElem_append_right h1]
      simpa [hl] using hx

theorem Ty.open (ty : Ty) : ∀ {fuel : Nat},
    (∀ {t : TypeId} {cs : List Value} {x : DataW H × List MemPlace}, ty.fits P (.inl t) = true → DataW.trod enc P w base spare held fuel t cs = some x → ∃ d : ty.den, cs = ty.cells d ∧ ty.reads w d) ∧
    (∀ {fs : List Field} {o : Nat} {cs : List Value}, ty.fits P (.inr (fs, o)) = true → cs.length = o + ty.size →
      (∀ f ∈ fs, ∃ x, DataW.trod enc P w base spare held fuel f.type ((cs.drop f.offset).take (P.cellsOf f.type)) = some x) → ∃ d : ty.den, cs.drop o = ty.cells d ∧ ty.reads w d) := by
  induction ty with
  | int k =>
    refine fun {fuel} => ⟨fun {t cs x} hf h => ?_, fun {fs o cs} hf => by simp [Ty.fits] at hf⟩
    unfold Ty.fits at hf
    split at hf
    · rename_i k' hu
      have hk : k' = k := by simpa using hf
      subst hk
      obtain ⟨n, rfl, _, hw⟩ := DataW.trod_int hu h
      exact ⟨(n : Int), rfl, hw⟩
    · simp at hf
  | bool =>
    refine fun {fuel} => ⟨fun {t cs x} hf h => ?_, fun {fs o cs} hf => by simp [Ty.fits] at hf⟩
    unfold Ty.fits at hf
    split at hf
    · rename_i hu
      obtain ⟨n, rfl, _⟩ := DataW.trod_bool hu h
      exact ⟨(n : Bool), rfl, trivial⟩
    · simp at hf
  | str =>
    refine fun {fuel} => ⟨fun {t cs x} hf h => ?_, fun {fs o cs} hf => by simp [Ty.fits] at hf⟩
    unfold Ty.fits at hf
    split at hf
    · rename_i hu
      obtain ⟨n, rfl, _, hs⟩ := DataW.trod_string hu h
      exact ⟨(n : ByteArray), rfl, hs⟩
    · simp at hf
  | sl e ih =>
    refine fun {fuel} => ⟨fun {t cs x} hf h => ?_, fun {fs o cs} hf => by simp [Ty.fits] at hf⟩
    unfold Ty.fits at hf
    split at hf
    · rename_i e' hu
      simp only [Bool.and_eq_true, decide_eq_true_eq] at hf
      obtain ⟨hsz, hfe⟩ := hf
      rcases DataW.trod_slice hu h with ⟨rfl, _⟩ | ⟨a, len, cap, elems, rest, n, rfl, rfl, _, hb, hl, hm, hlen, hel, _, _⟩
      · exact ⟨(⟨none, 0, 0, []⟩ : Sl e.den), rfl, rfl, Nat.le_refl _, Nat.zero_le _, fun _ => rfl, fun h => absurd h (by simp), by simp⟩
      · have hx : ∀ i, i < len → ∃ d : e.den, e.reads w d ∧ ∀ j v, (e.cells d)[j]? = some v → w.cell? ((a.add (i * e.size)).add j) = some v := by
          intro i hi
          have h1 := hel i hi
          rw [List.getElem?_eq_getElem (by omega), Option.bind_eq_some_iff] at h1
          obtain ⟨cs, hc, ht⟩ := h1
          obtain ⟨d, hd, hr⟩ := (ih (fuel := n)).1 hfe ht
          subst hd
          rw [hsz] at hc
          exact ⟨d, hr, (cells_at hc).2⟩
        obtain ⟨l, hll, hp⟩ := choose_list len hx
        refine ⟨(⟨some a, len, cap, l⟩ : Sl e.den), rfl, hll, hl, hm, by simp, fun hn hz => ?_, fun x hx => ?_⟩
        · obtain ⟨b, off, spot⟩ := a
          have h0 := (hp 0 (by show 0 < l.length; rw [hll]; exact hn)).2 0 _ (List.getElem?_eq_getElem (by rw [e.cells_length]; exact hz))
          obtain rfl : spot = none := by simpa [Addr.add] using World.cell?_spot h0
          have hlt := World.block_lt_of_cell? _ _ h0
          refine ⟨b, off, rfl, by simpa [Addr.add] using hlt, fun i hi j v hv => ?_⟩
          have h1 := (hp i hi).2 j v hv
          have hadd : ((⟨b, off, none⟩ : Addr).add (i * e.size)).add j = ⟨b, off + i * e.size + j, none⟩ := by
            unfold Addr.add; split <;> simp_all
            split <;> simp_all
          rw [hadd] at h1
          exact h1
        · obtain ⟨i, hi, rfl⟩ := List.getElem_of_mem hx
          exact (hp i hi).1
    · simp at hf
  | unit =>
    refine fun {fuel} => ⟨fun {t cs x} hf h => ?_, fun {fs o cs} hf hl _ => ⟨(), ?_, trivial⟩⟩
    · unfold Ty.fits at hf
      split at hf
      · rename_i fs hu
        simp only [Bool.and_eq_true, decide_eq_true_eq] at hf
        obtain ⟨xs, n, _, _, hl, _⟩ := DataW.trod_struct hu h
        exact ⟨(), List.eq_nil_of_length_eq_zero (by rw [hl]; exact hf.2), trivial⟩
      · simp at hf
    · exact List.drop_eq_nil_of_le (by rw [hl]; show o + 0 ≤ o; omega)
  | one a b iha ihb =>
    have key : ∀ {fuel : Nat} {f : Field} {r : List Field} {o : Nat} {cs : List Value}, (decide (f.offset = o) && (decide (P.cellsOf f.type = a.size) && (a.fits P (.inl f.type) && b.fits P (.inr (r, o + a.size))))) = true → cs.length = o + (a.size + b.size) →
        (∀ f' ∈ f :: r, ∃ x, DataW.trod enc P w base spare held fuel f'.type ((cs.drop f'.offset).take (P.cellsOf f'.type)) = some x) → ∃ d : (Ty.one a b).den, cs.drop o = (Ty.one a b).cells d ∧ (Ty.one a b).reads w d := by
      intro fuel f r o cs hf hl hall
      simp only [Bool.and_eq_true, decide_eq_true_eq] at hf
      obtain ⟨h1, h2, h3, h4⟩ := hf
      obtain ⟨x, hx⟩ := hall f (by simp)
      obtain ⟨d1, e1, r1⟩ := (iha (fuel := fuel)).1 h3 hx
      obtain ⟨d2, e2, r2⟩ := (ihb (fuel := fuel)).2 h4 (by rw [hl]; omega) (fun f' hf' => hall f' (by simp [hf']))
      refine ⟨(d1, d2), ?_, r1, r2⟩
      show cs.drop o = a.cells d1 ++ b.cells d2
      rw [← e1, ← e2, h1, h2, ← List.drop_drop, List.take_append_drop]
    refine fun {fuel} => ⟨fun {t cs x} hf h => ?_, fun {fs o cs} hf hl hall => ?_⟩
    · unfold Ty.fits at hf
      split at hf
      · rename_i fs hu
        simp only [Bool.and_eq_true, decide_eq_true_eq] at hf
        obtain ⟨hc, hf⟩ := hf
        obtain ⟨xs, n, rfl, _, hl, hxl, hall⟩ := DataW.trod_struct hu h
        split at hf
        · rename_i f r hfs
          have h2 : ∀ f' ∈ f :: r, ∃ x, DataW.trod enc P w base spare held n f'.type ((cs.drop f'.offset).take (P.cellsOf f'.type)) = some x := by
            intro f' hf'
            rw [← hfs] at hf'
            obtain ⟨i, hi, rfl⟩ := List.getElem_of_mem hf'
            have hi' : i < fs.size := by simpa using hi
            have := hall i fs[i] (by simp [hi'])
            rw [List.getElem?_eq_getElem (by rw [hxl]; exact hi')] at this
            exact ⟨_, by simpa using this⟩
          have := key (o := 0) (by simpa using hf) (by rw [hl, hc]; omega) h2
          simpa using this
        · simp at hf
      · simp at hf
    · cases fs with
      | nil => simp [Ty.fits] at hf
      | cons f r => exact key hf hl hall
/-- A value that came in. -/
theorem Ty.opened (ty : Ty) {t : TypeId} {v : Value} {d : DataW H} {ps : List MemPlace} (hf : ty.fits P (.inl t) = true) (h : DataW.Trod enc P w base spare held t v d ps) : ∃ x : ty.den, v.cells.toList = ty.cells x ∧ ty.reads w x := by
  obtain ⟨fuel, h⟩ := h
  exact (ty.open (fuel := fuel)).1 hf h
end
theorem rd_of_reads {k : IntKind} {w : World} (s : Sl Int) (h : (Ty.sl (.int k)).reads w s) : Rd k w s.A s.n s.c s.l := by
  obtain ⟨h1, h2, h3, h4, h5, h6⟩ := h
  refine ⟨h1, h2, h3, h4, fun x hx => h6 x hx, fun hn => ?_⟩
  obtain ⟨g, o, e, hg, hx⟩ := h5 hn (show 0 < 1 from Nat.one_pos)
  refine ⟨g, o, e, hg, fun i hi => ?_⟩
  have h1' : s.l.length = s.n := h1
  have hi' : i < s.l.length := by omega
  have := hx i hi' 0 _ rfl
  simp only [Ty.size, Nat.mul_one, Nat.add_zero] at this
  have e2 : s.l.getD i 0 = s.l[i] := by simp [List.getD, hi']
  rw [e2]
  exact this
end Go.Proofs.Ytbhhgfpliggkgaa
namespace Go.Proofs.Ytbhhgfpliggkgaa
open Go.RowKit
section
variable {P : Program} {ops : Array Oper} {Q : Exit → Act → World → Prop} {md : Region.Mode} {E : World → World → Prop} {late : List Nat}

/-- Whatever order is picked from here on; each operation that is not late leads from a world to one that E lets. -/
def wpAnyL (P : Program) (md : Region.Mode) (ops : Array Oper) (Q : Exit → Act → World → Prop) (E : World → World → Prop) (late : List Nat) : Nat → Array Bool → Act → World → Prop
  | 0, listed, a, w => Region.ready md ops listed = [] ∧ Q .normal a w
  | fuel + 1, listed, a, w =>
    (Region.ready md ops listed = [] → Q .normal a w) ∧
    ∀ i ∈ Region.ready md ops listed, wpOp P ops Q i (fun a' w' => (i ∈ late ∨ E w w') ∧ wpAnyL P md ops Q E late fuel (listed.setIfInBounds i true) a' w') a w

theorem wpAny_of_L : ∀ (fuel : Nat) (listed : Array Bool) (a : Act) (w : World), wpAnyL P md ops Q E late fuel listed a w → wpAny P md ops Q fuel listed a w
  | 0, _, _, _, h => h
  | fuel + 1, _, _, _, h => ⟨h.1, fun i hi => wpOp_mono (fun a' w' h' => wpAny_of_L fuel _ a' w' h'.2) (h.2 i hi)⟩

/-- Operation j comes behind operation i. -/
def reach (md : Region.Mode) (ops : Array Oper) : Nat → Nat → Nat → Bool
  | 0, _, _ => false
  | f + 1, j, i => match ops[j]? with
    | none => false
    | some o => o.after.any fun e => Region.binds md e && (e.on == i || reach md ops f e.on i)
/-- What is listed came behind what it waits for. -/
def Closed (md : Region.Mode) (ops : Array Oper) (listed : Array Bool) : Prop :=
  ∀ k o, ops[k]? = some o → listed.getD k false = true → ∀ e ∈ o.after, Region.binds md e = true → listed.getD e.on false = true
def closedB (md : Region.Mode) (ops : Array Oper) (listed : Array Bool) : Bool :=
  (List.range ops.size).all fun k => !(listed.getD k false) || match ops[k]? with
    | none => true
    | some o => o.after.all fun e => !(Region.binds md e) || listed.getD e.on false
theorem closedB_spec {listed : Array Bool} (h : closedB md ops listed = true) : Closed md ops listed := by
  intro k o ho hk e he hb
  have hlt := (Array.getElem?_eq_some_iff.1 ho).1
  have h1 := (List.all_eq_true.1 h) k (by simpa using hlt)
  rw [hk] at h1
  simp only [ho, Bool.not_true, Bool.false_or] at h1
  have h2 := (Array.all_eq_true_iff_forall_mem.1 h1) e he
  simpa [hb] using h2
theorem reach_listed {listed : Array Bool} (hc : Closed md ops listed) {i : Nat} : ∀ f j, reach md ops f j i = true → (∀ o, ops[j]? = some o → ∀ e ∈ o.after, Region.binds md e = true → listed.getD e.on false = true) → listed.getD i false = true
  | 0, _, h, _ => by cases h
  | f + 1, j, h, hd => by
    unfold reach at h
    split at h
    · cases h
    · rename_i o ho
      obtain ⟨e, he, h5⟩ := Array.any_eq_true'.1 h
      simp only [Bool.and_eq_true, Bool.or_eq_true, beq_iff_eq] at h5
      have hl := hd o ho e he h5.1
      rcases h5.2 with h6 | h6
      · rw [← h6]; exact hl
      · exact reach_listed hc f e.on h6 fun o' ho' => hc e.on o' ho' hl
theorem getD_set_true {listed : Array Bool} {j k : Nat} (h : listed.getD k false = true) : (listed.setIfInBounds j true).getD k false = true := by
  simp only [Array.getD_eq_getD_getElem?, Array.getElem?_setIfInBounds] at *
  split
  · rename_i hjk
    subst hjk
    split
    · rfl
    · rename_i hs
      rw [Array.getElem?_eq_none (by omega)] at h
      cases h
  · exact h
theorem Closed.set {listed : Array Bool} (hc : Closed md ops listed) {j : Nat} {oj : Oper} (hj : ops[j]? = some oj) (hd : ∀ e ∈ oj.after, Region.binds md e = true → listed.getD e.on false = true) : Closed md ops (listed.setIfInBounds j true) := by
  intro k o ho hk e he hb
  refine getD_set_true ?_
  by_cases hjk : j = k
  · subst hjk
    rw [hj] at ho
    injection ho with ho
    subst ho
    exact hd e he hb
  · rw [getD_set_ne false hjk] at hk
    exact hc k o ho hk e he hb
/-- Each late operation is listed, or comes behind operation i. -/
def waits (md : Region.Mode) (ops : Array Oper) (late : List Nat) (listed : Array Bool) (i : Nat) : Bool := late.all fun j => listed.getD j false || reach md ops ops.size j i
theorem waits_set {listed : Array Bool} {i : Nat} (h : waits md ops late listed i = true) (j : Nat) : waits md ops late (listed.setIfInBounds j true) i = true := by
  refine List.all_eq_true.2 fun k hk => ?_
  have h1 := (List.all_eq_true.1 h) k hk
  rw [Bool.or_eq_true] at h1 ⊢
  rcases h1 with h1 | h1
  · exact .inl (getD_set_true h1)
  · exact .inr h1

theorem wpAnyL_first (hrefl : ∀ w, E w w) (htr : ∀ a b c, E a b → E b c → E a c) {i : Nat} {oi : Oper} {v : Value} (hi : ops[i]? = some oi)
    (hsel : ∀ (j : Nat) (o : Oper) cs b, ops[j]? = some o → o.op ≠ .select cs b) (hQ : ∀ c a w, Q (.panic c) (a.put oi.dst v) w → Q (.panic c) a w) :
    ∀ (fuel : Nat) (listed : Array Bool) (a : Act) (w : World), waits md ops late listed i = true → Closed md ops listed →
      (∀ j oj, ops[j]? = some oj → j ≠ i → listed.getD j true = false → (∀ e ∈ oj.after, Region.binds md e = true → e.on ≠ i) → oi.apart ops oj = true) →
      i ∈ Region.ready md ops listed → YieldsIf P ops (E w) oi v a →
      wpAnyL P md ops Q E late fuel (listed.setIfInBounds i true) (a.put oi.dst v) w → wpAnyL P md ops Q E late (fuel + 1) listed a w := by
  intro fuel
  induction fuel with
  | zero =>
    intro listed a w _ _ _ hr hy H
    refine ⟨fun h => absurd hr (by rw [h]; simp), fun j hj => ?_⟩
    rcases Nat.decEq j i with hji | rfl
    · have h0 := ready_mono hj hji
      rw [H.1] at h0
      simp at h0
    · exact hy.wpOp hi (hrefl w) ⟨.inr (hrefl w), H⟩
  | succ fuel ih =>
    intro listed a w hw hcl hfree hr hy H
    refine ⟨fun h => absurd hr (by rw [h]; simp), fun j hj => ?_⟩
    rcases Nat.decEq j i with hji | rfl
    · have h1 := H.2 j (ready_mono hj hji)
      obtain ⟨hjun, oj, hoj, hall⟩ := mem_ready.1 hj
      have hun := (mem_ready.1 hr).1
      have hnot : ∀ e ∈ oj.after, Region.binds md e = true → e.on ≠ i := by
        intro e he hb heq
        have h3 := hall e he hb
        rw [heq] at h3
        rcases Nat.lt_or_ge i listed.size with h' | h'
        · simp [h'] at hun h3
          rw [hun] at h3
          cases h3
        · simp [Array.getElem?_eq_none h'] at h3
      have hdeps : ∀ e ∈ oj.after, Region.binds md e = true → listed.getD e.on false = true := fun e he hb => by
        simpa using hall e he hb
      have hearly : ¬ j ∈ late := fun hl => by
        have h3 : reach md ops ops.size j i = true := by
          have h3 := (List.all_eq_true.1 hw) j hl
          rw [Bool.or_eq_true] at h3
          rcases h3 with h3 | h3
          · exfalso
            rcases Nat.lt_or_ge j listed.size with h' | h'
            · simp [h'] at hjun h3
              rw [hjun] at h3
              cases h3
            · simp [Array.getElem?_eq_none h'] at h3
          · exact h3
        have h4 := reach_listed hcl _ _ h3 (fun o ho => by
          rw [hoj] at ho
          injection ho with ho
          subst ho
          exact hdeps)
        rcases Nat.lt_or_ge i listed.size with h' | h'
        · simp [h'] at hun h4
          rw [hun] at h4
          cases h4
        · simp [Array.getElem?_eq_none h'] at h4
      have h2 := wpOp_putIf (S := E w) hoj (hfree j oj hoj hji hjun hnot) (fun cs b => hsel i oi cs b hi) (fun cs b => hsel j oj cs b hoj) hQ hy h1
      refine wpOp_mono (fun a' w' h3 => ?_) h2
      have hE : E w w' := by
        rcases h3.2.1 with h | h
        · exact absurd h hearly
        · exact h
      refine ⟨h3.2.1, ih _ a' w' (waits_set hw j) (hcl.set hoj hdeps) ?_ (ready_mono hr (Ne.symm hji)) (yieldsIf_mono (fun W hW => htr _ _ _ hE hW) h3.1) ?_⟩
      · intro k ok hk hki hkun hno
        refine hfree k ok hk hki ?_ hno
        by_cases hjk : j = k
        · subst hjk
          exact hjun
        · rw [getD_set_ne true hjk] at hkun
          exact hkun
      · rw [Array.setIfInBounds_comm _ _ hji]
        exact h3.2.2
    · exact hy.wpOp hi (hrefl w) ⟨.inr (hrefl w), H⟩

/-- Operation number i is taken now: the side conditions are paid by reckoning. -/
theorem takeL (hE : Tr E) (i : Nat) {oi : Oper} {v : Value} {fuel : Nat} {listed : Array Bool} {a : Act} {w : World} (hi : ops[i]? = some oi)
    (hs : Region.noSelect ops = true) (hf : Region.free md ops listed i = true) (hr : (Region.ready md ops listed).contains i = true) (hw : (waits md ops late listed i && closedB md ops listed) = true)
    (hQ : ∀ c a w, Q (.panic c) (a.put oi.dst v) w → Q (.panic c) a w)
    (hy : (Region.wanted oi (yielded ops a.tmps) = true ∧ ∀ W, E w W → (execOp a.eval oi).run P W = .ok (.value v) W) ∨ (Region.wanted oi (yielded ops a.tmps) = false ∧ v = undef))
    (h : wpAnyL P md ops Q E late fuel (listed.setIfInBounds i true) (a.put oi.dst v) w) : wpAnyL P md ops Q E late (fuel + 1) listed a w :=
  wpAnyL_first hE.refl hE.trans hi (Region.noSelect_spec hs) hQ fuel listed a w (Bool.and_eq_true _ _ ▸ hw).1 (closedB_spec (Bool.and_eq_true _ _ ▸ hw).2) (Region.free_spec hi hf) (by simpa using hr) hy h

/-- Just one may come up. -/
theorem wpAnyL_one {i : Nat} {o : Oper} {fuel : Nat} {listed : Array Bool} {a : Act} {w : World} (hr : Region.ready md ops listed = [i]) (ho : ops[i]? = some o)
    (h : ∀ K' : Act → World → Prop, Shut (∀ a' w', (i ∈ late ∨ E w w') → wpAnyL P md ops Q E late fuel (listed.setIfInBounds i true) a' w' → K' a' w') →
      if Region.wanted o (yielded ops a.tmps) = true then Oper.wp P o a w K' Q else K' (a.put o.dst undef) w) : wpAnyL P md ops Q E late (fuel + 1) listed a w := by
  refine ⟨fun h0 => absurd (hr ▸ h0) (by simp), fun j hj => ?_⟩
  rw [hr] at hj
  obtain rfl : j = i := by simpa using hj
  exact wpOp_step ho (fun K' hK => h K' (fun a' w' hE hW => hK a' w' ⟨hE, hW⟩))

/-- Two may come up: both ways are walked. -/
theorem wpAnyL_two {i j : Nat} {o o' : Oper} {fuel : Nat} {listed : Array Bool} {a : Act} {w : World} (hr : Region.ready md ops listed = [i, j]) (ho : ops[i]? = some o) (ho' : ops[j]? = some o')
    (h : ∀ K' : Act → World → Prop, Shut (∀ a' w', (i ∈ late ∨ E w w') → wpAnyL P md ops Q E late fuel (listed.setIfInBounds i true) a' w' → K' a' w') →
      if Region.wanted o (yielded ops a.tmps) = true then Oper.wp P o a w K' Q else K' (a.put o.dst undef) w)
    (h' : ∀ K' : Act → World → Prop, Shut (∀ a' w', (j ∈ late ∨ E w w') → wpAnyL P md ops Q E late fuel (listed.setIfInBounds j true) a' w' → K' a' w') →
      if Region.wanted o' (yielded ops a.tmps) = true then Oper.wp P o' a w K' Q else K' (a.put o'.dst undef) w) : wpAnyL P md ops Q E late (fuel + 1) listed a w := by
  refine ⟨fun h0 => absurd (hr ▸ h0) (by simp), fun l hl => ?_⟩
  rw [hr] at hl
  have hl' : l = i ∨ l = j := by simpa using hl
  rcases hl' with rfl | rfl
  · exact wpOp_step ho (fun K' hK => h K' (fun a' w' hE hW => hK a' w' ⟨hE, hW⟩))
  · exact wpOp_step ho' (fun K' hK => h' K' (fun a' w' hE hW => hK a' w' ⟨hE, hW⟩))

theorem wpAnyL_done {listed : Array Bool} {a : Act} {w : World} (hr : Region.ready md ops listed = []) (h : Q .normal a w) : ∀ fuel, wpAnyL P md ops Q E late fuel listed a w
  | 0 => ⟨hr, h⟩
  | _ + 1 => ⟨fun _ => h, by rw [hr]; simp⟩

/-- The beginning. -/
theorem wp_region_L (E : World → World → Prop) (late : List Nat) {id : Nat} {a : Act} {w : World} (hm : P.follows .mixedOrders = true)
    (h : ∀ wd : World, Below w.heap.size w wd → wd.heap.size = w.heap.size → wpAnyL P .any ops Q E late ops.size (Array.replicate ops.size false) a wd) : (Code.region id ops true).wp P Q a w :=
  wp_region_any hm (wpAny_of_L _ _ _ _ (h _ (Below.refl _ _).drew rfl))

theorem wpAnyIn_of_L {l n : Nat} (hn : noDefer ops = true) (hL : ¬ LetsOut Q) : ∀ (fuel : Nat) (listed : Array Bool) (a : Act) (w : World), wpAnyL P md ops Q E late fuel listed a w → wpAnyIn (Fence.wide.inRound l) n P md ops Q fuel listed a w
  | 0, _, _, _, h => h
  | fuel + 1, _, _, _, h => ⟨h.1, fun i hi => wpOp_in_round hn hL (wpOp_mono (fun a' w' h' => wpAnyIn_of_L hn hL fuel _ a' w' h'.2) (h.2 i hi))⟩
theorem noOutL_done {listed : Array Bool} {a : Act} {w : World} (hr : Region.ready md ops listed = []) (h : Q .normal a w) (fuel : Nat) : wpAnyL P md ops (noOut Q) E late fuel listed a w := wpAnyL_done (Q := noOut Q) hr h fuel
theorem wpIn_region_L {l n : Nat} (E : World → World → Prop) (late : List Nat) {id : Nat} {a : Act} {w : World} (hm : P.follows .mixedOrders = true) (hn : noDefer ops = true)
    (h : ∀ wd : World, Below w.heap.size w wd → wd.heap.size = w.heap.size → wpAnyL P .any ops (noOut Q) E late ops.size (Array.replicate ops.size false) a wd) : (Code.region id ops true).wpIn (Fence.wide.inRound l) n P Q a w :=
  wpIn_mono (wpIn_region_any hm (wpAnyIn_of_L hn noOut_lets _ _ _ _ (h _ (Below.refl _ _).drew rfl))) noOut_mono
end
end Go.Proofs.Ytbhhgfpliggkgaa
