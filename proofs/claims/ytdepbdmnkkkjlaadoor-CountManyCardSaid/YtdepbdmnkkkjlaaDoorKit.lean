/- Words of memory that this seat's walks use: a slice of integers that reads as a list; a slice of the call's own; blocks; regions whose order is open. -/
import Derived.Test.YtdepbdmnkkkjlaaDoorRows
import Derived.WalkKit
import Derived.ProofKit
import Derived.OpenShut
import Derived.ShutString
import Derived.ChangeOld
import Derived.Below
import Derived.Laws.OwnMore
import Derived.Laws.BitsLemmas
import Derived.Lib.Hide
import Derived.Deep.Draws
import Derived.Laws.CopyOwn
import Derived.Laws.BytesArg
import Derived.Laws.MakeOwn
import Derived.Maps.AppendAt
import Derived.OwnWalk
import Derived.RegionTactic
import Derived.Deep.AppendLies
import Derived.OrdersHeld
import Derived.Deep.RegionHeld3
import Derived.KernelRfl
namespace Go.Proofs.YtdepbdmnkkkjlaaDoor
open Go.RowKit

/-- The slice (A, n, c) reads in w as the n integers xs, all of kind k. -/
def Rd (k : IntKind) (w : World) (A : Option Addr) (n c : Nat) (xs : List Int) : Prop :=
  xs.length = n ∧ n ≤ c ∧ c ≤ maxLen ∧ (A = none → c = 0) ∧ (∀ x ∈ xs, (Lit.int k x).wf = true) ∧
  (0 < n → ∃ g o, A = some ⟨g, o, none⟩ ∧ g < w.heap.size ∧ ∀ i, i < n → w.cell? ⟨g, o + i, none⟩ = some (.int k (xs.getD i 0)))

theorem ret_int {k : IntKind} {a b : Int} (h : a = b) : Ending.returned (.int k a) = .returned (.int k b) := by rw [h]
/-- Where x[s:] of a slice (A, n, c) of one-cell elements begins. -/
def cutA (A : Option Addr) (c s : Nat) : Option Addr := if c = s then A else A.map (·.add s)
theorem u8_bounds {x : Int} (h : (Lit.int .u8 x).wf = true) : 0 ≤ x ∧ x < 256 := by
  simp [Lit.wf, IntKind.min, IntKind.max, IntKind.signed, IntKind.bits] at h
  omega
theorem wraps_u64 (n : Int) (h₀ : 0 ≤ n) (h₁ : n < 2 ^ 64) : IntKind.u64.wrap n = n := by rw [IntKind.wrap_u64]; omega
theorem Below.drewN_ (w : World) (m : Nat) : Below w.heap.size w (w.drewN m) := ⟨rfl, rfl, rfl, Nat.le_refl _, fun _ _ => rfl⟩

/-! ### A slice that reads as a list -/
section
variable {k : IntKind} {w w' : World} {A : Option Addr} {n c : Nat} {xs : List Int}
theorem Rd.keep (h : Rd k w A n c xs) (hs : w.heap.size ≤ w'.heap.size) (hc : ∀ g o, g < w.heap.size → w'.cell? ⟨g, o, none⟩ = w.cell? ⟨g, o, none⟩) : Rd k w' A n c xs := by
  obtain ⟨h1, h2, h3, h4, h5, h6⟩ := h
  refine ⟨h1, h2, h3, h4, h5, fun hn => ?_⟩
  obtain ⟨g, o, e, hg, hx⟩ := h6 hn
  exact ⟨g, o, e, by omega, fun i hi => (hc _ _ hg).trans (hx i hi)⟩
theorem Rd.below (h : Rd k w A n c xs) (hb : Below w.heap.size w w') : Rd k w' A n c xs := h.keep hb.size fun _ _ hg => hb.cell hg
theorem Rd.belowB {B : Nat} (h : Rd k w A n c xs) (hb : Below B w w') (hB : w.heap.size ≤ B) : Rd k w' A n c xs := h.below (hb.mono hB)
theorem Rd.alloc (h : Rd k w A n c xs) (o : Obj) : Rd k (w.alloc o) A n c xs := h.below ((Below.refl _ _).alloc (Nat.le_refl _) o)
theorem Rd.nil (k : IntKind) (w : World) : Rd k w none 0 0 [] := ⟨rfl, Nat.le_refl _, Nat.zero_le _, fun _ => rfl, by simp, fun h => absurd h (by omega)⟩
theorem Rd.drew (h : Rd k w A n c xs) : Rd k w.drew A n c xs := h
theorem Rd.one (w : World) (e : TypeId) (x : Int) (hx : (Lit.int k x).wf = true) : Rd k (w.alloc (.cells #[.int k x] e)) (some ⟨w.heap.size, 0, none⟩) 1 1 [x] := by
  refine ⟨rfl, Nat.le_refl _, by decide, by simp, by simpa using hx, fun _ => ⟨w.heap.size, 0, rfl, by simp, fun i hi => ?_⟩⟩
  obtain rfl : i = 0 := by omega
  rw [cell_of_row _ _ _ _ _ _ (heap_alloc_new w _)]
  simp
theorem Rd.lit (w : World) (e : TypeId) (xs : List Int) (hx : ∀ x ∈ xs, (Lit.int k x).wf = true) (hl : xs.length ≤ 1000) : Rd k (w.alloc (.cells (xs.map (Value.int k)).toArray e)) (some ⟨w.heap.size, 0, none⟩) xs.length xs.length xs := by
  refine ⟨rfl, Nat.le_refl _, by simp only [maxLen]; omega, by simp, hx, fun _ => ⟨w.heap.size, 0, rfl, by simp, fun i hi => ?_⟩⟩
  rw [cell_of_row _ _ _ _ _ _ (heap_alloc_new w _)]
  simp [hi]
theorem Rd.pre (h : Rd k w A n c xs) {s : Nat} (hs : s ≤ n) : Rd k w A s c (xs.take s) := by
  obtain ⟨h1, h2, h3, h4, h5, h6⟩ := h
  refine ⟨by simp; omega, by omega, h3, h4, fun x hx => h5 x (List.mem_of_mem_take hx), fun hn => ?_⟩
  obtain ⟨g, o, e, hg, hx⟩ := h6 (by omega)
  refine ⟨g, o, e, hg, fun i hi => ?_⟩
  rw [hx i (by omega)]
  simp [hi]
theorem Rd.cut (h : Rd k w A n c xs) {s : Nat} (hs : s ≤ n) : Rd k w (cutA A c s) (n - s) (c - s) (xs.drop s) := by
  unfold cutA
  obtain ⟨h1, h2, h3, h4, h5, h6⟩ := h
  refine ⟨by simp; omega, by omega, by omega, ?_, fun x hx => h5 x (List.mem_of_mem_drop hx), fun hn => ?_⟩
  · split
    · omega
    · intro he
      have : A = none := by simpa using he
      have := h4 this
      omega
  · obtain ⟨g, o, rfl, hg, hx⟩ := h6 (by omega)
    rw [if_neg (by omega)]
    refine ⟨g, o + s, ?_, hg, fun i hi => ?_⟩
    · simp [Addr.add]
    · rw [show o + s + i = o + (s + i) from by omega, hx (s + i) (by omega)]
      simp
theorem Rd.cell (h : Rd k w A n c xs) {i : Nat} (hi : i < n) : ∃ g o, A = some ⟨g, o, none⟩ ∧ g < w.heap.size ∧ w.cell? ⟨g, o + i, none⟩ = some (.int k (xs.getD i 0)) := by
  obtain ⟨g, o, e, hg, hx⟩ := h.2.2.2.2.2 (by omega)
  exact ⟨g, o, e, hg, hx i hi⟩
end

/-! ### A slice of the call's own -/
/-- v is a slice of integers of kind k (their type: e) in a block from base on, whose elements are xs. -/
def Ow (k : IntKind) (e : TypeId) (base : Nat) (w : World) (v : Value) (xs : List Int) : Prop := w.ownsRow base e 1 v xs.length (xs.map (.int k))

section
variable {k : IntKind} {e : TypeId} {base : Nat} {w w' : World} {v : Value} {xs : List Int}
theorem Ow.rd (h : Ow k e base w v xs) (hwf : ∀ x ∈ xs, (Lit.int k x).wf = true) : ∃ A c, v = .slice A xs.length c ∧ Rd k w A xs.length c xs := by
  have h' : w.ownsRow base e 1 v xs.length (xs.map (.int k)) := h
  rcases h'.2 with ⟨rfl, h0⟩ | ⟨g, cap, cur, rfl, hb, hh, hc, hm, hs, ht⟩
  · obtain rfl : xs = [] := List.eq_nil_of_length_eq_zero h0
    exact ⟨none, 0, rfl, Rd.nil _ _⟩
  · refine ⟨_, cap, rfl, rfl, hc, hm, by simp, hwf, fun hn => ⟨g, 0, rfl, (h'.lt g rfl).2, fun i hi => ?_⟩⟩
    have hx := h'.cellAt i (by omega)
    rw [Nat.zero_add, hx, List.getElem?_map, List.getElem?_eq_getElem hi]
    simp [hi]
theorem Ow.keep (h : Ow k e base w v xs) {B : Nat} (hb : Below B w w') (hB : w.heap.size ≤ B) : Ow k e base w' v xs := by
  refine ⟨h.1, ?_⟩
  rcases h.2 with hn | ⟨g, cap, cur, hv, hg, hh, r⟩
  · exact .inl hn
  · have hlt : g < w.heap.size := (Array.getElem?_eq_some_iff.1 hh).1
    exact .inr ⟨g, cap, cur, hv, hg, by rw [hb.block g (by omega)]; exact hh, r⟩
theorem Ow.mono (h : Ow k e base w v xs) {B : Nat} (hB : B ≤ base) : Ow k e B w v xs := by
  refine ⟨h.1, ?_⟩
  rcases h.2 with hn | ⟨g, cap, cur, hv, hg, r⟩
  · exact .inl hn
  · exact .inr ⟨g, cap, cur, hv, by omega, r⟩
theorem Ow.alloc (h : Ow k e base w v xs) (o : Obj) : Ow k e base (w.alloc o) v xs := World.ownsRow.alloc (h : w.ownsRow base e 1 v xs.length (xs.map (.int k))) o
end

/-! ### The laws of append, make and copy, in these words -/
/-- In P, type t is a slice of type e, e an integer type of kind k whose elements take so many bytes. -/
structure Ints (P : Program) (t e : TypeId) (k : IntKind) (bytes : Nat) : Prop where
  ht : P.underlying t = some (.slice e)
  hi : (P.info? e).map (fun i => (i.zero, i.size, i.bytes)) = some (some (.int k 0), 1, bytes)

theorem Ints.run_cut {P : Program} {t e : TypeId} {k : IntKind} {bytes : Nat} (S : Ints P t e k bytes) (A : Option Addr) (n c s : Nat) (hs : s ≤ n) (hn : n ≤ c) (w : World) :
    (Instr.slice t (.slice A n c) (some (.int .i64 s)) none none).run P w = .ok (.slice (cutA A c s) (n - s) (c - s)) w := by
  obtain ⟨i, hi, hz, hsz, hby⟩ := info_parts S.hi
  have h1 := run_sliceBound (P := P) (w := w) .i64 s n .sliceB (by omega) (by omega)
  simp [Instr.slice, run_underlying S.ht, Instr.sliceBounds, h1, sizeOf, typeInfo, hi, hsz, cutA]

theorem run_str {P : Program} {w : World} {t e : TypeId} (ht : P.underlying t = some (.slice e)) (he : P.underlying e = some (.int .u8)) {A : Option Addr} {n c : Nat} {xs : List Int} (h : Rd .u8 w A n c xs)
    (dst : TypeId) (hd : P.underlying dst = some .string) : (convert t dst (.slice A n c)).run P w = .ok (.string (strOfNums xs)) w := by
  obtain ⟨h1, h2, h3, h4, h5, h6⟩ := h
  by_cases hn : n = 0
  · subst hn
    obtain rfl : xs = [] := List.eq_nil_of_length_eq_zero h1
    cases A with
    | none => exact run_convert_bytes_nil w t e ht he 0 c dst hd
    | some a =>
      rw [run_convert_bytes_string w t dst e _ 0 c ht he hd, run_bytesToString w a 0 c [] (by simp [loadCells, loadCellsFrom, Sem.run_pure])]
      rfl
  · obtain ⟨g, o, rfl, hg, hx⟩ := h6 (by omega)
    exact run_convert_bytes_arg w t e ht he g o n c xs h1 hx dst hd

section
variable {P : Program} {w : World} {ops : Array Oper} {rest : List Oper} {o : Oper} {a : Act} {Q : Exit → Act → World → Prop}
theorem wpList_append_ints {t e : TypeId} {k : IntKind} {bytes : Nat} (S : Ints P t e k bytes) (hgd : o.guard = none) (s x : Operand)
    (ho : o.op = .call { callee := .builtin .append, args := #[s, x], argTypes := #[t, t] })
    {v : Value} {xs : List Int} (hs : a.eval s = v) {w0 : World} (hown : Ow k e w0.heap.size w v xs)
    {A : Option Addr} {m c : Nat} {ys : List Int} (hx : a.eval x = .slice A m c) (hr : Rd k w A m c ys)
    (hlen : (xs.length + m) * bytes ≤ 140737488355328) (hb1 : 0 < bytes) (hb : Below w0.heap.size w0 w)
    (h : ∀ v' w', Ow k e w0.heap.size w' v' (xs ++ ys) → Below w0.heap.size w0 w' → wpList P ops Q rest (a.put o.dst v') w') : wpList P ops Q (o :: rest) a w := by
  obtain ⟨i, hi, hz, hsz, hby⟩ := info_parts S.hi
  have hmax : xs.length + m ≤ maxLen := by
    have : (xs.length + m) * 1 ≤ (xs.length + m) * bytes := Nat.mul_le_mul_left _ hb1
    simp only [maxLen]; omega
  have hvb : ∀ g, v.ownBlock = some g → w0.heap.size ≤ g := fun g hg => (World.ownsRow.lt hown g hg).1
  obtain ⟨hl, _, hcm, hnil, hwf, hcell⟩ := hr
  refine wpList_plain hgd fun K hK => ?_
  unfold Oper.wp execOp
  rcases A with _ | ad
  · have h0 := hnil rfl
    subst h0
    obtain rfl : m = 0 := by omega
    obtain rfl : ys = [] := List.eq_nil_of_length_eq_zero hl
    have hrun := run_append_owned_none (P := P) (w := w) w0.heap.size t o.type e i 1 S.ht hi v xs.length (xs.map (.int k)) hown
    simp only [ho, resolve, invoke, builtin, Sem.run_bind, Sem.run_pure, Result.andThen_ok, List.map_toArray, List.map_cons, List.map_nil, hs, hx, hrun]
    exact hK _ _ (h v w (by simpa using hown) hb)
  · have hnews : ∀ j u, (ys.map (Value.int k))[j]? = some u → w.cell? (ad.add j) = some u := by
      intro j u hu
      rw [List.getElem?_map] at hu
      have hj : j < ys.length := by
        rcases Nat.lt_or_ge j ys.length with h1 | h1
        · exact h1
        · rw [List.getElem?_eq_none h1] at hu; simp at hu
      obtain ⟨g, off, he, _, hx'⟩ := hcell (by omega)
      injection he with he
      subst he
      have hadd : (⟨g, off, none⟩ : Addr).add j = ⟨g, off + j, none⟩ := by unfold Addr.add; split <;> simp_all
      rw [hadd, hx' j (by omega)]
      rw [List.getElem?_eq_getElem hj] at hu
      simp at hu
      simp [hj, ← hu]
    obtain ⟨v', w', hrun, h2, h3, _, _⟩ := run_append_own_at (P := P) w w0.heap.size t o.type e i (.int k 0) 1 bytes S.ht hi hz hsz hby rfl (by omega) v xs.length (xs.map (.int k)) hown ad m c (ys.map (.int k))
      (by simp [hl]) hnews (by simp [Value.oneCell']) hmax hlen hb.size
    simp only [ho, resolve, invoke, builtin, Sem.run_bind, Sem.run_pure, Result.andThen_ok, List.map_toArray, List.map_cons, List.map_nil, hs, hx, hrun]
    refine hK _ _ (h v' w' ?_ (hb.grown h3 hb.size hvb))
    unfold Ow
    rw [List.length_append, hl, List.map_append]
    exact h2

theorem wpList_make_ints {t e : TypeId} {k : IntKind} {bytes : Nat} (S : Ints P t e k bytes) (hgd : o.guard = none) (l c : Operand)
    (ho : o.op = Op.makeSlice t l c) {kl kc : IntKind} {L C : Int} (hl : a.eval l = .int kl L) (hc : a.eval c = .int kc C) (h0 : 0 ≤ L) (h1 : L ≤ C)
    (hby : bytes * C ≤ 281474976710656) (h63 : C ≤ 9223372036854775807) {w0 : World} (hb : Below w0.heap.size w0 w)
    (h : ∀ v' w', Ow k e w0.heap.size w' v' (List.replicate L.toNat 0) → Below w0.heap.size w0 w' → wpList P ops Q rest (a.put o.dst v') w') : wpList P ops Q (o :: rest) a w := by
  obtain ⟨i, hi, hz, hsz, hbytes⟩ := info_parts S.hi
  obtain ⟨n, rfl⟩ := Int.eq_ofNat_of_zero_le h0
  obtain ⟨m, rfl⟩ := Int.eq_ofNat_of_zero_le (Int.le_trans h0 h1)
  refine wpList_plain hgd fun K hK => ?_
  have hr := run_make (P := P) w t e i (.int k 0) S.ht hi hz kl kc n m (by omega) h1 (by rw [hbytes]; exact hby) h63
  unfold Oper.wp
  simp [execOp, ho, hl, hc, hr, Result.andThen]
  refine hK _ _ (h _ _ ?_ (hb.alloc hb.size _))
  unfold Ow
  rw [List.length_replicate]
  refine ⟨by simp, .inr ⟨w.heap.size, m, _, rfl, hb.size, heap_alloc_new w _, by omega, by simp only [maxLen]; omega, by rw [hsz]; simp [madeCells], ?_⟩⟩
  rw [hsz, Nat.mul_one, Nat.mul_one, show (Value.int k 0).cells = #[Value.int k 0] from rfl, toList_madeCells_one, List.take_replicate, List.map_replicate]
  congr 1
  omega

theorem wpList_copy_ints {t e : TypeId} {k : IntKind} {bytes : Nat} (S : Ints P t e k bytes) (hgd : o.guard = none) (d s : Operand)
    (ho : o.op = .call { callee := .builtin .copy, args := #[d, s], argTypes := #[t, t] })
    {v : Value} {xs : List Int} (hd : a.eval d = v) {w0 : World} (hown : Ow k e w0.heap.size w v xs)
    {A : Option Addr} {m c : Nat} {ys : List Int} (hs : a.eval s = .slice A m c) (hr : Rd k w A m c ys) (hm : m ≤ xs.length) (hb : Below w0.heap.size w0 w)
    (h : ∀ w' r, Ow k e w0.heap.size w' v (ys ++ xs.drop ys.length) → Below w0.heap.size w0 w' → wpList P ops Q rest (a.put o.dst r) w') : wpList P ops Q (o :: rest) a w := by
  obtain ⟨i, hi, hz, hsz, hby⟩ := info_parts S.hi
  obtain ⟨hl, _, hcm, hnil, hwf, hcell⟩ := hr
  have hsz' : (P.info? e).map (·.size) = some 1 := by rw [hi]; simp [hsz]
  rcases hown.2 with ⟨rfl, h0⟩ | ⟨g, cap, cur, rfl, hbg, hh, hc, hmx, hcs, ht⟩
  · obtain rfl : m = 0 := by omega
    obtain rfl : ys = [] := List.eq_nil_of_length_eq_zero hl
    refine wpList_copy_nothing hgd d s t t ho e S.ht hsz' none A 0 0 0 c hd hs (by simp) ?_
    exact h w _ (by simpa using hown) hb
  · by_cases hm0 : m = 0
    · subst hm0
      obtain rfl : ys = [] := List.eq_nil_of_length_eq_zero hl
      refine wpList_copy_nothing hgd d s t t ho e S.ht hsz' _ A _ _ 0 c hd hs (by simp) ?_
      exact h w _ (by simpa using hown) hb
    · obtain ⟨gs, off, rfl, hgs, hx⟩ := hcell (by omega)
      refine wpList_copy_own hgd d s t t ho e S.ht hsz' g 0 xs.length cap ⟨gs, off, none⟩ m c hd hs cur e hh (ys.map (.int k)) (by rw [List.length_map, hl]; exact (Nat.min_eq_left hm).symm) ?_ (by simp; omega) (by simp [Value.oneCell']) ?_
      · intro j u hu
        rw [List.getElem?_map] at hu
        have hj : j < ys.length := by
          rcases Nat.lt_or_ge j ys.length with h1 | h1
          · exact h1
          · rw [List.getElem?_eq_none h1] at hu; simp at hu
        have hadd : (⟨gs, off, none⟩ : Addr).add j = ⟨gs, off + j, none⟩ := by unfold Addr.add; split <;> simp_all
        rw [hadd, hx j (by omega)]
        rw [List.getElem?_eq_getElem hj] at hu
        simp at hu
        simp [hj, ← hu]
      · refine h _ _ ?_ (below_setRow hb hbg _)
        have hlen : (ys ++ xs.drop ys.length).length = xs.length := by simp; omega
        unfold Ow
        rw [hlen]
        refine ⟨by simp; omega, .inr ⟨g, cap, _, rfl, hbg, setRow_heap w g _ _ e _ hh, hc, hmx, by simp; omega, ?_⟩⟩
        simp only [List.take_zero, List.nil_append, Nat.zero_add, Nat.mul_one, List.length_map] at ht ⊢
        rw [List.take_append, List.length_map, List.take_of_length_le (by simp; omega), List.map_append, List.map_drop, ← ht, List.drop_take]
end
/-- Nothing but block g has turned. -/
def Wr (g : Nat) (w w' : World) : Prop := w.grownBy w' (some g)
theorem Wr.below {g : Nat} {w w' : World} (h : Wr g w w') {B : Nat} (hB : B ≤ g) (hs : B ≤ w.heap.size) : Below B w w' :=
  ⟨h.os, h.tape, h.output, h.size, fun k hk => h.block k (by omega) (by intro e; injection e; omega)⟩

theorem Wr.set (w : World) (g i : Nat) (u : Value) : Wr g w (w.setCell ⟨g, i, none⟩ u) :=
  ⟨rfl, rfl, rfl, by simp [World.setCell], fun k _ hk => Below.heap_setCell w _ u k (by intro e; exact hk (by rw [e]))⟩
theorem Wr.refl (w : World) (g : Nat) : Wr g w w := World.grownBy.refl w _
theorem Wr.trans {g : Nat} {a b c : World} (h : Wr g a b) (k : Wr g b c) (hs : a.heap.size ≤ b.heap.size) : Wr g a c :=
  ⟨k.os.trans h.os, k.tape.trans h.tape, k.output.trans h.output, Nat.le_trans h.size k.size, fun i hi hn => (k.block i (by omega) hn).trans (h.block i hi hn)⟩
theorem Wr.of_below {g : Nat} {w w' : World} (h : Below w.heap.size w w') : Wr g w w' := ⟨h.os, h.tape, h.output, h.size, fun k hk _ => h.block k hk⟩
/-- Block g, of type t, holds these. -/
def Bk (w : World) (t : TypeId) (g : Nat) (vs : List Value) : Prop := w.heap[g]? = some (.cells vs.toArray t (0, 0))
section
variable {w w' : World} {t : TypeId} {g : Nat} {vs : List Value}
theorem Bk.lt (h : Bk w t g vs) : g < w.heap.size := (Array.getElem?_eq_some_iff.1 h).1
theorem Bk.cell (h : Bk w t g vs) (i : Nat) {v : Value} (hv : vs[i]? = some v) : w.cell? ⟨g, i, none⟩ = some v := by
  rw [cell_of_row w g i _ _ _ h]; simpa using hv
theorem Bk.free (h : Bk w t g vs) (i : Nat) : w.frozen? ⟨g, i, none⟩ = false := by
  unfold Bk at h
  simp [World.frozen?, h]
theorem Bk.keep (h : Bk w t g vs) {B : Nat} (hb : Below B w w') (hB : g < B) : Bk w' t g vs := (hb.block g hB).trans h
theorem Bk.below (h : Bk w t g vs) (hb : Below w.heap.size w w') : Bk w' t g vs := h.keep hb h.lt
theorem Bk.wr (h : Bk w t g vs) {g' : Nat} (hw : Wr g' w w') (hp : g ≠ g') : Bk w' t g vs :=
  (hw.block g h.lt (by intro e; injection e with e; exact hp e)).trans h
theorem Bk.new (w : World) (t : TypeId) (vs : List Value) : Bk (w.alloc (.cells vs.toArray t)) t w.heap.size vs := heap_alloc_new w _
theorem Bk.alloc (h : Bk w t g vs) (o : Obj) : Bk (w.alloc o) t g vs := h.keep ((Below.refl _ _).alloc (Nat.le_refl _) o) h.lt
theorem Bk.set (h : Bk w t g vs) (i : Nat) (x : Value) : Bk (w.setCell ⟨g, i, none⟩ x) t g (vs.set i x) := by
  unfold Bk at h ⊢
  simp [World.setCell, Array.getElem?_modify, h]
theorem Bk.far (h : Bk w t g vs) {p : Addr} (hp : g ≠ p.block) (x : Value) : Bk (w.setCell p x) t g vs := (Below.heap_setCell w p x g hp).trans h
end
theorem Rd.blk {k : IntKind} {w : World} {A : Option Addr} {n c : Nat} {xs : List Int} (h : Rd k w A n c xs) : 0 < n → ∀ ad, A = some ad → ad.block < w.heap.size := fun hn ad he => by
  obtain ⟨g, o, e, hg, _⟩ := h.2.2.2.2.2 hn
  rw [e] at he
  injection he with he
  subst he
  exact hg
theorem Rd.belowA {k : IntKind} {w w' : World} {A : Option Addr} {n c : Nat} {xs : List Int} (h : Rd k w A n c xs) {B : Nat} (hA : 0 < n → ∀ ad, A = some ad → ad.block < B) (hb : Below B w w') : Rd k w' A n c xs := by
  obtain ⟨h1, h2, h3, h4, h5, h6⟩ := h
  refine ⟨h1, h2, h3, h4, h5, fun hn => ?_⟩
  obtain ⟨g', o, e, hg, hx⟩ := h6 hn
  exact ⟨g', o, e, by have := hb.size; omega, fun i hi => (hb.cell (p := ⟨g', o + i, none⟩) (show g' < B from hA hn _ e)).trans (hx i hi)⟩

theorem Rd.wr' {k : IntKind} {w w' : World} {A : Option Addr} {n c : Nat} {xs : List Int} (h : Rd k w A n c xs) {g : Nat} (hA : 0 < n → ∀ ad, A = some ad → ad.block ≠ g) (hw : Wr g w w') : Rd k w' A n c xs := by
  obtain ⟨h1, h2, h3, h4, h5, h6⟩ := h
  refine ⟨h1, h2, h3, h4, h5, fun hn => ?_⟩
  obtain ⟨g', o, e, hg, hx⟩ := h6 hn
  refine ⟨g', o, e, by have := hw.size; omega, fun i hi => ?_⟩
  rw [World.cell?_of_block (hw.block g' hg (by intro e'; injection e' with e'; exact hA hn _ e e'))]
  exact hx i hi
theorem wr_cell {g : Nat} {w w' : World} (h : Wr g w w') {p : Addr} (hp : p.block ≠ g) (hs : p.block < w.heap.size) : w'.cell? p = w.cell? p :=
  World.cell?_of_block (h.block p.block hs (by intro e; injection e with e; exact hp e))
theorem own_ne {k : IntKind} {e : TypeId} {base : Nat} {w : World} {A : Option Addr} {n c : Nat} {xs : List Int} (h : Ow k e base w (.slice A n c) xs) {g : Nat} (hg : g < base) : 0 < n → ∀ ad, A = some ad → ad.block ≠ g := by
  rintro - ad rfl
  have := (World.ownsRow.lt h ad.block rfl).1
  omega
theorem Rd.to {k : IntKind} {w W : World} {B : Option Addr} {m d L L' : Nat} {xs : List Int} (h : Rd k w B m d xs) (hB : 0 < m → ∀ ad, B = some ad → ad.block < L) (hL : L ≤ L') (hb : Below L' w W) : Rd k W B m d xs :=
  h.belowA (fun hm ad he => Nat.lt_of_lt_of_le (hB hm ad he) hL) hb
theorem below_alloc2 {B : Nat} {w : World} (hB : B ≤ w.heap.size) (o o' : Obj) : Below B (w.alloc o) (w.alloc o') :=
  ⟨rfl, rfl, rfl, by simp, fun k hk => (Below.heap_alloc w o' k (by omega)).trans (Below.heap_alloc w o k (by omega)).symm⟩
/-- The slice (B, m) lies in the memory of (A, n). -/
def From (A : Option Addr) (n : Nat) (B : Option Addr) (m : Nat) : Prop := 0 < m → ∀ ad, B = some ad → 0 < n ∧ ∃ a0, A = some a0 ∧ ad.block = a0.block
theorem From.lt {A B : Option Addr} {n m L : Nat} (h : From A n B m) (hA : 0 < n → ∀ ad, A = some ad → ad.block < L) : 0 < m → ∀ ad, B = some ad → ad.block < L := fun hm ad he => by
  obtain ⟨hn, a0, h0, h1⟩ := h hm ad he
  rw [h1]
  exact hA hn a0 h0
def IsRow (k : IntKind) (w : World) (a : Option Addr) (len cap : Nat) (zs : List Int) : Prop :=
  (a = none ∧ len = 0 ∧ cap = 0 ∧ zs = []) ∨
  ∃ x, a = some x ∧ len ≤ cap ∧ cap ≤ maxLen ∧ zs.length = cap ∧ (∀ i, i < zs.length → w.cell? (x.add i) = some (.int k (zs.getD i 0))) ∧ ∀ n ∈ zs, (Lit.int k n).wf = true

theorem rd_of_row {k : IntKind} {w : World} {a : Option Addr} {len cap : Nat} {zs : List Int} (h : IsRow k w a len cap zs) : Rd k w a len cap (zs.take len) := by
  rcases h with ⟨rfl, rfl, rfl, rfl⟩ | ⟨x, rfl, hl, hm, hz, hcell, hwz⟩
  · exact Rd.nil _ _
  · refine ⟨by simp; omega, hl, hm, by simp, fun y hy => hwz y (List.mem_of_mem_take hy), fun hn => ?_⟩
    obtain ⟨b, off, spot⟩ := x
    have h0 := hcell 0 (by omega)
    obtain rfl : spot = none := by simpa [Addr.add] using World.cell?_spot h0
    have hlt := World.block_lt_of_cell? _ _ h0
    refine ⟨b, off, rfl, by simpa [Addr.add] using hlt, fun i hi => ?_⟩
    have hi' := hcell i (by omega)
    have hadd : (⟨b, off, none⟩ : Addr).add i = ⟨b, off + i, none⟩ := by unfold Addr.add; split <;> simp_all
    rw [hadd] at hi'
    rw [hi']
    simp [hi]
end Go.Proofs.YtdepbdmnkkkjlaaDoor
