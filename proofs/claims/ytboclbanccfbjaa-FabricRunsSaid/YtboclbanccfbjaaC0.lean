/- Texts of this proof, put together: Kit Reg Kit2 Enc O1 O5 O6 A1 A4 W1 W2 W3 W4 W5 W6 W7 Lst Agg Tab Lsr P1 P2 P3 P4 -/
import Derived.Test.YtboclbanccfbjaaRows
import Derived.WalkKit
import Derived.ProofKit
import Derived.OpenShut
import Derived.ShutString
import Derived.ChangeOld
import Derived.Below
import Derived.Laws.OwnMore
import Derived.Laws.BitsLemmas
import Derived.Lib.Hide
import Derived.Deep.Draws
import Derived.Laws.CopyOwn
import Derived.Laws.BytesArg
import Derived.Laws.MakeOwn
import Derived.Maps.AppendAt
import Derived.OwnWalk
import Derived.RegionTactic
import Derived.Deep.AppendLies
import Derived.OrdersHeld
import Derived.Deep.RegionHeld3
import Derived.KernelRfl
import Derived.RangeFuncNested
import Derived.RangeFuncBound
import Derived.RangeFuncCalls
import Derived.RangeFuncLeaves
import Derived.Shelf.Abstract
import Derived.Shelf.RegionOpen
import Derived.OwnWalkIn
import Derived.TacticsInMore
import Derived.LoopNIn
import Derived.LoopIn
import Derived.Lib.SlBytesConst
import Derived.Lib.SliceRun
import Derived.WalkSpells
import Derived.BigQuiet
import Derived.Deep.QuietTactic
import Derived.Outline
import Derived.Deep.DeepCutAuto
import Derived.Deep.RegionWith
import Derived.Deep.LoopGhost
import Derived.Deep.AppendSrc
import Derived.Deep.MidRow
import Derived.Deep.WholeRow
import Derived.DeepKeys
namespace Go.Proofs.Ytboclbanccfbjaa
set_option linter.unusedSimpArgs false
set_option linter.unusedVariables false
open Go.RowKit
/-- The slice (A, n, c) reads in w as the n integers xs, all of kind k. -/
def Rd (k : IntKind) (w : World) (A : Option Addr) (n c : Nat) (xs : List Int) : Prop :=
  xs.length = n ∧ n ≤ c ∧ c ≤ maxLen ∧ (A = none → c = 0) ∧ (∀ x ∈ xs, (Lit.int k x).wf = true) ∧
  (0 < n → ∃ g o, A = some ⟨g, o, none⟩ ∧ g < w.heap.size ∧ ∀ i, i < n → w.cell? ⟨g, o + i, none⟩ = some (.int k (xs.getD i 0)))
/-- Where x[s:] of a slice (A, n, c) of one-cell elements begins. -/
def cutA (A : Option Addr) (c s : Nat) : Option Addr := if c = s then A else A.map (·.add s)
theorem u8_bounds {x : Int} (h : (Lit.int .u8 x).wf = true) : 0 ≤ x ∧ x < 256 := by
  simp [Lit.wf, IntKind.min, IntKind.max, IntKind.signed, IntKind.bits] at h
  omega
theorem Below.drewN_ (w : World) (m : Nat) : Below w.heap.size w (w.drewN m) := ⟨rfl, rfl, rfl, Nat.le_refl _, fun _ _ => rfl⟩
section
variable {k : IntKind} {w w' : World} {A : Option Addr} {n c : Nat} {xs : List Int}
theorem Rd.keep (h : Rd k w A n c xs) (hs : w.heap.size ≤ w'.heap.size) (hc : ∀ g o, g < w.heap.size → w'.cell? ⟨g, o, none⟩ = w.cell? ⟨g, o, none⟩) : Rd k w' A n c xs := by
  obtain ⟨h1, h2, h3, h4, h5, h6⟩ := h
  refine ⟨h1, h2, h3, h4, h5, fun hn => ?_⟩
  obtain ⟨g, o, e, hg, hx⟩ := h6 hn
  exact ⟨g, o, e, by omega, fun i hi => (hc _ _ hg).trans (hx i hi)⟩
theorem Rd.below (h : Rd k w A n c xs) (hb : Below w.heap.size w w') : Rd k w' A n c xs := h.keep hb.size fun _ _ hg => hb.cell hg
theorem Rd.alloc (h : Rd k w A n c xs) (o : Obj) : Rd k (w.alloc o) A n c xs := h.below ((Below.refl _ _).alloc (Nat.le_refl _) o)
theorem Rd.nil (k : IntKind) (w : World) : Rd k w none 0 0 [] := ⟨rfl, Nat.le_refl _, Nat.zero_le _, fun _ => rfl, by simp, fun h => absurd h (by omega)⟩
theorem Rd.pre (h : Rd k w A n c xs) {s : Nat} (hs : s ≤ n) : Rd k w A s c (xs.take s) := by
  obtain ⟨h1, h2, h3, h4, h5, h6⟩ := h
  refine ⟨by simp; omega, by omega, h3, h4, fun x hx => h5 x (List.mem_of_mem_take hx), fun hn => ?_⟩
  obtain ⟨g, o, e, hg, hx⟩ := h6 (by omega)
  refine ⟨g, o, e, hg, fun i hi => ?_⟩
  rw [hx i (by omega)]
  simp [hi]
theorem Rd.cell (h : Rd k w A n c xs) {i : Nat} (hi : i < n) : ∃ g o, A = some ⟨g, o, none⟩ ∧ g < w.heap.size ∧ w.cell? ⟨g, o + i, none⟩ = some (.int k (xs.getD i 0)) := by
  obtain ⟨g, o, e, hg, hx⟩ := h.2.2.2.2.2 (by omega)
  exact ⟨g, o, e, hg, hx i hi⟩
end
/-- v is a slice of integers of kind k (their type: e) in a block from base on, whose elements are xs. -/
def Ow (k : IntKind) (e : TypeId) (base : Nat) (w : World) (v : Value) (xs : List Int) : Prop := w.ownsRow base e 1 v xs.length (xs.map (.int k))
section
variable {k : IntKind} {e : TypeId} {base : Nat} {w w' : World} {v : Value} {xs : List Int}
theorem Ow.rd (h : Ow k e base w v xs) (hwf : ∀ x ∈ xs, (Lit.int k x).wf = true) : ∃ A c, v = .slice A xs.length c ∧ Rd k w A xs.length c xs := by
  have h' : w.ownsRow base e 1 v xs.length (xs.map (.int k)) := h
  rcases h'.2 with ⟨rfl, h0⟩ | ⟨g, cap, cur, rfl, hb, hh, hc, hm, hs, ht⟩
  · obtain rfl : xs = [] := List.eq_nil_of_length_eq_zero h0
    exact ⟨none, 0, rfl, Rd.nil _ _⟩
  · refine ⟨_, cap, rfl, rfl, hc, hm, by simp, hwf, fun hn => ⟨g, 0, rfl, (h'.lt g rfl).2, fun i hi => ?_⟩⟩
    have hx := h'.cellAt i (by omega)
    rw [Nat.zero_add, hx, List.getElem?_map, List.getElem?_eq_getElem hi]
    simp [hi]
theorem Ow.keep (h : Ow k e base w v xs) {B : Nat} (hb : Below B w w') (hB : w.heap.size ≤ B) : Ow k e base w' v xs := by
  refine ⟨h.1, ?_⟩
  rcases h.2 with hn | ⟨g, cap, cur, hv, hg, hh, r⟩
  · exact .inl hn
  · have hlt : g < w.heap.size := (Array.getElem?_eq_some_iff.1 hh).1
    exact .inr ⟨g, cap, cur, hv, hg, by rw [hb.block g (by omega)]; exact hh, r⟩
theorem Ow.mono (h : Ow k e base w v xs) {B : Nat} (hB : B ≤ base) : Ow k e B w v xs := by
  refine ⟨h.1, ?_⟩
  rcases h.2 with hn | ⟨g, cap, cur, hv, hg, r⟩
  · exact .inl hn
  · exact .inr ⟨g, cap, cur, hv, by omega, r⟩
theorem Ow.alloc (h : Ow k e base w v xs) (o : Obj) : Ow k e base (w.alloc o) v xs := World.ownsRow.alloc (h : w.ownsRow base e 1 v xs.length (xs.map (.int k))) o
end
/-- In P, type t is a slice of type e, e an integer type of kind k whose elements take so many bytes. -/
structure Ints (P : Program) (t e : TypeId) (k : IntKind) (bytes : Nat) : Prop where
  ht : P.underlying t = some (.slice e)
  hi : (P.info? e).map (fun i => (i.zero, i.size, i.bytes)) = some (some (.int k 0), 1, bytes)
theorem run_str {P : Program} {w : World} {t e : TypeId} (ht : P.underlying t = some (.slice e)) (he : P.underlying e = some (.int .u8)) {A : Option Addr} {n c : Nat} {xs : List Int} (h : Rd .u8 w A n c xs)
    (dst : TypeId) (hd : P.underlying dst = some .string) : (convert t dst (.slice A n c)).run P w = .ok (.string (strOfNums xs)) w := by
  obtain ⟨h1, h2, h3, h4, h5, h6⟩ := h
  by_cases hn : n = 0
  · subst hn
    obtain rfl : xs = [] := List.eq_nil_of_length_eq_zero h1
    cases A with
    | none => exact run_convert_bytes_nil w t e ht he 0 c dst hd
    | some a =>
      rw [run_convert_bytes_string w t dst e _ 0 c ht he hd, run_bytesToString w a 0 c [] (by simp [loadCells, loadCellsFrom, Sem.run_pure])]
      rfl
  · obtain ⟨g, o, rfl, hg, hx⟩ := h6 (by omega)
    exact run_convert_bytes_arg w t e ht he g o n c xs h1 hx dst hd
section
variable {P : Program} {w : World} {ops : Array Oper} {rest : List Oper} {o : Oper} {a : Act} {Q : Exit → Act → World → Prop}
theorem wpList_append_ints {t e : TypeId} {k : IntKind} {bytes : Nat} (S : Ints P t e k bytes) (hgd : o.guard = none) (s x : Operand)
    (ho : o.op = .call { callee := .builtin .append, args := #[s, x], argTypes := #[t, t] })
    {v : Value} {xs : List Int} (hs : a.eval s = v) {w0 : World} (hown : Ow k e w0.heap.size w v xs)
    {A : Option Addr} {m c : Nat} {ys : List Int} (hx : a.eval x = .slice A m c) (hr : Rd k w A m c ys)
    (hlen : (xs.length + m) * bytes ≤ 140737488355328) (hb1 : 0 < bytes) (hb : Below w0.heap.size w0 w)
    (h : ∀ v' w', Ow k e w0.heap.size w' v' (xs ++ ys) → Below w0.heap.size w0 w' → wpList P ops Q rest (a.put o.dst v') w') : wpList P ops Q (o :: rest) a w := by
  obtain ⟨i, hi, hz, hsz, hby⟩ := info_parts S.hi
  have hmax : xs.length + m ≤ maxLen := by
    have : (xs.length + m) * 1 ≤ (xs.length + m) * bytes := Nat.mul_le_mul_left _ hb1
    simp only [maxLen]; omega
  have hvb : ∀ g, v.ownBlock = some g → w0.heap.size ≤ g := fun g hg => (World.ownsRow.lt hown g hg).1
  obtain ⟨hl, _, hcm, hnil, hwf, hcell⟩ := hr
  refine wpList_plain hgd fun K hK => ?_
  unfold Oper.wp execOp
  rcases A with _ | ad
  · have h0 := hnil rfl
    subst h0
    obtain rfl : m = 0 := by omega
    obtain rfl : ys = [] := List.eq_nil_of_length_eq_zero hl
    have hrun := run_append_owned_none (P := P) (w := w) w0.heap.size t o.type e i 1 S.ht hi v xs.length (xs.map (.int k)) hown
    simp only [ho, resolve, invoke, builtin, Sem.run_bind, Sem.run_pure, Result.andThen_ok, List.map_toArray, List.map_cons, List.map_nil, hs, hx, hrun]
    exact hK _ _ (h v w (by simpa using hown) hb)
  · have hnews : ∀ j u, (ys.map (Value.int k))[j]? = some u → w.cell? (ad.add j) = some u := by
      intro j u hu
      rw [List.getElem?_map] at hu
      have hj : j < ys.length := by
        rcases Nat.lt_or_ge j ys.length with h1 | h1
        · exact h1
        · rw [List.getElem?_eq_none h1] at hu; simp at hu
      obtain ⟨g, off, he, _, hx'⟩ := hcell (by omega)
      injection he with he
      subst he
      have hadd : (⟨g, off, none⟩ : Addr).add j = ⟨g, off + j, none⟩ := by unfold Addr.add; split <;> simp_all
      rw [hadd, hx' j (by omega)]
      rw [List.getElem?_eq_getElem hj] at hu
      simp at hu
      simp [hj, ← hu]
    obtain ⟨v', w', hrun, h2, h3, _, _⟩ := run_append_own_at (P := P) w w0.heap.size t o.type e i (.int k 0) 1 bytes S.ht hi hz hsz hby rfl (by omega) v xs.length (xs.map (.int k)) hown ad m c (ys.map (.int k))
      (by simp [hl]) hnews (by simp [Value.oneCell']) hmax hlen hb.size
    simp only [ho, resolve, invoke, builtin, Sem.run_bind, Sem.run_pure, Result.andThen_ok, List.map_toArray, List.map_cons, List.map_nil, hs, hx, hrun]
    refine hK _ _ (h v' w' ?_ (hb.grown h3 hb.size hvb))
    unfold Ow
    rw [List.length_append, hl, List.map_append]
    exact h2
end
/-- Nothing but block g has turned. -/
def Wr (g : Nat) (w w' : World) : Prop := w.grownBy w' (some g)
theorem Wr.below {g : Nat} {w w' : World} (h : Wr g w w') {B : Nat} (hB : B ≤ g) (hs : B ≤ w.heap.size) : Below B w w' :=
  ⟨h.os, h.tape, h.output, h.size, fun k hk => h.block k (by omega) (by intro e; injection e; omega)⟩
theorem Wr.set (w : World) (g i : Nat) (u : Value) : Wr g w (w.setCell ⟨g, i, none⟩ u) :=
  ⟨rfl, rfl, rfl, by simp [World.setCell], fun k _ hk => Below.heap_setCell w _ u k (by intro e; exact hk (by rw [e]))⟩
theorem Wr.refl (w : World) (g : Nat) : Wr g w w := World.grownBy.refl w _
theorem Wr.trans {g : Nat} {a b c : World} (h : Wr g a b) (k : Wr g b c) (hs : a.heap.size ≤ b.heap.size) : Wr g a c :=
  ⟨k.os.trans h.os, k.tape.trans h.tape, k.output.trans h.output, Nat.le_trans h.size k.size, fun i hi hn => (k.block i (by omega) hn).trans (h.block i hi hn)⟩
theorem Wr.of_below {g : Nat} {w w' : World} (h : Below w.heap.size w w') : Wr g w w' := ⟨h.os, h.tape, h.output, h.size, fun k hk _ => h.block k hk⟩
/-- Block g, of type t, holds these. -/
def Bk (w : World) (t : TypeId) (g : Nat) (vs : List Value) : Prop := w.heap[g]? = some (.cells vs.toArray t (0, 0))
section
variable {w w' : World} {t : TypeId} {g : Nat} {vs : List Value}
theorem Bk.lt (h : Bk w t g vs) : g < w.heap.size := (Array.getElem?_eq_some_iff.1 h).1
theorem Bk.cell (h : Bk w t g vs) (i : Nat) {v : Value} (hv : vs[i]? = some v) : w.cell? ⟨g, i, none⟩ = some v := by
  rw [cell_of_row w g i _ _ _ h]; simpa using hv
theorem Bk.free (h : Bk w t g vs) (i : Nat) : w.frozen? ⟨g, i, none⟩ = false := by
  unfold Bk at h
  simp [World.frozen?, h]
theorem Bk.keep (h : Bk w t g vs) {B : Nat} (hb : Below B w w') (hB : g < B) : Bk w' t g vs := (hb.block g hB).trans h
theorem Bk.below (h : Bk w t g vs) (hb : Below w.heap.size w w') : Bk w' t g vs := h.keep hb h.lt
theorem Bk.wr (h : Bk w t g vs) {g' : Nat} (hw : Wr g' w w') (hp : g ≠ g') : Bk w' t g vs :=
  (hw.block g h.lt (by intro e; injection e with e; exact hp e)).trans h
theorem Bk.new (w : World) (t : TypeId) (vs : List Value) : Bk (w.alloc (.cells vs.toArray t)) t w.heap.size vs := heap_alloc_new w _
theorem Bk.alloc (h : Bk w t g vs) (o : Obj) : Bk (w.alloc o) t g vs := h.keep ((Below.refl _ _).alloc (Nat.le_refl _) o) h.lt
theorem Bk.set (h : Bk w t g vs) (i : Nat) (x : Value) : Bk (w.setCell ⟨g, i, none⟩ x) t g (vs.set i x) := by
  unfold Bk at h ⊢
  simp [World.setCell, Array.getElem?_modify, h]
theorem Bk.far (h : Bk w t g vs) {p : Addr} (hp : g ≠ p.block) (x : Value) : Bk (w.setCell p x) t g vs := (Below.heap_setCell w p x g hp).trans h
end
theorem Rd.blk {k : IntKind} {w : World} {A : Option Addr} {n c : Nat} {xs : List Int} (h : Rd k w A n c xs) : 0 < n → ∀ ad, A = some ad → ad.block < w.heap.size := fun hn ad he => by
  obtain ⟨g, o, e, hg, _⟩ := h.2.2.2.2.2 hn
  rw [e] at he
  injection he with he
  subst he
  exact hg
theorem Rd.belowA {k : IntKind} {w w' : World} {A : Option Addr} {n c : Nat} {xs : List Int} (h : Rd k w A n c xs) {B : Nat} (hA : 0 < n → ∀ ad, A = some ad → ad.block < B) (hb : Below B w w') : Rd k w' A n c xs := by
  obtain ⟨h1, h2, h3, h4, h5, h6⟩ := h
  refine ⟨h1, h2, h3, h4, h5, fun hn => ?_⟩
  obtain ⟨g', o, e, hg, hx⟩ := h6 hn
  exact ⟨g', o, e, by have := hb.size; omega, fun i hi => (hb.cell (p := ⟨g', o + i, none⟩) (show g' < B from hA hn _ e)).trans (hx i hi)⟩
theorem Rd.wr' {k : IntKind} {w w' : World} {A : Option Addr} {n c : Nat} {xs : List Int} (h : Rd k w A n c xs) {g : Nat} (hA : 0 < n → ∀ ad, A = some ad → ad.block ≠ g) (hw : Wr g w w') : Rd k w' A n c xs := by
  obtain ⟨h1, h2, h3, h4, h5, h6⟩ := h
  refine ⟨h1, h2, h3, h4, h5, fun hn => ?_⟩
  obtain ⟨g', o, e, hg, hx⟩ := h6 hn
  refine ⟨g', o, e, by have := hw.size; omega, fun i hi => ?_⟩
  rw [World.cell?_of_block (hw.block g' hg (by intro e'; injection e' with e'; exact hA hn _ e e'))]
  exact hx i hi
theorem Rd.to {k : IntKind} {w W : World} {B : Option Addr} {m d L L' : Nat} {xs : List Int} (h : Rd k w B m d xs) (hB : 0 < m → ∀ ad, B = some ad → ad.block < L) (hL : L ≤ L') (hb : Below L' w W) : Rd k W B m d xs :=
  h.belowA (fun hm ad he => Nat.lt_of_lt_of_le (hB hm ad he) hL) hb
/-- The slice (B, m) lies in the memory of (A, n). -/
def From (A : Option Addr) (n : Nat) (B : Option Addr) (m : Nat) : Prop := 0 < m → ∀ ad, B = some ad → 0 < n ∧ ∃ a0, A = some a0 ∧ ad.block = a0.block
theorem From.lt {A B : Option Addr} {n m L : Nat} (h : From A n B m) (hA : 0 < n → ∀ ad, A = some ad → ad.block < L) : 0 < m → ∀ ad, B = some ad → ad.block < L := fun hm ad he => by
  obtain ⟨hn, a0, h0, h1⟩ := h hm ad he
  rw [h1]
  exact hA hn a0 h0
end Go.Proofs.Ytboclbanccfbjaa
namespace Go.Proofs.Ytboclbanccfbjaa
set_option linter.unusedSimpArgs false
set_option linter.unusedVariables false
open Go.RowKit
section
variable {P : Program} {ops : Array Oper} {Q : Exit → Act → World → Prop} {md : Region.Mode} {E : World → World → Prop}
theorem yieldsIf_mono {S S' : World → Prop} {o : Oper} {v : Value} {a : Act} (h : ∀ w, S' w → S w) (hy : YieldsIf P ops S o v a) : YieldsIf P ops S' o v a :=
  hy.imp (fun ⟨hw, hv⟩ => ⟨hw, fun w hS => hv w (h w hS)⟩) id
/-- Whatever order is picked from here on; each operation leads from a world to one that E lets. -/
def wpAnyE (P : Program) (md : Region.Mode) (ops : Array Oper) (Q : Exit → Act → World → Prop) (E : World → World → Prop) : Nat → Array Bool → Act → World → Prop
  | 0, listed, a, w => Region.ready md ops listed = [] ∧ Q .normal a w
  | fuel + 1, listed, a, w =>
    (Region.ready md ops listed = [] → Q .normal a w) ∧
    ∀ i ∈ Region.ready md ops listed, wpOp P ops Q i (fun a' w' => E w w' ∧ wpAnyE P md ops Q E fuel (listed.setIfInBounds i true) a' w') a w
theorem wpAny_of_E : ∀ (fuel : Nat) (listed : Array Bool) (a : Act) (w : World), wpAnyE P md ops Q E fuel listed a w → wpAny P md ops Q fuel listed a w
  | 0, _, _, _, h => h
  | fuel + 1, _, _, _, h => ⟨h.1, fun i hi => wpOp_mono (fun a' w' h' => wpAny_of_E fuel _ a' w' h'.2) (h.2 i hi)⟩
theorem wpAnyE_first (hrefl : ∀ w, E w w) (htr : ∀ a b c, E a b → E b c → E a c) {i : Nat} {oi : Oper} {v : Value} (hi : ops[i]? = some oi)
    (hsel : ∀ (j : Nat) (o : Oper) cs b, ops[j]? = some o → o.op ≠ .select cs b) (hQ : ∀ c a w, Q (.panic c) (a.put oi.dst v) w → Q (.panic c) a w) :
    ∀ (fuel : Nat) (listed : Array Bool) (a : Act) (w : World),
      (∀ j oj, ops[j]? = some oj → j ≠ i → listed.getD j true = false → (∀ e ∈ oj.after, Region.binds md e = true → e.on ≠ i) → oi.apart ops oj = true) →
      i ∈ Region.ready md ops listed → YieldsIf P ops (E w) oi v a →
      wpAnyE P md ops Q E fuel (listed.setIfInBounds i true) (a.put oi.dst v) w → wpAnyE P md ops Q E (fuel + 1) listed a w := by
  intro fuel
  induction fuel with
  | zero =>
    intro listed a w _ hr hy H
    refine ⟨fun h => absurd hr (by rw [h]; simp), fun j hj => ?_⟩
    rcases Nat.decEq j i with hji | rfl
    · have h0 := ready_mono hj hji
      rw [H.1] at h0
      simp at h0
    · exact hy.wpOp hi (hrefl w) ⟨hrefl w, H⟩
  | succ fuel ih =>
    intro listed a w hfree hr hy H
    refine ⟨fun h => absurd hr (by rw [h]; simp), fun j hj => ?_⟩
    rcases Nat.decEq j i with hji | rfl
    · have h1 := H.2 j (ready_mono hj hji)
      obtain ⟨hjun, oj, hoj, hall⟩ := mem_ready.1 hj
      have hun := (mem_ready.1 hr).1
      have hnot : ∀ e ∈ oj.after, Region.binds md e = true → e.on ≠ i := by
        intro e he hb heq
        have h3 := hall e he hb
        rw [heq] at h3
        rcases Nat.lt_or_ge i listed.size with h' | h'
        · simp [h'] at hun h3
          rw [hun] at h3
          cases h3
        · simp [Array.getElem?_eq_none h'] at h3
      have h2 := wpOp_putIf (S := E w) hoj (hfree j oj hoj hji hjun hnot) (fun cs b => hsel i oi cs b hi) (fun cs b => hsel j oj cs b hoj) hQ hy h1
      refine wpOp_mono (fun a' w' h3 => ⟨h3.2.1, ih _ a' w' ?_ (ready_mono hr (Ne.symm hji)) (yieldsIf_mono (fun W hW => htr _ _ _ h3.2.1 hW) h3.1) ?_⟩) h2
      · intro k ok hk hki hkun hno
        refine hfree k ok hk hki ?_ hno
        by_cases hjk : j = k
        · subst hjk
          exact hjun
        · rw [getD_set_ne true hjk] at hkun
          exact hkun
      · rw [Array.setIfInBounds_comm _ _ hji]
        exact h3.2.2
    · exact hy.wpOp hi (hrefl w) ⟨hrefl w, H⟩
theorem wpAnyE_take (hrefl : ∀ w, E w w) (htr : ∀ a b c, E a b → E b c → E a c) {i : Nat} {oi : Oper} {v : Value} {fuel : Nat} {listed : Array Bool} {a : Act} {w : World} (hi : ops[i]? = some oi)
    (hs : Region.noSelect ops = true) (hf : Region.free md ops listed i = true) (hr : (Region.ready md ops listed).contains i = true)
    (hQ : ∀ c a w, Q (.panic c) (a.put oi.dst v) w → Q (.panic c) a w) (hy : YieldsIf P ops (E w) oi v a)
    (h : wpAnyE P md ops Q E fuel (listed.setIfInBounds i true) (a.put oi.dst v) w) : wpAnyE P md ops Q E (fuel + 1) listed a w :=
  wpAnyE_first hrefl htr hi (Region.noSelect_spec hs) hQ fuel listed a w (Region.free_spec hi hf) (by simpa using hr) hy h
structure Tr (E : World → World → Prop) : Prop where
  refl : ∀ w, E w w
  trans : ∀ a b c, E a b → E b c → E a c
/-- Operation number i is taken now: the side conditions are paid by reckoning. -/
theorem takeE (hE : Tr E) (i : Nat) {oi : Oper} {v : Value} {fuel : Nat} {listed : Array Bool} {a : Act} {w : World} (hi : ops[i]? = some oi)
    (hs : Region.noSelect ops = true) (hf : Region.free md ops listed i = true) (hr : (Region.ready md ops listed).contains i = true)
    (hQ : ∀ c a w, Q (.panic c) (a.put oi.dst v) w → Q (.panic c) a w)
    (hy : (Region.wanted oi (yielded ops a.tmps) = true ∧ ∀ W, E w W → (execOp a.eval oi).run P W = .ok (.value v) W) ∨ (Region.wanted oi (yielded ops a.tmps) = false ∧ v = undef))
    (h : wpAnyE P md ops Q E fuel (listed.setIfInBounds i true) (a.put oi.dst v) w) : wpAnyE P md ops Q E (fuel + 1) listed a w :=
  wpAnyE_take hE.refl hE.trans hi hs hf hr hQ hy h
/-- Just one may come up. -/
theorem wpAnyE_one {i : Nat} {o : Oper} {fuel : Nat} {listed : Array Bool} {a : Act} {w : World} (hr : Region.ready md ops listed = [i]) (ho : ops[i]? = some o)
    (h : ∀ K' : Act → World → Prop, Shut (∀ a' w', E w w' → wpAnyE P md ops Q E fuel (listed.setIfInBounds i true) a' w' → K' a' w') →
      if Region.wanted o (yielded ops a.tmps) = true then Oper.wp P o a w K' Q else K' (a.put o.dst undef) w) : wpAnyE P md ops Q E (fuel + 1) listed a w := by
  refine ⟨fun h0 => absurd (hr ▸ h0) (by simp), fun j hj => ?_⟩
  rw [hr] at hj
  obtain rfl : j = i := by simpa using hj
  exact wpOp_step ho (fun K' hK => h K' (fun a' w' hE hW => hK a' w' ⟨hE, hW⟩))
/-- Two may come up: both ways are walked. -/
theorem wpAnyE_two {i j : Nat} {o o' : Oper} {fuel : Nat} {listed : Array Bool} {a : Act} {w : World} (hr : Region.ready md ops listed = [i, j]) (ho : ops[i]? = some o) (ho' : ops[j]? = some o')
    (h : ∀ K' : Act → World → Prop, Shut (∀ a' w', E w w' → wpAnyE P md ops Q E fuel (listed.setIfInBounds i true) a' w' → K' a' w') →
      if Region.wanted o (yielded ops a.tmps) = true then Oper.wp P o a w K' Q else K' (a.put o.dst undef) w)
    (h' : ∀ K' : Act → World → Prop, Shut (∀ a' w', E w w' → wpAnyE P md ops Q E fuel (listed.setIfInBounds j true) a' w' → K' a' w') →
      if Region.wanted o' (yielded ops a.tmps) = true then Oper.wp P o' a w K' Q else K' (a.put o'.dst undef) w) : wpAnyE P md ops Q E (fuel + 1) listed a w := by
  refine ⟨fun h0 => absurd (hr ▸ h0) (by simp), fun l hl => ?_⟩
  rw [hr] at hl
  have hl' : l = i ∨ l = j := by simpa using hl
  rcases hl' with rfl | rfl
  · exact wpOp_step ho (fun K' hK => h K' (fun a' w' hE hW => hK a' w' ⟨hE, hW⟩))
  · exact wpOp_step ho' (fun K' hK => h' K' (fun a' w' hE hW => hK a' w' ⟨hE, hW⟩))
/-- Three may come up: all three ways are walked. -/
theorem wpAnyE_three {i j k : Nat} {o o' o2 : Oper} {fuel : Nat} {listed : Array Bool} {a : Act} {w : World} (hr : Region.ready md ops listed = [i, j, k]) (ho : ops[i]? = some o) (ho' : ops[j]? = some o') (ho2 : ops[k]? = some o2)
    (h : ∀ K' : Act → World → Prop, Shut (∀ a' w', E w w' → wpAnyE P md ops Q E fuel (listed.setIfInBounds i true) a' w' → K' a' w') →
      if Region.wanted o (yielded ops a.tmps) = true then Oper.wp P o a w K' Q else K' (a.put o.dst undef) w)
    (h' : ∀ K' : Act → World → Prop, Shut (∀ a' w', E w w' → wpAnyE P md ops Q E fuel (listed.setIfInBounds j true) a' w' → K' a' w') →
      if Region.wanted o' (yielded ops a.tmps) = true then Oper.wp P o' a w K' Q else K' (a.put o'.dst undef) w)
    (h2 : ∀ K' : Act → World → Prop, Shut (∀ a' w', E w w' → wpAnyE P md ops Q E fuel (listed.setIfInBounds k true) a' w' → K' a' w') →
      if Region.wanted o2 (yielded ops a.tmps) = true then Oper.wp P o2 a w K' Q else K' (a.put o2.dst undef) w) : wpAnyE P md ops Q E (fuel + 1) listed a w := by
  refine ⟨fun h0 => absurd (hr ▸ h0) (by simp), fun l hl => ?_⟩
  rw [hr] at hl
  have hl' : l = i ∨ l = j ∨ l = k := by simpa using hl
  rcases hl' with rfl | rfl | rfl
  · exact wpOp_step ho (fun K' hK => h K' (fun a' w' hE hW => hK a' w' ⟨hE, hW⟩))
  · exact wpOp_step ho' (fun K' hK => h' K' (fun a' w' hE hW => hK a' w' ⟨hE, hW⟩))
  · exact wpOp_step ho2 (fun K' hK => h2 K' (fun a' w' hE hW => hK a' w' ⟨hE, hW⟩))
theorem wpAnyE_done {listed : Array Bool} {a : Act} {w : World} (hr : Region.ready md ops listed = []) (h : Q .normal a w) : ∀ fuel, wpAnyE P md ops Q E fuel listed a w
  | 0 => ⟨hr, h⟩
  | _ + 1 => ⟨fun _ => h, by rw [hr]; simp⟩
/-- The beginning. -/
theorem wp_region_E (E : World → World → Prop) {id : Nat} {a : Act} {w : World} (hm : P.follows .mixedOrders = true)
    (h : ∀ wd : World, Below w.heap.size w wd → wd.heap.size = w.heap.size → wpAnyE P .any ops Q E ops.size (Array.replicate ops.size false) a wd) : (Code.region id ops true).wp P Q a w :=
  wp_region_any hm (wpAny_of_E _ _ _ _ (h _ (Below.refl _ _).drew rfl))
/-- The blocks of S stay. -/
def Keep (S : Nat → Prop) (w w' : World) : Prop :=
  w'.os = w.os ∧ w'.tape = w.tape ∧ w'.output = w.output ∧ w.heap.size ≤ w'.heap.size ∧ ∀ k, S k → w'.heap[k]? = w.heap[k]?
theorem Keep.tr (S : Nat → Prop) : Tr (Keep S) :=
  ⟨fun _ => ⟨rfl, rfl, rfl, Nat.le_refl _, fun _ _ => rfl⟩, fun _ _ _ h k => ⟨k.1.trans h.1, k.2.1.trans h.2.1, k.2.2.1.trans h.2.2.1, Nat.le_trans h.2.2.2.1 k.2.2.2.1, fun i hi => (k.2.2.2.2 i hi).trans (h.2.2.2.2 i hi)⟩⟩
theorem Keep.below {S : Nat → Prop} {w w' : World} {B : Nat} (h : Below B w w') (hS : ∀ k, S k → k < B) : Keep S w w' := ⟨h.os, h.tape, h.output, h.size, fun k hk => h.block k (hS k hk)⟩
theorem Keep.to {S : Nat → Prop} {w w' : World} {B : Nat} (h : Keep S w w') (hS : ∀ k, k < B → S k) : Below B w w' := ⟨h.1, h.2.1, h.2.2.1, h.2.2.2.1, fun k hk => h.2.2.2.2 k (hS k hk)⟩
theorem Keep.alloc {S : Nat → Prop} (w : World) (hS : ∀ k, S k → k < w.heap.size) (o : Obj) : Keep S w (w.alloc o) := Keep.below ((Below.refl _ _).alloc (Nat.le_refl _) o) hS
theorem Keep.block {S : Nat → Prop} {w w' : World} (h : Keep S w w') {k : Nat} (hk : S k) : w'.heap[k]? = w.heap[k]? := h.2.2.2.2 k hk
theorem Keep.cell {S : Nat → Prop} {w w' : World} (h : Keep S w w') {p : Addr} (hk : S p.block) : w'.cell? p = w.cell? p := World.cell?_of_block (h.block hk)
theorem belowTr (B : Nat) : Tr (Below B) := ⟨fun w => Below.refl B w, fun _ _ _ h k => Below.trans h k⟩
/-- What was there stays. -/
def Ext (w w' : World) : Prop := Below w.heap.size w w'
theorem Ext.tr : Tr Ext := ⟨fun w => Below.refl _ w, fun a b c h k => Below.trans h (k.mono h.size)⟩
theorem Ext.refl (w : World) : Ext w w := Below.refl _ _
theorem Ext.trans (a b c : World) (h : Ext a b) (k : Ext b c) : Ext a c := Below.trans h (k.mono h.size)
theorem wrTr (g : Nat) : Tr (Wr g) := ⟨fun w => Wr.refl w g, fun _ _ _ h k => h.trans k h.size⟩
end
end Go.Proofs.Ytboclbanccfbjaa
namespace Go.Proofs.Ytboclbanccfbjaa
set_option linter.unusedSimpArgs false
set_option linter.unusedVariables false
set_option linter.unnecessarySimpa false
open Go.RowKit Go.Shelf
section
variable {k : IntKind} {e : TypeId} {base : Nat} {w : World} {v : Value} {xs : List Int} {g cap n : Nat}
end
theorem Rd.litF (w : World) (e : TypeId) (xs : List Int) (fz : Nat × Nat) (hx : ∀ x ∈ xs, (Lit.int .u8 x).wf = true) (hl : xs.length ≤ 1000) : Rd .u8 (w.alloc (.cells (xs.map (Value.int .u8)).toArray e fz)) (some ⟨w.heap.size, 0, none⟩) xs.length xs.length xs := by
  refine ⟨rfl, Nat.le_refl _, by simp only [maxLen]; omega, by simp, hx, fun _ => ⟨w.heap.size, 0, rfl, by simp, fun i hi => ?_⟩⟩
  have h := heap_alloc_new w (.cells (xs.map (Value.int .u8)).toArray e fz)
  unfold World.cell?
  rw [h]
  simp [hi]
theorem Ints.run_cut2 {P : Program} {t e : TypeId} {k : IntKind} {bytes : Nat} (S : Ints P t e k bytes) (A : Option Addr) (n c s m : Nat) (hs : s + m ≤ n) (hn : n ≤ c) (w : World) :
    (Instr.slice t (.slice A n c) (some (.int .i64 s)) (some (.int .i64 (s + m))) none).run P w = .ok (.slice (cutA A c s) m (c - s)) w := by
  obtain ⟨i, hi, hz, hsz, hby⟩ := info_parts S.hi
  have h1 := run_sliceBound (P := P) (w := w) .i64 (s + m) c .sliceAcap (by omega) (by omega)
  have h2 := run_sliceBound (P := P) (w := w) .i64 s (s + m) .sliceB (by omega) (by omega)
  have e1 : ((s : Int) + m).toNat = s + m := by omega
  simp [Instr.slice, run_underlying S.ht, Instr.sliceBounds, h1, h2, sizeOf, typeInfo, hi, hsz, cutA, e1]
theorem Ints.run_pre {P : Program} {t e : TypeId} {k : IntKind} {bytes : Nat} (S : Ints P t e k bytes) (A : Option Addr) (n c s m : Nat) (hs : s + m ≤ n) (hn : n ≤ c) (w : World) :
    (Instr.slice t (.slice A n c) none (some (.int .i64 (s + m))) none).run P w = .ok (.slice A (s + m) c) w := by
  obtain ⟨i, hi, hz, hsz, hby⟩ := info_parts S.hi
  have h1 := run_sliceBound (P := P) (w := w) .i64 (s + m) c .sliceAcap (by omega) (by omega)
  have h2 := run_sliceBound (P := P) (w := w) .i64 0 (s + m) .sliceB (by omega) (by omega)
  have e1 : ((s : Int) + m).toNat = s + m := by omega
  have e2 : Option.map (fun x => Addr.add x 0) A = A := by
    cases A with
    | none => rfl
    | some x => simp [Addr.add]
  simp [Instr.slice, run_underlying S.ht, Instr.sliceBounds, h1, h2, sizeOf, typeInfo, hi, hsz, e1, e2]
theorem keepsOthers_of {w w' : World} (h : Below w.heap.size w w') : KeepsOthers w w' := ⟨h.size, fun k o ho _ => (h.block k (Array.getElem?_eq_some_iff.1 ho).1).trans ho⟩
/-- The blocks of S stay. -/
def KpS (S : Nat → Prop) (W W' : World) : Prop := (∀ k, S k → W'.heap[k]? = W.heap[k]?)
theorem KpS.refl (S : Nat → Prop) (W : World) : KpS S W W := fun _ _ => rfl
theorem KpS.trans {S : Nat → Prop} {A B C : World} (h : KpS S A B) (k : KpS S B C) : KpS S A C := fun i hi => (k i hi).trans (h i hi)
theorem KpS.put {S : Nat → Prop} {w : World} (hS : ∀ k, S k → k < w.heap.size) (W : World) (l : Nat) (o o' : Obj) (hl : w.heap.size ≤ l) (ho : W.heap[l]? = some o) (_ : o.isCells = false) (_ : o.isWalk = false) : KpS S W (W.putObj l o') :=
  fun k hk => World.putObj_heap_other (by have := hS k hk; omega)
theorem KpS.cell {S : Nat → Prop} {W W' : World} (h : KpS S W W') {g o : Nat} (hg : S g) : W'.cell? ⟨g, o, none⟩ = W.cell? ⟨g, o, none⟩ := World.cell?_of_block (h g hg)
end Go.Proofs.Ytboclbanccfbjaa
namespace Go.Proofs.Ytboclbanccfbjaa
set_option linter.unusedSimpArgs false
set_option linter.unusedVariables false
open Go.RowKit
/-- Byte number j of a number, from the least significant on. -/
def byteAt (u : Int) (j : Nat) : Int := u / 2 ^ (8 * j) % 256
/-- The s least significant bytes, most significant first. -/
def enc (s : Nat) (u : Int) : List Int := (List.range s).reverse.map (byteAt u)
section
variable {k : IntKind} {w w' : World} {A : Option Addr} {n c : Nat} {xs : List Int}
end
section
variable {k : IntKind} {e : TypeId} {base : Nat} {w w' : World} {v : Value} {xs : List Int}
end
section
variable {P : Program} {w : World} {ops : Array Oper} {rest : List Oper} {o : Oper} {a : Act} {Q : Exit → Act → World → Prop}
end
end Go.Proofs.Ytboclbanccfbjaa
namespace Go.Proofs.Ytboclbanccfbjaa
set_option linter.unusedSimpArgs false
set_option linter.unusedVariables false
open Go.RowKit
theorem bytesT : Ints Try.prog 63 5 .u8 1 := ⟨Try.underlying63, by kernel_rfl⟩
set_option maxHeartbeats 400000 in
theorem clone_any (A : Option Addr) (n c : Nat) (xs : List Int) (w : World) (h : Rd .u8 w A n c xs) (hn : n ≤ 70368744177664) :
    Calls Try.prog 68 #[.slice A n c] w fun e w' => ∃ v, e = .returned v ∧ Ow .u8 5 w.heap.size w' v xs ∧ Below w.heap.size w w' := by
  rcases A with _ | ad
  · have hc := h.2.2.2.1 rfl
    subst hc
    obtain rfl : n = 0 := by have := h.2.1; omega
    obtain rfl : xs = [] := List.eq_nil_of_length_eq_zero h.1
    have hq := Lib.run_eql_slice_nil (P := Try.prog) w 63 5 none 0 0 0 0 Try.underlying63
    go_enter Try.func68, Try.ntmps68
    go_wp2
    go_ret
    exact ⟨_, rfl, ⟨rfl, .inl ⟨rfl, rfl⟩⟩, Below.refl _ _⟩
  · have hq := Lib.run_eql_slice_nil (P := Try.prog) w 63 5 (some ad) n c 0 0 Try.underlying63
    go_enter Try.func68, Try.ntmps68
    go_wp2_with (first
      | (at_builtin
         go_must (refine wpList_append_ints bytesT rfl (.tmp 5) (.tmp 6) rfl rfl (w0 := w) (xs := []) ⟨rfl, .inr ⟨w.heap.size, 0, _, rfl, Nat.le_refl _, heap_alloc_new w _, Nat.le_refl _, by decide, by decide, rfl⟩⟩ rfl (h.alloc _) (by simp; omega) (by omega) ((Below.refl _ _).alloc (Nat.le_refl _) _) ?_)
         intro v1 w1 hown hb))
    go_ret
    exact ⟨_, rfl, by simpa using hown, hb⟩
end Go.Proofs.Ytboclbanccfbjaa
namespace Go.Proofs.Ytboclbanccfbjaa
set_option linter.unusedSimpArgs false
set_option linter.unusedVariables false
open Go.RowKit
theorem Rd.wr {k : IntKind} {w w' : World} {A : Option Addr} {n c : Nat} {xs : List Int} (h : Rd k w A n c xs) {g : Nat} (hA : ∀ ad, A = some ad → ad.block ≠ g) (hw : Wr g w w') : Rd k w' A n c xs := by
  obtain ⟨h1, h2, h3, h4, h5, h6⟩ := h
  refine ⟨h1, h2, h3, h4, h5, fun hn => ?_⟩
  obtain ⟨g', o, e, hg, hx⟩ := h6 hn
  refine ⟨g', o, e, by have := hw.size; omega, fun i hi => ?_⟩
  rw [World.cell?_of_block (hw.block g' hg (by intro e'; injection e' with e'; exact hA _ e e'))]
  exact hx i hi
end Go.Proofs.Ytboclbanccfbjaa
namespace Go.Proofs.Ytboclbanccfbjaa
set_option linter.unusedSimpArgs false
set_option linter.unusedVariables false
open Go.RowKit
theorem conv_any {W : World} {A : Option Addr} {l c : Nat} {xs : List Int} (h : Rd .u8 W A l c xs) : (convert 63 9 (.slice A l c)).run Try.prog W = .ok (.string (strOfNums xs)) W :=
  run_str Try.underlying63 Try.underlying5 h 9 Try.underlying9
end Go.Proofs.Ytboclbanccfbjaa
namespace Go.Proofs.Ytboclbanccfbjaa
set_option linter.unusedSimpArgs false
set_option linter.unusedVariables false
open Go.RowKit Go.Shelf
attribute [local go_sem] Oper.semAt_some
/-- The two boxes stay. -/
def KpB (Bs Bn : Nat) (W W' : World) : Prop := W'.heap[Bs]? = W.heap[Bs]? ∧ W'.heap[Bn]? = W.heap[Bn]?
theorem KpB.c1 {Bs Bn : Nat} {W W' : World} (h : KpB Bs Bn W W') : W'.cell? ⟨Bs, 0, none⟩ = W.cell? ⟨Bs, 0, none⟩ := World.cell?_of_block h.1
theorem KpB.c2 {Bs Bn : Nat} {W W' : World} (h : KpB Bs Bn W W') : W'.cell? ⟨Bn, 0, none⟩ = W.cell? ⟨Bn, 0, none⟩ := World.cell?_of_block h.2
theorem KpB.trans {Bs Bn : Nat} {A B C : World} (h : KpB Bs Bn A B) (k : KpB Bs Bn B C) : KpB Bs Bn A C := ⟨k.1.trans h.1, k.2.trans h.2⟩
theorem KpB.put {Bs Bn : Nat} {w : World} (h1 : Bs < w.heap.size) (h2 : Bn < w.heap.size) (W : World) (l : Nat) (o o' : Obj) (hl : w.heap.size ≤ l) (ho : W.heap[l]? = some o) (_ : o.isCells = false) (_ : o.isWalk = false) : KpB Bs Bn W (W.putObj l o') :=
  ⟨World.putObj_heap_other (by omega), World.putObj_heap_other (by omega)⟩
end Go.Proofs.Ytboclbanccfbjaa
namespace Go.Proofs.Ytboclbanccfbjaa
set_option linter.unusedSimpArgs false
set_option linter.unusedVariables false
open Go.RowKit Go.Shelf
/-- The checksum of two sums. -/
def sm (a b : Int) : Int := 65536 * b + a
/-- A part: where it lies, and its bytes. -/
structure Pt where
  A : Option Addr
  n : Nat
  c : Nat
  xs : List Int
/-- The slice (A, n) of parts. -/
def Pts (w : World) (A : Option Addr) (n : Nat) (ps : List Pt) : Prop :=
  ps.length = n ∧ n ≤ 1000 ∧ ∀ i (h : i < ps.length), (∃ g o, A = some ⟨g, o, none⟩ ∧ g < w.heap.size ∧ w.cell? ⟨g, o + i, none⟩ = some (.slice ps[i].A ps[i].n ps[i].c)) ∧ Rd .u8 w ps[i].A ps[i].n ps[i].c ps[i].xs ∧ ps[i].n ≤ 65536
theorem Pts.below {w w' : World} {A : Option Addr} {n : Nat} {ps : List Pt} (h : Pts w A n ps) (hb : Below w.heap.size w w') : Pts w' A n ps := by
  refine ⟨h.1, h.2.1, fun i hi => ?_⟩
  obtain ⟨⟨g, o, e, hg, hc⟩, hr, hn⟩ := h.2.2 i hi
  exact ⟨⟨g, o, e, by have := hb.size; omega, (hb.cell (p := ⟨g, _, none⟩) hg).trans hc⟩, hr.below hb, hn⟩
end Go.Proofs.Ytboclbanccfbjaa
namespace Go.Proofs.Ytboclbanccfbjaa
set_option linter.unusedSimpArgs false
set_option linter.unusedVariables false
open Go.RowKit Go.Shelf
/-- A packet's numbers. -/
structure Hd where
  kd : Int
  fl : Int
  pa : Int
  sr : Int
  ds : Int
  cn : Int
  sq : Int
  pu : Int
def witB (a lo hi : Int) : Bool := decide (lo ≤ a ∧ a ≤ hi)
def hasB (f g : Int) : Bool := decide (0 ≤ f ∧ f / g % 2 = 1)
set_option maxHeartbeats 400000 in
theorem wit_any (a lo hi : Int) (w : World) : Calls Try.prog 86 #[.int .i64 a, .int .i64 lo, .int .i64 hi] w fun e w' => e = .returned (.bool (witB a lo hi)) ∧ w = w' := by
  unfold witB
  by_cases h1 : lo ≤ a
  · by_cases h2 : a ≤ hi <;>
    · go_enter Try.func86, Try.ntmps86
      go_wp2
      go_ret
      exact ⟨by simp [h1, h2], rfl⟩
  · go_enter Try.func86, Try.ntmps86
    go_wp2
    go_ret
    exact ⟨by simp; omega, rfl⟩
set_option maxHeartbeats 400000 in
theorem has_any (f g : Int) (w : World) (hg : 0 < g) (hg' : g ≤ 63) (hf : f ≤ 9223372036854775807) : Calls Try.prog 77 #[.int .i64 f, .int .i64 g] w fun e w' => e = .returned (.bool (hasB f g)) ∧ w = w' := by
  unfold hasB
  by_cases h1 : 0 ≤ f
  · go_enter Try.func77, Try.ntmps77
    go_wp2
    go_ret
    exact ⟨by have := Int.tmod_eq_emod_of_nonneg (b := 2) (Int.ediv_nonneg h1 (Int.le_of_lt hg)); simp [this, h1]; exact Bool.eq_iff_iff.2 (by simp), rfl⟩
  · go_enter Try.func77, Try.ntmps77
    go_wp2
    go_ret
    exact ⟨by simp; omega, rfl⟩
def plB (h : Hd) : Bool := witB h.pa 0 7 && witB h.sr 0 7 && witB h.ds 0 7 && !(h.sr == h.ds)
set_option maxHeartbeats 1000000 in
theorem places_any (kd fl pa sr ds cn sq pu : Int) (A : Option Addr) (n c : Nat) (w : World) : Calls Try.prog 83 #[.agg #[.int .i64 kd, .int .i64 fl, .int .i64 pa, .int .i64 sr, .int .i64 ds, .int .i64 cn, .int .i64 sq, .int .i64 pu, .slice A n c]] w fun e w' => e = .returned (.bool (plB ⟨kd, fl, pa, sr, ds, cn, sq, pu⟩)) ∧ Below w.heap.size w w' := by
  unfold plB
  dsimp only
  go_enter Try.func83, Try.ntmps83
  go_wp2_with (go_at_call 86; refine (wit_any _ _ _ _).mono ?_; rintro e w' ⟨rfl, rfl⟩)
  all_goals
    go_ret
    exact ⟨by simp_all; try rfl, (Below.refl _ _).alloc (Nat.le_refl _) _⟩
def nmB (h : Hd) : Bool := witB h.cn 1 1073741824 && witB h.sq 0 1152921504606846976 && witB h.pu 0 1152921504606846976
set_option maxHeartbeats 1000000 in
theorem nums_any (kd fl pa sr ds cn sq pu : Int) (A : Option Addr) (n c : Nat) (w : World) : Calls Try.prog 84 #[.agg #[.int .i64 kd, .int .i64 fl, .int .i64 pa, .int .i64 sr, .int .i64 ds, .int .i64 cn, .int .i64 sq, .int .i64 pu, .slice A n c]] w fun e w' => e = .returned (.bool (nmB ⟨kd, fl, pa, sr, ds, cn, sq, pu⟩)) ∧ Below w.heap.size w w' := by
  unfold nmB
  dsimp only
  go_enter Try.func84, Try.ntmps84
  go_wp2_with (go_at_call 86; refine (wit_any _ _ _ _).mono ?_; rintro e w' ⟨rfl, rfl⟩)
  all_goals
    go_ret
    exact ⟨by simp_all, (Below.refl _ _).alloc (Nat.le_refl _) _⟩
def brB (h : Hd) (n : Int) : Bool := h.fl == 0 && n == 0
set_option maxHeartbeats 1000000 in
theorem bare_any (kd fl pa sr ds cn sq pu : Int) (A : Option Addr) (n c : Nat) (w : World) : Calls Try.prog 88 #[.agg #[.int .i64 kd, .int .i64 fl, .int .i64 pa, .int .i64 sr, .int .i64 ds, .int .i64 cn, .int .i64 sq, .int .i64 pu, .slice A n c]] w fun e w' => e = .returned (.bool (brB ⟨kd, fl, pa, sr, ds, cn, sq, pu⟩ n)) ∧ Below w.heap.size w w' := by
  unfold brB
  dsimp only
  go_enter Try.func88, Try.ntmps88
  go_wp2
  all_goals
    go_ret
    exact ⟨by simp_all, (Below.refl _ _).alloc (Nat.le_refl _) _⟩
def dtB (f : Int) (n : Int) : Bool := witB f 0 63 && !(hasB f 16 && !hasB f 8) && (if hasB f 4 then !hasB f 2 && n == 0 else if hasB f 8 then n == 0 else witB n 1 1024)
set_option maxHeartbeats 1000000 in
theorem data_any (f : Int) (n : Nat) (w : World) (hf : f ≤ 9223372036854775807) : Calls Try.prog 87 #[.int .i64 f, .int .i64 n] w fun e w' => e = .returned (.bool (dtB f n)) ∧ w = w' := by
  unfold dtB
  go_enter Try.func87, Try.ntmps87
  go_wp2_with (first | (go_at_call 86; refine (wit_any _ _ _ _).mono ?_; rintro e w' ⟨rfl, rfl⟩) | (go_at_call 77; refine (has_any _ _ _ (by decide) (by decide) hf).mono ?_; rintro e w' ⟨rfl, rfl⟩))
  all_goals
    go_ret
    exact ⟨by simp_all, rfl⟩
def kdB (h : Hd) (n : Int) : Bool := if h.kd == 1 then h.pu == 0 && dtB h.fl n else if h.kd == 2 || h.kd == 3 then h.pu == 0 && brB h n else if h.kd == 4 then h.sq == 0 && brB h n else false
set_option maxHeartbeats 1000000 in
theorem kind_any (kd fl pa sr ds cn sq pu : Int) (A : Option Addr) (n c : Nat) (w : World) (hf : fl ≤ 9223372036854775807) : Calls Try.prog 85 #[.agg #[.int .i64 kd, .int .i64 fl, .int .i64 pa, .int .i64 sr, .int .i64 ds, .int .i64 cn, .int .i64 sq, .int .i64 pu, .slice A n c]] w fun e w' => e = .returned (.bool (kdB ⟨kd, fl, pa, sr, ds, cn, sq, pu⟩ n)) ∧ Below w.heap.size w w' := by
  unfold kdB
  dsimp only
  go_enter Try.func85, Try.ntmps85
  go_wp2_with (first | (go_at_call 87; refine (data_any _ _ _ hf).mono ?_; rintro e w' ⟨rfl, rfl⟩) | (go_at_call 88; refine (bare_any _ _ _ _ _ _ _ _ _ _ _ _).mono ?_; rintro e w' ⟨rfl, hb⟩))
  all_goals
    go_ret
    exact ⟨by simp_all, by first | exact (Below.refl _ _).alloc (Nat.le_refl _) _ | exact ((Below.refl _ _).alloc (Nat.le_refl _) _).trans (hb.mono (by simp))⟩
def chkB (h : Hd) (n : Int) : Bool := plB h && nmB h && kdB h n
def errV (b : Bool) : Value := .int .i64 (if b then 0 else 30)
theorem errV_t : errV true = .int .i64 0 := rfl
theorem errV_f : errV false = .int .i64 30 := rfl
/-- A packet's cells. -/
theorem Bk.cells9 {w : World} {t : TypeId} {g : Nat} {v0 v1 v2 v3 v4 v5 v6 v7 v8 : Value} (h : Bk w t g [v0, v1, v2, v3, v4, v5, v6, v7, v8]) :
    w.cell? ⟨g, 0, none⟩ = some v0 ∧ w.cell? ⟨g, 1, none⟩ = some v1 ∧ w.cell? ⟨g, 2, none⟩ = some v2 ∧ w.cell? ⟨g, 3, none⟩ = some v3 ∧ w.cell? ⟨g, 4, none⟩ = some v4 ∧ w.cell? ⟨g, 5, none⟩ = some v5 ∧ w.cell? ⟨g, 6, none⟩ = some v6 ∧ w.cell? ⟨g, 7, none⟩ = some v7 ∧ w.cell? ⟨g, 8, none⟩ = some v8 :=
  ⟨h.cell 0 rfl, h.cell 1 rfl, h.cell 2 rfl, h.cell 3 rfl, h.cell 4 rfl, h.cell 5 rfl, h.cell 6 rfl, h.cell 7 rfl, h.cell 8 rfl⟩
theorem pk_new {w w1 : World} {vs : List Value} (hb : Below (w.alloc (.cells vs.toArray 65)).heap.size (w.alloc (.cells vs.toArray 65)) w1) : Bk w1 65 w.heap.size vs ∧ Below w.heap.size w w1 :=
  ⟨(Bk.new w 65 vs).below hb, ((Below.refl _ _).alloc (Nat.le_refl _) _).trans (hb.mono (by simp))⟩
theorem below_on {w w1 w2 : World} (h : Below w.heap.size w w1) (k : Below w1.heap.size w1 w2) : Below w.heap.size w w2 := h.trans (k.mono h.size)
set_option maxHeartbeats 1000000 in
theorem check_any (kd fl pa sr ds cn sq pu : Int) (A : Option Addr) (n c : Nat) (w : World) (hf : fl ≤ 9223372036854775807) : Calls Try.prog 74 #[.agg #[.int .i64 kd, .int .i64 fl, .int .i64 pa, .int .i64 sr, .int .i64 ds, .int .i64 cn, .int .i64 sq, .int .i64 pu, .slice A n c]] w fun e w' => e = .returned (errV (chkB ⟨kd, fl, pa, sr, ds, cn, sq, pu⟩ n)) ∧ Below w.heap.size w w' := by
  unfold chkB
  go_enter Try.func74, Try.ntmps74
  go_wp2_with (first
    | (go_at_call 83; refine (places_any _ _ _ _ _ _ _ _ _ _ _ _).mono ?_; rintro e w1 ⟨rfl, hb1⟩; obtain ⟨hp1, hc1⟩ := pk_new hb1; clear hb1; obtain ⟨c0, c1, c2, c3, c4, c5, c6, c7, c8⟩ := hp1.cells9)
    | (go_at_call 84; refine (nums_any _ _ _ _ _ _ _ _ _ _ _ _).mono ?_; rintro e w2 ⟨rfl, hb2⟩; have hp2 := hp1.below hb2; have hc2 := below_on hc1 hb2; clear hb2; obtain ⟨d0, d1, d2, d3, d4, d5, d6, d7, d8⟩ := hp2.cells9)
    | (go_at_call 85; refine (kind_any _ _ _ _ _ _ _ _ _ _ _ _ hf).mono ?_; rintro e w3 ⟨rfl, hb3⟩; have hc3 := below_on hc2 hb3; clear hb3))
  all_goals
    go_ret
    exact ⟨by unfold errV; simp_all, by assumption⟩
end Go.Proofs.Ytboclbanccfbjaa
namespace Go.Proofs.Ytboclbanccfbjaa
set_option linter.unusedSimpArgs false
set_option linter.unusedVariables false
open Go.RowKit Go.Shelf
def isdB (h : Hd) (n : Int) : Bool := h.kd == 1 && chkB h n
set_option maxHeartbeats 1000000 in
theorem isd_any (kd fl pa sr ds cn sq pu : Int) (A : Option Addr) (n c : Nat) (w : World) (hf : fl ≤ 9223372036854775807) : Calls Try.prog 76 #[.agg #[.int .i64 kd, .int .i64 fl, .int .i64 pa, .int .i64 sr, .int .i64 ds, .int .i64 cn, .int .i64 sq, .int .i64 pu, .slice A n c]] w fun e w' => e = .returned (.bool (isdB ⟨kd, fl, pa, sr, ds, cn, sq, pu⟩ n)) ∧ Below w.heap.size w w' := by
  unfold isdB
  dsimp only
  have HK := Lib.hid (fun w => check_any 1 fl pa sr ds cn sq pu A n c w hf)
  by_cases hk : kd = 1
  · subst hk
    generalize chkB ⟨1, fl, pa, sr, ds, cn, sq, pu⟩ n = b at *
    cases b
    all_goals
      go_enter Try.func76, Try.ntmps76
      go_wp2_with (go_at_call 74; refine (HK.out _).mono ?_; rintro e w1 ⟨rfl, hb1⟩; obtain ⟨hp1, hc1⟩ := pk_new hb1; clear hb1; unfold errV)
      go_ret
      exact ⟨by simp, by assumption⟩
  · have hk' : (kd == 1) = false := by simpa using hk
    go_enter Try.func76, Try.ntmps76
    go_wp2
    go_ret
    exact ⟨by simp [hk'], (Below.refl _ _).alloc (Nat.le_refl _) _⟩
theorem pk_new2 {w w1 : World} {vs vs' : List Value} (hb : Below ((w.alloc (.cells vs.toArray 65)).alloc (.cells vs'.toArray 65)).heap.size ((w.alloc (.cells vs.toArray 65)).alloc (.cells vs'.toArray 65)) w1) :
    Bk w1 65 w.heap.size vs ∧ Bk w1 65 (w.heap.size + 1) vs' ∧ Below w.heap.size w w1 :=
  ⟨((Bk.new w 65 vs).alloc _).below hb, by have h := (Bk.new (w.alloc (.cells vs.toArray 65)) 65 vs').below hb; simpa using h, (((Below.refl _ _).alloc (Nat.le_refl _) _).alloc (by simp) _).trans (hb.mono (by simp; omega))⟩
theorem own_set {k : IntKind} {e : TypeId} {base : Nat} {w : World} {v u : Value} {xs : List Int} (h : Ow k e base w v xs) {p : Addr} (hp : p.block < base) : Ow k e base (w.setCell p u) v xs := by
  refine ⟨h.1, ?_⟩
  rcases h.2 with hn | ⟨b, cap, cur, hv, hb, hh, r⟩
  · exact .inl hn
  · exact .inr ⟨b, cap, cur, hv, hb, (Below.heap_setCell _ _ _ _ (by omega)).trans hh, r⟩
theorem own_rd {e : TypeId} {base : Nat} {w : World} {A : Option Addr} {n c : Nat} {xs : List Int} (h : Ow .u8 e base w (.slice A n c) xs) (hwf : ∀ x ∈ xs, (Lit.int .u8 x).wf = true) : Rd .u8 w A n c xs := by
  obtain ⟨A', c', h1, h2⟩ := h.rd hwf
  injection h1 with e1 e2 e3
  subst e1 e2 e3
  exact h2
/-- A packet is stored whole. -/
theorem pk_store {w : World} {g : Nat} {v0 v1 v2 v3 v4 v5 v6 v7 v8 : Value} (u0 u1 u2 u3 u4 u5 u6 u7 u8 : Value) (h : Bk w 65 g [v0, v1, v2, v3, v4, v5, v6, v7, v8]) :
    ∃ W, (((((((((w.setCell ⟨g, 0, none⟩ u0).setCell ⟨g, 1, none⟩ u1).setCell ⟨g, 2, none⟩ u2).setCell ⟨g, 3, none⟩ u3).setCell ⟨g, 4, none⟩ u4).setCell ⟨g, 5, none⟩ u5).setCell ⟨g, 6, none⟩ u6).setCell ⟨g, 7, none⟩ u7).setCell ⟨g, 8, none⟩ u8) = W ∧ Bk W 65 g [u0, u1, u2, u3, u4, u5, u6, u7, u8] ∧ (∀ B, B ≤ g → Below B w W) ∧ (∀ g' t' vs', g' ≠ g → Bk w t' g' vs' → Bk W t' g' vs') ∧ (∀ base v xs, g < base → Ow .u8 5 base w v xs → Ow .u8 5 base W v xs) ∧ W.heap.size = w.heap.size ∧ Wr g w W := by
  refine ⟨_, rfl, ?_, ?_, ?_, ?_, ?_, ?_⟩
  · exact ((((((((h.set 0 u0).set 1 u1).set 2 u2).set 3 u3).set 4 u4).set 5 u5).set 6 u6).set 7 u7).set 8 u8
  · intro B hB
    repeat (first | with_reducible refine Below.setCell ?_ (by exact hB) _ | with_reducible exact Below.refl _ _)
  · intro g' t' vs' hg hk
    repeat (first | with_reducible exact hk | refine Bk.far ?_ (by exact hg) _)
  · intro base v xs hb ho
    repeat (first | with_reducible refine own_set ?_ (by exact hb) | with_reducible exact ho)
  · simp [World.setCell]
  · have hs : ∀ (W : World) i u, W.heap.size = w.heap.size → Wr g w W → Wr g w (W.setCell ⟨g, i, none⟩ u) := fun W i u he hW => hW.trans (Wr.set W g i u) (by omega)
    repeat (first | with_reducible exact Wr.refl _ _ | refine hs _ _ _ (by simp [World.setCell]) ?_)
set_option maxHeartbeats 1000000 in
/-- The same packet with a payload of its own. -/
theorem alike_any (kd fl pa sr ds cn sq pu : Int) (A : Option Addr) (n c : Nat) (xs : List Int) (w : World) (h : Rd .u8 w A n c xs) (hn : n ≤ 70368744177664) :
    Calls Try.prog 78 #[.agg #[.int .i64 kd, .int .i64 fl, .int .i64 pa, .int .i64 sr, .int .i64 ds, .int .i64 cn, .int .i64 sq, .int .i64 pu, .slice A n c]] w fun e w' => ∃ A' c', e = .returned (.agg #[.int .i64 kd, .int .i64 fl, .int .i64 pa, .int .i64 sr, .int .i64 ds, .int .i64 cn, .int .i64 sq, .int .i64 pu, .slice A' n c']) ∧ Ow .u8 5 w.heap.size w' (.slice A' n c') xs ∧ Below w.heap.size w w' := by
  have hwf := Lib.hid h.2.2.2.2.1
  have hl := Lib.hid h.1
  go_enter Try.func78, Try.ntmps78
  go_wp2_with fail
  refine (clone_any A n c xs _ (by exact (h.alloc _).alloc _) hn).mono ?_
  rintro e w1 ⟨v, rfl, hown, hb1⟩
  have HO : ∃ A' c', v = .slice A' n c' := by obtain ⟨A', c', h1, _⟩ := hown.rd hwf.out; exact ⟨A', c', by rw [h1, hl.out]⟩
  obtain ⟨A', c', rfl⟩ := HO
  obtain ⟨hx, hy, hc⟩ := pk_new2 hb1
  obtain ⟨c0, c1, c2, c3, c4, c5, c6, c7, c8⟩ := hx.cells9
  obtain ⟨d0, d1, d2, d3, d4, d5, d6, d7, d8⟩ := hy.cells9
  have f1 := fun i => hx.free i
  have f2 := fun i => hy.free i
  have HW := Lib.hid hown
  clear hown hb1
  go_wp2
  refine bodyPost_ret (v := .agg #[.int .i64 kd, .int .i64 fl, .int .i64 pa, .int .i64 sr, .int .i64 ds, .int .i64 cn, .int .i64 sq, .int .i64 pu, .slice A' n c']) (by simp [results, Try.results78, go_sem, *]) rfl ⟨A', c', rfl, ?_, ?_⟩
  · have hown := HW.out
    refine Ow.mono (base := w.heap.size + 2) ?_ (by omega)
    simp only [World.size_alloc, Nat.add_assoc, Nat.reduceAdd] at hown
    repeat (first | with_reducible refine own_set ?_ (by simp) | with_reducible exact hown)
  · clear hx hy c0 c1 c2 c3 c4 c5 c6 c7 c8 d0 d1 d2 d3 d4 d5 d6 d7 d8 f1 f2 HW
    repeat (first | with_reducible refine Below.setCell ?_ (by simp) _ | with_reducible exact hc)
end Go.Proofs.Ytboclbanccfbjaa
namespace Go.Proofs.Ytboclbanccfbjaa
set_option linter.unusedSimpArgs false
set_option linter.unusedVariables false
open Go.RowKit Go.Shelf
theorem isd_fl {h : Hd} {n : Int} (hb : isdB h n = true) : 0 ≤ h.fl ∧ h.fl ≤ 63 := by
  unfold isdB chkB kdB dtB witB at hb
  simp only [Bool.and_eq_true, beq_iff_eq] at hb
  obtain ⟨h1, _, h3⟩ := hb
  rw [if_pos h1] at h3
  simp only [Bool.and_eq_true, decide_eq_true_eq] at h3
  exact h3.2.1.1
set_option maxHeartbeats 2000000 in
theorem trim_no (kd fl pa sr ds cn sq pu : Int) (A : Option Addr) (n c : Nat) (xs : List Int) (w : World) (h : Rd .u8 w A n c xs) (hn : n ≤ 70368744177664) (hf : fl ≤ 9223372036854775807) (hb : isdB ⟨kd, fl, pa, sr, ds, cn, sq, pu⟩ n = false ∨ isdB ⟨kd, fl, pa, sr, ds, cn, sq, pu⟩ n = true ∧ hasB fl 8 = true) :
    Calls Try.prog 63 #[.agg #[.int .i64 kd, .int .i64 fl, .int .i64 pa, .int .i64 sr, .int .i64 ds, .int .i64 cn, .int .i64 sq, .int .i64 pu, .slice A n c]] w fun e w' => ∃ A' c', e = .returned (.tuple #[.agg #[.int .i64 kd, .int .i64 fl, .int .i64 pa, .int .i64 sr, .int .i64 ds, .int .i64 cn, .int .i64 sq, .int .i64 pu, .slice A' n c'], .bool false]) ∧ Ow .u8 5 w.heap.size w' (.slice A' n c') xs ∧ Below w.heap.size w w' := by
  have HI := Lib.hid (fun w => isd_any kd fl pa sr ds cn sq pu A n c w hf)
  have HH := Lib.hid (fun w => has_any fl 8 w (by decide) (by decide) hf)
  generalize isdB ⟨kd, fl, pa, sr, ds, cn, sq, pu⟩ n = b1 at *
  generalize hasB fl 8 = b2 at *
  have hcase : ∃ b, b1 = b ∧ (b = true → b2 = true) := by rcases hb with rfl | ⟨rfl, rfl⟩ <;> simp
  clear hb
  obtain ⟨b, rfl, hb⟩ := hcase
  cases b1
  all_goals
    try (have hb2 : b2 = true := hb rfl)
    try subst hb2
    clear hb
    go_enter Try.func63, Try.ntmps63
    go_wp2_with fail
    refine (HI.out _).mono ?_
    rintro e w1 ⟨rfl, hb1⟩
    obtain ⟨hx, hy, hc⟩ := pk_new2 hb1
    have h1 : Rd .u8 w1 A n c xs := by exact h.below hc
    obtain ⟨c0, c1, c2, c3, c4, c5, c6, c7, c8⟩ := hx.cells9
    clear hb1
    go_wp2_with (go_at_call 77; refine (HH.out _).mono ?_; rintro e w1 ⟨rfl, rfl⟩)
    refine (alike_any _ _ _ _ _ _ _ _ A n c xs _ h1 hn).mono ?_
    rintro e w2 ⟨A', c', rfl, hr, hb2⟩
    have hy2 := hy.below hb2
    have hc2 := below_on hc hb2
    obtain ⟨d0, d1, d2, d3, d4, d5, d6, d7, d8⟩ := hy2.cells9
    have f2 := fun i => hy2.free i
    have hlt := hy.lt
    clear hb2 c0 c1 c2 c3 c4 c5 c6 c7 c8
    go_wp2
    refine bodyPost_ret (v := .tuple #[.agg #[.int .i64 kd, .int .i64 fl, .int .i64 pa, .int .i64 sr, .int .i64 ds, .int .i64 cn, .int .i64 sq, .int .i64 pu, .slice A' n c'], .bool false]) (by simp [results, Try.results63, go_sem, *]) rfl ⟨A', c', rfl, ?_, ?_⟩
    · refine Ow.mono (base := w1.heap.size) ?_ (by omega)
      clear hx hy hy2 d0 d1 d2 d3 d4 d5 d6 d7 d8 f2
      repeat (first | with_reducible refine own_set ?_ (by exact hlt) | with_reducible exact hr)
    · clear hx hy hy2 d0 d1 d2 d3 d4 d5 d6 d7 d8 f2
      repeat (first | with_reducible refine Below.setCell ?_ (by simp) _ | with_reducible exact hc2)
set_option maxHeartbeats 2000000 in
theorem trim_yes (kd fl pa sr ds cn sq pu : Int) (A : Option Addr) (n c : Nat) (w : World) (hf : fl ≤ 9223372036854775807) (hb : isdB ⟨kd, fl, pa, sr, ds, cn, sq, pu⟩ n = true) (hb' : hasB fl 8 = false) :
    Calls Try.prog 63 #[.agg #[.int .i64 kd, .int .i64 fl, .int .i64 pa, .int .i64 sr, .int .i64 ds, .int .i64 cn, .int .i64 sq, .int .i64 pu, .slice A n c]] w fun e w' => e = .returned (.tuple #[.agg #[.int .i64 kd, .int .i64 (fl + 8), .int .i64 pa, .int .i64 sr, .int .i64 ds, .int .i64 cn, .int .i64 sq, .int .i64 pu, .slice none 0 0], .bool true]) ∧ Below w.heap.size w w' := by
  have HI := Lib.hid (fun w => isd_any kd fl pa sr ds cn sq pu A n c w hf)
  have HH := Lib.hid (fun w => has_any fl 8 w (by decide) (by decide) hf)
  obtain ⟨hf0, hf1⟩ := isd_fl hb
  dsimp only at hf0 hf1
  rw [hb] at HI
  rw [hb'] at HH
  clear hb hb'
  go_enter Try.func63, Try.ntmps63
  go_wp2_with fail
  refine (HI.out _).mono ?_
  rintro e w1 ⟨rfl, hb1⟩
  obtain ⟨hx, hy, hc⟩ := pk_new2 hb1
  obtain ⟨c0, c1, c2, c3, c4, c5, c6, c7, c8⟩ := hx.cells9
  obtain ⟨d0, d1, d2, d3, d4, d5, d6, d7, d8⟩ := hy.cells9
  have f1 := fun i => hx.free i
  have f2 := fun i => hy.free i
  clear hb1
  go_wp2_with (go_at_call 77; refine (HH.out _).mono ?_; rintro e w1 ⟨rfl, rfl⟩)
  refine bodyPost_ret (v := .tuple #[.agg #[.int .i64 kd, .int .i64 (fl + 8), .int .i64 pa, .int .i64 sr, .int .i64 ds, .int .i64 cn, .int .i64 sq, .int .i64 pu, .slice none 0 0], .bool true]) (by simp [results, Try.results63, go_sem, *]) rfl ⟨rfl, ?_⟩
  · clear hx hy c0 c1 c2 c3 c4 c5 c6 c7 c8 d0 d1 d2 d3 d4 d5 d6 d7 d8 f1 f2
    repeat (first | with_reducible refine Below.setCell ?_ (by simp) _ | with_reducible exact hc)
end Go.Proofs.Ytboclbanccfbjaa
namespace Go.Proofs.Ytboclbanccfbjaa
set_option linter.unusedSimpArgs false
set_option linter.unusedVariables false
open Go.RowKit Go.Shelf
set_option maxHeartbeats 4000000 in
theorem bounce_no (kd fl pa sr ds cn sq pu : Int) (A : Option Addr) (n c : Nat) (xs : List Int) (w : World) (h : Rd .u8 w A n c xs) (hn : n ≤ 70368744177664) (hf : fl ≤ 9223372036854775807) (hb : (isdB ⟨kd, fl, pa, sr, ds, cn, sq, pu⟩ n && hasB fl 8 && !hasB fl 16) = false) :
    Calls Try.prog 75 #[.agg #[.int .i64 kd, .int .i64 fl, .int .i64 pa, .int .i64 sr, .int .i64 ds, .int .i64 cn, .int .i64 sq, .int .i64 pu, .slice A n c]] w fun e w' => ∃ A' c', e = .returned (.tuple #[.agg #[.int .i64 kd, .int .i64 fl, .int .i64 pa, .int .i64 sr, .int .i64 ds, .int .i64 cn, .int .i64 sq, .int .i64 pu, .slice A' n c'], .bool false]) ∧ Ow .u8 5 w.heap.size w' (.slice A' n c') xs ∧ Below w.heap.size w w' := by
  have HI := Lib.hid (fun A c w => isd_any kd fl pa sr ds cn sq pu A n c w hf)
  have HH := Lib.hid (fun w => has_any fl 8 w (by decide) (by decide) hf)
  have HG := Lib.hid (fun w => has_any fl 16 w (by decide) (by decide) hf)
  generalize isdB ⟨kd, fl, pa, sr, ds, cn, sq, pu⟩ n = b1 at *
  generalize hasB fl 8 = b2 at *
  generalize hasB fl 16 = b3 at *
  have h' := Lib.hid h
  go_enter Try.func75, Try.ntmps75
  go_wp2_with fail
  refine (alike_any _ _ _ _ _ _ _ _ A n c xs _ (by exact (h.alloc _).alloc _) hn).mono ?_
  rintro e w1 ⟨A', c', rfl, hr, hb1⟩
  obtain ⟨hx, hy, hc⟩ := pk_new2 hb1
  simp only [World.size_alloc, Nat.add_assoc, Nat.reduceAdd] at hr
  clear hb1
  obtain ⟨c0, c1, c2, c3, c4, c5, c6, c7, c8⟩ := hx.cells9
  have f1 := fun i => hx.free i
  go_wp2_with fail
  obtain ⟨W, hW, hWx, hWb, hWk, hWo, hWs, -⟩ := pk_store (.int .i64 kd) (.int .i64 fl) (.int .i64 pa) (.int .i64 sr) (.int .i64 ds) (.int .i64 cn) (.int .i64 sq) (.int .i64 pu) (.slice A' n c') hx
  rw [hW]
  have hWy := hWk _ _ _ (by omega) hy
  have hWr := hWo _ _ _ (by omega) hr
  have hWc := hc.trans (hWb _ (Nat.le_refl _))
  clear hx hy hc hr c0 c1 c2 c3 c4 c5 c6 c7 c8 f1 hWb hWk hWo hWs hW
  refine (HI.out _ _ _).mono ?_
  rintro e w2 ⟨rfl, hb2⟩
  have hx := hWx.below hb2
  have hy := hWy.below hb2
  have hr := hWr.keep hb2 (Nat.le_refl _)
  have hc := below_on hWc hb2
  clear hWx hWy hWr hWc hb2
  obtain ⟨c0, c1, c2, c3, c4, c5, c6, c7, c8⟩ := hx.cells9
  obtain ⟨d0, d1, d2, d3, d4, d5, d6, d7, d8⟩ := hy.cells9
  have f2 := fun i => hy.free i
  have hcase : b1 = false ∨ b1 = true ∧ (b2 = false ∨ b2 = true ∧ b3 = true) := by cases b1 <;> cases b2 <;> cases b3 <;> simp_all
  clear hb h
  rcases hcase with rfl | ⟨rfl, rfl | ⟨rfl, rfl⟩⟩
  all_goals
    go_wp2_with (first | ((with_reducible refine (HH.out _).mono ?_); rintro e w1 ⟨rfl, rfl⟩) | ((with_reducible refine (HG.out _).mono ?_); rintro e w1 ⟨rfl, rfl⟩))
    refine bodyPost_ret (v := .tuple #[.agg #[.int .i64 kd, .int .i64 fl, .int .i64 pa, .int .i64 sr, .int .i64 ds, .int .i64 cn, .int .i64 sq, .int .i64 pu, .slice A' n c'], .bool false]) (by simp [results, Try.results75, go_sem, *]) rfl ⟨A', c', rfl, ?_, ?_⟩
    · refine Ow.mono (base := w.heap.size + 2) ?_ (by omega)
      clear hx hy c0 c1 c2 c3 c4 c5 c6 c7 c8 d0 d1 d2 d3 d4 d5 d6 d7 d8 f2
      repeat (first | with_reducible refine own_set ?_ (by simp) | with_reducible exact hr)
    · clear hx hy c0 c1 c2 c3 c4 c5 c6 c7 c8 d0 d1 d2 d3 d4 d5 d6 d7 d8 f2
      repeat (first | with_reducible refine Below.setCell ?_ (by simp) _ | with_reducible exact hc)
set_option maxHeartbeats 4000000 in
theorem bounce_yes (kd fl pa sr ds cn sq pu : Int) (A : Option Addr) (n c : Nat) (xs : List Int) (w : World) (h : Rd .u8 w A n c xs) (hn : n ≤ 70368744177664) (hf : fl ≤ 9223372036854775807) (hb1 : isdB ⟨kd, fl, pa, sr, ds, cn, sq, pu⟩ n = true) (hb2 : hasB fl 8 = true) (hb3 : hasB fl 16 = false) :
    Calls Try.prog 75 #[.agg #[.int .i64 kd, .int .i64 fl, .int .i64 pa, .int .i64 sr, .int .i64 ds, .int .i64 cn, .int .i64 sq, .int .i64 pu, .slice A n c]] w fun e w' => ∃ A' c', e = .returned (.tuple #[.agg #[.int .i64 kd, .int .i64 (fl + 16), .int .i64 pa, .int .i64 ds, .int .i64 sr, .int .i64 cn, .int .i64 sq, .int .i64 pu, .slice A' n c'], .bool true]) ∧ Ow .u8 5 w.heap.size w' (.slice A' n c') xs ∧ Below w.heap.size w w' := by
  have HI := Lib.hid (fun A c w => isd_any kd fl pa sr ds cn sq pu A n c w hf)
  have HH := Lib.hid (fun w => has_any fl 8 w (by decide) (by decide) hf)
  have HG := Lib.hid (fun w => has_any fl 16 w (by decide) (by decide) hf)
  obtain ⟨hf0, hf1⟩ := isd_fl hb1
  dsimp only at hf0 hf1
  rw [hb1] at HI
  rw [hb2] at HH
  rw [hb3] at HG
  clear hb1 hb2 hb3
  go_enter Try.func75, Try.ntmps75
  go_wp2_with fail
  refine (alike_any _ _ _ _ _ _ _ _ A n c xs _ (by exact (h.alloc _).alloc _) hn).mono ?_
  rintro e w1 ⟨A', c', rfl, hr, hb1⟩
  obtain ⟨hx, hy, hc⟩ := pk_new2 hb1
  simp only [World.size_alloc, Nat.add_assoc, Nat.reduceAdd] at hr
  clear hb1
  obtain ⟨c0, c1, c2, c3, c4, c5, c6, c7, c8⟩ := hx.cells9
  have f1 := fun i => hx.free i
  go_wp2_with fail
  obtain ⟨W, hW, hWx, hWb, hWk, hWo, hWs, -⟩ := pk_store (.int .i64 kd) (.int .i64 fl) (.int .i64 pa) (.int .i64 sr) (.int .i64 ds) (.int .i64 cn) (.int .i64 sq) (.int .i64 pu) (.slice A' n c') hx
  rw [hW]
  have hWy := hWk _ _ _ (by omega) hy
  have hWr := hWo _ _ _ (by omega) hr
  have hWc := hc.trans (hWb _ (Nat.le_refl _))
  clear hx hy hc hr c0 c1 c2 c3 c4 c5 c6 c7 c8 f1 hWb hWk hWo hWs hW
  refine (HI.out _ _ _).mono ?_
  rintro e w2 ⟨rfl, hb2⟩
  have hx := hWx.below hb2
  have hy := hWy.below hb2
  have hr := hWr.keep hb2 (Nat.le_refl _)
  have hc := below_on hWc hb2
  clear hWx hWy hWr hWc hb2
  obtain ⟨c0, c1, c2, c3, c4, c5, c6, c7, c8⟩ := hx.cells9
  obtain ⟨d0, d1, d2, d3, d4, d5, d6, d7, d8⟩ := hy.cells9
  have f1 := fun i => hx.free i
  have f2 := fun i => hy.free i
  clear h
  go_wp2_with (first | ((with_reducible refine (HH.out _).mono ?_); rintro e w1 ⟨rfl, rfl⟩) | ((with_reducible refine (HG.out _).mono ?_); rintro e w1 ⟨rfl, rfl⟩))
  refine bodyPost_ret (v := .tuple #[.agg #[.int .i64 kd, .int .i64 (fl + 16), .int .i64 pa, .int .i64 ds, .int .i64 sr, .int .i64 cn, .int .i64 sq, .int .i64 pu, .slice A' n c'], .bool true]) (by simp [results, Try.results75, go_sem, *]) rfl ⟨A', c', rfl, ?_, ?_⟩
  · refine Ow.mono (base := w.heap.size + 2) ?_ (by omega)
    clear hx hy c0 c1 c2 c3 c4 c5 c6 c7 c8 d0 d1 d2 d3 d4 d5 d6 d7 d8 f1 f2
    repeat (first | with_reducible refine own_set ?_ (by simp) | with_reducible exact hr)
  · clear hx hy c0 c1 c2 c3 c4 c5 c6 c7 c8 d0 d1 d2 d3 d4 d5 d6 d7 d8 f1 f2
    repeat (first | with_reducible refine Below.setCell ?_ (by simp) _ | with_reducible exact hc)
end Go.Proofs.Ytboclbanccfbjaa
namespace Go.Proofs.Ytboclbanccfbjaa
set_option linter.unusedSimpArgs false
set_option linter.unusedVariables false
open Go.RowKit Go.Shelf
def eqS (xs ys : List Int) : Bool := (strOfNums xs).toList == (strOfNums ys).toList
theorem eqS_refl (xs : List Int) : eqS xs xs = true := by simp [eqS]
def smB (h k : Hd) (xs ys : List Int) : Bool := h.kd == k.kd && h.fl == k.fl && h.pa == k.pa && h.sr == k.sr && h.ds == k.ds && h.cn == k.cn && h.sq == k.sq && h.pu == k.pu && eqS xs ys
theorem smB_refl (h : Hd) (xs : List Int) : smB h h xs xs = true := by simp [smB, eqS_refl]
set_option maxHeartbeats 8000000 in
theorem rsame_any (kd fl pa sr ds cn sq pu : Int) (A : Option Addr) (n c : Nat) (kd1 fl1 pa1 sr1 ds1 cn1 sq1 pu1 : Int) (A1 : Option Addr) (n1 c1 : Nat) (xs ys : List Int) (w : World) (h : Rd .u8 w A n c xs) (k : Rd .u8 w A1 n1 c1 ys) :
    Calls Try.prog 36 #[.agg #[.int .i64 kd, .int .i64 fl, .int .i64 pa, .int .i64 sr, .int .i64 ds, .int .i64 cn, .int .i64 sq, .int .i64 pu, .slice A n c], .agg #[.int .i64 kd1, .int .i64 fl1, .int .i64 pa1, .int .i64 sr1, .int .i64 ds1, .int .i64 cn1, .int .i64 sq1, .int .i64 pu1, .slice A1 n1 c1]] w fun e w' => e = .returned (.bool (smB ⟨kd, fl, pa, sr, ds, cn, sq, pu⟩ ⟨kd1, fl1, pa1, sr1, ds1, cn1, sq1, pu1⟩ xs ys)) ∧ Below w.heap.size w w' := by
  unfold smB eqS
  dsimp only
  have q1 := fun o o' => conv_any ((h.alloc o).alloc o')
  have q2 := fun o o' => conv_any ((k.alloc o).alloc o')
  generalize strOfNums xs = sx at *
  generalize strOfNums ys = sy at *
  clear h k
  go_enter Try.func36, Try.ntmps36
  go_wp2
  all_goals
    go_ret
    exact ⟨by simp_all, by exact ((Below.refl _ _).alloc (Nat.le_refl _) _).alloc (by simp) _⟩
end Go.Proofs.Ytboclbanccfbjaa
namespace Go.Proofs.Ytboclbanccfbjaa
set_option linter.unusedSimpArgs false
set_option linter.unusedVariables false
open Go.RowKit Go.Shelf
set_option maxHeartbeats 400000 in
theorem rwit_any (a lo hi : Int) (w : World) : Calls Try.prog 81 #[.int .i64 a, .int .i64 lo, .int .i64 hi] w fun e w' => e = .returned (.bool (witB a lo hi)) ∧ w = w' := by
  unfold witB
  by_cases h1 : lo ≤ a
  · by_cases h2 : a ≤ hi <;>
    · go_enter Try.func81, Try.ntmps81
      go_wp2
      go_ret
      exact ⟨by simp [h1, h2], rfl⟩
  · go_enter Try.func81, Try.ntmps81
    go_wp2
    go_ret
    exact ⟨by simp; omega, rfl⟩
set_option maxHeartbeats 400000 in
theorem rhas_any (f g : Int) (w : World) (hg : 0 < g) (hg' : g ≤ 63) (hf : f ≤ 9223372036854775807) : Calls Try.prog 72 #[.int .i64 f, .int .i64 g] w fun e w' => e = .returned (.bool (hasB f g)) ∧ w = w' := by
  unfold hasB
  by_cases h1 : 0 ≤ f
  · go_enter Try.func72, Try.ntmps72
    go_wp2
    go_ret
    exact ⟨by have := Int.tmod_eq_emod_of_nonneg (b := 2) (Int.ediv_nonneg h1 (Int.le_of_lt hg)); simp [this, h1]; exact Bool.eq_iff_iff.2 (by simp), rfl⟩
  · go_enter Try.func72, Try.ntmps72
    go_wp2
    go_ret
    exact ⟨by simp; omega, rfl⟩
set_option maxHeartbeats 4000000 in
theorem rdata_any (kd fl pa sr ds cn sq pu : Int) (A : Option Addr) (n c : Nat) (w : World) (hf : fl ≤ 9223372036854775807) : Calls Try.prog 82 #[.agg #[.int .i64 kd, .int .i64 fl, .int .i64 pa, .int .i64 sr, .int .i64 ds, .int .i64 cn, .int .i64 sq, .int .i64 pu, .slice A n c]] w fun e w' => e = .returned (.bool (pu == 0 && dtB fl n)) ∧ Below w.heap.size w w' := by
  unfold dtB
  by_cases hp : pu = 0
  · subst hp
    go_enter Try.func82, Try.ntmps82
    go_wp2_with (first | (go_at_call 81; refine (rwit_any _ _ _ _).mono ?_; rintro e w' ⟨rfl, rfl⟩) | (go_at_call 72; refine (rhas_any _ _ _ (by decide) (by decide) hf).mono ?_; rintro e w' ⟨rfl, rfl⟩))
    all_goals
      go_ret
      exact ⟨by simp_all, (Below.refl _ _).alloc (Nat.le_refl _) _⟩
  · have hp' : (pu == 0) = false := by simpa using hp
    have hp'' : (pu != 0) = true := by simpa using hp
    rw [hp', Bool.false_and]
    go_enter Try.func82, Try.ntmps82
    go_wp2_with (first | (go_at_call 81; refine (rwit_any _ _ _ _).mono ?_; rintro e w' ⟨rfl, rfl⟩) | (go_at_call 72; refine (rhas_any _ _ _ (by decide) (by decide) hf).mono ?_; rintro e w' ⟨rfl, rfl⟩))
    all_goals
      go_ret
      exact ⟨rfl, (Below.refl _ _).alloc (Nat.le_refl _) _⟩
set_option maxHeartbeats 8000000 in
theorem ris_any (kd fl pa sr ds cn sq pu : Int) (A : Option Addr) (n c : Nat) (w : World) (hf : fl ≤ 9223372036854775807) : Calls Try.prog 70 #[.agg #[.int .i64 kd, .int .i64 fl, .int .i64 pa, .int .i64 sr, .int .i64 ds, .int .i64 cn, .int .i64 sq, .int .i64 pu, .slice A n c]] w fun e w' => e = .returned (.bool (chkB ⟨kd, fl, pa, sr, ds, cn, sq, pu⟩ n)) ∧ Below w.heap.size w w' := by
  unfold chkB plB nmB kdB brB
  dsimp only
  have HD := Lib.hid (fun w => rdata_any kd fl pa sr ds cn sq pu A n c w hf)
  go_enter Try.func70, Try.ntmps70
  go_wp2_with (first | (go_at_call 81; refine (rwit_any _ _ _ _).mono ?_; rintro e w' ⟨rfl, rfl⟩) | (go_at_call 82; refine (rdata_any _ _ _ _ _ _ _ _ _ _ _ _ hf).mono ?_; rintro e w1 ⟨rfl, hb1⟩; have hc := ((Below.refl _ _).alloc (Nat.le_refl w.heap.size) _).trans (hb1.mono (by simp)); clear hb1))
  all_goals
    go_ret
    exact ⟨by simp_all; try (rw [Bool.eq_iff_iff]; simp; omega), by first | assumption | exact (Below.refl _ _).alloc (Nat.le_refl _) _⟩
end Go.Proofs.Ytboclbanccfbjaa
namespace Go.Proofs.Ytboclbanccfbjaa
set_option linter.unusedSimpArgs false
set_option linter.unusedVariables false
open Go.RowKit Go.Shelf
set_option maxHeartbeats 4000000 in
theorem rtrim_no (kd fl pa sr ds cn sq pu : Int) (A : Option Addr) (n c : Nat) (w : World) (hf : fl ≤ 9223372036854775807) (hb : (isdB ⟨kd, fl, pa, sr, ds, cn, sq, pu⟩ n && !hasB fl 8) = false) :
    Calls Try.prog 71 #[.agg #[.int .i64 kd, .int .i64 fl, .int .i64 pa, .int .i64 sr, .int .i64 ds, .int .i64 cn, .int .i64 sq, .int .i64 pu, .slice A n c]] w fun e w' => e = .returned (.tuple #[.agg #[.int .i64 kd, .int .i64 fl, .int .i64 pa, .int .i64 sr, .int .i64 ds, .int .i64 cn, .int .i64 sq, .int .i64 pu, .slice A n c], .bool false]) ∧ Below w.heap.size w w' := by
  have HI := Lib.hid (fun w => ris_any kd fl pa sr ds cn sq pu A n c w hf)
  have HH := Lib.hid (fun w => rhas_any fl 8 w (by decide) (by decide) hf)
  have HG := Lib.hid (fun w => rhas_any fl 16 w (by decide) (by decide) hf)
  unfold isdB at hb
  dsimp only at hb
  generalize chkB ⟨kd, fl, pa, sr, ds, cn, sq, pu⟩ n = b1 at *
  generalize hasB fl 8 = b2 at *
  have hcase : b1 = false ∨ b1 = true ∧ ((kd != 1) = true ∨ kd = 1 ∧ b2 = true) := by by_cases hk : kd = 1 <;> cases b1 <;> cases b2 <;> simp_all
  clear hb
  rcases hcase with rfl | ⟨rfl, hk | ⟨rfl, rfl⟩⟩
  all_goals
    go_enter Try.func71, Try.ntmps71
    go_wp2_with fail
    refine (HI.out _).mono ?_
    rintro e w1 ⟨rfl, hb1⟩
    obtain ⟨hx, hy, hc⟩ := pk_new2 hb1
    clear hb1
    obtain ⟨c0, c1, c2, c3, c4, c5, c6, c7, c8⟩ := hx.cells9
    obtain ⟨d0, d1, d2, d3, d4, d5, d6, d7, d8⟩ := hy.cells9
    have f2 := fun i => hy.free i
    go_wp2_with (first | ((with_reducible refine (HH.out _).mono ?_); rintro e w1 ⟨rfl, rfl⟩))
    refine bodyPost_ret (v := .tuple #[.agg #[.int .i64 _, .int .i64 fl, .int .i64 pa, .int .i64 sr, .int .i64 ds, .int .i64 cn, .int .i64 sq, .int .i64 pu, .slice A n c], .bool false]) (by simp [results, Try.results71, go_sem, *]) rfl ⟨rfl, ?_⟩
    · clear hx hy c0 c1 c2 c3 c4 c5 c6 c7 c8 d0 d1 d2 d3 d4 d5 d6 d7 d8 f2
      repeat (first | with_reducible refine Below.setCell ?_ (by simp) _ | with_reducible exact hc)
set_option maxHeartbeats 4000000 in
theorem rtrim_yes (kd fl pa sr ds cn sq pu : Int) (A : Option Addr) (n c : Nat) (w : World) (hf : fl ≤ 9223372036854775807) (hb : isdB ⟨kd, fl, pa, sr, ds, cn, sq, pu⟩ n = true) (hb' : hasB fl 8 = false) :
    Calls Try.prog 71 #[.agg #[.int .i64 kd, .int .i64 fl, .int .i64 pa, .int .i64 sr, .int .i64 ds, .int .i64 cn, .int .i64 sq, .int .i64 pu, .slice A n c]] w fun e w' => e = .returned (.tuple #[.agg #[.int .i64 kd, .int .i64 (fl + 8), .int .i64 pa, .int .i64 sr, .int .i64 ds, .int .i64 cn, .int .i64 sq, .int .i64 pu, .slice none 0 0], .bool true]) ∧ Below w.heap.size w w' := by
  have HI := Lib.hid (fun w => ris_any kd fl pa sr ds cn sq pu A n c w hf)
  have HH := Lib.hid (fun w => rhas_any fl 8 w (by decide) (by decide) hf)
  have HG := Lib.hid (fun w => rhas_any fl 16 w (by decide) (by decide) hf)
  obtain ⟨hf0, hf1⟩ := isd_fl hb
  dsimp only at hf0 hf1
  unfold isdB at hb
  dsimp only at hb
  simp only [Bool.and_eq_true, beq_iff_eq] at hb
  obtain ⟨rfl, hb⟩ := hb
  rw [hb] at HI
  rw [hb'] at HH
  clear hb hb'
  go_enter Try.func71, Try.ntmps71
  go_wp2_with fail
  refine (HI.out _).mono ?_
  rintro e w1 ⟨rfl, hb1⟩
  obtain ⟨hx, hy, hc⟩ := pk_new2 hb1
  clear hb1
  obtain ⟨c0, c1, c2, c3, c4, c5, c6, c7, c8⟩ := hx.cells9
  obtain ⟨d0, d1, d2, d3, d4, d5, d6, d7, d8⟩ := hy.cells9
  have f1 := fun i => hx.free i
  have f2 := fun i => hy.free i
  go_wp2_with (first | ((with_reducible refine (HH.out _).mono ?_); rintro e w1 ⟨rfl, rfl⟩))
  refine bodyPost_ret (v := .tuple #[.agg #[.int .i64 1, .int .i64 (fl + 8), .int .i64 pa, .int .i64 sr, .int .i64 ds, .int .i64 cn, .int .i64 sq, .int .i64 pu, .slice none 0 0], .bool true]) (by simp [results, Try.results71, go_sem, *]) rfl ⟨rfl, ?_⟩
  · clear hx hy c0 c1 c2 c3 c4 c5 c6 c7 c8 d0 d1 d2 d3 d4 d5 d6 d7 d8 f1 f2
    repeat (first | with_reducible refine Below.setCell ?_ (by simp) _ | with_reducible exact hc)
set_option maxHeartbeats 4000000 in
theorem rbounce_no (kd fl pa sr ds cn sq pu : Int) (A : Option Addr) (n c : Nat) (w : World) (hf : fl ≤ 9223372036854775807) (hb : (isdB ⟨kd, fl, pa, sr, ds, cn, sq, pu⟩ n && hasB fl 8 && !hasB fl 16) = false) :
    Calls Try.prog 73 #[.agg #[.int .i64 kd, .int .i64 fl, .int .i64 pa, .int .i64 sr, .int .i64 ds, .int .i64 cn, .int .i64 sq, .int .i64 pu, .slice A n c]] w fun e w' => e = .returned (.tuple #[.agg #[.int .i64 kd, .int .i64 fl, .int .i64 pa, .int .i64 sr, .int .i64 ds, .int .i64 cn, .int .i64 sq, .int .i64 pu, .slice A n c], .bool false]) ∧ Below w.heap.size w w' := by
  have HI := Lib.hid (fun w => ris_any kd fl pa sr ds cn sq pu A n c w hf)
  have HH := Lib.hid (fun w => rhas_any fl 8 w (by decide) (by decide) hf)
  have HG := Lib.hid (fun w => rhas_any fl 16 w (by decide) (by decide) hf)
  unfold isdB at hb
  dsimp only at hb
  generalize chkB ⟨kd, fl, pa, sr, ds, cn, sq, pu⟩ n = b1 at *
  generalize hasB fl 8 = b2 at *
  generalize hasB fl 16 = b3 at *
  have hcase : b1 = false ∨ b1 = true ∧ ((kd != 1) = true ∨ kd = 1 ∧ (b2 = false ∨ b2 = true ∧ b3 = true)) := by by_cases hk : kd = 1 <;> cases b1 <;> cases b2 <;> cases b3 <;> simp_all
  clear hb
  rcases hcase with rfl | ⟨rfl, hk | ⟨rfl, rfl | ⟨rfl, rfl⟩⟩⟩
  all_goals
    go_enter Try.func73, Try.ntmps73
    go_wp2_with fail
    refine (HI.out _).mono ?_
    rintro e w1 ⟨rfl, hb1⟩
    obtain ⟨hx, hy, hc⟩ := pk_new2 hb1
    clear hb1
    obtain ⟨c0, c1, c2, c3, c4, c5, c6, c7, c8⟩ := hx.cells9
    obtain ⟨d0, d1, d2, d3, d4, d5, d6, d7, d8⟩ := hy.cells9
    have f2 := fun i => hy.free i
    go_wp2_with (first | ((with_reducible refine (HH.out _).mono ?_); rintro e w1 ⟨rfl, rfl⟩) | ((with_reducible refine (HG.out _).mono ?_); rintro e w1 ⟨rfl, rfl⟩))
    refine bodyPost_ret (v := .tuple #[.agg #[.int .i64 _, .int .i64 fl, .int .i64 pa, .int .i64 sr, .int .i64 ds, .int .i64 cn, .int .i64 sq, .int .i64 pu, .slice A n c], .bool false]) (by simp [results, Try.results73, go_sem, *]) rfl ⟨rfl, ?_⟩
    · clear hx hy c0 c1 c2 c3 c4 c5 c6 c7 c8 d0 d1 d2 d3 d4 d5 d6 d7 d8 f2
      repeat (first | with_reducible refine Below.setCell ?_ (by simp) _ | with_reducible exact hc)
set_option maxHeartbeats 4000000 in
theorem rbounce_yes (kd fl pa sr ds cn sq pu : Int) (A : Option Addr) (n c : Nat) (w : World) (hf : fl ≤ 9223372036854775807) (hb : isdB ⟨kd, fl, pa, sr, ds, cn, sq, pu⟩ n = true) (hb2 : hasB fl 8 = true) (hb3 : hasB fl 16 = false) :
    Calls Try.prog 73 #[.agg #[.int .i64 kd, .int .i64 fl, .int .i64 pa, .int .i64 sr, .int .i64 ds, .int .i64 cn, .int .i64 sq, .int .i64 pu, .slice A n c]] w fun e w' => e = .returned (.tuple #[.agg #[.int .i64 kd, .int .i64 (fl + 16), .int .i64 pa, .int .i64 ds, .int .i64 sr, .int .i64 cn, .int .i64 sq, .int .i64 pu, .slice A n c], .bool true]) ∧ Below w.heap.size w w' := by
  have HI := Lib.hid (fun w => ris_any kd fl pa sr ds cn sq pu A n c w hf)
  have HH := Lib.hid (fun w => rhas_any fl 8 w (by decide) (by decide) hf)
  have HG := Lib.hid (fun w => rhas_any fl 16 w (by decide) (by decide) hf)
  obtain ⟨hf0, hf1⟩ := isd_fl hb
  dsimp only at hf0 hf1
  unfold isdB at hb
  dsimp only at hb
  simp only [Bool.and_eq_true, beq_iff_eq] at hb
  obtain ⟨rfl, hb⟩ := hb
  rw [hb] at HI
  rw [hb2] at HH
  rw [hb3] at HG
  clear hb hb2 hb3
  go_enter Try.func73, Try.ntmps73
  go_wp2_with fail
  refine (HI.out _).mono ?_
  rintro e w1 ⟨rfl, hb1⟩
  obtain ⟨hx, hy, hc⟩ := pk_new2 hb1
  clear hb1
  obtain ⟨c0, c1, c2, c3, c4, c5, c6, c7, c8⟩ := hx.cells9
  obtain ⟨d0, d1, d2, d3, d4, d5, d6, d7, d8⟩ := hy.cells9
  have f1 := fun i => hx.free i
  have f2 := fun i => hy.free i
  go_wp2_with (first | ((with_reducible refine (HH.out _).mono ?_); rintro e w1 ⟨rfl, rfl⟩) | ((with_reducible refine (HG.out _).mono ?_); rintro e w1 ⟨rfl, rfl⟩))
  refine bodyPost_ret (v := .tuple #[.agg #[.int .i64 1, .int .i64 (fl + 16), .int .i64 pa, .int .i64 ds, .int .i64 sr, .int .i64 cn, .int .i64 sq, .int .i64 pu, .slice A n c], .bool true]) (by simp [results, Try.results73, go_sem, *]) rfl ⟨rfl, ?_⟩
  · clear hx hy c0 c1 c2 c3 c4 c5 c6 c7 c8 d0 d1 d2 d3 d4 d5 d6 d7 d8 f1 f2
    repeat (first | with_reducible refine Below.setCell ?_ (by simp) _ | with_reducible exact hc)
end Go.Proofs.Ytboclbanccfbjaa
namespace Go.Proofs.Ytboclbanccfbjaa
set_option linter.unusedSimpArgs false
set_option linter.unusedVariables false
open Go.RowKit Go.Shelf
/-- All but the blocks of F is as it was. -/
structure St (F : Nat → Prop) (w w' : World) : Prop where
  os : w'.os = w.os
  tape : w'.tape = w.tape
  output : w'.output = w.output
  size : w.heap.size ≤ w'.heap.size
  block : ∀ k, k < w.heap.size → ¬ F k → w'.heap[k]? = w.heap[k]?
/-- What F' has beyond F is new from n on. -/
def Gr (F F' : Nat → Prop) (n : Nat) : Prop := ∀ k, F' k → F k ∨ n ≤ k
theorem Gr.refl (F : Nat → Prop) (n : Nat) : Gr F F n := fun _ h => .inl h
theorem Gr.trans {F F' F'' : Nat → Prop} {n m : Nat} (h : Gr F F' n) (k : Gr F' F'' m) (hm : n ≤ m) : Gr F F'' n := fun i hi => by
  rcases k i hi with h1 | h1
  · exact h i h1
  · exact .inr (by omega)
theorem Gr.not {F F' : Nat → Prop} {n k : Nat} (h : Gr F F' n) (hk : k < n) (hF : ¬ F k) : ¬ F' k := fun hf => by
  rcases h k hf with h1 | h1
  · exact hF h1
  · omega
theorem Gr.ge {F F' : Nat → Prop} {n B : Nat} (h : Gr F F' n) (hF : ∀ k, F k → B ≤ k) (hn : B ≤ n) : ∀ k, F' k → B ≤ k := fun k hk => by
  rcases h k hk with h1 | h1
  · exact hF k h1
  · omega
theorem St.refl (F : Nat → Prop) (w : World) : St F w w := ⟨rfl, rfl, rfl, Nat.le_refl _, fun _ _ _ => rfl⟩
theorem St.mono {F F' : Nat → Prop} {w w' : World} (h : St F w w') (hF : ∀ k, k < w.heap.size → F k → F' k) : St F' w w' := ⟨h.os, h.tape, h.output, h.size, fun k hk hn => h.block k hk fun hf => hn (hF k hk hf)⟩
theorem St.trans {F F' : Nat → Prop} {a b c : World} (h : St F a b) (k : St F' b c) (g : Gr F F' a.heap.size) : St F a c :=
  ⟨k.os.trans h.os, k.tape.trans h.tape, k.output.trans h.output, Nat.le_trans h.size k.size, fun i hi hn => (k.block i (by have := h.size; omega) (g.not hi hn)).trans (h.block i hi hn)⟩
theorem St.tr (F : Nat → Prop) : Tr (St F) := ⟨fun w => St.refl F w, fun _ _ _ h k => h.trans k (Gr.refl _ _)⟩
theorem St.of_below {F : Nat → Prop} {B : Nat} {w w' : World} (h : Below B w w') (hF : ∀ k, k < w.heap.size → ¬ F k → k < B) : St F w w' := ⟨h.os, h.tape, h.output, h.size, fun k hk hn => h.block k (hF k hk hn)⟩
theorem St.ext {F : Nat → Prop} {w w' : World} (h : Below w.heap.size w w') : St F w w' := St.of_below h fun _ hk _ => hk
theorem St.below {F : Nat → Prop} {B : Nat} {w w' : World} (h : St F w w') (hB : B ≤ w.heap.size) (hF : ∀ k, F k → B ≤ k) : Below B w w' :=
  ⟨h.os, h.tape, h.output, h.size, fun k hk => h.block k (by omega) fun hf => by have := hF k hf; omega⟩
theorem St.alloc (F : Nat → Prop) (w : World) (o : Obj) : St F w (w.alloc o) := St.ext ((Below.refl _ _).alloc (Nat.le_refl _) o)
theorem St.setCell {F : Nat → Prop} (w : World) {a : Addr} (ha : F a.block) (v : Value) : St F w (w.setCell a v) :=
  ⟨rfl, rfl, rfl, by simp [World.setCell], fun k _ hk => Below.heap_setCell w a v k (by intro e; exact hk (by rw [e]; exact ha))⟩
theorem St.cell {F : Nat → Prop} {w w' : World} (h : St F w w') {p : Addr} (hs : p.block < w.heap.size) (hp : ¬ F p.block) : w'.cell? p = w.cell? p := World.cell?_of_block (h.block _ hs hp)
theorem Bk.st {w w' : World} {t : TypeId} {g : Nat} {vs : List Value} (h : Bk w t g vs) {F : Nat → Prop} (hs : St F w w') (hg : ¬ F g) : Bk w' t g vs := (hs.block g h.lt hg).trans h
theorem Rd.st {k : IntKind} {w w' : World} {A : Option Addr} {n c : Nat} {xs : List Int} (h : Rd k w A n c xs) {F : Nat → Prop} (hs : St F w w') (hA : 0 < n → ∀ ad, A = some ad → ¬ F ad.block) : Rd k w' A n c xs := by
  obtain ⟨h1, h2, h3, h4, h5, h6⟩ := h
  refine ⟨h1, h2, h3, h4, h5, fun hn => ?_⟩
  obtain ⟨g, o, e, hg, hx⟩ := h6 hn
  exact ⟨g, o, e, by have := hs.size; omega, fun i hi => (hs.cell (p := ⟨g, o + i, none⟩) hg (show ¬ F g from hA hn _ e)).trans (hx i hi)⟩
/-- In P, type t is a slice of type e, whose elements are one cell, at first z, of so many bytes. -/
structure Elt (P : Program) (t e : TypeId) (z : Value) (bytes : Nat) : Prop where
  ht : P.underlying t = some (.slice e)
  hi : (P.info? e).map (fun i => (i.zero, i.size, i.bytes)) = some (some z, 1, bytes)
  hz : z.cells = #[z]
  h1 : z.oneCell' = true
  hb : 0 < bytes
/-- The slice (A, n, c) reads in w as the values vs. -/
def RdV (w : World) (A : Option Addr) (n c : Nat) (vs : List Value) : Prop :=
  vs.length = n ∧ n ≤ c ∧ c ≤ maxLen ∧ (A = none → c = 0) ∧ (∀ v ∈ vs, v.oneCell' = true) ∧
  (0 < n → ∃ g o, A = some ⟨g, o, none⟩ ∧ g < w.heap.size ∧ ∀ i, i < n → w.cell? ⟨g, o + i, none⟩ = vs[i]?)
section
variable {w w' : World} {A : Option Addr} {n c : Nat} {vs : List Value}
theorem Rd.rdv {k : IntKind} {xs : List Int} (h : Rd k w A n c xs) : RdV w A n c (xs.map (.int k)) := by
  obtain ⟨h1, h2, h3, h4, h5, h6⟩ := h
  refine ⟨by simpa using h1, h2, h3, h4, ?_, fun hn => ?_⟩
  · intro v hv
    obtain ⟨x, _, rfl⟩ := List.mem_map.1 hv
    rfl
  · obtain ⟨g, o, e, hg, hx⟩ := h6 hn
    refine ⟨g, o, e, hg, fun i hi => ?_⟩
    rw [hx i hi, List.getElem?_map, List.getElem?_eq_getElem (by omega)]
    simp [show i < xs.length from by omega]
theorem RdV.st (h : RdV w A n c vs) {F : Nat → Prop} (hs : St F w w') (hA : 0 < n → ∀ ad, A = some ad → ¬ F ad.block) : RdV w' A n c vs := by
  obtain ⟨h1, h2, h3, h4, h5, h6⟩ := h
  refine ⟨h1, h2, h3, h4, h5, fun hn => ?_⟩
  obtain ⟨g, o, e, hg, hx⟩ := h6 hn
  exact ⟨g, o, e, by have := hs.size; omega, fun i hi => (hs.cell (p := ⟨g, o + i, none⟩) hg (show ¬ F g from hA hn _ e)).trans (hx i hi)⟩
theorem RdV.below (h : RdV w A n c vs) (hb : Below w.heap.size w w') : RdV w' A n c vs := h.st (F := fun _ => False) (St.ext hb) (fun _ _ _ => id)
theorem RdV.alloc (h : RdV w A n c vs) (o : Obj) : RdV (w.alloc o) A n c vs := h.below ((Below.refl _ _).alloc (Nat.le_refl _) o)
theorem RdV.nil (w : World) : RdV w none 0 0 [] := ⟨rfl, Nat.le_refl _, Nat.zero_le _, fun _ => rfl, by simp, fun h => absurd h (by omega)⟩
theorem RdV.pre (h : RdV w A n c vs) {s : Nat} (hs : s ≤ n) : RdV w A s c (vs.take s) := by
  obtain ⟨h1, h2, h3, h4, h5, h6⟩ := h
  refine ⟨by simp; omega, by omega, h3, h4, fun x hx => h5 x (List.mem_of_mem_take hx), fun hn => ?_⟩
  obtain ⟨g, o, e, hg, hx⟩ := h6 (by omega)
  refine ⟨g, o, e, hg, fun i hi => ?_⟩
  rw [hx i (by omega), List.getElem?_take, if_pos hi]
theorem RdV.cell (h : RdV w A n c vs) {i : Nat} (hi : i < n) : ∃ g o, A = some ⟨g, o, none⟩ ∧ g < w.heap.size ∧ w.cell? ⟨g, o + i, none⟩ = vs[i]? := by
  obtain ⟨g, o, e, hg, hx⟩ := h.2.2.2.2.2 (by omega)
  exact ⟨g, o, e, hg, hx i hi⟩
theorem RdV.src {P : Program} {t e : TypeId} (ht : P.underlying t = some (.slice e)) (h : RdV w A n c vs) : Src P 1 t (.slice A n c) n vs w := by
  obtain ⟨h1, h2, h3, h4, h5, h6⟩ := h
  cases A with
  | none =>
    obtain rfl : c = 0 := h4 rfl
    obtain rfl : n = 0 := by omega
    obtain rfl : vs = [] := List.eq_nil_of_length_eq_zero h1
    exact Src.ofNil w ht 0
  | some a =>
    refine Src.ofSlice w ht a n c vs (by omega) ?_ h5
    intro j u hu
    have hj : j < vs.length := by
      rcases Nat.lt_or_ge j vs.length with h | h
      · exact h
      · rw [List.getElem?_eq_none h] at hu; cases hu
    obtain ⟨g, o, he, _, hx⟩ := h6 (by omega)
    injection he with he
    subst he
    have hadd : (⟨g, o, none⟩ : Addr).add j = ⟨g, o + j, none⟩ := by unfold Addr.add; split <;> simp_all
    rw [hadd, hx j (by omega), hu]
end
/-- The slice (A, n, c) of elements of type e reads as vs, and lies, with all its room, in a block of F that is all of that type. -/
def Lst (e : TypeId) (F : Nat → Prop) (w : World) (A : Option Addr) (n c : Nat) (vs : List Value) : Prop :=
  vs.length = n ∧ n ≤ c ∧ c ≤ maxLen ∧ (∀ v ∈ vs, v.oneCell' = true) ∧
  ((A = none ∧ c = 0) ∨ ∃ g o cur, A = some ⟨g, o, none⟩ ∧ F g ∧ w.heap[g]? = some (.cells cur e (0, 0)) ∧ o + c ≤ cur.size ∧ ∀ i, i < n → cur[o + i]? = vs[i]?)
section
variable {e : TypeId} {F F' : Nat → Prop} {w w' : World} {A : Option Addr} {n c : Nat} {vs : List Value}
theorem Lst.nil (e : TypeId) (F : Nat → Prop) (w : World) : Lst e F w none 0 0 [] := ⟨rfl, Nat.le_refl _, Nat.zero_le _, by simp, .inl ⟨rfl, rfl⟩⟩
theorem Lst.mono (h : Lst e F w A n c vs) (hF : ∀ k, F k → F' k) : Lst e F' w A n c vs := by
  obtain ⟨h1, h2, h3, h4, h5⟩ := h
  refine ⟨h1, h2, h3, h4, ?_⟩
  rcases h5 with h5 | ⟨g, o, cur, hA, hf, r⟩
  · exact .inl h5
  · exact .inr ⟨g, o, cur, hA, hF g hf, r⟩
theorem Lst.rdv (h : Lst e F w A n c vs) : RdV w A n c vs := by
  obtain ⟨h1, h2, h3, h4, h5⟩ := h
  rcases h5 with ⟨rfl, rfl⟩ | ⟨g, o, cur, rfl, hf, hh, hs, hx⟩
  · obtain rfl : n = 0 := by omega
    obtain rfl : vs = [] := List.eq_nil_of_length_eq_zero h1
    exact RdV.nil w
  · exact ⟨h1, h2, h3, by simp, h4, fun hn => ⟨g, o, rfl, (Array.getElem?_eq_some_iff.1 hh).1, fun i hi => by rw [cell_of_row _ _ _ _ _ _ hh]; exact hx i hi⟩⟩
theorem Lst.blk (h : Lst e F w A n c vs) : ∀ ad, A = some ad → F ad.block ∧ ad.block < w.heap.size := by
  intro ad he
  rcases h.2.2.2.2 with ⟨rfl, rfl⟩ | ⟨g, o, cur, rfl, hf, hh, hs, hx⟩
  · cases he
  · injection he with he
    subst he
    exact ⟨hf, (Array.getElem?_eq_some_iff.1 hh).1⟩
theorem Lst.same (h : Lst e F w A n c vs) (hb : ∀ ad, A = some ad → w'.heap[ad.block]? = w.heap[ad.block]?) : Lst e F w' A n c vs := by
  obtain ⟨h1, h2, h3, h4, h5⟩ := h
  refine ⟨h1, h2, h3, h4, ?_⟩
  rcases h5 with h5 | ⟨g, o, cur, rfl, hf, hh, r⟩
  · exact .inl h5
  · exact .inr ⟨g, o, cur, rfl, hf, (hb _ rfl).trans hh, r⟩
theorem Lst.st (h : Lst e F w A n c vs) {G : Nat → Prop} (hs : St G w w') (hG : ∀ k, F k → ¬ G k) : Lst e F w' A n c vs :=
  h.same fun ad he => hs.block _ (h.blk ad he).2 (hG _ (h.blk ad he).1)
theorem Lst.below (h : Lst e F w A n c vs) (hb : Below w.heap.size w w') : Lst e F w' A n c vs := h.same fun ad he => hb.block _ (h.blk ad he).2
theorem Lst.alloc (h : Lst e F w A n c vs) (o : Obj) : Lst e F (w.alloc o) A n c vs := h.below ((Below.refl _ _).alloc (Nat.le_refl _) o)
theorem Lst.far (h : Lst e F w A n c vs) {p : Addr} (hp : ∀ ad, A = some ad → ad.block ≠ p.block) (x : Value) : Lst e F (w.setCell p x) A n c vs := h.same fun ad he => Below.heap_setCell w p x _ (hp ad he)
theorem Lst.made (w : World) (e : TypeId) (cur : Array Value) (n : Nat) (vs : List Value) (hv : vs.length = n) (hn : n ≤ cur.size) (hm : cur.size ≤ maxLen) (h1 : ∀ v ∈ vs, v.oneCell' = true) (hx : ∀ i, i < n → cur[i]? = vs[i]?) :
    Lst e (w.heap.size ≤ ·) (w.alloc (.cells cur e)) (some ⟨w.heap.size, 0, none⟩) n cur.size vs :=
  ⟨hv, hn, hm, h1, .inr ⟨w.heap.size, 0, cur, rfl, Nat.le_refl _, heap_alloc_new w _, by omega, fun i hi => by rw [Nat.zero_add]; exact hx i hi⟩⟩
end
theorem heap_setCells (g : Nat) (e : TypeId) (fz : Nat × Nat) : ∀ (vs : List Value) (o : Nat) (w : World) (cur : Array Value), w.heap[g]? = some (.cells cur e fz) → o + vs.length ≤ cur.size →
    ∃ cur', (w.setCells g o vs).heap[g]? = some (.cells cur' e fz) ∧ cur'.size = cur.size ∧ (∀ i, i < vs.length → cur'[o + i]? = vs[i]?) ∧ ∀ i, (i < o ∨ o + vs.length ≤ i) → cur'[i]? = cur[i]?
  | [], o, w, cur, h, _ => ⟨cur, h, rfl, by simp, fun _ _ => rfl⟩
  | v :: r, o, w, cur, h, hs => by
    simp only [List.length_cons] at hs
    obtain ⟨cur', h1, h2, h3, h4⟩ := heap_setCells g e fz r (o + 1) (w.setCell ⟨g, o, none⟩ v) (cur.set! o v) (by simp [World.setCell, Array.getElem?_modify, h]) (by simp; omega)
    refine ⟨cur', h1, by simpa using h2, fun i hi => ?_, fun i hi => ?_⟩
    · cases i with
      | zero =>
        rw [h4 (o + 0) (by omega)]
        simp only [Array.set!_eq_setIfInBounds, Array.getElem?_setIfInBounds]
        simp; omega
      | succ i =>
        simp only [List.length_cons] at hi
        rw [show o + (i + 1) = o + 1 + i from by omega, h3 i (by omega)]
        simp
    · simp only [List.length_cons] at hi
      rw [h4 i (by omega)]
      simp only [Array.set!_eq_setIfInBounds, Array.getElem?_setIfInBounds]
      rw [if_neg (by omega)]
theorem st_setCells (F : Nat → Prop) (g : Nat) (hg : F g) : ∀ (vs : List Value) (o : Nat) (w : World), St F w (w.setCells g o vs)
  | [], _, w => St.refl F w
  | v :: r, o, w => (St.setCell w (a := ⟨g, o, none⟩) hg v).trans (st_setCells F g hg r (o + 1) _) (Gr.refl _ _)
/-- The blocks at which the slice begins. -/
def BlkOf (A : Option Addr) (k : Nat) : Prop := ∃ ad, A = some ad ∧ ad.block = k
theorem Lst.tight {e : TypeId} {F : Nat → Prop} {w : World} {A : Option Addr} {n c : Nat} {vs : List Value} (h : Lst e F w A n c vs) : Lst e (BlkOf A) w A n c vs := by
  obtain ⟨h1, h2, h3, h4, h5⟩ := h
  refine ⟨h1, h2, h3, h4, ?_⟩
  rcases h5 with h5 | ⟨g, o, cur, rfl, hf, r⟩
  · exact .inl h5
  · exact .inr ⟨g, o, cur, rfl, ⟨_, rfl, rfl⟩, r⟩
/-- A slice of its own, just made. -/
def Made (e : TypeId) (vs : List Value) (w : World) (en : Ending) (w' : World) : Prop := ∃ A n c, en = .returned (.slice A n c) ∧ Lst e (w.heap.size ≤ ·) w' A n c vs ∧ Below w.heap.size w w'
/-- Nothing lies in both. -/
def Sep (F G : Nat → Prop) : Prop := ∀ k, F k → ¬ G k
theorem Sep.symm {F G : Nat → Prop} (h : Sep F G) : Sep G F := fun k hg hf => h k hf hg
theorem Sep.gr {F F' G : Nat → Prop} {n : Nat} (h : Sep F G) (g : Gr F F' n) (hG : ∀ k, G k → k < n) : Sep F' G := fun k hf hg => by
  rcases g k hf with h1 | h1
  · exact h k h1 hg
  · have := hG k hg; omega
theorem Sep.mono {F F' G : Nat → Prop} (h : Sep F G) (hF : ∀ k, F' k → F k) : Sep F' G := fun k hf => h k (hF k hf)
theorem sep_lt {F G : Nat → Prop} {n : Nat} (hF : ∀ k, F k → n ≤ k) (hG : ∀ k, G k → k < n) : Sep F G := fun k hf hg => by have := hF k hf; have := hG k hg; omega
theorem Lst.lt {e : TypeId} {F : Nat → Prop} {w : World} {A : Option Addr} {n c : Nat} {vs : List Value} (h : Lst e F w A n c vs) : ∀ k, BlkOf A k → k < w.heap.size := by
  rintro k ⟨ad, he, rfl⟩
  exact (h.blk ad he).2
theorem Lst.gr {e : TypeId} {F : Nat → Prop} {w : World} {A' : Option Addr} {m n c : Nat} {vs : List Value} (h : Lst e (fun k => F k ∨ m ≤ k) w A' n c vs) : Gr F (BlkOf A') m := by
  rintro k ⟨ad, he, rfl⟩
  exact (h.blk ad he).1
/-- What an append leaves: the list longer, in the same block or in a new one. -/
structure Apd (e : TypeId) (F : Nat → Prop) (w : World) (v : Value) (vs : List Value) (w' : World) : Prop where
  ex : ∃ A n c, v = .slice A n c ∧ Lst e (fun k => F k ∨ w.heap.size ≤ k) w' A n c vs
  st : St F w w'
section
variable {P : Program} {w : World} {t e : TypeId} {z : Value} {bytes : Nat} {F : Nat → Prop} {A B : Option Addr} {n c m d : Nat} {vs us : List Value}
theorem zeroCells_size (z : Array Value) (n : Nat) : (Builtin.zeroCells z n).size = n * z.size := by simp [Builtin.zeroCells]
theorem zeroCells_one (E : Elt P t e z bytes) (n : Nat) : Builtin.zeroCells z.cells n = Array.replicate n z := by
  apply Array.ext'
  rw [E.hz]
  simp only [Builtin.zeroCells, List.size_toArray, List.length_cons, List.length_nil, Nat.zero_add, Nat.mul_one]
  apply List.ext_getElem
  · simp
  · intro i h1 h2
    simp [Nat.mod_one]
theorem run_append_lst (E : Elt P t e z bytes) (ty : TypeId) (h : Lst e F w A n c vs) (hu : RdV w B m d us) (hlen : (n + m) * bytes ≤ 140737488355328) :
    ∃ v w', (Builtin.append_ #[t, t] ty #[.slice A n c, .slice B m d]).run P w = .ok v w' ∧ Apd e F w v (vs ++ us) w' := by
  obtain ⟨i, hi, hz, hsz, hby⟩ := info_parts E.hi
  have hmax : n + m ≤ maxLen := by
    have : (n + m) * 1 ≤ (n + m) * bytes := Nat.mul_le_mul_left _ E.hb
    simp only [maxLen]; omega
  have hsrc := hu.src E.ht
  have hsrc' : Src P i.size t (.slice B m d) m us w := by rw [hsz]; exact hsrc
  have hrd := h.rdv
  have hul : us.length = m := hu.1
  have hone : ∀ v ∈ vs ++ us, v.oneCell' = true := fun v hv => by
    rcases List.mem_append.1 hv with h' | h'
    · exact h.2.2.2.1 v h'
    · exact hu.2.2.2.2.1 v h'
  by_cases hroom : n + m ≤ c
  · rcases h.2.2.2.2 with ⟨rfl, rfl⟩ | ⟨g, o, cur, rfl, hf, hh, hs, hx⟩
    · obtain rfl : n = 0 := by omega
      obtain rfl : m = 0 := by omega
      obtain rfl : us = [] := List.eq_nil_of_length_eq_zero hul
      obtain rfl : vs = [] := List.eq_nil_of_length_eq_zero h.1
      refine ⟨.slice none 0 0, w, ?_, ⟨⟨none, 0, 0, rfl, Lst.nil _ _ _⟩, St.refl _ _⟩⟩
      have h1 := hsrc'.len
      have h2 := hsrc'.cells
      simp [Builtin.append_, run_underlying E.ht, sizeOf, typeInfo, hi, h1, h2]
    · have hr := run_append_room_src (P := P) w t t ty e i E.ht hi g o n c (.slice B m d) m us hsrc' hroom
        (fun j hj => by rw [hsz, cell_of_row _ _ _ _ _ _ hh, Array.getElem?_eq_getElem (by omega)]; rfl)
        (fun j hj => by simp [World.frozen?, hh])
      rw [hsz, Nat.mul_one] at hr
      obtain ⟨cur', h1, h2, h3, h4⟩ := heap_setCells g e (0, 0) us (o + n) w cur hh (by omega)
      refine ⟨_, _, hr, ⟨⟨_, _, _, rfl, by rw [List.length_append, h.1, hul], hroom, h.2.2.1, hone, .inr ⟨g, o, cur', rfl, .inl hf, h1, by omega, fun j hj => ?_⟩⟩, st_setCells F g hf _ _ _⟩⟩
      by_cases hjn : j < n
      · rw [h4 (o + j) (by omega), hx j hjn, List.getElem?_append_left (by rw [h.1]; exact hjn)]
      · rw [show o + j = o + n + (j - n) from by omega, h3 (j - n) (by omega), List.getElem?_append_right (by rw [h.1]; omega), h.1]
  · have holds : (Builtin.firstCells i.size n (.slice A n c)).run P w.drew = .ok vs.toArray w.drew := by
      have := (hrd.src E.ht).cellsD
      rw [hsz]; exact this
    have hr := run_append_grow_src (P := P) w t t ty e i z E.ht hi hz A n c vs holds (.slice B m d) m us hsrc' (by omega) (by simp only [maxLen] at hmax; omega) (growslice_fits (by omega) (by rw [hby]; exact hlen))
    have hge := grownCap_ge w (n + m) c e
    have hcm : grownCap w (n + m) c e ≤ maxLen := grownCap_le_maxLen w (n + m) c e hmax
    have hcs : ((vs ++ us).toArray ++ Builtin.zeroCells z.cells (grownCap w (n + m) c e - (n + m))).size = grownCap w (n + m) c e := by
      rw [zeroCells_one E]; simp [h.1, hul]; omega
    have hl := Lst.made w.drew e ((vs ++ us).toArray ++ Builtin.zeroCells z.cells (grownCap w (n + m) c e - (n + m))) (n + m) (vs ++ us) (by rw [List.length_append, h.1, hul]) (by rw [hcs]; exact hge) (by rw [hcs]; exact hcm) hone
      (fun j hj => by rw [Array.getElem?_append_left (by simp [h.1, hul]; exact hj)]; simp)
    rw [hcs] at hl
    exact ⟨_, _, hr, ⟨⟨_, _, _, rfl, hl.mono fun k hk => .inr (by simpa using hk)⟩, ⟨rfl, rfl, rfl, by simp, fun k hk _ => heap_alloc_old w.drew _ hk⟩⟩⟩
theorem opwp_append_lst {ops : Array Oper} {o : Oper} {a : Act} {K : Act → World → Prop} {Q : Exit → Act → World → Prop} (E : Elt P t e z bytes) (hgd : o.guard = none) (s x : Operand)
    (ho : o.op = .call { callee := .builtin .append, args := #[s, x], argTypes := #[t, t] })
    (hs : a.eval s = .slice A n c) (h : Lst e F w A n c vs) (hx : a.eval x = .slice B m d) (hu : RdV w B m d us) (hlen : (n + m) * bytes ≤ 140737488355328)
    (hq : ∀ v w', Apd e F w v (vs ++ us) w' → K (a.put o.dst v) w') : if Region.wanted o (yielded ops a.tmps) = true then Oper.wp P o a w K Q else K (a.put o.dst undef) w := by
  obtain ⟨v, w', hrun, hap⟩ := run_append_lst E o.type h hu hlen
  rw [if_pos (by simp only [Region.wanted, hgd])]
  unfold Oper.wp execOp
  simp only [ho, resolve, invoke, builtin, Sem.run_bind, Sem.run_pure, Result.andThen_ok, List.map_toArray, List.map_cons, List.map_nil, hs, hx, hrun]
  exact hq v w' hap
/-- x[s:], x[:s], x[s:s+m]. -/
theorem Elt.run_cut (E : Elt P t e z bytes) (A : Option Addr) (n c s : Nat) (hs : s ≤ n) (hn : n ≤ c) (w : World) :
    (Instr.slice t (.slice A n c) (some (.int .i64 s)) none none).run P w = .ok (.slice (cutA A c s) (n - s) (c - s)) w := by
  obtain ⟨i, hi, hz, hsz, hby⟩ := info_parts E.hi
  have h1 := run_sliceBound (P := P) (w := w) .i64 s n .sliceB (by omega) (by omega)
  simp [Instr.slice, run_underlying E.ht, Instr.sliceBounds, h1, sizeOf, typeInfo, hi, hsz, cutA]
theorem Elt.run_pre (E : Elt P t e z bytes) (A : Option Addr) (n c s : Nat) (hs : s ≤ c) (hn : n ≤ c) (w : World) :
    (Instr.slice t (.slice A n c) none (some (.int .i64 s)) none).run P w = .ok (.slice A s c) w := by
  obtain ⟨i, hi, hz, hsz, hby⟩ := info_parts E.hi
  have h1 := run_sliceBound (P := P) (w := w) .i64 s c .sliceAcap (by omega) (by omega)
  have h2 := run_sliceBound (P := P) (w := w) .i64 0 s .sliceB (by omega) (by omega)
  have e2 : Option.map (fun x => Addr.add x 0) A = A := by
    cases A with
    | none => rfl
    | some x => simp [Addr.add]
  simp [Instr.slice, run_underlying E.ht, Instr.sliceBounds, h1, h2, sizeOf, typeInfo, hi, hsz, e2]
end
end Go.Proofs.Ytboclbanccfbjaa
namespace Go.Proofs.Ytboclbanccfbjaa
set_option linter.unusedSimpArgs false
set_option linter.unusedVariables false
open Go.RowKit Go.Shelf
/-- In P, a variable of type t is a row or a struct of m cells. -/
structure Row (P : Program) (t : TypeId) (m : Nat) : Prop where
  ht : ∃ d, P.underlying t = some d ∧ d.isRow = true
  hi : (P.info? t).map (·.size) = some m
section
variable {P : Program} {w w' : World} {t ty : TypeId} {g m : Nat} {vs : List Value}
theorem Bk.range (h : Bk w t g vs) (o : Nat) {cs : List Value} (hcs : (vs.drop o).take cs.length = cs) : w.rangeAt g o cs := fun j v hv => by
  refine h.cell (o + j) ?_
  rw [← hcs, List.getElem?_take] at hv
  split at hv
  · rw [List.getElem?_drop] at hv; exact hv
  · cases hv
theorem Bk.there (h : Bk w t g vs) (o : Nat) {n : Nat} (hn : o + n ≤ vs.length) : w.there g o n := fun j hj => by
  refine ⟨?_, h.free _⟩
  rw [h.cell (o + j) (List.getElem?_eq_getElem (by omega))]; rfl
theorem Row.load (R : Row P ty m) (h : Bk w t g vs) (o : Nat) {cs : List Value} (hm : cs.length = m) (hcs : (vs.drop o).take cs.length = cs) : (loadVar ty ⟨g, o, none⟩).run P w = .ok (.agg cs.toArray) w := by
  obtain ⟨d, h1, h2⟩ := R.ht
  exact run_loadVar_mid w g o ty cs d (h.range o hcs) h1 h2 (by rw [hm]; exact R.hi)
/-- What a row of cells leaves of a block. -/
def lay (vs : List Value) (o : Nat) (cs : List Value) : List Value := vs.take o ++ cs ++ vs.drop (o + cs.length)
theorem lay_len (vs : List Value) (o : Nat) (cs : List Value) (h : o + cs.length ≤ vs.length) : (lay vs o cs).length = vs.length := by simp [lay]; omega
theorem lay_all (vs cs : List Value) (h : cs.length = vs.length) : lay vs 0 cs = cs := by simp [lay, h]
theorem lay_in (vs : List Value) (o : Nat) (cs : List Value) (h : o + cs.length ≤ vs.length) {i : Nat} (hi : i < cs.length) : (lay vs o cs)[o + i]? = cs[i]? := by
  unfold lay
  rw [List.append_assoc, List.getElem?_append_right (by simp; omega), List.length_take, List.getElem?_append_left (by omega)]
  congr 1; omega
theorem lay_out (vs : List Value) (o : Nat) (cs : List Value) (h : o + cs.length ≤ vs.length) {i : Nat} (hi : i < o ∨ o + cs.length ≤ i) : (lay vs o cs)[i]? = vs[i]? := by
  unfold lay
  rw [List.append_assoc]
  rcases hi with hi | hi
  · rw [List.getElem?_append_left (by simp; omega), List.getElem?_take, if_pos hi]
  · rw [List.getElem?_append_right (by simp; omega), List.length_take, List.getElem?_append_right (by omega), List.getElem?_drop]
    congr 1; omega
theorem Bk.setCells (h : Bk w t g vs) (o : Nat) (cs : List Value) (hl : o + cs.length ≤ vs.length) : Bk (w.setCells g o cs) t g (lay vs o cs) := by
  unfold Bk at h ⊢
  obtain ⟨cur', h1, h2, h3, h4⟩ := heap_setCells g t (0, 0) cs o w vs.toArray h (by simpa using hl)
  rw [h1]
  congr 2
  apply Array.ext_getElem?
  intro i
  rcases (by omega : (o ≤ i ∧ i < o + cs.length) ∨ (i < o ∨ o + cs.length ≤ i)) with hi | hi
  · obtain ⟨j, rfl⟩ := Nat.exists_eq_add_of_le hi.1
    rw [h3 j (by omega), List.getElem?_toArray, lay_in vs o cs hl (by omega)]
  · rw [h4 i hi, List.getElem?_toArray, List.getElem?_toArray, lay_out vs o cs hl hi]
theorem Wr.setCells (g o : Nat) (cs : List Value) (w : World) : Wr g w (w.setCells g o cs) := by
  have h := st_setCells (· = g) g rfl cs o w
  exact ⟨h.os, h.tape, h.output, h.size, fun k hk hn => h.block k hk fun e => hn (by rw [e])⟩
section
variable {ops : Array Oper} {rest : List Oper} {op : Oper} {a : Act} {Q : Exit → Act → World → Prop}
theorem wpList_load_bk (R : Row P ty m) (hgd : op.guard = none) (x : Operand) (ho : op.op = .load ty x) (g o : Nat) (hx : a.eval x = .pointer (some ⟨g, o, none⟩)) (h : Bk w t g vs) (cs : List Value) (hm : cs.length = m)
    (hcs : (vs.drop o).take cs.length = cs) (hq : wpList P ops Q rest (a.put op.dst (.agg cs.toArray)) w) : wpList P ops Q (op :: rest) a w := by
  obtain ⟨d, h1, h2⟩ := R.ht
  exact wpList_load_mid hgd ty x ho g o hx cs d (h.range o hcs) h1 h2 (by rw [hm]; exact R.hi) hq
theorem wpList_store_bk (R : Row P ty m) (hgd : op.guard = none) (x y : Operand) (ho : op.op = .store ty x y) (g o : Nat) (hx : a.eval x = .pointer (some ⟨g, o, none⟩)) (h : Bk w t g vs) (cs : List Value) (hy : a.eval y = .agg cs.toArray) (hm : cs.length = m)
    (hl : o + m ≤ vs.length) (h1 : ∀ v ∈ cs, v.oneCell' = true) (hq : ∀ w', Bk w' t g (lay vs o cs) → Wr g w w' → wpList P ops Q rest (a.put op.dst undef) w') : wpList P ops Q (op :: rest) a w :=
  wpList_store_mid hgd ty x y ho g o cs.toArray hx hy (h.there o (by simpa [hm] using hl)) (by simp only [List.size_toArray, hm]; exact R.hi) (all_oneCell_toArray h1)
    (hq _ (h.setCells o cs (by omega)) (Wr.setCells g o cs w))
end
/-- Guards of a walk's arms: the goal is a load of this, a store of that. -/
theorem at_load {ops : Array Oper} {rest : List Oper} {op : Oper} {a : Act} {Q : Exit → Act → World → Prop} (ty : TypeId) (x : Operand) (ho : op.op = .load ty x) (h : wpList P ops Q (op :: rest) a w) : wpList P ops Q (op :: rest) a w := h
theorem at_store {ops : Array Oper} {rest : List Oper} {op : Oper} {a : Act} {Q : Exit → Act → World → Prop} (ty : TypeId) (x y : Operand) (ho : op.op = .store ty x y) (h : wpList P ops Q (op :: rest) a w) : wpList P ops Q (op :: rest) a w := h
theorem exec_load_bk {op : Oper} {a : Act} (R : Row P ty m) (x : Operand) (ho : op.op = .load ty x) (g o : Nat) (hx : a.eval x = .pointer (some ⟨g, o, none⟩)) (h : Bk w t g vs) (cs : List Value) (hm : cs.length = m)
    (hcs : (vs.drop o).take cs.length = cs) : (execOp a.eval op).run P w = .ok (.value (.agg cs.toArray)) w := by
  unfold execOp
  simp only [ho, hx, Instr.loadAt, Instr.sureAddr, Sem.run_bind, Sem.run_pure, Result.andThen_ok, R.load h o hm hcs]
theorem asAddr_some {a : Addr} : (asAddr (.pointer (some a))).run P w = .ok a w := by simp [asAddr]
theorem results_cell {fn : Func} {s : Tmp} (h : fn.results = #[.cell s ty]) {tmps : Array Value} {a : Addr} (ha : tmps.getD s undef = .pointer (some a)) {v : Value} (hl : (loadVar ty a).run P w = .ok v w) :
    (results fn tmps).run P w = .ok v w := by
  rw [Array.getD_eq_getD_getElem?] at ha
  simp [results, h, ha, asAddr_some, hl]
theorem results_cell_tmp {fn : Func} {s u : Tmp} (h : fn.results = #[.cell s ty, .tmp u]) {tmps : Array Value} {a : Addr} (ha : tmps.getD s undef = .pointer (some a)) {v : Value} (hl : (loadVar ty a).run P w = .ok v w) :
    (results fn tmps).run P w = .ok (.tuple #[v, tmps.getD u undef]) w := by
  rw [Array.getD_eq_getD_getElem?] at ha
  simp [results, h, ha, asAddr_some, hl]
/-- In P, t is an array of n elements of type e, which are one cell each. -/
structure ArrE (P : Program) (t e : TypeId) (n : Nat) : Prop where
  ht : P.underlying t = some (.array n e)
  he : ∃ d, P.underlying e = some d ∧ d.isRow = false
  hi : (P.info? e).map (·.size) = some 1
theorem ArrE.index {e : TypeId} {n : Nat} (E : ArrE P t e n) (cs : Array Value) (k : Nat) (hk : k < n) (v : Value) (hv : cs[k]? = some v) : (Instr.index t (.agg cs) (.int .i64 k)).run P w = .ok v w := by
  obtain ⟨d, h1, h2⟩ := E.he
  have hagg : (isAgg e).run P w = .ok false w := by
    unfold isAgg
    rw [Sem.run_bind, run_underlying h1 w]
    cases d <;> simp_all
  cases hq : P.info? e with
  | none => have := E.hi; simp [hq] at this
  | some i =>
    have hs : i.size = 1 := by have := E.hi; simpa [hq] using this
    have hk' : (0 : Int) ≤ k ∧ (k : Int) < n := by omega
    simp [Instr.index, asIntOf, run_underlying E.ht, hk', sizeOf, typeInfo, hq, hs, part, hagg, hv]
    omega
theorem ArrE.part {e : TypeId} {n : Nat} (E : ArrE P t e n) {cs : Array Value} {k : Nat} {v : Value} (hv : cs[k]? = some v) : (part e cs (k * P.cellsOf e)).run P w = .ok v w := by
  obtain ⟨d, h1, h2⟩ := E.he
  have hagg : (isAgg e).run P w = .ok false w := by
    unfold isAgg
    rw [Sem.run_bind, run_underlying h1 w]
    cases d <;> simp_all
  have h1' : P.cellsOf e = 1 := by
    have := E.hi
    unfold Program.cellsOf
    cases hq : P.info? e with
    | none => simp [hq] at this
    | some i => simpa [hq] using this
  rw [h1', Nat.mul_one]
  simp [Go.part, hagg, hv]
/-- Two arrays are compared: their elements, one by one. -/
theorem ArrE.eqItems {α : Type} [DecidableEq α] {e : TypeId} {n dd : Nat} (E : ArrE P t e n) (f : α → Value) (hf : ∀ a b, (Op.equalIn dd e (f a) (f b)).run P w = .ok (decide (a = b)) w) (xs ys : List α) :
    ∀ (m k : Nat), k + m ≤ xs.length → k + m ≤ ys.length → (Op.eqItems dd e (P.cellsOf e) (xs.map f).toArray (ys.map f).toArray (List.range' k m)).run P w = .ok (decide ((xs.drop k).take m = (ys.drop k).take m)) w
  | 0, k, _, _ => by simp [Op.eqItems]
  | m + 1, k, hx, hy => by
    have ih := E.eqItems f hf xs ys m (k + 1) (by omega) (by omega)
    have h1 := E.part (w := w) (cs := (xs.map f).toArray) (k := k) (v := f xs[k]) (by simp; exact ⟨_, List.getElem?_eq_getElem (by omega), rfl⟩)
    have h2 := E.part (w := w) (cs := (ys.map f).toArray) (k := k) (v := f ys[k]) (by simp; exact ⟨_, List.getElem?_eq_getElem (by omega), rfl⟩)
    rw [List.range'_succ]
    simp only [Op.eqItems, Sem.run_bind, h1, h2, hf, Result.andThen_ok]
    rw [List.drop_eq_getElem_cons (show k < xs.length by omega), List.drop_eq_getElem_cons (show k < ys.length by omega), List.take_succ_cons, List.take_succ_cons]
    by_cases hxy : xs[k] = ys[k]
    · simp only [hxy, decide_true, Bool.not_true, Bool.false_eq_true, if_false, List.cons.injEq, true_and]
      exact ih
    · simp [hxy, Sem.run_pure]
theorem ArrE.neq {α : Type} [DecidableEq α] {e : TypeId} {n : Nat} (E : ArrE P t e n) (f : α → Value) (hf : ∀ a b, (Op.equalIn 9999 e (f a) (f b)).run P w = .ok (decide (a = b)) w) (xs ys : List α) (hx : xs.length = n) (hy : ys.length = n) :
    (binOp .neq t (.agg (xs.map f).toArray) (.agg (ys.map f).toArray)).run P w = .ok (.bool (!decide (xs = ys))) w := by
  have hi : ∃ i, P.info? e = some i := by
    have := E.hi
    cases hq : P.info? e with
    | none => simp [hq] at this
    | some i => exact ⟨i, rfl⟩
  obtain ⟨i, hi⟩ := hi
  have h := E.eqItems f hf xs ys n 0 (by omega) (by omega)
  rw [List.drop_zero, List.drop_zero, List.take_of_length_le (by omega), List.take_of_length_le (by omega), ← List.range_eq_range'] at h
  rw [run_neq_struct]
  have h2 := run_equalIn_array (P := P) w 9999 (xs.map f).toArray (ys.map f).toArray E.ht hi
  rw [h] at h2
  rw [h2]
  rfl
theorem ArrE.eql {α : Type} [DecidableEq α] {e : TypeId} {n : Nat} (E : ArrE P t e n) (f : α → Value) (hf : ∀ a b, (Op.equalIn 9999 e (f a) (f b)).run P w = .ok (decide (a = b)) w) (xs ys : List α) (hx : xs.length = n) (hy : ys.length = n) :
    (binOp .eql t (.agg (xs.map f).toArray) (.agg (ys.map f).toArray)).run P w = .ok (.bool (decide (xs = ys))) w := by
  have hi : ∃ i, P.info? e = some i := by
    have := E.hi
    cases hq : P.info? e with
    | none => simp [hq] at this
    | some i => exact ⟨i, rfl⟩
  obtain ⟨i, hi⟩ := hi
  have h := E.eqItems f hf xs ys n 0 (by omega) (by omega)
  rw [List.drop_zero, List.drop_zero, List.take_of_length_le (by omega), List.take_of_length_le (by omega), ← List.range_eq_range'] at h
  rw [run_eql_struct]
  have h2 := run_equalIn_array (P := P) w 9999 (xs.map f).toArray (ys.map f).toArray E.ht hi
  rw [h] at h2
  rw [h2]
  rfl
theorem eq_int {e : TypeId} {k : IntKind} (he : P.underlying e = some (.int k)) (dd : Nat) (a b : Int) : (Op.equalIn (dd + 1) e (.int k a) (.int k b)).run P w = .ok (decide (a = b)) w := by
  simp only [run_equalIn_int w dd e k k a b he]
  by_cases h : a = b <;> simp [h]
theorem exec_cmp_agg {op : Oper} {a : Act} {bo : BinOp} {x y : Operand} {t' : TypeId} (ho : op.op = .binOp bo t x y t') (hg : P.eqGuardType P.depth t = false) {cs ds : Array Value} (hx : a.eval x = .agg cs) (hy : a.eval y = .agg ds) {b : Bool}
    (h : (binOp bo t (.agg cs) (.agg ds)).run P w = .ok (.bool b) w) : (execOp a.eval op).run P w = .ok (.value (.bool b)) w := by
  unfold execOp
  simp only [ho, hx, hy, Sem.run_bind, run_eqGuard_agg w bo t x y cs ds hg, Result.andThen_ok, h, Sem.run_pure]
end
end Go.Proofs.Ytboclbanccfbjaa
namespace Go.Proofs.Ytboclbanccfbjaa
set_option linter.unusedSimpArgs false
set_option linter.unusedVariables false
open Go.RowKit Go.Shelf
/-- The integers f 0 .. f (m - 1). -/
def tabI (m : Nat) (f : Nat → Int) : List Int := (List.range m).map f
def tabV (m : Nat) (f : Nat → Int) : List Value := (tabI m f).map (.int .i64)
def up (f : Nat → Int) (k : Nat) (v : Int) : Nat → Int := fun i => if i = k then v else f i
theorem up_at (f : Nat → Int) (k : Nat) (v : Int) : up f k v k = v := by simp [up]
theorem up_ne (f : Nat → Int) {k i : Nat} (v : Int) (h : i ≠ k) : up f k v i = f i := by simp [up, h]
theorem tabV_len (m : Nat) (f : Nat → Int) : (tabV m f).length = m := by simp [tabV, tabI]
theorem tabV_get (m : Nat) (f : Nat → Int) {i : Nat} (h : i < m) : (tabV m f)[i]? = some (.int .i64 (f i)) := by simp [tabV, tabI, h]
theorem tabV_one (m : Nat) (f : Nat → Int) : ∀ v ∈ tabV m f, v.oneCell' = true := by
  intro v hv
  obtain ⟨b, _, rfl⟩ := List.mem_map.1 hv
  rfl
theorem tabV_ext {l : List Value} {m : Nat} {f : Nat → Int} (hl : l.length = m) (h : ∀ i, i < m → l[i]? = some (.int .i64 (f i))) : l = tabV m f := by
  apply List.ext_getElem?
  intro i
  by_cases hi : i < m
  · rw [h i hi, tabV_get _ _ hi]
  · rw [List.getElem?_eq_none (by omega), List.getElem?_eq_none (by rw [tabV_len]; omega)]
theorem tabV_set (m : Nat) (f : Nat → Int) (k : Nat) (x : Int) : (tabV m f).set k (.int .i64 x) = tabV m (up f k x) := by
  refine tabV_ext (by simp [tabV_len]) fun i hi => ?_
  rw [List.getElem?_set]
  by_cases h : k = i
  · subst h
    rw [if_pos rfl, if_pos (by rw [tabV_len]; exact hi), up_at]
  · rw [if_neg h, tabV_get _ _ hi, up_ne _ _ (Ne.symm h)]
/-- A row is stored, at one operation of a drawn region. -/
theorem opwp_store_bk {P : Program} {w : World} {t ty : TypeId} {m : Nat} {vs : List Value} {ops : Array Oper} {op : Oper} {a : Act} {K : Act → World → Prop} {Q : Exit → Act → World → Prop} (R : Row P ty m) (hgd : op.guard = none) (x y : Operand)
    (ho : op.op = .store ty x y) (g o : Nat) (hx : a.eval x = .pointer (some ⟨g, o, none⟩)) (h : Bk w t g vs) (cs : List Value) (hy : a.eval y = .agg cs.toArray) (hm : cs.length = m)
    (hl : o + m ≤ vs.length) (h1 : ∀ v ∈ cs, v.oneCell' = true) (hq : ∀ w', Bk w' t g (lay vs o cs) → Wr g w w' → K (a.put op.dst undef) w') :
    if Region.wanted op (yielded ops a.tmps) = true then Oper.wp P op a w K Q else K (a.put op.dst undef) w := by
  rw [if_pos (by simp only [Region.wanted, hgd])]
  exact wp_store_mid ty x y ho g o cs.toArray hx hy (h.there o (by simpa [hm] using hl)) (by simp only [List.size_toArray, hm]; exact R.hi) (all_oneCell_toArray h1)
    (hq _ (h.setCells o cs (by omega)) (Wr.setCells g o cs w))
section
variable {P : Program} {w : World} {t e : TypeId} {sz bytes g n c : Nat} {f : Nat → Int} {tl : List Value}
end
end Go.Proofs.Ytboclbanccfbjaa
namespace Go.Proofs.Ytboclbanccfbjaa
set_option linter.unusedSimpArgs false
set_option linter.unusedVariables false
open Go.RowKit Go.Shelf
section
variable {α : Type} {cl : α → List Value} {sz : Nat}
/-- The cells of a list of rows. -/
def flat (cl : α → List Value) (qs : List α) : List Value := qs.flatMap cl
theorem flat_app (a b : List α) : flat cl (a ++ b) = flat cl a ++ flat cl b := by simp [flat]
theorem flat_one (q : α) : flat cl [q] = cl q := by simp [flat]
theorem flat_len (h : ∀ a, (cl a).length = sz) : ∀ qs : List α, (flat cl qs).length = qs.length * sz
  | [] => by simp [flat]
  | q :: r => by
    have ih := flat_len h r
    simp only [flat, List.flatMap_cons, List.length_append, List.length_cons, h] at ih ⊢
    rw [ih, Nat.add_mul, Nat.one_mul, Nat.add_comm]
theorem flat_drop (h : ∀ a, (cl a).length = sz) (qs : List α) (s : Nat) (hs : s ≤ qs.length) : flat cl (qs.drop s) = (flat cl qs).drop (s * sz) := by
  have e : flat cl qs = flat cl (qs.take s) ++ flat cl (qs.drop s) := by rw [← flat_app, List.take_append_drop]
  have hl : (flat cl (qs.take s)).length = s * sz := by rw [flat_len h, List.length_take, Nat.min_eq_left hs]
  rw [e, ← hl, List.drop_left]
theorem flat_row (h : ∀ a, (cl a).length = sz) (qs : List α) (i : Nat) (hi : i < qs.length) : ((flat cl qs).drop (i * sz)).take sz = cl qs[i] := by
  rw [← flat_drop h qs i (Nat.le_of_lt hi), List.drop_eq_getElem_cons hi]
  show (cl qs[i] ++ _).take sz = _
  rw [← h qs[i], List.take_left]
theorem flat_wf (h : ∀ a, ∀ v ∈ cl a, v.oneCell' = true) (qs : List α) : ∀ v ∈ flat cl qs, v.oneCell' = true := by
  intro v hv
  obtain ⟨a, _, ha⟩ := List.mem_flatMap.1 hv
  exact h a v ha
theorem flat_set (h : ∀ a, (cl a).length = sz) (qs : List α) (i : Nat) (hi : i < qs.length) (q : α) : flat cl (qs.set i q) = lay (flat cl qs) (i * sz) (cl q) := by
  have e : qs = qs.take i ++ (qs[i] :: qs.drop (i + 1)) := by rw [← List.drop_eq_getElem_cons hi, List.take_append_drop]
  have hl : (flat cl (qs.take i)).length = i * sz := by rw [flat_len h, List.length_take, Nat.min_eq_left (Nat.le_of_lt hi)]
  have hf : flat cl qs = flat cl (qs.take i) ++ (cl qs[i] ++ flat cl (qs.drop (i + 1))) := by
    conv => lhs; rw [e]
    rw [flat_app]; rfl
  have h1 : (flat cl qs).take (i * sz) = flat cl (qs.take i) := by rw [hf, ← hl, List.take_left]
  have h2 : (flat cl qs).drop (i * sz + (cl q).length) = flat cl (qs.drop (i + 1)) := by
    rw [h q, hf, ← List.drop_drop, ← hl, List.drop_left, ← h qs[i], List.drop_left]
  rw [List.set_eq_take_append_cons_drop, if_pos hi, flat_app]
  unfold lay
  rw [h1, h2, List.append_assoc]
  rfl
/-- The slice (A, n, c) of elements of sz cells reads in w as the cells cs. -/
def RdR (sz : Nat) (w : World) (A : Option Addr) (n c : Nat) (cs : List Value) : Prop :=
  cs.length = n * sz ∧ n ≤ c ∧ c ≤ maxLen ∧ (A = none → c = 0) ∧ (∀ v ∈ cs, v.oneCell' = true) ∧
  (0 < n → ∃ g o, A = some ⟨g, o, none⟩ ∧ g < w.heap.size ∧ ∀ i, i < n * sz → w.cell? ⟨g, o + i, none⟩ = cs[i]?)
section
variable {w w' : World} {A : Option Addr} {n c : Nat} {cs : List Value}
theorem RdR.st (h : RdR sz w A n c cs) {F : Nat → Prop} (hs : St F w w') (hA : 0 < n → ∀ ad, A = some ad → ¬ F ad.block) : RdR sz w' A n c cs := by
  obtain ⟨h1, h2, h3, h4, h5, h6⟩ := h
  refine ⟨h1, h2, h3, h4, h5, fun hn => ?_⟩
  obtain ⟨g, o, e, hg, hx⟩ := h6 hn
  exact ⟨g, o, e, by have := hs.size; omega, fun i hi => (hs.cell (p := ⟨g, o + i, none⟩) hg (show ¬ F g from hA hn _ e)).trans (hx i hi)⟩
theorem RdR.below (h : RdR sz w A n c cs) (hb : Below w.heap.size w w') : RdR sz w' A n c cs := h.st (F := fun _ => False) (St.ext hb) (fun _ _ _ => id)
theorem RdR.alloc (h : RdR sz w A n c cs) (o : Obj) : RdR sz (w.alloc o) A n c cs := h.below ((Below.refl _ _).alloc (Nat.le_refl _) o)
theorem RdR.blk (h : RdR sz w A n c cs) : 0 < n → ∀ ad, A = some ad → ad.block < w.heap.size := fun hn ad he => by
  obtain ⟨g, o, e, hg, _⟩ := h.2.2.2.2.2 hn
  rw [e] at he
  injection he with he
  subst he
  exact hg
theorem RdR.nil (sz : Nat) (w : World) : RdR sz w none 0 0 [] := ⟨by simp, Nat.le_refl _, Nat.zero_le _, fun _ => rfl, by simp, fun h => absurd h (by omega)⟩
theorem RdR.one (w : World) (e : TypeId) (cs : List Value) (hx : ∀ v ∈ cs, v.oneCell' = true) : RdR cs.length (w.alloc (.cells cs.toArray e)) (some ⟨w.heap.size, 0, none⟩) 1 1 cs := by
  refine ⟨by simp, Nat.le_refl _, by decide, by simp, hx, fun _ => ⟨w.heap.size, 0, rfl, by simp, fun i hi => ?_⟩⟩
  rw [cell_of_row _ _ _ _ _ _ (heap_alloc_new w _)]
  simp
/-- Where x[s:] of a slice of elements of sz cells begins. -/
def cutR (A : Option Addr) (c s sz : Nat) : Option Addr := if c = s then A else A.map (·.add (s * sz))
theorem RdR.cut (h : RdR sz w A n c cs) {s : Nat} (hs : s ≤ n) : RdR sz w (cutR A c s sz) (n - s) (c - s) (cs.drop (s * sz)) := by
  unfold cutR
  obtain ⟨h1, h2, h3, h4, h5, h6⟩ := h
  have hm : s * sz ≤ n * sz := Nat.mul_le_mul_right _ hs
  refine ⟨by rw [List.length_drop, h1, Nat.sub_mul], by omega, by omega, ?_, fun x hx => h5 x (List.mem_of_mem_drop hx), fun hn => ?_⟩
  · split
    · omega
    · intro he
      have : A = none := by simpa using he
      have := h4 this
      omega
  · obtain ⟨g, o, rfl, hg, hx⟩ := h6 (by omega)
    rw [if_neg (by omega)]
    refine ⟨g, o + s * sz, by simp [Addr.add], hg, fun i hi => ?_⟩
    rw [Nat.sub_mul] at hi
    rw [show o + s * sz + i = o + (s * sz + i) from by omega, hx (s * sz + i) (by omega), List.getElem?_drop]
theorem RdR.src {P : Program} {t e : TypeId} (ht : P.underlying t = some (.slice e)) (h : RdR sz w A n c cs) : Src P sz t (.slice A n c) n cs w := by
  obtain ⟨h1, h2, h3, h4, h5, h6⟩ := h
  by_cases hn : 0 < n
  · obtain ⟨g, o, rfl, _, hx⟩ := h6 hn
    refine Src.ofSlice w ht _ n c cs h1 ?_ h5
    intro j u hu
    have hj : j < cs.length := by
      rcases Nat.lt_or_ge j cs.length with h | h
      · exact h
      · rw [List.getElem?_eq_none h] at hu; cases hu
    have hadd : (⟨g, o, none⟩ : Addr).add j = ⟨g, o + j, none⟩ := by unfold Addr.add; split <;> simp_all
    rw [hadd, hx j (by omega), hu]
  · obtain rfl : n = 0 := by omega
    rw [Nat.zero_mul] at h1
    obtain rfl : cs = [] := List.eq_nil_of_length_eq_zero h1
    cases A with
    | none => exact Src.ofNil w ht c
    | some a => exact Src.ofSlice w ht a 0 c [] (by simp) (by simp) (by simp)
/-- The cells of row i. -/
theorem RdR.range (h : RdR sz w A n c cs) {i : Nat} (hi : i < n) : ∃ g o, A = some ⟨g, o, none⟩ ∧ g < w.heap.size ∧ w.rangeAt g (o + i * sz) ((cs.drop (i * sz)).take sz) := by
  obtain ⟨h1, h2, h3, h4, h5, h6⟩ := h
  obtain ⟨g, o, e, hg, hx⟩ := h6 (by omega)
  have hm : (i + 1) * sz ≤ n * sz := Nat.mul_le_mul_right _ hi
  rw [Nat.add_mul, Nat.one_mul] at hm
  refine ⟨g, o, e, hg, fun j v hv => ?_⟩
  rw [List.getElem?_take] at hv
  split at hv
  · rename_i hj
    rw [List.getElem?_drop] at hv
    rw [Nat.add_assoc, hx _ (by omega), hv]
  · cases hv
end
/-- The slice (A, n, c) of elements of type e, sz cells each, reads as cs, and lies, with all its room, in a block of F that is all of that type. -/
def LstR (sz : Nat) (e : TypeId) (F : Nat → Prop) (w : World) (A : Option Addr) (n c : Nat) (cs : List Value) : Prop :=
  cs.length = n * sz ∧ n ≤ c ∧ c ≤ maxLen ∧ (∀ v ∈ cs, v.oneCell' = true) ∧
  ((A = none ∧ c = 0) ∨ ∃ g o cur, A = some ⟨g, o, none⟩ ∧ F g ∧ w.heap[g]? = some (.cells cur e (0, 0)) ∧ o + c * sz ≤ cur.size ∧ ∀ i, i < n * sz → cur[o + i]? = cs[i]?)
section
variable {e : TypeId} {F F' : Nat → Prop} {w w' : World} {A : Option Addr} {n c : Nat} {cs : List Value}
theorem LstR.nil (sz : Nat) (e : TypeId) (F : Nat → Prop) (w : World) : LstR sz e F w none 0 0 [] := ⟨by simp, Nat.le_refl _, Nat.zero_le _, by simp, .inl ⟨rfl, rfl⟩⟩
theorem LstR.mono (h : LstR sz e F w A n c cs) (hF : ∀ k, F k → F' k) : LstR sz e F' w A n c cs := by
  obtain ⟨h1, h2, h3, h4, h5⟩ := h
  refine ⟨h1, h2, h3, h4, ?_⟩
  rcases h5 with h5 | ⟨g, o, cur, hA, hf, r⟩
  · exact .inl h5
  · exact .inr ⟨g, o, cur, hA, hF g hf, r⟩
theorem LstR.rd (h : LstR sz e F w A n c cs) : RdR sz w A n c cs := by
  obtain ⟨h1, h2, h3, h4, h5⟩ := h
  rcases h5 with ⟨rfl, rfl⟩ | ⟨g, o, cur, rfl, hf, hh, hs, hx⟩
  · obtain rfl : n = 0 := by omega
    exact ⟨h1, h2, h3, fun _ => rfl, h4, fun h => absurd h (by omega)⟩
  · exact ⟨h1, h2, h3, by simp, h4, fun hn => ⟨g, o, rfl, (Array.getElem?_eq_some_iff.1 hh).1, fun i hi => by rw [cell_of_row _ _ _ _ _ _ hh]; exact hx i hi⟩⟩
theorem LstR.blk (h : LstR sz e F w A n c cs) : ∀ ad, A = some ad → F ad.block ∧ ad.block < w.heap.size := by
  intro ad he
  rcases h.2.2.2.2 with ⟨rfl, rfl⟩ | ⟨g, o, cur, rfl, hf, hh, hs, hx⟩
  · cases he
  · injection he with he
    subst he
    exact ⟨hf, (Array.getElem?_eq_some_iff.1 hh).1⟩
theorem LstR.same (h : LstR sz e F w A n c cs) (hb : ∀ ad, A = some ad → w'.heap[ad.block]? = w.heap[ad.block]?) : LstR sz e F w' A n c cs := by
  obtain ⟨h1, h2, h3, h4, h5⟩ := h
  refine ⟨h1, h2, h3, h4, ?_⟩
  rcases h5 with h5 | ⟨g, o, cur, rfl, hf, hh, r⟩
  · exact .inl h5
  · exact .inr ⟨g, o, cur, rfl, hf, (hb _ rfl).trans hh, r⟩
theorem LstR.st (h : LstR sz e F w A n c cs) {G : Nat → Prop} (hs : St G w w') (hG : ∀ k, F k → ¬ G k) : LstR sz e F w' A n c cs :=
  h.same fun ad he => hs.block _ (h.blk ad he).2 (hG _ (h.blk ad he).1)
theorem LstR.below (h : LstR sz e F w A n c cs) (hb : Below w.heap.size w w') : LstR sz e F w' A n c cs := h.same fun ad he => hb.block _ (h.blk ad he).2
theorem LstR.alloc (h : LstR sz e F w A n c cs) (o : Obj) : LstR sz e F (w.alloc o) A n c cs := h.below ((Below.refl _ _).alloc (Nat.le_refl _) o)
theorem LstR.far (h : LstR sz e F w A n c cs) {p : Addr} (hp : ∀ ad, A = some ad → ad.block ≠ p.block) (x : Value) : LstR sz e F (w.setCell p x) A n c cs := h.same fun ad he => Below.heap_setCell w p x _ (hp ad he)
theorem LstR.cut (h : LstR sz e F w A n c cs) {s : Nat} (hs : s ≤ n) : LstR sz e F w (cutR A c s sz) (n - s) (c - s) (cs.drop (s * sz)) := by
  obtain ⟨h1, h2, h3, h4, h5⟩ := h
  have hm : s * sz ≤ n * sz := Nat.mul_le_mul_right _ hs
  have hm2 : n * sz ≤ c * sz := Nat.mul_le_mul_right _ h2
  refine ⟨by rw [List.length_drop, h1, Nat.sub_mul], by omega, by omega, fun x hx => h4 x (List.mem_of_mem_drop hx), ?_⟩
  unfold cutR
  rcases h5 with ⟨rfl, rfl⟩ | ⟨g, o, cur, rfl, hf, hh, hsz, hx⟩
  · exact .inl ⟨by split <;> rfl, by omega⟩
  · split
    · rename_i hcs
      subst hcs
      obtain rfl : n = c := by omega
      exact .inr ⟨g, o, cur, rfl, hf, hh, by simp; omega, fun i hi => by simp at hi⟩
    · refine .inr ⟨g, o + s * sz, cur, by simp [Addr.add], hf, hh, by rw [Nat.sub_mul]; omega, fun i hi => ?_⟩
      rw [Nat.sub_mul] at hi
      rw [show o + s * sz + i = o + (s * sz + i) from by omega, hx (s * sz + i) (by omega), List.getElem?_drop]
theorem LstR.made (sz : Nat) (w : World) (e : TypeId) (cur : Array Value) (n c : Nat) (cs : List Value) (hv : cs.length = n * sz) (hn : n ≤ c) (hc : c * sz ≤ cur.size) (hm : c ≤ maxLen) (h1 : ∀ v ∈ cs, v.oneCell' = true) (hx : ∀ i, i < n * sz → cur[i]? = cs[i]?) :
    LstR sz e (w.heap.size ≤ ·) (w.alloc (.cells cur e)) (some ⟨w.heap.size, 0, none⟩) n c cs :=
  ⟨hv, hn, hm, h1, .inr ⟨w.heap.size, 0, cur, rfl, Nat.le_refl _, heap_alloc_new w _, by omega, fun i hi => by rw [Nat.zero_add]; exact hx i hi⟩⟩
theorem LstR.tight (h : LstR sz e F w A n c cs) : LstR sz e (BlkOf A) w A n c cs := by
  obtain ⟨h1, h2, h3, h4, h5⟩ := h
  refine ⟨h1, h2, h3, h4, ?_⟩
  rcases h5 with h5 | ⟨g, o, cur, rfl, hf, r⟩
  · exact .inl h5
  · exact .inr ⟨g, o, cur, rfl, ⟨_, rfl, rfl⟩, r⟩
/-- Row i is there, and may be written. -/
theorem LstR.there {g o : Nat} (h : LstR sz e F w (some ⟨g, o, none⟩) n c cs) {i : Nat} (hi : i < n) : w.there g (o + i * sz) sz := by
  obtain ⟨h1, h2, h3, h4, h5⟩ := h
  have hm : (i + 1) * sz ≤ n * sz := Nat.mul_le_mul_right _ hi
  have hm2 : n * sz ≤ c * sz := Nat.mul_le_mul_right _ h2
  rw [Nat.add_mul, Nat.one_mul] at hm
  rcases h5 with ⟨h, _⟩ | ⟨g', o', cur, hA, hf, hh, hs, hc⟩
  · cases h
  · injection hA with hA
    injection hA with e1 e2 e3
    subst e1 e2
    intro j hj
    refine ⟨?_, by simp [World.frozen?, hh]⟩
    rw [cell_of_row _ _ _ _ _ _ hh, Array.getElem?_eq_getElem (by omega)]
    rfl
/-- Row i is written. -/
theorem LstR.lay {g o : Nat} (h : LstR sz e F w (some ⟨g, o, none⟩) n c cs) {i : Nat} (hi : i < n) {us : List Value} (hu : us.length = sz) (h1' : ∀ v ∈ us, v.oneCell' = true) :
    LstR sz e F (w.setCells g (o + i * sz) us) (some ⟨g, o, none⟩) n c (lay cs (i * sz) us) := by
  obtain ⟨h1, h2, h3, h4, h5⟩ := h
  have hm : (i + 1) * sz ≤ n * sz := Nat.mul_le_mul_right _ hi
  have hm2 : n * sz ≤ c * sz := Nat.mul_le_mul_right _ h2
  rw [Nat.add_mul, Nat.one_mul] at hm
  have hl : i * sz + us.length ≤ cs.length := by omega
  refine ⟨by rw [lay_len _ _ _ hl, h1], h2, h3, ?_, ?_⟩
  · intro v hv
    unfold Go.Proofs.Ytboclbanccfbjaa.lay at hv
    rw [List.mem_append, List.mem_append] at hv
    rcases hv with (hv | hv) | hv
    · exact h4 v (List.mem_of_mem_take hv)
    · exact h1' v hv
    · exact h4 v (List.mem_of_mem_drop hv)
  · rcases h5 with ⟨h, _⟩ | ⟨g', o', cur, hA, hf, hh, hs, hc⟩
    · cases h
    · injection hA with hA
      injection hA with e1 e2 e3
      subst e1 e2
      obtain ⟨cur', k1, k2, k3, k4⟩ := heap_setCells g e (0, 0) us (o + i * sz) w cur hh (by omega)
      refine .inr ⟨g, o, cur', rfl, hf, k1, by omega, fun j hj => ?_⟩
      rcases (by omega : (i * sz ≤ j ∧ j < i * sz + us.length) ∨ (j < i * sz ∨ i * sz + us.length ≤ j)) with hc1 | hc1
      · obtain ⟨q, rfl⟩ := Nat.exists_eq_add_of_le hc1.1
        rw [← Nat.add_assoc, k3 q (by omega), lay_in _ _ _ hl (by omega)]
      · rw [k4 (o + j) (by omega), hc j hj, lay_out _ _ _ hl hc1]
end
/-- In P, type t is a slice of type e, whose elements are rows, at first zs, of so many bytes. -/
structure EltS (P : Program) (t e : TypeId) (zs : List Value) (bytes : Nat) : Prop where
  ht : P.underlying t = some (.slice e)
  hi : (P.info? e).map (fun i => (i.zero, i.size, i.bytes)) = some (some (.agg zs.toArray), zs.length, bytes)
  h1 : ∀ v ∈ zs, v.oneCell' = true
  hs : 0 < zs.length
  hb : 0 < bytes
  hr : ∃ d, P.underlying e = some d ∧ d.isRow = true
  hm : zs.length ≤ 1000
/-- What an append leaves: the list longer, in the same block or in a new one. -/
structure ApdR (sz : Nat) (e : TypeId) (F : Nat → Prop) (w : World) (v : Value) (cs : List Value) (w' : World) : Prop where
  ex : ∃ A n c, v = .slice A n c ∧ LstR sz e (fun k => F k ∨ w.heap.size ≤ k) w' A n c cs
  st : St F w w'
section
variable {P : Program} {w : World} {t e : TypeId} {zs : List Value} {bytes : Nat} {F : Nat → Prop} {A B : Option Addr} {n c m d : Nat} {cs us : List Value}
theorem EltS.row (E : EltS P t e zs bytes) : Row P e zs.length := by
  obtain ⟨i, hi, hz, hsz, hby⟩ := info_parts E.hi
  exact ⟨E.hr, by rw [hi]; simp [hsz]⟩
theorem run_append_lstR (E : EltS P t e zs bytes) (ty : TypeId) (h : LstR zs.length e F w A n c cs) (hu : RdR zs.length w B m d us) (hlen : (n + m) * bytes ≤ 140737488355328) :
    ∃ v w', (Builtin.append_ #[t, t] ty #[.slice A n c, .slice B m d]).run P w = .ok v w' ∧ ApdR zs.length e F w v (cs ++ us) w' := by
  obtain ⟨i, hi, hz, hsz, hby⟩ := info_parts E.hi
  have hmax : n + m ≤ maxLen := by
    have : (n + m) * 1 ≤ (n + m) * bytes := Nat.mul_le_mul_left _ E.hb
    simp only [maxLen]; omega
  have hsrc' : Src P i.size t (.slice B m d) m us w := by rw [hsz]; exact hu.src E.ht
  have hrd := h.rd
  have hul : us.length = m * zs.length := hu.1
  have hone : ∀ v ∈ cs ++ us, v.oneCell' = true := fun v hv => by
    rcases List.mem_append.1 hv with h' | h'
    · exact h.2.2.2.1 v h'
    · exact hu.2.2.2.2.1 v h'
  have hlen' : (cs ++ us).length = (n + m) * zs.length := by rw [List.length_append, h.1, hul, Nat.add_mul]
  by_cases hroom : n + m ≤ c
  · have hm3 : (n + m) * zs.length ≤ c * zs.length := Nat.mul_le_mul_right _ hroom
    rw [Nat.add_mul] at hm3
    rcases h.2.2.2.2 with ⟨rfl, rfl⟩ | ⟨g, o, cur, rfl, hf, hh, hs, hx⟩
    · obtain rfl : n = 0 := by omega
      obtain rfl : m = 0 := by omega
      obtain rfl : us = [] := List.eq_nil_of_length_eq_zero (by omega)
      obtain rfl : cs = [] := List.eq_nil_of_length_eq_zero (by have := h.1; omega)
      refine ⟨.slice none 0 0, w, ?_, ⟨⟨none, 0, 0, rfl, LstR.nil _ _ _ _⟩, St.refl _ _⟩⟩
      have h1 := hsrc'.len
      have h2 := hsrc'.cells
      simp [Builtin.append_, run_underlying E.ht, sizeOf, typeInfo, hi, h1, h2]
    · have hr := run_append_room_src (P := P) w t t ty e i E.ht hi g o n c (.slice B m d) m us hsrc' hroom
        (fun j hj => by rw [hsz, cell_of_row _ _ _ _ _ _ hh, Array.getElem?_eq_getElem (by omega)]; rfl)
        (fun j hj => by simp [World.frozen?, hh])
      rw [hsz] at hr
      obtain ⟨cur', h1, h2, h3, h4⟩ := heap_setCells g e (0, 0) us (o + n * zs.length) w cur hh (by omega)
      refine ⟨_, _, hr, ⟨⟨_, _, _, rfl, hlen', hroom, h.2.2.1, hone, .inr ⟨g, o, cur', rfl, .inl hf, h1, by omega, fun j hj => ?_⟩⟩, st_setCells F g hf _ _ _⟩⟩
      rw [Nat.add_mul] at hj
      by_cases hjn : j < n * zs.length
      · rw [h4 (o + j) (by omega), hx j hjn, List.getElem?_append_left (by rw [h.1]; exact hjn)]
      · rw [show o + j = o + n * zs.length + (j - n * zs.length) from by omega, h3 (j - n * zs.length) (by omega), List.getElem?_append_right (by rw [h.1]; omega), h.1]
  · have holds : (Builtin.firstCells i.size n (.slice A n c)).run P w.drew = .ok cs.toArray w.drew := by
      have := (hrd.src E.ht).cellsD
      rw [hsz]; exact this
    have hr := run_append_grow_src (P := P) w t t ty e i _ E.ht hi hz A n c cs holds (.slice B m d) m us hsrc' (by omega) (by simp only [maxLen] at hmax; omega) (growslice_fits (by omega) (by rw [hby]; exact hlen))
    have hge := grownCap_ge w (n + m) c e
    have hcm : grownCap w (n + m) c e ≤ maxLen := grownCap_le_maxLen w (n + m) c e hmax
    have hcs : ((cs ++ us).toArray ++ Builtin.zeroCells (Value.agg zs.toArray).cells (grownCap w (n + m) c e - (n + m))).size = grownCap w (n + m) c e * zs.length := by
      rw [Array.size_append, zeroCells_size, List.size_toArray, hlen']
      simp only [Value.cells, List.size_toArray]
      rw [← Nat.add_mul]
      congr 1; omega
    have hl := LstR.made zs.length w.drew e ((cs ++ us).toArray ++ Builtin.zeroCells (Value.agg zs.toArray).cells (grownCap w (n + m) c e - (n + m))) (n + m) (grownCap w (n + m) c e) (cs ++ us) hlen' hge (by rw [hcs]; exact Nat.le_refl _) hcm hone
      (fun j hj => by rw [Array.getElem?_append_left (by rw [List.size_toArray, hlen']; exact hj)]; simp)
    exact ⟨_, _, hr, ⟨⟨_, _, _, rfl, hl.mono fun k hk => .inr (by simpa using hk)⟩, ⟨rfl, rfl, rfl, by simp, fun k hk _ => heap_alloc_old w.drew _ hk⟩⟩⟩
theorem wpList_append_lstR {ops : Array Oper} {rest : List Oper} {o : Oper} {a : Act} {Q : Exit → Act → World → Prop} (E : EltS P t e zs bytes) (hgd : o.guard = none) (s x : Operand)
    (ho : o.op = .call { callee := .builtin .append, args := #[s, x], argTypes := #[t, t] })
    (hs : a.eval s = .slice A n c) (h : LstR zs.length e F w A n c cs) (hx : a.eval x = .slice B m d) (hu : RdR zs.length w B m d us) (hlen : (n + m) * bytes ≤ 140737488355328)
    (hq : ∀ v w', ApdR zs.length e F w v (cs ++ us) w' → wpList P ops Q rest (a.put o.dst v) w') : wpList P ops Q (o :: rest) a w := by
  obtain ⟨v, w', hrun, hap⟩ := run_append_lstR E o.type h hu hlen
  refine wpList_plain hgd fun K hK => ?_
  unfold Oper.wp execOp
  simp only [ho, resolve, invoke, builtin, Sem.run_bind, Sem.run_pure, Result.andThen_ok, List.map_toArray, List.map_cons, List.map_nil, hs, hx, hrun]
  exact hK _ _ (hq v w' hap)
/-- clear(x[:1]). -/
theorem run_clear_row (E : EltS P t e zs bytes) (ty : TypeId) {g o : Nat} {c : Nat} (hc : w.there g o zs.length) :
    (Builtin.clear_ #[t] ty #[.slice (some ⟨g, o, none⟩) 1 c]).run P w = .ok (.tuple #[]) (w.setCells g o zs) := by
  obtain ⟨i, hi, hz, hsz, hby⟩ := info_parts E.hi
  have hst := run_storeCells_cells (P := P) g o zs 0 w (fun j hj => by rw [Nat.add_zero]; exact (hc j hj).1) (fun j hj => by rw [Nat.add_zero]; exact (hc j hj).2) E.h1
  simp only [Nat.add_zero] at hst
  have hzc : (Builtin.zeroCells (Value.agg zs.toArray).cells 1).toList = zs := by
    apply List.ext_getElem
    · simp [Builtin.zeroCells, Value.cells]
    · intro j h1 h2
      simp [Builtin.zeroCells, Value.cells, Nat.mod_eq_of_lt h2, h2]
  simp [Builtin.clear_, run_underlying E.ht, zeroValue, typeInfo, hi, hz, hzc, hst]
theorem wpList_clear_row {ops : Array Oper} {rest : List Oper} {o : Oper} {a : Act} {Q : Exit → Act → World → Prop} (E : EltS P t e zs bytes) (hgd : o.guard = none) (s : Operand)
    (ho : o.op = .call { callee := .builtin .clear, args := #[s], argTypes := #[t] }) {g p : Nat} (hs : a.eval s = .slice (some ⟨g, p, none⟩) 1 c)
    (hc : w.there g p zs.length)
    (hq : wpList P ops Q rest (a.put o.dst (.tuple #[])) (w.setCells g p zs)) : wpList P ops Q (o :: rest) a w := by
  have hrun := run_clear_row (c := c) E o.type hc
  refine wpList_plain hgd fun K hK => ?_
  unfold Oper.wp execOp
  simp only [ho, resolve, invoke, builtin, Sem.run_bind, Sem.run_pure, Result.andThen_ok, List.map_toArray, List.map_cons, List.map_nil, hs, hrun]
  exact hK _ _ hq
/-- x[s:], x[:s]. -/
theorem EltS.run_cut (E : EltS P t e zs bytes) (A : Option Addr) (n c s : Nat) (hs : s ≤ n) (hn : n ≤ c) (w : World) :
    (Instr.slice t (.slice A n c) (some (.int .i64 s)) none none).run P w = .ok (.slice (cutR A c s zs.length) (n - s) (c - s)) w := by
  obtain ⟨i, hi, hz, hsz, hby⟩ := info_parts E.hi
  have h1 := run_sliceBound (P := P) (w := w) .i64 s n .sliceB (by omega) (by omega)
  simp [Instr.slice, run_underlying E.ht, Instr.sliceBounds, h1, sizeOf, typeInfo, hi, hsz, cutR]
theorem EltS.run_pre (E : EltS P t e zs bytes) (A : Option Addr) (n c s : Nat) (hs : s ≤ c) (hn : n ≤ c) (w : World) :
    (Instr.slice t (.slice A n c) none (some (.int .i64 s)) none).run P w = .ok (.slice A s c) w := by
  obtain ⟨i, hi, hz, hsz, hby⟩ := info_parts E.hi
  have h1 := run_sliceBound (P := P) (w := w) .i64 s c .sliceAcap (by omega) (by omega)
  have h2 := run_sliceBound (P := P) (w := w) .i64 0 s .sliceB (by omega) (by omega)
  have e2 : Option.map (fun x => Addr.add x 0) A = A := by
    cases A with
    | none => rfl
    | some x => simp [Addr.add]
  simp [Instr.slice, run_underlying E.ht, Instr.sliceBounds, h1, h2, sizeOf, typeInfo, hi, hsz, e2]
theorem fill_get : ∀ (xs : List Value) (k : Nat) (a : Array Value), k + xs.length ≤ a.size → ∀ i, ((xs.zipIdx k).foldl (fun cs (x : Value × Nat) => cs.setIfInBounds x.2 x.1) a)[i]? = if k ≤ i ∧ i < k + xs.length then xs[i - k]? else a[i]?
  | [], k, a, _, i => by simp; omega
  | x :: r, k, a, h, i => by
    simp only [List.length_cons] at h
    rw [List.zipIdx_cons, List.foldl_cons, fill_get r (k + 1) _ (by simp; omega) i]
    simp only [List.length_cons]
    by_cases h1 : k + 1 ≤ i ∧ i < k + 1 + r.length
    · rw [if_pos h1, if_pos (by omega), show i - k = (i - (k + 1)) + 1 from by omega, List.getElem?_cons_succ]
    · rw [if_neg h1, Array.getElem?_setIfInBounds]
      by_cases h2 : k = i
      · subst h2
        rw [if_pos rfl, if_pos (by omega), if_pos (by omega), Nat.sub_self, List.getElem?_cons_zero]
      · rw [if_neg h2, if_neg (by omega)]
theorem fill_all (xs : List Value) (a : Array Value) (h : a.size = xs.length) : (xs.zipIdx).foldl (fun cs (x : Value × Nat) => cs.setIfInBounds x.2 x.1) a = xs.toArray := by
  apply Array.ext_getElem?
  intro i
  rw [fill_get xs 0 a (by omega) i]
  by_cases hi : i < xs.length
  · rw [if_pos ⟨Nat.zero_le _, by omega⟩, Nat.sub_zero, List.getElem?_toArray]
  · have h1 : a[i]? = none := Array.getElem?_eq_none (by omega)
    have h2 : xs.toArray[i]? = none := Array.getElem?_eq_none (by rw [List.size_toArray]; omega)
    rw [if_neg (by omega), h1, h2]
theorem EltS.build_one (E : EltS P t e zs bytes) {xs : List Value} (hx : xs.length = zs.length) (w : World) :
    (Instr.buildSlice t 1 #[(0, .agg xs.toArray)]).run P w = .ok (.slice (some ⟨w.heap.size, 0, none⟩) 1 1) (w.alloc (.cells xs.toArray e)) := by
  obtain ⟨i, hi, hz, hsz, hby⟩ := info_parts E.hi
  have hm := E.hm
  have hne : zs ≠ [] := by intro e; have := E.hs; rw [e] at this; simp at this
  have h24 : ¬ (16777216 < zs.length) := by omega
  simp [Instr.buildSlice, run_underlying E.ht, sizeOf, typeInfo, zeroValue, hi, hsz, hz, Instr.fill, newRow, Value.cells, hx, h24, hne]
  rw [fill_all xs _ (by simp [hx])]
theorem wpList_build_row {ops : Array Oper} {rest : List Oper} {o : Oper} {a : Act} {Q : Exit → Act → World → Prop} (E : EltS P t e zs bytes) (hgd : o.guard = none) (s : Operand)
    (ho : o.op = .buildSlice t 1 #[(0, s)]) {xs : List Value} (hs : a.eval s = .agg xs.toArray) (hx : xs.length = zs.length)
    (hq : wpList P ops Q rest (a.put o.dst (.slice (some ⟨w.heap.size, 0, none⟩) 1 1)) (w.alloc (.cells xs.toArray e))) : wpList P ops Q (o :: rest) a w := by
  refine wpList_plain hgd fun K hK => ?_
  have hr := E.build_one hx w
  unfold Oper.wp execOp
  simp only [ho, List.map_toArray, List.map_cons, List.map_nil, hs, Sem.run_bind, Sem.run_pure, hr, Result.andThen_ok]
  exact hK _ _ hq
end
end
end Go.Proofs.Ytboclbanccfbjaa
namespace Go.Proofs.Ytboclbanccfbjaa
set_option linter.unusedSimpArgs false
set_option linter.unusedVariables false
set_option maxRecDepth 100000
open Go.RowKit Go.Shelf
/-- A packet as a value: its numbers, its payload's slice, and what that reads. -/
structure Pv where
  h : Hd
  A : Option Addr
  n : Nat
  c : Nat
  xs : List Int
/-- A packet by what it says. -/
structure Pk where
  h : Hd
  xs : List Int
def Pv.pk (q : Pv) : Pk := ⟨q.h, q.xs⟩
def Pv.cl (q : Pv) : List Value := [.int .i64 q.h.kd, .int .i64 q.h.fl, .int .i64 q.h.pa, .int .i64 q.h.sr, .int .i64 q.h.ds, .int .i64 q.h.cn, .int .i64 q.h.sq, .int .i64 q.h.pu, .slice q.A q.n q.c]
theorem Pv.cl_len (q : Pv) : q.cl.length = 9 := rfl
theorem Pv.cl_one (q : Pv) : ∀ v ∈ q.cl, v.oneCell' = true := by
  intro v hv
  simp only [Pv.cl, List.mem_cons, List.not_mem_nil, or_false] at hv
  rcases hv with rfl | rfl | rfl | rfl | rfl | rfl | rfl | rfl | rfl <;> rfl
def zsP : List Value := [.int .i64 0, .int .i64 0, .int .i64 0, .int .i64 0, .int .i64 0, .int .i64 0, .int .i64 0, .int .i64 0, .slice none 0 0]
def zPv : Pv := ⟨⟨0, 0, 0, 0, 0, 0, 0, 0⟩, none, 0, 0, []⟩
theorem eltP : EltS Try.prog 34 65 zsP 88 := ⟨rfl, by kernel_rfl, by intro v hv; exact zPv.cl_one v hv, by decide, by decide, ⟨_, rfl, by decide⟩, by decide⟩
theorem rowP : Row Try.prog 65 9 := eltP.row
/-- The value reads, its payload is short, and lies in no block of F. -/
def PvR (F : Nat → Prop) (w : World) (q : Pv) : Prop := Rd .u8 w q.A q.n q.c q.xs ∧ q.n ≤ 1100 ∧ q.h.fl ≤ 9223372036854775807 ∧ (0 < q.n → ∀ ad, q.A = some ad → ¬ F ad.block)
section
variable {F F' : Nat → Prop} {w w' : World} {q : Pv}
theorem PvR.len (h : PvR F w q) : q.xs.length = q.n := h.1.1
theorem PvR.fl (h : PvR F w q) : q.h.fl ≤ 9223372036854775807 := h.2.2.1
theorem PvR.st (h : PvR F w q) (hs : St F w w') (hg : Gr F F' w.heap.size) : PvR F' w' q :=
  ⟨h.1.st hs h.2.2.2, h.2.1, h.2.2.1, fun hn ad he => hg.not (h.1.blk hn ad he) (h.2.2.2 hn ad he)⟩
theorem PvR.below (h : PvR F w q) (hb : Below w.heap.size w w') : PvR F w' q := ⟨h.1.below hb, h.2⟩
theorem PvR.mono (h : PvR F w q) (hF : ∀ k, F' k → F k) : PvR F' w q := ⟨h.1, h.2.1, h.2.2.1, fun hn ad he hf => h.2.2.2 hn ad he (hF _ hf)⟩
theorem PvR.gr (h : PvR F w q) (hg : Gr F F' w.heap.size) : PvR F' w q := h.st (St.refl _ _) hg
theorem PvR.zero (F : Nat → Prop) (w : World) : PvR F w zPv := ⟨Rd.nil _ _, by decide, by decide, fun h => absurd h (by decide)⟩
/-- A payload just made. -/
theorem PvR.own {h : Hd} {A : Option Addr} {n c base : Nat} {xs : List Int} (ho : Ow .u8 5 base w' (.slice A n c) xs) (hw : ∀ x ∈ xs, (Lit.int .u8 x).wf = true) (hn : n ≤ 1100) (hf : h.fl ≤ 9223372036854775807) (hF : ∀ k, F k → k < base) : PvR F w' ⟨h, A, n, c, xs⟩ :=
  ⟨own_rd ho hw, hn, hf, fun hn' ad he hf' => by
    subst he
    have := (World.ownsRow.lt ho ad.block rfl).1
    have := hF _ hf'
    omega⟩
end
/-- Of data: may it be trimmed, returned? -/
def Pk.chk (p : Pk) : Bool := chkB p.h p.xs.length
def Pk.isd (p : Pk) : Bool := isdB p.h p.xs.length
def Pk.trimB (p : Pk) : Bool := p.isd && !hasB p.h.fl 8
def Pk.trim (p : Pk) : Pk := if p.trimB = true then ⟨{ p.h with fl := p.h.fl + 8 }, []⟩ else p
def Pk.bncB (p : Pk) : Bool := p.isd && hasB p.h.fl 8 && !hasB p.h.fl 16
def Pk.bnc (p : Pk) : Pk := if p.bncB = true then ⟨{ p.h with fl := p.h.fl + 16, sr := p.h.ds, ds := p.h.sr }, p.xs⟩ else p
def Pk.heavy (p : Pk) : Bool := p.h.kd == 1 && decide (0 < p.xs.length)
def Pk.zero : Pk := zPv.pk
section
variable {F : Nat → Prop} {w : World} {q : Pv}
/-- What a call with a packet makes of it: another one. -/
def MadeP (F : Nat → Prop) (w : World) (p : Pk) (q : Pv) (w' : World) : Prop := q.pk = p ∧ PvR F w' q ∧ Below w.heap.size w w'
theorem p_trim {G : Nat → Prop} (h : PvR G w q) (hF : ∀ k, F k → k < w.heap.size) :
    Calls Try.prog 63 #[.agg #[.int .i64 q.h.kd, .int .i64 q.h.fl, .int .i64 q.h.pa, .int .i64 q.h.sr, .int .i64 q.h.ds, .int .i64 q.h.cn, .int .i64 q.h.sq, .int .i64 q.h.pu, .slice q.A q.n q.c]] w fun e w' => ∃ q', e = .returned (.tuple #[.agg #[.int .i64 q'.h.kd, .int .i64 q'.h.fl, .int .i64 q'.h.pa, .int .i64 q'.h.sr, .int .i64 q'.h.ds, .int .i64 q'.h.cn, .int .i64 q'.h.sq, .int .i64 q'.h.pu, .slice q'.A q'.n q'.c], .bool q.pk.trimB]) ∧ MadeP F w q.pk.trim q' w' := by
  have hl := h.len
  obtain ⟨hr, hn, hf, ho⟩ := h
  have he : q.pk.isd = isdB q.h q.n := by unfold Pk.isd Pv.pk; rw [hl]
  by_cases hb : q.pk.trimB = true
  · have hb1 : isdB q.h q.n = true ∧ hasB q.h.fl 8 = false := by
      unfold Pk.trimB at hb; rw [he] at hb; simpa [Pv.pk] using hb
    have hfl := Go.Proofs.Ytboclbanccfbjaa.isd_fl hb1.1
    refine (trim_yes q.h.kd q.h.fl q.h.pa q.h.sr q.h.ds q.h.cn q.h.sq q.h.pu q.A q.n q.c w hf hb1.1 hb1.2).mono ?_
    rintro e w' ⟨rfl, hbw⟩
    refine ⟨⟨{ q.h with fl := q.h.fl + 8 }, none, 0, 0, []⟩, by rw [hb], ?_, ⟨Rd.nil _ _, by simp, by show q.h.fl + 8 ≤ _; omega, fun h => absurd h (by simp)⟩, hbw⟩
    unfold Pk.trim; rw [if_pos hb]; rfl
  · have hb1 : isdB q.h q.n = false ∨ isdB q.h q.n = true ∧ hasB q.h.fl 8 = true := by
      unfold Pk.trimB at hb; rw [he] at hb
      cases h1 : isdB q.h q.n
      · exact .inl rfl
      · rw [h1] at hb; right; exact ⟨rfl, by simpa [Pv.pk] using hb⟩
    have hb2 : q.pk.trimB = false := by simpa using hb
    refine (trim_no q.h.kd q.h.fl q.h.pa q.h.sr q.h.ds q.h.cn q.h.sq q.h.pu q.A q.n q.c q.xs w hr (by omega) hf hb1).mono ?_
    rintro e w' ⟨A', c', rfl, hown, hbw⟩
    refine ⟨⟨q.h, A', q.n, c', q.xs⟩, by rw [hb2], ?_, PvR.own hown hr.2.2.2.2.1 hn hf hF, hbw⟩
    unfold Pk.trim; rw [if_neg hb]; rfl
theorem p_bounce {G : Nat → Prop} (h : PvR G w q) (hF : ∀ k, F k → k < w.heap.size) :
    Calls Try.prog 75 #[.agg #[.int .i64 q.h.kd, .int .i64 q.h.fl, .int .i64 q.h.pa, .int .i64 q.h.sr, .int .i64 q.h.ds, .int .i64 q.h.cn, .int .i64 q.h.sq, .int .i64 q.h.pu, .slice q.A q.n q.c]] w fun e w' => ∃ q', e = .returned (.tuple #[.agg #[.int .i64 q'.h.kd, .int .i64 q'.h.fl, .int .i64 q'.h.pa, .int .i64 q'.h.sr, .int .i64 q'.h.ds, .int .i64 q'.h.cn, .int .i64 q'.h.sq, .int .i64 q'.h.pu, .slice q'.A q'.n q'.c], .bool q.pk.bncB]) ∧ MadeP F w q.pk.bnc q' w' := by
  have hl := h.len
  obtain ⟨hr, hn, hf, ho⟩ := h
  have he : q.pk.bncB = (isdB q.h q.n && hasB q.h.fl 8 && !hasB q.h.fl 16) := by unfold Pk.bncB Pk.isd Pv.pk; rw [hl]
  by_cases hb : q.pk.bncB = true
  · have hb1 : isdB q.h q.n = true ∧ hasB q.h.fl 8 = true ∧ hasB q.h.fl 16 = false := by
      rw [he] at hb; simpa [and_assoc] using hb
    have hfl := Go.Proofs.Ytboclbanccfbjaa.isd_fl hb1.1
    refine (bounce_yes q.h.kd q.h.fl q.h.pa q.h.sr q.h.ds q.h.cn q.h.sq q.h.pu q.A q.n q.c q.xs w hr (by omega) hf hb1.1 hb1.2.1 hb1.2.2).mono ?_
    rintro e w' ⟨A', c', rfl, hown, hbw⟩
    refine ⟨⟨{ q.h with fl := q.h.fl + 16, sr := q.h.ds, ds := q.h.sr }, A', q.n, c', q.xs⟩, by rw [hb], ?_, PvR.own hown hr.2.2.2.2.1 hn (by show q.h.fl + 16 ≤ _; omega) hF, hbw⟩
    unfold Pk.bnc; rw [if_pos hb]; rfl
  · have hb2 : q.pk.bncB = false := by simpa using hb
    refine (bounce_no q.h.kd q.h.fl q.h.pa q.h.sr q.h.ds q.h.cn q.h.sq q.h.pu q.A q.n q.c q.xs w hr (by omega) hf (by rw [← he]; exact hb2)).mono ?_
    rintro e w' ⟨A', c', rfl, hown, hbw⟩
    refine ⟨⟨q.h, A', q.n, c', q.xs⟩, by rw [hb2], ?_, PvR.own hown hr.2.2.2.2.1 hn hf hF, hbw⟩
    unfold Pk.bnc; rw [if_neg hb]; rfl
theorem p_check (h : PvR F w q) :
    Calls Try.prog 74 #[.agg #[.int .i64 q.h.kd, .int .i64 q.h.fl, .int .i64 q.h.pa, .int .i64 q.h.sr, .int .i64 q.h.ds, .int .i64 q.h.cn, .int .i64 q.h.sq, .int .i64 q.h.pu, .slice q.A q.n q.c]] w fun e w' => e = .returned (errV q.pk.chk) ∧ Below w.heap.size w w' := by
  refine (check_any q.h.kd q.h.fl q.h.pa q.h.sr q.h.ds q.h.cn q.h.sq q.h.pu q.A q.n q.c w h.fl).mono ?_
  rintro e w' ⟨rfl, hb⟩
  exact ⟨by unfold Pk.chk Pv.pk; rw [h.len], hb⟩
theorem r_is (h : PvR F w q) :
    Calls Try.prog 70 #[.agg #[.int .i64 q.h.kd, .int .i64 q.h.fl, .int .i64 q.h.pa, .int .i64 q.h.sr, .int .i64 q.h.ds, .int .i64 q.h.cn, .int .i64 q.h.sq, .int .i64 q.h.pu, .slice q.A q.n q.c]] w fun e w' => e = .returned (.bool q.pk.chk) ∧ Below w.heap.size w w' := by
  refine (ris_any q.h.kd q.h.fl q.h.pa q.h.sr q.h.ds q.h.cn q.h.sq q.h.pu q.A q.n q.c w h.fl).mono ?_
  rintro e w' ⟨rfl, hb⟩
  exact ⟨by unfold Pk.chk Pv.pk; rw [h.len], hb⟩
theorem r_trim (h : PvR F w q) :
    Calls Try.prog 71 #[.agg #[.int .i64 q.h.kd, .int .i64 q.h.fl, .int .i64 q.h.pa, .int .i64 q.h.sr, .int .i64 q.h.ds, .int .i64 q.h.cn, .int .i64 q.h.sq, .int .i64 q.h.pu, .slice q.A q.n q.c]] w fun e w' => ∃ q', e = .returned (.tuple #[.agg #[.int .i64 q'.h.kd, .int .i64 q'.h.fl, .int .i64 q'.h.pa, .int .i64 q'.h.sr, .int .i64 q'.h.ds, .int .i64 q'.h.cn, .int .i64 q'.h.sq, .int .i64 q'.h.pu, .slice q'.A q'.n q'.c], .bool q.pk.trimB]) ∧ MadeP F w q.pk.trim q' w' := by
  have hl := h.len
  have hh := h
  obtain ⟨hr, hn, hf, ho⟩ := h
  have he : q.pk.trimB = (isdB q.h q.n && !hasB q.h.fl 8) := by unfold Pk.trimB Pk.isd Pv.pk; rw [hl]
  by_cases hb : q.pk.trimB = true
  · have hb1 : isdB q.h q.n = true ∧ hasB q.h.fl 8 = false := by rw [he] at hb; simpa using hb
    have hfl := Go.Proofs.Ytboclbanccfbjaa.isd_fl hb1.1
    refine (rtrim_yes q.h.kd q.h.fl q.h.pa q.h.sr q.h.ds q.h.cn q.h.sq q.h.pu q.A q.n q.c w hf hb1.1 hb1.2).mono ?_
    rintro e w' ⟨rfl, hbw⟩
    refine ⟨⟨{ q.h with fl := q.h.fl + 8 }, none, 0, 0, []⟩, by rw [hb], ?_, ⟨Rd.nil _ _, by simp, by show q.h.fl + 8 ≤ _; omega, fun h => absurd h (by simp)⟩, hbw⟩
    unfold Pk.trim; rw [if_pos hb]; rfl
  · have hb2 : q.pk.trimB = false := by simpa using hb
    refine (rtrim_no q.h.kd q.h.fl q.h.pa q.h.sr q.h.ds q.h.cn q.h.sq q.h.pu q.A q.n q.c w hf (by rw [← he]; exact hb2)).mono ?_
    rintro e w' ⟨rfl, hbw⟩
    refine ⟨q, by rw [hb2], ?_, hh.below hbw, hbw⟩
    unfold Pk.trim; rw [if_neg hb]
theorem r_bounce (h : PvR F w q) :
    Calls Try.prog 73 #[.agg #[.int .i64 q.h.kd, .int .i64 q.h.fl, .int .i64 q.h.pa, .int .i64 q.h.sr, .int .i64 q.h.ds, .int .i64 q.h.cn, .int .i64 q.h.sq, .int .i64 q.h.pu, .slice q.A q.n q.c]] w fun e w' => ∃ q', e = .returned (.tuple #[.agg #[.int .i64 q'.h.kd, .int .i64 q'.h.fl, .int .i64 q'.h.pa, .int .i64 q'.h.sr, .int .i64 q'.h.ds, .int .i64 q'.h.cn, .int .i64 q'.h.sq, .int .i64 q'.h.pu, .slice q'.A q'.n q'.c], .bool q.pk.bncB]) ∧ MadeP F w q.pk.bnc q' w' := by
  have hl := h.len
  have hh := h
  obtain ⟨hr, hn, hf, ho⟩ := h
  have he : q.pk.bncB = (isdB q.h q.n && hasB q.h.fl 8 && !hasB q.h.fl 16) := by unfold Pk.bncB Pk.isd Pv.pk; rw [hl]
  by_cases hb : q.pk.bncB = true
  · have hb1 : isdB q.h q.n = true ∧ hasB q.h.fl 8 = true ∧ hasB q.h.fl 16 = false := by rw [he] at hb; simpa [and_assoc] using hb
    have hfl := Go.Proofs.Ytboclbanccfbjaa.isd_fl hb1.1
    refine (rbounce_yes q.h.kd q.h.fl q.h.pa q.h.sr q.h.ds q.h.cn q.h.sq q.h.pu q.A q.n q.c w hf hb1.1 hb1.2.1 hb1.2.2).mono ?_
    rintro e w' ⟨rfl, hbw⟩
    refine ⟨⟨{ q.h with fl := q.h.fl + 16, sr := q.h.ds, ds := q.h.sr }, q.A, q.n, q.c, q.xs⟩, by rw [hb], ?_, ⟨hr.below hbw, hn, by show q.h.fl + 16 ≤ _; omega, ho⟩, hbw⟩
    unfold Pk.bnc; rw [if_pos hb]; rfl
  · have hb2 : q.pk.bncB = false := by simpa using hb
    refine (rbounce_no q.h.kd q.h.fl q.h.pa q.h.sr q.h.ds q.h.cn q.h.sq q.h.pu q.A q.n q.c w hf (by rw [← he]; exact hb2)).mono ?_
    rintro e w' ⟨rfl, hbw⟩
    refine ⟨q, by rw [hb2], ?_, hh.below hbw, hbw⟩
    unfold Pk.bnc; rw [if_neg hb]
def Pk.sameB (a b : Pk) : Bool := smB a.h b.h a.xs b.xs
theorem Pk.same_refl (a : Pk) : a.sameB a = true := smB_refl _ _
theorem r_same {F' : Nat → Prop} {q2 : Pv} (h : PvR F w q) (k : PvR F' w q2) :
    Calls Try.prog 36 #[.agg #[.int .i64 q.h.kd, .int .i64 q.h.fl, .int .i64 q.h.pa, .int .i64 q.h.sr, .int .i64 q.h.ds, .int .i64 q.h.cn, .int .i64 q.h.sq, .int .i64 q.h.pu, .slice q.A q.n q.c], .agg #[.int .i64 q2.h.kd, .int .i64 q2.h.fl, .int .i64 q2.h.pa, .int .i64 q2.h.sr, .int .i64 q2.h.ds, .int .i64 q2.h.cn, .int .i64 q2.h.sq, .int .i64 q2.h.pu, .slice q2.A q2.n q2.c]] w fun e w' => e = .returned (.bool (q.pk.sameB q2.pk)) ∧ Below w.heap.size w w' :=
  (rsame_any q.h.kd q.h.fl q.h.pa q.h.sr q.h.ds q.h.cn q.h.sq q.h.pu q.A q.n q.c q2.h.kd q2.h.fl q2.h.pa q2.h.sr q2.h.ds q2.h.cn q2.h.sq q2.h.pu q2.A q2.n q2.c q.xs q2.xs w h.1 k.1).mono fun e w' hh => hh
end
section
variable {P : Program} {w : World} {ops : Array Oper} {rest : List Oper} {op : Oper} {a : Act} {Q : Exit → Act → World → Prop}
/-- A packet is loaded, stored whole. -/
theorem wpList_load_pk {e : TypeId} (R : Row P e 9) (hgd : op.guard = none) (x : Operand) (ho : op.op = .load e x) (q : Pv) (g o : Nat) (hx : a.eval x = .pointer (some ⟨g, o, none⟩)) (h : w.rangeAt g o q.cl)
    (hq : wpList P ops Q rest (a.put op.dst (.agg #[.int .i64 q.h.kd, .int .i64 q.h.fl, .int .i64 q.h.pa, .int .i64 q.h.sr, .int .i64 q.h.ds, .int .i64 q.h.cn, .int .i64 q.h.sq, .int .i64 q.h.pu, .slice q.A q.n q.c])) w) : wpList P ops Q (op :: rest) a w := by
  obtain ⟨d, h1, h2⟩ := R.ht
  exact wpList_load_mid hgd e x ho g o hx q.cl d h h1 h2 R.hi hq
theorem Bk.pk {t : TypeId} {g : Nat} {q : Pv} (h : Bk w t g q.cl) : w.rangeAt g 0 q.cl := fun j v hv => h.cell (0 + j) (by rw [Nat.zero_add]; exact hv)
theorem load_pk {e t : TypeId} (R : Row P e 9) {g : Nat} {q : Pv} (h : Bk w t g q.cl) : (loadVar e ⟨g, 0, none⟩).run P w = .ok (.agg #[.int .i64 q.h.kd, .int .i64 q.h.fl, .int .i64 q.h.pa, .int .i64 q.h.sr, .int .i64 q.h.ds, .int .i64 q.h.cn, .int .i64 q.h.sq, .int .i64 q.h.pu, .slice q.A q.n q.c]) w := R.load h 0 q.cl_len rfl
theorem wpList_put_pk {e t : TypeId} (R : Row P e 9) (hgd : op.guard = none) (x y : Operand) (ho : op.op = .store e x y) (g : Nat) (hx : a.eval x = .pointer (some ⟨g, 0, none⟩)) {vs : List Value} (h : Bk w t g vs) (hv : vs.length = 9) (q : Pv) (hy : a.eval y = .agg #[.int .i64 q.h.kd, .int .i64 q.h.fl, .int .i64 q.h.pa, .int .i64 q.h.sr, .int .i64 q.h.ds, .int .i64 q.h.cn, .int .i64 q.h.sq, .int .i64 q.h.pu, .slice q.A q.n q.c])
    (hq : ∀ w', Bk w' t g q.cl → Wr g w w' → wpList P ops Q rest (a.put op.dst undef) w') : wpList P ops Q (op :: rest) a w :=
  wpList_store_bk R hgd x y ho g 0 hx h q.cl hy q.cl_len (by rw [hv]; decide) q.cl_one fun w' h' hw => hq w' (by rw [lay_all _ _ (by rw [hv]; rfl)] at h'; exact h') hw
end
end Go.Proofs.Ytboclbanccfbjaa
namespace Go.Proofs.Ytboclbanccfbjaa
set_option linter.unusedSimpArgs false
set_option linter.unusedVariables false
set_option maxRecDepth 100000
open Go.RowKit Go.Shelf
/-- Block p holds a queue for room packets, which are qs; all of it lies in the blocks of F. -/
def Qs (F : Nat → Prop) (w : World) (p room : Nat) (qs : List Pv) : Prop :=
  F p ∧ 0 < room ∧ room ≤ 1024 ∧ qs.length ≤ room ∧ ∃ A n c, n = qs.length ∧ Bk w 124 p [.int .i64 room, .slice A n c] ∧ LstR 9 65 F w A n c (flat Pv.cl qs) ∧ (∀ ad, A = some ad → ad.block ≠ p) ∧ ∀ k, F k → k < w.heap.size
section
variable {F F' : Nat → Prop} {w w' : World} {p room : Nat} {qs : List Pv}
theorem Qs.mono (h : Qs F w p room qs) (hF : ∀ k, F k → F' k) (hb : ∀ k, F' k → k < w.heap.size) : Qs F' w p room qs := by
  obtain ⟨h1, h2, h3, h4, A, n, c, h5, h6, h7, h8, h9⟩ := h
  exact ⟨hF _ h1, h2, h3, h4, A, n, c, h5, h6, h7.mono hF, h8, hb⟩
theorem Qs.st (h : Qs F w p room qs) {G : Nat → Prop} (hs : St G w w') (hG : ∀ k, F k → ¬ G k) : Qs F w' p room qs := by
  obtain ⟨h1, h2, h3, h4, A, n, c, h5, h6, h7, h8, h9⟩ := h
  exact ⟨h1, h2, h3, h4, A, n, c, h5, h6.st hs (hG _ h1), h7.st hs hG, h8, fun k hk => Nat.lt_of_lt_of_le (h9 k hk) hs.size⟩
theorem Qs.below (h : Qs F w p room qs) (hb : Below w.heap.size w w') : Qs F w' p room qs := by
  obtain ⟨h1, h2, h3, h4, A, n, c, h5, h6, h7, h8, h9⟩ := h
  exact ⟨h1, h2, h3, h4, A, n, c, h5, h6.below hb, h7.below hb, h8, fun k hk => Nat.lt_of_lt_of_le (h9 k hk) hb.size⟩
theorem Qs.at (h : Qs F w p room qs) : F p := h.1
theorem Qs.bd (h : Qs F w p room qs) : ∀ k, F k → k < w.heap.size := by
  obtain ⟨_, _, _, _, _, _, _, _, _, _, _, h9⟩ := h
  exact h9
theorem Qs.lt (h : Qs F w p room qs) : p < w.heap.size := h.bd _ h.1
theorem Qs.le (h : Qs F w p room qs) : qs.length ≤ room := h.2.2.2.1
/-- The queue holds these now; nothing else of what was there has changed. -/
def DidQ (F : Nat → Prop) (p room : Nat) (qs : List Pv) (w w' : World) : Prop := ∃ F', Qs F' w' p room qs ∧ St F w w' ∧ Gr F F' w.heap.size
theorem DidQ.refl (h : Qs F w p room qs) : DidQ F p room qs w w := ⟨F, h, St.refl _ _, Gr.refl _ _⟩
theorem DidQ.trans {us : List Pv} {w1 : World} {F1 : Nat → Prop} (hs : St F w w1) (hg : Gr F F1 w.heap.size) (h : DidQ F1 p room us w1 w') : DidQ F p room us w w' := by
  obtain ⟨F', h1, h2, h3⟩ := h
  exact ⟨F', h1, hs.trans h2 hg, hg.trans h3 hs.size⟩
/-- A slice of packets of its own, just made. -/
def MadeQ (qs : List Pv) (w : World) (en : Ending) (w' : World) : Prop := ∃ A n c, en = .returned (.slice A n c) ∧ n = qs.length ∧ LstR 9 65 (w.heap.size ≤ ·) w' A n c (flat Pv.cl qs) ∧ Below w.heap.size w w'
theorem Qs.stored {A : Option Addr} {n c : Nat} {us : List Pv} {l : Value} {w1 : World} (hp : F p) (h0 : 0 < room) (h1 : room ≤ 1024) (hl : us.length ≤ room)
    (h5 : Bk w 124 p [.int .i64 room, .slice A n c]) (h6 : LstR 9 65 F w A n c (flat Pv.cl qs)) (h7 : ∀ ad, A = some ad → ad.block ≠ p) (h8 : ∀ k, F k → k < w.heap.size) (ha : ApdR 9 65 (BlkOf A) w l (flat Pv.cl us) w1) : DidQ F p room us w (w1.setCell ⟨p, 1, none⟩ l) := by
  obtain ⟨⟨A', n', c', rfl, hl'⟩, hst⟩ := ha
  have hne : ∀ ad, A' = some ad → ad.block ≠ p := by
    intro ad he
    rcases (hl'.blk ad he).1 with ⟨ad0, h, h'⟩ | h
    · rw [← h']; exact h7 _ h
    · have := h5.lt; omega
  have hpA : ¬ BlkOf A p := fun ⟨ad, h, h'⟩ => h7 ad h h'
  have hn' : n' = us.length := by have := hl'.1; rw [flat_len Pv.cl_len] at this; omega
  have hl2 : LstR 9 65 (fun k => (F k ∨ w.heap.size ≤ k) ∧ k < w1.heap.size) w1 A' n' c' (flat Pv.cl us) := by
    refine hl'.tight.mono ?_
    rintro k ⟨ad, h, rfl⟩
    refine ⟨?_, (hl'.blk _ h).2⟩
    rcases (hl'.blk _ h).1 with ⟨ad0, h', e'⟩ | h'
    · rw [← e']; exact .inl (h6.blk _ h').1
    · exact .inr h'
  refine ⟨fun k => (F k ∨ w.heap.size ≤ k) ∧ k < w1.heap.size, ⟨⟨.inl hp, Nat.lt_of_lt_of_le (h8 _ hp) hst.size⟩, h0, h1, hl, A', n', c', hn', (h5.st hst hpA).set 1 _, hl2.far (fun ad he => hne ad he) _, hne, fun k hk => by simpa [World.setCell] using hk.2⟩, ?_, fun k hk => hk.1⟩
  refine (hst.mono ?_).trans (St.setCell w1 (a := ⟨p, 1, none⟩) hp _) (Gr.refl _ _)
  rintro k _ ⟨ad, h, rfl⟩
  exact (h6.blk _ h).1
end
section
variable {F : Nat → Prop} {w : World} {p room : Nat} {qs : List Pv}
theorem q_made (p : Nat) (room : Nat) (l : Value) (w : World) (hp : Bk w 124 p [.int .i64 room, l]) (h0 : 0 < room) :
    Calls Try.prog 66 #[.pointer (some ⟨p, 0, none⟩)] w fun e w' => e = .returned (.bool true) ∧ w = w' := by
  go_enter Try.func66, Try.ntmps66
  have c0 := hp.cell 0 rfl
  go_wp2
  go_ret
  exact ⟨rfl, rfl⟩
theorem q_new (room : Nat) (w : World) (h0 : 0 < room) (h1 : room ≤ 1024) :
    Calls Try.prog 43 #[.int .i64 room] w fun e w' => e = .returned (.tuple #[.pointer (some ⟨w.heap.size, 0, none⟩), .int .i64 0]) ∧ Qs (· = w.heap.size) w' w.heap.size room [] ∧ Below w.heap.size w w' := by
  go_enter Try.func43, Try.ntmps43
  go_wp2
  go_ret2
  exact ⟨rfl, ⟨rfl, h0, h1, Nat.zero_le _, none, 0, 0, rfl, Bk.new w _ [.int .i64 room, .slice none 0 0], LstR.nil _ _ _ _, by simp, by simp⟩, (Below.refl _ _).alloc (Nat.le_refl _) _⟩
theorem q_len (h : Qs F w p room qs) :
    Calls Try.prog 56 #[.pointer (some ⟨p, 0, none⟩)] w fun e w' => e = .returned (.int .i64 qs.length) ∧ w = w' := by
  obtain ⟨h1, h2, h3, h4, A, n, c, hn, h5, h6, h7, h8⟩ := h
  have c1 := h5.cell 1 rfl
  have HL := Lib.hid hn
  clear hn
  go_enter Try.func56, Try.ntmps56
  go_wp2_with fail
  refine (q_made p room _ w h5 h2).mono ?_
  rintro e w' ⟨rfl, rfl⟩
  go_wp2
  go_ret
  exact ⟨by rw [HL.out]; rfl, rfl⟩
theorem q_room (h : Qs F w p room qs) :
    Calls Try.prog 67 #[.pointer (some ⟨p, 0, none⟩)] w fun e w' => e = .returned (.int .i64 (room - qs.length)) ∧ Below w.heap.size w w' := by
  obtain ⟨h1, h2, h3, h4, A, n, c, hn, h5, h6, h7, h8⟩ := h
  have c0 := h5.cell 0 rfl
  have c1 := h5.cell 1 rfl
  have hnr : n ≤ room := by omega
  have HL := Lib.hid hn
  clear hn h4
  go_enter Try.func67, Try.ntmps67
  go_wp2_with fail
  refine (q_made p room _ w h5 h2).mono ?_
  rintro e w' ⟨rfl, rfl⟩
  go_wp2
  go_quiet (fail)
  go_wp2
  go_ret
  exact ⟨by rw [HL.out]; rfl, Below.drewN_ _ _⟩
theorem q_lenB (h : Qs F w p room qs) :
    Calls Try.prog 56 #[.pointer (some ⟨p, 0, none⟩)] w fun e w' => e = .returned (.int .i64 qs.length) ∧ Below w.heap.size w w' :=
  (q_len h).mono fun e w' hh => ⟨hh.1, hh.2 ▸ Below.refl _ _⟩
set_option maxHeartbeats 1000000 in
theorem q_peek (q : Pv) (qs : List Pv) (h : Qs F w p room (q :: qs)) :
    Calls Try.prog 65 #[.pointer (some ⟨p, 0, none⟩), .int .i64 0] w fun e w' => e = .returned (.tuple #[.agg #[.int .i64 q.h.kd, .int .i64 q.h.fl, .int .i64 q.h.pa, .int .i64 q.h.sr, .int .i64 q.h.ds, .int .i64 q.h.cn, .int .i64 q.h.sq, .int .i64 q.h.pu, .slice q.A q.n q.c], .bool true]) ∧ Below w.heap.size w w' := by
  have hpos : ((q :: qs).length : Int) = (qs.length : Int) + 1 := by simp
  have HLen : ∀ o, Calls Try.prog 56 #[.pointer (some ⟨p, 0, none⟩)] (w.alloc o) fun e w' => e = .returned (.int .i64 ((qs.length : Int) + 1)) ∧ Below (w.alloc o).heap.size (w.alloc o) w' := fun o => by
    rw [← hpos]; exact q_lenB (h.below ((Below.refl _ _).alloc (Nat.le_refl _) o))
  have HLen' := Lib.hid HLen
  have HH := Lib.hid h
  clear hpos HLen h
  go_enter Try.func65, Try.ntmps65
  go_wp2_with fail
  refine (HLen'.out _).mono ?_
  rintro e w1 ⟨rfl, hb1⟩
  obtain ⟨hz, hb⟩ := pk_new hb1
  have h := HH.out.below hb
  clear hb1 HLen' HH
  obtain ⟨h1, h2, h3, h4, A, n, c, hn, h5, h6, h7, h8⟩ := h
  have hin : 0 < n := by rw [hn]; simp
  have hnc := h6.2.1
  obtain ⟨g, o, rfl, hg, hra⟩ := h6.rd.range hin
  have hrow := flat_row Pv.cl_len (q :: qs) 0 (by simp)
  simp only [Nat.zero_mul, Nat.add_zero, List.drop_zero, List.getElem_cons_zero] at hrow hra
  rw [hrow] at hra
  have c1 := h5.cell 1 rfl
  clear hn h6 hrow h4
  go_wp2_with (first
    | (with_reducible refine at_load 65 (.tmp 21) (by rfl) ?_; refine wpList_load_pk rowP rfl (.tmp 21) rfl q g o rfl hra ?_)
    | (with_reducible refine at_store 65 (.tmp 4) (.tmp 22) (by rfl) ?_; refine wpList_put_pk rowP rfl (.tmp 4) (.tmp 22) rfl w.heap.size rfl hz rfl q rfl ?_; rintro w2 hz2 hw2))
  exact bodyPost_ret (results_cell_tmp rfl rfl (load_pk rowP hz2)) rfl ⟨rfl, hb.trans (hw2.below (Nat.le_refl _) hb.size)⟩
set_option maxHeartbeats 1000000 in
theorem q_peek_none (h : Qs F w p room []) :
    Calls Try.prog 65 #[.pointer (some ⟨p, 0, none⟩), .int .i64 0] w fun e w' => e = .returned (.tuple #[.agg #[.int .i64 0, .int .i64 0, .int .i64 0, .int .i64 0, .int .i64 0, .int .i64 0, .int .i64 0, .int .i64 0, .slice none 0 0], .bool false]) ∧ Below w.heap.size w w' := by
  have HLen : ∀ o, Calls Try.prog 56 #[.pointer (some ⟨p, 0, none⟩)] (w.alloc o) fun e w' => e = .returned (.int .i64 0) ∧ Below (w.alloc o).heap.size (w.alloc o) w' := fun o => q_lenB (h.below ((Below.refl _ _).alloc (Nat.le_refl _) o))
  have HLen' := Lib.hid HLen
  clear HLen
  go_enter Try.func65, Try.ntmps65
  go_wp2_with fail
  refine (HLen'.out _).mono ?_
  rintro e w1 ⟨rfl, hb1⟩
  obtain ⟨hz, hb⟩ := pk_new hb1
  have hz' := hz.alloc (.cells (List.toArray [.int .i64 0, .int .i64 0, .int .i64 0, .int .i64 0, .int .i64 0, .int .i64 0, .int .i64 0, .int .i64 0, .slice none 0 0]) 65)
  have hz3 := Bk.new w1 65 [.int .i64 0, .int .i64 0, .int .i64 0, .int .i64 0, .int .i64 0, .int .i64 0, .int .i64 0, .int .i64 0, .slice none 0 0]
  have hb3 := hb.alloc hb.size (.cells (List.toArray [.int .i64 0, .int .i64 0, .int .i64 0, .int .i64 0, .int .i64 0, .int .i64 0, .int .i64 0, .int .i64 0, .slice none 0 0]) 65)
  clear hb1 HLen'
  go_wp2_with (first
    | (with_reducible refine at_load 65 (.tmp 6) (by rfl) ?_; refine wpList_load_pk rowP rfl (.tmp 6) rfl zPv w1.heap.size 0 rfl (Bk.pk (q := zPv) hz3) ?_)
    | (with_reducible refine at_store 65 (.tmp 4) (.tmp 15) (by rfl) ?_; refine wpList_put_pk rowP rfl (.tmp 4) (.tmp 15) rfl w.heap.size rfl hz' rfl zPv rfl ?_; rintro w2 hz2 hw2))
  exact bodyPost_ret (results_cell_tmp rfl rfl (load_pk rowP hz2)) rfl ⟨rfl, hb3.trans (hw2.below (Nat.le_refl _) hb3.size)⟩
theorem q_push (us : List Pv) (B : Option Addr) (m d : Nat) (h : Qs F w p room qs) (hm : m = us.length) (hu : RdR 9 w B m d (flat Pv.cl us)) (hl : qs.length + m ≤ room) :
    Calls Try.prog 53 #[.pointer (some ⟨p, 0, none⟩), .slice B m d] w fun e w' => e = .returned (.int .i64 0) ∧ DidQ F p room (qs ++ us) w w' := by
  have HRoom := Lib.hid (q_room h)
  obtain ⟨h1, h2, h3, h4, A, n, c, hn, h5, h6, h7, h8⟩ := h
  have hmr : (m : Int) ≤ (room : Int) - qs.length := by omega
  have hlen : (qs ++ us).length ≤ room := by rw [List.length_append]; omega
  have hk : (n + m) * 88 ≤ 140737488355328 := by omega
  have HL := Lib.hid hlen
  have HN := Lib.hid hn
  have HM := Lib.hid hm
  have HF := Lib.hid (flat_app (cl := Pv.cl) qs us)
  clear hn hm hlen h4 hl
  go_enter Try.func53, Try.ntmps53
  go_wp2_with fail
  refine (q_made p room _ w h5 h2).mono ?_
  rintro e w' ⟨rfl, rfl⟩
  go_wp2_with fail
  refine HRoom.out.mono ?_
  rintro e w0 ⟨rfl, hb⟩
  have hpA : ¬ BlkOf A p := fun ⟨ad, h, h'⟩ => h7 ad h h'
  have h5' := h5.below hb
  have h6' := h6.below hb
  have hu' := hu.below hb
  have c1 := h5'.cell 1 rfl
  go_wp2_with (at_builtin
               refine wpList_append_lstR eltP rfl (.tmp 17) (.tmp 18) rfl rfl h6'.tight rfl (by exact hu') hk ?_
               rintro v w1 ⟨⟨A', n', c', rfl, hl'⟩, hst⟩
               have h51 := h5'.st hst hpA
               have f1 := h51.free 1
               have c2 := h51.cell 1 rfl
               clear c1)
  rw [← HF.out] at hl'
  have hap : ApdR 9 65 (BlkOf A) w0 (.slice A' n' c') (flat Pv.cl (qs ++ us)) w1 := ⟨⟨A', n', c', rfl, hl'⟩, hst⟩
  have HD := Lib.hid (Qs.stored h1 h2 h3 HL.out h5' h6' h7 (fun k hk => Nat.lt_of_lt_of_le (h8 k hk) hb.size) hap)
  go_ret
  exact ⟨rfl, DidQ.trans (St.ext hb) (Gr.refl _ _) HD.out⟩
end
end Go.Proofs.Ytboclbanccfbjaa
namespace Go.Proofs.Ytboclbanccfbjaa
set_option linter.unusedSimpArgs false
set_option linter.unusedVariables false
set_option maxRecDepth 100000
open Go.RowKit Go.Shelf
section
variable {F : Nat → Prop} {w : World} {p room : Nat} {qs : List Pv}
set_option maxHeartbeats 2000000 in
theorem q_pop (q : Pv) (qs : List Pv) (h : Qs F w p room (q :: qs)) :
    Calls Try.prog 51 #[.pointer (some ⟨p, 0, none⟩)] w fun e w' => e = .returned (.tuple #[.agg #[.int .i64 q.h.kd, .int .i64 q.h.fl, .int .i64 q.h.pa, .int .i64 q.h.sr, .int .i64 q.h.ds, .int .i64 q.h.cn, .int .i64 q.h.sq, .int .i64 q.h.pu, .slice q.A q.n q.c], .bool true]) ∧ DidQ F p room qs w w' := by
  have HP : ∀ o, Calls Try.prog 65 #[.pointer (some ⟨p, 0, none⟩), .int .i64 0] (w.alloc o) fun e w' => e = .returned (.tuple #[.agg #[.int .i64 q.h.kd, .int .i64 q.h.fl, .int .i64 q.h.pa, .int .i64 q.h.sr, .int .i64 q.h.ds, .int .i64 q.h.cn, .int .i64 q.h.sq, .int .i64 q.h.pu, .slice q.A q.n q.c], .bool true]) ∧ Below (w.alloc o).heap.size (w.alloc o) w' := fun o => q_peek q qs (h.below ((Below.refl _ _).alloc (Nat.le_refl _) o))
  have HP' := Lib.hid HP
  have HH := Lib.hid h
  clear HP h
  go_enter Try.func51, Try.ntmps51
  go_wp2_with fail
  refine (HP'.out _).mono ?_
  rintro e w1 ⟨rfl, hb1⟩
  obtain ⟨hz, hb⟩ := pk_new hb1
  clear hb1 HP'
  have hzq := Bk.new w1 65 [.int .i64 q.h.kd, .int .i64 q.h.fl, .int .i64 q.h.pa, .int .i64 q.h.sr, .int .i64 q.h.ds, .int .i64 q.h.cn, .int .i64 q.h.sq, .int .i64 q.h.pu, .slice q.A q.n q.c]
  have hz' := hz.alloc (.cells (List.toArray [.int .i64 q.h.kd, .int .i64 q.h.fl, .int .i64 q.h.pa, .int .i64 q.h.sr, .int .i64 q.h.ds, .int .i64 q.h.cn, .int .i64 q.h.sq, .int .i64 q.h.pu, .slice q.A q.n q.c]) 65)
  have hb' := hb.alloc hb.size (.cells (List.toArray [.int .i64 q.h.kd, .int .i64 q.h.fl, .int .i64 q.h.pa, .int .i64 q.h.sr, .int .i64 q.h.ds, .int .i64 q.h.cn, .int .i64 q.h.sq, .int .i64 q.h.pu, .slice q.A q.n q.c]) 65)
  have h := HH.out.below hb'
  have hFw := HH.out.bd
  have HFs := Lib.hid hFw
  clear HH hz
  have HZ := Lib.hid hb.size
  obtain ⟨h1, h2, h3, h4, A, n, c, hn, h5, h6, h7, h8⟩ := h
  have hin : 0 < n := by rw [hn]; simp
  have hn1 : 1 ≤ n := hin
  have hnc := h6.2.1
  have hcm := h6.2.2.1
  unfold maxLen at hcm
  obtain ⟨g, o, rfl, hg, -⟩ := h6.rd.range hin
  have hF : F g := (h6.blk _ rfl).1
  have hgw : g < w.heap.size := hFw _ hF
  have hpw : p < w.heap.size := hFw _ h1
  have hgp : g ≠ p := h7 _ rfl
  have hth := h6.there hin
  have h6' := (h6.lay hin (us := zsP) rfl eltP.h1).cut hn1
  have hdr : (lay (flat Pv.cl (q :: qs)) (0 * 9) zsP).drop (1 * 9) = flat Pv.cl qs := rfl
  rw [hdr] at h6'
  rw [Nat.zero_mul, Nat.add_zero] at hth h6'
  have hwr := Wr.setCells g o zsP (w1.alloc (.cells (List.toArray [.int .i64 q.h.kd, .int .i64 q.h.fl, .int .i64 q.h.pa, .int .i64 q.h.sr, .int .i64 q.h.ds, .int .i64 q.h.cn, .int .i64 q.h.sq, .int .i64 q.h.pu, .slice q.A q.n q.c]) 65))
  have hcut1 : (Instr.slice 34 (.slice (some ⟨g, o, none⟩) n c) none (some (.int .i64 1)) none).run Try.prog (w1.alloc (.cells (List.toArray [.int .i64 q.h.kd, .int .i64 q.h.fl, .int .i64 q.h.pa, .int .i64 q.h.sr, .int .i64 q.h.ds, .int .i64 q.h.cn, .int .i64 q.h.sq, .int .i64 q.h.pu, .slice q.A q.n q.c]) 65)) = .ok (.slice (some ⟨g, o, none⟩) 1 c) (w1.alloc (.cells (List.toArray [.int .i64 q.h.kd, .int .i64 q.h.fl, .int .i64 q.h.pa, .int .i64 q.h.sr, .int .i64 q.h.ds, .int .i64 q.h.cn, .int .i64 q.h.sq, .int .i64 q.h.pu, .slice q.A q.n q.c]) 65)) := eltP.run_pre (some ⟨g, o, none⟩) n c 1 (by omega) hnc _
  have c1 := h5.cell 1 rfl
  have hgne1 : g ≠ w1.heap.size := by have := HZ.out; omega
  have hgne2 : g ≠ w.heap.size := by omega
  generalize hW : (w1.alloc (.cells (List.toArray [.int .i64 q.h.kd, .int .i64 q.h.fl, .int .i64 q.h.pa, .int .i64 q.h.sr, .int .i64 q.h.ds, .int .i64 q.h.cn, .int .i64 q.h.sq, .int .i64 q.h.pu, .slice q.A q.n q.c]) 65)).setCells g o zsP = W2 at *
  have hcut2 : (Instr.slice 34 (.slice (some ⟨g, o, none⟩) n c) (some (.int .i64 1)) none none).run Try.prog W2 = .ok (.slice (cutR (some ⟨g, o, none⟩) c 1 9) (n - 1) (c - 1)) W2 := eltP.run_cut (some ⟨g, o, none⟩) n c 1 hn1 hnc W2
  have h5' := h5.wr hwr (Ne.symm hgp)
  have hzq2 := hzq.wr hwr (Ne.symm hgne1)
  have hz2 := hz'.wr hwr (Ne.symm hgne2)
  have c2 := h5'.cell 1 rfl
  have f2 := h5'.free 1
  have hne : ∀ ad, cutR (some ⟨g, o, none⟩) c 1 9 = some ad → ad.block ≠ p := by
    intro ad he
    unfold cutR at he
    split at he
    · injection he with he; subst he; exact hgp
    · simp [Addr.add] at he; subst he; exact hgp
  generalize hX : cutR (some ⟨g, o, none⟩) c 1 9 = X at *
  have h53 := h5'.set 1 (.slice X (n - 1) (c - 1))
  have hzq3 := hzq2.far (p := ⟨p, 1, none⟩) (show w1.heap.size ≠ p by have := HZ.out; omega) (.slice X (n - 1) (c - 1))
  have hz3 := hz2.far (p := ⟨p, 1, none⟩) (show w.heap.size ≠ p by omega) (.slice X (n - 1) (c - 1))
  have h63 := h6'.far (p := ⟨p, 1, none⟩) hne (.slice X (n - 1) (c - 1))
  have hst3 : St F w (W2.setCell ⟨p, 1, none⟩ (.slice X (n - 1) (c - 1))) := by
    refine ((St.ext hb').trans (F' := F) ?_ (Gr.refl _ _)).trans (St.setCell _ (a := ⟨p, 1, none⟩) h1 _) (Gr.refl _ _)
    exact ⟨hwr.os, hwr.tape, hwr.output, hwr.size, fun k hk hn => hwr.block k hk fun e => hn (by injection e with e; rw [e]; exact hF)⟩
  have HW := Lib.hid hW
  have HC1 := Lib.hid c1
  have HN := Lib.hid hn
  have HNE := Lib.hid hne
  have HL := Lib.hid h4
  have H8 := Lib.hid h8
  clear hW hX hn hFw h7 h6 hne h6' h4
  clear hdr
  go_wp2_with (first
    | (refine wpList_clear_row eltP rfl (.tmp 16) rfl rfl hth ?_; rw [HW.out]; clear c1 hcut1 hzq hz')
    | (with_reducible refine at_load 65 (.tmp 4) (by rfl) ?_; refine wpList_load_pk rowP rfl (.tmp 4) rfl q w1.heap.size 0 rfl (Bk.pk (q := q) hzq3) ?_)
    | (with_reducible refine at_store 65 (.tmp 2) (.tmp 25) (by rfl) ?_; refine wpList_put_pk rowP rfl (.tmp 2) (.tmp 25) rfl w.heap.size rfl hz3 rfl q rfl ?_; rintro w5 hz5 hw5))
  have hst5 : St F w w5 := ⟨hw5.os.trans hst3.os, hw5.tape.trans hst3.tape, hw5.output.trans hst3.output, Nat.le_trans hst3.size hw5.size, fun k hk hn => (hw5.block k (Nat.lt_of_lt_of_le hk hst3.size) (by intro e; injection e; omega)).trans (hst3.block k hk hn)⟩
  have hn' : n - 1 = qs.length := by have := HN.out; simp at this; omega
  have h4' : qs.length ≤ room := by have := HL.out; simp at this; omega
  have hsz : (w1.alloc (.cells (List.toArray [.int .i64 q.h.kd, .int .i64 q.h.fl, .int .i64 q.h.pa, .int .i64 q.h.sr, .int .i64 q.h.ds, .int .i64 q.h.cn, .int .i64 q.h.sq, .int .i64 q.h.pu, .slice q.A q.n q.c]) 65)).heap.size ≤ w5.heap.size := Nat.le_trans hwr.size (Nat.le_trans (by simp [World.setCell]) hw5.size)
  refine bodyPost_ret (results_cell_tmp rfl rfl (load_pk rowP hz5)) rfl ⟨rfl, F, ⟨h1, h2, h3, h4', X, n - 1, c - 1, hn', h53.wr hw5 (by omega), ?_, HNE.out, fun k hk => Nat.lt_of_lt_of_le (H8.out k hk) hsz⟩, hst5, Gr.refl _ _⟩
  exact h63.same fun ad he => hw5.block _ (h63.blk ad he).2 (by intro e; injection e with e; have := HFs.out _ (h63.blk ad he).1; omega)
theorem q_pop_none (h : Qs F w p room []) :
    Calls Try.prog 51 #[.pointer (some ⟨p, 0, none⟩)] w fun e w' => e = .returned (.tuple #[.agg #[.int .i64 0, .int .i64 0, .int .i64 0, .int .i64 0, .int .i64 0, .int .i64 0, .int .i64 0, .int .i64 0, .slice none 0 0], .bool false]) ∧ Below w.heap.size w w' := by
  have HP : ∀ o, Calls Try.prog 65 #[.pointer (some ⟨p, 0, none⟩), .int .i64 0] (w.alloc o) fun e w' => e = .returned (.tuple #[.agg #[.int .i64 0, .int .i64 0, .int .i64 0, .int .i64 0, .int .i64 0, .int .i64 0, .int .i64 0, .int .i64 0, .slice none 0 0], .bool false]) ∧ Below (w.alloc o).heap.size (w.alloc o) w' := fun o => q_peek_none (h.below ((Below.refl _ _).alloc (Nat.le_refl _) o))
  have HP' := Lib.hid HP
  clear HP
  go_enter Try.func51, Try.ntmps51
  go_wp2_with fail
  refine (HP'.out _).mono ?_
  rintro e w1 ⟨rfl, hb1⟩
  obtain ⟨hz, hb⟩ := pk_new hb1
  clear hb1 HP'
  have hzq := Bk.new w1 65 [.int .i64 0, .int .i64 0, .int .i64 0, .int .i64 0, .int .i64 0, .int .i64 0, .int .i64 0, .int .i64 0, .slice none 0 0]
  have hz' := hz.alloc (.cells (List.toArray [.int .i64 0, .int .i64 0, .int .i64 0, .int .i64 0, .int .i64 0, .int .i64 0, .int .i64 0, .int .i64 0, .slice none 0 0]) 65)
  have hb' := hb.alloc hb.size (.cells (List.toArray [.int .i64 0, .int .i64 0, .int .i64 0, .int .i64 0, .int .i64 0, .int .i64 0, .int .i64 0, .int .i64 0, .slice none 0 0]) 65)
  clear hz
  go_wp2_with (first
    | (with_reducible refine at_load 65 (.tmp 4) (by rfl) ?_; refine wpList_load_pk rowP rfl (.tmp 4) rfl zPv w1.heap.size 0 rfl (Bk.pk (q := zPv) hzq) ?_)
    | (with_reducible refine at_store 65 (.tmp 2) (.tmp 25) (by rfl) ?_; refine wpList_put_pk rowP rfl (.tmp 2) (.tmp 25) rfl w.heap.size rfl hz' rfl zPv rfl ?_; rintro w5 hz5 hw5))
  exact bodyPost_ret (results_cell_tmp rfl rfl (load_pk rowP hz5)) rfl ⟨rfl, hb'.trans (hw5.below (Nat.le_refl _) hb'.size)⟩
theorem q_clone (A : Option Addr) (n c : Nat) (hn : n = qs.length) (h : RdR 9 w A n c (flat Pv.cl qs)) (hl : n ≤ 1000000) :
    Calls Try.prog 80 #[.slice A n c] w (MadeQ qs w) := by
  cases A with
  | none =>
    obtain rfl : c = 0 := h.2.2.2.1 rfl
    obtain rfl : n = 0 := by have := h.2.1; omega
    obtain rfl : qs = [] := List.eq_nil_of_length_eq_zero hn.symm
    have he : (binOp .eql 34 (.slice none 0 0) (.slice none 0 0)).run Try.prog w = .ok (.bool true) w := Lib.run_eql_slice_nil w _ _ none 0 0 0 0 eltP.ht
    clear h hn hl
    go_enter Try.func80, Try.ntmps80
    go_wp2
    go_ret
    exact ⟨none, 0, 0, rfl, rfl, LstR.nil _ _ _ _, Below.refl _ _⟩
  | some a =>
    have he : (binOp .eql 34 (.slice (some a) n c) (.slice none 0 0)).run Try.prog w = .ok (.bool false) w := Lib.run_eql_slice_nil w _ _ (some a) n c 0 0 eltP.ht
    have hlm : LstR 9 65 (BlkOf (some ⟨w.heap.size, 0, none⟩)) (w.alloc (.cells #[] 65)) (some ⟨w.heap.size, 0, none⟩) 0 0 [] := (LstR.made 9 w 65 #[] 0 0 [] rfl (Nat.le_refl _) (by simp) (Nat.zero_le _) (by simp) (by simp)).tight
    have hr := h.alloc (.cells #[] 65)
    have HN := Lib.hid hn
    clear hn
    go_enter Try.func80, Try.ntmps80
    go_wp2_with (at_builtin
                 refine wpList_append_lstR eltP rfl (.tmp 5) (.tmp 6) rfl rfl hlm rfl hr (by omega) ?_
                 rintro v w1 ⟨⟨A', n', c', rfl, hl'⟩, hst⟩)
    rw [List.nil_append] at hl'
    have hn' : n' = qs.length := by have h1 : _ = n' * 9 := hl'.1; rw [flat_len Pv.cl_len] at h1; omega
    have HN2 := Lib.hid hn'
    clear hn'
    go_ret
    refine ⟨A', n', c', rfl, HN2.out, hl'.mono ?_, ?_⟩
    · rintro k (⟨ad, he, rfl⟩ | hk)
      · injection he with he; subst he; exact Nat.le_refl _
      · simp at hk; omega
    · refine ((Below.refl _ w).alloc (Nat.le_refl _) (.cells #[] 65)).trans (hst.below (by simp) ?_)
      rintro k ⟨ad, he, rfl⟩
      injection he with he; subst he; exact Nat.le_refl _
theorem q_list (h : Qs F w p room qs) :
    Calls Try.prog 69 #[.pointer (some ⟨p, 0, none⟩)] w (MadeQ qs w) := by
  obtain ⟨h1, h2, h3, h4, A, n, c, hn, h5, h6, h7, h8⟩ := h
  have c1 := h5.cell 1 rfl
  have HC := Lib.hid (q_clone A n c hn h6.rd (by omega))
  clear hn
  go_enter Try.func69, Try.ntmps69
  go_wp2_with fail
  refine (q_made p room _ w h5 h2).mono ?_
  rintro e w' ⟨rfl, rfl⟩
  go_wp2_with fail
  refine HC.out.mono ?_
  rintro e w' ⟨A', n', c', rfl, hn', hl, hb⟩
  have HN := Lib.hid hn'
  clear hn'
  go_wp2
  go_ret
  exact ⟨A', n', c', rfl, HN.out, hl, hb⟩
end
end Go.Proofs.Ytboclbanccfbjaa
namespace Go.Proofs.Ytboclbanccfbjaa
set_option linter.unusedSimpArgs false
set_option linter.unusedVariables false
set_option maxRecDepth 100000
open Go.RowKit Go.Shelf
theorem MadeP.below {F : Nat → Prop} {w w1 w' : World} {p : Pk} {q : Pv} (hb : Below w.heap.size w w1) (h : MadeP F w1 p q w') : MadeP F w p q w' := ⟨h.1, h.2.1, below_on hb h.2.2⟩
theorem Wr.on {w w1 w' : World} {g : Nat} (hb : Below w.heap.size w w1) (hw : Wr g w1 w') (hg : w.heap.size ≤ g) : Below w.heap.size w w' := hb.trans (hw.below hg hb.size)
/-- A value that reads off F goes on to read where a block of the call's own has turned. -/
theorem PvR.wr {F : Nat → Prop} {w w' : World} {q : Pv} {g : Nat} (h : PvR F w q) (hw : Wr g w w') (hg : 0 < q.n → ∀ ad, q.A = some ad → ad.block ≠ g) : PvR F w' q :=
  ⟨h.1.wr' hg hw, h.2⟩
section
variable {F : Nat → Prop} {w : World} {q : Pv}
theorem p_alike {G : Nat → Prop} (h : PvR G w q) (hF : ∀ k, F k → k < w.heap.size) :
    Calls Try.prog 54 #[.agg #[.int .i64 q.h.kd, .int .i64 q.h.fl, .int .i64 q.h.pa, .int .i64 q.h.sr, .int .i64 q.h.ds, .int .i64 q.h.cn, .int .i64 q.h.sq, .int .i64 q.h.pu, .slice q.A q.n q.c]] w fun e w' => ∃ q', e = .returned (.agg #[.int .i64 q'.h.kd, .int .i64 q'.h.fl, .int .i64 q'.h.pa, .int .i64 q'.h.sr, .int .i64 q'.h.ds, .int .i64 q'.h.cn, .int .i64 q'.h.sq, .int .i64 q'.h.pu, .slice q'.A q'.n q'.c]) ∧ MadeP F w q.pk q' w' := by
  have hwf := Lib.hid h.1.2.2.2.2.1
  have hl := Lib.hid h.1.1
  have hn := h.2.1
  have HF := Lib.hid hF
  have Hfl := Lib.hid h.fl
  have hr := h.1
  clear hF h
  go_enter Try.func54, Try.ntmps54
  go_wp2_with fail
  refine (clone_any q.A q.n q.c q.xs _ (by exact (hr.alloc _).alloc _) (by omega)).mono ?_
  rintro e w1 ⟨v, rfl, hown, hb1⟩
  have HO : ∃ A' c', v = .slice A' q.n c' := by obtain ⟨A', c', h1, _⟩ := hown.rd hwf.out; exact ⟨A', c', by rw [h1, hl.out]⟩
  obtain ⟨A', c', rfl⟩ := HO
  obtain ⟨hx, hy, hc⟩ := pk_new2 hb1
  have hown2 := own_set (hown.mono (B := w.heap.size + 2) (by simp)) (p := ⟨w.heap.size, 8, none⟩) (u := .slice A' q.n c') (by simp)
  have hx2 : Bk (w1.setCell ⟨w.heap.size, 8, none⟩ (.slice A' q.n c')) 65 w.heap.size (Pv.cl ⟨q.h, A', q.n, c', q.xs⟩) := hx.set 8 (.slice A' q.n c')
  have hy2 := hy.far (p := ⟨w.heap.size, 8, none⟩) (by simp) (.slice A' q.n c')
  have hc2 := hc.setCell (p := ⟨w.heap.size, 8, none⟩) (Nat.le_refl w.heap.size) (.slice A' q.n c')
  have c8 := hx.cell 8 rfl
  have f8 := hx.free 8
  have HW := Lib.hid hown2
  clear hown hown2 hb1 hx hy hc hr
  go_wp2_with (first
    | (with_reducible refine at_load 65 (.tmp 1) (by rfl) ?_; refine wpList_load_pk rowP rfl (.tmp 1) rfl ⟨q.h, A', q.n, c', q.xs⟩ w.heap.size 0 rfl (Bk.pk (q := ⟨q.h, A', q.n, c', q.xs⟩) hx2) ?_)
    | (with_reducible refine at_store 65 (.tmp 2) (.tmp 7) (by rfl) ?_; refine wpList_put_pk rowP rfl (.tmp 2) (.tmp 7) rfl (w.heap.size + 1) rfl hy2 rfl ⟨q.h, A', q.n, c', q.xs⟩ rfl ?_; rintro w5 hz5 hw5))
  have hown5 : Ow .u8 5 w.heap.size w5 (.slice A' q.n c') q.xs := by
    have h1 := HW.out
    refine Ow.mono (base := w.heap.size + 2) ?_ (by omega)
    refine ⟨h1.1, ?_⟩
    rcases h1.2 with hn | ⟨b, cap, cur, hv, hb, hh, r⟩
    · exact .inl hn
    · exact .inr ⟨b, cap, cur, hv, hb, (hw5.block b (Array.getElem?_eq_some_iff.1 hh).1 (by intro e; injection e; omega)).trans hh, r⟩
  refine bodyPost_ret (results_cell rfl rfl (load_pk rowP hz5)) rfl ⟨⟨q.h, A', q.n, c', q.xs⟩, rfl, rfl, PvR.own hown5 hwf.out (by omega) Hfl.out HF.out, hc2.trans (hw5.below (by omega) hc2.size)⟩
def Pk.ret (p : Pk) : Pk := p.trim.bnc
def Pk.retB (p : Pk) : Bool := p.trim.bncB
theorem PvR.off {F : Nat → Prop} {w w' : World} {q : Pv} {g : Nat} (h : PvR (fun k => F k ∨ k = g) w q) (hw : Wr g w w') : PvR F w' q :=
  (h.wr hw fun hn ad he e => h.2.2.2 hn ad he (.inr e)).mono fun k hk => .inl hk
theorem gr_box (F : Nat → Prop) {n g : Nat} (h : n ≤ g) : Gr F (fun k => F k ∨ k = g) n := fun k hk => by
  rcases hk with hk | hk
  · exact .inl hk
  · exact .inr (by omega)
theorem p_returned {G : Nat → Prop} (h : PvR G w q) (hF : ∀ k, F k → k < w.heap.size) :
    Calls Try.prog 62 #[.agg #[.int .i64 q.h.kd, .int .i64 q.h.fl, .int .i64 q.h.pa, .int .i64 q.h.sr, .int .i64 q.h.ds, .int .i64 q.h.cn, .int .i64 q.h.sq, .int .i64 q.h.pu, .slice q.A q.n q.c]] w fun e w' => ∃ q', e = .returned (.tuple #[.agg #[.int .i64 q'.h.kd, .int .i64 q'.h.fl, .int .i64 q'.h.pa, .int .i64 q'.h.sr, .int .i64 q'.h.ds, .int .i64 q'.h.cn, .int .i64 q'.h.sq, .int .i64 q'.h.pu, .slice q'.A q'.n q'.c], .bool q.pk.retB]) ∧ MadeP F w q.pk.ret q' w' := by
  have HF := Lib.hid hF
  have HT : ∀ o o', Calls Try.prog 63 #[.agg #[.int .i64 q.h.kd, .int .i64 q.h.fl, .int .i64 q.h.pa, .int .i64 q.h.sr, .int .i64 q.h.ds, .int .i64 q.h.cn, .int .i64 q.h.sq, .int .i64 q.h.pu, .slice q.A q.n q.c]] ((w.alloc o).alloc o') fun e w' => ∃ q', e = .returned (.tuple #[.agg #[.int .i64 q'.h.kd, .int .i64 q'.h.fl, .int .i64 q'.h.pa, .int .i64 q'.h.sr, .int .i64 q'.h.ds, .int .i64 q'.h.cn, .int .i64 q'.h.sq, .int .i64 q'.h.pu, .slice q'.A q'.n q'.c], .bool q.pk.trimB]) ∧ MadeP (fun k => F k ∨ k = w.heap.size + 1) ((w.alloc o).alloc o') q.pk.trim q' w' := fun o o' =>
    p_trim (h.below (((Below.refl _ _).alloc (Nat.le_refl _) o).alloc (by simp) o')) (fun k hk => by rcases hk with hk | hk; (have := hF k hk; simp; omega); (simp; omega))
  have HT' := Lib.hid HT
  clear HT hF h
  go_enter Try.func62, Try.ntmps62
  go_wp2_with fail
  refine (HT'.out _ _).mono ?_
  rintro e w1 ⟨q1, rfl, hq1, hr1, hb1⟩
  obtain ⟨hx, hy, hc⟩ := pk_new2 hb1
  have hF1 : ∀ k, (F k ∨ k = w.heap.size + 1) → k < w1.heap.size := fun k hk => by
    rcases hk with hk | hk
    · exact Nat.lt_of_lt_of_le (HF.out k hk) hc.size
    · have := hy.lt; omega
  have hz4 := Bk.new w1 65 [.int .i64 q1.h.kd, .int .i64 q1.h.fl, .int .i64 q1.h.pa, .int .i64 q1.h.sr, .int .i64 q1.h.ds, .int .i64 q1.h.cn, .int .i64 q1.h.sq, .int .i64 q1.h.pu, .slice q1.A q1.n q1.c]
  have hc1 := hc.alloc hc.size (.cells (List.toArray [.int .i64 q1.h.kd, .int .i64 q1.h.fl, .int .i64 q1.h.pa, .int .i64 q1.h.sr, .int .i64 q1.h.ds, .int .i64 q1.h.cn, .int .i64 q1.h.sq, .int .i64 q1.h.pu, .slice q1.A q1.n q1.c]) 65)
  have hy1 := hy.alloc (.cells (List.toArray [.int .i64 q1.h.kd, .int .i64 q1.h.fl, .int .i64 q1.h.pa, .int .i64 q1.h.sr, .int .i64 q1.h.ds, .int .i64 q1.h.cn, .int .i64 q1.h.sq, .int .i64 q1.h.pu, .slice q1.A q1.n q1.c]) 65)
  have HB := Lib.hid (p_bounce (hr1.below ((Below.refl _ _).alloc (Nat.le_refl _) (.cells (List.toArray [.int .i64 q1.h.kd, .int .i64 q1.h.fl, .int .i64 q1.h.pa, .int .i64 q1.h.sr, .int .i64 q1.h.ds, .int .i64 q1.h.cn, .int .i64 q1.h.sq, .int .i64 q1.h.pu, .slice q1.A q1.n q1.c]) 65))) (fun k hk => by have := hF1 k hk; simp; omega))
  clear hx hy hc hb1 HT'
  go_wp2_with (first
    | (with_reducible refine at_load 65 (.tmp 1) (by rfl) ?_; refine wpList_load_pk rowP rfl (.tmp 4) rfl q1 w1.heap.size 0 rfl (Bk.pk (q := q1) hz4) ?_)
    | (go_at_call 75; refine HB.out.mono ?_; rintro e w2 ⟨q2, rfl, hq2, hr2, hb2⟩; have hy2 := hy1.below hb2; clear hy1 hz4)
    | (with_reducible refine at_store 65 (.tmp 2) (.tmp 13) (by rfl) ?_; refine wpList_put_pk rowP rfl (.tmp 2) (.tmp 13) rfl (w.heap.size + 1) rfl hy2 rfl q2 rfl ?_; rintro w5 hz5 hw5))
  rw [hq1] at hq2
  have hc5 := below_on hc1 hb2
  exact bodyPost_ret (results_cell_tmp rfl rfl (load_pk rowP hz5)) rfl ⟨q2, rfl, hq2, hr2.off hw5, Wr.on hc5 hw5 (by omega)⟩
theorem p_heavy (h : PvR F w q) :
    Calls Try.prog 79 #[.agg #[.int .i64 q.h.kd, .int .i64 q.h.fl, .int .i64 q.h.pa, .int .i64 q.h.sr, .int .i64 q.h.ds, .int .i64 q.h.cn, .int .i64 q.h.sq, .int .i64 q.h.pu, .slice q.A q.n q.c]] w fun e w' => e = .returned (.bool q.pk.heavy) ∧ Below w.heap.size w w' := by
  have hl := h.len
  have HE : Hid (q.pk.heavy = (q.h.kd == 1 && decide ((0 : Int) < q.n))) := Lib.hid (by unfold Pk.heavy Pv.pk; rw [hl]; simp)
  clear h hl
  by_cases hk : q.h.kd = 1
  · go_enter Try.func79, Try.ntmps79
    go_wp2
    go_ret
    exact ⟨by rw [HE.out]; simp [hk], (Below.refl _ _).alloc (Nat.le_refl _) _⟩
  · have hk' : (q.h.kd == 1) = false := by simpa using hk
    go_enter Try.func79, Try.ntmps79
    go_wp2
    go_ret
    exact ⟨by rw [HE.out]; simp [hk'], (Below.refl _ _).alloc (Nat.le_refl _) _⟩
/-- What is told of a list of packets: a slice of its own, whose packets lie off F. -/
def MadeA (F : Nat → Prop) (w : World) (ps : List Pk) (en : Ending) (w' : World) : Prop :=
  ∃ A n c rs, en = .returned (.slice A n c) ∧ n = rs.length ∧ rs.map Pv.pk = ps ∧ LstR 9 65 (w.heap.size ≤ ·) w' A n c (flat Pv.cl rs) ∧ (∀ r ∈ rs, PvR F w' r) ∧ Below w.heap.size w w'
theorem MadeA.below {w w1 w' : World} {ps : List Pk} {en : Ending} (hb : Below w.heap.size w w1) (h : MadeA F w1 ps en w') : MadeA F w ps en w' := by
  obtain ⟨A, n, c, rs, h1, h2, h3, h4, h5, h6⟩ := h
  exact ⟨A, n, c, rs, h1, h2, h3, h4.mono fun k hk => by have := hb.size; omega, h5, below_on hb h6⟩
/-- A packet is laid into a list. -/
theorem wpList_lay_pk {P : Program} {w : World} {ops : Array Oper} {rest : List Oper} {op : Oper} {a : Act} {Q : Exit → Act → World → Prop} {e : TypeId} {g o n c i : Nat} {cs : List Value} {F : Nat → Prop} (R : Row P e 9) (hgd : op.guard = none) (x y : Operand) (ho : op.op = .store e x y)
    (h : LstR 9 e F w (some ⟨g, o, none⟩) n c cs) (hi : i < n) (hx : a.eval x = .pointer (some ⟨g, o + i * 9, none⟩)) (q : Pv) (hy : a.eval y = .agg #[.int .i64 q.h.kd, .int .i64 q.h.fl, .int .i64 q.h.pa, .int .i64 q.h.sr, .int .i64 q.h.ds, .int .i64 q.h.cn, .int .i64 q.h.sq, .int .i64 q.h.pu, .slice q.A q.n q.c])
    (hq : ∀ w', LstR 9 e F w' (some ⟨g, o, none⟩) n c (lay cs (i * 9) q.cl) → Wr g w w' → wpList P ops Q rest (a.put op.dst undef) w') : wpList P ops Q (op :: rest) a w :=
  wpList_store_mid hgd e x y ho g (o + i * 9) q.cl.toArray hx hy (h.there hi) R.hi (all_oneCell_toArray q.cl_one) (hq _ (h.lay hi q.cl_len q.cl_one) (Wr.setCells g _ _ w))
set_option maxHeartbeats 4000000 in
set_option maxRecDepth 100000 in
theorem p_allAlike {p room : Nat} {Fq G : Nat → Prop} {qs : List Pv} (h : Qs Fq w p room qs) (hq : ∀ r ∈ qs, PvR G w r) (hF : ∀ k, F k → k < w.heap.size) :
    Calls Try.prog 57 #[.pointer (some ⟨p, 0, none⟩)] w (MadeA F w (qs.map Pv.pk)) := by
  have HL := Lib.hid (q_list h)
  have h1024 : qs.length ≤ 1024 := Nat.le_trans h.2.2.2.1 h.2.2.1
  have HQ := Lib.hid hq
  have HF := Lib.hid hF
  clear h hq hF
  go_enter Try.func57, Try.ntmps57
  go_wp2_with fail
  refine HL.out.mono ?_
  rintro e w1 ⟨A, n, c, rfl, hn, hl, hb⟩
  have HN := Lib.hid hn
  have hnl : n ≤ 1024 := by omega
  have HB := Lib.hid hb
  have HLs := Lib.hid hl
  clear hn HL hl hb
  go_wp2
  go_loopw [10] (fun v wr => ∃ (i : Nat) (rs : List Pv), v = .int .i64 i ∧ i ≤ n ∧ rs.length = i ∧ rs.map Pv.pk = (qs.take i).map Pv.pk ∧ (∀ r ∈ rs, PvR (fun k => F k ∨ BlkOf A k) wr r) ∧ LstR 9 65 (BlkOf A) wr A n c (flat Pv.cl (rs ++ qs.drop i)) ∧ Below w.heap.size w wr) (fun v _ => n - (intOf v).toNat)
  case atStart => exact ⟨0, [], rfl, Nat.zero_le _, rfl, rfl, by simp, HLs.out.tight, HB.out⟩
  case round =>
    obtain ⟨i, rs, rfl, hi, hrl, hrm, hrr, hls, hb⟩ := hrel
    have hAw : ∀ k, BlkOf A k → w.heap.size ≤ k := by
      rintro k ⟨ad, he, rfl⟩
      exact (HLs.out.blk ad he).1
    by_cases hlt : i < n
    · have hlt' : i < qs.length := by have := HN.out; omega
      obtain ⟨g, o, rfl, hg, hra⟩ := hls.rd.range hlt
      rw [flat_row Pv.cl_len (rs ++ qs.drop i) i (by simp; omega)] at hra
      have hqi : (rs ++ qs.drop i)[i]'(by simp; omega) = qs[i] := by
        rw [List.getElem_append_right (by omega), List.getElem_drop]
        congr 1; omega
      rw [hqi] at hra
      have hq := HQ.out qs[i] (List.getElem_mem _)
      have hset : ∀ q', (rs ++ qs.drop i).set i q' = (rs ++ [q']) ++ qs.drop (i + 1) := fun q' => by
        rw [List.set_append_right _ _ (by omega), hrl, Nat.sub_self, List.drop_eq_getElem_cons hlt', List.set_cons_zero, List.append_assoc]
        rfl
      have htk : (qs.take (i + 1)).map Pv.pk = rs.map Pv.pk ++ [qs[i].pk] := by rw [List.take_succ_eq_append_getElem hlt', List.map_append, ← hrm]; rfl
      generalize qs[i] = q at *
      have hqw := (hq.below hb).below ((Below.refl _ _).alloc (Nat.le_refl _) (.cells (List.toArray [.int .i64 q.h.kd, .int .i64 q.h.fl, .int .i64 q.h.pa, .int .i64 q.h.sr, .int .i64 q.h.ds, .int .i64 q.h.cn, .int .i64 q.h.sq, .int .i64 q.h.pu, .slice q.A q.n q.c]) 65))
      have hbd : ∀ k, (F k ∨ BlkOf (some ⟨g, o, none⟩) k) → k < (wr.alloc (.cells (List.toArray [.int .i64 q.h.kd, .int .i64 q.h.fl, .int .i64 q.h.pa, .int .i64 q.h.sr, .int .i64 q.h.ds, .int .i64 q.h.cn, .int .i64 q.h.sq, .int .i64 q.h.pu, .slice q.A q.n q.c]) 65)).heap.size := by
        intro k hk
        rw [World.size_alloc]
        have := hb.size
        rcases hk with hk | hk
        · have := HF.out k hk; omega
        · obtain ⟨ad, he, rfl⟩ := hk
          have := (hls.blk ad he).2; omega
      have HA := Lib.hid (p_alike (F := fun k => F k ∨ BlkOf (some ⟨g, o, none⟩) k) hqw hbd)
      have hzq := Bk.new wr 65 [.int .i64 q.h.kd, .int .i64 q.h.fl, .int .i64 q.h.pa, .int .i64 q.h.sr, .int .i64 q.h.ds, .int .i64 q.h.cn, .int .i64 q.h.sq, .int .i64 q.h.pu, .slice q.A q.n q.c]
      have HRL := Lib.hid hrl
      have HRM := Lib.hid hrm
      have HSet := Lib.hid hset
      have HTk := Lib.hid htk
      have hlsa := hls.alloc (.cells (List.toArray [.int .i64 q.h.kd, .int .i64 q.h.fl, .int .i64 q.h.pa, .int .i64 q.h.sr, .int .i64 q.h.ds, .int .i64 q.h.cn, .int .i64 q.h.sq, .int .i64 q.h.pu, .slice q.A q.n q.c]) 65)
      clear hrl hrm hset htk hqi hq hqw hbd
      go_wp2_with (first
        | (with_reducible refine at_load 65 (.tmp 13) (by rfl) ?_; refine wpList_load_pk rowP rfl (.tmp 13) rfl q g (o + i * 9) rfl hra ?_)
        | (with_reducible refine at_load 65 (.tmp 5) (by rfl) ?_; refine wpList_load_pk rowP rfl (.tmp 5) rfl q wr.heap.size 0 rfl (Bk.pk (q := q) hzq) ?_)
        | (go_at_call 54; refine HA.out.mono ?_; rintro e w2 ⟨q', rfl, hq', hr', hb2⟩; have hls2 := hlsa.below hb2; clear hzq hlsa)
        | (with_reducible refine at_store 65 (.tmp 19) (.tmp 18) (by rfl) ?_; refine wpList_lay_pk rowP rfl (.tmp 19) (.tmp 18) rfl hls2 hlt rfl q' rfl ?_; rintro w3 hls3 hw3))
      rw [← flat_set Pv.cl_len _ i (by rw [List.length_append, List.length_drop, HRL.out]; omega), HSet.out] at hls3
      have hb3 : Below w.heap.size w w3 := ((hb.alloc hb.size _).trans (hb2.mono (by have := hb.size; simp; omega))).trans (hw3.below (hAw g ⟨_, rfl, rfl⟩) (by have := hb.size; have := hb2.size; simp at this; omega))
      have hrr3 : ∀ r ∈ rs ++ [q'], PvR (fun k => F k ∨ BlkOf (some ⟨g, o, none⟩) k) w3 r := by
        intro r hr
        have hoff : PvR (fun k => F k ∨ BlkOf (some ⟨g, o, none⟩) k) w2 r := by
          rcases List.mem_append.1 hr with hr | hr
          · exact ((hrr r hr).below ((Below.refl _ _).alloc (Nat.le_refl _) _)).below hb2
          · rw [List.mem_singleton.1 hr]; exact hr'
        exact hoff.wr hw3 fun hn ad he e => hoff.2.2.2 hn ad he (.inr ⟨_, rfl, e.symm⟩)
      have HRel := Lib.hid (show (rs ++ [q']).map Pv.pk = (qs.take (i + 1)).map Pv.pk by rw [HTk.out, List.map_append, ← hq']; rfl)
      clear hls2 hls hra hrr HA
      go_wp2
      go_roundw
      case rel => exact ⟨i + 1, rs ++ [q'], by go_num, by omega, by rw [List.length_append, HRL.out]; rfl, HRel.out, hrr3, hls3, hb3⟩
      case measure => simp [intOf]; omega
    · obtain rfl : i = n := by omega
      have hd : qs.drop i = [] := List.drop_of_length_le (by have := HN.out; omega)
      have htk : qs.take i = qs := List.take_of_length_le (by have := HN.out; omega)
      rw [hd, List.append_nil] at hls
      rw [htk] at hrm
      have HRL := Lib.hid hrl
      have HRM := Lib.hid hrm
      clear hd htk hrl hrm
      go_wp2
      go_ret
      exact ⟨A, i, c, rs, rfl, HRL.out.symm, HRM.out, hls.mono hAw, fun r hr => (hrr r hr).mono fun k hk => .inl hk, hb⟩
end
end Go.Proofs.Ytboclbanccfbjaa
