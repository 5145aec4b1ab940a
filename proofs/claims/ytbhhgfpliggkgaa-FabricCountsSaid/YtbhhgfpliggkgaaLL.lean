/- Slices of one-cell elements of any type: one that reads as a list of values; one that the call owns, wherever in its block it begins; what a set of blocks leaves alone. -/
import Derived.Test.YtbhhgfpliggkgaaKK
import Derived.Deep.AppendSrc
import Derived.OwnWalkIn
import Derived.Deep.MidRow
import Derived.Deep.WholeRow
import Derived.DeepKeys
set_option linter.unusedSimpArgs false
set_option linter.unusedVariables false
namespace Go.Proofs.Ytbhhgfpliggkgaa
open Go.RowKit Go.Shelf

/-- All but the blocks of F is as it was. -/
structure St (F : Nat → Prop) (w w' : World) : Prop where
  os : w'.os = w.os
  tape : w'.tape = w.tape
  output : w'.output = w.output
  size : w.heap.size ≤ w'.heap.size
  block : ∀ k, k < w.heap.size → ¬ F k → w'.heap[k]? = w.heap[k]?
/-- What F' has beyond F is new from n on. -/
def Gr (F F' : Nat → Prop) (n : Nat) : Prop := ∀ k, F' k → F k ∨ n ≤ k
theorem Gr.refl (F : Nat → Prop) (n : Nat) : Gr F F n := fun _ h => .inl h
theorem Gr.trans {F F' F'' : Nat → Prop} {n m : Nat} (h : Gr F F' n) (k : Gr F' F'' m) (hm : n ≤ m) : Gr F F'' n := fun i hi => by
  rcases k i hi with h1 | h1
  · exact h i h1
  · exact .inr (by omega)
theorem Gr.not {F F' : Nat → Prop} {n k : Nat} (h : Gr F F' n) (hk : k < n) (hF : ¬ F k) : ¬ F' k := fun hf => by
  rcases h k hf with h1 | h1
  · exact hF h1
  · omega
theorem Gr.ge {F F' : Nat → Prop} {n B : Nat} (h : Gr F F' n) (hF : ∀ k, F k → B ≤ k) (hn : B ≤ n) : ∀ k, F' k → B ≤ k := fun k hk => by
  rcases h k hk with h1 | h1
  · exact hF k h1
  · omega
theorem St.refl (F : Nat → Prop) (w : World) : St F w w := ⟨rfl, rfl, rfl, Nat.le_refl _, fun _ _ _ => rfl⟩
theorem St.mono {F F' : Nat → Prop} {w w' : World} (h : St F w w') (hF : ∀ k, k < w.heap.size → F k → F' k) : St F' w w' := ⟨h.os, h.tape, h.output, h.size, fun k hk hn => h.block k hk fun hf => hn (hF k hk hf)⟩
theorem St.trans {F F' : Nat → Prop} {a b c : World} (h : St F a b) (k : St F' b c) (g : Gr F F' a.heap.size) : St F a c :=
  ⟨k.os.trans h.os, k.tape.trans h.tape, k.output.trans h.output, Nat.le_trans h.size k.size, fun i hi hn => (k.block i (by have := h.size; omega) (g.not hi hn)).trans (h.block i hi hn)⟩
theorem St.tr (F : Nat → Prop) : Tr (St F) := ⟨fun w => St.refl F w, fun _ _ _ h k => h.trans k (Gr.refl _ _)⟩
theorem St.of_below {F : Nat → Prop} {B : Nat} {w w' : World} (h : Below B w w') (hF : ∀ k, k < w.heap.size → ¬ F k → k < B) : St F w w' := ⟨h.os, h.tape, h.output, h.size, fun k hk hn => h.block k (hF k hk hn)⟩
theorem St.ext {F : Nat → Prop} {w w' : World} (h : Below w.heap.size w w') : St F w w' := St.of_below h fun _ hk _ => hk
theorem St.below {F : Nat → Prop} {B : Nat} {w w' : World} (h : St F w w') (hB : B ≤ w.heap.size) (hF : ∀ k, F k → B ≤ k) : Below B w w' :=
  ⟨h.os, h.tape, h.output, h.size, fun k hk => h.block k (by omega) fun hf => by have := hF k hf; omega⟩
theorem St.alloc (F : Nat → Prop) (w : World) (o : Obj) : St F w (w.alloc o) := St.ext ((Below.refl _ _).alloc (Nat.le_refl _) o)
theorem St.setCell {F : Nat → Prop} (w : World) {a : Addr} (ha : F a.block) (v : Value) : St F w (w.setCell a v) :=
  ⟨rfl, rfl, rfl, by simp [World.setCell], fun k _ hk => Below.heap_setCell w a v k (by intro e; exact hk (by rw [e]; exact ha))⟩
theorem St.cell {F : Nat → Prop} {w w' : World} (h : St F w w') {p : Addr} (hs : p.block < w.heap.size) (hp : ¬ F p.block) : w'.cell? p = w.cell? p := World.cell?_of_block (h.block _ hs hp)
theorem St.grown {F : Nat → Prop} {w w' : World} {r : Option Nat} (h : w.grownBy w' r) (hr : ∀ k, r = some k → F k) : St F w w' :=
  ⟨h.os, h.tape, h.output, h.size, fun k hk hn => h.block k hk fun e => hn (hr k e.symm)⟩
theorem Bk.st {w w' : World} {t : TypeId} {g : Nat} {vs : List Value} (h : Bk w t g vs) {F : Nat → Prop} (hs : St F w w') (hg : ¬ F g) : Bk w' t g vs := (hs.block g h.lt hg).trans h
theorem Rd.st {k : IntKind} {w w' : World} {A : Option Addr} {n c : Nat} {xs : List Int} (h : Rd k w A n c xs) {F : Nat → Prop} (hs : St F w w') (hA : 0 < n → ∀ ad, A = some ad → ¬ F ad.block) : Rd k w' A n c xs := by
  obtain ⟨h1, h2, h3, h4, h5, h6⟩ := h
  refine ⟨h1, h2, h3, h4, h5, fun hn => ?_⟩
  obtain ⟨g, o, e, hg, hx⟩ := h6 hn
  exact ⟨g, o, e, by have := hs.size; omega, fun i hi => (hs.cell (p := ⟨g, o + i, none⟩) hg (show ¬ F g from hA hn _ e)).trans (hx i hi)⟩

theorem cells_one {v : Value} (h : v.oneCell' = true) : v.cells = #[v] := by cases v <;> simp_all [Value.oneCell', Value.cells]
/-! ### The element types -/
/-- In P, type t is a slice of type e, whose elements are one cell, at first z, of so many bytes. -/
structure Elt (P : Program) (t e : TypeId) (z : Value) (bytes : Nat) : Prop where
  ht : P.underlying t = some (.slice e)
  hi : (P.info? e).map (fun i => (i.zero, i.size, i.bytes)) = some (some z, 1, bytes)
  hz : z.cells = #[z]
  h1 : z.oneCell' = true
  hb : 0 < bytes

/-- The slice (A, n, c) reads in w as the values vs. -/
def RdV (w : World) (A : Option Addr) (n c : Nat) (vs : List Value) : Prop :=
  vs.length = n ∧ n ≤ c ∧ c ≤ maxLen ∧ (A = none → c = 0) ∧ (∀ v ∈ vs, v.oneCell' = true) ∧
  (0 < n → ∃ g o, A = some ⟨g, o, none⟩ ∧ g < w.heap.size ∧ ∀ i, i < n → w.cell? ⟨g, o + i, none⟩ = vs[i]?)

section
variable {w w' : World} {A : Option Addr} {n c : Nat} {vs : List Value}
theorem Rd.rdv {k : IntKind} {xs : List Int} (h : Rd k w A n c xs) : RdV w A n c (xs.map (.int k)) := by
  obtain ⟨h1, h2, h3, h4, h5, h6⟩ := h
  refine ⟨by simpa using h1, h2, h3, h4, ?_, fun hn => ?_⟩
  · intro v hv
    obtain ⟨x, _, rfl⟩ := List.mem_map.1 hv
    rfl
  · obtain ⟨g, o, e, hg, hx⟩ := h6 hn
    refine ⟨g, o, e, hg, fun i hi => ?_⟩
    rw [hx i hi, List.getElem?_map, List.getElem?_eq_getElem (by omega)]
    simp [show i < xs.length from by omega]
theorem RdV.rd {k : IntKind} {xs : List Int} (h : RdV w A n c (xs.map (.int k))) (hwf : ∀ x ∈ xs, (Lit.int k x).wf = true) : Rd k w A n c xs := by
  obtain ⟨h1, h2, h3, h4, h5, h6⟩ := h
  refine ⟨by simpa using h1, h2, h3, h4, hwf, fun hn => ?_⟩
  obtain ⟨g, o, e, hg, hx⟩ := h6 hn
  refine ⟨g, o, e, hg, fun i hi => ?_⟩
  have hl : i < xs.length := by simp at h1; omega
  rw [hx i hi, List.getElem?_map, List.getElem?_eq_getElem hl]
  simp [hl]
theorem RdV.st (h : RdV w A n c vs) {F : Nat → Prop} (hs : St F w w') (hA : 0 < n → ∀ ad, A = some ad → ¬ F ad.block) : RdV w' A n c vs := by
  obtain ⟨h1, h2, h3, h4, h5, h6⟩ := h
  refine ⟨h1, h2, h3, h4, h5, fun hn => ?_⟩
  obtain ⟨g, o, e, hg, hx⟩ := h6 hn
  exact ⟨g, o, e, by have := hs.size; omega, fun i hi => (hs.cell (p := ⟨g, o + i, none⟩) hg (show ¬ F g from hA hn _ e)).trans (hx i hi)⟩
theorem RdV.below (h : RdV w A n c vs) (hb : Below w.heap.size w w') : RdV w' A n c vs := h.st (F := fun _ => False) (St.ext hb) (fun _ _ _ => id)
theorem RdV.alloc (h : RdV w A n c vs) (o : Obj) : RdV (w.alloc o) A n c vs := h.below ((Below.refl _ _).alloc (Nat.le_refl _) o)
theorem RdV.blk (h : RdV w A n c vs) : 0 < n → ∀ ad, A = some ad → ad.block < w.heap.size := fun hn ad he => by
  obtain ⟨g, o, e, hg, _⟩ := h.2.2.2.2.2 hn
  rw [e] at he
  injection he with he
  subst he
  exact hg
theorem RdV.nil (w : World) : RdV w none 0 0 [] := ⟨rfl, Nat.le_refl _, Nat.zero_le _, fun _ => rfl, by simp, fun h => absurd h (by omega)⟩
theorem RdV.one (w : World) (e : TypeId) (x : Value) (hx : x.oneCell' = true) : RdV (w.alloc (.cells #[x] e)) (some ⟨w.heap.size, 0, none⟩) 1 1 [x] := by
  refine ⟨rfl, Nat.le_refl _, by decide, by simp, by simpa using hx, fun _ => ⟨w.heap.size, 0, rfl, by simp, fun i hi => ?_⟩⟩
  obtain rfl : i = 0 := by omega
  rw [cell_of_row _ _ _ _ _ _ (heap_alloc_new w _)]
  simp
theorem RdV.lit (w : World) (e : TypeId) (vs : List Value) (hx : ∀ x ∈ vs, x.oneCell' = true) (hl : vs.length ≤ 1000) : RdV (w.alloc (.cells vs.toArray e)) (some ⟨w.heap.size, 0, none⟩) vs.length vs.length vs := by
  refine ⟨rfl, Nat.le_refl _, by simp only [maxLen]; omega, by simp, hx, fun _ => ⟨w.heap.size, 0, rfl, by simp, fun i hi => ?_⟩⟩
  rw [cell_of_row _ _ _ _ _ _ (heap_alloc_new w _)]
  simp
theorem RdV.pre (h : RdV w A n c vs) {s : Nat} (hs : s ≤ n) : RdV w A s c (vs.take s) := by
  obtain ⟨h1, h2, h3, h4, h5, h6⟩ := h
  refine ⟨by simp; omega, by omega, h3, h4, fun x hx => h5 x (List.mem_of_mem_take hx), fun hn => ?_⟩
  obtain ⟨g, o, e, hg, hx⟩ := h6 (by omega)
  refine ⟨g, o, e, hg, fun i hi => ?_⟩
  rw [hx i (by omega), List.getElem?_take, if_pos hi]
theorem RdV.cut (h : RdV w A n c vs) {s : Nat} (hs : s ≤ n) : RdV w (cutA A c s) (n - s) (c - s) (vs.drop s) := by
  unfold cutA
  obtain ⟨h1, h2, h3, h4, h5, h6⟩ := h
  refine ⟨by simp; omega, by omega, by omega, ?_, fun x hx => h5 x (List.mem_of_mem_drop hx), fun hn => ?_⟩
  · split
    · omega
    · intro he
      have : A = none := by simpa using he
      have := h4 this
      omega
  · obtain ⟨g, o, rfl, hg, hx⟩ := h6 (by omega)
    rw [if_neg (by omega)]
    refine ⟨g, o + s, by simp [Addr.add], hg, fun i hi => ?_⟩
    rw [show o + s + i = o + (s + i) from by omega, hx (s + i) (by omega), List.getElem?_drop]
theorem RdV.cell (h : RdV w A n c vs) {i : Nat} (hi : i < n) : ∃ g o, A = some ⟨g, o, none⟩ ∧ g < w.heap.size ∧ w.cell? ⟨g, o + i, none⟩ = vs[i]? := by
  obtain ⟨g, o, e, hg, hx⟩ := h.2.2.2.2.2 (by omega)
  exact ⟨g, o, e, hg, hx i hi⟩
theorem RdV.src {P : Program} {t e : TypeId} (ht : P.underlying t = some (.slice e)) (h : RdV w A n c vs) : Src P 1 t (.slice A n c) n vs w := by
  obtain ⟨h1, h2, h3, h4, h5, h6⟩ := h
  cases A with
  | none =>
    obtain rfl : c = 0 := h4 rfl
    obtain rfl : n = 0 := by omega
    obtain rfl : vs = [] := List.eq_nil_of_length_eq_zero h1
    exact Src.ofNil w ht 0
  | some a =>
    refine Src.ofSlice w ht a n c vs (by omega) ?_ h5
    intro j u hu
    have hj : j < vs.length := by
      rcases Nat.lt_or_ge j vs.length with h | h
      · exact h
      · rw [List.getElem?_eq_none h] at hu; cases hu
    obtain ⟨g, o, he, _, hx⟩ := h6 (by omega)
    injection he with he
    subst he
    have hadd : (⟨g, o, none⟩ : Addr).add j = ⟨g, o + j, none⟩ := by unfold Addr.add; split <;> simp_all
    rw [hadd, hx j (by omega), hu]
end

/-! ### A slice of the call's own, wherever in its block it begins -/
/-- The slice (A, n, c) of elements of type e reads as vs, and lies, with all its room, in a block of F that is all of that type. -/
def Lst (e : TypeId) (F : Nat → Prop) (w : World) (A : Option Addr) (n c : Nat) (vs : List Value) : Prop :=
  vs.length = n ∧ n ≤ c ∧ c ≤ maxLen ∧ (∀ v ∈ vs, v.oneCell' = true) ∧
  ((A = none ∧ c = 0) ∨ ∃ g o cur, A = some ⟨g, o, none⟩ ∧ F g ∧ w.heap[g]? = some (.cells cur e (0, 0)) ∧ o + c ≤ cur.size ∧ ∀ i, i < n → cur[o + i]? = vs[i]?)

section
variable {e : TypeId} {F F' : Nat → Prop} {w w' : World} {A : Option Addr} {n c : Nat} {vs : List Value}
theorem Lst.nil (e : TypeId) (F : Nat → Prop) (w : World) : Lst e F w none 0 0 [] := ⟨rfl, Nat.le_refl _, Nat.zero_le _, by simp, .inl ⟨rfl, rfl⟩⟩
theorem Lst.mono (h : Lst e F w A n c vs) (hF : ∀ k, F k → F' k) : Lst e F' w A n c vs := by
  obtain ⟨h1, h2, h3, h4, h5⟩ := h
  refine ⟨h1, h2, h3, h4, ?_⟩
  rcases h5 with h5 | ⟨g, o, cur, hA, hf, r⟩
  · exact .inl h5
  · exact .inr ⟨g, o, cur, hA, hF g hf, r⟩
theorem Lst.rdv (h : Lst e F w A n c vs) : RdV w A n c vs := by
  obtain ⟨h1, h2, h3, h4, h5⟩ := h
  rcases h5 with ⟨rfl, rfl⟩ | ⟨g, o, cur, rfl, hf, hh, hs, hx⟩
  · obtain rfl : n = 0 := by omega
    obtain rfl : vs = [] := List.eq_nil_of_length_eq_zero h1
    exact RdV.nil w
  · exact ⟨h1, h2, h3, by simp, h4, fun hn => ⟨g, o, rfl, (Array.getElem?_eq_some_iff.1 hh).1, fun i hi => by rw [cell_of_row _ _ _ _ _ _ hh]; exact hx i hi⟩⟩
theorem Lst.blk (h : Lst e F w A n c vs) : ∀ ad, A = some ad → F ad.block ∧ ad.block < w.heap.size := by
  intro ad he
  rcases h.2.2.2.2 with ⟨rfl, rfl⟩ | ⟨g, o, cur, rfl, hf, hh, hs, hx⟩
  · cases he
  · injection he with he
    subst he
    exact ⟨hf, (Array.getElem?_eq_some_iff.1 hh).1⟩
theorem Lst.free (h : Lst e F w A n c vs) {g o : Nat} (hA : A = some ⟨g, o, none⟩) (i : Nat) : w.frozen? ⟨g, i, none⟩ = false := by
  rcases h.2.2.2.2 with ⟨rfl, rfl⟩ | ⟨g', o', cur, rfl, hf, hh, hs, hx⟩
  · cases hA
  · injection hA with hA
    injection hA with h1 h2 h3
    subst h1
    simp [World.frozen?, hh]
theorem Lst.same (h : Lst e F w A n c vs) (hb : ∀ ad, A = some ad → w'.heap[ad.block]? = w.heap[ad.block]?) : Lst e F w' A n c vs := by
  obtain ⟨h1, h2, h3, h4, h5⟩ := h
  refine ⟨h1, h2, h3, h4, ?_⟩
  rcases h5 with h5 | ⟨g, o, cur, rfl, hf, hh, r⟩
  · exact .inl h5
  · exact .inr ⟨g, o, cur, rfl, hf, (hb _ rfl).trans hh, r⟩
theorem Lst.st (h : Lst e F w A n c vs) {G : Nat → Prop} (hs : St G w w') (hG : ∀ k, F k → ¬ G k) : Lst e F w' A n c vs :=
  h.same fun ad he => hs.block _ (h.blk ad he).2 (hG _ (h.blk ad he).1)
theorem Lst.below (h : Lst e F w A n c vs) (hb : Below w.heap.size w w') : Lst e F w' A n c vs := h.same fun ad he => hb.block _ (h.blk ad he).2
theorem Lst.alloc (h : Lst e F w A n c vs) (o : Obj) : Lst e F (w.alloc o) A n c vs := h.below ((Below.refl _ _).alloc (Nat.le_refl _) o)
theorem Lst.far (h : Lst e F w A n c vs) {p : Addr} (hp : ∀ ad, A = some ad → ad.block ≠ p.block) (x : Value) : Lst e F (w.setCell p x) A n c vs := h.same fun ad he => Below.heap_setCell w p x _ (hp ad he)
theorem Lst.cut (h : Lst e F w A n c vs) {s : Nat} (hs : s ≤ n) : Lst e F w (cutA A c s) (n - s) (c - s) (vs.drop s) := by
  obtain ⟨h1, h2, h3, h4, h5⟩ := h
  refine ⟨by simp; omega, by omega, by omega, fun x hx => h4 x (List.mem_of_mem_drop hx), ?_⟩
  unfold cutA
  rcases h5 with ⟨rfl, rfl⟩ | ⟨g, o, cur, rfl, hf, hh, hsz, hx⟩
  · exact .inl ⟨by split <;> rfl, by omega⟩
  · split
    · exact .inr ⟨g, o, cur, rfl, hf, hh, by omega, fun i hi => by omega⟩
    · refine .inr ⟨g, o + s, cur, by simp [Addr.add], hf, hh, by omega, fun i hi => ?_⟩
      rw [show o + s + i = o + (s + i) from by omega, hx (s + i) (by omega), List.getElem?_drop]
theorem Lst.made (w : World) (e : TypeId) (cur : Array Value) (n : Nat) (vs : List Value) (hv : vs.length = n) (hn : n ≤ cur.size) (hm : cur.size ≤ maxLen) (h1 : ∀ v ∈ vs, v.oneCell' = true) (hx : ∀ i, i < n → cur[i]? = vs[i]?) :
    Lst e (w.heap.size ≤ ·) (w.alloc (.cells cur e)) (some ⟨w.heap.size, 0, none⟩) n cur.size vs :=
  ⟨hv, hn, hm, h1, .inr ⟨w.heap.size, 0, cur, rfl, Nat.le_refl _, heap_alloc_new w _, by omega, fun i hi => by rw [Nat.zero_add]; exact hx i hi⟩⟩
theorem Lst.set {g o : Nat} (h : Lst e F w (some ⟨g, o, none⟩) n c vs) (i : Nat) (hi : i < n) {x : Value} (hx : x.oneCell' = true) : Lst e F (w.setCell ⟨g, o + i, none⟩ x) (some ⟨g, o, none⟩) n c (vs.set i x) := by
  obtain ⟨h1, h2, h3, h4, h5⟩ := h
  refine ⟨by simpa using h1, h2, h3, fun v hv => ?_, ?_⟩
  · rcases List.mem_or_eq_of_mem_set hv with h | h
    · exact h4 v h
    · exact h ▸ hx
  · rcases h5 with ⟨h, _⟩ | ⟨g', o', cur, hA, hf, hh, hs, hc⟩
    · cases h
    · injection hA with hA
      injection hA with e1 e2 e3
      subst e1 e2
      refine .inr ⟨g, o, cur.set! (o + i) x, rfl, hf, ?_, by simpa using hs, fun j hj => ?_⟩
      · simp [World.setCell, Array.getElem?_modify, hh]
      · simp only [Array.set!_eq_setIfInBounds, Array.getElem?_setIfInBounds]
        by_cases hji : i = j
        · subst hji
          rw [if_pos rfl, if_pos (by omega), List.getElem?_set_self (by omega)]
        · rw [if_neg (by omega), List.getElem?_set_ne (by omega)]
          exact hc j hj
end

theorem heap_setCells (g : Nat) (e : TypeId) (fz : Nat × Nat) : ∀ (vs : List Value) (o : Nat) (w : World) (cur : Array Value), w.heap[g]? = some (.cells cur e fz) → o + vs.length ≤ cur.size →
    ∃ cur', (w.setCells g o vs).heap[g]? = some (.cells cur' e fz) ∧ cur'.size = cur.size ∧ (∀ i, i < vs.length → cur'[o + i]? = vs[i]?) ∧ ∀ i, (i < o ∨ o + vs.length ≤ i) → cur'[i]? = cur[i]?
  | [], o, w, cur, h, _ => ⟨cur, h, rfl, by simp, fun _ _ => rfl⟩
  | v :: r, o, w, cur, h, hs => by
    simp only [List.length_cons] at hs
    obtain ⟨cur', h1, h2, h3, h4⟩ := heap_setCells g e fz r (o + 1) (w.setCell ⟨g, o, none⟩ v) (cur.set! o v) (by simp [World.setCell, Array.getElem?_modify, h]) (by simp; omega)
    refine ⟨cur', h1, by simpa using h2, fun i hi => ?_, fun i hi => ?_⟩
    · cases i with
      | zero =>
        rw [h4 (o + 0) (by omega)]
        simp only [Array.set!_eq_setIfInBounds, Array.getElem?_setIfInBounds]
        simp; omega
      | succ i =>
        simp only [List.length_cons] at hi
        rw [show o + (i + 1) = o + 1 + i from by omega, h3 i (by omega)]
        simp
    · simp only [List.length_cons] at hi
      rw [h4 i (by omega)]
      simp only [Array.set!_eq_setIfInBounds, Array.getElem?_setIfInBounds]
      rw [if_neg (by omega)]
theorem st_setCells (F : Nat → Prop) (g : Nat) (hg : F g) : ∀ (vs : List Value) (o : Nat) (w : World), St F w (w.setCells g o vs)
  | [], _, w => St.refl F w
  | v :: r, o, w => (St.setCell w (a := ⟨g, o, none⟩) hg v).trans (st_setCells F g hg r (o + 1) _) (Gr.refl _ _)

/-- The blocks at which the slice begins. -/
def BlkOf (A : Option Addr) (k : Nat) : Prop := ∃ ad, A = some ad ∧ ad.block = k
theorem Lst.tight {e : TypeId} {F : Nat → Prop} {w : World} {A : Option Addr} {n c : Nat} {vs : List Value} (h : Lst e F w A n c vs) : Lst e (BlkOf A) w A n c vs := by
  obtain ⟨h1, h2, h3, h4, h5⟩ := h
  refine ⟨h1, h2, h3, h4, ?_⟩
  rcases h5 with h5 | ⟨g, o, cur, rfl, hf, r⟩
  · exact .inl h5
  · exact .inr ⟨g, o, cur, rfl, ⟨_, rfl, rfl⟩, r⟩
/-- A slice of its own, just made. -/
def Made (e : TypeId) (vs : List Value) (w : World) (en : Ending) (w' : World) : Prop := ∃ A n c, en = .returned (.slice A n c) ∧ Lst e (w.heap.size ≤ ·) w' A n c vs ∧ Below w.heap.size w w'
/-- Nothing lies in both. -/
def Sep (F G : Nat → Prop) : Prop := ∀ k, F k → ¬ G k
theorem Sep.symm {F G : Nat → Prop} (h : Sep F G) : Sep G F := fun k hg hf => h k hf hg
theorem Sep.gr {F F' G : Nat → Prop} {n : Nat} (h : Sep F G) (g : Gr F F' n) (hG : ∀ k, G k → k < n) : Sep F' G := fun k hf hg => by
  rcases g k hf with h1 | h1
  · exact h k h1 hg
  · have := hG k hg; omega
theorem Sep.mono {F F' G : Nat → Prop} (h : Sep F G) (hF : ∀ k, F' k → F k) : Sep F' G := fun k hf => h k (hF k hf)
theorem sep_lt {F G : Nat → Prop} {n : Nat} (hF : ∀ k, F k → n ≤ k) (hG : ∀ k, G k → k < n) : Sep F G := fun k hf hg => by have := hF k hf; have := hG k hg; omega
theorem Lst.lt {e : TypeId} {F : Nat → Prop} {w : World} {A : Option Addr} {n c : Nat} {vs : List Value} (h : Lst e F w A n c vs) : ∀ k, BlkOf A k → k < w.heap.size := by
  rintro k ⟨ad, he, rfl⟩
  exact (h.blk ad he).2
theorem Lst.gr {e : TypeId} {F : Nat → Prop} {w : World} {A' : Option Addr} {m n c : Nat} {vs : List Value} (h : Lst e (fun k => F k ∨ m ≤ k) w A' n c vs) : Gr F (BlkOf A') m := by
  rintro k ⟨ad, he, rfl⟩
  exact (h.blk ad he).1
theorem sep_none (G : Nat → Prop) : Sep (BlkOf none) G := by rintro k ⟨ad, he, _⟩; cases he
/-- What an append leaves: the list longer, in the same block or in a new one. -/
structure Apd (e : TypeId) (F : Nat → Prop) (w : World) (v : Value) (vs : List Value) (w' : World) : Prop where
  ex : ∃ A n c, v = .slice A n c ∧ Lst e (fun k => F k ∨ w.heap.size ≤ k) w' A n c vs
  st : St F w w'

section
variable {P : Program} {w : World} {t e : TypeId} {z : Value} {bytes : Nat} {F : Nat → Prop} {A B : Option Addr} {n c m d : Nat} {vs us : List Value}
theorem zeroCells_size (z : Array Value) (n : Nat) : (Builtin.zeroCells z n).size = n * z.size := by simp [Builtin.zeroCells]
theorem zeroCells_one (E : Elt P t e z bytes) (n : Nat) : Builtin.zeroCells z.cells n = Array.replicate n z := by
  apply Array.ext'
  rw [E.hz]
  simp only [Builtin.zeroCells, List.size_toArray, List.length_cons, List.length_nil, Nat.zero_add, Nat.mul_one]
  apply List.ext_getElem
  · simp
  · intro i h1 h2
    simp [Nat.mod_one]
theorem run_append_lst (E : Elt P t e z bytes) (ty : TypeId) (h : Lst e F w A n c vs) (hu : RdV w B m d us) (hlen : (n + m) * bytes ≤ 140737488355328) :
    ∃ v w', (Builtin.append_ #[t, t] ty #[.slice A n c, .slice B m d]).run P w = .ok v w' ∧ Apd e F w v (vs ++ us) w' := by
  obtain ⟨i, hi, hz, hsz, hby⟩ := info_parts E.hi
  have hmax : n + m ≤ maxLen := by
    have : (n + m) * 1 ≤ (n + m) * bytes := Nat.mul_le_mul_left _ E.hb
    simp only [maxLen]; omega
  have hsrc := hu.src E.ht
  have hsrc' : Src P i.size t (.slice B m d) m us w := by rw [hsz]; exact hsrc
  have hrd := h.rdv
  have hul : us.length = m := hu.1
  have hone : ∀ v ∈ vs ++ us, v.oneCell' = true := fun v hv => by
    rcases List.mem_append.1 hv with h' | h'
    · exact h.2.2.2.1 v h'
    · exact hu.2.2.2.2.1 v h'
  by_cases hroom : n + m ≤ c
  · rcases h.2.2.2.2 with ⟨rfl, rfl⟩ | ⟨g, o, cur, rfl, hf, hh, hs, hx⟩
    · obtain rfl : n = 0 := by omega
      obtain rfl : m = 0 := by omega
      obtain rfl : us = [] := List.eq_nil_of_length_eq_zero hul
      obtain rfl : vs = [] := List.eq_nil_of_length_eq_zero h.1
      refine ⟨.slice none 0 0, w, ?_, ⟨⟨none, 0, 0, rfl, Lst.nil _ _ _⟩, St.refl _ _⟩⟩
      have h1 := hsrc'.len
      have h2 := hsrc'.cells
      simp [Builtin.append_, run_underlying E.ht, sizeOf, typeInfo, hi, h1, h2]
    · have hr := run_append_room_src (P := P) w t t ty e i E.ht hi g o n c (.slice B m d) m us hsrc' hroom
        (fun j hj => by rw [hsz, cell_of_row _ _ _ _ _ _ hh, Array.getElem?_eq_getElem (by omega)]; rfl)
        (fun j hj => by simp [World.frozen?, hh])
      rw [hsz, Nat.mul_one] at hr
      obtain ⟨cur', h1, h2, h3, h4⟩ := heap_setCells g e (0, 0) us (o + n) w cur hh (by omega)
      refine ⟨_, _, hr, ⟨⟨_, _, _, rfl, by rw [List.length_append, h.1, hul], hroom, h.2.2.1, hone, .inr ⟨g, o, cur', rfl, .inl hf, h1, by omega, fun j hj => ?_⟩⟩, st_setCells F g hf _ _ _⟩⟩
      by_cases hjn : j < n
      · rw [h4 (o + j) (by omega), hx j hjn, List.getElem?_append_left (by rw [h.1]; exact hjn)]
      · rw [show o + j = o + n + (j - n) from by omega, h3 (j - n) (by omega), List.getElem?_append_right (by rw [h.1]; omega), h.1]
  · have holds : (Builtin.firstCells i.size n (.slice A n c)).run P w.drew = .ok vs.toArray w.drew := by
      have := (hrd.src E.ht).cellsD
      rw [hsz]; exact this
    have hr := run_append_grow_src (P := P) w t t ty e i z E.ht hi hz A n c vs holds (.slice B m d) m us hsrc' (by omega) (by simp only [maxLen] at hmax; omega) (growslice_fits (by omega) (by rw [hby]; exact hlen))
    have hge := grownCap_ge w (n + m) c e
    have hcm : grownCap w (n + m) c e ≤ maxLen := grownCap_le_maxLen w (n + m) c e hmax
    have hcs : ((vs ++ us).toArray ++ Builtin.zeroCells z.cells (grownCap w (n + m) c e - (n + m))).size = grownCap w (n + m) c e := by
      rw [zeroCells_one E]; simp [h.1, hul]; omega
    have hl := Lst.made w.drew e ((vs ++ us).toArray ++ Builtin.zeroCells z.cells (grownCap w (n + m) c e - (n + m))) (n + m) (vs ++ us) (by rw [List.length_append, h.1, hul]) (by rw [hcs]; exact hge) (by rw [hcs]; exact hcm) hone
      (fun j hj => by rw [Array.getElem?_append_left (by simp [h.1, hul]; exact hj)]; simp)
    rw [hcs] at hl
    exact ⟨_, _, hr, ⟨⟨_, _, _, rfl, hl.mono fun k hk => .inr (by simpa using hk)⟩, ⟨rfl, rfl, rfl, by simp, fun k hk _ => heap_alloc_old w.drew _ hk⟩⟩⟩

theorem wpList_append_lst {ops : Array Oper} {rest : List Oper} {o : Oper} {a : Act} {Q : Exit → Act → World → Prop} (E : Elt P t e z bytes) (hgd : o.guard = none) (s x : Operand)
    (ho : o.op = .call { callee := .builtin .append, args := #[s, x], argTypes := #[t, t] })
    (hs : a.eval s = .slice A n c) (h : Lst e F w A n c vs) (hx : a.eval x = .slice B m d) (hu : RdV w B m d us) (hlen : (n + m) * bytes ≤ 140737488355328)
    (hq : ∀ v w', Apd e F w v (vs ++ us) w' → wpList P ops Q rest (a.put o.dst v) w') : wpList P ops Q (o :: rest) a w := by
  obtain ⟨v, w', hrun, hap⟩ := run_append_lst E o.type h hu hlen
  refine wpList_plain hgd fun K hK => ?_
  unfold Oper.wp execOp
  simp only [ho, resolve, invoke, builtin, Sem.run_bind, Sem.run_pure, Result.andThen_ok, List.map_toArray, List.map_cons, List.map_nil, hs, hx, hrun]
  exact hK _ _ (hq v w' hap)
theorem opwp_append_lst {ops : Array Oper} {o : Oper} {a : Act} {K : Act → World → Prop} {Q : Exit → Act → World → Prop} (E : Elt P t e z bytes) (hgd : o.guard = none) (s x : Operand)
    (ho : o.op = .call { callee := .builtin .append, args := #[s, x], argTypes := #[t, t] })
    (hs : a.eval s = .slice A n c) (h : Lst e F w A n c vs) (hx : a.eval x = .slice B m d) (hu : RdV w B m d us) (hlen : (n + m) * bytes ≤ 140737488355328)
    (hq : ∀ v w', Apd e F w v (vs ++ us) w' → K (a.put o.dst v) w') : if Region.wanted o (yielded ops a.tmps) = true then Oper.wp P o a w K Q else K (a.put o.dst undef) w := by
  obtain ⟨v, w', hrun, hap⟩ := run_append_lst E o.type h hu hlen
  rw [if_pos (by simp only [Region.wanted, hgd])]
  unfold Oper.wp execOp
  simp only [ho, resolve, invoke, builtin, Sem.run_bind, Sem.run_pure, Result.andThen_ok, List.map_toArray, List.map_cons, List.map_nil, hs, hx, hrun]
  exact hq v w' hap

/-- clear(x[:1]). -/
theorem run_clear_one (E : Elt P t e z bytes) (ty : TypeId) {g o : Nat} {c : Nat} (hc : (w.cell? ⟨g, o, none⟩).isSome = true) (hf : w.frozen? ⟨g, o, none⟩ = false) :
    (Builtin.clear_ #[t] ty #[.slice (some ⟨g, o, none⟩) 1 c]).run P w = .ok (.tuple #[]) (w.setCell ⟨g, o, none⟩ z) := by
  obtain ⟨i, hi, hz, hsz, hby⟩ := info_parts E.hi
  have hst := run_storeCells_cells (P := P) g o [z] 0 w (by intro j hj; obtain rfl : j = 0 := by simpa using hj
                                                            simpa using hc) (by intro j hj; obtain rfl : j = 0 := by simpa using hj
                                                                                simpa using hf) (by simpa using E.h1)
  simp only [Nat.add_zero] at hst
  have hzc : (Builtin.zeroCells z.cells 1).toList = [z] := by rw [zeroCells_one E]; rfl
  simp [Builtin.clear_, run_underlying E.ht, zeroValue, typeInfo, hi, hz, hzc, hst, World.setCells]
theorem wpList_clear_one {ops : Array Oper} {rest : List Oper} {o : Oper} {a : Act} {Q : Exit → Act → World → Prop} (E : Elt P t e z bytes) (hgd : o.guard = none) (s : Operand)
    (ho : o.op = .call { callee := .builtin .clear, args := #[s], argTypes := #[t] }) {g p : Nat} (hs : a.eval s = .slice (some ⟨g, p, none⟩) 1 c)
    (hc : (w.cell? ⟨g, p, none⟩).isSome = true) (hf : w.frozen? ⟨g, p, none⟩ = false)
    (hq : wpList P ops Q rest (a.put o.dst (.tuple #[])) (w.setCell ⟨g, p, none⟩ z)) : wpList P ops Q (o :: rest) a w := by
  have hrun := run_clear_one (c := c) E o.type hc hf
  refine wpList_plain hgd fun K hK => ?_
  unfold Oper.wp execOp
  simp only [ho, resolve, invoke, builtin, Sem.run_bind, Sem.run_pure, Result.andThen_ok, List.map_toArray, List.map_cons, List.map_nil, hs, hrun]
  exact hK _ _ hq

/-- x[s:], x[:s], x[s:s+m]. -/
theorem Elt.run_cut (E : Elt P t e z bytes) (A : Option Addr) (n c s : Nat) (hs : s ≤ n) (hn : n ≤ c) (w : World) :
    (Instr.slice t (.slice A n c) (some (.int .i64 s)) none none).run P w = .ok (.slice (cutA A c s) (n - s) (c - s)) w := by
  obtain ⟨i, hi, hz, hsz, hby⟩ := info_parts E.hi
  have h1 := run_sliceBound (P := P) (w := w) .i64 s n .sliceB (by omega) (by omega)
  simp [Instr.slice, run_underlying E.ht, Instr.sliceBounds, h1, sizeOf, typeInfo, hi, hsz, cutA]
theorem Elt.run_pre (E : Elt P t e z bytes) (A : Option Addr) (n c s : Nat) (hs : s ≤ c) (hn : n ≤ c) (w : World) :
    (Instr.slice t (.slice A n c) none (some (.int .i64 s)) none).run P w = .ok (.slice A s c) w := by
  obtain ⟨i, hi, hz, hsz, hby⟩ := info_parts E.hi
  have h1 := run_sliceBound (P := P) (w := w) .i64 s c .sliceAcap (by omega) (by omega)
  have h2 := run_sliceBound (P := P) (w := w) .i64 0 s .sliceB (by omega) (by omega)
  have e2 : Option.map (fun x => Addr.add x 0) A = A := by
    cases A with
    | none => rfl
    | some x => simp [Addr.add]
  simp [Instr.slice, run_underlying E.ht, Instr.sliceBounds, h1, h2, sizeOf, typeInfo, hi, hsz, e2]
theorem Elt.build_one (E : Elt P t e z bytes) {x : Value} (hx : x.oneCell' = true) (w : World) :
    (Instr.buildSlice t 1 #[(0, x)]).run P w = .ok (.slice (some ⟨w.heap.size, 0, none⟩) 1 1) (w.alloc (.cells #[x] e)) := by
  obtain ⟨i, hi, hz, hsz, hby⟩ := info_parts E.hi
  have hc := cells_one hx
  simp [Instr.buildSlice, run_underlying E.ht, sizeOf, typeInfo, zeroValue, hi, hsz, hz, E.hz, hc, Instr.fill, newRow]
  congr 2
  apply Array.ext'
  simp [List.range_succ]
theorem Elt.run_make (E : Elt P t e z bytes) (L C : Nat) (h : L ≤ C) (hC : bytes * C ≤ 281474976710656) (w : World) :
    (Instr.makeSlice t (.int .i64 L) (.int .i64 C)).run P w = .ok (.slice (some ⟨w.heap.size, 0, none⟩) L C) (w.alloc (.cells (Array.replicate C z) e)) := by
  obtain ⟨i, hi, hz, hsz, hby⟩ := info_parts E.hi
  have hb1 := E.hb
  have hC2 : C ≤ bytes * C := Nat.le_mul_of_pos_left _ hb1
  have hr := Go.run_make (P := P) w t e i z E.ht hi hz .i64 .i64 (L : Int) (C : Int) (by omega) (by omega) (by rw [hby, ← Int.natCast_mul]; omega) (by omega)
  rw [hr, hsz, E.hz]
  simp only [Int.toNat_natCast, Nat.mul_one]
  congr 3
  apply Array.ext'
  rw [toList_madeCells_one, Array.toList_replicate]
theorem wpList_build_one {ops : Array Oper} {rest : List Oper} {o : Oper} {a : Act} {Q : Exit → Act → World → Prop} (E : Elt P t e z bytes) (hgd : o.guard = none) (s : Operand)
    (ho : o.op = .buildSlice t 1 #[(0, s)]) {x : Value} (hs : a.eval s = x) (hx : x.oneCell' = true)
    (hq : wpList P ops Q rest (a.put o.dst (.slice (some ⟨w.heap.size, 0, none⟩) 1 1)) (w.alloc (.cells #[x] e))) : wpList P ops Q (o :: rest) a w := by
  refine wpList_plain hgd fun K hK => ?_
  have hr := E.build_one hx w
  unfold Oper.wp execOp
  simp only [ho, List.map_toArray, List.map_cons, List.map_nil, hs, Sem.run_bind, Sem.run_pure, hr, Result.andThen_ok]
  exact hK _ _ hq
end
end Go.Proofs.Ytbhhgfpliggkgaa
namespace Go.Proofs.Ytbhhgfpliggkgaa
open Go.RowKit Go.Shelf

/-- All cells stay but those of the blocks that Own names; what it names later is named now, or new. -/
def KpO (Own : World → Nat → Prop) (W W' : World) : Prop :=
  W.heap.size ≤ W'.heap.size ∧ (∀ k o, W.heap[k]? = some o → o.isCells = true → ¬ Own W k → W'.heap[k]? = some o) ∧ ∀ k, Own W' k → Own W k ∨ W.heap.size ≤ k
theorem KpO.refl (Own : World → Nat → Prop) (W : World) : KpO Own W W := ⟨Nat.le_refl _, fun _ _ h _ _ => h, fun _ h => .inl h⟩
theorem KpO.trans {Own : World → Nat → Prop} {A B C : World} (h : KpO Own A B) (k : KpO Own B C) : KpO Own A C := by
  refine ⟨Nat.le_trans h.1 k.1, fun i o hi ho hn => ?_, fun i hi => ?_⟩
  · have hlt : i < A.heap.size := (Array.getElem?_eq_some_iff.1 hi).1
    refine k.2.1 i o (h.2.1 i o hi ho hn) ho fun hf => ?_
    rcases h.2.2 i hf with h1 | h1
    · exact hn h1
    · omega
  · rcases k.2.2 i hi with h1 | h1
    · exact h.2.2 i h1
    · exact .inr (Nat.le_trans h.1 h1)
/-- The blocks Bs, the variable Bl, and the block of the slice that the variable holds. -/
def OwnB (Bs : List Nat) (Bl : Nat) (W : World) (k : Nat) : Prop := k ∈ Bs ∨ k = Bl ∨ ∃ ad n c, W.cell? ⟨Bl, 0, none⟩ = some (.slice (some ad) n c) ∧ ad.block = k
theorem OwnB.of_block {Bs : List Nat} {Bl k : Nat} {W W' : World} (h : W'.heap[Bl]? = W.heap[Bl]?) (hk : OwnB Bs Bl W' k) : OwnB Bs Bl W k := by
  rcases hk with h1 | h1 | ⟨ad, n, c, h1, h2⟩
  · exact .inl h1
  · exact .inr (.inl h1)
  · exact .inr (.inr ⟨ad, n, c, (World.cell?_of_block (a := ⟨Bl, 0, none⟩) h).symm.trans h1, h2⟩)
theorem KpO.put (Bs : List Nat) {Bl B : Nat} (hBl : Bl < B) (W : World) (l : Nat) (o o' : Obj) (hl : B ≤ l) (ho : W.heap[l]? = some o) (hc : o.isCells = false) (_ : o.isWalk = false) : KpO (OwnB Bs Bl) W (W.putObj l o') := by
  refine ⟨by simp [World.putObj], fun k x hk hx _ => ?_, fun k hk => .inl (OwnB.of_block (World.putObj_heap_other (by omega)) hk)⟩
  rw [World.putObj_heap_other ?_]
  · exact hk
  · rintro rfl
    rw [ho] at hk
    injection hk with hk
    subst hk
    rw [hc] at hx
    cases hx
/-- A list that the iterator made stays. -/
theorem KpO.list {Own : World → Nat → Prop} {e : TypeId} {W W' : World} {A : Option Addr} {n c : Nat} {vs : List Value} {F : Nat → Prop} (hk : KpO Own W W') (h : Lst e F W A n c vs) (hO : ∀ k, F k → ¬ Own W k) : Lst e F W' A n c vs := by
  obtain ⟨h1, h2, h3, h4, h5⟩ := h
  refine ⟨h1, h2, h3, h4, ?_⟩
  rcases h5 with h5 | ⟨g, o, cur, hA, hf, hh, r⟩
  · exact .inl h5
  · exact .inr ⟨g, o, cur, hA, hf, hk.2.1 g _ hh rfl (hO g hf), r⟩
section
variable {P : Program} {w : World} {t e : TypeId} {z : Value} {bytes : Nat} {F : Nat → Prop} {A B : Option Addr} {n c m d : Nat} {vs us : List Value}
theorem wpListIn_append_lst {Fe : Fence} {q : Nat} {ops : Array Oper} {rest : List Oper} {o : Oper} {a : Act} {Q : Exit → Act → World → Prop} (E : Elt P t e z bytes) (hgd : o.guard = none) (s x : Operand)
    (ho : o.op = .call { callee := .builtin .append, args := #[s, x], argTypes := #[t, t] })
    (hs : a.eval s = .slice A n c) (h : Lst e F w A n c vs) (hx : a.eval x = .slice B m d) (hu : RdV w B m d us) (hlen : (n + m) * bytes ≤ 140737488355328)
    (hq : ∀ v w', Apd e F w v (vs ++ us) w' → wpListIn Fe q P ops Q rest (a.put o.dst v) w') : wpListIn Fe q P ops Q (o :: rest) a w := by
  obtain ⟨v, w', hrun, hap⟩ := run_append_lst E o.type h hu hlen
  refine wpListIn_plain hgd fun K hK => ?_
  unfold Oper.wpIn
  refine ⟨?_, ?_⟩
  · simp [Oper.about, ho, resolve, Target.leads, Sem.run_pure]
  · rw [Oper.semAt_plain Fe _ _ (by rw [ho]; intro c hc'; cases hc')]
    simp [execOp, ho, resolve, invoke, builtin, hs, hx, hrun, Result.andThen]
    exact hK _ _ (hq v w' hap)
theorem wpListIn_build_one {Fe : Fence} {q : Nat} {ops : Array Oper} {rest : List Oper} {o : Oper} {a : Act} {Q : Exit → Act → World → Prop} (E : Elt P t e z bytes) (hgd : o.guard = none) (s : Operand)
    (ho : o.op = .buildSlice t 1 #[(0, s)]) {x : Value} (hs : a.eval s = x) (hx : x.oneCell' = true)
    (hq : wpListIn Fe q P ops Q rest (a.put o.dst (.slice (some ⟨w.heap.size, 0, none⟩) 1 1)) (w.alloc (.cells #[x] e))) : wpListIn Fe q P ops Q (o :: rest) a w := by
  have hr := E.build_one hx w
  refine wpListIn_plain hgd fun K hK => ?_
  unfold Oper.wpIn
  refine ⟨?_, ?_⟩
  · simp [Oper.about, ho]
  · rw [Oper.semAt_plain Fe _ _ (by rw [ho]; intro c hc'; cases hc')]
    simp only [execOp, ho, List.map_toArray, List.map_cons, List.map_nil, hs, Sem.run_bind, Sem.run_pure, hr, Result.andThen_ok]
    exact hK _ _ hq
end
/-- What an append within a round turns: the variable's block, and the block of the list that it holds. -/
theorem KpO.stored {Bs : List Nat} {Bl : Nat} {W W1 w2 : World} {A A' : Option Addr} {n c n' c' : Nat} {t : TypeId}
    (hl : Bk W t Bl [.slice A n c]) (hnb : ¬ BlkOf A Bl) (h1 : Below W.heap.size W W1) (hst : St (BlkOf A) W1 w2) (hF : ∀ ad, A' = some ad → (BlkOf A ad.block) ∨ W.heap.size ≤ ad.block) : KpO (OwnB Bs Bl) W (w2.setCell ⟨Bl, 0, none⟩ (.slice A' n' c')) := by
  have hlt := hl.lt
  refine ⟨by have := h1.size; have := hst.size; simp [World.setCell]; omega, fun k o hk _ hn => ?_, fun k hk => ?_⟩
  · have hkl : k < W.heap.size := (Array.getElem?_eq_some_iff.1 hk).1
    have hne : k ≠ Bl := fun e => hn (.inr (.inl e))
    rw [Below.heap_setCell _ _ _ _ (by simpa using hne), hst.block k (by have := h1.size; omega) ?_, h1.block k hkl]
    · exact hk
    · rintro ⟨ad, rfl, rfl⟩
      exact hn (.inr (.inr ⟨ad, n, c, hl.cell 0 rfl, rfl⟩))
  · rcases hk with hk | hk | ⟨ad, n2, c2, hk, rfl⟩
    · exact .inl (.inl hk)
    · exact .inl (.inr (.inl hk))
    · rw [((hl.below h1).st hst hnb |>.set 0 (.slice A' n' c')).cell 0 rfl] at hk
      injection hk with hk
      injection hk with hk
      rcases hF ad hk with ⟨ad0, rfl, h'⟩ | h'
      · exact .inl (.inr (.inr ⟨ad0, n, c, hl.cell 0 rfl, h'⟩))
      · exact .inr h'
theorem KpO.box {Bs : List Nat} {Bl b i : Nat} (hb : b ∈ Bs) (hne : b ≠ Bl) (W : World) (v : Value) : KpO (OwnB Bs Bl) W (W.setCell ⟨b, i, none⟩ v) := by
  refine ⟨by simp [World.setCell], fun k o hk _ hn => ?_, fun k hk => .inl (OwnB.of_block (Below.heap_setCell _ _ _ _ (by simpa using fun e => hne e.symm)) hk)⟩
  have : k ≠ b := fun e => hn (.inl (e ▸ hb))
  rw [Below.heap_setCell _ _ _ _ (by simpa using this)]
  exact hk
theorem fin_take (n k : Nat) (h : k < n) : (List.finRange n).take (k + 1) = (List.finRange n).take k ++ [⟨k, h⟩] := by
  rw [List.take_succ_eq_append_getElem (by simpa using h)]
  simp
/-- The values at these places. -/
def vals (vs : List Value) (pre : List (Fin vs.length)) : List Value := pre.map fun i => vs[i]
theorem vals_all (vs : List Value) : vals vs (List.finRange vs.length) = vs := by
  apply List.ext_getElem
  · simp [vals]
  · intro i h1 h2
    simp [vals]
theorem vals_snoc (vs : List Value) (pre : List (Fin vs.length)) (i : Fin vs.length) : vals vs (pre ++ [i]) = vals vs pre ++ [vs[i]] := by simp [vals]
theorem vals_length (vs : List Value) (pre : List (Fin vs.length)) : (vals vs pre).length = pre.length := by simp [vals]
theorem vals_take (vs : List Value) (k : Nat) : vals vs ((List.finRange vs.length).take k) = vs.take k := by
  have := congrArg (List.take k) (vals_all vs)
  rw [← this, vals, vals, List.map_take]
end Go.Proofs.Ytbhhgfpliggkgaa
namespace Go.Proofs.Ytbhhgfpliggkgaa
open Go.RowKit Go.Shelf

/-- In P, a variable of type t is a row or a struct of m cells. -/
structure Row (P : Program) (t : TypeId) (m : Nat) : Prop where
  ht : ∃ d, P.underlying t = some d ∧ d.isRow = true
  hi : (P.info? t).map (·.size) = some m
section
variable {P : Program} {w w' : World} {t ty : TypeId} {g m : Nat} {vs : List Value}
theorem Bk.range (h : Bk w t g vs) (o : Nat) {cs : List Value} (hcs : (vs.drop o).take cs.length = cs) : w.rangeAt g o cs := fun j v hv => by
  refine h.cell (o + j) ?_
  rw [← hcs, List.getElem?_take] at hv
  split at hv
  · rw [List.getElem?_drop] at hv; exact hv
  · cases hv
theorem Bk.there (h : Bk w t g vs) (o : Nat) {n : Nat} (hn : o + n ≤ vs.length) : w.there g o n := fun j hj => by
  refine ⟨?_, h.free _⟩
  rw [h.cell (o + j) (List.getElem?_eq_getElem (by omega))]; rfl
theorem Row.load (R : Row P ty m) (h : Bk w t g vs) (o : Nat) {cs : List Value} (hm : cs.length = m) (hcs : (vs.drop o).take cs.length = cs) : (loadVar ty ⟨g, o, none⟩).run P w = .ok (.agg cs.toArray) w := by
  obtain ⟨d, h1, h2⟩ := R.ht
  exact run_loadVar_mid w g o ty cs d (h.range o hcs) h1 h2 (by rw [hm]; exact R.hi)
theorem Row.loadAt (R : Row P ty m) (h : Bk w t g vs) (o : Nat) {cs : List Value} (hm : cs.length = m) (hcs : (vs.drop o).take cs.length = cs) : (Instr.loadAt ty (.pointer (some ⟨g, o, none⟩))).run P w = .ok (.agg cs.toArray) w := by
  obtain ⟨d, h1, h2⟩ := R.ht
  exact run_loadAt_mid w g o ty cs d (h.range o hcs) h1 h2 (by rw [hm]; exact R.hi)
/-- What a row of cells leaves of a block. -/
def lay (vs : List Value) (o : Nat) (cs : List Value) : List Value := vs.take o ++ cs ++ vs.drop (o + cs.length)
theorem lay_len (vs : List Value) (o : Nat) (cs : List Value) (h : o + cs.length ≤ vs.length) : (lay vs o cs).length = vs.length := by simp [lay]; omega
theorem lay_all (vs cs : List Value) (h : cs.length = vs.length) : lay vs 0 cs = cs := by simp [lay, h]
theorem lay_in (vs : List Value) (o : Nat) (cs : List Value) (h : o + cs.length ≤ vs.length) {i : Nat} (hi : i < cs.length) : (lay vs o cs)[o + i]? = cs[i]? := by
  unfold lay
  rw [List.append_assoc, List.getElem?_append_right (by simp; omega), List.length_take, List.getElem?_append_left (by omega)]
  congr 1; omega
theorem lay_out (vs : List Value) (o : Nat) (cs : List Value) (h : o + cs.length ≤ vs.length) {i : Nat} (hi : i < o ∨ o + cs.length ≤ i) : (lay vs o cs)[i]? = vs[i]? := by
  unfold lay
  rw [List.append_assoc]
  rcases hi with hi | hi
  · rw [List.getElem?_append_left (by simp; omega), List.getElem?_take, if_pos hi]
  · rw [List.getElem?_append_right (by simp; omega), List.length_take, List.getElem?_append_right (by omega), List.getElem?_drop]
    congr 1; omega
theorem Bk.setCells (h : Bk w t g vs) (o : Nat) (cs : List Value) (hl : o + cs.length ≤ vs.length) : Bk (w.setCells g o cs) t g (lay vs o cs) := by
  unfold Bk at h ⊢
  obtain ⟨cur', h1, h2, h3, h4⟩ := heap_setCells g t (0, 0) cs o w vs.toArray h (by simpa using hl)
  rw [h1]
  congr 2
  apply Array.ext_getElem?
  intro i
  rcases (by omega : (o ≤ i ∧ i < o + cs.length) ∨ (i < o ∨ o + cs.length ≤ i)) with hi | hi
  · obtain ⟨j, rfl⟩ := Nat.exists_eq_add_of_le hi.1
    rw [h3 j (by omega), List.getElem?_toArray, lay_in vs o cs hl (by omega)]
  · rw [h4 i hi, List.getElem?_toArray, List.getElem?_toArray, lay_out vs o cs hl hi]
theorem Wr.setCells (g o : Nat) (cs : List Value) (w : World) : Wr g w (w.setCells g o cs) := by
  have h := st_setCells (· = g) g rfl cs o w
  exact ⟨h.os, h.tape, h.output, h.size, fun k hk hn => h.block k hk fun e => hn (by rw [e])⟩
theorem Row.store (R : Row P ty m) (h : Bk w t g vs) (o : Nat) {cs : List Value} (hm : cs.length = m) (hl : o + m ≤ vs.length) (h1 : ∀ v ∈ cs, v.oneCell' = true) :
    (storeVar ty ⟨g, o, none⟩ (.agg cs.toArray)).run P w = .ok () (w.setCells g o cs) :=
  run_storeVar_mid w g o ty cs.toArray (h.there o (by simpa [hm] using hl)) (by simp only [List.size_toArray, hm]; exact R.hi) (all_oneCell_toArray h1)
section
variable {ops : Array Oper} {rest : List Oper} {op : Oper} {a : Act} {Q : Exit → Act → World → Prop}
theorem wpList_load_bk (R : Row P ty m) (hgd : op.guard = none) (x : Operand) (ho : op.op = .load ty x) (g o : Nat) (hx : a.eval x = .pointer (some ⟨g, o, none⟩)) (h : Bk w t g vs) (cs : List Value) (hm : cs.length = m)
    (hcs : (vs.drop o).take cs.length = cs) (hq : wpList P ops Q rest (a.put op.dst (.agg cs.toArray)) w) : wpList P ops Q (op :: rest) a w := by
  obtain ⟨d, h1, h2⟩ := R.ht
  exact wpList_load_mid hgd ty x ho g o hx cs d (h.range o hcs) h1 h2 (by rw [hm]; exact R.hi) hq
theorem wpList_load_bk_g (R : Row P ty m) (hw : Region.wanted op (yielded ops a.tmps) = true) (x : Operand) (ho : op.op = .load ty x) (g o : Nat) (hx : a.eval x = .pointer (some ⟨g, o, none⟩)) (h : Bk w t g vs) (cs : List Value) (hm : cs.length = m)
    (hcs : (vs.drop o).take cs.length = cs) (hq : wpList P ops Q rest (a.put op.dst (.agg cs.toArray)) w) : wpList P ops Q (op :: rest) a w := by
  obtain ⟨d, h1, h2⟩ := R.ht
  refine wpList_step (fun K hK => ?_)
  rw [if_pos hw]
  exact wp_load_mid ty x ho g o hx cs d (h.range o hcs) h1 h2 (by rw [hm]; exact R.hi) (hK _ _ hq)
theorem wpList_store_bk (R : Row P ty m) (hgd : op.guard = none) (x y : Operand) (ho : op.op = .store ty x y) (g o : Nat) (hx : a.eval x = .pointer (some ⟨g, o, none⟩)) (h : Bk w t g vs) (cs : List Value) (hy : a.eval y = .agg cs.toArray) (hm : cs.length = m)
    (hl : o + m ≤ vs.length) (h1 : ∀ v ∈ cs, v.oneCell' = true) (hq : ∀ w', Bk w' t g (lay vs o cs) → Wr g w w' → wpList P ops Q rest (a.put op.dst undef) w') : wpList P ops Q (op :: rest) a w :=
  wpList_store_mid hgd ty x y ho g o cs.toArray hx hy (h.there o (by simpa [hm] using hl)) (by simp only [List.size_toArray, hm]; exact R.hi) (all_oneCell_toArray h1)
    (hq _ (h.setCells o cs (by omega)) (Wr.setCells g o cs w))
end
/-- Guards of a walk's arms: the goal is a load of this, a store of that. -/
theorem at_load {ops : Array Oper} {rest : List Oper} {op : Oper} {a : Act} {Q : Exit → Act → World → Prop} (ty : TypeId) (x : Operand) (ho : op.op = .load ty x) (h : wpList P ops Q (op :: rest) a w) : wpList P ops Q (op :: rest) a w := h
theorem at_store {ops : Array Oper} {rest : List Oper} {op : Oper} {a : Act} {Q : Exit → Act → World → Prop} (ty : TypeId) (x y : Operand) (ho : op.op = .store ty x y) (h : wpList P ops Q (op :: rest) a w) : wpList P ops Q (op :: rest) a w := h
theorem exec_load_bk {op : Oper} {a : Act} (R : Row P ty m) (x : Operand) (ho : op.op = .load ty x) (g o : Nat) (hx : a.eval x = .pointer (some ⟨g, o, none⟩)) (h : Bk w t g vs) (cs : List Value) (hm : cs.length = m)
    (hcs : (vs.drop o).take cs.length = cs) : (execOp a.eval op).run P w = .ok (.value (.agg cs.toArray)) w := by
  unfold execOp
  simp only [ho, hx, Instr.loadAt, Instr.sureAddr, Sem.run_bind, Sem.run_pure, Result.andThen_ok, R.load h o hm hcs]
theorem asAddr_some {a : Addr} : (asAddr (.pointer (some a))).run P w = .ok a w := by simp [asAddr]
theorem results_cell {fn : Func} {s : Tmp} (h : fn.results = #[.cell s ty]) {tmps : Array Value} {a : Addr} (ha : tmps.getD s undef = .pointer (some a)) {v : Value} (hl : (loadVar ty a).run P w = .ok v w) :
    (results fn tmps).run P w = .ok v w := by
  rw [Array.getD_eq_getD_getElem?] at ha
  simp [results, h, ha, asAddr_some, hl]
theorem results_cell_tmp {fn : Func} {s u : Tmp} (h : fn.results = #[.cell s ty, .tmp u]) {tmps : Array Value} {a : Addr} (ha : tmps.getD s undef = .pointer (some a)) {v : Value} (hl : (loadVar ty a).run P w = .ok v w) :
    (results fn tmps).run P w = .ok (.tuple #[v, tmps.getD u undef]) w := by
  rw [Array.getD_eq_getD_getElem?] at ha
  simp [results, h, ha, asAddr_some, hl]
/-- In P, t is an array of n elements of type e, which are one cell each. -/
structure ArrE (P : Program) (t e : TypeId) (n : Nat) : Prop where
  ht : P.underlying t = some (.array n e)
  he : ∃ d, P.underlying e = some d ∧ d.isRow = false
  hi : (P.info? e).map (·.size) = some 1
theorem ArrE.index {e : TypeId} {n : Nat} (E : ArrE P t e n) (cs : Array Value) (k : Nat) (hk : k < n) (v : Value) (hv : cs[k]? = some v) : (Instr.index t (.agg cs) (.int .i64 k)).run P w = .ok v w := by
  obtain ⟨d, h1, h2⟩ := E.he
  have hagg : (isAgg e).run P w = .ok false w := by
    unfold isAgg
    rw [Sem.run_bind, run_underlying h1 w]
    cases d <;> simp_all
  cases hq : P.info? e with
  | none => have := E.hi; simp [hq] at this
  | some i =>
    have hs : i.size = 1 := by have := E.hi; simpa [hq] using this
    have hk' : (0 : Int) ≤ k ∧ (k : Int) < n := by omega
    simp [Instr.index, asIntOf, run_underlying E.ht, hk', sizeOf, typeInfo, hq, hs, part, hagg, hv]
    omega
theorem ArrE.part {e : TypeId} {n : Nat} (E : ArrE P t e n) {cs : Array Value} {k : Nat} {v : Value} (hv : cs[k]? = some v) : (part e cs (k * P.cellsOf e)).run P w = .ok v w := by
  obtain ⟨d, h1, h2⟩ := E.he
  have hagg : (isAgg e).run P w = .ok false w := by
    unfold isAgg
    rw [Sem.run_bind, run_underlying h1 w]
    cases d <;> simp_all
  have h1' : P.cellsOf e = 1 := by
    have := E.hi
    unfold Program.cellsOf
    cases hq : P.info? e with
    | none => simp [hq] at this
    | some i => simpa [hq] using this
  rw [h1', Nat.mul_one]
  simp [Go.part, hagg, hv]
/-- Two arrays are compared: their elements, one by one. -/
theorem ArrE.eqItems {α : Type} [DecidableEq α] {e : TypeId} {n dd : Nat} (E : ArrE P t e n) (f : α → Value) (hf : ∀ a b, (Op.equalIn dd e (f a) (f b)).run P w = .ok (decide (a = b)) w) (xs ys : List α) :
    ∀ (m k : Nat), k + m ≤ xs.length → k + m ≤ ys.length → (Op.eqItems dd e (P.cellsOf e) (xs.map f).toArray (ys.map f).toArray (List.range' k m)).run P w = .ok (decide ((xs.drop k).take m = (ys.drop k).take m)) w
  | 0, k, _, _ => by simp [Op.eqItems]
  | m + 1, k, hx, hy => by
    have ih := E.eqItems f hf xs ys m (k + 1) (by omega) (by omega)
    have h1 := E.part (w := w) (cs := (xs.map f).toArray) (k := k) (v := f xs[k]) (by simp; exact ⟨_, List.getElem?_eq_getElem (by omega), rfl⟩)
    have h2 := E.part (w := w) (cs := (ys.map f).toArray) (k := k) (v := f ys[k]) (by simp; exact ⟨_, List.getElem?_eq_getElem (by omega), rfl⟩)
    rw [List.range'_succ]
    simp only [Op.eqItems, Sem.run_bind, h1, h2, hf, Result.andThen_ok]
    rw [List.drop_eq_getElem_cons (show k < xs.length by omega), List.drop_eq_getElem_cons (show k < ys.length by omega), List.take_succ_cons, List.take_succ_cons]
    by_cases hxy : xs[k] = ys[k]
    · simp only [hxy, decide_true, Bool.not_true, Bool.false_eq_true, if_false, List.cons.injEq, true_and]
      exact ih
    · simp [hxy, Sem.run_pure]
theorem ArrE.neq {α : Type} [DecidableEq α] {e : TypeId} {n : Nat} (E : ArrE P t e n) (f : α → Value) (hf : ∀ a b, (Op.equalIn 9999 e (f a) (f b)).run P w = .ok (decide (a = b)) w) (xs ys : List α) (hx : xs.length = n) (hy : ys.length = n) :
    (binOp .neq t (.agg (xs.map f).toArray) (.agg (ys.map f).toArray)).run P w = .ok (.bool (!decide (xs = ys))) w := by
  have hi : ∃ i, P.info? e = some i := by
    have := E.hi
    cases hq : P.info? e with
    | none => simp [hq] at this
    | some i => exact ⟨i, rfl⟩
  obtain ⟨i, hi⟩ := hi
  have h := E.eqItems f hf xs ys n 0 (by omega) (by omega)
  rw [List.drop_zero, List.drop_zero, List.take_of_length_le (by omega), List.take_of_length_le (by omega), ← List.range_eq_range'] at h
  rw [run_neq_struct]
  have h2 := run_equalIn_array (P := P) w 9999 (xs.map f).toArray (ys.map f).toArray E.ht hi
  rw [h] at h2
  rw [h2]
  rfl
theorem ArrE.eql {α : Type} [DecidableEq α] {e : TypeId} {n : Nat} (E : ArrE P t e n) (f : α → Value) (hf : ∀ a b, (Op.equalIn 9999 e (f a) (f b)).run P w = .ok (decide (a = b)) w) (xs ys : List α) (hx : xs.length = n) (hy : ys.length = n) :
    (binOp .eql t (.agg (xs.map f).toArray) (.agg (ys.map f).toArray)).run P w = .ok (.bool (decide (xs = ys))) w := by
  have hi : ∃ i, P.info? e = some i := by
    have := E.hi
    cases hq : P.info? e with
    | none => simp [hq] at this
    | some i => exact ⟨i, rfl⟩
  obtain ⟨i, hi⟩ := hi
  have h := E.eqItems f hf xs ys n 0 (by omega) (by omega)
  rw [List.drop_zero, List.drop_zero, List.take_of_length_le (by omega), List.take_of_length_le (by omega), ← List.range_eq_range'] at h
  rw [run_eql_struct]
  have h2 := run_equalIn_array (P := P) w 9999 (xs.map f).toArray (ys.map f).toArray E.ht hi
  rw [h] at h2
  rw [h2]
  rfl
theorem eq_int {e : TypeId} {k : IntKind} (he : P.underlying e = some (.int k)) (dd : Nat) (a b : Int) : (Op.equalIn (dd + 1) e (.int k a) (.int k b)).run P w = .ok (decide (a = b)) w := by
  simp only [run_equalIn_int w dd e k k a b he]
  by_cases h : a = b <;> simp [h]
theorem eq_bool {e : TypeId} (he : P.underlying e = some .bool) (dd : Nat) (a b : Bool) : (Op.equalIn (dd + 1) e (.bool a) (.bool b)).run P w = .ok (decide (a = b)) w := by
  rw [run_equalIn_bool w dd e a b he]
  cases a <;> cases b <;> rfl
theorem exec_cmp_agg {op : Oper} {a : Act} {bo : BinOp} {x y : Operand} {t' : TypeId} (ho : op.op = .binOp bo t x y t') (hg : P.eqGuardType P.depth t = false) {cs ds : Array Value} (hx : a.eval x = .agg cs) (hy : a.eval y = .agg ds) {b : Bool}
    (h : (binOp bo t (.agg cs) (.agg ds)).run P w = .ok (.bool b) w) : (execOp a.eval op).run P w = .ok (.value (.bool b)) w := by
  unfold execOp
  simp only [ho, hx, hy, Sem.run_bind, run_eqGuard_agg w bo t x y cs ds hg, Result.andThen_ok, h, Sem.run_pure]
theorem exec_build {op : Oper} {a : Act} {parts : Array (Nat × Operand)} (ho : op.op = .build t parts) {vs' : Array (Nat × Value)} (hv : (parts.map fun (i, x) => (i, a.eval x)) = vs') {v : Value}
    (h : (Instr.build t vs').run P w = .ok v w) : (execOp a.eval op).run P w = .ok (.value v) w := by
  unfold execOp
  simp only [ho, hv, Sem.run_bind, h, Result.andThen_ok, Sem.run_pure]
end
end Go.Proofs.Ytbhhgfpliggkgaa
namespace Go.Proofs.Ytbhhgfpliggkgaa
open Go.RowKit Go.Shelf

/-- The integers f 0 .. f (m - 1). -/
def tabI (m : Nat) (f : Nat → Int) : List Int := (List.range m).map f
def tabV (m : Nat) (f : Nat → Int) : List Value := (tabI m f).map (.int .i64)
def up (f : Nat → Int) (k : Nat) (v : Int) : Nat → Int := fun i => if i = k then v else f i
theorem up_at (f : Nat → Int) (k : Nat) (v : Int) : up f k v k = v := by simp [up]
theorem up_ne (f : Nat → Int) {k i : Nat} (v : Int) (h : i ≠ k) : up f k v i = f i := by simp [up, h]
theorem tabI_len (m : Nat) (f : Nat → Int) : (tabI m f).length = m := by simp [tabI]
theorem tabV_len (m : Nat) (f : Nat → Int) : (tabV m f).length = m := by simp [tabV, tabI]
theorem tabI_get (m : Nat) (f : Nat → Int) {i : Nat} (h : i < m) : (tabI m f)[i]? = some (f i) := by simp [tabI, h]
theorem tabV_get (m : Nat) (f : Nat → Int) {i : Nat} (h : i < m) : (tabV m f)[i]? = some (.int .i64 (f i)) := by simp [tabV, tabI, h]
theorem tabV_one (m : Nat) (f : Nat → Int) : ∀ v ∈ tabV m f, v.oneCell' = true := by
  intro v hv
  obtain ⟨b, _, rfl⟩ := List.mem_map.1 hv
  rfl
theorem tabI_congr {m : Nat} {f g : Nat → Int} (h : ∀ i, i < m → f i = g i) : tabI m f = tabI m g := List.map_congr_left fun i hi => h i (by simpa using hi)
theorem tabV_congr {m : Nat} {f g : Nat → Int} (h : ∀ i, i < m → f i = g i) : tabV m f = tabV m g := by unfold tabV; rw [tabI_congr h]
theorem tabV_ext {l : List Value} {m : Nat} {f : Nat → Int} (hl : l.length = m) (h : ∀ i, i < m → l[i]? = some (.int .i64 (f i))) : l = tabV m f := by
  apply List.ext_getElem?
  intro i
  by_cases hi : i < m
  · rw [h i hi, tabV_get _ _ hi]
  · rw [List.getElem?_eq_none (by omega), List.getElem?_eq_none (by rw [tabV_len]; omega)]
theorem tabI_inj {m : Nat} {f g : Nat → Int} (h : tabI m f = tabI m g) : ∀ i, i < m → f i = g i := fun i hi => by
  have h1 := tabI_get m f hi
  rw [h, tabI_get m g hi] at h1
  injection h1 with h1
  exact h1.symm
theorem tabV_set (m : Nat) (f : Nat → Int) (k : Nat) (x : Int) : (tabV m f).set k (.int .i64 x) = tabV m (up f k x) := by
  refine tabV_ext (by simp [tabV_len]) fun i hi => ?_
  rw [List.getElem?_set]
  by_cases h : k = i
  · subst h
    rw [if_pos rfl, if_pos (by rw [tabV_len]; exact hi), up_at]
  · rw [if_neg h, tabV_get _ _ hi, up_ne _ _ (Ne.symm h)]
theorem tabV_row (m : Nat) (f : Nat → Int) (o k : Nat) (h : o + k ≤ m) : ((tabV m f).drop o).take k = tabV k (fun i => f (o + i)) := by
  refine tabV_ext (by simp [tabV_len]; omega) fun i hi => ?_
  rw [List.getElem?_take, if_pos hi, List.getElem?_drop, tabV_get _ _ (by omega)]
theorem tabV_row' (m : Nat) (f : Nat → Int) (o k : Nat) (h : o + k ≤ m) {g : Nat → Int} (hg : ∀ i, i < k → f (o + i) = g i) : ((tabV m f).drop o).take (tabV k g).length = tabV k g := by
  rw [tabV_len, tabV_row m f o k h]
  exact tabV_congr hg
theorem tabV_lay (m : Nat) (f : Nat → Int) (o k : Nat) (h : o + k ≤ m) (g : Nat → Int) : lay (tabV m f) o (tabV k g) = tabV m (fun i => if o ≤ i ∧ i < o + k then g (i - o) else f i) := by
  have hl : o + (tabV k g).length ≤ (tabV m f).length := by rw [tabV_len, tabV_len]; exact h
  refine tabV_ext (by rw [lay_len _ _ _ hl, tabV_len]) fun i hi => ?_
  by_cases hc : o ≤ i ∧ i < o + k
  · obtain ⟨j, rfl⟩ := Nat.exists_eq_add_of_le hc.1
    rw [if_pos hc, lay_in _ _ _ hl (by rw [tabV_len]; omega), tabV_get _ _ (by omega)]
    simp
  · rw [if_neg hc, lay_out _ _ _ hl (by rw [tabV_len]; omega), tabV_get _ _ hi]
/-- A row that is followed by what is not told. -/
theorem tabV_get_app (m : Nat) (f : Nat → Int) (tl : List Value) {i : Nat} (h : i < m) : (tabV m f ++ tl)[i]? = some (.int .i64 (f i)) := by
  rw [List.getElem?_append_left (by rw [tabV_len]; exact h), tabV_get _ _ h]
theorem tabV_set_app (m : Nat) (f : Nat → Int) (tl : List Value) {k : Nat} (h : k < m) (x : Int) : (tabV m f ++ tl).set k (.int .i64 x) = tabV m (up f k x) ++ tl := by
  rw [List.set_append_left _ _ (by rw [tabV_len]; exact h), tabV_set]
theorem tabV_row_app (m : Nat) (f : Nat → Int) (tl : List Value) (o k : Nat) (h : o + k ≤ m) {g : Nat → Int} (hg : ∀ i, i < k → f (o + i) = g i) : ((tabV m f ++ tl).drop o).take (tabV k g).length = tabV k g := by
  rw [List.drop_append_of_le_length (by rw [tabV_len]; omega), List.take_append_of_le_length (by rw [List.length_drop, tabV_len, tabV_len]; omega)]
  exact tabV_row' m f o k h hg
theorem lay_app (vs tl : List Value) (o : Nat) (cs : List Value) (h : o + cs.length ≤ vs.length) : lay (vs ++ tl) o cs = lay vs o cs ++ tl := by
  unfold lay
  rw [List.take_append_of_le_length (by omega), List.drop_append_of_le_length (by omega), List.append_assoc, List.append_assoc, List.append_assoc]
theorem tabV_lay_app (m : Nat) (f : Nat → Int) (tl : List Value) (o k : Nat) (h : o + k ≤ m) (g : Nat → Int) : lay (tabV m f ++ tl) o (tabV k g) = tabV m (fun i => if o ≤ i ∧ i < o + k then g (i - o) else f i) ++ tl := by
  rw [lay_app _ _ _ _ (by rw [tabV_len, tabV_len]; exact h), tabV_lay _ _ _ _ h]
theorem tabV_zero (m : Nat) : tabV m (fun _ => 0) = List.replicate m (.int .i64 0) := by
  apply List.ext_getElem
  · simp [tabV_len]
  · intro i h1 h2
    simp [tabV, tabI]
theorem zeroCells_tab (k n : Nat) (hk : 0 < k) : (Builtin.zeroCells (Value.agg (tabV k (fun _ => 0)).toArray).cells n).toList = tabV (n * k) (fun _ => 0) := by
  refine tabV_ext (by simp [Builtin.zeroCells, tabV_len, Value.cells]) fun i hi => ?_
  have h1 : i % k < k := Nat.mod_lt _ hk
  have h2 := tabV_get k (fun _ => 0) h1
  have h3 : (tabV k (fun _ => 0)).toArray[i % k]! = .int .i64 0 := by
    rw [getElem!_def]
    simp [h2]
  simp only [Builtin.zeroCells, Value.cells, List.size_toArray, tabV_len, Array.toList_map, Array.toList_range, List.getElem?_map, List.getElem?_range hi, Option.map_some, h3]
/-- A row is stored, at one operation of a drawn region. -/
theorem opwp_store_bk {P : Program} {w : World} {t ty : TypeId} {m : Nat} {vs : List Value} {ops : Array Oper} {op : Oper} {a : Act} {K : Act → World → Prop} {Q : Exit → Act → World → Prop} (R : Row P ty m) (hgd : op.guard = none) (x y : Operand)
    (ho : op.op = .store ty x y) (g o : Nat) (hx : a.eval x = .pointer (some ⟨g, o, none⟩)) (h : Bk w t g vs) (cs : List Value) (hy : a.eval y = .agg cs.toArray) (hm : cs.length = m)
    (hl : o + m ≤ vs.length) (h1 : ∀ v ∈ cs, v.oneCell' = true) (hq : ∀ w', Bk w' t g (lay vs o cs) → Wr g w w' → K (a.put op.dst undef) w') :
    if Region.wanted op (yielded ops a.tmps) = true then Oper.wp P op a w K Q else K (a.put op.dst undef) w := by
  rw [if_pos (by simp only [Region.wanted, hgd])]
  exact wp_store_mid ty x y ho g o cs.toArray hx hy (h.there o (by simpa [hm] using hl)) (by simp only [List.size_toArray, hm]; exact R.hi) (all_oneCell_toArray h1)
    (hq _ (h.setCells o cs (by omega)) (Wr.setCells g o cs w))
/-- A row is loaded, at one operation of a drawn region. -/
theorem opwp_load_bk {P : Program} {w : World} {t ty : TypeId} {m : Nat} {vs : List Value} {ops : Array Oper} {op : Oper} {a : Act} {K : Act → World → Prop} {Q : Exit → Act → World → Prop} (R : Row P ty m) (hgd : op.guard = none) (x : Operand)
    (ho : op.op = .load ty x) (g o : Nat) (hx : a.eval x = .pointer (some ⟨g, o, none⟩)) {g' : Nat} (hg : g' = g) (h : Bk w t g' vs) (cs : List Value) (hm : cs.length = m) (hcs : (vs.drop o).take cs.length = cs) (hq : K (a.put op.dst (.agg cs.toArray)) w) :
    if Region.wanted op (yielded ops a.tmps) = true then Oper.wp P op a w K Q else K (a.put op.dst undef) w := by
  subst hg
  obtain ⟨d, h1, h2⟩ := R.ht
  rw [if_pos (by simp only [Region.wanted, hgd])]
  exact wp_load_mid ty x ho g' o hx cs d (h.range o hcs) h1 h2 (by rw [hm]; exact R.hi) hq
/-- clear(x[..]) of a row in a block that is known whole: cs: the zeros. -/
theorem run_clear_bk {P : Program} {w : World} {t e tt : TypeId} {i : TypeInfo} {z : Value} {vs cs : List Value} {g o n c : Nat} (ty : TypeId) (ht : P.underlying t = some (.slice e)) (hi : P.info? e = some i) (hz : i.zero = some z) (h : Bk w tt g vs)
    (hn : 0 < n) (hcs : (Builtin.zeroCells z.cells n).toList = cs) (hl : o + cs.length ≤ vs.length) (h1 : ∀ v ∈ cs, v.oneCell' = true) :
    (Builtin.clear_ #[t] ty #[.slice (some ⟨g, o, none⟩) n c]).run P w = .ok (.tuple #[]) (w.setCells g o cs) := by
  have hst := run_storeCells_cells (P := P) g o cs 0 w (by intro j hj; rw [Nat.add_zero, h.cell (o + j) (List.getElem?_eq_getElem (by omega))]; rfl) (by intro j hj; exact h.free _) h1
  simp only [Nat.add_zero] at hst
  obtain ⟨m, rfl⟩ := Nat.exists_eq_succ_of_ne_zero (show n ≠ 0 by omega)
  simp [Builtin.clear_, run_underlying ht, zeroValue, typeInfo, hi, hz, hcs, hst]
theorem wpList_clear_bk {P : Program} {w : World} {t e tt : TypeId} {i : TypeInfo} {z : Value} {vs cs : List Value} {g p n c : Nat} {ops : Array Oper} {rest : List Oper} {o : Oper} {a : Act} {Q : Exit → Act → World → Prop} (hgd : o.guard = none) (s : Operand)
    (ho : o.op = .call { callee := .builtin .clear, args := #[s], argTypes := #[t] }) (hs : a.eval s = .slice (some ⟨g, p, none⟩) n c) (ht : P.underlying t = some (.slice e)) (hi : P.info? e = some i) (hz : i.zero = some z) (h : Bk w tt g vs)
    (hn : 0 < n) (hcs : (Builtin.zeroCells z.cells n).toList = cs) (hl : p + cs.length ≤ vs.length) (h1 : ∀ v ∈ cs, v.oneCell' = true)
    (hq : ∀ w', Bk w' tt g (lay vs p cs) → Wr g w w' → wpList P ops Q rest (a.put o.dst (.tuple #[])) w') : wpList P ops Q (o :: rest) a w := by
  have hrun := run_clear_bk (c := c) o.type ht hi hz h hn hcs hl h1
  refine wpList_plain hgd fun K hK => ?_
  unfold Oper.wp execOp
  simp only [ho, resolve, invoke, builtin, Sem.run_bind, Sem.run_pure, Result.andThen_ok, List.map_toArray, List.map_cons, List.map_nil, hs, hrun]
  exact hK _ _ (hq _ (h.setCells p cs hl) (Wr.setCells g p cs w))
/-! ### Slices whose elements are rows -/
/-- In P, type t is a slice of type e, whose elements are sz cells, at first zeros, of so many bytes. -/
structure EltT (P : Program) (t e : TypeId) (sz bytes : Nat) : Prop where
  ht : P.underlying t = some (.slice e)
  hi : (P.info? e).map (fun i => (i.zero, i.size, i.bytes)) = some (some (.agg (tabV sz (fun _ => 0)).toArray), sz, bytes)
  hs : 0 < sz
  hb : 0 < bytes
section
variable {P : Program} {w : World} {t e : TypeId} {sz bytes g n c : Nat} {f : Nat → Int} {tl : List Value}
theorem EltT.src (E : EltT P t e sz bytes) (h : Bk w e g (tabV (n * sz) f ++ tl)) : Src P sz t (.slice (some ⟨g, 0, none⟩) n c) n (tabV (n * sz) f) w :=
  Src.ofSlice w E.ht ⟨g, 0, none⟩ n c _ (tabV_len _ _) (fun j u hu => by
    have hj : j < n * sz := by
      rcases Nat.lt_or_ge j (n * sz) with h | h
      · exact h
      · rw [List.getElem?_eq_none (by rw [tabV_len]; exact h)] at hu; cases hu
    have hadd : (⟨g, 0, none⟩ : Addr).add j = ⟨g, j, none⟩ := by unfold Addr.add; split <;> simp_all
    rw [hadd]
    exact h.cell j (by rw [tabV_get_app _ _ _ hj, ← hu, tabV_get _ _ hj])) (tabV_one _ _)
/-- append(x[:0:0], y..): a row of its own. -/
theorem EltT.run_copy (E : EltT P t e sz bytes) (ty : TypeId) (h : Bk w e g (tabV (n * sz) f ++ tl)) (A : Option Addr) (hn : 0 < n) (hlen : n * bytes ≤ 140737488355328) :
    ∃ c' tl', (Builtin.append_ #[t, t] ty #[.slice A 0 0, .slice (some ⟨g, 0, none⟩) n c]).run P w = .ok (.slice (some ⟨w.heap.size, 0, none⟩) n c') (w.drew.alloc (.cells (tabV (n * sz) f ++ tl').toArray e)) := by
  obtain ⟨i, hi, hz, hsz, hby⟩ := info_parts E.hi
  have hmax : n ≤ maxLen := by
    have : n * 1 ≤ n * bytes := Nat.mul_le_mul_left _ E.hb
    simp only [maxLen]; omega
  have hsrc : Src P i.size t (.slice (some ⟨g, 0, none⟩) n c) n (tabV (n * sz) f) w := by rw [hsz]; exact E.src h
  have hold : (Builtin.firstCells i.size 0 (.slice A 0 0)).run P w.drew = .ok ([] : List Value).toArray w.drew := by
    cases A with
    | none => exact run_firstCells_none w.drew _ 0 0 0
    | some a => exact run_firstCells_some w.drew _ 0 a 0 0 [] (by simp) (by simp)
  have hr := run_append_grow_src (P := P) w t t ty e i _ E.ht hi hz A 0 0 [] hold _ n (tabV (n * sz) f) hsrc (by omega) (by simp only [maxLen] at hmax; omega) (growslice_fits (by omega) (by rw [hby, Nat.zero_add]; exact hlen))
  rw [hr]
  refine ⟨grownCap w (0 + n) 0 e, (Builtin.zeroCells (Value.agg (tabV sz (fun _ => 0)).toArray).cells (grownCap w (0 + n) 0 e - (0 + n))).toList, ?_⟩
  have he : ([] ++ tabV (n * sz) f).toArray ++ Builtin.zeroCells (Value.agg (tabV sz (fun _ => 0)).toArray).cells (grownCap w (0 + n) 0 e - (0 + n)) = (tabV (n * sz) f ++ (Builtin.zeroCells (Value.agg (tabV sz (fun _ => 0)).toArray).cells (grownCap w (0 + n) 0 e - (0 + n))).toList).toArray := by
    apply Array.ext'
    simp
  rw [he, Nat.zero_add]
theorem wpList_copy_rows {ops : Array Oper} {rest : List Oper} {o : Oper} {a : Act} {Q : Exit → Act → World → Prop} (E : EltT P t e sz bytes) (hgd : o.guard = none) (s x : Operand)
    (ho : o.op = .call { callee := .builtin .append, args := #[s, x], argTypes := #[t, t] }) {A : Option Addr}
    (hs : a.eval s = .slice A 0 0) (hx : a.eval x = .slice (some ⟨g, 0, none⟩) n c) (h : Bk w e g (tabV (n * sz) f ++ tl)) (hn : 0 < n) (hlen : n * bytes ≤ 140737488355328)
    (hq : ∀ c' tl' w', Bk w' e w.heap.size (tabV (n * sz) f ++ tl') → Below w.heap.size w w' → wpList P ops Q rest (a.put o.dst (.slice (some ⟨w.heap.size, 0, none⟩) n c')) w') : wpList P ops Q (o :: rest) a w := by
  obtain ⟨c', tl', hrun⟩ := E.run_copy (c := c) o.type h A hn hlen
  refine wpList_plain hgd fun K hK => ?_
  unfold Oper.wp execOp
  simp only [ho, resolve, invoke, builtin, Sem.run_bind, Sem.run_pure, Result.andThen_ok, List.map_toArray, List.map_cons, List.map_nil, hs, hx, hrun]
  have hb : Below w.heap.size w (w.drew.alloc (.cells (tabV (n * sz) f ++ tl').toArray e)) := ⟨rfl, rfl, rfl, by simp, fun k hk => heap_alloc_old w.drew _ hk⟩
  exact hK _ _ (hq c' tl' _ (Bk.new w.drew e _) hb)
/-- make(x, n) of rows. -/
theorem EltT.run_make (E : EltT P t e sz bytes) (n : Nat) (hC : bytes * n ≤ 281474976710656) (w : World) :
    (Instr.makeSlice t (.int .i64 n) (.int .i64 n)).run P w = .ok (.slice (some ⟨w.heap.size, 0, none⟩) n n) (w.alloc (.cells (tabV (n * sz) (fun _ => 0)).toArray e)) := by
  obtain ⟨i, hi, hz, hsz, hby⟩ := info_parts E.hi
  have hb1 := E.hb
  have hC2 : n ≤ bytes * n := Nat.le_mul_of_pos_left _ hb1
  have hr := Go.run_make (P := P) w t e i _ E.ht hi hz .i64 .i64 (n : Int) (n : Int) (by omega) (by omega) (by rw [hby, ← Int.natCast_mul]; omega) (by omega)
  rw [hr, hsz]
  simp only [Int.toNat_natCast]
  congr 3
  apply Array.ext'
  have h := zeroCells_tab sz n E.hs
  rw [List.toList_toArray, ← h]
  simp only [madeCells, Builtin.zeroCells, Value.cells, List.size_toArray, tabV_len]
end
end Go.Proofs.Ytbhhgfpliggkgaa
namespace Go.Proofs.Ytbhhgfpliggkgaa
open Go.RowKit Go.Shelf

/-- The list of a variable stays where what is no cells turns. -/
theorem Lst.own {e : TypeId} {F : Nat → Prop} {W W' : World} {A : Option Addr} {n c : Nat} {vs : List Value} {row : Option Nat} (h : Lst e F W A n c vs) (hw : W.grownBy W' row) (hr : ∀ r, row = some r → ∃ o : Obj, W.heap[r]? = some o ∧ o.isCells = false) : Lst e F W' A n c vs := by
  refine h.same fun ad he => hw.block _ (h.blk ad he).2 fun e => ?_
  obtain ⟨o, ho, hc⟩ := hr _ e.symm
  rcases h.2.2.2.2 with ⟨rfl, _⟩ | ⟨g, o', cur, rfl, _, hh, _⟩
  · cases he
  · injection he with he
    subst he
    rw [hh] at ho
    injection ho with ho
    subst ho
    cases hc
/-- Variable v holds a list of the loop's own, in memory from L on; what was there before the call (w) stays. -/
structure Col (t e : TypeId) (w : World) (L v : Nat) (ys : List Value) (W : World) : Prop where
  bel : Below w.heap.size w W
  sz : L ≤ W.heap.size
  ex : ∃ A n c, Bk W t v [.slice A n c] ∧ Lst e (L ≤ ·) W A n c ys
theorem Col.own {t e : TypeId} {w : World} {L v B : Nat} {ys : List Value} {W W' : World} {row : Option Nat} (h : Col t e w L v ys W) (hv : v < L) (hL : L ≤ B) (hwL : w.heap.size ≤ L) (hw : W.grownBy W' row)
    (hr : ∀ r, row = some r → B ≤ r ∧ ∃ o : Obj, W.heap[r]? = some o ∧ o.isCells = false) : Col t e w L v ys W' := by
  obtain ⟨h1, h2, A, n, c, h3, h4⟩ := h
  have hk : ∀ k, k < L → k < W.heap.size → W'.heap[k]? = W.heap[k]? := fun k hk hs => hw.block k hs (fun e => by have := (hr _ e.symm).1; omega)
  exact ⟨⟨hw.os.trans h1.os, hw.tape.trans h1.tape, hw.output.trans h1.output, Nat.le_trans h1.size hw.size, fun k hk' => (hk k (by omega) (by have := h1.size; omega)).trans (h1.block k hk')⟩, Nat.le_trans h2 hw.size, A, n, c, (hk v hv h3.lt).trans h3, h4.own hw fun r e => (hr r e).2⟩
/-- What an append to a variable's list leaves. -/
theorem Col.step0 {t e : TypeId} {L v : Nat} {xs ys : List Value} {W w2 : World} {A A' : Option Addr} {n c n' c' : Nat} (hs : L ≤ W.heap.size) (r : Bk W t v [.slice A n c]) (hl : Lst e (L ≤ ·) W A n c xs) (hv : v < L) (o : Obj)
    (hap : Apd e (BlkOf A) (W.alloc o) (.slice A' n' c') ys w2) :
    KeepsOthers W (w2.setCell ⟨v, 0, none⟩ (.slice A' n' c')) ∧ St (fun k => k = v ∨ L ≤ k) W (w2.setCell ⟨v, 0, none⟩ (.slice A' n' c')) ∧
      Bk (w2.setCell ⟨v, 0, none⟩ (.slice A' n' c')) t v [.slice A' n' c'] ∧ Lst e (L ≤ ·) (w2.setCell ⟨v, 0, none⟩ (.slice A' n' c')) A' n' c' ys := by
  obtain ⟨⟨A2, n2, c2, he, hl'⟩, hst⟩ := hap
  injection he with e1 e2 e3
  subst e1 e2 e3
  have hA : ∀ k, BlkOf A k → L ≤ k := by rintro k ⟨ad, he, rfl⟩; exact (hl.blk ad he).1
  have hba : Below W.heap.size W (W.alloc o) := (Below.refl _ _).alloc (Nat.le_refl _) _
  have hla := hl.alloc o
  have hDF : Lst e (L ≤ ·) w2 A' n' c' ys := hl'.mono (by
    rintro k (hk | hk)
    · exact hA k hk
    · have := hba.size; omega)
  have hsta : St (fun k => k = v ∨ L ≤ k) W w2 := (St.ext hba).trans (hst.mono (F' := fun k => k = v ∨ L ≤ k) (fun k _ hk => .inr (hA k hk))) (Gr.refl _ _)
  have hvA : ¬ BlkOf A v := fun h => by have := hA v h; omega
  have r2 : Bk w2 t v [.slice A n c] := (r.alloc o).st hst hvA
  have hst3 : St (fun k => k = v ∨ L ≤ k) W (w2.setCell ⟨v, 0, none⟩ (.slice A' n' c')) := hsta.trans (St.setCell (F := fun k => k = v ∨ L ≤ k) w2 (a := ⟨v, 0, none⟩) (.inl rfl) _) (Gr.refl _ _)
  refine ⟨?_, hst3, r2.set 0 _, hDF.far (fun ad he hne => by have := (hDF.blk ad he).1; simp at hne; omega) _⟩
  refine (keepsOthers_of hba).trans (KeepsOthers.trans ⟨hst.size, fun k o ho hc => ?_⟩ (KeepsOthers.setCell _ _ _))
  rw [hst.block k (Array.getElem?_eq_some_iff.1 ho).1 ?_]
  · exact ho
  · rintro ⟨ad, rfl, rfl⟩
    rcases hla.2.2.2.2 with ⟨h, _⟩ | ⟨g', o', cur, h, _, hh, _⟩
    · cases h
    · injection h with h
      subst h
      rw [hh] at ho
      injection ho with ho
      subst ho
      cases hc
/-- The same, of the variable of a call that turns nothing that was there. -/
theorem Col.step {t e : TypeId} {w : World} {L v : Nat} {xs ys : List Value} {W w2 : World} {A A' : Option Addr} {n c n' c' : Nat} (hb : Below w.heap.size w W) (hs : L ≤ W.heap.size) (r : Bk W t v [.slice A n c]) (hl : Lst e (L ≤ ·) W A n c xs) (hv : v < L) (hwv : w.heap.size ≤ v) (o : Obj)
    (hap : Apd e (BlkOf A) (W.alloc o) (.slice A' n' c') ys w2) :
    KeepsOthers W (w2.setCell ⟨v, 0, none⟩ (.slice A' n' c')) ∧ St (fun k => k = v ∨ L ≤ k) W (w2.setCell ⟨v, 0, none⟩ (.slice A' n' c')) ∧ Col t e w L v ys (w2.setCell ⟨v, 0, none⟩ (.slice A' n' c')) := by
  obtain ⟨h1, h2, h3, h4⟩ := Col.step0 hs r hl hv o hap
  refine ⟨h1, h2, ⟨hb.trans (h2.below hb.size ?_), Nat.le_trans hs h2.size, A', n', c', h3, h4⟩⟩
  rintro k (rfl | hk)
  · exact hwv
  · omega
/-- The mark of the loop is shut: what is there is as it was. -/
theorem Col.shut {t e : TypeId} {w : World} {L v D : Nat} {ys : List Value} {W : World} {A : Option Addr} {n c : Nat} (hb : Below w.heap.size w W) (hl : Lst e (L ≤ ·) W A n c ys) (hK : W.heap[D]? = some (.deferred (some []))) (hD : w.heap.size ≤ D) (hwL : w.heap.size ≤ L) (q : Nat) :
    Made e ys w (.returned (.slice A n c)) ((W.drewN q).putObj D (.deferred none)) := by
  refine ⟨A, n, c, rfl, ?_, ?_⟩
  · refine (hl.mono (F' := (w.heap.size ≤ ·)) fun k hk => Nat.le_trans hwL hk).same fun ad he => ?_
    show (((W.drewN q).putObj D (.deferred none)).heap[ad.block]? = W.heap[ad.block]?)
    rw [World.putObj_heap_other]
    · rfl
    · rintro rfl
      rcases hl.2.2.2.2 with ⟨rfl, _⟩ | ⟨g', o', cur, rfl, _, hh, _⟩
      · cases he
      · injection he with he
        subst he
        rw [hh] at hK
        cases hK
  · refine ⟨hb.os, hb.tape, hb.output, by have := hb.size; simp [World.putObj]; omega, fun k hk => ?_⟩
    rw [World.putObj_heap_other (by omega)]
    exact hb.block k hk
theorem Col.shut0 {t e : TypeId} {w : World} {L v D : Nat} {ys : List Value} {W : World} {A : Option Addr} {n c : Nat} (hb : Below w.heap.size w W) (hl : Lst e (L ≤ ·) W A n c ys) (hK : W.heap[D]? = some (.deferred (some []))) (hD : w.heap.size ≤ D) (hwL : w.heap.size ≤ L) :
    Made e ys w (.returned (.slice A n c)) (W.putObj D (.deferred none)) := Col.shut (t := t) (v := v) hb hl hK hD hwL 0
/-! ### Two lists that are gathered side by side -/
theorem keeps_apd {e : TypeId} {w w' : World} {A : Option Addr} {n c : Nat} {vs us : List Value} {v : Value} (h : Lst e (BlkOf A) w A n c vs) (hst : St (BlkOf A) w w') : KeepsOthers w w' := by
  refine ⟨hst.size, fun k o ho hc => (hst.block k (Array.getElem?_eq_some_iff.1 ho).1 ?_).trans ho⟩
  rintro ⟨ad, rfl, rfl⟩
  rcases h.2.2.2.2 with ⟨h, _⟩ | ⟨g', o', cur, h, _, hh, _⟩
  · cases h
  · injection h with h
    subst h
    rw [hh] at ho
    injection ho with ho
    subst ho
    cases hc
/-- Two lists of the call's own, apart; all below L stays. -/
structure Two (L : Nat) (e1 e2 : TypeId) (A1 : Option Addr) (n1 c1 : Nat) (xs : List Value) (A2 : Option Addr) (n2 c2 : Nat) (ys : List Value) (W0 W : World) : Prop where
  l1 : Lst e1 (L ≤ ·) W A1 n1 c1 xs
  l2 : Lst e2 (L ≤ ·) W A2 n2 c2 ys
  sep : Sep (BlkOf A1) (BlkOf A2)
  sz : L ≤ W0.heap.size
  bel : Below L W0 W
  kp : KeepsOthers W0 W
section
variable {L : Nat} {e1 e2 : TypeId} {A1 A2 : Option Addr} {n1 c1 n2 c2 : Nat} {xs ys us : List Value} {W0 W W' : World} {v : Value}
theorem Two.next (h : Two L e1 e2 A1 n1 c1 xs A2 n2 c2 ys W0 W) (hb : Below W.heap.size W W') : Two L e1 e2 A1 n1 c1 xs A2 n2 c2 ys W0 W' :=
  ⟨h.l1.below hb, h.l2.below hb, h.sep, h.sz, h.bel.trans (hb.mono (Nat.le_trans h.sz h.bel.size)), h.kp.trans (keepsOthers_of hb)⟩
theorem Two.alloc (h : Two L e1 e2 A1 n1 c1 xs A2 n2 c2 ys W0 W) (o : Obj) : Two L e1 e2 A1 n1 c1 xs A2 n2 c2 ys W0 (W.alloc o) := h.next ((Below.refl _ _).alloc (Nat.le_refl _) o)
theorem Two.app1 (h : Two L e1 e2 A1 n1 c1 xs A2 n2 c2 ys W0 W) (ha : Apd e1 (BlkOf A1) W v us W') : ∃ A n c, v = .slice A n c ∧ Two L e1 e2 A n c us A2 n2 c2 ys W0 W' ∧ Below L W W' := by
  obtain ⟨⟨A, n, c, rfl, hl⟩, hst⟩ := ha
  have hL := Nat.le_trans h.sz h.bel.size
  have hA : ∀ k, BlkOf A1 k → L ≤ k := by rintro k ⟨ad, he, rfl⟩; exact (h.l1.blk ad he).1
  have hb := hst.below hL hA
  refine ⟨A, n, c, rfl, ⟨hl.mono (fun k hk => ?_), h.l2.tight.st hst h.sep.symm |>.mono (fun k hk => by obtain ⟨ad, he, rfl⟩ := hk; exact (h.l2.blk ad he).1), h.sep.gr hl.gr h.l2.lt, h.sz, h.bel.trans hb, h.kp.trans (keeps_apd (us := us) (v := .slice A n c) h.l1.tight hst)⟩, hb⟩
  rcases hk with hk | hk
  · exact hA k hk
  · omega
theorem Two.swap (h : Two L e1 e2 A1 n1 c1 xs A2 n2 c2 ys W0 W) : Two L e2 e1 A2 n2 c2 ys A1 n1 c1 xs W0 W := ⟨h.l2, h.l1, h.sep.symm, h.sz, h.bel, h.kp⟩
theorem Two.app2 (h : Two L e1 e2 A1 n1 c1 xs A2 n2 c2 ys W0 W) (ha : Apd e2 (BlkOf A2) W v us W') : ∃ A n c, v = .slice A n c ∧ Two L e1 e2 A1 n1 c1 xs A n c us W0 W' ∧ Below L W W' := by
  obtain ⟨A, n, c, he, h2, hb⟩ := h.swap.app1 ha
  exact ⟨A, n, c, he, h2.swap, hb⟩
/-- The lists go into their variables. -/
theorem Two.stored {t1 t2 : TypeId} {v1 v2 : Nat} {x1 x2 : Value} (h : Two L e1 e2 A1 n1 c1 xs A2 n2 c2 ys W0 W) (r1 : Bk W0 t1 v1 [x1]) (r2 : Bk W0 t2 v2 [x2]) (h1 : v1 < L) (h2 : v2 < L) (hne : v1 ≠ v2) :
    KeepsOthers W0 ((W.setCell ⟨v1, 0, none⟩ (.slice A1 n1 c1)).setCell ⟨v2, 0, none⟩ (.slice A2 n2 c2)) ∧ St (fun k => k = v1 ∨ k = v2 ∨ L ≤ k) W0 ((W.setCell ⟨v1, 0, none⟩ (.slice A1 n1 c1)).setCell ⟨v2, 0, none⟩ (.slice A2 n2 c2)) ∧
    Bk ((W.setCell ⟨v1, 0, none⟩ (.slice A1 n1 c1)).setCell ⟨v2, 0, none⟩ (.slice A2 n2 c2)) t1 v1 [.slice A1 n1 c1] ∧ Bk ((W.setCell ⟨v1, 0, none⟩ (.slice A1 n1 c1)).setCell ⟨v2, 0, none⟩ (.slice A2 n2 c2)) t2 v2 [.slice A2 n2 c2] ∧
    Lst e1 (L ≤ ·) ((W.setCell ⟨v1, 0, none⟩ (.slice A1 n1 c1)).setCell ⟨v2, 0, none⟩ (.slice A2 n2 c2)) A1 n1 c1 xs ∧ Lst e2 (L ≤ ·) ((W.setCell ⟨v1, 0, none⟩ (.slice A1 n1 c1)).setCell ⟨v2, 0, none⟩ (.slice A2 n2 c2)) A2 n2 c2 ys := by
  have hL : ∀ {e : TypeId} {A : Option Addr} {n c : Nat} {ls : List Value}, Lst e (L ≤ ·) W A n c ls → Lst e (L ≤ ·) ((W.setCell ⟨v1, 0, none⟩ (.slice A1 n1 c1)).setCell ⟨v2, 0, none⟩ (.slice A2 n2 c2)) A n c ls :=
    fun hl => (hl.far (fun ad he => by have := (hl.blk ad he).1; simp; omega) _).far (fun ad he => by have := (hl.blk ad he).1; simp; omega) _
  have hst : St (fun k => k = v1 ∨ k = v2 ∨ L ≤ k) W0 W := ⟨h.bel.os, h.bel.tape, h.bel.output, h.bel.size, fun k hk hn => h.bel.block k (by omega)⟩
  exact ⟨(h.kp.trans (KeepsOthers.setCell _ _ _)).trans (KeepsOthers.setCell _ _ _), (hst.trans (St.setCell (F := fun k => k = v1 ∨ k = v2 ∨ L ≤ k) W (a := ⟨v1, 0, none⟩) (.inl rfl) _) (Gr.refl _ _)).trans (St.setCell (F := fun k => k = v1 ∨ k = v2 ∨ L ≤ k) _ (a := ⟨v2, 0, none⟩) (.inr (.inl rfl)) _) (Gr.refl _ _),
    ((r1.keep h.bel h1).set 0 _).far hne _, ((r2.keep h.bel h2).far (Ne.symm hne) _).set 0 _, hL h.l1, hL h.l2⟩
end
end Go.Proofs.Ytbhhgfpliggkgaa
namespace Go.Proofs.Ytbhhgfpliggkgaa
open Go.RowKit Go.Shelf

section
variable {α : Type} {cl : α → List Value} {sz : Nat}
/-- The cells of a list of rows. -/
def flat (cl : α → List Value) (qs : List α) : List Value := qs.flatMap cl
theorem flat_nil : flat cl ([] : List α) = [] := rfl
theorem flat_app (a b : List α) : flat cl (a ++ b) = flat cl a ++ flat cl b := by simp [flat]
theorem flat_one (q : α) : flat cl [q] = cl q := by simp [flat]
theorem flat_len (h : ∀ a, (cl a).length = sz) : ∀ qs : List α, (flat cl qs).length = qs.length * sz
  | [] => by simp [flat]
  | q :: r => by
    have ih := flat_len h r
    simp only [flat, List.flatMap_cons, List.length_append, List.length_cons, h] at ih ⊢
    rw [ih, Nat.add_mul, Nat.one_mul, Nat.add_comm]
theorem flat_drop (h : ∀ a, (cl a).length = sz) (qs : List α) (s : Nat) (hs : s ≤ qs.length) : flat cl (qs.drop s) = (flat cl qs).drop (s * sz) := by
  have e : flat cl qs = flat cl (qs.take s) ++ flat cl (qs.drop s) := by rw [← flat_app, List.take_append_drop]
  have hl : (flat cl (qs.take s)).length = s * sz := by rw [flat_len h, List.length_take, Nat.min_eq_left hs]
  rw [e, ← hl, List.drop_left]
theorem flat_row (h : ∀ a, (cl a).length = sz) (qs : List α) (i : Nat) (hi : i < qs.length) : ((flat cl qs).drop (i * sz)).take sz = cl qs[i] := by
  rw [← flat_drop h qs i (Nat.le_of_lt hi), List.drop_eq_getElem_cons hi]
  show (cl qs[i] ++ _).take sz = _
  rw [← h qs[i], List.take_left]
theorem flat_wf (h : ∀ a, ∀ v ∈ cl a, v.oneCell' = true) (qs : List α) : ∀ v ∈ flat cl qs, v.oneCell' = true := by
  intro v hv
  obtain ⟨a, _, ha⟩ := List.mem_flatMap.1 hv
  exact h a v ha
theorem flat_set (h : ∀ a, (cl a).length = sz) (qs : List α) (i : Nat) (hi : i < qs.length) (q : α) : flat cl (qs.set i q) = lay (flat cl qs) (i * sz) (cl q) := by
  have e : qs = qs.take i ++ (qs[i] :: qs.drop (i + 1)) := by rw [← List.drop_eq_getElem_cons hi, List.take_append_drop]
  have hl : (flat cl (qs.take i)).length = i * sz := by rw [flat_len h, List.length_take, Nat.min_eq_left (Nat.le_of_lt hi)]
  have hf : flat cl qs = flat cl (qs.take i) ++ (cl qs[i] ++ flat cl (qs.drop (i + 1))) := by
    conv => lhs; rw [e]
    rw [flat_app]; rfl
  have h1 : (flat cl qs).take (i * sz) = flat cl (qs.take i) := by rw [hf, ← hl, List.take_left]
  have h2 : (flat cl qs).drop (i * sz + (cl q).length) = flat cl (qs.drop (i + 1)) := by
    rw [h q, hf, ← List.drop_drop, ← hl, List.drop_left, ← h qs[i], List.drop_left]
  rw [List.set_eq_take_append_cons_drop, if_pos hi, flat_app]
  unfold lay
  rw [h1, h2, List.append_assoc]
  rfl

/-- The slice (A, n, c) of elements of sz cells reads in w as the cells cs. -/
def RdR (sz : Nat) (w : World) (A : Option Addr) (n c : Nat) (cs : List Value) : Prop :=
  cs.length = n * sz ∧ n ≤ c ∧ c ≤ maxLen ∧ (A = none → c = 0) ∧ (∀ v ∈ cs, v.oneCell' = true) ∧
  (0 < n → ∃ g o, A = some ⟨g, o, none⟩ ∧ g < w.heap.size ∧ ∀ i, i < n * sz → w.cell? ⟨g, o + i, none⟩ = cs[i]?)
section
variable {w w' : World} {A : Option Addr} {n c : Nat} {cs : List Value}
theorem RdR.st (h : RdR sz w A n c cs) {F : Nat → Prop} (hs : St F w w') (hA : 0 < n → ∀ ad, A = some ad → ¬ F ad.block) : RdR sz w' A n c cs := by
  obtain ⟨h1, h2, h3, h4, h5, h6⟩ := h
  refine ⟨h1, h2, h3, h4, h5, fun hn => ?_⟩
  obtain ⟨g, o, e, hg, hx⟩ := h6 hn
  exact ⟨g, o, e, by have := hs.size; omega, fun i hi => (hs.cell (p := ⟨g, o + i, none⟩) hg (show ¬ F g from hA hn _ e)).trans (hx i hi)⟩
theorem RdR.below (h : RdR sz w A n c cs) (hb : Below w.heap.size w w') : RdR sz w' A n c cs := h.st (F := fun _ => False) (St.ext hb) (fun _ _ _ => id)
theorem RdR.alloc (h : RdR sz w A n c cs) (o : Obj) : RdR sz (w.alloc o) A n c cs := h.below ((Below.refl _ _).alloc (Nat.le_refl _) o)
theorem RdR.blk (h : RdR sz w A n c cs) : 0 < n → ∀ ad, A = some ad → ad.block < w.heap.size := fun hn ad he => by
  obtain ⟨g, o, e, hg, _⟩ := h.2.2.2.2.2 hn
  rw [e] at he
  injection he with he
  subst he
  exact hg
theorem RdR.nil (sz : Nat) (w : World) : RdR sz w none 0 0 [] := ⟨by simp, Nat.le_refl _, Nat.zero_le _, fun _ => rfl, by simp, fun h => absurd h (by omega)⟩
theorem RdR.one (w : World) (e : TypeId) (cs : List Value) (hx : ∀ v ∈ cs, v.oneCell' = true) : RdR cs.length (w.alloc (.cells cs.toArray e)) (some ⟨w.heap.size, 0, none⟩) 1 1 cs := by
  refine ⟨by simp, Nat.le_refl _, by decide, by simp, hx, fun _ => ⟨w.heap.size, 0, rfl, by simp, fun i hi => ?_⟩⟩
  rw [cell_of_row _ _ _ _ _ _ (heap_alloc_new w _)]
  simp
/-- Where x[s:] of a slice of elements of sz cells begins. -/
def cutR (A : Option Addr) (c s sz : Nat) : Option Addr := if c = s then A else A.map (·.add (s * sz))
theorem RdR.cut (h : RdR sz w A n c cs) {s : Nat} (hs : s ≤ n) : RdR sz w (cutR A c s sz) (n - s) (c - s) (cs.drop (s * sz)) := by
  unfold cutR
  obtain ⟨h1, h2, h3, h4, h5, h6⟩ := h
  have hm : s * sz ≤ n * sz := Nat.mul_le_mul_right _ hs
  refine ⟨by rw [List.length_drop, h1, Nat.sub_mul], by omega, by omega, ?_, fun x hx => h5 x (List.mem_of_mem_drop hx), fun hn => ?_⟩
  · split
    · omega
    · intro he
      have : A = none := by simpa using he
      have := h4 this
      omega
  · obtain ⟨g, o, rfl, hg, hx⟩ := h6 (by omega)
    rw [if_neg (by omega)]
    refine ⟨g, o + s * sz, by simp [Addr.add], hg, fun i hi => ?_⟩
    rw [Nat.sub_mul] at hi
    rw [show o + s * sz + i = o + (s * sz + i) from by omega, hx (s * sz + i) (by omega), List.getElem?_drop]
theorem RdR.src {P : Program} {t e : TypeId} (ht : P.underlying t = some (.slice e)) (h : RdR sz w A n c cs) : Src P sz t (.slice A n c) n cs w := by
  obtain ⟨h1, h2, h3, h4, h5, h6⟩ := h
  by_cases hn : 0 < n
  · obtain ⟨g, o, rfl, _, hx⟩ := h6 hn
    refine Src.ofSlice w ht _ n c cs h1 ?_ h5
    intro j u hu
    have hj : j < cs.length := by
      rcases Nat.lt_or_ge j cs.length with h | h
      · exact h
      · rw [List.getElem?_eq_none h] at hu; cases hu
    have hadd : (⟨g, o, none⟩ : Addr).add j = ⟨g, o + j, none⟩ := by unfold Addr.add; split <;> simp_all
    rw [hadd, hx j (by omega), hu]
  · obtain rfl : n = 0 := by omega
    rw [Nat.zero_mul] at h1
    obtain rfl : cs = [] := List.eq_nil_of_length_eq_zero h1
    cases A with
    | none => exact Src.ofNil w ht c
    | some a => exact Src.ofSlice w ht a 0 c [] (by simp) (by simp) (by simp)
/-- The cells of row i. -/
theorem RdR.range (h : RdR sz w A n c cs) {i : Nat} (hi : i < n) : ∃ g o, A = some ⟨g, o, none⟩ ∧ g < w.heap.size ∧ w.rangeAt g (o + i * sz) ((cs.drop (i * sz)).take sz) := by
  obtain ⟨h1, h2, h3, h4, h5, h6⟩ := h
  obtain ⟨g, o, e, hg, hx⟩ := h6 (by omega)
  have hm : (i + 1) * sz ≤ n * sz := Nat.mul_le_mul_right _ hi
  rw [Nat.add_mul, Nat.one_mul] at hm
  refine ⟨g, o, e, hg, fun j v hv => ?_⟩
  rw [List.getElem?_take] at hv
  split at hv
  · rename_i hj
    rw [List.getElem?_drop] at hv
    rw [Nat.add_assoc, hx _ (by omega), hv]
  · cases hv
end

/-- The slice (A, n, c) of elements of type e, sz cells each, reads as cs, and lies, with all its room, in a block of F that is all of that type. -/
def LstR (sz : Nat) (e : TypeId) (F : Nat → Prop) (w : World) (A : Option Addr) (n c : Nat) (cs : List Value) : Prop :=
  cs.length = n * sz ∧ n ≤ c ∧ c ≤ maxLen ∧ (∀ v ∈ cs, v.oneCell' = true) ∧
  ((A = none ∧ c = 0) ∨ ∃ g o cur, A = some ⟨g, o, none⟩ ∧ F g ∧ w.heap[g]? = some (.cells cur e (0, 0)) ∧ o + c * sz ≤ cur.size ∧ ∀ i, i < n * sz → cur[o + i]? = cs[i]?)
section
variable {e : TypeId} {F F' : Nat → Prop} {w w' : World} {A : Option Addr} {n c : Nat} {cs : List Value}
theorem LstR.nil (sz : Nat) (e : TypeId) (F : Nat → Prop) (w : World) : LstR sz e F w none 0 0 [] := ⟨by simp, Nat.le_refl _, Nat.zero_le _, by simp, .inl ⟨rfl, rfl⟩⟩
theorem LstR.mono (h : LstR sz e F w A n c cs) (hF : ∀ k, F k → F' k) : LstR sz e F' w A n c cs := by
  obtain ⟨h1, h2, h3, h4, h5⟩ := h
  refine ⟨h1, h2, h3, h4, ?_⟩
  rcases h5 with h5 | ⟨g, o, cur, hA, hf, r⟩
  · exact .inl h5
  · exact .inr ⟨g, o, cur, hA, hF g hf, r⟩
theorem LstR.rd (h : LstR sz e F w A n c cs) : RdR sz w A n c cs := by
  obtain ⟨h1, h2, h3, h4, h5⟩ := h
  rcases h5 with ⟨rfl, rfl⟩ | ⟨g, o, cur, rfl, hf, hh, hs, hx⟩
  · obtain rfl : n = 0 := by omega
    exact ⟨h1, h2, h3, fun _ => rfl, h4, fun h => absurd h (by omega)⟩
  · exact ⟨h1, h2, h3, by simp, h4, fun hn => ⟨g, o, rfl, (Array.getElem?_eq_some_iff.1 hh).1, fun i hi => by rw [cell_of_row _ _ _ _ _ _ hh]; exact hx i hi⟩⟩
theorem LstR.blk (h : LstR sz e F w A n c cs) : ∀ ad, A = some ad → F ad.block ∧ ad.block < w.heap.size := by
  intro ad he
  rcases h.2.2.2.2 with ⟨rfl, rfl⟩ | ⟨g, o, cur, rfl, hf, hh, hs, hx⟩
  · cases he
  · injection he with he
    subst he
    exact ⟨hf, (Array.getElem?_eq_some_iff.1 hh).1⟩
theorem LstR.same (h : LstR sz e F w A n c cs) (hb : ∀ ad, A = some ad → w'.heap[ad.block]? = w.heap[ad.block]?) : LstR sz e F w' A n c cs := by
  obtain ⟨h1, h2, h3, h4, h5⟩ := h
  refine ⟨h1, h2, h3, h4, ?_⟩
  rcases h5 with h5 | ⟨g, o, cur, rfl, hf, hh, r⟩
  · exact .inl h5
  · exact .inr ⟨g, o, cur, rfl, hf, (hb _ rfl).trans hh, r⟩
theorem LstR.st (h : LstR sz e F w A n c cs) {G : Nat → Prop} (hs : St G w w') (hG : ∀ k, F k → ¬ G k) : LstR sz e F w' A n c cs :=
  h.same fun ad he => hs.block _ (h.blk ad he).2 (hG _ (h.blk ad he).1)
theorem LstR.below (h : LstR sz e F w A n c cs) (hb : Below w.heap.size w w') : LstR sz e F w' A n c cs := h.same fun ad he => hb.block _ (h.blk ad he).2
theorem LstR.alloc (h : LstR sz e F w A n c cs) (o : Obj) : LstR sz e F (w.alloc o) A n c cs := h.below ((Below.refl _ _).alloc (Nat.le_refl _) o)
theorem LstR.far (h : LstR sz e F w A n c cs) {p : Addr} (hp : ∀ ad, A = some ad → ad.block ≠ p.block) (x : Value) : LstR sz e F (w.setCell p x) A n c cs := h.same fun ad he => Below.heap_setCell w p x _ (hp ad he)
theorem LstR.cut (h : LstR sz e F w A n c cs) {s : Nat} (hs : s ≤ n) : LstR sz e F w (cutR A c s sz) (n - s) (c - s) (cs.drop (s * sz)) := by
  obtain ⟨h1, h2, h3, h4, h5⟩ := h
  have hm : s * sz ≤ n * sz := Nat.mul_le_mul_right _ hs
  have hm2 : n * sz ≤ c * sz := Nat.mul_le_mul_right _ h2
  refine ⟨by rw [List.length_drop, h1, Nat.sub_mul], by omega, by omega, fun x hx => h4 x (List.mem_of_mem_drop hx), ?_⟩
  unfold cutR
  rcases h5 with ⟨rfl, rfl⟩ | ⟨g, o, cur, rfl, hf, hh, hsz, hx⟩
  · exact .inl ⟨by split <;> rfl, by omega⟩
  · split
    · rename_i hcs
      subst hcs
      obtain rfl : n = c := by omega
      exact .inr ⟨g, o, cur, rfl, hf, hh, by simp; omega, fun i hi => by simp at hi⟩
    · refine .inr ⟨g, o + s * sz, cur, by simp [Addr.add], hf, hh, by rw [Nat.sub_mul]; omega, fun i hi => ?_⟩
      rw [Nat.sub_mul] at hi
      rw [show o + s * sz + i = o + (s * sz + i) from by omega, hx (s * sz + i) (by omega), List.getElem?_drop]
theorem LstR.made (sz : Nat) (w : World) (e : TypeId) (cur : Array Value) (n c : Nat) (cs : List Value) (hv : cs.length = n * sz) (hn : n ≤ c) (hc : c * sz ≤ cur.size) (hm : c ≤ maxLen) (h1 : ∀ v ∈ cs, v.oneCell' = true) (hx : ∀ i, i < n * sz → cur[i]? = cs[i]?) :
    LstR sz e (w.heap.size ≤ ·) (w.alloc (.cells cur e)) (some ⟨w.heap.size, 0, none⟩) n c cs :=
  ⟨hv, hn, hm, h1, .inr ⟨w.heap.size, 0, cur, rfl, Nat.le_refl _, heap_alloc_new w _, by omega, fun i hi => by rw [Nat.zero_add]; exact hx i hi⟩⟩
theorem LstR.tight (h : LstR sz e F w A n c cs) : LstR sz e (BlkOf A) w A n c cs := by
  obtain ⟨h1, h2, h3, h4, h5⟩ := h
  refine ⟨h1, h2, h3, h4, ?_⟩
  rcases h5 with h5 | ⟨g, o, cur, rfl, hf, r⟩
  · exact .inl h5
  · exact .inr ⟨g, o, cur, rfl, ⟨_, rfl, rfl⟩, r⟩
/-- Row i is there, and may be written. -/
theorem LstR.there {g o : Nat} (h : LstR sz e F w (some ⟨g, o, none⟩) n c cs) {i : Nat} (hi : i < n) : w.there g (o + i * sz) sz := by
  obtain ⟨h1, h2, h3, h4, h5⟩ := h
  have hm : (i + 1) * sz ≤ n * sz := Nat.mul_le_mul_right _ hi
  have hm2 : n * sz ≤ c * sz := Nat.mul_le_mul_right _ h2
  rw [Nat.add_mul, Nat.one_mul] at hm
  rcases h5 with ⟨h, _⟩ | ⟨g', o', cur, hA, hf, hh, hs, hc⟩
  · cases h
  · injection hA with hA
    injection hA with e1 e2 e3
    subst e1 e2
    intro j hj
    refine ⟨?_, by simp [World.frozen?, hh]⟩
    rw [cell_of_row _ _ _ _ _ _ hh, Array.getElem?_eq_getElem (by omega)]
    rfl
/-- Row i is written. -/
theorem LstR.lay {g o : Nat} (h : LstR sz e F w (some ⟨g, o, none⟩) n c cs) {i : Nat} (hi : i < n) {us : List Value} (hu : us.length = sz) (h1' : ∀ v ∈ us, v.oneCell' = true) :
    LstR sz e F (w.setCells g (o + i * sz) us) (some ⟨g, o, none⟩) n c (lay cs (i * sz) us) := by
  obtain ⟨h1, h2, h3, h4, h5⟩ := h
  have hm : (i + 1) * sz ≤ n * sz := Nat.mul_le_mul_right _ hi
  have hm2 : n * sz ≤ c * sz := Nat.mul_le_mul_right _ h2
  rw [Nat.add_mul, Nat.one_mul] at hm
  have hl : i * sz + us.length ≤ cs.length := by omega
  refine ⟨by rw [lay_len _ _ _ hl, h1], h2, h3, ?_, ?_⟩
  · intro v hv
    unfold Go.Proofs.Ytbhhgfpliggkgaa.lay at hv
    rw [List.mem_append, List.mem_append] at hv
    rcases hv with (hv | hv) | hv
    · exact h4 v (List.mem_of_mem_take hv)
    · exact h1' v hv
    · exact h4 v (List.mem_of_mem_drop hv)
  · rcases h5 with ⟨h, _⟩ | ⟨g', o', cur, hA, hf, hh, hs, hc⟩
    · cases h
    · injection hA with hA
      injection hA with e1 e2 e3
      subst e1 e2
      obtain ⟨cur', k1, k2, k3, k4⟩ := heap_setCells g e (0, 0) us (o + i * sz) w cur hh (by omega)
      refine .inr ⟨g, o, cur', rfl, hf, k1, by omega, fun j hj => ?_⟩
      rcases (by omega : (i * sz ≤ j ∧ j < i * sz + us.length) ∨ (j < i * sz ∨ i * sz + us.length ≤ j)) with hc1 | hc1
      · obtain ⟨q, rfl⟩ := Nat.exists_eq_add_of_le hc1.1
        rw [← Nat.add_assoc, k3 q (by omega), lay_in _ _ _ hl (by omega)]
      · rw [k4 (o + j) (by omega), hc j hj, lay_out _ _ _ hl hc1]
end

/-- In P, type t is a slice of type e, whose elements are rows, at first zs, of so many bytes. -/
structure EltS (P : Program) (t e : TypeId) (zs : List Value) (bytes : Nat) : Prop where
  ht : P.underlying t = some (.slice e)
  hi : (P.info? e).map (fun i => (i.zero, i.size, i.bytes)) = some (some (.agg zs.toArray), zs.length, bytes)
  h1 : ∀ v ∈ zs, v.oneCell' = true
  hs : 0 < zs.length
  hb : 0 < bytes
  hr : ∃ d, P.underlying e = some d ∧ d.isRow = true
  hm : zs.length ≤ 1000
/-- What an append leaves: the list longer, in the same block or in a new one. -/
structure ApdR (sz : Nat) (e : TypeId) (F : Nat → Prop) (w : World) (v : Value) (cs : List Value) (w' : World) : Prop where
  ex : ∃ A n c, v = .slice A n c ∧ LstR sz e (fun k => F k ∨ w.heap.size ≤ k) w' A n c cs
  st : St F w w'
section
variable {P : Program} {w : World} {t e : TypeId} {zs : List Value} {bytes : Nat} {F : Nat → Prop} {A B : Option Addr} {n c m d : Nat} {cs us : List Value}
theorem EltS.row (E : EltS P t e zs bytes) : Row P e zs.length := by
  obtain ⟨i, hi, hz, hsz, hby⟩ := info_parts E.hi
  exact ⟨E.hr, by rw [hi]; simp [hsz]⟩
theorem run_append_lstR (E : EltS P t e zs bytes) (ty : TypeId) (h : LstR zs.length e F w A n c cs) (hu : RdR zs.length w B m d us) (hlen : (n + m) * bytes ≤ 140737488355328) :
    ∃ v w', (Builtin.append_ #[t, t] ty #[.slice A n c, .slice B m d]).run P w = .ok v w' ∧ ApdR zs.length e F w v (cs ++ us) w' := by
  obtain ⟨i, hi, hz, hsz, hby⟩ := info_parts E.hi
  have hmax : n + m ≤ maxLen := by
    have : (n + m) * 1 ≤ (n + m) * bytes := Nat.mul_le_mul_left _ E.hb
    simp only [maxLen]; omega
  have hsrc' : Src P i.size t (.slice B m d) m us w := by rw [hsz]; exact hu.src E.ht
  have hrd := h.rd
  have hul : us.length = m * zs.length := hu.1
  have hone : ∀ v ∈ cs ++ us, v.oneCell' = true := fun v hv => by
    rcases List.mem_append.1 hv with h' | h'
    · exact h.2.2.2.1 v h'
    · exact hu.2.2.2.2.1 v h'
  have hlen' : (cs ++ us).length = (n + m) * zs.length := by rw [List.length_append, h.1, hul, Nat.add_mul]
  by_cases hroom : n + m ≤ c
  · have hm3 : (n + m) * zs.length ≤ c * zs.length := Nat.mul_le_mul_right _ hroom
    rw [Nat.add_mul] at hm3
    rcases h.2.2.2.2 with ⟨rfl, rfl⟩ | ⟨g, o, cur, rfl, hf, hh, hs, hx⟩
    · obtain rfl : n = 0 := by omega
      obtain rfl : m = 0 := by omega
      obtain rfl : us = [] := List.eq_nil_of_length_eq_zero (by omega)
      obtain rfl : cs = [] := List.eq_nil_of_length_eq_zero (by have := h.1; omega)
      refine ⟨.slice none 0 0, w, ?_, ⟨⟨none, 0, 0, rfl, LstR.nil _ _ _ _⟩, St.refl _ _⟩⟩
      have h1 := hsrc'.len
      have h2 := hsrc'.cells
      simp [Builtin.append_, run_underlying E.ht, sizeOf, typeInfo, hi, h1, h2]
    · have hr := run_append_room_src (P := P) w t t ty e i E.ht hi g o n c (.slice B m d) m us hsrc' hroom
        (fun j hj => by rw [hsz, cell_of_row _ _ _ _ _ _ hh, Array.getElem?_eq_getElem (by omega)]; rfl)
        (fun j hj => by simp [World.frozen?, hh])
      rw [hsz] at hr
      obtain ⟨cur', h1, h2, h3, h4⟩ := heap_setCells g e (0, 0) us (o + n * zs.length) w cur hh (by omega)
      refine ⟨_, _, hr, ⟨⟨_, _, _, rfl, hlen', hroom, h.2.2.1, hone, .inr ⟨g, o, cur', rfl, .inl hf, h1, by omega, fun j hj => ?_⟩⟩, st_setCells F g hf _ _ _⟩⟩
      rw [Nat.add_mul] at hj
      by_cases hjn : j < n * zs.length
      · rw [h4 (o + j) (by omega), hx j hjn, List.getElem?_append_left (by rw [h.1]; exact hjn)]
      · rw [show o + j = o + n * zs.length + (j - n * zs.length) from by omega, h3 (j - n * zs.length) (by omega), List.getElem?_append_right (by rw [h.1]; omega), h.1]
  · have holds : (Builtin.firstCells i.size n (.slice A n c)).run P w.drew = .ok cs.toArray w.drew := by
      have := (hrd.src E.ht).cellsD
      rw [hsz]; exact this
    have hr := run_append_grow_src (P := P) w t t ty e i _ E.ht hi hz A n c cs holds (.slice B m d) m us hsrc' (by omega) (by simp only [maxLen] at hmax; omega) (growslice_fits (by omega) (by rw [hby]; exact hlen))
    have hge := grownCap_ge w (n + m) c e
    have hcm : grownCap w (n + m) c e ≤ maxLen := grownCap_le_maxLen w (n + m) c e hmax
    have hcs : ((cs ++ us).toArray ++ Builtin.zeroCells (Value.agg zs.toArray).cells (grownCap w (n + m) c e - (n + m))).size = grownCap w (n + m) c e * zs.length := by
      rw [Array.size_append, zeroCells_size, List.size_toArray, hlen']
      simp only [Value.cells, List.size_toArray]
      rw [← Nat.add_mul]
      congr 1; omega
    have hl := LstR.made zs.length w.drew e ((cs ++ us).toArray ++ Builtin.zeroCells (Value.agg zs.toArray).cells (grownCap w (n + m) c e - (n + m))) (n + m) (grownCap w (n + m) c e) (cs ++ us) hlen' hge (by rw [hcs]; exact Nat.le_refl _) hcm hone
      (fun j hj => by rw [Array.getElem?_append_left (by rw [List.size_toArray, hlen']; exact hj)]; simp)
    exact ⟨_, _, hr, ⟨⟨_, _, _, rfl, hl.mono fun k hk => .inr (by simpa using hk)⟩, ⟨rfl, rfl, rfl, by simp, fun k hk _ => heap_alloc_old w.drew _ hk⟩⟩⟩
theorem wpList_append_lstR {ops : Array Oper} {rest : List Oper} {o : Oper} {a : Act} {Q : Exit → Act → World → Prop} (E : EltS P t e zs bytes) (hgd : o.guard = none) (s x : Operand)
    (ho : o.op = .call { callee := .builtin .append, args := #[s, x], argTypes := #[t, t] })
    (hs : a.eval s = .slice A n c) (h : LstR zs.length e F w A n c cs) (hx : a.eval x = .slice B m d) (hu : RdR zs.length w B m d us) (hlen : (n + m) * bytes ≤ 140737488355328)
    (hq : ∀ v w', ApdR zs.length e F w v (cs ++ us) w' → wpList P ops Q rest (a.put o.dst v) w') : wpList P ops Q (o :: rest) a w := by
  obtain ⟨v, w', hrun, hap⟩ := run_append_lstR E o.type h hu hlen
  refine wpList_plain hgd fun K hK => ?_
  unfold Oper.wp execOp
  simp only [ho, resolve, invoke, builtin, Sem.run_bind, Sem.run_pure, Result.andThen_ok, List.map_toArray, List.map_cons, List.map_nil, hs, hx, hrun]
  exact hK _ _ (hq v w' hap)
/-- clear(x[:1]). -/
theorem run_clear_row (E : EltS P t e zs bytes) (ty : TypeId) {g o : Nat} {c : Nat} (hc : w.there g o zs.length) :
    (Builtin.clear_ #[t] ty #[.slice (some ⟨g, o, none⟩) 1 c]).run P w = .ok (.tuple #[]) (w.setCells g o zs) := by
  obtain ⟨i, hi, hz, hsz, hby⟩ := info_parts E.hi
  have hst := run_storeCells_cells (P := P) g o zs 0 w (fun j hj => by rw [Nat.add_zero]; exact (hc j hj).1) (fun j hj => by rw [Nat.add_zero]; exact (hc j hj).2) E.h1
  simp only [Nat.add_zero] at hst
  have hzc : (Builtin.zeroCells (Value.agg zs.toArray).cells 1).toList = zs := by
    apply List.ext_getElem
    · simp [Builtin.zeroCells, Value.cells]
    · intro j h1 h2
      simp [Builtin.zeroCells, Value.cells, Nat.mod_eq_of_lt h2, h2]
  simp [Builtin.clear_, run_underlying E.ht, zeroValue, typeInfo, hi, hz, hzc, hst]
theorem wpList_clear_row {ops : Array Oper} {rest : List Oper} {o : Oper} {a : Act} {Q : Exit → Act → World → Prop} (E : EltS P t e zs bytes) (hgd : o.guard = none) (s : Operand)
    (ho : o.op = .call { callee := .builtin .clear, args := #[s], argTypes := #[t] }) {g p : Nat} (hs : a.eval s = .slice (some ⟨g, p, none⟩) 1 c)
    (hc : w.there g p zs.length)
    (hq : wpList P ops Q rest (a.put o.dst (.tuple #[])) (w.setCells g p zs)) : wpList P ops Q (o :: rest) a w := by
  have hrun := run_clear_row (c := c) E o.type hc
  refine wpList_plain hgd fun K hK => ?_
  unfold Oper.wp execOp
  simp only [ho, resolve, invoke, builtin, Sem.run_bind, Sem.run_pure, Result.andThen_ok, List.map_toArray, List.map_cons, List.map_nil, hs, hrun]
  exact hK _ _ hq
/-- x[s:], x[:s]. -/
theorem EltS.run_cut (E : EltS P t e zs bytes) (A : Option Addr) (n c s : Nat) (hs : s ≤ n) (hn : n ≤ c) (w : World) :
    (Instr.slice t (.slice A n c) (some (.int .i64 s)) none none).run P w = .ok (.slice (cutR A c s zs.length) (n - s) (c - s)) w := by
  obtain ⟨i, hi, hz, hsz, hby⟩ := info_parts E.hi
  have h1 := run_sliceBound (P := P) (w := w) .i64 s n .sliceB (by omega) (by omega)
  simp [Instr.slice, run_underlying E.ht, Instr.sliceBounds, h1, sizeOf, typeInfo, hi, hsz, cutR]
theorem EltS.run_pre (E : EltS P t e zs bytes) (A : Option Addr) (n c s : Nat) (hs : s ≤ c) (hn : n ≤ c) (w : World) :
    (Instr.slice t (.slice A n c) none (some (.int .i64 s)) none).run P w = .ok (.slice A s c) w := by
  obtain ⟨i, hi, hz, hsz, hby⟩ := info_parts E.hi
  have h1 := run_sliceBound (P := P) (w := w) .i64 s c .sliceAcap (by omega) (by omega)
  have h2 := run_sliceBound (P := P) (w := w) .i64 0 s .sliceB (by omega) (by omega)
  have e2 : Option.map (fun x => Addr.add x 0) A = A := by
    cases A with
    | none => rfl
    | some x => simp [Addr.add]
  simp [Instr.slice, run_underlying E.ht, Instr.sliceBounds, h1, h2, sizeOf, typeInfo, hi, hsz, e2]
theorem fill_get : ∀ (xs : List Value) (k : Nat) (a : Array Value), k + xs.length ≤ a.size → ∀ i, ((xs.zipIdx k).foldl (fun cs (x : Value × Nat) => cs.setIfInBounds x.2 x.1) a)[i]? = if k ≤ i ∧ i < k + xs.length then xs[i - k]? else a[i]?
  | [], k, a, _, i => by simp; omega
  | x :: r, k, a, h, i => by
    simp only [List.length_cons] at h
    rw [List.zipIdx_cons, List.foldl_cons, fill_get r (k + 1) _ (by simp; omega) i]
    simp only [List.length_cons]
    by_cases h1 : k + 1 ≤ i ∧ i < k + 1 + r.length
    · rw [if_pos h1, if_pos (by omega), show i - k = (i - (k + 1)) + 1 from by omega, List.getElem?_cons_succ]
    · rw [if_neg h1, Array.getElem?_setIfInBounds]
      by_cases h2 : k = i
      · subst h2
        rw [if_pos rfl, if_pos (by omega), if_pos (by omega), Nat.sub_self, List.getElem?_cons_zero]
      · rw [if_neg h2, if_neg (by omega)]
theorem fill_all (xs : List Value) (a : Array Value) (h : a.size = xs.length) : (xs.zipIdx).foldl (fun cs (x : Value × Nat) => cs.setIfInBounds x.2 x.1) a = xs.toArray := by
  apply Array.ext_getElem?
  intro i
  rw [fill_get xs 0 a (by omega) i]
  by_cases hi : i < xs.length
  · rw [if_pos ⟨Nat.zero_le _, by omega⟩, Nat.sub_zero, List.getElem?_toArray]
  · have h1 : a[i]? = none := Array.getElem?_eq_none (by omega)
    have h2 : xs.toArray[i]? = none := Array.getElem?_eq_none (by rw [List.size_toArray]; omega)
    rw [if_neg (by omega), h1, h2]
theorem EltS.build_one (E : EltS P t e zs bytes) {xs : List Value} (hx : xs.length = zs.length) (w : World) :
    (Instr.buildSlice t 1 #[(0, .agg xs.toArray)]).run P w = .ok (.slice (some ⟨w.heap.size, 0, none⟩) 1 1) (w.alloc (.cells xs.toArray e)) := by
  obtain ⟨i, hi, hz, hsz, hby⟩ := info_parts E.hi
  have hm := E.hm
  have hne : zs ≠ [] := by intro e; have := E.hs; rw [e] at this; simp at this
  have h24 : ¬ (16777216 < zs.length) := by omega
  simp [Instr.buildSlice, run_underlying E.ht, sizeOf, typeInfo, zeroValue, hi, hsz, hz, Instr.fill, newRow, Value.cells, hx, h24, hne]
  rw [fill_all xs _ (by simp [hx])]
theorem wpList_build_row {ops : Array Oper} {rest : List Oper} {o : Oper} {a : Act} {Q : Exit → Act → World → Prop} (E : EltS P t e zs bytes) (hgd : o.guard = none) (s : Operand)
    (ho : o.op = .buildSlice t 1 #[(0, s)]) {xs : List Value} (hs : a.eval s = .agg xs.toArray) (hx : xs.length = zs.length)
    (hq : wpList P ops Q rest (a.put o.dst (.slice (some ⟨w.heap.size, 0, none⟩) 1 1)) (w.alloc (.cells xs.toArray e))) : wpList P ops Q (o :: rest) a w := by
  refine wpList_plain hgd fun K hK => ?_
  have hr := E.build_one hx w
  unfold Oper.wp execOp
  simp only [ho, List.map_toArray, List.map_cons, List.map_nil, hs, Sem.run_bind, Sem.run_pure, hr, Result.andThen_ok]
  exact hK _ _ hq
end
end
end Go.Proofs.Ytbhhgfpliggkgaa
