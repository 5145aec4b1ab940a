/- Slices of one-cell elements of any type: one that reads as a list of values; one that the call owns, wherever in its block it begins; what a set of blocks leaves alone. -/
import Derived.Test.YtdepbdmnkkkjlaaDoorKit2
import Derived.Deep.AppendSrc
set_option linter.unusedSimpArgs false
set_option linter.unusedVariables false
namespace Go.Proofs.YtdepbdmnkkkjlaaDoor
open Go.RowKit Go.Shelf

/-- All but the blocks of F is as it was. -/
structure St (F : Nat → Prop) (w w' : World) : Prop where
  os : w'.os = w.os
  tape : w'.tape = w.tape
  output : w'.output = w.output
  size : w.heap.size ≤ w'.heap.size
  block : ∀ k, k < w.heap.size → ¬ F k → w'.heap[k]? = w.heap[k]?
/-- What F' has beyond F is new from n on. -/
def Gr (F F' : Nat → Prop) (n : Nat) : Prop := ∀ k, F' k → F k ∨ n ≤ k
theorem Gr.refl (F : Nat → Prop) (n : Nat) : Gr F F n := fun _ h => .inl h
theorem Gr.trans {F F' F'' : Nat → Prop} {n m : Nat} (h : Gr F F' n) (k : Gr F' F'' m) (hm : n ≤ m) : Gr F F'' n := fun i hi => by
  rcases k i hi with h1 | h1
  · exact h i h1
  · exact .inr (by omega)
theorem Gr.not {F F' : Nat → Prop} {n k : Nat} (h : Gr F F' n) (hk : k < n) (hF : ¬ F k) : ¬ F' k := fun hf => by
  rcases h k hf with h1 | h1
  · exact hF h1
  · omega
theorem Gr.ge {F F' : Nat → Prop} {n B : Nat} (h : Gr F F' n) (hF : ∀ k, F k → B ≤ k) (hn : B ≤ n) : ∀ k, F' k → B ≤ k := fun k hk => by
  rcases h k hk with h1 | h1
  · exact hF k h1
  · omega
theorem St.refl (F : Nat → Prop) (w : World) : St F w w := ⟨rfl, rfl, rfl, Nat.le_refl _, fun _ _ _ => rfl⟩
theorem St.mono {F F' : Nat → Prop} {w w' : World} (h : St F w w') (hF : ∀ k, k < w.heap.size → F k → F' k) : St F' w w' := ⟨h.os, h.tape, h.output, h.size, fun k hk hn => h.block k hk fun hf => hn (hF k hk hf)⟩
theorem St.trans {F F' : Nat → Prop} {a b c : World} (h : St F a b) (k : St F' b c) (g : Gr F F' a.heap.size) : St F a c :=
  ⟨k.os.trans h.os, k.tape.trans h.tape, k.output.trans h.output, Nat.le_trans h.size k.size, fun i hi hn => (k.block i (by have := h.size; omega) (g.not hi hn)).trans (h.block i hi hn)⟩
theorem St.tr (F : Nat → Prop) : Tr (St F) := ⟨fun w => St.refl F w, fun _ _ _ h k => h.trans k (Gr.refl _ _)⟩
theorem St.of_below {F : Nat → Prop} {B : Nat} {w w' : World} (h : Below B w w') (hF : ∀ k, k < w.heap.size → ¬ F k → k < B) : St F w w' := ⟨h.os, h.tape, h.output, h.size, fun k hk hn => h.block k (hF k hk hn)⟩
theorem St.ext {F : Nat → Prop} {w w' : World} (h : Below w.heap.size w w') : St F w w' := St.of_below h fun _ hk _ => hk
theorem St.below {F : Nat → Prop} {B : Nat} {w w' : World} (h : St F w w') (hB : B ≤ w.heap.size) (hF : ∀ k, F k → B ≤ k) : Below B w w' :=
  ⟨h.os, h.tape, h.output, h.size, fun k hk => h.block k (by omega) fun hf => by have := hF k hf; omega⟩
theorem St.alloc (F : Nat → Prop) (w : World) (o : Obj) : St F w (w.alloc o) := St.ext ((Below.refl _ _).alloc (Nat.le_refl _) o)
theorem St.setCell {F : Nat → Prop} (w : World) {a : Addr} (ha : F a.block) (v : Value) : St F w (w.setCell a v) :=
  ⟨rfl, rfl, rfl, by simp [World.setCell], fun k _ hk => Below.heap_setCell w a v k (by intro e; exact hk (by rw [e]; exact ha))⟩
theorem St.cell {F : Nat → Prop} {w w' : World} (h : St F w w') {p : Addr} (hs : p.block < w.heap.size) (hp : ¬ F p.block) : w'.cell? p = w.cell? p := World.cell?_of_block (h.block _ hs hp)
theorem St.grown {F : Nat → Prop} {w w' : World} {r : Option Nat} (h : w.grownBy w' r) (hr : ∀ k, r = some k → F k) : St F w w' :=
  ⟨h.os, h.tape, h.output, h.size, fun k hk hn => h.block k hk fun e => hn (hr k e.symm)⟩
theorem Bk.st {w w' : World} {t : TypeId} {g : Nat} {vs : List Value} (h : Bk w t g vs) {F : Nat → Prop} (hs : St F w w') (hg : ¬ F g) : Bk w' t g vs := (hs.block g h.lt hg).trans h
theorem Rd.st {k : IntKind} {w w' : World} {A : Option Addr} {n c : Nat} {xs : List Int} (h : Rd k w A n c xs) {F : Nat → Prop} (hs : St F w w') (hA : 0 < n → ∀ ad, A = some ad → ¬ F ad.block) : Rd k w' A n c xs := by
  obtain ⟨h1, h2, h3, h4, h5, h6⟩ := h
  refine ⟨h1, h2, h3, h4, h5, fun hn => ?_⟩
  obtain ⟨g, o, e, hg, hx⟩ := h6 hn
  exact ⟨g, o, e, by have := hs.size; omega, fun i hi => (hs.cell (p := ⟨g, o + i, none⟩) hg (show ¬ F g from hA hn _ e)).trans (hx i hi)⟩

theorem cells_one {v : Value} (h : v.oneCell' = true) : v.cells = #[v] := by cases v <;> simp_all [Value.oneCell', Value.cells]
/-! ### The element types -/
/-- In P, type t is a slice of type e, whose elements are one cell, at first z, of so many bytes. -/
structure Elt (P : Program) (t e : TypeId) (z : Value) (bytes : Nat) : Prop where
  ht : P.underlying t = some (.slice e)
  hi : (P.info? e).map (fun i => (i.zero, i.size, i.bytes)) = some (some z, 1, bytes)
  hz : z.cells = #[z]
  h1 : z.oneCell' = true
  hb : 0 < bytes

/-- The slice (A, n, c) reads in w as the values vs. -/
def RdV (w : World) (A : Option Addr) (n c : Nat) (vs : List Value) : Prop :=
  vs.length = n ∧ n ≤ c ∧ c ≤ maxLen ∧ (A = none → c = 0) ∧ (∀ v ∈ vs, v.oneCell' = true) ∧
  (0 < n → ∃ g o, A = some ⟨g, o, none⟩ ∧ g < w.heap.size ∧ ∀ i, i < n → w.cell? ⟨g, o + i, none⟩ = vs[i]?)

section
variable {w w' : World} {A : Option Addr} {n c : Nat} {vs : List Value}
theorem Rd.rdv {k : IntKind} {xs : List Int} (h : Rd k w A n c xs) : RdV w A n c (xs.map (.int k)) := by
  obtain ⟨h1, h2, h3, h4, h5, h6⟩ := h
  refine ⟨by simpa using h1, h2, h3, h4, ?_, fun hn => ?_⟩
  · intro v hv
    obtain ⟨x, _, rfl⟩ := List.mem_map.1 hv
    rfl
  · obtain ⟨g, o, e, hg, hx⟩ := h6 hn
    refine ⟨g, o, e, hg, fun i hi => ?_⟩
    rw [hx i hi, List.getElem?_map, List.getElem?_eq_getElem (by omega)]
    simp [show i < xs.length from by omega]
theorem RdV.rd {k : IntKind} {xs : List Int} (h : RdV w A n c (xs.map (.int k))) (hwf : ∀ x ∈ xs, (Lit.int k x).wf = true) : Rd k w A n c xs := by
  obtain ⟨h1, h2, h3, h4, h5, h6⟩ := h
  refine ⟨by simpa using h1, h2, h3, h4, hwf, fun hn => ?_⟩
  obtain ⟨g, o, e, hg, hx⟩ := h6 hn
  refine ⟨g, o, e, hg, fun i hi => ?_⟩
  have hl : i < xs.length := by simp at h1; omega
  rw [hx i hi, List.getElem?_map, List.getElem?_eq_getElem hl]
  simp [hl]
theorem RdV.st (h : RdV w A n c vs) {F : Nat → Prop} (hs : St F w w') (hA : 0 < n → ∀ ad, A = some ad → ¬ F ad.block) : RdV w' A n c vs := by
  obtain ⟨h1, h2, h3, h4, h5, h6⟩ := h
  refine ⟨h1, h2, h3, h4, h5, fun hn => ?_⟩
  obtain ⟨g, o, e, hg, hx⟩ := h6 hn
  exact ⟨g, o, e, by have := hs.size; omega, fun i hi => (hs.cell (p := ⟨g, o + i, none⟩) hg (show ¬ F g from hA hn _ e)).trans (hx i hi)⟩
theorem RdV.below (h : RdV w A n c vs) (hb : Below w.heap.size w w') : RdV w' A n c vs := h.st (F := fun _ => False) (St.ext hb) (fun _ _ _ => id)
theorem RdV.alloc (h : RdV w A n c vs) (o : Obj) : RdV (w.alloc o) A n c vs := h.below ((Below.refl _ _).alloc (Nat.le_refl _) o)
theorem RdV.blk (h : RdV w A n c vs) : 0 < n → ∀ ad, A = some ad → ad.block < w.heap.size := fun hn ad he => by
  obtain ⟨g, o, e, hg, _⟩ := h.2.2.2.2.2 hn
  rw [e] at he
  injection he with he
  subst he
  exact hg
theorem RdV.nil (w : World) : RdV w none 0 0 [] := ⟨rfl, Nat.le_refl _, Nat.zero_le _, fun _ => rfl, by simp, fun h => absurd h (by omega)⟩
theorem RdV.one (w : World) (e : TypeId) (x : Value) (hx : x.oneCell' = true) : RdV (w.alloc (.cells #[x] e)) (some ⟨w.heap.size, 0, none⟩) 1 1 [x] := by
  refine ⟨rfl, Nat.le_refl _, by decide, by simp, by simpa using hx, fun _ => ⟨w.heap.size, 0, rfl, by simp, fun i hi => ?_⟩⟩
  obtain rfl : i = 0 := by omega
  rw [cell_of_row _ _ _ _ _ _ (heap_alloc_new w _)]
  simp
theorem RdV.lit (w : World) (e : TypeId) (vs : List Value) (hx : ∀ x ∈ vs, x.oneCell' = true) (hl : vs.length ≤ 1000) : RdV (w.alloc (.cells vs.toArray e)) (some ⟨w.heap.size, 0, none⟩) vs.length vs.length vs := by
  refine ⟨rfl, Nat.le_refl _, by simp only [maxLen]; omega, by simp, hx, fun _ => ⟨w.heap.size, 0, rfl, by simp, fun i hi => ?_⟩⟩
  rw [cell_of_row _ _ _ _ _ _ (heap_alloc_new w _)]
  simp
theorem RdV.pre (h : RdV w A n c vs) {s : Nat} (hs : s ≤ n) : RdV w A s c (vs.take s) := by
  obtain ⟨h1, h2, h3, h4, h5, h6⟩ := h
  refine ⟨by simp; omega, by omega, h3, h4, fun x hx => h5 x (List.mem_of_mem_take hx), fun hn => ?_⟩
  obtain ⟨g, o, e, hg, hx⟩ := h6 (by omega)
  refine ⟨g, o, e, hg, fun i hi => ?_⟩
  rw [hx i (by omega), List.getElem?_take, if_pos hi]
theorem RdV.cut (h : RdV w A n c vs) {s : Nat} (hs : s ≤ n) : RdV w (cutA A c s) (n - s) (c - s) (vs.drop s) := by
  unfold cutA
  obtain ⟨h1, h2, h3, h4, h5, h6⟩ := h
  refine ⟨by simp; omega, by omega, by omega, ?_, fun x hx => h5 x (List.mem_of_mem_drop hx), fun hn => ?_⟩
  · split
    · omega
    · intro he
      have : A = none := by simpa using he
      have := h4 this
      omega
  · obtain ⟨g, o, rfl, hg, hx⟩ := h6 (by omega)
    rw [if_neg (by omega)]
    refine ⟨g, o + s, by simp [Addr.add], hg, fun i hi => ?_⟩
    rw [show o + s + i = o + (s + i) from by omega, hx (s + i) (by omega), List.getElem?_drop]
theorem RdV.cell (h : RdV w A n c vs) {i : Nat} (hi : i < n) : ∃ g o, A = some ⟨g, o, none⟩ ∧ g < w.heap.size ∧ w.cell? ⟨g, o + i, none⟩ = vs[i]? := by
  obtain ⟨g, o, e, hg, hx⟩ := h.2.2.2.2.2 (by omega)
  exact ⟨g, o, e, hg, hx i hi⟩
theorem RdV.src {P : Program} {t e : TypeId} (ht : P.underlying t = some (.slice e)) (h : RdV w A n c vs) : Src P 1 t (.slice A n c) n vs w := by
  obtain ⟨h1, h2, h3, h4, h5, h6⟩ := h
  cases A with
  | none =>
    obtain rfl : c = 0 := h4 rfl
    obtain rfl : n = 0 := by omega
    obtain rfl : vs = [] := List.eq_nil_of_length_eq_zero h1
    exact Src.ofNil w ht 0
  | some a =>
    refine Src.ofSlice w ht a n c vs (by omega) ?_ h5
    intro j u hu
    have hj : j < vs.length := by
      rcases Nat.lt_or_ge j vs.length with h | h
      · exact h
      · rw [List.getElem?_eq_none h] at hu; cases hu
    obtain ⟨g, o, he, _, hx⟩ := h6 (by omega)
    injection he with he
    subst he
    have hadd : (⟨g, o, none⟩ : Addr).add j = ⟨g, o + j, none⟩ := by unfold Addr.add; split <;> simp_all
    rw [hadd, hx j (by omega), hu]
end

/-! ### A slice of the call's own, wherever in its block it begins -/
/-- The slice (A, n, c) of elements of type e reads as vs, and lies, with all its room, in a block of F that is all of that type. -/
def Lst (e : TypeId) (F : Nat → Prop) (w : World) (A : Option Addr) (n c : Nat) (vs : List Value) : Prop :=
  vs.length = n ∧ n ≤ c ∧ c ≤ maxLen ∧ (∀ v ∈ vs, v.oneCell' = true) ∧
  ((A = none ∧ c = 0) ∨ ∃ g o cur, A = some ⟨g, o, none⟩ ∧ F g ∧ w.heap[g]? = some (.cells cur e (0, 0)) ∧ o + c ≤ cur.size ∧ ∀ i, i < n → cur[o + i]? = vs[i]?)

section
variable {e : TypeId} {F F' : Nat → Prop} {w w' : World} {A : Option Addr} {n c : Nat} {vs : List Value}
theorem Lst.nil (e : TypeId) (F : Nat → Prop) (w : World) : Lst e F w none 0 0 [] := ⟨rfl, Nat.le_refl _, Nat.zero_le _, by simp, .inl ⟨rfl, rfl⟩⟩
theorem Lst.mono (h : Lst e F w A n c vs) (hF : ∀ k, F k → F' k) : Lst e F' w A n c vs := by
  obtain ⟨h1, h2, h3, h4, h5⟩ := h
  refine ⟨h1, h2, h3, h4, ?_⟩
  rcases h5 with h5 | ⟨g, o, cur, hA, hf, r⟩
  · exact .inl h5
  · exact .inr ⟨g, o, cur, hA, hF g hf, r⟩
theorem Lst.rdv (h : Lst e F w A n c vs) : RdV w A n c vs := by
  obtain ⟨h1, h2, h3, h4, h5⟩ := h
  rcases h5 with ⟨rfl, rfl⟩ | ⟨g, o, cur, rfl, hf, hh, hs, hx⟩
  · obtain rfl : n = 0 := by omega
    obtain rfl : vs = [] := List.eq_nil_of_length_eq_zero h1
    exact RdV.nil w
  · exact ⟨h1, h2, h3, by simp, h4, fun hn => ⟨g, o, rfl, (Array.getElem?_eq_some_iff.1 hh).1, fun i hi => by rw [cell_of_row _ _ _ _ _ _ hh]; exact hx i hi⟩⟩
theorem Lst.blk (h : Lst e F w A n c vs) : ∀ ad, A = some ad → F ad.block ∧ ad.block < w.heap.size := by
  intro ad he
  rcases h.2.2.2.2 with ⟨rfl, rfl⟩ | ⟨g, o, cur, rfl, hf, hh, hs, hx⟩
  · cases he
  · injection he with he
    subst he
    exact ⟨hf, (Array.getElem?_eq_some_iff.1 hh).1⟩
theorem Lst.free (h : Lst e F w A n c vs) {g o : Nat} (hA : A = some ⟨g, o, none⟩) (i : Nat) : w.frozen? ⟨g, i, none⟩ = false := by
  rcases h.2.2.2.2 with ⟨rfl, rfl⟩ | ⟨g', o', cur, rfl, hf, hh, hs, hx⟩
  · cases hA
  · injection hA with hA
    injection hA with h1 h2 h3
    subst h1
    simp [World.frozen?, hh]
theorem Lst.same (h : Lst e F w A n c vs) (hb : ∀ ad, A = some ad → w'.heap[ad.block]? = w.heap[ad.block]?) : Lst e F w' A n c vs := by
  obtain ⟨h1, h2, h3, h4, h5⟩ := h
  refine ⟨h1, h2, h3, h4, ?_⟩
  rcases h5 with h5 | ⟨g, o, cur, rfl, hf, hh, r⟩
  · exact .inl h5
  · exact .inr ⟨g, o, cur, rfl, hf, (hb _ rfl).trans hh, r⟩
theorem Lst.st (h : Lst e F w A n c vs) {G : Nat → Prop} (hs : St G w w') (hG : ∀ k, F k → ¬ G k) : Lst e F w' A n c vs :=
  h.same fun ad he => hs.block _ (h.blk ad he).2 (hG _ (h.blk ad he).1)
theorem Lst.below (h : Lst e F w A n c vs) (hb : Below w.heap.size w w') : Lst e F w' A n c vs := h.same fun ad he => hb.block _ (h.blk ad he).2
theorem Lst.alloc (h : Lst e F w A n c vs) (o : Obj) : Lst e F (w.alloc o) A n c vs := h.below ((Below.refl _ _).alloc (Nat.le_refl _) o)
theorem Lst.far (h : Lst e F w A n c vs) {p : Addr} (hp : ∀ ad, A = some ad → ad.block ≠ p.block) (x : Value) : Lst e F (w.setCell p x) A n c vs := h.same fun ad he => Below.heap_setCell w p x _ (hp ad he)
theorem Lst.cut (h : Lst e F w A n c vs) {s : Nat} (hs : s ≤ n) : Lst e F w (cutA A c s) (n - s) (c - s) (vs.drop s) := by
  obtain ⟨h1, h2, h3, h4, h5⟩ := h
  refine ⟨by simp; omega, by omega, by omega, fun x hx => h4 x (List.mem_of_mem_drop hx), ?_⟩
  unfold cutA
  rcases h5 with ⟨rfl, rfl⟩ | ⟨g, o, cur, rfl, hf, hh, hsz, hx⟩
  · exact .inl ⟨by split <;> rfl, by omega⟩
  · split
    · exact .inr ⟨g, o, cur, rfl, hf, hh, by omega, fun i hi => by omega⟩
    · refine .inr ⟨g, o + s, cur, by simp [Addr.add], hf, hh, by omega, fun i hi => ?_⟩
      rw [show o + s + i = o + (s + i) from by omega, hx (s + i) (by omega), List.getElem?_drop]
theorem Lst.made (w : World) (e : TypeId) (cur : Array Value) (n : Nat) (vs : List Value) (hv : vs.length = n) (hn : n ≤ cur.size) (hm : cur.size ≤ maxLen) (h1 : ∀ v ∈ vs, v.oneCell' = true) (hx : ∀ i, i < n → cur[i]? = vs[i]?) :
    Lst e (w.heap.size ≤ ·) (w.alloc (.cells cur e)) (some ⟨w.heap.size, 0, none⟩) n cur.size vs :=
  ⟨hv, hn, hm, h1, .inr ⟨w.heap.size, 0, cur, rfl, Nat.le_refl _, heap_alloc_new w _, by omega, fun i hi => by rw [Nat.zero_add]; exact hx i hi⟩⟩
theorem Lst.set {g o : Nat} (h : Lst e F w (some ⟨g, o, none⟩) n c vs) (i : Nat) (hi : i < n) {x : Value} (hx : x.oneCell' = true) : Lst e F (w.setCell ⟨g, o + i, none⟩ x) (some ⟨g, o, none⟩) n c (vs.set i x) := by
  obtain ⟨h1, h2, h3, h4, h5⟩ := h
  refine ⟨by simpa using h1, h2, h3, fun v hv => ?_, ?_⟩
  · rcases List.mem_or_eq_of_mem_set hv with h | h
    · exact h4 v h
    · exact h ▸ hx
  · rcases h5 with ⟨h, _⟩ | ⟨g', o', cur, hA, hf, hh, hs, hc⟩
    · cases h
    · injection hA with hA
      injection hA with e1 e2 e3
      subst e1 e2
      refine .inr ⟨g, o, cur.set! (o + i) x, rfl, hf, ?_, by simpa using hs, fun j hj => ?_⟩
      · simp [World.setCell, Array.getElem?_modify, hh]
      · simp only [Array.set!_eq_setIfInBounds, Array.getElem?_setIfInBounds]
        by_cases hji : i = j
        · subst hji
          rw [if_pos rfl, if_pos (by omega), List.getElem?_set_self (by omega)]
        · rw [if_neg (by omega), List.getElem?_set_ne (by omega)]
          exact hc j hj
end

theorem heap_setCells (g : Nat) (e : TypeId) (fz : Nat × Nat) : ∀ (vs : List Value) (o : Nat) (w : World) (cur : Array Value), w.heap[g]? = some (.cells cur e fz) → o + vs.length ≤ cur.size →
    ∃ cur', (w.setCells g o vs).heap[g]? = some (.cells cur' e fz) ∧ cur'.size = cur.size ∧ (∀ i, i < vs.length → cur'[o + i]? = vs[i]?) ∧ ∀ i, (i < o ∨ o + vs.length ≤ i) → cur'[i]? = cur[i]?
  | [], o, w, cur, h, _ => ⟨cur, h, rfl, by simp, fun _ _ => rfl⟩
  | v :: r, o, w, cur, h, hs => by
    simp only [List.length_cons] at hs
    obtain ⟨cur', h1, h2, h3, h4⟩ := heap_setCells g e fz r (o + 1) (w.setCell ⟨g, o, none⟩ v) (cur.set! o v) (by simp [World.setCell, Array.getElem?_modify, h]) (by simp; omega)
    refine ⟨cur', h1, by simpa using h2, fun i hi => ?_, fun i hi => ?_⟩
    · cases i with
      | zero =>
        rw [h4 (o + 0) (by omega)]
        simp only [Array.set!_eq_setIfInBounds, Array.getElem?_setIfInBounds]
        simp; omega
      | succ i =>
        simp only [List.length_cons] at hi
        rw [show o + (i + 1) = o + 1 + i from by omega, h3 i (by omega)]
        simp
    · simp only [List.length_cons] at hi
      rw [h4 i (by omega)]
      simp only [Array.set!_eq_setIfInBounds, Array.getElem?_setIfInBounds]
      rw [if_neg (by omega)]
theorem st_setCells (F : Nat → Prop) (g : Nat) (hg : F g) : ∀ (vs : List Value) (o : Nat) (w : World), St F w (w.setCells g o vs)
  | [], _, w => St.refl F w
  | v :: r, o, w => (St.setCell w (a := ⟨g, o, none⟩) hg v).trans (st_setCells F g hg r (o + 1) _) (Gr.refl _ _)

/-- The blocks at which the slice begins. -/
def BlkOf (A : Option Addr) (k : Nat) : Prop := ∃ ad, A = some ad ∧ ad.block = k
theorem Lst.tight {e : TypeId} {F : Nat → Prop} {w : World} {A : Option Addr} {n c : Nat} {vs : List Value} (h : Lst e F w A n c vs) : Lst e (BlkOf A) w A n c vs := by
  obtain ⟨h1, h2, h3, h4, h5⟩ := h
  refine ⟨h1, h2, h3, h4, ?_⟩
  rcases h5 with h5 | ⟨g, o, cur, rfl, hf, r⟩
  · exact .inl h5
  · exact .inr ⟨g, o, cur, rfl, ⟨_, rfl, rfl⟩, r⟩
/-- A slice of its own, just made. -/
def Made (e : TypeId) (vs : List Value) (w : World) (en : Ending) (w' : World) : Prop := ∃ A n c, en = .returned (.slice A n c) ∧ Lst e (w.heap.size ≤ ·) w' A n c vs ∧ Below w.heap.size w w'
/-- Nothing lies in both. -/
def Sep (F G : Nat → Prop) : Prop := ∀ k, F k → ¬ G k
theorem Sep.symm {F G : Nat → Prop} (h : Sep F G) : Sep G F := fun k hg hf => h k hf hg
theorem Sep.gr {F F' G : Nat → Prop} {n : Nat} (h : Sep F G) (g : Gr F F' n) (hG : ∀ k, G k → k < n) : Sep F' G := fun k hf hg => by
  rcases g k hf with h1 | h1
  · exact h k h1 hg
  · have := hG k hg; omega
theorem Sep.mono {F F' G : Nat → Prop} (h : Sep F G) (hF : ∀ k, F' k → F k) : Sep F' G := fun k hf => h k (hF k hf)
theorem sep_lt {F G : Nat → Prop} {n : Nat} (hF : ∀ k, F k → n ≤ k) (hG : ∀ k, G k → k < n) : Sep F G := fun k hf hg => by have := hF k hf; have := hG k hg; omega
theorem Lst.lt {e : TypeId} {F : Nat → Prop} {w : World} {A : Option Addr} {n c : Nat} {vs : List Value} (h : Lst e F w A n c vs) : ∀ k, BlkOf A k → k < w.heap.size := by
  rintro k ⟨ad, he, rfl⟩
  exact (h.blk ad he).2
theorem Lst.gr {e : TypeId} {F : Nat → Prop} {w : World} {A' : Option Addr} {m n c : Nat} {vs : List Value} (h : Lst e (fun k => F k ∨ m ≤ k) w A' n c vs) : Gr F (BlkOf A') m := by
  rintro k ⟨ad, he, rfl⟩
  exact (h.blk ad he).1
theorem sep_none (G : Nat → Prop) : Sep (BlkOf none) G := by rintro k ⟨ad, he, _⟩; cases he
/-- What an append leaves: the list longer, in the same block or in a new one. -/
structure Apd (e : TypeId) (F : Nat → Prop) (w : World) (v : Value) (vs : List Value) (w' : World) : Prop where
  ex : ∃ A n c, v = .slice A n c ∧ Lst e (fun k => F k ∨ w.heap.size ≤ k) w' A n c vs
  st : St F w w'

section
variable {P : Program} {w : World} {t e : TypeId} {z : Value} {bytes : Nat} {F : Nat → Prop} {A B : Option Addr} {n c m d : Nat} {vs us : List Value}
theorem zeroCells_size (z : Array Value) (n : Nat) : (Builtin.zeroCells z n).size = n * z.size := by simp [Builtin.zeroCells]
theorem zeroCells_one (E : Elt P t e z bytes) (n : Nat) : Builtin.zeroCells z.cells n = Array.replicate n z := by
  apply Array.ext'
  rw [E.hz]
  simp only [Builtin.zeroCells, List.size_toArray, List.length_cons, List.length_nil, Nat.zero_add, Nat.mul_one]
  apply List.ext_getElem
  · simp
  · intro i h1 h2
    simp [Nat.mod_one]
theorem run_append_lst (E : Elt P t e z bytes) (ty : TypeId) (h : Lst e F w A n c vs) (hu : RdV w B m d us) (hlen : (n + m) * bytes ≤ 140737488355328) :
    ∃ v w', (Builtin.append_ #[t, t] ty #[.slice A n c, .slice B m d]).run P w = .ok v w' ∧ Apd e F w v (vs ++ us) w' := by
  obtain ⟨i, hi, hz, hsz, hby⟩ := info_parts E.hi
  have hmax : n + m ≤ maxLen := by
    have : (n + m) * 1 ≤ (n + m) * bytes := Nat.mul_le_mul_left _ E.hb
    simp only [maxLen]; omega
  have hsrc := hu.src E.ht
  have hsrc' : Src P i.size t (.slice B m d) m us w := by rw [hsz]; exact hsrc
  have hrd := h.rdv
  have hul : us.length = m := hu.1
  have hone : ∀ v ∈ vs ++ us, v.oneCell' = true := fun v hv => by
    rcases List.mem_append.1 hv with h' | h'
    · exact h.2.2.2.1 v h'
    · exact hu.2.2.2.2.1 v h'
  by_cases hroom : n + m ≤ c
  · rcases h.2.2.2.2 with ⟨rfl, rfl⟩ | ⟨g, o, cur, rfl, hf, hh, hs, hx⟩
    · obtain rfl : n = 0 := by omega
      obtain rfl : m = 0 := by omega
      obtain rfl : us = [] := List.eq_nil_of_length_eq_zero hul
      obtain rfl : vs = [] := List.eq_nil_of_length_eq_zero h.1
      refine ⟨.slice none 0 0, w, ?_, ⟨⟨none, 0, 0, rfl, Lst.nil _ _ _⟩, St.refl _ _⟩⟩
      have h1 := hsrc'.len
      have h2 := hsrc'.cells
      simp [Builtin.append_, run_underlying E.ht, sizeOf, typeInfo, hi, h1, h2]
    · have hr := run_append_room_src (P := P) w t t ty e i E.ht hi g o n c (.slice B m d) m us hsrc' hroom
        (fun j hj => by rw [hsz, cell_of_row _ _ _ _ _ _ hh, Array.getElem?_eq_getElem (by omega)]; rfl)
        (fun j hj => by simp [World.frozen?, hh])
      rw [hsz, Nat.mul_one] at hr
      obtain ⟨cur', h1, h2, h3, h4⟩ := heap_setCells g e (0, 0) us (o + n) w cur hh (by omega)
      refine ⟨_, _, hr, ⟨⟨_, _, _, rfl, by rw [List.length_append, h.1, hul], hroom, h.2.2.1, hone, .inr ⟨g, o, cur', rfl, .inl hf, h1, by omega, fun j hj => ?_⟩⟩, st_setCells F g hf _ _ _⟩⟩
      by_cases hjn : j < n
      · rw [h4 (o + j) (by omega), hx j hjn, List.getElem?_append_left (by rw [h.1]; exact hjn)]
      · rw [show o + j = o + n + (j - n) from by omega, h3 (j - n) (by omega), List.getElem?_append_right (by rw [h.1]; omega), h.1]
  · have holds : (Builtin.firstCells i.size n (.slice A n c)).run P w.drew = .ok vs.toArray w.drew := by
      have := (hrd.src E.ht).cellsD
      rw [hsz]; exact this
    have hr := run_append_grow_src (P := P) w t t ty e i z E.ht hi hz A n c vs holds (.slice B m d) m us hsrc' (by omega) (by simp only [maxLen] at hmax; omega) (growslice_fits (by omega) (by rw [hby]; exact hlen))
    have hge := grownCap_ge w (n + m) c e
    have hcm : grownCap w (n + m) c e ≤ maxLen := grownCap_le_maxLen w (n + m) c e hmax
    have hcs : ((vs ++ us).toArray ++ Builtin.zeroCells z.cells (grownCap w (n + m) c e - (n + m))).size = grownCap w (n + m) c e := by
      rw [zeroCells_one E]; simp [h.1, hul]; omega
    have hl := Lst.made w.drew e ((vs ++ us).toArray ++ Builtin.zeroCells z.cells (grownCap w (n + m) c e - (n + m))) (n + m) (vs ++ us) (by rw [List.length_append, h.1, hul]) (by rw [hcs]; exact hge) (by rw [hcs]; exact hcm) hone
      (fun j hj => by rw [Array.getElem?_append_left (by simp [h.1, hul]; exact hj)]; simp)
    rw [hcs] at hl
    exact ⟨_, _, hr, ⟨⟨_, _, _, rfl, hl.mono fun k hk => .inr (by simpa using hk)⟩, ⟨rfl, rfl, rfl, by simp, fun k hk _ => heap_alloc_old w.drew _ hk⟩⟩⟩

theorem wpList_append_lst {ops : Array Oper} {rest : List Oper} {o : Oper} {a : Act} {Q : Exit → Act → World → Prop} (E : Elt P t e z bytes) (hgd : o.guard = none) (s x : Operand)
    (ho : o.op = .call { callee := .builtin .append, args := #[s, x], argTypes := #[t, t] })
    (hs : a.eval s = .slice A n c) (h : Lst e F w A n c vs) (hx : a.eval x = .slice B m d) (hu : RdV w B m d us) (hlen : (n + m) * bytes ≤ 140737488355328)
    (hq : ∀ v w', Apd e F w v (vs ++ us) w' → wpList P ops Q rest (a.put o.dst v) w') : wpList P ops Q (o :: rest) a w := by
  obtain ⟨v, w', hrun, hap⟩ := run_append_lst E o.type h hu hlen
  refine wpList_plain hgd fun K hK => ?_
  unfold Oper.wp execOp
  simp only [ho, resolve, invoke, builtin, Sem.run_bind, Sem.run_pure, Result.andThen_ok, List.map_toArray, List.map_cons, List.map_nil, hs, hx, hrun]
  exact hK _ _ (hq v w' hap)
theorem opwp_append_lst {ops : Array Oper} {o : Oper} {a : Act} {K : Act → World → Prop} {Q : Exit → Act → World → Prop} (E : Elt P t e z bytes) (hgd : o.guard = none) (s x : Operand)
    (ho : o.op = .call { callee := .builtin .append, args := #[s, x], argTypes := #[t, t] })
    (hs : a.eval s = .slice A n c) (h : Lst e F w A n c vs) (hx : a.eval x = .slice B m d) (hu : RdV w B m d us) (hlen : (n + m) * bytes ≤ 140737488355328)
    (hq : ∀ v w', Apd e F w v (vs ++ us) w' → K (a.put o.dst v) w') : if Region.wanted o (yielded ops a.tmps) = true then Oper.wp P o a w K Q else K (a.put o.dst undef) w := by
  obtain ⟨v, w', hrun, hap⟩ := run_append_lst E o.type h hu hlen
  rw [if_pos (by simp only [Region.wanted, hgd])]
  unfold Oper.wp execOp
  simp only [ho, resolve, invoke, builtin, Sem.run_bind, Sem.run_pure, Result.andThen_ok, List.map_toArray, List.map_cons, List.map_nil, hs, hx, hrun]
  exact hq v w' hap

/-- clear(x[:1]). -/
theorem run_clear_one (E : Elt P t e z bytes) (ty : TypeId) {g o : Nat} {c : Nat} (hc : (w.cell? ⟨g, o, none⟩).isSome = true) (hf : w.frozen? ⟨g, o, none⟩ = false) :
    (Builtin.clear_ #[t] ty #[.slice (some ⟨g, o, none⟩) 1 c]).run P w = .ok (.tuple #[]) (w.setCell ⟨g, o, none⟩ z) := by
  obtain ⟨i, hi, hz, hsz, hby⟩ := info_parts E.hi
  have hst := run_storeCells_cells (P := P) g o [z] 0 w (by intro j hj; obtain rfl : j = 0 := by simpa using hj
                                                            simpa using hc) (by intro j hj; obtain rfl : j = 0 := by simpa using hj
                                                                                simpa using hf) (by simpa using E.h1)
  simp only [Nat.add_zero] at hst
  have hzc : (Builtin.zeroCells z.cells 1).toList = [z] := by rw [zeroCells_one E]; rfl
  simp [Builtin.clear_, run_underlying E.ht, zeroValue, typeInfo, hi, hz, hzc, hst, World.setCells]
theorem wpList_clear_one {ops : Array Oper} {rest : List Oper} {o : Oper} {a : Act} {Q : Exit → Act → World → Prop} (E : Elt P t e z bytes) (hgd : o.guard = none) (s : Operand)
    (ho : o.op = .call { callee := .builtin .clear, args := #[s], argTypes := #[t] }) {g p : Nat} (hs : a.eval s = .slice (some ⟨g, p, none⟩) 1 c)
    (hc : (w.cell? ⟨g, p, none⟩).isSome = true) (hf : w.frozen? ⟨g, p, none⟩ = false)
    (hq : wpList P ops Q rest (a.put o.dst (.tuple #[])) (w.setCell ⟨g, p, none⟩ z)) : wpList P ops Q (o :: rest) a w := by
  have hrun := run_clear_one (c := c) E o.type hc hf
  refine wpList_plain hgd fun K hK => ?_
  unfold Oper.wp execOp
  simp only [ho, resolve, invoke, builtin, Sem.run_bind, Sem.run_pure, Result.andThen_ok, List.map_toArray, List.map_cons, List.map_nil, hs, hrun]
  exact hK _ _ hq

/-- x[s:], x[:s], x[s:s+m]. -/
theorem Elt.run_cut (E : Elt P t e z bytes) (A : Option Addr) (n c s : Nat) (hs : s ≤ n) (hn : n ≤ c) (w : World) :
    (Instr.slice t (.slice A n c) (some (.int .i64 s)) none none).run P w = .ok (.slice (cutA A c s) (n - s) (c - s)) w := by
  obtain ⟨i, hi, hz, hsz, hby⟩ := info_parts E.hi
  have h1 := run_sliceBound (P := P) (w := w) .i64 s n .sliceB (by omega) (by omega)
  simp [Instr.slice, run_underlying E.ht, Instr.sliceBounds, h1, sizeOf, typeInfo, hi, hsz, cutA]
theorem Elt.run_pre (E : Elt P t e z bytes) (A : Option Addr) (n c s : Nat) (hs : s ≤ c) (hn : n ≤ c) (w : World) :
    (Instr.slice t (.slice A n c) none (some (.int .i64 s)) none).run P w = .ok (.slice A s c) w := by
  obtain ⟨i, hi, hz, hsz, hby⟩ := info_parts E.hi
  have h1 := run_sliceBound (P := P) (w := w) .i64 s c .sliceAcap (by omega) (by omega)
  have h2 := run_sliceBound (P := P) (w := w) .i64 0 s .sliceB (by omega) (by omega)
  have e2 : Option.map (fun x => Addr.add x 0) A = A := by
    cases A with
    | none => rfl
    | some x => simp [Addr.add]
  simp [Instr.slice, run_underlying E.ht, Instr.sliceBounds, h1, h2, sizeOf, typeInfo, hi, hsz, e2]
theorem Elt.build_one (E : Elt P t e z bytes) {x : Value} (hx : x.oneCell' = true) (w : World) :
    (Instr.buildSlice t 1 #[(0, x)]).run P w = .ok (.slice (some ⟨w.heap.size, 0, none⟩) 1 1) (w.alloc (.cells #[x] e)) := by
  obtain ⟨i, hi, hz, hsz, hby⟩ := info_parts E.hi
  have hc := cells_one hx
  simp [Instr.buildSlice, run_underlying E.ht, sizeOf, typeInfo, zeroValue, hi, hsz, hz, E.hz, hc, Instr.fill, newRow]
  congr 2
  apply Array.ext'
  simp [List.range_succ]
theorem Elt.run_make (E : Elt P t e z bytes) (L C : Nat) (h : L ≤ C) (hC : bytes * C ≤ 281474976710656) (w : World) :
    (Instr.makeSlice t (.int .i64 L) (.int .i64 C)).run P w = .ok (.slice (some ⟨w.heap.size, 0, none⟩) L C) (w.alloc (.cells (Array.replicate C z) e)) := by
  obtain ⟨i, hi, hz, hsz, hby⟩ := info_parts E.hi
  have hb1 := E.hb
  have hC2 : C ≤ bytes * C := Nat.le_mul_of_pos_left _ hb1
  have hr := Go.run_make (P := P) w t e i z E.ht hi hz .i64 .i64 (L : Int) (C : Int) (by omega) (by omega) (by rw [hby, ← Int.natCast_mul]; omega) (by omega)
  rw [hr, hsz, E.hz]
  simp only [Int.toNat_natCast, Nat.mul_one]
  congr 3
  apply Array.ext'
  rw [toList_madeCells_one, Array.toList_replicate]
theorem wpList_build_one {ops : Array Oper} {rest : List Oper} {o : Oper} {a : Act} {Q : Exit → Act → World → Prop} (E : Elt P t e z bytes) (hgd : o.guard = none) (s : Operand)
    (ho : o.op = .buildSlice t 1 #[(0, s)]) {x : Value} (hs : a.eval s = x) (hx : x.oneCell' = true)
    (hq : wpList P ops Q rest (a.put o.dst (.slice (some ⟨w.heap.size, 0, none⟩) 1 1)) (w.alloc (.cells #[x] e))) : wpList P ops Q (o :: rest) a w := by
  refine wpList_plain hgd fun K hK => ?_
  have hr := E.build_one hx w
  unfold Oper.wp execOp
  simp only [ho, List.map_toArray, List.map_cons, List.map_nil, hs, Sem.run_bind, Sem.run_pure, hr, Result.andThen_ok]
  exact hK _ _ hq
end
end Go.Proofs.YtdepbdmnkkkjlaaDoor
