/- What comes in, read by its shape: integers, bools, strings, slices and structs of these, however nested. -/
import Derived.Test.YtdepbdmnkkkjlaaDoorKit2
import Derived.Lib.SmallJoins
set_option linter.unusedSimpArgs false
set_option linter.unusedVariables false
namespace Go.Proofs.YtdepbdmnkkkjlaaDoor
open Go.RowKit Go.Shelf Go.ChangeShapes Go.WideShapes

/-- A shape. A struct is a row of fields: 'one' before the others. -/
inductive Ty where
  | int (k : IntKind)
  | bool
  | str
  | sl (e : Ty)
  | unit
  | one (a b : Ty)
structure Sl (α : Type) where
  A : Option Addr
  n : Nat
  c : Nat
  l : List α
def Ty.size : Ty → Nat
  | .unit => 0
  | .one a b => a.size + b.size
  | _ => 1
def Ty.den : Ty → Type
  | .int _ => Int
  | .bool => Bool
  | .str => ByteArray
  | .sl e => Sl e.den
  | .unit => Unit
  | .one a b => a.den × b.den
def Ty.cells : (t : Ty) → t.den → List Value
  | .int k, (x : Int) => [.int k x]
  | .bool, (b : Bool) => [.bool b]
  | .str, (s : ByteArray) => [.string s]
  | .sl e, (s : Sl e.den) => [.slice s.A s.n s.c]
  | .unit, _ => []
  | .one a b, (x : a.den × b.den) => a.cells x.1 ++ b.cells x.2
theorem Ty.cells_length : ∀ (t : Ty) (x : t.den), (t.cells x).length = t.size
  | .int _, _ => rfl
  | .bool, _ => rfl
  | .str, _ => rfl
  | .sl _, _ => rfl
  | .unit, _ => rfl
  | .one a b, x => by
    show (a.cells x.1 ++ b.cells x.2).length = a.size + b.size
    rw [List.length_append, a.cells_length, b.cells_length]
def Ty.reads (w : World) : (t : Ty) → t.den → Prop
  | .int k, (x : Int) => (Lit.int k x).wf = true
  | .bool, _ => True
  | .str, (s : ByteArray) => s.size ≤ maxLen
  | .sl e, (s : Sl e.den) => s.l.length = s.n ∧ s.n ≤ s.c ∧ s.c ≤ maxLen ∧ (s.A = none → s.c = 0) ∧
      (0 < s.n → 0 < e.size → ∃ g o, s.A = some ⟨g, o, none⟩ ∧ g < w.heap.size ∧ ∀ i (h : i < s.l.length) j v, (e.cells s.l[i])[j]? = some v → w.cell? ⟨g, o + i * e.size + j, none⟩ = some v) ∧
      ∀ x ∈ s.l, e.reads w x
  | .unit, _ => True
  | .one a b, (x : a.den × b.den) => a.reads w x.1 ∧ b.reads w x.2
/-- In P, type t (or the fields that are left, from an offset on) is of this shape. -/
def Ty.fits (P : Program) : Ty → (TypeId ⊕ (List Field × Nat)) → Bool
  | .int k, .inl t => match P.underlying t with | some (.int k') => decide (k' = k) | _ => false
  | .bool, .inl t => match P.underlying t with | some .bool => true | _ => false
  | .str, .inl t => match P.underlying t with | some .string => true | _ => false
  | .sl e, .inl t => match P.underlying t with | some (.slice e') => decide (P.cellsOf e' = e.size) && e.fits P (.inl e') | _ => false
  | .unit, .inl t => match P.underlying t with | some (.struct fs) => fs.toList.isEmpty && decide (P.cellsOf t = 0) | _ => false
  | .one a b, .inl t => match P.underlying t with
    | some (.struct fs) => decide (P.cellsOf t = a.size + b.size) && match fs.toList with
      | f :: r => decide (f.offset = 0) && (decide (P.cellsOf f.type = a.size) && (a.fits P (.inl f.type) && b.fits P (.inr (r, a.size))))
      | [] => false
    | _ => false
  | .unit, .inr (fs, _) => fs.isEmpty
  | .one a b, .inr (f :: r, o) => decide (f.offset = o) && (decide (P.cellsOf f.type = a.size) && (a.fits P (.inl f.type) && b.fits P (.inr (r, o + a.size))))
  | _, _ => false

section
variable {H : Type} {enc : TypeId × Value → H} {P : Program} {w : World} {base : Nat} {spare : Nat → Bool} {held : Bool}
theorem mapM_some {α β : Type} (f : α → Option β) : ∀ (l : List α) (r : List β), l.mapM f = some r → ∀ i (h : i < l.length), ∃ b, r[i]? = some b ∧ f l[i] = some b
  | [], r, h, i, hi => by simp at hi
  | a :: l, r, h, i, hi => by
    simp only [List.mapM_cons, Option.bind_eq_bind, Option.bind_eq_some_iff, Option.pure_def, Option.some.injEq] at h
    obtain ⟨b, hb, r', hr, rfl⟩ := h
    cases i with
    | zero => exact ⟨b, rfl, hb⟩
    | succ i => simpa using mapM_some f l r' hr i (by simpa using hi)
theorem mapM_len {α β : Type} (f : α → Option β) : ∀ (l : List α) (r : List β), l.mapM f = some r → r.length = l.length
  | [], r, h => by simp at h; subst h; rfl
  | a :: l, r, h => by
    simp only [List.mapM_cons, Option.bind_eq_bind, Option.bind_eq_some_iff, Option.pure_def, Option.some.injEq] at h
    obtain ⟨b, hb, r', hr, rfl⟩ := h
    simp [mapM_len f l r' hr]
theorem cells_at {a : Addr} {n : Nat} {cs : List Value} (h : w.cells? base a n = some cs) : cs.length = n ∧ ∀ j v, cs[j]? = some v → w.cell? (a.add j) = some v := by
  unfold World.cells? at h
  split at h
  · have hl := mapM_len _ _ _ h
    refine ⟨by simpa using hl, fun j v hv => ?_⟩
    have hj : j < cs.length := (List.getElem?_eq_some_iff.1 hv).1
    obtain ⟨b, hb, hc⟩ := mapM_some _ _ _ h j (by rw [← hl]; exact hj)
    rw [hb] at hv
    injection hv with hv
    subst hv
    simpa using hc
  · simp at h
theorem choose_list {α : Type} {p : Nat → α → Prop} : ∀ (n : Nat), (∀ i, i < n → ∃ x, p i x) → ∃ l : List α, l.length = n ∧ ∀ i (h : i < l.length), p i l[i]
  | 0, _ => ⟨[], rfl, fun i h => by simp at h⟩
  | n + 1, h => by
    obtain ⟨l, hl, hp⟩ := choose_list n (fun i hi => h i (by omega))
    obtain ⟨x, hx⟩ := h n (by omega)
    refine ⟨l ++ [x], by simp [hl], fun i hi => ?_⟩
    rcases Nat.lt_or_ge i l.length with h1 | h1
    · rw [List.getElem_append_left h1]
      exact hp i h1
    · have : i = n := by simp at hi; omega
      subst this
      rw [List.getElem_append_right h1]
      simpa [hl] using hx

theorem Ty.open (ty : Ty) : ∀ {fuel : Nat},
    (∀ {t : TypeId} {cs : List Value} {x : DataW H × List MemPlace}, ty.fits P (.inl t) = true → DataW.trod enc P w base spare held fuel t cs = some x → ∃ d : ty.den, cs = ty.cells d ∧ ty.reads w d) ∧
    (∀ {fs : List Field} {o : Nat} {cs : List Value}, ty.fits P (.inr (fs, o)) = true → cs.length = o + ty.size →
      (∀ f ∈ fs, ∃ x, DataW.trod enc P w base spare held fuel f.type ((cs.drop f.offset).take (P.cellsOf f.type)) = some x) → ∃ d : ty.den, cs.drop o = ty.cells d ∧ ty.reads w d) := by
  induction ty with
  | int k =>
    refine fun {fuel} => ⟨fun {t cs x} hf h => ?_, fun {fs o cs} hf => by simp [Ty.fits] at hf⟩
    unfold Ty.fits at hf
    split at hf
    · rename_i k' hu
      have hk : k' = k := by simpa using hf
      subst hk
      obtain ⟨n, rfl, _, hw⟩ := DataW.trod_int hu h
      exact ⟨(n : Int), rfl, hw⟩
    · simp at hf
  | bool =>
    refine fun {fuel} => ⟨fun {t cs x} hf h => ?_, fun {fs o cs} hf => by simp [Ty.fits] at hf⟩
    unfold Ty.fits at hf
    split at hf
    · rename_i hu
      obtain ⟨n, rfl, _⟩ := DataW.trod_bool hu h
      exact ⟨(n : Bool), rfl, trivial⟩
    · simp at hf
  | str =>
    refine fun {fuel} => ⟨fun {t cs x} hf h => ?_, fun {fs o cs} hf => by simp [Ty.fits] at hf⟩
    unfold Ty.fits at hf
    split at hf
    · rename_i hu
      obtain ⟨n, rfl, _, hs⟩ := DataW.trod_string hu h
      exact ⟨(n : ByteArray), rfl, hs⟩
    · simp at hf
  | sl e ih =>
    refine fun {fuel} => ⟨fun {t cs x} hf h => ?_, fun {fs o cs} hf => by simp [Ty.fits] at hf⟩
    unfold Ty.fits at hf
    split at hf
    · rename_i e' hu
      simp only [Bool.and_eq_true, decide_eq_true_eq] at hf
      obtain ⟨hsz, hfe⟩ := hf
      rcases DataW.trod_slice hu h with ⟨rfl, _⟩ | ⟨a, len, cap, elems, rest, n, rfl, rfl, _, hb, hl, hm, hlen, hel, _, _⟩
      · exact ⟨(⟨none, 0, 0, []⟩ : Sl e.den), rfl, rfl, Nat.le_refl _, Nat.zero_le _, fun _ => rfl, fun h => absurd h (by simp), by simp⟩
      · have hx : ∀ i, i < len → ∃ d : e.den, e.reads w d ∧ ∀ j v, (e.cells d)[j]? = some v → w.cell? ((a.add (i * e.size)).add j) = some v := by
          intro i hi
          have h1 := hel i hi
          rw [List.getElem?_eq_getElem (by omega), Option.bind_eq_some_iff] at h1
          obtain ⟨cs, hc, ht⟩ := h1
          obtain ⟨d, hd, hr⟩ := (ih (fuel := n)).1 hfe ht
          subst hd
          rw [hsz] at hc
          exact ⟨d, hr, (cells_at hc).2⟩
        obtain ⟨l, hll, hp⟩ := choose_list len hx
        refine ⟨(⟨some a, len, cap, l⟩ : Sl e.den), rfl, hll, hl, hm, by simp, fun hn hz => ?_, fun x hx => ?_⟩
        · obtain ⟨b, off, spot⟩ := a
          have h0 := (hp 0 (by show 0 < l.length; rw [hll]; exact hn)).2 0 _ (List.getElem?_eq_getElem (by rw [e.cells_length]; exact hz))
          obtain rfl : spot = none := by simpa [Addr.add] using World.cell?_spot h0
          have hlt := World.block_lt_of_cell? _ _ h0
          refine ⟨b, off, rfl, by simpa [Addr.add] using hlt, fun i hi j v hv => ?_⟩
          have h1 := (hp i hi).2 j v hv
          have hadd : ((⟨b, off, none⟩ : Addr).add (i * e.size)).add j = ⟨b, off + i * e.size + j, none⟩ := by
            unfold Addr.add; split <;> simp_all
            split <;> simp_all
          rw [hadd] at h1
          exact h1
        · obtain ⟨i, hi, rfl⟩ := List.getElem_of_mem hx
          exact (hp i hi).1
    · simp at hf
  | unit =>
    refine fun {fuel} => ⟨fun {t cs x} hf h => ?_, fun {fs o cs} hf hl _ => ⟨(), ?_, trivial⟩⟩
    · unfold Ty.fits at hf
      split at hf
      · rename_i fs hu
        simp only [Bool.and_eq_true, decide_eq_true_eq] at hf
        obtain ⟨xs, n, _, _, hl, _⟩ := DataW.trod_struct hu h
        exact ⟨(), List.eq_nil_of_length_eq_zero (by rw [hl]; exact hf.2), trivial⟩
      · simp at hf
    · exact List.drop_eq_nil_of_le (by rw [hl]; show o + 0 ≤ o; omega)
  | one a b iha ihb =>
    have key : ∀ {fuel : Nat} {f : Field} {r : List Field} {o : Nat} {cs : List Value}, (decide (f.offset = o) && (decide (P.cellsOf f.type = a.size) && (a.fits P (.inl f.type) && b.fits P (.inr (r, o + a.size))))) = true → cs.length = o + (a.size + b.size) →
        (∀ f' ∈ f :: r, ∃ x, DataW.trod enc P w base spare held fuel f'.type ((cs.drop f'.offset).take (P.cellsOf f'.type)) = some x) → ∃ d : (Ty.one a b).den, cs.drop o = (Ty.one a b).cells d ∧ (Ty.one a b).reads w d := by
      intro fuel f r o cs hf hl hall
      simp only [Bool.and_eq_true, decide_eq_true_eq] at hf
      obtain ⟨h1, h2, h3, h4⟩ := hf
      obtain ⟨x, hx⟩ := hall f (by simp)
      obtain ⟨d1, e1, r1⟩ := (iha (fuel := fuel)).1 h3 hx
      obtain ⟨d2, e2, r2⟩ := (ihb (fuel := fuel)).2 h4 (by rw [hl]; omega) (fun f' hf' => hall f' (by simp [hf']))
      refine ⟨(d1, d2), ?_, r1, r2⟩
      show cs.drop o = a.cells d1 ++ b.cells d2
      rw [← e1, ← e2, h1, h2, ← List.drop_drop, List.take_append_drop]
    refine fun {fuel} => ⟨fun {t cs x} hf h => ?_, fun {fs o cs} hf hl hall => ?_⟩
    · unfold Ty.fits at hf
      split at hf
      · rename_i fs hu
        simp only [Bool.and_eq_true, decide_eq_true_eq] at hf
        obtain ⟨hc, hf⟩ := hf
        obtain ⟨xs, n, rfl, _, hl, hxl, hall⟩ := DataW.trod_struct hu h
        split at hf
        · rename_i f r hfs
          have h2 : ∀ f' ∈ f :: r, ∃ x, DataW.trod enc P w base spare held n f'.type ((cs.drop f'.offset).take (P.cellsOf f'.type)) = some x := by
            intro f' hf'
            rw [← hfs] at hf'
            obtain ⟨i, hi, rfl⟩ := List.getElem_of_mem hf'
            have hi' : i < fs.size := by simpa using hi
            have := hall i fs[i] (by simp [hi'])
            rw [List.getElem?_eq_getElem (by rw [hxl]; exact hi')] at this
            exact ⟨_, by simpa using this⟩
          have := key (o := 0) (by simpa using hf) (by rw [hl, hc]; omega) h2
          simpa using this
        · simp at hf
      · simp at hf
    · cases fs with
      | nil => simp [Ty.fits] at hf
      | cons f r => exact key hf hl hall
/-- A value that came in. -/
theorem Ty.opened (ty : Ty) {t : TypeId} {v : Value} {d : DataW H} {ps : List MemPlace} (hf : ty.fits P (.inl t) = true) (h : DataW.Trod enc P w base spare held t v d ps) : ∃ x : ty.den, v.cells.toList = ty.cells x ∧ ty.reads w x := by
  obtain ⟨fuel, h⟩ := h
  exact (ty.open (fuel := fuel)).1 hf h
end
theorem rd_of_reads {k : IntKind} {w : World} (s : Sl Int) (h : (Ty.sl (.int k)).reads w s) : Rd k w s.A s.n s.c s.l := by
  obtain ⟨h1, h2, h3, h4, h5, h6⟩ := h
  refine ⟨h1, h2, h3, h4, fun x hx => h6 x hx, fun hn => ?_⟩
  obtain ⟨g, o, e, hg, hx⟩ := h5 hn (show 0 < 1 from Nat.one_pos)
  refine ⟨g, o, e, hg, fun i hi => ?_⟩
  have h1' : s.l.length = s.n := h1
  have hi' : i < s.l.length := by omega
  have := hx i hi' 0 _ rfl
  simp only [Ty.size, Nat.mul_one, Nat.add_zero] at this
  have e2 : s.l.getD i 0 = s.l[i] := by simp [List.getD, hi']
  rw [e2]
  exact this
end Go.Proofs.YtdepbdmnkkkjlaaDoor
