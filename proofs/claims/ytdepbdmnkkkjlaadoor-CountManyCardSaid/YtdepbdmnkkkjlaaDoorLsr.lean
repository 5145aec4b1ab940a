/- Slices whose elements are rows of values of any form: one that reads; one that the call owns, wherever in its block it begins; appends, cuts, clears, loads, stores. -/
import Derived.Test.YtdepbdmnkkkjlaaDoorTab
set_option linter.unusedSimpArgs false
set_option linter.unusedVariables false
namespace Go.Proofs.YtdepbdmnkkkjlaaDoor
open Go.RowKit Go.Shelf

section
variable {α : Type} {cl : α → List Value} {sz : Nat}
/-- The cells of a list of rows. -/
def flat (cl : α → List Value) (qs : List α) : List Value := qs.flatMap cl
theorem flat_nil : flat cl ([] : List α) = [] := rfl
theorem flat_app (a b : List α) : flat cl (a ++ b) = flat cl a ++ flat cl b := by simp [flat]
theorem flat_one (q : α) : flat cl [q] = cl q := by simp [flat]
theorem flat_len (h : ∀ a, (cl a).length = sz) : ∀ qs : List α, (flat cl qs).length = qs.length * sz
  | [] => by simp [flat]
  | q :: r => by
    have ih := flat_len h r
    simp only [flat, List.flatMap_cons, List.length_append, List.length_cons, h] at ih ⊢
    rw [ih, Nat.add_mul, Nat.one_mul, Nat.add_comm]
theorem flat_drop (h : ∀ a, (cl a).length = sz) (qs : List α) (s : Nat) (hs : s ≤ qs.length) : flat cl (qs.drop s) = (flat cl qs).drop (s * sz) := by
  have e : flat cl qs = flat cl (qs.take s) ++ flat cl (qs.drop s) := by rw [← flat_app, List.take_append_drop]
  have hl : (flat cl (qs.take s)).length = s * sz := by rw [flat_len h, List.length_take, Nat.min_eq_left hs]
  rw [e, ← hl, List.drop_left]
theorem flat_row (h : ∀ a, (cl a).length = sz) (qs : List α) (i : Nat) (hi : i < qs.length) : ((flat cl qs).drop (i * sz)).take sz = cl qs[i] := by
  rw [← flat_drop h qs i (Nat.le_of_lt hi), List.drop_eq_getElem_cons hi]
  show (cl qs[i] ++ _).take sz = _
  rw [← h qs[i], List.take_left]
theorem flat_wf (h : ∀ a, ∀ v ∈ cl a, v.oneCell' = true) (qs : List α) : ∀ v ∈ flat cl qs, v.oneCell' = true := by
  intro v hv
  obtain ⟨a, _, ha⟩ := List.mem_flatMap.1 hv
  exact h a v ha
theorem flat_set (h : ∀ a, (cl a).length = sz) (qs : List α) (i : Nat) (hi : i < qs.length) (q : α) : flat cl (qs.set i q) = lay (flat cl qs) (i * sz) (cl q) := by
  have e : qs = qs.take i ++ (qs[i] :: qs.drop (i + 1)) := by rw [← List.drop_eq_getElem_cons hi, List.take_append_drop]
  have hl : (flat cl (qs.take i)).length = i * sz := by rw [flat_len h, List.length_take, Nat.min_eq_left (Nat.le_of_lt hi)]
  have hf : flat cl qs = flat cl (qs.take i) ++ (cl qs[i] ++ flat cl (qs.drop (i + 1))) := by
    conv => lhs; rw [e]
    rw [flat_app]; rfl
  have h1 : (flat cl qs).take (i * sz) = flat cl (qs.take i) := by rw [hf, ← hl, List.take_left]
  have h2 : (flat cl qs).drop (i * sz + (cl q).length) = flat cl (qs.drop (i + 1)) := by
    rw [h q, hf, ← List.drop_drop, ← hl, List.drop_left, ← h qs[i], List.drop_left]
  rw [List.set_eq_take_append_cons_drop, if_pos hi, flat_app]
  unfold lay
  rw [h1, h2, List.append_assoc]
  rfl

/-- The slice (A, n, c) of elements of sz cells reads in w as the cells cs. -/
def RdR (sz : Nat) (w : World) (A : Option Addr) (n c : Nat) (cs : List Value) : Prop :=
  cs.length = n * sz ∧ n ≤ c ∧ c ≤ maxLen ∧ (A = none → c = 0) ∧ (∀ v ∈ cs, v.oneCell' = true) ∧
  (0 < n → ∃ g o, A = some ⟨g, o, none⟩ ∧ g < w.heap.size ∧ ∀ i, i < n * sz → w.cell? ⟨g, o + i, none⟩ = cs[i]?)
section
variable {w w' : World} {A : Option Addr} {n c : Nat} {cs : List Value}
theorem RdR.st (h : RdR sz w A n c cs) {F : Nat → Prop} (hs : St F w w') (hA : 0 < n → ∀ ad, A = some ad → ¬ F ad.block) : RdR sz w' A n c cs := by
  obtain ⟨h1, h2, h3, h4, h5, h6⟩ := h
  refine ⟨h1, h2, h3, h4, h5, fun hn => ?_⟩
  obtain ⟨g, o, e, hg, hx⟩ := h6 hn
  exact ⟨g, o, e, by have := hs.size; omega, fun i hi => (hs.cell (p := ⟨g, o + i, none⟩) hg (show ¬ F g from hA hn _ e)).trans (hx i hi)⟩
theorem RdR.below (h : RdR sz w A n c cs) (hb : Below w.heap.size w w') : RdR sz w' A n c cs := h.st (F := fun _ => False) (St.ext hb) (fun _ _ _ => id)
theorem RdR.alloc (h : RdR sz w A n c cs) (o : Obj) : RdR sz (w.alloc o) A n c cs := h.below ((Below.refl _ _).alloc (Nat.le_refl _) o)
theorem RdR.blk (h : RdR sz w A n c cs) : 0 < n → ∀ ad, A = some ad → ad.block < w.heap.size := fun hn ad he => by
  obtain ⟨g, o, e, hg, _⟩ := h.2.2.2.2.2 hn
  rw [e] at he
  injection he with he
  subst he
  exact hg
theorem RdR.nil (sz : Nat) (w : World) : RdR sz w none 0 0 [] := ⟨by simp, Nat.le_refl _, Nat.zero_le _, fun _ => rfl, by simp, fun h => absurd h (by omega)⟩
theorem RdR.one (w : World) (e : TypeId) (cs : List Value) (hx : ∀ v ∈ cs, v.oneCell' = true) : RdR cs.length (w.alloc (.cells cs.toArray e)) (some ⟨w.heap.size, 0, none⟩) 1 1 cs := by
  refine ⟨by simp, Nat.le_refl _, by decide, by simp, hx, fun _ => ⟨w.heap.size, 0, rfl, by simp, fun i hi => ?_⟩⟩
  rw [cell_of_row _ _ _ _ _ _ (heap_alloc_new w _)]
  simp
/-- Where x[s:] of a slice of elements of sz cells begins. -/
def cutR (A : Option Addr) (c s sz : Nat) : Option Addr := if c = s then A else A.map (·.add (s * sz))
theorem RdR.cut (h : RdR sz w A n c cs) {s : Nat} (hs : s ≤ n) : RdR sz w (cutR A c s sz) (n - s) (c - s) (cs.drop (s * sz)) := by
  unfold cutR
  obtain ⟨h1, h2, h3, h4, h5, h6⟩ := h
  have hm : s * sz ≤ n * sz := Nat.mul_le_mul_right _ hs
  refine ⟨by rw [List.length_drop, h1, Nat.sub_mul], by omega, by omega, ?_, fun x hx => h5 x (List.mem_of_mem_drop hx), fun hn => ?_⟩
  · split
    · omega
    · intro he
      have : A = none := by simpa using he
      have := h4 this
      omega
  · obtain ⟨g, o, rfl, hg, hx⟩ := h6 (by omega)
    rw [if_neg (by omega)]
    refine ⟨g, o + s * sz, by simp [Addr.add], hg, fun i hi => ?_⟩
    rw [Nat.sub_mul] at hi
    rw [show o + s * sz + i = o + (s * sz + i) from by omega, hx (s * sz + i) (by omega), List.getElem?_drop]
theorem RdR.src {P : Program} {t e : TypeId} (ht : P.underlying t = some (.slice e)) (h : RdR sz w A n c cs) : Src P sz t (.slice A n c) n cs w := by
  obtain ⟨h1, h2, h3, h4, h5, h6⟩ := h
  by_cases hn : 0 < n
  · obtain ⟨g, o, rfl, _, hx⟩ := h6 hn
    refine Src.ofSlice w ht _ n c cs h1 ?_ h5
    intro j u hu
    have hj : j < cs.length := by
      rcases Nat.lt_or_ge j cs.length with h | h
      · exact h
      · rw [List.getElem?_eq_none h] at hu; cases hu
    have hadd : (⟨g, o, none⟩ : Addr).add j = ⟨g, o + j, none⟩ := by unfold Addr.add; split <;> simp_all
    rw [hadd, hx j (by omega), hu]
  · obtain rfl : n = 0 := by omega
    rw [Nat.zero_mul] at h1
    obtain rfl : cs = [] := List.eq_nil_of_length_eq_zero h1
    cases A with
    | none => exact Src.ofNil w ht c
    | some a => exact Src.ofSlice w ht a 0 c [] (by simp) (by simp) (by simp)
/-- The cells of row i. -/
theorem RdR.range (h : RdR sz w A n c cs) {i : Nat} (hi : i < n) : ∃ g o, A = some ⟨g, o, none⟩ ∧ g < w.heap.size ∧ w.rangeAt g (o + i * sz) ((cs.drop (i * sz)).take sz) := by
  obtain ⟨h1, h2, h3, h4, h5, h6⟩ := h
  obtain ⟨g, o, e, hg, hx⟩ := h6 (by omega)
  have hm : (i + 1) * sz ≤ n * sz := Nat.mul_le_mul_right _ hi
  rw [Nat.add_mul, Nat.one_mul] at hm
  refine ⟨g, o, e, hg, fun j v hv => ?_⟩
  rw [List.getElem?_take] at hv
  split at hv
  · rename_i hj
    rw [List.getElem?_drop] at hv
    rw [Nat.add_assoc, hx _ (by omega), hv]
  · cases hv
end

/-- The slice (A, n, c) of elements of type e, sz cells each, reads as cs, and lies, with all its room, in a block of F that is all of that type. -/
def LstR (sz : Nat) (e : TypeId) (F : Nat → Prop) (w : World) (A : Option Addr) (n c : Nat) (cs : List Value) : Prop :=
  cs.length = n * sz ∧ n ≤ c ∧ c ≤ maxLen ∧ (∀ v ∈ cs, v.oneCell' = true) ∧
  ((A = none ∧ c = 0) ∨ ∃ g o cur, A = some ⟨g, o, none⟩ ∧ F g ∧ w.heap[g]? = some (.cells cur e (0, 0)) ∧ o + c * sz ≤ cur.size ∧ ∀ i, i < n * sz → cur[o + i]? = cs[i]?)
section
variable {e : TypeId} {F F' : Nat → Prop} {w w' : World} {A : Option Addr} {n c : Nat} {cs : List Value}
theorem LstR.nil (sz : Nat) (e : TypeId) (F : Nat → Prop) (w : World) : LstR sz e F w none 0 0 [] := ⟨by simp, Nat.le_refl _, Nat.zero_le _, by simp, .inl ⟨rfl, rfl⟩⟩
theorem LstR.mono (h : LstR sz e F w A n c cs) (hF : ∀ k, F k → F' k) : LstR sz e F' w A n c cs := by
  obtain ⟨h1, h2, h3, h4, h5⟩ := h
  refine ⟨h1, h2, h3, h4, ?_⟩
  rcases h5 with h5 | ⟨g, o, cur, hA, hf, r⟩
  · exact .inl h5
  · exact .inr ⟨g, o, cur, hA, hF g hf, r⟩
theorem LstR.rd (h : LstR sz e F w A n c cs) : RdR sz w A n c cs := by
  obtain ⟨h1, h2, h3, h4, h5⟩ := h
  rcases h5 with ⟨rfl, rfl⟩ | ⟨g, o, cur, rfl, hf, hh, hs, hx⟩
  · obtain rfl : n = 0 := by omega
    exact ⟨h1, h2, h3, fun _ => rfl, h4, fun h => absurd h (by omega)⟩
  · exact ⟨h1, h2, h3, by simp, h4, fun hn => ⟨g, o, rfl, (Array.getElem?_eq_some_iff.1 hh).1, fun i hi => by rw [cell_of_row _ _ _ _ _ _ hh]; exact hx i hi⟩⟩
theorem LstR.blk (h : LstR sz e F w A n c cs) : ∀ ad, A = some ad → F ad.block ∧ ad.block < w.heap.size := by
  intro ad he
  rcases h.2.2.2.2 with ⟨rfl, rfl⟩ | ⟨g, o, cur, rfl, hf, hh, hs, hx⟩
  · cases he
  · injection he with he
    subst he
    exact ⟨hf, (Array.getElem?_eq_some_iff.1 hh).1⟩
theorem LstR.same (h : LstR sz e F w A n c cs) (hb : ∀ ad, A = some ad → w'.heap[ad.block]? = w.heap[ad.block]?) : LstR sz e F w' A n c cs := by
  obtain ⟨h1, h2, h3, h4, h5⟩ := h
  refine ⟨h1, h2, h3, h4, ?_⟩
  rcases h5 with h5 | ⟨g, o, cur, rfl, hf, hh, r⟩
  · exact .inl h5
  · exact .inr ⟨g, o, cur, rfl, hf, (hb _ rfl).trans hh, r⟩
theorem LstR.st (h : LstR sz e F w A n c cs) {G : Nat → Prop} (hs : St G w w') (hG : ∀ k, F k → ¬ G k) : LstR sz e F w' A n c cs :=
  h.same fun ad he => hs.block _ (h.blk ad he).2 (hG _ (h.blk ad he).1)
theorem LstR.below (h : LstR sz e F w A n c cs) (hb : Below w.heap.size w w') : LstR sz e F w' A n c cs := h.same fun ad he => hb.block _ (h.blk ad he).2
theorem LstR.alloc (h : LstR sz e F w A n c cs) (o : Obj) : LstR sz e F (w.alloc o) A n c cs := h.below ((Below.refl _ _).alloc (Nat.le_refl _) o)
theorem LstR.far (h : LstR sz e F w A n c cs) {p : Addr} (hp : ∀ ad, A = some ad → ad.block ≠ p.block) (x : Value) : LstR sz e F (w.setCell p x) A n c cs := h.same fun ad he => Below.heap_setCell w p x _ (hp ad he)
theorem LstR.cut (h : LstR sz e F w A n c cs) {s : Nat} (hs : s ≤ n) : LstR sz e F w (cutR A c s sz) (n - s) (c - s) (cs.drop (s * sz)) := by
  obtain ⟨h1, h2, h3, h4, h5⟩ := h
  have hm : s * sz ≤ n * sz := Nat.mul_le_mul_right _ hs
  have hm2 : n * sz ≤ c * sz := Nat.mul_le_mul_right _ h2
  refine ⟨by rw [List.length_drop, h1, Nat.sub_mul], by omega, by omega, fun x hx => h4 x (List.mem_of_mem_drop hx), ?_⟩
  unfold cutR
  rcases h5 with ⟨rfl, rfl⟩ | ⟨g, o, cur, rfl, hf, hh, hsz, hx⟩
  · exact .inl ⟨by split <;> rfl, by omega⟩
  · split
    · rename_i hcs
      subst hcs
      obtain rfl : n = c := by omega
      exact .inr ⟨g, o, cur, rfl, hf, hh, by simp; omega, fun i hi => by simp at hi⟩
    · refine .inr ⟨g, o + s * sz, cur, by simp [Addr.add], hf, hh, by rw [Nat.sub_mul]; omega, fun i hi => ?_⟩
      rw [Nat.sub_mul] at hi
      rw [show o + s * sz + i = o + (s * sz + i) from by omega, hx (s * sz + i) (by omega), List.getElem?_drop]
theorem LstR.made (sz : Nat) (w : World) (e : TypeId) (cur : Array Value) (n c : Nat) (cs : List Value) (hv : cs.length = n * sz) (hn : n ≤ c) (hc : c * sz ≤ cur.size) (hm : c ≤ maxLen) (h1 : ∀ v ∈ cs, v.oneCell' = true) (hx : ∀ i, i < n * sz → cur[i]? = cs[i]?) :
    LstR sz e (w.heap.size ≤ ·) (w.alloc (.cells cur e)) (some ⟨w.heap.size, 0, none⟩) n c cs :=
  ⟨hv, hn, hm, h1, .inr ⟨w.heap.size, 0, cur, rfl, Nat.le_refl _, heap_alloc_new w _, by omega, fun i hi => by rw [Nat.zero_add]; exact hx i hi⟩⟩
theorem LstR.tight (h : LstR sz e F w A n c cs) : LstR sz e (BlkOf A) w A n c cs := by
  obtain ⟨h1, h2, h3, h4, h5⟩ := h
  refine ⟨h1, h2, h3, h4, ?_⟩
  rcases h5 with h5 | ⟨g, o, cur, rfl, hf, r⟩
  · exact .inl h5
  · exact .inr ⟨g, o, cur, rfl, ⟨_, rfl, rfl⟩, r⟩
/-- Row i is there, and may be written. -/
theorem LstR.there {g o : Nat} (h : LstR sz e F w (some ⟨g, o, none⟩) n c cs) {i : Nat} (hi : i < n) : w.there g (o + i * sz) sz := by
  obtain ⟨h1, h2, h3, h4, h5⟩ := h
  have hm : (i + 1) * sz ≤ n * sz := Nat.mul_le_mul_right _ hi
  have hm2 : n * sz ≤ c * sz := Nat.mul_le_mul_right _ h2
  rw [Nat.add_mul, Nat.one_mul] at hm
  rcases h5 with ⟨h, _⟩ | ⟨g', o', cur, hA, hf, hh, hs, hc⟩
  · cases h
  · injection hA with hA
    injection hA with e1 e2 e3
    subst e1 e2
    intro j hj
    refine ⟨?_, by simp [World.frozen?, hh]⟩
    rw [cell_of_row _ _ _ _ _ _ hh, Array.getElem?_eq_getElem (by omega)]
    rfl
/-- Row i is written. -/
theorem LstR.lay {g o : Nat} (h : LstR sz e F w (some ⟨g, o, none⟩) n c cs) {i : Nat} (hi : i < n) {us : List Value} (hu : us.length = sz) (h1' : ∀ v ∈ us, v.oneCell' = true) :
    LstR sz e F (w.setCells g (o + i * sz) us) (some ⟨g, o, none⟩) n c (lay cs (i * sz) us) := by
  obtain ⟨h1, h2, h3, h4, h5⟩ := h
  have hm : (i + 1) * sz ≤ n * sz := Nat.mul_le_mul_right _ hi
  have hm2 : n * sz ≤ c * sz := Nat.mul_le_mul_right _ h2
  rw [Nat.add_mul, Nat.one_mul] at hm
  have hl : i * sz + us.length ≤ cs.length := by omega
  refine ⟨by rw [lay_len _ _ _ hl, h1], h2, h3, ?_, ?_⟩
  · intro v hv
    unfold Go.Proofs.YtdepbdmnkkkjlaaDoor.lay at hv
    rw [List.mem_append, List.mem_append] at hv
    rcases hv with (hv | hv) | hv
    · exact h4 v (List.mem_of_mem_take hv)
    · exact h1' v hv
    · exact h4 v (List.mem_of_mem_drop hv)
  · rcases h5 with ⟨h, _⟩ | ⟨g', o', cur, hA, hf, hh, hs, hc⟩
    · cases h
    · injection hA with hA
      injection hA with e1 e2 e3
      subst e1 e2
      obtain ⟨cur', k1, k2, k3, k4⟩ := heap_setCells g e (0, 0) us (o + i * sz) w cur hh (by omega)
      refine .inr ⟨g, o, cur', rfl, hf, k1, by omega, fun j hj => ?_⟩
      rcases (by omega : (i * sz ≤ j ∧ j < i * sz + us.length) ∨ (j < i * sz ∨ i * sz + us.length ≤ j)) with hc1 | hc1
      · obtain ⟨q, rfl⟩ := Nat.exists_eq_add_of_le hc1.1
        rw [← Nat.add_assoc, k3 q (by omega), lay_in _ _ _ hl (by omega)]
      · rw [k4 (o + j) (by omega), hc j hj, lay_out _ _ _ hl hc1]
end

/-- In P, type t is a slice of type e, whose elements are rows, at first zs, of so many bytes. -/
structure EltS (P : Program) (t e : TypeId) (zs : List Value) (bytes : Nat) : Prop where
  ht : P.underlying t = some (.slice e)
  hi : (P.info? e).map (fun i => (i.zero, i.size, i.bytes)) = some (some (.agg zs.toArray), zs.length, bytes)
  h1 : ∀ v ∈ zs, v.oneCell' = true
  hs : 0 < zs.length
  hb : 0 < bytes
  hr : ∃ d, P.underlying e = some d ∧ d.isRow = true
  hm : zs.length ≤ 1000
/-- What an append leaves: the list longer, in the same block or in a new one. -/
structure ApdR (sz : Nat) (e : TypeId) (F : Nat → Prop) (w : World) (v : Value) (cs : List Value) (w' : World) : Prop where
  ex : ∃ A n c, v = .slice A n c ∧ LstR sz e (fun k => F k ∨ w.heap.size ≤ k) w' A n c cs
  st : St F w w'
section
variable {P : Program} {w : World} {t e : TypeId} {zs : List Value} {bytes : Nat} {F : Nat → Prop} {A B : Option Addr} {n c m d : Nat} {cs us : List Value}
theorem EltS.row (E : EltS P t e zs bytes) : Row P e zs.length := by
  obtain ⟨i, hi, hz, hsz, hby⟩ := info_parts E.hi
  exact ⟨E.hr, by rw [hi]; simp [hsz]⟩
theorem run_append_lstR (E : EltS P t e zs bytes) (ty : TypeId) (h : LstR zs.length e F w A n c cs) (hu : RdR zs.length w B m d us) (hlen : (n + m) * bytes ≤ 140737488355328) :
    ∃ v w', (Builtin.append_ #[t, t] ty #[.slice A n c, .slice B m d]).run P w = .ok v w' ∧ ApdR zs.length e F w v (cs ++ us) w' := by
  obtain ⟨i, hi, hz, hsz, hby⟩ := info_parts E.hi
  have hmax : n + m ≤ maxLen := by
    have : (n + m) * 1 ≤ (n + m) * bytes := Nat.mul_le_mul_left _ E.hb
    simp only [maxLen]; omega
  have hsrc' : Src P i.size t (.slice B m d) m us w := by rw [hsz]; exact hu.src E.ht
  have hrd := h.rd
  have hul : us.length = m * zs.length := hu.1
  have hone : ∀ v ∈ cs ++ us, v.oneCell' = true := fun v hv => by
    rcases List.mem_append.1 hv with h' | h'
    · exact h.2.2.2.1 v h'
    · exact hu.2.2.2.2.1 v h'
  have hlen' : (cs ++ us).length = (n + m) * zs.length := by rw [List.length_append, h.1, hul, Nat.add_mul]
  by_cases hroom : n + m ≤ c
  · have hm3 : (n + m) * zs.length ≤ c * zs.length := Nat.mul_le_mul_right _ hroom
    rw [Nat.add_mul] at hm3
    rcases h.2.2.2.2 with ⟨rfl, rfl⟩ | ⟨g, o, cur, rfl, hf, hh, hs, hx⟩
    · obtain rfl : n = 0 := by omega
      obtain rfl : m = 0 := by omega
      obtain rfl : us = [] := List.eq_nil_of_length_eq_zero (by omega)
      obtain rfl : cs = [] := List.eq_nil_of_length_eq_zero (by have := h.1; omega)
      refine ⟨.slice none 0 0, w, ?_, ⟨⟨none, 0, 0, rfl, LstR.nil _ _ _ _⟩, St.refl _ _⟩⟩
      have h1 := hsrc'.len
      have h2 := hsrc'.cells
      simp [Builtin.append_, run_underlying E.ht, sizeOf, typeInfo, hi, h1, h2]
    · have hr := run_append_room_src (P := P) w t t ty e i E.ht hi g o n c (.slice B m d) m us hsrc' hroom
        (fun j hj => by rw [hsz, cell_of_row _ _ _ _ _ _ hh, Array.getElem?_eq_getElem (by omega)]; rfl)
        (fun j hj => by simp [World.frozen?, hh])
      rw [hsz] at hr
      obtain ⟨cur', h1, h2, h3, h4⟩ := heap_setCells g e (0, 0) us (o + n * zs.length) w cur hh (by omega)
      refine ⟨_, _, hr, ⟨⟨_, _, _, rfl, hlen', hroom, h.2.2.1, hone, .inr ⟨g, o, cur', rfl, .inl hf, h1, by omega, fun j hj => ?_⟩⟩, st_setCells F g hf _ _ _⟩⟩
      rw [Nat.add_mul] at hj
      by_cases hjn : j < n * zs.length
      · rw [h4 (o + j) (by omega), hx j hjn, List.getElem?_append_left (by rw [h.1]; exact hjn)]
      · rw [show o + j = o + n * zs.length + (j - n * zs.length) from by omega, h3 (j - n * zs.length) (by omega), List.getElem?_append_right (by rw [h.1]; omega), h.1]
  · have holds : (Builtin.firstCells i.size n (.slice A n c)).run P w.drew = .ok cs.toArray w.drew := by
      have := (hrd.src E.ht).cellsD
      rw [hsz]; exact this
    have hr := run_append_grow_src (P := P) w t t ty e i _ E.ht hi hz A n c cs holds (.slice B m d) m us hsrc' (by omega) (by simp only [maxLen] at hmax; omega) (growslice_fits (by omega) (by rw [hby]; exact hlen))
    have hge := grownCap_ge w (n + m) c e
    have hcm : grownCap w (n + m) c e ≤ maxLen := grownCap_le_maxLen w (n + m) c e hmax
    have hcs : ((cs ++ us).toArray ++ Builtin.zeroCells (Value.agg zs.toArray).cells (grownCap w (n + m) c e - (n + m))).size = grownCap w (n + m) c e * zs.length := by
      rw [Array.size_append, zeroCells_size, List.size_toArray, hlen']
      simp only [Value.cells, List.size_toArray]
      rw [← Nat.add_mul]
      congr 1; omega
    have hl := LstR.made zs.length w.drew e ((cs ++ us).toArray ++ Builtin.zeroCells (Value.agg zs.toArray).cells (grownCap w (n + m) c e - (n + m))) (n + m) (grownCap w (n + m) c e) (cs ++ us) hlen' hge (by rw [hcs]; exact Nat.le_refl _) hcm hone
      (fun j hj => by rw [Array.getElem?_append_left (by rw [List.size_toArray, hlen']; exact hj)]; simp)
    exact ⟨_, _, hr, ⟨⟨_, _, _, rfl, hl.mono fun k hk => .inr (by simpa using hk)⟩, ⟨rfl, rfl, rfl, by simp, fun k hk _ => heap_alloc_old w.drew _ hk⟩⟩⟩
theorem wpList_append_lstR {ops : Array Oper} {rest : List Oper} {o : Oper} {a : Act} {Q : Exit → Act → World → Prop} (E : EltS P t e zs bytes) (hgd : o.guard = none) (s x : Operand)
    (ho : o.op = .call { callee := .builtin .append, args := #[s, x], argTypes := #[t, t] })
    (hs : a.eval s = .slice A n c) (h : LstR zs.length e F w A n c cs) (hx : a.eval x = .slice B m d) (hu : RdR zs.length w B m d us) (hlen : (n + m) * bytes ≤ 140737488355328)
    (hq : ∀ v w', ApdR zs.length e F w v (cs ++ us) w' → wpList P ops Q rest (a.put o.dst v) w') : wpList P ops Q (o :: rest) a w := by
  obtain ⟨v, w', hrun, hap⟩ := run_append_lstR E o.type h hu hlen
  refine wpList_plain hgd fun K hK => ?_
  unfold Oper.wp execOp
  simp only [ho, resolve, invoke, builtin, Sem.run_bind, Sem.run_pure, Result.andThen_ok, List.map_toArray, List.map_cons, List.map_nil, hs, hx, hrun]
  exact hK _ _ (hq v w' hap)
/-- clear(x[:1]). -/
theorem run_clear_row (E : EltS P t e zs bytes) (ty : TypeId) {g o : Nat} {c : Nat} (hc : w.there g o zs.length) :
    (Builtin.clear_ #[t] ty #[.slice (some ⟨g, o, none⟩) 1 c]).run P w = .ok (.tuple #[]) (w.setCells g o zs) := by
  obtain ⟨i, hi, hz, hsz, hby⟩ := info_parts E.hi
  have hst := run_storeCells_cells (P := P) g o zs 0 w (fun j hj => by rw [Nat.add_zero]; exact (hc j hj).1) (fun j hj => by rw [Nat.add_zero]; exact (hc j hj).2) E.h1
  simp only [Nat.add_zero] at hst
  have hzc : (Builtin.zeroCells (Value.agg zs.toArray).cells 1).toList = zs := by
    apply List.ext_getElem
    · simp [Builtin.zeroCells, Value.cells]
    · intro j h1 h2
      simp [Builtin.zeroCells, Value.cells, Nat.mod_eq_of_lt h2, h2]
  simp [Builtin.clear_, run_underlying E.ht, zeroValue, typeInfo, hi, hz, hzc, hst]
theorem wpList_clear_row {ops : Array Oper} {rest : List Oper} {o : Oper} {a : Act} {Q : Exit → Act → World → Prop} (E : EltS P t e zs bytes) (hgd : o.guard = none) (s : Operand)
    (ho : o.op = .call { callee := .builtin .clear, args := #[s], argTypes := #[t] }) {g p : Nat} (hs : a.eval s = .slice (some ⟨g, p, none⟩) 1 c)
    (hc : w.there g p zs.length)
    (hq : wpList P ops Q rest (a.put o.dst (.tuple #[])) (w.setCells g p zs)) : wpList P ops Q (o :: rest) a w := by
  have hrun := run_clear_row (c := c) E o.type hc
  refine wpList_plain hgd fun K hK => ?_
  unfold Oper.wp execOp
  simp only [ho, resolve, invoke, builtin, Sem.run_bind, Sem.run_pure, Result.andThen_ok, List.map_toArray, List.map_cons, List.map_nil, hs, hrun]
  exact hK _ _ hq
/-- x[s:], x[:s]. -/
theorem EltS.run_cut (E : EltS P t e zs bytes) (A : Option Addr) (n c s : Nat) (hs : s ≤ n) (hn : n ≤ c) (w : World) :
    (Instr.slice t (.slice A n c) (some (.int .i64 s)) none none).run P w = .ok (.slice (cutR A c s zs.length) (n - s) (c - s)) w := by
  obtain ⟨i, hi, hz, hsz, hby⟩ := info_parts E.hi
  have h1 := run_sliceBound (P := P) (w := w) .i64 s n .sliceB (by omega) (by omega)
  simp [Instr.slice, run_underlying E.ht, Instr.sliceBounds, h1, sizeOf, typeInfo, hi, hsz, cutR]
theorem EltS.run_pre (E : EltS P t e zs bytes) (A : Option Addr) (n c s : Nat) (hs : s ≤ c) (hn : n ≤ c) (w : World) :
    (Instr.slice t (.slice A n c) none (some (.int .i64 s)) none).run P w = .ok (.slice A s c) w := by
  obtain ⟨i, hi, hz, hsz, hby⟩ := info_parts E.hi
  have h1 := run_sliceBound (P := P) (w := w) .i64 s c .sliceAcap (by omega) (by omega)
  have h2 := run_sliceBound (P := P) (w := w) .i64 0 s .sliceB (by omega) (by omega)
  have e2 : Option.map (fun x => Addr.add x 0) A = A := by
    cases A with
    | none => rfl
    | some x => simp [Addr.add]
  simp [Instr.slice, run_underlying E.ht, Instr.sliceBounds, h1, h2, sizeOf, typeInfo, hi, hsz, e2]
theorem fill_get : ∀ (xs : List Value) (k : Nat) (a : Array Value), k + xs.length ≤ a.size → ∀ i, ((xs.zipIdx k).foldl (fun cs (x : Value × Nat) => cs.setIfInBounds x.2 x.1) a)[i]? = if k ≤ i ∧ i < k + xs.length then xs[i - k]? else a[i]?
  | [], k, a, _, i => by simp; omega
  | x :: r, k, a, h, i => by
    simp only [List.length_cons] at h
    rw [List.zipIdx_cons, List.foldl_cons, fill_get r (k + 1) _ (by simp; omega) i]
    simp only [List.length_cons]
    by_cases h1 : k + 1 ≤ i ∧ i < k + 1 + r.length
    · rw [if_pos h1, if_pos (by omega), show i - k = (i - (k + 1)) + 1 from by omega, List.getElem?_cons_succ]
    · rw [if_neg h1, Array.getElem?_setIfInBounds]
      by_cases h2 : k = i
      · subst h2
        rw [if_pos rfl, if_pos (by omega), if_pos (by omega), Nat.sub_self, List.getElem?_cons_zero]
      · rw [if_neg h2, if_neg (by omega)]
theorem fill_all (xs : List Value) (a : Array Value) (h : a.size = xs.length) : (xs.zipIdx).foldl (fun cs (x : Value × Nat) => cs.setIfInBounds x.2 x.1) a = xs.toArray := by
  apply Array.ext_getElem?
  intro i
  rw [fill_get xs 0 a (by omega) i]
  by_cases hi : i < xs.length
  · rw [if_pos ⟨Nat.zero_le _, by omega⟩, Nat.sub_zero, List.getElem?_toArray]
  · have h1 : a[i]? = none := Array.getElem?_eq_none (by omega)
    have h2 : xs.toArray[i]? = none := Array.getElem?_eq_none (by rw [List.size_toArray]; omega)
    rw [if_neg (by omega), h1, h2]
theorem EltS.build_one (E : EltS P t e zs bytes) {xs : List Value} (hx : xs.length = zs.length) (w : World) :
    (Instr.buildSlice t 1 #[(0, .agg xs.toArray)]).run P w = .ok (.slice (some ⟨w.heap.size, 0, none⟩) 1 1) (w.alloc (.cells xs.toArray e)) := by
  obtain ⟨i, hi, hz, hsz, hby⟩ := info_parts E.hi
  have hm := E.hm
  have hne : zs ≠ [] := by intro e; have := E.hs; rw [e] at this; simp at this
  have h24 : ¬ (16777216 < zs.length) := by omega
  simp [Instr.buildSlice, run_underlying E.ht, sizeOf, typeInfo, zeroValue, hi, hsz, hz, Instr.fill, newRow, Value.cells, hx, h24, hne]
  rw [fill_all xs _ (by simp [hx])]
theorem wpList_build_row {ops : Array Oper} {rest : List Oper} {o : Oper} {a : Act} {Q : Exit → Act → World → Prop} (E : EltS P t e zs bytes) (hgd : o.guard = none) (s : Operand)
    (ho : o.op = .buildSlice t 1 #[(0, s)]) {xs : List Value} (hs : a.eval s = .agg xs.toArray) (hx : xs.length = zs.length)
    (hq : wpList P ops Q rest (a.put o.dst (.slice (some ⟨w.heap.size, 0, none⟩) 1 1)) (w.alloc (.cells xs.toArray e))) : wpList P ops Q (o :: rest) a w := by
  refine wpList_plain hgd fun K hK => ?_
  have hr := E.build_one hx w
  unfold Oper.wp execOp
  simp only [ho, List.map_toArray, List.map_cons, List.map_nil, hs, Sem.run_bind, Sem.run_pure, hr, Result.andThen_ok]
  exact hK _ _ hq
end
end
end Go.Proofs.YtdepbdmnkkkjlaaDoor
