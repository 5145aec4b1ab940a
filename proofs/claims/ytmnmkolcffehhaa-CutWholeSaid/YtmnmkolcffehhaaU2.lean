/- Pieces in memory: lists of them that read, lists of a call's own; what a message's pieces say. -/
import Derived.Test.YtmnmkolcffehhaaU1
import Derived.Test.YtmnmkolcffehhaaLsrI
set_option linter.unusedSimpArgs false
set_option linter.unusedVariables false
namespace Go.Proofs.Ytmnmkolcffehhaa
open Go.RowKit Go.Shelf

/-! ### What a message's pieces say -/
def cutN (l m : Nat) : Nat := (l + m - 1) / m
def cutP (xs : List Int) (m i : Nat) : Pp := ⟨(xs.drop (i * m)).take m, decide (i + 1 = cutN xs.length m), false⟩
def cutL (xs : List Int) (m : Nat) : List Pp := (List.range (cutN xs.length m)).map (cutP xs m)
theorem cutN_lt {l m k : Nat} (hm : 1 ≤ m) : k < cutN l m ↔ k * m < l := by
  unfold cutN
  rw [show k < (l + m - 1) / m ↔ k + 1 ≤ (l + m - 1) / m from Iff.rfl, Nat.le_div_iff_mul_le (by omega), Nat.add_mul]
  omega
theorem cutN_last {l m k : Nat} (hm : 1 ≤ m) (hk : k * m < l) : k + 1 = cutN l m ↔ l ≤ k * m + m := by
  have h1 := (cutN_lt (l := l) (k := k) hm).2 hk
  have h2 := cutN_lt (l := l) (m := m) (k := k + 1) hm
  rw [Nat.add_mul, Nat.one_mul] at h2
  omega
theorem cutL_len (xs : List Int) (m : Nat) : (cutL xs m).length = cutN xs.length m := by simp [cutL]
theorem cutL_at (xs : List Int) (m : Nat) {i : Nat} (hi : i < cutN xs.length m) : (cutL xs m)[i]? = some (cutP xs m i) := by simp [cutL, hi]
theorem cutL_take (xs : List Int) (m : Nat) {i : Nat} (hi : i < cutN xs.length m) : (cutL xs m).take (i + 1) = (cutL xs m).take i ++ [cutP xs m i] := by
  rw [List.take_add_one, cutL_at xs m hi]; rfl
theorem cntV_cut {n m : Nat} (h : fitB n m = true) : cntV n m = cutN n m := by
  obtain ⟨h1, h2, h3, h4⟩ := fit_of h
  unfold cntV cutN
  rw [if_pos h, show (n : Int) + m - 1 = ((n + m - 1 : Nat) : Int) from by omega, ← Int.natCast_ediv]

/-! ### Cells that stay -/
/-- Whatever is cells stays. -/
def KpC (w w' : World) : Prop := w.heap.size ≤ w'.heap.size ∧ ∀ (k : Nat) (o : Obj), w.heap[k]? = some o → o.isCells = true → w'.heap[k]? = some o
theorem KpC.below {w w' : World} (h : Below w.heap.size w w') : KpC w w' := ⟨h.size, fun k o ho _ => (h.block k (Array.getElem?_eq_some_iff.1 ho).1).trans ho⟩
theorem KpC.grown {w w' : World} {row : Option Nat} (h : w.grownBy w' row) (hr : ∀ r, row = some r → ∃ o : Obj, w.heap[r]? = some o ∧ o.isCells = false) : KpC w w' :=
  ⟨h.size, fun k o ho hc => (h.block k (Array.getElem?_eq_some_iff.1 ho).1 (fun e => by
    obtain ⟨o', ho', hc'⟩ := hr k e.symm
    rw [ho] at ho'
    injection ho' with ho'
    subst ho'
    rw [hc] at hc'
    cases hc')).trans ho⟩
theorem KpC.bk {w w' : World} (h : KpC w w') {t : TypeId} {g : Nat} {vs : List Value} (hb : Bk w t g vs) : Bk w' t g vs := h.2 _ _ hb rfl
/-- Block k holds cells of type t. -/
def Tyd (t : TypeId) (w : World) (k : Nat) : Prop := ∃ cur fz, w.heap[k]? = some (.cells cur t fz)
theorem Tyd.ne {t u : TypeId} {w : World} {k : Nat} (h : Tyd t w k) (hne : t ≠ u) : ¬ Tyd u w k := by
  rintro ⟨cur, fz, h2⟩
  obtain ⟨cur', fz', h1⟩ := h
  rw [h1] at h2
  injection h2 with h2
  injection h2 with _ h3
  exact hne h3
theorem Bk.tyd {t : TypeId} {w : World} {k : Nat} {vs : List Value} (h : Bk w t k vs) : Tyd t w k := ⟨_, _, h⟩
theorem LstR.tyd {sz : Nat} {t : TypeId} {F : Nat → Prop} {w : World} {A : Option Addr} {n c : Nat} {cs : List Value} (h : LstR sz t F w A n c cs) : ∀ k, BlkOf A k → Tyd t w k := by
  rintro k ⟨ad, he, rfl⟩
  rcases h.2.2.2.2 with ⟨rfl, _⟩ | ⟨g, o, cur, rfl, _, hh, _⟩
  · cases he
  · injection he with he
    subst he
    exact ⟨cur, _, hh⟩
theorem Lst.tyd {t : TypeId} {F : Nat → Prop} {w : World} {A : Option Addr} {n c : Nat} {cs : List Value} (h : Lst t F w A n c cs) : ∀ k, BlkOf A k → Tyd t w k := by
  rintro k ⟨ad, he, rfl⟩
  rcases h.2.2.2.2 with ⟨rfl, _⟩ | ⟨g, o, cur, rfl, _, hh, _⟩
  · cases he
  · injection he with he
    subst he
    exact ⟨cur, _, hh⟩

/-! ### A slice of bytes in a block of bytes -/
def BsR (w : World) (A : Option Addr) (n c : Nat) (xs : List Int) : Prop := Rd .u8 w A n c xs ∧ ∀ k, BlkOf A k → Tyd 5 w k
section
variable {w w' : World} {A : Option Addr} {n c : Nat} {xs : List Int}
theorem BsR.keep (h : BsR w A n c xs) (hs : w.heap.size ≤ w'.heap.size) (hb : ∀ ad, A = some ad → w'.heap[ad.block]? = w.heap[ad.block]?) : BsR w' A n c xs := by
  refine ⟨?_, ?_⟩
  · obtain ⟨h1, h2, h3, h4, h5, h6⟩ := h.1
    refine ⟨h1, h2, h3, h4, h5, fun hn => ?_⟩
    obtain ⟨g, o, e, hg, hx⟩ := h6 hn
    exact ⟨g, o, e, by omega, fun i hi => (World.cell?_of_block (a := ⟨g, o + i, none⟩) (hb ⟨g, o, none⟩ e)).trans (hx i hi)⟩
  · rintro k ⟨ad, he, rfl⟩
    obtain ⟨cur, fz, ht⟩ := h.2 _ ⟨ad, he, rfl⟩
    exact ⟨cur, fz, (hb ad he).trans ht⟩
theorem BsR.kc (h : BsR w A n c xs) (hk : KpC w w') : BsR w' A n c xs := h.keep hk.1 fun ad he => by
  obtain ⟨cur, fz, ht⟩ := h.2 _ ⟨ad, he, rfl⟩
  rw [hk.2 _ _ ht rfl, ht]
theorem BsR.below (h : BsR w A n c xs) (hb : Below w.heap.size w w') : BsR w' A n c xs := h.kc (KpC.below hb)
theorem BsR.st (h : BsR w A n c xs) {G : Nat → Prop} (hs : St G w w') (hG : ∀ k, G k → ¬ Tyd 5 w k) : BsR w' A n c xs := h.keep hs.size fun ad he => by
  have ht := h.2 _ ⟨ad, he, rfl⟩
  obtain ⟨cur, fz, h1⟩ := ht
  exact hs.block _ (Array.getElem?_eq_some_iff.1 h1).1 (fun hg => hG _ hg ⟨cur, fz, h1⟩)
theorem BsR.own {base : Nat} (h : Ow .u8 5 base w (.slice A n c) xs) (hw : ∀ x ∈ xs, (Lit.int .u8 x).wf = true) : BsR w A n c xs := by
  obtain ⟨A', c', h1, h2⟩ := h.rd hw
  injection h1 with e1 e2 e3
  subst e1 e2 e3
  refine ⟨h2, ?_⟩
  rintro k ⟨ad, rfl, rfl⟩
  rcases h.2 with ⟨h, _⟩ | ⟨g, cap, cur, hv, hg, hh, r⟩
  · cases h
  · injection hv with hv
    injection hv with hv
    subst hv
    exact ⟨_, _, hh⟩
end
/-- A piece's bytes, in a block of bytes. -/
def PcR (w : World) (q : Pc) : Prop := BsR w q.A q.n q.c q.xs
/-- Pieces in a list that reads. -/
def SlC (w : World) (A : Option Addr) (n c : Nat) (ps : List Pp) : Prop :=
  ∃ qs : List Pc, n = qs.length ∧ RdR 3 w A n c (flat Pc.cl qs) ∧ qs.map Pc.say = ps ∧ ∀ q ∈ qs, Rd .u8 w q.A q.n q.c q.xs
/-- Pieces in a list of the call's own. -/
def LstP (F : Nat → Prop) (w : World) (A : Option Addr) (n c : Nat) (ps : List Pp) : Prop :=
  ∃ qs : List Pc, n = qs.length ∧ LstR 3 36 F w A n c (flat Pc.cl qs) ∧ qs.map Pc.say = ps ∧ ∀ q ∈ qs, PcR w q
section
variable {w w' : World} {A : Option Addr} {n c : Nat} {ps : List Pp} {F F' : Nat → Prop}
theorem SlC.below (h : SlC w A n c ps) (hb : Below w.heap.size w w') : SlC w' A n c ps := by
  obtain ⟨qs, h1, h2, h3, h4⟩ := h
  exact ⟨qs, h1, h2.below hb, h3, fun q hq => (h4 q hq).below hb⟩
theorem SlC.len (h : SlC w A n c ps) : ps.length = n := by
  obtain ⟨qs, h1, h2, h3, h4⟩ := h
  rw [← h3, List.length_map, h1]
theorem SlC.cap (h : SlC w A n c ps) : n ≤ c ∧ c ≤ maxLen := by
  obtain ⟨qs, h1, h2, h3, h4⟩ := h
  exact ⟨h2.2.1, h2.2.2.1⟩
theorem SlC.nil (w : World) : SlC w none 0 0 [] := ⟨[], rfl, RdR.nil _ _, rfl, by simp⟩
theorem SlC.row (h : SlC w A n c ps) {i : Nat} (hi : i < n) : ∃ (g o : Nat) (q : Pc), A = some ⟨g, o, none⟩ ∧ w.rangeAt g (o + i * 3) q.cl ∧ Rd .u8 w q.A q.n q.c q.xs ∧ ps[i]? = some q.say ∧ g < w.heap.size := by
  obtain ⟨qs, h1, h2, h3, h4⟩ := h
  obtain ⟨g, o, hA, hg, hra⟩ := h2.range hi
  have hl : i < qs.length := by omega
  rw [flat_row Pc.cl_len qs i hl] at hra
  exact ⟨g, o, qs[i], hA, hra, h4 _ (List.getElem_mem _), by rw [← h3, List.getElem?_map, List.getElem?_eq_getElem hl]; rfl, hg⟩
theorem flat_take (qs : List Pc) (k : Nat) (hk : k ≤ qs.length) : flat Pc.cl (qs.take k) = (flat Pc.cl qs).take (k * 3) := by
  have e : flat Pc.cl qs = flat Pc.cl (qs.take k) ++ flat Pc.cl (qs.drop k) := by rw [← flat_app, List.take_append_drop]
  have hl : (flat Pc.cl (qs.take k)).length = k * 3 := by rw [flat_len Pc.cl_len, List.length_take, Nat.min_eq_left hk]
  rw [e, ← hl, List.take_left]
theorem SlC.pre (h : SlC w A n c ps) {k : Nat} (hk : k ≤ n) : SlC w A k c (ps.take k) := by
  obtain ⟨qs, h1, h2, h3, h4⟩ := h
  refine ⟨qs.take k, by rw [List.length_take]; omega, ?_, by rw [List.map_take, h3], fun q hq => h4 q (List.mem_of_mem_take hq)⟩
  obtain ⟨r1, r2, r3, r4, r5, r6⟩ := h2
  rw [flat_take qs k (by omega)]
  refine ⟨by rw [List.length_take, r1]; omega, by omega, r3, r4, fun v hv => r5 v (List.mem_of_mem_take hv), fun hk0 => ?_⟩
  obtain ⟨g, o, e, hg, hx⟩ := r6 (by omega)
  refine ⟨g, o, e, hg, fun i hi => ?_⟩
  rw [hx i (by omega), List.getElem?_take, if_pos hi]
theorem LstP.sl (h : LstP F w A n c ps) : SlC w A n c ps := by
  obtain ⟨qs, h1, h2, h3, h4⟩ := h
  exact ⟨qs, h1, h2.rd, h3, fun q hq => (h4 q hq).1⟩
theorem LstP.nil (F : Nat → Prop) (w : World) : LstP F w none 0 0 [] := ⟨[], rfl, LstR.nil _ _ _ _, rfl, by simp⟩
theorem LstP.mono (h : LstP F w A n c ps) (hF : ∀ k, F k → F' k) : LstP F' w A n c ps := by
  obtain ⟨qs, h1, h2, h3, h4⟩ := h
  exact ⟨qs, h1, h2.mono hF, h3, h4⟩
theorem LstP.kc (h : LstP F w A n c ps) (hk : KpC w w') : LstP F w' A n c ps := by
  obtain ⟨qs, h1, h2, h3, h4⟩ := h
  refine ⟨qs, h1, h2.same fun ad he => ?_, h3, fun q hq => BsR.kc (h4 q hq) hk⟩
  obtain ⟨cur, fz, ht⟩ := h2.tyd _ ⟨ad, he, rfl⟩
  rw [hk.2 _ _ ht rfl, ht]
theorem LstP.below (h : LstP F w A n c ps) (hb : Below w.heap.size w w') : LstP F w' A n c ps := h.kc (KpC.below hb)
theorem LstP.len (h : LstP F w A n c ps) : ps.length = n := h.sl.len
theorem LstP.blk (h : LstP F w A n c ps) : ∀ ad, A = some ad → F ad.block ∧ ad.block < w.heap.size := by
  obtain ⟨qs, h1, h2, h3, h4⟩ := h
  exact h2.blk
end
/-- A list of pieces of its own, just made. -/
def MadeC (ps : List Pp) (w : World) (A : Option Addr) (n c : Nat) (w' : World) : Prop := LstP (w.heap.size ≤ ·) w' A n c ps ∧ Below w.heap.size w w'

/-! ### A list of pieces that is gathered in a variable -/
/-- Variable v holds a list of pieces in memory of the call's own (from w's end on); what was there before the call (w) stays. -/
structure ColP (w : World) (v : Nat) (ps : List Pp) (W : World) : Prop where
  bel : Below w.heap.size w W
  ex : ∃ A n c, Bk W 24 v [.slice A n c] ∧ LstP (fun k => w.heap.size ≤ k ∧ k ≠ v) W A n c ps
section
variable {w W W' : World} {v : Nat} {ps : List Pp}
theorem ColP.own {B : Nat} {row : Option Nat} (h : ColP w v ps W) (hwB : w.heap.size ≤ B) (hw : W.grownBy W' row)
    (hr : ∀ r, row = some r → B ≤ r ∧ ∃ o : Obj, W.heap[r]? = some o ∧ o.isCells = false) : ColP w v ps W' := by
  obtain ⟨h1, A, n, c, h3, h4⟩ := h
  have hk := KpC.grown hw (fun r e => (hr r e).2)
  refine ⟨⟨hw.os.trans h1.os, hw.tape.trans h1.tape, hw.output.trans h1.output, Nat.le_trans h1.size hw.size, fun k hk' => ?_⟩, A, n, c, hk.bk h3, h4.kc hk⟩
  exact (hw.block k (by have := h1.size; omega) (fun e => by have := (hr _ e.symm).1; omega)).trans (h1.block k hk')
theorem ColP.next (h : ColP w v ps W) (hb : Below W.heap.size W W') : ColP w v ps W' := by
  obtain ⟨h1, A, n, c, h3, h4⟩ := h
  exact ⟨h1.trans (hb.mono h1.size), A, n, c, h3.below hb, h4.below hb⟩
/-- What a round keeps: what lay below n0; what is no cells, from N on; all cells but those of pieces and of lists of pieces. -/
def KpT (n0 N : Nat) (W W' : World) : Prop := W.heap.size ≤ W'.heap.size ∧ ∀ (k : Nat) (o : Obj), W.heap[k]? = some o → (k < n0 ∨ (N ≤ k ∧ o.isCells = false) ∨ ∃ cur t fz, o = .cells cur t fz ∧ t ≠ 36 ∧ t ≠ 24) → W'.heap[k]? = some o
theorem KpT.refl (n0 N : Nat) (W : World) : KpT n0 N W W := ⟨Nat.le_refl _, fun _ _ h _ => h⟩
theorem KpT.trans {n0 N : Nat} {A B C : World} (h : KpT n0 N A B) (k : KpT n0 N B C) : KpT n0 N A C := ⟨Nat.le_trans h.1 k.1, fun i o hi ho => k.2 i o (h.2 i o hi ho) ho⟩
theorem KpT.up {n0 N N' : Nat} {A B : World} (h : KpT n0 N A B) (hN : N ≤ N') : KpT n0 N' A B := ⟨h.1, fun i o hi ho => h.2 i o hi (by
  rcases ho with h | ⟨h, h'⟩ | h
  · exact .inl h
  · exact .inr (.inl ⟨by omega, h'⟩)
  · exact .inr (.inr h))⟩
theorem KpT.below {n0 N : Nat} {A B : World} (h : Below A.heap.size A B) : KpT n0 N A B := ⟨h.size, fun k o hk _ => (h.block k (Array.getElem?_eq_some_iff.1 hk).1).trans hk⟩
theorem KpT.put {n0 N l : Nat} (W : World) (o o' : Obj) (hl : l < N) (ho : W.heap[l]? = some o) (h0 : n0 ≤ l) (hc : o.isCells = false) : KpT n0 N W (W.putObj l o') := by
  refine ⟨by simp [World.putObj], fun k x hk hx => ?_⟩
  rw [World.putObj_heap_other ?_]
  · exact hk
  · rintro rfl
    rw [ho] at hk
    injection hk with hk
    subst hk
    rcases hx with h | ⟨h, _⟩ | ⟨cur, t, fz, rfl, _⟩
    · omega
    · omega
    · cases hc
theorem KpT.bk {n0 N g : Nat} {A B : World} {t : TypeId} {vs : List Value} (h : KpT n0 N A B) (hb : Bk A t g vs) (h1 : t ≠ 36) (h2 : t ≠ 24) : Bk B t g vs := h.2 _ _ hb (.inr (.inr ⟨_, _, _, rfl, h1, h2⟩))
theorem KpT.from {n0 N B : Nat} {X Y : World} (h : KpT n0 N X Y) (hB : N ≤ B) : KeepsFrom B X Y := ⟨h.1, fun k o hk h0 hc => h.2 k o h0 (.inr (.inl ⟨by omega, hc⟩))⟩
/-- A slice of bytes that the rounds keep: below n0, or in a block of bytes. -/
def BsK (n0 : Nat) (w : World) (A : Option Addr) (n c : Nat) (xs : List Int) : Prop := Rd .u8 w A n c xs ∧ (0 < n → ∀ k, BlkOf A k → k < n0 ∨ Tyd 5 w k)
theorem BsK.kp {n0 N : Nat} {w w' : World} {A : Option Addr} {n c : Nat} {xs : List Int} (h : BsK n0 w A n c xs) (hk : KpT n0 N w w') : BsK n0 w' A n c xs := by
  have hbl : 0 < n → ∀ ad, A = some ad → w'.heap[ad.block]? = w.heap[ad.block]? := fun hn ad he => by
    have hlt := h.1.blk hn ad he
    have hsome : w.heap[ad.block]? = some w.heap[ad.block] := Array.getElem?_eq_getElem hlt
    rcases h.2 hn _ ⟨ad, he, rfl⟩ with h1 | ⟨cur, fz, h1⟩
    · rw [hk.2 _ _ hsome (.inl h1), hsome]
    · rw [hk.2 _ _ h1 (.inr (.inr ⟨_, _, _, rfl, by decide, by decide⟩)), h1]
  refine ⟨?_, fun hn k hkb => ?_⟩
  · obtain ⟨h1, h2, h3, h4, h5, h6⟩ := h.1
    refine ⟨h1, h2, h3, h4, h5, fun hn => ?_⟩
    obtain ⟨g, o, e, hg, hx⟩ := h6 hn
    exact ⟨g, o, e, by have := hk.1; omega, fun i hi => (World.cell?_of_block (a := ⟨g, o + i, none⟩) (hbl hn ⟨g, o, none⟩ e)).trans (hx i hi)⟩
  · rcases h.2 hn k hkb with h1 | ⟨cur, fz, h1⟩
    · exact .inl h1
    · obtain ⟨ad, he, rfl⟩ := hkb
      exact .inr ⟨cur, fz, (hbl hn ad he).trans h1⟩
theorem BsK.below {n0 : Nat} {w w' : World} {A : Option Addr} {n c : Nat} {xs : List Int} (h : BsK n0 w A n c xs) (hb : Below w.heap.size w w') : BsK n0 w' A n c xs := h.kp (KpT.below (N := 0) hb)
theorem BsR.bsk {n0 : Nat} {w : World} {A : Option Addr} {n c : Nat} {xs : List Int} (h : BsR w A n c xs) : BsK n0 w A n c xs := ⟨h.1, fun _ k hk => .inr (h.2 k hk)⟩
/-- What an append of one piece to a variable's list leaves. -/
theorem ColP.step {A A' : Option Addr} {n c n' c' : Nat} {q : Pc} {w2 : World} {N : Nat} (hb : Below w.heap.size w W) (r : Bk W 24 v [.slice A n c]) (qs : List Pc) (hn : n = qs.length) (hl : LstR 3 36 (fun k => w.heap.size ≤ k ∧ k ≠ v) W A n c (flat Pc.cl qs)) (hps : qs.map Pc.say = ps) (hqs : ∀ q ∈ qs, PcR W q)
    (hwv : w.heap.size ≤ v) (hq : PcR W q) (o : Obj) (hap : ApdR 3 36 (BlkOf A) (W.alloc o) (.slice A' n' c') (flat Pc.cl qs ++ q.cl) w2) :
    KpT w.heap.size N W (w2.setCell ⟨v, 0, none⟩ (.slice A' n' c')) ∧ KeepsOthers W (w2.setCell ⟨v, 0, none⟩ (.slice A' n' c')) ∧ ColP w v (ps ++ [q.say]) (w2.setCell ⟨v, 0, none⟩ (.slice A' n' c')) ∧
      ∀ t g vs, Bk W t g vs → t ≠ 36 → t ≠ 24 → Bk (w2.setCell ⟨v, 0, none⟩ (.slice A' n' c')) t g vs := by
  obtain ⟨⟨A2, n2, c2, he, hl'⟩, hst⟩ := hap
  injection he with e1 e2 e3
  subst e1 e2 e3
  have hA : ∀ k, BlkOf A k → w.heap.size ≤ k ∧ k ≠ v := by rintro k ⟨ad, he, rfl⟩; exact (hl.blk ad he).1
  have hba : Below W.heap.size W (W.alloc o) := (Below.refl _ _).alloc (Nat.le_refl _) _
  have hta := (hl.alloc o).tyd
  have htv := r.tyd
  have hDF : LstR 3 36 (fun k => w.heap.size ≤ k ∧ k ≠ v) w2 A' n' c' (flat Pc.cl qs ++ q.cl) := hl'.mono (by
    rintro k (hk | hk)
    · exact hA k hk
    · have := hba.size; have := hb.size; have := r.lt; omega)
  have hnb : ∀ k, BlkOf A k → ¬ Tyd 5 (W.alloc o) k := fun k hk => (hta k hk).ne (by decide)
  have hvA : ¬ BlkOf A v := fun hk => (hA v hk).2 rfl
  have hq2 : ∀ q', PcR W q' → PcR w2 q' := fun q' hq' => BsR.st (BsR.below hq' hba) hst hnb
  have hfar : ∀ q', PcR w2 q' → PcR (w2.setCell ⟨v, 0, none⟩ (.slice A' n' c')) q' := fun q' hq' => by
    have rv : Bk w2 24 v [.slice A n c] := (r.alloc o).st hst hvA
    refine BsR.keep hq' (by simp [World.setCell]) fun ad he => Below.heap_setCell _ _ _ _ ?_
    rintro rfl
    exact (rv.tyd.ne (by decide)) (hq'.2 _ ⟨ad, he, rfl⟩)
  have hfull : ∀ k o', W.heap[k]? = some o' → k ≠ v → ¬ BlkOf A k → (w2.setCell ⟨v, 0, none⟩ (.slice A' n' c')).heap[k]? = some o' := fun k o' ho hkv hkA => by
    have hk := (Array.getElem?_eq_some_iff.1 ho).1
    rw [Below.heap_setCell _ _ _ _ (by simpa using hkv), hst.block k (by have := hba.size; omega) hkA, hba.block k hk]
    exact ho
  have hAt : ∀ k, BlkOf A k → ∃ cur fz, W.heap[k]? = some (.cells cur 36 fz) := hl.tyd
  have hsz : W.heap.size ≤ (w2.setCell ⟨v, 0, none⟩ (.slice A' n' c')).heap.size := by have := hba.size; have := hst.size; simp [World.setCell]; omega
  refine ⟨⟨hsz, fun k o' ho hx => ?_⟩, ⟨hsz, fun k o' ho hc => ?_⟩, ⟨⟨?_, ?_, ?_, by have := hb.size; omega, fun k hk => ?_⟩, A', n', c', ?_, qs ++ [q], ?_, ?_, by rw [List.map_append, hps]; rfl, fun q' hq' => ?_⟩, fun t g vs hbk h1 h2 => ?_⟩
  · refine hfull k o' ho ?_ ?_
    · rintro rfl
      have r' : W.heap[k]? = _ := r
      rw [r'] at ho
      injection ho with ho
      subst ho
      rcases hx with h | ⟨_, h⟩ | ⟨cur, t, fz, h, _, h2⟩
      · omega
      · cases h
      · injection h with _ h; exact h2 h.symm
    · intro hkA
      obtain ⟨cur, fz, hc⟩ := hAt k hkA
      rw [hc] at ho
      injection ho with ho
      subst ho
      rcases hx with h | ⟨_, h⟩ | ⟨cur, t, fz, h, h1, _⟩
      · have := hA k hkA; omega
      · cases h
      · injection h with _ h; exact h1 h.symm
  · refine hfull k o' ho ?_ ?_
    · rintro rfl
      have r' : W.heap[k]? = _ := r
      rw [r'] at ho
      injection ho with ho
      subst ho
      cases hc
    · intro hkA
      obtain ⟨cur, fz, hc'⟩ := hAt k hkA
      rw [hc'] at ho
      injection ho with ho
      subst ho
      cases hc
  · exact hst.os.trans hb.os
  · exact hst.tape.trans hb.tape
  · exact hst.output.trans hb.output
  · have hkW : k < W.heap.size := by have := hb.size; omega
    rw [hfull k _ (Array.getElem?_eq_getElem hkW) (by omega) (fun hkA => by have := hA k hkA; omega), ← Array.getElem?_eq_getElem hkW]
    exact hb.block k hk
  · exact ((r.alloc o).st hst hvA).set 0 _
  · have := hl'.1
    rw [← flat_one (cl := Pc.cl), ← flat_app, flat_len Pc.cl_len] at this
    omega
  · rw [flat_app, flat_one]
    exact hDF.far (fun ad he hne => (hDF.blk ad he).1.2 hne) _
  · rcases List.mem_append.1 hq' with h | h
    · exact hfar _ (hq2 _ (hqs q' h))
    · obtain rfl : q' = q := by simpa using h
      exact hfar _ (hq2 _ hq)
  · refine hfull g _ hbk ?_ ?_
    · rintro rfl
      exact (hbk.tyd.ne h2) htv
    · intro hkA
      exact (hbk.tyd.ne h1) (hl.tyd g hkA)
end
end Go.Proofs.Ytmnmkolcffehhaa
