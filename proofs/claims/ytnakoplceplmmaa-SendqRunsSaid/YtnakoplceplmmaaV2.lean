/- Values: pieces, slots, what reads and what is a call's own; bytes cloned. -/
import Derived.Test.YtnakoplceplmmaaV1
set_option linter.unusedSimpArgs false
set_option linter.unusedVariables false
namespace Go.Proofs.Ytnakoplceplmmaa
open Go.RowKit Go.Shelf

/-- What a piece says. -/
structure Pp where
  xs : List Int
  en : Bool
  fn : Bool
/-- A piece as a value: its bytes' slice, what that reads, its two marks. -/
structure Pc where
  A : Option Addr
  n : Nat
  c : Nat
  xs : List Int
  en : Bool
  fn : Bool
def Pc.say (q : Pc) : Pp := ⟨q.xs, q.en, q.fn⟩
def Pc.cl (q : Pc) : List Value := [.slice q.A q.n q.c, .bool q.en, .bool q.fn]
theorem Pc.cl_len (q : Pc) : q.cl.length = 3 := rfl
theorem Pc.cl_one (q : Pc) : ∀ v ∈ q.cl, v.oneCell' = true := by
  intro v hv
  simp only [Pc.cl, List.mem_cons, List.not_mem_nil, or_false] at hv
  rcases hv with rfl | rfl | rfl <;> rfl
def zsC : List Value := [.slice none 0 0, .bool false, .bool false]
def zPc : Pc := ⟨none, 0, 0, [], false, false⟩
theorem eltC : EltS Try.prog 27 49 zsC 32 := ⟨rfl, by kernel_rfl, by intro v hv; exact zPc.cl_one v hv, by decide, by decide, ⟨_, rfl, by decide⟩, by decide⟩
theorem rowC : Row Try.prog 49 3 := eltC.row
/-- A slot: a piece, and whether it was acknowledged. -/
structure Sc where
  A : Option Addr
  n : Nat
  c : Nat
  xs : List Int
  en : Bool
  fn : Bool
  ak : Bool
def Sc.say (q : Sc) : Pp × Bool := (⟨q.xs, q.en, q.fn⟩, q.ak)
def Sc.cl (q : Sc) : List Value := [.slice q.A q.n q.c, .bool q.en, .bool q.fn, .bool q.ak]
def Sc.pc (q : Sc) : Pc := ⟨q.A, q.n, q.c, q.xs, q.en, q.fn⟩
theorem Sc.cl_len (q : Sc) : q.cl.length = 4 := rfl
theorem Sc.cl_one (q : Sc) : ∀ v ∈ q.cl, v.oneCell' = true := by
  intro v hv
  simp only [Sc.cl, List.mem_cons, List.not_mem_nil, or_false] at hv
  rcases hv with rfl | rfl | rfl | rfl <;> rfl
def zsS : List Value := [.slice none 0 0, .bool false, .bool false, .bool false]
theorem eltS : EltS Try.prog 61 70 zsS 40 := ⟨rfl, by kernel_rfl, by intro v hv; exact (⟨none, 0, 0, [], false, false, false⟩ : Sc).cl_one v hv, by decide, by decide, ⟨_, rfl, by decide⟩, by decide⟩
theorem rowS : Row Try.prog 70 4 := eltS.row
theorem rowQ : Row Try.prog 65 5 := ⟨⟨_, rfl, by decide⟩, by kernel_rfl⟩
theorem rowR : Row Try.prog 31 5 := ⟨⟨_, rfl, by decide⟩, by kernel_rfl⟩
theorem rowL : Row Try.prog 63 1 := ⟨⟨_, rfl, by decide⟩, by kernel_rfl⟩
theorem eltI : Elt Try.prog 29 3 (.int .i64 0) 8 := ⟨rfl, by kernel_rfl, rfl, rfl, by decide⟩
theorem eltO : Elt Try.prog 28 4 (.bool false) 1 := ⟨rfl, by kernel_rfl, rfl, rfl, by decide⟩
theorem eltB : Elt Try.prog 47 5 (.int .u8 0) 1 := ⟨rfl, by kernel_rfl, rfl, rfl, by decide⟩
theorem bytesT : Ints Try.prog 47 5 .u8 1 := ⟨Try.underlying47, by kernel_rfl⟩
def intV (xs : List Int) : List Value := xs.map (.int .i64)
theorem intV_len (xs : List Int) : (intV xs).length = xs.length := by simp [intV]
theorem intV_snoc (xs : List Int) (x : Int) : intV (xs ++ [x]) = intV xs ++ [.int .i64 x] := by simp [intV]
def booV (xs : List Bool) : List Value := xs.map .bool
theorem booV_len (xs : List Bool) : (booV xs).length = xs.length := by simp [booV]
theorem conv_any {W : World} {A : Option Addr} {l c : Nat} {xs : List Int} (h : Rd .u8 W A l c xs) : (convert 47 9 (.slice A l c)).run Try.prog W = .ok (.string (strOfNums xs)) W :=
  run_str Try.underlying47 Try.underlying5 h _ Try.underlying9
def eqS (xs ys : List Int) : Bool := (strOfNums xs).toList == (strOfNums ys).toList
theorem eqS_refl (xs : List Int) : eqS xs xs = true := by simp [eqS]
theorem below_on {w w1 w2 : World} (h : Below w.heap.size w w1) (k : Below w1.heap.size w1 w2) : Below w.heap.size w w2 := h.trans (k.mono h.size)
theorem clone_any (A : Option Addr) (n c : Nat) (xs : List Int) (w : World) (h : Rd .u8 w A n c xs) (hn : n ≤ 65536) :
    Calls Try.prog 43 #[.slice A n c] w fun e w' => ∃ v, e = .returned v ∧ Ow .u8 5 w.heap.size w' v xs ∧ Below w.heap.size w w' := by
  rcases A with _ | ad
  · have hc := h.2.2.2.1 rfl
    subst hc
    obtain rfl : n = 0 := by have := h.2.1; omega
    obtain rfl : xs = [] := List.eq_nil_of_length_eq_zero h.1
    have hq := Lib.run_eql_slice_nil (P := Try.prog) w 47 5 none 0 0 0 0 Try.underlying47
    go_enter Try.func43, Try.ntmps43
    go_wp2
    go_ret
    exact ⟨_, rfl, ⟨rfl, .inl ⟨rfl, rfl⟩⟩, Below.refl _ _⟩
  · have hq := Lib.run_eql_slice_nil (P := Try.prog) w 47 5 (some ad) n c 0 0 Try.underlying47
    go_enter Try.func43, Try.ntmps43
    go_wp2_with (first
      | (at_builtin
         go_must (refine wpList_append_ints bytesT rfl (.tmp 5) (.tmp 6) rfl rfl (w0 := w) (xs := []) ⟨rfl, .inr ⟨w.heap.size, 0, _, rfl, Nat.le_refl _, heap_alloc_new w _, Nat.le_refl _, by decide, by decide, rfl⟩⟩ rfl (h.alloc _) (by simp; omega) (by omega) ((Below.refl _ _).alloc (Nat.le_refl _) _) ?_)
         intro v1 w1 hown hb))
    go_ret
    exact ⟨_, rfl, by simpa using hown, hb⟩
/-! ### Blocks by their type -/
/-- Block k holds cells of type t. -/
def Tyd (t : TypeId) (w : World) (k : Nat) : Prop := ∃ cur fz, w.heap[k]? = some (.cells cur t fz)
theorem Tyd.ne {t u : TypeId} {w : World} {k : Nat} (h : Tyd t w k) (hne : t ≠ u) : ¬ Tyd u w k := by
  rintro ⟨cur, fz, h2⟩
  obtain ⟨cur', fz', h1⟩ := h
  rw [h1] at h2
  injection h2 with h2
  injection h2 with _ h3
  exact hne h3
theorem Bk.tyd {t : TypeId} {w : World} {k : Nat} {vs : List Value} (h : Bk w t k vs) : Tyd t w k := ⟨_, _, h⟩
theorem Lst.tyd {t : TypeId} {F : Nat → Prop} {w : World} {A : Option Addr} {n c : Nat} {cs : List Value} (h : Lst t F w A n c cs) : ∀ k, BlkOf A k → Tyd t w k := by
  rintro k ⟨ad, he, rfl⟩
  rcases h.2.2.2.2 with ⟨rfl, _⟩ | ⟨g, o, cur, rfl, _, hh, _⟩
  · cases he
  · injection he with he
    subst he
    exact ⟨cur, _, hh⟩
/-- A slice of bytes in a block of bytes. -/
def BsR (w : World) (A : Option Addr) (n c : Nat) (xs : List Int) : Prop := Rd .u8 w A n c xs ∧ ∀ k, BlkOf A k → Tyd 5 w k
section
variable {w w' : World} {A : Option Addr} {n c : Nat} {xs : List Int}
theorem BsR.lt (h : BsR w A n c xs) : ∀ k, BlkOf A k → k < w.heap.size := fun k hk => by
  obtain ⟨cur, fz, h1⟩ := h.2 k hk
  exact (Array.getElem?_eq_some_iff.1 h1).1
theorem BsR.keep (h : BsR w A n c xs) (hs : w.heap.size ≤ w'.heap.size) (hb : ∀ ad, A = some ad → w'.heap[ad.block]? = w.heap[ad.block]?) : BsR w' A n c xs := by
  refine ⟨?_, ?_⟩
  · obtain ⟨h1, h2, h3, h4, h5, h6⟩ := h.1
    refine ⟨h1, h2, h3, h4, h5, fun hn => ?_⟩
    obtain ⟨g, o, e, hg, hx⟩ := h6 hn
    exact ⟨g, o, e, by omega, fun i hi => (World.cell?_of_block (a := ⟨g, o + i, none⟩) (hb ⟨g, o, none⟩ e)).trans (hx i hi)⟩
  · rintro k ⟨ad, he, rfl⟩
    obtain ⟨cur, fz, ht⟩ := h.2 _ ⟨ad, he, rfl⟩
    exact ⟨cur, fz, (hb ad he).trans ht⟩
theorem BsR.below (h : BsR w A n c xs) (hb : Below w.heap.size w w') : BsR w' A n c xs := h.keep hb.size fun ad he => hb.block _ (h.lt _ ⟨ad, he, rfl⟩)
theorem BsR.st (h : BsR w A n c xs) {G : Nat → Prop} (hs : St G w w') (hG : ∀ k, BlkOf A k → ¬ G k) : BsR w' A n c xs := h.keep hs.size fun ad he => hs.block _ (h.lt _ ⟨ad, he, rfl⟩) (hG _ ⟨ad, he, rfl⟩)
theorem BsR.stT (h : BsR w A n c xs) {G : Nat → Prop} (hs : St G w w') (hG : ∀ k, G k → ¬ Tyd 5 w k) : BsR w' A n c xs := h.st hs fun k hk hg => hG k hg (h.2 k hk)
theorem BsR.own {base : Nat} (h : Ow .u8 5 base w (.slice A n c) xs) (hw : ∀ x ∈ xs, (Lit.int .u8 x).wf = true) : BsR w A n c xs ∧ ∀ k, BlkOf A k → base ≤ k := by
  obtain ⟨A', c', h1, h2⟩ := h.rd hw
  injection h1 with e1 e2 e3
  subst e1 e2 e3
  refine ⟨⟨h2, ?_⟩, ?_⟩
  · rintro k ⟨ad, rfl, rfl⟩
    rcases h.2 with ⟨h, _⟩ | ⟨g, cap, cur, hv, hg, hh, r⟩
    · cases h
    · injection hv with hv
      injection hv with hv
      subst hv
      exact ⟨_, _, hh⟩
  · rintro k ⟨ad, rfl, rfl⟩
    exact (World.ownsRow.lt h ad.block rfl).1
theorem BsR.nil (w : World) : BsR w none 0 0 [] := ⟨Rd.nil _ _, by rintro k ⟨ad, he, _⟩; cases he⟩
end

/-! ### What reads, and where it lies -/
/-- Values that read, in a block of X. -/
def RdX (X : Nat → Prop) (w : World) (A : Option Addr) (n c : Nat) (vs : List Value) : Prop := RdV w A n c vs ∧ (0 < n → ∀ k, BlkOf A k → X k)
/-- Pieces in a list that reads: the list and the bytes in blocks of X. -/
def SlX (X : Nat → Prop) (w : World) (A : Option Addr) (n c : Nat) (ps : List Pp) : Prop :=
  ∃ qs : List Pc, n = qs.length ∧ RdR 3 w A n c (flat Pc.cl qs) ∧ (0 < n → ∀ k, BlkOf A k → X k) ∧ qs.map Pc.say = ps ∧ ∀ q ∈ qs, Rd .u8 w q.A q.n q.c q.xs ∧ q.n ≤ 65536 ∧ (0 < q.n → ∀ k, BlkOf q.A k → X k)
/-- Slots in a list of F's, with bytes of F's. -/
def SlS (F : Nat → Prop) (w : World) (A : Option Addr) (n c : Nat) (ss : List (Pp × Bool)) : Prop :=
  ∃ qs : List Sc, n = qs.length ∧ LstR 4 70 F w A n c (flat Sc.cl qs) ∧ qs.map Sc.say = ss ∧ ∀ q ∈ qs, BsR w q.A q.n q.c q.xs ∧ q.n ≤ 65536 ∧ ∀ k, BlkOf q.A k → F k
section
variable {X X' F F' : Nat → Prop} {w w' : World} {A : Option Addr} {n c : Nat} {vs : List Value} {ps : List Pp} {ss : List (Pp × Bool)} {xs : List Int}
theorem blk_rd {k : IntKind} (h : Rd k w A n c xs) : 0 < n → ∀ j, BlkOf A j → j < w.heap.size := by
  rintro hn j ⟨ad, he, rfl⟩
  exact h.blk hn ad he
theorem RdX.st (h : RdX X w A n c vs) (hs : St F w w') (hX : ∀ k, X k → ¬ F k) : RdX X w' A n c vs :=
  ⟨h.1.st hs fun hn ad he => hX _ (h.2 hn _ ⟨ad, he, rfl⟩), h.2⟩
theorem RdX.below (h : RdX X w A n c vs) (hb : Below w.heap.size w w') : RdX X w' A n c vs := ⟨h.1.below hb, h.2⟩
theorem RdX.mono (h : RdX X w A n c vs) (hX : ∀ k, k < w.heap.size → X k → X' k) : RdX X' w A n c vs :=
  ⟨h.1, fun hn k hk => by obtain ⟨ad, he, rfl⟩ := hk; exact hX _ (h.1.blk hn ad he) (h.2 hn _ ⟨ad, he, rfl⟩)⟩
theorem RdX.nil (X : Nat → Prop) (w : World) : RdX X w none 0 0 [] := ⟨RdV.nil w, fun h => by omega⟩
theorem RdX.lst {e : TypeId} (h : Lst e F w A n c vs) : RdX F w A n c vs := ⟨h.rdv, by rintro hn k ⟨ad, he, rfl⟩; exact (h.blk ad he).1⟩
theorem SlX.st (h : SlX X w A n c ps) (hs : St F w w') (hX : ∀ k, X k → ¬ F k) : SlX X w' A n c ps := by
  obtain ⟨qs, h1, h2, h3, h4, h5⟩ := h
  exact ⟨qs, h1, h2.st hs fun hn ad he => hX _ (h3 hn _ ⟨ad, he, rfl⟩), h3, h4, fun q hq => ⟨(h5 q hq).1.st hs fun hn ad he => hX _ ((h5 q hq).2.2 hn _ ⟨ad, he, rfl⟩), (h5 q hq).2⟩⟩
theorem SlX.below (h : SlX X w A n c ps) (hb : Below w.heap.size w w') : SlX X w' A n c ps := by
  obtain ⟨qs, h1, h2, h3, h4, h5⟩ := h
  exact ⟨qs, h1, h2.below hb, h3, h4, fun q hq => ⟨(h5 q hq).1.below hb, (h5 q hq).2⟩⟩
theorem SlX.mono (h : SlX X w A n c ps) (hX : ∀ k, k < w.heap.size → X k → X' k) : SlX X' w A n c ps := by
  obtain ⟨qs, h1, h2, h3, h4, h5⟩ := h
  refine ⟨qs, h1, h2, ?_, h4, fun q hq => ⟨(h5 q hq).1, (h5 q hq).2.1, fun hn k hk => hX k (blk_rd (h5 q hq).1 hn k hk) ((h5 q hq).2.2 hn k hk)⟩⟩
  rintro hn k ⟨ad, he, rfl⟩
  exact hX _ (h2.blk hn ad he) (h3 hn _ ⟨ad, he, rfl⟩)
theorem SlX.len (h : SlX X w A n c ps) : ps.length = n := by
  obtain ⟨qs, h1, h2, h3, h4, h5⟩ := h
  rw [← h4, List.length_map, h1]
theorem SlX.cap (h : SlX X w A n c ps) : n ≤ c ∧ c ≤ maxLen := by
  obtain ⟨qs, h1, h2, h3, h4, h5⟩ := h
  exact ⟨h2.2.1, h2.2.2.1⟩
theorem SlX.nil (X : Nat → Prop) (w : World) : SlX X w none 0 0 [] := ⟨[], rfl, RdR.nil _ _, fun h => by omega, rfl, by simp⟩
theorem SlX.row (h : SlX X w A n c ps) {i : Nat} (hi : i < n) : ∃ (g o : Nat) (q : Pc), A = some ⟨g, o, none⟩ ∧ w.rangeAt g (o + i * 3) q.cl ∧ Rd .u8 w q.A q.n q.c q.xs ∧ q.n ≤ 65536 ∧ ps[i]? = some q.say ∧ g < w.heap.size ∧ (0 < q.n → ∀ k, BlkOf q.A k → X k) := by
  obtain ⟨qs, h1, h2, h3, h4, h5⟩ := h
  obtain ⟨g, o, hA, hg, hra⟩ := h2.range hi
  have hl : i < qs.length := by omega
  rw [flat_row Pc.cl_len qs i hl] at hra
  obtain ⟨k1, k2, k3⟩ := h5 _ (List.getElem_mem hl)
  exact ⟨g, o, qs[i], hA, hra, k1, k2, by rw [← h4, List.getElem?_map, List.getElem?_eq_getElem hl]; rfl, hg, k3⟩
theorem LstR.tyd {sz : Nat} {t : TypeId} {cs : List Value} (h : LstR sz t F w A n c cs) : ∀ k, BlkOf A k → Tyd t w k := by
  rintro k ⟨ad, he, rfl⟩
  rcases h.2.2.2.2 with ⟨rfl, _⟩ | ⟨g, o, cur, rfl, _, hh, _⟩
  · cases he
  · injection he with he
    subst he
    exact ⟨cur, _, hh⟩
theorem SlS.len (h : SlS F w A n c ss) : ss.length = n := by
  obtain ⟨qs, h1, h2, h3, h4⟩ := h
  rw [← h3, List.length_map, h1]
theorem SlS.cap (h : SlS F w A n c ss) : n ≤ c ∧ c ≤ maxLen := by
  obtain ⟨qs, h1, h2, h3, h4⟩ := h
  exact ⟨h2.2.1, h2.2.2.1⟩
theorem SlS.nil (F : Nat → Prop) (w : World) : SlS F w none 0 0 [] := ⟨[], rfl, LstR.nil _ _ _ _, rfl, by simp⟩
theorem SlS.mono (h : SlS F w A n c ss) (hF : ∀ k, k < w.heap.size → F k → F' k) : SlS F' w A n c ss := by
  obtain ⟨qs, h1, h2, h3, h4⟩ := h
  refine ⟨qs, h1, h2.tight.mono ?_, h3, fun q hq => ⟨(h4 q hq).1, (h4 q hq).2.1, fun k hk => hF k ((h4 q hq).1.lt k hk) ((h4 q hq).2.2 k hk)⟩⟩
  rintro k ⟨ad, he, rfl⟩
  exact hF _ (h2.blk ad he).2 (h2.blk ad he).1
theorem SlS.same (h : SlS F w A n c ss) (hs : w.heap.size ≤ w'.heap.size) (hb : ∀ k, F k → (Tyd 5 w k ∨ Tyd 70 w k) → w'.heap[k]? = w.heap[k]?) : SlS F w' A n c ss := by
  obtain ⟨qs, h1, h2, h3, h4⟩ := h
  refine ⟨qs, h1, h2.same fun ad he => hb _ (h2.blk ad he).1 (.inr (h2.tyd _ ⟨ad, he, rfl⟩)), h3, fun q hq => ?_⟩
  obtain ⟨k1, k2, k3⟩ := h4 q hq
  exact ⟨k1.keep hs fun ad he => hb _ (k3 _ ⟨ad, he, rfl⟩) (.inl (k1.2 _ ⟨ad, he, rfl⟩)), k2, k3⟩
theorem Tyd.lt {t : TypeId} {k : Nat} (h : Tyd t w k) : k < w.heap.size := by
  obtain ⟨cur, fz, h1⟩ := h
  exact (Array.getElem?_eq_some_iff.1 h1).1
theorem SlS.below (h : SlS F w A n c ss) (hb : Below w.heap.size w w') : SlS F w' A n c ss := h.same hb.size fun k _ ht => hb.block k (by rcases ht with h | h <;> exact h.lt)
theorem SlS.st (h : SlS F w A n c ss) {G : Nat → Prop} (hs : St G w w') (hG : ∀ k, F k → ¬ G k) : SlS F w' A n c ss := h.same hs.size fun k hf ht => hs.block k (by rcases ht with h | h <;> exact h.lt) (hG k hf)
/-- What is turned is neither bytes nor slots. -/
theorem SlS.stT (h : SlS F w A n c ss) {G : Nat → Prop} (hs : St G w w') (hG : ∀ k, G k → ¬ Tyd 5 w k ∧ ¬ Tyd 70 w k) : SlS F w' A n c ss := h.same hs.size fun k hf ht => hs.block k (by rcases ht with h | h <;> exact h.lt) (fun hg => by
  rcases ht with h | h
  · exact (hG k hg).1 h
  · exact (hG k hg).2 h)
/-- Slot i. -/
theorem SlS.row (h : SlS F w A n c ss) {i : Nat} (hi : i < n) : ∃ (g o : Nat) (q : Sc), A = some ⟨g, o, none⟩ ∧ F g ∧ g < w.heap.size ∧ w.rangeAt g (o + i * 4) q.cl ∧ BsR w q.A q.n q.c q.xs ∧ q.n ≤ 65536 ∧ ss[i]? = some q.say ∧ ∀ j, w.frozen? ⟨g, j, none⟩ = false := by
  obtain ⟨qs, h1, h2, h3, h4⟩ := h
  obtain ⟨g, o, hA, hg, hra⟩ := h2.rd.range hi
  have hl : i < qs.length := by omega
  rw [flat_row Sc.cl_len qs i hl] at hra
  obtain ⟨k1, k2, k3⟩ := h4 _ (List.getElem_mem hl)
  refine ⟨g, o, qs[i], hA, (h2.blk _ hA).1, hg, hra, k1, k2, by rw [← h3, List.getElem?_map, List.getElem?_eq_getElem hl]; rfl, fun j => ?_⟩
  rcases h2.2.2.2.2 with ⟨rfl, _⟩ | ⟨g', o', cur, rfl, hf, hh, hs, hx⟩
  · cases hA
  · injection hA with hA
    injection hA with e1 e2 e3
    subst e1
    simp [World.frozen?, hh]
/-- One cell of the list is written. -/
theorem LstR.set1 {sz : Nat} {e : TypeId} {g o : Nat} {cs : List Value} (h : LstR sz e F w (some ⟨g, o, none⟩) n c cs) {j : Nat} (hj : j < n * sz) {x : Value} (hx : x.oneCell' = true) : LstR sz e F (w.setCell ⟨g, o + j, none⟩ x) (some ⟨g, o, none⟩) n c (cs.set j x) := by
  obtain ⟨h1, h2, h3, h4, h5⟩ := h
  refine ⟨by simpa using h1, h2, h3, fun v hv => ?_, ?_⟩
  · rcases List.mem_or_eq_of_mem_set hv with h | h
    · exact h4 v h
    · exact h ▸ hx
  · rcases h5 with ⟨h, _⟩ | ⟨g', o', cur, hA, hf, hh, hs, hc⟩
    · cases h
    · injection hA with hA
      injection hA with e1 e2 e3
      subst e1 e2
      have hm : n * sz ≤ c * sz := Nat.mul_le_mul_right _ h2
      refine .inr ⟨g, o, cur.set! (o + j) x, rfl, hf, ?_, by simpa using hs, fun i hi => ?_⟩
      · simp [World.setCell, Array.getElem?_modify, hh]
      · simp only [Array.set!_eq_setIfInBounds, Array.getElem?_setIfInBounds]
        by_cases hji : j = i
        · subst hji
          rw [if_pos rfl, if_pos (by omega), List.getElem?_set_self (by omega)]
        · rw [if_neg (by omega), List.getElem?_set_ne (by omega)]
          exact hc i hi
def Sc.on (q : Sc) : Sc := ⟨q.A, q.n, q.c, q.xs, q.en, q.fn, true⟩
theorem flat_on : ∀ (qs : List Sc) (i : Nat) (hi : i < qs.length), (flat Sc.cl qs).set (i * 4 + 3) (.bool true) = flat Sc.cl (qs.set i qs[i].on)
  | [], i, hi => by simp at hi
  | q :: r, 0, hi => by simp [flat, Sc.cl, Sc.on]
  | q :: r, i + 1, hi => by
    have ih := flat_on r i (by simpa using hi)
    have e : flat Sc.cl (q :: r) = q.cl ++ flat Sc.cl r := by simp [flat]
    have e2 : flat Sc.cl ((q :: r).set (i + 1) (q :: r)[i + 1].on) = q.cl ++ flat Sc.cl (r.set i (r[i]'(by simpa using hi)).on) := by simp [flat]
    rw [e, e2, List.set_append_right _ _ (by simp [Sc.cl]; omega), ← ih]
    congr 2
    simp [Sc.cl]; omega
/-- Slot i is acknowledged. -/
theorem SlS.on {g o : Nat} (h : SlS F w (some ⟨g, o, none⟩) n c ss) {i : Nat} (hi : i < n) {p : Pp} {b : Bool} (hp : ss[i]? = some (p, b)) : SlS F (w.setCell ⟨g, o + i * 4 + 3, none⟩ (.bool true)) (some ⟨g, o, none⟩) n c (ss.set i (p, true)) := by
  obtain ⟨qs, h1, h2, h3, h4⟩ := h
  have hl : i < qs.length := by omega
  have h5 := h2.set1 (j := i * 4 + 3) (by omega) (x := .bool true) rfl
  rw [flat_on qs i hl, ← Nat.add_assoc] at h5
  have hbt := Tyd.ne (u := 5) (h2.tyd g ⟨_, rfl, rfl⟩) (by decide)
  have hq : qs[i].say = (p, b) := by
    rw [← h3, List.getElem?_map, List.getElem?_eq_getElem hl] at hp
    simpa using hp
  refine ⟨qs.set i qs[i].on, by simpa using h1, h5, ?_, fun q hq' => ?_⟩
  · rw [List.map_set, h3]
    congr 1
    simp only [Sc.say, Sc.on] at hq ⊢
    injection hq with hq1 hq2
    rw [hq1]
  · have hkeep : ∀ q : Sc, BsR w q.A q.n q.c q.xs → BsR (w.setCell ⟨g, o + i * 4 + 3, none⟩ (.bool true)) q.A q.n q.c q.xs := fun q hr => hr.stT (St.setCell (F := (· = g)) w (a := ⟨g, o + i * 4 + 3, none⟩) rfl _) fun k hk => hk ▸ hbt
    rcases List.mem_or_eq_of_mem_set hq' with h | h
    · exact ⟨hkeep q (h4 q h).1, (h4 q h).2⟩
    · subst h
      obtain ⟨k1, k2⟩ := h4 _ (List.getElem_mem hl)
      exact ⟨hkeep qs[i] k1, k2⟩
end
def samB (p q : Pp) : Bool := p.en == q.en && p.fn == q.fn && eqS p.xs q.xs
theorem samB_refl (p : Pp) : samB p p = true := by simp [samB, eqS_refl]
set_option maxHeartbeats 8000000 in
theorem r_same {w : World} {q r : Pc} (h : Rd .u8 w q.A q.n q.c q.xs) (k : Rd .u8 w r.A r.n r.c r.xs) :
    Calls Try.prog 22 #[.agg #[.slice q.A q.n q.c, .bool q.en, .bool q.fn], .agg #[.slice r.A r.n r.c, .bool r.en, .bool r.fn]] w fun e w' => e = .returned (.bool (samB q.say r.say)) ∧ Below w.heap.size w w' := by
  obtain ⟨A, n, c, xs, e1, f1⟩ := q
  obtain ⟨A1, n1, c1, ys, e2, f2⟩ := r
  unfold samB Pc.say eqS
  dsimp only at h k ⊢
  have q1 := fun o o' => conv_any ((h.alloc o).alloc o')
  have q2 := fun o o' => conv_any ((k.alloc o).alloc o')
  generalize strOfNums xs = sx at *
  generalize strOfNums ys = sy at *
  clear h k
  go_enter Try.func22, Try.ntmps22
  go_wp2
  all_goals
    go_ret
    exact ⟨by simp_all, by exact ((Below.refl _ _).alloc (Nat.le_refl _) _).alloc (by simp) _⟩
theorem range_below {w w1 : World} {g o : Nat} {cs : List Value} (h : w.rangeAt g o cs) (hg : g < w.heap.size) (hb : Below w.heap.size w w1) : w1.rangeAt g o cs := fun j v hv => (hb.cell (p := ⟨g, o + j, none⟩) hg).trans (h j v hv)
end Go.Proofs.Ytnakoplceplmmaa
