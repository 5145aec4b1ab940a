/- A list that is gathered in a variable, round by round. -/
import Derived.Test.YtdepbdmnkkkjlaaDoorItr
set_option linter.unusedSimpArgs false
set_option linter.unusedVariables false
namespace Go.Proofs.YtdepbdmnkkkjlaaDoor
open Go.RowKit Go.Shelf

/-- The list of a variable stays where what is no cells turns. -/
theorem Lst.own {e : TypeId} {F : Nat → Prop} {W W' : World} {A : Option Addr} {n c : Nat} {vs : List Value} {row : Option Nat} (h : Lst e F W A n c vs) (hw : W.grownBy W' row) (hr : ∀ r, row = some r → ∃ o : Obj, W.heap[r]? = some o ∧ o.isCells = false) : Lst e F W' A n c vs := by
  refine h.same fun ad he => hw.block _ (h.blk ad he).2 fun e => ?_
  obtain ⟨o, ho, hc⟩ := hr _ e.symm
  rcases h.2.2.2.2 with ⟨rfl, _⟩ | ⟨g, o', cur, rfl, _, hh, _⟩
  · cases he
  · injection he with he
    subst he
    rw [hh] at ho
    injection ho with ho
    subst ho
    cases hc
/-- Variable v holds a list of the loop's own, in memory from L on; what was there before the call (w) stays. -/
structure Col (t e : TypeId) (w : World) (L v : Nat) (ys : List Value) (W : World) : Prop where
  bel : Below w.heap.size w W
  sz : L ≤ W.heap.size
  ex : ∃ A n c, Bk W t v [.slice A n c] ∧ Lst e (L ≤ ·) W A n c ys
theorem Col.own {t e : TypeId} {w : World} {L v B : Nat} {ys : List Value} {W W' : World} {row : Option Nat} (h : Col t e w L v ys W) (hv : v < L) (hL : L ≤ B) (hwL : w.heap.size ≤ L) (hw : W.grownBy W' row)
    (hr : ∀ r, row = some r → B ≤ r ∧ ∃ o : Obj, W.heap[r]? = some o ∧ o.isCells = false) : Col t e w L v ys W' := by
  obtain ⟨h1, h2, A, n, c, h3, h4⟩ := h
  have hk : ∀ k, k < L → k < W.heap.size → W'.heap[k]? = W.heap[k]? := fun k hk hs => hw.block k hs (fun e => by have := (hr _ e.symm).1; omega)
  exact ⟨⟨hw.os.trans h1.os, hw.tape.trans h1.tape, hw.output.trans h1.output, Nat.le_trans h1.size hw.size, fun k hk' => (hk k (by omega) (by have := h1.size; omega)).trans (h1.block k hk')⟩, Nat.le_trans h2 hw.size, A, n, c, (hk v hv h3.lt).trans h3, h4.own hw fun r e => (hr r e).2⟩
/-- What an append to a variable's list leaves. -/
theorem Col.step0 {t e : TypeId} {L v : Nat} {xs ys : List Value} {W w2 : World} {A A' : Option Addr} {n c n' c' : Nat} (hs : L ≤ W.heap.size) (r : Bk W t v [.slice A n c]) (hl : Lst e (L ≤ ·) W A n c xs) (hv : v < L) (o : Obj)
    (hap : Apd e (BlkOf A) (W.alloc o) (.slice A' n' c') ys w2) :
    KeepsOthers W (w2.setCell ⟨v, 0, none⟩ (.slice A' n' c')) ∧ St (fun k => k = v ∨ L ≤ k) W (w2.setCell ⟨v, 0, none⟩ (.slice A' n' c')) ∧
      Bk (w2.setCell ⟨v, 0, none⟩ (.slice A' n' c')) t v [.slice A' n' c'] ∧ Lst e (L ≤ ·) (w2.setCell ⟨v, 0, none⟩ (.slice A' n' c')) A' n' c' ys := by
  obtain ⟨⟨A2, n2, c2, he, hl'⟩, hst⟩ := hap
  injection he with e1 e2 e3
  subst e1 e2 e3
  have hA : ∀ k, BlkOf A k → L ≤ k := by rintro k ⟨ad, he, rfl⟩; exact (hl.blk ad he).1
  have hba : Below W.heap.size W (W.alloc o) := (Below.refl _ _).alloc (Nat.le_refl _) _
  have hla := hl.alloc o
  have hDF : Lst e (L ≤ ·) w2 A' n' c' ys := hl'.mono (by
    rintro k (hk | hk)
    · exact hA k hk
    · have := hba.size; omega)
  have hsta : St (fun k => k = v ∨ L ≤ k) W w2 := (St.ext hba).trans (hst.mono (F' := fun k => k = v ∨ L ≤ k) (fun k _ hk => .inr (hA k hk))) (Gr.refl _ _)
  have hvA : ¬ BlkOf A v := fun h => by have := hA v h; omega
  have r2 : Bk w2 t v [.slice A n c] := (r.alloc o).st hst hvA
  have hst3 : St (fun k => k = v ∨ L ≤ k) W (w2.setCell ⟨v, 0, none⟩ (.slice A' n' c')) := hsta.trans (St.setCell (F := fun k => k = v ∨ L ≤ k) w2 (a := ⟨v, 0, none⟩) (.inl rfl) _) (Gr.refl _ _)
  refine ⟨?_, hst3, r2.set 0 _, hDF.far (fun ad he hne => by have := (hDF.blk ad he).1; simp at hne; omega) _⟩
  refine (keepsOthers_of hba).trans (KeepsOthers.trans ⟨hst.size, fun k o ho hc => ?_⟩ (KeepsOthers.setCell _ _ _))
  rw [hst.block k (Array.getElem?_eq_some_iff.1 ho).1 ?_]
  · exact ho
  · rintro ⟨ad, rfl, rfl⟩
    rcases hla.2.2.2.2 with ⟨h, _⟩ | ⟨g', o', cur, h, _, hh, _⟩
    · cases h
    · injection h with h
      subst h
      rw [hh] at ho
      injection ho with ho
      subst ho
      cases hc
/-- The same, of the variable of a call that turns nothing that was there. -/
theorem Col.step {t e : TypeId} {w : World} {L v : Nat} {xs ys : List Value} {W w2 : World} {A A' : Option Addr} {n c n' c' : Nat} (hb : Below w.heap.size w W) (hs : L ≤ W.heap.size) (r : Bk W t v [.slice A n c]) (hl : Lst e (L ≤ ·) W A n c xs) (hv : v < L) (hwv : w.heap.size ≤ v) (o : Obj)
    (hap : Apd e (BlkOf A) (W.alloc o) (.slice A' n' c') ys w2) :
    KeepsOthers W (w2.setCell ⟨v, 0, none⟩ (.slice A' n' c')) ∧ St (fun k => k = v ∨ L ≤ k) W (w2.setCell ⟨v, 0, none⟩ (.slice A' n' c')) ∧ Col t e w L v ys (w2.setCell ⟨v, 0, none⟩ (.slice A' n' c')) := by
  obtain ⟨h1, h2, h3, h4⟩ := Col.step0 hs r hl hv o hap
  refine ⟨h1, h2, ⟨hb.trans (h2.below hb.size ?_), Nat.le_trans hs h2.size, A', n', c', h3, h4⟩⟩
  rintro k (rfl | hk)
  · exact hwv
  · omega
/-- The mark of the loop is shut: what is there is as it was. -/
theorem Col.shut {t e : TypeId} {w : World} {L v D : Nat} {ys : List Value} {W : World} {A : Option Addr} {n c : Nat} (hb : Below w.heap.size w W) (hl : Lst e (L ≤ ·) W A n c ys) (hK : W.heap[D]? = some (.deferred (some []))) (hD : w.heap.size ≤ D) (hwL : w.heap.size ≤ L) (q : Nat) :
    Made e ys w (.returned (.slice A n c)) ((W.drewN q).putObj D (.deferred none)) := by
  refine ⟨A, n, c, rfl, ?_, ?_⟩
  · refine (hl.mono (F' := (w.heap.size ≤ ·)) fun k hk => Nat.le_trans hwL hk).same fun ad he => ?_
    show (((W.drewN q).putObj D (.deferred none)).heap[ad.block]? = W.heap[ad.block]?)
    rw [World.putObj_heap_other]
    · rfl
    · rintro rfl
      rcases hl.2.2.2.2 with ⟨rfl, _⟩ | ⟨g', o', cur, rfl, _, hh, _⟩
      · cases he
      · injection he with he
        subst he
        rw [hh] at hK
        cases hK
  · refine ⟨hb.os, hb.tape, hb.output, by have := hb.size; simp [World.putObj]; omega, fun k hk => ?_⟩
    rw [World.putObj_heap_other (by omega)]
    exact hb.block k hk
theorem Col.shut0 {t e : TypeId} {w : World} {L v D : Nat} {ys : List Value} {W : World} {A : Option Addr} {n c : Nat} (hb : Below w.heap.size w W) (hl : Lst e (L ≤ ·) W A n c ys) (hK : W.heap[D]? = some (.deferred (some []))) (hD : w.heap.size ≤ D) (hwL : w.heap.size ≤ L) :
    Made e ys w (.returned (.slice A n c)) (W.putObj D (.deferred none)) := Col.shut (t := t) (v := v) hb hl hK hD hwL 0
/-! ### Two lists that are gathered side by side -/
theorem keeps_apd {e : TypeId} {w w' : World} {A : Option Addr} {n c : Nat} {vs us : List Value} {v : Value} (h : Lst e (BlkOf A) w A n c vs) (hst : St (BlkOf A) w w') : KeepsOthers w w' := by
  refine ⟨hst.size, fun k o ho hc => (hst.block k (Array.getElem?_eq_some_iff.1 ho).1 ?_).trans ho⟩
  rintro ⟨ad, rfl, rfl⟩
  rcases h.2.2.2.2 with ⟨h, _⟩ | ⟨g', o', cur, h, _, hh, _⟩
  · cases h
  · injection h with h
    subst h
    rw [hh] at ho
    injection ho with ho
    subst ho
    cases hc
/-- Two lists of the call's own, apart; all below L stays. -/
structure Two (L : Nat) (e1 e2 : TypeId) (A1 : Option Addr) (n1 c1 : Nat) (xs : List Value) (A2 : Option Addr) (n2 c2 : Nat) (ys : List Value) (W0 W : World) : Prop where
  l1 : Lst e1 (L ≤ ·) W A1 n1 c1 xs
  l2 : Lst e2 (L ≤ ·) W A2 n2 c2 ys
  sep : Sep (BlkOf A1) (BlkOf A2)
  sz : L ≤ W0.heap.size
  bel : Below L W0 W
  kp : KeepsOthers W0 W
section
variable {L : Nat} {e1 e2 : TypeId} {A1 A2 : Option Addr} {n1 c1 n2 c2 : Nat} {xs ys us : List Value} {W0 W W' : World} {v : Value}
theorem Two.next (h : Two L e1 e2 A1 n1 c1 xs A2 n2 c2 ys W0 W) (hb : Below W.heap.size W W') : Two L e1 e2 A1 n1 c1 xs A2 n2 c2 ys W0 W' :=
  ⟨h.l1.below hb, h.l2.below hb, h.sep, h.sz, h.bel.trans (hb.mono (Nat.le_trans h.sz h.bel.size)), h.kp.trans (keepsOthers_of hb)⟩
theorem Two.alloc (h : Two L e1 e2 A1 n1 c1 xs A2 n2 c2 ys W0 W) (o : Obj) : Two L e1 e2 A1 n1 c1 xs A2 n2 c2 ys W0 (W.alloc o) := h.next ((Below.refl _ _).alloc (Nat.le_refl _) o)
theorem Two.app1 (h : Two L e1 e2 A1 n1 c1 xs A2 n2 c2 ys W0 W) (ha : Apd e1 (BlkOf A1) W v us W') : ∃ A n c, v = .slice A n c ∧ Two L e1 e2 A n c us A2 n2 c2 ys W0 W' ∧ Below L W W' := by
  obtain ⟨⟨A, n, c, rfl, hl⟩, hst⟩ := ha
  have hL := Nat.le_trans h.sz h.bel.size
  have hA : ∀ k, BlkOf A1 k → L ≤ k := by rintro k ⟨ad, he, rfl⟩; exact (h.l1.blk ad he).1
  have hb := hst.below hL hA
  refine ⟨A, n, c, rfl, ⟨hl.mono (fun k hk => ?_), h.l2.tight.st hst h.sep.symm |>.mono (fun k hk => by obtain ⟨ad, he, rfl⟩ := hk; exact (h.l2.blk ad he).1), h.sep.gr hl.gr h.l2.lt, h.sz, h.bel.trans hb, h.kp.trans (keeps_apd (us := us) (v := .slice A n c) h.l1.tight hst)⟩, hb⟩
  rcases hk with hk | hk
  · exact hA k hk
  · omega
theorem Two.swap (h : Two L e1 e2 A1 n1 c1 xs A2 n2 c2 ys W0 W) : Two L e2 e1 A2 n2 c2 ys A1 n1 c1 xs W0 W := ⟨h.l2, h.l1, h.sep.symm, h.sz, h.bel, h.kp⟩
theorem Two.app2 (h : Two L e1 e2 A1 n1 c1 xs A2 n2 c2 ys W0 W) (ha : Apd e2 (BlkOf A2) W v us W') : ∃ A n c, v = .slice A n c ∧ Two L e1 e2 A1 n1 c1 xs A n c us W0 W' ∧ Below L W W' := by
  obtain ⟨A, n, c, he, h2, hb⟩ := h.swap.app1 ha
  exact ⟨A, n, c, he, h2.swap, hb⟩
/-- The lists go into their variables. -/
theorem Two.stored {t1 t2 : TypeId} {v1 v2 : Nat} {x1 x2 : Value} (h : Two L e1 e2 A1 n1 c1 xs A2 n2 c2 ys W0 W) (r1 : Bk W0 t1 v1 [x1]) (r2 : Bk W0 t2 v2 [x2]) (h1 : v1 < L) (h2 : v2 < L) (hne : v1 ≠ v2) :
    KeepsOthers W0 ((W.setCell ⟨v1, 0, none⟩ (.slice A1 n1 c1)).setCell ⟨v2, 0, none⟩ (.slice A2 n2 c2)) ∧ St (fun k => k = v1 ∨ k = v2 ∨ L ≤ k) W0 ((W.setCell ⟨v1, 0, none⟩ (.slice A1 n1 c1)).setCell ⟨v2, 0, none⟩ (.slice A2 n2 c2)) ∧
    Bk ((W.setCell ⟨v1, 0, none⟩ (.slice A1 n1 c1)).setCell ⟨v2, 0, none⟩ (.slice A2 n2 c2)) t1 v1 [.slice A1 n1 c1] ∧ Bk ((W.setCell ⟨v1, 0, none⟩ (.slice A1 n1 c1)).setCell ⟨v2, 0, none⟩ (.slice A2 n2 c2)) t2 v2 [.slice A2 n2 c2] ∧
    Lst e1 (L ≤ ·) ((W.setCell ⟨v1, 0, none⟩ (.slice A1 n1 c1)).setCell ⟨v2, 0, none⟩ (.slice A2 n2 c2)) A1 n1 c1 xs ∧ Lst e2 (L ≤ ·) ((W.setCell ⟨v1, 0, none⟩ (.slice A1 n1 c1)).setCell ⟨v2, 0, none⟩ (.slice A2 n2 c2)) A2 n2 c2 ys := by
  have hL : ∀ {e : TypeId} {A : Option Addr} {n c : Nat} {ls : List Value}, Lst e (L ≤ ·) W A n c ls → Lst e (L ≤ ·) ((W.setCell ⟨v1, 0, none⟩ (.slice A1 n1 c1)).setCell ⟨v2, 0, none⟩ (.slice A2 n2 c2)) A n c ls :=
    fun hl => (hl.far (fun ad he => by have := (hl.blk ad he).1; simp; omega) _).far (fun ad he => by have := (hl.blk ad he).1; simp; omega) _
  have hst : St (fun k => k = v1 ∨ k = v2 ∨ L ≤ k) W0 W := ⟨h.bel.os, h.bel.tape, h.bel.output, h.bel.size, fun k hk hn => h.bel.block k (by omega)⟩
  exact ⟨(h.kp.trans (KeepsOthers.setCell _ _ _)).trans (KeepsOthers.setCell _ _ _), (hst.trans (St.setCell (F := fun k => k = v1 ∨ k = v2 ∨ L ≤ k) W (a := ⟨v1, 0, none⟩) (.inl rfl) _) (Gr.refl _ _)).trans (St.setCell (F := fun k => k = v1 ∨ k = v2 ∨ L ≤ k) _ (a := ⟨v2, 0, none⟩) (.inr (.inl rfl)) _) (Gr.refl _ _),
    ((r1.keep h.bel h1).set 0 _).far hne _, ((r2.keep h.bel h2).far (Ne.symm hne) _).set 0 _, hL h.l1, hL h.l2⟩
end
end Go.Proofs.YtdepbdmnkkkjlaaDoor
