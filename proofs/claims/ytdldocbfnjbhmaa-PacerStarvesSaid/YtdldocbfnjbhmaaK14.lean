/- The document's pacer: its lists; a key found, told of; a queue without a key; two queues held against each other. -/
import Derived.Test.YtdldocbfnjbhmaaK13
set_option linter.unusedSimpArgs false
set_option linter.unusedVariables false
set_option maxRecDepth 100000
namespace Go.Proofs.Ytdldocbfnjbhmaa
open Go.RowKit Go.Shelf
theorem rkey_equal (a b : Ky) (w : World) : (Op.equalIn 10000 35 (.agg #[.int .i64 a.s, .int .i64 a.c]) (.agg #[.int .i64 b.s, .int .i64 b.c])).run Try.prog w = .ok (decide (a = b)) w := by
  have ht : Try.prog.underlying 35 = some (.struct (Try.prog.fieldsOf 35)) := by kernel_rfl
  have hp : Try.prog.stoodInHeld 35 = false := by kernel_rfl
  have hf : (Try.prog.fieldsOf 35).toList.map (fun f => (f.name, f.type, f.offset)) = [("Src", 3, 0), ("Conn", 3, 1)] := by kernel_rfl
  have hi : Try.prog.underlying 3 = some (.int .i64) := rfl
  rw [run_equalIn_struct w 9999 35 _ _ ht hp]
  generalize (Try.prog.fieldsOf 35).toList = fs at hf
  obtain ⟨f1, f2, rfl⟩ : ∃ f1 f2, fs = [f1, f2] := by
    have hl := congrArg List.length hf
    cases fs with
    | nil => simp at hl
    | cons f1 fs =>
      cases fs with
      | nil => simp at hl
      | cons f2 fs =>
        cases fs with
        | nil => exact ⟨f1, f2, rfl⟩
        | cons f3 fs => simp at hl
  simp only [List.map_cons, List.map_nil, List.cons.injEq, Prod.mk.injEq, and_true] at hf
  obtain ⟨⟨n1, t1, o1⟩, n2, t2, o2⟩ := hf
  have hag : ∀ W, (isAgg 3).run Try.prog W = .ok false W := by
    intro W; unfold isAgg; rw [Sem.run_bind, run_underlying hi W]; rfl
  have hE : ∀ (x y : Int) W, (Op.equalIn 9999 3 (.int .i64 x) (.int .i64 y)).run Try.prog W = .ok (x == y) W := fun x y W => run_equalIn_int W 9998 _ _ _ x y hi
  simp only [Op.eqFields, n1, n2, t1, t2, o1, o2, part, Sem.run_bind, hag, Result.andThen_ok]
  by_cases h1 : a.s = b.s <;> by_cases h2 : a.c = b.c <;> simp [h1, h2, Ky.eq_iff, hE]
theorem rkey_eql (a b : Ky) (w : World) : (binOp .eql 35 (.agg #[.int .i64 a.s, .int .i64 a.c]) (.agg #[.int .i64 b.s, .int .i64 b.c])).run Try.prog w = .ok (.bool (decide (a = b))) w := by
  rw [run_eql_struct, rkey_equal]
  rfl
theorem rkey_neq (a b : Ky) (w : World) : (binOp .neq 35 (.agg #[.int .i64 a.s, .int .i64 a.c]) (.agg #[.int .i64 b.s, .int .i64 b.c])).run Try.prog w = .ok (.bool (!decide (a = b))) w := by
  rw [run_neq_struct, rkey_equal]
  rfl
theorem rowR : Row Try.prog 30 6 := ⟨⟨_, rfl, by decide⟩, by kernel_rfl⟩
/-- A list of the document's, read; its block is one of X. -/
def LkN (X : Nat → Prop) (w : World) (A : Option Addr) (n c : Nat) (L : List Kn) : Prop := n = L.length ∧ RdR 5 w A n c (flat Kn.cl L) ∧ ∀ ad, A = some ad → X ad.block ∧ ad.block < w.heap.size
def LkK (X : Nat → Prop) (w : World) (A : Option Addr) (n c : Nat) (q : List Ky) : Prop := n = q.length ∧ RdR 2 w A n c (flat Ky.cl q) ∧ ∀ ad, A = some ad → X ad.block ∧ ad.block < w.heap.size
/-- The slices of the document's pacer. -/
structure Rv where
  A : Option Addr
  n : Nat
  c : Nat
  B : Option Addr
  k : Nat
  d : Nat
  C : Option Addr
  r : Nat
  e : Nat
structure RpR (X : Nat → Prop) (w : World) (v : Rv) (m : Pm) : Prop where
  l : LkN X w v.A v.n v.c m.L
  p : LkK X w v.B v.k v.d m.q0
  u : LkK X w v.C v.r v.e m.q1
section
variable {X X' F : Nat → Prop} {w w' : World} {A B : Option Addr} {n c k d : Nat} {L : List Kn} {q : List Ky} {v : Rv} {m : Pm}
theorem LkN.st (h : LkN X w A n c L) (hs : St F w w') (hX : ∀ j, X j → ¬ F j) : LkN X w' A n c L := ⟨h.1, h.2.1.st hs fun _ ad he => hX _ (h.2.2 ad he).1, fun ad he => ⟨(h.2.2 ad he).1, Nat.lt_of_lt_of_le (h.2.2 ad he).2 hs.size⟩⟩
theorem LkK.st (h : LkK X w A n c q) (hs : St F w w') (hX : ∀ j, X j → ¬ F j) : LkK X w' A n c q := ⟨h.1, h.2.1.st hs fun _ ad he => hX _ (h.2.2 ad he).1, fun ad he => ⟨(h.2.2 ad he).1, Nat.lt_of_lt_of_le (h.2.2 ad he).2 hs.size⟩⟩
theorem LkN.below (h : LkN X w A n c L) (hb : Below w.heap.size w w') : LkN X w' A n c L := ⟨h.1, h.2.1.below hb, fun ad he => ⟨(h.2.2 ad he).1, Nat.lt_of_lt_of_le (h.2.2 ad he).2 hb.size⟩⟩
theorem LkK.below (h : LkK X w A n c q) (hb : Below w.heap.size w w') : LkK X w' A n c q := ⟨h.1, h.2.1.below hb, fun ad he => ⟨(h.2.2 ad he).1, Nat.lt_of_lt_of_le (h.2.2 ad he).2 hb.size⟩⟩
theorem LkN.mono (h : LkN X w A n c L) (hX : ∀ j, X j → X' j) : LkN X' w A n c L := ⟨h.1, h.2.1, fun ad he => ⟨hX _ (h.2.2 ad he).1, (h.2.2 ad he).2⟩⟩
theorem LkK.mono (h : LkK X w A n c q) (hX : ∀ j, X j → X' j) : LkK X' w A n c q := ⟨h.1, h.2.1, fun ad he => ⟨hX _ (h.2.2 ad he).1, (h.2.2 ad he).2⟩⟩
theorem LkN.nil (X : Nat → Prop) (w : World) : LkN X w none 0 0 [] := ⟨rfl, RdR.nil 5 w, by simp⟩
theorem LkK.nil (X : Nat → Prop) (w : World) : LkK X w none 0 0 [] := ⟨rfl, RdR.nil 2 w, by simp⟩
theorem LkN.row (h : LkN X w A n c L) {i : Nat} {x : Kn} (hx : L[i]? = some x) : ∃ g o, A = some ⟨g, o, none⟩ ∧ g < w.heap.size ∧ w.rangeAt g (o + i * 5) x.cl := by
  have hi := (List.getElem?_eq_some_iff.1 hx).1
  obtain ⟨g, o, e, hg, hr⟩ := h.2.1.range (i := i) (by rw [h.1]; exact hi)
  rw [flat_row Kn.cl_len L i hi] at hr
  rw [List.getElem?_eq_getElem hi] at hx
  injection hx with hx
  exact ⟨g, o, e, hg, hx ▸ hr⟩
theorem LkK.row (h : LkK X w A n c q) {i : Nat} {x : Ky} (hx : q[i]? = some x) : ∃ g o, A = some ⟨g, o, none⟩ ∧ g < w.heap.size ∧ w.rangeAt g (o + i * 2) x.cl := by
  have hi := (List.getElem?_eq_some_iff.1 hx).1
  obtain ⟨g, o, e, hg, hr⟩ := h.2.1.range (i := i) (by rw [h.1]; exact hi)
  rw [flat_row Ky.cl_len q i hi] at hr
  rw [List.getElem?_eq_getElem hi] at hx
  injection hx with hx
  exact ⟨g, o, e, hg, hx ▸ hr⟩
theorem RpR.st (h : RpR X w v m) (hs : St F w w') (hX : ∀ j, X j → ¬ F j) : RpR X w' v m := ⟨h.l.st hs hX, h.p.st hs hX, h.u.st hs hX⟩
theorem RpR.below (h : RpR X w v m) (hb : Below w.heap.size w w') : RpR X w' v m := ⟨h.l.below hb, h.p.below hb, h.u.below hb⟩
theorem RpR.mono (h : RpR X w v m) (hX : ∀ j, X j → X' j) : RpR X' w v m := ⟨h.l.mono hX, h.p.mono hX, h.u.mono hX⟩
/-- What there is lies below the heap's end. -/
theorem RpR.low (h : RpR X w v m) : RpR (fun j => X j ∧ j < w.heap.size) w v m :=
  ⟨⟨h.l.1, h.l.2.1, fun ad he => ⟨h.l.2.2 ad he, (h.l.2.2 ad he).2⟩⟩, ⟨h.p.1, h.p.2.1, fun ad he => ⟨h.p.2.2 ad he, (h.p.2.2 ad he).2⟩⟩, ⟨h.u.1, h.u.2.1, fun ad he => ⟨h.u.2.2 ad he, (h.u.2.2 ad he).2⟩⟩⟩
theorem range_below {w w1 : World} {g o : Nat} {cs : List Value} (h : w.rangeAt g o cs) (hg : g < w.heap.size) (hb : Below w.heap.size w w1) : w1.rangeAt g o cs := fun j v hv => (hb.cell (p := ⟨g, o + j, none⟩) hg).trans (h j v hv)
/-- What an append to a list just made leaves. -/
theorem apd_fresh {sz : Nat} {e : TypeId} {cs : List Value} {u : Value} {w2 : World} (h : ApdR sz e (BlkOf (some ⟨w.heap.size, 0, none⟩)) (w.alloc (.cells #[] e)) u cs w2) :
    ∃ A n c, u = .slice A n c ∧ LstR sz e (w.heap.size ≤ ·) w2 A n c cs ∧ Below w.heap.size w w2 := by
  obtain ⟨⟨A, n, c, rfl, hl⟩, hst⟩ := h
  refine ⟨A, n, c, rfl, hl.mono ?_, ?_⟩
  · rintro k (⟨ad, he, rfl⟩ | hk)
    · injection he with he; subst he; exact Nat.le_refl _
    · simp at hk; omega
  · refine ((Below.refl _ w).alloc (Nat.le_refl _) (.cells #[] e)).trans (hst.below (by simp) ?_)
    rintro k ⟨ad, he, rfl⟩
    injection he with he; subst he; exact Nat.le_refl _
theorem apd_next {sz Bd : Nat} {e : TypeId} {cs cs' : List Value} {u : Value} {o : Obj} {w2 : World} (hl : LstR sz e (Bd ≤ ·) w A n c cs) (hB : Bd ≤ w.heap.size) (h : ApdR sz e (BlkOf A) (w.alloc o) u cs' w2) :
    ∃ A' n' c', u = .slice A' n' c' ∧ LstR sz e (Bd ≤ ·) w2 A' n' c' cs' ∧ Below Bd w w2 := by
  obtain ⟨⟨A', n', c', rfl, hl'⟩, hst⟩ := h
  refine ⟨A', n', c', rfl, hl'.mono ?_, ?_⟩
  · rintro k (⟨ad, he, rfl⟩ | hk)
    · exact (hl.blk ad he).1
    · simp at hk; omega
  · refine ((Below.refl _ w).alloc hB o).trans (hst.below (by simp; omega) ?_)
    rintro k ⟨ad, he, rfl⟩
    exact (hl.blk ad he).1
theorem fresh_lst (sz : Nat) (w : World) (e : TypeId) : LstR sz e (BlkOf (some ⟨w.heap.size, 0, none⟩)) (w.alloc (.cells #[] e)) (some ⟨w.heap.size, 0, none⟩) 0 0 [] :=
  (LstR.made sz w e #[] 0 0 [] (by simp) (Nat.le_refl _) (by simp) (Nat.zero_le _) (by simp) (by simp)).tight
theorem LkN.of {Bd : Nat} {e : TypeId} (h : LstR 5 e (Bd ≤ ·) w A n c (flat Kn.cl L)) (hX : ∀ j, Bd ≤ j → X j) : LkN X w A n c L :=
  ⟨by have e1 : _ = n * 5 := h.1; rw [flat_len Kn.cl_len] at e1; omega, h.rd, fun ad he => ⟨hX _ (h.blk ad he).1, (h.blk ad he).2⟩⟩
theorem LkK.of {Bd : Nat} {e : TypeId} (h : LstR 2 e (Bd ≤ ·) w A n c (flat Ky.cl q)) (hX : ∀ j, Bd ≤ j → X j) : LkK X w A n c q :=
  ⟨by have e1 : _ = n * 2 := h.1; rw [flat_len Ky.cl_len] at e1; omega, h.rd, fun ad he => ⟨hX _ (h.blk ad he).1, (h.blk ad he).2⟩⟩

theorem r_may (k : Ky) (w : World) : Calls Try.prog 51 #[.agg #[.int .i64 k.s, .int .i64 k.c]] w fun e w' => e = .returned (.bool (validB k)) ∧ Below w.heap.size w w' := by
  have hb : Below w.heap.size w (w.alloc (.cells #[.int .i64 k.s, .int .i64 k.c] 35)) := (Below.refl _ w).alloc (Nat.le_refl _) _
  have HV := Lib.hid (show validB k = decide (0 ≤ k.s ∧ k.s < 8 ∧ 1 ≤ k.c ∧ k.c ≤ 1073741824) from rfl)
  generalize validB k = v at *
  rcases (by omega : 0 ≤ k.s ∨ k.s < 0) with h1 | h1 <;> rcases (by omega : k.s ≤ 7 ∨ 7 < k.s) with h2 | h2 <;> rcases (by omega : 1 ≤ k.c ∨ k.c < 1) with h3 | h3 <;> rcases (by omega : k.c ≤ 1073741824 ∨ 1073741824 < k.c) with h4 | h4
  all_goals
    go_enter Try.func51, Try.ntmps51
    go_wp2
    all_goals
      first
        | exact absurd h1 (by omega)
        | (go_ret
           refine ⟨congrArg (fun b => Ending.returned (Value.bool b)) ?_, hb⟩
           rw [HV.out]
           first
             | (symm; exact decide_eq_true (by omega))
             | (symm; exact decide_eq_false (by omega))
             | (exact decide_eq_decide.2 (by constructor <;> omega)))
def ixI (L : List Kn) (k : Ky) : Int := match ixOf L k with | some ix => ix.1 | none => -1
theorem ixI_got {L : List Kn} {k : Ky} {i : Nat} {x : Kn} (h : Got L k i x) : ixI L k = i := by simp [ixI, got_ix h]
theorem ixI_lacks {L : List Kn} {k : Ky} (h : Lacks L k) : ixI L k = -1 := by simp [ixI, lacks_ix h]
set_option maxHeartbeats 4000000 in
theorem r_find (h : RpR X w v m) (hn : v.n ≤ 1000) (k : Ky) : Calls Try.prog 41 #[.agg #[.slice v.A v.n v.c, .slice v.B v.k v.d, .slice v.C v.r v.e, .int .i64 m.most, .int .i64 m.run, .int .i64 m.total], .agg #[.int .i64 k.s, .int .i64 k.c]] w fun e w' => e = .returned (.int .i64 (ixI m.L k)) ∧ Below w.heap.size w w' := by
  obtain ⟨W, hW⟩ : ∃ W, W = (w.alloc (.cells #[.slice v.A v.n v.c, .slice v.B v.k v.d, .slice v.C v.r v.e, .int .i64 m.most, .int .i64 m.run, .int .i64 m.total] 30)).alloc (.cells #[.int .i64 k.s, .int .i64 k.c] 35) := ⟨_, rfl⟩
  have hb1 : Below w.heap.size w W := by rw [hW]; exact ((Below.refl _ w).alloc (Nat.le_refl _) _).alloc (by simp) _
  have z1 : Bk W 30 w.heap.size ([.slice v.A v.n v.c, .slice v.B v.k v.d, .slice v.C v.r v.e, .int .i64 m.most, .int .i64 m.run, .int .i64 m.total]) := by rw [hW]; exact (Bk.new w 30 ([.slice v.A v.n v.c, .slice v.B v.k v.d, .slice v.C v.r v.e, .int .i64 m.most, .int .i64 m.run, .int .i64 m.total])).alloc _
  have z2 : Bk W 35 (w.heap.size + 1) k.cl := by
    have := Bk.new (w.alloc (.cells #[.slice v.A v.n v.c, .slice v.B v.k v.d, .slice v.C v.r v.e, .int .i64 m.most, .int .i64 m.run, .int .i64 m.total] 30)) 35 k.cl
    rw [World.size_alloc] at this
    rw [hW]; exact this
  have HA := Lib.hid (And.intro hb1 (And.intro z1 (And.intro z2 (h.l.below hb1))))
  have hc0 := z1.cell 0 rfl
  have hvn := h.l.1
  have HVN := Lib.hid hvn
  clear hb1 z1 z2 h hvn
  go_enter Try.func41, Try.ntmps41
  go_wp2
  rw [← hW]
  clear hW
  clear hc0
  go_loopw [5] (fun u wr => ∃ i : Nat, i ≤ v.n ∧ u = .int .i64 i ∧ Below W.heap.size W wr ∧ ∀ j y, j < i → m.L[j]? = some y → y.k ≠ k) (fun u _ => v.n + 1 - (intOf u).toNat)
  case atStart => exact ⟨0, Nat.zero_le _, rfl, Below.refl _ _, fun j y hj => by omega⟩
  case round =>
    obtain ⟨i, hi, rfl, hb, hno⟩ := hrel
    have hc0 := (HA.out.2.1.below hb).cell 0 rfl
    have HNO := Lib.hid hno
    have HB := Lib.hid hb
    clear hno hb
    by_cases hlt : i < v.n
    · obtain ⟨x, hx⟩ : ∃ x, m.L[i]? = some x := ⟨_, List.getElem?_eq_getElem (by rw [← HVN.out]; exact hlt)⟩
      obtain ⟨g, o, hA, hg, hra⟩ := (HA.out.2.2.2.below HB.out).row hx
      have hrk : wr.rangeAt g (o + i * 5) x.k.cl := fun j u hu => by
        have : x.cl[j]? = some u := by
          rcases j with _ | _ | j
          · exact hu
          · exact hu
          · simp [Ky.cl] at hu
        exact hra j u this
      have HRK := Lib.hid (And.intro hg hrk)
      have HX := Lib.hid hx
      clear hra hg hrk hx
      rw [hA] at hc0
      have HHA := Lib.hid hA
      clear hA
      have hlt1 : (i : Int) < v.n := by omega
      by_cases hxk : x.k = k
      · have HR : Hid (ixI m.L k = i) := Lib.hid (ixI_got ⟨HX.out, hxk, HNO.out⟩)
        have HE := Lib.hid hxk
        clear hxk
        go_wp2_with fail
        refine wp_region_E Ext (by kernel_rfl) (fun wd hbd hsz => ?_)
        have HBX := Lib.hid (HB.out.trans (hbd.mono HB.out.size))
        have HBE := Lib.hid (HA.out.1.trans (HBX.out.mono HA.out.1.size))
        have z2d := HA.out.2.2.1.below HBX.out
        have hrd := range_below HRK.out.2 HRK.out.1 hbd
        have hgd := Nat.lt_of_lt_of_le HRK.out.1 hbd.size
        have q0 : ∀ V, Ext wd V → V.cell? ⟨w.heap.size, 0, none⟩ = some (.slice (some ⟨g, o, none⟩) v.n v.c) := fun V hV => by
          rw [← HHA.out]; exact ((HA.out.2.1.below HBX.out).below hV).cell 0 rfl
        have hcmp : ∀ V, (binOp .eql 35 (.agg #[.int .i64 x.k.s, .int .i64 x.k.c]) (.agg #[.int .i64 k.s, .int .i64 k.c])).run Try.prog V = .ok (.bool true) V := fun V => by rw [rkey_eql, decide_eq_true HE.out]
        clear hsz hc0
        (refine takeE Ext.tr 0 (by simp only [List.getElem?_toArray, List.getElem?_cons_succ, List.getElem?_cons_zero]; rfl) (by kernel_rfl) (by kernel_rfl) (by kernel_rfl) (by exact fun _ _ _ h => h) (by first | (refine Or.inl ⟨by rfl, ?_⟩; intro W hW; go_simp; try with_reducible rfl) | exact Or.inr ⟨by rfl, rfl⟩) ?_; try simp only [Act.put, List.setIfInBounds_toArray, List.set_cons_zero, List.set_cons_succ])
        (refine takeE Ext.tr 2 (by simp only [List.getElem?_toArray, List.getElem?_cons_succ, List.getElem?_cons_zero]; rfl) (by kernel_rfl) (by kernel_rfl) (by kernel_rfl) (by exact fun _ _ _ h => h) (by first | (refine Or.inl ⟨by rfl, ?_⟩; intro W hW; go_simp; try with_reducible rfl) | exact Or.inr ⟨by rfl, rfl⟩) ?_; try simp only [Act.put, List.setIfInBounds_toArray, List.set_cons_zero, List.set_cons_succ])
        (refine takeE Ext.tr 6 (by simp only [List.getElem?_toArray, List.getElem?_cons_succ, List.getElem?_cons_zero]; rfl) (by kernel_rfl) (by kernel_rfl) (by kernel_rfl) (by exact fun _ _ _ h => h) (by first | (refine Or.inl ⟨by rfl, ?_⟩; intro W hW; exact exec_loadK rowRK (.tmp 3) rfl (w.heap.size + 1) 0 rfl k (rangeK (z2d.below hW))) | exact Or.inr ⟨by rfl, rfl⟩) ?_; try simp only [Act.put, List.setIfInBounds_toArray, List.set_cons_zero, List.set_cons_succ])
        (refine takeE Ext.tr 1 (by simp only [List.getElem?_toArray, List.getElem?_cons_succ, List.getElem?_cons_zero]; rfl) (by kernel_rfl) (by kernel_rfl) (by kernel_rfl) (by exact fun _ _ _ h => h) (by first | (refine Or.inl ⟨by rfl, ?_⟩; intro W hW; go_simp; try with_reducible rfl) | exact Or.inr ⟨by rfl, rfl⟩) ?_; try simp only [Act.put, List.setIfInBounds_toArray, List.set_cons_zero, List.set_cons_succ])
        (refine takeE Ext.tr 3 (by simp only [List.getElem?_toArray, List.getElem?_cons_succ, List.getElem?_cons_zero]; rfl) (by kernel_rfl) (by kernel_rfl) (by kernel_rfl) (by exact fun _ _ _ h => h) (by first | (refine Or.inl ⟨by rfl, ?_⟩; intro W hW; go_simp; try with_reducible rfl) | exact Or.inr ⟨by rfl, rfl⟩) ?_; try simp only [Act.put, List.setIfInBounds_toArray, List.set_cons_zero, List.set_cons_succ])
        (refine takeE Ext.tr 4 (by simp only [List.getElem?_toArray, List.getElem?_cons_succ, List.getElem?_cons_zero]; rfl) (by kernel_rfl) (by kernel_rfl) (by kernel_rfl) (by exact fun _ _ _ h => h) (by first | (refine Or.inl ⟨by rfl, ?_⟩; intro W hW; go_simp; try with_reducible rfl) | exact Or.inr ⟨by rfl, rfl⟩) ?_; try simp only [Act.put, List.setIfInBounds_toArray, List.set_cons_zero, List.set_cons_succ])
        (refine takeE Ext.tr 5 (by simp only [List.getElem?_toArray, List.getElem?_cons_succ, List.getElem?_cons_zero]; rfl) (by kernel_rfl) (by kernel_rfl) (by kernel_rfl) (by exact fun _ _ _ h => h) (by first | (refine Or.inl ⟨by rfl, ?_⟩; intro W hW; exact exec_loadK rowRK (.tmp 17) rfl g (o + i * 5) rfl x.k (range_below hrd hgd hW)) | exact Or.inr ⟨by rfl, rfl⟩) ?_; try simp only [Act.put, List.setIfInBounds_toArray, List.set_cons_zero, List.set_cons_succ])
        (refine takeE Ext.tr 7 (by simp only [List.getElem?_toArray, List.getElem?_cons_succ, List.getElem?_cons_zero]; rfl) (by kernel_rfl) (by kernel_rfl) (by kernel_rfl) (by exact fun _ _ _ h => h) (by first | (refine Or.inl ⟨by rfl, ?_⟩; intro W hW; exact exec_cmp_agg rfl (by kernel_rfl) rfl rfl (hcmp W)) | exact Or.inr ⟨by rfl, rfl⟩) ?_; try simp only [Act.put, List.setIfInBounds_toArray, List.set_cons_zero, List.set_cons_succ])
        refine wpAnyE_done (by kernel_rfl) ?_ _
        clear q0 hcmp
        go_wp2
        go_ret
        exact ⟨by rw [HR.out]; rfl, HBE.out⟩
      · have HE := Lib.hid hxk
        clear hxk
        go_wp2_with fail
        refine wp_region_E Ext (by kernel_rfl) (fun wd hbd hsz => ?_)
        have HBX := Lib.hid (HB.out.trans (hbd.mono HB.out.size))
        have HBE := Lib.hid (HA.out.1.trans (HBX.out.mono HA.out.1.size))
        have z2d := HA.out.2.2.1.below HBX.out
        have hrd := range_below HRK.out.2 HRK.out.1 hbd
        have hgd := Nat.lt_of_lt_of_le HRK.out.1 hbd.size
        have q0 : ∀ V, Ext wd V → V.cell? ⟨w.heap.size, 0, none⟩ = some (.slice (some ⟨g, o, none⟩) v.n v.c) := fun V hV => by
          rw [← HHA.out]; exact ((HA.out.2.1.below HBX.out).below hV).cell 0 rfl
        have hcmp : ∀ V, (binOp .eql 35 (.agg #[.int .i64 x.k.s, .int .i64 x.k.c]) (.agg #[.int .i64 k.s, .int .i64 k.c])).run Try.prog V = .ok (.bool false) V := fun V => by rw [rkey_eql, decide_eq_false HE.out]
        clear hsz hc0
        (refine takeE Ext.tr 0 (by simp only [List.getElem?_toArray, List.getElem?_cons_succ, List.getElem?_cons_zero]; rfl) (by kernel_rfl) (by kernel_rfl) (by kernel_rfl) (by exact fun _ _ _ h => h) (by first | (refine Or.inl ⟨by rfl, ?_⟩; intro W hW; go_simp; try with_reducible rfl) | exact Or.inr ⟨by rfl, rfl⟩) ?_; try simp only [Act.put, List.setIfInBounds_toArray, List.set_cons_zero, List.set_cons_succ])
        (refine takeE Ext.tr 2 (by simp only [List.getElem?_toArray, List.getElem?_cons_succ, List.getElem?_cons_zero]; rfl) (by kernel_rfl) (by kernel_rfl) (by kernel_rfl) (by exact fun _ _ _ h => h) (by first | (refine Or.inl ⟨by rfl, ?_⟩; intro W hW; go_simp; try with_reducible rfl) | exact Or.inr ⟨by rfl, rfl⟩) ?_; try simp only [Act.put, List.setIfInBounds_toArray, List.set_cons_zero, List.set_cons_succ])
        (refine takeE Ext.tr 6 (by simp only [List.getElem?_toArray, List.getElem?_cons_succ, List.getElem?_cons_zero]; rfl) (by kernel_rfl) (by kernel_rfl) (by kernel_rfl) (by exact fun _ _ _ h => h) (by first | (refine Or.inl ⟨by rfl, ?_⟩; intro W hW; exact exec_loadK rowRK (.tmp 3) rfl (w.heap.size + 1) 0 rfl k (rangeK (z2d.below hW))) | exact Or.inr ⟨by rfl, rfl⟩) ?_; try simp only [Act.put, List.setIfInBounds_toArray, List.set_cons_zero, List.set_cons_succ])
        (refine takeE Ext.tr 1 (by simp only [List.getElem?_toArray, List.getElem?_cons_succ, List.getElem?_cons_zero]; rfl) (by kernel_rfl) (by kernel_rfl) (by kernel_rfl) (by exact fun _ _ _ h => h) (by first | (refine Or.inl ⟨by rfl, ?_⟩; intro W hW; go_simp; try with_reducible rfl) | exact Or.inr ⟨by rfl, rfl⟩) ?_; try simp only [Act.put, List.setIfInBounds_toArray, List.set_cons_zero, List.set_cons_succ])
        (refine takeE Ext.tr 3 (by simp only [List.getElem?_toArray, List.getElem?_cons_succ, List.getElem?_cons_zero]; rfl) (by kernel_rfl) (by kernel_rfl) (by kernel_rfl) (by exact fun _ _ _ h => h) (by first | (refine Or.inl ⟨by rfl, ?_⟩; intro W hW; go_simp; try with_reducible rfl) | exact Or.inr ⟨by rfl, rfl⟩) ?_; try simp only [Act.put, List.setIfInBounds_toArray, List.set_cons_zero, List.set_cons_succ])
        (refine takeE Ext.tr 4 (by simp only [List.getElem?_toArray, List.getElem?_cons_succ, List.getElem?_cons_zero]; rfl) (by kernel_rfl) (by kernel_rfl) (by kernel_rfl) (by exact fun _ _ _ h => h) (by first | (refine Or.inl ⟨by rfl, ?_⟩; intro W hW; go_simp; try with_reducible rfl) | exact Or.inr ⟨by rfl, rfl⟩) ?_; try simp only [Act.put, List.setIfInBounds_toArray, List.set_cons_zero, List.set_cons_succ])
        (refine takeE Ext.tr 5 (by simp only [List.getElem?_toArray, List.getElem?_cons_succ, List.getElem?_cons_zero]; rfl) (by kernel_rfl) (by kernel_rfl) (by kernel_rfl) (by exact fun _ _ _ h => h) (by first | (refine Or.inl ⟨by rfl, ?_⟩; intro W hW; exact exec_loadK rowRK (.tmp 17) rfl g (o + i * 5) rfl x.k (range_below hrd hgd hW)) | exact Or.inr ⟨by rfl, rfl⟩) ?_; try simp only [Act.put, List.setIfInBounds_toArray, List.set_cons_zero, List.set_cons_succ])
        (refine takeE Ext.tr 7 (by simp only [List.getElem?_toArray, List.getElem?_cons_succ, List.getElem?_cons_zero]; rfl) (by kernel_rfl) (by kernel_rfl) (by kernel_rfl) (by exact fun _ _ _ h => h) (by first | (refine Or.inl ⟨by rfl, ?_⟩; intro W hW; exact exec_cmp_agg rfl (by kernel_rfl) rfl rfl (hcmp W)) | exact Or.inr ⟨by rfl, rfl⟩) ?_; try simp only [Act.put, List.setIfInBounds_toArray, List.set_cons_zero, List.set_cons_succ])
        refine wpAnyE_done (by kernel_rfl) ?_ _
        clear q0 hcmp
        go_wp2
        go_roundw
        case rel => exact ⟨i + 1, by omega, by go_num, HBX.out, fun j y hj hy => by
          rcases (by omega : j < i ∨ j = i) with h1 | rfl
          · exact HNO.out j y h1 hy
          · rw [HX.out] at hy; injection hy with hy; subst hy; exact HE.out⟩
        case measure => simp [intOf]; omega
    · obtain rfl : i = v.n := by omega
      have HR : Hid (ixI m.L k = -1) := Lib.hid (ixI_lacks fun x hx => by
        obtain ⟨j, hj⟩ := List.mem_iff_getElem?.1 hx
        have := (List.getElem?_eq_some_iff.1 hj).1
        exact HNO.out j x (by rw [HVN.out]; exact this) hj)
      go_wp2
      go_ret
      exact ⟨by rw [HR.out]; rfl, HA.out.1.trans (HB.out.mono HA.out.1.size)⟩
end
end Go.Proofs.Ytdldocbfnjbhmaa
