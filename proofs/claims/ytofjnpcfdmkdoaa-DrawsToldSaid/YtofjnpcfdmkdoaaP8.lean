/- The first draws from a number on. -/
import Derived.Test.YtofjnpcfdmkdoaaP7
set_option linter.unusedSimpArgs false
set_option linter.unusedVariables false
namespace Go.Proofs.Ytofjnpcfdmkdoaa
open Go.RowKit Go.Shelf
attribute [local go_sem] Oper.semAt_some
theorem run_equalIn_func_nil (w : World) (k : Nat) (f : Fn) (ts b : Array Value) : (Op.equalIn (k + 1) 60 (.func f ts b) .nilFunc).run Try.prog w = .ok false w := by
  simp [Op.equalIn, run_underlying Try.underlying60]
theorem run_func_nil (w : World) (f : Fn) (ts b : Array Value) : (binOp .eql 60 (.func f ts b) .nilFunc).run Try.prog w = .ok (.bool false) w := by
  simp only [binOp]
  simp [Op.equal, Op.maxDepth, run_equalIn_func_nil w 9999 f ts b]
theorem eltU : Elt Try.prog 24 22 (.int .u64 0) 8 := ⟨rfl, by kernel_rfl, rfl, rfl, by decide⟩
/-- Two lists of the call's own, apart; all below L stays. -/
structure Two (L : Nat) (e1 e2 : TypeId) (A1 : Option Addr) (n1 c1 : Nat) (xs : List Value) (A2 : Option Addr) (n2 c2 : Nat) (ys : List Value) (W0 W : World) : Prop where
  l1 : Lst e1 (L ≤ ·) W A1 n1 c1 xs
  l2 : Lst e2 (L ≤ ·) W A2 n2 c2 ys
  sep : Sep (BlkOf A1) (BlkOf A2)
  sz : L ≤ W0.heap.size
  bel : Below L W0 W
  kp : KeepsOthers W0 W
theorem keeps_apd {e : TypeId} {w w' : World} {A : Option Addr} {n c : Nat} {vs us : List Value} {v : Value} (h : Lst e (BlkOf A) w A n c vs) (hst : St (BlkOf A) w w') : KeepsOthers w w' := by
  refine ⟨hst.size, fun k o ho hc => (hst.block k (Array.getElem?_eq_some_iff.1 ho).1 ?_).trans ho⟩
  rintro ⟨ad, rfl, rfl⟩
  rcases h.2.2.2.2 with ⟨h, _⟩ | ⟨g', o', cur, h, _, hh, _⟩
  · cases h
  · injection h with h
    subst h
    rw [hh] at ho
    injection ho with ho
    subst ho
    cases hc
section
variable {L : Nat} {e1 e2 : TypeId} {A1 A2 : Option Addr} {n1 c1 n2 c2 : Nat} {xs ys us : List Value} {W0 W W' : World} {v : Value}
theorem Two.next (h : Two L e1 e2 A1 n1 c1 xs A2 n2 c2 ys W0 W) (hb : Below W.heap.size W W') : Two L e1 e2 A1 n1 c1 xs A2 n2 c2 ys W0 W' :=
  ⟨h.l1.below hb, h.l2.below hb, h.sep, h.sz, h.bel.trans (hb.mono (Nat.le_trans h.sz h.bel.size)), h.kp.trans (keepsOthers_of hb)⟩
theorem Two.alloc (h : Two L e1 e2 A1 n1 c1 xs A2 n2 c2 ys W0 W) (o : Obj) : Two L e1 e2 A1 n1 c1 xs A2 n2 c2 ys W0 (W.alloc o) := h.next ((Below.refl _ _).alloc (Nat.le_refl _) o)
theorem Two.app1 (h : Two L e1 e2 A1 n1 c1 xs A2 n2 c2 ys W0 W) (ha : Apd e1 (BlkOf A1) W v us W') : ∃ A n c, v = .slice A n c ∧ Two L e1 e2 A n c us A2 n2 c2 ys W0 W' ∧ Below L W W' := by
  obtain ⟨⟨A, n, c, rfl, hl⟩, hst⟩ := ha
  have hL := Nat.le_trans h.sz h.bel.size
  have hA : ∀ k, BlkOf A1 k → L ≤ k := by rintro k ⟨ad, he, rfl⟩; exact (h.l1.blk ad he).1
  have hb := hst.below hL hA
  refine ⟨A, n, c, rfl, ⟨hl.mono (fun k hk => ?_), h.l2.tight.st hst h.sep.symm |>.mono (fun k hk => by obtain ⟨ad, he, rfl⟩ := hk; exact (h.l2.blk ad he).1), h.sep.gr hl.gr h.l2.lt, h.sz, h.bel.trans hb, h.kp.trans (keeps_apd (us := us) (v := .slice A n c) h.l1.tight hst)⟩, hb⟩
  rcases hk with hk | hk
  · exact hA k hk
  · omega
theorem Two.swap (h : Two L e1 e2 A1 n1 c1 xs A2 n2 c2 ys W0 W) : Two L e2 e1 A2 n2 c2 ys A1 n1 c1 xs W0 W := ⟨h.l2, h.l1, h.sep.symm, h.sz, h.bel, h.kp⟩
theorem Two.app2 (h : Two L e1 e2 A1 n1 c1 xs A2 n2 c2 ys W0 W) (ha : Apd e2 (BlkOf A2) W v us W') : ∃ A n c, v = .slice A n c ∧ Two L e1 e2 A1 n1 c1 xs A n c us W0 W' ∧ Below L W W' := by
  obtain ⟨A, n, c, he, h2, hb⟩ := h.swap.app1 ha
  exact ⟨A, n, c, he, h2.swap, hb⟩
end
/-- Numbers, and what is drawn there. -/
def idxV (i : Int) (l : List Nat) : List Value := l.map fun k : Nat => .int .i64 (i + (k : Int))
def numV (s i : Int) (l : List Nat) : List Value := l.map fun k : Nat => .int .u64 (atV s (i + (k : Int)))
theorem idxV_snoc (i : Int) (l : List Nat) (k : Nat) : idxV i (l ++ [k]) = idxV i l ++ [.int .i64 (i + (k : Int))] := by simp [idxV]
theorem numV_snoc (s i : Int) (l : List Nat) (k : Nat) : numV s i (l ++ [k]) = numV s i l ++ [.int .u64 (atV s (i + (k : Int)))] := by simp [numV]
theorem idxV_len (i : Int) (l : List Nat) : (idxV i l).length = l.length := by simp [idxV]
theorem numV_len (s i : Int) (l : List Nat) : (numV s i l).length = l.length := by simp [numV]
/-- Between two rounds: what was told. -/
def TolI (most : Nat) (s i : Int) (w : World) (pre : List Nat) (W : World) : Prop :=
  Bk W 3 w.heap.size [.int .i64 most] ∧ pre.length ≤ most ∧ Below w.heap.size w W ∧ w.heap.size + 5 ≤ W.heap.size ∧
  ∃ A1 n1 c1 A2 n2 c2, Bk W 23 (w.heap.size + 1) [.slice A1 n1 c1] ∧ Bk W 24 (w.heap.size + 2) [.slice A2 n2 c2] ∧
    Lst 3 (w.heap.size + 5 ≤ ·) W A1 n1 c1 (idxV i pre) ∧ Lst 22 (w.heap.size + 5 ≤ ·) W A2 n2 c2 (numV s i pre) ∧ Sep (BlkOf A1) (BlkOf A2)
theorem lst_own {e : TypeId} {F : Nat → Prop} {W W' : World} {A : Option Addr} {n c : Nat} {vs : List Value} {row : Option Nat} (h : Lst e F W A n c vs) (hw : W.grownBy W' row) (hr : ∀ r, row = some r → ∃ o : Obj, W.heap[r]? = some o ∧ o.isCells = false) : Lst e F W' A n c vs := by
  refine h.same fun ad he => hw.block _ (h.blk ad he).2 fun e => ?_
  obtain ⟨o, ho, hc⟩ := hr _ e.symm
  rcases h.2.2.2.2 with ⟨rfl, _⟩ | ⟨g, o', cur, rfl, _, hh, _⟩
  · cases he
  · injection he with he
    subst he
    rw [hh] at ho
    injection ho with ho
    subst ho
    cases hc
theorem tolI_own {most : Nat} {s i : Int} {w : World} {B : Nat} (hB : w.heap.size + 5 ≤ B) : OwnFrom B (TolI most s i w) := by
  rintro pre W W' row ⟨h1, hm, h3, h4, A1, n1, c1, A2, n2, c2, b1, b2, l1, l2, sp⟩ hw hr
  have hk : ∀ k, k < w.heap.size + 5 → W'.heap[k]? = W.heap[k]? := fun k hk => hw.block k (by omega) (fun e => by have := (hr _ e.symm).1; omega)
  have hr' : ∀ r, row = some r → ∃ o : Obj, W.heap[r]? = some o ∧ o.isCells = false := fun r e => (hr r e).2
  exact ⟨(hk _ (by omega)).trans h1, hm, ⟨hw.os.trans h3.os, hw.tape.trans h3.tape, hw.output.trans h3.output, Nat.le_trans h3.size hw.size, fun k hk' => (hk k (by omega)).trans (h3.block k hk')⟩, Nat.le_trans h4 hw.size,
    A1, n1, c1, A2, n2, c2, (hk _ (by omega)).trans b1, (hk _ (by omega)).trans b2, lst_own l1 hw hr', lst_own l2 hw hr', sp⟩
/-- A round has left. -/
def TolX (most : Nat) (s i : Int) (w : World) (c : Code) (pre' : List Nat) (W : World) : Prop :=
  c = .exit 0 ∧ ∃ pre x, pre' = pre ++ [x] ∧ pre.length = most ∧ TolI most s i w pre W
theorem tol_next {most : Nat} {s i : Int} {w W w5 : World} {pre : List Nat} {x : Nat} {A1 A2 A3 A4 : Option Addr} {c1 c2 n3 c3 n4 c4 : Nat} {v1 v2 : Value}
    (hT : Two (w.heap.size + 5) 3 22 A3 n3 c3 (idxV i pre ++ [v1]) A4 n4 c4 (numV s i pre ++ [v2]) W w5) (r0 : Bk W 3 w.heap.size [.int .i64 most])
    (r1 : Bk W 23 (w.heap.size + 1) [.slice A1 pre.length c1]) (r2 : Bk W 24 (w.heap.size + 2) [.slice A2 pre.length c2]) (hpm : pre.length ≤ most) (hb : Below w.heap.size w W) (hsz : w.heap.size + 5 ≤ W.heap.size)
    (h1 : idxV i (pre ++ [x]) = idxV i pre ++ [v1]) (h2 : numV s i (pre ++ [x]) = numV s i pre ++ [v2]) (hlt : pre.length < most) :
    KeepsOthers W ((w5.setCell ⟨w.heap.size + 1, 0, none⟩ (.slice A3 n3 c3)).setCell ⟨w.heap.size + 2, 0, none⟩ (.slice A4 n4 c4)) ∧
    KpS (fun k => k = w.heap.size + 3 ∨ k = w.heap.size + 4) W ((w5.setCell ⟨w.heap.size + 1, 0, none⟩ (.slice A3 n3 c3)).setCell ⟨w.heap.size + 2, 0, none⟩ (.slice A4 n4 c4)) ∧
    TolI most s i w (pre ++ [x]) ((w5.setCell ⟨w.heap.size + 1, 0, none⟩ (.slice A3 n3 c3)).setCell ⟨w.heap.size + 2, 0, none⟩ (.slice A4 n4 c4)) := by
  have hL : ∀ {e : TypeId} {A : Option Addr} {n c : Nat} {ls : List Value}, Lst e (w.heap.size + 5 ≤ ·) w5 A n c ls → Lst e (w.heap.size + 5 ≤ ·) ((w5.setCell ⟨w.heap.size + 1, 0, none⟩ (.slice A3 n3 c3)).setCell ⟨w.heap.size + 2, 0, none⟩ (.slice A4 n4 c4)) A n c ls :=
    fun hl => (hl.far (fun ad he => by have := (hl.blk ad he).1; simp; omega) _).far (fun ad he => by have := (hl.blk ad he).1; simp; omega) _
  refine ⟨(hT.kp.trans (KeepsOthers.setCell _ _ _)).trans (KeepsOthers.setCell _ _ _), fun k hk => ?_, ?_⟩
  · rw [Below.heap_setCell _ _ _ _ (by simp; omega), Below.heap_setCell _ _ _ _ (by simp; omega)]
    exact hT.bel.block k (by omega)
  · refine ⟨((r0.keep hT.bel (by omega)).far (by simp) _).far (by simp) _, by simp; omega, ((hb.trans (hT.bel.mono (by omega))).setCell (by simp) _).setCell (by simp) _, by have := hT.bel.size; simp [World.setCell]; omega, A3, n3, c3, A4, n4, c4,
      ((r1.keep hT.bel (by omega)).set 0 _).far (by simp) _, ((r2.keep hT.bel (by omega)).far (by simp) _).set 0 _, ?_, ?_, hT.sep⟩
    · rw [h1]; exact hL hT.l1
    · rw [h2]; exact hL hT.l2
set_option maxRecDepth 100000 in
set_option maxHeartbeats 8000000 in
theorem told_any (s i : Int) (most : Nat) (w : World) (hm : most ≤ 1000) (hi0 : -4611686018427386904 ≤ i) (hi1 : i ≤ 4611686018427386904) :
    Calls Try.prog 6 #[.int .u64 s, .int .i64 i, .int .i64 most] w fun e w' => ∃ A1 c1 A2 c2, e = .returned (.tuple #[.slice A1 most c1, .slice A2 most c2]) ∧
      RdV w' A1 most c1 (idxV i (List.range most)) ∧ RdV w' A2 most c2 (numV s i (List.range most)) ∧ Below w.heap.size w w' := by
  have fn := fun (w : World) (f : Fn) (ts b : Array Value) => run_func_nil w f ts b
  refine (callsIn_wide (n := 5)).1 ?_
  refine callsIn_of_wp_marks Try.func6 rfl trivial ?_ rfl
  simp only [Try.ntmps6, List.size_toArray, List.length_cons, List.length_nil, Nat.reduceAdd, Nat.reduceSub, Array.replicate_succ, Array.replicate_zero, List.push_toArray, List.append_toArray, List.nil_append, List.cons_append]
  gi_wp2
  refine ⟨trivial, (callsIn_wide.2 (draws_any _ _ _)).mono ?_⟩
  rintro e w' ⟨rfl, rfl⟩
  gi_wp2
  clear fn
  have hW : ∃ W0, W0 = ((((w.alloc (.cells #[.int .i64 most] 3)).alloc (.cells #[.slice none 0 0] 23)).alloc (.cells #[.slice none 0 0] 24)).alloc (.cells #[.int .u64 s] 22)).alloc (.cells #[.int .i64 i] 3) := ⟨_, rfl⟩
  obtain ⟨W0, hW0⟩ := hW
  rw [← hW0]
  have hs0 : W0.heap.size = w.heap.size + 5 := by rw [hW0]; simp
  have hb0 : Below w.heap.size w W0 := by rw [hW0]; exact (((((Below.refl _ w).alloc (Nat.le_refl _) _).alloc (by simp) _).alloc (by simp; omega) _).alloc (by simp; omega) _).alloc (by simp; omega) _
  have q0 : Bk W0 3 w.heap.size [.int .i64 most] := by
    rw [hW0]; exact ((((Bk.new w _ [.int .i64 most]).alloc _).alloc _).alloc _).alloc _
  have q1 : Bk W0 23 (w.heap.size + 1) [.slice none 0 0] := by
    have := (((Bk.new (w.alloc (.cells #[.int .i64 most] 3)) 23 [.slice none 0 0]).alloc (.cells #[.slice none 0 0] 24)).alloc (.cells #[.int .u64 s] 22)).alloc (.cells #[.int .i64 i] 3)
    rw [hW0]; simpa using this
  have q2 : Bk W0 24 (w.heap.size + 2) [.slice none 0 0] := by
    have := ((Bk.new ((w.alloc (.cells #[.int .i64 most] 3)).alloc (.cells #[.slice none 0 0] 23)) 24 [.slice none 0 0]).alloc (.cells #[.int .u64 s] 22)).alloc (.cells #[.int .i64 i] 3)
    rw [hW0]; simpa using this
  have q3 : W0.cell? ⟨w.heap.size + 3, 0, none⟩ = some (.int .u64 s) := by
    have := ((Bk.new (((w.alloc (.cells #[.int .i64 most] 3)).alloc (.cells #[.slice none 0 0] 23)).alloc (.cells #[.slice none 0 0] 24)) 22 [.int .u64 s]).alloc (.cells #[.int .i64 i] 3)).cell 0 rfl
    rw [hW0]; simpa using this
  have q4 : W0.cell? ⟨w.heap.size + 4, 0, none⟩ = some (.int .i64 i) := by
    have := (Bk.new ((((w.alloc (.cells #[.int .i64 most] 3)).alloc (.cells #[.slice none 0 0] 23)).alloc (.cells #[.slice none 0 0] 24)).alloc (.cells #[.int .u64 s] 22)) 3 [.int .i64 i]).cell 0 rfl
    rw [hW0]; simpa using this
  clear hW0
  simp only [Nat.add_assoc, Nat.reduceAdd]
  obtain ⟨NN, hNN⟩ := Int.eq_ofNat_of_zero_le (show 0 ≤ 4611686018427387904 - i + 1 by omega)
  refine wpIn_rangeFunc_ownF rfl (by decide) (gf := 31) (lb := #[.pointer (some ⟨w.heap.size + 4, 0, none⟩), .pointer (some ⟨w.heap.size + 3, 0, none⟩)]) rfl trivial (enters_of Try.func31 (by kernel_rfl) rfl)
    (draws_stops (5 - 1) (by decide) (fun k => k = w.heap.size + 3 ∨ k = w.heap.size + 4) (w.heap.size + 3) (w.heap.size + 4) NN s i W0 (by omega) (by omega) hNN.symm (.inl rfl) (.inr rfl) (fun k hk => by omega) q4 q3) KpS.trans (KpS.put (fun k hk => by omega)) (Below.refl _ _) (fun _ => rfl)
    (TolI most s i w) (TolX most s i w) (tolI_own (by omega)) (fun c' => ?own) ⟨q0, Nat.zero_le _, hb0, by omega, _, _, _, _, _, _, q1, q2, Lst.nil _ _ _, Lst.nil _ _ _, sep_none _⟩
    (fun k => { tmps := #[.int .u64 s, .int .i64 i, .int .i64 most, undef, undef, .pointer (some ⟨w.heap.size, 0, none⟩), .slice none 0 0, .slice none 0 0, .pointer (some ⟨w.heap.size + 1, 0, none⟩), .pointer (some ⟨w.heap.size + 2, 0, none⟩),
      .func (.func 31) #[] #[.pointer (some ⟨w.heap.size + 4, 0, none⟩), .pointer (some ⟨w.heap.size + 3, 0, none⟩)], .int .i64 (i + (k : Int)), .int .u64 (atV s (i + (k : Int))), .int .u64 s, .int .i64 i,
      .func (.func 31) #[] #[.pointer (some ⟨w.heap.size + 4, 0, none⟩), .pointer (some ⟨w.heap.size + 3, 0, none⟩)],
      .func (.func 31) #[] #[.pointer (some ⟨w.heap.size + 4, 0, none⟩), .pointer (some ⟨w.heap.size + 3, 0, none⟩)], .bool false,
      .func (.func 31) #[] #[.pointer (some ⟨w.heap.size + 4, 0, none⟩), .pointer (some ⟨w.heap.size + 3, 0, none⟩)],
      .int .i64 (i + (k : Int)), .int .u64 (atV s (i + (k : Int))), undef, undef, undef, undef, undef, undef, undef, undef, undef, undef, undef, undef, undef, undef], defers := [] }) ?assign ?body ?done ?stop
  case own =>
    rintro pre' W W' row ⟨hc', pre, x, e1, e2, hI⟩ hw hr
    exact ⟨hc', pre, x, e1, e2, tolI_own (by omega) pre W W' row hI hw hr⟩
  case assign =>
    intro l k W K hK
    gi_wp2
    simpa using hK
  case body =>
    rintro l pre x W ⟨r0, hpm, hb, hsW, A1, n1, c1, A2, n2, c2, r1, r2, l1, l2, sp⟩ hpre
    have c0 := r0.cell 0 rfl
    have d1 := r1.cell 0 rfl
    have hn1 : n1 = pre.length := by rw [← l1.1, idxV_len]
    have hn2 : n2 = pre.length := by rw [← l2.1, numV_len]
    subst hn1
    by_cases hlt : most ≤ pre.length
    · have hI : TolI most s i w pre W := ⟨r0, hpm, hb, hsW, A1, _, c1, A2, n2, c2, r1, r2, l1, l2, sp⟩
      have HI := Lib.hid hI
      have hli : (most : Int) ≤ pre.length := by omega
      have hle : pre.length = most := by omega
      have HLE := Lib.hid hle
      clear hI hle q3 q4 hNN hn2
      dsimp only
      gi_wp2
      exact ⟨KeepsOthers.refl _, rfl, pre, x, rfl, HLE.out, HI.out⟩
    · have hli : (pre.length : Int) < most := by omega
      have hsn := idxV_snoc i pre x
      have hsm := numV_snoc s i pre x
      have HSN := Lib.hid hsn
      have HSM := Lib.hid hsm
      clear hsn hsm q3 q4 hNN
      subst hn2
      dsimp only
      generalize atV s (i + (x : Int)) = yi at *
      generalize i + (x : Int) = xi at *
      clear q0 q1 q2
      gi_wp2
      refine wpIn_region_L (Below (w.heap.size + 5)) [8, 9] (by kernel_rfl) (by kernel_rfl) (fun wd hbd hsz => ?_)
      have hT0 : Two (w.heap.size + 5) 3 22 A1 pre.length c1 (idxV i pre) A2 pre.length c2 (numV s i pre) W wd := ⟨l1.below hbd, l2.below hbd, sp, hsW, hbd.mono hsW, keepsOthers_of hbd⟩
      have k1 : ∀ W', Below (w.heap.size + 5) wd W' → W'.cell? ⟨w.heap.size + 1, 0, none⟩ = some (.slice A1 pre.length c1) := fun W' hW => ((r1.below hbd).keep hW (by omega)).cell 0 rfl
      have k2 : ∀ W', Below (w.heap.size + 5) wd W' → W'.cell? ⟨w.heap.size + 2, 0, none⟩ = some (.slice A2 pre.length c2) := fun W' hW => ((r2.below hbd).keep hW (by omega)).cell 0 rfl
      clear hsz
      (refine takeL (belowTr (w.heap.size + 5)) 0 (by simp only [List.getElem?_toArray, List.getElem?_cons_succ, List.getElem?_cons_zero]; rfl) (by kernel_rfl) (by kernel_rfl) (by kernel_rfl) (by kernel_rfl) (by exact fun _ _ _ h => h) (by first | (refine Or.inl ⟨by rfl, ?_⟩; intro W hW; go_simp; try with_reducible rfl) | exact Or.inr ⟨by rfl, rfl⟩) ?_; try simp only [Act.put, List.setIfInBounds_toArray, List.set_cons_zero, List.set_cons_succ])
      (refine takeL (belowTr (w.heap.size + 5)) 1 (by simp only [List.getElem?_toArray, List.getElem?_cons_succ, List.getElem?_cons_zero]; rfl) (by kernel_rfl) (by kernel_rfl) (by kernel_rfl) (by kernel_rfl) (by exact fun _ _ _ h => h) (by first | (refine Or.inl ⟨by rfl, ?_⟩; intro W hW; go_simp; try with_reducible rfl) | exact Or.inr ⟨by rfl, rfl⟩) ?_; try simp only [Act.put, List.setIfInBounds_toArray, List.set_cons_zero, List.set_cons_succ])
      (refine takeL (belowTr (w.heap.size + 5)) 4 (by simp only [List.getElem?_toArray, List.getElem?_cons_succ, List.getElem?_cons_zero]; rfl) (by kernel_rfl) (by kernel_rfl) (by kernel_rfl) (by kernel_rfl) (by exact fun _ _ _ h => h) (by first | (refine Or.inl ⟨by rfl, ?_⟩; intro W hW; go_simp; try with_reducible rfl) | exact Or.inr ⟨by rfl, rfl⟩) ?_; try simp only [Act.put, List.setIfInBounds_toArray, List.set_cons_zero, List.set_cons_succ])
      (refine takeL (belowTr (w.heap.size + 5)) 5 (by simp only [List.getElem?_toArray, List.getElem?_cons_succ, List.getElem?_cons_zero]; rfl) (by kernel_rfl) (by kernel_rfl) (by kernel_rfl) (by kernel_rfl) (by exact fun _ _ _ h => h) (by first | (refine Or.inl ⟨by rfl, ?_⟩; intro W hW; go_simp; try with_reducible rfl) | exact Or.inr ⟨by rfl, rfl⟩) ?_; try simp only [Act.put, List.setIfInBounds_toArray, List.set_cons_zero, List.set_cons_succ])
      refine wpAnyL_two (i := 2) (j := 6) (by kernel_rfl) (by simp only [List.getElem?_toArray, List.getElem?_cons_succ, List.getElem?_cons_zero]; rfl) (by simp only [List.getElem?_toArray, List.getElem?_cons_succ, List.getElem?_cons_zero]; rfl) (fun K hK => ?_) (fun K hK => ?_)
      ·
        go_simp
        have hu1 := RdV.one wd 3 (.int .i64 xi) rfl
        try simp only [World.size_alloc] at hu1
        have hT := hT0.alloc (.cells #[.int .i64 xi] 3)
        have hLa : w.heap.size + 5 ≤ (wd).heap.size := Nat.le_trans hT0.sz hT0.bel.size
        refine hK.out _ _ (.inr ((Below.refl _ _).alloc hLa _)) ?_
        clear hK K
        try simp only [Act.put, List.setIfInBounds_toArray, List.set_cons_zero, List.set_cons_succ]
        refine wpAnyL_two (i := 3) (j := 6) (by kernel_rfl) (by simp only [List.getElem?_toArray, List.getElem?_cons_succ, List.getElem?_cons_zero]; rfl) (by simp only [List.getElem?_toArray, List.getElem?_cons_succ, List.getElem?_cons_zero]; rfl) (fun K hK => ?_) (fun K hK => ?_)
        ·
          refine opwp_append_lst eltI rfl (.tmp 25) (.tmp 27) rfl rfl hT.l1.tight rfl hu1 (by omega) ?_
          rintro v w3 hap
          have hap0 := hap
          obtain ⟨A3, n3, c3, rfl, hT3, hb3⟩ := hT.app1 hap
          refine hK.out _ _ (.inr hb3) ?_
          clear hK K
          try simp only [Act.put, List.setIfInBounds_toArray, List.set_cons_zero, List.set_cons_succ]
          refine wpAnyL_one (i := 6) (by kernel_rfl) (by simp only [List.getElem?_toArray, List.getElem?_cons_succ, List.getElem?_cons_zero]; rfl) (fun K hK => ?_)
          go_simp
          have hu2 := RdV.one w3 22 (.int .u64 yi) rfl
          try simp only [World.size_alloc] at hu2
          have hT := hT3.alloc (.cells #[.int .u64 yi] 22)
          have hLa : w.heap.size + 5 ≤ (w3).heap.size := Nat.le_trans hT3.sz hT3.bel.size
          refine hK.out _ _ (.inr ((Below.refl _ _).alloc hLa _)) ?_
          clear hK K
          try simp only [Act.put, List.setIfInBounds_toArray, List.set_cons_zero, List.set_cons_succ]
          refine wpAnyL_one (i := 7) (by kernel_rfl) (by simp only [List.getElem?_toArray, List.getElem?_cons_succ, List.getElem?_cons_zero]; rfl) (fun K hK => ?_)
          refine opwp_append_lst eltU rfl (.tmp 29) (.tmp 31) rfl rfl hT.l2.tight rfl hu2 (by omega) ?_
          rintro v w5 hap5
          obtain ⟨A4, n4, c4, rfl, hT5, hb5⟩ := hT.app2 hap5
          have r1e := r1.keep hT5.bel (by omega)
          have r2e := r2.keep hT5.bel (by omega)
          have s1 := r1e.cell 0 rfl
          have s2 := r2e.cell 0 rfl
          have g1 := r1e.free 0
          have g2 := r2e.free 0
          refine hK.out _ _ (.inr hb5) ?_
          clear hK K
          try simp only [Act.put, List.setIfInBounds_toArray, List.set_cons_zero, List.set_cons_succ]
          refine wpAnyL_one (i := 8) (by kernel_rfl) (by simp only [List.getElem?_toArray, List.getElem?_cons_succ, List.getElem?_cons_zero]; rfl) (fun K hK => ?_)
          go_simp
          refine hK.out _ _ (.inl (by decide)) ?_
          clear hK K
          try simp only [Act.put, List.setIfInBounds_toArray, List.set_cons_zero, List.set_cons_succ]
          refine wpAnyL_one (i := 9) (by kernel_rfl) (by simp only [List.getElem?_toArray, List.getElem?_cons_succ, List.getElem?_cons_zero]; rfl) (fun K hK => ?_)
          go_simp
          refine hK.out _ _ (.inl (by decide)) ?_
          clear hK K
          try simp only [Act.put, List.setIfInBounds_toArray, List.set_cons_zero, List.set_cons_succ]
          refine noOutL_done (by kernel_rfl) ?_ _
          gi_wp2
          exact tol_next hT5 r0 r1 r2 hpm hb hsW HSN.out HSM.out (by omega)
        ·
          go_simp
          have hu1 := hu1.alloc (.cells #[.int .u64 yi] 22)
          have hTb := hT
          have hu2 := RdV.one (wd.alloc (.cells #[.int .i64 xi] 3)) 22 (.int .u64 yi) rfl
          try simp only [World.size_alloc] at hu2
          have hT := hTb.alloc (.cells #[.int .u64 yi] 22)
          have hLa : w.heap.size + 5 ≤ ((wd.alloc (.cells #[.int .i64 xi] 3))).heap.size := Nat.le_trans hTb.sz hTb.bel.size
          refine hK.out _ _ (.inr ((Below.refl _ _).alloc hLa _)) ?_
          clear hK K
          try simp only [Act.put, List.setIfInBounds_toArray, List.set_cons_zero, List.set_cons_succ]
          refine wpAnyL_one (i := 3) (by kernel_rfl) (by simp only [List.getElem?_toArray, List.getElem?_cons_succ, List.getElem?_cons_zero]; rfl) (fun K hK => ?_)
          refine opwp_append_lst eltI rfl (.tmp 25) (.tmp 27) rfl rfl hT.l1.tight rfl hu1 (by omega) ?_
          rintro v w3 hap
          have hap0 := hap
          obtain ⟨A3, n3, c3, rfl, hT3, hb3⟩ := hT.app1 hap
          have hu2 := hu2.st hap0.st (fun _ ad he hf => by
            injection he with he
            subst he
            have := hTb.l1.lt _ hf
            simp at this)
          refine hK.out _ _ (.inr hb3) ?_
          clear hK K
          try simp only [Act.put, List.setIfInBounds_toArray, List.set_cons_zero, List.set_cons_succ]
          refine wpAnyL_one (i := 7) (by kernel_rfl) (by simp only [List.getElem?_toArray, List.getElem?_cons_succ, List.getElem?_cons_zero]; rfl) (fun K hK => ?_)
          refine opwp_append_lst eltU rfl (.tmp 29) (.tmp 31) rfl rfl hT3.l2.tight rfl hu2 (by omega) ?_
          rintro v w5 hap5
          obtain ⟨A4, n4, c4, rfl, hT5, hb5⟩ := hT3.app2 hap5
          have r1e := r1.keep hT5.bel (by omega)
          have r2e := r2.keep hT5.bel (by omega)
          have s1 := r1e.cell 0 rfl
          have s2 := r2e.cell 0 rfl
          have g1 := r1e.free 0
          have g2 := r2e.free 0
          refine hK.out _ _ (.inr hb5) ?_
          clear hK K
          try simp only [Act.put, List.setIfInBounds_toArray, List.set_cons_zero, List.set_cons_succ]
          refine wpAnyL_one (i := 8) (by kernel_rfl) (by simp only [List.getElem?_toArray, List.getElem?_cons_succ, List.getElem?_cons_zero]; rfl) (fun K hK => ?_)
          go_simp
          refine hK.out _ _ (.inl (by decide)) ?_
          clear hK K
          try simp only [Act.put, List.setIfInBounds_toArray, List.set_cons_zero, List.set_cons_succ]
          refine wpAnyL_one (i := 9) (by kernel_rfl) (by simp only [List.getElem?_toArray, List.getElem?_cons_succ, List.getElem?_cons_zero]; rfl) (fun K hK => ?_)
          go_simp
          refine hK.out _ _ (.inl (by decide)) ?_
          clear hK K
          try simp only [Act.put, List.setIfInBounds_toArray, List.set_cons_zero, List.set_cons_succ]
          refine noOutL_done (by kernel_rfl) ?_ _
          gi_wp2
          exact tol_next hT5 r0 r1 r2 hpm hb hsW HSN.out HSM.out (by omega)
      ·
        go_simp
        have hu2 := RdV.one wd 22 (.int .u64 yi) rfl
        try simp only [World.size_alloc] at hu2
        have hT := hT0.alloc (.cells #[.int .u64 yi] 22)
        have hLa : w.heap.size + 5 ≤ (wd).heap.size := Nat.le_trans hT0.sz hT0.bel.size
        refine hK.out _ _ (.inr ((Below.refl _ _).alloc hLa _)) ?_
        clear hK K
        try simp only [Act.put, List.setIfInBounds_toArray, List.set_cons_zero, List.set_cons_succ]
        refine wpAnyL_one (i := 2) (by kernel_rfl) (by simp only [List.getElem?_toArray, List.getElem?_cons_succ, List.getElem?_cons_zero]; rfl) (fun K hK => ?_)
        go_simp
        have hu2 := hu2.alloc (.cells #[.int .i64 xi] 3)
        have hTc := hT
        have hu1 := RdV.one (wd.alloc (.cells #[.int .u64 yi] 22)) 3 (.int .i64 xi) rfl
        try simp only [World.size_alloc] at hu1
        have hT := hTc.alloc (.cells #[.int .i64 xi] 3)
        have hLa : w.heap.size + 5 ≤ ((wd.alloc (.cells #[.int .u64 yi] 22))).heap.size := Nat.le_trans hTc.sz hTc.bel.size
        refine hK.out _ _ (.inr ((Below.refl _ _).alloc hLa _)) ?_
        clear hK K
        try simp only [Act.put, List.setIfInBounds_toArray, List.set_cons_zero, List.set_cons_succ]
        refine wpAnyL_one (i := 3) (by kernel_rfl) (by simp only [List.getElem?_toArray, List.getElem?_cons_succ, List.getElem?_cons_zero]; rfl) (fun K hK => ?_)
        refine opwp_append_lst eltI rfl (.tmp 25) (.tmp 27) rfl rfl hT.l1.tight rfl hu1 (by omega) ?_
        rintro v w3 hap
        have hap0 := hap
        obtain ⟨A3, n3, c3, rfl, hT3, hb3⟩ := hT.app1 hap
        have hu2 := hu2.st hap0.st (fun _ ad he hf => by
          injection he with he
          subst he
          have := hT0.l1.lt _ hf
          simp at this)
        refine hK.out _ _ (.inr hb3) ?_
        clear hK K
        try simp only [Act.put, List.setIfInBounds_toArray, List.set_cons_zero, List.set_cons_succ]
        refine wpAnyL_one (i := 7) (by kernel_rfl) (by simp only [List.getElem?_toArray, List.getElem?_cons_succ, List.getElem?_cons_zero]; rfl) (fun K hK => ?_)
        refine opwp_append_lst eltU rfl (.tmp 29) (.tmp 31) rfl rfl hT3.l2.tight rfl hu2 (by omega) ?_
        rintro v w5 hap5
        obtain ⟨A4, n4, c4, rfl, hT5, hb5⟩ := hT3.app2 hap5
        have r1e := r1.keep hT5.bel (by omega)
        have r2e := r2.keep hT5.bel (by omega)
        have s1 := r1e.cell 0 rfl
        have s2 := r2e.cell 0 rfl
        have g1 := r1e.free 0
        have g2 := r2e.free 0
        refine hK.out _ _ (.inr hb5) ?_
        clear hK K
        try simp only [Act.put, List.setIfInBounds_toArray, List.set_cons_zero, List.set_cons_succ]
        refine wpAnyL_one (i := 8) (by kernel_rfl) (by simp only [List.getElem?_toArray, List.getElem?_cons_succ, List.getElem?_cons_zero]; rfl) (fun K hK => ?_)
        go_simp
        refine hK.out _ _ (.inl (by decide)) ?_
        clear hK K
        try simp only [Act.put, List.setIfInBounds_toArray, List.set_cons_zero, List.set_cons_succ]
        refine wpAnyL_one (i := 9) (by kernel_rfl) (by simp only [List.getElem?_toArray, List.getElem?_cons_succ, List.getElem?_cons_zero]; rfl) (fun K hK => ?_)
        go_simp
        refine hK.out _ _ (.inl (by decide)) ?_
        clear hK K
        try simp only [Act.put, List.setIfInBounds_toArray, List.set_cons_zero, List.set_cons_succ]
        refine noOutL_done (by kernel_rfl) ?_ _
        gi_wp2
        exact tol_next hT5 r0 r1 r2 hpm hb hsW HSN.out HSM.out (by omega)
  case done =>
    rintro D ys W hD rfl ⟨r0, hpm, hb, hsz, A1, n1, c1, A2, n2, c2, r1, r2, l1, l2, sp⟩ hK
    rw [List.length_range] at hpm
    omega
  case stop =>
    rintro D c' pre' W hD ⟨k, hpk⟩ ⟨rfl, pre, x, e1, e2, r0, hpm, hb, hsz, A1, n1, c1, A2, n2, c2, r1, r2, l1, l2, sp⟩ hK
    have hpre : pre = List.range most := by
      rw [e1] at hpk
      have hk : most < k := by
        have := congrArg List.length hpk
        simp at this
        omega
      have := congrArg (List.take most) hpk
      rw [List.take_range, Nat.min_eq_left (by omega), List.take_append_of_le_length (by omega), List.take_of_length_le (by omega)] at this
      exact this
    rw [hpre] at l1 l2
    have hn1 : n1 = most := by rw [← l1.1, idxV_len, List.length_range]
    have hn2 : n2 = most := by rw [← l2.1, numV_len, List.length_range]
    subst hn1
    subst hn2
    have d1 := r1.cell 0 rfl
    have d2 := r2.cell 0 rfl
    have L1 := Lib.hid l1
    have L2 := Lib.hid l2
    clear hpre e1 hpk q0 q1 q2 q3 q4 hNN l1 l2 r1 r2 r0 e2
    gi_wp2
    gi_quiet (fail)
    gi_wp2
    refine ⟨by simp, .inl ⟨_, _, rfl, run_takeDeferred hK, ?_⟩⟩
    refine ⟨.tuple #[.slice A1 n2 c1, .slice A2 n2 c2], by simp [results, Try.results6, go_sem], ?_⟩
    have hne : ∀ {e : TypeId} {F : Nat → Prop} {A : Option Addr} {n c : Nat} {ls : List Value} (q : Nat), Lst e F W A n c ls → RdV ((W.drewN q).putObj D (.deferred none)) A n c ls := fun q hl => by
      refine Lst.rdv (hl.same fun ad he => ?_)
      show (((W.drewN q).putObj D (.deferred none)).heap[ad.block]? = W.heap[ad.block]?)
      rw [World.putObj_heap_other]
      · rfl
      · rintro rfl
        rcases hl.2.2.2.2 with ⟨rfl, _⟩ | ⟨g', o', cur, rfl, _, hh, _⟩
        · cases he
        · injection he with he
          subst he
          rw [hh] at hK
          cases hK
    refine ⟨A1, c1, A2, c2, rfl, hne _ L1.out, hne _ L2.out, ⟨hb.os, hb.tape, hb.output, by have := hb.size; simp [World.putObj]; omega, fun k hk => ?_⟩⟩
    rw [World.putObj_heap_other (by omega)]
    exact hb.block k hk
end Go.Proofs.Ytofjnpcfdmkdoaa
