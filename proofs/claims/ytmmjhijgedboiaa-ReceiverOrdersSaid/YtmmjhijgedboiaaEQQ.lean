/- Pieces as values; what fits; counts; bytes cloned and compared. -/
import Derived.Test.YtmmjhijgedboiaaEYZ
import Derived.Test.YtmmjhijgedboiaaLsr
import Derived.Test.YtmmjhijgedboiaaItrM
import Derived.Test.YtmmjhijgedboiaaKit3
import Derived.BigQuiet
import Derived.Deep.QuietTactic
import Derived.WalkSpells
import Derived.Test.YtmmjhijgedboiaaLsrI
import Derived.Test.YtmmjhijgedboiaaJ13
import Derived.Deep.Cut
import Derived.Deep.CutRange
import Derived.Deep.CutBlock
import Derived.Test.YtmmjhijgedboiaaOpenV
set_option linter.unusedSimpArgs false
set_option linter.unusedVariables false
set_option maxRecDepth 100000
namespace Go.Proofs.Ytmmjhijgedboiaa
open Go.RowKit Go.Shelf

/-- What a piece says. -/
structure Pp where
  xs : List Int
  en : Bool
  fn : Bool
/-- A piece as a value: its bytes' slice, what that reads, its two marks. -/
structure Pc where
  A : Option Addr
  n : Nat
  c : Nat
  xs : List Int
  en : Bool
  fn : Bool
def Pc.say (q : Pc) : Pp := ⟨q.xs, q.en, q.fn⟩
def Pc.cl (q : Pc) : List Value := [.slice q.A q.n q.c, .bool q.en, .bool q.fn]
theorem Pc.cl_len (q : Pc) : q.cl.length = 3 := rfl
theorem Pc.cl_one (q : Pc) : ∀ v ∈ q.cl, v.oneCell' = true := by
  intro v hv
  simp only [Pc.cl, List.mem_cons, List.not_mem_nil, or_false] at hv
  rcases hv with rfl | rfl | rfl <;> rfl
def zsC : List Value := [.slice none 0 0, .bool false, .bool false]
def zPc : Pc := ⟨none, 0, 0, [], false, false⟩
theorem eltC : EltS Try.prog 101 104 zsC 32 := ⟨rfl, by kernel_rfl, by intro v hv; exact zPc.cl_one v hv, by decide, by decide, ⟨_, rfl, by decide⟩, by decide⟩
theorem rowC : Row Try.prog 104 3 := eltC.row
/-! ### What fits; how many -/
def fitB (n m : Int) : Bool := decide (1 ≤ n ∧ n ≤ 65536 ∧ 1 ≤ m ∧ m ≤ 1024)
def cntV (n m : Int) : Int := if fitB n m = true then (n + m - 1) / m else 0
theorem fit_of {n m : Int} (h : fitB n m = true) : 1 ≤ n ∧ n ≤ 65536 ∧ 1 ≤ m ∧ m ≤ 1024 := by simpa [fitB] using h
theorem fit_not {n m : Int} (h : fitB n m = false) : n < 1 ∨ (1 ≤ n ∧ 65536 < n) ∨ (1 ≤ n ∧ n ≤ 65536 ∧ m < 1) ∨ (1 ≤ n ∧ n ≤ 65536 ∧ 1 ≤ m ∧ 1024 < m) := by
  simp only [fitB, decide_eq_false_iff_not] at h; omega
theorem rcount_any (n m : Int) (w : World) : Calls Try.prog 74 #[.int .i64 n, .int .i64 m] w fun e w' => e = .returned (.int .i64 (cntV n m)) ∧ w = w' := by
  cases h : fitB n m with
  | true =>
    obtain ⟨h1, h2, h3, h4⟩ := fit_of h
    have HV : Hid (cntV n m = (n + m - 1).tdiv m) := Lib.hid (by unfold cntV; rw [if_pos h, Int.tdiv_eq_ediv_of_nonneg (by omega)])
    have hle : (n + m - 1).tdiv m ≤ n + m - 1 := by rw [Int.tdiv_eq_ediv_of_nonneg (by omega)]; exact Int.ediv_le_self _ (by omega)
    have hge : 0 ≤ (n + m - 1).tdiv m := by rw [Int.tdiv_eq_ediv_of_nonneg (by omega)]; exact Int.ediv_nonneg (by omega) (by omega)
    have hm0 : m ≠ 0 := by omega
    clear h
    go_enter Try.func74, Try.ntmps74
    go_wp2
    go_ret
    exact ⟨by rw [HV.out] <;> rfl, rfl⟩
  | false =>
    have HV : Hid (cntV n m = 0) := Lib.hid (by unfold cntV; rw [if_neg (by rw [h]; simp)])
    rcases fit_not h with h1 | ⟨h1, h2⟩ | ⟨h1, h2, h3⟩ | ⟨h1, h2, h3, h4⟩
    all_goals
      clear h
      go_enter Try.func74, Try.ntmps74
      go_wp2
      go_ret
      exact ⟨by rw [HV.out] <;> rfl, rfl⟩

/-! ### Bytes -/
end Go.Proofs.Ytmmjhijgedboiaa
namespace Go.Proofs.Ytmmjhijgedboiaa
open Go.RowKit Go.Shelf

/-! ### What a message's pieces say -/
def cutN (l m : Nat) : Nat := (l + m - 1) / m
def cutP (xs : List Int) (m i : Nat) : Pp := ⟨(xs.drop (i * m)).take m, decide (i + 1 = cutN xs.length m), false⟩
def cutL (xs : List Int) (m : Nat) : List Pp := (List.range (cutN xs.length m)).map (cutP xs m)
theorem cutN_lt {l m k : Nat} (hm : 1 ≤ m) : k < cutN l m ↔ k * m < l := by
  unfold cutN
  rw [show k < (l + m - 1) / m ↔ k + 1 ≤ (l + m - 1) / m from Iff.rfl, Nat.le_div_iff_mul_le (by omega), Nat.add_mul]
  omega
theorem cutN_last {l m k : Nat} (hm : 1 ≤ m) (hk : k * m < l) : k + 1 = cutN l m ↔ l ≤ k * m + m := by
  have h1 := (cutN_lt (l := l) (k := k) hm).2 hk
  have h2 := cutN_lt (l := l) (m := m) (k := k + 1) hm
  rw [Nat.add_mul, Nat.one_mul] at h2
  omega
theorem cutL_len (xs : List Int) (m : Nat) : (cutL xs m).length = cutN xs.length m := by simp [cutL]
theorem cutL_at (xs : List Int) (m : Nat) {i : Nat} (hi : i < cutN xs.length m) : (cutL xs m)[i]? = some (cutP xs m i) := by simp [cutL, hi]
theorem cutL_take (xs : List Int) (m : Nat) {i : Nat} (hi : i < cutN xs.length m) : (cutL xs m).take (i + 1) = (cutL xs m).take i ++ [cutP xs m i] := by
  rw [List.take_add_one, cutL_at xs m hi]; rfl
theorem cntV_cut {n m : Nat} (h : fitB n m = true) : cntV n m = cutN n m := by
  obtain ⟨h1, h2, h3, h4⟩ := fit_of h
  unfold cntV cutN
  rw [if_pos h, show (n : Int) + m - 1 = ((n + m - 1 : Nat) : Int) from by omega, ← Int.natCast_ediv]

/-! ### Cells that stay -/
/-- Whatever is cells stays. -/
def KpC (w w' : World) : Prop := w.heap.size ≤ w'.heap.size ∧ ∀ (k : Nat) (o : Obj), w.heap[k]? = some o → o.isCells = true → w'.heap[k]? = some o
theorem KpC.below {w w' : World} (h : Below w.heap.size w w') : KpC w w' := ⟨h.size, fun k o ho _ => (h.block k (Array.getElem?_eq_some_iff.1 ho).1).trans ho⟩
theorem KpC.grown {w w' : World} {row : Option Nat} (h : w.grownBy w' row) (hr : ∀ r, row = some r → ∃ o : Obj, w.heap[r]? = some o ∧ o.isCells = false) : KpC w w' :=
  ⟨h.size, fun k o ho hc => (h.block k (Array.getElem?_eq_some_iff.1 ho).1 (fun e => by
    obtain ⟨o', ho', hc'⟩ := hr k e.symm
    rw [ho] at ho'
    injection ho' with ho'
    subst ho'
    rw [hc] at hc'
    cases hc')).trans ho⟩
theorem KpC.bk {w w' : World} (h : KpC w w') {t : TypeId} {g : Nat} {vs : List Value} (hb : Bk w t g vs) : Bk w' t g vs := h.2 _ _ hb rfl
theorem LstR.tyd {sz : Nat} {t : TypeId} {F : Nat → Prop} {w : World} {A : Option Addr} {n c : Nat} {cs : List Value} (h : LstR sz t F w A n c cs) : ∀ k, BlkOf A k → Tyd t w k := by
  rintro k ⟨ad, he, rfl⟩
  rcases h.2.2.2.2 with ⟨rfl, _⟩ | ⟨g, o, cur, rfl, _, hh, _⟩
  · cases he
  · injection he with he
    subst he
    exact ⟨cur, _, hh⟩
/-! ### A slice of bytes in a block of bytes -/
section
variable {w w' : World} {A : Option Addr} {n c : Nat} {xs : List Int}
theorem BsR.kc (h : BsR w A n c xs) (hk : KpC w w') : BsR w' A n c xs := h.keep hk.1 fun ad he => by
  obtain ⟨cur, fz, ht⟩ := h.2 _ ⟨ad, he, rfl⟩
  rw [hk.2 _ _ ht rfl, ht]
end
/-- A piece's bytes, in a block of bytes. -/
def PcR (w : World) (q : Pc) : Prop := BsR w q.A q.n q.c q.xs
/-- Pieces in a list that reads. -/
def SlC (w : World) (A : Option Addr) (n c : Nat) (ps : List Pp) : Prop :=
  ∃ qs : List Pc, n = qs.length ∧ RdR 3 w A n c (flat Pc.cl qs) ∧ qs.map Pc.say = ps ∧ ∀ q ∈ qs, Rd .u8 w q.A q.n q.c q.xs
/-- Pieces in a list of the call's own. -/
def LstP (F : Nat → Prop) (w : World) (A : Option Addr) (n c : Nat) (ps : List Pp) : Prop :=
  ∃ qs : List Pc, n = qs.length ∧ LstR 3 104 F w A n c (flat Pc.cl qs) ∧ qs.map Pc.say = ps ∧ ∀ q ∈ qs, PcR w q
section
variable {w w' : World} {A : Option Addr} {n c : Nat} {ps : List Pp} {F F' : Nat → Prop}
theorem SlC.below (h : SlC w A n c ps) (hb : Below w.heap.size w w') : SlC w' A n c ps := by
  obtain ⟨qs, h1, h2, h3, h4⟩ := h
  exact ⟨qs, h1, h2.below hb, h3, fun q hq => (h4 q hq).below hb⟩
theorem SlC.len (h : SlC w A n c ps) : ps.length = n := by
  obtain ⟨qs, h1, h2, h3, h4⟩ := h
  rw [← h3, List.length_map, h1]
theorem SlC.cap (h : SlC w A n c ps) : n ≤ c ∧ c ≤ maxLen := by
  obtain ⟨qs, h1, h2, h3, h4⟩ := h
  exact ⟨h2.2.1, h2.2.2.1⟩
theorem SlC.nil (w : World) : SlC w none 0 0 [] := ⟨[], rfl, RdR.nil _ _, rfl, by simp⟩
theorem SlC.row (h : SlC w A n c ps) {i : Nat} (hi : i < n) : ∃ (g o : Nat) (q : Pc), A = some ⟨g, o, none⟩ ∧ w.rangeAt g (o + i * 3) q.cl ∧ Rd .u8 w q.A q.n q.c q.xs ∧ ps[i]? = some q.say ∧ g < w.heap.size := by
  obtain ⟨qs, h1, h2, h3, h4⟩ := h
  obtain ⟨g, o, hA, hg, hra⟩ := h2.range hi
  have hl : i < qs.length := by omega
  rw [flat_row Pc.cl_len qs i hl] at hra
  exact ⟨g, o, qs[i], hA, hra, h4 _ (List.getElem_mem _), by rw [← h3, List.getElem?_map, List.getElem?_eq_getElem hl]; rfl, hg⟩
theorem flat_take (qs : List Pc) (k : Nat) (hk : k ≤ qs.length) : flat Pc.cl (qs.take k) = (flat Pc.cl qs).take (k * 3) := by
  have e : flat Pc.cl qs = flat Pc.cl (qs.take k) ++ flat Pc.cl (qs.drop k) := by rw [← flat_app, List.take_append_drop]
  have hl : (flat Pc.cl (qs.take k)).length = k * 3 := by rw [flat_len Pc.cl_len, List.length_take, Nat.min_eq_left hk]
  rw [e, ← hl, List.take_left]
theorem SlC.pre (h : SlC w A n c ps) {k : Nat} (hk : k ≤ n) : SlC w A k c (ps.take k) := by
  obtain ⟨qs, h1, h2, h3, h4⟩ := h
  refine ⟨qs.take k, by rw [List.length_take]; omega, ?_, by rw [List.map_take, h3], fun q hq => h4 q (List.mem_of_mem_take hq)⟩
  obtain ⟨r1, r2, r3, r4, r5, r6⟩ := h2
  rw [flat_take qs k (by omega)]
  refine ⟨by rw [List.length_take, r1]; omega, by omega, r3, r4, fun v hv => r5 v (List.mem_of_mem_take hv), fun hk0 => ?_⟩
  obtain ⟨g, o, e, hg, hx⟩ := r6 (by omega)
  refine ⟨g, o, e, hg, fun i hi => ?_⟩
  rw [hx i (by omega), List.getElem?_take, if_pos hi]
theorem LstP.sl (h : LstP F w A n c ps) : SlC w A n c ps := by
  obtain ⟨qs, h1, h2, h3, h4⟩ := h
  exact ⟨qs, h1, h2.rd, h3, fun q hq => (h4 q hq).1⟩
theorem LstP.nil (F : Nat → Prop) (w : World) : LstP F w none 0 0 [] := ⟨[], rfl, LstR.nil _ _ _ _, rfl, by simp⟩
theorem LstP.mono (h : LstP F w A n c ps) (hF : ∀ k, F k → F' k) : LstP F' w A n c ps := by
  obtain ⟨qs, h1, h2, h3, h4⟩ := h
  exact ⟨qs, h1, h2.mono hF, h3, h4⟩
theorem LstP.kc (h : LstP F w A n c ps) (hk : KpC w w') : LstP F w' A n c ps := by
  obtain ⟨qs, h1, h2, h3, h4⟩ := h
  refine ⟨qs, h1, h2.same fun ad he => ?_, h3, fun q hq => BsR.kc (h4 q hq) hk⟩
  obtain ⟨cur, fz, ht⟩ := h2.tyd _ ⟨ad, he, rfl⟩
  rw [hk.2 _ _ ht rfl, ht]
theorem LstP.below (h : LstP F w A n c ps) (hb : Below w.heap.size w w') : LstP F w' A n c ps := h.kc (KpC.below hb)
theorem LstP.len (h : LstP F w A n c ps) : ps.length = n := h.sl.len
theorem LstP.blk (h : LstP F w A n c ps) : ∀ ad, A = some ad → F ad.block ∧ ad.block < w.heap.size := by
  obtain ⟨qs, h1, h2, h3, h4⟩ := h
  exact h2.blk
end
/-- A list of pieces of its own, just made. -/
def MadeC (ps : List Pp) (w : World) (A : Option Addr) (n c : Nat) (w' : World) : Prop := LstP (w.heap.size ≤ ·) w' A n c ps ∧ Below w.heap.size w w'

/-! ### A list of pieces that is gathered in a variable -/
/-- Variable v holds a list of pieces in memory of the call's own (from w's end on); what was there before the call (w) stays. -/
structure ColP (w : World) (v : Nat) (ps : List Pp) (W : World) : Prop where
  bel : Below w.heap.size w W
  ex : ∃ A n c, Bk W 101 v [.slice A n c] ∧ LstP (fun k => w.heap.size ≤ k ∧ k ≠ v) W A n c ps
section
variable {w W W' : World} {v : Nat} {ps : List Pp}
theorem ColP.own {B : Nat} {row : Option Nat} (h : ColP w v ps W) (hwB : w.heap.size ≤ B) (hw : W.grownBy W' row)
    (hr : ∀ r, row = some r → B ≤ r ∧ ∃ o : Obj, W.heap[r]? = some o ∧ o.isCells = false) : ColP w v ps W' := by
  obtain ⟨h1, A, n, c, h3, h4⟩ := h
  have hk := KpC.grown hw (fun r e => (hr r e).2)
  refine ⟨⟨hw.os.trans h1.os, hw.tape.trans h1.tape, hw.output.trans h1.output, Nat.le_trans h1.size hw.size, fun k hk' => ?_⟩, A, n, c, hk.bk h3, h4.kc hk⟩
  exact (hw.block k (by have := h1.size; omega) (fun e => by have := (hr _ e.symm).1; omega)).trans (h1.block k hk')
theorem ColP.next (h : ColP w v ps W) (hb : Below W.heap.size W W') : ColP w v ps W' := by
  obtain ⟨h1, A, n, c, h3, h4⟩ := h
  exact ⟨h1.trans (hb.mono h1.size), A, n, c, h3.below hb, h4.below hb⟩
/-- What a round keeps: what lay below n0; what is no cells, from N on; all cells but those of pieces and of lists of pieces. -/
def KpT (n0 N : Nat) (W W' : World) : Prop := W.heap.size ≤ W'.heap.size ∧ ∀ (k : Nat) (o : Obj), W.heap[k]? = some o → (k < n0 ∨ (N ≤ k ∧ o.isCells = false) ∨ ∃ cur t fz, o = .cells cur t fz ∧ t ≠ 104 ∧ t ≠ 101) → W'.heap[k]? = some o
theorem KpT.refl (n0 N : Nat) (W : World) : KpT n0 N W W := ⟨Nat.le_refl _, fun _ _ h _ => h⟩
theorem KpT.trans {n0 N : Nat} {A B C : World} (h : KpT n0 N A B) (k : KpT n0 N B C) : KpT n0 N A C := ⟨Nat.le_trans h.1 k.1, fun i o hi ho => k.2 i o (h.2 i o hi ho) ho⟩
theorem KpT.up {n0 N N' : Nat} {A B : World} (h : KpT n0 N A B) (hN : N ≤ N') : KpT n0 N' A B := ⟨h.1, fun i o hi ho => h.2 i o hi (by
  rcases ho with h | ⟨h, h'⟩ | h
  · exact .inl h
  · exact .inr (.inl ⟨by omega, h'⟩)
  · exact .inr (.inr h))⟩
theorem KpT.below {n0 N : Nat} {A B : World} (h : Below A.heap.size A B) : KpT n0 N A B := ⟨h.size, fun k o hk _ => (h.block k (Array.getElem?_eq_some_iff.1 hk).1).trans hk⟩
theorem KpT.put {n0 N l : Nat} (W : World) (o o' : Obj) (hl : l < N) (ho : W.heap[l]? = some o) (h0 : n0 ≤ l) (hc : o.isCells = false) : KpT n0 N W (W.putObj l o') := by
  refine ⟨by simp [World.putObj], fun k x hk hx => ?_⟩
  rw [World.putObj_heap_other ?_]
  · exact hk
  · rintro rfl
    rw [ho] at hk
    injection hk with hk
    subst hk
    rcases hx with h | ⟨h, _⟩ | ⟨cur, t, fz, rfl, _⟩
    · omega
    · omega
    · cases hc
theorem KpT.bk {n0 N g : Nat} {A B : World} {t : TypeId} {vs : List Value} (h : KpT n0 N A B) (hb : Bk A t g vs) (h1 : t ≠ 104) (h2 : t ≠ 101) : Bk B t g vs := h.2 _ _ hb (.inr (.inr ⟨_, _, _, rfl, h1, h2⟩))
theorem KpT.from {n0 N B : Nat} {X Y : World} (h : KpT n0 N X Y) (hB : N ≤ B) : KeepsFrom B X Y := ⟨h.1, fun k o hk h0 hc => h.2 k o h0 (.inr (.inl ⟨by omega, hc⟩))⟩
/-- A slice of bytes that the rounds keep: below n0, or in a block of bytes. -/
def BsK (n0 : Nat) (w : World) (A : Option Addr) (n c : Nat) (xs : List Int) : Prop := Rd .u8 w A n c xs ∧ (0 < n → ∀ k, BlkOf A k → k < n0 ∨ Tyd 5 w k)
theorem BsK.kp {n0 N : Nat} {w w' : World} {A : Option Addr} {n c : Nat} {xs : List Int} (h : BsK n0 w A n c xs) (hk : KpT n0 N w w') : BsK n0 w' A n c xs := by
  have hbl : 0 < n → ∀ ad, A = some ad → w'.heap[ad.block]? = w.heap[ad.block]? := fun hn ad he => by
    have hlt := h.1.blk hn ad he
    have hsome : w.heap[ad.block]? = some w.heap[ad.block] := Array.getElem?_eq_getElem hlt
    rcases h.2 hn _ ⟨ad, he, rfl⟩ with h1 | ⟨cur, fz, h1⟩
    · rw [hk.2 _ _ hsome (.inl h1), hsome]
    · rw [hk.2 _ _ h1 (.inr (.inr ⟨_, _, _, rfl, by decide, by decide⟩)), h1]
  refine ⟨?_, fun hn k hkb => ?_⟩
  · obtain ⟨h1, h2, h3, h4, h5, h6⟩ := h.1
    refine ⟨h1, h2, h3, h4, h5, fun hn => ?_⟩
    obtain ⟨g, o, e, hg, hx⟩ := h6 hn
    exact ⟨g, o, e, by have := hk.1; omega, fun i hi => (World.cell?_of_block (a := ⟨g, o + i, none⟩) (hbl hn ⟨g, o, none⟩ e)).trans (hx i hi)⟩
  · rcases h.2 hn k hkb with h1 | ⟨cur, fz, h1⟩
    · exact .inl h1
    · obtain ⟨ad, he, rfl⟩ := hkb
      exact .inr ⟨cur, fz, (hbl hn ad he).trans h1⟩
theorem BsK.below {n0 : Nat} {w w' : World} {A : Option Addr} {n c : Nat} {xs : List Int} (h : BsK n0 w A n c xs) (hb : Below w.heap.size w w') : BsK n0 w' A n c xs := h.kp (KpT.below (N := 0) hb)
theorem BsR.bsk {n0 : Nat} {w : World} {A : Option Addr} {n c : Nat} {xs : List Int} (h : BsR w A n c xs) : BsK n0 w A n c xs := ⟨h.1, fun _ k hk => .inr (h.2 k hk)⟩
/-- What an append of one piece to a variable's list leaves. -/
theorem ColP.step {A A' : Option Addr} {n c n' c' : Nat} {q : Pc} {w2 : World} {N : Nat} (hb : Below w.heap.size w W) (r : Bk W 101 v [.slice A n c]) (qs : List Pc) (hn : n = qs.length) (hl : LstR 3 104 (fun k => w.heap.size ≤ k ∧ k ≠ v) W A n c (flat Pc.cl qs)) (hps : qs.map Pc.say = ps) (hqs : ∀ q ∈ qs, PcR W q)
    (hwv : w.heap.size ≤ v) (hq : PcR W q) (o : Obj) (hap : ApdR 3 104 (BlkOf A) (W.alloc o) (.slice A' n' c') (flat Pc.cl qs ++ q.cl) w2) :
    KpT w.heap.size N W (w2.setCell ⟨v, 0, none⟩ (.slice A' n' c')) ∧ KeepsOthers W (w2.setCell ⟨v, 0, none⟩ (.slice A' n' c')) ∧ ColP w v (ps ++ [q.say]) (w2.setCell ⟨v, 0, none⟩ (.slice A' n' c')) ∧
      ∀ t g vs, Bk W t g vs → t ≠ 104 → t ≠ 101 → Bk (w2.setCell ⟨v, 0, none⟩ (.slice A' n' c')) t g vs := by
  obtain ⟨⟨A2, n2, c2, he, hl'⟩, hst⟩ := hap
  injection he with e1 e2 e3
  subst e1 e2 e3
  have hA : ∀ k, BlkOf A k → w.heap.size ≤ k ∧ k ≠ v := by rintro k ⟨ad, he, rfl⟩; exact (hl.blk ad he).1
  have hba : Below W.heap.size W (W.alloc o) := (Below.refl _ _).alloc (Nat.le_refl _) _
  have hta := (hl.alloc o).tyd
  have htv := r.tyd
  have hDF : LstR 3 104 (fun k => w.heap.size ≤ k ∧ k ≠ v) w2 A' n' c' (flat Pc.cl qs ++ q.cl) := hl'.mono (by
    rintro k (hk | hk)
    · exact hA k hk
    · have := hba.size; have := hb.size; have := r.lt; omega)
  have hnb : ∀ k, BlkOf A k → ¬ Tyd 5 (W.alloc o) k := fun k hk => (hta k hk).ne (by decide)
  have hvA : ¬ BlkOf A v := fun hk => (hA v hk).2 rfl
  have hq2 : ∀ q', PcR W q' → PcR w2 q' := fun q' hq' => BsR.stT (BsR.below hq' hba) hst hnb
  have hfar : ∀ q', PcR w2 q' → PcR (w2.setCell ⟨v, 0, none⟩ (.slice A' n' c')) q' := fun q' hq' => by
    have rv : Bk w2 101 v [.slice A n c] := (r.alloc o).st hst hvA
    refine BsR.keep hq' (by simp [World.setCell]) fun ad he => Below.heap_setCell _ _ _ _ ?_
    rintro rfl
    exact (rv.tyd.ne (by decide)) (hq'.2 _ ⟨ad, he, rfl⟩)
  have hfull : ∀ k o', W.heap[k]? = some o' → k ≠ v → ¬ BlkOf A k → (w2.setCell ⟨v, 0, none⟩ (.slice A' n' c')).heap[k]? = some o' := fun k o' ho hkv hkA => by
    have hk := (Array.getElem?_eq_some_iff.1 ho).1
    rw [Below.heap_setCell _ _ _ _ (by simpa using hkv), hst.block k (by have := hba.size; omega) hkA, hba.block k hk]
    exact ho
  have hAt : ∀ k, BlkOf A k → ∃ cur fz, W.heap[k]? = some (.cells cur 104 fz) := hl.tyd
  have hsz : W.heap.size ≤ (w2.setCell ⟨v, 0, none⟩ (.slice A' n' c')).heap.size := by have := hba.size; have := hst.size; simp [World.setCell]; omega
  refine ⟨⟨hsz, fun k o' ho hx => ?_⟩, ⟨hsz, fun k o' ho hc => ?_⟩, ⟨⟨?_, ?_, ?_, by have := hb.size; omega, fun k hk => ?_⟩, A', n', c', ?_, qs ++ [q], ?_, ?_, by rw [List.map_append, hps]; rfl, fun q' hq' => ?_⟩, fun t g vs hbk h1 h2 => ?_⟩
  · refine hfull k o' ho ?_ ?_
    · rintro rfl
      have r' : W.heap[k]? = _ := r
      rw [r'] at ho
      injection ho with ho
      subst ho
      rcases hx with h | ⟨_, h⟩ | ⟨cur, t, fz, h, _, h2⟩
      · omega
      · cases h
      · injection h with _ h; exact h2 h.symm
    · intro hkA
      obtain ⟨cur, fz, hc⟩ := hAt k hkA
      rw [hc] at ho
      injection ho with ho
      subst ho
      rcases hx with h | ⟨_, h⟩ | ⟨cur, t, fz, h, h1, _⟩
      · have := hA k hkA; omega
      · cases h
      · injection h with _ h; exact h1 h.symm
  · refine hfull k o' ho ?_ ?_
    · rintro rfl
      have r' : W.heap[k]? = _ := r
      rw [r'] at ho
      injection ho with ho
      subst ho
      cases hc
    · intro hkA
      obtain ⟨cur, fz, hc'⟩ := hAt k hkA
      rw [hc'] at ho
      injection ho with ho
      subst ho
      cases hc
  · exact hst.os.trans hb.os
  · exact hst.tape.trans hb.tape
  · exact hst.output.trans hb.output
  · have hkW : k < W.heap.size := by have := hb.size; omega
    rw [hfull k _ (Array.getElem?_eq_getElem hkW) (by omega) (fun hkA => by have := hA k hkA; omega), ← Array.getElem?_eq_getElem hkW]
    exact hb.block k hk
  · exact ((r.alloc o).st hst hvA).set 0 _
  · have := hl'.1
    rw [← flat_one (cl := Pc.cl), ← flat_app, flat_len Pc.cl_len] at this
    omega
  · rw [flat_app, flat_one]
    exact hDF.far (fun ad he hne => (hDF.blk ad he).1.2 hne) _
  · rcases List.mem_append.1 hq' with h | h
    · exact hfar _ (hq2 _ (hqs q' h))
    · obtain rfl : q' = q := by simpa using h
      exact hfar _ (hq2 _ hq)
  · refine hfull g _ hbk ?_ ?_
    · rintro rfl
      exact (hbk.tyd.ne h2) htv
    · intro hkA
      exact (hbk.tyd.ne h1) (hl.tyd g hkA)
end
end Go.Proofs.Ytmmjhijgedboiaa
namespace Go.Proofs.Ytmmjhijgedboiaa
open Go.RowKit Go.Shelf
/-- What an iterator that hands on the pieces ps owes. -/
def Gv (n0 : Nat) (ps : List Pp) (fu : Nat) (g : Nat) (lb : Array Value) (w : World) : Prop :=
  GivesM Fence.wide fu Try.prog g lb (fun q : Pc => #[.agg #[.slice q.A q.n q.c, .bool q.en, .bool q.fn]]) (fun pre q W => ps[pre.length]? = some q.say ∧ PcR W q) (KpT n0) (fun ys => ys.map Pc.say = ps) (fun pre => ∃ k, pre.map Pc.say = ps.take k) w
attribute [local go_sem] Oper.semAt_some
end Go.Proofs.Ytmmjhijgedboiaa
namespace Go.Proofs.Ytmmjhijgedboiaa
open Go.RowKit Go.Shelf
def samB (p q : Pp) : Bool := p.en == q.en && p.fn == q.fn && eqS p.xs q.xs
theorem samB_refl (p : Pp) : samB p p = true := by simp [samB, eqS_refl]
end Go.Proofs.Ytmmjhijgedboiaa
namespace Go.Proofs.Ytmmjhijgedboiaa
open Go.RowKit Go.Shelf
/-- What an append of pieces to a list leaves. -/
theorem LstP.apps {F : Nat → Prop} {W W1 w2 : World} {A : Option Addr} {n c : Nat} {qs rs : List Pc} {v : Value} (hl : LstR 3 104 F W A n c (flat Pc.cl qs)) (hqs : ∀ q ∈ qs, PcR W q) (hrs : ∀ q ∈ rs, PcR W1 q)
    (hb : Below W.heap.size W W1) (hap : ApdR 3 104 (BlkOf A) W1 v (flat Pc.cl qs ++ flat Pc.cl rs) w2) :
    ∃ A' n' c', v = .slice A' n' c' ∧ LstP (fun k => F k ∨ W.heap.size ≤ k) w2 A' n' c' ((qs ++ rs).map Pc.say) ∧ St (BlkOf A) W w2 := by
  obtain ⟨⟨A', n', c', rfl, hl'⟩, hst⟩ := hap
  have hnb : ∀ k, BlkOf A k → ¬ Tyd 5 W1 k := fun k hk => ((hl.below hb).tyd k hk).ne (by decide)
  refine ⟨A', n', c', rfl, ⟨qs ++ rs, ?_, ?_, rfl, fun q hq => ?_⟩, (St.ext hb).trans hst (Gr.refl _ _)⟩
  · have := hl'.1
    rw [← flat_app, flat_len Pc.cl_len] at this
    omega
  · rw [flat_app]
    refine hl'.mono ?_
    rintro k (⟨ad, rfl, rfl⟩ | hk)
    · exact .inl (hl.blk _ rfl).1
    · exact .inr (Nat.le_trans hb.size hk)
  · rcases List.mem_append.1 hq with h | h
    · exact BsR.stT (BsR.below (hqs q h) hb) hst hnb
    · exact BsR.stT (hrs q h) hst hnb
set_option maxRecDepth 100000 in
set_option maxHeartbeats 4000000 in
theorem r_cut {w : World} {A : Option Addr} {n c : Nat} {xs : List Int} {m : Nat} (h : Rd .u8 w A n c xs) (hfit : fitB n m = true) :
    Calls Try.prog 66 #[.slice A n c, .int .i64 m] w fun e w' => ∃ A' n' c', e = .returned (.tuple #[.slice A' n' c', .int .i64 0]) ∧ MadeC (cutL xs m) w A' n' c' w' := by
  obtain ⟨hf1, hf2, hf3, hf4⟩ := fit_of hfit
  have HC := Lib.hid (cntV_cut hfit)
  have HX := Lib.hid h.1
  have hK : cutN n m ≤ n := Nat.le_of_not_lt fun hlt => by
    have h1 := (cutN_lt (l := n) (m := m) (k := n) (by omega)).1 hlt
    have h2 := Nat.le_mul_of_pos_right n (show 0 < m by omega)
    omega
  have hK1 : (1 : Int) ≤ cutN n m := by
    have := (cutN_lt (l := n) (m := m) (k := 0) (by omega)).2 (by omega)
    omega
  have hz0 : ((cutN n m : Int) == 0) = false := by simp; omega
  have HH := Lib.hid h
  have hcc := h.2.1
  have hcm := h.2.2.1
  unfold maxLen at hcm
  have HR := Lib.hid (rcount_any n m w)
  clear h hfit
  go_enter Try.func66, Try.ntmps66
  go_wp2_with fail
  refine HR.out.mono ?_
  rintro e w1 ⟨rfl, rfl⟩
  rw [HC.out]
  clear HR
  go_wp2
  go_loopw [7, 8, 9] (fun l i b wr => ∃ (k : Nat) (A1 : Option Addr) (n1 c1 : Nat), i = .int .i64 k ∧ k ≤ cutN n m ∧ l = .slice A1 n1 c1 ∧ LstP (w.heap.size ≤ ·) wr A1 n1 c1 ((cutL xs m).take k) ∧ Below w.heap.size w wr) (fun l i b _ => cutN n m - (intOf i).toNat)
  case atStart => exact ⟨0, none, 0, 0, rfl, Nat.zero_le _, rfl, LstP.nil _ _, Below.refl _ _⟩
  case round =>
    obtain ⟨k, A1, n1, c1, rfl, hk, rfl, hl, hb⟩ := hrel
    by_cases hlt : k < cutN n m
    · have hfn := (cutN_lt (l := n) (m := m) (k := k) (by omega)).1 hlt
      have hlast := cutN_last (l := n) (m := m) (k := k) (by omega) hfn
      obtain ⟨f, hf⟩ : ∃ f, f = k * m := ⟨_, rfl⟩
      rw [← hf] at hfn hlast
      have hkm : (k : Int) * (m : Int) = f := by rw [hf]; simp
      have hf0 : f ≤ 65536 := by omega
      obtain ⟨qs, hn1, hl, hps, hqs⟩ := hl
      have hql : qs.length = k := by
        have := congrArg List.length hps
        rw [List.length_map, List.length_take, cutL_len, HX.out] at this
        omega
      have hn8 : (n1 + 1) * 32 ≤ 140737488355328 := by omega
      have HQ := Lib.hid (And.intro hn1 (And.intro hl (And.intro hps hqs)))
      have HCT := Lib.hid (cutL_take xs m (i := k) (by rw [HX.out]; exact hlt))
      have HB := Lib.hid hb
      have hfI : (f : Int) < n := by omega
      have hkI : (k : Int) < cutN n m := by omega
      clear hn1 hps hqs hql hb
      by_cases hle : n ≤ f + m
      · have HCP : Hid (cutP xs m k = ⟨(xs.drop f).take (n - f), true, false⟩) := Lib.hid (by
          unfold cutP
          rw [← hf, HX.out, decide_eq_true (hlast.2 hle)]
          congr 1
          rw [List.take_of_length_le (by rw [List.length_drop, HX.out]; omega), List.take_of_length_le (by rw [List.length_drop, HX.out]; omega)])
        have hsl := fun W' => bytesT.run_cut2 A n c f (n - f) (by omega) hcc W'
        have hnf : (f : Int) + ((n - f : Nat) : Int) = n := by omega
        simp only [hnf] at hsl
        have hkl : (k : Int) = (cutN n m : Int) - 1 := by have := hlast.2 hle; omega
        have hkb : ((k : Int) == (cutN n m : Int) - 1) = true := by simpa using hkl
        have HRD := Lib.hid (((HH.out.below HB.out).cut (s := f) (by omega)).pre (s := n - f) (Nat.le_refl _))
        have hmf : n - f ≤ 65536 := by omega
        clear hlast hnf hkl hf
        rcases (by omega : (n : Int) < (f : Int) + m ∨ (f : Int) + m = n) with hl' | hl'
        all_goals
          go_wp2_with (first
            | (at_builtin
               refine wpList_append_ints bytesT rfl (.tmp 35) (.tmp 36) rfl rfl (w0 := wr) (xs := []) (Ow.empty .u8 5 wr) rfl (HRD.out.alloc _) (by simp; omega) (by omega) ((Below.refl _ _).alloc (Nat.le_refl _) _) ?_
               intro v1 w1 hown hb1
               simp only [List.nil_append] at hown
               obtain ⟨A2, c2, rfl⟩ := own_slice hown
               have HPC := Lib.hid (BsR.own (A := A2) (c := c2) hown HRD.out.2.2.2.2.1).1
               have HB1 := Lib.hid hb1
               generalize hln : ((xs.drop f).take (n - f)).length = ln at hown ⊢
               have HLN := Lib.hid hln
               have hla := ((hl.below hb1).alloc (.cells #[.slice A2 ln c2, .bool (true), .bool false] 104)).tight
               have hu := RdR.one w1 104 [.slice A2 ln c2, .bool (true), .bool false] (by simp [Value.oneCell'])
               clear hown hln hb1)
            | (refine wpList_build_row eltC rfl (.tmp 42) rfl (xs := [.slice A2 ln c2, .bool (true), .bool false]) rfl rfl ?_)
            | (at_builtin
               refine wpList_append_lstR eltC rfl (.tmp 34) (.tmp 43) rfl rfl hla rfl hu hn8 ?_
               rintro v w2 hap
               obtain ⟨A', n', c', rfl, hl'⟩ := hap.ex
               have HAP := Lib.hid hap
               clear hap hl'))
          have hba := HB1.out.trans ((Below.refl _ w1).alloc HB1.out.size (.cells #[.slice A2 ln c2, .bool true, .bool false] 104))
          obtain ⟨A3, n3, c3, e3, hL3, hS3⟩ := LstP.apps (rs := [⟨A2, ln, c2, (xs.drop f).take (n - f), true, false⟩]) HQ.out.2.1 HQ.out.2.2.2 (fun q hq => by
            obtain rfl : q = _ := by simpa using hq
            have := HPC.out
            rw [HLN.out] at this
            exact BsR.below this ((Below.refl _ w1).alloc (Nat.le_refl _) _)) hba HAP.out
          injection e3 with e1 e2 e3
          subst e1 e2 e3
          have HL3 := Lib.hid (hL3.mono (F' := (w.heap.size ≤ ·)) (fun k hk => by rcases hk with hk | hk; exact hk; exact Nat.le_trans HB.out.size hk))
          rw [List.map_append, HQ.out.2.2.1] at HL3
          have HB3 := Lib.hid (HB.out.trans (hS3.below HB.out.size (fun k hk => by obtain ⟨ad, he, rfl⟩ := hk; exact (HQ.out.2.1.blk ad he).1)))
          go_roundw
          case rel =>
            exact ⟨k + 1, A', n', c', by go_num, by omega, rfl, by rw [HCT.out, HCP.out]; exact HL3.out, HB3.out⟩
          case measure => simp [intOf]; omega
      · have hl' : (f : Int) + m < n := by omega
        have HCP : Hid (cutP xs m k = ⟨(xs.drop f).take m, false, false⟩) := Lib.hid (by
          unfold cutP
          rw [← hf, HX.out, decide_eq_false (fun h => hle (hlast.1 h))])
        have hsl := fun W' => bytesT.run_cut2 A n c f m (by omega) hcc W'
        have hkl : ¬ (k : Int) = (cutN n m : Int) - 1 := fun h => hle (hlast.1 (by omega))
        have hkb : ((k : Int) == (cutN n m : Int) - 1) = false := by simpa using hkl
        have HRD := Lib.hid (((HH.out.below HB.out).cut (s := f) (by omega)).pre (s := m) (by omega))
        have hmf : m ≤ 65536 := by omega
        clear hlast hkl hf
        go_wp2_with (first
          | (at_builtin
             refine wpList_append_ints bytesT rfl (.tmp 35) (.tmp 36) rfl rfl (w0 := wr) (xs := []) (Ow.empty .u8 5 wr) rfl (HRD.out.alloc _) (by simp; omega) (by omega) ((Below.refl _ _).alloc (Nat.le_refl _) _) ?_
             intro v1 w1 hown hb1
             simp only [List.nil_append] at hown
             obtain ⟨A2, c2, rfl⟩ := own_slice hown
             have HPC := Lib.hid (BsR.own (A := A2) (c := c2) hown HRD.out.2.2.2.2.1).1
             have HB1 := Lib.hid hb1
             generalize hln : ((xs.drop f).take m).length = ln at hown ⊢
             have HLN := Lib.hid hln
             have hla := ((hl.below hb1).alloc (.cells #[.slice A2 ln c2, .bool (false), .bool false] 104)).tight
             have hu := RdR.one w1 104 [.slice A2 ln c2, .bool (false), .bool false] (by simp [Value.oneCell'])
             clear hown hln hb1)
          | (refine wpList_build_row eltC rfl (.tmp 42) rfl (xs := [.slice A2 ln c2, .bool (false), .bool false]) rfl rfl ?_)
          | (at_builtin
             refine wpList_append_lstR eltC rfl (.tmp 34) (.tmp 43) rfl rfl hla rfl hu hn8 ?_
             rintro v w2 hap
             obtain ⟨A', n', c', rfl, hl'⟩ := hap.ex
             have HAP := Lib.hid hap
             clear hap hl'))
        have hba := HB1.out.trans ((Below.refl _ w1).alloc HB1.out.size (.cells #[.slice A2 ln c2, .bool false, .bool false] 104))
        obtain ⟨A3, n3, c3, e3, hL3, hS3⟩ := LstP.apps (rs := [⟨A2, ln, c2, (xs.drop f).take m, false, false⟩]) HQ.out.2.1 HQ.out.2.2.2 (fun q hq => by
          obtain rfl : q = _ := by simpa using hq
          have := HPC.out
          rw [HLN.out] at this
          exact BsR.below this ((Below.refl _ w1).alloc (Nat.le_refl _) _)) hba HAP.out
        injection e3 with e1 e2 e3
        subst e1 e2 e3
        have HL3 := Lib.hid (hL3.mono (F' := (w.heap.size ≤ ·)) (fun k hk => by rcases hk with hk | hk; exact hk; exact Nat.le_trans HB.out.size hk))
        rw [List.map_append, HQ.out.2.2.1] at HL3
        have HB3 := Lib.hid (HB.out.trans (hS3.below HB.out.size (fun k hk => by obtain ⟨ad, he, rfl⟩ := hk; exact (HQ.out.2.1.blk ad he).1)))
        go_roundw
        case rel =>
          exact ⟨k + 1, A', n', c', by go_num, by omega, rfl, by rw [HCT.out, HCP.out]; exact HL3.out, HB3.out⟩
        case measure => simp [intOf]; omega
    · obtain rfl : k = cutN n m := by omega
      rw [List.take_of_length_le (by rw [cutL_len, HX.out]; exact Nat.le_refl _)] at hl
      have HL := Lib.hid hl
      clear hl
      go_wp2
      go_ret2
      exact ⟨_, _, _, rfl, HL.out, hb⟩
theorem r_cut_no {w : World} {A : Option Addr} {n c : Nat} {m : Int} (hfit : fitB n m = false) :
    Calls Try.prog 66 #[.slice A n c, .int .i64 m] w fun e w' => e = .returned (.tuple #[.slice none 0 0, .int .i64 110]) ∧ w = w' := by
  have HC : Hid (cntV n m = 0) := Lib.hid (by unfold cntV; rw [if_neg (by rw [hfit]; simp)])
  clear hfit
  go_enter Try.func66, Try.ntmps66
  go_wp2_with fail
  refine (rcount_any n m w).mono ?_
  rintro e w1 ⟨rfl, rfl⟩
  rw [HC.out]
  go_wp2
  go_ret2
  exact ⟨rfl, rfl⟩
/-- What a message's pieces are, if it can be cut: both ways in one. -/
def cutsV (xs : List Int) (m : Int) : List Pp := if fitB xs.length m = true then cutL xs m.toNat else []
theorem cutsV_yes {xs : List Int} {n m : Nat} (hl : xs.length = n) (h : fitB n m = true) : cutsV xs m = cutL xs m := by
  unfold cutsV; rw [if_pos (by rw [hl]; exact h)]; simp
theorem cutsV_no {xs : List Int} {n : Nat} {m : Int} (hl : xs.length = n) (h : fitB n m = false) : cutsV xs m = [] := by
  unfold cutsV; rw [if_neg (by rw [hl, h]; simp)]
theorem fit_nat {n m : Int} (h : fitB n m = true) : ∃ k : Nat, m = k := ⟨m.toNat, by have := fit_of h; omega⟩
theorem LstP.madeNil (w : World) : MadeC [] w none 0 0 w := ⟨LstP.nil _ _, Below.refl _ _⟩
theorem r_cuts {w : World} {A : Option Addr} {n c : Nat} {xs : List Int} {m : Int} (h : Rd .u8 w A n c xs) :
    Calls Try.prog 66 #[.slice A n c, .int .i64 m] w fun e w' => ∃ A' n' c' err, e = .returned (.tuple #[.slice A' n' c', .int .i64 err]) ∧ err = (if fitB n m = true then 0 else 110) ∧ MadeC (cutsV xs m) w A' n' c' w' := by
  cases hf : fitB n m with
  | true =>
    obtain ⟨k, rfl⟩ := fit_nat hf
    refine (r_cut h hf).mono ?_
    rintro e w' ⟨A', n', c', rfl, hm⟩
    exact ⟨A', n', c', 0, rfl, by simp, by rw [cutsV_yes h.1 hf]; exact hm⟩
  | false =>
    refine (r_cut_no hf).mono ?_
    rintro e w' ⟨rfl, rfl⟩
    exact ⟨none, 0, 0, 110, rfl, by simp, by rw [cutsV_no h.1 hf]; exact LstP.madeNil w⟩
end Go.Proofs.Ytmmjhijgedboiaa
namespace Go.Proofs.Ytmmjhijgedboiaa
open Go.RowKit Go.Shelf
/-- Messages in a list of the call's own. -/
def LsB (F : Nat → Prop) (w : World) (A : Option Addr) (n c : Nat) (ms : List (List Int)) : Prop :=
  ∃ bs : List Bs, Lst 30 F w A n c (bs.map Bs.val) ∧ bs.map Bs.xs = ms ∧ ∀ b ∈ bs, BsR w b.A b.n b.c b.xs
section
variable {F : Nat → Prop} {w w' : World} {A : Option Addr} {n c : Nat} {ms : List (List Int)}
theorem LsB.rd (h : LsB F w A n c ms) : SlB w A n c ms := by
  obtain ⟨bs, h1, h2, h3⟩ := h
  exact ⟨bs, h1.rdv, h2, fun b hb => (h3 b hb).1⟩
theorem LsB.nil (F : Nat → Prop) (w : World) : LsB F w none 0 0 [] := ⟨[], Lst.nil _ _ _, rfl, by simp⟩
theorem LsB.mono {F' : Nat → Prop} (h : LsB F w A n c ms) (hF : ∀ k, F k → F' k) : LsB F' w A n c ms := by
  obtain ⟨bs, h1, h2, h3⟩ := h
  exact ⟨bs, h1.mono hF, h2, h3⟩
theorem LsB.keep (h : LsB F w A n c ms) (hs : w.heap.size ≤ w'.heap.size) (hb : ∀ k t, Tyd t w k → t = 5 ∨ t = 30 → w'.heap[k]? = w.heap[k]?) : LsB F w' A n c ms := by
  obtain ⟨bs, h1, h2, h3⟩ := h
  exact ⟨bs, h1.same fun ad he => hb _ _ (h1.tyd _ ⟨ad, he, rfl⟩) (.inr rfl), h2, fun b hb' => BsR.keep (h3 b hb') hs fun ad he => hb _ _ ((h3 b hb').2 _ ⟨ad, he, rfl⟩) (.inl rfl)⟩
theorem LsB.kp {n0 N : Nat} (h : LsB F w A n c ms) (hk : KpT n0 N w w') : LsB F w' A n c ms := h.keep hk.1 fun k t ⟨cur, fz, ht⟩ hor => by
  rw [hk.2 _ _ ht (.inr (.inr ⟨_, _, _, rfl, by rcases hor with rfl | rfl <;> decide, by rcases hor with rfl | rfl <;> decide⟩)), ht]
theorem LsB.below (h : LsB F w A n c ms) (hb : Below w.heap.size w w') : LsB F w' A n c ms := h.kp (KpT.below (n0 := 0) (N := 0) hb)
/-- Message i of a list of the call's own. -/
theorem LsB.at (h : LsB F w A n c ms) {i : Nat} (hi : i < n) : ∃ (g o : Nat) (b : Bs), A = some ⟨g, o, none⟩ ∧ w.cell? ⟨g, o + i, none⟩ = some (.slice b.A b.n b.c) ∧ BsR w b.A b.n b.c b.xs ∧ ms[i]? = some b.xs := by
  obtain ⟨bs, h1, h2, h3⟩ := h
  have hl : i < bs.length := by have := h1.1; simp at this; omega
  obtain ⟨g, o, hA, hg, hx⟩ := h1.rdv.2.2.2.2.2 (by omega)
  refine ⟨g, o, bs[i], hA, ?_, h3 _ (List.getElem_mem _), by rw [← h2]; simp [hl]⟩
  rw [hx i hi]
  simp [hl, Bs.val]
/-- One message more. -/
theorem LsB.app {W W1 w2 : World} {b : Bs} {bs : List Bs} {v : Value} (h1 : Lst 30 F W A n c (bs.map Bs.val)) (h2 : bs.map Bs.xs = ms) (h3 : ∀ b ∈ bs, BsR W b.A b.n b.c b.xs) (hq : BsR W1 b.A b.n b.c b.xs) (hb : Below W.heap.size W W1)
    (hap : Apd 30 (BlkOf A) W1 v (bs.map Bs.val ++ [b.val]) w2) : ∃ A' n' c', v = .slice A' n' c' ∧ LsB (fun k => F k ∨ W.heap.size ≤ k) w2 A' n' c' (ms ++ [b.xs]) ∧ St (BlkOf A) W w2 := by
  obtain ⟨⟨A', n', c', rfl, hl'⟩, hst⟩ := hap
  have hnb : ∀ k, BlkOf A k → ¬ Tyd 5 W1 k := fun k hk => ((h1.below hb).tyd k hk).ne (by decide)
  refine ⟨A', n', c', rfl, ⟨bs ++ [b], ?_, by rw [List.map_append, h2]; rfl, fun q hq' => ?_⟩, (St.ext hb).trans hst (Gr.refl _ _)⟩
  · rw [List.map_append]
    refine hl'.mono ?_
    rintro k (⟨ad, rfl, rfl⟩ | hk)
    · exact .inl (h1.blk _ rfl).1
    · exact .inr (Nat.le_trans hb.size hk)
  · rcases List.mem_append.1 hq' with h | h
    · exact BsR.stT (BsR.below (h3 q h) hb) hst hnb
    · obtain rfl : q = b := by simpa using h
      exact BsR.stT hq hst hnb
end
/-- Those that can be cut. -/
def okM (m : Int) (ms : List (List Int)) : List (List Int) := ms.filter fun xs => fitB xs.length m
theorem okM_take (m : Int) (ms : List (List Int)) {k : Nat} {xs : List Int} (h : ms[k]? = some xs) : okM m (ms.take (k + 1)) = okM m (ms.take k) ++ (if fitB xs.length m = true then [xs] else []) := by
  unfold okM
  rw [List.take_add_one, h, List.filter_append]
  simp only [Option.toList_some, List.filter_cons, List.filter_nil]
end Go.Proofs.Ytmmjhijgedboiaa
namespace Go.Proofs.Ytmmjhijgedboiaa
open Go.RowKit Go.Shelf
def allP (m : Int) (ms : List (List Int)) : List Pp := ms.flatMap fun xs => cutL xs m.toNat
theorem allP_take (m : Int) (ms : List (List Int)) {k : Nat} {xs : List Int} (h : ms[k]? = some xs) : allP m (ms.take (k + 1)) = allP m (ms.take k) ++ cutL xs m.toNat := by
  unfold allP
  rw [List.take_add_one, h, List.flatMap_append]
  simp
theorem allP_split (m : Int) (ms : List (List Int)) {k : Nat} {xs : List Int} (h : ms[k]? = some xs) : allP m ms = allP m (ms.take k) ++ cutL xs m.toNat ++ allP m (ms.drop (k + 1)) := by
  rw [← allP_take m ms h]
  unfold allP
  rw [← List.flatMap_append, List.take_append_drop]
theorem allP_at (m : Int) (ms : List (List Int)) {k i : Nat} {xs : List Int} {p : Pp} (h : ms[k]? = some xs) (hp : (cutL xs m.toNat)[i]? = some p) : (allP m ms)[(allP m (ms.take k)).length + i]? = some p := by
  have hi := (List.getElem?_eq_some_iff.1 hp).1
  rw [allP_split m ms h, List.append_assoc, List.getElem?_append_right (by omega), Nat.add_sub_cancel_left, List.getElem?_append_left hi]
  exact hp
theorem app_take {α : Type} (P C R : List α) (i : Nat) : ∃ j, P ++ C.take i = (P ++ C ++ R).take j := by
  refine ⟨P.length + min i C.length, ?_⟩
  rw [List.append_assoc, List.take_append, List.take_of_length_le (l := P) (by omega), Nat.add_sub_cancel_left, List.take_append_of_le_length (Nat.min_le_right _ _)]
  rcases Nat.le_total i C.length with h1 | h1
  · rw [Nat.min_eq_left h1]
  · rw [Nat.min_eq_right h1, List.take_of_length_le h1, List.take_of_length_le (Nat.le_refl _)]
theorem allP_pre (m : Int) (ms : List (List Int)) {k : Nat} (i : Nat) {xs : List Int} (h : ms[k]? = some xs) : ∃ j, allP m (ms.take k) ++ (cutL xs m.toNat).take i = (allP m ms).take j := by
  rw [allP_split m ms h]
  exact app_take _ _ _ _
theorem KpT.grown {n0 N B : Nat} {W A A' : World} {row : Option Nat} (h : KpT n0 N W A) (hw : A.grownBy A' row) (hr : ∀ r, row = some r → B ≤ r ∧ ∃ o : Obj, A.heap[r]? = some o ∧ o.isCells = false) (hB : W.heap.size ≤ B) : KpT n0 N W A' :=
  ⟨Nat.le_trans h.1 hw.size, fun k o ho hx => by
    have h1 := h.2 k o ho hx
    have hk := (Array.getElem?_eq_some_iff.1 ho).1
    exact (hw.block k (Array.getElem?_eq_some_iff.1 h1).1 (fun e => by have := (hr _ e.symm).1; omega)).trans h1⟩
attribute [local go_sem] Oper.semAt_some
end Go.Proofs.Ytmmjhijgedboiaa
namespace Go.Proofs.Ytmmjhijgedboiaa
open Go.RowKit Go.Shelf
theorem allP_step (m : Int) (ms : List (List Int)) {k : Nat} {xs : List Int} (h : ms[k]? = some xs) : allP m (okM m (ms.take (k + 1))) = allP m (okM m (ms.take k)) ++ cutsV xs m := by
  rw [okM_take m ms h]
  unfold allP cutsV
  rw [List.flatMap_append]
  by_cases hf : fitB xs.length m = true
  · rw [if_pos hf, if_pos hf]; simp
  · rw [if_neg hf, if_neg hf]; simp
theorem allP_le (m : Int) (ms : List (List Int)) (k : Nat) : (allP m (okM m (ms.take k))).length ≤ (allP m (okM m ms)).length := by
  have h : ms = ms.take k ++ ms.drop k := (List.take_append_drop k ms).symm
  conv => rhs; rw [h]
  unfold okM allP
  rw [List.filter_append, List.flatMap_append, List.length_append]
  omega
set_option maxRecDepth 100000 in
set_option maxHeartbeats 4000000 in
theorem r_pieces {w : World} {A : Option Addr} {n c : Nat} {ms : List (List Int)} (m : Int) (h : SlB w A n c ms) (hn : n ≤ 100000) (hb0 : (allP m (okM m ms)).length ≤ 1000000) :
    Calls Try.prog 49 #[.int .i64 m, .slice A n c] w fun e w' => ∃ A' n' c', e = .returned (.slice A' n' c') ∧ MadeC (allP m (okM m ms)) w A' n' c' w' := by
  have HM := Lib.hid h.len
  have HH := Lib.hid h
  have HB0 := Lib.hid hb0
  clear h hb0
  go_enter Try.func49, Try.ntmps49
  go_wp2
  go_loopw [5, 6, 7, 8] (fun v i p q wr => ∃ (k : Nat) (A1 : Option Addr) (n1 c1 : Nat), i = .int .i64 k ∧ k ≤ n ∧ v = .slice A1 n1 c1 ∧ LstP (w.heap.size ≤ ·) wr A1 n1 c1 (allP m (okM m (ms.take k))) ∧ Below w.heap.size w wr) (fun v i p q _ => n - (intOf i).toNat)
  case atStart => exact ⟨0, none, 0, 0, rfl, Nat.zero_le _, rfl, by simpa [allP, okM] using LstP.nil _ _, Below.refl _ _⟩
  case round =>
    obtain ⟨k, A1, n1, c1, rfl, hk, rfl, hl, hb⟩ := hrel
    by_cases hlt : k < n
    · obtain ⟨g, o, b, rfl, hcell, hrd, hat⟩ := (HH.out.below hb).at hlt
      have hkI : (k : Int) < n := by omega
      have hst := allP_step m ms hat
      have hle1 := allP_le m ms (k + 1)
      have hl1 := hl.len
      rw [hst, List.length_append] at hle1
      have HO := Lib.hid hst
      have HB := Lib.hid hb
      have HL := Lib.hid hl
      have HRC := Lib.hid (r_cuts (m := m) hrd)
      have HLE : Hid (n1 + (cutsV b.xs m).length ≤ 1000000) := Lib.hid (by have := HB0.out; omega)
      clear hat hb hl hst hle1 hl1 hrd
      go_wp2_with fail
      refine HRC.out.mono ?_
      rintro e w1 ⟨A2, n2, c2, err, rfl, he, hm2, hb2⟩
      have hn2 := hm2.len
      obtain ⟨qs, hq1, hq2, hq3, hq4⟩ := HL.out
      obtain ⟨rs, hr1, hr2, hr3, hr4⟩ := hm2
      have hla := (hq2.below hb2).tight
      have hbyt : (n1 + n2) * 32 ≤ 140737488355328 := by have := HLE.out; omega
      have HQ := Lib.hid (And.intro hq1 (And.intro hq2 (And.intro hq3 hq4)))
      have HR := Lib.hid (And.intro hr1 (And.intro hr3 hr4))
      have hu := hr2.rd
      have HB2 := Lib.hid hb2
      clear he hn2 hq1 hq2 hq3 hq4 hr1 hr2 hr3 hr4 hb2 HRC
      go_wp2_with (at_builtin
                   refine wpList_append_lstR eltC rfl (.tmp 24) (.tmp 25) rfl rfl hla rfl hu hbyt ?_
                   rintro v w2 hap
                   obtain ⟨A', n', c', rfl, hl'⟩ := hap.ex
                   have HAP := Lib.hid hap
                   clear hap hl')
      obtain ⟨A3, n3, c3, e3, hL3, hS3⟩ := LstP.apps HQ.out.2.1 HQ.out.2.2.2 HR.out.2.2 HB2.out HAP.out
      injection e3 with e1 e2 e3
      subst e1 e2 e3
      rw [List.map_append, HQ.out.2.2.1, HR.out.2.1] at hL3
      have HL3 := Lib.hid (hL3.mono (F' := (w.heap.size ≤ ·)) (fun k hk => by rcases hk with hk | hk; exact hk; exact Nat.le_trans HB.out.size hk))
      have HB3 := Lib.hid (HB.out.trans (hS3.below HB.out.size (fun k hk => by obtain ⟨ad, he, rfl⟩ := hk; exact (HQ.out.2.1.blk ad he).1)))
      clear hL3 hS3
      go_roundw
      case rel => exact ⟨k + 1, A', n', c', by go_num, by omega, rfl, by rw [HO.out]; exact HL3.out, HB3.out⟩
      case measure => simp [intOf]; omega
    · obtain rfl : k = n := by omega
      rw [List.take_of_length_le (by rw [HM.out]; exact Nat.le_refl _)] at hl
      have HL := Lib.hid hl
      have HB := Lib.hid hb
      clear hl hb
      go_wp2
      go_ret
      exact ⟨_, _, _, rfl, HL.out, HB.out⟩
end Go.Proofs.Ytmmjhijgedboiaa
namespace Go.Proofs.Ytmmjhijgedboiaa
open Go.RowKit Go.Shelf
theorem cutL_mem {xs : List Int} {m : Nat} (hm : 1 ≤ m) {p : Pp} (h : p ∈ cutL xs m) : p.xs ≠ [] ∧ p.fn = false ∧ p.xs.length ≤ m := by
  unfold cutL at h
  obtain ⟨i, hi, rfl⟩ := List.mem_map.1 h
  have hi' := (cutN_lt hm).1 (List.mem_range.1 hi)
  refine ⟨?_, rfl, ?_⟩
  · intro h0
    have h1 := congrArg List.length h0
    simp only [cutP, List.length_take, List.length_drop, List.length_nil] at h1
    omega
  · simp only [cutP, List.length_take]
    omega
theorem cutN_le (l : Nat) {m : Nat} (hm : 1 ≤ m) : cutN l m ≤ l := by
  rcases Nat.lt_or_ge l (cutN l m) with h | h
  · have h1 := (cutN_lt (l := l) (k := l) hm).1 h
    have h2 : l * 1 ≤ l * m := Nat.mul_le_mul_left l hm
    omega
  · exact h
theorem allP_mem {m : Int} {ms : List (List Int)} (hm : 1 ≤ m) {p : Pp} (h : p ∈ allP m ms) : p.xs ≠ [] ∧ p.fn = false ∧ p.xs.length ≤ m.toNat := by
  unfold allP at h
  obtain ⟨xs, _, hp⟩ := List.mem_flatMap.1 h
  exact cutL_mem (by omega) hp
theorem allP_cnt {m : Int} {s : Nat} (hm : 1 ≤ m) : ∀ (ms : List (List Int)), (∀ xs ∈ ms, xs.length ≤ s) → (allP m ms).length ≤ ms.length * s
  | [], _ => by simp [allP]
  | xs :: t, h => by
    have h1 := allP_cnt hm t (fun x hx => h x (by simp [hx]))
    have h2 : (allP m (xs :: t)).length = (cutL xs m.toNat).length + (allP m t).length := by simp [allP]
    have h3 := cutN_le xs.length (m := m.toNat) (by omega)
    have h4 := h xs (by simp)
    rw [h2, cutL_len, List.length_cons, Nat.succ_mul]
    omega
theorem sum_le {α : Type} (f : α → Nat) (b : Nat) : ∀ (l : List α), (∀ x ∈ l, f x ≤ b) → (l.map f).sum ≤ l.length * b
  | [], _ => by simp
  | x :: t, h => by
    have h1 := sum_le f b t (fun y hy => h y (by simp [hy]))
    have h2 := h x (by simp)
    rw [List.map_cons, List.sum_cons, List.length_cons, Nat.succ_mul]
    omega
/-- The law's pieces (octets, end): six messages of at most sixty octets, cut by at most twenty. -/
theorem pcs_ok {m : Int} {ms : List (List Int)} (h1 : 1 ≤ m) (h2 : m ≤ 20) (hn : ms.length ≤ 6) (hs : ∀ xs ∈ ms, xs.length ≤ 60) :
    (∀ x ∈ (allP m (okM m ms)).map (fun p => (p.xs, p.en)), x.1 ≠ []) ∧ (((allP m (okM m ms)).map (fun p => (p.xs, p.en))).map (fun x => x.1.length)).sum ≤ 65536 ∧ (allP m (okM m ms)).length ≤ 360 := by
  have hc := allP_cnt (s := 60) h1 (okM m ms) (fun xs hx => hs xs (List.mem_filter.1 hx).1)
  have hl : (okM m ms).length ≤ 6 := Nat.le_trans (List.length_filter_le _ _) hn
  have h3 : (allP m (okM m ms)).length ≤ 360 := by omega
  refine ⟨?_, ?_, h3⟩
  · intro x hx
    obtain ⟨p, hp, rfl⟩ := List.mem_map.1 hx
    exact (allP_mem h1 hp).1
  · rw [List.map_map]
    have := sum_le ((fun x : List Int × Bool => x.1.length) ∘ fun p : Pp => (p.xs, p.en)) 20 (allP m (okM m ms)) (fun p hp => by
      have := (allP_mem h1 hp).2.2
      show p.xs.length ≤ 20
      omega)
    omega
end Go.Proofs.Ytmmjhijgedboiaa
namespace Go.Proofs.Ytmmjhijgedboiaa
open Go.RowKit Go.Shelf
/-! ### What came -/
def camF (l : List Bool) : Nat → Bool := fun i => l.getD i false
theorem camF_at {l : List Bool} {i : Nat} (h : i < l.length) : camF l i = l[i] := by
  unfold camF
  rw [List.getD_eq_getElem?_getD, List.getElem?_eq_getElem h]
  rfl
theorem camF_out {l : List Bool} {i : Nat} (h : l.length ≤ i) : camF l i = false := by
  unfold camF
  rw [List.getD_eq_getElem?_getD, List.getElem?_eq_none h]
  rfl
theorem camF_no (n : Nat) : camF (List.replicate n false) = fun _ => false := by
  funext i
  unfold camF
  rw [List.getD_eq_getElem?_getD, List.getElem?_replicate]
  split <;> rfl
theorem camF_set {l : List Bool} {k : Nat} (h : k < l.length) : camF (l.set k true) = cameK (camF l) k := by
  funext i
  unfold cameK
  by_cases e : i = k
  · subst e
    rw [camF_at (by rw [List.length_set]; exact h)]
    simp
  · rw [decide_eq_false e, Bool.false_or]
    unfold camF
    rw [List.getD_eq_getElem?_getD, List.getD_eq_getElem?_getD, List.getElem?_set_ne (by omega)]
/-- The marks behind a pick. -/
def camP (l : List Bool) (nx size k : Nat) (tr : Bool) : List Bool := if tr = false ∧ k < nx + size then l.set k true else l
theorem camP_len (l : List Bool) (nx size k : Nat) (tr : Bool) : (camP l nx size k tr).length = l.length := by
  unfold camP
  split
  · rw [List.length_set]
  · rfl
theorem camP_f {l : List Bool} {nx size k : Nat} {tr : Bool} (h : k < l.length) : camF (camP l nx size k tr) = cameP (camF l) nx size k tr := by
  unfold camP cameP
  split
  · exact camF_set h
  · rfl
theorem camP_mono {l : List Bool} {nx size k : Nat} {tr : Bool} (h : k < l.length) {i : Nat} (hi : camF l i = true) : camF (camP l nx size k tr) i = true := by
  rw [camP_f h]
  unfold cameP
  split
  · unfold cameK
    rw [hi, Bool.or_true]
  · exact hi
/-! ### What is told -/
section
variable {F F' : Nat → Prop} {w W W' W1 w2 : World} {A B : Option Addr} {n c k d : Nat} {ms ns : List (List Int)} {v : Value}
/-- Messages told behind those that were told. -/
theorem OutR.apps {bz bs : List Bs} (h1 : Lst 30 (fun k => w.heap.size ≤ k ∧ ¬ F k) W A n c (bz.map Bs.val)) (h3 : ∀ b ∈ bz, BsR W b.A b.n b.c b.xs ∧ ∀ k, BlkOf b.A k → w.heap.size ≤ k ∧ ¬ F k)
    (hF : ∀ k, F k → k < W.heap.size) (hw : w.heap.size ≤ W.heap.size) (h4 : ∀ b ∈ bs, BsR W b.A b.n b.c b.xs ∧ ∀ k, BlkOf b.A k → w.heap.size ≤ k ∧ ¬ F k)
    (hap : Apd 30 (BlkOf A) W v (bz.map Bs.val ++ bs.map Bs.val) w2) : ∃ A' n' c', v = .slice A' n' c' ∧ OutR F w w2 A' n' c' (bz.map Bs.xs ++ bs.map Bs.xs) ∧ St (BlkOf A) W w2 := by
  obtain ⟨⟨A', n', c', rfl, hl'⟩, hst⟩ := hap
  have hnb : ∀ k, BlkOf A k → ¬ Tyd 5 W k := fun k hk => (h1.tyd k hk).ne (by decide)
  refine ⟨A', n', c', rfl, ⟨bz ++ bs, ?_, by rw [List.map_append], fun q hq' => ?_⟩, hst⟩
  · rw [List.map_append]
    refine hl'.mono ?_
    rintro k (⟨ad, rfl, rfl⟩ | hk)
    · exact (h1.blk _ rfl).1
    · exact ⟨by omega, fun hf => by have := hF k hf; omega⟩
  · rcases List.mem_append.1 hq' with h | h
    · obtain ⟨k1, k2⟩ := h3 q h
      exact ⟨BsR.stT k1 hst hnb, k2⟩
    · obtain ⟨k1, k2⟩ := h4 q h
      exact ⟨BsR.stT k1 hst hnb, k2⟩
theorem OutR.low {w0 : World} (h : OutR F w W A n c ms) (hw : w0.heap.size ≤ w.heap.size) : OutR F w0 W A n c ms := by
  obtain ⟨bs, h1, h2, h3⟩ := h
  exact ⟨bs, h1.mono fun k hk => ⟨by omega, hk.2⟩, h2, fun b hb => ⟨(h3 b hb).1, fun k hk => ⟨by have := ((h3 b hb).2 k hk).1; omega, ((h3 b hb).2 k hk).2⟩⟩⟩
end
/-! ### The row of packets in memory: all in blocks below the world's end -/
def RwM (W : World) (A : Option Addr) (n c : Nat) (ks : List Pk) : Prop :=
  ∃ qs : List Pv, n = qs.length ∧ RdR 9 W A n c (flat Pv.cl qs) ∧ qs.map Pv.pk = ks ∧ ∀ q ∈ qs, BsR W q.A q.n q.c q.xs
theorem RwM.below {W W' : World} {A : Option Addr} {n c : Nat} {ks : List Pk} (h : RwM W A n c ks) (hb : Below W.heap.size W W') : RwM W' A n c ks := by
  obtain ⟨qs, h1, h2, h3, h4⟩ := h
  exact ⟨qs, h1, h2.below hb, h3, fun q hq => BsR.below (h4 q hq) hb⟩
theorem RwM.len {W : World} {A : Option Addr} {n c : Nat} {ks : List Pk} (h : RwM W A n c ks) : ks.length = n := by
  obtain ⟨qs, h1, h2, h3, h4⟩ := h
  rw [← h3, List.length_map, h1]
/-- Packet k of it. -/
theorem RwM.row {W : World} {A : Option Addr} {n c : Nat} {ks : List Pk} (h : RwM W A n c ks) {k : Nat} (hk : k < n) : ∃ (g o : Nat) (q : Pv), A = some ⟨g, o, none⟩ ∧ W.rangeAt g (o + k * 9) q.cl ∧ BsR W q.A q.n q.c q.xs ∧ ks[k]? = some q.pk ∧ g < W.heap.size := by
  obtain ⟨qs, h1, h2, h3, h4⟩ := h
  obtain ⟨g, o, hA, hg, hra⟩ := h2.range hk
  have hl : k < qs.length := by omega
  rw [flat_row Pv.cl_len qs k hl] at hra
  exact ⟨g, o, qs[k], hA, hra, h4 _ (List.getElem_mem _), by rw [← h3, List.getElem?_map, List.getElem?_eq_getElem hl]; rfl, hg⟩
end Go.Proofs.Ytmmjhijgedboiaa
namespace Go.Proofs.Ytmmjhijgedboiaa
open Go.RowKit Go.Shelf
/-- A piece of the row, as the packet of number i. -/
def ppK (i : Nat) (p : Pp) : Pk := ⟨⟨1, if p.fn = true then 4 else if p.en = true then 2 else 0, 0, 0, 1, 1, i, 0⟩, p.xs⟩
def pcV (i : Nat) (q : Pc) : Pv := ⟨⟨1, if q.fn = true then 4 else if q.en = true then 2 else 0, 0, 0, 1, 1, i, 0⟩, q.A, q.n, q.c, q.xs⟩
theorem pcV_pk (i : Nat) (q : Pc) : (pcV i q).pk = ppK i q.say := rfl
theorem rw_map {P : List Pp} (h : ∀ p ∈ P, p.fn = false) : (P ++ [(⟨[], false, true⟩ : Pp)]).mapIdx ppK = rwL (P.map (fun p => (p.xs, p.en))) := by
  apply List.ext_getElem?
  intro i
  rw [List.getElem?_mapIdx]
  rcases (by omega : i < P.length ∨ i = P.length ∨ P.length < i) with hi | rfl | hi
  · have hx : P[i]? = some P[i] := List.getElem?_eq_getElem hi
    rw [List.getElem?_append_left hi, hx, rwL_at (x := (P[i].xs, P[i].en)) (by rw [List.getElem?_map, hx]; rfl)]
    have hf := h _ (List.getElem_mem hi)
    show some (ppK i P[i]) = some (pcP i (P[i].xs, P[i].en))
    unfold ppK pcP
    rw [hf]
    simp
  · have := rwL_fin (P.map (fun p => (p.xs, p.en)))
    rw [List.length_map] at this
    rw [this, List.getElem?_append_right (Nat.le_refl _), Nat.sub_self]
    rfl
  · rw [List.getElem?_eq_none (by simp; omega), List.getElem?_eq_none (by rw [rwL_len, List.length_map]; omega)]
    rfl
theorem LstP.row {F : Nat → Prop} {w : World} {A : Option Addr} {n c : Nat} {ps : List Pp} (h : LstP F w A n c ps) {i : Nat} (hi : i < n) : ∃ (g o : Nat) (q : Pc), A = some ⟨g, o, none⟩ ∧ w.rangeAt g (o + i * 3) q.cl ∧ PcR w q ∧ ps[i]? = some q.say ∧ g < w.heap.size := by
  obtain ⟨qs, h1, h2, h3, h4⟩ := h
  obtain ⟨g, o, hA, hg, hra⟩ := h2.rd.range hi
  have hl : i < qs.length := by omega
  rw [flat_row Pc.cl_len qs i hl] at hra
  exact ⟨g, o, qs[i], hA, hra, h4 _ (List.getElem_mem _), by rw [← h3, List.getElem?_map, List.getElem?_eq_getElem hl]; rfl, hg⟩
/-- One packet more in a row of the call's own. -/
theorem rw_app {w W W1 w2 : World} {A : Option Addr} {n c : Nat} {qs : List Pv} {q : Pv} {v : Value} (hl : LstR 9 40 (w.heap.size ≤ ·) W A n c (flat Pv.cl qs)) (hqs : ∀ q ∈ qs, BsR W q.A q.n q.c q.xs) (hq : BsR W1 q.A q.n q.c q.xs)
    (hw : w.heap.size ≤ W.heap.size) (hb : Below W.heap.size W W1) (hap : ApdR 9 40 (BlkOf A) W1 v (flat Pv.cl qs ++ q.cl) w2) :
    ∃ A' n' c', v = .slice A' n' c' ∧ LstR 9 40 (w.heap.size ≤ ·) w2 A' n' c' (flat Pv.cl (qs ++ [q])) ∧ (∀ x ∈ qs ++ [q], BsR w2 x.A x.n x.c x.xs) ∧ Below w.heap.size W w2 := by
  obtain ⟨⟨A', n', c', rfl, hl'⟩, hst⟩ := hap
  have hnb : ∀ k, BlkOf A k → ¬ Tyd 5 W1 k := fun k hk => ((hl.below hb).tyd k hk).ne (by decide)
  have hbl : ∀ k, BlkOf A k → w.heap.size ≤ k := fun k ⟨ad, he, hk⟩ => hk ▸ (hl.blk ad he).1
  refine ⟨A', n', c', rfl, ?_, fun x hx => ?_, (hb.mono hw).trans (hst.below (Nat.le_trans hw hb.size) hbl)⟩
  · rw [flat_app]
    refine (hl'.mono ?_)
    rintro k (hk | hk)
    · exact hbl k hk
    · exact Nat.le_trans (Nat.le_trans hw hb.size) hk
  · rcases List.mem_append.1 hx with h | h
    · exact BsR.stT (BsR.below (hqs x h) hb) hst hnb
    · obtain rfl : x = q := by simpa using h
      exact BsR.stT hq hst hnb
set_option maxHeartbeats 8000000 in
theorem l_row {w : World} {A : Option Addr} {n c : Nat} {ms : List (List Int)} (m : Int) (h : SlB w A n c ms) (hn : n ≤ 100000) (hP : (allP m (okM m ms)).length ≤ 100000) (hf : ∀ p ∈ allP m (okM m ms), p.fn = false) :
    Calls Try.prog 25 #[.slice A n c, .int .i64 m] w fun e w' => ∃ A' n' c', e = .returned (.slice A' n' c') ∧ RwM w' A' n' c' (rwL ((allP m (okM m ms)).map (fun p => (p.xs, p.en)))) ∧ Below w.heap.size w w' := by
  have HPC := Lib.hid (r_pieces m h hn (by omega))
  generalize allP m (okM m ms) = P at *
  rw [← rw_map hf]
  obtain ⟨PP, hPP⟩ : ∃ PP, PP = P ++ [(⟨[], false, true⟩ : Pp)] := ⟨_, rfl⟩
  rw [← hPP]
  have HPQ := Lib.hid hPP
  have HF := Lib.hid (And.intro hP hf)
  clear h hP hf hPP
  go_enter Try.func25, Try.ntmps25
  go_wp2_with fail
  refine HPC.out.mono ?_
  rintro e w1 ⟨A1, n1, c1, rfl, hl1, hb1⟩
  have hn1 := hl1.len
  obtain ⟨qs, hq1, hq2, hq3, hq4⟩ := hl1
  have hla := (hq2.alloc (.cells [.slice none 0 0, .bool false, .bool true].toArray 104)).tight
  have hu := RdR.one w1 104 [.slice none 0 0, .bool false, .bool true] (by simp [Value.oneCell'])
  have hn8 : (n1 + 1) * 32 ≤ 140737488355328 := by have := HF.out.1; omega
  have HQ := Lib.hid (And.intro hq2 (And.intro hq3 hq4))
  have HB1 := Lib.hid hb1
  have HN1 := Lib.hid hn1
  clear hq1 hq2 hq3 hq4 hb1 hn1 HPC
  go_wp2_with (first
    | (refine wpList_build_row eltC rfl (.tmp 13) rfl (xs := [.slice none 0 0, .bool false, .bool true]) rfl rfl ?_)
    | (at_builtin
       refine wpList_append_lstR eltC rfl (.tmp 12) (.tmp 14) rfl rfl hla rfl hu hn8 ?_
       rintro v w2 hap
       obtain ⟨A2, n2, c2, rfl, hl'⟩ := hap.ex
       have HAP := Lib.hid hap
       clear hap hl' hla hu))
  obtain ⟨A3, n3, c3, e3, hL3, hS3⟩ := LstP.apps (rs := [⟨none, 0, 0, [], false, true⟩]) HQ.out.1 HQ.out.2.2 (fun q hq => by
    obtain rfl : q = _ := by simpa using hq
    exact ⟨Rd.nil _ _, fun k ⟨ad, he, _⟩ => by cases he⟩) ((Below.refl _ w1).alloc (Nat.le_refl _) _) HAP.out
  injection e3 with e1 e2 e3
  subst e1 e2 e3
  rw [List.map_append, HQ.out.2.1] at hL3
  have hb3 : Below w.heap.size w w2 := HB1.out.trans (hS3.below HB1.out.size (fun k ⟨ad, he, hk⟩ => hk ▸ (HQ.out.1.blk ad he).1))
  have HL3 := Lib.hid hL3
  have HB3 := Lib.hid hb3
  have hlen := hL3.len
  simp only [List.length_append, List.map_cons, List.map_nil, List.length_cons, List.length_nil] at hlen
  have HLN : Hid (n2 = P.length + 1) := Lib.hid (by omega)
  have HPP : Hid (∀ p ∈ P ++ [Pc.say ⟨none, 0, 0, [], false, true⟩], ¬ (p.en = true ∧ p.fn = true)) := Lib.hid (fun p hp => by
    rcases List.mem_append.1 hp with h | h
    · rw [HF.out.2 p h]; simp
    · obtain rfl : p = _ := by simpa using h
      simp [Pc.say])
  have hPP : PP = P ++ [Pc.say ⟨none, 0, 0, [], false, true⟩] := HPQ.out
  simp only [List.map_cons, List.map_nil] at HL3
  have HPL : Hid (PP.length = n2 ∧ n2 ≤ 100001) := Lib.hid ⟨by rw [hPP]; simp; omega, by have := HF.out.1; omega⟩
  rw [← hPP] at HPP HL3
  clear hL3 hb3 hS3 hlen hPP HAP HN1 HQ
  go_wp2
  go_loopw [6, 7, 8] (fun v i p wr => ∃ (k : Nat) (A4 : Option Addr) (c4 : Nat) (qs : List Pv), i = .int .i64 k ∧ k ≤ n2 ∧ v = .slice A4 k c4 ∧ LstR 9 40 (w2.heap.size ≤ ·) wr A4 k c4 (flat Pv.cl qs) ∧ qs.map Pv.pk = (PP.mapIdx ppK).take k ∧ (∀ q ∈ qs, BsR wr q.A q.n q.c q.xs) ∧ Below w2.heap.size w2 wr) (fun v i p _ => n2 + 1 - (intOf i).toNat)
  case atStart => exact ⟨0, none, 0, [], rfl, Nat.zero_le _, rfl, LstR.nil _ _ _ _, rfl, by simp, Below.refl _ _⟩
  case round =>
    obtain ⟨k, A4, c4, qs, rfl, hk, rfl, hl4, hqs, hqb, hb4⟩ := hrel
    by_cases hlt : k < n2
    · obtain ⟨g, o, q, rfl, hra, hpc, hat, hg⟩ := (HL3.out).row hlt
      have hkI : (k : Int) < n2 := by omega
      have hne := HPP.out q.say (List.mem_of_getElem? hat)
      have HAT : Hid ((PP.mapIdx ppK).take (k + 1) = (PP.mapIdx ppK).take k ++ [ppK k q.say]) := Lib.hid (by
        rw [List.take_add_one, List.getElem?_mapIdx, hat]; rfl)
      have hgr : g < wr.heap.size := by have := hb4.size; omega
      have HC : Hid (∀ W, Below wr.heap.size wr W → W.rangeAt g (o + k * 3) q.cl) := Lib.hid (fun W hW => range_below (range_below hra hg hb4) hgr hW)
      have hpw : BsR wr q.A q.n q.c q.xs := BsR.below hpc hb4
      have hc0 : wr.cell? ⟨g, o + k * 3, none⟩ = some (.slice q.A q.n q.c) := HC.out wr (Below.refl _ _) 0 _ rfl
      have hz := Bk.new wr 40 [.int .i64 0, .int .i64 0, .int .i64 0, .int .i64 0, .int .i64 0, .int .i64 0, .int .i64 0, .int .i64 0, .slice none 0 0]
      have hn8 : (k + 1) * 88 ≤ 140737488355328 := by have := HPL.out.2; omega
      have HB4 := Lib.hid hb4
      have HQS := Lib.hid (And.intro hqs hqb)
      have HPW := Lib.hid hpw
      have HL4 := Lib.hid hl4
      have hw4 := hb4.size
      clear hra hpc hat hqs hqb hb4 hpw
      obtain ⟨qA, qn, qc, qx, qe, qf⟩ := q
      simp only [Pc.say] at hne
      have HWR : Hid (w2.heap.size ≤ wr.heap.size) := Lib.hid hw4
      have fin : ∀ (fl : Int) (W w9 : World) (v : Value), fl = (if qf = true then 4 else if qe = true then 2 else 0) → Below wr.heap.size wr W → ApdR 9 40 (BlkOf A4) W v (flat Pv.cl qs ++ [.int .i64 1, .int .i64 fl, .int .i64 0, .int .i64 0, .int .i64 1, .int .i64 1, .int .i64 k, .int .i64 0, .slice qA qn qc]) w9 →
          ∃ (k' : Nat) (A5 : Option Addr) (c5 : Nat) (qs' : List Pv), Value.int .i64 ((k : Int) + 1) = .int .i64 k' ∧ k' = k + 1 ∧ v = .slice A5 k' c5 ∧ LstR 9 40 (w2.heap.size ≤ ·) w9 A5 k' c5 (flat Pv.cl qs') ∧ qs'.map Pv.pk = (PP.mapIdx ppK).take k' ∧ (∀ q ∈ qs', BsR w9 q.A q.n q.c q.xs) ∧ Below w2.heap.size w2 w9 := by
        intro fl W w9 v hfl hW hap
        obtain ⟨A5, n5, c5, rfl, hL5, hq5, hb5⟩ := rw_app (w := w2) (q := pcV k ⟨qA, qn, qc, qx, qe, qf⟩) HL4.out HQS.out.2 (BsR.below HPW.out hW) HWR.out hW (by rw [hfl] at hap; exact hap)
        have hn5 : n5 = k + 1 := by
          have h1 := hL5.1
          have h2 := HL4.out.1
          rw [flat_app, List.length_append, h2] at h1
          have : (flat Pv.cl [pcV k ⟨qA, qn, qc, qx, qe, qf⟩]).length = 9 := rfl
          omega
        subst hn5
        refine ⟨k + 1, A5, c5, _, by push_cast; rfl, rfl, rfl, hL5, ?_, hq5, HB4.out.trans hb5⟩
        rw [List.map_append, HQS.out.1, HAT.out]
        rfl
      have FIN := Lib.hid fin
      clear fin
      cases qe with
      | false =>
        cases qf with
        | false =>
          go_wp2_with (first
            | ((with_reducible refine at_store 40 (.tmp 8) (.tmp 28) (by rfl) ?_); refine wpList_store_bk rowP rfl (.tmp 8) (.tmp 28) rfl wr.heap.size 0 rfl hz [.int .i64 1, .int .i64 0, .int .i64 0, .int .i64 0, .int .i64 1, .int .i64 1, .int .i64 k, .int .i64 0, .slice qA qn qc] rfl rfl (by decide) (by simp [Value.oneCell']) ?_; rintro w5 hz5 hw5; rw [lay_all _ _ (by rfl)] at hz5
               have hb5 : Below wr.heap.size wr w5 := ((Below.refl _ _).alloc (Nat.le_refl _) (.cells #[.int .i64 0, .int .i64 0, .int .i64 0, .int .i64 0, .int .i64 0, .int .i64 0, .int .i64 0, .int .i64 0, .slice none 0 0] 40)).trans (hw5.below (Nat.le_refl _) (by simp))
               have hc1 : w5.cell? ⟨g, o + k * 3 + 1, none⟩ = some (.bool false) := HC.out w5 hb5 1 _ rfl
               have hc2 : w5.cell? ⟨g, o + k * 3 + 2, none⟩ = some (.bool false) := HC.out w5 hb5 2 _ rfl
               have HB5 := Lib.hid hb5
               have hla := ((HL4.out.below hb5).alloc (.cells [.int .i64 1, .int .i64 0, .int .i64 0, .int .i64 0, .int .i64 1, .int .i64 1, .int .i64 k, .int .i64 0, .slice qA qn qc].toArray 40)).tight
               have hu := RdR.one w5 40 [.int .i64 1, .int .i64 0, .int .i64 0, .int .i64 0, .int .i64 1, .int .i64 1, .int .i64 k, .int .i64 0, .slice qA qn qc] (by simp [Value.oneCell'])
               clear hw5 hb5 hz)
            | ((with_reducible refine at_load 40 (.tmp 8) (by rfl) ?_); refine wpList_load_bk rowP rfl (.tmp 8) rfl wr.heap.size 0 rfl hz5 [.int .i64 1, .int .i64 0, .int .i64 0, .int .i64 0, .int .i64 1, .int .i64 1, .int .i64 k, .int .i64 0, .slice qA qn qc] rfl rfl ?_)
            | (refine wpList_build_row eltP rfl (.tmp 43) rfl (xs := [.int .i64 1, .int .i64 0, .int .i64 0, .int .i64 0, .int .i64 1, .int .i64 1, .int .i64 k, .int .i64 0, .slice qA qn qc]) rfl rfl ?_)
            | (at_builtin
               refine wpList_append_lstR eltP rfl (.tmp 41) (.tmp 43) rfl rfl hla rfl hu hn8 ?_
               rintro v w6 hap
               have HR := Lib.hid (FIN.out 0 _ _ _ rfl (HB5.out.alloc (by have := HB5.out.size; omega) _) hap)
               obtain ⟨A6, n6, c6, rfl, _⟩ := hap.ex
               clear hap hla hu hc1 hc2 hz5))
          go_roundw
          case rel =>
            obtain ⟨k', A5, c5, qs', h1, rfl, h3, h4, h5, h6, h7⟩ := HR.out
            exact ⟨k + 1, A5, c5, qs', h1, by omega, h3, h4, h5, h6, h7⟩
          case measure => simp [intOf]; omega
        | true =>
          go_wp2_with (first
            | ((with_reducible refine at_store 40 (.tmp 8) (.tmp 28) (by rfl) ?_); refine wpList_store_bk rowP rfl (.tmp 8) (.tmp 28) rfl wr.heap.size 0 rfl hz [.int .i64 1, .int .i64 0, .int .i64 0, .int .i64 0, .int .i64 1, .int .i64 1, .int .i64 k, .int .i64 0, .slice qA qn qc] rfl rfl (by decide) (by simp [Value.oneCell']) ?_; rintro w5 hz5 hw5; rw [lay_all _ _ (by rfl)] at hz5
               have hb5 : Below wr.heap.size wr w5 := ((Below.refl _ _).alloc (Nat.le_refl _) (.cells #[.int .i64 0, .int .i64 0, .int .i64 0, .int .i64 0, .int .i64 0, .int .i64 0, .int .i64 0, .int .i64 0, .slice none 0 0] 40)).trans (hw5.below (Nat.le_refl _) (by simp))
               have hc1 : w5.cell? ⟨g, o + k * 3 + 1, none⟩ = some (.bool false) := HC.out w5 hb5 1 _ rfl
               have hc2 : w5.cell? ⟨g, o + k * 3 + 2, none⟩ = some (.bool true) := HC.out w5 hb5 2 _ rfl
               have g1 := hz5.cell 1 rfl
               have f1 := hz5.free 1
               have hb6 : Below wr.heap.size wr (w5.setCell ⟨wr.heap.size, 1, none⟩ (.int .i64 4)) := hb5.setCell (by show wr.heap.size ≤ wr.heap.size; omega) _
               have hz6 := hz5.set 1 (.int .i64 4)
               have HB5 := Lib.hid hb6
               have hla := ((HL4.out.below hb6).alloc (.cells [.int .i64 1, .int .i64 4, .int .i64 0, .int .i64 0, .int .i64 1, .int .i64 1, .int .i64 k, .int .i64 0, .slice qA qn qc].toArray 40)).tight
               have hu := RdR.one (w5.setCell ⟨wr.heap.size, 1, none⟩ (.int .i64 4)) 40 [.int .i64 1, .int .i64 4, .int .i64 0, .int .i64 0, .int .i64 1, .int .i64 1, .int .i64 k, .int .i64 0, .slice qA qn qc] (by simp [Value.oneCell'])
               rw [show (w5.setCell ⟨wr.heap.size, 1, none⟩ (.int .i64 4)).heap.size = w5.heap.size by simp] at hu
               clear hw5 hb5 hb6 hz)
            | ((with_reducible refine at_load 40 (.tmp 8) (by rfl) ?_); refine wpList_load_bk rowP rfl (.tmp 8) rfl wr.heap.size 0 rfl hz6 [.int .i64 1, .int .i64 4, .int .i64 0, .int .i64 0, .int .i64 1, .int .i64 1, .int .i64 k, .int .i64 0, .slice qA qn qc] rfl rfl ?_)
            | (refine wpList_build_row eltP rfl (.tmp 43) rfl (xs := [.int .i64 1, .int .i64 4, .int .i64 0, .int .i64 0, .int .i64 1, .int .i64 1, .int .i64 k, .int .i64 0, .slice qA qn qc]) rfl rfl ?_)
            | (at_builtin
               refine wpList_append_lstR eltP rfl (.tmp 41) (.tmp 43) rfl rfl hla rfl hu hn8 ?_
               rintro v w6 hap
               have HR := Lib.hid (FIN.out 4 _ _ _ rfl (HB5.out.alloc (by have := HB5.out.size; omega) _) hap)
               obtain ⟨A6, n6, c6, rfl, _⟩ := hap.ex
               clear hap hla hu hc1 hc2 hz5 hz6 g1 f1))
          go_roundw
          case rel =>
            obtain ⟨k', A5, c5, qs', h1, rfl, h3, h4, h5, h6, h7⟩ := HR.out
            exact ⟨k + 1, A5, c5, qs', h1, by omega, h3, h4, h5, h6, h7⟩
          case measure => simp [intOf]; omega
      | true =>
        cases qf with
        | true => exact absurd ⟨rfl, rfl⟩ hne
        | false =>
          go_wp2_with (first
            | ((with_reducible refine at_store 40 (.tmp 8) (.tmp 28) (by rfl) ?_); refine wpList_store_bk rowP rfl (.tmp 8) (.tmp 28) rfl wr.heap.size 0 rfl hz [.int .i64 1, .int .i64 0, .int .i64 0, .int .i64 0, .int .i64 1, .int .i64 1, .int .i64 k, .int .i64 0, .slice qA qn qc] rfl rfl (by decide) (by simp [Value.oneCell']) ?_; rintro w5 hz5 hw5; rw [lay_all _ _ (by rfl)] at hz5
               have hb5 : Below wr.heap.size wr w5 := ((Below.refl _ _).alloc (Nat.le_refl _) (.cells #[.int .i64 0, .int .i64 0, .int .i64 0, .int .i64 0, .int .i64 0, .int .i64 0, .int .i64 0, .int .i64 0, .slice none 0 0] 40)).trans (hw5.below (Nat.le_refl _) (by simp))
               have hc1 : w5.cell? ⟨g, o + k * 3 + 1, none⟩ = some (.bool true) := HC.out w5 hb5 1 _ rfl
               have hc2 : (w5.setCell ⟨wr.heap.size, 1, none⟩ (.int .i64 2)).cell? ⟨g, o + k * 3 + 2, none⟩ = some (.bool false) := HC.out _ (hb5.setCell (by show wr.heap.size ≤ wr.heap.size; omega) _) 2 _ rfl
               have g1 := hz5.cell 1 rfl
               have f1 := hz5.free 1
               have hb6 : Below wr.heap.size wr (w5.setCell ⟨wr.heap.size, 1, none⟩ (.int .i64 2)) := hb5.setCell (by show wr.heap.size ≤ wr.heap.size; omega) _
               have hz6 := hz5.set 1 (.int .i64 2)
               have HB5 := Lib.hid hb6
               have hla := ((HL4.out.below hb6).alloc (.cells [.int .i64 1, .int .i64 2, .int .i64 0, .int .i64 0, .int .i64 1, .int .i64 1, .int .i64 k, .int .i64 0, .slice qA qn qc].toArray 40)).tight
               have hu := RdR.one (w5.setCell ⟨wr.heap.size, 1, none⟩ (.int .i64 2)) 40 [.int .i64 1, .int .i64 2, .int .i64 0, .int .i64 0, .int .i64 1, .int .i64 1, .int .i64 k, .int .i64 0, .slice qA qn qc] (by simp [Value.oneCell'])
               rw [show (w5.setCell ⟨wr.heap.size, 1, none⟩ (.int .i64 2)).heap.size = w5.heap.size by simp] at hu
               clear hw5 hb5 hb6 hz)
            | ((with_reducible refine at_load 40 (.tmp 8) (by rfl) ?_); refine wpList_load_bk rowP rfl (.tmp 8) rfl wr.heap.size 0 rfl hz6 [.int .i64 1, .int .i64 2, .int .i64 0, .int .i64 0, .int .i64 1, .int .i64 1, .int .i64 k, .int .i64 0, .slice qA qn qc] rfl rfl ?_)
            | (refine wpList_build_row eltP rfl (.tmp 43) rfl (xs := [.int .i64 1, .int .i64 2, .int .i64 0, .int .i64 0, .int .i64 1, .int .i64 1, .int .i64 k, .int .i64 0, .slice qA qn qc]) rfl rfl ?_)
            | (at_builtin
               refine wpList_append_lstR eltP rfl (.tmp 41) (.tmp 43) rfl rfl hla rfl hu hn8 ?_
               rintro v w6 hap
               have HR := Lib.hid (FIN.out 2 _ _ _ rfl (HB5.out.alloc (by have := HB5.out.size; omega) _) hap)
               obtain ⟨A6, n6, c6, rfl, _⟩ := hap.ex
               clear hap hla hu hc1 hc2 hz5 hz6 g1 f1))
          go_roundw
          case rel =>
            obtain ⟨k', A5, c5, qs', h1, rfl, h3, h4, h5, h6, h7⟩ := HR.out
            exact ⟨k + 1, A5, c5, qs', h1, by omega, h3, h4, h5, h6, h7⟩
          case measure => simp [intOf]; omega
    · obtain rfl : k = n2 := by omega
      have HE : Hid (RwM wr A4 k c4 (PP.mapIdx ppK)) := Lib.hid ⟨qs, by have := hl4.1; rw [flat_len Pv.cl_len] at this; omega, hl4.rd, by rw [hqs, List.take_of_length_le (by rw [List.length_mapIdx, HPL.out.1]; exact Nat.le_refl _)], hqb⟩
      have HB4 := Lib.hid (HB3.out.trans (hb4.mono HB3.out.size))
      clear hl4 hqs hqb hb4
      go_wp2
      go_ret
      exact ⟨_, _, _, rfl, HE.out, HB4.out⟩
end Go.Proofs.Ytmmjhijgedboiaa
namespace Go.Proofs.Ytmmjhijgedboiaa
open Go.RowKit Go.Shelf
theorem eltO : Elt Try.prog 70 4 (.bool false) 1 := ⟨rfl, by kernel_rfl, rfl, rfl, by decide⟩
section
variable {F F' : Nat → Prop} {w w0 wn W W' W1 W2 : World} {A B : Option Addr} {n c k d r e gc : Nat} {m m' : Rm} {ms ns : List (List Int)} {cams : List Bool}
theorem OutR.far (h : OutR F w W A n c ms) {G : Nat → Prop} (hs : St G W W') (hG : ∀ k, G k → k < w.heap.size) : OutR F w W' A n c ms := by
  obtain ⟨bs, h1, h2, h3⟩ := h
  refine ⟨bs, ?_, h2, fun b hb => ?_⟩
  · exact (((h1.st hs (fun k hk hg => by have := hG k hg; have := hk.1; omega)).tight).mono (fun k ⟨ad, he, hk⟩ => by subst hk; exact (h1.blk ad he).1))
  · obtain ⟨k1, k2⟩ := h3 b hb
    exact ⟨k1.st hs fun k hk hg => by have := hG k hg; have := (k2 k hk).1; omega, k2⟩
theorem OutR.below (h : OutR F w W A n c ms) (hb : Below W.heap.size W W') : OutR F w W' A n c ms := h.far (G := fun _ => False) (St.ext hb) (fun _ h => h.elim)
/-- A receiver, made behind wn; the marks (block gc); what is told, behind w0. -/
structure JO (wn w0 : World) (gc : Nat) (F : Nat → Prop) (r e : Nat) (m : Rm) (cams : List Bool) (A : Option Addr) (n c : Nat) (ms : List (List Int)) (W : World) : Prop where
  rc : RcA F W r e m
  nw : ∀ k, FR F r k → wn.heap.size ≤ k
  ng : ¬ FR F r gc
  gw : wn.heap.size ≤ gc
  gl : gc < w0.heap.size
  sz : w0.heap.size ≤ W.heap.size
  cm : Bk W 4 gc (cams.map .bool)
  ot : OutR (FR F r) w0 W A n c ms
  bel : Below wn.heap.size wn W
theorem JO.next (h : JO wn w0 gc F r e m cams A n c ms W) (hb : Below W.heap.size W W') : JO wn w0 gc F r e m cams A n c ms W' :=
  ⟨h.rc.below hb, h.nw, h.ng, h.gw, h.gl, Nat.le_trans h.sz hb.size, h.cm.below hb, h.ot.below hb, h.bel.trans (hb.mono h.bel.size)⟩
/-- The receiver has gone on. -/
theorem JO.code (h : JO wn w0 gc F r e m cams A n c ms W) (hr : RcA F' W' r e m') (hs : St F W W') (hg : Gr F F' W.heap.size) : JO wn w0 gc F' r e m' cams A n c ms W' := by
  have hgl := h.gl
  have hsz := h.sz
  have hbz := h.bel.size
  refine ⟨hr, fun k hk => ?_, fun hf => ?_, h.gw, h.gl, Nat.le_trans h.sz hs.size, h.cm.st hs (fun hf => h.ng (.inl hf)), h.ot.add (FR.st hs) (FR.gr hg), h.bel.trans (hs.below hbz (fun k hk => h.nw k (.inl hk)))⟩
  · rcases FR.gr (r := r) hg k hk with h1 | h1
    · exact h.nw k h1
    · omega
  · rcases FR.gr (r := r) hg gc hf with h1 | h1
    · exact h.ng h1
    · omega
/-- A mark is set. -/
theorem JO.mark (h : JO wn w0 gc F r e m cams A n c ms W) (i : Nat) (b : Bool) : JO wn w0 gc F r e m (cams.set i b) A n c ms (W.setCell ⟨gc, i, none⟩ (.bool b)) := by
  have hst : St (· = gc) W (W.setCell ⟨gc, i, none⟩ (.bool b)) := St.setCell (F := (· = gc)) W (a := ⟨gc, i, none⟩) rfl _
  have hgl := h.gl
  have hgw := h.gw
  refine ⟨h.rc.st hst (fun k hk hg => h.ng (hg ▸ hk)), h.nw, h.ng, h.gw, h.gl, Nat.le_trans h.sz hst.size, ?_, h.ot.far hst (fun k hk => by subst hk; exact hgl), h.bel.trans (hst.below h.bel.size (fun k hk => by subst hk; exact hgw))⟩
  have := h.cm.set i (.bool b)
  rw [List.map_set]
  exact this
/-- What is told is told behind what was told. -/
theorem JO.tell {v : Value} {bz bs : List Bs} (h : JO wn w0 gc F r e m cams A n c (bz.map Bs.xs) W) (h1 : Lst 30 (fun k => w0.heap.size ≤ k ∧ ¬ FR F r k) W A n c (bz.map Bs.val)) (h3 : ∀ b ∈ bz, BsR W b.A b.n b.c b.xs ∧ ∀ k, BlkOf b.A k → w0.heap.size ≤ k ∧ ¬ FR F r k)
    (h4 : ∀ b ∈ bs, BsR W b.A b.n b.c b.xs ∧ ∀ k, BlkOf b.A k → w0.heap.size ≤ k ∧ ¬ FR F r k) (hap : Apd 30 (BlkOf A) W v (bz.map Bs.val ++ bs.map Bs.val) W') :
    ∃ A' n' c', v = .slice A' n' c' ∧ JO wn w0 gc F r e m cams A' n' c' (bz.map Bs.xs ++ bs.map Bs.xs) W' := by
  obtain ⟨A', n', c', rfl, ho, hst⟩ := OutR.apps h1 h3 h.rc.lt h.sz h4 hap
  have hgl := h.gl
  have hbz := h.bel.size
  have hA : ∀ k, BlkOf A k → w0.heap.size ≤ k ∧ ¬ FR F r k := fun k ⟨ad, he, hk⟩ => hk ▸ (h1.blk ad he).1
  refine ⟨A', n', c', rfl, h.rc.st hst (fun k hk hg => (hA k hg).2 hk), h.nw, h.ng, h.gw, h.gl, Nat.le_trans h.sz hst.size, h.cm.st hst (fun hg => by have := (hA gc hg).1; omega), ho, h.bel.trans (hst.below hbz (fun k hk => ?_))⟩
  have h9 := (hA k hk).1
  have h8 := h.gw
  omega
end
end Go.Proofs.Ytmmjhijgedboiaa
namespace Go.Proofs.Ytmmjhijgedboiaa
open Go.RowKit Go.Shelf
theorem first_ex (came : Nat → Bool) : ∀ b, (∃ i, i ≤ b ∧ came i = false) → ∃ a, (∀ i, i < a → came i = true) ∧ came a = false
  | 0, ⟨i, hi, h⟩ => ⟨0, fun j hj => by omega, by obtain rfl : i = 0 := by omega
                                                  exact h⟩
  | b + 1, ⟨i, hi, h⟩ => by
    by_cases hx : ∃ j, j ≤ b ∧ came j = false
    · exact first_ex came b hx
    · have hi' : i = b + 1 := by
        rcases Nat.lt_or_ge i (b + 1) with h1 | h1
        · exact absurd ⟨i, by omega, h⟩ hx
        · omega
      subst hi'
      refine ⟨b + 1, fun j hj => ?_, h⟩
      cases hc : came j with
      | true => rfl
      | false => exact absurd ⟨j, by omega, hc⟩ hx
theorem jRun_len : ∀ (l : List Pk) (s : Jm × List (List Int)), (jRun s l).2.length ≤ s.2.length + l.length
  | [], s => by show s.2.length ≤ s.2.length + 0; omega
  | p :: t, s => by
    have h1 : jRun s (p :: t) = jRun (jStep s p) t := rfl
    have h2 := jRun_len t (jStep s p)
    have h3 : (jStep s p).2.length ≤ s.2.length + 1 := by
      show (s.1.outs s.2 p.xs (hasB p.h.fl 2)).length ≤ _
      unfold Jm.outs
      split
      · simp
      · omega
    rw [h1, List.length_cons]
    omega
theorem Ro.told_len {ps : List Pk} {came : Nat → Bool} {nx : Nat} {told : List (List Int)} {m : Rm} (h : Ro ps came nx told m) : told.length ≤ ps.length := by
  have h1 := congrArg (·.2) h.jt
  dsimp only at h1
  have h2 := jRun_len (ps.take (min nx (ps.length - 1))) (jm0, [])
  rw [← h1, List.length_take] at h2
  have h3 : (([] : List (List Int))).length = 0 := rfl
  simp only [List.length_nil] at h2
  omega
theorem rwL_xs {l : List (List Int × Bool)} {b i : Nat} {p : Pk} (h : (rwL l)[i]? = some p) (hb : ∀ x ∈ l, x.1.length ≤ b) : p.xs.length ≤ b ∧ 0 ≤ p.h.fl ∧ p.h.fl ≤ 4 := by
  rcases rwL_or h with ⟨⟨xs, e⟩, hx, rfl⟩ | ⟨_, rfl⟩
  · refine ⟨hb _ (List.mem_of_getElem? hx), ?_⟩
    show (0 : Int) ≤ (if e = true then (2 : Int) else 0) ∧ (if e = true then (2 : Int) else 0) ≤ 4
    split <;> decide
  · exact ⟨Nat.zero_le _, by show (0 : Int) ≤ 4 ∧ (4 : Int) ≤ 4; decide⟩
/-- A packet as the law lets it come: trimmed, or whole. -/
def Pv.pik (q : Pv) (tr : Bool) : Pv := if tr = true then ⟨⟨q.h.kd, q.h.fl + 8, q.h.pa, q.h.sr, q.h.ds, q.h.cn, q.h.sq, q.h.pu⟩, none, 0, 0, []⟩ else q
theorem pik_rd {F : Nat → Prop} {wn W : World} {q : Pv} (h : BsR wn q.A q.n q.c q.xs) (hl : q.xs.length ≤ 1100) (hf : q.h.fl ≤ 100) (hF : ∀ k, F k → wn.heap.size ≤ k) (hb : Below wn.heap.size wn W) (tr : Bool) : PvR F W (q.pik tr) := by
  cases tr with
  | true =>
    show PvR F W ⟨⟨q.h.kd, q.h.fl + 8, q.h.pa, q.h.sr, q.h.ds, q.h.cn, q.h.sq, q.h.pu⟩, none, 0, 0, []⟩
    exact ⟨Rd.nil _ _, by show 0 ≤ 1100; omega, by show q.h.fl + 8 ≤ _; omega, fun h => absurd h (by show ¬ 0 < 0; omega)⟩
  | false =>
    show PvR F W q
    refine ⟨h.1.below hb, ?_, by omega, fun hn ad he hf' => ?_⟩
    · have := h.1.1; omega
    · have h1 := h.1.blk hn ad he
      have h2 := hF _ hf'
      omega
theorem v_lineB {F : Nat → Prop} {w : World} {r e : Nat} {m : Rm} {b : Nat} (h : RcA F w r e m) (hb : m.base = b) : Calls Try.prog 18 #[.pointer (some ⟨r, 0, none⟩)] w fun en w' => en = .returned (.agg #[.int .i64 m.sr, .int .i64 m.ds, .int .i64 m.cn, .int .i64 m.cl, .int .i64 b, .int .i64 0, .int .i64 0, .int .i64 m.pl, .int .i64 0, .int .i64 0, .int .i64 m.ar, .int .i64 m.pd, .bool false, .bool m.dn]) ∧ Below w.heap.size w w' := by
  subst hb
  exact v_line h
theorem fld_nx (m : Rm) (b : Nat) (W : World) : (Instr.field 58 (.agg #[.int .i64 m.sr, .int .i64 m.ds, .int .i64 m.cn, .int .i64 m.cl, .int .i64 b, .int .i64 0, .int .i64 0, .int .i64 m.pl, .int .i64 0, .int .i64 0, .int .i64 m.ar, .int .i64 m.pd, .bool false, .bool m.dn]) 4).run Try.prog W = .ok (.int .i64 b) W := rfl
/-- The law's settings. -/
def cfW (sz : Nat) : Cf := ⟨cf0.c0, cf0.c1, cf0.c2, cf0.c3, sz, cf0.c5, cf0.c6, cf0.c7, cf0.c8, cf0.c9, cf0.c10, cf0.c11, cf0.c12, cf0.c13⟩
theorem cfW_ok {sz : Nat} (h1 : 1 ≤ sz) (h2 : sz ≤ 40) : newE (cfW sz) 0 1 1 0 = 0 := by
  have h : okS (cfW sz) = true := by
    unfold okS
    rw [Bool.and_eq_true]
    refine ⟨by show witB 2 1 8 = true; decide, ?_⟩
    show decide _ = true
    rw [decide_eq_true_eq]
    show (1 : Int) ≤ (sz : Int) ∧ (sz : Int) ≤ 256
    omega
  unfold newE
  rw [h]
  decide
/-- The law's pieces (octets, end): what the walk wants of them. -/
theorem pcs_all {m : Int} {ms : List (List Int)} (h1 : 1 ≤ m) (h2 : m ≤ 20) (hn : ms.length ≤ 6) (hs : ∀ xs ∈ ms, xs.length ≤ 60) :
    (∀ p ∈ allP m (okM m ms), p.fn = false) ∧ ∀ x ∈ (allP m (okM m ms)).map (fun p => (p.xs, p.en)), x.1.length ≤ 20 := by
  refine ⟨fun p hp => (allP_mem h1 hp).2.1, fun x hx => ?_⟩
  obtain ⟨p, hp, rfl⟩ := List.mem_map.1 hx
  have := (allP_mem h1 hp).2.2
  show p.xs.length ≤ 20
  omega
end Go.Proofs.Ytmmjhijgedboiaa
namespace Go.Proofs.Ytmmjhijgedboiaa
open Go.RowKit Go.Shelf
abbrev PickT : Ty := .one (.int .u8) (.one .bool .unit)
/-- The k-th pick, as it lies in memory. -/
theorem pick_at {w : World} {s : Sl PickT.den} (h : (Ty.sl PickT).reads w s) (k : Nat) (hk : k < s.n) : ∃ (g o sq : Nat) (tr : Bool), s.A = some ⟨g, o, none⟩ ∧ g < w.heap.size ∧
    w.cell? ⟨g, o + k * 2, none⟩ = some (.int .u8 sq) ∧ w.cell? ⟨g, o + k * 2 + 1, none⟩ = some (.bool tr) ∧ sq < 256 := by
  obtain ⟨h1, h2, h3, h4, h5, h6⟩ := h
  have h1' : s.l.length = s.n := h1
  have hkl : k < s.l.length := by omega
  obtain ⟨g, o, hA, hg, hx⟩ := h5 (by omega) (show 0 < 2 from by omega)
  have hr : PickT.reads w s.l[k] := h6 _ (List.getElem_mem _)
  have hx' := hx k hkl
  obtain ⟨x, hxe⟩ : ∃ x, x = s.l[k] := ⟨_, rfl⟩
  rw [← hxe] at hr hx'
  clear hxe hx
  obtain ⟨sq, tr, u⟩ := x
  obtain ⟨r1, r2⟩ := hr
  obtain ⟨sn, hsn, hs⟩ := u8_nat r1
  subst hsn
  exact ⟨g, o, sn, tr, hA, hg, hx' 0 _ rfl, hx' 1 _ rfl, hs⟩
theorem SlB.ats {w : World} {A : Option Addr} {n c : Nat} {bs : List Bs} (h1 : RdV w A n c (bs.map Bs.val)) {i : Nat} (hi : i < n) : ∃ (g o : Nat) (b : Bs), A = some ⟨g, o, none⟩ ∧ g < w.heap.size ∧ w.cell? ⟨g, o + i, none⟩ = some (.slice b.A b.n b.c) ∧ bs[i]? = some b := by
  have hl : i < bs.length := by have := h1.1; simp at this; omega
  obtain ⟨g, o, hA, hg, hx⟩ := h1.2.2.2.2.2 (by omega)
  refine ⟨g, o, bs[i], hA, hg, ?_, by simp [hl]⟩
  rw [hx i hi]
  simp [hl, Bs.val]
/-- What the law takes of a message. -/
def Bs.cut60 (b : Bs) : Bs := ⟨b.A, min b.n 60, b.c, b.xs.take (min b.n 60)⟩
set_option maxHeartbeats 16000000 in
theorem lawOrders (A : Option Addr) (n c : Nat) (bs : List Bs) (mtu win : Nat) (s : Sl PickT.den) (w : World) (h1 : RdV w A n c (bs.map Bs.val)) (h2 : ∀ b ∈ bs, Rd .u8 w b.A b.n b.c b.xs) (hmt : mtu < 256) (hwn : win < 256) (hp : (Ty.sl PickT).reads w s) :
    Calls Try.prog 4 #[.slice A n c, .int .u8 mtu, .int .u8 win, .slice s.A s.n s.c] w fun e w' => e = .returned (.bool true) ∧ Below w.heap.size w w' := by
  have hnm : (n : Int) ≤ 9223372036854775807 := by
    have h3 := h1.2.1
    have h4 := h1.2.2.1
    simp only [maxLen] at h4
    omega
  have hsm : s.n ≤ 9223372036854775807 := by have h := hp.2; simp only [maxLen] at h; omega
  have HP := Lib.hid (pick_at hp)
  have HR := Lib.hid h1
  have HRb := Lib.hid h2
  obtain ⟨sA, sn, sc, sl⟩ := s
  dsimp only at *
  clear h1 h2 hp
  go_enter Try.func4, Try.ntmps4
  go_upto_block 0 with fail
  go_cut [9] from 29 to 58 (fun v W => ∃ (A1 : Option Addr) (k c1 : Nat) (ms : List (List Int)), v = .slice A1 k c1 ∧ SlB W A1 k c1 ms ∧ k ≤ 6 ∧ (∀ xs ∈ ms, xs.length ≤ 60) ∧ Below w.heap.size w W)
  case first =>
    go_wp2_with fail
    go_loopw [9, 10] (fun v i wr => ∃ (k kk : Nat) (A1 : Option Addr) (c1 : Nat) (qs : List Bs), i = .int .i64 k ∧ k ≤ n ∧ k ≤ 6 ∧ v = .slice A1 kk c1 ∧ kk ≤ k ∧ Lst 30 (w.heap.size ≤ ·) wr A1 kk c1 (qs.map Bs.val) ∧ (∀ q ∈ qs, Rd .u8 w q.A q.n q.c q.xs ∧ q.n ≤ 60) ∧ Below w.heap.size w wr) (fun v i _ => n - (intOf i).toNat)
    case atStart => exact ⟨0, 0, none, 0, [], rfl, Nat.zero_le _, by omega, rfl, Nat.zero_le _, Lst.nil _ _ _, by simp, Below.refl _ _⟩
    case round =>
      obtain ⟨k, kk, A1, c1, qs, rfl, hk, hk6, rfl, hkk, hl, hq, hb⟩ := hrel
      by_cases hlt8 : k < n ∧ k < 6
      · obtain ⟨hlt, hlt8⟩ := hlt8
        have hkI : (k : Int) < n := by omega
        have hk8I : (k : Int) < 6 := by omega
        obtain ⟨g, o, b, rfl, hg, hcell, hat⟩ := SlB.ats HR.out hlt
        have hrd := HRb.out b (List.mem_of_getElem? hat)
        have hcc := hrd.2.1
        have hcw : wr.cell? ⟨g, o + k, none⟩ = some (.slice b.A b.n b.c) := (hb.cell (p := ⟨g, o + k, none⟩) hg).trans hcell
        have HB := Lib.hid hb
        have HL := Lib.hid hl
        have HQ := Lib.hid hq
        have HBR : Hid (∀ q ∈ qs ++ [b.cut60], Rd .u8 w q.A q.n q.c q.xs ∧ q.n ≤ 60) := Lib.hid (fun q hq' => by
          rcases List.mem_append.1 hq' with h9 | h9
          · exact hq q h9
          · obtain rfl : q = b.cut60 := by simpa using h9
            exact ⟨hrd.pre (Nat.min_le_left _ _), Nat.min_le_right _ _⟩)
        have HC := Lib.hid (fun W (hW : Below w.heap.size w W) => (hW.cell (p := ⟨g, o + k, none⟩) hg).trans hcell)
        have hbyt : (kk + 1) * 24 ≤ 140737488355328 := by omega
        have hbm : b.c ≤ 9223372036854775807 := by have := hrd.2.2.1; simp only [maxLen] at this; omega
        clear hb hl hq hrd hat hcell
        by_cases hz : b.n = 0
        · have hz0 : (b.n : Int) = 0 := by omega
          clear hz
          go_wp2
          go_roundw
          case rel => exact ⟨k + 1, kk, A1, c1, qs, by go_num, by omega, by omega, rfl, by omega, HL.out, HQ.out, HB.out⟩
          case measure => simp [intOf]; omega
        · have hzI : (0 : Int) < b.n := by omega
          clear hz
          by_cases h3 : b.n ≤ 60
          · have hfw : Hid (b.cut60.val = .slice b.A b.n b.c) := Lib.hid (by unfold Bs.cut60 Bs.val; rw [Nat.min_eq_left h3])
            have hr := bytesT.run_pre b.A b.n b.c 0 b.n (by omega) hcc
            have hbs := fun W => eltB.build_one (x := .slice b.A b.n b.c) rfl W
            have H3I := Lib.hid (show ((60 : Int) < b.n) = False by simp; omega)
            have h3C : (b.n : Int) ≤ b.c := by omega
            go_wp2
            refine wp_region_E (Below w.heap.size) (by kernel_rfl) (fun wd hbd hsz => ?_)
            have h3I := H3I.out
            have HBW := Lib.hid (HB.out.trans (hbd.mono HB.out.size))
            have q1 : ∀ W, Below w.heap.size wd W → W.cell? ⟨g, o + k, none⟩ = some (.slice b.A b.n b.c) := fun W hW => HC.out W (HBW.out.trans hW)
            have hsw := HBW.out.size
            clear hsz
            (refine takeE (belowTr w.heap.size) 0 (by simp only [List.getElem?_toArray, List.getElem?_cons_succ, List.getElem?_cons_zero]; rfl) (by kernel_rfl) (by kernel_rfl) (by kernel_rfl) (by exact fun _ _ _ h => h) (by first | (refine Or.inl ⟨by rfl, ?_⟩; intro W hW; go_simp; try with_reducible rfl) | exact Or.inr ⟨by rfl, rfl⟩) ?_; try simp only [Act.put, List.setIfInBounds_toArray, List.set_cons_zero, List.set_cons_succ])
            (refine takeE (belowTr w.heap.size) 1 (by simp only [List.getElem?_toArray, List.getElem?_cons_succ, List.getElem?_cons_zero]; rfl) (by kernel_rfl) (by kernel_rfl) (by kernel_rfl) (by exact fun _ _ _ h => h) (by first | (refine Or.inl ⟨by rfl, ?_⟩; intro W hW; go_simp; try with_reducible rfl) | exact Or.inr ⟨by rfl, rfl⟩) ?_; try simp only [Act.put, List.setIfInBounds_toArray, List.set_cons_zero, List.set_cons_succ])
            (refine takeE (belowTr w.heap.size) 2 (by simp only [List.getElem?_toArray, List.getElem?_cons_succ, List.getElem?_cons_zero]; rfl) (by kernel_rfl) (by kernel_rfl) (by kernel_rfl) (by exact fun _ _ _ h => h) (by first | (refine Or.inl ⟨by rfl, ?_⟩; intro W hW; go_simp; try with_reducible rfl) | exact Or.inr ⟨by rfl, rfl⟩) ?_; try simp only [Act.put, List.setIfInBounds_toArray, List.set_cons_zero, List.set_cons_succ])
            (refine takeE (belowTr w.heap.size) 5 (by simp only [List.getElem?_toArray, List.getElem?_cons_succ, List.getElem?_cons_zero]; rfl) (by kernel_rfl) (by kernel_rfl) (by kernel_rfl) (by exact fun _ _ _ h => h) (by first | (refine Or.inl ⟨by rfl, ?_⟩; intro W hW; go_simp; try with_reducible rfl) | exact Or.inr ⟨by rfl, rfl⟩) ?_; try simp only [Act.put, List.setIfInBounds_toArray, List.set_cons_zero, List.set_cons_succ])
            (refine takeE (belowTr w.heap.size) 6 (by simp only [List.getElem?_toArray, List.getElem?_cons_succ, List.getElem?_cons_zero]; rfl) (by kernel_rfl) (by kernel_rfl) (by kernel_rfl) (by exact fun _ _ _ h => h) (by first | (refine Or.inl ⟨by rfl, ?_⟩; intro W hW; go_simp; try with_reducible rfl) | exact Or.inr ⟨by rfl, rfl⟩) ?_; try simp only [Act.put, List.setIfInBounds_toArray, List.set_cons_zero, List.set_cons_succ])
            (refine takeE (belowTr w.heap.size) 3 (by simp only [List.getElem?_toArray, List.getElem?_cons_succ, List.getElem?_cons_zero]; rfl) (by kernel_rfl) (by kernel_rfl) (by kernel_rfl) (by exact fun _ _ _ h => h) (by first | (refine Or.inl ⟨by rfl, ?_⟩; intro W hW; go_simp; try with_reducible rfl) | exact Or.inr ⟨by rfl, rfl⟩) ?_; try simp only [Act.put, List.setIfInBounds_toArray, List.set_cons_zero, List.set_cons_succ])
            (refine takeE (belowTr w.heap.size) 7 (by simp only [List.getElem?_toArray, List.getElem?_cons_succ, List.getElem?_cons_zero]; rfl) (by kernel_rfl) (by kernel_rfl) (by kernel_rfl) (by exact fun _ _ _ h => h) (by first | (refine Or.inl ⟨by rfl, ?_⟩; intro W hW; go_simp; try with_reducible rfl) | exact Or.inr ⟨by rfl, rfl⟩) ?_; try simp only [Act.put, List.setIfInBounds_toArray, List.set_cons_zero, List.set_cons_succ])
            (refine takeE (belowTr w.heap.size) 4 (by simp only [List.getElem?_toArray, List.getElem?_cons_succ, List.getElem?_cons_zero]; rfl) (by kernel_rfl) (by kernel_rfl) (by kernel_rfl) (by exact fun _ _ _ h => h) (by first | (refine Or.inl ⟨by rfl, ?_⟩; intro W hW; go_simp; try with_reducible rfl) | exact Or.inr ⟨by rfl, rfl⟩) ?_; try simp only [Act.put, List.setIfInBounds_toArray, List.set_cons_zero, List.set_cons_succ])
            (refine takeE (belowTr w.heap.size) 8 (by simp only [List.getElem?_toArray, List.getElem?_cons_succ, List.getElem?_cons_zero]; rfl) (by kernel_rfl) (by kernel_rfl) (by kernel_rfl) (by exact fun _ _ _ h => h) (by first | (refine Or.inl ⟨by rfl, ?_⟩; intro W hW; go_simp; try with_reducible rfl) | exact Or.inr ⟨by rfl, rfl⟩) ?_; try simp only [Act.put, List.setIfInBounds_toArray, List.set_cons_zero, List.set_cons_succ])
            (refine takeE (belowTr w.heap.size) 9 (by simp only [List.getElem?_toArray, List.getElem?_cons_succ, List.getElem?_cons_zero]; rfl) (by kernel_rfl) (by kernel_rfl) (by kernel_rfl) (by exact fun _ _ _ h => h) (by first | (refine Or.inl ⟨by rfl, ?_⟩; intro W hW; go_simp; try with_reducible rfl) | exact Or.inr ⟨by rfl, rfl⟩) ?_; try simp only [Act.put, List.setIfInBounds_toArray, List.set_cons_zero, List.set_cons_succ])
            (refine takeE (belowTr w.heap.size) 10 (by simp only [List.getElem?_toArray, List.getElem?_cons_succ, List.getElem?_cons_zero]; rfl) (by kernel_rfl) (by kernel_rfl) (by kernel_rfl) (by exact fun _ _ _ h => h) (by first | (refine Or.inl ⟨by rfl, ?_⟩; intro W hW; go_simp; try with_reducible rfl) | exact Or.inr ⟨by rfl, rfl⟩) ?_; try simp only [Act.put, List.setIfInBounds_toArray, List.set_cons_zero, List.set_cons_succ])
            (refine takeE (belowTr w.heap.size) 11 (by simp only [List.getElem?_toArray, List.getElem?_cons_succ, List.getElem?_cons_zero]; rfl) (by kernel_rfl) (by kernel_rfl) (by kernel_rfl) (by exact fun _ _ _ h => h) (by first | (refine Or.inl ⟨by rfl, ?_⟩; intro W hW; go_simp; try with_reducible rfl) | exact Or.inr ⟨by rfl, rfl⟩) ?_; try simp only [Act.put, List.setIfInBounds_toArray, List.set_cons_zero, List.set_cons_succ])
            refine wpAnyE_one (i := 12) (by kernel_rfl) (by simp only [List.getElem?_toArray, List.getElem?_cons_succ, List.getElem?_cons_zero]; rfl) (fun K hK => ?_)
            go_simp
            refine hK.out _ _ ((Below.refl _ _).alloc hsw _) ?_
            clear hK K
            try simp only [Act.put, List.setIfInBounds_toArray, List.set_cons_zero, List.set_cons_succ]
            refine wpAnyE_one (i := 13) (by kernel_rfl) (by simp only [List.getElem?_toArray, List.getElem?_cons_succ, List.getElem?_cons_zero]; rfl) (fun K hK => ?_)
            refine opwp_append_lst eltB rfl (.tmp 45) (.tmp 57) rfl rfl ((HL.out.below (hbd.trans (Below.alloc (Below.refl _ _) (Nat.le_refl _) _ |>.mono hbd.size))).tight) rfl (RdV.one wd 30 (.slice b.A b.n b.c) rfl) hbyt ?_
            rintro v w5 hap
            obtain ⟨A', n', c', rfl, hl5⟩ := hap.ex
            have hst5 := hap.st
            obtain rfl : n' = kk + 1 := by
              have h1 := hl5.1
              have h2 := HL.out.1
              simp at h1 h2
              omega
            have hA1 : ∀ k, BlkOf A1 k → w.heap.size ≤ k := by rintro k ⟨ad, he, rfl⟩; exact (HL.out.blk ad he).1
            have hba : Below w.heap.size wd (wd.alloc (.cells #[.slice b.A b.n b.c] 30)) := (Below.refl _ _).alloc hsw _
            have hb5 : Below w.heap.size (wd.alloc (.cells #[.slice b.A b.n b.c] 30)) w5 := hst5.below (by simp; omega) hA1
            have HB3 := Lib.hid ((HBW.out.trans hba).trans hb5)
            have HL3 := Lib.hid (hl5.mono (F' := (w.heap.size ≤ ·)) (fun k hk => by
              rcases hk with hk | hk
              · exact hA1 k hk
              · simp at hk; omega))
            clear hap hst5 hl5
            refine hK.out _ _ hb5 ?_
            clear hK K
            try simp only [Act.put, List.setIfInBounds_toArray, List.set_cons_zero, List.set_cons_succ]
            (refine takeE (belowTr w.heap.size) 14 (by simp only [List.getElem?_toArray, List.getElem?_cons_succ, List.getElem?_cons_zero]; rfl) (by kernel_rfl) (by kernel_rfl) (by kernel_rfl) (by exact fun _ _ _ h => h) (by first | (refine Or.inl ⟨by rfl, ?_⟩; intro W hW; go_simp; try with_reducible rfl) | exact Or.inr ⟨by rfl, rfl⟩) ?_; try simp only [Act.put, List.setIfInBounds_toArray, List.set_cons_zero, List.set_cons_succ])
            refine wpAnyE_done (by kernel_rfl) ?_ _
            clear q1
            go_wp2
            go_roundw
            case rel => exact ⟨k + 1, kk + 1, A', c', qs ++ [b.cut60], by go_num, by omega, by omega, rfl, by omega, by rw [List.map_append]; simp only [List.map_cons, List.map_nil]; rw [hfw.out]; exact HL3.out, HBR.out, HB3.out⟩
            case measure => simp [intOf]; omega
          · have hfw : Hid (b.cut60.val = .slice b.A 60 b.c) := Lib.hid (by unfold Bs.cut60 Bs.val; rw [Nat.min_eq_right (by omega)])
            have hr := bytesT.run_pre b.A b.n b.c 0 60 (by omega) hcc
            have hbs := fun W => eltB.build_one (x := .slice b.A 60 b.c) rfl W
            have h3I : (60 : Int) < b.n := by omega
            have h3C : (60 : Int) ≤ b.c := by omega
            go_wp2
            refine wp_region_E (Below w.heap.size) (by kernel_rfl) (fun wd hbd hsz => ?_)
            have HBW := Lib.hid (HB.out.trans (hbd.mono HB.out.size))
            have q1 : ∀ W, Below w.heap.size wd W → W.cell? ⟨g, o + k, none⟩ = some (.slice b.A b.n b.c) := fun W hW => HC.out W (HBW.out.trans hW)
            have hsw := HBW.out.size
            clear hsz
            (refine takeE (belowTr w.heap.size) 0 (by simp only [List.getElem?_toArray, List.getElem?_cons_succ, List.getElem?_cons_zero]; rfl) (by kernel_rfl) (by kernel_rfl) (by kernel_rfl) (by exact fun _ _ _ h => h) (by first | (refine Or.inl ⟨by rfl, ?_⟩; intro W hW; go_simp; try with_reducible rfl) | exact Or.inr ⟨by rfl, rfl⟩) ?_; try simp only [Act.put, List.setIfInBounds_toArray, List.set_cons_zero, List.set_cons_succ])
            (refine takeE (belowTr w.heap.size) 1 (by simp only [List.getElem?_toArray, List.getElem?_cons_succ, List.getElem?_cons_zero]; rfl) (by kernel_rfl) (by kernel_rfl) (by kernel_rfl) (by exact fun _ _ _ h => h) (by first | (refine Or.inl ⟨by rfl, ?_⟩; intro W hW; go_simp; try with_reducible rfl) | exact Or.inr ⟨by rfl, rfl⟩) ?_; try simp only [Act.put, List.setIfInBounds_toArray, List.set_cons_zero, List.set_cons_succ])
            (refine takeE (belowTr w.heap.size) 2 (by simp only [List.getElem?_toArray, List.getElem?_cons_succ, List.getElem?_cons_zero]; rfl) (by kernel_rfl) (by kernel_rfl) (by kernel_rfl) (by exact fun _ _ _ h => h) (by first | (refine Or.inl ⟨by rfl, ?_⟩; intro W hW; go_simp; try with_reducible rfl) | exact Or.inr ⟨by rfl, rfl⟩) ?_; try simp only [Act.put, List.setIfInBounds_toArray, List.set_cons_zero, List.set_cons_succ])
            (refine takeE (belowTr w.heap.size) 5 (by simp only [List.getElem?_toArray, List.getElem?_cons_succ, List.getElem?_cons_zero]; rfl) (by kernel_rfl) (by kernel_rfl) (by kernel_rfl) (by exact fun _ _ _ h => h) (by first | (refine Or.inl ⟨by rfl, ?_⟩; intro W hW; go_simp; try with_reducible rfl) | exact Or.inr ⟨by rfl, rfl⟩) ?_; try simp only [Act.put, List.setIfInBounds_toArray, List.set_cons_zero, List.set_cons_succ])
            (refine takeE (belowTr w.heap.size) 6 (by simp only [List.getElem?_toArray, List.getElem?_cons_succ, List.getElem?_cons_zero]; rfl) (by kernel_rfl) (by kernel_rfl) (by kernel_rfl) (by exact fun _ _ _ h => h) (by first | (refine Or.inl ⟨by rfl, ?_⟩; intro W hW; go_simp; try with_reducible rfl) | exact Or.inr ⟨by rfl, rfl⟩) ?_; try simp only [Act.put, List.setIfInBounds_toArray, List.set_cons_zero, List.set_cons_succ])
            (refine takeE (belowTr w.heap.size) 3 (by simp only [List.getElem?_toArray, List.getElem?_cons_succ, List.getElem?_cons_zero]; rfl) (by kernel_rfl) (by kernel_rfl) (by kernel_rfl) (by exact fun _ _ _ h => h) (by first | (refine Or.inl ⟨by rfl, ?_⟩; intro W hW; go_simp; try with_reducible rfl) | exact Or.inr ⟨by rfl, rfl⟩) ?_; try simp only [Act.put, List.setIfInBounds_toArray, List.set_cons_zero, List.set_cons_succ])
            (refine takeE (belowTr w.heap.size) 7 (by simp only [List.getElem?_toArray, List.getElem?_cons_succ, List.getElem?_cons_zero]; rfl) (by kernel_rfl) (by kernel_rfl) (by kernel_rfl) (by exact fun _ _ _ h => h) (by first | (refine Or.inl ⟨by rfl, ?_⟩; intro W hW; go_simp; try with_reducible rfl) | exact Or.inr ⟨by rfl, rfl⟩) ?_; try simp only [Act.put, List.setIfInBounds_toArray, List.set_cons_zero, List.set_cons_succ])
            (refine takeE (belowTr w.heap.size) 4 (by simp only [List.getElem?_toArray, List.getElem?_cons_succ, List.getElem?_cons_zero]; rfl) (by kernel_rfl) (by kernel_rfl) (by kernel_rfl) (by exact fun _ _ _ h => h) (by first | (refine Or.inl ⟨by rfl, ?_⟩; intro W hW; go_simp; try with_reducible rfl) | exact Or.inr ⟨by rfl, rfl⟩) ?_; try simp only [Act.put, List.setIfInBounds_toArray, List.set_cons_zero, List.set_cons_succ])
            (refine takeE (belowTr w.heap.size) 8 (by simp only [List.getElem?_toArray, List.getElem?_cons_succ, List.getElem?_cons_zero]; rfl) (by kernel_rfl) (by kernel_rfl) (by kernel_rfl) (by exact fun _ _ _ h => h) (by first | (refine Or.inl ⟨by rfl, ?_⟩; intro W hW; go_simp; try with_reducible rfl) | exact Or.inr ⟨by rfl, rfl⟩) ?_; try simp only [Act.put, List.setIfInBounds_toArray, List.set_cons_zero, List.set_cons_succ])
            (refine takeE (belowTr w.heap.size) 9 (by simp only [List.getElem?_toArray, List.getElem?_cons_succ, List.getElem?_cons_zero]; rfl) (by kernel_rfl) (by kernel_rfl) (by kernel_rfl) (by exact fun _ _ _ h => h) (by first | (refine Or.inl ⟨by rfl, ?_⟩; intro W hW; go_simp; try with_reducible rfl) | exact Or.inr ⟨by rfl, rfl⟩) ?_; try simp only [Act.put, List.setIfInBounds_toArray, List.set_cons_zero, List.set_cons_succ])
            (refine takeE (belowTr w.heap.size) 10 (by simp only [List.getElem?_toArray, List.getElem?_cons_succ, List.getElem?_cons_zero]; rfl) (by kernel_rfl) (by kernel_rfl) (by kernel_rfl) (by exact fun _ _ _ h => h) (by first | (refine Or.inl ⟨by rfl, ?_⟩; intro W hW; go_simp; try with_reducible rfl) | exact Or.inr ⟨by rfl, rfl⟩) ?_; try simp only [Act.put, List.setIfInBounds_toArray, List.set_cons_zero, List.set_cons_succ])
            (refine takeE (belowTr w.heap.size) 11 (by simp only [List.getElem?_toArray, List.getElem?_cons_succ, List.getElem?_cons_zero]; rfl) (by kernel_rfl) (by kernel_rfl) (by kernel_rfl) (by exact fun _ _ _ h => h) (by first | (refine Or.inl ⟨by rfl, ?_⟩; intro W hW; go_simp; try with_reducible rfl) | exact Or.inr ⟨by rfl, rfl⟩) ?_; try simp only [Act.put, List.setIfInBounds_toArray, List.set_cons_zero, List.set_cons_succ])
            refine wpAnyE_one (i := 12) (by kernel_rfl) (by simp only [List.getElem?_toArray, List.getElem?_cons_succ, List.getElem?_cons_zero]; rfl) (fun K hK => ?_)
            go_simp
            refine hK.out _ _ ((Below.refl _ _).alloc hsw _) ?_
            clear hK K
            try simp only [Act.put, List.setIfInBounds_toArray, List.set_cons_zero, List.set_cons_succ]
            refine wpAnyE_one (i := 13) (by kernel_rfl) (by simp only [List.getElem?_toArray, List.getElem?_cons_succ, List.getElem?_cons_zero]; rfl) (fun K hK => ?_)
            refine opwp_append_lst eltB rfl (.tmp 45) (.tmp 57) rfl rfl ((HL.out.below (hbd.trans (Below.alloc (Below.refl _ _) (Nat.le_refl _) _ |>.mono hbd.size))).tight) rfl (RdV.one wd 30 (.slice b.A 60 b.c) rfl) hbyt ?_
            rintro v w5 hap
            obtain ⟨A', n', c', rfl, hl5⟩ := hap.ex
            have hst5 := hap.st
            obtain rfl : n' = kk + 1 := by
              have h1 := hl5.1
              have h2 := HL.out.1
              simp at h1 h2
              omega
            have hA1 : ∀ k, BlkOf A1 k → w.heap.size ≤ k := by rintro k ⟨ad, he, rfl⟩; exact (HL.out.blk ad he).1
            have hba : Below w.heap.size wd (wd.alloc (.cells #[.slice b.A 60 b.c] 30)) := (Below.refl _ _).alloc hsw _
            have hb5 : Below w.heap.size (wd.alloc (.cells #[.slice b.A 60 b.c] 30)) w5 := hst5.below (by simp; omega) hA1
            have HB3 := Lib.hid ((HBW.out.trans hba).trans hb5)
            have HL3 := Lib.hid (hl5.mono (F' := (w.heap.size ≤ ·)) (fun k hk => by
              rcases hk with hk | hk
              · exact hA1 k hk
              · simp at hk; omega))
            clear hap hst5 hl5
            refine hK.out _ _ hb5 ?_
            clear hK K
            try simp only [Act.put, List.setIfInBounds_toArray, List.set_cons_zero, List.set_cons_succ]
            (refine takeE (belowTr w.heap.size) 14 (by simp only [List.getElem?_toArray, List.getElem?_cons_succ, List.getElem?_cons_zero]; rfl) (by kernel_rfl) (by kernel_rfl) (by kernel_rfl) (by exact fun _ _ _ h => h) (by first | (refine Or.inl ⟨by rfl, ?_⟩; intro W hW; go_simp; try with_reducible rfl) | exact Or.inr ⟨by rfl, rfl⟩) ?_; try simp only [Act.put, List.setIfInBounds_toArray, List.set_cons_zero, List.set_cons_succ])
            refine wpAnyE_done (by kernel_rfl) ?_ _
            clear q1
            go_wp2
            go_roundw
            case rel => exact ⟨k + 1, kk + 1, A', c', qs ++ [b.cut60], by go_num, by omega, by omega, rfl, by omega, by rw [List.map_append]; simp only [List.map_cons, List.map_nil]; rw [hfw.out]; exact HL3.out, HBR.out, HB3.out⟩
            case measure => simp [intOf]; omega
      · have HSl : Hid (SlB wr A1 kk c1 (qs.map Bs.xs)) := Lib.hid ⟨qs, hl.rdv, rfl, fun b hb' => ((hq b hb').1).below hb⟩
        have HS6 : Hid (∀ xs ∈ qs.map Bs.xs, xs.length ≤ 60) := Lib.hid (fun xs hx => by
          obtain ⟨q, hq', rfl⟩ := List.mem_map.1 hx
          rw [((hq q hq').1).1]
          exact (hq q hq').2)
        have HB := Lib.hid hb
        clear hb hl hq
        rcases (by omega : ¬ (k : Int) < n ∨ ((k : Int) < n ∧ k = 6)) with hx | ⟨hx, rfl⟩
        all_goals
          go_wp2_with fail
          go_meet
          case rel => exact ⟨A1, kk, c1, _, rfl, HSl.out, by omega, HS6.out, HB.out⟩
  case rest =>
    obtain ⟨A1, k1, c1, ms, rfl, hs, hk6, hs60, hb1⟩ := hcut
    have hb1' := Lib.hid hb1
    obtain ⟨mt, hmt20, hmtv⟩ : ∃ mt : Nat, mt < 20 ∧ Int.tmod (mtu : Int) 20 = (mt : Int) := ⟨mtu % 20, Nat.mod_lt _ (by decide), by rw [Int.tmod_eq_emod_of_nonneg (by omega)]; omega⟩
    obtain ⟨wz, hwz40, hwzv⟩ : ∃ wz : Nat, wz < 40 ∧ Int.tmod (win : Int) 40 = (wz : Int) := ⟨win % 40, Nat.mod_lt _ (by decide), by rw [Int.tmod_eq_emod_of_nonneg (by omega)]; omega⟩
    have hml := hs.len
    have HPO := Lib.hid (pcs_ok (m := 1 + (mt : Int)) (ms := ms) (by omega) (by omega) (by omega) hs60)
    have HPA := Lib.hid (pcs_all (m := 1 + (mt : Int)) (ms := ms) (by omega) (by omega) (by omega) hs60)
    have HROW := Lib.hid (l_row (w := wc) (1 + (mt : Int)) hs (by omega) (by have := HPO.out.2.2; omega) HPA.out.1)
    generalize allP (1 + (mt : Int)) (okM (1 + (mt : Int)) ms) = P0 at HPO HPA HROW
    have HPL : Hid (P0.length ≤ 360) := Lib.hid HPO.out.2.2
    have HPS : Hid ((∀ x ∈ P0.map (fun p => (p.xs, p.en)), x.1 ≠ []) ∧ ((P0.map (fun p => (p.xs, p.en))).map (fun x => x.1.length)).sum ≤ 65536 ∧ (∀ x ∈ P0.map (fun p => (p.xs, p.en)), x.1.length ≤ 20) ∧ (P0.map (fun p => (p.xs, p.en))).length ≤ 360) := Lib.hid ⟨HPO.out.1, HPO.out.2.1, HPA.out.2, by rw [List.length_map]; exact HPO.out.2.2⟩
    generalize P0.map (fun p => (p.xs, p.en)) = l at HPS HROW
    obtain ⟨sz, hsz⟩ : ∃ sz : Nat, 1 + (wz : Int) = (sz : Int) := ⟨1 + wz, rfl⟩
    have HSZ : Hid (1 ≤ sz ∧ sz ≤ 40) := Lib.hid (by omega)
    have HMK := Lib.hid (fun (L : Nat) (h : L ≤ 361) (W : World) => eltO.run_make L L (Nat.le_refl _) (by omega) W)
    clear hs hs60 hb1 hml HPO HPA
    go_upto_block 2 with (first
      | (go_at_call 25; refine HROW.out.mono ?_; rintro en w1 ⟨A2, n2, c2, rfl, hrw, hb2⟩
         have HRW := Lib.hid hrw
         have HB2 := Lib.hid hb2
         have HN2 : Hid (n2 = l.length + 1 ∧ n2 ≤ 361) := Lib.hid (by
           have h1 := hrw.len
           have h2 := HPS.out.2.2.2
           rw [rwL_len] at h1
           omega)
         have hmk := HMK.out n2 HN2.out.2
         clear hrw hb2)
      | (go_at_call 26; refine (l_conf _).mono ?_; rintro en w2 ⟨rfl, hb3⟩
         have HB3 := Lib.hid hb3
         have hz := Bk.new w2 23 [.int .i64 0, .int .i64 0, .int .i64 0, .int .i64 0, .int .i64 0, .int .i64 0, .int .i64 0, .int .i64 0, .int .i64 0, .int .i64 0, .int .i64 0, .int .i64 0, .int .i64 0, .int .i64 0]
         clear hb3)
      | ((with_reducible refine at_store 23 (.tmp 12) (.tmp 65) (by rfl) ?_); refine wpList_store_bk rowCf rfl (.tmp 12) (.tmp 65) rfl w2.heap.size 0 rfl hz cf0.cl rfl rfl (by decide) (by simp [Value.oneCell', Cf.cl]) ?_; rintro w3 hz3 hw3; rw [lay_all _ _ (by rfl)] at hz3
         have g4 := hz3.cell 4 rfl
         have f4 := hz3.free 4
         have hz4 := hz3.set 4 (.int .i64 sz)
         have HB4 : Hid (Below w2.heap.size w2 (w3.setCell ⟨w2.heap.size, 4, none⟩ (.int .i64 sz))) := Lib.hid ((((Below.refl _ _).alloc (Nat.le_refl _) (.cells #[.int .i64 0, .int .i64 0, .int .i64 0, .int .i64 0, .int .i64 0, .int .i64 0, .int .i64 0, .int .i64 0, .int .i64 0, .int .i64 0, .int .i64 0, .int .i64 0, .int .i64 0, .int .i64 0] 23)).trans (hw3.below (Nat.le_refl _) (by simp))).setCell (by show w2.heap.size ≤ w2.heap.size; omega) _)
         clear hw3 hz)
      | ((with_reducible refine at_load 23 (.tmp 12) (by rfl) ?_); refine wpList_load_bk rowCf rfl (.tmp 12) rfl w2.heap.size 0 rfl hz4 (cfW sz).cl rfl rfl ?_)
      | (go_at_call 6
         obtain ⟨wn, hwn⟩ : ∃ W, W = w3.setCell ⟨w2.heap.size, 4, none⟩ (.int .i64 sz) := ⟨_, rfl⟩
         rw [← hwn] at hz4 HB4 ⊢
         have HZ4 := Lib.hid hz4
         clear hz4 hz3 g4 f4 hwn
         refine (v_new_ok (w := wn) (cfW sz) 0 1 1 0 (cfW_ok HSZ.out.1 HSZ.out.2) (pa := 2) (size := sz) rfl rfl).mono ?_
         rintro en w4 ⟨r, e, F, rfl, hrc, hnw, hb5⟩
         have HRC := Lib.hid (And.intro hrc (And.intro hnw hb5))
         clear hrc hnw hb5)
      | (go_at_call 8; refine (awake_any _).mono ?_; rintro en w5 ⟨rfl, hb6⟩
         have HB6 := Lib.hid hb6
         clear hb6))
    obtain ⟨w0, hw0⟩ : ∃ W, W = w5.alloc (.cells (Array.replicate n2 (.bool false)) 4) := ⟨_, rfl⟩
    rw [← hw0]
    have hwn0 : Below wn.heap.size wn w0 := by
      rw [hw0]
      exact (HRC.out.2.2.trans (HB6.out.mono HRC.out.2.2.size)).alloc (Nat.le_trans HRC.out.2.2.size HB6.out.size) _
    have HJ0 : Hid (JO wn w0 w5.heap.size F r e (Rm.new sz 2 0 1 1 0) (List.replicate n2 false) none 0 0 [] w0) := Lib.hid (by
      have h1 : RcA F w0 r e (Rm.new sz 2 0 1 1 0) := (HRC.out.1.below HB6.out).below (by rw [hw0]; exact (Below.refl _ _).alloc (Nat.le_refl _) _)
      refine ⟨h1, HRC.out.2.1, fun hf => by have := (HRC.out.1.below HB6.out).lt _ hf; omega, Nat.le_trans HRC.out.2.2.size HB6.out.size, by rw [hw0]; simp, Nat.le_refl _, ?_, OutR.nil _ _ _, hwn0⟩
      rw [hw0]
      have := Bk.new w5 4 ((List.replicate n2 false).map Value.bool)
      rw [List.map_replicate] at this ⊢
      rw [List.toArray_replicate] at this
      exact this)
    have HRo0 : Hid (Ro (rwL l) (camF (List.replicate n2 false)) 0 [] (Rm.new sz 2 0 1 1 0)) := Lib.hid (by
      rw [camF_no]
      exact Ro.start (rwL l) (rwL_ok l) sz 2 0 1 1 0)
    have HFI0 : Hid ((Rm.new sz 2 0 1 1 0).Fit 0) := Lib.hid (Rm.new_fit 0 1 1 0 HSZ.out.1 (by have := HSZ.out.2; omega) (by omega) (by omega))
    have HWN : Hid (Below w.heap.size w wn) := Lib.hid (hb1'.out.trans ((HB2.out.trans ((HB3.out.trans (HB4.out.mono HB3.out.size)).mono HB2.out.size)).mono hb1'.out.size))
    have HRWn : Hid (RwM wn A2 n2 c2 (rwL l)) := Lib.hid (HRW.out.below (HB3.out.trans (HB4.out.mono HB3.out.size)))
    have HCFn : Hid (∀ W, Below wn.heap.size wn W → W.cell? ⟨w2.heap.size, 4, none⟩ = some (.int .i64 sz)) := Lib.hid (fun W hW => (HZ4.out.below hW).cell 4 rfl)
    generalize w5.heap.size = gc at *
    generalize w2.heap.size = bc at *
    clear hwn0 HRW HB2 HB3 HB4 HZ4 HRC HB6 hb1' HROW HMK hmk hw0
    go_cut [15, 17] from 89 to 157 (fun tv nv W => ∃ (nx : Nat) (tA : Option Addr) (tn tc : Nat) (told : List (List Int)) (cams : List Bool) (F : Nat → Prop) (m : Rm), tv = .slice tA tn tc ∧ nv = .int .i64 nx ∧ JO wn w0 gc F r e m cams tA tn tc told W ∧ Ro (rwL l) (camF cams) nx told m)
    case first =>
      go_wp2_with fail
      go_loopw [15, 17, 18] (fun tv nv iv wr => ∃ (i nx : Nat) (tA : Option Addr) (tn tc : Nat) (told : List (List Int)) (cams : List Bool) (F : Nat → Prop) (m : Rm), iv = .int .i64 i ∧ i ≤ sn ∧ i ≤ 200 ∧ tv = .slice tA tn tc ∧ nv = .int .i64 nx ∧ JO wn w0 gc F r e m cams tA tn tc told wr ∧ Ro (rwL l) (camF cams) nx told m ∧ m.Fit i ∧ m.size = sz ∧ cams.length = n2) (fun _ _ iv _ => sn - (intOf iv).toNat)
      case atStart => exact ⟨0, 0, none, 0, 0, [], _, F, _, rfl, Nat.zero_le _, by omega, rfl, rfl, HJ0.out, HRo0.out, HFI0.out, rfl, List.length_replicate⟩
      case round =>
        clear HJ0 HRo0 HFI0
        obtain ⟨i, nx, tA, tn, tc, told, cams, F, m, rfl, hi, hi200, rfl, rfl, hJ, hRo, hFi, hms, hcl⟩ := hrel
        have HJ := Lib.hid hJ
        have HM := Lib.hid (And.intro hRo (And.intro hFi (And.intro hms hcl)))
        clear hJ hRo hFi hms hcl
        by_cases hc : i < sn ∧ i < 200
        · obtain ⟨hlt, h200⟩ := hc
          have hltI : (i : Int) < sn := by omega
          have h200I : (i : Int) < 200 := by omega
          obtain ⟨g, o, sq, tr, hA, hg, hp1, hp2, hs256⟩ := HP.out i hlt
          obtain rfl : sA = some ⟨g, o, none⟩ := hA
          obtain ⟨kk, hkk, hkv⟩ : ∃ kk : Nat, kk < n2 ∧ Int.tmod (sq : Int) (n2 : Int) = (kk : Int) := ⟨sq % n2, Nat.mod_lt _ (by have := HN2.out.1; omega), by rw [Int.tmod_eq_emod_of_nonneg (by omega)]; omega⟩
          obtain ⟨g2, o2, q, hA2, hra, hbs, hat, hg2⟩ := HRWn.out.row hkk
          obtain rfl : A2 = some ⟨g2, o2, none⟩ := hA2
          have hsq : q.h.sq = kk := (rwL_ok l).sq kk q.pk hat
          obtain ⟨⟨kd, fl, pa, sr, ds, cn, sq', pu⟩, qA, qn, qc, qx⟩ := q
          dsimp only at hsq
          subst hsq
          have HAT := Lib.hid hat
          have HBS := Lib.hid hbs
          have HX := Lib.hid (rwL_xs hat HPS.out.2.2.1)
          have HWW : Hid (Below w.heap.size w wr) := Lib.hid (HWN.out.trans (HJ.out.bel.mono HWN.out.size))
          have HPK : Hid (∀ W, Below wr.heap.size wr W → W.cell? ⟨g, o + i * 2 + 1, none⟩ = some (.bool tr)) := Lib.hid (fun W hW => ((HWW.out.trans (hW.mono HWW.out.size)).cell (p := ⟨g, o + i * 2 + 1, none⟩) hg).trans hp2)
          have hq1 : wr.cell? ⟨g, o + i * 2, none⟩ = some (.int .u8 sq) := (HWW.out.cell (p := ⟨g, o + i * 2, none⟩) hg).trans hp1
          have hrw : wr.rangeAt g2 (o2 + kk * 9) (Pv.cl ⟨⟨kd, fl, pa, sr, ds, cn, kk, pu⟩, qA, qn, qc, qx⟩) := range_below hra hg2 HJ.out.bel
          have hzp := Bk.new wr 40 [.int .i64 0, .int .i64 0, .int .i64 0, .int .i64 0, .int .i64 0, .int .i64 0, .int .i64 0, .int .i64 0, .slice none 0 0]
          have hkkI : (kk : Int) < n2 := by omega
          have hn0 : (n2 : Int) ≠ 0 := by omega
          obtain ⟨q, hqe⟩ : ∃ q : Pv, q = ⟨⟨kd, fl, pa, sr, ds, cn, kk, pu⟩, qA, qn, qc, qx⟩ := ⟨_, rfl⟩
          clear hra hbs hat hp1 hp2
          go_upto_if 117 with (first
            | ((with_reducible refine at_load 40 (.tmp 109) (by rfl) ?_); refine wpList_load_pk rowP rfl (.tmp 109) rfl ⟨⟨kd, fl, pa, sr, ds, cn, kk, pu⟩, qA, qn, qc, qx⟩ g2 (o2 + kk * 9) rfl hrw ?_)
            | ((with_reducible refine at_store 40 (.tmp 19) (.tmp 110) (by rfl) ?_); refine wpList_store_bk rowP rfl (.tmp 19) (.tmp 110) rfl wr.heap.size 0 rfl hzp (Pv.cl ⟨⟨kd, fl, pa, sr, ds, cn, kk, pu⟩, qA, qn, qc, qx⟩) rfl rfl (by decide) (Pv.cl_one _) ?_; rintro w6 hz6 hw6; rw [lay_all _ _ (by rfl)] at hz6
               have hb6 : Below wr.heap.size wr w6 := ((Below.refl _ _).alloc (Nat.le_refl _) (.cells #[.int .i64 0, .int .i64 0, .int .i64 0, .int .i64 0, .int .i64 0, .int .i64 0, .int .i64 0, .int .i64 0, .slice none 0 0] 40)).trans (hw6.below (Nat.le_refl _) (by simp))
               have hp3 := HPK.out w6 hb6
               have c6 := hz6.cell 6 rfl
               have HB6 := Lib.hid hb6
               clear hb6 hw6 hzp))
          have HZ6 := Lib.hid hz6
          have HJ6 := Lib.hid (HJ.out.next HB6.out)
          have c1 := hz6.cell 1 rfl
          have f1 := hz6.free 1
          have c8 := hz6.cell 8 rfl
          have f8 := hz6.free 8
          have hgl := HJ6.out.cm.lt
          have hwg : gc < wr.heap.size := HJ.out.cm.lt
          have hnx := HM.out.1.le
          rw [rwL_len] at hnx
          have hn2 := HN2.out
          have hfl : 0 ≤ fl ∧ fl ≤ 4 := HX.out.2
          obtain ⟨hfl0, hfl4⟩ := hfl
          have hnx3 : nx ≤ 361 := by omega
          have hsz40 := HSZ.out.2
          obtain ⟨hn2l, hn2m⟩ := hn2
          clear hz6 hnx c6 hp3 hn2l
          go_cut [] from 89 to 157 (fun W => Bk W 40 wr.heap.size (q.pik tr).cl ∧ JO wn w0 gc F r e m (camP cams nx sz kk tr) tA tn tc told W)
          case first =>
            cases tr with
            | true =>
              have HCP : Hid (camP cams nx sz kk true = cams) := Lib.hid (by unfold camP; rw [if_neg (by simp)])
              go_wp2_with fail
              go_meet
              case rel =>
                refine ⟨?_, ?_⟩
                · rw [hqe]
                  exact (HZ6.out.set 8 _).set 1 _
                · rw [HCP.out]
                  refine HJ.out.next ((HB6.out.setCell ?_ _).setCell ?_ _)
                  · show wr.heap.size ≤ wr.heap.size; omega
                  · show wr.heap.size ≤ wr.heap.size; omega
            | false =>
              have ccf := HCFn.out w6 HJ6.out.bel
              by_cases hw : kk < nx + sz
              · have HCP : Hid (camP cams nx sz kk false = cams.set kk true) := Lib.hid (by unfold camP; rw [if_pos ⟨rfl, hw⟩])
                have hwI : (kk : Int) < (nx : Int) + sz := by omega
                have cg : w6.cell? ⟨gc, kk, none⟩ = some (.bool (camF cams kk)) := HJ6.out.cm.cell kk (by
                  rw [List.getElem?_map, List.getElem?_eq_getElem (by rw [HM.out.2.2.2]; exact hkk), camF_at (by rw [HM.out.2.2.2]; exact hkk)]; rfl)
                have fg := HJ6.out.cm.free kk
                clear hw
                go_wp2_with fail
                go_meet
                case rel =>
                  refine ⟨?_, ?_⟩
                  · rw [hqe]
                    exact HZ6.out.far (by show wr.heap.size ≠ gc; omega) _
                  · rw [HCP.out]
                    exact HJ6.out.mark kk true
              · have HCP : Hid (camP cams nx sz kk false = cams) := Lib.hid (by unfold camP; rw [if_neg (fun h => hw h.2)])
                have hwI : (nx : Int) + sz ≤ kk := by omega
                clear hw
                go_wp2_with fail
                go_meet
                case rel =>
                  refine ⟨?_, ?_⟩
                  · rw [hqe]
                    exact HZ6.out
                  · rw [HCP.out]
                    exact HJ6.out
          case rest =>
            obtain ⟨hz7, hJ7⟩ := hcut
            have HJ7 := Lib.hid hJ7
            have hll : l.length ≤ 1000000 := by have := HPS.out.2.2.2; omega
            have hcl : kk < cams.length := by rw [HM.out.2.2.2]; exact hkk
            have HCL : Hid ((camP cams nx sz kk tr).length = n2) := Lib.hid (by rw [camP_len]; exact HM.out.2.2.2)
            obtain ⟨nx', hall, hgap⟩ := first_ex (camF (camP cams nx sz kk tr)) n2 ⟨n2, Nat.le_refl _, camF_out (by rw [HCL.out]; exact Nat.le_refl _)⟩
            have hro : Ro (rwL l) (camF (camP cams nx sz kk tr)) nx' (told ++ m.told (q.pik tr).pk) (m.take (q.pik tr).pk) := by
              have h8 := rwL_8 HAT.out
              have hall' := hall
              have hgap' := hgap
              rw [camP_f hcl] at hall' hgap' ⊢
              rw [← HM.out.2.2.1] at hall' hgap' ⊢
              refine HM.out.1.pick (rwL_ok l) HAT.out (rwL_tkn HAT.out hll) h8.1 ?_ hall' hgap'
              rw [hqe]
              cases tr with
              | true => exact h8.2
              | false => rfl
            have hpv : PvR (FR F r) wc (q.pik tr) := pik_rd (q := q) (by rw [hqe]; exact HBS.out) (by rw [hqe]; have := HX.out.1; exact Nat.le_trans this (by decide)) (by rw [hqe]; show fl ≤ 100; omega) HJ7.out.nw HJ7.out.bel tr
            have hpx : (q.pik tr).pk.xs.length ≤ 1100 := by have h1 := hpv.1.1; have h2 := hpv.2.1; show (q.pik tr).xs.length ≤ 1100; omega
            obtain ⟨qq, hqq⟩ : ∃ qq, qq = q.pik tr := ⟨_, rfl⟩
            rw [← hqq] at hz7 hro hpv hpx
            have HGAP := Lib.hid (And.intro hall hgap)
            have HMONO : Hid (∀ j, camF cams j = true → camF (camP cams nx sz kk tr) j = true) := Lib.hid (fun j hj => camP_mono hcl hj)
            generalize camP cams nx sz kk tr = cams' at *
            have HRO := Lib.hid hro
            have HPV := Lib.hid hpv
            have HM9 : Hid ((m.take qq.pk).Fit (i + 1) ∧ (m.take qq.pk).size = sz ∧ cams'.length = n2) := Lib.hid ⟨HM.out.2.1.take (by omega) _ hpx, by rw [Rm.take_size]; exact HM.out.2.2.1, HCL.out⟩
            have hnn : nx ≤ nx' := by
              rcases Nat.lt_or_ge nx' nx with h9 | h9
              · have h8 := HMONO.out nx' (HM.out.1.all nx' h9)
                rw [hgap] at h8
                cases h8
              · exact h9
            have hnx2 : nx' ≤ n2 := by
              have := hro.le
              rw [rwL_len] at this
              have := HN2.out.1
              omega
            have hn2m := HN2.out.2
            have HTL := Lib.hid hro.told_len
            clear hJ7 hro hpv hpx hall hgap hqq hcl hll HZ6 HJ6 c1 f1 c8 f8 hgl hwg hfl0 hfl4 hnx3 hsz40 hrw hq1 HPK HAT HBS HX hqe
            go_wp2_with (first
              | ((with_reducible refine at_load 40 (.tmp 19) (by rfl) ?_); refine wpList_load_bk rowP rfl (.tmp 19) rfl wr.heap.size 0 rfl hz7 [.int .i64 qq.h.kd, .int .i64 qq.h.fl, .int .i64 qq.h.pa, .int .i64 qq.h.sr, .int .i64 qq.h.ds, .int .i64 qq.h.cn, .int .i64 qq.h.sq, .int .i64 qq.h.pu, .slice qq.A qq.n qq.c] rfl rfl ?_)
              | (go_at_call 9; refine (v_take HJ7.out.rc HM.out.2.1 (by omega) qq HPV.out).mono ?_; rintro en w8 ⟨A6, n6, c6, B6, k6, d6, F', rfl, hr6, hs6, hg6, hsl6, ho6, hof6⟩
                 have hJ8 := HJ7.out.code hr6 hs6 hg6
                 obtain ⟨bs6, hl6, hbs6, hx6⟩ := ho6
                 obtain ⟨bz, hlz, hbz, hxz⟩ := hJ8.ot
                 subst hbz
                 have hby : (tn + k6) * 24 ≤ 140737488355328 := by
                   have h1 := HTL.out
                   have h2 := hlz.1
                   have h3 := hl6.1
                   rw [← hbs6, List.length_append, List.length_map, List.length_map, rwL_len] at h1
                   rw [List.length_map] at h2 h3
                   have h4 := HN2.out
                   omega
                 have hu6 := hl6.rdv
                 have hlt8 := hlz.tight
                 have hw08 : w0.heap.size ≤ wc.heap.size := HJ7.out.sz
                 have HX6 : Hid (∀ b ∈ bs6, BsR w8 b.A b.n b.c b.xs ∧ ∀ k, BlkOf b.A k → w0.heap.size ≤ k ∧ ¬ FR F' r k) := Lib.hid (fun b hb => ⟨(hx6 b hb).1, fun k hk => ⟨Nat.le_trans hw08 ((hx6 b hb).2 k hk).1, ((hx6 b hb).2 k hk).2⟩⟩)
                 have HJ8 := Lib.hid hJ8
                 have HLZ := Lib.hid (And.intro hlz hxz)
                 have HBS6 := Lib.hid hbs6
                 clear hr6 hs6 hg6 hsl6 hof6 hJ8 hl6 hx6 hlz hxz hbs6 hw08)
              | (at_builtin
                 refine wpList_append_lst eltB rfl (.tmp 138) (.tmp 139) rfl rfl hlt8 rfl hu6 hby ?_
                 rintro v w9 hap
                 obtain ⟨A9, n9, c9, rfl, hJ9⟩ := HJ8.out.tell HLZ.out.1 HLZ.out.2 HX6.out hap
                 have HJ9 := Lib.hid hJ9
                 clear hap hJ9 hlt8 hu6 hby))
            have HBQ := HBS6
            have hnx0 := hnx2
            go_loopw [17] (fun nv wi => ∃ j : Nat, nv = .int .i64 j ∧ j ≤ nx' ∧ wi = w9) (fun nv _ => nx' + 1 - (intOf nv).toNat)
            case atStart => exact ⟨nx, rfl, hnn, rfl⟩
            case round =>
              obtain ⟨j, rfl, hj, hwi⟩ := hrel
              obtain rfl := hwi.symm
              by_cases hjn : j < n2
              · have hjI : (j : Int) < n2 := by omega
                have hcj : w9.cell? ⟨gc, j, none⟩ = some (.bool (camF cams' j)) := HJ9.out.cm.cell j (by
                  rw [List.getElem?_map, List.getElem?_eq_getElem (by rw [HM9.out.2.2]; exact hjn), camF_at (by rw [HM9.out.2.2]; exact hjn)]; rfl)
                cases hcv : camF cams' j with
                | true =>
                  rw [hcv] at hcj
                  have hjl : j < nx' := by
                    rcases Nat.lt_or_ge j nx' with h9 | h9
                    · exact h9
                    · obtain rfl : j = nx' := by omega
                      rw [HGAP.out.2] at hcv
                      cases hcv
                  clear hcv
                  go_wp2
                  go_roundw
                  case rel => exact ⟨j + 1, by go_num, by omega, trivial⟩
                  case measure => simp [intOf]; omega
                | false =>
                  rw [hcv] at hcj
                  have hjl : nx' = j := by
                    rcases Nat.lt_or_ge j nx' with h9 | h9
                    · have := HGAP.out.1 j h9
                      rw [hcv] at this
                      cases this
                    · omega
                  clear hcv
                  subst hjl
                  go_wp2_with (go_at_call 18; refine (v_lineB HJ9.out.rc HRO.out.base).mono ?_; rintro en w10 ⟨rfl, hb10⟩
                               have hfn := fld_nx (m.take qq.pk) nx' w10
                               have HJ10 := Lib.hid (HJ9.out.next hb10)
                               clear hb10)
                  go_roundw
                  case rel => exact ⟨i + 1, nx', A9, n9, c9, _, cams', F', m.take qq.pk, by go_num, by omega, by omega, rfl, rfl, HJ10.out, HBQ.out ▸ HRO.out, HM9.out⟩
                  case measure => simp [intOf]; omega
              · have hjI : (n2 : Int) ≤ j := by omega
                have hjl : nx' = j := by omega
                subst hjl
                go_wp2_with (go_at_call 18; refine (v_lineB HJ9.out.rc HRO.out.base).mono ?_; rintro en w10 ⟨rfl, hb10⟩
                             have hfn := fld_nx (m.take qq.pk) nx' w10
                             have HJ10 := Lib.hid (HJ9.out.next hb10)
                             clear hb10)
                go_roundw
                case rel => exact ⟨i + 1, nx', A9, n9, c9, _, cams', F', m.take qq.pk, by go_num, by omega, by omega, rfl, rfl, HJ10.out, HBQ.out ▸ HRO.out, HM9.out⟩
                case measure => simp [intOf]; omega
        · rcases (by omega : ¬ (i : Int) < sn ∨ ((i : Int) < sn ∧ i = 200)) with hx | ⟨hx, rfl⟩
          all_goals
            clear hc
            go_wp2_with fail
            go_meet
            case rel => exact ⟨nx, tA, tn, tc, told, cams, F, m, rfl, rfl, HJ.out, HM.out.1⟩
    case rest =>
      clear HJ0 HRo0 HFI0
      obtain ⟨nx, tA, tn, tc, told, cams, F, m, rfl, rfl, hJ, hRo⟩ := hcut
      have HJ := Lib.hid hJ
      have HM := Lib.hid hRo
      have hnx := hRo.le
      rw [rwL_len] at hnx
      have hn2 := HN2.out
      obtain ⟨hn2l, hn2m⟩ := hn2
      have hnx3 : nx ≤ 361 := by omega
      have hl3 : l.length ≤ 360 := by omega
      have HN3 := Lib.hid (And.intro hn2l hnx)
      have hn2I : (n2 : Int) - 1 = l.length := by omega
      clear hJ hRo hnx hn2l
      go_upto_block 6 with fail
      go_cut [23, 24] from 158 to 186 (fun pv ev W => ∃ (M : Nat) (A5 A6 : Option Addr) (c5 c6 : Nat), pv = .slice A5 M c5 ∧ ev = .slice A6 M c6 ∧ M = min nx l.length ∧ SlB W A5 M c5 ((l.take M).map (·.1)) ∧ RdV W A6 M c6 (((l.take M).map (·.2)).map .bool) ∧ Below wc.heap.size wc W)
      case first =>
        go_wp2_with fail
        go_loopw [23, 24, 25] (fun pv ev iv wr => ∃ (k : Nat) (A5 A6 : Option Addr) (c5 c6 : Nat) (ps : List Bs), iv = .int .i64 k ∧ k ≤ nx ∧ k ≤ l.length ∧ pv = .slice A5 k c5 ∧ ev = .slice A6 k c6 ∧ Lst 30 (wc.heap.size ≤ ·) wr A5 k c5 (ps.map Bs.val) ∧ ps.map Bs.xs = (l.take k).map (·.1) ∧ (∀ b ∈ ps, Rd .u8 wc b.A b.n b.c b.xs) ∧ Lst 4 (wc.heap.size ≤ ·) wr A6 k c6 (((l.take k).map (·.2)).map .bool) ∧ Below wc.heap.size wc wr) (fun _ _ iv _ => nx + 1 - (intOf iv).toNat)
        case atStart => exact ⟨0, none, none, 0, 0, [], rfl, Nat.zero_le _, Nat.zero_le _, rfl, rfl, Lst.nil _ _ _, rfl, by simp, Lst.nil _ _ _, Below.refl _ _⟩
        case round =>
          obtain ⟨k, A5, A6, c5, c6, ps, rfl, hk, hkl, rfl, rfl, hl5, hps, hpr, hl6, hb⟩ := hrel
          by_cases hlt : k < nx ∧ k < l.length
          · obtain ⟨hk1, hk2⟩ := hlt
            have hkI : (k : Int) < nx := by omega
            have hkI2 : (k : Int) < l.length := by omega
            have hkn : k < n2 := by omega
            have hknI : (k : Int) < n2 := by omega
            obtain ⟨g2, o2, q, hA2, hra, hbs, hat, hg2⟩ := HRWn.out.row hkn
            obtain rfl : A2 = some ⟨g2, o2, none⟩ := hA2
            obtain ⟨x, hx⟩ : ∃ x, l[k]? = some x := ⟨_, List.getElem?_eq_getElem hk2⟩
            rw [rwL_at hx] at hat
            have hqp : q.pk = pcP k x := (Option.some.inj hat).symm
            have hqx : q.xs = x.1 := congrArg Pk.xs hqp
            have hqf : q.h.fl = (if x.2 = true then 2 else 0) := congrArg (fun p => p.h.fl) hqp
            have HHB : Hid (hasB q.h.fl 2 = x.2) := Lib.hid (by
              have := (pcP_fl k x).1
              rw [← hqp] at this
              exact this)
            have HFL : Hid (q.h.fl ≤ 9223372036854775807) := Lib.hid (by rw [hqf]; split <;> decide)
            have HX : Hid ((l.take (k + 1)).map (·.1) = (l.take k).map (·.1) ++ [q.xs] ∧ ((l.take (k + 1)).map (·.2)).map Value.bool = ((l.take k).map (·.2)).map Value.bool ++ [.bool x.2]) := Lib.hid (by
              rw [List.take_add_one, hx, hqx]
              simp)
            have hbn := HJ.out.bel
            have HRQ : Hid (Rd .u8 wc q.A q.n q.c q.xs) := Lib.hid (hbs.1.below hbn)
            have HRA : Hid (∀ W, Below wc.heap.size wc W → W.rangeAt g2 (o2 + k * 9) q.cl) := Lib.hid (fun W hW => range_below hra hg2 (hbn.trans (hW.mono hbn.size)))
            have HB := Lib.hid hb
            have HL5 := Lib.hid (And.intro hl5 (And.intro hps hpr))
            have HL6 := Lib.hid hl6
            have hbyt : (k + 1) * 24 ≤ 140737488355328 := by omega
            have hbyo : (k + 1) * 1 ≤ 140737488355328 := by omega
            have hbs1 := fun W => eltB.build_one (x := .slice q.A q.n q.c) rfl W
            have hbs2 := fun W => eltO.build_one (x := .bool x.2) rfl W
            obtain ⟨qf, hqfe⟩ : ∃ qf, qf = q.h.fl := ⟨_, rfl⟩
            clear hra hbs hat hqp hqx hqf hbn hb hl5 hps hpr hl6 hx hqfe
            go_wp2
            refine wp_region_E (Below wc.heap.size) (by kernel_rfl) (fun wd hbd hsz => ?_)
            have HBW := Lib.hid (HB.out.trans (hbd.mono HB.out.size))
            have q1 : ∀ W, Below wc.heap.size wd W → W.cell? ⟨g2, o2 + k * 9 + 8, none⟩ = some (.slice q.A q.n q.c) := fun W hW => HRA.out W (HBW.out.trans hW) 8 _ rfl
            have q2 : ∀ W, Below wc.heap.size wd W → W.cell? ⟨g2, o2 + k * 9 + 1, none⟩ = some (.int .i64 q.h.fl) := fun W hW => HRA.out W (HBW.out.trans hW) 1 _ rfl
            have hsw := HBW.out.size
            clear hsz
            (refine takeE (belowTr wc.heap.size) 0 (by simp only [List.getElem?_toArray, List.getElem?_cons_succ, List.getElem?_cons_zero]; rfl) (by kernel_rfl) (by kernel_rfl) (by kernel_rfl) (by exact fun _ _ _ h => h) (by first | (refine Or.inl ⟨by rfl, ?_⟩; intro W hW; go_simp; try with_reducible rfl) | exact Or.inr ⟨by rfl, rfl⟩) ?_; try simp only [Act.put, List.setIfInBounds_toArray, List.set_cons_zero, List.set_cons_succ])
            (refine takeE (belowTr wc.heap.size) 1 (by simp only [List.getElem?_toArray, List.getElem?_cons_succ, List.getElem?_cons_zero]; rfl) (by kernel_rfl) (by kernel_rfl) (by kernel_rfl) (by exact fun _ _ _ h => h) (by first | (refine Or.inl ⟨by rfl, ?_⟩; intro W hW; go_simp; try with_reducible rfl) | exact Or.inr ⟨by rfl, rfl⟩) ?_; try simp only [Act.put, List.setIfInBounds_toArray, List.set_cons_zero, List.set_cons_succ])
            (refine takeE (belowTr wc.heap.size) 2 (by simp only [List.getElem?_toArray, List.getElem?_cons_succ, List.getElem?_cons_zero]; rfl) (by kernel_rfl) (by kernel_rfl) (by kernel_rfl) (by exact fun _ _ _ h => h) (by first | (refine Or.inl ⟨by rfl, ?_⟩; intro W hW; go_simp; try with_reducible rfl) | exact Or.inr ⟨by rfl, rfl⟩) ?_; try simp only [Act.put, List.setIfInBounds_toArray, List.set_cons_zero, List.set_cons_succ])
            (refine takeE (belowTr wc.heap.size) 8 (by simp only [List.getElem?_toArray, List.getElem?_cons_succ, List.getElem?_cons_zero]; rfl) (by kernel_rfl) (by kernel_rfl) (by kernel_rfl) (by exact fun _ _ _ h => h) (by first | (refine Or.inl ⟨by rfl, ?_⟩; intro W hW; go_simp; try with_reducible rfl) | exact Or.inr ⟨by rfl, rfl⟩) ?_; try simp only [Act.put, List.setIfInBounds_toArray, List.set_cons_zero, List.set_cons_succ])
            (refine takeE (belowTr wc.heap.size) 9 (by simp only [List.getElem?_toArray, List.getElem?_cons_succ, List.getElem?_cons_zero]; rfl) (by kernel_rfl) (by kernel_rfl) (by kernel_rfl) (by exact fun _ _ _ h => h) (by first | (refine Or.inl ⟨by rfl, ?_⟩; intro W hW; go_simp; try with_reducible rfl) | exact Or.inr ⟨by rfl, rfl⟩) ?_; try simp only [Act.put, List.setIfInBounds_toArray, List.set_cons_zero, List.set_cons_succ])
            (refine takeE (belowTr wc.heap.size) 10 (by simp only [List.getElem?_toArray, List.getElem?_cons_succ, List.getElem?_cons_zero]; rfl) (by kernel_rfl) (by kernel_rfl) (by kernel_rfl) (by exact fun _ _ _ h => h) (by first | (refine Or.inl ⟨by rfl, ?_⟩; intro W hW; go_simp; try with_reducible rfl) | exact Or.inr ⟨by rfl, rfl⟩) ?_; try simp only [Act.put, List.setIfInBounds_toArray, List.set_cons_zero, List.set_cons_succ])
            (refine takeE (belowTr wc.heap.size) 3 (by simp only [List.getElem?_toArray, List.getElem?_cons_succ, List.getElem?_cons_zero]; rfl) (by kernel_rfl) (by kernel_rfl) (by kernel_rfl) (by exact fun _ _ _ h => h) (by first | (refine Or.inl ⟨by rfl, ?_⟩; intro W hW; go_simp; try with_reducible rfl) | exact Or.inr ⟨by rfl, rfl⟩) ?_; try simp only [Act.put, List.setIfInBounds_toArray, List.set_cons_zero, List.set_cons_succ])
            (refine takeE (belowTr wc.heap.size) 11 (by simp only [List.getElem?_toArray, List.getElem?_cons_succ, List.getElem?_cons_zero]; rfl) (by kernel_rfl) (by kernel_rfl) (by kernel_rfl) (by exact fun _ _ _ h => h) (by first | (refine Or.inl ⟨by rfl, ?_⟩; intro W hW; go_simp; try with_reducible rfl) | exact Or.inr ⟨by rfl, rfl⟩) ?_; try simp only [Act.put, List.setIfInBounds_toArray, List.set_cons_zero, List.set_cons_succ])
            (refine takeE (belowTr wc.heap.size) 4 (by simp only [List.getElem?_toArray, List.getElem?_cons_succ, List.getElem?_cons_zero]; rfl) (by kernel_rfl) (by kernel_rfl) (by kernel_rfl) (by exact fun _ _ _ h => h) (by first | (refine Or.inl ⟨by rfl, ?_⟩; intro W hW; go_simp; try with_reducible rfl) | exact Or.inr ⟨by rfl, rfl⟩) ?_; try simp only [Act.put, List.setIfInBounds_toArray, List.set_cons_zero, List.set_cons_succ])
            (refine takeE (belowTr wc.heap.size) 12 (by simp only [List.getElem?_toArray, List.getElem?_cons_succ, List.getElem?_cons_zero]; rfl) (by kernel_rfl) (by kernel_rfl) (by kernel_rfl) (by exact fun _ _ _ h => h) (by first | (refine Or.inl ⟨by rfl, ?_⟩; intro W hW; go_simp; try with_reducible rfl) | exact Or.inr ⟨by rfl, rfl⟩) ?_; try simp only [Act.put, List.setIfInBounds_toArray, List.set_cons_zero, List.set_cons_succ])
            (refine takeE (belowTr wc.heap.size) 5 (by simp only [List.getElem?_toArray, List.getElem?_cons_succ, List.getElem?_cons_zero]; rfl) (by kernel_rfl) (by kernel_rfl) (by kernel_rfl) (by exact fun _ _ _ h => h) (by first | (refine Or.inl ⟨by rfl, ?_⟩; intro W hW; go_simp; try with_reducible rfl) | exact Or.inr ⟨by rfl, rfl⟩) ?_; try simp only [Act.put, List.setIfInBounds_toArray, List.set_cons_zero, List.set_cons_succ])
            (refine takeE (belowTr wc.heap.size) 13 (by simp only [List.getElem?_toArray, List.getElem?_cons_succ, List.getElem?_cons_zero]; rfl) (by kernel_rfl) (by kernel_rfl) (by kernel_rfl) (by exact fun _ _ _ h => h) (by first | (refine Or.inl ⟨by rfl, ?_⟩; intro W hW; go_simp; try with_reducible rfl) | exact Or.inr ⟨by rfl, rfl⟩) ?_; try simp only [Act.put, List.setIfInBounds_toArray, List.set_cons_zero, List.set_cons_succ])
            refine wpAnyE_one (i := 6) (by kernel_rfl) (by simp only [List.getElem?_toArray, List.getElem?_cons_succ, List.getElem?_cons_zero]; rfl) (fun K hK => ?_)
            go_simp
            refine hK.out _ _ ((Below.refl _ _).alloc hsw _) ?_
            clear hK K
            try simp only [Act.put, List.setIfInBounds_toArray, List.set_cons_zero, List.set_cons_succ]
            refine wpAnyE_one (i := 7) (by kernel_rfl) (by simp only [List.getElem?_toArray, List.getElem?_cons_succ, List.getElem?_cons_zero]; rfl) (fun K hK => ?_)
            refine opwp_append_lst eltB rfl (.tmp 170) (.tmp 176) rfl rfl ((HL5.out.1.below (hbd.trans (Below.alloc (Below.refl _ _) (Nat.le_refl _) _ |>.mono hbd.size))).tight) rfl (RdV.one wd 30 (.slice q.A q.n q.c) rfl) hbyt ?_
            rintro v w5 hap
            obtain ⟨A8, n8, c8, rfl, hl8⟩ := hap.ex
            have hst8 := hap.st
            obtain rfl : n8 = k + 1 := by
              have h1 := hl8.1
              have h2 := HL5.out.1.1
              simp at h1 h2
              omega
            have hA5 : ∀ k, BlkOf A5 k → wc.heap.size ≤ k := by rintro k ⟨ad, he, rfl⟩; exact (HL5.out.1.blk ad he).1
            have hba : Below wc.heap.size wd (wd.alloc (.cells #[.slice q.A q.n q.c] 30)) := (Below.refl _ _).alloc hsw _
            have hb5 : Below wc.heap.size (wd.alloc (.cells #[.slice q.A q.n q.c] 30)) w5 := hst8.below (by simp; omega) hA5
            have hl65 := (((HL6.out.below hbd).alloc (.cells #[.slice q.A q.n q.c] 30)).tight.st hst8 (fun k hk hk5 => ((((HL6.out.below hbd).alloc (.cells #[.slice q.A q.n q.c] 30)).tyd k hk).ne (by decide)) (((HL5.out.1.below hbd).alloc (.cells #[.slice q.A q.n q.c] 30)).tyd k hk5)))
            have HB5 := Lib.hid ((HBW.out.trans hba).trans hb5)
            have HL8a := Lib.hid (hl8.mono (F' := (wc.heap.size ≤ ·)) (fun k hk => by
              rcases hk with hk | hk
              · exact hA5 k hk
              · simp at hk; omega))
            have HL65 := Lib.hid hl65
            have hs5 := hb5.size
            clear hap hst8 hl8 hl65
            refine hK.out _ _ hb5 ?_
            clear hK K
            try simp only [Act.put, List.setIfInBounds_toArray, List.set_cons_zero, List.set_cons_succ]
            refine wpAnyE_one (i := 14) (by kernel_rfl) (by simp only [List.getElem?_toArray, List.getElem?_cons_succ, List.getElem?_cons_zero]; rfl) (fun K hK => ?_)
            go_simp
            refine (rhas_any _ _ _ (by decide) (by decide) HFL.out).mono ?_
            rintro e w6 ⟨rfl, rfl⟩
            rw [HHB.out]
            refine hK.out _ _ (Below.refl _ _) ?_
            clear hK K
            try simp only [Act.put, List.setIfInBounds_toArray, List.set_cons_zero, List.set_cons_succ]
            refine wpAnyE_one (i := 15) (by kernel_rfl) (by simp only [List.getElem?_toArray, List.getElem?_cons_succ, List.getElem?_cons_zero]; rfl) (fun K hK => ?_)
            go_simp
            refine hK.out _ _ ((Below.refl _ _).alloc (Nat.le_trans hsw (Nat.le_trans (by simp) hs5)) _) ?_
            clear hK K
            try simp only [Act.put, List.setIfInBounds_toArray, List.set_cons_zero, List.set_cons_succ]
            refine wpAnyE_one (i := 16) (by kernel_rfl) (by simp only [List.getElem?_toArray, List.getElem?_cons_succ, List.getElem?_cons_zero]; rfl) (fun K hK => ?_)
            refine opwp_append_lst eltO rfl (.tmp 178) (.tmp 185) rfl rfl ((HL65.out.alloc (.cells #[.bool x.2] 4)).tight) rfl (RdV.one w5 4 (.bool x.2) rfl) hbyo ?_
            rintro v w9 hap
            obtain ⟨A9, n9, c9, rfl, hl9⟩ := hap.ex
            have hst9 := hap.st
            obtain rfl : n9 = k + 1 := by
              have h1 := hl9.1
              have h2 := HL6.out.1
              simp at h1 h2
              omega
            have hA6 : ∀ k, BlkOf A6 k → wc.heap.size ≤ k := by rintro k ⟨ad, he, rfl⟩; exact (HL6.out.blk ad he).1
            have hw5 : wc.heap.size ≤ w5.heap.size := HB5.out.size
            have hb9 : Below wc.heap.size (w5.alloc (.cells #[.bool x.2] 4)) w9 := hst9.below (by simp; omega) hA6
            have HL8 := Lib.hid (show Lst 30 (wc.heap.size ≤ ·) w9 A8 (k + 1) c8 ((ps ++ [(⟨q.A, q.n, q.c, q.xs⟩ : Bs)]).map Bs.val) by
              rw [List.map_append]
              refine ((((HL8a.out.alloc (.cells #[.bool x.2] 4)).tight.st hst9 (fun k hk hk6 => (((HL8a.out.alloc (.cells #[.bool x.2] 4)).tyd k hk).ne (by decide)) ((HL65.out.alloc (.cells #[.bool x.2] 4)).tyd k hk6)))).mono ?_)
              rintro k ⟨ad, he, rfl⟩
              exact (HL8a.out.blk ad he).1)
            have HL9 := Lib.hid (hl9.mono (F' := (wc.heap.size ≤ ·)) (fun k hk => by
              rcases hk with hk | hk
              · exact hA6 k hk
              · simp at hk; omega))
            have HPR : Hid (∀ b ∈ ps ++ [(⟨q.A, q.n, q.c, q.xs⟩ : Bs)], Rd .u8 wc b.A b.n b.c b.xs) := Lib.hid (fun b hb => by
              rcases List.mem_append.1 hb with h | h
              · exact HL5.out.2.2 b h
              · obtain rfl : b = _ := by simpa using h
                exact HRQ.out)
            have HB9 := Lib.hid (HB5.out.trans (((Below.refl _ _).alloc hw5 _).trans hb9))
            clear hap hst9 hl9
            refine hK.out _ _ hb9 ?_
            clear hK K
            try simp only [Act.put, List.setIfInBounds_toArray, List.set_cons_zero, List.set_cons_succ]
            (refine takeE (belowTr wc.heap.size) 17 (by simp only [List.getElem?_toArray, List.getElem?_cons_succ, List.getElem?_cons_zero]; rfl) (by kernel_rfl) (by kernel_rfl) (by kernel_rfl) (by exact fun _ _ _ h => h) (by first | (refine Or.inl ⟨by rfl, ?_⟩; intro W hW; go_simp; try with_reducible rfl) | exact Or.inr ⟨by rfl, rfl⟩) ?_; try simp only [Act.put, List.setIfInBounds_toArray, List.set_cons_zero, List.set_cons_succ])
            (refine takeE (belowTr wc.heap.size) 18 (by simp only [List.getElem?_toArray, List.getElem?_cons_succ, List.getElem?_cons_zero]; rfl) (by kernel_rfl) (by kernel_rfl) (by kernel_rfl) (by exact fun _ _ _ h => h) (by first | (refine Or.inl ⟨by rfl, ?_⟩; intro W hW; go_simp; try with_reducible rfl) | exact Or.inr ⟨by rfl, rfl⟩) ?_; try simp only [Act.put, List.setIfInBounds_toArray, List.set_cons_zero, List.set_cons_succ])
            refine wpAnyE_done (by kernel_rfl) ?_ _
            clear q1 q2
            go_wp2
            go_roundw
            case rel => exact ⟨k + 1, A8, A9, c8, c9, ps ++ [⟨q.A, q.n, q.c, q.xs⟩], by go_num, by omega, by omega, rfl, rfl, HL8.out, by rw [HX.out.1, List.map_append, HL5.out.2.1]; rfl, HPR.out, by rw [HX.out.2]; exact HL9.out, HB9.out⟩
            case measure => simp [intOf]; omega
          · have HM2 : Hid (k = min nx l.length) := Lib.hid (by omega)
            have HS5 : Hid (SlB wr A5 k c5 ((l.take k).map (·.1))) := Lib.hid ⟨ps, hl5.rdv, hps, fun b hb' => (hpr b hb').below hb⟩
            have HS6 : Hid (RdV wr A6 k c6 (((l.take k).map (·.2)).map .bool)) := Lib.hid hl6.rdv
            have HB := Lib.hid hb
            clear hl5 hps hpr hl6 hb
            rcases (by omega : ¬ (k : Int) < nx ∨ ((k : Int) < nx ∧ k = l.length)) with hx | ⟨hx, hx2⟩
            · clear hlt
              go_wp2_with fail
              go_meet
              case rel => exact ⟨k, A5, A6, c5, c6, rfl, rfl, HM2.out, HS5.out, HS6.out, HB.out⟩
            · have hx3 : (k : Int) = l.length := by omega
              clear hlt hx2
              go_wp2_with fail
              go_meet
              case rel => exact ⟨k, A5, A6, c5, c6, rfl, rfl, HM2.out, HS5.out, HS6.out, HB.out⟩
      case rest =>
        obtain ⟨M, A5, A6, c5, c6, rfl, rfl, hM, h5, h6, hb⟩ := hcut
        have hW : (allR ((l.take M).map (·.2)) 0 ⟨[], 0, 0⟩ [] ((l.take M).map (·.1))).1 = told := by
          rw [hM]
          exact HM.out.wantV HPS.out.1 HPS.out.2.1
        have HALL := Lib.hid (rall_any h5 h6 (by omega))
        generalize allR ((l.take M).map (·.2)) 0 ⟨[], 0, 0⟩ [] ((l.take M).map (·.1)) = R at hW HALL
        have HW := Lib.hid hW
        have HJ2 := Lib.hid (HJ.out.next hb)
        have hdn := HM.out.doneq
        rw [rwL_len, ← HN3.out.1] at hdn
        clear hW h5 h6 hb hM
        by_cases hx : nx = n2
        · have HDN : Hid (∀ W, RcA F W r e m → Calls Try.prog 21 #[.pointer (some ⟨r, 0, none⟩)] W fun en w' => en = .returned (.bool true) ∧ Below W.heap.size W w') := Lib.hid (fun W h => by
            have h1 := v_done h
            rw [hdn, decide_eq_true (by rw [hx])] at h1
            exact h1)
          have hxI : (nx : Int) = n2 := by omega
          have hxB : ((nx : Int) == (n2 : Int)) = true := by simpa using hxI
          clear hdn hx
          go_wp2_with (first
            | (go_at_call 28; refine HALL.out.mono ?_; rintro en w6 ⟨A7, n7, c7, rfl, hs7, hb7⟩
               rw [HW.out] at hs7
               have HJ7 := Lib.hid (HJ2.out.next hb7)
               have HS7 := Lib.hid hs7
               clear hb7 hs7)
            | (go_at_call 13; refine (same_rows HJ7.out.ot.sl HS7.out).mono ?_; rintro en w8 ⟨rfl, hb8⟩
               have HJ8 := Lib.hid (HJ7.out.next hb8)
               clear hb8)
            | (go_at_call 21; refine (HDN.out _ HJ8.out.rc).mono ?_; rintro en w9 ⟨rfl, hb9⟩
               have HJ9 := Lib.hid (HJ8.out.next hb9)
               clear hb9))
          go_ret
          exact ⟨rfl, HWN.out.trans (HJ9.out.bel.mono HWN.out.size)⟩
        · have HDN : Hid (∀ W, RcA F W r e m → Calls Try.prog 21 #[.pointer (some ⟨r, 0, none⟩)] W fun en w' => en = .returned (.bool false) ∧ Below W.heap.size W w') := Lib.hid (fun W h => by
            have h1 := v_done h
            rw [hdn, decide_eq_false (by omega)] at h1
            exact h1)
          have hxB : ((nx : Int) == (n2 : Int)) = false := by simp; omega
          clear hdn hx
          go_wp2_with (first
            | (go_at_call 28; refine HALL.out.mono ?_; rintro en w6 ⟨A7, n7, c7, rfl, hs7, hb7⟩
               rw [HW.out] at hs7
               have HJ7 := Lib.hid (HJ2.out.next hb7)
               have HS7 := Lib.hid hs7
               clear hb7 hs7)
            | (go_at_call 13; refine (same_rows HJ7.out.ot.sl HS7.out).mono ?_; rintro en w8 ⟨rfl, hb8⟩
               have HJ8 := Lib.hid (HJ7.out.next hb8)
               clear hb8)
            | (go_at_call 21; refine (HDN.out _ HJ8.out.rc).mono ?_; rintro en w9 ⟨rfl, hb9⟩
               have HJ9 := Lib.hid (HJ8.out.next hb9)
               clear hb9))
          go_ret
          exact ⟨rfl, HWN.out.trans (HJ9.out.bel.mono HWN.out.size)⟩
end Go.Proofs.Ytmmjhijgedboiaa
namespace Go.Proofs.Ytmmjhijgedboiaa
open Go.RowKit Go.Shelf
theorem lawOrdersI (x : Sl (Sl Int)) (mtu win : Int) (s : Sl PickT.den) (w : World) (h : (Ty.sl (.sl (.int .u8))).reads w x) (hm : (Lit.int .u8 mtu).wf = true) (hw : (Lit.int .u8 win).wf = true) (hp : (Ty.sl PickT).reads w s) :
    Calls Try.prog 4 #[.slice x.A x.n x.c, .int .u8 mtu, .int .u8 win, .slice s.A s.n s.c] w fun e w' => e = .returned (.bool true) ∧ Below w.heap.size w w' := by
  obtain ⟨m, rfl, hm2⟩ := u8_nat hm
  obtain ⟨v, rfl, hv2⟩ := u8_nat hw
  have h1 := rdv_of_reads (w := w) (.sl (.int .u8)) (fun s : Sl Int => .slice s.A s.n s.c) rfl (fun _ => rfl) (fun _ => rfl) x h
  have h2 : ∀ b ∈ x.l.map (fun s => (⟨s.A, s.n, s.c, s.l⟩ : Bs)), Rd .u8 w b.A b.n b.c b.xs := by
    intro b hb'
    obtain ⟨s, hs, rfl⟩ := List.mem_map.1 hb'
    exact rd_of_reads s (h.2.2.2.2.2 s hs)
  have h3 : RdV w x.A x.n x.c ((x.l.map (fun s => (⟨s.A, s.n, s.c, s.l⟩ : Bs))).map Bs.val) := by
    rw [List.map_map]; exact h1
  exact lawOrders x.A x.n x.c _ m v s w h3 h2 hm2 hv2 hp
end Go.Proofs.Ytmmjhijgedboiaa
