/- More words of memory: what a call owns, cuts of slices, what stays behind a round, appends within a round. -/
import Derived.Test.YtdepbdmnkkkjlaaDoorRIn
import Derived.RangeFuncNested
import Derived.RangeFuncBound
import Derived.RangeFuncCalls
import Derived.RangeFuncLeaves
import Derived.Shelf.Abstract
import Derived.Shelf.RegionOpen
import Derived.OwnWalkIn
import Derived.TacticsInMore
import Derived.LoopNIn
import Derived.LoopIn
import Derived.Lib.SlBytesConst
import Derived.Lib.SliceRun
set_option linter.unusedSimpArgs false
set_option linter.unusedVariables false
set_option linter.unnecessarySimpa false
namespace Go.Proofs.YtdepbdmnkkkjlaaDoor
open Go.RowKit Go.Shelf
section
variable {k : IntKind} {e : TypeId} {base : Nat} {w : World} {v : Value} {xs : List Int} {g cap n : Nat}
theorem Ow.form (h : Ow k e base w v xs) (hn : 0 < xs.length) : ∃ g cap, v = .slice (some ⟨g, 0, none⟩) xs.length cap ∧ base ≤ g ∧ g < w.heap.size :=
  World.ownsRow.form (h : w.ownsRow base e 1 v xs.length (xs.map (.int k))) hn
theorem Ow.cellAt (h : Ow k e base w (.slice (some ⟨g, 0, none⟩) n cap) xs) (hn : xs.length = n) {j : Nat} (hj : j < xs.length) : w.cell? ⟨g, j, none⟩ = some (.int k xs[j]) := by
  subst hn
  rw [World.ownsRow.cellAt h j (by omega)]
  simp [hj]
theorem Ow.free (h : Ow k e base w (.slice (some ⟨g, 0, none⟩) n cap) xs) (hn : xs.length = n) (j : Nat) : w.frozen? ⟨g, j, none⟩ = false := by
  subst hn
  exact World.ownsRow.frozenAt h j
theorem Ow.stored (h : Ow k e base w (.slice (some ⟨g, 0, none⟩) n cap) xs) (hn : xs.length = n) (j : Nat) (y : Int) : Ow k e base (w.setCell ⟨g, j, none⟩ (.int k y)) (.slice (some ⟨g, 0, none⟩) n cap) (xs.set j y) := by
  subst hn
  have := (World.ownsRow.stored h j (.int k y)).1
  unfold Ow
  rw [List.length_set, List.map_set]
  exact this
end

theorem own_slice {k : IntKind} {e : TypeId} {base : Nat} {w : World} {v : Value} {xs : List Int} (h : Ow k e base w v xs) : ∃ A c, v = .slice A xs.length c := by
  rcases h.2 with ⟨rfl, h0⟩ | ⟨g, cap, cur, rfl, _⟩
  · exact ⟨none, 0, by rw [h0]⟩
  · exact ⟨_, cap, rfl⟩
theorem own_grown {k : IntKind} {e : TypeId} {base : Nat} {w w' : World} {v : Value} {xs : List Int} (h : Ow k e base w v xs) {row : Option Nat} (hw : w.grownBy w' row) (hr : ∀ r, row = some r → ∃ o : Obj, w.heap[r]? = some o ∧ o.isCells = false) : Ow k e base w' v xs := by
  refine ⟨h.1, ?_⟩
  rcases h.2 with hn | ⟨g, cap, cur, hv, hg, hh, r⟩
  · exact .inl hn
  · refine .inr ⟨g, cap, cur, hv, hg, ?_, r⟩
    rw [hw.block g (Array.getElem?_eq_some_iff.1 hh).1 (fun e => ?_)]
    · exact hh
    · obtain ⟨o, ho, hc⟩ := hr g e.symm
      rw [hh] at ho
      injection ho with ho
      subst ho
      simp [Obj.isCells] at hc

theorem own_far {k : IntKind} {e : TypeId} {base : Nat} {w : World} {v u : Value} {xs : List Int} (h : Ow k e base w v xs) {g : Nat} (hg : g < base) : Ow k e base (w.setCell ⟨g, 0, none⟩ u) v xs := by
  refine ⟨h.1, ?_⟩
  rcases h.2 with hn | ⟨b, cap, cur, hv, hb, hh, r⟩
  · exact .inl hn
  · exact .inr ⟨b, cap, cur, hv, hb, (Below.heap_setCell _ _ _ _ (by simp; omega)).trans hh, r⟩
theorem own_cells {k : IntKind} {e : TypeId} {base : Nat} {w : World} {v : Value} {xs : List Int} (h : Ow k e base w v xs) {j : Nat} {o : Obj} (hj : v.ownBlock = some j) (ho : w.heap[j]? = some o) : o.isCells = true := by
  rcases h.2 with ⟨rfl, _⟩ | ⟨b, cap, cur, rfl, hb, hh, r⟩
  · simp [Value.ownBlock] at hj
  · simp [Value.ownBlock] at hj
    subst hj
    rw [hh] at ho
    injection ho with ho
    subst ho
    rfl
theorem Ow.nil (k : IntKind) (e : TypeId) (base : Nat) (w : World) : Ow k e base w (.slice none 0 0) [] := ⟨rfl, .inl ⟨rfl, rfl⟩⟩
theorem Ow.empty (k : IntKind) (e : TypeId) (w : World) : Ow k e w.heap.size (w.alloc (.cells #[] e)) (.slice (some ⟨w.heap.size, 0, none⟩) 0 0) [] :=
  ⟨rfl, .inr ⟨w.heap.size, 0, _, rfl, Nat.le_refl _, heap_alloc_new w _, Nat.le_refl _, by decide, by decide, rfl⟩⟩
theorem grown_keep {w w' : World} {n₀ : Nat} {k : IntKind} {e : TypeId} {v : Value} {pre : List Int} {t : TypeId} {g : Nat} {vs : List Value} (hg : w.grownBy w' v.ownBlock) (hown : Ow k e n₀ w v pre) (h : Bk w t g vs) (hlt : g < n₀) : Bk w' t g vs :=
  (hg.block g h.lt (fun e => by have := (World.ownsRow.lt hown g e.symm).1; omega)).trans h
theorem Rd.via {k : IntKind} {w w1 w2 : World} {A : Option Addr} {n c : Nat} {xs : List Int} (h : Rd k w1 A n c xs) (hA : 0 < n → ∀ ad, A = some ad → ad.block < w.heap.size) (h1 : Below w.heap.size w w1) (h2 : Below w.heap.size w w2) : Rd k w2 A n c xs := by
  obtain ⟨a1, a2, a3, a4, a5, a6⟩ := h
  refine ⟨a1, a2, a3, a4, a5, fun hn => ?_⟩
  obtain ⟨g, o, e, hg, hx⟩ := a6 hn
  have hl : g < w.heap.size := hA hn _ e
  exact ⟨g, o, e, by have := h2.size; omega, fun i hi => ((h2.cell (p := ⟨g, o + i, none⟩) hl).trans (h1.cell (p := ⟨g, o + i, none⟩) hl).symm).trans (hx i hi)⟩
theorem Rd.litF (w : World) (e : TypeId) (xs : List Int) (fz : Nat × Nat) (hx : ∀ x ∈ xs, (Lit.int .u8 x).wf = true) (hl : xs.length ≤ 1000) : Rd .u8 (w.alloc (.cells (xs.map (Value.int .u8)).toArray e fz)) (some ⟨w.heap.size, 0, none⟩) xs.length xs.length xs := by
  refine ⟨rfl, Nat.le_refl _, by simp only [maxLen]; omega, by simp, hx, fun _ => ⟨w.heap.size, 0, rfl, by simp, fun i hi => ?_⟩⟩
  have h := heap_alloc_new w (.cells (xs.map (Value.int .u8)).toArray e fz)
  unfold World.cell?
  rw [h]
  simp [hi]
theorem Ints.run_cut2 {P : Program} {t e : TypeId} {k : IntKind} {bytes : Nat} (S : Ints P t e k bytes) (A : Option Addr) (n c s m : Nat) (hs : s + m ≤ n) (hn : n ≤ c) (w : World) :
    (Instr.slice t (.slice A n c) (some (.int .i64 s)) (some (.int .i64 (s + m))) none).run P w = .ok (.slice (cutA A c s) m (c - s)) w := by
  obtain ⟨i, hi, hz, hsz, hby⟩ := info_parts S.hi
  have h1 := run_sliceBound (P := P) (w := w) .i64 (s + m) c .sliceAcap (by omega) (by omega)
  have h2 := run_sliceBound (P := P) (w := w) .i64 s (s + m) .sliceB (by omega) (by omega)
  have e1 : ((s : Int) + m).toNat = s + m := by omega
  simp [Instr.slice, run_underlying S.ht, Instr.sliceBounds, h1, h2, sizeOf, typeInfo, hi, hsz, cutA, e1]
theorem Ints.run_pre {P : Program} {t e : TypeId} {k : IntKind} {bytes : Nat} (S : Ints P t e k bytes) (A : Option Addr) (n c s m : Nat) (hs : s + m ≤ n) (hn : n ≤ c) (w : World) :
    (Instr.slice t (.slice A n c) none (some (.int .i64 (s + m))) none).run P w = .ok (.slice A (s + m) c) w := by
  obtain ⟨i, hi, hz, hsz, hby⟩ := info_parts S.hi
  have h1 := run_sliceBound (P := P) (w := w) .i64 (s + m) c .sliceAcap (by omega) (by omega)
  have h2 := run_sliceBound (P := P) (w := w) .i64 0 (s + m) .sliceB (by omega) (by omega)
  have e1 : ((s : Int) + m).toNat = s + m := by omega
  have e2 : Option.map (fun x => Addr.add x 0) A = A := by
    cases A with
    | none => rfl
    | some x => simp [Addr.add]
  simp [Instr.slice, run_underlying S.ht, Instr.sliceBounds, h1, h2, sizeOf, typeInfo, hi, hsz, e1, e2]
theorem cutA_ne {A : Option Addr} {c k g : Nat} (h : ∀ ad, A = some ad → ad.block < g) : ∀ ad, cutA A c k = some ad → ad.block ≠ g := by
  intro ad he
  have : ad.block < g := by
    unfold cutA at he
    split at he
    · exact h ad he
    · cases A with
      | none => simp at he
      | some x =>
        simp at he
        subst he
        have := h x rfl
        unfold Addr.add
        split <;> exact this
  omega

theorem keepsOthers_of {w w' : World} (h : Below w.heap.size w w') : KeepsOthers w w' := ⟨h.size, fun k o ho _ => (h.block k (Array.getElem?_eq_some_iff.1 ho).1).trans ho⟩
/-- The blocks of S stay. -/
def KpS (S : Nat → Prop) (W W' : World) : Prop := (∀ k, S k → W'.heap[k]? = W.heap[k]?)
theorem KpS.refl (S : Nat → Prop) (W : World) : KpS S W W := fun _ _ => rfl
theorem KpS.trans {S : Nat → Prop} {A B C : World} (h : KpS S A B) (k : KpS S B C) : KpS S A C := fun i hi => (k i hi).trans (h i hi)
theorem KpS.put {S : Nat → Prop} {w : World} (hS : ∀ k, S k → k < w.heap.size) (W : World) (l : Nat) (o o' : Obj) (hl : w.heap.size ≤ l) (ho : W.heap[l]? = some o) (_ : o.isCells = false) (_ : o.isWalk = false) : KpS S W (W.putObj l o') :=
  fun k hk => World.putObj_heap_other (by have := hS k hk; omega)
theorem KpS.cell {S : Nat → Prop} {W W' : World} (h : KpS S W W') {g o : Nat} (hg : S g) : W'.cell? ⟨g, o, none⟩ = W.cell? ⟨g, o, none⟩ := World.cell?_of_block (h g hg)
theorem Rd.kps {S : Nat → Prop} {k : IntKind} {w w' : World} {A : Option Addr} {n c : Nat} {xs : List Int} (h : Rd k w A n c xs) (hA : 0 < n → ∀ ad, A = some ad → S ad.block) (hk : KpS S w w') : Rd k w' A n c xs := by
  obtain ⟨a1, a2, a3, a4, a5, a6⟩ := h
  refine ⟨a1, a2, a3, a4, a5, fun hn => ?_⟩
  obtain ⟨g, o, e, hg, hx⟩ := a6 hn
  have hs : S g := hA hn _ e
  refine ⟨g, o, e, ?_, fun i hi => (hk.cell hs).trans (hx i hi)⟩
  have h1 := hk g hs
  rw [Array.getElem?_eq_getElem hg] at h1
  exact (Array.getElem?_eq_some_iff.1 h1).1

/-- A list of bytes. -/
def okB (l : List Int) : Bool := l.all fun x => decide (0 ≤ x ∧ x < 256)
theorem okB_of {l : List Int} (h : ∀ x ∈ l, (Lit.int .u8 x).wf = true) : okB l = true := by
  simp only [okB, List.all_eq_true, decide_eq_true_eq]
  exact fun x hx => u8_bounds (h x hx)
theorem wf_of_ok {l : List Int} (h : okB l = true) : ∀ x ∈ l, (Lit.int .u8 x).wf = true := by
  intro x hx
  simp only [okB, List.all_eq_true, decide_eq_true_eq] at h
  have := h x hx
  simp [Lit.wf, IntKind.min, IntKind.max, IntKind.signed, IntKind.bits]
  omega
theorem okB_app {l m : List Int} (h : okB l = true) (k : okB m = true) : okB (l ++ m) = true := by
  simp only [okB, List.all_append, Bool.and_eq_true] at *; exact ⟨h, k⟩
theorem okB_take {l : List Int} (h : okB l = true) (k : Nat) : okB (l.take k) = true := by
  simp only [okB, List.all_eq_true, decide_eq_true_eq] at h ⊢
  exact fun x hx => h x (List.mem_of_mem_take hx)
theorem okB_drop {l : List Int} (h : okB l = true) (k : Nat) : okB (l.drop k) = true := by
  simp only [okB, List.all_eq_true, decide_eq_true_eq] at h ⊢
  exact fun x hx => h x (List.mem_of_mem_drop hx)

theorem wpListIn_append_one {F : Fence} {n : Nat} {P : Program} {W : World} {ops : Array Oper} {rest : List Oper} {o : Oper} {a : Act} {Q : Exit → Act → World → Prop} {t e : TypeId} {k : IntKind} {bytes : Nat} (S : Ints P t e k bytes) (hgd : o.guard = none) (s x : Operand)
    (ho : o.op = .call { callee := .builtin .append, args := #[s, x], argTypes := #[t, t] }) {v : Value} {base : Nat} {pre : List Int} (hs : a.eval s = v) (hown : Ow k e base W v pre)
    {x0 : Int} {g : Nat} (hx : a.eval x = .slice (some ⟨g, 0, none⟩) 1 1) (hc : W.cell? ⟨g, 0, none⟩ = some (.int k x0)) (hlen : pre.length + 1 ≤ 1000000) (hby : bytes ≤ 8) (hb : base ≤ W.heap.size)
    (h : ∀ v' w', Ow k e base w' v' (pre ++ [x0]) → W.grownBy w' v.ownBlock → wpListIn F n P ops Q rest (a.put o.dst v') w') : wpListIn F n P ops Q (o :: rest) a W := by
  obtain ⟨i, hi, hz, hsz, hb1⟩ := info_parts S.hi
  have hm : (pre.length + 1) * bytes ≤ (pre.length + 1) * 8 := Nat.mul_le_mul_left _ hby
  refine wpListIn_append_own W hgd s x t ho base e i (.int k 0) 1 bytes S.ht hi hz hsz hb1 rfl (by decide) v pre.length (pre.map (.int k)) hs hown ⟨g, 0, none⟩ 1 1 [.int k x0] hx rfl ?_ (by simp [Value.oneCell']) (by simp only [maxLen]; omega) (by omega) hb ?_
  · intro j u hu
    cases j with
    | zero => simp at hu; subst hu; simpa [Addr.add] using hc
    | succ j => simp at hu
  · intro v' w' h1 h2 _
    refine h v' w' ?_ h2
    unfold Ow
    rw [List.length_append, List.map_append]
    exact h1
end Go.Proofs.YtdepbdmnkkkjlaaDoor
