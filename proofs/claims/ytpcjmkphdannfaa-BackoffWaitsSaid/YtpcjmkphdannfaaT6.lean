/- The iterators: the rising waits; all waits. -/
import Derived.Test.YtpcjmkphdannfaaT4
import Derived.Test.YtpcjmkphdannfaaItrE
import Derived.Test.YtpcjmkphdannfaaTab
set_option linter.unusedSimpArgs false
set_option linter.unusedVariables false
namespace Go.Proofs.Ytpcjmkphdannfaa
open Go.RowKit Go.Shelf
/-- Whatever is cells stays. -/
def KpC (w w' : World) : Prop := w.heap.size ≤ w'.heap.size ∧ ∀ (k : Nat) (o : Obj), w.heap[k]? = some o → o.isCells = true → w'.heap[k]? = some o
theorem KpC.below {w w' : World} (h : Below w.heap.size w w') : KpC w w' := ⟨h.size, fun k o ho _ => (h.block k (Array.getElem?_eq_some_iff.1 ho).1).trans ho⟩
theorem KpC.grown {w w' : World} {row : Option Nat} (h : w.grownBy w' row) (hr : ∀ r, row = some r → ∃ o : Obj, w.heap[r]? = some o ∧ o.isCells = false) : KpC w w' :=
  ⟨h.size, fun k o ho hc => (h.block k (Array.getElem?_eq_some_iff.1 ho).1 (fun e => by
    obtain ⟨o', ho', hc'⟩ := hr k e.symm
    rw [ho] at ho'
    injection ho' with ho'
    subst ho'
    rw [hc] at hc'
    cases hc')).trans ho⟩
theorem KpC.bk {w w' : World} (h : KpC w w') {t : TypeId} {g : Nat} {vs : List Value} (hb : Bk w t g vs) : Bk w' t g vs := h.2 _ _ hb rfl
/-- Block k holds cells of type t. -/
def Tyd (t : TypeId) (w : World) (k : Nat) : Prop := ∃ cur fz, w.heap[k]? = some (.cells cur t fz)
theorem Tyd.ne {t u : TypeId} {w : World} {k : Nat} (h : Tyd t w k) (hne : t ≠ u) : ¬ Tyd u w k := by
  rintro ⟨cur, fz, h2⟩
  obtain ⟨cur', fz', h1⟩ := h
  rw [h1] at h2
  injection h2 with h2
  injection h2 with _ h3
  exact hne h3
theorem Bk.tyd {t : TypeId} {w : World} {k : Nat} {vs : List Value} (h : Bk w t k vs) : Tyd t w k := ⟨_, _, h⟩
theorem LstR.tyd {sz : Nat} {t : TypeId} {F : Nat → Prop} {w : World} {A : Option Addr} {n c : Nat} {cs : List Value} (h : LstR sz t F w A n c cs) : ∀ k, BlkOf A k → Tyd t w k := by
  rintro k ⟨ad, he, rfl⟩
  rcases h.2.2.2.2 with ⟨rfl, _⟩ | ⟨g, o, cur, rfl, _, hh, _⟩
  · cases he
  · injection he with he
    subst he
    exact ⟨cur, _, hh⟩
theorem Lst.tyd {t : TypeId} {F : Nat → Prop} {w : World} {A : Option Addr} {n c : Nat} {cs : List Value} (h : Lst t F w A n c cs) : ∀ k, BlkOf A k → Tyd t w k := by
  rintro k ⟨ad, he, rfl⟩
  rcases h.2.2.2.2 with ⟨rfl, _⟩ | ⟨g, o, cur, rfl, _, hh, _⟩
  · cases he
  · injection he with he
    subst he
    exact ⟨cur, _, hh⟩

/-- What a round keeps: what lay below n0; what is no cells, from N on; all cells but those of numbers and of lists of numbers. -/
def KpT (n0 N : Nat) (W W' : World) : Prop := W.heap.size ≤ W'.heap.size ∧ ∀ (k : Nat) (o : Obj), W.heap[k]? = some o → (k < n0 ∨ (N ≤ k ∧ o.isCells = false) ∨ ∃ cur t fz, o = .cells cur t fz ∧ t ≠ 3 ∧ t ≠ 42) → W'.heap[k]? = some o
theorem KpT.refl (n0 N : Nat) (W : World) : KpT n0 N W W := ⟨Nat.le_refl _, fun _ _ h _ => h⟩
theorem KpT.trans {n0 N : Nat} {A B C : World} (h : KpT n0 N A B) (k : KpT n0 N B C) : KpT n0 N A C := ⟨Nat.le_trans h.1 k.1, fun i o hi ho => k.2 i o (h.2 i o hi ho) ho⟩
theorem KpT.up {n0 N N' : Nat} {A B : World} (h : KpT n0 N A B) (hN : N ≤ N') : KpT n0 N' A B := ⟨h.1, fun i o hi ho => h.2 i o hi (by
  rcases ho with h | ⟨h, h'⟩ | h
  · exact .inl h
  · exact .inr (.inl ⟨by omega, h'⟩)
  · exact .inr (.inr h))⟩
theorem KpT.below {n0 N : Nat} {A B : World} (h : Below A.heap.size A B) : KpT n0 N A B := ⟨h.size, fun k o hk _ => (h.block k (Array.getElem?_eq_some_iff.1 hk).1).trans hk⟩
theorem KpT.put {n0 N l : Nat} (W : World) (o o' : Obj) (hl : l < N) (ho : W.heap[l]? = some o) (h0 : n0 ≤ l) (hc : o.isCells = false) : KpT n0 N W (W.putObj l o') := by
  refine ⟨by simp [World.putObj], fun k x hk hx => ?_⟩
  rw [World.putObj_heap_other ?_]
  · exact hk
  · rintro rfl
    rw [ho] at hk
    injection hk with hk
    subst hk
    rcases hx with h | ⟨h, _⟩ | ⟨cur, t, fz, rfl, _⟩
    · omega
    · omega
    · cases hc
theorem KpT.bk {n0 N g : Nat} {A B : World} {t : TypeId} {vs : List Value} (h : KpT n0 N A B) (hb : Bk A t g vs) (h1 : t ≠ 3) (h2 : t ≠ 42) : Bk B t g vs := h.2 _ _ hb (.inr (.inr ⟨_, _, _, rfl, h1, h2⟩))
theorem KpT.from {n0 N B : Nat} {X Y : World} (h : KpT n0 N X Y) (hB : N ≤ B) : KeepsFrom B X Y := ⟨h.1, fun k o hk h0 hc => h.2 k o h0 (.inr (.inl ⟨by omega, hc⟩))⟩
theorem KpT.grown {n0 N B : Nat} {W A A' : World} {row : Option Nat} (h : KpT n0 N W A) (hw : A.grownBy A' row) (hr : ∀ r, row = some r → B ≤ r ∧ ∃ o : Obj, A.heap[r]? = some o ∧ o.isCells = false) (hB : W.heap.size ≤ B) : KpT n0 N W A' :=
  ⟨Nat.le_trans h.1 hw.size, fun k o ho hx => by
    have h1 := h.2 k o ho hx
    have hk := (Array.getElem?_eq_some_iff.1 ho).1
    exact (hw.block k (Array.getElem?_eq_some_iff.1 h1).1 (fun e => by have := (hr _ e.symm).1; omega)).trans h1⟩

theorem grown_of {w w' : World} (h : Below w.heap.size w w') : w.grownBy w' none := ⟨h.os, h.tape, h.output, h.size, fun k hk _ => h.block k hk⟩
/-- The waits, one after the other. -/
def wt (b c : Int) : Nat → Int
  | 0 => b
  | n + 1 => nxt c (wt b c n)
theorem wt_in {b c : Int} (h0 : 1 ≤ b) (h1 : b ≤ c) (n : Nat) : 1 ≤ wt b c n ∧ wt b c n ≤ c := by
  induction n with
  | zero => exact ⟨h0, h1⟩
  | succ n ih =>
    have := nxt_ge ih.1 ih.2
    exact ⟨by show 1 ≤ nxt c (wt b c n); omega, this.2⟩
theorem wt_up {b c : Int} (h0 : 1 ≤ b) (h1 : b ≤ c) {n : Nat} (h : wt b c n < c) : wt b c n < wt b c (n + 1) := by
  have := wt_in h0 h1 n
  show wt b c n < nxt c (wt b c n)
  unfold nxt; split <;> omega
theorem wt_cap {b c : Int} (h0 : 1 ≤ b) (h1 : b ≤ c) {n : Nat} (h : ¬ wt b c n < c) (j : Nat) (hj : n ≤ j) : wt b c j = c := by
  induction j with
  | zero =>
    obtain rfl : n = 0 := by omega
    have := wt_in h0 h1 0
    omega
  | succ j ih =>
    by_cases hn : n = j + 1
    · subst hn
      have := wt_in h0 h1 (j + 1)
      omega
    · show nxt c (wt b c j) = c
      rw [ih (by omega)]
      exact nxt_cap (by omega)
theorem m_rising (b c : Int) (w : World) : Calls Try.prog 27 #[.agg #[.int .i64 b, .int .i64 c]] w fun e w' => e = .returned (.func (.func 28) #[] #[.pointer (some ⟨w.heap.size, 0, none⟩)]) ∧ Bk w' 46 w.heap.size [.int .i64 b, .int .i64 c] ∧ Below w.heap.size w w' := by
  have HQ := Lib.hid (And.intro (Bk.new w 46 [.int .i64 b, .int .i64 c]) ((Below.refl _ w).alloc (Nat.le_refl _) (.cells #[.int .i64 b, .int .i64 c] 46)))
  go_enter Try.func27, Try.ntmps27
  go_wp2
  go_ret
  exact ⟨rfl, HQ.out.1, HQ.out.2⟩
theorem b_waits (b c : Int) (w : World) : Calls Try.prog 25 #[.int .i64 b, .int .i64 c] w fun e w' => e = .returned (.func (.func 26) #[] #[.pointer (some ⟨w.heap.size, 0, none⟩)]) ∧ Bk w' 46 w.heap.size [.int .i64 b, .int .i64 c] ∧ Below w.heap.size w w' := by
  have HQ := Lib.hid (And.intro (Bk.new w 46 [.int .i64 b, .int .i64 c]) ((Below.refl _ w).alloc (Nat.le_refl _) (.cells #[.int .i64 b, .int .i64 c] 46)))
  go_enter Try.func25, Try.ntmps25
  go_wp2
  go_ret
  exact ⟨rfl, HQ.out.1, HQ.out.2⟩
attribute [local go_sem] Oper.semAt_some
set_option maxRecDepth 100000 in
set_option maxHeartbeats 2000000 in
/-- The waits that are shorter than the longest. -/
theorem rising_gives (fu : Nat) (hfu : 3 ≤ fu) (n0 g1 : Nat) (b c : Int) (h1 : 1 ≤ b) (h2 : b ≤ c) (h3 : c ≤ 1048576) (w : World) (r1 : Bk w 46 g1 [.int .i64 b, .int .i64 c]) :
    GivesM Fence.wide fu Try.prog 28 #[.pointer (some ⟨g1, 0, none⟩)] (fun x : Int => #[.int .i64 x]) (fun pre x _ => x = wt b c pre.length) (KpT n0) (fun ys => ∀ j, ys.length ≤ j → wt b c j = c) (fun _ => True) w := fun l J Jx W hW hJ hJx hY h0 => by
  have hK0 := KpT.below (n0 := n0) (N := W.heap.size) hW
  have hb1 := hK0.bk r1 (by decide) (by decide)
  have c0 := hb1.cell 0 rfl
  have HB1 := Lib.hid hb1
  have HJ := Lib.hid hJ
  have HY := Lib.hid hY
  have HWT := Lib.hid (wt_in h1 h2)
  have HUP := Lib.hid (fun n => wt_up h1 h2 (n := n))
  have HCAP := Lib.hid (fun n => wt_cap h1 h2 (n := n))
  clear hK0 r1 hW hJ hJx hY hb1
  refine callsIn_of_wp Try.func28 rfl trivial ?_ rfl
  simp only [Try.ntmps28, List.size_toArray, List.length_cons, List.length_nil, Nat.reduceAdd, Nat.reduceSub, Array.replicate_succ, Array.replicate_zero, List.push_toArray, List.append_toArray, List.nil_append, List.cons_append]
  gi_wp2
  gi_loopw [3] (fun x' wr => ∃ pre : List Int, x' = .int .i64 (wt b c pre.length) ∧ J pre wr ∧ KpT n0 W.heap.size W wr) (fun x' _ => (c + 1 - intOf x').toNat)
  case atStart => exact ⟨[], rfl, h0, KpT.refl _ _ _⟩
  case round =>
    obtain ⟨pre, rfl, hj, hk⟩ := hrel
    have hb1 := hk.bk HB1.out (by decide) (by decide)
    have c1 := hb1.cell 1 rfl
    obtain ⟨hx1, hx2⟩ := HWT.out pre.length
    have HKK := Lib.hid hk
    have HUPn : Hid (wt b c pre.length < c → wt b c pre.length < nxt c (wt b c pre.length)) := Lib.hid (fun h => HUP.out pre.length h)
    have HCAPn := Lib.hid (HCAP.out pre.length)
    have HNX : Hid (wt b c (pre ++ [wt b c pre.length]).length = nxt c (wt b c pre.length)) := Lib.hid (by rw [List.length_append]; rfl)
    have hy0 := HY.out pre (wt b c pre.length) wr hj rfl
    have HJk := Lib.hid hj
    clear hk hj c0 h0
    generalize wt b c pre.length = x at *
    by_cases hlt : x < c
    · obtain ⟨fn, tmps, assign, body, hy, hR⟩ := hy0
      gi_wp2
      refine ⟨fun _ => by omega, hR.mono ?_⟩
      rintro e W3 (⟨rfl, hJ3, hk3⟩ | ⟨rfl, hJx3, hk3⟩)
      · have HJ3 := Lib.hid hJ3
        have HK3 := Lib.hid (HKK.out.trans hk3)
        have hb3 := HK3.out.bk HB1.out (by decide) (by decide)
        clear hy hR hJ3 hk3 hb1 c1
        gi_wp2_with (with_reducible refine at_loadI 46 (.tmp 1) (by rfl) ?_
                     refine wpListIn_load_bk rowM rfl (.tmp 1) rfl g1 0 rfl hb3 [.int .i64 b, .int .i64 c] rfl rfl ?_)
        refine ⟨trivial, fun _ => by omega, (callsIn_wide.2 (m_next b hx1 (by omega) (by omega) h3 W3)).mono ?_⟩
        rintro e W4 ⟨rfl, hb4⟩
        have HJ4 := Lib.hid (HJ.out _ W3 W4 none HJ3.out (grown_of hb4) (by simp))
        have HK4 := Lib.hid (HK3.out.trans (KpT.below hb4))
        have HLT := Lib.hid (HUPn.out hlt)
        clear hb4 hb3 HJ3 HK3
        gi_wp2
        go_roundw
        case rel => exact ⟨pre ++ [x], by rw [HNX.out], HJ4.out, HK4.out⟩
        case measure =>
          have h4 := HLT.out
          simp [intOf]
          omega
      · have HF2 := Lib.hid hJx3
        clear hy hR hJx3 hk3 hb1 c1
        gi_wp2
        go_end0
        exact ⟨⟨_, rfl⟩, .inr ⟨_, trivial, HF2.out⟩⟩
    · have HC := Lib.hid (HCAPn.out (by omega))
      clear hy0 hb1
      gi_wp2
      refine ⟨by simp, ?_⟩
      gi_wp2
      go_end0
      exact ⟨⟨_, rfl⟩, .inl ⟨pre, HC.out, HJk.out⟩⟩
end Go.Proofs.Ytpcjmkphdannfaa
