/- Exchanges: the iterator draws between two rounds. -/
import Derived.Test.YtiefgicapcljiaaP3
import Derived.Test.YtiefgicapcljiaaItrW
set_option linter.unusedSimpArgs false
set_option linter.unusedVariables false
namespace Go.Proofs.Ytiefgicapcljiaa
open Go.RowKit Go.Shelf
attribute [local go_sem] Oper.semAt_some

theorem exchanges_any (P : Option Addr) (n : Int) (w : World) :
    Calls Try.prog 34 #[.pointer P, .int .i64 n] w fun e w' => e = .returned (.func (.func 36) #[] #[.pointer (some ⟨w.heap.size + 1, 0, none⟩), .pointer (some ⟨w.heap.size, 0, none⟩)]) ∧
      w' = (w.alloc (.cells #[.pointer P] 52)).alloc (.cells #[.int .i64 n] 3) := by
  go_enter Try.func34, Try.ntmps34
  go_wp2
  go_ret
  exact ⟨by simp, rfl⟩
/-- What the iterator reads between two rounds. -/
def exS (p Bn Bs k : Nat) : Prop := k = p ∨ k = Bn ∨ k = Bs
set_option maxRecDepth 100000 in
set_option maxHeartbeats 2000000 in
theorem exch_gives (fu : Nat) (hfu : 1 ≤ fu) (Bn Bs p n : Nat) (s i : Int) (w : World) (hs : Src w p s i) (h1 : w.cell? ⟨Bn, 0, none⟩ = some (.int .i64 n)) (h2 : w.cell? ⟨Bs, 0, none⟩ = some (.pointer (some ⟨p, 0, none⟩)))
    (hBn : Bn < w.heap.size) (hBs : Bs < w.heap.size) (hpn : p ≠ Bn) (hps : p ≠ Bs) (hn : n ≤ 1000000) (hi0 : 0 ≤ i) (hi1 : i ≤ 1000000) :
    GivesW Fence.wide fu Try.prog 36 #[.pointer (some ⟨Bn, 0, none⟩), .pointer (some ⟨Bs, 0, none⟩)] (fun k => #[.int .i64 ((n : Int) - 1 - k), .int .i64 (belV s (i + k) ((n : Int) - k))])
      (KpS (exS p Bn Bs)) (Wr p) (n - 1) (fun W => Src W p s (i + (n - 1 : Nat))) w := fun l J W hW hJ hY h0 => by
  have e1 := (hW.cell (p := ⟨Bn, 0, none⟩) hBn).trans h1
  have e2 := (hW.cell (p := ⟨Bs, 0, none⟩) hBs).trans h2
  have hs' : Src W p s i := hs.below hW
  obtain ⟨N, hN⟩ : ∃ N, N = n - 1 := ⟨_, rfl⟩
  rw [← hN] at hY ⊢
  clear h1 h2 hs
  refine callsIn_of_wp Try.func36 rfl trivial ?_ rfl
  simp only [Try.ntmps36, List.size_toArray, List.length_cons, List.length_nil, Nat.reduceAdd, Nat.reduceSub, Array.replicate_succ, Array.replicate_zero, List.push_toArray, List.append_toArray, List.nil_append, List.cons_append]
  gi_wp2
  gi_loopw [4] (fun i' wr => ∃ m : Nat, m ≤ N ∧ i' = .int .i64 ((n : Int) - 1 - m) ∧ J m wr ∧ Src wr p s (i + m) ∧ wr.cell? ⟨Bn, 0, none⟩ = some (.int .i64 n) ∧ wr.cell? ⟨Bs, 0, none⟩ = some (.pointer (some ⟨p, 0, none⟩)) ∧ Bs < wr.heap.size ∧ Bn < wr.heap.size) (fun i' _ => ((intOf i') + 1).toNat)
  case atStart => exact ⟨0, Nat.zero_le _, by simp, h0, by simpa using hs', e1, e2, by have := hW.size; omega, by have := hW.size; omega⟩
  case round =>
    obtain ⟨m, hm, rfl, hJm, hsm, f1, f2, hsz, hszn⟩ := hrel
    by_cases hlt : m < N
    · have hk : (0 : Int) < (n : Int) - 1 - m := by omega
      clear e1 e2
      gi_wp2
      rw [show (n : Int) - 1 - m + 1 = (n : Int) - m from by omega]
      refine ⟨trivial, (callsIn_wide.2 (below_any wr p s (i + m) ((n : Int) - m) hsm (by omega) (by omega) (by omega) (by omega))).mono ?_⟩
      rintro e w2 ⟨rfl, hs2, hw2⟩
      have hJ2 := hJ m wr w2 hJm hw2
      have g2 := (wr_cell hw2 (p := ⟨Bs, 0, none⟩) (Ne.symm hps) hsz).trans f2
      have hsz2 : Bs < w2.heap.size := by have := hw2.size; omega
      obtain ⟨fn, tmps, assign, body, hy, hR⟩ := hY m w2 hlt hJ2
      clear f2 hsm
      gi_wp2
      refine hR.mono ?_
      rintro e W3 ⟨rfl, hJ3, hk3⟩
      have hs3 : Src W3 p s (i + m + 1) := (hk3 p (.inl rfl)).trans hs2
      have g1' := (hk3.cell (g := Bn) (o := 0) (.inr (.inl rfl))).trans ((wr_cell hw2 (p := ⟨Bn, 0, none⟩) (Ne.symm hpn) hszn).trans f1)
      have g2' := (hk3.cell (g := Bs) (o := 0) (.inr (.inr rfl))).trans g2
      have hsz3 : Bs < W3.heap.size := World.block_lt_of_cell? _ _ g2'
      have hszn3 : Bn < W3.heap.size := World.block_lt_of_cell? _ _ g1'
      clear hy hR g2 hJ2
      gi_wp2
      go_roundw
      case rel => exact ⟨m + 1, by omega, by go_num, hJ3, by rw [show i + ((m + 1 : Nat) : Int) = i + m + 1 from by omega]; exact hs3, g1', g2', hsz3, hszn3⟩
      case measure => simp [intOf]; omega
    · obtain rfl : m = N := by omega
      have hk : (n : Int) - 1 - m ≤ 0 := by omega
      gi_wp2
      go_end0
      exact ⟨⟨_, rfl⟩, hJm, hsm⟩
/-- Elements k and j are exchanged. -/
def swapV (vs : List Value) (k j : Nat) : List Value := (vs.set k (vs.getD j undef)).set j (vs.getD k undef)
theorem swapV_len (vs : List Value) (k j : Nat) : (swapV vs k j).length = vs.length := by simp [swapV]
/-- The first exchanges of n elements, by what a seed draws from the i-th number on. -/
def stepV (s i : Int) (n : Nat) (vs : List Value) : Nat → List Value
  | 0 => vs
  | m + 1 => swapV (stepV s i n vs m) (n - 1 - m) (belV s (i + m) ((n : Int) - m)).toNat
def shufV (s i : Int) (vs : List Value) : List Value := stepV s i vs.length vs (vs.length - 1)
theorem stepV_len (s i : Int) (n : Nat) (vs : List Value) (m : Nat) : (stepV s i n vs m).length = vs.length := by
  induction m with
  | zero => rfl
  | succ m ih => rw [stepV, swapV_len, ih]
theorem shufV_len (s i : Int) (vs : List Value) : (shufV s i vs).length = vs.length := stepV_len _ _ _ _ _
theorem swapV_perm (vs : List Value) (k j : Nat) (hk : k < vs.length) (hj : j < vs.length) : (swapV vs k j).Perm vs := by
  unfold swapV
  rw [List.getD_eq_getElem?_getD, List.getD_eq_getElem?_getD, List.getElem?_eq_getElem hk, List.getElem?_eq_getElem hj]
  exact List.set_set_perm hk hj
theorem stepV_perm (s i : Int) (vs : List Value) (m : Nat) (hm : m < vs.length) : (stepV s i vs.length vs m).Perm vs := by
  induction m with
  | zero => exact List.Perm.refl _
  | succ m ih =>
    rw [stepV]
    have hb := belV_bounds s (i + m) ((vs.length : Int) - m) (by omega)
    exact (swapV_perm _ _ _ (by rw [stepV_len]; omega) (by rw [stepV_len]; omega)).trans (ih (by omega))
theorem shufV_perm (s i : Int) (vs : List Value) : (shufV s i vs).Perm vs := by
  unfold shufV
  cases h : vs.length with
  | zero => simp [stepV]
  | succ n => rw [← h]; exact stepV_perm s i vs _ (by omega)
/-- Between two rounds of a shuffle. -/
structure ShI (tS e : TypeId) (w : World) (Bl p : Nat) (A : Option Addr) (n c : Nat) (xs : List Value) (W : World) : Prop where
  box : Bk W tS Bl [.slice A n c]
  lst : Lst e (BlkOf A) W A n c xs
  st : St (· = p) w W
section
variable {tS e : TypeId} {w W W' : World} {Bl p : Nat} {A : Option Addr} {n c : Nat} {xs : List Value}
theorem ShI.wr (h : ShI tS e w Bl p A n c xs W) (hw : Wr p W W') (h1 : Bl ≠ p) (h2 : ¬ BlkOf A p) : ShI tS e w Bl p A n c xs W' :=
  ⟨h.box.wr hw h1, h.lst.same (fun ad he => hw.block _ (h.lst.blk ad he).2 (by intro e; injection e with e; exact h2 ⟨ad, he, e⟩)),
    h.st.trans ⟨hw.os, hw.tape, hw.output, hw.size, fun k hk hn => hw.block k hk (by intro e; injection e with e; exact hn e)⟩ (Gr.refl _ _)⟩
theorem ShI.put (h : ShI tS e w Bl p A n c xs W) (l : Nat) (o : Obj) (h1 : Bl ≠ l) (h2 : ¬ BlkOf A l) (h3 : w.heap.size ≤ l) : ShI tS e w Bl p A n c xs (W.putObj l o) :=
  ⟨(World.putObj_heap_other h1).trans h.box, h.lst.same (fun ad he => World.putObj_heap_other (by intro e; exact h2 ⟨ad, he, e⟩)),
    ⟨h.st.os, h.st.tape, h.st.output, by simpa using h.st.size, fun k hk hn => (World.putObj_heap_other (by omega)).trans (h.st.block k hk hn)⟩⟩
theorem ShI.turned {g : Nat} {xs' : List Value} (h : ShI tS e w Bl p A n c xs W) (hw : Wr g W W') (hg : w.heap.size ≤ g) (hb : Bl ≠ g) (hl : Lst e (BlkOf A) W' A n c xs') : ShI tS e w Bl p A n c xs' W' :=
  ⟨h.box.wr hw hb, hl, ⟨hw.os.trans h.st.os, hw.tape.trans h.st.tape, hw.output.trans h.st.output, Nat.le_trans h.st.size hw.size, fun q hq hn =>
    (hw.block q (by have := h.st.size; omega) (by intro e; injection e; omega)).trans (h.st.block q hq hn)⟩⟩
end
end Go.Proofs.Ytiefgicapcljiaa
