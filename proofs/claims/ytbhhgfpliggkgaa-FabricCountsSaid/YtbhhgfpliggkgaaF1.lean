/- Fabrics in memory. -/
import Derived.Test.YtbhhgfpliggkgaaF0
set_option linter.unusedSimpArgs false
set_option linter.unusedVariables false
namespace Go.Proofs.Ytbhhgfpliggkgaa
open Go.RowKit Go.Shelf

/-- A fabric by what it holds: the port of path i to host j at i * 8 + j; its counts. -/
structure FM where
  pt : Nat → Option AM
  ct : Nat → Int
def set1 {α : Type} (f : Nat → α) (k : Nat) (v : α) : Nat → α := fun i => if i = k then v else f i
theorem set1_at {α : Type} (f : Nat → α) (k : Nat) (v : α) : set1 f k v k = v := by simp [set1]
theorem set1_ne {α : Type} (f : Nat → α) {k i : Nat} (v : α) (h : i ≠ k) : set1 f k v i = f i := by simp [set1, h]
def FM.cell (m : FM) (pp : Nat → Nat) (j : Nat) : Value := if j < 64 then .pointer ((m.pt j).map fun _ => ⟨pp j, 0, none⟩) else .int .i64 (m.ct (j - 64))
/-- A fabric's cells. -/
def FM.mem (m : FM) (pp : Nat → Nat) : List Value := (List.range 69).map (m.cell pp)
def FM.nobody : FM := ⟨fun _ => none, fun _ => 0⟩
def FM.sp (m : FM) (k : Nat) (a : AM) : FM := { m with pt := set1 m.pt k (some a) }
def FM.sc (m : FM) (i : Nat) (x : Int) : FM := { m with ct := up m.ct i x }
section
variable {m : FM} {pp : Nat → Nat}
theorem FM.mem_len (m : FM) (pp : Nat → Nat) : (m.mem pp).length = 69 := by simp [FM.mem]
theorem FM.cell_one (m : FM) (pp : Nat → Nat) (j : Nat) : (m.cell pp j).oneCell' = true := by unfold FM.cell; split <;> rfl
theorem FM.mem_one (m : FM) (pp : Nat → Nat) : ∀ v ∈ m.mem pp, v.oneCell' = true := by
  intro v hv
  obtain ⟨j, _, rfl⟩ := List.mem_map.1 hv
  exact m.cell_one pp j
theorem FM.mem_get (m : FM) (pp : Nat → Nat) {j : Nat} (h : j < 69) : (m.mem pp)[j]? = some (m.cell pp j) := by simp [FM.mem, h]
theorem FM.mem_pt (m : FM) (pp : Nat → Nat) {k : Nat} (h : k < 64) : (m.mem pp)[k]? = some (.pointer ((m.pt k).map fun _ => ⟨pp k, 0, none⟩)) := by
  rw [m.mem_get pp (by omega), FM.cell, if_pos h]
theorem FM.mem_ct (m : FM) (pp : Nat → Nat) {i : Nat} (h : i < 5) : (m.mem pp)[64 + i]? = some (.int .i64 (m.ct i)) := by
  rw [m.mem_get pp (by omega), FM.cell, if_neg (by omega)]
  congr 3; omega
theorem FM.mem_ext {l : List Value} (hl : l.length = 69) (h : ∀ j, j < 69 → l[j]? = some (m.cell pp j)) : l = m.mem pp := by
  apply List.ext_getElem?
  intro i
  by_cases hi : i < 69
  · rw [h i hi, m.mem_get pp hi]
  · rw [List.getElem?_eq_none (by omega), List.getElem?_eq_none (by rw [FM.mem_len]; omega)]
theorem FM.mem_sc (m : FM) (pp : Nat → Nat) {i : Nat} (h : i < 5) (x : Int) : (m.mem pp).set (64 + i) (.int .i64 x) = (m.sc i x).mem pp := by
  refine FM.mem_ext (by simp [FM.mem_len]) fun j hj => ?_
  rw [List.getElem?_set]
  by_cases hij : 64 + i = j
  · subst hij
    rw [if_pos rfl, if_pos (by rw [FM.mem_len]; omega), FM.cell, if_neg (by omega)]
    unfold FM.sc
    dsimp only
    rw [show 64 + i - 64 = i by omega, up_at]
  · rw [if_neg hij, m.mem_get pp hj]
    unfold FM.cell FM.sc
    split
    · rfl
    · dsimp only
      rw [up_ne _ _ (by omega)]
theorem FM.mem_sp (m : FM) (pp : Nat → Nat) {k p : Nat} (h : k < 64) (a : AM) : (m.mem pp).set k (.pointer (some ⟨p, 0, none⟩)) = (m.sp k a).mem (set1 pp k p) := by
  refine FM.mem_ext (by simp [FM.mem_len]) fun j hj => ?_
  rw [List.getElem?_set]
  by_cases hij : k = j
  · subst hij
    rw [if_pos rfl, if_pos (by rw [FM.mem_len]; omega), FM.cell, if_pos h]
    unfold FM.sp
    dsimp only
    rw [set1_at, set1_at]; rfl
  · rw [if_neg hij, m.mem_get pp hj]
    unfold FM.cell FM.sp
    dsimp only
    rw [set1_ne _ _ (Ne.symm hij), set1_ne _ _ (Ne.symm hij)]
/-- A port that has turned lies where it lay. -/
theorem FM.mem_same (m : FM) (pp : Nat → Nat) {k : Nat} {a c : AM} (h : m.pt k = some a) : (m.sp k c).mem pp = m.mem pp := by
  refine FM.mem_ext (FM.mem_len _ _) fun j hj => ?_
  rw [FM.mem_get _ _ hj]
  unfold FM.cell FM.sp
  dsimp only
  by_cases hjk : j = k
  · subst hjk
    rw [set1_at, h]; rfl
  · rw [set1_ne _ _ hjk]
end

/-- Ports: what else is off limits grows. -/
theorem Pb.off {F X X1 : Nat → Prop} {w : World} {b : Nat} {m : AM} (h : Pb F X w b m) (hX : ∀ k, X1 k → F k ∨ X k) : Pb F X1 w b m := by
  obtain ⟨pl, ph, Fl, Fh, ql, qh, h⟩ := h
  have hb := h.bd
  exact ⟨pl, ph, Fl, Fh, ql, qh, h.bk, h.w1, h.w2, h.ru, h.lo, h.hi, h.lk, h.hk, fun q hq => (h.pl_ q hq).mono fun k hk => hk.elim .inl (hX k), fun q hq => (h.ph_ q hq).mono fun k hk => hk.elim .inl (hX k), h.f, h.nl, h.nh, h.sep, fun k hk => (hX k hk).elim (hb k) (h.xb k)⟩
/-- Other blocks turn; what is off limits grows by new ones. -/
theorem Pb.st2 {F X X1 G : Nat → Prop} {w w' : World} {b : Nat} {m : AM} (h : Pb F X w b m) (hs : St G w w') (hFG : ∀ k, F k → ¬ G k) (hGX : ∀ k, G k → X k ∨ w.heap.size ≤ k) (hX : ∀ k, X1 k → X k ∨ w.heap.size ≤ k) (hX1 : ∀ k, X1 k → k < w'.heap.size) : Pb F X1 w' b m := by
  obtain ⟨pl, ph, Fl, Fh, ql, qh, h⟩ := h
  have hb : F b := (h.f b).2 (.inl rfl)
  have hp : ∀ q, PvR (fun k => F k ∨ X k) w q → PvR (fun k => F k ∨ X1 k) w' q := fun q hq =>
    ⟨hq.1.st hs (fun hn ad he hg => by
      rcases hGX _ hg with hx | hx
      · exact hq.2.2.2 hn ad he (.inr hx)
      · have := hq.1.blk hn ad he; omega), hq.2.1, hq.2.2.1, fun hn ad he hf => by
      rcases hf with hf | hf
      · exact hq.2.2.2 hn ad he (.inl hf)
      · rcases hX _ hf with hx | hx
        · exact hq.2.2.2 hn ad he (.inr hx)
        · have := hq.1.blk hn ad he; omega⟩
  exact ⟨pl, ph, Fl, Fh, ql, qh, h.bk.st hs (hFG b hb), h.w1, h.w2, h.ru, h.lo.st hs fun k hk => hFG k ((h.f k).2 (.inr (.inl hk))), h.hi.st hs fun k hk => hFG k ((h.f k).2 (.inr (.inr hk))), h.lk, h.hk, fun q hq => hp q (h.pl_ q hq), fun q hq => hp q (h.ph_ q hq), h.f, h.nl, h.nh, h.sep, hX1⟩

/-- Block b holds the fabric m; all of it lies in the blocks of F; its packets' payloads lie neither there nor in X. -/
structure FbC (F X : Nat → Prop) (w : World) (b : Nat) (m : FM) (pp : Nat → Nat) (FF : Nat → Nat → Prop) : Prop where
  bk : Bk w 70 b (m.mem pp)
  lt : ∀ k a, m.pt k = some a → k < 64
  pt : ∀ k a, m.pt k = some a → Pb (FF k) (fun j => F j ∨ X j) w (pp k) a
  sep : ∀ i k a c, m.pt i = some a → m.pt k = some c → i ≠ k → Sep (FF i) (FF k)
  nb : ∀ k a, m.pt k = some a → ¬ FF k b
  f : ∀ j, F j ↔ j = b ∨ ∃ k a, m.pt k = some a ∧ FF k j
  xb : ∀ j, X j → j < w.heap.size
def Fb (F X : Nat → Prop) (w : World) (b : Nat) (m : FM) : Prop := ∃ pp FF, FbC F X w b m pp FF
/-- The fabric is this one now; nothing else of what was there has changed. -/
def DidF (F X : Nat → Prop) (b : Nat) (m : FM) (w w' : World) (F' : Nat → Prop) : Prop := Fb F' X w' b m ∧ St F w w' ∧ Gr F F' w.heap.size
section
variable {F X F1 X1 G : Nat → Prop} {w w' w1 : World} {b : Nat} {m m1 : FM} {pp : Nat → Nat} {FF : Nat → Nat → Prop} {k : Nat} {a c : AM}
theorem FbC.bd (h : FbC F X w b m pp FF) : ∀ j, F j → j < w.heap.size := fun j hj => by
  rcases (h.f j).1 hj with rfl | ⟨k, a, hk, hf⟩
  · exact h.bk.lt
  · exact (h.pt k a hk).bd j hf
theorem FbC.atB (h : FbC F X w b m pp FF) : F b := (h.f b).2 (.inl rfl)
theorem FbC.sub (h : FbC F X w b m pp FF) (hk : m.pt k = some a) : ∀ j, FF k j → F j := fun j hj => (h.f j).2 (.inr ⟨k, a, hk, hj⟩)
theorem FbC.st (h : FbC F X w b m pp FF) (hs : St G w w') (hFG : ∀ k, F k → ¬ G k) (hGX : ∀ k, G k → X k ∨ w.heap.size ≤ k) (hX : ∀ k, X1 k → X k ∨ w.heap.size ≤ k) (hX1 : ∀ k, X1 k → k < w'.heap.size) : FbC F X1 w' b m pp FF :=
  ⟨h.bk.st hs (hFG _ h.atB), h.lt, fun k a hk => (h.pt k a hk).st2 hs (fun j hj => hFG j (h.sub hk j hj)) (fun j hj => (hGX j hj).imp .inr id) (fun j hj => hj.elim (fun hj => .inl (.inl hj)) fun hj => (hX j hj).imp .inr id)
    (fun j hj => hj.elim (fun hj => Nat.lt_of_lt_of_le (h.bd j hj) hs.size) (hX1 j)), h.sep, h.nb, h.f, hX1⟩
theorem FbC.below (h : FbC F X w b m pp FF) (hb : Below w.heap.size w w') : FbC F X w' b m pp FF :=
  h.st (G := fun _ => False) (St.ext hb) (fun _ _ h => h) (fun _ h => h.elim) (fun _ h => .inl h) (fun k hk => Nat.lt_of_lt_of_le (h.xb k hk) hb.size)
theorem FbC.less (h : FbC F X w b m pp FF) (hX : ∀ k, X1 k → X k) : FbC F X1 w b m pp FF :=
  h.st (G := fun _ => False) (St.refl _ _) (fun _ _ h => h) (fun _ h => h.elim) (fun k hk => .inl (hX k hk)) (fun k hk => h.xb k (hX k hk))
theorem Fb.bd (h : Fb F X w b m) : ∀ j, F j → j < w.heap.size := by obtain ⟨_, _, h⟩ := h; exact h.bd
theorem Fb.below (h : Fb F X w b m) (hb : Below w.heap.size w w') : Fb F X w' b m := by obtain ⟨pp, FF, h⟩ := h; exact ⟨pp, FF, h.below hb⟩
theorem Fb.st (h : Fb F X w b m) (hs : St G w w') (hFG : ∀ k, F k → ¬ G k) (hGX : ∀ k, G k → X k ∨ w.heap.size ≤ k) (hX : ∀ k, X1 k → X k ∨ w.heap.size ≤ k) (hX1 : ∀ k, X1 k → k < w'.heap.size) : Fb F X1 w' b m := by
  obtain ⟨pp, FF, h⟩ := h; exact ⟨pp, FF, h.st hs hFG hGX hX hX1⟩
/-- A port has turned. -/
theorem FbC.port (h : FbC F X w b m pp FF) (hk : m.pt k = some a) (hp : Pb F1 (fun j => F j ∨ X j) w' (pp k) c) (hs : St (FF k) w w') (hg : Gr (FF k) F1 w.heap.size) :
    ∃ F' FF', FbC F' X w' b (m.sp k c) pp FF' ∧ St F w w' ∧ Gr F F' w.heap.size ∧ ∀ j, F' j → F j ∨ F1 j := by
  have hsF : St F w w' := hs.mono fun j _ hj => h.sub hk j hj
  have hF' : ∀ j, (j = b ∨ ∃ i e, (m.sp k c).pt i = some e ∧ set1 FF k F1 i j) → F j ∨ F1 j := by
    rintro j (rfl | ⟨i, e, hi, hj⟩)
    · exact .inl h.atB
    · by_cases hik : i = k
      · subst hik; rw [set1_at] at hj; exact .inr hj
      · rw [set1_ne _ _ hik] at hj
        have hi : m.pt i = some e := by unfold FM.sp at hi; dsimp only at hi; rwa [set1_ne _ _ hik] at hi
        exact .inl (h.sub hi j hj)
  have hG : Gr F (fun j => j = b ∨ ∃ i e, (m.sp k c).pt i = some e ∧ set1 FF k F1 i j) w.heap.size := fun j hj => by
    rcases hF' j hj with h1 | h1
    · exact .inl h1
    · exact (hg j h1).imp (h.sub hk j) id
  have hX1 : ∀ j, ((j = b ∨ ∃ i e, (m.sp k c).pt i = some e ∧ set1 FF k F1 i j) ∨ X j) → j < w'.heap.size := fun j hj => by
    rcases hj with hj | hj
    · rcases hF' j hj with h1 | h1
      · exact Nat.lt_of_lt_of_le (h.bd j h1) hs.size
      · exact hp.bd j h1
    · exact Nat.lt_of_lt_of_le (h.xb j hj) hs.size
  have hpt : ∀ i e, (m.sp k c).pt i = some e → i ≠ k → m.pt i = some e := fun i e hi hik => by unfold FM.sp at hi; dsimp only at hi; rwa [set1_ne _ _ hik] at hi
  refine ⟨fun j => j = b ∨ ∃ i e, (m.sp k c).pt i = some e ∧ set1 FF k F1 i j, set1 FF k F1, ⟨?_, ?_, ?_, ?_, ?_, fun j => Iff.rfl, fun j hj => hX1 j (.inr hj)⟩, hsF, hG, hF'⟩
  · rw [FM.mem_same m pp hk]; exact h.bk.st hs (h.nb k a hk)
  · intro i e hi
    by_cases hik : i = k
    · subst hik; exact h.lt _ _ hk
    · exact h.lt i e (hpt i e hi hik)
  · intro i e hi
    by_cases hik : i = k
    · subst hik
      have he : e = c := by unfold FM.sp at hi; dsimp only at hi; rw [set1_at] at hi; injection hi with hi; exact hi.symm
      subst he
      rw [set1_at]
      refine hp.off fun j hj => ?_
      rcases hj with hj | hj
      · rcases hF' j hj with h1 | h1
        · exact .inr (.inl h1)
        · exact .inl h1
      · exact .inr (.inr hj)
    · rw [set1_ne _ _ hik]
      have hi' := hpt i e hi hik
      refine (h.pt i e hi').st2 hs (h.sep i k e a hi' hk hik) (fun j hj => .inl (.inl (h.sub hk j hj))) (fun j hj => ?_) hX1
      rcases hj with hj | hj
      · exact (hG j hj).imp .inl id
      · exact .inl (.inr hj)
  · have key : ∀ i e, m.pt i = some e → i ≠ k → Sep F1 (FF i) := fun i e hi hik => (h.sep k i a e hk hi (Ne.symm hik)).gr hg fun j hj => (h.pt i e hi).bd j hj
    intro i l e d hi hl hil
    by_cases hik : i = k
    · subst hik
      rw [set1_at, set1_ne _ _ (Ne.symm hil)]
      exact key l d (hpt l d hl (Ne.symm hil)) (Ne.symm hil)
    · by_cases hlk : l = k
      · subst hlk
        rw [set1_at, set1_ne _ _ hik]
        exact (key i e (hpt i e hi hik) hik).symm
      · rw [set1_ne _ _ hik, set1_ne _ _ hlk]
        exact h.sep i l e d (hpt i e hi hik) (hpt l d hl hlk) hil
  · intro i e hi
    by_cases hik : i = k
    · subst hik
      rw [set1_at]
      exact hg.not h.bk.lt (h.nb _ a hk)
    · rw [set1_ne _ _ hik]
      exact h.nb i e (hpt i e hi hik)
/-- A count is written. -/
theorem FbC.count (h : FbC F X w b m pp FF) {i : Nat} (hi : i < 5) (x : Int) : FbC F X (w.setCell ⟨b, 64 + i, none⟩ (.int .i64 x)) b (m.sc i x) pp FF ∧ St F w (w.setCell ⟨b, 64 + i, none⟩ (.int .i64 x)) := by
  have hs : St (· = b) w (w.setCell ⟨b, 64 + i, none⟩ (.int .i64 x)) := St.setCell (F := (· = b)) w (a := ⟨b, 64 + i, none⟩) rfl _
  refine ⟨⟨?_, h.lt, ?_, h.sep, h.nb, h.f, fun j hj => Nat.lt_of_lt_of_le (h.xb j hj) hs.size⟩, hs.mono fun j _ hj => by rw [hj]; exact h.atB⟩
  · rw [← FM.mem_sc m pp hi]; exact h.bk.set _ _
  · intro k a hk
    refine (h.pt k a hk).st2 hs (fun j hj e => h.nb k a hk (e ▸ hj)) (fun j hj => .inl (.inl (by rw [hj]; exact h.atB))) (fun j hj => .inl hj) fun j hj => ?_
    exact Nat.lt_of_lt_of_le (hj.elim (h.bd j) (h.xb j)) hs.size
/-- A new port is laid in. -/
theorem FbC.newp (h : FbC F X w b m pp FF) {p k : Nat} (hk : k < 64) (hn : m.pt k = none) (hb : Below w.heap.size w w1) (hp : Pb F1 (fun j => F j ∨ X j) w1 p c) (hF : ∀ j, F1 j → w.heap.size ≤ j) :
    ∃ F' FF', FbC F' X (w1.setCell ⟨b, k, none⟩ (.pointer (some ⟨p, 0, none⟩))) b (m.sp k c) (set1 pp k p) FF' ∧ ∀ j, F' j → F j ∨ F1 j := by
  have hs : St (· = b) w1 (w1.setCell ⟨b, k, none⟩ (.pointer (some ⟨p, 0, none⟩))) := St.setCell (F := (· = b)) w1 (a := ⟨b, k, none⟩) rfl _
  have hpt : ∀ i e, (m.sp k c).pt i = some e → i ≠ k → m.pt i = some e := fun i e hi hik => by unfold FM.sp at hi; dsimp only at hi; rwa [set1_ne _ _ hik] at hi
  have hptk : ∀ e, (m.sp k c).pt k = some e → e = c := fun e hi => by unfold FM.sp at hi; dsimp only at hi; rw [set1_at] at hi; injection hi with hi; exact hi.symm
  have hne : ∀ i e, m.pt i = some e → i ≠ k := fun i e hi e' => by rw [e', hn] at hi; cases hi
  have hF' : ∀ j, (j = b ∨ ∃ i e, (m.sp k c).pt i = some e ∧ set1 FF k F1 i j) → F j ∨ F1 j := by
    rintro j (rfl | ⟨i, e, hi, hj⟩)
    · exact .inl h.atB
    · by_cases hik : i = k
      · subst hik; rw [set1_at] at hj; exact .inr hj
      · rw [set1_ne _ _ hik] at hj
        exact .inl (h.sub (hpt i e hi hik) j hj)
  have hX1 : ∀ j, ((j = b ∨ ∃ i e, (m.sp k c).pt i = some e ∧ set1 FF k F1 i j) ∨ X j) → j < (w1.setCell ⟨b, k, none⟩ (.pointer (some ⟨p, 0, none⟩))).heap.size := fun j hj => by
    refine Nat.lt_of_lt_of_le ?_ hs.size
    rcases hj with hj | hj
    · rcases hF' j hj with h1 | h1
      · exact Nat.lt_of_lt_of_le (h.bd j h1) hb.size
      · exact hp.bd j h1
    · exact Nat.lt_of_lt_of_le (h.xb j hj) hb.size
  have hnb1 : ¬ F1 b := fun hf => by have := hF b hf; have := h.bk.lt; omega
  have hst : St (fun j => j = b ∨ w.heap.size ≤ j) w (w1.setCell ⟨b, k, none⟩ (.pointer (some ⟨p, 0, none⟩))) := (St.ext hb).trans (hs.mono fun j _ hj => .inl hj) (Gr.refl _ _)
  refine ⟨fun j => j = b ∨ ∃ i e, (m.sp k c).pt i = some e ∧ set1 FF k F1 i j, set1 FF k F1, ⟨?_, ?_, ?_, ?_, ?_, fun j => Iff.rfl, fun j hj => hX1 j (.inr hj)⟩, hF'⟩
  · rw [← FM.mem_sp m pp hk c]; exact (h.bk.below hb).set _ _
  · intro i e hi
    by_cases hik : i = k
    · subst hik; exact hk
    · exact h.lt i e (hpt i e hi hik)
  · intro i e hi
    by_cases hik : i = k
    · subst hik
      obtain rfl := hptk e hi
      rw [set1_at, set1_at]
      refine (hp.off (X1 := fun j => (j = b ∨ ∃ i' e', (m.sp i e).pt i' = some e' ∧ set1 FF i F1 i' j) ∨ X j) fun j hj => ?_).st2 hs (fun j hj e' => hnb1 (e' ▸ hj)) (fun j hj => .inl (.inl (.inl hj))) (fun j hj => .inl hj) hX1
      rcases hj with hj | hj
      · exact (hF' j hj).elim (fun h1 => .inr (.inl h1)) .inl
      · exact .inr (.inr hj)
    · rw [set1_ne _ _ hik, set1_ne _ _ hik]
      have hi' := hpt i e hi hik
      refine (h.pt i e hi').st2 hst (fun j hj hj' => ?_) (fun j hj => ?_) (fun j hj => ?_) hX1
      · rcases hj' with rfl | hj'
        · exact h.nb i e hi' hj
        · have := (h.pt i e hi').bd j hj; omega
      · exact hj.elim (fun e => .inl (.inl (by rw [e]; exact h.atB))) .inr
      · rcases hj with hj | hj
        · rcases hF' j hj with h1 | h1
          · exact .inl (.inl h1)
          · exact .inr (hF j h1)
        · exact .inl (.inr hj)
  · have key : ∀ i e, m.pt i = some e → Sep F1 (FF i) := fun i e hi => sep_lt hF fun j hj => (h.pt i e hi).bd j hj
    intro i l e d hi hl hil
    by_cases hik : i = k
    · subst hik
      rw [set1_at, set1_ne _ _ (Ne.symm hil)]
      exact key l d (hpt l d hl (Ne.symm hil))
    · by_cases hlk : l = k
      · subst hlk
        rw [set1_at, set1_ne _ _ hik]
        exact (key i e (hpt i e hi hik)).symm
      · rw [set1_ne _ _ hik, set1_ne _ _ hlk]
        exact h.sep i l e d (hpt i e hi hik) (hpt l d hl hlk) hil
  · intro i e hi
    by_cases hik : i = k
    · subst hik
      rw [set1_at]; exact hnb1
    · rw [set1_ne _ _ hik]
      exact h.nb i e (hpt i e hi hik)
end
end Go.Proofs.Ytbhhgfpliggkgaa
