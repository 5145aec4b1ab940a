/- All parts: the messages, as far as they go. -/
import Derived.Test.YtmmjhijgedboiaaJ4
import Derived.Test.YtmmjhijgedboiaaOpenV
set_option linter.unusedSimpArgs false
set_option linter.unusedVariables false
set_option maxRecDepth 100000
namespace Go.Proofs.Ytmmjhijgedboiaa
open Go.RowKit Go.Shelf
/-! ### What all parts make -/
def Jm.outs (m : Jm) (out : List (List Int)) (x : List Int) (e : Bool) : List (List Int) := if m.is x e = true then out ++ [m.told x e] else out
def allR (es : List Bool) : Nat → Jm → List (List Int) → List (List Int) → List (List Int) × Nat × Int
  | i, _, out, [] => (out, i, 0)
  | i, m, out, x :: r => if m.refuse x = 0 then allR es (i + 1) (m.add x (es.getD i false)) (m.outs out x (es.getD i false)) r else (out, i, m.refuse x)
theorem allR_nil (es : List Bool) (i : Nat) (m : Jm) (out : List (List Int)) : allR es i m out [] = (out, i, 0) := rfl
theorem allR_on (es : List Bool) (i : Nat) (m : Jm) (out : List (List Int)) (x : List Int) (r : List (List Int)) (h : m.refuse x = 0) : allR es i m out (x :: r) = allR es (i + 1) (m.add x (es.getD i false)) (m.outs out x (es.getD i false)) r := by
  rw [allR, if_pos h]
theorem allR_no (es : List Bool) (i : Nat) (m : Jm) (out : List (List Int)) (x : List Int) (r : List (List Int)) (h : m.refuse x ≠ 0) : allR es i m out (x :: r) = (out, i, m.refuse x) := by
  rw [allR, if_neg h]
theorem Jm.add_fl (m : Jm) (out : List (List Int)) (x : List Int) (e : Bool) (h : m.refuse x = 0) : (m.outs out x e).flatten ++ (m.add x e).fl = out.flatten ++ m.fl ++ x := by
  cases e with
  | true =>
    have h1 : m.is x true = true := by simp [Jm.is, h]
    have h2 : m.add x true = ⟨[], m.N + 1, m.T + (m.op + x.length : Nat)⟩ := by unfold Jm.add; rw [if_pos h, if_pos rfl]
    have h3 : m.told x true = m.fl ++ x := by unfold Jm.told; rw [if_pos h1]
    rw [h2]
    unfold Jm.outs
    rw [if_pos h1, h3]
    simp [Jm.fl]
  | false =>
    have h1 : m.is x false = false := by simp [Jm.is]
    have h2 : m.add x false = m.plus x := by unfold Jm.add; rw [if_pos h, if_neg (by simp)]
    rw [h2, Jm.plus_fl]
    unfold Jm.outs
    rw [if_neg (by rw [h1]; simp), List.append_assoc]
/-- What was told, and what is open, is what was added. -/
theorem allR_pre (es : List Bool) : ∀ (r : List (List Int)) (i : Nat) (m : Jm) (out : List (List Int)), ∃ (j : Nat) (t : List Int), (allR es i m out r).2.1 = i + j ∧ j ≤ r.length ∧ (allR es i m out r).1.flatten ++ t = out.flatten ++ m.fl ++ (r.take j).flatten
  | [], i, m, out => ⟨0, m.fl, rfl, Nat.le_refl _, by simp [allR]⟩
  | x :: r, i, m, out => by
    by_cases h : m.refuse x = 0
    · obtain ⟨j, t, h1, h2, h3⟩ := allR_pre es r (i + 1) (m.add x (es.getD i false)) (m.outs out x (es.getD i false))
      rw [allR_on es i m out x r h]
      refine ⟨j + 1, t, by omega, by simp; omega, ?_⟩
      rw [h3, Jm.add_fl m out x _ h]
      simp
    · rw [allR_no es i m out x r h]
      exact ⟨0, m.fl, rfl, Nat.zero_le _, by simp⟩
theorem Jm.add_N (m : Jm) (x : List Int) (e : Bool) (k : Nat) (h : 0 ≤ m.N ∧ m.N ≤ k) : 0 ≤ (m.add x e).N ∧ (m.add x e).N ≤ ((k + 1 : Nat) : Int) := by
  unfold Jm.add Jm.plus
  split
  · split <;> simp only <;> omega
  · omega
theorem Jm.add_T (m : Jm) (x : List Int) (e : Bool) (k : Nat) (h : 0 ≤ m.T ∧ m.T ≤ k * 65536) : 0 ≤ (m.add x e).T ∧ (m.add x e).T ≤ ((k + 1 : Nat) : Int) * 65536 := by
  unfold Jm.add
  split
  · rename_i hr
    unfold Jm.refuse at hr
    split at hr
    · cases hr
    · split at hr
      · cases hr
      · split
        · simp only; omega
        · simp only [Jm.plus]; omega
  · omega
/-! ### The row of messages -/
def OutR (F : Nat → Prop) (w W : World) (A : Option Addr) (n c : Nat) (ms : List (List Int)) : Prop :=
  ∃ bs : List Bs, Lst 30 (fun k => w.heap.size ≤ k ∧ ¬ F k) W A n c (bs.map Bs.val) ∧ bs.map Bs.xs = ms ∧ ∀ b ∈ bs, BsR W b.A b.n b.c b.xs ∧ ∀ k, BlkOf b.A k → w.heap.size ≤ k ∧ ¬ F k
section
variable {F F' : Nat → Prop} {w W W' W1 w2 : World} {A : Option Addr} {n c : Nat} {ms : List (List Int)} {g : Nat} {m : Jm}
theorem OutR.sl (h : OutR F w W A n c ms) : SlB W A n c ms := by
  obtain ⟨bs, h1, h2, h3⟩ := h
  exact ⟨bs, h1.rdv, h2, fun b hb => (h3 b hb).1.1⟩
theorem OutR.nil (F : Nat → Prop) (w W : World) : OutR F w W none 0 0 [] := ⟨[], Lst.nil _ _ _, rfl, by simp⟩
theorem OutR.add (h : OutR F w W A n c ms) (hs : St F W W') (hg : Gr F F' W.heap.size) : OutR F' w W' A n c ms := by
  obtain ⟨bs, h1, h2, h3⟩ := h
  refine ⟨bs, ?_, h2, fun b hb => ?_⟩
  · refine ((h1.st hs (fun k hk => hk.2)).tight).mono ?_
    rintro k ⟨ad, he, rfl⟩
    have hk := h1.blk ad he
    exact ⟨hk.1.1, hg.not hk.2 hk.1.2⟩
  · obtain ⟨k1, k2⟩ := h3 b hb
    exact ⟨k1.st hs fun k hk => (k2 k hk).2, fun k hk => ⟨(k2 k hk).1, hg.not (k1.lt k hk) (k2 k hk).2⟩⟩
theorem OutR.app {b : Bs} {bs : List Bs} {v : Value} (h1 : Lst 30 (fun k => w.heap.size ≤ k ∧ ¬ F k) W A n c (bs.map Bs.val)) (h2 : bs.map Bs.xs = ms) (h3 : ∀ b ∈ bs, BsR W b.A b.n b.c b.xs ∧ ∀ k, BlkOf b.A k → w.heap.size ≤ k ∧ ¬ F k)
    (hF : ∀ k, F k → k < W.heap.size) (hw : w.heap.size ≤ W.heap.size) (hq : BsR W b.A b.n b.c b.xs) (hqk : ∀ k, BlkOf b.A k → w.heap.size ≤ k ∧ ¬ F k) (hb : Below W.heap.size W W1)
    (hap : Apd 30 (BlkOf A) W1 v (bs.map Bs.val ++ [b.val]) w2) : ∃ A' n' c', v = .slice A' n' c' ∧ OutR F w w2 A' n' c' (ms ++ [b.xs]) ∧ St (BlkOf A) W w2 := by
  obtain ⟨⟨A', n', c', rfl, hl'⟩, hst⟩ := hap
  have hnb : ∀ k, BlkOf A k → ¬ Tyd 5 W1 k := fun k hk => ((h1.below hb).tyd k hk).ne (by decide)
  refine ⟨A', n', c', rfl, ⟨bs ++ [b], ?_, by rw [List.map_append, h2]; rfl, fun q hq' => ?_⟩, (St.ext hb).trans hst (Gr.refl _ _)⟩
  · rw [List.map_append]
    refine hl'.mono ?_
    rintro k (⟨ad, rfl, rfl⟩ | hk)
    · exact (h1.blk _ rfl).1
    · have := hb.size
      exact ⟨by omega, fun hf => by have := hF k hf; omega⟩
  · rcases List.mem_append.1 hq' with h | h
    · obtain ⟨k1, k2⟩ := h3 q h
      exact ⟨BsR.stT (k1.below hb) hst hnb, k2⟩
    · obtain rfl : q = b := by simpa using h
      exact ⟨BsR.stT (hq.below hb) hst hnb, hqk⟩
theorem Lst.sepF {vs : List Value} (h1 : Lst 30 (fun k => w.heap.size ≤ k ∧ ¬ F k) W A n c vs) : Sep F (BlkOf A) := fun k hf ⟨ad, he, hk⟩ => by
  subst hk
  exact (h1.blk ad he).1.2 hf
end
/-- What comes of all parts. -/
def AllP (w : World) (R : List (List Int) × Nat × Int) (e : Ending) (w' : World) : Prop := ∃ A n c, e = .returned (.tuple #[.slice A n c, .int .i64 R.2.1, .int .i64 R.2.2]) ∧ SlB w' A n c R.1 ∧ Below w.heap.size w w'
theorem getD_map (es : List Bool) {k : Nat} (hk : k < es.length) : (es.map Value.bool)[k]? = some (.bool (es.getD k false)) := by
  simp [hk]
end Go.Proofs.Ytmmjhijgedboiaa
