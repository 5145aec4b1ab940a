/- Bytes, lists of slices of bytes; a Join by value and in memory. -/
import Derived.Test.YtmmjhijgedboiaaLsr
import Derived.Test.YtmmjhijgedboiaaItr
import Derived.Test.YtmmjhijgedboiaaKit3
import Derived.Test.YtmmjhijgedboiaaRegL
import Derived.BigQuiet
import Derived.Deep.QuietTactic
import Derived.WalkSpells
set_option linter.unusedSimpArgs false
set_option linter.unusedVariables false
set_option maxRecDepth 100000
namespace Go.Proofs.Ytmmjhijgedboiaa
open Go.RowKit Go.Shelf

theorem eltB : Elt Try.prog 43 30 (.slice none 0 0) 24 := ⟨rfl, by kernel_rfl, rfl, rfl, by decide⟩
theorem eltU : Elt Try.prog 30 5 (.int .u8 0) 1 := ⟨rfl, by kernel_rfl, rfl, rfl, by decide⟩
theorem bytesT : Ints Try.prog 30 5 .u8 1 := ⟨Try.underlying30, by kernel_rfl⟩
theorem conv_any {W : World} {A : Option Addr} {l c : Nat} {xs : List Int} (h : Rd .u8 W A l c xs) : (convert 30 9 (.slice A l c)).run Try.prog W = .ok (.string (strOfNums xs)) W :=
  run_str Try.underlying30 Try.underlying5 h _ Try.underlying9
theorem clone_any (A : Option Addr) (n c : Nat) (xs : List Int) (w : World) (h : Rd .u8 w A n c xs) (hn : n ≤ 65536) :
    Calls Try.prog 59 #[.slice A n c] w fun e w' => ∃ v, e = .returned v ∧ Ow .u8 5 w.heap.size w' v xs ∧ Below w.heap.size w w' := by
  rcases A with _ | ad
  · have hc := h.2.2.2.1 rfl
    subst hc
    obtain rfl : n = 0 := by have := h.2.1; omega
    obtain rfl : xs = [] := List.eq_nil_of_length_eq_zero h.1
    have hq := Lib.run_eql_slice_nil (P := Try.prog) w 30 5 none 0 0 0 0 Try.underlying30
    go_enter Try.func59, Try.ntmps59
    go_wp2
    go_ret
    exact ⟨_, rfl, ⟨rfl, .inl ⟨rfl, rfl⟩⟩, Below.refl _ _⟩
  · have hq := Lib.run_eql_slice_nil (P := Try.prog) w 30 5 (some ad) n c 0 0 Try.underlying30
    go_enter Try.func59, Try.ntmps59
    go_wp2_with (first
      | (at_builtin
         go_must (refine wpList_append_ints bytesT rfl (.tmp 5) (.tmp 6) rfl rfl (w0 := w) (xs := []) ⟨rfl, .inr ⟨w.heap.size, 0, _, rfl, Nat.le_refl _, heap_alloc_new w _, Nat.le_refl _, by decide, by decide, rfl⟩⟩ rfl (h.alloc _) (by simp; omega) (by omega) ((Below.refl _ _).alloc (Nat.le_refl _) _) ?_)
         intro v1 w1 hown hb))
    go_ret
    exact ⟨_, rfl, by simpa using hown, hb⟩

/-! ### Blocks by their type -/
/-- Block k holds cells of type t. -/
def Tyd (t : TypeId) (w : World) (k : Nat) : Prop := ∃ cur fz, w.heap[k]? = some (.cells cur t fz)
theorem Tyd.ne {t u : TypeId} {w : World} {k : Nat} (h : Tyd t w k) (hne : t ≠ u) : ¬ Tyd u w k := by
  rintro ⟨cur, fz, h2⟩
  obtain ⟨cur', fz', h1⟩ := h
  rw [h1] at h2
  injection h2 with h2
  injection h2 with _ h3
  exact hne h3
theorem Bk.tyd {t : TypeId} {w : World} {k : Nat} {vs : List Value} (h : Bk w t k vs) : Tyd t w k := ⟨_, _, h⟩
theorem Lst.tyd {t : TypeId} {F : Nat → Prop} {w : World} {A : Option Addr} {n c : Nat} {cs : List Value} (h : Lst t F w A n c cs) : ∀ k, BlkOf A k → Tyd t w k := by
  rintro k ⟨ad, he, rfl⟩
  rcases h.2.2.2.2 with ⟨rfl, _⟩ | ⟨g, o, cur, rfl, _, hh, _⟩
  · cases he
  · injection he with he
    subst he
    exact ⟨cur, _, hh⟩
/-- A slice of bytes in a block of bytes. -/
def BsR (w : World) (A : Option Addr) (n c : Nat) (xs : List Int) : Prop := Rd .u8 w A n c xs ∧ ∀ k, BlkOf A k → Tyd 5 w k
section
variable {w w' : World} {A : Option Addr} {n c : Nat} {xs : List Int}
theorem BsR.lt (h : BsR w A n c xs) : ∀ k, BlkOf A k → k < w.heap.size := fun k hk => by
  obtain ⟨cur, fz, h1⟩ := h.2 k hk
  exact (Array.getElem?_eq_some_iff.1 h1).1
theorem BsR.keep (h : BsR w A n c xs) (hs : w.heap.size ≤ w'.heap.size) (hb : ∀ ad, A = some ad → w'.heap[ad.block]? = w.heap[ad.block]?) : BsR w' A n c xs := by
  refine ⟨?_, ?_⟩
  · obtain ⟨h1, h2, h3, h4, h5, h6⟩ := h.1
    refine ⟨h1, h2, h3, h4, h5, fun hn => ?_⟩
    obtain ⟨g, o, e, hg, hx⟩ := h6 hn
    exact ⟨g, o, e, by omega, fun i hi => (World.cell?_of_block (a := ⟨g, o + i, none⟩) (hb ⟨g, o, none⟩ e)).trans (hx i hi)⟩
  · rintro k ⟨ad, he, rfl⟩
    obtain ⟨cur, fz, ht⟩ := h.2 _ ⟨ad, he, rfl⟩
    exact ⟨cur, fz, (hb ad he).trans ht⟩
theorem BsR.below (h : BsR w A n c xs) (hb : Below w.heap.size w w') : BsR w' A n c xs := h.keep hb.size fun ad he => hb.block _ (h.lt _ ⟨ad, he, rfl⟩)
theorem BsR.st (h : BsR w A n c xs) {G : Nat → Prop} (hs : St G w w') (hG : ∀ k, BlkOf A k → ¬ G k) : BsR w' A n c xs := h.keep hs.size fun ad he => hs.block _ (h.lt _ ⟨ad, he, rfl⟩) (hG _ ⟨ad, he, rfl⟩)
theorem BsR.stT (h : BsR w A n c xs) {G : Nat → Prop} (hs : St G w w') (hG : ∀ k, G k → ¬ Tyd 5 w k) : BsR w' A n c xs := h.st hs fun k hk hg => hG k hg (h.2 k hk)
theorem BsR.own {base : Nat} (h : Ow .u8 5 base w (.slice A n c) xs) (hw : ∀ x ∈ xs, (Lit.int .u8 x).wf = true) : BsR w A n c xs ∧ ∀ k, BlkOf A k → base ≤ k := by
  obtain ⟨A', c', h1, h2⟩ := h.rd hw
  injection h1 with e1 e2 e3
  subst e1 e2 e3
  refine ⟨⟨h2, ?_⟩, ?_⟩
  · rintro k ⟨ad, rfl, rfl⟩
    rcases h.2 with ⟨h, _⟩ | ⟨g, cap, cur, hv, hg, hh, r⟩
    · cases h
    · injection hv with hv
      injection hv with hv
      subst hv
      exact ⟨_, _, hh⟩
  · rintro k ⟨ad, rfl, rfl⟩
    exact (World.ownsRow.lt h ad.block rfl).1
theorem BsR.nil (w : World) : BsR w none 0 0 [] := ⟨Rd.nil _ _, by rintro k ⟨ad, he, _⟩; cases he⟩
end
/-- A slice of bytes as a value, and what it reads. -/
structure Bs where
  A : Option Addr
  n : Nat
  c : Nat
  xs : List Int
def Bs.val (b : Bs) : Value := .slice b.A b.n b.c
theorem Bs.val_one (b : Bs) : b.val.oneCell' = true := rfl

/-! ### Lists of byte slices -/
/-- Byte slices in a list that reads. -/
def SlB (w : World) (A : Option Addr) (n c : Nat) (ms : List (List Int)) : Prop :=
  ∃ bs : List Bs, RdV w A n c (bs.map Bs.val) ∧ bs.map Bs.xs = ms ∧ ∀ b ∈ bs, Rd .u8 w b.A b.n b.c b.xs
/-- A Join's parts: a list of F's, of byte slices in F's blocks, each with bytes. -/
def Pts (F : Nat → Prop) (w : World) (A : Option Addr) (n c : Nat) (ms : List (List Int)) : Prop :=
  ∃ bs : List Bs, Lst 30 F w A n c (bs.map Bs.val) ∧ bs.map Bs.xs = ms ∧ ∀ b ∈ bs, BsR w b.A b.n b.c b.xs ∧ 0 < b.n ∧ ∀ k, BlkOf b.A k → F k
section
variable {F F' : Nat → Prop} {w w' : World} {A : Option Addr} {n c : Nat} {ms : List (List Int)}
theorem SlB.below (h : SlB w A n c ms) (hb : Below w.heap.size w w') : SlB w' A n c ms := by
  obtain ⟨bs, h1, h2, h3⟩ := h
  exact ⟨bs, h1.below hb, h2, fun b hb' => (h3 b hb').below hb⟩
theorem SlB.len (h : SlB w A n c ms) : ms.length = n := by
  obtain ⟨bs, h1, h2, h3⟩ := h
  have := h1.1
  rw [← h2]
  simpa using this
theorem SlB.at (h : SlB w A n c ms) {i : Nat} (hi : i < n) : ∃ (g o : Nat) (b : Bs), A = some ⟨g, o, none⟩ ∧ w.cell? ⟨g, o + i, none⟩ = some (.slice b.A b.n b.c) ∧ Rd .u8 w b.A b.n b.c b.xs ∧ ms[i]? = some b.xs := by
  obtain ⟨bs, h1, h2, h3⟩ := h
  have hl : i < bs.length := by have := h1.1; simp at this; omega
  obtain ⟨g, o, hA, hg, hx⟩ := h1.2.2.2.2.2 (by omega)
  refine ⟨g, o, bs[i], hA, ?_, h3 _ (List.getElem_mem _), by rw [← h2]; simp [hl]⟩
  rw [hx i hi]
  simp [hl, Bs.val]
theorem Pts.rd (h : Pts F w A n c ms) : SlB w A n c ms := by
  obtain ⟨bs, h1, h2, h3⟩ := h
  exact ⟨bs, h1.rdv, h2, fun b hb => (h3 b hb).1.1⟩
theorem Pts.nil (F : Nat → Prop) (w : World) : Pts F w none 0 0 [] := ⟨[], Lst.nil _ _ _, rfl, by simp⟩
theorem Pts.mono (h : Pts F w A n c ms) (hF : ∀ k, F k → F' k) : Pts F' w A n c ms := by
  obtain ⟨bs, h1, h2, h3⟩ := h
  exact ⟨bs, h1.mono hF, h2, fun b hb => ⟨(h3 b hb).1, (h3 b hb).2.1, fun k hk => hF k ((h3 b hb).2.2 k hk)⟩⟩
theorem Pts.same (h : Pts F w A n c ms) (hs : w.heap.size ≤ w'.heap.size) (hb : ∀ k, F k → (Tyd 5 w k ∨ Tyd 30 w k) → w'.heap[k]? = w.heap[k]?) : Pts F w' A n c ms := by
  obtain ⟨bs, h1, h2, h3⟩ := h
  refine ⟨bs, h1.same fun ad he => hb _ (h1.blk ad he).1 (.inr (h1.tyd _ ⟨ad, he, rfl⟩)), h2, fun b hb' => ?_⟩
  obtain ⟨k1, k2, k3⟩ := h3 b hb'
  exact ⟨k1.keep hs fun ad he => hb _ (k3 _ ⟨ad, he, rfl⟩) (.inl (k1.2 _ ⟨ad, he, rfl⟩)), k2, k3⟩
theorem Pts.below (h : Pts F w A n c ms) (hb : Below w.heap.size w w') : Pts F w' A n c ms := h.same hb.size fun k _ ht => hb.block k (by
  rcases ht with ⟨cur, fz, h1⟩ | ⟨cur, fz, h1⟩ <;> exact (Array.getElem?_eq_some_iff.1 h1).1)
theorem Pts.st (h : Pts F w A n c ms) {G : Nat → Prop} (hs : St G w w') (hG : Sep F G) : Pts F w' A n c ms := h.same hs.size fun k hf ht => hs.block k (by
  rcases ht with ⟨cur, fz, h1⟩ | ⟨cur, fz, h1⟩ <;> exact (Array.getElem?_eq_some_iff.1 h1).1) (hG k hf)
theorem Pts.len (h : Pts F w A n c ms) : ms.length = n := h.rd.len
theorem Pts.pos (h : Pts F w A n c ms) : ∀ xs ∈ ms, xs ≠ [] := by
  obtain ⟨bs, h1, h2, h3⟩ := h
  intro xs hx
  rw [← h2] at hx
  obtain ⟨b, hb, rfl⟩ := List.mem_map.1 hx
  obtain ⟨k1, k2, k3⟩ := h3 b hb
  have := k1.1.1
  intro e
  rw [e] at this
  simp at this
  omega
/-- Part i. -/
theorem Pts.at (h : Pts F w A n c ms) {i : Nat} (hi : i < n) : ∃ (g o : Nat) (b : Bs), A = some ⟨g, o, none⟩ ∧ w.cell? ⟨g, o + i, none⟩ = some (.slice b.A b.n b.c) ∧ BsR w b.A b.n b.c b.xs ∧ 0 < b.n ∧ ms[i]? = some b.xs := by
  obtain ⟨bs, h1, h2, h3⟩ := h
  have hl : i < bs.length := by have := h1.1; simp at this; omega
  obtain ⟨g, o, hA, hg, hx⟩ := h1.rdv.2.2.2.2.2 (by omega)
  obtain ⟨k1, k2, k3⟩ := h3 bs[i] (List.getElem_mem _)
  refine ⟨g, o, bs[i], hA, ?_, k1, k2, by rw [← h2]; simp [hl]⟩
  rw [hx i hi]
  simp [hl, Bs.val]
/-- One part more. -/
theorem Pts.app {W W1 w2 : World} {b : Bs} {bs : List Bs} {v : Value} (h1 : Lst 30 F W A n c (bs.map Bs.val)) (h2 : bs.map Bs.xs = ms) (h3 : ∀ b ∈ bs, BsR W b.A b.n b.c b.xs ∧ 0 < b.n ∧ ∀ k, BlkOf b.A k → F k)
    (hq : BsR W1 b.A b.n b.c b.xs) (hqn : 0 < b.n) (hqk : ∀ k, BlkOf b.A k → W.heap.size ≤ k) (hb : Below W.heap.size W W1)
    (hap : Apd 30 (BlkOf A) W1 v (bs.map Bs.val ++ [b.val]) w2) : ∃ A' n' c', v = .slice A' n' c' ∧ Pts (fun k => F k ∨ W.heap.size ≤ k) w2 A' n' c' (ms ++ [b.xs]) ∧ St (BlkOf A) W w2 := by
  obtain ⟨⟨A', n', c', rfl, hl'⟩, hst⟩ := hap
  have hnb : ∀ k, BlkOf A k → ¬ Tyd 5 W1 k := fun k hk => ((h1.below hb).tyd k hk).ne (by decide)
  refine ⟨A', n', c', rfl, ⟨bs ++ [b], ?_, by rw [List.map_append, h2]; rfl, fun q hq' => ?_⟩, (St.ext hb).trans hst (Gr.refl _ _)⟩
  · rw [List.map_append]
    refine hl'.mono ?_
    rintro k (⟨ad, rfl, rfl⟩ | hk)
    · exact .inl (h1.blk _ rfl).1
    · exact .inr (Nat.le_trans hb.size hk)
  · rcases List.mem_append.1 hq' with h | h
    · obtain ⟨k1, k2, k3⟩ := h3 q h
      exact ⟨BsR.stT (k1.below hb) hst hnb, k2, fun k hk => .inl (k3 k hk)⟩
    · obtain rfl : q = b := by simpa using h
      exact ⟨BsR.stT hq hst hnb, hqn, fun k hk => .inr (hqk k hk)⟩
end
theorem len_flat : ∀ ms : List (List Int), (∀ xs ∈ ms, xs ≠ []) → ms.length ≤ ms.flatten.length
  | [], _ => Nat.le_refl _
  | x :: r, h => by
    have ih := len_flat r fun xs hx => h xs (List.mem_cons_of_mem _ hx)
    have h1 : 0 < x.length := List.length_pos_iff.2 (h x (List.mem_cons_self ..))
    simp only [List.length_cons, List.flatten_cons, List.length_append]
    omega

/-! ### A Join -/
structure Jm where
  ps : List (List Int)
  N : Int
  T : Int
def Jm.fl (m : Jm) : List Int := m.ps.flatten
def Jm.op (m : Jm) : Nat := m.ps.flatten.length
/-- A Join in box g, its list of parts at (A, n, c). -/
structure JnA (F : Nat → Prop) (w : World) (g : Nat) (m : Jm) (A : Option Addr) (n c : Nat) : Prop where
  bk : Bk w 130 g [.int .i64 m.op, .int .i64 m.N, .int .i64 m.T, .slice A n c, .bool true]
  ls : Pts F w A n c m.ps
  fg : F g
  lt : ∀ k, F k → k < w.heap.size
  le : m.op ≤ 65536
def JnC (F : Nat → Prop) (w : World) (g : Nat) (m : Jm) : Prop := ∃ A n c, JnA F w g m A n c
section
variable {F F' : Nat → Prop} {w w' : World} {g : Nat} {m : Jm} {A : Option Addr} {n c : Nat}
theorem JnA.below (h : JnA F w g m A n c) (hb : Below w.heap.size w w') : JnA F w' g m A n c := ⟨h.bk.below hb, h.ls.below hb, h.fg, fun k hk => Nat.lt_of_lt_of_le (h.lt k hk) hb.size, h.le⟩
theorem JnA.st (h : JnA F w g m A n c) {G : Nat → Prop} (hs : St G w w') (hG : Sep F G) : JnA F w' g m A n c := ⟨h.bk.st hs (hG g h.fg), h.ls.st hs hG, h.fg, fun k hk => Nat.lt_of_lt_of_le (h.lt k hk) hs.size, h.le⟩
theorem JnC.below (h : JnC F w g m) (hb : Below w.heap.size w w') : JnC F w' g m := by
  obtain ⟨A, n, c, h⟩ := h
  exact ⟨A, n, c, h.below hb⟩
theorem JnC.st (h : JnC F w g m) {G : Nat → Prop} (hs : St G w w') (hG : Sep F G) : JnC F w' g m := by
  obtain ⟨A, n, c, h⟩ := h
  exact ⟨A, n, c, h.st hs hG⟩
theorem JnC.lt (h : JnC F w g m) : ∀ k, F k → k < w.heap.size := by
  obtain ⟨A, n, c, h⟩ := h
  exact h.lt
theorem JnA.many (h : JnA F w g m A n c) : n ≤ m.op := by
  have := len_flat m.ps h.ls.pos
  rw [h.ls.len] at this
  exact this
end
end Go.Proofs.Ytmmjhijgedboiaa
