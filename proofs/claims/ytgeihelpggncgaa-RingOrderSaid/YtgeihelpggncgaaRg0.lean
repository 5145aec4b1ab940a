/- A ring in memory. -/
import Derived.Test.YtgeihelpggncgaaLst
set_option linter.unusedSimpArgs false
set_option linter.unusedVariables false
namespace Go.Proofs.Ytgeihelpggncgaa
open Go.RowKit Go.Shelf

/-- Block p holds a ring (its type: T) for room elements of type e, which are vs; all of it lies in the blocks of F. -/
def Rg (T e : TypeId) (F : Nat → Prop) (w : World) (p room : Nat) (vs : List Value) : Prop :=
  F p ∧ 0 < room ∧ room ≤ 1024 ∧ vs.length ≤ room ∧ ∃ A n c, Bk w T p [.int .i64 room, .slice A n c] ∧ Lst e F w A n c vs ∧ (∀ ad, A = some ad → ad.block ≠ p) ∧ ∀ k, F k → k < w.heap.size
/-- A ring that New did not make. -/
def NoRg (T : TypeId) (w : World) (P : Option Addr) : Prop := P = none ∨ ∃ p, P = some ⟨p, 0, none⟩ ∧ Bk w T p [.int .i64 0, .slice none 0 0]
section
variable {T e : TypeId} {F F' : Nat → Prop} {w w' : World} {p room : Nat} {vs : List Value}
theorem Rg.mono (h : Rg T e F w p room vs) (hF : ∀ k, F k → F' k) (hb : ∀ k, F' k → k < w.heap.size) : Rg T e F' w p room vs := by
  obtain ⟨h1, h2, h3, h4, A, n, c, h5, h6, h7, h8⟩ := h
  exact ⟨hF _ h1, h2, h3, h4, A, n, c, h5, h6.mono hF, h7, hb⟩
theorem Rg.st (h : Rg T e F w p room vs) {G : Nat → Prop} (hs : St G w w') (hG : ∀ k, F k → ¬ G k) : Rg T e F w' p room vs := by
  obtain ⟨h1, h2, h3, h4, A, n, c, h5, h6, h7, h8⟩ := h
  exact ⟨h1, h2, h3, h4, A, n, c, h5.st hs (hG _ h1), h6.st hs hG, h7, fun k hk => Nat.lt_of_lt_of_le (h8 k hk) hs.size⟩
theorem Rg.below (h : Rg T e F w p room vs) (hb : Below w.heap.size w w') : Rg T e F w' p room vs := by
  obtain ⟨h1, h2, h3, h4, A, n, c, h5, h6, h7, h8⟩ := h
  exact ⟨h1, h2, h3, h4, A, n, c, h5.below hb, h6.below hb, h7, fun k hk => Nat.lt_of_lt_of_le (h8 k hk) hb.size⟩
theorem Rg.lt (h : Rg T e F w p room vs) : p < w.heap.size := by
  obtain ⟨h1, h2, h3, h4, A, n, c, h5, h6, h7, h8⟩ := h
  exact h5.lt
theorem Rg.bd (h : Rg T e F w p room vs) : ∀ k, F k → k < w.heap.size := by
  obtain ⟨_, _, _, _, _, _, _, _, _, _, h8⟩ := h
  exact h8
theorem NoRg.below {P : Option Addr} (h : NoRg T w P) (hb : Below w.heap.size w w') : NoRg T w' P := by
  rcases h with h | ⟨p, h, h'⟩
  · exact .inl h
  · exact .inr ⟨p, h, h'.below hb⟩
/-- The ring holds these now; nothing else of what was there has changed. -/
def Did (T e : TypeId) (F : Nat → Prop) (p room : Nat) (vs : List Value) (w w' : World) : Prop := ∃ F', Rg T e F' w' p room vs ∧ St F w w' ∧ Gr F F' w.heap.size
theorem Did.refl (h : Rg T e F w p room vs) : Did T e F p room vs w w := ⟨F, h, St.refl _ _, Gr.refl _ _⟩
theorem Did.trans {us : List Value} {w1 : World} {F1 : Nat → Prop} (hs : St F w w1) (hg : Gr F F1 w.heap.size) (h : Did T e F1 p room us w1 w') : Did T e F p room us w w' := by
  obtain ⟨F', h1, h2, h3⟩ := h
  exact ⟨F', h1, hs.trans h2 hg, hg.trans h3 hs.size⟩
end
/-- What an append to a ring's list, and the list's laying down, leave of the ring. -/
theorem Rg.stored {T e : TypeId} {F : Nat → Prop} {w w1 : World} {p room : Nat} {A : Option Addr} {n c : Nat} {vs us : List Value} {l : Value} (hp : F p) (h0 : 0 < room) (h1 : room ≤ 1024) (hl : us.length ≤ room)
    (h5 : Bk w T p [.int .i64 room, .slice A n c]) (h6 : Lst e F w A n c vs) (h7 : ∀ ad, A = some ad → ad.block ≠ p) (h8 : ∀ k, F k → k < w.heap.size) (ha : Apd e (BlkOf A) w l us w1) : Did T e F p room us w (w1.setCell ⟨p, 1, none⟩ l) := by
  obtain ⟨⟨A', n', c', rfl, hl'⟩, hst⟩ := ha
  have hne : ∀ ad, A' = some ad → ad.block ≠ p := by
    intro ad he
    rcases (hl'.blk ad he).1 with ⟨ad0, h, h'⟩ | h
    · rw [← h']; exact h7 _ h
    · have := h5.lt; omega
  have hpA : ¬ BlkOf A p := fun ⟨ad, h, h'⟩ => h7 ad h h'
  have hl2 : Lst e (fun k => (F k ∨ w.heap.size ≤ k) ∧ k < w1.heap.size) w1 A' n' c' us := by
    refine hl'.tight.mono ?_
    rintro k ⟨ad, h, rfl⟩
    refine ⟨?_, (hl'.blk _ h).2⟩
    rcases (hl'.blk _ h).1 with ⟨ad0, h', e'⟩ | h'
    · rw [← e']; exact .inl (h6.blk _ h').1
    · exact .inr h'
  refine ⟨fun k => (F k ∨ w.heap.size ≤ k) ∧ k < w1.heap.size, ⟨⟨.inl hp, Nat.lt_of_lt_of_le (h8 _ hp) hst.size⟩, h0, h1, hl, A', n', c', (h5.st hst hpA).set 1 _, hl2.far (fun ad he => hne ad he) _, hne, fun k hk => by simpa [World.setCell] using hk.2⟩, ?_, fun k hk => hk.1⟩
  · refine (hst.mono ?_).trans (St.setCell w1 (a := ⟨p, 1, none⟩) hp _) (Gr.refl _ _)
    rintro k _ ⟨ad, h, rfl⟩
    exact (h6.blk _ h).1
end Go.Proofs.Ytgeihelpggncgaa
