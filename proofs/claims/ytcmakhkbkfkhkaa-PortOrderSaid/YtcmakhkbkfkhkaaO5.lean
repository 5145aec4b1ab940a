import Derived.Test.YtcmakhkbkfkhkaaO4
namespace Go.Proofs.Ytcmakhkbkfkhkaa
open Go.RowKit
theorem Rd.wr {k : IntKind} {w w' : World} {A : Option Addr} {n c : Nat} {xs : List Int} (h : Rd k w A n c xs) {g : Nat} (hA : ∀ ad, A = some ad → ad.block ≠ g) (hw : Wr g w w') : Rd k w' A n c xs := by
  obtain ⟨h1, h2, h3, h4, h5, h6⟩ := h
  refine ⟨h1, h2, h3, h4, h5, fun hn => ?_⟩
  obtain ⟨g', o, e, hg, hx⟩ := h6 hn
  refine ⟨g', o, e, by have := hw.size; omega, fun i hi => ?_⟩
  rw [World.cell?_of_block (hw.block g' hg (by intro e'; injection e' with e'; exact hA _ e e'))]
  exact hx i hi
theorem cutA_block {A : Option Addr} {c k g : Nat} (h : ∀ ad, A = some ad → ad.block < g) : ∀ ad, cutA A c k = some ad → ad.block < g := by
  intro ad he
  unfold cutA at he
  split at he
  · exact h ad he
  · cases A with
    | none => simp at he
    | some x =>
      simp at he
      subst he
      have := h x rfl
      unfold Addr.add
      split <;> simpa using this

end Go.Proofs.Ytcmakhkbkfkhkaa
