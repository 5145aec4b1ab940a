import Derived.Test.YtcmakhkbkfkhkaaO2
namespace Go.Proofs.Ytcmakhkbkfkhkaa
open Go.RowKit
theorem drop_rep (n : Nat) (xs : List Int) (h : xs.length = n) : xs ++ (List.replicate (n : Int).toNat (0 : Int)).drop xs.length = xs := by
  rw [List.drop_eq_nil_of_le (by simp [h])]; simp

theorem own_empty (w : World) : Ow .u8 5 w.heap.size (w.alloc (.cells #[] 5)) (.slice (some ⟨w.heap.size, 0, none⟩) 0 0) [] :=
  ⟨rfl, .inr ⟨w.heap.size, 0, _, rfl, Nat.le_refl _, heap_alloc_new w _, Nat.le_refl _, by decide, by decide, rfl⟩⟩

end Go.Proofs.Ytcmakhkbkfkhkaa
