/- Words. -/
import Derived.Test.YtochbcemobkegaaW13
set_option linter.unusedSimpArgs false
set_option linter.unusedVariables false
namespace Go.Proofs.Ytochbcemobkegaa
open Go.RowKit Go.Shelf

theorem alloc_pk {k : IntKind} {W : World} {A : Option Addr} {n c : Nat} {xs : List Int} (h : Rd k W A n c xs) : Bk (W.alloc (.cells ([.int .i64 0, .int .i64 0, .int .i64 0, .int .i64 0, .int .i64 0, .int .i64 0, .int .i64 0, .int .i64 0, .slice none 0 0]).toArray 25)) 25 W.heap.size [.int .i64 0, .int .i64 0, .int .i64 0, .int .i64 0, .int .i64 0, .int .i64 0, .int .i64 0, .int .i64 0, .slice none 0 0] ∧ Below W.heap.size W (W.alloc (.cells ([.int .i64 0, .int .i64 0, .int .i64 0, .int .i64 0, .int .i64 0, .int .i64 0, .int .i64 0, .int .i64 0, .slice none 0 0]).toArray 25)) :=
  ⟨Bk.new W 25 _, (Below.refl _ _).alloc (Nat.le_refl _) _⟩
theorem rd_set {k : IntKind} {w : World} {A : Option Addr} {n c : Nat} {xs : List Int} (h : Rd k w A n c xs) {g i : Nat} {u : Value} (hA : 0 < n → ∀ ad, A = some ad → ad.block < g) : Rd k (w.setCell ⟨g, i, none⟩ u) A n c xs :=
  h.wr' (fun hm ad he => by have := hA hm ad he; omega) (Wr.set w g i u)
theorem rd_at {W : World} {g o n c : Nat} {bs : List Int} (h : Rd .u8 W (some ⟨g, o, none⟩) n c bs) (i : Nat) (hi : i < n) : W.cell? ⟨g, o + i, none⟩ = some (.int .u8 (bs.getD i 0)) := by
  obtain ⟨g', o', he, _, hx⟩ := h.2.2.2.2.2 (by omega)
  injection he with he
  injection he with e1 e2 _
  subst e1 e2
  exact hx i hi
end Go.Proofs.Ytochbcemobkegaa
