/- Rows of parts for Adler's sum. -/
import Derived.Test.YtochbcemobkegaaA5
set_option linter.unusedSimpArgs false
set_option linter.unusedVariables false
namespace Go.Proofs.Ytochbcemobkegaa
open Go.RowKit Go.Shelf
theorem Pts.lit (w : World) (ps : List Pt) (hl : ps.length ≤ 1000) (h : ∀ p ∈ ps, Rd .u8 w p.A p.n p.c p.xs ∧ p.n ≤ 65536) :
    Pts (w.alloc (.cells (ps.map fun p => Value.slice p.A p.n p.c).toArray 23)) (some ⟨w.heap.size, 0, none⟩) ps.length ps := by
  refine ⟨rfl, hl, fun i hi => ⟨⟨w.heap.size, 0, rfl, by simp, ?_⟩, (h _ (List.getElem_mem hi)).1.alloc _, (h _ (List.getElem_mem hi)).2⟩⟩
  rw [cell_of_row _ _ _ _ _ _ (heap_alloc_new w _)]
  simp [hi]
theorem Pts.one {w : World} {A : Option Addr} {n c : Nat} {xs : List Int} (h : Rd .u8 w A n c xs) (hn : n ≤ 65536) :
    Pts (w.alloc (.cells #[.slice A n c] 23)) (some ⟨w.heap.size, 0, none⟩) 1 [⟨A, n, c, xs⟩] :=
  Pts.lit w [⟨A, n, c, xs⟩] (by simp) (by simpa using ⟨h, hn⟩)
theorem cat_one (A : Option Addr) (n c : Nat) (xs : List Int) : cat [⟨A, n, c, xs⟩] = xs := by simp [cat]
theorem Pts.one' {w : World} {g : Nat} {A : Option Addr} {n c : Nat} {xs : List Int} (h : Rd .u8 w A n c xs) (hg : g = w.heap.size) (hn : n ≤ 65536) :
    Pts (w.alloc (.cells #[.slice A n c] 23)) (some ⟨g, 0, none⟩) 1 [⟨A, n, c, xs⟩] := by subst hg; exact Pts.one h hn
theorem Pts.two {w : World} {g : Nat} {A : Option Addr} {n c : Nat} {xs : List Int} {B : Option Addr} {m d : Nat} {ys : List Int} (h : Rd .u8 w A n c xs) (k : Rd .u8 w B m d ys) (hg : g = w.heap.size) (hn : n ≤ 65536) (hm : m ≤ 65536) :
    Pts (w.alloc (.cells #[.slice A n c, .slice B m d] 23)) (some ⟨g, 0, none⟩) 2 [⟨A, n, c, xs⟩, ⟨B, m, d, ys⟩] := by
  subst hg
  refine Pts.lit w [⟨A, n, c, xs⟩, ⟨B, m, d, ys⟩] (by simp) (fun p hp => ?_)
  simp at hp
  rcases hp with rfl | rfl
  · exact ⟨h, hn⟩
  · exact ⟨k, hm⟩
theorem cat_two (A : Option Addr) (n c : Nat) (xs : List Int) (B : Option Addr) (m d : Nat) (ys : List Int) : cat [⟨A, n, c, xs⟩, ⟨B, m, d, ys⟩] = xs ++ ys := by simp [cat]
theorem onV_bd (s : Int) (l : List Int) : 0 ≤ onV s l ∧ onV s l < 4294967296 := by
  unfold onV sm
  obtain ⟨⟨h1, h2⟩, h3, h4⟩ := ad_lt (s % 65536 % 65521) (s / 65536 % 65521) l
  omega
end Go.Proofs.Ytochbcemobkegaa
