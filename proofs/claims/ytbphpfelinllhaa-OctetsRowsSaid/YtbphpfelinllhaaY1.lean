/- The reference's reader. -/
import Derived.Test.YtbphpfelinllhaaX7
import Derived.RegionTactic
import Derived.ChangeAlike
namespace Go.Proofs.Ytbphpfelinllhaa
open Go.RowKit
/-- Block g, of type t, holds these two. -/
def B2 (w : World) (t : TypeId) (g : Nat) (v u : Value) : Prop := w.heap[g]? = some (.cells #[v, u] t (0, 0))
section
variable {w w' : World} {t : TypeId} {g : Nat} {v u : Value}
theorem B2.lt (h : B2 w t g v u) : g < w.heap.size := (Array.getElem?_eq_some_iff.1 h).1
theorem B2.c0 (h : B2 w t g v u) : w.cell? ⟨g, 0, none⟩ = some v := cell_of_row w g 0 _ _ _ h
theorem B2.c1 (h : B2 w t g v u) : w.cell? ⟨g, 1, none⟩ = some u := cell_of_row w g 1 _ _ _ h
theorem B2.free (h : B2 w t g v u) (i : Nat) : w.frozen? ⟨g, i, none⟩ = false := by
  unfold B2 at h
  simp [World.frozen?, h]
theorem B2.keep (h : B2 w t g v u) {B : Nat} (hb : Below B w w') (hB : g < B) : B2 w' t g v u := (hb.block g hB).trans h
theorem B2.new (w : World) (t : TypeId) (v u : Value) : B2 (w.alloc (.cells #[v, u] t)) t w.heap.size v u := heap_alloc_new w _
theorem B2.alloc (h : B2 w t g v u) (o : Obj) : B2 (w.alloc o) t g v u := h.keep ((Below.refl _ _).alloc (Nat.le_refl _) o) h.lt
theorem B2.set0 (h : B2 w t g v u) (x : Value) : B2 (w.setCell ⟨g, 0, none⟩ x) t g x u := by
  unfold B2 at h ⊢
  simp [World.setCell, Array.getElem?_modify, h]
theorem B2.set1 (h : B2 w t g v u) (x : Value) : B2 (w.setCell ⟨g, 1, none⟩ x) t g v x := by
  unfold B2 at h ⊢
  simp [World.setCell, Array.getElem?_modify, h]
theorem B2.far (h : B2 w t g v u) {p : Addr} (hp : g ≠ p.block) (x : Value) : B2 (w.setCell p x) t g v u := (Below.heap_setCell w p x g hp).trans h
end

theorem Rd.blk {k : IntKind} {w : World} {A : Option Addr} {n c : Nat} {xs : List Int} (h : Rd k w A n c xs) : 0 < n → ∀ ad, A = some ad → ad.block < w.heap.size := fun hn ad he => by
  obtain ⟨g, o, e, hg, _⟩ := h.2.2.2.2.2 hn
  rw [e] at he
  injection he with he
  subst he
  exact hg
theorem Rd.belowA {k : IntKind} {w w' : World} {A : Option Addr} {n c : Nat} {xs : List Int} (h : Rd k w A n c xs) {B : Nat} (hA : 0 < n → ∀ ad, A = some ad → ad.block < B) (hb : Below B w w') : Rd k w' A n c xs := by
  obtain ⟨h1, h2, h3, h4, h5, h6⟩ := h
  refine ⟨h1, h2, h3, h4, h5, fun hn => ?_⟩
  obtain ⟨g', o, e, hg, hx⟩ := h6 hn
  exact ⟨g', o, e, by have := hb.size; omega, fun i hi => (hb.cell (p := ⟨g', o + i, none⟩) (show g' < B from hA hn _ e)).trans (hx i hi)⟩

set_option maxHeartbeats 400000 in
theorem rtake_no (A : Option Addr) (n c : Nat) (bad : Bool) (k : Int) (w : World) (h : bad = true ∨ k < 0 ∨ (n : Int) < k) :
    Calls Try.prog 16 #[.agg #[.slice A n c, .bool bad], .int .i64 k] w fun e w' => e = .returned (.tuple #[.agg #[.slice none 0 0, .bool true], .slice none 0 0]) ∧ Below w.heap.size w w' := by
  cases bad with
  | true =>
    go_enter Try.func16, Try.ntmps16
    go_wp2
    refine bodyPost_ret (v := .tuple #[.agg #[.slice none 0 0, .bool true], .slice none 0 0]) (by simp [results, Try.results16, go_sem]) rfl ⟨rfl, ?_⟩
    repeat (first | exact Below.refl _ _ | refine Below.setCell ?_ (by simp) _ | refine Below.alloc ?_ (by simp) _)
  | false =>
    by_cases h0 : k < 0
    · clear h
      go_enter Try.func16, Try.ntmps16
      go_wp2
      refine bodyPost_ret (v := .tuple #[.agg #[.slice none 0 0, .bool true], .slice none 0 0]) (by simp [results, Try.results16, go_sem]) rfl ⟨rfl, ?_⟩
      repeat (first | exact Below.refl _ _ | refine Below.setCell ?_ (by simp) _ | refine Below.alloc ?_ (by simp) _)
    · have h1 : (n : Int) < k := by simpa [h0] using h
      clear h
      go_enter Try.func16, Try.ntmps16
      go_wp2
      refine bodyPost_ret (v := .tuple #[.agg #[.slice none 0 0, .bool true], .slice none 0 0]) (by simp [results, Try.results16, go_sem]) rfl ⟨rfl, ?_⟩
      repeat (first | exact Below.refl _ _ | refine Below.setCell ?_ (by simp) _ | refine Below.alloc ?_ (by simp) _)
set_option maxHeartbeats 400000 in
theorem rtake_yes (A : Option Addr) (n c : Nat) (k : Nat) (w : World) (hk : k ≤ n) (hn : n ≤ c) :
    Calls Try.prog 16 #[.agg #[.slice A n c, .bool false], .int .i64 k] w fun e w' => e = .returned (.tuple #[.agg #[.slice (cutA A c k) (n - k) (c - k), .bool false], .slice A k c]) ∧ Below w.heap.size w w' := by
  have hkc : k ≤ c := by omega
  have hcut := fun w => bytesT.run_cut A n c k hk hn w
  go_enter Try.func16, Try.ntmps16
  go_wp2
  go_region
  go_wp2
  refine bodyPost_ret (v := .tuple #[.agg #[.slice (cutA A c k) (n - k) (c - k), .bool false], .slice A k c]) (by simp [results, Try.results16, go_sem]) rfl ⟨rfl, ?_⟩
  repeat (first | exact Below.refl _ _ | refine Below.setCell ?_ (by simp) _ | refine Below.alloc ?_ (by simp) _ | refine Below.drew ?_)

set_option maxHeartbeats 400000 in
theorem rnum_yes (A : Option Addr) (n c : Nat) (xs : List Int) (k : Int) (w : World) (h : Rd .u8 w A n c xs) (hk : getB xs k = true) :
    Calls Try.prog 18 #[.agg #[.slice A n c, .bool false], .int .i64 k] w fun e w' => ∃ B m d, e = .returned (.tuple #[.agg #[.slice B m d, .bool false], .int .u64 (getN xs k)]) ∧ Rd .u8 w' B m d (getR xs k) ∧ Below w.heap.size w w' ∧ From A n B m := by
  go_enter Try.func18, Try.ntmps18
  go_wp2_with fail
  refine (rget_any A n c xs k _ (by exact (h.alloc _).alloc _)).mono ?_
  rintro e w1 ⟨B, m, d, rfl, hr, hb, hBA⟩
  rw [hk]
  have hx := ((B2.new w 40 (.slice A n c) (.bool false)).alloc (.cells #[.slice none 0 0, .bool false] 40)).keep hb (by simp; omega)
  have hy := (B2.new (w.alloc (.cells #[.slice A n c, .bool false] 40)) 40 (.slice none 0 0) (.bool false)).keep hb (by simp)
  rw [show (w.alloc (.cells #[.slice A n c, .bool false] 40)).heap.size = w.heap.size + 1 from by simp] at hy
  have hb' : Below w.heap.size w w1 := (((Below.refl _ _).alloc (Nat.le_refl _) _).alloc (by simp) _).trans (hb.mono (by simp; omega))
  have hs := hb.size
  simp at hs
  have f1 := hx.c1
  have f2 := hy.c0
  have f3 := hy.c1
  have f4 := hy.free 0
  have f5 := hy.free 1
  clear hx hy hb
  go_wp2
  refine bodyPost_ret (v := .tuple #[.agg #[.slice B m d, .bool false], .int .u64 (getN xs k)]) (by simp [results, Try.results18, go_sem, f2, f3, f4, f5]) rfl ⟨B, m, d, rfl, ?_, ?_, hBA⟩
  · exact hr.belowA (B := w.heap.size) (hBA.lt h.blk) (by repeat (first | exact Below.refl _ _ | refine Below.setCell ?_ (by simp) _))
  · repeat (first | exact hb' | refine Below.setCell ?_ (by simp) _)

set_option maxHeartbeats 400000 in
theorem rnum_no (A : Option Addr) (n c : Nat) (bad : Bool) (xs : List Int) (k : Int) (w : World) (h : Rd .u8 w A n c xs) (hk : bad = true ∨ getB xs k = false) :
    Calls Try.prog 18 #[.agg #[.slice A n c, .bool bad], .int .i64 k] w fun e w' => e = .returned (.tuple #[.agg #[.slice none 0 0, .bool true], .int .u64 0]) ∧ Below w.heap.size w w' := by
  go_enter Try.func18, Try.ntmps18
  go_wp2_with fail
  refine (rget_any A n c xs k _ (by exact (h.alloc _).alloc _)).mono ?_
  rintro e w1 ⟨B, m, d, rfl, hr, hb, -⟩
  have hx := ((B2.new w 40 (.slice A n c) (.bool bad)).alloc (.cells #[.slice none 0 0, .bool false] 40)).keep hb (by simp; omega)
  have hy := (B2.new (w.alloc (.cells #[.slice A n c, .bool bad] 40)) 40 (.slice none 0 0) (.bool false)).keep hb (by simp)
  rw [show (w.alloc (.cells #[.slice A n c, .bool bad] 40)).heap.size = w.heap.size + 1 from by simp] at hy
  have hb' : Below w.heap.size w w1 := (((Below.refl _ _).alloc (Nat.le_refl _) _).alloc (by simp) _).trans (hb.mono (by simp; omega))
  have f1 := hx.c1
  have f2 := hy.c0
  have f3 := hy.c1
  have f4 := hy.free 0
  have f5 := hy.free 1
  clear hx hy hb
  cases bad with
  | true =>
    clear hk
    go_wp2
    refine bodyPost_ret (v := .tuple #[.agg #[.slice none 0 0, .bool true], .int .u64 0]) (by simp [results, Try.results18, go_sem, f2, f3, f4, f5]) rfl ⟨rfl, ?_⟩
    repeat (first | exact hb' | refine Below.setCell ?_ (by simp) _)
  | false =>
    have hk' : getB xs k = false := by simpa using hk
    clear hk
    go_wp2
    refine bodyPost_ret (v := .tuple #[.agg #[.slice none 0 0, .bool true], .int .u64 0]) (by simp [results, Try.results18, go_sem, f2, f3, f4, f5]) rfl ⟨rfl, ?_⟩
    repeat (first | exact hb' | refine Below.setCell ?_ (by simp) _)
end Go.Proofs.Ytbphpfelinllhaa
