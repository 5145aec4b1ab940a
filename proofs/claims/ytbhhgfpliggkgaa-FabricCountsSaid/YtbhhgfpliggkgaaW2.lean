/- What ports make of a packet, and how long it is. -/
import Derived.Test.YtbhhgfpliggkgaaW1
set_option linter.unusedSimpArgs false
set_option linter.unusedVariables false
namespace Go.Proofs.Ytbhhgfpliggkgaa
open Go.RowKit Go.Shelf

def isdB (h : Hd) (n : Int) : Bool := h.kd == 1 && chkB h n
set_option maxHeartbeats 1000000 in
theorem isd_any (kd fl pa sr ds cn sq pu : Int) (A : Option Addr) (n c : Nat) (w : World) (hf : fl ≤ 9223372036854775807) : Calls Try.prog 76 #[.agg #[.int .i64 kd, .int .i64 fl, .int .i64 pa, .int .i64 sr, .int .i64 ds, .int .i64 cn, .int .i64 sq, .int .i64 pu, .slice A n c]] w fun e w' => e = .returned (.bool (isdB ⟨kd, fl, pa, sr, ds, cn, sq, pu⟩ n)) ∧ Below w.heap.size w w' := by
  unfold isdB
  dsimp only
  have HK := Lib.hid (fun w => check_any 1 fl pa sr ds cn sq pu A n c w hf)
  by_cases hk : kd = 1
  · subst hk
    generalize chkB ⟨1, fl, pa, sr, ds, cn, sq, pu⟩ n = b at *
    cases b
    all_goals
      go_enter Try.func76, Try.ntmps76
      go_wp2_with (go_at_call 74; refine (HK.out _).mono ?_; rintro e w1 ⟨rfl, hb1⟩; obtain ⟨hp1, hc1⟩ := pk_new hb1; clear hb1; unfold errV)
      go_ret
      exact ⟨by simp, by assumption⟩
  · have hk' : (kd == 1) = false := by simpa using hk
    go_enter Try.func76, Try.ntmps76
    go_wp2
    go_ret
    exact ⟨by simp [hk'], (Below.refl _ _).alloc (Nat.le_refl _) _⟩
def szV (h : Hd) (n : Int) : Int := if chkB h n then 36 + n else 0
theorem pk_new2 {w w1 : World} {vs vs' : List Value} (hb : Below ((w.alloc (.cells vs.toArray 65)).alloc (.cells vs'.toArray 65)).heap.size ((w.alloc (.cells vs.toArray 65)).alloc (.cells vs'.toArray 65)) w1) :
    Bk w1 65 w.heap.size vs ∧ Bk w1 65 (w.heap.size + 1) vs' ∧ Below w.heap.size w w1 :=
  ⟨((Bk.new w 65 vs).alloc _).below hb, by have h := (Bk.new (w.alloc (.cells vs.toArray 65)) 65 vs').below hb; simpa using h, (((Below.refl _ _).alloc (Nat.le_refl _) _).alloc (by simp) _).trans (hb.mono (by simp; omega))⟩
theorem own_set {k : IntKind} {e : TypeId} {base : Nat} {w : World} {v u : Value} {xs : List Int} (h : Ow k e base w v xs) {p : Addr} (hp : p.block < base) : Ow k e base (w.setCell p u) v xs := by
  refine ⟨h.1, ?_⟩
  rcases h.2 with hn | ⟨b, cap, cur, hv, hb, hh, r⟩
  · exact .inl hn
  · exact .inr ⟨b, cap, cur, hv, hb, (Below.heap_setCell _ _ _ _ (by omega)).trans hh, r⟩
theorem own_rd {e : TypeId} {base : Nat} {w : World} {A : Option Addr} {n c : Nat} {xs : List Int} (h : Ow .u8 e base w (.slice A n c) xs) (hwf : ∀ x ∈ xs, (Lit.int .u8 x).wf = true) : Rd .u8 w A n c xs := by
  obtain ⟨A', c', h1, h2⟩ := h.rd hwf
  injection h1 with e1 e2 e3
  subst e1 e2 e3
  exact h2
/-- A packet is stored whole. -/
theorem pk_store {w : World} {g : Nat} {v0 v1 v2 v3 v4 v5 v6 v7 v8 : Value} (u0 u1 u2 u3 u4 u5 u6 u7 u8 : Value) (h : Bk w 65 g [v0, v1, v2, v3, v4, v5, v6, v7, v8]) :
    ∃ W, (((((((((w.setCell ⟨g, 0, none⟩ u0).setCell ⟨g, 1, none⟩ u1).setCell ⟨g, 2, none⟩ u2).setCell ⟨g, 3, none⟩ u3).setCell ⟨g, 4, none⟩ u4).setCell ⟨g, 5, none⟩ u5).setCell ⟨g, 6, none⟩ u6).setCell ⟨g, 7, none⟩ u7).setCell ⟨g, 8, none⟩ u8) = W ∧ Bk W 65 g [u0, u1, u2, u3, u4, u5, u6, u7, u8] ∧ (∀ B, B ≤ g → Below B w W) ∧ (∀ g' t' vs', g' ≠ g → Bk w t' g' vs' → Bk W t' g' vs') ∧ (∀ base v xs, g < base → Ow .u8 5 base w v xs → Ow .u8 5 base W v xs) ∧ W.heap.size = w.heap.size ∧ Wr g w W := by
  refine ⟨_, rfl, ?_, ?_, ?_, ?_, ?_, ?_⟩
  · exact ((((((((h.set 0 u0).set 1 u1).set 2 u2).set 3 u3).set 4 u4).set 5 u5).set 6 u6).set 7 u7).set 8 u8
  · intro B hB
    repeat (first | with_reducible refine Below.setCell ?_ (by exact hB) _ | with_reducible exact Below.refl _ _)
  · intro g' t' vs' hg hk
    repeat (first | with_reducible exact hk | refine Bk.far ?_ (by exact hg) _)
  · intro base v xs hb ho
    repeat (first | with_reducible refine own_set ?_ (by exact hb) | with_reducible exact ho)
  · simp [World.setCell]
  · have hs : ∀ (W : World) i u, W.heap.size = w.heap.size → Wr g w W → Wr g w (W.setCell ⟨g, i, none⟩ u) := fun W i u he hW => hW.trans (Wr.set W g i u) (by omega)
    repeat (first | with_reducible exact Wr.refl _ _ | refine hs _ _ _ (by simp [World.setCell]) ?_)
set_option maxHeartbeats 1000000 in
/-- The same packet with a payload of its own. -/
theorem alike_any (kd fl pa sr ds cn sq pu : Int) (A : Option Addr) (n c : Nat) (xs : List Int) (w : World) (h : Rd .u8 w A n c xs) (hn : n ≤ 70368744177664) :
    Calls Try.prog 78 #[.agg #[.int .i64 kd, .int .i64 fl, .int .i64 pa, .int .i64 sr, .int .i64 ds, .int .i64 cn, .int .i64 sq, .int .i64 pu, .slice A n c]] w fun e w' => ∃ A' c', e = .returned (.agg #[.int .i64 kd, .int .i64 fl, .int .i64 pa, .int .i64 sr, .int .i64 ds, .int .i64 cn, .int .i64 sq, .int .i64 pu, .slice A' n c']) ∧ Ow .u8 5 w.heap.size w' (.slice A' n c') xs ∧ Below w.heap.size w w' := by
  have hwf := Lib.hid h.2.2.2.2.1
  have hl := Lib.hid h.1
  go_enter Try.func78, Try.ntmps78
  go_wp2_with fail
  refine (clone_any A n c xs _ (by exact (h.alloc _).alloc _) hn).mono ?_
  rintro e w1 ⟨v, rfl, hown, hb1⟩
  have HO : ∃ A' c', v = .slice A' n c' := by obtain ⟨A', c', h1, _⟩ := hown.rd hwf.out; exact ⟨A', c', by rw [h1, hl.out]⟩
  obtain ⟨A', c', rfl⟩ := HO
  obtain ⟨hx, hy, hc⟩ := pk_new2 hb1
  obtain ⟨c0, c1, c2, c3, c4, c5, c6, c7, c8⟩ := hx.cells9
  obtain ⟨d0, d1, d2, d3, d4, d5, d6, d7, d8⟩ := hy.cells9
  have f1 := fun i => hx.free i
  have f2 := fun i => hy.free i
  have HW := Lib.hid hown
  clear hown hb1
  go_wp2
  refine bodyPost_ret (v := .agg #[.int .i64 kd, .int .i64 fl, .int .i64 pa, .int .i64 sr, .int .i64 ds, .int .i64 cn, .int .i64 sq, .int .i64 pu, .slice A' n c']) (by simp [results, Try.results78, go_sem, *]) rfl ⟨A', c', rfl, ?_, ?_⟩
  · have hown := HW.out
    refine Ow.mono (base := w.heap.size + 2) ?_ (by omega)
    simp only [World.size_alloc, Nat.add_assoc, Nat.reduceAdd] at hown
    repeat (first | with_reducible refine own_set ?_ (by simp) | with_reducible exact hown)
  · clear hx hy c0 c1 c2 c3 c4 c5 c6 c7 c8 d0 d1 d2 d3 d4 d5 d6 d7 d8 f1 f2 HW
    repeat (first | with_reducible refine Below.setCell ?_ (by simp) _ | with_reducible exact hc)
end Go.Proofs.Ytbhhgfpliggkgaa
