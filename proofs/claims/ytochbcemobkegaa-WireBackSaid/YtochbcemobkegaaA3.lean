/- What adds bytes to a pair of sums, any bytes; the objects made of pairs. -/
import Derived.Test.YtochbcemobkegaaA2
set_option linter.unusedSimpArgs false
set_option linter.unusedVariables false
namespace Go.Proofs.Ytochbcemobkegaa
open Go.RowKit Go.Shelf
attribute [local go_sem] Oper.semAt_some

set_option maxRecDepth 100000 in
set_option maxHeartbeats 4000000 in
theorem add_none (g T : Nat) (a b : Int) (r : List Value) (A : Option Addr) (c : Nat) (w : World) (hp : Bk w T g (pr a b r)) (ha : 0 ≤ a ∧ a < 65521) (hb : 0 ≤ b ∧ b < 65521) :
    Calls Try.prog 47 #[.pointer (some ⟨g, 0, none⟩), .slice A 0 c] w fun e w' => (∃ v, e = .returned v) ∧ Bk w' T g (pr (adA a b []) (adB a b []) r) ∧ Wr g w w' := by
  refine (callsIn_wide (n := 5)).1 ?_
  refine callsIn_of_wp_marks Try.func47 rfl trivial ?_ rfl
  simp only [Try.ntmps47, List.size_toArray, List.length_cons, List.length_nil, Nat.reduceAdd, Nat.reduceSub, Array.replicate_succ, Array.replicate_zero, List.push_toArray, List.append_toArray, List.nil_append, List.cons_append]
  gi_wp2
  refine ⟨trivial, (chunk_any A 0 c _ _).mono ?_⟩
  rintro e w' ⟨rfl, rfl⟩
  gi_wp2
  obtain ⟨W0, hW0⟩ : ∃ W0, W0 = ((w.alloc (.cells #[.pointer (some ⟨g, 0, none⟩)] 82)).alloc (.cells #[.slice A 0 c] 23)).alloc (.cells #[.int .i64 65536] 3) := ⟨_, rfl⟩
  have hs0 : W0.heap.size = w.heap.size + 3 := by rw [hW0]; simp
  have hb0 : Below w.heap.size w W0 := by rw [hW0]; exact (((Below.refl _ w).alloc (Nat.le_refl _) _).alloc (by simp) _).alloc (by simp; omega) _
  have p0 : Bk W0 82 w.heap.size [.pointer (some ⟨g, 0, none⟩)] := by rw [hW0]; exact ((Bk.new w 82 [.pointer (some ⟨g, 0, none⟩)]).alloc _).alloc _
  have p1 : W0.cell? ⟨w.heap.size + 1, 0, none⟩ = some (.slice A 0 c) := by
    have := ((Bk.new (w.alloc (.cells #[.pointer (some ⟨g, 0, none⟩)] 82)) 23 [.slice A 0 c]).alloc (.cells #[.int .i64 65536] 3)).cell 0 rfl
    rw [hW0]; simpa using this
  have p2 : W0.cell? ⟨w.heap.size + 2, 0, none⟩ = some (.int .i64 65536) := by
    have := (Bk.new ((w.alloc (.cells #[.pointer (some ⟨g, 0, none⟩)] 82)).alloc (.cells #[.slice A 0 c] 23)) 3 [.int .i64 65536]).cell 0 rfl
    rw [hW0]; simpa using this
  rw [← hW0]
  have hg := hp.lt
  refine wpIn_rangeFunc_ownF rfl (by decide) (gf := 59) (lb := #[.pointer (some ⟨w.heap.size + 1, 0, none⟩), .pointer (some ⟨w.heap.size + 1 + 1, 0, none⟩)]) rfl trivial (enters_of Try.func59 (by kernel_rfl) rfl)
    (chunk1_none (5 - 1) (w.heap.size + 1) (w.heap.size + 1 + 1) A c W0 (by omega) p1) KpB.trans (KpB.put (by omega) (by omega)) (Below.refl _ _) (fun _ => rfl)
    (AddI T g a b r [] w) (fun _ _ _ => False) (addI_own (by omega) hg) (fun _ _ _ _ _ hs _ _ => hs) ⟨hp.keep hb0 hg, Wr.of_below hb0, p0, by omega⟩
    (fun _ => { tmps := #[.pointer (some ⟨g, 0, none⟩), .slice A 0 c, .pointer (some ⟨w.heap.size, 0, none⟩), undef, .slice A 0 0, undef, undef, undef, undef, .slice A 0 c, .func (.func 59) #[] #[.pointer (some ⟨w.heap.size + 1, 0, none⟩), .pointer (some ⟨w.heap.size + 1 + 1, 0, none⟩)], .slice A 0 0, undef, undef, undef, undef, undef, undef, undef, undef, undef, undef, undef, undef, undef, undef, undef, undef, undef, undef, undef, undef, undef, undef, undef, undef, undef, undef, undef, undef, undef, undef, undef, undef], defers := [] }) ?assign ?body ?done ?stop
  case assign =>
    intro l x W K hK
    gi_wp2
    exact hK
  case body =>
    rintro l pre x W _ hpre
    omega
  case done =>
    rintro D ys W hD rfl ⟨h1, h2, h3, h4⟩ hK
    gi_wp2
    refine ⟨by simp, .inl ⟨_, _, rfl, run_takeDeferred hK, ?_⟩⟩
    rw [show adA a b [] = a from Int.emod_eq_of_lt ha.1 ha.2, show adB a b [] = b from Int.emod_eq_of_lt hb.1 hb.2]
    refine ⟨_, results_none rfl _ _ _, ⟨_, rfl⟩, (World.putObj_heap_other (by omega)).trans h1, h2.os, h2.tape, h2.output, by have := h2.size; simp [World.putObj]; omega, fun k hk hn => (World.putObj_heap_other (by omega)).trans (h2.block k hk hn)⟩
  case stop =>
    rintro D c' pre W hD _ h _
    exact h.elim

theorem add_any (g T : Nat) (a b : Int) (r : List Value) (A : Option Addr) (n c : Nat) (xs : List Int) (w : World) (hp : Bk w T g (pr a b r)) (ha : 0 ≤ a ∧ a < 65521) (hb : 0 ≤ b ∧ b < 65521)
    (h : Rd .u8 w A n c xs) (hA : 0 < n → ∀ ad, A = some ad → ad.block ≠ g) (hn6 : n ≤ 65536) :
    Calls Try.prog 47 #[.pointer (some ⟨g, 0, none⟩), .slice A n c] w fun e w' => (∃ v, e = .returned v) ∧ Bk w' T g (pr (adA a b xs) (adB a b xs) r) ∧ Wr g w w' := by
  rcases Nat.eq_zero_or_pos n with rfl | hn
  · obtain rfl : xs = [] := List.eq_nil_of_length_eq_zero h.1
    exact add_none g T a b r A c w hp ha hb
  · exact add_some g T a b r A n c xs w hp ha hb h (hA hn) hn hn6
end Go.Proofs.Ytochbcemobkegaa
