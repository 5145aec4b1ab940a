/- The page's example. -/
import Derived.Test.YtgeihelpggncgaaL1
set_option linter.unusedSimpArgs false
set_option linter.unusedVariables false
namespace Go.Proofs.Ytgeihelpggncgaa
open Go.RowKit Go.Shelf

set_option maxRecDepth 100000 in
set_option maxHeartbeats 1000000 in
theorem awake_any (w : World) : Calls Try.prog 9 #[] w fun e w' => e = .returned (.bool true) ∧ Below w.heap.size w w' := by
  go_enter Try.func9, Try.ntmps9
  go_wp2_with fail
  refine (Rgint.new_ok 3 w (by decide) (by decide)).mono ?_
  rintro e w1 ⟨rfl, hr1, hb1⟩
  have hu1 := RdV.lit w1 3 [.int .i64 1, .int .i64 2, .int .i64 3] (by simp [Value.oneCell']) (by simp)
  have hr1' := hr1.below ((Below.refl _ w1).alloc (Nat.le_refl _) (.cells #[.int .i64 1, .int .i64 2, .int .i64 3] 3))
  have hs1 := hb1.size
  have hlt := hr1.lt
  go_wp2_with fail
  refine (Rgint.push_ok _ w.heap.size 3 [] _ _ 3 3 _ (by exact hr1') (by exact hu1) (by rintro - ad he; injection he with he; subst he; simp; omega) (by decide)).mono ?_
  rintro e w2 ⟨rfl, F2, hr2, hst2, hg2⟩
  go_wp2_with fail
  have h3 : Calls Try.prog 17 #[.pointer (some ⟨w.heap.size, 0, none⟩), .int .i64 (-1)] w2 fun e w' => e = .returned (.int .i64 2) ∧ Did 60 3 F2 w.heap.size 3 [.int .i64 3, .int .i64 1, .int .i64 2] w2 w' := Rgint.rot_any F2 w.heap.size 3 [.int .i64 1, .int .i64 2, .int .i64 3] (-1) w2 (by exact hr2) (by decide) (by decide)
  refine h3.mono ?_
  rintro e w3 ⟨rfl, F3, hr3, hst3, hg3⟩
  clear h3
  go_wp2_with fail
  refine (Rgint.pop_some F3 w.heap.size 3 _ _ w3 (by exact hr3)).mono ?_
  rintro e w4 ⟨rfl, F4, hr4, hst4, hg4⟩
  go_wp2_with fail
  refine (Rgint.list_any F4 w.heap.size 3 _ w4 hr4).mono ?_
  rintro e w5 ⟨A, n, c, rfl, hl5, hb5⟩
  have hr5 := hr4.below hb5
  have hl5' := hl5.alloc (.cells #[.int .i64 1, .int .i64 2] 3)
  have hr5' := hr5.below ((Below.refl _ w5).alloc (Nat.le_refl _) (.cells #[.int .i64 1, .int .i64 2] 3))
  have hn5 := hl5.1
  simp only [List.length_cons, List.length_nil, Nat.zero_add, Nat.reduceAdd] at hn5
  subst hn5
  go_wp2_with fail
  refine (same_any A _ 2 c 2 2 [1, 2] [1, 2] _ (by exact (hl5'.rdv.rd (k := .i64) (xs := [1, 2]) (by decide))) (by exact Rd.lit w5 3 [1, 2] (by decide) (by decide))).mono ?_
  rintro e w6 ⟨rfl, q, rfl⟩
  go_wp2_with fail
  refine (Rgint.room_any F4 w.heap.size 3 _ _ (by exact hr5'.below (Below.drewN_ _ _))).mono ?_
  rintro e w7 ⟨rfl, q7, rfl⟩
  go_wp2
  go_ret
  have g1 : ∀ k, (fun x => x = w.heap.size) k → w.heap.size ≤ k := by rintro k rfl; exact Nat.le_refl _
  have g2 := hg2.ge g1 (by simp; omega)
  have s2 := hst2.size
  have g3 := hg3.ge g2 (by simp at s2; omega)
  have s3 := hst3.size
  have g4 := hg4.ge g3 (by simp at s2; omega)
  have s4 := hst4.size
  have s5 := hb5.size
  have e1 : w.heap.size ≤ w2.heap.size := by simp at s2; omega
  refine ⟨rfl, (hb1.trans (((Below.refl _ w1).alloc hs1 _).trans (hst2.below (by simp; omega) g1))).trans ((hst3.below e1 g2).trans ((hst4.below (by omega) g3).trans ((hb5.mono (by omega)).trans ?_)))⟩
  exact ((Below.refl _ w5).alloc (by omega) _).trans ((Below.drewN_ _ _).mono (by first | omega | (simp; omega)))
end Go.Proofs.Ytgeihelpggncgaa
