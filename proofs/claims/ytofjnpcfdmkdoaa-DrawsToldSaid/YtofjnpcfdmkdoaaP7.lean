/- The iterator over draws. -/
import Derived.Test.YtofjnpcfdmkdoaaP6
import Derived.Test.YtofjnpcfdmkdoaaRegL
set_option linter.unusedSimpArgs false
set_option linter.unusedVariables false
namespace Go.Proofs.Ytofjnpcfdmkdoaa
open Go.RowKit Go.Shelf
attribute [local go_sem] Oper.semAt_some
set_option maxRecDepth 100000 in
set_option maxHeartbeats 2000000 in
theorem draws_stops (fu : Nat) (hfu : 1 ≤ fu) (S : Nat → Prop) (Bs Bf N : Nat) (s i : Int) (w : World) (hi0 : -4611686018427387904 ≤ i) (hi1 : i ≤ 4611686018427387904) (hN : (N : Int) = 4611686018427387904 - i + 1)
    (hBs : S Bs) (hBf : S Bf) (hS : ∀ k, S k → k < w.heap.size) (h1 : w.cell? ⟨Bf, 0, none⟩ = some (.int .i64 i)) (h2 : w.cell? ⟨Bs, 0, none⟩ = some (.int .u64 s)) :
    SeqStopsK Fence.wide fu Try.prog 31 #[.pointer (some ⟨Bf, 0, none⟩), .pointer (some ⟨Bs, 0, none⟩)] (fun k : Nat => #[.int .i64 (i + k), .int .u64 (atV s (i + k))]) (KpS S)
      (fun ys => ys = List.range N) (fun pre => ∃ k, pre = List.range k) N w := fun l J Jx W hW hJ hJx hY h0 => by
  have hKW : KpS S w W := fun k hk => hW.block k (hS k hk)
  have e1 := (hKW.cell hBf).trans h1
  have e2 := (hKW.cell hBs).trans h2
  clear h1 h2 hW hKW
  refine callsIn_of_wp Try.func31 rfl trivial ?_ rfl
  simp only [Try.ntmps31, List.size_toArray, List.length_cons, List.length_nil, Nat.reduceAdd, Nat.reduceSub, Array.replicate_succ, Array.replicate_zero, List.push_toArray, List.append_toArray, List.nil_append, List.cons_append]
  gi_wp2
  gi_loopw [4] (fun i' wr => ∃ k : Nat, k ≤ N ∧ i' = .int .i64 (i + k) ∧ J (List.range k) wr ∧ wr.cell? ⟨Bs, 0, none⟩ = some (.int .u64 s)) (fun i' _ => (4611686018427387905 - (intOf i')).toNat)
  case atStart => exact ⟨0, Nat.zero_le _, by simp, h0, e2⟩
  case round =>
    obtain ⟨k, hk, rfl, hJk, f2⟩ := hrel
    by_cases hlt : k < N
    · have hle : i + k ≤ 4611686018427387904 := by omega
      have hlo : -4611686018427387904 ≤ i + k := by omega
      have hsu : i + ((k + 1 : Nat) : Int) = i + k + 1 := by omega
      obtain ⟨fn, tmps, assign, body, hy, hR⟩ := hY _ k wr hJk (by simpa using hlt)
      have HSU := Lib.hid hsu
      clear hsu e1 e2 hN
      gi_wp2
      refine ⟨trivial, (callsIn_wide.2 (at_any s (i + k) wr)).mono ?_⟩
      rintro e w2 ⟨rfl, rfl⟩
      gi_wp2
      refine hR.mono ?_
      rintro e W3 (⟨rfl, hJ3, hk3⟩ | ⟨rfl, hJx3⟩)
      · have g2 := (hk3.cell hBs).trans f2
        clear hy hR f2
        gi_wp2
        go_roundw
        case rel => exact ⟨k + 1, by omega, by rw [HSU.out], by rw [List.range_succ]; exact hJ3, g2⟩
        case measure => simp [intOf]; omega
      · clear hy hR f2
        gi_wp2
        refine bodyPost_ret (results_none rfl _ _ _) rfl ?_
        exact ⟨⟨_, rfl⟩, .inr ⟨_, ⟨k + 1, (List.range_succ).symm⟩, hJx3⟩⟩
    · obtain rfl : k = N := by omega
      have hgt : 4611686018427387904 < i + k := by omega
      clear e1 e2 hN
      gi_wp2
      go_end0
      exact ⟨⟨_, rfl⟩, .inl ⟨_, rfl, hJk⟩⟩
end Go.Proofs.Ytofjnpcfdmkdoaa
