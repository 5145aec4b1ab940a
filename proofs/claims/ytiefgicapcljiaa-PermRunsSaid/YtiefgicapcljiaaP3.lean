/- The reference of draws: its source; a row of numbers; two rows are the same. -/
import Derived.Test.YtiefgicapcljiaaP2
import Derived.Test.YtiefgicapcljiaaLst
set_option linter.unusedSimpArgs false
set_option linter.unusedVariables false
namespace Go.Proofs.Ytiefgicapcljiaa
open Go.RowKit Go.Shelf

theorem rnext_any (w : World) (s i : Int) (h0 : 0 ≤ i) (h1 : i ≤ 1000000000) :
    Calls Try.prog 38 #[.agg #[.int .u64 s, .int .i64 i]] w fun e w' => e = .returned (.tuple #[.agg #[.int .u64 s, .int .i64 (i + 1)], .int .u64 (atV s i)]) ∧ Below w.heap.size w w' := by
  go_enter Try.func38, Try.ntmps38
  go_wp2_with (go_at_call 40; refine (rat_any _ _ _).mono ?_; rintro e w' ⟨rfl, rfl⟩)
  exact bodyPost_ret (v := .tuple #[.agg #[.int .u64 s, .int .i64 (i + 1)], .int .u64 (atV s i)]) (by simp [results, Try.results38, go_sem]) rfl ⟨rfl, ((Below.refl _ _).alloc (Nat.le_refl _) _).alloc (by simp) _⟩
theorem rbelow_zero (w : World) (s i n : Int) (hn : n < 1) :
    Calls Try.prog 35 #[.agg #[.int .u64 s, .int .i64 i], .int .i64 n] w fun e w' => e = .returned (.tuple #[.agg #[.int .u64 s, .int .i64 i], .int .i64 0]) ∧ Below w.heap.size w w' := by
  go_enter Try.func35, Try.ntmps35
  go_wp2
  exact bodyPost_ret (v := .tuple #[.agg #[.int .u64 s, .int .i64 i], .int .i64 0]) (by simp [results, Try.results35, go_sem]) rfl ⟨rfl, ((Below.refl _ _).alloc (Nat.le_refl _) _).alloc (by simp) _⟩
theorem rbelow_any (w : World) (s i n : Int) (h0 : 0 ≤ i) (h1 : i ≤ 1000000000) (hn : 1 ≤ n) (hn' : n ≤ 9223372036854775807) :
    Calls Try.prog 35 #[.agg #[.int .u64 s, .int .i64 i], .int .i64 n] w fun e w' => e = .returned (.tuple #[.agg #[.int .u64 s, .int .i64 (i + 1)], .int .i64 (belV s i n)]) ∧ Below w.heap.size w w' := by
  have HB := Lib.hid ((IntWalk.i64_left _).trans (belV_wrap s i n hn hn'))
  have hu : IntKind.u64.wrap n = n := wraps_u64 n (by omega) (by omega)
  have hz : ¬ (n = 0) := by omega
  go_enter Try.func35, Try.ntmps35
  go_wp2_with fail
  refine (rnext_any _ s i h0 h1).mono ?_
  rintro e w1 ⟨rfl, hb⟩
  have b1 := ((Bk.new w 31 [.int .u64 s, .int .i64 i]).alloc (.cells #[.int .u64 0, .int .i64 0] 31)).below hb
  have b2 := (Bk.new (w.alloc (.cells #[.int .u64 s, .int .i64 i] 31)) 31 [.int .u64 0, .int .i64 0]).below hb
  rw [World.size_alloc] at b2
  have hbb : Below w.heap.size w w1 := (((Below.refl _ _).alloc (Nat.le_refl _) _).alloc (by simp) _).trans (hb.mono (by simp; omega))
  clear hb
  have c0 := b1.cell 0 rfl
  have c1 := b1.cell 1 rfl
  have f0 := b1.free 0
  have f1 := b1.free 1
  go_wp2
  have b1 := (b1.set 0 (.int .u64 s)).set 1 (.int .i64 (i + 1))
  have b2 := (b2.far (p := ⟨w.heap.size, 0, none⟩) (by simp) (.int .u64 s)).far (p := ⟨w.heap.size, 1, none⟩) (by simp) (.int .i64 (i + 1))
  have hbb : Below w.heap.size w ((w1.setCell ⟨w.heap.size, 0, none⟩ (.int .u64 s)).setCell ⟨w.heap.size, 1, none⟩ (.int .i64 (i + 1))) := (hbb.setCell (by simp) _).setCell (by simp) _
  generalize ((w1.setCell ⟨w.heap.size, 0, none⟩ (.int .u64 s)).setCell ⟨w.heap.size, 1, none⟩ (.int .i64 (i + 1))) = w2 at *
  clear c0 c1 f0 f1
  refine wp_region_E (Wr (w.heap.size + 1)) (by kernel_rfl) (fun wd hbd hsz => ?_)
  have b1 := b1.below hbd
  have b2 := b2.below hbd
  have k0 : ∀ W, Wr (w.heap.size + 1) wd W → W.cell? ⟨w.heap.size, 0, none⟩ = some (.int .u64 s) := fun W hW => (b1.wr hW (by omega)).cell 0 rfl
  have k1 : ∀ W, Wr (w.heap.size + 1) wd W → W.cell? ⟨w.heap.size, 1, none⟩ = some (.int .i64 (i + 1)) := fun W hW => (b1.wr hW (by omega)).cell 1 rfl
  have d0 := b2.cell 0 rfl
  have d1 := b2.cell 1 rfl
  have f0 := b2.free 0
  have f1 := b2.free 1
  (refine takeE (wrTr (w.heap.size + 1)) 0 (by simp only [List.getElem?_toArray, List.getElem?_cons_succ, List.getElem?_cons_zero]; rfl) (by kernel_rfl) (by kernel_rfl) (by kernel_rfl) (by exact fun _ _ _ h => h) (by first | (refine Or.inl ⟨by rfl, ?_⟩; intro W hW; go_simp; try with_reducible rfl) | exact Or.inr ⟨by rfl, rfl⟩) ?_; try simp only [Act.put, List.setIfInBounds_toArray, List.set_cons_zero, List.set_cons_succ])
  (refine takeE (wrTr (w.heap.size + 1)) 1 (by simp only [List.getElem?_toArray, List.getElem?_cons_succ, List.getElem?_cons_zero]; rfl) (by kernel_rfl) (by kernel_rfl) (by kernel_rfl) (by exact fun _ _ _ h => h) (by first | (refine Or.inl ⟨by rfl, ?_⟩; intro W hW; go_simp; try with_reducible rfl) | exact Or.inr ⟨by rfl, rfl⟩) ?_; try simp only [Act.put, List.setIfInBounds_toArray, List.set_cons_zero, List.set_cons_succ])
  (refine takeE (wrTr (w.heap.size + 1)) 2 (by simp only [List.getElem?_toArray, List.getElem?_cons_succ, List.getElem?_cons_zero]; rfl) (by kernel_rfl) (by kernel_rfl) (by kernel_rfl) (by exact fun _ _ _ h => h) (by first | (refine Or.inl ⟨by rfl, ?_⟩; intro W hW; go_simp; try with_reducible rfl) | exact Or.inr ⟨by rfl, rfl⟩) ?_; try simp only [Act.put, List.setIfInBounds_toArray, List.set_cons_zero, List.set_cons_succ])
  (refine takeE (wrTr (w.heap.size + 1)) 3 (by simp only [List.getElem?_toArray, List.getElem?_cons_succ, List.getElem?_cons_zero]; rfl) (by kernel_rfl) (by kernel_rfl) (by kernel_rfl) (by exact fun _ _ _ h => h) (by first | (refine Or.inl ⟨by rfl, ?_⟩; intro W hW; go_simp; try with_reducible rfl) | exact Or.inr ⟨by rfl, rfl⟩) ?_; try simp only [Act.put, List.setIfInBounds_toArray, List.set_cons_zero, List.set_cons_succ])
  (refine takeE (wrTr (w.heap.size + 1)) 4 (by simp only [List.getElem?_toArray, List.getElem?_cons_succ, List.getElem?_cons_zero]; rfl) (by kernel_rfl) (by kernel_rfl) (by kernel_rfl) (by exact fun _ _ _ h => h) (by first | (refine Or.inl ⟨by rfl, ?_⟩; intro W hW; go_simp; try with_reducible rfl) | exact Or.inr ⟨by rfl, rfl⟩) ?_; try simp only [Act.put, List.setIfInBounds_toArray, List.set_cons_zero, List.set_cons_succ])
  (refine takeE (wrTr (w.heap.size + 1)) 5 (by simp only [List.getElem?_toArray, List.getElem?_cons_succ, List.getElem?_cons_zero]; rfl) (by kernel_rfl) (by kernel_rfl) (by kernel_rfl) (by exact fun _ _ _ h => h) (by first | (refine Or.inl ⟨by rfl, ?_⟩; intro W hW; go_simp; try with_reducible rfl) | exact Or.inr ⟨by rfl, rfl⟩) ?_; try simp only [Act.put, List.setIfInBounds_toArray, List.set_cons_zero, List.set_cons_succ])
  refine wpAnyE_one (i := 6) (by kernel_rfl) (by simp only [List.getElem?_toArray, List.getElem?_cons_succ, List.getElem?_cons_zero]; rfl) (fun K hK => ?_)
  go_simp
  refine hK.out _ _ ((Wr.set _ _ _ _).trans (Wr.set _ _ _ _) (by simp [World.setCell])) ?_
  clear hK K
  try simp only [Act.put, List.setIfInBounds_toArray, List.set_cons_zero, List.set_cons_succ]
  (refine takeE (wrTr (w.heap.size + 1)) 7 (by simp only [List.getElem?_toArray, List.getElem?_cons_succ, List.getElem?_cons_zero]; rfl) (by kernel_rfl) (by kernel_rfl) (by kernel_rfl) (by exact fun _ _ _ h => h) (by first | (refine Or.inl ⟨by rfl, ?_⟩; intro W hW; go_simp; try with_reducible rfl) | exact Or.inr ⟨by rfl, rfl⟩) ?_; try simp only [Act.put, List.setIfInBounds_toArray, List.set_cons_zero, List.set_cons_succ])
  refine wpAnyE_done (by kernel_rfl) ?_ _
  go_wp2
  have e0 := ((b2.set 0 (.int .u64 s)).set 1 (.int .i64 (i + 1))).cell 0 rfl
  have e1 := ((b2.set 0 (.int .u64 s)).set 1 (.int .i64 (i + 1))).cell 1 rfl
  refine bodyPost_ret (v := .tuple #[.agg #[.int .u64 s, .int .i64 (i + 1)], .int .i64 (belV s i n)]) (by simp [results, Try.results35, go_sem, e0, e1, HB.out]) rfl ⟨rfl, ?_⟩
  exact ((hbb.trans (hbd.mono hbb.size)).setCell (by simp) _).setCell (by simp) _
theorem eltI : Elt Try.prog 23 3 (.int .i64 0) 8 := ⟨rfl, by kernel_rfl, rfl, rfl, by decide⟩
/-- 0, 1, 2 and so on. -/
def iotaV (n : Nat) : List Value := (List.range n).map fun i : Nat => Value.int .i64 (i : Int)
theorem iotaV_len (n : Nat) : (iotaV n).length = n := by simp [iotaV]
theorem iotaV_succ (n : Nat) : iotaV (n + 1) = iotaV n ++ [.int .i64 n] := by simp [iotaV, List.range_succ]
def ints (vs : List Value) : Prop := ∃ xs : List Int, vs = xs.map (.int .i64)
set_option maxHeartbeats 400000 in
theorem same_ints (A B : Option Addr) (n c m d : Nat) (vs : List Value) (w : World) (h1 : RdV w A n c vs) (h2 : RdV w B m d vs) (hi : ints vs) :
    Calls Try.prog 26 #[.slice A n c, .slice B m d] w fun e w' => e = .returned (.bool true) ∧ Below w.heap.size w w' := by
  obtain ⟨xs, rfl⟩ := hi
  have hn := h1.1
  have hm := h2.1
  rw [List.length_map] at hn hm
  obtain rfl : m = n := by omega
  have hc := h1.2.1
  have hmx := h1.2.2.1
  unfold maxLen at hmx
  have H1 := Lib.hid h1
  have H2 := Lib.hid h2
  have HN := Lib.hid hn
  clear h1 h2 hn hm
  go_enter Try.func26, Try.ntmps26
  go_wp2
  go_loopw [5] (fun i wr => ∃ k q : Nat, k ≤ m ∧ i = .int .i64 k ∧ wr = w.drewN q) (fun i _ => m - (intOf i).toNat)
  case atStart => exact ⟨0, 0, Nat.zero_le _, rfl, rfl⟩
  case round =>
    obtain ⟨k, q, hk, rfl, rfl⟩ := hrel
    by_cases hlt : k < m
    · have hx : k < xs.length := by rw [HN.out]; exact hlt
      obtain ⟨g1, o1, rfl, hg1, d1⟩ := H1.out.cell hlt
      obtain ⟨g2, o2, rfl, hg2, d2⟩ := H2.out.cell hlt
      rw [List.getElem?_map, List.getElem?_eq_getElem hx, Option.map_some] at d1 d2
      generalize xs[k] = x at d1 d2
      go_wp2
      go_quiet (fail)
      go_wp2
      go_roundw
      case rel => exact ⟨k + 1, _, by omega, by go_num, rfl⟩
      case measure => simp [intOf]; omega
    · obtain rfl : k = m := by omega
      go_wp2
      go_ret
      exact ⟨rfl, Below.drewN_ w q⟩
end Go.Proofs.Ytiefgicapcljiaa
