/- The law's own loop over numbers. -/
import Derived.Test.YtbphpfelinllhaaZ4
set_option linter.unusedSimpArgs false
set_option linter.unusedVariables false
set_option linter.unnecessarySimpa false
namespace Go.Proofs.Ytbphpfelinllhaa
open Go.RowKit Go.Shelf
attribute [local go_sem] Oper.semAt_some

theorem run_equalIn_func_nil (w : World) (k : Nat) (f : Fn) (ts b : Array Value) : (Op.equalIn (k + 1) 57 (.func f ts b) .nilFunc).run Try.prog w = .ok false w := by
  simp [Op.equalIn, run_underlying Try.underlying57]
theorem run_func_nil (w : World) (f : Fn) (ts b : Array Value) : (binOp .eql 57 (.func f ts b) .nilFunc).run Try.prog w = .ok (.bool false) w := by
  simp only [binOp]
  simp [Op.equal, Op.maxDepth, run_equalIn_func_nil w 9999 f ts b]
theorem grown_keep {w w' : World} {n₀ : Nat} {v : Value} {pre : List Int} {t : TypeId} {g : Nat} {vs : List Value} (hg : w.grownBy w' v.ownBlock) (hown : Own .u64 23 n₀ w v pre) (h : Bk w t g vs) (hlt : g < n₀) : Bk w' t g vs :=
  (hg.block g h.lt (fun e => by have := (World.ownsRow.lt hown g e.symm).1; omega)).trans h
theorem own_far {k : IntKind} {e : TypeId} {base : Nat} {w : World} {v u : Value} {xs : List Int} (h : Own k e base w v xs) {g : Nat} (hg : g < base) : Own k e base (w.setCell ⟨g, 0, none⟩ u) v xs := by
  refine ⟨h.1, ?_⟩
  rcases h.2 with hn | ⟨b, cap, cur, hv, hb, hh, r⟩
  · exact .inl hn
  · exact .inr ⟨b, cap, cur, hv, hb, (Below.heap_setCell _ _ _ _ (by simp; omega)).trans hh, r⟩
theorem own_cells {k : IntKind} {e : TypeId} {base : Nat} {w : World} {v : Value} {xs : List Int} (h : Own k e base w v xs) {j : Nat} {o : Obj} (hj : v.ownBlock = some j) (ho : w.heap[j]? = some o) : o.isCells = true := by
  rcases h.2 with ⟨rfl, _⟩ | ⟨b, cap, cur, rfl, hb, hh, r⟩
  · simp [Value.ownBlock] at hj
  · simp [Value.ownBlock] at hj
    subst hj
    rw [hh] at ho
    injection ho with ho
    subst ho
    rfl
/-- A round has left. -/
def RowX (w : World) (n₁ m : Nat) (c : Code) (pre' : List Int) (W : World) : Prop :=
  c = .exit 0 ∧ ∃ pre x, pre' = pre ++ [x] ∧ m ≤ pre.length ∧ RowI w n₁ m pre W

set_option maxRecDepth 100000 in
set_option maxHeartbeats 4000000 in
theorem lrows_any (A : Option Addr) (n c : Nat) (s : Int) (m : Nat) (xs : List Int) (w : World) (h : Rd .u8 w A n c xs) (hn : n ≤ 100000) (hm : m ≤ 200000) :
    Calls Try.prog 13 #[.slice A n c, .int .i64 s, .int .i64 m] w fun e w' => ∃ v, e = .returned v ∧ Own .u64 23 w.heap.size w' v ((rowsL xs s).take m) ∧ Below w.heap.size w w' := by
  have hlen := rowsL_len xs s
  rw [h.1] at hlen
  refine (callsIn_wide (n := 5)).1 ?_
  refine callsIn_of_wp_marks Try.func13 rfl trivial ?_ rfl
  simp only [Try.ntmps13, List.size_toArray, List.length_cons, List.length_nil, Nat.reduceAdd, Nat.reduceSub, Array.replicate_succ, Array.replicate_zero, List.push_toArray, List.append_toArray, List.nil_append, List.cons_append]
  have hb1 : Below w.heap.size w ((w.alloc (.cells #[.int .i64 m] 3)).alloc (.cells #[.slice none 0 0] 31)) := ((Below.refl _ w).alloc (Nat.le_refl _) _).alloc (by simp) _
  have q1 : Bk ((w.alloc (.cells #[.int .i64 m] 3)).alloc (.cells #[.slice none 0 0] 31)) 3 w.heap.size [.int .i64 m] := (Bk.new w 3 [.int .i64 m]).alloc _
  have q2 : Bk ((w.alloc (.cells #[.int .i64 m] 3)).alloc (.cells #[.slice none 0 0] 31)) 31 (w.heap.size + 1) [.slice none 0 0] := by
    have := Bk.new (w.alloc (.cells #[.int .i64 m] 3)) 31 [.slice none 0 0]
    rwa [World.size_alloc] at this
  have hz1 : ((w.alloc (.cells #[.int .i64 m] 3)).alloc (.cells #[.slice none 0 0] 31)).heap.size = w.heap.size + 2 := by simp
  have Q := Lib.hid (And.intro hb1 (And.intro q1 (And.intro q2 hz1)))
  have hr1 := (h.alloc (.cells #[.int .i64 m] 3)).alloc (.cells #[.slice none 0 0] 31)
  have HR := Lib.hid hr1
  clear hb1 q1 q2 hz1 hr1
  gi_wp2
  refine ⟨trivial, (callsIn_wide.2 (mrows_any A n c s xs _ (by exact HR.out) hn)).mono ?_⟩
  rintro e W0 ⟨g, B, d, rfl, hg, hsz, hb2, p1, p2, hr0, hB⟩
  obtain ⟨hb1, q1, q2, hz1⟩ := Q.out
  generalize (w.alloc (.cells #[.int .i64 m] 3)).alloc (.cells #[.slice none 0 0] 31) = w1 at *
  have q1' := q1.keep hb2 q1.lt
  have q2' := q2.keep hb2 q2.lt
  have hb0 := hb1.trans (hb2.mono hb1.size)
  rw [hz1] at hg hB
  have P := Lib.hid (And.intro p1 (And.intro p2 hB))
  have HZ := Lib.hid hsz
  have hz0 : W0.heap.size ≤ g + 2 := by omega
  have hz0' : g + 2 ≤ W0.heap.size := by omega
  clear p1 p2 hB hsz hz1 q1 q2 hb1 hb2 Q HR
  have fn := fun (w : World) (f : Fn) (ts b : Array Value) => run_func_nil w f ts b
  gi_wp2
  clear fn
  obtain ⟨p1, p2, hB⟩ := P.out
  have hsz := HZ.out
  refine wpIn_rangeFunc_ownF rfl (by decide) (gf := 29) (lb := #[.pointer (some ⟨g + 1, 0, none⟩), .pointer (some ⟨g, 0, none⟩)]) rfl trivial (enters_of Try.func29 (by kernel_rfl) rfl)
    (rows1_any (5 - 1) (by decide) (fun k => k < g + 2 ∧ k ≠ w.heap.size + 1) (g + 1) g B n d s xs W0 hr0 hn (by omega) (by omega) (fun hm ad he => by have := hB hm ad he; omega) (fun k hk => by omega) p2 p1) KpS.trans (KpS.put (fun k hk => by omega)) (Below.refl _ _) (fun _ => rfl)
    (RowI w W0.heap.size m) (RowX w W0.heap.size m) (rowI_own (by omega)) (fun c' => ?own) ⟨q1', ⟨_, q2', rfl, .inl ⟨rfl, rfl⟩⟩, Nat.zero_le _, hb0, Nat.le_refl _⟩
    (fun x => { tmps := #[.slice A n c, .int .i64 s, .int .i64 m, undef, undef, .pointer (some ⟨w.heap.size, 0, none⟩), .slice none 0 0, .pointer (some ⟨w.heap.size + 1, 0, none⟩), .func (.func 29) #[] #[.pointer (some ⟨g + 1, 0, none⟩), .pointer (some ⟨g, 0, none⟩)], .int .u64 x, .slice A n c, .int .i64 s, .func (.func 29) #[] #[.pointer (some ⟨g + 1, 0, none⟩), .pointer (some ⟨g, 0, none⟩)], .func (.func 29) #[] #[.pointer (some ⟨g + 1, 0, none⟩), .pointer (some ⟨g, 0, none⟩)], .bool false, .func (.func 29) #[] #[.pointer (some ⟨g + 1, 0, none⟩), .pointer (some ⟨g, 0, none⟩)], .int .u64 x, undef, undef, undef, undef, undef, undef, undef, undef, undef], defers := [] }) ?assign ?body ?done ?stop
  case own =>
    rintro pre' W W' row ⟨hc', pre, x, e1, e2, hI⟩ hw hr
    exact ⟨hc', pre, x, e1, e2, rowI_own (by omega) pre W W' row hI hw hr⟩
  case assign =>
    intro l x W K hK
    gi_wp2
    exact hK
  case body =>
    rintro l pre x W ⟨h1, ⟨v, h2, h3⟩, h4, h5, h6⟩ hpre
    obtain ⟨V, vc, rfl⟩ := own_slice h3
    have c0 := h1.cell 0 rfl
    have c1 := h2.cell 0 rfl
    have f1 := h2.free 0
    by_cases hlt : m ≤ pre.length
    · have hI : RowI w W0.heap.size m pre W := ⟨h1, ⟨_, h2, h3⟩, h4, h5, h6⟩
      have HI := Lib.hid hI
      clear hI
      gi_wp2
      exact ⟨KeepsOthers.refl _, rfl, pre, x, rfl, hlt, HI.out⟩
    · have hlt2 : pre.length < m := by omega
      have hown1 := h3.alloc (.cells #[.int .u64 x] 23)
      have hcx : (W.alloc (.cells #[.int .u64 x] 23)).cell? ⟨W.heap.size, 0, none⟩ = some (.int .u64 x) := (Bk.new W 23 [.int .u64 x]).cell 0 rfl
      have h2' := h2.alloc (.cells #[.int .u64 x] 23)
      have HX := Lib.hid hcx
      clear hcx
      gi_wp2_with (gi_at_builtin
                   refine wpListIn_append_u64 rfl (.tmp 21) (.tmp 23) rfl rfl hown1 rfl HX.out (by omega) (by simp; omega) ?_
                   intro v' w2 hown2 hgrow
                   obtain ⟨V', vc', rfl⟩ := own_slice hown2
                   have h2w := grown_keep hgrow hown1 h2' (by omega)
                   have c3 := h2w.cell 0 rfl
                   have f3 := h2w.free 0)
      have hown2' : Own .u64 23 W0.heap.size w2 (.slice V' (pre.length + 1) vc') (pre ++ [x]) := by have := hown2; rwa [List.length_append, List.length_singleton] at this
      have h1w := grown_keep hgrow hown1 (h1.alloc (.cells #[.int .u64 x] 23)) (by omega)
      have h2s := h2w.set 0 (.slice V' (pre.length + 1) vc')
      have hown3 : Own .u64 23 W0.heap.size (w2.setCell ⟨w.heap.size + 1, 0, none⟩ (.slice V' (pre.length + 1) vc')) (.slice V' (pre.length + 1) vc') (pre ++ [x]) := own_far hown2' (by omega)
      have hvb : ∀ k, (Value.slice V pre.length vc).ownBlock = some k → W0.heap.size ≤ k := fun k hk => (World.ownsRow.lt hown1 k hk).1
      have hblk : ∀ k, k < W0.heap.size → k ≠ w.heap.size + 1 → (w2.setCell ⟨w.heap.size + 1, 0, none⟩ (.slice V' (pre.length + 1) vc')).heap[k]? = W.heap[k]? := fun k hk hne => by
        rw [Below.heap_setCell _ _ _ _ (by simpa using hne), hgrow.block k (by simp; omega) (fun e => by have := hvb k e.symm; omega)]
        exact Below.heap_alloc _ _ _ (by omega)
      have hsz2 : W.heap.size + 1 ≤ w2.heap.size := by have := hgrow.size; simpa using this
      refine ⟨?_, fun k hk => hblk k (by omega) hk.2, ?_⟩
      · refine (KeepsOthers.alloc W _).trans ((KeepsOthers.of_grownBy hgrow ?_).trans (KeepsOthers.setCell _ _ _))
        intro j o hj ho
        exact own_cells hown1 hj ho
      · refine ⟨h1w.far (by simp) _, ⟨_, h2s, hown3⟩, by simp; omega, ⟨?_, ?_, ?_, by simp; have := h5.size; omega, fun k hk => (hblk k (by omega) (by omega)).trans (h5.block k hk)⟩, by simp; omega⟩
        · exact hgrow.os.trans h5.os
        · exact hgrow.tape.trans h5.tape
        · exact hgrow.output.trans h5.output
  case done =>
    rintro D ys W hD rfl ⟨h1, ⟨v, h2, h3⟩, h4, h5, h6⟩ hK
    have c1 := h2.cell 0 rfl
    gi_wp2
    refine ⟨by simp, .inl ⟨_, _, rfl, run_takeDeferred hK, ?_⟩⟩
    refine ⟨_, results_tmp rfl _ _ _, _, rfl, ?_, h5.trans (belowK_b (w := w) (Nat.le_refl _) W D _ _ (by omega) hK rfl rfl)⟩
    rw [List.take_of_length_le h4]
    exact (own_grown h3 (grownBy_putObj' _ D (.deferred none)) (fun r e => by cases e; exact ⟨_, hK, rfl⟩)).mono (by omega)
  case stop =>
    rintro D c' pre' W hD ⟨k, hpk⟩ ⟨rfl, pre, x, e1, e2, h1, ⟨v, h2, h3⟩, h4, h5, h6⟩ hK
    have c1 := h2.cell 0 rfl
    have hpre : (rowsL xs s).take m = pre := by
      obtain rfl : pre.length = m := by omega
      rw [e1] at hpk
      have hk : pre.length ≤ k := by
        have := congrArg List.length hpk
        simp at this
        omega
      have := congrArg (List.take pre.length) hpk
      rw [List.take_take, Nat.min_eq_left hk] at this
      rw [← this]
      simp
    gi_wp2
    refine ⟨by simp, .inl ⟨_, _, rfl, run_takeDeferred hK, ?_⟩⟩
    refine ⟨_, results_tmp rfl _ _ _, _, rfl, ?_, h5.trans (belowK_b (w := w) (Nat.le_refl _) W D _ _ (by omega) hK rfl rfl)⟩
    rw [hpre]
    exact (own_grown h3 (grownBy_putObj' _ D (.deferred none)) (fun r e => by cases e; exact ⟨_, hK, rfl⟩)).mono (by omega)
end Go.Proofs.Ytbphpfelinllhaa
