/- The law of scores that nobody made. -/
import Derived.Test.YtjoagkekbeogoaaS16
set_option linter.unusedSimpArgs false
set_option linter.unusedVariables false
namespace Go.Proofs.Ytjoagkekbeogoaa
open Go.RowKit Go.Shelf

section
variable {P : Program} {w : World} {t : TypeId} {ops : Array Oper} {rest : List Oper} {op : Oper} {a : Act} {Q : Exit → Act → World → Prop}
theorem at_cmp (bo : BinOp) (ty : TypeId) (x y : Operand) (t' : TypeId) (ho : op.op = .binOp bo ty x y t') (h : wpList P ops Q (op :: rest) a w) : wpList P ops Q (op :: rest) a w := h
theorem wpList_cmp_agg {bo : BinOp} {x y : Operand} {t' : TypeId} (hw : Region.wanted op (yielded ops a.tmps) = true) (ho : op.op = .binOp bo t x y t') (hg : P.eqGuardType P.depth t = false) {cs ds : Array Value} (hx : a.eval x = .agg cs) (hy : a.eval y = .agg ds) {b : Bool}
    (h : (binOp bo t (.agg cs) (.agg ds)).run P w = .ok (.bool b) w) (hq : wpList P ops Q rest (a.put op.dst (.bool b)) w) : wpList P ops Q (op :: rest) a w := by
  refine wpList_step (fun K hK => ?_)
  rw [if_pos hw]
  unfold Oper.wp
  rw [exec_cmp_agg ho hg hx hy h]
  exact hK _ _ hq
end
theorem neq3 (xs : List Int) (hx : xs.length = 3) (w : World) : (binOp .neq 48 (.agg (xs.map (.int .i64)).toArray) (.agg (xs.map (.int .i64)).toArray)).run Try.prog w = .ok (.bool false) w := by
  rw [arr3.neq (.int .i64) (eq_int rfl 9998) xs xs hx hx]
  simp
def zeroS : List Value := List.replicate 34 (.int .i64 0)
/-- The row of two scores that nobody made. -/
def NoRow (w W : World) (gl : Nat) : Prop := gl < W.heap.size ∧ Below w.heap.size w W ∧ ∀ k, k < 2 → ∃ P, W.cell? ⟨gl, k, none⟩ = some (.pointer P) ∧ NoSc W P
theorem NoRow.below {w W W' : World} {gl : Nat} (h : NoRow w W gl) (hb : Below W.heap.size W W') : NoRow w W' gl := by
  obtain ⟨h1, h2, h3⟩ := h
  refine ⟨by have := hb.size; omega, h2.trans (hb.mono h2.size), fun k hk => ?_⟩
  obtain ⟨P, h4, h5⟩ := h3 k hk
  exact ⟨P, (hb.cell (p := ⟨gl, k, none⟩) h1).trans h4, h5.below hb⟩
set_option maxRecDepth 100000 in
set_option maxHeartbeats 8000000 in
theorem lawNobody (x : Int) (w : World) :
    Calls Try.prog 5 #[.int .i64 x] w fun e w' => e = .returned (.bool true) ∧ Below w.heap.size w w' := by
  have hz := Bk.new w 53 zeroS
  have hr : NoRow w ((w.alloc (.cells zeroS.toArray 53)).alloc (.cells #[.pointer none, .pointer (some ⟨w.heap.size, 0, none⟩)] 23)) (w.heap.size + 1) := by
    have hb := Bk.new (w.alloc (.cells zeroS.toArray 53)) 23 [.pointer none, .pointer (some ⟨w.heap.size, 0, none⟩)]
    rw [World.size_alloc] at hb
    refine ⟨by rw [World.size_alloc, World.size_alloc]; omega, ((Below.refl _ _).alloc (Nat.le_refl _) _).alloc (by simp) _, fun k hk => ?_⟩
    rcases (by omega : k = 0 ∨ k = 1) with rfl | rfl
    · exact ⟨none, hb.cell 0 rfl, .inl rfl⟩
    · exact ⟨_, hb.cell 1 rfl, .inr ⟨_, _, rfl, hz.alloc _⟩⟩
  clear hz
  go_enter Try.func5, Try.ntmps5
  go_wp2
  go_loopw [13] (fun i wr => ∃ k : Nat, k ≤ 2 ∧ i = .int .i64 k ∧ NoRow w wr (w.heap.size + 1)) (fun i _ => 2 - (intOf i).toNat)
  case atStart => exact ⟨0, by omega, rfl, hr⟩
  case round =>
    clear hr
    obtain ⟨k, hk, rfl, hr⟩ := hrel
    by_cases hlt : k < 2
    · obtain ⟨hgl, hb, hrow⟩ := hr
      obtain ⟨P, hcell, hn⟩ := hrow k hlt
      have HR : Hid (NoRow w wr (w.heap.size + 1)) := Lib.hid ⟨hgl, hb, hrow⟩
      generalize w.heap.size + 1 = gl at *
      clear hrow hb
      go_wp2_with fail
      refine (no_actives hn).mono ?_
      rintro e w1 ⟨A1, c1, A2, c2, rfl, hb1⟩
      have hn1 := hn.below hb1
      have HR1 := Lib.hid (HR.out.below hb1)
      have HN1 := Lib.hid hn1
      clear hb1 hn hcell hgl HR
      go_wp2_with (first
        | (go_at_call 9; refine (no_ack HN1.out x).mono ?_; rintro e w' ⟨rfl, rfl⟩)
        | (go_at_call 11; refine (no_nack HN1.out x).mono ?_; rintro e w' ⟨rfl, rfl⟩)
        | (go_at_call 12; refine (no_bounce HN1.out x).mono ?_; rintro e w' ⟨rfl, rfl⟩)
        | (go_at_call 20; refine (no_active HN1.out).mono ?_; rintro e w2 ⟨A3, n3, c3, rfl, hl3, hb2⟩
           have hz3 := hl3.1
           rw [List.length_nil] at hz3
           subst hz3
           have HN2 := Lib.hid (HN1.out.below hb2)
           have HR2 := Lib.hid (HR1.out.below hb2)
           clear hl3 hb2)
        | (go_at_call 15; refine (no_tick HN2.out).mono ?_; rintro e w3 ⟨A4, n4, c4, rfl, hl4, hb3⟩
           have hz4 := hl4.1
           rw [List.length_nil] at hz4
           subst hz4
           have HN3 := Lib.hid (HN2.out.below hb3)
           have HR3 := Lib.hid (HR2.out.below hb3)
           clear hl4 hb3)
        | (go_at_call 22; refine (no_rests HN3.out x).mono ?_; rintro e w' ⟨rfl, rfl⟩)
        | (go_at_call 23; refine (no_counts HN3.out x).mono ?_; rintro e w4 ⟨rfl, hb4⟩
           have HN4 := Lib.hid (HN3.out.below hb4)
           have HR4 := Lib.hid (HR3.out.below hb4)
           clear hb4)
        | (with_reducible refine at_cmp .neq 48 (.tmp 58) (.tmp 59) 48 (by rfl) ?_; refine wpList_cmp_agg ?wn rfl (by kernel_rfl) rfl rfl (neq3 (tabI 3 (fun _ => 0)) (tabI_len _ _) _) ?_; case wn => (simp [Region.wanted, yielded]; done))
        | (go_at_call 18; refine (no_fork HN4.out).mono ?_; rintro e w' ⟨rfl, rfl⟩)
        | (go_at_call 16; refine (no_clear HN4.out).mono ?_; rintro e w' ⟨rfl, rfl⟩))
      go_roundw
      case rel => exact ⟨k + 1, by omega, by go_num, HR4.out⟩
      case measure => simp [intOf]; omega
    · obtain rfl : k = 2 := by omega
      obtain ⟨hgl, hb, hrow⟩ := hr
      have HB := Lib.hid hb
      clear hgl hb hrow
      go_wp2_with fail
      refine (awake_any wr).mono ?_
      rintro e w1 ⟨rfl, hb1⟩
      have HB1 := Lib.hid (HB.out.trans (hb1.mono HB.out.size))
      clear hb1
      go_wp2
      go_ret
      exact ⟨rfl, HB1.out⟩
end Go.Proofs.Ytjoagkekbeogoaa
