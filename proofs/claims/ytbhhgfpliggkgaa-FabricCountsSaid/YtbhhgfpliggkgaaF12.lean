/- Packets that the laws make; the page's example. -/
import Derived.Test.YtbhhgfpliggkgaaF11
set_option linter.unusedSimpArgs false
set_option linter.unusedVariables false
set_option maxRecDepth 100000
namespace Go.Proofs.Ytbhhgfpliggkgaa
open Go.RowKit Go.Shelf

theorem arr5 : ArrE Try.prog 28 3 5 := ⟨rfl, ⟨_, rfl, rfl⟩, by kernel_rfl⟩
theorem eq5 (xs ys : List Int) (hx : xs.length = 5) (hy : ys.length = 5) (W : World) : (binOp .eql 28 (.agg (xs.map (.int .i64)).toArray) (.agg (ys.map (.int .i64)).toArray)).run Try.prog W = .ok (.bool (decide (xs = ys))) W :=
  arr5.eql (.int .i64) (fun a b => eq_int rfl 9998 a b) xs ys hx hy
theorem ne5 (xs ys : List Int) (hx : xs.length = 5) (hy : ys.length = 5) (W : World) : (binOp .neq 28 (.agg (xs.map (.int .i64)).toArray) (.agg (ys.map (.int .i64)).toArray)).run Try.prog W = .ok (.bool (!decide (xs = ys))) W :=
  arr5.neq (.int .i64) (fun a b => eq_int rfl 9998 a b) xs ys hx hy
section
variable {P : Program} {w : World} {Q : Exit → Act → World → Prop} {ops : Array Oper} {rest : List Oper} {op : Oper} {a : Act}
theorem wpList_exec (hw : Region.wanted op (yielded ops a.tmps) = true) {v : Value} (h : (execOp a.eval op).run P w = .ok (.value v) w) (hq : wpList P ops Q rest (a.put op.dst v) w) : wpList P ops Q (op :: rest) a w := by
  refine wpList_step (fun K hK => ?_)
  rw [if_pos hw]
  unfold Oper.wp
  rw [h]
  exact hK _ _ hq
theorem at_bin (bo : BinOp) (t t' : TypeId) (x y : Operand) (ho : op.op = .binOp bo t x y t') (h : wpList P ops Q (op :: rest) a w) : wpList P ops Q (op :: rest) a w := h
end
def dt (seq : Int) : Pk := ⟨⟨1, 0, 0, 0, 1, 1, seq, 0⟩, [97]⟩
theorem p_data (seq : Int) (w : World) : Calls Try.prog 28 #[.int .i64 seq] w fun e w' => ∃ q, e = .returned (.agg #[.int .i64 q.h.kd, .int .i64 q.h.fl, .int .i64 q.h.pa, .int .i64 q.h.sr, .int .i64 q.h.ds, .int .i64 q.h.cn, .int .i64 q.h.sq, .int .i64 q.h.pu, .slice q.A q.n q.c]) ∧ FreshP w (dt seq) q w' := by
  have kc : ∀ (o : Obj) (C : Array Value) (n c : Nat), (convert 63 63 (.slice (some ⟨w.heap.size + 1, 0, none⟩) n c)).run Try.prog ((w.alloc o).alloc (.cells C 5)) = .ok (.slice (some ⟨w.heap.size + 1, 0, none⟩) n c) ((w.alloc o).alloc (.cells C 5 (C.size, C.size + 1))) := fun o C n c => by
    have := Lib.run_convert_bytes_const (P := Try.prog) (w.alloc o) 63 5 C n c Try.underlying63 Try.underlying5
    rw [World.size_alloc] at this
    exact this
  go_enter Try.func28, Try.ntmps28
  go_wp2
  clear kc
  have hz : Bk ((w.alloc (.cells (List.toArray [.int .i64 1, .int .i64 0, .int .i64 0, .int .i64 0, .int .i64 1, .int .i64 1, .int .i64 seq, .int .i64 0, .slice (some ⟨w.heap.size + 1, 0, none⟩) 1 1]) 65)).alloc (.cells #[.int .u8 97] 5 (1, 2))) 65 w.heap.size (Pv.cl ⟨(dt seq).h, some ⟨w.heap.size + 1, 0, none⟩, 1, 1, [97]⟩) := (Bk.new w 65 _).alloc _
  have hrd : Rd .u8 ((w.alloc (.cells (List.toArray [.int .i64 1, .int .i64 0, .int .i64 0, .int .i64 0, .int .i64 1, .int .i64 1, .int .i64 seq, .int .i64 0, .slice (some ⟨w.heap.size + 1, 0, none⟩) 1 1]) 65)).alloc (.cells #[.int .u8 97] 5 (1, 2))) (some ⟨w.heap.size + 1, 0, none⟩) 1 1 [97] := by
    have := Rd.litF (w.alloc (.cells (List.toArray [.int .i64 1, .int .i64 0, .int .i64 0, .int .i64 0, .int .i64 1, .int .i64 1, .int .i64 seq, .int .i64 0, .slice (some ⟨w.heap.size + 1, 0, none⟩) 1 1]) 65)) 5 [97] (1, 2) (by decide) (by decide)
    simpa using this
  refine bodyPost_ret (results_cell rfl rfl (load_pk rowP hz)) rfl ⟨⟨(dt seq).h, some ⟨w.heap.size + 1, 0, none⟩, 1, 1, [97]⟩, rfl, rfl, fun F hF => ⟨hrd, by show 1 ≤ 1100; decide, by show (0 : Int) ≤ 9223372036854775807; decide, fun _ ad he hf => ?_⟩, ((Below.refl _ _).alloc (Nat.le_refl _) _).alloc (by simp) _⟩
  injection he with he
  subst he
  have := hF _ hf
  simp at this
  omega
theorem told4 : tabI 5 ((FM.new 2 1 (AM.new 1 1 1)).puts [dt 0, dt 1, dt 2, dt 3]).2 = [0, 1, 1, 1, 1] := by decide +kernel
def exP : FM := ((FM.new 2 1 (AM.new 1 1 1)).puts [dt 0, dt 1, dt 2, dt 3]).1
theorem exP_E : exP.svE 0 0 1 = 0 := by decide +kernel
theorem exP_L : (exP.svL 0 0 1).map (fun x => (x.h.sq, x.h.sr)) = [(2, 1)] := by decide +kernel
theorem exP_0 : (exP.pt 0).isSome = true := by decide +kernel
theorem exP_c : 0 ≤ exP.ct 0 ∧ exP.ct 0 ≤ 1000000 := by decide +kernel
theorem exP_T : (exP.svM 0 0 1).total = 2 := by decide +kernel
theorem FMb.new (hs ps L H T : Nat) : FMb (FM.new hs ps (AM.new L H T)) L H 0 := fun k a hk => by
  unfold FM.new FM.newN at hk
  dsimp only at hk
  split at hk
  · injection hk with hk; subst hk; exact AMb.new _ _ _
  · cases hk
theorem FM.new_0 (hs ps : Nat) (a : AM) (h1 : 0 < hs) (h2 : 0 < ps) : ((FM.new hs ps a).pt 0).isSome = true := by
  unfold FM.new FM.newN
  dsimp only
  rw [if_pos (by omega)]; rfl
/-- One row of packets that reads. -/
theorem RdR.one_pk {w : World} {A : Option Addr} {n c : Nat} {qs : List Pv} {α : Type} {f : Pk → α} {y : α} (hn : n = qs.length) (h : RdR 9 w A n c (flat Pv.cl qs)) (hk : (qs.map Pv.pk).map f = [y]) : ∃ (g o : Nat) (q : Pv), A = some ⟨g, o, none⟩ ∧ n = 1 ∧ w.rangeAt g o q.cl ∧ f q.pk = y := by
  cases qs with
  | nil => cases hk
  | cons q qs =>
    rw [List.map_cons, List.map_cons] at hk
    injection hk with hk1 hk2
    obtain rfl : qs = [] := List.map_eq_nil_iff.1 (List.map_eq_nil_iff.1 hk2)
    obtain rfl : n = 1 := hn
    obtain ⟨g, o, rfl, hg, hra⟩ := h.range (i := 0) (by decide)
    have hrow := flat_row Pv.cl_len [q] 0 (by simp)
    simp only [Nat.zero_mul, Nat.add_zero, List.drop_zero, List.getElem_cons_zero] at hrow hra
    rw [hrow] at hra
    exact ⟨g, o, q, rfl, rfl, hra, hk1⟩
set_option maxHeartbeats 4000000 in
theorem p_awake (w : World) : Calls Try.prog 8 #[] w fun e w' => e = .returned (.bool true) ∧ Below w.heap.size w w' := by
  have HN := Lib.hid (f_new 2 1 1 1 1 w (by decide) (by decide) (by decide) (by decide) (by decide) (by decide) (by decide) (by decide) (by decide) (by decide))
  go_enter Try.func8, Try.ntmps8
  go_wp2_with fail
  refine HN.out.mono ?_
  rintro e w1 ⟨rfl, F1, pp, FF1, hf1, hF1, hb1⟩
  have H1 := Lib.hid (And.intro hf1 (And.intro hF1 hb1))
  clear hf1 hF1 hb1
  go_wp2_with fail
  have HP := Lib.hid (fun (W : World) (hW : Below w1.heap.size w1 W) => H1.out.1.below hW)
  refine (p_data 0 _).mono ?_
  rintro e w2 ⟨q0, rfl, hk0, hr0, hb2⟩
  have hc0 : PvR F1 w2 q0 := hr0 F1 H1.out.1.bd
  have H2 := Lib.hid (And.intro hk0 (And.intro hc0 hb2))
  clear hk0 hr0 hc0 hb2
  go_wp2_with fail
  refine (p_data 1 _).mono ?_
  rintro e w3 ⟨q1, rfl, hk1, hr1, hb3⟩
  have hc1 : PvR F1 w3 q1 := hr1 F1 (H1.out.1.below H2.out.2.2).bd
  have hd0 := H2.out.2.1.below hb3
  have hbb := below_on H2.out.2.2 hb3
  have H3 := Lib.hid (And.intro H2.out.1 (And.intro hk1 (And.intro hd0 (And.intro hc1 hbb))))
  clear hk1 hr1 hc1 hb3 hd0 hbb H2
  go_wp2_with fail
  refine (p_data 2 _).mono ?_
  rintro e w4 ⟨q2, rfl, hk2, hr2, hb4⟩
  obtain ⟨k0, k1, d0, d1, hbb⟩ := H3.out
  have hc2 : PvR F1 w4 q2 := hr2 F1 (H1.out.1.below hbb).bd
  have H4 := Lib.hid (And.intro k0 (And.intro k1 (And.intro hk2 (And.intro (d0.below hb4) (And.intro (d1.below hb4) (And.intro hc2 (below_on hbb hb4)))))))
  clear hk2 hr2 hc2 hb4 hbb k0 k1 d0 d1 H3
  go_wp2_with fail
  refine (p_data 3 _).mono ?_
  rintro e w5 ⟨q3, rfl, hk3, hr3, hb5⟩
  obtain ⟨k0, k1, k2, d0, d1, d2, hbb⟩ := H4.out
  have hc3 : PvR F1 w5 q3 := hr3 F1 (H1.out.1.below hbb).bd
  have hal := (Below.refl w5.heap.size w5).alloc (Nat.le_refl _) (.cells (flat Pv.cl [q0, q1, q2, q3]).toArray 65)
  have hrd := (LstR.made 9 w5 65 (flat Pv.cl [q0, q1, q2, q3]).toArray 4 4 (flat Pv.cl [q0, q1, q2, q3]) rfl (Nat.le_refl _) (Nat.le_refl 36) (by decide) (flat_wf Pv.cl_one _) (fun i hi => by simp)).rd
  have hb6 := below_on (below_on hbb hb5) hal
  have hsl : SlP F1 (w5.alloc (.cells (flat Pv.cl [q0, q1, q2, q3]).toArray 65)) (some ⟨w5.heap.size, 0, none⟩) 4 4 [dt 0, dt 1, dt 2, dt 3] := by
    refine ⟨[q0, q1, q2, q3], rfl, hrd, by simp [k0, k1, k2, hk3], ?_, fun _ ad he hf => ?_⟩
    · intro q hq
      simp only [List.mem_cons, List.not_mem_nil, or_false] at hq
      rcases hq with rfl | rfl | rfl | rfl
      · exact (d0.below hb5).below hal
      · exact (d1.below hb5).below hal
      · exact (d2.below hb5).below hal
      · exact hc3.below hal
    · injection he with he
      subst he
      have := (H1.out.1.below (below_on hbb hb5)).bd _ hf
      simp at this
  have HPut := Lib.hid (f_Put (n := 4) (H1.out.1.below hb6) (FM.new_0 2 1 _ (by decide) (by decide)) (FMb.new 2 1 1 1 1) (fun i => ⟨Int.le_refl _, Int.le_refl _⟩) (by decide) hsl)
  have HB6 := Lib.hid (H1.out.2.2.trans (hb6.mono H1.out.2.2.size))
  have htl : (tabV 5 ((FM.new 2 1 (AM.new 1 1 1)).puts [dt 0, dt 1, dt 2, dt 3]).2).toArray = #[.int .i64 0, .int .i64 1, .int .i64 1, .int .i64 1, .int .i64 1] := by unfold tabV; rw [told4]; rfl
  rw [htl] at HPut
  have HFM : Hid (FMb exP 1 1 8) := Lib.hid (FMc.take (FMb.new 2 1 1 1 1) (fun i => ⟨Int.le_refl _, Int.le_refl _⟩) [dt 0, dt 1, dt 2, dt 3] 4 (by decide)).b
  clear htl hsl hb6 hrd hal hc3 hbb k0 k1 k2 d0 d1 d2 hk3 hr3 hb5 H4 HP
  go_wp2_with fail
  refine HPut.out.mono ?_
  rintro e w7 ⟨rfl, F7, FF7, hf7, hs7, hg7⟩
  have hb8 := (Below.refl w7.heap.size w7).alloc (Nat.le_refl _) (.cells #[.int .i64 0, .int .i64 1, .int .i64 1, .int .i64 1, .int .i64 1] 28)
  have hf7 : FbC F7 (fun _ => False) w7 w.heap.size exP pp FF7 := hf7
  have HS := Lib.hid (f_Serve (hf7.below hb8) exP_0 HFM.out exP_c (by decide) 0 0 1)
  rw [exP_E] at HS
  have hbx := Bk.new w7 28 [.int .i64 0, .int .i64 1, .int .i64 1, .int .i64 1, .int .i64 1]
  have hnx : ¬ F7 w7.heap.size := fun hf => Nat.lt_irrefl _ (hf7.bd _ hf)
  have HB8 := Lib.hid (below_on (HB6.out.trans (hs7.below (HB6.out.size) H1.out.2.1)) hb8)
  have HF7 := Lib.hid (hg7.ge H1.out.2.1 HB6.out.size)
  clear hf7 hs7 hg7 hb8 HPut
  go_wp2_with fail
  refine HS.out.mono ?_
  rintro e w9 ⟨A, n, c, qs, rfl, hn, hrd, hk, F9, FF9, hf9, hs9, hg9, hr9⟩
  obtain ⟨g, o, q, rfl, rfl, hra, hq⟩ := RdR.one_pk hn hrd (by rw [hk]; exact exP_L)
  have c6 := hra 6 (.int .i64 q.h.sq) rfl
  have c3 := hra 3 (.int .i64 q.h.sr) rfl
  have hq1 : q.h.sq = 2 ∧ q.h.sr = 1 := by injection hq with h1 h2; exact ⟨h1, h2⟩
  rw [hq1.1] at c6
  rw [hq1.2] at c3
  have hbx9 := hbx.st hs9 hnx
  have HTo := Lib.hid (f_Total hf9.fp)
  rw [exP_T] at HTo
  have HB9 := Lib.hid (HB8.out.trans (hs9.below HB8.out.size HF7.out))
  clear hn hrd hk hf9 hs9 hg9 hr9 hra hq hq1 hbx hnx HS
  go_wp2_with (first
    | (with_reducible refine at_load 28 (.tmp 3) (by rfl) ?_; refine wpList_load_bk row5 rfl (.tmp 3) rfl w7.heap.size 0 rfl hbx9 [.int .i64 0, .int .i64 1, .int .i64 1, .int .i64 1, .int .i64 1] rfl rfl ?_)
    | (with_reducible refine at_bin .eql 28 28 (.tmp 28) (.tmp 29) (by rfl) ?_; refine wpList_exec rfl (exec_cmp_agg rfl (by kernel_rfl) rfl rfl (eq5 [0, 1, 1, 1, 1] [0, 1, 1, 1, 1] rfl rfl _)) ?_)
    | (go_at_call 21; refine HTo.out.mono ?_; rintro e w10 ⟨rfl, hb10⟩))
  go_ret
  exact ⟨rfl, below_on HB9.out hb10⟩
end Go.Proofs.Ytbhhgfpliggkgaa
