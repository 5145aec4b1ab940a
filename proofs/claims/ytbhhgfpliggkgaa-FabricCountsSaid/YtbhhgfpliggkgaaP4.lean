/- Packets: alike, returned, heavy; all of a queue. -/
import Derived.Test.YtbhhgfpliggkgaaP3
set_option linter.unusedSimpArgs false
set_option linter.unusedVariables false
set_option maxRecDepth 100000
namespace Go.Proofs.Ytbhhgfpliggkgaa
open Go.RowKit Go.Shelf

theorem MadeP.below {F : Nat → Prop} {w w1 w' : World} {p : Pk} {q : Pv} (hb : Below w.heap.size w w1) (h : MadeP F w1 p q w') : MadeP F w p q w' := ⟨h.1, h.2.1, below_on hb h.2.2⟩
theorem MadeP.then {F : Nat → Prop} {w w1 w' : World} {p : Pk} {q : Pv} (h : MadeP F w p q w1) (hb : Below w1.heap.size w1 w') : MadeP F w p q w' := ⟨h.1, h.2.1.below hb, below_on h.2.2 hb⟩
theorem Wr.on {w w1 w' : World} {g : Nat} (hb : Below w.heap.size w w1) (hw : Wr g w1 w') (hg : w.heap.size ≤ g) : Below w.heap.size w w' := hb.trans (hw.below hg hb.size)
/-- A value that reads off F goes on to read where a block of the call's own has turned. -/
theorem PvR.wr {F : Nat → Prop} {w w' : World} {q : Pv} {g : Nat} (h : PvR F w q) (hw : Wr g w w') (hg : 0 < q.n → ∀ ad, q.A = some ad → ad.block ≠ g) : PvR F w' q :=
  ⟨h.1.wr' hg hw, h.2⟩
section
variable {F : Nat → Prop} {w : World} {q : Pv}
theorem p_alike {G : Nat → Prop} (h : PvR G w q) (hF : ∀ k, F k → k < w.heap.size) :
    Calls Try.prog 54 #[.agg #[.int .i64 q.h.kd, .int .i64 q.h.fl, .int .i64 q.h.pa, .int .i64 q.h.sr, .int .i64 q.h.ds, .int .i64 q.h.cn, .int .i64 q.h.sq, .int .i64 q.h.pu, .slice q.A q.n q.c]] w fun e w' => ∃ q', e = .returned (.agg #[.int .i64 q'.h.kd, .int .i64 q'.h.fl, .int .i64 q'.h.pa, .int .i64 q'.h.sr, .int .i64 q'.h.ds, .int .i64 q'.h.cn, .int .i64 q'.h.sq, .int .i64 q'.h.pu, .slice q'.A q'.n q'.c]) ∧ MadeP F w q.pk q' w' := by
  have hwf := Lib.hid h.1.2.2.2.2.1
  have hl := Lib.hid h.1.1
  have hn := h.2.1
  have HF := Lib.hid hF
  have Hfl := Lib.hid h.fl
  have hr := h.1
  clear hF h
  go_enter Try.func54, Try.ntmps54
  go_wp2_with fail
  refine (clone_any q.A q.n q.c q.xs _ (by exact (hr.alloc _).alloc _) (by omega)).mono ?_
  rintro e w1 ⟨v, rfl, hown, hb1⟩
  have HO : ∃ A' c', v = .slice A' q.n c' := by obtain ⟨A', c', h1, _⟩ := hown.rd hwf.out; exact ⟨A', c', by rw [h1, hl.out]⟩
  obtain ⟨A', c', rfl⟩ := HO
  obtain ⟨hx, hy, hc⟩ := pk_new2 hb1
  have hown2 := own_set (hown.mono (B := w.heap.size + 2) (by simp)) (p := ⟨w.heap.size, 8, none⟩) (u := .slice A' q.n c') (by simp)
  have hx2 : Bk (w1.setCell ⟨w.heap.size, 8, none⟩ (.slice A' q.n c')) 65 w.heap.size (Pv.cl ⟨q.h, A', q.n, c', q.xs⟩) := hx.set 8 (.slice A' q.n c')
  have hy2 := hy.far (p := ⟨w.heap.size, 8, none⟩) (by simp) (.slice A' q.n c')
  have hc2 := hc.setCell (p := ⟨w.heap.size, 8, none⟩) (Nat.le_refl w.heap.size) (.slice A' q.n c')
  have c8 := hx.cell 8 rfl
  have f8 := hx.free 8
  have HW := Lib.hid hown2
  clear hown hown2 hb1 hx hy hc hr
  go_wp2_with (first
    | (with_reducible refine at_load 65 (.tmp 1) (by rfl) ?_; refine wpList_load_pk rowP rfl (.tmp 1) rfl ⟨q.h, A', q.n, c', q.xs⟩ w.heap.size 0 rfl (Bk.pk (q := ⟨q.h, A', q.n, c', q.xs⟩) hx2) ?_)
    | (with_reducible refine at_store 65 (.tmp 2) (.tmp 7) (by rfl) ?_; refine wpList_put_pk rowP rfl (.tmp 2) (.tmp 7) rfl (w.heap.size + 1) rfl hy2 rfl ⟨q.h, A', q.n, c', q.xs⟩ rfl ?_; rintro w5 hz5 hw5))
  have hown5 : Ow .u8 5 w.heap.size w5 (.slice A' q.n c') q.xs := by
    have h1 := HW.out
    refine Ow.mono (base := w.heap.size + 2) ?_ (by omega)
    refine ⟨h1.1, ?_⟩
    rcases h1.2 with hn | ⟨b, cap, cur, hv, hb, hh, r⟩
    · exact .inl hn
    · exact .inr ⟨b, cap, cur, hv, hb, (hw5.block b (Array.getElem?_eq_some_iff.1 hh).1 (by intro e; injection e; omega)).trans hh, r⟩
  refine bodyPost_ret (results_cell rfl rfl (load_pk rowP hz5)) rfl ⟨⟨q.h, A', q.n, c', q.xs⟩, rfl, rfl, PvR.own hown5 hwf.out (by omega) Hfl.out HF.out, hc2.trans (hw5.below (by omega) hc2.size)⟩
def Pk.ret (p : Pk) : Pk := p.trim.bnc
def Pk.retB (p : Pk) : Bool := p.trim.bncB
theorem PvR.off {F : Nat → Prop} {w w' : World} {q : Pv} {g : Nat} (h : PvR (fun k => F k ∨ k = g) w q) (hw : Wr g w w') : PvR F w' q :=
  (h.wr hw fun hn ad he e => h.2.2.2 hn ad he (.inr e)).mono fun k hk => .inl hk
theorem gr_box (F : Nat → Prop) {n g : Nat} (h : n ≤ g) : Gr F (fun k => F k ∨ k = g) n := fun k hk => by
  rcases hk with hk | hk
  · exact .inl hk
  · exact .inr (by omega)
theorem p_returned {G : Nat → Prop} (h : PvR G w q) (hF : ∀ k, F k → k < w.heap.size) :
    Calls Try.prog 62 #[.agg #[.int .i64 q.h.kd, .int .i64 q.h.fl, .int .i64 q.h.pa, .int .i64 q.h.sr, .int .i64 q.h.ds, .int .i64 q.h.cn, .int .i64 q.h.sq, .int .i64 q.h.pu, .slice q.A q.n q.c]] w fun e w' => ∃ q', e = .returned (.tuple #[.agg #[.int .i64 q'.h.kd, .int .i64 q'.h.fl, .int .i64 q'.h.pa, .int .i64 q'.h.sr, .int .i64 q'.h.ds, .int .i64 q'.h.cn, .int .i64 q'.h.sq, .int .i64 q'.h.pu, .slice q'.A q'.n q'.c], .bool q.pk.retB]) ∧ MadeP F w q.pk.ret q' w' := by
  have HF := Lib.hid hF
  have HT : ∀ o o', Calls Try.prog 63 #[.agg #[.int .i64 q.h.kd, .int .i64 q.h.fl, .int .i64 q.h.pa, .int .i64 q.h.sr, .int .i64 q.h.ds, .int .i64 q.h.cn, .int .i64 q.h.sq, .int .i64 q.h.pu, .slice q.A q.n q.c]] ((w.alloc o).alloc o') fun e w' => ∃ q', e = .returned (.tuple #[.agg #[.int .i64 q'.h.kd, .int .i64 q'.h.fl, .int .i64 q'.h.pa, .int .i64 q'.h.sr, .int .i64 q'.h.ds, .int .i64 q'.h.cn, .int .i64 q'.h.sq, .int .i64 q'.h.pu, .slice q'.A q'.n q'.c], .bool q.pk.trimB]) ∧ MadeP (fun k => F k ∨ k = w.heap.size + 1) ((w.alloc o).alloc o') q.pk.trim q' w' := fun o o' =>
    p_trim (h.below (((Below.refl _ _).alloc (Nat.le_refl _) o).alloc (by simp) o')) (fun k hk => by rcases hk with hk | hk; (have := hF k hk; simp; omega); (simp; omega))
  have HT' := Lib.hid HT
  clear HT hF h
  go_enter Try.func62, Try.ntmps62
  go_wp2_with fail
  refine (HT'.out _ _).mono ?_
  rintro e w1 ⟨q1, rfl, hq1, hr1, hb1⟩
  obtain ⟨hx, hy, hc⟩ := pk_new2 hb1
  have hF1 : ∀ k, (F k ∨ k = w.heap.size + 1) → k < w1.heap.size := fun k hk => by
    rcases hk with hk | hk
    · exact Nat.lt_of_lt_of_le (HF.out k hk) hc.size
    · have := hy.lt; omega
  have hz4 := Bk.new w1 65 [.int .i64 q1.h.kd, .int .i64 q1.h.fl, .int .i64 q1.h.pa, .int .i64 q1.h.sr, .int .i64 q1.h.ds, .int .i64 q1.h.cn, .int .i64 q1.h.sq, .int .i64 q1.h.pu, .slice q1.A q1.n q1.c]
  have hc1 := hc.alloc hc.size (.cells (List.toArray [.int .i64 q1.h.kd, .int .i64 q1.h.fl, .int .i64 q1.h.pa, .int .i64 q1.h.sr, .int .i64 q1.h.ds, .int .i64 q1.h.cn, .int .i64 q1.h.sq, .int .i64 q1.h.pu, .slice q1.A q1.n q1.c]) 65)
  have hy1 := hy.alloc (.cells (List.toArray [.int .i64 q1.h.kd, .int .i64 q1.h.fl, .int .i64 q1.h.pa, .int .i64 q1.h.sr, .int .i64 q1.h.ds, .int .i64 q1.h.cn, .int .i64 q1.h.sq, .int .i64 q1.h.pu, .slice q1.A q1.n q1.c]) 65)
  have HB := Lib.hid (p_bounce (hr1.below ((Below.refl _ _).alloc (Nat.le_refl _) (.cells (List.toArray [.int .i64 q1.h.kd, .int .i64 q1.h.fl, .int .i64 q1.h.pa, .int .i64 q1.h.sr, .int .i64 q1.h.ds, .int .i64 q1.h.cn, .int .i64 q1.h.sq, .int .i64 q1.h.pu, .slice q1.A q1.n q1.c]) 65))) (fun k hk => by have := hF1 k hk; simp; omega))
  clear hx hy hc hb1 HT'
  go_wp2_with (first
    | (with_reducible refine at_load 65 (.tmp 1) (by rfl) ?_; refine wpList_load_pk rowP rfl (.tmp 4) rfl q1 w1.heap.size 0 rfl (Bk.pk (q := q1) hz4) ?_)
    | (go_at_call 75; refine HB.out.mono ?_; rintro e w2 ⟨q2, rfl, hq2, hr2, hb2⟩; have hy2 := hy1.below hb2; clear hy1 hz4)
    | (with_reducible refine at_store 65 (.tmp 2) (.tmp 13) (by rfl) ?_; refine wpList_put_pk rowP rfl (.tmp 2) (.tmp 13) rfl (w.heap.size + 1) rfl hy2 rfl q2 rfl ?_; rintro w5 hz5 hw5))
  rw [hq1] at hq2
  have hc5 := below_on hc1 hb2
  exact bodyPost_ret (results_cell_tmp rfl rfl (load_pk rowP hz5)) rfl ⟨q2, rfl, hq2, hr2.off hw5, Wr.on hc5 hw5 (by omega)⟩
theorem p_heavy (h : PvR F w q) :
    Calls Try.prog 79 #[.agg #[.int .i64 q.h.kd, .int .i64 q.h.fl, .int .i64 q.h.pa, .int .i64 q.h.sr, .int .i64 q.h.ds, .int .i64 q.h.cn, .int .i64 q.h.sq, .int .i64 q.h.pu, .slice q.A q.n q.c]] w fun e w' => e = .returned (.bool q.pk.heavy) ∧ Below w.heap.size w w' := by
  have hl := h.len
  have HE : Hid (q.pk.heavy = (q.h.kd == 1 && decide ((0 : Int) < q.n))) := Lib.hid (by unfold Pk.heavy Pv.pk; rw [hl]; simp)
  clear h hl
  by_cases hk : q.h.kd = 1
  · go_enter Try.func79, Try.ntmps79
    go_wp2
    go_ret
    exact ⟨by rw [HE.out]; simp [hk], (Below.refl _ _).alloc (Nat.le_refl _) _⟩
  · have hk' : (q.h.kd == 1) = false := by simpa using hk
    go_enter Try.func79, Try.ntmps79
    go_wp2
    go_ret
    exact ⟨by rw [HE.out]; simp [hk'], (Below.refl _ _).alloc (Nat.le_refl _) _⟩
/-- What is told of a list of packets: a slice of its own, whose packets lie off F. -/
def MadeA (F : Nat → Prop) (w : World) (ps : List Pk) (en : Ending) (w' : World) : Prop :=
  ∃ A n c rs, en = .returned (.slice A n c) ∧ n = rs.length ∧ rs.map Pv.pk = ps ∧ LstR 9 65 (w.heap.size ≤ ·) w' A n c (flat Pv.cl rs) ∧ (∀ r ∈ rs, PvR F w' r) ∧ Below w.heap.size w w'
theorem MadeA.below {w w1 w' : World} {ps : List Pk} {en : Ending} (hb : Below w.heap.size w w1) (h : MadeA F w1 ps en w') : MadeA F w ps en w' := by
  obtain ⟨A, n, c, rs, h1, h2, h3, h4, h5, h6⟩ := h
  exact ⟨A, n, c, rs, h1, h2, h3, h4.mono fun k hk => by have := hb.size; omega, h5, below_on hb h6⟩
/-- A packet is laid into a list. -/
theorem wpList_lay_pk {P : Program} {w : World} {ops : Array Oper} {rest : List Oper} {op : Oper} {a : Act} {Q : Exit → Act → World → Prop} {e : TypeId} {g o n c i : Nat} {cs : List Value} {F : Nat → Prop} (R : Row P e 9) (hgd : op.guard = none) (x y : Operand) (ho : op.op = .store e x y)
    (h : LstR 9 e F w (some ⟨g, o, none⟩) n c cs) (hi : i < n) (hx : a.eval x = .pointer (some ⟨g, o + i * 9, none⟩)) (q : Pv) (hy : a.eval y = .agg #[.int .i64 q.h.kd, .int .i64 q.h.fl, .int .i64 q.h.pa, .int .i64 q.h.sr, .int .i64 q.h.ds, .int .i64 q.h.cn, .int .i64 q.h.sq, .int .i64 q.h.pu, .slice q.A q.n q.c])
    (hq : ∀ w', LstR 9 e F w' (some ⟨g, o, none⟩) n c (lay cs (i * 9) q.cl) → Wr g w w' → wpList P ops Q rest (a.put op.dst undef) w') : wpList P ops Q (op :: rest) a w :=
  wpList_store_mid hgd e x y ho g (o + i * 9) q.cl.toArray hx hy (h.there hi) R.hi (all_oneCell_toArray q.cl_one) (hq _ (h.lay hi q.cl_len q.cl_one) (Wr.setCells g _ _ w))
set_option maxHeartbeats 4000000 in
set_option maxRecDepth 100000 in
theorem p_allAlike {p room : Nat} {Fq G : Nat → Prop} {qs : List Pv} (h : Qs Fq w p room qs) (hq : ∀ r ∈ qs, PvR G w r) (hF : ∀ k, F k → k < w.heap.size) :
    Calls Try.prog 57 #[.pointer (some ⟨p, 0, none⟩)] w (MadeA F w (qs.map Pv.pk)) := by
  have HL := Lib.hid (q_list h)
  have h1024 : qs.length ≤ 1024 := Nat.le_trans h.2.2.2.1 h.2.2.1
  have HQ := Lib.hid hq
  have HF := Lib.hid hF
  clear h hq hF
  go_enter Try.func57, Try.ntmps57
  go_wp2_with fail
  refine HL.out.mono ?_
  rintro e w1 ⟨A, n, c, rfl, hn, hl, hb⟩
  have HN := Lib.hid hn
  have hnl : n ≤ 1024 := by omega
  have HB := Lib.hid hb
  have HLs := Lib.hid hl
  clear hn HL hl hb
  go_wp2
  go_loopw [10] (fun v wr => ∃ (i : Nat) (rs : List Pv), v = .int .i64 i ∧ i ≤ n ∧ rs.length = i ∧ rs.map Pv.pk = (qs.take i).map Pv.pk ∧ (∀ r ∈ rs, PvR (fun k => F k ∨ BlkOf A k) wr r) ∧ LstR 9 65 (BlkOf A) wr A n c (flat Pv.cl (rs ++ qs.drop i)) ∧ Below w.heap.size w wr) (fun v _ => n - (intOf v).toNat)
  case atStart => exact ⟨0, [], rfl, Nat.zero_le _, rfl, rfl, by simp, HLs.out.tight, HB.out⟩
  case round =>
    obtain ⟨i, rs, rfl, hi, hrl, hrm, hrr, hls, hb⟩ := hrel
    have hAw : ∀ k, BlkOf A k → w.heap.size ≤ k := by
      rintro k ⟨ad, he, rfl⟩
      exact (HLs.out.blk ad he).1
    by_cases hlt : i < n
    · have hlt' : i < qs.length := by have := HN.out; omega
      obtain ⟨g, o, rfl, hg, hra⟩ := hls.rd.range hlt
      rw [flat_row Pv.cl_len (rs ++ qs.drop i) i (by simp; omega)] at hra
      have hqi : (rs ++ qs.drop i)[i]'(by simp; omega) = qs[i] := by
        rw [List.getElem_append_right (by omega), List.getElem_drop]
        congr 1; omega
      rw [hqi] at hra
      have hq := HQ.out qs[i] (List.getElem_mem _)
      have hset : ∀ q', (rs ++ qs.drop i).set i q' = (rs ++ [q']) ++ qs.drop (i + 1) := fun q' => by
        rw [List.set_append_right _ _ (by omega), hrl, Nat.sub_self, List.drop_eq_getElem_cons hlt', List.set_cons_zero, List.append_assoc]
        rfl
      have htk : (qs.take (i + 1)).map Pv.pk = rs.map Pv.pk ++ [qs[i].pk] := by rw [List.take_succ_eq_append_getElem hlt', List.map_append, ← hrm]; rfl
      generalize qs[i] = q at *
      have hqw := (hq.below hb).below ((Below.refl _ _).alloc (Nat.le_refl _) (.cells (List.toArray [.int .i64 q.h.kd, .int .i64 q.h.fl, .int .i64 q.h.pa, .int .i64 q.h.sr, .int .i64 q.h.ds, .int .i64 q.h.cn, .int .i64 q.h.sq, .int .i64 q.h.pu, .slice q.A q.n q.c]) 65))
      have hbd : ∀ k, (F k ∨ BlkOf (some ⟨g, o, none⟩) k) → k < (wr.alloc (.cells (List.toArray [.int .i64 q.h.kd, .int .i64 q.h.fl, .int .i64 q.h.pa, .int .i64 q.h.sr, .int .i64 q.h.ds, .int .i64 q.h.cn, .int .i64 q.h.sq, .int .i64 q.h.pu, .slice q.A q.n q.c]) 65)).heap.size := by
        intro k hk
        rw [World.size_alloc]
        have := hb.size
        rcases hk with hk | hk
        · have := HF.out k hk; omega
        · obtain ⟨ad, he, rfl⟩ := hk
          have := (hls.blk ad he).2; omega
      have HA := Lib.hid (p_alike (F := fun k => F k ∨ BlkOf (some ⟨g, o, none⟩) k) hqw hbd)
      have hzq := Bk.new wr 65 [.int .i64 q.h.kd, .int .i64 q.h.fl, .int .i64 q.h.pa, .int .i64 q.h.sr, .int .i64 q.h.ds, .int .i64 q.h.cn, .int .i64 q.h.sq, .int .i64 q.h.pu, .slice q.A q.n q.c]
      have HRL := Lib.hid hrl
      have HRM := Lib.hid hrm
      have HSet := Lib.hid hset
      have HTk := Lib.hid htk
      have hlsa := hls.alloc (.cells (List.toArray [.int .i64 q.h.kd, .int .i64 q.h.fl, .int .i64 q.h.pa, .int .i64 q.h.sr, .int .i64 q.h.ds, .int .i64 q.h.cn, .int .i64 q.h.sq, .int .i64 q.h.pu, .slice q.A q.n q.c]) 65)
      clear hrl hrm hset htk hqi hq hqw hbd
      go_wp2_with (first
        | (with_reducible refine at_load 65 (.tmp 13) (by rfl) ?_; refine wpList_load_pk rowP rfl (.tmp 13) rfl q g (o + i * 9) rfl hra ?_)
        | (with_reducible refine at_load 65 (.tmp 5) (by rfl) ?_; refine wpList_load_pk rowP rfl (.tmp 5) rfl q wr.heap.size 0 rfl (Bk.pk (q := q) hzq) ?_)
        | (go_at_call 54; refine HA.out.mono ?_; rintro e w2 ⟨q', rfl, hq', hr', hb2⟩; have hls2 := hlsa.below hb2; clear hzq hlsa)
        | (with_reducible refine at_store 65 (.tmp 19) (.tmp 18) (by rfl) ?_; refine wpList_lay_pk rowP rfl (.tmp 19) (.tmp 18) rfl hls2 hlt rfl q' rfl ?_; rintro w3 hls3 hw3))
      rw [← flat_set Pv.cl_len _ i (by rw [List.length_append, List.length_drop, HRL.out]; omega), HSet.out] at hls3
      have hb3 : Below w.heap.size w w3 := ((hb.alloc hb.size _).trans (hb2.mono (by have := hb.size; simp; omega))).trans (hw3.below (hAw g ⟨_, rfl, rfl⟩) (by have := hb.size; have := hb2.size; simp at this; omega))
      have hrr3 : ∀ r ∈ rs ++ [q'], PvR (fun k => F k ∨ BlkOf (some ⟨g, o, none⟩) k) w3 r := by
        intro r hr
        have hoff : PvR (fun k => F k ∨ BlkOf (some ⟨g, o, none⟩) k) w2 r := by
          rcases List.mem_append.1 hr with hr | hr
          · exact ((hrr r hr).below ((Below.refl _ _).alloc (Nat.le_refl _) _)).below hb2
          · rw [List.mem_singleton.1 hr]; exact hr'
        exact hoff.wr hw3 fun hn ad he e => hoff.2.2.2 hn ad he (.inr ⟨_, rfl, e.symm⟩)
      have HRel := Lib.hid (show (rs ++ [q']).map Pv.pk = (qs.take (i + 1)).map Pv.pk by rw [HTk.out, List.map_append, ← hq']; rfl)
      clear hls2 hls hra hrr HA
      go_wp2
      go_roundw
      case rel => exact ⟨i + 1, rs ++ [q'], by go_num, by omega, by rw [List.length_append, HRL.out]; rfl, HRel.out, hrr3, hls3, hb3⟩
      case measure => simp [intOf]; omega
    · obtain rfl : i = n := by omega
      have hd : qs.drop i = [] := List.drop_of_length_le (by have := HN.out; omega)
      have htk : qs.take i = qs := List.take_of_length_le (by have := HN.out; omega)
      rw [hd, List.append_nil] at hls
      rw [htk] at hrm
      have HRL := Lib.hid hrl
      have HRM := Lib.hid hrm
      clear hd htk hrl hrm
      go_wp2
      go_ret
      exact ⟨A, i, c, rs, rfl, HRL.out.symm, HRM.out, hls.mono hAw, fun r hr => (hrr r hr).mono fun k hk => .inl hk, hb⟩
end
end Go.Proofs.Ytbhhgfpliggkgaa
