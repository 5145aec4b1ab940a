/- A queue settles; a number is acknowledged. -/
import Derived.Test.YtnakoplceplmmaaV11
import Derived.Sort.QuietIn
set_option linter.unusedSimpArgs false
set_option linter.unusedVariables false
namespace Go.Proofs.Ytnakoplceplmmaa
open Go.RowKit Go.Shelf
theorem wpListIn_clear_cut {P : Program} {w : World} {t e : TypeId} {zs : List Value} {bytes : Nat} {F : Nat → Prop} {A : Option Addr} {n c : Nat} {cs : List Value} {Fe : Fence} {qn : Nat} {ops : Array Oper} {rest : List Oper} {o : Oper} {a : Act} {Q : Exit → Act → World → Prop} (E : EltS P t e zs bytes) (hgd : o.guard = none) (x : Operand)
    (ho : o.op = .call { callee := .builtin .clear, args := #[x], argTypes := #[t] }) {s : Nat} (hx : a.eval x = .slice A s c) (h : LstR zs.length e F w A n c cs) (hs : s ≤ n)
    (hq : ∀ w', LstR zs.length e F w' (cutR A c s zs.length) (n - s) (c - s) (cs.drop (s * zs.length)) → St (BlkOf A) w w' → wpListIn Fe qn P ops Q rest (a.put o.dst (.tuple #[])) w') : wpListIn Fe qn P ops Q (o :: rest) a w := by
  obtain ⟨w', hrun, hl, hst⟩ := run_clear_cut E o.type h hs
  refine wpListIn_plain hgd fun K hK => ?_
  unfold Oper.wpIn
  refine ⟨?_, ?_⟩
  · simp [Oper.about, ho, resolve, Target.leads, Sem.run_pure]
  · rw [Oper.semAt_plain Fe _ _ (by rw [ho]; intro c hc'; cases hc')]
    simp [execOp, ho, resolve, invoke, builtin, hx, hrun, Result.andThen]
    exact hK _ _ (hq w' hl hst)
/-- Variable v holds a number; what was there before the call (w) stays. -/
structure Cnt (w : World) (L v : Nat) (x : Int) (W : World) : Prop where
  bel : Below w.heap.size w W
  sz : L ≤ W.heap.size
  bk : Bk W 3 v [.int .i64 x]
theorem Cnt.own {w : World} {L v B : Nat} {x : Int} {W W' : World} {row : Option Nat} (h : Cnt w L v x W) (hv : v < L) (hL : L ≤ B) (hwL : w.heap.size ≤ L) (hw : W.grownBy W' row)
    (hr : ∀ r, row = some r → B ≤ r ∧ ∃ o : Obj, W.heap[r]? = some o ∧ o.isCells = false) : Cnt w L v x W' := by
  obtain ⟨h1, h2, h3⟩ := h
  have hk : ∀ k, k < L → k < W.heap.size → W'.heap[k]? = W.heap[k]? := fun k hk hs => hw.block k hs (fun e => by have := (hr _ e.symm).1; omega)
  exact ⟨⟨hw.os.trans h1.os, hw.tape.trans h1.tape, hw.output.trans h1.output, Nat.le_trans h1.size hw.size, fun k hk' => (hk k (by omega) (by have := h1.size; omega)).trans (h1.block k hk')⟩, Nat.le_trans h2 hw.size, (hk v hv h3.lt).trans h3⟩
section
variable {F F' : Nat → Prop} {w w1 w2 w' W w5 : World} {g : Nat} {m m' : Sm} {A B : Option Addr} {n c k d : Nat}
/-- The low end moved on. -/
theorem SqA.cutTo {qs : List Sc} {j lo' D : Nat} {ob : Obj} (h : SqA F w g m A n c B k d) (hb : Below w.heap.size w W) (hqn : n = qs.length) (hss : qs.map Sc.say = m.zl) (hqs : ∀ q ∈ qs, BsR w q.A q.n q.c q.xs ∧ q.n ≤ 65536 ∧ ∀ k, BlkOf q.A k → F k)
    (hl : LstR 4 70 F w5 (cutR A c j 4) (n - j) (c - j) ((flat Sc.cl qs).drop (j * 4))) (hs : St (BlkOf A) W w5) (hj : j ≤ n) (hlo : lo' = m.lo + j) (hD : w.heap.size ≤ D) (hnm : (⟨m.most, lo', m.nx, m.L, m.K, m.row⟩ : Sm).Nm) :
    Did F w g ⟨m.most, lo', m.nx, m.L, m.K, m.row⟩ (((w5.setCell ⟨g, 3, none⟩ (.slice (cutR A c j 4) (n - j) (c - j))).setCell ⟨g, 1, none⟩ (.int .i64 lo')).putObj D ob) := by
  have h1 := h.below hb
  have hbk := h1.bk.st hs h1.gA
  have hst : St F w (((w5.setCell ⟨g, 3, none⟩ (.slice (cutR A c j 4) (n - j) (c - j))).setCell ⟨g, 1, none⟩ (.int .i64 lo')).putObj D ob) := by
    have s1 := (St.ext hb).trans (hs.mono fun i _ hi => h1.AF i hi) (Gr.refl _ _)
    have s2 := s1.trans (St.setCell (F := F) w5 (a := ⟨g, 3, none⟩) h.fg (.slice (cutR A c j 4) (n - j) (c - j))) (Gr.refl _ _)
    have s3 := s2.trans (St.setCell (F := F) _ (a := ⟨g, 1, none⟩) h.fg (.int .i64 lo')) (Gr.refl _ _)
    refine ⟨s3.os, s3.tape, s3.output, by simpa [World.putObj] using s3.size, fun i hi hn => ?_⟩
    rw [World.putObj_heap_other (by omega)]
    exact s3.block i hi hn
  have hb3 := (hbk.set 3 (.slice (cutR A c j 4) (n - j) (c - j))).set 1 (.int .i64 lo')
  have ht := hbk.tyd
  -- what is neither the box nor D nor a block of slots
  have hfar : ∀ i, i < w.heap.size → i ≠ g → (((w5.setCell ⟨g, 3, none⟩ (.slice (cutR A c j 4) (n - j) (c - j))).setCell ⟨g, 1, none⟩ (.int .i64 lo')).putObj D ob).heap[i]? = w5.heap[i]? := fun i hi hg => by
    rw [World.putObj_heap_other (by omega), Below.heap_setCell _ _ _ _ (by simpa using hg), Below.heap_setCell _ _ _ _ (by simpa using hg)]
  have hAT : ∀ i, BlkOf A i → Tyd 70 w i := by
    obtain ⟨qs', k1, k2, k3, k4⟩ := h.ls
    exact k2.tyd
  have hw5 : ∀ i, i < w.heap.size → ¬ BlkOf A i → w5.heap[i]? = w.heap[i]? := fun i hi hA => (hs.block i (by have := hb.size; omega) hA).trans (hb.block i hi)
  refine ⟨F, ⟨cutR A c j 4, n - j, c - j, B, k, d, ?_, ?_, ?_, h.fg, fun i hi => by have := h.lt i hi; have := hst.size; omega, hnm⟩, hst, Gr.refl _ _⟩
  · show (((w5.setCell ⟨g, 3, none⟩ (.slice (cutR A c j 4) (n - j) (c - j))).setCell ⟨g, 1, none⟩ (.int .i64 lo')).putObj D ob).heap[g]? = _
    rw [World.putObj_heap_other (by have := h.bk.lt; omega)]
    exact hb3
  · refine ⟨qs.drop j, by rw [List.length_drop, hqn], ?_, ?_, fun q hq => ?_⟩
    · rw [flat_drop Sc.cl_len qs j (by omega)]
      refine hl.same fun ad he => hfar _ ?_ ?_
      · have := (hl.blk ad he).1; exact h.lt _ this
      · intro e
        have := hl.tyd _ ⟨ad, he, rfl⟩
        rw [e] at this
        exact (this.ne (u := 65) (by decide)) ht
    · rw [List.map_drop, hss]
      show m.zl.drop j = (m.L.zip m.K).drop lo'
      unfold Sm.zl
      rw [List.drop_drop, hlo]
    · obtain ⟨k1, k2, k3⟩ := hqs q (List.mem_of_mem_drop hq)
      refine ⟨k1.kps fun ad he => ?_, k2, k3⟩
      have hlt := k1.lt _ ⟨ad, he, rfl⟩
      have z1 : ad.block ≠ g := fun e => by
        have := k1.2 _ ⟨ad, he, rfl⟩
        rw [e] at this
        exact (this.ne (u := 65) (by decide)) h.bk.tyd
      have z2 : ¬ BlkOf A ad.block := fun hA => ((hAT _ hA).ne (u := 5) (by decide)) (k1.2 _ ⟨ad, he, rfl⟩)
      rw [hfar _ hlt z1, hw5 _ hlt z2]
  · refine h.rw.same fun ad he => ?_
    have hlt := (h.rw.blk ad he).2
    have hty := h.rw.tyd _ ⟨ad, he, rfl⟩
    have z1 : ad.block ≠ g := fun e => by
      rw [e] at hty
      exact (hty.ne (u := 65) (by decide)) h.bk.tyd
    have z2 : ¬ BlkOf A ad.block := fun hA => ((hAT _ hA).ne (u := 3) (by decide)) hty
    rw [hfar _ hlt z1, hw5 _ hlt z2]
attribute [local go_sem] Oper.semAt_some
set_option maxRecDepth 100000 in
set_option maxHeartbeats 4000000 in
theorem q_settle (h : SqC F w g m) : Calls Try.prog 36 #[.pointer (some ⟨g, 0, none⟩)] w fun e w' => e = .returned (.tuple #[]) ∧ Did F w g m.settle w' := by
  have HC := Lib.hid h
  obtain ⟨A, n, c, B, k, d, h⟩ := h
  have hgl := h.bk.lt
  have c2 := h.bk.cell 2 rfl
  have hnb : n = m.L.length - m.lo := h.hn
  have hbig := h.ok.big
  have hnl := h.ok.nl
  have hln := h.ok.ln
  have hfl := m.first_le
  have hlf := Sm.lo_first h.ok
  have hjn : m.first - m.lo ≤ n := by omega
  have HFH := Lib.hid m.first_head
  have HJN := Lib.hid hjn
  have HNm := Lib.hid (Sm.settle_nm h.ok)
  have hcap := h.ls.cap
  have hpre : ∀ W : World, _ := fun W => eltS.run_pre A n c (m.first - m.lo) (by omega) hcap.1 W
  have hcut : ∀ W : World, _ := fun W => eltS.run_cut A n c (m.first - m.lo) hjn hcap.1 W
  have e1 : (m.first : Int) - m.lo = ((m.first - m.lo : Nat) : Int) := by omega
  have hfb : m.first ≤ 1000000000 := by omega
  have hlb : m.lo ≤ 1000000000 := by omega
  have H := Lib.hid h
  have HLO : Hid (m.first = m.lo + (m.first - m.lo)) := Lib.hid (by omega)
  have q1 : Bk (w.alloc (.cells #[.int .i64 m.nx] 3)) 3 w.heap.size [.int .i64 m.nx] := Bk.new w 3 [.int .i64 m.nx]
  have hb1 : Below w.heap.size w (w.alloc (.cells #[.int .i64 m.nx] 3)) := (Below.refl _ w).alloc (Nat.le_refl _) _
  have Q := Lib.hid (And.intro q1 hb1)
  clear q1 hb1 h hcap hnb hnl hln hfl hlf hjn hbig
  generalize hjj : m.first - m.lo = j at *
  have hj0 : ((j : Nat) : Int) ≤ 1000000000 := by omega
  clear hjj
  refine (callsIn_wide (n := 5)).1 ?_
  refine callsIn_of_wp_marks Try.func36 rfl trivial ?_ rfl
  simp only [Try.ntmps36, List.size_toArray, List.length_cons, List.length_nil, Nat.reduceAdd, Nat.reduceSub, Array.replicate_succ, Array.replicate_zero, List.push_toArray, List.append_toArray, List.nil_append, List.cons_append]
  gi_wp2
  refine ⟨trivial, (callsIn_wide.2 (q_out _ _)).mono ?_⟩
  rintro e W0 ⟨rfl, hr1, hb2⟩
  obtain ⟨q1, hb1⟩ := Q.out
  have q1' := q1.below hb2
  have hb0 := below_on hb1 hb2
  have hqc := HC.out.below hb0
  simp only [World.size_alloc] at hr1 ⊢
  have hz1 := hr1.lt
  clear q1 hb1 hb2 Q
  gi_wp2
  obtain ⟨L, hL⟩ : ∃ L, L = W0.heap.size := ⟨_, rfl⟩
  have HLz := Lib.hid hL
  have hFL := Lib.hid HC.out.lt
  have hLw : w.heap.size + 1 < L := by omega
  clear hL
  refine wpIn_rangeFunc_ownF rfl (by decide) (gf := 51) (lb := #[.pointer (some ⟨w.heap.size + 1, 0, none⟩)]) rfl trivial (enters_of Try.func51 (by kernel_rfl) rfl)
    (out_stops (5 - 1) (by decide) (fun k => F k ∨ k = w.heap.size + 1) F (w.heap.size + 1) g m W0 (.inr rfl) (fun k hk => .inl hk) (fun k hk => by
      rcases hk with hk | rfl
      · exact hqc.lt k hk
      · exact hz1) hqc hr1) KpS.trans (KpS.put (fun k hk => by
      rcases hk with hk | rfl
      · exact hqc.lt k hk
      · exact hz1)) (Below.refl _ _) (fun _ => rfl)
    (fun pre W => pre = [] ∧ Cnt w L w.heap.size m.nx W) (fun c' pre' W => c' = .exit 0 ∧ ∃ x, pre' = [x] ∧ Cnt w L w.heap.size m.all[x] W) (fun pre W W' row hI hw hr => ⟨hI.1, hI.2.own (by omega) (by have := HLz.out; omega) (by omega) hw hr⟩) (fun c' => ?own) ⟨rfl, hb0, by have := HLz.out; omega, q1'⟩
    (fun i => { tmps := #[.pointer (some ⟨g, 0, none⟩), undef, .pointer (some ⟨w.heap.size, 0, none⟩), .int .i64 m.all[i], undef, .pointer (some ⟨g, 0, none⟩), .pointer (some ⟨g, 0, none⟩), .pointer (some ⟨g, 2, none⟩), .int .i64 m.nx, .pointer (some ⟨g, 0, none⟩), .func (.func 51) #[] #[.pointer (some ⟨w.heap.size + 1, 0, none⟩)], .int .i64 m.all[i], undef, undef, undef, undef, undef, undef, undef, undef, undef, undef, undef, undef, undef, undef, undef, undef, undef, undef, undef, undef, undef, undef, undef, undef, undef, undef], defers := [] }) ?assign ?body ?done ?stop
  case own =>
    rintro pre' W W' row ⟨hc', x, e1, hI⟩ hw hr
    exact ⟨hc', x, e1, hI.own (by omega) (by have := HLz.out; omega) (by omega) hw hr⟩
  case assign =>
    intro l x W K hK
    gi_wp2
    simpa using hK
  case body =>
    rintro l pre x W ⟨rfl, hb, hsz, r⟩ hpre
    have cl := r.cell 0 rfl
    have fl := r.free 0
    have HB := Lib.hid hb
    have HS := Lib.hid hsz
    have HR := Lib.hid (r.set 0 (.int .i64 m.all[x]))
    clear hb hsz r
    gi_wp2
    exact ⟨KeepsOthers.setCell _ _ _, rfl, x, rfl, HB.out.trans ((Below.refl _ _).setCell (by simp) _), by have := HS.out; simp [World.setCell]; omega, HR.out⟩
  case done =>
    rintro D ys W hD rfl ⟨hnil, hb, hsz, r⟩ hK
    have hfx : (m.nx : Int) = m.first := by
      have h0 : m.all = [] := by
        have := congrArg List.length hnil
        simp at this
        exact List.eq_nil_of_length_eq_zero (by simpa using this)
      rw [← HFH.out, h0]
      rfl
    rw [hfx] at r
    clear hnil hfx
    have hWs : g < W.heap.size := by have := hb.size; omega
    have hw1 : IntKind.i64.wrap (j : Int) = j := by rw [IntKind.wrap_i64]; omega
    have HR := Lib.hid r
    have p1 := (hb.cell (p := ⟨g, 1, none⟩) hgl).trans (H.out.bk.cell 1 rfl)
    have pl := r.cell 0 rfl
    gi_wp2_with fail
    gi_quiet (fail)
    have HBD := Lib.hid (Below.drewN_ W nq)
    obtain ⟨wd, hwd⟩ : ∃ wd, wd = W.drewN nq := ⟨_, rfl⟩
    rw [← hwd] at HBD ⊢
    clear hwd
    have hbd2 := below_on hb HBD.out
    have hh := H.out.below hbd2
    obtain ⟨qs, hqn, hls, hss, hqs⟩ := H.out.ls
    have hgA := hh.gA
    have HH := Lib.hid hh
    have c3 := hh.bk.cell 3 rfl
    have hls' := hls.below hbd2
    have rl := HR.out.below HBD.out
    have hbl : ¬ BlkOf A w.heap.size := fun hk => by have := H.out.lt _ (H.out.AF _ hk); omega
    have hbD : ¬ BlkOf A D := fun hk => by have := H.out.lt _ (H.out.AF _ hk); have := hb0.size; have := HLz.out; omega
    have hKd : wd.heap[D]? = some (.deferred (some [])) := (HBD.out.block D (Array.getElem?_eq_some_iff.1 hK).1).trans hK
    have HKd := Lib.hid hKd
    have hFin := Lib.hid (fun w5 hl5 hs5 ob => SqA.cutTo (w5 := w5) (ob := ob) (D := D) H.out hbd2 hqn hss hqs hl5 hs5 HJN.out HLO.out (by have := hb0.size; have := HLz.out; omega) HNm.out)
    have HDn := Lib.hid (show w.heap.size < D by have := hb0.size; have := HLz.out; omega)
    clear hb r hh hls hss hqs hK hKd hsz hqn hbd2
    gi_wp2_with (refine wpListIn_clear_cut eltS rfl (.tmp 24) rfl rfl hls' HJN.out ?_; intro w5 hl5 hs5
                 have hb5 := HH.out.bk.st hs5 hgA
                 have c35 := hb5.cell 3 rfl
                 have f35 := hb5.free 3
                 have c15 := hb5.cell 1 rfl
                 have f15 := hb5.free 1
                 have r5 := rl.st hs5 hbl
                 have cl5 := r5.cell 0 rfl
                 have HK5 : Hid (w5.heap[D]? = some (.deferred (some []))) := Lib.hid ((hs5.block D (Array.getElem?_eq_some_iff.1 HKd.out).1 hbD).trans HKd.out)
                 have HL5 := Lib.hid (And.intro hl5 hs5)
                 clear hl5 hs5 hb5 r5 rl c3)
    have hKf : (((w5.setCell ⟨g, 3, none⟩ (.slice (cutR A c j zsS.length) (n - j) (c - j))).setCell ⟨g, 1, none⟩ (.int .i64 m.first))).heap[D]? = some (.deferred (some [])) := by
      rw [Below.heap_setCell _ _ _ _ (by have := HDn.out; simp; omega), Below.heap_setCell _ _ _ _ (by have := HDn.out; simp; omega)]
      exact HK5.out
    refine ⟨by simp, .inl ⟨_, _, rfl, run_takeDeferred hKf, ?_⟩⟩
    refine ⟨_, results_none rfl _ _ _, ?_⟩
    exact ⟨rfl, hFin.out w5 HL5.out.1 HL5.out.2 _⟩
  case stop =>
    rintro D c' pre' W hD ⟨k', hpk⟩ ⟨rfl, x, e2, hb, hsz, r⟩ hK
    have hfx : m.all[x] = m.first := by
      have hx0 : x.val = 0 := by
        rw [e2] at hpk
        have h0 := congrArg (fun l => l[0]?) hpk
        simp only [List.getElem?_cons_zero, List.getElem?_take] at h0
        split at h0
        · rw [List.getElem?_eq_getElem (by rw [List.length_finRange]; have := x.isLt; omega)] at h0
          injection h0 with h0
          rw [h0]
          simp
        · cases h0
      rw [← HFH.out]
      have hl0 : 0 < m.all.length := by have := x.isLt; omega
      rw [Fin.getElem_fin]
      simp only [hx0]
      rw [List.head?_eq_getElem?, List.getElem?_eq_getElem hl0]
      rfl
    rw [hfx] at r
    clear hpk hfx e2
    have hWs : g < W.heap.size := by have := hb.size; omega
    have hw1 : IntKind.i64.wrap (j : Int) = j := by rw [IntKind.wrap_i64]; omega
    have HR := Lib.hid r
    have p1 := (hb.cell (p := ⟨g, 1, none⟩) hgl).trans (H.out.bk.cell 1 rfl)
    have pl := r.cell 0 rfl
    gi_wp2_with fail
    gi_quiet (fail)
    have HBD := Lib.hid (Below.drewN_ W nq)
    obtain ⟨wd, hwd⟩ : ∃ wd, wd = W.drewN nq := ⟨_, rfl⟩
    rw [← hwd] at HBD ⊢
    clear hwd
    have hbd2 := below_on hb HBD.out
    have hh := H.out.below hbd2
    obtain ⟨qs, hqn, hls, hss, hqs⟩ := H.out.ls
    have hgA := hh.gA
    have HH := Lib.hid hh
    have c3 := hh.bk.cell 3 rfl
    have hls' := hls.below hbd2
    have rl := HR.out.below HBD.out
    have hbl : ¬ BlkOf A w.heap.size := fun hk => by have := H.out.lt _ (H.out.AF _ hk); omega
    have hbD : ¬ BlkOf A D := fun hk => by have := H.out.lt _ (H.out.AF _ hk); have := hb0.size; have := HLz.out; omega
    have hKd : wd.heap[D]? = some (.deferred (some [])) := (HBD.out.block D (Array.getElem?_eq_some_iff.1 hK).1).trans hK
    have HKd := Lib.hid hKd
    have hFin := Lib.hid (fun w5 hl5 hs5 ob => SqA.cutTo (w5 := w5) (ob := ob) (D := D) H.out hbd2 hqn hss hqs hl5 hs5 HJN.out HLO.out (by have := hb0.size; have := HLz.out; omega) HNm.out)
    have HDn := Lib.hid (show w.heap.size < D by have := hb0.size; have := HLz.out; omega)
    clear hb r hh hls hss hqs hK hKd hsz hqn hbd2
    gi_wp2_with (refine wpListIn_clear_cut eltS rfl (.tmp 24) rfl rfl hls' HJN.out ?_; intro w5 hl5 hs5
                 have hb5 := HH.out.bk.st hs5 hgA
                 have c35 := hb5.cell 3 rfl
                 have f35 := hb5.free 3
                 have c15 := hb5.cell 1 rfl
                 have f15 := hb5.free 1
                 have r5 := rl.st hs5 hbl
                 have cl5 := r5.cell 0 rfl
                 have HK5 : Hid (w5.heap[D]? = some (.deferred (some []))) := Lib.hid ((hs5.block D (Array.getElem?_eq_some_iff.1 HKd.out).1 hbD).trans HKd.out)
                 have HL5 := Lib.hid (And.intro hl5 hs5)
                 clear hl5 hs5 hb5 r5 rl c3)
    have hKf : (((w5.setCell ⟨g, 3, none⟩ (.slice (cutR A c j zsS.length) (n - j) (c - j))).setCell ⟨g, 1, none⟩ (.int .i64 m.first))).heap[D]? = some (.deferred (some [])) := by
      rw [Below.heap_setCell _ _ _ _ (by have := HDn.out; simp; omega), Below.heap_setCell _ _ _ _ (by have := HDn.out; simp; omega)]
      exact HK5.out
    refine ⟨by simp, .inl ⟨_, _, rfl, run_takeDeferred hKf, ?_⟩⟩
    refine ⟨_, results_none rfl _ _ _, ?_⟩
    exact ⟨rfl, hFin.out w5 HL5.out.1 HL5.out.2 _⟩
/-- A slot is marked. -/
theorem SqA.marked (h : SqA F w g m A n c B k d) {s : Nat} (hs : m.lacks (s : Int) = true) : ∃ g1 o, A = some ⟨g1, o, none⟩ ∧ g1 < w.heap.size ∧ F g1 ∧ g1 ≠ g ∧ (∃ v, w.cell? ⟨g1, o + (s - m.lo) * 4 + 3, none⟩ = some v) ∧ w.frozen? ⟨g1, o + (s - m.lo) * 4 + 3, none⟩ = false ∧
    SqA F (w.setCell ⟨g1, o + (s - m.lo) * 4 + 3, none⟩ (.bool true)) g (m.mark s) A n c B k d := by
  obtain ⟨h1, h2, h3⟩ := Sm.lacks_iff.1 hs
  have hn := h.hn
  have hnl := h.ok.nl
  have hi : s - m.lo < n := by omega
  obtain ⟨p, b, y1, y2, y3⟩ := Sm.zl_at h.ok (i := s) (by omega) (by omega)
  have hls := h.ls
  obtain ⟨g1, o, q, rfl, hF, hg1, hra, hbs, hq, hss, hfz⟩ := h.ls.row hi
  have hgg : g1 ≠ g := fun e => h.gA ⟨_, rfl, e⟩
  have hst : St (· = g1) w (w.setCell ⟨g1, o + (s - m.lo) * 4 + 3, none⟩ (.bool true)) := St.setCell (F := (· = g1)) w (a := ⟨g1, o + (s - m.lo) * 4 + 3, none⟩) rfl _
  have hty : Tyd 70 w g1 := by
    obtain ⟨qs', k1, k2, k3, k4⟩ := hls
    exact k2.tyd g1 ⟨_, rfl, rfl⟩
  refine ⟨g1, o, rfl, hg1, hF, hgg, ⟨_, hra 3 _ rfl⟩, hfz _, h.bk.st hst (fun e => hgg e.symm), ?_, h.rw.same fun ad he => ?_, h.fg, fun j hj => by simpa [World.setCell] using h.lt j hj, Sm.mark_nm h.ok s⟩
  · rw [Sm.mark_zl h.ok hs (p := p) (by rw [Int.toNat_natCast]; exact y2), Int.toNat_natCast]
    exact hls.on hi y1
  · refine hst.block _ (h.rw.blk ad he).2 fun e => ?_
    have := h.rw.tyd _ ⟨ad, he, rfl⟩
    rw [e] at this
    exact (this.ne (u := 70) (by decide)) hty
set_option maxHeartbeats 4000000 in
theorem q_ack (h : SqC F w g m) (hok : m.Ok) (s : Int) : Calls Try.prog 15 #[.pointer (some ⟨g, 0, none⟩), .int .i64 s] w fun e w' => e = .returned (.bool (m.lacks s)) ∧ Did F w g (m.ack s) w' := by
  have HL := Lib.hid (q_lacks h s)
  cases hl : m.lacks s with
  | false =>
    have HV : Hid (m.ack s = m) := Lib.hid (by unfold Sm.ack; rw [if_neg (by rw [hl]; simp)])
    have HE := Lib.hid hl
    have H := Lib.hid h
    clear h hok hl
    go_enter Try.func15, Try.ntmps15
    go_wp2_with (go_at_call 30; refine HL.out.mono ?_; rintro e w1 ⟨rfl, hb1⟩; rw [HE.out]
                 have HB1 := Lib.hid hb1
                 clear hb1)
    go_ret
    exact ⟨rfl, by rw [HV.out]; exact ⟨F, H.out.below HB1.out, St.ext HB1.out, Gr.refl _ _⟩⟩
  | true =>
    have HV : Hid (m.ack s = ((m.mark s).drop s).settle) := Lib.hid (by unfold Sm.ack; rw [if_pos hl])
    have HE := Lib.hid hl
    obtain ⟨h1, h2, h3⟩ := Sm.lacks_iff.1 hl
    obtain ⟨s, rfl⟩ : ∃ s' : Nat, s = s' := ⟨s.toNat, by omega⟩
    have hgl : g < w.heap.size := h.lt _ h.fg
    obtain ⟨A, n, c, B, k, d, h⟩ := h
    have hn := h.hn
    have hnl := h.ok.nl
    have hbig := h.ok.big
    obtain ⟨g1, o, rfl, hg1, hF1, hgg, _, _, _⟩ := h.marked hl
    have HMk : Hid (∀ W, Below w.heap.size w W → SqA F W g m (some ⟨g1, o, none⟩) n c B k d) := Lib.hid fun W hW => h.below hW
    have hi' : ((s - m.lo : Nat) : Int) < n := by omega
    have e1 : (s : Int) - m.lo = ((s - m.lo : Nat) : Int) := by omega
    have hjb : s - m.lo ≤ 1000000000 := by omega
    have hw1 : IntKind.i64.wrap (((s - m.lo : Nat) : Int)) = ((s - m.lo : Nat) : Int) := by rw [IntKind.wrap_i64]; omega
    have HF1 := Lib.hid hF1
    have HND := Lib.hid hok.nd
    clear hok hl hn hnl hbig h hF1 h1 h2 h3
    go_enter Try.func15, Try.ntmps15
    go_wp2_with (go_at_call 30; refine HL.out.mono ?_; rintro e w1 ⟨rfl, hb1⟩; rw [HE.out]
                 have HB1 := Lib.hid hb1
                 clear hb1)
    refine wp_region_L Ext [12] (by kernel_rfl) (fun wd hbd hsz => ?_)
    have hbd2 := below_on HB1.out hbd
    have hd := HMk.out wd hbd2
    obtain ⟨g2, o2, he2, _, _, _, ⟨v9, c9⟩, f9, hmk⟩ := hd.marked HE.out
    injection he2 with he2
    injection he2 with he3 he4
    subst he3 he4
    have HM7 : Hid (SqA F (wd.setCell ⟨g1, o + (s - m.lo) * 4 + 3, none⟩ (.bool true)) g (m.mark s) (some ⟨g1, o, none⟩) n c B k d ∧ St F w (wd.setCell ⟨g1, o + (s - m.lo) * 4 + 3, none⟩ (.bool true))) := Lib.hid ⟨hmk, (St.ext hbd2).trans (St.setCell (F := F) wd (a := ⟨g1, o + (s - m.lo) * 4 + 3, none⟩) HF1.out (.bool true)) (Gr.refl _ _)⟩
    have q1 : ∀ W, Ext wd W → W.cell? ⟨g, 1, none⟩ = some (.int .i64 m.lo) := fun W hW => (hd.bk.below hW).cell 1 rfl
    have q3 : ∀ W, Ext wd W → W.cell? ⟨g, 3, none⟩ = some (.slice (some ⟨g1, o, none⟩) n c) := fun W hW => (hd.bk.below hW).cell 3 rfl
    clear hsz hd hmk
    (refine takeL Ext.tr 0 (by simp only [List.getElem?_toArray, List.getElem?_cons_succ, List.getElem?_cons_zero]; rfl) (by kernel_rfl) (by kernel_rfl) (by kernel_rfl) (by kernel_rfl) (by exact fun _ _ _ h => h) (by first | (refine Or.inl ⟨by rfl, ?_⟩; intro W hW; go_simp; try with_reducible rfl) | exact Or.inr ⟨by rfl, rfl⟩) ?_; try simp only [Act.put, List.setIfInBounds_toArray, List.set_cons_zero, List.set_cons_succ])
    (refine takeL Ext.tr 4 (by simp only [List.getElem?_toArray, List.getElem?_cons_succ, List.getElem?_cons_zero]; rfl) (by kernel_rfl) (by kernel_rfl) (by kernel_rfl) (by kernel_rfl) (by exact fun _ _ _ h => h) (by first | (refine Or.inl ⟨by rfl, ?_⟩; intro W hW; go_simp; try with_reducible rfl) | exact Or.inr ⟨by rfl, rfl⟩) ?_; try simp only [Act.put, List.setIfInBounds_toArray, List.set_cons_zero, List.set_cons_succ])
    (refine takeL Ext.tr 5 (by simp only [List.getElem?_toArray, List.getElem?_cons_succ, List.getElem?_cons_zero]; rfl) (by kernel_rfl) (by kernel_rfl) (by kernel_rfl) (by kernel_rfl) (by exact fun _ _ _ h => h) (by first | (refine Or.inl ⟨by rfl, ?_⟩; intro W hW; go_simp; try with_reducible rfl) | exact Or.inr ⟨by rfl, rfl⟩) ?_; try simp only [Act.put, List.setIfInBounds_toArray, List.set_cons_zero, List.set_cons_succ])
    (refine takeL Ext.tr 1 (by simp only [List.getElem?_toArray, List.getElem?_cons_succ, List.getElem?_cons_zero]; rfl) (by kernel_rfl) (by kernel_rfl) (by kernel_rfl) (by kernel_rfl) (by exact fun _ _ _ h => h) (by first | (refine Or.inl ⟨by rfl, ?_⟩; intro W hW; go_simp; try with_reducible rfl) | exact Or.inr ⟨by rfl, rfl⟩) ?_; try simp only [Act.put, List.setIfInBounds_toArray, List.set_cons_zero, List.set_cons_succ])
    (refine takeL Ext.tr 6 (by simp only [List.getElem?_toArray, List.getElem?_cons_succ, List.getElem?_cons_zero]; rfl) (by kernel_rfl) (by kernel_rfl) (by kernel_rfl) (by kernel_rfl) (by exact fun _ _ _ h => h) (by first | (refine Or.inl ⟨by rfl, ?_⟩; intro W hW; go_simp; try with_reducible rfl) | exact Or.inr ⟨by rfl, rfl⟩) ?_; try simp only [Act.put, List.setIfInBounds_toArray, List.set_cons_zero, List.set_cons_succ])
    (refine takeL Ext.tr 2 (by simp only [List.getElem?_toArray, List.getElem?_cons_succ, List.getElem?_cons_zero]; rfl) (by kernel_rfl) (by kernel_rfl) (by kernel_rfl) (by kernel_rfl) (by exact fun _ _ _ h => h) (by first | (refine Or.inl ⟨by rfl, ?_⟩; intro W hW; go_simp; try with_reducible rfl) | exact Or.inr ⟨by rfl, rfl⟩) ?_; try simp only [Act.put, List.setIfInBounds_toArray, List.set_cons_zero, List.set_cons_succ])
    (refine takeL Ext.tr 7 (by simp only [List.getElem?_toArray, List.getElem?_cons_succ, List.getElem?_cons_zero]; rfl) (by kernel_rfl) (by kernel_rfl) (by kernel_rfl) (by kernel_rfl) (by exact fun _ _ _ h => h) (by first | (refine Or.inl ⟨by rfl, ?_⟩; intro W hW; go_simp; try with_reducible rfl) | exact Or.inr ⟨by rfl, rfl⟩) ?_; try simp only [Act.put, List.setIfInBounds_toArray, List.set_cons_zero, List.set_cons_succ])
    (refine takeL Ext.tr 3 (by simp only [List.getElem?_toArray, List.getElem?_cons_succ, List.getElem?_cons_zero]; rfl) (by kernel_rfl) (by kernel_rfl) (by kernel_rfl) (by kernel_rfl) (by exact fun _ _ _ h => h) (by first | (refine Or.inl ⟨by rfl, ?_⟩; intro W hW; go_simp; try with_reducible rfl) | exact Or.inr ⟨by rfl, rfl⟩) ?_; try simp only [Act.put, List.setIfInBounds_toArray, List.set_cons_zero, List.set_cons_succ])
    (refine takeL Ext.tr 8 (by simp only [List.getElem?_toArray, List.getElem?_cons_succ, List.getElem?_cons_zero]; rfl) (by kernel_rfl) (by kernel_rfl) (by kernel_rfl) (by kernel_rfl) (by exact fun _ _ _ h => h) (by first | (refine Or.inl ⟨by rfl, ?_⟩; intro W hW; go_simp; try with_reducible rfl) | exact Or.inr ⟨by rfl, rfl⟩) ?_; try simp only [Act.put, List.setIfInBounds_toArray, List.set_cons_zero, List.set_cons_succ])
    (refine takeL Ext.tr 9 (by simp only [List.getElem?_toArray, List.getElem?_cons_succ, List.getElem?_cons_zero]; rfl) (by kernel_rfl) (by kernel_rfl) (by kernel_rfl) (by kernel_rfl) (by exact fun _ _ _ h => h) (by first | (refine Or.inl ⟨by rfl, ?_⟩; intro W hW; go_simp; try with_reducible rfl) | exact Or.inr ⟨by rfl, rfl⟩) ?_; try simp only [Act.put, List.setIfInBounds_toArray, List.set_cons_zero, List.set_cons_succ])
    (refine takeL Ext.tr 10 (by simp only [List.getElem?_toArray, List.getElem?_cons_succ, List.getElem?_cons_zero]; rfl) (by kernel_rfl) (by kernel_rfl) (by kernel_rfl) (by kernel_rfl) (by exact fun _ _ _ h => h) (by first | (refine Or.inl ⟨by rfl, ?_⟩; intro W hW; go_simp; try with_reducible rfl) | exact Or.inr ⟨by rfl, rfl⟩) ?_; try simp only [Act.put, List.setIfInBounds_toArray, List.set_cons_zero, List.set_cons_succ])
    (refine takeL Ext.tr 11 (by simp only [List.getElem?_toArray, List.getElem?_cons_succ, List.getElem?_cons_zero]; rfl) (by kernel_rfl) (by kernel_rfl) (by kernel_rfl) (by kernel_rfl) (by exact fun _ _ _ h => h) (by first | (refine Or.inl ⟨by rfl, ?_⟩; intro W hW; go_simp; try with_reducible rfl) | exact Or.inr ⟨by rfl, rfl⟩) ?_; try simp only [Act.put, List.setIfInBounds_toArray, List.set_cons_zero, List.set_cons_succ])
    refine wpAnyL_one (i := 12) (by kernel_rfl) (by simp only [List.getElem?_toArray, List.getElem?_cons_succ, List.getElem?_cons_zero]; rfl) (fun K hK => ?_)
    go_simp
    refine hK.out _ _ (.inl (by decide)) ?_
    clear hK K
    try simp only [Act.put, List.setIfInBounds_toArray, List.set_cons_zero, List.set_cons_succ]
    refine wpAnyL_done (by kernel_rfl) ?_ _
    clear q1 q3
    go_wp2_with fail
    refine (l_drop ⟨_, _, _, _, _, _, HM7.out.1⟩ s HND.out).mono ?_
    rintro e w8 ⟨rfl, hd8⟩
    have HD8 := Lib.hid hd8
    clear hd8
    have HD9 : Hid (∀ F8, SqC F8 w8 g ((m.mark s).drop s) → Calls Try.prog 36 #[.pointer (some ⟨g, 0, none⟩)] w8 fun e w' => e = .returned (.tuple #[]) ∧ Did F8 w8 g ((m.mark s).drop s).settle w') := Lib.hid fun F8 h8 => q_settle h8
    obtain ⟨F8, h8, s8, g8⟩ := HD8.out
    go_wp2_with fail
    refine (HD9.out F8 h8).mono ?_
    rintro e w9 ⟨rfl, F9, h9, s9, g9⟩
    have HX := Lib.hid (And.intro h9 (And.intro ((HM7.out.2.trans s8 (Gr.refl _ _)).trans s9 (fun j hj => (g8 j hj).imp id (Nat.le_trans HM7.out.2.size))) (Gr.trans (fun j hj => (g8 j hj).imp id (Nat.le_trans HM7.out.2.size)) g9 (Nat.le_trans HM7.out.2.size s8.size))))
    clear h9 s9 g9 h8 s8 g8 HD9
    go_wp2
    go_ret
    refine ⟨rfl, ?_⟩
    rw [HV.out]
    exact ⟨F9, HX.out.1, HX.out.2.1, HX.out.2.2⟩
end
end Go.Proofs.Ytnakoplceplmmaa
