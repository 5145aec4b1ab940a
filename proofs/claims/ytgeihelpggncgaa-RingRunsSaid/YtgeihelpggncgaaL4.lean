/- What an iterator tells, up to a place. -/
import Derived.Test.YtgeihelpggncgaaL2
set_option linter.unusedSimpArgs false
set_option linter.unusedVariables false
namespace Go.Proofs.Ytgeihelpggncgaa
open Go.RowKit Go.Shelf Rgint
attribute [local go_sem] Oper.semAt_some

theorem run_equalIn_func_nil (w : World) (k : Nat) (f : Fn) (ts b : Array Value) : (Op.equalIn (k + 1) 71 (.func f ts b) .nilFunc).run Try.prog w = .ok false w := by
  simp [Op.equalIn, run_underlying Try.underlying71]
theorem run_func_nil (w : World) (f : Fn) (ts b : Array Value) : (binOp .eql 71 (.func f ts b) .nilFunc).run Try.prog w = .ok (.bool false) w := by
  simp only [binOp]
  simp [Op.equal, Op.maxDepth, run_equalIn_func_nil w 9999 f ts b]

/-- Each stands at its own place. -/
def okAt {n : Nat} (pre : List (Fin n)) : Bool := pre.zipIdx.all fun p => p.1.val == p.2
theorem okAt_snoc {n : Nat} (pre : List (Fin n)) (x : Fin n) : okAt (pre ++ [x]) = (okAt pre && (x.val == pre.length)) := by
  simp [okAt, List.zipIdx_append]
theorem okAt_all (n : Nat) : okAt (List.finRange n) = true := by
  simp only [okAt, List.all_eq_true]
  rintro ⟨i, k⟩ h
  have := List.mem_zipIdx h
  obtain ⟨h1, h2, h3⟩ := this
  rw [h3]
  simp
theorem okAt_take (n k : Nat) : okAt ((List.finRange n).take k) = true := by
  have h := okAt_all n
  rw [← List.take_append_drop k (List.finRange n)] at h
  simp only [okAt, List.zipIdx_append, List.all_append, Bool.and_eq_true] at h
  exact h.1

/-- Between two rounds: what was told. -/
def TolI (most : Nat) (vs : List Value) (w : World) (pre : List (Fin vs.length)) (W : World) : Prop :=
  Bk W 3 w.heap.size [.int .i64 most] ∧ Bk W 4 (w.heap.size + 3) [.bool (okAt pre)] ∧ Below w.heap.size w W ∧ w.heap.size + 4 ≤ W.heap.size ∧ pre.length ≤ most ∧
  ∃ A n c, Bk W 27 (w.heap.size + 2) [.slice A n c] ∧ Lst 3 (DropF w.heap.size) W A n c (vals vs pre)
theorem tolI_own {most : Nat} {vs : List Value} {w : World} {B : Nat} (hB : w.heap.size + 4 ≤ B) : OwnFrom B (TolI most vs w) := by
  rintro pre W W' row ⟨h1, h2, h3, h4, hm, A, n, c, h5, h6⟩ hw hr
  have hk : ∀ k, k < w.heap.size + 4 → W'.heap[k]? = W.heap[k]? := fun k hk => hw.block k (by omega) (fun e => by have := (hr _ e.symm).1; omega)
  refine ⟨(hk _ (by omega)).trans h1, (hk _ (by omega)).trans h2, ⟨hw.os.trans h3.os, hw.tape.trans h3.tape, hw.output.trans h3.output, Nat.le_trans h3.size hw.size, fun k hk' => (hk k (by omega)).trans (h3.block k hk')⟩, Nat.le_trans h4 hw.size, hm, A, n, c, (hk _ (by omega)).trans h5, h6.same fun ad he => ?_⟩
  refine hw.block _ (h6.blk ad he).2 fun e => ?_
  obtain ⟨_, o, ho, hc⟩ := hr _ e.symm
  rcases h6.2.2.2.2 with ⟨rfl, _⟩ | ⟨g, o', cur, rfl, _, hh, _⟩
  · cases he
  · injection he with he
    subst he
    rw [hh] at ho
    injection ho with ho
    subst ho
    cases hc
/-- A round has left. -/
def TolX (most : Nat) (vs : List Value) (w : World) (c : Code) (pre' : List (Fin vs.length)) (W : World) : Prop :=
  c = .exit 0 ∧ ∃ pre x, pre' = pre ++ [x] ∧ most ≤ pre.length ∧ TolI most vs w pre W
def Told (most : Nat) (vs : List Value) (w : World) (e : Ending) (w' : World) : Prop := ∃ A n c, e = .returned (.tuple #[.slice A n c, .bool true]) ∧ Lst 3 (w.heap.size ≤ ·) w' A n c (vs.take most) ∧ Below w.heap.size w w'
theorem told_end {most : Nat} {vs : List Value} {w W : World} {D : Nat} {A : Option Addr} {n c : Nat} {ls : List Value} (hb : Below w.heap.size w W) (hl : Lst 3 (DropF w.heap.size) W A n c ls)
    (hK : W.heap[D]? = some (.deferred (some []))) (hD : w.heap.size ≤ D) (he : ls = vs.take most) (q : Nat) : Told most vs w (.returned (.tuple #[.slice A n c, .bool true])) ((W.drewN q).putObj D (.deferred none)) := by
  refine ⟨A, n, c, rfl, ?_, ?_⟩
  · rw [← he]
    refine (hl.mono (F' := (w.heap.size ≤ ·)) fun k hk => hk.1).same fun ad he => ?_
    show (((W.drewN q).putObj D (.deferred none)).heap[ad.block]? = W.heap[ad.block]?)
    rw [World.putObj_heap_other]
    · rfl
    · rintro rfl
      rcases hl.2.2.2.2 with ⟨rfl, _⟩ | ⟨g', o', cur, rfl, _, hh, _⟩
      · cases he
      · injection he with he
        subst he
        rw [hh] at hK
        cases hK
  · refine ⟨hb.os, hb.tape, hb.output, by have := hb.size; simp [World.putObj]; omega, fun k hk => ?_⟩
    rw [World.putObj_heap_other (by omega)]
    exact hb.block k hk

set_option maxRecDepth 100000 in
set_option maxHeartbeats 4000000 in
theorem told_any (P : Option Addr) (vs : List Value) (most : Nat) (w : World) (hlv : vs.length ≤ 1024) (hm : most ≤ 1000) (h1c : ∀ v ∈ vs, v.oneCell' = true)
    (HLL : ∀ W, Below w.heap.size w W → Calls Try.prog 12 #[.pointer P] W (Made 3 vs W)) :
    Calls Try.prog 19 #[.pointer P, .int .i64 most] w (Told most vs w) := by
  have fn := fun (w : World) (f : Fn) (ts b : Array Value) => run_func_nil w f ts b
  refine (callsIn_wide (n := 5)).1 ?_
  refine callsIn_of_wp_marks Try.func19 rfl trivial ?_ rfl
  simp only [Try.ntmps19, List.size_toArray, List.length_cons, List.length_nil, Nat.reduceAdd, Nat.reduceSub, Array.replicate_succ, Array.replicate_zero, List.push_toArray, List.append_toArray, List.nil_append, List.cons_append]
  gi_wp2
  refine ⟨trivial, (callsIn_wide.2 (all_any _ _)).mono ?_⟩
  rintro e w' ⟨rfl, rfl⟩
  gi_wp2
  clear fn
  have hW : ∃ W0, W0 = (((w.alloc (.cells #[.int .i64 most] 3)).alloc (.cells #[.pointer P] 23)).alloc (.cells #[.slice none 0 0] 27)).alloc (.cells #[.bool true] 4) := ⟨_, rfl⟩
  obtain ⟨W0, hW0⟩ := hW
  rw [← hW0]
  have hs0 : W0.heap.size = w.heap.size + 4 := by rw [hW0]; simp
  have hb0 : Below w.heap.size w W0 := by rw [hW0]; exact ((((Below.refl _ w).alloc (Nat.le_refl _) _).alloc (by simp) _).alloc (by simp; omega) _).alloc (by simp; omega) _
  have q0 : Bk W0 3 w.heap.size [.int .i64 most] := by
    rw [hW0]; exact (((Bk.new w _ [.int .i64 most]).alloc _).alloc _).alloc _
  have q1 : Bk W0 23 (w.heap.size + 1) [.pointer P] := by
    have := ((Bk.new (w.alloc (.cells #[.int .i64 most] 3)) 23 [.pointer P]).alloc (.cells #[.slice none 0 0] 27)).alloc (.cells #[.bool true] 4)
    rw [hW0]; simpa using this
  have q2 : Bk W0 27 (w.heap.size + 2) [.slice none 0 0] := by
    have := (Bk.new ((w.alloc (.cells #[.int .i64 most] 3)).alloc (.cells #[.pointer P] 23)) 27 [.slice none 0 0]).alloc (.cells #[.bool true] 4)
    rw [hW0]; simpa using this
  have q3 : Bk W0 4 (w.heap.size + 3) [.bool true] := by
    have := Bk.new (((w.alloc (.cells #[.int .i64 most] 3)).alloc (.cells #[.pointer P] 23)).alloc (.cells #[.slice none 0 0] 27)) 4 [.bool true]
    rw [hW0]; simpa using this
  clear hW0
  simp only [Nat.add_assoc, Nat.reduceAdd]
  have hL := fun W (hW : Below W0.heap.size W0 W) => HLL W (hb0.trans (hW.mono hb0.size))
  refine wpIn_rangeFunc_ownF rfl (by decide) (gf := 42) (lb := #[.pointer (some ⟨w.heap.size + 1, 0, none⟩)]) rfl trivial (enters_of Try.func42 (by kernel_rfl) rfl)
    (all_stops (5 - 1) (by decide) (OwnB [w.heap.size + 3] (w.heap.size + 2)) (w.heap.size + 1) P vs W0 hlv hL q1 ?hO) KpO.trans (KpO.put _ (by omega)) (Below.refl _ _) (fun _ => rfl)
    (TolI most vs w) (TolX most vs w) (tolI_own (by omega)) (fun c' => ?own) ⟨q0, q3, hb0, by omega, Nat.zero_le _, _, _, _, q2, Lst.nil _ _ _⟩
    (fun i => { tmps := #[.pointer P, .int .i64 most, undef, .pointer (some ⟨w.heap.size, 0, none⟩), .slice none 0 0, .bool false, .func (.func 42) #[] #[.pointer (some ⟨w.heap.size + 1, 0, none⟩)], .pointer (some ⟨w.heap.size + 2, 0, none⟩), .pointer (some ⟨w.heap.size + 3, 0, none⟩), .int .i64 i.val, vs[i], .pointer P, .func (.func 42) #[] #[.pointer (some ⟨w.heap.size + 1, 0, none⟩)], .func (.func 42) #[] #[.pointer (some ⟨w.heap.size + 1, 0, none⟩)], .bool false, .func (.func 42) #[] #[.pointer (some ⟨w.heap.size + 1, 0, none⟩)], .int .i64 i.val, vs[i], undef, undef, undef, undef, undef, undef, undef, undef, undef, undef, undef, undef, undef, undef, undef, undef, undef], defers := [] }) ?assign ?body ?done ?stop
  case own =>
    rintro pre' W W' row ⟨hc', pre, x, e1, e2, hI⟩ hw hr
    exact ⟨hc', pre, x, e1, e2, tolI_own (by omega) pre W W' row hI hw hr⟩
  case hO =>
    rintro W hW k (hk | hk | ⟨ad, n', c', hk, rfl⟩)
    · simp at hk; omega
    · omega
    · rw [(q2.below hW).cell 0 rfl] at hk
      injection hk with hk
      injection hk with hk
      cases hk
  case assign =>
    intro l x W K hK
    gi_wp2
    simpa using hK
  case body =>
    rintro l pre x W ⟨r0, r3, hb, hsz, hpm, A1, n1, c1, r2, hl⟩ hpre
    have c0 := r0.cell 0 rfl
    have cl := r2.cell 0 rfl
    have fl := r2.free 0
    have cg := r3.cell 0 rfl
    have fg := r3.free 0
    have hn1 : n1 = pre.length := by rw [← hl.1, vals_length]
    subst hn1
    have hsn := vals_snoc vs pre x
    have hx1 : (vs[x]).oneCell' = true := h1c _ (by simp)
    obtain ⟨y, hy⟩ : ∃ y, y = vs[x] := ⟨_, rfl⟩
    rw [← hy] at hsn hx1 ⊢
    have hok := okAt_snoc pre x
    obtain ⟨nb0, nb2, nb3, nbk⟩ := dropF_ne hl
    by_cases hlt : most ≤ pre.length
    · have hI : TolI most vs w pre W := ⟨r0, r3, hb, hsz, hpm, A1, _, c1, r2, hl⟩
      have HI := Lib.hid hI
      clear hI hok hsn hy hx1
      gi_wp2
      exact ⟨KeepsOthers.refl _, rfl, pre, x, rfl, hlt, HI.out⟩
    · have hli : (pre.length : Int) < most := by omega
      have hplen : (pre.length : Int) ≤ 1024 := by omega
      have hlt' := (hl.alloc (.cells #[y] 3)).tight
      have hok2 : ∃ b, okAt (pre ++ [x]) = b := ⟨_, rfl⟩
      obtain ⟨b, hb2⟩ := hok2
      rw [hok] at hb2
      have hstep : ∀ (v : Value) (w1 w2 : World), w1 = W.setCell ⟨w.heap.size + 3, 0, none⟩ (.bool b) → Apd 3 (BlkOf A1) (w1.alloc (.cells #[y] 3)) v (vals vs pre ++ [y]) w2 →
          KeepsOthers W (w2.setCell ⟨w.heap.size + 2, 0, none⟩ v) ∧ KpO (OwnB [w.heap.size + 3] (w.heap.size + 2)) W (w2.setCell ⟨w.heap.size + 2, 0, none⟩ v) ∧ TolI most vs w (pre ++ [x]) (w2.setCell ⟨w.heap.size + 2, 0, none⟩ v) := by
        rintro v w1 w2 hw1 ⟨⟨A', n', c', rfl, hl'⟩, hst⟩
        have hKB : KpO (OwnB [w.heap.size + 3] (w.heap.size + 2)) W w1 := by rw [hw1]; exact KpO.box (by simp) (by omega) W _
        have hKO : KeepsOthers W w1 := by rw [hw1]; exact KeepsOthers.setCell _ _ _
        have r0a : Bk w1 3 w.heap.size [.int .i64 most] := by rw [hw1]; exact r0.far (by simp) _
        have r2a : Bk w1 27 (w.heap.size + 2) [.slice A1 pre.length c1] := by rw [hw1]; exact r2.far (by simp) _
        have r3a : Bk w1 4 (w.heap.size + 3) [.bool b] := by rw [hw1]; simpa using r3.set 0 (.bool b)
        have hla : Lst 3 (DropF w.heap.size) w1 A1 pre.length c1 (vals vs pre) := by rw [hw1]; exact hl.far (fun ad he hne => nb3 ⟨ad, he, hne⟩) _
        have hba : Below w.heap.size w w1 := by rw [hw1]; exact hb.setCell (p := ⟨w.heap.size + 3, 0, none⟩) (by simp) _
        have hsa : w.heap.size + 4 ≤ w1.heap.size := by rw [hw1]; simpa [World.setCell] using hsz
        clear hw1
        have hbal : Below w1.heap.size w1 (w1.alloc (.cells #[y] 3)) := (Below.refl _ _).alloc (Nat.le_refl _) _
        have hsta : St (BlkOf A1) w1 w2 := (St.ext hbal).trans hst (Gr.refl _ _)
        have hF' : ∀ ad, A' = some ad → BlkOf A1 ad.block ∨ w1.heap.size ≤ ad.block := fun ad he => by
          rcases (hl'.blk ad he).1 with h | h
          · exact .inl h
          · simp at h; exact .inr (by omega)
        have hDF : Lst 3 (DropF w.heap.size) w2 A' n' c' (vals vs pre ++ [y]) := by
          refine hl'.mono ?_
          rintro k (⟨ad, he, rfl⟩ | hk)
          · exact (hl.blk ad he).1
          · simp at hk; unfold DropF; omega
        obtain ⟨nc0, nc2, nc3, nck⟩ := dropF_ne hDF
        have hb3 : Below w.heap.size w1 w2 := ⟨hsta.os, hsta.tape, hsta.output, hsta.size, fun k hk => hsta.block k (by omega) (nbk k hk)⟩
        refine ⟨?_, hKB.trans (KpO.stored r2a nb2 hbal hst hF'), ?_⟩
        · refine hKO.trans ((KeepsOthers.alloc w1 _).trans (KeepsOthers.trans ⟨hst.size, fun k o ho hc => ?_⟩ (KeepsOthers.setCell _ _ _)))
          rw [hst.block k (Array.getElem?_eq_some_iff.1 ho).1 ?_]
          · exact ho
          · rintro ⟨ad, rfl, rfl⟩
            rcases (hla.alloc (.cells #[y] 3)).2.2.2.2 with ⟨h, _⟩ | ⟨g', o', cur, h, _, hh, _⟩
            · cases h
            · injection h with h
              subst h
              rw [hh] at ho
              injection ho with ho
              subst ho
              cases hc
        · unfold TolI
          rw [hsn, hok, hb2]
          exact ⟨(r0a.st hsta nb0).far (by simp) _, (r3a.st hsta nb3).far (by simp) _, (hba.trans hb3).setCell (p := ⟨w.heap.size + 2, 0, none⟩) (by simp) _, by have := hsta.size; simp [World.setCell]; omega, by simp; omega, A', n', c', (r2a.st hsta nb2).set 0 _, hDF.far (fun ad he hne => nc2 ⟨ad, he, hne⟩) _⟩
      have HSt := Lib.hid hstep
      have hlA : Lst 3 (BlkOf A1) ((W.setCell ⟨w.heap.size + 3, 0, none⟩ (.bool b)).alloc (.cells #[y] 3)) A1 pre.length c1 (vals vs pre) := ((hl.far (p := ⟨w.heap.size + 3, 0, none⟩) (fun ad he hne => nb3 ⟨ad, he, hne⟩) (.bool b)).alloc _).tight
      have huA := RdV.one (W.setCell ⟨w.heap.size + 3, 0, none⟩ (.bool b)) 3 y hx1
      have r2A := (r2.far (p := ⟨w.heap.size + 3, 0, none⟩) (by simp) (.bool b)).alloc (.cells #[y] 3)
      clear hstep hok hsn hy
      have hcs : (okAt pre = false ∧ b = false) ∨ (okAt pre = true ∧ x.val = pre.length ∧ b = true) ∨ (okAt pre = true ∧ x.val ≠ pre.length ∧ b = false) := by
        rw [← hb2]
        cases okAt pre with
        | false => simp
        | true => by_cases h : x.val = pre.length <;> simp [h]
      rcases hcs with ⟨e1, e2⟩ | ⟨e1, e3, e2⟩ | ⟨e1, e3, e2⟩
      · rw [e1] at r3 cg
        subst e2
        skip
        clear e1 hb2
        gi_wp2_with (first
                     | (refine wpListIn_build_one (x := y) elt rfl (.tmp 30) rfl rfl hx1 ?_)
                     | (gi_at_builtin
                        refine wpListIn_append_lst elt rfl (.tmp 29) (.tmp 31) rfl rfl hlA rfl huA (by omega) ?_
                        rintro v w2 ⟨⟨A', n', c', rfl, hl'⟩, hst⟩
                        have HQ := Lib.hid (HSt.out _ _ w2 rfl ⟨⟨A', n', c', rfl, hl'⟩, hst⟩)
                        have r2w := r2A.st hst nb2
                        have c3 := r2w.cell 0 rfl
                        have f3 := r2w.free 0
                        clear hst hl' HSt))
        exact HQ.out
      · rw [e1] at r3 cg
        subst e2
        have hbe : ((x.val : Int) == pre.length) = true := by simp [e3]
        clear e3
        clear e1 hb2
        gi_wp2_with (first
                     | (refine wpListIn_build_one (x := y) elt rfl (.tmp 30) rfl rfl hx1 ?_)
                     | (gi_at_builtin
                        refine wpListIn_append_lst elt rfl (.tmp 29) (.tmp 31) rfl rfl hlA rfl huA (by omega) ?_
                        rintro v w2 ⟨⟨A', n', c', rfl, hl'⟩, hst⟩
                        have HQ := Lib.hid (HSt.out _ _ w2 rfl ⟨⟨A', n', c', rfl, hl'⟩, hst⟩)
                        have r2w := r2A.st hst nb2
                        have c3 := r2w.cell 0 rfl
                        have f3 := r2w.free 0
                        clear hst hl' HSt))
        exact HQ.out
      · rw [e1] at r3 cg
        subst e2
        have hbe : ((x.val : Int) == pre.length) = false := by simp; omega
        clear e3
        clear e1 hb2
        gi_wp2_with (first
                     | (refine wpListIn_build_one (x := y) elt rfl (.tmp 30) rfl rfl hx1 ?_)
                     | (gi_at_builtin
                        refine wpListIn_append_lst elt rfl (.tmp 29) (.tmp 31) rfl rfl hlA rfl huA (by omega) ?_
                        rintro v w2 ⟨⟨A', n', c', rfl, hl'⟩, hst⟩
                        have HQ := Lib.hid (HSt.out _ _ w2 rfl ⟨⟨A', n', c', rfl, hl'⟩, hst⟩)
                        have r2w := r2A.st hst nb2
                        have c3 := r2w.cell 0 rfl
                        have f3 := r2w.free 0
                        clear hst hl' HSt))
        exact HQ.out
  case done =>
    rintro D ys W hD rfl ⟨r0, r3, hb, hsz, hpm, A1, n1, c1, r2, hl⟩ hK
    rw [okAt_all] at r3
    rw [vals_all] at hl
    have cg := r3.cell 0 rfl
    have cl := r2.cell 0 rfl
    have hvm : vs = vs.take most := by
      rw [List.length_finRange] at hpm
      rw [List.take_of_length_le hpm]
    have HV := Lib.hid hvm
    clear hvm
    gi_wp2
    gi_quiet (fail)
    gi_wp2
    refine ⟨by simp, .inl ⟨_, _, rfl, run_takeDeferred hK, ?_⟩⟩
    refine ⟨.tuple #[.slice A1 n1 c1, .bool true], by simp [results, Try.results19, go_sem], ?_⟩
    exact told_end hb hl hK (by omega) HV.out _
  case stop =>
    rintro D c' pre' W hD ⟨k, hpk⟩ ⟨rfl, pre, x, e1, e2, r0, r3, hb, hsz, hpm, A1, n1, c1, r2, hl⟩ hK
    have hpre : pre = (List.finRange vs.length).take most := by
      obtain rfl : pre.length = most := by omega
      rw [e1] at hpk
      have hk : pre.length ≤ k := by
        have := congrArg List.length hpk
        simp at this
        omega
      have := congrArg (List.take pre.length) hpk
      rw [List.take_take, Nat.min_eq_left hk] at this
      rw [← this]
      simp
    rw [hpre, vals_take] at hl
    rw [hpre, okAt_take] at r3
    have cg := r3.cell 0 rfl
    have cl := r2.cell 0 rfl
    clear hpre e1 hpk
    gi_wp2
    gi_quiet (fail)
    gi_wp2
    refine ⟨by simp, .inl ⟨_, _, rfl, run_takeDeferred hK, ?_⟩⟩
    refine ⟨.tuple #[.slice A1 n1 c1, .bool true], by simp [results, Try.results19, go_sem], ?_⟩
    exact told_end hb hl hK (by omega) rfl _
end Go.Proofs.Ytgeihelpggncgaa
