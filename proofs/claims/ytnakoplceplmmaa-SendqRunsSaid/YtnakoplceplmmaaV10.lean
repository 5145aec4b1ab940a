/- The outstanding numbers: the iterator, gathered. -/
import Derived.Test.YtnakoplceplmmaaV9
import Derived.Test.YtnakoplceplmmaaRegZ
set_option linter.unusedSimpArgs false
set_option linter.unusedVariables false
namespace Go.Proofs.Ytnakoplceplmmaa
open Go.RowKit Go.Shelf
theorem lt_of_blk {w w' : World} {k : Nat} (hk : k < w.heap.size) (he : w'.heap[k]? = w.heap[k]?) : k < w'.heap.size := by
  rw [Array.getElem?_eq_getElem hk] at he
  exact (Array.getElem?_eq_some_iff.1 he).1
theorem BsR.kps {w w' : World} {A : Option Addr} {n c : Nat} {xs : List Int} (h : BsR w A n c xs) (hb : ∀ ad, A = some ad → w'.heap[ad.block]? = w.heap[ad.block]?) : BsR w' A n c xs := by
  refine ⟨?_, ?_⟩
  · obtain ⟨h1, h2, h3, h4, h5, h6⟩ := h.1
    refine ⟨h1, h2, h3, h4, h5, fun hn => ?_⟩
    obtain ⟨g, o, e, hg, hx⟩ := h6 hn
    exact ⟨g, o, e, lt_of_blk hg (hb _ e), fun i hi => (World.cell?_of_block (a := ⟨g, o + i, none⟩) (hb ⟨g, o, none⟩ e)).trans (hx i hi)⟩
  · rintro k ⟨ad, he, rfl⟩
    obtain ⟨cur, fz, ht⟩ := h.2 _ ⟨ad, he, rfl⟩
    exact ⟨cur, fz, (hb ad he).trans ht⟩
/-- Its blocks stay. -/
theorem SqC.kps {F : Nat → Prop} {w w' : World} {g : Nat} {m : Sm} (h : SqC F w g m) (hb : ∀ k, F k → w'.heap[k]? = w.heap[k]?) : SqC F w' g m := by
  obtain ⟨A, n, c, B, k, d, h⟩ := h
  refine ⟨A, n, c, B, k, d, (hb g h.fg).trans h.bk, ?_, h.rw.same fun ad he => hb _ (h.rw.blk ad he).1, h.fg, fun j hj => lt_of_blk (h.lt j hj) (hb j hj), h.ok⟩
  obtain ⟨qs, h1, h2, h3, h4⟩ := h.ls
  exact ⟨qs, h1, h2.same fun ad he => hb _ (h2.blk ad he).1, h3, fun q hq => ⟨(h4 q hq).1.kps fun ad he => hb _ ((h4 q hq).2.2 _ ⟨ad, he, rfl⟩), (h4 q hq).2⟩⟩
theorem grown_of {w w' : World} (h : Below w.heap.size w w') : w.grownBy w' none := ⟨h.os, h.tape, h.output, h.size, fun k hk _ => h.block k hk⟩
theorem kps_below {T : Nat → Prop} {w w' : World} (h : Below w.heap.size w w') (hT : ∀ q, T q → q < w.heap.size) : KpS T w w' := fun q hq => h.block q (hT q hq)
theorem kps_lt {q : Nat} {w W wr : World} (h : q < w.heap.size) (hs : w.heap.size ≤ W.heap.size) (he : wr.heap[q]? = W.heap[q]?) : q < wr.heap.size := lt_of_blk (w := W) (by omega) he
/-- The iterator's value. -/
def outF (g1 : Nat) : Value := .func (.func 51) #[] #[.pointer (some ⟨g1, 0, none⟩)]
theorem q_out (v : Option Addr) (w : World) :
    Calls Try.prog 46 #[.pointer v] w fun e w' => e = .returned (.func (.func 51) #[] #[.pointer (some ⟨w.heap.size, 0, none⟩)]) ∧ Bk w' 23 w.heap.size [.pointer v] ∧ Below w.heap.size w w' := by
  have HQ := Lib.hid (And.intro (Bk.new w 23 [.pointer v]) ((Below.refl _ w).alloc (Nat.le_refl _) (.cells #[.pointer v] 23)))
  go_enter Try.func46, Try.ntmps46
  go_wp2
  go_ret
  exact ⟨rfl, HQ.out.1, HQ.out.2⟩
/-- The iterator over xs that lies in these boxes. -/
def Outs (xs : List Int) (g1 : Nat) (w : World) : Prop := ∃ T : Nat → Prop, (∀ k, T k → k < w.heap.size) ∧ ∀ W, Below w.heap.size w W →
  SeqStopsK Fence.wide 4 Try.prog 51 #[.pointer (some ⟨g1, 0, none⟩)] (fun i : Fin xs.length => #[.int .i64 xs[i]]) (KpS T)
      (fun ys => ys = List.finRange xs.length) (fun pre => ∃ k, pre = (List.finRange xs.length).take k) xs.length W
attribute [local go_sem] Oper.semAt_some
set_option maxRecDepth 100000 in
set_option maxHeartbeats 2000000 in
theorem out_stops (fu : Nat) (hfu : 3 ≤ fu) (T F : Nat → Prop) (g1 g : Nat) (m : Sm) (w : World) (h1 : T g1) (hF : ∀ k, F k → T k) (hT : ∀ k, T k → k < w.heap.size) (hq : SqC F w g m) (hb1 : Bk w 23 g1 [.pointer (some ⟨g, 0, none⟩)]) :
    SeqStopsK Fence.wide fu Try.prog 51 #[.pointer (some ⟨g1, 0, none⟩)] (fun i : Fin m.all.length => #[.int .i64 m.all[i]]) (KpS T)
      (fun ys => ys = List.finRange m.all.length) (fun pre => ∃ k, pre = (List.finRange m.all.length).take k) m.all.length w := fun l J Jx W hW hJ hJx hY h0 => by
  have hKW : KpS T w W := fun k hk => hW.block k (hT k hk)
  have E0 : SqC F W g m := hq.kps fun k hk => hKW k (hF k hk)
  have E1 : Bk W 23 g1 [.pointer (some ⟨g, 0, none⟩)] := (hKW g1 h1).trans hb1
  have hln := E0.ok.ln
  have hnl := E0.ok.nl
  have hbig := E0.ok.big
  have HE := Lib.hid (And.intro E0 E1)
  have c1 := E1.cell 0 rfl
  clear hKW hb1 hq E0 E1
  refine callsIn_of_wp Try.func51 rfl trivial ?_ rfl
  simp only [Try.ntmps51, List.size_toArray, List.length_cons, List.length_nil, Nat.reduceAdd, Nat.reduceSub, Array.replicate_succ, Array.replicate_zero, List.push_toArray, List.append_toArray, List.nil_append, List.cons_append]
  gi_wp2
  refine ⟨trivial, fun _ => by omega, (callsIn_wide.2 (q_low HE.out.1)).mono ?_⟩
  rintro e W1 ⟨rfl, rfl⟩
  clear c1
  gi_wp2
  gi_loopw [3] (fun i' wr => ∃ k : Nat, m.lo ≤ k ∧ k ≤ m.nx ∧ i' = .int .i64 k ∧ J ((List.finRange m.all.length).take (m.outs k).length) wr ∧ KpS T W wr) (fun i' _ => m.nx + 1 - (intOf i').toNat)
  case atStart => exact ⟨m.lo, Nat.le_refl _, hln, rfl, by rw [m.outs_lo]; simpa using h0, KpS.refl _ _⟩
  case round =>
    obtain ⟨k, hlk, hk, rfl, hJk, hr⟩ := hrel
    have E0 : SqC F wr g m := HE.out.1.kps fun k hk => hr k (hF k hk)
    have E1 : Bk wr 23 g1 [.pointer (some ⟨g, 0, none⟩)] := (hr g1 h1).trans HE.out.2
    have c1 := E1.cell 0 rfl
    have HK := Lib.hid (And.intro E0 E1)
    have HR0 := Lib.hid hr
    have HTL : Hid (∀ q, T q → q < wr.heap.size) := Lib.hid (fun q hq => kps_lt (hT q hq) hW.size (hr q hq))
    have HST := Lib.hid (hJ ((List.finRange m.all.length).take (m.outs k).length) wr)
    have HJk := Lib.hid hJk
    clear E0 E1 hr hJk
    gi_wp2
    refine ⟨trivial, fun _ => by omega, (callsIn_wide.2 (q_next HK.out.1)).mono ?_⟩
    rintro e W1 ⟨rfl, rfl⟩
    by_cases hlt : k < m.nx
    · have hlt' : (k : Int) < m.nx := by omega
      gi_wp2
      refine ⟨trivial, fun _ => by omega, (callsIn_wide.2 (q_lacks HK.out.1 k)).mono ?_⟩
      rintro e W2 ⟨rfl, hb2⟩
      have HJ2 := Lib.hid (HST.out W2 none HJk.out (grown_of hb2) (by simp))
      have HEX := Lib.hid (kps_below hb2 HTL.out)
      have hns : m.outs (k + 1) = if m.lacks (k : Int) = true then m.outs k ++ [(k : Int)] else m.outs k := sel_succ m.p k
      clear c1 hb2
      cases hc : m.lacks (k : Int) with
      | true =>
        rw [if_pos hc] at hns
        obtain ⟨hl, hat⟩ : ∃ h : (m.outs k).length < m.all.length, m.all[(m.outs k).length] = (k : Int) := sel_at m.p hlt hc
        have HNS := Lib.hid hns
        have HF := Lib.hid (fin_take m.all.length (m.outs k).length hl)
        have HEN : Hid ((#[.int .i64 m.all[(⟨(m.outs k).length, hl⟩ : Fin m.all.length)]] : Array Value) = #[.int .i64 (k : Int)]) := Lib.hid (by rw [show m.all[(⟨(m.outs k).length, hl⟩ : Fin m.all.length)] = (k : Int) from hat])
        have hy0 := hY _ ⟨(m.outs k).length, hl⟩ W2 HJ2.out (by simp; omega)
        rw [HEN.out] at hy0
        obtain ⟨fn, tmps, assign, body, hy, hR⟩ := hy0
        clear hns hat hc
        gi_wp2
        refine ⟨fun _ => by omega, hR.mono ?_⟩
        rintro e W3 (⟨rfl, hJ3, hk3⟩ | ⟨rfl, hJx3⟩)
        · have HF2 := Lib.hid (And.intro hJ3 hk3)
          clear hy hR hJ3 hk3
          gi_wp2
          go_roundw
          case rel => exact ⟨k + 1, by omega, by omega, by go_num, by rw [HNS.out, List.length_append, List.length_singleton, HF.out]; exact HF2.out.1, HR0.out.trans (HEX.out.trans HF2.out.2)⟩
          case measure => simp [intOf]; omega
        · have HF2 := Lib.hid hJx3
          clear hy hR hJx3
          gi_wp2
          refine bodyPost_ret (results_none rfl _ _ _) rfl ?_
          exact ⟨⟨_, rfl⟩, .inr ⟨_, ⟨(m.outs k).length + 1, HF.out.symm⟩, HF2.out⟩⟩
      | false =>
        rw [if_neg (by rw [hc]; simp)] at hns
        have HNS := Lib.hid hns
        clear hns hc
        gi_wp2
        refine ⟨by simp, ?_⟩
        gi_wp2
        go_roundw
        case rel => exact ⟨k + 1, by omega, by omega, by go_num, by rw [HNS.out]; exact HJ2.out, HR0.out.trans HEX.out⟩
        case measure => simp [intOf]; omega
    · obtain rfl : k = m.nx := by omega
      gi_wp2
      go_end0
      exact ⟨⟨_, rfl⟩, .inl ⟨_, List.take_of_length_le (by rw [List.length_finRange]; exact Nat.le_refl _), HJk.out⟩⟩
theorem outs_of {F : Nat → Prop} {g1 g : Nat} {m : Sm} {w : World} (hq : SqC F w g m) (hb1 : Bk w 23 g1 [.pointer (some ⟨g, 0, none⟩)]) : Outs m.all g1 w :=
  ⟨fun k => F k ∨ k = g1, fun k hk => by rcases hk with h | rfl; exact hq.lt k h; exact hb1.lt, fun W hW =>
    out_stops 4 (by omega) _ F g1 g m W (.inr rfl) (fun k hk => .inl hk) (fun k hk => Nat.lt_of_lt_of_le (by rcases hk with h | rfl; exact hq.lt k h; exact hb1.lt) hW.size) (hq.below hW) (hb1.below hW)⟩
set_option maxRecDepth 100000 in
set_option maxHeartbeats 4000000 in
/-- What it tells, gathered. -/
theorem app_seq {w : World} {g1 : Nat} {xs : List Int} (h : Outs xs g1 w) (hlen : xs.length ≤ 1000000) :
    Calls Try.prog 53 #[.slice none 0 0, .func (.func 51) #[] #[.pointer (some ⟨g1, 0, none⟩)]] w (Made 3 (intV xs) w) := by
  obtain ⟨T, hT, hstop⟩ := h
  refine (callsIn_wide (n := 5)).1 ?_
  refine callsIn_of_wp_marks Try.func53 rfl trivial ?_ rfl
  simp only [Try.ntmps53, List.size_toArray, List.length_cons, List.length_nil, Nat.reduceAdd, Nat.reduceSub, Array.replicate_succ, Array.replicate_zero, List.push_toArray, List.append_toArray, List.nil_append, List.cons_append]
  have q1 : Bk (w.alloc (.cells #[.slice none 0 0] 29)) 29 w.heap.size [.slice none 0 0] := Bk.new w 29 [.slice none 0 0]
  have hb1 : Below w.heap.size w (w.alloc (.cells #[.slice none 0 0] 29)) := (Below.refl _ w).alloc (Nat.le_refl _) _
  have Q := Lib.hid (And.intro q1 hb1)
  have HS := Lib.hid (hstop _ hb1)
  clear q1 hb1
  gi_wp2
  obtain ⟨q1, hb1⟩ := Q.out
  have hss : (w.alloc (.cells #[.slice none 0 0] 29)).heap.size = w.heap.size + 1 := by simp
  generalize (w.alloc (.cells #[.slice none 0 0] 29)) = W0 at *
  refine wpIn_rangeFunc_ownF rfl (by decide) (gf := 51) (lb := #[.pointer (some ⟨g1, 0, none⟩)]) rfl trivial (enters_of Try.func51 (by kernel_rfl) rfl)
    HS.out KpS.trans (KpS.put (fun k hk => by have := hT k hk; omega)) (Below.refl _ _) (fun _ => rfl)
    (fun pre => Col 29 3 w W0.heap.size w.heap.size (intV (pre.map fun i => xs[i]))) (fun _ _ _ => False) (fun pre W W' row hI hw hr => hI.own (by omega) (Nat.le_refl _) (by omega) hw hr) (fun _ _ _ _ _ hs _ _ => hs) ⟨hb1, Nat.le_refl _, none, 0, 0, q1, Lst.nil _ _ _⟩
    (fun i => { tmps := #[.slice none 0 0, .func (.func 51) #[] #[.pointer (some ⟨g1, 0, none⟩)], .pointer (some ⟨w.heap.size, 0, none⟩), undef, .slice none 0 0, .int .i64 xs[i], .func (.func 51) #[] #[.pointer (some ⟨g1, 0, none⟩)], .int .i64 xs[i], undef, undef, undef, undef, undef], defers := [] }) ?assign ?body ?done ?stop
  case assign =>
    intro l x W K hK
    gi_wp2
    simpa using hK
  case body =>
    rintro l pre x W ⟨hb, hsz, A, n, c, r, hl⟩ hpre
    have cl := r.cell 0 rfl
    have fl := r.free 0
    have hn := hl.1
    rw [intV_len, List.length_map] at hn
    have hla := (hl.alloc (.cells #[.int .i64 xs[x]] 3)).tight
    have hu := RdV.one W 3 (.int .i64 xs[x]) rfl
    have hn8 : n ≤ 1000000 := by omega
    have HB := Lib.hid hb
    have HSz := Lib.hid hsz
    have HA : Hid (intV ((pre ++ [x]).map fun i => xs[i]) = intV (pre.map fun i => xs[i]) ++ [.int .i64 xs[x]]) := Lib.hid (by simp [intV])
    have hvA : ¬ BlkOf A w.heap.size := by
      rintro ⟨ad, he, hbk⟩
      have := (hl.blk ad he).1
      omega
    generalize xs[x] = y at *
    clear hb hsz
    gi_wp2_with (first
                 | (refine wpListIn_build_one (x := .int .i64 y) eltI rfl (.tmp 9) rfl rfl rfl ?_)
                 | (gi_at_builtin
                    refine wpListIn_append_lst eltI rfl (.tmp 8) (.tmp 10) rfl rfl hla rfl hu (by omega) ?_
                    rintro v w2 hap
                    obtain ⟨A', n', c', rfl, hl'⟩ := hap.ex
                    have HAP := Lib.hid hap
                    have r2 := (r.alloc (.cells #[.int .i64 y] 3)).st hap.st hvA
                    have c3 := r2.cell 0 rfl
                    have f3 := r2.free 0
                    clear hap hl'))
    obtain ⟨k1, k2, k3⟩ := Col.step HB.out HSz.out r hl (by omega) (Nat.le_refl _) _ HAP.out
    refine ⟨k1, fun k hk => k2.block k (by have := hT k hk; have := HSz.out; omega) (by have := hT k hk; omega), ?_⟩
    show Col 29 3 w (w.heap.size + 1) w.heap.size (intV ((pre ++ [x]).map fun i => xs[i])) _
    rw [HA.out, ← hss]
    exact k3
  case done =>
    rintro D ys W hD rfl ⟨hb, hsz, A, n, c, r, hl⟩ hK
    rw [show (List.finRange xs.length).map (fun i => xs[i]) = xs from by
      apply List.ext_getElem
      · simp
      · intro i h1 h2
        simp] at hl
    have cl := r.cell 0 rfl
    gi_wp2
    refine ⟨by simp, .inl ⟨_, _, rfl, run_takeDeferred hK, ?_⟩⟩
    refine ⟨_, results_tmp rfl _ _ _, ?_⟩
    exact Col.shut0 (t := 29) (v := w.heap.size) hb hl hK (by omega) (by omega)
  case stop =>
    rintro D c' pre W hD _ h _
    exact h.elim
theorem collect {w : World} {g1 : Nat} {xs : List Int} (h : Outs xs g1 w) (hlen : xs.length ≤ 1000000) :
    Calls Try.prog 50 #[.func (.func 51) #[] #[.pointer (some ⟨g1, 0, none⟩)]] w (Made 3 (intV xs) w) := by
  have HS := Lib.hid (app_seq h hlen)
  clear h
  go_enter Try.func50, Try.ntmps50
  go_wp2_with fail
  refine HS.out.mono ?_
  rintro e w2 ⟨A, n, c, rfl, hl, hb2⟩
  have HL := Lib.hid (And.intro hl hb2)
  clear hl hb2
  go_wp2
  go_ret
  exact ⟨A, n, c, rfl, HL.out.1, HL.out.2⟩
theorem values_any (A : Option Addr) (n c : Nat) (w : World) :
    Calls Try.prog 49 #[.slice A n c] w fun e w' => e = .returned (.func (.func 52) #[] #[.pointer (some ⟨w.heap.size, 0, none⟩)]) ∧ Bk w' 29 w.heap.size [.slice A n c] ∧ Below w.heap.size w w' := by
  have HQ := Lib.hid (And.intro (Bk.new w 29 [.slice A n c]) ((Below.refl _ w).alloc (Nat.le_refl _) (.cells #[.slice A n c] 29)))
  go_enter Try.func49, Try.ntmps49
  go_wp2
  go_ret
  exact ⟨rfl, HQ.out.1, HQ.out.2⟩
/-- The iterator that Lacking returns: over xs. -/
def LackF (xs : List Int) (w : World) (e : Ending) (w' : World) : Prop :=
  ∃ gv A n c, e = .returned (.func (.func 52) #[] #[.pointer (some ⟨gv, 0, none⟩)]) ∧ Bk w' 29 gv [.slice A n c] ∧ RdV w' A n c (intV xs) ∧ Below w.heap.size w w' ∧ w.heap.size ≤ gv ∧ ∀ k, BlkOf A k → w.heap.size ≤ k
theorem lack_of {P : Option Addr} {w : World} {xs : List Int} (h : ∀ W, Bk W 23 w.heap.size [.pointer P] → Below w.heap.size w W → Outs xs w.heap.size W) (hlen : xs.length ≤ 1000000) :
    Calls Try.prog 42 #[.pointer P] w (LackF xs w) := by
  have H := Lib.hid h
  clear h
  go_enter Try.func42, Try.ntmps42
  go_wp2_with fail
  refine (q_out P w).mono ?_
  rintro e w1 ⟨rfl, hr1, hb1⟩
  have HC := Lib.hid (collect (H.out w1 hr1 hb1) hlen)
  have HB1 := Lib.hid hb1
  clear hr1 hb1
  go_wp2_with fail
  refine HC.out.mono ?_
  rintro e w2 ⟨A, n, c, rfl, hl, hb2⟩
  have HL := Lib.hid (And.intro hl hb2)
  clear hl hb2
  go_wp2_with fail
  refine (values_any A n c w2).mono ?_
  rintro e w3 ⟨rfl, hr3, hb3⟩
  have H3 := Lib.hid (And.intro hr3 hb3)
  clear hr3 hb3
  go_wp2
  go_ret
  refine ⟨_, A, n, c, rfl, H3.out.1, HL.out.1.rdv.below H3.out.2, below_on (below_on HB1.out HL.out.2) H3.out.2, Nat.le_trans HB1.out.size HL.out.2.size, ?_⟩
  rintro k ⟨ad, he, rfl⟩
  exact Nat.le_trans HB1.out.size (HL.out.1.blk ad he).1
theorem q_lacking {F : Nat → Prop} {g : Nat} {m : Sm} {w : World} (h : SqC F w g m) : Calls Try.prog 42 #[.pointer (some ⟨g, 0, none⟩)] w (LackF m.all w) :=
  lack_of (fun W hb hW => outs_of (h.below hW) hb) (by have h1 := m.all_len; have := h.ok.nl; have := h.ok.big; have := h.ok.rm; have := h.ok.m2; have := Sm.all_max' h.ok; omega)
end Go.Proofs.Ytnakoplceplmmaa
