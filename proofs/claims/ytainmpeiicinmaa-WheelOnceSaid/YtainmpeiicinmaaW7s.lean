/- The iterator over the timers; ticks. -/
import Derived.Test.YtainmpeiicinmaaW6s
import Derived.Test.YtainmpeiicinmaaRegZ
set_option linter.unusedSimpArgs false
set_option linter.unusedVariables false
set_option maxRecDepth 100000
namespace Go.Proofs.Ytainmpeiicinmaa.Ws
open Go.RowKit Go.Shelf
def kvs (ks : List ByteArray) : List Value := ks.map fun k => (.string k)
theorem kvs_len (ks : List ByteArray) : (kvs ks).length = ks.length := by simp [kvs]
theorem eltK : Elt Try.prog 67 9 (.string ⟨#[]⟩) 16 := ⟨rfl, by kernel_rfl, rfl, rfl, by decide⟩
theorem lt_of_blk {w w' : World} {k : Nat} (hk : k < w.heap.size) (he : w'.heap[k]? = w.heap[k]?) : k < w'.heap.size := by
  rw [Array.getElem?_eq_getElem hk] at he
  exact (Array.getElem?_eq_some_iff.1 he).1
theorem grown_of {w w' : World} (h : Below w.heap.size w w') : w.grownBy w' none := ⟨h.os, h.tape, h.output, h.size, fun k hk _ => h.block k hk⟩
theorem kps_below {T : Nat → Prop} {w w' : World} (h : Below w.heap.size w w') (hT : ∀ q, T q → q < w.heap.size) : KpS T w w' := fun q hq => h.block q (hT q hq)
theorem kps_lt {q : Nat} {w W wr : World} (h : q < w.heap.size) (hs : w.heap.size ≤ W.heap.size) (he : wr.heap[q]? = W.heap[q]?) : q < wr.heap.size := lt_of_blk (w := W) (by omega) he
theorem wpListIn_load_row {P : Program} {w : World} {ty : TypeId} {q g o : Nat} {Fe : Fence} {qn : Nat} {ops : Array Oper} {rest : List Oper} {op : Oper} {a : Act} {Q : Exit → Act → World → Prop} (R : Row P ty q) (hgd : op.guard = none) (x : Operand) (ho : op.op = .load ty x) (hx : a.eval x = .pointer (some ⟨g, o, none⟩)) (cs : List Value) (h : w.rangeAt g o cs) (hm : cs.length = q)
    (hq : wpListIn Fe qn P ops Q rest (a.put op.dst (.agg cs.toArray)) w) : wpListIn Fe qn P ops Q (op :: rest) a w := by
  obtain ⟨d, h1, h2⟩ := R.ht
  have hl := run_loadVar_mid w g o ty cs d h h1 h2 (by rw [hm]; exact R.hi)
  refine wpListIn_exec hgd (by simp [Oper.about, ho, resolve, Target.leads, Sem.run_pure]) (by rw [ho]; intro c hc; cases hc) ?_ hq
  unfold execOp
  simp only [ho, hx, Instr.loadAt, Instr.sureAddr, Sem.run_bind, Sem.run_pure, Result.andThen_ok, hl]
section
variable {w w' w1 w2 : World} {g p b b2 bt : Nat} {m m' : Wm ByteArray} {A : Option Addr} {n c : Nat} {x y : ByteArray}
theorem WhA.kps (h : WhA w g m A n c) (hg : w'.heap[g]? = w.heap[g]?) (hA : ∀ k, BlkOf A k → w'.heap[k]? = w.heap[k]?) : WhA w' g m A n c :=
  ⟨hg.trans h.bk, h.ls.same fun ad he => hA _ ⟨ad, he, rfl⟩, h.nm⟩
theorem WhA.blt (h : WhA w g m A n c) : ∀ k, BlkOf A k → k < w.heap.size := by
  rintro k ⟨ad, he, rfl⟩
  exact (h.ls.blk ad he).2
def outs (m : Wm ByteArray) : List (ByteArray × Int) := m.l.map fun t => (t.k, t.d - m.now)
theorem outs_len (m : Wm ByteArray) : (outs m).length = m.l.length := by simp [outs]
theorem w_all (v : Option Addr) (w : World) :
    Calls Try.prog 53 #[.pointer v] w fun e w' => e = .returned (.func (.func 61) #[] #[.pointer (some ⟨w.heap.size, 0, none⟩)]) ∧ Bk w' 63 w.heap.size [.pointer v] ∧ Below w.heap.size w w' := by
  have HQ := Lib.hid (And.intro (Bk.new w 63 [.pointer v]) ((Below.refl _ w).alloc (Nat.le_refl _) (.cells #[.pointer v] 63)))
  go_enter Try.func53, Try.ntmps53
  go_wp2
  go_ret
  exact ⟨rfl, HQ.out.1, HQ.out.2⟩
/-- The iterator over xs that lies in these boxes. -/
def Outs (T : Nat → Prop) (xs : List (ByteArray × Int)) (g1 : Nat) (w : World) : Prop :=
  SeqStopsK Fence.wide 4 Try.prog 61 #[.pointer (some ⟨g1, 0, none⟩)] (fun i : Fin xs.length => #[(.string xs[i].1), .int .i64 xs[i].2]) (KpS T)
      (fun ys => ys = List.finRange xs.length) (fun pre => ∃ k, pre = (List.finRange xs.length).take k) xs.length w
attribute [local go_sem] Oper.semAt_some
set_option maxHeartbeats 4000000 in
theorem all_stops (fu : Nat) (hfu : 3 ≤ fu) (T : Nat → Prop) (g1 : Nat) (h1 : T g1) (hg : T g) (hA : ∀ k, BlkOf A k → T k) (hT : ∀ k, T k → k < w.heap.size) (h : WhA w g m A n c) (hb1 : Bk w 63 g1 [.pointer (some ⟨g, 0, none⟩)]) :
    SeqStopsK Fence.wide fu Try.prog 61 #[.pointer (some ⟨g1, 0, none⟩)] (fun i : Fin (outs m).length => #[(.string (outs m)[i].1), .int .i64 (outs m)[i].2]) (KpS T)
      (fun ys => ys = List.finRange (outs m).length) (fun pre => ∃ k, pre = (List.finRange (outs m).length).take k) (outs m).length w := fun l J Jx W hW hJ hJx hY h0 => by
  have hKW : KpS T w W := fun k hk => hW.block k (hT k hk)
  have E0 : WhA W g m A n c := h.kps (hKW g hg) fun k hk => hKW k (hA k hk)
  have E1 : Bk W 63 g1 [.pointer (some ⟨g, 0, none⟩)] := (hKW g1 h1).trans hb1
  have hn := h.hn
  have hln := h.nm.ln
  have HE := Lib.hid (And.intro E0 E1)
  have HM := Lib.hid (w_made ⟨A, n, c, E0⟩)
  have c1 := E1.cell 0 rfl
  have c2 := E0.bk.cell 1 rfl
  have c3 := E0.bk.cell 2 rfl
  have hol := outs_len m
  have HOL := Lib.hid (And.intro hn hol)
  have hnI : n ≤ 1024 := by omega
  have HNM := Lib.hid h.nm
  clear hKW hb1 h E0 E1 hn hol hln
  refine callsIn_of_wp Try.func61 rfl trivial ?_ rfl
  simp only [Try.ntmps61, List.size_toArray, List.length_cons, List.length_nil, Nat.reduceAdd, Nat.reduceSub, Array.replicate_succ, Array.replicate_zero, List.push_toArray, List.append_toArray, List.nil_append, List.cons_append]
  gi_wp2
  refine ⟨trivial, fun _ => by omega, (callsIn_wide.2 HM.out).mono ?_⟩
  rintro e W1 ⟨rfl, rfl⟩
  gi_wp2
  gi_loopw [5, 18] (fun p' i' wr => ∃ k : Nat, k ≤ n ∧ i' = .int .i64 k ∧ J ((List.finRange (outs m).length).take k) wr ∧ KpS T W wr) (fun p' i' _ => n + 1 - (intOf i').toNat)
  case atStart => exact ⟨0, Nat.zero_le _, rfl, by simpa using h0, KpS.refl _ _⟩
  case round =>
    obtain ⟨k, hk, rfl, hJk, hr⟩ := hrel
    clear c1 c2 c3
    by_cases hlt : k < n
    · have E0 : WhA wr g m A n c := HE.out.1.kps (hr g hg) fun k hk => hr k (hA k hk)
      have hkl : k < m.l.length := by have := HOL.out; omega
      have hko : k < (outs m).length := by have := HOL.out; omega
      obtain ⟨ga, o, rfl, hga, hra⟩ := E0.row hkl
      have hlt' : (k : Int) < n := by omega
      have HTL : Hid (∀ q, T q → q < wr.heap.size) := Lib.hid (fun q hq => kps_lt (hT q hq) hW.size (hr q hq))
      have HF := Lib.hid (fin_take (outs m).length k hko)
      have HR0 := Lib.hid hr
      have HST := Lib.hid (hJ ((List.finRange (outs m).length).take k) wr)
      have HJk := Lib.hid hJk
      have hd1 := (HNM.out.db _ (List.getElem_mem hkl))
      have hn1 := HNM.out.n0
      have hn2 := HNM.out.nb
      have HEN : Hid ((#[(.string (outs m)[(⟨k, hko⟩ : Fin (outs m).length)].1), .int .i64 (outs m)[(⟨k, hko⟩ : Fin (outs m).length)].2] : Array Value) = #[(.string m.l[k].k), .int .i64 (m.l[k].d - m.now)]) := Lib.hid (by simp [outs])
      have z0 := Bk.new wr 90 zsM
      have hba : Below wr.heap.size wr (wr.alloc (.cells zsM.toArray 90)) := (Below.refl _ _).alloc (Nat.le_refl _) _
      have HZ := Lib.hid (And.intro z0 hba)
      have HYK := Lib.hid (fun W3 => hY ((List.finRange (outs m).length).take k) ⟨k, hko⟩ W3)
      generalize m.l[k].d = dd at *
      generalize m.l[k].k = kk at *
      clear hr hJk E0 hba
      gi_wp2_with (first
        | (with_reducible refine at_loadI 90 (.tmp 20) (by rfl) ?_
           refine wpListIn_load_row rowM rfl (.tmp 20) rfl rfl [(.string kk), .int .i64 dd] hra rfl ?_
           clear hra)
        | (with_reducible refine at_storeI 90 (.tmp 5) (.tmp 21) (by rfl) ?_
           refine wpListIn_store_bk rowM rfl (.tmp 5) (.tmp 21) rfl wr.heap.size 0 rfl z0 [(.string kk), .int .i64 dd] rfl rfl (by show 0 + 2 ≤ 2; omega) (by simp [Value.oneCell']) ?_
           intro W2 hz2 hw2
           rw [lay_all _ _ (by rfl)] at hz2
           have a0 := hz2.cell 0 rfl
           have a1 := hz2.cell 1 rfl
           have hb2 : Below wr.heap.size wr W2 := HZ.out.2.trans ((st_wr hw2).below (by simp) (by rintro k rfl; exact Nat.le_refl _))
           have HJ2 := Lib.hid (HST.out W2 none HJk.out (grown_of hb2) (by simp))
           have HEX := Lib.hid (kps_below hb2 HTL.out)
           clear z0 hw2 hb2 hz2
           have hy0 := HYK.out W2 HJ2.out (by simp; omega)
           rw [HEN.out] at hy0
           obtain ⟨fn, tmps, assign, body, hy, hR⟩ := hy0))
      refine ⟨fun _ => by omega, hR.mono ?_⟩
      rintro e W3 (⟨rfl, hJ3, hk3⟩ | ⟨rfl, hJx3⟩)
      · have HF2 := Lib.hid (And.intro hJ3 hk3)
        clear hy hR hJ3 hk3 a0 a1
        gi_wp2
        go_roundw
        case rel => exact ⟨k + 1, by omega, by go_num, by rw [HF.out]; exact HF2.out.1, HR0.out.trans (HEX.out.trans HF2.out.2)⟩
        case measure => simp [intOf]; omega
      · have HF2 := Lib.hid hJx3
        clear hy hR hJx3 a0 a1
        gi_wp2
        refine bodyPost_ret (results_none rfl _ _ _) rfl ?_
        exact ⟨⟨_, rfl⟩, .inr ⟨_, ⟨k + 1, HF.out.symm⟩, HF2.out⟩⟩
    · obtain rfl : k = n := by omega
      have HJk := Lib.hid hJk
      clear hJk
      gi_wp2
      go_end0
      exact ⟨⟨_, rfl⟩, .inl ⟨_, List.take_of_length_le (by rw [List.length_finRange]; have := HOL.out; omega), HJk.out⟩⟩
end
end Go.Proofs.Ytainmpeiicinmaa.Ws
