/- The law's look at what lacks. -/
import Derived.Test.YtnakoplceplmmaaV10
set_option linter.unusedSimpArgs false
set_option linter.unusedVariables false
namespace Go.Proofs.Ytnakoplceplmmaa
open Go.RowKit Go.Shelf
attribute [local go_sem] Oper.semAt_some
set_option maxRecDepth 100000 in
set_option maxHeartbeats 2000000 in
/-- The iterator over a list's values. -/
theorem vals_stops (fu : Nat) (hfu : 1 ≤ fu) (T : Nat → Prop) (gv : Nat) (A : Option Addr) (n c : Nat) (xs : List Int) (w : World) (h1 : T gv) (hA : 0 < n → ∀ k, BlkOf A k → T k) (hT : ∀ k, T k → k < w.heap.size) (hr : RdV w A n c (intV xs)) (hb1 : Bk w 29 gv [.slice A n c]) :
    SeqStopsK Fence.wide fu Try.prog 52 #[.pointer (some ⟨gv, 0, none⟩)] (fun i : Fin xs.length => #[.int .i64 xs[i]]) (KpS T)
      (fun ys => ys = List.finRange xs.length) (fun pre => ∃ k, pre = (List.finRange xs.length).take k) xs.length w := fun l J Jx W hW hJ hJx hY h0 => by
  have hKW : KpS T w W := fun k hk => hW.block k (hT k hk)
  have E1 : Bk W 29 gv [.slice A n c] := (hKW gv h1).trans hb1
  have hn : n = xs.length := by have := hr.1; rw [intV_len] at this; exact this.symm
  subst hn
  have hcc := hr.2.1
  have hcm := hr.2.2.1
  unfold maxLen at hcm
  have HRd := Lib.hid hr
  have c1 := E1.cell 0 rfl
  clear hb1 E1 hr
  refine callsIn_of_wp Try.func52 rfl trivial ?_ rfl
  simp only [Try.ntmps52, List.size_toArray, List.length_cons, List.length_nil, Nat.reduceAdd, Nat.reduceSub, Array.replicate_succ, Array.replicate_zero, List.push_toArray, List.append_toArray, List.nil_append, List.cons_append]
  gi_wp2
  gi_loopw [4, 7] (fun x' i' wr => ∃ k : Nat, k ≤ xs.length ∧ i' = .int .i64 k ∧ J ((List.finRange xs.length).take k) wr ∧ KpS T w wr) (fun x' i' _ => xs.length + 1 - (intOf i').toNat)
  case atStart => exact ⟨0, Nat.zero_le _, rfl, by simpa using h0, hKW⟩
  case round =>
    obtain ⟨k, hk, rfl, hJk, hr⟩ := hrel
    by_cases hlt : k < xs.length
    · obtain ⟨g, o, rfl, hg, hc⟩ := intV_at HRd.out hlt hlt
      have hc' : wr.cell? ⟨g, o + k, none⟩ = some (.int .i64 xs[k]) := (hr.cell (hA (by omega) g ⟨_, rfl, rfl⟩)).trans hc
      have hlt' : (k : Int) < xs.length := by omega
      have HF := Lib.hid (fin_take xs.length k hlt)
      have HR0 := Lib.hid hr
      obtain ⟨fn, tmps, assign, body, hy, hR⟩ := hY _ ⟨k, hlt⟩ wr hJk (by simp; omega)
      simp only [Fin.getElem_fin] at hy
      generalize xs[k] = y at *
      clear hc hr hJk c1
      gi_wp2
      refine hR.mono ?_
      rintro e W3 (⟨rfl, hJ3, hk3⟩ | ⟨rfl, hJx3⟩)
      · have HF2 := Lib.hid (And.intro hJ3 hk3)
        clear hy hR hJ3 hk3 hc'
        gi_wp2
        go_roundw
        case rel => exact ⟨k + 1, by omega, by go_num, by rw [HF.out]; exact HF2.out.1, HR0.out.trans HF2.out.2⟩
        case measure => simp [intOf]; omega
      · have HF2 := Lib.hid hJx3
        clear hy hR hJx3 hc'
        gi_wp2
        refine bodyPost_ret (results_none rfl _ _ _) rfl ?_
        exact ⟨⟨_, rfl⟩, .inr ⟨_, ⟨k + 1, HF.out.symm⟩, HF2.out⟩⟩
    · obtain rfl : k = xs.length := by omega
      clear c1
      gi_wp2
      go_end0
      exact ⟨⟨_, rfl⟩, .inl ⟨_, List.take_of_length_le (by simp), hJk⟩⟩
/-- Between two rounds. -/
structure LkI (w : World) (L : Nat) (most : Int) (xs : List Int) (W : World) : Prop where
  mo : Bk W 3 w.heap.size [.int .i64 most]
  col : Col 29 3 w L (w.heap.size + 1) (intV xs) W
  le : xs.length ≤ most.toNat
theorem LkI.own {w : World} {L B : Nat} {most : Int} {xs : List Int} {W W' : World} {row : Option Nat} (h : LkI w L most xs W) (hv : w.heap.size + 2 ≤ L) (hL : L ≤ B) (hw : W.grownBy W' row)
    (hr : ∀ r, row = some r → B ≤ r ∧ ∃ o : Obj, W.heap[r]? = some o ∧ o.isCells = false) : LkI w L most xs W' :=
  ⟨(hw.block _ h.mo.lt (fun e => by have := (hr _ e.symm).1; omega)).trans h.mo, h.col.own (by omega) hL (by omega) hw hr, h.le⟩
set_option maxRecDepth 100000 in
set_option maxHeartbeats 4000000 in
theorem law_lacking {P : Option Addr} {w : World} {xs : List Int} (h : ∀ W, Below w.heap.size w W → Calls Try.prog 42 #[.pointer P] W (LackF xs W)) (hlen : xs.length ≤ 1000000) (most : Int) :
    Calls Try.prog 28 #[.pointer P, .int .i64 most] w (Made 3 (intV (xs.take most.toNat)) w) := by
  obtain ⟨w0, hw0⟩ : ∃ w0, w0 = (w.alloc (.cells #[.int .i64 most] 3)).alloc (.cells #[.slice none 0 0] 29) := ⟨_, rfl⟩
  have q0 : Bk w0 3 w.heap.size [.int .i64 most] := by rw [hw0]; exact (Bk.new w _ [.int .i64 most]).alloc _
  have q1 : Bk w0 29 (w.heap.size + 1) [.slice none 0 0] := by
    have := Bk.new (w.alloc (.cells #[.int .i64 most] 3)) 29 [.slice none 0 0]
    rw [World.size_alloc] at this
    rw [hw0]; exact this
  have hb1 : Below w.heap.size w w0 := by rw [hw0]; exact (((Below.refl _ w).alloc (Nat.le_refl _) _).alloc (by simp) _)
  have hz : w0.heap.size = w.heap.size + 2 := by rw [hw0]; simp
  have HLk := Lib.hid (h w0 hb1)
  have HW := Lib.hid hw0
  have Q := Lib.hid (And.intro q0 (And.intro q1 (And.intro hb1 hz)))
  clear q0 q1 hb1 hz hw0 h
  refine (callsIn_wide (n := 5)).1 ?_
  refine callsIn_of_wp_marks Try.func28 rfl trivial ?_ rfl
  simp only [Try.ntmps28, List.size_toArray, List.length_cons, List.length_nil, Nat.reduceAdd, Nat.reduceSub, Array.replicate_succ, Array.replicate_zero, List.push_toArray, List.append_toArray, List.nil_append, List.cons_append]
  gi_wp2
  rw [← HW.out]
  refine ⟨trivial, (callsIn_wide.2 HLk.out).mono ?_⟩
  rintro e W0 ⟨gv, AV, nV, cV, rfl, hr1, hr2, hb2, hge1, hge2⟩
  obtain ⟨q0, q1, hb1, hz⟩ := Q.out
  have q0' := q0.below hb2
  have q1' := q1.below hb2
  have hb0 := hb1.trans (hb2.mono hb1.size)
  have hWz := hb2.size
  have hnl : (binOp BinOp.eql 77 (.func (.func 52) #[] #[.pointer (some ⟨gv, 0, none⟩)]) .nilFunc).run Try.prog W0 = .ok (.bool false) W0 := by kernel_rfl
  have hgv := hr1.lt
  have hvr := hr2.blk
  clear Q hb2 q0 q1
  gi_wp2
  obtain ⟨L, hL⟩ : ∃ L, L = W0.heap.size := ⟨_, rfl⟩
  have hLw : w.heap.size + 2 ≤ L := by omega
  have hTL : ∀ k, (k = gv ∨ (0 < nV ∧ BlkOf AV k)) → k < L ∧ k ≠ w.heap.size + 1 := fun k hk => by
    rcases hk with rfl | ⟨hn, hk⟩
    · exact ⟨by omega, by omega⟩
    · have h1 := hge2 k hk
      obtain ⟨ad, he, rfl⟩ := hk
      have := hvr hn ad he
      exact ⟨by omega, by omega⟩
  have HLz := Lib.hid hL
  clear hL
  refine wpIn_rangeFunc_ownF rfl (by decide) (gf := 52) (lb := #[.pointer (some ⟨gv, 0, none⟩)]) rfl trivial (enters_of Try.func52 (by kernel_rfl) rfl)
    (vals_stops (5 - 1) (by decide) (fun k => k = gv ∨ (0 < nV ∧ BlkOf AV k)) gv AV nV cV xs W0 (.inl rfl) (fun hn k hk => .inr ⟨hn, hk⟩) (fun k hk => by
      rcases hk with rfl | ⟨hn, ad, he, rfl⟩
      · exact hgv
      · exact hvr hn ad he) hr2 hr1) KpS.trans (KpS.put (fun k hk => by
      rcases hk with rfl | ⟨hn, ad, he, rfl⟩
      · exact hgv
      · exact hvr hn ad he)) (Below.refl _ _) (fun _ => rfl)
    (fun pre => LkI w L most (pre.map fun i => xs[i])) (fun c pre' W => c = .exit 0 ∧ ∃ pre x, pre' = pre ++ [x] ∧ most.toNat ≤ pre.length ∧ LkI w L most (pre.map fun i => xs[i]) W) (fun pre W W' row hI hw hr => hI.own (by omega) (by have := HLz.out; omega) hw hr) (fun c' => ?own) ⟨q0', ⟨hb0, by have := HLz.out; omega, none, 0, 0, q1', Lst.nil _ _ _⟩, Nat.zero_le _⟩
    (fun i => { tmps := #[.pointer P, .int .i64 most, undef, .pointer (some ⟨w.heap.size, 0, none⟩), .slice none 0 0, .pointer (some ⟨w.heap.size + 1, 0, none⟩), .func (.func 52) #[] #[.pointer (some ⟨gv, 0, none⟩)], .int .i64 xs[i], .pointer P, .func (.func 52) #[] #[.pointer (some ⟨gv, 0, none⟩)], .func (.func 52) #[] #[.pointer (some ⟨gv, 0, none⟩)], .bool false, .func (.func 52) #[] #[.pointer (some ⟨gv, 0, none⟩)], .int .i64 xs[i], undef, undef, undef, undef, undef, undef, undef, undef, undef], defers := [] }) ?assign ?body ?done ?stop
  case own =>
    rintro pre' W W' row ⟨hc', pre, x, e1, e2, hI⟩ hw hr
    exact ⟨hc', pre, x, e1, e2, hI.own (by omega) (by have := HLz.out; omega) hw hr⟩
  case assign =>
    intro l x W K hK
    gi_wp2
    simpa using hK
  case body =>
    rintro l pre x W ⟨r0, ⟨hb, hsz, A, n, c, r, hl⟩, hle⟩ hpre
    have c0 := r0.cell 0 rfl
    have cl := r.cell 0 rfl
    have fl := r.free 0
    have hn := hl.1
    rw [intV_len, List.length_map] at hn
    rw [List.length_map] at hle
    subst hn
    have hn8 : pre.length ≤ 1000000 := by omega
    have HB := Lib.hid hb
    have HS := Lib.hid hsz
    by_cases hm : most ≤ pre.length
    · have HI : Hid (LkI w L most (pre.map fun i => xs[i]) W) := Lib.hid ⟨r0, ⟨hb, hsz, A, _, c, r, hl⟩, by rw [List.length_map]; exact hle⟩
      have HM := Lib.hid (show most.toNat ≤ pre.length by omega)
      clear hb hsz r0 r hl hle
      gi_wp2
      exact ⟨KeepsOthers.refl _, rfl, pre, x, rfl, HM.out, HI.out⟩
    · have hm' : (pre.length : Int) < most := by omega
      have hla := (hl.alloc (.cells #[.int .i64 xs[x]] 3)).tight
      have hu := RdV.one W 3 (.int .i64 xs[x]) rfl
      have HA : Hid (intV ((pre ++ [x]).map fun i => xs[i]) = intV (pre.map fun i => xs[i]) ++ [.int .i64 xs[x]]) := Lib.hid (by simp [intV])
      have HLE : Hid (((pre ++ [x]).map fun i => xs[i]).length ≤ most.toNat) := Lib.hid (by simp; omega)
      have hvA : ¬ BlkOf A (w.heap.size + 1) := by
        rintro ⟨ad, he, hbk⟩
        have := (hl.blk ad he).1
        omega
      have HR0 := Lib.hid r0
      generalize xs[x] = y at *
      clear hb hsz r0
      gi_wp2_with (first
                   | (refine wpListIn_build_one (x := .int .i64 y) eltI rfl (.tmp 19) rfl rfl rfl ?_)
                   | (gi_at_builtin
                      refine wpListIn_append_lst eltI rfl (.tmp 18) (.tmp 20) rfl rfl hla rfl hu (by omega) ?_
                      rintro v w2 hap
                      obtain ⟨A', n', c', rfl, hl'⟩ := hap.ex
                      have HAP := Lib.hid hap
                      have r2 := (r.alloc (.cells #[.int .i64 y] 3)).st hap.st hvA
                      have c3 := r2.cell 0 rfl
                      have f3 := r2.free 0
                      clear hap hl'))
      obtain ⟨k1, k2, k3⟩ := Col.step HB.out HS.out r hl (by omega) (by omega) _ HAP.out
      refine ⟨k1, fun k hk => k2.block k (by have := HS.out; have := (hTL k hk).1; omega) (by have := hTL k hk; omega), HR0.out.st k2 (by omega), ?_, HLE.out⟩
      · show Col 29 3 w L (w.heap.size + 1) (intV ((pre ++ [x]).map fun i => xs[i])) _
        rw [HA.out]
        exact k3
  case done =>
    rintro D ys W hD rfl ⟨r0, ⟨hb, hsz, A, n, c, r, hl⟩, hle⟩ hK
    rw [show (List.finRange xs.length).map (fun i => xs[i]) = xs from by
      apply List.ext_getElem
      · simp
      · intro i h1 h2
        simp] at hl hle
    have HT : Hid (xs.take most.toNat = xs) := Lib.hid (List.take_of_length_le hle)
    have cl := r.cell 0 rfl
    have HLL := Lib.hid hle
    clear hle
    gi_wp2
    refine ⟨by simp, .inl ⟨_, _, rfl, run_takeDeferred hK, ?_⟩⟩
    refine ⟨_, results_tmp rfl _ _ _, ?_⟩
    rw [HT.out]
    exact Col.shut0 (t := 29) (v := w.heap.size + 1) hb hl hK (by omega) (by omega)
  case stop =>
    rintro D c' pre' W hD ⟨k, hpk⟩ ⟨rfl, pre, x, e1, e2, r0, ⟨hb, hsz, A, n, c, r, hl⟩, hle⟩ hK
    rw [List.length_map] at hle
    have hpre : (pre.map fun i => xs[i]) = xs.take most.toNat := by
      obtain hlm : pre.length = most.toNat := by omega
      rw [e1] at hpk
      have hk : pre.length ≤ k := by
        have := congrArg List.length hpk
        simp at this
        omega
      have hp := congrArg (List.take pre.length) hpk
      rw [List.take_take, Nat.min_eq_left hk] at hp
      simp only [List.take_left'] at hp
      rw [hp, ← hlm, List.map_take, show (List.finRange xs.length).map (fun i => xs[i]) = xs from by
        apply List.ext_getElem
        · simp
        · intro i h1 h2
          simp]
    rw [hpre] at hl
    have cl := r.cell 0 rfl
    gi_wp2
    refine ⟨by simp, .inl ⟨_, _, rfl, run_takeDeferred hK, ?_⟩⟩
    refine ⟨_, results_tmp rfl _ _ _, ?_⟩
    exact Col.shut0 (t := 29) (v := w.heap.size + 1) hb hl hK (by omega) (by omega)
end Go.Proofs.Ytnakoplceplmmaa
