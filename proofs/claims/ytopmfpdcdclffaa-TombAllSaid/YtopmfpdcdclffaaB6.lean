/- Count, Lacking of a bitmap. -/
import Derived.Test.YtopmfpdcdclffaaB5
set_option linter.unusedSimpArgs false
set_option linter.unusedVariables false
namespace Go.Proofs.Ytopmfpdcdclffaa
open Go.RowKit Go.Shelf
attribute [local go_sem] Oper.semAt_some
/-- Variable v holds a number; what was there before the call (w) stays. -/
structure Cnt (w : World) (L v : Nat) (x : Int) (W : World) : Prop where
  bel : Below w.heap.size w W
  sz : L ≤ W.heap.size
  bk : Bk W 3 v [.int .i64 x]
theorem Cnt.own {w : World} {L v B : Nat} {x : Int} {W W' : World} {row : Option Nat} (h : Cnt w L v x W) (hv : v < L) (hL : L ≤ B) (hwL : w.heap.size ≤ L) (hw : W.grownBy W' row)
    (hr : ∀ r, row = some r → B ≤ r ∧ ∃ o : Obj, W.heap[r]? = some o ∧ o.isCells = false) : Cnt w L v x W' := by
  obtain ⟨h1, h2, h3⟩ := h
  have hk : ∀ k, k < L → k < W.heap.size → W'.heap[k]? = W.heap[k]? := fun k hk hs => hw.block k hs (fun e => by have := (hr _ e.symm).1; omega)
  exact ⟨⟨hw.os.trans h1.os, hw.tape.trans h1.tape, hw.output.trans h1.output, Nat.le_trans h1.size hw.size, fun k hk' => (hk k (by omega) (by have := h1.size; omega)).trans (h1.block k hk')⟩, Nat.le_trans h2 hw.size, (hk v hv h3.lt).trans h3⟩
set_option maxRecDepth 100000 in
set_option maxHeartbeats 4000000 in
theorem b_count {w : World} {P : Pl} {B : Bm} (h : Bmp w P B) :
    Calls Try.prog 36 #[.pointer (some ⟨P.p, P.o, none⟩)] w fun e w' => e = .returned (.int .i64 (B.all true).length) ∧ Below w.heap.size w w' := by
  have hlen : (B.all true).length ≤ 256 := Nat.le_trans (B.nums_len true _) h.1.s2
  have hplt := h.lt
  refine (callsIn_wide (n := 5)).1 ?_
  refine callsIn_of_wp_marks Try.func36 rfl trivial ?_ rfl
  simp only [Try.ntmps36, List.size_toArray, List.length_cons, List.length_nil, Nat.reduceAdd, Nat.reduceSub, Array.replicate_succ, Array.replicate_zero, List.push_toArray, List.append_toArray, List.nil_append, List.cons_append]
  have q1 : Bk (w.alloc (.cells #[.int .i64 0] 3)) 3 w.heap.size [.int .i64 0] := Bk.new w 3 [.int .i64 0]
  have hb1 : Below w.heap.size w (w.alloc (.cells #[.int .i64 0] 3)) := (Below.refl _ w).alloc (Nat.le_refl _) _
  have h' := h.below hb1
  have Q := Lib.hid (And.intro q1 hb1)
  clear q1 hb1
  gi_wp2
  refine ⟨trivial, (callsIn_wide.2 (b_numbers _ _ _)).mono ?_⟩
  rintro e W0 ⟨rfl, hr1, hr2, hb2⟩
  obtain ⟨q1, hb1⟩ := Q.out
  have q1' := q1.keep hb2 (by simp)
  have hb0 := hb1.trans (hb2.mono hb1.size)
  have hbm := h'.below hb2
  simp only [World.size_alloc] at hr1 hr2 ⊢
  have hz2 := hr2.lt
  gi_wp2
  refine wpIn_rangeFunc_ownF rfl (by decide) (gf := 46) (lb := #[.pointer (some ⟨w.heap.size + 1, 0, none⟩), .pointer (some ⟨w.heap.size + 1 + 1, 0, none⟩)]) rfl trivial (enters_of Try.func46 (by kernel_rfl) rfl)
    (num_stops (5 - 1) (by decide) (fun k => k = w.heap.size + 1 ∨ k = w.heap.size + 1 + 1 ∨ k = P.p) (w.heap.size + 1) (w.heap.size + 1 + 1) P B true W0 (.inr (.inr rfl)) (.inl rfl) (.inr (.inl rfl)) (fun k hk => by omega) hbm hr1 hr2) KpS.trans (KpS.put (fun k hk => by omega)) (Below.refl _ _) (fun _ => rfl)
    (fun pre => Cnt w W0.heap.size w.heap.size pre.length) (fun _ _ _ => False) (fun pre W W' row hI hw hr => hI.own (by omega) (Nat.le_refl _) (by omega) hw hr) (fun _ _ _ _ _ hs _ _ => hs) ⟨hb0, Nat.le_refl _, q1'⟩
    (fun i => { tmps := #[.pointer (some ⟨P.p, P.o, none⟩), undef, .int .i64 0, .pointer (some ⟨w.heap.size, 0, none⟩), .pointer (some ⟨P.p, P.o, none⟩), .func (.func 46) #[] #[.pointer (some ⟨w.heap.size + 1, 0, none⟩), .pointer (some ⟨w.heap.size + 1 + 1, 0, none⟩)], .int .i64 (B.all true)[i], undef, undef, undef], defers := [] }) ?assign ?body ?done ?stop
  case assign =>
    intro l x W K hK
    gi_wp2
    simpa using hK
  case body =>
    rintro l pre x W ⟨hb, hsz, r⟩ hpre
    have cl := r.cell 0 rfl
    have fl := r.free 0
    have hn : (pre.length : Int) ≤ 256 := by omega
    have HB := Lib.hid hb
    have HR := Lib.hid (r.set 0 (.int .i64 ((pre.length : Int) + 1)))
    clear hb r
    gi_wp2
    refine ⟨KeepsOthers.setCell _ _ _, fun k hk => Below.heap_setCell _ _ _ _ (by simp; omega), ⟨HB.out.trans ((Below.refl _ _).setCell (by simp) _), by simp [World.setCell]; omega, ?_⟩⟩
    rw [List.length_append, List.length_singleton, Int.natCast_add]
    exact HR.out
  case done =>
    rintro D ys W hD rfl ⟨hb, hsz, r⟩ hK
    have cl := r.cell 0 rfl
    gi_wp2
    refine ⟨by simp, .inl ⟨_, _, rfl, run_takeDeferred hK, ?_⟩⟩
    refine ⟨_, results_tmp rfl _ _ _, ?_⟩
    refine ⟨rfl, hb.os, hb.tape, hb.output, by have := hb.size; simp [World.putObj]; omega, fun k hk => ?_⟩
    rw [World.putObj_heap_other (by omega)]
    exact hb.block k hk
  case stop =>
    rintro D c' pre W hD _ h _
    exact h.elim
/-- Between two rounds of Lacking. -/
structure LkI (w : World) (L : Nat) (most : Int) (xs : List Int) (W : World) : Prop where
  mo : Bk W 3 w.heap.size [.int .i64 most]
  col : Col 27 3 w L (w.heap.size + 1) (intV xs) W
  le : xs.length ≤ most.toNat
theorem LkI.own {w : World} {L B : Nat} {most : Int} {xs : List Int} {W W' : World} {row : Option Nat} (h : LkI w L most xs W) (hv : w.heap.size + 2 ≤ L) (hL : L ≤ B) (hw : W.grownBy W' row)
    (hr : ∀ r, row = some r → B ≤ r ∧ ∃ o : Obj, W.heap[r]? = some o ∧ o.isCells = false) : LkI w L most xs W' :=
  ⟨(hw.block _ h.mo.lt (fun e => by have := (hr _ e.symm).1; omega)).trans h.mo, h.col.own (by omega) hL (by omega) hw hr, h.le⟩
set_option maxRecDepth 100000 in
set_option maxHeartbeats 4000000 in
theorem b_lacking {w : World} {P : Pl} {B : Bm} (h : Bmp w P B) (most : Int) :
    Calls Try.prog 37 #[.pointer (some ⟨P.p, P.o, none⟩), .int .i64 most] w (Made 3 (intV ((B.all false).take most.toNat)) w) := by
  have hlen : (B.all false).length ≤ 256 := Nat.le_trans (B.nums_len false _) h.1.s2
  have hplt := h.lt
  obtain ⟨w0, hw0⟩ : ∃ w0, w0 = (w.alloc (.cells #[.int .i64 most] 3)).alloc (.cells #[.slice none 0 0] 27) := ⟨_, rfl⟩
  have q0 : Bk w0 3 w.heap.size [.int .i64 most] := by rw [hw0]; exact (Bk.new w _ [.int .i64 most]).alloc _
  have q1 : Bk w0 27 (w.heap.size + 1) [.slice none 0 0] := by
    have := Bk.new (w.alloc (.cells #[.int .i64 most] 3)) 27 [.slice none 0 0]
    rw [World.size_alloc] at this
    rw [hw0]; exact this
  have hb1 : Below w.heap.size w w0 := by rw [hw0]; exact (((Below.refl _ w).alloc (Nat.le_refl _) _).alloc (by simp) _)
  have hz : w0.heap.size = w.heap.size + 2 := by rw [hw0]; simp
  have h' := h.below hb1
  have HW := Lib.hid hw0
  have Q := Lib.hid (And.intro q0 (And.intro q1 (And.intro hb1 hz)))
  clear q0 q1 hb1 hz hw0
  refine (callsIn_wide (n := 5)).1 ?_
  refine callsIn_of_wp_marks Try.func37 rfl trivial ?_ rfl
  simp only [Try.ntmps37, List.size_toArray, List.length_cons, List.length_nil, Nat.reduceAdd, Nat.reduceSub, Array.replicate_succ, Array.replicate_zero, List.push_toArray, List.append_toArray, List.nil_append, List.cons_append]
  gi_wp2
  rw [← HW.out]
  refine ⟨trivial, (callsIn_wide.2 (b_numbers _ _ _)).mono ?_⟩
  rintro e W0 ⟨rfl, hr1, hr2, hb2⟩
  obtain ⟨q0, q1, hb1, hz⟩ := Q.out
  have q0' := q0.below hb2
  have q1' := q1.below hb2
  have hb0 := hb1.trans (hb2.mono hb1.size)
  have hbm := h'.below hb2
  rw [hz] at hr1 hr2 ⊢
  have hz2 := hr2.lt
  clear Q hb2 q0 q1 h'
  gi_wp2
  obtain ⟨L, hL⟩ : ∃ L, L = W0.heap.size := ⟨_, rfl⟩
  have hLw : w.heap.size + 4 ≤ L := by omega
  have HLz := Lib.hid hL
  clear hL
  refine wpIn_rangeFunc_ownF rfl (by decide) (gf := 46) (lb := #[.pointer (some ⟨w.heap.size + 2, 0, none⟩), .pointer (some ⟨w.heap.size + 2 + 1, 0, none⟩)]) rfl trivial (enters_of Try.func46 (by kernel_rfl) rfl)
    (num_stops (5 - 1) (by decide) (fun k => k = w.heap.size + 2 ∨ k = w.heap.size + 2 + 1 ∨ k = P.p) (w.heap.size + 2) (w.heap.size + 2 + 1) P B false W0 (.inr (.inr rfl)) (.inl rfl) (.inr (.inl rfl)) (fun k hk => by omega) hbm hr1 hr2) KpS.trans (KpS.put (fun k hk => by omega)) (Below.refl _ _) (fun _ => rfl)
    (fun pre => LkI w L most (pre.map fun i => (B.all false)[i])) (fun c pre' W => c = .exit 0 ∧ ∃ pre x, pre' = pre ++ [x] ∧ most.toNat ≤ pre.length ∧ LkI w L most (pre.map fun i => (B.all false)[i]) W) (fun pre W W' row hI hw hr => hI.own (by omega) (by have := HLz.out; omega) hw hr) (fun c' => ?own) ⟨q0', ⟨hb0, by have := HLz.out; omega, none, 0, 0, q1', Lst.nil _ _ _⟩, Nat.zero_le _⟩
    (fun i => { tmps := #[.pointer (some ⟨P.p, P.o, none⟩), .int .i64 most, undef, .pointer (some ⟨w.heap.size, 0, none⟩), .slice none 0 0, .pointer (some ⟨w.heap.size + 1, 0, none⟩), .int .i64 (B.all false)[i], .pointer (some ⟨P.p, P.o, none⟩), .func (.func 46) #[] #[.pointer (some ⟨w.heap.size + 2, 0, none⟩), .pointer (some ⟨w.heap.size + 2 + 1, 0, none⟩)], .int .i64 (B.all false)[i], undef, undef, undef, undef, undef, undef, undef, undef, undef], defers := [] }) ?assign ?body ?done ?stop
  case own =>
    rintro pre' W W' row ⟨hc', pre, x, e1, e2, hI⟩ hw hr
    exact ⟨hc', pre, x, e1, e2, hI.own (by omega) (by have := HLz.out; omega) hw hr⟩
  case assign =>
    intro l x W K hK
    gi_wp2
    simpa using hK
  case body =>
    rintro l pre x W ⟨r0, ⟨hb, hsz, A, n, c, r, hl⟩, hle⟩ hpre
    have c0 := r0.cell 0 rfl
    have cl := r.cell 0 rfl
    have fl := r.free 0
    have hn := hl.1
    rw [intV_len, List.length_map] at hn
    rw [List.length_map] at hle
    subst hn
    have hn8 : pre.length ≤ 256 := by omega
    have HB := Lib.hid hb
    have HS := Lib.hid hsz
    by_cases hm : most ≤ pre.length
    · have HI : Hid (LkI w L most (pre.map fun i => (B.all false)[i]) W) := Lib.hid ⟨r0, ⟨hb, hsz, A, _, c, r, hl⟩, by rw [List.length_map]; exact hle⟩
      have HM := Lib.hid (show most.toNat ≤ pre.length by omega)
      clear hb hsz r0 r hl hle
      gi_wp2
      exact ⟨KeepsOthers.refl _, rfl, pre, x, rfl, HM.out, HI.out⟩
    · have hm' : (pre.length : Int) < most := by omega
      have hla := (hl.alloc (.cells #[.int .i64 (B.all false)[x]] 3)).tight
      have hu := RdV.one W 3 (.int .i64 (B.all false)[x]) rfl
      have HA : Hid (intV ((pre ++ [x]).map fun i => (B.all false)[i]) = intV (pre.map fun i => (B.all false)[i]) ++ [.int .i64 (B.all false)[x]]) := Lib.hid (by simp [intV])
      have HLE : Hid (((pre ++ [x]).map fun i => (B.all false)[i]).length ≤ most.toNat) := Lib.hid (by simp; omega)
      have hvA : ¬ BlkOf A (w.heap.size + 1) := by
        rintro ⟨ad, he, hbk⟩
        have := (hl.blk ad he).1
        omega
      have HR0 := Lib.hid r0
      generalize (B.all false)[x] = y at *
      clear hb hsz r0
      gi_wp2_with (first
                   | (refine wpListIn_build_one (x := .int .i64 y) eltI rfl (.tmp 15) rfl rfl rfl ?_)
                   | (gi_at_builtin
                      refine wpListIn_append_lst eltI rfl (.tmp 14) (.tmp 16) rfl rfl hla rfl hu (by omega) ?_
                      rintro v w2 hap
                      obtain ⟨A', n', c', rfl, hl'⟩ := hap.ex
                      have HAP := Lib.hid hap
                      have r2 := (r.alloc (.cells #[.int .i64 y] 3)).st hap.st hvA
                      have c3 := r2.cell 0 rfl
                      have f3 := r2.free 0
                      clear hap hl'))
      obtain ⟨k1, k2, k3⟩ := Col.step HB.out HS.out r hl (by omega) (by omega) _ HAP.out
      refine ⟨k1, fun k hk => k2.block k (by have := HS.out; omega) (by omega), HR0.out.st k2 (by omega), ?_, HLE.out⟩
      show Col 27 3 w L (w.heap.size + 1) (intV ((pre ++ [x]).map fun i => (B.all false)[i])) _
      rw [HA.out]
      exact k3
  case done =>
    rintro D ys W hD rfl ⟨r0, ⟨hb, hsz, A, n, c, r, hl⟩, hle⟩ hK
    rw [show (List.finRange (B.all false).length).map (fun i => (B.all false)[i]) = B.all false from by
      apply List.ext_getElem
      · simp
      · intro i h1 h2
        simp] at hl hle
    have HT : Hid ((B.all false).take most.toNat = B.all false) := Lib.hid (List.take_of_length_le hle)
    have cl := r.cell 0 rfl
    have HLL := Lib.hid hle
    clear hle
    gi_wp2
    refine ⟨by simp, .inl ⟨_, _, rfl, run_takeDeferred hK, ?_⟩⟩
    refine ⟨_, results_tmp rfl _ _ _, ?_⟩
    rw [HT.out]
    exact Col.shut0 (t := 27) (v := w.heap.size + 1) hb hl hK (by omega) (by omega)
  case stop =>
    rintro D c' pre' W hD ⟨k, hpk⟩ ⟨rfl, pre, x, e1, e2, r0, ⟨hb, hsz, A, n, c, r, hl⟩, hle⟩ hK
    rw [List.length_map] at hle
    have hpre : (pre.map fun i => (B.all false)[i]) = (B.all false).take most.toNat := by
      obtain hlm : pre.length = most.toNat := by omega
      rw [e1] at hpk
      have hk : pre.length ≤ k := by
        have := congrArg List.length hpk
        simp at this
        omega
      have hp := congrArg (List.take pre.length) hpk
      rw [List.take_take, Nat.min_eq_left hk] at hp
      simp only [List.take_left'] at hp
      rw [hp, ← hlm, List.map_take, show (List.finRange (B.all false).length).map (fun i => (B.all false)[i]) = B.all false from by
        apply List.ext_getElem
        · simp
        · intro i h1 h2
          simp]
    rw [hpre] at hl
    have cl := r.cell 0 rfl
    gi_wp2
    refine ⟨by simp, .inl ⟨_, _, rfl, run_takeDeferred hK, ?_⟩⟩
    refine ⟨_, results_tmp rfl _ _ _, ?_⟩
    exact Col.shut0 (t := 27) (v := w.heap.size + 1) hb hl hK (by omega) (by omega)
end Go.Proofs.Ytopmfpdcdclffaa
