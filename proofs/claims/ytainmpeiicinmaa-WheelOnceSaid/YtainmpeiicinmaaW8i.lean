/- Ticks. -/
import Derived.Test.YtainmpeiicinmaaW7i
set_option linter.unusedSimpArgs false
set_option linter.unusedVariables false
set_option maxRecDepth 100000
namespace Go.Proofs.Ytainmpeiicinmaa.Wi
open Go.RowKit Go.Shelf
/-- What a call leaves that ticks: the keys that were due, in a list of its own. -/
def DueR (g : Nat) (m : Wm Int) (n : Int) (w : World) (e : Ending) (w' : World) : Prop :=
  ∃ A k c, e = .returned (.slice A k c) ∧ Lst 3 (w.heap.size ≤ ·) w' A k c (kvs (m.due n)) ∧ Did w g (m.skip n) w'
section
variable {w w' w1 w2 w3 : World} {g p b b2 bt D : Nat} {m m' : Wm Int} {A : Option Addr} {n c : Nat} {x y : Int}
theorem Did.shut (h : Did w g m w3) (hD : w.heap.size ≤ D) (hK : w3.heap[D]? = some (.deferred (some []))) (ob : Obj) : Did w g m (w3.putObj D ob) := by
  obtain ⟨⟨A, n, c, h1⟩, h2⟩ := h
  have hgD : g ≠ D := fun e => by
    have := h1.bk
    rw [e] at this
    unfold Bk at this
    rw [hK] at this
    cases this
  refine ⟨⟨A, n, c, h1.kps (World.putObj_heap_other hgD) fun k hk => World.putObj_heap_other fun e => ?_⟩, h2.os, h2.tape, h2.output, by simpa [World.putObj] using h2.size, fun k hk hn => ?_⟩
  · obtain ⟨cur, fz, ht⟩ := h1.ls.tyd k hk
    rw [e, hK] at ht
    cases ht
  · rw [World.putObj_heap_other (by omega)]
    exact h2.block k hk hn
/-- Between two rounds: the keys that have come, all of them due. -/
structure DuI (ws : World) (L v : Nat) (xs : List (Int × Int)) (pre : List (Fin xs.length)) (W : World) : Prop where
  col : Col 38 3 ws L v (kvs (pre.map fun i => xs[i].1)) W
  le : ∀ i ∈ pre, xs[i].2 ≤ 0
theorem due_of (m1 : Wm Int) (pre : List (Fin (outs m1).length)) (hpre : pre = (List.finRange _).take pre.length) (hall : ∀ i ∈ pre, (outs m1)[i].2 ≤ 0) (hnx : ∀ h : pre.length < (outs m1).length, 0 < (outs m1)[pre.length].2) :
    pre.map (fun i => (outs m1)[i].1) = (low m1.l m1.now).map Tm.k ∧ pre.length = (low m1.l m1.now).length := by
  have hol := outs_len m1
  have hpl : pre.length ≤ m1.l.length := by
    have := congrArg List.length hpre
    rw [List.length_take, List.length_finRange] at this
    omega
  have hat : ∀ j (h : j < (outs m1).length), (outs m1)[j].2 = (m1.l[j]'(by omega)).d - m1.now := fun j h => by simp [outs]
  have h0 : (low m1.l m1.now).length = pre.length := low_of m1.l m1.now pre.length hpl (fun j hj h2 => by
    have hm : (⟨j, by omega⟩ : Fin (outs m1).length) ∈ pre := by
      rw [hpre, List.mem_iff_getElem]
      refine ⟨j, by rw [List.length_take, List.length_finRange]; omega, ?_⟩
      rw [List.getElem_take, List.getElem_finRange]
      rfl
    have h3 := hall _ hm
    have h4 := hat j (by omega)
    rw [Fin.getElem_fin] at h3
    simp only at h3
    rw [h4] at h3
    omega) (fun h => by
    have h3 := hnx (by omega)
    rw [hat] at h3
    omega)
  refine ⟨?_, h0.symm⟩
  have h1 : pre.map (fun i => (outs m1)[i].1) = (m1.l.take pre.length).map Tm.k := by
    conv => lhs; rw [hpre]
    apply List.ext_getElem
    · simp; omega
    · intro i h1 h2
      simp [outs]
  rw [h1, ← h0, ← low_take]
attribute [local go_sem] Oper.semAt_some
theorem _root_.Go.Proofs.Ytainmpeiicinmaa.Lst.notD {e : TypeId} {F : Nat → Prop} {W : World} {A : Option Addr} {n c D : Nat} {vs : List Value} (h : Lst e F W A n c vs) {q : Option (List Deferred)} (hK : W.heap[D]? = some (.deferred q)) {ad : Addr} (he : A = some ad) : ad.block ≠ D := by
  rintro rfl
  rcases h.2.2.2.2 with ⟨rfl, _⟩ | ⟨g', o', cur, rfl, _, hh, _⟩
  · cases he
  · injection he with he
    subst he
    rw [hh] at hK
    cases hK
theorem pre_at {N j : Nat} {pre : List (Fin N)} {x : Fin N} (h : pre ++ [x] = (List.finRange N).take j) : pre = (List.finRange N).take pre.length ∧ x.val = pre.length := by
  have hl := congrArg List.length h
  rw [List.length_append, List.length_take, List.length_finRange, List.length_singleton] at hl
  refine ⟨?_, ?_⟩
  · have h1 := congrArg (List.take pre.length) h
    rw [List.take_left, List.take_take, Nat.min_eq_left (by omega)] at h1
    exact h1
  · have h1 := congrArg (fun l => l[pre.length]?) h
    simp only [List.getElem?_append_right (Nat.le_refl _), Nat.sub_self, List.getElem?_cons_zero, List.getElem?_take] at h1
    rw [if_pos (by omega), List.getElem?_eq_getElem (by rw [List.length_finRange]; omega)] at h1
    injection h1 with h1
    rw [h1, List.getElem_finRange]
    rfl
set_option maxHeartbeats 4000000 in
theorem w_skip_yes (h : WhC w g m) (hnb : m.now ≤ 1000000000) (n : Int) (hn0 : 0 ≤ n) (hn1 : n ≤ 1048576) : Calls Try.prog 15 #[.pointer (some ⟨g, 0, none⟩), .int .i64 n] w (DueR g m n w) := by
  have HM := Lib.hid (w_made h)
  obtain ⟨A, k, c, h⟩ := h
  have hgl := h.bk.lt
  have c1 := h.bk.cell 1 rfl
  have f1 := h.bk.free 1
  have hcl : m.now + clampN n = m.now + n := by unfold clampN; rw [if_neg (by omega), if_pos hn1]
  have hnw0 := h.nm.n0
  obtain ⟨m1, hm1⟩ : ∃ m1 : Wm Int, m1 = ⟨m.most, m.now + n, m.sets, m.l⟩ := ⟨_, rfl⟩
  obtain ⟨ws, hws⟩ : ∃ ws, ws = w.setCell ⟨g, 1, none⟩ (.int .i64 (m.now + n)) := ⟨_, rfl⟩
  have hstw : St (· = g) w ws := by rw [hws]; exact St.setCell (F := (· = g)) w (a := ⟨g, 1, none⟩) rfl _
  have hwsz : ws.heap.size = w.heap.size := by rw [hws]; simp [World.setCell]
  have hAs : WhA ws g m1 A k c := by
    have hb := h.bk.set 1 (.int .i64 (m.now + n))
    refine ⟨by rw [hws, hm1]; exact hb, ?_, by rw [hm1]; exact ⟨h.nm.m1, h.nm.m2, h.nm.ln, by show 0 ≤ m.now + n; omega, by show m.now + n ≤ 2000000000; omega, h.nm.db⟩⟩
    rw [hm1]
    exact h.ls.same fun ad he => hstw.block _ (h.ls.blk ad he).2 (h.off h.bk.tyd (by decide) _ ⟨ad, he, rfl⟩)
  have q1 : Bk (ws.alloc (.cells #[.slice none 0 0] 38)) 38 w.heap.size [.slice none 0 0] := by
    have := Bk.new ws 38 [.slice none 0 0]
    rw [hwsz] at this
    exact this
  have hb1 : Below ws.heap.size ws (ws.alloc (.cells #[.slice none 0 0] 38)) := (Below.refl _ _).alloc (Nat.le_refl _) _
  have Q := Lib.hid (And.intro q1 hb1)
  have HW := Lib.hid hws
  have HA := Lib.hid hAs
  have HZ := Lib.hid hwsz
  have HM1 := Lib.hid hm1
  have HCL := Lib.hid hcl
  clear h q1 hb1 hws hAs hwsz hm1 hcl
  refine (callsIn_wide (n := 5)).1 ?_
  refine callsIn_of_wp_marks Try.func15 rfl trivial ?_ rfl
  simp only [Try.ntmps15, List.size_toArray, List.length_cons, List.length_nil, Nat.reduceAdd, Nat.reduceSub, Array.replicate_succ, Array.replicate_zero, List.push_toArray, List.append_toArray, List.nil_append, List.cons_append]
  gi_wp2
  refine ⟨trivial, (callsIn_wide.2 HM.out).mono ?_⟩
  rintro e W1 ⟨rfl, rfl⟩
  gi_wp2
  rw [← HW.out]
  refine ⟨trivial, (callsIn_wide.2 (w_all _ _)).mono ?_⟩
  rintro e W0 ⟨rfl, hr1, hb2⟩
  have hwsz := HZ.out
  obtain ⟨q1, hb1⟩ := Q.out
  have q1' := q1.below hb2
  have hb0 := below_on hb1 hb2
  have hA0 := HA.out.below hb0
  rw [World.size_alloc, hwsz] at hr1 ⊢
  have hz1 := hr1.lt
  clear q1 hb1 hb2 Q c1 f1
  gi_wp2
  obtain ⟨L, hL⟩ : ∃ L, L = W0.heap.size := ⟨_, rfl⟩
  have HLz := Lib.hid hL
  have hLw : w.heap.size + 1 < L := by omega
  have hT : ∀ q, (q = g ∨ q = w.heap.size + 1 ∨ BlkOf A q) → q < W0.heap.size ∧ q ≠ w.heap.size := fun q hq => by
    rcases hq with rfl | rfl | hq
    · exact ⟨by omega, by omega⟩
    · exact ⟨by omega, by omega⟩
    · have h1 := HA.out.blt q hq
      exact ⟨by omega, by omega⟩
  clear hL
  refine wpIn_rangeFunc_ownF rfl (by decide) (gf := 47) (lb := #[.pointer (some ⟨w.heap.size + 1, 0, none⟩)]) rfl trivial (enters_of Try.func47 (by kernel_rfl) rfl)
    (all_stops (5 - 1) (by decide) (fun q => q = g ∨ q = w.heap.size + 1 ∨ BlkOf A q) (w.heap.size + 1) (.inr (.inl rfl)) (.inl rfl) (fun q hq => .inr (.inr hq)) (fun q hq => (hT q hq).1) hA0 hr1) KpS.trans (KpS.put (fun q hq => (hT q hq).1)) (Below.refl _ _) (fun _ => rfl)
    (fun pre W => DuI ws L w.heap.size (outs m1) pre W) (fun c' pre' W => c' = .exit 0 ∧ ∃ pre x, pre' = pre ++ [x] ∧ 0 < (outs m1)[x].2 ∧ DuI ws L w.heap.size (outs m1) pre W) (fun pre W W' row hI hw hr => ⟨hI.col.own (by omega) (by have := HLz.out; omega) (by omega) hw hr, hI.le⟩) (fun c' => ?own) ⟨⟨hb0, by have := HLz.out; omega, none, 0, 0, q1', Lst.nil _ _ _⟩, by simp⟩
    (fun i => { tmps := #[.pointer (some ⟨g, 0, none⟩), .int .i64 n, undef, undef, .slice none 0 0, .pointer (some ⟨w.heap.size, 0, none⟩), (.int .i64 (outs m1)[i].1), .int .i64 (outs m1)[i].2, .pointer (some ⟨g, 0, none⟩), .bool true, .bool false, .pointer (some ⟨g, 0, none⟩), .pointer (some ⟨g, 0, none⟩), .pointer (some ⟨g, 1, none⟩), .int .i64 m.now, .int .i64 n, .int .i64 n, .int .i64 n, .int .i64 (m.now + n), .pointer (some ⟨g, 0, none⟩), .pointer (some ⟨g, 1, none⟩), .pointer (some ⟨g, 0, none⟩), .func (.func 47) #[] #[.pointer (some ⟨w.heap.size + 1, 0, none⟩)], (.int .i64 (outs m1)[i].1), .int .i64 (outs m1)[i].2, undef, undef, undef, undef, undef, undef, undef, undef, undef, undef, undef, undef, undef, undef], defers := [] }) ?assign ?body ?done ?stop
  case own =>
    rintro pre' W W' row ⟨hc', pre, x, e1, e2, hI⟩ hw hr
    exact ⟨hc', pre, x, e1, e2, hI.col.own (by omega) (by have := HLz.out; omega) (by omega) hw hr, hI.le⟩
  case assign =>
    intro l x W K hK
    gi_wp2
    simpa using hK
  case body =>
    rintro l pre x W ⟨⟨hb, hsz, A', n', c', r, hl⟩, hle⟩ hpre
    have cl := r.cell 0 rfl
    have fl := r.free 0
    have hn := hl.1
    rw [kvs_len, List.length_map] at hn
    have hol := outs_len m1
    have hln := HA.out.nm.ln
    have hpl : pre.length ≤ 1024 := by
      omega
    have hn8 : n' ≤ 1024 := by omega
    have HB := Lib.hid hb
    have HS := Lib.hid hsz
    clear hn hol hln hpre
    by_cases hx : 0 < (outs m1)[x].2
    · have HI : Hid (DuI ws L w.heap.size (outs m1) pre W) := Lib.hid ⟨⟨hb, hsz, A', _, c', r, hl⟩, hle⟩
      have HX := Lib.hid hx
      have hx2 : 0 < (outs m1)[x.val].2 := hx
      clear hb hsz r hl hle hx
      gi_wp2
      exact ⟨KeepsOthers.refl _, rfl, pre, x, rfl, HX.out, HI.out⟩
    · have hx' : (outs m1)[x].2 ≤ 0 := by omega
      have hla := (hl.alloc (.cells #[(.int .i64 (outs m1)[x].1)] 3)).tight
      have hu := RdV.one W 3 ((.int .i64 (outs m1)[x].1)) rfl
      have HA1 : Hid (kvs ((pre ++ [x]).map fun i => (outs m1)[i].1) = kvs (pre.map fun i => (outs m1)[i].1) ++ [(.int .i64 (outs m1)[x].1)]) := Lib.hid (by simp [kvs])
      have HLE : Hid (∀ i ∈ pre ++ [x], (outs m1)[i].2 ≤ 0) := Lib.hid (fun i hi => by
        rcases List.mem_append.1 hi with hi | hi
        · exact hle i hi
        · rw [List.mem_singleton.1 hi]; exact hx')
      have hvA : ¬ BlkOf A' w.heap.size := by
        rintro ⟨ad, he, hbk⟩
        have := (hl.blk ad he).1
        omega
      generalize (outs m1)[x].1 = y at *
      generalize (outs m1)[x].2 = z at *
      clear hb hsz hx hle
      gi_wp2_with (first
                   | (refine wpListIn_build_one (x := (.int .i64 y)) eltK rfl (.tmp 28) rfl rfl rfl ?_)
                   | (gi_at_builtin
                      refine wpListIn_append_lst eltK rfl (.tmp 27) (.tmp 29) rfl rfl hla rfl hu (by omega) ?_
                      rintro v w2 hap
                      obtain ⟨A2, n2, c2, rfl, hl'⟩ := hap.ex
                      have HAP := Lib.hid hap
                      have r2 := (r.alloc (.cells #[(.int .i64 y)] 3)).st hap.st hvA
                      have c3 := r2.cell 0 rfl
                      have f3 := r2.free 0
                      clear hap hl'))
      obtain ⟨k1, k2, k3⟩ := Col.step HB.out HS.out r hl (by omega) (by omega) _ HAP.out
      refine ⟨k1, fun q hq => k2.block q (by have := HS.out; have := (hT q hq).1; have := HLz.out; omega) (by have := hT q hq; have := HLz.out; omega), ?_, HLE.out⟩
      show Col 38 3 ws L w.heap.size (kvs ((pre ++ [x]).map fun i => (outs m1)[i].1)) _
      rw [HA1.out]
      exact k3
  case done =>
    rintro D ys W hD rfl ⟨⟨hb, hsz, A', k', c', r, hl⟩, hle⟩ hK
    have hdue := due_of m1 (List.finRange _) (by rw [List.length_finRange]; exact (List.take_of_length_le (by simp)).symm) hle (fun h => by simp at h)
    have hwh0 := (HA.out.below hb)
    have hgD : w.heap.size ≤ D := by have := hb0.size; omega
    have hwl : w.heap.size < D := by omega
    have cl := r.cell 0 rfl
    have hlen := hl.1
    rw [kvs_len, hdue.1, List.length_map] at hlen
    have HD1 : Hid (Did w g m1 W) := Lib.hid ⟨⟨_, _, _, hwh0⟩, hstw.trans (St.ext hb) (Gr.refl _ _)⟩
    have hkn : k' = (low m1.l m1.now).length := by omega
    have hnl : k' ≤ 1024 := by have h1 := low_le m1.l m1.now; have h2 := HA.out.nm.ln; omega
    have hnK : (k' : Int) ≤ 1024 := by omega
    have hLK : Hid (Lst 3 (w.heap.size ≤ ·) W A' k' c' (kvs (m.due n))) := Lib.hid (by
      rw [show m.due n = (low m1.l m1.now).map Tm.k from by rw [HM1.out]; unfold Wm.due; rw [HCL.out], ← hdue.1]
      exact hl.mono fun j hj => by have := hwsz; omega)
    have hdrop : m.skip n = ⟨m1.most, m1.now, m1.sets, m1.l.drop k'⟩ := by
      rw [hkn, ← high_drop, HM1.out]
      unfold Wm.skip
      rw [HCL.out]
    have HKd := Lib.hid hK
    have HR := Lib.hid r
    by_cases hk0 : k' = 0
    · subst hk0
      have hsk : m.skip n = m1 := by rw [hdrop]; rfl
      clear hdrop hlen hkn hl
      gi_wp2
      refine ⟨by simp, .inl ⟨_, _, rfl, run_takeDeferred HKd.out, ?_⟩⟩
      refine ⟨_, results_tmp rfl _ _ _, ?_⟩
      refine ⟨A', 0, c', rfl, ?_, by rw [hsk]; exact HD1.out.shut hgD HKd.out _⟩
      exact hLK.out.same fun ad he => World.putObj_heap_other (hLK.out.notD HKd.out he)
    · have hk0' : (0 : Int) < k' := by omega
      have HRm := Lib.hid (w_remove (HD1.out.1) (i := 0) (j := k') (m' := m.skip n) (Nat.zero_le _) (by rw [hkn]; exact low_le _ _) (by rw [hdrop]) (by rw [hdrop]) (by rw [hdrop]; rfl) (by rw [hdrop]; exact ⟨HA.out.nm.m1, HA.out.nm.m2, by have := HA.out.nm.ln; simp; omega, HA.out.nm.n0, HA.out.nm.nb, fun t ht => HA.out.nm.db t (List.mem_of_mem_drop ht)⟩))
      clear hdrop hlen hkn hl
      gi_wp2
      refine ⟨trivial, (callsIn_wide.2 HRm.out).mono ?_⟩
      rintro e W3 ⟨rfl, hd3⟩
      have hr3 := HR.out.st hd3.2 (show ¬ w.heap.size = g by omega)
      have cl3 := hr3.cell 0 rfl
      have hD3 : W3.heap[D]? = some (.deferred (some [])) := (hd3.2.block D (Array.getElem?_eq_some_iff.1 HKd.out).1 (by omega)).trans HKd.out
      have HD3 := Lib.hid (And.intro (HD1.out.trans hd3) (And.intro hD3 hd3.2))
      clear hd3 hr3 hD3 cl
      gi_wp2
      refine ⟨by simp, .inl ⟨_, _, rfl, run_takeDeferred HD3.out.2.1, ?_⟩⟩
      refine ⟨_, results_tmp rfl _ _ _, ?_⟩
      have hL3 : Lst 3 (w.heap.size ≤ ·) W3 A' k' c' (kvs (m.due n)) := hLK.out.st HD3.out.2.2 fun j hj => by omega
      refine ⟨A', k', c', rfl, ?_, HD3.out.1.shut hgD HD3.out.2.1 _⟩
      exact hL3.same fun ad he => World.putObj_heap_other (hL3.notD HD3.out.2.1 he)
  case stop =>
    rintro D c'' pre' W hD ⟨j, hpk⟩ ⟨rfl, pre, x, e1, e2, ⟨hb, hsz, A', k', c', r, hl⟩, hle⟩ hK
    have hpx := pre_at (e1.symm.trans hpk)
    have hdue := due_of m1 pre hpx.1 hle (fun h => by
      have : x.val = pre.length := hpx.2
      rw [Fin.getElem_fin] at e2
      simp only [this] at e2
      exact e2)
    have hwh0 := (HA.out.below hb)
    have hgD : w.heap.size ≤ D := by have := hb0.size; omega
    have hwl : w.heap.size < D := by omega
    have cl := r.cell 0 rfl
    have hlen := hl.1
    rw [kvs_len, hdue.1, List.length_map] at hlen
    have HD1 : Hid (Did w g m1 W) := Lib.hid ⟨⟨_, _, _, hwh0⟩, hstw.trans (St.ext hb) (Gr.refl _ _)⟩
    have hkn : k' = (low m1.l m1.now).length := by omega
    have hnl : k' ≤ 1024 := by have h1 := low_le m1.l m1.now; have h2 := HA.out.nm.ln; omega
    have hnK : (k' : Int) ≤ 1024 := by omega
    have hLK : Hid (Lst 3 (w.heap.size ≤ ·) W A' k' c' (kvs (m.due n))) := Lib.hid (by
      rw [show m.due n = (low m1.l m1.now).map Tm.k from by rw [HM1.out]; unfold Wm.due; rw [HCL.out], ← hdue.1]
      exact hl.mono fun j hj => by have := hwsz; omega)
    have hdrop : m.skip n = ⟨m1.most, m1.now, m1.sets, m1.l.drop k'⟩ := by
      rw [hkn, ← high_drop, HM1.out]
      unfold Wm.skip
      rw [HCL.out]
    have HKd := Lib.hid hK
    have HR := Lib.hid r
    by_cases hk0 : k' = 0
    · subst hk0
      have hsk : m.skip n = m1 := by rw [hdrop]; rfl
      clear hdrop hlen hkn hl
      gi_wp2
      refine ⟨by simp, .inl ⟨_, _, rfl, run_takeDeferred HKd.out, ?_⟩⟩
      refine ⟨_, results_tmp rfl _ _ _, ?_⟩
      refine ⟨A', 0, c', rfl, ?_, by rw [hsk]; exact HD1.out.shut hgD HKd.out _⟩
      exact hLK.out.same fun ad he => World.putObj_heap_other (hLK.out.notD HKd.out he)
    · have hk0' : (0 : Int) < k' := by omega
      have HRm := Lib.hid (w_remove (HD1.out.1) (i := 0) (j := k') (m' := m.skip n) (Nat.zero_le _) (by rw [hkn]; exact low_le _ _) (by rw [hdrop]) (by rw [hdrop]) (by rw [hdrop]; rfl) (by rw [hdrop]; exact ⟨HA.out.nm.m1, HA.out.nm.m2, by have := HA.out.nm.ln; simp; omega, HA.out.nm.n0, HA.out.nm.nb, fun t ht => HA.out.nm.db t (List.mem_of_mem_drop ht)⟩))
      clear hdrop hlen hkn hl
      gi_wp2
      refine ⟨trivial, (callsIn_wide.2 HRm.out).mono ?_⟩
      rintro e W3 ⟨rfl, hd3⟩
      have hr3 := HR.out.st hd3.2 (show ¬ w.heap.size = g by omega)
      have cl3 := hr3.cell 0 rfl
      have hD3 : W3.heap[D]? = some (.deferred (some [])) := (hd3.2.block D (Array.getElem?_eq_some_iff.1 HKd.out).1 (by omega)).trans HKd.out
      have HD3 := Lib.hid (And.intro (HD1.out.trans hd3) (And.intro hD3 hd3.2))
      clear hd3 hr3 hD3 cl
      gi_wp2
      refine ⟨by simp, .inl ⟨_, _, rfl, run_takeDeferred HD3.out.2.1, ?_⟩⟩
      refine ⟨_, results_tmp rfl _ _ _, ?_⟩
      have hL3 : Lst 3 (w.heap.size ≤ ·) W3 A' k' c' (kvs (m.due n)) := hLK.out.st HD3.out.2.2 fun j hj => by omega
      refine ⟨A', k', c', rfl, ?_, HD3.out.1.shut hgD HD3.out.2.1 _⟩
      exact hL3.same fun ad he => World.putObj_heap_other (hL3.notD HD3.out.2.1 he)
set_option maxHeartbeats 4000000 in
theorem w_skip_no (h : WhC w g m) (hnb : m.now ≤ 1000000000) (n : Int) (hn0 : n < 0) : Calls Try.prog 15 #[.pointer (some ⟨g, 0, none⟩), .int .i64 n] w (DueR g m n w) := by
  have HM := Lib.hid (w_made h)
  obtain ⟨A, k, c, h⟩ := h
  have hgl := h.bk.lt
  have c1 := h.bk.cell 1 rfl
  have f1 := h.bk.free 1
  have hcl : m.now + clampN n = m.now := by unfold clampN; rw [if_pos hn0]; omega
  have hnw0 := h.nm.n0
  obtain ⟨m1, hm1⟩ : ∃ m1 : Wm Int, m1 = ⟨m.most, m.now, m.sets, m.l⟩ := ⟨_, rfl⟩
  obtain ⟨ws, hws⟩ : ∃ ws, ws = w.setCell ⟨g, 1, none⟩ (.int .i64 (m.now)) := ⟨_, rfl⟩
  have hstw : St (· = g) w ws := by rw [hws]; exact St.setCell (F := (· = g)) w (a := ⟨g, 1, none⟩) rfl _
  have hwsz : ws.heap.size = w.heap.size := by rw [hws]; simp [World.setCell]
  have hAs : WhA ws g m1 A k c := by
    have hb := h.bk.set 1 (.int .i64 (m.now))
    refine ⟨by rw [hws, hm1]; exact hb, ?_, by rw [hm1]; exact ⟨h.nm.m1, h.nm.m2, h.nm.ln, by show 0 ≤ m.now; omega, by show m.now ≤ 2000000000; omega, h.nm.db⟩⟩
    rw [hm1]
    exact h.ls.same fun ad he => hstw.block _ (h.ls.blk ad he).2 (h.off h.bk.tyd (by decide) _ ⟨ad, he, rfl⟩)
  have q1 : Bk (ws.alloc (.cells #[.slice none 0 0] 38)) 38 w.heap.size [.slice none 0 0] := by
    have := Bk.new ws 38 [.slice none 0 0]
    rw [hwsz] at this
    exact this
  have hb1 : Below ws.heap.size ws (ws.alloc (.cells #[.slice none 0 0] 38)) := (Below.refl _ _).alloc (Nat.le_refl _) _
  have Q := Lib.hid (And.intro q1 hb1)
  have HW := Lib.hid hws
  have HA := Lib.hid hAs
  have HZ := Lib.hid hwsz
  have HM1 := Lib.hid hm1
  have HCL := Lib.hid hcl
  clear h q1 hb1 hws hAs hwsz hm1 hcl
  refine (callsIn_wide (n := 5)).1 ?_
  refine callsIn_of_wp_marks Try.func15 rfl trivial ?_ rfl
  simp only [Try.ntmps15, List.size_toArray, List.length_cons, List.length_nil, Nat.reduceAdd, Nat.reduceSub, Array.replicate_succ, Array.replicate_zero, List.push_toArray, List.append_toArray, List.nil_append, List.cons_append]
  gi_wp2
  refine ⟨trivial, (callsIn_wide.2 HM.out).mono ?_⟩
  rintro e W1 ⟨rfl, rfl⟩
  gi_wp2
  rw [← HW.out]
  refine ⟨trivial, (callsIn_wide.2 (w_all _ _)).mono ?_⟩
  rintro e W0 ⟨rfl, hr1, hb2⟩
  have hwsz := HZ.out
  obtain ⟨q1, hb1⟩ := Q.out
  have q1' := q1.below hb2
  have hb0 := below_on hb1 hb2
  have hA0 := HA.out.below hb0
  rw [World.size_alloc, hwsz] at hr1 ⊢
  have hz1 := hr1.lt
  clear q1 hb1 hb2 Q c1 f1
  gi_wp2
  obtain ⟨L, hL⟩ : ∃ L, L = W0.heap.size := ⟨_, rfl⟩
  have HLz := Lib.hid hL
  have hLw : w.heap.size + 1 < L := by omega
  have hT : ∀ q, (q = g ∨ q = w.heap.size + 1 ∨ BlkOf A q) → q < W0.heap.size ∧ q ≠ w.heap.size := fun q hq => by
    rcases hq with rfl | rfl | hq
    · exact ⟨by omega, by omega⟩
    · exact ⟨by omega, by omega⟩
    · have h1 := HA.out.blt q hq
      exact ⟨by omega, by omega⟩
  clear hL
  refine wpIn_rangeFunc_ownF rfl (by decide) (gf := 47) (lb := #[.pointer (some ⟨w.heap.size + 1, 0, none⟩)]) rfl trivial (enters_of Try.func47 (by kernel_rfl) rfl)
    (all_stops (5 - 1) (by decide) (fun q => q = g ∨ q = w.heap.size + 1 ∨ BlkOf A q) (w.heap.size + 1) (.inr (.inl rfl)) (.inl rfl) (fun q hq => .inr (.inr hq)) (fun q hq => (hT q hq).1) hA0 hr1) KpS.trans (KpS.put (fun q hq => (hT q hq).1)) (Below.refl _ _) (fun _ => rfl)
    (fun pre W => DuI ws L w.heap.size (outs m1) pre W) (fun c' pre' W => c' = .exit 0 ∧ ∃ pre x, pre' = pre ++ [x] ∧ 0 < (outs m1)[x].2 ∧ DuI ws L w.heap.size (outs m1) pre W) (fun pre W W' row hI hw hr => ⟨hI.col.own (by omega) (by have := HLz.out; omega) (by omega) hw hr, hI.le⟩) (fun c' => ?own) ⟨⟨hb0, by have := HLz.out; omega, none, 0, 0, q1', Lst.nil _ _ _⟩, by simp⟩
    (fun i => { tmps := #[.pointer (some ⟨g, 0, none⟩), .int .i64 n, undef, undef, .slice none 0 0, .pointer (some ⟨w.heap.size, 0, none⟩), (.int .i64 (outs m1)[i].1), .int .i64 (outs m1)[i].2, .pointer (some ⟨g, 0, none⟩), .bool true, .bool false, .pointer (some ⟨g, 0, none⟩), .pointer (some ⟨g, 0, none⟩), .pointer (some ⟨g, 1, none⟩), .int .i64 m.now, .int .i64 n, .int .i64 0, .int .i64 0, .int .i64 (m.now), .pointer (some ⟨g, 0, none⟩), .pointer (some ⟨g, 1, none⟩), .pointer (some ⟨g, 0, none⟩), .func (.func 47) #[] #[.pointer (some ⟨w.heap.size + 1, 0, none⟩)], (.int .i64 (outs m1)[i].1), .int .i64 (outs m1)[i].2, undef, undef, undef, undef, undef, undef, undef, undef, undef, undef, undef, undef, undef, undef], defers := [] }) ?assign ?body ?done ?stop
  case own =>
    rintro pre' W W' row ⟨hc', pre, x, e1, e2, hI⟩ hw hr
    exact ⟨hc', pre, x, e1, e2, hI.col.own (by omega) (by have := HLz.out; omega) (by omega) hw hr, hI.le⟩
  case assign =>
    intro l x W K hK
    gi_wp2
    simpa using hK
  case body =>
    rintro l pre x W ⟨⟨hb, hsz, A', n', c', r, hl⟩, hle⟩ hpre
    have cl := r.cell 0 rfl
    have fl := r.free 0
    have hn := hl.1
    rw [kvs_len, List.length_map] at hn
    have hol := outs_len m1
    have hln := HA.out.nm.ln
    have hpl : pre.length ≤ 1024 := by
      omega
    have hn8 : n' ≤ 1024 := by omega
    have HB := Lib.hid hb
    have HS := Lib.hid hsz
    clear hn hol hln hpre
    by_cases hx : 0 < (outs m1)[x].2
    · have HI : Hid (DuI ws L w.heap.size (outs m1) pre W) := Lib.hid ⟨⟨hb, hsz, A', _, c', r, hl⟩, hle⟩
      have HX := Lib.hid hx
      have hx2 : 0 < (outs m1)[x.val].2 := hx
      clear hb hsz r hl hle hx
      gi_wp2
      exact ⟨KeepsOthers.refl _, rfl, pre, x, rfl, HX.out, HI.out⟩
    · have hx' : (outs m1)[x].2 ≤ 0 := by omega
      have hla := (hl.alloc (.cells #[(.int .i64 (outs m1)[x].1)] 3)).tight
      have hu := RdV.one W 3 ((.int .i64 (outs m1)[x].1)) rfl
      have HA1 : Hid (kvs ((pre ++ [x]).map fun i => (outs m1)[i].1) = kvs (pre.map fun i => (outs m1)[i].1) ++ [(.int .i64 (outs m1)[x].1)]) := Lib.hid (by simp [kvs])
      have HLE : Hid (∀ i ∈ pre ++ [x], (outs m1)[i].2 ≤ 0) := Lib.hid (fun i hi => by
        rcases List.mem_append.1 hi with hi | hi
        · exact hle i hi
        · rw [List.mem_singleton.1 hi]; exact hx')
      have hvA : ¬ BlkOf A' w.heap.size := by
        rintro ⟨ad, he, hbk⟩
        have := (hl.blk ad he).1
        omega
      generalize (outs m1)[x].1 = y at *
      generalize (outs m1)[x].2 = z at *
      clear hb hsz hx hle
      gi_wp2_with (first
                   | (refine wpListIn_build_one (x := (.int .i64 y)) eltK rfl (.tmp 28) rfl rfl rfl ?_)
                   | (gi_at_builtin
                      refine wpListIn_append_lst eltK rfl (.tmp 27) (.tmp 29) rfl rfl hla rfl hu (by omega) ?_
                      rintro v w2 hap
                      obtain ⟨A2, n2, c2, rfl, hl'⟩ := hap.ex
                      have HAP := Lib.hid hap
                      have r2 := (r.alloc (.cells #[(.int .i64 y)] 3)).st hap.st hvA
                      have c3 := r2.cell 0 rfl
                      have f3 := r2.free 0
                      clear hap hl'))
      obtain ⟨k1, k2, k3⟩ := Col.step HB.out HS.out r hl (by omega) (by omega) _ HAP.out
      refine ⟨k1, fun q hq => k2.block q (by have := HS.out; have := (hT q hq).1; have := HLz.out; omega) (by have := hT q hq; have := HLz.out; omega), ?_, HLE.out⟩
      show Col 38 3 ws L w.heap.size (kvs ((pre ++ [x]).map fun i => (outs m1)[i].1)) _
      rw [HA1.out]
      exact k3
  case done =>
    rintro D ys W hD rfl ⟨⟨hb, hsz, A', k', c', r, hl⟩, hle⟩ hK
    have hdue := due_of m1 (List.finRange _) (by rw [List.length_finRange]; exact (List.take_of_length_le (by simp)).symm) hle (fun h => by simp at h)
    have hwh0 := (HA.out.below hb)
    have hgD : w.heap.size ≤ D := by have := hb0.size; omega
    have hwl : w.heap.size < D := by omega
    have cl := r.cell 0 rfl
    have hlen := hl.1
    rw [kvs_len, hdue.1, List.length_map] at hlen
    have HD1 : Hid (Did w g m1 W) := Lib.hid ⟨⟨_, _, _, hwh0⟩, hstw.trans (St.ext hb) (Gr.refl _ _)⟩
    have hkn : k' = (low m1.l m1.now).length := by omega
    have hnl : k' ≤ 1024 := by have h1 := low_le m1.l m1.now; have h2 := HA.out.nm.ln; omega
    have hnK : (k' : Int) ≤ 1024 := by omega
    have hLK : Hid (Lst 3 (w.heap.size ≤ ·) W A' k' c' (kvs (m.due n))) := Lib.hid (by
      rw [show m.due n = (low m1.l m1.now).map Tm.k from by rw [HM1.out]; unfold Wm.due; rw [HCL.out], ← hdue.1]
      exact hl.mono fun j hj => by have := hwsz; omega)
    have hdrop : m.skip n = ⟨m1.most, m1.now, m1.sets, m1.l.drop k'⟩ := by
      rw [hkn, ← high_drop, HM1.out]
      unfold Wm.skip
      rw [HCL.out]
    have HKd := Lib.hid hK
    have HR := Lib.hid r
    by_cases hk0 : k' = 0
    · subst hk0
      have hsk : m.skip n = m1 := by rw [hdrop]; rfl
      clear hdrop hlen hkn hl
      gi_wp2
      refine ⟨by simp, .inl ⟨_, _, rfl, run_takeDeferred HKd.out, ?_⟩⟩
      refine ⟨_, results_tmp rfl _ _ _, ?_⟩
      refine ⟨A', 0, c', rfl, ?_, by rw [hsk]; exact HD1.out.shut hgD HKd.out _⟩
      exact hLK.out.same fun ad he => World.putObj_heap_other (hLK.out.notD HKd.out he)
    · have hk0' : (0 : Int) < k' := by omega
      have HRm := Lib.hid (w_remove (HD1.out.1) (i := 0) (j := k') (m' := m.skip n) (Nat.zero_le _) (by rw [hkn]; exact low_le _ _) (by rw [hdrop]) (by rw [hdrop]) (by rw [hdrop]; rfl) (by rw [hdrop]; exact ⟨HA.out.nm.m1, HA.out.nm.m2, by have := HA.out.nm.ln; simp; omega, HA.out.nm.n0, HA.out.nm.nb, fun t ht => HA.out.nm.db t (List.mem_of_mem_drop ht)⟩))
      clear hdrop hlen hkn hl
      gi_wp2
      refine ⟨trivial, (callsIn_wide.2 HRm.out).mono ?_⟩
      rintro e W3 ⟨rfl, hd3⟩
      have hr3 := HR.out.st hd3.2 (show ¬ w.heap.size = g by omega)
      have cl3 := hr3.cell 0 rfl
      have hD3 : W3.heap[D]? = some (.deferred (some [])) := (hd3.2.block D (Array.getElem?_eq_some_iff.1 HKd.out).1 (by omega)).trans HKd.out
      have HD3 := Lib.hid (And.intro (HD1.out.trans hd3) (And.intro hD3 hd3.2))
      clear hd3 hr3 hD3 cl
      gi_wp2
      refine ⟨by simp, .inl ⟨_, _, rfl, run_takeDeferred HD3.out.2.1, ?_⟩⟩
      refine ⟨_, results_tmp rfl _ _ _, ?_⟩
      have hL3 : Lst 3 (w.heap.size ≤ ·) W3 A' k' c' (kvs (m.due n)) := hLK.out.st HD3.out.2.2 fun j hj => by omega
      refine ⟨A', k', c', rfl, ?_, HD3.out.1.shut hgD HD3.out.2.1 _⟩
      exact hL3.same fun ad he => World.putObj_heap_other (hL3.notD HD3.out.2.1 he)
  case stop =>
    rintro D c'' pre' W hD ⟨j, hpk⟩ ⟨rfl, pre, x, e1, e2, ⟨hb, hsz, A', k', c', r, hl⟩, hle⟩ hK
    have hpx := pre_at (e1.symm.trans hpk)
    have hdue := due_of m1 pre hpx.1 hle (fun h => by
      have : x.val = pre.length := hpx.2
      rw [Fin.getElem_fin] at e2
      simp only [this] at e2
      exact e2)
    have hwh0 := (HA.out.below hb)
    have hgD : w.heap.size ≤ D := by have := hb0.size; omega
    have hwl : w.heap.size < D := by omega
    have cl := r.cell 0 rfl
    have hlen := hl.1
    rw [kvs_len, hdue.1, List.length_map] at hlen
    have HD1 : Hid (Did w g m1 W) := Lib.hid ⟨⟨_, _, _, hwh0⟩, hstw.trans (St.ext hb) (Gr.refl _ _)⟩
    have hkn : k' = (low m1.l m1.now).length := by omega
    have hnl : k' ≤ 1024 := by have h1 := low_le m1.l m1.now; have h2 := HA.out.nm.ln; omega
    have hnK : (k' : Int) ≤ 1024 := by omega
    have hLK : Hid (Lst 3 (w.heap.size ≤ ·) W A' k' c' (kvs (m.due n))) := Lib.hid (by
      rw [show m.due n = (low m1.l m1.now).map Tm.k from by rw [HM1.out]; unfold Wm.due; rw [HCL.out], ← hdue.1]
      exact hl.mono fun j hj => by have := hwsz; omega)
    have hdrop : m.skip n = ⟨m1.most, m1.now, m1.sets, m1.l.drop k'⟩ := by
      rw [hkn, ← high_drop, HM1.out]
      unfold Wm.skip
      rw [HCL.out]
    have HKd := Lib.hid hK
    have HR := Lib.hid r
    by_cases hk0 : k' = 0
    · subst hk0
      have hsk : m.skip n = m1 := by rw [hdrop]; rfl
      clear hdrop hlen hkn hl
      gi_wp2
      refine ⟨by simp, .inl ⟨_, _, rfl, run_takeDeferred HKd.out, ?_⟩⟩
      refine ⟨_, results_tmp rfl _ _ _, ?_⟩
      refine ⟨A', 0, c', rfl, ?_, by rw [hsk]; exact HD1.out.shut hgD HKd.out _⟩
      exact hLK.out.same fun ad he => World.putObj_heap_other (hLK.out.notD HKd.out he)
    · have hk0' : (0 : Int) < k' := by omega
      have HRm := Lib.hid (w_remove (HD1.out.1) (i := 0) (j := k') (m' := m.skip n) (Nat.zero_le _) (by rw [hkn]; exact low_le _ _) (by rw [hdrop]) (by rw [hdrop]) (by rw [hdrop]; rfl) (by rw [hdrop]; exact ⟨HA.out.nm.m1, HA.out.nm.m2, by have := HA.out.nm.ln; simp; omega, HA.out.nm.n0, HA.out.nm.nb, fun t ht => HA.out.nm.db t (List.mem_of_mem_drop ht)⟩))
      clear hdrop hlen hkn hl
      gi_wp2
      refine ⟨trivial, (callsIn_wide.2 HRm.out).mono ?_⟩
      rintro e W3 ⟨rfl, hd3⟩
      have hr3 := HR.out.st hd3.2 (show ¬ w.heap.size = g by omega)
      have cl3 := hr3.cell 0 rfl
      have hD3 : W3.heap[D]? = some (.deferred (some [])) := (hd3.2.block D (Array.getElem?_eq_some_iff.1 HKd.out).1 (by omega)).trans HKd.out
      have HD3 := Lib.hid (And.intro (HD1.out.trans hd3) (And.intro hD3 hd3.2))
      clear hd3 hr3 hD3 cl
      gi_wp2
      refine ⟨by simp, .inl ⟨_, _, rfl, run_takeDeferred HD3.out.2.1, ?_⟩⟩
      refine ⟨_, results_tmp rfl _ _ _, ?_⟩
      have hL3 : Lst 3 (w.heap.size ≤ ·) W3 A' k' c' (kvs (m.due n)) := hLK.out.st HD3.out.2.2 fun j hj => by omega
      refine ⟨A', k', c', rfl, ?_, HD3.out.1.shut hgD HD3.out.2.1 _⟩
      exact hL3.same fun ad he => World.putObj_heap_other (hL3.notD HD3.out.2.1 he)
theorem w_skip (h : WhC w g m) (hnb : m.now ≤ 1000000000) (n : Int) (hn1 : n ≤ 1048576) : Calls Try.prog 15 #[.pointer (some ⟨g, 0, none⟩), .int .i64 n] w (DueR g m n w) := by
  by_cases hn0 : n < 0
  · exact w_skip_no h hnb n hn0
  · exact w_skip_yes h hnb n (by omega) hn1
theorem w_tick (h : WhC w g m) (hnb : m.now ≤ 1000000000) : Calls Try.prog 12 #[.pointer (some ⟨g, 0, none⟩)] w (DueR g m 1 w) := by
  have HS := Lib.hid (w_skip h hnb 1 (by decide))
  go_enter Try.func12, Try.ntmps12
  go_wp2_with fail
  refine HS.out.mono ?_
  rintro e w' ⟨A, k, c, rfl, hl, hd⟩
  have HL := Lib.hid (And.intro hl hd)
  clear hl hd
  go_wp2
  go_ret
  exact ⟨A, k, c, rfl, HL.out.1, HL.out.2⟩
end
end Go.Proofs.Ytainmpeiicinmaa.Wi
