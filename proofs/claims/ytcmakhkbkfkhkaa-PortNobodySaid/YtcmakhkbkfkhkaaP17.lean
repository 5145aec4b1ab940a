/- The reference: a packet is put. -/
import Derived.Test.YtcmakhkbkfkhkaaP13
import Derived.Test.YtcmakhkbkfkhkaaRegL
set_option linter.unusedSimpArgs false
set_option linter.unusedVariables false
namespace Go.Proofs.Ytcmakhkbkfkhkaa
open Go.RowKit Go.Shelf

theorem hasB_16_8 {f : Int} (h0 : 0 ≤ f) (h8 : hasB f 8 = false) : hasB (f + 8) 16 = hasB f 16 ∧ hasB (f + 8) 8 = true ∧ hasB (f + 8) 4 = hasB f 4 ∧ hasB (f + 8) 2 = hasB f 2 := by
  unfold hasB at *
  simp only [decide_eq_false_iff_not, not_and] at h8
  have := h8 h0
  refine ⟨?_, ?_, ?_, ?_⟩
  · congr 1; apply propext; omega
  · rw [decide_eq_true_eq]; omega
  · congr 1; apply propext; omega
  · congr 1; apply propext; omega
theorem Pk.fl_of {x : Pk} (hc : x.chk = true) (hk : x.h.kd = 1) : 0 ≤ x.h.fl ∧ x.h.fl ≤ 63 := Go.Proofs.Ytcmakhkbkfkhkaa.isd_fl (h := x.h) (n := x.xs.length) (by unfold isdB; rw [show chkB x.h x.xs.length = true from hc, hk]; rfl)
theorem Pk.isd_of {x : Pk} (hc : x.chk = true) (hk : x.h.kd = 1) : x.isd = true := by
  unfold Pk.isd isdB
  rw [show chkB x.h x.xs.length = true from hc, hk]; rfl
/-- What is trimmed is data. -/
theorem Pk.trim_isd {x : Pk} (hc : x.chk = true) (hk : x.h.kd = 1) (h8 : hasB x.h.fl 8 = false) : x.trim = ⟨{ x.h with fl := x.h.fl + 8 }, []⟩ ∧ x.trim.isd = true := by
  have hi := Pk.isd_of hc hk
  have ht : x.trimB = true := by unfold Pk.trimB; rw [hi, h8]; rfl
  have e : x.trim = ⟨{ x.h with fl := x.h.fl + 8 }, []⟩ := by unfold Pk.trim; rw [if_pos ht]
  refine ⟨e, ?_⟩
  rw [e]
  have hf := Pk.fl_of hc hk
  obtain ⟨e16, e8, e4, e2⟩ := hasB_16_8 hf.1 h8
  have hd := hc
  unfold Pk.chk chkB kdB at hd
  rw [if_pos (by simp [hk])] at hd
  simp only [Bool.and_eq_true] at hd
  obtain ⟨⟨h1, h2⟩, h3, h4⟩ := hd
  unfold Pk.isd isdB chkB
  simp only [Bool.and_eq_true]
  refine ⟨by simp [hk], ⟨h1, h2⟩, ?_⟩
  unfold kdB
  rw [if_pos (by simp [hk])]
  simp only [Bool.and_eq_true]
  refine ⟨h3, ?_⟩
  unfold dtB at h4 ⊢
  rw [e16, e8, e4, e2]
  simp only [Bool.and_eq_true] at h4
  obtain ⟨⟨h5, h6⟩, h7⟩ := h4
  have h63 : x.h.fl + 8 ≤ 63 := by
    unfold hasB at h8
    simp only [decide_eq_false_iff_not, not_and] at h8
    have := h8 hf.1
    omega
  have hw : witB (x.h.fl + 8) 0 63 = true := by unfold witB; rw [decide_eq_true_eq]; omega
  rw [hw]
  rw [h8] at h6
  have h16 : hasB x.h.fl 16 = false := by simpa using h6
  rw [h16]
  cases h4' : hasB x.h.fl 4 with
  | true =>
    rw [h4', if_pos rfl] at h7
    simp only [Bool.and_eq_true] at h7
    simp [h7.1]
  | false => simp
theorem Pk.trim_kept {x : Pk} (h8 : hasB x.h.fl 8 = true) : x.trim = x := by
  unfold Pk.trim Pk.trimB
  rw [h8]; simp
theorem Pk.retB_eq {x : Pk} (hc : x.chk = true) : x.retB = (x.h.kd == 1 && !hasB x.h.fl 16) := by
  unfold Pk.retB Pk.bncB
  by_cases hk : x.h.kd = 1
  · rw [hk]
    cases h8 : hasB x.h.fl 8 with
    | true => rw [Pk.trim_kept h8, Pk.isd_of hc hk, h8]; rfl
    | false =>
      obtain ⟨e, hi⟩ := Pk.trim_isd hc hk h8
      obtain ⟨e16, e8, -, -⟩ := hasB_16_8 (Pk.fl_of hc hk).1 h8
      rw [hi, e]
      dsimp only
      rw [e8, e16]; rfl
  · have hk' : (x.h.kd == 1) = false := by simpa using hk
    have hi : x.isd = false := by unfold Pk.isd isdB; rw [hk']; rfl
    have ht : x.trim = x := by unfold Pk.trim Pk.trimB; rw [hi]; simp
    rw [ht, hi, hk']; rfl
theorem new4 {T0 T1 T2 T3 : TypeId} {w w1 : World} {v0 v1 v2 v3 : List Value} (hb : Below ((((w.alloc (.cells v0.toArray T0)).alloc (.cells v1.toArray T1)).alloc (.cells v2.toArray T2)).alloc (.cells v3.toArray T3)).heap.size ((((w.alloc (.cells v0.toArray T0)).alloc (.cells v1.toArray T1)).alloc (.cells v2.toArray T2)).alloc (.cells v3.toArray T3)) w1) :
    Bk w1 T0 w.heap.size v0 ∧ Bk w1 T1 (w.heap.size + 1) v1 ∧ Bk w1 T2 (w.heap.size + 2) v2 ∧ Bk w1 T3 (w.heap.size + 3) v3 ∧ Below w.heap.size w w1 := by
  have a0 := ((((Bk.new w T0 v0).alloc (.cells v1.toArray T1)).alloc (.cells v2.toArray T2)).alloc (.cells v3.toArray T3)).below hb
  have a1 := (((Bk.new (w.alloc (.cells v0.toArray T0)) T1 v1).alloc (.cells v2.toArray T2)).alloc (.cells v3.toArray T3)).below hb
  have a2 := ((Bk.new ((w.alloc (.cells v0.toArray T0)).alloc (.cells v1.toArray T1)) T2 v2).alloc (.cells v3.toArray T3)).below hb
  have a3 := (Bk.new (((w.alloc (.cells v0.toArray T0)).alloc (.cells v1.toArray T1)).alloc (.cells v2.toArray T2)) T3 v3).below hb
  simp only [World.size_alloc, Nat.add_assoc, Nat.reduceAdd] at a1 a2 a3
  exact ⟨a0, a1, a2, a3, (((((Below.refl _ _).alloc (Nat.le_refl _) _).alloc (by simp) _).alloc (by simp; omega) _).alloc (by simp; omega) _).trans (hb.mono (by simp; omega))⟩
def RV.cl (r : RV) (m : AM) : List Value := [.slice r.a1 r.n1 r.c1, .slice r.a2 r.n2 r.c2, .int .i64 m.lr, .int .i64 m.hr, .int .i64 m.wt, .int .i64 m.run, .int .i64 (m.ct 0), .int .i64 (m.ct 1), .int .i64 (m.ct 2), .int .i64 (m.ct 3), .int .i64 (m.ct 4)]
theorem RV.cl_len (r : RV) (m : AM) : (r.cl m).length = 11 := rfl
theorem RV.cl_one (r : RV) (m : AM) : ∀ v ∈ r.cl m, v.oneCell' = true := by
  intro v hv
  simp only [RV.cl, List.mem_cons, List.not_mem_nil, or_false] at hv
  rcases hv with rfl | rfl | rfl | rfl | rfl | rfl | rfl | rfl | rfl | rfl | rfl <;> rfl
theorem results_ctc {P : Program} {w : World} {fn : Func} {s u t : Tmp} {ty ty2 : TypeId} (h : fn.results = #[.cell s ty, .tmp u, .cell t ty2]) {tmps : Array Value} {a a2 : Addr} (ha : tmps.getD s undef = .pointer (some a)) (ha2 : tmps.getD t undef = .pointer (some a2)) {v v2 : Value} (hl : (loadVar ty a).run P w = .ok v w) (hl2 : (loadVar ty2 a2).run P w = .ok v2 w) :
    (results fn tmps).run P w = .ok (.tuple #[v, tmps.getD u undef, v2]) w := by
  rw [Array.getD_eq_getD_getElem?] at ha ha2
  simp [results, h, ha, ha2, asAddr_some, hl, hl2]
section
variable {P : Program} {w : World} {ops : Array Oper} {rest : List Oper} {op : Oper} {a : Act} {Q : Exit → Act → World → Prop}
theorem wpList_load_rp {e t : TypeId} (R : Row P e 11) (hgd : op.guard = none) (x : Operand) (ho : op.op = .load e x) (r : RV) (m : AM) (g : Nat) (hx : a.eval x = .pointer (some ⟨g, 0, none⟩)) (h : Bk w t g (r.cl m))
    (hq : wpList P ops Q rest (a.put op.dst (.agg #[.slice r.a1 r.n1 r.c1, .slice r.a2 r.n2 r.c2, .int .i64 m.lr, .int .i64 m.hr, .int .i64 m.wt, .int .i64 m.run, .int .i64 (m.ct 0), .int .i64 (m.ct 1), .int .i64 (m.ct 2), .int .i64 (m.ct 3), .int .i64 (m.ct 4)])) w) : wpList P ops Q (op :: rest) a w :=
  wpList_load_bk R hgd x ho g 0 hx h (r.cl m) (r.cl_len m) rfl hq
theorem wpList_put_rp {e t : TypeId} (R : Row P e 11) (hgd : op.guard = none) (x y : Operand) (ho : op.op = .store e x y) (g : Nat) (hx : a.eval x = .pointer (some ⟨g, 0, none⟩)) {vs : List Value} (h : Bk w t g vs) (hv : vs.length = 11) (r : RV) (m : AM) (hy : a.eval y = .agg #[.slice r.a1 r.n1 r.c1, .slice r.a2 r.n2 r.c2, .int .i64 m.lr, .int .i64 m.hr, .int .i64 m.wt, .int .i64 m.run, .int .i64 (m.ct 0), .int .i64 (m.ct 1), .int .i64 (m.ct 2), .int .i64 (m.ct 3), .int .i64 (m.ct 4)])
    (hq : ∀ w', Bk w' t g (r.cl m) → Wr g w w' → wpList P ops Q rest (a.put op.dst undef) w') : wpList P ops Q (op :: rest) a w :=
  wpList_store_bk R hgd x y ho g 0 hx h (r.cl m) hy (r.cl_len m) (by rw [hv]; decide) (r.cl_one m) fun w' h' hw => hq w' (by rw [lay_all _ _ (by rw [hv]; rfl)] at h'; exact h') hw
end
end Go.Proofs.Ytcmakhkbkfkhkaa
