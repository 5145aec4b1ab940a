/- Ports: a packet is taken off a queue, put behind it; which queue a packet is for, and what becomes of it. -/
import Derived.Test.YtbhhgfpliggkgaaP6
set_option linter.unusedSimpArgs false
set_option linter.unusedVariables false
set_option maxRecDepth 100000
namespace Go.Proofs.Ytbhhgfpliggkgaa
open Go.RowKit Go.Shelf

/-- What becomes of a packet. -/
def AM.vd (m : AM) (x : Pk) : Nat :=
  if x.chk = false then 4 else if (m.sel (!x.heavy)).length < m.room (!x.heavy) then 1 else if m.high.length < m.hr then 2 else if x.retB = true then 3 else 4
/-- Queues and blocks of a port that has turned. -/
def PbT (F X : Nat → Prop) (w : World) (b : Nat) (m : AM) (pl ph : Nat) (w0 : World) (w' : World) (F' : Nat → Prop) : Prop :=
  (∃ Fl' Fh' ql' qh', PbC F' X w' b m pl ph Fl' Fh' ql' qh') ∧ St F w0 w' ∧ Gr F F' w0.heap.size
section
variable {F X : Nat → Prop} {w w' : World} {b : Nat} {m : AM} {pl ph : Nat} {Fl Fh : Nat → Prop} {ql qh : List Pv}
theorem pt_pop (h : PbC F X w b m pl ph Fl Fh ql qh) (hi : Bool) (x : Pk) (r : List Pk) (hx : m.sel hi = x :: r) :
    Calls Try.prog 51 #[.pointer (some ⟨ptr pl ph hi, 0, none⟩)] w fun e w' => ∃ q F' Fl' Fh' ql' qh', e = .returned (.tuple #[.agg #[.int .i64 q.h.kd, .int .i64 q.h.fl, .int .i64 q.h.pa, .int .i64 q.h.sr, .int .i64 q.h.ds, .int .i64 q.h.cn, .int .i64 q.h.sq, .int .i64 q.h.pu, .slice q.A q.n q.c], .bool true]) ∧ q.pk = x ∧ PbC F' X w' b (m.put hi r) pl ph Fl' Fh' ql' qh' ∧ St F w w' ∧ Gr F F' w.heap.size ∧ PvR (fun k => F' k ∨ X k) w' q := by
  have hk := h.qk hi
  have hp := h.qp hi
  have hq := h.qs hi
  rw [hx] at hk
  generalize AM.qv ql qh hi = qs at *
  cases qs with
  | nil => cases hk
  | cons q qs =>
    rw [List.map_cons] at hk
    injection hk with hk1 hk2
    refine (q_pop q qs hq).mono ?_
    rintro e w' ⟨rfl, hd⟩
    obtain ⟨F', Fl', Fh', ql', qh', h1, h2, h3⟩ := h.did hi hd (fun r hr => hp r (List.mem_cons_of_mem _ hr))
    rw [hk2] at h1
    refine ⟨q, F', Fl', Fh', ql', qh', rfl, hk1, h1, h2, h3, ?_⟩
    exact (hp q List.mem_cons_self).st (h2.mono fun k _ hk => .inl hk) fun k hk => by
      rcases hk with hk | hk
      · exact (h3 k hk).imp .inl id
      · exact .inl (.inr hk)
theorem pt_pop_none (h : PbC F X w b m pl ph Fl Fh ql qh) (hi : Bool) (hx : m.sel hi = []) :
    Calls Try.prog 51 #[.pointer (some ⟨ptr pl ph hi, 0, none⟩)] w fun e w' => e = .returned (.tuple #[.agg #[.int .i64 0, .int .i64 0, .int .i64 0, .int .i64 0, .int .i64 0, .int .i64 0, .int .i64 0, .int .i64 0, .slice none 0 0], .bool false]) ∧ Below w.heap.size w w' := by
  have hk := h.qk hi
  have hq := h.qs hi
  rw [hx, List.map_eq_nil_iff] at hk
  rw [hk] at hq
  exact q_pop_none hq
theorem pt_push (h : PbC F X w b m pl ph Fl Fh ql qh) (hi : Bool) (q : Pv) (hq : PvR (fun k => F k ∨ X k) w q) (B : Option Addr) (d : Nat) (hB : RdR 9 w B 1 d q.cl) (hr : (m.sel hi).length + 1 ≤ m.room hi) :
    Calls Try.prog 53 #[.pointer (some ⟨ptr pl ph hi, 0, none⟩), .slice B 1 d] w fun e w' => e = .returned (.int .i64 0) ∧ ∃ F' Fl' Fh' ql' qh', PbC F' X w' b (m.put hi (m.sel hi ++ [q.pk])) pl ph Fl' Fh' ql' qh' ∧ St F w w' ∧ Gr F F' w.heap.size := by
  have hl : (AM.qv ql qh hi).length = (m.sel hi).length := by rw [← h.qk hi, List.length_map]
  refine (q_push [q] B 1 d (h.qs hi) rfl (by rw [flat_one]; exact hB) (by omega)).mono ?_
  rintro e w' ⟨rfl, hd⟩
  refine ⟨rfl, ?_⟩
  have := h.did hi hd (fun r hr => by
    rcases List.mem_append.1 hr with hr | hr
    · exact h.qp hi r hr
    · rw [List.mem_singleton.1 hr]; exact hq)
  rw [List.map_append, h.qk hi] at this
  exact this
theorem pt_queueOf (h : PbC F X w b m pl ph Fl Fh ql qh) {G : Nat → Prop} {q : Pv} (hq : PvR G w q) :
    Calls Try.prog 64 #[.pointer (some ⟨b, 0, none⟩), .agg #[.int .i64 q.h.kd, .int .i64 q.h.fl, .int .i64 q.h.pa, .int .i64 q.h.sr, .int .i64 q.h.ds, .int .i64 q.h.cn, .int .i64 q.h.sq, .int .i64 q.h.pu, .slice q.A q.n q.c]] w fun e w' => e = .returned (.pointer (some ⟨ptr pl ph (!q.pk.heavy), 0, none⟩)) ∧ Below w.heap.size w w' := by
  have HV := Lib.hid (fun o => p_heavy (hq.below ((Below.refl _ _).alloc (Nat.le_refl _) o)))
  have HH := Lib.hid h
  clear hq h
  generalize q.pk.heavy = hv at *
  cases hv
  all_goals
    go_enter Try.func64, Try.ntmps64
    go_wp2_with fail
    refine (HV.out _).mono ?_
    rintro e w1 ⟨rfl, hb1⟩
    obtain ⟨hx, hb⟩ := pk_new hb1
    have hp := HH.out.below hb
    have c0 := hp.bk.cell 0 rfl
    have c1 := hp.bk.cell 1 rfl
    clear HH HV hb1 hp hx
    go_wp2
    go_ret
    exact ⟨rfl, hb⟩
set_option maxHeartbeats 1000000 in
theorem pt_verdict (h : PbC F X w b m pl ph Fl Fh ql qh) {G : Nat → Prop} {q : Pv} (hq : PvR G w q) (hG : ∀ k, G k → k < w.heap.size) :
    Calls Try.prog 61 #[.pointer (some ⟨b, 0, none⟩), .agg #[.int .i64 q.h.kd, .int .i64 q.h.fl, .int .i64 q.h.pa, .int .i64 q.h.sr, .int .i64 q.h.ds, .int .i64 q.h.cn, .int .i64 q.h.sq, .int .i64 q.h.pu, .slice q.A q.n q.c]] w fun e w' => e = .returned (.int .i64 (m.vd q.pk)) ∧ Below w.heap.size w w' := by
  have HC := Lib.hid (fun o => p_check (hq.below ((Below.refl _ _).alloc (Nat.le_refl _) o)))
  have HH := Lib.hid h
  have HQ := Lib.hid hq
  have HG := Lib.hid hG
  have hs1 : (m.sel (!q.pk.heavy)).length ≤ m.room (!q.pk.heavy) := by have := (h.qs (!q.pk.heavy)).le; rw [← h.qk, List.length_map]; exact this
  have hs2 : m.high.length ≤ m.hr := by have := h.hi.le; rw [← h.hk, List.length_map]; exact this
  have HR : Hid (∀ w1, Below w.heap.size w w1 → Calls Try.prog 67 #[.pointer (some ⟨ptr pl ph (!q.pk.heavy), 0, none⟩)] w1 fun e w' => e = .returned (.int .i64 ((m.room (!q.pk.heavy) - (m.sel (!q.pk.heavy)).length : Nat))) ∧ Below w1.heap.size w1 w') := Lib.hid fun w1 hb => by
    have := pt_room (h.below hb) (!q.pk.heavy)
    rw [← Int.ofNat_sub hs1] at this; exact this
  have HR2 : Hid (∀ w1, Below w.heap.size w w1 → Calls Try.prog 67 #[.pointer (some ⟨ph, 0, none⟩)] w1 fun e w' => e = .returned (.int .i64 ((m.hr - m.high.length : Nat))) ∧ Below w1.heap.size w1 w') := Lib.hid fun w1 hb => by
    have := pt_room (h.below hb) true
    have e : (m.room true : Int) - (m.sel true).length = ((m.hr - m.high.length : Nat) : Int) := by rw [Int.ofNat_sub hs2]; rfl
    rw [e] at this; exact this
  have HV : Hid (m.vd q.pk = if q.pk.chk = false then 4 else if 0 < m.room (!q.pk.heavy) - (m.sel (!q.pk.heavy)).length then 1 else if 0 < m.hr - m.high.length then 2 else if q.pk.retB = true then 3 else 4) := Lib.hid (by
    unfold AM.vd
    simp only [Nat.sub_pos_iff_lt])
  clear hs1 hs2 h hq hG
  generalize hA : ptr pl ph (!q.pk.heavy) = pA at *
  generalize hr1 : m.room (!q.pk.heavy) - (m.sel (!q.pk.heavy)).length = r1 at *
  generalize hr2 : m.hr - m.high.length = r2 at *
  have HA := Lib.hid hA
  clear hA hr1 hr2
  cases hc : q.pk.chk with
  | false =>
    rw [hc] at HC
    go_enter Try.func61, Try.ntmps61
    go_wp2_with fail
    refine (HC.out _).mono ?_
    rintro e w1 ⟨rfl, hb1⟩
    obtain ⟨hx, hb⟩ := pk_new hb1
    rw [errV_f]
    go_wp2
    go_ret
    exact ⟨by rw [HV.out, hc]; rfl, hb⟩
  | true =>
    rw [hc] at HC
    rcases (by omega : 0 < r1 ∨ (r1 = 0 ∧ 0 < r2) ∨ (r1 = 0 ∧ r2 = 0)) with h1 | ⟨h1, h2⟩ | ⟨h1, h2⟩
    all_goals
      go_enter Try.func61, Try.ntmps61
      go_wp2_with fail
      refine (HC.out _).mono ?_
      rintro e w1 ⟨rfl, hb1⟩
      obtain ⟨hx, hb⟩ := pk_new hb1
      rw [errV_t]
      have HQO := Lib.hid (pt_queueOf (HH.out.below hb) (HQ.out.below hb))
      rw [HA.out] at HQO
      clear hb1
      go_wp2_with (first
        | (with_reducible refine at_load 65 (.tmp 3) (by rfl) ?_; refine wpList_load_pk rowP rfl (.tmp 3) rfl q w.heap.size 0 rfl (Bk.pk (q := q) hx) ?_)
        | (go_at_call 64; refine HQO.out.mono ?_; rintro e w2 ⟨rfl, hb2⟩; have hc2 := below_on hb hb2; clear HQO)
        | (go_at_call 67; refine (HR.out _ hc2).mono ?_; rintro e w3 ⟨rfl, hb3⟩; have hc3 := below_on hc2 hb3; have c1 := (HH.out.below hc3).bk.cell 1 rfl; have hx3 := (hx.below hb2).below hb3; clear HR hx)
        | (go_at_call 67; refine (HR2.out _ hc3).mono ?_; rintro e w4 ⟨rfl, hb4⟩; have hc4 := below_on hc3 hb4; have hx4 := hx3.below hb4; have HRt := Lib.hid (p_returned (HQ.out.below hc4) (fun k hk => Nat.lt_of_lt_of_le (HG.out k hk) hc4.size)); clear HR2 hx3)
        | (with_reducible refine at_load 65 (.tmp 3) (by rfl) ?_; refine wpList_load_pk rowP rfl (.tmp 3) rfl q w.heap.size 0 rfl (Bk.pk (q := q) hx4) ?_)
        | (go_at_call 62; refine HRt.out.mono ?_; rintro e w5 ⟨q5, rfl, hq5, hr5, hb5⟩; have hc5 := below_on hc4 hb5))
    all_goals
      go_ret
      exact ⟨by rw [HV.out]; simp [*], by first | assumption | exact hc5.alloc hc5.size _⟩
end
end Go.Proofs.Ytbhhgfpliggkgaa
