/- Ports: made, looked at, forked. -/
import Derived.Test.YtcmakhkbkfkhkaaP10
set_option linter.unusedSimpArgs false
set_option linter.unusedVariables false
namespace Go.Proofs.Ytcmakhkbkfkhkaa
open Go.RowKit Go.Shelf

def fitB (n : Int) : Bool := decide (1 ≤ n ∧ n ≤ 1024)
theorem p_fits (n : Int) (w : World) : Calls Try.prog 25 #[.int .i64 n] w fun e w' => e = .returned (.bool (fitB n)) ∧ w = w' := by
  unfold fitB
  by_cases h1 : 1 ≤ n
  · by_cases h2 : n ≤ 1024 <;>
    · go_enter Try.func25, Try.ntmps25
      go_wp2
      go_ret
      exact ⟨by simp [h1, h2], rfl⟩
  · go_enter Try.func25, Try.ntmps25
    go_wp2
    go_ret
    exact ⟨by simp; omega, rfl⟩
def AM.new (low high wt : Nat) : AM := ⟨[], [], low, high, wt, 0, fun _ => 0⟩
section
variable {F X : Nat → Prop} {w w' : World} {b : Nat} {m : AM} {pl ph : Nat} {Fl Fh : Nat → Prop} {ql qh : List Pv}
theorem pt_new (low high wt : Nat) (w : World) (hX : ∀ k, X k → k < w.heap.size) (h1 : 1 ≤ low) (h2 : low ≤ 1024) (h3 : 1 ≤ high) (h4 : high ≤ 1024) (h5 : 1 ≤ wt) (h6 : wt ≤ 1024) :
    Calls Try.prog 7 #[.int .i64 low, .int .i64 high, .int .i64 wt] w fun e w' => e = .returned (.tuple #[.pointer (some ⟨w.heap.size, 0, none⟩), .int .i64 0]) ∧ Below w.heap.size w w' ∧
      ∃ F pl ph Fl Fh, PbC F X w' w.heap.size (AM.new low high wt) pl ph Fl Fh [] [] ∧ ∀ k, F k → w.heap.size ≤ k := by
  have HF : ∀ n : Nat, 1 ≤ n → n ≤ 1024 → ∀ w, Calls Try.prog 25 #[.int .i64 n] w fun e w' => e = .returned (.bool true) ∧ w = w' := fun n hn1 hn2 w => by
    have := p_fits n w
    rw [show fitB n = true by simp [fitB]; omega] at this; exact this
  have HFL := Lib.hid (HF low h1 h2)
  have HFH := Lib.hid (HF high h3 h4)
  have HFW := Lib.hid (HF wt h5 h6)
  have H2 := Lib.hid hX
  have HNL := Lib.hid (fun w => q_new low w h1 h2)
  have HNH := Lib.hid (fun w => q_new high w h3 h4)
  have HB := Lib.hid (And.intro h5 h6)
  clear HF h1 h2 h3 h4 h5 h6 hX
  go_enter Try.func7, Try.ntmps7
  go_wp2_with (first
    | (with_reducible refine (HFL.out _).mono ?_; rintro e w' ⟨rfl, rfl⟩)
    | (with_reducible refine (HFH.out _).mono ?_; rintro e w' ⟨rfl, rfl⟩)
    | (with_reducible refine (HFW.out _).mono ?_; rintro e w' ⟨rfl, rfl⟩))
  refine (HNL.out _).mono ?_
  rintro e w1 ⟨rfl, hq1, hb1⟩
  have hp := (Bk.new w 63 [.pointer none, .pointer none, .int .i64 wt, .int .i64 0, .int .i64 0, .int .i64 0, .int .i64 0, .int .i64 0, .int .i64 0]).below hb1
  have hb01 : Below w.heap.size w w1 := ((Below.refl _ _).alloc (Nat.le_refl _) _).trans (hb1.mono (by simp))
  rw [World.size_alloc] at hq1
  have hp2 := hp.set 0 (.pointer (some ⟨w.heap.size + 1, 0, none⟩))
  have hq2 := hq1.st (St.setCell (F := (· = w.heap.size)) w1 (a := ⟨w.heap.size, 0, none⟩) rfl (.pointer (some ⟨w.heap.size + 1, 0, none⟩))) (fun k hk => by omega)
  have hb2 := hb01.setCell (p := ⟨w.heap.size, 0, none⟩) (Nat.le_refl _) (.pointer (some ⟨w.heap.size + 1, 0, none⟩))
  have c0 := hp.cell 0 rfl
  have f0 := hp.free 0
  clear hp hq1 hb1 hb01
  go_wp2_with fail
  have hlt1 : w.heap.size + 1 < w1.heap.size := by have := hq2.bd (w.heap.size + 1) rfl; simpa [World.setCell] using this
  have hsz2 : (w1.setCell ⟨w.heap.size, 0, none⟩ (.pointer (some ⟨w.heap.size + 1, 0, none⟩))).heap.size = w1.heap.size := by simp [World.setCell]
  generalize w1.setCell ⟨w.heap.size, 0, none⟩ (.pointer (some ⟨w.heap.size + 1, 0, none⟩)) = W2 at *
  refine (HNH.out _).mono ?_
  rintro e w3 ⟨rfl, hq3, hb3⟩
  have hp3 := hp2.below hb3
  have hq4 := hq2.below hb3
  have hb4 := below_on hb2 hb3
  rw [hsz2] at hq3
  rw [hsz2]
  have HSZ := Lib.hid hsz2
  clear hsz2 c0 f0
  have c1 := hp3.cell 1 rfl
  have f1 := hp3.free 1
  have hs6 := St.setCell (F := (· = w.heap.size)) w3 (a := ⟨w.heap.size, 1, none⟩) rfl (.pointer (some ⟨w1.heap.size, 0, none⟩))
  have hp5 : Bk _ 63 w.heap.size (ptL (w.heap.size + 1) w1.heap.size wt 0 (fun _ => 0)) := hp3.set 1 (.pointer (some ⟨w1.heap.size, 0, none⟩))
  have hq5 := hq4.st hs6 (fun k hk => by omega)
  have hq6 := hq3.st hs6 (fun k hk => by omega)
  have hb6 := hb4.setCell (p := ⟨w.heap.size, 1, none⟩) (Nat.le_refl _) (.pointer (some ⟨w1.heap.size, 0, none⟩))
  clear hp2 hq2 hb2 hp3 hq4 hq3 hb3 hs6
  go_wp2
  go_ret2
  refine ⟨rfl, hb6, fun k => k = w.heap.size ∨ k = w.heap.size + 1 ∨ k = w1.heap.size, w.heap.size + 1, w1.heap.size, (· = w.heap.size + 1), (· = w1.heap.size), ⟨hp5, HB.out.1, HB.out.2, Nat.zero_le _, hq5, hq6, rfl, rfl, by simp, by simp, fun k => Iff.rfl, by omega, by omega, fun k hk hk2 => by omega, fun k hk => Nat.lt_of_lt_of_le (H2.out k hk) hb6.size⟩, fun k hk => by omega⟩
theorem pt_new_bad (low high wt : Int) (w : World) (h : fitB low = false ∨ fitB high = false ∨ fitB wt = false) :
    Calls Try.prog 7 #[.int .i64 low, .int .i64 high, .int .i64 wt] w fun e w' => e = .returned (.tuple #[.pointer none, .int .i64 80]) ∧ w = w' := by
  have HFL := Lib.hid (p_fits low)
  have HFH := Lib.hid (p_fits high)
  have HFW := Lib.hid (p_fits wt)
  rcases (by cases h1 : fitB low <;> cases h2 : fitB high <;> simp_all : fitB low = false ∨ (fitB low = true ∧ fitB high = false) ∨ (fitB low = true ∧ fitB high = true ∧ fitB wt = false)) with h1 | ⟨h1, h2⟩ | ⟨h1, h2, h3⟩
  all_goals
    rw [h1] at HFL
    try rw [h2] at HFH
    try rw [h3] at HFW
    clear h
    go_enter Try.func7, Try.ntmps7
    go_wp2_with (first
      | (with_reducible refine (HFL.out _).mono ?_; rintro e w' ⟨rfl, rfl⟩)
      | (with_reducible refine (HFH.out _).mono ?_; rintro e w' ⟨rfl, rfl⟩)
      | (with_reducible refine (HFW.out _).mono ?_; rintro e w' ⟨rfl, rfl⟩))
    go_ret2
    exact ⟨rfl, rfl⟩
theorem pt_peek (h : PbC F X w b m pl ph Fl Fh ql qh) {Y : Nat → Prop} (hY : ∀ k, Y k → k < w.heap.size) :
    Calls Try.prog 21 #[.pointer (some ⟨b, 0, none⟩)] w fun e w' => ∃ q', e = .returned (.tuple #[.agg #[.int .i64 q'.h.kd, .int .i64 q'.h.fl, .int .i64 q'.h.pa, .int .i64 q'.h.sr, .int .i64 q'.h.ds, .int .i64 q'.h.cn, .int .i64 q'.h.sq, .int .i64 q'.h.pu, .slice q'.A q'.n q'.c], .bool (!(m.sel m.hiB).isEmpty)]) ∧ q'.pk = (m.sel m.hiB).headD Pk.zero ∧ PvR Y w' q' ∧ Below w.heap.size w w' := by
  have HN : Hid (∀ w1, Below w.heap.size w w1 → Calls Try.prog 28 #[.pointer (some ⟨b, 0, none⟩)] w1 fun e w' => e = .returned (.pointer (some ⟨ptr pl ph m.hiB, 0, none⟩)) ∧ Below w1.heap.size w1 w') := Lib.hid fun w1 hb => pt_next (h.below hb)
  have HM : Hid (∀ o, Calls Try.prog 27 #[.pointer (some ⟨b, 0, none⟩)] (w.alloc o) fun e w' => e = .returned (.bool true) ∧ w.alloc o = w') := Lib.hid fun o => pt_made (h.below ((Below.refl _ _).alloc (Nat.le_refl _) o))
  have HP : Hid (∀ w1, Below w.heap.size w w1 → ∃ q G, q.pk = (m.sel m.hiB).headD Pk.zero ∧ PvR G w1 q ∧ Calls Try.prog 43 #[.pointer (some ⟨ptr pl ph m.hiB, 0, none⟩), .int .i64 0] w1 fun e w' => e = .returned (.tuple #[.agg #[.int .i64 q.h.kd, .int .i64 q.h.fl, .int .i64 q.h.pa, .int .i64 q.h.sr, .int .i64 q.h.ds, .int .i64 q.h.cn, .int .i64 q.h.sq, .int .i64 q.h.pu, .slice q.A q.n q.c], .bool (!(m.sel m.hiB).isEmpty)]) ∧ Below w1.heap.size w1 w') := Lib.hid fun w1 hb => by
    have hh := h.below hb
    have hk := hh.qk m.hiB
    have hp := hh.qp m.hiB
    have hq := hh.qs m.hiB
    generalize AM.qv ql qh m.hiB = qs at *
    rw [← hk]
    cases qs with
    | nil => exact ⟨zPv, fun _ => False, rfl, PvR.zero _ _, q_peek_none hq⟩
    | cons q qs => exact ⟨q, _, rfl, hp q List.mem_cons_self, q_peek q qs hq⟩
  have HY := Lib.hid hY
  clear h hY
  generalize hd : (m.sel m.hiB).headD Pk.zero = x at *
  generalize (!(m.sel m.hiB).isEmpty) = bb at *
  have HD := Lib.hid hd
  clear hd
  go_enter Try.func21, Try.ntmps21
  have hba := (Below.refl w.heap.size w).alloc (Nat.le_refl _) (.cells (List.toArray [.int .i64 0, .int .i64 0, .int .i64 0, .int .i64 0, .int .i64 0, .int .i64 0, .int .i64 0, .int .i64 0, .slice none 0 0]) 37)
  have hz := Bk.new w 37 [.int .i64 0, .int .i64 0, .int .i64 0, .int .i64 0, .int .i64 0, .int .i64 0, .int .i64 0, .int .i64 0, .slice none 0 0]
  go_wp2_with (first
    | (go_at_call 27; refine (HM.out _).mono ?_; rintro e w' ⟨rfl, rfl⟩)
    | (go_at_call 28; refine (HN.out _ hba).mono ?_; rintro e w1 ⟨rfl, hb1⟩))
  have hc1 := hba.trans (hb1.mono (by simp))
  have hz1 := hz.below hb1
  obtain ⟨q, G, hqk, hqr, hcall⟩ := HP.out w1 hc1
  refine hcall.mono ?_
  rintro e w2 ⟨rfl, hb2⟩
  have hc2 := below_on hc1 hb2
  have hz2 := (hz1.below hb2).alloc (.cells (List.toArray [.int .i64 q.h.kd, .int .i64 q.h.fl, .int .i64 q.h.pa, .int .i64 q.h.sr, .int .i64 q.h.ds, .int .i64 q.h.cn, .int .i64 q.h.sq, .int .i64 q.h.pu, .slice q.A q.n q.c]) 37)
  have hc3 := hc2.alloc hc2.size (.cells (List.toArray [.int .i64 q.h.kd, .int .i64 q.h.fl, .int .i64 q.h.pa, .int .i64 q.h.sr, .int .i64 q.h.ds, .int .i64 q.h.cn, .int .i64 q.h.sq, .int .i64 q.h.pu, .slice q.A q.n q.c]) 37)
  have hz4 := Bk.new w2 37 [.int .i64 q.h.kd, .int .i64 q.h.fl, .int .i64 q.h.pa, .int .i64 q.h.sr, .int .i64 q.h.ds, .int .i64 q.h.cn, .int .i64 q.h.sq, .int .i64 q.h.pu, .slice q.A q.n q.c]
  have HA := Lib.hid (p_alike (F := fun k => Y k ∨ k = w.heap.size) ((hqr.below hb2).below ((Below.refl _ _).alloc (Nat.le_refl _) (.cells (List.toArray [.int .i64 q.h.kd, .int .i64 q.h.fl, .int .i64 q.h.pa, .int .i64 q.h.sr, .int .i64 q.h.ds, .int .i64 q.h.cn, .int .i64 q.h.sq, .int .i64 q.h.pu, .slice q.A q.n q.c]) 37))) (fun k hk => by
    have h1 := hz2.lt
    rcases hk with hk | hk
    · exact Nat.lt_of_lt_of_le (HY.out k hk) hc3.size
    · omega))
  have HQK := Lib.hid hqk
  clear hz hba hz1 hc1 hcall hb1 hb2 hc2 hqk
  go_wp2_with (first
    | (with_reducible refine at_load 37 (.tmp 4) (by rfl) ?_; refine wpList_load_pk rowP rfl (.tmp 4) rfl q w2.heap.size 0 rfl (Bk.pk (q := q) hz4) ?_)
    | (go_at_call 32; refine HA.out.mono ?_; rintro e w5 ⟨q5, rfl, hq5, hr5, hb5⟩; have hz5 := hz2.below hb5)
    | (with_reducible refine at_store 37 (.tmp 2) (.tmp 17) (by rfl) ?_; refine wpList_put_pk rowP rfl (.tmp 2) (.tmp 17) rfl w.heap.size rfl hz5 rfl q5 rfl ?_; rintro w6 hz6 hw6))
  exact bodyPost_ret (results_cell_tmp rfl rfl (load_pk rowP hz6)) rfl ⟨q5, by kernel_rfl, hq5.trans HQK.out, hr5.off hw6, Wr.on (below_on hc3 hb5) hw6 (Nat.le_refl _)⟩
theorem pt_rows (h : PbC F X w b m pl ph Fl Fh ql qh) {Y : Nat → Prop} (hY : ∀ k, Y k → k < w.heap.size) (hi : Bool) :
    Calls Try.prog 44 #[.pointer (some ⟨ptr pl ph hi, 0, none⟩)] w (MadeA Y w (m.sel hi)) := by
  have := p_allAlike (h.qs hi) (h.qp hi) hY
  rw [h.qk hi] at this
  exact this
theorem pt_low (h : PbC F X w b m pl ph Fl Fh ql qh) {Y : Nat → Prop} (hY : ∀ k, Y k → k < w.heap.size) :
    Calls Try.prog 22 #[.pointer (some ⟨b, 0, none⟩)] w (MadeA Y w m.low) := by
  have HR := Lib.hid (pt_rows h hY false)
  have HM := Lib.hid (pt_made h)
  have c0 := h.bk.cell 0 rfl
  clear h hY
  go_enter Try.func22, Try.ntmps22
  go_wp2_with (first
    | (go_at_call 27; refine HM.out.mono ?_; rintro e w' ⟨rfl, rfl⟩)
    | (go_at_call 44; refine HR.out.mono ?_; rintro e w1 ⟨A, n, c, rs, rfl, hn1, hr1⟩; have HN1 := Lib.hid hn1; clear hn1))
  go_ret
  exact ⟨A, n, c, rs, rfl, HN1.out, hr1⟩
theorem pt_high (h : PbC F X w b m pl ph Fl Fh ql qh) {Y : Nat → Prop} (hY : ∀ k, Y k → k < w.heap.size) :
    Calls Try.prog 23 #[.pointer (some ⟨b, 0, none⟩)] w (MadeA Y w m.high) := by
  have HR := Lib.hid (pt_rows h hY true)
  have HM := Lib.hid (pt_made h)
  have c0 := h.bk.cell 1 rfl
  clear h hY
  go_enter Try.func23, Try.ntmps23
  go_wp2_with (first
    | (go_at_call 27; refine HM.out.mono ?_; rintro e w' ⟨rfl, rfl⟩)
    | (go_at_call 44; refine HR.out.mono ?_; rintro e w1 ⟨A, n, c, rs, rfl, hn1, hr1⟩; have HN1 := Lib.hid hn1; clear hn1))
  go_ret
  exact ⟨A, n, c, rs, rfl, HN1.out, hr1⟩
end
end Go.Proofs.Ytcmakhkbkfkhkaa
