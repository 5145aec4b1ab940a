/- Ports: made, looked at, forked. -/
import Derived.Test.YtbhhgfpliggkgaaP10
set_option linter.unusedSimpArgs false
set_option linter.unusedVariables false
set_option maxRecDepth 100000
namespace Go.Proofs.Ytbhhgfpliggkgaa
open Go.RowKit Go.Shelf

def fitB (n : Int) : Bool := decide (1 ≤ n ∧ n ≤ 1024)
theorem p_fits (n : Int) (w : World) : Calls Try.prog 42 #[.int .i64 n] w fun e w' => e = .returned (.bool (fitB n)) ∧ w = w' := by
  unfold fitB
  by_cases h1 : 1 ≤ n
  · by_cases h2 : n ≤ 1024 <;>
    · go_enter Try.func42, Try.ntmps42
      go_wp2
      go_ret
      exact ⟨by simp [h1, h2], rfl⟩
  · go_enter Try.func42, Try.ntmps42
    go_wp2
    go_ret
    exact ⟨by simp; omega, rfl⟩
def AM.new (low high wt : Nat) : AM := ⟨[], [], low, high, wt, 0, fun _ => 0⟩
section
variable {F X : Nat → Prop} {w w' : World} {b : Nat} {m : AM} {pl ph : Nat} {Fl Fh : Nat → Prop} {ql qh : List Pv}
theorem pt_new (low high wt : Nat) (w : World) (hX : ∀ k, X k → k < w.heap.size) (h1 : 1 ≤ low) (h2 : low ≤ 1024) (h3 : 1 ≤ high) (h4 : high ≤ 1024) (h5 : 1 ≤ wt) (h6 : wt ≤ 1024) :
    Calls Try.prog 26 #[.int .i64 low, .int .i64 high, .int .i64 wt] w fun e w' => e = .returned (.tuple #[.pointer (some ⟨w.heap.size, 0, none⟩), .int .i64 0]) ∧ Below w.heap.size w w' ∧
      ∃ F pl ph Fl Fh, PbC F X w' w.heap.size (AM.new low high wt) pl ph Fl Fh [] [] ∧ ∀ k, F k → w.heap.size ≤ k := by
  have HF : ∀ n : Nat, 1 ≤ n → n ≤ 1024 → ∀ w, Calls Try.prog 42 #[.int .i64 n] w fun e w' => e = .returned (.bool true) ∧ w = w' := fun n hn1 hn2 w => by
    have := p_fits n w
    rw [show fitB n = true by simp [fitB]; omega] at this; exact this
  have HFL := Lib.hid (HF low h1 h2)
  have HFH := Lib.hid (HF high h3 h4)
  have HFW := Lib.hid (HF wt h5 h6)
  have H2 := Lib.hid hX
  have HNL := Lib.hid (fun w => q_new low w h1 h2)
  have HNH := Lib.hid (fun w => q_new high w h3 h4)
  have HB := Lib.hid (And.intro h5 h6)
  clear HF h1 h2 h3 h4 h5 h6 hX
  go_enter Try.func26, Try.ntmps26
  go_wp2_with (first
    | (with_reducible refine (HFL.out _).mono ?_; rintro e w' ⟨rfl, rfl⟩)
    | (with_reducible refine (HFH.out _).mono ?_; rintro e w' ⟨rfl, rfl⟩)
    | (with_reducible refine (HFW.out _).mono ?_; rintro e w' ⟨rfl, rfl⟩))
  refine (HNL.out _).mono ?_
  rintro e w1 ⟨rfl, hq1, hb1⟩
  have hp := (Bk.new w 100 [.pointer none, .pointer none, .int .i64 wt, .int .i64 0, .int .i64 0, .int .i64 0, .int .i64 0, .int .i64 0, .int .i64 0]).below hb1
  have hb01 : Below w.heap.size w w1 := ((Below.refl _ _).alloc (Nat.le_refl _) _).trans (hb1.mono (by simp))
  rw [World.size_alloc] at hq1
  have hp2 := hp.set 0 (.pointer (some ⟨w.heap.size + 1, 0, none⟩))
  have hq2 := hq1.st (St.setCell (F := (· = w.heap.size)) w1 (a := ⟨w.heap.size, 0, none⟩) rfl (.pointer (some ⟨w.heap.size + 1, 0, none⟩))) (fun k hk => by omega)
  have hb2 := hb01.setCell (p := ⟨w.heap.size, 0, none⟩) (Nat.le_refl _) (.pointer (some ⟨w.heap.size + 1, 0, none⟩))
  have c0 := hp.cell 0 rfl
  have f0 := hp.free 0
  clear hp hq1 hb1 hb01
  go_wp2_with fail
  have hlt1 : w.heap.size + 1 < w1.heap.size := by have := hq2.bd (w.heap.size + 1) rfl; simpa [World.setCell] using this
  have hsz2 : (w1.setCell ⟨w.heap.size, 0, none⟩ (.pointer (some ⟨w.heap.size + 1, 0, none⟩))).heap.size = w1.heap.size := by simp [World.setCell]
  generalize w1.setCell ⟨w.heap.size, 0, none⟩ (.pointer (some ⟨w.heap.size + 1, 0, none⟩)) = W2 at *
  refine (HNH.out _).mono ?_
  rintro e w3 ⟨rfl, hq3, hb3⟩
  have hp3 := hp2.below hb3
  have hq4 := hq2.below hb3
  have hb4 := below_on hb2 hb3
  rw [hsz2] at hq3
  rw [hsz2]
  have HSZ := Lib.hid hsz2
  clear hsz2 c0 f0
  have c1 := hp3.cell 1 rfl
  have f1 := hp3.free 1
  have hs6 := St.setCell (F := (· = w.heap.size)) w3 (a := ⟨w.heap.size, 1, none⟩) rfl (.pointer (some ⟨w1.heap.size, 0, none⟩))
  have hp5 : Bk _ 100 w.heap.size (ptL (w.heap.size + 1) w1.heap.size wt 0 (fun _ => 0)) := hp3.set 1 (.pointer (some ⟨w1.heap.size, 0, none⟩))
  have hq5 := hq4.st hs6 (fun k hk => by omega)
  have hq6 := hq3.st hs6 (fun k hk => by omega)
  have hb6 := hb4.setCell (p := ⟨w.heap.size, 1, none⟩) (Nat.le_refl _) (.pointer (some ⟨w1.heap.size, 0, none⟩))
  clear hp2 hq2 hb2 hp3 hq4 hq3 hb3 hs6
  go_wp2
  go_ret2
  refine ⟨rfl, hb6, fun k => k = w.heap.size ∨ k = w.heap.size + 1 ∨ k = w1.heap.size, w.heap.size + 1, w1.heap.size, (· = w.heap.size + 1), (· = w1.heap.size), ⟨hp5, HB.out.1, HB.out.2, Nat.zero_le _, hq5, hq6, rfl, rfl, by simp, by simp, fun k => Iff.rfl, by omega, by omega, fun k hk hk2 => by omega, fun k hk => Nat.lt_of_lt_of_le (H2.out k hk) hb6.size⟩, fun k hk => by omega⟩
theorem pt_new_bad (low high wt : Int) (w : World) (h : fitB low = false ∨ fitB high = false ∨ fitB wt = false) :
    Calls Try.prog 26 #[.int .i64 low, .int .i64 high, .int .i64 wt] w fun e w' => e = .returned (.tuple #[.pointer none, .int .i64 80]) ∧ w = w' := by
  have HFL := Lib.hid (p_fits low)
  have HFH := Lib.hid (p_fits high)
  have HFW := Lib.hid (p_fits wt)
  rcases (by cases h1 : fitB low <;> cases h2 : fitB high <;> simp_all : fitB low = false ∨ (fitB low = true ∧ fitB high = false) ∨ (fitB low = true ∧ fitB high = true ∧ fitB wt = false)) with h1 | ⟨h1, h2⟩ | ⟨h1, h2, h3⟩
  all_goals
    rw [h1] at HFL
    try rw [h2] at HFH
    try rw [h3] at HFW
    clear h
    go_enter Try.func26, Try.ntmps26
    go_wp2_with (first
      | (with_reducible refine (HFL.out _).mono ?_; rintro e w' ⟨rfl, rfl⟩)
      | (with_reducible refine (HFH.out _).mono ?_; rintro e w' ⟨rfl, rfl⟩)
      | (with_reducible refine (HFW.out _).mono ?_; rintro e w' ⟨rfl, rfl⟩))
    go_ret2
    exact ⟨rfl, rfl⟩
theorem pt_rows (h : PbC F X w b m pl ph Fl Fh ql qh) {Y : Nat → Prop} (hY : ∀ k, Y k → k < w.heap.size) (hi : Bool) :
    Calls Try.prog 57 #[.pointer (some ⟨ptr pl ph hi, 0, none⟩)] w (MadeA Y w (m.sel hi)) := by
  have := p_allAlike (h.qs hi) (h.qp hi) hY
  rw [h.qk hi] at this
  exact this
theorem pt_low (h : PbC F X w b m pl ph Fl Fh ql qh) {Y : Nat → Prop} (hY : ∀ k, Y k → k < w.heap.size) :
    Calls Try.prog 39 #[.pointer (some ⟨b, 0, none⟩)] w (MadeA Y w m.low) := by
  have HR := Lib.hid (pt_rows h hY false)
  have HM := Lib.hid (pt_made h)
  have c0 := h.bk.cell 0 rfl
  clear h hY
  go_enter Try.func39, Try.ntmps39
  go_wp2_with (first
    | (go_at_call 49; refine HM.out.mono ?_; rintro e w' ⟨rfl, rfl⟩)
    | (go_at_call 57; refine HR.out.mono ?_; rintro e w1 ⟨A, n, c, rs, rfl, hn1, hr1⟩; have HN1 := Lib.hid hn1; clear hn1))
  go_ret
  exact ⟨A, n, c, rs, rfl, HN1.out, hr1⟩
theorem pt_high (h : PbC F X w b m pl ph Fl Fh ql qh) {Y : Nat → Prop} (hY : ∀ k, Y k → k < w.heap.size) :
    Calls Try.prog 40 #[.pointer (some ⟨b, 0, none⟩)] w (MadeA Y w m.high) := by
  have HR := Lib.hid (pt_rows h hY true)
  have HM := Lib.hid (pt_made h)
  have c0 := h.bk.cell 1 rfl
  clear h hY
  go_enter Try.func40, Try.ntmps40
  go_wp2_with (first
    | (go_at_call 49; refine HM.out.mono ?_; rintro e w' ⟨rfl, rfl⟩)
    | (go_at_call 57; refine HR.out.mono ?_; rintro e w1 ⟨A, n, c, rs, rfl, hn1, hr1⟩; have HN1 := Lib.hid hn1; clear hn1))
  go_ret
  exact ⟨A, n, c, rs, rfl, HN1.out, hr1⟩
end
end Go.Proofs.Ytbhhgfpliggkgaa
