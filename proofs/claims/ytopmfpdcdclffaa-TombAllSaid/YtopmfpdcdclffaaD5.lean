/- The reference's tomb: New, Closed, May. -/
import Derived.Test.YtopmfpdcdclffaaD4
set_option linter.unusedSimpArgs false
set_option linter.unusedVariables false
namespace Go.Proofs.Ytopmfpdcdclffaa
open Go.RowKit Go.Shelf

theorem rowR : Row Try.prog 29 3 := ⟨⟨_, rfl, rfl⟩, by kernel_rfl⟩
/-- The cells of the reference's bitmap. -/
def rvL (B : Bm) (A : Option Addr) (n c : Nat) : List Value := [.int .i64 B.size, .int .i64 B.base, .slice A n c]
theorem rvL_one (B : Bm) (A : Option Addr) (n c : Nat) : ∀ v ∈ rvL B A n c, v.oneCell' = true := by
  intro v hv
  simp [rvL] at hv
  rcases hv with rfl | rfl | rfl <;> rfl
def zR : List Value := [.int .i64 0, .int .i64 0, .slice none 0 0]
theorem lay_zR (B : Bm) (A : Option Addr) (n c : Nat) : lay zR 0 (rvL B A n c) = rvL B A n c := rfl
theorem lay_rv (B B' : Bm) (A A' : Option Addr) (n c n' c' : Nat) : lay (rvL B A n c) 0 (rvL B' A' n' c') = rvL B' A' n' c' := rfl
/-- The row that the slice holds. -/
def Rp (w : World) (B : Bm) (A : Option Addr) (n c : Nat) : Prop := RdV w A n c (intV (B.all true))
theorem Rp.len {w : World} {B : Bm} {A : Option Addr} {n c : Nat} (h : Rp w B A n c) : n = (B.all true).length := by have := h.1; rw [intV_len] at this; exact this.symm
theorem Rp.n256 {w : World} {B : Bm} {A : Option Addr} {n c : Nat} (h : Rp w B A n c) (ho : B.ok) : n ≤ 256 := by rw [h.len]; exact Nat.le_trans (B.nums_len true _) ho.s2
theorem results_cell_tmp2 {P : Program} {w : World} {ty : TypeId} {fn : Func} {s u v : Tmp} (h : fn.results = #[.cell s ty, .tmp u, .tmp v]) {tmps : Array Value} {a : Addr} (ha : tmps.getD s undef = .pointer (some a)) {x : Value} (hl : (loadVar ty a).run P w = .ok x w) :
    (results fn tmps).run P w = .ok (.tuple #[x, tmps.getD u undef, tmps.getD v undef]) w := by
  rw [Array.getD_eq_getD_getElem?] at ha
  simp [results, h, ha, asAddr_some, hl]
theorem rnew_any (n : Nat) (w : World) (h1 : 1 ≤ n) (h2 : n ≤ 64) :
    Calls Try.prog 8 #[.int .i64 n] w fun e w' => e = .returned (.tuple #[.agg (rvL (Bm.new n 1) none 0 0).toArray, .int .i64 0]) ∧ Below w.heap.size w w' := by
  have hs1 : ¬ (n : Int) < 1 := by omega
  have hs2 : ¬ (64 : Int) < n := by omega
  have hr5 := Bk.new w 29 (rvL (Bm.new n 1) none 0 0)
  go_enter Try.func8, Try.ntmps8
  go_wp2
  exact bodyPost_ret (results_cell_tmp rfl rfl (rowR.load hr5 0 (cs := rvL (Bm.new n 1) none 0 0) rfl rfl)) rfl ⟨rfl, (Below.refl _ w).alloc (Nat.le_refl _) _⟩
theorem rnew_bad (n : Int) (w : World) (h : n < 1 ∨ 64 < n) :
    Calls Try.prog 8 #[.int .i64 n] w fun e w' => e = .returned (.tuple #[.agg zR.toArray, .int .i64 200]) ∧ Below w.heap.size w w' := by
  have hr5 := Bk.new w 29 zR
  rcases (by omega : n < 1 ∨ (1 ≤ n ∧ 64 < n)) with h0 | ⟨h0, h1⟩
  all_goals
    clear h
    go_enter Try.func8, Try.ntmps8
    go_wp2
    exact bodyPost_ret (results_cell_tmp rfl rfl (rowR.load hr5 0 (cs := zR) rfl rfl)) rfl ⟨rfl, (Below.refl _ w).alloc (Nat.le_refl _) _⟩
section
variable {w w' : World} {B : Bm} {A : Option Addr} {n c : Nat}
/-- What the document says of a closed number. -/
def Bm.rclosed (B : Bm) (x : Int) : Bool := decide (1 ≤ x) && B.has x
set_option maxHeartbeats 1000000 in
theorem rclosed_any (h : Rp w B A n c) (ho : B.ok) (x : Int) :
    Calls Try.prog 29 #[.agg (rvL B A n c).toArray, .int .i64 x] w fun e w' => e = .returned (.bool (B.rclosed x)) ∧ Below w.heap.size w w' := by
  have HM := Lib.hid (Bm.has_mem ho x)
  have HB := Lib.hid ((Below.refl w.heap.size w).alloc (Nat.le_refl _) (.cells (rvL B A n c).toArray 29))
  have HH := Lib.hid h
  have hk := Bk.new w 29 (rvL B A n c)
  have c1 := hk.cell 1 (v := .int .i64 B.base) rfl
  have c2 := hk.cell 2 (v := .slice A n c) rfl
  clear h hk
  rcases (by omega : x < 1 ∨ (1 ≤ x ∧ x < B.base) ∨ (1 ≤ x ∧ (B.base : Int) ≤ x)) with h0 | ⟨h0, h1⟩ | ⟨h0, h1⟩
  · have HV : Hid (B.rclosed x = false) := Lib.hid (by unfold Bm.rclosed; rw [decide_eq_false (by omega)]; rfl)
    go_enter Try.func29, Try.ntmps29
    go_wp2
    go_ret
    exact ⟨by rw [HV.out]; rfl, HB.out⟩
  · have HV : Hid (B.rclosed x = true) := Lib.hid (by unfold Bm.rclosed; rw [HM.out, decide_eq_true h0, decide_eq_true h1, decide_eq_true (show 0 ≤ x by omega)]; rfl)
    go_enter Try.func29, Try.ntmps29
    go_wp2
    go_ret
    exact ⟨by rw [HV.out]; rfl, HB.out⟩
  · have HV : Hid (B.rclosed x = (decide (x < B.base) || decide (x ∈ B.all true))) := Lib.hid (by unfold Bm.rclosed; rw [HM.out, decide_eq_true h0, decide_eq_true (show 0 ≤ x by omega)]; rfl)
    go_enter Try.func29, Try.ntmps29
    go_wp2_with (go_at_call 42; refine (in_any A n c (B.all true) x _ (HH.out.below HB.out)).mono ?_; rintro e w' ⟨rfl, rfl⟩)
    go_ret
    exact ⟨by rw [HV.out]; rfl, HB.out⟩
set_option maxHeartbeats 2000000 in
theorem rmay_any (h : Rp w B A n c) (ht : B.tk) (x : Int) :
    Calls Try.prog 31 #[.agg (rvL B A n c).toArray, .int .i64 x] w fun e w' => e = .returned (.bool (B.tmay x)) ∧ Below w.heap.size w w' := by
  have HM := Lib.hid (Bm.tmay_eq ht x)
  have hs2 := ht.ok.s2
  have hb1 := ht.ok.b1
  have HB := Lib.hid ((Below.refl w.heap.size w).alloc (Nat.le_refl _) (.cells (rvL B A n c).toArray 29))
  have HH := Lib.hid h
  have hk := Bk.new w 29 (rvL B A n c)
  have c0 := hk.cell 0 (v := .int .i64 B.size) rfl
  have c1 := hk.cell 1 (v := .int .i64 B.base) rfl
  have c2 := hk.cell 2 (v := .slice A n c) rfl
  clear h hk
  have hw : IntKind.i64.wrap ((B.base : Int) + B.size) = (B.base : Int) + B.size := by rw [IntKind.wrap_i64]; omega
  rcases (by omega : x < (B.base : Int) ∨ ((B.base : Int) ≤ x ∧ ¬ x < (B.base : Int) + B.size) ∨ ((B.base : Int) ≤ x ∧ x < (B.base : Int) + B.size ∧ ¬ x ≤ 1073741824) ∨ ((B.base : Int) ≤ x ∧ x < (B.base : Int) + B.size ∧ x ≤ 1073741824)) with h0 | ⟨h0, h1⟩ | ⟨h0, h1, h2⟩ | ⟨h0, h1, h2⟩
  · have HV : Hid (B.tmay x = false) := Lib.hid (by rw [HM.out, decide_eq_false (show ¬ (B.base : Int) ≤ x by omega)]; rfl)
    go_enter Try.func31, Try.ntmps31
    go_wp2
    go_ret
    exact ⟨by rw [HV.out]; rfl, HB.out⟩
  · have HV : Hid (B.tmay x = false) := Lib.hid (by rw [HM.out, decide_eq_true h0, decide_eq_false h1]; rfl)
    go_enter Try.func31, Try.ntmps31
    go_wp2
    go_ret
    exact ⟨by rw [HV.out]; rfl, HB.out⟩
  · have HV : Hid (B.tmay x = false) := Lib.hid (by rw [HM.out, decide_eq_true h0, decide_eq_true h1, decide_eq_false h2]; rfl)
    go_enter Try.func31, Try.ntmps31
    go_wp2
    go_ret
    exact ⟨by rw [HV.out]; rfl, HB.out⟩
  · have HV : Hid (B.tmay x = !decide (x ∈ B.all true)) := Lib.hid (by rw [HM.out, decide_eq_true h0, decide_eq_true h1, decide_eq_true h2]; rfl)
    go_enter Try.func31, Try.ntmps31
    go_wp2_with (go_at_call 42; refine (in_any A n c (B.all true) x _ (HH.out.below HB.out)).mono ?_; rintro e w' ⟨rfl, rfl⟩)
    go_ret
    exact ⟨by rw [HV.out]; rfl, HB.out⟩
end
/-- What the reference's answer holds. -/
structure Rr (w : World) (B' : Bm) (A : Option Addr) (n : Nat) (A' : Option Addr) (n' c' : Nat) (w' : World) : Prop where
  rp : Rp w' B' A' n' c'
  lie : 0 < n' → ∀ ad, A' = some ad → w.heap.size ≤ ad.block ∨ (0 < n ∧ ∃ a0, A = some a0 ∧ ad.block = a0.block)
  bel : Below w.heap.size w w'
end Go.Proofs.Ytopmfpdcdclffaa
