/- Which packets may be: the program's own tests. -/
import Derived.Test.YtbhhgfpliggkgaaOA
set_option linter.unusedSimpArgs false
set_option linter.unusedVariables false
namespace Go.Proofs.Ytbhhgfpliggkgaa
open Go.RowKit Go.Shelf

/-- A packet's numbers. -/
structure Hd where
  kd : Int
  fl : Int
  pa : Int
  sr : Int
  ds : Int
  cn : Int
  sq : Int
  pu : Int
/-- A packet as a value. -/
def Hd.l (h : Hd) (p : Value) : List Value := [.int .i64 h.kd, .int .i64 h.fl, .int .i64 h.pa, .int .i64 h.sr, .int .i64 h.ds, .int .i64 h.cn, .int .i64 h.sq, .int .i64 h.pu, p]
def witB (a lo hi : Int) : Bool := decide (lo ≤ a ∧ a ≤ hi)
def hasB (f g : Int) : Bool := decide (0 ≤ f ∧ f / g % 2 = 1)

set_option maxHeartbeats 400000 in
theorem wit_any (a lo hi : Int) (w : World) : Calls Try.prog 86 #[.int .i64 a, .int .i64 lo, .int .i64 hi] w fun e w' => e = .returned (.bool (witB a lo hi)) ∧ w = w' := by
  unfold witB
  by_cases h1 : lo ≤ a
  · by_cases h2 : a ≤ hi <;>
    · go_enter Try.func86, Try.ntmps86
      go_wp2
      go_ret
      exact ⟨by simp [h1, h2], rfl⟩
  · go_enter Try.func86, Try.ntmps86
    go_wp2
    go_ret
    exact ⟨by simp; omega, rfl⟩
set_option maxHeartbeats 400000 in
theorem has_any (f g : Int) (w : World) (hg : 0 < g) (hg' : g ≤ 63) (hf : f ≤ 9223372036854775807) : Calls Try.prog 77 #[.int .i64 f, .int .i64 g] w fun e w' => e = .returned (.bool (hasB f g)) ∧ w = w' := by
  unfold hasB
  by_cases h1 : 0 ≤ f
  · go_enter Try.func77, Try.ntmps77
    go_wp2
    go_ret
    exact ⟨by have := Int.tmod_eq_emod_of_nonneg (b := 2) (Int.ediv_nonneg h1 (Int.le_of_lt hg)); simp [this, h1]; exact Bool.eq_iff_iff.2 (by simp), rfl⟩
  · go_enter Try.func77, Try.ntmps77
    go_wp2
    go_ret
    exact ⟨by simp; omega, rfl⟩

def plB (h : Hd) : Bool := witB h.pa 0 7 && witB h.sr 0 7 && witB h.ds 0 7 && !(h.sr == h.ds)
set_option maxHeartbeats 1000000 in
theorem places_any (kd fl pa sr ds cn sq pu : Int) (A : Option Addr) (n c : Nat) (w : World) : Calls Try.prog 83 #[.agg #[.int .i64 kd, .int .i64 fl, .int .i64 pa, .int .i64 sr, .int .i64 ds, .int .i64 cn, .int .i64 sq, .int .i64 pu, .slice A n c]] w fun e w' => e = .returned (.bool (plB ⟨kd, fl, pa, sr, ds, cn, sq, pu⟩)) ∧ Below w.heap.size w w' := by
  unfold plB
  dsimp only
  go_enter Try.func83, Try.ntmps83
  go_wp2_with (go_at_call 86; refine (wit_any _ _ _ _).mono ?_; rintro e w' ⟨rfl, rfl⟩)
  all_goals
    go_ret
    exact ⟨by simp_all; try rfl, (Below.refl _ _).alloc (Nat.le_refl _) _⟩
def nmB (h : Hd) : Bool := witB h.cn 1 1073741824 && witB h.sq 0 1152921504606846976 && witB h.pu 0 1152921504606846976
set_option maxHeartbeats 1000000 in
theorem nums_any (kd fl pa sr ds cn sq pu : Int) (A : Option Addr) (n c : Nat) (w : World) : Calls Try.prog 84 #[.agg #[.int .i64 kd, .int .i64 fl, .int .i64 pa, .int .i64 sr, .int .i64 ds, .int .i64 cn, .int .i64 sq, .int .i64 pu, .slice A n c]] w fun e w' => e = .returned (.bool (nmB ⟨kd, fl, pa, sr, ds, cn, sq, pu⟩)) ∧ Below w.heap.size w w' := by
  unfold nmB
  dsimp only
  go_enter Try.func84, Try.ntmps84
  go_wp2_with (go_at_call 86; refine (wit_any _ _ _ _).mono ?_; rintro e w' ⟨rfl, rfl⟩)
  all_goals
    go_ret
    exact ⟨by simp_all, (Below.refl _ _).alloc (Nat.le_refl _) _⟩
def brB (h : Hd) (n : Int) : Bool := h.fl == 0 && n == 0
set_option maxHeartbeats 1000000 in
theorem bare_any (kd fl pa sr ds cn sq pu : Int) (A : Option Addr) (n c : Nat) (w : World) : Calls Try.prog 88 #[.agg #[.int .i64 kd, .int .i64 fl, .int .i64 pa, .int .i64 sr, .int .i64 ds, .int .i64 cn, .int .i64 sq, .int .i64 pu, .slice A n c]] w fun e w' => e = .returned (.bool (brB ⟨kd, fl, pa, sr, ds, cn, sq, pu⟩ n)) ∧ Below w.heap.size w w' := by
  unfold brB
  dsimp only
  go_enter Try.func88, Try.ntmps88
  go_wp2
  all_goals
    go_ret
    exact ⟨by simp_all, (Below.refl _ _).alloc (Nat.le_refl _) _⟩
def dtB (f : Int) (n : Int) : Bool := witB f 0 63 && !(hasB f 16 && !hasB f 8) && (if hasB f 4 then !hasB f 2 && n == 0 else if hasB f 8 then n == 0 else witB n 1 1024)
set_option maxHeartbeats 1000000 in
theorem data_any (f : Int) (n : Nat) (w : World) (hf : f ≤ 9223372036854775807) : Calls Try.prog 87 #[.int .i64 f, .int .i64 n] w fun e w' => e = .returned (.bool (dtB f n)) ∧ w = w' := by
  unfold dtB
  go_enter Try.func87, Try.ntmps87
  go_wp2_with (first | (go_at_call 86; refine (wit_any _ _ _ _).mono ?_; rintro e w' ⟨rfl, rfl⟩) | (go_at_call 77; refine (has_any _ _ _ (by decide) (by decide) hf).mono ?_; rintro e w' ⟨rfl, rfl⟩))
  all_goals
    go_ret
    exact ⟨by simp_all, rfl⟩
def kdB (h : Hd) (n : Int) : Bool := if h.kd == 1 then h.pu == 0 && dtB h.fl n else if h.kd == 2 || h.kd == 3 then h.pu == 0 && brB h n else if h.kd == 4 then h.sq == 0 && brB h n else false
set_option maxHeartbeats 1000000 in
theorem kind_any (kd fl pa sr ds cn sq pu : Int) (A : Option Addr) (n c : Nat) (w : World) (hf : fl ≤ 9223372036854775807) : Calls Try.prog 85 #[.agg #[.int .i64 kd, .int .i64 fl, .int .i64 pa, .int .i64 sr, .int .i64 ds, .int .i64 cn, .int .i64 sq, .int .i64 pu, .slice A n c]] w fun e w' => e = .returned (.bool (kdB ⟨kd, fl, pa, sr, ds, cn, sq, pu⟩ n)) ∧ Below w.heap.size w w' := by
  unfold kdB
  dsimp only
  go_enter Try.func85, Try.ntmps85
  go_wp2_with (first | (go_at_call 87; refine (data_any _ _ _ hf).mono ?_; rintro e w' ⟨rfl, rfl⟩) | (go_at_call 88; refine (bare_any _ _ _ _ _ _ _ _ _ _ _ _).mono ?_; rintro e w' ⟨rfl, hb⟩))
  all_goals
    go_ret
    exact ⟨by simp_all, by first | exact (Below.refl _ _).alloc (Nat.le_refl _) _ | exact ((Below.refl _ _).alloc (Nat.le_refl _) _).trans (hb.mono (by simp))⟩
def chkB (h : Hd) (n : Int) : Bool := plB h && nmB h && kdB h n
def errV (b : Bool) : Value := .int .i64 (if b then 0 else 30)
theorem errV_t : errV true = .int .i64 0 := rfl
theorem errV_f : errV false = .int .i64 30 := rfl
/-- A packet's cells. -/
theorem Bk.cells9 {w : World} {t : TypeId} {g : Nat} {v0 v1 v2 v3 v4 v5 v6 v7 v8 : Value} (h : Bk w t g [v0, v1, v2, v3, v4, v5, v6, v7, v8]) :
    w.cell? ⟨g, 0, none⟩ = some v0 ∧ w.cell? ⟨g, 1, none⟩ = some v1 ∧ w.cell? ⟨g, 2, none⟩ = some v2 ∧ w.cell? ⟨g, 3, none⟩ = some v3 ∧ w.cell? ⟨g, 4, none⟩ = some v4 ∧ w.cell? ⟨g, 5, none⟩ = some v5 ∧ w.cell? ⟨g, 6, none⟩ = some v6 ∧ w.cell? ⟨g, 7, none⟩ = some v7 ∧ w.cell? ⟨g, 8, none⟩ = some v8 :=
  ⟨h.cell 0 rfl, h.cell 1 rfl, h.cell 2 rfl, h.cell 3 rfl, h.cell 4 rfl, h.cell 5 rfl, h.cell 6 rfl, h.cell 7 rfl, h.cell 8 rfl⟩
theorem pk_new {w w1 : World} {vs : List Value} (hb : Below (w.alloc (.cells vs.toArray 65)).heap.size (w.alloc (.cells vs.toArray 65)) w1) : Bk w1 65 w.heap.size vs ∧ Below w.heap.size w w1 :=
  ⟨(Bk.new w 65 vs).below hb, ((Below.refl _ _).alloc (Nat.le_refl _) _).trans (hb.mono (by simp))⟩
theorem below_on {w w1 w2 : World} (h : Below w.heap.size w w1) (k : Below w1.heap.size w1 w2) : Below w.heap.size w w2 := h.trans (k.mono h.size)
set_option maxHeartbeats 1000000 in
theorem check_any (kd fl pa sr ds cn sq pu : Int) (A : Option Addr) (n c : Nat) (w : World) (hf : fl ≤ 9223372036854775807) : Calls Try.prog 74 #[.agg #[.int .i64 kd, .int .i64 fl, .int .i64 pa, .int .i64 sr, .int .i64 ds, .int .i64 cn, .int .i64 sq, .int .i64 pu, .slice A n c]] w fun e w' => e = .returned (errV (chkB ⟨kd, fl, pa, sr, ds, cn, sq, pu⟩ n)) ∧ Below w.heap.size w w' := by
  unfold chkB
  go_enter Try.func74, Try.ntmps74
  go_wp2_with (first
    | (go_at_call 83; refine (places_any _ _ _ _ _ _ _ _ _ _ _ _).mono ?_; rintro e w1 ⟨rfl, hb1⟩; obtain ⟨hp1, hc1⟩ := pk_new hb1; clear hb1; obtain ⟨c0, c1, c2, c3, c4, c5, c6, c7, c8⟩ := hp1.cells9)
    | (go_at_call 84; refine (nums_any _ _ _ _ _ _ _ _ _ _ _ _).mono ?_; rintro e w2 ⟨rfl, hb2⟩; have hp2 := hp1.below hb2; have hc2 := below_on hc1 hb2; clear hb2; obtain ⟨d0, d1, d2, d3, d4, d5, d6, d7, d8⟩ := hp2.cells9)
    | (go_at_call 85; refine (kind_any _ _ _ _ _ _ _ _ _ _ _ _ hf).mono ?_; rintro e w3 ⟨rfl, hb3⟩; have hc3 := below_on hc2 hb3; clear hb3))
  all_goals
    go_ret
    exact ⟨by unfold errV; simp_all, by assumption⟩
end Go.Proofs.Ytbhhgfpliggkgaa
