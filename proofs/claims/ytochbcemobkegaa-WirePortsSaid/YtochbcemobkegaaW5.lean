/- Which packets are the same; what the law looks at. -/
import Derived.Test.YtochbcemobkegaaW4
set_option linter.unusedSimpArgs false
set_option linter.unusedVariables false
namespace Go.Proofs.Ytochbcemobkegaa
open Go.RowKit Go.Shelf

def eqS (xs ys : List Int) : Bool := (strOfNums xs).toList == (strOfNums ys).toList
theorem eqS_refl (xs : List Int) : eqS xs xs = true := by simp [eqS]
def smB (h k : Hd) (xs ys : List Int) : Bool := h.kd == k.kd && h.fl == k.fl && h.pa == k.pa && h.sr == k.sr && h.ds == k.ds && h.cn == k.cn && h.sq == k.sq && h.pu == k.pu && eqS xs ys
theorem smB_refl (h : Hd) (xs : List Int) : smB h h xs xs = true := by simp [smB, eqS_refl]
set_option maxHeartbeats 400000 in
theorem equal_any (A : Option Addr) (n c : Nat) (xs : List Int) (A1 : Option Addr) (n1 c1 : Nat) (ys : List Int) (w : World) (h : Rd .u8 w A n c xs) (k : Rd .u8 w A1 n1 c1 ys) :
    Calls Try.prog 43 #[.slice A n c, .slice A1 n1 c1] w fun e w' => e = .returned (.bool (eqS xs ys)) ∧ w = w' := by
  unfold eqS
  have q1 := conv_any h
  have q2 := conv_any k
  go_enter Try.func43, Try.ntmps43
  go_wp2
  go_ret
  exact ⟨rfl, rfl⟩
theorem pk_newp {w : World} {vs vs' : List Value} : Bk ((w.alloc (.cells vs.toArray 25)).alloc (.cells vs'.toArray 25)) 25 w.heap.size vs := (Bk.new w 25 vs).alloc _
set_option maxHeartbeats 8000000 in
theorem same_any (kd fl pa sr ds cn sq pu : Int) (A : Option Addr) (n c : Nat) (kd1 fl1 pa1 sr1 ds1 cn1 sq1 pu1 : Int) (A1 : Option Addr) (n1 c1 : Nat) (xs ys : List Int) (w : World) (h : Rd .u8 w A n c xs) (k : Rd .u8 w A1 n1 c1 ys) :
    Calls Try.prog 21 #[.agg #[.int .i64 kd, .int .i64 fl, .int .i64 pa, .int .i64 sr, .int .i64 ds, .int .i64 cn, .int .i64 sq, .int .i64 pu, .slice A n c], .agg #[.int .i64 kd1, .int .i64 fl1, .int .i64 pa1, .int .i64 sr1, .int .i64 ds1, .int .i64 cn1, .int .i64 sq1, .int .i64 pu1, .slice A1 n1 c1]] w fun e w' => e = .returned (.bool (smB ⟨kd, fl, pa, sr, ds, cn, sq, pu⟩ ⟨kd1, fl1, pa1, sr1, ds1, cn1, sq1, pu1⟩ xs ys)) ∧ Below w.heap.size w w' := by
  unfold smB
  dsimp only
  generalize hq : eqS xs ys = q
  have HE : ∀ w', Below w.heap.size w w' → Calls Try.prog 43 #[.slice A n c, .slice A1 n1 c1] w' fun e w'' => e = .returned (.bool q) ∧ w' = w'' := fun w' hb => by
    rw [← hq]; exact equal_any _ _ _ _ _ _ _ _ _ (h.below hb) (k.below hb)
  have HE' := Lib.hid HE
  clear HE hq h k
  go_enter Try.func21, Try.ntmps21
  go_wp2_with (go_at_call 43; refine (HE'.out _ (by exact ((Below.refl _ _).alloc (Nat.le_refl _) _).alloc (by simp) _)).mono ?_; rintro e w1 ⟨rfl, rfl⟩)
  all_goals
    go_ret
    exact ⟨by simp_all, by exact ((Below.refl _ _).alloc (Nat.le_refl _) _).alloc (by simp) _⟩
set_option maxHeartbeats 8000000 in
theorem rsame_any (kd fl pa sr ds cn sq pu : Int) (A : Option Addr) (n c : Nat) (kd1 fl1 pa1 sr1 ds1 cn1 sq1 pu1 : Int) (A1 : Option Addr) (n1 c1 : Nat) (xs ys : List Int) (w : World) (h : Rd .u8 w A n c xs) (k : Rd .u8 w A1 n1 c1 ys) :
    Calls Try.prog 12 #[.agg #[.int .i64 kd, .int .i64 fl, .int .i64 pa, .int .i64 sr, .int .i64 ds, .int .i64 cn, .int .i64 sq, .int .i64 pu, .slice A n c], .agg #[.int .i64 kd1, .int .i64 fl1, .int .i64 pa1, .int .i64 sr1, .int .i64 ds1, .int .i64 cn1, .int .i64 sq1, .int .i64 pu1, .slice A1 n1 c1]] w fun e w' => e = .returned (.bool (smB ⟨kd, fl, pa, sr, ds, cn, sq, pu⟩ ⟨kd1, fl1, pa1, sr1, ds1, cn1, sq1, pu1⟩ xs ys)) ∧ Below w.heap.size w w' := by
  unfold smB eqS
  dsimp only
  have q1 := fun o o' => conv_any ((h.alloc o).alloc o')
  have q2 := fun o o' => conv_any ((k.alloc o).alloc o')
  generalize strOfNums xs = sx at *
  generalize strOfNums ys = sy at *
  clear h k
  go_enter Try.func12, Try.ntmps12
  go_wp2
  all_goals
    go_ret
    exact ⟨by simp_all, by exact ((Below.refl _ _).alloc (Nat.le_refl _) _).alloc (by simp) _⟩
set_option maxHeartbeats 1000000 in
/-- The law looks at 1100 bytes at most. -/
theorem few_any (kd fl pa sr ds cn sq pu : Int) (A : Option Addr) (n c : Nat) (w : World) (hn : n ≤ c) (hc : c ≤ maxLen) :
    Calls Try.prog 7 #[.agg #[.int .i64 kd, .int .i64 fl, .int .i64 pa, .int .i64 sr, .int .i64 ds, .int .i64 cn, .int .i64 sq, .int .i64 pu, .slice A n c]] w fun e w' => e = .returned (.agg #[.int .i64 kd, .int .i64 fl, .int .i64 pa, .int .i64 sr, .int .i64 ds, .int .i64 cn, .int .i64 sq, .int .i64 pu, .slice A (min n 1100) c]) ∧ Below w.heap.size w w' := by
  unfold maxLen at hc
  by_cases h5 : n ≤ 1100
  · rw [Nat.min_eq_left h5]
    go_enter Try.func7, Try.ntmps7
    go_wp2
    refine bodyPost_ret (v := .agg #[.int .i64 kd, .int .i64 fl, .int .i64 pa, .int .i64 sr, .int .i64 ds, .int .i64 cn, .int .i64 sq, .int .i64 pu, .slice A n c]) (by simp [results, Try.results7, go_sem, *]) rfl ⟨rfl, ?_⟩
    exact ((Below.refl _ _).alloc (Nat.le_refl _) _).alloc (by simp) _
  · have h6 : 1100 ≤ n := by omega
    have h7 : 1100 ≤ c := by omega
    rw [Nat.min_eq_right h6]
    go_enter Try.func7, Try.ntmps7
    go_wp2
    refine bodyPost_ret (v := .agg #[.int .i64 kd, .int .i64 fl, .int .i64 pa, .int .i64 sr, .int .i64 ds, .int .i64 cn, .int .i64 sq, .int .i64 pu, .slice A 1100 c]) (by simp [results, Try.results7, go_sem, *]) rfl ⟨rfl, ?_⟩
    exact ((Below.refl _ _).alloc (Nat.le_refl _) _).alloc (by simp) _
end Go.Proofs.Ytochbcemobkegaa
