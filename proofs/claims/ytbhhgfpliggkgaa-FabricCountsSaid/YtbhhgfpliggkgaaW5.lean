/- Which packets are the same; what the law looks at. -/
import Derived.Test.YtbhhgfpliggkgaaW4
set_option linter.unusedSimpArgs false
set_option linter.unusedVariables false
namespace Go.Proofs.Ytbhhgfpliggkgaa
open Go.RowKit Go.Shelf

def eqS (xs ys : List Int) : Bool := (strOfNums xs).toList == (strOfNums ys).toList
theorem eqS_refl (xs : List Int) : eqS xs xs = true := by simp [eqS]
def smB (h k : Hd) (xs ys : List Int) : Bool := h.kd == k.kd && h.fl == k.fl && h.pa == k.pa && h.sr == k.sr && h.ds == k.ds && h.cn == k.cn && h.sq == k.sq && h.pu == k.pu && eqS xs ys
theorem smB_refl (h : Hd) (xs : List Int) : smB h h xs xs = true := by simp [smB, eqS_refl]
theorem pk_newp {w : World} {vs vs' : List Value} : Bk ((w.alloc (.cells vs.toArray 65)).alloc (.cells vs'.toArray 65)) 65 w.heap.size vs := (Bk.new w 65 vs).alloc _
set_option maxHeartbeats 8000000 in
theorem rsame_any (kd fl pa sr ds cn sq pu : Int) (A : Option Addr) (n c : Nat) (kd1 fl1 pa1 sr1 ds1 cn1 sq1 pu1 : Int) (A1 : Option Addr) (n1 c1 : Nat) (xs ys : List Int) (w : World) (h : Rd .u8 w A n c xs) (k : Rd .u8 w A1 n1 c1 ys) :
    Calls Try.prog 36 #[.agg #[.int .i64 kd, .int .i64 fl, .int .i64 pa, .int .i64 sr, .int .i64 ds, .int .i64 cn, .int .i64 sq, .int .i64 pu, .slice A n c], .agg #[.int .i64 kd1, .int .i64 fl1, .int .i64 pa1, .int .i64 sr1, .int .i64 ds1, .int .i64 cn1, .int .i64 sq1, .int .i64 pu1, .slice A1 n1 c1]] w fun e w' => e = .returned (.bool (smB ⟨kd, fl, pa, sr, ds, cn, sq, pu⟩ ⟨kd1, fl1, pa1, sr1, ds1, cn1, sq1, pu1⟩ xs ys)) ∧ Below w.heap.size w w' := by
  unfold smB eqS
  dsimp only
  have q1 := fun o o' => conv_any ((h.alloc o).alloc o')
  have q2 := fun o o' => conv_any ((k.alloc o).alloc o')
  generalize strOfNums xs = sx at *
  generalize strOfNums ys = sy at *
  clear h k
  go_enter Try.func36, Try.ntmps36
  go_wp2
  all_goals
    go_ret
    exact ⟨by simp_all, by exact ((Below.refl _ _).alloc (Nat.le_refl _) _).alloc (by simp) _⟩
end Go.Proofs.Ytbhhgfpliggkgaa
