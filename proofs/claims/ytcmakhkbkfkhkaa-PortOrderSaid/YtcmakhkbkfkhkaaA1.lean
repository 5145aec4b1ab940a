/- The sums of Adler: pieces of memory, the iterator over chunks, and what adds bytes. -/
import Derived.Test.YtcmakhkbkfkhkaaKit2
import Derived.RangeFuncNested
import Derived.RangeFuncBound
import Derived.RangeFuncCalls
import Derived.RangeFuncLeaves
import Derived.Shelf.Abstract
import Derived.Shelf.RegionOpen
import Derived.OwnWalkIn
import Derived.TacticsInMore
import Derived.LoopNIn
import Derived.LoopIn
import Derived.BigQuiet
import Derived.Deep.QuietTactic
import Derived.Outline
set_option linter.unusedSimpArgs false
set_option linter.unusedVariables false
namespace Go.Proofs.Ytcmakhkbkfkhkaa
open Go.RowKit Go.Shelf
attribute [local go_sem] Oper.semAt_some

/-- The two boxes stay. -/
def KpB (Bs Bn : Nat) (W W' : World) : Prop := W'.heap[Bs]? = W.heap[Bs]? ∧ W'.heap[Bn]? = W.heap[Bn]?
theorem KpB.c1 {Bs Bn : Nat} {W W' : World} (h : KpB Bs Bn W W') : W'.cell? ⟨Bs, 0, none⟩ = W.cell? ⟨Bs, 0, none⟩ := World.cell?_of_block h.1
theorem KpB.c2 {Bs Bn : Nat} {W W' : World} (h : KpB Bs Bn W W') : W'.cell? ⟨Bn, 0, none⟩ = W.cell? ⟨Bn, 0, none⟩ := World.cell?_of_block h.2
theorem KpB.trans {Bs Bn : Nat} {A B C : World} (h : KpB Bs Bn A B) (k : KpB Bs Bn B C) : KpB Bs Bn A C := ⟨k.1.trans h.1, k.2.trans h.2⟩
theorem KpB.put {Bs Bn : Nat} {w : World} (h1 : Bs < w.heap.size) (h2 : Bn < w.heap.size) (W : World) (l : Nat) (o o' : Obj) (hl : w.heap.size ≤ l) (ho : W.heap[l]? = some o) (_ : o.isCells = false) (_ : o.isWalk = false) : KpB Bs Bn W (W.putObj l o') :=
  ⟨World.putObj_heap_other (by omega), World.putObj_heap_other (by omega)⟩

/-- Adler's two sums over bytes, unreduced. -/
def raw (a b : Int) : List Int → Int × Int
  | [] => (a, b)
  | x :: l => raw (a + x) (b + (a + x)) l
def rawA (a b : Int) (l : List Int) : Int := (raw a b l).1
def rawB (a b : Int) (l : List Int) : Int := (raw a b l).2
theorem raw_snoc (a b : Int) (l : List Int) (x : Int) : raw a b (l ++ [x]) = (rawA a b l + x, rawB a b l + (rawA a b l + x)) := by
  induction l generalizing a b with
  | nil => rfl
  | cons y l ih => exact ih _ _
theorem raw_take (a b : Int) (l : List Int) (k : Nat) (h : k < l.length) : rawA a b (l.take (k + 1)) = rawA a b (l.take k) + l[k] ∧ rawB a b (l.take (k + 1)) = rawB a b (l.take k) + (rawA a b (l.take k) + l[k]) := by
  rw [List.take_succ_eq_append_getElem h]
  unfold rawA rawB
  rw [raw_snoc]
  exact ⟨rfl, rfl⟩
theorem raw_bounds (a b : Int) (l : List Int) (h : okB l = true) (ha : 0 ≤ a) (hb : 0 ≤ b) :
    (0 ≤ rawA a b l ∧ rawA a b l ≤ a + 256 * l.length) ∧ 0 ≤ rawB a b l ∧ rawB a b l ≤ b + l.length * (a + 256 * l.length) := by
  unfold rawA rawB
  induction l generalizing a b with
  | nil => simp [raw]; omega
  | cons x l ih =>
    simp only [okB, List.all_cons, Bool.and_eq_true, decide_eq_true_eq] at h
    have := ih (a + x) (b + (a + x)) h.2 (by omega) (by omega)
    simp only [raw, List.length_cons]
    obtain ⟨⟨h1, h2⟩, h3, h4⟩ := this
    refine ⟨⟨h1, by omega⟩, h3, Int.le_trans h4 ?_⟩
    obtain ⟨n, hn⟩ : ∃ n : Int, n = l.length := ⟨_, rfl⟩
    rw [show ((l.length + 1 : Nat) : Int) = n + 1 from by omega, ← hn]
    have hn0 : 0 ≤ n := by omega
    have e1 : n * (a + x + 256 * n) = n * (a + 256 * n) + n * x := by rw [← Int.mul_add]; congr 1; omega
    have e2 : (n + 1) * (a + 256 * (n + 1)) = n * (a + 256 * n) + 256 * n + (a + 256 * (n + 1)) := by
      rw [Int.add_mul, Int.one_mul, show a + 256 * (n + 1) = (a + 256 * n) + 256 from by omega, Int.mul_add n (a + 256 * n) 256]
      omega
    have e3 : n * x ≤ 256 * n := by rw [Int.mul_comm]; exact Int.mul_le_mul_of_nonneg_right (by omega) hn0
    omega
end Go.Proofs.Ytcmakhkbkfkhkaa
