/- The sums of Adler: pieces of memory, the iterator over chunks, and what adds bytes. -/
import Derived.Test.YtochbcemobkegaaKit2
import Derived.RangeFuncNested
import Derived.RangeFuncBound
import Derived.RangeFuncCalls
import Derived.RangeFuncLeaves
import Derived.Shelf.Abstract
import Derived.Shelf.RegionOpen
import Derived.OwnWalkIn
import Derived.TacticsInMore
import Derived.LoopNIn
import Derived.LoopIn
import Derived.BigQuiet
import Derived.Deep.QuietTactic
import Derived.Outline
set_option linter.unusedSimpArgs false
set_option linter.unusedVariables false
namespace Go.Proofs.Ytochbcemobkegaa
open Go.RowKit Go.Shelf
attribute [local go_sem] Oper.semAt_some

/-- slices.Chunk(l, 65536): the slice and the number are boxed. -/
theorem chunk_any (A : Option Addr) (n c k : Nat) (w : World) :
    CallsIn Fence.wide k Try.prog 56 #[.slice A n c, .int .i64 65536] w fun e w' => e = .returned (.func (.func 59) #[] #[.pointer (some ⟨w.heap.size, 0, none⟩), .pointer (some ⟨w.heap.size + 1, 0, none⟩)]) ∧
      w' = (w.alloc (.cells #[.slice A n c] 23)).alloc (.cells #[.int .i64 65536] 3) := by
  refine callsIn_of_wp Try.func56 rfl trivial ?_ rfl
  simp only [Try.ntmps56, List.size_toArray, List.length_cons, List.length_nil, Nat.reduceAdd, Nat.reduceSub, Array.replicate_succ, Array.replicate_zero, List.push_toArray, List.append_toArray, List.nil_append, List.cons_append]
  gi_wp2
  go_ret
  exact ⟨by simp, rfl⟩

/-- The two boxes stay. -/
def KpB (Bs Bn : Nat) (W W' : World) : Prop := W'.heap[Bs]? = W.heap[Bs]? ∧ W'.heap[Bn]? = W.heap[Bn]?
theorem KpB.c1 {Bs Bn : Nat} {W W' : World} (h : KpB Bs Bn W W') : W'.cell? ⟨Bs, 0, none⟩ = W.cell? ⟨Bs, 0, none⟩ := World.cell?_of_block h.1
theorem KpB.c2 {Bs Bn : Nat} {W W' : World} (h : KpB Bs Bn W W') : W'.cell? ⟨Bn, 0, none⟩ = W.cell? ⟨Bn, 0, none⟩ := World.cell?_of_block h.2
theorem KpB.trans {Bs Bn : Nat} {A B C : World} (h : KpB Bs Bn A B) (k : KpB Bs Bn B C) : KpB Bs Bn A C := ⟨k.1.trans h.1, k.2.trans h.2⟩
theorem KpB.put {Bs Bn : Nat} {w : World} (h1 : Bs < w.heap.size) (h2 : Bn < w.heap.size) (W : World) (l : Nat) (o o' : Obj) (hl : w.heap.size ≤ l) (ho : W.heap[l]? = some o) (_ : o.isCells = false) (_ : o.isWalk = false) : KpB Bs Bn W (W.putObj l o') :=
  ⟨World.putObj_heap_other (by omega), World.putObj_heap_other (by omega)⟩

set_option maxRecDepth 100000 in
set_option maxHeartbeats 2000000 in
theorem chunk1_one (k : Nat) (hk : 1 ≤ k) (Bs Bn : Nat) (A : Option Addr) (n c : Nat) (hn : 0 < n) (hn6 : n ≤ 65536) (hc : n ≤ c) (hm : c ≤ maxLen) (w : World)
    (hBs : Bs < w.heap.size) (hBn : Bn < w.heap.size) (h1 : w.cell? ⟨Bs, 0, none⟩ = some (.slice A n c)) (h2 : w.cell? ⟨Bn, 0, none⟩ = some (.int .i64 65536)) :
    SeqStopsK Fence.wide k Try.prog 59 #[.pointer (some ⟨Bs, 0, none⟩), .pointer (some ⟨Bn, 0, none⟩)] (fun _ : Unit => #[Value.slice A n n]) (KpB Bs Bn) (fun ys => ys = [()]) (fun _ => True) 1 w := fun l J Jx W hW hJ hJx hY h0 => by
  unfold maxLen at hm
  have e1 := (hW.cell (p := ⟨Bs, 0, none⟩) hBs).trans h1
  have e2 := (hW.cell (p := ⟨Bn, 0, none⟩) hBn).trans h2
  refine callsIn_of_wp Try.func59 rfl trivial ?_ rfl
  simp only [Try.ntmps59, List.size_toArray, List.length_cons, List.length_nil, Nat.reduceAdd, Nat.reduceSub, Array.replicate_succ, Array.replicate_zero, List.push_toArray, List.append_toArray, List.nil_append, List.cons_append]
  gi_wp2
  gi_loopw [4] (fun i wr => (i = .int .i64 0 ∧ wr = W) ∨ (i = .int .i64 65536 ∧ J [()] wr ∧ KpB Bs Bn W wr)) (fun i _ => 65536 - (intOf i).toNat)
  case atStart => exact .inl ⟨rfl, rfl⟩
  case round =>
    rcases hrel with ⟨rfl, rfl⟩ | ⟨rfl, hJ1, hk1⟩
    · gi_wp2
      refine wpIn_wide.2 ?_
      go_quiet (fail)
      have h0' : J [] (wr.drewN nq) := hJ [] _ _ none h0 ⟨rfl, rfl, rfl, Nat.le_refl _, fun _ _ _ => rfl⟩ (fun r e => by cases e)
      obtain ⟨fn, tmps, assign, body, hy, hR⟩ := hY [] () (wr.drewN nq) h0' (by simp)
      have e1' : (wr.drewN nq).cell? ⟨Bs, 0, none⟩ = some (.slice A n c) := e1
      have e2' : (wr.drewN nq).cell? ⟨Bn, 0, none⟩ = some (.int .i64 65536) := e2
      obtain ⟨wq, hwq⟩ : ∃ wq, wq = wr.drewN nq := ⟨_, rfl⟩
      rw [← hwq] at hy hR e1' e2' ⊢
      have hbq : KpB Bs Bn wr wq := by rw [hwq]; exact ⟨rfl, rfl⟩
      clear e1 e2 hwq h0' h1 h2
      rw [show (if (n : Int) < 65536 then (n : Int) else 65536) = n from by split <;> omega]
      gi_wp2
      refine hR.mono ?_
      rintro e W3 (⟨rfl, hJ3, hk3⟩ | ⟨rfl, hJx3⟩)
      · have f2 := hk3.c2.trans e2'
        clear e1' e2' hy hR
        gi_wp2
        go_roundw
        case rel => exact .inr ⟨rfl, hJ3, hbq.trans hk3⟩
        case measure => simp [intOf]
      · clear e1' e2' hy hR
        gi_wp2
        refine bodyPost_ret (results_none rfl _ _ _) rfl ?_
        exact ⟨⟨_, rfl⟩, .inr ⟨_, trivial, hJx3⟩⟩
    · have f1 := hk1.c1.trans e1
      clear e1 e2
      gi_wp2
      go_end0
      exact ⟨⟨_, rfl⟩, .inl ⟨_, rfl, hJ1⟩⟩

set_option maxRecDepth 100000 in
set_option maxHeartbeats 2000000 in
theorem chunk1_none (k : Nat) (Bs Bn : Nat) (A : Option Addr) (c : Nat) (w : World)
    (hBs : Bs < w.heap.size) (h1 : w.cell? ⟨Bs, 0, none⟩ = some (.slice A 0 c)) :
    SeqStopsK Fence.wide k Try.prog 59 #[.pointer (some ⟨Bs, 0, none⟩), .pointer (some ⟨Bn, 0, none⟩)] (fun _ : Unit => #[Value.slice A 0 0]) (KpB Bs Bn) (fun ys => ys = []) (fun _ => True) 0 w := fun l J Jx W hW hJ hJx hY h0 => by
  have e1 := (hW.cell (p := ⟨Bs, 0, none⟩) hBs).trans h1
  refine callsIn_of_wp Try.func59 rfl trivial ?_ rfl
  simp only [Try.ntmps59, List.size_toArray, List.length_cons, List.length_nil, Nat.reduceAdd, Nat.reduceSub, Array.replicate_succ, Array.replicate_zero, List.push_toArray, List.append_toArray, List.nil_append, List.cons_append]
  gi_wp2
  gi_loopw [4] (fun i wr => i = .int .i64 0 ∧ wr = W) (fun _ _ => 0)
  case atStart => exact ⟨rfl, rfl⟩
  case round =>
    obtain ⟨rfl, rfl⟩ := hrel
    gi_wp2
    go_end0
    exact ⟨⟨_, rfl⟩, .inl ⟨_, rfl, h0⟩⟩

/-- Adler's two sums over bytes, unreduced. -/
def raw (a b : Int) : List Int → Int × Int
  | [] => (a, b)
  | x :: l => raw (a + x) (b + (a + x)) l
def rawA (a b : Int) (l : List Int) : Int := (raw a b l).1
def rawB (a b : Int) (l : List Int) : Int := (raw a b l).2
theorem raw_snoc (a b : Int) (l : List Int) (x : Int) : raw a b (l ++ [x]) = (rawA a b l + x, rawB a b l + (rawA a b l + x)) := by
  induction l generalizing a b with
  | nil => rfl
  | cons y l ih => exact ih _ _
theorem raw_take (a b : Int) (l : List Int) (k : Nat) (h : k < l.length) : rawA a b (l.take (k + 1)) = rawA a b (l.take k) + l[k] ∧ rawB a b (l.take (k + 1)) = rawB a b (l.take k) + (rawA a b (l.take k) + l[k]) := by
  rw [List.take_succ_eq_append_getElem h]
  unfold rawA rawB
  rw [raw_snoc]
  exact ⟨rfl, rfl⟩
theorem raw_bounds (a b : Int) (l : List Int) (h : okB l = true) (ha : 0 ≤ a) (hb : 0 ≤ b) :
    (0 ≤ rawA a b l ∧ rawA a b l ≤ a + 256 * l.length) ∧ 0 ≤ rawB a b l ∧ rawB a b l ≤ b + l.length * (a + 256 * l.length) := by
  unfold rawA rawB
  induction l generalizing a b with
  | nil => simp [raw]; omega
  | cons x l ih =>
    simp only [okB, List.all_cons, Bool.and_eq_true, decide_eq_true_eq] at h
    have := ih (a + x) (b + (a + x)) h.2 (by omega) (by omega)
    simp only [raw, List.length_cons]
    obtain ⟨⟨h1, h2⟩, h3, h4⟩ := this
    refine ⟨⟨h1, by omega⟩, h3, Int.le_trans h4 ?_⟩
    obtain ⟨n, hn⟩ : ∃ n : Int, n = l.length := ⟨_, rfl⟩
    rw [show ((l.length + 1 : Nat) : Int) = n + 1 from by omega, ← hn]
    have hn0 : 0 ≤ n := by omega
    have e1 : n * (a + x + 256 * n) = n * (a + 256 * n) + n * x := by rw [← Int.mul_add]; congr 1; omega
    have e2 : (n + 1) * (a + 256 * (n + 1)) = n * (a + 256 * n) + 256 * n + (a + 256 * (n + 1)) := by
      rw [Int.add_mul, Int.one_mul, show a + 256 * (n + 1) = (a + 256 * n) + 256 from by omega, Int.mul_add n (a + 256 * n) 256]
      omega
    have e3 : n * x ≤ 256 * n := by rw [Int.mul_comm]; exact Int.mul_le_mul_of_nonneg_right (by omega) hn0
    omega
end Go.Proofs.Ytochbcemobkegaa
