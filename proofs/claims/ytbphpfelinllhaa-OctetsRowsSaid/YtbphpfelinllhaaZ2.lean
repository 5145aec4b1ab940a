/- The iterator over numbers. -/
import Derived.Test.YtbphpfelinllhaaZ1
import Derived.RangeFuncNested
import Derived.RangeFuncBound
import Derived.RangeFuncCalls
import Derived.RangeFuncLeaves
import Derived.Shelf.Abstract
import Derived.Shelf.RegionOpen
import Derived.OwnWalkIn
import Derived.TacticsInMore
import Derived.LoopNIn
import Derived.LoopIn
import Derived.BigQuiet
import Derived.Deep.QuietTactic
set_option linter.unusedSimpArgs false
set_option linter.unusedVariables false
namespace Go.Proofs.Ytbphpfelinllhaa
open Go.RowKit Go.Shelf
attribute [local go_sem] Oper.semAt_some

theorem Ints.run_cut2 {P : Program} {t e : TypeId} {k : IntKind} {bytes : Nat} (S : Ints P t e k bytes) (A : Option Addr) (n c s m : Nat) (hs : s + m ≤ n) (hn : n ≤ c) (w : World) :
    (Instr.slice t (.slice A n c) (some (.int .i64 s)) (some (.int .i64 (s + m))) none).run P w = .ok (.slice (cutA A c s) m (c - s)) w := by
  obtain ⟨i, hi, hz, hsz, hby⟩ := info_parts S.hi
  have h1 := run_sliceBound (P := P) (w := w) .i64 (s + m) c .sliceAcap (by omega) (by omega)
  have h2 := run_sliceBound (P := P) (w := w) .i64 s (s + m) .sliceB (by omega) (by omega)
  have e1 : ((s : Int) + m).toNat = s + m := by omega
  simp [Instr.slice, run_underlying S.ht, Instr.sliceBounds, h1, h2, sizeOf, typeInfo, hi, hsz, cutA, e1]

/-- The blocks of S stay. -/
def KpS (S : Nat → Prop) (W W' : World) : Prop := (∀ k, S k → W'.heap[k]? = W.heap[k]?)
theorem KpS.refl (S : Nat → Prop) (W : World) : KpS S W W := fun _ _ => rfl
theorem KpS.trans {S : Nat → Prop} {A B C : World} (h : KpS S A B) (k : KpS S B C) : KpS S A C := fun i hi => (k i hi).trans (h i hi)
theorem KpS.put {S : Nat → Prop} {w : World} (hS : ∀ k, S k → k < w.heap.size) (W : World) (l : Nat) (o o' : Obj) (hl : w.heap.size ≤ l) (ho : W.heap[l]? = some o) (_ : o.isCells = false) (_ : o.isWalk = false) : KpS S W (W.putObj l o') :=
  fun k hk => World.putObj_heap_other (by have := hS k hk; omega)
theorem KpS.cell {S : Nat → Prop} {W W' : World} (h : KpS S W W') {g o : Nat} (hg : S g) : W'.cell? ⟨g, o, none⟩ = W.cell? ⟨g, o, none⟩ := World.cell?_of_block (h g hg)
theorem Rd.kps {S : Nat → Prop} {k : IntKind} {w w' : World} {A : Option Addr} {n c : Nat} {xs : List Int} (h : Rd k w A n c xs) (hA : 0 < n → ∀ ad, A = some ad → S ad.block) (hk : KpS S w w') : Rd k w' A n c xs := by
  obtain ⟨a1, a2, a3, a4, a5, a6⟩ := h
  refine ⟨a1, a2, a3, a4, a5, fun hn => ?_⟩
  obtain ⟨g, o, e, hg, hx⟩ := a6 hn
  have hs : S g := hA hn _ e
  refine ⟨g, o, e, ?_, fun i hi => (hk.cell hs).trans (hx i hi)⟩
  have h1 := hk g hs
  rw [Array.getElem?_eq_getElem hg] at h1
  exact (Array.getElem?_eq_some_iff.1 h1).1

set_option maxRecDepth 100000 in
set_option maxHeartbeats 2000000 in
theorem rows1_stops (fu : Nat) (hfu : 1 ≤ fu) (S : Nat → Prop) (Bs Bb : Nat) (A : Option Addr) (n c z : Nat) (xs : List Int) (w : World) (h : Rd .u8 w A n c xs) (hz1 : 1 ≤ z) (hz8 : z ≤ 8) (hn : n ≤ 100000)
    (hBs : S Bs) (hBb : S Bb) (hA : 0 < n → ∀ ad, A = some ad → S ad.block) (hS : ∀ k, S k → k < w.heap.size)
    (h1 : w.cell? ⟨Bs, 0, none⟩ = some (.int .i64 z)) (h2 : w.cell? ⟨Bb, 0, none⟩ = some (.slice A n c)) :
    SeqStopsK Fence.wide fu Try.prog 29 #[.pointer (some ⟨Bs, 0, none⟩), .pointer (some ⟨Bb, 0, none⟩)] (fun x : Int => #[Value.int .u64 x]) (KpS S)
      (fun ys => ys = upto xs z (n / z)) (fun pre => ∃ k, k ≤ n / z ∧ pre = upto xs z k) (n / z) w := fun l J Jx W hW hJ hJx hY h0 => by
  have hKW : KpS S w W := fun k hk => hW.block k (hS k hk)
  have hr := h.kps hA hKW
  have e1 := (hKW.cell hBs).trans h1
  have e2 := (hKW.cell hBb).trans h2
  have HL := Lib.hid h.1
  have hnc := h.2.1
  have hcm := h.2.2.1
  unfold maxLen at hcm
  have hsz := Lib.hid (show sizeB z = true by unfold sizeB; simp; omega)
  have HCut := Lib.hid (fun (f : Nat) (hf : f + z ≤ n) (W : World) => bytesT.run_cut2 A n c f z hf hnc W)
  obtain ⟨q, hq⟩ : ∃ q, q = n / z := ⟨_, rfl⟩
  have hqz : q * z ≤ n := by rw [hq]; exact Nat.div_mul_le_self _ _
  have hqn : q ≤ n := by rw [hq]; exact Nat.div_le_self _ _
  have hqs : n < (q + 1) * z := by rw [hq]; have := Nat.lt_div_mul_add (a := n) (b := z) (by omega); rw [Nat.add_mul]; omega
  rw [← hq] at hY ⊢
  clear hq h h1 h2 hW
  refine callsIn_of_wp Try.func29 rfl trivial ?_ rfl
  simp only [Try.ntmps29, List.size_toArray, List.length_cons, List.length_nil, Nat.reduceAdd, Nat.reduceSub, Array.replicate_succ, Array.replicate_zero, List.push_toArray, List.append_toArray, List.nil_append, List.cons_append]
  gi_wp2
  refine ⟨trivial, (callsIn_wide.2 (isSize_any _ _)).mono ?_⟩
  rintro e w' ⟨rfl, rfl⟩
  rw [hsz.out]
  gi_wp2
  gi_loopw [4] (fun i wr => ∃ k f : Nat, k ≤ q ∧ Hid (f = k * z) ∧ i = .int .i64 f ∧ J (upto xs z k) wr ∧ KpS S W wr) (fun i _ => n + 1 - (intOf i).toNat)
  case atStart => exact ⟨0, 0, Nat.zero_le _, Lib.hid (by simp), rfl, h0, KpS.refl _ _⟩
  case round =>
    obtain ⟨k, f, hk, hf, rfl, hJk, hkw⟩ := hrel
    have f1 := (hkw.cell hBs).trans e1
    have f2 := (hkw.cell hBb).trans e2
    have hf' := hf.out
    by_cases hlt : k < q
    · have hmz : (k + 1) * z ≤ n := Nat.le_trans (Nat.mul_le_mul_right z hlt) hqz
      rw [Nat.add_mul] at hmz
      have hfz : f + z ≤ n := by omega
      have hcond : (z : Int) ≤ n - f := by omega
      have hcut := HCut.out f hfz
      have hrk := hr.kps hA hkw
      obtain ⟨fn, tmps, assign, body, hy, hR⟩ := hY _ (nth xs z k) wr hJk (by rw [upto_length]; exact hlt)
      have HN := Lib.hid (show num ((xs.drop f).take z) = nth xs z k by unfold nth; rw [hf'])
      clear hf' hmz e1 e2
      gi_wp2
      refine ⟨trivial, (callsIn_wide.2 (number_any _ z _ ((xs.drop f).take z) _ (by exact (hrk.cut (by omega)).pre (by omega)))).mono ?_⟩
      rintro e w' ⟨rfl, rfl⟩
      rw [HN.out]
      clear hcut
      gi_wp2
      refine hR.mono ?_
      rintro e W3 (⟨rfl, hJ3, hk3⟩ | ⟨rfl, hJx3⟩)
      · have hkw3 := hkw.trans hk3
        have g1 := (hk3.cell hBs).trans f1
        clear f1 f2 hy hR
        gi_wp2
        go_roundw
        case rel => exact ⟨k + 1, f + z, by omega, Lib.hid (by rw [hf.out, Nat.add_mul]; omega), by go_num, by rw [upto_succ]; exact hJ3, hkw3⟩
        case measure => simp [intOf]; omega
      · clear f1 f2 hy hR
        gi_wp2
        refine bodyPost_ret (results_none rfl _ _ _) rfl ?_
        exact ⟨⟨_, rfl⟩, .inr ⟨_, ⟨k + 1, by omega, (upto_succ _ _ _).symm⟩, hJx3⟩⟩
    · obtain rfl : k = q := by omega
      have hfn : f ≤ n := by rw [hf']; exact hqz
      have hcond : (n : Int) - f < z := by rw [Nat.add_mul] at hqs; omega
      clear hf' hqs hqz e1 e2
      gi_wp2
      go_end0
      exact ⟨⟨_, rfl⟩, .inl ⟨_, rfl, hJk⟩⟩
end Go.Proofs.Ytbphpfelinllhaa
