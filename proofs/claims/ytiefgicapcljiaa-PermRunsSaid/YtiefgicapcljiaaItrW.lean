/- A loop over a function whose iterator writes an object that was there before: its contract, and the law of such a loop (no round leaves early). -/
import Derived.Test.YtiefgicapcljiaaItr
import Derived.RangeFuncCalls
import Derived.RangeFuncRecord
set_option linter.unusedSimpArgs false
set_option linter.unusedVariables false
namespace Go.Proofs.Ytiefgicapcljiaa
open Go.RowKit Go.Shelf
section
variable {F : Fence} {n : Nat} {P : Program}

/-- Called in any later world at the yield of any loop, with any word J of the caller's that what the iterator does (R) leaves true: it hands on encs 0, encs 1 .. N of them, and returns; then M holds beside J N. Each round goes on, and keeps what Kp says. -/
def GivesW (F : Fence) (n : Nat) (P : Program) (g : Nat) (lb : Array Value) (encs : Nat → Array Value) (Kp R : World → World → Prop) (N : Nat) (M : World → Prop) (w : World) : Prop :=
  ∀ (l : Nat) (J : Nat → World → Prop) (W : World), Below w.heap.size w W → (∀ k A B, J k A → R A B → J k B) →
    (∀ k W1, k < N → J k W1 → YieldAt F (n - 1) P l (encs k) W1 fun e W' => e = .returned (.bool true) ∧ J (k + 1) W' ∧ Kp W1 W') →
    J 0 W → CallsIn F n P g (#[.func (.yield l) #[] #[]] ++ lb) W fun e W' => (∃ v, e = .returned v) ∧ J N W' ∧ M W'

theorem wpIn_gives {g : Operand} {ps : Array Tmp} {assign body : Code} {Q : Exit → Act → World → Prop} {a : Act} {w w0 : World} {gf : Nat} {lb : Array Value} {encs : Nat → Array Value} {Kp R : World → World → Prop} {N : Nat} {M : World → Prop}
    (hro : F.round = none) (h1 : 1 ≤ n) (hg : a.eval g = .func (.func gf) #[] lb) (hFg : F.fn gf) (eg : ∀ args w, (callFunc gf args).run P w = .ok (.enter gf args) w)
    (hseq : GivesW F (n - 1) P gf lb encs Kp R N M w0) (hb0 : Below w0.heap.size w0 w) (hps : ∀ k, (encs k).size = ps.size)
    (hKt : ∀ {A B C : World}, Kp A B → Kp B C → Kp A C) (hKb : ∀ (W : World) (l : Nat) (o : Obj), w.heap.size ≤ l → Kp W (W.putObj l o))
    (hR : ∀ (A B : World) (k : Nat), R A B → w.heap.size ≤ k → k < A.heap.size → B.heap[k]? = A.heap[k]?)
    (hM : ∀ (W : World) (l : Nat) (o : Obj), M W → w.heap.size ≤ l → M (W.putObj l o))
    (I : Nat → World → Prop) (hI : ∀ k A B, I k A → R A B → I k B) (hIp : ∀ k (A : World) (l : Nat) (o : Obj), I k A → w.heap.size ≤ l → l ≤ w.heap.size + 1 → I k (A.putObj l o)) (h0 : ∀ o o', I 0 ((w.alloc o).alloc o'))
    (a₁ : Nat → Act)
    (hassign : ∀ (l k : Nat) (W : World) (K : Act → World → Prop), K (a₁ k) W →
      assign.wpIn (F.inRound l) (n - 1 - 1) P (Exit.then K (fun _ _ _ => False)) { tmps := (ps.zip (encs k)).foldl (fun t (p, v) => t.setIfInBounds p v) a.tmps, defers := [] } W)
    (hbody : ∀ (l k : Nat) (W : World), k < N → w.heap.size + 1 < W.heap.size → I k W →
      body.wpIn (F.inRound l) (n - 1 - 1) P (Exit.then (fun _ W' => (∀ j o, w.heap.size ≤ j → j ≤ w.heap.size + 1 → W.heap[j]? = some o → W'.heap[j]? = some o) ∧ Kp W W' ∧ I (k + 1) W') (fun _ _ _ => False)) (a₁ k) W)
    (hdone : ∀ (D : Nat) (W : World), D = w.heap.size → I N W → M W → W.heap[D]? = some (.deferred (some [])) → Q .normal { a with defers := { target := .collected D, args := #[] } :: a.defers } W) :
    (Code.rangeFunc g ps assign body).wpIn F n P Q a w := by
  refine wpIn_rangeFunc fun fn hfn => ?_
  rw [hro]
  obtain ⟨rc, hrc⟩ : ∃ rc : LoopState → Loop, rc = fun st => { state := st, pending := none, fn := fn, tmps := a.tmps, params := ps, assign := assign, body := body, defers := w.heap.size } := ⟨_, rfl⟩
  have hst : ∀ st, (rc st).state = st := fun st => by rw [hrc]
  have hbusy : ∀ st st', ({ rc st with state := st' } : Loop) = rc st' := fun st st' => by rw [hrc]
  have hpend : ∀ st, (rc st).pending = none := fun st => by rw [hrc]
  obtain ⟨W1, hW1⟩ : ∃ W1, W1 = (w.alloc (.deferred (some []))).alloc (.loop (rc .ready)) := ⟨_, rfl⟩
  have hsz1 : W1.heap.size = w.heap.size + 2 := by rw [hW1]; simp
  have hD1 : W1.heap[w.heap.size]? = some (.deferred (some [])) := by
    rw [hW1]; exact (Below.heap_alloc _ _ _ (by simp)).trans (World.alloc_heap_new w _)
  have hL1 : W1.heap[w.heap.size + 1]? = some (.loop (rc .ready)) := by
    have := World.alloc_heap_new (w.alloc (.deferred (some []))) (.loop (rc .ready))
    rw [hW1]; rwa [World.size_alloc] at this
  have hbW1 : Below w0.heap.size w0 W1 := by
    rw [hW1]; exact hb0.trans ((((Below.refl _ w).alloc (Nat.le_refl _) _).alloc (by simp) _).mono hb0.size)
  refine ⟨w.heap.size + 1, [{ target := .collected w.heap.size, args := #[] }], W1, { target := .fn (.func gf) lb, args := #[.func (.yield (w.heap.size + 1)) #[] #[]] }, W1, gf,
    #[.func (.yield (w.heap.size + 1)) #[] #[]] ++ lb, W1, ?_, ?_, ?_, ?_, fun _ => h1, ?_⟩
  · rw [hW1, hrc]; exact run_enterLoop_outer _ _ _ _ _
  · simp only [resolve, hg]
    simp [go_sem]
  · intro f' hf'
    simp [Target.leads] at hf'
    subst hf'
    exact hFg
  · simp [invoke, go_sem, eg]
  -- the caller's word, and the two blocks of the loop's own
  let J : Nat → World → Prop := fun k W => I k W ∧ W.heap[w.heap.size]? = some (.deferred (some [])) ∧ W.heap[w.heap.size + 1]? = some (.loop (rc .ready))
  have hlt : ∀ {W : World} {j : Nat} {o : Obj}, W.heap[j]? = some o → j < W.heap.size := fun h => (Array.getElem?_eq_some_iff.1 h).1
  refine (hseq (w.heap.size + 1) J W1 hbW1 (fun k A B hJ hAB => ⟨hI k A B hJ.1 hAB, (hR A B _ hAB (Nat.le_refl _) (hlt hJ.2.1)).trans hJ.2.1, (hR A B _ hAB (by omega) (hlt hJ.2.2)).trans hJ.2.2⟩) ?round ⟨by rw [hW1]; exact h0 _ _, hD1, hL1⟩).mono ?_
  case round =>
    rintro k W hk ⟨hi, hd, hl⟩
    have hlW := hlt hl
    have hy := run_yield (P := P) (args := encs k) hl (by rw [hrc]; exact hps k)
    rw [hrc] at hy
    refine ⟨fn, _, assign, body, hy, roundIn_of_wpIn hfn (hassign _ k W _ ⟨_, run_beginRound hl (hst _), ?_⟩)⟩
    rw [hbusy]
    have hl2 : (W.putObj (w.heap.size + 1) (.loop (rc .busy))).heap[w.heap.size + 1]? = some (.loop (rc .busy)) := World.putObj_heap_same hlW
    have hd2 : (W.putObj (w.heap.size + 1) (.loop (rc .busy))).heap[w.heap.size]? = some (.deferred (some [])) := (World.putObj_heap_other (by omega)).trans hd
    refine wpIn_mono (hbody _ k _ hk (by simpa using hlW) (hIp k W _ _ hi (by omega) (Nat.le_refl _))) ?_
    intro e a3 W3 hp
    cases e with
    | normal =>
      obtain ⟨hkeep, hkp, hi3⟩ := hp
      have hl3 := hkeep _ _ (by omega) (Nat.le_refl _) hl2
      have hd3 := hkeep _ _ (Nat.le_refl _) (by omega) hd2
      have hr := run_endRound (P := P) none hl3
      refine ⟨_, _, hr, rfl, ⟨hIp _ _ _ _ hi3 (by omega) (Nat.le_refl _), (World.putObj_heap_other (by omega)).trans hd3, ?_⟩, hKt (hKt (hKb W _ _ (by omega)) hkp) (hKb _ _ _ (by omega))⟩
      rw [World.putObj_heap_same (hlt hl3)]
      rw [hrc]
      rfl
    | _ => exact hp.elim
  · rintro e W2 ⟨⟨v, rfl⟩, ⟨hi, hd, hl⟩, hm⟩
    have hend := run_endLoop (P := P) hl (by rw [hst]; simp)
    rw [hpend] at hend
    exact ⟨none, _, hend, hdone _ _ rfl (hIp _ _ _ _ hi (by omega) (Nat.le_refl _)) (hM _ _ _ hm (by omega)) ((World.putObj_heap_other (by omega)).trans hd)⟩
end
end Go.Proofs.Ytiefgicapcljiaa
