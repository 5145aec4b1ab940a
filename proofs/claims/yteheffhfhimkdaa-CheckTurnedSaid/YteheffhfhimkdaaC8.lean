/- Seals, by the program and by the reference. -/
import Derived.Test.YteheffhfhimkdaaC7
set_option linter.unusedSimpArgs false
set_option linter.unusedVariables false
namespace Go.Proofs.Yteheffhfhimkdaa
open Go.RowKit Go.Shelf
theorem bytesT : Ints Try.prog 22 5 .u8 1 := ⟨Try.underlying22, by kernel_rfl⟩
theorem own_empty (w : World) : Ow .u8 5 w.heap.size (w.alloc (.cells #[] 5)) (.slice (some ⟨w.heap.size, 0, none⟩) 0 0) [] :=
  ⟨rfl, .inr ⟨w.heap.size, 0, _, rfl, Nat.le_refl _, heap_alloc_new w _, Nat.le_refl _, by decide, by decide, rfl⟩⟩
theorem drop_rep (n : Nat) (xs : List Int) (h : xs.length = n) : xs ++ (List.replicate (n : Int).toNat (0 : Int)).drop xs.length = xs := by
  rw [List.drop_eq_nil_of_le (by simp [h])]; simp

theorem Pts.lit (w : World) (ps : List Pt) (hl : ps.length ≤ 1000) (h : ∀ p ∈ ps, Rd .u8 w p.A p.n p.c p.xs ∧ p.n ≤ 65536) :
    Pts (w.alloc (.cells (ps.map fun p => Value.slice p.A p.n p.c).toArray 22)) (some ⟨w.heap.size, 0, none⟩) ps.length ps := by
  refine ⟨rfl, hl, fun i hi => ⟨⟨w.heap.size, 0, rfl, by simp, ?_⟩, (h _ (List.getElem_mem hi)).1.alloc _, (h _ (List.getElem_mem hi)).2⟩⟩
  rw [cell_of_row _ _ _ _ _ _ (heap_alloc_new w _)]
  simp [hi]
theorem Pts.one {w : World} {A : Option Addr} {n c : Nat} {xs : List Int} (h : Rd .u8 w A n c xs) (hn : n ≤ 65536) :
    Pts (w.alloc (.cells #[.slice A n c] 22)) (some ⟨w.heap.size, 0, none⟩) 1 [⟨A, n, c, xs⟩] :=
  Pts.lit w [⟨A, n, c, xs⟩] (by simp) (by simpa using ⟨h, hn⟩)
theorem cat_one (A : Option Addr) (n c : Nat) (xs : List Int) : cat [⟨A, n, c, xs⟩] = xs := by simp [cat]

/-- The sealed bytes. -/
def padL (l : List Int) : List Int := if l.length % 2 = 1 then l ++ [0] else l
def sealL (l : List Int) : List Int := padL l ++ [(65535 - onesV l) / 256, (65535 - onesV l) % 256]
def sealedB (l : List Int) : Bool := decide (2 ≤ l.length ∧ l.length % 2 = 0 ∧ onesV l = 65535)
theorem padL_ev (l : List Int) : evenB (padL l).length = true := by unfold padL evenB; split <;> simp <;> omega
theorem tot_padL (l : List Int) : tot true (padL l) = tot true l := by
  unfold padL; split
  · rw [tot_snoc]; split <;> omega
  · rfl
theorem onesV_padL (l : List Int) : onesV (padL l) = onesV l := by unfold onesV; rw [tot_padL]
theorem tot_sealL (l : List Int) : tot true (sealL l) = tot true l + (65535 - onesV l) := by
  unfold sealL
  rw [tot_app, padL_ev, tot_padL]
  simp [tot]
  omega
theorem onesV_sealL (l : List Int) (h : okB l = true) : onesV (sealL l) = 65535 := by
  have h1 := (tot_bounds true l h).1
  have h2 := tot_sealL l
  unfold onesV at h2 ⊢
  rw [h2]
  unfold f16
  split <;> split <;> omega
theorem sealL_len (l : List Int) : (sealL l).length % 2 = 0 ∧ 2 ≤ (sealL l).length ∧ (sealL l).length ≤ l.length + 3 := by
  unfold sealL padL; split <;> simp <;> omega
theorem sealed_sealL (l : List Int) (h : okB l = true) : sealedB (sealL l) = true := by
  have := sealL_len l
  unfold sealedB; rw [onesV_sealL l h]; simp; omega
theorem sealL_ok (l : List Int) (h : okB l = true) : okB (sealL l) = true := by
  have := f16_bounds (tot true l)
  have h1 : okB (padL l) = true := by
    unfold padL; split
    · exact okB_app h (by decide)
    · exact h
  refine okB_app h1 ?_
  unfold onesV
  simp [okB]
  omega
theorem wf_of_ok {l : List Int} (h : okB l = true) : ∀ x ∈ l, (Lit.int .u8 x).wf = true := by
  intro x hx
  simp only [okB, List.all_eq_true, decide_eq_true_eq] at h
  have := h x hx
  simp [Lit.wf, IntKind.min, IntKind.max, IntKind.signed, IntKind.bits]
  omega

theorem u8_wf_of {l : List Int} (h : okB l = true) : ∀ x ∈ l, (Lit.int .u8 x).wf = true := wf_of_ok h
theorem u8_wf_of' (x y : Int) (h1 : 0 ≤ x) (h2 : x < 256) (h3 : 0 ≤ y) (h4 : y < 256) : ∀ z ∈ [x, y], (Lit.int .u8 z).wf = true := wf_of_ok (by simp [okB]; omega)

set_option maxHeartbeats 1000000 in
theorem sealed_any (A : Option Addr) (n c : Nat) (xs : List Int) (w : World) (h : Rd .u8 w A n c xs) (hn : n ≤ 65536) :
    Calls Try.prog 20 #[.slice A n c] w fun e w' => e = .returned (.bool (sealedB xs)) ∧ Below w.heap.size w w' := by
  have hl := h.1
  have hP := Lib.hid (Pts.one h hn)
  by_cases h2 : 2 ≤ n
  · by_cases h3 : n % 2 = 0
    · have HV : sealedB xs = (onesV xs == 65535) := by unfold sealedB; rw [hl]; simp [h2, h3]; exact Bool.eq_iff_iff.2 (by simp)
      rw [HV]
      have HM : (n : Int) % 2 = 0 := by omega
      clear HV hl
      go_enter Try.func20, Try.ntmps20
      go_wp2_with fail
      refine (ones_any _ 1 1 _ _ hP.out).mono ?_
      rintro e w1 ⟨rfl, rfl⟩
      rw [cat_one]
      go_wp2
      go_ret
      exact ⟨rfl, (Below.refl _ _).alloc (Nat.le_refl _) _⟩
    · have HV : sealedB xs = false := by unfold sealedB; rw [hl]; simp [h3]
      rw [HV]
      have HM : (n : Int) % 2 = 1 := by omega
      clear HV hl
      go_enter Try.func20, Try.ntmps20
      go_wp2
      go_ret
      exact ⟨rfl, (Below.refl _ _)⟩
  · have HV : sealedB xs = false := by unfold sealedB; rw [hl]; simp [h2]
    rw [HV]
    clear HV hl
    go_enter Try.func20, Try.ntmps20
    go_wp2
    go_ret
    exact ⟨rfl, (Below.refl _ _)⟩

set_option maxHeartbeats 1000000 in
theorem rsealed_any (A : Option Addr) (n c : Nat) (xs : List Int) (w : World) (h : Rd .u8 w A n c xs) (hn : n ≤ 65536) :
    Calls Try.prog 21 #[.slice A n c] w fun e w' => e = .returned (.bool (sealedB xs)) ∧ w = w' := by
  have hl := h.1
  by_cases h2 : 2 ≤ n
  · by_cases h3 : n % 2 = 0
    · have HV : sealedB xs = (onesV xs == 65535) := by unfold sealedB; rw [hl]; simp [h2, h3]; exact Bool.eq_iff_iff.2 (by simp)
      rw [HV]
      have HM : (n : Int) % 2 = 0 := by omega
      clear HV hl
      go_enter Try.func21, Try.ntmps21
      go_wp2_with fail
      refine (rones_any _ n c xs _ h (by omega)).mono ?_
      rintro e w1 ⟨rfl, rfl⟩
      go_wp2
      go_ret
      exact ⟨rfl, rfl⟩
    · have HV : sealedB xs = false := by unfold sealedB; rw [hl]; simp [h3]
      rw [HV]
      have HM : (n : Int) % 2 = 1 := by omega
      clear HV hl
      go_enter Try.func21, Try.ntmps21
      go_wp2
      go_ret
      exact ⟨rfl, rfl⟩
  · have HV : sealedB xs = false := by unfold sealedB; rw [hl]; simp [h2]
    rw [HV]
    clear HV hl
    go_enter Try.func21, Try.ntmps21
    go_wp2
    go_ret
    exact ⟨rfl, rfl⟩
end Go.Proofs.Yteheffhfhimkdaa
