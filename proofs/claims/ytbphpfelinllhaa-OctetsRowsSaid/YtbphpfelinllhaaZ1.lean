/- Numbers, one behind the other: by the reference. -/
import Derived.Test.YtbphpfelinllhaaX7
import Derived.Test.YtbphpfelinllhaaY1
import Derived.Deep.LoopGhost
import Derived.Deep.DeepCutAuto
set_option linter.unusedSimpArgs false
set_option linter.unusedVariables false
namespace Go.Proofs.Ytbphpfelinllhaa
open Go.RowKit
theorem Rd.via {k : IntKind} {w w1 w2 : World} {A : Option Addr} {n c : Nat} {xs : List Int} (h : Rd k w1 A n c xs) (hA : 0 < n → ∀ ad, A = some ad → ad.block < w.heap.size) (h1 : Below w.heap.size w w1) (h2 : Below w.heap.size w w2) : Rd k w2 A n c xs := by
  obtain ⟨a1, a2, a3, a4, a5, a6⟩ := h
  refine ⟨a1, a2, a3, a4, a5, fun hn => ?_⟩
  obtain ⟨g, o, e, hg, hx⟩ := a6 hn
  have hl : g < w.heap.size := hA hn _ e
  exact ⟨g, o, e, by have := h2.size; omega, fun i hi => ((h2.cell (p := ⟨g, o + i, none⟩) hl).trans (h1.cell (p := ⟨g, o + i, none⟩) hl).symm).trans (hx i hi)⟩
theorem u64T : Ints Try.prog 31 23 .u64 8 := ⟨Try.underlying31, by kernel_rfl⟩
/-- Number i of size s. -/
def nth (xs : List Int) (s i : Nat) : Int := num ((xs.drop (i * s)).take s)
/-- The first k numbers. -/
def upto (xs : List Int) (s k : Nat) : List Int := (List.range k).map (nth xs s)
/-- All numbers. -/
def rowsL (xs : List Int) (s : Int) : List Int := if sizeB s then upto xs s.toNat (xs.length / s.toNat) else []
theorem upto_succ (xs : List Int) (s k : Nat) : upto xs s (k + 1) = upto xs s k ++ [nth xs s k] := by simp [upto, List.range_succ]
theorem upto_length (xs : List Int) (s k : Nat) : (upto xs s k).length = k := by simp [upto]
theorem nth_bounds (xs : List Int) (s i : Nat) : 0 ≤ nth xs s i ∧ nth xs s i < 18446744073709551616 := num_bounds _
theorem u64_wf {x : Int} (h : 0 ≤ x ∧ x < 18446744073709551616) : (Lit.int .u64 x).wf = true := by
  simp [Lit.wf, IntKind.min, IntKind.max, IntKind.signed, IntKind.bits]; omega
theorem upto_wf (xs : List Int) (s k : Nat) : ∀ x ∈ upto xs s k, (Lit.int .u64 x).wf = true := by
  intro x hx
  simp only [upto, List.mem_map] at hx
  obtain ⟨i, _, rfl⟩ := hx
  exact u64_wf (nth_bounds _ _ _)
theorem rowsL_wf (xs : List Int) (s : Int) : ∀ x ∈ rowsL xs s, (Lit.int .u64 x).wf = true := by
  unfold rowsL; split
  · exact upto_wf _ _ _
  · simp
theorem rowsL_len (xs : List Int) (s : Int) : (rowsL xs s).length ≤ xs.length := by
  unfold rowsL; split
  · rw [upto_length]; exact Nat.div_le_self _ _
  · simp
theorem upto_take (xs : List Int) (s k m : Nat) (h : k ≤ m) : (upto xs s m).take k = upto xs s k := by
  unfold upto
  rw [← List.map_take, List.take_range, Nat.min_eq_left h]

set_option maxHeartbeats 2000000 in
theorem rrows_any (A : Option Addr) (n c : Nat) (xs : List Int) (s : Int) (w : World) (h : Rd .u8 w A n c xs) (hn : n ≤ 100000) (hA : 0 < n → ∀ ad, A = some ad → ad.block < w.heap.size) :
    Calls Try.prog 12 #[.slice A n c, .int .i64 s] w fun e w' => ∃ v, e = .returned v ∧ Own .u64 23 w.heap.size w' v (rowsL xs s) ∧ Below w.heap.size w w' := by
  by_cases hs : sizeB s = true
  · obtain ⟨z, rfl, hz1, hz8⟩ := sizeB_nat hs
    have HV := Lib.hid (show rowsL xs z = upto xs z (n / z) by unfold rowsL; rw [if_pos hs, h.1]; rfl)
    have hl := h.1
    have HS := Lib.hid hs
    have HL := Lib.hid hl
    obtain ⟨q, hq⟩ : ∃ q, q = n / z := ⟨_, rfl⟩
    have HQ := Lib.hid hq
    have hqz : q * z ≤ n := by rw [hq]; exact Nat.div_mul_le_self _ _
    have hqn : q ≤ n := by rw [hq]; exact Nat.div_le_self _ _
    have hqs : n < (q + 1) * z := by rw [hq]; have := Nat.lt_div_mul_add (a := n) (b := z) (by omega); rw [Nat.add_mul]; omega
    clear hq hs hl
    go_enter Try.func12, Try.ntmps12
    go_wp2_with fail
    go_loopg [0, 5] (q + 1) (fun gk tb tl wr => ∃ (k : Nat) (B : Option Addr) (m d : Nat), gk = q + 1 - k ∧ k ≤ q ∧ tb = .slice B m d ∧ Rd .u8 wr B m d (xs.drop (k * z)) ∧ (0 < m → ∀ ad, B = some ad → ad.block < w.heap.size) ∧ Own .u64 23 w.heap.size wr tl (upto xs z k) ∧ Below w.heap.size w wr)
    case atStart => exact ⟨0, A, n, c, rfl, Nat.zero_le _, rfl, by simpa using h, hA, ⟨rfl, .inl ⟨rfl, rfl⟩⟩, Below.refl _ _⟩
    case round =>
      obtain ⟨k, B, m, d, rfl, hk, rfl, hr, hB, hown, hb⟩ := hrel
      have hm : m = n - k * z := by rw [← hr.1, List.length_drop, HL.out]
      by_cases hlt : k < q
      · have hmz : (k + 1) * z ≤ n := Nat.le_trans (Nat.mul_le_mul_right z hlt) hqz
        rw [Nat.add_mul] at hmz
        have hge : (z : Int) ≤ m := by omega
        have hG : getB (xs.drop (k * z)) z = true := by
          unfold getB; rw [HS.out, hr.1]; simp; omega
        have HN := Lib.hid (show getN (xs.drop (k * z)) z = nth xs z k by unfold getN; rw [if_pos hG]; rfl)
        have HR := Lib.hid (show getR (xs.drop (k * z)) z = xs.drop ((k + 1) * z) by unfold getR; rw [if_pos hG, List.drop_drop, Nat.add_mul]; simp)
        have HGG := Lib.hid hG
        have HM := Lib.hid hm
        have hkn : k ≤ 100000 := by omega
        clear hm hG hmz
        go_wp2_with fail
        refine (size_any _ _).mono ?_
        rintro e w' ⟨rfl, rfl⟩
        rw [HS.out]
        go_wp2_with fail
        refine (rget_any B m d _ z _ (by exact hr)).mono ?_
        rintro e w2 ⟨B2, m2, d2, rfl, hr2, hb2, hf2⟩
        have HF := Lib.hid hf2
        clear hf2
        rw [HN.out, HGG.out]
        rw [HR.out] at hr2
        have hb3 := hb.trans (hb2.mono hb.size)
        have hown2 := hown.keep hb2 (Nat.le_refl _)
        have HL8 := Lib.hid (show ((upto xs z k).length + 1) * 8 ≤ 140737488355328 by rw [upto_length]; omega)
        go_wp2_with (at_builtin
                     refine wpList_append_ints u64T rfl (.tmp 24) (.tmp 26) rfl rfl (w0 := w) (hown2.alloc _) rfl (Rd.one w2 23 (nth xs z k) (u64_wf (nth_bounds _ _ _))) HL8.out (by omega) (hb3.alloc hb3.size _) ?_
                     intro v3 w3 hown3 hb4
                     rw [← upto_succ] at hown3)
        have hr3 : Rd .u8 w3 B2 m2 d2 (xs.drop ((k + 1) * z)) := hr2.via (HF.out.lt hB) hb3 hb4
        go_roundg (q + 1 - (k + 1))
        case measure => omega
        case rel => exact ⟨k + 1, B2, m2, d2, rfl, by omega, rfl, hr3, HF.out.lt hB, hown3, hb4⟩
      · obtain rfl : k = q := by omega
        have hlt2 : (m : Int) < z := by rw [Nat.add_mul] at hqs; omega
        clear hm hqs hqz
        go_wp2_with fail
        refine (size_any _ _).mono ?_
        rintro e w' ⟨rfl, rfl⟩
        rw [HS.out]
        go_wp2
        go_ret
        exact ⟨_, rfl, by rw [HV.out, ← HQ.out]; exact hown, hb⟩
  · have hs2 : sizeB s = false := by simpa using hs
    have HV := Lib.hid (show rowsL xs s = [] by unfold rowsL; rw [if_neg hs])
    have HS := Lib.hid hs2
    clear hs hs2
    go_enter Try.func12, Try.ntmps12
    go_wp2_with fail
    go_loopg [0, 5] 1 (fun gk tb tl wr => gk = 1 ∧ tb = .slice A n c ∧ tl = .slice none 0 0 ∧ wr = w)
    case atStart => exact ⟨rfl, rfl, rfl, rfl⟩
    case round =>
      obtain ⟨rfl, rfl, rfl, rfl⟩ := hrel
      go_wp2_with fail
      refine (size_any _ _).mono ?_
      rintro e w' ⟨rfl, rfl⟩
      rw [HS.out]
      go_wp2
      go_ret
      exact ⟨_, rfl, by rw [HV.out]; exact ⟨rfl, .inl ⟨rfl, rfl⟩⟩, Below.refl _ _⟩
end Go.Proofs.Ytbphpfelinllhaa
