/- What the calls make of the values; what may be stays so. -/
import Derived.Test.YtmmjhijgedboiaaE9
set_option linter.unusedSimpArgs false
set_option linter.unusedVariables false
set_option maxRecDepth 100000
namespace Go.Proofs.Ytmmjhijgedboiaa
open Go.RowKit Go.Shelf
def Rm.cnt (m : Rm) : Rm := { m with ar := m.ar + 1, pd := m.pd + 1 }
def Rm.hs (m : Rm) (p : Pk) : Bool := m.bm.has p.h.sq
def Rm.inw (m : Rm) (p : Pk) : Bool := decide (p.h.sq < ((m.base + m.size : Nat) : Int))
def Rm.take (m : Rm) (p : Pk) : Rm :=
  if p.tkn = false then m else if (m.dn || m.hs p) = true then m else if m.inw p = false then m else if hasB p.h.fl 8 = true then m.cnt else (m.cnt.kept p).adv
def Rm.ans (m : Rm) (p : Pk) : List Pk :=
  if p.tkn = false then [] else if (m.dn || m.hs p) = true then [(ansV m 2 p).pk] else if m.inw p = false then [] else if hasB p.h.fl 8 = true then [(ansV m 3 p).pk] else [(ansV m 2 p).pk]
def Rm.told (m : Rm) (p : Pk) : List (List Int) :=
  if p.tkn = false then [] else if (m.dn || m.hs p) = true then [] else if m.inw p = false then [] else if hasB p.h.fl 8 = true then [] else (m.cnt.kept p).av.out
section
variable {m : Rm} {p : Pk}
theorem Pk.tkn_sq (h : p.tkn = true) : 0 ≤ p.h.sq ∧ p.h.sq ≤ 1152921504606846976 := by
  unfold Pk.tkn witB at h
  simp only [Bool.and_eq_true, decide_eq_true_eq] at h
  exact h.2
theorem Rm.hs_no (h : m.hs p = false) (ht : p.tkn = true) : ∃ n : Nat, p.h.sq = n ∧ m.base ≤ n ∧ n ≤ 1152921504606846976 ∧ ∀ q ∈ m.ks, q.h.sq ≠ n := by
  obtain ⟨h0, h1⟩ := Pk.tkn_sq ht
  obtain ⟨n, hn⟩ := Int.eq_ofNat_of_zero_le h0
  unfold Rm.hs Bm.has at h
  rw [hn, decide_eq_true (show (0 : Int) ≤ ((n : Nat) : Int) by omega)] at h
  simp only [Bool.true_and, Bool.or_eq_false_iff, decide_eq_false_iff_not, Int.toNat_natCast] at h
  refine ⟨n, hn, ?_, by omega, fun q hq hqn => ?_⟩
  · have := h.1
    have e1 : m.bm.base = m.base := rfl
    rw [e1] at this
    omega
  · have := hasK_iff.2 ⟨q, hq, hqn⟩
    rw [show m.bm.s n = hasK m.ks n from rfl, this] at h
    exact absurd h.2 (by decide)
theorem Rm.Ok.cnt (h : m.Ok) (hc : m.ar < 1000000000) : m.cnt.Ok :=
  ⟨h.bo, h.ri, h.po, h.n0, h.t0, h.p0, h.lm, h.pa1, by have := h.ct; show m.ar + 1 ≤ _ ∧ m.pl + (m.pd + 1) ≤ m.ar + 1; omega, h.dk, h.sh⟩
theorem Rm.Ok.kept (h : m.Ok) {n : Nat} (hn : p.h.sq = n) (h1 : m.base ≤ n) (h2 : n < m.base + m.size) (h3 : n ≤ 1152921504606846976) (h4 : ∀ q ∈ m.ks, q.h.sq ≠ n) (hd : m.dn = false) (hl : m.base + m.ks.length < 1000000) (hxs : p.xs.length ≤ 1100) : (m.kept p).Ok := by
  refine ⟨?_, h.ri.ins (fun q hq => by rw [hn]; exact h4 q hq), fun q hq => ?_, h.n0, h.t0, h.p0, ?_, h.pa1, h.ct, (fun hd' => by rw [show (m.kept p).dn = m.dn from rfl, hd] at hd'; cases hd'), ?_⟩
  · rw [← Rm.set_kept hn h1 h2 h3 h4]
    exact h.bo.set _
  · rcases mem_insK.1 hq with rfl | hq
    · omega
    · exact h.po q hq
  · show m.base + (insK p m.ks).length ≤ 1000000
    rw [insK_len]; omega
  · intro q hq
    rcases mem_insK.1 hq with rfl | hq
    · exact hxs
    · exact h.sh q hq
theorem avL_ok : ∀ (ks : List Pk) (b : Nat) (j : Jm) (out : List (List Int)), Rise ks → (∀ p ∈ ks, (b : Int) ≤ p.h.sq) → (0 ≤ j.N ∧ j.N ≤ b) → (0 ≤ j.T ∧ j.T ≤ b * 65536) → j.ps.length ≤ b →
    b ≤ (avL b j out ks).b ∧ (avL b j out ks).b + (avL b j out ks).ks.length ≤ b + ks.length ∧ (∀ p ∈ (avL b j out ks).ks, p ∈ ks ∧ ((avL b j out ks).b : Int) < p.h.sq) ∧ Rise (avL b j out ks).ks ∧
      (0 ≤ (avL b j out ks).j.N ∧ (avL b j out ks).j.N ≤ (avL b j out ks).b) ∧ (0 ≤ (avL b j out ks).j.T ∧ (avL b j out ks).j.T ≤ (avL b j out ks).b * 65536) ∧ (avL b j out ks).j.ps.length ≤ (avL b j out ks).b ∧ ((avL b j out ks).fin = true → (avL b j out ks).ks = [])
  | [], b, j, out, hr, hp, hn, ht, hl => by
    rw [avL_nil]
    exact ⟨Nat.le_refl _, Nat.le_refl _, by simp, hr, hn, ht, hl, fun h => rfl⟩
  | p :: t, b, j, out, hr, hp, hn, ht, hl => by
    have hr' := List.pairwise_cons.1 hr
    by_cases hq : p.h.sq = b
    · cases hf : hasB p.h.fl 4 with
      | true =>
        rw [avL_fin hq hf]
        refine ⟨by show b ≤ b + 1; omega, by show b + 1 + 0 ≤ b + (t.length + 1); omega, by simp, List.Pairwise.nil, ?_, ?_, ?_, fun _ => rfl⟩
        · show 0 ≤ j.N ∧ j.N ≤ ((b + 1 : Nat) : Int); omega
        · show 0 ≤ j.T ∧ j.T ≤ ((b + 1 : Nat) : Int) * 65536; omega
        · show j.ps.length ≤ b + 1; omega
      | false =>
        rw [avL_on hq hf]
        have hN := Jm.add_N j p.xs (hasB p.h.fl 2) b hn
        have hT := Jm.add_T j p.xs (hasB p.h.fl 2) b ht
        have hP : (j.add p.xs (hasB p.h.fl 2)).ps.length ≤ b + 1 := by
          unfold Jm.add Jm.plus
          split
          · split
            · simp
            · simp; omega
          · omega
        obtain ⟨i1, i2, i3, i4, i5, i6, i7, i8⟩ := avL_ok t (b + 1) (j.add p.xs (hasB p.h.fl 2)) (j.outs out p.xs (hasB p.h.fl 2)) hr'.2 (fun q hq' => by have := hr'.1 q hq'; omega) hN hT hP
        exact ⟨by omega, by rw [List.length_cons]; omega, fun q hq' => ⟨List.mem_cons_of_mem _ (i3 q hq').1, (i3 q hq').2⟩, i4, i5, i6, i7, i8⟩
    · rw [avL_stop hq]
      refine ⟨Nat.le_refl _, Nat.le_refl _, fun q hq' => ⟨hq', ?_⟩, hr, hn, ht, hl, fun h => by cases h⟩
      have hpb := hp p (by simp)
      show (b : Int) < q.h.sq
      rcases List.mem_cons.1 hq' with rfl | hq'
      · omega
      · have := hr'.1 q hq'; omega
theorem Rm.Ok.adv (h : m.Ok) (hd : m.dn = false) : m.adv.Ok ∧ m.adv.base + m.adv.ks.length ≤ m.base + m.ks.length ∧ (∀ q ∈ m.adv.ks, (m.adv.base : Int) < q.h.sq) := by
  obtain ⟨i1, i2, i3, i4, i5, i6, i7, i8⟩ := avL_ok m.ks m.base m.jm [] h.ri (fun q hq => (h.win q hq).1) h.n0 h.t0 h.p0
  have hlm := h.lm
  refine ⟨⟨⟨h.bo.s1, h.bo.s2, ?_, fun n hn => ?_⟩, i4, fun q hq => h.po q (i3 q hq).1, i5, i6, i7, ?_, h.pa1, ?_, fun hd' => ?_, fun q hq => h.sh q (i3 q hq).1⟩, i2, fun q hq => (i3 q hq).2⟩
  · show m.av.b ≤ _
    have : m.av.b ≤ m.base + m.ks.length := by have : m.av.b + m.av.ks.length ≤ _ := i2; omega
    omega
  · obtain ⟨q, hq, hqn⟩ := hasK_iff.1 hn
    obtain ⟨hq1, hq2⟩ := i3 q hq
    obtain ⟨w1, w2, w3⟩ := h.win q hq1
    have : m.base ≤ m.av.b := i1
    have hq3 : (m.av.b : Int) < q.h.sq := hq2
    show m.av.b ≤ n ∧ n < m.av.b + m.size ∧ n ≤ _
    omega
  · show m.av.b + m.av.ks.length ≤ _
    have : m.av.b + m.av.ks.length ≤ _ := i2
    omega
  · have := h.ct
    show m.ar ≤ _ ∧ m.pl + (if m.av.fin = true then 0 else m.pd) ≤ m.ar
    split <;> omega
  · have : (m.av.fin || m.dn) = true := hd'
    rw [hd, Bool.or_false] at this
    exact i8 this
theorem Rm.Ok.pull (h : m.Ok) (hp : 0 < m.pd) : m.pull.Ok :=
  ⟨h.bo, h.ri, h.po, h.n0, h.t0, h.p0, h.lm, h.pa1, by have := h.ct; show m.ar ≤ _ ∧ m.pl + 1 + (m.pd - 1) ≤ m.ar; omega, h.dk, h.sh⟩
/-- What the laws ask beside: fewer than Window are kept. -/
structure Rm.Fit (m : Rm) (c : Nat) : Prop where
  ok : m.Ok
  lc : m.base + m.ks.length ≤ c
  ac : m.ar ≤ c
  lack : ∀ q ∈ m.ks, (m.base : Int) < q.h.sq
theorem Rm.Fit.take {c : Nat} (h : m.Fit c) (hc : c < 1000000) (p : Pk) (hxs : p.xs.length ≤ 1100) : (m.take p).Fit (c + 1) := by
  have up : m.Fit (c + 1) := ⟨h.ok, by have := h.lc; omega, by have := h.ac; omega, h.lack⟩
  have hl := h.lc
  have ha := h.ac
  unfold Rm.take
  split
  · exact up
  · rename_i ht
    split
    · exact up
    · rename_i hdh
      split
      · exact up
      · rename_i hi
        split
        · exact ⟨h.ok.cnt (by omega), by show m.base + m.ks.length ≤ c + 1; omega, by show m.ar + 1 ≤ c + 1; omega, h.lack⟩
        · have ht' : p.tkn = true := by cases hh : p.tkn <;> simp_all
          have hd' : m.dn = false ∧ m.hs p = false := by cases h1 : m.dn <;> cases h2 : m.hs p <;> simp_all
          obtain ⟨n, hn, h1, h3, h4⟩ := Rm.hs_no hd'.2 ht'
          have h2 : n < m.base + m.size := by
            have : m.inw p = true := by cases hh : m.inw p <;> simp_all
            unfold Rm.inw at this
            rw [decide_eq_true_eq] at this
            omega
          have hk := (h.ok.cnt (by omega)).kept hn h1 h2 h3 h4 hd'.1 (by show m.base + m.ks.length < _; omega) hxs
          obtain ⟨k1, k2, k3⟩ := hk.adv hd'.1
          refine ⟨k1, ?_, by show m.ar + 1 ≤ c + 1; omega, k3⟩
          have : (m.cnt.kept p).base + (m.cnt.kept p).ks.length = m.base + (m.ks.length + 1) := by
            show m.base + (insK p m.ks).length = _
            rw [insK_len]
          omega
theorem Rm.Fit.pull {c : Nat} (h : m.Fit c) (hp : 0 < m.pd) : m.pull.Fit c := ⟨h.ok.pull hp, h.lc, h.ac, h.lack⟩
theorem Rm.Fit.mono {c c' : Nat} (h : m.Fit c) (hc : c ≤ c') : m.Fit c' := ⟨h.ok, by have := h.lc; omega, by have := h.ac; omega, h.lack⟩
end
end Go.Proofs.Ytmmjhijgedboiaa
