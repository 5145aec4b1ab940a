/- No more than was owed is told: what holds of the two keys. -/
import Derived.Test.YtdldocbfnjbhmaaK21
set_option linter.unusedSimpArgs false
set_option linter.unusedVariables false
set_option maxRecDepth 100000
namespace Go.Proofs.Ytdldocbfnjbhmaa
open Go.RowKit Go.Shelf
def nA : Ky := ⟨2, 3⟩
def nB : Ky := ⟨4, 1⟩
structure NM (m : Pm) (a b : Int) : Prop where
  ok : m.Ok
  ex : ∃ x y : Kn, m.L = [x, y] ∧ x.k = nA ∧ y.k = nB ∧ x.i + x.p = a ∧ y.i + y.p = b ∧ x.i + y.i = m.total
section
variable {m : Pm} {a b n : Int} {x y : Kn}
theorem ix_a (hx : x.k = nA) : ixOf [x, y] nA = some (0, x) := by unfold ixOf; rw [if_pos hx]
theorem ix_b (hx : x.k = nA) (hy : y.k = nB) : ixOf [x, y] nB = some (1, y) := by
  unfold ixOf
  rw [if_neg (by rw [hx]; decide)]
  unfold ixOf
  rw [if_pos hy]
  rfl
theorem of_a (hx : x.k = nA) : ofKey [x, y] nA = x := by simp [ofKey, ix_a hx]
theorem of_b (hx : x.k = nA) (hy : y.k = nB) : ofKey [x, y] nB = y := by simp [ofKey, ix_b hx hy]
/-- What a caller sees. -/
theorem NM.see (h : NM m a b) : (ofKey m.L nA).i + (ofKey m.L nA).p = a ∧ (ofKey m.L nB).i + (ofKey m.L nB).p = b ∧ (ofKey m.L nA).i + (ofKey m.L nB).i = m.total ∧ 0 ≤ (ofKey m.L nA).p ∧ 0 ≤ (ofKey m.L nB).p ∧ 0 ≤ (ofKey m.L nA).i ∧ 0 ≤ (ofKey m.L nB).i := by
  obtain ⟨x, y, hL, hx, hy, h1, h2, h3⟩ := h.ex
  have hp := h.ok.pe
  rw [hL] at hp ⊢
  rw [of_a hx, of_b hx hy]
  have p1 := hp x (by simp)
  have p2 := hp y (by simp)
  exact ⟨h1, h2, h3, p1.1, p2.1, p1.2.2.1, p2.2.2.1⟩
theorem owe_L (m : Pm) (i : Nat) (x : Kn) (n : Int) : (m.owe i x n).L = m.L.set i (x.more n) ∧ (m.owe i x n).total = m.total := by
  unfold Pm.owe Pm.setL
  refine ⟨rfl, ?_⟩
  dsimp only
  split
  · exact (push_total _ _ _).1
  · rfl
theorem NM.owea (h : NM m a b) (h1 : 1 ≤ n) (h2 : n ≤ 8) (ha : a ≤ 800) : (m.oweR nA n).2 = 0 ∧ NM (m.oweR nA n).1 (a + n) b := by
  obtain ⟨x, y, hL, hx, hy, k1, k2, k3⟩ := h.ex
  have hp := h.ok.pe
  have hok := (h.ok.oweR nA n).1
  have he : m.oweR nA n = (m.owe 0 x n, 0) := by
    unfold Pm.oweR
    rw [hL, ix_a hx]
    dsimp only
    have p1 := hp x (by rw [hL]; simp)
    rw [if_neg (by omega), if_neg (by omega)]
  rw [he] at hok ⊢
  refine ⟨rfl, hok, x.more n, y, ?_, hx, hy, ?_, k2, ?_⟩
  · rw [(owe_L _ _ _ _).1, hL]; rfl
  · show x.i + (x.p + n) = a + n; omega
  · rw [(owe_L _ _ _ _).2]; exact k3
theorem NM.oweb (h : NM m a b) (h1 : 1 ≤ n) (h2 : n ≤ 8) (hb : b ≤ 800) : (m.oweR nB n).2 = 0 ∧ NM (m.oweR nB n).1 a (b + n) := by
  obtain ⟨x, y, hL, hx, hy, k1, k2, k3⟩ := h.ex
  have hp := h.ok.pe
  have hok := (h.ok.oweR nB n).1
  have he : m.oweR nB n = (m.owe 1 y n, 0) := by
    unfold Pm.oweR
    rw [hL, ix_b hx hy]
    dsimp only
    have p1 := hp y (by rw [hL]; simp)
    rw [if_neg (by omega), if_neg (by omega)]
  rw [he] at hok ⊢
  refine ⟨rfl, hok, x, y.more n, ?_, hx, hy, k1, ?_, ?_⟩
  · rw [(owe_L _ _ _ _).1, hL]; rfl
  · show y.i + (y.p + n) = b + n; omega
  · rw [(owe_L _ _ _ _).2]; exact k3
theorem pop_none (h : m.pop = none) : m.q0 = [] ∧ m.q1 = [] := by
  unfold Pm.pop at h
  split at h
  · next ht =>
    split at h
    · next hq =>
      exfalso
      unfold Pm.turn at ht
      rw [if_neg (by rw [hq]; simp)] at ht
      exact absurd ht (by decide)
    · cases h
  · next ht =>
    split at h
    · next hq =>
      refine ⟨?_, hq⟩
      unfold Pm.turn at ht
      split at ht
      · exact absurd rfl ht
      · next hh =>
        rw [hq] at hh
        apply List.eq_nil_of_length_eq_zero
        rcases Nat.eq_zero_or_pos m.q0.length with h0 | h0
        · exact h0
        · exact absurd ⟨h0, .inr rfl⟩ hh
    · cases h
theorem issue_L (m : Pm) (i : Nat) (x : Kn) : (m.issue i x).L = m.L.set i x.told ∧ (m.issue i x).total = m.total := by
  unfold Pm.issue Pm.setL
  refine ⟨rfl, ?_⟩
  dsimp only
  split
  · exact (push_total _ _ _).1
  · rfl
theorem NM.tick (h : NM m a b) : m.tickR.2.2.2 = decide (0 < (ofKey m.L nA).p + (ofKey m.L nB).p) ∧ NM m.tickR.1 a b := by
  obtain ⟨x, y, hL, hx, hy, k1, k2, k3⟩ := h.ex
  have hp := h.ok.pe
  have hok := h.ok.tick.1
  have p1 := hp x (by rw [hL]; simp)
  have p2 := hp y (by rw [hL]; simp)
  have hofa : ofKey m.L nA = x := by rw [hL]; exact of_a hx
  have hofb : ofKey m.L nB = y := by rw [hL]; exact of_b hx hy
  rw [hofa, hofb]
  cases hpp : m.pop with
  | none =>
    obtain ⟨q0, q1⟩ := pop_none hpp
    have he : m.tickR = (m, zK, 0, false) := by unfold Pm.tickR; rw [hpp]
    rw [he]
    refine ⟨?_, h⟩
    have z : ∀ z ∈ m.L, ¬ 0 < z.p := fun z hz hpz => by
      rcases h.ok.gl z hz with g | g
      · have := (h.ok.m0 z.k).2 ⟨z, hz, rfl, g, hpz⟩
        rw [q0] at this; simp at this
      · have := (h.ok.m1 z.k).2 ⟨z, hz, rfl, g, hpz⟩
        rw [q1] at this; simp at this
    have z1 := z x (by rw [hL]; simp)
    have z2 := z y (by rw [hL]; simp)
    symm
    simp
    omega
  | some km =>
    obtain ⟨i, e, hg, he, hLk, hge⟩ := h.ok.popped hpp
    have hix := got_ix hg
    rw [← hLk] at hix
    have ht : m.tickR = (km.2.issue i e, km.1, e.i + 1, true) := by
      unfold Pm.tickR
      simp only [hpp, hix]
    have htot : km.2.total = m.total + 1 := by
      rcases turn_pop h.ok hpp with ⟨r, _, _, h3⟩ | ⟨r, _, _, h3⟩ <;> rw [h3]
    rw [ht] at hok ⊢
    have hm := hg.1
    have hkey := hg.key
    have hLL : (km.2.issue i e).L = m.L.set i e.told := by rw [(issue_L _ _ _).1, hLk]
    have hTT : (km.2.issue i e).total = m.total + 1 := by rw [(issue_L _ _ _).2, htot]
    rw [hL] at hm hLL
    rcases i with _ | _ | i
    · simp at hm
      subst hm
      refine ⟨?_, hok, x.told, y, hLL, hx, hy, ?_, k2, ?_⟩
      · symm; simp; omega
      · show (x.i + 1) + (x.p - 1) = a; omega
      · rw [hTT]; show (x.i + 1) + y.i = _; omega
    · simp at hm
      subst hm
      refine ⟨?_, hok, x, y.told, hLL, hx, hy, k1, ?_, ?_⟩
      · symm; simp; omega
      · show (y.i + 1) + (y.p - 1) = b; omega
      · rw [hTT]; show x.i + (y.i + 1) = _; omega
    · simp at hm
theorem nm_start {c d : Int} (hc : c = 0 ∨ c = 1) (hd : d = 0 ∨ d = 1) : ((Pm.new 5).knowR nA c).2 = 0 ∧ (((Pm.new 5).knowR nA c).1.knowR nB d).2 = 0 ∧ NM (((Pm.new 5).knowR nA c).1.knowR nB d).1 0 0 := by
  have ok : (((Pm.new 5).knowR nA c).1.knowR nB d).1.Ok := (((Pm.Ok.new (by decide) (by decide)).knowR nA c).1.knowR nB d).1
  rcases hc with rfl | rfl <;> rcases hd with rfl | rfl <;>
    exact ⟨by decide, by decide, ok, _, _, rfl, by decide, by decide, by decide, by decide, by decide⟩
end
end Go.Proofs.Ytdldocbfnjbhmaa
