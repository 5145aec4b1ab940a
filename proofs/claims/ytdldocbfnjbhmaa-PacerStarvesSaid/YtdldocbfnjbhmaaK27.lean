/- Turn by turn: what holds of up to eight keys of one class. -/
import Derived.Test.YtdldocbfnjbhmaaK25
set_option linter.unusedSimpArgs false
set_option linter.unusedVariables false
set_option maxRecDepth 100000
namespace Go.Proofs.Ytdldocbfnjbhmaa
open Go.RowKit Go.Shelf
def fk (i : Nat) : Ky := ⟨i, 5⟩
theorem fk_ne {i j : Nat} (h : i ≠ j) : fk i ≠ fk j := fun e => h (by simp only [fk, Ky.mk.injEq] at e; omega)
/-- How often the one at place i had its turn, of k, within t turns. -/
def cnt (k t i : Nat) : Nat := t / k + (if i < t % k then 1 else 0)
section
variable {m : Pm} {k t i n : Nat} {g : Int}
theorem of_mem (ok : m.Ok) {x : Kn} {a : Ky} (hx : x ∈ m.L) (hk : x.k = a) : ∃ i, Got m.L a i x := by
  rcases got_or m.L a with ⟨i, y, hg⟩ | hl
  · obtain rfl := ok.one hg hx hk
    exact ⟨i, hg⟩
  · exact absurd hk (hl x hx)
/-- The first i are known, and owed 300 or more. -/
structure FS (m : Pm) (g : Int) (i : Nat) : Prop where
  ok : m.Ok
  mo : m.most = 20
  tt : m.total = 0
  ln : m.L.length = i
  lo : ∀ x ∈ m.L, ∃ j, j < i ∧ x.k = fk j
  kn : ∀ j, j < i → ∃ x ∈ m.L, x.k = fk j ∧ x.g = g ∧ x.i = 0 ∧ 300 ≤ x.p
  qq : m.q g = (List.range i).map fk
  qo : m.q (1 - g) = []
theorem FS.new (hg : g = 0 ∨ g = 1) : FS (Pm.new 20) g 0 := by
  refine ⟨Pm.Ok.new (by decide) (by decide), rfl, rfl, rfl, ?_, ?_, ?_, ?_⟩
  · intro x hx; simp [Pm.new] at hx
  · intro j hj; omega
  · rcases hg with rfl | rfl <;> rfl
  · rcases hg with rfl | rfl <;> rfl
theorem FS.know (h : FS m g i) (hg : g = 0 ∨ g = 1) (hi : i < 8) : (m.knowR (fk i) g).2 = 0 ∧ m.knowR (fk i) g = (m.know (fk i) g, 0) ∧ Lacks m.L (fk i) := by
  have hl : Lacks m.L (fk i) := fun x hx e => by
    obtain ⟨j, hj, hk⟩ := h.lo x hx
    exact fk_ne (by omega : i ≠ j) (e.symm.trans hk)
  have he : m.knowR (fk i) g = (m.know (fk i) g, 0) := by
    unfold Pm.knowR
    rw [if_pos ⟨by simp [validB, fk]; omega, hg⟩, if_neg (by rw [(of_lacks hl).2]; simp), if_neg (by rw [h.mo, h.ln]; omega)]
  exact ⟨by rw [he], he, hl⟩
theorem FS.owe (h : FS m g i) (hg : g = 0 ∨ g = 1) (hi : i < 8) {n : Int} (h1 : 300 ≤ n) (h2 : n ≤ 600) : ((m.knowR (fk i) g).1.oweR (fk i) n).2 = 0 ∧ FS ((m.knowR (fk i) g).1.oweR (fk i) n).1 g (i + 1) := by
  have hok := ((h.ok.knowR (fk i) g).1.oweR (fk i) n).1
  have hok1 := (h.ok.knowR (fk i) g).1
  obtain ⟨e1, e2, hl⟩ := h.know hg hi
  rw [e2] at hok hok1 ⊢
  have hL : (m.know (fk i) g).L = m.L ++ [⟨fk i, g, 0, 0⟩] := rfl
  obtain ⟨ix, hgt⟩ := of_mem hok1 (x := ⟨fk i, g, 0, 0⟩) (a := fk i) (by rw [hL]; simp) rfl
  have he : (m.know (fk i) g).oweR (fk i) n = ((m.know (fk i) g).owe ix ⟨fk i, g, 0, 0⟩ n, 0) := by
    unfold Pm.oweR
    rw [got_ix hgt]
    dsimp only
    rw [if_neg (by omega), if_neg (by omega)]
  rw [he] at hok ⊢
  have hm := mem_set hok1.nd hgt (⟨fk i, g, 0 + n, 0⟩ : Kn)
  have hLL : ((m.know (fk i) g).owe ix ⟨fk i, g, 0, 0⟩ n).L = (m.know (fk i) g).L.set ix ⟨fk i, g, 0 + n, 0⟩ := (owe_L _ _ _ _).1
  refine ⟨rfl, hok, ?_, ?_, ?_, ?_, ?_, ?_, ?_⟩
  · show (Pm.owe _ _ _ _).most = 20
    unfold Pm.owe Pm.setL
    dsimp only
    rw [if_pos rfl, (push_total _ _ _).2.1]
    exact h.mo
  · rw [(owe_L _ _ _ _).2]; exact h.tt
  · rw [hLL, List.length_set, hL]; simp [h.ln]
  · intro x hx
    rw [hLL] at hx
    rcases (hm x).1 hx with rfl | ⟨hx, hne⟩
    · exact ⟨i, by omega, rfl⟩
    · rw [hL] at hx
      rcases List.mem_append.1 hx with hx | hx
      · obtain ⟨j, hj, hk⟩ := h.lo x hx
        exact ⟨j, by omega, hk⟩
      · simp at hx; subst hx; exact ⟨i, by omega, rfl⟩
  · intro j hj
    rcases (by omega : j = i ∨ j < i) with rfl | hj
    · exact ⟨_, by rw [hLL]; exact (hm _).2 (.inl rfl), rfl, rfl, rfl, by show 300 ≤ 0 + n; omega⟩
    · obtain ⟨x, hx, hk, k1, k2, k3⟩ := h.kn j hj
      exact ⟨x, by rw [hLL]; exact (hm _).2 (.inr ⟨by rw [hL]; exact List.mem_append_left _ hx, fun e => fk_ne (by omega : j ≠ i) (hk.symm.trans e)⟩), hk, k1, k2, k3⟩
  · show ((Pm.owe _ _ _ _).q g) = _
    have hq := h.qq
    unfold Pm.owe Pm.setL Pm.push Pm.know Pm.setL
    rw [List.range_succ, List.map_append]
    rcases hg with rfl | rfl
    · simp only [Pm.q] at hq ⊢
      simp at hq ⊢
      exact hq
    · simp only [Pm.q] at hq ⊢
      simp at hq ⊢
      exact hq
  · show ((Pm.owe _ _ _ _).q (1 - g)) = _
    have hq := h.qo
    unfold Pm.owe Pm.setL Pm.push Pm.know Pm.setL
    rcases hg with rfl | rfl
    · simp only [Pm.q] at hq ⊢
      simp at hq ⊢
      exact hq
    · simp only [Pm.q] at hq ⊢
      simp at hq ⊢
      exact hq
/-- After t turns. -/
structure FT (m : Pm) (g : Int) (k t : Nat) : Prop where
  ok : m.Ok
  tt : m.total = t
  kn : ∀ j, j < k → ∃ x ∈ m.L, x.k = fk j ∧ x.g = g ∧ x.i = cnt k t j ∧ 300 ≤ x.p + x.i
  qq : m.q g = (List.range k).map fun j => fk ((t + j) % k)
  qo : m.q (1 - g) = []
theorem FS.turn (h : FS m g k) : FT m g k 0 := by
  refine ⟨h.ok, h.tt, fun j hj => ?_, ?_, h.qo⟩
  · obtain ⟨x, hx, hk, k1, k2, k3⟩ := h.kn j hj
    exact ⟨x, hx, hk, k1, by rw [k2]; simp [cnt], by omega⟩
  · rw [h.qq]
    apply List.map_congr_left
    intro j hj
    rw [Nat.zero_add, Nat.mod_eq_of_lt (List.mem_range.1 hj)]
theorem cnt_le (hk : 0 < k) : cnt k t i ≤ t := by
  unfold cnt
  have h1 := Nat.div_add_mod t k
  have h2 : t / k ≤ k * (t / k) := Nat.le_mul_of_pos_left _ hk
  split <;> omega
theorem cnt_succ (hk : 0 < k) (hi : i < k) : cnt k (t + 1) i = if i = t % k then cnt k t i + 1 else cnt k t i := by
  have hm := Nat.mod_lt t hk
  have hd := Nat.div_add_mod t k
  unfold cnt
  by_cases hw : t % k + 1 = k
  · have e : t + 1 = (t / k + 1) * k := by rw [Nat.add_mul, Nat.one_mul, Nat.mul_comm]; omega
    have e1 : (t + 1) / k = t / k + 1 := by rw [e, Nat.mul_div_cancel _ hk]
    have e2 : (t + 1) % k = 0 := by rw [e, Nat.mul_mod_left]
    rw [e1, e2]
    split <;> split <;> split <;> omega
  · have e : t + 1 = (t % k + 1) + k * (t / k) := by omega
    have e1 : (t + 1) / k = t / k := by rw [e, Nat.add_mul_div_left _ _ hk, Nat.div_eq_of_lt (by omega)]; omega
    have e2 : (t + 1) % k = t % k + 1 := by rw [e, Nat.add_mul_mod_self_left, Nat.mod_eq_of_lt (by omega)]
    rw [e1, e2]
    split <;> split <;> split <;> omega
theorem cnt_near (hk : 0 < k) (hi : i < k) : cnt k (t + 1) i ≤ cnt k (t + 1) (t % k) ∧ cnt k (t + 1) (t % k) ≤ cnt k (t + 1) i + 1 := by
  have hm := Nat.mod_lt t hk
  rw [cnt_succ hk hi, cnt_succ hk hm, if_pos rfl]
  unfold cnt
  split <;> split <;> split <;> omega
theorem FT.is (h : FT m g k t) (hi : i < k) : (ofKey m.L (fk i)).i = cnt k t i := by
  obtain ⟨x, hx, hk, k1, k2, k3⟩ := h.kn i hi
  obtain ⟨ix, hgt⟩ := of_mem h.ok hx hk
  rw [(of_got hgt).1, k2]
theorem rot (hk : 0 < k) (t : Nat) : (List.range k).map (fun j => fk ((t + j) % k)) = fk (t % k) :: (List.range (k - 1)).map (fun j => fk ((t + 1 + j) % k)) := by
  obtain ⟨n, rfl⟩ : ∃ n, k = n + 1 := ⟨k - 1, by omega⟩
  rw [List.range_succ_eq_map, List.map_cons, List.map_map]
  congr 1
  apply List.map_congr_left
  intro j hj
  show fk ((t + (j + 1)) % (n + 1)) = _
  rw [show t + (j + 1) = t + 1 + j by omega]
theorem rot_end (hk : 0 < k) (t : Nat) : (List.range (k - 1)).map (fun j => fk ((t + 1 + j) % k)) ++ [fk (t % k)] = (List.range k).map (fun j => fk ((t + 1 + j) % k)) := by
  obtain ⟨n, rfl⟩ : ∃ n, k = n + 1 := ⟨k - 1, by omega⟩
  rw [show n + 1 - 1 = n from rfl, List.range_succ, List.map_append, List.map_singleton]
  congr 3
  rw [show t + 1 + n = t + (n + 1) by omega, Nat.add_mod_right]
theorem FT.tick (h : FT m g k t) (hg : g = 0 ∨ g = 1) (hk : 0 < k) (ht : t < 255) : m.tickR.2.1 = fk (t % k) ∧ m.tickR.2.2.1 = cnt k (t + 1) (t % k) ∧ m.tickR.2.2.2 = true ∧ FT m.tickR.1 g k (t + 1) := by
  have hok := h.ok.tick.1
  have hq := h.qq
  rw [rot hk] at hq
  have hqo := h.qo
  have hmk := Nat.mod_lt t hk
  obtain ⟨km, hp, hkm, htot, hqg, hqn⟩ : ∃ km, m.pop = some km ∧ km.1 = fk (t % k) ∧ km.2.total = t + 1 ∧ km.2.q g = (List.range (k - 1)).map (fun j => fk ((t + 1 + j) % k)) ∧ km.2.q (1 - g) = [] := by
    have htt := h.tt
    rcases hg with rfl | rfl
    · simp only [Pm.q] at hq hqo
      simp at hq hqo
      have ht0 : m.turn = 0 := by unfold Pm.turn; rw [if_pos ⟨by rw [hq]; simp, .inr (by rw [hqo]; rfl)⟩]
      refine ⟨_, by unfold Pm.pop; rw [if_pos ht0, hq], rfl, ?_, ?_, ?_⟩
      · show m.total + 1 = _; omega
      · simp [Pm.q]
      · simp [Pm.q, hqo]
    · simp only [Pm.q] at hq hqo
      simp at hq hqo
      have ht0 : m.turn = 1 := by unfold Pm.turn; rw [if_neg (by rw [hqo]; simp)]
      refine ⟨_, by unfold Pm.pop; rw [if_neg (by rw [ht0]; decide), hq], rfl, ?_, ?_, ?_⟩
      · show m.total + 1 = _; omega
      · simp [Pm.q]
      · simp [Pm.q, hqo]
  obtain ⟨i, e, hgt, he, hLk, hge⟩ := h.ok.popped hp
  have hix := got_ix hgt
  rw [← hLk] at hix
  have htk : m.tickR = (km.2.issue i e, km.1, e.i + 1, true) := by
    unfold Pm.tickR
    simp only [hp, hix]
  obtain ⟨x, hx, hxk, x1, x2, x3⟩ := h.kn _ hmk
  have hxe : x = e := h.ok.one hgt hx (hxk.trans hkm.symm)
  subst hxe
  rw [htk] at hok ⊢
  have hLL : (km.2.issue i x).L = m.L.set i x.told := by rw [(issue_L _ _ _).1, hLk]
  have hm := mem_set h.ok.nd hgt x.told
  have hc := cnt_succ (t := t) hk hmk
  rw [if_pos rfl] at hc
  have hcl := cnt_le (t := t) (i := t % k) hk
  have hpos : 0 < x.p - 1 := by omega
  refine ⟨hkm, by show x.i + 1 = _; rw [hc, x2]; simp, rfl, hok, ?_, ?_, ?_, ?_⟩
  · rw [(issue_L _ _ _).2, htot]; simp
  · intro j hj
    by_cases hjt : j = t % k
    · subst hjt
      exact ⟨x.told, by rw [hLL]; exact (hm _).2 (.inl rfl), hxk, x1, by show x.i + 1 = _; rw [hc, x2]; simp, by show 300 ≤ (x.p - 1) + (x.i + 1); omega⟩
    · obtain ⟨y, hy, hyk, y1, y2, y3⟩ := h.kn j hj
      have hcj := cnt_succ (t := t) hk hj
      rw [if_neg hjt] at hcj
      exact ⟨y, by rw [hLL]; exact (hm _).2 (.inr ⟨hy, fun e => fk_ne hjt ((hyk.symm.trans e).trans hkm)⟩), hyk, y1, by rw [hcj]; exact y2, y3⟩
  · rw [← rot_end hk t, ← hqg, ← hkm]
    have hxk' : x.k = km.1 := hxk.trans hkm.symm
    unfold Pm.issue Pm.setL Pm.push
    rw [if_pos hpos, x1, hxk']
    rcases hg with rfl | rfl
    · simp [Pm.q]
    · simp [Pm.q]
  · rw [← hqn]
    unfold Pm.issue Pm.setL Pm.push
    rw [if_pos hpos, x1]
    rcases hg with rfl | rfl
    · simp [Pm.q]
    · simp [Pm.q]
end
end Go.Proofs.Ytdldocbfnjbhmaa
