/- How many packets a fabric has, behind what is put and served. -/
import Derived.Test.YtbhhgfpliggkgaaF13
set_option linter.unusedSimpArgs false
set_option linter.unusedVariables false
set_option maxRecDepth 100000
namespace Go.Proofs.Ytbhhgfpliggkgaa
open Go.RowKit Go.Shelf

def AM.cnt (a : AM) : Nat := a.low.length + a.high.length
def cntO (a : Option AM) : Nat := match a with | none => 0 | some a => a.cnt
/-- The sum of the first k. -/
def sumN (f : Nat → Nat) : Nat → Nat
  | 0 => 0
  | k + 1 => sumN f k + f k
theorem sumN_congr {f g : Nat → Nat} : ∀ k, (∀ i, i < k → f i = g i) → sumN f k = sumN g k
  | 0, _ => rfl
  | k + 1, h => by simp only [sumN]; rw [sumN_congr k fun i hi => h i (by omega), h k (by omega)]
theorem sumN_set {f g : Nat → Nat} {j : Nat} (h : ∀ i, i ≠ j → g i = f i) : ∀ k, j < k → sumN g k + f j = sumN f k + g j
  | 0, hj => by omega
  | k + 1, hj => by
    simp only [sumN]
    by_cases hjk : j = k
    · subst hjk
      rw [sumN_congr j fun i hi => h i (by omega)]
      omega
    · have := sumN_set h k (by omega)
      have := h k (by omega)
      omega
theorem sumN_filter (f : Nat → Nat) : ∀ k, (((List.range k).filter fun i => decide (0 < f i)).map f).sum = sumN f k
  | 0 => rfl
  | k + 1 => by
    rw [List.range_succ, List.filter_append, List.map_append, List.sum_append, sumN_filter f k]
    simp only [sumN]
    by_cases h : 0 < f k
    · simp [h]
    · simp [h]; omega
section
variable {m : FM} {k : Nat} {a c : AM}
theorem FM.many_eq (m : FM) {k : Nat} (h : k < 64) : m.many k = cntO (m.pt k) := by
  have hp : m.port ((k / 8 : Nat) : Int) ((k % 8 : Nat) : Int) = m.pt k := by
    unfold FM.port
    rw [if_pos (by simp only [inB, decide_eq_true_eq]; omega)]
    unfold ix
    rw [Int.toNat_natCast, Int.toNat_natCast]
    congr 1; omega
  unfold FM.many FM.lows FM.highs
  rw [hp]
  cases m.pt k <;> rfl
theorem FM.total_eq (m : FM) : m.total = sumN (fun k => cntO (m.pt k)) 64 := by
  unfold FM.total FM.busy FM.busyN
  rw [List.map_map, ← sumN_congr 64 (f := m.many) (fun i hi => m.many_eq hi), ← sumN_filter]
  congr 1
theorem FM.total_sp (m : FM) {k : Nat} {a c : AM} (hk : k < 64) (h : m.pt k = some a) : (m.sp k c).total + a.cnt = m.total + c.cnt := by
  rw [FM.total_eq, FM.total_eq]
  have := sumN_set (f := fun i => cntO (m.pt i)) (g := fun i => cntO ((m.sp k c).pt i)) (j := k) (fun i hi => by unfold FM.sp; dsimp only; rw [set1_ne _ _ hi]) 64 hk
  rw [h] at this
  have e : (m.sp k c).pt k = some c := by unfold FM.sp; dsimp only; rw [set1_at]
  rw [e] at this
  exact this
theorem FM.total_sc (m : FM) (i : Nat) (x : Int) : (m.sc i x).total = m.total := by rw [FM.total_eq, FM.total_eq]; rfl
theorem AM.cnt_nx (a : AM) (x : Pk) : (a.nx x).cnt = a.cnt + (if a.vd x = 1 ∨ a.vd x = 2 then 1 else 0) := by
  have e : (a.nx x).cnt = (a.base x).cnt := rfl
  rw [e]
  unfold AM.base
  rcases a.vd_cases x with h | h | h | h
  · rw [if_pos h, if_pos (.inl h)]
    cases x.heavy <;> simp [AM.put, AM.sel, AM.cnt] <;> omega
  · rw [if_neg (by omega), if_pos h, if_pos (.inr h)]
    simp [AM.put, AM.cnt]; omega
  · rw [if_neg (by omega), if_neg (by omega), if_neg (by omega)]; rfl
  · rw [if_neg (by omega), if_neg (by omega), if_neg (by omega)]; rfl
theorem FM.pt_lt {h : Int} {p : Int} (hp : m.port p h = some a) : ix p h < 64 := by
  unfold FM.port at hp
  split at hp
  · rename_i hi; exact ix_lt hi
  · cases hp
theorem FM.total_into (m : FM) (x : Pk) : (m.into x).total = m.total + (if m.ivd x = 1 ∨ m.ivd x = 2 then 1 else 0) := by
  unfold FM.into FM.ivd
  cases hp : m.port x.h.pa x.h.ds with
  | none => dsimp only; rw [if_neg (by omega)]; rfl
  | some a =>
    dsimp only
    have h1 := m.total_sp (c := a.nx x) (FM.pt_lt hp) (FM.port_pt hp)
    have h2 := a.cnt_nx x
    omega
theorem hasB_add (f : Int) (h0 : 0 ≤ f) (h : hasB f 8 = true) (h2 : hasB f 16 = false) : hasB (f + 16) 8 = true := by
  simp only [hasB, decide_eq_true_eq] at *
  omega
/-- What goes back was trimmed. -/
theorem Pk.ret_trim {x : Pk} (h : x.retB = true) : x.ret.trimB = false := by
  have h0 := h
  unfold Pk.retB Pk.bncB at h
  simp only [Bool.and_eq_true, Bool.not_eq_true'] at h
  obtain ⟨⟨h1, h2⟩, h3⟩ := h
  have hfl := Pk.isd_fl h1
  unfold Pk.ret Pk.bnc
  rw [if_pos (show x.trim.bncB = true from h0)]
  unfold Pk.trimB
  dsimp only
  rw [hasB_add _ hfl.1 h2 h3]
  simp
theorem AM.vd_trim {a : AM} {x : Pk} (h : x.trimB = false) : a.vd x ≠ 2 := fun hv => by
  have := (AM.vd_two hv).1
  rw [h] at this; cases this
theorem AM.vd_ret {a : AM} {x : Pk} (h : a.vd x = 3) : x.retB = true := by
  unfold AM.vd at h
  split at h
  · cases h
  · split at h
    · cases h
    · split at h
      · cases h
      · split at h
        · assumption
        · cases h
theorem FM.iout_trim {x : Pk} (h : m.ivd x = 3) : (m.iout x).trimB = false := by
  unfold FM.ivd at h
  unfold FM.iout
  cases hp : m.port x.h.pa x.h.ds with
  | none => rw [hp] at h; cases h
  | some a =>
    rw [hp] at h
    dsimp only at h ⊢
    unfold AM.out
    rw [if_neg (by omega), if_neg (by omega), if_pos h]
    exact Pk.ret_trim (AM.vd_ret h)
theorem FM.ivd_trim {x : Pk} (h : x.trimB = false) : m.ivd x ≠ 2 := by
  unfold FM.ivd
  cases m.port x.h.pa x.h.ds with
  | none => intro h; cases h
  | some a => exact AM.vd_trim h
/-- One more for each that is kept, cut, or sent back. -/
theorem FM.total_pnx (m : FM) (x : Pk) : (m.pnx x).total = m.total + (if m.pvd x = 4 then 0 else 1) := by
  unfold FM.pnx FM.pvd
  have h1 := m.total_into x
  by_cases h3 : m.ivd x = 3
  · rw [if_pos h3, if_pos h3]
    have h2 := (m.into x).total_into (m.iout x)
    have hn := FM.ivd_trim (m := m.into x) (FM.iout_trim h3)
    rw [h3] at h1
    rw [if_neg (by omega)] at h1
    by_cases hv : (m.into x).ivd (m.iout x) = 1
    · rw [if_pos hv, if_neg (by omega)]
      rw [if_pos (.inl hv)] at h2
      omega
    · rw [if_neg hv, if_pos rfl]
      rw [if_neg (by omega)] at h2
      omega
  · rw [if_neg h3, if_neg h3]
    have : 1 ≤ m.ivd x ∧ m.ivd x ≤ 4 := by
      unfold FM.ivd
      split
      · omega
      · rename_i a _
        have := a.vd_cases x; omega
    by_cases h4 : m.ivd x = 4
    · rw [if_pos h4]
      rw [if_neg (by omega)] at h1
      omega
    · rw [if_neg h4]
      rw [if_pos (by omega)] at h1
      omega
/-- What Put tells, and how many there are then. -/
theorem FM.puts_sum (m : FM) (ks : List Pk) : ∀ n, n ≤ ks.length → ((m.puts (ks.take n)).1.total : Int) = m.total + (m.puts (ks.take n)).2 1 + (m.puts (ks.take n)).2 2 + (m.puts (ks.take n)).2 3 ∧ (m.puts (ks.take n)).2 0 = 0 ∧
      (m.puts (ks.take n)).2 1 + (m.puts (ks.take n)).2 2 + (m.puts (ks.take n)).2 3 + (m.puts (ks.take n)).2 4 = n
  | 0, _ => by
    rw [List.take_zero]
    show ((m.total : Int) = m.total + 0 + 0 + 0) ∧ (0 : Int) = 0 ∧ (0 : Int) + 0 + 0 + 0 = 0
    omega
  | n + 1, hn => by
    obtain ⟨h1, h2, h3⟩ := FM.puts_sum m ks n (by omega)
    rw [List.take_succ_eq_append_getElem (by omega), FM.puts_snoc]
    obtain ⟨s, hs⟩ : ∃ s, s = m.puts (ks.take n) := ⟨_, rfl⟩
    rw [← hs] at h1 h2 h3 ⊢
    clear hs
    obtain ⟨m1, t⟩ := s
    generalize ks[n] = x
    have ht := m1.total_pnx x
    have hv := m1.pvd_lt x
    unfold FM.put1
    dsimp only at *
    rw [FM.total_sc]
    have hc : m1.pvd x = 1 ∨ m1.pvd x = 2 ∨ m1.pvd x = 3 ∨ m1.pvd x = 4 := by omega
    rcases hc with h | h | h | h
    all_goals
      rw [h] at ht ⊢
      simp only [up, Nat.reduceEqDiff, if_true, if_false, reduceIte] at ht ⊢
      simp at ht ⊢
      omega
theorem FM.puts_all (m : FM) (ks : List Pk) : ((m.puts ks).1.total : Int) = m.total + (m.puts ks).2 1 + (m.puts ks).2 2 + (m.puts ks).2 3 ∧ (m.puts ks).2 0 = 0 ∧
      (m.puts ks).2 1 + (m.puts ks).2 2 + (m.puts ks).2 3 + (m.puts ks).2 4 = ks.length := by
  have := m.puts_sum ks ks.length (Nat.le_refl _)
  rwa [List.take_length] at this
theorem AM.cnt_put (a : AM) (hi : Bool) (l : List Pk) : (a.put hi l).cnt + (a.sel hi).length = a.cnt + l.length := by
  cases hi <;> simp [AM.put, AM.sel, AM.cnt] <;> omega
theorem AM.cnt_sv (a : AM) (f : Int) : ((a.svM f).cnt : Int) = a.cnt - (if a.svE f = 0 ∧ (f = 1 ∨ f = 2) then 1 else 0) := by
  unfold AM.svM AM.svE
  by_cases hf : f < 1 ∨ 4 < f
  · rw [if_pos hf, if_pos hf, if_neg (by omega)]; omega
  · rw [if_neg hf, if_neg hf]
    cases hs : a.sel a.hiB with
    | nil => dsimp only; rw [if_neg (by omega)]; omega
    | cons x l =>
      dsimp only
      have e : ∀ (m2 : AM) (i : Nat) (y : Int), (if f = 1 ∨ f = 4 then ({ m2 with ct := up a.ct i y } : AM) else m2).cnt = m2.cnt := fun m2 i y => by split <;> rfl
      unfold AM.srv
      dsimp only
      rw [e]
      have h1 := a.cnt_put a.hiB l
      have h2 : (a.took a.hiB l).cnt = (a.put a.hiB l).cnt := rfl
      have h3 := (a.took a.hiB l).cnt_put a.hiB (l ++ [x])
      have h4 : (a.took a.hiB l).sel a.hiB = l := sel_took
      rw [h4] at h3
      rw [hs] at h1
      simp only [List.length_append, List.length_cons, List.length_nil] at h1 h3
      split <;> split <;> omega
theorem FM.total_sv (m : FM) (p q f : Int) : ((m.svM p q f).total : Int) = m.total - (if m.svE p q f = 0 ∧ (f = 1 ∨ f = 2) then 1 else 0) := by
  unfold FM.svM FM.svE
  cases hp : m.port p q with
  | none => dsimp only; rw [if_neg (by omega)]; omega
  | some a =>
    dsimp only
    rw [FM.total_sc]
    have h1 := m.total_sp (c := a.svM f) (FM.pt_lt hp) (FM.port_pt hp)
    have h2 := a.cnt_sv f
    omega
end
end Go.Proofs.Ytbhhgfpliggkgaa
