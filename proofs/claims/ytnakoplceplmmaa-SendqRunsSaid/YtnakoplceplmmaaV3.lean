/- A queue by value. -/
import Derived.Test.YtnakoplceplmmaaV2
set_option linter.unusedSimpArgs false
set_option linter.unusedVariables false
namespace Go.Proofs.Ytnakoplceplmmaa
open Go.RowKit Go.Shelf

/-- All pieces that ever came, which are acknowledged (from lo on a slot each); nx are sent. -/
structure Sm where
  most : Nat
  lo : Nat
  nx : Nat
  L : List Pp
  K : List Bool
  row : List Int
def Sm.zl (m : Sm) : List (Pp × Bool) := (m.L.zip m.K).drop m.lo
def Sm.lacks (m : Sm) (s : Int) : Bool := decide ((m.lo : Int) ≤ s ∧ s < m.nx) && !(m.K.getD s.toNat true)
structure Sm.Ok (m : Sm) : Prop where
  m1 : 1 ≤ m.most
  m2 : m.most ≤ 4096
  lk : m.L.length = m.K.length
  ln : m.lo ≤ m.nx
  nl : m.nx ≤ m.L.length
  rm : m.L.length ≤ m.lo + m.most
  big : m.L.length ≤ 1000000000
  ac : ∀ i, i < m.lo → m.K[i]? = some true
  fr : ∀ i, m.nx ≤ i → i < m.K.length → m.K[i]? = some false
  ro : ∀ x ∈ m.row, m.lacks x = true
  nd : m.row.Nodup
/-- Its numbers fit. -/
structure Sm.Nm (m : Sm) : Prop where
  m1 : 1 ≤ m.most
  m2 : m.most ≤ 4096
  lk : m.L.length = m.K.length
  ln : m.lo ≤ m.nx
  nl : m.nx ≤ m.L.length
  rm : m.L.length ≤ m.lo + m.most
  big : m.L.length ≤ 1000000000
  rl : m.row.length ≤ 4096
/-- The low end is the least that is not acknowledged. -/
def Sm.Low (m : Sm) : Prop := m.nx = m.lo ∨ m.K[m.lo]? = some false

/-! ### Numbers told by a mark -/
def sel (p : Nat → Bool) (k : Nat) : List Int := ((List.range k).filter p).map fun i : Nat => (i : Int)
theorem sel_succ (p : Nat → Bool) (k : Nat) : sel p (k + 1) = if p k = true then sel p k ++ [(k : Int)] else sel p k := by
  unfold sel
  rw [List.range_succ, List.filter_append, List.map_append]
  by_cases h : p k = true
  · simp [h]
  · simp [h]
theorem sel_len (p : Nat → Bool) (k : Nat) : (sel p k).length ≤ k := by
  unfold sel
  rw [List.length_map]
  exact Nat.le_trans (List.length_filter_le _ _) (by simp)
theorem sel_pre (p : Nat → Bool) (i : Nat) : ∀ k, ∃ r, sel p (i + k) = sel p i ++ r
  | 0 => ⟨[], by simp⟩
  | k + 1 => by
    obtain ⟨r, hr⟩ := sel_pre p i k
    rw [← Nat.add_assoc, sel_succ, hr]
    split
    · exact ⟨_, List.append_assoc _ _ _⟩
    · exact ⟨r, rfl⟩
theorem sel_at (p : Nat → Bool) {i n : Nat} (hi : i < n) (hc : p i = true) : ∃ h : (sel p i).length < (sel p n).length, (sel p n)[(sel p i).length] = (i : Int) := by
  obtain ⟨r, hr⟩ := sel_pre p (i + 1) (n - (i + 1))
  rw [show i + 1 + (n - (i + 1)) = n from by omega, sel_succ, if_pos hc, List.append_assoc] at hr
  have hl : (sel p i).length < (sel p n).length := by
    rw [hr]; simp
  refine ⟨hl, ?_⟩
  have h2 : (sel p n)[(sel p i).length]? = some (i : Int) := by
    rw [hr, List.getElem?_append_right (Nat.le_refl _)]
    simp
  rw [List.getElem?_eq_getElem hl] at h2
  injection h2
theorem sel_none (p : Nat → Bool) (k : Nat) (h : ∀ i, i < k → p i = false) : sel p k = [] := by
  unfold sel
  rw [List.map_eq_nil_iff, List.filter_eq_nil_iff]
  intro a ha
  rw [h a (by simpa using ha)]
  simp
theorem sel_mem (p : Nat → Bool) (k : Nat) (x : Int) : x ∈ sel p k ↔ ∃ i : Nat, i < k ∧ p i = true ∧ x = i := by
  unfold sel
  simp only [List.mem_map, List.mem_filter, List.mem_range]
  constructor
  · rintro ⟨i, ⟨h1, h2⟩, rfl⟩; exact ⟨i, h1, h2, rfl⟩
  · rintro ⟨i, h1, h2, rfl⟩; exact ⟨i, ⟨h1, h2⟩, rfl⟩
theorem sel_congr (p q : Nat → Bool) (k : Nat) (h : ∀ i, i < k → p i = q i) : sel p k = sel q k := by
  unfold sel
  congr 1
  apply List.filter_congr
  intro i hi
  exact h i (by simpa using hi)
theorem nodup_le : ∀ (xs ys : List Int), xs.Nodup → (∀ x ∈ xs, x ∈ ys) → xs.length ≤ ys.length
  | [], _, _, _ => Nat.zero_le _
  | x :: r, ys, hn, hs => by
    have hx := hs x (List.mem_cons_self ..)
    have hn' := List.nodup_cons.1 hn
    have ih := nodup_le r (ys.erase x) hn'.2 (fun y hy => by
      rw [List.mem_erase_of_ne (by rintro rfl; exact hn'.1 hy)]
      exact hs y (List.mem_cons_of_mem _ hy))
    rw [List.length_erase_of_mem hx] at ih
    have := List.length_pos_of_mem hx
    simp only [List.length_cons]
    omega

/-! ### What lacks -/
def Sm.p (m : Sm) (i : Nat) : Bool := m.lacks i
def Sm.outs (m : Sm) (k : Nat) : List Int := sel m.p k
def Sm.all (m : Sm) : List Int := m.outs m.nx
def Sm.first (m : Sm) : Nat := ((List.range m.nx).find? m.p).getD m.nx
theorem Sm.lacks_iff {m : Sm} {s : Int} : m.lacks s = true ↔ (m.lo : Int) ≤ s ∧ s < m.nx ∧ m.K.getD s.toNat true = false := by
  unfold Sm.lacks
  rw [Bool.and_eq_true, decide_eq_true_eq, Bool.not_eq_true', and_assoc]
theorem Sm.lacks_no {m : Sm} {s : Int} (h : s < m.lo ∨ (m.nx : Int) ≤ s) : m.lacks s = false := by
  unfold Sm.lacks
  rw [decide_eq_false (by omega)]
  rfl
theorem Sm.outs_lo (m : Sm) : m.outs m.lo = [] := sel_none _ _ fun i hi => Sm.lacks_no (.inl (by omega))
theorem Sm.all_len (m : Sm) : m.all.length ≤ m.nx := sel_len _ _
theorem Sm.all_max {m : Sm} (h : m.Ok) : m.all.length ≤ m.most := by
  have h1 : m.all.length ≤ (m.nx - m.lo) := by
    have := nodup_le m.all ((List.range (m.nx - m.lo)).map fun i : Nat => ((m.lo + i : Nat) : Int)) (by
      unfold Sm.all Sm.outs sel
      refine List.Pairwise.map _ (fun a b hab => ?_) (List.Pairwise.filter _ List.nodup_range)
      omega) (fun x hx => by
      obtain ⟨i, h1, h2, rfl⟩ := (sel_mem _ _ _).1 hx
      have := Sm.lacks_iff.1 h2
      simp only [List.mem_map, List.mem_range]
      exact ⟨i - m.lo, by omega, by omega⟩)
    simpa using this
  have := h.rm; have := h.nl
  omega
theorem Sm.Ok.row_len {m : Sm} (h : m.Ok) : m.row.length ≤ m.most := by
  refine Nat.le_trans (nodup_le m.row m.all h.nd fun x hx => ?_) (Sm.all_max h)
  have h1 := h.ro x hx
  have h2 := Sm.lacks_iff.1 h1
  exact (sel_mem _ _ _).2 ⟨x.toNat, by omega, by unfold Sm.p; rw [show ((x.toNat : Nat) : Int) = x from by omega]; exact h1, by omega⟩
theorem Sm.all_max' {m : Sm} (h : m.Nm) : m.all.length ≤ m.most := by
  have h1 : m.all.length ≤ (m.nx - m.lo) := by
    have := nodup_le m.all ((List.range (m.nx - m.lo)).map fun i : Nat => ((m.lo + i : Nat) : Int)) (by
      unfold Sm.all Sm.outs sel
      refine List.Pairwise.map _ (fun a b hab => ?_) (List.Pairwise.filter _ List.nodup_range)
      omega) (fun x hx => by
      obtain ⟨i, h1, h2, rfl⟩ := (sel_mem _ _ _).1 hx
      have := Sm.lacks_iff.1 h2
      simp only [List.mem_map, List.mem_range]
      exact ⟨i - m.lo, by omega, by omega⟩)
    simpa using this
  have := h.rm; have := h.nl
  omega
theorem Sm.Ok.nm {m : Sm} (h : m.Ok) : m.Nm := ⟨h.m1, h.m2, h.lk, h.ln, h.nl, h.rm, h.big, Nat.le_trans h.row_len h.m2⟩
theorem Sm.zl_len {m : Sm} (h : m.Nm) : m.zl.length = m.L.length - m.lo := by
  unfold Sm.zl
  rw [List.length_drop, List.length_zip, h.lk, Nat.min_self]
theorem Sm.zl_at {m : Sm} (h : m.Nm) {i : Nat} (h1 : m.lo ≤ i) (h2 : i < m.L.length) : ∃ p b, m.zl[i - m.lo]? = some (p, b) ∧ m.L[i]? = some p ∧ m.K[i]? = some b := by
  have h3 : i < m.K.length := by rw [← h.lk]; exact h2
  refine ⟨m.L[i], m.K[i], ?_, List.getElem?_eq_getElem h2, List.getElem?_eq_getElem h3⟩
  unfold Sm.zl
  rw [List.getElem?_drop, show m.lo + (i - m.lo) = i from by omega, List.getElem?_eq_getElem (by rw [List.length_zip]; omega), List.getElem_zip]
theorem getD_of {K : List Bool} {i : Nat} {b : Bool} (h : K[i]? = some b) : K.getD i true = b := by
  rw [List.getD_eq_getElem?_getD, h]; rfl

/-! ### Low end -/
theorem Sm.first_le (m : Sm) : m.first ≤ m.nx := by
  unfold Sm.first
  cases h : (List.range m.nx).find? m.p with
  | none => exact Nat.le_refl _
  | some i =>
    have := List.mem_of_find?_eq_some h
    simp at this
    simp; omega
theorem Sm.first_no (m : Sm) {i : Nat} (hi : i < m.first) : m.p i = false := by
  have hle := m.first_le
  unfold Sm.first at hi hle
  cases h : (List.range m.nx).find? m.p with
  | none =>
    rw [h] at hi hle
    have := List.find?_eq_none.1 h i (by simp at hi ⊢; omega)
    simpa using this
  | some k =>
    rw [h] at hi
    simp only [Option.getD_some] at hi
    have := (List.find?_range_eq_some.1 h).2.2 i hi
    simpa using this
theorem Sm.first_is (m : Sm) (h : m.first < m.nx) : m.p m.first = true := by
  unfold Sm.first at h ⊢
  cases hf : (List.range m.nx).find? m.p with
  | none => rw [hf] at h; simp at h
  | some k => exact List.find?_some hf
theorem Sm.first_head (m : Sm) : m.all.head?.getD (m.nx : Int) = m.first := by
  unfold Sm.all Sm.outs sel Sm.first
  rw [List.head?_map, List.head?_filter]
  cases (List.range m.nx).find? m.p <;> rfl
theorem Sm.lo_first {m : Sm} (h : m.Nm) : m.lo ≤ m.first := by
  refine Nat.le_of_not_lt fun hc => ?_
  have := m.first_is (by have := h.ln; omega)
  have := (Sm.lacks_iff.1 this).1
  omega
/-- Settled. -/
def Sm.settle (m : Sm) : Sm := ⟨m.most, m.first, m.nx, m.L, m.K, m.row⟩
theorem Sm.settle_ac {m : Sm} (h : m.Ok) {i : Nat} (hi : i < m.first) : m.K[i]? = some true := by
  by_cases hl : i < m.lo
  · exact h.ac i hl
  · have hp := m.first_no hi
    have hle := m.first_le
    have hlt : i < m.K.length := by have := h.lk; have := h.nl; omega
    have hn : ¬ m.K.getD i true = false := fun hk => by
      rw [show m.p i = true from Sm.lacks_iff.2 ⟨by omega, by omega, hk⟩] at hp
      cases hp
    rw [List.getD_eq_getElem?_getD, List.getElem?_eq_getElem hlt] at hn
    rw [List.getElem?_eq_getElem hlt]
    simpa using hn
theorem Sm.settle_lacks {m : Sm} (h : m.Ok) (s : Int) : m.settle.lacks s = m.lacks s := by
  by_cases h1 : (m.first : Int) ≤ s
  · have := Sm.lo_first h.nm
    unfold Sm.lacks Sm.settle
    dsimp only
    by_cases h2 : s < m.nx
    · rw [decide_eq_true (by omega), decide_eq_true (by omega)]
    · rw [decide_eq_false (by omega), decide_eq_false (by omega)]
  · rw [Sm.lacks_no (m := m.settle) (.inl (by show s < m.first; omega))]
    by_cases h2 : (m.lo : Int) ≤ s
    · have := m.first_no (i := s.toNat) (by omega)
      unfold Sm.p at this
      rw [show ((s.toNat : Nat) : Int) = s from by omega] at this
      exact this.symm
    · exact (Sm.lacks_no (.inl (by omega))).symm
theorem Sm.settle_ok {m : Sm} (h : m.Ok) : m.settle.Ok ∧ m.settle.Low := by
  refine ⟨⟨h.m1, h.m2, h.lk, m.first_le, h.nl, by have := Sm.lo_first h.nm; have := h.rm; show m.L.length ≤ m.first + m.most; omega, h.big, fun i hi => Sm.settle_ac h hi, h.fr, fun x hx => by rw [Sm.settle_lacks h]; exact h.ro x hx, h.nd⟩, ?_⟩
  rcases Nat.lt_or_ge m.first m.nx with hlt | hge
  · refine .inr ?_
    have := (Sm.lacks_iff.1 (m.first_is hlt)).2.2
    have hlt2 : m.first < m.K.length := by have := h.lk; have := h.nl; omega
    show m.K[m.first]? = some false
    simp only [Int.toNat_natCast] at this
    rw [List.getD_eq_getElem?_getD, List.getElem?_eq_getElem hlt2] at this
    rw [List.getElem?_eq_getElem hlt2]
    simpa using this
  · exact .inl (by have := m.first_le; show m.nx = m.first; omega)
theorem Sm.settle_zl {m : Sm} (h : m.Nm) : m.settle.zl = m.zl.drop (m.first - m.lo) := by
  unfold Sm.zl Sm.settle
  rw [List.drop_drop]
  have := Sm.lo_first h
  congr 1
  show m.first = m.lo + (m.first - m.lo)
  omega

/-! ### What the calls make of it -/
def Sm.new (most : Nat) : Sm := ⟨most, 0, 0, [], [], []⟩
def Sm.add (m : Sm) (l : List Pp) : Sm := ⟨m.most, m.lo, m.nx, m.L ++ l, m.K ++ List.replicate l.length false, m.row⟩
def Sm.send (m : Sm) : Sm := if m.nx < m.L.length then ⟨m.most, m.lo, m.nx + 1, m.L, m.K, m.row⟩ else m
def Sm.mark (m : Sm) (s : Int) : Sm := ⟨m.most, m.lo, m.nx, m.L, m.K.set s.toNat true, m.row⟩
def Sm.drop (m : Sm) (s : Int) : Sm := ⟨m.most, m.lo, m.nx, m.L, m.K, m.row.filter (· != s)⟩
def Sm.ack (m : Sm) (s : Int) : Sm := if m.lacks s = true then ((m.mark s).drop s).settle else m
def Sm.again (m : Sm) (s : Int) : Sm := if m.lacks s = true ∧ ¬ s ∈ m.row then ⟨m.most, m.lo, m.nx, m.L, m.K, m.row ++ [s]⟩ else m
def Sm.rept (m : Sm) : Sm := ⟨m.most, m.lo, m.nx, m.L, m.K, m.row.drop 1⟩
def Sm.fits (m : Sm) (k : Nat) : Prop := m.L.length + k ≤ m.lo + m.most
instance (m : Sm) (k : Nat) : Decidable (m.fits k) := inferInstanceAs (Decidable (_ ≤ _))
theorem Sm.new_ok {k : Nat} (h1 : 1 ≤ k) (h2 : k ≤ 4096) : (Sm.new k).Ok ∧ (Sm.new k).Low :=
  ⟨⟨h1, h2, rfl, Nat.le_refl _, Nat.le_refl _, by simp [Sm.new], by simp [Sm.new], by simp [Sm.new], by simp [Sm.new], by simp [Sm.new], by simp [Sm.new]⟩, .inl rfl⟩
theorem Sm.add_zl {m : Sm} (h : m.Nm) (l : List Pp) : (m.add l).zl = m.zl ++ l.map fun p => (p, false) := by
  have hz : l.zip (List.replicate l.length false) = l.map fun p => (p, false) := by
    apply List.ext_getElem
    · simp
    · intro i h1 h2
      simp
  have hll : m.lo ≤ (m.L.zip m.K).length := by
    rw [List.length_zip, ← h.lk, Nat.min_self]
    have := h.ln; have := h.nl; omega
  show ((m.L ++ l).zip (m.K ++ List.replicate l.length false)).drop m.lo = _
  rw [List.zip_append h.lk, hz, List.drop_append_of_le_length hll]
  rfl
theorem Sm.add_nm {m : Sm} (h : m.Nm) {l : List Pp} (hf : m.fits l.length) (hb : m.L.length + l.length ≤ 1000000000) : (m.add l).Nm :=
  ⟨h.m1, h.m2, by simp [Sm.add, h.lk], h.ln, by have := h.nl; simp [Sm.add]; omega, by simp [Sm.add]; unfold Sm.fits at hf; omega, by simp [Sm.add]; omega, h.rl⟩
theorem Sm.settle_nm {m : Sm} (h : m.Nm) : m.settle.Nm :=
  ⟨h.m1, h.m2, h.lk, m.first_le, h.nl, by have := Sm.lo_first h; have := h.rm; show m.L.length ≤ m.first + m.most; omega, h.big, h.rl⟩
theorem Sm.mark_nm {m : Sm} (h : m.Nm) (s : Int) : (m.mark s).Nm :=
  ⟨h.m1, h.m2, by show m.L.length = (m.K.set s.toNat true).length; rw [List.length_set]; exact h.lk, h.ln, h.nl, h.rm, h.big, h.rl⟩
theorem Sm.drop_nm {m : Sm} (h : m.Nm) (s : Int) : (m.drop s).Nm :=
  ⟨h.m1, h.m2, h.lk, h.ln, h.nl, h.rm, h.big, Nat.le_trans (List.length_filter_le _ _) h.rl⟩
theorem Sm.rept_nm {m : Sm} (h : m.Nm) : m.rept.Nm :=
  ⟨h.m1, h.m2, h.lk, h.ln, h.nl, h.rm, h.big, by have := h.rl; show (m.row.drop 1).length ≤ 4096; rw [List.length_drop]; omega⟩
theorem Sm.send_nm {m : Sm} (h : m.Nm) : m.send.Nm := by
  unfold Sm.send
  split
  · rename_i hlt
    exact ⟨h.m1, h.m2, h.lk, by have := h.ln; show m.lo ≤ m.nx + 1; omega, hlt, h.rm, h.big, h.rl⟩
  · exact h
theorem Sm.add_ok {m : Sm} (h : m.Ok) (hl : m.Low) {l : List Pp} (hf : m.fits l.length) (hb : m.L.length + l.length ≤ 1000000000) : (m.add l).Ok ∧ (m.add l).Low := by
  have hlk := h.lk
  have hnl := h.nl
  have hln := h.ln
  have hget : ∀ i b, m.K[i]? = some b → (m.K ++ List.replicate l.length false)[i]? = some b := fun i b hi => by
    have hlt := (List.getElem?_eq_some_iff.1 hi).1
    rw [List.getElem?_append_left hlt, hi]
  have hlac : ∀ s, m.lacks s = true → (m.add l).lacks s = true := fun s hs => by
    obtain ⟨h1, h2, h3⟩ := Sm.lacks_iff.1 hs
    have hlt : s.toNat < m.K.length := by omega
    refine Sm.lacks_iff.2 ⟨h1, h2, ?_⟩
    rw [List.getD_eq_getElem?_getD, List.getElem?_eq_getElem hlt] at h3
    exact getD_of (hget _ _ (by rw [List.getElem?_eq_getElem hlt]; simpa using h3))
  refine ⟨⟨h.m1, h.m2, by simp [Sm.add, hlk], hln, by simp [Sm.add]; omega, by simp [Sm.add]; unfold Sm.fits at hf; omega, by simp [Sm.add]; omega, fun i hi => hget _ _ (h.ac i hi), fun i h1 h2 => ?_, fun x hx => hlac x (h.ro x hx), h.nd⟩, ?_⟩
  · show (m.K ++ List.replicate l.length false)[i]? = some false
    have h2' : i < m.K.length + l.length := by simpa [Sm.add] using h2
    by_cases hi : i < m.K.length
    · exact hget _ _ (h.fr i h1 hi)
    · rw [List.getElem?_append_right (by omega), List.getElem?_replicate, if_pos (by omega)]
  · rcases hl with hl | hl
    · exact .inl hl
    · exact .inr (hget _ _ hl)
theorem Sm.send_ok {m : Sm} (h : m.Ok) (hl : m.Low) : m.send.Ok ∧ m.send.Low := by
  unfold Sm.send
  split
  · rename_i hlt
    have hlk := h.lk
    have hln := h.ln
    refine ⟨⟨h.m1, h.m2, h.lk, by show m.lo ≤ m.nx + 1; omega, hlt, h.rm, h.big, h.ac, fun i h1 h2 => h.fr i (Nat.le_trans (Nat.le_succ _) h1) h2, fun x hx => ?_, h.nd⟩, ?_⟩
    · obtain ⟨h1, h2, h3⟩ := Sm.lacks_iff.1 (h.ro x hx)
      exact Sm.lacks_iff.2 ⟨h1, by show x < ((m.nx + 1 : Nat) : Int); omega, h3⟩
    · rcases hl with hl | hl
      · refine .inr ?_
        show m.K[m.lo]? = some false
        rw [← hl]
        exact h.fr m.nx (Nat.le_refl _) (by omega)
      · exact .inr hl
  · exact ⟨h, hl⟩
theorem Sm.mark_drop_ok {m : Sm} (h : m.Ok) {s : Int} (hs : m.lacks s = true) : ((m.mark s).drop s).Ok := by
  obtain ⟨h1, h2, h3⟩ := Sm.lacks_iff.1 hs
  refine ⟨h.m1, h.m2, by show m.L.length = (m.K.set s.toNat true).length; rw [List.length_set]; exact h.lk, h.ln, h.nl, h.rm, h.big, fun i hi => ?_, fun i hi1 hi2 => ?_, fun x hx => ?_, List.Pairwise.filter _ h.nd⟩
  · show (m.K.set s.toNat true)[i]? = some true
    have hi' : i < m.lo := hi
    rw [List.getElem?_set_ne (by omega)]
    exact h.ac i hi'
  · show (m.K.set s.toNat true)[i]? = some false
    have hi1' : m.nx ≤ i := hi1
    rw [List.getElem?_set_ne (by omega)]
    exact h.fr i hi1' (by simpa [Sm.mark, Sm.drop] using hi2)
  · have hx' : x ∈ m.row.filter (· != s) := hx
    rw [List.mem_filter] at hx'
    obtain ⟨hx1, hx2⟩ := hx'
    have hne : x ≠ s := by simpa using hx2
    obtain ⟨k1, k2, k3⟩ := Sm.lacks_iff.1 (h.ro x hx1)
    refine Sm.lacks_iff.2 ⟨k1, k2, ?_⟩
    show (m.K.set s.toNat true).getD x.toNat true = false
    rw [List.getD_eq_getElem?_getD, List.getElem?_set_ne (by omega), ← List.getD_eq_getElem?_getD]
    exact k3
theorem Sm.ack_ok {m : Sm} (h : m.Ok) (hl : m.Low) (s : Int) : (m.ack s).Ok ∧ (m.ack s).Low := by
  unfold Sm.ack
  split
  · rename_i hs
    exact Sm.settle_ok (Sm.mark_drop_ok h hs)
  · exact ⟨h, hl⟩
theorem Sm.mark_zl {m : Sm} (h : m.Nm) {s : Int} (hs : m.lacks s = true) {p : Pp} (hp : m.L[s.toNat]? = some p) : (m.mark s).zl = m.zl.set (s.toNat - m.lo) (p, true) := by
  obtain ⟨h1, h2, h3⟩ := Sm.lacks_iff.1 hs
  unfold Sm.zl
  show (m.L.zip (m.K.set s.toNat true)).drop m.lo = _
  have hlk := h.lk
  have hpl := (List.getElem?_eq_some_iff.1 hp).1
  apply List.ext_getElem?
  intro i
  rw [List.getElem?_drop, List.getElem?_set]
  by_cases hi : s.toNat - m.lo = i
  · rw [if_pos hi, if_pos (by rw [List.length_drop, List.length_zip]; omega), show m.lo + i = s.toNat from by omega, List.getElem?_eq_getElem (by rw [List.length_zip, List.length_set]; omega), List.getElem_zip]
    rw [List.getElem?_eq_getElem hpl] at hp
    injection hp with hp
    rw [hp, List.getElem_set_self]
  · rw [if_neg hi, List.getElem?_drop]
    by_cases hlt : m.lo + i < m.L.length
    · rw [List.getElem?_eq_getElem (by rw [List.length_zip, List.length_set]; omega), List.getElem?_eq_getElem (by rw [List.length_zip]; omega), List.getElem_zip, List.getElem_zip, List.getElem_set_ne (by omega)]
    · rw [List.getElem?_eq_none (by rw [List.length_zip]; omega), List.getElem?_eq_none (by rw [List.length_zip]; omega)]
theorem Sm.again_ok {m : Sm} (h : m.Ok) (hl : m.Low) (s : Int) : (m.again s).Ok ∧ (m.again s).Low := by
  unfold Sm.again
  split
  · rename_i hs
    refine ⟨⟨h.m1, h.m2, h.lk, h.ln, h.nl, h.rm, h.big, h.ac, h.fr, fun x hx => ?_, ?_⟩, hl⟩
    · have hx' : x ∈ m.row ++ [s] := hx
      rcases List.mem_append.1 hx' with h' | h'
      · exact h.ro x h'
      · obtain rfl : x = s := by simpa using h'
        exact hs.1
    · show (m.row ++ [s]).Nodup
      rw [List.nodup_append]
      refine ⟨h.nd, by simp, fun a ha b hb => ?_⟩
      obtain rfl : b = s := by simpa using hb
      rintro rfl
      exact hs.2 ha
  · exact ⟨h, hl⟩
theorem Sm.again_ok' {m : Sm} (h : m.Ok) {s : Int} (hs : m.lacks s = true ∧ ¬ s ∈ m.row) : (⟨m.most, m.lo, m.nx, m.L, m.K, m.row ++ [s]⟩ : Sm).Ok := by
  refine ⟨h.m1, h.m2, h.lk, h.ln, h.nl, h.rm, h.big, h.ac, h.fr, fun x hx => ?_, ?_⟩
  · have hx' : x ∈ m.row ++ [s] := hx
    rcases List.mem_append.1 hx' with h' | h'
    · exact h.ro x h'
    · obtain rfl : x = s := by simpa using h'
      exact hs.1
  · show (m.row ++ [s]).Nodup
    rw [List.nodup_append]
    refine ⟨h.nd, by simp, fun a ha b hb => ?_⟩
    obtain rfl : b = s := by simpa using hb
    rintro rfl
    exact hs.2 ha
theorem Sm.rept_ok {m : Sm} (h : m.Ok) (hl : m.Low) : m.rept.Ok ∧ m.rept.Low :=
  ⟨⟨h.m1, h.m2, h.lk, h.ln, h.nl, h.rm, h.big, h.ac, h.fr, fun x hx => h.ro x (List.mem_of_mem_drop hx), List.Pairwise.sublist (List.drop_sublist _ _) h.nd⟩, hl⟩
end Go.Proofs.Ytnakoplceplmmaa
