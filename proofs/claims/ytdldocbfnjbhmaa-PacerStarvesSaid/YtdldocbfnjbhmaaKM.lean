/- A pacer by value: what each call makes of it, and that it stays in order. -/
import Derived.Test.YtdldocbfnjbhmaaK6
set_option linter.unusedSimpArgs false
set_option linter.unusedVariables false
namespace Go.Proofs.Ytdldocbfnjbhmaa
open Go.RowKit Go.Shelf

def Pm.push (m : Pm) (g : Int) (k : Ky) : Pm := if g = 1 then { m with q1 := m.q1 ++ [k] } else { m with q0 := m.q0 ++ [k] }
def Pm.setL (m : Pm) (L : List Kn) : Pm := { m with L := L }
def Pm.know (m : Pm) (k : Ky) (g : Int) : Pm := m.setL (m.L ++ [⟨k, g, 0, 0⟩])
def Kn.more (x : Kn) (n : Int) : Kn := ⟨x.k, x.g, x.p + n, x.i⟩
def Kn.told (x : Kn) : Kn := ⟨x.k, x.g, x.p - 1, x.i + 1⟩
def Pm.owe (m : Pm) (i : Nat) (x : Kn) (n : Int) : Pm := (if x.p = 0 then m.push x.g x.k else m).setL (m.L.set i (x.more n))
def not_ (k : Ky) (y : Ky) : Bool := !decide (y = k)
def Pm.forget (m : Pm) (i : Nat) (k : Ky) : Pm := { m with L := m.L.eraseIdx i, q0 := m.q0.filter (not_ k), q1 := m.q1.filter (not_ k) }
/-- The turn's key is taken off its queue, the turn is counted. -/
def Pm.pop (m : Pm) : Option (Ky × Pm) :=
  if m.turn = 0 then
    match m.q0 with
    | [] => none
    | k :: r => some (k, { m with q0 := r, run := 0, total := m.total + 1 })
  else
    match m.q1 with
    | [] => none
    | k :: r => some (k, { m with q1 := r, run := if 0 < m.q0.length then m.run + 1 else 0, total := m.total + 1 })
def Pm.issue (m : Pm) (i : Nat) (x : Kn) : Pm := (if 0 < x.p - 1 then m.push x.g x.k else m).setL (m.L.set i x.told)
/-- What Know, Owe, Forget and Tick make of it, and tell. -/
def Pm.knowR (m : Pm) (k : Ky) (g : Int) : Pm × Int :=
  if validB k = true ∧ (g = 0 ∨ g = 1) then (if isIn m.L k = true then (m, 180) else if m.most ≤ m.L.length then (m, 3) else (m.know k g, 0)) else (m, 1)
def Pm.oweR (m : Pm) (k : Ky) (n : Int) : Pm × Int :=
  match ixOf m.L k with
  | none => (m, 7)
  | some ix => if n < 1 then (m, 1) else if 1152921504606846976 - ix.2.p < n then (m, 5) else (m.owe ix.1 ix.2 n, 0)
def Pm.forgetR (m : Pm) (k : Ky) : Pm × Int × Bool :=
  match ixOf m.L k with
  | none => (m, 0, false)
  | some ix => (m.forget ix.1 k, ix.2.p, true)
def Pm.tickR (m : Pm) : Pm × Ky × Int × Bool :=
  match m.pop with
  | none => (m, zK, 0, false)
  | some km =>
    match ixOf km.2.L km.1 with
    | none => (km.2, km.1, 0, true)
    | some ix => (km.2.issue ix.1 ix.2, km.1, ix.2.i + 1, true)

theorem nodup_sub {α : Type} [DecidableEq α] : ∀ (l l' : List α), l.Nodup → (∀ a ∈ l, a ∈ l') → l.length ≤ l'.length
  | [], _, _, _ => Nat.zero_le _
  | a :: l, l', hn, hs => by
    obtain ⟨h1, h2⟩ := List.nodup_cons.1 hn
    have ha := hs a (by simp)
    have ih := nodup_sub l (l'.erase a) h2 fun b hb => (List.mem_erase_of_ne (by rintro rfl; exact h1 hb)).2 (hs b (by simp [hb]))
    rw [List.length_erase_of_mem ha] at ih
    have := List.length_pos_of_mem ha
    simp only [List.length_cons]
    omega
section
variable {m : Pm} {k : Ky} {i : Nat} {x : Kn}
theorem mem_set (nd : ∀ (i j : Nat) (x y : Kn), m.L[i]? = some x → m.L[j]? = some y → x.k = y.k → i = j) (hg : Got m.L k i x) (y z : Kn) : z ∈ m.L.set i y ↔ z = y ∨ (z ∈ m.L ∧ z.k ≠ k) := by
  have hi := hg.lt
  constructor
  · intro h
    obtain ⟨j, hj⟩ := List.mem_iff_getElem?.1 h
    rw [List.getElem?_set] at hj
    split at hj
    · next e => injection hj with hj; exact .inl hj.symm
    · next e =>
      refine .inr ⟨List.mem_of_getElem? hj, fun hk => e ?_⟩
      exact nd i j x z hg.1 hj (hg.key.trans hk.symm)
  · rintro (rfl | ⟨h, hk⟩)
    · exact List.mem_iff_getElem?.2 ⟨i, by rw [List.getElem?_set]; simp [hi]⟩
    · obtain ⟨j, hj⟩ := List.mem_iff_getElem?.1 h
      refine List.mem_iff_getElem?.2 ⟨j, ?_⟩
      rw [List.getElem?_set, if_neg]
      · exact hj
      · rintro rfl
        rw [hg.1] at hj
        injection hj with hj
        exact hk (hj ▸ hg.key)
theorem mem_erase (nd : ∀ (i j : Nat) (x y : Kn), m.L[i]? = some x → m.L[j]? = some y → x.k = y.k → i = j) (hg : Got m.L k i x) (z : Kn) : z ∈ m.L.eraseIdx i ↔ z ∈ m.L ∧ z.k ≠ k := by
  constructor
  · intro h
    obtain ⟨j, hj⟩ := List.mem_iff_getElem?.1 h
    rw [List.getElem?_eraseIdx] at hj
    split at hj
    · refine ⟨List.mem_of_getElem? hj, fun hk => ?_⟩
      have := nd i j x z hg.1 hj (hg.key.trans hk.symm)
      omega
    · refine ⟨List.mem_of_getElem? hj, fun hk => ?_⟩
      have := nd i (j + 1) x z hg.1 hj (hg.key.trans hk.symm)
      omega
  · rintro ⟨h, hk⟩
    obtain ⟨j, hj⟩ := List.mem_iff_getElem?.1 h
    have hne : j ≠ i := by
      rintro rfl
      rw [hg.1] at hj
      injection hj with hj
      exact hk (hj ▸ hg.key)
    by_cases hlt : j < i
    · exact List.mem_iff_getElem?.2 ⟨j, by rw [List.getElem?_eraseIdx, if_pos hlt]; exact hj⟩
    · exact List.mem_iff_getElem?.2 ⟨j - 1, by rw [List.getElem?_eraseIdx, if_neg (by omega), show j - 1 + 1 = j from by omega]; exact hj⟩
theorem Pm.Ok.one (h : m.Ok) (hg : Got m.L k i x) {z : Kn} (hz : z ∈ m.L) (hk : z.k = k) : z = x := by
  obtain ⟨j, hj⟩ := List.mem_iff_getElem?.1 hz
  obtain rfl := h.nd i j x z hg.1 hj (hg.key.trans hk.symm)
  rw [hg.1] at hj
  injection hj with hj
  exact hj.symm
theorem Pm.Ok.in0 (h : m.Ok) (hg : Got m.L k i x) : k ∈ m.q0 ↔ x.g = 0 ∧ 0 < x.p := by
  rw [h.m0]
  constructor
  · rintro ⟨z, hz, hk, h1, h2⟩
    obtain rfl := h.one hg hz hk
    exact ⟨h1, h2⟩
  · rintro ⟨h1, h2⟩
    exact ⟨x, hg.mem, hg.key, h1, h2⟩
theorem Pm.Ok.in1 (h : m.Ok) (hg : Got m.L k i x) : k ∈ m.q1 ↔ x.g = 1 ∧ 0 < x.p := by
  rw [h.m1]
  constructor
  · rintro ⟨z, hz, hk, h1, h2⟩
    obtain rfl := h.one hg hz hk
    exact ⟨h1, h2⟩
  · rintro ⟨h1, h2⟩
    exact ⟨x, hg.mem, hg.key, h1, h2⟩
/-- What waits is known. -/
theorem Pm.Ok.got0 (h : m.Ok) (hk : k ∈ m.q0) : ∃ i x, Got m.L k i x ∧ x.g = 0 ∧ 0 < x.p := by
  rcases got_or m.L k with ⟨i, x, hg⟩ | hl
  · exact ⟨i, x, hg, (h.in0 hg).1 hk⟩
  · obtain ⟨z, hz, hk, _⟩ := (h.m0 k).1 hk
    exact absurd hk (hl z hz)
theorem Pm.Ok.got1 (h : m.Ok) (hk : k ∈ m.q1) : ∃ i x, Got m.L k i x ∧ x.g = 1 ∧ 0 < x.p := by
  rcases got_or m.L k with ⟨i, x, hg⟩ | hl
  · exact ⟨i, x, hg, (h.in1 hg).1 hk⟩
  · obtain ⟨z, hz, hk, _⟩ := (h.m1 k).1 hk
    exact absurd hk (hl z hz)
theorem room_of {q : List Ky} (hn : q.Nodup) (hs : ∀ k ∈ q, ∃ x ∈ m.L, x.k = k) (hg : Got m.L k i x) (hk : k ∉ q) : q.length + 1 ≤ m.L.length := by
  have := nodup_sub (k :: q) (m.L.map (·.k)) (List.nodup_cons.2 ⟨hk, hn⟩) (by
    intro a ha
    rcases List.mem_cons.1 ha with rfl | ha
    · exact List.mem_map.2 ⟨x, hg.mem, hg.key⟩
    · obtain ⟨z, hz, hk⟩ := hs a ha
      exact List.mem_map.2 ⟨z, hz, hk⟩)
  simpa using this
theorem Pm.Ok.room0 (h : m.Ok) (hg : Got m.L k i x) (hk : k ∉ m.q0) : m.q0.length + 1 ≤ m.most :=
  Nat.le_trans (room_of h.d0 (fun k hk => by obtain ⟨z, hz, hk, _⟩ := (h.m0 k).1 hk; exact ⟨z, hz, hk⟩) hg hk) h.ll
theorem Pm.Ok.room1 (h : m.Ok) (hg : Got m.L k i x) (hk : k ∉ m.q1) : m.q1.length + 1 ≤ m.most :=
  Nat.le_trans (room_of h.d1 (fun k hk => by obtain ⟨z, hz, hk, _⟩ := (h.m1 k).1 hk; exact ⟨z, hz, hk⟩) hg hk) h.ll
theorem Pm.Ok.len0 (h : m.Ok) : m.q0.length ≤ 512 := by
  have h1 := nodup_sub m.q0 (m.L.map (·.k)) h.d0 (fun a ha => by
    obtain ⟨z, hz, hk, _⟩ := (h.m0 a).1 ha
    exact List.mem_map.2 ⟨z, hz, hk⟩)
  have := h.ll
  have := h.mo
  simp at h1
  omega
theorem Pm.Ok.len1 (h : m.Ok) : m.q1.length ≤ 512 := by
  have h1 := nodup_sub m.q1 (m.L.map (·.k)) h.d1 (fun a ha => by
    obtain ⟨z, hz, hk, _⟩ := (h.m1 a).1 ha
    exact List.mem_map.2 ⟨z, hz, hk⟩)
  have := h.ll
  have := h.mo
  simp at h1
  omega
theorem nd_set (nd : ∀ (i j : Nat) (x y : Kn), m.L[i]? = some x → m.L[j]? = some y → x.k = y.k → i = j) (hg : Got m.L k i x) {y : Kn} (hy : y.k = k) : ∀ (a b : Nat) (u v : Kn), (m.L.set i y)[a]? = some u → (m.L.set i y)[b]? = some v → u.k = v.k → a = b := by
  have key : ∀ (a : Nat) (u : Kn), (m.L.set i y)[a]? = some u → ∃ u' : Kn, m.L[a]? = some u' ∧ u'.k = u.k := by
    intro a u hu
    rw [List.getElem?_set] at hu
    split at hu
    · next e =>
      subst e
      rw [if_pos hg.lt] at hu
      injection hu with hu
      exact ⟨x, hg.1, by rw [hg.key, ← hu, hy]⟩
    · exact ⟨u, hu, rfl⟩
  intro a b u v hu hv he
  obtain ⟨u', h1, h2⟩ := key a u hu
  obtain ⟨v', h3, h4⟩ := key b v hv
  exact nd a b u' v' h1 h3 (by rw [h2, h4, he])
/-- Which keys of a class wait, once an entry is another one. -/
theorem wait_set (nd : ∀ (i j : Nat) (x y : Kn), m.L[i]? = some x → m.L[j]? = some y → x.k = y.k → i = j) (hg : Got m.L k i x) {y : Kn} (hy : y.k = k) (c : Int) (k' : Ky) :
    (∃ z ∈ m.L.set i y, z.k = k' ∧ z.g = c ∧ 0 < z.p) ↔ (k' = k ∧ y.g = c ∧ 0 < y.p) ∨ (k' ≠ k ∧ ∃ z ∈ m.L, z.k = k' ∧ z.g = c ∧ 0 < z.p) := by
  constructor
  · rintro ⟨z, hz, h1, h2, h3⟩
    rcases (mem_set nd hg y z).1 hz with rfl | ⟨h4, h5⟩
    · exact .inl ⟨h1.symm.trans hy, h2, h3⟩
    · exact .inr ⟨fun e => h5 (h1.trans e), z, h4, h1, h2, h3⟩
  · rintro (⟨rfl, h2, h3⟩ | ⟨h0, z, hz, h1, h2, h3⟩)
    · exact ⟨y, (mem_set nd hg y y).2 (.inl rfl), hy, h2, h3⟩
    · exact ⟨z, (mem_set nd hg y z).2 (.inr ⟨hz, fun e => h0 (h1.symm.trans e)⟩), h1, h2, h3⟩
theorem Pm.Ok.know (h : m.Ok) (hl : Lacks m.L k) (hm : m.L.length < m.most) {g : Int} (hg : g = 0 ∨ g = 1) : (m.know k g).Ok := by
  have hmem : ∀ c k', (∃ z ∈ m.L ++ [(⟨k, g, 0, 0⟩ : Kn)], z.k = k' ∧ z.g = c ∧ 0 < z.p) ↔ ∃ z ∈ m.L, z.k = k' ∧ z.g = c ∧ 0 < z.p := by
    intro c k'
    constructor
    · rintro ⟨z, hz, h1, h2, h3⟩
      rcases List.mem_append.1 hz with hz | hz
      · exact ⟨z, hz, h1, h2, h3⟩
      · simp at hz; subst hz; simp at h3
    · rintro ⟨z, hz, h1, h2, h3⟩
      exact ⟨z, List.mem_append_left _ hz, h1, h2, h3⟩
  refine ⟨h.mo, by simp [Pm.know, Pm.setL]; omega, h.r0, h.t0, ?_, ?_, ?_, h.d0, h.d1, fun k' => (h.m0 k').trans (hmem 0 k').symm, fun k' => (h.m1 k').trans (hmem 1 k').symm⟩
  · intro a b u v hu hv he
    simp only [Pm.know, Pm.setL, List.getElem?_append] at hu hv
    split at hu <;> split at hv
    · exact h.nd a b u v hu hv he
    · next h1 h2 =>
      have hu' := List.mem_of_getElem? hu
      have : v.k = k := by
        rcases hb : b - m.L.length with _ | n
        · rw [hb] at hv; simp at hv; rw [← hv]
        · rw [hb] at hv; simp at hv
      exact absurd (he.trans this) (hl u hu')
    · next h1 h2 =>
      have hv' := List.mem_of_getElem? hv
      have : u.k = k := by
        rcases hb : a - m.L.length with _ | n
        · rw [hb] at hu; simp at hu; rw [← hu]
        · rw [hb] at hu; simp at hu
      exact absurd (he.symm.trans this) (hl v hv')
    · next h1 h2 =>
      have ha := (List.getElem?_eq_some_iff.1 hu).1
      have hb := (List.getElem?_eq_some_iff.1 hv).1
      simp at ha hb
      omega
  · intro z hz
    rcases List.mem_append.1 hz with hz | hz
    · exact h.gl z hz
    · simp at hz; subst hz; exact hg
  · intro z hz
    rcases List.mem_append.1 hz with hz | hz
    · exact h.pe z hz
    · simp at hz; subst hz; exact ⟨by simp, by simp, by simp, h.t0⟩
theorem nodup_snoc {q : List Ky} (h : q.Nodup) (hk : k ∉ q) : (q ++ [k]).Nodup := by
  rw [List.nodup_append]
  exact ⟨h, by simp, fun a ha b hb => by simp at hb; subst hb; rintro rfl; exact hk ha⟩
theorem Pm.Ok.owe (h : m.Ok) (hg : Got m.L k i x) {n : Int} (h1 : 1 ≤ n) (h2 : x.p + n ≤ 1152921504606846976) : (m.owe i x n).Ok := by
  have hx := h.pe x hg.mem
  have hgl := h.gl x hg.mem
  have hk := hg.key
  have hw := fun c k' => wait_set h.nd hg (y := x.more n) hk c k'
  have hpos : 0 < (x.more n).p := by show 0 < x.p + n; omega
  have hnd := nd_set h.nd hg (y := x.more n) hk
  have hmg : ∀ z ∈ m.L.set i (x.more n), z.g = 0 ∨ z.g = 1 := fun z hz => by
    rcases (mem_set h.nd hg _ z).1 hz with rfl | ⟨h3, _⟩
    · exact hgl
    · exact h.gl z h3
  have hmp : ∀ z ∈ m.L.set i (x.more n), 0 ≤ z.p ∧ z.p ≤ 1152921504606846976 ∧ 0 ≤ z.i ∧ z.i ≤ m.total := fun z hz => by
    rcases (mem_set h.nd hg _ z).1 hz with rfl | ⟨h3, _⟩
    · exact ⟨by show 0 ≤ x.p + n; omega, h2, hx.2.2.1, hx.2.2.2⟩
    · exact h.pe z h3
  have hi0 := h.in0 hg
  have hi1 := h.in1 hg
  have hq0 : ∀ k', k' ∈ m.q0 ↔ (k' = k ∧ x.g = 0 ∧ 0 < x.p) ∨ (k' ≠ k ∧ ∃ z ∈ m.L, z.k = k' ∧ z.g = 0 ∧ 0 < z.p) := fun k' => by
    by_cases e : k' = k
    · subst e; simp [hi0]
    · simp [e, h.m0 k']
  have hq1 : ∀ k', k' ∈ m.q1 ↔ (k' = k ∧ x.g = 1 ∧ 0 < x.p) ∨ (k' ≠ k ∧ ∃ z ∈ m.L, z.k = k' ∧ z.g = 1 ∧ 0 < z.p) := fun k' => by
    by_cases e : k' = k
    · subst e; simp [hi1]
    · simp [e, h.m1 k']
  unfold Pm.owe Pm.push Pm.setL
  by_cases hp : x.p = 0
  · rw [if_pos hp]
    have hn0 : k ∉ m.q0 := fun e => by have := (hi0.1 e).2; omega
    have hn1 : k ∉ m.q1 := fun e => by have := (hi1.1 e).2; omega
    rcases hgl with hg0 | hg1
    · rw [if_neg (by omega)]
      refine ⟨h.mo, by simpa using h.ll, h.r0, h.t0, hnd, hmg, hmp, by rw [hk]; exact nodup_snoc h.d0 hn0, h.d1, fun k' => ?_, fun k' => ?_⟩
      · rw [hw 0 k']
        simp only [List.mem_append, List.mem_singleton, hk, hq0 k', hp]
        have : (x.more n).g = 0 := hg0
        simp only [this, hpos, hg0]
        constructor
        · rintro ((⟨_, _, h⟩ | h) | h)
          · omega
          · exact .inr h
          · exact .inl ⟨h, trivial, trivial⟩
        · rintro (⟨h, _⟩ | h)
          · exact .inr h
          · exact .inl (.inr h)
      · rw [hw 1 k', hq1 k']
        have : (x.more n).g = 0 := hg0
        simp [this, hg0]
    · rw [if_pos hg1]
      refine ⟨h.mo, by simpa using h.ll, h.r0, h.t0, hnd, hmg, hmp, h.d0, by rw [hk]; exact nodup_snoc h.d1 hn1, fun k' => ?_, fun k' => ?_⟩
      · rw [hw 0 k', hq0 k']
        have : (x.more n).g = 1 := hg1
        simp [this, hg1]
      · rw [hw 1 k']
        simp only [List.mem_append, List.mem_singleton, hk, hq1 k', hp]
        have : (x.more n).g = 1 := hg1
        simp only [this, hpos, hg1]
        constructor
        · rintro ((⟨_, _, h⟩ | h) | h)
          · omega
          · exact .inr h
          · exact .inl ⟨h, trivial, trivial⟩
        · rintro (⟨h, _⟩ | h)
          · exact .inr h
          · exact .inl (.inr h)
  · rw [if_neg hp]
    have hp' : 0 < x.p := by omega
    refine ⟨h.mo, by simpa using h.ll, h.r0, h.t0, hnd, hmg, hmp, h.d0, h.d1, fun k' => ?_, fun k' => ?_⟩
    · rw [hw 0 k', hq0 k']
      have : (x.more n).g = x.g := rfl
      simp [this, hpos, hp']
    · rw [hw 1 k', hq1 k']
      have : (x.more n).g = x.g := rfl
      simp [this, hpos, hp']
theorem Pm.Ok.forget (h : m.Ok) (hg : Got m.L k i x) : (m.forget i k).Ok := by
  have hm := mem_erase h.nd hg
  have hw : ∀ c k', (∃ z ∈ m.L.eraseIdx i, z.k = k' ∧ z.g = c ∧ 0 < z.p) ↔ (k' ≠ k ∧ ∃ z ∈ m.L, z.k = k' ∧ z.g = c ∧ 0 < z.p) := by
    intro c k'
    constructor
    · rintro ⟨z, hz, h1, h2, h3⟩
      obtain ⟨h4, h5⟩ := (hm z).1 hz
      exact ⟨fun e => h5 (h1.trans e), z, h4, h1, h2, h3⟩
    · rintro ⟨h0, z, hz, h1, h2, h3⟩
      exact ⟨z, (hm z).2 ⟨hz, fun e => h0 (h1.symm.trans e)⟩, h1, h2, h3⟩
  have hl := List.length_eraseIdx_le m.L i
  refine ⟨h.mo, Nat.le_trans hl h.ll, h.r0, h.t0, ?_, fun z hz => h.gl z ((hm z).1 hz).1, fun z hz => h.pe z ((hm z).1 hz).1, h.d0.filter _, h.d1.filter _, fun k' => ?_, fun k' => ?_⟩
  · intro a b u v hu hv he
    simp only [Pm.forget, List.getElem?_eraseIdx] at hu hv
    split at hu <;> split at hv
    · exact h.nd a b u v hu hv he
    · have := h.nd a (b + 1) u v hu hv he; omega
    · have := h.nd (a + 1) b u v hu hv he; omega
    · have := h.nd (a + 1) (b + 1) u v hu hv he; omega
  · show k' ∈ m.q0.filter (not_ k) ↔ ∃ z ∈ m.L.eraseIdx i, _
    rw [hw 0 k', List.mem_filter, h.m0 k']
    simp [not_, and_comm]
  · show k' ∈ m.q1.filter (not_ k) ↔ ∃ z ∈ m.L.eraseIdx i, _
    rw [hw 1 k', List.mem_filter, h.m1 k']
    simp [not_, and_comm]
theorem turn_pop (h : m.Ok) {km : Ky × Pm} (hp : m.pop = some km) : (∃ r, m.turn = 0 ∧ m.q0 = km.1 :: r ∧ km.2 = { m with q0 := r, run := 0, total := m.total + 1 }) ∨
    ∃ r, m.turn = 1 ∧ m.q1 = km.1 :: r ∧ km.2 = { m with q1 := r, run := if 0 < m.q0.length then m.run + 1 else 0, total := m.total + 1 } := by
  unfold Pm.pop at hp
  split at hp
  · next ht =>
    split at hp
    · cases hp
    · next k r hq =>
      injection hp with hp
      subst hp
      exact .inl ⟨r, ht, hq, rfl⟩
  · next ht =>
    split at hp
    · cases hp
    · next k r hq =>
      injection hp with hp
      subst hp
      refine .inr ⟨r, ?_, hq, rfl⟩
      unfold Pm.turn at ht ⊢
      split at ht
      · exact absurd rfl ht
      · next hh => rw [if_neg hh]
/-- Whose turn it is is known, and owed something. -/
theorem Pm.Ok.popped (h : m.Ok) {km : Ky × Pm} (hp : m.pop = some km) : ∃ i x, Got m.L km.1 i x ∧ 0 < x.p ∧ km.2.L = m.L ∧ x.g = m.turn := by
  rcases turn_pop h hp with ⟨r, h1, h2, h3⟩ | ⟨r, h1, h2, h3⟩
  · obtain ⟨i, x, hg, hx, hpx⟩ := h.got0 (k := km.1) (by rw [h2]; simp)
    exact ⟨i, x, hg, hpx, by rw [h3], by rw [hx, h1]⟩
  · obtain ⟨i, x, hg, hx, hpx⟩ := h.got1 (k := km.1) (by rw [h2]; simp)
    exact ⟨i, x, hg, hpx, by rw [h3], by rw [hx, h1]⟩
theorem Pm.Ok.tick (h : m.Ok) : (m.tickR).1.Ok ∧ m.tickR.1.total ≤ m.total + 1 := by
  unfold Pm.tickR
  cases hp : m.pop with
  | none => exact ⟨h, by show m.total ≤ _; omega⟩
  | some km =>
    obtain ⟨i, x, hg, hx, hL, hxg⟩ := h.popped hp
    have hgt := got_ix hg
    rw [← hL] at hgt
    simp only [hgt]
    have hk := hg.key
    have hpe := h.pe x hg.mem
    have hgl := h.gl x hg.mem
    have hw := fun c k' => wait_set h.nd hg (y := x.told) hk c k'
    have hnd := nd_set h.nd hg (y := x.told) hk
    have hmg : ∀ z ∈ m.L.set i x.told, z.g = 0 ∨ z.g = 1 := fun z hz => by
      rcases (mem_set h.nd hg _ z).1 hz with rfl | ⟨h3, _⟩
      · exact hgl
      · exact h.gl z h3
    have hmp : ∀ z ∈ m.L.set i x.told, 0 ≤ z.p ∧ z.p ≤ 1152921504606846976 ∧ 0 ≤ z.i ∧ z.i ≤ m.total + 1 := fun z hz => by
      rcases (mem_set h.nd hg _ z).1 hz with rfl | ⟨h3, _⟩
      · exact ⟨by show 0 ≤ x.p - 1; omega, by show x.p - 1 ≤ _; omega, by show 0 ≤ x.i + 1; omega, by show x.i + 1 ≤ _; omega⟩
      · have := h.pe z h3; omega
    have h0 := h.t0
    have hr := h.r0
    have hll := h.ll
    rcases turn_pop h hp with ⟨r, h1, h2, h3⟩ | ⟨r, h1, h2, h3⟩
    · have hg0 : x.g = 0 := by rw [hxg, h1]
      have htg : x.told.g = 0 := hg0
      have hn := h.d0
      rw [h2] at hn
      obtain ⟨hkr, hnr⟩ := List.nodup_cons.1 hn
      have hq0 : ∀ k', k' ∈ r ↔ k' ≠ km.1 ∧ ∃ z ∈ m.L, z.k = k' ∧ z.g = 0 ∧ 0 < z.p := fun k' => by
        have := h.m0 k'
        rw [h2, List.mem_cons] at this
        rw [← this]
        constructor
        · intro e
          exact ⟨fun e2 => hkr (e2 ▸ e), .inr e⟩
        · rintro ⟨e1, e2 | e2⟩
          · exact absurd e2 e1
          · exact e2
      have hq1 : ∀ k', k' ∈ m.q1 ↔ ∃ z ∈ m.L.set i x.told, z.k = k' ∧ z.g = 1 ∧ 0 < z.p := fun k' => by
        rw [hw 1 k']
        by_cases e : k' = km.1
        · subst e; simp [h.in1 hg, htg, hg0]
        · simp [e, h.m1 k']
      rw [h3]
      unfold Pm.issue Pm.push Pm.setL
      by_cases hpx : 0 < x.p - 1
      · rw [if_pos hpx, if_neg (by omega)]
        have htp : 0 < x.told.p := hpx
        refine ⟨⟨h.mo, by simpa using hll, by simp, by show 0 ≤ m.total + 1; omega, hnd, hmg, hmp, by rw [hk]; exact nodup_snoc hnr hkr, h.d1, fun k' => ?_, hq1⟩, by simp⟩
        rw [hw 0 k']
        simp only [List.mem_append, List.mem_singleton, hk, hq0 k', htg, htp]
        constructor
        · rintro (e | e)
          · exact .inr e
          · exact .inl ⟨e, trivial, trivial⟩
        · rintro (⟨e, _⟩ | e)
          · exact .inr e
          · exact .inl e
      · rw [if_neg hpx]
        have htp : ¬ 0 < x.told.p := hpx
        refine ⟨⟨h.mo, by simpa using hll, by simp, by show 0 ≤ m.total + 1; omega, hnd, hmg, hmp, hnr, h.d1, fun k' => ?_, hq1⟩, by simp⟩
        rw [hw 0 k', hq0 k']
        simp [htp]
    · have hg1 : x.g = 1 := by rw [hxg, h1]
      have htg : x.told.g = 1 := hg1
      have hn := h.d1
      rw [h2] at hn
      obtain ⟨hkr, hnr⟩ := List.nodup_cons.1 hn
      have hq1 : ∀ k', k' ∈ r ↔ k' ≠ km.1 ∧ ∃ z ∈ m.L, z.k = k' ∧ z.g = 1 ∧ 0 < z.p := fun k' => by
        have := h.m1 k'
        rw [h2, List.mem_cons] at this
        rw [← this]
        constructor
        · intro e
          exact ⟨fun e2 => hkr (e2 ▸ e), .inr e⟩
        · rintro ⟨e1, e2 | e2⟩
          · exact absurd e2 e1
          · exact e2
      have hq0 : ∀ k', k' ∈ m.q0 ↔ ∃ z ∈ m.L.set i x.told, z.k = k' ∧ z.g = 0 ∧ 0 < z.p := fun k' => by
        rw [hw 0 k']
        by_cases e : k' = km.1
        · subst e; simp [h.in0 hg, htg, hg1]
        · simp [e, h.m0 k']
      have hrun : 0 ≤ (if 0 < m.q0.length then m.run + 1 else 0) ∧ (if 0 < m.q0.length then m.run + 1 else 0) ≤ 4 := by
        unfold Pm.turn at h1
        have : 0 < m.q1.length := by rw [h2]; simp
        split
        · next hh =>
          split at h1
          · omega
          · omega
        · omega
      rw [h3]
      unfold Pm.issue Pm.push Pm.setL
      by_cases hpx : 0 < x.p - 1
      · rw [if_pos hpx, if_pos hg1]
        have htp : 0 < x.told.p := hpx
        refine ⟨⟨h.mo, by simpa using hll, hrun, by show 0 ≤ m.total + 1; omega, hnd, hmg, hmp, h.d0, by rw [hk]; exact nodup_snoc hnr hkr, hq0, fun k' => ?_⟩, by simp⟩
        rw [hw 1 k']
        simp only [List.mem_append, List.mem_singleton, hk, hq1 k', htg, htp]
        constructor
        · rintro (e | e)
          · exact .inr e
          · exact .inl ⟨e, trivial, trivial⟩
        · rintro (⟨e, _⟩ | e)
          · exact .inr e
          · exact .inl e
      · rw [if_neg hpx]
        have htp : ¬ 0 < x.told.p := hpx
        refine ⟨⟨h.mo, by simpa using hll, hrun, by show 0 ≤ m.total + 1; omega, hnd, hmg, hmp, h.d0, hnr, hq0, fun k' => ?_⟩, by simp⟩
        rw [hw 1 k', hq1 k']
        simp [htp]
theorem Pm.Ok.new {most : Nat} (h1 : 1 ≤ most) (h2 : most ≤ 512) : (Pm.new most).Ok :=
  ⟨⟨h1, h2⟩, Nat.zero_le _, ⟨Int.le_refl _, by show (0 : Int) ≤ 4; decide⟩, Int.le_refl _, by intro i j x y h; simp [Pm.new] at h, by simp [Pm.new], by simp [Pm.new], by simp [Pm.new], by simp [Pm.new], by simp [Pm.new], by simp [Pm.new]⟩
theorem Pm.Ok.knowR (h : m.Ok) (k : Ky) (g : Int) : (m.knowR k g).1.Ok ∧ (m.knowR k g).1.total = m.total := by
  unfold Pm.knowR
  split
  · next h1 =>
    split
    · exact ⟨h, rfl⟩
    · next h2 =>
      split
      · exact ⟨h, rfl⟩
      · next h3 =>
        refine ⟨h.know ?_ (by omega) h1.2, rfl⟩
        rcases got_or m.L k with ⟨i, x, hg⟩ | hl
        · exact absurd (of_got hg).2 h2
        · exact hl
  · exact ⟨h, rfl⟩
theorem push_total (m : Pm) (g : Int) (k : Ky) : (m.push g k).total = m.total ∧ (m.push g k).most = m.most ∧ (m.push g k).L = m.L ∧ (m.push g k).run = m.run := by
  unfold Pm.push; split <;> exact ⟨rfl, rfl, rfl, rfl⟩
theorem Pm.Ok.oweR (h : m.Ok) (k : Ky) (n : Int) : (m.oweR k n).1.Ok ∧ (m.oweR k n).1.total = m.total := by
  unfold Pm.oweR
  split
  · exact ⟨h, rfl⟩
  · next ix hix =>
    split
    · exact ⟨h, rfl⟩
    · next h1 =>
      split
      · exact ⟨h, rfl⟩
      · next h2 =>
        have hg : Got m.L k ix.1 ix.2 := ix_got hix
        refine ⟨h.owe hg (by omega) (by omega), ?_⟩
        unfold Pm.owe Pm.setL
        simp only
        split
        · exact (push_total _ _ _).1
        · rfl
theorem Pm.Ok.forgetR (h : m.Ok) (k : Ky) : (m.forgetR k).1.Ok ∧ (m.forgetR k).1.total = m.total := by
  unfold Pm.forgetR
  split
  · exact ⟨h, rfl⟩
  · next ix hix => exact ⟨h.forget (x := ix.2) (ix_got hix), rfl⟩
end
end Go.Proofs.Ytdldocbfnjbhmaa
