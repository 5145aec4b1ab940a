/- A pacer by value and in memory; the calls that ask. -/
import Derived.Test.YtdldocbfnjbhmaaK4
import Derived.Test.YtdldocbfnjbhmaaRegL
import Derived.Test.YtdldocbfnjbhmaaTab
set_option linter.unusedSimpArgs false
set_option linter.unusedVariables false
set_option maxRecDepth 100000
namespace Go.Proofs.Ytdldocbfnjbhmaa
open Go.RowKit Go.Shelf

structure Pm where
  most : Nat
  L : List Kn
  q0 : List Ky
  q1 : List Ky
  run : Int
  total : Int
/-- Where in L a key stands, and what is known of it. -/
def ixOf : List Kn → Ky → Option (Nat × Kn)
  | [], _ => none
  | x :: l, k => if x.k = k then some (0, x) else (ixOf l k).map fun ix => (ix.1 + 1, ix.2)
theorem ix_got {k : Ky} : ∀ {L : List Kn} {i : Nat} {x : Kn}, ixOf L k = some (i, x) → Got L k i x
  | [], i, x, h => by simp [ixOf] at h
  | y :: l, i, x, h => by
    unfold ixOf at h
    split at h
    · next hy =>
      simp at h
      obtain ⟨rfl, rfl⟩ := h
      exact ⟨rfl, hy, fun j _ hj => by omega⟩
    · next hy =>
      obtain ⟨⟨j, z⟩, hj, he⟩ := Option.map_eq_some_iff.1 h
      simp at he
      obtain ⟨rfl, rfl⟩ := he
      obtain ⟨h1, h2, h3⟩ := ix_got hj
      refine ⟨by simpa using h1, h2, fun j' z' hj' hz' => ?_⟩
      cases j' with
      | zero => simp at hz'; subst hz'; exact hy
      | succ j' => exact h3 j' z' (by omega) (by simpa using hz')
theorem ix_none {k : Ky} : ∀ {L : List Kn}, ixOf L k = none → Lacks L k
  | [], _ => by intro x hx; cases hx
  | y :: l, h => by
    unfold ixOf at h
    split at h
    · cases h
    · next hy =>
      have h2 := ix_none (Option.map_eq_none_iff.1 h)
      intro z hz
      rcases List.mem_cons.1 hz with rfl | hz
      · exact hy
      · exact h2 z hz
theorem got_ix {L : List Kn} {k : Ky} {i : Nat} {x : Kn} (h : Got L k i x) : ixOf L k = some (i, x) := by
  cases hx : ixOf L k with
  | none => exact absurd h.key (ix_none hx x h.mem)
  | some ix =>
    obtain ⟨j, y⟩ := ix
    have hj := ix_got hx
    rcases (by omega : i = j ∨ i < j ∨ j < i) with rfl | hlt | hlt
    · have := h.1.symm.trans hj.1; simp at this; rw [this]
    · exact absurd h.key (hj.2.2 i x hlt h.1)
    · exact absurd hj.key (h.2.2 j y hlt hj.1)
theorem lacks_ix {L : List Kn} {k : Ky} (h : Lacks L k) : ixOf L k = none := by
  cases hx : ixOf L k with
  | none => rfl
  | some ix => exact absurd (ix_got hx).key (h _ (ix_got hx).mem)
/-- What is known of a key: all zero, if nothing is. -/
def ofKey (L : List Kn) (k : Ky) : Kn := match ixOf L k with | some ix => ix.2 | none => zKn
def isIn (L : List Kn) (k : Ky) : Bool := (ixOf L k).isSome
theorem of_got {L : List Kn} {k : Ky} {i : Nat} {x : Kn} (h : Got L k i x) : ofKey L k = x ∧ isIn L k = true := by simp [ofKey, isIn, got_ix h]
theorem of_lacks {L : List Kn} {k : Ky} (h : Lacks L k) : ofKey L k = zKn ∧ isIn L k = false := by simp [ofKey, isIn, lacks_ix h]
def validB (k : Ky) : Bool := decide (0 ≤ k.s ∧ k.s < 8 ∧ 1 ≤ k.c ∧ k.c ≤ 1073741824)

/-- What holds of a pacer's numbers, and of its queues. -/
structure Pm.Ok (m : Pm) : Prop where
  mo : 1 ≤ m.most ∧ m.most ≤ 512
  ll : m.L.length ≤ m.most
  r0 : 0 ≤ m.run ∧ m.run ≤ 4
  t0 : 0 ≤ m.total
  nd : ∀ (i j : Nat) (x y : Kn), m.L[i]? = some x → m.L[j]? = some y → x.k = y.k → i = j
  gl : ∀ x ∈ m.L, x.g = 0 ∨ x.g = 1
  pe : ∀ x ∈ m.L, 0 ≤ x.p ∧ x.p ≤ 1152921504606846976 ∧ 0 ≤ x.i ∧ x.i ≤ m.total
  d0 : m.q0.Nodup
  d1 : m.q1.Nodup
  m0 : ∀ k, k ∈ m.q0 ↔ ∃ x ∈ m.L, x.k = k ∧ x.g = 0 ∧ 0 < x.p
  m1 : ∀ k, k ∈ m.q1 ↔ ∃ x ∈ m.L, x.k = k ∧ x.g = 1 ∧ 0 < x.p

/-- Blocks p, b, p0 and p1: a pacer, its map, its queues; all of it lies in F. -/
structure PcX (F : Nat → Prop) (w : World) (p b p0 p1 : Nat) (F0 F1 : Nat → Prop) (m : Pm) : Prop where
  mo : 1 ≤ m.most ∧ m.most ≤ 512
  fp : F p
  fb : F b
  ne : p ≠ b
  bk : Bk w 69 p [.int .i64 m.most, .map (some b), .pointer (some ⟨p0, 0, none⟩), .pointer (some ⟨p1, 0, none⟩), .int .i64 m.run, .int .i64 m.total]
  mp : MpB w b m.L
  s0 : Qs F0 w p0 m.most m.q0
  s1 : Qs F1 w p1 m.most m.q1
  f0 : ∀ k, F0 k → F k ∧ k ≠ p ∧ k ≠ b ∧ ¬ F1 k
  f1 : ∀ k, F1 k → F k ∧ k ≠ p ∧ k ≠ b
  bd : ∀ k, F k → k < w.heap.size
/-- The pacer at p is m; all of it lies in F. -/
def PcA (F : Nat → Prop) (w : World) (p : Nat) (m : Pm) : Prop := ∃ b p0 p1 F0 F1, PcX F w p b p0 p1 F0 F1 m
/-- The pacer is m now; nothing else of what was there has changed. -/
def DidP (F : Nat → Prop) (p : Nat) (m : Pm) (w w' : World) : Prop := ∃ F', PcA F' w' p m ∧ St F w w' ∧ Gr F F' w.heap.size
/-- A pacer that nobody made. -/
def NoP (w : World) (P : Option Addr) : Prop := P = none ∨ ∃ p, P = some ⟨p, 0, none⟩ ∧ Bk w 69 p [.int .i64 0, .map none, .pointer none, .pointer none, .int .i64 0, .int .i64 0]
section
variable {F F' F0 F1 : Nat → Prop} {w w' : World} {p b p0 p1 : Nat} {m : Pm} {P : Option Addr}
theorem PcX.st (h : PcX F w p b p0 p1 F0 F1 m) {G : Nat → Prop} (hs : St G w w') (hG : ∀ k, F k → ¬ G k) : PcX F w' p b p0 p1 F0 F1 m :=
  ⟨h.mo, h.fp, h.fb, h.ne, h.bk.st hs (hG _ h.fp), h.mp.st hs (hG _ h.fb), h.s0.st hs fun k hk => hG _ (h.f0 k hk).1, h.s1.st hs fun k hk => hG _ (h.f1 k hk).1, h.f0, h.f1, fun k hk => Nat.lt_of_lt_of_le (h.bd k hk) hs.size⟩
theorem PcX.below (h : PcX F w p b p0 p1 F0 F1 m) (hb : Below w.heap.size w w') : PcX F w' p b p0 p1 F0 F1 m := h.st (G := fun _ => False) (St.ext hb) fun _ _ => id
theorem PcA.st (h : PcA F w p m) {G : Nat → Prop} (hs : St G w w') (hG : ∀ k, F k → ¬ G k) : PcA F w' p m := by
  obtain ⟨b, p0, p1, F0, F1, h⟩ := h
  exact ⟨b, p0, p1, F0, F1, h.st hs hG⟩
theorem PcA.below (h : PcA F w p m) (hb : Below w.heap.size w w') : PcA F w' p m := h.st (G := fun _ => False) (St.ext hb) fun _ _ => id
theorem PcA.bd (h : PcA F w p m) : ∀ k, F k → k < w.heap.size := by
  obtain ⟨b, p0, p1, F0, F1, h⟩ := h
  exact h.bd
theorem PcA.fp (h : PcA F w p m) : F p := by
  obtain ⟨b, p0, p1, F0, F1, h⟩ := h
  exact h.fp
theorem PcA.mo (h : PcA F w p m) : 1 ≤ m.most ∧ m.most ≤ 512 := by
  obtain ⟨b, p0, p1, F0, F1, h⟩ := h
  exact h.mo
theorem NoP.below (h : NoP w P) (hb : Below w.heap.size w w') : NoP w' P := by
  rcases h with h | ⟨p, h, h'⟩
  · exact .inl h
  · exact .inr ⟨p, h, h'.below hb⟩
theorem DidP.same (h : PcA F w p m) (hb : Below w.heap.size w w') : DidP F p m w w' := ⟨F, h.below hb, St.ext hb, Gr.refl _ _⟩
theorem DidP.trans {m' : Pm} {w1 w2 : World} (h : DidP F p m w w1) (k : ∀ F', PcA F' w1 p m → DidP F' p m' w1 w2) : DidP F p m' w w2 := by
  obtain ⟨F', h1, h2, h3⟩ := h
  obtain ⟨F2, k1, k2, k3⟩ := k F' h1
  exact ⟨F2, k1, h2.trans k2 h3, h3.trans k3 h2.size⟩
theorem DidP.after {m' : Pm} {w1 w2 : World} (hb : Below w.heap.size w w1) (k : DidP F p m' w1 w2) : DidP F p m' w w2 := by
  obtain ⟨F2, k1, k2, k3⟩ := k
  exact ⟨F2, k1, (St.ext hb).trans k2 (Gr.refl _ _), fun i hi => (k3 i hi).imp_right fun h => Nat.le_trans hb.size h⟩
theorem DidP.next {w1 w2 : World} (h : DidP F p m w w1) (hb : Below w1.heap.size w1 w2) : DidP F p m w w2 := h.trans fun F' hA => DidP.same hA hb
/-- One of the pacer's own numbers is written. -/
theorem PcX.box (h : PcX F w p b p0 p1 F0 F1 m) {j : Nat} {v : Value} (m' : Pm)
    (hset : [Value.int .i64 m.most, .map (some b), .pointer (some ⟨p0, 0, none⟩), .pointer (some ⟨p1, 0, none⟩), .int .i64 m.run, .int .i64 m.total].set j v = [.int .i64 m'.most, .map (some b), .pointer (some ⟨p0, 0, none⟩), .pointer (some ⟨p1, 0, none⟩), .int .i64 m'.run, .int .i64 m'.total])
    (hmo : m'.most = m.most) (hL : m'.L = m.L) (h0 : m'.q0 = m.q0) (h1 : m'.q1 = m.q1) : PcX F (w.setCell ⟨p, j, none⟩ v) p b p0 p1 F0 F1 m' ∧ St F w (w.setCell ⟨p, j, none⟩ v) := by
  have hst : St (· = p) w (w.setCell ⟨p, j, none⟩ v) := St.setCell (F := (· = p)) w (a := ⟨p, j, none⟩) rfl _
  have hb := h.bk.set j v
  rw [hset] at hb
  refine ⟨⟨by rw [hmo]; exact h.mo, h.fp, h.fb, h.ne, hb, by rw [hL]; exact h.mp.st hst (fun e => h.ne e.symm), by rw [h0, hmo]; exact h.s0.st hst fun k hk => (h.f0 k hk).2.1, by rw [h1, hmo]; exact h.s1.st hst fun k hk => (h.f1 k hk).2.1, h.f0, h.f1, fun k hk => by simpa [World.setCell] using h.bd k hk⟩, hst.mono fun k _ hk => hk ▸ h.fp⟩
/-- The map is turned. -/
theorem PcX.map (h : PcX F w p b p0 p1 F0 F1 m) {L : List Kn} (hm : MpB w' b L) (hs : St (· = b) w w') : PcX F w' p b p0 p1 F0 F1 { m with L := L } ∧ St F w w' :=
  ⟨⟨h.mo, h.fp, h.fb, h.ne, h.bk.st hs h.ne, hm, h.s0.st hs fun k hk => (h.f0 k hk).2.2.1, h.s1.st hs fun k hk => (h.f1 k hk).2.2, h.f0, h.f1, fun k hk => Nat.lt_of_lt_of_le (h.bd k hk) hs.size⟩, hs.mono fun k _ hk => hk ▸ h.fb⟩
/-- A queue is turned. -/
theorem PcX.turn0 (h : PcX F w p b p0 p1 F0 F1 m) {q : List Ky} (hd : DidQ F0 p0 m.most q w w') : ∃ F' F0', PcX F' w' p b p0 p1 F0' F1 { m with q0 := q } ∧ St F w w' ∧ Gr F F' w.heap.size := by
  obtain ⟨F0', hq, hs, hg⟩ := hd
  have hp := h.bd _ h.fp
  have hb := h.bd _ h.fb
  have hn : ∀ k, F0' k → k ≠ p ∧ k ≠ b ∧ ¬ F1 k := fun k hk => by
    rcases hg k hk with h1 | h1
    · exact (h.f0 k h1).2
    · exact ⟨by omega, by omega, fun hf => by have := h.s1.bd k hf; omega⟩
  refine ⟨fun k => F k ∨ F0' k, F0', ⟨h.mo, .inl h.fp, .inl h.fb, h.ne, h.bk.st hs fun hf => (h.f0 _ hf).2.1 rfl, h.mp.st hs fun hf => (h.f0 _ hf).2.2.1 rfl, hq, h.s1.st hs fun k hk hf => (h.f0 k hf).2.2.2 hk, fun k hk => ⟨.inr hk, hn k hk⟩, fun k hk => ⟨.inl (h.f1 k hk).1, (h.f1 k hk).2⟩, ?_⟩, hs.mono fun k _ hk => (h.f0 k hk).1, ?_⟩
  · rintro k (hk | hk)
    · exact Nat.lt_of_lt_of_le (h.bd k hk) hs.size
    · exact hq.bd k hk
  · rintro k (hk | hk)
    · exact .inl hk
    · exact (hg k hk).imp_left fun h1 => (h.f0 k h1).1
theorem PcX.turn1 (h : PcX F w p b p0 p1 F0 F1 m) {q : List Ky} (hd : DidQ F1 p1 m.most q w w') : ∃ F' F1', PcX F' w' p b p0 p1 F0 F1' { m with q1 := q } ∧ St F w w' ∧ Gr F F' w.heap.size := by
  obtain ⟨F1', hq, hs, hg⟩ := hd
  have hp := h.bd _ h.fp
  have hb := h.bd _ h.fb
  refine ⟨fun k => F k ∨ F1' k, F1', ⟨h.mo, .inl h.fp, .inl h.fb, h.ne, h.bk.st hs fun hf => (h.f1 _ hf).2.1 rfl, h.mp.st hs fun hf => (h.f1 _ hf).2.2 rfl, h.s0.st hs fun k hk hf => (h.f0 k hk).2.2.2 hf, hq, fun k hk => ⟨.inl (h.f0 k hk).1, (h.f0 k hk).2.1, (h.f0 k hk).2.2.1, fun hf => ?_⟩, fun k hk => ⟨.inr hk, ?_⟩, ?_⟩, hs.mono fun k _ hk => (h.f1 k hk).1, ?_⟩
  · rcases hg k hf with h1 | h1
    · exact (h.f0 k hk).2.2.2 h1
    · have := h.s0.bd k hk; omega
  · rcases hg k hk with h1 | h1
    · exact (h.f1 k h1).2
    · exact ⟨by omega, by omega⟩
  · rintro k (hk | hk)
    · exact Nat.lt_of_lt_of_le (h.bd k hk) hs.size
    · exact hq.bd k hk
  · rintro k (hk | hk)
    · exact .inl hk
    · exact (hg k hk).imp_left fun h1 => (h.f1 k h1).1

/-! Asked. -/
theorem p_made (h : PcA F w p m) : Calls Try.prog 27 #[.pointer (some ⟨p, 0, none⟩)] w fun e w' => e = .returned (.bool true) ∧ w = w' := by
  obtain ⟨b, p0, p1, F0, F1, h⟩ := h
  have c0 := h.bk.cell 0 rfl
  have hm : 0 < m.most := by have := h.mo; omega
  go_enter Try.func27, Try.ntmps27
  go_wp2
  go_ret
  exact ⟨by simp [hm], rfl⟩
theorem p_none (h : NoP w P) : Calls Try.prog 27 #[.pointer P] w fun e w' => e = .returned (.bool false) ∧ w = w' := by
  rcases h with rfl | ⟨p, rfl, hp⟩
  · go_enter Try.func27, Try.ntmps27
    go_wp2
    go_ret
    exact ⟨rfl, rfl⟩
  · have c0 := hp.cell 0 rfl
    go_enter Try.func27, Try.ntmps27
    go_wp2
    go_ret
    exact ⟨rfl, rfl⟩
theorem k_valid (k : Ky) (w : World) : Calls Try.prog 43 #[.agg #[.int .i64 k.s, .int .i64 k.c]] w fun e w' => e = .returned (.bool (validB k)) ∧ Below w.heap.size w w' := by
  have hb : Below w.heap.size w (w.alloc (.cells #[.int .i64 k.s, .int .i64 k.c] 39)) := (Below.refl _ w).alloc (Nat.le_refl _) _
  have HV := Lib.hid (show validB k = decide (0 ≤ k.s ∧ k.s < 8 ∧ 1 ≤ k.c ∧ k.c ≤ 1073741824) from rfl)
  generalize validB k = v at *
  rcases (by omega : 0 ≤ k.s ∨ k.s < 0) with h1 | h1 <;> rcases (by omega : k.s < 8 ∨ 8 ≤ k.s) with h2 | h2 <;> rcases (by omega : 1 ≤ k.c ∨ k.c < 1) with h3 | h3 <;> rcases (by omega : k.c ≤ 1073741824 ∨ 1073741824 < k.c) with h4 | h4
  all_goals
    go_enter Try.func43, Try.ntmps43
    go_wp2
    all_goals
      first
        | exact absurd h1 (by omega)
        | (go_ret
           refine ⟨congrArg (fun b => Ending.returned (Value.bool b)) ?_, hb⟩
           rw [HV.out]
           first
             | (symm; exact decide_eq_true (by omega))
             | (symm; exact decide_eq_false (by omega))
             | (exact decide_eq_decide.2 (by constructor <;> omega)))
theorem p_total (h : PcA F w p m) : Calls Try.prog 19 #[.pointer (some ⟨p, 0, none⟩)] w fun e w' => e = .returned (.int .i64 m.total) ∧ w = w' := by
  have HM := Lib.hid (p_made h)
  obtain ⟨b, p0, p1, F0, F1, h⟩ := h
  have c0 := h.bk.cell 5 rfl
  go_enter Try.func19, Try.ntmps19
  go_wp2_with (go_at_call 27; refine HM.out.mono ?_; rintro e w' ⟨rfl, rfl⟩)
  go_ret
  exact ⟨rfl, rfl⟩
theorem p_len (h : PcA F w p m) : Calls Try.prog 20 #[.pointer (some ⟨p, 0, none⟩)] w fun e w' => e = .returned (.int .i64 m.L.length) ∧ w = w' := by
  have HM := Lib.hid (p_made h)
  obtain ⟨b, p0, p1, F0, F1, h⟩ := h
  have c0 := h.bk.cell 1 rfl
  have hl := map_len h.mp 3
  go_enter Try.func20, Try.ntmps20
  go_wp2_with (go_at_call 27; refine HM.out.mono ?_; rintro e w' ⟨rfl, rfl⟩)
  go_ret
  exact ⟨rfl, rfl⟩
def Pm.q (m : Pm) (g : Int) : List Ky := if g = 1 then m.q1 else m.q0
theorem p_waits (h : PcA F w p m) (g : Int) (hg : g = 0 ∨ g = 1) : Calls Try.prog 47 #[.pointer (some ⟨p, 0, none⟩), .int .i64 g] w fun e w' => e = .returned (.bool (decide (0 < (m.q g).length))) ∧ Below w.heap.size w w' := by
  obtain ⟨b, p0, p1, F0, F1, h⟩ := h
  have c2 := h.bk.cell 2 rfl
  have c3 := h.bk.cell 3 rfl
  have hL0 := q_lenB h.s0
  have hL1 := q_lenB h.s1
  rcases hg with rfl | rfl
  · have HL := Lib.hid hL0
    clear hL0 hL1
    unfold Pm.q
    rw [if_neg (by decide)]
    go_enter Try.func47, Try.ntmps47
    go_wp2_with fail
    refine HL.out.mono ?_
    rintro e w' ⟨rfl, hb⟩
    go_wp2
    go_ret
    exact ⟨by simp, hb⟩
  · have HL := Lib.hid hL1
    clear hL0 hL1
    unfold Pm.q
    rw [if_pos rfl]
    go_enter Try.func47, Try.ntmps47
    go_wp2_with fail
    refine HL.out.mono ?_
    rintro e w' ⟨rfl, hb⟩
    go_wp2
    go_ret
    exact ⟨by simp, hb⟩
end
section
variable {w w' : World} {P : Program} {t ty : TypeId} {g o : Nat} {op : Oper} {a : Act}
theorem below_two {B : Nat} (hB : B ≤ w.heap.size) (o o' : Obj) : Below B (w.alloc o) (w.alloc o') :=
  ⟨rfl, rfl, rfl, by simp, fun k hk => (((Below.refl B w).alloc hB o').block k hk).trans (((Below.refl B w).alloc hB o).block k hk).symm⟩
theorem exec_lookup {m x : Operand} {c : Bool} {mv kv v : Value} (ho : op.op = .lookup t m x c) (hm : a.eval m = mv) (hx : a.eval x = kv) (h : (Instr.lookup t mv kv c).run P w = .ok v w) : (execOp a.eval op).run P w = .ok (.value v) w := by
  unfold execOp
  simp only [ho, hm, hx, Sem.run_bind, Sem.run_pure, h, Result.andThen_ok]
theorem exec_loadK (R : Row P ty 2) (x : Operand) (ho : op.op = .load ty x) (g o : Nat) (hx : a.eval x = .pointer (some ⟨g, o, none⟩)) (k : Ky) (h : w.rangeAt g o k.cl) : (execOp a.eval op).run P w = .ok (.value (.agg #[.int .i64 k.s, .int .i64 k.c])) w := by
  obtain ⟨d, h1, h2⟩ := R.ht
  have hl := run_loadVar_mid w g o ty k.cl d h h1 h2 R.hi
  unfold execOp
  simp only [ho, hx, Instr.loadAt, Instr.sureAddr, Sem.run_bind, Sem.run_pure, Result.andThen_ok, hl]
  rfl
def Kn.ac (x : Kn) : List Value := [.int .i64 x.g, .int .i64 x.p, .int .i64 x.i]
theorem Kn.ac_one (x : Kn) : ∀ v ∈ x.ac, v.oneCell' = true := by
  intro v hv
  simp only [Kn.ac, List.mem_cons, List.not_mem_nil, or_false] at hv
  rcases hv with rfl | rfl | rfl <;> rfl
theorem exec_loadA (R : Row P ty 3) (x : Operand) (ho : op.op = .load ty x) (g o : Nat) (hx : a.eval x = .pointer (some ⟨g, o, none⟩)) (k : Kn) (h : w.rangeAt g o k.ac) : (execOp a.eval op).run P w = .ok (.value (.agg #[.int .i64 k.g, .int .i64 k.p, .int .i64 k.i])) w := by
  obtain ⟨d, h1, h2⟩ := R.ht
  have hl := run_loadVar_mid w g o ty k.ac d h h1 h2 R.hi
  unfold execOp
  simp only [ho, hx, Instr.loadAt, Instr.sureAddr, Sem.run_bind, Sem.run_pure, Result.andThen_ok, hl]
  rfl
theorem rangeK {k : Ky} (h : Bk w t g k.cl) : w.rangeAt g 0 k.cl := fun j v hv => h.cell (0 + j) (by rw [Nat.zero_add]; exact hv)
theorem rangeA {k : Kn} (h : Bk w t g k.ac) : w.rangeAt g 0 k.ac := fun j v hv => h.cell (0 + j) (by rw [Nat.zero_add]; exact hv)
end
section
variable {F F' F0 F1 : Nat → Prop} {w w' : World} {p b p0 p1 : Nat} {m : Pm} {P : Option Addr}
set_option maxHeartbeats 2000000 in
theorem p_find (h : PcA F w p m) (k : Ky) : Calls Try.prog 34 #[.pointer (some ⟨p, 0, none⟩), .agg #[.int .i64 k.s, .int .i64 k.c]] w fun e w' => e = .returned (.tuple #[.agg #[.int .i64 ((ofKey m.L k)).g, .int .i64 ((ofKey m.L k)).p, .int .i64 ((ofKey m.L k)).i], .bool (isIn m.L k)]) ∧ Below w.heap.size w w' := by
  obtain ⟨W, hW⟩ : ∃ W, W = (w.alloc (.cells #[.int .i64 k.s, .int .i64 k.c] 39)).alloc (.cells #[.int .i64 zKn.g, .int .i64 zKn.p, .int .i64 zKn.i] 76) := ⟨_, rfl⟩
  have hb1 : Below w.heap.size w W := by rw [hW]; exact ((Below.refl _ w).alloc (Nat.le_refl _) _).alloc (by simp) _
  have z1 : Bk W 39 w.heap.size k.cl := by rw [hW]; exact (Bk.new w 39 k.cl).alloc _
  have z2 : Bk W 76 (w.heap.size + 1) zKn.ac := by
    have := Bk.new (w.alloc (.cells #[.int .i64 k.s, .int .i64 k.c] 39)) 76 zKn.ac
    rw [World.size_alloc] at this
    rw [hW]; exact this
  have h' := h.below hb1
  have HM := Lib.hid (p_made h')
  have hlk : ∀ W', Below W.heap.size W W' → ∀ b, MpB W' b m.L → (Instr.lookup 65 (.map (some b)) (.agg #[.int .i64 k.s, .int .i64 k.c]) true).run Try.prog W' = .ok (.tuple #[.agg #[.int .i64 ((ofKey m.L k)).g, .int .i64 ((ofKey m.L k)).p, .int .i64 ((ofKey m.L k)).i], .bool (isIn m.L k)]) W' := fun W' hb b hm => by
    rcases got_or m.L k with ⟨i, x, hg⟩ | hg
    · rw [(of_got hg).1, (of_got hg).2]; exact look_hit hm hg
    · rw [(of_lacks hg).1, (of_lacks hg).2]; exact look_miss hm hg
  generalize ofKey m.L k = x at *
  generalize isIn m.L k = y at *
  obtain ⟨b, p0, p1, F0, F1, hx⟩ := h'
  have HX := Lib.hid hx
  have HZ := Lib.hid (And.intro hb1 (And.intro z1 z2))
  have HLK := Lib.hid hlk
  clear hx z1 z2 hb1 hlk h
  have hsW : W.heap.size = w.heap.size + 2 := by rw [hW]; simp
  unfold zKn zK at hW
  go_enter Try.func34, Try.ntmps34
  go_wp2_with fail
  rw [← hW]
  have HSW := Lib.hid hsW
  clear hW hsW
  refine HM.out.mono ?_
  rintro e w' ⟨rfl, rfl⟩
  go_wp2_with fail
  refine wp_region_E (Below W.heap.size) (by kernel_rfl) (fun wd hbd hsz => ?_)
  have HBD := Lib.hid hbd
  have q1 : ∀ V, Below W.heap.size wd V → V.cell? ⟨p, 1, none⟩ = some (.map (some b)) := fun V hV => (HX.out.bk.below (HBD.out.trans hV)).cell 1 rfl
  have hsz2 := hbd.size
  clear hsz
  (refine takeE (belowTr W.heap.size) 0 (by simp only [List.getElem?_toArray, List.getElem?_cons_succ, List.getElem?_cons_zero]; rfl) (by kernel_rfl) (by kernel_rfl) (by kernel_rfl) (by exact fun _ _ _ h => h) (by first | (refine Or.inl ⟨by rfl, ?_⟩; intro W hW; go_simp; try with_reducible rfl) | exact Or.inr ⟨by rfl, rfl⟩) ?_; try simp only [Act.put, List.setIfInBounds_toArray, List.set_cons_zero, List.set_cons_succ])
  (refine takeE (belowTr W.heap.size) 4 (by simp only [List.getElem?_toArray, List.getElem?_cons_succ, List.getElem?_cons_zero]; rfl) (by kernel_rfl) (by kernel_rfl) (by kernel_rfl) (by exact fun _ _ _ h => h) (by first | (refine Or.inl ⟨by rfl, ?_⟩; intro W hW; exact exec_loadK rowK (.tmp 3) rfl w.heap.size 0 rfl k (rangeK (HZ.out.2.1.below (HBD.out.trans hW)))) | exact Or.inr ⟨by rfl, rfl⟩) ?_; try simp only [Act.put, List.setIfInBounds_toArray, List.set_cons_zero, List.set_cons_succ])
  (refine takeE (belowTr W.heap.size) 1 (by simp only [List.getElem?_toArray, List.getElem?_cons_succ, List.getElem?_cons_zero]; rfl) (by kernel_rfl) (by kernel_rfl) (by kernel_rfl) (by exact fun _ _ _ h => h) (by first | (refine Or.inl ⟨by rfl, ?_⟩; intro W hW; go_simp; try with_reducible rfl) | exact Or.inr ⟨by rfl, rfl⟩) ?_; try simp only [Act.put, List.setIfInBounds_toArray, List.set_cons_zero, List.set_cons_succ])
  (refine takeE (belowTr W.heap.size) 2 (by simp only [List.getElem?_toArray, List.getElem?_cons_succ, List.getElem?_cons_zero]; rfl) (by kernel_rfl) (by kernel_rfl) (by kernel_rfl) (by exact fun _ _ _ h => h) (by first | (refine Or.inl ⟨by rfl, ?_⟩; intro W hW; go_simp; try with_reducible rfl) | exact Or.inr ⟨by rfl, rfl⟩) ?_; try simp only [Act.put, List.setIfInBounds_toArray, List.set_cons_zero, List.set_cons_succ])
  (refine takeE (belowTr W.heap.size) 3 (by simp only [List.getElem?_toArray, List.getElem?_cons_succ, List.getElem?_cons_zero]; rfl) (by kernel_rfl) (by kernel_rfl) (by kernel_rfl) (by exact fun _ _ _ h => h) (by first | (refine Or.inl ⟨by rfl, ?_⟩; intro W hW; go_simp; try with_reducible rfl) | exact Or.inr ⟨by rfl, rfl⟩) ?_; try simp only [Act.put, List.setIfInBounds_toArray, List.set_cons_zero, List.set_cons_succ])
  (refine takeE (belowTr W.heap.size) 5 (by simp only [List.getElem?_toArray, List.getElem?_cons_succ, List.getElem?_cons_zero]; rfl) (by kernel_rfl) (by kernel_rfl) (by kernel_rfl) (by exact fun _ _ _ h => h) (by first | (refine Or.inl ⟨by rfl, ?_⟩; intro W hW; exact exec_lookup rfl rfl rfl (HLK.out _ (HBD.out.trans hW) b (HX.out.below (HBD.out.trans hW)).mp)) | exact Or.inr ⟨by rfl, rfl⟩) ?_; try simp only [Act.put, List.setIfInBounds_toArray, List.set_cons_zero, List.set_cons_succ])
  (refine takeE (belowTr W.heap.size) 6 (by simp only [List.getElem?_toArray, List.getElem?_cons_succ, List.getElem?_cons_zero]; rfl) (by kernel_rfl) (by kernel_rfl) (by kernel_rfl) (by exact fun _ _ _ h => h) (by first | (refine Or.inl ⟨by rfl, ?_⟩; intro W hW; go_simp; try with_reducible rfl) | exact Or.inr ⟨by rfl, rfl⟩) ?_; try simp only [Act.put, List.setIfInBounds_toArray, List.set_cons_zero, List.set_cons_succ])
  (refine takeE (belowTr W.heap.size) 7 (by simp only [List.getElem?_toArray, List.getElem?_cons_succ, List.getElem?_cons_zero]; rfl) (by kernel_rfl) (by kernel_rfl) (by kernel_rfl) (by exact fun _ _ _ h => h) (by first | (refine Or.inl ⟨by rfl, ?_⟩; intro W hW; go_simp; try with_reducible rfl) | exact Or.inr ⟨by rfl, rfl⟩) ?_; try simp only [Act.put, List.setIfInBounds_toArray, List.set_cons_zero, List.set_cons_succ])
  (refine takeE (belowTr W.heap.size) 8 (by simp only [List.getElem?_toArray, List.getElem?_cons_succ, List.getElem?_cons_zero]; rfl) (by kernel_rfl) (by kernel_rfl) (by kernel_rfl) (by exact fun _ _ _ h => h) (by first | (refine Or.inl ⟨by rfl, ?_⟩; intro W hW; go_simp; try with_reducible rfl) | exact Or.inr ⟨by rfl, rfl⟩) ?_; try simp only [Act.put, List.setIfInBounds_toArray, List.set_cons_zero, List.set_cons_succ])
  refine wpAnyE_one (i := 9) (by kernel_rfl) (by simp only [List.getElem?_toArray, List.getElem?_cons_succ, List.getElem?_cons_zero]; rfl) (fun K hK => ?_)
  go_simp
  skip
  refine hK.out _ _ ((Below.refl _ _).alloc hsz2 _) ?_
  clear hK K
  try simp only [Act.put, List.setIfInBounds_toArray, List.set_cons_zero, List.set_cons_succ]
  refine wpAnyE_one (i := 10) (by kernel_rfl) (by simp only [List.getElem?_toArray, List.getElem?_cons_succ, List.getElem?_cons_zero]; rfl) (fun K hK => ?_)
  go_simp
  skip
  refine hK.out _ _ (below_two hsz2 _ _) ?_
  clear hK K
  try simp only [Act.put, List.setIfInBounds_toArray, List.set_cons_zero, List.set_cons_succ]
  (refine takeE (belowTr W.heap.size) 11 (by simp only [List.getElem?_toArray, List.getElem?_cons_succ, List.getElem?_cons_zero]; rfl) (by kernel_rfl) (by kernel_rfl) (by kernel_rfl) (by exact fun _ _ _ h => h) (by first | (refine Or.inl ⟨by rfl, ?_⟩; intro W hW; go_simp; try with_reducible rfl) | exact Or.inr ⟨by rfl, rfl⟩) ?_; try simp only [Act.put, List.setIfInBounds_toArray, List.set_cons_zero, List.set_cons_succ])
  refine wpAnyE_done (by kernel_rfl) ?_ _
  have hb3 := (HBD.out.trans ((Below.refl W.heap.size wd).alloc hsz2 (.cells #[.int .i64 x.g, .int .i64 x.p, .int .i64 x.i] 76)))
  have z3 := HZ.out.2.2.below hb3
  have hz4 := Bk.new wd 76 x.ac
  clear q1
  generalize hW2 : wd.alloc (.cells #[.int .i64 x.g, .int .i64 x.p, .int .i64 x.i] 76) = W2 at *
  have hz5 : Bk W2 76 wd.heap.size x.ac := by rw [← hW2]; exact hz4
  have HB3 := Lib.hid hb3
  have HW2 := Lib.hid hW2
  clear hz4 hb3 hW2
  go_wp2_with (first
    | (with_reducible refine at_load 76 (.tmp 6) (by rfl) ?_; refine wpList_load_bk rowA rfl (.tmp 6) rfl wd.heap.size 0 rfl hz5 x.ac rfl rfl ?_)
    | (with_reducible refine at_store 76 (.tmp 4) (.tmp 21) (by rfl) ?_; refine wpList_store_bk rowA rfl (.tmp 4) (.tmp 21) rfl (w.heap.size + 1) 0 rfl z3 x.ac rfl rfl (by decide) x.ac_one ?_; intro w5 hz6 hw5))
  rw [lay_all _ _ (by rfl)] at hz6
  refine bodyPost_ret (results_cell_tmp rfl rfl (rowA.load hz6 0 (cs := x.ac) rfl rfl)) rfl ⟨rfl, ?_⟩
  have hb4 : Below w.heap.size w W2 := HZ.out.1.trans (HB3.out.mono HZ.out.1.size)
  exact hb4.trans (hw5.below (by omega) hb4.size)
end
end Go.Proofs.Ytdldocbfnjbhmaa
