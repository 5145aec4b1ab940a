/- A plain one that waits is told in time: what holds of the queues. -/
import Derived.Test.YtdldocbfnjbhmaaK27
set_option linter.unusedSimpArgs false
set_option linter.unusedVariables false
set_option maxRecDepth 100000
namespace Go.Proofs.Ytdldocbfnjbhmaa
open Go.RowKit Go.Shelf
def uk (i : Nat) : Ky := ⟨i, 1⟩
def pk (i : Nat) : Ky := ⟨i, 2⟩
theorem pk_ne {i j : Nat} (h : i ≠ j) : pk i ≠ pk j := fun e => h (by simp only [pk, Ky.mk.injEq] at e; omega)
theorem uk_ne {i j : Nat} (h : i ≠ j) : uk i ≠ uk j := fun e => h (by simp only [uk, Ky.mk.injEq] at e; omega)
theorem ukpk_ne (i j : Nat) : uk i ≠ pk j := fun e => by simp [uk, pk] at e
section
variable {m : Pm} {k : Ky} {g n : Int} {i t u s : Nat}
/-- A new key is made known, and owed n. -/
structure Add (m m' : Pm) (k : Ky) (g n : Int) : Prop where
  ok : m'.Ok
  mo : m'.most = m.most
  tt : m'.total = m.total
  rr : m'.run = m.run
  ln : m'.L.length = m.L.length + 1
  me : ∀ x, x ∈ m'.L ↔ x = ⟨k, g, n, 0⟩ ∨ x ∈ m.L
  q0 : m'.q0 = if g = 1 then m.q0 else m.q0 ++ [k]
  q1 : m'.q1 = if g = 1 then m.q1 ++ [k] else m.q1
theorem add_step (ok : m.Ok) (hg : g = 0 ∨ g = 1) (hv : validB k = true) (hl : Lacks m.L k) (hm : m.L.length < m.most) (h1 : 1 ≤ n) (h2 : n ≤ 1000) :
    (m.knowR k g).2 = 0 ∧ ((m.knowR k g).1.oweR k n).2 = 0 ∧ Add m ((m.knowR k g).1.oweR k n).1 k g n := by
  have hok := ((ok.knowR k g).1.oweR k n).1
  have hok1 := (ok.knowR k g).1
  have e2 : m.knowR k g = (m.know k g, 0) := by
    unfold Pm.knowR
    rw [if_pos ⟨hv, hg⟩, if_neg (by rw [(of_lacks hl).2]; simp), if_neg (by omega)]
  rw [e2] at hok hok1 ⊢
  have hL : (m.know k g).L = m.L ++ [⟨k, g, 0, 0⟩] := rfl
  obtain ⟨ix, hgt⟩ := of_mem hok1 (x := ⟨k, g, 0, 0⟩) (a := k) (by rw [hL]; simp) rfl
  have he : (m.know k g).oweR k n = ((m.know k g).owe ix ⟨k, g, 0, 0⟩ n, 0) := by
    unfold Pm.oweR
    rw [got_ix hgt]
    dsimp only
    rw [if_neg (by omega), if_neg (by omega)]
  rw [he] at hok ⊢
  have hms := mem_set hok1.nd hgt (⟨k, g, 0 + n, 0⟩ : Kn)
  have hLL : ((m.know k g).owe ix ⟨k, g, 0, 0⟩ n).L = (m.know k g).L.set ix ⟨k, g, 0 + n, 0⟩ := (owe_L _ _ _ _).1
  refine ⟨rfl, rfl, hok, ?_, ?_, ?_, ?_, ?_, ?_, ?_⟩
  · show (Pm.owe _ _ _ _).most = _
    unfold Pm.owe Pm.setL
    dsimp only
    rw [if_pos rfl, (push_total _ _ _).2.1]
    rfl
  · rw [(owe_L _ _ _ _).2]; rfl
  · show (Pm.owe _ _ _ _).run = _
    unfold Pm.owe Pm.setL
    dsimp only
    rw [if_pos rfl, (push_total _ _ _).2.2.2]
    rfl
  · rw [hLL, List.length_set, hL]; simp
  · intro x
    rw [hLL, hms x, hL, Int.zero_add]
    constructor
    · rintro (h | ⟨h, hne⟩)
      · exact .inl h
      · rcases List.mem_append.1 h with h | h
        · exact .inr h
        · simp at h; subst h; exact absurd rfl hne
    · rintro (h | h)
      · exact .inl h
      · exact .inr ⟨List.mem_append_left _ h, hl x h⟩
  · show (Pm.owe _ _ _ _).q0 = _
    unfold Pm.owe Pm.setL Pm.push Pm.know Pm.setL
    rcases hg with rfl | rfl <;> simp
  · show (Pm.owe _ _ _ _).q1 = _
    unfold Pm.owe Pm.setL Pm.push Pm.know Pm.setL
    rcases hg with rfl | rfl <;> simp
/-- What a tick does to the entries. -/
theorem tick_L (ok : m.Ok) : (m.pop = none ∧ m.tickR.1 = m ∧ m.tickR.2.2.2 = false) ∨ ∃ a x, m.tickR.2.2.2 = true ∧ x ∈ m.L ∧ x.k = a ∧ 0 < x.p ∧ x.g = m.turn ∧ (∀ z, z ∈ m.tickR.1.L ↔ z = x.told ∨ (z ∈ m.L ∧ z.k ≠ a)) ∧ m.tickR.1.L.length = m.L.length ∧ m.tickR.1.most = m.most ∧ m.tickR.1.total = m.total + 1 ∧
    ((∃ r, m.turn = 0 ∧ m.q0 = a :: r ∧ m.tickR.1.q0 = (if 0 < x.p - 1 then r ++ [a] else r) ∧ m.tickR.1.q1 = m.q1 ∧ m.tickR.1.run = 0) ∨
     ∃ r, m.turn = 1 ∧ m.q1 = a :: r ∧ m.tickR.1.q1 = (if 0 < x.p - 1 then r ++ [a] else r) ∧ m.tickR.1.q0 = m.q0 ∧ m.tickR.1.run = if 0 < m.q0.length then m.run + 1 else 0) := by
  cases hp : m.pop with
  | none =>
    have he : m.tickR = (m, zK, 0, false) := by unfold Pm.tickR; rw [hp]
    rw [he]
    exact .inl ⟨rfl, rfl, rfl⟩
  | some km =>
    obtain ⟨i, x, hgt, hpx, hLk, hge⟩ := ok.popped hp
    have hix := got_ix hgt
    rw [← hLk] at hix
    have htk : m.tickR = (km.2.issue i x, km.1, x.i + 1, true) := by
      unfold Pm.tickR
      simp only [hp, hix]
    rw [htk]
    have hLL : (km.2.issue i x).L = m.L.set i x.told := by rw [(issue_L _ _ _).1, hLk]
    have hxk := hgt.key
    have hmo : (km.2.issue i x).most = m.most := by
      have : (km.2.issue i x).most = km.2.most := by
        unfold Pm.issue Pm.setL; dsimp only
        split
        · exact (push_total _ _ _).2.1
        · rfl
      rw [this]
      rcases turn_pop ok hp with ⟨r, _, _, h3⟩ | ⟨r, _, _, h3⟩ <;> rw [h3]
    refine .inr ⟨km.1, x, rfl, hgt.mem, hxk, hpx, hge, fun z => ?_, ?_, hmo, ?_, ?_⟩
    · show z ∈ (km.2.issue i x).L ↔ _
      rw [hLL, mem_set ok.nd hgt]
    · show (km.2.issue i x).L.length = _
      rw [hLL, List.length_set]
    · show (km.2.issue i x).total = _
      rw [(issue_L _ _ _).2]
      rcases turn_pop ok hp with ⟨r, _, _, h3⟩ | ⟨r, _, _, h3⟩ <;> rw [h3]
    · rcases turn_pop ok hp with ⟨r, h1, h2, h3⟩ | ⟨r, h1, h2, h3⟩
      · refine .inl ⟨r, h1, h2, ?_, ?_, ?_⟩
        all_goals
          show _ = _
          rw [h3]
          unfold Pm.issue Pm.setL Pm.push
          rw [hge, h1, hxk]
          dsimp only
          split <;> simp
      · refine .inr ⟨r, h1, h2, ?_, ?_, ?_⟩
        all_goals
          show _ = _
          rw [h3]
          unfold Pm.issue Pm.setL Pm.push
          rw [hge, h1, hxk]
          dsimp only
          split <;> simp
/-- Somebody is owed d in all. -/
def Own (m : Pm) (a : Ky) (g d : Int) : Prop := ∃ x ∈ m.L, x.k = a ∧ x.g = g ∧ d ≤ x.p + x.i
def Told (m : Pm) (a : Ky) : Prop := ∃ x ∈ m.L, x.k = a ∧ 1 ≤ x.i
theorem Own.tick (ok : m.Ok) {d : Int} (h : Own m k g d) : Own m.tickR.1 k g d := by
  rcases tick_L ok with ⟨_, e, _⟩ | ⟨a, x, _, hx, hxa, hp, hg, hm, _⟩
  · rw [e]; exact h
  · obtain ⟨y, hy, h1, h2, h3⟩ := h
    by_cases e : y.k = a
    · obtain ⟨j, hgt⟩ := of_mem ok hx hxa
      obtain rfl := ok.one hgt hy e
      exact ⟨y.told, (hm _).2 (.inl rfl), h1, h2, by show d ≤ (y.p - 1) + (y.i + 1); omega⟩
    · exact ⟨y, (hm _).2 (.inr ⟨hy, e⟩), h1, h2, h3⟩
theorem Told.tick (ok : m.Ok) (h : Told m k) : Told m.tickR.1 k := by
  rcases tick_L ok with ⟨_, e, _⟩ | ⟨a, x, _, hx, hxa, hp, hg, hm, _⟩
  · rw [e]; exact h
  · obtain ⟨y, hy, h1, h2⟩ := h
    by_cases e : y.k = a
    · obtain ⟨j, hgt⟩ := of_mem ok hx hxa
      obtain rfl := ok.one hgt hy e
      exact ⟨y.told, (hm _).2 (.inl rfl), h1, by show 1 ≤ y.i + 1; omega⟩
    · exact ⟨y, (hm _).2 (.inr ⟨hy, e⟩), h1, h2⟩
theorem Own.waits (ok : m.Ok) (h : Own m k 1 1000) (ht : m.total < 1000) : 0 < m.q1.length := by
  obtain ⟨x, hx, h1, h2, h3⟩ := h
  have hp := ok.pe x hx
  exact List.length_pos_of_mem ((ok.m1 k).2 ⟨x, hx, h1, h2, by omega⟩)
theorem Told.see (ok : m.Ok) (h : Told m k) : 1 ≤ (ofKey m.L k).i := by
  obtain ⟨x, hx, h1, h2⟩ := h
  obtain ⟨i, hgt⟩ := of_mem ok hx h1
  rw [(of_got hgt).1]; exact h2
/-- u urgent ones and i plain ones are known; nobody plain has been told. -/
structure UC (m : Pm) (u i a : Nat) : Prop where
  ok : m.Ok
  mo : m.most = 20
  tt : m.total ≤ a
  ln : m.L.length = u + i
  lo : ∀ x ∈ m.L, (∃ j, j < u ∧ x.k = uk j) ∨ ∃ j, j < i ∧ x.k = pk j
  ow : 0 < u → Own m (uk 0) 1 1000
  q0 : m.q0 = (List.range i).map pk
  q1 : u = 0 → m.q1 = []
  rr : m.run = 0
theorem UC.new : UC (Pm.new 20) 0 0 0 :=
  ⟨Pm.Ok.new (by decide) (by decide), rfl, Int.le_refl _, rfl, by intro x hx; simp [Pm.new] at hx, fun h => by omega, rfl, fun _ => rfl, rfl⟩
theorem UC.urgent (h : UC m u 0 0) (hu : u < 5) : (m.knowR (uk u) 1).2 = 0 ∧ ((m.knowR (uk u) 1).1.oweR (uk u) 1000).2 = 0 ∧ UC ((m.knowR (uk u) 1).1.oweR (uk u) 1000).1 (u + 1) 0 0 := by
  have hl : Lacks m.L (uk u) := fun x hx e => by
    rcases h.lo x hx with ⟨j, hj, hk⟩ | ⟨j, hj, _⟩
    · exact uk_ne (by omega : u ≠ j) (e.symm.trans hk)
    · omega
  obtain ⟨e1, e2, A⟩ := add_step (k := uk u) (g := 1) (n := 1000) h.ok (.inr rfl) (by simp [validB, uk]; omega) hl (by rw [h.mo, h.ln]; omega) (by decide) (by decide)
  refine ⟨e1, e2, A.ok, A.mo.trans h.mo, by rw [A.tt]; exact h.tt, by have := A.ln; have := h.ln; omega, ?_, ?_, by rw [A.q0, if_pos rfl]; exact h.q0, by omega, A.rr.trans h.rr⟩
  · intro x hx
    rcases (A.me x).1 hx with rfl | hx
    · exact .inl ⟨u, by omega, rfl⟩
    · rcases h.lo x hx with ⟨j, hj, hk⟩ | ⟨j, hj, _⟩
      · exact .inl ⟨j, by omega, hk⟩
      · omega
  · intro _
    rcases Nat.eq_zero_or_pos u with rfl | hp
    · exact ⟨_, (A.me _).2 (.inl rfl), rfl, rfl, by decide⟩
    · obtain ⟨x, hx, h1⟩ := h.ow hp
      exact ⟨x, (A.me _).2 (.inr hx), h1⟩
theorem UC.plain {a : Nat} (h : UC m u i a) (hi : i < 6) (hu : u ≤ 5) : (m.knowR (pk i) 0).2 = 0 ∧ ((m.knowR (pk i) 0).1.oweR (pk i) (1 + i)).2 = 0 ∧ UC ((m.knowR (pk i) 0).1.oweR (pk i) (1 + i)).1 u (i + 1) a := by
  have hl : Lacks m.L (pk i) := fun x hx e => by
    rcases h.lo x hx with ⟨j, hj, hk⟩ | ⟨j, hj, hk⟩
    · exact ukpk_ne j i (hk.symm.trans e)
    · exact pk_ne (by omega : i ≠ j) (e.symm.trans hk)
  obtain ⟨e1, e2, A⟩ := add_step (k := pk i) (g := 0) (n := 1 + i) h.ok (.inl rfl) (by simp [validB, pk]; omega) hl (by rw [h.mo, h.ln]; omega) (by omega) (by omega)
  refine ⟨e1, e2, A.ok, A.mo.trans h.mo, by rw [A.tt]; exact h.tt, by have := A.ln; have := h.ln; omega, ?_, ?_, ?_, fun e => by rw [A.q1, if_neg (by decide)]; exact h.q1 e, A.rr.trans h.rr⟩
  · intro x hx
    rcases (A.me x).1 hx with rfl | hx
    · exact .inr ⟨i, by omega, rfl⟩
    · rcases h.lo x hx with h1 | ⟨j, hj, hk⟩
      · exact .inl h1
      · exact .inr ⟨j, by omega, hk⟩
  · intro hp
    obtain ⟨x, hx, h1⟩ := h.ow hp
    exact ⟨x, (A.me _).2 (.inr hx), h1⟩
  · rw [A.q0, if_neg (by decide), h.q0, List.range_succ, List.map_append]; rfl
theorem UC.ahead {a : Nat} (h : UC m u 0 a) : UC m.tickR.1 u 0 (a + 1) := by
  have hok := h.ok.tick.1
  have hq := h.q0
  simp at hq
  rcases tick_L h.ok with ⟨_, e, _⟩ | ⟨b, x, _, hx, hxa, hp, hg, hm, hln, hmo, htt, hc⟩
  · rw [e]; exact ⟨h.ok, h.mo, by have := h.tt; omega, h.ln, h.lo, h.ow, h.q0, h.q1, h.rr⟩
  · rcases hc with ⟨r, _, h2, _⟩ | ⟨r, h1, h2, h3, h4, h5⟩
    · rw [hq] at h2; cases h2
    · refine ⟨hok, hmo.trans h.mo, by rw [htt]; have := h.tt; omega, hln.trans h.ln, ?_, fun hu => (h.ow hu).tick h.ok, by rw [h4]; exact h.q0, fun e => (by rw [h.q1 e] at h2; cases h2), by rw [h5, hq]; rfl⟩
      intro z hz
      rcases (hm z).1 hz with rfl | ⟨hz, _⟩
      · exact h.lo x hx
      · exact h.lo z hz
/-- n plain ones wait, s of them have been told within t turns. -/
structure SI (m : Pm) (u n t s : Nat) : Prop where
  ok : m.Ok
  tt : m.total ≤ 20 + t
  ow : 0 < u → Own m (uk 0) 1 1000
  q0 : ∃ r, m.q0 = ((List.range n).drop s).map pk ++ r
  q1 : u = 0 → m.q1 = []
  told : ∀ i, i < s → Told m (pk i)
  sn : s ≤ n
  go : (0 < u ∧ m.run = ((t % 5 : Nat) : Int) ∧ s = t / 5) ∨ (u = 0 ∧ s = min t n)
theorem UC.turn {n : Nat} (h : UC m u n 20) : SI m u n 0 0 := by
  refine ⟨h.ok, h.tt, h.ow, ⟨[], by rw [h.q0]; simp⟩, h.q1, fun i hi => by omega, Nat.zero_le _, ?_⟩
  rcases Nat.eq_zero_or_pos u with e | e
  · exact .inr ⟨e, by omega⟩
  · exact .inl ⟨e, h.rr, rfl⟩
theorem drop_pk {n : Nat} (hs : s < n) : ((List.range n).drop s).map pk = pk s :: ((List.range n).drop (s + 1)).map pk := by
  rw [List.drop_eq_getElem_cons (by simpa using hs)]
  simp
theorem SI.tick {n : Nat} (h : SI m u n t s) (ht : t < 5 * n) (hn : n ≤ 6) : (0 < u → m.tickR.2.2.2 = true) ∧ ∃ s', SI m.tickR.1 u n (t + 1) s' := by
  have hok := h.ok.tick.1
  have htt := h.tt
  obtain ⟨r, hq⟩ := h.q0
  rcases Nat.eq_zero_or_pos u with hu | hu
  · have hq1 := h.q1 hu
    have hgo : s = min t n := by rcases h.go with g | g <;> omega
    refine ⟨fun e => by omega, ?_⟩
    rcases tick_L h.ok with ⟨hp, e, _⟩ | ⟨b, x, _, hx, hxa, hp, hg, hm, hln, hmo, htot, hc⟩
    · refine ⟨s, ?_⟩
      rw [e]
      have hq0 := (pop_none hp).1
      have hsn : ¬ s < n := fun hs => by
        rw [drop_pk hs] at hq
        rw [hq0] at hq; cases hq
      exact ⟨h.ok, by omega, h.ow, h.q0, h.q1, h.told, h.sn, .inr ⟨hu, by omega⟩⟩
    · rcases hc with ⟨r', h1, h2, h3, h4, h5⟩ | ⟨r', _, h2, _⟩
      · by_cases hs : s < n
        · rw [drop_pk hs, h2] at hq
          simp only [List.cons_append, List.cons.injEq] at hq
          obtain ⟨hb, hr⟩ := hq
          refine ⟨s + 1, hok, by rw [htot]; omega, fun e => by omega, ?_, fun _ => by rw [h4]; exact hq1, fun i hi => ?_, hs, .inr ⟨hu, by omega⟩⟩
          · rw [h3, hr]
            split
            · exact ⟨r ++ [b], by simp⟩
            · exact ⟨r, rfl⟩
          · rcases (by omega : i < s ∨ i = s) with hi | rfl
            · exact (h.told i hi).tick h.ok
            · have hpe := h.ok.pe x hx
              exact ⟨x.told, (hm _).2 (.inl rfl), hxa.trans hb, by show 1 ≤ x.i + 1; omega⟩
        · have hsn := h.sn
          obtain rfl : s = n := by omega
          exact ⟨s, hok, by rw [htot]; omega, fun e => by omega, ⟨_, by rw [List.drop_eq_nil_of_le (by simp)]; rfl⟩, fun _ => by rw [h4]; exact hq1, fun i hi => (h.told i hi).tick h.ok, h.sn, .inr ⟨hu, by omega⟩⟩
      · rw [hq1] at h2; cases h2
  · obtain ⟨hrun, hs5⟩ : m.run = ((t % 5 : Nat) : Int) ∧ s = t / 5 := by
      rcases h.go with g | g
      · exact g.2
      · omega
    have hs : s < n := by omega
    have hw := (h.ow hu).waits h.ok (by omega)
    rw [drop_pk hs] at hq
    have hq0 : 0 < m.q0.length := by rw [hq]; simp
    rcases tick_L h.ok with ⟨hp, _, _⟩ | ⟨b, x, hok2, hx, hxa, hp, hg, hm, hln, hmo, htot, hc⟩
    · have := (pop_none hp).1
      rw [this] at hq0; simp at hq0
    · refine ⟨fun _ => hok2, ?_⟩
      rcases hc with ⟨r', h1, h2, h3, h4, h5⟩ | ⟨r', h1, h2, h3, h4, h5⟩
      · have h45 : 4 ≤ m.run := by
          unfold Pm.turn at h1
          split at h1
          · next hh => rcases hh.2 with e | e <;> omega
          · cases h1
        rw [h2] at hq
        simp only [List.cons_append, List.cons.injEq] at hq
        obtain ⟨hb, hr⟩ := hq
        refine ⟨s + 1, hok, by rw [htot]; omega, fun e => (h.ow e).tick h.ok, ?_, fun e => by omega, fun i hi => ?_, hs, .inl ⟨hu, by rw [h5]; omega, by omega⟩⟩
        · rw [h3, hr]
          split
          · exact ⟨r ++ [b], by simp⟩
          · exact ⟨r, rfl⟩
        · rcases (by omega : i < s ∨ i = s) with hi | rfl
          · exact (h.told i hi).tick h.ok
          · have hpe := h.ok.pe x hx
            exact ⟨x.told, (hm _).2 (.inl rfl), hxa.trans hb, by show 1 ≤ x.i + 1; omega⟩
      · have h45 : ¬ 4 ≤ m.run := fun e => by
          unfold Pm.turn at h1
          rw [if_pos ⟨hq0, .inl e⟩] at h1
          cases h1
        refine ⟨s, hok, by rw [htot]; omega, fun e => (h.ow e).tick h.ok, ⟨r, by rw [h4, hq, drop_pk hs]⟩, fun e => by omega, fun i hi => (h.told i hi).tick h.ok, h.sn, .inl ⟨hu, by rw [h5, if_pos hq0]; omega, by omega⟩⟩
theorem SI.all {n : Nat} (h : SI m u n (5 * n) s) : ∀ i, i < n → 1 ≤ (ofKey m.L (pk i)).i := fun i hi => by
  have : s = n := by rcases h.go with g | g <;> omega
  exact (h.told i (by omega)).see h.ok
end
end Go.Proofs.Ytdldocbfnjbhmaa
