/- Wheels by value. -/
import Derived.Test.YtainmpeiicinmaaLsr
import Derived.Test.YtainmpeiicinmaaLsrI
import Derived.Test.YtainmpeiicinmaaItrM
import Derived.Test.YtainmpeiicinmaaItr
import Derived.Test.YtainmpeiicinmaaCol
import Derived.Test.YtainmpeiicinmaaKit3
import Derived.Test.YtainmpeiicinmaaRegL
import Derived.BigQuiet
import Derived.Deep.QuietTactic
import Derived.WalkSpells
set_option linter.unusedSimpArgs false
set_option linter.unusedVariables false
set_option linter.unusedSectionVars false
namespace Go.Proofs.Ytainmpeiicinmaa
open Go.RowKit Go.Shelf
theorem below_on {w w1 w2 : World} (h : Below w.heap.size w w1) (k : Below w1.heap.size w1 w2) : Below w.heap.size w w2 := h.trans (k.mono h.size)
theorem st_wr {w w' : World} {g : Nat} (hw : Wr g w w') : St (· = g) w w' := ⟨hw.os, hw.tape, hw.output, hw.size, fun j hj hn => hw.block j hj (by intro e; injection e with e; exact hn e)⟩
/-- A block of cells of type T. -/
def Tyd (T : TypeId) (w : World) (k : Nat) : Prop := ∃ cur fz, w.heap[k]? = some (.cells cur T fz)
theorem Tyd.ne {T u : TypeId} {w : World} {k : Nat} (h : Tyd T w k) (hu : T ≠ u) : ¬ Tyd u w k := by
  rintro ⟨cur, fz, h'⟩
  obtain ⟨cur2, fz2, h2⟩ := h
  rw [h2] at h'
  injection h' with h'
  injection h' with _ h' _
  exact hu h'
theorem LstR.tyd {sz : Nat} {e : TypeId} {F : Nat → Prop} {w : World} {A : Option Addr} {n c : Nat} {cs : List Value} (h : LstR sz e F w A n c cs) : ∀ k, BlkOf A k → Tyd e w k := by
  rintro k ⟨ad, he, rfl⟩
  rcases h.2.2.2.2 with ⟨rfl, _⟩ | ⟨g, o, cur, rfl, _, hh, _⟩
  · cases he
  · injection he with he
    subst he
    exact ⟨_, _, hh⟩
theorem Bk.tyd {T : TypeId} {w : World} {g : Nat} {vs : List Value} (h : Bk w T g vs) : Tyd T w g := ⟨_, _, h⟩
/-! ### Rows by value -/
structure Tm (κ : Type) where
  k : κ
  d : Int
  s : Int
structure Wm (κ : Type) where
  most : Int
  now : Int
  sets : Int
  l : List (Tm κ)
section
variable {κ : Type} [DecidableEq κ]
/-- Where x first is: -1 if nowhere. -/
def idxV (xs : List κ) (x : κ) : Int := if x ∈ xs then ((xs.idxOf x : Nat) : Int) else -1
theorem idxOf_first : ∀ (xs : List κ) (x : κ) (k : Nat) (h : k < xs.length), xs[k] = x → (∀ j, (hj : j < k) → xs[j]'(by omega) ≠ x) → xs.idxOf x = k
  | [], x, k, h, _, _ => by simp at h
  | y :: r, x, 0, h, he, _ => by
    have : y = x := he
    subst this
    simp
  | y :: r, x, k + 1, h, he, hj => by
    have h0 : y ≠ x := hj 0 (by omega)
    have ih := idxOf_first r x k (by simpa using h) he (fun j hj' => hj (j + 1) (by omega))
    have h0b : (y == x) = false := by simpa using h0
    rw [List.idxOf_cons, h0b, ih]
    rfl
theorem idxV_at {xs : List κ} {x : κ} {k : Nat} (h : k < xs.length) (he : xs[k] = x) (hj : ∀ j, (hj : j < k) → xs[j]'(by omega) ≠ x) : idxV xs x = (k : Int) := by
  unfold idxV
  rw [if_pos (by rw [← he]; exact List.getElem_mem _), idxOf_first xs x k h he hj]
theorem idxV_no {xs : List κ} {x : κ} (h : x ∉ xs) : idxV xs x = -1 := if_neg h
theorem idxV_yes {xs : List κ} {x : κ} (h : x ∈ xs) : ∃ k : Nat, ∃ hk : k < xs.length, idxV xs x = (k : Int) ∧ xs[k] = x :=
  ⟨xs.idxOf x, List.idxOf_lt_length_iff.2 h, if_pos h, List.getElem_idxOf _⟩
def rem (l : List (Tm κ)) (k : κ) : List (Tm κ) := l.filter fun t => !decide (t.k = k)
def low (l : List (Tm κ)) (d : Int) : List (Tm κ) := l.takeWhile fun t => decide (t.d ≤ d)
def high (l : List (Tm κ)) (d : Int) : List (Tm κ) := l.dropWhile fun t => decide (t.d ≤ d)
def ins (l : List (Tm κ)) (t : Tm κ) : List (Tm κ) := low l t.d ++ t :: high l t.d
theorem low_high (l : List (Tm κ)) (d : Int) : low l d ++ high l d = l := List.takeWhile_append_dropWhile
theorem low_take (l : List (Tm κ)) (d : Int) : low l d = l.take (low l d).length := by
  have h : (low l d ++ high l d).take (low l d).length = low l d := List.take_left
  rw [low_high] at h
  exact h.symm
theorem high_drop (l : List (Tm κ)) (d : Int) : high l d = l.drop (low l d).length := by
  have h : (low l d ++ high l d).drop (low l d).length = high l d := List.drop_left
  rw [low_high] at h
  exact h.symm
theorem low_le (l : List (Tm κ)) (d : Int) : (low l d).length ≤ l.length := by
  have := congrArg List.length (low_high l d)
  rw [List.length_append] at this
  omega
/-- The first that is due later. -/
theorem low_of : ∀ (l : List (Tm κ)) (d : Int) (p : Nat), p ≤ l.length → (∀ j, (hj : j < p) → (h2 : j < l.length) → l[j].d ≤ d) → (∀ h : p < l.length, d < l[p].d) → (low l d).length = p
  | [], d, p, h, _, _ => by simp at h; subst h; rfl
  | t :: r, d, 0, h, _, h2 => by
    have := h2 (by simp)
    unfold low
    rw [List.takeWhile_cons, if_neg (by simpa using this)]
    rfl
  | t :: r, d, p + 1, h, h1, h2 => by
    have h0 : t.d ≤ d := h1 0 (by omega) (by simp)
    have ih := low_of r d p (by simpa using h) (fun j hj hj2 => h1 (j + 1) (by omega) (by simpa using hj2)) (fun hp => h2 (by simpa using hp))
    unfold low at ih ⊢
    rw [List.takeWhile_cons, if_pos (by simpa using h0), List.length_cons, ih]
theorem low_due : ∀ (l : List (Tm κ)) (d : Int), ∀ t ∈ low l d, t.d ≤ d := fun l d t ht => by
  have := List.all_takeWhile (p := fun t : Tm κ => decide (t.d ≤ d)) (l := l)
  rw [List.all_eq_true] at this
  simpa using this t ht
def Srt (l : List (Tm κ)) : Prop := l.Pairwise fun a b => a.d ≤ b.d
theorem high_due : ∀ (l : List (Tm κ)) (d : Int), Srt l → ∀ t ∈ high l d, d < t.d
  | [], d, _, t, ht => by simp [high] at ht
  | u :: r, d, hs, t, ht => by
    obtain ⟨h1, h2⟩ := List.pairwise_cons.1 hs
    by_cases hu : u.d ≤ d
    · have : high (u :: r) d = high r d := by
        unfold high
        rw [List.dropWhile_cons, if_pos (by simpa using hu)]
      rw [this] at ht
      exact high_due r d h2 t ht
    · have : high (u :: r) d = u :: r := by
        unfold high
        rw [List.dropWhile_cons, if_neg (by simpa using hu)]
      rw [this] at ht
      rcases List.mem_cons.1 ht with rfl | ht
      · omega
      · have := h1 t ht
        omega
theorem low_at {l : List (Tm κ)} (hs : Srt l) (d : Int) {j : Nat} (hj : j < l.length) : decide (d < l[j].d) = decide ((low l d).length ≤ j) := by
  by_cases h : (low l d).length ≤ j
  · have hm : l[j] ∈ high l d := by
      rw [high_drop]
      rw [List.mem_iff_getElem]
      refine ⟨j - (low l d).length, by rw [List.length_drop]; omega, ?_⟩
      rw [List.getElem_drop]
      congr 1
      omega
    rw [decide_eq_true (high_due l d hs _ hm), decide_eq_true h]
  · have hm : l[j] ∈ low l d := by
      rw [low_take]
      rw [List.mem_iff_getElem]
      exact ⟨j, by rw [List.length_take]; omega, by rw [List.getElem_take]⟩
    have := low_due l d _ hm
    rw [decide_eq_false (by omega), decide_eq_false (by omega)]
theorem ins_eq (l : List (Tm κ)) (t : Tm κ) : ins l t = l.take (low l t.d).length ++ t :: l.drop (low l t.d).length := by
  unfold ins
  rw [← low_take, ← high_drop]
theorem ins_perm (l : List (Tm κ)) (t : Tm κ) : (ins l t).Perm (t :: l) := by
  unfold ins
  refine List.perm_middle.trans ?_
  rw [low_high]
theorem ins_len (l : List (Tm κ)) (t : Tm κ) : (ins l t).length = l.length + 1 := by
  have := (ins_perm l t).length_eq
  simpa using this
theorem ins_srt {l : List (Tm κ)} (hs : Srt l) (t : Tm κ) : Srt (ins l t) := by
  have h := hs
  unfold Srt at h
  rw [← low_high l t.d, List.pairwise_append] at h
  obtain ⟨h1, h2, h3⟩ := h
  unfold Srt ins
  rw [List.pairwise_append, List.pairwise_cons]
  refine ⟨h1, ⟨fun a ha => Int.le_of_lt (high_due l t.d hs a ha), h2⟩, fun a ha b hb => ?_⟩
  rcases List.mem_cons.1 hb with rfl | hb
  · exact low_due l _ a ha
  · exact h3 a ha b hb
theorem rem_sub (l : List (Tm κ)) (k : κ) : List.Sublist (rem l k) l := List.filter_sublist
theorem rem_none {l : List (Tm κ)} {k : κ} (h : k ∉ l.map Tm.k) : rem l k = l := by
  unfold rem
  rw [List.filter_eq_self]
  intro t ht
  have : t.k ≠ k := fun e => h (List.mem_map.2 ⟨t, ht, e⟩)
  simpa using this
theorem rem_not (l : List (Tm κ)) (k : κ) : k ∉ (rem l k).map Tm.k := by
  intro h
  obtain ⟨t, ht, rfl⟩ := List.mem_map.1 h
  have := (List.mem_filter.1 ht).2
  simp at this
theorem rem_at : ∀ (l : List (Tm κ)) (k : κ) (i : Nat) (hi : i < l.length), (l.map Tm.k).Nodup → l[i].k = k → rem l k = l.take i ++ l.drop (i + 1)
  | [], k, i, hi, _, _ => by simp at hi
  | t :: r, k, 0, hi, hn, he => by
    have he : t.k = k := he
    rw [List.map_cons, List.nodup_cons] at hn
    have := rem_none (l := r) (k := k) (by rw [← he]; exact hn.1)
    unfold rem at this ⊢
    rw [List.filter_cons, if_neg (by simpa using he), this]
    rfl
  | t :: r, k, i + 1, hi, hn, he => by
    have hi' : i < r.length := by simpa using hi
    have he' : r[i].k = k := he
    rw [List.map_cons, List.nodup_cons] at hn
    have hne : t.k ≠ k := fun e => hn.1 (by rw [e, ← he']; exact List.mem_map.2 ⟨_, List.getElem_mem hi', rfl⟩)
    have ih := rem_at r k i hi' hn.2 he'
    unfold rem at ih ⊢
    rw [List.filter_cons, if_pos (by simpa using hne), ih]
    rfl
/-! ### Wheels -/
/-- What memory needs. -/
structure Wm.Nm (m : Wm κ) : Prop where
  m1 : 1 ≤ m.most
  m2 : m.most ≤ 1024
  ln : m.l.length ≤ 1024
  n0 : 0 ≤ m.now
  nb : m.now ≤ 2000000000
  db : ∀ t ∈ m.l, 0 ≤ t.d ∧ t.d ≤ 4000000000
/-- What the order needs. -/
structure Wm.Ok (m : Wm κ) : Prop where
  lm : (m.l.length : Int) ≤ m.most
  dn : ∀ t ∈ m.l, m.now < t.d ∧ t.d ≤ m.now + 1048576
  so : Srt m.l
  nd : (m.l.map Tm.k).Nodup
def clampN (n : Int) : Int := if n < 0 then 0 else if n ≤ 1048576 then n else 1048576
theorem clampN_in (n : Int) : 0 ≤ clampN n ∧ clampN n ≤ 1048576 := by
  unfold clampN
  split
  · omega
  · split <;> omega
def Wm.has (m : Wm κ) (k : κ) : Bool := decide (k ∈ m.l.map Tm.k)
def Wm.idx (m : Wm κ) (k : κ) : Int := idxV (m.l.map Tm.k) k
def Wm.new (most : Int) : Wm κ := ⟨most, 0, 0, []⟩
def Wm.drop (m : Wm κ) (k : κ) : Wm κ := ⟨m.most, m.now, m.sets, rem m.l k⟩
def Wm.put (m : Wm κ) (k : κ) (n : Int) : Wm κ := ⟨m.most, m.now, m.sets + 1, ins (rem m.l k) ⟨k, m.now + n, m.sets⟩⟩
def Wm.full (m : Wm κ) (k : κ) : Bool := !m.has k && decide (m.most ≤ m.l.length)
def Wm.setE (m : Wm κ) (k : κ) (n : Int) : Int := if n < 1 ∨ 1048576 < n then 5 else if m.full k = true then 3 else 0
def Wm.set (m : Wm κ) (k : κ) (n : Int) : Wm κ := if n < 1 ∨ 1048576 < n then m else if m.full k = true then m else m.put k n
def Wm.skip (m : Wm κ) (n : Int) : Wm κ := ⟨m.most, m.now + clampN n, m.sets, high m.l (m.now + clampN n)⟩
def Wm.due (m : Wm κ) (n : Int) : List κ := (low m.l (m.now + clampN n)).map Tm.k
def Wm.keys (m : Wm κ) : List κ := m.l.map Tm.k
def Wm.left (m : Wm κ) (k : κ) : Int := match m.l.find? (fun t => decide (t.k = k)) with
  | some t => t.d - m.now
  | none => 0
def Wm.next (m : Wm κ) : Int := match m.l with
  | [] => 0
  | t :: _ => t.d - m.now
theorem Wm.new_nm {most : Int} (h1 : 1 ≤ most) (h2 : most ≤ 1024) : (Wm.new most : Wm κ).Nm := ⟨h1, h2, by simp [Wm.new], Int.le_refl _, by simp [Wm.new], by simp [Wm.new]⟩
theorem Wm.new_ok {most : Int} (h1 : 1 ≤ most) : (Wm.new most : Wm κ).Ok := ⟨by simp [Wm.new]; omega, by simp [Wm.new], List.Pairwise.nil, List.nodup_nil⟩
theorem Wm.drop_nm {m : Wm κ} (h : m.Nm) (k : κ) : (m.drop k).Nm :=
  ⟨h.m1, h.m2, Nat.le_trans (rem_sub m.l k).length_le h.ln, h.n0, h.nb, fun t ht => h.db t ((rem_sub m.l k).subset ht)⟩
theorem Wm.drop_ok {m : Wm κ} (h : m.Ok) (k : κ) : (m.drop k).Ok :=
  ⟨by have := (rem_sub m.l k).length_le; have := h.lm; show ((rem m.l k).length : Int) ≤ m.most; omega, fun t ht => h.dn t ((rem_sub m.l k).subset ht), List.Pairwise.sublist (rem_sub m.l k) h.so, List.Nodup.sublist ((rem_sub m.l k).map Tm.k) h.nd⟩
theorem Wm.skip_nm {m : Wm κ} (h : m.Nm) (hn : m.now ≤ 1000000000) (n : Int) : (m.skip n).Nm := by
  have hc := clampN_in n
  have hsub : List.Sublist (high m.l (m.now + clampN n)) m.l := List.dropWhile_sublist _
  exact ⟨h.m1, h.m2, Nat.le_trans hsub.length_le h.ln, by have := h.n0; show 0 ≤ m.now + clampN n; omega, by show m.now + clampN n ≤ 2000000000; omega, fun t ht => h.db t (hsub.subset ht)⟩
theorem Wm.skip_ok {m : Wm κ} (h : m.Ok) (n : Int) : (m.skip n).Ok := by
  have hc := clampN_in n
  have hsub : List.Sublist (high m.l (m.now + clampN n)) m.l := List.dropWhile_sublist _
  refine ⟨by have := hsub.length_le; have := h.lm; show ((high m.l (m.now + clampN n)).length : Int) ≤ m.most; omega, fun t ht => ?_, List.Pairwise.sublist hsub h.so, List.Nodup.sublist (hsub.map Tm.k) h.nd⟩
  have h1 := high_due m.l _ h.so t ht
  have h2 := (h.dn t (hsub.subset ht)).2
  exact ⟨h1, by show t.d ≤ m.now + clampN n + 1048576; omega⟩
theorem Wm.put_len {m : Wm κ} (h : m.Ok) {k : κ} (hf : m.full k = false) (n : Int) : ((m.put k n).l.length : Int) ≤ m.most := by
  show ((ins (rem m.l k) ⟨k, m.now + n, m.sets⟩).length : Int) ≤ m.most
  rw [ins_len]
  have h1 := (rem_sub m.l k).length_le
  have h2 := h.lm
  simp only [Wm.full, Wm.has, Bool.and_eq_false_iff, Bool.not_eq_false', decide_eq_true_eq, decide_eq_false_iff_not] at hf
  rcases hf with hf | hf
  · obtain ⟨i, hi, _, he⟩ := idxV_yes hf
    have hi' : i < m.l.length := by simpa using hi
    have := rem_at m.l k i hi' h.nd (by simpa using he)
    rw [this, List.length_append, List.length_take, List.length_drop]
    omega
  · omega
theorem Wm.put_nm {m : Wm κ} (h : m.Nm) (ho : m.Ok) (hn : m.now ≤ 1000000000) {k : κ} (hf : m.full k = false) {n : Int} (h1 : 1 ≤ n) (h2 : n ≤ 1048576) : (m.put k n).Nm := by
  have hl := Wm.put_len ho hf n
  have hm2 := h.m2
  refine ⟨h.m1, h.m2, by omega, h.n0, h.nb, fun t ht => ?_⟩
  rcases List.mem_cons.1 ((ins_perm _ _).subset ht) with rfl | ht
  · have := h.n0
    exact ⟨by show 0 ≤ m.now + n; omega, by show m.now + n ≤ 4000000000; omega⟩
  · exact h.db t ((rem_sub m.l k).subset ht)
theorem Wm.put_ok {m : Wm κ} (h : m.Ok) {k : κ} (hf : m.full k = false) {n : Int} (h1 : 1 ≤ n) (h2 : n ≤ 1048576) : (m.put k n).Ok := by
  have hd := Wm.drop_ok h k
  refine ⟨Wm.put_len h hf n, fun t ht => ?_, ins_srt hd.so _, ?_⟩
  · rcases List.mem_cons.1 ((ins_perm _ _).subset ht) with rfl | ht
    · exact ⟨by show m.now < m.now + n; omega, by show m.now + n ≤ m.now + 1048576; omega⟩
    · exact hd.dn t ht
  · show ((ins (rem m.l k) ⟨k, m.now + n, m.sets⟩).map Tm.k).Nodup
    rw [((ins_perm (rem m.l k) ⟨k, m.now + n, m.sets⟩).map Tm.k).nodup_iff, List.map_cons, List.nodup_cons]
    exact ⟨rem_not m.l k, hd.nd⟩
theorem Wm.set_no {m : Wm κ} {k : κ} {n : Int} (h : n < 1 ∨ 1048576 < n) : m.setE k n = 5 ∧ m.set k n = m := ⟨if_pos h, if_pos h⟩
theorem Wm.set_full {m : Wm κ} {k : κ} {n : Int} (h : ¬ (n < 1 ∨ 1048576 < n)) (hf : m.full k = true) : m.setE k n = 3 ∧ m.set k n = m := by
  unfold Wm.setE Wm.set
  rw [if_neg h, if_neg h, if_pos hf, if_pos hf]
  exact ⟨rfl, rfl⟩
theorem Wm.set_yes {m : Wm κ} {k : κ} {n : Int} (h : ¬ (n < 1 ∨ 1048576 < n)) (hf : m.full k = false) : m.setE k n = 0 ∧ m.set k n = m.put k n := by
  have hf' : ¬ m.full k = true := by rw [hf]; simp
  unfold Wm.setE Wm.set
  rw [if_neg h, if_neg h, if_neg hf', if_neg hf']
  exact ⟨rfl, rfl⟩
theorem Wm.set_nm {m : Wm κ} (h : m.Nm) (ho : m.Ok) (hn : m.now ≤ 1000000000) (k : κ) (n : Int) : (m.set k n).Nm := by
  by_cases h1 : n < 1 ∨ 1048576 < n
  · rw [(Wm.set_no h1).2]; exact h
  · cases hf : m.full k with
    | true => rw [(Wm.set_full h1 hf).2]; exact h
    | false => rw [(Wm.set_yes h1 hf).2]; exact Wm.put_nm h ho hn hf (by omega) (by omega)
theorem Wm.set_ok {m : Wm κ} (h : m.Ok) (k : κ) (n : Int) : (m.set k n).Ok := by
  by_cases h1 : n < 1 ∨ 1048576 < n
  · rw [(Wm.set_no h1).2]; exact h
  · cases hf : m.full k with
    | true => rw [(Wm.set_full h1 hf).2]; exact h
    | false => rw [(Wm.set_yes h1 hf).2]; exact Wm.put_ok h hf (by omega) (by omega)
theorem Wm.set_now (m : Wm κ) (k : κ) (n : Int) : (m.set k n).now = m.now := by
  unfold Wm.set
  split
  · rfl
  · split <;> rfl
theorem Wm.set_most (m : Wm κ) (k : κ) (n : Int) : (m.set k n).most = m.most := by
  unfold Wm.set
  split
  · rfl
  · split <;> rfl
theorem Wm.set_sets (m : Wm κ) (k : κ) (n : Int) : m.sets ≤ (m.set k n).sets ∧ (m.set k n).sets ≤ m.sets + 1 := by
  unfold Wm.set
  split
  · omega
  · split
    · omega
    · show m.sets ≤ m.sets + 1 ∧ m.sets + 1 ≤ m.sets + 1; omega
theorem Wm.left_at {m : Wm κ} (h : m.Ok) {i : Nat} (hi : i < m.l.length) : m.left m.l[i].k = m.l[i].d - m.now := by
  have hf : m.l.find? (fun t => decide (t.k = m.l[i].k)) = some m.l[i] := by
    rw [List.find?_eq_some_iff_getElem]
    refine ⟨by simp, i, hi, rfl, fun j hj => ?_⟩
    have hne : (m.l.map Tm.k)[j]'(by simp; omega) ≠ (m.l.map Tm.k)[i]'(by simpa using hi) := fun e => by
      have := (List.getElem_inj h.nd).1 e
      omega
    simpa using hne
  unfold Wm.left
  rw [hf]
theorem Wm.left_no {m : Wm κ} {k : κ} (h : k ∉ m.l.map Tm.k) : m.left k = 0 := by
  have hf : m.l.find? (fun t => decide (t.k = k)) = none := by
    rw [List.find?_eq_none]
    intro t ht
    have : t.k ≠ k := fun e => h (List.mem_map.2 ⟨t, ht, e⟩)
    simpa using this
  unfold Wm.left
  rw [hf]
theorem Wm.has_no {m : Wm κ} {k : κ} (h : k ∉ m.l.map Tm.k) : m.has k = false := decide_eq_false h
theorem Wm.has_yes {m : Wm κ} {k : κ} (h : k ∈ m.l.map Tm.k) : m.has k = true := decide_eq_true h
end
end Go.Proofs.Ytainmpeiicinmaa
