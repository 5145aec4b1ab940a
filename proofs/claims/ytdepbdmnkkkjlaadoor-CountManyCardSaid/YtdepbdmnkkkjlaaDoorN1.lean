/- Counters by value: a list of names with numbers, by rising names. -/
import Derived.Test.YtdepbdmnkkkjlaaDoorLsr
import Derived.Sort.KeysCollected
import Derived.Maps.Ext
import Derived.Maps.OwnIn
import Derived.Lib.ItoaNum
set_option linter.unusedSimpArgs false
set_option linter.unusedVariables false
namespace Go.Proofs.YtdepbdmnkkkjlaaDoor
open Go.RowKit Go.Shelf Go.Maps

abbrev Nm := List UInt8
structure Cn where
  s : Nm
  n : Int
deriving DecidableEq
abbrev Most : Int := 1152921504606846976
/-! Names by their bytes. -/
theorem before_lt : ∀ a b : Nm, bytesBefore a b = decide (a < b)
  | [], [] => by simp [bytesBefore]
  | [], _ :: _ => by simp [bytesBefore]
  | _ :: _, [] => by simp [bytesBefore]
  | a :: r, b :: s => by
    simp only [bytesBefore, before_lt r s, List.cons_lt_cons_iff]
    by_cases h1 : a < b <;> by_cases h2 : a = b <;> by_cases h3 : r < s <;> simp [h1, h2, h3]
theorem nm_irr (a : Nm) : ¬ a < a := List.lt_irrefl a
theorem nm_trans {a b c : Nm} (h : a < b) (k : b < c) : a < c := List.lt_trans h k
theorem nm_tri (a b : Nm) : a < b ∨ a = b ∨ b < a := by
  by_cases h : a < b
  · exact .inl h
  by_cases k : b < a
  · exact .inr (.inr k)
  · exact .inr (.inl (List.le_antisymm (List.not_lt.1 k) (List.not_lt.1 h)))
theorem nm_asymm {a b : Nm} (h : a < b) : ¬ b < a := fun k => nm_irr a (nm_trans h k)
theorem nm_ne {a b : Nm} (h : a < b) : a ≠ b := fun e => nm_irr b (by rw [e] at h; exact h)
def Srt (m : List Cn) : Prop := m.Pairwise fun x y => x.s < y.s
/-- What is at a name. -/
def look : List Cn → Nm → Option Int
  | [], _ => none
  | x :: l, s => if x.s = s then some x.n else look l s
def get (m : List Cn) (s : Nm) : Int := (look m s).getD 0
/-- A name's number is set. -/
def put : List Cn → Nm → Int → List Cn
  | [], s, n => [⟨s, n⟩]
  | x :: l, s, n => if x.s < s then x :: put l s n else if x.s = s then ⟨s, n⟩ :: l else ⟨s, n⟩ :: x :: l
/-- How many names stand ahead of a name; is it there? -/
def plc (m : List Cn) (s : Nm) : Nat := (m.takeWhile fun x => decide (x.s < s)).length
def at' (m : List Cn) (s : Nm) : Bool := match m[plc m s]? with | some x => decide (x.s = s) | none => false
theorem plc_le (m : List Cn) (s : Nm) : plc m s ≤ m.length := (List.takeWhile_prefix _).length_le
theorem put_eq (m : List Cn) (s : Nm) (n : Int) : put m s n = m.take (plc m s) ++ ⟨s, n⟩ :: m.drop (if at' m s then plc m s + 1 else plc m s) := by
  induction m with
  | nil => simp [put, plc, at']
  | cons x l ih =>
    by_cases h : x.s < s
    · have e : plc (x :: l) s = plc l s + 1 := by simp [plc, h]
      have e2 : at' (x :: l) s = at' l s := by simp [at', e]
      rw [put, if_pos h, ih, e, e2]
      cases at' l s <;> simp
    · have e : plc (x :: l) s = 0 := by simp [plc, h]
      by_cases h2 : x.s = s
      · simp [put, h, h2, e, at']
        exact fun h3 => absurd h3 (nm_irr _)
      · simp [put, h, h2, e, at']
theorem look_mem {m : List Cn} {s : Nm} {n : Int} (h : look m s = some n) : (⟨s, n⟩ : Cn) ∈ m := by
  induction m with
  | nil => simp [look] at h
  | cons x l ih =>
    rw [look] at h
    split at h
    · rename_i e
      subst e
      injection h with h
      subst h
      simp
    · exact List.mem_cons_of_mem _ (ih h)
theorem look_none {m : List Cn} {s : Nm} (h : ∀ x ∈ m, x.s ≠ s) : look m s = none := by
  induction m with
  | nil => rfl
  | cons x l ih => rw [look, if_neg (h x (by simp))]; exact ih fun y hy => h y (by simp [hy])
theorem look_of {m : List Cn} (hm : Srt m) {x : Cn} (h : x ∈ m) : look m x.s = some x.n := by
  induction m with
  | nil => simp at h
  | cons y l ih =>
    obtain ⟨h1, h2⟩ := List.pairwise_cons.1 hm
    rcases List.mem_cons.1 h with rfl | h
    · simp [look]
    · rw [look, if_neg (nm_ne (h1 x h))]
      exact ih h2 h
theorem look_some {m : List Cn} {s : Nm} (h : look m s ≠ none) : ∃ x ∈ m, x.s = s := by
  cases hl : look m s with
  | none => exact absurd hl h
  | some n => exact ⟨_, look_mem hl, rfl⟩
theorem look_put (m : List Cn) (s t : Nm) (n : Int) : look (put m s n) t = if t = s then some n else look m t := by
  induction m with
  | nil =>
    simp only [put, look]
    by_cases h : t = s
    · simp [h]
    · simp [h, Ne.symm h]
  | cons x l ih =>
    rw [put]
    by_cases h1 : x.s < s
    · rw [if_pos h1, look, ih, look]
      by_cases h2 : x.s = t
      · rw [if_pos h2, if_pos h2, if_neg (fun e => nm_ne h1 (h2.trans e))]
      · rw [if_neg h2, if_neg h2]
    · rw [if_neg h1]
      by_cases h2 : x.s = s
      · rw [if_pos h2, look, look]
        by_cases h3 : t = s
        · simp [h3]
        · rw [if_neg (Ne.symm h3), if_neg h3, if_neg (fun e => h3 (e.symm.trans h2))]
      · rw [if_neg h2, look]
        by_cases h3 : t = s
        · simp [h3]
        · rw [if_neg (Ne.symm h3), if_neg h3]
theorem mem_put {m : List Cn} {s : Nm} {n : Int} {x : Cn} (h : x ∈ put m s n) : x = ⟨s, n⟩ ∨ x ∈ m := by
  induction m with
  | nil => simpa [put] using h
  | cons y l ih =>
    rw [put] at h
    split at h
    · rcases List.mem_cons.1 h with rfl | h
      · simp
      · rcases ih h with e | h
        · exact .inl e
        · simp [h]
    · split at h
      · rcases List.mem_cons.1 h with rfl | h
        · simp
        · simp [h]
      · rcases List.mem_cons.1 h with rfl | h
        · simp
        · exact .inr h
theorem srt_put {m : List Cn} (hm : Srt m) (s : Nm) (n : Int) : Srt (put m s n) := by
  induction m with
  | nil => simp [put, Srt]
  | cons y l ih =>
    obtain ⟨h1, h2⟩ := List.pairwise_cons.1 hm
    rw [put]
    split
    · rename_i hy
      refine List.pairwise_cons.2 ⟨fun x hx => ?_, ih h2⟩
      rcases mem_put hx with rfl | hx
      · exact hy
      · exact h1 x hx
    · rename_i hy
      split
      · rename_i he
        exact List.pairwise_cons.2 ⟨fun x hx => by rw [← he]; exact h1 x hx, h2⟩
      · rename_i he
        have hlt : s < y.s := by
          rcases nm_tri y.s s with h | h | h
          · exact absurd h hy
          · exact absurd h he
          · exact h
        exact List.pairwise_cons.2 ⟨fun x hx => by
          rcases List.mem_cons.1 hx with rfl | hx
          · exact hlt
          · exact nm_trans hlt (h1 x hx), hm⟩
theorem len_put {m : List Cn} (hm : Srt m) (s : Nm) (n : Int) : (put m s n).length = if (look m s).isSome then m.length else m.length + 1 := by
  induction m with
  | nil => simp [put, look]
  | cons y l ih =>
    obtain ⟨h1, h2⟩ := List.pairwise_cons.1 hm
    rw [put, look]
    split
    · rename_i hy
      rw [List.length_cons, ih h2, if_neg (nm_ne hy)]
      split <;> simp
    · rename_i hy
      split
      · simp
      · rename_i he
        have hlt : s < y.s := by
          rcases nm_tri y.s s with h | h | h
          · exact absurd h hy
          · exact absurd h he
          · exact h
        rw [look_none fun x hx e => nm_irr s (by have := nm_trans hlt (h1 x hx); rw [e] at this; exact this)]
        simp
/-- What is at each name tells all. -/
theorem srt_ext : ∀ {a b : List Cn}, Srt a → Srt b → (∀ s, look a s = look b s) → a = b
  | [], [], _, _, _ => rfl
  | [], y :: b, _, _, h => by have := h y.s; simp [look] at this
  | x :: a, [], _, _, h => by have := h x.s; simp [look] at this
  | x :: a, y :: b, ha, hb, h => by
    obtain ⟨a1, a2⟩ := List.pairwise_cons.1 ha
    obtain ⟨b1, b2⟩ := List.pairwise_cons.1 hb
    have hxy : x.s = y.s := by
      rcases nm_tri x.s y.s with hl | he | hl
      · have hk := h x.s
        rw [look, if_pos rfl, look_none (m := y :: b)] at hk
        · cases hk
        · intro z hz e
          rcases List.mem_cons.1 hz with rfl | hz
          · exact nm_ne hl e.symm
          · exact nm_ne (nm_trans hl (b1 z hz)) e.symm
      · exact he
      · have hk := h y.s
        rw [look_none (m := x :: a), look, if_pos rfl] at hk
        · cases hk
        · intro z hz e
          rcases List.mem_cons.1 hz with rfl | hz
          · exact nm_ne hl e.symm
          · exact nm_ne (nm_trans hl (a1 z hz)) e.symm
    have hn : x.n = y.n := by
      have hk := h x.s
      rw [look, if_pos rfl, look, if_pos hxy.symm] at hk
      exact Option.some.inj hk
    have he : x = y := by cases x; cases y; simp_all
    subst he
    have ht := srt_ext a2 b2 fun s => by
      by_cases hs : x.s = s
      · subst hs
        rw [look_none fun z hz => (nm_ne (a1 z hz)).symm, look_none fun z hz => (nm_ne (b1 z hz)).symm]
      · have := h s
        rwa [look, if_neg hs, look, if_neg hs] at this
    rw [ht]
/-! ### What the calls make of them -/
def okC (c : UInt8) : Bool := (97 ≤ c && c ≤ 122) || (48 ≤ c && c ≤ 57) || c == 46
def good (s : Nm) : Bool := decide (1 ≤ s.length) && decide (s.length ≤ 32) && s.all okC
def sum (a b : Int) : Int := if b > Most - a then Most else a + b
theorem sum_min (a b : Int) : sum a b = a + min b (Most - a) := by
  unfold sum
  split <;> omega
def add (m : List Cn) (s : Nm) (n : Int) : List Cn × Int :=
  if good s = false ∨ n < 0 then (m, 1) else if look m s = none ∧ 256 ≤ m.length then (m, 3) else (put m s (sum (get m s) n), 0)
structure Ok (m : List Cn) : Prop where
  srt : Srt m
  len : m.length ≤ 256
  all : ∀ x ∈ m, good x.s = true ∧ 0 ≤ x.n ∧ x.n ≤ Most
theorem Ok.nil : Ok [] := ⟨List.Pairwise.nil, by simp, by simp⟩
theorem Ok.get_le {m : List Cn} (h : Ok m) (s : Nm) : 0 ≤ get m s ∧ get m s ≤ Most := by
  unfold get
  cases hl : look m s with
  | none => simp [Most]
  | some n => exact (h.all _ (look_mem hl)).2
theorem Ok.sum_le {m : List Cn} (h : Ok m) (s : Nm) {n : Int} (hn : 0 ≤ n) : 0 ≤ sum (get m s) n ∧ sum (get m s) n ≤ Most := by
  have := h.get_le s
  unfold sum
  split <;> omega
theorem Ok.put_of {m : List Cn} (h : Ok m) {s : Nm} {n : Int} (hs : good s = true) (h0 : 0 ≤ n) (h1 : n ≤ Most) (hl : look m s ≠ none ∨ m.length < 256) : Ok (put m s n) := by
  refine ⟨srt_put h.srt s n, ?_, fun x hx => ?_⟩
  · rw [len_put h.srt]
    have := h.len
    rcases hl with hl | hl
    · rw [if_pos (Option.isSome_iff_ne_none.2 hl)]
      exact this
    · split <;> omega
  · rcases mem_put hx with rfl | hx
    · exact ⟨hs, h0, h1⟩
    · exact h.all x hx
theorem ok_add {m : List Cn} (h : Ok m) (s : Nm) (n : Int) : Ok (add m s n).1 := by
  unfold add
  split
  · exact h
  · rename_i h1
    have h1 : good s = true ∧ 0 ≤ n := by
      refine ⟨by cases hg : good s <;> simp_all, by omega⟩
    split
    · exact h
    · rename_i h2
      refine h.put_of h1.1 (h.sum_le s h1.2).1 (h.sum_le s h1.2).2 ?_
      by_cases hl : look m s = none
      · exact .inr (by have : ¬ 256 ≤ m.length := fun e => h2 ⟨hl, e⟩; omega)
      · exact .inl hl
def total (m : List Cn) (p : Nm) : Int := m.foldl (fun t x => if p.isPrefixOf x.s then sum t x.n else t) 0
def line (x : Cn) : Nm := x.s ++ 32 :: (Lib.itoa x.n ++ [10])
def txt (m : List Cn) : Nm := m.flatMap fun x => if 0 < x.n then line x else []
def since (m o : List Cn) : List Cn := m.map fun x => ⟨x.s, max 0 (x.n - get o x.s)⟩
def lacks (m o : List Cn) : Nat := (o.filter fun x => (look m x.s).isNone).length
def adds (m o : List Cn) : List Cn := o.foldl (fun a x => (add a x.s x.n).1) m
def merge (m o : List Cn) : List Cn × Int := if 256 < m.length + lacks m o then (m, 3) else (adds m o, 0)
/-- The document's way: one after the other, as long as there is room. -/
def rmerge (c : List Cn) : List Cn → List Cn → List Cn × Int
  | out, [] => (out, 0)
  | out, x :: l => if (add out x.s x.n).2 ≠ 0 then (c, 3) else rmerge c (add out x.s x.n).1 l
theorem srt_map_since {m : List Cn} (h : Srt m) (o : List Cn) : Srt (since m o) := by
  unfold Srt since
  rw [List.pairwise_map]
  exact h
theorem ok_since {m : List Cn} (h : Ok m) {o : List Cn} (ho : Ok o) : Ok (since m o) := by
  refine ⟨srt_map_since h.srt o, by simp [since, h.len], fun x hx => ?_⟩
  obtain ⟨y, hy, rfl⟩ := List.mem_map.1 hx
  have h1 := h.all y hy
  have h2 := ho.get_le y.s
  exact ⟨h1.1, by simp only; omega, by simp only; omega⟩
theorem ok_adds {m : List Cn} (h : Ok m) (o : List Cn) : Ok (adds m o) := by
  unfold adds
  induction o generalizing m with
  | nil => exact h
  | cons x l ih => exact ih (ok_add h x.s x.n)
theorem ok_merge {m o : List Cn} (h : Ok m) : Ok (merge m o).1 := by
  unfold merge
  split
  · exact h
  · exact ok_adds h o
/-- An Add that is not refused. -/
theorem add_ok {m : List Cn} {s : Nm} {n : Int} (hs : good s = true) (hn : 0 ≤ n) (h : look m s ≠ none ∨ m.length < 256) : add m s n = (put m s (sum (get m s) n), 0) := by
  unfold add
  rw [if_neg (by rintro (h | h); simp [hs] at h; omega), if_neg (by rintro ⟨h1, h2⟩; rcases h with h | h; exact h h1; omega)]
theorem lacks_nil (m : List Cn) : lacks m [] = 0 := rfl
theorem lacks_cons (m : List Cn) (x : Cn) (l : List Cn) : lacks m (x :: l) = (if look m x.s = none then 1 else 0) + lacks m l := by
  unfold lacks
  rw [List.filter_cons]
  cases hl : look m x.s <;> simp [hl] <;> omega
theorem lacks_put {m : List Cn} {s : Nm} {n : Int} {l : List Cn} (h : ∀ x ∈ l, x.s ≠ s) : lacks (put m s n) l = lacks m l := by
  unfold lacks
  congr 1
  refine List.filter_congr fun x hx => ?_
  rw [look_put, if_neg (h x hx)]
theorem rmerge_eq {c m o : List Cn} (hm : Ok m) (ho : Srt o) (hg : ∀ x ∈ o, good x.s = true ∧ 0 ≤ x.n) : rmerge c m o = if 256 < m.length + lacks m o then (c, 3) else (adds m o, 0) := by
  induction o generalizing m with
  | nil =>
    have := hm.len
    rw [rmerge, lacks_nil, if_neg (by omega)]
    rfl
  | cons x l ih =>
    obtain ⟨h1, h2⟩ := List.pairwise_cons.1 ho
    have hx := hg x (by simp)
    rw [rmerge, lacks_cons]
    by_cases hr : look m x.s ≠ none ∨ m.length < 256
    · have e := add_ok hx.1 hx.2 hr
      have hk := ok_add hm x.s x.n
      rw [e] at hk ⊢
      rw [if_neg (by simp), ih hk h2 fun y hy => hg y (by simp [hy])]
      rw [lacks_put fun y hy => (nm_ne (h1 y hy)).symm, len_put hm.srt]
      have ea : adds m (x :: l) = adds (put m x.s (sum (get m x.s) x.n)) l := by
        unfold adds
        rw [List.foldl_cons, e]
      rw [ea]
      cases hl : look m x.s with
      | none => simp only [Option.isSome_none, Bool.false_eq_true, if_false, if_true]; congr 1; apply propext; omega
      | some n => simp only [Option.isSome_some, if_true, reduceCtorEq, if_false]; congr 1; apply propext; omega
    · have hn : look m x.s = none := by
        cases hl : look m x.s with
        | none => rfl
        | some n => exact absurd (.inl (by rw [hl]; simp)) hr
      have hc : 256 ≤ m.length := by
        have : ¬ m.length < 256 := fun h => hr (.inr h)
        omega
      have e : add m x.s x.n = (m, 3) := by
        unfold add
        rw [if_neg (by rintro (h | h); simp [hx.1] at h; omega), if_pos ⟨hn, hc⟩]
      rw [e, if_pos (by simp), if_pos hn, if_pos (by omega)]
/-! ### The map's datum -/
def ent (x : Cn) : Lit × DataW Unit := (.string x.s, .lit (.int .i64 x.n))
def datum (m : List Cn) : DataW Unit := .map (m.map ent)
theorem has_datum (m : List Cn) (s : Nm) : Maps.has (datum m) (.string s) = (look m s).isSome := by
  unfold datum
  rw [has_eq]
  induction m with
  | nil => rfl
  | cons x l ih =>
    rw [List.map_cons, List.any_cons, ih, look]
    by_cases h : x.s = s <;> simp [h, ent, Lit.sameKey]
theorem at_datum (m : List Cn) (s : Nm) (z : DataW Unit) : (datum m).atKey (.string s) z = match look m s with | some n => .lit (.int .i64 n) | none => z := by
  have hf : (m.map ent).find? (fun p => p.1.sameKey (.string s)) = (look m s).map fun n => ((.string s, .lit (.int .i64 n)) : Lit × DataW Unit) := by
    induction m with
    | nil => rfl
    | cons x l ih =>
      rw [List.map_cons, List.find?_cons, look]
      by_cases h : x.s = s
      · simp [h, ent, Lit.sameKey]
      · simp only [h, ent, Lit.sameKey, if_false, beq_eq_false_iff_ne.2 h]
        exact ih
  simp only [datum, DataW.atKey, hf]
  cases look m s <;> rfl
theorem size_datum (m : List Cn) : Maps.size (datum m) = m.length := by simp [datum, Maps.size]
theorem keep_all {l : List Cn} {s : Nm} (h : ∀ x ∈ l, x.s ≠ s) : (l.map ent).filter (ChangeMaps.notKey (.string s)) = l.map ent := by
  rw [List.filter_eq_self]
  intro p hp
  obtain ⟨x, hx, rfl⟩ := List.mem_map.1 hp
  simp [ChangeMaps.notKey, ent, Lit.sameKey, h x hx]
theorem datum_put {m : List Cn} (hm : Srt m) (s : Nm) (n : Int) : (datum m).put (.string s) (.lit (.int .i64 n)) = datum (put m s n) := by
  show DataW.map (ChangeMaps.putKey _ _ _) = _
  unfold datum ChangeMaps.putKey
  congr 1
  induction m with
  | nil => simp [put, ent, DataW.insert]
  | cons x l ih =>
    obtain ⟨h1, h2⟩ := List.pairwise_cons.1 hm
    rw [put]
    by_cases hx : x.s < s
    · rw [if_pos hx, List.map_cons, List.filter_cons, if_pos (by simp [ChangeMaps.notKey, ent, Lit.sameKey, nm_ne hx]), DataW.insert, if_neg (by simp [ent, Lit.before, before_lt, nm_asymm hx]), ih h2]
      rfl
    · rw [if_neg hx]
      by_cases he : x.s = s
      · rw [if_pos he, List.map_cons, List.filter_cons, if_neg (by simp [ChangeMaps.notKey, ent, Lit.sameKey, he]), keep_all fun y hy => by rw [← he]; exact (nm_ne (h1 y hy)).symm]
        cases l with
        | nil => rfl
        | cons y l => rw [List.map_cons, DataW.insert, if_pos (by simp only [ent, Lit.before, before_lt]; rw [← he]; simpa using h1 y (by simp))]; rfl
      · have hlt : s < x.s := by
          rcases nm_tri x.s s with h | h | h
          · exact absurd h hx
          · exact absurd h he
          · exact h
        rw [if_neg he, keep_all, List.map_cons, DataW.insert, if_pos (by simpa [ent, Lit.before, before_lt] using hlt)]
        · rfl
        · intro y hy
          rcases List.mem_cons.1 hy with rfl | hy
          · exact he
          · exact (nm_ne (nm_trans hlt (h1 y hy))).symm
theorem keys_datum (m : List Cn) : strKeys (datum m) = m.map (·.s) := by
  simp [strKeys, datum, ent, strOf, Function.comp_def]
theorem sort_keys {m : List Cn} (hm : Srt m) {ss : List Nm} (h : ss.Perm (m.map (·.s))) : ss.mergeSort leB = m.map (·.s) := by
  rw [mergeSort_of_perm h]
  refine List.mergeSort_of_pairwise ?_
  rw [List.pairwise_map]
  exact hm.imp fun h => by simpa using List.le_of_lt h
end Go.Proofs.YtdepbdmnkkkjlaaDoor
