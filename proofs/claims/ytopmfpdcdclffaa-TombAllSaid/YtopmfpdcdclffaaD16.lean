/- The tombs of all hosts in memory: Of, Count. -/
import Derived.Test.YtopmfpdcdclffaaD8
import Derived.Test.YtopmfpdcdclffaaLsr
set_option linter.unusedSimpArgs false
set_option linter.unusedVariables false
namespace Go.Proofs.Ytopmfpdcdclffaa
open Go.RowKit Go.Shelf
/-- A tomb's record by value, and its words. -/
abbrev Tq := Bm × (Nat → Nat)
def tcl (q : Tq) : List Value := q.1.mem q.2
theorem tcl_len (q : Tq) : (tcl q).length = 6 := rfl
theorem tcl_one (q : Tq) : ∀ v ∈ tcl q, v.oneCell' = true := Bm.mem_one _ _
def z0 : Tq := (⟨0, 0, fun _ => false⟩, fun _ => 0)
def alL (hosts : Nat) (qs : List Tq) : List Value := .int .i64 hosts :: flat tcl qs
theorem alL_len (hosts : Nat) (qs : List Tq) : (alL hosts qs).length = 1 + qs.length * 6 := by
  unfold alL
  rw [List.length_cons, flat_len tcl_len]; omega
/-- Where the tomb of host i lies. -/
def plA (p hosts : Nat) (qs : List Tq) (i : Nat) (hi : i ≤ qs.length) : Pl := ⟨p, 1 + i * 6, 68, .int .i64 hosts :: flat tcl (qs.take i), flat tcl (qs.drop (i + 1)), by
  rw [List.length_cons, flat_len tcl_len, List.length_take, Nat.min_eq_left hi]; omega⟩
theorem plA_all {p hosts i : Nat} {qs : List Tq} {hi : i ≤ qs.length} (h : i < qs.length) (q : Tq) : (plA p hosts qs i hi).all (tcl q) = alL hosts (qs.set i q) := by
  unfold Pl.all plA alL
  rw [List.set_eq_take_append_cons_drop, if_pos h, flat_app]
  simp [flat]
theorem lay_alL {hosts i : Nat} {qs : List Tq} (h : i < qs.length) (q : Tq) : lay (alL hosts qs) (1 + i * 6) (tcl q) = alL hosts (qs.set i q) := by
  unfold alL
  rw [flat_set tcl_len qs i h]
  unfold lay
  rw [show 1 + i * 6 = i * 6 + 1 from by omega, List.take_succ_cons, show i * 6 + 1 + (tcl q).length = i * 6 + (tcl q).length + 1 from by omega, List.drop_succ_cons]
  rfl
/-- The tombs of all hosts, by value Bs, in block p. -/
structure AllC (w : World) (p : Nat) (Bs : List Bm) : Prop where
  l8 : Bs.length ≤ 8
  ex : ∃ qs : List Tq, qs.length = 8 ∧ (∀ (i : Nat) (B : Bm), Bs[i]? = some B → B.ok ∧ ∃ m, Marks B m ∧ qs[i]? = some (B, m)) ∧ Bk w 68 p (alL Bs.length qs)
section
variable {w w' : World} {p : Nat} {Bs : List Bm}
theorem AllC.below (h : AllC w p Bs) (hb : Below w.heap.size w w') : AllC w' p Bs := by
  obtain ⟨h1, qs, h2, h3, h4⟩ := h
  exact ⟨h1, qs, h2, h3, h4.below hb⟩
theorem AllC.st (h : AllC w p Bs) {F : Nat → Prop} (hs : St F w w') (hF : ¬ F p) : AllC w' p Bs := by
  obtain ⟨h1, qs, h2, h3, h4⟩ := h
  exact ⟨h1, qs, h2, h3, h4.st hs hF⟩
theorem AllC.lt (h : AllC w p Bs) : p < w.heap.size := by
  obtain ⟨h1, qs, h2, h3, h4⟩ := h
  exact h4.lt
theorem AllC.cell0 (h : AllC w p Bs) : w.cell? ⟨p, 0, none⟩ = some (.int .i64 Bs.length) := by
  obtain ⟨h1, qs, h2, h3, h4⟩ := h
  exact h4.cell 0 rfl
theorem AllC.at (h : AllC w p Bs) {i : Nat} {B : Bm} (hB : Bs[i]? = some B) : ∃ P : Pl, P.p = p ∧ P.o = 1 + i * 6 ∧ Bmp w P B ∧ ∀ w' B', Bd P B' w w' → AllC w' p (Bs.set i B') := by
  obtain ⟨h1, qs, h2, h3, h4⟩ := h
  obtain ⟨ho, m, hm, hq⟩ := h3 i B hB
  obtain ⟨hi, hqi⟩ := List.getElem?_eq_some_iff.1 hq
  refine ⟨plA p Bs.length qs i (Nat.le_of_lt hi), rfl, rfl, ⟨ho, m, hm, ?_⟩, fun w' B' hd => ?_⟩
  · show Bk w _ p ((plA p Bs.length qs i _).all (tcl (B, m)))
    rw [plA_all hi, ← hqi, List.set_getElem_self]
    exact h4
  · obtain ⟨ho', m', hm', hk'⟩ := hd.bm
    have hk : Bk w' 68 p ((plA p Bs.length qs i (Nat.le_of_lt hi)).all (tcl (B', m'))) := hk'
    rw [plA_all hi] at hk
    refine ⟨by rw [List.length_set]; exact h1, qs.set i (B', m'), by rw [List.length_set]; exact h2, fun j C hC => ?_, by rw [List.length_set]; exact hk⟩
    have hiB : i < Bs.length := (List.getElem?_eq_some_iff.1 hB).1
    rw [List.getElem?_set] at hC ⊢
    by_cases hij : i = j
    · subst hij
      rw [if_pos rfl, if_pos hiB] at hC
      cases hC
      rw [if_pos rfl, if_pos hi]
      exact ⟨ho', m', hm', rfl⟩
    · rw [if_neg hij] at hC ⊢
      exact h3 j C hC
theorem a_of (h : AllC w p Bs) {i : Nat} (hi : i < Bs.length) :
    Calls Try.prog 19 #[.pointer (some ⟨p, 0, none⟩), .int .i64 i] w fun e w' => e = .returned (.pointer (some ⟨p, 1 + i * 6, none⟩)) ∧ w = w' := by
  have h8 := h.l8
  have c0 := h.cell0
  have HR : Hid (inR (i : Int) 0 ((Bs.length : Int) - 1) = true) := Lib.hid (decide_eq_true (by omega))
  have hw : IntKind.i64.wrap ((Bs.length : Int) - 1) = (Bs.length : Int) - 1 := by rw [IntKind.wrap_i64]; omega
  have hi8 : (i : Int) < 8 := by omega
  clear h
  go_enter Try.func19, Try.ntmps19
  go_wp2_with fail
  refine (from_any _ _ _ w).mono ?_
  rintro e w' ⟨rfl, rfl⟩
  rw [HR.out]
  go_wp2
  go_ret
  exact ⟨rfl, rfl⟩
theorem a_no (h : AllC w p Bs) (x : Int) (hx : x = -1 ∨ x = Bs.length) :
    Calls Try.prog 19 #[.pointer (some ⟨p, 0, none⟩), .int .i64 x] w fun e w' => e = .returned (.pointer none) ∧ w = w' := by
  have h8 := h.l8
  have c0 := h.cell0
  have HR : Hid (inR x 0 ((Bs.length : Int) - 1) = false) := Lib.hid (decide_eq_false (by omega))
  have hw : IntKind.i64.wrap ((Bs.length : Int) - 1) = (Bs.length : Int) - 1 := by rw [IntKind.wrap_i64]; omega
  clear h
  go_enter Try.func19, Try.ntmps19
  go_wp2_with fail
  refine (from_any _ _ _ w).mono ?_
  rintro e w' ⟨rfl, rfl⟩
  rw [HR.out]
  go_wp2
  go_ret
  exact ⟨rfl, rfl⟩
/-- How many numbers above their floors are closed, in the first i together. -/
def sumC (Bs : List Bm) (i : Nat) : Nat := ((Bs.take i).map fun B => (B.all true).length).sum
theorem sumC_zero (Bs : List Bm) : sumC Bs 0 = 0 := rfl
theorem sumC_succ {i : Nat} {B : Bm} (h : Bs[i]? = some B) : sumC Bs (i + 1) = sumC Bs i + (B.all true).length := by
  obtain ⟨hi, rfl⟩ := List.getElem?_eq_some_iff.1 h
  unfold sumC
  rw [List.take_succ_eq_append_getElem hi, List.map_append, List.sum_append]
  simp
theorem sumC_le (hok : ∀ B ∈ Bs, B.ok) : ∀ i, sumC Bs i ≤ 256 * i
  | 0 => Nat.le_refl _
  | i + 1 => by
    cases hb : Bs[i]? with
    | none =>
      have := sumC_le hok i
      unfold sumC at this ⊢
      rw [List.getElem?_eq_none_iff] at hb
      rw [List.take_of_length_le (by omega)]
      rw [List.take_of_length_le hb] at this
      omega
    | some B =>
      rw [sumC_succ hb]
      have := sumC_le hok i
      have h2 := B.nums_len true B.size
      have h3 := (hok B (List.mem_of_getElem? hb)).s2
      have : (B.all true).length ≤ B.size := h2
      omega
theorem AllC.oks (h : AllC w p Bs) : ∀ B ∈ Bs, B.ok := by
  obtain ⟨h1, qs, h2, h3, h4⟩ := h
  intro B hB
  obtain ⟨i, hi⟩ := List.getElem?_of_mem hB
  exact (h3 i B hi).1
set_option maxHeartbeats 1000000 in
theorem a_count (h : AllC w p Bs) :
    Calls Try.prog 20 #[.pointer (some ⟨p, 0, none⟩)] w fun e w' => e = .returned (.int .i64 (sumC Bs Bs.length)) ∧ Below w.heap.size w w' := by
  have h8 := h.l8
  have hle := sumC_le h.oks
  have c0 := h.cell0
  have HH := Lib.hid h
  have HLE := Lib.hid hle
  clear h hle
  go_enter Try.func20, Try.ntmps20
  go_wp2
  go_loopw [3, 11] (fun n i wr => ∃ k : Nat, k ≤ Bs.length ∧ i = .int .i64 k ∧ n = .int .i64 (sumC Bs k) ∧ Below w.heap.size w wr) (fun _ i _ => Bs.length - (intOf i).toNat)
  case atStart => exact ⟨0, Nat.zero_le _, rfl, rfl, Below.refl _ _⟩
  case round =>
    obtain ⟨k, hk, rfl, rfl, hb⟩ := hrel
    have HB := Lib.hid hb
    by_cases hlt : k < Bs.length
    · have hlt' : (k : Int) < Bs.length := by omega
      have hk8 : (k : Int) < 8 := by omega
      obtain ⟨P, hp, ho, hbm, _⟩ := (HH.out.below hb).at (List.getElem?_eq_getElem hlt)
      have hc := t_count hbm
      rw [hp, ho] at hc
      have HC := Lib.hid hc
      have HS := Lib.hid (sumC_succ (List.getElem?_eq_getElem hlt))
      have hl1 := HLE.out (k + 1)
      have hl2 := HS.out
      clear hb hp ho hbm hc c0
      generalize (Bs[k].all true).length = z at *
      have hl3 : sumC Bs k + z ≤ 2048 := by omega
      go_wp2_with fail
      refine HC.out.mono ?_
      rintro e w2 ⟨rfl, hb2⟩
      have HB2 := Lib.hid (HB.out.trans (hb2.mono HB.out.size))
      clear hb2 hl2
      go_wp2
      go_roundw
      case rel => exact ⟨k + 1, by omega, by go_num, by rw [HS.out]; go_num, HB2.out⟩
      case measure => simp [intOf]; omega
    · obtain rfl : k = Bs.length := by omega
      clear hb c0
      go_wp2
      go_ret
      exact ⟨rfl, HB.out⟩
end
end Go.Proofs.Ytopmfpdcdclffaa
