/- Sums at once and continued, by the program and by the reference. -/
import Derived.Test.YtcmakhkbkfkhkaaA3
import Derived.Deep.LoopGhost
set_option linter.unusedSimpArgs false
set_option linter.unusedVariables false
namespace Go.Proofs.Ytcmakhkbkfkhkaa
open Go.RowKit Go.Shelf

theorem raw_shift (a b c d : Int) (l : List Int) : rawA (a + 65521 * c) (b + 65521 * d) l % 65521 = rawA a b l % 65521 ∧ rawB (a + 65521 * c) (b + 65521 * d) l % 65521 = rawB a b l % 65521 := by
  induction l generalizing a b c d with
  | nil => unfold rawA rawB raw; constructor <;> simp
  | cons x l ih =>
    have := ih (a + x) (b + (a + x)) c (c + d)
    unfold rawA rawB at this ⊢
    unfold raw
    rw [show a + 65521 * c + x = a + x + 65521 * c from by omega, show b + 65521 * d + (a + x + 65521 * c) = b + (a + x) + 65521 * (c + d) from by omega]
    exact this
theorem raw_mod (a b : Int) (l : List Int) : rawA (a % 65521) (b % 65521) l % 65521 = rawA a b l % 65521 ∧ rawB (a % 65521) (b % 65521) l % 65521 = rawB a b l % 65521 := by
  have := raw_shift (a % 65521) (b % 65521) (a / 65521) (b / 65521) l
  rw [show a % 65521 + 65521 * (a / 65521) = a from by omega, show b % 65521 + 65521 * (b / 65521) = b from by omega] at this
  exact ⟨this.1.symm, this.2.symm⟩
theorem raw_app (a b : Int) (l m : List Int) : raw a b (l ++ m) = raw (rawA a b l) (rawB a b l) m := by
  induction l generalizing a b with
  | nil => rfl
  | cons x l ih => exact ih _ _
theorem ad_app (a b : Int) (l m : List Int) : adA (adA a b l) (adB a b l) m = adA a b (l ++ m) ∧ adB (adA a b l) (adB a b l) m = adB a b (l ++ m) := by
  unfold adA adB
  have := raw_mod (rawA a b l) (rawB a b l) m
  rw [this.1, this.2]
  unfold rawA rawB
  rw [raw_app]
  exact ⟨rfl, rfl⟩
theorem ad_lt (a b : Int) (l : List Int) : (0 ≤ adA a b l ∧ adA a b l < 65521) ∧ 0 ≤ adB a b l ∧ adB a b l < 65521 := by unfold adA adB; omega
theorem ad_take (a b : Int) (l : List Int) (k : Nat) (h : k < l.length) : adA a b (l.take (k + 1)) = (adA a b (l.take k) + l[k]) % 65521 ∧ adB a b (l.take (k + 1)) = (adB a b (l.take k) + (adA a b (l.take k) + l[k]) % 65521) % 65521 := by
  have := raw_take a b l k h
  unfold adA adB
  rw [this.1, this.2]
  omega
/-- The checksum of two sums. -/
def sm (a b : Int) : Int := 65536 * b + a
/-- A checksum goes on by bytes. -/
def onV (s : Int) (l : List Int) : Int := sm (adA (s % 65536 % 65521) (s / 65536 % 65521) l) (adB (s % 65536 % 65521) (s / 65536 % 65521) l)
theorem onV_app (s : Int) (l m : List Int) (h0 : 0 ≤ s) (h1 : s < 4294967296) : onV (onV s l) m = onV s (l ++ m) := by
  unfold onV
  generalize s % 65536 % 65521 = a
  generalize s / 65536 % 65521 = b
  have hb := ad_lt a b l
  have := ad_app a b l m
  have e1 : sm (adA a b l) (adB a b l) % 65536 % 65521 = adA a b l := by unfold sm; omega
  have e2 : sm (adA a b l) (adB a b l) / 65536 % 65521 = adB a b l := by unfold sm; omega
  rw [e1, e2, this.1, this.2]
theorem or16 (a b : Int) (h0 : 0 ≤ a) (h1 : a < 65536) (h2 : 0 ≤ b) (h3 : b < 65536) : bits .or .u64 (b * 65536) a = sm a b := by
  have h := bits_join .u64 64 (by decide) wraps_u64 16 (b * 65536) a (by omega) (by omega) (by omega) h0 (by omega) (by omega)
  rw [h]
  unfold sm
  omega

/-- A part: where it lies, and its bytes. -/
structure Pt where
  A : Option Addr
  n : Nat
  c : Nat
  xs : List Int
/-- The slice (A, n) of parts. -/
def Pts (w : World) (A : Option Addr) (n : Nat) (ps : List Pt) : Prop :=
  ps.length = n ∧ n ≤ 1000 ∧ ∀ i (h : i < ps.length), (∃ g o, A = some ⟨g, o, none⟩ ∧ g < w.heap.size ∧ w.cell? ⟨g, o + i, none⟩ = some (.slice ps[i].A ps[i].n ps[i].c)) ∧ Rd .u8 w ps[i].A ps[i].n ps[i].c ps[i].xs ∧ ps[i].n ≤ 65536
/-- All bytes. -/
def cat (ps : List Pt) : List Int := ps.flatMap (·.xs)
theorem cat_take (ps : List Pt) (k : Nat) (h : k < ps.length) : cat (ps.take (k + 1)) = cat (ps.take k) ++ ps[k].xs := by
  unfold cat
  rw [List.take_succ_eq_append_getElem h, List.flatMap_append]
  simp
theorem Pts.below {w w' : World} {A : Option Addr} {n : Nat} {ps : List Pt} (h : Pts w A n ps) (hb : Below w.heap.size w w') : Pts w' A n ps := by
  refine ⟨h.1, h.2.1, fun i hi => ?_⟩
  obtain ⟨⟨g, o, e, hg, hc⟩, hr, hn⟩ := h.2.2 i hi
  exact ⟨⟨g, o, e, by have := hb.size; omega, (hb.cell (p := ⟨g, _, none⟩) hg).trans hc⟩, hr.below hb, hn⟩
theorem Pts.nil (w : World) : Pts w none 0 [] := ⟨rfl, by omega, fun i h => by simp at h⟩

end Go.Proofs.Ytcmakhkbkfkhkaa
