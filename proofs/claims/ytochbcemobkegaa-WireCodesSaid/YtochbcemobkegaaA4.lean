/- Sums at once and continued, by the program and by the reference. -/
import Derived.Test.YtochbcemobkegaaA3
import Derived.Deep.LoopGhost
set_option linter.unusedSimpArgs false
set_option linter.unusedVariables false
namespace Go.Proofs.Ytochbcemobkegaa
open Go.RowKit Go.Shelf

theorem raw_shift (a b c d : Int) (l : List Int) : rawA (a + 65521 * c) (b + 65521 * d) l % 65521 = rawA a b l % 65521 ∧ rawB (a + 65521 * c) (b + 65521 * d) l % 65521 = rawB a b l % 65521 := by
  induction l generalizing a b c d with
  | nil => unfold rawA rawB raw; constructor <;> simp
  | cons x l ih =>
    have := ih (a + x) (b + (a + x)) c (c + d)
    unfold rawA rawB at this ⊢
    unfold raw
    rw [show a + 65521 * c + x = a + x + 65521 * c from by omega, show b + 65521 * d + (a + x + 65521 * c) = b + (a + x) + 65521 * (c + d) from by omega]
    exact this
theorem raw_mod (a b : Int) (l : List Int) : rawA (a % 65521) (b % 65521) l % 65521 = rawA a b l % 65521 ∧ rawB (a % 65521) (b % 65521) l % 65521 = rawB a b l % 65521 := by
  have := raw_shift (a % 65521) (b % 65521) (a / 65521) (b / 65521) l
  rw [show a % 65521 + 65521 * (a / 65521) = a from by omega, show b % 65521 + 65521 * (b / 65521) = b from by omega] at this
  exact ⟨this.1.symm, this.2.symm⟩
theorem raw_app (a b : Int) (l m : List Int) : raw a b (l ++ m) = raw (rawA a b l) (rawB a b l) m := by
  induction l generalizing a b with
  | nil => rfl
  | cons x l ih => exact ih _ _
theorem ad_app (a b : Int) (l m : List Int) : adA (adA a b l) (adB a b l) m = adA a b (l ++ m) ∧ adB (adA a b l) (adB a b l) m = adB a b (l ++ m) := by
  unfold adA adB
  have := raw_mod (rawA a b l) (rawB a b l) m
  rw [this.1, this.2]
  unfold rawA rawB
  rw [raw_app]
  exact ⟨rfl, rfl⟩
theorem ad_lt (a b : Int) (l : List Int) : (0 ≤ adA a b l ∧ adA a b l < 65521) ∧ 0 ≤ adB a b l ∧ adB a b l < 65521 := by unfold adA adB; omega
theorem ad_take (a b : Int) (l : List Int) (k : Nat) (h : k < l.length) : adA a b (l.take (k + 1)) = (adA a b (l.take k) + l[k]) % 65521 ∧ adB a b (l.take (k + 1)) = (adB a b (l.take k) + (adA a b (l.take k) + l[k]) % 65521) % 65521 := by
  have := raw_take a b l k h
  unfold adA adB
  rw [this.1, this.2]
  omega
/-- The checksum of two sums. -/
def sm (a b : Int) : Int := 65536 * b + a
/-- A checksum goes on by bytes. -/
def onV (s : Int) (l : List Int) : Int := sm (adA (s % 65536 % 65521) (s / 65536 % 65521) l) (adB (s % 65536 % 65521) (s / 65536 % 65521) l)
theorem onV_app (s : Int) (l m : List Int) (h0 : 0 ≤ s) (h1 : s < 4294967296) : onV (onV s l) m = onV s (l ++ m) := by
  unfold onV
  generalize s % 65536 % 65521 = a
  generalize s / 65536 % 65521 = b
  have hb := ad_lt a b l
  have := ad_app a b l m
  have e1 : sm (adA a b l) (adB a b l) % 65536 % 65521 = adA a b l := by unfold sm; omega
  have e2 : sm (adA a b l) (adB a b l) / 65536 % 65521 = adB a b l := by unfold sm; omega
  rw [e1, e2, this.1, this.2]
theorem or16 (a b : Int) (h0 : 0 ≤ a) (h1 : a < 65536) (h2 : 0 ≤ b) (h3 : b < 65536) : bits .or .u64 (b * 65536) a = sm a b := by
  have h := bits_join .u64 64 (by decide) wraps_u64 16 (b * 65536) a (by omega) (by omega) (by omega) h0 (by omega) (by omega)
  rw [h]
  unfold sm
  omega

set_option maxHeartbeats 400000 in
theorem start_any (w : World) : Calls Try.prog 46 #[] w fun e w' => e = .returned (.agg #[.int .u64 1, .int .u64 0]) ∧ Below w.heap.size w w' := by
  go_enter Try.func46, Try.ntmps46
  go_wp2
  exact bodyPost_ret (v := .agg #[.int .u64 1, .int .u64 0]) (by simp [results, Try.results46, go_sem]) rfl ⟨rfl, ((Below.refl _ _).alloc (Nat.le_refl _) _)⟩

set_option maxHeartbeats 400000 in
theorem checksum_any (g T : Nat) (a b : Int) (r : List Value) (w : World) (hp : Bk w T g (pr a b r)) (ha : 0 ≤ a ∧ a < 65521) (hb : 0 ≤ b ∧ b < 65521) :
    Calls Try.prog 48 #[.pointer (some ⟨g, 0, none⟩)] w fun e w' => e = .returned (.int .u32 (sm a b)) ∧ ∃ m, w' = w.drewN m := by
  obtain ⟨ha0, ha1⟩ := ha
  obtain ⟨hb0, hb1⟩ := hb
  have h0 := hp.cell 0 rfl
  have h1 := hp.cell 1 rfl
  go_enter Try.func48, Try.ntmps48
  go_wp2
  go_quiet (fail)
  go_wp2
  go_ret
  exact ⟨ret_int (by rw [or16 a b ha0 (by omega) hb0 (by omega)]; unfold sm; omega), nq, rfl⟩

/-- A part: where it lies, and its bytes. -/
structure Pt where
  A : Option Addr
  n : Nat
  c : Nat
  xs : List Int
/-- The slice (A, n) of parts. -/
def Pts (w : World) (A : Option Addr) (n : Nat) (ps : List Pt) : Prop :=
  ps.length = n ∧ n ≤ 1000 ∧ ∀ i (h : i < ps.length), (∃ g o, A = some ⟨g, o, none⟩ ∧ g < w.heap.size ∧ w.cell? ⟨g, o + i, none⟩ = some (.slice ps[i].A ps[i].n ps[i].c)) ∧ Rd .u8 w ps[i].A ps[i].n ps[i].c ps[i].xs ∧ ps[i].n ≤ 65536
/-- All bytes. -/
def cat (ps : List Pt) : List Int := ps.flatMap (·.xs)
theorem cat_take (ps : List Pt) (k : Nat) (h : k < ps.length) : cat (ps.take (k + 1)) = cat (ps.take k) ++ ps[k].xs := by
  unfold cat
  rw [List.take_succ_eq_append_getElem h, List.flatMap_append]
  simp
theorem Pts.below {w w' : World} {A : Option Addr} {n : Nat} {ps : List Pt} (h : Pts w A n ps) (hb : Below w.heap.size w w') : Pts w' A n ps := by
  refine ⟨h.1, h.2.1, fun i hi => ?_⟩
  obtain ⟨⟨g, o, e, hg, hc⟩, hr, hn⟩ := h.2.2 i hi
  exact ⟨⟨g, o, e, by have := hb.size; omega, (hb.cell (p := ⟨g, _, none⟩) hg).trans hc⟩, hr.below hb, hn⟩
theorem Pts.nil (w : World) : Pts w none 0 [] := ⟨rfl, by omega, fun i h => by simp at h⟩

set_option maxHeartbeats 1000000 in
theorem adler_any (A : Option Addr) (n c : Nat) (ps : List Pt) (w : World) (h : Pts w A n ps) :
    Calls Try.prog 24 #[.slice A n c] w fun e w' => e = .returned (.int .u32 (onV 1 (cat ps))) ∧ Below w.heap.size w w' := by
  have HP := Lib.hid h
  have hl := h.1
  have hn := h.2.1
  clear h
  go_enter Try.func24, Try.ntmps24
  go_wp2_with fail
  refine (start_any _).mono ?_
  rintro e w1 ⟨rfl, hb1⟩
  go_wp2_with fail
  have hp1 := Bk.new w1 71 [.int .u64 1, .int .u64 0]
  have hb2 := hb1.alloc hb1.size (.cells #[.int .u64 1, .int .u64 0] 71)
  obtain ⟨gp, hgp⟩ : ∃ gp, gp = w1.heap.size := ⟨_, rfl⟩
  have hgw : w.heap.size ≤ gp := by have := hb1.size; omega
  rw [← hgp] at hp1 ⊢
  generalize w1.alloc (.cells #[.int .u64 1, .int .u64 0] 71) = w2 at *
  clear hb1 hgp
  go_loopg [9] n (fun gk ti wr => ∃ k : Nat, gk = n - k ∧ k ≤ n ∧ ti = .int .i64 k ∧ Bk wr 71 gp (pr (adA 1 0 (cat (ps.take k))) (adB 1 0 (cat (ps.take k))) []) ∧ Below w.heap.size w wr)
  case atStart => exact ⟨0, rfl, Nat.zero_le _, rfl, hp1, hb2⟩
  case round =>
    obtain ⟨k, rfl, hk, rfl, hp, hb⟩ := hrel
    by_cases hlt : k < n
    · have hlk : k < ps.length := by omega
      obtain ⟨⟨g, o, rfl, hg, hc⟩, hr, hrn⟩ := HP.out.2.2 k hlk
      have hr' := hr.below hb
      have HB := hr.blk
      have hcat := Lib.hid (cat_take ps k hlk)
      have hc' := (hb.cell (p := ⟨g, o + k, none⟩) hg).trans hc
      have hb12 := ad_lt 1 0 (cat (ps.take k))
      obtain ⟨pA, hpA⟩ : ∃ q, q = ps[k].A := ⟨_, rfl⟩
      obtain ⟨pn, hpn⟩ : ∃ q, q = ps[k].n := ⟨_, rfl⟩
      obtain ⟨pc, hpc⟩ : ∃ q, q = ps[k].c := ⟨_, rfl⟩
      rw [← hpA, ← hpn, ← hpc] at hc'
      rw [← hpA, ← hpn, ← hpc] at hr'
      rw [← hpn] at hrn
      rw [← hpA, ← hpn] at HB
      clear hc hpA hpn hpc hr hp1 hb2 hl
      go_wp2_with fail
      refine (add_any gp 71 _ _ [] pA pn pc _ _ hp hb12.1 hb12.2 hr' (fun hm ad he => by have := HB hm ad he; omega) hrn).mono ?_
      rintro e w3 ⟨⟨v, rfl⟩, hp3, hw3⟩
      go_wp2_with fail
      go_roundg (n - (k + 1))
      case measure => omega
      case rel =>
        refine ⟨k + 1, rfl, by omega, by go_num, ?_, hb.trans (hw3.below hgw hb.size)⟩
        rw [hcat.out, ← (ad_app _ _ _ _).1, ← (ad_app _ _ _ _).2]
        exact hp3
    · obtain rfl : k = n := by omega
      have HT := Lib.hid (List.take_of_length_le (i := k) (l := ps) (by omega))
      have hb12 := ad_lt 1 0 (cat (ps.take k))
      clear hl
      go_wp2_with fail
      refine (checksum_any gp 71 _ _ [] _ hp hb12.1 hb12.2).mono ?_
      rintro e w3 ⟨rfl, m, rfl⟩
      go_wp2
      go_ret
      exact ⟨by rw [HT.out]; rfl, hb.trans (Below.drewN_ _ _ |>.mono hb.size)⟩
end Go.Proofs.Ytochbcemobkegaa
