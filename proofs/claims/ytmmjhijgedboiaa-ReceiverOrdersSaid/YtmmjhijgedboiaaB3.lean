/- Bitmaps in memory: Base, Size, Has, Set, Advance, New, Fork. -/
import Derived.Test.YtmmjhijgedboiaaB2
set_option linter.unusedSimpArgs false
set_option linter.unusedVariables false
set_option maxRecDepth 100000
namespace Go.Proofs.Ytmmjhijgedboiaa
open Go.RowKit Go.Shelf
section
variable {w w' : World} {p : Nat} {B : Bm} {m : Nat → Nat}
theorem b_made (h : Bk5 w p B m) (ho : B.ok) :
    Calls Try.prog 65 #[.pointer (some ⟨p, 0, none⟩)] w fun e w' => e = .returned (.bool true) ∧ w = w' := by
  have c0 := h.cell 0 (v := .int .i64 B.size) rfl
  have hn : 0 < B.size := ho.s1
  go_enter Try.func65, Try.ntmps65
  go_wp2
  go_ret
  exact ⟨rfl, rfl⟩
theorem b_base (h : Bmp w p B) :
    Calls Try.prog 47 #[.pointer (some ⟨p, 0, none⟩)] w fun e w' => e = .returned (.int .i64 B.base) ∧ w = w' := by
  obtain ⟨ho, m, hm, h⟩ := h
  have c1 := h.cell 1 (v := .int .i64 B.base) rfl
  go_enter Try.func47, Try.ntmps47
  go_wp2_with (go_at_call 65; refine (b_made h ho).mono ?_; rintro e w' ⟨rfl, rfl⟩)
  go_ret
  exact ⟨rfl, rfl⟩
theorem b_size (h : Bmp w p B) :
    Calls Try.prog 57 #[.pointer (some ⟨p, 0, none⟩)] w fun e w' => e = .returned (.int .i64 B.size) ∧ w = w' := by
  obtain ⟨ho, m, hm, h⟩ := h
  have c1 := h.cell 0 (v := .int .i64 B.size) rfl
  go_enter Try.func57, Try.ntmps57
  go_wp2_with (go_at_call 65; refine (b_made h ho).mono ?_; rintro e w' ⟨rfl, rfl⟩)
  go_ret
  exact ⟨rfl, rfl⟩
set_option maxHeartbeats 1000000 in
theorem b_reaches (h : Bk5 w p B m) (ho : B.ok) (x : Int) :
    Calls Try.prog 54 #[.pointer (some ⟨p, 0, none⟩), .int .i64 x] w fun e w' => e = .returned (.bool (B.reach x)) ∧ Below w.heap.size w w' := by
  have hs1 := ho.s1
  have hs2 := ho.s2
  have hb1 := ho.b1
  have c0 := fun q => (h.below (Below.drewN_ w q)).cell 0 (v := .int .i64 B.size) rfl
  have c1 := fun q => (h.below (Below.drewN_ w q)).cell 1 (v := .int .i64 B.base) rfl
  have hM := Lib.hid (fun q : Nat => b_made (h.below (Below.drewN_ w q)) ho)
  rcases (by omega : x < 0 ∨ (0 ≤ x ∧ (B.base : Int) + B.size ≤ x) ∨ (0 ≤ x ∧ x < (B.base : Int) + B.size ∧ 1152921504606846976 < x) ∨ (0 ≤ x ∧ x < (B.base : Int) + B.size ∧ x ≤ 1152921504606846976)) with h0 | ⟨h0, h1⟩ | ⟨h0, h1, h2⟩ | ⟨h0, h1, h2⟩
  · have HB : Hid (B.reach x = false) := Lib.hid (by simp [Bm.reach]; omega)
    have hd1 := decide_eq_false (show ¬ 0 ≤ x by omega)
    go_enter Try.func54, Try.ntmps54
    go_wp2
    go_quiet (exact (hM.out _).mono fun _ _ h => ⟨h.1, _, h.2.symm⟩)
    go_wp2
    go_ret
    exact ⟨by rw [HB.out]; rfl, Below.drewN_ _ _⟩
  · have HB : Hid (B.reach x = false) := Lib.hid (by simp [Bm.reach]; omega)
    have hd1 := decide_eq_true (show 0 ≤ x by omega)
    have hd2 := decide_eq_false (show ¬ x < (B.base : Int) + B.size by omega)
    go_enter Try.func54, Try.ntmps54
    go_wp2
    go_quiet (exact (hM.out _).mono fun _ _ h => ⟨h.1, _, h.2.symm⟩)
    go_wp2
    go_ret
    exact ⟨by rw [HB.out]; rfl, Below.drewN_ _ _⟩
  · have HB : Hid (B.reach x = false) := Lib.hid (by simp [Bm.reach]; omega)
    have hd1 := decide_eq_true (show 0 ≤ x by omega)
    have hd2 := decide_eq_true (show x < (B.base : Int) + B.size by omega)
    have hd3 := decide_eq_false (show ¬ x ≤ 1152921504606846976 by omega)
    go_enter Try.func54, Try.ntmps54
    go_wp2
    go_quiet (exact (hM.out _).mono fun _ _ h => ⟨h.1, _, h.2.symm⟩)
    go_wp2
    go_ret
    exact ⟨by rw [HB.out]; rfl, Below.drewN_ _ _⟩
  · have HB : Hid (B.reach x = true) := Lib.hid (by simp [Bm.reach]; omega)
    have hd1 := decide_eq_true (show 0 ≤ x by omega)
    have hd2 := decide_eq_true (show x < (B.base : Int) + B.size by omega)
    have hd3 := decide_eq_true (show x ≤ 1152921504606846976 by omega)
    go_enter Try.func54, Try.ntmps54
    go_wp2
    go_quiet (exact (hM.out _).mono fun _ _ h => ⟨h.1, _, h.2.symm⟩)
    go_wp2
    go_ret
    exact ⟨by rw [HB.out]; rfl, Below.drewN_ _ _⟩
theorem Bm.has_out {B : Bm} (ho : B.ok) {x : Int} (h : B.reach x = false) : B.has x = false := by
  simp only [Bm.reach, decide_eq_false_iff_not] at h
  simp only [Bm.has, Bool.and_eq_false_iff, Bool.or_eq_false_iff, decide_eq_false_iff_not]
  have hb1 := ho.b1
  by_cases h0 : 0 ≤ x
  · exact .inr ⟨by have := ho.s1; omega, ho.s_high (by omega)⟩
  · exact .inl h0
set_option maxHeartbeats 1000000 in
theorem b_has0 (h : Bk5 w p B m) (hm : Marks B m) (ho : B.ok) (x : Int) :
    Calls Try.prog 35 #[.pointer (some ⟨p, 0, none⟩), .int .i64 x] w fun e w' => e = .returned (.bool (B.has x)) ∧ Below w.heap.size w w' := by
  have hb1 := ho.b1
  cases hr : B.reach x with
  | false =>
    have HB := Lib.hid (Bm.has_out ho hr)
    have HH := Lib.hid h
    clear h
    go_enter Try.func35, Try.ntmps35
    go_wp2_with fail
    refine (b_reaches HH.out ho x).mono ?_
    rintro e w1 ⟨rfl, hb1⟩
    rw [hr]
    have HL := Lib.hid hb1
    clear hb1
    go_wp2
    go_ret
    exact ⟨by rw [HB.out]; rfl, HL.out⟩
  | true =>
    have hx : 0 ≤ x ∧ x < B.base + B.size ∧ x ≤ 1152921504606846976 := by simpa [Bm.reach] using hr
    obtain ⟨n, rfl⟩ := Int.eq_ofNat_of_zero_le hx.1
    have hx2 := hx.2
    have HH := Lib.hid h
    clear h hx
    by_cases hlt : n < B.base
    · have hlt' : (n : Int) < B.base := by omega
      have HB : Hid (B.has n = true) := Lib.hid (by simp [Bm.has, hlt])
      go_enter Try.func35, Try.ntmps35
      go_wp2_with fail
      refine (b_reaches HH.out ho n).mono ?_
      rintro e w1 ⟨rfl, hb1⟩
      rw [hr]
      have c1 := (HH.out.below hb1).cell 1 (v := .int .i64 B.base) rfl
      have HL := Lib.hid hb1
      clear hb1
      go_wp2
      go_ret
      exact ⟨by rw [HB.out]; rfl, HL.out⟩
    · have hlt' : ¬ (n : Int) < B.base := by omega
      have HB : Hid (B.has n = (m (n % 256 / 64)).testBit (n % 64)) := Lib.hid (by
        rw [hm.bit n (by omega) (by have := ho.s2; omega)]
        simp [Bm.has, hlt])
      go_enter Try.func35, Try.ntmps35
      go_wp2_with fail
      refine (b_reaches HH.out ho n).mono ?_
      rintro e w1 ⟨rfl, hb1⟩
      rw [hr]
      have hbk := HH.out.below hb1
      have c1 := hbk.cell 1 (v := .int .i64 B.base) rfl
      have HK := Lib.hid hbk
      have HL := Lib.hid hb1
      clear hb1 hbk
      go_wp2_with fail
      refine (marks_has HK.out hm.lt n (by omega)).mono ?_
      rintro e w2 ⟨rfl, hb2⟩
      have HL2 := Lib.hid (HL.out.trans (hb2.mono HL.out.size))
      clear hb2
      go_wp2
      go_ret
      exact ⟨by rw [HB.out]; rfl, HL2.out⟩
theorem b_has (h : Bmp w p B) (x : Int) :
    Calls Try.prog 35 #[.pointer (some ⟨p, 0, none⟩), .int .i64 x] w fun e w' => e = .returned (.bool (B.has x)) ∧ Below w.heap.size w w' := by
  obtain ⟨ho, m, hm, h⟩ := h
  exact b_has0 h hm ho x
/-! ### Set -/
set_option maxHeartbeats 1000000 in
theorem b_set (h : Bmp w p B) (x : Int) :
    Calls Try.prog 58 #[.pointer (some ⟨p, 0, none⟩), .int .i64 x] w fun e w' => e = .returned (.tuple #[.bool (B.fresh x), .int .i64 (B.err x)]) ∧ Bd p (B.set x) w w' := by
  have HM := Lib.hid h
  obtain ⟨ho, m, hm, h⟩ := h
  have HH := Lib.hid h
  clear h
  cases hr : B.reach x with
  | false =>
    have HB : Hid (B.fresh x = false ∧ B.err x = 5 ∧ B.set x = B) := Lib.hid (by simp [Bm.fresh, Bm.err, Bm.set, hr])
    go_enter Try.func58, Try.ntmps58
    go_wp2_with fail
    refine (b_made HH.out ho).mono ?_
    rintro e w1 ⟨rfl, rfl⟩
    go_wp2_with fail
    refine (b_reaches HH.out ho x).mono ?_
    rintro e w1 ⟨rfl, hb1⟩
    rw [hr]
    have HL := Lib.hid hb1
    clear hb1
    go_wp2
    go_ret2
    exact ⟨by rw [HB.out.1, HB.out.2.1]; rfl, by rw [HB.out.2.2]; exact HM.out.below HL.out, St.ext HL.out⟩
  | true =>
    cases hh : B.has x with
    | true =>
      have HB : Hid (B.fresh x = false ∧ B.err x = 0 ∧ B.set x = B) := Lib.hid (by simp [Bm.fresh, Bm.err, Bm.set, hr, hh])
      go_enter Try.func58, Try.ntmps58
      go_wp2_with fail
      refine (b_made HH.out ho).mono ?_
      rintro e w1 ⟨rfl, rfl⟩
      go_wp2_with fail
      refine (b_reaches HH.out ho x).mono ?_
      rintro e w1 ⟨rfl, hb1⟩
      rw [hr]
      have HL := Lib.hid hb1
      clear hb1
      go_wp2_with fail
      refine (b_has (HM.out.below HL.out) x).mono ?_
      rintro e w2 ⟨rfl, hb2⟩
      rw [hh]
      have HL2 := Lib.hid (HL.out.trans (hb2.mono HL.out.size))
      clear hb2
      go_wp2
      go_ret2
      exact ⟨by rw [HB.out.1, HB.out.2.1]; rfl, by rw [HB.out.2.2]; exact HM.out.below HL2.out, St.ext HL2.out⟩
    | false =>
      have hf : B.fresh x = true := by simp [Bm.fresh, hr, hh]
      have HB : Hid (B.fresh x = true ∧ B.err x = 0 ∧ B.set x = B.put x.toNat) := Lib.hid (by simp [Bm.fresh, Bm.err, Bm.set, hr, hh])
      obtain ⟨f1, f2, f3, f4, f5⟩ := Bm.fresh_in hf
      obtain ⟨n, rfl⟩ := Int.eq_ofNat_of_zero_le f1
      rw [Int.toNat_natCast] at f2 f3 f4 f5
      have HP := Lib.hid (hm.put ho f2 f3)
      have HO := Lib.hid (ho.put f2 f3 f4)
      clear hf f1
      go_enter Try.func58, Try.ntmps58
      go_wp2_with fail
      refine (b_made HH.out ho).mono ?_
      rintro e w1 ⟨rfl, rfl⟩
      go_wp2_with fail
      refine (b_reaches HH.out ho n).mono ?_
      rintro e w1 ⟨rfl, hb1⟩
      rw [hr]
      have HL := Lib.hid hb1
      clear hb1
      go_wp2_with fail
      refine (b_has (HM.out.below HL.out) n).mono ?_
      rintro e w2 ⟨rfl, hb2⟩
      rw [hh]
      have HL2 := Lib.hid (HL.out.trans (hb2.mono HL.out.size))
      clear hb2
      go_wp2_with fail
      refine (marks_put (HH.out.below HL2.out) hm.lt n (by omega)).mono ?_
      rintro e w3 ⟨⟨v, rfl⟩, hb3, hs3⟩
      have HQ := Lib.hid (And.intro hb3 ((St.ext HL2.out (F := (· = p))).trans hs3 (Gr.refl _ _)))
      clear hb3 hs3
      go_wp2
      go_ret2
      refine ⟨by rw [HB.out.1, HB.out.2.1]; rfl, ?_, HQ.out.2⟩
      rw [HB.out.2.2, Int.toNat_natCast]
      exact ⟨HO.out, _, HP.out, HQ.out.1⟩
/-! ### New, Fork -/
theorem b_new (size base : Nat) (w : World) (h1 : 1 ≤ size) (h2 : size ≤ 256) (h3 : base ≤ 1152921504606846976) :
    Calls Try.prog 53 #[.int .i64 size, .int .i64 base] w fun e w' => e = .returned (.tuple #[.pointer (some ⟨w.heap.size, 0, none⟩), .int .i64 0]) ∧ Bmp w' w.heap.size (Bm.new size base) ∧ Below w.heap.size w w' := by
  have hs1 : ¬ (size : Int) < 1 := by omega
  have hs2 : ¬ (256 : Int) < size := by omega
  have hb0 : ¬ (base : Int) < 0 := by omega
  have hb1 : ¬ (1152921504606846976 : Int) < base := by omega
  have HQ : Hid (Bmp (w.alloc (.cells #[.int .i64 size, .int .i64 base, .int .u64 0, .int .u64 0, .int .u64 0, .int .u64 0] 115)) w.heap.size (Bm.new size base)) :=
    Lib.hid ⟨Bm.new_ok h1 h2 h3, _, Marks.new size base, Bk.new w 115 ((Bm.new size base).mem fun _ => 0)⟩
  go_enter Try.func53, Try.ntmps53
  go_wp2
  go_ret2
  exact ⟨rfl, HQ.out, (Below.refl _ _).alloc (Nat.le_refl _) _⟩
theorem b_newBad (size base : Int) (w : World) (h : size < 1 ∨ 256 < size ∨ base < 0 ∨ 1152921504606846976 < base) :
    Calls Try.prog 53 #[.int .i64 size, .int .i64 base] w fun e w' => e = .returned (.tuple #[.pointer none, .int .i64 100]) ∧ w = w' := by
  rcases (by omega : size < 1 ∨ (1 ≤ size ∧ 256 < size) ∨ (1 ≤ size ∧ size ≤ 256 ∧ base < 0) ∨ (1 ≤ size ∧ size ≤ 256 ∧ 0 ≤ base ∧ 1152921504606846976 < base)) with h0 | ⟨h0, h1⟩ | ⟨h0, h1, h2⟩ | ⟨h0, h1, h2, h3⟩
  · go_enter Try.func53, Try.ntmps53
    go_wp2
    go_ret2
    exact ⟨rfl, rfl⟩
  · go_enter Try.func53, Try.ntmps53
    go_wp2
    go_ret2
    exact ⟨rfl, rfl⟩
  · go_enter Try.func53, Try.ntmps53
    go_wp2
    go_ret2
    exact ⟨rfl, rfl⟩
  · go_enter Try.func53, Try.ntmps53
    go_wp2
    go_ret2
    exact ⟨rfl, rfl⟩
end
end Go.Proofs.Ytmmjhijgedboiaa
