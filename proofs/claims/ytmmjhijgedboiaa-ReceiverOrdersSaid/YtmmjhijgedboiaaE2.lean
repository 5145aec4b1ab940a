/- A receiver in memory; small questions; how it stands. -/
import Derived.Test.YtmmjhijgedboiaaE1
set_option linter.unusedSimpArgs false
set_option linter.unusedVariables false
set_option maxRecDepth 100000
namespace Go.Proofs.Ytmmjhijgedboiaa
open Go.RowKit Go.Shelf
theorem rowE : Row Try.prog 89 18 := ⟨⟨_, rfl, by decide⟩, by kernel_rfl⟩
theorem rowLn : Row Try.prog 58 14 := ⟨⟨_, rfl, by decide⟩, by kernel_rfl⟩
theorem rowV : Row Try.prog 79 1 := ⟨⟨_, rfl, by decide⟩, by kernel_rfl⟩
theorem rowCf : Row Try.prog 23 14 := ⟨⟨_, rfl, by decide⟩, by kernel_rfl⟩

/-- The end: its box e, its bitmap's pb, its map's mb, its Join's g; the Join's blocks FJ, the pieces' FP. -/
structure EnA (F : Nat → Prop) (w : World) (e : Nat) (m : Rm) (pb : Nat) (mb : Option Nat) (g : Nat) (FJ FP : Nat → Prop) (jm : Jm) : Prop where
  bk : Bk w 89 e [.pointer (some ⟨pb, 0, none⟩), .int .i64 m.sr, .int .i64 m.ds, .int .i64 m.cn, .int .i64 m.cl, .int .i64 0, .int .i64 0, .int .i64 0, .int .i64 m.pl, .int .i64 0, .int .i64 0, .int .i64 m.ar, .int .i64 m.pd, .bool false, .bool m.dn, .int .i64 m.pa, .map mb, .pointer (some ⟨g, 0, none⟩)]
  bm : Bmp w pb m.bm
  mp : ∀ b, mb = some b → MpK FP w b m.ks
  jn : JnC FJ w g jm
  jd : m.dn = false → jm = m.jm ∧ ∃ b, mb = some b
  fe : F e
  fb : F pb
  fm : ∀ b, mb = some b → F b
  fj : ∀ k, FJ k → F k
  fp : ∀ k, FP k → F k
  lt : ∀ k, F k → k < w.heap.size
  ej : ¬ FJ e ∧ ¬ FJ pb ∧ ∀ b, mb = some b → ¬ FJ b
  ep : ¬ FP e ∧ ¬ FP pb ∧ (∀ b, mb = some b → ¬ FP b) ∧ Sep FJ FP
def EnC (F : Nat → Prop) (w : World) (e : Nat) (m : Rm) : Prop := ∃ pb mb g FJ FP jm, EnA F w e m pb mb g FJ FP jm
section
variable {F : Nat → Prop} {w w' : World} {e pb g r : Nat} {mb : Option Nat} {FJ FP : Nat → Prop} {jm : Jm} {m : Rm}
theorem Ent.st {FP : Nat → Prop} {L : List Pe} {ks : List Pk} (h : Ent FP w L ks) {G : Nat → Prop} (hs : St G w w') (hG : Sep FP G) : Ent FP w' L ks :=
  ⟨h.1, fun x hx => ⟨(h.2.1 x hx).1, (h.2.1 x hx).2.1.st hs fun k hk => hG k ((h.2.1 x hx).2.2 k hk), (h.2.1 x hx).2.2⟩, h.2.2⟩
theorem Ent.below {FP : Nat → Prop} {L : List Pe} {ks : List Pk} (h : Ent FP w L ks) (hb : Below w.heap.size w w') : Ent FP w' L ks :=
  ⟨h.1, fun x hx => ⟨(h.2.1 x hx).1, (h.2.1 x hx).2.1.below hb, (h.2.1 x hx).2.2⟩, h.2.2⟩
theorem MpK.st {b : Nat} {ks : List Pk} (h : MpK FP w b ks) {G : Nat → Prop} (hs : St G w w') (hb : ¬ G b) (hG : Sep FP G) : MpK FP w' b ks := by
  obtain ⟨L, h1, h2⟩ := h
  exact ⟨L, h1.st hs hb, h2.st hs hG⟩
theorem MpK.below {b : Nat} {ks : List Pk} (h : MpK FP w b ks) (hb : Below w.heap.size w w') : MpK FP w' b ks := by
  obtain ⟨L, h1, h2⟩ := h
  exact ⟨L, h1.below hb, h2.below hb⟩
theorem MpK.lt {b : Nat} {ks : List Pk} (h : MpK FP w b ks) : b < w.heap.size := by
  obtain ⟨L, h1, h2⟩ := h
  exact h1.lt
theorem EnA.st (h : EnA F w e m pb mb g FJ FP jm) {G : Nat → Prop} (hs : St G w w') (hG : Sep F G) : EnA F w' e m pb mb g FJ FP jm :=
  ⟨h.bk.st hs (hG _ h.fe), h.bm.st hs (hG _ h.fb), fun b hb => (h.mp b hb).st hs (hG _ (h.fm b hb)) (hG.mono h.fp), h.jn.st hs (hG.mono h.fj), h.jd, h.fe, h.fb, h.fm, h.fj, h.fp, fun k hk => Nat.lt_of_lt_of_le (h.lt k hk) hs.size, h.ej, h.ep⟩
theorem EnA.below (h : EnA F w e m pb mb g FJ FP jm) (hb : Below w.heap.size w w') : EnA F w' e m pb mb g FJ FP jm := h.st (G := fun _ => False) (St.ext hb) fun _ _ => id
theorem EnC.below (h : EnC F w e m) (hb : Below w.heap.size w w') : EnC F w' e m := by
  obtain ⟨pb, mb, g, FJ, FP, jm, h⟩ := h
  exact ⟨pb, mb, g, FJ, FP, jm, h.below hb⟩
theorem EnC.st (h : EnC F w e m) {G : Nat → Prop} (hs : St G w w') (hG : Sep F G) : EnC F w' e m := by
  obtain ⟨pb, mb, g, FJ, FP, jm, h⟩ := h
  exact ⟨pb, mb, g, FJ, FP, jm, h.st hs hG⟩
theorem EnC.lt (h : EnC F w e m) : ∀ k, F k → k < w.heap.size := by
  obtain ⟨pb, mb, g, FJ, FP, jm, h⟩ := h
  exact h.lt
/-- The receiver: its box r holds where its end is. -/
structure RcA (F : Nat → Prop) (w : World) (r e : Nat) (m : Rm) : Prop where
  bk : Bk w 79 r [.pointer (some ⟨e, 0, none⟩)]
  en : EnC F w e m
  fr : ¬ F r
theorem RcA.below (h : RcA F w r e m) (hb : Below w.heap.size w w') : RcA F w' r e m := ⟨h.bk.below hb, h.en.below hb, h.fr⟩
/-- All blocks of the receiver. -/
def FR (F : Nat → Prop) (r : Nat) : Nat → Prop := fun k => F k ∨ k = r
theorem RcA.lt (h : RcA F w r e m) : ∀ k, FR F r k → k < w.heap.size := by
  rintro k (hk | rfl)
  · exact h.en.lt k hk
  · exact h.bk.lt
theorem RcA.st (h : RcA F w r e m) {G : Nat → Prop} (hs : St G w w') (hG : Sep (FR F r) G) : RcA F w' r e m := ⟨h.bk.st hs (hG r (.inr rfl)), h.en.st hs (hG.mono fun k => .inl), h.fr⟩
/-- A call turned the end. -/
def DidE (F : Nat → Prop) (w : World) (e : Nat) (m : Rm) (w' : World) : Prop := ∃ F', EnC F' w' e m ∧ St F w w' ∧ Gr F F' w.heap.size
def DidV (F : Nat → Prop) (w : World) (r e : Nat) (m : Rm) (w' : World) : Prop := ∃ F', RcA F' w' r e m ∧ St F w w' ∧ Gr F F' w.heap.size

/-! ### Small questions -/
theorem wraps_i64 (n : Int) (h0 : -9223372036854775808 ≤ n) (h1 : n < 9223372036854775808) : IntKind.i64.wrap n = n := by rw [IntKind.wrap_i64]; omega
theorem and_has {a j : Nat} (ha : a < 2 ^ 63) (hj : j < 62) : (bits .and .i64 (a : Int) ((2 ^ j : Nat) : Int) != 0) = hasB a ((2 ^ j : Nat) : Int) := by
  have hw : ∀ n : Int, 0 ≤ n → n < 2 ^ 63 → IntKind.i64.wrap n = n := fun n h0 h1 => by rw [IntKind.wrap_i64]; omega
  have h2 : 2 ^ j < 2 ^ 63 := Nat.pow_lt_pow_right (by decide) (by omega)
  rw [(bits_nat .i64 63 (by decide) hw a (2 ^ j) ha h2).1]
  have h3 := and_bit a j
  have h4 : a.testBit j = decide (a / 2 ^ j % 2 = 1) := Nat.testBit_eq_decide_div_mod_eq
  rw [h4] at h3
  unfold hasB
  by_cases hc : a / 2 ^ j % 2 = 1
  · have hd : ((a : Int) / ((2 ^ j : Nat) : Int) % 2 = 1) := by exact_mod_cast hc
    rw [decide_eq_true hc] at h3
    rw [decide_eq_true (show 0 ≤ (a : Int) ∧ _ from ⟨by omega, hd⟩)]
    simp only [Bool.not_true, decide_eq_false_iff_not] at h3
    simp only [bne_iff_ne, ne_eq]
    exact fun h0 => h3 (by exact_mod_cast h0)
  · have hd : ¬ ((a : Int) / ((2 ^ j : Nat) : Int) % 2 = 1) := fun h => hc (by exact_mod_cast h)
    rw [decide_eq_false hc] at h3
    rw [decide_eq_false (show ¬ (0 ≤ (a : Int) ∧ _) from fun h => hd h.2)]
    simp only [Bool.not_false, decide_eq_true_eq] at h3
    rw [h3]; rfl
theorem v_has (f : Int) (j : Nat) (w : World) (hj : j < 62) (hf : f ≤ 9223372036854775807) (gg : Int) (hg : gg = ((2 ^ j : Nat) : Int)) :
    Calls Try.prog 38 #[.int .i64 f, .int .i64 gg] w fun e w' => e = .returned (.bool (hasB f gg)) ∧ w = w' := by
  by_cases h1 : 0 ≤ f
  · obtain ⟨a, rfl⟩ := Int.eq_ofNat_of_zero_le h1
    have HA := Lib.hid (and_has (a := a) (by omega) hj)
    rw [← hg] at HA
    clear hg
    go_enter Try.func38, Try.ntmps38
    go_wp2
    go_ret
    exact ⟨by rw [HA.out]; rfl, rfl⟩
  · have HA : Hid (hasB f gg = false) := Lib.hid (by unfold hasB; exact decide_eq_false fun h => h1 h.1)
    clear hg
    go_enter Try.func38, Try.ntmps38
    go_wp2
    go_ret
    exact ⟨by rw [HA.out]; rfl, rfl⟩
theorem v_has2 (f : Int) (w : World) (hf : f ≤ 9223372036854775807) : Calls Try.prog 38 #[.int .i64 f, .int .i64 2] w fun e w' => e = .returned (.bool (hasB f 2)) ∧ w = w' := v_has f 1 w (by decide) hf 2 rfl
theorem v_has4 (f : Int) (w : World) (hf : f ≤ 9223372036854775807) : Calls Try.prog 38 #[.int .i64 f, .int .i64 4] w fun e w' => e = .returned (.bool (hasB f 4)) ∧ w = w' := v_has f 2 w (by decide) hf 4 rfl
theorem v_has8 (f : Int) (w : World) (hf : f ≤ 9223372036854775807) : Calls Try.prog 38 #[.int .i64 f, .int .i64 8] w fun e w' => e = .returned (.bool (hasB f 8)) ∧ w = w' := v_has f 3 w (by decide) hf 8 rfl
theorem v_has16 (f : Int) (w : World) (hf : f ≤ 9223372036854775807) : Calls Try.prog 38 #[.int .i64 f, .int .i64 16] w fun e w' => e = .returned (.bool (hasB f 16)) ∧ w = w' := v_has f 4 w (by decide) hf 16 rfl
theorem v_from (n a b : Int) (w : World) : Calls Try.prog 29 #[.int .i64 n, .int .i64 a, .int .i64 b] w fun e w' => e = .returned (.bool (witB n a b)) ∧ w = w' := by
  unfold witB
  by_cases h1 : a ≤ n
  · by_cases h2 : n ≤ b <;>
    · go_enter Try.func29, Try.ntmps29
      go_wp2
      go_ret
      exact ⟨by simp [h1, h2], rfl⟩
  · go_enter Try.func29, Try.ntmps29
    go_wp2
    go_ret
    exact ⟨by simp; omega, rfl⟩
theorem v_host (n : Int) (w : World) : Calls Try.prog 30 #[.int .i64 n] w fun e w' => e = .returned (.bool (witB n 0 7)) ∧ w = w' := by
  go_enter Try.func30, Try.ntmps30
  go_wp2_with (go_at_call 29; refine (v_from _ _ _ _).mono ?_; rintro e w' ⟨rfl, rfl⟩)
  go_ret
  exact ⟨rfl, rfl⟩
/-- Is a packet one that a receiver answers at all? -/
def Pk.tkn (p : Pk) : Bool := decide (p.h.kd = 1) && !hasB p.h.fl 16 && witB p.h.sq 0 1152921504606846976
set_option maxHeartbeats 1000000 in
theorem v_taken (q : Pv) (w : World) (hf : q.h.fl ≤ 9223372036854775807) : Calls Try.prog 34 #[.agg #[.int .i64 q.h.kd, .int .i64 q.h.fl, .int .i64 q.h.pa, .int .i64 q.h.sr, .int .i64 q.h.ds, .int .i64 q.h.cn, .int .i64 q.h.sq, .int .i64 q.h.pu, .slice q.A q.n q.c]] w fun e w' => e = .returned (.bool q.pk.tkn) ∧ Below w.heap.size w w' := by
  have hw : q.pk.tkn = (decide (q.h.kd = 1) && !hasB q.h.fl 16 && witB q.h.sq 0 1152921504606846976) := rfl
  have HH := Lib.hid (fun w => v_has16 q.h.fl w hf)
  by_cases h1 : q.h.kd = 1
  · cases h2 : hasB q.h.fl 16 with
    | true =>
      have HW : Hid (q.pk.tkn = false) := Lib.hid (by rw [hw, h2]; simp)
      rw [h2] at HH
      clear hw h2
      go_enter Try.func34, Try.ntmps34
      go_wp2_with (go_at_call 38; refine (HH.out _).mono ?_; rintro e w' ⟨rfl, rfl⟩)
      go_ret
      exact ⟨by rw [HW.out]; rfl, (Below.refl _ _).alloc (Nat.le_refl _) _⟩
    | false =>
      have HW : Hid (q.pk.tkn = witB q.h.sq 0 1152921504606846976) := Lib.hid (by rw [hw, h2]; simp [h1])
      rw [h2] at HH
      clear hw h2
      go_enter Try.func34, Try.ntmps34
      go_wp2_with (first
        | (go_at_call 38; refine (HH.out _).mono ?_; rintro e w' ⟨rfl, rfl⟩)
        | (go_at_call 29; refine (v_from _ _ _ _).mono ?_; rintro e w' ⟨rfl, rfl⟩))
      go_ret
      exact ⟨by rw [HW.out]; rfl, (Below.refl _ _).alloc (Nat.le_refl _) _⟩
  · have HW : Hid (q.pk.tkn = false) := Lib.hid (by rw [hw]; simp [h1])
    clear hw
    go_enter Try.func34, Try.ntmps34
    go_wp2
    go_ret
    exact ⟨by rw [HW.out]; rfl, (Below.refl _ _).alloc (Nat.le_refl _) _⟩
theorem v_made (h : RcA F w r e m) : Calls Try.prog 33 #[.pointer (some ⟨r, 0, none⟩)] w fun e w' => e = .returned (.bool true) ∧ w = w' := by
  have c0 := h.bk.cell 0 rfl
  go_enter Try.func33, Try.ntmps33
  go_wp2
  go_ret
  exact ⟨rfl, rfl⟩
set_option maxHeartbeats 1000000 in
theorem e_inWin (h : EnC F w e m) (x : Nat) (hx : m.base ≤ x) (hb : x ≤ 1152921504606846977) : Calls Try.prog 37 #[.pointer (some ⟨e, 0, none⟩), .int .i64 x] w fun e w' => e = .returned (.bool (decide (x < m.base + m.size))) ∧ Below w.heap.size w w' := by
  obtain ⟨pb, mb, g, FJ, FP, jm, h⟩ := h
  have hM := Lib.hid (fun q : Nat => b_base (h.bm.below (Below.drewN_ w q)))
  have hS := Lib.hid (fun q : Nat => b_size (h.bm.below (Below.drewN_ w q)))
  have c0 := fun q => (h.bk.below (Below.drewN_ w q)).cell 0 rfl
  have e1 : m.bm.base = m.base := rfl
  have e2 : m.bm.size = m.size := rfl
  rw [e1] at hM
  rw [e2] at hS
  have HD : Hid (decide ((x : Int) - m.base < m.size) = decide (x < m.base + m.size)) := Lib.hid (by
    by_cases hc : x < m.base + m.size
    · rw [decide_eq_true hc, decide_eq_true (by omega)]
    · rw [decide_eq_false hc, decide_eq_false (by omega)])
  clear h e1 e2
  go_enter Try.func37, Try.ntmps37
  go_wp2
  go_quiet (first | exact (hM.out _).mono fun _ _ h => ⟨h.1, _, h.2.symm⟩ | exact (hS.out _).mono fun _ _ h => ⟨h.1, _, h.2.symm⟩)
  go_wp2
  go_ret
  exact ⟨by rw [← HD.out]; rfl, Below.drewN_ _ _⟩
end
end Go.Proofs.Ytmmjhijgedboiaa
