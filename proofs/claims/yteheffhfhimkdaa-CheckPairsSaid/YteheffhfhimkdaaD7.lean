/- The law of one byte turned. -/
import Derived.Test.YteheffhfhimkdaaD2
import Derived.Deep.DeepCutAuto
set_option linter.unusedSimpArgs false
set_option linter.unusedVariables false
namespace Go.Proofs.Yteheffhfhimkdaa
open Go.RowKit Go.Shelf

section
variable {k : IntKind} {e : TypeId} {base : Nat} {w : World} {v : Value} {xs : List Int} {g cap n : Nat}
theorem Ow.form (h : Ow k e base w v xs) (hn : 0 < xs.length) : ∃ g cap, v = .slice (some ⟨g, 0, none⟩) xs.length cap ∧ base ≤ g ∧ g < w.heap.size :=
  World.ownsRow.form (h : w.ownsRow base e 1 v xs.length (xs.map (.int k))) hn
theorem Ow.cellAt (h : Ow k e base w (.slice (some ⟨g, 0, none⟩) n cap) xs) (hn : xs.length = n) {j : Nat} (hj : j < xs.length) : w.cell? ⟨g, j, none⟩ = some (.int k xs[j]) := by
  subst hn
  rw [World.ownsRow.cellAt h j (by omega)]
  simp [hj]
theorem Ow.free (h : Ow k e base w (.slice (some ⟨g, 0, none⟩) n cap) xs) (hn : xs.length = n) (j : Nat) : w.frozen? ⟨g, j, none⟩ = false := by
  subst hn
  exact World.ownsRow.frozenAt h j
theorem Ow.stored (h : Ow k e base w (.slice (some ⟨g, 0, none⟩) n cap) xs) (hn : xs.length = n) (j : Nat) (y : Int) : Ow k e base (w.setCell ⟨g, j, none⟩ (.int k y)) (.slice (some ⟨g, 0, none⟩) n cap) (xs.set j y) := by
  subst hn
  have := (World.ownsRow.stored h j (.int k y)).1
  unfold Ow
  rw [List.length_set, List.map_set]
  exact this
end

theorem rawA_sum (a b : Int) (l : List Int) : rawA a b l = a + l.sum := by
  unfold rawA
  induction l generalizing a b with
  | nil => simp [raw]
  | cons x l ih => simp only [raw, List.sum_cons]; rw [ih]; omega
theorem sum_set (l : List Int) (k : Nat) (y : Int) (h : k < l.length) : (l.set k y).sum = l.sum - l[k] + y := by
  induction l generalizing k with
  | nil => simp at h
  | cons x l ih =>
    cases k with
    | zero => simp; omega
    | succ k => simp at h; simp [ih k h]; omega
theorem onV_turned (l : List Int) (k : Nat) (y : Int) (h : k < l.length) (h0 : 0 ≤ l[k]) (h1 : l[k] < 256) (y0 : 0 ≤ y) (y1 : y < 256) : (onV 1 (l.set k y) = onV 1 l) ↔ y = l[k] := by
  constructor
  · intro he
    have b1 := ad_lt 1 0 (l.set k y)
    have b2 := ad_lt 1 0 l
    unfold onV at he
    rw [show (1 : Int) % 65536 % 65521 = 1 from rfl, show (1 : Int) / 65536 % 65521 = 0 from rfl] at he
    have ha : adA 1 0 (l.set k y) = adA 1 0 l := by unfold sm at he; omega
    unfold adA at ha
    rw [rawA_sum, rawA_sum, sum_set l k y h] at ha
    omega
  · rintro rfl
    rw [List.set_getElem_self]
theorem set_ok {l : List Int} (h : okB l = true) (k : Nat) {y : Int} (y0 : 0 ≤ y) (y1 : y < 256) : okB (l.set k y) = true := by
  simp only [okB, List.all_eq_true, decide_eq_true_eq] at h ⊢
  intro x hx
  rcases List.mem_or_eq_of_mem_set hx with hx | rfl
  · exact h x hx
  · exact ⟨y0, y1⟩

theorem xor_u8 (a b : Int) (ha0 : 0 ≤ a) (ha : a < 256) (hb0 : 0 ≤ b) (hb : b < 256) : 0 ≤ bits .xor .u8 a b ∧ bits .xor .u8 a b < 256 ∧ (bits .xor .u8 a b = a ↔ b = 0) := by
  obtain ⟨m, rfl⟩ := Int.eq_ofNat_of_zero_le ha0
  obtain ⟨n, rfl⟩ := Int.eq_ofNat_of_zero_le hb0
  have hx : m ^^^ n < 2 ^ 8 := Nat.xor_lt_two_pow (by omega) (by omega)
  have h1 : (BitVec.ofInt 8 (m : Int)).toNat = m := by rw [BitVec.ofInt_natCast, BitVec.toNat_ofNat]; exact Nat.mod_eq_of_lt (by omega)
  have h2 : (BitVec.ofInt 8 (n : Int)).toNat = n := by rw [BitVec.ofInt_natCast, BitVec.toNat_ofNat]; exact Nat.mod_eq_of_lt (by omega)
  have he : bits .xor .u8 (m : Int) (n : Int) = ((m ^^^ n : Nat) : Int) := by
    show IntKind.u8.wrap ((BitVec.ofInt 8 (m : Int) ^^^ BitVec.ofInt 8 (n : Int)).toNat : Int) = _
    rw [BitVec.toNat_xor, h1, h2, IntKind.wrap_u8]
    omega
  rw [he]
  refine ⟨by omega, by omega, ?_⟩
  constructor
  · intro h
    have h' : m ^^^ n = m := by exact_mod_cast h
    have h2 : m ^^^ (m ^^^ n) = m ^^^ m := by rw [h']
    rw [← Nat.xor_assoc, Nat.xor_self, Nat.zero_xor] at h2
    exact_mod_cast h2
  · intro h
    have : n = 0 := by exact_mod_cast h
    subst this
    simp

set_option maxRecDepth 100000 in
set_option maxHeartbeats 2000000 in
theorem lawTurned (A0 : Option Addr) (n0 c0 : Nat) (xs0 : List Int) (t y : Int) (w : World) (h0 : Rd .u8 w A0 n0 c0 xs0) (ht0 : 0 ≤ t) (ht1 : t < 65536) (hy0 : 0 ≤ y) (hy1 : y < 256) :
    Calls Try.prog 6 #[.slice A0 n0 c0, .int .u16 t, .int .u8 y] w fun e w' => e = .returned (.bool true) ∧ Below w.heap.size w w' := by
  have H1 := Lib.hid (lawcut_any A0 n0 c0 w h0.2.1 h0.2.2.1)
  obtain ⟨n, hn⟩ : ∃ n, n = min n0 1500 := ⟨_, rfl⟩
  obtain ⟨xs, hx⟩ : ∃ xs, xs = xs0.take n := ⟨_, rfl⟩
  have h : Rd .u8 w A0 n c0 xs := by rw [hx]; exact h0.pre (by omega)
  have hn5 : n ≤ 1500 := by omega
  rw [← hn] at H1
  have HL := Lib.hid h.1
  have hok := okB_of h.2.2.2.2.1
  clear hn hx h0
  rcases Nat.eq_zero_or_pos n with rfl | hpos
  · go_enter Try.func6, Try.ntmps6
    go_wp2_with fail
    refine H1.out.mono ?_
    rintro e w' ⟨rfl, rfl⟩
    clear H1
    go_wp2_with fail
    refine (awake_any _).mono ?_
    rintro e w3 ⟨rfl, hb4⟩
    go_wp2
    go_ret
    exact ⟨rfl, hb4⟩
  · have HB := Lib.hid ((Below.refl w.heap.size w).alloc (Nat.le_refl _) (.cells #[] 5))
    have HL0 := Lib.hid (show (([] : List Int).length + n) * 1 ≤ 140737488355328 by simp; omega)
    obtain ⟨k, hk⟩ : ∃ k : Nat, t % (n : Int) = k := ⟨(t % (n : Int)).toNat, by have := Int.emod_nonneg t (show (n : Int) ≠ 0 by omega); omega⟩
    have hkn : k < n := by have := Int.emod_lt_of_pos t (show (0 : Int) < n by omega); omega
    have hlk : k < xs.length := by rw [HL.out]; exact hkn
    obtain ⟨x0, hx0⟩ : ∃ x, x = xs[k] := ⟨_, rfl⟩
    have hxb : 0 ≤ xs[k] ∧ xs[k] < 256 := by
      simp only [okB, List.all_eq_true, decide_eq_true_eq] at hok
      exact hok _ (List.getElem_mem _)
    have hxor := xor_u8 x0 y (by omega) (by omega) hy0 hy1
    obtain ⟨z, hz⟩ : ∃ z, bits .xor .u8 x0 y = z := ⟨_, rfl⟩
    rw [hz] at hxor
    have HON := Lib.hid (onV_turned xs k z hlk hxb.1 hxb.2 hxor.1 hxor.2.1)
    have HOK := Lib.hid (set_ok hok k hxor.1 hxor.2.1)
    have HXO := Lib.hid hxor
    have HX := Lib.hid hx0
    have htm : t.tmod (n : Int) = k := by rw [Int.tmod_eq_emod_of_nonneg ht0]; exact hk
    clear hk hx0 hxb hxor hok
    go_enter Try.func6, Try.ntmps6
    go_wp2_with fail
    refine H1.out.mono ?_
    rintro e w' ⟨rfl, rfl⟩
    clear H1
    go_upto_region 6 with (at_builtin
                           refine wpList_append_ints bytesT rfl (.tmp 15) (.tmp 16) rfl rfl (w0 := w) (own_empty w) rfl (h.alloc _) HL0.out (by omega) HB.out ?_
                           intro v1 w1 hown1 hb1
                           rw [List.nil_append] at hown1
                           obtain ⟨g, cap, rfl, hwg, hgl⟩ := hown1.form (by omega))
    have hc := hown1.cellAt rfl hlk
    rw [← HX.out] at hc
    have hf := hown1.free rfl k
    have hown2 := hown1.stored rfl k z
    have hb2 : Below w.heap.size w (w1.setCell ⟨g, k, none⟩ (.int .u8 z)) := hb1.setCell (p := ⟨g, k, none⟩) hwg _
    obtain ⟨A2, c2, he2, hr2⟩ := hown2.rd (wf_of_ok HOK.out)
    obtain ⟨rfl, rfl⟩ : A2 = some ⟨g, 0, none⟩ ∧ c2 = cap := by
      injection he2 with e1 _ e3
      exact ⟨e1.symm, e3.symm⟩
    clear he2 hown2 hown1
    rw [List.length_set, HL.out] at hr2
    rw [HL.out]
    go_upto_region 7 with fail
    clear hc hf
    generalize hw2 : w1.setCell ⟨g, k, none⟩ (.int .u8 z) = w2 at *
    clear hw2 hb1 hgl
    go_wp2_with fail
    refine (adler_any _ 1 1 _ _ (by exact Pts.one hr2 (by omega))).mono ?_
    rintro e w3 ⟨rfl, hb3⟩
    rw [cat_one]
    have hb4 := (hb2.alloc hb2.size _).trans (hb3.mono (by have := hb2.size; simp; omega))
    clear hb3
    go_wp2_with fail
    refine (adler_any _ 1 1 _ _ (by exact Pts.one (h.below hb4) (by omega))).mono ?_
    rintro e w5 ⟨rfl, hb5⟩
    rw [cat_one]
    have hb6 := (hb4.alloc hb4.size _).trans (hb5.mono (by have := hb4.size; simp; omega))
    clear hb5 hb4 hb2
    have hiff : (onV 1 (xs.set k z) = onV 1 xs) ↔ y = 0 := by rw [HON.out, ← HX.out, HXO.out.2.2]
    by_cases hy : y = 0
    · have he : onV 1 (xs.set k z) = onV 1 xs := hiff.2 hy
      rw [he]
      subst hy
      clear he hiff
      go_wp2_with fail
      refine (awake_any _).mono ?_
      rintro e w7 ⟨rfl, hb7⟩
      go_wp2
      go_ret
      exact ⟨rfl, hb6.trans (hb7.mono hb6.size)⟩
    · have he : ¬ onV 1 (xs.set k z) = onV 1 xs := fun h => hy (hiff.1 h)
      generalize onV 1 (xs.set k z) = P at *
      generalize onV 1 xs = R at *
      have he2 : (P == R) = false := by simpa using he
      have he3 : (P != R) = true := by simpa using he
      have hy2 : (y == 0) = false := by simpa using hy
      have hy3 : (y != 0) = true := by simpa using hy
      clear hiff
      go_wp2_with fail
      refine (awake_any _).mono ?_
      rintro e w7 ⟨rfl, hb7⟩
      go_wp2
      go_ret
      exact ⟨rfl, hb6.trans (hb7.mono hb6.size)⟩
end Go.Proofs.Yteheffhfhimkdaa
