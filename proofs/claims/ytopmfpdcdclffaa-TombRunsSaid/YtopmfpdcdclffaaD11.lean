/- The law of any calls of a tomb. -/
import Derived.Test.YtopmfpdcdclffaaD10
set_option linter.unusedSimpArgs false
set_option linter.unusedVariables false
namespace Go.Proofs.Ytopmfpdcdclffaa
open Go.RowKit Go.Shelf

theorem lay_zz (B : Bm) (A : Option Addr) (n c : Nat) : lay [Value.int .i64 0, Value.int .i64 0, Value.slice none 0 0] 0 (rvL B A n c) = rvL B A n c := rfl
theorem zR_one : ∀ v ∈ [Value.int .i64 0, Value.int .i64 0, Value.slice none 0 0], v.oneCell' = true := by
  intro v hv
  simp at hv
  rcases hv with rfl | rfl <;> rfl
theorem rv_fits (B : Bm) (A : Option Addr) (n c : Nat) : 0 + 3 ≤ (rvL B A n c).length := by show 0 + 3 ≤ 3; omega
set_option maxRecDepth 100000 in
set_option maxHeartbeats 16000000 in
theorem lawRuns (span : Int) (ops : Sl OpT.den) (w : World) (h : (Ty.sl OpT).reads w ops) :
    Calls Try.prog 3 #[.int .i64 span, .slice ops.A ops.n ops.c] w fun e w' => e = .returned (.bool true) ∧ Below w.heap.size w w' := by
  have hnm : ops.n ≤ 9223372036854775807 := by have h := h.2; simp only [maxLen] at h; omega
  have HOp := Lib.hid (op_at h)
  obtain ⟨A0, n0, c0, l0⟩ := ops
  dsimp only at *
  clear h
  by_cases hv : 1 ≤ span ∧ span ≤ 64
  · obtain ⟨hv1, hv2⟩ := hv
    obtain ⟨sz, rfl⟩ : ∃ sz : Nat, span = sz := ⟨span.toNat, by omega⟩
    go_enter Try.func3, Try.ntmps3
    go_wp2_with fail
    refine (t_new sz w (by omega) (by omega)).mono ?_
    rintro e w1 ⟨p1, hp1, rfl, hm1, hb1⟩
    go_wp2_with fail
    refine (rnew_any sz w1 (by omega) (by omega)).mono ?_
    rintro e w2 ⟨rfl, hb2⟩
    have hz := Bk.new w2 29 [.int .i64 0, .int .i64 0, .slice none 0 0]
    have H1 := Lib.hid (And.intro hm1 (And.intro hb1 (And.intro hb2 hp1)))
    clear hm1 hb1 hb2 hp1
    go_wp2_with (with_reducible refine at_store 29 (.tmp 7) (.tmp 26) (by rfl) ?_; refine wpList_store_bk rowR rfl (.tmp 7) (.tmp 26) rfl w2.heap.size 0 rfl hz (rvL (Bm.new sz 1) none 0 0) rfl rfl (by decide) (rvL_one _ _ _ _) ?_; rintro w3 hz3 hw3)
    rw [lay_zz] at hz3
    have hJ : JB w w2.heap.size (plT p1) none 0 0 (Bm.new sz 1) (Bm.new sz 1) w3 := by
      obtain ⟨hm1, hb1, hb2, hp1⟩ := H1.out
      have hb3 : Below w2.heap.size w2 w3 := ((Below.refl _ _).alloc (Nat.le_refl _) _).trans (hw3.below (Nat.le_refl _) (by simp))
      have hlt : p1 < w1.heap.size := hm1.lt
      have hsz := hb2.size
      have hs1 := hb1.size
      refine ⟨(hm1.below hb2).below hb3, ?_, hz3, fun hn => by omega, by show p1 ≠ _; omega, hp1, by omega, (hb1.trans (hb2.mono hb1.size)).trans (hb3.mono (by omega))⟩
      have he : (Bm.new sz 1).all true = [] := by simp [Bm.all, Bm.nums, Bm.new, Bm.cond]
      unfold Rp
      rw [he]
      exact RdV.nil w3
    have HJ := Lib.hid hJ
    have HN1 : Hid ((Bm.new sz 1).tk ∧ (Bm.new sz 1).base ≤ 1 + 64 * 0 ∧ (Bm.new sz 1).size ≤ 64) := Lib.hid ⟨Bm.new_tk (by omega) (by omega), by show 1 ≤ _; omega, by show sz ≤ _; omega⟩
    clear hJ hz hz3 hw3
    refine (awake_any w3).mono ?_
    rintro e w4 ⟨rfl, hb4⟩
    have HJ4 : Hid (JB w w2.heap.size (plT p1) none 0 0 (Bm.new sz 1) (Bm.new sz 1) w4) := Lib.hid (HJ.out.next hb4)
    clear hb4 H1 HJ
    generalize w2.heap.size = gb at *
    go_wp2_with fail
    go_loopw [5, 9] (fun sp i wr => ∃ (k : Nat) (P : Pl) (A : Option Addr) (n c : Nat) (R : Bm), k ≤ n0 ∧ k ≤ 80 ∧ i = .int .i64 k ∧ sp = .pointer (some ⟨P.p, P.o, none⟩) ∧ (R.tk ∧ R.base ≤ 1 + 64 * k ∧ R.size ≤ 64) ∧ JB w gb P A n c R R wr) (fun _ i _ => n0 + 1 - (intOf i).toNat)
    case atStart => exact ⟨0, plT p1, _, _, _, _, Nat.zero_le _, by omega, rfl, rfl, HN1.out, HJ4.out⟩
    case round =>
      clear HJ4 HN1
      obtain ⟨k, P, A, n, c, R, hkn, hk60, rfl, rfl, hR, hJ⟩ := hrel
      have JR := Lib.hid hJ
      have HT := Lib.hid hR.1
      have HTN : Hid (∀ y, (R.close y).tk ∧ (R.close y).base ≤ 1 + 64 * (k + 1) ∧ (R.close y).size ≤ 64) := Lib.hid (fun y => by
        obtain ⟨g1, g2, g3, g4⟩ := hR.1.close y
        exact ⟨g1, by omega, by omega⟩)
      have HTS : Hid (R.tk ∧ R.base ≤ 1 + 64 * (k + 1) ∧ R.size ≤ 64) := Lib.hid ⟨hR.1, by omega, hR.2.2⟩
      clear hJ
      by_cases hc : k < n0 ∧ k < 80
      · obtain ⟨hlt, h60⟩ := hc
        have h60' : (k : Int) < 80 := by omega
        have hlt' : (k : Int) < n0 := by omega
        obtain ⟨go, o, dv, nv, x, hA, hg0, o0, o1, o2, hdv, hnv1, hnv2⟩ := HOp.out k hlt
        obtain rfl : A0 = some ⟨go, o, none⟩ := hA
        have hb1 := JR.out.bm.1.b1
        have hb2 := hR.2.1
        have o0 := (JR.out.bel.cell (p := ⟨go, o + k * 3, none⟩) hg0).trans o0
        have o1 := (JR.out.bel.cell (p := ⟨go, o + k * 3 + 1, none⟩) hg0).trans o1
        have o2 := (JR.out.bel.cell (p := ⟨go, o + k * 3 + 2, none⟩) hg0).trans o2
        have r1 := JR.out.bx.cell 1 rfl
        have hgl : gb < wr.heap.size := JR.out.bx.lt
        have JA : Hid (JO w gb wr.heap.size P A n c R R [.int .u8 dv, .int .i8 nv, .int .i64 x] (wr.alloc (.cells #[.int .u8 dv, .int .i8 nv, .int .i64 x] 35))) := Lib.hid ⟨JR.out.next ((Below.refl _ _).alloc (Nat.le_refl _) (.cells #[.int .u8 dv, .int .i8 nv, .int .i64 x] 35)), Bk.new wr 35 [.int .u8 dv, .int .i8 nv, .int .i64 x], by omega, by have : P.p < wr.heap.size := JR.out.bm.lt; omega⟩
        have kn : IntKind.i64.wrap ((R.base : Int) + nv) = R.base + nv := by rw [IntKind.wrap_i64]; omega
        have kn2 : IntKind.i64.wrap nv = nv := by rw [IntKind.wrap_i64]; omega
        clear hR
        rcases (by omega : (dv : Int) % 8 = 6 ∨ (dv : Int) % 8 = 7 ∨ ((dv : Int) % 8 ≠ 6 ∧ (dv : Int) % 8 ≠ 7)) with h0 | h0 | ⟨h0, h5⟩
        · go_wp2_with (first
            | (go_at_call 11; refine (t_close JA.out.jb.bm HT.out _).mono ?_; rintro e w2 ⟨rfl, hd⟩; have JD := Lib.hid (JA.out.did hd); clear hd)
            | (with_reducible refine at_load 29 (.tmp 7) (by rfl) ?_; first
                | (refine wpList_load_bk rowR rfl (.tmp 7) rfl gb 0 rfl J9.out.jb.bx (rvL R9 A9 n9 c9) rfl rfl ?_)
                | (refine wpList_load_bk rowR rfl (.tmp 7) rfl gb 0 rfl JD.out.jb.bx (rvL R A n c) rfl rfl ?_))
            | (go_at_call 12; refine (rclose_any JD.out.jb.rp HT.out _).mono ?_; rintro e w3 ⟨A2, n2, c2, rfl, hr2⟩
               have hJ1 := JD.out.next hr2.bel
               have hz := Bk.new w3 29 [.int .i64 0, .int .i64 0, .slice none 0 0]
               have hx1 := hJ1.jb.bx.alloc (.cells #[.int .i64 0, .int .i64 0, .slice none 0 0] 29)
               have hgv : gb < w3.heap.size := hJ1.jb.bx.lt
               have HR2 := Lib.hid hr2
               clear hr2 hJ1)
            | (with_reducible refine at_store 29 (.tmp 15) (.tmp 95) (by rfl) ?_; refine wpList_store_bk rowR rfl (.tmp 15) (.tmp 95) rfl w3.heap.size 0 rfl hz (rvL (R.close x) A2 n2 c2) rfl rfl (by decide) (rvL_one _ _ _ _) ?_; rintro w4 hk2 hw2
               rw [lay_zz] at hk2
               have hx2 := hx1.wr hw2 (by omega))
            | (with_reducible refine at_load 29 (.tmp 15) (by rfl) ?_; refine wpList_load_bk rowR rfl (.tmp 15) rfl w3.heap.size 0 rfl hk2 (rvL (R.close x) A2 n2 c2) rfl rfl ?_)
            | (with_reducible refine at_store 29 (.tmp 7) (.tmp 98) (by rfl) ?_; refine wpList_store_bk rowR rfl (.tmp 7) (.tmp 98) rfl gb 0 rfl hx2 (rvL (R.close x) A2 n2 c2) rfl rfl (rv_fits _ _ _ _) (rvL_one _ _ _ _) ?_; rintro w5 hk3 hw3
               rw [lay_rv] at hk3
               have hb2 : Below w3.heap.size w3 w4 := ((Below.refl _ _).alloc (Nat.le_refl _) _).trans (hw2.below (Nat.le_refl _) (by simp))
               have JF := Lib.hid (JD.out.ref HR2.out hb2 hk3 hw3)
               clear hk2 hw2 hx2 hx1 hz hb2 hk3 hw3
               obtain ⟨R9, hR9⟩ : ∃ R9, R9 = R.close x := ⟨_, rfl⟩
               obtain ⟨A9, hA9⟩ : ∃ A9, A9 = A2 := ⟨_, rfl⟩
               obtain ⟨n9, hn9⟩ : ∃ n9, n9 = n2 := ⟨_, rfl⟩
               obtain ⟨c9, hc9⟩ : ∃ c9, c9 = c2 := ⟨_, rfl⟩
               have J9 := JF
               rw [← hR9, ← hA9, ← hn9, ← hc9] at J9
               have HK9 : Hid (R9.tk ∧ R9.base ≤ 1 + 64 * (k + 1) ∧ R9.size ≤ 64) := Lib.hid (by rw [hR9]; exact HTN.out x)
               clear hR9 hA9 hn9 hc9)
            | ((with_reducible refine at_load 29 (.tmp 7) (by rfl) ?_); refine wpList_load_bk_g rowR (by rfl) (.tmp 7) rfl gb 0 rfl JZ.out.jb.bx (rvL R9 A9 n9 c9) rfl rfl ?_)
            | (go_at_call 13; first
                | (refine (same_true JZ.out.jb.bm HK9.out.1 (by have := HK9.out.2; omega) JZ.out.jb.rp _).mono ?_; rintro e w10 ⟨rfl, hb10⟩; have JY := Lib.hid (JZ.out.next hb10); clear hb10 o9)
                | (refine (same_true J9.out.jb.bm HK9.out.1 (by have := HK9.out.2; omega) J9.out.jb.rp _).mono ?_; rintro e w9 ⟨rfl, hb9⟩; have JZ := Lib.hid (J9.out.next hb9); have o9 := (J9.out.next hb9).op.cell 2 rfl; clear hb9)))
          go_roundw
          case rel => exact ⟨k + 1, _, _, _, _, _, by omega, by omega, by go_num, rfl, HK9.out, JY.out.jb⟩
          case measure => simp [intOf]; omega
        · go_wp2_with (first
            | (go_at_call 10; refine (t_fork JA.out.jb.bm).mono ?_; rintro e w2 ⟨rfl, hp2, hb2⟩
               obtain ⟨q, hq⟩ : ∃ q, q = (wr.alloc (.cells #[.int .u8 dv, .int .i8 nv, .int .i64 x] 35)).heap.size := ⟨_, rfl⟩
               rw [← hq] at hp2 ⊢
               have HQ := Lib.hid hq
               clear hq
               have HB2 := Lib.hid (And.intro hp2 hb2)
               have JN := Lib.hid (JA.out.next hb2)
               have cN := (JA.out.next hb2).jb.bx.cell 1 rfl
               clear hp2 hb2)
            | (go_at_call 11; refine (t_close JN.out.jb.bm HT.out _).mono ?_; rintro e w3 ⟨rfl, hd⟩; have JF : Hid (JO w gb wr.heap.size (plT q) A n c R R [.int .u8 dv, .int .i8 nv, .int .i64 x] w3) := Lib.hid (by rw [HQ.out]; exact JA.out.fork (by rw [← HQ.out]; exact HB2.out.1) HB2.out.2 hd)
               clear hd cN
               obtain ⟨R9, hR9⟩ : ∃ R9, R9 = R := ⟨_, rfl⟩
               obtain ⟨A9, hA9⟩ : ∃ A9, A9 = A := ⟨_, rfl⟩
               obtain ⟨n9, hn9⟩ : ∃ n9, n9 = n := ⟨_, rfl⟩
               obtain ⟨c9, hc9⟩ : ∃ c9, c9 = c := ⟨_, rfl⟩
               have J9 := JF
               rw [← hR9, ← hA9, ← hn9, ← hc9] at J9
               have HK9 : Hid (R9.tk ∧ R9.base ≤ 1 + 64 * (k + 1) ∧ R9.size ≤ 64) := Lib.hid (by rw [hR9]; exact HTS.out)
               clear hR9 hA9 hn9 hc9)
            | (with_reducible refine at_load 29 (.tmp 7) (by rfl) ?_; first
                | (refine wpList_load_bk rowR rfl (.tmp 7) rfl gb 0 rfl J9.out.jb.bx (rvL R9 A9 n9 c9) rfl rfl ?_))
            | ((with_reducible refine at_load 29 (.tmp 7) (by rfl) ?_); refine wpList_load_bk_g rowR (by rfl) (.tmp 7) rfl gb 0 rfl JZ.out.jb.bx (rvL R9 A9 n9 c9) rfl rfl ?_)
            | (go_at_call 13; first
                | (refine (same_true JZ.out.jb.bm HK9.out.1 (by have := HK9.out.2; omega) JZ.out.jb.rp _).mono ?_; rintro e w10 ⟨rfl, hb10⟩; have JY := Lib.hid (JZ.out.next hb10); clear hb10 o9)
                | (refine (same_true J9.out.jb.bm HK9.out.1 (by have := HK9.out.2; omega) J9.out.jb.rp _).mono ?_; rintro e w9 ⟨rfl, hb9⟩; have JZ := Lib.hid (J9.out.next hb9); have o9 := (J9.out.next hb9).op.cell 2 rfl; clear hb9)))
          go_roundw
          case rel => exact ⟨k + 1, _, _, _, _, _, by omega, by omega, by go_num, rfl, HK9.out, JY.out.jb⟩
          case measure => simp [intOf]; omega
        · go_wp2_with (first
            | (go_at_call 11; refine (t_close JA.out.jb.bm HT.out _).mono ?_; rintro e w2 ⟨rfl, hd⟩; have JD := Lib.hid (JA.out.did hd); clear hd)
            | (with_reducible refine at_load 29 (.tmp 7) (by rfl) ?_; first
                | (refine wpList_load_bk rowR rfl (.tmp 7) rfl gb 0 rfl J9.out.jb.bx (rvL R9 A9 n9 c9) rfl rfl ?_)
                | (refine wpList_load_bk rowR rfl (.tmp 7) rfl gb 0 rfl JD.out.jb.bx (rvL R A n c) rfl rfl ?_))
            | (go_at_call 12; refine (rclose_any JD.out.jb.rp HT.out _).mono ?_; rintro e w3 ⟨A2, n2, c2, rfl, hr2⟩
               have hJ1 := JD.out.next hr2.bel
               have hz := Bk.new w3 29 [.int .i64 0, .int .i64 0, .slice none 0 0]
               have hx1 := hJ1.jb.bx.alloc (.cells #[.int .i64 0, .int .i64 0, .slice none 0 0] 29)
               have hgv : gb < w3.heap.size := hJ1.jb.bx.lt
               have HR2 := Lib.hid hr2
               clear hr2 hJ1)
            | (with_reducible refine at_store 29 (.tmp 15) (.tmp 95) (by rfl) ?_; refine wpList_store_bk rowR rfl (.tmp 15) (.tmp 95) rfl w3.heap.size 0 rfl hz (rvL (R.close ((R.base : Int) + nv)) A2 n2 c2) rfl rfl (by decide) (rvL_one _ _ _ _) ?_; rintro w4 hk2 hw2
               rw [lay_zz] at hk2
               have hx2 := hx1.wr hw2 (by omega))
            | (with_reducible refine at_load 29 (.tmp 15) (by rfl) ?_; refine wpList_load_bk rowR rfl (.tmp 15) rfl w3.heap.size 0 rfl hk2 (rvL (R.close ((R.base : Int) + nv)) A2 n2 c2) rfl rfl ?_)
            | (with_reducible refine at_store 29 (.tmp 7) (.tmp 98) (by rfl) ?_; refine wpList_store_bk rowR rfl (.tmp 7) (.tmp 98) rfl gb 0 rfl hx2 (rvL (R.close ((R.base : Int) + nv)) A2 n2 c2) rfl rfl (rv_fits _ _ _ _) (rvL_one _ _ _ _) ?_; rintro w5 hk3 hw3
               rw [lay_rv] at hk3
               have hb2 : Below w3.heap.size w3 w4 := ((Below.refl _ _).alloc (Nat.le_refl _) _).trans (hw2.below (Nat.le_refl _) (by simp))
               have JF := Lib.hid (JD.out.ref HR2.out hb2 hk3 hw3)
               clear hk2 hw2 hx2 hx1 hz hb2 hk3 hw3
               obtain ⟨R9, hR9⟩ : ∃ R9, R9 = R.close ((R.base : Int) + nv) := ⟨_, rfl⟩
               obtain ⟨A9, hA9⟩ : ∃ A9, A9 = A2 := ⟨_, rfl⟩
               obtain ⟨n9, hn9⟩ : ∃ n9, n9 = n2 := ⟨_, rfl⟩
               obtain ⟨c9, hc9⟩ : ∃ c9, c9 = c2 := ⟨_, rfl⟩
               have J9 := JF
               rw [← hR9, ← hA9, ← hn9, ← hc9] at J9
               have HK9 : Hid (R9.tk ∧ R9.base ≤ 1 + 64 * (k + 1) ∧ R9.size ≤ 64) := Lib.hid (by rw [hR9]; exact HTN.out ((R.base : Int) + nv))
               clear hR9 hA9 hn9 hc9)
            | ((with_reducible refine at_load 29 (.tmp 7) (by rfl) ?_); refine wpList_load_bk_g rowR (by rfl) (.tmp 7) rfl gb 0 rfl JZ.out.jb.bx (rvL R9 A9 n9 c9) rfl rfl ?_)
            | (go_at_call 13; first
                | (refine (same_true JZ.out.jb.bm HK9.out.1 (by have := HK9.out.2; omega) JZ.out.jb.rp _).mono ?_; rintro e w10 ⟨rfl, hb10⟩; have JY := Lib.hid (JZ.out.next hb10); clear hb10 o9)
                | (refine (same_true J9.out.jb.bm HK9.out.1 (by have := HK9.out.2; omega) J9.out.jb.rp _).mono ?_; rintro e w9 ⟨rfl, hb9⟩; have JZ := Lib.hid (J9.out.next hb9); have o9 := (J9.out.next hb9).op.cell 2 rfl; clear hb9)))
          go_roundw
          case rel => exact ⟨k + 1, _, _, _, _, _, by omega, by omega, by go_num, rfl, HK9.out, JY.out.jb⟩
          case measure => simp [intOf]; omega
      · have hd : k < n0 ∧ (80 : Int) ≤ k ∨ n0 ≤ k := by omega
        clear hR
        rcases hd with ⟨hlt, h60⟩ | hge
        · have hlt' : (k : Int) < n0 := by omega
          go_wp2
          go_ret
          exact ⟨rfl, JR.out.bel⟩
        · obtain rfl : k = n0 := by omega
          go_wp2
          go_ret
          exact ⟨rfl, JR.out.bel⟩
  · have hv' : span < 1 ∨ 64 < span := by omega
    go_enter Try.func3, Try.ntmps3
    go_wp2_with fail
    refine (t_newBad span w hv').mono ?_
    rintro e w1 ⟨rfl, rfl⟩
    go_wp2_with fail
    refine (rnew_bad span w hv').mono ?_
    rintro e w2 ⟨rfl, hb2⟩
    have hz := Bk.new w2 29 [.int .i64 0, .int .i64 0, .slice none 0 0]
    have HB := Lib.hid hb2
    clear hb2 hv hv'
    go_wp2_with (with_reducible refine at_store 29 (.tmp 7) (.tmp 26) (by rfl) ?_; refine wpList_store_bk rowR rfl (.tmp 7) (.tmp 26) rfl w2.heap.size 0 rfl hz [.int .i64 0, .int .i64 0, .slice none 0 0] rfl rfl (by decide) zR_one ?_; rintro w3 hz3 hw3)
    have HB3 := Lib.hid (HB.out.trans ((((Below.refl _ _).alloc (Nat.le_refl _) (.cells #[.int .i64 0, .int .i64 0, .slice none 0 0] 29)).trans (hw3.below (Nat.le_refl _) (by simp))).mono HB.out.size))
    clear hz hz3 hw3
    refine (awake_any w3).mono ?_
    rintro e w4 ⟨rfl, hb4⟩
    have HB4 := Lib.hid (HB3.out.trans (hb4.mono HB3.out.size))
    clear hb4
    go_wp2
    go_loopw [5, 9] (fun sp i wr => sp = .pointer none ∧ i = .int .i64 0 ∧ wr = w4) (fun _ _ _ => 0)
    case atStart => exact ⟨rfl, rfl, rfl⟩
    case round =>
      obtain ⟨rfl, rfl, rfl⟩ := hrel
      by_cases hn : n0 = 0
      · subst hn
        go_wp2
        go_ret
        exact ⟨rfl, HB4.out⟩
      · have hn' : (0 : Int) < n0 := by omega
        go_wp2
        go_ret
        exact ⟨rfl, HB4.out⟩
end Go.Proofs.Ytopmfpdcdclffaa
