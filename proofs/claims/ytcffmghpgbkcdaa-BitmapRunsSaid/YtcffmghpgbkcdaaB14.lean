/- The law of any calls of a bitmap. -/
import Derived.Test.YtcffmghpgbkcdaaB13
set_option linter.unusedSimpArgs false
set_option linter.unusedVariables false
namespace Go.Proofs.Ytcffmghpgbkcdaa
open Go.RowKit Go.Shelf

theorem lay_zz (B : Bm) (A : Option Addr) (n c : Nat) : lay [Value.int .i64 0, Value.int .i64 0, Value.slice none 0 0] 0 (rvL B A n c) = rvL B A n c := rfl
theorem zR_one : ∀ v ∈ [Value.int .i64 0, Value.int .i64 0, Value.slice none 0 0], v.oneCell' = true := by
  intro v hv
  simp at hv
  rcases hv with rfl | rfl <;> rfl
theorem rv_fits (B : Bm) (A : Option Addr) (n c : Nat) : 0 + 3 ≤ (rvL B A n c).length := by show 0 + 3 ≤ 3; omega
set_option maxRecDepth 100000 in
set_option maxHeartbeats 16000000 in
theorem lawRuns (size base : Int) (ops : Sl OpT.den) (most : Int) (w : World) (h : (Ty.sl OpT).reads w ops) :
    Calls Try.prog 3 #[.int .i64 size, .int .i64 base, .slice ops.A ops.n ops.c, .int .i64 most] w fun e w' => e = .returned (.bool true) ∧ Below w.heap.size w w' := by
  have hnm : ops.n ≤ 9223372036854775807 := by have h := h.2; simp only [maxLen] at h; omega
  have HOp := Lib.hid (op_at h)
  obtain ⟨A0, n0, c0, l0⟩ := ops
  dsimp only at *
  clear h
  by_cases hv : 1 ≤ size ∧ size ≤ 256 ∧ 0 ≤ base ∧ base ≤ 1152921504606846976
  · obtain ⟨hv1, hv2, hv3, hv4⟩ := hv
    obtain ⟨sz, rfl⟩ : ∃ sz : Nat, size = sz := ⟨size.toNat, by omega⟩
    obtain ⟨bs, rfl⟩ : ∃ bs : Nat, base = bs := ⟨base.toNat, by omega⟩
    go_enter Try.func3, Try.ntmps3
    go_wp2_with fail
    refine (b_new sz bs w (by omega) (by omega) (by omega)).mono ?_
    rintro e w1 ⟨rfl, hm1, hb1⟩
    go_wp2_with fail
    refine (rnew_any sz bs w1 (by omega) (by omega) (by omega)).mono ?_
    rintro e w2 ⟨rfl, hb2⟩
    have hz := Bk.new w2 29 [.int .i64 0, .int .i64 0, .slice none 0 0]
    have H1 := Lib.hid (And.intro hm1 (And.intro hb1 hb2))
    clear hm1 hb1 hb2
    go_wp2_with (with_reducible refine at_store 29 (.tmp 11) (.tmp 35) (by rfl) ?_; refine wpList_store_bk rowR rfl (.tmp 11) (.tmp 35) rfl w2.heap.size 0 rfl hz (rvL (Bm.new sz bs) none 0 0) rfl rfl (by decide) (rvL_one _ _ _ _) ?_; rintro w3 hz3 hw3)
    rw [lay_zz] at hz3
    have hJ : JB w w2.heap.size w.heap.size none 0 0 (Bm.new sz bs) (Bm.new sz bs) w3 := by
      obtain ⟨hm1, hb1, hb2⟩ := H1.out
      have hb3 : Below w2.heap.size w2 w3 := ((Below.refl _ _).alloc (Nat.le_refl _) _).trans (hw3.below (Nat.le_refl _) (by simp))
      have hlt := hm1.lt
      have hsz := hb2.size
      have hs1 := hb1.size
      refine ⟨(hm1.below hb2).below hb3, ?_, hz3, fun hn => by omega, by omega, Nat.le_refl _, by omega, (hb1.trans (hb2.mono hb1.size)).trans (hb3.mono (by omega))⟩
      have he : (Bm.new sz bs).all true = [] := by simp [Bm.all, Bm.nums, Bm.new, Bm.cond]
      unfold Rp
      rw [he]
      exact RdV.nil w3
    have HJ := Lib.hid hJ
    clear hJ hz hz3 hw3
    refine (awake_any w3).mono ?_
    rintro e w4 ⟨rfl, hb4⟩
    have HJ4 := Lib.hid (HJ.out.next hb4)
    clear hb4 H1 HJ
    generalize w2.heap.size = gb at *
    go_wp2_with fail
    go_loopw [9, 13] (fun sp i wr => ∃ (k p : Nat) (A : Option Addr) (n c : Nat) (R : Bm), k ≤ n0 ∧ k ≤ 60 ∧ i = .int .i64 k ∧ sp = .pointer (some ⟨p, 0, none⟩) ∧ JB w gb p A n c R R wr) (fun _ i _ => n0 + 1 - (intOf i).toNat)
    case atStart => exact ⟨0, _, _, _, _, _, Nat.zero_le _, by omega, rfl, rfl, HJ4.out⟩
    case round =>
      clear HJ4
      obtain ⟨k, p, A, n, c, R, hkn, hk60, rfl, rfl, hJ⟩ := hrel
      have JR := Lib.hid hJ
      clear hJ
      by_cases hc : k < n0 ∧ k < 60
      · obtain ⟨hlt, h60⟩ := hc
        have h60' : (k : Int) < 60 := by omega
        have hlt' : (k : Int) < n0 := by omega
        obtain ⟨go, o, dv, nv, x, hA, hg0, o0, o1, o2, hdv, hnv1, hnv2⟩ := HOp.out k hlt
        obtain rfl : A0 = some ⟨go, o, none⟩ := hA
        have hb1 := JR.out.bm.1.b1
        have hok := JR.out.bm.1
        have HOK := Lib.hid hok
        have o0 := (JR.out.bel.cell (p := ⟨go, o + k * 3, none⟩) hg0).trans o0
        have o1 := (JR.out.bel.cell (p := ⟨go, o + k * 3 + 1, none⟩) hg0).trans o1
        have o2 := (JR.out.bel.cell (p := ⟨go, o + k * 3 + 2, none⟩) hg0).trans o2
        have r1 := JR.out.bx.cell 1 rfl
        have hgl : gb < wr.heap.size := JR.out.bx.lt
        have JA := Lib.hid (JR.out.next ((Below.refl _ _).alloc (Nat.le_refl _) (.cells #[.int .u8 dv, .int .i8 nv, .int .i64 x] 35)))
        have kn : IntKind.i64.wrap ((R.base : Int) + nv) = R.base + nv := by rw [IntKind.wrap_i64]; omega
        have kn2 : IntKind.i64.wrap nv = nv := by rw [IntKind.wrap_i64]; omega
        clear hok
        rcases (by omega : (dv : Int) % 8 = 5 ∨ (dv : Int) % 8 = 6 ∨ (dv : Int) % 8 = 7 ∨ (dv : Int) % 8 = 4 ∨ ((dv : Int) % 8 ≠ 4 ∧ (dv : Int) % 8 ≠ 5 ∧ (dv : Int) % 8 ≠ 6 ∧ (dv : Int) % 8 ≠ 7)) with h0 | h0 | h0 | h0 | ⟨h0, h5, h6, h7⟩
        · go_wp2_with (first
            | (go_at_call 9; refine (b_advance JA.out.bm).mono ?_; rintro e w2 ⟨j1, hj1, rfl, hd⟩; have JD := Lib.hid (JA.out.did hd); have HJ1 := Lib.hid hj1; clear hd hj1)
            | (with_reducible refine at_load 29 (.tmp 11) (by rfl) ?_; first
                | (refine wpList_load_bk rowR rfl (.tmp 11) rfl gb 0 rfl JD.out.bx (rvL R A n c) rfl rfl ?_))
            | (go_at_call 10; refine (radv_any JD.out.rp HOK.out).mono ?_; rintro e w3 ⟨j2, A2, n2, c2, hj2, rfl, hr2⟩
               obtain rfl : j1 = j2 := Bm.runs_one HJ1.out hj2
               have hJ1 := JD.out.next hr2.bel
               have hz := Bk.new w3 29 [.int .i64 0, .int .i64 0, .slice none 0 0]
               have hx1 := hJ1.bx.alloc (.cells #[.int .i64 0, .int .i64 0, .slice none 0 0] 29)
               have hgv : gb < w3.heap.size := hJ1.bx.lt
               have HR2 := Lib.hid hr2
               clear hr2 hj2 hJ1)
            | (with_reducible refine at_store 29 (.tmp 17) (.tmp 114) (by rfl) ?_; refine wpList_store_bk rowR rfl (.tmp 17) (.tmp 114) rfl w3.heap.size 0 rfl hz (rvL (R.on j1) A2 n2 c2) rfl rfl (by decide) (rvL_one _ _ _ _) ?_; rintro w4 hk2 hw2
               rw [lay_zz] at hk2
               have hx2 := hx1.wr hw2 (by omega))
            | (with_reducible refine at_load 29 (.tmp 17) (by rfl) ?_; refine wpList_load_bk rowR rfl (.tmp 17) rfl w3.heap.size 0 rfl hk2 (rvL (R.on j1) A2 n2 c2) rfl rfl ?_)
            | (with_reducible refine at_store 29 (.tmp 11) (.tmp 116) (by rfl) ?_; refine wpList_store_bk rowR rfl (.tmp 11) (.tmp 116) rfl gb 0 rfl hx2 (rvL (R.on j1) A2 n2 c2) rfl rfl (rv_fits _ _ _ _) (rvL_one _ _ _ _) ?_; rintro w5 hk3 hw3
               rw [lay_rv] at hk3
               have hb2 : Below w3.heap.size w3 w4 := ((Below.refl _ _).alloc (Nat.le_refl _) _).trans (hw2.below (Nat.le_refl _) (by simp))
               have JF := Lib.hid (JD.out.ref HR2.out hb2 hk3 hw3)
               clear hk2 hw2 hx2 hx1 hz hb2 hk3 hw3
               obtain ⟨R9, hR9⟩ : ∃ R9, R9 = R.on j1 := ⟨_, rfl⟩
               obtain ⟨A9, hA9⟩ : ∃ A9, A9 = A2 := ⟨_, rfl⟩
               obtain ⟨n9, hn9⟩ : ∃ n9, n9 = n2 := ⟨_, rfl⟩
               obtain ⟨c9, hc9⟩ : ∃ c9, c9 = c2 := ⟨_, rfl⟩
               have J9 := JF
               rw [← hR9, ← hA9, ← hn9, ← hc9] at J9
               clear hR9 hA9 hn9 hc9)
            | (with_reducible refine at_load 29 (.tmp 11) (by rfl) ?_; refine wpList_load_bk rowR rfl (.tmp 11) rfl gb 0 rfl J9.out.bx (rvL R9 A9 n9 c9) rfl rfl ?_)
            | (go_at_call 14; refine (same_true J9.out.bm J9.out.rp _ most).mono ?_; rintro e w9 ⟨rfl, hb9⟩; have JZ := Lib.hid (J9.out.next hb9); clear hb9))
          go_roundw
          case rel => exact ⟨k + 1, _, _, _, _, _, by omega, by omega, by go_num, rfl, JZ.out⟩
          case measure => simp [intOf]; omega
        · go_wp2_with (first
            | (go_at_call 9; refine (b_advance JA.out.bm).mono ?_; rintro e w2 ⟨j1, hj1, rfl, hd⟩; have JD := Lib.hid (JA.out.did hd); have HJ1 := Lib.hid hj1; clear hd hj1)
            | (with_reducible refine at_load 29 (.tmp 11) (by rfl) ?_; first
                | (refine wpList_load_bk rowR rfl (.tmp 11) rfl gb 0 rfl JD.out.bx (rvL R A n c) rfl rfl ?_))
            | (go_at_call 10; refine (radv_any JD.out.rp HOK.out).mono ?_; rintro e w3 ⟨j2, A2, n2, c2, hj2, rfl, hr2⟩
               obtain rfl : j1 = j2 := Bm.runs_one HJ1.out hj2
               have hJ1 := JD.out.next hr2.bel
               have hz := Bk.new w3 29 [.int .i64 0, .int .i64 0, .slice none 0 0]
               have hx1 := hJ1.bx.alloc (.cells #[.int .i64 0, .int .i64 0, .slice none 0 0] 29)
               have hgv : gb < w3.heap.size := hJ1.bx.lt
               have HR2 := Lib.hid hr2
               clear hr2 hj2 hJ1)
            | (with_reducible refine at_store 29 (.tmp 17) (.tmp 114) (by rfl) ?_; refine wpList_store_bk rowR rfl (.tmp 17) (.tmp 114) rfl w3.heap.size 0 rfl hz (rvL (R.on j1) A2 n2 c2) rfl rfl (by decide) (rvL_one _ _ _ _) ?_; rintro w4 hk2 hw2
               rw [lay_zz] at hk2
               have hx2 := hx1.wr hw2 (by omega))
            | (with_reducible refine at_load 29 (.tmp 17) (by rfl) ?_; refine wpList_load_bk rowR rfl (.tmp 17) rfl w3.heap.size 0 rfl hk2 (rvL (R.on j1) A2 n2 c2) rfl rfl ?_)
            | (with_reducible refine at_store 29 (.tmp 11) (.tmp 116) (by rfl) ?_; refine wpList_store_bk rowR rfl (.tmp 11) (.tmp 116) rfl gb 0 rfl hx2 (rvL (R.on j1) A2 n2 c2) rfl rfl (rv_fits _ _ _ _) (rvL_one _ _ _ _) ?_; rintro w5 hk3 hw3
               rw [lay_rv] at hk3
               have hb2 : Below w3.heap.size w3 w4 := ((Below.refl _ _).alloc (Nat.le_refl _) _).trans (hw2.below (Nat.le_refl _) (by simp))
               have JF := Lib.hid (JD.out.ref HR2.out hb2 hk3 hw3)
               clear hk2 hw2 hx2 hx1 hz hb2 hk3 hw3
               obtain ⟨R9, hR9⟩ : ∃ R9, R9 = R.on j1 := ⟨_, rfl⟩
               obtain ⟨A9, hA9⟩ : ∃ A9, A9 = A2 := ⟨_, rfl⟩
               obtain ⟨n9, hn9⟩ : ∃ n9, n9 = n2 := ⟨_, rfl⟩
               obtain ⟨c9, hc9⟩ : ∃ c9, c9 = c2 := ⟨_, rfl⟩
               have J9 := JF
               rw [← hR9, ← hA9, ← hn9, ← hc9] at J9
               clear hR9 hA9 hn9 hc9)
            | (with_reducible refine at_load 29 (.tmp 11) (by rfl) ?_; refine wpList_load_bk rowR rfl (.tmp 11) rfl gb 0 rfl J9.out.bx (rvL R9 A9 n9 c9) rfl rfl ?_)
            | (go_at_call 14; refine (same_true J9.out.bm J9.out.rp _ most).mono ?_; rintro e w9 ⟨rfl, hb9⟩; have JZ := Lib.hid (J9.out.next hb9); clear hb9))
          go_roundw
          case rel => exact ⟨k + 1, _, _, _, _, _, by omega, by omega, by go_num, rfl, JZ.out⟩
          case measure => simp [intOf]; omega
        · go_wp2_with (first
            | (go_at_call 11; refine (b_fork JA.out.bm).mono ?_; rintro e w2 ⟨rfl, hp2, hb2⟩
               rw [World.size_alloc]
               have HB2 := Lib.hid (And.intro hp2 hb2)
               have JN := Lib.hid (JA.out.next hb2)
               have cN := (JA.out.next hb2).bx.cell 1 rfl
               clear hp2 hb2)
            | (go_at_call 12; refine (b_set JN.out.bm _).mono ?_; rintro e w3 ⟨rfl, hd⟩; have JD := Lib.hid (JN.out.did hd); have HD := Lib.hid hd; clear hd cN)
            | (go_at_call 9; refine (b_advance JD.out.bm).mono ?_; rintro e w4 ⟨j1, hj1, rfl, hd⟩; have JF := Lib.hid (JA.out.fork HB2.out.1 HB2.out.2 HD.out hd)
               rw [World.size_alloc] at JF
               clear hd hj1
               obtain ⟨R9, hR9⟩ : ∃ R9, R9 = R := ⟨_, rfl⟩
               obtain ⟨A9, hA9⟩ : ∃ A9, A9 = A := ⟨_, rfl⟩
               obtain ⟨n9, hn9⟩ : ∃ n9, n9 = n := ⟨_, rfl⟩
               obtain ⟨c9, hc9⟩ : ∃ c9, c9 = c := ⟨_, rfl⟩
               have J9 := JF
               rw [← hR9, ← hA9, ← hn9, ← hc9] at J9
               clear hR9 hA9 hn9 hc9)
            | (with_reducible refine at_load 29 (.tmp 11) (by rfl) ?_; refine wpList_load_bk rowR rfl (.tmp 11) rfl gb 0 rfl J9.out.bx (rvL R9 A9 n9 c9) rfl rfl ?_)
            | (go_at_call 14; refine (same_true J9.out.bm J9.out.rp _ most).mono ?_; rintro e w9 ⟨rfl, hb9⟩; have JZ := Lib.hid (J9.out.next hb9); clear hb9))
          go_roundw
          case rel => exact ⟨k + 1, _, _, _, _, _, by omega, by omega, by go_num, rfl, JZ.out⟩
          case measure => simp [intOf]; omega
        · go_wp2_with (first
            | (go_at_call 12; refine (b_set JA.out.bm _).mono ?_; rintro e w2 ⟨rfl, hd⟩; have JD := Lib.hid (JA.out.did hd); clear hd)
            | (with_reducible refine at_load 29 (.tmp 11) (by rfl) ?_; first
                | (refine wpList_load_bk rowR rfl (.tmp 11) rfl gb 0 rfl JD.out.bx (rvL R A n c) rfl rfl ?_))
            | (go_at_call 13; refine (rset_any JD.out.rp HOK.out _).mono ?_; rintro e w3 ⟨A2, n2, c2, rfl, hr2⟩
               have hJ1 := JD.out.next hr2.bel
               have hz := Bk.new w3 29 [.int .i64 0, .int .i64 0, .slice none 0 0]
               have hx1 := hJ1.bx.alloc (.cells #[.int .i64 0, .int .i64 0, .slice none 0 0] 29)
               have hgv : gb < w3.heap.size := hJ1.bx.lt
               have HR2 := Lib.hid hr2
               clear hr2 hJ1)
            | (with_reducible refine at_store 29 (.tmp 22) (.tmp 94) (by rfl) ?_; refine wpList_store_bk rowR rfl (.tmp 22) (.tmp 94) rfl w3.heap.size 0 rfl hz (rvL (R.set x) A2 n2 c2) rfl rfl (by decide) (rvL_one _ _ _ _) ?_; rintro w4 hk2 hw2
               rw [lay_zz] at hk2
               have hx2 := hx1.wr hw2 (by omega))
            | (with_reducible refine at_load 29 (.tmp 22) (by rfl) ?_; refine wpList_load_bk rowR rfl (.tmp 22) rfl w3.heap.size 0 rfl hk2 (rvL (R.set x) A2 n2 c2) rfl rfl ?_)
            | (with_reducible refine at_store 29 (.tmp 11) (.tmp 97) (by rfl) ?_; refine wpList_store_bk rowR rfl (.tmp 11) (.tmp 97) rfl gb 0 rfl hx2 (rvL (R.set x) A2 n2 c2) rfl rfl (rv_fits _ _ _ _) (rvL_one _ _ _ _) ?_; rintro w5 hk3 hw3
               rw [lay_rv] at hk3
               have hb2 : Below w3.heap.size w3 w4 := ((Below.refl _ _).alloc (Nat.le_refl _) _).trans (hw2.below (Nat.le_refl _) (by simp))
               have JF := Lib.hid (JD.out.ref HR2.out hb2 hk3 hw3)
               clear hk2 hw2 hx2 hx1 hz hb2 hk3 hw3
               obtain ⟨R9, hR9⟩ : ∃ R9, R9 = R.set x := ⟨_, rfl⟩
               obtain ⟨A9, hA9⟩ : ∃ A9, A9 = A2 := ⟨_, rfl⟩
               obtain ⟨n9, hn9⟩ : ∃ n9, n9 = n2 := ⟨_, rfl⟩
               obtain ⟨c9, hc9⟩ : ∃ c9, c9 = c2 := ⟨_, rfl⟩
               have J9 := JF
               rw [← hR9, ← hA9, ← hn9, ← hc9] at J9
               clear hR9 hA9 hn9 hc9)
            | (with_reducible refine at_load 29 (.tmp 11) (by rfl) ?_; refine wpList_load_bk rowR rfl (.tmp 11) rfl gb 0 rfl J9.out.bx (rvL R9 A9 n9 c9) rfl rfl ?_)
            | (go_at_call 14; refine (same_true J9.out.bm J9.out.rp _ most).mono ?_; rintro e w9 ⟨rfl, hb9⟩; have JZ := Lib.hid (J9.out.next hb9); clear hb9))
          go_roundw
          case rel => exact ⟨k + 1, _, _, _, _, _, by omega, by omega, by go_num, rfl, JZ.out⟩
          case measure => simp [intOf]; omega
        · go_wp2_with (first
            | (go_at_call 12; refine (b_set JA.out.bm _).mono ?_; rintro e w2 ⟨rfl, hd⟩; have JD := Lib.hid (JA.out.did hd); clear hd)
            | (with_reducible refine at_load 29 (.tmp 11) (by rfl) ?_; first
                | (refine wpList_load_bk rowR rfl (.tmp 11) rfl gb 0 rfl JD.out.bx (rvL R A n c) rfl rfl ?_))
            | (go_at_call 13; refine (rset_any JD.out.rp HOK.out _).mono ?_; rintro e w3 ⟨A2, n2, c2, rfl, hr2⟩
               have hJ1 := JD.out.next hr2.bel
               have hz := Bk.new w3 29 [.int .i64 0, .int .i64 0, .slice none 0 0]
               have hx1 := hJ1.bx.alloc (.cells #[.int .i64 0, .int .i64 0, .slice none 0 0] 29)
               have hgv : gb < w3.heap.size := hJ1.bx.lt
               have HR2 := Lib.hid hr2
               clear hr2 hJ1)
            | (with_reducible refine at_store 29 (.tmp 22) (.tmp 94) (by rfl) ?_; refine wpList_store_bk rowR rfl (.tmp 22) (.tmp 94) rfl w3.heap.size 0 rfl hz (rvL (R.set ((R.base : Int) + nv)) A2 n2 c2) rfl rfl (by decide) (rvL_one _ _ _ _) ?_; rintro w4 hk2 hw2
               rw [lay_zz] at hk2
               have hx2 := hx1.wr hw2 (by omega))
            | (with_reducible refine at_load 29 (.tmp 22) (by rfl) ?_; refine wpList_load_bk rowR rfl (.tmp 22) rfl w3.heap.size 0 rfl hk2 (rvL (R.set ((R.base : Int) + nv)) A2 n2 c2) rfl rfl ?_)
            | (with_reducible refine at_store 29 (.tmp 11) (.tmp 97) (by rfl) ?_; refine wpList_store_bk rowR rfl (.tmp 11) (.tmp 97) rfl gb 0 rfl hx2 (rvL (R.set ((R.base : Int) + nv)) A2 n2 c2) rfl rfl (rv_fits _ _ _ _) (rvL_one _ _ _ _) ?_; rintro w5 hk3 hw3
               rw [lay_rv] at hk3
               have hb2 : Below w3.heap.size w3 w4 := ((Below.refl _ _).alloc (Nat.le_refl _) _).trans (hw2.below (Nat.le_refl _) (by simp))
               have JF := Lib.hid (JD.out.ref HR2.out hb2 hk3 hw3)
               clear hk2 hw2 hx2 hx1 hz hb2 hk3 hw3
               obtain ⟨R9, hR9⟩ : ∃ R9, R9 = R.set ((R.base : Int) + nv) := ⟨_, rfl⟩
               obtain ⟨A9, hA9⟩ : ∃ A9, A9 = A2 := ⟨_, rfl⟩
               obtain ⟨n9, hn9⟩ : ∃ n9, n9 = n2 := ⟨_, rfl⟩
               obtain ⟨c9, hc9⟩ : ∃ c9, c9 = c2 := ⟨_, rfl⟩
               have J9 := JF
               rw [← hR9, ← hA9, ← hn9, ← hc9] at J9
               clear hR9 hA9 hn9 hc9)
            | (with_reducible refine at_load 29 (.tmp 11) (by rfl) ?_; refine wpList_load_bk rowR rfl (.tmp 11) rfl gb 0 rfl J9.out.bx (rvL R9 A9 n9 c9) rfl rfl ?_)
            | (go_at_call 14; refine (same_true J9.out.bm J9.out.rp _ most).mono ?_; rintro e w9 ⟨rfl, hb9⟩; have JZ := Lib.hid (J9.out.next hb9); clear hb9))
          go_roundw
          case rel => exact ⟨k + 1, _, _, _, _, _, by omega, by omega, by go_num, rfl, JZ.out⟩
          case measure => simp [intOf]; omega
      · have hd : k < n0 ∧ (60 : Int) ≤ k ∨ n0 ≤ k := by omega
        rcases hd with ⟨hlt, h60⟩ | hge
        · have hlt' : (k : Int) < n0 := by omega
          go_wp2
          go_ret
          exact ⟨rfl, JR.out.bel⟩
        · obtain rfl : k = n0 := by omega
          go_wp2
          go_ret
          exact ⟨rfl, JR.out.bel⟩
  · have hv' : size < 1 ∨ 256 < size ∨ base < 0 ∨ 1152921504606846976 < base := by omega
    go_enter Try.func3, Try.ntmps3
    go_wp2_with fail
    refine (b_newBad size base w hv').mono ?_
    rintro e w1 ⟨rfl, rfl⟩
    go_wp2_with fail
    refine (rnew_bad size base w hv').mono ?_
    rintro e w2 ⟨rfl, hb2⟩
    have hz := Bk.new w2 29 [.int .i64 0, .int .i64 0, .slice none 0 0]
    have HB := Lib.hid hb2
    clear hb2 hv hv'
    go_wp2_with (with_reducible refine at_store 29 (.tmp 11) (.tmp 35) (by rfl) ?_; refine wpList_store_bk rowR rfl (.tmp 11) (.tmp 35) rfl w2.heap.size 0 rfl hz [.int .i64 0, .int .i64 0, .slice none 0 0] rfl rfl (by decide) zR_one ?_; rintro w3 hz3 hw3)
    have HB3 := Lib.hid (HB.out.trans ((((Below.refl _ _).alloc (Nat.le_refl _) (.cells #[.int .i64 0, .int .i64 0, .slice none 0 0] 29)).trans (hw3.below (Nat.le_refl _) (by simp))).mono HB.out.size))
    clear hz hz3 hw3
    refine (awake_any w3).mono ?_
    rintro e w4 ⟨rfl, hb4⟩
    have HB4 := Lib.hid (HB3.out.trans (hb4.mono HB3.out.size))
    clear hb4
    go_wp2
    go_loopw [9, 13] (fun sp i wr => sp = .pointer none ∧ i = .int .i64 0 ∧ wr = w4) (fun _ _ _ => 0)
    case atStart => exact ⟨rfl, rfl, rfl⟩
    case round =>
      obtain ⟨rfl, rfl, rfl⟩ := hrel
      by_cases hn : n0 = 0
      · subst hn
        go_wp2
        go_ret
        exact ⟨rfl, HB4.out⟩
      · have hn' : (0 : Int) < n0 := by omega
        go_wp2
        go_ret
        exact ⟨rfl, HB4.out⟩
end Go.Proofs.Ytcffmghpgbkcdaa
