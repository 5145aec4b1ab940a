/- The law of any order. -/
import Derived.Test.YtcffmghpgbkcdaaB17
import Derived.Test.YtcffmghpgbkcdaaOpenV
set_option linter.unusedSimpArgs false
set_option linter.unusedVariables false
namespace Go.Proofs.Ytcffmghpgbkcdaa
open Go.RowKit Go.Shelf
theorem eltU8 : Elt Try.prog 46 5 (.int .u8 0) 1 := ⟨rfl, by kernel_rfl, rfl, rfl, by decide⟩
/-- Two bitmaps of the law's own. -/
structure JO (w : World) (p q : Nat) (A B : Bm) (W : World) : Prop where
  a : Bmp W p A
  b : Bmp W q B
  pq : p ≠ q
  pl : w.heap.size ≤ p
  ql : w.heap.size ≤ q
  bel : Below w.heap.size w W
section
variable {w W W' : World} {p q : Nat} {A A' B B' : Bm}
theorem JO.next (h : JO w p q A B W) (hb : Below W.heap.size W W') : JO w p q A B W' := ⟨h.a.below hb, h.b.below hb, h.pq, h.pl, h.ql, h.bel.trans (hb.mono h.bel.size)⟩
theorem JO.didA (h : JO w p q A B W) (hd : Bd p A' W W') : JO w p q A' B W' :=
  ⟨hd.bm, h.b.st hd.st (Ne.symm h.pq), h.pq, h.pl, h.ql, h.bel.trans (hd.st.below h.bel.size (fun k hk => by have := h.pl; omega))⟩
theorem JO.didB (h : JO w p q A B W) (hd : Bd q B' W W') : JO w p q A B' W' :=
  ⟨h.a.st hd.st h.pq, hd.bm, h.pq, h.pl, h.ql, h.bel.trans (hd.st.below h.bel.size (fun k hk => by have := h.ql; omega))⟩
end
theorem Bm.set_base (B : Bm) (x : Int) : (B.set x).base = B.base := by
  unfold Bm.set
  split <;> rfl
theorem bytes_at {w : World} {A : Option Addr} {n c : Nat} {xs : List Int} (h : Rd .u8 w A n c xs) (W : World) (hW : Below w.heap.size w W) (i : Nat) (hi : i < n) :
    ∃ (g o x : Nat), A = some ⟨g, o, none⟩ ∧ W.cell? ⟨g, o + i, none⟩ = some (.int .u8 x) ∧ x = (xs.map Int.toNat).getD i 0 ∧ x < 256 := by
  obtain ⟨g, o, e, hg, hc⟩ := h.cell hi
  have hil : i < xs.length := by rw [h.1]; exact hi
  have hx := u8_bounds (h.2.2.2.2.1 xs[i] (List.getElem_mem _))
  have e1 : xs.getD i 0 = xs[i] := by rw [List.getD_eq_getElem?_getD, List.getElem?_eq_getElem hil]; rfl
  have e2 : (xs.map Int.toNat).getD i 0 = xs[i].toNat := by rw [List.getD_eq_getElem?_getD, List.getElem?_map, List.getElem?_eq_getElem hil]; rfl
  refine ⟨g, o, xs[i].toNat, e, ?_, e2.symm, by omega⟩
  rw [show ((xs[i].toNat : Nat) : Int) = xs[i] from by omega, hW.cell (p := ⟨g, o + i, none⟩) hg, hc, e1]
set_option maxRecDepth 100000 in
set_option maxHeartbeats 16000000 in
theorem lawOrder (A0 : Option Addr) (n c : Nat) (xs : List Int) (t : Nat) (B0 : Option Addr) (nb cb : Nat) (bs : List Bool) (w : World) (h : Rd .u8 w A0 n c xs) (ht : t < 256) (hb : RdV w B0 nb cb (bs.map .bool)) :
    Calls Try.prog 4 #[.slice A0 n c, .int .u8 t, .slice B0 nb cb] w fun e w' => e = .returned (.bool true) ∧ Below w.heap.size w w' := by
  have hnc := h.2.1
  have hcm := h.2.2.1
  have hbc := hb.2.1
  have hbm := hb.2.2.1
  unfold maxLen at hcm hbm
  have HL := Lib.hid (bytes_at h)
  have HB := Lib.hid hb
  clear h hb
  go_enter Try.func4, Try.ntmps4
  go_wp2_with fail
  refine (b_new 256 0 w (by decide) (by decide) (by decide)).mono ?_
  rintro e w1 ⟨rfl, hm1, hb1⟩
  go_wp2_with fail
  refine (b_new 256 0 w1 (by decide) (by decide) (by decide)).mono ?_
  rintro e w2 ⟨rfl, hm2, hb2⟩
  have HJ2 : Hid (JO w w.heap.size w1.heap.size (Bm.new 256 0) (Bm.new 256 0) w2) := Lib.hid ⟨hm1.below hb2, hm2, by have := hm1.lt; omega, Nat.le_refl _, hb1.size, hb1.trans (hb2.mono hb1.size)⟩
  clear hm1 hb1 hm2 hb2
  go_wp2_with fail
  refine (awake_any w2).mono ?_
  rintro e w3 ⟨rfl, hb3⟩
  have HJ3 := Lib.hid (HJ2.out.next hb3)
  clear hb3 HJ2
  generalize w1.heap.size = q at *
  generalize hpw : w.heap.size = p at HJ3
  generalize hns : xs.map Int.toNat = ns at *
  by_cases hn : n ≤ 100
  · have hn' : ¬ (100 : Int) < n := by omega
    have HLm := HL
    have hm100' : (n : Int) ≤ 100 := by omega
    go_wp2
    go_loopw [11, 12] (fun ov iv wr => ∃ (i : Nat) (A : Bm), i ≤ n ∧ iv = .int .i64 i ∧ ov = .int .i64 (A.all true).length ∧ A.base = 0 ∧ Rep A (rotN ns n 0 i) ∧ JO w p q A (Bm.new 256 0) wr) (fun _ iv _ => n - (intOf iv).toNat)
    case atStart => exact ⟨0, Bm.new 256 0, Nat.zero_le _, rfl, rfl, rfl, Rep.new, HJ3.out⟩
    case round =>
      clear HJ3
      obtain ⟨i, A, him, rfl, rfl, hab, hrep, hJ⟩ := hrel
      have HJ := Lib.hid hJ
      have HR := Lib.hid hrep
      have HAB := Lib.hid hab
      have hlen : (A.all true).length ≤ 256 := Nat.le_trans (A.nums_len true _) hrep.ok.s2
      clear hJ hrep hab
      by_cases hlt : i < n
      · have hlt' : (i : Int) < (n : Int) := by omega
        obtain ⟨g, o, x, hA, hcell, hxe, hx⟩ := HLm.out _ HJ.out.bel i hlt
        obtain rfl : A0 = some ⟨g, o, none⟩ := hA
        have HX := Lib.hid hxe
        have kx : IntKind.i64.wrap (x : Int) = x := by rw [IntKind.wrap_i64]; omega
        have HF := Lib.hid (And.intro (HR.out.fresh hx) (HR.out.err hx))
        have HS := Lib.hid (HR.out.set hx)
        have HC := Lib.hid (HR.out.count hx)
        clear hxe
        by_cases hin : x ∈ rotN ns n 0 i
        · have HF1 : Hid (A.fresh (x : Int) = false) := Lib.hid (by rw [HF.out.1, decide_eq_true hin]; rfl)
          clear hin
          go_wp2_with fail
          refine (b_set HJ.out.a (x : Int)).mono ?_
          rintro e w4 ⟨rfl, hd⟩
          rw [HF1.out, HF.out.2]
          have HJ4 := Lib.hid (HJ.out.didA hd)
          clear hd
          go_wp2
          go_roundw
          case rel =>
            refine ⟨i + 1, A.set x, hlt, by go_num, ?_, by rw [Bm.set_base]; exact HAB.out, ?_, HJ4.out⟩
            · rw [HC.out, HF1.out]; rfl
            · have := HS.out
              rw [HX.out] at this ⊢
              rw [rotN, Nat.add_zero, Nat.mod_eq_of_lt hlt]
              exact this
          case measure => simp [intOf]; omega
        · have HF1 : Hid (A.fresh (x : Int) = true) := Lib.hid (by rw [HF.out.1, decide_eq_false hin]; rfl)
          clear hin
          go_wp2_with fail
          refine (b_set HJ.out.a (x : Int)).mono ?_
          rintro e w4 ⟨rfl, hd⟩
          rw [HF1.out, HF.out.2]
          have HJ4 := Lib.hid (HJ.out.didA hd)
          clear hd
          go_wp2
          go_roundw
          case rel =>
            refine ⟨i + 1, A.set x, hlt, by go_num, ?_, by rw [Bm.set_base]; exact HAB.out, ?_, HJ4.out⟩
            · rw [HC.out, HF1.out]; rfl
            · have := HS.out
              rw [HX.out] at this ⊢
              rw [rotN, Nat.add_zero, Nat.mod_eq_of_lt hlt]
              exact this
          case measure => simp [intOf]; omega
      · have HI := Lib.hid (show i = n by omega)
        have hge : (n : Int) ≤ (i : Int) := by omega
        have HR2 : Hid (Rep A (rotN ns n 0 n)) := Lib.hid (by have := HR.out; rw [HI.out] at this; exact this)
        clear him HR
        go_wp2
        go_loopw [15] (fun iv wr => ∃ (j : Nat) (B : Bm), j ≤ n ∧ iv = .int .i64 j ∧ Rep B (rotN ns n t j) ∧ JO w p q A B wr) (fun iv _ => n - (intOf iv).toNat)
        case atStart => exact ⟨0, Bm.new 256 0, Nat.zero_le _, rfl, Rep.new, HJ.out⟩
        case round =>
          clear HJ
          obtain ⟨j, B, hjm, rfl, hrep, hJ⟩ := hrel
          have HJ := Lib.hid hJ
          have HRB := Lib.hid hrep
          clear hJ hrep
          by_cases hlt : j < n
          · have hlt' : (j : Int) < (n : Int) := by omega
            have hjz : (j : Int) < 100 := by omega
            have hr : (j + t) % n < n := Nat.mod_lt _ (by omega)
            have kt : IntKind.i64.wrap (t : Int) = t := by rw [IntKind.wrap_i64]; omega
            have kj : IntKind.i64.wrap ((j : Int) + t) = (j : Int) + t := by rw [IntKind.wrap_i64]; omega
            have em : ((j : Int) + t).tmod (n : Int) = (((j + t) % n : Nat) : Int) := by
              rw [Int.tmod_eq_emod_of_nonneg (by omega)]; simp
            have hm0 : (n : Int) ≠ 0 := by omega
            have hm1 : (n : Int) ≠ -1 := by omega
            have HRT : Hid (rotN ns n t (j + 1) = ns.getD ((j + t) % n) 0 :: rotN ns n t j) := Lib.hid rfl
            generalize (j + t) % n = r at *
            have hr' : (r : Int) < (n : Int) := by omega
            have kr : IntKind.i64.wrap (r : Int) = r := by rw [IntKind.wrap_i64]; omega
            obtain ⟨g, o, x, hA, hcell, hxe, hx⟩ := HLm.out _ HJ.out.bel r hr
            obtain rfl : A0 = some ⟨g, o, none⟩ := hA
            have kx : IntKind.i64.wrap (x : Int) = x := by rw [IntKind.wrap_i64]; omega
            have HS : Hid (Rep (B.set (x : Int)) (rotN ns n t (j + 1))) := Lib.hid (by rw [HRT.out, ← hxe]; exact HRB.out.set hx)
            clear hxe
            go_wp2_with fail
            refine (b_set HJ.out.b (x : Int)).mono ?_
            rintro e w4 ⟨rfl, hd⟩
            have HJ4 := Lib.hid (HJ.out.didB hd)
            clear hd hcell kt kj em kr kx
            by_cases hjb : j < nb
            · have hjb' : (j : Int) < nb := by omega
              obtain ⟨gb, ob, rfl, hgb, hcb⟩ := HB.out.cell hjb
              have hjbs : j < bs.length := by have := HB.out.1; rw [List.length_map] at this; omega
              rw [List.getElem?_map, List.getElem?_eq_getElem hjbs, Option.map_some] at hcb
              have hcb := (HJ4.out.bel.cell (p := ⟨gb, ob + j, none⟩) hgb).trans hcb
              generalize bs[j] = bj at *
              cases bj
              · go_wp2
                go_roundw
                case rel => exact ⟨j + 1, B.set x, hlt, by go_num, HS.out, HJ4.out⟩
                case measure => simp [intOf]; omega
              · go_wp2_with (go_at_call 9; refine (b_advance HJ4.out.b).mono ?_; rintro e w5 ⟨k, hk, rfl, hd⟩; have HJ5 := Lib.hid (HJ4.out.didB hd); have HR5 := Lib.hid (HS.out.on hk); clear hd hk)
                go_roundw
                case rel => exact ⟨j + 1, _, hlt, by go_num, HR5.out, HJ5.out⟩
                case measure => simp [intOf]; omega
            · have hjb' : ¬ (j : Int) < nb := by omega
              go_wp2
              go_roundw
              case rel => exact ⟨j + 1, B.set x, hlt, by go_num, HS.out, HJ4.out⟩
              case measure => simp [intOf]; omega
          · have HIj := Lib.hid (show j = n by omega)
            have hgej : (n : Int) ≤ (j : Int) := by omega
            have HRB2 : Hid (Rep B (rotN ns n t n)) := Lib.hid (by have := HRB.out; rw [HIj.out] at this; exact this)
            clear hjm HRB
            go_wp2_with fail
            refine (b_count HJ.out.a).mono ?_
            rintro e w4 ⟨rfl, hb4⟩
            have HJ4 := Lib.hid (HJ.out.next hb4)
            clear hb4
            go_wp2_with fail
            refine (b_advance HJ4.out.a).mono ?_
            rintro e w5 ⟨k1, hk1, rfl, hd⟩
            have HJ5 := Lib.hid (HJ4.out.didA hd)
            have HK1 := Lib.hid hk1
            clear hd hk1
            go_wp2_with fail
            refine (b_advance HJ5.out.b).mono ?_
            rintro e w6 ⟨k2, hk2, rfl, hd⟩
            have HJ6 := HJ5.out.didB hd
            have HE := Rep.one (HR2.out.on HK1.out) (HRB2.out.on hk2) (fun x => (rot_all ns t x).symm) HK1.out.stop hk2.stop
            have HRZ := Lib.hid (HR2.out.on HK1.out)
            rw [← HE] at HJ6
            have HJZ := Lib.hid HJ6
            clear hd hk2 HE HJ6 HK1 HJ4 HJ5 HRB2 HJ
            generalize A.on k1 = Z at *
            go_wp2
            go_loopw [17] (fun iv wr => ∃ (j : Nat), j ≤ n ∧ iv = .int .i64 j ∧ JO w p q Z Z wr) (fun iv _ => n - (intOf iv).toNat)
            case atStart => exact ⟨0, Nat.zero_le _, rfl, HJZ.out⟩
            case round =>
              clear HJZ
              obtain ⟨j, hjm, rfl, hJ⟩ := hrel
              have HJ := Lib.hid hJ
              clear hJ
              by_cases hlt : j < n
              · have hlt' : (j : Int) < (n : Int) := by omega
                obtain ⟨g, o, x, hA, hcell, hxe, hx⟩ := HLm.out _ HJ.out.bel j hlt
                obtain rfl : A0 = some ⟨g, o, none⟩ := hA
                have kx : IntKind.i64.wrap (x : Int) = x := by rw [IntKind.wrap_i64]; omega
                have HF : Hid (Z.fresh (x : Int) = false ∧ Z.err (x : Int) = 0) := Lib.hid ⟨by
                  rw [HRZ.out.fresh hx, decide_eq_true ((rotN_mem ns _ _ x _).2 ⟨j, hlt, by rw [Nat.add_zero, Nat.mod_eq_of_lt hlt]; exact hxe⟩)]; rfl, HRZ.out.err hx⟩
                have HZ : Hid (Z.set (x : Int) = Z) := Lib.hid (by unfold Bm.set; rw [if_neg (by rw [HF.out.1]; simp)])
                clear hxe
                go_wp2_with fail
                refine (b_set HJ.out.b (x : Int)).mono ?_
                rintro e w7 ⟨rfl, hd⟩
                rw [HF.out.1, HF.out.2]
                rw [HZ.out] at hd
                have HJ7 := Lib.hid (HJ.out.didB hd)
                clear hd
                go_wp2
                go_roundw
                case rel => exact ⟨j + 1, hlt, by go_num, HJ7.out⟩
                case measure => simp [intOf]; omega
              · have hgek : (n : Int) ≤ (j : Int) := by omega
                clear hjm
                go_wp2_with fail
                refine (b_base HJ.out.a).mono ?_
                rintro e w8 ⟨rfl, rfl⟩
                go_wp2_with fail
                refine (b_base HJ.out.b).mono ?_
                rintro e w8 ⟨rfl, rfl⟩
                go_wp2_with fail
                refine (b_list HJ.out.a).mono ?_
                rintro e w8 ⟨A8, n8, c8, rfl, hl8, hb8⟩
                have HL8 := Lib.hid hl8.rdv
                have HJ8 := Lib.hid (HJ.out.next hb8)
                clear hl8 hb8
                go_wp2_with fail
                refine (b_list HJ8.out.b).mono ?_
                rintro e w9 ⟨A9, n9, c9, rfl, hl9, hb9⟩
                have HL9 := Lib.hid hl9.rdv
                have HL8' := Lib.hid (HL8.out.below hb9)
                have HJ9 := Lib.hid (HJ8.out.next hb9)
                clear hl9 hb9
                go_wp2_with fail
                refine (same_any A8 A9 n8 c8 n9 c9 (Z.all true) (Z.all true) _ HL8'.out HL9.out).mono ?_
                rintro e w10 ⟨rfl, hb10⟩
                rw [decide_eq_true (rfl : Z.all true = Z.all true)]
                have HJ10 := Lib.hid (HJ9.out.next hb10)
                clear hb10
                go_wp2
                go_ret
                exact ⟨rfl, HJ10.out.bel⟩
  · have hn' : (100 : Int) < n := by omega
    have hru := eltU8.run_pre A0 n c 100 (by omega) hnc
    have HLm : Hid (∀ (W : World), Below w.heap.size w W → ∀ i, i < 100 → ∃ (g o x : Nat), A0 = some ⟨g, o, none⟩ ∧ W.cell? ⟨g, o + i, none⟩ = some (.int .u8 x) ∧ x = ns.getD i 0 ∧ x < 256) := Lib.hid (fun W hW i hi => HL.out W hW i (by omega))
    go_wp2
    go_loopw [11, 12] (fun ov iv wr => ∃ (i : Nat) (A : Bm), i ≤ 100 ∧ iv = .int .i64 i ∧ ov = .int .i64 (A.all true).length ∧ A.base = 0 ∧ Rep A (rotN ns 100 0 i) ∧ JO w p q A (Bm.new 256 0) wr) (fun _ iv _ => 100 - (intOf iv).toNat)
    case atStart => exact ⟨0, Bm.new 256 0, Nat.zero_le _, rfl, rfl, rfl, Rep.new, HJ3.out⟩
    case round =>
      clear HJ3
      obtain ⟨i, A, him, rfl, rfl, hab, hrep, hJ⟩ := hrel
      have HJ := Lib.hid hJ
      have HR := Lib.hid hrep
      have HAB := Lib.hid hab
      have hlen : (A.all true).length ≤ 256 := Nat.le_trans (A.nums_len true _) hrep.ok.s2
      clear hJ hrep hab
      by_cases hlt : i < 100
      · have hlt' : (i : Int) < (100 : Int) := by omega
        obtain ⟨g, o, x, hA, hcell, hxe, hx⟩ := HLm.out _ HJ.out.bel i hlt
        obtain rfl : A0 = some ⟨g, o, none⟩ := hA
        have HX := Lib.hid hxe
        have kx : IntKind.i64.wrap (x : Int) = x := by rw [IntKind.wrap_i64]; omega
        have HF := Lib.hid (And.intro (HR.out.fresh hx) (HR.out.err hx))
        have HS := Lib.hid (HR.out.set hx)
        have HC := Lib.hid (HR.out.count hx)
        clear hxe
        by_cases hin : x ∈ rotN ns 100 0 i
        · have HF1 : Hid (A.fresh (x : Int) = false) := Lib.hid (by rw [HF.out.1, decide_eq_true hin]; rfl)
          clear hin
          go_wp2_with fail
          refine (b_set HJ.out.a (x : Int)).mono ?_
          rintro e w4 ⟨rfl, hd⟩
          rw [HF1.out, HF.out.2]
          have HJ4 := Lib.hid (HJ.out.didA hd)
          clear hd
          go_wp2
          go_roundw
          case rel =>
            refine ⟨i + 1, A.set x, hlt, by go_num, ?_, by rw [Bm.set_base]; exact HAB.out, ?_, HJ4.out⟩
            · rw [HC.out, HF1.out]; rfl
            · have := HS.out
              rw [HX.out] at this ⊢
              rw [rotN, Nat.add_zero, Nat.mod_eq_of_lt hlt]
              exact this
          case measure => simp [intOf]; omega
        · have HF1 : Hid (A.fresh (x : Int) = true) := Lib.hid (by rw [HF.out.1, decide_eq_false hin]; rfl)
          clear hin
          go_wp2_with fail
          refine (b_set HJ.out.a (x : Int)).mono ?_
          rintro e w4 ⟨rfl, hd⟩
          rw [HF1.out, HF.out.2]
          have HJ4 := Lib.hid (HJ.out.didA hd)
          clear hd
          go_wp2
          go_roundw
          case rel =>
            refine ⟨i + 1, A.set x, hlt, by go_num, ?_, by rw [Bm.set_base]; exact HAB.out, ?_, HJ4.out⟩
            · rw [HC.out, HF1.out]; rfl
            · have := HS.out
              rw [HX.out] at this ⊢
              rw [rotN, Nat.add_zero, Nat.mod_eq_of_lt hlt]
              exact this
          case measure => simp [intOf]; omega
      · have HI := Lib.hid (show i = 100 by omega)
        have hge : (100 : Int) ≤ (i : Int) := by omega
        have HR2 : Hid (Rep A (rotN ns 100 0 100)) := Lib.hid (by have := HR.out; rw [HI.out] at this; exact this)
        clear him HR
        go_wp2
        go_loopw [15] (fun iv wr => ∃ (j : Nat) (B : Bm), j ≤ 100 ∧ iv = .int .i64 j ∧ Rep B (rotN ns 100 t j) ∧ JO w p q A B wr) (fun iv _ => 100 - (intOf iv).toNat)
        case atStart => exact ⟨0, Bm.new 256 0, Nat.zero_le _, rfl, Rep.new, HJ.out⟩
        case round =>
          clear HJ
          obtain ⟨j, B, hjm, rfl, hrep, hJ⟩ := hrel
          have HJ := Lib.hid hJ
          have HRB := Lib.hid hrep
          clear hJ hrep
          by_cases hlt : j < 100
          · have hlt' : (j : Int) < (100 : Int) := by omega
            have hjz : (j : Int) < 100 := by omega
            have hr : (j + t) % 100 < 100 := Nat.mod_lt _ (by omega)
            have kt : IntKind.i64.wrap (t : Int) = t := by rw [IntKind.wrap_i64]; omega
            have kj : IntKind.i64.wrap ((j : Int) + t) = (j : Int) + t := by rw [IntKind.wrap_i64]; omega
            have em : ((j : Int) + t).tmod (100 : Int) = (((j + t) % 100 : Nat) : Int) := by
              rw [Int.tmod_eq_emod_of_nonneg (by omega)]; simp
            have hm0 : (100 : Int) ≠ 0 := by omega
            have hm1 : (100 : Int) ≠ -1 := by omega
            have HRT : Hid (rotN ns 100 t (j + 1) = ns.getD ((j + t) % 100) 0 :: rotN ns 100 t j) := Lib.hid rfl
            generalize (j + t) % 100 = r at *
            have hr' : (r : Int) < (100 : Int) := by omega
            have kr : IntKind.i64.wrap (r : Int) = r := by rw [IntKind.wrap_i64]; omega
            obtain ⟨g, o, x, hA, hcell, hxe, hx⟩ := HLm.out _ HJ.out.bel r hr
            obtain rfl : A0 = some ⟨g, o, none⟩ := hA
            have kx : IntKind.i64.wrap (x : Int) = x := by rw [IntKind.wrap_i64]; omega
            have HS : Hid (Rep (B.set (x : Int)) (rotN ns 100 t (j + 1))) := Lib.hid (by rw [HRT.out, ← hxe]; exact HRB.out.set hx)
            clear hxe
            go_wp2_with fail
            refine (b_set HJ.out.b (x : Int)).mono ?_
            rintro e w4 ⟨rfl, hd⟩
            have HJ4 := Lib.hid (HJ.out.didB hd)
            clear hd hcell kt kj em kr kx
            by_cases hjb : j < nb
            · have hjb' : (j : Int) < nb := by omega
              obtain ⟨gb, ob, rfl, hgb, hcb⟩ := HB.out.cell hjb
              have hjbs : j < bs.length := by have := HB.out.1; rw [List.length_map] at this; omega
              rw [List.getElem?_map, List.getElem?_eq_getElem hjbs, Option.map_some] at hcb
              have hcb := (HJ4.out.bel.cell (p := ⟨gb, ob + j, none⟩) hgb).trans hcb
              generalize bs[j] = bj at *
              cases bj
              · go_wp2
                go_roundw
                case rel => exact ⟨j + 1, B.set x, hlt, by go_num, HS.out, HJ4.out⟩
                case measure => simp [intOf]; omega
              · go_wp2_with (go_at_call 9; refine (b_advance HJ4.out.b).mono ?_; rintro e w5 ⟨k, hk, rfl, hd⟩; have HJ5 := Lib.hid (HJ4.out.didB hd); have HR5 := Lib.hid (HS.out.on hk); clear hd hk)
                go_roundw
                case rel => exact ⟨j + 1, _, hlt, by go_num, HR5.out, HJ5.out⟩
                case measure => simp [intOf]; omega
            · have hjb' : ¬ (j : Int) < nb := by omega
              go_wp2
              go_roundw
              case rel => exact ⟨j + 1, B.set x, hlt, by go_num, HS.out, HJ4.out⟩
              case measure => simp [intOf]; omega
          · have HIj := Lib.hid (show j = 100 by omega)
            have hgej : (100 : Int) ≤ (j : Int) := by omega
            have HRB2 : Hid (Rep B (rotN ns 100 t 100)) := Lib.hid (by have := HRB.out; rw [HIj.out] at this; exact this)
            clear hjm HRB
            go_wp2_with fail
            refine (b_count HJ.out.a).mono ?_
            rintro e w4 ⟨rfl, hb4⟩
            have HJ4 := Lib.hid (HJ.out.next hb4)
            clear hb4
            go_wp2_with fail
            refine (b_advance HJ4.out.a).mono ?_
            rintro e w5 ⟨k1, hk1, rfl, hd⟩
            have HJ5 := Lib.hid (HJ4.out.didA hd)
            have HK1 := Lib.hid hk1
            clear hd hk1
            go_wp2_with fail
            refine (b_advance HJ5.out.b).mono ?_
            rintro e w6 ⟨k2, hk2, rfl, hd⟩
            have HJ6 := HJ5.out.didB hd
            have HE := Rep.one (HR2.out.on HK1.out) (HRB2.out.on hk2) (fun x => (rot_all ns t x).symm) HK1.out.stop hk2.stop
            have HRZ := Lib.hid (HR2.out.on HK1.out)
            rw [← HE] at HJ6
            have HJZ := Lib.hid HJ6
            clear hd hk2 HE HJ6 HK1 HJ4 HJ5 HRB2 HJ
            generalize A.on k1 = Z at *
            go_wp2
            go_loopw [17] (fun iv wr => ∃ (j : Nat), j ≤ 100 ∧ iv = .int .i64 j ∧ JO w p q Z Z wr) (fun iv _ => 100 - (intOf iv).toNat)
            case atStart => exact ⟨0, Nat.zero_le _, rfl, HJZ.out⟩
            case round =>
              clear HJZ
              obtain ⟨j, hjm, rfl, hJ⟩ := hrel
              have HJ := Lib.hid hJ
              clear hJ
              by_cases hlt : j < 100
              · have hlt' : (j : Int) < (100 : Int) := by omega
                obtain ⟨g, o, x, hA, hcell, hxe, hx⟩ := HLm.out _ HJ.out.bel j hlt
                obtain rfl : A0 = some ⟨g, o, none⟩ := hA
                have kx : IntKind.i64.wrap (x : Int) = x := by rw [IntKind.wrap_i64]; omega
                have HF : Hid (Z.fresh (x : Int) = false ∧ Z.err (x : Int) = 0) := Lib.hid ⟨by
                  rw [HRZ.out.fresh hx, decide_eq_true ((rotN_mem ns _ _ x _).2 ⟨j, hlt, by rw [Nat.add_zero, Nat.mod_eq_of_lt hlt]; exact hxe⟩)]; rfl, HRZ.out.err hx⟩
                have HZ : Hid (Z.set (x : Int) = Z) := Lib.hid (by unfold Bm.set; rw [if_neg (by rw [HF.out.1]; simp)])
                clear hxe
                go_wp2_with fail
                refine (b_set HJ.out.b (x : Int)).mono ?_
                rintro e w7 ⟨rfl, hd⟩
                rw [HF.out.1, HF.out.2]
                rw [HZ.out] at hd
                have HJ7 := Lib.hid (HJ.out.didB hd)
                clear hd
                go_wp2
                go_roundw
                case rel => exact ⟨j + 1, hlt, by go_num, HJ7.out⟩
                case measure => simp [intOf]; omega
              · have hgek : (100 : Int) ≤ (j : Int) := by omega
                clear hjm
                go_wp2_with fail
                refine (b_base HJ.out.a).mono ?_
                rintro e w8 ⟨rfl, rfl⟩
                go_wp2_with fail
                refine (b_base HJ.out.b).mono ?_
                rintro e w8 ⟨rfl, rfl⟩
                go_wp2_with fail
                refine (b_list HJ.out.a).mono ?_
                rintro e w8 ⟨A8, n8, c8, rfl, hl8, hb8⟩
                have HL8 := Lib.hid hl8.rdv
                have HJ8 := Lib.hid (HJ.out.next hb8)
                clear hl8 hb8
                go_wp2_with fail
                refine (b_list HJ8.out.b).mono ?_
                rintro e w9 ⟨A9, n9, c9, rfl, hl9, hb9⟩
                have HL9 := Lib.hid hl9.rdv
                have HL8' := Lib.hid (HL8.out.below hb9)
                have HJ9 := Lib.hid (HJ8.out.next hb9)
                clear hl9 hb9
                go_wp2_with fail
                refine (same_any A8 A9 n8 c8 n9 c9 (Z.all true) (Z.all true) _ HL8'.out HL9.out).mono ?_
                rintro e w10 ⟨rfl, hb10⟩
                rw [decide_eq_true (rfl : Z.all true = Z.all true)]
                have HJ10 := Lib.hid (HJ9.out.next hb10)
                clear hb10
                go_wp2
                go_ret
                exact ⟨rfl, HJ10.out.bel⟩
theorem lawOrderI (A0 : Option Addr) (n c : Nat) (xs : List Int) (t : Int) (B0 : Option Addr) (nb cb : Nat) (bs : List Bool) (w : World) (h : Rd .u8 w A0 n c xs) (ht : (Lit.int .u8 t).wf = true) (hb : RdV w B0 nb cb (bs.map .bool)) :
    Calls Try.prog 4 #[.slice A0 n c, .int .u8 t, .slice B0 nb cb] w fun e w' => e = .returned (.bool true) ∧ Below w.heap.size w w' := by
  have h1 := u8_bounds ht
  have := lawOrder A0 n c xs t.toNat B0 nb cb bs w h (by omega) hb
  rwa [show ((t.toNat : Nat) : Int) = t from by omega] at this
end Go.Proofs.Ytcffmghpgbkcdaa
