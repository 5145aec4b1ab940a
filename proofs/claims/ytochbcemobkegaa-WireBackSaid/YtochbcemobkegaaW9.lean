/- Encode, by the program. -/
import Derived.Test.YtochbcemobkegaaW8
import Derived.Test.YtochbcemobkegaaA6
set_option linter.unusedSimpArgs false
set_option linter.unusedVariables false
namespace Go.Proofs.Ytochbcemobkegaa
open Go.RowKit Go.Shelf

/-- A packet's bytes. -/
def encL (h : Hd) (xs : List Int) : List Int := hdL h xs.length ++ enc 4 (onV 1 (hdL h xs.length ++ xs)) ++ xs
theorem chk_R {h : Hd} {n : Int} (hc : chkB h n = true) : (1 ≤ h.kd ∧ h.kd ≤ 4) ∧ (0 ≤ h.fl ∧ h.fl ≤ 63) ∧ (0 ≤ h.pa ∧ h.pa ≤ 7) ∧ (0 ≤ h.sr ∧ h.sr ≤ 7) ∧ (0 ≤ h.ds ∧ h.ds ≤ 7) ∧ (1 ≤ h.cn ∧ h.cn ≤ 1073741824) ∧ (0 ≤ h.sq ∧ h.sq ≤ 1152921504606846976) ∧ (0 ≤ h.pu ∧ h.pu ≤ 1152921504606846976) ∧ (n = 0 ∨ 1 ≤ n ∧ n ≤ 1024) := by
  unfold chkB plB nmB kdB dtB brB witB at hc
  simp only [Bool.and_eq_true, decide_eq_true_eq] at hc
  obtain ⟨⟨⟨⟨⟨h1, h2⟩, h3⟩, -⟩, ⟨h4, h5⟩, h6⟩, h7⟩ := hc
  split at h7
  · rename_i hk
    simp only [Bool.and_eq_true, decide_eq_true_eq, beq_iff_eq] at h7 hk
    obtain ⟨-, ⟨h8, -⟩, h9⟩ := h7
    refine ⟨by omega, h8, h1, h2, h3, h4, h5, h6, ?_⟩
    split at h9
    · simp at h9; omega
    · split at h9
      · simp at h9; omega
      · simp at h9; omega
  · split at h7
    · rename_i hk
      simp at h7 hk
      exact ⟨by omega, by omega, h1, h2, h3, h4, h5, h6, by omega⟩
    · split at h7
      · rename_i hk
        simp at h7 hk
        exact ⟨by omega, by omega, h1, h2, h3, h4, h5, h6, by omega⟩
      · simp at h7
theorem chk_HdR {h : Hd} {n : Int} (hc : chkB h n = true) : HdR h := by
  have := chk_R hc
  unfold HdR InR
  omega
theorem hdL_len (h : Hd) (n : Int) : (hdL h n).length = 32 := by simp [hdL, preL, flds, enc_length]
theorem hdL_ok (h : Hd) (n : Int) : ∀ x ∈ hdL h n, (Lit.int .u8 x).wf = true := preL_ok h n 10
theorem app_wf {l m : List Int} (h : ∀ x ∈ l, (Lit.int .u8 x).wf = true) (k : ∀ x ∈ m, (Lit.int .u8 x).wf = true) : ∀ x ∈ l ++ m, (Lit.int .u8 x).wf = true := fun x hx => by
  rcases List.mem_append.1 hx with hx | hx
  · exact h x hx
  · exact k x hx
theorem encL_ok (h : Hd) (xs : List Int) (hx : ∀ x ∈ xs, (Lit.int .u8 x).wf = true) : ∀ x ∈ encL h xs, (Lit.int .u8 x).wf = true := app_wf (app_wf (hdL_ok h _) (enc_wf _ _)) hx
theorem encL_len (h : Hd) (xs : List Int) : (encL h xs).length = 36 + xs.length := by simp [encL, hdL_len, enc_length]; omega
set_option maxHeartbeats 4000000 in
theorem encode_no (kd fl pa sr ds cn sq pu : Int) (A : Option Addr) (n c : Nat) (w : World) (hf : fl ≤ 9223372036854775807) (hb : chkB ⟨kd, fl, pa, sr, ds, cn, sq, pu⟩ n = false) :
    Calls Try.prog 8 #[.agg #[.int .i64 kd, .int .i64 fl, .int .i64 pa, .int .i64 sr, .int .i64 ds, .int .i64 cn, .int .i64 sq, .int .i64 pu, .slice A n c]] w fun e w' => e = .returned (.tuple #[.slice none 0 0, .int .i64 30]) ∧ Below w.heap.size w w' := by
  have HI := Lib.hid (fun w => check_any kd fl pa sr ds cn sq pu A n c w hf)
  rw [hb] at HI
  clear hb
  go_enter Try.func8, Try.ntmps8
  go_wp2_with fail
  refine (HI.out _).mono ?_
  rintro e w1 ⟨rfl, hb1⟩
  obtain ⟨hx, hc⟩ := pk_new hb1
  clear hb1
  rw [errV_f]
  go_wp2
  go_ret2
  exact ⟨rfl, hc⟩
set_option maxHeartbeats 4000000 in
theorem encode_yes (kd fl pa sr ds cn sq pu : Int) (A : Option Addr) (n c : Nat) (xs : List Int) (w : World) (h : Rd .u8 w A n c xs) (hb : chkB ⟨kd, fl, pa, sr, ds, cn, sq, pu⟩ n = true) :
    Calls Try.prog 8 #[.agg #[.int .i64 kd, .int .i64 fl, .int .i64 pa, .int .i64 sr, .int .i64 ds, .int .i64 cn, .int .i64 sq, .int .i64 pu, .slice A n c]] w fun e w' => ∃ v, e = .returned (.tuple #[v, .int .i64 0]) ∧ Ow .u8 5 w.heap.size w' v (encL ⟨kd, fl, pa, sr, ds, cn, sq, pu⟩ xs) ∧ Below w.heap.size w w' := by
  have hR := chk_R hb
  have HR := Lib.hid (chk_HdR hb)
  have hf : fl ≤ 9223372036854775807 := by have := hR.2.1.2; dsimp only at this; omega
  have hn : n ≤ 1024 := by have := hR.2.2.2.2.2.2.2.2; omega
  have HI := Lib.hid (fun w => check_any kd fl pa sr ds cn sq pu A n c w hf)
  rw [hb] at HI
  have HE : Hid (encL ⟨kd, fl, pa, sr, ds, cn, sq, pu⟩ xs = hdL ⟨kd, fl, pa, sr, ds, cn, sq, pu⟩ n ++ enc 4 (onV 1 (hdL ⟨kd, fl, pa, sr, ds, cn, sq, pu⟩ n ++ xs)) ++ xs) := Lib.hid (by unfold encL; rw [h.1])
  clear hb hR
  go_enter Try.func8, Try.ntmps8
  go_wp2_with fail
  refine (HI.out _).mono ?_
  rintro e w1 ⟨rfl, hb1⟩
  obtain ⟨hx, hc⟩ := pk_new hb1
  have h1 := h.below hc
  clear hb1
  rw [errV_t]
  obtain ⟨c0, c1, c2, c3, c4, c5, c6, c7, c8⟩ := hx.cells9
  go_wp2_with fail
  refine (head_any _ _ _ _ _ _ _ _ A n c _ HR.out (by omega)).mono ?_
  rintro e w2 ⟨v, rfl, hown, hb2⟩
  have hl := hdL_len ⟨kd, fl, pa, sr, ds, cn, sq, pu⟩ n
  have HK := Lib.hid (hdL_ok ⟨kd, fl, pa, sr, ds, cn, sq, pu⟩ n)
  generalize hdL ⟨kd, fl, pa, sr, ds, cn, sq, pu⟩ n = hd at *
  obtain ⟨B, d, rfl, hr⟩ := hown.rd HK.out
  rw [hl] at hr ⊢
  have hx2 := hx.below hb2
  have h2 := h1.below hb2
  have hc2 := below_on hc hb2
  clear hb2 hx c0 c1 c2 c3 c4 c5 c6 c7 c8 hc h1
  have HL := Lib.hid hl
  have HO := Lib.hid hown
  clear hl hown
  obtain ⟨c0, c1, c2, c3, c4, c5, c6, c7, c8⟩ := hx2.cells9
  have HP := Lib.hid (Pts.two hr h2 rfl (by omega) (by omega))
  go_wp2_with fail
  refine (adler_any _ 2 2 _ _ HP.out).mono ?_
  rintro e w3 ⟨rfl, hb3⟩
  rw [cat_two]
  obtain ⟨hs0, hs1⟩ := onV_bd 1 (hd ++ xs)
  have HX := Lib.hid (show ∀ x ∈ xs, (Lit.int .u8 x).wf = true from h2.2.2.2.2.1)
  have hx3 := (hx2.alloc _).below hb3
  have h3 := (h2.alloc _).below hb3
  have hr3 := (hr.alloc _).below hb3
  have hc3 := (hc2.alloc hc2.size _).trans (hb3.mono (by have := hc2.size; simp; omega))
  clear hx2 h2 hr hc2 hb3 c0 c1 c2 c3 c4 c5 c6 c7 c8 HP
  generalize onV 1 (hd ++ xs) = sm at *
  obtain ⟨c0, c1, c2, c3, c4, c5, c6, c7, c8⟩ := hx3.cells9
  go_wp2_with fail
  refine (put_yes _ _ _ hd 4 sm _ (by exact hr3) (by omega) (by omega) (by omega)).mono ?_
  rintro e w4 ⟨v, rfl, hown4, hb4⟩
  have hx4 := hx3.below hb4
  have h4 := h3.below hb4
  have hc4 := below_on hc3 hb4
  have hown5 := hown4.mono hc3.size
  clear hx3 h3 hr3 hown4 hb4 c0 c1 c2 c3 c4 c5 c6 c7 c8 hc3
  obtain ⟨c0, c1, c2, c3, c4, c5, c6, c7, c8⟩ := hx4.cells9
  go_wp2_with (at_builtin
               refine wpList_append_ints bytesT rfl (.tmp 21) (.tmp 23) rfl rfl (w0 := w) hown5 rfl (by exact h4) (by have := HL.out; simp [enc_length]; omega) (by omega) hc4 ?_
               intro v8 w8 hown8 hb8)
  go_ret2
  exact ⟨_, rfl, by rw [HE.out]; exact hown8, hb8⟩
end Go.Proofs.Ytochbcemobkegaa
