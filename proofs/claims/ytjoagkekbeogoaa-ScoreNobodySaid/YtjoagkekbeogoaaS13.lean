/- The page's example; a score and the reference's side by side. -/
import Derived.Test.YtjoagkekbeogoaaS12
import Derived.Test.YtjoagkekbeogoaaOpenV
set_option linter.unusedSimpArgs false
set_option linter.unusedVariables false
namespace Go.Proofs.Ytjoagkekbeogoaa
open Go.RowKit Go.Shelf

def nkS : Nat → Sc
  | 0 => Sc.new 2 9
  | k + 1 => (nkS k).did 0 1
theorem nkS_ok : ∀ k : Nat, (nkS k).ok k
  | 0 => Sc.new_ok (by omega) (by omega) (by omega) (by omega)
  | k + 1 => by
    have := (nkS_ok k).did 0 1
    rw [show ((k + 1 : Nat) : Int) = (k : Int) + 1 from by omega]
    exact this
theorem did_n (S : Sc) (x : Int) (k : Nat) : (S.did x k).n = S.n := by
  unfold Sc.did Sc.blame
  split
  · split
    · rfl
    · split <;> rfl
  · rfl
theorem nkS_n : ∀ k, (nkS k).n = 2
  | 0 => rfl
  | k + 1 => (did_n _ _ _).trans (nkS_n k)
theorem err_in {S : Sc} {x : Int} (h : 0 ≤ x ∧ x < S.n) : S.err x = 0 := by simp [Sc.err, Sc.has, h]
theorem nkS_act : (nkS 5).act = [1] := by decide +kernel
theorem nkS_rests : (nkS 5).restsAt 0 = 9 := by decide +kernel
theorem nkS_err : (nkS 5).err 2 = 5 := by decide +kernel
set_option maxHeartbeats 1000000 in
theorem awake_any (w : World) : Calls Try.prog 8 #[] w fun e w' => e = .returned (.bool true) ∧ Below w.heap.size w w' := by
  go_enter Try.func8, Try.ntmps8
  go_wp2_with fail
  refine (sm_new 2 9 w (by omega) (by omega) (by omega) (by omega)).mono ?_
  rintro e w1 ⟨rfl, hs1, hb1⟩
  have hs1' : Sm w1 w.heap.size (nkS 0) := hs1
  clear hs1
  go_wp2
  go_loopw [3] (fun i wr => ∃ k : Nat, k ≤ 5 ∧ i = .int .i64 k ∧ Sm wr w.heap.size (nkS k) ∧ Below w.heap.size w wr) (fun i _ => 5 - (intOf i).toNat)
  case atStart => exact ⟨0, by omega, rfl, hs1', hb1⟩
  case round =>
    obtain ⟨k, hk, rfl, hs, hb⟩ := hrel
    by_cases hk5 : k < 5
    · have HE := Lib.hid (err_in (S := nkS k) (x := 0) (by rw [nkS_n]; omega))
      have HN := Lib.hid (sm_nack hs (nkS_ok k) (by omega) 0)
      have HB := Lib.hid hb
      clear hs hs1' hb1 hb
      go_wp2_with fail
      refine HN.out.mono ?_
      rintro e w2 ⟨rfl, hd⟩
      rw [HE.out]
      have HD := Lib.hid hd
      clear hd HN
      go_wp2
      go_roundw
      case rel => exact ⟨k + 1, by omega, by go_num, HD.out.sm, HB.out.trans (HD.out.st.below HB.out.size (fun j hj => by omega))⟩
      case measure => simp [intOf]; omega
    · obtain rfl : k = 5 := by omega
      have HB := Lib.hid hb
      clear hs1' hb1 hb
      go_wp2_with fail
      refine (sm_active hs (nkS_ok 5)).mono ?_
      rintro e w2 ⟨A, n, c, rfl, hl, hb2⟩
      have hs2 := Bk.below hs hb2
      have hl2 := hl.alloc (.cells #[.int .i64 1] 3)
      have hu := RdV.one w2 3 (.int .i64 1) rfl
      have hs3 := Bk.alloc hs2 (.cells #[.int .i64 1] 3)
      rw [nkS_act] at hl2
      have HU : Hid (RdV (w2.alloc (.cells #[.int .i64 1] 3)) (some ⟨w2.heap.size, 0, none⟩) 1 1 (intV [1])) := Lib.hid hu
      have HL := Lib.hid hl2
      have HS := Lib.hid hs3
      have HB2 := Lib.hid (HB.out.trans ((hb2.trans ((Below.refl _ _).alloc hb2.size (.cells #[.int .i64 1] 3))).mono HB.out.size))
      clear hl hl2 hu hs3 hs2 hb2 hs
      go_wp2_with fail
      refine (same_any A (some ⟨w2.heap.size, 0, none⟩) n c 1 1 [1] [1] _ HL.out.rdv HU.out).mono ?_
      rintro e w3 ⟨rfl, hb3⟩
      rw [decide_eq_true (rfl : ([1] : List Int) = [1])]
      have HS3 := Lib.hid (Bk.below HS.out hb3)
      have HB3 := Lib.hid (HB2.out.trans (hb3.mono HB2.out.size))
      clear hb3
      go_wp2_with fail
      refine (sm_rests HS3.out (nkS_ok 5) 0).mono ?_
      rintro e w4 ⟨rfl, rfl⟩
      rw [nkS_rests]
      go_wp2_with fail
      refine (sm_ack HS3.out (nkS_ok 5) (by omega) 2).mono ?_
      rintro e w5 ⟨rfl, hd⟩
      rw [nkS_err]
      have HB5 := Lib.hid (HB3.out.trans (hd.st.below HB3.out.size (fun j hj => by omega)))
      clear hd
      go_wp2
      go_ret
      exact ⟨rfl, HB5.out⟩
/-- A score, and the reference's, which lies in box gb, side by side. -/
structure JS (w : World) (gb p g c : Nat) (S R : Sc) (W : World) : Prop where
  sm : Sm W p S
  rp : Rp W g R
  bx : Bk W 29 gb (rvL R g c)
  pg : p ≠ g
  pb : p ≠ gb
  gg : g ≠ gb
  pl : w.heap.size ≤ p
  gl : w.heap.size ≤ gb
  bel : Below w.heap.size w W
section
variable {w W W' W'' : World} {gb p g c p' g' c' : Nat} {S S' R R' : Sc}
theorem JS.next (h : JS w gb p g c S R W) (hb : Below W.heap.size W W') : JS w gb p g c S R W' :=
  ⟨Bk.below h.sm hb, h.rp.below hb, h.bx.below hb, h.pg, h.pb, h.gg, h.pl, h.gl, h.bel.trans (hb.mono h.bel.size)⟩
theorem JS.did (h : JS w gb p g c S R W) (hd : Ds p S' W W') : JS w gb p g c S' R W' :=
  ⟨hd.sm, h.rp.st hd.st (Ne.symm h.pg), h.bx.st hd.st (Ne.symm h.pb), h.pg, h.pb, h.gg, h.pl, h.gl, h.bel.trans (hd.st.below h.bel.size (fun k hk => by have := h.pl; omega))⟩
/-- The reference's answer goes into the box. -/
theorem JS.ref (h : JS w gb p g c S R W) (hr : Rp W g' R') (hg : g' ≠ gb ∧ g' ≠ p) (hk : Bk W' 29 gb (rvL R' g' c')) (hw : Wr gb W W') : JS w gb p g' c' S R' W' := by
  have hst : St (· = gb) W W' := ⟨hw.os, hw.tape, hw.output, hw.size, fun j hj hn => hw.block j hj (by intro e; injection e with e; exact hn e)⟩
  exact ⟨Bk.st h.sm hst h.pb, hr.st hst hg.1, hk, Ne.symm hg.2, h.pb, hg.1, h.pl, h.gl, h.bel.trans (hw.below h.gl h.bel.size)⟩
theorem JS.new (h : JS w gb p g c S R W) (hg : W.heap.size ≤ g') : g' ≠ gb ∧ g' ≠ p := by
  have h1 := h.bx.lt
  have h2 := Bk.lt h.sm
  omega
theorem JS.new' (h : JS w gb p g c S R W) (hg : g' = g ∨ W.heap.size ≤ g') : g' ≠ gb ∧ g' ≠ p := by
  rcases hg with rfl | hg
  · exact ⟨h.gg, Ne.symm h.pg⟩
  · exact h.new hg
/-- A fork goes on, and the elder score is turned. -/
theorem JS.fork (h : JS w gb p g c S R W) (hp : Sm W' W.heap.size S) (hb : Below W.heap.size W W') (hd : Ds p S' W' W'') : JS w gb W.heap.size g c S R W'' := by
  have h1 := (h.next hb).did hd
  have h2 := Bk.lt h.sm
  have h3 := h.bx.lt
  have h4 := h.rp.lt
  have h5 := h.bel.size
  exact ⟨Bk.st hp hd.st (by omega), h1.rp, h1.bx, by omega, by omega, h.gg, h5, h.gl, h1.bel⟩
end
abbrev OpT : Ty := .one (.int .u8) (.one (.int .i64) .unit)
/-- The k-th call, as it lies in memory. -/
theorem op_at {w : World} {s : Sl OpT.den} (h : (Ty.sl OpT).reads w s) (k : Nat) (hk : k < s.n) : ∃ (g o dv : Nat) (x : Int), s.A = some ⟨g, o, none⟩ ∧ g < w.heap.size ∧
    w.cell? ⟨g, o + k * 2, none⟩ = some (.int .u8 dv) ∧ w.cell? ⟨g, o + k * 2 + 1, none⟩ = some (.int .i64 x) ∧ dv < 256 ∧ (Lit.int .i64 x).wf = true := by
  obtain ⟨h1, h2, h3, h4, h5, h6⟩ := h
  have h1' : s.l.length = s.n := h1
  have hkl : k < s.l.length := by omega
  obtain ⟨g, o, hA, hg, hx⟩ := h5 (by omega) (show 0 < 2 from by omega)
  obtain ⟨dv, x, u, hv⟩ : ∃ (dv x : Int) (u : Unit), (show OpT.den from (dv, x, u)) = s.l[k] := ⟨(s.l[k] : OpT.den).1, (s.l[k] : OpT.den).2.1, (s.l[k] : OpT.den).2.2, rfl⟩
  have hr : OpT.reads w s.l[k] := h6 _ (List.getElem_mem _)
  rw [← hv] at hr
  obtain ⟨r1, r2, _⟩ := hr
  have hb : 0 ≤ dv ∧ dv < 256 := u8_bounds r1
  have hdv : dv = (dv.toNat : Int) := by omega
  have x0 := hx k hkl 0 (.int .u8 dv) (by rw [← hv]; rfl)
  have x1 := hx k hkl 1 (.int .i64 x) (by rw [← hv]; rfl)
  refine ⟨g, o, dv.toNat, x, hA, hg, ?_, x1, by omega, r2⟩
  rw [← hdv]
  exact x0
end Go.Proofs.Ytjoagkekbeogoaa
