/- A bitmap and the reference's side by side; the law of any calls. -/
import Derived.Test.YtcffmghpgbkcdaaB12
import Derived.Test.YtcffmghpgbkcdaaOpenV
set_option linter.unusedSimpArgs false
set_option linter.unusedVariables false
namespace Go.Proofs.Ytcffmghpgbkcdaa
open Go.RowKit Go.Shelf

/-- A bitmap, and the reference's, which lies in box gb, side by side. -/
structure JB (w : World) (gb p : Nat) (A : Option Addr) (n c : Nat) (B R : Bm) (W : World) : Prop where
  bm : Bmp W p B
  rp : Rp W R A n c
  bx : Bk W 29 gb (rvL R A n c)
  off : 0 < n → ∀ ad, A = some ad → ad.block ≠ p ∧ ad.block ≠ gb
  pb : p ≠ gb
  pl : w.heap.size ≤ p
  gl : w.heap.size ≤ gb
  bel : Below w.heap.size w W
section
variable {w W W' W'' W1 W2 W3 : World} {gb p n c n' c' : Nat} {A A' : Option Addr} {B B' B'' R R' : Bm}
theorem st_wr {g : Nat} (hw : Wr g W W') : St (· = g) W W' := ⟨hw.os, hw.tape, hw.output, hw.size, fun j hj hn => hw.block j hj (by intro e; injection e with e; exact hn e)⟩
theorem JB.next (h : JB w gb p A n c B R W) (hb : Below W.heap.size W W') : JB w gb p A n c B R W' :=
  ⟨h.bm.below hb, RdV.below h.rp hb, h.bx.below hb, h.off, h.pb, h.pl, h.gl, h.bel.trans (hb.mono h.bel.size)⟩
theorem JB.did (h : JB w gb p A n c B R W) (hd : Bd p B' W W') : JB w gb p A n c B' R W' :=
  ⟨hd.bm, RdV.st h.rp hd.st (fun hn ad he => (h.off hn ad he).1), h.bx.st hd.st (Ne.symm h.pb), h.off, h.pb, h.pl, h.gl, h.bel.trans (hd.st.below h.bel.size (fun k hk => by have := h.pl; omega))⟩
/-- The reference's answer goes into the box. -/
theorem JB.ref (h : JB w gb p A n c B R W) (hr : Rr W R' A n A' n' c' W1) (hb2 : Below W1.heap.size W1 W2) (hk : Bk W3 29 gb (rvL R' A' n' c')) (hw : Wr gb W2 W3) : JB w gb p A' n' c' B R' W3 := by
  have h1 := (h.next hr.bel).next hb2
  have hst := st_wr hw
  have ho : 0 < n' → ∀ ad, A' = some ad → ad.block ≠ p ∧ ad.block ≠ gb := fun hn ad he => by
    have hp := h.bm.lt
    have hg := h.bx.lt
    rcases hr.lie hn ad he with hl | ⟨hn0, a0, e0, hl⟩
    · omega
    · have := h.off hn0 a0 e0
      omega
  exact ⟨h1.bm.st hst h.pb, RdV.st (RdV.below hr.rp hb2) hst (fun hn ad he => (ho hn ad he).2), hk, ho, h.pb, h.pl, h.gl, h1.bel.trans (hw.below h.gl h1.bel.size)⟩
/-- A fork goes on, and the elder bitmap is turned. -/
theorem JB.fork (h : JB w gb p A n c B R W) (hp : Bmp W' W.heap.size B) (hb : Below W.heap.size W W') (hd : Bd p B' W' W'') (hd2 : Bd p B'' W'' W3) : JB w gb W.heap.size A n c B R W3 := by
  have h1 := ((h.next hb).did hd).did hd2
  have h2 := h.bm.lt
  have h3 := h.bx.lt
  have h5 := h.bel.size
  have hn : ¬ W.heap.size = p := by omega
  exact ⟨(hp.st hd.st hn).st hd2.st hn, h1.rp, h1.bx, fun hn ad he => by have := RdV.blk h.rp hn ad he; have := h.off hn ad he; omega, by omega, h5, h.gl, h1.bel⟩
end
abbrev OpT : Ty := .one (.int .u8) (.one (.int .i8) (.one (.int .i64) .unit))
theorem i8_bounds {x : Int} (h : (Lit.int .i8 x).wf = true) : -128 ≤ x ∧ x < 128 := by
  simp [Lit.wf, IntKind.min, IntKind.max, IntKind.signed, IntKind.bits] at h
  omega
/-- The k-th call, as it lies in memory. -/
theorem op_at {w : World} {s : Sl OpT.den} (h : (Ty.sl OpT).reads w s) (k : Nat) (hk : k < s.n) : ∃ (g o dv : Nat) (nv x : Int), s.A = some ⟨g, o, none⟩ ∧ g < w.heap.size ∧
    w.cell? ⟨g, o + k * 3, none⟩ = some (.int .u8 dv) ∧ w.cell? ⟨g, o + k * 3 + 1, none⟩ = some (.int .i8 nv) ∧ w.cell? ⟨g, o + k * 3 + 2, none⟩ = some (.int .i64 x) ∧ dv < 256 ∧ -128 ≤ nv ∧ nv < 128 := by
  obtain ⟨h1, h2, h3, h4, h5, h6⟩ := h
  have h1' : s.l.length = s.n := h1
  have hkl : k < s.l.length := by omega
  obtain ⟨g, o, hA, hg, hx⟩ := h5 (by omega) (show 0 < 3 from by omega)
  obtain ⟨dv, nv, x, u, hv⟩ : ∃ (dv nv x : Int) (u : Unit), (show OpT.den from (dv, nv, x, u)) = s.l[k] := ⟨(s.l[k] : OpT.den).1, (s.l[k] : OpT.den).2.1, (s.l[k] : OpT.den).2.2.1, (s.l[k] : OpT.den).2.2.2, rfl⟩
  have hr : OpT.reads w s.l[k] := h6 _ (List.getElem_mem _)
  rw [← hv] at hr
  obtain ⟨r1, r2, r3, _⟩ := hr
  have hb : 0 ≤ dv ∧ dv < 256 := u8_bounds r1
  have hb2 := i8_bounds r2
  have hdv : dv = (dv.toNat : Int) := by omega
  have x0 := hx k hkl 0 (.int .u8 dv) (by rw [← hv]; rfl)
  have x1 := hx k hkl 1 (.int .i8 nv) (by rw [← hv]; rfl)
  have x2 := hx k hkl 2 (.int .i64 x) (by rw [← hv]; rfl)
  refine ⟨g, o, dv.toNat, nv, x, hA, hg, ?_, x1, x2, by omega, hb2.1, hb2.2⟩
  rw [← hdv]
  exact x0
end Go.Proofs.Ytcffmghpgbkcdaa
