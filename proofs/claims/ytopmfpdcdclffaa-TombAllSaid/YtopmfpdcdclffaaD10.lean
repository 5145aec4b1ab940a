/- A tomb and the reference's side by side. -/
import Derived.Test.YtopmfpdcdclffaaD9
import Derived.Test.YtopmfpdcdclffaaOpenV
set_option linter.unusedSimpArgs false
set_option linter.unusedVariables false
namespace Go.Proofs.Ytopmfpdcdclffaa
open Go.RowKit Go.Shelf

/-- A tomb, and the reference's, which lies in box gb, side by side. -/
structure JB (w : World) (gb : Nat) (P : Pl) (A : Option Addr) (n c : Nat) (B R : Bm) (W : World) : Prop where
  bm : Bmp W P B
  rp : Rp W R A n c
  bx : Bk W 29 gb (rvL R A n c)
  off : 0 < n → ∀ ad, A = some ad → ad.block ≠ P.p ∧ ad.block ≠ gb
  pb : P.p ≠ gb
  pl : w.heap.size ≤ P.p
  gl : w.heap.size ≤ gb
  bel : Below w.heap.size w W
section
variable {w W W' W'' W1 W2 W3 : World} {gb n c n' c' : Nat} {P : Pl} {A A' : Option Addr} {B B' B'' R R' : Bm}
theorem JB.next (h : JB w gb P A n c B R W) (hb : Below W.heap.size W W') : JB w gb P A n c B R W' :=
  ⟨h.bm.below hb, RdV.below h.rp hb, h.bx.below hb, h.off, h.pb, h.pl, h.gl, h.bel.trans (hb.mono h.bel.size)⟩
theorem JB.did (h : JB w gb P A n c B R W) (hd : Bd P B' W W') : JB w gb P A n c B' R W' :=
  ⟨hd.bm, RdV.st h.rp hd.st (fun hn ad he => (h.off hn ad he).1), h.bx.st hd.st (Ne.symm h.pb), h.off, h.pb, h.pl, h.gl, h.bel.trans (hd.st.below h.bel.size (fun k hk => by have := h.pl; have : k = P.p := hk; omega))⟩
/-- The reference's answer goes into the box. -/
theorem JB.ref (h : JB w gb P A n c B R W) (hr : Rr W R' A n A' n' c' W1) (hb2 : Below W1.heap.size W1 W2) (hk : Bk W3 29 gb (rvL R' A' n' c')) (hw : Wr gb W2 W3) : JB w gb P A' n' c' B R' W3 := by
  have h1 := (h.next hr.bel).next hb2
  have hst := st_wr hw
  have ho : 0 < n' → ∀ ad, A' = some ad → ad.block ≠ P.p ∧ ad.block ≠ gb := fun hn ad he => by
    have hp := h.bm.lt
    have hg := h.bx.lt
    rcases hr.lie hn ad he with hl | ⟨hn0, a0, e0, hl⟩
    · omega
    · have := h.off hn0 a0 e0
      omega
  exact ⟨h1.bm.st hst h.pb, RdV.st (RdV.below hr.rp hb2) hst (fun hn ad he => (ho hn ad he).2), hk, ho, h.pb, h.pl, h.gl, h1.bel.trans (hw.below h.gl h1.bel.size)⟩
/-- A fork goes on, and the elder tomb is turned. -/
theorem JB.fork (h : JB w gb P A n c B R W) (hp : Bmp W' (plT W.heap.size) B) (hb : Below W.heap.size W W') (hd : Bd P B' W' W3) : JB w gb (plT W.heap.size) A n c B R W3 := by
  have h1 := (h.next hb).did hd
  have h2 := h.bm.lt
  have h3 := h.bx.lt
  have h5 := h.bel.size
  have hn : ¬ (plT W.heap.size).p = P.p := by show ¬ W.heap.size = P.p; omega
  exact ⟨hp.st hd.st hn, h1.rp, h1.bx, fun hn ad he => by have := RdV.blk h.rp hn ad he; have := h.off hn ad he; show ad.block ≠ W.heap.size ∧ _; omega, by show W.heap.size ≠ gb; omega, h5, h.gl, h1.bel⟩
/-- Besides, the call that comes, in a box of its own. -/
structure JO (w : World) (gb ob : Nat) (P : Pl) (A : Option Addr) (n c : Nat) (B R : Bm) (ov : List Value) (W : World) : Prop where
  jb : JB w gb P A n c B R W
  op : Bk W 35 ob ov
  o1 : ob ≠ gb
  o2 : ob ≠ P.p
variable {ob : Nat} {ov : List Value}
theorem JO.next (h : JO w gb ob P A n c B R ov W) (hb : Below W.heap.size W W') : JO w gb ob P A n c B R ov W' := ⟨h.jb.next hb, h.op.below hb, h.o1, h.o2⟩
theorem JO.did (h : JO w gb ob P A n c B R ov W) (hd : Bd P B' W W') : JO w gb ob P A n c B' R ov W' := ⟨h.jb.did hd, h.op.st hd.st h.o2, h.o1, h.o2⟩
theorem JO.ref (h : JO w gb ob P A n c B R ov W) (hr : Rr W R' A n A' n' c' W1) (hb2 : Below W1.heap.size W1 W2) (hk : Bk W3 29 gb (rvL R' A' n' c')) (hw : Wr gb W2 W3) : JO w gb ob P A' n' c' B R' ov W3 :=
  ⟨h.jb.ref hr hb2 hk hw, ((h.op.below hr.bel).below hb2).st (st_wr hw) h.o1, h.o1, h.o2⟩
theorem JO.fork (h : JO w gb ob P A n c B R ov W) (hp : Bmp W' (plT W.heap.size) B) (hb : Below W.heap.size W W') (hd : Bd P B' W' W3) : JO w gb ob (plT W.heap.size) A n c B R ov W3 :=
  ⟨h.jb.fork hp hb hd, (h.op.below hb).st hd.st h.o2, h.o1, by have := h.op.lt; show ob ≠ W.heap.size; omega⟩
end
abbrev OpT : Ty := .one (.int .u8) (.one (.int .i8) (.one (.int .i64) .unit))
theorem i8_bounds {x : Int} (h : (Lit.int .i8 x).wf = true) : -128 ≤ x ∧ x < 128 := by
  simp [Lit.wf, IntKind.min, IntKind.max, IntKind.signed, IntKind.bits] at h
  omega
/-- The k-th call, as it lies in memory. -/
theorem op_at {w : World} {s : Sl OpT.den} (h : (Ty.sl OpT).reads w s) (k : Nat) (hk : k < s.n) : ∃ (g o dv : Nat) (nv x : Int), s.A = some ⟨g, o, none⟩ ∧ g < w.heap.size ∧
    w.cell? ⟨g, o + k * 3, none⟩ = some (.int .u8 dv) ∧ w.cell? ⟨g, o + k * 3 + 1, none⟩ = some (.int .i8 nv) ∧ w.cell? ⟨g, o + k * 3 + 2, none⟩ = some (.int .i64 x) ∧ dv < 256 ∧ -128 ≤ nv ∧ nv < 128 := by
  obtain ⟨h1, h2, h3, h4, h5, h6⟩ := h
  have h1' : s.l.length = s.n := h1
  have hkl : k < s.l.length := by omega
  obtain ⟨g, o, hA, hg, hx⟩ := h5 (by omega) (show 0 < 3 from by omega)
  obtain ⟨dv, nv, x, u, hv⟩ : ∃ (dv nv x : Int) (u : Unit), (show OpT.den from (dv, nv, x, u)) = s.l[k] := ⟨(s.l[k] : OpT.den).1, (s.l[k] : OpT.den).2.1, (s.l[k] : OpT.den).2.2.1, (s.l[k] : OpT.den).2.2.2, rfl⟩
  have hr : OpT.reads w s.l[k] := h6 _ (List.getElem_mem _)
  rw [← hv] at hr
  obtain ⟨r1, r2, r3, _⟩ := hr
  have hb : 0 ≤ dv ∧ dv < 256 := u8_bounds r1
  have hb2 := i8_bounds r2
  have hdv : dv = (dv.toNat : Int) := by omega
  have x0 := hx k hkl 0 (.int .u8 dv) (by rw [← hv]; rfl)
  have x1 := hx k hkl 1 (.int .i8 nv) (by rw [← hv]; rfl)
  have x2 := hx k hkl 2 (.int .i64 x) (by rw [← hv]; rfl)
  refine ⟨g, o, dv.toNat, nv, x, hA, hg, ?_, x1, x2, by omega, hb2.1, hb2.2⟩
  rw [← hdv]
  exact x0
end Go.Proofs.Ytopmfpdcdclffaa
