/- A Join and the reference's side by side. -/
import Derived.Test.YtdakojggknkidaaJ8
import Derived.Test.YtdakojggknkidaaJ11
import Derived.Test.YtdakojggknkidaaJ13
set_option linter.unusedSimpArgs false
set_option linter.unusedVariables false
namespace Go.Proofs.Ytdakojggknkidaa
open Go.RowKit Go.Shelf
abbrev OpT : Ty := .one (.int .u8) (.one (.sl (.int .u8)) (.one (.int .u8) (.one .bool .unit)))
/-- The k-th call, as it lies in memory. -/
theorem op_at {w : World} {s : Sl OpT.den} (h : (Ty.sl OpT).reads w s) (k : Nat) (hk : k < s.n) : ∃ (g o : Nat) (d : Int) (B : Option Addr) (l cc : Nat) (ys : List Int) (t : Int) (en : Bool), s.A = some ⟨g, o, none⟩ ∧ g < w.heap.size ∧
    w.rangeAt g (o + k * 4) [.int .u8 d, .slice B l cc, .int .u8 t, .bool en] ∧ (0 ≤ d ∧ d < 256) ∧ (0 ≤ t ∧ t < 256) ∧ Rd .u8 w B l cc ys := by
  obtain ⟨h1, h2, h3, h4, h5, h6⟩ := h
  have h1' : s.l.length = s.n := h1
  have hkl : k < s.l.length := by omega
  obtain ⟨g, o, hA, hg, hx⟩ := h5 (by omega) (show 0 < 4 from by omega)
  have hr : OpT.reads w s.l[k] := h6 _ (List.getElem_mem _)
  have hx' := hx k hkl
  obtain ⟨x, hxe⟩ : ∃ x, x = s.l[k] := ⟨_, rfl⟩
  rw [← hxe] at hr hx'
  clear hxe hx
  obtain ⟨d, ⟨B, l, cc, ys⟩, t, en, u⟩ := x
  obtain ⟨r1, r2, r3, _⟩ := hr
  exact ⟨g, o, d, B, l, cc, ys, t, en, hA, hg, fun j v hv => hx' j v hv, u8_bounds r1, u8_bounds r3, rd_of_reads ⟨B, l, cc, ys⟩ r2⟩
theorem JnC.le {F : Nat → Prop} {w : World} {g : Nat} {m : Jm} (h : JnC F w g m) : m.op ≤ 65536 ∧ m.ps.length ≤ 65536 := by
  obtain ⟨A, n, c, h⟩ := h
  have h1 := h.many
  have h2 := h.ls.len
  have h3 := h.le
  omega
/-- A Join, and the reference's, which lies in box b, side by side. -/
structure JR (w : World) (b g : Nat) (m : Jm) (A : Option Addr) (c : Nat) (F : Nat → Prop) (W : World) : Prop where
  j : JnC F W g m
  bx : Bk W 27 b [.slice A m.op c, .int .i64 m.ps.length, .int .i64 m.N, .int .i64 m.T]
  q : BsR W A m.op c m.fl
  off : ∀ k, BlkOf A k → ¬ F k
  bF : ¬ F b
  ge : ∀ k, F k → w.heap.size ≤ k
  bge : w.heap.size ≤ b
  bel : Below w.heap.size w W
section
variable {w W W' W1 W2 W3 : World} {b g g' c c' : Nat} {m m' : Jm} {A A' : Option Addr} {F F' : Nat → Prop} {xs : List Int} {en : Bool}
theorem JR.next (h : JR w b g m A c F W) (hb : Below W.heap.size W W') : JR w b g m A c F W' :=
  ⟨h.j.below hb, h.bx.below hb, h.q.below hb, h.off, h.bF, h.ge, h.bge, h.bel.trans (hb.mono h.bel.size)⟩
/-- Some block of neither is written. -/
theorem JR.far (h : JR w b g m A c F W) {G : Nat → Prop} (hs : St G W W') (hG : ∀ k, G k → w.heap.size ≤ k ∧ ¬ F k ∧ k ≠ b ∧ ¬ BlkOf A k) : JR w b g m A c F W' :=
  ⟨h.j.st hs fun k hf hg => (hG k hg).2.1 hf, h.bx.st hs fun hg => (hG b hg).2.2.1 rfl, h.q.st hs fun k hk hg => (hG k hg).2.2.2 hk, h.off, h.bF, h.ge, h.bge, h.bel.trans (hs.below h.bel.size fun k hk => (hG k hk).1)⟩
theorem JR.reset (h : JR w b g m A c F W) (hj : JnA F W1 g ⟨[], m.N, m.T⟩ none 0 0) (hs : St (· = g) W W1) (hk : Bk W2 27 b [.slice none 0 0, .int .i64 0, .int .i64 m.N, .int .i64 m.T]) (hw : Wr b W1 W2) : JR w b g ⟨[], m.N, m.T⟩ none 0 F W2 := by
  have hgF : F g := hj.fg
  refine ⟨⟨_, _, _, hj.st (st_wr hw) fun k hf e => h.bF (e ▸ hf)⟩, hk, BsR.nil _, (by rintro k ⟨ad, he, _⟩; cases he), h.bF, h.ge, h.bge, (h.bel.trans (hs.below h.bel.size fun k hk => hk ▸ h.ge g hgF)).trans (hw.below h.bge (Nat.le_trans h.bel.size hs.size))⟩
/-- The copy goes on. -/
theorem JR.fork (h : JR w b g m A c F W) (hj : JnC F' W1 g' m) (hF : ∀ k, F' k → W.heap.size ≤ k) (hb : Below W.heap.size W W1) (hb2 : Below W1.heap.size W1 W2) (hs : St F W2 W3) : JR w b g' m A c F' W3 := by
  have h1 := (h.next hb).next hb2
  have hq := h.q.lt
  have hbl := h.bx.lt
  have hFl := h.j.lt
  refine ⟨(hj.below hb2).st hs fun k hk hf => ?_, h1.bx.st hs h.bF, h1.q.st hs h.off, fun k hk hf => ?_, fun hf => ?_, fun k hk => Nat.le_trans h.bel.size (hF k hk), h.bge, h1.bel.trans (hs.below h1.bel.size h.ge)⟩
  · have := hF k hk
    have := hFl k hf
    omega
  · have := hq k hk
    have := hF k hf
    omega
  · have := hF b hf
    omega
/-- A part went into both. -/
theorem JR.add {W4 : World} (h : JR w b g m A c F W) (hj : JnC F' W1 g m') (hs : St F W W1) (hg : Gr F F' W.heap.size) (hb : Below W1.heap.size W1 W2) (hq : BsR W2 A' m'.op c' m'.fl) (hA : ∀ k, BlkOf A' k → BlkOf A k ∨ W1.heap.size ≤ k)
    (hb3 : Below W2.heap.size W2 W3) (hk : Bk W4 27 b [.slice A' m'.op c', .int .i64 m'.ps.length, .int .i64 m'.N, .int .i64 m'.T]) (hw : Wr b W3 W4) : JR w b g m' A' c' F' W4 := by
  have hq0 := h.q.lt
  have hbl := h.bx.lt
  have hbF' : ¬ F' b := hg.not hbl h.bF
  have hst := st_wr hw
  have h3 := (h.bx.st hs h.bF).below hb |>.below hb3
  refine ⟨((hj.below hb).below hb3).st hst fun k hf e => hbF' (e ▸ hf), hk, (hq.below hb3).wrT h3 (by decide) hw, fun k hk hf => ?_, hbF', hg.ge h.ge h.bel.size, h.bge, ?_⟩
  · rcases hA k hk with h1 | h1
    · exact hg.not (hq0 k h1) (h.off k h1) hf
    · have := hj.lt k hf
      omega
  · have h5 := h.bel.trans (hs.below h.bel.size h.ge)
    have h6 := (h5.trans (hb.mono h5.size)).trans (hb3.mono (Nat.le_trans h5.size hb.size))
    exact h6.trans (hw.below h.bge h6.size)
end
end Go.Proofs.Ytdakojggknkidaa
