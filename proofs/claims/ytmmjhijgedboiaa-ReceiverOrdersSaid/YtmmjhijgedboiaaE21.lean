/- The reference goes on. -/
import Derived.Test.YtmmjhijgedboiaaE20
import Derived.Test.YtmmjhijgedboiaaJ6
set_option linter.unusedSimpArgs false
set_option linter.unusedVariables false
set_option maxRecDepth 100000
namespace Go.Proofs.Ytmmjhijgedboiaa
open Go.RowKit Go.Shelf
theorem rowJ : Row Try.prog 32 4 := ⟨⟨_, rfl, by decide⟩, by kernel_rfl⟩
def Zr.cut (z : Zr) (AC : Option Addr) : Zr := { z with A := AC, n := z.n - 1, c := z.c - 1 }
def Zr.new (z : Zr) (AC A1 : Option Addr) (n1 c1 : Nat) : Zr := { z with A := AC, n := z.n - 1, c := z.c - 1, J := A1, jn := n1, jc := c1 }
def Zr.fin (z : Zr) : Zr := { z with A := none, n := 0, c := 0 }
def Rm.mid (m : Rm) (k : Nat) (j : Jm) : Rm := { m with base := m.base + k, ks := m.ks.drop k, jm := j }
/-- Messages that read, all in blocks of bytes and of slices of bytes. -/
def SlT (w : World) (A : Option Addr) (n c : Nat) (ms : List (List Int)) : Prop :=
  ∃ bs : List Bs, RdV w A n c (bs.map Bs.val) ∧ (0 < n → ∀ ad, A = some ad → Tyd 30 w ad.block) ∧ bs.map Bs.xs = ms ∧ ∀ b ∈ bs, BsR w b.A b.n b.c b.xs
theorem SlT.sl {w : World} {A : Option Addr} {n c : Nat} {ms : List (List Int)} (h : SlT w A n c ms) : SlB w A n c ms := by
  obtain ⟨bs, h1, -, h2, h3⟩ := h
  exact ⟨bs, h1, h2, fun b hb => (h3 b hb).1⟩
theorem SlT.stT {w w' : World} {A : Option Addr} {n c : Nat} {ms : List (List Int)} {G : Nat → Prop} (h : SlT w A n c ms) (hs : St G w w') (hG : ∀ x, G x → ¬ Tyd 5 w x ∧ ¬ Tyd 30 w x) : SlB w' A n c ms := by
  obtain ⟨bs, h1, ht, h2, h3⟩ := h
  exact ⟨bs, h1.st hs fun hn ad he hg => (hG _ hg).2 (ht hn ad he), h2, fun b hb => ((h3 b hb).stT hs fun x hx => (hG x hx).1).1⟩
/-- What comes of going on. -/
def GoR (F : Nat → Prop) (w : World) (m : Rm) (en : Ending) (w' : World) : Prop :=
  ∃ z A n c, en = .returned (.tuple #[.agg #[.int .i64 z.c0, .int .i64 m.adv.pa, .int .i64 z.c2, .int .i64 z.c3, .int .i64 m.adv.size, .int .i64 z.c5, .int .i64 z.c6, .int .i64 z.c7, .int .i64 z.c8, .int .i64 z.c9, .int .i64 z.c10, .int .i64 z.c11, .int .i64 z.c12, .int .i64 z.c13, .int .i64 m.adv.sr, .int .i64 m.adv.ds, .int .i64 m.adv.cn, .int .i64 m.adv.cl, .int .i64 m.adv.base, .slice z.A z.n z.c, .slice z.J z.jn z.jc, .int .i64 m.adv.jm.ps.length, .int .i64 m.adv.jm.N, .int .i64 m.adv.jm.T, .int .i64 m.adv.ar, .int .i64 m.adv.pl, .int .i64 m.adv.pd, .bool m.adv.dn], .slice A n c]) ∧ RfR F w' z m.adv ∧ SlT w' A n c m.av.out ∧ Below w.heap.size w w'
section
variable {F : Nat → Prop} {w W W' : World} {m : Rm} {k n c : Nat} {z : Zr} {j j1 : Jm} {out : List (List Int)} {A : Option Addr}
/-- A list of messages that read, its array new. -/
def OutT (w W : World) (A : Option Addr) (n c : Nat) (ms : List (List Int)) : Prop :=
  ∃ bs : List Bs, Lst 30 (w.heap.size + 2 ≤ ·) W A n c (bs.map Bs.val) ∧ bs.map Bs.xs = ms ∧ ∀ b ∈ bs, BsR W b.A b.n b.c b.xs
theorem OutT.nil (w W : World) : OutT w W none 0 0 [] := ⟨[], Lst.nil _ _ _, rfl, by simp⟩
theorem OutT.sl (h : OutT w W A n c out) : SlT W A n c out := by
  obtain ⟨bs, h1, h2, h3⟩ := h
  exact ⟨bs, h1.rdv, fun _ ad he => h1.tyd ad.block ⟨ad, he, rfl⟩, h2, h3⟩
theorem OutT.st {G : Nat → Prop} (h : OutT w W A n c out) (hs : St G W W') (hG : ∀ x, G x → x < w.heap.size + 2 ∧ ¬ Tyd 5 W x) : OutT w W' A n c out := by
  obtain ⟨bs, h1, h2, h3⟩ := h
  refine ⟨bs, ?_, h2, fun b hb => (h3 b hb).stT hs fun x hx => (hG x hx).2⟩
  exact (h1.tight.st hs fun x hx hg => by
    obtain ⟨ad, he, hk⟩ := hx
    have := (h1.blk ad he).1
    have h2 := (hG x hg).1
    omega).mono fun x ⟨ad, he, hk⟩ => hk ▸ (h1.blk ad he).1
theorem OutT.below (h : OutT w W A n c out) (hb : Below W.heap.size W W') : OutT w W' A n c out := h.st (G := fun _ => False) (St.ext hb) (fun _ h => h.elim)
theorem OutT.app {W1 w2 : World} {b : Bs} {bs : List Bs} {v : Value} (h1 : Lst 30 (w.heap.size + 2 ≤ ·) W A n c (bs.map Bs.val)) (h2 : bs.map Bs.xs = out) (h3 : ∀ b ∈ bs, BsR W b.A b.n b.c b.xs) (hw : w.heap.size + 2 ≤ W.heap.size) (hq : BsR W b.A b.n b.c b.xs) (hb : Below W.heap.size W W1)
    (hap : Apd 30 (BlkOf A) W1 v (bs.map Bs.val ++ [b.val]) w2) : ∃ A' n' c', v = .slice A' n' c' ∧ OutT w w2 A' n' c' (out ++ [b.xs]) ∧ St (BlkOf A) W w2 := by
  obtain ⟨⟨A', n', c', rfl, hl'⟩, hst⟩ := hap
  have hnb : ∀ k, BlkOf A k → ¬ Tyd 5 W1 k := fun k hk => ((h1.below hb).tyd k hk).ne (by decide)
  refine ⟨A', n', c', rfl, ⟨bs ++ [b], ?_, by rw [List.map_append, h2]; rfl, fun q hq' => ?_⟩, (St.ext hb).trans hst (Gr.refl _ _)⟩
  · rw [List.map_append]
    refine hl'.mono ?_
    rintro k (⟨ad, rfl, rfl⟩ | hk)
    · exact (h1.blk _ rfl).1
    · have := hb.size
      show w.heap.size + 2 ≤ k
      have h4 : _ ≤ k := hk
      omega
  · rcases List.mem_append.1 hq' with h | h
    · exact BsR.stT ((h3 q h).below hb) hst hnb
    · obtain rfl : q = b := by simpa using h
      exact BsR.stT (hq.below hb) hst hnb
end
def FB (F : Nat → Prop) (w : World) : Nat → Prop := fun x => F x ∨ (w.heap.size ≤ x ∧ x < w.heap.size + 2)
structure GoI (F : Nat → Prop) (w : World) (m : Rm) (k : Nat) (z : Zr) (j : Jm) (out : List (List Int)) (A : Option Addr) (n c : Nat) (W : World) : Prop where
  bel : Below w.heap.size w W
  sz : w.heap.size + 2 ≤ W.heap.size
  bk : Bk W 34 w.heap.size [.int .i64 z.c0, .int .i64 (m.mid k j).pa, .int .i64 z.c2, .int .i64 z.c3, .int .i64 (m.mid k j).size, .int .i64 z.c5, .int .i64 z.c6, .int .i64 z.c7, .int .i64 z.c8, .int .i64 z.c9, .int .i64 z.c10, .int .i64 z.c11, .int .i64 z.c12, .int .i64 z.c13, .int .i64 (m.mid k j).sr, .int .i64 (m.mid k j).ds, .int .i64 (m.mid k j).cn, .int .i64 (m.mid k j).cl, .int .i64 (m.mid k j).base, .slice z.A z.n z.c, .slice z.J z.jn z.jc, .int .i64 (m.mid k j).jm.ps.length, .int .i64 (m.mid k j).jm.N, .int .i64 (m.mid k j).jm.T, .int .i64 (m.mid k j).ar, .int .i64 (m.mid k j).pl, .int .i64 (m.mid k j).pd, .bool (m.mid k j).dn]
  zb : Bk W 34 (w.heap.size + 1) [.int .i64 0, .int .i64 0, .int .i64 0, .int .i64 0, .int .i64 0, .int .i64 0, .int .i64 0, .int .i64 0, .int .i64 0, .int .i64 0, .int .i64 0, .int .i64 0, .int .i64 0, .int .i64 0, .int .i64 0, .int .i64 0, .int .i64 0, .int .i64 0, .int .i64 0, .slice none 0 0, .slice none 0 0, .int .i64 0, .int .i64 0, .int .i64 0, .int .i64 0, .int .i64 0, .int .i64 0, .bool false]
  kp : SlP (fun x => F x ∨ w.heap.size ≤ x) W z.A z.n z.c (m.ks.drop k)
  jn : BsR W z.J z.jn z.jc j.fl
  jo : ∀ x, BlkOf z.J x → ¬ FB F w x
  ou : OutT w W A n c out
  ol : out.length ≤ k
  av : m.av = avL (m.base + k) j out (m.ks.drop k)
  le : k ≤ m.ks.length
  n0 : 0 ≤ j.N ∧ j.N ≤ ((m.base + k : Nat) : Int)
  t0 : 0 ≤ j.T ∧ j.T ≤ ((m.base + k : Nat) : Int) * 65536
  p0 : j.ps.length ≤ m.base + k
  op : j.op ≤ 65536
section
variable {F : Nat → Prop} {w W W' : World} {m : Rm} {k n c : Nat} {z : Zr} {j j1 : Jm} {out : List (List Int)} {A : Option Addr}
theorem LR_mid (hd : m.dn = false) (h : m.av = ⟨m.base + k, m.ks.drop k, j, out, false⟩) : ([.int .i64 z.c0, .int .i64 (m.mid k j).pa, .int .i64 z.c2, .int .i64 z.c3, .int .i64 (m.mid k j).size, .int .i64 z.c5, .int .i64 z.c6, .int .i64 z.c7, .int .i64 z.c8, .int .i64 z.c9, .int .i64 z.c10, .int .i64 z.c11, .int .i64 z.c12, .int .i64 z.c13, .int .i64 (m.mid k j).sr, .int .i64 (m.mid k j).ds, .int .i64 (m.mid k j).cn, .int .i64 (m.mid k j).cl, .int .i64 (m.mid k j).base, .slice z.A z.n z.c, .slice z.J z.jn z.jc, .int .i64 (m.mid k j).jm.ps.length, .int .i64 (m.mid k j).jm.N, .int .i64 (m.mid k j).jm.T, .int .i64 (m.mid k j).ar, .int .i64 (m.mid k j).pl, .int .i64 (m.mid k j).pd, .bool (m.mid k j).dn] : List Value) = [.int .i64 z.c0, .int .i64 m.adv.pa, .int .i64 z.c2, .int .i64 z.c3, .int .i64 m.adv.size, .int .i64 z.c5, .int .i64 z.c6, .int .i64 z.c7, .int .i64 z.c8, .int .i64 z.c9, .int .i64 z.c10, .int .i64 z.c11, .int .i64 z.c12, .int .i64 z.c13, .int .i64 m.adv.sr, .int .i64 m.adv.ds, .int .i64 m.adv.cn, .int .i64 m.adv.cl, .int .i64 m.adv.base, .slice z.A z.n z.c, .slice z.J z.jn z.jc, .int .i64 m.adv.jm.ps.length, .int .i64 m.adv.jm.N, .int .i64 m.adv.jm.T, .int .i64 m.adv.ar, .int .i64 m.adv.pl, .int .i64 m.adv.pd, .bool m.adv.dn] := by
  unfold Rm.mid Rm.adv
  rw [h]
  simp [hd]
theorem LR_fin (h : m.av = ⟨m.base + k + 1, [], j, out, true⟩) : ([.int .i64 (Zr.fin z).c0, .int .i64 (Rm.fins (m.mid (k + 1) j)).pa, .int .i64 (Zr.fin z).c2, .int .i64 (Zr.fin z).c3, .int .i64 (Rm.fins (m.mid (k + 1) j)).size, .int .i64 (Zr.fin z).c5, .int .i64 (Zr.fin z).c6, .int .i64 (Zr.fin z).c7, .int .i64 (Zr.fin z).c8, .int .i64 (Zr.fin z).c9, .int .i64 (Zr.fin z).c10, .int .i64 (Zr.fin z).c11, .int .i64 (Zr.fin z).c12, .int .i64 (Zr.fin z).c13, .int .i64 (Rm.fins (m.mid (k + 1) j)).sr, .int .i64 (Rm.fins (m.mid (k + 1) j)).ds, .int .i64 (Rm.fins (m.mid (k + 1) j)).cn, .int .i64 (Rm.fins (m.mid (k + 1) j)).cl, .int .i64 (Rm.fins (m.mid (k + 1) j)).base, .slice (Zr.fin z).A (Zr.fin z).n (Zr.fin z).c, .slice (Zr.fin z).J (Zr.fin z).jn (Zr.fin z).jc, .int .i64 (Rm.fins (m.mid (k + 1) j)).jm.ps.length, .int .i64 (Rm.fins (m.mid (k + 1) j)).jm.N, .int .i64 (Rm.fins (m.mid (k + 1) j)).jm.T, .int .i64 (Rm.fins (m.mid (k + 1) j)).ar, .int .i64 (Rm.fins (m.mid (k + 1) j)).pl, .int .i64 (Rm.fins (m.mid (k + 1) j)).pd, .bool (Rm.fins (m.mid (k + 1) j)).dn] : List Value) = [.int .i64 (Zr.fin z).c0, .int .i64 m.adv.pa, .int .i64 (Zr.fin z).c2, .int .i64 (Zr.fin z).c3, .int .i64 m.adv.size, .int .i64 (Zr.fin z).c5, .int .i64 (Zr.fin z).c6, .int .i64 (Zr.fin z).c7, .int .i64 (Zr.fin z).c8, .int .i64 (Zr.fin z).c9, .int .i64 (Zr.fin z).c10, .int .i64 (Zr.fin z).c11, .int .i64 (Zr.fin z).c12, .int .i64 (Zr.fin z).c13, .int .i64 m.adv.sr, .int .i64 m.adv.ds, .int .i64 m.adv.cn, .int .i64 m.adv.cl, .int .i64 m.adv.base, .slice (Zr.fin z).A (Zr.fin z).n (Zr.fin z).c, .slice (Zr.fin z).J (Zr.fin z).jn (Zr.fin z).jc, .int .i64 m.adv.jm.ps.length, .int .i64 m.adv.jm.N, .int .i64 m.adv.jm.T, .int .i64 m.adv.ar, .int .i64 m.adv.pl, .int .i64 m.adv.pd, .bool m.adv.dn] := by
  unfold Rm.fins Rm.mid Rm.adv
  rw [h]
  simp [Nat.add_assoc]
theorem GoI.below (h : GoI F w m k z j out A n c W) (hb : Below W.heap.size W W') : GoI F w m k z j out A n c W' :=
  ⟨h.bel.trans (hb.mono h.bel.size), Nat.le_trans h.sz hb.size, h.bk.below hb, h.zb.below hb, h.kp.below hb, h.jn.below hb, h.jo, h.ou.below hb, h.ol, h.av, h.le, h.n0, h.t0, h.p0, h.op⟩
/-- The last region: the receiver as it is, and what was gathered. -/
theorem GoI.stop (h : GoI F w m k z j out A n c W) (hF : ∀ x, F x → x < w.heap.size) (hd : m.dn = false) (hav : m.av = ⟨m.base + k, m.ks.drop k, j, out, false⟩) {w9 : World} (hw : Wr (w.heap.size + 1) W w9) : RfR F w9 z m.adv ∧ SlT w9 A n c m.av.out ∧ Below w.heap.size w w9 := by
  have hz := h.sz
  have hs : St (· = w.heap.size + 1) W w9 := ⟨hw.os, hw.tape, hw.output, hw.size, fun x hx hn => hw.block x hx (by intro he; injection he with he; exact hn he)⟩
  have hsF : St (FB F w) W w9 := hs.mono (fun x _ hx => .inr ⟨by omega, by omega⟩)
  have hgen := h.ou.st hs (fun x hx => ⟨by omega, by rw [hx]; exact h.zb.tyd.ne (by decide)⟩)
  have e1 : m.adv.ks = m.ks.drop k := by show m.av.ks = _; rw [hav]
  have e2 : m.adv.jm = j := by show m.av.j = _; rw [hav]
  refine ⟨⟨?_, ?_, fun x hx hf => h.jo x hx (.inl hf)⟩, ?_, h.bel.trans (hw.below (by omega) (by omega))⟩
  · rw [e1]; exact (h.kp.st (hs.mono fun x _ hx => .inr (by omega)) (Gr.refl _ _)).mono fun x hx => .inl hx
  · rw [e2]; exact h.jn.st hsF h.jo
  · rw [hav]; exact hgen.sl
/-- The same where the end came. -/
theorem GoI.stopF (h : GoI F w m k z j out A n c W) (hb : m.av = ⟨m.base + k + 1, [], j, out, true⟩) {w8 w9 : World} (hs8 : St (· = w.heap.size) W w8) (hw : Wr (w.heap.size + 1) w8 w9) : RfR F w9 z.fin m.adv ∧ SlT w9 A n c m.av.out := by
  have hz := h.sz
  have hz8 := hs8.size
  have hs : St (· = w.heap.size + 1) w8 w9 := ⟨hw.os, hw.tape, hw.output, hw.size, fun x hx hn => hw.block x hx (by intro he; injection he with he; exact hn he)⟩
  have hs9 : St (FB F w) W w8 := hs8.mono (fun x _ hx => .inr ⟨by omega, by omega⟩)
  have hsF : St (FB F w) W w9 := hs9.trans (hs.mono (fun x _ hx => .inr ⟨by omega, by omega⟩)) (Gr.refl _ _)
  have hgen := (h.ou.st hs8 (fun x hx => ⟨by omega, by rw [hx]; exact h.bk.tyd.ne (by decide)⟩)).st hs (fun x hx => ⟨by omega, by rw [hx]; exact (h.zb.st hs8 (by omega)).tyd.ne (by decide)⟩)
  have e1 : m.adv.ks = [] := by show m.av.ks = _; rw [hb]
  have e2 : m.adv.jm = j := by show m.av.j = _; rw [hb]
  refine ⟨⟨?_, ?_, fun x hx hf => h.jo x hx (.inl hf)⟩, ?_⟩
  · rw [e1]; exact SlP.nil _ _
  · rw [e2]; exact h.jn.st hsF h.jo
  · rw [hb]; exact hgen.sl
theorem add_op {j : Jm} (h : j.op ≤ 65536) (xs : List Int) (en : Bool) : (j.add xs en).op ≤ 65536 := by
  by_cases hr : j.refuse xs = 0
  · have hs : j.op + xs.length ≤ 65536 := by
      unfold Jm.refuse at hr
      by_cases h1 : xs.length = 0
      · omega
      · rw [if_neg h1] at hr
        by_cases h2 : 65536 < j.op + xs.length
        · rw [if_pos h2] at hr; omega
        · omega
    unfold Jm.add
    rw [if_pos hr]
    cases en
    · rw [if_neg (by decide), Jm.plus_op]; exact hs
    · rw [if_pos rfl]; exact Nat.zero_le _
  · unfold Jm.add
    rw [if_neg hr]; exact h
theorem GoI.next {w10 : World} {p : Pk} {t : List Pk} {AC A1 : Option Addr} {n1 c1 : Nat} {en : Bool} (h : GoI F w m k z j out A n c W) (hF : ∀ x, F x → x < w.heap.size) (hdr : m.ks.drop k = p :: t) (hsq : p.h.sq = ((m.base + k : Nat) : Int)) (hf : hasB p.h.fl 4 = false) (hen : en = hasB p.h.fl 2) (hAC : AC = cutR z.A z.c 1 9)
    (hs : St (· = w.heap.size) W w10) (hbk : Bk w10 34 w.heap.size [.int .i64 (Zr.new z AC A1 n1 c1).c0, .int .i64 (m.mid (k + 1) j1).pa, .int .i64 (Zr.new z AC A1 n1 c1).c2, .int .i64 (Zr.new z AC A1 n1 c1).c3, .int .i64 (m.mid (k + 1) j1).size, .int .i64 (Zr.new z AC A1 n1 c1).c5, .int .i64 (Zr.new z AC A1 n1 c1).c6, .int .i64 (Zr.new z AC A1 n1 c1).c7, .int .i64 (Zr.new z AC A1 n1 c1).c8, .int .i64 (Zr.new z AC A1 n1 c1).c9, .int .i64 (Zr.new z AC A1 n1 c1).c10, .int .i64 (Zr.new z AC A1 n1 c1).c11, .int .i64 (Zr.new z AC A1 n1 c1).c12, .int .i64 (Zr.new z AC A1 n1 c1).c13, .int .i64 (m.mid (k + 1) j1).sr, .int .i64 (m.mid (k + 1) j1).ds, .int .i64 (m.mid (k + 1) j1).cn, .int .i64 (m.mid (k + 1) j1).cl, .int .i64 (m.mid (k + 1) j1).base, .slice (Zr.new z AC A1 n1 c1).A (Zr.new z AC A1 n1 c1).n (Zr.new z AC A1 n1 c1).c, .slice (Zr.new z AC A1 n1 c1).J (Zr.new z AC A1 n1 c1).jn (Zr.new z AC A1 n1 c1).jc, .int .i64 (m.mid (k + 1) j1).jm.ps.length, .int .i64 (m.mid (k + 1) j1).jm.N, .int .i64 (m.mid (k + 1) j1).jm.T, .int .i64 (m.mid (k + 1) j1).ar, .int .i64 (m.mid (k + 1) j1).pl, .int .i64 (m.mid (k + 1) j1).pd, .bool (m.mid (k + 1) j1).dn]) (hj1 : j1 = j.add p.xs en) (hj : BsR w10 A1 n1 c1 j1.fl) (ho : ∀ x, BlkOf A1 x → BlkOf z.J x ∨ W.heap.size ≤ x) :
    ∀ (w11 : World) (out' : List (List Int)) (A' : Option Addr) (n' c' : Nat) (G : Nat → Prop), St G w10 w11 → (∀ x, G x → w.heap.size + 2 ≤ x ∧ ¬ Tyd 5 w10 x) → OutT w w11 A' n' c' out' → out' = j.outs out p.xs en →
      GoI F w m (k + 1) (z.new AC A1 n1 c1) j1 out' A' n' c' w11 := by
  intro w11 out' A' n' c' G hsG hG hou hout
  subst hj1
  have hsz := h.sz
  have hkl : k < m.ks.length := by
    have := congrArg List.length hdr
    rw [List.length_drop] at this
    simp at this
    omega
  have hz := hs.size
  have hzG := hsG.size
  have hav : m.av = avL (m.base + (k + 1)) (j.add p.xs en) out' t := by
    rw [h.av, hdr, avL_on hsq hf, hout, hen]; rfl
  have htl : m.ks.drop (k + 1) = t := by
    have := congrArg List.tail hdr
    rw [List.tail_drop] at this
    exact this
  have hn1 : 1 ≤ z.n := by
    have := h.kp.len
    rw [hdr] at this
    simp at this
    omega
  have hall : St (fun x => x = w.heap.size ∨ G x) W w11 := (hs.mono fun x _ hx => .inl hx).trans (hsG.mono fun x _ hx => .inr hx) (Gr.refl _ _)
  have hsk : St (fun x => F x ∨ w.heap.size ≤ x) W w11 := hall.mono (fun x _ hx => .inr (hx.elim (fun h' => by omega) (fun h' => by have := (hG x h').1; omega)))
  have hl : j.outs out p.xs en = out ∨ ∃ y, j.outs out p.xs en = out ++ [y] := by
    unfold Jm.outs
    split
    · exact .inr ⟨_, rfl⟩
    · exact .inl rfl
  refine ⟨h.bel.trans (hall.below (by omega) (fun x hx => hx.elim (fun h' => by omega) (fun h' => by have := (hG x h').1; omega))), by omega, hbk.st hsG (fun hg => by have := (hG _ hg).1; omega), (h.zb.st hs (by omega)).st hsG (fun hg => by have := (hG _ hg).1; omega), ?_, hj.stT hsG (fun x hx => (hG x hx).2), ?_, hou, ?_, ?_, by omega, ?_, ?_, ?_, add_op h.op _ _⟩
  · have := (h.kp.cut hn1).st hsk (Gr.refl _ _)
    rw [hdr] at this
    rw [htl]
    show SlP _ w11 AC (z.n - 1) (z.c - 1) t
    rw [hAC]; exact this
  · intro x hx hf'
    rcases ho x hx with h' | h'
    · exact h.jo x h' hf'
    · rcases hf' with h2 | h2
      · have := hF x h2; omega
      · omega
  · rcases hl with h' | ⟨y, h'⟩
    · rw [hout, h']; have := h.ol; omega
    · rw [hout, h', List.length_append]; have := h.ol; simp; omega
  · rw [hav, htl]
  · have := Jm.add_N j p.xs en (m.base + k) h.n0
    rwa [show m.base + k + 1 = m.base + (k + 1) by omega] at this
  · have := Jm.add_T j p.xs en (m.base + k) h.t0
    rwa [show m.base + k + 1 = m.base + (k + 1) by omega] at this
  · have := h.p0
    unfold Jm.add Jm.plus
    split
    · split
      · simp
      · simp; omega
    · omega
set_option maxHeartbeats 8000000 in
theorem r_goes (h : RfR F w z m) (hm : m.Ok) (hd : m.dn = false) (hF : ∀ x, F x → x < w.heap.size) (hl : m.base + m.ks.length ≤ 60000) (hop : m.jm.op ≤ 65536) : Calls Try.prog 44 #[.agg #[.int .i64 z.c0, .int .i64 m.pa, .int .i64 z.c2, .int .i64 z.c3, .int .i64 m.size, .int .i64 z.c5, .int .i64 z.c6, .int .i64 z.c7, .int .i64 z.c8, .int .i64 z.c9, .int .i64 z.c10, .int .i64 z.c11, .int .i64 z.c12, .int .i64 z.c13, .int .i64 m.sr, .int .i64 m.ds, .int .i64 m.cn, .int .i64 m.cl, .int .i64 m.base, .slice z.A z.n z.c, .slice z.J z.jn z.jc, .int .i64 m.jm.ps.length, .int .i64 m.jm.N, .int .i64 m.jm.T, .int .i64 m.ar, .int .i64 m.pl, .int .i64 m.pd, .bool m.dn]] w (GoR F w m) := by
  obtain ⟨W, hW⟩ : ∃ W, W = (w.alloc (.cells #[.int .i64 z.c0, .int .i64 m.pa, .int .i64 z.c2, .int .i64 z.c3, .int .i64 m.size, .int .i64 z.c5, .int .i64 z.c6, .int .i64 z.c7, .int .i64 z.c8, .int .i64 z.c9, .int .i64 z.c10, .int .i64 z.c11, .int .i64 z.c12, .int .i64 z.c13, .int .i64 m.sr, .int .i64 m.ds, .int .i64 m.cn, .int .i64 m.cl, .int .i64 m.base, .slice z.A z.n z.c, .slice z.J z.jn z.jc, .int .i64 m.jm.ps.length, .int .i64 m.jm.N, .int .i64 m.jm.T, .int .i64 m.ar, .int .i64 m.pl, .int .i64 m.pd, .bool m.dn] 34)).alloc (.cells #[.int .i64 0, .int .i64 0, .int .i64 0, .int .i64 0, .int .i64 0, .int .i64 0, .int .i64 0, .int .i64 0, .int .i64 0, .int .i64 0, .int .i64 0, .int .i64 0, .int .i64 0, .int .i64 0, .int .i64 0, .int .i64 0, .int .i64 0, .int .i64 0, .int .i64 0, .slice none 0 0, .slice none 0 0, .int .i64 0, .int .i64 0, .int .i64 0, .int .i64 0, .int .i64 0, .int .i64 0, .bool false] 34) := ⟨_, rfl⟩
  have hb1 : Below w.heap.size w W := by rw [hW]; exact ((Below.refl _ w).alloc (Nat.le_refl _) _).alloc (by simp) _
  have z1 : Bk W 34 w.heap.size [.int .i64 z.c0, .int .i64 m.pa, .int .i64 z.c2, .int .i64 z.c3, .int .i64 m.size, .int .i64 z.c5, .int .i64 z.c6, .int .i64 z.c7, .int .i64 z.c8, .int .i64 z.c9, .int .i64 z.c10, .int .i64 z.c11, .int .i64 z.c12, .int .i64 z.c13, .int .i64 m.sr, .int .i64 m.ds, .int .i64 m.cn, .int .i64 m.cl, .int .i64 m.base, .slice z.A z.n z.c, .slice z.J z.jn z.jc, .int .i64 m.jm.ps.length, .int .i64 m.jm.N, .int .i64 m.jm.T, .int .i64 m.ar, .int .i64 m.pl, .int .i64 m.pd, .bool m.dn] := by rw [hW]; exact (Bk.new w 34 [.int .i64 z.c0, .int .i64 m.pa, .int .i64 z.c2, .int .i64 z.c3, .int .i64 m.size, .int .i64 z.c5, .int .i64 z.c6, .int .i64 z.c7, .int .i64 z.c8, .int .i64 z.c9, .int .i64 z.c10, .int .i64 z.c11, .int .i64 z.c12, .int .i64 z.c13, .int .i64 m.sr, .int .i64 m.ds, .int .i64 m.cn, .int .i64 m.cl, .int .i64 m.base, .slice z.A z.n z.c, .slice z.J z.jn z.jc, .int .i64 m.jm.ps.length, .int .i64 m.jm.N, .int .i64 m.jm.T, .int .i64 m.ar, .int .i64 m.pl, .int .i64 m.pd, .bool m.dn]).alloc _
  have z2 : Bk W 34 (w.heap.size + 1) [.int .i64 0, .int .i64 0, .int .i64 0, .int .i64 0, .int .i64 0, .int .i64 0, .int .i64 0, .int .i64 0, .int .i64 0, .int .i64 0, .int .i64 0, .int .i64 0, .int .i64 0, .int .i64 0, .int .i64 0, .int .i64 0, .int .i64 0, .int .i64 0, .int .i64 0, .slice none 0 0, .slice none 0 0, .int .i64 0, .int .i64 0, .int .i64 0, .int .i64 0, .int .i64 0, .int .i64 0, .bool false] := by
    have := Bk.new (w.alloc (.cells #[.int .i64 z.c0, .int .i64 m.pa, .int .i64 z.c2, .int .i64 z.c3, .int .i64 m.size, .int .i64 z.c5, .int .i64 z.c6, .int .i64 z.c7, .int .i64 z.c8, .int .i64 z.c9, .int .i64 z.c10, .int .i64 z.c11, .int .i64 z.c12, .int .i64 z.c13, .int .i64 m.sr, .int .i64 m.ds, .int .i64 m.cn, .int .i64 m.cl, .int .i64 m.base, .slice z.A z.n z.c, .slice z.J z.jn z.jc, .int .i64 m.jm.ps.length, .int .i64 m.jm.N, .int .i64 m.jm.T, .int .i64 m.ar, .int .i64 m.pl, .int .i64 m.pd, .bool m.dn] 34)) 34 [.int .i64 0, .int .i64 0, .int .i64 0, .int .i64 0, .int .i64 0, .int .i64 0, .int .i64 0, .int .i64 0, .int .i64 0, .int .i64 0, .int .i64 0, .int .i64 0, .int .i64 0, .int .i64 0, .int .i64 0, .int .i64 0, .int .i64 0, .int .i64 0, .int .i64 0, .slice none 0 0, .slice none 0 0, .int .i64 0, .int .i64 0, .int .i64 0, .int .i64 0, .int .i64 0, .int .i64 0, .bool false]
    rw [World.size_alloc] at this
    rw [hW]; exact this
  have hsW : W.heap.size = w.heap.size + 2 := by rw [hW]; simp
  have hI0 : GoI F w m 0 z m.jm [] none 0 0 W :=
    ⟨hb1, by omega, z1, z2, by rw [List.drop_zero]; exact (h.kp.st (St.refl _ _) (fun x hx => hx)).below hb1, h.jn.below hb1, fun x hx hf => hf.elim (h.jo x hx) (fun h' => by have := h.jn.lt x hx; omega), OutT.nil _ _, Nat.le_refl _, rfl, Nat.zero_le _, hm.n0, hm.t0, hm.p0, hop⟩
  have HF := Lib.hid hF
  have HD := Lib.hid hd
  clear z1 z2 h hF hd
  go_enter Try.func44, Try.ntmps44
  go_wp2_with fail
  rw [← hW]
  clear hW
  go_loopw [4, 5, 6, 7, 8, 9] (fun t4 _ _ _ _ _ wr => ∃ k z j out A n c, t4 = .slice A n c ∧ GoI F w m k z j out A n c wr) (fun _ _ _ _ _ _ V => (m.base + m.ks.length + 1) - (match V.cell? ⟨w.heap.size, 18, none⟩ with | some v => (intOf v).toNat | none => 0))
  case atStart => exact ⟨0, z, m.jm, [], none, 0, 0, rfl, hI0⟩
  case round =>
    obtain ⟨k, z, j, out, A, n, c, rfl, hI⟩ := hrel
    have c19 := fun d => (hI.bk.below (Below.drewN_ wr d)).cell 19 rfl
    have c18 := fun d => (hI.bk.below (Below.drewN_ wr d)).cell 18 rfl
    have hkl := hI.kp.len
    have HI := Lib.hid hI
    have hEX : ∀ (e1 : m.av = ⟨m.base + k, m.ks.drop k, j, out, false⟩), ([.int .i64 z.c0, .int .i64 (m.mid k j).pa, .int .i64 z.c2, .int .i64 z.c3, .int .i64 (m.mid k j).size, .int .i64 z.c5, .int .i64 z.c6, .int .i64 z.c7, .int .i64 z.c8, .int .i64 z.c9, .int .i64 z.c10, .int .i64 z.c11, .int .i64 z.c12, .int .i64 z.c13, .int .i64 (m.mid k j).sr, .int .i64 (m.mid k j).ds, .int .i64 (m.mid k j).cn, .int .i64 (m.mid k j).cl, .int .i64 (m.mid k j).base, .slice z.A z.n z.c, .slice z.J z.jn z.jc, .int .i64 (m.mid k j).jm.ps.length, .int .i64 (m.mid k j).jm.N, .int .i64 (m.mid k j).jm.T, .int .i64 (m.mid k j).ar, .int .i64 (m.mid k j).pl, .int .i64 (m.mid k j).pd, .bool (m.mid k j).dn] : List Value) = [.int .i64 z.c0, .int .i64 m.adv.pa, .int .i64 z.c2, .int .i64 z.c3, .int .i64 m.adv.size, .int .i64 z.c5, .int .i64 z.c6, .int .i64 z.c7, .int .i64 z.c8, .int .i64 z.c9, .int .i64 z.c10, .int .i64 z.c11, .int .i64 z.c12, .int .i64 z.c13, .int .i64 m.adv.sr, .int .i64 m.adv.ds, .int .i64 m.adv.cn, .int .i64 m.adv.cl, .int .i64 m.adv.base, .slice z.A z.n z.c, .slice z.J z.jn z.jc, .int .i64 m.adv.jm.ps.length, .int .i64 m.adv.jm.N, .int .i64 m.adv.jm.T, .int .i64 m.adv.ar, .int .i64 m.adv.pl, .int .i64 m.adv.pd, .bool m.adv.dn] := fun e1 => LR_mid HD.out e1
    have HEX := Lib.hid hEX
    clear hI hEX
    cases hdr : m.ks.drop k with
    | nil =>
      rw [hdr] at hkl
      have hn0 : z.n = 0 := hkl.symm
      have HAV : Hid (m.av = ⟨m.base + k, m.ks.drop k, j, out, false⟩) := Lib.hid (by rw [HI.out.av, hdr]; rfl)
      clear hdr hkl
      go_wp2
      go_quiet (fail)
      clear hn0 c19 c18
      go_wp2_with (first
        | (with_reducible refine at_load 34 (.tmp 1) (by rfl) ?_
           go_loud (refine wpList_load_bk rowRv rfl (.tmp 1) rfl w.heap.size 0 rfl (HI.out.bk.below (Below.drewN_ wr _)) [.int .i64 z.c0, .int .i64 (m.mid k j).pa, .int .i64 z.c2, .int .i64 z.c3, .int .i64 (m.mid k j).size, .int .i64 z.c5, .int .i64 z.c6, .int .i64 z.c7, .int .i64 z.c8, .int .i64 z.c9, .int .i64 z.c10, .int .i64 z.c11, .int .i64 z.c12, .int .i64 z.c13, .int .i64 (m.mid k j).sr, .int .i64 (m.mid k j).ds, .int .i64 (m.mid k j).cn, .int .i64 (m.mid k j).cl, .int .i64 (m.mid k j).base, .slice z.A z.n z.c, .slice z.J z.jn z.jc, .int .i64 (m.mid k j).jm.ps.length, .int .i64 (m.mid k j).jm.N, .int .i64 (m.mid k j).jm.T, .int .i64 (m.mid k j).ar, .int .i64 (m.mid k j).pl, .int .i64 (m.mid k j).pd, .bool (m.mid k j).dn] rfl rfl ?_))
        | (with_reducible refine at_store 34 (.tmp 2) (.tmp 64) (by rfl) ?_
           go_loud (refine wpList_store_bk rowRv rfl (.tmp 2) (.tmp 64) rfl (w.heap.size + 1) 0 rfl (HI.out.zb.below (Below.drewN_ wr _)) [.int .i64 z.c0, .int .i64 (m.mid k j).pa, .int .i64 z.c2, .int .i64 z.c3, .int .i64 (m.mid k j).size, .int .i64 z.c5, .int .i64 z.c6, .int .i64 z.c7, .int .i64 z.c8, .int .i64 z.c9, .int .i64 z.c10, .int .i64 z.c11, .int .i64 z.c12, .int .i64 z.c13, .int .i64 (m.mid k j).sr, .int .i64 (m.mid k j).ds, .int .i64 (m.mid k j).cn, .int .i64 (m.mid k j).cl, .int .i64 (m.mid k j).base, .slice z.A z.n z.c, .slice z.J z.jn z.jc, .int .i64 (m.mid k j).jm.ps.length, .int .i64 (m.mid k j).jm.N, .int .i64 (m.mid k j).jm.T, .int .i64 (m.mid k j).ar, .int .i64 (m.mid k j).pl, .int .i64 (m.mid k j).pd, .bool (m.mid k j).dn] rfl rfl (by decide) (Rm.rl_one (m.mid k j) z) ?_)
           rintro w9 z9 hw9
           rw [lay_all _ _ (by rfl)] at z9))
      obtain ⟨r1, r2, r3⟩ := GoI.stop (HI.out.below (Below.drewN_ wr _)) HF.out HD.out HAV.out hw9
      have e9 := HEX.out HAV.out
      refine bodyPost_ret (results_cell_tmp rfl rfl (rowRv.load z9 0 (cs := [.int .i64 z.c0, .int .i64 (m.mid k j).pa, .int .i64 z.c2, .int .i64 z.c3, .int .i64 (m.mid k j).size, .int .i64 z.c5, .int .i64 z.c6, .int .i64 z.c7, .int .i64 z.c8, .int .i64 z.c9, .int .i64 z.c10, .int .i64 z.c11, .int .i64 z.c12, .int .i64 z.c13, .int .i64 (m.mid k j).sr, .int .i64 (m.mid k j).ds, .int .i64 (m.mid k j).cn, .int .i64 (m.mid k j).cl, .int .i64 (m.mid k j).base, .slice z.A z.n z.c, .slice z.J z.jn z.jc, .int .i64 (m.mid k j).jm.ps.length, .int .i64 (m.mid k j).jm.N, .int .i64 (m.mid k j).jm.T, .int .i64 (m.mid k j).ar, .int .i64 (m.mid k j).pl, .int .i64 (m.mid k j).pd, .bool (m.mid k j).dn]) rfl rfl)) rfl ⟨z, A, n, c, ?_, r1, r2, r3⟩
      rw [e9]
      rfl
    | cons p t =>
      rw [hdr] at hkl
      have hkl : t.length + 1 = z.n := hkl
      have hn1 : 0 < z.n := by omega
      obtain ⟨g, o, q, hA, hra, hpv, hq, hg⟩ := HI.out.kp.head hn1
      rw [hdr] at hq
      have hq : q.pk = p := hq
      have HDR := Lib.hid hdr
      rw [hA] at c19
      have cs : ∀ d, (wr.drewN d).cell? ⟨g, o + 6, none⟩ = some (.int .i64 q.h.sq) := fun d => range_below hra hg (Below.drewN_ wr d) 6 _ rfl
      by_cases he : q.h.sq = ((m.base + k : Nat) : Int)
      · have heb : (q.h.sq == (((m.mid k j).base : Nat) : Int)) = true := by rw [beq_iff_eq]; exact he
        have HSQ := Lib.hid he
        have HPQ := Lib.hid hq
        have HPV := Lib.hid hpv
        have HRA := Lib.hid (And.intro hra hg)
        have hnk : z.n ≤ 1000000 := by have := HI.out.le; have h2 := HI.out.kp.len; rw [List.length_drop] at h2; omega
        clear he hq hpv hra hg hdr hkl
        go_wp2
        go_quiet (fail)
        have hnc := HI.out.kp
        obtain ⟨AC, hAC⟩ : ∃ AC, AC = cutR (some ⟨g, o, none⟩) z.c 1 9 := ⟨_, rfl⟩
        have hcut : ∀ V : World, (Instr.slice 29 (.slice (some ⟨g, o, none⟩) z.n z.c) (some (.int .i64 1)) none none).run Try.prog V = .ok (.slice AC (z.n - 1) (z.c - 1)) V := fun V => by rw [hAC]; exact eltP.run_cut (some ⟨g, o, none⟩) z.n z.c 1 (by omega) (by obtain ⟨qs, h1, h2, h3⟩ := hnc; exact h2.2.1) V
        have HAC := Lib.hid (And.intro hAC hA)
        clear hAC
        have hwz : w.heap.size < wr.heap.size := by have := HI.out.sz; omega
        have hbs : m.base + k ≤ 60000 := by have := HI.out.le; omega
        have hmb : (m.mid k j).base ≤ 60000 := hbs
        clear hnc heb cs
        go_wp2_with (first
          | (with_reducible refine at_load 40 (.tmp 26) (by rfl) ?_
             refine wpList_load_pk rowP rfl (.tmp 26) rfl q g o rfl (range_below HRA.out.1 HRA.out.2 (Below.drewN_ wr _)) ?_)
          | (with_reducible refine at_store 40 (.tmp 5) (.tmp 27) (by rfl) ?_
             refine wpList_put_pk rowP rfl (.tmp 5) (.tmp 27) rfl wr.heap.size rfl (Bk.new (wr.drewN _) 40 [.int .i64 0, .int .i64 0, .int .i64 0, .int .i64 0, .int .i64 0, .int .i64 0, .int .i64 0, .int .i64 0, .slice none 0 0]) rfl q rfl ?_
             intro V1 zv1 hv1
             have hbv : Below wr.heap.size wr V1 := ((Below.drewN_ wr _).trans (ext1 (wr.drewN _) (.cells #[.int .i64 0, .int .i64 0, .int .i64 0, .int .i64 0, .int .i64 0, .int .i64 0, .int .i64 0, .int .i64 0, .slice none 0 0] 40))).trans (hv1.below (Nat.le_refl _) (ext1 (wr.drewN _) (.cells #[.int .i64 0, .int .i64 0, .int .i64 0, .int .i64 0, .int .i64 0, .int .i64 0, .int .i64 0, .int .i64 0, .slice none 0 0] 40)).size)
             have bv := HI.out.bk.below hbv
             have c19 := bv.cell 19 rfl
             have f19 := bv.free 19
             have c18 := bv.cell 18 rfl
             have f18 := bv.free 18
             have d1 := zv1.cell 1 rfl))
        have hgz := hbv.size
        have HBV := Lib.hid hbv
        have HZV := Lib.hid zv1
        obtain ⟨V5, hV5⟩ : ∃ V5, V5 = (V1.setCell ⟨w.heap.size, 19, none⟩ (.slice AC (z.n - 1) (z.c - 1))).setCell ⟨w.heap.size, 18, none⟩ (.int .i64 (((m.mid k j).base : Int) + 1)) := ⟨_, rfl⟩
        have bk5 : Bk V5 34 w.heap.size [.int .i64 (Zr.cut z AC).c0, .int .i64 (m.mid (k + 1) j).pa, .int .i64 (Zr.cut z AC).c2, .int .i64 (Zr.cut z AC).c3, .int .i64 (m.mid (k + 1) j).size, .int .i64 (Zr.cut z AC).c5, .int .i64 (Zr.cut z AC).c6, .int .i64 (Zr.cut z AC).c7, .int .i64 (Zr.cut z AC).c8, .int .i64 (Zr.cut z AC).c9, .int .i64 (Zr.cut z AC).c10, .int .i64 (Zr.cut z AC).c11, .int .i64 (Zr.cut z AC).c12, .int .i64 (Zr.cut z AC).c13, .int .i64 (m.mid (k + 1) j).sr, .int .i64 (m.mid (k + 1) j).ds, .int .i64 (m.mid (k + 1) j).cn, .int .i64 (m.mid (k + 1) j).cl, .int .i64 (m.mid (k + 1) j).base, .slice (Zr.cut z AC).A (Zr.cut z AC).n (Zr.cut z AC).c, .slice (Zr.cut z AC).J (Zr.cut z AC).jn (Zr.cut z AC).jc, .int .i64 (m.mid (k + 1) j).jm.ps.length, .int .i64 (m.mid (k + 1) j).jm.N, .int .i64 (m.mid (k + 1) j).jm.T, .int .i64 (m.mid (k + 1) j).ar, .int .i64 (m.mid (k + 1) j).pl, .int .i64 (m.mid (k + 1) j).pd, .bool (m.mid (k + 1) j).dn] := by
          rw [hV5]
          have := (bv.set 19 (.slice AC (z.n - 1) (z.c - 1))).set 18 (.int .i64 (((m.mid k j).base : Int) + 1))
          rw [show ((m.mid k j).base : Int) + 1 = ((m.base + (k + 1) : Nat) : Int) from by show ((m.base + k : Nat) : Int) + 1 = _; omega] at this ⊢
          exact this
        have hs5 : St (· = w.heap.size) V1 V5 := by rw [hV5]; exact (St.setCell (F := (· = w.heap.size)) V1 (a := ⟨w.heap.size, 19, none⟩) rfl _).trans (St.setCell (F := (· = w.heap.size)) _ (a := ⟨w.heap.size, 18, none⟩) rfl _) (Gr.refl _ _)
        rw [← hV5]
        have HB5 := Lib.hid bk5
        have HS5 := Lib.hid hs5
        have z5 := Lib.hid (zv1.st hs5 (by omega))
        have hlt5 : w.heap.size < wr.heap.size := hwz
        clear hV5 bk5 hs5 bv c19 f19 c18 f18 d1 hv1 hbv zv1 hcut
        have HH4 := Lib.hid (rhas_any q.h.fl 4 V5 (by decide) (by decide) HPV.out.fl)
        refine HH4.out.mono ?_
        rintro en V6 ⟨rfl, rfl⟩
        clear HH4
        cases hf : hasB q.h.fl 4 with
        | true =>
          have HAV : Hid (m.av = ⟨m.base + k + 1, [], j, out, true⟩) := Lib.hid (by rw [HI.out.av, HDR.out]; exact avL_fin (by rw [← HPQ.out]; exact HSQ.out) (by rw [← HPQ.out]; exact hf))
          have c27 := HB5.out.cell 27 rfl
          have f27 := HB5.out.free 27
          have c26 := HB5.out.cell 26 rfl
          have f26 := HB5.out.free 26
          have c19 := HB5.out.cell 19 rfl
          have f19 := HB5.out.free 19
          have bk8 : Bk (((V5.setCell ⟨w.heap.size, 27, none⟩ (.bool true)).setCell ⟨w.heap.size, 26, none⟩ (.int .i64 0)).setCell ⟨w.heap.size, 19, none⟩ (.slice none 0 0)) 34 w.heap.size [.int .i64 (Zr.fin z).c0, .int .i64 (Rm.fins (m.mid (k + 1) j)).pa, .int .i64 (Zr.fin z).c2, .int .i64 (Zr.fin z).c3, .int .i64 (Rm.fins (m.mid (k + 1) j)).size, .int .i64 (Zr.fin z).c5, .int .i64 (Zr.fin z).c6, .int .i64 (Zr.fin z).c7, .int .i64 (Zr.fin z).c8, .int .i64 (Zr.fin z).c9, .int .i64 (Zr.fin z).c10, .int .i64 (Zr.fin z).c11, .int .i64 (Zr.fin z).c12, .int .i64 (Zr.fin z).c13, .int .i64 (Rm.fins (m.mid (k + 1) j)).sr, .int .i64 (Rm.fins (m.mid (k + 1) j)).ds, .int .i64 (Rm.fins (m.mid (k + 1) j)).cn, .int .i64 (Rm.fins (m.mid (k + 1) j)).cl, .int .i64 (Rm.fins (m.mid (k + 1) j)).base, .slice (Zr.fin z).A (Zr.fin z).n (Zr.fin z).c, .slice (Zr.fin z).J (Zr.fin z).jn (Zr.fin z).jc, .int .i64 (Rm.fins (m.mid (k + 1) j)).jm.ps.length, .int .i64 (Rm.fins (m.mid (k + 1) j)).jm.N, .int .i64 (Rm.fins (m.mid (k + 1) j)).jm.T, .int .i64 (Rm.fins (m.mid (k + 1) j)).ar, .int .i64 (Rm.fins (m.mid (k + 1) j)).pl, .int .i64 (Rm.fins (m.mid (k + 1) j)).pd, .bool (Rm.fins (m.mid (k + 1) j)).dn] := ((HB5.out.set 27 (.bool true)).set 26 (.int .i64 0)).set 19 (.slice none 0 0)
          have hs8 : St (· = w.heap.size) V5 (((V5.setCell ⟨w.heap.size, 27, none⟩ (.bool true)).setCell ⟨w.heap.size, 26, none⟩ (.int .i64 0)).setCell ⟨w.heap.size, 19, none⟩ (.slice none 0 0)) := ((St.setCell (F := (· = w.heap.size)) V5 (a := ⟨w.heap.size, 27, none⟩) rfl _).trans (St.setCell (F := (· = w.heap.size)) _ (a := ⟨w.heap.size, 26, none⟩) rfl _) (Gr.refl _ _)).trans (St.setCell (F := (· = w.heap.size)) _ (a := ⟨w.heap.size, 19, none⟩) rfl _) (Gr.refl _ _)
          have hz8 := (((HI.out.zb.below HBV.out).st HS5.out (by omega)).st hs8 (by omega))
          have hst : St (· = w.heap.size) wr (((V5.setCell ⟨w.heap.size, 27, none⟩ (.bool true)).setCell ⟨w.heap.size, 26, none⟩ (.int .i64 0)).setCell ⟨w.heap.size, 19, none⟩ (.slice none 0 0)) := ((St.ext HBV.out).trans HS5.out (Gr.refl _ _)).trans hs8 (Gr.refl _ _)
          have HST := Lib.hid hst
          have HBK8 := Lib.hid bk8
          have HZ8 := Lib.hid hz8
          clear hst bk8 hz8 hs8 hf
          go_wp2_with (first
            | (with_reducible refine at_load 34 (.tmp 1) (by rfl) ?_
               refine wpList_load_bk rowRv rfl (.tmp 1) rfl w.heap.size 0 rfl HBK8.out [.int .i64 (Zr.fin z).c0, .int .i64 (Rm.fins (m.mid (k + 1) j)).pa, .int .i64 (Zr.fin z).c2, .int .i64 (Zr.fin z).c3, .int .i64 (Rm.fins (m.mid (k + 1) j)).size, .int .i64 (Zr.fin z).c5, .int .i64 (Zr.fin z).c6, .int .i64 (Zr.fin z).c7, .int .i64 (Zr.fin z).c8, .int .i64 (Zr.fin z).c9, .int .i64 (Zr.fin z).c10, .int .i64 (Zr.fin z).c11, .int .i64 (Zr.fin z).c12, .int .i64 (Zr.fin z).c13, .int .i64 (Rm.fins (m.mid (k + 1) j)).sr, .int .i64 (Rm.fins (m.mid (k + 1) j)).ds, .int .i64 (Rm.fins (m.mid (k + 1) j)).cn, .int .i64 (Rm.fins (m.mid (k + 1) j)).cl, .int .i64 (Rm.fins (m.mid (k + 1) j)).base, .slice (Zr.fin z).A (Zr.fin z).n (Zr.fin z).c, .slice (Zr.fin z).J (Zr.fin z).jn (Zr.fin z).jc, .int .i64 (Rm.fins (m.mid (k + 1) j)).jm.ps.length, .int .i64 (Rm.fins (m.mid (k + 1) j)).jm.N, .int .i64 (Rm.fins (m.mid (k + 1) j)).jm.T, .int .i64 (Rm.fins (m.mid (k + 1) j)).ar, .int .i64 (Rm.fins (m.mid (k + 1) j)).pl, .int .i64 (Rm.fins (m.mid (k + 1) j)).pd, .bool (Rm.fins (m.mid (k + 1) j)).dn] rfl rfl ?_)
            | (with_reducible refine at_store 34 (.tmp 2) (.tmp 42) (by rfl) ?_
               refine wpList_store_bk rowRv rfl (.tmp 2) (.tmp 42) rfl (w.heap.size + 1) 0 rfl HZ8.out [.int .i64 (Zr.fin z).c0, .int .i64 (Rm.fins (m.mid (k + 1) j)).pa, .int .i64 (Zr.fin z).c2, .int .i64 (Zr.fin z).c3, .int .i64 (Rm.fins (m.mid (k + 1) j)).size, .int .i64 (Zr.fin z).c5, .int .i64 (Zr.fin z).c6, .int .i64 (Zr.fin z).c7, .int .i64 (Zr.fin z).c8, .int .i64 (Zr.fin z).c9, .int .i64 (Zr.fin z).c10, .int .i64 (Zr.fin z).c11, .int .i64 (Zr.fin z).c12, .int .i64 (Zr.fin z).c13, .int .i64 (Rm.fins (m.mid (k + 1) j)).sr, .int .i64 (Rm.fins (m.mid (k + 1) j)).ds, .int .i64 (Rm.fins (m.mid (k + 1) j)).cn, .int .i64 (Rm.fins (m.mid (k + 1) j)).cl, .int .i64 (Rm.fins (m.mid (k + 1) j)).base, .slice (Zr.fin z).A (Zr.fin z).n (Zr.fin z).c, .slice (Zr.fin z).J (Zr.fin z).jn (Zr.fin z).jc, .int .i64 (Rm.fins (m.mid (k + 1) j)).jm.ps.length, .int .i64 (Rm.fins (m.mid (k + 1) j)).jm.N, .int .i64 (Rm.fins (m.mid (k + 1) j)).jm.T, .int .i64 (Rm.fins (m.mid (k + 1) j)).ar, .int .i64 (Rm.fins (m.mid (k + 1) j)).pl, .int .i64 (Rm.fins (m.mid (k + 1) j)).pd, .bool (Rm.fins (m.mid (k + 1) j)).dn] rfl rfl (by decide) (Rm.rl_one (Rm.fins (m.mid (k + 1) j)) z.fin) ?_
               rintro w9 z9 hw9
               rw [lay_all _ _ (by rfl)] at z9))
          have hsz := HI.out.sz
          have hws := HST.out.size
          obtain ⟨r1, r2⟩ := HI.out.stopF HAV.out HST.out hw9
          have e9 := LR_fin (z := z) HAV.out
          refine bodyPost_ret (results_cell_tmp rfl rfl (rowRv.load z9 0 (cs := [.int .i64 (Zr.fin z).c0, .int .i64 (Rm.fins (m.mid (k + 1) j)).pa, .int .i64 (Zr.fin z).c2, .int .i64 (Zr.fin z).c3, .int .i64 (Rm.fins (m.mid (k + 1) j)).size, .int .i64 (Zr.fin z).c5, .int .i64 (Zr.fin z).c6, .int .i64 (Zr.fin z).c7, .int .i64 (Zr.fin z).c8, .int .i64 (Zr.fin z).c9, .int .i64 (Zr.fin z).c10, .int .i64 (Zr.fin z).c11, .int .i64 (Zr.fin z).c12, .int .i64 (Zr.fin z).c13, .int .i64 (Rm.fins (m.mid (k + 1) j)).sr, .int .i64 (Rm.fins (m.mid (k + 1) j)).ds, .int .i64 (Rm.fins (m.mid (k + 1) j)).cn, .int .i64 (Rm.fins (m.mid (k + 1) j)).cl, .int .i64 (Rm.fins (m.mid (k + 1) j)).base, .slice (Zr.fin z).A (Zr.fin z).n (Zr.fin z).c, .slice (Zr.fin z).J (Zr.fin z).jn (Zr.fin z).jc, .int .i64 (Rm.fins (m.mid (k + 1) j)).jm.ps.length, .int .i64 (Rm.fins (m.mid (k + 1) j)).jm.N, .int .i64 (Rm.fins (m.mid (k + 1) j)).jm.T, .int .i64 (Rm.fins (m.mid (k + 1) j)).ar, .int .i64 (Rm.fins (m.mid (k + 1) j)).pl, .int .i64 (Rm.fins (m.mid (k + 1) j)).pd, .bool (Rm.fins (m.mid (k + 1) j)).dn]) rfl rfl)) rfl ⟨z.fin, A, n, c, ?_, r1, r2, (HI.out.bel.trans (HST.out.below (by omega) (fun x hx => by omega))).trans (hw9.below (by omega) (by omega))⟩
          rw [e9]
          rfl
        | false =>
          go_wp2_with fail
          refine wp_region_E (Below V5.heap.size) (by kernel_rfl) (fun wd hbd hsz => ?_)
          have HBD := Lib.hid hbd
          have hlv : wr.heap.size < V5.heap.size := z5.out.lt
          have q1 : ∀ V, Below V5.heap.size wd V → V.cell? ⟨wr.heap.size, 8, none⟩ = some (.slice q.A q.n q.c) := fun V hV => (z5.out.keep (HBD.out.trans hV) hlv).cell 8 rfl
          have q2 : ∀ V, Below V5.heap.size wd V → V.cell? ⟨wr.heap.size, 1, none⟩ = some (.int .i64 q.h.fl) := fun V hV => (z5.out.keep (HBD.out.trans hV) hlv).cell 1 rfl
          have hdz := hbd.size
          have HJ5 : Hid (BsR wd z.J z.jn z.jc j.fl) := Lib.hid (((HI.out.jn.below HBV.out).st HS5.out (fun x hx he => HI.out.jo x hx (.inr ⟨by omega, by omega⟩))).below hbd)
          have HP5 : Hid (Rd .u8 wd q.A q.n q.c q.xs) := Lib.hid ((((HPV.out.1.below HBV.out).st HS5.out (fun hn ad he hk => HPV.out.2.2.2 hn ad he (.inr (by show w.heap.size ≤ ad.block; omega)))).below hbd))
          have HNT : Hid ((0 ≤ j.N ∧ j.N ≤ 1000000000) ∧ (0 ≤ j.T ∧ j.T ≤ 1000000000000000) ∧ j.ps.length ≤ 65536) := Lib.hid (by have := HI.out.n0; have := HI.out.t0; have := HI.out.p0; omega)
          clear hsz
          (refine takeE (belowTr V5.heap.size) 0 (by simp only [List.getElem?_toArray, List.getElem?_cons_succ, List.getElem?_cons_zero]; rfl) (by kernel_rfl) (by kernel_rfl) (by kernel_rfl) (by exact fun _ _ _ h => h) (by first | (refine Or.inl ⟨by rfl, ?_⟩; intro W hW; go_simp; try with_reducible rfl) | exact Or.inr ⟨by rfl, rfl⟩) ?_; try simp only [Act.put, List.setIfInBounds_toArray, List.set_cons_zero, List.set_cons_succ])
          (refine takeE (belowTr V5.heap.size) 2 (by simp only [List.getElem?_toArray, List.getElem?_cons_succ, List.getElem?_cons_zero]; rfl) (by kernel_rfl) (by kernel_rfl) (by kernel_rfl) (by exact fun _ _ _ h => h) (by first | (refine Or.inl ⟨by rfl, ?_⟩; intro W hW; go_simp; try with_reducible rfl) | exact Or.inr ⟨by rfl, rfl⟩) ?_; try simp only [Act.put, List.setIfInBounds_toArray, List.set_cons_zero, List.set_cons_succ])
          (refine takeE (belowTr V5.heap.size) 4 (by simp only [List.getElem?_toArray, List.getElem?_cons_succ, List.getElem?_cons_zero]; rfl) (by kernel_rfl) (by kernel_rfl) (by kernel_rfl) (by exact fun _ _ _ h => h) (by first | (refine Or.inl ⟨by rfl, ?_⟩; intro W hW; go_simp; try with_reducible rfl) | exact Or.inr ⟨by rfl, rfl⟩) ?_; try simp only [Act.put, List.setIfInBounds_toArray, List.set_cons_zero, List.set_cons_succ])
          (refine takeE (belowTr V5.heap.size) 1 (by simp only [List.getElem?_toArray, List.getElem?_cons_succ, List.getElem?_cons_zero]; rfl) (by kernel_rfl) (by kernel_rfl) (by kernel_rfl) (by exact fun _ _ _ h => h) (by first | (refine Or.inl ⟨by rfl, ?_⟩; intro W hW; exact exec_load_bk rowJ _ rfl w.heap.size 20 rfl (HB5.out.keep (HBD.out.trans hW) (by omega)) (rL j z.J z.jn z.jc) rfl rfl) | exact Or.inr ⟨by rfl, rfl⟩) ?_; try simp only [Act.put, List.setIfInBounds_toArray, List.set_cons_zero, List.set_cons_succ])
          (refine takeE (belowTr V5.heap.size) 3 (by simp only [List.getElem?_toArray, List.getElem?_cons_succ, List.getElem?_cons_zero]; rfl) (by kernel_rfl) (by kernel_rfl) (by kernel_rfl) (by exact fun _ _ _ h => h) (by first | (refine Or.inl ⟨by rfl, ?_⟩; intro W hW; go_simp; try with_reducible rfl) | exact Or.inr ⟨by rfl, rfl⟩) ?_; try simp only [Act.put, List.setIfInBounds_toArray, List.set_cons_zero, List.set_cons_succ])
          (refine takeE (belowTr V5.heap.size) 5 (by simp only [List.getElem?_toArray, List.getElem?_cons_succ, List.getElem?_cons_zero]; rfl) (by kernel_rfl) (by kernel_rfl) (by kernel_rfl) (by exact fun _ _ _ h => h) (by first | (refine Or.inl ⟨by rfl, ?_⟩; intro W hW; go_simp; try with_reducible rfl) | exact Or.inr ⟨by rfl, rfl⟩) ?_; try simp only [Act.put, List.setIfInBounds_toArray, List.set_cons_zero, List.set_cons_succ])
          refine wpAnyE_two (i := 6) (j := 13) (by kernel_rfl) (by simp only [List.getElem?_toArray, List.getElem?_cons_succ, List.getElem?_cons_zero]; rfl) (by simp only [List.getElem?_toArray, List.getElem?_cons_succ, List.getElem?_cons_zero]; rfl) (fun K hK => ?_) (fun K hK => ?_)
          ·
            go_simp
            refine (rhas_any q.h.fl 2 _ (by decide) (by decide) HPV.out.fl).mono ?_
            rintro en w6' ⟨rfl, rfl⟩
            refine hK.out _ _ (Below.refl _ _) ?_
            clear hK K
            try simp only [Act.put, List.setIfInBounds_toArray, List.set_cons_zero, List.set_cons_succ]
            refine wpAnyE_two (i := 7) (j := 13) (by kernel_rfl) (by simp only [List.getElem?_toArray, List.getElem?_cons_succ, List.getElem?_cons_zero]; rfl) (by simp only [List.getElem?_toArray, List.getElem?_cons_succ, List.getElem?_cons_zero]; rfl) (fun K hK => ?_) (fun K hK => ?_)
            ·
              go_simp
              refine (r_add (m := j) (xs := q.xs) HJ5.out HP5.out (hasB q.h.fl 2) HI.out.op HNT.out.2.2 HNT.out.1 HNT.out.2.1).mono ?_
              rintro en w7 ⟨A1, n1, c1, A2, n2, c2, rfl, hj7, ht7, hk7, _, hb7⟩
              have HJ7 := Lib.hid (And.intro hj7 (And.intro ht7 hk7))
              have HB7 := Lib.hid hb7
              have hz7 := hb7.size
              clear hj7 ht7 hk7 hb7
              refine hK.out _ _ (HB7.out.mono (by first | exact hdz | (simp; omega))) ?_
              clear hK K
              try simp only [Act.put, List.setIfInBounds_toArray, List.set_cons_zero, List.set_cons_succ]
              (refine takeE (belowTr V5.heap.size) 8 (by simp only [List.getElem?_toArray, List.getElem?_cons_succ, List.getElem?_cons_zero]; rfl) (by kernel_rfl) (by kernel_rfl) (by kernel_rfl) (by exact fun _ _ _ h => h) (by first | (refine Or.inl ⟨by rfl, ?_⟩; intro W hW; go_simp; try with_reducible rfl) | exact Or.inr ⟨by rfl, rfl⟩) ?_; try simp only [Act.put, List.setIfInBounds_toArray, List.set_cons_zero, List.set_cons_succ])
              (refine takeE (belowTr V5.heap.size) 9 (by simp only [List.getElem?_toArray, List.getElem?_cons_succ, List.getElem?_cons_zero]; rfl) (by kernel_rfl) (by kernel_rfl) (by kernel_rfl) (by exact fun _ _ _ h => h) (by first | (refine Or.inl ⟨by rfl, ?_⟩; intro W hW; go_simp; try with_reducible rfl) | exact Or.inr ⟨by rfl, rfl⟩) ?_; try simp only [Act.put, List.setIfInBounds_toArray, List.set_cons_zero, List.set_cons_succ])
              (refine takeE (belowTr V5.heap.size) 10 (by simp only [List.getElem?_toArray, List.getElem?_cons_succ, List.getElem?_cons_zero]; rfl) (by kernel_rfl) (by kernel_rfl) (by kernel_rfl) (by exact fun _ _ _ h => h) (by first | (refine Or.inl ⟨by rfl, ?_⟩; intro W hW; go_simp; try with_reducible rfl) | exact Or.inr ⟨by rfl, rfl⟩) ?_; try simp only [Act.put, List.setIfInBounds_toArray, List.set_cons_zero, List.set_cons_succ])
              (refine takeE (belowTr V5.heap.size) 11 (by simp only [List.getElem?_toArray, List.getElem?_cons_succ, List.getElem?_cons_zero]; rfl) (by kernel_rfl) (by kernel_rfl) (by kernel_rfl) (by exact fun _ _ _ h => h) (by first | (refine Or.inl ⟨by rfl, ?_⟩; intro W hW; go_simp; try with_reducible rfl) | exact Or.inr ⟨by rfl, rfl⟩) ?_; try simp only [Act.put, List.setIfInBounds_toArray, List.set_cons_zero, List.set_cons_succ])
              (refine takeE (belowTr V5.heap.size) 12 (by simp only [List.getElem?_toArray, List.getElem?_cons_succ, List.getElem?_cons_zero]; rfl) (by kernel_rfl) (by kernel_rfl) (by kernel_rfl) (by exact fun _ _ _ h => h) (by first | (refine Or.inl ⟨by rfl, ?_⟩; intro W hW; go_simp; try with_reducible rfl) | exact Or.inr ⟨by rfl, rfl⟩) ?_; try simp only [Act.put, List.setIfInBounds_toArray, List.set_cons_zero, List.set_cons_succ])
              refine wpAnyE_one (i := 13) (by kernel_rfl) (by simp only [List.getElem?_toArray, List.getElem?_cons_succ, List.getElem?_cons_zero]; rfl) (fun K hK => ?_)
              go_simp
              skip
              refine hK.out _ _ ((Below.refl _ _).alloc (by first | omega | (simp; omega)) _) ?_
              clear hK K
              try simp only [Act.put, List.setIfInBounds_toArray, List.set_cons_zero, List.set_cons_succ]
              refine wpAnyE_one (i := 14) (by kernel_rfl) (by simp only [List.getElem?_toArray, List.getElem?_cons_succ, List.getElem?_cons_zero]; rfl) (fun K hK => ?_)
              refine opwp_store_bk rowJ rfl (.tmp 6) (.tmp 53) rfl w7.heap.size 0 rfl (Bk.new w7 32 [.slice none 0 0, .int .i64 0, .int .i64 0, .int .i64 0]) (rL (j.add q.xs (hasB q.h.fl 2)) A1 n1 c1) rfl rfl (by decide) (rL_one _ _ _ _) ?_
              intro w9 z9 hw9
              rw [lay_all _ _ (by rfl)] at z9
              have hbX : Below V5.heap.size V5 (w7.alloc (.cells #[.slice none 0 0, .int .i64 0, .int .i64 0, .int .i64 0] 32)) := (HBD.out.trans (HB7.out.mono hdz)).trans ((ext1 w7 (.cells #[.slice none 0 0, .int .i64 0, .int .i64 0, .int .i64 0] 32)).mono (by omega))
              have hz7' := hz7
              (try simp only [World.size_alloc] at hz7')
              have hb9 : Below V5.heap.size (w7.alloc (.cells #[.slice none 0 0, .int .i64 0, .int .i64 0, .int .i64 0] 32)) w9 := hw9.below (by omega) hbX.size
              have HB9 := Lib.hid (hbX.trans hb9)
              have HB9x := Lib.hid hb9
              have HZ9 := Lib.hid z9
              have HJ9 : Hid (BsR w9 A1 n1 c1 (j.add q.xs (hasB q.h.fl 2)).fl ∧ BsR w9 A2 n2 c2 (j.told q.xs (hasB q.h.fl 2)) ∧ ∀ x, BlkOf A1 x → BlkOf z.J x ∨ wr.heap.size ≤ x) := Lib.hid (by
                obtain ⟨a1, a2, a3⟩ := HJ7.out
                have hwS : St (· = w7.heap.size) (w7.alloc (.cells #[.slice none 0 0, .int .i64 0, .int .i64 0, .int .i64 0] 32)) w9 := ⟨hw9.os, hw9.tape, hw9.output, hw9.size, fun x hx hn => hw9.block x hx (by intro he; injection he with he; exact hn he)⟩
                have hgt : ∀ k, k = w7.heap.size → ¬ Tyd 5 (w7.alloc (.cells #[.slice none 0 0, .int .i64 0, .int .i64 0, .int .i64 0] 32)) k := fun k hk => by rw [hk]; exact (Bk.tyd (Bk.new w7 32 [.slice none 0 0, .int .i64 0, .int .i64 0, .int .i64 0])).ne (by decide)
                refine ⟨BsR.stT (a1.below (ext1 _ _)) hwS hgt, BsR.stT (a2.below (ext1 _ _)) hwS hgt, fun x hx => (a3 x hx).imp id (fun h => ?_)⟩
                (try simp only [World.size_alloc] at h)
                omega)
              clear hbX hb9 z9 hw9 hz7'
              refine hK.out _ _ HB9x.out ?_
              clear hK K
              try simp only [Act.put, List.setIfInBounds_toArray, List.set_cons_zero, List.set_cons_succ]
              (refine takeE (belowTr V5.heap.size) 15 (by simp only [List.getElem?_toArray, List.getElem?_cons_succ, List.getElem?_cons_zero]; rfl) (by kernel_rfl) (by kernel_rfl) (by kernel_rfl) (by exact fun _ _ _ h => h) (by first | (refine Or.inl ⟨by rfl, ?_⟩; intro W hW; go_simp; try with_reducible rfl) | exact Or.inr ⟨by rfl, rfl⟩) ?_; try simp only [Act.put, List.setIfInBounds_toArray, List.set_cons_zero, List.set_cons_succ])
              (refine takeE (belowTr V5.heap.size) 16 (by simp only [List.getElem?_toArray, List.getElem?_cons_succ, List.getElem?_cons_zero]; rfl) (by kernel_rfl) (by kernel_rfl) (by kernel_rfl) (by exact fun _ _ _ h => h) (by first | (refine Or.inl ⟨by rfl, ?_⟩; intro W hW; go_simp; try with_reducible rfl) | exact Or.inr ⟨by rfl, rfl⟩) ?_; try simp only [Act.put, List.setIfInBounds_toArray, List.set_cons_zero, List.set_cons_succ])
              (refine takeE (belowTr V5.heap.size) 17 (by simp only [List.getElem?_toArray, List.getElem?_cons_succ, List.getElem?_cons_zero]; rfl) (by kernel_rfl) (by kernel_rfl) (by kernel_rfl) (by exact fun _ _ _ h => h) (by first | (refine Or.inl ⟨by rfl, ?_⟩; intro W hW; go_simp; try with_reducible rfl) | exact Or.inr ⟨by rfl, rfl⟩) ?_; try simp only [Act.put, List.setIfInBounds_toArray, List.set_cons_zero, List.set_cons_succ])
              refine wpAnyE_done (by kernel_rfl) ?_ _
              clear q1 q2
              have hge6 : wr.heap.size ≤ w7.heap.size := by omega
              generalize hg6 : w7.heap.size = g6 at *
              generalize hj1 : j.add q.xs (hasB q.h.fl 2) = j1 at *
              have HJ1 := Lib.hid hj1.symm
              have bk9 := HB5.out.keep HB9.out (by omega)
              have zz9 := HZ9.out
              have hsz2 := HI.out.sz
              clear hg6 hj1
              cases his : j.is q.xs (hasB q.h.fl 2) with
              | false =>
                have HOU : Hid (j.outs out q.xs (hasB q.h.fl 2) = out) := Lib.hid (by unfold Jm.outs; rw [his]; rfl)
                clear his
                go_wp2_with (first
                  | (with_reducible refine at_load 32 (.tmp 6) (by rfl) ?_
                     refine wpList_load_bk rowJ rfl (.tmp 6) rfl g6 0 rfl zz9 (rL j1 A1 n1 c1) rfl rfl ?_)
                  | (with_reducible refine at_store 32 (.tmp 58) (.tmp 57) (by rfl) ?_
                     go_loud (refine wpList_store_bk rowJ rfl (.tmp 58) (.tmp 57) rfl w.heap.size 20 rfl bk9 (rL j1 A1 n1 c1) rfl rfl (by show 20 + 4 ≤ 28; decide) (rL_one _ _ _ _) ?_)
                     rintro w10 z10 hw10
                     go_loud (have HZ10 : Hid (Bk w10 34 w.heap.size [.int .i64 (Zr.new z AC A1 n1 c1).c0, .int .i64 (m.mid (k + 1) j1).pa, .int .i64 (Zr.new z AC A1 n1 c1).c2, .int .i64 (Zr.new z AC A1 n1 c1).c3, .int .i64 (m.mid (k + 1) j1).size, .int .i64 (Zr.new z AC A1 n1 c1).c5, .int .i64 (Zr.new z AC A1 n1 c1).c6, .int .i64 (Zr.new z AC A1 n1 c1).c7, .int .i64 (Zr.new z AC A1 n1 c1).c8, .int .i64 (Zr.new z AC A1 n1 c1).c9, .int .i64 (Zr.new z AC A1 n1 c1).c10, .int .i64 (Zr.new z AC A1 n1 c1).c11, .int .i64 (Zr.new z AC A1 n1 c1).c12, .int .i64 (Zr.new z AC A1 n1 c1).c13, .int .i64 (m.mid (k + 1) j1).sr, .int .i64 (m.mid (k + 1) j1).ds, .int .i64 (m.mid (k + 1) j1).cn, .int .i64 (m.mid (k + 1) j1).cl, .int .i64 (m.mid (k + 1) j1).base, .slice (Zr.new z AC A1 n1 c1).A (Zr.new z AC A1 n1 c1).n (Zr.new z AC A1 n1 c1).c, .slice (Zr.new z AC A1 n1 c1).J (Zr.new z AC A1 n1 c1).jn (Zr.new z AC A1 n1 c1).jc, .int .i64 (m.mid (k + 1) j1).jm.ps.length, .int .i64 (m.mid (k + 1) j1).jm.N, .int .i64 (m.mid (k + 1) j1).jm.T, .int .i64 (m.mid (k + 1) j1).ar, .int .i64 (m.mid (k + 1) j1).pl, .int .i64 (m.mid (k + 1) j1).pd, .bool (m.mid (k + 1) j1).dn]) := Lib.hid z10)
                     have HS10 : Hid (St (· = w.heap.size) w9 w10) := Lib.hid ⟨hw10.os, hw10.tape, hw10.output, hw10.size, fun x hx hn => hw10.block x hx (by intro he; injection he with he; exact hn he)⟩
                     have HT9 : Hid (∀ x, x = w.heap.size → ¬ Tyd 5 w9 x) := Lib.hid (fun x hx => by rw [hx]; exact bk9.tyd.ne (by decide))
                     have HAL : Hid (St (· = w.heap.size) wr w10) := Lib.hid ((((St.ext HBV.out).trans HS5.out (Gr.refl _ _)).trans (St.ext HB9.out) (Gr.refl _ _)).trans HS10.out (Gr.refl _ _))
                     go_loud (have HNX := Lib.hid (HI.out.next (p := p) (t := t) (en := hasB q.h.fl 2) (AC := AC) (A1 := A1) (n1 := n1) (c1 := c1) HF.out HDR.out (by rw [← HPQ.out]; exact HSQ.out) (by rw [← HPQ.out]; exact hf) (by rw [← HPQ.out]; rfl) (by rw [HAC.out.2]; exact HAC.out.1) HAL.out HZ10.out (by rw [← HPQ.out]; exact HJ1.out) (HJ9.out.1.stT HS10.out HT9.out) HJ9.out.2.2))
                     go_loud (have HO10 := Lib.hid (HI.out.ou.st HAL.out (fun x hx => ⟨by omega, by rw [hx]; exact HI.out.bk.tyd.ne (by decide)⟩)))
                     have HM10 := Lib.hid (HJ9.out.2.1.stT HS10.out HT9.out)
                     clear z10 hw10))
                have HNW := Lib.hid (HNX.out w10 _ _ _ _ (fun _ => False) (St.refl _ w10) (fun _ h => h.elim) HO10.out (by rw [← HPQ.out]; exact HOU.out.symm))
                go_roundw
                case rel => exact ⟨k + 1, _, j1, out, A, n, c, by first | rfl | trivial, HNW.out⟩
                case measure =>
                  have e1 := HI.out.bk.cell 18 rfl
                  have e2 := HNW.out.bk.cell 18 rfl
                  have e3 := HI.out.le
                  have e4 := HNW.out.le
                  simp only [e1, e2, intOf]
                  show m.base + m.ks.length + 1 - (((m.base + (k + 1) : Nat) : Int)).toNat < m.base + m.ks.length + 1 - (((m.base + k : Nat) : Int)).toNat
                  omega
              | true =>
                have HOU : Hid (j.outs out q.xs (hasB q.h.fl 2) = out ++ [j.told q.xs (hasB q.h.fl 2)]) := Lib.hid (by unfold Jm.outs; rw [his]; rfl)
                clear his
                go_wp2_with (first
                  | (with_reducible refine at_load 32 (.tmp 6) (by rfl) ?_
                     refine wpList_load_bk rowJ rfl (.tmp 6) rfl g6 0 rfl zz9 (rL j1 A1 n1 c1) rfl rfl ?_)
                  | (with_reducible refine at_store 32 (.tmp 58) (.tmp 57) (by rfl) ?_
                     go_loud (refine wpList_store_bk rowJ rfl (.tmp 58) (.tmp 57) rfl w.heap.size 20 rfl bk9 (rL j1 A1 n1 c1) rfl rfl (by show 20 + 4 ≤ 28; decide) (rL_one _ _ _ _) ?_)
                     rintro w10 z10 hw10
                     go_loud (have HZ10 : Hid (Bk w10 34 w.heap.size [.int .i64 (Zr.new z AC A1 n1 c1).c0, .int .i64 (m.mid (k + 1) j1).pa, .int .i64 (Zr.new z AC A1 n1 c1).c2, .int .i64 (Zr.new z AC A1 n1 c1).c3, .int .i64 (m.mid (k + 1) j1).size, .int .i64 (Zr.new z AC A1 n1 c1).c5, .int .i64 (Zr.new z AC A1 n1 c1).c6, .int .i64 (Zr.new z AC A1 n1 c1).c7, .int .i64 (Zr.new z AC A1 n1 c1).c8, .int .i64 (Zr.new z AC A1 n1 c1).c9, .int .i64 (Zr.new z AC A1 n1 c1).c10, .int .i64 (Zr.new z AC A1 n1 c1).c11, .int .i64 (Zr.new z AC A1 n1 c1).c12, .int .i64 (Zr.new z AC A1 n1 c1).c13, .int .i64 (m.mid (k + 1) j1).sr, .int .i64 (m.mid (k + 1) j1).ds, .int .i64 (m.mid (k + 1) j1).cn, .int .i64 (m.mid (k + 1) j1).cl, .int .i64 (m.mid (k + 1) j1).base, .slice (Zr.new z AC A1 n1 c1).A (Zr.new z AC A1 n1 c1).n (Zr.new z AC A1 n1 c1).c, .slice (Zr.new z AC A1 n1 c1).J (Zr.new z AC A1 n1 c1).jn (Zr.new z AC A1 n1 c1).jc, .int .i64 (m.mid (k + 1) j1).jm.ps.length, .int .i64 (m.mid (k + 1) j1).jm.N, .int .i64 (m.mid (k + 1) j1).jm.T, .int .i64 (m.mid (k + 1) j1).ar, .int .i64 (m.mid (k + 1) j1).pl, .int .i64 (m.mid (k + 1) j1).pd, .bool (m.mid (k + 1) j1).dn]) := Lib.hid z10)
                     have HS10 : Hid (St (· = w.heap.size) w9 w10) := Lib.hid ⟨hw10.os, hw10.tape, hw10.output, hw10.size, fun x hx hn => hw10.block x hx (by intro he; injection he with he; exact hn he)⟩
                     have HT9 : Hid (∀ x, x = w.heap.size → ¬ Tyd 5 w9 x) := Lib.hid (fun x hx => by rw [hx]; exact bk9.tyd.ne (by decide))
                     have HAL : Hid (St (· = w.heap.size) wr w10) := Lib.hid ((((St.ext HBV.out).trans HS5.out (Gr.refl _ _)).trans (St.ext HB9.out) (Gr.refl _ _)).trans HS10.out (Gr.refl _ _))
                     go_loud (have HNX := Lib.hid (HI.out.next (p := p) (t := t) (en := hasB q.h.fl 2) (AC := AC) (A1 := A1) (n1 := n1) (c1 := c1) HF.out HDR.out (by rw [← HPQ.out]; exact HSQ.out) (by rw [← HPQ.out]; exact hf) (by rw [← HPQ.out]; rfl) (by rw [HAC.out.2]; exact HAC.out.1) HAL.out HZ10.out (by rw [← HPQ.out]; exact HJ1.out) (HJ9.out.1.stT HS10.out HT9.out) HJ9.out.2.2))
                     go_loud (have HO10 := Lib.hid (HI.out.ou.st HAL.out (fun x hx => ⟨by omega, by rw [hx]; exact HI.out.bk.tyd.ne (by decide)⟩)))
                     have HM10 := Lib.hid (HJ9.out.2.1.stT HS10.out HT9.out)
                     clear z10 hw10
                     obtain ⟨bs, g1, g2, g3⟩ := HO10.out
                     have hla := (g1.alloc (.cells #[.slice A2 n2 c2] 30)).tight
                     have hu := RdV.one w10 30 (.slice A2 n2 c2) rfl
                     have hnl := g1.1
                     have hol := HI.out.ol
                     have hle := HI.out.le
                     have hbl2 : bs.length = out.length := by rw [← g2]; simp
                     rw [List.length_map] at hnl
                     have HG := Lib.hid (And.intro g1 (And.intro g2 g3))
                     clear g1 g2 g3)
                  | (refine wpList_build_one (x := .slice A2 n2 c2) eltB rfl (.tmp 61) rfl rfl rfl ?_)
                  | (at_builtin
                     refine wpList_append_lst eltB rfl (.tmp 60) (.tmp 62) rfl rfl hla rfl hu (by omega) ?_
                     rintro v w11 hap
                     obtain ⟨A', n', c', rfl, hl'⟩ := hap.ex
                     have HAP := Lib.hid hap
                     clear hap hl'))
                have hba : Below w10.heap.size w10 (w10.alloc (.cells #[.slice A2 n2 c2] 30)) := ext1 _ _
                have hw10z := HAL.out.size
                obtain ⟨A6, n6, c6, he6, hO6, hS6⟩ := OutT.app (b := ⟨A2, n2, c2, j.told q.xs (hasB q.h.fl 2)⟩) HG.out.1 HG.out.2.1 HG.out.2.2 (by omega) HM10.out hba HAP.out
                injection he6 with q1 q2 q3
                subst q1 q2 q3
                have HNW := Lib.hid (HNX.out w11 _ _ _ _ (BlkOf A) hS6 (fun x hx => by
                  obtain ⟨ad, he, hk⟩ := hx
                  exact ⟨hk ▸ (HG.out.1.blk ad he).1, (HG.out.1.tyd x ⟨ad, he, hk⟩).ne (by decide)⟩) hO6 (by rw [← HPQ.out]; exact HOU.out.symm))
                clear hO6 hS6
                go_roundw
                case rel => exact ⟨k + 1, _, j1, _, A', n', c', by first | rfl | trivial, HNW.out⟩
                case measure =>
                  have e1 := HI.out.bk.cell 18 rfl
                  have e2 := HNW.out.bk.cell 18 rfl
                  have e3 := HI.out.le
                  have e4 := HNW.out.le
                  simp only [e1, e2, intOf]
                  show m.base + m.ks.length + 1 - (((m.base + (k + 1) : Nat) : Int)).toNat < m.base + m.ks.length + 1 - (((m.base + k : Nat) : Int)).toNat
                  omega
            ·
              go_simp
              skip
              refine hK.out _ _ ((Below.refl _ _).alloc (by first | omega | (simp; omega)) _) ?_
              clear hK K
              try simp only [Act.put, List.setIfInBounds_toArray, List.set_cons_zero, List.set_cons_succ]
              refine wpAnyE_one (i := 7) (by kernel_rfl) (by simp only [List.getElem?_toArray, List.getElem?_cons_succ, List.getElem?_cons_zero]; rfl) (fun K hK => ?_)
              go_simp
              refine (r_add (m := j) (xs := q.xs) (HJ5.out.below (ext1 _ (.cells #[.slice none 0 0, .int .i64 0, .int .i64 0, .int .i64 0] 32))) (HP5.out.below (ext1 _ (.cells #[.slice none 0 0, .int .i64 0, .int .i64 0, .int .i64 0] 32))) (hasB q.h.fl 2) HI.out.op HNT.out.2.2 HNT.out.1 HNT.out.2.1).mono ?_
              rintro en w7 ⟨A1, n1, c1, A2, n2, c2, rfl, hj7, ht7, hk7, _, hb7⟩
              have HJ7 := Lib.hid (And.intro hj7 (And.intro ht7 hk7))
              have HB7 := Lib.hid hb7
              have hz7 := hb7.size
              clear hj7 ht7 hk7 hb7
              refine hK.out _ _ (HB7.out.mono (by first | exact hdz | (simp; omega))) ?_
              clear hK K
              try simp only [Act.put, List.setIfInBounds_toArray, List.set_cons_zero, List.set_cons_succ]
              (refine takeE (belowTr V5.heap.size) 8 (by simp only [List.getElem?_toArray, List.getElem?_cons_succ, List.getElem?_cons_zero]; rfl) (by kernel_rfl) (by kernel_rfl) (by kernel_rfl) (by exact fun _ _ _ h => h) (by first | (refine Or.inl ⟨by rfl, ?_⟩; intro W hW; go_simp; try with_reducible rfl) | exact Or.inr ⟨by rfl, rfl⟩) ?_; try simp only [Act.put, List.setIfInBounds_toArray, List.set_cons_zero, List.set_cons_succ])
              (refine takeE (belowTr V5.heap.size) 9 (by simp only [List.getElem?_toArray, List.getElem?_cons_succ, List.getElem?_cons_zero]; rfl) (by kernel_rfl) (by kernel_rfl) (by kernel_rfl) (by exact fun _ _ _ h => h) (by first | (refine Or.inl ⟨by rfl, ?_⟩; intro W hW; go_simp; try with_reducible rfl) | exact Or.inr ⟨by rfl, rfl⟩) ?_; try simp only [Act.put, List.setIfInBounds_toArray, List.set_cons_zero, List.set_cons_succ])
              (refine takeE (belowTr V5.heap.size) 10 (by simp only [List.getElem?_toArray, List.getElem?_cons_succ, List.getElem?_cons_zero]; rfl) (by kernel_rfl) (by kernel_rfl) (by kernel_rfl) (by exact fun _ _ _ h => h) (by first | (refine Or.inl ⟨by rfl, ?_⟩; intro W hW; go_simp; try with_reducible rfl) | exact Or.inr ⟨by rfl, rfl⟩) ?_; try simp only [Act.put, List.setIfInBounds_toArray, List.set_cons_zero, List.set_cons_succ])
              (refine takeE (belowTr V5.heap.size) 11 (by simp only [List.getElem?_toArray, List.getElem?_cons_succ, List.getElem?_cons_zero]; rfl) (by kernel_rfl) (by kernel_rfl) (by kernel_rfl) (by exact fun _ _ _ h => h) (by first | (refine Or.inl ⟨by rfl, ?_⟩; intro W hW; go_simp; try with_reducible rfl) | exact Or.inr ⟨by rfl, rfl⟩) ?_; try simp only [Act.put, List.setIfInBounds_toArray, List.set_cons_zero, List.set_cons_succ])
              (refine takeE (belowTr V5.heap.size) 12 (by simp only [List.getElem?_toArray, List.getElem?_cons_succ, List.getElem?_cons_zero]; rfl) (by kernel_rfl) (by kernel_rfl) (by kernel_rfl) (by exact fun _ _ _ h => h) (by first | (refine Or.inl ⟨by rfl, ?_⟩; intro W hW; go_simp; try with_reducible rfl) | exact Or.inr ⟨by rfl, rfl⟩) ?_; try simp only [Act.put, List.setIfInBounds_toArray, List.set_cons_zero, List.set_cons_succ])
              refine wpAnyE_one (i := 14) (by kernel_rfl) (by simp only [List.getElem?_toArray, List.getElem?_cons_succ, List.getElem?_cons_zero]; rfl) (fun K hK => ?_)
              refine opwp_store_bk rowJ rfl (.tmp 6) (.tmp 53) rfl wd.heap.size 0 rfl ((Bk.new wd 32 [.slice none 0 0, .int .i64 0, .int .i64 0, .int .i64 0]).below HB7.out) (rL (j.add q.xs (hasB q.h.fl 2)) A1 n1 c1) rfl rfl (by decide) (rL_one _ _ _ _) ?_
              intro w9 z9 hw9
              rw [lay_all _ _ (by rfl)] at z9
              have hbX : Below V5.heap.size V5 w7 := (HBD.out.alloc hdz (.cells #[.slice none 0 0, .int .i64 0, .int .i64 0, .int .i64 0] 32)).trans (HB7.out.mono (by simp; omega))
              have hz7' := hz7
              (try simp only [World.size_alloc] at hz7')
              have hb9 : Below V5.heap.size w7 w9 := hw9.below (by omega) hbX.size
              have HB9 := Lib.hid (hbX.trans hb9)
              have HB9x := Lib.hid hb9
              have HZ9 := Lib.hid z9
              have HJ9 : Hid (BsR w9 A1 n1 c1 (j.add q.xs (hasB q.h.fl 2)).fl ∧ BsR w9 A2 n2 c2 (j.told q.xs (hasB q.h.fl 2)) ∧ ∀ x, BlkOf A1 x → BlkOf z.J x ∨ wr.heap.size ≤ x) := Lib.hid (by
                obtain ⟨a1, a2, a3⟩ := HJ7.out
                have hwS : St (· = wd.heap.size) w7 w9 := ⟨hw9.os, hw9.tape, hw9.output, hw9.size, fun x hx hn => hw9.block x hx (by intro he; injection he with he; exact hn he)⟩
                have hgt : ∀ k, k = wd.heap.size → ¬ Tyd 5 w7 k := fun k hk => by rw [hk]; exact (Bk.tyd ((Bk.new wd 32 [.slice none 0 0, .int .i64 0, .int .i64 0, .int .i64 0]).below HB7.out)).ne (by decide)
                refine ⟨BsR.stT (a1) hwS hgt, BsR.stT (a2) hwS hgt, fun x hx => (a3 x hx).imp id (fun h => ?_)⟩
                (try simp only [World.size_alloc] at h)
                omega)
              clear hbX hb9 z9 hw9 hz7'
              refine hK.out _ _ HB9x.out ?_
              clear hK K
              try simp only [Act.put, List.setIfInBounds_toArray, List.set_cons_zero, List.set_cons_succ]
              (refine takeE (belowTr V5.heap.size) 15 (by simp only [List.getElem?_toArray, List.getElem?_cons_succ, List.getElem?_cons_zero]; rfl) (by kernel_rfl) (by kernel_rfl) (by kernel_rfl) (by exact fun _ _ _ h => h) (by first | (refine Or.inl ⟨by rfl, ?_⟩; intro W hW; go_simp; try with_reducible rfl) | exact Or.inr ⟨by rfl, rfl⟩) ?_; try simp only [Act.put, List.setIfInBounds_toArray, List.set_cons_zero, List.set_cons_succ])
              (refine takeE (belowTr V5.heap.size) 16 (by simp only [List.getElem?_toArray, List.getElem?_cons_succ, List.getElem?_cons_zero]; rfl) (by kernel_rfl) (by kernel_rfl) (by kernel_rfl) (by exact fun _ _ _ h => h) (by first | (refine Or.inl ⟨by rfl, ?_⟩; intro W hW; go_simp; try with_reducible rfl) | exact Or.inr ⟨by rfl, rfl⟩) ?_; try simp only [Act.put, List.setIfInBounds_toArray, List.set_cons_zero, List.set_cons_succ])
              (refine takeE (belowTr V5.heap.size) 17 (by simp only [List.getElem?_toArray, List.getElem?_cons_succ, List.getElem?_cons_zero]; rfl) (by kernel_rfl) (by kernel_rfl) (by kernel_rfl) (by exact fun _ _ _ h => h) (by first | (refine Or.inl ⟨by rfl, ?_⟩; intro W hW; go_simp; try with_reducible rfl) | exact Or.inr ⟨by rfl, rfl⟩) ?_; try simp only [Act.put, List.setIfInBounds_toArray, List.set_cons_zero, List.set_cons_succ])
              refine wpAnyE_done (by kernel_rfl) ?_ _
              clear q1 q2
              have hge6 : wr.heap.size ≤ wd.heap.size := by omega
              generalize hg6 : wd.heap.size = g6 at *
              generalize hj1 : j.add q.xs (hasB q.h.fl 2) = j1 at *
              have HJ1 := Lib.hid hj1.symm
              have bk9 := HB5.out.keep HB9.out (by omega)
              have zz9 := HZ9.out
              have hsz2 := HI.out.sz
              clear hg6 hj1
              cases his : j.is q.xs (hasB q.h.fl 2) with
              | false =>
                have HOU : Hid (j.outs out q.xs (hasB q.h.fl 2) = out) := Lib.hid (by unfold Jm.outs; rw [his]; rfl)
                clear his
                go_wp2_with (first
                  | (with_reducible refine at_load 32 (.tmp 6) (by rfl) ?_
                     refine wpList_load_bk rowJ rfl (.tmp 6) rfl g6 0 rfl zz9 (rL j1 A1 n1 c1) rfl rfl ?_)
                  | (with_reducible refine at_store 32 (.tmp 58) (.tmp 57) (by rfl) ?_
                     go_loud (refine wpList_store_bk rowJ rfl (.tmp 58) (.tmp 57) rfl w.heap.size 20 rfl bk9 (rL j1 A1 n1 c1) rfl rfl (by show 20 + 4 ≤ 28; decide) (rL_one _ _ _ _) ?_)
                     rintro w10 z10 hw10
                     go_loud (have HZ10 : Hid (Bk w10 34 w.heap.size [.int .i64 (Zr.new z AC A1 n1 c1).c0, .int .i64 (m.mid (k + 1) j1).pa, .int .i64 (Zr.new z AC A1 n1 c1).c2, .int .i64 (Zr.new z AC A1 n1 c1).c3, .int .i64 (m.mid (k + 1) j1).size, .int .i64 (Zr.new z AC A1 n1 c1).c5, .int .i64 (Zr.new z AC A1 n1 c1).c6, .int .i64 (Zr.new z AC A1 n1 c1).c7, .int .i64 (Zr.new z AC A1 n1 c1).c8, .int .i64 (Zr.new z AC A1 n1 c1).c9, .int .i64 (Zr.new z AC A1 n1 c1).c10, .int .i64 (Zr.new z AC A1 n1 c1).c11, .int .i64 (Zr.new z AC A1 n1 c1).c12, .int .i64 (Zr.new z AC A1 n1 c1).c13, .int .i64 (m.mid (k + 1) j1).sr, .int .i64 (m.mid (k + 1) j1).ds, .int .i64 (m.mid (k + 1) j1).cn, .int .i64 (m.mid (k + 1) j1).cl, .int .i64 (m.mid (k + 1) j1).base, .slice (Zr.new z AC A1 n1 c1).A (Zr.new z AC A1 n1 c1).n (Zr.new z AC A1 n1 c1).c, .slice (Zr.new z AC A1 n1 c1).J (Zr.new z AC A1 n1 c1).jn (Zr.new z AC A1 n1 c1).jc, .int .i64 (m.mid (k + 1) j1).jm.ps.length, .int .i64 (m.mid (k + 1) j1).jm.N, .int .i64 (m.mid (k + 1) j1).jm.T, .int .i64 (m.mid (k + 1) j1).ar, .int .i64 (m.mid (k + 1) j1).pl, .int .i64 (m.mid (k + 1) j1).pd, .bool (m.mid (k + 1) j1).dn]) := Lib.hid z10)
                     have HS10 : Hid (St (· = w.heap.size) w9 w10) := Lib.hid ⟨hw10.os, hw10.tape, hw10.output, hw10.size, fun x hx hn => hw10.block x hx (by intro he; injection he with he; exact hn he)⟩
                     have HT9 : Hid (∀ x, x = w.heap.size → ¬ Tyd 5 w9 x) := Lib.hid (fun x hx => by rw [hx]; exact bk9.tyd.ne (by decide))
                     have HAL : Hid (St (· = w.heap.size) wr w10) := Lib.hid ((((St.ext HBV.out).trans HS5.out (Gr.refl _ _)).trans (St.ext HB9.out) (Gr.refl _ _)).trans HS10.out (Gr.refl _ _))
                     go_loud (have HNX := Lib.hid (HI.out.next (p := p) (t := t) (en := hasB q.h.fl 2) (AC := AC) (A1 := A1) (n1 := n1) (c1 := c1) HF.out HDR.out (by rw [← HPQ.out]; exact HSQ.out) (by rw [← HPQ.out]; exact hf) (by rw [← HPQ.out]; rfl) (by rw [HAC.out.2]; exact HAC.out.1) HAL.out HZ10.out (by rw [← HPQ.out]; exact HJ1.out) (HJ9.out.1.stT HS10.out HT9.out) HJ9.out.2.2))
                     go_loud (have HO10 := Lib.hid (HI.out.ou.st HAL.out (fun x hx => ⟨by omega, by rw [hx]; exact HI.out.bk.tyd.ne (by decide)⟩)))
                     have HM10 := Lib.hid (HJ9.out.2.1.stT HS10.out HT9.out)
                     clear z10 hw10))
                have HNW := Lib.hid (HNX.out w10 _ _ _ _ (fun _ => False) (St.refl _ w10) (fun _ h => h.elim) HO10.out (by rw [← HPQ.out]; exact HOU.out.symm))
                go_roundw
                case rel => exact ⟨k + 1, _, j1, out, A, n, c, by first | rfl | trivial, HNW.out⟩
                case measure =>
                  have e1 := HI.out.bk.cell 18 rfl
                  have e2 := HNW.out.bk.cell 18 rfl
                  have e3 := HI.out.le
                  have e4 := HNW.out.le
                  simp only [e1, e2, intOf]
                  show m.base + m.ks.length + 1 - (((m.base + (k + 1) : Nat) : Int)).toNat < m.base + m.ks.length + 1 - (((m.base + k : Nat) : Int)).toNat
                  omega
              | true =>
                have HOU : Hid (j.outs out q.xs (hasB q.h.fl 2) = out ++ [j.told q.xs (hasB q.h.fl 2)]) := Lib.hid (by unfold Jm.outs; rw [his]; rfl)
                clear his
                go_wp2_with (first
                  | (with_reducible refine at_load 32 (.tmp 6) (by rfl) ?_
                     refine wpList_load_bk rowJ rfl (.tmp 6) rfl g6 0 rfl zz9 (rL j1 A1 n1 c1) rfl rfl ?_)
                  | (with_reducible refine at_store 32 (.tmp 58) (.tmp 57) (by rfl) ?_
                     go_loud (refine wpList_store_bk rowJ rfl (.tmp 58) (.tmp 57) rfl w.heap.size 20 rfl bk9 (rL j1 A1 n1 c1) rfl rfl (by show 20 + 4 ≤ 28; decide) (rL_one _ _ _ _) ?_)
                     rintro w10 z10 hw10
                     go_loud (have HZ10 : Hid (Bk w10 34 w.heap.size [.int .i64 (Zr.new z AC A1 n1 c1).c0, .int .i64 (m.mid (k + 1) j1).pa, .int .i64 (Zr.new z AC A1 n1 c1).c2, .int .i64 (Zr.new z AC A1 n1 c1).c3, .int .i64 (m.mid (k + 1) j1).size, .int .i64 (Zr.new z AC A1 n1 c1).c5, .int .i64 (Zr.new z AC A1 n1 c1).c6, .int .i64 (Zr.new z AC A1 n1 c1).c7, .int .i64 (Zr.new z AC A1 n1 c1).c8, .int .i64 (Zr.new z AC A1 n1 c1).c9, .int .i64 (Zr.new z AC A1 n1 c1).c10, .int .i64 (Zr.new z AC A1 n1 c1).c11, .int .i64 (Zr.new z AC A1 n1 c1).c12, .int .i64 (Zr.new z AC A1 n1 c1).c13, .int .i64 (m.mid (k + 1) j1).sr, .int .i64 (m.mid (k + 1) j1).ds, .int .i64 (m.mid (k + 1) j1).cn, .int .i64 (m.mid (k + 1) j1).cl, .int .i64 (m.mid (k + 1) j1).base, .slice (Zr.new z AC A1 n1 c1).A (Zr.new z AC A1 n1 c1).n (Zr.new z AC A1 n1 c1).c, .slice (Zr.new z AC A1 n1 c1).J (Zr.new z AC A1 n1 c1).jn (Zr.new z AC A1 n1 c1).jc, .int .i64 (m.mid (k + 1) j1).jm.ps.length, .int .i64 (m.mid (k + 1) j1).jm.N, .int .i64 (m.mid (k + 1) j1).jm.T, .int .i64 (m.mid (k + 1) j1).ar, .int .i64 (m.mid (k + 1) j1).pl, .int .i64 (m.mid (k + 1) j1).pd, .bool (m.mid (k + 1) j1).dn]) := Lib.hid z10)
                     have HS10 : Hid (St (· = w.heap.size) w9 w10) := Lib.hid ⟨hw10.os, hw10.tape, hw10.output, hw10.size, fun x hx hn => hw10.block x hx (by intro he; injection he with he; exact hn he)⟩
                     have HT9 : Hid (∀ x, x = w.heap.size → ¬ Tyd 5 w9 x) := Lib.hid (fun x hx => by rw [hx]; exact bk9.tyd.ne (by decide))
                     have HAL : Hid (St (· = w.heap.size) wr w10) := Lib.hid ((((St.ext HBV.out).trans HS5.out (Gr.refl _ _)).trans (St.ext HB9.out) (Gr.refl _ _)).trans HS10.out (Gr.refl _ _))
                     go_loud (have HNX := Lib.hid (HI.out.next (p := p) (t := t) (en := hasB q.h.fl 2) (AC := AC) (A1 := A1) (n1 := n1) (c1 := c1) HF.out HDR.out (by rw [← HPQ.out]; exact HSQ.out) (by rw [← HPQ.out]; exact hf) (by rw [← HPQ.out]; rfl) (by rw [HAC.out.2]; exact HAC.out.1) HAL.out HZ10.out (by rw [← HPQ.out]; exact HJ1.out) (HJ9.out.1.stT HS10.out HT9.out) HJ9.out.2.2))
                     go_loud (have HO10 := Lib.hid (HI.out.ou.st HAL.out (fun x hx => ⟨by omega, by rw [hx]; exact HI.out.bk.tyd.ne (by decide)⟩)))
                     have HM10 := Lib.hid (HJ9.out.2.1.stT HS10.out HT9.out)
                     clear z10 hw10
                     obtain ⟨bs, g1, g2, g3⟩ := HO10.out
                     have hla := (g1.alloc (.cells #[.slice A2 n2 c2] 30)).tight
                     have hu := RdV.one w10 30 (.slice A2 n2 c2) rfl
                     have hnl := g1.1
                     have hol := HI.out.ol
                     have hle := HI.out.le
                     have hbl2 : bs.length = out.length := by rw [← g2]; simp
                     rw [List.length_map] at hnl
                     have HG := Lib.hid (And.intro g1 (And.intro g2 g3))
                     clear g1 g2 g3)
                  | (refine wpList_build_one (x := .slice A2 n2 c2) eltB rfl (.tmp 61) rfl rfl rfl ?_)
                  | (at_builtin
                     refine wpList_append_lst eltB rfl (.tmp 60) (.tmp 62) rfl rfl hla rfl hu (by omega) ?_
                     rintro v w11 hap
                     obtain ⟨A', n', c', rfl, hl'⟩ := hap.ex
                     have HAP := Lib.hid hap
                     clear hap hl'))
                have hba : Below w10.heap.size w10 (w10.alloc (.cells #[.slice A2 n2 c2] 30)) := ext1 _ _
                have hw10z := HAL.out.size
                obtain ⟨A6, n6, c6, he6, hO6, hS6⟩ := OutT.app (b := ⟨A2, n2, c2, j.told q.xs (hasB q.h.fl 2)⟩) HG.out.1 HG.out.2.1 HG.out.2.2 (by omega) HM10.out hba HAP.out
                injection he6 with q1 q2 q3
                subst q1 q2 q3
                have HNW := Lib.hid (HNX.out w11 _ _ _ _ (BlkOf A) hS6 (fun x hx => by
                  obtain ⟨ad, he, hk⟩ := hx
                  exact ⟨hk ▸ (HG.out.1.blk ad he).1, (HG.out.1.tyd x ⟨ad, he, hk⟩).ne (by decide)⟩) hO6 (by rw [← HPQ.out]; exact HOU.out.symm))
                clear hO6 hS6
                go_roundw
                case rel => exact ⟨k + 1, _, j1, _, A', n', c', by first | rfl | trivial, HNW.out⟩
                case measure =>
                  have e1 := HI.out.bk.cell 18 rfl
                  have e2 := HNW.out.bk.cell 18 rfl
                  have e3 := HI.out.le
                  have e4 := HNW.out.le
                  simp only [e1, e2, intOf]
                  show m.base + m.ks.length + 1 - (((m.base + (k + 1) : Nat) : Int)).toNat < m.base + m.ks.length + 1 - (((m.base + k : Nat) : Int)).toNat
                  omega
          ·
            go_simp
            skip
            refine hK.out _ _ ((Below.refl _ _).alloc (by first | omega | (simp; omega)) _) ?_
            clear hK K
            try simp only [Act.put, List.setIfInBounds_toArray, List.set_cons_zero, List.set_cons_succ]
            refine wpAnyE_one (i := 6) (by kernel_rfl) (by simp only [List.getElem?_toArray, List.getElem?_cons_succ, List.getElem?_cons_zero]; rfl) (fun K hK => ?_)
            go_simp
            refine (rhas_any q.h.fl 2 _ (by decide) (by decide) HPV.out.fl).mono ?_
            rintro en w6' ⟨rfl, rfl⟩
            refine hK.out _ _ (Below.refl _ _) ?_
            clear hK K
            try simp only [Act.put, List.setIfInBounds_toArray, List.set_cons_zero, List.set_cons_succ]
            refine wpAnyE_one (i := 7) (by kernel_rfl) (by simp only [List.getElem?_toArray, List.getElem?_cons_succ, List.getElem?_cons_zero]; rfl) (fun K hK => ?_)
            go_simp
            refine (r_add (m := j) (xs := q.xs) (HJ5.out.below (ext1 _ (.cells #[.slice none 0 0, .int .i64 0, .int .i64 0, .int .i64 0] 32))) (HP5.out.below (ext1 _ (.cells #[.slice none 0 0, .int .i64 0, .int .i64 0, .int .i64 0] 32))) (hasB q.h.fl 2) HI.out.op HNT.out.2.2 HNT.out.1 HNT.out.2.1).mono ?_
            rintro en w7 ⟨A1, n1, c1, A2, n2, c2, rfl, hj7, ht7, hk7, _, hb7⟩
            have HJ7 := Lib.hid (And.intro hj7 (And.intro ht7 hk7))
            have HB7 := Lib.hid hb7
            have hz7 := hb7.size
            clear hj7 ht7 hk7 hb7
            refine hK.out _ _ (HB7.out.mono (by first | exact hdz | (simp; omega))) ?_
            clear hK K
            try simp only [Act.put, List.setIfInBounds_toArray, List.set_cons_zero, List.set_cons_succ]
            (refine takeE (belowTr V5.heap.size) 8 (by simp only [List.getElem?_toArray, List.getElem?_cons_succ, List.getElem?_cons_zero]; rfl) (by kernel_rfl) (by kernel_rfl) (by kernel_rfl) (by exact fun _ _ _ h => h) (by first | (refine Or.inl ⟨by rfl, ?_⟩; intro W hW; go_simp; try with_reducible rfl) | exact Or.inr ⟨by rfl, rfl⟩) ?_; try simp only [Act.put, List.setIfInBounds_toArray, List.set_cons_zero, List.set_cons_succ])
            (refine takeE (belowTr V5.heap.size) 9 (by simp only [List.getElem?_toArray, List.getElem?_cons_succ, List.getElem?_cons_zero]; rfl) (by kernel_rfl) (by kernel_rfl) (by kernel_rfl) (by exact fun _ _ _ h => h) (by first | (refine Or.inl ⟨by rfl, ?_⟩; intro W hW; go_simp; try with_reducible rfl) | exact Or.inr ⟨by rfl, rfl⟩) ?_; try simp only [Act.put, List.setIfInBounds_toArray, List.set_cons_zero, List.set_cons_succ])
            (refine takeE (belowTr V5.heap.size) 10 (by simp only [List.getElem?_toArray, List.getElem?_cons_succ, List.getElem?_cons_zero]; rfl) (by kernel_rfl) (by kernel_rfl) (by kernel_rfl) (by exact fun _ _ _ h => h) (by first | (refine Or.inl ⟨by rfl, ?_⟩; intro W hW; go_simp; try with_reducible rfl) | exact Or.inr ⟨by rfl, rfl⟩) ?_; try simp only [Act.put, List.setIfInBounds_toArray, List.set_cons_zero, List.set_cons_succ])
            (refine takeE (belowTr V5.heap.size) 11 (by simp only [List.getElem?_toArray, List.getElem?_cons_succ, List.getElem?_cons_zero]; rfl) (by kernel_rfl) (by kernel_rfl) (by kernel_rfl) (by exact fun _ _ _ h => h) (by first | (refine Or.inl ⟨by rfl, ?_⟩; intro W hW; go_simp; try with_reducible rfl) | exact Or.inr ⟨by rfl, rfl⟩) ?_; try simp only [Act.put, List.setIfInBounds_toArray, List.set_cons_zero, List.set_cons_succ])
            (refine takeE (belowTr V5.heap.size) 12 (by simp only [List.getElem?_toArray, List.getElem?_cons_succ, List.getElem?_cons_zero]; rfl) (by kernel_rfl) (by kernel_rfl) (by kernel_rfl) (by exact fun _ _ _ h => h) (by first | (refine Or.inl ⟨by rfl, ?_⟩; intro W hW; go_simp; try with_reducible rfl) | exact Or.inr ⟨by rfl, rfl⟩) ?_; try simp only [Act.put, List.setIfInBounds_toArray, List.set_cons_zero, List.set_cons_succ])
            refine wpAnyE_one (i := 14) (by kernel_rfl) (by simp only [List.getElem?_toArray, List.getElem?_cons_succ, List.getElem?_cons_zero]; rfl) (fun K hK => ?_)
            refine opwp_store_bk rowJ rfl (.tmp 6) (.tmp 53) rfl wd.heap.size 0 rfl ((Bk.new wd 32 [.slice none 0 0, .int .i64 0, .int .i64 0, .int .i64 0]).below HB7.out) (rL (j.add q.xs (hasB q.h.fl 2)) A1 n1 c1) rfl rfl (by decide) (rL_one _ _ _ _) ?_
            intro w9 z9 hw9
            rw [lay_all _ _ (by rfl)] at z9
            have hbX : Below V5.heap.size V5 w7 := (HBD.out.alloc hdz (.cells #[.slice none 0 0, .int .i64 0, .int .i64 0, .int .i64 0] 32)).trans (HB7.out.mono (by simp; omega))
            have hz7' := hz7
            (try simp only [World.size_alloc] at hz7')
            have hb9 : Below V5.heap.size w7 w9 := hw9.below (by omega) hbX.size
            have HB9 := Lib.hid (hbX.trans hb9)
            have HB9x := Lib.hid hb9
            have HZ9 := Lib.hid z9
            have HJ9 : Hid (BsR w9 A1 n1 c1 (j.add q.xs (hasB q.h.fl 2)).fl ∧ BsR w9 A2 n2 c2 (j.told q.xs (hasB q.h.fl 2)) ∧ ∀ x, BlkOf A1 x → BlkOf z.J x ∨ wr.heap.size ≤ x) := Lib.hid (by
              obtain ⟨a1, a2, a3⟩ := HJ7.out
              have hwS : St (· = wd.heap.size) w7 w9 := ⟨hw9.os, hw9.tape, hw9.output, hw9.size, fun x hx hn => hw9.block x hx (by intro he; injection he with he; exact hn he)⟩
              have hgt : ∀ k, k = wd.heap.size → ¬ Tyd 5 w7 k := fun k hk => by rw [hk]; exact (Bk.tyd ((Bk.new wd 32 [.slice none 0 0, .int .i64 0, .int .i64 0, .int .i64 0]).below HB7.out)).ne (by decide)
              refine ⟨BsR.stT (a1) hwS hgt, BsR.stT (a2) hwS hgt, fun x hx => (a3 x hx).imp id (fun h => ?_)⟩
              (try simp only [World.size_alloc] at h)
              omega)
            clear hbX hb9 z9 hw9 hz7'
            refine hK.out _ _ HB9x.out ?_
            clear hK K
            try simp only [Act.put, List.setIfInBounds_toArray, List.set_cons_zero, List.set_cons_succ]
            (refine takeE (belowTr V5.heap.size) 15 (by simp only [List.getElem?_toArray, List.getElem?_cons_succ, List.getElem?_cons_zero]; rfl) (by kernel_rfl) (by kernel_rfl) (by kernel_rfl) (by exact fun _ _ _ h => h) (by first | (refine Or.inl ⟨by rfl, ?_⟩; intro W hW; go_simp; try with_reducible rfl) | exact Or.inr ⟨by rfl, rfl⟩) ?_; try simp only [Act.put, List.setIfInBounds_toArray, List.set_cons_zero, List.set_cons_succ])
            (refine takeE (belowTr V5.heap.size) 16 (by simp only [List.getElem?_toArray, List.getElem?_cons_succ, List.getElem?_cons_zero]; rfl) (by kernel_rfl) (by kernel_rfl) (by kernel_rfl) (by exact fun _ _ _ h => h) (by first | (refine Or.inl ⟨by rfl, ?_⟩; intro W hW; go_simp; try with_reducible rfl) | exact Or.inr ⟨by rfl, rfl⟩) ?_; try simp only [Act.put, List.setIfInBounds_toArray, List.set_cons_zero, List.set_cons_succ])
            (refine takeE (belowTr V5.heap.size) 17 (by simp only [List.getElem?_toArray, List.getElem?_cons_succ, List.getElem?_cons_zero]; rfl) (by kernel_rfl) (by kernel_rfl) (by kernel_rfl) (by exact fun _ _ _ h => h) (by first | (refine Or.inl ⟨by rfl, ?_⟩; intro W hW; go_simp; try with_reducible rfl) | exact Or.inr ⟨by rfl, rfl⟩) ?_; try simp only [Act.put, List.setIfInBounds_toArray, List.set_cons_zero, List.set_cons_succ])
            refine wpAnyE_done (by kernel_rfl) ?_ _
            clear q1 q2
            have hge6 : wr.heap.size ≤ wd.heap.size := by omega
            generalize hg6 : wd.heap.size = g6 at *
            generalize hj1 : j.add q.xs (hasB q.h.fl 2) = j1 at *
            have HJ1 := Lib.hid hj1.symm
            have bk9 := HB5.out.keep HB9.out (by omega)
            have zz9 := HZ9.out
            have hsz2 := HI.out.sz
            clear hg6 hj1
            cases his : j.is q.xs (hasB q.h.fl 2) with
            | false =>
              have HOU : Hid (j.outs out q.xs (hasB q.h.fl 2) = out) := Lib.hid (by unfold Jm.outs; rw [his]; rfl)
              clear his
              go_wp2_with (first
                | (with_reducible refine at_load 32 (.tmp 6) (by rfl) ?_
                   refine wpList_load_bk rowJ rfl (.tmp 6) rfl g6 0 rfl zz9 (rL j1 A1 n1 c1) rfl rfl ?_)
                | (with_reducible refine at_store 32 (.tmp 58) (.tmp 57) (by rfl) ?_
                   go_loud (refine wpList_store_bk rowJ rfl (.tmp 58) (.tmp 57) rfl w.heap.size 20 rfl bk9 (rL j1 A1 n1 c1) rfl rfl (by show 20 + 4 ≤ 28; decide) (rL_one _ _ _ _) ?_)
                   rintro w10 z10 hw10
                   go_loud (have HZ10 : Hid (Bk w10 34 w.heap.size [.int .i64 (Zr.new z AC A1 n1 c1).c0, .int .i64 (m.mid (k + 1) j1).pa, .int .i64 (Zr.new z AC A1 n1 c1).c2, .int .i64 (Zr.new z AC A1 n1 c1).c3, .int .i64 (m.mid (k + 1) j1).size, .int .i64 (Zr.new z AC A1 n1 c1).c5, .int .i64 (Zr.new z AC A1 n1 c1).c6, .int .i64 (Zr.new z AC A1 n1 c1).c7, .int .i64 (Zr.new z AC A1 n1 c1).c8, .int .i64 (Zr.new z AC A1 n1 c1).c9, .int .i64 (Zr.new z AC A1 n1 c1).c10, .int .i64 (Zr.new z AC A1 n1 c1).c11, .int .i64 (Zr.new z AC A1 n1 c1).c12, .int .i64 (Zr.new z AC A1 n1 c1).c13, .int .i64 (m.mid (k + 1) j1).sr, .int .i64 (m.mid (k + 1) j1).ds, .int .i64 (m.mid (k + 1) j1).cn, .int .i64 (m.mid (k + 1) j1).cl, .int .i64 (m.mid (k + 1) j1).base, .slice (Zr.new z AC A1 n1 c1).A (Zr.new z AC A1 n1 c1).n (Zr.new z AC A1 n1 c1).c, .slice (Zr.new z AC A1 n1 c1).J (Zr.new z AC A1 n1 c1).jn (Zr.new z AC A1 n1 c1).jc, .int .i64 (m.mid (k + 1) j1).jm.ps.length, .int .i64 (m.mid (k + 1) j1).jm.N, .int .i64 (m.mid (k + 1) j1).jm.T, .int .i64 (m.mid (k + 1) j1).ar, .int .i64 (m.mid (k + 1) j1).pl, .int .i64 (m.mid (k + 1) j1).pd, .bool (m.mid (k + 1) j1).dn]) := Lib.hid z10)
                   have HS10 : Hid (St (· = w.heap.size) w9 w10) := Lib.hid ⟨hw10.os, hw10.tape, hw10.output, hw10.size, fun x hx hn => hw10.block x hx (by intro he; injection he with he; exact hn he)⟩
                   have HT9 : Hid (∀ x, x = w.heap.size → ¬ Tyd 5 w9 x) := Lib.hid (fun x hx => by rw [hx]; exact bk9.tyd.ne (by decide))
                   have HAL : Hid (St (· = w.heap.size) wr w10) := Lib.hid ((((St.ext HBV.out).trans HS5.out (Gr.refl _ _)).trans (St.ext HB9.out) (Gr.refl _ _)).trans HS10.out (Gr.refl _ _))
                   go_loud (have HNX := Lib.hid (HI.out.next (p := p) (t := t) (en := hasB q.h.fl 2) (AC := AC) (A1 := A1) (n1 := n1) (c1 := c1) HF.out HDR.out (by rw [← HPQ.out]; exact HSQ.out) (by rw [← HPQ.out]; exact hf) (by rw [← HPQ.out]; rfl) (by rw [HAC.out.2]; exact HAC.out.1) HAL.out HZ10.out (by rw [← HPQ.out]; exact HJ1.out) (HJ9.out.1.stT HS10.out HT9.out) HJ9.out.2.2))
                   go_loud (have HO10 := Lib.hid (HI.out.ou.st HAL.out (fun x hx => ⟨by omega, by rw [hx]; exact HI.out.bk.tyd.ne (by decide)⟩)))
                   have HM10 := Lib.hid (HJ9.out.2.1.stT HS10.out HT9.out)
                   clear z10 hw10))
              have HNW := Lib.hid (HNX.out w10 _ _ _ _ (fun _ => False) (St.refl _ w10) (fun _ h => h.elim) HO10.out (by rw [← HPQ.out]; exact HOU.out.symm))
              go_roundw
              case rel => exact ⟨k + 1, _, j1, out, A, n, c, by first | rfl | trivial, HNW.out⟩
              case measure =>
                have e1 := HI.out.bk.cell 18 rfl
                have e2 := HNW.out.bk.cell 18 rfl
                have e3 := HI.out.le
                have e4 := HNW.out.le
                simp only [e1, e2, intOf]
                show m.base + m.ks.length + 1 - (((m.base + (k + 1) : Nat) : Int)).toNat < m.base + m.ks.length + 1 - (((m.base + k : Nat) : Int)).toNat
                omega
            | true =>
              have HOU : Hid (j.outs out q.xs (hasB q.h.fl 2) = out ++ [j.told q.xs (hasB q.h.fl 2)]) := Lib.hid (by unfold Jm.outs; rw [his]; rfl)
              clear his
              go_wp2_with (first
                | (with_reducible refine at_load 32 (.tmp 6) (by rfl) ?_
                   refine wpList_load_bk rowJ rfl (.tmp 6) rfl g6 0 rfl zz9 (rL j1 A1 n1 c1) rfl rfl ?_)
                | (with_reducible refine at_store 32 (.tmp 58) (.tmp 57) (by rfl) ?_
                   go_loud (refine wpList_store_bk rowJ rfl (.tmp 58) (.tmp 57) rfl w.heap.size 20 rfl bk9 (rL j1 A1 n1 c1) rfl rfl (by show 20 + 4 ≤ 28; decide) (rL_one _ _ _ _) ?_)
                   rintro w10 z10 hw10
                   go_loud (have HZ10 : Hid (Bk w10 34 w.heap.size [.int .i64 (Zr.new z AC A1 n1 c1).c0, .int .i64 (m.mid (k + 1) j1).pa, .int .i64 (Zr.new z AC A1 n1 c1).c2, .int .i64 (Zr.new z AC A1 n1 c1).c3, .int .i64 (m.mid (k + 1) j1).size, .int .i64 (Zr.new z AC A1 n1 c1).c5, .int .i64 (Zr.new z AC A1 n1 c1).c6, .int .i64 (Zr.new z AC A1 n1 c1).c7, .int .i64 (Zr.new z AC A1 n1 c1).c8, .int .i64 (Zr.new z AC A1 n1 c1).c9, .int .i64 (Zr.new z AC A1 n1 c1).c10, .int .i64 (Zr.new z AC A1 n1 c1).c11, .int .i64 (Zr.new z AC A1 n1 c1).c12, .int .i64 (Zr.new z AC A1 n1 c1).c13, .int .i64 (m.mid (k + 1) j1).sr, .int .i64 (m.mid (k + 1) j1).ds, .int .i64 (m.mid (k + 1) j1).cn, .int .i64 (m.mid (k + 1) j1).cl, .int .i64 (m.mid (k + 1) j1).base, .slice (Zr.new z AC A1 n1 c1).A (Zr.new z AC A1 n1 c1).n (Zr.new z AC A1 n1 c1).c, .slice (Zr.new z AC A1 n1 c1).J (Zr.new z AC A1 n1 c1).jn (Zr.new z AC A1 n1 c1).jc, .int .i64 (m.mid (k + 1) j1).jm.ps.length, .int .i64 (m.mid (k + 1) j1).jm.N, .int .i64 (m.mid (k + 1) j1).jm.T, .int .i64 (m.mid (k + 1) j1).ar, .int .i64 (m.mid (k + 1) j1).pl, .int .i64 (m.mid (k + 1) j1).pd, .bool (m.mid (k + 1) j1).dn]) := Lib.hid z10)
                   have HS10 : Hid (St (· = w.heap.size) w9 w10) := Lib.hid ⟨hw10.os, hw10.tape, hw10.output, hw10.size, fun x hx hn => hw10.block x hx (by intro he; injection he with he; exact hn he)⟩
                   have HT9 : Hid (∀ x, x = w.heap.size → ¬ Tyd 5 w9 x) := Lib.hid (fun x hx => by rw [hx]; exact bk9.tyd.ne (by decide))
                   have HAL : Hid (St (· = w.heap.size) wr w10) := Lib.hid ((((St.ext HBV.out).trans HS5.out (Gr.refl _ _)).trans (St.ext HB9.out) (Gr.refl _ _)).trans HS10.out (Gr.refl _ _))
                   go_loud (have HNX := Lib.hid (HI.out.next (p := p) (t := t) (en := hasB q.h.fl 2) (AC := AC) (A1 := A1) (n1 := n1) (c1 := c1) HF.out HDR.out (by rw [← HPQ.out]; exact HSQ.out) (by rw [← HPQ.out]; exact hf) (by rw [← HPQ.out]; rfl) (by rw [HAC.out.2]; exact HAC.out.1) HAL.out HZ10.out (by rw [← HPQ.out]; exact HJ1.out) (HJ9.out.1.stT HS10.out HT9.out) HJ9.out.2.2))
                   go_loud (have HO10 := Lib.hid (HI.out.ou.st HAL.out (fun x hx => ⟨by omega, by rw [hx]; exact HI.out.bk.tyd.ne (by decide)⟩)))
                   have HM10 := Lib.hid (HJ9.out.2.1.stT HS10.out HT9.out)
                   clear z10 hw10
                   obtain ⟨bs, g1, g2, g3⟩ := HO10.out
                   have hla := (g1.alloc (.cells #[.slice A2 n2 c2] 30)).tight
                   have hu := RdV.one w10 30 (.slice A2 n2 c2) rfl
                   have hnl := g1.1
                   have hol := HI.out.ol
                   have hle := HI.out.le
                   have hbl2 : bs.length = out.length := by rw [← g2]; simp
                   rw [List.length_map] at hnl
                   have HG := Lib.hid (And.intro g1 (And.intro g2 g3))
                   clear g1 g2 g3)
                | (refine wpList_build_one (x := .slice A2 n2 c2) eltB rfl (.tmp 61) rfl rfl rfl ?_)
                | (at_builtin
                   refine wpList_append_lst eltB rfl (.tmp 60) (.tmp 62) rfl rfl hla rfl hu (by omega) ?_
                   rintro v w11 hap
                   obtain ⟨A', n', c', rfl, hl'⟩ := hap.ex
                   have HAP := Lib.hid hap
                   clear hap hl'))
              have hba : Below w10.heap.size w10 (w10.alloc (.cells #[.slice A2 n2 c2] 30)) := ext1 _ _
              have hw10z := HAL.out.size
              obtain ⟨A6, n6, c6, he6, hO6, hS6⟩ := OutT.app (b := ⟨A2, n2, c2, j.told q.xs (hasB q.h.fl 2)⟩) HG.out.1 HG.out.2.1 HG.out.2.2 (by omega) HM10.out hba HAP.out
              injection he6 with q1 q2 q3
              subst q1 q2 q3
              have HNW := Lib.hid (HNX.out w11 _ _ _ _ (BlkOf A) hS6 (fun x hx => by
                obtain ⟨ad, he, hk⟩ := hx
                exact ⟨hk ▸ (HG.out.1.blk ad he).1, (HG.out.1.tyd x ⟨ad, he, hk⟩).ne (by decide)⟩) hO6 (by rw [← HPQ.out]; exact HOU.out.symm))
              clear hO6 hS6
              go_roundw
              case rel => exact ⟨k + 1, _, j1, _, A', n', c', by first | rfl | trivial, HNW.out⟩
              case measure =>
                have e1 := HI.out.bk.cell 18 rfl
                have e2 := HNW.out.bk.cell 18 rfl
                have e3 := HI.out.le
                have e4 := HNW.out.le
                simp only [e1, e2, intOf]
                show m.base + m.ks.length + 1 - (((m.base + (k + 1) : Nat) : Int)).toNat < m.base + m.ks.length + 1 - (((m.base + k : Nat) : Int)).toNat
                omega
      · have HAV : Hid (m.av = ⟨m.base + k, m.ks.drop k, j, out, false⟩) := Lib.hid (by
          rw [HI.out.av, HDR.out]
          exact avL_stop (by rw [← hq]; exact he))
        have heb : (q.h.sq == (((m.mid k j).base : Nat) : Int)) = false := by rw [beq_eq_false_iff_ne]; exact he
        clear hdr hkl hra hpv hq hg hA
        go_wp2
        go_quiet (fail)
        clear he heb cs c19 c18 hn1
        go_wp2_with (first
          | (with_reducible refine at_load 34 (.tmp 1) (by rfl) ?_
             go_loud (refine wpList_load_bk rowRv rfl (.tmp 1) rfl w.heap.size 0 rfl (HI.out.bk.below (Below.drewN_ wr _)) [.int .i64 z.c0, .int .i64 (m.mid k j).pa, .int .i64 z.c2, .int .i64 z.c3, .int .i64 (m.mid k j).size, .int .i64 z.c5, .int .i64 z.c6, .int .i64 z.c7, .int .i64 z.c8, .int .i64 z.c9, .int .i64 z.c10, .int .i64 z.c11, .int .i64 z.c12, .int .i64 z.c13, .int .i64 (m.mid k j).sr, .int .i64 (m.mid k j).ds, .int .i64 (m.mid k j).cn, .int .i64 (m.mid k j).cl, .int .i64 (m.mid k j).base, .slice z.A z.n z.c, .slice z.J z.jn z.jc, .int .i64 (m.mid k j).jm.ps.length, .int .i64 (m.mid k j).jm.N, .int .i64 (m.mid k j).jm.T, .int .i64 (m.mid k j).ar, .int .i64 (m.mid k j).pl, .int .i64 (m.mid k j).pd, .bool (m.mid k j).dn] rfl rfl ?_))
          | (with_reducible refine at_store 34 (.tmp 2) (.tmp 64) (by rfl) ?_
             go_loud (refine wpList_store_bk rowRv rfl (.tmp 2) (.tmp 64) rfl (w.heap.size + 1) 0 rfl (HI.out.zb.below (Below.drewN_ wr _)) [.int .i64 z.c0, .int .i64 (m.mid k j).pa, .int .i64 z.c2, .int .i64 z.c3, .int .i64 (m.mid k j).size, .int .i64 z.c5, .int .i64 z.c6, .int .i64 z.c7, .int .i64 z.c8, .int .i64 z.c9, .int .i64 z.c10, .int .i64 z.c11, .int .i64 z.c12, .int .i64 z.c13, .int .i64 (m.mid k j).sr, .int .i64 (m.mid k j).ds, .int .i64 (m.mid k j).cn, .int .i64 (m.mid k j).cl, .int .i64 (m.mid k j).base, .slice z.A z.n z.c, .slice z.J z.jn z.jc, .int .i64 (m.mid k j).jm.ps.length, .int .i64 (m.mid k j).jm.N, .int .i64 (m.mid k j).jm.T, .int .i64 (m.mid k j).ar, .int .i64 (m.mid k j).pl, .int .i64 (m.mid k j).pd, .bool (m.mid k j).dn] rfl rfl (by decide) (Rm.rl_one (m.mid k j) z) ?_)
             rintro w9 z9 hw9
             rw [lay_all _ _ (by rfl)] at z9))
        obtain ⟨r1, r2, r3⟩ := GoI.stop (HI.out.below (Below.drewN_ wr _)) HF.out HD.out HAV.out hw9
        have e9 := HEX.out HAV.out
        refine bodyPost_ret (results_cell_tmp rfl rfl (rowRv.load z9 0 (cs := [.int .i64 z.c0, .int .i64 (m.mid k j).pa, .int .i64 z.c2, .int .i64 z.c3, .int .i64 (m.mid k j).size, .int .i64 z.c5, .int .i64 z.c6, .int .i64 z.c7, .int .i64 z.c8, .int .i64 z.c9, .int .i64 z.c10, .int .i64 z.c11, .int .i64 z.c12, .int .i64 z.c13, .int .i64 (m.mid k j).sr, .int .i64 (m.mid k j).ds, .int .i64 (m.mid k j).cn, .int .i64 (m.mid k j).cl, .int .i64 (m.mid k j).base, .slice z.A z.n z.c, .slice z.J z.jn z.jc, .int .i64 (m.mid k j).jm.ps.length, .int .i64 (m.mid k j).jm.N, .int .i64 (m.mid k j).jm.T, .int .i64 (m.mid k j).ar, .int .i64 (m.mid k j).pl, .int .i64 (m.mid k j).pd, .bool (m.mid k j).dn]) rfl rfl)) rfl ⟨z, A, n, c, ?_, r1, r2, r3⟩
        rw [e9]
        rfl
end
end Go.Proofs.Ytmmjhijgedboiaa
