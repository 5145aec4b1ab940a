/- A queue and the document's side by side. -/
import Derived.Test.YtnakoplceplmmaaV23
import Derived.Test.YtnakoplceplmmaaOpenV
set_option linter.unusedSimpArgs false
set_option linter.unusedVariables false
namespace Go.Proofs.Ytnakoplceplmmaa
open Go.RowKit Go.Shelf
abbrev OpT : Ty := .one (.int .u8) (.one (.int .u8) (.one (.int .i64) .unit))
/-- The k-th call, as it lies in memory. -/
theorem op_at {w : World} {s : Sl OpT.den} (h : (Ty.sl OpT).reads w s) (k : Nat) (hk : k < s.n) : ∃ (g o : Nat) (d nv x : Int), s.A = some ⟨g, o, none⟩ ∧ g < w.heap.size ∧
    w.rangeAt g (o + k * 3) [.int .u8 d, .int .u8 nv, .int .i64 x] ∧ (0 ≤ d ∧ d < 256) ∧ (0 ≤ nv ∧ nv < 256) := by
  obtain ⟨h1, h2, h3, h4, h5, h6⟩ := h
  have h1' : s.l.length = s.n := h1
  have hkl : k < s.l.length := by omega
  obtain ⟨g, o, hA, hg, hx⟩ := h5 (by omega) (show 0 < 3 from by omega)
  have hr : OpT.reads w s.l[k] := h6 _ (List.getElem_mem _)
  have hx' := hx k hkl
  obtain ⟨x, hxe⟩ : ∃ x, x = s.l[k] := ⟨_, rfl⟩
  rw [← hxe] at hr hx'
  clear hxe hx
  obtain ⟨d, nv, y, u⟩ := x
  obtain ⟨r1, r2, r3, _⟩ := hr
  exact ⟨g, o, d, nv, y, hA, hg, fun j v hv => hx' j v hv, u8_bounds r1, u8_bounds r2⟩
/-- A queue (mq), and the document's (mr), which lies in box b, side by side. -/
structure JQ (w : World) (b g : Nat) (mq mr : Sm) (A : Option Addr) (n c : Nat) (B : Option Addr) (k d : Nat) (C : Option Addr) (r e : Nat) (F : Nat → Prop) (W : World) : Prop where
  q : SqC F W g mq
  bx : Bk W 31 b [.int .i64 mr.most, .slice A n c, .slice B k d, .int .i64 mr.nx, .slice C r e]
  rq : RqA (fun j => ¬ F j ∧ j ≠ b) W mr A n c B k d C r e
  bF : ¬ F b
  ge : ∀ j, F j → w.heap.size ≤ j
  bge : w.heap.size ≤ b
  bel : Below w.heap.size w W
section
variable {w W W1 W2 W3 : World} {b g g' : Nat} {m mq mr mr' mq' : Sm} {A B C A' B' C' : Option Addr} {n c k d r e n' c' k' d' r' e' : Nat} {F F' G : Nat → Prop}
theorem JQ.next (h : JQ w b g mq mr A n c B k d C r e F W) (hb : Below W.heap.size W W1) : JQ w b g mq mr A n c B k d C r e F W1 :=
  ⟨h.q.below hb, h.bx.below hb, h.rq.below hb, h.bF, h.ge, h.bge, below_on h.bel hb⟩
/-- The document's answer goes into the box. -/
theorem JQ.ref (h : JQ w b g mq mr A n c B k d C r e F W) (hr : RqA (fun j => (¬ F j ∧ j ≠ b) ∨ W.heap.size ≤ j) W1 mr' A' n' c' B' k' d' C' r' e') (hb : Below W.heap.size W W1) (hb2 : Below W1.heap.size W1 W2)
    (hk : Bk W3 31 b [.int .i64 mr'.most, .slice A' n' c', .slice B' k' d', .int .i64 mr'.nx, .slice C' r' e']) (hw : Wr b W2 W3) : JQ w b g mq mr' A' n' c' B' k' d' C' r' e' F W3 := by
  have hst := st_wr hw
  have h2 := (h.next hb).next hb2
  have hF := h.q.lt
  have hbl := h.bx.lt
  refine ⟨h2.q.st hst fun j hj e => h.bF (e ▸ hj), hk, ((hr.below hb2).mono (X' := fun j => ¬ F j ∧ j ≠ b) fun j _ hj => ?_).st hst fun j hj e => hj.2 e, h.bF, h.ge, h.bge, h2.bel.trans (hst.below h2.bel.size fun j hj => hj ▸ h.bge)⟩
  rcases hj with hj | hj
  · exact hj
  · exact ⟨fun hf => by have := hF j hf; omega, by omega⟩
/-- The queue is turned. -/
theorem JQ.did (h : JQ w b g mq mr A n c B k d C r e F W) (hd : Did F W g mq' W1) : ∃ F', JQ w b g mq' mr A n c B k d C r e F' W1 ∧ St F W W1 ∧ Gr F F' W.heap.size := by
  obtain ⟨F', h1, h2, h3⟩ := hd
  have hbl := h.bx.lt
  refine ⟨F', ⟨h1, h.bx.st h2 h.bF, ?_, h3.not hbl h.bF, h3.ge h.ge h.bel.size, h.bge, h.bel.trans (h2.below h.bel.size h.ge)⟩, h2, h3⟩
  have h4 := h.rq.mono (X' := fun j => (¬ F j ∧ j ≠ b) ∧ j < W.heap.size) fun j hj hx => ⟨hx, hj⟩
  exact (h4.st h2 fun j hj => hj.1.1).mono fun j _ hj => ⟨h3.not hj.2 hj.1.1, hj.1.2⟩
/-- The copy goes on. -/
theorem JQ.fork (h : JQ w b g mq mr A n c B k d C r e F W) (hj : SqC F' W1 g' mq) (hF : ∀ j, F' j → W.heap.size ≤ j) (hb : Below W.heap.size W W1) : JQ w b g' mq mr A n c B k d C r e F' W1 := by
  have h1 := h.next hb
  have hbl := h.bx.lt
  refine ⟨hj, h1.bx, ?_, fun hf => by have := hF b hf; omega, fun j hj => Nat.le_trans h.bel.size (hF j hj), h.bge, h1.bel⟩
  have h4 := h.rq.mono (X' := fun j => (¬ F j ∧ j ≠ b) ∧ j < W.heap.size) fun j hj hx => ⟨hx, hj⟩
  exact (h4.below hb).mono fun j _ hj => ⟨fun hf => by have := hF j hf; omega, hj.1.2⟩
end
/-- What a call makes of a queue keeps it well. -/
theorem Sm.added_ok {m : Sm} (h : m.Ok) (lw : m.Low) {l : List Pp} (hb : m.L.length + l.length ≤ 1000000000) : (m.added l).Ok ∧ (m.added l).Low ∧ (m.added l).L.length ≤ m.L.length + l.length ∧ (m.added l).most = m.most := by
  unfold Sm.added
  split
  · rename_i hf
    have h1 := Sm.add_ok h lw hf hb
    exact ⟨h1.1, h1.2, by simp [Sm.add], rfl⟩
  · exact ⟨h, lw, by omega, rfl⟩
end Go.Proofs.Ytnakoplceplmmaa
