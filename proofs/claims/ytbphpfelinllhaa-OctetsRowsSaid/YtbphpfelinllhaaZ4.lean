/- The first numbers that are told. -/
import Derived.Test.YtbphpfelinllhaaZ3
set_option linter.unusedSimpArgs false
set_option linter.unusedVariables false
set_option linter.unnecessarySimpa false
namespace Go.Proofs.Ytbphpfelinllhaa
open Go.RowKit Go.Shelf
attribute [local go_sem] Oper.semAt_some

theorem own_slice {k : IntKind} {e : TypeId} {base : Nat} {w : World} {v : Value} {xs : List Int} (h : Own k e base w v xs) : ∃ A c, v = .slice A xs.length c := by
  rcases h.2 with ⟨rfl, h0⟩ | ⟨g, cap, cur, rfl, _⟩
  · exact ⟨none, 0, by rw [h0]⟩
  · exact ⟨_, cap, rfl⟩
theorem own_grown {k : IntKind} {e : TypeId} {base : Nat} {w w' : World} {v : Value} {xs : List Int} (h : Own k e base w v xs) {row : Option Nat} (hw : w.grownBy w' row) (hr : ∀ r, row = some r → ∃ o : Obj, w.heap[r]? = some o ∧ o.isCells = false) : Own k e base w' v xs := by
  refine ⟨h.1, ?_⟩
  rcases h.2 with hn | ⟨g, cap, cur, hv, hg, hh, r⟩
  · exact .inl hn
  · refine .inr ⟨g, cap, cur, hv, hg, ?_, r⟩
    rw [hw.block g (Array.getElem?_eq_some_iff.1 hh).1 (fun e => ?_)]
    · exact hh
    · obtain ⟨o, ho, hc⟩ := hr g e.symm
      rw [hh] at ho
      injection ho with ho
      subst ho
      simp [Obj.isCells] at hc

set_option maxHeartbeats 1000000 in
theorem mrows_any (A : Option Addr) (n c : Nat) (s : Int) (xs : List Int) (w : World) (h : Rd .u8 w A n c xs) (hn : n ≤ 100000) :
    Calls Try.prog 26 #[.slice A n c, .int .i64 s] w fun e w' => ∃ g B d, e = .returned (.func (.func 29) #[] #[.pointer (some ⟨g + 1, 0, none⟩), .pointer (some ⟨g, 0, none⟩)]) ∧
      w.heap.size ≤ g ∧ w'.heap.size = g + 2 ∧ Below w.heap.size w w' ∧ w'.cell? ⟨g, 0, none⟩ = some (.slice B n d) ∧ w'.cell? ⟨g + 1, 0, none⟩ = some (.int .i64 s) ∧ Rd .u8 w' B n d xs ∧ (0 < n → ∀ ad, B = some ad → w.heap.size ≤ ad.block ∧ ad.block < g) := by
  have hl := Lib.hid h.1
  have hwf := Lib.hid h.2.2.2.2.1
  go_enter Try.func26, Try.ntmps26
  go_wp2_with fail
  refine (clone_any _ _ _ xs _ h (by omega)).mono ?_
  rintro e w1 ⟨v1, rfl, hown, hb⟩
  obtain ⟨B, d, rfl, hr⟩ := hown.rd hwf.out
  rw [hl.out] at hr
  rw [hl.out]
  have hlt : 0 < n → ∀ ad, B = some ad → w.heap.size ≤ ad.block ∧ ad.block < w1.heap.size := by
    rintro hn0 ad rfl
    have := World.ownsRow.lt hown ad.block rfl
    exact ⟨this.1, this.2⟩
  have HLT := Lib.hid hlt
  clear hlt
  go_wp2_with fail
  refine (irows_any _ _ _ _ _).mono ?_
  rintro e w2 ⟨rfl, rfl⟩
  have p1 : ((w1.alloc (.cells #[.slice B n d] 22)).alloc (.cells #[.int .i64 s] 3)).cell? ⟨w1.heap.size, 0, none⟩ = some (.slice B n d) := ((Bk.new w1 22 [.slice B n d]).alloc _).cell 0 rfl
  have p2 : ((w1.alloc (.cells #[.slice B n d] 22)).alloc (.cells #[.int .i64 s] 3)).cell? ⟨w1.heap.size + 1, 0, none⟩ = some (.int .i64 s) := by
    have := (Bk.new (w1.alloc (.cells #[.slice B n d] 22)) 3 [.int .i64 s]).cell 0 rfl
    simp
  have P1 := Lib.hid p1
  have P2 := Lib.hid p2
  clear p1 p2
  go_wp2
  go_ret
  exact ⟨w1.heap.size, B, d, rfl, hb.size, by simp, (hb.alloc hb.size _).alloc (by have := hb.size; simp; omega) _, P1.out, P2.out, (hr.alloc _).alloc _, HLT.out⟩

theorem wpListIn_append_u64 {F : Fence} {n : Nat} {W : World} {ops : Array Oper} {rest : List Oper} {o : Oper} {a : Act} {Q : Exit → Act → World → Prop} (hgd : o.guard = none) (s x : Operand)
    (ho : o.op = .call { callee := .builtin .append, args := #[s, x], argTypes := #[31, 31] }) {v : Value} {base : Nat} {pre : List Int} (hs : a.eval s = v) (hown : Own .u64 23 base W v pre)
    {x0 : Int} {g : Nat} (hx : a.eval x = .slice (some ⟨g, 0, none⟩) 1 1) (hc : W.cell? ⟨g, 0, none⟩ = some (.int .u64 x0)) (hlen : pre.length + 1 ≤ 1000000) (hb : base ≤ W.heap.size)
    (h : ∀ v' w', Own .u64 23 base w' v' (pre ++ [x0]) → W.grownBy w' v.ownBlock → wpListIn F n Try.prog ops Q rest (a.put o.dst v') w') : wpListIn F n Try.prog ops Q (o :: rest) a W := by
  obtain ⟨i, hi, hz, hsz, hby⟩ := info_parts u64T.hi
  refine wpListIn_append_own W hgd s x 31 ho base 23 i (.int .u64 0) 1 8 u64T.ht hi hz hsz hby rfl (by decide) v pre.length (pre.map (.int .u64)) hs hown ⟨g, 0, none⟩ 1 1 [.int .u64 x0] hx rfl ?_ (by simp [Value.oneCell']) (by simp only [maxLen]; omega) (by omega) hb ?_
  · intro j u hu
    cases j with
    | zero => simp at hu; subst hu; simpa [Addr.add] using hc
    | succ j => simp at hu
  · intro v' w' h1 h2 _
    refine h v' w' ?_ h2
    unfold Own
    rw [List.length_append, List.map_append]
    exact h1

/-- Between two rounds: the first numbers lie in l. -/
def RowI (w : World) (n₁ m : Nat) (pre : List Int) (W : World) : Prop :=
  Bk W 3 w.heap.size [.int .i64 m] ∧ (∃ v, Bk W 31 (w.heap.size + 1) [v] ∧ Own .u64 23 n₁ W v pre) ∧ pre.length ≤ m ∧ Below w.heap.size w W ∧ n₁ ≤ W.heap.size
theorem rowI_own {w : World} {n₁ m B : Nat} (hB : w.heap.size + 1 < B) : OwnFrom B (RowI w n₁ m) := by
  rintro s W W' row ⟨h1, ⟨v, h2, h3⟩, h4, h5, h6⟩ hw hr
  refine ⟨(hw.block _ h1.lt (fun e => ?_)).trans h1, ⟨v, (hw.block _ h2.lt (fun e => ?_)).trans h2, own_grown h3 hw (fun r e => (hr r e).2)⟩, h4, ⟨hw.os.trans h5.os, hw.tape.trans h5.tape, hw.output.trans h5.output, Nat.le_trans h5.size hw.size, fun k hk => ?_⟩, Nat.le_trans h6 hw.size⟩
  · have := (hr _ e.symm).1; omega
  · have := (hr _ e.symm).1; omega
  · exact (hw.block k (by have := h5.size; omega) (fun e => by have := (hr k e.symm).1; omega)).trans (h5.block k hk)
end Go.Proofs.Ytbphpfelinllhaa
