/- More words: an append at one operation of a drawn region. -/
import Derived.Test.YtdepbdmnkkkjlaaDoorKit2
set_option linter.unusedSimpArgs false
set_option linter.unusedVariables false
namespace Go.Proofs.YtdepbdmnkkkjlaaDoor
open Go.RowKit Go.Shelf
section
variable {P : Program} {w : World} {ops : Array Oper} {o : Oper} {a : Act} {Q : Exit → Act → World → Prop} {K : Act → World → Prop}
theorem opwp_append_ints {t e : TypeId} {k : IntKind} {bytes : Nat} (S : Ints P t e k bytes) (hgd : o.guard = none) (s x : Operand)
    (ho : o.op = .call { callee := .builtin .append, args := #[s, x], argTypes := #[t, t] })
    {v : Value} {xs : List Int} (hs : a.eval s = v) {base : Nat} (hown : Ow k e base w v xs)
    {A : Option Addr} {m c : Nat} {ys : List Int} (hx : a.eval x = .slice A m c) (hr : Rd k w A m c ys)
    (hlen : (xs.length + m) * bytes ≤ 140737488355328) (hb1 : 0 < bytes) (hb : base ≤ w.heap.size)
    (h : ∀ v' w', Ow k e base w' v' (xs ++ ys) → Below base w w' → K (a.put o.dst v') w') : if Region.wanted o (yielded ops a.tmps) = true then Oper.wp P o a w K Q else K (a.put o.dst undef) w := by
  obtain ⟨i, hi, hz, hsz, hby⟩ := info_parts S.hi
  have hmax : xs.length + m ≤ maxLen := by
    have : (xs.length + m) * 1 ≤ (xs.length + m) * bytes := Nat.mul_le_mul_left _ hb1
    simp only [maxLen]; omega
  have hvb : ∀ g, v.ownBlock = some g → base ≤ g := fun g hg => (World.ownsRow.lt hown g hg).1
  obtain ⟨hl, _, hcm, hnil, hwf, hcell⟩ := hr
  rw [if_pos (by simp only [Region.wanted, hgd])]
  have hK : ∀ a w, K a w → K a w := fun _ _ h => h
  unfold Oper.wp execOp
  rcases A with _ | ad
  · have h0 := hnil rfl
    subst h0
    obtain rfl : m = 0 := by omega
    obtain rfl : ys = [] := List.eq_nil_of_length_eq_zero hl
    have hrun := run_append_owned_none (P := P) (w := w) base t o.type e i 1 S.ht hi v xs.length (xs.map (.int k)) hown
    simp only [ho, resolve, invoke, builtin, Sem.run_bind, Sem.run_pure, Result.andThen_ok, List.map_toArray, List.map_cons, List.map_nil, hs, hx, hrun]
    exact hK _ _ (h v w (by simpa using hown) (Below.refl _ _))
  · have hnews : ∀ j u, (ys.map (Value.int k))[j]? = some u → w.cell? (ad.add j) = some u := by
      intro j u hu
      rw [List.getElem?_map] at hu
      have hj : j < ys.length := by
        rcases Nat.lt_or_ge j ys.length with h1 | h1
        · exact h1
        · rw [List.getElem?_eq_none h1] at hu; simp at hu
      obtain ⟨g, off, he, _, hx'⟩ := hcell (by omega)
      injection he with he
      subst he
      have hadd : (⟨g, off, none⟩ : Addr).add j = ⟨g, off + j, none⟩ := by unfold Addr.add; split <;> simp_all
      rw [hadd, hx' j (by omega)]
      rw [List.getElem?_eq_getElem hj] at hu
      simp at hu
      simp [hj, ← hu]
    obtain ⟨v', w', hrun, h2, h3, _, _⟩ := run_append_own_at (P := P) w base t o.type e i (.int k 0) 1 bytes S.ht hi hz hsz hby rfl (by omega) v xs.length (xs.map (.int k)) hown ad m c (ys.map (.int k))
      (by simp [hl]) hnews (by simp [Value.oneCell']) hmax hlen hb
    simp only [ho, resolve, invoke, builtin, Sem.run_bind, Sem.run_pure, Result.andThen_ok, List.map_toArray, List.map_cons, List.map_nil, hs, hx, hrun]
    refine hK _ _ (h v' w' ?_ ((Below.refl base w).grown h3 hb hvb))
    unfold Ow
    rw [List.length_append, hl, List.map_append]
    exact h2

end
end Go.Proofs.YtdepbdmnkkkjlaaDoor
