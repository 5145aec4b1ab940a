/- Which pieces are the same; rows of them compared; the piece behind all others. -/
import Derived.Test.YtmnmkolcffehhaaU2
set_option linter.unusedSimpArgs false
set_option linter.unusedVariables false
namespace Go.Proofs.Ytmnmkolcffehhaa
open Go.RowKit Go.Shelf
theorem below_on {w w1 w2 : World} (h : Below w.heap.size w w1) (k : Below w1.heap.size w1 w2) : Below w.heap.size w w2 := h.trans (k.mono h.size)
def samB (p q : Pp) : Bool := p.en == q.en && p.fn == q.fn && eqS p.xs q.xs
theorem samB_refl (p : Pp) : samB p p = true := by simp [samB, eqS_refl]
set_option maxHeartbeats 8000000 in
theorem c_same {w : World} {q r : Pc} (h : Rd .u8 w q.A q.n q.c q.xs) (k : Rd .u8 w r.A r.n r.c r.xs) :
    Calls Try.prog 15 #[.agg #[.slice q.A q.n q.c, .bool q.en, .bool q.fn], .agg #[.slice r.A r.n r.c, .bool r.en, .bool r.fn]] w fun e w' => e = .returned (.bool (samB q.say r.say)) ∧ Below w.heap.size w w' := by
  obtain ⟨A, n, c, xs, e1, f1⟩ := q
  obtain ⟨A1, n1, c1, ys, e2, f2⟩ := r
  unfold samB Pc.say
  dsimp only at h k ⊢
  generalize hq : eqS xs ys = b
  have HE : ∀ w', Below w.heap.size w w' → Calls Try.prog 21 #[.slice A n c, .slice A1 n1 c1] w' fun e w'' => e = .returned (.bool b) ∧ w' = w'' := fun w' hb => by
    rw [← hq]; exact equal_any _ _ _ _ _ _ _ _ _ (h.below hb) (k.below hb)
  have HE' := Lib.hid HE
  clear HE hq h k
  go_enter Try.func15, Try.ntmps15
  go_wp2_with (go_at_call 21; refine (HE'.out _ (by exact ((Below.refl _ _).alloc (Nat.le_refl _) _).alloc (by simp) _)).mono ?_; rintro e w1 ⟨rfl, rfl⟩)
  all_goals
    go_ret
    exact ⟨by simp_all, by exact ((Below.refl _ _).alloc (Nat.le_refl _) _).alloc (by simp) _⟩
set_option maxHeartbeats 8000000 in
theorem r_same {w : World} {q r : Pc} (h : Rd .u8 w q.A q.n q.c q.xs) (k : Rd .u8 w r.A r.n r.c r.xs) :
    Calls Try.prog 16 #[.agg #[.slice q.A q.n q.c, .bool q.en, .bool q.fn], .agg #[.slice r.A r.n r.c, .bool r.en, .bool r.fn]] w fun e w' => e = .returned (.bool (samB q.say r.say)) ∧ Below w.heap.size w w' := by
  obtain ⟨A, n, c, xs, e1, f1⟩ := q
  obtain ⟨A1, n1, c1, ys, e2, f2⟩ := r
  unfold samB Pc.say eqS
  dsimp only at h k ⊢
  have q1 := fun o o' => conv_any ((h.alloc o).alloc o')
  have q2 := fun o o' => conv_any ((k.alloc o).alloc o')
  generalize strOfNums xs = sx at *
  generalize strOfNums ys = sy at *
  clear h k
  go_enter Try.func16, Try.ntmps16
  go_wp2
  all_goals
    go_ret
    exact ⟨by simp_all, by exact ((Below.refl _ _).alloc (Nat.le_refl _) _).alloc (by simp) _⟩
theorem exec_loadRow {P : Program} {w : World} {ty : TypeId} {op : Oper} {a : Act} (R : Row P ty 3) (x : Operand) (ho : op.op = .load ty x) (g o : Nat) (hx : a.eval x = .pointer (some ⟨g, o, none⟩)) (q : Pc) (h : w.rangeAt g o q.cl) : (execOp a.eval op).run P w = .ok (.value (.agg #[.slice q.A q.n q.c, .bool q.en, .bool q.fn])) w := by
  obtain ⟨d, h1, h2⟩ := R.ht
  have hl := run_loadVar_mid w g o ty q.cl d h h1 h2 R.hi
  unfold execOp
  simp only [ho, hx, Instr.loadAt, Instr.sureAddr, Sem.run_bind, Sem.run_pure, Result.andThen_ok, hl]
  rfl
theorem range_below {w w1 : World} {g o : Nat} {cs : List Value} (h : w.rangeAt g o cs) (hg : g < w.heap.size) (hb : Below w.heap.size w w1) : w1.rangeAt g o cs := fun j v hv => (hb.cell (p := ⟨g, o + j, none⟩) hg).trans (h j v hv)
set_option maxHeartbeats 4000000 in
set_option maxRecDepth 100000 in
/-- Two rows that say the same. -/
theorem r_sameAll {w : World} {A B : Option Addr} {n c k d : Nat} {ps : List Pp} (h1 : SlC w A n c ps) (h2 : SlC w B k d ps) :
    Calls Try.prog 9 #[.slice A n c, .slice B k d] w fun e w' => e = .returned (.bool true) ∧ Below w.heap.size w w' := by
  obtain rfl : n = k := h1.len.symm.trans h2.len
  have hnm : n ≤ 9223372036854775807 := by have := h1.cap; simp only [maxLen] at this; omega
  have H1 := Lib.hid h1
  have H2 := Lib.hid h2
  clear h1 h2
  go_enter Try.func9, Try.ntmps9
  go_wp2
  go_loopw [5] (fun v wr => ∃ i : Nat, v = .int .i64 i ∧ i ≤ n ∧ Below w.heap.size w wr) (fun v _ => n - (intOf v).toNat)
  case atStart => exact ⟨0, rfl, Nat.zero_le _, Below.refl _ _⟩
  case round =>
    obtain ⟨i, rfl, hi, hb⟩ := hrel
    by_cases hlt : i < n
    · obtain ⟨g1, o1, q1, rfl, hra1, hr1, hk1, hg1⟩ := (H1.out.below hb).row hlt
      obtain ⟨g2, o2, q2, rfl, hra2, hr2, hk2, hg2⟩ := (H2.out.below hb).row hlt
      have hk : q1.say = q2.say := by rw [hk2] at hk1; injection hk1 with hk1; exact hk1.symm
      have HS : Hid (∀ W, Ext wr W → Calls Try.prog 16 #[.agg #[.slice q1.A q1.n q1.c, .bool q1.en, .bool q1.fn], .agg #[.slice q2.A q2.n q2.c, .bool q2.en, .bool q2.fn]] W fun e w' => e = .returned (.bool true) ∧ Below W.heap.size W w') := Lib.hid fun W hW => by
        have := r_same (hr1.below hW) (hr2.below hW)
        rw [hk, samB_refl] at this; exact this
      clear hk hk1 hk2 hr1 hr2
      have hlt1 : (i : Int) < n := by omega
      have hi0 : (0 : Int) ≤ i := by omega
      go_wp2_with fail
      refine wp_region_E Ext (by kernel_rfl) (fun wd hbd hsz => ?_)
      clear hsz
      (refine takeE Ext.tr 0 (by simp only [List.getElem?_toArray, List.getElem?_cons_succ, List.getElem?_cons_zero]; rfl) (by kernel_rfl) (by kernel_rfl) (by kernel_rfl) (by exact fun _ _ _ h => h) (by first | (refine Or.inl ⟨by rfl, ?_⟩; intro W hW; go_simp; try with_reducible rfl) | exact Or.inr ⟨by rfl, rfl⟩) ?_; try simp only [Act.put, List.setIfInBounds_toArray, List.set_cons_zero, List.set_cons_succ])
      (refine takeE Ext.tr 1 (by simp only [List.getElem?_toArray, List.getElem?_cons_succ, List.getElem?_cons_zero]; rfl) (by kernel_rfl) (by kernel_rfl) (by kernel_rfl) (by exact fun _ _ _ h => h) (by first | (refine Or.inl ⟨by rfl, ?_⟩; intro W hW; go_simp; try with_reducible rfl) | exact Or.inr ⟨by rfl, rfl⟩) ?_; try simp only [Act.put, List.setIfInBounds_toArray, List.set_cons_zero, List.set_cons_succ])
      (refine takeE Ext.tr 4 (by simp only [List.getElem?_toArray, List.getElem?_cons_succ, List.getElem?_cons_zero]; rfl) (by kernel_rfl) (by kernel_rfl) (by kernel_rfl) (by exact fun _ _ _ h => h) (by first | (refine Or.inl ⟨by rfl, ?_⟩; intro W hW; go_simp; try with_reducible rfl) | exact Or.inr ⟨by rfl, rfl⟩) ?_; try simp only [Act.put, List.setIfInBounds_toArray, List.set_cons_zero, List.set_cons_succ])
      (refine takeE Ext.tr 5 (by simp only [List.getElem?_toArray, List.getElem?_cons_succ, List.getElem?_cons_zero]; rfl) (by kernel_rfl) (by kernel_rfl) (by kernel_rfl) (by exact fun _ _ _ h => h) (by first | (refine Or.inl ⟨by rfl, ?_⟩; intro W hW; go_simp; try with_reducible rfl) | exact Or.inr ⟨by rfl, rfl⟩) ?_; try simp only [Act.put, List.setIfInBounds_toArray, List.set_cons_zero, List.set_cons_succ])
      (refine takeE Ext.tr 2 (by simp only [List.getElem?_toArray, List.getElem?_cons_succ, List.getElem?_cons_zero]; rfl) (by kernel_rfl) (by kernel_rfl) (by kernel_rfl) (by exact fun _ _ _ h => h) (by first | (refine Or.inl ⟨by rfl, ?_⟩; intro W hW; go_simp; try with_reducible rfl) | exact Or.inr ⟨by rfl, rfl⟩) ?_; try simp only [Act.put, List.setIfInBounds_toArray, List.set_cons_zero, List.set_cons_succ])
      (refine takeE Ext.tr 6 (by simp only [List.getElem?_toArray, List.getElem?_cons_succ, List.getElem?_cons_zero]; rfl) (by kernel_rfl) (by kernel_rfl) (by kernel_rfl) (by exact fun _ _ _ h => h) (by first | (refine Or.inl ⟨by rfl, ?_⟩; intro W hW; go_simp; try with_reducible rfl) | exact Or.inr ⟨by rfl, rfl⟩) ?_; try simp only [Act.put, List.setIfInBounds_toArray, List.set_cons_zero, List.set_cons_succ])
      (refine takeE Ext.tr 3 (by simp only [List.getElem?_toArray, List.getElem?_cons_succ, List.getElem?_cons_zero]; rfl) (by kernel_rfl) (by kernel_rfl) (by kernel_rfl) (by exact fun _ _ _ h => h) (by first | (refine Or.inl ⟨by rfl, ?_⟩; intro W hW; exact exec_loadRow rowC (.tmp 19) rfl g1 (o1 + i * 3) rfl q1 (range_below (range_below hra1 hg1 hbd) (Nat.lt_of_lt_of_le hg1 hbd.size) hW)) | exact Or.inr ⟨by rfl, rfl⟩) ?_; try simp only [Act.put, List.setIfInBounds_toArray, List.set_cons_zero, List.set_cons_succ])
      (refine takeE Ext.tr 7 (by simp only [List.getElem?_toArray, List.getElem?_cons_succ, List.getElem?_cons_zero]; rfl) (by kernel_rfl) (by kernel_rfl) (by kernel_rfl) (by exact fun _ _ _ h => h) (by first | (refine Or.inl ⟨by rfl, ?_⟩; intro W hW; exact exec_loadRow rowC (.tmp 23) rfl g2 (o2 + i * 3) rfl q2 (range_below (range_below hra2 hg2 hbd) (Nat.lt_of_lt_of_le hg2 hbd.size) hW)) | exact Or.inr ⟨by rfl, rfl⟩) ?_; try simp only [Act.put, List.setIfInBounds_toArray, List.set_cons_zero, List.set_cons_succ])
      refine wpAnyE_one (i := 8) (by kernel_rfl) (by simp only [List.getElem?_toArray, List.getElem?_cons_succ, List.getElem?_cons_zero]; rfl) (fun K hK => ?_)
      go_simp
      refine (HS.out _ hbd).mono ?_
      rintro e w6 ⟨rfl, hb6⟩
      have HB6 := Lib.hid (below_on (below_on hb hbd) hb6)
      refine hK.out _ _ hb6 ?_
      clear hK K
      try simp only [Act.put, List.setIfInBounds_toArray, List.set_cons_zero, List.set_cons_succ]
      (refine takeE Ext.tr 9 (by simp only [List.getElem?_toArray, List.getElem?_cons_succ, List.getElem?_cons_zero]; rfl) (by kernel_rfl) (by kernel_rfl) (by kernel_rfl) (by exact fun _ _ _ h => h) (by first | (refine Or.inl ⟨by rfl, ?_⟩; intro W hW; go_simp; try with_reducible rfl) | exact Or.inr ⟨by rfl, rfl⟩) ?_; try simp only [Act.put, List.setIfInBounds_toArray, List.set_cons_zero, List.set_cons_succ])
      refine wpAnyE_done (by kernel_rfl) ?_ _
      skip
      go_wp2
      go_roundw
      case rel => exact ⟨i + 1, by go_num, by omega, HB6.out⟩
      case measure => simp [intOf]; omega
    · obtain rfl : i = n := by omega
      go_wp2
      go_ret
      exact ⟨rfl, hb⟩
theorem c_fin (w : World) : Calls Try.prog 17 #[] w fun e w' => e = .returned (.agg #[.slice none 0 0, .bool false, .bool true]) ∧ Below w.heap.size w w' := by
  go_enter Try.func17, Try.ntmps17
  go_wp2
  exact bodyPost_ret (results_cell rfl rfl (rowC.load (Bk.new w 36 [.slice none 0 0, .bool false, .bool true]) 0 (cs := [.slice none 0 0, .bool false, .bool true]) rfl rfl)) rfl ⟨rfl, (Below.refl _ w).alloc (Nat.le_refl _) _⟩
end Go.Proofs.Ytmnmkolcffehhaa
