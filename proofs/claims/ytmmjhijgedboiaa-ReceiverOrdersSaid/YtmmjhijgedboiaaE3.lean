/- Rows of packets that read (out of port's texts). -/
import Derived.Test.YtmmjhijgedboiaaWW
import Derived.Test.YtmmjhijgedboiaaLsrI
import Derived.Test.YtmmjhijgedboiaaCol
import Derived.Deep.QuietTactic
import Derived.BigQuiet
import Derived.WalkSpells
set_option linter.unusedSimpArgs false
set_option linter.unusedVariables false
set_option maxRecDepth 100000
namespace Go.Proofs.Ytmmjhijgedboiaa
open Go.RowKit Go.Shelf
section
variable {F F' : Nat → Prop} {w w' : World} {A : Option Addr} {n c : Nat} {ks : List Pk}
/-- A slice of packets that reads, off F. -/
def SlP (F : Nat → Prop) (w : World) (A : Option Addr) (n c : Nat) (ks : List Pk) : Prop :=
  ∃ qs : List Pv, n = qs.length ∧ RdR 9 w A n c (flat Pv.cl qs) ∧ qs.map Pv.pk = ks ∧ (∀ q ∈ qs, PvR F w q) ∧ (0 < n → ∀ ad, A = some ad → ¬ F ad.block)
theorem SlP.st (h : SlP F w A n c ks) (hs : St F w w') (hg : Gr F F' w.heap.size) : SlP F' w' A n c ks := by
  obtain ⟨qs, h1, h2, h3, h4, h5⟩ := h
  exact ⟨qs, h1, h2.st hs h5, h3, fun q hq => (h4 q hq).st hs hg, fun hn ad he => hg.not (h2.blk hn ad he) (h5 hn ad he)⟩
theorem SlP.below (h : SlP F w A n c ks) (hb : Below w.heap.size w w') : SlP F w' A n c ks := by
  obtain ⟨qs, h1, h2, h3, h4, h5⟩ := h
  exact ⟨qs, h1, h2.below hb, h3, fun q hq => (h4 q hq).below hb, h5⟩
theorem SlP.len (h : SlP F w A n c ks) : ks.length = n := by
  obtain ⟨qs, h1, h2, h3, h4, h5⟩ := h
  rw [← h3, List.length_map, h1]
theorem SlP.nil (F : Nat → Prop) (w : World) : SlP F w none 0 0 [] := ⟨[], rfl, RdR.nil _ _, rfl, by simp, fun h => absurd h (by omega)⟩
theorem SlP.cut (h : SlP F w A n c ks) (hn : 1 ≤ n) : SlP F w (cutR A c 1 9) (n - 1) (c - 1) ks.tail := by
  obtain ⟨qs, h1, h2, h3, h4, h5⟩ := h
  refine ⟨qs.drop 1, by rw [List.length_drop, h1], ?_, by rw [List.map_drop, h3, List.drop_one], fun q hq => h4 q (List.mem_of_mem_drop hq), ?_⟩
  · rw [flat_drop Pv.cl_len qs 1 (by omega)]; exact h2.cut hn
  · intro hp ad he
    unfold cutR at he
    rw [if_neg (by have := h2.2.1; omega)] at he
    cases hA : A with
    | none => rw [hA] at he; simp at he
    | some a =>
      rw [hA] at he
      simp at he
      have := h5 (by omega) a hA
      subst he
      unfold Addr.add
      split <;> exact this
/-- The first packet. -/
theorem SlP.head (h : SlP F w A n c ks) (hn : 0 < n) : ∃ g o q, A = some ⟨g, o, none⟩ ∧ w.rangeAt g o q.cl ∧ PvR F w q ∧ q.pk = ks.headD Pk.zero ∧ g < w.heap.size := by
  obtain ⟨qs, h1, h2, h3, h4, h5⟩ := h
  obtain ⟨g, o, hA, hg, hra⟩ := h2.range hn
  cases qs with
  | nil => simp at h1; omega
  | cons q qs =>
    have hrow := flat_row Pv.cl_len (q :: qs) 0 (by simp)
    simp only [Nat.zero_mul, Nat.add_zero, List.drop_zero, List.getElem_cons_zero] at hrow hra
    rw [hrow] at hra
    exact ⟨g, o, q, hA, hra, h4 q List.mem_cons_self, by rw [← h3]; rfl, hg⟩
/-- Row i of two of them. -/
theorem SlP.row (h : SlP F w A n c ks) {i : Nat} (hi : i < n) : ∃ g o q, A = some ⟨g, o, none⟩ ∧ w.rangeAt g (o + i * 9) q.cl ∧ PvR F w q ∧ some q.pk = ks[i]? ∧ g < w.heap.size := by
  obtain ⟨qs, h1, h2, h3, h4, h5⟩ := h
  obtain ⟨g, o, hA, hg, hra⟩ := h2.range hi
  have hl : i < qs.length := by omega
  rw [flat_row Pv.cl_len qs i hl] at hra
  exact ⟨g, o, qs[i], hA, hra, h4 _ (List.getElem_mem _), by rw [← h3, List.getElem?_map, List.getElem?_eq_getElem hl]; rfl, hg⟩
theorem new2 {T T' : TypeId} {w w1 : World} {vs vs' : List Value} (hb : Below ((w.alloc (.cells vs.toArray T)).alloc (.cells vs'.toArray T')).heap.size ((w.alloc (.cells vs.toArray T)).alloc (.cells vs'.toArray T')) w1) :
    Bk w1 T w.heap.size vs ∧ Bk w1 T' (w.heap.size + 1) vs' ∧ Below w.heap.size w w1 :=
  ⟨((Bk.new w T vs).alloc _).below hb, by have h := (Bk.new (w.alloc (.cells vs.toArray T)) T' vs').below hb; simpa using h, (((Below.refl _ _).alloc (Nat.le_refl _) _).alloc (by simp) _).trans (hb.mono (by simp; omega))⟩
theorem exec_loadRow {P : Program} {w : World} {ty : TypeId} {op : Oper} {a : Act} (R : Row P ty 9) (x : Operand) (ho : op.op = .load ty x) (g o : Nat) (hx : a.eval x = .pointer (some ⟨g, o, none⟩)) (q : Pv) (h : w.rangeAt g o q.cl) : (execOp a.eval op).run P w = .ok (.value (.agg #[.int .i64 q.h.kd, .int .i64 q.h.fl, .int .i64 q.h.pa, .int .i64 q.h.sr, .int .i64 q.h.ds, .int .i64 q.h.cn, .int .i64 q.h.sq, .int .i64 q.h.pu, .slice q.A q.n q.c])) w := by
  obtain ⟨d, h1, h2⟩ := R.ht
  have hl := run_loadVar_mid w g o ty q.cl d h h1 h2 R.hi
  unfold execOp
  simp only [ho, hx, Instr.loadAt, Instr.sureAddr, Sem.run_bind, Sem.run_pure, Result.andThen_ok, hl]
  rfl
theorem range_below {w w1 : World} {g o : Nat} {cs : List Value} (h : w.rangeAt g o cs) (hg : g < w.heap.size) (hb : Below w.heap.size w w1) : w1.rangeAt g o cs := fun j v hv => (hb.cell (p := ⟨g, o + j, none⟩) hg).trans (h j v hv)
set_option maxHeartbeats 2000000 in
set_option maxRecDepth 100000 in
/-- Two rows that say the same. -/
theorem r_sameAll {F1 F2 : Nat → Prop} {A B : Option Addr} {n c k d : Nat} {ks : List Pk} (h1 : SlP F1 w A n c ks) (h2 : SlP F2 w B k d ks) (hn : n ≤ 100000) :
    Calls Try.prog 12 #[.slice A n c, .slice B k d] w fun e w' => e = .returned (.bool true) ∧ Below w.heap.size w w' := by
  obtain rfl : n = k := h1.len.symm.trans h2.len
  have H1 := Lib.hid h1
  have H2 := Lib.hid h2
  clear h1 h2
  go_enter Try.func12, Try.ntmps12
  go_wp2
  go_loopw [5] (fun v wr => ∃ i : Nat, v = .int .i64 i ∧ i ≤ n ∧ Below w.heap.size w wr) (fun v _ => n - (intOf v).toNat)
  case atStart => exact ⟨0, rfl, Nat.zero_le _, Below.refl _ _⟩
  case round =>
    obtain ⟨i, rfl, hi, hb⟩ := hrel
    by_cases hlt : i < n
    · obtain ⟨g1, o1, q1, rfl, hra1, hr1, hk1, hg1⟩ := (H1.out.below hb).row hlt
      obtain ⟨g2, o2, q2, rfl, hra2, hr2, hk2, hg2⟩ := (H2.out.below hb).row hlt
      have hk : q1.pk = q2.pk := by rw [← hk2] at hk1; injection hk1
      have hse : q1.pk.sameB q2.pk = true := by rw [hk]; exact Pk.same_refl _
      have HS : Hid (∀ W, Ext wr W → Calls Try.prog 16 #[.agg #[.int .i64 q1.h.kd, .int .i64 q1.h.fl, .int .i64 q1.h.pa, .int .i64 q1.h.sr, .int .i64 q1.h.ds, .int .i64 q1.h.cn, .int .i64 q1.h.sq, .int .i64 q1.h.pu, .slice q1.A q1.n q1.c], .agg #[.int .i64 q2.h.kd, .int .i64 q2.h.fl, .int .i64 q2.h.pa, .int .i64 q2.h.sr, .int .i64 q2.h.ds, .int .i64 q2.h.cn, .int .i64 q2.h.sq, .int .i64 q2.h.pu, .slice q2.A q2.n q2.c]] W fun e w' => e = .returned (.bool true) ∧ Below W.heap.size W w') := Lib.hid fun W hW => by
        have := r_same (hr1.below hW) (hr2.below hW)
        rw [hse] at this; exact this
      clear hk hk1 hk2 hse hr1 hr2
      have hlt1 : (i : Int) < n := by omega
      have hi0 : (0 : Int) ≤ i := by omega
      go_wp2_with fail
      refine wp_region_E Ext (by kernel_rfl) (fun wd hbd hsz => ?_)
      clear hsz
      (refine takeE Ext.tr 0 (by simp only [List.getElem?_toArray, List.getElem?_cons_succ, List.getElem?_cons_zero]; rfl) (by kernel_rfl) (by kernel_rfl) (by kernel_rfl) (by exact fun _ _ _ h => h) (by first | (refine Or.inl ⟨by rfl, ?_⟩; intro W hW; go_simp; try with_reducible rfl) | exact Or.inr ⟨by rfl, rfl⟩) ?_; try simp only [Act.put, List.setIfInBounds_toArray, List.set_cons_zero, List.set_cons_succ])
      (refine takeE Ext.tr 1 (by simp only [List.getElem?_toArray, List.getElem?_cons_succ, List.getElem?_cons_zero]; rfl) (by kernel_rfl) (by kernel_rfl) (by kernel_rfl) (by exact fun _ _ _ h => h) (by first | (refine Or.inl ⟨by rfl, ?_⟩; intro W hW; go_simp; try with_reducible rfl) | exact Or.inr ⟨by rfl, rfl⟩) ?_; try simp only [Act.put, List.setIfInBounds_toArray, List.set_cons_zero, List.set_cons_succ])
      (refine takeE Ext.tr 4 (by simp only [List.getElem?_toArray, List.getElem?_cons_succ, List.getElem?_cons_zero]; rfl) (by kernel_rfl) (by kernel_rfl) (by kernel_rfl) (by exact fun _ _ _ h => h) (by first | (refine Or.inl ⟨by rfl, ?_⟩; intro W hW; go_simp; try with_reducible rfl) | exact Or.inr ⟨by rfl, rfl⟩) ?_; try simp only [Act.put, List.setIfInBounds_toArray, List.set_cons_zero, List.set_cons_succ])
      (refine takeE Ext.tr 5 (by simp only [List.getElem?_toArray, List.getElem?_cons_succ, List.getElem?_cons_zero]; rfl) (by kernel_rfl) (by kernel_rfl) (by kernel_rfl) (by exact fun _ _ _ h => h) (by first | (refine Or.inl ⟨by rfl, ?_⟩; intro W hW; go_simp; try with_reducible rfl) | exact Or.inr ⟨by rfl, rfl⟩) ?_; try simp only [Act.put, List.setIfInBounds_toArray, List.set_cons_zero, List.set_cons_succ])
      (refine takeE Ext.tr 2 (by simp only [List.getElem?_toArray, List.getElem?_cons_succ, List.getElem?_cons_zero]; rfl) (by kernel_rfl) (by kernel_rfl) (by kernel_rfl) (by exact fun _ _ _ h => h) (by first | (refine Or.inl ⟨by rfl, ?_⟩; intro W hW; go_simp; try with_reducible rfl) | exact Or.inr ⟨by rfl, rfl⟩) ?_; try simp only [Act.put, List.setIfInBounds_toArray, List.set_cons_zero, List.set_cons_succ])
      (refine takeE Ext.tr 6 (by simp only [List.getElem?_toArray, List.getElem?_cons_succ, List.getElem?_cons_zero]; rfl) (by kernel_rfl) (by kernel_rfl) (by kernel_rfl) (by exact fun _ _ _ h => h) (by first | (refine Or.inl ⟨by rfl, ?_⟩; intro W hW; go_simp; try with_reducible rfl) | exact Or.inr ⟨by rfl, rfl⟩) ?_; try simp only [Act.put, List.setIfInBounds_toArray, List.set_cons_zero, List.set_cons_succ])
      (refine takeE Ext.tr 3 (by simp only [List.getElem?_toArray, List.getElem?_cons_succ, List.getElem?_cons_zero]; rfl) (by kernel_rfl) (by kernel_rfl) (by kernel_rfl) (by exact fun _ _ _ h => h) (by first | (refine Or.inl ⟨by rfl, ?_⟩; intro W hW; exact exec_loadRow rowP (.tmp 19) rfl g1 (o1 + i * 9) rfl q1 (range_below (range_below hra1 hg1 hbd) (Nat.lt_of_lt_of_le hg1 hbd.size) hW)) | exact Or.inr ⟨by rfl, rfl⟩) ?_; try simp only [Act.put, List.setIfInBounds_toArray, List.set_cons_zero, List.set_cons_succ])
      (refine takeE Ext.tr 7 (by simp only [List.getElem?_toArray, List.getElem?_cons_succ, List.getElem?_cons_zero]; rfl) (by kernel_rfl) (by kernel_rfl) (by kernel_rfl) (by exact fun _ _ _ h => h) (by first | (refine Or.inl ⟨by rfl, ?_⟩; intro W hW; exact exec_loadRow rowP (.tmp 23) rfl g2 (o2 + i * 9) rfl q2 (range_below (range_below hra2 hg2 hbd) (Nat.lt_of_lt_of_le hg2 hbd.size) hW)) | exact Or.inr ⟨by rfl, rfl⟩) ?_; try simp only [Act.put, List.setIfInBounds_toArray, List.set_cons_zero, List.set_cons_succ])
      refine wpAnyE_one (i := 8) (by kernel_rfl) (by simp only [List.getElem?_toArray, List.getElem?_cons_succ, List.getElem?_cons_zero]; rfl) (fun K hK => ?_)
      go_simp
      refine (HS.out _ hbd).mono ?_
      rintro e w6 ⟨rfl, hb6⟩
      have HB6 := Lib.hid (below_on (below_on hb hbd) hb6)
      refine hK.out _ _ hb6 ?_
      clear hK K
      try simp only [Act.put, List.setIfInBounds_toArray, List.set_cons_zero, List.set_cons_succ]
      (refine takeE Ext.tr 9 (by simp only [List.getElem?_toArray, List.getElem?_cons_succ, List.getElem?_cons_zero]; rfl) (by kernel_rfl) (by kernel_rfl) (by kernel_rfl) (by exact fun _ _ _ h => h) (by first | (refine Or.inl ⟨by rfl, ?_⟩; intro W hW; go_simp; try with_reducible rfl) | exact Or.inr ⟨by rfl, rfl⟩) ?_; try simp only [Act.put, List.setIfInBounds_toArray, List.set_cons_zero, List.set_cons_succ])
      refine wpAnyE_done (by kernel_rfl) ?_ _
      skip
      go_wp2
      go_roundw
      case rel => exact ⟨i + 1, by go_num, by omega, HB6.out⟩
      case measure => simp [intOf]; omega
    · obtain rfl : i = n := by omega
      go_wp2
      go_ret
      exact ⟨rfl, hb⟩
end
end Go.Proofs.Ytmmjhijgedboiaa
