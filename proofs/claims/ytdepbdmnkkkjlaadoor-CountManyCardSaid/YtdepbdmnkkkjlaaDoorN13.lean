/- The document's: two texts compared; may a name be. -/
import Derived.Test.YtdepbdmnkkkjlaaDoorN12
set_option linter.unusedSimpArgs false
set_option linter.unusedVariables false
set_option maxRecDepth 100000
namespace Go.Proofs.YtdepbdmnkkkjlaaDoor
open Go.RowKit Go.Shelf Go.Maps Go.Sort
theorem get_str (s : Nm) (k : Nat) (hk : k < s.length) (w : World) : (Instr.index 9 (.string ⟨s.toArray⟩) (.int .i64 (k : Int))).run Tryd.prog w = .ok (.int .u8 (s[k].toNat : Int)) w := by
  have hi := run_index_string (P := Tryd.prog) (w := w) 9 ⟨s.toArray⟩ .i64 (k : Int) rfl
  rw [hi, dif_pos ⟨by omega, by rw [str_len]; omega⟩]
  simp [ByteArray.getElem_eq_getElem_data]
theorem exec_index {P : Program} {w : World} {op : Oper} {a : Act} {t : TypeId} {x y : Operand} {xv yv v : Value} (ho : op.op = .index t x y) (hx : a.eval x = xv) (hy : a.eval y = yv) (h : (Instr.index t xv yv).run P w = .ok v w) : (execOp a.eval op).run P w = .ok (.value v) w := by
  unfold execOp
  simp only [ho, hx, hy, Sem.run_bind, Sem.run_pure, h, Result.andThen_ok]
theorem lt_first {a b : Nm} (k : Nat) (ha : k < a.length) (hb : k < b.length) (he : a.take k = b.take k) (hne : a[k] ≠ b[k]) : (a < b) ↔ a[k] < b[k] := by
  induction k generalizing a b with
  | zero =>
    cases a with
    | nil => simp at ha
    | cons x a =>
      cases b with
      | nil => simp at hb
      | cons y b =>
        simp only [List.getElem_cons_zero] at hne ⊢
        rw [List.cons_lt_cons_iff]
        constructor
        · rintro (h | ⟨h, _⟩)
          · exact h
          · exact absurd h hne
        · exact .inl
  | succ k ih =>
    cases a with
    | nil => simp at ha
    | cons x a =>
      cases b with
      | nil => simp at hb
      | cons y b =>
        simp only [List.take_succ_cons, List.cons.injEq] at he
        obtain ⟨rfl, he⟩ := he
        simp only [List.getElem_cons_succ] at hne ⊢
        rw [← ih (by simpa using ha) (by simpa using hb) he hne, List.cons_lt_cons_iff]
        constructor
        · rintro (h | ⟨_, h⟩)
          · exact absurd h (by simp)
          · exact h
        · exact fun h => .inr ⟨rfl, h⟩
theorem lt_len : ∀ {a b : Nm}, a.take (min a.length b.length) = b.take (min a.length b.length) → ((a < b) ↔ a.length < b.length)
  | [], [], _ => by simp
  | [], _ :: _, _ => by simp
  | _ :: _, [], _ => by simp
  | x :: a, y :: b, h => by
    have hm : min (x :: a).length (y :: b).length = min a.length b.length + 1 := by simp only [List.length_cons]; omega
    rw [hm, List.take_succ_cons, List.take_succ_cons, List.cons.injEq] at h
    obtain ⟨rfl, h⟩ := h
    rw [List.cons_lt_cons_iff, List.length_cons, List.length_cons]
    have := lt_len h
    constructor
    · rintro (h' | ⟨_, h'⟩)
      · exact absurd h' (by simp)
      · have := this.1 h'; omega
    · exact fun h' => .inr ⟨rfl, this.2 (by omega)⟩
set_option maxHeartbeats 2000000 in
theorem r_less (a b : Nm) (ha : a.length ≤ 1000000) (hb : b.length ≤ 1000000) (w : World) : Calls Tryd.prog 47 #[str a, str b] w fun e w' => e = .returned (.bool (decide (a < b))) ∧ Below w.heap.size w w' := by
  have e1 := str_len a
  have e2 := str_len b
  go_enter Tryd.func47, Tryd.ntmps47
  go_wp2
  go_loopw [5] (fun i wr => ∃ k : Nat, i = .int .i64 (k : Nat) ∧ k ≤ a.length ∧ k ≤ b.length ∧ a.take k = b.take k ∧ Below w.heap.size w wr) (fun i _ => a.length - (intOf i).toNat)
  case atStart => exact ⟨0, rfl, by omega, by omega, by simp, Below.refl _ _⟩
  case round =>
    obtain ⟨k, rfl, hka, hkb, he, hbw⟩ := hrel
    have HE := Lib.hid he
    have HB := Lib.hid hbw
    clear he hbw
    by_cases h1 : k < a.length
    · have h1' : (k : Int) < a.length := by omega
      by_cases h2 : k < b.length
      · have h2' : (k : Int) < b.length := by omega
        have X1 := Lib.hid (fun w => get_str a k h1 w)
        have X2 := Lib.hid (fun w => get_str b k h2 w)
        by_cases hc : a[k] = b[k]
        · have HT : Hid (a.take (k + 1) = b.take (k + 1)) := Lib.hid (by rw [List.take_succ_eq_append_getElem h1, List.take_succ_eq_append_getElem h2, HE.out, hc])
          rw [hc] at X1
          clear hc
          generalize (b[k].toNat : Int) = q at *
          have hq : (q != q) = false := by simp
          go_wp2
          refine wp_region_E Ext (by kernel_rfl) (fun wd hbd hsz => ?_)
          have HB4 := Lib.hid (below_on HB.out hbd)
          clear hsz
          (refine takeE Ext.tr 0 (by simp only [List.getElem?_toArray, List.getElem?_cons_succ, List.getElem?_cons_zero]; rfl) (by kernel_rfl) (by kernel_rfl) (by kernel_rfl) (by exact fun _ _ _ h => h) (by first | (refine Or.inl ⟨by rfl, ?_⟩; intro W hW; go_simp; try with_reducible rfl) | exact Or.inr ⟨by rfl, rfl⟩) ?_; try simp only [Act.put, List.setIfInBounds_toArray, List.set_cons_zero, List.set_cons_succ])
          (refine takeE Ext.tr 1 (by simp only [List.getElem?_toArray, List.getElem?_cons_succ, List.getElem?_cons_zero]; rfl) (by kernel_rfl) (by kernel_rfl) (by kernel_rfl) (by exact fun _ _ _ h => h) (by first | (refine Or.inl ⟨by rfl, ?_⟩; intro W hW; go_simp; try with_reducible rfl) | exact Or.inr ⟨by rfl, rfl⟩) ?_; try simp only [Act.put, List.setIfInBounds_toArray, List.set_cons_zero, List.set_cons_succ])
          (refine takeE Ext.tr 3 (by simp only [List.getElem?_toArray, List.getElem?_cons_succ, List.getElem?_cons_zero]; rfl) (by kernel_rfl) (by kernel_rfl) (by kernel_rfl) (by exact fun _ _ _ h => h) (by first | (refine Or.inl ⟨by rfl, ?_⟩; intro W hW; go_simp; try with_reducible rfl) | exact Or.inr ⟨by rfl, rfl⟩) ?_; try simp only [Act.put, List.setIfInBounds_toArray, List.set_cons_zero, List.set_cons_succ])
          (refine takeE Ext.tr 4 (by simp only [List.getElem?_toArray, List.getElem?_cons_succ, List.getElem?_cons_zero]; rfl) (by kernel_rfl) (by kernel_rfl) (by kernel_rfl) (by exact fun _ _ _ h => h) (by first | (refine Or.inl ⟨by rfl, ?_⟩; intro W hW; go_simp; try with_reducible rfl) | exact Or.inr ⟨by rfl, rfl⟩) ?_; try simp only [Act.put, List.setIfInBounds_toArray, List.set_cons_zero, List.set_cons_succ])
          (refine takeE Ext.tr 2 (by simp only [List.getElem?_toArray, List.getElem?_cons_succ, List.getElem?_cons_zero]; rfl) (by kernel_rfl) (by kernel_rfl) (by kernel_rfl) (by exact fun _ _ _ h => h) (by first | (refine Or.inl ⟨by rfl, ?_⟩; intro W hW; exact exec_index rfl rfl rfl (X1.out W)) | exact Or.inr ⟨by rfl, rfl⟩) ?_; try simp only [Act.put, List.setIfInBounds_toArray, List.set_cons_zero, List.set_cons_succ])
          (refine takeE Ext.tr 5 (by simp only [List.getElem?_toArray, List.getElem?_cons_succ, List.getElem?_cons_zero]; rfl) (by kernel_rfl) (by kernel_rfl) (by kernel_rfl) (by exact fun _ _ _ h => h) (by first | (refine Or.inl ⟨by rfl, ?_⟩; intro W hW; exact exec_index rfl rfl rfl (X2.out W)) | exact Or.inr ⟨by rfl, rfl⟩) ?_; try simp only [Act.put, List.setIfInBounds_toArray, List.set_cons_zero, List.set_cons_succ])
          (refine takeE Ext.tr 6 (by simp only [List.getElem?_toArray, List.getElem?_cons_succ, List.getElem?_cons_zero]; rfl) (by kernel_rfl) (by kernel_rfl) (by kernel_rfl) (by exact fun _ _ _ h => h) (by first | (refine Or.inl ⟨by rfl, ?_⟩; intro W hW; go_simp; try with_reducible rfl) | exact Or.inr ⟨by rfl, rfl⟩) ?_; try simp only [Act.put, List.setIfInBounds_toArray, List.set_cons_zero, List.set_cons_succ])
          refine wpAnyE_done (by kernel_rfl) ?_ _
          go_wp2
          go_roundw
          case rel => exact ⟨k + 1, by go_num, by omega, by omega, HT.out, HB4.out⟩
          case measure => simp [intOf]; omega
        · have HF : Hid (decide (a < b) = decide ((a[k].toNat : Int) < b[k].toNat)) := Lib.hid (by
            rw [decide_eq_decide, lt_first k h1 h2 HE.out hc, UInt8.lt_iff_toNat_lt]
            omega)
          have hq : ((a[k].toNat : Int) != (b[k].toNat : Int)) = true := by
            simp
            exact fun e => hc (UInt8.toNat_inj.1 (by omega))
          clear hc
          generalize (a[k].toNat : Int) = q1 at *
          generalize (b[k].toNat : Int) = q2 at *
          go_wp2
          refine wp_region_E Ext (by kernel_rfl) (fun wd hbd hsz => ?_)
          have HB4 := Lib.hid (below_on HB.out hbd)
          clear hsz
          (refine takeE Ext.tr 0 (by simp only [List.getElem?_toArray, List.getElem?_cons_succ, List.getElem?_cons_zero]; rfl) (by kernel_rfl) (by kernel_rfl) (by kernel_rfl) (by exact fun _ _ _ h => h) (by first | (refine Or.inl ⟨by rfl, ?_⟩; intro W hW; go_simp; try with_reducible rfl) | exact Or.inr ⟨by rfl, rfl⟩) ?_; try simp only [Act.put, List.setIfInBounds_toArray, List.set_cons_zero, List.set_cons_succ])
          (refine takeE Ext.tr 1 (by simp only [List.getElem?_toArray, List.getElem?_cons_succ, List.getElem?_cons_zero]; rfl) (by kernel_rfl) (by kernel_rfl) (by kernel_rfl) (by exact fun _ _ _ h => h) (by first | (refine Or.inl ⟨by rfl, ?_⟩; intro W hW; go_simp; try with_reducible rfl) | exact Or.inr ⟨by rfl, rfl⟩) ?_; try simp only [Act.put, List.setIfInBounds_toArray, List.set_cons_zero, List.set_cons_succ])
          (refine takeE Ext.tr 3 (by simp only [List.getElem?_toArray, List.getElem?_cons_succ, List.getElem?_cons_zero]; rfl) (by kernel_rfl) (by kernel_rfl) (by kernel_rfl) (by exact fun _ _ _ h => h) (by first | (refine Or.inl ⟨by rfl, ?_⟩; intro W hW; go_simp; try with_reducible rfl) | exact Or.inr ⟨by rfl, rfl⟩) ?_; try simp only [Act.put, List.setIfInBounds_toArray, List.set_cons_zero, List.set_cons_succ])
          (refine takeE Ext.tr 4 (by simp only [List.getElem?_toArray, List.getElem?_cons_succ, List.getElem?_cons_zero]; rfl) (by kernel_rfl) (by kernel_rfl) (by kernel_rfl) (by exact fun _ _ _ h => h) (by first | (refine Or.inl ⟨by rfl, ?_⟩; intro W hW; go_simp; try with_reducible rfl) | exact Or.inr ⟨by rfl, rfl⟩) ?_; try simp only [Act.put, List.setIfInBounds_toArray, List.set_cons_zero, List.set_cons_succ])
          (refine takeE Ext.tr 2 (by simp only [List.getElem?_toArray, List.getElem?_cons_succ, List.getElem?_cons_zero]; rfl) (by kernel_rfl) (by kernel_rfl) (by kernel_rfl) (by exact fun _ _ _ h => h) (by first | (refine Or.inl ⟨by rfl, ?_⟩; intro W hW; exact exec_index rfl rfl rfl (X1.out W)) | exact Or.inr ⟨by rfl, rfl⟩) ?_; try simp only [Act.put, List.setIfInBounds_toArray, List.set_cons_zero, List.set_cons_succ])
          (refine takeE Ext.tr 5 (by simp only [List.getElem?_toArray, List.getElem?_cons_succ, List.getElem?_cons_zero]; rfl) (by kernel_rfl) (by kernel_rfl) (by kernel_rfl) (by exact fun _ _ _ h => h) (by first | (refine Or.inl ⟨by rfl, ?_⟩; intro W hW; exact exec_index rfl rfl rfl (X2.out W)) | exact Or.inr ⟨by rfl, rfl⟩) ?_; try simp only [Act.put, List.setIfInBounds_toArray, List.set_cons_zero, List.set_cons_succ])
          (refine takeE Ext.tr 6 (by simp only [List.getElem?_toArray, List.getElem?_cons_succ, List.getElem?_cons_zero]; rfl) (by kernel_rfl) (by kernel_rfl) (by kernel_rfl) (by exact fun _ _ _ h => h) (by first | (refine Or.inl ⟨by rfl, ?_⟩; intro W hW; go_simp; try with_reducible rfl) | exact Or.inr ⟨by rfl, rfl⟩) ?_; try simp only [Act.put, List.setIfInBounds_toArray, List.set_cons_zero, List.set_cons_succ])
          refine wpAnyE_done (by kernel_rfl) ?_ _
          go_wp2
          refine wp_region_E Ext (by kernel_rfl) (fun wd hbd hsz => ?_)
          have HB5 := Lib.hid (below_on HB4.out hbd)
          clear hsz
          (refine takeE Ext.tr 0 (by simp only [List.getElem?_toArray, List.getElem?_cons_succ, List.getElem?_cons_zero]; rfl) (by kernel_rfl) (by kernel_rfl) (by kernel_rfl) (by exact fun _ _ _ h => h) (by first | (refine Or.inl ⟨by rfl, ?_⟩; intro W hW; go_simp; try with_reducible rfl) | exact Or.inr ⟨by rfl, rfl⟩) ?_; try simp only [Act.put, List.setIfInBounds_toArray, List.set_cons_zero, List.set_cons_succ])
          (refine takeE Ext.tr 1 (by simp only [List.getElem?_toArray, List.getElem?_cons_succ, List.getElem?_cons_zero]; rfl) (by kernel_rfl) (by kernel_rfl) (by kernel_rfl) (by exact fun _ _ _ h => h) (by first | (refine Or.inl ⟨by rfl, ?_⟩; intro W hW; go_simp; try with_reducible rfl) | exact Or.inr ⟨by rfl, rfl⟩) ?_; try simp only [Act.put, List.setIfInBounds_toArray, List.set_cons_zero, List.set_cons_succ])
          (refine takeE Ext.tr 3 (by simp only [List.getElem?_toArray, List.getElem?_cons_succ, List.getElem?_cons_zero]; rfl) (by kernel_rfl) (by kernel_rfl) (by kernel_rfl) (by exact fun _ _ _ h => h) (by first | (refine Or.inl ⟨by rfl, ?_⟩; intro W hW; go_simp; try with_reducible rfl) | exact Or.inr ⟨by rfl, rfl⟩) ?_; try simp only [Act.put, List.setIfInBounds_toArray, List.set_cons_zero, List.set_cons_succ])
          (refine takeE Ext.tr 4 (by simp only [List.getElem?_toArray, List.getElem?_cons_succ, List.getElem?_cons_zero]; rfl) (by kernel_rfl) (by kernel_rfl) (by kernel_rfl) (by exact fun _ _ _ h => h) (by first | (refine Or.inl ⟨by rfl, ?_⟩; intro W hW; go_simp; try with_reducible rfl) | exact Or.inr ⟨by rfl, rfl⟩) ?_; try simp only [Act.put, List.setIfInBounds_toArray, List.set_cons_zero, List.set_cons_succ])
          (refine takeE Ext.tr 2 (by simp only [List.getElem?_toArray, List.getElem?_cons_succ, List.getElem?_cons_zero]; rfl) (by kernel_rfl) (by kernel_rfl) (by kernel_rfl) (by exact fun _ _ _ h => h) (by first | (refine Or.inl ⟨by rfl, ?_⟩; intro W hW; exact exec_index rfl rfl rfl (X1.out W)) | exact Or.inr ⟨by rfl, rfl⟩) ?_; try simp only [Act.put, List.setIfInBounds_toArray, List.set_cons_zero, List.set_cons_succ])
          (refine takeE Ext.tr 5 (by simp only [List.getElem?_toArray, List.getElem?_cons_succ, List.getElem?_cons_zero]; rfl) (by kernel_rfl) (by kernel_rfl) (by kernel_rfl) (by exact fun _ _ _ h => h) (by first | (refine Or.inl ⟨by rfl, ?_⟩; intro W hW; exact exec_index rfl rfl rfl (X2.out W)) | exact Or.inr ⟨by rfl, rfl⟩) ?_; try simp only [Act.put, List.setIfInBounds_toArray, List.set_cons_zero, List.set_cons_succ])
          (refine takeE Ext.tr 6 (by simp only [List.getElem?_toArray, List.getElem?_cons_succ, List.getElem?_cons_zero]; rfl) (by kernel_rfl) (by kernel_rfl) (by kernel_rfl) (by exact fun _ _ _ h => h) (by first | (refine Or.inl ⟨by rfl, ?_⟩; intro W hW; go_simp; try with_reducible rfl) | exact Or.inr ⟨by rfl, rfl⟩) ?_; try simp only [Act.put, List.setIfInBounds_toArray, List.set_cons_zero, List.set_cons_succ])
          (refine takeE Ext.tr 7 (by simp only [List.getElem?_toArray, List.getElem?_cons_succ, List.getElem?_cons_zero]; rfl) (by kernel_rfl) (by kernel_rfl) (by kernel_rfl) (by exact fun _ _ _ h => h) (by first | (refine Or.inl ⟨by rfl, ?_⟩; intro W hW; go_simp; try with_reducible rfl) | exact Or.inr ⟨by rfl, rfl⟩) ?_; try simp only [Act.put, List.setIfInBounds_toArray, List.set_cons_zero, List.set_cons_succ])
          refine wpAnyE_done (by kernel_rfl) ?_ _
          go_wp2
          go_ret
          exact ⟨by rw [HF.out]; rfl, HB5.out⟩
      · have h2' : (b.length : Int) ≤ k := by omega
        have HL := Lib.hid (lt_len (a := a) (b := b) (by rw [show min a.length b.length = k by omega]; exact HE.out))
        go_wp2
        go_ret
        exact ⟨by rw [show decide (a < b) = decide ((a.length : Int) < b.length) from by rw [decide_eq_decide, HL.out]; omega]; simp, HB.out⟩
    · have h1' : (a.length : Int) ≤ k := by omega
      have HL := Lib.hid (lt_len (a := a) (b := b) (by rw [show min a.length b.length = k by omega]; exact HE.out))
      go_wp2
      go_ret
      exact ⟨by rw [show decide (a < b) = decide (a.length < b.length) from by rw [decide_eq_decide, HL.out]]; rfl, HB.out⟩
theorem okC_nat (c : UInt8) : okC c = (decide (97 ≤ c.toNat) && decide (c.toNat ≤ 122) || decide (48 ≤ c.toNat) && decide (c.toNat ≤ 57) || decide (c.toNat = 46)) := by
  have hc : ∀ k : UInt8, (decide (k ≤ c) : Bool) = decide (k.toNat ≤ c.toNat) := fun k => by simp [UInt8.le_iff_toNat_le]
  have hd : ∀ k : UInt8, (decide (c ≤ k) : Bool) = decide (c.toNat ≤ k.toNat) := fun k => by simp [UInt8.le_iff_toNat_le]
  have he : (c == 46) = decide (c.toNat = 46) := by
    by_cases hx : c = 46
    · subst hx; rfl
    · have : c.toNat ≠ 46 := fun e => hx (UInt8.toNat_inj.1 (by rw [e]; rfl))
      simp [hx, this]
  unfold okC
  rw [hc, hc, hd, hd, he]
  rfl
set_option maxHeartbeats 4000000 in
theorem r_may (s : Nm) (hs : s.length ≤ 1000000) (w : World) : Calls Tryd.prog 32 #[str s] w fun e w' => e = .returned (.bool (good s)) ∧ Below w.heap.size w w' := by
  have e1 := str_len s
  have HR := Lib.hid (Below.refl w.heap.size w)
  by_cases h0 : s.length < 1
  · have HG : Hid (good s = false) := Lib.hid (by unfold good; simp; omega)
    have h0' : (s.length : Int) < 1 := by omega
    go_enter Tryd.func32, Tryd.ntmps32
    go_wp2
    go_ret
    exact ⟨by rw [HG.out]; rfl, HR.out⟩
  have h0' : (1 : Int) ≤ s.length := by omega
  by_cases h1 : 32 < s.length
  · have HG : Hid (good s = false) := Lib.hid (by unfold good; simp; omega)
    have h1' : (32 : Int) < s.length := by omega
    clear h0
    go_enter Tryd.func32, Tryd.ntmps32
    go_wp2
    go_ret
    exact ⟨by rw [HG.out]; rfl, HR.out⟩
  have h1' : (s.length : Int) ≤ 32 := by omega
  have HG : Hid (good s = s.all okC) := Lib.hid (by unfold good; simp; omega)
  clear h0 h1
  go_enter Tryd.func32, Tryd.ntmps32
  go_wp2
  go_loopw [3] (fun i wr => ∃ k : Nat, i = .int .i64 (k : Nat) ∧ k ≤ s.length ∧ (s.take k).all okC = true ∧ Below w.heap.size w wr) (fun i _ => s.length - (intOf i).toNat)
  case atStart => exact ⟨0, rfl, by omega, by simp, HR.out⟩
  case round =>
    obtain ⟨k, rfl, hka, he, hbw⟩ := hrel
    have HE := Lib.hid he
    have HB := Lib.hid hbw
    clear he hbw
    by_cases h1 : k < s.length
    · have hk' : (k : Int) < s.length := by omega
      have X1 := Lib.hid (fun w => get_str s k h1 w)
      have HN := Lib.hid (okC_nat s[k])
      have HT : Hid ((s.take (k + 1)).all okC = ((s.take k).all okC && okC s[k])) := Lib.hid (by rw [List.take_succ_eq_append_getElem h1, List.all_append]; simp)
      have HA : Hid (okC s[k] = false → s.all okC = false) := Lib.hid (fun h => by rw [List.all_eq_false]; exact ⟨s[k], List.getElem_mem h1, by simp [h]⟩)
      have hd : ∀ w, (Instr.index 9 (.string ⟨s.toArray⟩) (.int .i64 (k : Int))).run Tryd.prog w = .ok (.int .u8 (s[k].toNat : Int)) w := X1.out
      generalize okC s[k] = ok at *
      generalize s[k].toNat = q at *
      by_cases c1 : 97 ≤ q
      · have d1 : (97 : Int) ≤ q := by omega
        by_cases c2 : q ≤ 122
        · have d2 : (q : Int) ≤ 122 := by omega
          have hok : Hid (ok = true) := Lib.hid (by rw [HN.out]; simp; omega)
          go_wp2
          go_roundw
          case rel => exact ⟨k + 1, by go_num, by omega, by rw [HT.out, HE.out, hok.out]; rfl, HB.out⟩
          case measure => simp [intOf]; omega
        · have d2 : (122 : Int) < q := by omega
          have d3 : (57 : Int) < q := by omega
          have d4 : (48 : Int) ≤ q := by omega
          have d5 : (!((q : Int) == 46)) = true := by simp; omega
          have hok : Hid (ok = false) := Lib.hid (by rw [HN.out]; simp; omega)
          go_wp2
          try any_goals (exfalso; rename_i hx; revert hx; simp; omega)
          go_ret
          exact ⟨by rw [HG.out, HA.out hok.out]; rfl, HB.out⟩
      · have d1 : (q : Int) < 97 := by omega
        by_cases c2 : 48 ≤ q
        · have d2 : (48 : Int) ≤ q := by omega
          by_cases c3 : q ≤ 57
          · have d3 : (q : Int) ≤ 57 := by omega
            have hok : Hid (ok = true) := Lib.hid (by rw [HN.out]; simp; omega)
            go_wp2
            go_roundw
            case rel => exact ⟨k + 1, by go_num, by omega, by rw [HT.out, HE.out, hok.out]; rfl, HB.out⟩
            case measure => simp [intOf]; omega
          · have d3 : (57 : Int) < q := by omega
            have d5 : (!((q : Int) == 46)) = true := by simp; omega
            have hok : Hid (ok = false) := Lib.hid (by rw [HN.out]; simp; omega)
            go_wp2
            try any_goals (exfalso; rename_i hx; revert hx; simp; omega)
            go_ret
            exact ⟨by rw [HG.out, HA.out hok.out]; rfl, HB.out⟩
        · have d2 : (q : Int) < 48 := by omega
          by_cases c3 : q = 46
          · have d5 : ((q : Int) == 46) = true := by simp; omega
            have hok : Hid (ok = true) := Lib.hid (by rw [HN.out]; simp; omega)
            go_wp2
            go_roundw
            case rel => exact ⟨k + 1, by go_num, by omega, by rw [HT.out, HE.out, hok.out]; rfl, HB.out⟩
            case measure => simp [intOf]; omega
          · have d5 : (!((q : Int) == 46)) = true := by simp; omega
            have hok : Hid (ok = false) := Lib.hid (by rw [HN.out]; simp; omega)
            go_wp2
            try any_goals (exfalso; rename_i hx; revert hx; simp; omega)
            go_ret
            exact ⟨by rw [HG.out, HA.out hok.out]; rfl, HB.out⟩
    · have hk' : (s.length : Int) ≤ k := by omega
      have HA : Hid (s.all okC = true) := Lib.hid (by have := HE.out; rwa [List.take_of_length_le (by omega)] at this)
      go_wp2
      go_ret
      exact ⟨by rw [HG.out, HA.out]; rfl, HB.out⟩
end Go.Proofs.YtdepbdmnkkkjlaaDoor
