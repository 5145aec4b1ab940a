/- The law of counts. -/
import Derived.Test.YtbhhgfpliggkgaaF16
set_option linter.unusedSimpArgs false
set_option linter.unusedVariables false
set_option maxRecDepth 100000
namespace Go.Proofs.Ytbhhgfpliggkgaa
open Go.RowKit Go.Shelf

theorem rowO : Row Try.prog 37 5 := ⟨⟨_, rfl, rfl⟩, by kernel_rfl⟩
section
variable {P : Program} {w : World} {Q : Exit → Act → World → Prop} {ops : Array Oper} {rest : List Oper} {op : Oper} {a : Act}
theorem wpList_load_op {e : TypeId} (R : Row P e 5) (hgd : op.guard = none) (x : Operand) (ho : op.op = .load e x) (dv : Int) (A : Option Addr) (n c : Nat) (p q f : Int) (g o : Nat) (hx : a.eval x = .pointer (some ⟨g, o, none⟩)) (h : w.rangeAt g o (opL dv A n c p q f))
    (hq : wpList P ops Q rest (a.put op.dst (.agg #[.int .u8 dv, .slice A n c, .int .i64 p, .int .i64 q, .int .i64 f])) w) : wpList P ops Q (op :: rest) a w := by
  obtain ⟨d, h1, h2⟩ := R.ht
  exact wpList_load_mid hgd e x ho g o hx (opL dv A n c p q f) d h h1 h2 R.hi hq
end
section
variable {F X F1 X1 G : Nat → Prop} {w0 w w' w1 : World} {b : Nat} {m m1 : FM} {pp : Nat → Nat} {FF : Nat → Nat → Prop} {k L H : Nat} {B : Nat} {A : Option Addr} {n c : Nat} {qs : List Pv}
/-- Put, of few packets. -/
def Told (F : Nat → Prop) (w w0 : World) (b : Nat) (pp : Nat → Nat) (m : FM) (L H i : Nat) (ks : List Pk) (e : Ending) (w' : World) : Prop := ∃ (t : Nat → Int) (m' : FM) (F' : Nat → Prop) (FF' : Nat → Nat → Prop), e = .returned (.agg #[.int .i64 (t 0), .int .i64 (t 1), .int .i64 (t 2), .int .i64 (t 3), .int .i64 (t 4)]) ∧
  (m', t) = m.puts ks ∧ FJ w0 b m' w' F' pp FF' ∧ FOk m' L H (i + 1) ∧ (∀ j, 0 ≤ t j ∧ t j ≤ 12) ∧ St F w w'
theorem FJ.put {i : Nat} {A : Option Addr} {n c : Nat} {ks : List Pk} (h : FJ w0 b m w F pp FF) (hO : FOk m L H i) (hi : i ≤ 60) (hn : n = ks.length) (hk : ks.length ≤ 12) (hs : SlP F w A n c ks) :
    Calls Try.prog 11 #[.pointer (some ⟨b, 0, none⟩), .slice A n c] w (Told F w w0 b pp m L H i ks) := by
  refine (f_Put h.fb hO.z hO.b hO.c (by omega) hs).mono ?_
  rintro e w' ⟨rfl, F', FF', hf, hs', hg⟩
  exact ⟨_, _, F', FF', rfl, rfl, h.did hf hs' hg, (hO.put hk).1, (hO.put hk).2, hs'⟩
end
theorem sumN_zero : ∀ k, sumN (fun _ => 0) k = 0
  | 0 => rfl
  | k + 1 => by simp only [sumN]; rw [sumN_zero k]
theorem FM.total_new (hs ps L H T : Nat) : (FM.new hs ps (AM.new L H T)).total = 0 := by
  rw [FM.total_eq, ← sumN_zero 64]
  refine sumN_congr 64 fun i hi => ?_
  unfold FM.new FM.newN
  dsimp only
  split <;> rfl
set_option maxHeartbeats 16000000 in
theorem lawCounts (a b : Nat) (ops : Sl OpT.den) (w : World) (ha : a < 256) (hb : b < 256) (h : (Ty.sl OpT).reads w ops) :
    Calls Try.prog 4 #[.int .u8 a, .int .u8 b, .slice ops.A ops.n ops.c] w fun e w' => e = .returned (.bool true) ∧ Below w.heap.size w w' := by
  have hnm : ops.n ≤ 9223372036854775807 := by have h := h.2; simp only [maxLen] at h; omega
  have HOp := Lib.hid (op_at h)
  obtain ⟨A0, n0, c0, l0⟩ := ops
  dsimp only at *
  clear h
  have e1 : (a : Int).tmod 5 = ((a % 5 : Nat) : Int) := by rw [Int.tmod_eq_emod_of_nonneg (by omega)]; simp
  have e2 : (b : Int).tmod 9 = ((b % 9 : Nat) : Int) := by rw [Int.tmod_eq_emod_of_nonneg (by omega)]; simp
  have hx5 : a % 5 < 5 := Nat.mod_lt _ (by decide)
  have hy9 : b % 9 < 9 := Nat.mod_lt _ (by decide)
  generalize a % 5 = x at *
  generalize b % 9 = y at *
  obtain ⟨L, hL⟩ : ∃ L : Nat, (1 + (x : Int)) = L := ⟨1 + x, by omega⟩
  obtain ⟨H, hH⟩ : ∃ H : Nat, (1 + (y : Int)) = H := ⟨1 + y, by omega⟩
  have HN := Lib.hid (f_new 3 2 L H 2 w (by decide) (by decide) (by decide) (by decide) (by omega) (by omega) (by omega) (by omega) (by decide) (by decide))
  go_enter Try.func4, Try.ntmps4
  go_wp2_with fail
  refine HN.out.mono ?_
  rintro e w1 ⟨rfl, F1, pp, FF1, hf1, hF1, hb1⟩
  have H1 : Hid (FJ w w.heap.size (FM.new 3 2 (AM.new L H 2)) w1 F1 pp FF1) := Lib.hid ⟨hf1, hF1, hb1⟩
  clear hf1 hF1 hb1 hL hH e1 e2 hx5 hy9 HN
  go_wp2_with (go_at_call 8; refine (p_awake _).mono ?_; rintro e w2 ⟨rfl, hb2⟩; have H2 := Lib.hid (H1.out.below hb2); clear hb2)
  have HT0 : Hid (((FM.new 3 2 (AM.new L H 2)).total : Int) = 0) := Lib.hid (by
    rw [FM.total_new]; rfl)
  go_loopw [9, 10] (fun nv iv wr => ∃ (i : Nat) (m : FM) (F : Nat → Prop) (FF : Nat → Nat → Prop), iv = .int .i64 i ∧ nv = .int .i64 m.total ∧ i ≤ n0 ∧ i ≤ 60 ∧ FJ w w.heap.size m wr F pp FF ∧ FOk m L H i) (fun _ iv _ => 60 - (intOf iv).toNat)
  case atStart => exact ⟨0, _, F1, FF1, rfl, by rw [HT0.out], Nat.zero_le _, by decide, H2.out, FOk.new 3 2 L H 2 (by decide) (by decide)⟩
  case round =>
    clear H1 H2 HT0
    obtain ⟨i, m, F, FF, rfl, rfl, hin, hi60, hJ, hO⟩ := hrel
    by_cases hc : i < n0 ∧ i < 60
    · obtain ⟨hlt, h60⟩ := hc
      have hlt' : (i : Int) < n0 := by omega
      have h60' : (i : Int) < 60 := by omega
      obtain ⟨go, o, dv, A, n, c, qs, p, q, f, hA, hg0, hra0, hdv, hraw⟩ := HOp.out i hlt
      obtain rfl : A0 = some ⟨go, o, none⟩ := hA
      have hra := range_below hra0 hg0 hJ.bl
      have hb0 := (Below.refl wr.heap.size wr).alloc (Nat.le_refl _) (.cells (List.toArray (opL dv A n c p q f)) 37)
      have HJ0 := Lib.hid (hJ.below hb0)
      have HRaw := Lib.hid (fun (W : World) (hW : Below w.heap.size w W) => hraw.keep hW)
      have HX := Lib.hid (Bk.new wr 37 (opL dv A n c p q f))
      have HO := Lib.hid hO
      have HGF : Hid (¬ F wr.heap.size) := Lib.hid fun hf => Nat.lt_irrefl _ (hJ.fb.bd _ hf)
      have hT := hJ.fb.fp.total_le
      clear hra0 hraw hb0 hJ hO
      rcases (by omega : (dv : Int) % 2 = 0 ∨ (dv : Int) % 2 = 1) with h0 | h0
      · have HFw := Lib.hid (l_few (c := c) (HRaw.out _ HJ0.out.bl))
        go_wp2_with (first
          | (with_reducible refine at_load 37 (.tmp 49) (by rfl) ?_; refine wpList_load_op rowO rfl (.tmp 49) rfl dv A n c p q f go (o + i * 5) rfl hra ?_)
          | (go_at_call 10; refine HFw.out.mono ?_; rintro e w3 ⟨A3, n3, c3, rfl, hn3, hb3, hs3⟩; have HPu := Lib.hid ((HJ0.out.below hb3).put HO.out hi60 hn3 (fewL_len _) (hs3 _ fun k hk => ⟨HJ0.out.ge k hk, HJ0.out.fb.bd k hk⟩)); have HX3 := Lib.hid (HX.out.below hb3); have HN3 := Lib.hid hn3; clear hn3 hb3 hs3)
          | (go_at_call 11; refine HPu.out.mono ?_; rintro e w4 ⟨t, m4, F4, FF4, rfl, hpu, hJ4, hO4, ht, hst4⟩
             have hs := m.puts_all (fewL (qs.map Pv.pk)); rw [← hpu] at hs; dsimp only at hs
             obtain ⟨hs1, hs2, hs3⟩ := hs
             have b1 := ht 1; have b2 := ht 2; have b3 := ht 3; have b4 := ht 4
             rw [hs2]
             clear hpu ht hs2
             generalize t 1 = t1 at *; generalize t 2 = t2 at *; generalize t 3 = t3 at *; generalize t 4 = t4 at *
             have k1 : IntKind.i64.wrap (t1 + t2) = t1 + t2 := by rw [IntKind.wrap_i64]; omega
             have k2 : IntKind.i64.wrap (t1 + t2 + t3) = t1 + t2 + t3 := by rw [IntKind.wrap_i64]; omega
             have k3 : IntKind.i64.wrap ((m.total : Int) + (t1 + t2 + t3)) = m.total + (t1 + t2 + t3) := by rw [IntKind.wrap_i64]; omega
             have k4 : IntKind.i64.wrap (t1 + t2 + t3 + t4) = t1 + t2 + t3 + t4 := by rw [IntKind.wrap_i64]; omega
             have HS1 := Lib.hid hs1; have HS3 := Lib.hid hs3; have HO4 := Lib.hid hO4
             have HJ5 := Lib.hid (hJ4.below ((Below.refl _ _).alloc (Nat.le_refl _) (.cells #[.int .i64 0, .int .i64 t1, .int .i64 t2, .int .i64 t3, .int .i64 t4] 28)))
             have HX5 := Lib.hid (((HX3.out.st hst4 HGF.out).alloc (.cells #[.int .i64 0, .int .i64 t1, .int .i64 t2, .int .i64 t3, .int .i64 t4] 28)))
             have HT5 := Lib.hid (Bk.new w4 28 [.int .i64 0, .int .i64 t1, .int .i64 t2, .int .i64 t3, .int .i64 t4])
             clear hs1 hs3 hO4 hJ4 hst4))
        clear hra HX HX3 HPu HFw
        refine wp_region_E Ext (by kernel_rfl) (fun wd hbd hsz => ?_)
        have hcur := hbd
        have HXd := Lib.hid (HX5.out.below hbd)
        have HTd := Lib.hid (HT5.out.below hbd)
        have c0 : ∀ W, Ext wd W → W.cell? ⟨w4.heap.size, 0, none⟩ = some (.int .i64 0) := fun W hW => (HTd.out.below hW).cell 0 rfl
        have c1 : ∀ W, Ext wd W → W.cell? ⟨w4.heap.size, 1, none⟩ = some (.int .i64 t1) := fun W hW => (HTd.out.below hW).cell 1 rfl
        have c2 : ∀ W, Ext wd W → W.cell? ⟨w4.heap.size, 2, none⟩ = some (.int .i64 t2) := fun W hW => (HTd.out.below hW).cell 2 rfl
        have c3 : ∀ W, Ext wd W → W.cell? ⟨w4.heap.size, 3, none⟩ = some (.int .i64 t3) := fun W hW => (HTd.out.below hW).cell 3 rfl
        have c4 : ∀ W, Ext wd W → W.cell? ⟨w4.heap.size, 4, none⟩ = some (.int .i64 t4) := fun W hW => (HTd.out.below hW).cell 4 rfl
        have c5 : ∀ W, Ext wd W → W.cell? ⟨wr.heap.size, 1, none⟩ = some (.slice A n c) := fun W hW => (HXd.out.below hW).cell 1 rfl
        clear hsz hbd
        (refine takeE Ext.tr 0 (by simp only [List.getElem?_toArray, List.getElem?_cons_succ, List.getElem?_cons_zero]; rfl) (by kernel_rfl) (by kernel_rfl) (by kernel_rfl) (by exact fun _ _ _ h => h) (by first | (refine Or.inl ⟨by rfl, ?_⟩; intro W hW; go_simp; try with_reducible rfl) | exact Or.inr ⟨by rfl, rfl⟩) ?_; try simp only [Act.put, List.setIfInBounds_toArray, List.set_cons_zero, List.set_cons_succ])
        (refine takeE Ext.tr 1 (by simp only [List.getElem?_toArray, List.getElem?_cons_succ, List.getElem?_cons_zero]; rfl) (by kernel_rfl) (by kernel_rfl) (by kernel_rfl) (by exact fun _ _ _ h => h) (by first | (refine Or.inl ⟨by rfl, ?_⟩; intro W hW; go_simp; try with_reducible rfl) | exact Or.inr ⟨by rfl, rfl⟩) ?_; try simp only [Act.put, List.setIfInBounds_toArray, List.set_cons_zero, List.set_cons_succ])
        (refine takeE Ext.tr 2 (by simp only [List.getElem?_toArray, List.getElem?_cons_succ, List.getElem?_cons_zero]; rfl) (by kernel_rfl) (by kernel_rfl) (by kernel_rfl) (by exact fun _ _ _ h => h) (by first | (refine Or.inl ⟨by rfl, ?_⟩; intro W hW; go_simp; try with_reducible rfl) | exact Or.inr ⟨by rfl, rfl⟩) ?_; try simp only [Act.put, List.setIfInBounds_toArray, List.set_cons_zero, List.set_cons_succ])
        (refine takeE Ext.tr 3 (by simp only [List.getElem?_toArray, List.getElem?_cons_succ, List.getElem?_cons_zero]; rfl) (by kernel_rfl) (by kernel_rfl) (by kernel_rfl) (by exact fun _ _ _ h => h) (by first | (refine Or.inl ⟨by rfl, ?_⟩; intro W hW; go_simp; try with_reducible rfl) | exact Or.inr ⟨by rfl, rfl⟩) ?_; try simp only [Act.put, List.setIfInBounds_toArray, List.set_cons_zero, List.set_cons_succ])
        (refine takeE Ext.tr 4 (by simp only [List.getElem?_toArray, List.getElem?_cons_succ, List.getElem?_cons_zero]; rfl) (by kernel_rfl) (by kernel_rfl) (by kernel_rfl) (by exact fun _ _ _ h => h) (by first | (refine Or.inl ⟨by rfl, ?_⟩; intro W hW; go_simp; try with_reducible rfl) | exact Or.inr ⟨by rfl, rfl⟩) ?_; try simp only [Act.put, List.setIfInBounds_toArray, List.set_cons_zero, List.set_cons_succ])
        (refine takeE Ext.tr 6 (by simp only [List.getElem?_toArray, List.getElem?_cons_succ, List.getElem?_cons_zero]; rfl) (by kernel_rfl) (by kernel_rfl) (by kernel_rfl) (by exact fun _ _ _ h => h) (by first | (refine Or.inl ⟨by rfl, ?_⟩; intro W hW; go_simp; try with_reducible rfl) | exact Or.inr ⟨by rfl, rfl⟩) ?_; try simp only [Act.put, List.setIfInBounds_toArray, List.set_cons_zero, List.set_cons_succ])
        (refine takeE Ext.tr 9 (by simp only [List.getElem?_toArray, List.getElem?_cons_succ, List.getElem?_cons_zero]; rfl) (by kernel_rfl) (by kernel_rfl) (by kernel_rfl) (by exact fun _ _ _ h => h) (by first | (refine Or.inl ⟨by rfl, ?_⟩; intro W hW; go_simp; try with_reducible rfl) | exact Or.inr ⟨by rfl, rfl⟩) ?_; try simp only [Act.put, List.setIfInBounds_toArray, List.set_cons_zero, List.set_cons_succ])
        (refine takeE Ext.tr 12 (by simp only [List.getElem?_toArray, List.getElem?_cons_succ, List.getElem?_cons_zero]; rfl) (by kernel_rfl) (by kernel_rfl) (by kernel_rfl) (by exact fun _ _ _ h => h) (by first | (refine Or.inl ⟨by rfl, ?_⟩; intro W hW; go_simp; try with_reducible rfl) | exact Or.inr ⟨by rfl, rfl⟩) ?_; try simp only [Act.put, List.setIfInBounds_toArray, List.set_cons_zero, List.set_cons_succ])
        (refine takeE Ext.tr 15 (by simp only [List.getElem?_toArray, List.getElem?_cons_succ, List.getElem?_cons_zero]; rfl) (by kernel_rfl) (by kernel_rfl) (by kernel_rfl) (by exact fun _ _ _ h => h) (by first | (refine Or.inl ⟨by rfl, ?_⟩; intro W hW; go_simp; try with_reducible rfl) | exact Or.inr ⟨by rfl, rfl⟩) ?_; try simp only [Act.put, List.setIfInBounds_toArray, List.set_cons_zero, List.set_cons_succ])
        (refine takeE Ext.tr 5 (by simp only [List.getElem?_toArray, List.getElem?_cons_succ, List.getElem?_cons_zero]; rfl) (by kernel_rfl) (by kernel_rfl) (by kernel_rfl) (by exact fun _ _ _ h => h) (by first | (refine Or.inl ⟨by rfl, ?_⟩; intro W hW; go_simp; try with_reducible rfl) | exact Or.inr ⟨by rfl, rfl⟩) ?_; try simp only [Act.put, List.setIfInBounds_toArray, List.set_cons_zero, List.set_cons_succ])
        (refine takeE Ext.tr 7 (by simp only [List.getElem?_toArray, List.getElem?_cons_succ, List.getElem?_cons_zero]; rfl) (by kernel_rfl) (by kernel_rfl) (by kernel_rfl) (by exact fun _ _ _ h => h) (by first | (refine Or.inl ⟨by rfl, ?_⟩; intro W hW; go_simp; try with_reducible rfl) | exact Or.inr ⟨by rfl, rfl⟩) ?_; try simp only [Act.put, List.setIfInBounds_toArray, List.set_cons_zero, List.set_cons_succ])
        (refine takeE Ext.tr 10 (by simp only [List.getElem?_toArray, List.getElem?_cons_succ, List.getElem?_cons_zero]; rfl) (by kernel_rfl) (by kernel_rfl) (by kernel_rfl) (by exact fun _ _ _ h => h) (by first | (refine Or.inl ⟨by rfl, ?_⟩; intro W hW; go_simp; try with_reducible rfl) | exact Or.inr ⟨by rfl, rfl⟩) ?_; try simp only [Act.put, List.setIfInBounds_toArray, List.set_cons_zero, List.set_cons_succ])
        (refine takeE Ext.tr 13 (by simp only [List.getElem?_toArray, List.getElem?_cons_succ, List.getElem?_cons_zero]; rfl) (by kernel_rfl) (by kernel_rfl) (by kernel_rfl) (by exact fun _ _ _ h => h) (by first | (refine Or.inl ⟨by rfl, ?_⟩; intro W hW; go_simp; try with_reducible rfl) | exact Or.inr ⟨by rfl, rfl⟩) ?_; try simp only [Act.put, List.setIfInBounds_toArray, List.set_cons_zero, List.set_cons_succ])
        (refine takeE Ext.tr 16 (by simp only [List.getElem?_toArray, List.getElem?_cons_succ, List.getElem?_cons_zero]; rfl) (by kernel_rfl) (by kernel_rfl) (by kernel_rfl) (by exact fun _ _ _ h => h) (by first | (refine Or.inl ⟨by rfl, ?_⟩; intro W hW; go_simp; try with_reducible rfl) | exact Or.inr ⟨by rfl, rfl⟩) ?_; try simp only [Act.put, List.setIfInBounds_toArray, List.set_cons_zero, List.set_cons_succ])
        (refine takeE Ext.tr 8 (by simp only [List.getElem?_toArray, List.getElem?_cons_succ, List.getElem?_cons_zero]; rfl) (by kernel_rfl) (by kernel_rfl) (by kernel_rfl) (by exact fun _ _ _ h => h) (by first | (refine Or.inl ⟨by rfl, ?_⟩; intro W hW; go_simp; try with_reducible rfl) | exact Or.inr ⟨by rfl, rfl⟩) ?_; try simp only [Act.put, List.setIfInBounds_toArray, List.set_cons_zero, List.set_cons_succ])
        (refine takeE Ext.tr 11 (by simp only [List.getElem?_toArray, List.getElem?_cons_succ, List.getElem?_cons_zero]; rfl) (by kernel_rfl) (by kernel_rfl) (by kernel_rfl) (by exact fun _ _ _ h => h) (by first | (refine Or.inl ⟨by rfl, ?_⟩; intro W hW; go_simp; try with_reducible rfl) | exact Or.inr ⟨by rfl, rfl⟩) ?_; try simp only [Act.put, List.setIfInBounds_toArray, List.set_cons_zero, List.set_cons_succ])
        (refine takeE Ext.tr 14 (by simp only [List.getElem?_toArray, List.getElem?_cons_succ, List.getElem?_cons_zero]; rfl) (by kernel_rfl) (by kernel_rfl) (by kernel_rfl) (by exact fun _ _ _ h => h) (by first | (refine Or.inl ⟨by rfl, ?_⟩; intro W hW; go_simp; try with_reducible rfl) | exact Or.inr ⟨by rfl, rfl⟩) ?_; try simp only [Act.put, List.setIfInBounds_toArray, List.set_cons_zero, List.set_cons_succ])
        refine wpAnyE_one (i := 17) (by kernel_rfl) (by simp only [List.getElem?_toArray, List.getElem?_cons_succ, List.getElem?_cons_zero]; rfl) (fun K hK => ?_)
        go_simp
        refine (l_few (c := c) (HRaw.out _ (HJ5.out.below hcur).bl)).mono ?_
        rintro e w7 ⟨A7, n7, c7, rfl, hn7, hb7, -⟩
        have HJ7 := Lib.hid ((HJ5.out.below hcur).below hb7)
        have hnn : t1 + t2 + t3 + t4 = (n7 : Int) := by rw [HS3.out, hn7]
        refine hK.out _ _ hb7 ?_
        clear hK K
        try simp only [Act.put, List.setIfInBounds_toArray, List.set_cons_zero, List.set_cons_succ]
        (refine takeE Ext.tr 18 (by simp only [List.getElem?_toArray, List.getElem?_cons_succ, List.getElem?_cons_zero]; rfl) (by kernel_rfl) (by kernel_rfl) (by kernel_rfl) (by exact fun _ _ _ h => h) (by first | (refine Or.inl ⟨by rfl, ?_⟩; intro W hW; go_simp; try with_reducible rfl) | exact Or.inr ⟨by rfl, rfl⟩) ?_; try simp only [Act.put, List.setIfInBounds_toArray, List.set_cons_zero, List.set_cons_succ])
        (refine takeE Ext.tr 19 (by simp only [List.getElem?_toArray, List.getElem?_cons_succ, List.getElem?_cons_zero]; rfl) (by kernel_rfl) (by kernel_rfl) (by kernel_rfl) (by exact fun _ _ _ h => h) (by first | (refine Or.inl ⟨by rfl, ?_⟩; intro W hW; go_simp; try with_reducible rfl) | exact Or.inr ⟨by rfl, rfl⟩) ?_; try simp only [Act.put, List.setIfInBounds_toArray, List.set_cons_zero, List.set_cons_succ])
        (refine takeE Ext.tr 20 (by simp only [List.getElem?_toArray, List.getElem?_cons_succ, List.getElem?_cons_zero]; rfl) (by kernel_rfl) (by kernel_rfl) (by kernel_rfl) (by exact fun _ _ _ h => h) (by first | (refine Or.inl ⟨by rfl, ?_⟩; intro W hW; go_simp; try with_reducible rfl) | exact Or.inr ⟨by rfl, rfl⟩) ?_; try simp only [Act.put, List.setIfInBounds_toArray, List.set_cons_zero, List.set_cons_succ])
        refine wpAnyE_done (by kernel_rfl) ?_ _
        have hTo := f_Total HJ7.out.fb.fp
        have hT4 : (m4.total : Int) = m.total + (t1 + t2 + t3) := by rw [HS1.out]; omega
        rw [hT4] at hTo
        have HTo := Lib.hid hTo
        have HT4 := Lib.hid hT4
        clear hTo hT4 c0 c1 c2 c3 c4 c5 hcur hnn hb7 k1 k2 k3 k4
        go_wp2_with (go_at_call 21; refine HTo.out.mono ?_; rintro e w8 ⟨rfl, hb8⟩; have HJ8 := Lib.hid (HJ7.out.below hb8); clear hb8)
        go_roundw
        case rel => exact ⟨i + 1, m4, F4, FF4, by go_num, by rw [HT4.out], by omega, by omega, HJ8.out, HO4.out⟩
        case measure => simp [intOf]; omega
      · have HSv := Lib.hid (f_Serve HJ0.out.fb HO.out.z HO.out.b (by have := HO.out.c 0; omega) (by omega) p q f)
        have hTs := m.total_sv p q f
        have HOs := Lib.hid (HO.out.sv p q f)
        have kw : IntKind.i64.wrap ((m.total : Int) - 1) = m.total - 1 := by rw [IntKind.wrap_i64]; omega
        generalize m.svE p q f = E at *
        rcases (by omega : E ≠ 0 ∨ E = 0 ∧ f = 1 ∨ E = 0 ∧ f = 2 ∨ E = 0 ∧ f ≠ 1 ∧ f ≠ 2) with he | ⟨rfl, rfl⟩ | ⟨rfl, rfl⟩ | ⟨rfl, hf1, hf2⟩
        · rw [if_neg (by omega)] at hTs
          have HTs := Lib.hid hTs
          clear hTs
          have x2 := (HX.out.cell 2 rfl)
          go_wp2_with (first
            | (with_reducible refine at_load 37 (.tmp 49) (by rfl) ?_; refine wpList_load_op rowO rfl (.tmp 49) rfl dv A n c p q f go (o + i * 5) rfl hra ?_)
            | (go_at_call 13; refine HSv.out.mono ?_; rintro e w4 ⟨A4, n4, c4, qs4, rfl, -, -, -, F4, FF4, hf4, hs4, hg4, -⟩
               have x4 := (HX.out.st hs4 HGF.out).cell 4 rfl
               have HJ4 := Lib.hid (HJ0.out.did hf4 hs4 hg4)
               have hTo := f_Total HJ4.out.fb.fp
               rw [show ((m.svM p q f).total : Int) = (m.total : Int) from by rw [HTs.out]; try omega] at hTo
               have HTo := Lib.hid hTo
               clear hf4 hs4 hg4 hTo)
            | (go_at_call 21; refine HTo.out.mono ?_; rintro e w5 ⟨rfl, hb5⟩; have HJ5 := Lib.hid (HJ4.out.below hb5); clear hb5))
          go_roundw
          case rel => exact ⟨i + 1, m.svM p q f, F4, FF4, by go_num, by rw [HTs.out]; try rw [Int.sub_zero], by omega, by omega, HJ5.out, HOs.out⟩
          case measure => simp [intOf]; omega
        · rw [if_pos (by simp)] at hTs
          have HTs := Lib.hid hTs
          clear hTs
          have x2 := (HX.out.cell 2 rfl)
          go_wp2_with (first
            | (with_reducible refine at_load 37 (.tmp 49) (by rfl) ?_; refine wpList_load_op rowO rfl (.tmp 49) rfl dv A n c p q 1 go (o + i * 5) rfl hra ?_)
            | (go_at_call 13; refine HSv.out.mono ?_; rintro e w4 ⟨A4, n4, c4, qs4, rfl, -, -, -, F4, FF4, hf4, hs4, hg4, -⟩
               have x4 := (HX.out.st hs4 HGF.out).cell 4 rfl
               have HJ4 := Lib.hid (HJ0.out.did hf4 hs4 hg4)
               have hTo := f_Total HJ4.out.fb.fp
               rw [show ((m.svM p q 1).total : Int) = (m.total : Int) - 1 from by rw [HTs.out]; try omega] at hTo
               have HTo := Lib.hid hTo
               clear hf4 hs4 hg4 hTo)
            | (go_at_call 21; refine HTo.out.mono ?_; rintro e w5 ⟨rfl, hb5⟩; have HJ5 := Lib.hid (HJ4.out.below hb5); clear hb5))
          go_roundw
          case rel => exact ⟨i + 1, m.svM p q 1, F4, FF4, by go_num, by rw [HTs.out]; try rw [Int.sub_zero], by omega, by omega, HJ5.out, HOs.out⟩
          case measure => simp [intOf]; omega
        · rw [if_pos (by simp)] at hTs
          have HTs := Lib.hid hTs
          clear hTs
          have x2 := (HX.out.cell 2 rfl)
          go_wp2_with (first
            | (with_reducible refine at_load 37 (.tmp 49) (by rfl) ?_; refine wpList_load_op rowO rfl (.tmp 49) rfl dv A n c p q 2 go (o + i * 5) rfl hra ?_)
            | (go_at_call 13; refine HSv.out.mono ?_; rintro e w4 ⟨A4, n4, c4, qs4, rfl, -, -, -, F4, FF4, hf4, hs4, hg4, -⟩
               have x4 := (HX.out.st hs4 HGF.out).cell 4 rfl
               have HJ4 := Lib.hid (HJ0.out.did hf4 hs4 hg4)
               have hTo := f_Total HJ4.out.fb.fp
               rw [show ((m.svM p q 2).total : Int) = (m.total : Int) - 1 from by rw [HTs.out]; try omega] at hTo
               have HTo := Lib.hid hTo
               clear hf4 hs4 hg4 hTo)
            | (go_at_call 21; refine HTo.out.mono ?_; rintro e w5 ⟨rfl, hb5⟩; have HJ5 := Lib.hid (HJ4.out.below hb5); clear hb5))
          go_roundw
          case rel => exact ⟨i + 1, m.svM p q 2, F4, FF4, by go_num, by rw [HTs.out]; try rw [Int.sub_zero], by omega, by omega, HJ5.out, HOs.out⟩
          case measure => simp [intOf]; omega
        · have hq1 : (f == 1) = false := by simp [hf1]
          have hq2 : (f == 2) = false := by simp [hf2]
          rw [if_neg (by omega)] at hTs
          have HTs := Lib.hid hTs
          clear hTs
          have x2 := (HX.out.cell 2 rfl)
          go_wp2_with (first
            | (with_reducible refine at_load 37 (.tmp 49) (by rfl) ?_; refine wpList_load_op rowO rfl (.tmp 49) rfl dv A n c p q f go (o + i * 5) rfl hra ?_)
            | (go_at_call 13; refine HSv.out.mono ?_; rintro e w4 ⟨A4, n4, c4, qs4, rfl, -, -, -, F4, FF4, hf4, hs4, hg4, -⟩
               have x4 := (HX.out.st hs4 HGF.out).cell 4 rfl
               have HJ4 := Lib.hid (HJ0.out.did hf4 hs4 hg4)
               have hTo := f_Total HJ4.out.fb.fp
               rw [show ((m.svM p q f).total : Int) = (m.total : Int) from by rw [HTs.out]; try omega] at hTo
               have HTo := Lib.hid hTo
               clear hf4 hs4 hg4 hTo)
            | (go_at_call 21; refine HTo.out.mono ?_; rintro e w5 ⟨rfl, hb5⟩; have HJ5 := Lib.hid (HJ4.out.below hb5); clear hb5))
          go_roundw
          case rel => exact ⟨i + 1, m.svM p q f, F4, FF4, by go_num, by rw [HTs.out]; try rw [Int.sub_zero], by omega, by omega, HJ5.out, HOs.out⟩
          case measure => simp [intOf]; omega
    · have HB := Lib.hid hJ.bl
      clear hJ hO
      by_cases h60 : i < 60
      · have hge : (n0 : Int) ≤ i := by omega
        have h60' : (i : Int) < 60 := by omega
        go_wp2
        go_ret
        exact ⟨rfl, HB.out⟩
      · have h60' : (60 : Int) ≤ i := by omega
        by_cases hlt : i < n0
        · have hlt' : (i : Int) < n0 := by omega
          go_wp2
          go_ret
          exact ⟨rfl, HB.out⟩
        · have hge : (n0 : Int) ≤ i := by omega
          go_wp2
          go_ret
          exact ⟨rfl, HB.out⟩
theorem lawCountsI (a b : Int) (ops : Sl OpT.den) (w : World) (ha : (Lit.int .u8 a).wf = true) (hb : (Lit.int .u8 b).wf = true) (h : (Ty.sl OpT).reads w ops) :
    Calls Try.prog 4 #[.int .u8 a, .int .u8 b, .slice ops.A ops.n ops.c] w fun e w' => e = .returned (.bool true) ∧ Below w.heap.size w w' := by
  have h1 := u8_bounds ha
  have h2 := u8_bounds hb
  obtain ⟨m, rfl⟩ := Int.eq_ofNat_of_zero_le h1.1
  obtain ⟨k, rfl⟩ := Int.eq_ofNat_of_zero_le h2.1
  exact lawCounts m k ops w (by omega) (by omega) h
end Go.Proofs.Ytbhhgfpliggkgaa
