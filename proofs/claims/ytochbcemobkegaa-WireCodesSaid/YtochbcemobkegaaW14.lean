/- Decode, by the reference: what is read. -/
import Derived.Test.YtochbcemobkegaaW14a
import Derived.Deep.DeepCutAuto
import Derived.Outline
set_option linter.unusedSimpArgs false
set_option linter.unusedVariables false
namespace Go.Proofs.Ytochbcemobkegaa
open Go.RowKit Go.Shelf

set_option maxRecDepth 100000 in
set_option maxHeartbeats 8000000 in
theorem rdecode_magic (A : Option Addr) (n c : Nat) (bs hs pl : List Int) (w : World) (h : Rd .u8 w A n c bs) (hn : 36 ≤ n) (hn2 : n ≤ 60000) (ehs : hs = bs.take 36) (epl : pl = bs.drop 36) (hm : magic hs) :
    Calls Try.prog 11 #[.slice A n c] w fun e w' => ∃ A' n' c', e = .returned (.tuple #[.agg #[.int .i64 ((decP hs pl).kd), .int .i64 ((decP hs pl).fl), .int .i64 ((decP hs pl).pa), .int .i64 ((decP hs pl).sr), .int .i64 ((decP hs pl).ds), .int .i64 ((decP hs pl).cn), .int .i64 ((decP hs pl).sq), .int .i64 ((decP hs pl).pu), .slice A' n' c'], .int .i64 (decE hs pl)]) ∧ Rd .u8 w' A' n' c' (decX hs pl) ∧ Below w.heap.size w w' := by
  have hl := h.1
  have hwf := h.2.2.2.2.1
  have hok := okB_of hwf
  have hcm := h.2.2.1
  have hnc := h.2.1
  unfold maxLen at hcm
  obtain ⟨g, o, rfl, hg, hx⟩ := h.2.2.2.2.2 (by omega)
  have hlh : hs.length = 36 := by rw [ehs]; simp; omega
  have hlp : (pl.length : Int) = (n : Int) - 36 := by rw [epl]; simp; omega
  have hho : okB hs = true := by rw [ehs]; exact okB_take hok 36
  have hm3 := (magic_iff hs hho).1 hm
  rw [ehs, List.take_take, Nat.min_eq_left (by omega), take3 (by omega)] at hm3
  simp only [List.cons.injEq, and_true] at hm3
  obtain ⟨m0, m1, m2⟩ := hm3
  have c0 := hx 0 (by omega)
  have c1 := hx 1 (by omega)
  have c2 := hx 2 (by omega)
  rw [Nat.add_zero, m0] at c0
  rw [m1] at c1
  rw [m2] at c2
  have HX := Lib.hid hx
  have HPB := Lib.hid ((h.cut hn).blk)
  have hbs0 := h.alloc (.cells ([.int .i64 0, .int .i64 0, .int .i64 0, .int .i64 0, .int .i64 0, .int .i64 0, .int .i64 0, .int .i64 0, .slice none 0 0]).toArray 25)
  have hre0 := Bk.new w 25 [.int .i64 0, .int .i64 0, .int .i64 0, .int .i64 0, .int .i64 0, .int .i64 0, .int .i64 0, .int .i64 0, .slice none 0 0]
  have hb0 := (Below.refl w.heap.size w).alloc (Nat.le_refl _) (.cells ([.int .i64 0, .int .i64 0, .int .i64 0, .int .i64 0, .int .i64 0, .int .i64 0, .int .i64 0, .int .i64 0, .slice none 0 0]).toArray 25)
  obtain ⟨st, est⟩ : ∃ v, v = gN hs 28 2 := ⟨_, rfl⟩
  have Hst := Lib.hid est
  have Hst2 : Hid (wrap64 (num ((bs.drop 28).take 2)) = st) := Lib.hid (by rw [est, ehs]; unfold gN; rw [List.drop_take, List.take_take]; rfl)
  have HLP := Lib.hid hlp
  have HLH := Lib.hid hlh
  have HHO := Lib.hid hho
  have HOK := Lib.hid hok
  have HM := Lib.hid hm
  have Hpl := Lib.hid epl
  have Hhs := Lib.hid ehs
  have HL := Lib.hid hl
  have HWF := Lib.hid hwf
  clear est hlp hlh hho hok hm epl ehs hl hwf m0 m1 m2 hx
  have k28 : ∀ w, (Instr.slice 23 (.slice (some ⟨g, o, none⟩) n c) (some (.int .i64 28)) (some (.int .i64 30)) none).run Try.prog w = .ok (.slice (cutA (some ⟨g, o, none⟩) c 28) 2 (c - 28)) w := fun w => bytesT.run_cut2 _ n c 28 2 (by omega) hnc w
  go_enter Try.func11, Try.ntmps11
  go_wp2_with fail
  refine (rnum_any _ 2 _ ((bs.drop 28).take 2) st _ (by exact ((hbs0.cut (s := 28) (by omega)).pre (s := 2) (by omega))) (by omega) (by omega) Hst2.out).mono ?_
  rintro e w1 ⟨rfl, hb1⟩
  have hbs1 := hbs0.below hb1
  have hre1 := hre0.below hb1
  have hc1 := hb0.trans (hb1.mono (by simp))
  have hre9 := hre1.cells9
  have hrf := fun i => hre1.free i
  clear c0 c1 c2 hb1 hb0 hre0 hbs0 h k28
  by_cases hst : st = (n : Int) - 36
  · have hst' : (st != (n : Int) - 36) = false := by rw [hst]; simp
    have Hst3 := Lib.hid hst
    clear hst
    obtain ⟨sm, esm⟩ : ∃ v, v = num ((hs.drop 32).take 4) := ⟨_, rfl⟩
    have esm2 : num ((bs.drop 32).take 4) = sm := by rw [esm, Hhs.out, List.drop_take, List.take_take]; rfl
    have hsb := num_lt 4 ((bs.drop 32).take 4) (by simp; have := HL.out; omega) (by omega) (okB_take (okB_drop HOK.out 32) 4)
    rw [esm2] at hsb
    obtain ⟨hs0, hs1⟩ := hsb
    have hs1 : sm < 4294967296 := by simpa using hs1
    have Hsmw : Hid (wrap64 (num ((bs.drop 32).take 4)) = sm) := Lib.hid (by rw [esm2]; unfold wrap64; omega)
    obtain ⟨am, eam⟩ : ∃ v, v = onV 1 (hs.take 32 ++ pl) := ⟨_, rfl⟩
    have e32 : hs.take 32 = bs.take 32 := by rw [Hhs.out, List.take_take]; rfl
    obtain ⟨ho0, ho1⟩ := onV_bd 1 (bs.take 32)
    have HON : Hid (onV (onV 1 (bs.take 32)) pl = am) := Lib.hid (by rw [eam, e32]; exact onV_app 1 _ _ (by omega) (by omega))
    have Hsm := Lib.hid esm
    have Ham := Lib.hid eam
    have hwr : IntKind.u32.wrap sm = sm := by rw [IntKind.wrap_u32]; omega
    clear esm esm2 eam e32
    have k32 : ∀ w, (Instr.slice 23 (.slice (some ⟨g, o, none⟩) n c) (some (.int .i64 32)) (some (.int .i64 36)) none).run Try.prog w = .ok (.slice (cutA (some ⟨g, o, none⟩) c 32) 4 (c - 32)) w := fun w => bytesT.run_cut2 _ n c 32 4 (by omega) hnc w
    have k0 : ∀ w, (Instr.slice 23 (.slice (some ⟨g, o, none⟩) n c) none (some (.int .i64 32)) none).run Try.prog w = .ok (.slice (some ⟨g, o, none⟩) 32 c) w := fun w => by
      have := bytesT.run_pre (some ⟨g, o, none⟩) n c 0 32 (by omega) hnc w
      simpa using this
    have k36 : ∀ w, (Instr.slice 23 (.slice (some ⟨g, o, none⟩) n c) (some (.int .i64 36)) none none).run Try.prog w = .ok (.slice (cutA (some ⟨g, o, none⟩) c 36) (n - 36) (c - 36)) w := fun w => bytesT.run_cut _ n c 36 (by omega) hnc w
    go_wp2_with fail
    refine wp_region_E Ext (by kernel_rfl) (fun wd hbd hsz => ?_)
    have hbd0 := hbs1.below hbd
    have hre5 := hre1.below hbd
    have hc5 := below_on hc1 hbd
    (refine takeE Ext.tr 0 (by simp only [List.getElem?_toArray, List.getElem?_cons_succ, List.getElem?_cons_zero]; rfl) (by kernel_rfl) (by kernel_rfl) (by kernel_rfl) (by exact fun _ _ _ h => h) (by first | (refine Or.inl ⟨by rfl, ?_⟩; intro W hW; go_simp; try with_reducible rfl) | exact Or.inr ⟨by rfl, rfl⟩) ?_; try simp only [Act.put, List.setIfInBounds_toArray, List.set_cons_zero, List.set_cons_succ])
    (refine takeE Ext.tr 4 (by simp only [List.getElem?_toArray, List.getElem?_cons_succ, List.getElem?_cons_zero]; rfl) (by kernel_rfl) (by kernel_rfl) (by kernel_rfl) (by exact fun _ _ _ h => h) (by first | (refine Or.inl ⟨by rfl, ?_⟩; intro W hW; go_simp; try with_reducible rfl) | exact Or.inr ⟨by rfl, rfl⟩) ?_; try simp only [Act.put, List.setIfInBounds_toArray, List.set_cons_zero, List.set_cons_succ])
    (refine takeE Ext.tr 7 (by simp only [List.getElem?_toArray, List.getElem?_cons_succ, List.getElem?_cons_zero]; rfl) (by kernel_rfl) (by kernel_rfl) (by kernel_rfl) (by exact fun _ _ _ h => h) (by first | (refine Or.inl ⟨by rfl, ?_⟩; intro W hW; go_simp; try with_reducible rfl) | exact Or.inr ⟨by rfl, rfl⟩) ?_; try simp only [Act.put, List.setIfInBounds_toArray, List.set_cons_zero, List.set_cons_succ])
    (refine takeE Ext.tr 1 (by simp only [List.getElem?_toArray, List.getElem?_cons_succ, List.getElem?_cons_zero]; rfl) (by kernel_rfl) (by kernel_rfl) (by kernel_rfl) (by exact fun _ _ _ h => h) (by first | (refine Or.inl ⟨by rfl, ?_⟩; intro W hW; go_simp; try with_reducible rfl) | exact Or.inr ⟨by rfl, rfl⟩) ?_; try simp only [Act.put, List.setIfInBounds_toArray, List.set_cons_zero, List.set_cons_succ])
    (refine takeE Ext.tr 5 (by simp only [List.getElem?_toArray, List.getElem?_cons_succ, List.getElem?_cons_zero]; rfl) (by kernel_rfl) (by kernel_rfl) (by kernel_rfl) (by exact fun _ _ _ h => h) (by first | (refine Or.inl ⟨by rfl, ?_⟩; intro W hW; go_simp; try with_reducible rfl) | exact Or.inr ⟨by rfl, rfl⟩) ?_; try simp only [Act.put, List.setIfInBounds_toArray, List.set_cons_zero, List.set_cons_succ])
    (refine takeE Ext.tr 8 (by simp only [List.getElem?_toArray, List.getElem?_cons_succ, List.getElem?_cons_zero]; rfl) (by kernel_rfl) (by kernel_rfl) (by kernel_rfl) (by exact fun _ _ _ h => h) (by first | (refine Or.inl ⟨by rfl, ?_⟩; intro W hW; go_simp; try with_reducible rfl) | exact Or.inr ⟨by rfl, rfl⟩) ?_; try simp only [Act.put, List.setIfInBounds_toArray, List.set_cons_zero, List.set_cons_succ])
    refine wpAnyE_one (i := 2) (by kernel_rfl) (by simp only [List.getElem?_toArray, List.getElem?_cons_succ, List.getElem?_cons_zero]; rfl) (fun K hK => ?_)
    go_simp
    refine (rnum_any _ 4 _ ((bs.drop 32).take 4) sm _ (by exact ((hbd0.cut (s := 32) (by omega)).pre (s := 4) (by omega))) (by omega) (by omega) Hsmw.out).mono ?_
    rintro e w2 ⟨rfl, hb2⟩
    have hb2' := hbd0.below hb2
    go_simp
    refine hK.out _ _ hb2 ?_
    clear hK K
    try simp only [Act.put, List.setIfInBounds_toArray, List.set_cons_zero, List.set_cons_succ]
    (refine takeE Ext.tr 3 (by simp only [List.getElem?_toArray, List.getElem?_cons_succ, List.getElem?_cons_zero]; rfl) (by kernel_rfl) (by kernel_rfl) (by kernel_rfl) (by exact fun _ _ _ h => h) (by first | (refine Or.inl ⟨by rfl, ?_⟩; intro W hW; go_simp; try with_reducible rfl) | exact Or.inr ⟨by rfl, rfl⟩) ?_; try simp only [Act.put, List.setIfInBounds_toArray, List.set_cons_zero, List.set_cons_succ])
    refine wpAnyE_one (i := 6) (by kernel_rfl) (by simp only [List.getElem?_toArray, List.getElem?_cons_succ, List.getElem?_cons_zero]; rfl) (fun K hK => ?_)
    go_simp
    refine (of_any _ 32 c (bs.take 32) _ (by exact hb2'.pre (s := 32) (by omega))).mono ?_
    rintro e w' ⟨rfl, rfl⟩
    go_simp
    refine hK.out _ _ (Ext.refl _) ?_
    clear hK K
    try simp only [Act.put, List.setIfInBounds_toArray, List.set_cons_zero, List.set_cons_succ]
    refine wpAnyE_one (i := 9) (by kernel_rfl) (by simp only [List.getElem?_toArray, List.getElem?_cons_succ, List.getElem?_cons_zero]; rfl) (fun K hK => ?_)
    go_simp
    refine (on_any _ _ _ _ pl _ (by rw [Hpl.out]; exact hb2'.cut (s := 36) (by omega)) ho0 ho1).mono ?_
    rintro e w' ⟨rfl, rfl⟩
    rw [HON.out]
    go_simp
    refine hK.out _ _ (Ext.refl _) ?_
    clear hK K
    try simp only [Act.put, List.setIfInBounds_toArray, List.set_cons_zero, List.set_cons_succ]
    (refine takeE Ext.tr 10 (by simp only [List.getElem?_toArray, List.getElem?_cons_succ, List.getElem?_cons_zero]; rfl) (by kernel_rfl) (by kernel_rfl) (by kernel_rfl) (by exact fun _ _ _ h => h) (by first | (refine Or.inl ⟨by rfl, ?_⟩; intro W hW; go_simp; try with_reducible rfl) | exact Or.inr ⟨by rfl, rfl⟩) ?_; try simp only [Act.put, List.setIfInBounds_toArray, List.set_cons_zero, List.set_cons_succ])
    refine wpAnyE_done (by kernel_rfl) ?_ _
    clear hwr k32 k0 k36 hsz
    have hbs5 := hb2'
    have hre5' := hre5.below hb2
    have hc5' := below_on hc5 hb2
    clear hb2' hb2 hbd0 hre5 hc5 hbd hre1 hc1 hre9 hrf hbs1
    have hre9 := hre5'.cells9
    have hrf := fun i => hre5'.free i
    by_cases hsm : sm = am
    · have hsm' : (sm != am) = false := by rw [hsm]; simp
      have Hsm2 := Lib.hid hsm
      clear hsm
      obtain ⟨x3, ex3⟩ : ∃ v, v = bs.getD 3 0 := ⟨_, rfl⟩
      have bx3 := wf_at HWF.out 3
      rw [← ex3] at bx3
      obtain ⟨b3, B3⟩ := bx3
      have E3 : Hid (bs.getD 3 0 = x3) := Lib.hid ex3.symm
      have w3_ : IntKind.i64.wrap x3 = x3 := by rw [IntKind.wrap_i64]; omega
      obtain ⟨x4, ex4⟩ : ∃ v, v = bs.getD 4 0 := ⟨_, rfl⟩
      have bx4 := wf_at HWF.out 4
      rw [← ex4] at bx4
      obtain ⟨b4, B4⟩ := bx4
      have E4 : Hid (bs.getD 4 0 = x4) := Lib.hid ex4.symm
      have w4_ : IntKind.i64.wrap x4 = x4 := by rw [IntKind.wrap_i64]; omega
      obtain ⟨x5, ex5⟩ : ∃ v, v = bs.getD 5 0 := ⟨_, rfl⟩
      have bx5 := wf_at HWF.out 5
      rw [← ex5] at bx5
      obtain ⟨b5, B5⟩ := bx5
      have E5 : Hid (bs.getD 5 0 = x5) := Lib.hid ex5.symm
      have w5_ : IntKind.i64.wrap x5 = x5 := by rw [IntKind.wrap_i64]; omega
      obtain ⟨x6, ex6⟩ : ∃ v, v = bs.getD 6 0 := ⟨_, rfl⟩
      have bx6 := wf_at HWF.out 6
      rw [← ex6] at bx6
      obtain ⟨b6, B6⟩ := bx6
      have E6 : Hid (bs.getD 6 0 = x6) := Lib.hid ex6.symm
      have w6_ : IntKind.i64.wrap x6 = x6 := by rw [IntKind.wrap_i64]; omega
      obtain ⟨x7, ex7⟩ : ∃ v, v = bs.getD 7 0 := ⟨_, rfl⟩
      have bx7 := wf_at HWF.out 7
      rw [← ex7] at bx7
      obtain ⟨b7, B7⟩ := bx7
      have E7 : Hid (bs.getD 7 0 = x7) := Lib.hid ex7.symm
      have w7_ : IntKind.i64.wrap x7 = x7 := by rw [IntKind.wrap_i64]; omega
      obtain ⟨cn, ecn⟩ : ∃ v, v = gN hs 8 4 := ⟨_, rfl⟩
      have Hcn : Hid (wrap64 (num ((bs.drop 8).take 4)) = cn) := Lib.hid (by rw [ecn, Hhs.out]; unfold gN; rw [List.drop_take, List.take_take]; rfl)
      obtain ⟨sq, esq⟩ : ∃ v, v = gN hs 12 8 := ⟨_, rfl⟩
      have Hsq : Hid (wrap64 (num ((bs.drop 12).take 8)) = sq) := Lib.hid (by rw [esq, Hhs.out]; unfold gN; rw [List.drop_take, List.take_take]; rfl)
      obtain ⟨pu, epu⟩ : ∃ v, v = gN hs 20 8 := ⟨_, rfl⟩
      have Hpu : Hid (wrap64 (num ((bs.drop 20).take 8)) = pu) := Lib.hid (by rw [epu, Hhs.out]; unfold gN; rw [List.drop_take, List.take_take]; rfl)
      have HH : Hid (decH hs = ⟨x3, x4, x5, x6, x7, cn, sq, pu⟩) := Lib.hid (by
        have q := fun i (hi : i < 36) => gN1 (bs := hs) (fun x hx => HWF.out x (by rw [Hhs.out] at hx; exact List.mem_of_mem_take hx)) i (by rw [HLH.out]; exact hi)
        have q2 := fun i (hi : i < 36) => (q i hi).trans (show hs.getD i 0 = bs.getD i 0 by rw [Hhs.out, getD_take hi])
        unfold decH
        rw [ecn, esq, epu, q2 3 (by omega), q2 4 (by omega), q2 5 (by omega), q2 6 (by omega), q2 7 (by omega), ← ex3, ← ex4, ← ex5, ← ex6, ← ex7])
      have hgw : g < w2.heap.size := by have := hc5'.size; omega
      clear ex3 ex4 ex5 ex6 ex7 ecn esq epu
      have k8 : ∀ w, (Instr.slice 23 (.slice (some ⟨g, o, none⟩) n c) (some (.int .i64 8)) (some (.int .i64 12)) none).run Try.prog w = .ok (.slice (cutA (some ⟨g, o, none⟩) c 8) 4 (c - 8)) w := fun w => bytesT.run_cut2 _ n c 8 4 (by omega) hnc w
      have k12 : ∀ w, (Instr.slice 23 (.slice (some ⟨g, o, none⟩) n c) (some (.int .i64 12)) (some (.int .i64 20)) none).run Try.prog w = .ok (.slice (cutA (some ⟨g, o, none⟩) c 12) 8 (c - 12)) w := fun w => bytesT.run_cut2 _ n c 12 8 (by omega) hnc w
      have k20 : ∀ w, (Instr.slice 23 (.slice (some ⟨g, o, none⟩) n c) (some (.int .i64 20)) (some (.int .i64 28)) none).run Try.prog w = .ok (.slice (cutA (some ⟨g, o, none⟩) c 20) 8 (c - 20)) w := fun w => bytesT.run_cut2 _ n c 20 8 (by omega) hnc w
      have k36 : ∀ w, (Instr.slice 23 (.slice (some ⟨g, o, none⟩) n c) (some (.int .i64 36)) none none).run Try.prog w = .ok (.slice (cutA (some ⟨g, o, none⟩) c 36) (n - 36) (c - 36)) w := fun w => bytesT.run_cut _ n c 36 (by omega) hnc w
      go_upto_region 7 with fail
      go_cut [4] (fun s4 wx => ∃ gp : Nat, s4 = .pointer (some ⟨gp, 0, none⟩) ∧ Bk wx 25 gp [.int .i64 x3, .int .i64 x4, .int .i64 x5, .int .i64 x6, .int .i64 x7, .int .i64 cn, .int .i64 sq, .int .i64 pu, .slice (cutA (some ⟨g, o, none⟩) c 36) (n - 36) (c - 36)] ∧ Below w2.heap.size w2 wx ∧ w2.heap.size ≤ gp)
      case first =>
        refine wp_region_E (Below w2.heap.size) (by kernel_rfl) (fun wd hbd hsz => ?_)
        have HSZ := Lib.hid hsz
        clear hsz
        have hbd0 := hbs5.below hbd
        have hBs : w2.heap.size ≤ wd.heap.size := by have := HSZ.out; omega
        have hc7 := hbd
        have kx := fun W (hW : Below w2.heap.size wd W) => (hW.cell (p := ⟨g, o + 3, none⟩) hgw).trans (rd_at hbd0 3 (by omega))
        have ky := fun W (hW : Below w2.heap.size wd W) => (hW.cell (p := ⟨g, o + 4, none⟩) hgw).trans (rd_at hbd0 4 (by omega))
        have kz := fun W (hW : Below w2.heap.size wd W) => (hW.cell (p := ⟨g, o + 5, none⟩) hgw).trans (rd_at hbd0 5 (by omega))
        have ku := fun W (hW : Below w2.heap.size wd W) => (hW.cell (p := ⟨g, o + 6, none⟩) hgw).trans (rd_at hbd0 6 (by omega))
        have kv := fun W (hW : Below w2.heap.size wd W) => (hW.cell (p := ⟨g, o + 7, none⟩) hgw).trans (rd_at hbd0 7 (by omega))
        have i3 : (3 : Int) < n := by omega
        have i4 : (4 : Int) < n := by omega
        have i5 : (5 : Int) < n := by omega
        have i6 : (6 : Int) < n := by omega
        have i7 : (7 : Int) < n := by omega
        rw [E3.out] at kx
        rw [E4.out] at ky
        rw [E5.out] at kz
        rw [E6.out] at ku
        rw [E7.out] at kv
        clear hbd
        (refine takeE (belowTr w2.heap.size) 0 (by simp only [List.getElem?_toArray, List.getElem?_cons_succ, List.getElem?_cons_zero]; rfl) (by kernel_rfl) (by kernel_rfl) (by kernel_rfl) (by exact fun _ _ _ h => h) (by first | (refine Or.inl ⟨by rfl, ?_⟩; intro W hW; go_simp; try with_reducible rfl) | exact Or.inr ⟨by rfl, rfl⟩) ?_; try simp only [Act.put, List.setIfInBounds_toArray, List.set_cons_zero, List.set_cons_succ])
        (refine takeE (belowTr w2.heap.size) 4 (by simp only [List.getElem?_toArray, List.getElem?_cons_succ, List.getElem?_cons_zero]; rfl) (by kernel_rfl) (by kernel_rfl) (by kernel_rfl) (by exact fun _ _ _ h => h) (by first | (refine Or.inl ⟨by rfl, ?_⟩; intro W hW; go_simp; try with_reducible rfl) | exact Or.inr ⟨by rfl, rfl⟩) ?_; try simp only [Act.put, List.setIfInBounds_toArray, List.set_cons_zero, List.set_cons_succ])
        (refine takeE (belowTr w2.heap.size) 8 (by simp only [List.getElem?_toArray, List.getElem?_cons_succ, List.getElem?_cons_zero]; rfl) (by kernel_rfl) (by kernel_rfl) (by kernel_rfl) (by exact fun _ _ _ h => h) (by first | (refine Or.inl ⟨by rfl, ?_⟩; intro W hW; go_simp; try with_reducible rfl) | exact Or.inr ⟨by rfl, rfl⟩) ?_; try simp only [Act.put, List.setIfInBounds_toArray, List.set_cons_zero, List.set_cons_succ])
        (refine takeE (belowTr w2.heap.size) 12 (by simp only [List.getElem?_toArray, List.getElem?_cons_succ, List.getElem?_cons_zero]; rfl) (by kernel_rfl) (by kernel_rfl) (by kernel_rfl) (by exact fun _ _ _ h => h) (by first | (refine Or.inl ⟨by rfl, ?_⟩; intro W hW; go_simp; try with_reducible rfl) | exact Or.inr ⟨by rfl, rfl⟩) ?_; try simp only [Act.put, List.setIfInBounds_toArray, List.set_cons_zero, List.set_cons_succ])
        (refine takeE (belowTr w2.heap.size) 16 (by simp only [List.getElem?_toArray, List.getElem?_cons_succ, List.getElem?_cons_zero]; rfl) (by kernel_rfl) (by kernel_rfl) (by kernel_rfl) (by exact fun _ _ _ h => h) (by first | (refine Or.inl ⟨by rfl, ?_⟩; intro W hW; go_simp; try with_reducible rfl) | exact Or.inr ⟨by rfl, rfl⟩) ?_; try simp only [Act.put, List.setIfInBounds_toArray, List.set_cons_zero, List.set_cons_succ])
        (refine takeE (belowTr w2.heap.size) 20 (by simp only [List.getElem?_toArray, List.getElem?_cons_succ, List.getElem?_cons_zero]; rfl) (by kernel_rfl) (by kernel_rfl) (by kernel_rfl) (by exact fun _ _ _ h => h) (by first | (refine Or.inl ⟨by rfl, ?_⟩; intro W hW; go_simp; try with_reducible rfl) | exact Or.inr ⟨by rfl, rfl⟩) ?_; try simp only [Act.put, List.setIfInBounds_toArray, List.set_cons_zero, List.set_cons_succ])
        (refine takeE (belowTr w2.heap.size) 23 (by simp only [List.getElem?_toArray, List.getElem?_cons_succ, List.getElem?_cons_zero]; rfl) (by kernel_rfl) (by kernel_rfl) (by kernel_rfl) (by exact fun _ _ _ h => h) (by first | (refine Or.inl ⟨by rfl, ?_⟩; intro W hW; go_simp; try with_reducible rfl) | exact Or.inr ⟨by rfl, rfl⟩) ?_; try simp only [Act.put, List.setIfInBounds_toArray, List.set_cons_zero, List.set_cons_succ])
        (refine takeE (belowTr w2.heap.size) 26 (by simp only [List.getElem?_toArray, List.getElem?_cons_succ, List.getElem?_cons_zero]; rfl) (by kernel_rfl) (by kernel_rfl) (by kernel_rfl) (by exact fun _ _ _ h => h) (by first | (refine Or.inl ⟨by rfl, ?_⟩; intro W hW; go_simp; try with_reducible rfl) | exact Or.inr ⟨by rfl, rfl⟩) ?_; try simp only [Act.put, List.setIfInBounds_toArray, List.set_cons_zero, List.set_cons_succ])
        (refine takeE (belowTr w2.heap.size) 29 (by simp only [List.getElem?_toArray, List.getElem?_cons_succ, List.getElem?_cons_zero]; rfl) (by kernel_rfl) (by kernel_rfl) (by kernel_rfl) (by exact fun _ _ _ h => h) (by first | (refine Or.inl ⟨by rfl, ?_⟩; intro W hW; go_simp; try with_reducible rfl) | exact Or.inr ⟨by rfl, rfl⟩) ?_; try simp only [Act.put, List.setIfInBounds_toArray, List.set_cons_zero, List.set_cons_succ])
        (refine takeE (belowTr w2.heap.size) 1 (by simp only [List.getElem?_toArray, List.getElem?_cons_succ, List.getElem?_cons_zero]; rfl) (by kernel_rfl) (by kernel_rfl) (by kernel_rfl) (by exact fun _ _ _ h => h) (by first | (refine Or.inl ⟨by rfl, ?_⟩; intro W hW; go_simp; try with_reducible rfl) | exact Or.inr ⟨by rfl, rfl⟩) ?_; try simp only [Act.put, List.setIfInBounds_toArray, List.set_cons_zero, List.set_cons_succ])
        (refine takeE (belowTr w2.heap.size) 5 (by simp only [List.getElem?_toArray, List.getElem?_cons_succ, List.getElem?_cons_zero]; rfl) (by kernel_rfl) (by kernel_rfl) (by kernel_rfl) (by exact fun _ _ _ h => h) (by first | (refine Or.inl ⟨by rfl, ?_⟩; intro W hW; go_simp; try with_reducible rfl) | exact Or.inr ⟨by rfl, rfl⟩) ?_; try simp only [Act.put, List.setIfInBounds_toArray, List.set_cons_zero, List.set_cons_succ])
        (refine takeE (belowTr w2.heap.size) 9 (by simp only [List.getElem?_toArray, List.getElem?_cons_succ, List.getElem?_cons_zero]; rfl) (by kernel_rfl) (by kernel_rfl) (by kernel_rfl) (by exact fun _ _ _ h => h) (by first | (refine Or.inl ⟨by rfl, ?_⟩; intro W hW; go_simp; try with_reducible rfl) | exact Or.inr ⟨by rfl, rfl⟩) ?_; try simp only [Act.put, List.setIfInBounds_toArray, List.set_cons_zero, List.set_cons_succ])
        (refine takeE (belowTr w2.heap.size) 13 (by simp only [List.getElem?_toArray, List.getElem?_cons_succ, List.getElem?_cons_zero]; rfl) (by kernel_rfl) (by kernel_rfl) (by kernel_rfl) (by exact fun _ _ _ h => h) (by first | (refine Or.inl ⟨by rfl, ?_⟩; intro W hW; go_simp; try with_reducible rfl) | exact Or.inr ⟨by rfl, rfl⟩) ?_; try simp only [Act.put, List.setIfInBounds_toArray, List.set_cons_zero, List.set_cons_succ])
        (refine takeE (belowTr w2.heap.size) 17 (by simp only [List.getElem?_toArray, List.getElem?_cons_succ, List.getElem?_cons_zero]; rfl) (by kernel_rfl) (by kernel_rfl) (by kernel_rfl) (by exact fun _ _ _ h => h) (by first | (refine Or.inl ⟨by rfl, ?_⟩; intro W hW; go_simp; try with_reducible rfl) | exact Or.inr ⟨by rfl, rfl⟩) ?_; try simp only [Act.put, List.setIfInBounds_toArray, List.set_cons_zero, List.set_cons_succ])
        (refine takeE (belowTr w2.heap.size) 21 (by simp only [List.getElem?_toArray, List.getElem?_cons_succ, List.getElem?_cons_zero]; rfl) (by kernel_rfl) (by kernel_rfl) (by kernel_rfl) (by exact fun _ _ _ h => h) (by first | (refine Or.inl ⟨by rfl, ?_⟩; intro W hW; go_simp; try with_reducible rfl) | exact Or.inr ⟨by rfl, rfl⟩) ?_; try simp only [Act.put, List.setIfInBounds_toArray, List.set_cons_zero, List.set_cons_succ])
        (refine takeE (belowTr w2.heap.size) 24 (by simp only [List.getElem?_toArray, List.getElem?_cons_succ, List.getElem?_cons_zero]; rfl) (by kernel_rfl) (by kernel_rfl) (by kernel_rfl) (by exact fun _ _ _ h => h) (by first | (refine Or.inl ⟨by rfl, ?_⟩; intro W hW; go_simp; try with_reducible rfl) | exact Or.inr ⟨by rfl, rfl⟩) ?_; try simp only [Act.put, List.setIfInBounds_toArray, List.set_cons_zero, List.set_cons_succ])
        (refine takeE (belowTr w2.heap.size) 27 (by simp only [List.getElem?_toArray, List.getElem?_cons_succ, List.getElem?_cons_zero]; rfl) (by kernel_rfl) (by kernel_rfl) (by kernel_rfl) (by exact fun _ _ _ h => h) (by first | (refine Or.inl ⟨by rfl, ?_⟩; intro W hW; go_simp; try with_reducible rfl) | exact Or.inr ⟨by rfl, rfl⟩) ?_; try simp only [Act.put, List.setIfInBounds_toArray, List.set_cons_zero, List.set_cons_succ])
        (refine takeE (belowTr w2.heap.size) 30 (by simp only [List.getElem?_toArray, List.getElem?_cons_succ, List.getElem?_cons_zero]; rfl) (by kernel_rfl) (by kernel_rfl) (by kernel_rfl) (by exact fun _ _ _ h => h) (by first | (refine Or.inl ⟨by rfl, ?_⟩; intro W hW; go_simp; try with_reducible rfl) | exact Or.inr ⟨by rfl, rfl⟩) ?_; try simp only [Act.put, List.setIfInBounds_toArray, List.set_cons_zero, List.set_cons_succ])
        (refine takeE (belowTr w2.heap.size) 2 (by simp only [List.getElem?_toArray, List.getElem?_cons_succ, List.getElem?_cons_zero]; rfl) (by kernel_rfl) (by kernel_rfl) (by kernel_rfl) (by exact fun _ _ _ h => h) (by first | (refine Or.inl ⟨by rfl, ?_⟩; intro W hW; go_simp; try with_reducible rfl) | exact Or.inr ⟨by rfl, rfl⟩) ?_; try simp only [Act.put, List.setIfInBounds_toArray, List.set_cons_zero, List.set_cons_succ])
        (refine takeE (belowTr w2.heap.size) 6 (by simp only [List.getElem?_toArray, List.getElem?_cons_succ, List.getElem?_cons_zero]; rfl) (by kernel_rfl) (by kernel_rfl) (by kernel_rfl) (by exact fun _ _ _ h => h) (by first | (refine Or.inl ⟨by rfl, ?_⟩; intro W hW; go_simp; try with_reducible rfl) | exact Or.inr ⟨by rfl, rfl⟩) ?_; try simp only [Act.put, List.setIfInBounds_toArray, List.set_cons_zero, List.set_cons_succ])
        (refine takeE (belowTr w2.heap.size) 10 (by simp only [List.getElem?_toArray, List.getElem?_cons_succ, List.getElem?_cons_zero]; rfl) (by kernel_rfl) (by kernel_rfl) (by kernel_rfl) (by exact fun _ _ _ h => h) (by first | (refine Or.inl ⟨by rfl, ?_⟩; intro W hW; go_simp; try with_reducible rfl) | exact Or.inr ⟨by rfl, rfl⟩) ?_; try simp only [Act.put, List.setIfInBounds_toArray, List.set_cons_zero, List.set_cons_succ])
        (refine takeE (belowTr w2.heap.size) 14 (by simp only [List.getElem?_toArray, List.getElem?_cons_succ, List.getElem?_cons_zero]; rfl) (by kernel_rfl) (by kernel_rfl) (by kernel_rfl) (by exact fun _ _ _ h => h) (by first | (refine Or.inl ⟨by rfl, ?_⟩; intro W hW; go_simp; try with_reducible rfl) | exact Or.inr ⟨by rfl, rfl⟩) ?_; try simp only [Act.put, List.setIfInBounds_toArray, List.set_cons_zero, List.set_cons_succ])
        (refine takeE (belowTr w2.heap.size) 18 (by simp only [List.getElem?_toArray, List.getElem?_cons_succ, List.getElem?_cons_zero]; rfl) (by kernel_rfl) (by kernel_rfl) (by kernel_rfl) (by exact fun _ _ _ h => h) (by first | (refine Or.inl ⟨by rfl, ?_⟩; intro W hW; go_simp; try with_reducible rfl) | exact Or.inr ⟨by rfl, rfl⟩) ?_; try simp only [Act.put, List.setIfInBounds_toArray, List.set_cons_zero, List.set_cons_succ])
        (refine takeE (belowTr w2.heap.size) 3 (by simp only [List.getElem?_toArray, List.getElem?_cons_succ, List.getElem?_cons_zero]; rfl) (by kernel_rfl) (by kernel_rfl) (by kernel_rfl) (by exact fun _ _ _ h => h) (by first | (refine Or.inl ⟨by rfl, ?_⟩; intro W hW; go_simp; try with_reducible rfl) | exact Or.inr ⟨by rfl, rfl⟩) ?_; try simp only [Act.put, List.setIfInBounds_toArray, List.set_cons_zero, List.set_cons_succ])
        (refine takeE (belowTr w2.heap.size) 7 (by simp only [List.getElem?_toArray, List.getElem?_cons_succ, List.getElem?_cons_zero]; rfl) (by kernel_rfl) (by kernel_rfl) (by kernel_rfl) (by exact fun _ _ _ h => h) (by first | (refine Or.inl ⟨by rfl, ?_⟩; intro W hW; go_simp; try with_reducible rfl) | exact Or.inr ⟨by rfl, rfl⟩) ?_; try simp only [Act.put, List.setIfInBounds_toArray, List.set_cons_zero, List.set_cons_succ])
        (refine takeE (belowTr w2.heap.size) 11 (by simp only [List.getElem?_toArray, List.getElem?_cons_succ, List.getElem?_cons_zero]; rfl) (by kernel_rfl) (by kernel_rfl) (by kernel_rfl) (by exact fun _ _ _ h => h) (by first | (refine Or.inl ⟨by rfl, ?_⟩; intro W hW; go_simp; try with_reducible rfl) | exact Or.inr ⟨by rfl, rfl⟩) ?_; try simp only [Act.put, List.setIfInBounds_toArray, List.set_cons_zero, List.set_cons_succ])
        (refine takeE (belowTr w2.heap.size) 15 (by simp only [List.getElem?_toArray, List.getElem?_cons_succ, List.getElem?_cons_zero]; rfl) (by kernel_rfl) (by kernel_rfl) (by kernel_rfl) (by exact fun _ _ _ h => h) (by first | (refine Or.inl ⟨by rfl, ?_⟩; intro W hW; go_simp; try with_reducible rfl) | exact Or.inr ⟨by rfl, rfl⟩) ?_; try simp only [Act.put, List.setIfInBounds_toArray, List.set_cons_zero, List.set_cons_succ])
        (refine takeE (belowTr w2.heap.size) 19 (by simp only [List.getElem?_toArray, List.getElem?_cons_succ, List.getElem?_cons_zero]; rfl) (by kernel_rfl) (by kernel_rfl) (by kernel_rfl) (by exact fun _ _ _ h => h) (by first | (refine Or.inl ⟨by rfl, ?_⟩; intro W hW; go_simp; try with_reducible rfl) | exact Or.inr ⟨by rfl, rfl⟩) ?_; try simp only [Act.put, List.setIfInBounds_toArray, List.set_cons_zero, List.set_cons_succ])
        refine wpAnyE_two (i := 22) (j := 32) (by kernel_rfl) (by simp only [List.getElem?_toArray, List.getElem?_cons_succ, List.getElem?_cons_zero]; rfl) (by simp only [List.getElem?_toArray, List.getElem?_cons_succ, List.getElem?_cons_zero]; rfl) (fun K hK => ?_) (fun K hK => ?_)
        ·
          go_simp
          refine (rnum_any _ 4 _ ((bs.drop 8).take 4) cn _ (by exact ((hbd0.cut (s := 8) (by omega)).pre (s := 4) (by omega))) (by omega) (by omega) Hcn.out).mono ?_
          rintro e W1 ⟨rfl, hW1⟩
          have hE := hW1.mono hBs
          have hbd0 := hbd0.below hW1
          have hc7 := hc7.trans hE
          try have hnew := hnew.below hW1
          have hBs := Nat.le_trans hBs hW1.size
          clear hW1
          go_simp
          refine hK.out _ _ hE ?_
          clear hK K
          try simp only [Act.put, List.setIfInBounds_toArray, List.set_cons_zero, List.set_cons_succ]
          refine wpAnyE_two (i := 25) (j := 32) (by kernel_rfl) (by simp only [List.getElem?_toArray, List.getElem?_cons_succ, List.getElem?_cons_zero]; rfl) (by simp only [List.getElem?_toArray, List.getElem?_cons_succ, List.getElem?_cons_zero]; rfl) (fun K hK => ?_) (fun K hK => ?_)
          ·
            go_simp
            refine (rnum_any _ 8 _ ((bs.drop 12).take 8) sq _ (by exact ((hbd0.cut (s := 12) (by omega)).pre (s := 8) (by omega))) (by omega) (by omega) Hsq.out).mono ?_
            rintro e W1 ⟨rfl, hW1⟩
            have hE := hW1.mono hBs
            have hbd0 := hbd0.below hW1
            have hc7 := hc7.trans hE
            try have hnew := hnew.below hW1
            have hBs := Nat.le_trans hBs hW1.size
            clear hW1
            go_simp
            refine hK.out _ _ hE ?_
            clear hK K
            try simp only [Act.put, List.setIfInBounds_toArray, List.set_cons_zero, List.set_cons_succ]
            refine wpAnyE_two (i := 28) (j := 32) (by kernel_rfl) (by simp only [List.getElem?_toArray, List.getElem?_cons_succ, List.getElem?_cons_zero]; rfl) (by simp only [List.getElem?_toArray, List.getElem?_cons_succ, List.getElem?_cons_zero]; rfl) (fun K hK => ?_) (fun K hK => ?_)
            ·
              go_simp
              refine (rnum_any _ 8 _ ((bs.drop 20).take 8) pu _ (by exact ((hbd0.cut (s := 20) (by omega)).pre (s := 8) (by omega))) (by omega) (by omega) Hpu.out).mono ?_
              rintro e W1 ⟨rfl, hW1⟩
              have hE := hW1.mono hBs
              have hbd0 := hbd0.below hW1
              have hc7 := hc7.trans hE
              try have hnew := hnew.below hW1
              have hBs := Nat.le_trans hBs hW1.size
              clear hW1
              go_simp
              refine hK.out _ _ hE ?_
              clear hK K
              try simp only [Act.put, List.setIfInBounds_toArray, List.set_cons_zero, List.set_cons_succ]
              (refine takeE (belowTr w2.heap.size) 31 (by simp only [List.getElem?_toArray, List.getElem?_cons_succ, List.getElem?_cons_zero]; rfl) (by kernel_rfl) (by kernel_rfl) (by kernel_rfl) (by exact fun _ _ _ h => h) (by first | (refine Or.inl ⟨by rfl, ?_⟩; intro W hW; go_simp; try with_reducible rfl) | exact Or.inr ⟨by rfl, rfl⟩) ?_; try simp only [Act.put, List.setIfInBounds_toArray, List.set_cons_zero, List.set_cons_succ])
              refine wpAnyE_one (i := 32) (by kernel_rfl) (by simp only [List.getElem?_toArray, List.getElem?_cons_succ, List.getElem?_cons_zero]; rfl) (fun K hK => ?_)
              go_simp
              obtain ⟨hnew, hA1⟩ := alloc_pk hbd0
              have hE := hA1.mono hBs
              have hlow := hBs
              have hbd0 := hbd0.below hA1
              have hc7 := hc7.trans hE
              have hBs := Nat.le_trans hBs hA1.size
              clear hA1
              refine hK.out _ _ hE ?_
              clear hK K
              try simp only [Act.put, List.setIfInBounds_toArray, List.set_cons_zero, List.set_cons_succ]
              refine wpAnyE_one (i := 33) (by kernel_rfl) (by simp only [List.getElem?_toArray, List.getElem?_cons_succ, List.getElem?_cons_zero]; rfl) (fun K hK => ?_)
              have hn9 := hnew.cells9
              have hnf := fun i => hnew.free i
              go_simp
              have hWx := Bk.new W1 25 [.int .i64 x3, .int .i64 x4, .int .i64 x5, .int .i64 x6, .int .i64 x7, .int .i64 cn, .int .i64 sq, .int .i64 pu, .slice (cutA (some ⟨g, o, none⟩) c 36) (n - 36) (c - 36)]
              have hE := below_alloc2 (w := W1) hlow (.cells ([.int .i64 0, .int .i64 0, .int .i64 0, .int .i64 0, .int .i64 0, .int .i64 0, .int .i64 0, .int .i64 0, .slice none 0 0]).toArray 25) (.cells ([.int .i64 x3, .int .i64 x4, .int .i64 x5, .int .i64 x6, .int .i64 x7, .int .i64 cn, .int .i64 sq, .int .i64 pu, .slice (cutA (some ⟨g, o, none⟩) c 36) (n - 36) (c - 36)]).toArray 25)
              have hcF := hc7.trans (below_alloc2 (w := W1) hlow (.cells ([.int .i64 0, .int .i64 0, .int .i64 0, .int .i64 0, .int .i64 0, .int .i64 0, .int .i64 0, .int .i64 0, .slice none 0 0]).toArray 25) (.cells ([.int .i64 x3, .int .i64 x4, .int .i64 x5, .int .i64 x6, .int .i64 x7, .int .i64 cn, .int .i64 sq, .int .i64 pu, .slice (cutA (some ⟨g, o, none⟩) c 36) (n - 36) (c - 36)]).toArray 25))
              refine hK.out _ _ hE ?_
              clear hK K
              try simp only [Act.put, List.setIfInBounds_toArray, List.set_cons_zero, List.set_cons_succ]
              refine wpAnyE_done (by kernel_rfl) ?_ _
              go_wp2_with fail
              go_meet
              exact ⟨_, rfl, hWx, hcF, hlow⟩
            ·
              go_simp
              obtain ⟨hnew, hA1⟩ := alloc_pk hbd0
              have hE := hA1.mono hBs
              have hlow := hBs
              have hbd0 := hbd0.below hA1
              have hc7 := hc7.trans hE
              have hBs := Nat.le_trans hBs hA1.size
              clear hA1
              refine hK.out _ _ hE ?_
              clear hK K
              try simp only [Act.put, List.setIfInBounds_toArray, List.set_cons_zero, List.set_cons_succ]
              refine wpAnyE_one (i := 28) (by kernel_rfl) (by simp only [List.getElem?_toArray, List.getElem?_cons_succ, List.getElem?_cons_zero]; rfl) (fun K hK => ?_)
              go_simp
              refine (rnum_any _ 8 _ ((bs.drop 20).take 8) pu _ (by exact ((hbd0.cut (s := 20) (by omega)).pre (s := 8) (by omega))) (by omega) (by omega) Hpu.out).mono ?_
              rintro e W1 ⟨rfl, hW1⟩
              have hE := hW1.mono hBs
              have hbd0 := hbd0.below hW1
              have hc7 := hc7.trans hE
              try have hnew := hnew.below hW1
              have hBs := Nat.le_trans hBs hW1.size
              clear hW1
              go_simp
              refine hK.out _ _ hE ?_
              clear hK K
              try simp only [Act.put, List.setIfInBounds_toArray, List.set_cons_zero, List.set_cons_succ]
              (refine takeE (belowTr w2.heap.size) 31 (by simp only [List.getElem?_toArray, List.getElem?_cons_succ, List.getElem?_cons_zero]; rfl) (by kernel_rfl) (by kernel_rfl) (by kernel_rfl) (by exact fun _ _ _ h => h) (by first | (refine Or.inl ⟨by rfl, ?_⟩; intro W hW; go_simp; try with_reducible rfl) | exact Or.inr ⟨by rfl, rfl⟩) ?_; try simp only [Act.put, List.setIfInBounds_toArray, List.set_cons_zero, List.set_cons_succ])
              refine wpAnyE_one (i := 33) (by kernel_rfl) (by simp only [List.getElem?_toArray, List.getElem?_cons_succ, List.getElem?_cons_zero]; rfl) (fun K hK => ?_)
              have hn9 := hnew.cells9
              have hnf := fun i => hnew.free i
              go_simp
              obtain ⟨W, hW, hWx, hWb, hWk, hWo, hWs, -⟩ := pk_store (.int .i64 x3) (.int .i64 x4) (.int .i64 x5) (.int .i64 x6) (.int .i64 x7) (.int .i64 cn) (.int .i64 sq) (.int .i64 pu) (.slice (cutA (some ⟨g, o, none⟩) c 36) (n - 36) (c - 36)) hnew
              rw [hW]
              have hE := hWb _ hlow
              have hcF := hc7.trans (hWb _ hlow)
              refine hK.out _ _ hE ?_
              clear hK K
              try simp only [Act.put, List.setIfInBounds_toArray, List.set_cons_zero, List.set_cons_succ]
              refine wpAnyE_done (by kernel_rfl) ?_ _
              go_wp2_with fail
              go_meet
              exact ⟨_, rfl, hWx, hcF, hlow⟩
          ·
            go_simp
            obtain ⟨hnew, hA1⟩ := alloc_pk hbd0
            have hE := hA1.mono hBs
            have hlow := hBs
            have hbd0 := hbd0.below hA1
            have hc7 := hc7.trans hE
            have hBs := Nat.le_trans hBs hA1.size
            clear hA1
            refine hK.out _ _ hE ?_
            clear hK K
            try simp only [Act.put, List.setIfInBounds_toArray, List.set_cons_zero, List.set_cons_succ]
            refine wpAnyE_one (i := 25) (by kernel_rfl) (by simp only [List.getElem?_toArray, List.getElem?_cons_succ, List.getElem?_cons_zero]; rfl) (fun K hK => ?_)
            go_simp
            refine (rnum_any _ 8 _ ((bs.drop 12).take 8) sq _ (by exact ((hbd0.cut (s := 12) (by omega)).pre (s := 8) (by omega))) (by omega) (by omega) Hsq.out).mono ?_
            rintro e W1 ⟨rfl, hW1⟩
            have hE := hW1.mono hBs
            have hbd0 := hbd0.below hW1
            have hc7 := hc7.trans hE
            try have hnew := hnew.below hW1
            have hBs := Nat.le_trans hBs hW1.size
            clear hW1
            go_simp
            refine hK.out _ _ hE ?_
            clear hK K
            try simp only [Act.put, List.setIfInBounds_toArray, List.set_cons_zero, List.set_cons_succ]
            refine wpAnyE_one (i := 28) (by kernel_rfl) (by simp only [List.getElem?_toArray, List.getElem?_cons_succ, List.getElem?_cons_zero]; rfl) (fun K hK => ?_)
            go_simp
            refine (rnum_any _ 8 _ ((bs.drop 20).take 8) pu _ (by exact ((hbd0.cut (s := 20) (by omega)).pre (s := 8) (by omega))) (by omega) (by omega) Hpu.out).mono ?_
            rintro e W1 ⟨rfl, hW1⟩
            have hE := hW1.mono hBs
            have hbd0 := hbd0.below hW1
            have hc7 := hc7.trans hE
            try have hnew := hnew.below hW1
            have hBs := Nat.le_trans hBs hW1.size
            clear hW1
            go_simp
            refine hK.out _ _ hE ?_
            clear hK K
            try simp only [Act.put, List.setIfInBounds_toArray, List.set_cons_zero, List.set_cons_succ]
            (refine takeE (belowTr w2.heap.size) 31 (by simp only [List.getElem?_toArray, List.getElem?_cons_succ, List.getElem?_cons_zero]; rfl) (by kernel_rfl) (by kernel_rfl) (by kernel_rfl) (by exact fun _ _ _ h => h) (by first | (refine Or.inl ⟨by rfl, ?_⟩; intro W hW; go_simp; try with_reducible rfl) | exact Or.inr ⟨by rfl, rfl⟩) ?_; try simp only [Act.put, List.setIfInBounds_toArray, List.set_cons_zero, List.set_cons_succ])
            refine wpAnyE_one (i := 33) (by kernel_rfl) (by simp only [List.getElem?_toArray, List.getElem?_cons_succ, List.getElem?_cons_zero]; rfl) (fun K hK => ?_)
            have hn9 := hnew.cells9
            have hnf := fun i => hnew.free i
            go_simp
            obtain ⟨W, hW, hWx, hWb, hWk, hWo, hWs, -⟩ := pk_store (.int .i64 x3) (.int .i64 x4) (.int .i64 x5) (.int .i64 x6) (.int .i64 x7) (.int .i64 cn) (.int .i64 sq) (.int .i64 pu) (.slice (cutA (some ⟨g, o, none⟩) c 36) (n - 36) (c - 36)) hnew
            rw [hW]
            have hE := hWb _ hlow
            have hcF := hc7.trans (hWb _ hlow)
            refine hK.out _ _ hE ?_
            clear hK K
            try simp only [Act.put, List.setIfInBounds_toArray, List.set_cons_zero, List.set_cons_succ]
            refine wpAnyE_done (by kernel_rfl) ?_ _
            go_wp2_with fail
            go_meet
            exact ⟨_, rfl, hWx, hcF, hlow⟩
        ·
          go_simp
          obtain ⟨hnew, hA1⟩ := alloc_pk hbd0
          have hE := hA1.mono hBs
          have hlow := hBs
          have hbd0 := hbd0.below hA1
          have hc7 := hc7.trans hE
          have hBs := Nat.le_trans hBs hA1.size
          clear hA1
          refine hK.out _ _ hE ?_
          clear hK K
          try simp only [Act.put, List.setIfInBounds_toArray, List.set_cons_zero, List.set_cons_succ]
          refine wpAnyE_one (i := 22) (by kernel_rfl) (by simp only [List.getElem?_toArray, List.getElem?_cons_succ, List.getElem?_cons_zero]; rfl) (fun K hK => ?_)
          go_simp
          refine (rnum_any _ 4 _ ((bs.drop 8).take 4) cn _ (by exact ((hbd0.cut (s := 8) (by omega)).pre (s := 4) (by omega))) (by omega) (by omega) Hcn.out).mono ?_
          rintro e W1 ⟨rfl, hW1⟩
          have hE := hW1.mono hBs
          have hbd0 := hbd0.below hW1
          have hc7 := hc7.trans hE
          try have hnew := hnew.below hW1
          have hBs := Nat.le_trans hBs hW1.size
          clear hW1
          go_simp
          refine hK.out _ _ hE ?_
          clear hK K
          try simp only [Act.put, List.setIfInBounds_toArray, List.set_cons_zero, List.set_cons_succ]
          refine wpAnyE_one (i := 25) (by kernel_rfl) (by simp only [List.getElem?_toArray, List.getElem?_cons_succ, List.getElem?_cons_zero]; rfl) (fun K hK => ?_)
          go_simp
          refine (rnum_any _ 8 _ ((bs.drop 12).take 8) sq _ (by exact ((hbd0.cut (s := 12) (by omega)).pre (s := 8) (by omega))) (by omega) (by omega) Hsq.out).mono ?_
          rintro e W1 ⟨rfl, hW1⟩
          have hE := hW1.mono hBs
          have hbd0 := hbd0.below hW1
          have hc7 := hc7.trans hE
          try have hnew := hnew.below hW1
          have hBs := Nat.le_trans hBs hW1.size
          clear hW1
          go_simp
          refine hK.out _ _ hE ?_
          clear hK K
          try simp only [Act.put, List.setIfInBounds_toArray, List.set_cons_zero, List.set_cons_succ]
          refine wpAnyE_one (i := 28) (by kernel_rfl) (by simp only [List.getElem?_toArray, List.getElem?_cons_succ, List.getElem?_cons_zero]; rfl) (fun K hK => ?_)
          go_simp
          refine (rnum_any _ 8 _ ((bs.drop 20).take 8) pu _ (by exact ((hbd0.cut (s := 20) (by omega)).pre (s := 8) (by omega))) (by omega) (by omega) Hpu.out).mono ?_
          rintro e W1 ⟨rfl, hW1⟩
          have hE := hW1.mono hBs
          have hbd0 := hbd0.below hW1
          have hc7 := hc7.trans hE
          try have hnew := hnew.below hW1
          have hBs := Nat.le_trans hBs hW1.size
          clear hW1
          go_simp
          refine hK.out _ _ hE ?_
          clear hK K
          try simp only [Act.put, List.setIfInBounds_toArray, List.set_cons_zero, List.set_cons_succ]
          (refine takeE (belowTr w2.heap.size) 31 (by simp only [List.getElem?_toArray, List.getElem?_cons_succ, List.getElem?_cons_zero]; rfl) (by kernel_rfl) (by kernel_rfl) (by kernel_rfl) (by exact fun _ _ _ h => h) (by first | (refine Or.inl ⟨by rfl, ?_⟩; intro W hW; go_simp; try with_reducible rfl) | exact Or.inr ⟨by rfl, rfl⟩) ?_; try simp only [Act.put, List.setIfInBounds_toArray, List.set_cons_zero, List.set_cons_succ])
          refine wpAnyE_one (i := 33) (by kernel_rfl) (by simp only [List.getElem?_toArray, List.getElem?_cons_succ, List.getElem?_cons_zero]; rfl) (fun K hK => ?_)
          have hn9 := hnew.cells9
          have hnf := fun i => hnew.free i
          go_simp
          obtain ⟨W, hW, hWx, hWb, hWk, hWo, hWs, -⟩ := pk_store (.int .i64 x3) (.int .i64 x4) (.int .i64 x5) (.int .i64 x6) (.int .i64 x7) (.int .i64 cn) (.int .i64 sq) (.int .i64 pu) (.slice (cutA (some ⟨g, o, none⟩) c 36) (n - 36) (c - 36)) hnew
          rw [hW]
          have hE := hWb _ hlow
          have hcF := hc7.trans (hWb _ hlow)
          refine hK.out _ _ hE ?_
          clear hK K
          try simp only [Act.put, List.setIfInBounds_toArray, List.set_cons_zero, List.set_cons_succ]
          refine wpAnyE_done (by kernel_rfl) ?_ _
          go_wp2_with fail
          go_meet
          exact ⟨_, rfl, hWx, hcF, hlow⟩
      case rest =>
        obtain ⟨gp, rfl, hp, hcx, hgp⟩ := hcut
        have hre := hre5'.below hcx
        have hbs := hbs5.below hcx
        have hc := below_on hc5' hcx
        have hpl : Rd .u8 wc (cutA (some ⟨g, o, none⟩) c 36) (n - 36) (c - 36) pl := by rw [Hpl.out]; exact hbs.cut hn
        have hrl := hre5'.lt
        have hplen : ((n - 36 : Nat) : Int) = pl.length := by have := HLP.out; omega
        have HPN := Lib.hid hplen
        clear hre5' hbs5 hcx hre9 hrf hplen
        have hp9 := hp.cells9
        cases hck : chkB ⟨x3, x4, x5, x6, x7, cn, sq, pu⟩ ((n - 36 : Nat) : Int)
        · have HE : Hid (decE hs pl = 30) := Lib.hid (by unfold decE; rw [if_pos ⟨HM.out, by rw [← Hst.out, Hst3.out, HLP.out]⟩, if_pos (by rw [← Ham.out, ← Hsm.out]; exact Hsm2.out), if_neg (by rw [HH.out, ← HPN.out, hck]; simp)])
          obtain ⟨hP, hX⟩ := dec_err HE.out (by decide)
          have HP := Lib.hid hP
          have HX2 := Lib.hid hX
          clear hP hX
          go_wp2_with fail
          refine (rencode_no _ _ _ _ _ _ _ _ _ _ _ _ (by omega) hck).mono ?_
          rintro e w9 ⟨rfl, hb9⟩
          have hre2 := hre.below hb9
          have hc2 := below_on hc hb9
          have hre9 := hre2.cells9
          have hrf := fun i => hre2.free i
          clear hb9 hp9
          go_wp2_with fail
          refine bodyPost_ret (v := .tuple #[.agg #[.int .i64 0, .int .i64 0, .int .i64 0, .int .i64 0, .int .i64 0, .int .i64 0, .int .i64 0, .int .i64 0, .slice none 0 0], .int .i64 30]) (by simp [results, Try.results11, go_sem, *]) rfl ⟨none, 0, 0, by rw [HP.out, HE.out], by rw [HX2.out]; exact Rd.nil _ _, ?_⟩
          clear hre hre2 hre9 hrf
          repeat (first | with_reducible refine Below.setCell ?_ (by simp) _ | with_reducible exact hc2)
        · have HXW : Hid (∀ x ∈ pl, (Lit.int .u8 x).wf = true) := Lib.hid (fun x hx => HWF.out x (by rw [Hpl.out] at hx; exact List.mem_of_mem_drop hx))
          have HEQ : Hid (hs ++ pl = bs) := Lib.hid (by rw [Hhs.out, Hpl.out]; exact List.take_append_drop 36 bs)
          have HCK := Lib.hid hck
          go_wp2_with fail
          refine (rencode_yes _ _ _ _ _ _ _ _ _ _ _ pl _ hpl hck).mono ?_
          rintro e w9 ⟨v, rfl, hown, hb9⟩
          obtain ⟨E, d, rfl, hE⟩ := hown.rd (encL_ok _ _ HXW.out)
          have hre2 := hre.below hb9
          have hc2 := below_on hc hb9
          have hp2 := hp.below hb9
          have q1 := conv_any hE
          have q2 := conv_any (hbs.below hb9)
          have hpl2 := hpl.below hb9
          have hre9 := hre2.cells9
          have hrf := fun i => hre2.free i
          clear hb9 hp9 hown hE hre hc hp hpl hbs hck
          have hp9 := hp2.cells9
          generalize hle : (encL ⟨x3, x4, x5, x6, x7, cn, sq, pu⟩ pl).length = le at *
          clear hle
          by_cases hz : gN hs 30 2 = 0
          · have HE : Hid (decE hs pl = 0) := Lib.hid (by unfold decE; rw [if_pos ⟨HM.out, by rw [← Hst.out, Hst3.out, HLP.out]⟩, if_pos (by rw [← Ham.out, ← Hsm.out]; exact Hsm2.out), if_pos ⟨hz, by rw [HH.out, ← HPN.out]; exact HCK.out⟩])
            obtain ⟨hP, hX⟩ := dec_ok HE.out
            rw [HH.out] at hP
            have HP := Lib.hid hP
            have HX2 := Lib.hid hX
            have e0 := enc_dec hs pl HLH.out HHO.out HM.out (by rw [← Hst.out, Hst3.out, HLP.out]) (by rw [← Ham.out, ← Hsm.out]; exact Hsm2.out) hz (by rw [HH.out, ← HPN.out]; exact HCK.out)
            rw [HH.out, HEQ.out] at e0
            rw [e0] at q1
            clear hP hX e0 hz
            generalize strOfNums bs = sb at *
            go_wp2_with fail
            refine bodyPost_ret (v := .tuple #[.agg #[.int .i64 x3, .int .i64 x4, .int .i64 x5, .int .i64 x6, .int .i64 x7, .int .i64 cn, .int .i64 sq, .int .i64 pu, .slice (cutA (some ⟨g, o, none⟩) c 36) (n - 36) (c - 36)], .int .i64 0]) (by simp [results, Try.results11, go_sem, *]) rfl ⟨_, _, _, by rw [HP.out, HE.out], ?_, ?_⟩
            · rw [HX2.out]
              have hA := HPB.out
              clear hre2 hre9 hrf hp2 hp9 q1 q2 hc2
              repeat (first | with_reducible refine rd_set ?_ hA | with_reducible exact hpl2)
            · clear hre2 hre9 hrf hp2 hp9 q1 q2 hpl2
              repeat (first | with_reducible refine Below.setCell ?_ (by simp) _ | with_reducible exact hc2)
          · have HE : Hid (decE hs pl = 30) := Lib.hid (by unfold decE; rw [if_pos ⟨HM.out, by rw [← Hst.out, Hst3.out, HLP.out]⟩, if_pos (by rw [← Ham.out, ← Hsm.out]; exact Hsm2.out), if_neg (fun h => hz h.1)])
            obtain ⟨hP, hX⟩ := dec_err HE.out (by decide)
            have HP := Lib.hid hP
            have HX2 := Lib.hid hX
            clear hP hX
            have hne : ((strOfNums (encL ⟨x3, x4, x5, x6, x7, cn, sq, pu⟩ pl)).toList != (strOfNums bs).toList) = true := by
              rw [bne_iff_ne]
              intro he
              have := strInj _ _ (okB_of (encL_ok _ _ HXW.out)) HOK.out he
              rw [← HEQ.out] at this
              exact enc_nodec hs pl HLH.out HHO.out hz _ this
            have hne2 : ((strOfNums (encL ⟨x3, x4, x5, x6, x7, cn, sq, pu⟩ pl)).toList == (strOfNums bs).toList) = false := by simpa using hne
            clear hz
            generalize strOfNums bs = sb at *
            generalize strOfNums (encL ⟨x3, x4, x5, x6, x7, cn, sq, pu⟩ pl) = se at *
            go_wp2_with fail
            refine bodyPost_ret (v := .tuple #[.agg #[.int .i64 0, .int .i64 0, .int .i64 0, .int .i64 0, .int .i64 0, .int .i64 0, .int .i64 0, .int .i64 0, .slice none 0 0], .int .i64 30]) (by simp [results, Try.results11, go_sem, *]) rfl ⟨none, 0, 0, by rw [HP.out, HE.out], by rw [HX2.out]; exact Rd.nil _ _, ?_⟩
            clear hre2 hre9 hrf hp2 hp9 q1 q2 hpl2 hne hne2
            repeat (first | with_reducible refine Below.setCell ?_ (by simp) _ | with_reducible exact hc2)
    · have hsm' : (sm != am) = true := by simpa using hsm
      have HE : Hid (decE hs pl = 31) := Lib.hid (by unfold decE; rw [if_pos ⟨HM.out, by rw [← Hst.out, Hst3.out, HLP.out]⟩, if_neg (by rw [← Ham.out, ← Hsm.out]; exact hsm)])
      obtain ⟨hP, hX⟩ := dec_err HE.out (by decide)
      have HP := Lib.hid hP
      have HX2 := Lib.hid hX
      clear hP hX
      go_wp2_with fail
      refine bodyPost_ret (v := .tuple #[.agg #[.int .i64 0, .int .i64 0, .int .i64 0, .int .i64 0, .int .i64 0, .int .i64 0, .int .i64 0, .int .i64 0, .slice none 0 0], .int .i64 31]) (by simp [results, Try.results11, go_sem, *]) rfl ⟨none, 0, 0, by rw [HP.out, HE.out], by rw [HX2.out]; exact Rd.nil _ _, ?_⟩
      clear hre5' hre9 hrf
      repeat (first | with_reducible refine Below.setCell ?_ (by simp) _ | with_reducible exact hc5')
  · have hst' : (st != (n : Int) - 36) = true := by simpa using hst
    have HE : Hid (decE hs pl = 30) := Lib.hid (by unfold decE; rw [if_neg (fun h => hst (by rw [Hst.out, h.2, HLP.out]))])
    obtain ⟨hP, hX⟩ := dec_err HE.out (by decide)
    have HP := Lib.hid hP
    have HX2 := Lib.hid hX
    clear hP hX
    go_wp2_with fail
    refine bodyPost_ret (v := .tuple #[.agg #[.int .i64 0, .int .i64 0, .int .i64 0, .int .i64 0, .int .i64 0, .int .i64 0, .int .i64 0, .int .i64 0, .slice none 0 0], .int .i64 30]) (by simp [results, Try.results11, go_sem, *]) rfl ⟨none, 0, 0, by rw [HP.out, HE.out], by rw [HX2.out]; exact Rd.nil _ _, ?_⟩
    clear hre1 hre9 hrf
    repeat (first | with_reducible refine Below.setCell ?_ (by simp) _ | with_reducible exact hc1)
end Go.Proofs.Ytochbcemobkegaa
