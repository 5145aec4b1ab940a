/- A key is made known. -/
import Derived.Test.YtdldocbfnjbhmaaKM
set_option linter.unusedSimpArgs false
set_option linter.unusedVariables false
set_option maxRecDepth 100000
namespace Go.Proofs.Ytdldocbfnjbhmaa
open Go.RowKit Go.Shelf
section
variable {w : World} {ops : Array Oper} {o : Oper} {a : Act} {K : Act → World → Prop} {Q : Exit → Act → World → Prop} {b : Nat} {L : List Kn} {k : Ky} {i : Nat} {x : Kn}
theorem opwp_build_row {P : Program} {t e : TypeId} {zs : List Value} {bytes : Nat} (E : EltS P t e zs bytes) (hgd : o.guard = none) (s : Operand)
    (ho : o.op = .buildSlice t 1 #[(0, s)]) {xs : List Value} (hs : a.eval s = .agg xs.toArray) (hx : xs.length = zs.length)
    (hq : K (a.put o.dst (.slice (some ⟨w.heap.size, 0, none⟩) 1 1)) (w.alloc (.cells xs.toArray e))) : if Region.wanted o (yielded ops a.tmps) = true then Oper.wp P o a w K Q else K (a.put o.dst undef) w := by
  have hr := E.build_one hx w
  rw [if_pos (by simp only [Region.wanted, hgd])]
  unfold Oper.wp execOp
  simp only [ho, List.map_toArray, List.map_cons, List.map_nil, hs, Sem.run_bind, Sem.run_pure, hr, Result.andThen_ok]
  exact hq
theorem opwp_store_new (hg : o.guard = none) (m x v : Operand) (hop : o.op = Op.mapUpdate 65 m x v) (hm : a.eval m = .map (some b)) (h : MpB w b L) (k : Ky) (hx : a.eval x = .agg #[.int .i64 k.s, .int .i64 k.c]) (hl : Lacks L k) (y : Kn) (hy : y.k = k) (hv : a.eval v = .agg #[.int .i64 y.g, .int .i64 y.p, .int .i64 y.i])
    (hK : ∀ w', MpB w' b (L ++ [y]) → St (· = b) w w' → K (a.put o.dst undef) w') : if Region.wanted o (yielded ops a.tmps) = true then Oper.wp Try.prog o a w K Q else K (a.put o.dst undef) w := by
  obtain ⟨w', hrun, r1, r2⟩ := store_new h hl hy
  rw [if_pos (by simp only [Region.wanted, hg])]
  unfold Oper.wp
  simp [execOp, hop, hm, hx, hv, hrun, Result.andThen]
  exact hK w' r1 r2
theorem opwp_store_old (hg : o.guard = none) (m x v : Operand) (hop : o.op = Op.mapUpdate 65 m x v) (hm : a.eval m = .map (some b)) (h : MpB w b L) (k : Ky) (hx : a.eval x = .agg #[.int .i64 k.s, .int .i64 k.c]) {x0 : Kn} (hl : Got L k i x0) (y : Kn) (hy : y.k = k) (hv : a.eval v = .agg #[.int .i64 y.g, .int .i64 y.p, .int .i64 y.i])
    (hK : ∀ w', MpB w' b (L.set i y) → St (· = b) w w' → K (a.put o.dst undef) w') : if Region.wanted o (yielded ops a.tmps) = true then Oper.wp Try.prog o a w K Q else K (a.put o.dst undef) w := by
  obtain ⟨w', hrun, r1, r2⟩ := store_old h hl hy
  rw [if_pos (by simp only [Region.wanted, hg])]
  unfold Oper.wp
  simp [execOp, hop, hm, hx, hv, hrun, Result.andThen]
  exact hK w' r1 r2
theorem opwp_drop_old (hg : o.guard = none) (m x : Operand) (hop : o.op = Op.call { callee := Callee.builtin Builtin.delete, args := #[m, x], argTypes := #[65, 39] }) (hm : a.eval m = .map (some b)) (h : MpB w b L) (k : Ky) (hx : a.eval x = .agg #[.int .i64 k.s, .int .i64 k.c]) {x0 : Kn} (hl : Got L k i x0)
    (hK : ∀ w', MpB w' b (L.eraseIdx i) → St (· = b) w w' → K (a.put o.dst (.tuple #[])) w') : if Region.wanted o (yielded ops a.tmps) = true then Oper.wp Try.prog o a w K Q else K (a.put o.dst undef) w := by
  obtain ⟨w', hrun, r1, r2⟩ := drop_old h hl o.type
  rw [if_pos (by simp only [Region.wanted, hg])]
  unfold Oper.wp
  simp [execOp, hop, resolve, invoke, builtin, hm, hx, hrun, Result.andThen]
  exact hK w' r1 r2
end
section
variable {F : Nat → Prop} {w w' : World} {p b p0 p1 : Nat} {m : Pm} {P : Option Addr}
set_option maxHeartbeats 4000000 in
theorem p_know (h : PcA F w p m) (k : Ky) (g : Int) : Calls Try.prog 24 #[.pointer (some ⟨p, 0, none⟩), .agg #[.int .i64 k.s, .int .i64 k.c], .int .i64 g] w fun e w' => e = .returned (.int .i64 (m.knowR k g).2) ∧ DidP F p (m.knowR k g).1 w w' := by
  obtain ⟨W, hW⟩ : ∃ W, W = w.alloc (.cells #[.int .i64 k.s, .int .i64 k.c] 39) := ⟨_, rfl⟩
  have hb1 : Below w.heap.size w W := by rw [hW]; exact (Below.refl _ w).alloc (Nat.le_refl _) _
  have z1 : Bk W 39 w.heap.size k.cl := by rw [hW]; exact Bk.new w 39 k.cl
  have HM := Lib.hid (p_made (h.below hb1))
  have HV := Lib.hid (k_valid k W)
  have HA := Lib.hid (And.intro h (And.intro hb1 z1))
  have HKR := Lib.hid (show m.knowR k g = if validB k = true ∧ (g = 0 ∨ g = 1) then (if isIn m.L k = true then (m, 180) else if m.most ≤ m.L.length then (m, 3) else (m.know k g, 0)) else (m, 1) from rfl)
  have hsW : W.heap.size = w.heap.size + 1 := by rw [hW]; simp
  have HSW := Lib.hid hsW
  clear hb1 z1 h hsW
  generalize m.knowR k g = R at *
  by_cases hv : validB k = true
  · rw [hv] at HV
    by_cases hg : g = 0 ∨ g = 1
    · have hif : validB k = true ∧ (g = 0 ∨ g = 1) := ⟨hv, hg⟩
      rw [if_pos hif] at HKR
      clear hif hv
      have HG := Lib.hid hg
      have HF : Hid (∀ w2, Below W.heap.size W w2 → Calls Try.prog 34 #[.pointer (some ⟨p, 0, none⟩), .agg #[.int .i64 k.s, .int .i64 k.c]] w2 fun e w' => e = .returned (.tuple #[.agg #[.int .i64 ((ofKey m.L k)).g, .int .i64 ((ofKey m.L k)).p, .int .i64 ((ofKey m.L k)).i], .bool (isIn m.L k)]) ∧ Below w2.heap.size w2 w') := Lib.hid fun w2 hb => p_find (HA.out.1.below (HA.out.2.1.trans (hb.mono HA.out.2.1.size))) k
      generalize ofKey m.L k = x at *
      by_cases hin : isIn m.L k = true
      · rw [hin] at HF
        rw [if_pos hin] at HKR
        have HR2 : Hid (R = (m, 180)) := HKR
        clear hin HKR
        rcases hg with rfl | rfl
        all_goals
          go_enter Try.func24, Try.ntmps24
          go_wp2_with fail
          rw [← hW]
          have cK0 : W.cell? ⟨w.heap.size, 0, none⟩ = some (.int .i64 k.s) := HA.out.2.2.cell 0 rfl
          have cK1 : W.cell? ⟨w.heap.size, 1, none⟩ = some (.int .i64 k.c) := HA.out.2.2.cell 1 rfl
          clear hW
          refine HM.out.mono ?_
          rintro e w' ⟨rfl, rfl⟩
          go_wp2_with fail
          refine HV.out.mono ?_
          rintro e w2 ⟨rfl, hb2⟩
          have dK0 : w2.cell? ⟨w.heap.size, 0, none⟩ = some (.int .i64 k.s) := (HA.out.2.2.below hb2).cell 0 rfl
          have dK1 : w2.cell? ⟨w.heap.size, 1, none⟩ = some (.int .i64 k.c) := (HA.out.2.2.below hb2).cell 1 rfl
          clear cK0 cK1
          have HB2 := Lib.hid hb2
          clear hb2
          go_wp2_with fail
          refine (HF.out _ HB2.out).mono ?_
          rintro e w3 ⟨rfl, hb3⟩
          have HZ3 := Lib.hid (HA.out.2.2.below (HB2.out.trans (hb3.mono HB2.out.size)))
          have HBE := Lib.hid (HA.out.2.1.trans ((HB2.out.trans (hb3.mono HB2.out.size)).mono HA.out.2.1.size))
          clear hb3 dK0 dK1
          go_wp2
          go_ret
          rw [HR2.out]
          exact ⟨rfl, DidP.same HA.out.1 (HBE.out.alloc HBE.out.size _)⟩
      · have HL : Hid (Lacks m.L k) := Lib.hid (by
          rcases got_or m.L k with ⟨i, y, hgt⟩ | hl
          · exact absurd (of_got hgt).2 hin
          · exact hl)
        rw [show isIn m.L k = false from by simpa using hin] at HF
        rw [if_neg hin] at HKR
        clear hin
        by_cases hfull : m.most ≤ m.L.length
        · have HR2 : Hid (R = (m, 3)) := Lib.hid (by rw [HKR.out, if_pos hfull])
          have hf2 : (m.most : Int) ≤ m.L.length := by omega
          clear HKR hfull
          rcases hg with rfl | rfl
          all_goals
            go_enter Try.func24, Try.ntmps24
            go_wp2_with fail
            rw [← hW]
            have cK0 : W.cell? ⟨w.heap.size, 0, none⟩ = some (.int .i64 k.s) := HA.out.2.2.cell 0 rfl
            have cK1 : W.cell? ⟨w.heap.size, 1, none⟩ = some (.int .i64 k.c) := HA.out.2.2.cell 1 rfl
            clear hW
            refine HM.out.mono ?_
            rintro e w' ⟨rfl, rfl⟩
            go_wp2_with fail
            refine HV.out.mono ?_
            rintro e w2 ⟨rfl, hb2⟩
            have dK0 : w2.cell? ⟨w.heap.size, 0, none⟩ = some (.int .i64 k.s) := (HA.out.2.2.below hb2).cell 0 rfl
            have dK1 : w2.cell? ⟨w.heap.size, 1, none⟩ = some (.int .i64 k.c) := (HA.out.2.2.below hb2).cell 1 rfl
            clear cK0 cK1
            have HB2 := Lib.hid hb2
            clear hb2
            go_wp2_with fail
            refine (HF.out _ HB2.out).mono ?_
            rintro e w3 ⟨rfl, hb3⟩
            have HZ3 := Lib.hid (HA.out.2.2.below (HB2.out.trans (hb3.mono HB2.out.size)))
            have HBE := Lib.hid (HA.out.2.1.trans ((HB2.out.trans (hb3.mono HB2.out.size)).mono HA.out.2.1.size))
            clear hb3 dK0 dK1
            go_wp2_with fail
            refine wp_region_E Ext (by kernel_rfl) (fun wd hbd hsz => ?_)
            have hb4 := HBE.out.trans ((Below.refl _ w3).alloc HBE.out.size (.cells #[.int .i64 x.g, .int .i64 x.p, .int .i64 x.i] 76))
            have HB4 := Lib.hid (hb4.trans (hbd.mono hb4.size))
            clear hb4
            have HZ4 := Lib.hid ((HZ3.out.below ((Below.refl _ w3).alloc (Nat.le_refl _) (.cells #[.int .i64 x.g, .int .i64 x.p, .int .i64 x.i] 76))).below hbd)
            have q0 : ∀ V, Ext wd V → V.cell? ⟨p, 0, none⟩ = some (.int .i64 m.most) := fun V hV => by
              obtain ⟨_, _, _, _, _, hx⟩ := (HA.out.1.below HB4.out).below hV
              exact hx.bk.cell 0 rfl
            clear hsz
            (refine takeE Ext.tr 0 (by simp only [List.getElem?_toArray, List.getElem?_cons_succ, List.getElem?_cons_zero]; rfl) (by kernel_rfl) (by kernel_rfl) (by kernel_rfl) (by exact fun _ _ _ h => h) (by first | (refine Or.inl ⟨by rfl, ?_⟩; intro W hW; go_simp; try with_reducible rfl) | exact Or.inr ⟨by rfl, rfl⟩) ?_; try simp only [Act.put, List.setIfInBounds_toArray, List.set_cons_zero, List.set_cons_succ])
            (refine takeE Ext.tr 2 (by simp only [List.getElem?_toArray, List.getElem?_cons_succ, List.getElem?_cons_zero]; rfl) (by kernel_rfl) (by kernel_rfl) (by kernel_rfl) (by exact fun _ _ _ h => h) (by first | (refine Or.inl ⟨by rfl, ?_⟩; intro W hW; go_simp; try with_reducible rfl) | exact Or.inr ⟨by rfl, rfl⟩) ?_; try simp only [Act.put, List.setIfInBounds_toArray, List.set_cons_zero, List.set_cons_succ])
            (refine takeE Ext.tr 3 (by simp only [List.getElem?_toArray, List.getElem?_cons_succ, List.getElem?_cons_zero]; rfl) (by kernel_rfl) (by kernel_rfl) (by kernel_rfl) (by exact fun _ _ _ h => h) (by first | (refine Or.inl ⟨by rfl, ?_⟩; intro W hW; go_simp; try with_reducible rfl) | exact Or.inr ⟨by rfl, rfl⟩) ?_; try simp only [Act.put, List.setIfInBounds_toArray, List.set_cons_zero, List.set_cons_succ])
            (refine takeE Ext.tr 4 (by simp only [List.getElem?_toArray, List.getElem?_cons_succ, List.getElem?_cons_zero]; rfl) (by kernel_rfl) (by kernel_rfl) (by kernel_rfl) (by exact fun _ _ _ h => h) (by first | (refine Or.inl ⟨by rfl, ?_⟩; intro W hW; go_simp; try with_reducible rfl) | exact Or.inr ⟨by rfl, rfl⟩) ?_; try simp only [Act.put, List.setIfInBounds_toArray, List.set_cons_zero, List.set_cons_succ])
            (refine takeE Ext.tr 5 (by simp only [List.getElem?_toArray, List.getElem?_cons_succ, List.getElem?_cons_zero]; rfl) (by kernel_rfl) (by kernel_rfl) (by kernel_rfl) (by exact fun _ _ _ h => h) (by first | (refine Or.inl ⟨by rfl, ?_⟩; intro W hW; go_simp; try with_reducible rfl) | exact Or.inr ⟨by rfl, rfl⟩) ?_; try simp only [Act.put, List.setIfInBounds_toArray, List.set_cons_zero, List.set_cons_succ])
            refine wpAnyE_one (i := 1) (by kernel_rfl) (by simp only [List.getElem?_toArray, List.getElem?_cons_succ, List.getElem?_cons_zero]; rfl) (fun K hK => ?_)
            go_simp
            refine (p_len (HA.out.1.below HB4.out)).mono ?_
            rintro en v1 ⟨rfl, rfl⟩
            refine hK.out _ _ (Ext.refl _) ?_
            clear hK K
            try simp only [Act.put, List.setIfInBounds_toArray, List.set_cons_zero, List.set_cons_succ]
            (refine takeE Ext.tr 6 (by simp only [List.getElem?_toArray, List.getElem?_cons_succ, List.getElem?_cons_zero]; rfl) (by kernel_rfl) (by kernel_rfl) (by kernel_rfl) (by exact fun _ _ _ h => h) (by first | (refine Or.inl ⟨by rfl, ?_⟩; intro W hW; go_simp; try with_reducible rfl) | exact Or.inr ⟨by rfl, rfl⟩) ?_; try simp only [Act.put, List.setIfInBounds_toArray, List.set_cons_zero, List.set_cons_succ])
            refine wpAnyE_done (by kernel_rfl) ?_ _
            clear q0
            go_wp2
            go_ret
            rw [HR2.out]
            exact ⟨rfl, DidP.same HA.out.1 HB4.out⟩
        · have HR2 : Hid (R = (m.know k g, 0)) := Lib.hid (by rw [HKR.out, if_neg hfull])
          have hf2 : (m.L.length : Int) < m.most := by omega
          clear HKR hfull
          rcases hg with rfl | rfl
          all_goals
            go_enter Try.func24, Try.ntmps24
            go_wp2_with fail
            rw [← hW]
            have cK0 : W.cell? ⟨w.heap.size, 0, none⟩ = some (.int .i64 k.s) := HA.out.2.2.cell 0 rfl
            have cK1 : W.cell? ⟨w.heap.size, 1, none⟩ = some (.int .i64 k.c) := HA.out.2.2.cell 1 rfl
            clear hW
            refine HM.out.mono ?_
            rintro e w' ⟨rfl, rfl⟩
            go_wp2_with fail
            refine HV.out.mono ?_
            rintro e w2 ⟨rfl, hb2⟩
            have dK0 : w2.cell? ⟨w.heap.size, 0, none⟩ = some (.int .i64 k.s) := (HA.out.2.2.below hb2).cell 0 rfl
            have dK1 : w2.cell? ⟨w.heap.size, 1, none⟩ = some (.int .i64 k.c) := (HA.out.2.2.below hb2).cell 1 rfl
            clear cK0 cK1
            have HB2 := Lib.hid hb2
            clear hb2
            go_wp2_with fail
            refine (HF.out _ HB2.out).mono ?_
            rintro e w3 ⟨rfl, hb3⟩
            have HZ3 := Lib.hid (HA.out.2.2.below (HB2.out.trans (hb3.mono HB2.out.size)))
            have HBE := Lib.hid (HA.out.2.1.trans ((HB2.out.trans (hb3.mono HB2.out.size)).mono HA.out.2.1.size))
            clear hb3 dK0 dK1
            go_wp2_with fail
            refine wp_region_E Ext (by kernel_rfl) (fun wd hbd hsz => ?_)
            have hb4 := HBE.out.trans ((Below.refl _ w3).alloc HBE.out.size (.cells #[.int .i64 x.g, .int .i64 x.p, .int .i64 x.i] 76))
            have HB4 := Lib.hid (hb4.trans (hbd.mono hb4.size))
            clear hb4
            have HZ4 := Lib.hid ((HZ3.out.below ((Below.refl _ w3).alloc (Nat.le_refl _) (.cells #[.int .i64 x.g, .int .i64 x.p, .int .i64 x.i] 76))).below hbd)
            have q0 : ∀ V, Ext wd V → V.cell? ⟨p, 0, none⟩ = some (.int .i64 m.most) := fun V hV => by
              obtain ⟨_, _, _, _, _, hx⟩ := (HA.out.1.below HB4.out).below hV
              exact hx.bk.cell 0 rfl
            clear hsz
            (refine takeE Ext.tr 0 (by simp only [List.getElem?_toArray, List.getElem?_cons_succ, List.getElem?_cons_zero]; rfl) (by kernel_rfl) (by kernel_rfl) (by kernel_rfl) (by exact fun _ _ _ h => h) (by first | (refine Or.inl ⟨by rfl, ?_⟩; intro W hW; go_simp; try with_reducible rfl) | exact Or.inr ⟨by rfl, rfl⟩) ?_; try simp only [Act.put, List.setIfInBounds_toArray, List.set_cons_zero, List.set_cons_succ])
            (refine takeE Ext.tr 2 (by simp only [List.getElem?_toArray, List.getElem?_cons_succ, List.getElem?_cons_zero]; rfl) (by kernel_rfl) (by kernel_rfl) (by kernel_rfl) (by exact fun _ _ _ h => h) (by first | (refine Or.inl ⟨by rfl, ?_⟩; intro W hW; go_simp; try with_reducible rfl) | exact Or.inr ⟨by rfl, rfl⟩) ?_; try simp only [Act.put, List.setIfInBounds_toArray, List.set_cons_zero, List.set_cons_succ])
            (refine takeE Ext.tr 3 (by simp only [List.getElem?_toArray, List.getElem?_cons_succ, List.getElem?_cons_zero]; rfl) (by kernel_rfl) (by kernel_rfl) (by kernel_rfl) (by exact fun _ _ _ h => h) (by first | (refine Or.inl ⟨by rfl, ?_⟩; intro W hW; go_simp; try with_reducible rfl) | exact Or.inr ⟨by rfl, rfl⟩) ?_; try simp only [Act.put, List.setIfInBounds_toArray, List.set_cons_zero, List.set_cons_succ])
            (refine takeE Ext.tr 4 (by simp only [List.getElem?_toArray, List.getElem?_cons_succ, List.getElem?_cons_zero]; rfl) (by kernel_rfl) (by kernel_rfl) (by kernel_rfl) (by exact fun _ _ _ h => h) (by first | (refine Or.inl ⟨by rfl, ?_⟩; intro W hW; go_simp; try with_reducible rfl) | exact Or.inr ⟨by rfl, rfl⟩) ?_; try simp only [Act.put, List.setIfInBounds_toArray, List.set_cons_zero, List.set_cons_succ])
            (refine takeE Ext.tr 5 (by simp only [List.getElem?_toArray, List.getElem?_cons_succ, List.getElem?_cons_zero]; rfl) (by kernel_rfl) (by kernel_rfl) (by kernel_rfl) (by exact fun _ _ _ h => h) (by first | (refine Or.inl ⟨by rfl, ?_⟩; intro W hW; go_simp; try with_reducible rfl) | exact Or.inr ⟨by rfl, rfl⟩) ?_; try simp only [Act.put, List.setIfInBounds_toArray, List.set_cons_zero, List.set_cons_succ])
            refine wpAnyE_one (i := 1) (by kernel_rfl) (by simp only [List.getElem?_toArray, List.getElem?_cons_succ, List.getElem?_cons_zero]; rfl) (fun K hK => ?_)
            go_simp
            refine (p_len (HA.out.1.below HB4.out)).mono ?_
            rintro en v1 ⟨rfl, rfl⟩
            refine hK.out _ _ (Ext.refl _) ?_
            clear hK K
            try simp only [Act.put, List.setIfInBounds_toArray, List.set_cons_zero, List.set_cons_succ]
            (refine takeE Ext.tr 6 (by simp only [List.getElem?_toArray, List.getElem?_cons_succ, List.getElem?_cons_zero]; rfl) (by kernel_rfl) (by kernel_rfl) (by kernel_rfl) (by exact fun _ _ _ h => h) (by first | (refine Or.inl ⟨by rfl, ?_⟩; intro W hW; go_simp; try with_reducible rfl) | exact Or.inr ⟨by rfl, rfl⟩) ?_; try simp only [Act.put, List.setIfInBounds_toArray, List.set_cons_zero, List.set_cons_succ])
            refine wpAnyE_done (by kernel_rfl) ?_ _
            clear q0
            go_wp2_with fail
            obtain ⟨b, p0, p1, F0, F1, hx⟩ := HA.out.1.below HB4.out
            refine wp_region_E (St (· = b)) (by kernel_rfl) (fun wd hbd hsz => ?_)
            have HB5 := Lib.hid (HB4.out.trans (hbd.mono HB4.out.size))
            have HX := Lib.hid (hx.below hbd)
            have HZ5 := Lib.hid (HZ4.out.below hbd)
            have hpb := hx.ne
            have hwF : w.heap.size ≠ b := fun e => by
              have := (HA.out.1).bd b hx.fb
              omega
            have q1 : ∀ V, St (· = b) wd V → V.cell? ⟨p, 1, none⟩ = some (.map (some b)) := fun V hV => (HX.out.bk.st hV hpb).cell 1 rfl
            clear hsz hx
            (refine takeE (St.tr (· = b)) 0 (by simp only [List.getElem?_toArray, List.getElem?_cons_succ, List.getElem?_cons_zero]; rfl) (by kernel_rfl) (by kernel_rfl) (by kernel_rfl) (by exact fun _ _ _ h => h) (by first | (refine Or.inl ⟨by rfl, ?_⟩; intro W hW; go_simp; try with_reducible rfl) | exact Or.inr ⟨by rfl, rfl⟩) ?_; try simp only [Act.put, List.setIfInBounds_toArray, List.set_cons_zero, List.set_cons_succ])
            (refine takeE (St.tr (· = b)) 4 (by simp only [List.getElem?_toArray, List.getElem?_cons_succ, List.getElem?_cons_zero]; rfl) (by kernel_rfl) (by kernel_rfl) (by kernel_rfl) (by exact fun _ _ _ h => h) (by first | (refine Or.inl ⟨by rfl, ?_⟩; intro W hW; exact exec_loadK rowK (.tmp 4) rfl w.heap.size 0 rfl k (rangeK (HZ5.out.st hW hwF))) | exact Or.inr ⟨by rfl, rfl⟩) ?_; try simp only [Act.put, List.setIfInBounds_toArray, List.set_cons_zero, List.set_cons_succ])
            (refine takeE (St.tr (· = b)) 5 (by simp only [List.getElem?_toArray, List.getElem?_cons_succ, List.getElem?_cons_zero]; rfl) (by kernel_rfl) (by kernel_rfl) (by kernel_rfl) (by exact fun _ _ _ h => h) (by first | (refine Or.inl ⟨by rfl, ?_⟩; intro W hW; go_simp; try with_reducible rfl) | exact Or.inr ⟨by rfl, rfl⟩) ?_; try simp only [Act.put, List.setIfInBounds_toArray, List.set_cons_zero, List.set_cons_succ])
            (refine takeE (St.tr (· = b)) 1 (by simp only [List.getElem?_toArray, List.getElem?_cons_succ, List.getElem?_cons_zero]; rfl) (by kernel_rfl) (by kernel_rfl) (by kernel_rfl) (by exact fun _ _ _ h => h) (by first | (refine Or.inl ⟨by rfl, ?_⟩; intro W hW; go_simp; try with_reducible rfl) | exact Or.inr ⟨by rfl, rfl⟩) ?_; try simp only [Act.put, List.setIfInBounds_toArray, List.set_cons_zero, List.set_cons_succ])
            (refine takeE (St.tr (· = b)) 6 (by simp only [List.getElem?_toArray, List.getElem?_cons_succ, List.getElem?_cons_zero]; rfl) (by kernel_rfl) (by kernel_rfl) (by kernel_rfl) (by exact fun _ _ _ h => h) (by first | (refine Or.inl ⟨by rfl, ?_⟩; intro W hW; go_simp; try with_reducible rfl) | exact Or.inr ⟨by rfl, rfl⟩) ?_; try simp only [Act.put, List.setIfInBounds_toArray, List.set_cons_zero, List.set_cons_succ])
            (refine takeE (St.tr (· = b)) 2 (by simp only [List.getElem?_toArray, List.getElem?_cons_succ, List.getElem?_cons_zero]; rfl) (by kernel_rfl) (by kernel_rfl) (by kernel_rfl) (by exact fun _ _ _ h => h) (by first | (refine Or.inl ⟨by rfl, ?_⟩; intro W hW; go_simp; try with_reducible rfl) | exact Or.inr ⟨by rfl, rfl⟩) ?_; try simp only [Act.put, List.setIfInBounds_toArray, List.set_cons_zero, List.set_cons_succ])
            (refine takeE (St.tr (· = b)) 3 (by simp only [List.getElem?_toArray, List.getElem?_cons_succ, List.getElem?_cons_zero]; rfl) (by kernel_rfl) (by kernel_rfl) (by kernel_rfl) (by exact fun _ _ _ h => h) (by first | (refine Or.inl ⟨by rfl, ?_⟩; intro W hW; go_simp; try with_reducible rfl) | exact Or.inr ⟨by rfl, rfl⟩) ?_; try simp only [Act.put, List.setIfInBounds_toArray, List.set_cons_zero, List.set_cons_succ])
            refine wpAnyE_one (i := 7) (by kernel_rfl) (by simp only [List.getElem?_toArray, List.getElem?_cons_succ, List.getElem?_cons_zero]; rfl) (fun K hK => ?_)
            refine opwp_store_new rfl (.tmp 40) (.tmp 41) (.tmp 43) rfl rfl HX.out.mp k rfl HL.out ⟨k, _, 0, 0⟩ rfl rfl ?_
            intro w5 hm5 hs5
            have hpx := HX.out.map hm5 hs5
            have HD := Lib.hid (DidP.after HB5.out ⟨F, ⟨b, p0, p1, F0, F1, hpx.1⟩, hpx.2, Gr.refl _ _⟩)
            have HS5 := Lib.hid hs5
            clear hm5 hs5 hpx
            refine hK.out _ _ HS5.out ?_
            clear hK K
            try simp only [Act.put, List.setIfInBounds_toArray, List.set_cons_zero, List.set_cons_succ]
            refine wpAnyE_done (by kernel_rfl) ?_ _
            clear q1
            go_wp2
            go_ret
            rw [HR2.out]
            exact ⟨rfl, HD.out⟩
    · have HR2 : Hid (R = (m, 1)) := Lib.hid (by rw [HKR.out, if_neg (fun e => hg e.2)])
      have hg0 : ¬ g = 0 := by omega
      have hg0' : (g != 0) = true := by simp; omega
      have hg1' : (g != 1) = true := by simp; omega
      clear HKR hg hv
      go_enter Try.func24, Try.ntmps24
      go_wp2_with fail
      rw [← hW]
      have cK0 : W.cell? ⟨w.heap.size, 0, none⟩ = some (.int .i64 k.s) := HA.out.2.2.cell 0 rfl
      have cK1 : W.cell? ⟨w.heap.size, 1, none⟩ = some (.int .i64 k.c) := HA.out.2.2.cell 1 rfl
      clear hW
      refine HM.out.mono ?_
      rintro e w' ⟨rfl, rfl⟩
      go_wp2_with fail
      refine HV.out.mono ?_
      rintro e w2 ⟨rfl, hb2⟩
      go_wp2
      go_ret
      rw [HR2.out]
      exact ⟨rfl, DidP.same HA.out.1 (HA.out.2.1.trans (hb2.mono HA.out.2.1.size))⟩
  · have HR2 : Hid (R = (m, 1)) := Lib.hid (by rw [HKR.out, if_neg (fun e => hv e.1)])
    rw [show validB k = false from by simpa using hv] at HV
    clear HKR hv
    go_enter Try.func24, Try.ntmps24
    go_wp2_with fail
    rw [← hW]
    have cK0 : W.cell? ⟨w.heap.size, 0, none⟩ = some (.int .i64 k.s) := HA.out.2.2.cell 0 rfl
    have cK1 : W.cell? ⟨w.heap.size, 1, none⟩ = some (.int .i64 k.c) := HA.out.2.2.cell 1 rfl
    clear hW
    refine HM.out.mono ?_
    rintro e w' ⟨rfl, rfl⟩
    go_wp2_with fail
    refine HV.out.mono ?_
    rintro e w2 ⟨rfl, hb2⟩
    go_wp2
    go_ret
    rw [HR2.out]
    exact ⟨rfl, DidP.same HA.out.1 (HA.out.2.1.trans (hb2.mono HA.out.2.1.size))⟩
end
end Go.Proofs.Ytdldocbfnjbhmaa
