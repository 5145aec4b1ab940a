/- A counter increased; counters made. -/
import Derived.Test.YtdepbdmnkkkjlaaDoorN3
set_option linter.unusedSimpArgs false
set_option linter.unusedVariables false
set_option maxRecDepth 100000
namespace Go.Proofs.YtdepbdmnkkkjlaaDoor
open Go.RowKit Go.Shelf Go.Maps
section
variable {w w' : World} {P : Program} {t ty : TypeId} {op o : Oper} {ops : Array Oper} {rest : List Oper} {a : Act} {K : Act → World → Prop} {Q : Exit → Act → World → Prop} {b g : Nat} {m : List Cn} {s : Nm} {n : Int}
theorem exec_lookup {m x : Operand} {c : Bool} {mv kv v : Value} (ho : op.op = .lookup t m x c) (hm : a.eval m = mv) (hx : a.eval x = kv) (h : (Instr.lookup t mv kv c).run P w = .ok v w) : (execOp a.eval op).run P w = .ok (.value v) w := by
  unfold execOp
  simp only [ho, hm, hx, Sem.run_bind, Sem.run_pure, h, Result.andThen_ok]
theorem opwp_store_to (hg : o.guard = none) (mo x v : Operand) (hop : o.op = Op.mapUpdate 60 mo x v) (hmo : a.eval mo = .map (some b)) (h : MpN w b m) (hm : Srt m) (hl : m.length < maxLen) (hx : a.eval x = str s) (hs : s.length ≤ maxLen) (hv : a.eval v = num n) (h0 : 0 ≤ n) (h1 : n ≤ Most)
    (hK : ∀ w', MpN w' b (put m s n) → St (· = b) w w' → K (a.put o.dst undef) w') : if Region.wanted o (yielded ops a.tmps) = true then Oper.wp Tryd.prog o a w K Q else K (a.put o.dst undef) w := by
  obtain ⟨w', hrun, r1, r2⟩ := store_to h hm hl hs h0 h1
  rw [if_pos (by simp only [Region.wanted, hg])]
  unfold Oper.wp
  simp [execOp, hop, hmo, hx, hv, hrun, Result.andThen]
  exact hK w' r1 r2
theorem wpList_store_to (hg : o.guard = none) (mo x v : Operand) (hop : o.op = Op.mapUpdate 60 mo x v) (hmo : a.eval mo = .map (some b)) (h : MpN w b m) (hm : Srt m) (hl : m.length < maxLen) (hx : a.eval x = str s) (hs : s.length ≤ maxLen) (hv : a.eval v = num n) (h0 : 0 ≤ n) (h1 : n ≤ Most)
    (hK : ∀ w', MpN w' b (put m s n) → St (· = b) w w' → wpList Tryd.prog ops Q rest (a.put o.dst undef) w') : wpList Tryd.prog ops Q (o :: rest) a w := by
  refine wpList_plain hg fun K' hK' => ?_
  obtain ⟨w', hrun, r1, r2⟩ := store_to h hm hl hs h0 h1
  unfold Oper.wp
  simp [execOp, hop, hmo, hx, hv, hrun, Result.andThen]
  exact hK' _ _ (hK w' r1 r2)
end
section
variable {w w' : World} {g b : Nat} {m : List Cn} {s : Nm} {n : Int}
theorem Did.of_below (h : CtC w g b m) (hb : Below w.heap.size w w') : Did w g b m w' := ⟨h.below hb, St.ext hb⟩
theorem Did.same (h : CtC w g b m) : Did w g b m w := ⟨h, St.refl _ _⟩
theorem CtC.put (h : CtC w g b m) {m' : List Cn} (hm : MpN w' b m') (hs : St (· = b) w w') (ok : Ok m') : CtC w' g b m' := ⟨h.bk.st hs h.ne, hm, ok⟩
set_option maxHeartbeats 2000000 in
theorem c_add (h : CtC w g b m) (hs : s.length ≤ maxLen) (hn : n ≤ 9223372036854775807) : Calls Tryd.prog 13 #[.pointer (some ⟨g, 0, none⟩), str s, num n] w fun e w' => e = .returned (num (add m s n).2) ∧ Did w g b (add m s n).1 w' := by
  have HM := Lib.hid (c_made h)
  have HN := Lib.hid (f_name s hs w)
  have H := Lib.hid h
  by_cases hg : good s = true
  · rw [hg] at HN
    by_cases h0 : n < 0
    · have HA : Hid (add m s n = (m, 1)) := Lib.hid (by unfold add; rw [if_pos (.inr h0)])
      clear h
      go_enter Tryd.func13, Tryd.ntmps13
      go_wp2_with (first
        | (go_at_call 33; refine HM.out.mono ?_; rintro e w' ⟨rfl, rfl⟩)
        | (go_at_call 30; refine HN.out.mono ?_; rintro e w1 ⟨rfl, hb1⟩))
      go_ret
      rw [HA.out]
      exact ⟨rfl, Did.of_below H.out hb1⟩
    · have h0' : 0 ≤ n := by omega
      clear h0
      have HH : ∀ w1, Below w.heap.size w w1 → Calls Tryd.prog 34 #[.pointer (some ⟨g, 0, none⟩), str s] w1 fun e w' => e = .returned (.bool (look m s).isSome) ∧ w1 = w' := fun w1 hb => c_has (H.out.below hb) hs
      by_cases hr : look m s = none ∧ 256 ≤ m.length
      · have HA : Hid (add m s n = (m, 3)) := Lib.hid (by unfold add; rw [if_neg (by simp [hg]; omega), if_pos hr])
        have hlook : (look m s).isSome = false := by rw [hr.1]; rfl
        have hlen : (256 : Int) ≤ (m.length : Int) := by have := hr.2; omega
        have HL := Lib.hid (fun (w1 : World) (hb : Below w.heap.size w w1) (ty : TypeId) => map_len (H.out.below hb).mp ty)
        have HC := Lib.hid (fun (w1 : World) (hb : Below w.heap.size w w1) => (H.out.below hb).bk.cell 0 rfl)
        have HHH := Lib.hid HH
        clear h hr HH
        go_enter Tryd.func13, Tryd.ntmps13
        go_wp2_with (first
          | (go_at_call 33; refine HM.out.mono ?_; rintro e w' ⟨rfl, rfl⟩)
          | (go_at_call 30; refine HN.out.mono ?_; rintro e w1 ⟨rfl, hb1⟩; have hl1 := HL.out w1 hb1; have c1 := HC.out w1 hb1)
          | (go_at_call 34; refine (HHH.out w1 hb1).mono ?_; rintro e w' ⟨rfl, rfl⟩; rw [hlook]))
        go_ret
        rw [HA.out]
        exact ⟨rfl, Did.of_below H.out hb1⟩
      · have hr' : look m s ≠ none ∨ m.length < 256 := by
          by_cases hl : look m s = none
          · exact .inr (by have : ¬ 256 ≤ m.length := fun e => hr ⟨hl, e⟩; omega)
          · exact .inl hl
        have HA := Lib.hid (add_ok hg h0' hr')
        have HG := Lib.hid (h.ok.get_le s)
        have HS := Lib.hid (h.ok.sum_le s h0')
        have HO : Hid (Ok (put m s (sum (get m s) n))) := Lib.hid (h.ok.put_of hg HS.out.1 HS.out.2 hr')
        have HL := Lib.hid (fun (w1 : World) (hb : Below w.heap.size w w1) (ty : TypeId) => map_len (H.out.below hb).mp ty)
        have HC := Lib.hid (fun (w1 : World) (hb : Below w.heap.size w w1) => (H.out.below hb).bk.cell 0 rfl)
        have hlt : Hid (m.length < maxLen) := Lib.hid (by have := h.ok.len; unfold maxLen; omega)
        have HHH := Lib.hid HH
        clear hr HH
        cases hl : look m s with
        | some v =>
          have hlook : (look m s).isSome = true := by rw [hl]; rfl
          clear h hr' hl
          go_enter Tryd.func13, Tryd.ntmps13
          go_wp2_with (first
            | (go_at_call 33; refine HM.out.mono ?_; rintro e w' ⟨rfl, rfl⟩)
            | (go_at_call 30; refine HN.out.mono ?_; rintro e w1 ⟨rfl, hb1⟩; have hl1 := HL.out w1 hb1; have c1 := HC.out w1 hb1)
            | (go_at_call 34; refine (HHH.out w1 hb1).mono ?_; rintro e w' ⟨rfl, rfl⟩; rw [hlook]))
          clear hl1 c1 hlook
          refine wp_region_L Ext [13] (by kernel_rfl) (fun wd hbd hsz => ?_)
          have HW := Lib.hid (below_on hb1 hbd)
          have q0 : ∀ W, Ext wd W → W.cell? ⟨g, 0, none⟩ = some (.map (some b)) := fun W hW => HC.out W (below_on HW.out hW)
          clear hsz
          (refine takeL Ext.tr 0 (by simp only [List.getElem?_toArray, List.getElem?_cons_succ, List.getElem?_cons_zero]; rfl) (by kernel_rfl) (by kernel_rfl) (by kernel_rfl) (by kernel_rfl) (by exact fun _ _ _ h => h) (by first | (refine Or.inl ⟨by rfl, ?_⟩; intro W hW; go_simp; try with_reducible rfl) | exact Or.inr ⟨by rfl, rfl⟩) ?_; try simp only [Act.put, List.setIfInBounds_toArray, List.set_cons_zero, List.set_cons_succ])
          (refine takeL Ext.tr 4 (by simp only [List.getElem?_toArray, List.getElem?_cons_succ, List.getElem?_cons_zero]; rfl) (by kernel_rfl) (by kernel_rfl) (by kernel_rfl) (by kernel_rfl) (by exact fun _ _ _ h => h) (by first | (refine Or.inl ⟨by rfl, ?_⟩; intro W hW; go_simp; try with_reducible rfl) | exact Or.inr ⟨by rfl, rfl⟩) ?_; try simp only [Act.put, List.setIfInBounds_toArray, List.set_cons_zero, List.set_cons_succ])
          (refine takeL Ext.tr 5 (by simp only [List.getElem?_toArray, List.getElem?_cons_succ, List.getElem?_cons_zero]; rfl) (by kernel_rfl) (by kernel_rfl) (by kernel_rfl) (by kernel_rfl) (by exact fun _ _ _ h => h) (by first | (refine Or.inl ⟨by rfl, ?_⟩; intro W hW; go_simp; try with_reducible rfl) | exact Or.inr ⟨by rfl, rfl⟩) ?_; try simp only [Act.put, List.setIfInBounds_toArray, List.set_cons_zero, List.set_cons_succ])
          (refine takeL Ext.tr 9 (by simp only [List.getElem?_toArray, List.getElem?_cons_succ, List.getElem?_cons_zero]; rfl) (by kernel_rfl) (by kernel_rfl) (by kernel_rfl) (by kernel_rfl) (by exact fun _ _ _ h => h) (by first | (refine Or.inl ⟨by rfl, ?_⟩; intro W hW; go_simp; try with_reducible rfl) | exact Or.inr ⟨by rfl, rfl⟩) ?_; try simp only [Act.put, List.setIfInBounds_toArray, List.set_cons_zero, List.set_cons_succ])
          (refine takeL Ext.tr 11 (by simp only [List.getElem?_toArray, List.getElem?_cons_succ, List.getElem?_cons_zero]; rfl) (by kernel_rfl) (by kernel_rfl) (by kernel_rfl) (by kernel_rfl) (by exact fun _ _ _ h => h) (by first | (refine Or.inl ⟨by rfl, ?_⟩; intro W hW; go_simp; try with_reducible rfl) | exact Or.inr ⟨by rfl, rfl⟩) ?_; try simp only [Act.put, List.setIfInBounds_toArray, List.set_cons_zero, List.set_cons_succ])
          (refine takeL Ext.tr 1 (by simp only [List.getElem?_toArray, List.getElem?_cons_succ, List.getElem?_cons_zero]; rfl) (by kernel_rfl) (by kernel_rfl) (by kernel_rfl) (by kernel_rfl) (by exact fun _ _ _ h => h) (by first | (refine Or.inl ⟨by rfl, ?_⟩; intro W hW; go_simp; try with_reducible rfl) | exact Or.inr ⟨by rfl, rfl⟩) ?_; try simp only [Act.put, List.setIfInBounds_toArray, List.set_cons_zero, List.set_cons_succ])
          (refine takeL Ext.tr 6 (by simp only [List.getElem?_toArray, List.getElem?_cons_succ, List.getElem?_cons_zero]; rfl) (by kernel_rfl) (by kernel_rfl) (by kernel_rfl) (by kernel_rfl) (by exact fun _ _ _ h => h) (by first | (refine Or.inl ⟨by rfl, ?_⟩; intro W hW; go_simp; try with_reducible rfl) | exact Or.inr ⟨by rfl, rfl⟩) ?_; try simp only [Act.put, List.setIfInBounds_toArray, List.set_cons_zero, List.set_cons_succ])
          (refine takeL Ext.tr 2 (by simp only [List.getElem?_toArray, List.getElem?_cons_succ, List.getElem?_cons_zero]; rfl) (by kernel_rfl) (by kernel_rfl) (by kernel_rfl) (by kernel_rfl) (by exact fun _ _ _ h => h) (by first | (refine Or.inl ⟨by rfl, ?_⟩; intro W hW; go_simp; try with_reducible rfl) | exact Or.inr ⟨by rfl, rfl⟩) ?_; try simp only [Act.put, List.setIfInBounds_toArray, List.set_cons_zero, List.set_cons_succ])
          (refine takeL Ext.tr 7 (by simp only [List.getElem?_toArray, List.getElem?_cons_succ, List.getElem?_cons_zero]; rfl) (by kernel_rfl) (by kernel_rfl) (by kernel_rfl) (by kernel_rfl) (by exact fun _ _ _ h => h) (by first | (refine Or.inl ⟨by rfl, ?_⟩; intro W hW; go_simp; try with_reducible rfl) | exact Or.inr ⟨by rfl, rfl⟩) ?_; try simp only [Act.put, List.setIfInBounds_toArray, List.set_cons_zero, List.set_cons_succ])
          (refine takeL Ext.tr 3 (by simp only [List.getElem?_toArray, List.getElem?_cons_succ, List.getElem?_cons_zero]; rfl) (by kernel_rfl) (by kernel_rfl) (by kernel_rfl) (by kernel_rfl) (by exact fun _ _ _ h => h) (by first | (refine Or.inl ⟨by rfl, ?_⟩; intro W hW; go_simp; try with_reducible rfl) | exact Or.inr ⟨by rfl, rfl⟩) ?_; try simp only [Act.put, List.setIfInBounds_toArray, List.set_cons_zero, List.set_cons_succ])
          (refine takeL Ext.tr 8 (by simp only [List.getElem?_toArray, List.getElem?_cons_succ, List.getElem?_cons_zero]; rfl) (by kernel_rfl) (by kernel_rfl) (by kernel_rfl) (by kernel_rfl) (by exact fun _ _ _ h => h) (by first | (refine Or.inl ⟨by rfl, ?_⟩; intro W hW; go_simp; try with_reducible rfl) | exact Or.inr ⟨by rfl, rfl⟩) ?_; try simp only [Act.put, List.setIfInBounds_toArray, List.set_cons_zero, List.set_cons_succ])
          (refine takeL Ext.tr 10 (by simp only [List.getElem?_toArray, List.getElem?_cons_succ, List.getElem?_cons_zero]; rfl) (by kernel_rfl) (by kernel_rfl) (by kernel_rfl) (by kernel_rfl) (by exact fun _ _ _ h => h) (by first | (refine Or.inl ⟨by rfl, ?_⟩; intro W hW; exact exec_lookup rfl rfl rfl (look_at (H.out.below (below_on HW.out hW)).mp hs)) | exact Or.inr ⟨by rfl, rfl⟩) ?_; try simp only [Act.put, List.setIfInBounds_toArray, List.set_cons_zero, List.set_cons_succ])
          refine wpAnyL_one (i := 12) (by kernel_rfl) (by simp only [List.getElem?_toArray, List.getElem?_cons_succ, List.getElem?_cons_zero]; rfl) (fun K hK => ?_)
          go_simp
          refine (f_sum HG.out.1 HG.out.2 h0' hn _).mono ?_
          rintro en w2 ⟨rfl, rfl⟩
          refine hK.out _ _ (.inr (Ext.refl _)) ?_
          clear hK K
          try simp only [Act.put, List.setIfInBounds_toArray, List.set_cons_zero, List.set_cons_succ]
          refine wpAnyL_one (i := 13) (by kernel_rfl) (by simp only [List.getElem?_toArray, List.getElem?_cons_succ, List.getElem?_cons_zero]; rfl) (fun K hK => ?_)
          refine opwp_store_to rfl (.tmp 32) (.tmp 33) (.tmp 41) rfl rfl (H.out.below HW.out).mp H.out.ok.srt hlt.out rfl hs rfl HS.out.1 HS.out.2 ?_
          intro w9 hm9 hs9
          have HD : Hid (Did w g b (put m s (sum (get m s) n)) w9) := Lib.hid ⟨(H.out.below HW.out).put hm9 hs9 HO.out, (St.ext (F := (· = b)) HW.out).trans hs9 (Gr.refl _ _)⟩
          clear hm9 hs9
          refine hK.out _ _ (.inl (by decide)) ?_
          clear hK K
          try simp only [Act.put, List.setIfInBounds_toArray, List.set_cons_zero, List.set_cons_succ]
          refine wpAnyL_done (by kernel_rfl) ?_ _
          clear q0
          go_wp2
          go_ret
          rw [HA.out]
          exact ⟨rfl, HD.out⟩
        | none =>
          have hlook : (look m s).isSome = false := by rw [hl]; rfl
          have hlen : (m.length : Int) < 256 := by
            rcases hr' with h1 | h1
            · exact absurd hl h1
            · omega
          clear h hr' hl
          go_enter Tryd.func13, Tryd.ntmps13
          go_wp2_with (first
            | (go_at_call 33; refine HM.out.mono ?_; rintro e w' ⟨rfl, rfl⟩)
            | (go_at_call 30; refine HN.out.mono ?_; rintro e w1 ⟨rfl, hb1⟩; have hl1 := HL.out w1 hb1; have c1 := HC.out w1 hb1)
            | (go_at_call 34; refine (HHH.out w1 hb1).mono ?_; rintro e w' ⟨rfl, rfl⟩; rw [hlook]))
          clear hl1 c1 hlook
          refine wp_region_L Ext [13] (by kernel_rfl) (fun wd hbd hsz => ?_)
          have HW := Lib.hid (below_on hb1 hbd)
          have q0 : ∀ W, Ext wd W → W.cell? ⟨g, 0, none⟩ = some (.map (some b)) := fun W hW => HC.out W (below_on HW.out hW)
          clear hsz
          (refine takeL Ext.tr 0 (by simp only [List.getElem?_toArray, List.getElem?_cons_succ, List.getElem?_cons_zero]; rfl) (by kernel_rfl) (by kernel_rfl) (by kernel_rfl) (by kernel_rfl) (by exact fun _ _ _ h => h) (by first | (refine Or.inl ⟨by rfl, ?_⟩; intro W hW; go_simp; try with_reducible rfl) | exact Or.inr ⟨by rfl, rfl⟩) ?_; try simp only [Act.put, List.setIfInBounds_toArray, List.set_cons_zero, List.set_cons_succ])
          (refine takeL Ext.tr 4 (by simp only [List.getElem?_toArray, List.getElem?_cons_succ, List.getElem?_cons_zero]; rfl) (by kernel_rfl) (by kernel_rfl) (by kernel_rfl) (by kernel_rfl) (by exact fun _ _ _ h => h) (by first | (refine Or.inl ⟨by rfl, ?_⟩; intro W hW; go_simp; try with_reducible rfl) | exact Or.inr ⟨by rfl, rfl⟩) ?_; try simp only [Act.put, List.setIfInBounds_toArray, List.set_cons_zero, List.set_cons_succ])
          (refine takeL Ext.tr 5 (by simp only [List.getElem?_toArray, List.getElem?_cons_succ, List.getElem?_cons_zero]; rfl) (by kernel_rfl) (by kernel_rfl) (by kernel_rfl) (by kernel_rfl) (by exact fun _ _ _ h => h) (by first | (refine Or.inl ⟨by rfl, ?_⟩; intro W hW; go_simp; try with_reducible rfl) | exact Or.inr ⟨by rfl, rfl⟩) ?_; try simp only [Act.put, List.setIfInBounds_toArray, List.set_cons_zero, List.set_cons_succ])
          (refine takeL Ext.tr 9 (by simp only [List.getElem?_toArray, List.getElem?_cons_succ, List.getElem?_cons_zero]; rfl) (by kernel_rfl) (by kernel_rfl) (by kernel_rfl) (by kernel_rfl) (by exact fun _ _ _ h => h) (by first | (refine Or.inl ⟨by rfl, ?_⟩; intro W hW; go_simp; try with_reducible rfl) | exact Or.inr ⟨by rfl, rfl⟩) ?_; try simp only [Act.put, List.setIfInBounds_toArray, List.set_cons_zero, List.set_cons_succ])
          (refine takeL Ext.tr 11 (by simp only [List.getElem?_toArray, List.getElem?_cons_succ, List.getElem?_cons_zero]; rfl) (by kernel_rfl) (by kernel_rfl) (by kernel_rfl) (by kernel_rfl) (by exact fun _ _ _ h => h) (by first | (refine Or.inl ⟨by rfl, ?_⟩; intro W hW; go_simp; try with_reducible rfl) | exact Or.inr ⟨by rfl, rfl⟩) ?_; try simp only [Act.put, List.setIfInBounds_toArray, List.set_cons_zero, List.set_cons_succ])
          (refine takeL Ext.tr 1 (by simp only [List.getElem?_toArray, List.getElem?_cons_succ, List.getElem?_cons_zero]; rfl) (by kernel_rfl) (by kernel_rfl) (by kernel_rfl) (by kernel_rfl) (by exact fun _ _ _ h => h) (by first | (refine Or.inl ⟨by rfl, ?_⟩; intro W hW; go_simp; try with_reducible rfl) | exact Or.inr ⟨by rfl, rfl⟩) ?_; try simp only [Act.put, List.setIfInBounds_toArray, List.set_cons_zero, List.set_cons_succ])
          (refine takeL Ext.tr 6 (by simp only [List.getElem?_toArray, List.getElem?_cons_succ, List.getElem?_cons_zero]; rfl) (by kernel_rfl) (by kernel_rfl) (by kernel_rfl) (by kernel_rfl) (by exact fun _ _ _ h => h) (by first | (refine Or.inl ⟨by rfl, ?_⟩; intro W hW; go_simp; try with_reducible rfl) | exact Or.inr ⟨by rfl, rfl⟩) ?_; try simp only [Act.put, List.setIfInBounds_toArray, List.set_cons_zero, List.set_cons_succ])
          (refine takeL Ext.tr 2 (by simp only [List.getElem?_toArray, List.getElem?_cons_succ, List.getElem?_cons_zero]; rfl) (by kernel_rfl) (by kernel_rfl) (by kernel_rfl) (by kernel_rfl) (by exact fun _ _ _ h => h) (by first | (refine Or.inl ⟨by rfl, ?_⟩; intro W hW; go_simp; try with_reducible rfl) | exact Or.inr ⟨by rfl, rfl⟩) ?_; try simp only [Act.put, List.setIfInBounds_toArray, List.set_cons_zero, List.set_cons_succ])
          (refine takeL Ext.tr 7 (by simp only [List.getElem?_toArray, List.getElem?_cons_succ, List.getElem?_cons_zero]; rfl) (by kernel_rfl) (by kernel_rfl) (by kernel_rfl) (by kernel_rfl) (by exact fun _ _ _ h => h) (by first | (refine Or.inl ⟨by rfl, ?_⟩; intro W hW; go_simp; try with_reducible rfl) | exact Or.inr ⟨by rfl, rfl⟩) ?_; try simp only [Act.put, List.setIfInBounds_toArray, List.set_cons_zero, List.set_cons_succ])
          (refine takeL Ext.tr 3 (by simp only [List.getElem?_toArray, List.getElem?_cons_succ, List.getElem?_cons_zero]; rfl) (by kernel_rfl) (by kernel_rfl) (by kernel_rfl) (by kernel_rfl) (by exact fun _ _ _ h => h) (by first | (refine Or.inl ⟨by rfl, ?_⟩; intro W hW; go_simp; try with_reducible rfl) | exact Or.inr ⟨by rfl, rfl⟩) ?_; try simp only [Act.put, List.setIfInBounds_toArray, List.set_cons_zero, List.set_cons_succ])
          (refine takeL Ext.tr 8 (by simp only [List.getElem?_toArray, List.getElem?_cons_succ, List.getElem?_cons_zero]; rfl) (by kernel_rfl) (by kernel_rfl) (by kernel_rfl) (by kernel_rfl) (by exact fun _ _ _ h => h) (by first | (refine Or.inl ⟨by rfl, ?_⟩; intro W hW; go_simp; try with_reducible rfl) | exact Or.inr ⟨by rfl, rfl⟩) ?_; try simp only [Act.put, List.setIfInBounds_toArray, List.set_cons_zero, List.set_cons_succ])
          (refine takeL Ext.tr 10 (by simp only [List.getElem?_toArray, List.getElem?_cons_succ, List.getElem?_cons_zero]; rfl) (by kernel_rfl) (by kernel_rfl) (by kernel_rfl) (by kernel_rfl) (by exact fun _ _ _ h => h) (by first | (refine Or.inl ⟨by rfl, ?_⟩; intro W hW; exact exec_lookup rfl rfl rfl (look_at (H.out.below (below_on HW.out hW)).mp hs)) | exact Or.inr ⟨by rfl, rfl⟩) ?_; try simp only [Act.put, List.setIfInBounds_toArray, List.set_cons_zero, List.set_cons_succ])
          refine wpAnyL_one (i := 12) (by kernel_rfl) (by simp only [List.getElem?_toArray, List.getElem?_cons_succ, List.getElem?_cons_zero]; rfl) (fun K hK => ?_)
          go_simp
          refine (f_sum HG.out.1 HG.out.2 h0' hn _).mono ?_
          rintro en w2 ⟨rfl, rfl⟩
          refine hK.out _ _ (.inr (Ext.refl _)) ?_
          clear hK K
          try simp only [Act.put, List.setIfInBounds_toArray, List.set_cons_zero, List.set_cons_succ]
          refine wpAnyL_one (i := 13) (by kernel_rfl) (by simp only [List.getElem?_toArray, List.getElem?_cons_succ, List.getElem?_cons_zero]; rfl) (fun K hK => ?_)
          refine opwp_store_to rfl (.tmp 32) (.tmp 33) (.tmp 41) rfl rfl (H.out.below HW.out).mp H.out.ok.srt hlt.out rfl hs rfl HS.out.1 HS.out.2 ?_
          intro w9 hm9 hs9
          have HD : Hid (Did w g b (put m s (sum (get m s) n)) w9) := Lib.hid ⟨(H.out.below HW.out).put hm9 hs9 HO.out, (St.ext (F := (· = b)) HW.out).trans hs9 (Gr.refl _ _)⟩
          clear hm9 hs9
          refine hK.out _ _ (.inl (by decide)) ?_
          clear hK K
          try simp only [Act.put, List.setIfInBounds_toArray, List.set_cons_zero, List.set_cons_succ]
          refine wpAnyL_done (by kernel_rfl) ?_ _
          clear q0
          go_wp2
          go_ret
          rw [HA.out]
          exact ⟨rfl, HD.out⟩
  · have hg' : good s = false := by simpa using hg
    have HA : Hid (add m s n = (m, 1)) := Lib.hid (by unfold add; rw [if_pos (.inl hg')])
    rw [hg'] at HN
    clear h hg hg'
    go_enter Tryd.func13, Tryd.ntmps13
    go_wp2_with (first
      | (go_at_call 33; refine HM.out.mono ?_; rintro e w' ⟨rfl, rfl⟩)
      | (go_at_call 30; refine HN.out.mono ?_; rintro e w1 ⟨rfl, hb1⟩))
    go_ret
    rw [HA.out]
    exact ⟨rfl, Did.of_below H.out hb1⟩
end
end Go.Proofs.YtdepbdmnkkkjlaaDoor
