/- The document's pacer: made; a key made known; pulls owed. -/
import Derived.Test.YtdldocbfnjbhmaaK16
set_option linter.unusedSimpArgs false
set_option linter.unusedVariables false
set_option maxRecDepth 100000
namespace Go.Proofs.Ytdldocbfnjbhmaa
open Go.RowKit Go.Shelf
def rv0 : Rv := ⟨none, 0, 0, none, 0, 0, none, 0, 0⟩
theorem below_st2 {B : Nat} {w w1 : World} (hB : B ≤ w.heap.size) (h : Below B w w1) : Below B w w1 := h
theorem rp_new (X : Nat → Prop) (w : World) (most : Nat) : RpR X w rv0 (Pm.new most) := ⟨LkN.nil X w, LkK.nil X w, LkK.nil X w⟩
theorem r_new (most : Nat) (w : World) (h1 : 1 ≤ most) (h2 : most ≤ 512) : Calls Try.prog 9 #[.int .i64 most] w fun e w' =>
    e = .returned (.tuple #[.agg #[.slice none 0 0, .slice none 0 0, .slice none 0 0, .int .i64 most, .int .i64 0, .int .i64 0], .int .i64 0]) ∧ Below w.heap.size w w' := by
  have h1' : ¬ (most : Int) < 1 := by omega
  have h2' : (most : Int) ≤ 512 := by omega
  have z := Bk.new w 30 [.slice none 0 0, .slice none 0 0, .slice none 0 0, .int .i64 0, .int .i64 0, .int .i64 0]
  clear h1 h2
  go_enter Try.func9, Try.ntmps9
  go_wp2_with (first
    | (with_reducible refine at_store 30 (.tmp 2) (.tmp 12) (by rfl) ?_; refine wpList_store_bk rowR rfl (.tmp 2) (.tmp 12) rfl w.heap.size 0 rfl z [.slice none 0 0, .slice none 0 0, .slice none 0 0, .int .i64 most, .int .i64 0, .int .i64 0] rfl rfl (by decide) (by simp [Value.oneCell']) ?_; intro w5 hz6 hw5))
  rw [lay_all _ _ (by rfl)] at hz6
  refine bodyPost_ret (results_cell_tmp rfl rfl (rowR.load hz6 0 (cs := [.slice none 0 0, .slice none 0 0, .slice none 0 0, .int .i64 most, .int .i64 0, .int .i64 0]) rfl rfl)) rfl ⟨rfl, ?_⟩
  exact ((Below.refl _ w).alloc (Nat.le_refl _) _).trans (hw5.below (Nat.le_refl _) (by simp))
theorem r_new_no (most : Int) (w : World) (h : most < 1 ∨ 512 < most) : Calls Try.prog 9 #[.int .i64 most] w fun e w' =>
    e = .returned (.tuple #[.agg #[.slice none 0 0, .slice none 0 0, .slice none 0 0, .int .i64 0, .int .i64 0, .int .i64 0], .int .i64 180]) ∧ Below w.heap.size w w' := by
  have z := Bk.new w 30 [.slice none 0 0, .slice none 0 0, .slice none 0 0, .int .i64 0, .int .i64 0, .int .i64 0]
  rcases (by omega : most < 1 ∨ (1 ≤ most ∧ 512 < most)) with h1 | ⟨h1, h2⟩
  all_goals
    clear h
    go_enter Try.func9, Try.ntmps9
    go_wp2_with (first
      | (with_reducible refine at_store 30 (.tmp 2) (.tmp 10) (by rfl) ?_; refine wpList_store_bk rowR rfl (.tmp 2) (.tmp 10) rfl w.heap.size 0 rfl z [.slice none 0 0, .slice none 0 0, .slice none 0 0, .int .i64 0, .int .i64 0, .int .i64 0] rfl rfl (by decide) (by simp [Value.oneCell']) ?_; intro w5 hz6 hw5))
    rw [lay_all _ _ (by rfl)] at hz6
    refine bodyPost_ret (results_cell_tmp rfl rfl (rowR.load hz6 0 (cs := [.slice none 0 0, .slice none 0 0, .slice none 0 0, .int .i64 0, .int .i64 0, .int .i64 0]) rfl rfl)) rfl ⟨rfl, ?_⟩
    exact ((Below.refl _ w).alloc (Nat.le_refl _) _).trans (hw5.below (Nat.le_refl _) (by simp))
section
variable {X X' F : Nat → Prop} {w w' : World} {v : Rv} {m : Pm} {k : Ky}
set_option maxHeartbeats 8000000 in
theorem r_know (h : RpR X w v m) (ok : m.Ok) (k : Ky) (g : Int) (hX : ∀ j, w.heap.size ≤ j → X j) : Calls Try.prog 37 #[.agg #[.slice v.A v.n v.c, .slice v.B v.k v.d, .slice v.C v.r v.e, .int .i64 m.most, .int .i64 m.run, .int .i64 m.total], .agg #[.int .i64 k.s, .int .i64 k.c], .int .i64 g] w fun e w' =>
    ∃ v2, e = .returned (.tuple #[.agg #[.slice v2.A v2.n v2.c, .slice v2.B v2.k v2.d, .slice v2.C v2.r v2.e, .int .i64 m.most, .int .i64 m.run, .int .i64 m.total], .int .i64 (m.knowR k g).2]) ∧ RpR X w' v2 (m.knowR k g).1 ∧ Below w.heap.size w w' := by
  obtain ⟨W, hW⟩ : ∃ W, W = ((w.alloc (.cells #[.slice v.A v.n v.c, .slice v.B v.k v.d, .slice v.C v.r v.e, .int .i64 m.most, .int .i64 m.run, .int .i64 m.total] 30)).alloc (.cells #[.int .i64 k.s, .int .i64 k.c] 35)).alloc (.cells #[.slice none 0 0, .slice none 0 0, .slice none 0 0, .int .i64 0, .int .i64 0, .int .i64 0] 30) := ⟨_, rfl⟩
  have hb1 : Below w.heap.size w W := by rw [hW]; exact (((Below.refl _ w).alloc (Nat.le_refl _) _).alloc (by simp) _).alloc (by simp; omega) _
  have hsW : w.heap.size + 1 + 1 + 1 = W.heap.size := by rw [hW]; simp
  have z1 : Bk W 30 w.heap.size ([.slice v.A v.n v.c, .slice v.B v.k v.d, .slice v.C v.r v.e, .int .i64 m.most, .int .i64 m.run, .int .i64 m.total]) := by rw [hW]; exact ((Bk.new w 30 ([.slice v.A v.n v.c, .slice v.B v.k v.d, .slice v.C v.r v.e, .int .i64 m.most, .int .i64 m.run, .int .i64 m.total])).alloc _).alloc _
  have z2 : Bk W 35 (w.heap.size + 1) k.cl := by
    have := (Bk.new (w.alloc (.cells #[.slice v.A v.n v.c, .slice v.B v.k v.d, .slice v.C v.r v.e, .int .i64 m.most, .int .i64 m.run, .int .i64 m.total] 30)) 35 k.cl).alloc (.cells #[.slice none 0 0, .slice none 0 0, .slice none 0 0, .int .i64 0, .int .i64 0, .int .i64 0] 30)
    rw [World.size_alloc] at this
    rw [hW]; exact this
  have z3 : Bk W 30 (w.heap.size + 2) [.slice none 0 0, .slice none 0 0, .slice none 0 0, .int .i64 0, .int .i64 0, .int .i64 0] := by
    have := Bk.new ((w.alloc (.cells #[.slice v.A v.n v.c, .slice v.B v.k v.d, .slice v.C v.r v.e, .int .i64 m.most, .int .i64 m.run, .int .i64 m.total] 30)).alloc (.cells #[.int .i64 k.s, .int .i64 k.c] 35)) 30 [.slice none 0 0, .slice none 0 0, .slice none 0 0, .int .i64 0, .int .i64 0, .int .i64 0]
    simp only [World.size_alloc] at this
    rw [hW]; exact this
  have h' := h.below hb1
  have HA := Lib.hid (And.intro hb1 (And.intro z1 (And.intro z2 (And.intro z3 h'))))
  have HSW := Lib.hid hsW
  have HX := Lib.hid hX
  have HH := Lib.hid h
  clear hsW
  have hvn : v.n ≤ 512 := by have := h.l.1; have := ok.ll; have := ok.mo; omega
  have HV := Lib.hid (r_may k W)
  have HKR := Lib.hid (show m.knowR k g = if validB k = true ∧ (g = 0 ∨ g = 1) then (if isIn m.L k = true then (m, 180) else if m.most ≤ m.L.length then (m, 3) else (m.know k g, 0)) else (m, 1) from rfl)
  have HF : Hid (∀ w2, Below W.heap.size W w2 → Calls Try.prog 41 #[.agg #[.slice v.A v.n v.c, .slice v.B v.k v.d, .slice v.C v.r v.e, .int .i64 m.most, .int .i64 m.run, .int .i64 m.total], .agg #[.int .i64 k.s, .int .i64 k.c]] w2 fun e w' => e = .returned (.int .i64 (ixI m.L k)) ∧ Below w2.heap.size w2 w') := Lib.hid fun w2 hb => r_find (h'.below hb) (by omega) k
  have HVN := Lib.hid h.l.1
  generalize m.knowR k g = R at *
  clear h h' hb1 z1 z2 z3 hX ok
  by_cases hv : validB k = true
  · rw [hv] at HV
    by_cases hg : g = 0 ∨ g = 1
    · have hif : validB k = true ∧ (g = 0 ∨ g = 1) := ⟨hv, hg⟩
      rw [if_pos hif] at HKR
      clear hif hv
      rcases got_or m.L k with ⟨i, x, hgt⟩ | hl
      · rw [ixI_got hgt] at HF
        rw [if_pos (of_got hgt).2] at HKR
        have HR2 : Hid (R = (m, 180)) := HKR
        have hi0 : (0 : Int) ≤ i := by omega
        clear hgt HKR
        rcases hg with rfl | rfl
        all_goals
          go_enter Try.func37, Try.ntmps37
          go_wp2_with fail
          rw [← hW]
          clear hW
          refine HV.out.mono ?_
          rintro e w2 ⟨rfl, hb2⟩
          have zp := HA.out.2.1.below hb2
          have zr := HA.out.2.2.2.1.below hb2
          have dk0 : w2.cell? ⟨w.heap.size + 1, 0, none⟩ = some (.int .i64 k.s) := (HA.out.2.2.1.below hb2).cell 0 rfl
          have dk1 : w2.cell? ⟨w.heap.size + 1, 1, none⟩ = some (.int .i64 k.c) := (HA.out.2.2.1.below hb2).cell 1 rfl
          have HBc := Lib.hid hb2
          clear hb2
          go_wp2_with (first
            | (with_reducible refine at_load 30 (.tmp 3) (by rfl) ?_; refine wpList_load_bk rowR rfl (.tmp 3) rfl w.heap.size 0 rfl zp ([.slice v.A v.n v.c, .slice v.B v.k v.d, .slice v.C v.r v.e, .int .i64 m.most, .int .i64 m.run, .int .i64 m.total]) rfl rfl ?_))
          refine (HF.out _ HBc.out).mono ?_
          rintro e w3 ⟨rfl, hb3⟩
          replace zp := zp.below hb3
          replace zr := zr.below hb3
          have HBd := Lib.hid (HBc.out.trans (hb3.mono HBc.out.size))
          replace HBc := HBd
          have c0 := zp.cell 0 rfl
          have c3 := zp.cell 3 rfl
          have hlt := zp.lt
          clear hb3 dk0 dk1 HBd
          go_wp2_with (first
            | (with_reducible refine at_load 30 (.tmp 3) (by rfl) ?_; refine wpList_load_bk rowR rfl (.tmp 3) rfl w.heap.size 0 rfl zp ([.slice v.A v.n v.c, .slice v.B v.k v.d, .slice v.C v.r v.e, .int .i64 m.most, .int .i64 m.run, .int .i64 m.total]) rfl rfl ?_)
            | (with_reducible refine at_store 30 (.tmp 6) (.tmp 25) (by rfl) ?_; refine wpList_store_bk rowR rfl (.tmp 6) (.tmp 25) rfl (w.heap.size + 2) 0 rfl zr ([.slice v.A v.n v.c, .slice v.B v.k v.d, .slice v.C v.r v.e, .int .i64 m.most, .int .i64 m.run, .int .i64 m.total]) rfl rfl (by decide) (by simp [Value.oneCell']) ?_; intro w5 hz6 hw5))
          rw [lay_all _ _ (by rfl)] at hz6
          have hbX := HA.out.1.trans (HBc.out.mono HA.out.1.size)
          have hbF : Below w.heap.size w _ := hbX.trans (hw5.below (by omega) hbX.size)
          refine bodyPost_ret (results_cell_tmp rfl rfl (rowR.load hz6 0 (cs := [.slice v.A v.n v.c, .slice v.B v.k v.d, .slice v.C v.r v.e, .int .i64 m.most, .int .i64 m.run, .int .i64 m.total]) rfl rfl)) rfl ⟨v, ?_, ?_, hbF⟩
          · rw [HR2.out]; rfl
          · rw [HR2.out]; exact HH.out.below hbF
      · rw [ixI_lacks hl] at HF
        rw [if_neg (by simp [(of_lacks hl).2])] at HKR
        clear hl
        by_cases hfull : m.most ≤ m.L.length
        · have HR2 : Hid (R = (m, 3)) := Lib.hid (by rw [HKR.out, if_pos hfull])
          have hf2 : (m.most : Int) ≤ v.n := by have := HVN.out; omega
          clear HKR hfull
          rcases hg with rfl | rfl
          all_goals
            go_enter Try.func37, Try.ntmps37
            go_wp2_with fail
            rw [← hW]
            clear hW
            refine HV.out.mono ?_
            rintro e w2 ⟨rfl, hb2⟩
            have zp := HA.out.2.1.below hb2
            have zr := HA.out.2.2.2.1.below hb2
            have dk0 : w2.cell? ⟨w.heap.size + 1, 0, none⟩ = some (.int .i64 k.s) := (HA.out.2.2.1.below hb2).cell 0 rfl
            have dk1 : w2.cell? ⟨w.heap.size + 1, 1, none⟩ = some (.int .i64 k.c) := (HA.out.2.2.1.below hb2).cell 1 rfl
            have HBc := Lib.hid hb2
            clear hb2
            go_wp2_with (first
              | (with_reducible refine at_load 30 (.tmp 3) (by rfl) ?_; refine wpList_load_bk rowR rfl (.tmp 3) rfl w.heap.size 0 rfl zp ([.slice v.A v.n v.c, .slice v.B v.k v.d, .slice v.C v.r v.e, .int .i64 m.most, .int .i64 m.run, .int .i64 m.total]) rfl rfl ?_))
            refine (HF.out _ HBc.out).mono ?_
            rintro e w3 ⟨rfl, hb3⟩
            replace zp := zp.below hb3
            replace zr := zr.below hb3
            have HBd := Lib.hid (HBc.out.trans (hb3.mono HBc.out.size))
            replace HBc := HBd
            have c0 := zp.cell 0 rfl
            have c3 := zp.cell 3 rfl
            have hlt := zp.lt
            clear hb3 dk0 dk1 HBd
            go_wp2_with (first
              | (with_reducible refine at_load 30 (.tmp 3) (by rfl) ?_; refine wpList_load_bk rowR rfl (.tmp 3) rfl w.heap.size 0 rfl zp ([.slice v.A v.n v.c, .slice v.B v.k v.d, .slice v.C v.r v.e, .int .i64 m.most, .int .i64 m.run, .int .i64 m.total]) rfl rfl ?_)
              | (with_reducible refine at_store 30 (.tmp 6) (.tmp 32) (by rfl) ?_; refine wpList_store_bk rowR rfl (.tmp 6) (.tmp 32) rfl (w.heap.size + 2) 0 rfl zr ([.slice v.A v.n v.c, .slice v.B v.k v.d, .slice v.C v.r v.e, .int .i64 m.most, .int .i64 m.run, .int .i64 m.total]) rfl rfl (by decide) (by simp [Value.oneCell']) ?_; intro w5 hz6 hw5))
            rw [lay_all _ _ (by rfl)] at hz6
            have hbX := HA.out.1.trans (HBc.out.mono HA.out.1.size)
            have hbF : Below w.heap.size w _ := hbX.trans (hw5.below (by omega) hbX.size)
            refine bodyPost_ret (results_cell_tmp rfl rfl (rowR.load hz6 0 (cs := [.slice v.A v.n v.c, .slice v.B v.k v.d, .slice v.C v.r v.e, .int .i64 m.most, .int .i64 m.run, .int .i64 m.total]) rfl rfl)) rfl ⟨v, ?_, ?_, hbF⟩
            · rw [HR2.out]; rfl
            · rw [HR2.out]; exact HH.out.below hbF
        · have HR2 : Hid (R = (m.know k g, 0)) := Lib.hid (by rw [HKR.out, if_neg hfull])
          have hf2 : (v.n : Int) < m.most := by have := HVN.out; omega
          clear HKR hfull
          rcases hg with rfl | rfl
          · go_enter Try.func37, Try.ntmps37
            go_wp2_with fail
            rw [← hW]
            clear hW
            refine HV.out.mono ?_
            rintro e w2 ⟨rfl, hb2⟩
            have zp := HA.out.2.1.below hb2
            have zr := HA.out.2.2.2.1.below hb2
            have dk0 : w2.cell? ⟨w.heap.size + 1, 0, none⟩ = some (.int .i64 k.s) := (HA.out.2.2.1.below hb2).cell 0 rfl
            have dk1 : w2.cell? ⟨w.heap.size + 1, 1, none⟩ = some (.int .i64 k.c) := (HA.out.2.2.1.below hb2).cell 1 rfl
            have HBc := Lib.hid hb2
            clear hb2
            go_wp2_with (first
              | (with_reducible refine at_load 30 (.tmp 3) (by rfl) ?_; refine wpList_load_bk rowR rfl (.tmp 3) rfl w.heap.size 0 rfl zp ([.slice v.A v.n v.c, .slice v.B v.k v.d, .slice v.C v.r v.e, .int .i64 m.most, .int .i64 m.run, .int .i64 m.total]) rfl rfl ?_))
            refine (HF.out _ HBc.out).mono ?_
            rintro e w3 ⟨rfl, hb3⟩
            replace zp := zp.below hb3
            replace zr := zr.below hb3
            have HBd := Lib.hid (HBc.out.trans (hb3.mono HBc.out.size))
            replace HBc := HBd
            have c0 := zp.cell 0 rfl
            have c3 := zp.cell 3 rfl
            have hlt := zp.lt
            clear hb3 dk0 dk1 HBd
            have dk0 : w3.cell? ⟨w.heap.size + 1, 0, none⟩ = some (.int .i64 k.s) := (HA.out.2.2.1.below HBc.out).cell 0 rfl
            have dk1 : w3.cell? ⟨w.heap.size + 1, 1, none⟩ = some (.int .i64 k.c) := (HA.out.2.2.1.below HBc.out).cell 1 rfl
            have HZ3 := Lib.hid (And.intro zp zr)
            have hla := fresh_lst 5 w3 50
            have hu := (HA.out.2.2.2.2.l.below HBc.out).2.1.alloc (.cells #[] 50)
            have hnn : (0 + v.n) * 40 ≤ 140737488355328 := by omega
            go_wp2_with (first
              | (at_builtin
                 refine wpList_append_lstR eltN rfl (.tmp 33) (.tmp 35) rfl rfl hla rfl hu hnn ?_
                 rintro u w4 hap
                 obtain ⟨A1, n1, c1, rfl, hl1, hb4⟩ := apd_fresh hap
                 replace hl1 : LstR 5 50 (w3.heap.size ≤ ·) w4 A1 n1 c1 ([] ++ flat Kn.cl m.L) := hl1
                 have hn1 : n1 = m.L.length := by have e1 : _ = n1 * 5 := hl1.1; rw [List.nil_append, flat_len Kn.cl_len] at e1; omega
                 have hla2 := (hl1.alloc (.cells (Kn.mk k 0 0 0).cl.toArray 50)).tight
                 have hu2 := RdR.one w4 50 (Kn.mk k 0 0 0).cl (Kn.mk k 0 0 0).cl_one
                 have hnn2 : (n1 + 1) * 40 ≤ 140737488355328 := by have := HVN.out; omega
                 have ek0 : w4.cell? ⟨w.heap.size + 1, 0, none⟩ = some (.int .i64 k.s) := ((HA.out.2.2.1.below HBc.out).below hb4).cell 0 rfl
                 have ek1 : w4.cell? ⟨w.heap.size + 1, 1, none⟩ = some (.int .i64 k.c) := ((HA.out.2.2.1.below HBc.out).below hb4).cell 1 rfl
                 have HB4 := Lib.hid hb4
                 have HL1 := Lib.hid hl1
                 clear hap hl1 hn1 hb4 hla hu hnn dk0 dk1 c0 c3)
              | (refine wpList_build_row eltN rfl (.tmp 40) rfl (xs := (Kn.mk k 0 0 0).cl) rfl rfl ?_)
              | (at_builtin
                 refine wpList_append_lstR eltN rfl (.tmp 37) (.tmp 41) rfl rfl hla2 rfl hu2 hnn2 ?_
                 rintro u w6 hap
                 obtain ⟨A2, n2, c2, rfl, hl2, hb6⟩ := apd_next HL1.out HB4.out.size hap
                 have hb7 := HB4.out.trans hb6
                 replace zp := HZ3.out.1.below hb7
                 replace zr := (HZ3.out.2.below hb7).far (p := ⟨w.heap.size, 0, none⟩) (by simp) (.slice A2 n2 c2)
                 have d0 := zp.cell 0 rfl
                 have f0 := zp.free 0
                 replace zp := zp.set 0 (.slice A2 n2 c2)
                 have HB6 := Lib.hid (HB4.out.trans hb6)
                 have HL2 := Lib.hid hl2
                 clear hap hl2 hb6 hla2 hu2 hnn2 ek0 ek1 hb7)
              | (with_reducible refine at_load 30 (.tmp 3) (by rfl) ?_; refine wpList_load_bk rowR rfl (.tmp 3) rfl w.heap.size 0 rfl zp ([.slice A2 n2 c2, .slice v.B v.k v.d, .slice v.C v.r v.e, .int .i64 m.most, .int .i64 m.run, .int .i64 m.total]) rfl rfl ?_)
              | (with_reducible refine at_store 30 (.tmp 6) (.tmp 44) (by rfl) ?_; refine wpList_store_bk rowR rfl (.tmp 6) (.tmp 44) rfl (w.heap.size + 2) 0 rfl zr ([.slice A2 n2 c2, .slice v.B v.k v.d, .slice v.C v.r v.e, .int .i64 m.most, .int .i64 m.run, .int .i64 m.total]) rfl rfl (by decide) (by simp [Value.oneCell']) ?_; intro w8 hz8 hw8))
            rw [lay_all _ _ (by rfl)] at hz8
            have hsc : Below w.heap.size w (w6.setCell ⟨w.heap.size, 0, none⟩ (.slice A2 n2 c2)) := ((HA.out.1.trans (HBc.out.mono HA.out.1.size)).trans (HB6.out.mono (Nat.le_trans HA.out.1.size HBc.out.size))).setCell (by simp) _
            have hst : St (· = w.heap.size) w6 (w6.setCell ⟨w.heap.size, 0, none⟩ (.slice A2 n2 c2)) := St.setCell (F := (· = w.heap.size)) w6 (a := ⟨w.heap.size, 0, none⟩) rfl _
            have hs5 : St (· = w.heap.size + 2) (w6.setCell ⟨w.heap.size, 0, none⟩ (.slice A2 n2 c2)) w8 := st_wr hw8
            have hz := HSW.out
            have hz2 := HBc.out.size
            have hbF : Below w.heap.size w w8 := hsc.trans (hs5.below hsc.size fun j e => by omega)
            refine bodyPost_ret (results_cell_tmp rfl rfl (rowR.load hz8 0 (cs := [.slice A2 n2 c2, .slice v.B v.k v.d, .slice v.C v.r v.e, .int .i64 m.most, .int .i64 m.run, .int .i64 m.total]) rfl rfl)) rfl ⟨⟨A2, n2, c2, v.B, v.k, v.d, v.C, v.r, v.e⟩, ?_, ?_, hbF⟩
            · rw [HR2.out]; rfl
            · rw [HR2.out]
              refine ⟨?_, HH.out.p.below hbF, HH.out.u.below hbF⟩
              refine LkN.of (Bd := w3.heap.size) (e := 50) ?_ (fun j hj => HX.out j (by omega))
              have := HL2.out.st hst (fun j hj e => by omega) |>.st hs5 (fun j hj e => by omega)
              show LstR 5 _ _ w8 A2 n2 c2 (flat Kn.cl (m.L ++ [Kn.mk k 0 0 0]))
              rwa [List.nil_append, show Kn.cl (Kn.mk k 0 0 0) = flat Kn.cl [Kn.mk k 0 0 0] from (flat_one _).symm, ← flat_app] at this
          · go_enter Try.func37, Try.ntmps37
            go_wp2_with fail
            rw [← hW]
            clear hW
            refine HV.out.mono ?_
            rintro e w2 ⟨rfl, hb2⟩
            have zp := HA.out.2.1.below hb2
            have zr := HA.out.2.2.2.1.below hb2
            have dk0 : w2.cell? ⟨w.heap.size + 1, 0, none⟩ = some (.int .i64 k.s) := (HA.out.2.2.1.below hb2).cell 0 rfl
            have dk1 : w2.cell? ⟨w.heap.size + 1, 1, none⟩ = some (.int .i64 k.c) := (HA.out.2.2.1.below hb2).cell 1 rfl
            have HBc := Lib.hid hb2
            clear hb2
            go_wp2_with (first
              | (with_reducible refine at_load 30 (.tmp 3) (by rfl) ?_; refine wpList_load_bk rowR rfl (.tmp 3) rfl w.heap.size 0 rfl zp ([.slice v.A v.n v.c, .slice v.B v.k v.d, .slice v.C v.r v.e, .int .i64 m.most, .int .i64 m.run, .int .i64 m.total]) rfl rfl ?_))
            refine (HF.out _ HBc.out).mono ?_
            rintro e w3 ⟨rfl, hb3⟩
            replace zp := zp.below hb3
            replace zr := zr.below hb3
            have HBd := Lib.hid (HBc.out.trans (hb3.mono HBc.out.size))
            replace HBc := HBd
            have c0 := zp.cell 0 rfl
            have c3 := zp.cell 3 rfl
            have hlt := zp.lt
            clear hb3 dk0 dk1 HBd
            have dk0 : w3.cell? ⟨w.heap.size + 1, 0, none⟩ = some (.int .i64 k.s) := (HA.out.2.2.1.below HBc.out).cell 0 rfl
            have dk1 : w3.cell? ⟨w.heap.size + 1, 1, none⟩ = some (.int .i64 k.c) := (HA.out.2.2.1.below HBc.out).cell 1 rfl
            have HZ3 := Lib.hid (And.intro zp zr)
            have hla := fresh_lst 5 w3 50
            have hu := (HA.out.2.2.2.2.l.below HBc.out).2.1.alloc (.cells #[] 50)
            have hnn : (0 + v.n) * 40 ≤ 140737488355328 := by omega
            go_wp2_with (first
              | (at_builtin
                 refine wpList_append_lstR eltN rfl (.tmp 33) (.tmp 35) rfl rfl hla rfl hu hnn ?_
                 rintro u w4 hap
                 obtain ⟨A1, n1, c1, rfl, hl1, hb4⟩ := apd_fresh hap
                 replace hl1 : LstR 5 50 (w3.heap.size ≤ ·) w4 A1 n1 c1 ([] ++ flat Kn.cl m.L) := hl1
                 have hn1 : n1 = m.L.length := by have e1 : _ = n1 * 5 := hl1.1; rw [List.nil_append, flat_len Kn.cl_len] at e1; omega
                 have hla2 := (hl1.alloc (.cells (Kn.mk k 1 0 0).cl.toArray 50)).tight
                 have hu2 := RdR.one w4 50 (Kn.mk k 1 0 0).cl (Kn.mk k 1 0 0).cl_one
                 have hnn2 : (n1 + 1) * 40 ≤ 140737488355328 := by have := HVN.out; omega
                 have ek0 : w4.cell? ⟨w.heap.size + 1, 0, none⟩ = some (.int .i64 k.s) := ((HA.out.2.2.1.below HBc.out).below hb4).cell 0 rfl
                 have ek1 : w4.cell? ⟨w.heap.size + 1, 1, none⟩ = some (.int .i64 k.c) := ((HA.out.2.2.1.below HBc.out).below hb4).cell 1 rfl
                 have HB4 := Lib.hid hb4
                 have HL1 := Lib.hid hl1
                 clear hap hl1 hn1 hb4 hla hu hnn dk0 dk1 c0 c3)
              | (refine wpList_build_row eltN rfl (.tmp 40) rfl (xs := (Kn.mk k 1 0 0).cl) rfl rfl ?_)
              | (at_builtin
                 refine wpList_append_lstR eltN rfl (.tmp 37) (.tmp 41) rfl rfl hla2 rfl hu2 hnn2 ?_
                 rintro u w6 hap
                 obtain ⟨A2, n2, c2, rfl, hl2, hb6⟩ := apd_next HL1.out HB4.out.size hap
                 have hb7 := HB4.out.trans hb6
                 replace zp := HZ3.out.1.below hb7
                 replace zr := (HZ3.out.2.below hb7).far (p := ⟨w.heap.size, 0, none⟩) (by simp) (.slice A2 n2 c2)
                 have d0 := zp.cell 0 rfl
                 have f0 := zp.free 0
                 replace zp := zp.set 0 (.slice A2 n2 c2)
                 have HB6 := Lib.hid (HB4.out.trans hb6)
                 have HL2 := Lib.hid hl2
                 clear hap hl2 hb6 hla2 hu2 hnn2 ek0 ek1 hb7)
              | (with_reducible refine at_load 30 (.tmp 3) (by rfl) ?_; refine wpList_load_bk rowR rfl (.tmp 3) rfl w.heap.size 0 rfl zp ([.slice A2 n2 c2, .slice v.B v.k v.d, .slice v.C v.r v.e, .int .i64 m.most, .int .i64 m.run, .int .i64 m.total]) rfl rfl ?_)
              | (with_reducible refine at_store 30 (.tmp 6) (.tmp 44) (by rfl) ?_; refine wpList_store_bk rowR rfl (.tmp 6) (.tmp 44) rfl (w.heap.size + 2) 0 rfl zr ([.slice A2 n2 c2, .slice v.B v.k v.d, .slice v.C v.r v.e, .int .i64 m.most, .int .i64 m.run, .int .i64 m.total]) rfl rfl (by decide) (by simp [Value.oneCell']) ?_; intro w8 hz8 hw8))
            rw [lay_all _ _ (by rfl)] at hz8
            have hsc : Below w.heap.size w (w6.setCell ⟨w.heap.size, 0, none⟩ (.slice A2 n2 c2)) := ((HA.out.1.trans (HBc.out.mono HA.out.1.size)).trans (HB6.out.mono (Nat.le_trans HA.out.1.size HBc.out.size))).setCell (by simp) _
            have hst : St (· = w.heap.size) w6 (w6.setCell ⟨w.heap.size, 0, none⟩ (.slice A2 n2 c2)) := St.setCell (F := (· = w.heap.size)) w6 (a := ⟨w.heap.size, 0, none⟩) rfl _
            have hs5 : St (· = w.heap.size + 2) (w6.setCell ⟨w.heap.size, 0, none⟩ (.slice A2 n2 c2)) w8 := st_wr hw8
            have hz := HSW.out
            have hz2 := HBc.out.size
            have hbF : Below w.heap.size w w8 := hsc.trans (hs5.below hsc.size fun j e => by omega)
            refine bodyPost_ret (results_cell_tmp rfl rfl (rowR.load hz8 0 (cs := [.slice A2 n2 c2, .slice v.B v.k v.d, .slice v.C v.r v.e, .int .i64 m.most, .int .i64 m.run, .int .i64 m.total]) rfl rfl)) rfl ⟨⟨A2, n2, c2, v.B, v.k, v.d, v.C, v.r, v.e⟩, ?_, ?_, hbF⟩
            · rw [HR2.out]; rfl
            · rw [HR2.out]
              refine ⟨?_, HH.out.p.below hbF, HH.out.u.below hbF⟩
              refine LkN.of (Bd := w3.heap.size) (e := 50) ?_ (fun j hj => HX.out j (by omega))
              have := HL2.out.st hst (fun j hj e => by omega) |>.st hs5 (fun j hj e => by omega)
              show LstR 5 _ _ w8 A2 n2 c2 (flat Kn.cl (m.L ++ [Kn.mk k 1 0 0]))
              rwa [List.nil_append, show Kn.cl (Kn.mk k 1 0 0) = flat Kn.cl [Kn.mk k 1 0 0] from (flat_one _).symm, ← flat_app] at this
    · have HR2 : Hid (R = (m, 1)) := Lib.hid (by rw [HKR.out, if_neg (fun e => hg e.2)])
      have hg0 : ¬ g = 0 := by omega
      have hg0' : (g != 0) = true := by simp; omega
      have hg1' : (g != 1) = true := by simp; omega
      clear HKR hg hv HF
      go_enter Try.func37, Try.ntmps37
      go_wp2_with fail
      rw [← hW]
      clear hW
      refine HV.out.mono ?_
      rintro e w2 ⟨rfl, hb2⟩
      have zp := HA.out.2.1.below hb2
      have zr := HA.out.2.2.2.1.below hb2
      have dk0 : w2.cell? ⟨w.heap.size + 1, 0, none⟩ = some (.int .i64 k.s) := (HA.out.2.2.1.below hb2).cell 0 rfl
      have dk1 : w2.cell? ⟨w.heap.size + 1, 1, none⟩ = some (.int .i64 k.c) := (HA.out.2.2.1.below hb2).cell 1 rfl
      have HBc := Lib.hid hb2
      clear hb2
      go_wp2_with (first
        | (with_reducible refine at_load 30 (.tmp 3) (by rfl) ?_; refine wpList_load_bk rowR rfl (.tmp 3) rfl w.heap.size 0 rfl zp ([.slice v.A v.n v.c, .slice v.B v.k v.d, .slice v.C v.r v.e, .int .i64 m.most, .int .i64 m.run, .int .i64 m.total]) rfl rfl ?_)
        | (with_reducible refine at_store 30 (.tmp 6) (.tmp 20) (by rfl) ?_; refine wpList_store_bk rowR rfl (.tmp 6) (.tmp 20) rfl (w.heap.size + 2) 0 rfl zr ([.slice v.A v.n v.c, .slice v.B v.k v.d, .slice v.C v.r v.e, .int .i64 m.most, .int .i64 m.run, .int .i64 m.total]) rfl rfl (by decide) (by simp [Value.oneCell']) ?_; intro w5 hz6 hw5))
      rw [lay_all _ _ (by rfl)] at hz6
      have hbX := HA.out.1.trans (HBc.out.mono HA.out.1.size)
      have hbF : Below w.heap.size w _ := hbX.trans (hw5.below (by omega) hbX.size)
      refine bodyPost_ret (results_cell_tmp rfl rfl (rowR.load hz6 0 (cs := [.slice v.A v.n v.c, .slice v.B v.k v.d, .slice v.C v.r v.e, .int .i64 m.most, .int .i64 m.run, .int .i64 m.total]) rfl rfl)) rfl ⟨v, ?_, ?_, hbF⟩
      · rw [HR2.out]; rfl
      · rw [HR2.out]; exact HH.out.below hbF
  · have HR2 : Hid (R = (m, 1)) := Lib.hid (by rw [HKR.out, if_neg (fun e => hv e.1)])
    rw [show validB k = false from by simpa using hv] at HV
    clear HKR hv HF
    go_enter Try.func37, Try.ntmps37
    go_wp2_with fail
    rw [← hW]
    clear hW
    refine HV.out.mono ?_
    rintro e w2 ⟨rfl, hb2⟩
    have zp := HA.out.2.1.below hb2
    have zr := HA.out.2.2.2.1.below hb2
    have dk0 : w2.cell? ⟨w.heap.size + 1, 0, none⟩ = some (.int .i64 k.s) := (HA.out.2.2.1.below hb2).cell 0 rfl
    have dk1 : w2.cell? ⟨w.heap.size + 1, 1, none⟩ = some (.int .i64 k.c) := (HA.out.2.2.1.below hb2).cell 1 rfl
    have HBc := Lib.hid hb2
    clear hb2
    go_wp2_with (first
      | (with_reducible refine at_load 30 (.tmp 3) (by rfl) ?_; refine wpList_load_bk rowR rfl (.tmp 3) rfl w.heap.size 0 rfl zp ([.slice v.A v.n v.c, .slice v.B v.k v.d, .slice v.C v.r v.e, .int .i64 m.most, .int .i64 m.run, .int .i64 m.total]) rfl rfl ?_)
      | (with_reducible refine at_store 30 (.tmp 6) (.tmp 20) (by rfl) ?_; refine wpList_store_bk rowR rfl (.tmp 6) (.tmp 20) rfl (w.heap.size + 2) 0 rfl zr ([.slice v.A v.n v.c, .slice v.B v.k v.d, .slice v.C v.r v.e, .int .i64 m.most, .int .i64 m.run, .int .i64 m.total]) rfl rfl (by decide) (by simp [Value.oneCell']) ?_; intro w5 hz6 hw5))
    rw [lay_all _ _ (by rfl)] at hz6
    have hbX := HA.out.1.trans (HBc.out.mono HA.out.1.size)
    have hbF : Below w.heap.size w _ := hbX.trans (hw5.below (by omega) hbX.size)
    refine bodyPost_ret (results_cell_tmp rfl rfl (rowR.load hz6 0 (cs := [.slice v.A v.n v.c, .slice v.B v.k v.d, .slice v.C v.r v.e, .int .i64 m.most, .int .i64 m.run, .int .i64 m.total]) rfl rfl)) rfl ⟨v, ?_, ?_, hbF⟩
    · rw [HR2.out]; rfl
    · rw [HR2.out]; exact HH.out.below hbF
set_option maxHeartbeats 8000000 in
theorem r_owe (h : RpR X w v m) (ok : m.Ok) (k : Ky) (n : Int) (hX : ∀ j, w.heap.size ≤ j → X j) : Calls Try.prog 40 #[.agg #[.slice v.A v.n v.c, .slice v.B v.k v.d, .slice v.C v.r v.e, .int .i64 m.most, .int .i64 m.run, .int .i64 m.total], .agg #[.int .i64 k.s, .int .i64 k.c], .int .i64 n] w fun e w' =>
    ∃ v2, e = .returned (.tuple #[.agg #[.slice v2.A v2.n v2.c, .slice v2.B v2.k v2.d, .slice v2.C v2.r v2.e, .int .i64 m.most, .int .i64 m.run, .int .i64 m.total], .int .i64 (m.oweR k n).2]) ∧ RpR X w' v2 (m.oweR k n).1 ∧ Below w.heap.size w w' := by
  obtain ⟨W, hW⟩ : ∃ W, W = ((w.alloc (.cells #[.slice v.A v.n v.c, .slice v.B v.k v.d, .slice v.C v.r v.e, .int .i64 m.most, .int .i64 m.run, .int .i64 m.total] 30)).alloc (.cells #[.int .i64 k.s, .int .i64 k.c] 35)).alloc (.cells #[.slice none 0 0, .slice none 0 0, .slice none 0 0, .int .i64 0, .int .i64 0, .int .i64 0] 30) := ⟨_, rfl⟩
  have hb1 : Below w.heap.size w W := by rw [hW]; exact (((Below.refl _ w).alloc (Nat.le_refl _) _).alloc (by simp) _).alloc (by simp; omega) _
  have hsW : w.heap.size + 1 + 1 + 1 = W.heap.size := by rw [hW]; simp
  have z1 : Bk W 30 w.heap.size ([.slice v.A v.n v.c, .slice v.B v.k v.d, .slice v.C v.r v.e, .int .i64 m.most, .int .i64 m.run, .int .i64 m.total]) := by rw [hW]; exact ((Bk.new w 30 ([.slice v.A v.n v.c, .slice v.B v.k v.d, .slice v.C v.r v.e, .int .i64 m.most, .int .i64 m.run, .int .i64 m.total])).alloc _).alloc _
  have z2 : Bk W 35 (w.heap.size + 1) k.cl := by
    have := (Bk.new (w.alloc (.cells #[.slice v.A v.n v.c, .slice v.B v.k v.d, .slice v.C v.r v.e, .int .i64 m.most, .int .i64 m.run, .int .i64 m.total] 30)) 35 k.cl).alloc (.cells #[.slice none 0 0, .slice none 0 0, .slice none 0 0, .int .i64 0, .int .i64 0, .int .i64 0] 30)
    rw [World.size_alloc] at this
    rw [hW]; exact this
  have z3 : Bk W 30 (w.heap.size + 2) [.slice none 0 0, .slice none 0 0, .slice none 0 0, .int .i64 0, .int .i64 0, .int .i64 0] := by
    have := Bk.new ((w.alloc (.cells #[.slice v.A v.n v.c, .slice v.B v.k v.d, .slice v.C v.r v.e, .int .i64 m.most, .int .i64 m.run, .int .i64 m.total] 30)).alloc (.cells #[.int .i64 k.s, .int .i64 k.c] 35)) 30 [.slice none 0 0, .slice none 0 0, .slice none 0 0, .int .i64 0, .int .i64 0, .int .i64 0]
    simp only [World.size_alloc] at this
    rw [hW]; exact this
  have h' := h.below hb1
  have HA := Lib.hid (And.intro hb1 (And.intro z1 (And.intro z2 (And.intro z3 h'))))
  have HSW := Lib.hid hsW
  have HX := Lib.hid hX
  have HH := Lib.hid h
  clear hsW
  have hvn : v.n ≤ 512 := by have := h.l.1; have := ok.ll; have := ok.mo; omega
  have HF := Lib.hid (r_find h' (by omega) k)
  have hc0 := z1.cell 0 rfl
  have hlt := z1.lt
  rcases got_or m.L k with ⟨i, x, hgt⟩ | hl
  · have HR := Lib.hid (show m.oweR k n = if n < 1 then (m, 1) else if 1152921504606846976 - x.p < n then (m, 5) else (m.owe i x n, 0) from by unfold Pm.oweR; rw [got_ix hgt])
    rw [ixI_got hgt] at HF
    have hi0 : ¬ (i : Int) < 0 := by omega
    have hiv : (i : Int) < v.n := by have := hgt.lt; have := h.l.1; omega
    have hgl := ok.gl x hgt.mem
    have hpe := ok.pe x hgt.mem
    have HVK : Hid (v.k ≤ 1000 ∧ v.r ≤ 1000) := Lib.hid (by
      have e1 := h.p.1
      have e2 := h.u.1
      have := ok.len0
      have := ok.len1
      omega)
    have HG := Lib.hid hgt
    have HX3 : Hid (RpR (fun j => X j ∧ j < w.heap.size) W v m) := Lib.hid (h.low.below hb1)
    have HVN : Hid (m.L.length ≤ 512) := Lib.hid (by have := ok.ll; have := ok.mo; omega)
    have HX2 : Hid (RpR (fun j => X j ∧ j ≠ w.heap.size + 2) W v m) := Lib.hid ((h.low.mono fun j hj => ⟨hj.1, by omega⟩).below hb1)
    have hq0 : 0 ≤ x.p := hpe.1
    have hq1 : x.p ≤ 1152921504606846976 := hpe.2.1
    generalize m.oweR k n = R at *
    clear h h' hb1 z1 z2 z3 hX ok hgt hpe
    by_cases hn : n < 1
    · have HR2 : Hid (R = (m, 1)) := Lib.hid (by rw [HR.out, if_pos hn])
      clear HR
      go_enter Try.func40, Try.ntmps40
      go_wp2_with fail
      rw [← hW]
      clear hW
      refine HF.out.mono ?_
      rintro e w2 ⟨rfl, hb2⟩
      have zp := HA.out.2.1.below hb2
      have zr := HA.out.2.2.2.1.below hb2
      replace hc0 := zp.cell 0 rfl
      replace hlt := zp.lt
      have HBc := Lib.hid hb2
      clear hb2
      go_wp2_with (first
        | (with_reducible refine at_load 30 (.tmp 3) (by rfl) ?_; refine wpList_load_bk rowR rfl (.tmp 3) rfl w.heap.size 0 rfl zp ([.slice v.A v.n v.c, .slice v.B v.k v.d, .slice v.C v.r v.e, .int .i64 m.most, .int .i64 m.run, .int .i64 m.total]) rfl rfl ?_)
        | (with_reducible refine at_store 30 (.tmp 6) (.tmp 18) (by rfl) ?_; refine wpList_store_bk rowR rfl (.tmp 6) (.tmp 18) rfl (w.heap.size + 2) 0 rfl zr ([.slice v.A v.n v.c, .slice v.B v.k v.d, .slice v.C v.r v.e, .int .i64 m.most, .int .i64 m.run, .int .i64 m.total]) rfl rfl (by decide) (by simp [Value.oneCell']) ?_; intro w5 hz6 hw5))
      rw [lay_all _ _ (by rfl)] at hz6
      have hbX := HA.out.1.trans (HBc.out.mono HA.out.1.size)
      have hbF : Below w.heap.size w _ := hbX.trans (hw5.below (by omega) hbX.size)
      refine bodyPost_ret (results_cell_tmp rfl rfl (rowR.load hz6 0 (cs := [.slice v.A v.n v.c, .slice v.B v.k v.d, .slice v.C v.r v.e, .int .i64 m.most, .int .i64 m.run, .int .i64 m.total]) rfl rfl)) rfl ⟨v, ?_, ?_, hbF⟩
      · rw [HR2.out]; rfl
      · rw [HR2.out]; exact HH.out.below hbF
    · have hn1 : 1 ≤ n := by omega
      rcases (by omega : 1152921504606846976 - x.p < n ∨ n ≤ 1152921504606846976 - x.p) with hbig | hbig
      · have HR2 : Hid (R = (m, 5)) := Lib.hid (by rw [HR.out, if_neg hn, if_pos hbig])
        clear HR hn
        go_enter Try.func40, Try.ntmps40
        go_wp2_with fail
        rw [← hW]
        clear hW
        refine HF.out.mono ?_
        rintro e w2 ⟨rfl, hb2⟩
        have zp := HA.out.2.1.below hb2
        have zr := HA.out.2.2.2.1.below hb2
        replace hc0 := zp.cell 0 rfl
        replace hlt := zp.lt
        have HBc := Lib.hid hb2
        clear hb2
        obtain ⟨g, o, hAa, hgg, hra⟩ := (HA.out.2.2.2.2.l.below HBc.out).row HG.out.1
        rw [hAa] at hc0
        clear hAa
        replace zp := zp.alloc (.cells #[.int .i64 x.k.s, .int .i64 x.k.c, .int .i64 x.g, .int .i64 x.p, .int .i64 x.i] 50)
        replace zr := zr.alloc (.cells #[.int .i64 x.k.s, .int .i64 x.k.c, .int .i64 x.g, .int .i64 x.p, .int .i64 x.i] 50)
        go_wp2_with (first
          | (with_reducible refine at_load 50 (.tmp 22) (by rfl) ?_; refine wpList_load_kn rowN rfl (.tmp 22) rfl x g (o + i * 5) rfl hra ?_)
          | (with_reducible refine at_load 30 (.tmp 3) (by rfl) ?_; refine wpList_load_bk rowR rfl (.tmp 3) rfl w.heap.size 0 rfl zp ([.slice v.A v.n v.c, .slice v.B v.k v.d, .slice v.C v.r v.e, .int .i64 m.most, .int .i64 m.run, .int .i64 m.total]) rfl rfl ?_)
          | (with_reducible refine at_store 30 (.tmp 6) (.tmp 29) (by rfl) ?_; refine wpList_store_bk rowR rfl (.tmp 6) (.tmp 29) rfl (w.heap.size + 2) 0 rfl zr ([.slice v.A v.n v.c, .slice v.B v.k v.d, .slice v.C v.r v.e, .int .i64 m.most, .int .i64 m.run, .int .i64 m.total]) rfl rfl (by decide) (by simp [Value.oneCell']) ?_; intro w5 hz6 hw5))
        rw [lay_all _ _ (by rfl)] at hz6
        have hbX := HA.out.1.trans ((HBc.out.alloc HBc.out.size (.cells #[.int .i64 x.k.s, .int .i64 x.k.c, .int .i64 x.g, .int .i64 x.p, .int .i64 x.i] 50)).mono HA.out.1.size)
        have hbF : Below w.heap.size w _ := hbX.trans (hw5.below (by omega) hbX.size)
        refine bodyPost_ret (results_cell_tmp rfl rfl (rowR.load hz6 0 (cs := [.slice v.A v.n v.c, .slice v.B v.k v.d, .slice v.C v.r v.e, .int .i64 m.most, .int .i64 m.run, .int .i64 m.total]) rfl rfl)) rfl ⟨v, ?_, ?_, hbF⟩
        · rw [HR2.out]; rfl
        · rw [HR2.out]; exact HH.out.below hbF
      · have HR2 : Hid (R = (m.owe i x n, 0)) := Lib.hid (by rw [HR.out, if_neg hn, if_neg (by omega)])
        have hnm : n ≤ 1152921504606846976 := by omega
        have hadd : x.p + n ≤ 1152921504606846976 := by omega
        clear HR hn
        by_cases hz : x.p = 0
        · have HOW : Hid (m.owe i x n = (m.push x.g x.k).setL ((m.push x.g x.k).L.set i (x.more n))) := Lib.hid (by unfold Pm.owe; rw [if_pos hz, (push_total _ _ _).2.2.1])
          have hz1 : (x.p == 0) = true := by simp [hz]
          clear hz
          go_enter Try.func40, Try.ntmps40
          go_wp2_with fail
          rw [← hW]
          clear hW
          refine HF.out.mono ?_
          rintro e w2 ⟨rfl, hb2⟩
          have zp := HA.out.2.1.below hb2
          have zr := HA.out.2.2.2.1.below hb2
          replace hc0 := zp.cell 0 rfl
          replace hlt := zp.lt
          have HBc := Lib.hid hb2
          clear hb2
          obtain ⟨g, o, hAa, hgg, hra⟩ := (HA.out.2.2.2.2.l.below HBc.out).row HG.out.1
          rw [hAa] at hc0
          clear hAa
          replace zp := zp.alloc (.cells #[.int .i64 x.k.s, .int .i64 x.k.c, .int .i64 x.g, .int .i64 x.p, .int .i64 x.i] 50)
          replace zr := zr.alloc (.cells #[.int .i64 x.k.s, .int .i64 x.k.c, .int .i64 x.g, .int .i64 x.p, .int .i64 x.i] 50)
          have zx := Bk.new w2 50 x.cl
          have hb3 : Below W.heap.size W (w2.alloc (.cells #[.int .i64 x.k.s, .int .i64 x.k.c, .int .i64 x.g, .int .i64 x.p, .int .i64 x.i] 50)) := HBc.out.alloc HBc.out.size _
          have hsz3 : (w2.alloc (.cells #[.int .i64 x.k.s, .int .i64 x.k.c, .int .i64 x.g, .int .i64 x.p, .int .i64 x.i] 50)).heap.size = w2.heap.size + 1 := by simp
          have HBh := Lib.hid (r_behind (X := fun j => X j ∧ j ≠ w.heap.size + 2 ∧ j ≠ w.heap.size ∧ j ≠ w2.heap.size) (HX3.out.below hb3 |>.mono fun j hj => ⟨hj.1, by omega, by omega, by have := HSW.out; have := HBc.out.size; omega⟩) HVK.out x hgl (fun j hj => by have := HSW.out; have := HBc.out.size; rw [hsz3] at hj; exact ⟨HX.out j (by omega), by omega, by omega, by omega⟩))
          have HS3 := Lib.hid hsz3
          have HB3 := Lib.hid hb3
          clear hb3 hsz3
          go_wp2_with (first
            | (with_reducible refine at_load 50 (.tmp 22) (by rfl) ?_; refine wpList_load_kn rowN rfl (.tmp 22) rfl x g (o + i * 5) rfl hra ?_)
            | (with_reducible refine at_load 30 (.tmp 3) (by rfl) ?_; refine wpList_load_bk rowR rfl (.tmp 3) rfl w.heap.size 0 rfl zp ([.slice v.A v.n v.c, .slice v.B v.k v.d, .slice v.C v.r v.e, .int .i64 m.most, .int .i64 m.run, .int .i64 m.total]) rfl rfl ?_)
            | (with_reducible refine at_load 50 (.tmp 9) (by rfl) ?_; refine wpList_load_bk rowN rfl (.tmp 9) rfl w2.heap.size 0 rfl zx x.cl rfl rfl ?_))
          refine HBh.out.mono ?_
          rintro e w5 ⟨v1, rfl, hr5, hb5⟩
          replace zp := zp.below hb5
          replace zr := zr.below hb5
          replace zx := zx.below hb5
          have HR5 := Lib.hid (And.intro hr5 hb5)
          have HS5 := Lib.hid hb5.size
          clear hr5 hb5 hc0
          go_wp2_with (first
            | (with_reducible refine at_store 30 (.tmp 3) (.tmp 35) (by rfl) ?_
               refine wpList_store_bk rowR rfl (.tmp 3) (.tmp 35) rfl w.heap.size 0 rfl zp ([.slice v1.A v1.n v1.c, .slice v1.B v1.k v1.d, .slice v1.C v1.r v1.e, .int .i64 m.most, .int .i64 m.run, .int .i64 m.total]) rfl rfl (by show 0 + 6 ≤ 6; omega) (by simp [Value.oneCell']) ?_
               intro w6 hz6 hw6
               rw [lay_all _ _ (by rfl)] at hz6
               have hne : w2.heap.size ≠ w.heap.size := by have := HSW.out; have := HBc.out.size; omega
               replace zx := zx.wr hw6 hne
               replace zr := zr.wr hw6 (by omega)
               have hs6 := st_wr hw6
               have x3 := zx.cell 3 rfl
               have fx3 := zx.free 3
               have hr7 := (HR5.out.1.st hs6 fun j hj => hj.2.2.1).st (St.setCell (F := (· = w2.heap.size)) w6 (a := ⟨w2.heap.size, 3, none⟩) rfl (.int .i64 (x.p + n))) fun j hj => hj.2.2.2
               have zp7 := hz6.far (p := ⟨w2.heap.size, 3, none⟩) (fun e => hne e.symm) (.int .i64 (x.p + n))
               have zr7 := zr.far (p := ⟨w2.heap.size, 3, none⟩) (by have := HSW.out; have := HBc.out.size; show w.heap.size + 2 ≠ w2.heap.size; omega) (.int .i64 (x.p + n))
               have zx7 := zx.set 3 (.int .i64 (x.p + n))
               have HR7 := Lib.hid (And.intro hr7 (And.intro hs6 hne))
               clear hr7 hs6 hne zr zp zx hz6)
            | (with_reducible refine at_load 30 (.tmp 3) (by rfl) ?_; refine wpList_load_bk rowR rfl (.tmp 3) rfl w.heap.size 0 rfl zp7 ([.slice v1.A v1.n v1.c, .slice v1.B v1.k v1.d, .slice v1.C v1.r v1.e, .int .i64 m.most, .int .i64 m.run, .int .i64 m.total]) rfl rfl ?_)
            | (with_reducible refine at_load 50 (.tmp 9) (by rfl) ?_; refine wpList_load_bk rowN rfl (.tmp 9) rfl w2.heap.size 0 rfl zx7 [.int .i64 x.k.s, .int .i64 x.k.c, .int .i64 x.g, .int .i64 (x.p + n), .int .i64 x.i] rfl rfl ?_))
          clear x3 fx3
          have hs7 : St (· = w2.heap.size) w6 (w6.setCell ⟨w2.heap.size, 3, none⟩ (.int .i64 (x.p + n))) := St.setCell (F := (· = w2.heap.size)) w6 (a := ⟨w2.heap.size, 3, none⟩) rfl _
          generalize w6.setCell ⟨w2.heap.size, 3, none⟩ (.int .i64 (x.p + n)) = w7 at *
          have HWi : Hid (Calls Try.prog 55 #[.agg #[.slice v1.A v1.n v1.c, .slice v1.B v1.k v1.d, .slice v1.C v1.r v1.e, .int .i64 m.most, .int .i64 m.run, .int .i64 m.total], .int .i64 i, .agg #[.int .i64 x.k.s, .int .i64 x.k.c, .int .i64 x.g, .int .i64 (x.p + n), .int .i64 x.i]] w7 fun e w' => ∃ v2, e = .returned (.agg #[.slice v2.A v2.n v2.c, .slice v2.B v2.k v2.d, .slice v2.C v2.r v2.e, .int .i64 m.most, .int .i64 m.run, .int .i64 m.total]) ∧ RpR (fun j => X j ∧ j ≠ w.heap.size + 2) w' v2 ((m.push x.g x.k).setL ((m.push x.g x.k).L.set i (x.more n))) ∧ Below w7.heap.size w7 w') := Lib.hid (by
            obtain ⟨e1, e2, e3, e4⟩ := push_total m x.g x.k
            have hsz7 : w2.heap.size < w7.heap.size := by have := HS5.out; have := HR7.out.2.1.size; have := hs7.size; have := HS3.out; omega
            have hh := r_with (X := fun j => X j ∧ j ≠ w.heap.size + 2) (HR7.out.1.mono fun j hj => ⟨hj.1, hj.2.1⟩) (by rw [HR7.out.1.l.1, e3]; have := HVN.out; omega) i (x.more n) (by rw [e3]; exact HG.out.lt) (fun j hj => ⟨HX.out j (by have := HSW.out; have := HBc.out.size; omega), by have := HSW.out; have := HBc.out.size; omega⟩)
            rw [e1, e2, e4] at hh
            exact hh)
          refine HWi.out.mono ?_
          rintro e w8 ⟨v2, rfl, hr8, hb8⟩
          replace zr7 := zr7.below hb8
          have HR8 := Lib.hid (And.intro hr8 hb8)
          clear hr8 hb8
          go_wp2_with (first
            | (with_reducible refine at_store 30 (.tmp 6) (.tmp 44) (by rfl) ?_; refine wpList_store_bk rowR rfl (.tmp 6) (.tmp 44) rfl (w.heap.size + 2) 0 rfl zr7 ([.slice v2.A v2.n v2.c, .slice v2.B v2.k v2.d, .slice v2.C v2.r v2.e, .int .i64 m.most, .int .i64 m.run, .int .i64 m.total]) rfl rfl (by decide) (by simp [Value.oneCell']) ?_; intro w9 hz9 hw9))
          rw [lay_all _ _ (by rfl)] at hz9
          have hs9 : St (· = w.heap.size + 2) w8 w9 := st_wr hw9
          have hbF : Below w.heap.size w w9 := by
            have l1 : Below w.heap.size w w5 := HA.out.1.trans ((HB3.out.trans (HR5.out.2.mono HB3.out.size)).mono HA.out.1.size)
            have l2 : Below w.heap.size w w6 := l1.trans (HR7.out.2.1.below l1.size fun j e => by omega)
            have l3 : Below w.heap.size w w7 := l2.trans (hs7.below l2.size fun j e => by have := HSW.out; have := HBc.out.size; omega)
            have l4 : Below w.heap.size w w8 := l3.trans (HR8.out.2.mono l3.size)
            exact l4.trans (hs9.below l4.size fun j e => by omega)
          refine bodyPost_ret (results_cell_tmp rfl rfl (rowR.load hz9 0 (cs := [.slice v2.A v2.n v2.c, .slice v2.B v2.k v2.d, .slice v2.C v2.r v2.e, .int .i64 m.most, .int .i64 m.run, .int .i64 m.total]) rfl rfl)) rfl ⟨v2, ?_, ?_, hbF⟩
          · rw [HR2.out]; rfl
          · rw [HR2.out, HOW.out]
            exact (HR8.out.1.st hs9 fun j hj => hj.2).mono fun j hj => hj.1
        · have HOW : Hid (m.owe i x n = m.setL (m.L.set i (x.more n))) := Lib.hid (by unfold Pm.owe; rw [if_neg hz])
          have hz1 : (x.p == 0) = false := by simp [hz]
          clear hz
          go_enter Try.func40, Try.ntmps40
          go_wp2_with fail
          rw [← hW]
          clear hW
          refine HF.out.mono ?_
          rintro e w2 ⟨rfl, hb2⟩
          have zp := HA.out.2.1.below hb2
          have zr := HA.out.2.2.2.1.below hb2
          replace hc0 := zp.cell 0 rfl
          replace hlt := zp.lt
          have HBc := Lib.hid hb2
          clear hb2
          obtain ⟨g, o, hAa, hgg, hra⟩ := (HA.out.2.2.2.2.l.below HBc.out).row HG.out.1
          rw [hAa] at hc0
          clear hAa
          replace zp := zp.alloc (.cells #[.int .i64 x.k.s, .int .i64 x.k.c, .int .i64 x.g, .int .i64 (x.p + n), .int .i64 x.i] 50)
          replace zr := zr.alloc (.cells #[.int .i64 x.k.s, .int .i64 x.k.c, .int .i64 x.g, .int .i64 (x.p + n), .int .i64 x.i] 50)
          have zx := Bk.new w2 50 [.int .i64 x.k.s, .int .i64 x.k.c, .int .i64 x.g, .int .i64 (x.p + n), .int .i64 x.i]
          have hb3 : Below W.heap.size W (w2.alloc (.cells #[.int .i64 x.k.s, .int .i64 x.k.c, .int .i64 x.g, .int .i64 (x.p + n), .int .i64 x.i] 50)) := HBc.out.alloc HBc.out.size _
          have HWi : Hid (Calls Try.prog 55 #[.agg #[.slice v.A v.n v.c, .slice v.B v.k v.d, .slice v.C v.r v.e, .int .i64 m.most, .int .i64 m.run, .int .i64 m.total], .int .i64 i, .agg #[.int .i64 x.k.s, .int .i64 x.k.c, .int .i64 x.g, .int .i64 (x.p + n), .int .i64 x.i]] (w2.alloc (.cells #[.int .i64 x.k.s, .int .i64 x.k.c, .int .i64 x.g, .int .i64 (x.p + n), .int .i64 x.i] 50)) fun e w' => ∃ v2, e = .returned (.agg #[.slice v2.A v2.n v2.c, .slice v2.B v2.k v2.d, .slice v2.C v2.r v2.e, .int .i64 m.most, .int .i64 m.run, .int .i64 m.total]) ∧ RpR (fun j => X j ∧ j ≠ w.heap.size + 2) w' v2 (m.setL (m.L.set i (x.more n))) ∧ Below (w2.alloc (.cells #[.int .i64 x.k.s, .int .i64 x.k.c, .int .i64 x.g, .int .i64 (x.p + n), .int .i64 x.i] 50)).heap.size (w2.alloc (.cells #[.int .i64 x.k.s, .int .i64 x.k.c, .int .i64 x.g, .int .i64 (x.p + n), .int .i64 x.i] 50)) w') := Lib.hid (r_with (HX2.out.below hb3) (by omega) i (x.more n) HG.out.lt (fun j hj => by have := HSW.out; have := HBc.out.size; simp at hj; exact ⟨HX.out j (by omega), by omega⟩))
          have HB3 := Lib.hid hb3
          clear hb3
          go_wp2_with (first
            | (with_reducible refine at_load 50 (.tmp 22) (by rfl) ?_; refine wpList_load_kn rowN rfl (.tmp 22) rfl x g (o + i * 5) rfl hra ?_)
            | (with_reducible refine at_load 30 (.tmp 3) (by rfl) ?_; refine wpList_load_bk rowR rfl (.tmp 3) rfl w.heap.size 0 rfl zp ([.slice v.A v.n v.c, .slice v.B v.k v.d, .slice v.C v.r v.e, .int .i64 m.most, .int .i64 m.run, .int .i64 m.total]) rfl rfl ?_)
            | (with_reducible refine at_load 50 (.tmp 9) (by rfl) ?_; refine wpList_load_bk rowN rfl (.tmp 9) rfl w2.heap.size 0 rfl zx [.int .i64 x.k.s, .int .i64 x.k.c, .int .i64 x.g, .int .i64 (x.p + n), .int .i64 x.i] rfl rfl ?_))
          refine HWi.out.mono ?_
          rintro e w6 ⟨v2, rfl, hr6, hb6⟩
          replace zr := zr.below hb6
          have HR6 := Lib.hid (And.intro hr6 hb6)
          clear hr6 hb6
          go_wp2_with (first
            | (with_reducible refine at_store 30 (.tmp 6) (.tmp 44) (by rfl) ?_; refine wpList_store_bk rowR rfl (.tmp 6) (.tmp 44) rfl (w.heap.size + 2) 0 rfl zr ([.slice v2.A v2.n v2.c, .slice v2.B v2.k v2.d, .slice v2.C v2.r v2.e, .int .i64 m.most, .int .i64 m.run, .int .i64 m.total]) rfl rfl (by decide) (by simp [Value.oneCell']) ?_; intro w8 hz8 hw8))
          rw [lay_all _ _ (by rfl)] at hz8
          have hb7 := HB3.out.trans (HR6.out.2.mono HB3.out.size)
          have hbX := HA.out.1.trans (hb7.mono HA.out.1.size)
          have hbF : Below w.heap.size w w8 := hbX.trans (hw8.below (by omega) hbX.size)
          have hs8 : St (· = w.heap.size + 2) w6 w8 := st_wr hw8
          refine bodyPost_ret (results_cell_tmp rfl rfl (rowR.load hz8 0 (cs := [.slice v2.A v2.n v2.c, .slice v2.B v2.k v2.d, .slice v2.C v2.r v2.e, .int .i64 m.most, .int .i64 m.run, .int .i64 m.total]) rfl rfl)) rfl ⟨v2, ?_, ?_, hbF⟩
          · rw [HR2.out]; rfl
          · rw [HR2.out, HOW.out]
            exact (HR6.out.1.st hs8 fun j hj => hj.2).mono fun j hj => hj.1
  · have HR2 : Hid (m.oweR k n = (m, 7)) := Lib.hid (by unfold Pm.oweR; rw [lacks_ix hl])
    rw [ixI_lacks hl] at HF
    generalize m.oweR k n = R at *
    clear h h' hb1 z1 z2 z3 hX ok hl
    go_enter Try.func40, Try.ntmps40
    go_wp2_with fail
    rw [← hW]
    clear hW
    refine HF.out.mono ?_
    rintro e w2 ⟨rfl, hb2⟩
    have zp := HA.out.2.1.below hb2
    have zr := HA.out.2.2.2.1.below hb2
    replace hc0 := zp.cell 0 rfl
    replace hlt := zp.lt
    have HBc := Lib.hid hb2
    clear hb2
    go_wp2_with (first
      | (with_reducible refine at_load 30 (.tmp 3) (by rfl) ?_; refine wpList_load_bk rowR rfl (.tmp 3) rfl w.heap.size 0 rfl zp ([.slice v.A v.n v.c, .slice v.B v.k v.d, .slice v.C v.r v.e, .int .i64 m.most, .int .i64 m.run, .int .i64 m.total]) rfl rfl ?_)
      | (with_reducible refine at_store 30 (.tmp 6) (.tmp 15) (by rfl) ?_; refine wpList_store_bk rowR rfl (.tmp 6) (.tmp 15) rfl (w.heap.size + 2) 0 rfl zr ([.slice v.A v.n v.c, .slice v.B v.k v.d, .slice v.C v.r v.e, .int .i64 m.most, .int .i64 m.run, .int .i64 m.total]) rfl rfl (by decide) (by simp [Value.oneCell']) ?_; intro w5 hz6 hw5))
    rw [lay_all _ _ (by rfl)] at hz6
    have hbX := HA.out.1.trans (HBc.out.mono HA.out.1.size)
    have hbF : Below w.heap.size w _ := hbX.trans (hw5.below (by omega) hbX.size)
    refine bodyPost_ret (results_cell_tmp rfl rfl (rowR.load hz6 0 (cs := [.slice v.A v.n v.c, .slice v.B v.k v.d, .slice v.C v.r v.e, .int .i64 m.most, .int .i64 m.run, .int .i64 m.total]) rfl rfl)) rfl ⟨v, ?_, ?_, hbF⟩
    · rw [HR2.out]; rfl
    · rw [HR2.out]; exact HH.out.below hbF
end
end Go.Proofs.Ytdldocbfnjbhmaa
