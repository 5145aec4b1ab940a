/- A list of paths: forked, made. -/
import Derived.Test.YtiefgicapcljiaaQ8
set_option linter.unusedSimpArgs false
set_option linter.unusedVariables false
namespace Go.Proofs.Ytiefgicapcljiaa
open Go.RowKit Go.Shelf
theorem rowList : Row Try.prog 56 19 := ⟨⟨_, rfl, rfl⟩, by kernel_rfl⟩
theorem cellsL_one (q : Nat) (bs : List Bool) (A : Option Addr) (n c : Nat) (r : Int) (told : List Int) : ∀ v ∈ cellsL q bs A n c r told, v.oneCell' = true := by
  intro v hv
  unfold cellsL at hv
  rcases List.mem_cons.1 hv with rfl | hv
  · rfl
  rcases List.mem_append.1 hv with hv | hv
  · exact boolV_one _ v hv
  rcases List.mem_cons.1 hv with rfl | hv
  · rfl
  rcases List.mem_cons.1 hv with rfl | hv
  · rfl
  · exact intV_one _ v hv
theorem cellsL_set0 (q : Nat) (bs : List Bool) (A : Option Addr) (n c : Nat) (r : Int) (told : List Int) (q' : Nat) : (cellsL q bs A n c r told).set 0 (.pointer (some ⟨q', 0, none⟩)) = cellsL q' bs A n c r told := rfl
theorem build_list (q : Nat) {bs : List Bool} (h : bs.length = 8) (W : World) : (Instr.build 56 #[(0, .pointer (some ⟨q, 0, none⟩)), (1, .agg (boolV bs).toArray)]).run Try.prog W = .ok (.agg (cellsL q bs none 0 0 0 (List.replicate 8 0)).toArray) W := by
  obtain ⟨b0, b1, b2, b3, b4, b5, b6, b7, rfl⟩ := eight h
  go_simp
  simp [boolV, cellsL, intV, Sem.run_pure]
def zeroL : List Value := .pointer none :: (boolV (List.replicate 8 false) ++ (.slice none 0 0 :: .int .i64 0 :: intV (List.replicate 8 0)))
set_option maxRecDepth 100000 in
set_option maxHeartbeats 2000000 in
theorem pm_fork (F : Nat → Prop) (w : World) (p : Nat) (L : PL) (b : Int) (h : Pm F w p L) (ho : L.ok b) :
    Calls Try.prog 13 #[.pointer (some ⟨p, 0, none⟩)] w fun e w' => ∃ p' F', e = .returned (.pointer (some ⟨p', 0, none⟩)) ∧ Pm F' w' p' L ∧ (∀ k, F' k → w.heap.size ≤ k) ∧ Below w.heap.size w w' := by
  obtain ⟨h1, h2, q, A, n, c, h3, h4, h5, h6, h7, h8, h9⟩ := h
  have hz := Bk.new w 56 zeroL
  have hcl : (cellsL q (memB L.ps) A n c L.rounds L.told).length = 19 := cellsL_len _ _ _ _ _ _ (memB_len _) ho.t1
  have HCL := Lib.hid hcl
  have hn := h5.1
  rw [intV_len] at hn
  have hn8 := ho.rest_len
  have HN : n ≤ 8 := by omega
  have H5 := Lib.hid h5.rdv
  clear hcl hn hn8
  go_enter Try.func13, Try.ntmps13
  go_wp2_with (first
    | (go_at_call 27; refine (pm_made _ _ _ _ h3).mono ?_; rintro e w' ⟨rfl, rfl⟩)
    | (refine wpList_load_bk rowList rfl (.tmp 8) rfl p 0 rfl h3 (cellsL q (memB L.ps) A n c L.rounds L.told) HCL.out (List.take_of_length_le (Nat.le_refl _)) ?_)
    | (refine wpList_store_bk rowList rfl (.tmp 3) (.tmp 9) rfl w.heap.size 0 rfl hz (cellsL q (memB L.ps) A n c L.rounds L.told) rfl HCL.out (by decide) (cellsL_one _ _ _ _ _ _ _) ?_; rintro w2 hz2 hw2
       rw [lay_all _ _ HCL.out] at hz2
       have hb2 : Below w.heap.size w w2 := ((Below.refl _ _).alloc (Nat.le_refl _) _).trans (hw2.below (Nat.le_refl _) (by simp))
       have c0 := (h3.below hb2).cell 0 rfl))
  refine (fork_any w2 q L.s L.i (Src.below h4 hb2)).mono ?_
  rintro e w3 ⟨rfl, hs3, hb3⟩
  have hz3 := hz2.below hb3
  have hz4 := hz3.set 0 (.pointer (some ⟨w2.heap.size, 0, none⟩))
  rw [cellsL_set0] at hz4
  have c0' := hz3.cell 0 rfl
  have f0 := hz3.free 0
  have hne : w.heap.size ≠ w2.heap.size := by have := hz2.lt; omega
  have hs4 : Src (w3.setCell ⟨w.heap.size, 0, none⟩ (.pointer (some ⟨w2.heap.size, 0, none⟩))) w2.heap.size L.s L.i := Bk.far hs3 (p := ⟨w.heap.size, 0, none⟩) (Ne.symm hne) _
  have hb4 : Below w.heap.size w (w3.setCell ⟨w.heap.size, 0, none⟩ (.pointer (some ⟨w2.heap.size, 0, none⟩))) := (hb2.trans (hb3.mono hb2.size)).setCell (Nat.le_refl _) _
  have hk4 := h3.below hb4
  have c9 := hk4.cell 9 (cellsL_rest _ _ _ _ _ _ (memB_len _))
  have hu4 := H5.out.below hb4
  clear c0 hs3 hz3
  go_wp2_with fail
  refine (Shint.clone_any A n c (intV L.rest) _ hu4 (by omega)).mono ?_
  rintro e w5 ⟨A5, n5, c5, rfl, hl5, hb5⟩
  have hz5 := hz4.below hb5
  have hz6 := hz5.set 9 (.slice A5 n5 c5)
  rw [cellsL_set9 _ _ _ _ _ _ (memB_len _)] at hz6
  have c9' := hz5.cell 9 (cellsL_rest _ _ _ _ _ _ (memB_len _))
  have f9 := hz5.free 9
  have hzlt := hz4.lt
  have hge : ∀ k, BlkOf A5 k → (w3.setCell ⟨w.heap.size, 0, none⟩ (.pointer (some ⟨w2.heap.size, 0, none⟩))).heap.size ≤ k := by
    rintro k ⟨ad, he, rfl⟩
    exact (hl5.blk ad he).1
  have hs6 : Src (w5.setCell ⟨w.heap.size, 9, none⟩ (.slice A5 n5 c5)) w2.heap.size L.s L.i := Bk.far (Bk.below hs4 hb5) (p := ⟨w.heap.size, 9, none⟩) (Ne.symm hne) _
  have hl6 : Lst 3 (fun k => k = w.heap.size ∨ k = w2.heap.size ∨ BlkOf A5 k) (w5.setCell ⟨w.heap.size, 9, none⟩ (.slice A5 n5 c5)) A5 n5 c5 (intV L.rest) :=
    (hl5.tight.far (p := ⟨w.heap.size, 9, none⟩) (fun ad he e => by have := hge _ ⟨ad, he, rfl⟩; simp at e; omega) _).mono (fun k hk => .inr (.inr hk))
  have hs4lt := hs4.bk.lt
  have hsz6 : (w5.setCell ⟨w.heap.size, 9, none⟩ (.slice A5 n5 c5)).heap.size = w5.heap.size := by simp [World.setCell]
  have HP : Hid (Pm (fun k => k = w.heap.size ∨ k = w2.heap.size ∨ BlkOf A5 k) (w5.setCell ⟨w.heap.size, 9, none⟩ (.slice A5 n5 c5)) w.heap.size L) := Lib.hid
    ⟨.inl rfl, fun k hk => by
      rw [hsz6]
      have := hb5.size
      rcases hk with rfl | rfl | hk
      · omega
      · omega
      · exact hl5.tight.lt k hk, w2.heap.size, A5, n5, c5, hz6, hs6, hl6, .inr (.inl rfl), hne, fun hk => by have := hge _ hk; omega, fun hk => by have := hge _ hk; omega⟩
  have HG : Hid (∀ k, (k = w.heap.size ∨ k = w2.heap.size ∨ BlkOf A5 k) → w.heap.size ≤ k) := Lib.hid (fun k hk => by
    have := hb2.size
    rcases hk with rfl | rfl | hk
    · omega
    · omega
    · have := hge k hk; omega)
  have HB : Hid (Below w.heap.size w (w5.setCell ⟨w.heap.size, 9, none⟩ (.slice A5 n5 c5))) := Lib.hid ((hb4.trans (hb5.mono hb4.size)).setCell (Nat.le_refl _) _)
  clear hl6 hs6 hz6 hge hl5 hb5 hb4 hs4 hk4 hu4 hsz6
  go_wp2
  go_ret
  exact ⟨_, _, rfl, HP.out, HG.out, HB.out⟩
set_option maxRecDepth 100000 in
set_option maxHeartbeats 2000000 in
theorem pm_new (w : World) (s : Int) (X : Option Addr) (nx cx : Nat) (xs : List Int) (hx : Rd .i64 w X nx cx xs) (hv : valP xs = true) :
    Calls Try.prog 7 #[.int .u64 s, .slice X nx cx] w fun e w' => ∃ p F, e = .returned (.tuple #[.pointer (some ⟨p, 0, none⟩), .int .i64 0]) ∧ Pm F w' p (PL.new s xs) ∧ (∀ k, F k → w.heap.size ≤ k) ∧ Below w.heap.size w w' := by
  go_enter Try.func7, Try.ntmps7
  go_wp2_with fail
  refine (setOf_any X nx cx xs w hx).mono ?_
  rintro e w1 ⟨rfl, hb1⟩
  have hz := Bk.new w1 54 (boolV (List.replicate 8 false))
  have HZL2 : Hid ((boolV (memB xs)).length = 8) := Lib.hid (by rw [boolV_len, memB_len])
  have hsb : setB xs = memB xs := by unfold setB; rw [if_pos hv]
  rw [hsb, hv]
  have HV := Lib.hid hv
  clear hsb hx hv
  go_wp2_with (refine wpList_store_bk rowSet rfl (.tmp 6) (.tmp 12) rfl w1.heap.size 0 rfl hz (boolV (memB xs)) rfl HZL2.out (by decide) (boolV_one _) ?_; rintro w2 hz2 hw2)
  rw [lay_all _ _ HZL2.out] at hz2
  have hb2 : Below w.heap.size w w2 := (hb1.alloc hb1.size _).trans (hw2.below hb1.size (by simp; have := hb1.size; omega))
  clear hz hw2
  refine wp_region_E Ext (by kernel_rfl) (fun wd hbd hsz => ?_)
  have hzd := hz2.below hbd
  have HZD := Lib.hid hzd
  clear hsz
  (refine takeE Ext.tr 0 (by simp only [List.getElem?_toArray, List.getElem?_cons_succ, List.getElem?_cons_zero]; rfl) (by kernel_rfl) (by kernel_rfl) (by kernel_rfl) (by exact fun _ _ _ h => h) (by first | (refine Or.inl ⟨by rfl, ?_⟩; intro W hW; go_simp; try with_reducible rfl) | exact Or.inr ⟨by rfl, rfl⟩) ?_; try simp only [Act.put, List.setIfInBounds_toArray, List.set_cons_zero, List.set_cons_succ])
  (refine takeE Ext.tr 2 (by simp only [List.getElem?_toArray, List.getElem?_cons_succ, List.getElem?_cons_zero]; rfl) (by kernel_rfl) (by kernel_rfl) (by kernel_rfl) (by exact fun _ _ _ h => h) (by first | (refine Or.inl ⟨by rfl, ?_⟩; intro W hW; exact exec_load_bk rowSet _ rfl w1.heap.size 0 rfl (HZD.out.below hW) (boolV (memB xs)) HZL2.out (by rw [boolV_len, memB_len]; rfl)) | exact Or.inr ⟨by rfl, rfl⟩) ?_; try simp only [Act.put, List.setIfInBounds_toArray, List.set_cons_zero, List.set_cons_succ])
  refine wpAnyE_one (i := 1) (by kernel_rfl) (by simp only [List.getElem?_toArray, List.getElem?_cons_succ, List.getElem?_cons_zero]; rfl) (fun K hK => ?_)
  go_simp
  refine (new_any s wd).mono ?_
  rintro e w3 ⟨rfl, hs3, hw3⟩
  have hb3 : Below wd.heap.size wd w3 := by rw [hw3]; exact (Below.refl _ _).alloc (Nat.le_refl _) _
  clear hw3
  refine hK.out _ _ hb3 ?_
  clear hK K
  try simp only [Act.put, List.setIfInBounds_toArray, List.set_cons_zero, List.set_cons_succ]
  (refine takeE Ext.tr 3 (by simp only [List.getElem?_toArray, List.getElem?_cons_succ, List.getElem?_cons_zero]; rfl) (by kernel_rfl) (by kernel_rfl) (by kernel_rfl) (by exact fun _ _ _ h => h) (by first | (refine Or.inl ⟨by rfl, ?_⟩; intro W hW; exact exec_build (vs' := #[(0, .pointer (some ⟨wd.heap.size, 0, none⟩)), (1, .agg (boolV (memB xs)).toArray)]) rfl (by simp only [List.map_toArray, List.map_cons, List.map_nil]; rfl) (build_list wd.heap.size (memB_len xs) W)) | exact Or.inr ⟨by rfl, rfl⟩) ?_; try simp only [Act.put, List.setIfInBounds_toArray, List.set_cons_zero, List.set_cons_succ])
  refine wpAnyE_one (i := 4) (by kernel_rfl) (by simp only [List.getElem?_toArray, List.getElem?_cons_succ, List.getElem?_cons_zero]; rfl) (fun K hK => ?_)
  go_simp
  refine hK.out _ _ ((Below.refl _ _).alloc (Nat.le_refl _) _) ?_
  clear hK K
  try simp only [Act.put, List.setIfInBounds_toArray, List.set_cons_zero, List.set_cons_succ]
  (refine takeE Ext.tr 5 (by simp only [List.getElem?_toArray, List.getElem?_cons_succ, List.getElem?_cons_zero]; rfl) (by kernel_rfl) (by kernel_rfl) (by kernel_rfl) (by exact fun _ _ _ h => h) (by first | (refine Or.inl ⟨by rfl, ?_⟩; intro W hW; go_simp; try with_reducible rfl) | exact Or.inr ⟨by rfl, rfl⟩) ?_; try simp only [Act.put, List.setIfInBounds_toArray, List.set_cons_zero, List.set_cons_succ])
  refine wpAnyE_done (by kernel_rfl) ?_ _
  skip
  have hbk := Bk.new w3 56 (cellsL wd.heap.size (memB xs) none 0 0 0 (List.replicate 8 0))
  have hs4 := hs3.below ((Below.refl _ _).alloc (Nat.le_refl _) (.cells (cellsL wd.heap.size (memB xs) none 0 0 0 (List.replicate 8 0)).toArray 56))
  have hbz := hb2.trans (hbd.mono hb2.size)
  have hb4 : Below w.heap.size w (w3.alloc (.cells (cellsL wd.heap.size (memB xs) none 0 0 0 (List.replicate 8 0)).toArray 56)) := (hbz.trans (hb3.mono hbz.size)).alloc (by have := hbz.size; have := hb3.size; omega) _
  have hbzs := hbz.size
  have hb3s := hb3.size
  have hlt3 := hs3.bk.lt
  rw [← memB_riseL xs] at hbk hs4 hb4 ⊢
  have HS4 := Lib.hid hs4
  have HBK := Lib.hid hbk
  have HB4 := Lib.hid hb4
  clear hs4 hbk hb4 HZD hzd hz2 hbz hb3 hb2 hs3 hbd hb1
  have hpq : w3.heap.size ≠ wd.heap.size := by omega
  go_wp2_with fail
  refine (begin_any _ w3.heap.size wd.heap.size s 0 (riseL xs) none 0 0 0 (List.replicate 8 0) HBK.out HS4.out (riseL_idem xs).symm hpq rfl (by omega) (by omega) (by omega) (by omega)).mono ?_
  rintro e w7 ⟨rfl, A', c', hk7, hs7, hl7, hst7⟩
  have hP := pm_begun (L := { s := s, i := 0, ps := riseL xs, rest := [], rounds := 0, told := List.replicate 8 0 }) (F := fun k => k = w3.heap.size ∨ k = wd.heap.size) (.inl rfl) (.inr rfl)
    (fun k hk => by rw [World.size_alloc]; omega) hpq hk7 hs7 hl7 hst7.size
  have HP : Hid (Pm (fun k => (k = w3.heap.size ∨ k = wd.heap.size) ∨ BlkOf A' k) w7 w3.heap.size (PL.new s xs)) := Lib.hid hP.1
  have HG : Hid (∀ k, ((k = w3.heap.size ∨ k = wd.heap.size) ∨ BlkOf A' k) → w.heap.size ≤ k) := Lib.hid (fun k hk => by
    rcases hP.2 k hk with hk | hk
    · omega
    · rw [World.size_alloc] at hk; omega)
  have HB := Lib.hid (HB4.out.trans (hst7.below HB4.out.size (fun k hk => by omega)))
  clear hP hk7 hs7 hl7 hst7
  go_wp2
  go_ret2
  exact ⟨_, _, rfl, HP.out, HG.out, HB.out⟩
set_option maxRecDepth 100000 in
theorem pm_new_bad (w : World) (s : Int) (X : Option Addr) (nx cx : Nat) (xs : List Int) (hx : Rd .i64 w X nx cx xs) (hv : valP xs = false) :
    Calls Try.prog 7 #[.int .u64 s, .slice X nx cx] w fun e w' => e = .returned (.tuple #[.pointer none, .int .i64 60]) ∧ Below w.heap.size w w' := by
  go_enter Try.func7, Try.ntmps7
  go_wp2_with fail
  refine (setOf_any X nx cx xs w hx).mono ?_
  rintro e w1 ⟨rfl, hb1⟩
  have hz := Bk.new w1 54 (boolV (List.replicate 8 false))
  have HZL2 : Hid ((boolV (setB xs)).length = 8) := Lib.hid (by unfold setB; split; rw [boolV_len, memB_len]; rfl)
  rw [hv]
  clear hx hv
  go_wp2_with (refine wpList_store_bk rowSet rfl (.tmp 6) (.tmp 12) rfl w1.heap.size 0 rfl hz (boolV (setB xs)) rfl HZL2.out (by decide) (boolV_one _) ?_; rintro w2 hz2 hw2)
  have hb2 : Below w.heap.size w w2 := (hb1.alloc hb1.size _).trans (hw2.below hb1.size (by simp; have := hb1.size; omega))
  go_ret2
  exact ⟨rfl, hb2⟩
end Go.Proofs.Ytiefgicapcljiaa
