/- Bitmaps in memory: Fork, Advance. -/
import Derived.Test.YtmmjhijgedboiaaB3
set_option linter.unusedSimpArgs false
set_option linter.unusedVariables false
set_option maxRecDepth 100000
namespace Go.Proofs.Ytmmjhijgedboiaa
open Go.RowKit Go.Shelf
theorem rowB : Row Try.prog 115 6 := ⟨⟨_, rfl, rfl⟩, by kernel_rfl⟩
section
variable {w w' : World} {p : Nat} {B : Bm} {m : Nat → Nat}
def zB : List Value := [.int .i64 0, .int .i64 0, .int .u64 0, .int .u64 0, .int .u64 0, .int .u64 0]
set_option maxHeartbeats 1000000 in
theorem b_fork (h : Bmp w p B) :
    Calls Try.prog 63 #[.pointer (some ⟨p, 0, none⟩)] w fun e w' => e = .returned (.pointer (some ⟨w.heap.size, 0, none⟩)) ∧ Bmp w' w.heap.size B ∧ Below w.heap.size w w' := by
  obtain ⟨ho, m, hm, h⟩ := h
  have hz : Bk (w.alloc (.cells #[.int .i64 0, .int .i64 0, .int .u64 0, .int .u64 0, .int .u64 0, .int .u64 0] 115)) 115 w.heap.size zB := Bk.new w _ zB
  go_enter Try.func63, Try.ntmps63
  go_wp2_with (first
    | (go_at_call 65; refine (b_made h ho).mono ?_; rintro e w' ⟨rfl, rfl⟩)
    | (with_reducible refine at_load 115 (.tmp 8) (by rfl) ?_; refine wpList_load_bk rowB rfl (.tmp 8) rfl p 0 rfl h (B.mem m) rfl rfl ?_)
    | (with_reducible refine at_store 115 (.tmp 3) (.tmp 9) (by rfl) ?_; refine wpList_store_bk rowB rfl (.tmp 3) (.tmp 9) rfl w.heap.size 0 rfl hz (B.mem m) rfl rfl (by decide) (B.mem_one m) ?_; rintro w3 hz3 hw3))
  go_ret
  rw [lay_all zB (B.mem m) rfl] at hz3
  exact ⟨rfl, ⟨ho, m, hm, hz3⟩, ((Below.refl _ w).alloc (Nat.le_refl _) _).trans (hw3.below (Nat.le_refl _) (by simp))⟩
theorem Bm.runs_le {B : Bm} (ho : B.ok) {k : Nat} (h : ∀ j, j < k → B.s (B.base + j) = true) : k ≤ 256 := by
  rcases Nat.eq_zero_or_pos k with h0 | h0
  · omega
  · have := ho.win _ (h (k - 1) (by omega))
    have := ho.s2
    omega
theorem Bm.has_base (B : Bm) : B.has B.base = B.s B.base := by
  unfold Bm.has
  rw [Int.toNat_natCast, decide_eq_true (show (0 : Int) ≤ B.base by omega), decide_eq_false (show ¬ (B.base : Int) < B.base by omega)]
  rfl
set_option maxRecDepth 100000 in
set_option maxHeartbeats 2000000 in
theorem b_advance (h : Bmp w p B) :
    Calls Try.prog 62 #[.pointer (some ⟨p, 0, none⟩)] w fun e w' => ∃ k, B.runs k ∧ e = .returned (.int .i64 k) ∧ Bd p (B.on k) w w' := by
  have ho := h.1
  have H0 := Lib.hid h
  clear h
  go_enter Try.func62, Try.ntmps62
  go_wp2
  go_loopw [3] (fun i wr => ∃ k : Nat, i = .int .i64 k ∧ (∀ j, j < k → B.s (B.base + j) = true) ∧ Bd p (B.on k) w wr) (fun i _ => 257 - (intOf i).toNat)
  case atStart => exact ⟨0, rfl, by omega, by rw [Bm.on_zero ho]; exact H0.out, St.refl _ _⟩
  case round =>
    obtain ⟨k, rfl, hj, hd⟩ := hrel
    have hk := Bm.runs_le ho hj
    have HJ := Lib.hid hj
    have HD := Lib.hid hd
    clear hj hd
    obtain ⟨B1, hB1⟩ : ∃ B1, B1 = B.on k := ⟨_, rfl⟩
    have HB1 := Lib.hid hB1
    have hbs : B1.base = B.base + k := by rw [hB1]; rfl
    have HBS := Lib.hid hbs
    rw [← hB1] at HD
    clear hB1 hbs
    have H1 := Lib.hid HD.out.bm
    have hb1 := H1.out.1.b1
    go_wp2_with fail
    refine (b_base H1.out).mono ?_
    rintro e w1 ⟨rfl, rfl⟩
    go_wp2_with fail
    refine (b_has H1.out _).mono ?_
    rintro e w1 ⟨rfl, hbl⟩
    rw [Bm.has_base]
    have HL := Lib.hid hbl
    clear hbl
    have H2 := Lib.hid (H1.out.below HL.out)
    cases hs : B1.s B1.base with
    | false =>
      have HR : Hid (B.runs k) := Lib.hid ⟨HJ.out, by
        rw [HBS.out, HB1.out] at hs
        have : (B.s (B.base + k) && decide (B.base + k ≤ B.base + k)) = false := hs
        simpa using this⟩
      have HQ : Hid (Bd p (B.on k) w w1) := Lib.hid ⟨by rw [← HB1.out]; exact H2.out, HD.out.st.trans (St.ext HL.out (F := (· = p))) (Gr.refl _ _)⟩
      clear hs
      go_wp2
      go_ret
      exact ⟨k, HR.out, rfl, HQ.out⟩
    | true =>
      have HJ2 : Hid (∀ j, j < k + 1 → B.s (B.base + j) = true) := Lib.hid (fun j hj => by
        rcases (by omega : j < k ∨ j = k) with h | rfl
        · exact HJ.out j h
        · rw [HBS.out, HB1.out] at hs
          have : (B.s (B.base + j) && decide (B.base + j ≤ B.base + j)) = true := hs
          simpa using this)
      obtain ⟨ho1, m, hm, hbk⟩ := H2.out
      have HO := Lib.hid (Bm.ok.step ho1 hs)
      have HMD := Lib.hid (hm.drop ho1)
      have HM := Lib.hid hm
      have HBK := Lib.hid hbk
      have hle : B1.base ≤ 1152921504606846976 := (ho1.win _ hs).2.2
      have hk2 : k < 256 := by have := Bm.runs_le ho HJ2.out; omega
      clear hs hm hbk ho1
      go_wp2
      refine wp_region_L Ext [7] (by kernel_rfl) (fun wd hbd hsz => ?_)
      have HBK2 := Lib.hid (HBK.out.below hbd)
      have HBD := Lib.hid hbd
      have q1 : ∀ W, Ext wd W → W.cell? ⟨p, 1, none⟩ = some (.int .i64 B1.base) := fun W hW => (HBK2.out.below hW).cell 1 rfl
      clear hsz
      (refine takeL Ext.tr 0 (by simp only [List.getElem?_toArray, List.getElem?_cons_succ, List.getElem?_cons_zero]; rfl) (by kernel_rfl) (by kernel_rfl) (by kernel_rfl) (by kernel_rfl) (by exact fun _ _ _ h => h) (by first | (refine Or.inl ⟨by rfl, ?_⟩; intro W hW; go_simp; try with_reducible rfl) | exact Or.inr ⟨by rfl, rfl⟩) ?_; try simp only [Act.put, List.setIfInBounds_toArray, List.set_cons_zero, List.set_cons_succ])
      (refine takeL Ext.tr 3 (by simp only [List.getElem?_toArray, List.getElem?_cons_succ, List.getElem?_cons_zero]; rfl) (by kernel_rfl) (by kernel_rfl) (by kernel_rfl) (by kernel_rfl) (by exact fun _ _ _ h => h) (by first | (refine Or.inl ⟨by rfl, ?_⟩; intro W hW; go_simp; try with_reducible rfl) | exact Or.inr ⟨by rfl, rfl⟩) ?_; try simp only [Act.put, List.setIfInBounds_toArray, List.set_cons_zero, List.set_cons_succ])
      (refine takeL Ext.tr 1 (by simp only [List.getElem?_toArray, List.getElem?_cons_succ, List.getElem?_cons_zero]; rfl) (by kernel_rfl) (by kernel_rfl) (by kernel_rfl) (by kernel_rfl) (by exact fun _ _ _ h => h) (by first | (refine Or.inl ⟨by rfl, ?_⟩; intro W hW; go_simp; try with_reducible rfl) | exact Or.inr ⟨by rfl, rfl⟩) ?_; try simp only [Act.put, List.setIfInBounds_toArray, List.set_cons_zero, List.set_cons_succ])
      (refine takeL Ext.tr 4 (by simp only [List.getElem?_toArray, List.getElem?_cons_succ, List.getElem?_cons_zero]; rfl) (by kernel_rfl) (by kernel_rfl) (by kernel_rfl) (by kernel_rfl) (by exact fun _ _ _ h => h) (by first | (refine Or.inl ⟨by rfl, ?_⟩; intro W hW; go_simp; try with_reducible rfl) | exact Or.inr ⟨by rfl, rfl⟩) ?_; try simp only [Act.put, List.setIfInBounds_toArray, List.set_cons_zero, List.set_cons_succ])
      (refine takeL Ext.tr 2 (by simp only [List.getElem?_toArray, List.getElem?_cons_succ, List.getElem?_cons_zero]; rfl) (by kernel_rfl) (by kernel_rfl) (by kernel_rfl) (by kernel_rfl) (by exact fun _ _ _ h => h) (by first | (refine Or.inl ⟨by rfl, ?_⟩; intro W hW; go_simp; try with_reducible rfl) | exact Or.inr ⟨by rfl, rfl⟩) ?_; try simp only [Act.put, List.setIfInBounds_toArray, List.set_cons_zero, List.set_cons_succ])
      (refine takeL Ext.tr 5 (by simp only [List.getElem?_toArray, List.getElem?_cons_succ, List.getElem?_cons_zero]; rfl) (by kernel_rfl) (by kernel_rfl) (by kernel_rfl) (by kernel_rfl) (by exact fun _ _ _ h => h) (by first | (refine Or.inl ⟨by rfl, ?_⟩; intro W hW; go_simp; try with_reducible rfl) | exact Or.inr ⟨by rfl, rfl⟩) ?_; try simp only [Act.put, List.setIfInBounds_toArray, List.set_cons_zero, List.set_cons_succ])
      (refine takeL Ext.tr 6 (by simp only [List.getElem?_toArray, List.getElem?_cons_succ, List.getElem?_cons_zero]; rfl) (by kernel_rfl) (by kernel_rfl) (by kernel_rfl) (by kernel_rfl) (by exact fun _ _ _ h => h) (by first | (refine Or.inl ⟨by rfl, ?_⟩; intro W hW; go_simp; try with_reducible rfl) | exact Or.inr ⟨by rfl, rfl⟩) ?_; try simp only [Act.put, List.setIfInBounds_toArray, List.set_cons_zero, List.set_cons_succ])
      refine wpAnyL_one (i := 7) (by kernel_rfl) (by simp only [List.getElem?_toArray, List.getElem?_cons_succ, List.getElem?_cons_zero]; rfl) (fun K hK => ?_)
      go_simp
      refine (marks_drop (HBK2.out) HM.out.lt B1.base (by omega)).mono ?_
      rintro e v3 ⟨⟨v, rfl⟩, hb3, hs3⟩
      refine hK.out _ _ (.inl (by decide)) ?_
      clear hK K
      try simp only [Act.put, List.setIfInBounds_toArray, List.set_cons_zero, List.set_cons_succ]
      refine wpAnyL_done (by kernel_rfl) ?_ _
      clear q1
      have c1 := hb3.cell 1 (v := .int .i64 B1.base) rfl
      have f1 := hb3.free 1
      have HQ := Lib.hid (hb3.set 1 (.int .i64 ((B1.base : Int) + 1)))
      have HST := Lib.hid (((St.ext HL.out (F := (· = p))).trans ((St.ext hbd (F := (· = p))).trans hs3 (Gr.refl _ _)) (Gr.refl _ _)).trans (St.setCell v3 (a := ⟨p, 1, none⟩) (F := (· = p)) rfl (.int .i64 ((B1.base : Int) + 1))) (Gr.refl _ _))
      clear hb3 hs3 HBD
      go_wp2
      go_roundw
      case rel =>
        refine ⟨k + 1, by go_num, HJ2.out, ?_, HD.out.st.trans HST.out (Gr.refl _ _)⟩
        rw [← Bm.on_on, ← HB1.out]
        exact ⟨HO.out, _, HMD.out, HQ.out⟩
      case measure => simp [intOf]; omega
end
end Go.Proofs.Ytmmjhijgedboiaa
