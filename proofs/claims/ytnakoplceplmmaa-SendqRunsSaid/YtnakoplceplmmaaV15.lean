/- The document's queue: sent, repeated, asked for a piece. -/
import Derived.Test.YtnakoplceplmmaaV14
set_option linter.unusedSimpArgs false
set_option linter.unusedVariables false
namespace Go.Proofs.Ytnakoplceplmmaa
open Go.RowKit Go.Shelf
section
variable {X X' F : Nat → Prop} {w w' : World} {m : Sm} {A B C : Option Addr} {n c k d r e : Nat}
/-- The two boxes of a call of the document's: the queue's, the answer's. -/
def bx2 (w : World) (cs : List Value) : World := (w.alloc (.cells cs.toArray 31)).alloc (.cells #[.int .i64 0, .slice none 0 0, .slice none 0 0, .int .i64 0, .slice none 0 0] 31)
theorem bx2_all (w : World) (cs : List Value) : Bk (bx2 w cs) 31 w.heap.size cs ∧ Bk (bx2 w cs) 31 (w.heap.size + 1) [.int .i64 0, .slice none 0 0, .slice none 0 0, .int .i64 0, .slice none 0 0] ∧ Below w.heap.size w (bx2 w cs) := by
  refine ⟨(Bk.new w 31 cs).alloc _, ?_, ((Below.refl _ _).alloc (Nat.le_refl _) _).alloc (by simp) _⟩
  have := Bk.new (w.alloc (.cells cs.toArray 31)) 31 [.int .i64 0, .slice none 0 0, .slice none 0 0, .int .i64 0, .slice none 0 0]
  rw [World.size_alloc] at this
  exact this
theorem two_st {w w1 w2 : World} {g : Nat} (h : Below w.heap.size w w1) (hw : Wr g w1 w2) (hg : w.heap.size ≤ g) : Below w.heap.size w w2 := h.trans ((st_wr hw).below h.size (fun j hj => by omega))
/-- What reads does not lie in boxes of queues that are new. -/
theorem RqA.box (h : RqA X w m A n c B k d C r e) {w1 w2 : World} {g : Nat} (hb : Below w.heap.size w w1) (hw : Wr g w1 w2) (hg : w.heap.size ≤ g) : RqA X w2 m A n c B k d C r e := by
  have h2 := two_st hb hw hg
  exact ⟨h.l.below h2, h.k.below h2, h.r.below h2⟩
set_option maxHeartbeats 1000000 in
theorem r_send (h : RqA X w m A n c B k d C r e) (ok : m.Ok) : Calls Try.prog 12 #[.agg #[.int .i64 m.most, .slice A n c, .slice B k d, .int .i64 m.nx, .slice C r e]] w (Rt3 X m.send (.int .i64 m.sent) (.bool m.can) w) := by
  obtain ⟨z1, z2, hb⟩ := bx2_all w [.int .i64 m.most, .slice A n c, .slice B k d, .int .i64 m.nx, .slice C r e]
  have hn := h.hn
  have hbig := ok.big
  have c3 := z1.cell 3 rfl
  have c1 := z1.cell 1 rfl
  by_cases hlt : m.nx < m.L.length
  · have HV : Hid (m.sent = m.nx ∧ m.can = true ∧ m.send = ⟨m.most, m.lo, m.nx + 1, m.L, m.K, m.row⟩) := Lib.hid ⟨by unfold Sm.sent; rw [if_pos hlt], by simp [Sm.can, hlt], by unfold Sm.send; rw [if_pos hlt]⟩
    have hnx : (m.nx : Int) < n := by omega
    have hnxb : m.nx ≤ 1000000000 := by omega
    have f3 := z1.free 3
    obtain ⟨z1s, z2s, hb2⟩ := bx2_all w [.int .i64 m.most, .slice A n c, .slice B k d, .int .i64 ((m.nx : Int) + 1), .slice C r e]
    have H := Lib.hid h
    have HS := Lib.hid (And.intro z1s (And.intro z2s hb2))
    have hw1 : IntKind.i64.wrap ((m.nx : Int) + 1) = (m.nx : Int) + 1 := by rw [IntKind.wrap_i64]; omega
    have hw2 : IntKind.i64.wrap (m.nx : Int) = (m.nx : Int) := by rw [IntKind.wrap_i64]; omega
    clear h ok z1 z2 hb z1s z2s hb2 hn
    unfold bx2 at *
    go_enter Try.func12, Try.ntmps12
    go_wp2_with fail
    refine wp_region_E (St (· = w.heap.size + 1)) (by kernel_rfl) (fun wd hbd hsz => ?_)
    have HBD := Lib.hid (below_on HS.out.2.2 hbd)
    have zd1 := HS.out.1.below hbd
    have zd2 := HS.out.2.1.below hbd
    have q3 : ∀ W, St (· = w.heap.size + 1) wd W → W.cell? ⟨w.heap.size, 3, none⟩ = some (.int .i64 ((m.nx : Int) + 1)) := fun W hW => (zd1.st hW (by omega)).cell 3 rfl
    have HZ1 := Lib.hid zd1
    clear hsz zd1
    (refine takeE (St.tr (· = w.heap.size + 1)) 0 (by simp only [List.getElem?_toArray, List.getElem?_cons_succ, List.getElem?_cons_zero]; rfl) (by kernel_rfl) (by kernel_rfl) (by kernel_rfl) (by exact fun _ _ _ h => h) (by first | (refine Or.inl ⟨by rfl, ?_⟩; intro W hW; exact exec_load_bk rowR (.tmp 1) rfl w.heap.size 0 rfl (HZ1.out.st hW (by omega)) [.int .i64 m.most, .slice A n c, .slice B k d, .int .i64 ((m.nx : Int) + 1), .slice C r e] rfl rfl) | exact Or.inr ⟨by rfl, rfl⟩) ?_; try simp only [Act.put, List.setIfInBounds_toArray, List.set_cons_zero, List.set_cons_succ])
    (refine takeE (St.tr (· = w.heap.size + 1)) 1 (by simp only [List.getElem?_toArray, List.getElem?_cons_succ, List.getElem?_cons_zero]; rfl) (by kernel_rfl) (by kernel_rfl) (by kernel_rfl) (by exact fun _ _ _ h => h) (by first | (refine Or.inl ⟨by rfl, ?_⟩; intro W hW; go_simp; try with_reducible rfl) | exact Or.inr ⟨by rfl, rfl⟩) ?_; try simp only [Act.put, List.setIfInBounds_toArray, List.set_cons_zero, List.set_cons_succ])
    (refine takeE (St.tr (· = w.heap.size + 1)) 2 (by simp only [List.getElem?_toArray, List.getElem?_cons_succ, List.getElem?_cons_zero]; rfl) (by kernel_rfl) (by kernel_rfl) (by kernel_rfl) (by exact fun _ _ _ h => h) (by first | (refine Or.inl ⟨by rfl, ?_⟩; intro W hW; go_simp; try with_reducible rfl) | exact Or.inr ⟨by rfl, rfl⟩) ?_; try simp only [Act.put, List.setIfInBounds_toArray, List.set_cons_zero, List.set_cons_succ])
    (refine takeE (St.tr (· = w.heap.size + 1)) 3 (by simp only [List.getElem?_toArray, List.getElem?_cons_succ, List.getElem?_cons_zero]; rfl) (by kernel_rfl) (by kernel_rfl) (by kernel_rfl) (by exact fun _ _ _ h => h) (by first | (refine Or.inl ⟨by rfl, ?_⟩; intro W hW; go_simp; try with_reducible rfl) | exact Or.inr ⟨by rfl, rfl⟩) ?_; try simp only [Act.put, List.setIfInBounds_toArray, List.set_cons_zero, List.set_cons_succ])
    refine wpAnyE_one (i := 4) (by kernel_rfl) (by simp only [List.getElem?_toArray, List.getElem?_cons_succ, List.getElem?_cons_zero]; rfl) (fun K hK => ?_)
    refine opwp_store_bk rowR rfl (.tmp 2) (.tmp 16) rfl (w.heap.size + 1) 0 rfl zd2 [.int .i64 m.most, .slice A n c, .slice B k d, .int .i64 ((m.nx : Int) + 1), .slice C r e] rfl rfl (by show 0 + 5 ≤ 5; omega) (by simp [Value.oneCell']) ?_
    intro w6 hz6 hw6
    rw [lay_all _ _ (by rfl)] at hz6
    have HZ9 := Lib.hid (And.intro hz6 (And.intro (two_st HBD.out hw6 (by omega)) (H.out.box HBD.out hw6 (by omega))))
    have hw9 := hw6
    clear hz6 hw6 zd2
    refine hK.out _ _ (st_wr hw9) ?_
    clear hK K
    try simp only [Act.put, List.setIfInBounds_toArray, List.set_cons_zero, List.set_cons_succ]
    (refine takeE (St.tr (· = w.heap.size + 1)) 5 (by simp only [List.getElem?_toArray, List.getElem?_cons_succ, List.getElem?_cons_zero]; rfl) (by kernel_rfl) (by kernel_rfl) (by kernel_rfl) (by exact fun _ _ _ h => h) (by first | (refine Or.inl ⟨by rfl, ?_⟩; intro W hW; go_simp; try with_reducible rfl) | exact Or.inr ⟨by rfl, rfl⟩) ?_; try simp only [Act.put, List.setIfInBounds_toArray, List.set_cons_zero, List.set_cons_succ])
    (refine takeE (St.tr (· = w.heap.size + 1)) 6 (by simp only [List.getElem?_toArray, List.getElem?_cons_succ, List.getElem?_cons_zero]; rfl) (by kernel_rfl) (by kernel_rfl) (by kernel_rfl) (by exact fun _ _ _ h => h) (by first | (refine Or.inl ⟨by rfl, ?_⟩; intro W hW; go_simp; try with_reducible rfl) | exact Or.inr ⟨by rfl, rfl⟩) ?_; try simp only [Act.put, List.setIfInBounds_toArray, List.set_cons_zero, List.set_cons_succ])
    refine wpAnyE_done (by kernel_rfl) ?_ _
    clear q3
    go_wp2
    refine bodyPost_ret (results_cell_tmp2 rfl rfl (rowR.load HZ9.out.1 0 (cs := [.int .i64 m.most, .slice A n c, .slice B k d, .int .i64 ((m.nx : Int) + 1), .slice C r e]) rfl rfl)) rfl ?_
    rw [HV.out.1, HV.out.2.1, HV.out.2.2]
    exact ⟨A, n, c, B, k, d, C, r, e, by simp [show (((m.nx + 1 : Nat) : Int)) = (m.nx : Int) + 1 from by omega], ⟨HZ9.out.2.2.l, HZ9.out.2.2.k, HZ9.out.2.2.r⟩, HZ9.out.2.1⟩
  · have HV : Hid (m.sent = 0 ∧ m.can = false ∧ m.send = m) := Lib.hid ⟨by unfold Sm.sent; rw [if_neg hlt], by simp [Sm.can]; omega, by unfold Sm.send; rw [if_neg hlt]⟩
    have hnx : ¬ (m.nx : Int) < n := by omega
    have H := Lib.hid h
    have HB := Lib.hid hb
    clear h ok hn hb
    unfold bx2 at *
    go_enter Try.func12, Try.ntmps12
    go_wp2_with (first
      | (with_reducible refine at_load 31 (.tmp 1) (by rfl) ?_
         refine wpList_load_bk rowR rfl (.tmp 1) rfl w.heap.size 0 rfl z1 [.int .i64 m.most, .slice A n c, .slice B k d, .int .i64 m.nx, .slice C r e] rfl rfl ?_)
      | (with_reducible refine at_store 31 (.tmp 2) (.tmp 11) (by rfl) ?_
         refine wpList_store_bk rowR rfl (.tmp 2) (.tmp 11) rfl (w.heap.size + 1) 0 rfl z2 [.int .i64 m.most, .slice A n c, .slice B k d, .int .i64 m.nx, .slice C r e] rfl rfl (by show 0 + 5 ≤ 5; omega) (by simp [Value.oneCell']) ?_
         intro w3 hz3 hw3))
    rw [lay_all _ _ (by rfl)] at hz3
    refine bodyPost_ret (results_cell_tmp2 rfl rfl (rowR.load hz3 0 (cs := [.int .i64 m.most, .slice A n c, .slice B k d, .int .i64 m.nx, .slice C r e]) rfl rfl)) rfl ?_
    rw [HV.out.1, HV.out.2.1, HV.out.2.2]
    exact ⟨A, n, c, B, k, d, C, r, e, rfl, H.out.box HB.out hw3 (by omega), two_st HB.out hw3 (by omega)⟩
set_option maxHeartbeats 1000000 in
theorem r_repeat (h : RqA X w m A n c B k d C r e) (ok : m.Ok) : Calls Try.prog 18 #[.agg #[.int .i64 m.most, .slice A n c, .slice B k d, .int .i64 m.nx, .slice C r e]] w (Rt3 X m.rept (.int .i64 m.head) (.bool m.any) w) := by
  obtain ⟨z1, z2, hb⟩ := bx2_all w [.int .i64 m.most, .slice A n c, .slice B k d, .int .i64 m.nx, .slice C r e]
  have hr := h.hr
  have c4 := z1.cell 4 rfl
  by_cases hrow : m.row = []
  · have HV : Hid (m.head = 0 ∧ m.any = false ∧ m.rept = m) := Lib.hid ⟨by simp [Sm.head, hrow], by simp [Sm.any, hrow], by unfold Sm.rept; obtain ⟨a1, a2, a3, a4, a5, a6⟩ := m; simp only at hrow; subst hrow; rfl⟩
    obtain rfl : r = 0 := by rw [hr, hrow]; rfl
    have H := Lib.hid h
    have HB := Lib.hid hb
    clear h ok hr hb hrow
    unfold bx2 at *
    go_enter Try.func18, Try.ntmps18
    go_wp2_with (first
      | (with_reducible refine at_load 31 (.tmp 1) (by rfl) ?_
         refine wpList_load_bk rowR rfl (.tmp 1) rfl w.heap.size 0 rfl z1 [.int .i64 m.most, .slice A n c, .slice B k d, .int .i64 m.nx, .slice C 0 e] rfl rfl ?_)
      | (with_reducible refine at_store 31 (.tmp 2) (.tmp 10) (by rfl) ?_
         refine wpList_store_bk rowR rfl (.tmp 2) (.tmp 10) rfl (w.heap.size + 1) 0 rfl z2 [.int .i64 m.most, .slice A n c, .slice B k d, .int .i64 m.nx, .slice C 0 e] rfl rfl (by show 0 + 5 ≤ 5; omega) (by simp [Value.oneCell']) ?_
         intro w3 hz3 hw3))
    rw [lay_all _ _ (by rfl)] at hz3
    refine bodyPost_ret (results_cell_tmp2 rfl rfl (rowR.load hz3 0 (cs := [.int .i64 m.most, .slice A n c, .slice B k d, .int .i64 m.nx, .slice C 0 e]) rfl rfl)) rfl ?_
    rw [HV.out.1, HV.out.2.1, HV.out.2.2]
    exact ⟨A, n, c, B, k, d, C, 0, e, rfl, H.out.box HB.out hw3 (by omega), two_st HB.out hw3 (by omega)⟩
  · obtain ⟨x, rr, hxr⟩ : ∃ x rr, m.row = x :: rr := by cases hh : m.row with | nil => exact absurd hh hrow | cons x rr => exact ⟨x, rr, rfl⟩
    have hr0 : 0 < r := by rw [hr, hxr]; simp
    have hre := h.r.1.2.1
    obtain ⟨g1, o, rfl, hg1, hc⟩ := h.r.1.cell hr0
    have c5 : (bx2 w [.int .i64 m.most, .slice A n c, .slice B k d, .int .i64 m.nx, .slice (some ⟨g1, o, none⟩) r e]).cell? ⟨g1, o + 0, none⟩ = some (.int .i64 x) := by rw [hb.cell (p := ⟨g1, o + 0, none⟩) hg1, hc, hxr]; rfl
    rw [Nat.add_zero] at c5
    have hcut : ∀ W : World, (Instr.slice 29 (.slice (some ⟨g1, o, none⟩) r e) (some (.int .i64 1)) none none).run Try.prog W = .ok (.slice (cutA (some ⟨g1, o, none⟩) e 1) (r - 1) (e - 1)) W := fun W => eltI.run_cut (some ⟨g1, o, none⟩) r e 1 hr0 hre W
    have HV : Hid (m.head = x ∧ m.any = true) := Lib.hid ⟨by simp [Sm.head, hxr], by simp [Sm.any, hxr]⟩
    have hrc : RdX X w (cutA (some ⟨g1, o, none⟩) e 1) (r - 1) (e - 1) (intV m.rept.row) := by
      refine ⟨by unfold Sm.rept; rw [intV_drop]; exact h.r.1.cut (s := 1) hr0, fun hn j hj => h.r.2 hr0 j (cutA_blk.1 hj)⟩
    have hr0' : ((r : Int) == 0) = false := by simp; omega
    have hr0'' : (0 : Int) < r := by omega
    have f4 := z1.free 4
    generalize cutA (some ⟨g1, o, none⟩) e 1 = D at *
    obtain ⟨z1s, z2s, hb2⟩ := bx2_all w [.int .i64 m.most, .slice A n c, .slice B k d, .int .i64 m.nx, .slice D (r - 1) (e - 1)]
    have HQ : Hid (RqA X w m.rept A n c B k d D (r - 1) (e - 1)) := Lib.hid ⟨h.l, h.k, hrc⟩
    have HB := Lib.hid hb2
    clear h ok z1 z2 hb hb2 hrc hc hxr hrow hr
    unfold bx2 at *
    go_enter Try.func18, Try.ntmps18
    go_wp2_with (first
      | (with_reducible refine at_load 31 (.tmp 1) (by rfl) ?_
         refine wpList_load_bk rowR rfl (.tmp 1) rfl w.heap.size 0 rfl z1s [.int .i64 m.most, .slice A n c, .slice B k d, .int .i64 m.nx, .slice D (r - 1) (e - 1)] rfl rfl ?_)
      | (with_reducible refine at_store 31 (.tmp 2) (.tmp 19) (by rfl) ?_
         refine wpList_store_bk rowR rfl (.tmp 2) (.tmp 19) rfl (w.heap.size + 1) 0 rfl z2s [.int .i64 m.most, .slice A n c, .slice B k d, .int .i64 m.nx, .slice D (r - 1) (e - 1)] rfl rfl (by show 0 + 5 ≤ 5; omega) (by simp [Value.oneCell']) ?_
         intro w3 hz3 hw3))
    rw [lay_all _ _ (by rfl)] at hz3
    refine bodyPost_ret (results_cell_tmp2 rfl rfl (rowR.load hz3 0 (cs := [.int .i64 m.most, .slice A n c, .slice B k d, .int .i64 m.nx, .slice D (r - 1) (e - 1)]) rfl rfl)) rfl ?_
    rw [HV.out.1, HV.out.2]
    exact ⟨A, n, c, B, k, d, D, r - 1, e - 1, rfl, HQ.out.box HB.out hw3 (by omega), two_st HB.out hw3 (by omega)⟩
end
end Go.Proofs.Ytnakoplceplmmaa
