/- A port stands as the document's. -/
import Derived.Test.YtcmakhkbkfkhkaaP21
set_option linter.unusedSimpArgs false
set_option linter.unusedVariables false
namespace Go.Proofs.Ytcmakhkbkfkhkaa
open Go.RowKit Go.Shelf
theorem arr5 : ArrE Try.prog 28 3 5 := ⟨rfl, ⟨_, rfl, rfl⟩, by kernel_rfl⟩
theorem row5 : Row Try.prog 28 5 := ⟨⟨_, rfl, rfl⟩, by kernel_rfl⟩
section
variable {F X G : Nat → Prop} {w w' : World} {b : Nat} {m : AM} {pl ph : Nat} {Fl Fh : Nat → Prop} {ql qh : List Pv} {r : RV}
set_option maxHeartbeats 4000000 in
set_option maxRecDepth 100000 in
theorem p_same (h : PbC F X w b m pl ph Fl Fh ql qh) (hr : RpR G w r m) (hG : ∀ k, G k → k < w.heap.size) (hl : m.low.length ≤ 1024) (hh : m.high.length ≤ 1024) :
    Calls Try.prog 19 #[.pointer (some ⟨b, 0, none⟩), .agg #[.slice r.a1 r.n1 r.c1, .slice r.a2 r.n2 r.c2, .int .i64 m.lr, .int .i64 m.hr, .int .i64 m.wt, .int .i64 m.run, .int .i64 (m.ct 0), .int .i64 (m.ct 1), .int .i64 (m.ct 2), .int .i64 (m.ct 3), .int .i64 (m.ct 4)]] w fun e w' => e = .returned (.bool true) ∧ Below w.heap.size w w' := by
  have HL : Hid (∀ o, Calls Try.prog 20 #[.pointer (some ⟨b, 0, none⟩)] (w.alloc o) fun e w' => e = .returned (.tuple #[.int .i64 r.n1, .int .i64 r.n2]) ∧ Below (w.alloc o).heap.size (w.alloc o) w') := Lib.hid fun o => by
    have := pt_lens (h.below ((Below.refl _ _).alloc (Nat.le_refl _) o))
    rw [hr.lo.len, hr.hi.len] at this; exact this
  have HH := Lib.hid h
  have HR := Lib.hid hr
  have HG := Lib.hid hG
  have HN1 : Hid (r.n1 ≤ 100000) := Lib.hid (by rw [← hr.lo.len]; omega)
  have HN2 : Hid (r.n2 ≤ 100000) := Lib.hid (by rw [← hr.hi.len]; omega)
  clear h hr hG hl hh
  go_enter Try.func19, Try.ntmps19
  go_wp2_with fail
  refine (HL.out _).mono ?_
  rintro e w1 ⟨rfl, hb1⟩
  have b3 := (Bk.new w 30 [.slice r.a1 r.n1 r.c1, .slice r.a2 r.n2 r.c2, .int .i64 m.lr, .int .i64 m.hr, .int .i64 m.wt, .int .i64 m.run, .int .i64 (m.ct 0), .int .i64 (m.ct 1), .int .i64 (m.ct 2), .int .i64 (m.ct 3), .int .i64 (m.ct 4)]).below hb1
  have hc1 := ((Below.refl w.heap.size w).alloc (Nat.le_refl _) (.cells (List.toArray [.slice r.a1 r.n1 r.c1, .slice r.a2 r.n2 r.c2, .int .i64 m.lr, .int .i64 m.hr, .int .i64 m.wt, .int .i64 m.run, .int .i64 (m.ct 0), .int .i64 (m.ct 1), .int .i64 (m.ct 2), .int .i64 (m.ct 3), .int .i64 (m.ct 4)]) 30)).trans (hb1.mono (by simp))
  have HPk := Lib.hid (pt_peek (HH.out.below hc1) (Y := fun _ => False) (fun _ h => h.elim))
  clear hb1 HL
  go_wp2_with fail
  refine HPk.out.mono ?_
  rintro e w2 ⟨q7, rfl, hk7, hr7, hb2⟩
  have hba := (Below.refl w2.heap.size w2).alloc (Nat.le_refl _) (.cells (List.toArray [.int .i64 q7.h.kd, .int .i64 q7.h.fl, .int .i64 q7.h.pa, .int .i64 q7.h.sr, .int .i64 q7.h.ds, .int .i64 q7.h.cn, .int .i64 q7.h.sq, .int .i64 q7.h.pu, .slice q7.A q7.n q7.c]) 37)
  have b32 := (b3.below hb2).below hba
  have b7 := Bk.new w2 37 [.int .i64 q7.h.kd, .int .i64 q7.h.fl, .int .i64 q7.h.pa, .int .i64 q7.h.sr, .int .i64 q7.h.ds, .int .i64 q7.h.cn, .int .i64 q7.h.sq, .int .i64 q7.h.pu, .slice q7.A q7.n q7.c]
  have hc2 := (below_on hc1 hb2).trans (hba.mono (below_on hc1 hb2).size)
  have HRP := Lib.hid (r_peek (HR.out.below hc2) (fun k hk => Nat.lt_of_lt_of_le (HG.out k hk) hc2.size))
  have HK7 := Lib.hid hk7
  have HR7 := Lib.hid (hr7.below hba)
  clear b3 hc1 hk7 hr7 hb2 hba HPk
  go_wp2_with (with_reducible refine at_load 30 (.tmp 3) (by rfl) ?_; refine wpList_load_rp rowR rfl (.tmp 3) rfl r m w.heap.size rfl b32 ?_)
  refine HRP.out.mono ?_
  rintro e w3 ⟨q9, rfl, hk9, hr9, hb3⟩
  have hbb := (Below.refl w3.heap.size w3).alloc (Nat.le_refl _) (.cells (List.toArray [.int .i64 q9.h.kd, .int .i64 q9.h.fl, .int .i64 q9.h.pa, .int .i64 q9.h.sr, .int .i64 q9.h.ds, .int .i64 q9.h.cn, .int .i64 q9.h.sq, .int .i64 q9.h.pu, .slice q9.A q9.n q9.c]) 37)
  have b33 := (b32.below hb3).below hbb
  have b73 := (b7.below hb3).below hbb
  have b9 := Bk.new w3 37 [.int .i64 q9.h.kd, .int .i64 q9.h.fl, .int .i64 q9.h.pa, .int .i64 q9.h.sr, .int .i64 q9.h.ds, .int .i64 q9.h.cn, .int .i64 q9.h.sq, .int .i64 q9.h.pu, .slice q9.A q9.n q9.c]
  have hc3 := (below_on hc2 hb3).trans (hbb.mono (below_on hc2 hb3).size)
  have hr73 := (HR7.out.below hb3).below hbb
  have hr93 := hr9.below hbb
  have HSB : Hid (q7.pk.sameB q9.pk = true) := Lib.hid (by rw [HK7.out, hk9]; exact Pk.same_refl _)
  clear b32 b7 hc2 hk9 hr9 hb3 hbb HRP
  go_wp2_with fail
  refine wp_region_E Ext (by kernel_rfl) (fun wd hbd hsz => ?_)
  have HP := Lib.hid (HH.out.below (below_on hc3 hbd))
  have HRP := Lib.hid (HR.out.below (below_on hc3 hbd))
  have HB3 := Lib.hid (below_on hc3 hbd)
  have HQ7 := Lib.hid (hr73.below hbd)
  have HQ9 := Lib.hid (hr93.below hbd)
  have HX3 := Lib.hid (b33.below hbd)
  have HX7 := Lib.hid (b73.below hbd)
  have HX9 := Lib.hid (b9.below hbd)
  have q0 : ∀ W, Ext wd W → W.cell? ⟨w.heap.size, 0, none⟩ = some (.slice r.a1 r.n1 r.c1) := fun W hW => (HX3.out.below hW).cell 0 rfl
  have q1 : ∀ W, Ext wd W → W.cell? ⟨w.heap.size, 1, none⟩ = some (.slice r.a2 r.n2 r.c2) := fun W hW => (HX3.out.below hW).cell 1 rfl
  clear hsz hc3 hr73 hr93 b33 b73 b9
  (refine takeE Ext.tr 0 (by simp only [List.getElem?_toArray, List.getElem?_cons_succ, List.getElem?_cons_zero]; rfl) (by kernel_rfl) (by kernel_rfl) (by kernel_rfl) (by exact fun _ _ _ h => h) (by first | (refine Or.inl ⟨by rfl, ?_⟩; intro W hW; go_simp; try with_reducible rfl) | exact Or.inr ⟨by rfl, rfl⟩) ?_; try simp only [Act.put, List.setIfInBounds_toArray, List.set_cons_zero, List.set_cons_succ])
  (refine takeE Ext.tr 1 (by simp only [List.getElem?_toArray, List.getElem?_cons_succ, List.getElem?_cons_zero]; rfl) (by kernel_rfl) (by kernel_rfl) (by kernel_rfl) (by exact fun _ _ _ h => h) (by first | (refine Or.inl ⟨by rfl, ?_⟩; intro W hW; go_simp; try with_reducible rfl) | exact Or.inr ⟨by rfl, rfl⟩) ?_; try simp only [Act.put, List.setIfInBounds_toArray, List.set_cons_zero, List.set_cons_succ])
  (refine takeE Ext.tr 2 (by simp only [List.getElem?_toArray, List.getElem?_cons_succ, List.getElem?_cons_zero]; rfl) (by kernel_rfl) (by kernel_rfl) (by kernel_rfl) (by exact fun _ _ _ h => h) (by first | (refine Or.inl ⟨by rfl, ?_⟩; intro W hW; go_simp; try with_reducible rfl) | exact Or.inr ⟨by rfl, rfl⟩) ?_; try simp only [Act.put, List.setIfInBounds_toArray, List.set_cons_zero, List.set_cons_succ])
  (refine takeE Ext.tr 3 (by simp only [List.getElem?_toArray, List.getElem?_cons_succ, List.getElem?_cons_zero]; rfl) (by kernel_rfl) (by kernel_rfl) (by kernel_rfl) (by exact fun _ _ _ h => h) (by first | (refine Or.inl ⟨by rfl, ?_⟩; intro W hW; go_simp; try with_reducible rfl) | exact Or.inr ⟨by rfl, rfl⟩) ?_; try simp only [Act.put, List.setIfInBounds_toArray, List.set_cons_zero, List.set_cons_succ])
  (refine takeE Ext.tr 4 (by simp only [List.getElem?_toArray, List.getElem?_cons_succ, List.getElem?_cons_zero]; rfl) (by kernel_rfl) (by kernel_rfl) (by kernel_rfl) (by exact fun _ _ _ h => h) (by first | (refine Or.inl ⟨by rfl, ?_⟩; intro W hW; go_simp; try with_reducible rfl) | exact Or.inr ⟨by rfl, rfl⟩) ?_; try simp only [Act.put, List.setIfInBounds_toArray, List.set_cons_zero, List.set_cons_succ])
  (refine takeE Ext.tr 5 (by simp only [List.getElem?_toArray, List.getElem?_cons_succ, List.getElem?_cons_zero]; rfl) (by kernel_rfl) (by kernel_rfl) (by kernel_rfl) (by exact fun _ _ _ h => h) (by first | (refine Or.inl ⟨by rfl, ?_⟩; intro W hW; go_simp; try with_reducible rfl) | exact Or.inr ⟨by rfl, rfl⟩) ?_; try simp only [Act.put, List.setIfInBounds_toArray, List.set_cons_zero, List.set_cons_succ])
  (refine takeE Ext.tr 6 (by simp only [List.getElem?_toArray, List.getElem?_cons_succ, List.getElem?_cons_zero]; rfl) (by kernel_rfl) (by kernel_rfl) (by kernel_rfl) (by exact fun _ _ _ h => h) (by first | (refine Or.inl ⟨by rfl, ?_⟩; intro W hW; go_simp; try with_reducible rfl) | exact Or.inr ⟨by rfl, rfl⟩) ?_; try simp only [Act.put, List.setIfInBounds_toArray, List.set_cons_zero, List.set_cons_succ])
  (refine takeE Ext.tr 7 (by simp only [List.getElem?_toArray, List.getElem?_cons_succ, List.getElem?_cons_zero]; rfl) (by kernel_rfl) (by kernel_rfl) (by kernel_rfl) (by exact fun _ _ _ h => h) (by first | (refine Or.inl ⟨by rfl, ?_⟩; intro W hW; go_simp; try with_reducible rfl) | exact Or.inr ⟨by rfl, rfl⟩) ?_; try simp only [Act.put, List.setIfInBounds_toArray, List.set_cons_zero, List.set_cons_succ])
  (refine takeE Ext.tr 8 (by simp only [List.getElem?_toArray, List.getElem?_cons_succ, List.getElem?_cons_zero]; rfl) (by kernel_rfl) (by kernel_rfl) (by kernel_rfl) (by exact fun _ _ _ h => h) (by first | (refine Or.inl ⟨by rfl, ?_⟩; intro W hW; go_simp; try with_reducible rfl) | exact Or.inr ⟨by rfl, rfl⟩) ?_; try simp only [Act.put, List.setIfInBounds_toArray, List.set_cons_zero, List.set_cons_succ])
  (refine takeE Ext.tr 9 (by simp only [List.getElem?_toArray, List.getElem?_cons_succ, List.getElem?_cons_zero]; rfl) (by kernel_rfl) (by kernel_rfl) (by kernel_rfl) (by exact fun _ _ _ h => h) (by first | (refine Or.inl ⟨by rfl, ?_⟩; intro W hW; go_simp; try with_reducible rfl) | exact Or.inr ⟨by rfl, rfl⟩) ?_; try simp only [Act.put, List.setIfInBounds_toArray, List.set_cons_zero, List.set_cons_succ])
  (refine takeE Ext.tr 10 (by simp only [List.getElem?_toArray, List.getElem?_cons_succ, List.getElem?_cons_zero]; rfl) (by kernel_rfl) (by kernel_rfl) (by kernel_rfl) (by exact fun _ _ _ h => h) (by first | (refine Or.inl ⟨by rfl, ?_⟩; intro W hW; go_simp; try with_reducible rfl) | exact Or.inr ⟨by rfl, rfl⟩) ?_; try simp only [Act.put, List.setIfInBounds_toArray, List.set_cons_zero, List.set_cons_succ])
  (refine takeE Ext.tr 11 (by simp only [List.getElem?_toArray, List.getElem?_cons_succ, List.getElem?_cons_zero]; rfl) (by kernel_rfl) (by kernel_rfl) (by kernel_rfl) (by exact fun _ _ _ h => h) (by first | (refine Or.inl ⟨by rfl, ?_⟩; intro W hW; go_simp; try with_reducible rfl) | exact Or.inr ⟨by rfl, rfl⟩) ?_; try simp only [Act.put, List.setIfInBounds_toArray, List.set_cons_zero, List.set_cons_succ])
  (refine takeE Ext.tr 12 (by simp only [List.getElem?_toArray, List.getElem?_cons_succ, List.getElem?_cons_zero]; rfl) (by kernel_rfl) (by kernel_rfl) (by kernel_rfl) (by exact fun _ _ _ h => h) (by first | (refine Or.inl ⟨by rfl, ?_⟩; intro W hW; go_simp; try with_reducible rfl) | exact Or.inr ⟨by rfl, rfl⟩) ?_; try simp only [Act.put, List.setIfInBounds_toArray, List.set_cons_zero, List.set_cons_succ])
  (refine takeE Ext.tr 13 (by simp only [List.getElem?_toArray, List.getElem?_cons_succ, List.getElem?_cons_zero]; rfl) (by kernel_rfl) (by kernel_rfl) (by kernel_rfl) (by exact fun _ _ _ h => h) (by first | (refine Or.inl ⟨by rfl, ?_⟩; intro W hW; exact exec_loadRow rowP (.tmp 7) rfl w2.heap.size 0 rfl q7 (Bk.pk (HX7.out.below hW))) | exact Or.inr ⟨by rfl, rfl⟩) ?_; try simp only [Act.put, List.setIfInBounds_toArray, List.set_cons_zero, List.set_cons_succ])
  (refine takeE Ext.tr 14 (by simp only [List.getElem?_toArray, List.getElem?_cons_succ, List.getElem?_cons_zero]; rfl) (by kernel_rfl) (by kernel_rfl) (by kernel_rfl) (by exact fun _ _ _ h => h) (by first | (refine Or.inl ⟨by rfl, ?_⟩; intro W hW; exact exec_loadRow rowP (.tmp 9) rfl w3.heap.size 0 rfl q9 (Bk.pk (HX9.out.below hW))) | exact Or.inr ⟨by rfl, rfl⟩) ?_; try simp only [Act.put, List.setIfInBounds_toArray, List.set_cons_zero, List.set_cons_succ])
  refine wpAnyE_one (i := 15) (by kernel_rfl) (by simp only [List.getElem?_toArray, List.getElem?_cons_succ, List.getElem?_cons_zero]; rfl) (fun K hK => ?_)
  go_simp
  refine (r_same HQ7.out HQ9.out).mono ?_
  rintro e w6 ⟨rfl, hb6⟩
  rw [HSB.out]
  have hE6 : Ext wd w6 := hb6
  have q0w6 : ∀ W, Ext w6 W → W.cell? ⟨w.heap.size, 0, none⟩ = some (.slice r.a1 r.n1 r.c1) := fun W hW => (HX3.out.below (Ext.trans _ _ _ hE6 hW)).cell 0 rfl
  have q1w6 : ∀ W, Ext w6 W → W.cell? ⟨w.heap.size, 1, none⟩ = some (.slice r.a2 r.n2 r.c2) := fun W hW => (HX3.out.below (Ext.trans _ _ _ hE6 hW)).cell 1 rfl
  refine hK.out _ _ hb6 ?_
  clear hK K
  try simp only [Act.put, List.setIfInBounds_toArray, List.set_cons_zero, List.set_cons_succ]
  (refine takeE Ext.tr 16 (by simp only [List.getElem?_toArray, List.getElem?_cons_succ, List.getElem?_cons_zero]; rfl) (by kernel_rfl) (by kernel_rfl) (by kernel_rfl) (by exact fun _ _ _ h => h) (by first | (refine Or.inl ⟨by rfl, ?_⟩; intro W hW; go_simp; try with_reducible rfl) | exact Or.inr ⟨by rfl, rfl⟩) ?_; try simp only [Act.put, List.setIfInBounds_toArray, List.set_cons_zero, List.set_cons_succ])
  (refine takeE Ext.tr 17 (by simp only [List.getElem?_toArray, List.getElem?_cons_succ, List.getElem?_cons_zero]; rfl) (by kernel_rfl) (by kernel_rfl) (by kernel_rfl) (by exact fun _ _ _ h => h) (by first | (refine Or.inl ⟨by rfl, ?_⟩; intro W hW; go_simp; try with_reducible rfl) | exact Or.inr ⟨by rfl, rfl⟩) ?_; try simp only [Act.put, List.setIfInBounds_toArray, List.set_cons_zero, List.set_cons_succ])
  (refine takeE Ext.tr 18 (by simp only [List.getElem?_toArray, List.getElem?_cons_succ, List.getElem?_cons_zero]; rfl) (by kernel_rfl) (by kernel_rfl) (by kernel_rfl) (by exact fun _ _ _ h => h) (by first | (refine Or.inl ⟨by rfl, ?_⟩; intro W hW; go_simp; try with_reducible rfl) | exact Or.inr ⟨by rfl, rfl⟩) ?_; try simp only [Act.put, List.setIfInBounds_toArray, List.set_cons_zero, List.set_cons_succ])
  (refine takeE Ext.tr 19 (by simp only [List.getElem?_toArray, List.getElem?_cons_succ, List.getElem?_cons_zero]; rfl) (by kernel_rfl) (by kernel_rfl) (by kernel_rfl) (by exact fun _ _ _ h => h) (by first | (refine Or.inl ⟨by rfl, ?_⟩; intro W hW; go_simp; try with_reducible rfl) | exact Or.inr ⟨by rfl, rfl⟩) ?_; try simp only [Act.put, List.setIfInBounds_toArray, List.set_cons_zero, List.set_cons_succ])
  (refine takeE Ext.tr 20 (by simp only [List.getElem?_toArray, List.getElem?_cons_succ, List.getElem?_cons_zero]; rfl) (by kernel_rfl) (by kernel_rfl) (by kernel_rfl) (by exact fun _ _ _ h => h) (by first | (refine Or.inl ⟨by rfl, ?_⟩; intro W hW; go_simp; try with_reducible rfl) | exact Or.inr ⟨by rfl, rfl⟩) ?_; try simp only [Act.put, List.setIfInBounds_toArray, List.set_cons_zero, List.set_cons_succ])
  (refine takeE Ext.tr 21 (by simp only [List.getElem?_toArray, List.getElem?_cons_succ, List.getElem?_cons_zero]; rfl) (by kernel_rfl) (by kernel_rfl) (by kernel_rfl) (by exact fun _ _ _ h => h) (by first | (refine Or.inl ⟨by rfl, ?_⟩; intro W hW; go_simp; try with_reducible rfl) | exact Or.inr ⟨by rfl, rfl⟩) ?_; try simp only [Act.put, List.setIfInBounds_toArray, List.set_cons_zero, List.set_cons_succ])
  (refine takeE Ext.tr 22 (by simp only [List.getElem?_toArray, List.getElem?_cons_succ, List.getElem?_cons_zero]; rfl) (by kernel_rfl) (by kernel_rfl) (by kernel_rfl) (by exact fun _ _ _ h => h) (by first | (refine Or.inl ⟨by rfl, ?_⟩; intro W hW; go_simp; try with_reducible rfl) | exact Or.inr ⟨by rfl, rfl⟩) ?_; try simp only [Act.put, List.setIfInBounds_toArray, List.set_cons_zero, List.set_cons_succ])
  (refine takeE Ext.tr 23 (by simp only [List.getElem?_toArray, List.getElem?_cons_succ, List.getElem?_cons_zero]; rfl) (by kernel_rfl) (by kernel_rfl) (by kernel_rfl) (by exact fun _ _ _ h => h) (by first | (refine Or.inl ⟨by rfl, ?_⟩; intro W hW; go_simp; try with_reducible rfl) | exact Or.inr ⟨by rfl, rfl⟩) ?_; try simp only [Act.put, List.setIfInBounds_toArray, List.set_cons_zero, List.set_cons_succ])
  (refine takeE Ext.tr 25 (by simp only [List.getElem?_toArray, List.getElem?_cons_succ, List.getElem?_cons_zero]; rfl) (by kernel_rfl) (by kernel_rfl) (by kernel_rfl) (by exact fun _ _ _ h => h) (by first | (refine Or.inl ⟨by rfl, ?_⟩; intro W hW; go_simp; try with_reducible rfl) | exact Or.inr ⟨by rfl, rfl⟩) ?_; try simp only [Act.put, List.setIfInBounds_toArray, List.set_cons_zero, List.set_cons_succ])
  (refine takeE Ext.tr 26 (by simp only [List.getElem?_toArray, List.getElem?_cons_succ, List.getElem?_cons_zero]; rfl) (by kernel_rfl) (by kernel_rfl) (by kernel_rfl) (by exact fun _ _ _ h => h) (by first | (refine Or.inl ⟨by rfl, ?_⟩; intro W hW; go_simp; try with_reducible rfl) | exact Or.inr ⟨by rfl, rfl⟩) ?_; try simp only [Act.put, List.setIfInBounds_toArray, List.set_cons_zero, List.set_cons_succ])
  refine wpAnyE_one (i := 24) (by kernel_rfl) (by simp only [List.getElem?_toArray, List.getElem?_cons_succ, List.getElem?_cons_zero]; rfl) (fun K hK => ?_)
  go_simp
  refine (pt_low (HP.out.below hE6) (Y := fun _ => False) (fun _ h => h.elim)).mono ?_
  intro e w7 hm7
  obtain ⟨A7, n7, c7, rfl, hs7, hb7⟩ := hm7.sl (fun _ h => h.elim)
  have hE7 := Ext.trans _ _ _ hE6 hb7
  have q0w7 : ∀ W, Ext w7 W → W.cell? ⟨w.heap.size, 0, none⟩ = some (.slice r.a1 r.n1 r.c1) := fun W hW => (HX3.out.below (Ext.trans _ _ _ hE7 hW)).cell 0 rfl
  have q1w7 : ∀ W, Ext w7 W → W.cell? ⟨w.heap.size, 1, none⟩ = some (.slice r.a2 r.n2 r.c2) := fun W hW => (HX3.out.below (Ext.trans _ _ _ hE7 hW)).cell 1 rfl
  refine hK.out _ _ hb7 ?_
  clear hK K
  try simp only [Act.put, List.setIfInBounds_toArray, List.set_cons_zero, List.set_cons_succ]
  refine wpAnyE_one (i := 27) (by kernel_rfl) (by simp only [List.getElem?_toArray, List.getElem?_cons_succ, List.getElem?_cons_zero]; rfl) (fun K hK => ?_)
  go_simp
  refine (r_sameAll hs7 (HRP.out.lo.below hE7) (by rw [← hs7.len, HRP.out.lo.len]; exact HN1.out)).mono ?_
  rintro e w8 ⟨rfl, hb8⟩
  have hE8 := Ext.trans _ _ _ hE7 hb8
  have q0w8 : ∀ W, Ext w8 W → W.cell? ⟨w.heap.size, 0, none⟩ = some (.slice r.a1 r.n1 r.c1) := fun W hW => (HX3.out.below (Ext.trans _ _ _ hE8 hW)).cell 0 rfl
  have q1w8 : ∀ W, Ext w8 W → W.cell? ⟨w.heap.size, 1, none⟩ = some (.slice r.a2 r.n2 r.c2) := fun W hW => (HX3.out.below (Ext.trans _ _ _ hE8 hW)).cell 1 rfl
  refine hK.out _ _ hb8 ?_
  clear hK K
  try simp only [Act.put, List.setIfInBounds_toArray, List.set_cons_zero, List.set_cons_succ]
  (refine takeE Ext.tr 28 (by simp only [List.getElem?_toArray, List.getElem?_cons_succ, List.getElem?_cons_zero]; rfl) (by kernel_rfl) (by kernel_rfl) (by kernel_rfl) (by exact fun _ _ _ h => h) (by first | (refine Or.inl ⟨by rfl, ?_⟩; intro W hW; go_simp; try with_reducible rfl) | exact Or.inr ⟨by rfl, rfl⟩) ?_; try simp only [Act.put, List.setIfInBounds_toArray, List.set_cons_zero, List.set_cons_succ])
  (refine takeE Ext.tr 29 (by simp only [List.getElem?_toArray, List.getElem?_cons_succ, List.getElem?_cons_zero]; rfl) (by kernel_rfl) (by kernel_rfl) (by kernel_rfl) (by exact fun _ _ _ h => h) (by first | (refine Or.inl ⟨by rfl, ?_⟩; intro W hW; go_simp; try with_reducible rfl) | exact Or.inr ⟨by rfl, rfl⟩) ?_; try simp only [Act.put, List.setIfInBounds_toArray, List.set_cons_zero, List.set_cons_succ])
  (refine takeE Ext.tr 30 (by simp only [List.getElem?_toArray, List.getElem?_cons_succ, List.getElem?_cons_zero]; rfl) (by kernel_rfl) (by kernel_rfl) (by kernel_rfl) (by exact fun _ _ _ h => h) (by first | (refine Or.inl ⟨by rfl, ?_⟩; intro W hW; go_simp; try with_reducible rfl) | exact Or.inr ⟨by rfl, rfl⟩) ?_; try simp only [Act.put, List.setIfInBounds_toArray, List.set_cons_zero, List.set_cons_succ])
  (refine takeE Ext.tr 32 (by simp only [List.getElem?_toArray, List.getElem?_cons_succ, List.getElem?_cons_zero]; rfl) (by kernel_rfl) (by kernel_rfl) (by kernel_rfl) (by exact fun _ _ _ h => h) (by first | (refine Or.inl ⟨by rfl, ?_⟩; intro W hW; go_simp; try with_reducible rfl) | exact Or.inr ⟨by rfl, rfl⟩) ?_; try simp only [Act.put, List.setIfInBounds_toArray, List.set_cons_zero, List.set_cons_succ])
  (refine takeE Ext.tr 33 (by simp only [List.getElem?_toArray, List.getElem?_cons_succ, List.getElem?_cons_zero]; rfl) (by kernel_rfl) (by kernel_rfl) (by kernel_rfl) (by exact fun _ _ _ h => h) (by first | (refine Or.inl ⟨by rfl, ?_⟩; intro W hW; go_simp; try with_reducible rfl) | exact Or.inr ⟨by rfl, rfl⟩) ?_; try simp only [Act.put, List.setIfInBounds_toArray, List.set_cons_zero, List.set_cons_succ])
  refine wpAnyE_one (i := 31) (by kernel_rfl) (by simp only [List.getElem?_toArray, List.getElem?_cons_succ, List.getElem?_cons_zero]; rfl) (fun K hK => ?_)
  go_simp
  refine (pt_high (HP.out.below hE8) (Y := fun _ => False) (fun _ h => h.elim)).mono ?_
  intro e w10 hm10
  obtain ⟨A10, n10, c10, rfl, hs10, hb10⟩ := hm10.sl (fun _ h => h.elim)
  have hE10 := Ext.trans _ _ _ hE8 hb10
  have q0w10 : ∀ W, Ext w10 W → W.cell? ⟨w.heap.size, 0, none⟩ = some (.slice r.a1 r.n1 r.c1) := fun W hW => (HX3.out.below (Ext.trans _ _ _ hE10 hW)).cell 0 rfl
  have q1w10 : ∀ W, Ext w10 W → W.cell? ⟨w.heap.size, 1, none⟩ = some (.slice r.a2 r.n2 r.c2) := fun W hW => (HX3.out.below (Ext.trans _ _ _ hE10 hW)).cell 1 rfl
  refine hK.out _ _ hb10 ?_
  clear hK K
  try simp only [Act.put, List.setIfInBounds_toArray, List.set_cons_zero, List.set_cons_succ]
  refine wpAnyE_one (i := 34) (by kernel_rfl) (by simp only [List.getElem?_toArray, List.getElem?_cons_succ, List.getElem?_cons_zero]; rfl) (fun K hK => ?_)
  go_simp
  refine (r_sameAll hs10 (HRP.out.hi.below hE10) (by rw [← hs10.len, HRP.out.hi.len]; exact HN2.out)).mono ?_
  rintro e w11 ⟨rfl, hb11⟩
  have hE11 := Ext.trans _ _ _ hE10 hb11
  have q0w11 : ∀ W, Ext w11 W → W.cell? ⟨w.heap.size, 0, none⟩ = some (.slice r.a1 r.n1 r.c1) := fun W hW => (HX3.out.below (Ext.trans _ _ _ hE11 hW)).cell 0 rfl
  have q1w11 : ∀ W, Ext w11 W → W.cell? ⟨w.heap.size, 1, none⟩ = some (.slice r.a2 r.n2 r.c2) := fun W hW => (HX3.out.below (Ext.trans _ _ _ hE11 hW)).cell 1 rfl
  refine hK.out _ _ hb11 ?_
  clear hK K
  try simp only [Act.put, List.setIfInBounds_toArray, List.set_cons_zero, List.set_cons_succ]
  (refine takeE Ext.tr 35 (by simp only [List.getElem?_toArray, List.getElem?_cons_succ, List.getElem?_cons_zero]; rfl) (by kernel_rfl) (by kernel_rfl) (by kernel_rfl) (by exact fun _ _ _ h => h) (by first | (refine Or.inl ⟨by rfl, ?_⟩; intro W hW; go_simp; try with_reducible rfl) | exact Or.inr ⟨by rfl, rfl⟩) ?_; try simp only [Act.put, List.setIfInBounds_toArray, List.set_cons_zero, List.set_cons_succ])
  (refine takeE Ext.tr 36 (by simp only [List.getElem?_toArray, List.getElem?_cons_succ, List.getElem?_cons_zero]; rfl) (by kernel_rfl) (by kernel_rfl) (by kernel_rfl) (by exact fun _ _ _ h => h) (by first | (refine Or.inl ⟨by rfl, ?_⟩; intro W hW; go_simp; try with_reducible rfl) | exact Or.inr ⟨by rfl, rfl⟩) ?_; try simp only [Act.put, List.setIfInBounds_toArray, List.set_cons_zero, List.set_cons_succ])
  (refine takeE Ext.tr 37 (by simp only [List.getElem?_toArray, List.getElem?_cons_succ, List.getElem?_cons_zero]; rfl) (by kernel_rfl) (by kernel_rfl) (by kernel_rfl) (by exact fun _ _ _ h => h) (by first | (refine Or.inl ⟨by rfl, ?_⟩; intro W hW; go_simp; try with_reducible rfl) | exact Or.inr ⟨by rfl, rfl⟩) ?_; try simp only [Act.put, List.setIfInBounds_toArray, List.set_cons_zero, List.set_cons_succ])
  (refine takeE Ext.tr 39 (by simp only [List.getElem?_toArray, List.getElem?_cons_succ, List.getElem?_cons_zero]; rfl) (by kernel_rfl) (by kernel_rfl) (by kernel_rfl) (by exact fun _ _ _ h => h) (by first | (refine Or.inl ⟨by rfl, ?_⟩; intro W hW; go_simp; try with_reducible rfl) | exact Or.inr ⟨by rfl, rfl⟩) ?_; try simp only [Act.put, List.setIfInBounds_toArray, List.set_cons_zero, List.set_cons_succ])
  (refine takeE Ext.tr 40 (by simp only [List.getElem?_toArray, List.getElem?_cons_succ, List.getElem?_cons_zero]; rfl) (by kernel_rfl) (by kernel_rfl) (by kernel_rfl) (by exact fun _ _ _ h => h) (by first | (refine Or.inl ⟨by rfl, ?_⟩; intro W hW; exact (by first | exact exec_load_bk row5 (.tmp 65) rfl w.heap.size 6 rfl (HX3.out.below (Ext.trans _ _ _ hE12 hW)) ([m.ct 0, m.ct 1, m.ct 2, m.ct 3, m.ct 4].map (.int .i64)) rfl rfl | exact exec_load_bk row5 (.tmp 65) rfl w.heap.size 6 rfl (HX3.out.below (Ext.trans _ _ _ hE11 hW)) ([m.ct 0, m.ct 1, m.ct 2, m.ct 3, m.ct 4].map (.int .i64)) rfl rfl | exact exec_load_bk row5 (.tmp 65) rfl w.heap.size 6 rfl (HX3.out.below (Ext.trans _ _ _ hE10 hW)) ([m.ct 0, m.ct 1, m.ct 2, m.ct 3, m.ct 4].map (.int .i64)) rfl rfl | exact exec_load_bk row5 (.tmp 65) rfl w.heap.size 6 rfl (HX3.out.below (Ext.trans _ _ _ hE8 hW)) ([m.ct 0, m.ct 1, m.ct 2, m.ct 3, m.ct 4].map (.int .i64)) rfl rfl | exact exec_load_bk row5 (.tmp 65) rfl w.heap.size 6 rfl (HX3.out.below (Ext.trans _ _ _ hE7 hW)) ([m.ct 0, m.ct 1, m.ct 2, m.ct 3, m.ct 4].map (.int .i64)) rfl rfl | exact exec_load_bk row5 (.tmp 65) rfl w.heap.size 6 rfl (HX3.out.below (Ext.trans _ _ _ hE6 hW)) ([m.ct 0, m.ct 1, m.ct 2, m.ct 3, m.ct 4].map (.int .i64)) rfl rfl)) | exact Or.inr ⟨by rfl, rfl⟩) ?_; try simp only [Act.put, List.setIfInBounds_toArray, List.set_cons_zero, List.set_cons_succ])
  refine wpAnyE_one (i := 38) (by kernel_rfl) (by simp only [List.getElem?_toArray, List.getElem?_cons_succ, List.getElem?_cons_zero]; rfl) (fun K hK => ?_)
  go_simp
  refine (pt_counts (HP.out.below hE11)).mono ?_
  rintro e w12 ⟨rfl, hb12⟩
  have hE12 := Ext.trans _ _ _ hE11 hb12
  have HBF := Lib.hid (below_on HB3.out hE12)
  refine hK.out _ _ hb12 ?_
  clear hK K
  try simp only [Act.put, List.setIfInBounds_toArray, List.set_cons_zero, List.set_cons_succ]
  (refine takeE Ext.tr 41 (by simp only [List.getElem?_toArray, List.getElem?_cons_succ, List.getElem?_cons_zero]; rfl) (by kernel_rfl) (by kernel_rfl) (by kernel_rfl) (by exact fun _ _ _ h => h) (by first | (refine Or.inl ⟨by rfl, ?_⟩; intro W hW; exact exec_cmp_agg rfl (by kernel_rfl) rfl rfl (arr5.eql (.int .i64) (eq_int rfl 9998) [m.ct 0, m.ct 1, m.ct 2, m.ct 3, m.ct 4] [m.ct 0, m.ct 1, m.ct 2, m.ct 3, m.ct 4] rfl rfl)) | exact Or.inr ⟨by rfl, rfl⟩) ?_; try simp only [Act.put, List.setIfInBounds_toArray, List.set_cons_zero, List.set_cons_succ])
  (refine takeE Ext.tr 42 (by simp only [List.getElem?_toArray, List.getElem?_cons_succ, List.getElem?_cons_zero]; rfl) (by kernel_rfl) (by kernel_rfl) (by kernel_rfl) (by exact fun _ _ _ h => h) (by first | (refine Or.inl ⟨by rfl, ?_⟩; intro W hW; go_simp; try with_reducible rfl) | exact Or.inr ⟨by rfl, rfl⟩) ?_; try simp only [Act.put, List.setIfInBounds_toArray, List.set_cons_zero, List.set_cons_succ])
  (refine takeE Ext.tr 43 (by simp only [List.getElem?_toArray, List.getElem?_cons_succ, List.getElem?_cons_zero]; rfl) (by kernel_rfl) (by kernel_rfl) (by kernel_rfl) (by exact fun _ _ _ h => h) (by first | (refine Or.inl ⟨by rfl, ?_⟩; intro W hW; go_simp; try with_reducible rfl) | exact Or.inr ⟨by rfl, rfl⟩) ?_; try simp only [Act.put, List.setIfInBounds_toArray, List.set_cons_zero, List.set_cons_succ])
  refine wpAnyE_done (by kernel_rfl) ?_ _
  skip
  go_wp2
  go_ret
  exact ⟨rfl, HBF.out⟩
end
end Go.Proofs.Ytcmakhkbkfkhkaa
