/- The document's queue: added; what lacks. -/
import Derived.Test.YtnakoplceplmmaaV16
set_option linter.unusedSimpArgs false
set_option linter.unusedVariables false
namespace Go.Proofs.Ytnakoplceplmmaa
open Go.RowKit Go.Shelf
section
variable {X X' F : Nat → Prop} {w w' : World} {m : Sm} {A B C : Option Addr} {n c k d r e : Nat}
/-- Two lists of pieces in one. -/
theorem SlX.cat {A' : Option Addr} {n' c' : Nat} {ps : List Pp} {qs qs2 : List Pc} {L : List Pp} {w5 : World} (h4 : qs.map Pc.say = L) (h5 : ∀ q ∈ qs, Rd .u8 w q.A q.n q.c q.xs ∧ q.n ≤ 65536 ∧ (0 < q.n → ∀ k, BlkOf q.A k → X k))
    (k4 : qs2.map Pc.say = ps) (k5 : ∀ q ∈ qs2, Rd .u8 w q.A q.n q.c q.xs ∧ q.n ≤ 65536 ∧ (0 < q.n → ∀ k, BlkOf q.A k → X k)) (hb : Below w.heap.size w w5) (hl : LstR 3 49 (w.heap.size ≤ ·) w5 A' n' c' (flat Pc.cl qs ++ flat Pc.cl qs2)) :
    SlX (fun j => X j ∨ w.heap.size ≤ j) w5 A' n' c' (L ++ ps) := by
  have hl1 := hl.1
  rw [← flat_app, flat_len Pc.cl_len] at hl1
  refine ⟨qs ++ qs2, by omega, by rw [flat_app]; exact hl.rd, fun hn j hj => ?_, by rw [List.map_append, h4, k4], fun q hq => ?_⟩
  · obtain ⟨ad, he, rfl⟩ := hj
    exact .inr (hl.blk ad he).1
  · have hq' : Rd .u8 w q.A q.n q.c q.xs ∧ q.n ≤ 65536 ∧ (0 < q.n → ∀ k, BlkOf q.A k → X k) := by
      rcases List.mem_append.1 hq with h | h
      · exact h5 q h
      · exact k5 q h
    exact ⟨hq'.1.below hb, hq'.2.1, fun hn j hj => .inl (hq'.2.2 hn j hj)⟩
set_option maxHeartbeats 4000000 in
theorem r_add {P : Option Addr} {pn pc : Nat} {ps : List Pp} (h : RqA X w m A n c B k d C r e) (ok : m.Ok) (lw : m.Low) (hp : SlX X w P pn pc ps) (hbg : m.L.length + ps.length ≤ 1000000000) :
    Calls Try.prog 10 #[.agg #[.int .i64 m.most, .slice A n c, .slice B k d, .int .i64 m.nx, .slice C r e], .slice P pn pc] w (Rt2 (fun j => X j ∨ w.heap.size ≤ j) (m.added ps) (.int .i64 (m.refuse ps.length)) w) := by
  obtain ⟨z1, z2, hb⟩ := bx2_all w [.int .i64 m.most, .slice A n c, .slice B k d, .int .i64 m.nx, .slice C r e]
  have hn := h.hn
  have hk := h.hk
  have hpl := hp.len
  have hlk := ok.lk
  have hln := ok.ln
  have hnl := ok.nl
  have hrm := ok.rm
  have hm2 := ok.m2
  have c0 := z1.cell 0 rfl
  have c1 := z1.cell 1 rfl
  have HX := Lib.hid (h.mono (X' := fun j => X j ∨ w.heap.size ≤ j) fun j _ hj => .inl hj)
  have HLo : Hid (∀ W, Below w.heap.size w W → Calls Try.prog 31 #[.agg #[.int .i64 m.most, .slice A n c, .slice B k d, .int .i64 m.nx, .slice C r e]] W fun en w' => en = .returned (.int .i64 m.lo) ∧ Below W.heap.size W w') := Lib.hid fun W hW => r_low (h.below hW) ok lw
  have HB := Lib.hid hb
  have HZ := Lib.hid (And.intro z1 z2)
  have hw1 : IntKind.i64.wrap ((n : Int) - m.lo) = (n : Int) - m.lo := by rw [IntKind.wrap_i64]; omega
  have hw2 : IntKind.i64.wrap ((m.most : Int) - ((n : Int) - m.lo)) = (m.most : Int) - ((n : Int) - m.lo) := by rw [IntKind.wrap_i64]; omega
  by_cases hf : m.fits ps.length
  · have HV : Hid (m.refuse ps.length = 0 ∧ m.added ps = m.add ps) := Lib.hid ⟨by unfold Sm.refuse; rw [if_pos hf], by unfold Sm.added; rw [if_pos hf]⟩
    have hgt : ¬ ((m.most : Int) - ((n : Int) - m.lo) < pn) := by unfold Sm.fits at hf; omega
    obtain ⟨qs, e1, e2, e3, e4, e5⟩ := h.l
    obtain ⟨qs2, e6, e7, e8, e9, e10⟩ := hp
    have HP := Lib.hid (And.intro e4 (And.intro e5 (And.intro e9 e10)))
    have HR1 := Lib.hid e2
    have HR2 := Lib.hid e7
    have HRK := Lib.hid h.k.1
    have HPL := Lib.hid hpl
    have hnb : n ≤ 1000000000 := by omega
    have hpb : n + pn ≤ 1000000000 := by omega
    have hkn : k = n := by omega
    subst hkn
    have HC := Lib.hid e1
    clear e1 e6 h ok lw hf hb hn hk hlk hln hnl hrm hpl hbg e2 e3 e4 e5 e7 e8 e9 e10
    unfold bx2 at *
    go_enter Try.func10, Try.ntmps10
    go_wp2_with fail
    refine wp_region_E Ext (by kernel_rfl) (fun wd0 hbd hsz => ?_)
    have HBD := Lib.hid (below_on HB.out hbd)
    have q0 : ∀ W, Ext wd0 W → W.cell? ⟨w.heap.size, 0, none⟩ = some (.int .i64 m.most) := fun W hW => ((HZ.out.1.below hbd).below hW).cell 0 rfl
    have q1 : ∀ W, Ext wd0 W → W.cell? ⟨w.heap.size, 1, none⟩ = some (.slice A k c) := fun W hW => ((HZ.out.1.below hbd).below hW).cell 1 rfl
    have HZd := Lib.hid (And.intro (HZ.out.1.below hbd) (HZ.out.2.below hbd))
    clear hsz
    (refine takeE Ext.tr 0 (by simp only [List.getElem?_toArray, List.getElem?_cons_succ, List.getElem?_cons_zero]; rfl) (by kernel_rfl) (by kernel_rfl) (by kernel_rfl) (by exact fun _ _ _ h => h) (by first | (refine Or.inl ⟨by rfl, ?_⟩; intro W hW; go_simp; try with_reducible rfl) | exact Or.inr ⟨by rfl, rfl⟩) ?_; try simp only [Act.put, List.setIfInBounds_toArray, List.set_cons_zero, List.set_cons_succ])
    (refine takeE Ext.tr 2 (by simp only [List.getElem?_toArray, List.getElem?_cons_succ, List.getElem?_cons_zero]; rfl) (by kernel_rfl) (by kernel_rfl) (by kernel_rfl) (by exact fun _ _ _ h => h) (by first | (refine Or.inl ⟨by rfl, ?_⟩; intro W hW; go_simp; try with_reducible rfl) | exact Or.inr ⟨by rfl, rfl⟩) ?_; try simp only [Act.put, List.setIfInBounds_toArray, List.set_cons_zero, List.set_cons_succ])
    (refine takeE Ext.tr 4 (by simp only [List.getElem?_toArray, List.getElem?_cons_succ, List.getElem?_cons_zero]; rfl) (by kernel_rfl) (by kernel_rfl) (by kernel_rfl) (by exact fun _ _ _ h => h) (by first | (refine Or.inl ⟨by rfl, ?_⟩; intro W hW; go_simp; try with_reducible rfl) | exact Or.inr ⟨by rfl, rfl⟩) ?_; try simp only [Act.put, List.setIfInBounds_toArray, List.set_cons_zero, List.set_cons_succ])
    (refine takeE Ext.tr 7 (by simp only [List.getElem?_toArray, List.getElem?_cons_succ, List.getElem?_cons_zero]; rfl) (by kernel_rfl) (by kernel_rfl) (by kernel_rfl) (by exact fun _ _ _ h => h) (by first | (refine Or.inl ⟨by rfl, ?_⟩; intro W hW; exact exec_load_bk rowR (.tmp 2) rfl w.heap.size 0 rfl (HZd.out.1.below hW) [.int .i64 m.most, .slice A k c, .slice B k d, .int .i64 m.nx, .slice C r e] rfl rfl) | exact Or.inr ⟨by rfl, rfl⟩) ?_; try simp only [Act.put, List.setIfInBounds_toArray, List.set_cons_zero, List.set_cons_succ])
    (refine takeE Ext.tr 1 (by simp only [List.getElem?_toArray, List.getElem?_cons_succ, List.getElem?_cons_zero]; rfl) (by kernel_rfl) (by kernel_rfl) (by kernel_rfl) (by exact fun _ _ _ h => h) (by first | (refine Or.inl ⟨by rfl, ?_⟩; intro W hW; go_simp; try with_reducible rfl) | exact Or.inr ⟨by rfl, rfl⟩) ?_; try simp only [Act.put, List.setIfInBounds_toArray, List.set_cons_zero, List.set_cons_succ])
    (refine takeE Ext.tr 3 (by simp only [List.getElem?_toArray, List.getElem?_cons_succ, List.getElem?_cons_zero]; rfl) (by kernel_rfl) (by kernel_rfl) (by kernel_rfl) (by exact fun _ _ _ h => h) (by first | (refine Or.inl ⟨by rfl, ?_⟩; intro W hW; go_simp; try with_reducible rfl) | exact Or.inr ⟨by rfl, rfl⟩) ?_; try simp only [Act.put, List.setIfInBounds_toArray, List.set_cons_zero, List.set_cons_succ])
    (refine takeE Ext.tr 5 (by simp only [List.getElem?_toArray, List.getElem?_cons_succ, List.getElem?_cons_zero]; rfl) (by kernel_rfl) (by kernel_rfl) (by kernel_rfl) (by exact fun _ _ _ h => h) (by first | (refine Or.inl ⟨by rfl, ?_⟩; intro W hW; go_simp; try with_reducible rfl) | exact Or.inr ⟨by rfl, rfl⟩) ?_; try simp only [Act.put, List.setIfInBounds_toArray, List.set_cons_zero, List.set_cons_succ])
    (refine takeE Ext.tr 6 (by simp only [List.getElem?_toArray, List.getElem?_cons_succ, List.getElem?_cons_zero]; rfl) (by kernel_rfl) (by kernel_rfl) (by kernel_rfl) (by exact fun _ _ _ h => h) (by first | (refine Or.inl ⟨by rfl, ?_⟩; intro W hW; go_simp; try with_reducible rfl) | exact Or.inr ⟨by rfl, rfl⟩) ?_; try simp only [Act.put, List.setIfInBounds_toArray, List.set_cons_zero, List.set_cons_succ])
    refine wpAnyE_one (i := 8) (by kernel_rfl) (by simp only [List.getElem?_toArray, List.getElem?_cons_succ, List.getElem?_cons_zero]; rfl) (fun K hK => ?_)
    go_simp
    refine (HLo.out _ HBD.out).mono ?_
    rintro en wd ⟨rfl, hb7⟩
    have HW9 := Lib.hid (And.intro (below_on HBD.out hb7) (And.intro (HZd.out.1.below hb7) (HZd.out.2.below hb7)))
    refine hK.out _ _ hb7 ?_
    clear hK K
    try simp only [Act.put, List.setIfInBounds_toArray, List.set_cons_zero, List.set_cons_succ]
    (refine takeE Ext.tr 9 (by simp only [List.getElem?_toArray, List.getElem?_cons_succ, List.getElem?_cons_zero]; rfl) (by kernel_rfl) (by kernel_rfl) (by kernel_rfl) (by exact fun _ _ _ h => h) (by first | (refine Or.inl ⟨by rfl, ?_⟩; intro W hW; go_simp; try with_reducible rfl) | exact Or.inr ⟨by rfl, rfl⟩) ?_; try simp only [Act.put, List.setIfInBounds_toArray, List.set_cons_zero, List.set_cons_succ])
    (refine takeE Ext.tr 10 (by simp only [List.getElem?_toArray, List.getElem?_cons_succ, List.getElem?_cons_zero]; rfl) (by kernel_rfl) (by kernel_rfl) (by kernel_rfl) (by exact fun _ _ _ h => h) (by first | (refine Or.inl ⟨by rfl, ?_⟩; intro W hW; go_simp; try with_reducible rfl) | exact Or.inr ⟨by rfl, rfl⟩) ?_; try simp only [Act.put, List.setIfInBounds_toArray, List.set_cons_zero, List.set_cons_succ])
    (refine takeE Ext.tr 11 (by simp only [List.getElem?_toArray, List.getElem?_cons_succ, List.getElem?_cons_zero]; rfl) (by kernel_rfl) (by kernel_rfl) (by kernel_rfl) (by exact fun _ _ _ h => h) (by first | (refine Or.inl ⟨by rfl, ?_⟩; intro W hW; go_simp; try with_reducible rfl) | exact Or.inr ⟨by rfl, rfl⟩) ?_; try simp only [Act.put, List.setIfInBounds_toArray, List.set_cons_zero, List.set_cons_succ])
    refine wpAnyE_done (by kernel_rfl) ?_ _
    clear q0 q1
    have y1 := HW9.out.2.1
    have y2 := HW9.out.2.2
    have c1 := y1.cell 1 rfl
    have hb0 : Below wd.heap.size wd (wd.alloc (.cells #[] 49)) := (Below.refl _ _).alloc (Nat.le_refl _) _
    have hL0 := LstR.made 3 wd 49 #[] 0 0 [] (by simp) (Nat.le_refl _) (by simp) (by decide) (by simp) (fun i hi => by omega)
    have hR0 := HR1.out.below (below_on HW9.out.1 hb0)
    have c1' := (y1.below hb0).cell 1 rfl
    have hby0 : (0 + k) * 32 ≤ 140737488355328 := by omega
    have hby1 : (k + pn) * 32 ≤ 140737488355328 := by omega
    have hby2 : (0 + k) * 1 ≤ 140737488355328 := by omega
    have hby3 : (k + pn) * 1 ≤ 140737488355328 := by omega
    clear c1
    go_wp2_with (first
      | (at_builtin
         refine wpList_append_lstR eltC rfl (.tmp 19) (.tmp 21) rfl rfl hL0 rfl hR0 hby0 ?_
         rintro v w3 hap
         obtain ⟨A3, n3, c3, rfl, l3⟩ := hap.ex
         have hn3 : n3 = k := by have h1 := l3.1; have h2 := HR1.out.1; simp [zsC] at h1; omega
         subst hn3
         have hb3 : Below wd.heap.size wd w3 := hb0.trans (hap.st.below (by simp) (fun k hk => hk))
         have hL3 := l3.mono (F' := (wd.heap.size ≤ ·)) (fun k hk => by rcases hk with hk | hk; exact hk; simp at hk; omega)
         have hR3 := HR2.out.below (below_on HW9.out.1 hb3)
         clear hap l3 hL0 hR0 hby0 c1')
      | (at_builtin
         refine wpList_append_lstR eltC rfl (.tmp 22) (.tmp 23) rfl rfl hL3 rfl hR3 hby1 ?_
         rintro v w5 hap
         obtain ⟨A5, n5, c5, rfl, l5⟩ := hap.ex
         have hb5 : Below wd.heap.size wd w5 := hb3.trans (hap.st.below hb3.size (fun k hk => hk))
         have hL5 := l5.mono (F' := (wd.heap.size ≤ ·)) (fun k hk => by rcases hk with hk | hk; exact hk; have := hb3.size; omega)
         have x1 := y1.below hb5
         have x2 := y2.below hb5
         have c15 := x1.cell 1 rfl
         have f15 := x1.free 1
         have y15 := x1.set 1 (.slice A5 n5 c5)
         have y25 : Bk (w5.setCell ⟨w.heap.size, 1, none⟩ (.slice A5 n5 c5)) 31 (w.heap.size + 1) [.int .i64 0, .slice none 0 0, .slice none 0 0, .int .i64 0, .slice none 0 0] := x2.far (by simp) _
         have hs5 : St (· = w.heap.size) w5 (w5.setCell ⟨w.heap.size, 1, none⟩ (.slice A5 n5 c5)) := St.setCell (F := (· = w.heap.size)) w5 (a := ⟨w.heap.size, 1, none⟩) rfl _
         have HL5 := Lib.hid (hL5.st hs5 (fun j hj e => by have := y1.lt; omega))
         have HB5 : Hid (Below w.heap.size w (w5.setCell ⟨w.heap.size, 1, none⟩ (.slice A5 n5 c5))) := Lib.hid ((below_on HW9.out.1 hb5).trans (hs5.below (Nat.le_trans HW9.out.1.size hb5.size) (fun j hj => by omega)))
         have c2 := y15.cell 2 rfl
         have hyd := y2.lt
         have HG5 : Hid (wd.heap.size ≤ (w5.setCell ⟨w.heap.size, 1, none⟩ (.slice A5 n5 c5)).heap.size) := Lib.hid (by have := hb5.size; simpa [World.setCell] using this)
         clear hap l5 hL3 hR3 hby1 x1 x2 hL5 hs5 hb5 hb3 hb0 y1 y2
         generalize hw5e : w5.setCell ⟨w.heap.size, 1, none⟩ (.slice A5 n5 c5) = W5 at *
         have hb0 : Below W5.heap.size W5 (W5.alloc (.cells #[] 4)) := (Below.refl _ _).alloc (Nat.le_refl _) _
         have hK0 := Lst.made W5 4 #[] 0 [] rfl (Nat.zero_le _) (by decide) (by simp) (fun i hi => by omega)
         have hRK := HRK.out.below (below_on HB5.out hb0)
         have c2' := (y15.below hb0).cell 2 rfl)
      | (at_builtin
         refine wpList_append_lst eltO rfl (.tmp 26) (.tmp 28) rfl rfl hK0 rfl hRK hby2 ?_
         rintro v w7 hap
         obtain ⟨A7, n7, c7, rfl, l7⟩ := hap.ex
         have hn7 : n7 = n3 := by have h1 := l7.1; have h2 := HRK.out.1; simp at h1; omega
         have hb7 : Below W5.heap.size W5 w7 := hb0.trans (hap.st.below (by simp) (fun k hk => hk))
         have hL7 := l7.mono (F' := (W5.heap.size ≤ ·)) (fun k hk => by rcases hk with hk | hk; exact hk; simp at hk; omega)
         have hby4 : (n7 + pn) * 1 ≤ 140737488355328 := by omega
         clear hap l7 hK0 hRK hby2 hn7)
      | (at_builtin
         refine wpList_append_zeros eltO rfl rfl (.tmp 29) (.tmp 31) rfl rfl hL7 (k := pn) rfl hby4 ?_
         rintro v w9 hap
         obtain ⟨A9, n9, c9, rfl, l9⟩ := hap.ex
         have hb9 : Below W5.heap.size W5 w9 := hb7.trans (hap.st.below hb7.size (fun k hk => hk))
         have hL9 := l9.mono (F' := (W5.heap.size ≤ ·)) (fun k hk => by rcases hk with hk | hk; exact hk; have := hb7.size; omega)
         have x1 := y15.below hb9
         have x2 := y25.below hb9
         have c29 := x1.cell 2 rfl
         have f29 := x1.free 2
         have y19 := x1.set 2 (.slice A9 n9 c9)
         have y29 : Bk (w9.setCell ⟨w.heap.size, 2, none⟩ (.slice A9 n9 c9)) 31 (w.heap.size + 1) [.int .i64 0, .slice none 0 0, .slice none 0 0, .int .i64 0, .slice none 0 0] := x2.far (by simp) _
         have hs9 : St (· = w.heap.size) w9 (w9.setCell ⟨w.heap.size, 2, none⟩ (.slice A9 n9 c9)) := St.setCell (F := (· = w.heap.size)) w9 (a := ⟨w.heap.size, 2, none⟩) rfl _
         have HK9 := Lib.hid (hL9.st hs9 (fun j hj e => by have := y15.lt; omega))
         have HL9 := Lib.hid (((HL5.out.below hb9).mono (F' := fun j => w.heap.size + 1 < j) (fun j hj => by have := hyd; omega)).st hs9 (fun j hj e => by omega))
         have HB9 : Hid (Below w.heap.size w (w9.setCell ⟨w.heap.size, 2, none⟩ (.slice A9 n9 c9))) := Lib.hid ((below_on HB5.out hb9).trans (hs9.below (Nat.le_trans HB5.out.size hb9.size) (fun j hj => by omega)))
         have HG9 := Lib.hid y25.lt
         clear hap l9 hL7 hby4 x1 x2 hL9 hs9 hb9 hb7 hb0 y15 y25 c2 c2')
      | (with_reducible refine at_load 31 (.tmp 2) (by rfl) ?_
         refine wpList_load_bk rowR rfl (.tmp 2) rfl w.heap.size 0 rfl y19 [.int .i64 m.most, .slice A5 n5 c5, .slice A9 n9 c9, .int .i64 m.nx, .slice C r e] rfl rfl ?_)
      | (with_reducible refine at_store 31 (.tmp 4) (.tmp 34) (by rfl) ?_
         refine wpList_store_bk rowR rfl (.tmp 4) (.tmp 34) rfl (w.heap.size + 1) 0 rfl y29 [.int .i64 m.most, .slice A5 n5 c5, .slice A9 n9 c9, .int .i64 m.nx, .slice C r e] rfl rfl (by show 0 + 5 ≤ 5; omega) (by simp [Value.oneCell']) ?_
         intro w10 hz10 hw10))
    rw [lay_all _ _ (by rfl)] at hz10
    refine bodyPost_ret (results_cell_tmp rfl rfl (rowR.load hz10 0 (cs := [.int .i64 m.most, .slice A5 n5 c5, .slice A9 n9 c9, .int .i64 m.nx, .slice C r e]) rfl rfl)) rfl ?_
    rw [HV.out.1, HV.out.2]
    have hb11 := two_st HB9.out hw10 (by omega)
    have hL11 := (HL9.out.st (st_wr hw10) (fun j hj e => by omega)).mono (F' := (w.heap.size ≤ ·)) (fun j hj => by omega)
    have hK11 := (HK9.out.st (st_wr hw10) (fun j hj e => by have := HG9.out; omega)).mono (F' := (w.heap.size ≤ ·)) (fun j hj => by have := HG9.out; omega)
    refine ⟨A5, n5, c5, A9, n9, c9, C, r, e, rfl, ⟨SlX.cat HP.out.1 HP.out.2.1 HP.out.2.2.1 HP.out.2.2.2 hb11 hL11, ?_, HX.out.r.below hb11⟩, hb11⟩
    have h5 := (RdX.lst hK11).mono (X' := fun j => X j ∨ w.heap.size ≤ j) fun j _ hj => .inr hj
    show RdX _ w10 A9 n9 c9 (booV (m.K ++ List.replicate ps.length false))
    rw [HPL.out, show booV (m.K ++ List.replicate pn false) = [] ++ booV m.K ++ List.replicate pn (.bool false) from by simp [booV]]
    exact h5
  · have HV : Hid (m.refuse ps.length = 8 ∧ m.added ps = m) := Lib.hid ⟨by unfold Sm.refuse; rw [if_neg hf], by unfold Sm.added; rw [if_neg hf]⟩
    have hgt : (m.most : Int) - ((n : Int) - m.lo) < pn := by unfold Sm.fits at hf; omega
    clear h ok lw hp hf hb hn hk hlk hln hnl hrm hpl hbg
    unfold bx2 at *
    go_enter Try.func10, Try.ntmps10
    go_wp2_with fail
    refine wp_region_E Ext (by kernel_rfl) (fun wd0 hbd hsz => ?_)
    have HBD := Lib.hid (below_on HB.out hbd)
    have q0 : ∀ W, Ext wd0 W → W.cell? ⟨w.heap.size, 0, none⟩ = some (.int .i64 m.most) := fun W hW => ((HZ.out.1.below hbd).below hW).cell 0 rfl
    have q1 : ∀ W, Ext wd0 W → W.cell? ⟨w.heap.size, 1, none⟩ = some (.slice A n c) := fun W hW => ((HZ.out.1.below hbd).below hW).cell 1 rfl
    have HZd := Lib.hid (And.intro (HZ.out.1.below hbd) (HZ.out.2.below hbd))
    clear hsz
    (refine takeE Ext.tr 0 (by simp only [List.getElem?_toArray, List.getElem?_cons_succ, List.getElem?_cons_zero]; rfl) (by kernel_rfl) (by kernel_rfl) (by kernel_rfl) (by exact fun _ _ _ h => h) (by first | (refine Or.inl ⟨by rfl, ?_⟩; intro W hW; go_simp; try with_reducible rfl) | exact Or.inr ⟨by rfl, rfl⟩) ?_; try simp only [Act.put, List.setIfInBounds_toArray, List.set_cons_zero, List.set_cons_succ])
    (refine takeE Ext.tr 2 (by simp only [List.getElem?_toArray, List.getElem?_cons_succ, List.getElem?_cons_zero]; rfl) (by kernel_rfl) (by kernel_rfl) (by kernel_rfl) (by exact fun _ _ _ h => h) (by first | (refine Or.inl ⟨by rfl, ?_⟩; intro W hW; go_simp; try with_reducible rfl) | exact Or.inr ⟨by rfl, rfl⟩) ?_; try simp only [Act.put, List.setIfInBounds_toArray, List.set_cons_zero, List.set_cons_succ])
    (refine takeE Ext.tr 4 (by simp only [List.getElem?_toArray, List.getElem?_cons_succ, List.getElem?_cons_zero]; rfl) (by kernel_rfl) (by kernel_rfl) (by kernel_rfl) (by exact fun _ _ _ h => h) (by first | (refine Or.inl ⟨by rfl, ?_⟩; intro W hW; go_simp; try with_reducible rfl) | exact Or.inr ⟨by rfl, rfl⟩) ?_; try simp only [Act.put, List.setIfInBounds_toArray, List.set_cons_zero, List.set_cons_succ])
    (refine takeE Ext.tr 7 (by simp only [List.getElem?_toArray, List.getElem?_cons_succ, List.getElem?_cons_zero]; rfl) (by kernel_rfl) (by kernel_rfl) (by kernel_rfl) (by exact fun _ _ _ h => h) (by first | (refine Or.inl ⟨by rfl, ?_⟩; intro W hW; exact exec_load_bk rowR (.tmp 2) rfl w.heap.size 0 rfl (HZd.out.1.below hW) [.int .i64 m.most, .slice A n c, .slice B k d, .int .i64 m.nx, .slice C r e] rfl rfl) | exact Or.inr ⟨by rfl, rfl⟩) ?_; try simp only [Act.put, List.setIfInBounds_toArray, List.set_cons_zero, List.set_cons_succ])
    (refine takeE Ext.tr 1 (by simp only [List.getElem?_toArray, List.getElem?_cons_succ, List.getElem?_cons_zero]; rfl) (by kernel_rfl) (by kernel_rfl) (by kernel_rfl) (by exact fun _ _ _ h => h) (by first | (refine Or.inl ⟨by rfl, ?_⟩; intro W hW; go_simp; try with_reducible rfl) | exact Or.inr ⟨by rfl, rfl⟩) ?_; try simp only [Act.put, List.setIfInBounds_toArray, List.set_cons_zero, List.set_cons_succ])
    (refine takeE Ext.tr 3 (by simp only [List.getElem?_toArray, List.getElem?_cons_succ, List.getElem?_cons_zero]; rfl) (by kernel_rfl) (by kernel_rfl) (by kernel_rfl) (by exact fun _ _ _ h => h) (by first | (refine Or.inl ⟨by rfl, ?_⟩; intro W hW; go_simp; try with_reducible rfl) | exact Or.inr ⟨by rfl, rfl⟩) ?_; try simp only [Act.put, List.setIfInBounds_toArray, List.set_cons_zero, List.set_cons_succ])
    (refine takeE Ext.tr 5 (by simp only [List.getElem?_toArray, List.getElem?_cons_succ, List.getElem?_cons_zero]; rfl) (by kernel_rfl) (by kernel_rfl) (by kernel_rfl) (by exact fun _ _ _ h => h) (by first | (refine Or.inl ⟨by rfl, ?_⟩; intro W hW; go_simp; try with_reducible rfl) | exact Or.inr ⟨by rfl, rfl⟩) ?_; try simp only [Act.put, List.setIfInBounds_toArray, List.set_cons_zero, List.set_cons_succ])
    (refine takeE Ext.tr 6 (by simp only [List.getElem?_toArray, List.getElem?_cons_succ, List.getElem?_cons_zero]; rfl) (by kernel_rfl) (by kernel_rfl) (by kernel_rfl) (by exact fun _ _ _ h => h) (by first | (refine Or.inl ⟨by rfl, ?_⟩; intro W hW; go_simp; try with_reducible rfl) | exact Or.inr ⟨by rfl, rfl⟩) ?_; try simp only [Act.put, List.setIfInBounds_toArray, List.set_cons_zero, List.set_cons_succ])
    refine wpAnyE_one (i := 8) (by kernel_rfl) (by simp only [List.getElem?_toArray, List.getElem?_cons_succ, List.getElem?_cons_zero]; rfl) (fun K hK => ?_)
    go_simp
    refine (HLo.out _ HBD.out).mono ?_
    rintro en wd ⟨rfl, hb7⟩
    have HW9 := Lib.hid (And.intro (below_on HBD.out hb7) (And.intro (HZd.out.1.below hb7) (HZd.out.2.below hb7)))
    refine hK.out _ _ hb7 ?_
    clear hK K
    try simp only [Act.put, List.setIfInBounds_toArray, List.set_cons_zero, List.set_cons_succ]
    (refine takeE Ext.tr 9 (by simp only [List.getElem?_toArray, List.getElem?_cons_succ, List.getElem?_cons_zero]; rfl) (by kernel_rfl) (by kernel_rfl) (by kernel_rfl) (by exact fun _ _ _ h => h) (by first | (refine Or.inl ⟨by rfl, ?_⟩; intro W hW; go_simp; try with_reducible rfl) | exact Or.inr ⟨by rfl, rfl⟩) ?_; try simp only [Act.put, List.setIfInBounds_toArray, List.set_cons_zero, List.set_cons_succ])
    (refine takeE Ext.tr 10 (by simp only [List.getElem?_toArray, List.getElem?_cons_succ, List.getElem?_cons_zero]; rfl) (by kernel_rfl) (by kernel_rfl) (by kernel_rfl) (by exact fun _ _ _ h => h) (by first | (refine Or.inl ⟨by rfl, ?_⟩; intro W hW; go_simp; try with_reducible rfl) | exact Or.inr ⟨by rfl, rfl⟩) ?_; try simp only [Act.put, List.setIfInBounds_toArray, List.set_cons_zero, List.set_cons_succ])
    (refine takeE Ext.tr 11 (by simp only [List.getElem?_toArray, List.getElem?_cons_succ, List.getElem?_cons_zero]; rfl) (by kernel_rfl) (by kernel_rfl) (by kernel_rfl) (by exact fun _ _ _ h => h) (by first | (refine Or.inl ⟨by rfl, ?_⟩; intro W hW; go_simp; try with_reducible rfl) | exact Or.inr ⟨by rfl, rfl⟩) ?_; try simp only [Act.put, List.setIfInBounds_toArray, List.set_cons_zero, List.set_cons_succ])
    refine wpAnyE_done (by kernel_rfl) ?_ _
    clear q0 q1
    have y1 := HW9.out.2.1
    have y2 := HW9.out.2.2
    go_wp2_with (first
      | (with_reducible refine at_load 31 (.tmp 2) (by rfl) ?_
         refine wpList_load_bk rowR rfl (.tmp 2) rfl w.heap.size 0 rfl y1 [.int .i64 m.most, .slice A n c, .slice B k d, .int .i64 m.nx, .slice C r e] rfl rfl ?_)
      | (with_reducible refine at_store 31 (.tmp 4) (.tmp 18) (by rfl) ?_
         refine wpList_store_bk rowR rfl (.tmp 4) (.tmp 18) rfl (w.heap.size + 1) 0 rfl y2 [.int .i64 m.most, .slice A n c, .slice B k d, .int .i64 m.nx, .slice C r e] rfl rfl (by show 0 + 5 ≤ 5; omega) (by simp [Value.oneCell']) ?_
         intro w3 hz3 hw3))
    rw [lay_all _ _ (by rfl)] at hz3
    refine bodyPost_ret (results_cell_tmp rfl rfl (rowR.load hz3 0 (cs := [.int .i64 m.most, .slice A n c, .slice B k d, .int .i64 m.nx, .slice C r e]) rfl rfl)) rfl ?_
    rw [HV.out.1, HV.out.2]
    exact ⟨A, n, c, B, k, d, C, r, e, rfl, HX.out.box HW9.out.1 hw3 (by omega), two_st HW9.out.1 hw3 (by omega)⟩
set_option maxHeartbeats 2000000 in
/-- The document's row of what lacks. -/
theorem r_lacking (h : RqA X w m A n c B k d C r e) (ok : m.Ok) (lw : m.Low) : Calls Try.prog 40 #[.agg #[.int .i64 m.most, .slice A n c, .slice B k d, .int .i64 m.nx, .slice C r e]] w (Made 3 (intV m.all) w) := by
  have hb := box5 w m A B C n c k d r e
  have HZ := Lib.hid (Bk.new w 31 [.int .i64 m.most, .slice A n c, .slice B k d, .int .i64 m.nx, .slice C r e])
  have HL : Hid (∀ W, Below w.heap.size w W → ∀ s : Int, Calls Try.prog 34 #[.agg #[.int .i64 m.most, .slice A n c, .slice B k d, .int .i64 m.nx, .slice C r e], .int .i64 s] W fun en w' => en = .returned (.bool (m.lacks s)) ∧ Below W.heap.size W w') := Lib.hid fun W hW s => r_lacks (h.below hW) ok lw s
  have hnl := ok.nl
  have hbig := ok.big
  have HB := Lib.hid hb
  clear h ok lw hb
  go_enter Try.func40, Try.ntmps40
  go_wp2
  generalize hW0 : w.alloc (.cells #[.int .i64 m.most, .slice A n c, .slice B k d, .int .i64 m.nx, .slice C r e] 31) = W0 at *
  go_loopw [3, 4] (fun l i W => ∃ j : Nat, i = .int .i64 j ∧ j ≤ m.nx ∧ ∃ A1 n1 c1, l = .slice A1 n1 c1 ∧ Lst 3 (W0.heap.size ≤ ·) W A1 n1 c1 (intV (m.outs j)) ∧ Below W0.heap.size W0 W) (fun l i _ => m.nx - (intOf i).toNat)
  case atStart => exact ⟨0, rfl, Nat.zero_le _, none, 0, 0, rfl, Lst.nil _ _ _, Below.refl _ _⟩
  case round =>
    obtain ⟨j, rfl, hj, A1, n1, c1, rfl, hl, hbw⟩ := hrel
    have z := HZ.out.below hbw
    have c3 := z.cell 3 rfl
    by_cases hlt : j < m.nx
    · have hlt' : (j : Int) < m.nx := by omega
      have HLj := Lib.hid (HL.out wr (below_on HB.out hbw) j)
      have hns : m.outs (j + 1) = if m.lacks (j : Int) = true then m.outs j ++ [(j : Int)] else m.outs j := sel_succ m.p j
      have hn1 : n1 ≤ 1000000000 := by have h1 := hl.1; rw [intV_len] at h1; have := sel_len m.p j; unfold Sm.outs at h1; omega
      have HBw := Lib.hid hbw
      have HLl := Lib.hid hl
      clear hl hbw
      cases hc : m.lacks (j : Int) with
      | true =>
        rw [if_pos hc] at hns
        have HNS := Lib.hid hns
        have HV := Lib.hid hc
        have hby : (n1 + 1) * 8 ≤ 140737488355328 := by omega
        clear hns hc
        go_wp2_with (first
          | (with_reducible refine at_load 31 (.tmp 1) (by rfl) ?_
             refine wpList_load_bk rowR rfl (.tmp 1) rfl w.heap.size 0 rfl z [.int .i64 m.most, .slice A n c, .slice B k d, .int .i64 m.nx, .slice C r e] rfl rfl ?_)
          | (go_at_call 34; refine HLj.out.mono ?_; rintro en w1 ⟨rfl, hb1⟩; rw [HV.out]
             have hb2 : Below w1.heap.size w1 (w1.alloc (.cells #[.int .i64 (j : Int)] 3)) := (Below.refl _ _).alloc (Nat.le_refl _) _
             have hla := (HLl.out.below (below_on hb1 hb2)).tight
             have hu := RdV.one w1 3 (.int .i64 (j : Int)) rfl
             have HB2 := Lib.hid (below_on hb1 hb2)
             clear hb1 hb2 z c3)
          | (refine wpList_build_one (x := .int .i64 (j : Int)) eltI rfl (.tmp 15) rfl rfl rfl ?_)
          | (at_builtin
             refine wpList_append_lst eltI rfl (.tmp 14) (.tmp 16) rfl rfl hla rfl hu hby ?_
             rintro v w3 hap
             obtain ⟨A3, n3, c3, rfl, l3⟩ := hap.ex
             have HAP : Hid (Lst 3 (W0.heap.size ≤ ·) w3 A3 n3 c3 (intV (m.outs (j + 1))) ∧ Below W0.heap.size W0 w3) := Lib.hid (by
               have hA1 : ∀ i, BlkOf A1 i → W0.heap.size ≤ i := by rintro i ⟨ad, he, rfl⟩; exact (HLl.out.blk ad he).1
               have hb5 := below_on HBw.out HB2.out
               refine ⟨?_, hb5.trans (hap.st.below hb5.size hA1)⟩
               rw [HNS.out, intV_snoc]
               refine l3.mono fun i hi => ?_
               rcases hi with hi | hi
               · exact hA1 i hi
               · exact Nat.le_trans hb5.size hi)
             clear hap l3))
        go_roundw
        case rel => exact ⟨j + 1, by go_num, by omega, A3, n3, c3, rfl, HAP.out.1, HAP.out.2⟩
        case measure => simp [intOf]; omega
      | false =>
        rw [if_neg (by rw [hc]; simp)] at hns
        have HNS := Lib.hid hns
        have HV := Lib.hid hc
        clear hns hc
        go_wp2_with (first
          | (with_reducible refine at_load 31 (.tmp 1) (by rfl) ?_
             refine wpList_load_bk rowR rfl (.tmp 1) rfl w.heap.size 0 rfl z [.int .i64 m.most, .slice A n c, .slice B k d, .int .i64 m.nx, .slice C r e] rfl rfl ?_)
          | (go_at_call 34; refine HLj.out.mono ?_; rintro en w1 ⟨rfl, hb1⟩; rw [HV.out]
             have HB1 := Lib.hid hb1
             clear hb1))
        go_roundw
        case rel => exact ⟨j + 1, by go_num, by omega, A1, n1, c1, rfl, by rw [HNS.out]; exact HLl.out.below HB1.out, below_on HBw.out HB1.out⟩
        case measure => simp [intOf]; omega
    · obtain rfl : j = m.nx := by omega
      have HBw := Lib.hid hbw
      have HLl := Lib.hid hl
      clear hl hbw
      go_wp2
      go_ret
      exact ⟨A1, n1, c1, rfl, HLl.out.mono fun i hi => Nat.le_trans HB.out.size hi, below_on HB.out HBw.out⟩
end
end Go.Proofs.Ytnakoplceplmmaa
