/- A turn is counted; a pull is issued. -/
import Derived.Test.YtdldocbfnjbhmaaK9
set_option linter.unusedSimpArgs false
set_option linter.unusedVariables false
set_option maxRecDepth 100000
namespace Go.Proofs.Ytdldocbfnjbhmaa
open Go.RowKit Go.Shelf
section
variable {F : Nat → Prop} {w w' : World} {p : Nat} {m : Pm} {P : Option Addr}
def Pm.counted (m : Pm) (g : Int) : Pm := { m with total := m.total + 1, run := if g = 1 ∧ 0 < m.q0.length then m.run + 1 else 0 }
theorem p_count (h : PcA F w p m) (g : Int) (hg : g = 0 ∨ g = 1) (ht : 0 ≤ m.total ∧ m.total ≤ 4611686018427387904) (hr : 0 ≤ m.run ∧ m.run ≤ 4) :
    Calls Try.prog 32 #[.pointer (some ⟨p, 0, none⟩), .int .i64 g] w fun e w' => e = .returned (.tuple #[]) ∧ DidP F p (m.counted g) w w' := by
  obtain ⟨b, p0, p1, F0, F1, hx⟩ := h
  have c5 := hx.bk.cell 5 rfl
  have f5 := hx.bk.free 5
  obtain ⟨h1, hs1⟩ := hx.box (j := 5) (v := .int .i64 (m.total + 1)) { m with total := m.total + 1 } rfl rfl rfl rfl rfl
  obtain ⟨t0, t1⟩ := ht
  obtain ⟨r0, r1⟩ := hr
  have HW0 := Lib.hid (p_waits (F := F) ⟨b, p0, p1, F0, F1, h1⟩ 0 (.inl rfl))
  have e0 : ({ m with total := m.total + 1 } : Pm).q 0 = m.q0 := rfl
  rw [e0] at HW0
  have HH := Lib.hid (And.intro h1 hs1)
  have HX := Lib.hid hx
  have c4 := h1.bk.cell 4 rfl
  have f4 := h1.bk.free 4
  clear h1 hs1 hx e0
  rcases hg with rfl | rfl
  · have HV : Hid (m.counted 0 = { m with total := m.total + 1, run := 0 }) := Lib.hid rfl
    go_enter Try.func32, Try.ntmps32
    go_wp2
    go_end0
    rw [HV.out]
    obtain ⟨h2, hs2⟩ := HH.out.1.box (j := 4) (v := .int .i64 0) { m with total := m.total + 1, run := 0 } rfl rfl rfl rfl rfl
    exact ⟨rfl, DidP.of h2 (HH.out.2.trans hs2 (Gr.refl _ _)) (Gr.refl F w.heap.size) (Nat.le_refl _)⟩
  · by_cases hq : 0 < m.q0.length
    · have HV : Hid (m.counted 1 = { m with total := m.total + 1, run := m.run + 1 }) := Lib.hid (by unfold Pm.counted; rw [if_pos ⟨rfl, hq⟩])
      rw [decide_eq_true hq] at HW0
      clear hq
      go_enter Try.func32, Try.ntmps32
      go_wp2_with fail
      clear c5 f5
      refine HW0.out.mono ?_
      rintro e w2 ⟨rfl, hb2⟩
      have c4' := (HH.out.1.below hb2).bk.cell 4 rfl
      have f4' := (HH.out.1.below hb2).bk.free 4
      have HB2 := Lib.hid hb2
      clear c4 f4 hb2
      generalize w.setCell ⟨p, 5, none⟩ (.int .i64 (m.total + 1)) = W1 at *
      go_wp2
      go_end0
      rw [HV.out]
      obtain ⟨h2, hs2⟩ := (HH.out.1.below HB2.out).box (j := 4) (v := .int .i64 (m.run + 1)) { m with total := m.total + 1, run := m.run + 1 } rfl rfl rfl rfl rfl
      exact ⟨rfl, DidP.of h2 ((HH.out.2.trans (St.ext (F := F) HB2.out) (Gr.refl _ _)).trans hs2 (Gr.refl _ _)) (Gr.refl F w.heap.size) (Nat.le_refl _)⟩
    · have HV : Hid (m.counted 1 = { m with total := m.total + 1, run := 0 }) := Lib.hid (by unfold Pm.counted; rw [if_neg (fun e => hq e.2)])
      rw [decide_eq_false hq] at HW0
      clear hq
      go_enter Try.func32, Try.ntmps32
      go_wp2_with fail
      clear c5 f5
      refine HW0.out.mono ?_
      rintro e w2 ⟨rfl, hb2⟩
      have c4' := (HH.out.1.below hb2).bk.cell 4 rfl
      have f4' := (HH.out.1.below hb2).bk.free 4
      have HB2 := Lib.hid hb2
      clear c4 f4 hb2
      generalize w.setCell ⟨p, 5, none⟩ (.int .i64 (m.total + 1)) = W1 at *
      go_wp2
      go_end0
      rw [HV.out]
      obtain ⟨h2, hs2⟩ := (HH.out.1.below HB2.out).box (j := 4) (v := .int .i64 0) { m with total := m.total + 1, run := 0 } rfl rfl rfl rfl rfl
      exact ⟨rfl, DidP.of h2 ((HH.out.2.trans (St.ext (F := F) HB2.out) (Gr.refl _ _)).trans hs2 (Gr.refl _ _)) (Gr.refl F w.heap.size) (Nat.le_refl _)⟩
set_option maxHeartbeats 8000000 in
theorem p_issue (h : PcA F w p m) {k : Ky} {i : Nat} {x : Kn} (hg : Got m.L k i x) (hgl : x.g = 0 ∨ x.g = 1) (hp : 0 < x.p ∧ x.p ≤ 1152921504606846976) (hi : 0 ≤ x.i ∧ x.i ≤ 4611686018427387904)
    (hr0 : 0 < x.p - 1 → x.g = 0 → m.q0.length + 1 ≤ m.most) (hr1 : 0 < x.p - 1 → x.g = 1 → m.q1.length + 1 ≤ m.most) :
    Calls Try.prog 33 #[.pointer (some ⟨p, 0, none⟩), .agg #[.int .i64 k.s, .int .i64 k.c]] w fun e w' => e = .returned (.int .i64 (x.i + 1)) ∧ DidP F p (m.issue i x) w w' := by
  obtain ⟨W, hW⟩ : ∃ W, W = w.alloc (.cells #[.int .i64 k.s, .int .i64 k.c] 39) := ⟨_, rfl⟩
  have hb1 : Below w.heap.size w W := by rw [hW]; exact (Below.refl _ w).alloc (Nat.le_refl _) _
  have z1 : Bk W 39 w.heap.size k.cl := by rw [hW]; exact Bk.new w 39 k.cl
  have hsW : W.heap.size = w.heap.size + 1 := by rw [hW]; simp
  have hk := hg.key
  obtain ⟨xk, g, q, s⟩ := x
  obtain rfl : xk = k := hk
  dsimp only at *
  obtain ⟨b, p0, p1, F0, F1, hx⟩ := h
  have HX := Lib.hid hx
  have HG := Lib.hid hg
  have HA := Lib.hid (And.intro hb1 (And.intro z1 hsW))
  obtain ⟨hp0, hp1⟩ := hp
  obtain ⟨hi0, hi1⟩ := hi
  clear hx hg hb1 z1 hsW
  by_cases hz : 0 < q - 1
  · rcases hgl with rfl | rfl
    · have HRM := Lib.hid (hr0 hz rfl)
      have HOW : Hid (m.issue i ⟨xk, 0, q, s⟩ = { m with q0 := m.q0 ++ [xk], L := m.L.set i ⟨xk, 0, q - 1, s + 1⟩ }) := Lib.hid (by unfold Pm.issue; rw [if_pos hz]; rfl)
      clear hr0 hr1
      go_enter Try.func33, Try.ntmps33
      go_wp2_with fail
      rw [← hW]
      clear hW
      refine wp_region_E (Below W.heap.size) (by kernel_rfl) (fun wd hbd hsz => ?_)
      have HBD := Lib.hid hbd
      have q1 : ∀ V, Below W.heap.size wd V → V.cell? ⟨p, 1, none⟩ = some (.map (some b)) := fun V hV => (HX.out.bk.below (HA.out.1.trans ((HBD.out.trans hV).mono HA.out.1.size))).cell 1 rfl
      have hsz2 := hbd.size
      clear hsz
      (refine takeE (belowTr W.heap.size) 0 (by simp only [List.getElem?_toArray, List.getElem?_cons_succ, List.getElem?_cons_zero]; rfl) (by kernel_rfl) (by kernel_rfl) (by kernel_rfl) (by exact fun _ _ _ h => h) (by first | (refine Or.inl ⟨by rfl, ?_⟩; intro W hW; go_simp; try with_reducible rfl) | exact Or.inr ⟨by rfl, rfl⟩) ?_; try simp only [Act.put, List.setIfInBounds_toArray, List.set_cons_zero, List.set_cons_succ])
      (refine takeE (belowTr W.heap.size) 4 (by simp only [List.getElem?_toArray, List.getElem?_cons_succ, List.getElem?_cons_zero]; rfl) (by kernel_rfl) (by kernel_rfl) (by kernel_rfl) (by exact fun _ _ _ h => h) (by first | (refine Or.inl ⟨by rfl, ?_⟩; intro W hW; exact exec_loadK rowK (.tmp 3) rfl w.heap.size 0 rfl xk (rangeK (HA.out.2.1.below (HBD.out.trans hW)))) | exact Or.inr ⟨by rfl, rfl⟩) ?_; try simp only [Act.put, List.setIfInBounds_toArray, List.set_cons_zero, List.set_cons_succ])
      (refine takeE (belowTr W.heap.size) 1 (by simp only [List.getElem?_toArray, List.getElem?_cons_succ, List.getElem?_cons_zero]; rfl) (by kernel_rfl) (by kernel_rfl) (by kernel_rfl) (by exact fun _ _ _ h => h) (by first | (refine Or.inl ⟨by rfl, ?_⟩; intro W hW; go_simp; try with_reducible rfl) | exact Or.inr ⟨by rfl, rfl⟩) ?_; try simp only [Act.put, List.setIfInBounds_toArray, List.set_cons_zero, List.set_cons_succ])
      (refine takeE (belowTr W.heap.size) 2 (by simp only [List.getElem?_toArray, List.getElem?_cons_succ, List.getElem?_cons_zero]; rfl) (by kernel_rfl) (by kernel_rfl) (by kernel_rfl) (by exact fun _ _ _ h => h) (by first | (refine Or.inl ⟨by rfl, ?_⟩; intro W hW; go_simp; try with_reducible rfl) | exact Or.inr ⟨by rfl, rfl⟩) ?_; try simp only [Act.put, List.setIfInBounds_toArray, List.set_cons_zero, List.set_cons_succ])
      (refine takeE (belowTr W.heap.size) 3 (by simp only [List.getElem?_toArray, List.getElem?_cons_succ, List.getElem?_cons_zero]; rfl) (by kernel_rfl) (by kernel_rfl) (by kernel_rfl) (by exact fun _ _ _ h => h) (by first | (refine Or.inl ⟨by rfl, ?_⟩; intro W hW; go_simp; try with_reducible rfl) | exact Or.inr ⟨by rfl, rfl⟩) ?_; try simp only [Act.put, List.setIfInBounds_toArray, List.set_cons_zero, List.set_cons_succ])
      (refine takeE (belowTr W.heap.size) 5 (by simp only [List.getElem?_toArray, List.getElem?_cons_succ, List.getElem?_cons_zero]; rfl) (by kernel_rfl) (by kernel_rfl) (by kernel_rfl) (by exact fun _ _ _ h => h) (by first | (refine Or.inl ⟨by rfl, ?_⟩; intro W hW; exact exec_lookup rfl rfl rfl (look_at (HX.out.below (HA.out.1.trans ((HBD.out.trans hW).mono HA.out.1.size))).mp HG.out)) | exact Or.inr ⟨by rfl, rfl⟩) ?_; try simp only [Act.put, List.setIfInBounds_toArray, List.set_cons_zero, List.set_cons_succ])
      refine wpAnyE_one (i := 6) (by kernel_rfl) (by simp only [List.getElem?_toArray, List.getElem?_cons_succ, List.getElem?_cons_zero]; rfl) (fun K hK => ?_)
      go_simp
      skip
      refine hK.out _ _ ((Below.refl _ _).alloc hsz2 _) ?_
      clear hK K
      try simp only [Act.put, List.setIfInBounds_toArray, List.set_cons_zero, List.set_cons_succ]
      refine wpAnyE_one (i := 7) (by kernel_rfl) (by simp only [List.getElem?_toArray, List.getElem?_cons_succ, List.getElem?_cons_zero]; rfl) (fun K hK => ?_)
      go_simp
      skip
      refine hK.out _ _ (below_two hsz2 _ _) ?_
      clear hK K
      try simp only [Act.put, List.setIfInBounds_toArray, List.set_cons_zero, List.set_cons_succ]
      refine wpAnyE_done (by kernel_rfl) ?_ _
      clear q1
      have hb4 := HBD.out.trans ((Below.refl W.heap.size wd).alloc hsz2 (.cells #[.int .i64 0, .int .i64 (q - 1), .int .i64 (s + 1)] 76))
      have ZK := Lib.hid (HA.out.2.1.below hb4)
      have ZA := Lib.hid (Bk.new wd 76 [.int .i64 0, .int .i64 (q - 1), .int .i64 (s + 1)])
      have HB4 := Lib.hid (HA.out.1.trans (hb4.mono HA.out.1.size))
      have HSZ := Lib.hid (show w.heap.size < wd.heap.size by have := HA.out.2.2; omega)
      have HS4 := Lib.hid (show (wd.alloc (.cells #[.int .i64 0, .int .i64 (q - 1), .int .i64 (s + 1)] 76)).heap.size = wd.heap.size + 1 by simp)
      clear hb4 hsz2
      go_wp2_with fail
      generalize hW4 : wd.alloc (.cells #[.int .i64 0, .int .i64 (q - 1), .int .i64 (s + 1)] 76) = W4 at *
      generalize hga : wd.heap.size = ga at *
      clear hW4 hga HBD
      refine wp_region_E (St (· = b)) (by kernel_rfl) (fun wd hbd hsz => ?_)
      have HB5 := Lib.hid (HB4.out.trans (hbd.mono HB4.out.size))
      have HX5 := Lib.hid (HX.out.below HB5.out)
      have ZK5 := Lib.hid (ZK.out.below hbd)
      have ZA5 := Lib.hid (ZA.out.below hbd)
      have HS5 := Lib.hid hbd.size
      have hbF : b < w.heap.size := HX.out.bd b HX.out.fb
      have hpb : p ≠ b := HX.out.ne
      have hwb : w.heap.size ≠ b := by omega
      have hab : ga ≠ b := by have := HSZ.out; omega
      have q3 : ∀ V, St (· = b) wd V → V.cell? ⟨p, 1, none⟩ = some (.map (some b)) := fun V hV => (HX5.out.bk.st hV hpb).cell 1 rfl
      clear hsz
      (refine takeE (St.tr (· = b)) 0 (by simp only [List.getElem?_toArray, List.getElem?_cons_succ, List.getElem?_cons_zero]; rfl) (by kernel_rfl) (by kernel_rfl) (by kernel_rfl) (by exact fun _ _ _ h => h) (by first | (refine Or.inl ⟨by rfl, ?_⟩; intro W hW; go_simp; try with_reducible rfl) | exact Or.inr ⟨by rfl, rfl⟩) ?_; try simp only [Act.put, List.setIfInBounds_toArray, List.set_cons_zero, List.set_cons_succ])
      (refine takeE (St.tr (· = b)) 4 (by simp only [List.getElem?_toArray, List.getElem?_cons_succ, List.getElem?_cons_zero]; rfl) (by kernel_rfl) (by kernel_rfl) (by kernel_rfl) (by exact fun _ _ _ h => h) (by first | (refine Or.inl ⟨by rfl, ?_⟩; intro W hW; exact exec_loadK rowK (.tmp 3) rfl w.heap.size 0 rfl xk (rangeK (ZK5.out.st hW hwb))) | exact Or.inr ⟨by rfl, rfl⟩) ?_; try simp only [Act.put, List.setIfInBounds_toArray, List.set_cons_zero, List.set_cons_succ])
      (refine takeE (St.tr (· = b)) 5 (by simp only [List.getElem?_toArray, List.getElem?_cons_succ, List.getElem?_cons_zero]; rfl) (by kernel_rfl) (by kernel_rfl) (by kernel_rfl) (by exact fun _ _ _ h => h) (by first | (refine Or.inl ⟨by rfl, ?_⟩; intro W hW; exact exec_loadA rowA (.tmp 5) rfl ga 0 rfl ⟨xk, 0, q - 1, s + 1⟩ (rangeA (k := ⟨xk, 0, q - 1, s + 1⟩) (ZA5.out.st hW hab))) | exact Or.inr ⟨by rfl, rfl⟩) ?_; try simp only [Act.put, List.setIfInBounds_toArray, List.set_cons_zero, List.set_cons_succ])
      (refine takeE (St.tr (· = b)) 1 (by simp only [List.getElem?_toArray, List.getElem?_cons_succ, List.getElem?_cons_zero]; rfl) (by kernel_rfl) (by kernel_rfl) (by kernel_rfl) (by exact fun _ _ _ h => h) (by first | (refine Or.inl ⟨by rfl, ?_⟩; intro W hW; go_simp; try with_reducible rfl) | exact Or.inr ⟨by rfl, rfl⟩) ?_; try simp only [Act.put, List.setIfInBounds_toArray, List.set_cons_zero, List.set_cons_succ])
      (refine takeE (St.tr (· = b)) 2 (by simp only [List.getElem?_toArray, List.getElem?_cons_succ, List.getElem?_cons_zero]; rfl) (by kernel_rfl) (by kernel_rfl) (by kernel_rfl) (by exact fun _ _ _ h => h) (by first | (refine Or.inl ⟨by rfl, ?_⟩; intro W hW; go_simp; try with_reducible rfl) | exact Or.inr ⟨by rfl, rfl⟩) ?_; try simp only [Act.put, List.setIfInBounds_toArray, List.set_cons_zero, List.set_cons_succ])
      (refine takeE (St.tr (· = b)) 3 (by simp only [List.getElem?_toArray, List.getElem?_cons_succ, List.getElem?_cons_zero]; rfl) (by kernel_rfl) (by kernel_rfl) (by kernel_rfl) (by exact fun _ _ _ h => h) (by first | (refine Or.inl ⟨by rfl, ?_⟩; intro W hW; go_simp; try with_reducible rfl) | exact Or.inr ⟨by rfl, rfl⟩) ?_; try simp only [Act.put, List.setIfInBounds_toArray, List.set_cons_zero, List.set_cons_succ])
      refine wpAnyE_one (i := 6) (by kernel_rfl) (by simp only [List.getElem?_toArray, List.getElem?_cons_succ, List.getElem?_cons_zero]; rfl) (fun K hK => ?_)
      refine opwp_store_old rfl (.tmp 23) (.tmp 24) (.tmp 25) rfl rfl HX5.out.mp xk rfl HG.out ⟨xk, 0, q - 1, s + 1⟩ rfl rfl ?_
      intro w9 hm9 hs9
      have hpx := HX5.out.map hm9 hs9
      have HX9 := Lib.hid hpx.1
      have HST9 := Lib.hid ((St.ext (F := F) HB5.out).trans hpx.2 (Gr.refl _ _))
      have HD9 := Lib.hid (DidP.of hpx.1 HST9.out (Gr.refl F w.heap.size) (Nat.le_refl _))
      have ZK9 := Lib.hid (ZK5.out.st hs9 hwb)
      have ZA9 := Lib.hid (ZA5.out.st hs9 hab)
      have HSZ9 := Lib.hid (show ga < w9.heap.size by have := HS4.out; have := HS5.out; have := hs9.size; omega)
      have cA1 := ZA9.out.cell 1 rfl
      have HS9 := Lib.hid hs9
      clear hm9 hs9 hpx
      refine hK.out _ _ HS9.out ?_
      clear hK K
      try simp only [Act.put, List.setIfInBounds_toArray, List.set_cons_zero, List.set_cons_succ]
      refine wpAnyE_done (by kernel_rfl) ?_ _
      clear q3 hpb hwb hab
      go_wp2_with fail
      refine wp_region_E (St F0) (by kernel_rfl) (fun wd hbd hsz => ?_)
      have HB10 := Lib.hid hbd
      have HX10 := Lib.hid (HX9.out.below hbd)
      have ZK10 := Lib.hid (ZK9.out.below hbd)
      have ZA10 := Lib.hid (ZA9.out.below hbd)
      have hwF : ¬ F0 w.heap.size := fun e => by have := HX.out.s0.bd _ e; omega
      have haF : ¬ F0 ga := fun e => by have := HX.out.s0.bd _ e; have := HSZ.out; omega
      have hpF : ¬ F0 p := fun e => (HX.out.f0 p e).2.1 rfl
      have q1 : ∀ V, St F0 wd V → V.cell? ⟨p, 2, none⟩ = some (.pointer (some ⟨p0, 0, none⟩)) := fun V hV => (HX10.out.bk.st hV hpF).cell 2 rfl
      have q2 : ∀ V, St F0 wd V → V.cell? ⟨ga, 0, none⟩ = some (.int .i64 0) := fun V hV => (ZA10.out.st hV haF).cell 0 rfl
      clear hsz cA1
      (refine takeE (St.tr F0) 0 (by simp only [List.getElem?_toArray, List.getElem?_cons_succ, List.getElem?_cons_zero]; rfl) (by kernel_rfl) (by kernel_rfl) (by kernel_rfl) (by exact fun _ _ _ h => h) (by first | (refine Or.inl ⟨by rfl, ?_⟩; intro W hW; go_simp; try with_reducible rfl) | exact Or.inr ⟨by rfl, rfl⟩) ?_; try simp only [Act.put, List.setIfInBounds_toArray, List.set_cons_zero, List.set_cons_succ])
      (refine takeE (St.tr F0) 1 (by simp only [List.getElem?_toArray, List.getElem?_cons_succ, List.getElem?_cons_zero]; rfl) (by kernel_rfl) (by kernel_rfl) (by kernel_rfl) (by exact fun _ _ _ h => h) (by first | (refine Or.inl ⟨by rfl, ?_⟩; intro W hW; go_simp; try with_reducible rfl) | exact Or.inr ⟨by rfl, rfl⟩) ?_; try simp only [Act.put, List.setIfInBounds_toArray, List.set_cons_zero, List.set_cons_succ])
      (refine takeE (St.tr F0) 7 (by simp only [List.getElem?_toArray, List.getElem?_cons_succ, List.getElem?_cons_zero]; rfl) (by kernel_rfl) (by kernel_rfl) (by kernel_rfl) (by exact fun _ _ _ h => h) (by first | (refine Or.inl ⟨by rfl, ?_⟩; intro W hW; exact exec_loadK rowK (.tmp 3) rfl w.heap.size 0 rfl xk (rangeK (ZK10.out.st hW hwF))) | exact Or.inr ⟨by rfl, rfl⟩) ?_; try simp only [Act.put, List.setIfInBounds_toArray, List.set_cons_zero, List.set_cons_succ])
      (refine takeE (St.tr F0) 2 (by simp only [List.getElem?_toArray, List.getElem?_cons_succ, List.getElem?_cons_zero]; rfl) (by kernel_rfl) (by kernel_rfl) (by kernel_rfl) (by exact fun _ _ _ h => h) (by first | (refine Or.inl ⟨by rfl, ?_⟩; intro W hW; go_simp; try with_reducible rfl) | exact Or.inr ⟨by rfl, rfl⟩) ?_; try simp only [Act.put, List.setIfInBounds_toArray, List.set_cons_zero, List.set_cons_succ])
      (refine takeE (St.tr F0) 3 (by simp only [List.getElem?_toArray, List.getElem?_cons_succ, List.getElem?_cons_zero]; rfl) (by kernel_rfl) (by kernel_rfl) (by kernel_rfl) (by exact fun _ _ _ h => h) (by first | (refine Or.inl ⟨by rfl, ?_⟩; intro W hW; go_simp; try with_reducible rfl) | exact Or.inr ⟨by rfl, rfl⟩) ?_; try simp only [Act.put, List.setIfInBounds_toArray, List.set_cons_zero, List.set_cons_succ])
      (refine takeE (St.tr F0) 4 (by simp only [List.getElem?_toArray, List.getElem?_cons_succ, List.getElem?_cons_zero]; rfl) (by kernel_rfl) (by kernel_rfl) (by kernel_rfl) (by exact fun _ _ _ h => h) (by first | (refine Or.inl ⟨by rfl, ?_⟩; intro W hW; go_simp; try with_reducible rfl) | exact Or.inr ⟨by rfl, rfl⟩) ?_; try simp only [Act.put, List.setIfInBounds_toArray, List.set_cons_zero, List.set_cons_succ])
      (refine takeE (St.tr F0) 5 (by simp only [List.getElem?_toArray, List.getElem?_cons_succ, List.getElem?_cons_zero]; rfl) (by kernel_rfl) (by kernel_rfl) (by kernel_rfl) (by exact fun _ _ _ h => h) (by first | (refine Or.inl ⟨by rfl, ?_⟩; intro W hW; go_simp; try with_reducible rfl) | exact Or.inr ⟨by rfl, rfl⟩) ?_; try simp only [Act.put, List.setIfInBounds_toArray, List.set_cons_zero, List.set_cons_succ])
      (refine takeE (St.tr F0) 6 (by simp only [List.getElem?_toArray, List.getElem?_cons_succ, List.getElem?_cons_zero]; rfl) (by kernel_rfl) (by kernel_rfl) (by kernel_rfl) (by exact fun _ _ _ h => h) (by first | (refine Or.inl ⟨by rfl, ?_⟩; intro W hW; go_simp; try with_reducible rfl) | exact Or.inr ⟨by rfl, rfl⟩) ?_; try simp only [Act.put, List.setIfInBounds_toArray, List.set_cons_zero, List.set_cons_succ])
      refine wpAnyE_one (i := 8) (by kernel_rfl) (by simp only [List.getElem?_toArray, List.getElem?_cons_succ, List.getElem?_cons_zero]; rfl) (fun K hK => ?_)
      refine opwp_build_row eltK rfl (.tmp 36) rfl (xs := xk.cl) rfl rfl ?_
      refine hK.out _ _ (St.alloc _ _ _) ?_
      clear hK K
      try simp only [Act.put, List.setIfInBounds_toArray, List.set_cons_zero, List.set_cons_succ]
      refine wpAnyE_one (i := 9) (by kernel_rfl) (by simp only [List.getElem?_toArray, List.getElem?_cons_succ, List.getElem?_cons_zero]; rfl) (fun K hK => ?_)
      go_simp
      refine (q_push [xk] _ 1 1 (HX10.out.s0.below ((Below.refl _ wd).alloc (Nat.le_refl _) _)) rfl (by rw [flat_one]; exact RdR.one wd 39 xk.cl xk.cl_one) HRM.out).mono ?_
      rintro en w11 ⟨rfl, hd⟩
      have hst5 := hd.choose_spec.2.1
      have hba : Below wd.heap.size wd (wd.alloc (.cells #[.int .i64 xk.s, .int .i64 xk.c] 39)) := (Below.refl _ wd).alloc (Nat.le_refl _) _
      obtain ⟨F', Fn, hx5, hs5, hg5⟩ := (HX10.out.below hba).turn0 hd
      have cA2 := ((ZA10.out.alloc (.cells #[.int .i64 xk.s, .int .i64 xk.c] 39)).st hst5 haF).cell 2 rfl
      have HD := Lib.hid (DidP.of hx5 ((HST9.out.trans (St.ext (F := F) (below_on hbd hba)) (Gr.refl _ _)).trans hs5 (Gr.refl _ _)) hg5 (Nat.le_trans HST9.out.size (Nat.le_trans hbd.size hba.size)))
      clear hx5 hs5 hg5 hd hba
      refine hK.out _ _ hst5 ?_
      clear hK K
      try simp only [Act.put, List.setIfInBounds_toArray, List.set_cons_zero, List.set_cons_succ]
      refine wpAnyE_done (by kernel_rfl) ?_ _
      clear q1 q2
      go_wp2
      go_ret
      rw [HOW.out]
      exact ⟨rfl, HD.out⟩
    · have HRM := Lib.hid (hr1 hz rfl)
      have HOW : Hid (m.issue i ⟨xk, 1, q, s⟩ = { m with q1 := m.q1 ++ [xk], L := m.L.set i ⟨xk, 1, q - 1, s + 1⟩ }) := Lib.hid (by unfold Pm.issue; rw [if_pos hz]; rfl)
      clear hr0 hr1
      go_enter Try.func33, Try.ntmps33
      go_wp2_with fail
      rw [← hW]
      clear hW
      refine wp_region_E (Below W.heap.size) (by kernel_rfl) (fun wd hbd hsz => ?_)
      have HBD := Lib.hid hbd
      have q1 : ∀ V, Below W.heap.size wd V → V.cell? ⟨p, 1, none⟩ = some (.map (some b)) := fun V hV => (HX.out.bk.below (HA.out.1.trans ((HBD.out.trans hV).mono HA.out.1.size))).cell 1 rfl
      have hsz2 := hbd.size
      clear hsz
      (refine takeE (belowTr W.heap.size) 0 (by simp only [List.getElem?_toArray, List.getElem?_cons_succ, List.getElem?_cons_zero]; rfl) (by kernel_rfl) (by kernel_rfl) (by kernel_rfl) (by exact fun _ _ _ h => h) (by first | (refine Or.inl ⟨by rfl, ?_⟩; intro W hW; go_simp; try with_reducible rfl) | exact Or.inr ⟨by rfl, rfl⟩) ?_; try simp only [Act.put, List.setIfInBounds_toArray, List.set_cons_zero, List.set_cons_succ])
      (refine takeE (belowTr W.heap.size) 4 (by simp only [List.getElem?_toArray, List.getElem?_cons_succ, List.getElem?_cons_zero]; rfl) (by kernel_rfl) (by kernel_rfl) (by kernel_rfl) (by exact fun _ _ _ h => h) (by first | (refine Or.inl ⟨by rfl, ?_⟩; intro W hW; exact exec_loadK rowK (.tmp 3) rfl w.heap.size 0 rfl xk (rangeK (HA.out.2.1.below (HBD.out.trans hW)))) | exact Or.inr ⟨by rfl, rfl⟩) ?_; try simp only [Act.put, List.setIfInBounds_toArray, List.set_cons_zero, List.set_cons_succ])
      (refine takeE (belowTr W.heap.size) 1 (by simp only [List.getElem?_toArray, List.getElem?_cons_succ, List.getElem?_cons_zero]; rfl) (by kernel_rfl) (by kernel_rfl) (by kernel_rfl) (by exact fun _ _ _ h => h) (by first | (refine Or.inl ⟨by rfl, ?_⟩; intro W hW; go_simp; try with_reducible rfl) | exact Or.inr ⟨by rfl, rfl⟩) ?_; try simp only [Act.put, List.setIfInBounds_toArray, List.set_cons_zero, List.set_cons_succ])
      (refine takeE (belowTr W.heap.size) 2 (by simp only [List.getElem?_toArray, List.getElem?_cons_succ, List.getElem?_cons_zero]; rfl) (by kernel_rfl) (by kernel_rfl) (by kernel_rfl) (by exact fun _ _ _ h => h) (by first | (refine Or.inl ⟨by rfl, ?_⟩; intro W hW; go_simp; try with_reducible rfl) | exact Or.inr ⟨by rfl, rfl⟩) ?_; try simp only [Act.put, List.setIfInBounds_toArray, List.set_cons_zero, List.set_cons_succ])
      (refine takeE (belowTr W.heap.size) 3 (by simp only [List.getElem?_toArray, List.getElem?_cons_succ, List.getElem?_cons_zero]; rfl) (by kernel_rfl) (by kernel_rfl) (by kernel_rfl) (by exact fun _ _ _ h => h) (by first | (refine Or.inl ⟨by rfl, ?_⟩; intro W hW; go_simp; try with_reducible rfl) | exact Or.inr ⟨by rfl, rfl⟩) ?_; try simp only [Act.put, List.setIfInBounds_toArray, List.set_cons_zero, List.set_cons_succ])
      (refine takeE (belowTr W.heap.size) 5 (by simp only [List.getElem?_toArray, List.getElem?_cons_succ, List.getElem?_cons_zero]; rfl) (by kernel_rfl) (by kernel_rfl) (by kernel_rfl) (by exact fun _ _ _ h => h) (by first | (refine Or.inl ⟨by rfl, ?_⟩; intro W hW; exact exec_lookup rfl rfl rfl (look_at (HX.out.below (HA.out.1.trans ((HBD.out.trans hW).mono HA.out.1.size))).mp HG.out)) | exact Or.inr ⟨by rfl, rfl⟩) ?_; try simp only [Act.put, List.setIfInBounds_toArray, List.set_cons_zero, List.set_cons_succ])
      refine wpAnyE_one (i := 6) (by kernel_rfl) (by simp only [List.getElem?_toArray, List.getElem?_cons_succ, List.getElem?_cons_zero]; rfl) (fun K hK => ?_)
      go_simp
      skip
      refine hK.out _ _ ((Below.refl _ _).alloc hsz2 _) ?_
      clear hK K
      try simp only [Act.put, List.setIfInBounds_toArray, List.set_cons_zero, List.set_cons_succ]
      refine wpAnyE_one (i := 7) (by kernel_rfl) (by simp only [List.getElem?_toArray, List.getElem?_cons_succ, List.getElem?_cons_zero]; rfl) (fun K hK => ?_)
      go_simp
      skip
      refine hK.out _ _ (below_two hsz2 _ _) ?_
      clear hK K
      try simp only [Act.put, List.setIfInBounds_toArray, List.set_cons_zero, List.set_cons_succ]
      refine wpAnyE_done (by kernel_rfl) ?_ _
      clear q1
      have hb4 := HBD.out.trans ((Below.refl W.heap.size wd).alloc hsz2 (.cells #[.int .i64 1, .int .i64 (q - 1), .int .i64 (s + 1)] 76))
      have ZK := Lib.hid (HA.out.2.1.below hb4)
      have ZA := Lib.hid (Bk.new wd 76 [.int .i64 1, .int .i64 (q - 1), .int .i64 (s + 1)])
      have HB4 := Lib.hid (HA.out.1.trans (hb4.mono HA.out.1.size))
      have HSZ := Lib.hid (show w.heap.size < wd.heap.size by have := HA.out.2.2; omega)
      have HS4 := Lib.hid (show (wd.alloc (.cells #[.int .i64 1, .int .i64 (q - 1), .int .i64 (s + 1)] 76)).heap.size = wd.heap.size + 1 by simp)
      clear hb4 hsz2
      go_wp2_with fail
      generalize hW4 : wd.alloc (.cells #[.int .i64 1, .int .i64 (q - 1), .int .i64 (s + 1)] 76) = W4 at *
      generalize hga : wd.heap.size = ga at *
      clear hW4 hga HBD
      refine wp_region_E (St (· = b)) (by kernel_rfl) (fun wd hbd hsz => ?_)
      have HB5 := Lib.hid (HB4.out.trans (hbd.mono HB4.out.size))
      have HX5 := Lib.hid (HX.out.below HB5.out)
      have ZK5 := Lib.hid (ZK.out.below hbd)
      have ZA5 := Lib.hid (ZA.out.below hbd)
      have HS5 := Lib.hid hbd.size
      have hbF : b < w.heap.size := HX.out.bd b HX.out.fb
      have hpb : p ≠ b := HX.out.ne
      have hwb : w.heap.size ≠ b := by omega
      have hab : ga ≠ b := by have := HSZ.out; omega
      have q3 : ∀ V, St (· = b) wd V → V.cell? ⟨p, 1, none⟩ = some (.map (some b)) := fun V hV => (HX5.out.bk.st hV hpb).cell 1 rfl
      clear hsz
      (refine takeE (St.tr (· = b)) 0 (by simp only [List.getElem?_toArray, List.getElem?_cons_succ, List.getElem?_cons_zero]; rfl) (by kernel_rfl) (by kernel_rfl) (by kernel_rfl) (by exact fun _ _ _ h => h) (by first | (refine Or.inl ⟨by rfl, ?_⟩; intro W hW; go_simp; try with_reducible rfl) | exact Or.inr ⟨by rfl, rfl⟩) ?_; try simp only [Act.put, List.setIfInBounds_toArray, List.set_cons_zero, List.set_cons_succ])
      (refine takeE (St.tr (· = b)) 4 (by simp only [List.getElem?_toArray, List.getElem?_cons_succ, List.getElem?_cons_zero]; rfl) (by kernel_rfl) (by kernel_rfl) (by kernel_rfl) (by exact fun _ _ _ h => h) (by first | (refine Or.inl ⟨by rfl, ?_⟩; intro W hW; exact exec_loadK rowK (.tmp 3) rfl w.heap.size 0 rfl xk (rangeK (ZK5.out.st hW hwb))) | exact Or.inr ⟨by rfl, rfl⟩) ?_; try simp only [Act.put, List.setIfInBounds_toArray, List.set_cons_zero, List.set_cons_succ])
      (refine takeE (St.tr (· = b)) 5 (by simp only [List.getElem?_toArray, List.getElem?_cons_succ, List.getElem?_cons_zero]; rfl) (by kernel_rfl) (by kernel_rfl) (by kernel_rfl) (by exact fun _ _ _ h => h) (by first | (refine Or.inl ⟨by rfl, ?_⟩; intro W hW; exact exec_loadA rowA (.tmp 5) rfl ga 0 rfl ⟨xk, 1, q - 1, s + 1⟩ (rangeA (k := ⟨xk, 1, q - 1, s + 1⟩) (ZA5.out.st hW hab))) | exact Or.inr ⟨by rfl, rfl⟩) ?_; try simp only [Act.put, List.setIfInBounds_toArray, List.set_cons_zero, List.set_cons_succ])
      (refine takeE (St.tr (· = b)) 1 (by simp only [List.getElem?_toArray, List.getElem?_cons_succ, List.getElem?_cons_zero]; rfl) (by kernel_rfl) (by kernel_rfl) (by kernel_rfl) (by exact fun _ _ _ h => h) (by first | (refine Or.inl ⟨by rfl, ?_⟩; intro W hW; go_simp; try with_reducible rfl) | exact Or.inr ⟨by rfl, rfl⟩) ?_; try simp only [Act.put, List.setIfInBounds_toArray, List.set_cons_zero, List.set_cons_succ])
      (refine takeE (St.tr (· = b)) 2 (by simp only [List.getElem?_toArray, List.getElem?_cons_succ, List.getElem?_cons_zero]; rfl) (by kernel_rfl) (by kernel_rfl) (by kernel_rfl) (by exact fun _ _ _ h => h) (by first | (refine Or.inl ⟨by rfl, ?_⟩; intro W hW; go_simp; try with_reducible rfl) | exact Or.inr ⟨by rfl, rfl⟩) ?_; try simp only [Act.put, List.setIfInBounds_toArray, List.set_cons_zero, List.set_cons_succ])
      (refine takeE (St.tr (· = b)) 3 (by simp only [List.getElem?_toArray, List.getElem?_cons_succ, List.getElem?_cons_zero]; rfl) (by kernel_rfl) (by kernel_rfl) (by kernel_rfl) (by exact fun _ _ _ h => h) (by first | (refine Or.inl ⟨by rfl, ?_⟩; intro W hW; go_simp; try with_reducible rfl) | exact Or.inr ⟨by rfl, rfl⟩) ?_; try simp only [Act.put, List.setIfInBounds_toArray, List.set_cons_zero, List.set_cons_succ])
      refine wpAnyE_one (i := 6) (by kernel_rfl) (by simp only [List.getElem?_toArray, List.getElem?_cons_succ, List.getElem?_cons_zero]; rfl) (fun K hK => ?_)
      refine opwp_store_old rfl (.tmp 23) (.tmp 24) (.tmp 25) rfl rfl HX5.out.mp xk rfl HG.out ⟨xk, 1, q - 1, s + 1⟩ rfl rfl ?_
      intro w9 hm9 hs9
      have hpx := HX5.out.map hm9 hs9
      have HX9 := Lib.hid hpx.1
      have HST9 := Lib.hid ((St.ext (F := F) HB5.out).trans hpx.2 (Gr.refl _ _))
      have HD9 := Lib.hid (DidP.of hpx.1 HST9.out (Gr.refl F w.heap.size) (Nat.le_refl _))
      have ZK9 := Lib.hid (ZK5.out.st hs9 hwb)
      have ZA9 := Lib.hid (ZA5.out.st hs9 hab)
      have HSZ9 := Lib.hid (show ga < w9.heap.size by have := HS4.out; have := HS5.out; have := hs9.size; omega)
      have cA1 := ZA9.out.cell 1 rfl
      have HS9 := Lib.hid hs9
      clear hm9 hs9 hpx
      refine hK.out _ _ HS9.out ?_
      clear hK K
      try simp only [Act.put, List.setIfInBounds_toArray, List.set_cons_zero, List.set_cons_succ]
      refine wpAnyE_done (by kernel_rfl) ?_ _
      clear q3 hpb hwb hab
      go_wp2_with fail
      refine wp_region_E (St F1) (by kernel_rfl) (fun wd hbd hsz => ?_)
      have HB10 := Lib.hid hbd
      have HX10 := Lib.hid (HX9.out.below hbd)
      have ZK10 := Lib.hid (ZK9.out.below hbd)
      have ZA10 := Lib.hid (ZA9.out.below hbd)
      have hwF : ¬ F1 w.heap.size := fun e => by have := HX.out.s1.bd _ e; omega
      have haF : ¬ F1 ga := fun e => by have := HX.out.s1.bd _ e; have := HSZ.out; omega
      have hpF : ¬ F1 p := fun e => (HX.out.f1 p e).2.1 rfl
      have q1 : ∀ V, St F1 wd V → V.cell? ⟨p, 3, none⟩ = some (.pointer (some ⟨p1, 0, none⟩)) := fun V hV => (HX10.out.bk.st hV hpF).cell 3 rfl
      have q2 : ∀ V, St F1 wd V → V.cell? ⟨ga, 0, none⟩ = some (.int .i64 1) := fun V hV => (ZA10.out.st hV haF).cell 0 rfl
      clear hsz cA1
      (refine takeE (St.tr F1) 0 (by simp only [List.getElem?_toArray, List.getElem?_cons_succ, List.getElem?_cons_zero]; rfl) (by kernel_rfl) (by kernel_rfl) (by kernel_rfl) (by exact fun _ _ _ h => h) (by first | (refine Or.inl ⟨by rfl, ?_⟩; intro W hW; go_simp; try with_reducible rfl) | exact Or.inr ⟨by rfl, rfl⟩) ?_; try simp only [Act.put, List.setIfInBounds_toArray, List.set_cons_zero, List.set_cons_succ])
      (refine takeE (St.tr F1) 1 (by simp only [List.getElem?_toArray, List.getElem?_cons_succ, List.getElem?_cons_zero]; rfl) (by kernel_rfl) (by kernel_rfl) (by kernel_rfl) (by exact fun _ _ _ h => h) (by first | (refine Or.inl ⟨by rfl, ?_⟩; intro W hW; go_simp; try with_reducible rfl) | exact Or.inr ⟨by rfl, rfl⟩) ?_; try simp only [Act.put, List.setIfInBounds_toArray, List.set_cons_zero, List.set_cons_succ])
      (refine takeE (St.tr F1) 7 (by simp only [List.getElem?_toArray, List.getElem?_cons_succ, List.getElem?_cons_zero]; rfl) (by kernel_rfl) (by kernel_rfl) (by kernel_rfl) (by exact fun _ _ _ h => h) (by first | (refine Or.inl ⟨by rfl, ?_⟩; intro W hW; exact exec_loadK rowK (.tmp 3) rfl w.heap.size 0 rfl xk (rangeK (ZK10.out.st hW hwF))) | exact Or.inr ⟨by rfl, rfl⟩) ?_; try simp only [Act.put, List.setIfInBounds_toArray, List.set_cons_zero, List.set_cons_succ])
      (refine takeE (St.tr F1) 2 (by simp only [List.getElem?_toArray, List.getElem?_cons_succ, List.getElem?_cons_zero]; rfl) (by kernel_rfl) (by kernel_rfl) (by kernel_rfl) (by exact fun _ _ _ h => h) (by first | (refine Or.inl ⟨by rfl, ?_⟩; intro W hW; go_simp; try with_reducible rfl) | exact Or.inr ⟨by rfl, rfl⟩) ?_; try simp only [Act.put, List.setIfInBounds_toArray, List.set_cons_zero, List.set_cons_succ])
      (refine takeE (St.tr F1) 3 (by simp only [List.getElem?_toArray, List.getElem?_cons_succ, List.getElem?_cons_zero]; rfl) (by kernel_rfl) (by kernel_rfl) (by kernel_rfl) (by exact fun _ _ _ h => h) (by first | (refine Or.inl ⟨by rfl, ?_⟩; intro W hW; go_simp; try with_reducible rfl) | exact Or.inr ⟨by rfl, rfl⟩) ?_; try simp only [Act.put, List.setIfInBounds_toArray, List.set_cons_zero, List.set_cons_succ])
      (refine takeE (St.tr F1) 4 (by simp only [List.getElem?_toArray, List.getElem?_cons_succ, List.getElem?_cons_zero]; rfl) (by kernel_rfl) (by kernel_rfl) (by kernel_rfl) (by exact fun _ _ _ h => h) (by first | (refine Or.inl ⟨by rfl, ?_⟩; intro W hW; go_simp; try with_reducible rfl) | exact Or.inr ⟨by rfl, rfl⟩) ?_; try simp only [Act.put, List.setIfInBounds_toArray, List.set_cons_zero, List.set_cons_succ])
      (refine takeE (St.tr F1) 5 (by simp only [List.getElem?_toArray, List.getElem?_cons_succ, List.getElem?_cons_zero]; rfl) (by kernel_rfl) (by kernel_rfl) (by kernel_rfl) (by exact fun _ _ _ h => h) (by first | (refine Or.inl ⟨by rfl, ?_⟩; intro W hW; go_simp; try with_reducible rfl) | exact Or.inr ⟨by rfl, rfl⟩) ?_; try simp only [Act.put, List.setIfInBounds_toArray, List.set_cons_zero, List.set_cons_succ])
      (refine takeE (St.tr F1) 6 (by simp only [List.getElem?_toArray, List.getElem?_cons_succ, List.getElem?_cons_zero]; rfl) (by kernel_rfl) (by kernel_rfl) (by kernel_rfl) (by exact fun _ _ _ h => h) (by first | (refine Or.inl ⟨by rfl, ?_⟩; intro W hW; go_simp; try with_reducible rfl) | exact Or.inr ⟨by rfl, rfl⟩) ?_; try simp only [Act.put, List.setIfInBounds_toArray, List.set_cons_zero, List.set_cons_succ])
      refine wpAnyE_one (i := 8) (by kernel_rfl) (by simp only [List.getElem?_toArray, List.getElem?_cons_succ, List.getElem?_cons_zero]; rfl) (fun K hK => ?_)
      refine opwp_build_row eltK rfl (.tmp 36) rfl (xs := xk.cl) rfl rfl ?_
      refine hK.out _ _ (St.alloc _ _ _) ?_
      clear hK K
      try simp only [Act.put, List.setIfInBounds_toArray, List.set_cons_zero, List.set_cons_succ]
      refine wpAnyE_one (i := 9) (by kernel_rfl) (by simp only [List.getElem?_toArray, List.getElem?_cons_succ, List.getElem?_cons_zero]; rfl) (fun K hK => ?_)
      go_simp
      refine (q_push [xk] _ 1 1 (HX10.out.s1.below ((Below.refl _ wd).alloc (Nat.le_refl _) _)) rfl (by rw [flat_one]; exact RdR.one wd 39 xk.cl xk.cl_one) HRM.out).mono ?_
      rintro en w11 ⟨rfl, hd⟩
      have hst5 := hd.choose_spec.2.1
      have hba : Below wd.heap.size wd (wd.alloc (.cells #[.int .i64 xk.s, .int .i64 xk.c] 39)) := (Below.refl _ wd).alloc (Nat.le_refl _) _
      obtain ⟨F', Fn, hx5, hs5, hg5⟩ := (HX10.out.below hba).turn1 hd
      have cA2 := ((ZA10.out.alloc (.cells #[.int .i64 xk.s, .int .i64 xk.c] 39)).st hst5 haF).cell 2 rfl
      have HD := Lib.hid (DidP.of hx5 ((HST9.out.trans (St.ext (F := F) (below_on hbd hba)) (Gr.refl _ _)).trans hs5 (Gr.refl _ _)) hg5 (Nat.le_trans HST9.out.size (Nat.le_trans hbd.size hba.size)))
      clear hx5 hs5 hg5 hd hba
      refine hK.out _ _ hst5 ?_
      clear hK K
      try simp only [Act.put, List.setIfInBounds_toArray, List.set_cons_zero, List.set_cons_succ]
      refine wpAnyE_done (by kernel_rfl) ?_ _
      clear q1 q2
      go_wp2
      go_ret
      rw [HOW.out]
      exact ⟨rfl, HD.out⟩
  · have HOW : Hid (m.issue i ⟨xk, g, q, s⟩ = { m with L := m.L.set i ⟨xk, g, q - 1, s + 1⟩ }) := Lib.hid (by unfold Pm.issue; rw [if_neg hz]; rfl)
    have hz' : q - 1 ≤ 0 := by omega
    clear hr0 hr1
    go_enter Try.func33, Try.ntmps33
    go_wp2_with fail
    rw [← hW]
    clear hW
    refine wp_region_E (Below W.heap.size) (by kernel_rfl) (fun wd hbd hsz => ?_)
    have HBD := Lib.hid hbd
    have q1 : ∀ V, Below W.heap.size wd V → V.cell? ⟨p, 1, none⟩ = some (.map (some b)) := fun V hV => (HX.out.bk.below (HA.out.1.trans ((HBD.out.trans hV).mono HA.out.1.size))).cell 1 rfl
    have hsz2 := hbd.size
    clear hsz
    (refine takeE (belowTr W.heap.size) 0 (by simp only [List.getElem?_toArray, List.getElem?_cons_succ, List.getElem?_cons_zero]; rfl) (by kernel_rfl) (by kernel_rfl) (by kernel_rfl) (by exact fun _ _ _ h => h) (by first | (refine Or.inl ⟨by rfl, ?_⟩; intro W hW; go_simp; try with_reducible rfl) | exact Or.inr ⟨by rfl, rfl⟩) ?_; try simp only [Act.put, List.setIfInBounds_toArray, List.set_cons_zero, List.set_cons_succ])
    (refine takeE (belowTr W.heap.size) 4 (by simp only [List.getElem?_toArray, List.getElem?_cons_succ, List.getElem?_cons_zero]; rfl) (by kernel_rfl) (by kernel_rfl) (by kernel_rfl) (by exact fun _ _ _ h => h) (by first | (refine Or.inl ⟨by rfl, ?_⟩; intro W hW; exact exec_loadK rowK (.tmp 3) rfl w.heap.size 0 rfl xk (rangeK (HA.out.2.1.below (HBD.out.trans hW)))) | exact Or.inr ⟨by rfl, rfl⟩) ?_; try simp only [Act.put, List.setIfInBounds_toArray, List.set_cons_zero, List.set_cons_succ])
    (refine takeE (belowTr W.heap.size) 1 (by simp only [List.getElem?_toArray, List.getElem?_cons_succ, List.getElem?_cons_zero]; rfl) (by kernel_rfl) (by kernel_rfl) (by kernel_rfl) (by exact fun _ _ _ h => h) (by first | (refine Or.inl ⟨by rfl, ?_⟩; intro W hW; go_simp; try with_reducible rfl) | exact Or.inr ⟨by rfl, rfl⟩) ?_; try simp only [Act.put, List.setIfInBounds_toArray, List.set_cons_zero, List.set_cons_succ])
    (refine takeE (belowTr W.heap.size) 2 (by simp only [List.getElem?_toArray, List.getElem?_cons_succ, List.getElem?_cons_zero]; rfl) (by kernel_rfl) (by kernel_rfl) (by kernel_rfl) (by exact fun _ _ _ h => h) (by first | (refine Or.inl ⟨by rfl, ?_⟩; intro W hW; go_simp; try with_reducible rfl) | exact Or.inr ⟨by rfl, rfl⟩) ?_; try simp only [Act.put, List.setIfInBounds_toArray, List.set_cons_zero, List.set_cons_succ])
    (refine takeE (belowTr W.heap.size) 3 (by simp only [List.getElem?_toArray, List.getElem?_cons_succ, List.getElem?_cons_zero]; rfl) (by kernel_rfl) (by kernel_rfl) (by kernel_rfl) (by exact fun _ _ _ h => h) (by first | (refine Or.inl ⟨by rfl, ?_⟩; intro W hW; go_simp; try with_reducible rfl) | exact Or.inr ⟨by rfl, rfl⟩) ?_; try simp only [Act.put, List.setIfInBounds_toArray, List.set_cons_zero, List.set_cons_succ])
    (refine takeE (belowTr W.heap.size) 5 (by simp only [List.getElem?_toArray, List.getElem?_cons_succ, List.getElem?_cons_zero]; rfl) (by kernel_rfl) (by kernel_rfl) (by kernel_rfl) (by exact fun _ _ _ h => h) (by first | (refine Or.inl ⟨by rfl, ?_⟩; intro W hW; exact exec_lookup rfl rfl rfl (look_at (HX.out.below (HA.out.1.trans ((HBD.out.trans hW).mono HA.out.1.size))).mp HG.out)) | exact Or.inr ⟨by rfl, rfl⟩) ?_; try simp only [Act.put, List.setIfInBounds_toArray, List.set_cons_zero, List.set_cons_succ])
    refine wpAnyE_one (i := 6) (by kernel_rfl) (by simp only [List.getElem?_toArray, List.getElem?_cons_succ, List.getElem?_cons_zero]; rfl) (fun K hK => ?_)
    go_simp
    skip
    refine hK.out _ _ ((Below.refl _ _).alloc hsz2 _) ?_
    clear hK K
    try simp only [Act.put, List.setIfInBounds_toArray, List.set_cons_zero, List.set_cons_succ]
    refine wpAnyE_one (i := 7) (by kernel_rfl) (by simp only [List.getElem?_toArray, List.getElem?_cons_succ, List.getElem?_cons_zero]; rfl) (fun K hK => ?_)
    go_simp
    skip
    refine hK.out _ _ (below_two hsz2 _ _) ?_
    clear hK K
    try simp only [Act.put, List.setIfInBounds_toArray, List.set_cons_zero, List.set_cons_succ]
    refine wpAnyE_done (by kernel_rfl) ?_ _
    clear q1
    have hb4 := HBD.out.trans ((Below.refl W.heap.size wd).alloc hsz2 (.cells #[.int .i64 g, .int .i64 (q - 1), .int .i64 (s + 1)] 76))
    have ZK := Lib.hid (HA.out.2.1.below hb4)
    have ZA := Lib.hid (Bk.new wd 76 [.int .i64 g, .int .i64 (q - 1), .int .i64 (s + 1)])
    have HB4 := Lib.hid (HA.out.1.trans (hb4.mono HA.out.1.size))
    have HSZ := Lib.hid (show w.heap.size < wd.heap.size by have := HA.out.2.2; omega)
    have HS4 := Lib.hid (show (wd.alloc (.cells #[.int .i64 g, .int .i64 (q - 1), .int .i64 (s + 1)] 76)).heap.size = wd.heap.size + 1 by simp)
    clear hb4 hsz2
    go_wp2_with fail
    generalize hW4 : wd.alloc (.cells #[.int .i64 g, .int .i64 (q - 1), .int .i64 (s + 1)] 76) = W4 at *
    generalize hga : wd.heap.size = ga at *
    clear hW4 hga HBD
    refine wp_region_E (St (· = b)) (by kernel_rfl) (fun wd hbd hsz => ?_)
    have HB5 := Lib.hid (HB4.out.trans (hbd.mono HB4.out.size))
    have HX5 := Lib.hid (HX.out.below HB5.out)
    have ZK5 := Lib.hid (ZK.out.below hbd)
    have ZA5 := Lib.hid (ZA.out.below hbd)
    have HS5 := Lib.hid hbd.size
    have hbF : b < w.heap.size := HX.out.bd b HX.out.fb
    have hpb : p ≠ b := HX.out.ne
    have hwb : w.heap.size ≠ b := by omega
    have hab : ga ≠ b := by have := HSZ.out; omega
    have q3 : ∀ V, St (· = b) wd V → V.cell? ⟨p, 1, none⟩ = some (.map (some b)) := fun V hV => (HX5.out.bk.st hV hpb).cell 1 rfl
    clear hsz
    (refine takeE (St.tr (· = b)) 0 (by simp only [List.getElem?_toArray, List.getElem?_cons_succ, List.getElem?_cons_zero]; rfl) (by kernel_rfl) (by kernel_rfl) (by kernel_rfl) (by exact fun _ _ _ h => h) (by first | (refine Or.inl ⟨by rfl, ?_⟩; intro W hW; go_simp; try with_reducible rfl) | exact Or.inr ⟨by rfl, rfl⟩) ?_; try simp only [Act.put, List.setIfInBounds_toArray, List.set_cons_zero, List.set_cons_succ])
    (refine takeE (St.tr (· = b)) 4 (by simp only [List.getElem?_toArray, List.getElem?_cons_succ, List.getElem?_cons_zero]; rfl) (by kernel_rfl) (by kernel_rfl) (by kernel_rfl) (by exact fun _ _ _ h => h) (by first | (refine Or.inl ⟨by rfl, ?_⟩; intro W hW; exact exec_loadK rowK (.tmp 3) rfl w.heap.size 0 rfl xk (rangeK (ZK5.out.st hW hwb))) | exact Or.inr ⟨by rfl, rfl⟩) ?_; try simp only [Act.put, List.setIfInBounds_toArray, List.set_cons_zero, List.set_cons_succ])
    (refine takeE (St.tr (· = b)) 5 (by simp only [List.getElem?_toArray, List.getElem?_cons_succ, List.getElem?_cons_zero]; rfl) (by kernel_rfl) (by kernel_rfl) (by kernel_rfl) (by exact fun _ _ _ h => h) (by first | (refine Or.inl ⟨by rfl, ?_⟩; intro W hW; exact exec_loadA rowA (.tmp 5) rfl ga 0 rfl ⟨xk, g, q - 1, s + 1⟩ (rangeA (k := ⟨xk, g, q - 1, s + 1⟩) (ZA5.out.st hW hab))) | exact Or.inr ⟨by rfl, rfl⟩) ?_; try simp only [Act.put, List.setIfInBounds_toArray, List.set_cons_zero, List.set_cons_succ])
    (refine takeE (St.tr (· = b)) 1 (by simp only [List.getElem?_toArray, List.getElem?_cons_succ, List.getElem?_cons_zero]; rfl) (by kernel_rfl) (by kernel_rfl) (by kernel_rfl) (by exact fun _ _ _ h => h) (by first | (refine Or.inl ⟨by rfl, ?_⟩; intro W hW; go_simp; try with_reducible rfl) | exact Or.inr ⟨by rfl, rfl⟩) ?_; try simp only [Act.put, List.setIfInBounds_toArray, List.set_cons_zero, List.set_cons_succ])
    (refine takeE (St.tr (· = b)) 2 (by simp only [List.getElem?_toArray, List.getElem?_cons_succ, List.getElem?_cons_zero]; rfl) (by kernel_rfl) (by kernel_rfl) (by kernel_rfl) (by exact fun _ _ _ h => h) (by first | (refine Or.inl ⟨by rfl, ?_⟩; intro W hW; go_simp; try with_reducible rfl) | exact Or.inr ⟨by rfl, rfl⟩) ?_; try simp only [Act.put, List.setIfInBounds_toArray, List.set_cons_zero, List.set_cons_succ])
    (refine takeE (St.tr (· = b)) 3 (by simp only [List.getElem?_toArray, List.getElem?_cons_succ, List.getElem?_cons_zero]; rfl) (by kernel_rfl) (by kernel_rfl) (by kernel_rfl) (by exact fun _ _ _ h => h) (by first | (refine Or.inl ⟨by rfl, ?_⟩; intro W hW; go_simp; try with_reducible rfl) | exact Or.inr ⟨by rfl, rfl⟩) ?_; try simp only [Act.put, List.setIfInBounds_toArray, List.set_cons_zero, List.set_cons_succ])
    refine wpAnyE_one (i := 6) (by kernel_rfl) (by simp only [List.getElem?_toArray, List.getElem?_cons_succ, List.getElem?_cons_zero]; rfl) (fun K hK => ?_)
    refine opwp_store_old rfl (.tmp 23) (.tmp 24) (.tmp 25) rfl rfl HX5.out.mp xk rfl HG.out ⟨xk, g, q - 1, s + 1⟩ rfl rfl ?_
    intro w9 hm9 hs9
    have hpx := HX5.out.map hm9 hs9
    have HX9 := Lib.hid hpx.1
    have HST9 := Lib.hid ((St.ext (F := F) HB5.out).trans hpx.2 (Gr.refl _ _))
    have HD9 := Lib.hid (DidP.of hpx.1 HST9.out (Gr.refl F w.heap.size) (Nat.le_refl _))
    have ZK9 := Lib.hid (ZK5.out.st hs9 hwb)
    have ZA9 := Lib.hid (ZA5.out.st hs9 hab)
    have HSZ9 := Lib.hid (show ga < w9.heap.size by have := HS4.out; have := HS5.out; have := hs9.size; omega)
    have cA1 := ZA9.out.cell 1 rfl
    have HS9 := Lib.hid hs9
    clear hm9 hs9 hpx
    refine hK.out _ _ HS9.out ?_
    clear hK K
    try simp only [Act.put, List.setIfInBounds_toArray, List.set_cons_zero, List.set_cons_succ]
    refine wpAnyE_done (by kernel_rfl) ?_ _
    clear q3 hpb hwb hab
    have cA2 := ZA9.out.cell 2 rfl
    go_wp2
    go_ret
    rw [HOW.out]
    exact ⟨rfl, HD9.out⟩
end
end Go.Proofs.Ytdldocbfnjbhmaa
