/- A turn. -/
import Derived.Test.YtdldocbfnjbhmaaK10
set_option linter.unusedSimpArgs false
set_option linter.unusedVariables false
set_option maxRecDepth 100000
namespace Go.Proofs.Ytdldocbfnjbhmaa
open Go.RowKit Go.Shelf
theorem rowPL : Row Try.prog 41 3 := ⟨⟨_, rfl, by decide⟩, by kernel_rfl⟩
theorem st_wr {w w' : World} {g : Nat} (hw : Wr g w w') : St (· = g) w w' := ⟨hw.os, hw.tape, hw.output, hw.size, fun j hj hn => hw.block j hj (by intro e; injection e with e; exact hn e)⟩
section
variable {F : Nat → Prop} {w w' : World} {p : Nat} {m : Pm} {P : Option Addr}
theorem turn_or (m : Pm) : (m.turn = 0 ∧ 0 < m.q0.length) ∨ m.turn = 1 := by
  unfold Pm.turn
  split
  · next h => exact .inl ⟨rfl, h.1⟩
  · exact .inr rfl
theorem pop0 {k : Ky} {r : List Ky} (ht : m.turn = 0) (hq : m.q0 = k :: r) : m.pop = some (k, ({ m with q0 := r } : Pm).counted 0) := by
  unfold Pm.pop
  rw [if_pos ht]
  split
  · next h => rw [hq] at h; cases h
  · next k' r' h =>
    rw [hq] at h
    injection h with h1 h2
    subst h1 h2
    rfl
theorem pop1 {k : Ky} {r : List Ky} (ht : m.turn = 1) (hq : m.q1 = k :: r) : m.pop = some (k, ({ m with q1 := r } : Pm).counted 1) := by
  unfold Pm.pop
  rw [if_neg (by omega)]
  split
  · next h => rw [hq] at h; cases h
  · next k' r' h =>
    rw [hq] at h
    injection h with h1 h2
    subst h1 h2
    unfold Pm.counted
    simp
theorem pop_no (ht : m.turn = 1) (hq : m.q1 = []) : m.pop = none := by
  unfold Pm.pop
  rw [if_neg (by omega), hq]
theorem tick_some {k : Ky} {m1 : Pm} {i : Nat} {x : Kn} (h : m.pop = some (k, m1)) (hg : Got m1.L k i x) : m.tickR = (m1.issue i x, k, x.i + 1, true) := by
  unfold Pm.tickR
  rw [h]
  simp only [got_ix hg]
theorem tick_none (h : m.pop = none) : m.tickR = (m, zK, 0, false) := by
  unfold Pm.tickR
  rw [h]
set_option maxHeartbeats 8000000 in
theorem p_tick (h : PcA F w p m) (ok : m.Ok) (ht : m.total ≤ 4611686018427387903) : Calls Try.prog 12 #[.pointer (some ⟨p, 0, none⟩)] w fun e w' =>
    e = .returned (.tuple #[.agg #[.int .i64 m.tickR.2.1.s, .int .i64 m.tickR.2.1.c, .int .i64 m.tickR.2.2.1], .bool m.tickR.2.2.2]) ∧ DidP F p m.tickR.1 w w' := by
  obtain ⟨W, hW⟩ : ∃ W, W = w.alloc (.cells #[.int .i64 0, .int .i64 0, .int .i64 0] 41) := ⟨_, rfl⟩
  have hb1 : Below w.heap.size w W := by rw [hW]; exact (Below.refl _ w).alloc (Nat.le_refl _) _
  have z1 : Bk W 41 w.heap.size [.int .i64 0, .int .i64 0, .int .i64 0] := by rw [hW]; exact Bk.new w 41 _
  have hsW : W.heap.size = w.heap.size + 1 := by rw [hW]; simp
  have HM := Lib.hid (p_made (h.below hb1))
  have hTu := p_turn (h.below hb1)
  have ht0 := ok.t0
  have hr := ok.r0
  rcases turn_or m with ⟨ht1, hql⟩ | ht1
  · obtain ⟨k, r, hq⟩ : ∃ k r, m.q0 = k :: r := by
      cases hq : m.q0 with
      | nil => rw [hq] at hql; simp at hql
      | cons k r => exact ⟨k, r, rfl⟩
    obtain ⟨i, x, hg, hxg, hxp⟩ := ok.got0 (k := k) (by rw [hq]; simp)
    have hpe := ok.pe x hg.mem
    have HR := Lib.hid (tick_some (pop0 ht1 hq) (i := i) (x := x) hg)
    rw [ht1] at hTu
    have HT := Lib.hid hTu
    generalize m.tickR = R at *
    obtain ⟨b, p0, p1, F0, F1, hx⟩ := h
    have hle := hx.s0.le
    rw [hq] at hle
    simp only [List.length_cons] at hle
    have hs0 := hx.s0
    rw [hq] at hs0
    have HX := Lib.hid hx
    have HS0 := Lib.hid hs0
    have HG := Lib.hid hg
    have HA := Lib.hid (And.intro hb1 (And.intro z1 hsW))
    have HN := Lib.hid (And.intro hxg (And.intro hxp (And.intro hpe (And.intro hle (And.intro ht0 (And.intro ht hr))))))
    clear hx hg hb1 z1 hsW hTu hpe hxg hxp hle ok ht1 hql hq hs0
    go_enter Try.func12, Try.ntmps12
    go_wp2_with fail
    rw [← hW]
    clear hW
    refine HM.out.mono ?_
    rintro e w' ⟨rfl, rfl⟩
    go_wp2_with fail
    refine HT.out.mono ?_
    rintro e w1 ⟨rfl, hb⟩
    have HB1 := Lib.hid (HA.out.1.trans (hb.mono HA.out.1.size))
    have ZP1 := Lib.hid (HA.out.2.1.below hb)
    have hs1 := hb.size
    have HS1 := Lib.hid (show w.heap.size < w1.heap.size by have := HA.out.2.2; omega)
    clear hb hs1
    have c2 := (HX.out.below HB1.out).bk.cell 2 rfl
    go_wp2_with fail
    refine (q_pop k r (HS0.out.below HB1.out)).mono ?_
    rintro e w2 ⟨rfl, hd⟩
    have hwF : ¬ F0 w.heap.size := fun e => by have := HX.out.s0.bd _ e; omega
    have ZP2 := Lib.hid (ZP1.out.st hd.choose_spec.2.1 hwF)
    obtain ⟨F2, Fn, hx2, hs2, hg2⟩ := (HX.out.below HB1.out).turn0 hd
    have hba : Below w2.heap.size w2 (w2.alloc (.cells #[.int .i64 k.s, .int .i64 k.c] 39)) := (Below.refl _ w2).alloc (Nat.le_refl _) _
    have HD2 := Lib.hid (And.intro (hx2.below hba) (And.intro (((St.ext (F := F) HB1.out).trans hs2 (Gr.refl _ _)).trans (St.ext (F := F) hba) (Gr.refl _ _)) (And.intro hg2 (And.intro hs2.size hx2.bd))))
    have ZP3 := Lib.hid (ZP2.out.alloc (.cells #[.int .i64 k.s, .int .i64 k.c] 39))
    have ZK3 := Lib.hid (Bk.new w2 39 k.cl)
    have HS3 := Lib.hid (show (w2.alloc (.cells #[.int .i64 k.s, .int .i64 k.c] 39)).heap.size = w2.heap.size + 1 by simp)
    have HCn := Lib.hid (p_count (F := F2) ⟨b, p0, p1, _, _, HD2.out.1⟩ 0 (by omega) ⟨HN.out.2.2.2.2.1, by show m.total ≤ _; have := HN.out.2.2.2.2.2.1; omega⟩ HN.out.2.2.2.2.2.2)
    clear hd hwF hx2 hs2 hg2 hba c2
    go_wp2_with fail
    refine HCn.out.mono ?_
    rintro e w4 ⟨rfl, hd4⟩
    obtain ⟨F4, ha4, hs4, hg4⟩ := hd4
    have hkF : ¬ F2 w2.heap.size := fun e => by have := HD2.out.2.2.2.2 _ e; omega
    have hpF : ¬ F2 w.heap.size := fun e => by
      rcases HD2.out.2.2.1 _ e with h1 | h1
      · have := HX.out.bd _ h1; omega
      · have := HS1.out; omega
    have hkF4 : ¬ F4 w2.heap.size := hg4.not (by rw [HS3.out]; omega) hkF
    have hpF4 : ¬ F4 w.heap.size := hg4.not (by have := HS1.out; have := HD2.out.2.2.2.1; rw [HS3.out]; omega) hpF
    have ZP4 := Lib.hid (ZP3.out.st hs4 hpF)
    have ZK4 := Lib.hid (ZK3.out.st hs4 hkF)
    have HG4 : Gr F F4 w1.heap.size := fun j hj => by
      rcases hg4 j hj with h1 | h1
      · exact HD2.out.2.2.1 j h1
      · exact .inr (by have := HD2.out.2.2.2.1; rw [HS3.out] at h1; omega)
    have hst4 : St F w w4 := ⟨hs4.os.trans HD2.out.2.1.os, hs4.tape.trans HD2.out.2.1.tape, hs4.output.trans HD2.out.2.1.output, Nat.le_trans HD2.out.2.1.size hs4.size, fun j hj hn => (hs4.block j (Nat.lt_of_lt_of_le hj HD2.out.2.1.size) (fun e => by
      rcases HD2.out.2.2.1 j e with h1 | h1
      · exact hn h1
      · have := HS1.out; omega)).trans (HD2.out.2.1.block j hj hn)⟩
    have HD4 := Lib.hid (And.intro ha4 (And.intro hst4 (And.intro HG4 (And.intro hkF4 hpF4))))
    have HWK := Lib.hid (show w2.heap.size ≠ w.heap.size by have := HS1.out; have := HD2.out.2.2.2.1; omega)
    clear ha4 hs4 hg4 hkF hpF hkF4 hpF4 HG4 hst4
    go_wp2_with fail
    refine wp_region_E (St (fun j => F4 j ∨ j = w.heap.size)) (by kernel_rfl) (fun wd hbd hsz => ?_)
    have HB5 := Lib.hid hbd
    have HA5 := Lib.hid (HD4.out.1.below hbd)
    have ZP5 := Lib.hid (ZP4.out.below hbd)
    have ZK5 := Lib.hid (ZK4.out.below hbd)
    have hkX : ¬ (F4 w2.heap.size ∨ w2.heap.size = w.heap.size) := fun e => e.elim HD4.out.2.2.2.1 HWK.out
    clear hsz
    (refine takeE (St.tr (fun j => F4 j ∨ j = w.heap.size)) 0 (by simp only [List.getElem?_toArray, List.getElem?_cons_succ, List.getElem?_cons_zero]; rfl) (by kernel_rfl) (by kernel_rfl) (by kernel_rfl) (by exact fun _ _ _ h => h) (by first | (refine Or.inl ⟨by rfl, ?_⟩; intro W hW; exact exec_loadK rowK (.tmp 5) rfl w2.heap.size 0 rfl k (rangeK (ZK5.out.st hW hkX))) | exact Or.inr ⟨by rfl, rfl⟩) ?_; try simp only [Act.put, List.setIfInBounds_toArray, List.set_cons_zero, List.set_cons_succ])
    (refine takeE (St.tr (fun j => F4 j ∨ j = w.heap.size)) 1 (by simp only [List.getElem?_toArray, List.getElem?_cons_succ, List.getElem?_cons_zero]; rfl) (by kernel_rfl) (by kernel_rfl) (by kernel_rfl) (by exact fun _ _ _ h => h) (by first | (refine Or.inl ⟨by rfl, ?_⟩; intro W hW; go_simp; try with_reducible rfl) | exact Or.inr ⟨by rfl, rfl⟩) ?_; try simp only [Act.put, List.setIfInBounds_toArray, List.set_cons_zero, List.set_cons_succ])
    (refine takeE (St.tr (fun j => F4 j ∨ j = w.heap.size)) 2 (by simp only [List.getElem?_toArray, List.getElem?_cons_succ, List.getElem?_cons_zero]; rfl) (by kernel_rfl) (by kernel_rfl) (by kernel_rfl) (by exact fun _ _ _ h => h) (by first | (refine Or.inl ⟨by rfl, ?_⟩; intro W hW; exact exec_loadK rowK (.tmp 5) rfl w2.heap.size 0 rfl k (rangeK (ZK5.out.st hW hkX))) | exact Or.inr ⟨by rfl, rfl⟩) ?_; try simp only [Act.put, List.setIfInBounds_toArray, List.set_cons_zero, List.set_cons_succ])
    refine wpAnyE_one (i := 3) (by kernel_rfl) (by simp only [List.getElem?_toArray, List.getElem?_cons_succ, List.getElem?_cons_zero]; rfl) (fun K hK => ?_)
    go_simp
    refine (p_issue HA5.out HG.out (by rw [HN.out.1]; omega) ⟨HN.out.2.1, HN.out.2.2.1.2.1⟩ ⟨HN.out.2.2.1.2.2.1, by have := HN.out.2.2.1.2.2.2; have := HN.out.2.2.2.2.2.1; omega⟩ (fun _ _ => HN.out.2.2.2.1) (fun _ e => by have := HN.out.1; rw [this] at e; cases e)).mono ?_
    rintro en w6 ⟨rfl, hd6⟩
    obtain ⟨F6, ha6, hs6, hg6⟩ := hd6
    have ZP6 := Lib.hid (ZP5.out.st hs6 HD4.out.2.2.2.2)
    have hpF6 : ¬ F6 w.heap.size := hg6.not ZP5.out.lt HD4.out.2.2.2.2
    have HD6 := Lib.hid (And.intro ha6 (And.intro hs6 (And.intro hg6 hpF6)))
    clear ha6 hs6 hg6 hpF6
    refine hK.out _ _ (HD6.out.2.1.mono fun j _ hj => .inl hj) ?_
    clear hK K
    try simp only [Act.put, List.setIfInBounds_toArray, List.set_cons_zero, List.set_cons_succ]
    (refine takeE (St.tr (fun j => F4 j ∨ j = w.heap.size)) 4 (by simp only [List.getElem?_toArray, List.getElem?_cons_succ, List.getElem?_cons_zero]; rfl) (by kernel_rfl) (by kernel_rfl) (by kernel_rfl) (by exact fun _ _ _ h => h) (by first | (refine Or.inl ⟨by rfl, ?_⟩; intro W hW; go_simp; try with_reducible rfl) | exact Or.inr ⟨by rfl, rfl⟩) ?_; try simp only [Act.put, List.setIfInBounds_toArray, List.set_cons_zero, List.set_cons_succ])
    refine wpAnyE_one (i := 5) (by kernel_rfl) (by simp only [List.getElem?_toArray, List.getElem?_cons_succ, List.getElem?_cons_zero]; rfl) (fun K hK => ?_)
    refine opwp_store_bk rowPL rfl (.tmp 2) (.tmp 33) rfl w.heap.size 0 rfl ZP6.out [.int .i64 k.s, .int .i64 k.c, .int .i64 (x.i + 1)] rfl rfl (by decide) (by simp [Value.oneCell']) ?_
    intro w7 hz7 hw7
    rw [lay_all _ _ (by rfl)] at hz7
    have hs7 := st_wr hw7
    have HZ7 := Lib.hid hz7
    have HS7 := Lib.hid hs7
    have HD : Hid (DidP F p R.1 w w7) := Lib.hid (by
      rw [HR.out]
      have ha7 := HD6.out.1.st hs7 (fun j hj e => HD6.out.2.2.2 (e ▸ hj))
      refine ⟨F6, ha7, ⟨?_, ?_, ?_, ?_, fun j hj hn => ?_⟩, fun j hj => ?_⟩
      · exact hs7.os.trans (HD6.out.2.1.os.trans (HB5.out.os.trans HD4.out.2.1.os))
      · exact hs7.tape.trans (HD6.out.2.1.tape.trans (HB5.out.tape.trans HD4.out.2.1.tape))
      · exact hs7.output.trans (HD6.out.2.1.output.trans (HB5.out.output.trans HD4.out.2.1.output))
      · exact Nat.le_trans (Nat.le_trans HD4.out.2.1.size HB5.out.size) (Nat.le_trans HD6.out.2.1.size hs7.size)
      · have l1 := Nat.lt_of_lt_of_le hj HD4.out.2.1.size
        have l2 := Nat.lt_of_lt_of_le l1 HB5.out.size
        have l3 := Nat.lt_of_lt_of_le l2 HD6.out.2.1.size
        have hn4 : ¬ F4 j := fun e => by
          rcases HD4.out.2.2.1 j e with h1 | h1
          · exact hn h1
          · have := HS1.out; omega
        rw [hs7.block j l3 (by omega), HD6.out.2.1.block j l2 hn4, HB5.out.block j l1, HD4.out.2.1.block j hj hn]
      · rcases HD6.out.2.2.1 j hj with h1 | h1
        · rcases HD4.out.2.2.1 j h1 with h2 | h2
          · exact .inl h2
          · exact .inr (by have := HS1.out; omega)
        · exact .inr (Nat.le_trans (Nat.le_trans HD4.out.2.1.size HB5.out.size) h1))
    clear hz7 hw7 hs7
    refine hK.out _ _ (HS7.out.mono fun j _ hj => .inr hj) ?_
    clear hK K
    try simp only [Act.put, List.setIfInBounds_toArray, List.set_cons_zero, List.set_cons_succ]
    (refine takeE (St.tr (fun j => F4 j ∨ j = w.heap.size)) 6 (by simp only [List.getElem?_toArray, List.getElem?_cons_succ, List.getElem?_cons_zero]; rfl) (by kernel_rfl) (by kernel_rfl) (by kernel_rfl) (by exact fun _ _ _ h => h) (by first | (refine Or.inl ⟨by rfl, ?_⟩; intro W hW; go_simp; try with_reducible rfl) | exact Or.inr ⟨by rfl, rfl⟩) ?_; try simp only [Act.put, List.setIfInBounds_toArray, List.set_cons_zero, List.set_cons_succ])
    refine wpAnyE_done (by kernel_rfl) ?_ _
    go_wp2
    refine bodyPost_ret (results_cell_tmp rfl rfl (rowPL.load HZ7.out 0 (cs := [.int .i64 k.s, .int .i64 k.c, .int .i64 (x.i + 1)]) rfl rfl)) rfl ⟨?_, HD.out⟩
    rw [HR.out]
    rfl
  · cases hq : m.q1 with
    | nil =>
      have HR := Lib.hid (tick_none (pop_no ht1 hq))
      rw [ht1] at hTu
      have HT := Lib.hid hTu
      generalize m.tickR = R at *
      have HH := Lib.hid h
      obtain ⟨b, p0, p1, F0, F1, hx⟩ := h
      have hs0 := hx.s1
      rw [hq] at hs0
      have HX := Lib.hid hx
      have HS0 := Lib.hid hs0
      have HA := Lib.hid (And.intro hb1 (And.intro z1 hsW))
      clear hx hb1 z1 hsW hTu ok ht1 hq hs0 ht0 hr ht
      go_enter Try.func12, Try.ntmps12
      go_wp2_with fail
      rw [← hW]
      clear hW
      refine HM.out.mono ?_
      rintro e w' ⟨rfl, rfl⟩
      go_wp2_with fail
      refine HT.out.mono ?_
      rintro e w1 ⟨rfl, hb⟩
      have HB1 := Lib.hid (HA.out.1.trans (hb.mono HA.out.1.size))
      have ZP1 := Lib.hid (HA.out.2.1.below hb)
      have hs1 := hb.size
      have HS1 := Lib.hid (show w.heap.size < w1.heap.size by have := HA.out.2.2; omega)
      clear hb hs1
      have c3 := (HX.out.below HB1.out).bk.cell 3 rfl
      go_wp2_with fail
      refine (q_pop_none (HS0.out.below HB1.out)).mono ?_
      rintro e w2 ⟨rfl, hb2⟩
      have hba := hb2.trans ((Below.refl w1.heap.size w2).alloc hb2.size (.cells #[.int .i64 zK.s, .int .i64 zK.c] 39))
      have ZP3 := ZP1.out.below hba
      have HB3 := Lib.hid (HB1.out.trans (hba.mono HB1.out.size))
      clear hb2 hba c3
      unfold zK at HB3 ZP3
      dsimp only at HB3 ZP3
      go_wp2_with (first
        | (with_reducible refine at_store 41 (.tmp 2) (.tmp 25) (by rfl) ?_; refine wpList_store_bk rowPL rfl (.tmp 2) (.tmp 25) rfl w.heap.size 0 rfl ZP3 [.int .i64 0, .int .i64 0, .int .i64 0] rfl rfl (by decide) (by simp [Value.oneCell']) ?_; intro w5 hz6 hw5))
      rw [lay_all _ _ (by rfl)] at hz6
      refine bodyPost_ret (results_cell_tmp rfl rfl (rowPL.load hz6 0 (cs := [.int .i64 0, .int .i64 0, .int .i64 0]) rfl rfl)) rfl ⟨by rw [HR.out]; rfl, ?_⟩
      rw [HR.out]
      exact DidP.same HH.out (HB3.out.trans (hw5.below (Nat.le_refl _) HB3.out.size))
    | cons k r =>
      obtain ⟨i, x, hg, hxg, hxp⟩ := ok.got1 (k := k) (by rw [hq]; simp)
      have hpe := ok.pe x hg.mem
      have HR := Lib.hid (tick_some (pop1 ht1 hq) (i := i) (x := x) hg)
      rw [ht1] at hTu
      have HT := Lib.hid hTu
      generalize m.tickR = R at *
      obtain ⟨b, p0, p1, F0, F1, hx⟩ := h
      have hle := hx.s1.le
      rw [hq] at hle
      simp only [List.length_cons] at hle
      have hs0 := hx.s1
      rw [hq] at hs0
      have HX := Lib.hid hx
      have HS0 := Lib.hid hs0
      have HG := Lib.hid hg
      have HA := Lib.hid (And.intro hb1 (And.intro z1 hsW))
      have HN := Lib.hid (And.intro hxg (And.intro hxp (And.intro hpe (And.intro hle (And.intro ht0 (And.intro ht hr))))))
      clear hx hg hb1 z1 hsW hTu hpe hxg hxp hle ok ht1 hq hs0
      go_enter Try.func12, Try.ntmps12
      go_wp2_with fail
      rw [← hW]
      clear hW
      refine HM.out.mono ?_
      rintro e w' ⟨rfl, rfl⟩
      go_wp2_with fail
      refine HT.out.mono ?_
      rintro e w1 ⟨rfl, hb⟩
      have HB1 := Lib.hid (HA.out.1.trans (hb.mono HA.out.1.size))
      have ZP1 := Lib.hid (HA.out.2.1.below hb)
      have hs1 := hb.size
      have HS1 := Lib.hid (show w.heap.size < w1.heap.size by have := HA.out.2.2; omega)
      clear hb hs1
      have c3 := (HX.out.below HB1.out).bk.cell 3 rfl
      go_wp2_with fail
      refine (q_pop k r (HS0.out.below HB1.out)).mono ?_
      rintro e w2 ⟨rfl, hd⟩
      have hwF : ¬ F1 w.heap.size := fun e => by have := HX.out.s1.bd _ e; omega
      have ZP2 := Lib.hid (ZP1.out.st hd.choose_spec.2.1 hwF)
      obtain ⟨F2, Fn, hx2, hs2, hg2⟩ := (HX.out.below HB1.out).turn1 hd
      have hba : Below w2.heap.size w2 (w2.alloc (.cells #[.int .i64 k.s, .int .i64 k.c] 39)) := (Below.refl _ w2).alloc (Nat.le_refl _) _
      have HD2 := Lib.hid (And.intro (hx2.below hba) (And.intro (((St.ext (F := F) HB1.out).trans hs2 (Gr.refl _ _)).trans (St.ext (F := F) hba) (Gr.refl _ _)) (And.intro hg2 (And.intro hs2.size hx2.bd))))
      have ZP3 := Lib.hid (ZP2.out.alloc (.cells #[.int .i64 k.s, .int .i64 k.c] 39))
      have ZK3 := Lib.hid (Bk.new w2 39 k.cl)
      have HS3 := Lib.hid (show (w2.alloc (.cells #[.int .i64 k.s, .int .i64 k.c] 39)).heap.size = w2.heap.size + 1 by simp)
      have HCn := Lib.hid (p_count (F := F2) ⟨b, p0, p1, _, _, HD2.out.1⟩ 1 (by omega) ⟨HN.out.2.2.2.2.1, by show m.total ≤ _; have := HN.out.2.2.2.2.2.1; omega⟩ HN.out.2.2.2.2.2.2)
      clear hd hwF hx2 hs2 hg2 hba c3
      go_wp2_with fail
      refine HCn.out.mono ?_
      rintro e w4 ⟨rfl, hd4⟩
      obtain ⟨F4, ha4, hs4, hg4⟩ := hd4
      have hkF : ¬ F2 w2.heap.size := fun e => by have := HD2.out.2.2.2.2 _ e; omega
      have hpF : ¬ F2 w.heap.size := fun e => by
        rcases HD2.out.2.2.1 _ e with h1 | h1
        · have := HX.out.bd _ h1; omega
        · have := HS1.out; omega
      have hkF4 : ¬ F4 w2.heap.size := hg4.not (by rw [HS3.out]; omega) hkF
      have hpF4 : ¬ F4 w.heap.size := hg4.not (by have := HS1.out; have := HD2.out.2.2.2.1; rw [HS3.out]; omega) hpF
      have ZP4 := Lib.hid (ZP3.out.st hs4 hpF)
      have ZK4 := Lib.hid (ZK3.out.st hs4 hkF)
      have HG4 : Gr F F4 w1.heap.size := fun j hj => by
        rcases hg4 j hj with h1 | h1
        · exact HD2.out.2.2.1 j h1
        · exact .inr (by have := HD2.out.2.2.2.1; rw [HS3.out] at h1; omega)
      have hst4 : St F w w4 := ⟨hs4.os.trans HD2.out.2.1.os, hs4.tape.trans HD2.out.2.1.tape, hs4.output.trans HD2.out.2.1.output, Nat.le_trans HD2.out.2.1.size hs4.size, fun j hj hn => (hs4.block j (Nat.lt_of_lt_of_le hj HD2.out.2.1.size) (fun e => by
        rcases HD2.out.2.2.1 j e with h1 | h1
        · exact hn h1
        · have := HS1.out; omega)).trans (HD2.out.2.1.block j hj hn)⟩
      have HD4 := Lib.hid (And.intro ha4 (And.intro hst4 (And.intro HG4 (And.intro hkF4 hpF4))))
      have HWK := Lib.hid (show w2.heap.size ≠ w.heap.size by have := HS1.out; have := HD2.out.2.2.2.1; omega)
      clear ha4 hs4 hg4 hkF hpF hkF4 hpF4 HG4 hst4
      go_wp2_with fail
      refine wp_region_E (St (fun j => F4 j ∨ j = w.heap.size)) (by kernel_rfl) (fun wd hbd hsz => ?_)
      have HB5 := Lib.hid hbd
      have HA5 := Lib.hid (HD4.out.1.below hbd)
      have ZP5 := Lib.hid (ZP4.out.below hbd)
      have ZK5 := Lib.hid (ZK4.out.below hbd)
      have hkX : ¬ (F4 w2.heap.size ∨ w2.heap.size = w.heap.size) := fun e => e.elim HD4.out.2.2.2.1 HWK.out
      clear hsz
      (refine takeE (St.tr (fun j => F4 j ∨ j = w.heap.size)) 0 (by simp only [List.getElem?_toArray, List.getElem?_cons_succ, List.getElem?_cons_zero]; rfl) (by kernel_rfl) (by kernel_rfl) (by kernel_rfl) (by exact fun _ _ _ h => h) (by first | (refine Or.inl ⟨by rfl, ?_⟩; intro W hW; exact exec_loadK rowK (.tmp 5) rfl w2.heap.size 0 rfl k (rangeK (ZK5.out.st hW hkX))) | exact Or.inr ⟨by rfl, rfl⟩) ?_; try simp only [Act.put, List.setIfInBounds_toArray, List.set_cons_zero, List.set_cons_succ])
      (refine takeE (St.tr (fun j => F4 j ∨ j = w.heap.size)) 1 (by simp only [List.getElem?_toArray, List.getElem?_cons_succ, List.getElem?_cons_zero]; rfl) (by kernel_rfl) (by kernel_rfl) (by kernel_rfl) (by exact fun _ _ _ h => h) (by first | (refine Or.inl ⟨by rfl, ?_⟩; intro W hW; go_simp; try with_reducible rfl) | exact Or.inr ⟨by rfl, rfl⟩) ?_; try simp only [Act.put, List.setIfInBounds_toArray, List.set_cons_zero, List.set_cons_succ])
      (refine takeE (St.tr (fun j => F4 j ∨ j = w.heap.size)) 2 (by simp only [List.getElem?_toArray, List.getElem?_cons_succ, List.getElem?_cons_zero]; rfl) (by kernel_rfl) (by kernel_rfl) (by kernel_rfl) (by exact fun _ _ _ h => h) (by first | (refine Or.inl ⟨by rfl, ?_⟩; intro W hW; exact exec_loadK rowK (.tmp 5) rfl w2.heap.size 0 rfl k (rangeK (ZK5.out.st hW hkX))) | exact Or.inr ⟨by rfl, rfl⟩) ?_; try simp only [Act.put, List.setIfInBounds_toArray, List.set_cons_zero, List.set_cons_succ])
      refine wpAnyE_one (i := 3) (by kernel_rfl) (by simp only [List.getElem?_toArray, List.getElem?_cons_succ, List.getElem?_cons_zero]; rfl) (fun K hK => ?_)
      go_simp
      refine (p_issue HA5.out HG.out (by rw [HN.out.1]; omega) ⟨HN.out.2.1, HN.out.2.2.1.2.1⟩ ⟨HN.out.2.2.1.2.2.1, by have := HN.out.2.2.1.2.2.2; have := HN.out.2.2.2.2.2.1; omega⟩ (fun _ e => by have := HN.out.1; rw [this] at e; cases e) (fun _ _ => HN.out.2.2.2.1)).mono ?_
      rintro en w6 ⟨rfl, hd6⟩
      obtain ⟨F6, ha6, hs6, hg6⟩ := hd6
      have ZP6 := Lib.hid (ZP5.out.st hs6 HD4.out.2.2.2.2)
      have hpF6 : ¬ F6 w.heap.size := hg6.not ZP5.out.lt HD4.out.2.2.2.2
      have HD6 := Lib.hid (And.intro ha6 (And.intro hs6 (And.intro hg6 hpF6)))
      clear ha6 hs6 hg6 hpF6
      refine hK.out _ _ (HD6.out.2.1.mono fun j _ hj => .inl hj) ?_
      clear hK K
      try simp only [Act.put, List.setIfInBounds_toArray, List.set_cons_zero, List.set_cons_succ]
      (refine takeE (St.tr (fun j => F4 j ∨ j = w.heap.size)) 4 (by simp only [List.getElem?_toArray, List.getElem?_cons_succ, List.getElem?_cons_zero]; rfl) (by kernel_rfl) (by kernel_rfl) (by kernel_rfl) (by exact fun _ _ _ h => h) (by first | (refine Or.inl ⟨by rfl, ?_⟩; intro W hW; go_simp; try with_reducible rfl) | exact Or.inr ⟨by rfl, rfl⟩) ?_; try simp only [Act.put, List.setIfInBounds_toArray, List.set_cons_zero, List.set_cons_succ])
      refine wpAnyE_one (i := 5) (by kernel_rfl) (by simp only [List.getElem?_toArray, List.getElem?_cons_succ, List.getElem?_cons_zero]; rfl) (fun K hK => ?_)
      refine opwp_store_bk rowPL rfl (.tmp 2) (.tmp 33) rfl w.heap.size 0 rfl ZP6.out [.int .i64 k.s, .int .i64 k.c, .int .i64 (x.i + 1)] rfl rfl (by decide) (by simp [Value.oneCell']) ?_
      intro w7 hz7 hw7
      rw [lay_all _ _ (by rfl)] at hz7
      have hs7 := st_wr hw7
      have HZ7 := Lib.hid hz7
      have HS7 := Lib.hid hs7
      have HD : Hid (DidP F p R.1 w w7) := Lib.hid (by
        rw [HR.out]
        have ha7 := HD6.out.1.st hs7 (fun j hj e => HD6.out.2.2.2 (e ▸ hj))
        refine ⟨F6, ha7, ⟨?_, ?_, ?_, ?_, fun j hj hn => ?_⟩, fun j hj => ?_⟩
        · exact hs7.os.trans (HD6.out.2.1.os.trans (HB5.out.os.trans HD4.out.2.1.os))
        · exact hs7.tape.trans (HD6.out.2.1.tape.trans (HB5.out.tape.trans HD4.out.2.1.tape))
        · exact hs7.output.trans (HD6.out.2.1.output.trans (HB5.out.output.trans HD4.out.2.1.output))
        · exact Nat.le_trans (Nat.le_trans HD4.out.2.1.size HB5.out.size) (Nat.le_trans HD6.out.2.1.size hs7.size)
        · have l1 := Nat.lt_of_lt_of_le hj HD4.out.2.1.size
          have l2 := Nat.lt_of_lt_of_le l1 HB5.out.size
          have l3 := Nat.lt_of_lt_of_le l2 HD6.out.2.1.size
          have hn4 : ¬ F4 j := fun e => by
            rcases HD4.out.2.2.1 j e with h1 | h1
            · exact hn h1
            · have := HS1.out; omega
          rw [hs7.block j l3 (by omega), HD6.out.2.1.block j l2 hn4, HB5.out.block j l1, HD4.out.2.1.block j hj hn]
        · rcases HD6.out.2.2.1 j hj with h1 | h1
          · rcases HD4.out.2.2.1 j h1 with h2 | h2
            · exact .inl h2
            · exact .inr (by have := HS1.out; omega)
          · exact .inr (Nat.le_trans (Nat.le_trans HD4.out.2.1.size HB5.out.size) h1))
      clear hz7 hw7 hs7
      refine hK.out _ _ (HS7.out.mono fun j _ hj => .inr hj) ?_
      clear hK K
      try simp only [Act.put, List.setIfInBounds_toArray, List.set_cons_zero, List.set_cons_succ]
      (refine takeE (St.tr (fun j => F4 j ∨ j = w.heap.size)) 6 (by simp only [List.getElem?_toArray, List.getElem?_cons_succ, List.getElem?_cons_zero]; rfl) (by kernel_rfl) (by kernel_rfl) (by kernel_rfl) (by exact fun _ _ _ h => h) (by first | (refine Or.inl ⟨by rfl, ?_⟩; intro W hW; go_simp; try with_reducible rfl) | exact Or.inr ⟨by rfl, rfl⟩) ?_; try simp only [Act.put, List.setIfInBounds_toArray, List.set_cons_zero, List.set_cons_succ])
      refine wpAnyE_done (by kernel_rfl) ?_ _
      go_wp2
      refine bodyPost_ret (results_cell_tmp rfl rfl (rowPL.load HZ7.out 0 (cs := [.int .i64 k.s, .int .i64 k.c, .int .i64 (x.i + 1)]) rfl rfl)) rfl ⟨?_, HD.out⟩
      rw [HR.out]
      rfl
end
end Go.Proofs.Ytdldocbfnjbhmaa
