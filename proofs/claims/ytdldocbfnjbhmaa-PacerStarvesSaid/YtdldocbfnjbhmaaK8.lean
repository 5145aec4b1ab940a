/- Pulls are owed to a key. -/
import Derived.Test.YtdldocbfnjbhmaaK7
set_option linter.unusedSimpArgs false
set_option linter.unusedVariables false
set_option maxRecDepth 100000
namespace Go.Proofs.Ytdldocbfnjbhmaa
open Go.RowKit Go.Shelf
theorem DidP.of {F F' F0 F1 : Nat → Prop} {w w2 : World} {p b p0 p1 B : Nat} {m' : Pm} (h : PcX F' w2 p b p0 p1 F0 F1 m') (hs : St F w w2) (hg : Gr F F' B) (hB : w.heap.size ≤ B) : DidP F p m' w w2 :=
  ⟨F', ⟨b, p0, p1, F0, F1, h⟩, hs, fun k hk => (hg k hk).imp_right fun h => Nat.le_trans hB h⟩
section
variable {F : Nat → Prop} {w w' : World} {p : Nat} {m : Pm}
set_option maxHeartbeats 8000000 in
theorem p_owe (h : PcA F w p m) (ok : m.Ok) (k : Ky) (n : Int) : Calls Try.prog 25 #[.pointer (some ⟨p, 0, none⟩), .agg #[.int .i64 k.s, .int .i64 k.c], .int .i64 n] w fun e w' => e = .returned (.int .i64 (m.oweR k n).2) ∧ DidP F p (m.oweR k n).1 w w' := by
  obtain ⟨W, hW⟩ : ∃ W, W = w.alloc (.cells #[.int .i64 k.s, .int .i64 k.c] 39) := ⟨_, rfl⟩
  have hb1 : Below w.heap.size w W := by rw [hW]; exact (Below.refl _ w).alloc (Nat.le_refl _) _
  have z1 : Bk W 39 w.heap.size k.cl := by rw [hW]; exact Bk.new w 39 k.cl
  have HM := Lib.hid (p_made (h.below hb1))
  have hsW : W.heap.size = w.heap.size + 1 := by rw [hW]; simp
  have hff := p_find (h.below hb1) k
  rcases got_or m.L k with ⟨i, x, hg⟩ | hl
  · have HR := Lib.hid (show m.oweR k n = if n < 1 then (m, 1) else if 1152921504606846976 - x.p < n then (m, 5) else (m.owe i x n, 0) from by unfold Pm.oweR; rw [got_ix hg])
    rw [(of_got hg).1, (of_got hg).2] at hff
    have hgl := ok.gl x hg.mem
    have hpe := ok.pe x hg.mem
    have hk := hg.key
    have hr0 : x.p = 0 → x.g = 0 → m.q0.length + 1 ≤ m.most := fun e _ => ok.room0 hg fun h0 => by have := ((ok.in0 hg).1 h0).2; omega
    have hr1 : x.p = 0 → x.g = 1 → m.q1.length + 1 ≤ m.most := fun e _ => ok.room1 hg fun h0 => by have := ((ok.in1 hg).1 h0).2; omega
    obtain ⟨xk, g, q, s⟩ := x
    obtain rfl : xk = k := hk
    dsimp only at *
    have HF := Lib.hid hff
    generalize m.oweR xk n = R at *
    obtain ⟨b, p0, p1, F0, F1, hx⟩ := h
    have HX := Lib.hid hx
    have HG := Lib.hid hg
    have HA := Lib.hid (And.intro hb1 (And.intro z1 hsW))
    have hq0 : 0 ≤ q := hpe.1
    have hq1 : q ≤ 1152921504606846976 := hpe.2.1
    clear hx hg hff hb1 z1 hsW hpe ok
    by_cases hn : n < 1
    · have HR2 : Hid (R = (m, 1)) := Lib.hid (by rw [HR.out, if_pos hn])
      clear HR
      go_enter Try.func25, Try.ntmps25
      go_wp2_with fail
      rw [← hW]
      have cK0 : W.cell? ⟨w.heap.size, 0, none⟩ = some (.int .i64 xk.s) := HA.out.2.1.cell 0 rfl
      have cK1 : W.cell? ⟨w.heap.size, 1, none⟩ = some (.int .i64 xk.c) := HA.out.2.1.cell 1 rfl
      clear hW
      refine HM.out.mono ?_
      rintro e w' ⟨rfl, rfl⟩
      go_wp2_with fail
      refine HF.out.mono ?_
      rintro e w3 ⟨rfl, hb3⟩
      have hs3 := hb3.size
      have HSZ := Lib.hid (show w.heap.size < w3.heap.size by have := HA.out.2.2; omega)
      have hb4 := hb3.trans ((Below.refl _ w3).alloc hb3.size (.cells #[.int .i64 g, .int .i64 q, .int .i64 s] 76))
      have ZK := Lib.hid (HA.out.2.1.below hb4)
      have ZA := Lib.hid (Bk.new w3 76 [.int .i64 g, .int .i64 q, .int .i64 s])
      have HB4 := Lib.hid (HA.out.1.trans (hb4.mono HA.out.1.size))
      have HS4 := Lib.hid (show (w3.alloc (.cells #[.int .i64 g, .int .i64 q, .int .i64 s] 76)).heap.size = w3.heap.size + 1 by simp)
      clear cK0 cK1 hb3 hb4 hs3
      go_wp2_with fail
      generalize hW4 : w3.alloc (.cells #[.int .i64 g, .int .i64 q, .int .i64 s] 76) = W4 at *
      clear hW4
      have cA0 := ZA.out.cell 0 rfl
      have cA1 := ZA.out.cell 1 rfl
      have fA1 := ZA.out.free 1
      go_wp2
      go_ret
      rw [HR2.out]
      exact ⟨rfl, DidP.same ⟨b, p0, p1, F0, F1, HX.out⟩ HB4.out⟩
    · have hn1 : 1 ≤ n := by omega
      rcases (by omega : 1152921504606846976 - q < n ∨ n ≤ 1152921504606846976 - q) with hbig | hbig
      · have HR2 : Hid (R = (m, 5)) := Lib.hid (by rw [HR.out, if_neg hn, if_pos hbig])
        clear HR hn
        go_enter Try.func25, Try.ntmps25
        go_wp2_with fail
        rw [← hW]
        have cK0 : W.cell? ⟨w.heap.size, 0, none⟩ = some (.int .i64 xk.s) := HA.out.2.1.cell 0 rfl
        have cK1 : W.cell? ⟨w.heap.size, 1, none⟩ = some (.int .i64 xk.c) := HA.out.2.1.cell 1 rfl
        clear hW
        refine HM.out.mono ?_
        rintro e w' ⟨rfl, rfl⟩
        go_wp2_with fail
        refine HF.out.mono ?_
        rintro e w3 ⟨rfl, hb3⟩
        have hs3 := hb3.size
        have HSZ := Lib.hid (show w.heap.size < w3.heap.size by have := HA.out.2.2; omega)
        have hb4 := hb3.trans ((Below.refl _ w3).alloc hb3.size (.cells #[.int .i64 g, .int .i64 q, .int .i64 s] 76))
        have ZK := Lib.hid (HA.out.2.1.below hb4)
        have ZA := Lib.hid (Bk.new w3 76 [.int .i64 g, .int .i64 q, .int .i64 s])
        have HB4 := Lib.hid (HA.out.1.trans (hb4.mono HA.out.1.size))
        have HS4 := Lib.hid (show (w3.alloc (.cells #[.int .i64 g, .int .i64 q, .int .i64 s] 76)).heap.size = w3.heap.size + 1 by simp)
        clear cK0 cK1 hb3 hb4 hs3
        go_wp2_with fail
        generalize hW4 : w3.alloc (.cells #[.int .i64 g, .int .i64 q, .int .i64 s] 76) = W4 at *
        clear hW4
        have cA0 := ZA.out.cell 0 rfl
        have cA1 := ZA.out.cell 1 rfl
        have fA1 := ZA.out.free 1
        go_wp2
        go_ret
        rw [HR2.out]
        exact ⟨rfl, DidP.same ⟨b, p0, p1, F0, F1, HX.out⟩ HB4.out⟩
      · have HR2 : Hid (R = (m.owe i ⟨xk, g, q, s⟩ n, 0)) := Lib.hid (by rw [HR.out, if_neg hn, if_neg (by omega)])
        have hnm : n ≤ 1152921504606846976 := by omega
        have hadd : q + n ≤ 1152921504606846976 := by omega
        clear HR hn
        by_cases hz : q = 0
        · subst hz
          rcases hgl with rfl | rfl
          · have HRM := Lib.hid (hr0 rfl rfl)
            have HOW : Hid (m.owe i ⟨xk, 0, 0, s⟩ n = { m with q0 := m.q0 ++ [xk], L := m.L.set i ⟨xk, 0, 0 + n, s⟩ }) := Lib.hid rfl
            clear hr0 hr1
            go_enter Try.func25, Try.ntmps25
            go_wp2_with fail
            rw [← hW]
            have cK0 : W.cell? ⟨w.heap.size, 0, none⟩ = some (.int .i64 xk.s) := HA.out.2.1.cell 0 rfl
            have cK1 : W.cell? ⟨w.heap.size, 1, none⟩ = some (.int .i64 xk.c) := HA.out.2.1.cell 1 rfl
            clear hW
            refine HM.out.mono ?_
            rintro e w' ⟨rfl, rfl⟩
            go_wp2_with fail
            refine HF.out.mono ?_
            rintro e w3 ⟨rfl, hb3⟩
            have hs3 := hb3.size
            have HSZ := Lib.hid (show w.heap.size < w3.heap.size by have := HA.out.2.2; omega)
            have hb4 := hb3.trans ((Below.refl _ w3).alloc hb3.size (.cells #[.int .i64 0, .int .i64 0, .int .i64 s] 76))
            have ZK := Lib.hid (HA.out.2.1.below hb4)
            have ZA := Lib.hid (Bk.new w3 76 [.int .i64 0, .int .i64 0, .int .i64 s])
            have HB4 := Lib.hid (HA.out.1.trans (hb4.mono HA.out.1.size))
            have HS4 := Lib.hid (show (w3.alloc (.cells #[.int .i64 0, .int .i64 0, .int .i64 s] 76)).heap.size = w3.heap.size + 1 by simp)
            clear cK0 cK1 hb3 hb4 hs3
            go_wp2_with fail
            generalize hW4 : w3.alloc (.cells #[.int .i64 0, .int .i64 0, .int .i64 s] 76) = W4 at *
            clear hW4
            have cA0 := ZA.out.cell 0 rfl
            have cA1 := ZA.out.cell 1 rfl
            have fA1 := ZA.out.free 1
            go_wp2_with fail
            refine wp_region_E (St F0) (by kernel_rfl) (fun wd hbd hsz => ?_)
            have HB5 := Lib.hid (HB4.out.trans (hbd.mono HB4.out.size))
            have HX5 := Lib.hid (HX.out.below HB5.out)
            have ZK5 := Lib.hid (ZK.out.below hbd)
            have ZA5 := Lib.hid (ZA.out.below hbd)
            have HS5 := Lib.hid hbd.size
            have hwF : ¬ F0 w.heap.size := fun e => by have := HX.out.s0.bd _ e; omega
            have haF : ¬ F0 w3.heap.size := fun e => by have := HX.out.s0.bd _ e; have := HSZ.out; omega
            have hpF : ¬ F0 p := fun e => (HX.out.f0 p e).2.1 rfl
            have q1 : ∀ V, St F0 wd V → V.cell? ⟨p, 2, none⟩ = some (.pointer (some ⟨p0, 0, none⟩)) := fun V hV => (HX5.out.bk.st hV hpF).cell 2 rfl
            have q2 : ∀ V, St F0 wd V → V.cell? ⟨w3.heap.size, 0, none⟩ = some (.int .i64 0) := fun V hV => (ZA5.out.st hV haF).cell 0 rfl
            clear hsz cA0 cA1 fA1
            (refine takeE (St.tr F0) 0 (by simp only [List.getElem?_toArray, List.getElem?_cons_succ, List.getElem?_cons_zero]; rfl) (by kernel_rfl) (by kernel_rfl) (by kernel_rfl) (by exact fun _ _ _ h => h) (by first | (refine Or.inl ⟨by rfl, ?_⟩; intro W hW; go_simp; try with_reducible rfl) | exact Or.inr ⟨by rfl, rfl⟩) ?_; try simp only [Act.put, List.setIfInBounds_toArray, List.set_cons_zero, List.set_cons_succ])
            (refine takeE (St.tr F0) 1 (by simp only [List.getElem?_toArray, List.getElem?_cons_succ, List.getElem?_cons_zero]; rfl) (by kernel_rfl) (by kernel_rfl) (by kernel_rfl) (by exact fun _ _ _ h => h) (by first | (refine Or.inl ⟨by rfl, ?_⟩; intro W hW; go_simp; try with_reducible rfl) | exact Or.inr ⟨by rfl, rfl⟩) ?_; try simp only [Act.put, List.setIfInBounds_toArray, List.set_cons_zero, List.set_cons_succ])
            (refine takeE (St.tr F0) 7 (by simp only [List.getElem?_toArray, List.getElem?_cons_succ, List.getElem?_cons_zero]; rfl) (by kernel_rfl) (by kernel_rfl) (by kernel_rfl) (by exact fun _ _ _ h => h) (by first | (refine Or.inl ⟨by rfl, ?_⟩; intro W hW; exact exec_loadK rowK (.tmp 4) rfl w.heap.size 0 rfl xk (rangeK (ZK5.out.st hW hwF))) | exact Or.inr ⟨by rfl, rfl⟩) ?_; try simp only [Act.put, List.setIfInBounds_toArray, List.set_cons_zero, List.set_cons_succ])
            (refine takeE (St.tr F0) 2 (by simp only [List.getElem?_toArray, List.getElem?_cons_succ, List.getElem?_cons_zero]; rfl) (by kernel_rfl) (by kernel_rfl) (by kernel_rfl) (by exact fun _ _ _ h => h) (by first | (refine Or.inl ⟨by rfl, ?_⟩; intro W hW; go_simp; try with_reducible rfl) | exact Or.inr ⟨by rfl, rfl⟩) ?_; try simp only [Act.put, List.setIfInBounds_toArray, List.set_cons_zero, List.set_cons_succ])
            (refine takeE (St.tr F0) 3 (by simp only [List.getElem?_toArray, List.getElem?_cons_succ, List.getElem?_cons_zero]; rfl) (by kernel_rfl) (by kernel_rfl) (by kernel_rfl) (by exact fun _ _ _ h => h) (by first | (refine Or.inl ⟨by rfl, ?_⟩; intro W hW; go_simp; try with_reducible rfl) | exact Or.inr ⟨by rfl, rfl⟩) ?_; try simp only [Act.put, List.setIfInBounds_toArray, List.set_cons_zero, List.set_cons_succ])
            (refine takeE (St.tr F0) 4 (by simp only [List.getElem?_toArray, List.getElem?_cons_succ, List.getElem?_cons_zero]; rfl) (by kernel_rfl) (by kernel_rfl) (by kernel_rfl) (by exact fun _ _ _ h => h) (by first | (refine Or.inl ⟨by rfl, ?_⟩; intro W hW; go_simp; try with_reducible rfl) | exact Or.inr ⟨by rfl, rfl⟩) ?_; try simp only [Act.put, List.setIfInBounds_toArray, List.set_cons_zero, List.set_cons_succ])
            (refine takeE (St.tr F0) 5 (by simp only [List.getElem?_toArray, List.getElem?_cons_succ, List.getElem?_cons_zero]; rfl) (by kernel_rfl) (by kernel_rfl) (by kernel_rfl) (by exact fun _ _ _ h => h) (by first | (refine Or.inl ⟨by rfl, ?_⟩; intro W hW; go_simp; try with_reducible rfl) | exact Or.inr ⟨by rfl, rfl⟩) ?_; try simp only [Act.put, List.setIfInBounds_toArray, List.set_cons_zero, List.set_cons_succ])
            (refine takeE (St.tr F0) 6 (by simp only [List.getElem?_toArray, List.getElem?_cons_succ, List.getElem?_cons_zero]; rfl) (by kernel_rfl) (by kernel_rfl) (by kernel_rfl) (by exact fun _ _ _ h => h) (by first | (refine Or.inl ⟨by rfl, ?_⟩; intro W hW; go_simp; try with_reducible rfl) | exact Or.inr ⟨by rfl, rfl⟩) ?_; try simp only [Act.put, List.setIfInBounds_toArray, List.set_cons_zero, List.set_cons_succ])
            refine wpAnyE_one (i := 8) (by kernel_rfl) (by simp only [List.getElem?_toArray, List.getElem?_cons_succ, List.getElem?_cons_zero]; rfl) (fun K hK => ?_)
            refine opwp_build_row eltK rfl (.tmp 37) rfl (xs := xk.cl) rfl rfl ?_
            refine hK.out _ _ (St.alloc _ _ _) ?_
            clear hK K
            try simp only [Act.put, List.setIfInBounds_toArray, List.set_cons_zero, List.set_cons_succ]
            refine wpAnyE_one (i := 9) (by kernel_rfl) (by simp only [List.getElem?_toArray, List.getElem?_cons_succ, List.getElem?_cons_zero]; rfl) (fun K hK => ?_)
            go_simp
            refine (q_push [xk] _ 1 1 (HX5.out.s0.below ((Below.refl _ wd).alloc (Nat.le_refl _) _)) rfl (by rw [flat_one]; exact RdR.one wd 39 xk.cl xk.cl_one) HRM.out).mono ?_
            rintro en w5 ⟨rfl, hd⟩
            have hst5 := hd.choose_spec.2.1
            have ZK6 := Lib.hid ((ZK5.out.alloc (.cells #[.int .i64 xk.s, .int .i64 xk.c] 39)).st hst5 hwF)
            have ZA6 := Lib.hid ((ZA5.out.alloc (.cells #[.int .i64 xk.s, .int .i64 xk.c] 39)).st hst5 haF)
            have hba : Below wd.heap.size wd (wd.alloc (.cells #[.int .i64 xk.s, .int .i64 xk.c] 39)) := (Below.refl _ wd).alloc (Nat.le_refl _) _
            obtain ⟨F', Fn, hx5, hs5, hg5⟩ := (HX5.out.below hba).turn0 hd
            have HQ := Lib.hid (And.intro hx5 (And.intro ((St.ext (F := F) (HB5.out.trans (hba.mono HB5.out.size))).trans hs5 (Gr.refl _ _)) (fun k (hk : F' k) => (hg5 k hk).imp_right fun h => Nat.le_trans hba.size h : Gr F F' wd.heap.size)))
            clear hx5 hs5 hg5 hd hba
            refine hK.out _ _ hst5 ?_
            clear hK K
            try simp only [Act.put, List.setIfInBounds_toArray, List.set_cons_zero, List.set_cons_succ]
            refine wpAnyE_done (by kernel_rfl) ?_ _
            clear q1 q2
            have cA1 := ZA6.out.cell 1 rfl
            have fA1 := ZA6.out.free 1
            go_wp2_with fail
            have hst6 : St (· = w3.heap.size) w5 (w5.setCell ⟨w3.heap.size, 1, none⟩ (.int .i64 n)) := St.setCell (F := (· = w3.heap.size)) w5 (a := ⟨w3.heap.size, 1, none⟩) rfl _
            have zk7 := ZK6.out.st hst6 (fun e => by have := HSZ.out; omega)
            have za7 := ZA6.out.set 1 (.int .i64 n)
            have hfn : ∀ j, F' j → j ≠ w3.heap.size := fun j hj e => by
              subst e
              rcases HQ.out.2.2 _ hj with h1 | h1
              · have := HX.out.bd _ h1; have := HSZ.out; omega
              · have := HS4.out; have := HS5.out; omega
            have hx7 := HQ.out.1.st hst6 hfn
            have hst7 : St F w (w5.setCell ⟨w3.heap.size, 1, none⟩ (.int .i64 n)) := ⟨HQ.out.2.1.os, HQ.out.2.1.tape, HQ.out.2.1.output, Nat.le_trans HQ.out.2.1.size hst6.size, fun j hj hn => (hst6.block j (Nat.lt_of_lt_of_le hj HQ.out.2.1.size) (fun e => by have := HSZ.out; omega)).trans (HQ.out.2.1.block j hj hn)⟩
            clear hst6 hfn cA1 fA1
            generalize w5.setCell ⟨w3.heap.size, 1, none⟩ (.int .i64 n) = W7 at *
            refine wp_region_E (St (· = b)) (by kernel_rfl) (fun wd hbd hsz => ?_)
            have HX8 := Lib.hid (hx7.below hbd)
            have ZK8 := Lib.hid (zk7.below hbd)
            have ZA8 := Lib.hid (za7.below hbd)
            have HST8 := Lib.hid (hst7.trans (St.ext (F := F) hbd) (Gr.refl _ _))
            have hbF : b < w.heap.size := HX.out.bd b HX.out.fb
            have hpb : p ≠ b := HX.out.ne
            have hwb : w.heap.size ≠ b := by omega
            have hab : w3.heap.size ≠ b := by have := HSZ.out; omega
            have q3 : ∀ V, St (· = b) wd V → V.cell? ⟨p, 1, none⟩ = some (.map (some b)) := fun V hV => (HX8.out.bk.st hV hpb).cell 1 rfl
            clear hsz hx7 zk7 za7 hst7
            (refine takeE (St.tr (· = b)) 0 (by simp only [List.getElem?_toArray, List.getElem?_cons_succ, List.getElem?_cons_zero]; rfl) (by kernel_rfl) (by kernel_rfl) (by kernel_rfl) (by exact fun _ _ _ h => h) (by first | (refine Or.inl ⟨by rfl, ?_⟩; intro W hW; go_simp; try with_reducible rfl) | exact Or.inr ⟨by rfl, rfl⟩) ?_; try simp only [Act.put, List.setIfInBounds_toArray, List.set_cons_zero, List.set_cons_succ])
            (refine takeE (St.tr (· = b)) 4 (by simp only [List.getElem?_toArray, List.getElem?_cons_succ, List.getElem?_cons_zero]; rfl) (by kernel_rfl) (by kernel_rfl) (by kernel_rfl) (by exact fun _ _ _ h => h) (by first | (refine Or.inl ⟨by rfl, ?_⟩; intro W hW; exact exec_loadK rowK (.tmp 4) rfl w.heap.size 0 rfl xk (rangeK (ZK8.out.st hW hwb))) | exact Or.inr ⟨by rfl, rfl⟩) ?_; try simp only [Act.put, List.setIfInBounds_toArray, List.set_cons_zero, List.set_cons_succ])
            (refine takeE (St.tr (· = b)) 5 (by simp only [List.getElem?_toArray, List.getElem?_cons_succ, List.getElem?_cons_zero]; rfl) (by kernel_rfl) (by kernel_rfl) (by kernel_rfl) (by exact fun _ _ _ h => h) (by first | (refine Or.inl ⟨by rfl, ?_⟩; intro W hW; exact exec_loadA rowA (.tmp 7) rfl w3.heap.size 0 rfl ⟨xk, 0, n, s⟩ (rangeA (k := ⟨xk, 0, n, s⟩) (ZA8.out.st hW hab))) | exact Or.inr ⟨by rfl, rfl⟩) ?_; try simp only [Act.put, List.setIfInBounds_toArray, List.set_cons_zero, List.set_cons_succ])
            (refine takeE (St.tr (· = b)) 1 (by simp only [List.getElem?_toArray, List.getElem?_cons_succ, List.getElem?_cons_zero]; rfl) (by kernel_rfl) (by kernel_rfl) (by kernel_rfl) (by exact fun _ _ _ h => h) (by first | (refine Or.inl ⟨by rfl, ?_⟩; intro W hW; go_simp; try with_reducible rfl) | exact Or.inr ⟨by rfl, rfl⟩) ?_; try simp only [Act.put, List.setIfInBounds_toArray, List.set_cons_zero, List.set_cons_succ])
            (refine takeE (St.tr (· = b)) 2 (by simp only [List.getElem?_toArray, List.getElem?_cons_succ, List.getElem?_cons_zero]; rfl) (by kernel_rfl) (by kernel_rfl) (by kernel_rfl) (by exact fun _ _ _ h => h) (by first | (refine Or.inl ⟨by rfl, ?_⟩; intro W hW; go_simp; try with_reducible rfl) | exact Or.inr ⟨by rfl, rfl⟩) ?_; try simp only [Act.put, List.setIfInBounds_toArray, List.set_cons_zero, List.set_cons_succ])
            (refine takeE (St.tr (· = b)) 3 (by simp only [List.getElem?_toArray, List.getElem?_cons_succ, List.getElem?_cons_zero]; rfl) (by kernel_rfl) (by kernel_rfl) (by kernel_rfl) (by exact fun _ _ _ h => h) (by first | (refine Or.inl ⟨by rfl, ?_⟩; intro W hW; go_simp; try with_reducible rfl) | exact Or.inr ⟨by rfl, rfl⟩) ?_; try simp only [Act.put, List.setIfInBounds_toArray, List.set_cons_zero, List.set_cons_succ])
            refine wpAnyE_one (i := 6) (by kernel_rfl) (by simp only [List.getElem?_toArray, List.getElem?_cons_succ, List.getElem?_cons_zero]; rfl) (fun K hK => ?_)
            refine opwp_store_old rfl (.tmp 48) (.tmp 49) (.tmp 50) rfl rfl HX8.out.mp xk rfl HG.out ⟨xk, 0, n, s⟩ rfl rfl ?_
            intro w9 hm9 hs9
            have hpx := HX8.out.map hm9 hs9
            have HD := Lib.hid (DidP.of hpx.1 (HST8.out.trans (hs9.mono fun j _ e => e ▸ HX.out.fb) (Gr.refl _ _)) HQ.out.2.2 (by have := HS4.out; have := HS5.out; have := HSZ.out; omega))
            have HS9 := Lib.hid hs9
            clear hm9 hs9 hpx
            refine hK.out _ _ HS9.out ?_
            clear hK K
            try simp only [Act.put, List.setIfInBounds_toArray, List.set_cons_zero, List.set_cons_succ]
            refine wpAnyE_done (by kernel_rfl) ?_ _
            clear q3
            go_wp2
            go_ret
            rw [HR2.out, HOW.out]
            exact ⟨rfl, by rw [Int.zero_add]; exact HD.out⟩
          · have HRM := Lib.hid (hr1 rfl rfl)
            have HOW : Hid (m.owe i ⟨xk, 1, 0, s⟩ n = { m with q1 := m.q1 ++ [xk], L := m.L.set i ⟨xk, 1, 0 + n, s⟩ }) := Lib.hid rfl
            clear hr0 hr1
            go_enter Try.func25, Try.ntmps25
            go_wp2_with fail
            rw [← hW]
            have cK0 : W.cell? ⟨w.heap.size, 0, none⟩ = some (.int .i64 xk.s) := HA.out.2.1.cell 0 rfl
            have cK1 : W.cell? ⟨w.heap.size, 1, none⟩ = some (.int .i64 xk.c) := HA.out.2.1.cell 1 rfl
            clear hW
            refine HM.out.mono ?_
            rintro e w' ⟨rfl, rfl⟩
            go_wp2_with fail
            refine HF.out.mono ?_
            rintro e w3 ⟨rfl, hb3⟩
            have hs3 := hb3.size
            have HSZ := Lib.hid (show w.heap.size < w3.heap.size by have := HA.out.2.2; omega)
            have hb4 := hb3.trans ((Below.refl _ w3).alloc hb3.size (.cells #[.int .i64 1, .int .i64 0, .int .i64 s] 76))
            have ZK := Lib.hid (HA.out.2.1.below hb4)
            have ZA := Lib.hid (Bk.new w3 76 [.int .i64 1, .int .i64 0, .int .i64 s])
            have HB4 := Lib.hid (HA.out.1.trans (hb4.mono HA.out.1.size))
            have HS4 := Lib.hid (show (w3.alloc (.cells #[.int .i64 1, .int .i64 0, .int .i64 s] 76)).heap.size = w3.heap.size + 1 by simp)
            clear cK0 cK1 hb3 hb4 hs3
            go_wp2_with fail
            generalize hW4 : w3.alloc (.cells #[.int .i64 1, .int .i64 0, .int .i64 s] 76) = W4 at *
            clear hW4
            have cA0 := ZA.out.cell 0 rfl
            have cA1 := ZA.out.cell 1 rfl
            have fA1 := ZA.out.free 1
            go_wp2_with fail
            refine wp_region_E (St F1) (by kernel_rfl) (fun wd hbd hsz => ?_)
            have HB5 := Lib.hid (HB4.out.trans (hbd.mono HB4.out.size))
            have HX5 := Lib.hid (HX.out.below HB5.out)
            have ZK5 := Lib.hid (ZK.out.below hbd)
            have ZA5 := Lib.hid (ZA.out.below hbd)
            have HS5 := Lib.hid hbd.size
            have hwF : ¬ F1 w.heap.size := fun e => by have := HX.out.s1.bd _ e; omega
            have haF : ¬ F1 w3.heap.size := fun e => by have := HX.out.s1.bd _ e; have := HSZ.out; omega
            have hpF : ¬ F1 p := fun e => (HX.out.f1 p e).2.1 rfl
            have q1 : ∀ V, St F1 wd V → V.cell? ⟨p, 3, none⟩ = some (.pointer (some ⟨p1, 0, none⟩)) := fun V hV => (HX5.out.bk.st hV hpF).cell 3 rfl
            have q2 : ∀ V, St F1 wd V → V.cell? ⟨w3.heap.size, 0, none⟩ = some (.int .i64 1) := fun V hV => (ZA5.out.st hV haF).cell 0 rfl
            clear hsz cA0 cA1 fA1
            (refine takeE (St.tr F1) 0 (by simp only [List.getElem?_toArray, List.getElem?_cons_succ, List.getElem?_cons_zero]; rfl) (by kernel_rfl) (by kernel_rfl) (by kernel_rfl) (by exact fun _ _ _ h => h) (by first | (refine Or.inl ⟨by rfl, ?_⟩; intro W hW; go_simp; try with_reducible rfl) | exact Or.inr ⟨by rfl, rfl⟩) ?_; try simp only [Act.put, List.setIfInBounds_toArray, List.set_cons_zero, List.set_cons_succ])
            (refine takeE (St.tr F1) 1 (by simp only [List.getElem?_toArray, List.getElem?_cons_succ, List.getElem?_cons_zero]; rfl) (by kernel_rfl) (by kernel_rfl) (by kernel_rfl) (by exact fun _ _ _ h => h) (by first | (refine Or.inl ⟨by rfl, ?_⟩; intro W hW; go_simp; try with_reducible rfl) | exact Or.inr ⟨by rfl, rfl⟩) ?_; try simp only [Act.put, List.setIfInBounds_toArray, List.set_cons_zero, List.set_cons_succ])
            (refine takeE (St.tr F1) 7 (by simp only [List.getElem?_toArray, List.getElem?_cons_succ, List.getElem?_cons_zero]; rfl) (by kernel_rfl) (by kernel_rfl) (by kernel_rfl) (by exact fun _ _ _ h => h) (by first | (refine Or.inl ⟨by rfl, ?_⟩; intro W hW; exact exec_loadK rowK (.tmp 4) rfl w.heap.size 0 rfl xk (rangeK (ZK5.out.st hW hwF))) | exact Or.inr ⟨by rfl, rfl⟩) ?_; try simp only [Act.put, List.setIfInBounds_toArray, List.set_cons_zero, List.set_cons_succ])
            (refine takeE (St.tr F1) 2 (by simp only [List.getElem?_toArray, List.getElem?_cons_succ, List.getElem?_cons_zero]; rfl) (by kernel_rfl) (by kernel_rfl) (by kernel_rfl) (by exact fun _ _ _ h => h) (by first | (refine Or.inl ⟨by rfl, ?_⟩; intro W hW; go_simp; try with_reducible rfl) | exact Or.inr ⟨by rfl, rfl⟩) ?_; try simp only [Act.put, List.setIfInBounds_toArray, List.set_cons_zero, List.set_cons_succ])
            (refine takeE (St.tr F1) 3 (by simp only [List.getElem?_toArray, List.getElem?_cons_succ, List.getElem?_cons_zero]; rfl) (by kernel_rfl) (by kernel_rfl) (by kernel_rfl) (by exact fun _ _ _ h => h) (by first | (refine Or.inl ⟨by rfl, ?_⟩; intro W hW; go_simp; try with_reducible rfl) | exact Or.inr ⟨by rfl, rfl⟩) ?_; try simp only [Act.put, List.setIfInBounds_toArray, List.set_cons_zero, List.set_cons_succ])
            (refine takeE (St.tr F1) 4 (by simp only [List.getElem?_toArray, List.getElem?_cons_succ, List.getElem?_cons_zero]; rfl) (by kernel_rfl) (by kernel_rfl) (by kernel_rfl) (by exact fun _ _ _ h => h) (by first | (refine Or.inl ⟨by rfl, ?_⟩; intro W hW; go_simp; try with_reducible rfl) | exact Or.inr ⟨by rfl, rfl⟩) ?_; try simp only [Act.put, List.setIfInBounds_toArray, List.set_cons_zero, List.set_cons_succ])
            (refine takeE (St.tr F1) 5 (by simp only [List.getElem?_toArray, List.getElem?_cons_succ, List.getElem?_cons_zero]; rfl) (by kernel_rfl) (by kernel_rfl) (by kernel_rfl) (by exact fun _ _ _ h => h) (by first | (refine Or.inl ⟨by rfl, ?_⟩; intro W hW; go_simp; try with_reducible rfl) | exact Or.inr ⟨by rfl, rfl⟩) ?_; try simp only [Act.put, List.setIfInBounds_toArray, List.set_cons_zero, List.set_cons_succ])
            (refine takeE (St.tr F1) 6 (by simp only [List.getElem?_toArray, List.getElem?_cons_succ, List.getElem?_cons_zero]; rfl) (by kernel_rfl) (by kernel_rfl) (by kernel_rfl) (by exact fun _ _ _ h => h) (by first | (refine Or.inl ⟨by rfl, ?_⟩; intro W hW; go_simp; try with_reducible rfl) | exact Or.inr ⟨by rfl, rfl⟩) ?_; try simp only [Act.put, List.setIfInBounds_toArray, List.set_cons_zero, List.set_cons_succ])
            refine wpAnyE_one (i := 8) (by kernel_rfl) (by simp only [List.getElem?_toArray, List.getElem?_cons_succ, List.getElem?_cons_zero]; rfl) (fun K hK => ?_)
            refine opwp_build_row eltK rfl (.tmp 37) rfl (xs := xk.cl) rfl rfl ?_
            refine hK.out _ _ (St.alloc _ _ _) ?_
            clear hK K
            try simp only [Act.put, List.setIfInBounds_toArray, List.set_cons_zero, List.set_cons_succ]
            refine wpAnyE_one (i := 9) (by kernel_rfl) (by simp only [List.getElem?_toArray, List.getElem?_cons_succ, List.getElem?_cons_zero]; rfl) (fun K hK => ?_)
            go_simp
            refine (q_push [xk] _ 1 1 (HX5.out.s1.below ((Below.refl _ wd).alloc (Nat.le_refl _) _)) rfl (by rw [flat_one]; exact RdR.one wd 39 xk.cl xk.cl_one) HRM.out).mono ?_
            rintro en w5 ⟨rfl, hd⟩
            have hst5 := hd.choose_spec.2.1
            have ZK6 := Lib.hid ((ZK5.out.alloc (.cells #[.int .i64 xk.s, .int .i64 xk.c] 39)).st hst5 hwF)
            have ZA6 := Lib.hid ((ZA5.out.alloc (.cells #[.int .i64 xk.s, .int .i64 xk.c] 39)).st hst5 haF)
            have hba : Below wd.heap.size wd (wd.alloc (.cells #[.int .i64 xk.s, .int .i64 xk.c] 39)) := (Below.refl _ wd).alloc (Nat.le_refl _) _
            obtain ⟨F', Fn, hx5, hs5, hg5⟩ := (HX5.out.below hba).turn1 hd
            have HQ := Lib.hid (And.intro hx5 (And.intro ((St.ext (F := F) (HB5.out.trans (hba.mono HB5.out.size))).trans hs5 (Gr.refl _ _)) (fun k (hk : F' k) => (hg5 k hk).imp_right fun h => Nat.le_trans hba.size h : Gr F F' wd.heap.size)))
            clear hx5 hs5 hg5 hd hba
            refine hK.out _ _ hst5 ?_
            clear hK K
            try simp only [Act.put, List.setIfInBounds_toArray, List.set_cons_zero, List.set_cons_succ]
            refine wpAnyE_done (by kernel_rfl) ?_ _
            clear q1 q2
            have cA1 := ZA6.out.cell 1 rfl
            have fA1 := ZA6.out.free 1
            go_wp2_with fail
            have hst6 : St (· = w3.heap.size) w5 (w5.setCell ⟨w3.heap.size, 1, none⟩ (.int .i64 n)) := St.setCell (F := (· = w3.heap.size)) w5 (a := ⟨w3.heap.size, 1, none⟩) rfl _
            have zk7 := ZK6.out.st hst6 (fun e => by have := HSZ.out; omega)
            have za7 := ZA6.out.set 1 (.int .i64 n)
            have hfn : ∀ j, F' j → j ≠ w3.heap.size := fun j hj e => by
              subst e
              rcases HQ.out.2.2 _ hj with h1 | h1
              · have := HX.out.bd _ h1; have := HSZ.out; omega
              · have := HS4.out; have := HS5.out; omega
            have hx7 := HQ.out.1.st hst6 hfn
            have hst7 : St F w (w5.setCell ⟨w3.heap.size, 1, none⟩ (.int .i64 n)) := ⟨HQ.out.2.1.os, HQ.out.2.1.tape, HQ.out.2.1.output, Nat.le_trans HQ.out.2.1.size hst6.size, fun j hj hn => (hst6.block j (Nat.lt_of_lt_of_le hj HQ.out.2.1.size) (fun e => by have := HSZ.out; omega)).trans (HQ.out.2.1.block j hj hn)⟩
            clear hst6 hfn cA1 fA1
            generalize w5.setCell ⟨w3.heap.size, 1, none⟩ (.int .i64 n) = W7 at *
            refine wp_region_E (St (· = b)) (by kernel_rfl) (fun wd hbd hsz => ?_)
            have HX8 := Lib.hid (hx7.below hbd)
            have ZK8 := Lib.hid (zk7.below hbd)
            have ZA8 := Lib.hid (za7.below hbd)
            have HST8 := Lib.hid (hst7.trans (St.ext (F := F) hbd) (Gr.refl _ _))
            have hbF : b < w.heap.size := HX.out.bd b HX.out.fb
            have hpb : p ≠ b := HX.out.ne
            have hwb : w.heap.size ≠ b := by omega
            have hab : w3.heap.size ≠ b := by have := HSZ.out; omega
            have q3 : ∀ V, St (· = b) wd V → V.cell? ⟨p, 1, none⟩ = some (.map (some b)) := fun V hV => (HX8.out.bk.st hV hpb).cell 1 rfl
            clear hsz hx7 zk7 za7 hst7
            (refine takeE (St.tr (· = b)) 0 (by simp only [List.getElem?_toArray, List.getElem?_cons_succ, List.getElem?_cons_zero]; rfl) (by kernel_rfl) (by kernel_rfl) (by kernel_rfl) (by exact fun _ _ _ h => h) (by first | (refine Or.inl ⟨by rfl, ?_⟩; intro W hW; go_simp; try with_reducible rfl) | exact Or.inr ⟨by rfl, rfl⟩) ?_; try simp only [Act.put, List.setIfInBounds_toArray, List.set_cons_zero, List.set_cons_succ])
            (refine takeE (St.tr (· = b)) 4 (by simp only [List.getElem?_toArray, List.getElem?_cons_succ, List.getElem?_cons_zero]; rfl) (by kernel_rfl) (by kernel_rfl) (by kernel_rfl) (by exact fun _ _ _ h => h) (by first | (refine Or.inl ⟨by rfl, ?_⟩; intro W hW; exact exec_loadK rowK (.tmp 4) rfl w.heap.size 0 rfl xk (rangeK (ZK8.out.st hW hwb))) | exact Or.inr ⟨by rfl, rfl⟩) ?_; try simp only [Act.put, List.setIfInBounds_toArray, List.set_cons_zero, List.set_cons_succ])
            (refine takeE (St.tr (· = b)) 5 (by simp only [List.getElem?_toArray, List.getElem?_cons_succ, List.getElem?_cons_zero]; rfl) (by kernel_rfl) (by kernel_rfl) (by kernel_rfl) (by exact fun _ _ _ h => h) (by first | (refine Or.inl ⟨by rfl, ?_⟩; intro W hW; exact exec_loadA rowA (.tmp 7) rfl w3.heap.size 0 rfl ⟨xk, 1, n, s⟩ (rangeA (k := ⟨xk, 1, n, s⟩) (ZA8.out.st hW hab))) | exact Or.inr ⟨by rfl, rfl⟩) ?_; try simp only [Act.put, List.setIfInBounds_toArray, List.set_cons_zero, List.set_cons_succ])
            (refine takeE (St.tr (· = b)) 1 (by simp only [List.getElem?_toArray, List.getElem?_cons_succ, List.getElem?_cons_zero]; rfl) (by kernel_rfl) (by kernel_rfl) (by kernel_rfl) (by exact fun _ _ _ h => h) (by first | (refine Or.inl ⟨by rfl, ?_⟩; intro W hW; go_simp; try with_reducible rfl) | exact Or.inr ⟨by rfl, rfl⟩) ?_; try simp only [Act.put, List.setIfInBounds_toArray, List.set_cons_zero, List.set_cons_succ])
            (refine takeE (St.tr (· = b)) 2 (by simp only [List.getElem?_toArray, List.getElem?_cons_succ, List.getElem?_cons_zero]; rfl) (by kernel_rfl) (by kernel_rfl) (by kernel_rfl) (by exact fun _ _ _ h => h) (by first | (refine Or.inl ⟨by rfl, ?_⟩; intro W hW; go_simp; try with_reducible rfl) | exact Or.inr ⟨by rfl, rfl⟩) ?_; try simp only [Act.put, List.setIfInBounds_toArray, List.set_cons_zero, List.set_cons_succ])
            (refine takeE (St.tr (· = b)) 3 (by simp only [List.getElem?_toArray, List.getElem?_cons_succ, List.getElem?_cons_zero]; rfl) (by kernel_rfl) (by kernel_rfl) (by kernel_rfl) (by exact fun _ _ _ h => h) (by first | (refine Or.inl ⟨by rfl, ?_⟩; intro W hW; go_simp; try with_reducible rfl) | exact Or.inr ⟨by rfl, rfl⟩) ?_; try simp only [Act.put, List.setIfInBounds_toArray, List.set_cons_zero, List.set_cons_succ])
            refine wpAnyE_one (i := 6) (by kernel_rfl) (by simp only [List.getElem?_toArray, List.getElem?_cons_succ, List.getElem?_cons_zero]; rfl) (fun K hK => ?_)
            refine opwp_store_old rfl (.tmp 48) (.tmp 49) (.tmp 50) rfl rfl HX8.out.mp xk rfl HG.out ⟨xk, 1, n, s⟩ rfl rfl ?_
            intro w9 hm9 hs9
            have hpx := HX8.out.map hm9 hs9
            have HD := Lib.hid (DidP.of hpx.1 (HST8.out.trans (hs9.mono fun j _ e => e ▸ HX.out.fb) (Gr.refl _ _)) HQ.out.2.2 (by have := HS4.out; have := HS5.out; have := HSZ.out; omega))
            have HS9 := Lib.hid hs9
            clear hm9 hs9 hpx
            refine hK.out _ _ HS9.out ?_
            clear hK K
            try simp only [Act.put, List.setIfInBounds_toArray, List.set_cons_zero, List.set_cons_succ]
            refine wpAnyE_done (by kernel_rfl) ?_ _
            clear q3
            go_wp2
            go_ret
            rw [HR2.out, HOW.out]
            exact ⟨rfl, by rw [Int.zero_add]; exact HD.out⟩
        · have HOW : Hid (m.owe i ⟨xk, g, q, s⟩ n = { m with L := m.L.set i ⟨xk, g, q + n, s⟩ }) := Lib.hid (by unfold Pm.owe; rw [if_neg hz]; rfl)
          have hz' : (q == 0) = false := by simp; omega
          clear hr0 hr1
          go_enter Try.func25, Try.ntmps25
          go_wp2_with fail
          rw [← hW]
          have cK0 : W.cell? ⟨w.heap.size, 0, none⟩ = some (.int .i64 xk.s) := HA.out.2.1.cell 0 rfl
          have cK1 : W.cell? ⟨w.heap.size, 1, none⟩ = some (.int .i64 xk.c) := HA.out.2.1.cell 1 rfl
          clear hW
          refine HM.out.mono ?_
          rintro e w' ⟨rfl, rfl⟩
          go_wp2_with fail
          refine HF.out.mono ?_
          rintro e w3 ⟨rfl, hb3⟩
          have hs3 := hb3.size
          have HSZ := Lib.hid (show w.heap.size < w3.heap.size by have := HA.out.2.2; omega)
          have hb4 := hb3.trans ((Below.refl _ w3).alloc hb3.size (.cells #[.int .i64 g, .int .i64 (q + n), .int .i64 s] 76))
          have ZK := Lib.hid (HA.out.2.1.below hb4)
          have ZA := Lib.hid (Bk.new w3 76 [.int .i64 g, .int .i64 (q + n), .int .i64 s])
          have HB4 := Lib.hid (HA.out.1.trans (hb4.mono HA.out.1.size))
          have HS4 := Lib.hid (show (w3.alloc (.cells #[.int .i64 g, .int .i64 (q + n), .int .i64 s] 76)).heap.size = w3.heap.size + 1 by simp)
          clear cK0 cK1 hb3 hb4 hs3
          go_wp2_with fail
          generalize hW4 : w3.alloc (.cells #[.int .i64 g, .int .i64 (q + n), .int .i64 s] 76) = W4 at *
          clear hW4
          have cA0 := ZA.out.cell 0 rfl
          have cA1 := ZA.out.cell 1 rfl
          have fA1 := ZA.out.free 1
          have zk7 := ZK.out
          have za7 := ZA.out
          have hx7 := HX.out.below HB4.out
          have hst7 := St.ext (F := F) HB4.out
          have HS5 : Hid (w3.heap.size < W4.heap.size) := Lib.hid (by have := HS4.out; omega)
          have HQ := Lib.hid (And.intro (HX.out.below HB4.out) (And.intro (St.ext (F := F) HB4.out) (Gr.refl F W4.heap.size)))
          clear cA0 cA1 fA1
          refine wp_region_E (St (· = b)) (by kernel_rfl) (fun wd hbd hsz => ?_)
          have HX8 := Lib.hid (hx7.below hbd)
          have ZK8 := Lib.hid (zk7.below hbd)
          have ZA8 := Lib.hid (za7.below hbd)
          have HST8 := Lib.hid (hst7.trans (St.ext (F := F) hbd) (Gr.refl _ _))
          have hbF : b < w.heap.size := HX.out.bd b HX.out.fb
          have hpb : p ≠ b := HX.out.ne
          have hwb : w.heap.size ≠ b := by omega
          have hab : w3.heap.size ≠ b := by have := HSZ.out; omega
          have q3 : ∀ V, St (· = b) wd V → V.cell? ⟨p, 1, none⟩ = some (.map (some b)) := fun V hV => (HX8.out.bk.st hV hpb).cell 1 rfl
          clear hsz hx7 zk7 za7 hst7
          (refine takeE (St.tr (· = b)) 0 (by simp only [List.getElem?_toArray, List.getElem?_cons_succ, List.getElem?_cons_zero]; rfl) (by kernel_rfl) (by kernel_rfl) (by kernel_rfl) (by exact fun _ _ _ h => h) (by first | (refine Or.inl ⟨by rfl, ?_⟩; intro W hW; go_simp; try with_reducible rfl) | exact Or.inr ⟨by rfl, rfl⟩) ?_; try simp only [Act.put, List.setIfInBounds_toArray, List.set_cons_zero, List.set_cons_succ])
          (refine takeE (St.tr (· = b)) 4 (by simp only [List.getElem?_toArray, List.getElem?_cons_succ, List.getElem?_cons_zero]; rfl) (by kernel_rfl) (by kernel_rfl) (by kernel_rfl) (by exact fun _ _ _ h => h) (by first | (refine Or.inl ⟨by rfl, ?_⟩; intro W hW; exact exec_loadK rowK (.tmp 4) rfl w.heap.size 0 rfl xk (rangeK (ZK8.out.st hW hwb))) | exact Or.inr ⟨by rfl, rfl⟩) ?_; try simp only [Act.put, List.setIfInBounds_toArray, List.set_cons_zero, List.set_cons_succ])
          (refine takeE (St.tr (· = b)) 5 (by simp only [List.getElem?_toArray, List.getElem?_cons_succ, List.getElem?_cons_zero]; rfl) (by kernel_rfl) (by kernel_rfl) (by kernel_rfl) (by exact fun _ _ _ h => h) (by first | (refine Or.inl ⟨by rfl, ?_⟩; intro W hW; exact exec_loadA rowA (.tmp 7) rfl w3.heap.size 0 rfl ⟨xk, g, (q + n), s⟩ (rangeA (k := ⟨xk, g, (q + n), s⟩) (ZA8.out.st hW hab))) | exact Or.inr ⟨by rfl, rfl⟩) ?_; try simp only [Act.put, List.setIfInBounds_toArray, List.set_cons_zero, List.set_cons_succ])
          (refine takeE (St.tr (· = b)) 1 (by simp only [List.getElem?_toArray, List.getElem?_cons_succ, List.getElem?_cons_zero]; rfl) (by kernel_rfl) (by kernel_rfl) (by kernel_rfl) (by exact fun _ _ _ h => h) (by first | (refine Or.inl ⟨by rfl, ?_⟩; intro W hW; go_simp; try with_reducible rfl) | exact Or.inr ⟨by rfl, rfl⟩) ?_; try simp only [Act.put, List.setIfInBounds_toArray, List.set_cons_zero, List.set_cons_succ])
          (refine takeE (St.tr (· = b)) 2 (by simp only [List.getElem?_toArray, List.getElem?_cons_succ, List.getElem?_cons_zero]; rfl) (by kernel_rfl) (by kernel_rfl) (by kernel_rfl) (by exact fun _ _ _ h => h) (by first | (refine Or.inl ⟨by rfl, ?_⟩; intro W hW; go_simp; try with_reducible rfl) | exact Or.inr ⟨by rfl, rfl⟩) ?_; try simp only [Act.put, List.setIfInBounds_toArray, List.set_cons_zero, List.set_cons_succ])
          (refine takeE (St.tr (· = b)) 3 (by simp only [List.getElem?_toArray, List.getElem?_cons_succ, List.getElem?_cons_zero]; rfl) (by kernel_rfl) (by kernel_rfl) (by kernel_rfl) (by exact fun _ _ _ h => h) (by first | (refine Or.inl ⟨by rfl, ?_⟩; intro W hW; go_simp; try with_reducible rfl) | exact Or.inr ⟨by rfl, rfl⟩) ?_; try simp only [Act.put, List.setIfInBounds_toArray, List.set_cons_zero, List.set_cons_succ])
          refine wpAnyE_one (i := 6) (by kernel_rfl) (by simp only [List.getElem?_toArray, List.getElem?_cons_succ, List.getElem?_cons_zero]; rfl) (fun K hK => ?_)
          refine opwp_store_old rfl (.tmp 48) (.tmp 49) (.tmp 50) rfl rfl HX8.out.mp xk rfl HG.out ⟨xk, g, (q + n), s⟩ rfl rfl ?_
          intro w9 hm9 hs9
          have hpx := HX8.out.map hm9 hs9
          have HD := Lib.hid (DidP.of hpx.1 (HST8.out.trans (hs9.mono fun j _ e => e ▸ HX.out.fb) (Gr.refl _ _)) HQ.out.2.2 (by have := HS4.out; have := HS5.out; have := HSZ.out; omega))
          have HS9 := Lib.hid hs9
          clear hm9 hs9 hpx
          refine hK.out _ _ HS9.out ?_
          clear hK K
          try simp only [Act.put, List.setIfInBounds_toArray, List.set_cons_zero, List.set_cons_succ]
          refine wpAnyE_done (by kernel_rfl) ?_ _
          clear q3
          go_wp2
          go_ret
          rw [HR2.out, HOW.out]
          exact ⟨rfl, HD.out⟩
  · have HR := Lib.hid (show m.oweR k n = (m, 7) from by unfold Pm.oweR; rw [lacks_ix hl])
    rw [(of_lacks hl).1, (of_lacks hl).2] at hff
    have HF := Lib.hid hff
    have HH := Lib.hid h
    have HA := Lib.hid (And.intro hb1 z1)
    clear hff hb1 z1 h hl
    generalize m.oweR k n = R at *
    unfold zKn zK at HF
    dsimp only at HF
    go_enter Try.func25, Try.ntmps25
    go_wp2_with fail
    rw [← hW]
    have cK0 : W.cell? ⟨w.heap.size, 0, none⟩ = some (.int .i64 k.s) := HA.out.2.cell 0 rfl
    have cK1 : W.cell? ⟨w.heap.size, 1, none⟩ = some (.int .i64 k.c) := HA.out.2.cell 1 rfl
    clear hW
    refine HM.out.mono ?_
    rintro e w' ⟨rfl, rfl⟩
    go_wp2_with fail
    refine HF.out.mono ?_
    rintro e w3 ⟨rfl, hb3⟩
    have HB3 := Lib.hid (HA.out.1.trans (hb3.mono HA.out.1.size))
    clear hb3
    go_wp2
    go_ret
    rw [HR.out]
    exact ⟨rfl, DidP.same HH.out (HB3.out.alloc HB3.out.size _)⟩
end
end Go.Proofs.Ytdldocbfnjbhmaa
