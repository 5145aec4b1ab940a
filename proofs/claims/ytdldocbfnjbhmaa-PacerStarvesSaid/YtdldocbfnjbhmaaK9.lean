/- A key is forgotten. -/
import Derived.Test.YtdldocbfnjbhmaaK8
set_option linter.unusedSimpArgs false
set_option linter.unusedVariables false
set_option maxRecDepth 100000
namespace Go.Proofs.Ytdldocbfnjbhmaa
open Go.RowKit Go.Shelf
theorem key_eql (a b : Ky) (w : World) : (binOp .eql 39 (.agg #[.int .i64 a.s, .int .i64 a.c]) (.agg #[.int .i64 b.s, .int .i64 b.c])).run Try.prog w = .ok (.bool (decide (a = b))) w := by
  rw [run_eql_struct]
  have h := key_eq a b w
  rw [show (Op.equal 39 (.agg #[.int .i64 a.s, .int .i64 a.c]) (.agg #[.int .i64 b.s, .int .i64 b.c])) = Op.equalIn 10000 39 (.agg #[.int .i64 a.s, .int .i64 a.c]) (.agg #[.int .i64 b.s, .int .i64 b.c]) from rfl] at h
  rw [h]
  rfl
theorem c_is (x k : Ky) (g : Nat) (w : World) (h : Bk w 39 g k.cl) : Calls Try.prog 36 #[.agg #[.int .i64 x.s, .int .i64 x.c], .pointer (some ⟨g, 0, none⟩)] w fun e w' => e = .returned (.bool (decide (x = k))) ∧ Below w.heap.size w w' := by
  have hb : Below w.heap.size w (w.alloc (.cells #[.int .i64 x.s, .int .i64 x.c] 39)) := (Below.refl _ w).alloc (Nat.le_refl _) _
  have c0 : w.cell? ⟨g, 0, none⟩ = some (.int .i64 k.s) := h.cell 0 rfl
  have c1 : w.cell? ⟨g, 1, none⟩ = some (.int .i64 k.c) := h.cell 1 rfl
  have hlt := h.lt
  have HD := Lib.hid (show decide (x = k) = (decide (x.s = k.s) && decide (x.c = k.c)) from by simp [Ky.eq_iff])
  generalize decide (x = k) = d at *
  obtain ⟨xs, xc⟩ := x
  obtain ⟨ks, kc⟩ := k
  dsimp only at *
  have HB := Lib.hid hb
  clear hb h
  by_cases e1 : xs = ks
  · subst e1
    by_cases e2 : xc = kc
    · subst e2
      have HV : Hid (d = true) := Lib.hid (by rw [HD.out]; simp)
      clear HD
      go_enter Try.func36, Try.ntmps36
      go_wp2
      go_ret
      exact ⟨by rw [HV.out]; rfl, HB.out⟩
    · have HV : Hid (d = false) := Lib.hid (by rw [HD.out]; simp [e2])
      have e2' : (xc == kc) = false := by simp [e2]
      clear HD
      go_enter Try.func36, Try.ntmps36
      go_wp2
      go_ret
      exact ⟨by rw [HV.out]; rfl, HB.out⟩
  · have HV : Hid (d = false) := Lib.hid (by rw [HD.out]; simp [e1])
    have e1' : (xs == ks) = false := by simp [e1]
    clear HD
    go_enter Try.func36, Try.ntmps36
    go_wp2
    go_ret
    exact ⟨by rw [HV.out]; rfl, HB.out⟩
theorem filter_none {q : List Ky} {k : Ky} (h : k ∉ q) : q.filter (not_ k) = q := by
  rw [List.filter_eq_self]
  intro a ha
  simp only [not_, Bool.not_eq_true', decide_eq_false_iff_not]
  rintro rfl
  exact h ha
section
variable {F : Nat → Prop} {w w' : World} {p : Nat} {m : Pm} {P : Option Addr}
set_option maxHeartbeats 8000000 in
theorem p_forget (h : PcA F w p m) (ok : m.Ok) (k : Ky) : Calls Try.prog 13 #[.pointer (some ⟨p, 0, none⟩), .agg #[.int .i64 k.s, .int .i64 k.c]] w fun e w' => e = .returned (.tuple #[.int .i64 (m.forgetR k).2.1, .bool (m.forgetR k).2.2]) ∧ DidP F p (m.forgetR k).1 w w' := by
  obtain ⟨W, hW⟩ : ∃ W, W = w.alloc (.cells #[.int .i64 k.s, .int .i64 k.c] 39) := ⟨_, rfl⟩
  have hb1 : Below w.heap.size w W := by rw [hW]; exact (Below.refl _ w).alloc (Nat.le_refl _) _
  have z1 : Bk W 39 w.heap.size k.cl := by rw [hW]; exact Bk.new w 39 k.cl
  have hsW : W.heap.size = w.heap.size + 1 := by rw [hW]; simp
  have hff := p_find (h.below hb1) k
  rcases got_or m.L k with ⟨i, x, hg⟩ | hl
  · have HR := Lib.hid (show m.forgetR k = (m.forget i k, x.p, true) from by unfold Pm.forgetR; rw [got_ix hg])
    rw [(of_got hg).1, (of_got hg).2] at hff
    have hgl := ok.gl x hg.mem
    have hk := hg.key
    have hr0 : x.g = 0 → m.q1.filter (not_ k) = m.q1 := fun e => filter_none fun h1 => by have := ((ok.in1 hg).1 h1).1; omega
    have hr1 : x.g = 1 → m.q0.filter (not_ k) = m.q0 := fun e => filter_none fun h1 => by have := ((ok.in0 hg).1 h1).1; omega
    obtain ⟨xk, g, q, s⟩ := x
    obtain rfl : xk = k := hk
    dsimp only at *
    have HF := Lib.hid hff
    generalize m.forgetR xk = R at *
    obtain ⟨b, p0, p1, F0, F1, hx⟩ := h
    have HX := Lib.hid hx
    have HG := Lib.hid hg
    have HA := Lib.hid (And.intro hb1 (And.intro z1 hsW))
    clear hx hg hff hb1 z1 hsW ok
    rcases hgl with rfl | rfl
    · have HOW : Hid (m.forget i xk = { m with q0 := m.q0.filter (not_ xk), L := m.L.eraseIdx i }) := Lib.hid (by unfold Pm.forget; rw [hr0 rfl])
      clear hr0 hr1
      go_enter Try.func13, Try.ntmps13
      go_wp2_with fail
      rw [← hW]
      clear hW
      refine HF.out.mono ?_
      rintro e w3 ⟨rfl, hb3⟩
      have hs3 := hb3.size
      have HSZ := Lib.hid (show w.heap.size < w3.heap.size by have := HA.out.2.2; omega)
      have hb4 := hb3.trans ((Below.refl _ w3).alloc hb3.size (.cells #[.int .i64 0, .int .i64 q, .int .i64 s] 76))
      have ZK := Lib.hid (HA.out.2.1.below hb4)
      have ZA := Lib.hid (Bk.new w3 76 [.int .i64 0, .int .i64 q, .int .i64 s])
      have HB4 := Lib.hid (HA.out.1.trans (hb4.mono HA.out.1.size))
      have HS4 := Lib.hid (show (w3.alloc (.cells #[.int .i64 0, .int .i64 q, .int .i64 s] 76)).heap.size = w3.heap.size + 1 by simp)
      clear hb3 hb4 hs3
      go_wp2_with fail
      generalize hW4 : w3.alloc (.cells #[.int .i64 0, .int .i64 q, .int .i64 s] 76) = W4 at *
      clear hW4
      refine wp_region_E (St F0) (by kernel_rfl) (fun wd hbd hsz => ?_)
      have HB5 := Lib.hid (HB4.out.trans (hbd.mono HB4.out.size))
      have HX5 := Lib.hid (HX.out.below HB5.out)
      have ZK5 := Lib.hid (ZK.out.below hbd)
      have ZA5 := Lib.hid (ZA.out.below hbd)
      have HS5 := Lib.hid hbd.size
      have hwF : ¬ F0 w.heap.size := fun e => by have := HX.out.s0.bd _ e; omega
      have haF : ¬ F0 w3.heap.size := fun e => by have := HX.out.s0.bd _ e; have := HSZ.out; omega
      have hpF : ¬ F0 p := fun e => (HX.out.f0 p e).2.1 rfl
      have q1 : ∀ V, St F0 wd V → V.cell? ⟨p, 2, none⟩ = some (.pointer (some ⟨p0, 0, none⟩)) := fun V hV => (HX5.out.bk.st hV hpF).cell 2 rfl
      have q2 : ∀ V, St F0 wd V → V.cell? ⟨w3.heap.size, 0, none⟩ = some (.int .i64 0) := fun V hV => (ZA5.out.st hV haF).cell 0 rfl
      clear hsz
      (refine takeE (St.tr F0) 0 (by simp only [List.getElem?_toArray, List.getElem?_cons_succ, List.getElem?_cons_zero]; rfl) (by kernel_rfl) (by kernel_rfl) (by kernel_rfl) (by exact fun _ _ _ h => h) (by first | (refine Or.inl ⟨by rfl, ?_⟩; intro W hW; go_simp; try with_reducible rfl) | exact Or.inr ⟨by rfl, rfl⟩) ?_; try simp only [Act.put, List.setIfInBounds_toArray, List.set_cons_zero, List.set_cons_succ])
      (refine takeE (St.tr F0) 1 (by simp only [List.getElem?_toArray, List.getElem?_cons_succ, List.getElem?_cons_zero]; rfl) (by kernel_rfl) (by kernel_rfl) (by kernel_rfl) (by exact fun _ _ _ h => h) (by first | (refine Or.inl ⟨by rfl, ?_⟩; intro W hW; go_simp; try with_reducible rfl) | exact Or.inr ⟨by rfl, rfl⟩) ?_; try simp only [Act.put, List.setIfInBounds_toArray, List.set_cons_zero, List.set_cons_succ])
      (refine takeE (St.tr F0) 7 (by simp only [List.getElem?_toArray, List.getElem?_cons_succ, List.getElem?_cons_zero]; rfl) (by kernel_rfl) (by kernel_rfl) (by kernel_rfl) (by exact fun _ _ _ h => h) (by first | (refine Or.inl ⟨by rfl, ?_⟩; intro W hW; go_simp; try with_reducible rfl) | exact Or.inr ⟨by rfl, rfl⟩) ?_; try simp only [Act.put, List.setIfInBounds_toArray, List.set_cons_zero, List.set_cons_succ])
      (refine takeE (St.tr F0) 2 (by simp only [List.getElem?_toArray, List.getElem?_cons_succ, List.getElem?_cons_zero]; rfl) (by kernel_rfl) (by kernel_rfl) (by kernel_rfl) (by exact fun _ _ _ h => h) (by first | (refine Or.inl ⟨by rfl, ?_⟩; intro W hW; go_simp; try with_reducible rfl) | exact Or.inr ⟨by rfl, rfl⟩) ?_; try simp only [Act.put, List.setIfInBounds_toArray, List.set_cons_zero, List.set_cons_succ])
      (refine takeE (St.tr F0) 3 (by simp only [List.getElem?_toArray, List.getElem?_cons_succ, List.getElem?_cons_zero]; rfl) (by kernel_rfl) (by kernel_rfl) (by kernel_rfl) (by exact fun _ _ _ h => h) (by first | (refine Or.inl ⟨by rfl, ?_⟩; intro W hW; go_simp; try with_reducible rfl) | exact Or.inr ⟨by rfl, rfl⟩) ?_; try simp only [Act.put, List.setIfInBounds_toArray, List.set_cons_zero, List.set_cons_succ])
      (refine takeE (St.tr F0) 4 (by simp only [List.getElem?_toArray, List.getElem?_cons_succ, List.getElem?_cons_zero]; rfl) (by kernel_rfl) (by kernel_rfl) (by kernel_rfl) (by exact fun _ _ _ h => h) (by first | (refine Or.inl ⟨by rfl, ?_⟩; intro W hW; go_simp; try with_reducible rfl) | exact Or.inr ⟨by rfl, rfl⟩) ?_; try simp only [Act.put, List.setIfInBounds_toArray, List.set_cons_zero, List.set_cons_succ])
      (refine takeE (St.tr F0) 5 (by simp only [List.getElem?_toArray, List.getElem?_cons_succ, List.getElem?_cons_zero]; rfl) (by kernel_rfl) (by kernel_rfl) (by kernel_rfl) (by exact fun _ _ _ h => h) (by first | (refine Or.inl ⟨by rfl, ?_⟩; intro W hW; go_simp; try with_reducible rfl) | exact Or.inr ⟨by rfl, rfl⟩) ?_; try simp only [Act.put, List.setIfInBounds_toArray, List.set_cons_zero, List.set_cons_succ])
      (refine takeE (St.tr F0) 6 (by simp only [List.getElem?_toArray, List.getElem?_cons_succ, List.getElem?_cons_zero]; rfl) (by kernel_rfl) (by kernel_rfl) (by kernel_rfl) (by exact fun _ _ _ h => h) (by first | (refine Or.inl ⟨by rfl, ?_⟩; intro W hW; go_simp; try with_reducible rfl) | exact Or.inr ⟨by rfl, rfl⟩) ?_; try simp only [Act.put, List.setIfInBounds_toArray, List.set_cons_zero, List.set_cons_succ])
      refine wpAnyE_one (i := 8) (by kernel_rfl) (by simp only [List.getElem?_toArray, List.getElem?_cons_succ, List.getElem?_cons_zero]; rfl) (fun K hK => ?_)
      go_simp
      refine (q_drop 36 #[.pointer (some ⟨w.heap.size, 0, none⟩)] (fun y => decide (y = xk)) HX5.out.s0 (enters_of Try.func36 (by kernel_rfl) rfl) (fun V hV y _ => c_is y xk _ V (ZK5.out.below hV))).mono ?_
      rintro en w5 ⟨rfl, hd⟩
      have hst5 := hd.choose_spec.2.1
      have ZK6 := Lib.hid (ZK5.out.st hst5 hwF)
      have ZA6 := Lib.hid (ZA5.out.st hst5 haF)
      obtain ⟨F', Fn, hx5, hs5, hg5⟩ := HX5.out.turn0 hd
      have HQ := Lib.hid (And.intro hx5 (And.intro ((St.ext (F := F) HB5.out).trans hs5 (Gr.refl _ _)) hg5))
      clear hx5 hs5 hg5 hd
      refine hK.out _ _ hst5 ?_
      clear hK K
      try simp only [Act.put, List.setIfInBounds_toArray, List.set_cons_zero, List.set_cons_succ]
      refine wpAnyE_done (by kernel_rfl) ?_ _
      clear q1 q2
      go_wp2_with fail
      refine wp_region_E (St (· = b)) (by kernel_rfl) (fun wd hbd hsz => ?_)
      have HX8 := Lib.hid (HQ.out.1.below hbd)
      have ZK8 := Lib.hid (ZK6.out.below hbd)
      have ZA8 := Lib.hid (ZA6.out.below hbd)
      have HST8 := Lib.hid (HQ.out.2.1.trans (St.ext (F := F) hbd) (Gr.refl _ _))
      have hbF : b < w.heap.size := HX.out.bd b HX.out.fb
      have hpb : p ≠ b := HX.out.ne
      have hwb : w.heap.size ≠ b := by omega
      have hab : w3.heap.size ≠ b := by have := HSZ.out; omega
      have q3 : ∀ V, St (· = b) wd V → V.cell? ⟨p, 1, none⟩ = some (.map (some b)) := fun V hV => (HX8.out.bk.st hV hpb).cell 1 rfl
      clear hsz
      (refine takeE (St.tr (· = b)) 0 (by simp only [List.getElem?_toArray, List.getElem?_cons_succ, List.getElem?_cons_zero]; rfl) (by kernel_rfl) (by kernel_rfl) (by kernel_rfl) (by exact fun _ _ _ h => h) (by first | (refine Or.inl ⟨by rfl, ?_⟩; intro W hW; go_simp; try with_reducible rfl) | exact Or.inr ⟨by rfl, rfl⟩) ?_; try simp only [Act.put, List.setIfInBounds_toArray, List.set_cons_zero, List.set_cons_succ])
      (refine takeE (St.tr (· = b)) 4 (by simp only [List.getElem?_toArray, List.getElem?_cons_succ, List.getElem?_cons_zero]; rfl) (by kernel_rfl) (by kernel_rfl) (by kernel_rfl) (by exact fun _ _ _ h => h) (by first | (refine Or.inl ⟨by rfl, ?_⟩; intro W hW; exact exec_loadK rowK (.tmp 3) rfl w.heap.size 0 rfl xk (rangeK (ZK8.out.st hW hwb))) | exact Or.inr ⟨by rfl, rfl⟩) ?_; try simp only [Act.put, List.setIfInBounds_toArray, List.set_cons_zero, List.set_cons_succ])
      (refine takeE (St.tr (· = b)) 1 (by simp only [List.getElem?_toArray, List.getElem?_cons_succ, List.getElem?_cons_zero]; rfl) (by kernel_rfl) (by kernel_rfl) (by kernel_rfl) (by exact fun _ _ _ h => h) (by first | (refine Or.inl ⟨by rfl, ?_⟩; intro W hW; go_simp; try with_reducible rfl) | exact Or.inr ⟨by rfl, rfl⟩) ?_; try simp only [Act.put, List.setIfInBounds_toArray, List.set_cons_zero, List.set_cons_succ])
      (refine takeE (St.tr (· = b)) 2 (by simp only [List.getElem?_toArray, List.getElem?_cons_succ, List.getElem?_cons_zero]; rfl) (by kernel_rfl) (by kernel_rfl) (by kernel_rfl) (by exact fun _ _ _ h => h) (by first | (refine Or.inl ⟨by rfl, ?_⟩; intro W hW; go_simp; try with_reducible rfl) | exact Or.inr ⟨by rfl, rfl⟩) ?_; try simp only [Act.put, List.setIfInBounds_toArray, List.set_cons_zero, List.set_cons_succ])
      (refine takeE (St.tr (· = b)) 3 (by simp only [List.getElem?_toArray, List.getElem?_cons_succ, List.getElem?_cons_zero]; rfl) (by kernel_rfl) (by kernel_rfl) (by kernel_rfl) (by exact fun _ _ _ h => h) (by first | (refine Or.inl ⟨by rfl, ?_⟩; intro W hW; go_simp; try with_reducible rfl) | exact Or.inr ⟨by rfl, rfl⟩) ?_; try simp only [Act.put, List.setIfInBounds_toArray, List.set_cons_zero, List.set_cons_succ])
      refine wpAnyE_one (i := 5) (by kernel_rfl) (by simp only [List.getElem?_toArray, List.getElem?_cons_succ, List.getElem?_cons_zero]; rfl) (fun K hK => ?_)
      refine opwp_drop_old rfl (.tmp 28) (.tmp 29) rfl rfl HX8.out.mp xk rfl HG.out ?_
      intro w9 hm9 hs9
      have hpx := HX8.out.map hm9 hs9
      have HD := Lib.hid (DidP.of hpx.1 (HST8.out.trans (hs9.mono fun j _ e => e ▸ HX.out.fb) (Gr.refl _ _)) HQ.out.2.2 (by have := HS4.out; have := HS5.out; have := HSZ.out; omega))
      have cA1 := (ZA8.out.st hs9 hab).cell 1 rfl
      have HS9 := Lib.hid hs9
      clear hm9 hs9 hpx
      refine hK.out _ _ HS9.out ?_
      clear hK K
      try simp only [Act.put, List.setIfInBounds_toArray, List.set_cons_zero, List.set_cons_succ]
      refine wpAnyE_done (by kernel_rfl) ?_ _
      clear q3
      go_wp2
      go_ret2
      rw [HR.out, HOW.out]
      exact ⟨rfl, HD.out⟩
    · have HOW : Hid (m.forget i xk = { m with q1 := m.q1.filter (not_ xk), L := m.L.eraseIdx i }) := Lib.hid (by unfold Pm.forget; rw [hr1 rfl])
      clear hr0 hr1
      go_enter Try.func13, Try.ntmps13
      go_wp2_with fail
      rw [← hW]
      clear hW
      refine HF.out.mono ?_
      rintro e w3 ⟨rfl, hb3⟩
      have hs3 := hb3.size
      have HSZ := Lib.hid (show w.heap.size < w3.heap.size by have := HA.out.2.2; omega)
      have hb4 := hb3.trans ((Below.refl _ w3).alloc hb3.size (.cells #[.int .i64 1, .int .i64 q, .int .i64 s] 76))
      have ZK := Lib.hid (HA.out.2.1.below hb4)
      have ZA := Lib.hid (Bk.new w3 76 [.int .i64 1, .int .i64 q, .int .i64 s])
      have HB4 := Lib.hid (HA.out.1.trans (hb4.mono HA.out.1.size))
      have HS4 := Lib.hid (show (w3.alloc (.cells #[.int .i64 1, .int .i64 q, .int .i64 s] 76)).heap.size = w3.heap.size + 1 by simp)
      clear hb3 hb4 hs3
      go_wp2_with fail
      generalize hW4 : w3.alloc (.cells #[.int .i64 1, .int .i64 q, .int .i64 s] 76) = W4 at *
      clear hW4
      refine wp_region_E (St F1) (by kernel_rfl) (fun wd hbd hsz => ?_)
      have HB5 := Lib.hid (HB4.out.trans (hbd.mono HB4.out.size))
      have HX5 := Lib.hid (HX.out.below HB5.out)
      have ZK5 := Lib.hid (ZK.out.below hbd)
      have ZA5 := Lib.hid (ZA.out.below hbd)
      have HS5 := Lib.hid hbd.size
      have hwF : ¬ F1 w.heap.size := fun e => by have := HX.out.s1.bd _ e; omega
      have haF : ¬ F1 w3.heap.size := fun e => by have := HX.out.s1.bd _ e; have := HSZ.out; omega
      have hpF : ¬ F1 p := fun e => (HX.out.f1 p e).2.1 rfl
      have q1 : ∀ V, St F1 wd V → V.cell? ⟨p, 3, none⟩ = some (.pointer (some ⟨p1, 0, none⟩)) := fun V hV => (HX5.out.bk.st hV hpF).cell 3 rfl
      have q2 : ∀ V, St F1 wd V → V.cell? ⟨w3.heap.size, 0, none⟩ = some (.int .i64 1) := fun V hV => (ZA5.out.st hV haF).cell 0 rfl
      clear hsz
      (refine takeE (St.tr F1) 0 (by simp only [List.getElem?_toArray, List.getElem?_cons_succ, List.getElem?_cons_zero]; rfl) (by kernel_rfl) (by kernel_rfl) (by kernel_rfl) (by exact fun _ _ _ h => h) (by first | (refine Or.inl ⟨by rfl, ?_⟩; intro W hW; go_simp; try with_reducible rfl) | exact Or.inr ⟨by rfl, rfl⟩) ?_; try simp only [Act.put, List.setIfInBounds_toArray, List.set_cons_zero, List.set_cons_succ])
      (refine takeE (St.tr F1) 1 (by simp only [List.getElem?_toArray, List.getElem?_cons_succ, List.getElem?_cons_zero]; rfl) (by kernel_rfl) (by kernel_rfl) (by kernel_rfl) (by exact fun _ _ _ h => h) (by first | (refine Or.inl ⟨by rfl, ?_⟩; intro W hW; go_simp; try with_reducible rfl) | exact Or.inr ⟨by rfl, rfl⟩) ?_; try simp only [Act.put, List.setIfInBounds_toArray, List.set_cons_zero, List.set_cons_succ])
      (refine takeE (St.tr F1) 7 (by simp only [List.getElem?_toArray, List.getElem?_cons_succ, List.getElem?_cons_zero]; rfl) (by kernel_rfl) (by kernel_rfl) (by kernel_rfl) (by exact fun _ _ _ h => h) (by first | (refine Or.inl ⟨by rfl, ?_⟩; intro W hW; go_simp; try with_reducible rfl) | exact Or.inr ⟨by rfl, rfl⟩) ?_; try simp only [Act.put, List.setIfInBounds_toArray, List.set_cons_zero, List.set_cons_succ])
      (refine takeE (St.tr F1) 2 (by simp only [List.getElem?_toArray, List.getElem?_cons_succ, List.getElem?_cons_zero]; rfl) (by kernel_rfl) (by kernel_rfl) (by kernel_rfl) (by exact fun _ _ _ h => h) (by first | (refine Or.inl ⟨by rfl, ?_⟩; intro W hW; go_simp; try with_reducible rfl) | exact Or.inr ⟨by rfl, rfl⟩) ?_; try simp only [Act.put, List.setIfInBounds_toArray, List.set_cons_zero, List.set_cons_succ])
      (refine takeE (St.tr F1) 3 (by simp only [List.getElem?_toArray, List.getElem?_cons_succ, List.getElem?_cons_zero]; rfl) (by kernel_rfl) (by kernel_rfl) (by kernel_rfl) (by exact fun _ _ _ h => h) (by first | (refine Or.inl ⟨by rfl, ?_⟩; intro W hW; go_simp; try with_reducible rfl) | exact Or.inr ⟨by rfl, rfl⟩) ?_; try simp only [Act.put, List.setIfInBounds_toArray, List.set_cons_zero, List.set_cons_succ])
      (refine takeE (St.tr F1) 4 (by simp only [List.getElem?_toArray, List.getElem?_cons_succ, List.getElem?_cons_zero]; rfl) (by kernel_rfl) (by kernel_rfl) (by kernel_rfl) (by exact fun _ _ _ h => h) (by first | (refine Or.inl ⟨by rfl, ?_⟩; intro W hW; go_simp; try with_reducible rfl) | exact Or.inr ⟨by rfl, rfl⟩) ?_; try simp only [Act.put, List.setIfInBounds_toArray, List.set_cons_zero, List.set_cons_succ])
      (refine takeE (St.tr F1) 5 (by simp only [List.getElem?_toArray, List.getElem?_cons_succ, List.getElem?_cons_zero]; rfl) (by kernel_rfl) (by kernel_rfl) (by kernel_rfl) (by exact fun _ _ _ h => h) (by first | (refine Or.inl ⟨by rfl, ?_⟩; intro W hW; go_simp; try with_reducible rfl) | exact Or.inr ⟨by rfl, rfl⟩) ?_; try simp only [Act.put, List.setIfInBounds_toArray, List.set_cons_zero, List.set_cons_succ])
      (refine takeE (St.tr F1) 6 (by simp only [List.getElem?_toArray, List.getElem?_cons_succ, List.getElem?_cons_zero]; rfl) (by kernel_rfl) (by kernel_rfl) (by kernel_rfl) (by exact fun _ _ _ h => h) (by first | (refine Or.inl ⟨by rfl, ?_⟩; intro W hW; go_simp; try with_reducible rfl) | exact Or.inr ⟨by rfl, rfl⟩) ?_; try simp only [Act.put, List.setIfInBounds_toArray, List.set_cons_zero, List.set_cons_succ])
      refine wpAnyE_one (i := 8) (by kernel_rfl) (by simp only [List.getElem?_toArray, List.getElem?_cons_succ, List.getElem?_cons_zero]; rfl) (fun K hK => ?_)
      go_simp
      refine (q_drop 36 #[.pointer (some ⟨w.heap.size, 0, none⟩)] (fun y => decide (y = xk)) HX5.out.s1 (enters_of Try.func36 (by kernel_rfl) rfl) (fun V hV y _ => c_is y xk _ V (ZK5.out.below hV))).mono ?_
      rintro en w5 ⟨rfl, hd⟩
      have hst5 := hd.choose_spec.2.1
      have ZK6 := Lib.hid (ZK5.out.st hst5 hwF)
      have ZA6 := Lib.hid (ZA5.out.st hst5 haF)
      obtain ⟨F', Fn, hx5, hs5, hg5⟩ := HX5.out.turn1 hd
      have HQ := Lib.hid (And.intro hx5 (And.intro ((St.ext (F := F) HB5.out).trans hs5 (Gr.refl _ _)) hg5))
      clear hx5 hs5 hg5 hd
      refine hK.out _ _ hst5 ?_
      clear hK K
      try simp only [Act.put, List.setIfInBounds_toArray, List.set_cons_zero, List.set_cons_succ]
      refine wpAnyE_done (by kernel_rfl) ?_ _
      clear q1 q2
      go_wp2_with fail
      refine wp_region_E (St (· = b)) (by kernel_rfl) (fun wd hbd hsz => ?_)
      have HX8 := Lib.hid (HQ.out.1.below hbd)
      have ZK8 := Lib.hid (ZK6.out.below hbd)
      have ZA8 := Lib.hid (ZA6.out.below hbd)
      have HST8 := Lib.hid (HQ.out.2.1.trans (St.ext (F := F) hbd) (Gr.refl _ _))
      have hbF : b < w.heap.size := HX.out.bd b HX.out.fb
      have hpb : p ≠ b := HX.out.ne
      have hwb : w.heap.size ≠ b := by omega
      have hab : w3.heap.size ≠ b := by have := HSZ.out; omega
      have q3 : ∀ V, St (· = b) wd V → V.cell? ⟨p, 1, none⟩ = some (.map (some b)) := fun V hV => (HX8.out.bk.st hV hpb).cell 1 rfl
      clear hsz
      (refine takeE (St.tr (· = b)) 0 (by simp only [List.getElem?_toArray, List.getElem?_cons_succ, List.getElem?_cons_zero]; rfl) (by kernel_rfl) (by kernel_rfl) (by kernel_rfl) (by exact fun _ _ _ h => h) (by first | (refine Or.inl ⟨by rfl, ?_⟩; intro W hW; go_simp; try with_reducible rfl) | exact Or.inr ⟨by rfl, rfl⟩) ?_; try simp only [Act.put, List.setIfInBounds_toArray, List.set_cons_zero, List.set_cons_succ])
      (refine takeE (St.tr (· = b)) 4 (by simp only [List.getElem?_toArray, List.getElem?_cons_succ, List.getElem?_cons_zero]; rfl) (by kernel_rfl) (by kernel_rfl) (by kernel_rfl) (by exact fun _ _ _ h => h) (by first | (refine Or.inl ⟨by rfl, ?_⟩; intro W hW; exact exec_loadK rowK (.tmp 3) rfl w.heap.size 0 rfl xk (rangeK (ZK8.out.st hW hwb))) | exact Or.inr ⟨by rfl, rfl⟩) ?_; try simp only [Act.put, List.setIfInBounds_toArray, List.set_cons_zero, List.set_cons_succ])
      (refine takeE (St.tr (· = b)) 1 (by simp only [List.getElem?_toArray, List.getElem?_cons_succ, List.getElem?_cons_zero]; rfl) (by kernel_rfl) (by kernel_rfl) (by kernel_rfl) (by exact fun _ _ _ h => h) (by first | (refine Or.inl ⟨by rfl, ?_⟩; intro W hW; go_simp; try with_reducible rfl) | exact Or.inr ⟨by rfl, rfl⟩) ?_; try simp only [Act.put, List.setIfInBounds_toArray, List.set_cons_zero, List.set_cons_succ])
      (refine takeE (St.tr (· = b)) 2 (by simp only [List.getElem?_toArray, List.getElem?_cons_succ, List.getElem?_cons_zero]; rfl) (by kernel_rfl) (by kernel_rfl) (by kernel_rfl) (by exact fun _ _ _ h => h) (by first | (refine Or.inl ⟨by rfl, ?_⟩; intro W hW; go_simp; try with_reducible rfl) | exact Or.inr ⟨by rfl, rfl⟩) ?_; try simp only [Act.put, List.setIfInBounds_toArray, List.set_cons_zero, List.set_cons_succ])
      (refine takeE (St.tr (· = b)) 3 (by simp only [List.getElem?_toArray, List.getElem?_cons_succ, List.getElem?_cons_zero]; rfl) (by kernel_rfl) (by kernel_rfl) (by kernel_rfl) (by exact fun _ _ _ h => h) (by first | (refine Or.inl ⟨by rfl, ?_⟩; intro W hW; go_simp; try with_reducible rfl) | exact Or.inr ⟨by rfl, rfl⟩) ?_; try simp only [Act.put, List.setIfInBounds_toArray, List.set_cons_zero, List.set_cons_succ])
      refine wpAnyE_one (i := 5) (by kernel_rfl) (by simp only [List.getElem?_toArray, List.getElem?_cons_succ, List.getElem?_cons_zero]; rfl) (fun K hK => ?_)
      refine opwp_drop_old rfl (.tmp 28) (.tmp 29) rfl rfl HX8.out.mp xk rfl HG.out ?_
      intro w9 hm9 hs9
      have hpx := HX8.out.map hm9 hs9
      have HD := Lib.hid (DidP.of hpx.1 (HST8.out.trans (hs9.mono fun j _ e => e ▸ HX.out.fb) (Gr.refl _ _)) HQ.out.2.2 (by have := HS4.out; have := HS5.out; have := HSZ.out; omega))
      have cA1 := (ZA8.out.st hs9 hab).cell 1 rfl
      have HS9 := Lib.hid hs9
      clear hm9 hs9 hpx
      refine hK.out _ _ HS9.out ?_
      clear hK K
      try simp only [Act.put, List.setIfInBounds_toArray, List.set_cons_zero, List.set_cons_succ]
      refine wpAnyE_done (by kernel_rfl) ?_ _
      clear q3
      go_wp2
      go_ret2
      rw [HR.out, HOW.out]
      exact ⟨rfl, HD.out⟩
  · have HR := Lib.hid (show m.forgetR k = (m, 0, false) from by unfold Pm.forgetR; rw [lacks_ix hl])
    rw [(of_lacks hl).1, (of_lacks hl).2] at hff
    have HF := Lib.hid hff
    have HH := Lib.hid h
    have HA := Lib.hid (And.intro hb1 z1)
    clear hff hb1 z1 h hl
    generalize m.forgetR k = R at *
    unfold zKn zK at HF
    dsimp only at HF
    go_enter Try.func13, Try.ntmps13
    go_wp2_with fail
    rw [← hW]
    clear hW
    refine HF.out.mono ?_
    rintro e w3 ⟨rfl, hb3⟩
    have HB3 := Lib.hid (HA.out.1.trans (hb3.mono HA.out.1.size))
    clear hb3
    go_wp2
    go_ret2
    rw [HR.out]
    exact ⟨rfl, DidP.same HH.out (HB3.out.alloc HB3.out.size _)⟩
end
end Go.Proofs.Ytdldocbfnjbhmaa
