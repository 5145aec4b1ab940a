/- The law that no more is told than was owed. -/
import Derived.Test.YtdldocbfnjbhmaaK25
import Derived.Test.YtdldocbfnjbhmaaOpen
set_option linter.unusedSimpArgs false
set_option linter.unusedVariables false
set_option maxRecDepth 100000
namespace Go.Proofs.Ytdldocbfnjbhmaa
open Go.RowKit Go.Shelf
abbrev kl : List Value := [.int .i64 2, .int .i64 3, .int .i64 4, .int .i64 1]
/-- Between two turns: the pacer, the keys, what was owed. -/
structure NW (w : World) (K : Nat → Prop) (p gk gw k : Nat) (m : Pm) (a b : Int) (W : World) : Prop where
  q : PcN w K W p m
  nm : NM m a b
  zk : Bk W 39 gk kl
  zw : Bk W 3 gw [.int .i64 a, .int .i64 b]
  ha : 0 ≤ a ∧ a ≤ 8 * k
  hb : 0 ≤ b ∧ b ≤ 8 * k
section
variable {w W W1 : World} {K : Nat → Prop} {p gk gw k : Nat} {m m2 : Pm} {a b : Int}
theorem NW.below (h : NW w K p gk gw k m a b W) (hb : Below W.heap.size W W1) : NW w K p gk gw k m a b W1 :=
  ⟨h.q.next hb, h.nm, h.zk.below hb, h.zw.below hb, h.ha, h.hb⟩
end
theorem wraps_i64 (n : Int) (h0 : 0 ≤ n) (h1 : n < 4611686018427387904) : IntKind.i64.wrap n = n := by rw [IntKind.wrap_i64]; omega
theorem PcN.bel {w W : World} {K : Nat → Prop} {p : Nat} {m : Pm} (h : PcN w K W p m) : Below w.heap.size w W := by
  obtain ⟨h0, F, h1, h2, h3, h4⟩ := h
  exact h3
theorem PcN.set {w W : World} {K : Nat → Prop} {p : Nat} {m : Pm} (h : PcN w K W p m) {g : Nat} (hk : K g) (hg : w.heap.size ≤ g) (i : Nat) (x : Value) : PcN w K (W.setCell ⟨g, i, none⟩ x) p m := by
  obtain ⟨h0, F, h1, h2, h3, h4⟩ := h
  have hs : St (· = g) W (W.setCell ⟨g, i, none⟩ x) := St.setCell (F := (· = g)) W (a := ⟨g, i, none⟩) rfl x
  exact ⟨h0, F, h1.st hs fun j hj e => (h2 j hj).2 (e ▸ hk), h2, h3.trans (hs.below h3.size fun j e => e ▸ hg), fun k hk => Nat.lt_of_lt_of_le (h4 k hk) hs.size⟩
set_option maxHeartbeats 16000000 in
theorem lawNoMore (ow : Sl Int) (c : Int) (w : World) (h : (Ty.sl (.int .u8)).reads w ow) (hc : 0 ≤ c ∧ c < 256) :
    Calls Try.prog 6 #[.slice ow.A ow.n ow.c, .int .u8 c] w fun en w' => en = .returned (.bool true) ∧ Below w.heap.size w w' := by
  have HR := Lib.hid (rd_of_reads ow h)
  obtain ⟨A0, n0, c0, l0⟩ := ow
  dsimp only at *
  clear h
  have HN := Lib.hid (n_new 5 w (by decide) (by decide))
  have hc1 : c % 2 = 0 ∨ c % 2 = 1 := by omega
  have hc2 : c / 2 % 2 = 0 ∨ c / 2 % 2 = 1 := by omega
  obtain ⟨s1, s2, s3⟩ := nm_start hc1 hc2
  clear hc1 hc2
  go_enter Try.func6, Try.ntmps6
  go_wp2_with fail
  refine HN.out.mono ?_
  rintro en w1 ⟨rfl, h1⟩
  obtain ⟨W, hW⟩ : ∃ W, W = w1.alloc (.cells #[.int .i64 2, .int .i64 3, .int .i64 4, .int .i64 1] 39) := ⟨_, rfl⟩
  have hb1 : Below w1.heap.size w1 W := by rw [hW]; exact (Below.refl _ w1).alloc (Nat.le_refl _) _
  have zk : Bk W 39 w1.heap.size kl := by rw [hW]; exact Bk.new w1 39 kl
  obtain ⟨K0, hK0⟩ : ∃ K : Nat → Prop, K = fun j => j = w1.heap.size := ⟨_, rfl⟩
  have k0 : K0 w1.heap.size := by rw [hK0]
  have h2 : PcN w K0 W (w.heap.size + 1) (Pm.new 5) := h1.keep hb1 fun k hk => by rw [hK0] at hk; have := zk.lt; exact .inr (by omega)
  have HC := Lib.hid (n_know h2 nA (c % 2))
  rw [s1] at HC
  have HS := Lib.hid (And.intro s2 s3)
  have HZ := Lib.hid (And.intro zk k0)
  clear h1 hb1 h2 zk k0 s1 s2 s3 HN
  go_wp2_with fail
  rw [← hW]
  clear hW
  refine HC.out.mono ?_
  rintro en w2 ⟨rfl, h3, hk3⟩
  have zk := HZ.out.1.kp hk3 HZ.out.2
  have a2 : w2.cell? ⟨w1.heap.size, 2, none⟩ = some (.int .i64 4) := zk.cell 2 rfl
  have a3 : w2.cell? ⟨w1.heap.size, 3, none⟩ = some (.int .i64 1) := zk.cell 3 rfl
  have HC2 := Lib.hid (n_know h3 nB (c / 2 % 2))
  rw [HS.out.1] at HC2
  have HZ2 := Lib.hid zk
  clear h3 hk3 zk HC
  go_wp2_with fail
  refine HC2.out.mono ?_
  rintro en w3 ⟨rfl, h4, hk4⟩
  have HZ3 := Lib.hid (And.intro h4 (HZ2.out.kp hk4 HZ.out.2))
  clear h4 hk4 HC2 HZ2 a2 a3
  go_wp2_with fail
  refine (l_awake _).mono ?_
  rintro en w4 ⟨rfl, hb4⟩
  obtain ⟨gk, hgk⟩ : ∃ gk, gk = w1.heap.size := ⟨_, rfl⟩
  obtain ⟨K, hK⟩ : ∃ K : Nat → Prop, K = fun j => j = gk ∨ j = w4.heap.size := ⟨_, rfl⟩
  obtain ⟨W5, hW5⟩ : ∃ W, W = w4.alloc (.cells #[.int .i64 0, .int .i64 0] 3) := ⟨_, rfl⟩
  have hb5 : Below w4.heap.size w4 W5 := by rw [hW5]; exact (Below.refl _ w4).alloc (Nat.le_refl _) _
  have zw : Bk W5 3 w4.heap.size [.int .i64 0, .int .i64 0] := by rw [hW5]; exact Bk.new w4 3 [.int .i64 0, .int .i64 0]
  rw [← hgk] at HZ3 HZ hK0
  have HJ : Hid (NW w K (w.heap.size + 1) gk w4.heap.size 0 (((Pm.new 5).knowR nA (c % 2)).1.knowR nB (c / 2 % 2)).1 0 0 W5) := Lib.hid ⟨(HZ3.out.1.next hb4).keep hb5 fun k hk => by
      rw [hK] at hk
      rcases hk with hk | hk
      · exact .inl (by rw [hk]; exact HZ.out.2)
      · exact .inr (by have := zw.lt; omega), HS.out.2, (HZ3.out.2.below hb4).below hb5, zw, by omega, by omega⟩
  have HK : Hid (K gk ∧ K w4.heap.size ∧ w.heap.size ≤ w4.heap.size ∧ gk ≠ w4.heap.size) := Lib.hid ⟨by rw [hK]; exact .inl rfl, by rw [hK]; exact .inr rfl, (HZ3.out.1.next hb4).bel.size, fun e => by have := (HZ3.out.2.below hb4).lt; omega⟩
  clear hb4 hb5 zw hK hK0 HZ3 HZ HS
  go_wp2
  rw [← hgk, ← hW5]
  clear hgk hW5
  generalize w4.heap.size = gw at *
  go_loopw [9] (fun i wr => ∃ (k : Nat) (a b : Int) (m : Pm), i = .int .i64 k ∧ k ≤ 100 ∧ NW w K (w.heap.size + 1) gk gw k m a b wr) (fun i _ => 100 - (intOf i).toNat)
  case atStart => exact ⟨0, 0, 0, _, rfl, by omega, HJ.out⟩
  case round =>
    obtain ⟨k, a, b, m, rfl, hk, hJ⟩ := hrel
    clear HJ
    by_cases hlt : k < n0 ∧ k < 100
    · obtain ⟨g, o, rfl, hg, hcx⟩ := HR.out.cell hlt.1
      have hxm : l0.getD k 0 ∈ l0 := by
        have hl : k < l0.length := by have := HR.out.1; omega
        rw [List.getD_eq_getElem?_getD, List.getElem?_eq_getElem hl]
        exact List.getElem_mem hl
      have hx := u8_bounds (HR.out.2.2.2.2.1 _ hxm)
      clear hxm
      generalize l0.getD k 0 = x at hcx hx
      have hcw : wr.cell? ⟨g, o + k, none⟩ = some (.int .u8 x) := (hJ.q.bel.cell (p := ⟨g, o + k, none⟩) hg).trans hcx
      have hk1 : (k : Int) < n0 := by omega
      have hk2 : (k : Int) < 100 := by omega
      have HLT : Hid (k < 100) := Lib.hid hlt.2
      have HJ := Lib.hid hJ
      have ja := hJ.ha
      have jb := hJ.hb
      have a0 : wr.cell? ⟨gk, 0, none⟩ = some (.int .i64 2) := hJ.zk.cell 0 rfl
      have a1 : wr.cell? ⟨gk, 1, none⟩ = some (.int .i64 3) := hJ.zk.cell 1 rfl
      have a2 : wr.cell? ⟨gk, 2, none⟩ = some (.int .i64 4) := hJ.zk.cell 2 rfl
      have a3 : wr.cell? ⟨gk, 3, none⟩ = some (.int .i64 1) := hJ.zk.cell 3 rfl
      clear hJ hg hcx hlt
      have hn1 : 1 ≤ 1 + x / 32 ∧ 1 + x / 32 ≤ 8 := by omega
      rcases (by omega : x % 3 = 0 ∨ x % 3 = 1 ∨ x % 3 = 2) with e0 | e0 | e0
      · have ho := HJ.out.nm.owea (n := 1 + x / 32) hn1.1 hn1.2 (by omega)
        have HC := Lib.hid (n_owe HJ.out.q nA (1 + x / 32))
        rw [ho.1] at HC
        have HO := Lib.hid ho.2
        clear ho
        go_wp2_with fail
        rw [e0]
        refine HC.out.mono ?_
        rintro en w6 ⟨rfl, h6, hk6⟩
        have hzw := HJ.out.zw.kp hk6 HK.out.2.1
        have b0 : w6.cell? ⟨gw, 0, none⟩ = some (.int .i64 a) := hzw.cell 0 rfl
        have hl6 := hzw.free 0
        have H6 := Lib.hid (And.intro h6 (And.intro (HJ.out.zk.kp hk6 HK.out.1) hzw))
        clear h6 hk6 hzw a0 a1 a2 a3 hcw HC
        go_wp2_with fail
        have HJ7 : Hid (NW w K (w.heap.size + 1) gk gw (k + 1) (m.oweR nA (1 + x / 32)).1 (a + (1 + x / 32)) b (w6.setCell ⟨gw, 0, none⟩ (.int .i64 (a + (1 + x / 32))))) := Lib.hid
          ⟨H6.out.1.set HK.out.2.1 HK.out.2.2.1 _ _, HO.out, H6.out.2.1.far HK.out.2.2.2 _, H6.out.2.2.set 0 _, by omega, by omega⟩
        generalize w6.setCell ⟨gw, 0, none⟩ (.int .i64 (a + (1 + x / 32))) = w7 at *
        generalize (m.oweR nA (1 + x / 32)).1 = m2 at *
        generalize a + (1 + x / 32) = a2 at *
        clear b0 ja jb hn1 e0 hx HJ HO H6 hl6
        obtain ⟨v1, v2, v3, v4, v5, v6, v7⟩ := HJ7.out.nm.see
        have v8 := HJ7.out.ha
        have v9 := HJ7.out.hb
        have v10 := HLT.out
        have f1 : ((ofKey (m2).L nA).i + (ofKey (m2).L nA).p != a2) = false := by simp; omega
        have f2 : ((ofKey (m2).L nB).i + (ofKey (m2).L nB).p != b) = false := by simp; omega
        have f3 : decide ((ofKey (m2).L nA).p < 0) = false := by simp; omega
        have f4 : decide ((ofKey (m2).L nB).p < 0) = false := by simp; omega
        have f5 : ((ofKey (m2).L nA).i + (ofKey (m2).L nB).i != (m2).total) = false := by simp; omega
        have v11 : (ofKey (m2).L nA).i ≤ 808 := by omega
        have v12 : (ofKey (m2).L nA).p ≤ 808 := by omega
        have v13 : (ofKey (m2).L nB).i ≤ 808 := by omega
        have v14 : (ofKey (m2).L nB).p ≤ 808 := by omega
        have y1 := wraps_i64 ((ofKey (m2).L nA).i + (ofKey (m2).L nA).p) (by omega) (by omega)
        have y2 := wraps_i64 ((ofKey (m2).L nB).i + (ofKey (m2).L nB).p) (by omega) (by omega)
        have y3 := wraps_i64 ((ofKey (m2).L nA).i + (ofKey (m2).L nB).i) (by omega) (by omega)
        clear v1 v2 v3 v8 v9 v10
        go_loopw [15] (fun j wr => ∃ (e : Nat), j = .int .i64 e ∧ e ≤ 2 ∧ NW w K (w.heap.size + 1) gk gw (k + 1) (m2) a2 b wr) (fun j _ => 2 - (intOf j).toNat)
        case atStart => exact ⟨0, rfl, by omega, HJ7.out⟩
        case round =>
          obtain ⟨e, rfl, he, hJe⟩ := hrel
          have HJe := Lib.hid hJe
          clear hJe HJ7
          rcases (by omega : e = 0 ∨ e = 1 ∨ e = 2) with rfl | rfl | rfl
          · go_wp2_with fail
            refine wp_region_E Ext (by kernel_rfl) (fun wd hbd hsz => ?_)
            have HJd := Lib.hid (HJe.out.below hbd)
            have hE : Below wd.heap.size wd wd := Below.refl _ _
            have q0 : ∀ V, Ext wd V → V.cell? ⟨gk, 0, none⟩ = some (.int .i64 2) := fun V hV => (HJd.out.zk.below (below_on hE hV)).cell 0 rfl
            have q1 : ∀ V, Ext wd V → V.cell? ⟨gk, 1, none⟩ = some (.int .i64 3) := fun V hV => (HJd.out.zk.below (below_on hE hV)).cell 1 rfl
            have q2 : ∀ V, Ext wd V → V.cell? ⟨gw, 0, none⟩ = some (.int .i64 a2) := fun V hV => (HJd.out.zw.below (below_on hE hV)).cell 0 rfl
            clear hsz
            (refine takeE Ext.tr 0 (by simp only [List.getElem?_toArray, List.getElem?_cons_succ, List.getElem?_cons_zero]; rfl) (by kernel_rfl) (by kernel_rfl) (by kernel_rfl) (by exact fun _ _ _ h => h) (by first | (refine Or.inl ⟨by rfl, ?_⟩; intro W hW; go_simp; try with_reducible rfl) | exact Or.inr ⟨by rfl, rfl⟩) ?_; try simp only [Act.put, List.setIfInBounds_toArray, List.set_cons_zero, List.set_cons_succ])
            (refine takeE Ext.tr 1 (by simp only [List.getElem?_toArray, List.getElem?_cons_succ, List.getElem?_cons_zero]; rfl) (by kernel_rfl) (by kernel_rfl) (by kernel_rfl) (by exact fun _ _ _ h => h) (by first | (refine Or.inl ⟨by rfl, ?_⟩; intro W hW; go_simp; try with_reducible rfl) | exact Or.inr ⟨by rfl, rfl⟩) ?_; try simp only [Act.put, List.setIfInBounds_toArray, List.set_cons_zero, List.set_cons_succ])
            (refine takeE Ext.tr 2 (by simp only [List.getElem?_toArray, List.getElem?_cons_succ, List.getElem?_cons_zero]; rfl) (by kernel_rfl) (by kernel_rfl) (by kernel_rfl) (by exact fun _ _ _ h => h) (by first | (refine Or.inl ⟨by rfl, ?_⟩; intro W hW; go_simp; try with_reducible rfl) | exact Or.inr ⟨by rfl, rfl⟩) ?_; try simp only [Act.put, List.setIfInBounds_toArray, List.set_cons_zero, List.set_cons_succ])
            (refine takeE Ext.tr 6 (by simp only [List.getElem?_toArray, List.getElem?_cons_succ, List.getElem?_cons_zero]; rfl) (by kernel_rfl) (by kernel_rfl) (by kernel_rfl) (by exact fun _ _ _ h => h) (by first | (refine Or.inl ⟨by rfl, ?_⟩; intro W hW; go_simp; try with_reducible rfl) | exact Or.inr ⟨by rfl, rfl⟩) ?_; try simp only [Act.put, List.setIfInBounds_toArray, List.set_cons_zero, List.set_cons_succ])
            (refine takeE Ext.tr 7 (by simp only [List.getElem?_toArray, List.getElem?_cons_succ, List.getElem?_cons_zero]; rfl) (by kernel_rfl) (by kernel_rfl) (by kernel_rfl) (by exact fun _ _ _ h => h) (by first | (refine Or.inl ⟨by rfl, ?_⟩; intro W hW; go_simp; try with_reducible rfl) | exact Or.inr ⟨by rfl, rfl⟩) ?_; try simp only [Act.put, List.setIfInBounds_toArray, List.set_cons_zero, List.set_cons_succ])
            (refine takeE Ext.tr 8 (by simp only [List.getElem?_toArray, List.getElem?_cons_succ, List.getElem?_cons_zero]; rfl) (by kernel_rfl) (by kernel_rfl) (by kernel_rfl) (by exact fun _ _ _ h => h) (by first | (refine Or.inl ⟨by rfl, ?_⟩; intro W hW; go_simp; try with_reducible rfl) | exact Or.inr ⟨by rfl, rfl⟩) ?_; try simp only [Act.put, List.setIfInBounds_toArray, List.set_cons_zero, List.set_cons_succ])
            (refine takeE Ext.tr 13 (by simp only [List.getElem?_toArray, List.getElem?_cons_succ, List.getElem?_cons_zero]; rfl) (by kernel_rfl) (by kernel_rfl) (by kernel_rfl) (by exact fun _ _ _ h => h) (by first | (refine Or.inl ⟨by rfl, ?_⟩; intro W hW; go_simp; try with_reducible rfl) | exact Or.inr ⟨by rfl, rfl⟩) ?_; try simp only [Act.put, List.setIfInBounds_toArray, List.set_cons_zero, List.set_cons_succ])
            (refine takeE Ext.tr 14 (by simp only [List.getElem?_toArray, List.getElem?_cons_succ, List.getElem?_cons_zero]; rfl) (by kernel_rfl) (by kernel_rfl) (by kernel_rfl) (by exact fun _ _ _ h => h) (by first | (refine Or.inl ⟨by rfl, ?_⟩; intro W hW; go_simp; try with_reducible rfl) | exact Or.inr ⟨by rfl, rfl⟩) ?_; try simp only [Act.put, List.setIfInBounds_toArray, List.set_cons_zero, List.set_cons_succ])
            (refine takeE Ext.tr 3 (by simp only [List.getElem?_toArray, List.getElem?_cons_succ, List.getElem?_cons_zero]; rfl) (by kernel_rfl) (by kernel_rfl) (by kernel_rfl) (by exact fun _ _ _ h => h) (by first | (refine Or.inl ⟨by rfl, ?_⟩; intro W hW; go_simp; try with_reducible rfl) | exact Or.inr ⟨by rfl, rfl⟩) ?_; try simp only [Act.put, List.setIfInBounds_toArray, List.set_cons_zero, List.set_cons_succ])
            (refine takeE Ext.tr 9 (by simp only [List.getElem?_toArray, List.getElem?_cons_succ, List.getElem?_cons_zero]; rfl) (by kernel_rfl) (by kernel_rfl) (by kernel_rfl) (by exact fun _ _ _ h => h) (by first | (refine Or.inl ⟨by rfl, ?_⟩; intro W hW; go_simp; try with_reducible rfl) | exact Or.inr ⟨by rfl, rfl⟩) ?_; try simp only [Act.put, List.setIfInBounds_toArray, List.set_cons_zero, List.set_cons_succ])
            (refine takeE Ext.tr 15 (by simp only [List.getElem?_toArray, List.getElem?_cons_succ, List.getElem?_cons_zero]; rfl) (by kernel_rfl) (by kernel_rfl) (by kernel_rfl) (by exact fun _ _ _ h => h) (by first | (refine Or.inl ⟨by rfl, ?_⟩; intro W hW; go_simp; try with_reducible rfl) | exact Or.inr ⟨by rfl, rfl⟩) ?_; try simp only [Act.put, List.setIfInBounds_toArray, List.set_cons_zero, List.set_cons_succ])
            (refine takeE Ext.tr 4 (by simp only [List.getElem?_toArray, List.getElem?_cons_succ, List.getElem?_cons_zero]; rfl) (by kernel_rfl) (by kernel_rfl) (by kernel_rfl) (by exact fun _ _ _ h => h) (by first | (refine Or.inl ⟨by rfl, ?_⟩; intro W hW; go_simp; try with_reducible rfl) | exact Or.inr ⟨by rfl, rfl⟩) ?_; try simp only [Act.put, List.setIfInBounds_toArray, List.set_cons_zero, List.set_cons_succ])
            (refine takeE Ext.tr 10 (by simp only [List.getElem?_toArray, List.getElem?_cons_succ, List.getElem?_cons_zero]; rfl) (by kernel_rfl) (by kernel_rfl) (by kernel_rfl) (by exact fun _ _ _ h => h) (by first | (refine Or.inl ⟨by rfl, ?_⟩; intro W hW; go_simp; try with_reducible rfl) | exact Or.inr ⟨by rfl, rfl⟩) ?_; try simp only [Act.put, List.setIfInBounds_toArray, List.set_cons_zero, List.set_cons_succ])
            (refine takeE Ext.tr 16 (by simp only [List.getElem?_toArray, List.getElem?_cons_succ, List.getElem?_cons_zero]; rfl) (by kernel_rfl) (by kernel_rfl) (by kernel_rfl) (by exact fun _ _ _ h => h) (by first | (refine Or.inl ⟨by rfl, ?_⟩; intro W hW; go_simp; try with_reducible rfl) | exact Or.inr ⟨by rfl, rfl⟩) ?_; try simp only [Act.put, List.setIfInBounds_toArray, List.set_cons_zero, List.set_cons_succ])
            refine wpAnyE_one (i := 5) (by kernel_rfl) (by simp only [List.getElem?_toArray, List.getElem?_cons_succ, List.getElem?_cons_zero]; rfl) (fun K hK => ?_)
            go_simp
            refine (n_issued (HJd.out.q.next hE) nA).mono ?_
            rintro en u1 ⟨rfl, hE2⟩
            have hE3 := hE2
            clear q0 q1 q2
            replace hE := below_on hE hE2
            have q0 : ∀ V, Ext u1 V → V.cell? ⟨gk, 0, none⟩ = some (.int .i64 2) := fun V hV => (HJd.out.zk.below (below_on hE hV)).cell 0 rfl
            have q1 : ∀ V, Ext u1 V → V.cell? ⟨gk, 1, none⟩ = some (.int .i64 3) := fun V hV => (HJd.out.zk.below (below_on hE hV)).cell 1 rfl
            have q2 : ∀ V, Ext u1 V → V.cell? ⟨gw, 0, none⟩ = some (.int .i64 a2) := fun V hV => (HJd.out.zw.below (below_on hE hV)).cell 0 rfl
            clear hE2
            refine hK.out _ _ hE3 ?_
            clear hK K
            try simp only [Act.put, List.setIfInBounds_toArray, List.set_cons_zero, List.set_cons_succ]
            refine wpAnyE_one (i := 11) (by kernel_rfl) (by simp only [List.getElem?_toArray, List.getElem?_cons_succ, List.getElem?_cons_zero]; rfl) (fun K hK => ?_)
            go_simp
            refine (n_pending (HJd.out.q.next hE) nA).mono ?_
            rintro en u2 ⟨rfl, hE2⟩
            have hE3 := hE2
            clear q0 q1 q2
            replace hE := below_on hE hE2
            have q0 : ∀ V, Ext u2 V → V.cell? ⟨gk, 0, none⟩ = some (.int .i64 2) := fun V hV => (HJd.out.zk.below (below_on hE hV)).cell 0 rfl
            have q1 : ∀ V, Ext u2 V → V.cell? ⟨gk, 1, none⟩ = some (.int .i64 3) := fun V hV => (HJd.out.zk.below (below_on hE hV)).cell 1 rfl
            have q2 : ∀ V, Ext u2 V → V.cell? ⟨gw, 0, none⟩ = some (.int .i64 a2) := fun V hV => (HJd.out.zw.below (below_on hE hV)).cell 0 rfl
            clear hE2
            refine hK.out _ _ hE3 ?_
            clear hK K
            try simp only [Act.put, List.setIfInBounds_toArray, List.set_cons_zero, List.set_cons_succ]
            (refine takeE Ext.tr 12 (by simp only [List.getElem?_toArray, List.getElem?_cons_succ, List.getElem?_cons_zero]; rfl) (by kernel_rfl) (by kernel_rfl) (by kernel_rfl) (by exact fun _ _ _ h => h) (by first | (refine Or.inl ⟨by rfl, ?_⟩; intro W hW; go_simp; try with_reducible rfl) | exact Or.inr ⟨by rfl, rfl⟩) ?_; try simp only [Act.put, List.setIfInBounds_toArray, List.set_cons_zero, List.set_cons_succ])
            (refine takeE Ext.tr 17 (by simp only [List.getElem?_toArray, List.getElem?_cons_succ, List.getElem?_cons_zero]; rfl) (by kernel_rfl) (by kernel_rfl) (by kernel_rfl) (by exact fun _ _ _ h => h) (by first | (refine Or.inl ⟨by rfl, ?_⟩; intro W hW; go_simp; try with_reducible rfl) | exact Or.inr ⟨by rfl, rfl⟩) ?_; try simp only [Act.put, List.setIfInBounds_toArray, List.set_cons_zero, List.set_cons_succ])
            (refine takeE Ext.tr 18 (by simp only [List.getElem?_toArray, List.getElem?_cons_succ, List.getElem?_cons_zero]; rfl) (by kernel_rfl) (by kernel_rfl) (by kernel_rfl) (by exact fun _ _ _ h => h) (by first | (refine Or.inl ⟨by rfl, ?_⟩; intro W hW; go_simp; try with_reducible rfl) | exact Or.inr ⟨by rfl, rfl⟩) ?_; try simp only [Act.put, List.setIfInBounds_toArray, List.set_cons_zero, List.set_cons_succ])
            (refine takeE Ext.tr 19 (by simp only [List.getElem?_toArray, List.getElem?_cons_succ, List.getElem?_cons_zero]; rfl) (by kernel_rfl) (by kernel_rfl) (by kernel_rfl) (by exact fun _ _ _ h => h) (by first | (refine Or.inl ⟨by rfl, ?_⟩; intro W hW; go_simp; try with_reducible rfl) | exact Or.inr ⟨by rfl, rfl⟩) ?_; try simp only [Act.put, List.setIfInBounds_toArray, List.set_cons_zero, List.set_cons_succ])
            (refine takeE Ext.tr 20 (by simp only [List.getElem?_toArray, List.getElem?_cons_succ, List.getElem?_cons_zero]; rfl) (by kernel_rfl) (by kernel_rfl) (by kernel_rfl) (by exact fun _ _ _ h => h) (by first | (refine Or.inl ⟨by rfl, ?_⟩; intro W hW; go_simp; try with_reducible rfl) | exact Or.inr ⟨by rfl, rfl⟩) ?_; try simp only [Act.put, List.setIfInBounds_toArray, List.set_cons_zero, List.set_cons_succ])
            (refine takeE Ext.tr 21 (by simp only [List.getElem?_toArray, List.getElem?_cons_succ, List.getElem?_cons_zero]; rfl) (by kernel_rfl) (by kernel_rfl) (by kernel_rfl) (by exact fun _ _ _ h => h) (by first | (refine Or.inl ⟨by rfl, ?_⟩; intro W hW; go_simp; try with_reducible rfl) | exact Or.inr ⟨by rfl, rfl⟩) ?_; try simp only [Act.put, List.setIfInBounds_toArray, List.set_cons_zero, List.set_cons_succ])
            (refine takeE Ext.tr 22 (by simp only [List.getElem?_toArray, List.getElem?_cons_succ, List.getElem?_cons_zero]; rfl) (by kernel_rfl) (by kernel_rfl) (by kernel_rfl) (by exact fun _ _ _ h => h) (by first | (refine Or.inl ⟨by rfl, ?_⟩; intro W hW; go_simp; try with_reducible rfl) | exact Or.inr ⟨by rfl, rfl⟩) ?_; try simp only [Act.put, List.setIfInBounds_toArray, List.set_cons_zero, List.set_cons_succ])
            (refine takeE Ext.tr 23 (by simp only [List.getElem?_toArray, List.getElem?_cons_succ, List.getElem?_cons_zero]; rfl) (by kernel_rfl) (by kernel_rfl) (by kernel_rfl) (by exact fun _ _ _ h => h) (by first | (refine Or.inl ⟨by rfl, ?_⟩; intro W hW; go_simp; try with_reducible rfl) | exact Or.inr ⟨by rfl, rfl⟩) ?_; try simp only [Act.put, List.setIfInBounds_toArray, List.set_cons_zero, List.set_cons_succ])
            refine wpAnyE_one (i := 24) (by kernel_rfl) (by simp only [List.getElem?_toArray, List.getElem?_cons_succ, List.getElem?_cons_zero]; rfl) (fun K hK => ?_)
            go_simp
            refine (n_pending (HJd.out.q.next hE) nA).mono ?_
            rintro en u3 ⟨rfl, hE2⟩
            have hE3 := hE2
            clear q0 q1 q2
            replace hE := below_on hE hE2
            have q0 : ∀ V, Ext u3 V → V.cell? ⟨gk, 0, none⟩ = some (.int .i64 2) := fun V hV => (HJd.out.zk.below (below_on hE hV)).cell 0 rfl
            have q1 : ∀ V, Ext u3 V → V.cell? ⟨gk, 1, none⟩ = some (.int .i64 3) := fun V hV => (HJd.out.zk.below (below_on hE hV)).cell 1 rfl
            have q2 : ∀ V, Ext u3 V → V.cell? ⟨gw, 0, none⟩ = some (.int .i64 a2) := fun V hV => (HJd.out.zw.below (below_on hE hV)).cell 0 rfl
            clear hE2
            refine hK.out _ _ hE3 ?_
            clear hK K
            try simp only [Act.put, List.setIfInBounds_toArray, List.set_cons_zero, List.set_cons_succ]
            (refine takeE Ext.tr 25 (by simp only [List.getElem?_toArray, List.getElem?_cons_succ, List.getElem?_cons_zero]; rfl) (by kernel_rfl) (by kernel_rfl) (by kernel_rfl) (by exact fun _ _ _ h => h) (by first | (refine Or.inl ⟨by rfl, ?_⟩; intro W hW; go_simp; try with_reducible rfl) | exact Or.inr ⟨by rfl, rfl⟩) ?_; try simp only [Act.put, List.setIfInBounds_toArray, List.set_cons_zero, List.set_cons_succ])
            (refine takeE Ext.tr 26 (by simp only [List.getElem?_toArray, List.getElem?_cons_succ, List.getElem?_cons_zero]; rfl) (by kernel_rfl) (by kernel_rfl) (by kernel_rfl) (by exact fun _ _ _ h => h) (by first | (refine Or.inl ⟨by rfl, ?_⟩; intro W hW; go_simp; try with_reducible rfl) | exact Or.inr ⟨by rfl, rfl⟩) ?_; try simp only [Act.put, List.setIfInBounds_toArray, List.set_cons_zero, List.set_cons_succ])
            refine wpAnyE_done (by kernel_rfl) ?_ _
            clear q0 q1 q2
            have HJf := Lib.hid (HJd.out.below hE)
            clear hE
            go_wp2
            go_roundw
            case rel => exact ⟨1, rfl, by omega, HJf.out⟩
            case measure => simp [intOf]
          · go_wp2_with fail
            refine wp_region_E Ext (by kernel_rfl) (fun wd hbd hsz => ?_)
            have HJd := Lib.hid (HJe.out.below hbd)
            have hE : Below wd.heap.size wd wd := Below.refl _ _
            have q0 : ∀ V, Ext wd V → V.cell? ⟨gk, 2, none⟩ = some (.int .i64 4) := fun V hV => (HJd.out.zk.below (below_on hE hV)).cell 2 rfl
            have q1 : ∀ V, Ext wd V → V.cell? ⟨gk, 3, none⟩ = some (.int .i64 1) := fun V hV => (HJd.out.zk.below (below_on hE hV)).cell 3 rfl
            have q2 : ∀ V, Ext wd V → V.cell? ⟨gw, 1, none⟩ = some (.int .i64 b) := fun V hV => (HJd.out.zw.below (below_on hE hV)).cell 1 rfl
            clear hsz
            (refine takeE Ext.tr 0 (by simp only [List.getElem?_toArray, List.getElem?_cons_succ, List.getElem?_cons_zero]; rfl) (by kernel_rfl) (by kernel_rfl) (by kernel_rfl) (by exact fun _ _ _ h => h) (by first | (refine Or.inl ⟨by rfl, ?_⟩; intro W hW; go_simp; try with_reducible rfl) | exact Or.inr ⟨by rfl, rfl⟩) ?_; try simp only [Act.put, List.setIfInBounds_toArray, List.set_cons_zero, List.set_cons_succ])
            (refine takeE Ext.tr 1 (by simp only [List.getElem?_toArray, List.getElem?_cons_succ, List.getElem?_cons_zero]; rfl) (by kernel_rfl) (by kernel_rfl) (by kernel_rfl) (by exact fun _ _ _ h => h) (by first | (refine Or.inl ⟨by rfl, ?_⟩; intro W hW; go_simp; try with_reducible rfl) | exact Or.inr ⟨by rfl, rfl⟩) ?_; try simp only [Act.put, List.setIfInBounds_toArray, List.set_cons_zero, List.set_cons_succ])
            (refine takeE Ext.tr 2 (by simp only [List.getElem?_toArray, List.getElem?_cons_succ, List.getElem?_cons_zero]; rfl) (by kernel_rfl) (by kernel_rfl) (by kernel_rfl) (by exact fun _ _ _ h => h) (by first | (refine Or.inl ⟨by rfl, ?_⟩; intro W hW; go_simp; try with_reducible rfl) | exact Or.inr ⟨by rfl, rfl⟩) ?_; try simp only [Act.put, List.setIfInBounds_toArray, List.set_cons_zero, List.set_cons_succ])
            (refine takeE Ext.tr 6 (by simp only [List.getElem?_toArray, List.getElem?_cons_succ, List.getElem?_cons_zero]; rfl) (by kernel_rfl) (by kernel_rfl) (by kernel_rfl) (by exact fun _ _ _ h => h) (by first | (refine Or.inl ⟨by rfl, ?_⟩; intro W hW; go_simp; try with_reducible rfl) | exact Or.inr ⟨by rfl, rfl⟩) ?_; try simp only [Act.put, List.setIfInBounds_toArray, List.set_cons_zero, List.set_cons_succ])
            (refine takeE Ext.tr 7 (by simp only [List.getElem?_toArray, List.getElem?_cons_succ, List.getElem?_cons_zero]; rfl) (by kernel_rfl) (by kernel_rfl) (by kernel_rfl) (by exact fun _ _ _ h => h) (by first | (refine Or.inl ⟨by rfl, ?_⟩; intro W hW; go_simp; try with_reducible rfl) | exact Or.inr ⟨by rfl, rfl⟩) ?_; try simp only [Act.put, List.setIfInBounds_toArray, List.set_cons_zero, List.set_cons_succ])
            (refine takeE Ext.tr 8 (by simp only [List.getElem?_toArray, List.getElem?_cons_succ, List.getElem?_cons_zero]; rfl) (by kernel_rfl) (by kernel_rfl) (by kernel_rfl) (by exact fun _ _ _ h => h) (by first | (refine Or.inl ⟨by rfl, ?_⟩; intro W hW; go_simp; try with_reducible rfl) | exact Or.inr ⟨by rfl, rfl⟩) ?_; try simp only [Act.put, List.setIfInBounds_toArray, List.set_cons_zero, List.set_cons_succ])
            (refine takeE Ext.tr 13 (by simp only [List.getElem?_toArray, List.getElem?_cons_succ, List.getElem?_cons_zero]; rfl) (by kernel_rfl) (by kernel_rfl) (by kernel_rfl) (by exact fun _ _ _ h => h) (by first | (refine Or.inl ⟨by rfl, ?_⟩; intro W hW; go_simp; try with_reducible rfl) | exact Or.inr ⟨by rfl, rfl⟩) ?_; try simp only [Act.put, List.setIfInBounds_toArray, List.set_cons_zero, List.set_cons_succ])
            (refine takeE Ext.tr 14 (by simp only [List.getElem?_toArray, List.getElem?_cons_succ, List.getElem?_cons_zero]; rfl) (by kernel_rfl) (by kernel_rfl) (by kernel_rfl) (by exact fun _ _ _ h => h) (by first | (refine Or.inl ⟨by rfl, ?_⟩; intro W hW; go_simp; try with_reducible rfl) | exact Or.inr ⟨by rfl, rfl⟩) ?_; try simp only [Act.put, List.setIfInBounds_toArray, List.set_cons_zero, List.set_cons_succ])
            (refine takeE Ext.tr 3 (by simp only [List.getElem?_toArray, List.getElem?_cons_succ, List.getElem?_cons_zero]; rfl) (by kernel_rfl) (by kernel_rfl) (by kernel_rfl) (by exact fun _ _ _ h => h) (by first | (refine Or.inl ⟨by rfl, ?_⟩; intro W hW; go_simp; try with_reducible rfl) | exact Or.inr ⟨by rfl, rfl⟩) ?_; try simp only [Act.put, List.setIfInBounds_toArray, List.set_cons_zero, List.set_cons_succ])
            (refine takeE Ext.tr 9 (by simp only [List.getElem?_toArray, List.getElem?_cons_succ, List.getElem?_cons_zero]; rfl) (by kernel_rfl) (by kernel_rfl) (by kernel_rfl) (by exact fun _ _ _ h => h) (by first | (refine Or.inl ⟨by rfl, ?_⟩; intro W hW; go_simp; try with_reducible rfl) | exact Or.inr ⟨by rfl, rfl⟩) ?_; try simp only [Act.put, List.setIfInBounds_toArray, List.set_cons_zero, List.set_cons_succ])
            (refine takeE Ext.tr 15 (by simp only [List.getElem?_toArray, List.getElem?_cons_succ, List.getElem?_cons_zero]; rfl) (by kernel_rfl) (by kernel_rfl) (by kernel_rfl) (by exact fun _ _ _ h => h) (by first | (refine Or.inl ⟨by rfl, ?_⟩; intro W hW; go_simp; try with_reducible rfl) | exact Or.inr ⟨by rfl, rfl⟩) ?_; try simp only [Act.put, List.setIfInBounds_toArray, List.set_cons_zero, List.set_cons_succ])
            (refine takeE Ext.tr 4 (by simp only [List.getElem?_toArray, List.getElem?_cons_succ, List.getElem?_cons_zero]; rfl) (by kernel_rfl) (by kernel_rfl) (by kernel_rfl) (by exact fun _ _ _ h => h) (by first | (refine Or.inl ⟨by rfl, ?_⟩; intro W hW; go_simp; try with_reducible rfl) | exact Or.inr ⟨by rfl, rfl⟩) ?_; try simp only [Act.put, List.setIfInBounds_toArray, List.set_cons_zero, List.set_cons_succ])
            (refine takeE Ext.tr 10 (by simp only [List.getElem?_toArray, List.getElem?_cons_succ, List.getElem?_cons_zero]; rfl) (by kernel_rfl) (by kernel_rfl) (by kernel_rfl) (by exact fun _ _ _ h => h) (by first | (refine Or.inl ⟨by rfl, ?_⟩; intro W hW; go_simp; try with_reducible rfl) | exact Or.inr ⟨by rfl, rfl⟩) ?_; try simp only [Act.put, List.setIfInBounds_toArray, List.set_cons_zero, List.set_cons_succ])
            (refine takeE Ext.tr 16 (by simp only [List.getElem?_toArray, List.getElem?_cons_succ, List.getElem?_cons_zero]; rfl) (by kernel_rfl) (by kernel_rfl) (by kernel_rfl) (by exact fun _ _ _ h => h) (by first | (refine Or.inl ⟨by rfl, ?_⟩; intro W hW; go_simp; try with_reducible rfl) | exact Or.inr ⟨by rfl, rfl⟩) ?_; try simp only [Act.put, List.setIfInBounds_toArray, List.set_cons_zero, List.set_cons_succ])
            refine wpAnyE_one (i := 5) (by kernel_rfl) (by simp only [List.getElem?_toArray, List.getElem?_cons_succ, List.getElem?_cons_zero]; rfl) (fun K hK => ?_)
            go_simp
            refine (n_issued (HJd.out.q.next hE) nB).mono ?_
            rintro en u4 ⟨rfl, hE2⟩
            have hE3 := hE2
            clear q0 q1 q2
            replace hE := below_on hE hE2
            have q0 : ∀ V, Ext u4 V → V.cell? ⟨gk, 2, none⟩ = some (.int .i64 4) := fun V hV => (HJd.out.zk.below (below_on hE hV)).cell 2 rfl
            have q1 : ∀ V, Ext u4 V → V.cell? ⟨gk, 3, none⟩ = some (.int .i64 1) := fun V hV => (HJd.out.zk.below (below_on hE hV)).cell 3 rfl
            have q2 : ∀ V, Ext u4 V → V.cell? ⟨gw, 1, none⟩ = some (.int .i64 b) := fun V hV => (HJd.out.zw.below (below_on hE hV)).cell 1 rfl
            clear hE2
            refine hK.out _ _ hE3 ?_
            clear hK K
            try simp only [Act.put, List.setIfInBounds_toArray, List.set_cons_zero, List.set_cons_succ]
            refine wpAnyE_one (i := 11) (by kernel_rfl) (by simp only [List.getElem?_toArray, List.getElem?_cons_succ, List.getElem?_cons_zero]; rfl) (fun K hK => ?_)
            go_simp
            refine (n_pending (HJd.out.q.next hE) nB).mono ?_
            rintro en u5 ⟨rfl, hE2⟩
            have hE3 := hE2
            clear q0 q1 q2
            replace hE := below_on hE hE2
            have q0 : ∀ V, Ext u5 V → V.cell? ⟨gk, 2, none⟩ = some (.int .i64 4) := fun V hV => (HJd.out.zk.below (below_on hE hV)).cell 2 rfl
            have q1 : ∀ V, Ext u5 V → V.cell? ⟨gk, 3, none⟩ = some (.int .i64 1) := fun V hV => (HJd.out.zk.below (below_on hE hV)).cell 3 rfl
            have q2 : ∀ V, Ext u5 V → V.cell? ⟨gw, 1, none⟩ = some (.int .i64 b) := fun V hV => (HJd.out.zw.below (below_on hE hV)).cell 1 rfl
            clear hE2
            refine hK.out _ _ hE3 ?_
            clear hK K
            try simp only [Act.put, List.setIfInBounds_toArray, List.set_cons_zero, List.set_cons_succ]
            (refine takeE Ext.tr 12 (by simp only [List.getElem?_toArray, List.getElem?_cons_succ, List.getElem?_cons_zero]; rfl) (by kernel_rfl) (by kernel_rfl) (by kernel_rfl) (by exact fun _ _ _ h => h) (by first | (refine Or.inl ⟨by rfl, ?_⟩; intro W hW; go_simp; try with_reducible rfl) | exact Or.inr ⟨by rfl, rfl⟩) ?_; try simp only [Act.put, List.setIfInBounds_toArray, List.set_cons_zero, List.set_cons_succ])
            (refine takeE Ext.tr 17 (by simp only [List.getElem?_toArray, List.getElem?_cons_succ, List.getElem?_cons_zero]; rfl) (by kernel_rfl) (by kernel_rfl) (by kernel_rfl) (by exact fun _ _ _ h => h) (by first | (refine Or.inl ⟨by rfl, ?_⟩; intro W hW; go_simp; try with_reducible rfl) | exact Or.inr ⟨by rfl, rfl⟩) ?_; try simp only [Act.put, List.setIfInBounds_toArray, List.set_cons_zero, List.set_cons_succ])
            (refine takeE Ext.tr 18 (by simp only [List.getElem?_toArray, List.getElem?_cons_succ, List.getElem?_cons_zero]; rfl) (by kernel_rfl) (by kernel_rfl) (by kernel_rfl) (by exact fun _ _ _ h => h) (by first | (refine Or.inl ⟨by rfl, ?_⟩; intro W hW; go_simp; try with_reducible rfl) | exact Or.inr ⟨by rfl, rfl⟩) ?_; try simp only [Act.put, List.setIfInBounds_toArray, List.set_cons_zero, List.set_cons_succ])
            (refine takeE Ext.tr 19 (by simp only [List.getElem?_toArray, List.getElem?_cons_succ, List.getElem?_cons_zero]; rfl) (by kernel_rfl) (by kernel_rfl) (by kernel_rfl) (by exact fun _ _ _ h => h) (by first | (refine Or.inl ⟨by rfl, ?_⟩; intro W hW; go_simp; try with_reducible rfl) | exact Or.inr ⟨by rfl, rfl⟩) ?_; try simp only [Act.put, List.setIfInBounds_toArray, List.set_cons_zero, List.set_cons_succ])
            (refine takeE Ext.tr 20 (by simp only [List.getElem?_toArray, List.getElem?_cons_succ, List.getElem?_cons_zero]; rfl) (by kernel_rfl) (by kernel_rfl) (by kernel_rfl) (by exact fun _ _ _ h => h) (by first | (refine Or.inl ⟨by rfl, ?_⟩; intro W hW; go_simp; try with_reducible rfl) | exact Or.inr ⟨by rfl, rfl⟩) ?_; try simp only [Act.put, List.setIfInBounds_toArray, List.set_cons_zero, List.set_cons_succ])
            (refine takeE Ext.tr 21 (by simp only [List.getElem?_toArray, List.getElem?_cons_succ, List.getElem?_cons_zero]; rfl) (by kernel_rfl) (by kernel_rfl) (by kernel_rfl) (by exact fun _ _ _ h => h) (by first | (refine Or.inl ⟨by rfl, ?_⟩; intro W hW; go_simp; try with_reducible rfl) | exact Or.inr ⟨by rfl, rfl⟩) ?_; try simp only [Act.put, List.setIfInBounds_toArray, List.set_cons_zero, List.set_cons_succ])
            (refine takeE Ext.tr 22 (by simp only [List.getElem?_toArray, List.getElem?_cons_succ, List.getElem?_cons_zero]; rfl) (by kernel_rfl) (by kernel_rfl) (by kernel_rfl) (by exact fun _ _ _ h => h) (by first | (refine Or.inl ⟨by rfl, ?_⟩; intro W hW; go_simp; try with_reducible rfl) | exact Or.inr ⟨by rfl, rfl⟩) ?_; try simp only [Act.put, List.setIfInBounds_toArray, List.set_cons_zero, List.set_cons_succ])
            (refine takeE Ext.tr 23 (by simp only [List.getElem?_toArray, List.getElem?_cons_succ, List.getElem?_cons_zero]; rfl) (by kernel_rfl) (by kernel_rfl) (by kernel_rfl) (by exact fun _ _ _ h => h) (by first | (refine Or.inl ⟨by rfl, ?_⟩; intro W hW; go_simp; try with_reducible rfl) | exact Or.inr ⟨by rfl, rfl⟩) ?_; try simp only [Act.put, List.setIfInBounds_toArray, List.set_cons_zero, List.set_cons_succ])
            refine wpAnyE_one (i := 24) (by kernel_rfl) (by simp only [List.getElem?_toArray, List.getElem?_cons_succ, List.getElem?_cons_zero]; rfl) (fun K hK => ?_)
            go_simp
            refine (n_pending (HJd.out.q.next hE) nB).mono ?_
            rintro en u6 ⟨rfl, hE2⟩
            have hE3 := hE2
            clear q0 q1 q2
            replace hE := below_on hE hE2
            have q0 : ∀ V, Ext u6 V → V.cell? ⟨gk, 2, none⟩ = some (.int .i64 4) := fun V hV => (HJd.out.zk.below (below_on hE hV)).cell 2 rfl
            have q1 : ∀ V, Ext u6 V → V.cell? ⟨gk, 3, none⟩ = some (.int .i64 1) := fun V hV => (HJd.out.zk.below (below_on hE hV)).cell 3 rfl
            have q2 : ∀ V, Ext u6 V → V.cell? ⟨gw, 1, none⟩ = some (.int .i64 b) := fun V hV => (HJd.out.zw.below (below_on hE hV)).cell 1 rfl
            clear hE2
            refine hK.out _ _ hE3 ?_
            clear hK K
            try simp only [Act.put, List.setIfInBounds_toArray, List.set_cons_zero, List.set_cons_succ]
            (refine takeE Ext.tr 25 (by simp only [List.getElem?_toArray, List.getElem?_cons_succ, List.getElem?_cons_zero]; rfl) (by kernel_rfl) (by kernel_rfl) (by kernel_rfl) (by exact fun _ _ _ h => h) (by first | (refine Or.inl ⟨by rfl, ?_⟩; intro W hW; go_simp; try with_reducible rfl) | exact Or.inr ⟨by rfl, rfl⟩) ?_; try simp only [Act.put, List.setIfInBounds_toArray, List.set_cons_zero, List.set_cons_succ])
            (refine takeE Ext.tr 26 (by simp only [List.getElem?_toArray, List.getElem?_cons_succ, List.getElem?_cons_zero]; rfl) (by kernel_rfl) (by kernel_rfl) (by kernel_rfl) (by exact fun _ _ _ h => h) (by first | (refine Or.inl ⟨by rfl, ?_⟩; intro W hW; go_simp; try with_reducible rfl) | exact Or.inr ⟨by rfl, rfl⟩) ?_; try simp only [Act.put, List.setIfInBounds_toArray, List.set_cons_zero, List.set_cons_succ])
            refine wpAnyE_done (by kernel_rfl) ?_ _
            clear q0 q1 q2
            have HJf := Lib.hid (HJd.out.below hE)
            clear hE
            go_wp2
            go_roundw
            case rel => exact ⟨2, rfl, by omega, HJf.out⟩
            case measure => simp [intOf]
          · go_wp2_with fail
            refine wp_region_E Ext (by kernel_rfl) (fun wd hbd hsz => ?_)
            have HJd := Lib.hid (HJe.out.below hbd)
            have hE : Below wd.heap.size wd wd := Below.refl _ _
            have q0 : ∀ V, Ext wd V → V.cell? ⟨gk, 0, none⟩ = some (.int .i64 2) := fun V hV => (HJd.out.zk.below (below_on hE hV)).cell 0 rfl
            have q1 : ∀ V, Ext wd V → V.cell? ⟨gk, 1, none⟩ = some (.int .i64 3) := fun V hV => (HJd.out.zk.below (below_on hE hV)).cell 1 rfl
            have q2 : ∀ V, Ext wd V → V.cell? ⟨gk, 2, none⟩ = some (.int .i64 4) := fun V hV => (HJd.out.zk.below (below_on hE hV)).cell 2 rfl
            have q3 : ∀ V, Ext wd V → V.cell? ⟨gk, 3, none⟩ = some (.int .i64 1) := fun V hV => (HJd.out.zk.below (below_on hE hV)).cell 3 rfl
            clear hsz
            (refine takeE Ext.tr 0 (by simp only [List.getElem?_toArray, List.getElem?_cons_succ, List.getElem?_cons_zero]; rfl) (by kernel_rfl) (by kernel_rfl) (by kernel_rfl) (by exact fun _ _ _ h => h) (by first | (refine Or.inl ⟨by rfl, ?_⟩; intro W hW; go_simp; try with_reducible rfl) | exact Or.inr ⟨by rfl, rfl⟩) ?_; try simp only [Act.put, List.setIfInBounds_toArray, List.set_cons_zero, List.set_cons_succ])
            (refine takeE Ext.tr 1 (by simp only [List.getElem?_toArray, List.getElem?_cons_succ, List.getElem?_cons_zero]; rfl) (by kernel_rfl) (by kernel_rfl) (by kernel_rfl) (by exact fun _ _ _ h => h) (by first | (refine Or.inl ⟨by rfl, ?_⟩; intro W hW; go_simp; try with_reducible rfl) | exact Or.inr ⟨by rfl, rfl⟩) ?_; try simp only [Act.put, List.setIfInBounds_toArray, List.set_cons_zero, List.set_cons_succ])
            (refine takeE Ext.tr 5 (by simp only [List.getElem?_toArray, List.getElem?_cons_succ, List.getElem?_cons_zero]; rfl) (by kernel_rfl) (by kernel_rfl) (by kernel_rfl) (by exact fun _ _ _ h => h) (by first | (refine Or.inl ⟨by rfl, ?_⟩; intro W hW; go_simp; try with_reducible rfl) | exact Or.inr ⟨by rfl, rfl⟩) ?_; try simp only [Act.put, List.setIfInBounds_toArray, List.set_cons_zero, List.set_cons_succ])
            (refine takeE Ext.tr 6 (by simp only [List.getElem?_toArray, List.getElem?_cons_succ, List.getElem?_cons_zero]; rfl) (by kernel_rfl) (by kernel_rfl) (by kernel_rfl) (by exact fun _ _ _ h => h) (by first | (refine Or.inl ⟨by rfl, ?_⟩; intro W hW; go_simp; try with_reducible rfl) | exact Or.inr ⟨by rfl, rfl⟩) ?_; try simp only [Act.put, List.setIfInBounds_toArray, List.set_cons_zero, List.set_cons_succ])
            (refine takeE Ext.tr 11 (by simp only [List.getElem?_toArray, List.getElem?_cons_succ, List.getElem?_cons_zero]; rfl) (by kernel_rfl) (by kernel_rfl) (by kernel_rfl) (by exact fun _ _ _ h => h) (by first | (refine Or.inl ⟨by rfl, ?_⟩; intro W hW; go_simp; try with_reducible rfl) | exact Or.inr ⟨by rfl, rfl⟩) ?_; try simp only [Act.put, List.setIfInBounds_toArray, List.set_cons_zero, List.set_cons_succ])
            (refine takeE Ext.tr 2 (by simp only [List.getElem?_toArray, List.getElem?_cons_succ, List.getElem?_cons_zero]; rfl) (by kernel_rfl) (by kernel_rfl) (by kernel_rfl) (by exact fun _ _ _ h => h) (by first | (refine Or.inl ⟨by rfl, ?_⟩; intro W hW; go_simp; try with_reducible rfl) | exact Or.inr ⟨by rfl, rfl⟩) ?_; try simp only [Act.put, List.setIfInBounds_toArray, List.set_cons_zero, List.set_cons_succ])
            (refine takeE Ext.tr 7 (by simp only [List.getElem?_toArray, List.getElem?_cons_succ, List.getElem?_cons_zero]; rfl) (by kernel_rfl) (by kernel_rfl) (by kernel_rfl) (by exact fun _ _ _ h => h) (by first | (refine Or.inl ⟨by rfl, ?_⟩; intro W hW; go_simp; try with_reducible rfl) | exact Or.inr ⟨by rfl, rfl⟩) ?_; try simp only [Act.put, List.setIfInBounds_toArray, List.set_cons_zero, List.set_cons_succ])
            (refine takeE Ext.tr 3 (by simp only [List.getElem?_toArray, List.getElem?_cons_succ, List.getElem?_cons_zero]; rfl) (by kernel_rfl) (by kernel_rfl) (by kernel_rfl) (by exact fun _ _ _ h => h) (by first | (refine Or.inl ⟨by rfl, ?_⟩; intro W hW; go_simp; try with_reducible rfl) | exact Or.inr ⟨by rfl, rfl⟩) ?_; try simp only [Act.put, List.setIfInBounds_toArray, List.set_cons_zero, List.set_cons_succ])
            (refine takeE Ext.tr 8 (by simp only [List.getElem?_toArray, List.getElem?_cons_succ, List.getElem?_cons_zero]; rfl) (by kernel_rfl) (by kernel_rfl) (by kernel_rfl) (by exact fun _ _ _ h => h) (by first | (refine Or.inl ⟨by rfl, ?_⟩; intro W hW; go_simp; try with_reducible rfl) | exact Or.inr ⟨by rfl, rfl⟩) ?_; try simp only [Act.put, List.setIfInBounds_toArray, List.set_cons_zero, List.set_cons_succ])
            refine wpAnyE_one (i := 4) (by kernel_rfl) (by simp only [List.getElem?_toArray, List.getElem?_cons_succ, List.getElem?_cons_zero]; rfl) (fun K hK => ?_)
            go_simp
            refine (n_issued (HJd.out.q.next hE) nA).mono ?_
            rintro en u7 ⟨rfl, hE2⟩
            have hE3 := hE2
            clear q0 q1 q2 q3
            replace hE := below_on hE hE2
            have q0 : ∀ V, Ext u7 V → V.cell? ⟨gk, 0, none⟩ = some (.int .i64 2) := fun V hV => (HJd.out.zk.below (below_on hE hV)).cell 0 rfl
            have q1 : ∀ V, Ext u7 V → V.cell? ⟨gk, 1, none⟩ = some (.int .i64 3) := fun V hV => (HJd.out.zk.below (below_on hE hV)).cell 1 rfl
            have q2 : ∀ V, Ext u7 V → V.cell? ⟨gk, 2, none⟩ = some (.int .i64 4) := fun V hV => (HJd.out.zk.below (below_on hE hV)).cell 2 rfl
            have q3 : ∀ V, Ext u7 V → V.cell? ⟨gk, 3, none⟩ = some (.int .i64 1) := fun V hV => (HJd.out.zk.below (below_on hE hV)).cell 3 rfl
            clear hE2
            refine hK.out _ _ hE3 ?_
            clear hK K
            try simp only [Act.put, List.setIfInBounds_toArray, List.set_cons_zero, List.set_cons_succ]
            refine wpAnyE_one (i := 9) (by kernel_rfl) (by simp only [List.getElem?_toArray, List.getElem?_cons_succ, List.getElem?_cons_zero]; rfl) (fun K hK => ?_)
            go_simp
            refine (n_issued (HJd.out.q.next hE) nB).mono ?_
            rintro en u8 ⟨rfl, hE2⟩
            have hE3 := hE2
            clear q0 q1 q2 q3
            replace hE := below_on hE hE2
            have q0 : ∀ V, Ext u8 V → V.cell? ⟨gk, 0, none⟩ = some (.int .i64 2) := fun V hV => (HJd.out.zk.below (below_on hE hV)).cell 0 rfl
            have q1 : ∀ V, Ext u8 V → V.cell? ⟨gk, 1, none⟩ = some (.int .i64 3) := fun V hV => (HJd.out.zk.below (below_on hE hV)).cell 1 rfl
            have q2 : ∀ V, Ext u8 V → V.cell? ⟨gk, 2, none⟩ = some (.int .i64 4) := fun V hV => (HJd.out.zk.below (below_on hE hV)).cell 2 rfl
            have q3 : ∀ V, Ext u8 V → V.cell? ⟨gk, 3, none⟩ = some (.int .i64 1) := fun V hV => (HJd.out.zk.below (below_on hE hV)).cell 3 rfl
            clear hE2
            refine hK.out _ _ hE3 ?_
            clear hK K
            try simp only [Act.put, List.setIfInBounds_toArray, List.set_cons_zero, List.set_cons_succ]
            (refine takeE Ext.tr 10 (by simp only [List.getElem?_toArray, List.getElem?_cons_succ, List.getElem?_cons_zero]; rfl) (by kernel_rfl) (by kernel_rfl) (by kernel_rfl) (by exact fun _ _ _ h => h) (by first | (refine Or.inl ⟨by rfl, ?_⟩; intro W hW; go_simp; try with_reducible rfl) | exact Or.inr ⟨by rfl, rfl⟩) ?_; try simp only [Act.put, List.setIfInBounds_toArray, List.set_cons_zero, List.set_cons_succ])
            refine wpAnyE_one (i := 12) (by kernel_rfl) (by simp only [List.getElem?_toArray, List.getElem?_cons_succ, List.getElem?_cons_zero]; rfl) (fun K hK => ?_)
            go_simp
            refine (n_total (HJd.out.q.next hE)).mono ?_
            rintro en v1 ⟨rfl, rfl⟩
            refine hK.out _ _ (Ext.refl _) ?_
            clear hK K
            try simp only [Act.put, List.setIfInBounds_toArray, List.set_cons_zero, List.set_cons_succ]
            (refine takeE Ext.tr 13 (by simp only [List.getElem?_toArray, List.getElem?_cons_succ, List.getElem?_cons_zero]; rfl) (by kernel_rfl) (by kernel_rfl) (by kernel_rfl) (by exact fun _ _ _ h => h) (by first | (refine Or.inl ⟨by rfl, ?_⟩; intro W hW; go_simp; try with_reducible rfl) | exact Or.inr ⟨by rfl, rfl⟩) ?_; try simp only [Act.put, List.setIfInBounds_toArray, List.set_cons_zero, List.set_cons_succ])
            refine wpAnyE_done (by kernel_rfl) ?_ _
            clear q0 q1 q2 q3
            have HJf := Lib.hid (HJd.out.below hE)
            clear hE
            go_wp2
            go_roundw
            case rel => exact ⟨k + 1, _, _, _, by go_num, by omega, HJf.out⟩
            case measure => simp [intOf]; omega
      · have ho := HJ.out.nm.oweb (n := 1 + x / 32) hn1.1 hn1.2 (by omega)
        have HC := Lib.hid (n_owe HJ.out.q nB (1 + x / 32))
        rw [ho.1] at HC
        have HO := Lib.hid ho.2
        clear ho
        go_wp2_with fail
        rw [e0]
        refine HC.out.mono ?_
        rintro en w6 ⟨rfl, h6, hk6⟩
        have hzw := HJ.out.zw.kp hk6 HK.out.2.1
        have b0 : w6.cell? ⟨gw, 1, none⟩ = some (.int .i64 b) := hzw.cell 1 rfl
        have hl6 := hzw.free 1
        have H6 := Lib.hid (And.intro h6 (And.intro (HJ.out.zk.kp hk6 HK.out.1) hzw))
        clear h6 hk6 hzw a0 a1 a2 a3 hcw HC
        go_wp2_with fail
        have HJ7 : Hid (NW w K (w.heap.size + 1) gk gw (k + 1) (m.oweR nB (1 + x / 32)).1 a (b + (1 + x / 32)) (w6.setCell ⟨gw, 1, none⟩ (.int .i64 (b + (1 + x / 32))))) := Lib.hid
          ⟨H6.out.1.set HK.out.2.1 HK.out.2.2.1 _ _, HO.out, H6.out.2.1.far HK.out.2.2.2 _, H6.out.2.2.set 1 _, by omega, by omega⟩
        generalize w6.setCell ⟨gw, 1, none⟩ (.int .i64 (b + (1 + x / 32))) = w7 at *
        generalize (m.oweR nB (1 + x / 32)).1 = m2 at *
        generalize b + (1 + x / 32) = b2 at *
        clear b0 ja jb hn1 e0 hx HJ HO H6 hl6
        obtain ⟨v1, v2, v3, v4, v5, v6, v7⟩ := HJ7.out.nm.see
        have v8 := HJ7.out.ha
        have v9 := HJ7.out.hb
        have v10 := HLT.out
        have f1 : ((ofKey (m2).L nA).i + (ofKey (m2).L nA).p != a) = false := by simp; omega
        have f2 : ((ofKey (m2).L nB).i + (ofKey (m2).L nB).p != b2) = false := by simp; omega
        have f3 : decide ((ofKey (m2).L nA).p < 0) = false := by simp; omega
        have f4 : decide ((ofKey (m2).L nB).p < 0) = false := by simp; omega
        have f5 : ((ofKey (m2).L nA).i + (ofKey (m2).L nB).i != (m2).total) = false := by simp; omega
        have v11 : (ofKey (m2).L nA).i ≤ 808 := by omega
        have v12 : (ofKey (m2).L nA).p ≤ 808 := by omega
        have v13 : (ofKey (m2).L nB).i ≤ 808 := by omega
        have v14 : (ofKey (m2).L nB).p ≤ 808 := by omega
        have y1 := wraps_i64 ((ofKey (m2).L nA).i + (ofKey (m2).L nA).p) (by omega) (by omega)
        have y2 := wraps_i64 ((ofKey (m2).L nB).i + (ofKey (m2).L nB).p) (by omega) (by omega)
        have y3 := wraps_i64 ((ofKey (m2).L nA).i + (ofKey (m2).L nB).i) (by omega) (by omega)
        clear v1 v2 v3 v8 v9 v10
        go_loopw [15] (fun j wr => ∃ (e : Nat), j = .int .i64 e ∧ e ≤ 2 ∧ NW w K (w.heap.size + 1) gk gw (k + 1) (m2) a b2 wr) (fun j _ => 2 - (intOf j).toNat)
        case atStart => exact ⟨0, rfl, by omega, HJ7.out⟩
        case round =>
          obtain ⟨e, rfl, he, hJe⟩ := hrel
          have HJe := Lib.hid hJe
          clear hJe HJ7
          rcases (by omega : e = 0 ∨ e = 1 ∨ e = 2) with rfl | rfl | rfl
          · go_wp2_with fail
            refine wp_region_E Ext (by kernel_rfl) (fun wd hbd hsz => ?_)
            have HJd := Lib.hid (HJe.out.below hbd)
            have hE : Below wd.heap.size wd wd := Below.refl _ _
            have q0 : ∀ V, Ext wd V → V.cell? ⟨gk, 0, none⟩ = some (.int .i64 2) := fun V hV => (HJd.out.zk.below (below_on hE hV)).cell 0 rfl
            have q1 : ∀ V, Ext wd V → V.cell? ⟨gk, 1, none⟩ = some (.int .i64 3) := fun V hV => (HJd.out.zk.below (below_on hE hV)).cell 1 rfl
            have q2 : ∀ V, Ext wd V → V.cell? ⟨gw, 0, none⟩ = some (.int .i64 a) := fun V hV => (HJd.out.zw.below (below_on hE hV)).cell 0 rfl
            clear hsz
            (refine takeE Ext.tr 0 (by simp only [List.getElem?_toArray, List.getElem?_cons_succ, List.getElem?_cons_zero]; rfl) (by kernel_rfl) (by kernel_rfl) (by kernel_rfl) (by exact fun _ _ _ h => h) (by first | (refine Or.inl ⟨by rfl, ?_⟩; intro W hW; go_simp; try with_reducible rfl) | exact Or.inr ⟨by rfl, rfl⟩) ?_; try simp only [Act.put, List.setIfInBounds_toArray, List.set_cons_zero, List.set_cons_succ])
            (refine takeE Ext.tr 1 (by simp only [List.getElem?_toArray, List.getElem?_cons_succ, List.getElem?_cons_zero]; rfl) (by kernel_rfl) (by kernel_rfl) (by kernel_rfl) (by exact fun _ _ _ h => h) (by first | (refine Or.inl ⟨by rfl, ?_⟩; intro W hW; go_simp; try with_reducible rfl) | exact Or.inr ⟨by rfl, rfl⟩) ?_; try simp only [Act.put, List.setIfInBounds_toArray, List.set_cons_zero, List.set_cons_succ])
            (refine takeE Ext.tr 2 (by simp only [List.getElem?_toArray, List.getElem?_cons_succ, List.getElem?_cons_zero]; rfl) (by kernel_rfl) (by kernel_rfl) (by kernel_rfl) (by exact fun _ _ _ h => h) (by first | (refine Or.inl ⟨by rfl, ?_⟩; intro W hW; go_simp; try with_reducible rfl) | exact Or.inr ⟨by rfl, rfl⟩) ?_; try simp only [Act.put, List.setIfInBounds_toArray, List.set_cons_zero, List.set_cons_succ])
            (refine takeE Ext.tr 6 (by simp only [List.getElem?_toArray, List.getElem?_cons_succ, List.getElem?_cons_zero]; rfl) (by kernel_rfl) (by kernel_rfl) (by kernel_rfl) (by exact fun _ _ _ h => h) (by first | (refine Or.inl ⟨by rfl, ?_⟩; intro W hW; go_simp; try with_reducible rfl) | exact Or.inr ⟨by rfl, rfl⟩) ?_; try simp only [Act.put, List.setIfInBounds_toArray, List.set_cons_zero, List.set_cons_succ])
            (refine takeE Ext.tr 7 (by simp only [List.getElem?_toArray, List.getElem?_cons_succ, List.getElem?_cons_zero]; rfl) (by kernel_rfl) (by kernel_rfl) (by kernel_rfl) (by exact fun _ _ _ h => h) (by first | (refine Or.inl ⟨by rfl, ?_⟩; intro W hW; go_simp; try with_reducible rfl) | exact Or.inr ⟨by rfl, rfl⟩) ?_; try simp only [Act.put, List.setIfInBounds_toArray, List.set_cons_zero, List.set_cons_succ])
            (refine takeE Ext.tr 8 (by simp only [List.getElem?_toArray, List.getElem?_cons_succ, List.getElem?_cons_zero]; rfl) (by kernel_rfl) (by kernel_rfl) (by kernel_rfl) (by exact fun _ _ _ h => h) (by first | (refine Or.inl ⟨by rfl, ?_⟩; intro W hW; go_simp; try with_reducible rfl) | exact Or.inr ⟨by rfl, rfl⟩) ?_; try simp only [Act.put, List.setIfInBounds_toArray, List.set_cons_zero, List.set_cons_succ])
            (refine takeE Ext.tr 13 (by simp only [List.getElem?_toArray, List.getElem?_cons_succ, List.getElem?_cons_zero]; rfl) (by kernel_rfl) (by kernel_rfl) (by kernel_rfl) (by exact fun _ _ _ h => h) (by first | (refine Or.inl ⟨by rfl, ?_⟩; intro W hW; go_simp; try with_reducible rfl) | exact Or.inr ⟨by rfl, rfl⟩) ?_; try simp only [Act.put, List.setIfInBounds_toArray, List.set_cons_zero, List.set_cons_succ])
            (refine takeE Ext.tr 14 (by simp only [List.getElem?_toArray, List.getElem?_cons_succ, List.getElem?_cons_zero]; rfl) (by kernel_rfl) (by kernel_rfl) (by kernel_rfl) (by exact fun _ _ _ h => h) (by first | (refine Or.inl ⟨by rfl, ?_⟩; intro W hW; go_simp; try with_reducible rfl) | exact Or.inr ⟨by rfl, rfl⟩) ?_; try simp only [Act.put, List.setIfInBounds_toArray, List.set_cons_zero, List.set_cons_succ])
            (refine takeE Ext.tr 3 (by simp only [List.getElem?_toArray, List.getElem?_cons_succ, List.getElem?_cons_zero]; rfl) (by kernel_rfl) (by kernel_rfl) (by kernel_rfl) (by exact fun _ _ _ h => h) (by first | (refine Or.inl ⟨by rfl, ?_⟩; intro W hW; go_simp; try with_reducible rfl) | exact Or.inr ⟨by rfl, rfl⟩) ?_; try simp only [Act.put, List.setIfInBounds_toArray, List.set_cons_zero, List.set_cons_succ])
            (refine takeE Ext.tr 9 (by simp only [List.getElem?_toArray, List.getElem?_cons_succ, List.getElem?_cons_zero]; rfl) (by kernel_rfl) (by kernel_rfl) (by kernel_rfl) (by exact fun _ _ _ h => h) (by first | (refine Or.inl ⟨by rfl, ?_⟩; intro W hW; go_simp; try with_reducible rfl) | exact Or.inr ⟨by rfl, rfl⟩) ?_; try simp only [Act.put, List.setIfInBounds_toArray, List.set_cons_zero, List.set_cons_succ])
            (refine takeE Ext.tr 15 (by simp only [List.getElem?_toArray, List.getElem?_cons_succ, List.getElem?_cons_zero]; rfl) (by kernel_rfl) (by kernel_rfl) (by kernel_rfl) (by exact fun _ _ _ h => h) (by first | (refine Or.inl ⟨by rfl, ?_⟩; intro W hW; go_simp; try with_reducible rfl) | exact Or.inr ⟨by rfl, rfl⟩) ?_; try simp only [Act.put, List.setIfInBounds_toArray, List.set_cons_zero, List.set_cons_succ])
            (refine takeE Ext.tr 4 (by simp only [List.getElem?_toArray, List.getElem?_cons_succ, List.getElem?_cons_zero]; rfl) (by kernel_rfl) (by kernel_rfl) (by kernel_rfl) (by exact fun _ _ _ h => h) (by first | (refine Or.inl ⟨by rfl, ?_⟩; intro W hW; go_simp; try with_reducible rfl) | exact Or.inr ⟨by rfl, rfl⟩) ?_; try simp only [Act.put, List.setIfInBounds_toArray, List.set_cons_zero, List.set_cons_succ])
            (refine takeE Ext.tr 10 (by simp only [List.getElem?_toArray, List.getElem?_cons_succ, List.getElem?_cons_zero]; rfl) (by kernel_rfl) (by kernel_rfl) (by kernel_rfl) (by exact fun _ _ _ h => h) (by first | (refine Or.inl ⟨by rfl, ?_⟩; intro W hW; go_simp; try with_reducible rfl) | exact Or.inr ⟨by rfl, rfl⟩) ?_; try simp only [Act.put, List.setIfInBounds_toArray, List.set_cons_zero, List.set_cons_succ])
            (refine takeE Ext.tr 16 (by simp only [List.getElem?_toArray, List.getElem?_cons_succ, List.getElem?_cons_zero]; rfl) (by kernel_rfl) (by kernel_rfl) (by kernel_rfl) (by exact fun _ _ _ h => h) (by first | (refine Or.inl ⟨by rfl, ?_⟩; intro W hW; go_simp; try with_reducible rfl) | exact Or.inr ⟨by rfl, rfl⟩) ?_; try simp only [Act.put, List.setIfInBounds_toArray, List.set_cons_zero, List.set_cons_succ])
            refine wpAnyE_one (i := 5) (by kernel_rfl) (by simp only [List.getElem?_toArray, List.getElem?_cons_succ, List.getElem?_cons_zero]; rfl) (fun K hK => ?_)
            go_simp
            refine (n_issued (HJd.out.q.next hE) nA).mono ?_
            rintro en u9 ⟨rfl, hE2⟩
            have hE3 := hE2
            clear q0 q1 q2
            replace hE := below_on hE hE2
            have q0 : ∀ V, Ext u9 V → V.cell? ⟨gk, 0, none⟩ = some (.int .i64 2) := fun V hV => (HJd.out.zk.below (below_on hE hV)).cell 0 rfl
            have q1 : ∀ V, Ext u9 V → V.cell? ⟨gk, 1, none⟩ = some (.int .i64 3) := fun V hV => (HJd.out.zk.below (below_on hE hV)).cell 1 rfl
            have q2 : ∀ V, Ext u9 V → V.cell? ⟨gw, 0, none⟩ = some (.int .i64 a) := fun V hV => (HJd.out.zw.below (below_on hE hV)).cell 0 rfl
            clear hE2
            refine hK.out _ _ hE3 ?_
            clear hK K
            try simp only [Act.put, List.setIfInBounds_toArray, List.set_cons_zero, List.set_cons_succ]
            refine wpAnyE_one (i := 11) (by kernel_rfl) (by simp only [List.getElem?_toArray, List.getElem?_cons_succ, List.getElem?_cons_zero]; rfl) (fun K hK => ?_)
            go_simp
            refine (n_pending (HJd.out.q.next hE) nA).mono ?_
            rintro en u10 ⟨rfl, hE2⟩
            have hE3 := hE2
            clear q0 q1 q2
            replace hE := below_on hE hE2
            have q0 : ∀ V, Ext u10 V → V.cell? ⟨gk, 0, none⟩ = some (.int .i64 2) := fun V hV => (HJd.out.zk.below (below_on hE hV)).cell 0 rfl
            have q1 : ∀ V, Ext u10 V → V.cell? ⟨gk, 1, none⟩ = some (.int .i64 3) := fun V hV => (HJd.out.zk.below (below_on hE hV)).cell 1 rfl
            have q2 : ∀ V, Ext u10 V → V.cell? ⟨gw, 0, none⟩ = some (.int .i64 a) := fun V hV => (HJd.out.zw.below (below_on hE hV)).cell 0 rfl
            clear hE2
            refine hK.out _ _ hE3 ?_
            clear hK K
            try simp only [Act.put, List.setIfInBounds_toArray, List.set_cons_zero, List.set_cons_succ]
            (refine takeE Ext.tr 12 (by simp only [List.getElem?_toArray, List.getElem?_cons_succ, List.getElem?_cons_zero]; rfl) (by kernel_rfl) (by kernel_rfl) (by kernel_rfl) (by exact fun _ _ _ h => h) (by first | (refine Or.inl ⟨by rfl, ?_⟩; intro W hW; go_simp; try with_reducible rfl) | exact Or.inr ⟨by rfl, rfl⟩) ?_; try simp only [Act.put, List.setIfInBounds_toArray, List.set_cons_zero, List.set_cons_succ])
            (refine takeE Ext.tr 17 (by simp only [List.getElem?_toArray, List.getElem?_cons_succ, List.getElem?_cons_zero]; rfl) (by kernel_rfl) (by kernel_rfl) (by kernel_rfl) (by exact fun _ _ _ h => h) (by first | (refine Or.inl ⟨by rfl, ?_⟩; intro W hW; go_simp; try with_reducible rfl) | exact Or.inr ⟨by rfl, rfl⟩) ?_; try simp only [Act.put, List.setIfInBounds_toArray, List.set_cons_zero, List.set_cons_succ])
            (refine takeE Ext.tr 18 (by simp only [List.getElem?_toArray, List.getElem?_cons_succ, List.getElem?_cons_zero]; rfl) (by kernel_rfl) (by kernel_rfl) (by kernel_rfl) (by exact fun _ _ _ h => h) (by first | (refine Or.inl ⟨by rfl, ?_⟩; intro W hW; go_simp; try with_reducible rfl) | exact Or.inr ⟨by rfl, rfl⟩) ?_; try simp only [Act.put, List.setIfInBounds_toArray, List.set_cons_zero, List.set_cons_succ])
            (refine takeE Ext.tr 19 (by simp only [List.getElem?_toArray, List.getElem?_cons_succ, List.getElem?_cons_zero]; rfl) (by kernel_rfl) (by kernel_rfl) (by kernel_rfl) (by exact fun _ _ _ h => h) (by first | (refine Or.inl ⟨by rfl, ?_⟩; intro W hW; go_simp; try with_reducible rfl) | exact Or.inr ⟨by rfl, rfl⟩) ?_; try simp only [Act.put, List.setIfInBounds_toArray, List.set_cons_zero, List.set_cons_succ])
            (refine takeE Ext.tr 20 (by simp only [List.getElem?_toArray, List.getElem?_cons_succ, List.getElem?_cons_zero]; rfl) (by kernel_rfl) (by kernel_rfl) (by kernel_rfl) (by exact fun _ _ _ h => h) (by first | (refine Or.inl ⟨by rfl, ?_⟩; intro W hW; go_simp; try with_reducible rfl) | exact Or.inr ⟨by rfl, rfl⟩) ?_; try simp only [Act.put, List.setIfInBounds_toArray, List.set_cons_zero, List.set_cons_succ])
            (refine takeE Ext.tr 21 (by simp only [List.getElem?_toArray, List.getElem?_cons_succ, List.getElem?_cons_zero]; rfl) (by kernel_rfl) (by kernel_rfl) (by kernel_rfl) (by exact fun _ _ _ h => h) (by first | (refine Or.inl ⟨by rfl, ?_⟩; intro W hW; go_simp; try with_reducible rfl) | exact Or.inr ⟨by rfl, rfl⟩) ?_; try simp only [Act.put, List.setIfInBounds_toArray, List.set_cons_zero, List.set_cons_succ])
            (refine takeE Ext.tr 22 (by simp only [List.getElem?_toArray, List.getElem?_cons_succ, List.getElem?_cons_zero]; rfl) (by kernel_rfl) (by kernel_rfl) (by kernel_rfl) (by exact fun _ _ _ h => h) (by first | (refine Or.inl ⟨by rfl, ?_⟩; intro W hW; go_simp; try with_reducible rfl) | exact Or.inr ⟨by rfl, rfl⟩) ?_; try simp only [Act.put, List.setIfInBounds_toArray, List.set_cons_zero, List.set_cons_succ])
            (refine takeE Ext.tr 23 (by simp only [List.getElem?_toArray, List.getElem?_cons_succ, List.getElem?_cons_zero]; rfl) (by kernel_rfl) (by kernel_rfl) (by kernel_rfl) (by exact fun _ _ _ h => h) (by first | (refine Or.inl ⟨by rfl, ?_⟩; intro W hW; go_simp; try with_reducible rfl) | exact Or.inr ⟨by rfl, rfl⟩) ?_; try simp only [Act.put, List.setIfInBounds_toArray, List.set_cons_zero, List.set_cons_succ])
            refine wpAnyE_one (i := 24) (by kernel_rfl) (by simp only [List.getElem?_toArray, List.getElem?_cons_succ, List.getElem?_cons_zero]; rfl) (fun K hK => ?_)
            go_simp
            refine (n_pending (HJd.out.q.next hE) nA).mono ?_
            rintro en u11 ⟨rfl, hE2⟩
            have hE3 := hE2
            clear q0 q1 q2
            replace hE := below_on hE hE2
            have q0 : ∀ V, Ext u11 V → V.cell? ⟨gk, 0, none⟩ = some (.int .i64 2) := fun V hV => (HJd.out.zk.below (below_on hE hV)).cell 0 rfl
            have q1 : ∀ V, Ext u11 V → V.cell? ⟨gk, 1, none⟩ = some (.int .i64 3) := fun V hV => (HJd.out.zk.below (below_on hE hV)).cell 1 rfl
            have q2 : ∀ V, Ext u11 V → V.cell? ⟨gw, 0, none⟩ = some (.int .i64 a) := fun V hV => (HJd.out.zw.below (below_on hE hV)).cell 0 rfl
            clear hE2
            refine hK.out _ _ hE3 ?_
            clear hK K
            try simp only [Act.put, List.setIfInBounds_toArray, List.set_cons_zero, List.set_cons_succ]
            (refine takeE Ext.tr 25 (by simp only [List.getElem?_toArray, List.getElem?_cons_succ, List.getElem?_cons_zero]; rfl) (by kernel_rfl) (by kernel_rfl) (by kernel_rfl) (by exact fun _ _ _ h => h) (by first | (refine Or.inl ⟨by rfl, ?_⟩; intro W hW; go_simp; try with_reducible rfl) | exact Or.inr ⟨by rfl, rfl⟩) ?_; try simp only [Act.put, List.setIfInBounds_toArray, List.set_cons_zero, List.set_cons_succ])
            (refine takeE Ext.tr 26 (by simp only [List.getElem?_toArray, List.getElem?_cons_succ, List.getElem?_cons_zero]; rfl) (by kernel_rfl) (by kernel_rfl) (by kernel_rfl) (by exact fun _ _ _ h => h) (by first | (refine Or.inl ⟨by rfl, ?_⟩; intro W hW; go_simp; try with_reducible rfl) | exact Or.inr ⟨by rfl, rfl⟩) ?_; try simp only [Act.put, List.setIfInBounds_toArray, List.set_cons_zero, List.set_cons_succ])
            refine wpAnyE_done (by kernel_rfl) ?_ _
            clear q0 q1 q2
            have HJf := Lib.hid (HJd.out.below hE)
            clear hE
            go_wp2
            go_roundw
            case rel => exact ⟨1, rfl, by omega, HJf.out⟩
            case measure => simp [intOf]
          · go_wp2_with fail
            refine wp_region_E Ext (by kernel_rfl) (fun wd hbd hsz => ?_)
            have HJd := Lib.hid (HJe.out.below hbd)
            have hE : Below wd.heap.size wd wd := Below.refl _ _
            have q0 : ∀ V, Ext wd V → V.cell? ⟨gk, 2, none⟩ = some (.int .i64 4) := fun V hV => (HJd.out.zk.below (below_on hE hV)).cell 2 rfl
            have q1 : ∀ V, Ext wd V → V.cell? ⟨gk, 3, none⟩ = some (.int .i64 1) := fun V hV => (HJd.out.zk.below (below_on hE hV)).cell 3 rfl
            have q2 : ∀ V, Ext wd V → V.cell? ⟨gw, 1, none⟩ = some (.int .i64 b2) := fun V hV => (HJd.out.zw.below (below_on hE hV)).cell 1 rfl
            clear hsz
            (refine takeE Ext.tr 0 (by simp only [List.getElem?_toArray, List.getElem?_cons_succ, List.getElem?_cons_zero]; rfl) (by kernel_rfl) (by kernel_rfl) (by kernel_rfl) (by exact fun _ _ _ h => h) (by first | (refine Or.inl ⟨by rfl, ?_⟩; intro W hW; go_simp; try with_reducible rfl) | exact Or.inr ⟨by rfl, rfl⟩) ?_; try simp only [Act.put, List.setIfInBounds_toArray, List.set_cons_zero, List.set_cons_succ])
            (refine takeE Ext.tr 1 (by simp only [List.getElem?_toArray, List.getElem?_cons_succ, List.getElem?_cons_zero]; rfl) (by kernel_rfl) (by kernel_rfl) (by kernel_rfl) (by exact fun _ _ _ h => h) (by first | (refine Or.inl ⟨by rfl, ?_⟩; intro W hW; go_simp; try with_reducible rfl) | exact Or.inr ⟨by rfl, rfl⟩) ?_; try simp only [Act.put, List.setIfInBounds_toArray, List.set_cons_zero, List.set_cons_succ])
            (refine takeE Ext.tr 2 (by simp only [List.getElem?_toArray, List.getElem?_cons_succ, List.getElem?_cons_zero]; rfl) (by kernel_rfl) (by kernel_rfl) (by kernel_rfl) (by exact fun _ _ _ h => h) (by first | (refine Or.inl ⟨by rfl, ?_⟩; intro W hW; go_simp; try with_reducible rfl) | exact Or.inr ⟨by rfl, rfl⟩) ?_; try simp only [Act.put, List.setIfInBounds_toArray, List.set_cons_zero, List.set_cons_succ])
            (refine takeE Ext.tr 6 (by simp only [List.getElem?_toArray, List.getElem?_cons_succ, List.getElem?_cons_zero]; rfl) (by kernel_rfl) (by kernel_rfl) (by kernel_rfl) (by exact fun _ _ _ h => h) (by first | (refine Or.inl ⟨by rfl, ?_⟩; intro W hW; go_simp; try with_reducible rfl) | exact Or.inr ⟨by rfl, rfl⟩) ?_; try simp only [Act.put, List.setIfInBounds_toArray, List.set_cons_zero, List.set_cons_succ])
            (refine takeE Ext.tr 7 (by simp only [List.getElem?_toArray, List.getElem?_cons_succ, List.getElem?_cons_zero]; rfl) (by kernel_rfl) (by kernel_rfl) (by kernel_rfl) (by exact fun _ _ _ h => h) (by first | (refine Or.inl ⟨by rfl, ?_⟩; intro W hW; go_simp; try with_reducible rfl) | exact Or.inr ⟨by rfl, rfl⟩) ?_; try simp only [Act.put, List.setIfInBounds_toArray, List.set_cons_zero, List.set_cons_succ])
            (refine takeE Ext.tr 8 (by simp only [List.getElem?_toArray, List.getElem?_cons_succ, List.getElem?_cons_zero]; rfl) (by kernel_rfl) (by kernel_rfl) (by kernel_rfl) (by exact fun _ _ _ h => h) (by first | (refine Or.inl ⟨by rfl, ?_⟩; intro W hW; go_simp; try with_reducible rfl) | exact Or.inr ⟨by rfl, rfl⟩) ?_; try simp only [Act.put, List.setIfInBounds_toArray, List.set_cons_zero, List.set_cons_succ])
            (refine takeE Ext.tr 13 (by simp only [List.getElem?_toArray, List.getElem?_cons_succ, List.getElem?_cons_zero]; rfl) (by kernel_rfl) (by kernel_rfl) (by kernel_rfl) (by exact fun _ _ _ h => h) (by first | (refine Or.inl ⟨by rfl, ?_⟩; intro W hW; go_simp; try with_reducible rfl) | exact Or.inr ⟨by rfl, rfl⟩) ?_; try simp only [Act.put, List.setIfInBounds_toArray, List.set_cons_zero, List.set_cons_succ])
            (refine takeE Ext.tr 14 (by simp only [List.getElem?_toArray, List.getElem?_cons_succ, List.getElem?_cons_zero]; rfl) (by kernel_rfl) (by kernel_rfl) (by kernel_rfl) (by exact fun _ _ _ h => h) (by first | (refine Or.inl ⟨by rfl, ?_⟩; intro W hW; go_simp; try with_reducible rfl) | exact Or.inr ⟨by rfl, rfl⟩) ?_; try simp only [Act.put, List.setIfInBounds_toArray, List.set_cons_zero, List.set_cons_succ])
            (refine takeE Ext.tr 3 (by simp only [List.getElem?_toArray, List.getElem?_cons_succ, List.getElem?_cons_zero]; rfl) (by kernel_rfl) (by kernel_rfl) (by kernel_rfl) (by exact fun _ _ _ h => h) (by first | (refine Or.inl ⟨by rfl, ?_⟩; intro W hW; go_simp; try with_reducible rfl) | exact Or.inr ⟨by rfl, rfl⟩) ?_; try simp only [Act.put, List.setIfInBounds_toArray, List.set_cons_zero, List.set_cons_succ])
            (refine takeE Ext.tr 9 (by simp only [List.getElem?_toArray, List.getElem?_cons_succ, List.getElem?_cons_zero]; rfl) (by kernel_rfl) (by kernel_rfl) (by kernel_rfl) (by exact fun _ _ _ h => h) (by first | (refine Or.inl ⟨by rfl, ?_⟩; intro W hW; go_simp; try with_reducible rfl) | exact Or.inr ⟨by rfl, rfl⟩) ?_; try simp only [Act.put, List.setIfInBounds_toArray, List.set_cons_zero, List.set_cons_succ])
            (refine takeE Ext.tr 15 (by simp only [List.getElem?_toArray, List.getElem?_cons_succ, List.getElem?_cons_zero]; rfl) (by kernel_rfl) (by kernel_rfl) (by kernel_rfl) (by exact fun _ _ _ h => h) (by first | (refine Or.inl ⟨by rfl, ?_⟩; intro W hW; go_simp; try with_reducible rfl) | exact Or.inr ⟨by rfl, rfl⟩) ?_; try simp only [Act.put, List.setIfInBounds_toArray, List.set_cons_zero, List.set_cons_succ])
            (refine takeE Ext.tr 4 (by simp only [List.getElem?_toArray, List.getElem?_cons_succ, List.getElem?_cons_zero]; rfl) (by kernel_rfl) (by kernel_rfl) (by kernel_rfl) (by exact fun _ _ _ h => h) (by first | (refine Or.inl ⟨by rfl, ?_⟩; intro W hW; go_simp; try with_reducible rfl) | exact Or.inr ⟨by rfl, rfl⟩) ?_; try simp only [Act.put, List.setIfInBounds_toArray, List.set_cons_zero, List.set_cons_succ])
            (refine takeE Ext.tr 10 (by simp only [List.getElem?_toArray, List.getElem?_cons_succ, List.getElem?_cons_zero]; rfl) (by kernel_rfl) (by kernel_rfl) (by kernel_rfl) (by exact fun _ _ _ h => h) (by first | (refine Or.inl ⟨by rfl, ?_⟩; intro W hW; go_simp; try with_reducible rfl) | exact Or.inr ⟨by rfl, rfl⟩) ?_; try simp only [Act.put, List.setIfInBounds_toArray, List.set_cons_zero, List.set_cons_succ])
            (refine takeE Ext.tr 16 (by simp only [List.getElem?_toArray, List.getElem?_cons_succ, List.getElem?_cons_zero]; rfl) (by kernel_rfl) (by kernel_rfl) (by kernel_rfl) (by exact fun _ _ _ h => h) (by first | (refine Or.inl ⟨by rfl, ?_⟩; intro W hW; go_simp; try with_reducible rfl) | exact Or.inr ⟨by rfl, rfl⟩) ?_; try simp only [Act.put, List.setIfInBounds_toArray, List.set_cons_zero, List.set_cons_succ])
            refine wpAnyE_one (i := 5) (by kernel_rfl) (by simp only [List.getElem?_toArray, List.getElem?_cons_succ, List.getElem?_cons_zero]; rfl) (fun K hK => ?_)
            go_simp
            refine (n_issued (HJd.out.q.next hE) nB).mono ?_
            rintro en u12 ⟨rfl, hE2⟩
            have hE3 := hE2
            clear q0 q1 q2
            replace hE := below_on hE hE2
            have q0 : ∀ V, Ext u12 V → V.cell? ⟨gk, 2, none⟩ = some (.int .i64 4) := fun V hV => (HJd.out.zk.below (below_on hE hV)).cell 2 rfl
            have q1 : ∀ V, Ext u12 V → V.cell? ⟨gk, 3, none⟩ = some (.int .i64 1) := fun V hV => (HJd.out.zk.below (below_on hE hV)).cell 3 rfl
            have q2 : ∀ V, Ext u12 V → V.cell? ⟨gw, 1, none⟩ = some (.int .i64 b2) := fun V hV => (HJd.out.zw.below (below_on hE hV)).cell 1 rfl
            clear hE2
            refine hK.out _ _ hE3 ?_
            clear hK K
            try simp only [Act.put, List.setIfInBounds_toArray, List.set_cons_zero, List.set_cons_succ]
            refine wpAnyE_one (i := 11) (by kernel_rfl) (by simp only [List.getElem?_toArray, List.getElem?_cons_succ, List.getElem?_cons_zero]; rfl) (fun K hK => ?_)
            go_simp
            refine (n_pending (HJd.out.q.next hE) nB).mono ?_
            rintro en u13 ⟨rfl, hE2⟩
            have hE3 := hE2
            clear q0 q1 q2
            replace hE := below_on hE hE2
            have q0 : ∀ V, Ext u13 V → V.cell? ⟨gk, 2, none⟩ = some (.int .i64 4) := fun V hV => (HJd.out.zk.below (below_on hE hV)).cell 2 rfl
            have q1 : ∀ V, Ext u13 V → V.cell? ⟨gk, 3, none⟩ = some (.int .i64 1) := fun V hV => (HJd.out.zk.below (below_on hE hV)).cell 3 rfl
            have q2 : ∀ V, Ext u13 V → V.cell? ⟨gw, 1, none⟩ = some (.int .i64 b2) := fun V hV => (HJd.out.zw.below (below_on hE hV)).cell 1 rfl
            clear hE2
            refine hK.out _ _ hE3 ?_
            clear hK K
            try simp only [Act.put, List.setIfInBounds_toArray, List.set_cons_zero, List.set_cons_succ]
            (refine takeE Ext.tr 12 (by simp only [List.getElem?_toArray, List.getElem?_cons_succ, List.getElem?_cons_zero]; rfl) (by kernel_rfl) (by kernel_rfl) (by kernel_rfl) (by exact fun _ _ _ h => h) (by first | (refine Or.inl ⟨by rfl, ?_⟩; intro W hW; go_simp; try with_reducible rfl) | exact Or.inr ⟨by rfl, rfl⟩) ?_; try simp only [Act.put, List.setIfInBounds_toArray, List.set_cons_zero, List.set_cons_succ])
            (refine takeE Ext.tr 17 (by simp only [List.getElem?_toArray, List.getElem?_cons_succ, List.getElem?_cons_zero]; rfl) (by kernel_rfl) (by kernel_rfl) (by kernel_rfl) (by exact fun _ _ _ h => h) (by first | (refine Or.inl ⟨by rfl, ?_⟩; intro W hW; go_simp; try with_reducible rfl) | exact Or.inr ⟨by rfl, rfl⟩) ?_; try simp only [Act.put, List.setIfInBounds_toArray, List.set_cons_zero, List.set_cons_succ])
            (refine takeE Ext.tr 18 (by simp only [List.getElem?_toArray, List.getElem?_cons_succ, List.getElem?_cons_zero]; rfl) (by kernel_rfl) (by kernel_rfl) (by kernel_rfl) (by exact fun _ _ _ h => h) (by first | (refine Or.inl ⟨by rfl, ?_⟩; intro W hW; go_simp; try with_reducible rfl) | exact Or.inr ⟨by rfl, rfl⟩) ?_; try simp only [Act.put, List.setIfInBounds_toArray, List.set_cons_zero, List.set_cons_succ])
            (refine takeE Ext.tr 19 (by simp only [List.getElem?_toArray, List.getElem?_cons_succ, List.getElem?_cons_zero]; rfl) (by kernel_rfl) (by kernel_rfl) (by kernel_rfl) (by exact fun _ _ _ h => h) (by first | (refine Or.inl ⟨by rfl, ?_⟩; intro W hW; go_simp; try with_reducible rfl) | exact Or.inr ⟨by rfl, rfl⟩) ?_; try simp only [Act.put, List.setIfInBounds_toArray, List.set_cons_zero, List.set_cons_succ])
            (refine takeE Ext.tr 20 (by simp only [List.getElem?_toArray, List.getElem?_cons_succ, List.getElem?_cons_zero]; rfl) (by kernel_rfl) (by kernel_rfl) (by kernel_rfl) (by exact fun _ _ _ h => h) (by first | (refine Or.inl ⟨by rfl, ?_⟩; intro W hW; go_simp; try with_reducible rfl) | exact Or.inr ⟨by rfl, rfl⟩) ?_; try simp only [Act.put, List.setIfInBounds_toArray, List.set_cons_zero, List.set_cons_succ])
            (refine takeE Ext.tr 21 (by simp only [List.getElem?_toArray, List.getElem?_cons_succ, List.getElem?_cons_zero]; rfl) (by kernel_rfl) (by kernel_rfl) (by kernel_rfl) (by exact fun _ _ _ h => h) (by first | (refine Or.inl ⟨by rfl, ?_⟩; intro W hW; go_simp; try with_reducible rfl) | exact Or.inr ⟨by rfl, rfl⟩) ?_; try simp only [Act.put, List.setIfInBounds_toArray, List.set_cons_zero, List.set_cons_succ])
            (refine takeE Ext.tr 22 (by simp only [List.getElem?_toArray, List.getElem?_cons_succ, List.getElem?_cons_zero]; rfl) (by kernel_rfl) (by kernel_rfl) (by kernel_rfl) (by exact fun _ _ _ h => h) (by first | (refine Or.inl ⟨by rfl, ?_⟩; intro W hW; go_simp; try with_reducible rfl) | exact Or.inr ⟨by rfl, rfl⟩) ?_; try simp only [Act.put, List.setIfInBounds_toArray, List.set_cons_zero, List.set_cons_succ])
            (refine takeE Ext.tr 23 (by simp only [List.getElem?_toArray, List.getElem?_cons_succ, List.getElem?_cons_zero]; rfl) (by kernel_rfl) (by kernel_rfl) (by kernel_rfl) (by exact fun _ _ _ h => h) (by first | (refine Or.inl ⟨by rfl, ?_⟩; intro W hW; go_simp; try with_reducible rfl) | exact Or.inr ⟨by rfl, rfl⟩) ?_; try simp only [Act.put, List.setIfInBounds_toArray, List.set_cons_zero, List.set_cons_succ])
            refine wpAnyE_one (i := 24) (by kernel_rfl) (by simp only [List.getElem?_toArray, List.getElem?_cons_succ, List.getElem?_cons_zero]; rfl) (fun K hK => ?_)
            go_simp
            refine (n_pending (HJd.out.q.next hE) nB).mono ?_
            rintro en u14 ⟨rfl, hE2⟩
            have hE3 := hE2
            clear q0 q1 q2
            replace hE := below_on hE hE2
            have q0 : ∀ V, Ext u14 V → V.cell? ⟨gk, 2, none⟩ = some (.int .i64 4) := fun V hV => (HJd.out.zk.below (below_on hE hV)).cell 2 rfl
            have q1 : ∀ V, Ext u14 V → V.cell? ⟨gk, 3, none⟩ = some (.int .i64 1) := fun V hV => (HJd.out.zk.below (below_on hE hV)).cell 3 rfl
            have q2 : ∀ V, Ext u14 V → V.cell? ⟨gw, 1, none⟩ = some (.int .i64 b2) := fun V hV => (HJd.out.zw.below (below_on hE hV)).cell 1 rfl
            clear hE2
            refine hK.out _ _ hE3 ?_
            clear hK K
            try simp only [Act.put, List.setIfInBounds_toArray, List.set_cons_zero, List.set_cons_succ]
            (refine takeE Ext.tr 25 (by simp only [List.getElem?_toArray, List.getElem?_cons_succ, List.getElem?_cons_zero]; rfl) (by kernel_rfl) (by kernel_rfl) (by kernel_rfl) (by exact fun _ _ _ h => h) (by first | (refine Or.inl ⟨by rfl, ?_⟩; intro W hW; go_simp; try with_reducible rfl) | exact Or.inr ⟨by rfl, rfl⟩) ?_; try simp only [Act.put, List.setIfInBounds_toArray, List.set_cons_zero, List.set_cons_succ])
            (refine takeE Ext.tr 26 (by simp only [List.getElem?_toArray, List.getElem?_cons_succ, List.getElem?_cons_zero]; rfl) (by kernel_rfl) (by kernel_rfl) (by kernel_rfl) (by exact fun _ _ _ h => h) (by first | (refine Or.inl ⟨by rfl, ?_⟩; intro W hW; go_simp; try with_reducible rfl) | exact Or.inr ⟨by rfl, rfl⟩) ?_; try simp only [Act.put, List.setIfInBounds_toArray, List.set_cons_zero, List.set_cons_succ])
            refine wpAnyE_done (by kernel_rfl) ?_ _
            clear q0 q1 q2
            have HJf := Lib.hid (HJd.out.below hE)
            clear hE
            go_wp2
            go_roundw
            case rel => exact ⟨2, rfl, by omega, HJf.out⟩
            case measure => simp [intOf]
          · go_wp2_with fail
            refine wp_region_E Ext (by kernel_rfl) (fun wd hbd hsz => ?_)
            have HJd := Lib.hid (HJe.out.below hbd)
            have hE : Below wd.heap.size wd wd := Below.refl _ _
            have q0 : ∀ V, Ext wd V → V.cell? ⟨gk, 0, none⟩ = some (.int .i64 2) := fun V hV => (HJd.out.zk.below (below_on hE hV)).cell 0 rfl
            have q1 : ∀ V, Ext wd V → V.cell? ⟨gk, 1, none⟩ = some (.int .i64 3) := fun V hV => (HJd.out.zk.below (below_on hE hV)).cell 1 rfl
            have q2 : ∀ V, Ext wd V → V.cell? ⟨gk, 2, none⟩ = some (.int .i64 4) := fun V hV => (HJd.out.zk.below (below_on hE hV)).cell 2 rfl
            have q3 : ∀ V, Ext wd V → V.cell? ⟨gk, 3, none⟩ = some (.int .i64 1) := fun V hV => (HJd.out.zk.below (below_on hE hV)).cell 3 rfl
            clear hsz
            (refine takeE Ext.tr 0 (by simp only [List.getElem?_toArray, List.getElem?_cons_succ, List.getElem?_cons_zero]; rfl) (by kernel_rfl) (by kernel_rfl) (by kernel_rfl) (by exact fun _ _ _ h => h) (by first | (refine Or.inl ⟨by rfl, ?_⟩; intro W hW; go_simp; try with_reducible rfl) | exact Or.inr ⟨by rfl, rfl⟩) ?_; try simp only [Act.put, List.setIfInBounds_toArray, List.set_cons_zero, List.set_cons_succ])
            (refine takeE Ext.tr 1 (by simp only [List.getElem?_toArray, List.getElem?_cons_succ, List.getElem?_cons_zero]; rfl) (by kernel_rfl) (by kernel_rfl) (by kernel_rfl) (by exact fun _ _ _ h => h) (by first | (refine Or.inl ⟨by rfl, ?_⟩; intro W hW; go_simp; try with_reducible rfl) | exact Or.inr ⟨by rfl, rfl⟩) ?_; try simp only [Act.put, List.setIfInBounds_toArray, List.set_cons_zero, List.set_cons_succ])
            (refine takeE Ext.tr 5 (by simp only [List.getElem?_toArray, List.getElem?_cons_succ, List.getElem?_cons_zero]; rfl) (by kernel_rfl) (by kernel_rfl) (by kernel_rfl) (by exact fun _ _ _ h => h) (by first | (refine Or.inl ⟨by rfl, ?_⟩; intro W hW; go_simp; try with_reducible rfl) | exact Or.inr ⟨by rfl, rfl⟩) ?_; try simp only [Act.put, List.setIfInBounds_toArray, List.set_cons_zero, List.set_cons_succ])
            (refine takeE Ext.tr 6 (by simp only [List.getElem?_toArray, List.getElem?_cons_succ, List.getElem?_cons_zero]; rfl) (by kernel_rfl) (by kernel_rfl) (by kernel_rfl) (by exact fun _ _ _ h => h) (by first | (refine Or.inl ⟨by rfl, ?_⟩; intro W hW; go_simp; try with_reducible rfl) | exact Or.inr ⟨by rfl, rfl⟩) ?_; try simp only [Act.put, List.setIfInBounds_toArray, List.set_cons_zero, List.set_cons_succ])
            (refine takeE Ext.tr 11 (by simp only [List.getElem?_toArray, List.getElem?_cons_succ, List.getElem?_cons_zero]; rfl) (by kernel_rfl) (by kernel_rfl) (by kernel_rfl) (by exact fun _ _ _ h => h) (by first | (refine Or.inl ⟨by rfl, ?_⟩; intro W hW; go_simp; try with_reducible rfl) | exact Or.inr ⟨by rfl, rfl⟩) ?_; try simp only [Act.put, List.setIfInBounds_toArray, List.set_cons_zero, List.set_cons_succ])
            (refine takeE Ext.tr 2 (by simp only [List.getElem?_toArray, List.getElem?_cons_succ, List.getElem?_cons_zero]; rfl) (by kernel_rfl) (by kernel_rfl) (by kernel_rfl) (by exact fun _ _ _ h => h) (by first | (refine Or.inl ⟨by rfl, ?_⟩; intro W hW; go_simp; try with_reducible rfl) | exact Or.inr ⟨by rfl, rfl⟩) ?_; try simp only [Act.put, List.setIfInBounds_toArray, List.set_cons_zero, List.set_cons_succ])
            (refine takeE Ext.tr 7 (by simp only [List.getElem?_toArray, List.getElem?_cons_succ, List.getElem?_cons_zero]; rfl) (by kernel_rfl) (by kernel_rfl) (by kernel_rfl) (by exact fun _ _ _ h => h) (by first | (refine Or.inl ⟨by rfl, ?_⟩; intro W hW; go_simp; try with_reducible rfl) | exact Or.inr ⟨by rfl, rfl⟩) ?_; try simp only [Act.put, List.setIfInBounds_toArray, List.set_cons_zero, List.set_cons_succ])
            (refine takeE Ext.tr 3 (by simp only [List.getElem?_toArray, List.getElem?_cons_succ, List.getElem?_cons_zero]; rfl) (by kernel_rfl) (by kernel_rfl) (by kernel_rfl) (by exact fun _ _ _ h => h) (by first | (refine Or.inl ⟨by rfl, ?_⟩; intro W hW; go_simp; try with_reducible rfl) | exact Or.inr ⟨by rfl, rfl⟩) ?_; try simp only [Act.put, List.setIfInBounds_toArray, List.set_cons_zero, List.set_cons_succ])
            (refine takeE Ext.tr 8 (by simp only [List.getElem?_toArray, List.getElem?_cons_succ, List.getElem?_cons_zero]; rfl) (by kernel_rfl) (by kernel_rfl) (by kernel_rfl) (by exact fun _ _ _ h => h) (by first | (refine Or.inl ⟨by rfl, ?_⟩; intro W hW; go_simp; try with_reducible rfl) | exact Or.inr ⟨by rfl, rfl⟩) ?_; try simp only [Act.put, List.setIfInBounds_toArray, List.set_cons_zero, List.set_cons_succ])
            refine wpAnyE_one (i := 4) (by kernel_rfl) (by simp only [List.getElem?_toArray, List.getElem?_cons_succ, List.getElem?_cons_zero]; rfl) (fun K hK => ?_)
            go_simp
            refine (n_issued (HJd.out.q.next hE) nA).mono ?_
            rintro en u15 ⟨rfl, hE2⟩
            have hE3 := hE2
            clear q0 q1 q2 q3
            replace hE := below_on hE hE2
            have q0 : ∀ V, Ext u15 V → V.cell? ⟨gk, 0, none⟩ = some (.int .i64 2) := fun V hV => (HJd.out.zk.below (below_on hE hV)).cell 0 rfl
            have q1 : ∀ V, Ext u15 V → V.cell? ⟨gk, 1, none⟩ = some (.int .i64 3) := fun V hV => (HJd.out.zk.below (below_on hE hV)).cell 1 rfl
            have q2 : ∀ V, Ext u15 V → V.cell? ⟨gk, 2, none⟩ = some (.int .i64 4) := fun V hV => (HJd.out.zk.below (below_on hE hV)).cell 2 rfl
            have q3 : ∀ V, Ext u15 V → V.cell? ⟨gk, 3, none⟩ = some (.int .i64 1) := fun V hV => (HJd.out.zk.below (below_on hE hV)).cell 3 rfl
            clear hE2
            refine hK.out _ _ hE3 ?_
            clear hK K
            try simp only [Act.put, List.setIfInBounds_toArray, List.set_cons_zero, List.set_cons_succ]
            refine wpAnyE_one (i := 9) (by kernel_rfl) (by simp only [List.getElem?_toArray, List.getElem?_cons_succ, List.getElem?_cons_zero]; rfl) (fun K hK => ?_)
            go_simp
            refine (n_issued (HJd.out.q.next hE) nB).mono ?_
            rintro en u16 ⟨rfl, hE2⟩
            have hE3 := hE2
            clear q0 q1 q2 q3
            replace hE := below_on hE hE2
            have q0 : ∀ V, Ext u16 V → V.cell? ⟨gk, 0, none⟩ = some (.int .i64 2) := fun V hV => (HJd.out.zk.below (below_on hE hV)).cell 0 rfl
            have q1 : ∀ V, Ext u16 V → V.cell? ⟨gk, 1, none⟩ = some (.int .i64 3) := fun V hV => (HJd.out.zk.below (below_on hE hV)).cell 1 rfl
            have q2 : ∀ V, Ext u16 V → V.cell? ⟨gk, 2, none⟩ = some (.int .i64 4) := fun V hV => (HJd.out.zk.below (below_on hE hV)).cell 2 rfl
            have q3 : ∀ V, Ext u16 V → V.cell? ⟨gk, 3, none⟩ = some (.int .i64 1) := fun V hV => (HJd.out.zk.below (below_on hE hV)).cell 3 rfl
            clear hE2
            refine hK.out _ _ hE3 ?_
            clear hK K
            try simp only [Act.put, List.setIfInBounds_toArray, List.set_cons_zero, List.set_cons_succ]
            (refine takeE Ext.tr 10 (by simp only [List.getElem?_toArray, List.getElem?_cons_succ, List.getElem?_cons_zero]; rfl) (by kernel_rfl) (by kernel_rfl) (by kernel_rfl) (by exact fun _ _ _ h => h) (by first | (refine Or.inl ⟨by rfl, ?_⟩; intro W hW; go_simp; try with_reducible rfl) | exact Or.inr ⟨by rfl, rfl⟩) ?_; try simp only [Act.put, List.setIfInBounds_toArray, List.set_cons_zero, List.set_cons_succ])
            refine wpAnyE_one (i := 12) (by kernel_rfl) (by simp only [List.getElem?_toArray, List.getElem?_cons_succ, List.getElem?_cons_zero]; rfl) (fun K hK => ?_)
            go_simp
            refine (n_total (HJd.out.q.next hE)).mono ?_
            rintro en v1 ⟨rfl, rfl⟩
            refine hK.out _ _ (Ext.refl _) ?_
            clear hK K
            try simp only [Act.put, List.setIfInBounds_toArray, List.set_cons_zero, List.set_cons_succ]
            (refine takeE Ext.tr 13 (by simp only [List.getElem?_toArray, List.getElem?_cons_succ, List.getElem?_cons_zero]; rfl) (by kernel_rfl) (by kernel_rfl) (by kernel_rfl) (by exact fun _ _ _ h => h) (by first | (refine Or.inl ⟨by rfl, ?_⟩; intro W hW; go_simp; try with_reducible rfl) | exact Or.inr ⟨by rfl, rfl⟩) ?_; try simp only [Act.put, List.setIfInBounds_toArray, List.set_cons_zero, List.set_cons_succ])
            refine wpAnyE_done (by kernel_rfl) ?_ _
            clear q0 q1 q2 q3
            have HJf := Lib.hid (HJd.out.below hE)
            clear hE
            go_wp2
            go_roundw
            case rel => exact ⟨k + 1, _, _, _, by go_num, by omega, HJf.out⟩
            case measure => simp [intOf]; omega
      · have ho := HJ.out.nm.tick
        obtain ⟨v1, v2, v3, v4, v5, v6, v7⟩ := HJ.out.nm.see
        have HO := Lib.hid ho
        have htb : m.total ≤ 4611686018427387903 := by omega
        have y1 := wraps_i64 ((ofKey m.L nA).p + (ofKey m.L nB).p) (by omega) (by omega)
        clear ho a0 a1 a2 a3
        by_cases hpw : 0 < (ofKey m.L nA).p + (ofKey m.L nB).p
        all_goals
          go_wp2_with fail
          refine wp_region_E Ext (by kernel_rfl) (fun wd hbd hsz => ?_)
          have HJd := Lib.hid (HJ.out.below hbd)
          have hE : Below wd.heap.size wd wd := Below.refl _ _
          have q0 : ∀ V, Ext wd V → V.cell? ⟨gk, 0, none⟩ = some (.int .i64 2) := fun V hV => (HJd.out.zk.below (below_on hE hV)).cell 0 rfl
          have q1 : ∀ V, Ext wd V → V.cell? ⟨gk, 1, none⟩ = some (.int .i64 3) := fun V hV => (HJd.out.zk.below (below_on hE hV)).cell 1 rfl
          have q2 : ∀ V, Ext wd V → V.cell? ⟨gk, 2, none⟩ = some (.int .i64 4) := fun V hV => (HJd.out.zk.below (below_on hE hV)).cell 2 rfl
          have q3 : ∀ V, Ext wd V → V.cell? ⟨gk, 3, none⟩ = some (.int .i64 1) := fun V hV => (HJd.out.zk.below (below_on hE hV)).cell 3 rfl
          clear hsz
          (refine takeE Ext.tr 0 (by simp only [List.getElem?_toArray, List.getElem?_cons_succ, List.getElem?_cons_zero]; rfl) (by kernel_rfl) (by kernel_rfl) (by kernel_rfl) (by exact fun _ _ _ h => h) (by first | (refine Or.inl ⟨by rfl, ?_⟩; intro W hW; go_simp; try with_reducible rfl) | exact Or.inr ⟨by rfl, rfl⟩) ?_; try simp only [Act.put, List.setIfInBounds_toArray, List.set_cons_zero, List.set_cons_succ])
          (refine takeE Ext.tr 1 (by simp only [List.getElem?_toArray, List.getElem?_cons_succ, List.getElem?_cons_zero]; rfl) (by kernel_rfl) (by kernel_rfl) (by kernel_rfl) (by exact fun _ _ _ h => h) (by first | (refine Or.inl ⟨by rfl, ?_⟩; intro W hW; go_simp; try with_reducible rfl) | exact Or.inr ⟨by rfl, rfl⟩) ?_; try simp only [Act.put, List.setIfInBounds_toArray, List.set_cons_zero, List.set_cons_succ])
          (refine takeE Ext.tr 5 (by simp only [List.getElem?_toArray, List.getElem?_cons_succ, List.getElem?_cons_zero]; rfl) (by kernel_rfl) (by kernel_rfl) (by kernel_rfl) (by exact fun _ _ _ h => h) (by first | (refine Or.inl ⟨by rfl, ?_⟩; intro W hW; go_simp; try with_reducible rfl) | exact Or.inr ⟨by rfl, rfl⟩) ?_; try simp only [Act.put, List.setIfInBounds_toArray, List.set_cons_zero, List.set_cons_succ])
          (refine takeE Ext.tr 6 (by simp only [List.getElem?_toArray, List.getElem?_cons_succ, List.getElem?_cons_zero]; rfl) (by kernel_rfl) (by kernel_rfl) (by kernel_rfl) (by exact fun _ _ _ h => h) (by first | (refine Or.inl ⟨by rfl, ?_⟩; intro W hW; go_simp; try with_reducible rfl) | exact Or.inr ⟨by rfl, rfl⟩) ?_; try simp only [Act.put, List.setIfInBounds_toArray, List.set_cons_zero, List.set_cons_succ])
          (refine takeE Ext.tr 2 (by simp only [List.getElem?_toArray, List.getElem?_cons_succ, List.getElem?_cons_zero]; rfl) (by kernel_rfl) (by kernel_rfl) (by kernel_rfl) (by exact fun _ _ _ h => h) (by first | (refine Or.inl ⟨by rfl, ?_⟩; intro W hW; go_simp; try with_reducible rfl) | exact Or.inr ⟨by rfl, rfl⟩) ?_; try simp only [Act.put, List.setIfInBounds_toArray, List.set_cons_zero, List.set_cons_succ])
          (refine takeE Ext.tr 7 (by simp only [List.getElem?_toArray, List.getElem?_cons_succ, List.getElem?_cons_zero]; rfl) (by kernel_rfl) (by kernel_rfl) (by kernel_rfl) (by exact fun _ _ _ h => h) (by first | (refine Or.inl ⟨by rfl, ?_⟩; intro W hW; go_simp; try with_reducible rfl) | exact Or.inr ⟨by rfl, rfl⟩) ?_; try simp only [Act.put, List.setIfInBounds_toArray, List.set_cons_zero, List.set_cons_succ])
          (refine takeE Ext.tr 3 (by simp only [List.getElem?_toArray, List.getElem?_cons_succ, List.getElem?_cons_zero]; rfl) (by kernel_rfl) (by kernel_rfl) (by kernel_rfl) (by exact fun _ _ _ h => h) (by first | (refine Or.inl ⟨by rfl, ?_⟩; intro W hW; go_simp; try with_reducible rfl) | exact Or.inr ⟨by rfl, rfl⟩) ?_; try simp only [Act.put, List.setIfInBounds_toArray, List.set_cons_zero, List.set_cons_succ])
          (refine takeE Ext.tr 8 (by simp only [List.getElem?_toArray, List.getElem?_cons_succ, List.getElem?_cons_zero]; rfl) (by kernel_rfl) (by kernel_rfl) (by kernel_rfl) (by exact fun _ _ _ h => h) (by first | (refine Or.inl ⟨by rfl, ?_⟩; intro W hW; go_simp; try with_reducible rfl) | exact Or.inr ⟨by rfl, rfl⟩) ?_; try simp only [Act.put, List.setIfInBounds_toArray, List.set_cons_zero, List.set_cons_succ])
          refine wpAnyE_one (i := 4) (by kernel_rfl) (by simp only [List.getElem?_toArray, List.getElem?_cons_succ, List.getElem?_cons_zero]; rfl) (fun K hK => ?_)
          go_simp
          refine (n_pending (HJd.out.q.next hE) nA).mono ?_
          rintro en u25 ⟨rfl, hE2⟩
          have hE3 := hE2
          clear q0 q1 q2 q3
          replace hE := below_on hE hE2
          have q0 : ∀ V, Ext u25 V → V.cell? ⟨gk, 0, none⟩ = some (.int .i64 2) := fun V hV => (HJd.out.zk.below (below_on hE hV)).cell 0 rfl
          have q1 : ∀ V, Ext u25 V → V.cell? ⟨gk, 1, none⟩ = some (.int .i64 3) := fun V hV => (HJd.out.zk.below (below_on hE hV)).cell 1 rfl
          have q2 : ∀ V, Ext u25 V → V.cell? ⟨gk, 2, none⟩ = some (.int .i64 4) := fun V hV => (HJd.out.zk.below (below_on hE hV)).cell 2 rfl
          have q3 : ∀ V, Ext u25 V → V.cell? ⟨gk, 3, none⟩ = some (.int .i64 1) := fun V hV => (HJd.out.zk.below (below_on hE hV)).cell 3 rfl
          clear hE2
          refine hK.out _ _ hE3 ?_
          clear hK K
          try simp only [Act.put, List.setIfInBounds_toArray, List.set_cons_zero, List.set_cons_succ]
          refine wpAnyE_one (i := 9) (by kernel_rfl) (by simp only [List.getElem?_toArray, List.getElem?_cons_succ, List.getElem?_cons_zero]; rfl) (fun K hK => ?_)
          go_simp
          refine (n_pending (HJd.out.q.next hE) nB).mono ?_
          rintro en u26 ⟨rfl, hE2⟩
          have hE3 := hE2
          clear q0 q1 q2 q3
          replace hE := below_on hE hE2
          have q0 : ∀ V, Ext u26 V → V.cell? ⟨gk, 0, none⟩ = some (.int .i64 2) := fun V hV => (HJd.out.zk.below (below_on hE hV)).cell 0 rfl
          have q1 : ∀ V, Ext u26 V → V.cell? ⟨gk, 1, none⟩ = some (.int .i64 3) := fun V hV => (HJd.out.zk.below (below_on hE hV)).cell 1 rfl
          have q2 : ∀ V, Ext u26 V → V.cell? ⟨gk, 2, none⟩ = some (.int .i64 4) := fun V hV => (HJd.out.zk.below (below_on hE hV)).cell 2 rfl
          have q3 : ∀ V, Ext u26 V → V.cell? ⟨gk, 3, none⟩ = some (.int .i64 1) := fun V hV => (HJd.out.zk.below (below_on hE hV)).cell 3 rfl
          clear hE2
          refine hK.out _ _ hE3 ?_
          clear hK K
          try simp only [Act.put, List.setIfInBounds_toArray, List.set_cons_zero, List.set_cons_succ]
          (refine takeE Ext.tr 10 (by simp only [List.getElem?_toArray, List.getElem?_cons_succ, List.getElem?_cons_zero]; rfl) (by kernel_rfl) (by kernel_rfl) (by kernel_rfl) (by exact fun _ _ _ h => h) (by first | (refine Or.inl ⟨by rfl, ?_⟩; intro W hW; go_simp; try with_reducible rfl) | exact Or.inr ⟨by rfl, rfl⟩) ?_; try simp only [Act.put, List.setIfInBounds_toArray, List.set_cons_zero, List.set_cons_succ])
          (refine takeE Ext.tr 11 (by simp only [List.getElem?_toArray, List.getElem?_cons_succ, List.getElem?_cons_zero]; rfl) (by kernel_rfl) (by kernel_rfl) (by kernel_rfl) (by exact fun _ _ _ h => h) (by first | (refine Or.inl ⟨by rfl, ?_⟩; intro W hW; go_simp; try with_reducible rfl) | exact Or.inr ⟨by rfl, rfl⟩) ?_; try simp only [Act.put, List.setIfInBounds_toArray, List.set_cons_zero, List.set_cons_succ])
          (refine takeE Ext.tr 12 (by simp only [List.getElem?_toArray, List.getElem?_cons_succ, List.getElem?_cons_zero]; rfl) (by kernel_rfl) (by kernel_rfl) (by kernel_rfl) (by exact fun _ _ _ h => h) (by first | (refine Or.inl ⟨by rfl, ?_⟩; intro W hW; go_simp; try with_reducible rfl) | exact Or.inr ⟨by rfl, rfl⟩) ?_; try simp only [Act.put, List.setIfInBounds_toArray, List.set_cons_zero, List.set_cons_succ])
          refine wpAnyE_done (by kernel_rfl) ?_ _
          clear q0 q1 q2 q3
          have HJf := Lib.hid (HJd.out.below hE)
          clear hE
          have HT := Lib.hid (n_tick HJf.out.q htb)
          rw [HO.out.1] at HT
          first
            | rw [decide_eq_true hpw] at HT
            | rw [decide_eq_false (show ¬ 0 < (ofKey m.L nA).p + (ofKey m.L nB).p by omega)] at HT
          go_wp2_with fail
          refine HT.out.mono ?_
          rintro en w6 ⟨rfl, h6, hk6⟩
          have hba : Below w6.heap.size w6 (w6.alloc (.cells #[.int .i64 m.tickR.2.1.s, .int .i64 m.tickR.2.1.c, .int .i64 m.tickR.2.2.1] 41)) := (Below.refl _ w6).alloc (Nat.le_refl _) _
          have HJ7 : Hid (NW w K (w.heap.size + 1) gk gw (k + 1) m.tickR.1 a b (w6.alloc (.cells #[.int .i64 m.tickR.2.1.s, .int .i64 m.tickR.2.1.c, .int .i64 m.tickR.2.2.1] 41))) := Lib.hid (NW.below ⟨h6, HO.out.2, HJf.out.zk.kp hk6 HK.out.1, HJf.out.zw.kp hk6 HK.out.2.1, by omega, by omega⟩ hba)
          clear h6 hk6 hba HT HJf HJd HJ HO
          go_wp2_with fail
          generalize w6.alloc (.cells #[.int .i64 m.tickR.2.1.s, .int .i64 m.tickR.2.1.c, .int .i64 m.tickR.2.2.1] 41) = w7 at *
          clear hpw v1 v2 v3 v4 v5 v6 v7 htb
          generalize m.tickR.1 = m2 at *
          clear ja jb hn1 e0 hx
          obtain ⟨v1, v2, v3, v4, v5, v6, v7⟩ := HJ7.out.nm.see
          have v8 := HJ7.out.ha
          have v9 := HJ7.out.hb
          have v10 := HLT.out
          have f1 : ((ofKey (m2).L nA).i + (ofKey (m2).L nA).p != a) = false := by simp; omega
          have f2 : ((ofKey (m2).L nB).i + (ofKey (m2).L nB).p != b) = false := by simp; omega
          have f3 : decide ((ofKey (m2).L nA).p < 0) = false := by simp; omega
          have f4 : decide ((ofKey (m2).L nB).p < 0) = false := by simp; omega
          have f5 : ((ofKey (m2).L nA).i + (ofKey (m2).L nB).i != (m2).total) = false := by simp; omega
          have v11 : (ofKey (m2).L nA).i ≤ 808 := by omega
          have v12 : (ofKey (m2).L nA).p ≤ 808 := by omega
          have v13 : (ofKey (m2).L nB).i ≤ 808 := by omega
          have v14 : (ofKey (m2).L nB).p ≤ 808 := by omega
          have y1 := wraps_i64 ((ofKey (m2).L nA).i + (ofKey (m2).L nA).p) (by omega) (by omega)
          have y2 := wraps_i64 ((ofKey (m2).L nB).i + (ofKey (m2).L nB).p) (by omega) (by omega)
          have y3 := wraps_i64 ((ofKey (m2).L nA).i + (ofKey (m2).L nB).i) (by omega) (by omega)
          clear v1 v2 v3 v8 v9 v10
          go_loopw [15] (fun j wr => ∃ (e : Nat), j = .int .i64 e ∧ e ≤ 2 ∧ NW w K (w.heap.size + 1) gk gw (k + 1) (m2) a b wr) (fun j _ => 2 - (intOf j).toNat)
          case atStart => exact ⟨0, rfl, by omega, HJ7.out⟩
          case round =>
            obtain ⟨e, rfl, he, hJe⟩ := hrel
            have HJe := Lib.hid hJe
            clear hJe HJ7
            rcases (by omega : e = 0 ∨ e = 1 ∨ e = 2) with rfl | rfl | rfl
            · go_wp2_with fail
              refine wp_region_E Ext (by kernel_rfl) (fun wd hbd hsz => ?_)
              have HJd := Lib.hid (HJe.out.below hbd)
              have hE : Below wd.heap.size wd wd := Below.refl _ _
              have q0 : ∀ V, Ext wd V → V.cell? ⟨gk, 0, none⟩ = some (.int .i64 2) := fun V hV => (HJd.out.zk.below (below_on hE hV)).cell 0 rfl
              have q1 : ∀ V, Ext wd V → V.cell? ⟨gk, 1, none⟩ = some (.int .i64 3) := fun V hV => (HJd.out.zk.below (below_on hE hV)).cell 1 rfl
              have q2 : ∀ V, Ext wd V → V.cell? ⟨gw, 0, none⟩ = some (.int .i64 a) := fun V hV => (HJd.out.zw.below (below_on hE hV)).cell 0 rfl
              clear hsz
              (refine takeE Ext.tr 0 (by simp only [List.getElem?_toArray, List.getElem?_cons_succ, List.getElem?_cons_zero]; rfl) (by kernel_rfl) (by kernel_rfl) (by kernel_rfl) (by exact fun _ _ _ h => h) (by first | (refine Or.inl ⟨by rfl, ?_⟩; intro W hW; go_simp; try with_reducible rfl) | exact Or.inr ⟨by rfl, rfl⟩) ?_; try simp only [Act.put, List.setIfInBounds_toArray, List.set_cons_zero, List.set_cons_succ])
              (refine takeE Ext.tr 1 (by simp only [List.getElem?_toArray, List.getElem?_cons_succ, List.getElem?_cons_zero]; rfl) (by kernel_rfl) (by kernel_rfl) (by kernel_rfl) (by exact fun _ _ _ h => h) (by first | (refine Or.inl ⟨by rfl, ?_⟩; intro W hW; go_simp; try with_reducible rfl) | exact Or.inr ⟨by rfl, rfl⟩) ?_; try simp only [Act.put, List.setIfInBounds_toArray, List.set_cons_zero, List.set_cons_succ])
              (refine takeE Ext.tr 2 (by simp only [List.getElem?_toArray, List.getElem?_cons_succ, List.getElem?_cons_zero]; rfl) (by kernel_rfl) (by kernel_rfl) (by kernel_rfl) (by exact fun _ _ _ h => h) (by first | (refine Or.inl ⟨by rfl, ?_⟩; intro W hW; go_simp; try with_reducible rfl) | exact Or.inr ⟨by rfl, rfl⟩) ?_; try simp only [Act.put, List.setIfInBounds_toArray, List.set_cons_zero, List.set_cons_succ])
              (refine takeE Ext.tr 6 (by simp only [List.getElem?_toArray, List.getElem?_cons_succ, List.getElem?_cons_zero]; rfl) (by kernel_rfl) (by kernel_rfl) (by kernel_rfl) (by exact fun _ _ _ h => h) (by first | (refine Or.inl ⟨by rfl, ?_⟩; intro W hW; go_simp; try with_reducible rfl) | exact Or.inr ⟨by rfl, rfl⟩) ?_; try simp only [Act.put, List.setIfInBounds_toArray, List.set_cons_zero, List.set_cons_succ])
              (refine takeE Ext.tr 7 (by simp only [List.getElem?_toArray, List.getElem?_cons_succ, List.getElem?_cons_zero]; rfl) (by kernel_rfl) (by kernel_rfl) (by kernel_rfl) (by exact fun _ _ _ h => h) (by first | (refine Or.inl ⟨by rfl, ?_⟩; intro W hW; go_simp; try with_reducible rfl) | exact Or.inr ⟨by rfl, rfl⟩) ?_; try simp only [Act.put, List.setIfInBounds_toArray, List.set_cons_zero, List.set_cons_succ])
              (refine takeE Ext.tr 8 (by simp only [List.getElem?_toArray, List.getElem?_cons_succ, List.getElem?_cons_zero]; rfl) (by kernel_rfl) (by kernel_rfl) (by kernel_rfl) (by exact fun _ _ _ h => h) (by first | (refine Or.inl ⟨by rfl, ?_⟩; intro W hW; go_simp; try with_reducible rfl) | exact Or.inr ⟨by rfl, rfl⟩) ?_; try simp only [Act.put, List.setIfInBounds_toArray, List.set_cons_zero, List.set_cons_succ])
              (refine takeE Ext.tr 13 (by simp only [List.getElem?_toArray, List.getElem?_cons_succ, List.getElem?_cons_zero]; rfl) (by kernel_rfl) (by kernel_rfl) (by kernel_rfl) (by exact fun _ _ _ h => h) (by first | (refine Or.inl ⟨by rfl, ?_⟩; intro W hW; go_simp; try with_reducible rfl) | exact Or.inr ⟨by rfl, rfl⟩) ?_; try simp only [Act.put, List.setIfInBounds_toArray, List.set_cons_zero, List.set_cons_succ])
              (refine takeE Ext.tr 14 (by simp only [List.getElem?_toArray, List.getElem?_cons_succ, List.getElem?_cons_zero]; rfl) (by kernel_rfl) (by kernel_rfl) (by kernel_rfl) (by exact fun _ _ _ h => h) (by first | (refine Or.inl ⟨by rfl, ?_⟩; intro W hW; go_simp; try with_reducible rfl) | exact Or.inr ⟨by rfl, rfl⟩) ?_; try simp only [Act.put, List.setIfInBounds_toArray, List.set_cons_zero, List.set_cons_succ])
              (refine takeE Ext.tr 3 (by simp only [List.getElem?_toArray, List.getElem?_cons_succ, List.getElem?_cons_zero]; rfl) (by kernel_rfl) (by kernel_rfl) (by kernel_rfl) (by exact fun _ _ _ h => h) (by first | (refine Or.inl ⟨by rfl, ?_⟩; intro W hW; go_simp; try with_reducible rfl) | exact Or.inr ⟨by rfl, rfl⟩) ?_; try simp only [Act.put, List.setIfInBounds_toArray, List.set_cons_zero, List.set_cons_succ])
              (refine takeE Ext.tr 9 (by simp only [List.getElem?_toArray, List.getElem?_cons_succ, List.getElem?_cons_zero]; rfl) (by kernel_rfl) (by kernel_rfl) (by kernel_rfl) (by exact fun _ _ _ h => h) (by first | (refine Or.inl ⟨by rfl, ?_⟩; intro W hW; go_simp; try with_reducible rfl) | exact Or.inr ⟨by rfl, rfl⟩) ?_; try simp only [Act.put, List.setIfInBounds_toArray, List.set_cons_zero, List.set_cons_succ])
              (refine takeE Ext.tr 15 (by simp only [List.getElem?_toArray, List.getElem?_cons_succ, List.getElem?_cons_zero]; rfl) (by kernel_rfl) (by kernel_rfl) (by kernel_rfl) (by exact fun _ _ _ h => h) (by first | (refine Or.inl ⟨by rfl, ?_⟩; intro W hW; go_simp; try with_reducible rfl) | exact Or.inr ⟨by rfl, rfl⟩) ?_; try simp only [Act.put, List.setIfInBounds_toArray, List.set_cons_zero, List.set_cons_succ])
              (refine takeE Ext.tr 4 (by simp only [List.getElem?_toArray, List.getElem?_cons_succ, List.getElem?_cons_zero]; rfl) (by kernel_rfl) (by kernel_rfl) (by kernel_rfl) (by exact fun _ _ _ h => h) (by first | (refine Or.inl ⟨by rfl, ?_⟩; intro W hW; go_simp; try with_reducible rfl) | exact Or.inr ⟨by rfl, rfl⟩) ?_; try simp only [Act.put, List.setIfInBounds_toArray, List.set_cons_zero, List.set_cons_succ])
              (refine takeE Ext.tr 10 (by simp only [List.getElem?_toArray, List.getElem?_cons_succ, List.getElem?_cons_zero]; rfl) (by kernel_rfl) (by kernel_rfl) (by kernel_rfl) (by exact fun _ _ _ h => h) (by first | (refine Or.inl ⟨by rfl, ?_⟩; intro W hW; go_simp; try with_reducible rfl) | exact Or.inr ⟨by rfl, rfl⟩) ?_; try simp only [Act.put, List.setIfInBounds_toArray, List.set_cons_zero, List.set_cons_succ])
              (refine takeE Ext.tr 16 (by simp only [List.getElem?_toArray, List.getElem?_cons_succ, List.getElem?_cons_zero]; rfl) (by kernel_rfl) (by kernel_rfl) (by kernel_rfl) (by exact fun _ _ _ h => h) (by first | (refine Or.inl ⟨by rfl, ?_⟩; intro W hW; go_simp; try with_reducible rfl) | exact Or.inr ⟨by rfl, rfl⟩) ?_; try simp only [Act.put, List.setIfInBounds_toArray, List.set_cons_zero, List.set_cons_succ])
              refine wpAnyE_one (i := 5) (by kernel_rfl) (by simp only [List.getElem?_toArray, List.getElem?_cons_succ, List.getElem?_cons_zero]; rfl) (fun K hK => ?_)
              go_simp
              refine (n_issued (HJd.out.q.next hE) nA).mono ?_
              rintro en u17 ⟨rfl, hE2⟩
              have hE3 := hE2
              clear q0 q1 q2
              replace hE := below_on hE hE2
              have q0 : ∀ V, Ext u17 V → V.cell? ⟨gk, 0, none⟩ = some (.int .i64 2) := fun V hV => (HJd.out.zk.below (below_on hE hV)).cell 0 rfl
              have q1 : ∀ V, Ext u17 V → V.cell? ⟨gk, 1, none⟩ = some (.int .i64 3) := fun V hV => (HJd.out.zk.below (below_on hE hV)).cell 1 rfl
              have q2 : ∀ V, Ext u17 V → V.cell? ⟨gw, 0, none⟩ = some (.int .i64 a) := fun V hV => (HJd.out.zw.below (below_on hE hV)).cell 0 rfl
              clear hE2
              refine hK.out _ _ hE3 ?_
              clear hK K
              try simp only [Act.put, List.setIfInBounds_toArray, List.set_cons_zero, List.set_cons_succ]
              refine wpAnyE_one (i := 11) (by kernel_rfl) (by simp only [List.getElem?_toArray, List.getElem?_cons_succ, List.getElem?_cons_zero]; rfl) (fun K hK => ?_)
              go_simp
              refine (n_pending (HJd.out.q.next hE) nA).mono ?_
              rintro en u18 ⟨rfl, hE2⟩
              have hE3 := hE2
              clear q0 q1 q2
              replace hE := below_on hE hE2
              have q0 : ∀ V, Ext u18 V → V.cell? ⟨gk, 0, none⟩ = some (.int .i64 2) := fun V hV => (HJd.out.zk.below (below_on hE hV)).cell 0 rfl
              have q1 : ∀ V, Ext u18 V → V.cell? ⟨gk, 1, none⟩ = some (.int .i64 3) := fun V hV => (HJd.out.zk.below (below_on hE hV)).cell 1 rfl
              have q2 : ∀ V, Ext u18 V → V.cell? ⟨gw, 0, none⟩ = some (.int .i64 a) := fun V hV => (HJd.out.zw.below (below_on hE hV)).cell 0 rfl
              clear hE2
              refine hK.out _ _ hE3 ?_
              clear hK K
              try simp only [Act.put, List.setIfInBounds_toArray, List.set_cons_zero, List.set_cons_succ]
              (refine takeE Ext.tr 12 (by simp only [List.getElem?_toArray, List.getElem?_cons_succ, List.getElem?_cons_zero]; rfl) (by kernel_rfl) (by kernel_rfl) (by kernel_rfl) (by exact fun _ _ _ h => h) (by first | (refine Or.inl ⟨by rfl, ?_⟩; intro W hW; go_simp; try with_reducible rfl) | exact Or.inr ⟨by rfl, rfl⟩) ?_; try simp only [Act.put, List.setIfInBounds_toArray, List.set_cons_zero, List.set_cons_succ])
              (refine takeE Ext.tr 17 (by simp only [List.getElem?_toArray, List.getElem?_cons_succ, List.getElem?_cons_zero]; rfl) (by kernel_rfl) (by kernel_rfl) (by kernel_rfl) (by exact fun _ _ _ h => h) (by first | (refine Or.inl ⟨by rfl, ?_⟩; intro W hW; go_simp; try with_reducible rfl) | exact Or.inr ⟨by rfl, rfl⟩) ?_; try simp only [Act.put, List.setIfInBounds_toArray, List.set_cons_zero, List.set_cons_succ])
              (refine takeE Ext.tr 18 (by simp only [List.getElem?_toArray, List.getElem?_cons_succ, List.getElem?_cons_zero]; rfl) (by kernel_rfl) (by kernel_rfl) (by kernel_rfl) (by exact fun _ _ _ h => h) (by first | (refine Or.inl ⟨by rfl, ?_⟩; intro W hW; go_simp; try with_reducible rfl) | exact Or.inr ⟨by rfl, rfl⟩) ?_; try simp only [Act.put, List.setIfInBounds_toArray, List.set_cons_zero, List.set_cons_succ])
              (refine takeE Ext.tr 19 (by simp only [List.getElem?_toArray, List.getElem?_cons_succ, List.getElem?_cons_zero]; rfl) (by kernel_rfl) (by kernel_rfl) (by kernel_rfl) (by exact fun _ _ _ h => h) (by first | (refine Or.inl ⟨by rfl, ?_⟩; intro W hW; go_simp; try with_reducible rfl) | exact Or.inr ⟨by rfl, rfl⟩) ?_; try simp only [Act.put, List.setIfInBounds_toArray, List.set_cons_zero, List.set_cons_succ])
              (refine takeE Ext.tr 20 (by simp only [List.getElem?_toArray, List.getElem?_cons_succ, List.getElem?_cons_zero]; rfl) (by kernel_rfl) (by kernel_rfl) (by kernel_rfl) (by exact fun _ _ _ h => h) (by first | (refine Or.inl ⟨by rfl, ?_⟩; intro W hW; go_simp; try with_reducible rfl) | exact Or.inr ⟨by rfl, rfl⟩) ?_; try simp only [Act.put, List.setIfInBounds_toArray, List.set_cons_zero, List.set_cons_succ])
              (refine takeE Ext.tr 21 (by simp only [List.getElem?_toArray, List.getElem?_cons_succ, List.getElem?_cons_zero]; rfl) (by kernel_rfl) (by kernel_rfl) (by kernel_rfl) (by exact fun _ _ _ h => h) (by first | (refine Or.inl ⟨by rfl, ?_⟩; intro W hW; go_simp; try with_reducible rfl) | exact Or.inr ⟨by rfl, rfl⟩) ?_; try simp only [Act.put, List.setIfInBounds_toArray, List.set_cons_zero, List.set_cons_succ])
              (refine takeE Ext.tr 22 (by simp only [List.getElem?_toArray, List.getElem?_cons_succ, List.getElem?_cons_zero]; rfl) (by kernel_rfl) (by kernel_rfl) (by kernel_rfl) (by exact fun _ _ _ h => h) (by first | (refine Or.inl ⟨by rfl, ?_⟩; intro W hW; go_simp; try with_reducible rfl) | exact Or.inr ⟨by rfl, rfl⟩) ?_; try simp only [Act.put, List.setIfInBounds_toArray, List.set_cons_zero, List.set_cons_succ])
              (refine takeE Ext.tr 23 (by simp only [List.getElem?_toArray, List.getElem?_cons_succ, List.getElem?_cons_zero]; rfl) (by kernel_rfl) (by kernel_rfl) (by kernel_rfl) (by exact fun _ _ _ h => h) (by first | (refine Or.inl ⟨by rfl, ?_⟩; intro W hW; go_simp; try with_reducible rfl) | exact Or.inr ⟨by rfl, rfl⟩) ?_; try simp only [Act.put, List.setIfInBounds_toArray, List.set_cons_zero, List.set_cons_succ])
              refine wpAnyE_one (i := 24) (by kernel_rfl) (by simp only [List.getElem?_toArray, List.getElem?_cons_succ, List.getElem?_cons_zero]; rfl) (fun K hK => ?_)
              go_simp
              refine (n_pending (HJd.out.q.next hE) nA).mono ?_
              rintro en u19 ⟨rfl, hE2⟩
              have hE3 := hE2
              clear q0 q1 q2
              replace hE := below_on hE hE2
              have q0 : ∀ V, Ext u19 V → V.cell? ⟨gk, 0, none⟩ = some (.int .i64 2) := fun V hV => (HJd.out.zk.below (below_on hE hV)).cell 0 rfl
              have q1 : ∀ V, Ext u19 V → V.cell? ⟨gk, 1, none⟩ = some (.int .i64 3) := fun V hV => (HJd.out.zk.below (below_on hE hV)).cell 1 rfl
              have q2 : ∀ V, Ext u19 V → V.cell? ⟨gw, 0, none⟩ = some (.int .i64 a) := fun V hV => (HJd.out.zw.below (below_on hE hV)).cell 0 rfl
              clear hE2
              refine hK.out _ _ hE3 ?_
              clear hK K
              try simp only [Act.put, List.setIfInBounds_toArray, List.set_cons_zero, List.set_cons_succ]
              (refine takeE Ext.tr 25 (by simp only [List.getElem?_toArray, List.getElem?_cons_succ, List.getElem?_cons_zero]; rfl) (by kernel_rfl) (by kernel_rfl) (by kernel_rfl) (by exact fun _ _ _ h => h) (by first | (refine Or.inl ⟨by rfl, ?_⟩; intro W hW; go_simp; try with_reducible rfl) | exact Or.inr ⟨by rfl, rfl⟩) ?_; try simp only [Act.put, List.setIfInBounds_toArray, List.set_cons_zero, List.set_cons_succ])
              (refine takeE Ext.tr 26 (by simp only [List.getElem?_toArray, List.getElem?_cons_succ, List.getElem?_cons_zero]; rfl) (by kernel_rfl) (by kernel_rfl) (by kernel_rfl) (by exact fun _ _ _ h => h) (by first | (refine Or.inl ⟨by rfl, ?_⟩; intro W hW; go_simp; try with_reducible rfl) | exact Or.inr ⟨by rfl, rfl⟩) ?_; try simp only [Act.put, List.setIfInBounds_toArray, List.set_cons_zero, List.set_cons_succ])
              refine wpAnyE_done (by kernel_rfl) ?_ _
              clear q0 q1 q2
              have HJf := Lib.hid (HJd.out.below hE)
              clear hE
              go_wp2
              go_roundw
              case rel => exact ⟨1, rfl, by omega, HJf.out⟩
              case measure => simp [intOf]
            · go_wp2_with fail
              refine wp_region_E Ext (by kernel_rfl) (fun wd hbd hsz => ?_)
              have HJd := Lib.hid (HJe.out.below hbd)
              have hE : Below wd.heap.size wd wd := Below.refl _ _
              have q0 : ∀ V, Ext wd V → V.cell? ⟨gk, 2, none⟩ = some (.int .i64 4) := fun V hV => (HJd.out.zk.below (below_on hE hV)).cell 2 rfl
              have q1 : ∀ V, Ext wd V → V.cell? ⟨gk, 3, none⟩ = some (.int .i64 1) := fun V hV => (HJd.out.zk.below (below_on hE hV)).cell 3 rfl
              have q2 : ∀ V, Ext wd V → V.cell? ⟨gw, 1, none⟩ = some (.int .i64 b) := fun V hV => (HJd.out.zw.below (below_on hE hV)).cell 1 rfl
              clear hsz
              (refine takeE Ext.tr 0 (by simp only [List.getElem?_toArray, List.getElem?_cons_succ, List.getElem?_cons_zero]; rfl) (by kernel_rfl) (by kernel_rfl) (by kernel_rfl) (by exact fun _ _ _ h => h) (by first | (refine Or.inl ⟨by rfl, ?_⟩; intro W hW; go_simp; try with_reducible rfl) | exact Or.inr ⟨by rfl, rfl⟩) ?_; try simp only [Act.put, List.setIfInBounds_toArray, List.set_cons_zero, List.set_cons_succ])
              (refine takeE Ext.tr 1 (by simp only [List.getElem?_toArray, List.getElem?_cons_succ, List.getElem?_cons_zero]; rfl) (by kernel_rfl) (by kernel_rfl) (by kernel_rfl) (by exact fun _ _ _ h => h) (by first | (refine Or.inl ⟨by rfl, ?_⟩; intro W hW; go_simp; try with_reducible rfl) | exact Or.inr ⟨by rfl, rfl⟩) ?_; try simp only [Act.put, List.setIfInBounds_toArray, List.set_cons_zero, List.set_cons_succ])
              (refine takeE Ext.tr 2 (by simp only [List.getElem?_toArray, List.getElem?_cons_succ, List.getElem?_cons_zero]; rfl) (by kernel_rfl) (by kernel_rfl) (by kernel_rfl) (by exact fun _ _ _ h => h) (by first | (refine Or.inl ⟨by rfl, ?_⟩; intro W hW; go_simp; try with_reducible rfl) | exact Or.inr ⟨by rfl, rfl⟩) ?_; try simp only [Act.put, List.setIfInBounds_toArray, List.set_cons_zero, List.set_cons_succ])
              (refine takeE Ext.tr 6 (by simp only [List.getElem?_toArray, List.getElem?_cons_succ, List.getElem?_cons_zero]; rfl) (by kernel_rfl) (by kernel_rfl) (by kernel_rfl) (by exact fun _ _ _ h => h) (by first | (refine Or.inl ⟨by rfl, ?_⟩; intro W hW; go_simp; try with_reducible rfl) | exact Or.inr ⟨by rfl, rfl⟩) ?_; try simp only [Act.put, List.setIfInBounds_toArray, List.set_cons_zero, List.set_cons_succ])
              (refine takeE Ext.tr 7 (by simp only [List.getElem?_toArray, List.getElem?_cons_succ, List.getElem?_cons_zero]; rfl) (by kernel_rfl) (by kernel_rfl) (by kernel_rfl) (by exact fun _ _ _ h => h) (by first | (refine Or.inl ⟨by rfl, ?_⟩; intro W hW; go_simp; try with_reducible rfl) | exact Or.inr ⟨by rfl, rfl⟩) ?_; try simp only [Act.put, List.setIfInBounds_toArray, List.set_cons_zero, List.set_cons_succ])
              (refine takeE Ext.tr 8 (by simp only [List.getElem?_toArray, List.getElem?_cons_succ, List.getElem?_cons_zero]; rfl) (by kernel_rfl) (by kernel_rfl) (by kernel_rfl) (by exact fun _ _ _ h => h) (by first | (refine Or.inl ⟨by rfl, ?_⟩; intro W hW; go_simp; try with_reducible rfl) | exact Or.inr ⟨by rfl, rfl⟩) ?_; try simp only [Act.put, List.setIfInBounds_toArray, List.set_cons_zero, List.set_cons_succ])
              (refine takeE Ext.tr 13 (by simp only [List.getElem?_toArray, List.getElem?_cons_succ, List.getElem?_cons_zero]; rfl) (by kernel_rfl) (by kernel_rfl) (by kernel_rfl) (by exact fun _ _ _ h => h) (by first | (refine Or.inl ⟨by rfl, ?_⟩; intro W hW; go_simp; try with_reducible rfl) | exact Or.inr ⟨by rfl, rfl⟩) ?_; try simp only [Act.put, List.setIfInBounds_toArray, List.set_cons_zero, List.set_cons_succ])
              (refine takeE Ext.tr 14 (by simp only [List.getElem?_toArray, List.getElem?_cons_succ, List.getElem?_cons_zero]; rfl) (by kernel_rfl) (by kernel_rfl) (by kernel_rfl) (by exact fun _ _ _ h => h) (by first | (refine Or.inl ⟨by rfl, ?_⟩; intro W hW; go_simp; try with_reducible rfl) | exact Or.inr ⟨by rfl, rfl⟩) ?_; try simp only [Act.put, List.setIfInBounds_toArray, List.set_cons_zero, List.set_cons_succ])
              (refine takeE Ext.tr 3 (by simp only [List.getElem?_toArray, List.getElem?_cons_succ, List.getElem?_cons_zero]; rfl) (by kernel_rfl) (by kernel_rfl) (by kernel_rfl) (by exact fun _ _ _ h => h) (by first | (refine Or.inl ⟨by rfl, ?_⟩; intro W hW; go_simp; try with_reducible rfl) | exact Or.inr ⟨by rfl, rfl⟩) ?_; try simp only [Act.put, List.setIfInBounds_toArray, List.set_cons_zero, List.set_cons_succ])
              (refine takeE Ext.tr 9 (by simp only [List.getElem?_toArray, List.getElem?_cons_succ, List.getElem?_cons_zero]; rfl) (by kernel_rfl) (by kernel_rfl) (by kernel_rfl) (by exact fun _ _ _ h => h) (by first | (refine Or.inl ⟨by rfl, ?_⟩; intro W hW; go_simp; try with_reducible rfl) | exact Or.inr ⟨by rfl, rfl⟩) ?_; try simp only [Act.put, List.setIfInBounds_toArray, List.set_cons_zero, List.set_cons_succ])
              (refine takeE Ext.tr 15 (by simp only [List.getElem?_toArray, List.getElem?_cons_succ, List.getElem?_cons_zero]; rfl) (by kernel_rfl) (by kernel_rfl) (by kernel_rfl) (by exact fun _ _ _ h => h) (by first | (refine Or.inl ⟨by rfl, ?_⟩; intro W hW; go_simp; try with_reducible rfl) | exact Or.inr ⟨by rfl, rfl⟩) ?_; try simp only [Act.put, List.setIfInBounds_toArray, List.set_cons_zero, List.set_cons_succ])
              (refine takeE Ext.tr 4 (by simp only [List.getElem?_toArray, List.getElem?_cons_succ, List.getElem?_cons_zero]; rfl) (by kernel_rfl) (by kernel_rfl) (by kernel_rfl) (by exact fun _ _ _ h => h) (by first | (refine Or.inl ⟨by rfl, ?_⟩; intro W hW; go_simp; try with_reducible rfl) | exact Or.inr ⟨by rfl, rfl⟩) ?_; try simp only [Act.put, List.setIfInBounds_toArray, List.set_cons_zero, List.set_cons_succ])
              (refine takeE Ext.tr 10 (by simp only [List.getElem?_toArray, List.getElem?_cons_succ, List.getElem?_cons_zero]; rfl) (by kernel_rfl) (by kernel_rfl) (by kernel_rfl) (by exact fun _ _ _ h => h) (by first | (refine Or.inl ⟨by rfl, ?_⟩; intro W hW; go_simp; try with_reducible rfl) | exact Or.inr ⟨by rfl, rfl⟩) ?_; try simp only [Act.put, List.setIfInBounds_toArray, List.set_cons_zero, List.set_cons_succ])
              (refine takeE Ext.tr 16 (by simp only [List.getElem?_toArray, List.getElem?_cons_succ, List.getElem?_cons_zero]; rfl) (by kernel_rfl) (by kernel_rfl) (by kernel_rfl) (by exact fun _ _ _ h => h) (by first | (refine Or.inl ⟨by rfl, ?_⟩; intro W hW; go_simp; try with_reducible rfl) | exact Or.inr ⟨by rfl, rfl⟩) ?_; try simp only [Act.put, List.setIfInBounds_toArray, List.set_cons_zero, List.set_cons_succ])
              refine wpAnyE_one (i := 5) (by kernel_rfl) (by simp only [List.getElem?_toArray, List.getElem?_cons_succ, List.getElem?_cons_zero]; rfl) (fun K hK => ?_)
              go_simp
              refine (n_issued (HJd.out.q.next hE) nB).mono ?_
              rintro en u20 ⟨rfl, hE2⟩
              have hE3 := hE2
              clear q0 q1 q2
              replace hE := below_on hE hE2
              have q0 : ∀ V, Ext u20 V → V.cell? ⟨gk, 2, none⟩ = some (.int .i64 4) := fun V hV => (HJd.out.zk.below (below_on hE hV)).cell 2 rfl
              have q1 : ∀ V, Ext u20 V → V.cell? ⟨gk, 3, none⟩ = some (.int .i64 1) := fun V hV => (HJd.out.zk.below (below_on hE hV)).cell 3 rfl
              have q2 : ∀ V, Ext u20 V → V.cell? ⟨gw, 1, none⟩ = some (.int .i64 b) := fun V hV => (HJd.out.zw.below (below_on hE hV)).cell 1 rfl
              clear hE2
              refine hK.out _ _ hE3 ?_
              clear hK K
              try simp only [Act.put, List.setIfInBounds_toArray, List.set_cons_zero, List.set_cons_succ]
              refine wpAnyE_one (i := 11) (by kernel_rfl) (by simp only [List.getElem?_toArray, List.getElem?_cons_succ, List.getElem?_cons_zero]; rfl) (fun K hK => ?_)
              go_simp
              refine (n_pending (HJd.out.q.next hE) nB).mono ?_
              rintro en u21 ⟨rfl, hE2⟩
              have hE3 := hE2
              clear q0 q1 q2
              replace hE := below_on hE hE2
              have q0 : ∀ V, Ext u21 V → V.cell? ⟨gk, 2, none⟩ = some (.int .i64 4) := fun V hV => (HJd.out.zk.below (below_on hE hV)).cell 2 rfl
              have q1 : ∀ V, Ext u21 V → V.cell? ⟨gk, 3, none⟩ = some (.int .i64 1) := fun V hV => (HJd.out.zk.below (below_on hE hV)).cell 3 rfl
              have q2 : ∀ V, Ext u21 V → V.cell? ⟨gw, 1, none⟩ = some (.int .i64 b) := fun V hV => (HJd.out.zw.below (below_on hE hV)).cell 1 rfl
              clear hE2
              refine hK.out _ _ hE3 ?_
              clear hK K
              try simp only [Act.put, List.setIfInBounds_toArray, List.set_cons_zero, List.set_cons_succ]
              (refine takeE Ext.tr 12 (by simp only [List.getElem?_toArray, List.getElem?_cons_succ, List.getElem?_cons_zero]; rfl) (by kernel_rfl) (by kernel_rfl) (by kernel_rfl) (by exact fun _ _ _ h => h) (by first | (refine Or.inl ⟨by rfl, ?_⟩; intro W hW; go_simp; try with_reducible rfl) | exact Or.inr ⟨by rfl, rfl⟩) ?_; try simp only [Act.put, List.setIfInBounds_toArray, List.set_cons_zero, List.set_cons_succ])
              (refine takeE Ext.tr 17 (by simp only [List.getElem?_toArray, List.getElem?_cons_succ, List.getElem?_cons_zero]; rfl) (by kernel_rfl) (by kernel_rfl) (by kernel_rfl) (by exact fun _ _ _ h => h) (by first | (refine Or.inl ⟨by rfl, ?_⟩; intro W hW; go_simp; try with_reducible rfl) | exact Or.inr ⟨by rfl, rfl⟩) ?_; try simp only [Act.put, List.setIfInBounds_toArray, List.set_cons_zero, List.set_cons_succ])
              (refine takeE Ext.tr 18 (by simp only [List.getElem?_toArray, List.getElem?_cons_succ, List.getElem?_cons_zero]; rfl) (by kernel_rfl) (by kernel_rfl) (by kernel_rfl) (by exact fun _ _ _ h => h) (by first | (refine Or.inl ⟨by rfl, ?_⟩; intro W hW; go_simp; try with_reducible rfl) | exact Or.inr ⟨by rfl, rfl⟩) ?_; try simp only [Act.put, List.setIfInBounds_toArray, List.set_cons_zero, List.set_cons_succ])
              (refine takeE Ext.tr 19 (by simp only [List.getElem?_toArray, List.getElem?_cons_succ, List.getElem?_cons_zero]; rfl) (by kernel_rfl) (by kernel_rfl) (by kernel_rfl) (by exact fun _ _ _ h => h) (by first | (refine Or.inl ⟨by rfl, ?_⟩; intro W hW; go_simp; try with_reducible rfl) | exact Or.inr ⟨by rfl, rfl⟩) ?_; try simp only [Act.put, List.setIfInBounds_toArray, List.set_cons_zero, List.set_cons_succ])
              (refine takeE Ext.tr 20 (by simp only [List.getElem?_toArray, List.getElem?_cons_succ, List.getElem?_cons_zero]; rfl) (by kernel_rfl) (by kernel_rfl) (by kernel_rfl) (by exact fun _ _ _ h => h) (by first | (refine Or.inl ⟨by rfl, ?_⟩; intro W hW; go_simp; try with_reducible rfl) | exact Or.inr ⟨by rfl, rfl⟩) ?_; try simp only [Act.put, List.setIfInBounds_toArray, List.set_cons_zero, List.set_cons_succ])
              (refine takeE Ext.tr 21 (by simp only [List.getElem?_toArray, List.getElem?_cons_succ, List.getElem?_cons_zero]; rfl) (by kernel_rfl) (by kernel_rfl) (by kernel_rfl) (by exact fun _ _ _ h => h) (by first | (refine Or.inl ⟨by rfl, ?_⟩; intro W hW; go_simp; try with_reducible rfl) | exact Or.inr ⟨by rfl, rfl⟩) ?_; try simp only [Act.put, List.setIfInBounds_toArray, List.set_cons_zero, List.set_cons_succ])
              (refine takeE Ext.tr 22 (by simp only [List.getElem?_toArray, List.getElem?_cons_succ, List.getElem?_cons_zero]; rfl) (by kernel_rfl) (by kernel_rfl) (by kernel_rfl) (by exact fun _ _ _ h => h) (by first | (refine Or.inl ⟨by rfl, ?_⟩; intro W hW; go_simp; try with_reducible rfl) | exact Or.inr ⟨by rfl, rfl⟩) ?_; try simp only [Act.put, List.setIfInBounds_toArray, List.set_cons_zero, List.set_cons_succ])
              (refine takeE Ext.tr 23 (by simp only [List.getElem?_toArray, List.getElem?_cons_succ, List.getElem?_cons_zero]; rfl) (by kernel_rfl) (by kernel_rfl) (by kernel_rfl) (by exact fun _ _ _ h => h) (by first | (refine Or.inl ⟨by rfl, ?_⟩; intro W hW; go_simp; try with_reducible rfl) | exact Or.inr ⟨by rfl, rfl⟩) ?_; try simp only [Act.put, List.setIfInBounds_toArray, List.set_cons_zero, List.set_cons_succ])
              refine wpAnyE_one (i := 24) (by kernel_rfl) (by simp only [List.getElem?_toArray, List.getElem?_cons_succ, List.getElem?_cons_zero]; rfl) (fun K hK => ?_)
              go_simp
              refine (n_pending (HJd.out.q.next hE) nB).mono ?_
              rintro en u22 ⟨rfl, hE2⟩
              have hE3 := hE2
              clear q0 q1 q2
              replace hE := below_on hE hE2
              have q0 : ∀ V, Ext u22 V → V.cell? ⟨gk, 2, none⟩ = some (.int .i64 4) := fun V hV => (HJd.out.zk.below (below_on hE hV)).cell 2 rfl
              have q1 : ∀ V, Ext u22 V → V.cell? ⟨gk, 3, none⟩ = some (.int .i64 1) := fun V hV => (HJd.out.zk.below (below_on hE hV)).cell 3 rfl
              have q2 : ∀ V, Ext u22 V → V.cell? ⟨gw, 1, none⟩ = some (.int .i64 b) := fun V hV => (HJd.out.zw.below (below_on hE hV)).cell 1 rfl
              clear hE2
              refine hK.out _ _ hE3 ?_
              clear hK K
              try simp only [Act.put, List.setIfInBounds_toArray, List.set_cons_zero, List.set_cons_succ]
              (refine takeE Ext.tr 25 (by simp only [List.getElem?_toArray, List.getElem?_cons_succ, List.getElem?_cons_zero]; rfl) (by kernel_rfl) (by kernel_rfl) (by kernel_rfl) (by exact fun _ _ _ h => h) (by first | (refine Or.inl ⟨by rfl, ?_⟩; intro W hW; go_simp; try with_reducible rfl) | exact Or.inr ⟨by rfl, rfl⟩) ?_; try simp only [Act.put, List.setIfInBounds_toArray, List.set_cons_zero, List.set_cons_succ])
              (refine takeE Ext.tr 26 (by simp only [List.getElem?_toArray, List.getElem?_cons_succ, List.getElem?_cons_zero]; rfl) (by kernel_rfl) (by kernel_rfl) (by kernel_rfl) (by exact fun _ _ _ h => h) (by first | (refine Or.inl ⟨by rfl, ?_⟩; intro W hW; go_simp; try with_reducible rfl) | exact Or.inr ⟨by rfl, rfl⟩) ?_; try simp only [Act.put, List.setIfInBounds_toArray, List.set_cons_zero, List.set_cons_succ])
              refine wpAnyE_done (by kernel_rfl) ?_ _
              clear q0 q1 q2
              have HJf := Lib.hid (HJd.out.below hE)
              clear hE
              go_wp2
              go_roundw
              case rel => exact ⟨2, rfl, by omega, HJf.out⟩
              case measure => simp [intOf]
            · go_wp2_with fail
              refine wp_region_E Ext (by kernel_rfl) (fun wd hbd hsz => ?_)
              have HJd := Lib.hid (HJe.out.below hbd)
              have hE : Below wd.heap.size wd wd := Below.refl _ _
              have q0 : ∀ V, Ext wd V → V.cell? ⟨gk, 0, none⟩ = some (.int .i64 2) := fun V hV => (HJd.out.zk.below (below_on hE hV)).cell 0 rfl
              have q1 : ∀ V, Ext wd V → V.cell? ⟨gk, 1, none⟩ = some (.int .i64 3) := fun V hV => (HJd.out.zk.below (below_on hE hV)).cell 1 rfl
              have q2 : ∀ V, Ext wd V → V.cell? ⟨gk, 2, none⟩ = some (.int .i64 4) := fun V hV => (HJd.out.zk.below (below_on hE hV)).cell 2 rfl
              have q3 : ∀ V, Ext wd V → V.cell? ⟨gk, 3, none⟩ = some (.int .i64 1) := fun V hV => (HJd.out.zk.below (below_on hE hV)).cell 3 rfl
              clear hsz
              (refine takeE Ext.tr 0 (by simp only [List.getElem?_toArray, List.getElem?_cons_succ, List.getElem?_cons_zero]; rfl) (by kernel_rfl) (by kernel_rfl) (by kernel_rfl) (by exact fun _ _ _ h => h) (by first | (refine Or.inl ⟨by rfl, ?_⟩; intro W hW; go_simp; try with_reducible rfl) | exact Or.inr ⟨by rfl, rfl⟩) ?_; try simp only [Act.put, List.setIfInBounds_toArray, List.set_cons_zero, List.set_cons_succ])
              (refine takeE Ext.tr 1 (by simp only [List.getElem?_toArray, List.getElem?_cons_succ, List.getElem?_cons_zero]; rfl) (by kernel_rfl) (by kernel_rfl) (by kernel_rfl) (by exact fun _ _ _ h => h) (by first | (refine Or.inl ⟨by rfl, ?_⟩; intro W hW; go_simp; try with_reducible rfl) | exact Or.inr ⟨by rfl, rfl⟩) ?_; try simp only [Act.put, List.setIfInBounds_toArray, List.set_cons_zero, List.set_cons_succ])
              (refine takeE Ext.tr 5 (by simp only [List.getElem?_toArray, List.getElem?_cons_succ, List.getElem?_cons_zero]; rfl) (by kernel_rfl) (by kernel_rfl) (by kernel_rfl) (by exact fun _ _ _ h => h) (by first | (refine Or.inl ⟨by rfl, ?_⟩; intro W hW; go_simp; try with_reducible rfl) | exact Or.inr ⟨by rfl, rfl⟩) ?_; try simp only [Act.put, List.setIfInBounds_toArray, List.set_cons_zero, List.set_cons_succ])
              (refine takeE Ext.tr 6 (by simp only [List.getElem?_toArray, List.getElem?_cons_succ, List.getElem?_cons_zero]; rfl) (by kernel_rfl) (by kernel_rfl) (by kernel_rfl) (by exact fun _ _ _ h => h) (by first | (refine Or.inl ⟨by rfl, ?_⟩; intro W hW; go_simp; try with_reducible rfl) | exact Or.inr ⟨by rfl, rfl⟩) ?_; try simp only [Act.put, List.setIfInBounds_toArray, List.set_cons_zero, List.set_cons_succ])
              (refine takeE Ext.tr 11 (by simp only [List.getElem?_toArray, List.getElem?_cons_succ, List.getElem?_cons_zero]; rfl) (by kernel_rfl) (by kernel_rfl) (by kernel_rfl) (by exact fun _ _ _ h => h) (by first | (refine Or.inl ⟨by rfl, ?_⟩; intro W hW; go_simp; try with_reducible rfl) | exact Or.inr ⟨by rfl, rfl⟩) ?_; try simp only [Act.put, List.setIfInBounds_toArray, List.set_cons_zero, List.set_cons_succ])
              (refine takeE Ext.tr 2 (by simp only [List.getElem?_toArray, List.getElem?_cons_succ, List.getElem?_cons_zero]; rfl) (by kernel_rfl) (by kernel_rfl) (by kernel_rfl) (by exact fun _ _ _ h => h) (by first | (refine Or.inl ⟨by rfl, ?_⟩; intro W hW; go_simp; try with_reducible rfl) | exact Or.inr ⟨by rfl, rfl⟩) ?_; try simp only [Act.put, List.setIfInBounds_toArray, List.set_cons_zero, List.set_cons_succ])
              (refine takeE Ext.tr 7 (by simp only [List.getElem?_toArray, List.getElem?_cons_succ, List.getElem?_cons_zero]; rfl) (by kernel_rfl) (by kernel_rfl) (by kernel_rfl) (by exact fun _ _ _ h => h) (by first | (refine Or.inl ⟨by rfl, ?_⟩; intro W hW; go_simp; try with_reducible rfl) | exact Or.inr ⟨by rfl, rfl⟩) ?_; try simp only [Act.put, List.setIfInBounds_toArray, List.set_cons_zero, List.set_cons_succ])
              (refine takeE Ext.tr 3 (by simp only [List.getElem?_toArray, List.getElem?_cons_succ, List.getElem?_cons_zero]; rfl) (by kernel_rfl) (by kernel_rfl) (by kernel_rfl) (by exact fun _ _ _ h => h) (by first | (refine Or.inl ⟨by rfl, ?_⟩; intro W hW; go_simp; try with_reducible rfl) | exact Or.inr ⟨by rfl, rfl⟩) ?_; try simp only [Act.put, List.setIfInBounds_toArray, List.set_cons_zero, List.set_cons_succ])
              (refine takeE Ext.tr 8 (by simp only [List.getElem?_toArray, List.getElem?_cons_succ, List.getElem?_cons_zero]; rfl) (by kernel_rfl) (by kernel_rfl) (by kernel_rfl) (by exact fun _ _ _ h => h) (by first | (refine Or.inl ⟨by rfl, ?_⟩; intro W hW; go_simp; try with_reducible rfl) | exact Or.inr ⟨by rfl, rfl⟩) ?_; try simp only [Act.put, List.setIfInBounds_toArray, List.set_cons_zero, List.set_cons_succ])
              refine wpAnyE_one (i := 4) (by kernel_rfl) (by simp only [List.getElem?_toArray, List.getElem?_cons_succ, List.getElem?_cons_zero]; rfl) (fun K hK => ?_)
              go_simp
              refine (n_issued (HJd.out.q.next hE) nA).mono ?_
              rintro en u23 ⟨rfl, hE2⟩
              have hE3 := hE2
              clear q0 q1 q2 q3
              replace hE := below_on hE hE2
              have q0 : ∀ V, Ext u23 V → V.cell? ⟨gk, 0, none⟩ = some (.int .i64 2) := fun V hV => (HJd.out.zk.below (below_on hE hV)).cell 0 rfl
              have q1 : ∀ V, Ext u23 V → V.cell? ⟨gk, 1, none⟩ = some (.int .i64 3) := fun V hV => (HJd.out.zk.below (below_on hE hV)).cell 1 rfl
              have q2 : ∀ V, Ext u23 V → V.cell? ⟨gk, 2, none⟩ = some (.int .i64 4) := fun V hV => (HJd.out.zk.below (below_on hE hV)).cell 2 rfl
              have q3 : ∀ V, Ext u23 V → V.cell? ⟨gk, 3, none⟩ = some (.int .i64 1) := fun V hV => (HJd.out.zk.below (below_on hE hV)).cell 3 rfl
              clear hE2
              refine hK.out _ _ hE3 ?_
              clear hK K
              try simp only [Act.put, List.setIfInBounds_toArray, List.set_cons_zero, List.set_cons_succ]
              refine wpAnyE_one (i := 9) (by kernel_rfl) (by simp only [List.getElem?_toArray, List.getElem?_cons_succ, List.getElem?_cons_zero]; rfl) (fun K hK => ?_)
              go_simp
              refine (n_issued (HJd.out.q.next hE) nB).mono ?_
              rintro en u24 ⟨rfl, hE2⟩
              have hE3 := hE2
              clear q0 q1 q2 q3
              replace hE := below_on hE hE2
              have q0 : ∀ V, Ext u24 V → V.cell? ⟨gk, 0, none⟩ = some (.int .i64 2) := fun V hV => (HJd.out.zk.below (below_on hE hV)).cell 0 rfl
              have q1 : ∀ V, Ext u24 V → V.cell? ⟨gk, 1, none⟩ = some (.int .i64 3) := fun V hV => (HJd.out.zk.below (below_on hE hV)).cell 1 rfl
              have q2 : ∀ V, Ext u24 V → V.cell? ⟨gk, 2, none⟩ = some (.int .i64 4) := fun V hV => (HJd.out.zk.below (below_on hE hV)).cell 2 rfl
              have q3 : ∀ V, Ext u24 V → V.cell? ⟨gk, 3, none⟩ = some (.int .i64 1) := fun V hV => (HJd.out.zk.below (below_on hE hV)).cell 3 rfl
              clear hE2
              refine hK.out _ _ hE3 ?_
              clear hK K
              try simp only [Act.put, List.setIfInBounds_toArray, List.set_cons_zero, List.set_cons_succ]
              (refine takeE Ext.tr 10 (by simp only [List.getElem?_toArray, List.getElem?_cons_succ, List.getElem?_cons_zero]; rfl) (by kernel_rfl) (by kernel_rfl) (by kernel_rfl) (by exact fun _ _ _ h => h) (by first | (refine Or.inl ⟨by rfl, ?_⟩; intro W hW; go_simp; try with_reducible rfl) | exact Or.inr ⟨by rfl, rfl⟩) ?_; try simp only [Act.put, List.setIfInBounds_toArray, List.set_cons_zero, List.set_cons_succ])
              refine wpAnyE_one (i := 12) (by kernel_rfl) (by simp only [List.getElem?_toArray, List.getElem?_cons_succ, List.getElem?_cons_zero]; rfl) (fun K hK => ?_)
              go_simp
              refine (n_total (HJd.out.q.next hE)).mono ?_
              rintro en v1 ⟨rfl, rfl⟩
              refine hK.out _ _ (Ext.refl _) ?_
              clear hK K
              try simp only [Act.put, List.setIfInBounds_toArray, List.set_cons_zero, List.set_cons_succ]
              (refine takeE Ext.tr 13 (by simp only [List.getElem?_toArray, List.getElem?_cons_succ, List.getElem?_cons_zero]; rfl) (by kernel_rfl) (by kernel_rfl) (by kernel_rfl) (by exact fun _ _ _ h => h) (by first | (refine Or.inl ⟨by rfl, ?_⟩; intro W hW; go_simp; try with_reducible rfl) | exact Or.inr ⟨by rfl, rfl⟩) ?_; try simp only [Act.put, List.setIfInBounds_toArray, List.set_cons_zero, List.set_cons_succ])
              refine wpAnyE_done (by kernel_rfl) ?_ _
              clear q0 q1 q2 q3
              have HJf := Lib.hid (HJd.out.below hE)
              clear hE
              go_wp2
              go_roundw
              case rel => exact ⟨k + 1, _, _, _, by go_num, by omega, HJf.out⟩
              case measure => simp [intOf]; omega
    · have HB := Lib.hid hJ.q.bel
      rcases (by omega : ¬ (k : Int) < n0 ∨ ((k : Int) < n0 ∧ ¬ (k : Int) < 100)) with hge | ⟨hge1, hge2⟩
      all_goals
        clear hJ hlt
        go_wp2
        go_ret
        exact ⟨rfl, HB.out⟩
end Go.Proofs.Ytdldocbfnjbhmaa
