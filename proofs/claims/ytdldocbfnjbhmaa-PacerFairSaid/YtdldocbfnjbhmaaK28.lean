/- The law that turns are dealt fairly. -/
import Derived.Test.YtdldocbfnjbhmaaK26
import Derived.Test.YtdldocbfnjbhmaaK27
set_option linter.unusedSimpArgs false
set_option linter.unusedVariables false
set_option maxRecDepth 100000
namespace Go.Proofs.Ytdldocbfnjbhmaa
open Go.RowKit Go.Shelf
theorem owe_key (i : Nat) : fk i = ⟨(i : Int), 5⟩ := rfl
set_option maxHeartbeats 16000000 in
theorem lawFairG (n : Int) (ow : Sl Int) (u : Bool) (tu : Int) (g : Int) (hgu : (u = false ∧ g = 0) ∨ (u = true ∧ g = 1)) (w : World) (hn : 0 ≤ n ∧ n < 256) (h : (Ty.sl (.int .u8)).reads w ow) (htu : 0 ≤ tu ∧ tu < 256) :
    Calls Try.prog 4 #[.int .u8 n, .slice ow.A ow.n ow.c, .bool u, .int .u8 tu] w fun en w' => en = .returned (.bool true) ∧ Below w.heap.size w w' := by
  have HR := Lib.hid (rd_of_reads ow h)
  obtain ⟨A0, n0, c0, l0⟩ := ow
  obtain ⟨T, rfl⟩ : ∃ T : Nat, tu = T := ⟨tu.toNat, by omega⟩
  obtain ⟨k, hk⟩ : ∃ k : Nat, 1 + n % 8 = k := ⟨(1 + n % 8).toNat, by omega⟩
  have hk1 : 1 ≤ k := by omega
  have hk8 : k ≤ 8 := by omega
  have hT : T < 256 := by omega
  have hg : g = 0 ∨ g = 1 := hgu.elim (fun e => .inl e.2) fun e => .inr e.2
  dsimp only at *
  clear h
  have HN := Lib.hid (n_new 20 w (by decide) (by decide))
  go_enter Try.func4, Try.ntmps4
  go_wp2_with fail
  refine HN.out.mono ?_
  rintro en w1 ⟨rfl, h1⟩
  have H1 := Lib.hid h1
  clear h1 HN
  go_wp2_with fail
  refine (l_awake _).mono ?_
  rintro en w2 ⟨rfl, hb2⟩
  have HS : Hid (∃ m, PcN w (fun _ => False) w2 (w.heap.size + 1) m ∧ FS m g 0) := Lib.hid ⟨_, H1.out.next hb2, FS.new hg⟩
  clear hb2 H1
  rcases hgu with ⟨rfl, rfl⟩ | ⟨rfl, rfl⟩
  · clear hg
    go_wp2
    clear hk hn
    go_loopw [13] (fun i wr => ∃ (j : Nat), i = .int .i64 j ∧ j ≤ k ∧ ∃ m, PcN w (fun _ => False) wr (w.heap.size + 1) m ∧ FS m 0 j) (fun i _ => 8 - (intOf i).toNat)
    case atStart => exact ⟨0, rfl, Nat.zero_le _, HS.out⟩
    case round =>
      obtain ⟨j, rfl, hj, m, hq, hF⟩ := hrel
      clear HS
      by_cases hjk : j < k
      · have hjk' : (j : Int) < k := by omega
        have HQ := Lib.hid hq
        have HF := Lib.hid hF
        have HC := n_know hq (fk j) 0
        rw [(hF.know (by decide) (by omega)).1] at HC
        have HC := Lib.hid HC
        clear hq hF
        have fin : ∀ (y : Int) (w7 : World), 300 ≤ y → y ≤ 600 → PcN w (fun _ => False) w7 (w.heap.size + 1) (m.knowR (fk j) 0).1 → Calls Try.prog 25 #[.pointer (some ⟨w.heap.size + 1, 0, none⟩), .agg #[.int .i64 ((fk j)).s, .int .i64 ((fk j)).c], .int .i64 y] w7 fun e w8 => e = .returned (.int .i64 0) ∧ ∃ m, PcN w (fun _ => False) w8 (w.heap.size + 1) m ∧ FS m 0 (j + 1) := by
          intro y w7 y1 y2 h7
          have ho := HF.out.owe (by decide) (by omega) y1 y2
          have HC := n_owe h7 (fk j) y
          rw [ho.1] at HC
          refine HC.mono ?_
          rintro e w8 ⟨rfl, h8, _⟩
          exact ⟨rfl, _, h8, ho.2⟩
        have HFN := Lib.hid fin
        clear fin
        by_cases hjn : j < n0
        · obtain ⟨b, o, rfl, hb, hcx⟩ := HR.out.cell hjn
          have hxm : l0.getD j 0 ∈ l0 := by
            have hl : j < l0.length := by have := HR.out.1; omega
            rw [List.getD_eq_getElem?_getD, List.getElem?_eq_getElem hl]
            exact List.getElem_mem hl
          have hx := u8_bounds (HR.out.2.2.2.2.1 _ hxm)
          clear hxm
          generalize l0.getD j 0 = x at hcx hx
          have hcw : wr.cell? ⟨b, o + j, none⟩ = some (.int .u8 x) := (HQ.out.bel.cell (p := ⟨b, o + j, none⟩) hb).trans hcx
          have hjn' : (j : Int) < n0 := by omega
          clear hcx hb hjn
          go_wp2_with fail
          refine HC.out.mono ?_
          rintro en w7 ⟨rfl, h7, _⟩
          have H7 := Lib.hid h7
          clear h7 hcw HC
          go_wp2_with fail
          refine (HFN.out (300 + x) _ (by omega) (by omega) H7.out).mono ?_
          rintro en w8 ⟨rfl, hm8⟩
          have H8 := Lib.hid hm8
          clear hm8 H7 HFN HF HQ
          go_wp2
          go_roundw
          case rel => exact ⟨j + 1, by go_num, by omega, H8.out⟩
          case measure => simp [intOf]; omega
        · have hjn' : ¬ (j : Int) < n0 := by omega
          clear hjn
          go_wp2_with fail
          refine HC.out.mono ?_
          rintro en w7 ⟨rfl, h7, _⟩
          have H7 := Lib.hid h7
          clear h7 HC
          go_wp2_with fail
          refine (HFN.out 300 _ (by omega) (by omega) H7.out).mono ?_
          rintro en w8 ⟨rfl, hm8⟩
          have H8 := Lib.hid hm8
          clear hm8 H7 HFN HF HQ
          go_wp2
          go_roundw
          case rel => exact ⟨j + 1, by go_num, by omega, H8.out⟩
          case measure => simp [intOf]; omega
      · obtain rfl : k = j := by omega
        have HT0 : Hid (∃ m, PcN w (fun _ => False) wr (w.heap.size + 1) m ∧ FT m 0 k 0) := Lib.hid ⟨_, hq, hF.turn⟩
        clear hq hF hjk hj HR
        go_wp2
        go_loopw [15] (fun i wr => ∃ (t : Nat), i = .int .i64 t ∧ t ≤ T ∧ ∃ m, PcN w (fun _ => False) wr (w.heap.size + 1) m ∧ FT m 0 k t) (fun i _ => 256 - (intOf i).toNat)
        case atStart => exact ⟨0, rfl, Nat.zero_le _, HT0.out⟩
        case round =>
          obtain ⟨t, rfl, ht, m, hq, hF⟩ := hrel
          clear HT0
          by_cases htT : t < T
          · have htT' : (t : Int) < T := by omega
            obtain ⟨e1, e2, e3, e4⟩ := hF.tick (by decide) hk1 (by omega)
            have HC := n_tick hq (by have := hF.tt; omega)
            obtain ⟨r, hr⟩ : ∃ r, r = t % k := ⟨_, rfl⟩
            obtain ⟨c1, hc⟩ : ∃ c1, c1 = cnt k (t + 1) r := ⟨_, rfl⟩
            rw [← hr] at e1 e2
            rw [← hc] at e2
            rw [e1, e2, e3] at HC
            have hcb : c1 ≤ t + 1 := by rw [hc]; exact cnt_le hk1
            have HNR : Hid (∀ j, j < k → cnt k (t + 1) j ≤ c1 ∧ c1 ≤ cnt k (t + 1) j + 1) := Lib.hid fun j hj => by rw [hc, hr]; exact cnt_near hk1 hj
            have HCC : Hid (c1 = cnt k (t + 1) r ∧ r < k) := Lib.hid ⟨hc, by rw [hr]; exact Nat.mod_lt _ hk1⟩
            dsimp only [fk] at HC
            have HC := Lib.hid HC
            have HF := Lib.hid e4
            clear e1 e2 e3 e4 hq hF hc hr
            go_wp2_with fail
            refine HC.out.mono ?_
            rintro en w6 ⟨rfl, h6, _⟩
            obtain ⟨bx, hbx⟩ : ∃ bx, bx = w6.heap.size := ⟨_, rfl⟩
            obtain ⟨W7, hW7⟩ : ∃ W, W = w6.alloc (.cells #[.int .i64 (r : Nat), .int .i64 5, .int .i64 (c1 : Nat)] 41) := ⟨_, rfl⟩
            have HQ : Hid (PcN w (fun _ => False) W7 (w.heap.size + 1) m.tickR.1) := Lib.hid (by rw [hW7]; exact h6.next ((Below.refl _ w6).alloc (Nat.le_refl _) _))
            have HZ : Hid (Bk W7 41 bx [.int .i64 (r : Nat), .int .i64 5, .int .i64 (c1 : Nat)]) := Lib.hid (by rw [hW7, hbx]; exact Bk.new w6 41 _)
            clear h6 HC
            go_wp2_with fail
            rw [← hbx, ← hW7]
            clear hbx hW7
            refine wp_region_E Ext (by kernel_rfl) (fun wd hbd hsz => ?_)
            have HQd := Lib.hid (HQ.out.next hbd)
            have HBd := Lib.hid (HZ.out.below hbd)
            have hE : Below wd.heap.size wd wd := Below.refl _ _
            have q0 : ∀ V, Ext wd V → V.cell? ⟨bx, 0, none⟩ = some (.int .i64 (r : Nat)) := fun V hV => (HBd.out.below (below_on hE hV)).cell 0 rfl
            have q1 : ∀ V, Ext wd V → V.cell? ⟨bx, 1, none⟩ = some (.int .i64 5) := fun V hV => (HBd.out.below (below_on hE hV)).cell 1 rfl
            have q2 : ∀ V, Ext wd V → V.cell? ⟨bx, 2, none⟩ = some (.int .i64 (c1 : Nat)) := fun V hV => (HBd.out.below (below_on hE hV)).cell 2 rfl
            clear hsz
            (refine takeE Ext.tr 0 (by simp only [List.getElem?_toArray, List.getElem?_cons_succ, List.getElem?_cons_zero]; rfl) (by kernel_rfl) (by kernel_rfl) (by kernel_rfl) (by exact fun _ _ _ h => h) (by first | (refine Or.inl ⟨by rfl, ?_⟩; intro W hW; go_simp; try with_reducible rfl) | exact Or.inr ⟨by rfl, rfl⟩) ?_; try simp only [Act.put, List.setIfInBounds_toArray, List.set_cons_zero, List.set_cons_succ])
            (refine takeE Ext.tr 1 (by simp only [List.getElem?_toArray, List.getElem?_cons_succ, List.getElem?_cons_zero]; rfl) (by kernel_rfl) (by kernel_rfl) (by kernel_rfl) (by exact fun _ _ _ h => h) (by first | (refine Or.inl ⟨by rfl, ?_⟩; intro W hW; go_simp; try with_reducible rfl) | exact Or.inr ⟨by rfl, rfl⟩) ?_; try simp only [Act.put, List.setIfInBounds_toArray, List.set_cons_zero, List.set_cons_succ])
            (refine takeE Ext.tr 2 (by simp only [List.getElem?_toArray, List.getElem?_cons_succ, List.getElem?_cons_zero]; rfl) (by kernel_rfl) (by kernel_rfl) (by kernel_rfl) (by exact fun _ _ _ h => h) (by first | (refine Or.inl ⟨by rfl, ?_⟩; intro W hW; go_simp; try with_reducible rfl) | exact Or.inr ⟨by rfl, rfl⟩) ?_; try simp only [Act.put, List.setIfInBounds_toArray, List.set_cons_zero, List.set_cons_succ])
            (refine takeE Ext.tr 3 (by simp only [List.getElem?_toArray, List.getElem?_cons_succ, List.getElem?_cons_zero]; rfl) (by kernel_rfl) (by kernel_rfl) (by kernel_rfl) (by exact fun _ _ _ h => h) (by first | (refine Or.inl ⟨by rfl, ?_⟩; intro W hW; go_simp; try with_reducible rfl) | exact Or.inr ⟨by rfl, rfl⟩) ?_; try simp only [Act.put, List.setIfInBounds_toArray, List.set_cons_zero, List.set_cons_succ])
            (refine takeE Ext.tr 5 (by simp only [List.getElem?_toArray, List.getElem?_cons_succ, List.getElem?_cons_zero]; rfl) (by kernel_rfl) (by kernel_rfl) (by kernel_rfl) (by exact fun _ _ _ h => h) (by first | (refine Or.inl ⟨by rfl, ?_⟩; intro W hW; go_simp; try with_reducible rfl) | exact Or.inr ⟨by rfl, rfl⟩) ?_; try simp only [Act.put, List.setIfInBounds_toArray, List.set_cons_zero, List.set_cons_succ])
            (refine takeE Ext.tr 6 (by simp only [List.getElem?_toArray, List.getElem?_cons_succ, List.getElem?_cons_zero]; rfl) (by kernel_rfl) (by kernel_rfl) (by kernel_rfl) (by exact fun _ _ _ h => h) (by first | (refine Or.inl ⟨by rfl, ?_⟩; intro W hW; go_simp; try with_reducible rfl) | exact Or.inr ⟨by rfl, rfl⟩) ?_; try simp only [Act.put, List.setIfInBounds_toArray, List.set_cons_zero, List.set_cons_succ])
            (refine takeE Ext.tr 4 (by simp only [List.getElem?_toArray, List.getElem?_cons_succ, List.getElem?_cons_zero]; rfl) (by kernel_rfl) (by kernel_rfl) (by kernel_rfl) (by exact fun _ _ _ h => h) (by first | (refine Or.inl ⟨by rfl, ?_⟩; intro W hW; go_simp; try with_reducible rfl) | exact Or.inr ⟨by rfl, rfl⟩) ?_; try simp only [Act.put, List.setIfInBounds_toArray, List.set_cons_zero, List.set_cons_succ])
            (refine takeE Ext.tr 7 (by simp only [List.getElem?_toArray, List.getElem?_cons_succ, List.getElem?_cons_zero]; rfl) (by kernel_rfl) (by kernel_rfl) (by kernel_rfl) (by exact fun _ _ _ h => h) (by first | (refine Or.inl ⟨by rfl, ?_⟩; intro W hW; go_simp; try with_reducible rfl) | exact Or.inr ⟨by rfl, rfl⟩) ?_; try simp only [Act.put, List.setIfInBounds_toArray, List.set_cons_zero, List.set_cons_succ])
            refine wpAnyE_one (i := 8) (by kernel_rfl) (by simp only [List.getElem?_toArray, List.getElem?_cons_succ, List.getElem?_cons_zero]; rfl) (fun K hK => ?_)
            go_simp
            have HC := Lib.hid (n_issued HQd.out (fk r))
            rw [HF.out.is HCC.out.2, ← HCC.out.1] at HC
            refine HC.out.mono ?_
            rintro en u1 ⟨rfl, hE2⟩
            have hE3 := hE2
            clear HC q0 q1 q2
            replace hE := below_on hE hE2
            have q0 : ∀ V, Ext u1 V → V.cell? ⟨bx, 0, none⟩ = some (.int .i64 (r : Nat)) := fun V hV => (HBd.out.below (below_on hE hV)).cell 0 rfl
            have q1 : ∀ V, Ext u1 V → V.cell? ⟨bx, 1, none⟩ = some (.int .i64 5) := fun V hV => (HBd.out.below (below_on hE hV)).cell 1 rfl
            have q2 : ∀ V, Ext u1 V → V.cell? ⟨bx, 2, none⟩ = some (.int .i64 (c1 : Nat)) := fun V hV => (HBd.out.below (below_on hE hV)).cell 2 rfl
            clear hE2
            refine hK.out _ _ hE3 ?_
            clear hK K
            try simp only [Act.put, List.setIfInBounds_toArray, List.set_cons_zero, List.set_cons_succ]
            (refine takeE Ext.tr 9 (by simp only [List.getElem?_toArray, List.getElem?_cons_succ, List.getElem?_cons_zero]; rfl) (by kernel_rfl) (by kernel_rfl) (by kernel_rfl) (by exact fun _ _ _ h => h) (by first | (refine Or.inl ⟨by rfl, ?_⟩; intro W hW; go_simp; try with_reducible rfl) | exact Or.inr ⟨by rfl, rfl⟩) ?_; try simp only [Act.put, List.setIfInBounds_toArray, List.set_cons_zero, List.set_cons_succ])
            (refine takeE Ext.tr 10 (by simp only [List.getElem?_toArray, List.getElem?_cons_succ, List.getElem?_cons_zero]; rfl) (by kernel_rfl) (by kernel_rfl) (by kernel_rfl) (by exact fun _ _ _ h => h) (by first | (refine Or.inl ⟨by rfl, ?_⟩; intro W hW; go_simp; try with_reducible rfl) | exact Or.inr ⟨by rfl, rfl⟩) ?_; try simp only [Act.put, List.setIfInBounds_toArray, List.set_cons_zero, List.set_cons_succ])
            refine wpAnyE_done (by kernel_rfl) ?_ _
            clear q0 q1 q2
            have HQf := Lib.hid (HQd.out.next hE)
            have HBf := Lib.hid (HBd.out.below hE)
            clear hE
            go_wp2
            go_loopw [18] (fun i wr => ∃ (j : Nat), i = .int .i64 j ∧ j ≤ k ∧ PcN w (fun _ => False) wr (w.heap.size + 1) m.tickR.1 ∧ Bk wr 41 bx [.int .i64 (r : Nat), .int .i64 5, .int .i64 (c1 : Nat)]) (fun i _ => 8 - (intOf i).toNat)
            case atStart => exact ⟨0, rfl, Nat.zero_le _, HQf.out, HBf.out⟩
            case round =>
              obtain ⟨j, rfl, hj, hq, hz⟩ := hrel
              clear HQ HZ HQd HBd HQf HBf
              have HQ := Lib.hid hq
              have HZ := Lib.hid hz
              clear hq hz
              by_cases hjk : j < k
              · have hjk' : (j : Int) < k := by omega
                have hnr := HNR.out j hjk
                have hd : (c1 : Int) - ((cnt k (t + 1) j : Nat) : Int) = 0 ∨ (c1 : Int) - ((cnt k (t + 1) j : Nat) : Int) = 1 := by omega
                clear hnr
                rcases hd with hd | hd
                all_goals
                  go_wp2_with fail
                  refine wp_region_E Ext (by kernel_rfl) (fun wd hbd hsz => ?_)
                  have HQd := Lib.hid (HQ.out.next hbd)
                  have HBd := Lib.hid (HZ.out.below hbd)
                  have hE : Below wd.heap.size wd wd := Below.refl _ _
                  have q0 : ∀ V, Ext wd V → V.cell? ⟨bx, 0, none⟩ = some (.int .i64 (r : Nat)) := fun V hV => (HBd.out.below (below_on hE hV)).cell 0 rfl
                  have q1 : ∀ V, Ext wd V → V.cell? ⟨bx, 1, none⟩ = some (.int .i64 5) := fun V hV => (HBd.out.below (below_on hE hV)).cell 1 rfl
                  have q2 : ∀ V, Ext wd V → V.cell? ⟨bx, 2, none⟩ = some (.int .i64 (c1 : Nat)) := fun V hV => (HBd.out.below (below_on hE hV)).cell 2 rfl
                  clear hsz
                  (refine takeE Ext.tr 0 (by simp only [List.getElem?_toArray, List.getElem?_cons_succ, List.getElem?_cons_zero]; rfl) (by kernel_rfl) (by kernel_rfl) (by kernel_rfl) (by exact fun _ _ _ h => h) (by first | (refine Or.inl ⟨by rfl, ?_⟩; intro W hW; go_simp; try with_reducible rfl) | exact Or.inr ⟨by rfl, rfl⟩) ?_; try simp only [Act.put, List.setIfInBounds_toArray, List.set_cons_zero, List.set_cons_succ])
                  (refine takeE Ext.tr 2 (by simp only [List.getElem?_toArray, List.getElem?_cons_succ, List.getElem?_cons_zero]; rfl) (by kernel_rfl) (by kernel_rfl) (by kernel_rfl) (by exact fun _ _ _ h => h) (by first | (refine Or.inl ⟨by rfl, ?_⟩; intro W hW; go_simp; try with_reducible rfl) | exact Or.inr ⟨by rfl, rfl⟩) ?_; try simp only [Act.put, List.setIfInBounds_toArray, List.set_cons_zero, List.set_cons_succ])
                  (refine takeE Ext.tr 3 (by simp only [List.getElem?_toArray, List.getElem?_cons_succ, List.getElem?_cons_zero]; rfl) (by kernel_rfl) (by kernel_rfl) (by kernel_rfl) (by exact fun _ _ _ h => h) (by first | (refine Or.inl ⟨by rfl, ?_⟩; intro W hW; go_simp; try with_reducible rfl) | exact Or.inr ⟨by rfl, rfl⟩) ?_; try simp only [Act.put, List.setIfInBounds_toArray, List.set_cons_zero, List.set_cons_succ])
                  (refine takeE Ext.tr 1 (by simp only [List.getElem?_toArray, List.getElem?_cons_succ, List.getElem?_cons_zero]; rfl) (by kernel_rfl) (by kernel_rfl) (by kernel_rfl) (by exact fun _ _ _ h => h) (by first | (refine Or.inl ⟨by rfl, ?_⟩; intro W hW; go_simp; try with_reducible rfl) | exact Or.inr ⟨by rfl, rfl⟩) ?_; try simp only [Act.put, List.setIfInBounds_toArray, List.set_cons_zero, List.set_cons_succ])
                  (refine takeE Ext.tr 4 (by simp only [List.getElem?_toArray, List.getElem?_cons_succ, List.getElem?_cons_zero]; rfl) (by kernel_rfl) (by kernel_rfl) (by kernel_rfl) (by exact fun _ _ _ h => h) (by first | (refine Or.inl ⟨by rfl, ?_⟩; intro W hW; go_simp; try with_reducible rfl) | exact Or.inr ⟨by rfl, rfl⟩) ?_; try simp only [Act.put, List.setIfInBounds_toArray, List.set_cons_zero, List.set_cons_succ])
                  refine wpAnyE_one (i := 5) (by kernel_rfl) (by simp only [List.getElem?_toArray, List.getElem?_cons_succ, List.getElem?_cons_zero]; rfl) (fun K hK => ?_)
                  go_simp
                  have HC := Lib.hid (n_issued HQd.out (fk j))
                  rw [HF.out.is hjk] at HC
                  refine HC.out.mono ?_
                  rintro en u2 ⟨rfl, hE2⟩
                  have hE3 := hE2
                  clear HC q0 q1 q2
                  replace hE := below_on hE hE2
                  have q0 : ∀ V, Ext u2 V → V.cell? ⟨bx, 0, none⟩ = some (.int .i64 (r : Nat)) := fun V hV => (HBd.out.below (below_on hE hV)).cell 0 rfl
                  have q1 : ∀ V, Ext u2 V → V.cell? ⟨bx, 1, none⟩ = some (.int .i64 5) := fun V hV => (HBd.out.below (below_on hE hV)).cell 1 rfl
                  have q2 : ∀ V, Ext u2 V → V.cell? ⟨bx, 2, none⟩ = some (.int .i64 (c1 : Nat)) := fun V hV => (HBd.out.below (below_on hE hV)).cell 2 rfl
                  clear hE2
                  refine hK.out _ _ hE3 ?_
                  clear hK K
                  try simp only [Act.put, List.setIfInBounds_toArray, List.set_cons_zero, List.set_cons_succ]
                  (refine takeE Ext.tr 6 (by simp only [List.getElem?_toArray, List.getElem?_cons_succ, List.getElem?_cons_zero]; rfl) (by kernel_rfl) (by kernel_rfl) (by kernel_rfl) (by exact fun _ _ _ h => h) (by first | (refine Or.inl ⟨by rfl, ?_⟩; intro W hW; go_simp; try with_reducible rfl) | exact Or.inr ⟨by rfl, rfl⟩) ?_; try simp only [Act.put, List.setIfInBounds_toArray, List.set_cons_zero, List.set_cons_succ])
                  (refine takeE Ext.tr 7 (by simp only [List.getElem?_toArray, List.getElem?_cons_succ, List.getElem?_cons_zero]; rfl) (by kernel_rfl) (by kernel_rfl) (by kernel_rfl) (by exact fun _ _ _ h => h) (by first | (refine Or.inl ⟨by rfl, ?_⟩; intro W hW; go_simp; try with_reducible rfl) | exact Or.inr ⟨by rfl, rfl⟩) ?_; try simp only [Act.put, List.setIfInBounds_toArray, List.set_cons_zero, List.set_cons_succ])
                  refine wpAnyE_done (by kernel_rfl) ?_ _
                  clear q0 q1 q2
                  have HQf := Lib.hid (HQd.out.next hE)
                  have HBf := Lib.hid (HBd.out.below hE)
                  clear hE
                  go_wp2
                  go_roundw
                  case rel => exact ⟨j + 1, by go_num, by omega, HQf.out, HBf.out⟩
                  case measure => simp [intOf]; omega
              · obtain rfl : k = j := by omega
                have HN2 := HQ.out
                have hjk' : ¬ (k : Int) < k := by omega
                go_wp2
                go_roundw
                case rel => exact ⟨t + 1, by go_num, by omega, _, HN2, HF.out⟩
                case measure => simp [intOf]; omega
          · obtain rfl : T = t := by omega
            have HC := n_total hq
            rw [hF.tt] at HC
            have HC := Lib.hid HC
            have HB := Lib.hid hq.bel
            clear hq hF
            go_wp2_with fail
            refine HC.out.mono ?_
            rintro en w6 ⟨rfl, rfl⟩
            go_wp2
            go_ret
            exact ⟨rfl, HB.out⟩
  · clear hg
    go_wp2
    clear hk hn
    go_loopw [13] (fun i wr => ∃ (j : Nat), i = .int .i64 j ∧ j ≤ k ∧ ∃ m, PcN w (fun _ => False) wr (w.heap.size + 1) m ∧ FS m 1 j) (fun i _ => 8 - (intOf i).toNat)
    case atStart => exact ⟨0, rfl, Nat.zero_le _, HS.out⟩
    case round =>
      obtain ⟨j, rfl, hj, m, hq, hF⟩ := hrel
      clear HS
      by_cases hjk : j < k
      · have hjk' : (j : Int) < k := by omega
        have HQ := Lib.hid hq
        have HF := Lib.hid hF
        have HC := n_know hq (fk j) 1
        rw [(hF.know (by decide) (by omega)).1] at HC
        have HC := Lib.hid HC
        clear hq hF
        have fin : ∀ (y : Int) (w7 : World), 300 ≤ y → y ≤ 600 → PcN w (fun _ => False) w7 (w.heap.size + 1) (m.knowR (fk j) 1).1 → Calls Try.prog 25 #[.pointer (some ⟨w.heap.size + 1, 0, none⟩), .agg #[.int .i64 ((fk j)).s, .int .i64 ((fk j)).c], .int .i64 y] w7 fun e w8 => e = .returned (.int .i64 0) ∧ ∃ m, PcN w (fun _ => False) w8 (w.heap.size + 1) m ∧ FS m 1 (j + 1) := by
          intro y w7 y1 y2 h7
          have ho := HF.out.owe (by decide) (by omega) y1 y2
          have HC := n_owe h7 (fk j) y
          rw [ho.1] at HC
          refine HC.mono ?_
          rintro e w8 ⟨rfl, h8, _⟩
          exact ⟨rfl, _, h8, ho.2⟩
        have HFN := Lib.hid fin
        clear fin
        by_cases hjn : j < n0
        · obtain ⟨b, o, rfl, hb, hcx⟩ := HR.out.cell hjn
          have hxm : l0.getD j 0 ∈ l0 := by
            have hl : j < l0.length := by have := HR.out.1; omega
            rw [List.getD_eq_getElem?_getD, List.getElem?_eq_getElem hl]
            exact List.getElem_mem hl
          have hx := u8_bounds (HR.out.2.2.2.2.1 _ hxm)
          clear hxm
          generalize l0.getD j 0 = x at hcx hx
          have hcw : wr.cell? ⟨b, o + j, none⟩ = some (.int .u8 x) := (HQ.out.bel.cell (p := ⟨b, o + j, none⟩) hb).trans hcx
          have hjn' : (j : Int) < n0 := by omega
          clear hcx hb hjn
          go_wp2_with fail
          refine HC.out.mono ?_
          rintro en w7 ⟨rfl, h7, _⟩
          have H7 := Lib.hid h7
          clear h7 hcw HC
          go_wp2_with fail
          refine (HFN.out (300 + x) _ (by omega) (by omega) H7.out).mono ?_
          rintro en w8 ⟨rfl, hm8⟩
          have H8 := Lib.hid hm8
          clear hm8 H7 HFN HF HQ
          go_wp2
          go_roundw
          case rel => exact ⟨j + 1, by go_num, by omega, H8.out⟩
          case measure => simp [intOf]; omega
        · have hjn' : ¬ (j : Int) < n0 := by omega
          clear hjn
          go_wp2_with fail
          refine HC.out.mono ?_
          rintro en w7 ⟨rfl, h7, _⟩
          have H7 := Lib.hid h7
          clear h7 HC
          go_wp2_with fail
          refine (HFN.out 300 _ (by omega) (by omega) H7.out).mono ?_
          rintro en w8 ⟨rfl, hm8⟩
          have H8 := Lib.hid hm8
          clear hm8 H7 HFN HF HQ
          go_wp2
          go_roundw
          case rel => exact ⟨j + 1, by go_num, by omega, H8.out⟩
          case measure => simp [intOf]; omega
      · obtain rfl : k = j := by omega
        have HT0 : Hid (∃ m, PcN w (fun _ => False) wr (w.heap.size + 1) m ∧ FT m 1 k 0) := Lib.hid ⟨_, hq, hF.turn⟩
        clear hq hF hjk hj HR
        go_wp2
        go_loopw [15] (fun i wr => ∃ (t : Nat), i = .int .i64 t ∧ t ≤ T ∧ ∃ m, PcN w (fun _ => False) wr (w.heap.size + 1) m ∧ FT m 1 k t) (fun i _ => 256 - (intOf i).toNat)
        case atStart => exact ⟨0, rfl, Nat.zero_le _, HT0.out⟩
        case round =>
          obtain ⟨t, rfl, ht, m, hq, hF⟩ := hrel
          clear HT0
          by_cases htT : t < T
          · have htT' : (t : Int) < T := by omega
            obtain ⟨e1, e2, e3, e4⟩ := hF.tick (by decide) hk1 (by omega)
            have HC := n_tick hq (by have := hF.tt; omega)
            obtain ⟨r, hr⟩ : ∃ r, r = t % k := ⟨_, rfl⟩
            obtain ⟨c1, hc⟩ : ∃ c1, c1 = cnt k (t + 1) r := ⟨_, rfl⟩
            rw [← hr] at e1 e2
            rw [← hc] at e2
            rw [e1, e2, e3] at HC
            have hcb : c1 ≤ t + 1 := by rw [hc]; exact cnt_le hk1
            have HNR : Hid (∀ j, j < k → cnt k (t + 1) j ≤ c1 ∧ c1 ≤ cnt k (t + 1) j + 1) := Lib.hid fun j hj => by rw [hc, hr]; exact cnt_near hk1 hj
            have HCC : Hid (c1 = cnt k (t + 1) r ∧ r < k) := Lib.hid ⟨hc, by rw [hr]; exact Nat.mod_lt _ hk1⟩
            dsimp only [fk] at HC
            have HC := Lib.hid HC
            have HF := Lib.hid e4
            clear e1 e2 e3 e4 hq hF hc hr
            go_wp2_with fail
            refine HC.out.mono ?_
            rintro en w6 ⟨rfl, h6, _⟩
            obtain ⟨bx, hbx⟩ : ∃ bx, bx = w6.heap.size := ⟨_, rfl⟩
            obtain ⟨W7, hW7⟩ : ∃ W, W = w6.alloc (.cells #[.int .i64 (r : Nat), .int .i64 5, .int .i64 (c1 : Nat)] 41) := ⟨_, rfl⟩
            have HQ : Hid (PcN w (fun _ => False) W7 (w.heap.size + 1) m.tickR.1) := Lib.hid (by rw [hW7]; exact h6.next ((Below.refl _ w6).alloc (Nat.le_refl _) _))
            have HZ : Hid (Bk W7 41 bx [.int .i64 (r : Nat), .int .i64 5, .int .i64 (c1 : Nat)]) := Lib.hid (by rw [hW7, hbx]; exact Bk.new w6 41 _)
            clear h6 HC
            go_wp2_with fail
            rw [← hbx, ← hW7]
            clear hbx hW7
            refine wp_region_E Ext (by kernel_rfl) (fun wd hbd hsz => ?_)
            have HQd := Lib.hid (HQ.out.next hbd)
            have HBd := Lib.hid (HZ.out.below hbd)
            have hE : Below wd.heap.size wd wd := Below.refl _ _
            have q0 : ∀ V, Ext wd V → V.cell? ⟨bx, 0, none⟩ = some (.int .i64 (r : Nat)) := fun V hV => (HBd.out.below (below_on hE hV)).cell 0 rfl
            have q1 : ∀ V, Ext wd V → V.cell? ⟨bx, 1, none⟩ = some (.int .i64 5) := fun V hV => (HBd.out.below (below_on hE hV)).cell 1 rfl
            have q2 : ∀ V, Ext wd V → V.cell? ⟨bx, 2, none⟩ = some (.int .i64 (c1 : Nat)) := fun V hV => (HBd.out.below (below_on hE hV)).cell 2 rfl
            clear hsz
            (refine takeE Ext.tr 0 (by simp only [List.getElem?_toArray, List.getElem?_cons_succ, List.getElem?_cons_zero]; rfl) (by kernel_rfl) (by kernel_rfl) (by kernel_rfl) (by exact fun _ _ _ h => h) (by first | (refine Or.inl ⟨by rfl, ?_⟩; intro W hW; go_simp; try with_reducible rfl) | exact Or.inr ⟨by rfl, rfl⟩) ?_; try simp only [Act.put, List.setIfInBounds_toArray, List.set_cons_zero, List.set_cons_succ])
            (refine takeE Ext.tr 1 (by simp only [List.getElem?_toArray, List.getElem?_cons_succ, List.getElem?_cons_zero]; rfl) (by kernel_rfl) (by kernel_rfl) (by kernel_rfl) (by exact fun _ _ _ h => h) (by first | (refine Or.inl ⟨by rfl, ?_⟩; intro W hW; go_simp; try with_reducible rfl) | exact Or.inr ⟨by rfl, rfl⟩) ?_; try simp only [Act.put, List.setIfInBounds_toArray, List.set_cons_zero, List.set_cons_succ])
            (refine takeE Ext.tr 2 (by simp only [List.getElem?_toArray, List.getElem?_cons_succ, List.getElem?_cons_zero]; rfl) (by kernel_rfl) (by kernel_rfl) (by kernel_rfl) (by exact fun _ _ _ h => h) (by first | (refine Or.inl ⟨by rfl, ?_⟩; intro W hW; go_simp; try with_reducible rfl) | exact Or.inr ⟨by rfl, rfl⟩) ?_; try simp only [Act.put, List.setIfInBounds_toArray, List.set_cons_zero, List.set_cons_succ])
            (refine takeE Ext.tr 3 (by simp only [List.getElem?_toArray, List.getElem?_cons_succ, List.getElem?_cons_zero]; rfl) (by kernel_rfl) (by kernel_rfl) (by kernel_rfl) (by exact fun _ _ _ h => h) (by first | (refine Or.inl ⟨by rfl, ?_⟩; intro W hW; go_simp; try with_reducible rfl) | exact Or.inr ⟨by rfl, rfl⟩) ?_; try simp only [Act.put, List.setIfInBounds_toArray, List.set_cons_zero, List.set_cons_succ])
            (refine takeE Ext.tr 5 (by simp only [List.getElem?_toArray, List.getElem?_cons_succ, List.getElem?_cons_zero]; rfl) (by kernel_rfl) (by kernel_rfl) (by kernel_rfl) (by exact fun _ _ _ h => h) (by first | (refine Or.inl ⟨by rfl, ?_⟩; intro W hW; go_simp; try with_reducible rfl) | exact Or.inr ⟨by rfl, rfl⟩) ?_; try simp only [Act.put, List.setIfInBounds_toArray, List.set_cons_zero, List.set_cons_succ])
            (refine takeE Ext.tr 6 (by simp only [List.getElem?_toArray, List.getElem?_cons_succ, List.getElem?_cons_zero]; rfl) (by kernel_rfl) (by kernel_rfl) (by kernel_rfl) (by exact fun _ _ _ h => h) (by first | (refine Or.inl ⟨by rfl, ?_⟩; intro W hW; go_simp; try with_reducible rfl) | exact Or.inr ⟨by rfl, rfl⟩) ?_; try simp only [Act.put, List.setIfInBounds_toArray, List.set_cons_zero, List.set_cons_succ])
            (refine takeE Ext.tr 4 (by simp only [List.getElem?_toArray, List.getElem?_cons_succ, List.getElem?_cons_zero]; rfl) (by kernel_rfl) (by kernel_rfl) (by kernel_rfl) (by exact fun _ _ _ h => h) (by first | (refine Or.inl ⟨by rfl, ?_⟩; intro W hW; go_simp; try with_reducible rfl) | exact Or.inr ⟨by rfl, rfl⟩) ?_; try simp only [Act.put, List.setIfInBounds_toArray, List.set_cons_zero, List.set_cons_succ])
            (refine takeE Ext.tr 7 (by simp only [List.getElem?_toArray, List.getElem?_cons_succ, List.getElem?_cons_zero]; rfl) (by kernel_rfl) (by kernel_rfl) (by kernel_rfl) (by exact fun _ _ _ h => h) (by first | (refine Or.inl ⟨by rfl, ?_⟩; intro W hW; go_simp; try with_reducible rfl) | exact Or.inr ⟨by rfl, rfl⟩) ?_; try simp only [Act.put, List.setIfInBounds_toArray, List.set_cons_zero, List.set_cons_succ])
            refine wpAnyE_one (i := 8) (by kernel_rfl) (by simp only [List.getElem?_toArray, List.getElem?_cons_succ, List.getElem?_cons_zero]; rfl) (fun K hK => ?_)
            go_simp
            have HC := Lib.hid (n_issued HQd.out (fk r))
            rw [HF.out.is HCC.out.2, ← HCC.out.1] at HC
            refine HC.out.mono ?_
            rintro en u1 ⟨rfl, hE2⟩
            have hE3 := hE2
            clear HC q0 q1 q2
            replace hE := below_on hE hE2
            have q0 : ∀ V, Ext u1 V → V.cell? ⟨bx, 0, none⟩ = some (.int .i64 (r : Nat)) := fun V hV => (HBd.out.below (below_on hE hV)).cell 0 rfl
            have q1 : ∀ V, Ext u1 V → V.cell? ⟨bx, 1, none⟩ = some (.int .i64 5) := fun V hV => (HBd.out.below (below_on hE hV)).cell 1 rfl
            have q2 : ∀ V, Ext u1 V → V.cell? ⟨bx, 2, none⟩ = some (.int .i64 (c1 : Nat)) := fun V hV => (HBd.out.below (below_on hE hV)).cell 2 rfl
            clear hE2
            refine hK.out _ _ hE3 ?_
            clear hK K
            try simp only [Act.put, List.setIfInBounds_toArray, List.set_cons_zero, List.set_cons_succ]
            (refine takeE Ext.tr 9 (by simp only [List.getElem?_toArray, List.getElem?_cons_succ, List.getElem?_cons_zero]; rfl) (by kernel_rfl) (by kernel_rfl) (by kernel_rfl) (by exact fun _ _ _ h => h) (by first | (refine Or.inl ⟨by rfl, ?_⟩; intro W hW; go_simp; try with_reducible rfl) | exact Or.inr ⟨by rfl, rfl⟩) ?_; try simp only [Act.put, List.setIfInBounds_toArray, List.set_cons_zero, List.set_cons_succ])
            (refine takeE Ext.tr 10 (by simp only [List.getElem?_toArray, List.getElem?_cons_succ, List.getElem?_cons_zero]; rfl) (by kernel_rfl) (by kernel_rfl) (by kernel_rfl) (by exact fun _ _ _ h => h) (by first | (refine Or.inl ⟨by rfl, ?_⟩; intro W hW; go_simp; try with_reducible rfl) | exact Or.inr ⟨by rfl, rfl⟩) ?_; try simp only [Act.put, List.setIfInBounds_toArray, List.set_cons_zero, List.set_cons_succ])
            refine wpAnyE_done (by kernel_rfl) ?_ _
            clear q0 q1 q2
            have HQf := Lib.hid (HQd.out.next hE)
            have HBf := Lib.hid (HBd.out.below hE)
            clear hE
            go_wp2
            go_loopw [18] (fun i wr => ∃ (j : Nat), i = .int .i64 j ∧ j ≤ k ∧ PcN w (fun _ => False) wr (w.heap.size + 1) m.tickR.1 ∧ Bk wr 41 bx [.int .i64 (r : Nat), .int .i64 5, .int .i64 (c1 : Nat)]) (fun i _ => 8 - (intOf i).toNat)
            case atStart => exact ⟨0, rfl, Nat.zero_le _, HQf.out, HBf.out⟩
            case round =>
              obtain ⟨j, rfl, hj, hq, hz⟩ := hrel
              clear HQ HZ HQd HBd HQf HBf
              have HQ := Lib.hid hq
              have HZ := Lib.hid hz
              clear hq hz
              by_cases hjk : j < k
              · have hjk' : (j : Int) < k := by omega
                have hnr := HNR.out j hjk
                have hd : (c1 : Int) - ((cnt k (t + 1) j : Nat) : Int) = 0 ∨ (c1 : Int) - ((cnt k (t + 1) j : Nat) : Int) = 1 := by omega
                clear hnr
                rcases hd with hd | hd
                all_goals
                  go_wp2_with fail
                  refine wp_region_E Ext (by kernel_rfl) (fun wd hbd hsz => ?_)
                  have HQd := Lib.hid (HQ.out.next hbd)
                  have HBd := Lib.hid (HZ.out.below hbd)
                  have hE : Below wd.heap.size wd wd := Below.refl _ _
                  have q0 : ∀ V, Ext wd V → V.cell? ⟨bx, 0, none⟩ = some (.int .i64 (r : Nat)) := fun V hV => (HBd.out.below (below_on hE hV)).cell 0 rfl
                  have q1 : ∀ V, Ext wd V → V.cell? ⟨bx, 1, none⟩ = some (.int .i64 5) := fun V hV => (HBd.out.below (below_on hE hV)).cell 1 rfl
                  have q2 : ∀ V, Ext wd V → V.cell? ⟨bx, 2, none⟩ = some (.int .i64 (c1 : Nat)) := fun V hV => (HBd.out.below (below_on hE hV)).cell 2 rfl
                  clear hsz
                  (refine takeE Ext.tr 0 (by simp only [List.getElem?_toArray, List.getElem?_cons_succ, List.getElem?_cons_zero]; rfl) (by kernel_rfl) (by kernel_rfl) (by kernel_rfl) (by exact fun _ _ _ h => h) (by first | (refine Or.inl ⟨by rfl, ?_⟩; intro W hW; go_simp; try with_reducible rfl) | exact Or.inr ⟨by rfl, rfl⟩) ?_; try simp only [Act.put, List.setIfInBounds_toArray, List.set_cons_zero, List.set_cons_succ])
                  (refine takeE Ext.tr 2 (by simp only [List.getElem?_toArray, List.getElem?_cons_succ, List.getElem?_cons_zero]; rfl) (by kernel_rfl) (by kernel_rfl) (by kernel_rfl) (by exact fun _ _ _ h => h) (by first | (refine Or.inl ⟨by rfl, ?_⟩; intro W hW; go_simp; try with_reducible rfl) | exact Or.inr ⟨by rfl, rfl⟩) ?_; try simp only [Act.put, List.setIfInBounds_toArray, List.set_cons_zero, List.set_cons_succ])
                  (refine takeE Ext.tr 3 (by simp only [List.getElem?_toArray, List.getElem?_cons_succ, List.getElem?_cons_zero]; rfl) (by kernel_rfl) (by kernel_rfl) (by kernel_rfl) (by exact fun _ _ _ h => h) (by first | (refine Or.inl ⟨by rfl, ?_⟩; intro W hW; go_simp; try with_reducible rfl) | exact Or.inr ⟨by rfl, rfl⟩) ?_; try simp only [Act.put, List.setIfInBounds_toArray, List.set_cons_zero, List.set_cons_succ])
                  (refine takeE Ext.tr 1 (by simp only [List.getElem?_toArray, List.getElem?_cons_succ, List.getElem?_cons_zero]; rfl) (by kernel_rfl) (by kernel_rfl) (by kernel_rfl) (by exact fun _ _ _ h => h) (by first | (refine Or.inl ⟨by rfl, ?_⟩; intro W hW; go_simp; try with_reducible rfl) | exact Or.inr ⟨by rfl, rfl⟩) ?_; try simp only [Act.put, List.setIfInBounds_toArray, List.set_cons_zero, List.set_cons_succ])
                  (refine takeE Ext.tr 4 (by simp only [List.getElem?_toArray, List.getElem?_cons_succ, List.getElem?_cons_zero]; rfl) (by kernel_rfl) (by kernel_rfl) (by kernel_rfl) (by exact fun _ _ _ h => h) (by first | (refine Or.inl ⟨by rfl, ?_⟩; intro W hW; go_simp; try with_reducible rfl) | exact Or.inr ⟨by rfl, rfl⟩) ?_; try simp only [Act.put, List.setIfInBounds_toArray, List.set_cons_zero, List.set_cons_succ])
                  refine wpAnyE_one (i := 5) (by kernel_rfl) (by simp only [List.getElem?_toArray, List.getElem?_cons_succ, List.getElem?_cons_zero]; rfl) (fun K hK => ?_)
                  go_simp
                  have HC := Lib.hid (n_issued HQd.out (fk j))
                  rw [HF.out.is hjk] at HC
                  refine HC.out.mono ?_
                  rintro en u2 ⟨rfl, hE2⟩
                  have hE3 := hE2
                  clear HC q0 q1 q2
                  replace hE := below_on hE hE2
                  have q0 : ∀ V, Ext u2 V → V.cell? ⟨bx, 0, none⟩ = some (.int .i64 (r : Nat)) := fun V hV => (HBd.out.below (below_on hE hV)).cell 0 rfl
                  have q1 : ∀ V, Ext u2 V → V.cell? ⟨bx, 1, none⟩ = some (.int .i64 5) := fun V hV => (HBd.out.below (below_on hE hV)).cell 1 rfl
                  have q2 : ∀ V, Ext u2 V → V.cell? ⟨bx, 2, none⟩ = some (.int .i64 (c1 : Nat)) := fun V hV => (HBd.out.below (below_on hE hV)).cell 2 rfl
                  clear hE2
                  refine hK.out _ _ hE3 ?_
                  clear hK K
                  try simp only [Act.put, List.setIfInBounds_toArray, List.set_cons_zero, List.set_cons_succ]
                  (refine takeE Ext.tr 6 (by simp only [List.getElem?_toArray, List.getElem?_cons_succ, List.getElem?_cons_zero]; rfl) (by kernel_rfl) (by kernel_rfl) (by kernel_rfl) (by exact fun _ _ _ h => h) (by first | (refine Or.inl ⟨by rfl, ?_⟩; intro W hW; go_simp; try with_reducible rfl) | exact Or.inr ⟨by rfl, rfl⟩) ?_; try simp only [Act.put, List.setIfInBounds_toArray, List.set_cons_zero, List.set_cons_succ])
                  (refine takeE Ext.tr 7 (by simp only [List.getElem?_toArray, List.getElem?_cons_succ, List.getElem?_cons_zero]; rfl) (by kernel_rfl) (by kernel_rfl) (by kernel_rfl) (by exact fun _ _ _ h => h) (by first | (refine Or.inl ⟨by rfl, ?_⟩; intro W hW; go_simp; try with_reducible rfl) | exact Or.inr ⟨by rfl, rfl⟩) ?_; try simp only [Act.put, List.setIfInBounds_toArray, List.set_cons_zero, List.set_cons_succ])
                  refine wpAnyE_done (by kernel_rfl) ?_ _
                  clear q0 q1 q2
                  have HQf := Lib.hid (HQd.out.next hE)
                  have HBf := Lib.hid (HBd.out.below hE)
                  clear hE
                  go_wp2
                  go_roundw
                  case rel => exact ⟨j + 1, by go_num, by omega, HQf.out, HBf.out⟩
                  case measure => simp [intOf]; omega
              · obtain rfl : k = j := by omega
                have HN2 := HQ.out
                have hjk' : ¬ (k : Int) < k := by omega
                go_wp2
                go_roundw
                case rel => exact ⟨t + 1, by go_num, by omega, _, HN2, HF.out⟩
                case measure => simp [intOf]; omega
          · obtain rfl : T = t := by omega
            have HC := n_total hq
            rw [hF.tt] at HC
            have HC := Lib.hid HC
            have HB := Lib.hid hq.bel
            clear hq hF
            go_wp2_with fail
            refine HC.out.mono ?_
            rintro en w6 ⟨rfl, rfl⟩
            go_wp2
            go_ret
            exact ⟨rfl, HB.out⟩
theorem lawFair (n : Int) (ow : Sl Int) (u : Bool) (tu : Int) (w : World) (hn : 0 ≤ n ∧ n < 256) (h : (Ty.sl (.int .u8)).reads w ow) (htu : 0 ≤ tu ∧ tu < 256) :
    Calls Try.prog 4 #[.int .u8 n, .slice ow.A ow.n ow.c, .bool u, .int .u8 tu] w fun en w' => en = .returned (.bool true) ∧ Below w.heap.size w w' := by
  cases u
  · exact lawFairG n ow false tu 0 (.inl ⟨rfl, rfl⟩) w hn h htu
  · exact lawFairG n ow true tu 1 (.inr ⟨rfl, rfl⟩) w hn h htu
end Go.Proofs.Ytdldocbfnjbhmaa
