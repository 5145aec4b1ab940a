/- The document's wheel: its keys, a timer taken out. -/
import Derived.Test.YtainmpeiicinmaaW11
set_option linter.unusedSimpArgs false
set_option linter.unusedVariables false
set_option maxRecDepth 100000
namespace Go.Proofs.Ytainmpeiicinmaa.Wi
open Go.RowKit Go.Shelf
section
variable {w w' w1 w2 : World} {g p : Nat} {m m' : Wm Int} {l : List (Tm Int)} {A : Option Addr} {n c : Nat} {T : TypeId}
theorem below_apd {e : TypeId} {W w2 : World} {N : Nat} {A A' : Option Addr} {n c n' c' : Nat} {xs ys : List Value} (hN : N ≤ W.heap.size) (hl : Lst e (N ≤ ·) W A n c xs) (hap : Apd e (BlkOf A) W (.slice A' n' c') ys w2) : Lst e (N ≤ ·) w2 A' n' c' ys ∧ Below N W w2 := by
  obtain ⟨⟨A2, n2, c2, he, hl'⟩, hst⟩ := hap
  injection he with e1 e2 e3
  subst e1 e2 e3
  have hA : ∀ k, BlkOf A k → N ≤ k := by rintro k ⟨ad, he, rfl⟩; exact (hl.blk ad he).1
  exact ⟨hl'.mono (by
    rintro k (hk | hk)
    · exact hA k hk
    · omega), hst.below hN hA⟩
theorem below_apdR {sz : Nat} {e : TypeId} {W w2 : World} {N : Nat} {A A' : Option Addr} {n c n' c' : Nat} {xs ys : List Value} (hN : N ≤ W.heap.size) (hl : LstR sz e (N ≤ ·) W A n c xs) (hap : ApdR sz e (BlkOf A) W (.slice A' n' c') ys w2) : LstR sz e (N ≤ ·) w2 A' n' c' ys ∧ Below N W w2 := by
  obtain ⟨⟨A2, n2, c2, he, hl'⟩, hst⟩ := hap
  injection he with e1 e2 e3
  subst e1 e2 e3
  have hA : ∀ k, BlkOf A k → N ≤ k := by rintro k ⟨ad, he, rfl⟩; exact (hl.blk ad he).1
  exact ⟨hl'.mono (by
    rintro k (hk | hk)
    · exact hA k hk
    · omega), hst.below hN hA⟩
theorem keys_at {l : List (Tm Int)} {j : Nat} (h : j < l.length) : kvs ((l.take (j + 1)).map Tm.k) = kvs ((l.take j).map Tm.k) ++ [.int .i64 l[j].k] := by
  rw [List.take_add_one, List.getElem?_eq_getElem h]
  unfold kvs
  rw [List.map_append, List.map_append]
  rfl
set_option maxHeartbeats 2000000 in
theorem r_keys (h : RvL w A n c m.l) (hlen : m.l.length ≤ 2000) : Calls Try.prog 37 #[.agg #[.slice A n c, .int .i64 m.most, .int .i64 m.now, .int .i64 m.sets]] w (Made 3 (kvs m.keys) w) := by
  obtain ⟨q, hb⟩ := bx1 w m A n c
  have H := Lib.hid (And.intro (h.below hb) q)
  have HN := Lib.hid h.hn
  have hnb : n ≤ 2000 := by rw [h.hn]; exact hlen
  have HB := Lib.hid hb
  have c0 := q.cell 0 rfl
  have hz : (w.alloc (.cells #[.slice A n c, .int .i64 m.most, .int .i64 m.now, .int .i64 m.sets] 29)).heap.size = w.heap.size + 1 := by simp
  clear h hb q hlen
  go_enter Try.func37, Try.ntmps37
  go_wp2
  obtain ⟨w1, hw1⟩ : ∃ w1, w1 = w.alloc (.cells #[.slice A n c, .int .i64 m.most, .int .i64 m.now, .int .i64 m.sets] 29) := ⟨_, rfl⟩
  rw [← hw1] at H HB hz c0 ⊢
  clear hw1
  go_loopw [3, 4] (fun s i W => ∃ j : Nat, j ≤ n ∧ i = .int .i64 j ∧ ∃ A' n' c', s = .slice A' n' c' ∧ Lst 3 (w1.heap.size ≤ ·) W A' n' c' (kvs ((m.l.take j).map Tm.k)) ∧ Below w1.heap.size w1 W) (fun s i _ => n - (intOf i).toNat)
  case atStart => exact ⟨0, Nat.zero_le _, rfl, none, 0, 0, rfl, Lst.nil _ _ _, Below.refl _ _⟩
  case round =>
    clear c0
    obtain ⟨j, hj, rfl, A', n', c', rfl, hl, hb⟩ := hrel
    have c0 := (H.out.2.below hb).cell 0 rfl
    by_cases hlt : j < n
    · have hjl : j < m.l.length := by rw [← HN.out]; exact hlt
      obtain ⟨g1, o, rfl, hg1, hra⟩ := (H.out.1.below hb).row hjl
      have d0 := hra 0 (.int .i64 m.l[j].k) rfl
      rw [Nat.add_zero] at d0
      have hlt' : (j : Int) < n := by omega
      have hn' : n' ≤ 2000 := by
        have := hl.1
        rw [kvs_len, List.length_map, List.length_take] at this
        omega
      have HK := Lib.hid (keys_at hjl)
      have hla := (hl.alloc (.cells #[.int .i64 m.l[j].k] 3)).tight
      have hu := RdV.one wr 3 (.int .i64 m.l[j].k) rfl
      have HL := Lib.hid (And.intro hl hb)
      generalize m.l[j].k = y at *
      clear hra hl hb
      go_wp2_with (first
        | (refine wpList_build_one (x := .int .i64 y) eltK rfl (.tmp 18) rfl rfl rfl ?_)
        | (refine wpList_append_lst eltK rfl (.tmp 12) (.tmp 19) rfl rfl hla rfl hu (by omega) ?_
           rintro v w3 hap
           obtain ⟨A3, n3, c3, rfl, hl3⟩ := hap.ex
           have HAP := Lib.hid hap
           clear hap hl3 hla hu))
      go_roundw
      case rel =>
        obtain ⟨k1, k2⟩ := below_apd (by have := HL.out.2.size; simp; omega) (HL.out.1.alloc _) HAP.out
        exact ⟨j + 1, by omega, by go_num, A3, n3, c3, rfl, by rw [HK.out]; exact k1, (HL.out.2.trans ((Below.refl _ _).alloc HL.out.2.size _)).trans k2⟩
      case measure => simp [intOf]; omega
    · obtain rfl : j = n := by omega
      have HL := Lib.hid (And.intro hl hb)
      clear hl hb
      go_wp2
      go_ret
      refine ⟨A', n', c', rfl, ?_, HB.out.trans (HL.out.2.mono (by omega))⟩
      have := HL.out.1
      rw [List.take_of_length_le (by rw [HN.out]; exact Nat.le_refl _)] at this
      exact this.mono fun k hk => by omega
theorem flat2_at {m : Wm Int} {j : Nat} (h : j < m.l.length) : kvs (flat2 ((outs m).take (j + 1))) = kvs (flat2 ((outs m).take j)) ++ [.int .i64 m.l[j].k, .int .i64 (m.l[j].d - m.now)] := by
  rw [List.take_add_one, List.getElem?_eq_getElem (by rw [outs_len]; exact h)]
  simp [kvs, flat2, outs]
set_option maxHeartbeats 2000000 in
theorem r_all (h : RvL w A n c m.l) (hnm : m.Nm) (most : Int) (hm0 : 0 ≤ most) : Calls Try.prog 20 #[.agg #[.slice A n c, .int .i64 m.most, .int .i64 m.now, .int .i64 m.sets], .int .i64 most] w (Made 3 (kvs (flat2 ((outs m).take most.toNat))) w) := by
  obtain ⟨q, hb⟩ := bx1 w m A n c
  have H := Lib.hid (And.intro (h.below hb) q)
  have HN := Lib.hid h.hn
  have hnb : n ≤ 1024 := by rw [h.hn]; exact hnm.ln
  have HNM := Lib.hid hnm
  have HB := Lib.hid hb
  have c0 := q.cell 0 rfl
  have c2 := q.cell 2 rfl
  have hz : (w.alloc (.cells #[.slice A n c, .int .i64 m.most, .int .i64 m.now, .int .i64 m.sets] 29)).heap.size = w.heap.size + 1 := by simp
  clear h hb q hnm
  go_enter Try.func20, Try.ntmps20
  go_wp2
  obtain ⟨w1, hw1⟩ : ∃ w1, w1 = w.alloc (.cells #[.slice A n c, .int .i64 m.most, .int .i64 m.now, .int .i64 m.sets] 29) := ⟨_, rfl⟩
  rw [← hw1] at H HB hz c0 c2 ⊢
  clear hw1
  go_loopw [5, 6] (fun s i W => ∃ j : Nat, j ≤ n ∧ (j : Int) ≤ most ∧ i = .int .i64 j ∧ ∃ A' n' c', s = .slice A' n' c' ∧ Lst 3 (w1.heap.size ≤ ·) W A' n' c' (kvs (flat2 ((outs m).take j))) ∧ Below w1.heap.size w1 W) (fun s i _ => n - (intOf i).toNat)
  case atStart => exact ⟨0, Nat.zero_le _, hm0, rfl, none, 0, 0, rfl, Lst.nil _ _ _, Below.refl _ _⟩
  case round =>
    clear c0 c2
    obtain ⟨j, hj, hjm, rfl, A', n', c', rfl, hl, hb⟩ := hrel
    have c0 := (H.out.2.below hb).cell 0 rfl
    have c2 := (H.out.2.below hb).cell 2 rfl
    by_cases hgo : j < n ∧ (j : Int) < most
    · obtain ⟨hlt, hlm⟩ := hgo
      have hjl : j < m.l.length := by rw [← HN.out]; exact hlt
      obtain ⟨g1, o, rfl, hg1, hra⟩ := (H.out.1.below hb).row hjl
      have hlt' : (j : Int) < n := by omega
      have hn' : n' ≤ 4000 := by
        have := hl.1
        rw [kvs_len, flat2_len, List.length_take] at this
        omega
      have hdb := HNM.out.db _ (List.getElem_mem hjl)
      have hn0 := HNM.out.n0
      have hnow := HNM.out.nb
      have HK := Lib.hid (flat2_at hjl)
      have HL := Lib.hid (And.intro hl hb)
      have HQ := Lib.hid (H.out.2.below hb)
      have hw1 : IntKind.i64.wrap (m.l[j].d - m.now) = m.l[j].d - m.now := by rw [IntKind.wrap_i64]; omega
      generalize m.l[j].k = y at *
      generalize m.l[j].d = z at *
      generalize m.l[j].s = u at *
      have HRA := Lib.hid (And.intro hg1 hra)
      clear hra hl hb c0 c2 hj hjm
      have c0 := HQ.out.cell 0 rfl
      go_wp2_with fail
      clear c0
      refine wp_region_L Ext [17] (by kernel_rfl) (fun wd hbd hsz => ?_)
      have HLD := Lib.hid (And.intro (HL.out.1.below hbd) hbd)
      have HQD := Lib.hid (HQ.out.below hbd)
      have c0 : ∀ W, Ext wd W → W.cell? ⟨w.heap.size, 0, none⟩ = some (.slice (some ⟨g1, o, none⟩) n c) := fun W hW => (HQD.out.below hW).cell 0 rfl
      have c2 : ∀ W, Ext wd W → W.cell? ⟨w.heap.size, 2, none⟩ = some (.int .i64 m.now) := fun W hW => (HQD.out.below hW).cell 2 rfl
      have d0 : ∀ W, Ext wd W → W.cell? ⟨g1, o + j * 3, none⟩ = some (.int .i64 y) := fun W hW => by
        have := range_below HRA.out.2 HRA.out.1 (below_on hbd hW) 0 (.int .i64 y) rfl
        rwa [Nat.add_zero] at this
      have d1 : ∀ W, Ext wd W → W.cell? ⟨g1, o + j * 3 + 1, none⟩ = some (.int .i64 z) := fun W hW => range_below HRA.out.2 HRA.out.1 (below_on hbd hW) 1 (.int .i64 z) rfl
      clear hsz hbd
      (refine takeL Ext.tr 0 (by simp only [List.getElem?_toArray, List.getElem?_cons_succ, List.getElem?_cons_zero]; rfl) (by kernel_rfl) (by kernel_rfl) (by kernel_rfl) (by kernel_rfl) (by exact fun _ _ _ h => h) (by first | (refine Or.inl ⟨by rfl, ?_⟩; intro W hW; go_simp; try with_reducible rfl) | exact Or.inr ⟨by rfl, rfl⟩) ?_; try simp only [Act.put, List.setIfInBounds_toArray, List.set_cons_zero, List.set_cons_succ])
      (refine takeL Ext.tr 1 (by simp only [List.getElem?_toArray, List.getElem?_cons_succ, List.getElem?_cons_zero]; rfl) (by kernel_rfl) (by kernel_rfl) (by kernel_rfl) (by kernel_rfl) (by exact fun _ _ _ h => h) (by first | (refine Or.inl ⟨by rfl, ?_⟩; intro W hW; go_simp; try with_reducible rfl) | exact Or.inr ⟨by rfl, rfl⟩) ?_; try simp only [Act.put, List.setIfInBounds_toArray, List.set_cons_zero, List.set_cons_succ])
      (refine takeL Ext.tr 3 (by simp only [List.getElem?_toArray, List.getElem?_cons_succ, List.getElem?_cons_zero]; rfl) (by kernel_rfl) (by kernel_rfl) (by kernel_rfl) (by kernel_rfl) (by exact fun _ _ _ h => h) (by first | (refine Or.inl ⟨by rfl, ?_⟩; intro W hW; go_simp; try with_reducible rfl) | exact Or.inr ⟨by rfl, rfl⟩) ?_; try simp only [Act.put, List.setIfInBounds_toArray, List.set_cons_zero, List.set_cons_succ])
      (refine takeL Ext.tr 7 (by simp only [List.getElem?_toArray, List.getElem?_cons_succ, List.getElem?_cons_zero]; rfl) (by kernel_rfl) (by kernel_rfl) (by kernel_rfl) (by kernel_rfl) (by exact fun _ _ _ h => h) (by first | (refine Or.inl ⟨by rfl, ?_⟩; intro W hW; go_simp; try with_reducible rfl) | exact Or.inr ⟨by rfl, rfl⟩) ?_; try simp only [Act.put, List.setIfInBounds_toArray, List.set_cons_zero, List.set_cons_succ])
      (refine takeL Ext.tr 9 (by simp only [List.getElem?_toArray, List.getElem?_cons_succ, List.getElem?_cons_zero]; rfl) (by kernel_rfl) (by kernel_rfl) (by kernel_rfl) (by kernel_rfl) (by exact fun _ _ _ h => h) (by first | (refine Or.inl ⟨by rfl, ?_⟩; intro W hW; go_simp; try with_reducible rfl) | exact Or.inr ⟨by rfl, rfl⟩) ?_; try simp only [Act.put, List.setIfInBounds_toArray, List.set_cons_zero, List.set_cons_succ])
      (refine takeL Ext.tr 13 (by simp only [List.getElem?_toArray, List.getElem?_cons_succ, List.getElem?_cons_zero]; rfl) (by kernel_rfl) (by kernel_rfl) (by kernel_rfl) (by kernel_rfl) (by exact fun _ _ _ h => h) (by first | (refine Or.inl ⟨by rfl, ?_⟩; intro W hW; go_simp; try with_reducible rfl) | exact Or.inr ⟨by rfl, rfl⟩) ?_; try simp only [Act.put, List.setIfInBounds_toArray, List.set_cons_zero, List.set_cons_succ])
      (refine takeL Ext.tr 2 (by simp only [List.getElem?_toArray, List.getElem?_cons_succ, List.getElem?_cons_zero]; rfl) (by kernel_rfl) (by kernel_rfl) (by kernel_rfl) (by kernel_rfl) (by exact fun _ _ _ h => h) (by first | (refine Or.inl ⟨by rfl, ?_⟩; intro W hW; go_simp; try with_reducible rfl) | exact Or.inr ⟨by rfl, rfl⟩) ?_; try simp only [Act.put, List.setIfInBounds_toArray, List.set_cons_zero, List.set_cons_succ])
      (refine takeL Ext.tr 8 (by simp only [List.getElem?_toArray, List.getElem?_cons_succ, List.getElem?_cons_zero]; rfl) (by kernel_rfl) (by kernel_rfl) (by kernel_rfl) (by kernel_rfl) (by exact fun _ _ _ h => h) (by first | (refine Or.inl ⟨by rfl, ?_⟩; intro W hW; go_simp; try with_reducible rfl) | exact Or.inr ⟨by rfl, rfl⟩) ?_; try simp only [Act.put, List.setIfInBounds_toArray, List.set_cons_zero, List.set_cons_succ])
      (refine takeL Ext.tr 14 (by simp only [List.getElem?_toArray, List.getElem?_cons_succ, List.getElem?_cons_zero]; rfl) (by kernel_rfl) (by kernel_rfl) (by kernel_rfl) (by kernel_rfl) (by exact fun _ _ _ h => h) (by first | (refine Or.inl ⟨by rfl, ?_⟩; intro W hW; go_simp; try with_reducible rfl) | exact Or.inr ⟨by rfl, rfl⟩) ?_; try simp only [Act.put, List.setIfInBounds_toArray, List.set_cons_zero, List.set_cons_succ])
      (refine takeL Ext.tr 4 (by simp only [List.getElem?_toArray, List.getElem?_cons_succ, List.getElem?_cons_zero]; rfl) (by kernel_rfl) (by kernel_rfl) (by kernel_rfl) (by kernel_rfl) (by exact fun _ _ _ h => h) (by first | (refine Or.inl ⟨by rfl, ?_⟩; intro W hW; go_simp; try with_reducible rfl) | exact Or.inr ⟨by rfl, rfl⟩) ?_; try simp only [Act.put, List.setIfInBounds_toArray, List.set_cons_zero, List.set_cons_succ])
      (refine takeL Ext.tr 10 (by simp only [List.getElem?_toArray, List.getElem?_cons_succ, List.getElem?_cons_zero]; rfl) (by kernel_rfl) (by kernel_rfl) (by kernel_rfl) (by kernel_rfl) (by exact fun _ _ _ h => h) (by first | (refine Or.inl ⟨by rfl, ?_⟩; intro W hW; go_simp; try with_reducible rfl) | exact Or.inr ⟨by rfl, rfl⟩) ?_; try simp only [Act.put, List.setIfInBounds_toArray, List.set_cons_zero, List.set_cons_succ])
      (refine takeL Ext.tr 5 (by simp only [List.getElem?_toArray, List.getElem?_cons_succ, List.getElem?_cons_zero]; rfl) (by kernel_rfl) (by kernel_rfl) (by kernel_rfl) (by kernel_rfl) (by exact fun _ _ _ h => h) (by first | (refine Or.inl ⟨by rfl, ?_⟩; intro W hW; go_simp; try with_reducible rfl) | exact Or.inr ⟨by rfl, rfl⟩) ?_; try simp only [Act.put, List.setIfInBounds_toArray, List.set_cons_zero, List.set_cons_succ])
      (refine takeL Ext.tr 11 (by simp only [List.getElem?_toArray, List.getElem?_cons_succ, List.getElem?_cons_zero]; rfl) (by kernel_rfl) (by kernel_rfl) (by kernel_rfl) (by kernel_rfl) (by exact fun _ _ _ h => h) (by first | (refine Or.inl ⟨by rfl, ?_⟩; intro W hW; go_simp; try with_reducible rfl) | exact Or.inr ⟨by rfl, rfl⟩) ?_; try simp only [Act.put, List.setIfInBounds_toArray, List.set_cons_zero, List.set_cons_succ])
      (refine takeL Ext.tr 6 (by simp only [List.getElem?_toArray, List.getElem?_cons_succ, List.getElem?_cons_zero]; rfl) (by kernel_rfl) (by kernel_rfl) (by kernel_rfl) (by kernel_rfl) (by exact fun _ _ _ h => h) (by first | (refine Or.inl ⟨by rfl, ?_⟩; intro W hW; go_simp; try with_reducible rfl) | exact Or.inr ⟨by rfl, rfl⟩) ?_; try simp only [Act.put, List.setIfInBounds_toArray, List.set_cons_zero, List.set_cons_succ])
      (refine takeL Ext.tr 12 (by simp only [List.getElem?_toArray, List.getElem?_cons_succ, List.getElem?_cons_zero]; rfl) (by kernel_rfl) (by kernel_rfl) (by kernel_rfl) (by kernel_rfl) (by exact fun _ _ _ h => h) (by first | (refine Or.inl ⟨by rfl, ?_⟩; intro W hW; go_simp; try with_reducible rfl) | exact Or.inr ⟨by rfl, rfl⟩) ?_; try simp only [Act.put, List.setIfInBounds_toArray, List.set_cons_zero, List.set_cons_succ])
      (refine takeL Ext.tr 15 (by simp only [List.getElem?_toArray, List.getElem?_cons_succ, List.getElem?_cons_zero]; rfl) (by kernel_rfl) (by kernel_rfl) (by kernel_rfl) (by kernel_rfl) (by exact fun _ _ _ h => h) (by first | (refine Or.inl ⟨by rfl, ?_⟩; intro W hW; go_simp; try with_reducible rfl) | exact Or.inr ⟨by rfl, rfl⟩) ?_; try simp only [Act.put, List.setIfInBounds_toArray, List.set_cons_zero, List.set_cons_succ])
      refine wpAnyL_one (i := 16) (by kernel_rfl) (by simp only [List.getElem?_toArray, List.getElem?_cons_succ, List.getElem?_cons_zero]; rfl) (fun K hK => ?_)
      go_simp
      refine hK.out _ _ (.inr ((Below.refl _ _).alloc (Nat.le_refl _) _)) ?_
      clear hK K
      try simp only [Act.put, List.setIfInBounds_toArray, List.set_cons_zero, List.set_cons_succ]
      refine wpAnyL_one (i := 17) (by kernel_rfl) (by simp only [List.getElem?_toArray, List.getElem?_cons_succ, List.getElem?_cons_zero]; rfl) (fun K hK => ?_)
      refine opwp_append_lst eltK rfl (.tmp 19) (.tmp 35) rfl rfl ((HLD.out.1.alloc (.cells #[.int .i64 y, .int .i64 (z - m.now)] 3)).tight) rfl (RdV.lit wd 3 [.int .i64 y, .int .i64 (z - m.now)] (by intro v hv; simp at hv; rcases hv with rfl | rfl <;> rfl) (by simp)) (by show (n' + 2) * 8 ≤ 140737488355328; omega) ?_
      rintro v w3 hap
      obtain ⟨A3, n3, c3, rfl, hl3⟩ := hap.ex
      have hz9 := HLD.out.2.size
      have hz8 := HL.out.2.size
      have HAP : Hid (Lst 3 (w1.heap.size ≤ ·) w3 A3 n3 c3 (kvs (flat2 ((outs m).take j)) ++ [.int .i64 y, .int .i64 (z - m.now)]) ∧ Below w1.heap.size wr w3) := Lib.hid (by
        obtain ⟨k1, k2⟩ := below_apd (N := w1.heap.size) (by simp; omega) (HLD.out.1.alloc _) hap
        exact ⟨k1, (HLD.out.2.mono hz8).trans (((Below.refl _ _).alloc (by omega) _).trans k2)⟩)
      clear hap hl3 hz8 hz9
      refine hK.out _ _ (.inl (by decide)) ?_
      clear hK K
      try simp only [Act.put, List.setIfInBounds_toArray, List.set_cons_zero, List.set_cons_succ]
      (refine takeL Ext.tr 18 (by simp only [List.getElem?_toArray, List.getElem?_cons_succ, List.getElem?_cons_zero]; rfl) (by kernel_rfl) (by kernel_rfl) (by kernel_rfl) (by kernel_rfl) (by exact fun _ _ _ h => h) (by first | (refine Or.inl ⟨by rfl, ?_⟩; intro W hW; go_simp; try with_reducible rfl) | exact Or.inr ⟨by rfl, rfl⟩) ?_; try simp only [Act.put, List.setIfInBounds_toArray, List.set_cons_zero, List.set_cons_succ])
      refine wpAnyL_done (by kernel_rfl) ?_ _
      clear c0 c2 d0 d1
      go_wp2
      go_roundw
      case rel =>
        obtain ⟨k1, k2⟩ := HAP.out
        exact ⟨j + 1, by omega, by omega, by go_num, A3, n3, c3, rfl, by rw [HK.out]; exact k1, HL.out.2.trans k2⟩
      case measure => simp [intOf]; omega
    · have HL := Lib.hid (And.intro hl hb)
      have HT : Hid ((outs m).take most.toNat = (outs m).take j) := Lib.hid (by
        by_cases h1 : j < n
        · have : j = most.toNat := by omega
          rw [this]
        · rw [List.take_of_length_le (by rw [outs_len, ← HN.out]; omega), List.take_of_length_le (by rw [outs_len, ← HN.out]; omega)])
      by_cases h1 : j < n
      · have h2 : most ≤ (j : Int) := by omega
        have hlt' : (j : Int) < n := by omega
        clear hl hb hgo h1 hjm
        go_wp2
        go_ret
        refine ⟨A', n', c', rfl, ?_, HB.out.trans (HL.out.2.mono (by omega))⟩
        rw [HT.out]
        exact HL.out.1.mono fun k hk => by omega
      · have h2 : (n : Int) ≤ j := by omega
        clear hl hb hgo h1 hjm
        go_wp2
        go_ret
        refine ⟨A', n', c', rfl, ?_, HB.out.trans (HL.out.2.mono (by omega))⟩
        rw [HT.out]
        exact HL.out.1.mono fun k hk => by omega
end
end Go.Proofs.Ytainmpeiicinmaa.Wi
