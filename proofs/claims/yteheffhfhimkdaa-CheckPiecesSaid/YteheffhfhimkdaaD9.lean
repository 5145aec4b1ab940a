/- The law of pieces. -/
import Derived.Test.YteheffhfhimkdaaD5
import Derived.Test.YteheffhfhimkdaaReg
import Derived.RegionTactic
set_option linter.unusedSimpArgs false
set_option linter.unusedVariables false
namespace Go.Proofs.Yteheffhfhimkdaa
open Go.RowKit Go.Shelf

theorem Ints.run_cut2 {P : Program} {t e : TypeId} {k : IntKind} {bytes : Nat} (S : Ints P t e k bytes) (A : Option Addr) (n c s m : Nat) (hs : s + m ≤ n) (hn : n ≤ c) (w : World) :
    (Instr.slice t (.slice A n c) (some (.int .i64 s)) (some (.int .i64 (s + m))) none).run P w = .ok (.slice (cutA A c s) m (c - s)) w := by
  obtain ⟨i, hi, hz, hsz, hby⟩ := info_parts S.hi
  have h1 := run_sliceBound (P := P) (w := w) .i64 (s + m) c .sliceAcap (by omega) (by omega)
  have h2 := run_sliceBound (P := P) (w := w) .i64 s (s + m) .sliceB (by omega) (by omega)
  have e1 : ((s : Int) + m).toNat = s + m := by omega
  simp [Instr.slice, run_underlying S.ht, Instr.sliceBounds, h1, h2, sizeOf, typeInfo, hi, hsz, cutA, e1]
theorem Ints.run_pre {P : Program} {t e : TypeId} {k : IntKind} {bytes : Nat} (S : Ints P t e k bytes) (A : Option Addr) (n c s m : Nat) (hs : s + m ≤ n) (hn : n ≤ c) (w : World) :
    (Instr.slice t (.slice A n c) none (some (.int .i64 (s + m))) none).run P w = .ok (.slice A (s + m) c) w := by
  obtain ⟨i, hi, hz, hsz, hby⟩ := info_parts S.hi
  have h1 := run_sliceBound (P := P) (w := w) .i64 (s + m) c .sliceAcap (by omega) (by omega)
  have h2 := run_sliceBound (P := P) (w := w) .i64 0 (s + m) .sliceB (by omega) (by omega)
  have e1 : ((s : Int) + m).toNat = s + m := by omega
  have e2 : Option.map (fun x => Addr.add x 0) A = A := by
    cases A with
    | none => rfl
    | some x => simp [Addr.add]
  simp [Instr.slice, run_underlying S.ht, Instr.sliceBounds, h1, h2, sizeOf, typeInfo, hi, hsz, e1, e2]
theorem sum_ext (g : Nat) (xs : List Int) (w : World) (h : SumAt w g xs) :
    Calls Try.prog 24 #[.pointer (some ⟨g, 0, none⟩)] w fun e w' => e = .returned (.int .u32 (onV 1 xs)) ∧ Below w.heap.size w w' :=
  (sum_any g xs w h).mono fun e w' ⟨h1, m, h2⟩ => ⟨h1, by rw [h2]; exact Below.drewN_ _ _⟩
theorem onV_bounds (s : Int) (l : List Int) : 0 ≤ onV s l ∧ onV s l < 4294967296 := by
  have := ad_lt (s % 65536 % 65521) (s / 65536 % 65521) l
  unfold onV sm
  omega
theorem SumAt.below {w w' : World} {g : Nat} {xs : List Int} (h : SumAt w g xs) (hb : Below w.heap.size w w') : SumAt w' g xs := Bk.below h hb
theorem SumAt.wr {w w' : World} {g g' : Nat} {xs : List Int} (h : SumAt w g xs) (hw : Wr g' w w') (hp : g ≠ g') : SumAt w' g xs := Bk.wr h hw hp
theorem cutA_ne {A : Option Addr} {c k g : Nat} (h : ∀ ad, A = some ad → ad.block < g) : ∀ ad, cutA A c k = some ad → ad.block ≠ g := by
  intro ad he
  have : ad.block < g := by
    unfold cutA at he
    split at he
    · exact h ad he
    · cases A with
      | none => simp at he
      | some x =>
        simp at he
        subst he
        have := h x rfl
        unfold Addr.add
        split <;> exact this
  omega

set_option maxRecDepth 100000 in
set_option maxHeartbeats 4000000 in
theorem lawPieces (A0 : Option Addr) (n0 c0 : Nat) (xs0 : List Int) (A1 : Option Addr) (n1 c1 : Nat) (ys : List Int) (w : World) (h0 : Rd .u8 w A0 n0 c0 xs0) (k0 : Rd .u8 w A1 n1 c1 ys) :
    Calls Try.prog 5 #[.slice A0 n0 c0, .slice A1 n1 c1] w fun e w' => e = .returned (.bool true) ∧ Below w.heap.size w w' := by
  have H1 := Lib.hid (lawcut_any A0 n0 c0 w h0.2.1 h0.2.2.1)
  obtain ⟨n, hn⟩ : ∃ n, n = min n0 1500 := ⟨_, rfl⟩
  obtain ⟨xs, hx⟩ : ∃ xs, xs = xs0.take n := ⟨_, rfl⟩
  have h : Rd .u8 w A0 n c0 xs := by rw [hx]; exact h0.pre (by omega)
  have hn5 : n ≤ 1500 := by omega
  rw [← hn] at H1
  have HL := Lib.hid h.1
  have hnc := h.2.1
  have hcm := h.2.2.1
  have hn1 := k0.2.1
  have hc1 := k0.2.2.1
  unfold maxLen at hcm hc1
  have HCut := Lib.hid (fun (s m : Nat) (hs : s + m ≤ n) (W : World) => bytesT.run_cut2 A0 n c0 s m hs hnc W)
  have HCut1 := Lib.hid (fun (s : Nat) (hs : s ≤ n) (W : World) => bytesT.run_cut A0 n c0 s hs hnc W)
  clear hn hx h0
  go_enter Try.func5, Try.ntmps5
  go_wp2_with fail
  refine H1.out.mono ?_
  rintro e w' ⟨rfl, rfl⟩
  clear H1
  go_wp2_with fail
  refine (new_any _).mono ?_
  rintro e w1 ⟨g, rfl, hg, hS, hb1⟩
  go_wp2_with fail
  refine (adler_any none 0 0 [] _ (Pts.nil _)).mono ?_
  rintro e w2 ⟨rfl, hb2⟩
  have hbb := hb1.trans (hb2.mono hb1.size)
  have hSS := hS.below hb2
  rw [on_none]
  clear hb1 hb2 hS
  go_wp2_with fail
  go_loopg [6, 7, 8] 30 (fun gk ts ta ti wr => ∃ k a : Nat, gk = 30 - k ∧ k ≤ 30 ∧ k ≤ n1 ∧ a ≤ n ∧ ti = .int .i64 k ∧ ta = .int .i64 a ∧ ts = .int .u32 (onV 1 (xs.take a)) ∧ SumAt wr g (xs.take a) ∧ Below w.heap.size w wr)
  case atStart => exact ⟨0, 0, rfl, by omega, by omega, by omega, rfl, rfl, rfl, hSS, hbb⟩
  case round =>
    obtain ⟨k, a, rfl, hk30, hkn, han, rfl, rfl, rfl, hS, hb⟩ := hrel
    have hx3 := h.below hb
    have hk3 := k0.below hb
    clear hSS hbb
    by_cases hlt : k < n1 ∧ k < 30 ∧ a < n
    · obtain ⟨hlt1, hlt2, hlt3⟩ := hlt
      obtain ⟨gy, oy, rfl, hgy, hcy⟩ := hk3.cell hlt1
      have hyl : k < ys.length := by rw [k0.1]; exact hlt1
      obtain ⟨y, hy⟩ : ∃ y, y = ys[k] := ⟨_, rfl⟩
      rw [show ys.getD k 0 = ys[k] from by simp [hyl], ← hy] at hcy
      obtain ⟨hy0, hy1⟩ : 0 ≤ y ∧ y < 256 := by rw [hy]; exact u8_bounds (k0.2.2.2.2.1 _ (List.getElem_mem _))
      obtain ⟨m, hcase, hm1, hm2⟩ : ∃ m : Nat, (y = m ∧ (m : Int) ≤ (n : Int) - a ∨ (n : Int) - a = m ∧ ((m : Int) < y ∧ (n : Int) - a < y)) ∧ a + m ≤ n ∧ m ≤ 1500 := by
        by_cases hq : y ≤ (n : Int) - a
        · exact ⟨y.toNat, .inl (by omega), by omega, by omega⟩
        · exact ⟨n - a, .inr (by omega), by omega, by omega⟩
      have hcut := HCut.out a m hm1
      clear hy hyl
      rcases hcase with ⟨rfl, hq⟩ | ⟨hnm, hq, hq3⟩
      all_goals
        go_upto_region 11 with fail
        try rw [hnm]
        clear hcy
        go_wp2_with fail
        refine (write_any g (xs.take a) _ m _ ((xs.drop a).take m) _ hS (by exact (hx3.cut (by omega)).pre (by omega)) (fun hm' ad he => cutA_ne (g := g) (fun ad' he' => by have := h.blk (by omega) ad' he'; omega) ad he) (by omega) (by rw [List.length_take]; omega)).mono ?_
        rintro e w3 ⟨rfl, hS3', hw3⟩
        have hT : xs.take a ++ (xs.drop a).take m = xs.take (a + m) := by rw [List.take_add]
        rw [hT] at hS3'
        have hb3 : Below w.heap.size w w3 := hb.trans (hw3.below hg hb.size)
        have hx4 := h.below hb3
        have hob := onV_bounds 1 (xs.take a)
        have HON := Lib.hid (onV_app 1 (xs.take a) ((xs.drop a).take m) (by decide) (by decide))
        have HTT := Lib.hid hT
        clear hT hS hx3 hw3
        go_wp2_with fail
        refine (next_any (onV 1 (xs.take a)) _ m _ ((xs.drop a).take m) _ (by exact (hx4.cut (by omega)).pre (by omega)) (by omega) hob.1 hob.2).mono ?_
        rintro e w4 ⟨rfl, hb4⟩
        rw [HON.out, HTT.out]
        have hS3 := hS3'.below hb4
        have hb5 := hb3.trans (hb4.mono hb3.size)
        have hx3 := h.below hb5
        have HTL := Lib.hid (show (xs.take (a + m)).length = a + m by rw [List.length_take, HL.out]; omega)
        have hpre : a + m ≤ n := hm1
        clear hb4 hb3 hx4 hS3' hcut hob
        go_upto_region 15 with fail
        refine wp_region_E Ext (by kernel_rfl) (fun wd hbd hsz => ?_)
        have hSd := hS3.below hbd
        have k1 := fun (W : World) => bytesT.run_pre A0 n c0 a m hm1 hnc W
        have hxd := hx3.below hbd
        (refine takeE Ext.tr 0 (by simp only [List.getElem?_toArray, List.getElem?_cons_succ, List.getElem?_cons_zero]; rfl) (by kernel_rfl) (by kernel_rfl) (by kernel_rfl) (by exact fun _ _ _ h => h) (by first | (refine Or.inl ⟨by rfl, ?_⟩; intro W hW; go_simp; try with_reducible rfl) | exact Or.inr ⟨by rfl, rfl⟩) ?_; try simp only [Act.put, List.setIfInBounds_toArray, List.set_cons_zero, List.set_cons_succ])
        (refine takeE Ext.tr 2 (by simp only [List.getElem?_toArray, List.getElem?_cons_succ, List.getElem?_cons_zero]; rfl) (by kernel_rfl) (by kernel_rfl) (by kernel_rfl) (by exact fun _ _ _ h => h) (by first | (refine Or.inl ⟨by rfl, ?_⟩; intro W hW; go_simp; try with_reducible rfl) | exact Or.inr ⟨by rfl, rfl⟩) ?_; try simp only [Act.put, List.setIfInBounds_toArray, List.set_cons_zero, List.set_cons_succ])
        (refine takeE Ext.tr 3 (by simp only [List.getElem?_toArray, List.getElem?_cons_succ, List.getElem?_cons_zero]; rfl) (by kernel_rfl) (by kernel_rfl) (by kernel_rfl) (by exact fun _ _ _ h => h) (by first | (refine Or.inl ⟨by rfl, ?_⟩; intro W hW; go_simp; try with_reducible rfl) | exact Or.inr ⟨by rfl, rfl⟩) ?_; try simp only [Act.put, List.setIfInBounds_toArray, List.set_cons_zero, List.set_cons_succ])
        (refine takeE Ext.tr 4 (by simp only [List.getElem?_toArray, List.getElem?_cons_succ, List.getElem?_cons_zero]; rfl) (by kernel_rfl) (by kernel_rfl) (by kernel_rfl) (by exact fun _ _ _ h => h) (by first | (refine Or.inl ⟨by rfl, ?_⟩; intro W hW; go_simp; try with_reducible rfl) | exact Or.inr ⟨by rfl, rfl⟩) ?_; try simp only [Act.put, List.setIfInBounds_toArray, List.set_cons_zero, List.set_cons_succ])
        refine wpAnyE_one (i := 1) (by kernel_rfl) (by simp only [List.getElem?_toArray, List.getElem?_cons_succ, List.getElem?_cons_zero]; rfl) (fun K hK => ?_)
        go_simp
        refine (sum_ext g _ _ (by exact hSd)).mono ?_
        rintro e w6 ⟨rfl, hb6⟩
        have hS6 := hSd.below hb6
        go_simp
        refine hK.out _ _ hb6 ?_
        clear hK K
        try simp only [Act.put, List.setIfInBounds_toArray, List.set_cons_zero, List.set_cons_succ]
        refine wpAnyE_one (i := 5) (by kernel_rfl) (by simp only [List.getElem?_toArray, List.getElem?_cons_succ, List.getElem?_cons_zero]; rfl) (fun K hK => ?_)
        go_simp
        refine (of_any _ _ _ (xs.take (a + m)) _ (by exact (hxd.pre hpre).below hb6)).mono ?_
        rintro e w' ⟨rfl, rfl⟩
        go_simp
        refine hK.out _ _ (Ext.refl _) ?_
        clear hK K
        try simp only [Act.put, List.setIfInBounds_toArray, List.set_cons_zero, List.set_cons_succ]
        (refine takeE Ext.tr 6 (by simp only [List.getElem?_toArray, List.getElem?_cons_succ, List.getElem?_cons_zero]; rfl) (by kernel_rfl) (by kernel_rfl) (by kernel_rfl) (by exact fun _ _ _ h => h) (by first | (refine Or.inl ⟨by rfl, ?_⟩; intro W hW; go_simp; try with_reducible rfl) | exact Or.inr ⟨by rfl, rfl⟩) ?_; try simp only [Act.put, List.setIfInBounds_toArray, List.set_cons_zero, List.set_cons_succ])
        (refine takeE Ext.tr 7 (by simp only [List.getElem?_toArray, List.getElem?_cons_succ, List.getElem?_cons_zero]; rfl) (by kernel_rfl) (by kernel_rfl) (by kernel_rfl) (by exact fun _ _ _ h => h) (by first | (refine Or.inl ⟨by rfl, ?_⟩; intro W hW; go_simp; try with_reducible rfl) | exact Or.inr ⟨by rfl, rfl⟩) ?_; try simp only [Act.put, List.setIfInBounds_toArray, List.set_cons_zero, List.set_cons_succ])
        (refine takeE Ext.tr 8 (by simp only [List.getElem?_toArray, List.getElem?_cons_succ, List.getElem?_cons_zero]; rfl) (by kernel_rfl) (by kernel_rfl) (by kernel_rfl) (by exact fun _ _ _ h => h) (by first | (refine Or.inl ⟨by rfl, ?_⟩; intro W hW; go_simp; try with_reducible rfl) | exact Or.inr ⟨by rfl, rfl⟩) ?_; try simp only [Act.put, List.setIfInBounds_toArray, List.set_cons_zero, List.set_cons_succ])
        (refine takeE Ext.tr 9 (by simp only [List.getElem?_toArray, List.getElem?_cons_succ, List.getElem?_cons_zero]; rfl) (by kernel_rfl) (by kernel_rfl) (by kernel_rfl) (by exact fun _ _ _ h => h) (by first | (refine Or.inl ⟨by rfl, ?_⟩; intro W hW; go_simp; try with_reducible rfl) | exact Or.inr ⟨by rfl, rfl⟩) ?_; try simp only [Act.put, List.setIfInBounds_toArray, List.set_cons_zero, List.set_cons_succ])
        refine wpAnyE_one (i := 10) (by kernel_rfl) (by simp only [List.getElem?_toArray, List.getElem?_cons_succ, List.getElem?_cons_zero]; rfl) (fun K hK => ?_)
        go_simp
        refine (sum_ext g _ _ (by exact hS6)).mono ?_
        rintro e w7 ⟨rfl, hb7⟩
        have hS7 := hS6.below hb7
        go_simp
        refine hK.out _ _ hb7 ?_
        clear hK K
        try simp only [Act.put, List.setIfInBounds_toArray, List.set_cons_zero, List.set_cons_succ]
        (refine takeE Ext.tr 11 (by simp only [List.getElem?_toArray, List.getElem?_cons_succ, List.getElem?_cons_zero]; rfl) (by kernel_rfl) (by kernel_rfl) (by kernel_rfl) (by exact fun _ _ _ h => h) (by first | (refine Or.inl ⟨by rfl, ?_⟩; intro W hW; go_simp; try with_reducible rfl) | exact Or.inr ⟨by rfl, rfl⟩) ?_; try simp only [Act.put, List.setIfInBounds_toArray, List.set_cons_zero, List.set_cons_succ])
        (refine takeE Ext.tr 12 (by simp only [List.getElem?_toArray, List.getElem?_cons_succ, List.getElem?_cons_zero]; rfl) (by kernel_rfl) (by kernel_rfl) (by kernel_rfl) (by exact fun _ _ _ h => h) (by first | (refine Or.inl ⟨by rfl, ?_⟩; intro W hW; go_simp; try with_reducible rfl) | exact Or.inr ⟨by rfl, rfl⟩) ?_; try simp only [Act.put, List.setIfInBounds_toArray, List.set_cons_zero, List.set_cons_succ])
        (refine takeE Ext.tr 13 (by simp only [List.getElem?_toArray, List.getElem?_cons_succ, List.getElem?_cons_zero]; rfl) (by kernel_rfl) (by kernel_rfl) (by kernel_rfl) (by exact fun _ _ _ h => h) (by first | (refine Or.inl ⟨by rfl, ?_⟩; intro W hW; go_simp; try with_reducible rfl) | exact Or.inr ⟨by rfl, rfl⟩) ?_; try simp only [Act.put, List.setIfInBounds_toArray, List.set_cons_zero, List.set_cons_succ])
        (refine takeE Ext.tr 14 (by simp only [List.getElem?_toArray, List.getElem?_cons_succ, List.getElem?_cons_zero]; rfl) (by kernel_rfl) (by kernel_rfl) (by kernel_rfl) (by exact fun _ _ _ h => h) (by first | (refine Or.inl ⟨by rfl, ?_⟩; intro W hW; go_simp; try with_reducible rfl) | exact Or.inr ⟨by rfl, rfl⟩) ?_; try simp only [Act.put, List.setIfInBounds_toArray, List.set_cons_zero, List.set_cons_succ])
        (refine takeE Ext.tr 16 (by simp only [List.getElem?_toArray, List.getElem?_cons_succ, List.getElem?_cons_zero]; rfl) (by kernel_rfl) (by kernel_rfl) (by kernel_rfl) (by exact fun _ _ _ h => h) (by first | (refine Or.inl ⟨by rfl, ?_⟩; intro W hW; go_simp; try with_reducible rfl) | exact Or.inr ⟨by rfl, rfl⟩) ?_; try simp only [Act.put, List.setIfInBounds_toArray, List.set_cons_zero, List.set_cons_succ])
        refine wpAnyE_one (i := 15) (by kernel_rfl) (by simp only [List.getElem?_toArray, List.getElem?_cons_succ, List.getElem?_cons_zero]; rfl) (fun K hK => ?_)
        go_simp
        refine (len_any g _ _ (by exact hS7)).mono ?_
        rintro e w' ⟨rfl, rfl⟩
        rw [HTL.out]
        go_simp
        refine hK.out _ _ (Ext.refl _) ?_
        clear hK K
        try simp only [Act.put, List.setIfInBounds_toArray, List.set_cons_zero, List.set_cons_succ]
        (refine takeE Ext.tr 17 (by simp only [List.getElem?_toArray, List.getElem?_cons_succ, List.getElem?_cons_zero]; rfl) (by kernel_rfl) (by kernel_rfl) (by kernel_rfl) (by exact fun _ _ _ h => h) (by first | (refine Or.inl ⟨by rfl, ?_⟩; intro W hW; go_simp; try with_reducible rfl) | exact Or.inr ⟨by rfl, rfl⟩) ?_; try simp only [Act.put, List.setIfInBounds_toArray, List.set_cons_zero, List.set_cons_succ])
        (refine takeE Ext.tr 18 (by simp only [List.getElem?_toArray, List.getElem?_cons_succ, List.getElem?_cons_zero]; rfl) (by kernel_rfl) (by kernel_rfl) (by kernel_rfl) (by exact fun _ _ _ h => h) (by first | (refine Or.inl ⟨by rfl, ?_⟩; intro W hW; go_simp; try with_reducible rfl) | exact Or.inr ⟨by rfl, rfl⟩) ?_; try simp only [Act.put, List.setIfInBounds_toArray, List.set_cons_zero, List.set_cons_succ])
        refine wpAnyE_done (by kernel_rfl) ?_ _
        go_wp2_with fail
        go_roundg (30 - (k + 1))
        case measure => omega
        case rel => exact ⟨k + 1, a + m, rfl, by omega, by omega, by omega, by go_num, by go_num, rfl, hS7, hb5.trans (((hbd.trans (hb6.mono hbd.size)).trans (hb7.mono (Nat.le_trans hbd.size hb6.size))).mono hb5.size)⟩
    · clear HCut
      have hcut := HCut1.out a han
      have hgl : g < wr.heap.size := hS.lt
      have HW3 := Lib.hid (u8_wf_of (l := [1, 2, 3]) (by decide))
      have HTD := Lib.hid (List.take_append_drop a xs)
      have hend : n1 ≤ k ∨ (k < n1 ∧ 30 ≤ k) ∨ (k < n1 ∧ k < 30 ∧ n ≤ a) := by omega
      clear hlt
      rcases hend with h1 | ⟨h1, h2⟩ | ⟨h1, h2, h3⟩
      all_goals
        go_wp2_with fail
        refine (fork_any g _ _ hS).mono ?_
        rintro e w3 ⟨g', rfl, hg', hF, hb3⟩
        try clear h3
        have hS3 := (hS.below hb3).alloc (.cells #[.int .u8 1, .int .u8 2, .int .u8 3] 5)
        have hF3 := Bk.alloc hF (.cells #[.int .u8 1, .int .u8 2, .int .u8 3] 5)
        have hlit := Rd.lit w3 5 [1, 2, 3] HW3.out (by simp)
        have hb3' := hb.trans (hb3.mono hb.size)
        have hb4 := hb3'.alloc hb3'.size (.cells #[.int .u8 1, .int .u8 2, .int .u8 3] 5)
        have hz3 := hb3.size
        have hne : g' ≠ g := by omega
        have hw3 : w.heap.size ≤ g' := by have := hb.size; omega
        clear hb3 hb3' hS hF
        go_wp2_with fail
        refine (write_any g (xs.take a) _ 3 3 [1, 2, 3] _ hS3 (by exact hlit) (fun _ ad he => by injection he with he; subst he; show w3.heap.size ≠ g; omega) (by decide) (by rw [List.length_take]; omega)).mono ?_
        rintro e w5 ⟨rfl, -, hw5⟩
        have hF5 := SumAt.wr hF3 hw5 hne
        have hb5 := hb4.trans (hw5.below hg hb4.size)
        have hx5 := h.below hb5
        clear hw5 hb4 hlit hF3 hS3 hz3
        go_wp2_with fail
        refine (write_any g' (xs.take a) _ (n - a) _ (xs.drop a) _ hF5 (by exact hx5.cut han) (fun hm' ad he => cutA_ne (g := g') (fun ad' he' => by have := h.blk (by omega) ad' he'; omega) ad he) (by omega) (by rw [List.length_take]; omega)).mono ?_
        rintro e w6 ⟨rfl, hF6, hw6⟩
        rw [HTD.out] at hF6
        have hb6 := hb5.trans (hw6.below hw3 hb5.size)
        clear hw6 hb5 hx5 hF5 hcut
        go_wp2_with fail
        refine (sum_ext g' _ _ hF6).mono ?_
        rintro e w7 ⟨rfl, hb7⟩
        have hF7 := hF6.below hb7
        have hb8 := hb6.trans (hb7.mono hb6.size)
        clear hF6 hb6 hb7
        go_wp2_with fail
        refine (of_any _ _ _ xs _ (by exact h.below hb8)).mono ?_
        rintro e w' ⟨rfl, rfl⟩
        go_wp2_with fail
        refine (adler_any _ 1 1 _ _ (by exact Pts.one (h.below hb8) (by omega))).mono ?_
        rintro e w9 ⟨rfl, hb9⟩
        rw [cat_one]
        have hF9 := SumAt.below (Bk.alloc hF7 _) hb9
        have hb10 := (hb8.alloc hb8.size _).trans (hb9.mono (by have := hb8.size; simp; omega))
        clear hF7 hb8 hb9
        go_wp2_with fail
        refine (sum_ext g' _ _ hF9).mono ?_
        rintro e w11 ⟨rfl, hb11⟩
        have hb12 := hb10.trans (hb11.mono hb10.size)
        clear hb10 hb11 hF9
        go_wp2_with fail
        refine (awake_any _).mono ?_
        rintro e w13 ⟨rfl, hb13⟩
        go_wp2
        go_ret
        exact ⟨rfl, hb12.trans (hb13.mono hb12.size)⟩
end Go.Proofs.Yteheffhfhimkdaa
