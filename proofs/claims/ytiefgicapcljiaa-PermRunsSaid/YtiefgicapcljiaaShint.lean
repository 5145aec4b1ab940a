/- Shuffle of int. -/
import Derived.Test.YtiefgicapcljiaaP4
import Derived.Lib.SliceRun
set_option linter.unusedSimpArgs false
set_option linter.unusedVariables false
namespace Go.Proofs.Ytiefgicapcljiaa.Shint
open Go.RowKit Go.Shelf
attribute [local go_sem] Oper.semAt_some
theorem elt : Elt Try.prog 23 3 (.int .i64 0) 8 := ⟨rfl, by kernel_rfl, rfl, rfl, by decide⟩
set_option maxHeartbeats 400000 in
theorem clone_any (A : Option Addr) (n c : Nat) (vs : List Value) (w : World) (h : RdV w A n c vs) (hn : n ≤ 1000000) : Calls Try.prog 29 #[.slice A n c] w (Made 3 vs w) := by
  have hq : ∀ W, (binOp .eql 23 (.slice A n c) (.slice none 0 0)).run Try.prog W = .ok (.bool A.isNone) W := fun W => Lib.run_eql_slice_nil (P := Try.prog) W 23 3 A n c 0 0 Try.underlying23
  rcases A with _ | ad
  · have hc := h.2.2.2.1 rfl
    subst hc
    obtain rfl : n = 0 := by have := h.2.1; omega
    obtain rfl : vs = [] := List.eq_nil_of_length_eq_zero h.1
    go_enter Try.func29, Try.ntmps29
    go_wp2
    go_ret
    exact ⟨none, 0, 0, rfl, Lst.nil _ _ _, Below.refl _ _⟩
  · have hl : Lst 3 (w.heap.size ≤ ·) (w.alloc (.cells #[] 3)) (some ⟨w.heap.size, 0, none⟩) 0 0 [] := Lst.made w 3 #[] 0 [] rfl (Nat.le_refl _) (Nat.zero_le _) (by simp) (by simp)
    have hu := h.alloc (.cells #[] 3)
    have hb : Below w.heap.size w (w.alloc (.cells #[] 3)) := (Below.refl _ _).alloc (Nat.le_refl _) _
    have hz : w.heap.size ≤ (w.alloc (.cells #[] 3)).heap.size := hb.size
    go_enter Try.func29, Try.ntmps29
    go_wp2_with (at_builtin
                 refine wpList_append_lst elt rfl (.tmp 5) (.tmp 6) rfl rfl hl rfl hu (by omega) ?_
                 rintro v w4 ⟨⟨A4, n4, c4, rfl, hl4⟩, hst4⟩)
    go_ret
    exact ⟨_, _, _, rfl, hl4.mono (fun j hj => by rcases hj with h | h; exact h; omega), hb.trans (hst4.below hz (fun _ h => h))⟩
set_option maxHeartbeats 400000 in
theorem shuffle_no (P : Option Addr) (A : Option Addr) (n c : Nat) (vs : List Value) (w : World) (hP : NoSrc w P) (hPb : ∀ ad, P = some ad → ad.block < w.heap.size) (h : RdV w A n c vs) (hn : n ≤ 1000000) :
    Calls Try.prog 31 #[.pointer P, .slice A n c] w (Made 3 vs w) := by
  refine (callsIn_wide (n := 5)).1 ?_
  refine callsIn_of_wp_marks Try.func31 rfl trivial ?_ rfl
  simp only [Try.ntmps31, List.size_toArray, List.length_cons, List.length_nil, Nat.reduceAdd, Nat.reduceSub, Array.replicate_succ, Array.replicate_zero, List.push_toArray, List.append_toArray, List.nil_append, List.cons_append]
  gi_wp2
  refine ⟨trivial, (callsIn_wide.2 (clone_any A n c vs w h hn)).mono ?_⟩
  rintro e w1 ⟨A1, n1, c1, rfl, hl1, hb1⟩
  gi_wp2
  refine ⟨trivial, (callsIn_wide.2 (made_no _ P (by
    rcases hP with rfl | ⟨p, s, i, rfl, hp⟩
    · exact .inl rfl
    · exact .inr ⟨p, s, i, rfl, (hp.below hb1).alloc _⟩))).mono ?_⟩
  rintro e w2 ⟨rfl, rfl⟩
  gi_wp2
  exact ⟨_, results_tmp rfl _ _ _, A1, n1, c1, rfl, hl1.alloc _, hb1.alloc hb1.size _⟩
set_option maxRecDepth 100000 in
set_option maxHeartbeats 4000000 in
theorem shuffle_any (p : Nat) (s i : Int) (A : Option Addr) (n c : Nat) (vs : List Value) (w : World) (hs : Src w p s i) (h : RdV w A n c vs) (hcon : ∀ v ∈ vs, ∃ x, v = .int .i64 x) (hn : n ≤ 1000000) (hi0 : 0 ≤ i) (hi1 : i ≤ 1000000) :
    Calls Try.prog 31 #[.pointer (some ⟨p, 0, none⟩), .slice A n c] w fun e w' => ∃ A' c', e = .returned (.slice A' n c') ∧ Lst 3 (w.heap.size ≤ ·) w' A' n c' (shufV s i vs) ∧ Src w' p s (i + (n - 1 : Nat)) ∧ St (· = p) w w' := by
  have hpl := hs.bk.lt
  refine (callsIn_wide (n := 5)).1 ?_
  refine callsIn_of_wp_marks Try.func31 rfl trivial ?_ rfl
  simp only [Try.ntmps31, List.size_toArray, List.length_cons, List.length_nil, Nat.reduceAdd, Nat.reduceSub, Array.replicate_succ, Array.replicate_zero, List.push_toArray, List.append_toArray, List.nil_append, List.cons_append]
  gi_wp2
  refine ⟨trivial, (callsIn_wide.2 (clone_any A n c vs w h hn)).mono ?_⟩
  rintro e w1 ⟨A1, n1, c1, rfl, hl1, hb1⟩
  obtain rfl : n1 = n := by rw [← hl1.1, h.1]
  clear h
  have hl2 := hl1.alloc (.cells #[.slice A1 n1 c1] 23)
  have hx2 := Bk.new w1 23 [.slice A1 n1 c1]
  have hs2 := (hs.below hb1).alloc (.cells #[.slice A1 n1 c1] 23)
  have hb2 := hb1.alloc hb1.size (.cells #[.slice A1 n1 c1] 23)
  gi_wp2
  refine ⟨trivial, (callsIn_wide.2 (made_any _ p s i (by exact hs2))).mono ?_⟩
  rintro e w2 ⟨rfl, rfl⟩
  gi_wp2
  refine ⟨trivial, (callsIn_wide.2 (exchanges_any _ _ _)).mono ?_⟩
  rintro e w3 ⟨rfl, hw3⟩
  have hx3 : Bk w3 23 w1.heap.size [.slice A1 n1 c1] := by rw [hw3]; exact (hx2.alloc _).alloc _
  have hs3 : Src w3 p s i := by rw [hw3]; exact (hs2.alloc _).alloc _
  have hl3 : Lst 3 (w.heap.size ≤ ·) w3 A1 n1 c1 vs := by rw [hw3]; exact (hl2.alloc _).alloc _
  have hb3 : Below w.heap.size w w3 := by rw [hw3]; exact (hb2.alloc hb2.size _).alloc (by simp; have := hb1.size; omega) _
  have hsz3 : w3.heap.size = w1.heap.size + 3 := by rw [hw3]; simp
  have hn3 : w3.cell? ⟨w1.heap.size + 2, 0, none⟩ = some (.int .i64 n1) := by
    have := (Bk.new ((w1.alloc (.cells #[.slice A1 n1 c1] 23)).alloc (.cells #[.pointer (some ⟨p, 0, none⟩)] 52)) 3 [.int .i64 n1]).cell 0 rfl
    rw [hw3]; simpa using this
  have hp3 : w3.cell? ⟨w1.heap.size + 1, 0, none⟩ = some (.pointer (some ⟨p, 0, none⟩)) := by
    have := ((Bk.new (w1.alloc (.cells #[.slice A1 n1 c1] 23)) 52 [.pointer (some ⟨p, 0, none⟩)]).alloc (.cells #[.int .i64 n1] 3)).cell 0 rfl
    rw [hw3]; simpa using this
  simp only [World.size_alloc]
  clear hw3 hl2 hx2 hs2 hb2
  gi_wp2
  have hA1 : ∀ q, BlkOf A1 q → w.heap.size ≤ q ∧ q < w1.heap.size := fun q hq => by
    obtain ⟨ad, he, rfl⟩ := hq
    exact ⟨(hl1.blk ad he).1, (hl1.blk ad he).2⟩
  have hw1 := hb1.size
  have hvl : vs.length = n1 := hl1.1
  have hst3 : St (· = p) w w3 := St.of_below hb3 (fun k hk _ => hk)
  refine wpIn_gives (w0 := w3) rfl (by decide) (gf := 36) (lb := #[.pointer (some ⟨w1.heap.size + 1 + 1, 0, none⟩), .pointer (some ⟨w1.heap.size + 1, 0, none⟩)]) rfl trivial (enters_of Try.func36 (by kernel_rfl) rfl)
    (exch_gives (5 - 1) (by decide) (w1.heap.size + 1 + 1) (w1.heap.size + 1) p n1 s i w3 hs3 hn3 hp3 (by omega) (by omega) (by omega) (by omega) hn hi0 hi1)
    (Below.refl _ _) (fun _ => rfl) KpS.trans (fun W l o hl k hk => World.putObj_heap_other (by rcases hk with rfl | rfl | rfl <;> omega))
    (fun A B k h hk hlt => h.block k hlt (by intro e; injection e with e; omega))
    (fun W l o h hl => (World.putObj_heap_other (by omega)).trans h)
    (fun k W => ShI 23 3 w w1.heap.size p A1 n1 c1 (stepV s i n1 vs k) W) (fun k A B h hw => h.wr hw (by omega) (fun hf => by have := hA1 _ hf; omega))
    (fun k A l o h h1 h2 => h.put l o (by omega) (fun hf => by have := hA1 _ hf; omega) (by omega))
    (fun o o' => ⟨(hx3.alloc o).alloc o', (hl3.tight.alloc o).alloc o', (hst3.trans (St.alloc _ _ o) (Gr.refl _ _)).trans (St.alloc _ _ o') (Gr.refl _ _)⟩)
    (fun k => { tmps := #[.pointer (some ⟨p, 0, none⟩), .slice A n1 c, undef, undef, .slice none 0 0, .pointer (some ⟨w1.heap.size, 0, none⟩), .int .i64 ((n1 : Int) - 1 - k), .int .i64 (belV s (i + k) ((n1 : Int) - k)), .slice A n1 c,
      .slice A1 n1 c1, .pointer (some ⟨p, 0, none⟩), .bool true, .bool false, undef, .pointer (some ⟨p, 0, none⟩), .slice A1 n1 c1, .int .i64 n1,
      .func (.func 36) #[] #[.pointer (some ⟨w1.heap.size + 1 + 1, 0, none⟩), .pointer (some ⟨w1.heap.size + 1, 0, none⟩)],
      .int .i64 ((n1 : Int) - 1 - k), .int .i64 (belV s (i + k) ((n1 : Int) - k)), undef, undef, undef, undef, undef, undef, undef, undef, undef, undef, undef, undef, undef, undef, undef], defers := [] }) ?assign ?body ?done
  case assign =>
    intro l k W K hK
    gi_wp2
    simpa using hK
  case body =>
    intro l m W hm hW hI
    have hbv := belV_bounds s (i + m) ((n1 : Int) - m) (by omega)
    obtain ⟨j, hj⟩ := Int.eq_ofNat_of_zero_le hbv.1
    obtain ⟨k, hk⟩ : ∃ k : Nat, k = n1 - 1 - m := ⟨_, rfl⟩
    have hk' : (n1 : Int) - 1 - m = k := by omega
    have hjn : j < n1 := by omega
    have hkn : k < n1 := by omega
    have hstep : stepV s i n1 vs (m + 1) = swapV (stepV s i n1 vs m) k j := by rw [stepV, hj, hk]; simp
    rw [hstep, hj, hk']
    clear hstep hbv
    have hxl : (stepV s i n1 vs m).length = n1 := by rw [stepV_len, hvl]
    have hxv : ∀ v ∈ stepV s i n1 vs m, ∃ x, v = .int .i64 x := fun v hv' => hcon v (by
      have hp := stepV_perm s i vs m (by omega)
      rw [hvl] at hp
      exact hp.mem_iff.1 hv')
    generalize stepV s i n1 vs m = xs at *
    obtain ⟨g, o, rfl, hg, cj⟩ := hI.lst.rdv.cell hjn
    obtain ⟨g', o', he, -, ck⟩ := hI.lst.rdv.cell hkn
    injection he with he
    injection he with he1 he2 he3
    subst he1 he2
    rw [List.getElem?_eq_getElem (by omega)] at cj ck
    have hgA := hA1 g ⟨_, rfl, rfl⟩
    have hg' : g < W.heap.size := hg
    obtain ⟨aj, haj⟩ := hxv xs[j] (List.getElem_mem _)
    obtain ⟨ak, hak⟩ := hxv xs[k] (List.getElem_mem _)
    have hsw : swapV xs k j = (xs.set k xs[j]).set j xs[k] := by
      unfold swapV
      rw [List.getD_eq_getElem?_getD, List.getD_eq_getElem?_getD, List.getElem?_eq_getElem (by omega), List.getElem?_eq_getElem (by omega)]
      rfl
    rw [hsw]
    rw [haj] at cj
    rw [hak] at ck
    rw [haj, hak]
    clear haj hak hxv hsw he3
    have hjI : (j : Int) < n1 := by omega
    have hkI : (k : Int) < n1 := by omega
    clear hA1 hj hk hk' hm
    dsimp only
    gi_wp2
    refine wpIn_region_E (Wr g) (by kernel_rfl) (by kernel_rfl) (fun wd hbd hsz => ?_)
    have x0 := hI.box.below hbd
    have k0 : ∀ W', Wr g wd W' → W'.cell? ⟨w1.heap.size, 0, none⟩ = some (.slice (some ⟨g, o, none⟩) n1 c1) := fun W' hW => (x0.wr hW (by omega)).cell 0 rfl
    have hl0 := hI.lst.below hbd
    have dj := (hbd.cell (p := ⟨g, o + j, none⟩) hg').trans cj
    have dk := (hbd.cell (p := ⟨g, o + k, none⟩) hg').trans ck
    have fz : ∀ q, wd.frozen? ⟨g, q, none⟩ = false := fun q => hl0.free rfl q
    have fk := fz (o + k)
    have fj := fz (o + j)
    obtain ⟨u, du⟩ : ∃ u, (wd.setCell ⟨g, o + k, none⟩ (.int .i64 aj)).cell? ⟨g, o + j, none⟩ = some u := by
      obtain ⟨g2, o2, he2, -, cu⟩ := (hl0.set k hkn (x := .int .i64 aj) rfl).rdv.cell hjn
      injection he2 with he2
      injection he2 with he3 he4
      subst he3 he4
      rw [List.getElem?_eq_getElem (by simp; omega)] at cu
      exact ⟨_, cu⟩
    clear fz cj ck
    have hWg : Wr g W ((wd.setCell ⟨g, o + k, none⟩ (.int .i64 aj)).setCell ⟨g, o + j, none⟩ (.int .i64 ak)) := ((Wr.of_below hbd).trans (Wr.set _ _ _ _) hbd.size).trans (Wr.set _ _ _ _) (by have := hbd.size; simp [World.setCell]; omega)
    (refine takeE (wrTr g) 0 (by simp only [List.getElem?_toArray, List.getElem?_cons_succ, List.getElem?_cons_zero]; rfl) (by kernel_rfl) (by kernel_rfl) (by kernel_rfl) (by exact fun _ _ _ h => h) (by first | (refine Or.inl ⟨by rfl, ?_⟩; intro W hW; go_simp; try with_reducible rfl) | exact Or.inr ⟨by rfl, rfl⟩) ?_; try simp only [Act.put, List.setIfInBounds_toArray, List.set_cons_zero, List.set_cons_succ])
    (refine takeE (wrTr g) 1 (by simp only [List.getElem?_toArray, List.getElem?_cons_succ, List.getElem?_cons_zero]; rfl) (by kernel_rfl) (by kernel_rfl) (by kernel_rfl) (by exact fun _ _ _ h => h) (by first | (refine Or.inl ⟨by rfl, ?_⟩; intro W hW; go_simp; try with_reducible rfl) | exact Or.inr ⟨by rfl, rfl⟩) ?_; try simp only [Act.put, List.setIfInBounds_toArray, List.set_cons_zero, List.set_cons_succ])
    (refine takeE (wrTr g) 2 (by simp only [List.getElem?_toArray, List.getElem?_cons_succ, List.getElem?_cons_zero]; rfl) (by kernel_rfl) (by kernel_rfl) (by kernel_rfl) (by exact fun _ _ _ h => h) (by first | (refine Or.inl ⟨by rfl, ?_⟩; intro W hW; go_simp; try with_reducible rfl) | exact Or.inr ⟨by rfl, rfl⟩) ?_; try simp only [Act.put, List.setIfInBounds_toArray, List.set_cons_zero, List.set_cons_succ])
    (refine takeE (wrTr g) 3 (by simp only [List.getElem?_toArray, List.getElem?_cons_succ, List.getElem?_cons_zero]; rfl) (by kernel_rfl) (by kernel_rfl) (by kernel_rfl) (by exact fun _ _ _ h => h) (by first | (refine Or.inl ⟨by rfl, ?_⟩; intro W hW; go_simp; try with_reducible rfl) | exact Or.inr ⟨by rfl, rfl⟩) ?_; try simp only [Act.put, List.setIfInBounds_toArray, List.set_cons_zero, List.set_cons_succ])
    (refine takeE (wrTr g) 4 (by simp only [List.getElem?_toArray, List.getElem?_cons_succ, List.getElem?_cons_zero]; rfl) (by kernel_rfl) (by kernel_rfl) (by kernel_rfl) (by exact fun _ _ _ h => h) (by first | (refine Or.inl ⟨by rfl, ?_⟩; intro W hW; go_simp; try with_reducible rfl) | exact Or.inr ⟨by rfl, rfl⟩) ?_; try simp only [Act.put, List.setIfInBounds_toArray, List.set_cons_zero, List.set_cons_succ])
    (refine takeE (wrTr g) 5 (by simp only [List.getElem?_toArray, List.getElem?_cons_succ, List.getElem?_cons_zero]; rfl) (by kernel_rfl) (by kernel_rfl) (by kernel_rfl) (by exact fun _ _ _ h => h) (by first | (refine Or.inl ⟨by rfl, ?_⟩; intro W hW; go_simp; try with_reducible rfl) | exact Or.inr ⟨by rfl, rfl⟩) ?_; try simp only [Act.put, List.setIfInBounds_toArray, List.set_cons_zero, List.set_cons_succ])
    (refine takeE (wrTr g) 8 (by simp only [List.getElem?_toArray, List.getElem?_cons_succ, List.getElem?_cons_zero]; rfl) (by kernel_rfl) (by kernel_rfl) (by kernel_rfl) (by exact fun _ _ _ h => h) (by first | (refine Or.inl ⟨by rfl, ?_⟩; intro W hW; go_simp; try with_reducible rfl) | exact Or.inr ⟨by rfl, rfl⟩) ?_; try simp only [Act.put, List.setIfInBounds_toArray, List.set_cons_zero, List.set_cons_succ])
    (refine takeE (wrTr g) 9 (by simp only [List.getElem?_toArray, List.getElem?_cons_succ, List.getElem?_cons_zero]; rfl) (by kernel_rfl) (by kernel_rfl) (by kernel_rfl) (by exact fun _ _ _ h => h) (by first | (refine Or.inl ⟨by rfl, ?_⟩; intro W hW; go_simp; try with_reducible rfl) | exact Or.inr ⟨by rfl, rfl⟩) ?_; try simp only [Act.put, List.setIfInBounds_toArray, List.set_cons_zero, List.set_cons_succ])
    (refine takeE (wrTr g) 6 (by simp only [List.getElem?_toArray, List.getElem?_cons_succ, List.getElem?_cons_zero]; rfl) (by kernel_rfl) (by kernel_rfl) (by kernel_rfl) (by exact fun _ _ _ h => h) (by first | (refine Or.inl ⟨by rfl, ?_⟩; intro W hW; go_simp; try with_reducible rfl) | exact Or.inr ⟨by rfl, rfl⟩) ?_; try simp only [Act.put, List.setIfInBounds_toArray, List.set_cons_zero, List.set_cons_succ])
    (refine takeE (wrTr g) 10 (by simp only [List.getElem?_toArray, List.getElem?_cons_succ, List.getElem?_cons_zero]; rfl) (by kernel_rfl) (by kernel_rfl) (by kernel_rfl) (by exact fun _ _ _ h => h) (by first | (refine Or.inl ⟨by rfl, ?_⟩; intro W hW; go_simp; try with_reducible rfl) | exact Or.inr ⟨by rfl, rfl⟩) ?_; try simp only [Act.put, List.setIfInBounds_toArray, List.set_cons_zero, List.set_cons_succ])
    refine wpAnyE_two (i := 7) (j := 11) (by kernel_rfl) (by simp only [List.getElem?_toArray, List.getElem?_cons_succ, List.getElem?_cons_zero]; rfl) (by simp only [List.getElem?_toArray, List.getElem?_cons_succ, List.getElem?_cons_zero]; rfl) (fun K hK => ?_) (fun K hK => ?_)
    ·
      go_simp
      refine hK.out _ _ (Wr.refl _ _) ?_
      clear hK K
      try simp only [Act.put, List.setIfInBounds_toArray, List.set_cons_zero, List.set_cons_succ]
      refine wpAnyE_one (i := 11) (by kernel_rfl) (by simp only [List.getElem?_toArray, List.getElem?_cons_succ, List.getElem?_cons_zero]; rfl) (fun K hK => ?_)
      go_simp
      refine hK.out _ _ (Wr.refl _ _) ?_
      clear hK K
      try simp only [Act.put, List.setIfInBounds_toArray, List.set_cons_zero, List.set_cons_succ]
      (refine takeE (wrTr g) 12 (by simp only [List.getElem?_toArray, List.getElem?_cons_succ, List.getElem?_cons_zero]; rfl) (by kernel_rfl) (by kernel_rfl) (by kernel_rfl) (by exact fun _ _ _ h => h) (by first | (refine Or.inl ⟨by rfl, ?_⟩; intro W hW; go_simp; try with_reducible rfl) | exact Or.inr ⟨by rfl, rfl⟩) ?_; try simp only [Act.put, List.setIfInBounds_toArray, List.set_cons_zero, List.set_cons_succ])
      refine wpAnyE_one (i := 13) (by kernel_rfl) (by simp only [List.getElem?_toArray, List.getElem?_cons_succ, List.getElem?_cons_zero]; rfl) (fun K hK => ?_)
      go_simp
      refine hK.out _ _ (Wr.set _ _ _ _) ?_
      clear hK K
      try simp only [Act.put, List.setIfInBounds_toArray, List.set_cons_zero, List.set_cons_succ]
      (refine takeE (wrTr g) 14 (by simp only [List.getElem?_toArray, List.getElem?_cons_succ, List.getElem?_cons_zero]; rfl) (by kernel_rfl) (by kernel_rfl) (by kernel_rfl) (by exact fun _ _ _ h => h) (by first | (refine Or.inl ⟨by rfl, ?_⟩; intro W hW; go_simp; try with_reducible rfl) | exact Or.inr ⟨by rfl, rfl⟩) ?_; try simp only [Act.put, List.setIfInBounds_toArray, List.set_cons_zero, List.set_cons_succ])
      refine wpAnyE_one (i := 15) (by kernel_rfl) (by simp only [List.getElem?_toArray, List.getElem?_cons_succ, List.getElem?_cons_zero]; rfl) (fun K hK => ?_)
      go_simp
      refine hK.out _ _ (Wr.set _ _ _ _) ?_
      clear hK K
      try simp only [Act.put, List.setIfInBounds_toArray, List.set_cons_zero, List.set_cons_succ]
      refine noOut_done (by kernel_rfl) ?_ _
      gi_wp2
      exact ⟨fun q u hq1 hq2 hq => (hWg.block q (Array.getElem?_eq_some_iff.1 hq).1 (by intro e; injection e with e; omega)).trans hq, fun q hq => hWg.block q (by rcases hq with rfl | rfl | rfl <;> omega) (by intro e; injection e with e; rcases hq with rfl | rfl | rfl <;> omega), hI.turned hWg hgA.1 (by omega) ((hl0.set k hkn rfl).set j hjn rfl)⟩
    ·
      go_simp
      refine hK.out _ _ (Wr.refl _ _) ?_
      clear hK K
      try simp only [Act.put, List.setIfInBounds_toArray, List.set_cons_zero, List.set_cons_succ]
      refine wpAnyE_one (i := 7) (by kernel_rfl) (by simp only [List.getElem?_toArray, List.getElem?_cons_succ, List.getElem?_cons_zero]; rfl) (fun K hK => ?_)
      go_simp
      refine hK.out _ _ (Wr.refl _ _) ?_
      clear hK K
      try simp only [Act.put, List.setIfInBounds_toArray, List.set_cons_zero, List.set_cons_succ]
      (refine takeE (wrTr g) 12 (by simp only [List.getElem?_toArray, List.getElem?_cons_succ, List.getElem?_cons_zero]; rfl) (by kernel_rfl) (by kernel_rfl) (by kernel_rfl) (by exact fun _ _ _ h => h) (by first | (refine Or.inl ⟨by rfl, ?_⟩; intro W hW; go_simp; try with_reducible rfl) | exact Or.inr ⟨by rfl, rfl⟩) ?_; try simp only [Act.put, List.setIfInBounds_toArray, List.set_cons_zero, List.set_cons_succ])
      refine wpAnyE_one (i := 13) (by kernel_rfl) (by simp only [List.getElem?_toArray, List.getElem?_cons_succ, List.getElem?_cons_zero]; rfl) (fun K hK => ?_)
      go_simp
      refine hK.out _ _ (Wr.set _ _ _ _) ?_
      clear hK K
      try simp only [Act.put, List.setIfInBounds_toArray, List.set_cons_zero, List.set_cons_succ]
      (refine takeE (wrTr g) 14 (by simp only [List.getElem?_toArray, List.getElem?_cons_succ, List.getElem?_cons_zero]; rfl) (by kernel_rfl) (by kernel_rfl) (by kernel_rfl) (by exact fun _ _ _ h => h) (by first | (refine Or.inl ⟨by rfl, ?_⟩; intro W hW; go_simp; try with_reducible rfl) | exact Or.inr ⟨by rfl, rfl⟩) ?_; try simp only [Act.put, List.setIfInBounds_toArray, List.set_cons_zero, List.set_cons_succ])
      refine wpAnyE_one (i := 15) (by kernel_rfl) (by simp only [List.getElem?_toArray, List.getElem?_cons_succ, List.getElem?_cons_zero]; rfl) (fun K hK => ?_)
      go_simp
      refine hK.out _ _ (Wr.set _ _ _ _) ?_
      clear hK K
      try simp only [Act.put, List.setIfInBounds_toArray, List.set_cons_zero, List.set_cons_succ]
      refine noOut_done (by kernel_rfl) ?_ _
      gi_wp2
      exact ⟨fun q u hq1 hq2 hq => (hWg.block q (Array.getElem?_eq_some_iff.1 hq).1 (by intro e; injection e with e; omega)).trans hq, fun q hq => hWg.block q (by rcases hq with rfl | rfl | rfl <;> omega) (by intro e; injection e with e; rcases hq with rfl | rfl | rfl <;> omega), hI.turned hWg hgA.1 (by omega) ((hl0.set k hkn rfl).set j hjn rfl)⟩
  case done =>
    rintro D W rfl hI hM hK
    have c0 := hI.box.cell 0 rfl
    gi_wp2
    refine ⟨by simp, .inl ⟨_, _, rfl, run_takeDeferred hK, ?_⟩⟩
    refine ⟨_, results_tmp rfl _ _ _, A1, c1, rfl, ?_, (World.putObj_heap_other (by omega)).trans hM, ?_⟩
    · have hl := (hI.put w3.heap.size (.deferred none) (by omega) (fun hf => by have := hA1 _ hf; omega) (by omega)).lst
      rw [← hvl] at hl
      rw [← hvl]
      exact hl.mono fun q hq => (hA1 q hq).1
    · exact (hI.put w3.heap.size (.deferred none) (by omega) (fun hf => by have := hA1 _ hf; omega) (by omega)).st
end Go.Proofs.Ytiefgicapcljiaa.Shint
