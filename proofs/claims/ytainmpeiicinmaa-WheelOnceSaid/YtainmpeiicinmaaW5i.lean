/- Timers put in, taken out. -/
import Derived.Test.YtainmpeiicinmaaW4i
set_option linter.unusedSimpArgs false
set_option linter.unusedVariables false
set_option maxRecDepth 100000
namespace Go.Proofs.Ytainmpeiicinmaa.Wi
open Go.RowKit Go.Shelf
section
variable {w w' w1 w2 : World} {g p b b2 bt : Nat} {m m' : Wm Int} {A : Option Addr} {n c : Nat} {x y : Int} {T : TypeId}
theorem later_any (h : WhC w g m) (h2 : Bk w 23 b2 [.pointer (some ⟨g, 0, none⟩)]) {v : Value} {d : Int} (ht : Bk w 80 bt [v, .int .i64 d]) {j : Nat} (hj : j < m.l.length) :
    Calls Try.prog 49 #[.int .i64 j, .pointer (some ⟨b2, 0, none⟩), .pointer (some ⟨bt, 0, none⟩)] w fun e w' => e = .returned (.bool (decide (d < m.l[j].d))) ∧ Below w.heap.size w w' := by
  obtain ⟨A, n, c, h⟩ := h
  obtain ⟨g1, o, rfl, hg1, hra⟩ := h.row hj
  have d1 := hra 1 (.int .i64 m.l[j].d) rfl
  have c2 := h.bk.cell 2 rfl
  have cb := h2.cell 0 rfl
  have ct := ht.cell 1 rfl
  have hn := h.hn
  have hln := h.nm.ln
  have hj' : (j : Int) < n := by omega
  generalize m.l[j].d = e at *
  clear hra h h2 ht hg1
  go_enter Try.func49, Try.ntmps49
  go_wp2_with fail
  go_quiet (fail)
  go_wp2
  go_ret
  exact ⟨rfl, Below.drewN_ w _⟩
set_option maxHeartbeats 1000000 in
theorem search_any (n k : Nat) (hk : k ≤ n) (hn : n ≤ 4000)
    (hp : ∀ W, Below w.heap.size w W → ∀ j, j < n → Calls Try.prog 49 #[.int .i64 (j : Nat), .pointer (some ⟨b2, 0, none⟩), .pointer (some ⟨bt, 0, none⟩)] W fun e w' => e = .returned (.bool (decide (k ≤ j))) ∧ Below W.heap.size W w') :
    Calls Try.prog 48 #[.int .i64 n, .func (.func 49) #[] #[.pointer (some ⟨b2, 0, none⟩), .pointer (some ⟨bt, 0, none⟩)]] w fun e w' => e = .returned (.int .i64 k) ∧ Below w.heap.size w w' := by
  have HP := Lib.hid hp
  clear hp
  go_enter Try.func48, Try.ntmps48
  go_wp2
  go_loopw [5, 6, 7] (fun i j h W => ∃ a z : Nat, i = .int .i64 a ∧ j = .int .i64 z ∧ a ≤ k ∧ k ≤ z ∧ z ≤ n ∧ Below w.heap.size w W) (fun i j h _ => (intOf j).toNat - (intOf i).toNat)
  case atStart => exact ⟨0, n, rfl, rfl, Nat.zero_le _, hk, Nat.le_refl _, Below.refl _ _⟩
  case round =>
    obtain ⟨a, z, rfl, rfl, h1, h2, h3, hb⟩ := hrel
    have HB := Lib.hid hb
    by_cases hlt : a < z
    · have hlt' : (a : Int) < z := by omega
      have ha4 : a ≤ 4000 := by omega
      have hz4 : z ≤ 4000 := by omega
      obtain ⟨q, hq⟩ : ∃ q, q = (a + z) / 2 := ⟨_, rfl⟩
      have hqa : a ≤ q := by omega
      have hqz : q < z := by omega
      have hq2 : ((a : Int) + z) / 2 = q := by omega
      have HC := Lib.hid (HP.out wr hb q (by omega))
      rw [← hq2] at HC
      have HQ := Lib.hid hq2
      have HF := Lib.hid (And.intro h1 (And.intro h2 (And.intro h3 (And.intro hqa hqz))))
      by_cases hkq : k ≤ q
      · rw [decide_eq_true hkq] at HC
        clear hb hq hq2 hqa hqz h1 h2 h3
        go_wp2_with (refine HC.out.mono ?_
                     rintro e w2 ⟨rfl, hb2⟩
                     have HB2 := Lib.hid hb2
                     clear hb2)
        go_roundw
        case rel => exact ⟨a, q, rfl, by rw [HQ.out], HF.out.1, hkq, by have := HF.out; omega, below_on HB.out HB2.out⟩
        case measure => have := HF.out; simp [intOf]; omega
      · rw [decide_eq_false hkq] at HC
        clear hb hq hq2 hqa hqz h1 h2 h3
        go_wp2_with (refine HC.out.mono ?_
                     rintro e w2 ⟨rfl, hb2⟩
                     have HB2 := Lib.hid hb2
                     clear hb2)
        go_roundw
        case rel => exact ⟨q + 1, z, by rw [HQ.out]; rfl, rfl, by omega, HF.out.2.1, HF.out.2.2.1, below_on HB.out HB2.out⟩
        case measure => have := HF.out; simp [intOf]; omega
    · obtain rfl : a = k := by omega
      obtain rfl : z = a := by omega
      clear hb
      go_wp2
      go_ret
      exact ⟨rfl, HB.out⟩
theorem con_two (h : WhA w g m A n c) {i j : Nat} (hi : i ≤ m.l.length) (hj : j ≤ m.l.length) :
    Calls Try.prog 46 #[.slice (some ⟨w.heap.size, 0, none⟩) 2 2] (w.alloc (.cells #[.slice A i c, .slice (cutR A c j 2) (n - j) (c - j)] 56)) (MadeR 80 (flat tcl (m.l.take i ++ m.l.drop j)) (w.alloc (.cells #[.slice A i c, .slice (cutR A c j 2) (n - j) (c - j)] 56))) := by
  have hn := h.hn
  have hln := h.nm.ln
  have hb : Below w.heap.size w (w.alloc (.cells #[.slice A i c, .slice (cutR A c j 2) (n - j) (c - j)] 56)) := (Below.refl _ _).alloc (Nat.le_refl _) _
  have := con_any [⟨A, i, c, m.l.take i⟩, ⟨cutR A c j 2, n - j, c - j, m.l.drop j⟩] (Bk.new w 56 [.slice A i c, .slice (cutR A c j 2) (n - j) (c - j)]) (by simp) (by simp [sums]; omega) (by
    intro s hs
    simp only [List.mem_cons, List.not_mem_nil, or_false] at hs
    rcases hs with rfl | rfl
    · rw [flat_take tcl_len _ _ hi]
      exact (h.ls.rd.below hb).pre (show i ≤ n by omega)
    · rw [flat_drop tcl_len _ _ hj]
      exact (h.ls.rd.below hb).cut (by omega))
  simpa [alls] using this
theorem con_three (h : WhA w g m A n c) (t : Tm Int) {i : Nat} (hi : i ≤ m.l.length) :
    Calls Try.prog 46 #[.slice (some ⟨w.heap.size + 1, 0, none⟩) 3 3] ((w.alloc (.cells #[(.int .i64 t.k), .int .i64 t.d] 80)).alloc (.cells #[.slice A i c, .slice (some ⟨w.heap.size, 0, none⟩) 1 1, .slice (cutR A c i 2) (n - i) (c - i)] 56)) (MadeR 80 (flat tcl (m.l.take i ++ t :: m.l.drop i)) ((w.alloc (.cells #[(.int .i64 t.k), .int .i64 t.d] 80)).alloc (.cells #[.slice A i c, .slice (some ⟨w.heap.size, 0, none⟩) 1 1, .slice (cutR A c i 2) (n - i) (c - i)] 56))) := by
  have hn := h.hn
  have hln := h.nm.ln
  have hb : Below w.heap.size w ((w.alloc (.cells #[(.int .i64 t.k), .int .i64 t.d] 80)).alloc (.cells #[.slice A i c, .slice (some ⟨w.heap.size, 0, none⟩) 1 1, .slice (cutR A c i 2) (n - i) (c - i)] 56)) := ((Below.refl _ _).alloc (Nat.le_refl _) _).alloc (by simp) _
  have hk := Bk.new (w.alloc (.cells #[(.int .i64 t.k), .int .i64 t.d] 80)) 56 [.slice A i c, .slice (some ⟨w.heap.size, 0, none⟩) 1 1, .slice (cutR A c i 2) (n - i) (c - i)]
  rw [World.size_alloc] at hk
  have := con_any [⟨A, i, c, m.l.take i⟩, ⟨some ⟨w.heap.size, 0, none⟩, 1, 1, [t]⟩, ⟨cutR A c i 2, n - i, c - i, m.l.drop i⟩] hk (by simp) (by simp [sums]; omega) (by
    intro s hs
    simp only [List.mem_cons, List.not_mem_nil, or_false] at hs
    rcases hs with rfl | rfl | rfl
    · rw [flat_take tcl_len _ _ hi]
      exact (h.ls.rd.below hb).pre (show i ≤ n by omega)
    · exact (RdR.one w 80 (tcl t) (tcl_one t)).alloc _
    · rw [flat_drop tcl_len _ _ hi]
      exact (h.ls.rd.below hb).cut (by omega))
  simpa [alls] using this
/-- The list written. -/
theorem WhA.list {F : Nat → Prop} {A' : Option Addr} {n' c' : Nat} (h : WhA w g m A n c) (hb : Below w.heap.size w w2) (hl : LstR 2 80 F w2 A' n' c' (flat tcl m'.l)) (e1 : m'.most = m.most) (e2 : m'.now = m.now) (hnm : m'.Nm) :
    Did w g m' (w2.setCell ⟨g, 2, none⟩ (.slice A' n' c')) := by
  have h2 := (h.bk.below hb).set 2 (.slice A' n' c')
  have ht := (h.bk.below hb).tyd
  refine ⟨⟨A', n', c', by rw [e1, e2]; exact h2, (hl.far (fun ad he hg => ?_) _).mono (fun _ _ => trivial), hnm⟩, (St.ext hb).trans (St.setCell (F := (· = g)) w2 (a := ⟨g, 2, none⟩) rfl _) (Gr.refl _ _)⟩
  have := hl.tyd _ ⟨ad, he, rfl⟩
  rw [hg] at this
  exact ht.ne (by decide) this
set_option maxHeartbeats 2000000 in
theorem w_remove (h : WhC w g m) {i j : Nat} (hi : i ≤ m.l.length) (hj : j ≤ m.l.length) (e1 : m'.most = m.most) (e2 : m'.now = m.now) (e3 : m'.l = m.l.take i ++ m.l.drop j) (hnm : m'.Nm) :
    Calls Try.prog 31 #[.pointer (some ⟨g, 0, none⟩), .int .i64 i, .int .i64 j] w fun e w' => e = .returned (.tuple #[]) ∧ Did w g m' w' := by
  obtain ⟨A, n, c, h⟩ := h
  have hn := h.hn
  have hcap := h.cap
  have hpre : ∀ W : World, _ := fun W => eltM.run_pre A n c i (by omega) hcap.1 W
  have hcut : ∀ W : World, _ := fun W => eltM.run_cut A n c j (by omega) hcap.1 W
  have HA := Lib.hid h
  have HE := Lib.hid (And.intro e1 (And.intro e2 (And.intro e3 hnm)))
  clear h e1 e2 e3 hnm hcap hn
  rw [zsM_len] at hcut
  go_enter Try.func31, Try.ntmps31
  go_wp2_with fail
  refine wp_region_L Ext [17] (by kernel_rfl) (fun wd hbd hsz => ?_)
  have HT := Lib.hid (HA.out.below hbd)
  have HBD := Lib.hid hbd
  have c2 : ∀ W, Ext wd W → W.cell? ⟨g, 2, none⟩ = some (.slice A n c) := fun W hW => (HT.out.below hW).bk.cell 2 rfl
  have HC2 := Lib.hid (con_two HT.out hi hj)
  clear hbd hsz
  (refine takeL Ext.tr 0 (by simp only [List.getElem?_toArray, List.getElem?_cons_succ, List.getElem?_cons_zero]; rfl) (by kernel_rfl) (by kernel_rfl) (by kernel_rfl) (by kernel_rfl) (by exact fun _ _ _ h => h) (by first | (refine Or.inl ⟨by rfl, ?_⟩; intro W hW; go_simp; try with_reducible rfl) | exact Or.inr ⟨by rfl, rfl⟩) ?_; try simp only [Act.put, List.setIfInBounds_toArray, List.set_cons_zero, List.set_cons_succ])
  (refine takeL Ext.tr 1 (by simp only [List.getElem?_toArray, List.getElem?_cons_succ, List.getElem?_cons_zero]; rfl) (by kernel_rfl) (by kernel_rfl) (by kernel_rfl) (by kernel_rfl) (by exact fun _ _ _ h => h) (by first | (refine Or.inl ⟨by rfl, ?_⟩; intro W hW; go_simp; try with_reducible rfl) | exact Or.inr ⟨by rfl, rfl⟩) ?_; try simp only [Act.put, List.setIfInBounds_toArray, List.set_cons_zero, List.set_cons_succ])
  (refine takeL Ext.tr 5 (by simp only [List.getElem?_toArray, List.getElem?_cons_succ, List.getElem?_cons_zero]; rfl) (by kernel_rfl) (by kernel_rfl) (by kernel_rfl) (by kernel_rfl) (by exact fun _ _ _ h => h) (by first | (refine Or.inl ⟨by rfl, ?_⟩; intro W hW; go_simp; try with_reducible rfl) | exact Or.inr ⟨by rfl, rfl⟩) ?_; try simp only [Act.put, List.setIfInBounds_toArray, List.set_cons_zero, List.set_cons_succ])
  (refine takeL Ext.tr 7 (by simp only [List.getElem?_toArray, List.getElem?_cons_succ, List.getElem?_cons_zero]; rfl) (by kernel_rfl) (by kernel_rfl) (by kernel_rfl) (by kernel_rfl) (by exact fun _ _ _ h => h) (by first | (refine Or.inl ⟨by rfl, ?_⟩; intro W hW; go_simp; try with_reducible rfl) | exact Or.inr ⟨by rfl, rfl⟩) ?_; try simp only [Act.put, List.setIfInBounds_toArray, List.set_cons_zero, List.set_cons_succ])
  (refine takeL Ext.tr 11 (by simp only [List.getElem?_toArray, List.getElem?_cons_succ, List.getElem?_cons_zero]; rfl) (by kernel_rfl) (by kernel_rfl) (by kernel_rfl) (by kernel_rfl) (by exact fun _ _ _ h => h) (by first | (refine Or.inl ⟨by rfl, ?_⟩; intro W hW; go_simp; try with_reducible rfl) | exact Or.inr ⟨by rfl, rfl⟩) ?_; try simp only [Act.put, List.setIfInBounds_toArray, List.set_cons_zero, List.set_cons_succ])
  (refine takeL Ext.tr 2 (by simp only [List.getElem?_toArray, List.getElem?_cons_succ, List.getElem?_cons_zero]; rfl) (by kernel_rfl) (by kernel_rfl) (by kernel_rfl) (by kernel_rfl) (by exact fun _ _ _ h => h) (by first | (refine Or.inl ⟨by rfl, ?_⟩; intro W hW; go_simp; try with_reducible rfl) | exact Or.inr ⟨by rfl, rfl⟩) ?_; try simp only [Act.put, List.setIfInBounds_toArray, List.set_cons_zero, List.set_cons_succ])
  (refine takeL Ext.tr 8 (by simp only [List.getElem?_toArray, List.getElem?_cons_succ, List.getElem?_cons_zero]; rfl) (by kernel_rfl) (by kernel_rfl) (by kernel_rfl) (by kernel_rfl) (by exact fun _ _ _ h => h) (by first | (refine Or.inl ⟨by rfl, ?_⟩; intro W hW; go_simp; try with_reducible rfl) | exact Or.inr ⟨by rfl, rfl⟩) ?_; try simp only [Act.put, List.setIfInBounds_toArray, List.set_cons_zero, List.set_cons_succ])
  (refine takeL Ext.tr 3 (by simp only [List.getElem?_toArray, List.getElem?_cons_succ, List.getElem?_cons_zero]; rfl) (by kernel_rfl) (by kernel_rfl) (by kernel_rfl) (by kernel_rfl) (by exact fun _ _ _ h => h) (by first | (refine Or.inl ⟨by rfl, ?_⟩; intro W hW; go_simp; try with_reducible rfl) | exact Or.inr ⟨by rfl, rfl⟩) ?_; try simp only [Act.put, List.setIfInBounds_toArray, List.set_cons_zero, List.set_cons_succ])
  (refine takeL Ext.tr 9 (by simp only [List.getElem?_toArray, List.getElem?_cons_succ, List.getElem?_cons_zero]; rfl) (by kernel_rfl) (by kernel_rfl) (by kernel_rfl) (by kernel_rfl) (by exact fun _ _ _ h => h) (by first | (refine Or.inl ⟨by rfl, ?_⟩; intro W hW; go_simp; try with_reducible rfl) | exact Or.inr ⟨by rfl, rfl⟩) ?_; try simp only [Act.put, List.setIfInBounds_toArray, List.set_cons_zero, List.set_cons_succ])
  (refine takeL Ext.tr 4 (by simp only [List.getElem?_toArray, List.getElem?_cons_succ, List.getElem?_cons_zero]; rfl) (by kernel_rfl) (by kernel_rfl) (by kernel_rfl) (by kernel_rfl) (by exact fun _ _ _ h => h) (by first | (refine Or.inl ⟨by rfl, ?_⟩; intro W hW; go_simp; try with_reducible rfl) | exact Or.inr ⟨by rfl, rfl⟩) ?_; try simp only [Act.put, List.setIfInBounds_toArray, List.set_cons_zero, List.set_cons_succ])
  (refine takeL Ext.tr 10 (by simp only [List.getElem?_toArray, List.getElem?_cons_succ, List.getElem?_cons_zero]; rfl) (by kernel_rfl) (by kernel_rfl) (by kernel_rfl) (by kernel_rfl) (by exact fun _ _ _ h => h) (by first | (refine Or.inl ⟨by rfl, ?_⟩; intro W hW; go_simp; try with_reducible rfl) | exact Or.inr ⟨by rfl, rfl⟩) ?_; try simp only [Act.put, List.setIfInBounds_toArray, List.set_cons_zero, List.set_cons_succ])
  (refine takeL Ext.tr 6 (by simp only [List.getElem?_toArray, List.getElem?_cons_succ, List.getElem?_cons_zero]; rfl) (by kernel_rfl) (by kernel_rfl) (by kernel_rfl) (by kernel_rfl) (by exact fun _ _ _ h => h) (by first | (refine Or.inl ⟨by rfl, ?_⟩; intro W hW; exact exec_slice eltM.ht rfl (hpre W)) | exact Or.inr ⟨by rfl, rfl⟩) ?_; try simp only [Act.put, List.setIfInBounds_toArray, List.set_cons_zero, List.set_cons_succ])
  (refine takeL Ext.tr 12 (by simp only [List.getElem?_toArray, List.getElem?_cons_succ, List.getElem?_cons_zero]; rfl) (by kernel_rfl) (by kernel_rfl) (by kernel_rfl) (by kernel_rfl) (by exact fun _ _ _ h => h) (by first | (refine Or.inl ⟨by rfl, ?_⟩; intro W hW; exact exec_slice eltM.ht rfl (hcut W)) | exact Or.inr ⟨by rfl, rfl⟩) ?_; try simp only [Act.put, List.setIfInBounds_toArray, List.set_cons_zero, List.set_cons_succ])
  refine wpAnyL_one (i := 13) (by kernel_rfl) (by simp only [List.getElem?_toArray, List.getElem?_cons_succ, List.getElem?_cons_zero]; rfl) (fun K hK => ?_)
  go_simp
  refine hK.out _ _ (.inr ((Below.refl _ _).alloc (Nat.le_refl _) _)) ?_
  clear hK K
  try simp only [Act.put, List.setIfInBounds_toArray, List.set_cons_zero, List.set_cons_succ]
  refine wpAnyL_one (i := 14) (by kernel_rfl) (by simp only [List.getElem?_toArray, List.getElem?_cons_succ, List.getElem?_cons_zero]; rfl) (fun K hK => ?_)
  go_simp
  refine HC2.out.mono ?_
  rintro en w2 ⟨A', n', c', rfl, hl2, hb2⟩
  have hbx := below_on ((Below.refl wd.heap.size wd).alloc (Nat.le_refl _) _) hb2
  have HR9 := Lib.hid (And.intro hl2 hbx)
  have c9 := (HT.out.bk.below hbx).cell 2 rfl
  have f9 := (HT.out.bk.below hbx).free 2
  have hE2 := hb2
  have HD9 : Hid (Did w g m' (w2.setCell ⟨g, 2, none⟩ (.slice A' n' c'))) := Lib.hid (Did.after HBD.out (HT.out.list hbx (by rw [HE.out.2.2.1]; exact hl2) HE.out.1 HE.out.2.1 HE.out.2.2.2))
  clear hb2 hl2 hbx
  refine hK.out _ _ (.inr hE2) ?_
  clear hK K
  try simp only [Act.put, List.setIfInBounds_toArray, List.set_cons_zero, List.set_cons_succ]
  (refine takeL Ext.tr 15 (by simp only [List.getElem?_toArray, List.getElem?_cons_succ, List.getElem?_cons_zero]; rfl) (by kernel_rfl) (by kernel_rfl) (by kernel_rfl) (by kernel_rfl) (by exact fun _ _ _ h => h) (by first | (refine Or.inl ⟨by rfl, ?_⟩; intro W hW; go_simp; try with_reducible rfl) | exact Or.inr ⟨by rfl, rfl⟩) ?_; try simp only [Act.put, List.setIfInBounds_toArray, List.set_cons_zero, List.set_cons_succ])
  (refine takeL Ext.tr 16 (by simp only [List.getElem?_toArray, List.getElem?_cons_succ, List.getElem?_cons_zero]; rfl) (by kernel_rfl) (by kernel_rfl) (by kernel_rfl) (by kernel_rfl) (by exact fun _ _ _ h => h) (by first | (refine Or.inl ⟨by rfl, ?_⟩; intro W hW; go_simp; try with_reducible rfl) | exact Or.inr ⟨by rfl, rfl⟩) ?_; try simp only [Act.put, List.setIfInBounds_toArray, List.set_cons_zero, List.set_cons_succ])
  refine wpAnyL_one (i := 17) (by kernel_rfl) (by simp only [List.getElem?_toArray, List.getElem?_cons_succ, List.getElem?_cons_zero]; rfl) (fun K hK => ?_)
  go_simp
  refine hK.out _ _ (.inl (by decide)) ?_
  clear hK K
  try simp only [Act.put, List.setIfInBounds_toArray, List.set_cons_zero, List.set_cons_succ]
  refine wpAnyL_done (by kernel_rfl) ?_ _
  clear c2 c9 f9
  go_wp2
  go_end0
  exact ⟨rfl, HD9.out⟩
set_option maxHeartbeats 2000000 in
theorem w_insert (h : WhC w g m) (t : Tm Int) (hso : Srt m.l) (e1 : m'.most = m.most) (e2 : m'.now = m.now) (e3 : m'.l = ins m.l t) (hnm : m'.Nm) :
    Calls Try.prog 35 #[.pointer (some ⟨g, 0, none⟩), .agg #[(.int .i64 t.k), .int .i64 t.d]] w fun e w' => e = .returned (.tuple #[]) ∧ Did w g m' w' := by
  obtain ⟨A, n, c, h⟩ := h
  obtain ⟨w1, hw1⟩ : ∃ w1, w1 = (w.alloc (.cells #[.pointer (some ⟨g, 0, none⟩)] 23)).alloc (.cells #[(.int .i64 t.k), .int .i64 t.d] 80) := ⟨_, rfl⟩
  have hb1 : Below w.heap.size w w1 := by rw [hw1]; exact (((Below.refl _ w).alloc (Nat.le_refl _) _).alloc (by simp) _)
  have q2 : Bk w1 23 w.heap.size [.pointer (some ⟨g, 0, none⟩)] := by rw [hw1]; exact (Bk.new w _ [.pointer (some ⟨g, 0, none⟩)]).alloc _
  have q3 : Bk w1 80 (w.heap.size + 1) (tcl t) := by
    have := Bk.new (w.alloc (.cells #[.pointer (some ⟨g, 0, none⟩)] 23)) 80 (tcl t)
    rw [World.size_alloc] at this
    rw [hw1]; exact this
  obtain ⟨k, hk⟩ : ∃ k, k = (low m.l t.d).length := ⟨_, rfl⟩
  have hkl : k ≤ m.l.length := by rw [hk]; exact low_le m.l t.d
  have h1 := h.below hb1
  have hln := h.nm.ln
  have HSe := Lib.hid (search_any (w := w1) (b2 := w.heap.size) (bt := w.heap.size + 1) m.l.length k hkl (by omega) fun W hW j hj => by
    have := later_any (WhC.below ⟨A, n, c, h1⟩ hW) (q2.below hW) (v := (.int .i64 t.k)) (d := t.d) (q3.below hW) hj
    rw [low_at hso t.d hj, ← hk] at this
    exact this)
  have hn := h.hn
  have hcap := h.cap
  have hpre : ∀ W : World, _ := fun W => eltM.run_pre A n c k (by omega) hcap.1 W
  have hcut : ∀ W : World, _ := fun W => eltM.run_cut A n c k (by omega) hcap.1 W
  rw [zsM_len] at hcut
  have c2 := h1.bk.cell 2 rfl
  have d2 := q2.cell 0 rfl
  have HA := Lib.hid h1
  have HQ := Lib.hid (And.intro q2 q3)
  have HB := Lib.hid hb1
  have HW := Lib.hid hw1
  have HE : Hid (m'.most = m.most ∧ m'.now = m.now ∧ m'.l = m.l.take k ++ t :: m.l.drop k ∧ m'.Nm) := Lib.hid ⟨e1, e2, by rw [e3, ins_eq, hk], hnm⟩
  rw [← hn] at HSe
  rw [hw1] at c2 d2
  clear h h1 q2 q3 e1 e2 e3 hnm hcap hb1 hw1 hk hn hln
  go_enter Try.func35, Try.ntmps35
  go_wp2_with fail
  rw [← HW.out]
  refine HSe.out.mono ?_
  rintro e w2 ⟨rfl, hb2⟩
  have HA2 := Lib.hid (HA.out.below hb2)
  have HQ2 := Lib.hid (And.intro (HQ.out.1.below hb2) (HQ.out.2.below hb2))
  have HB2 := Lib.hid (below_on HB.out hb2)
  clear c2 d2 hb2
  go_wp2_with fail
  refine wp_region_L Ext [19] (by kernel_rfl) (fun wd hbd hsz => ?_)
  have HT := Lib.hid (HA2.out.below hbd)
  have HBD := Lib.hid (below_on HB2.out hbd)
  have HQD := Lib.hid (And.intro (HQ2.out.1.below hbd) (HQ2.out.2.below hbd))
  have c2 : ∀ W, Ext wd W → W.cell? ⟨g, 2, none⟩ = some (.slice A n c) := fun W hW => (HT.out.below hW).bk.cell 2 rfl
  have d2 : ∀ W, Ext wd W → W.cell? ⟨w.heap.size, 0, none⟩ = some (.pointer (some ⟨g, 0, none⟩)) := fun W hW => (HQD.out.1.below hW).cell 0 rfl
  have HC2 := Lib.hid (con_three HT.out t hkl)
  clear hbd hsz
  (refine takeL Ext.tr 0 (by simp only [List.getElem?_toArray, List.getElem?_cons_succ, List.getElem?_cons_zero]; rfl) (by kernel_rfl) (by kernel_rfl) (by kernel_rfl) (by kernel_rfl) (by exact fun _ _ _ h => h) (by first | (refine Or.inl ⟨by rfl, ?_⟩; intro W hW; go_simp; try with_reducible rfl) | exact Or.inr ⟨by rfl, rfl⟩) ?_; try simp only [Act.put, List.setIfInBounds_toArray, List.set_cons_zero, List.set_cons_succ])
  (refine takeL Ext.tr 1 (by simp only [List.getElem?_toArray, List.getElem?_cons_succ, List.getElem?_cons_zero]; rfl) (by kernel_rfl) (by kernel_rfl) (by kernel_rfl) (by kernel_rfl) (by exact fun _ _ _ h => h) (by first | (refine Or.inl ⟨by rfl, ?_⟩; intro W hW; go_simp; try with_reducible rfl) | exact Or.inr ⟨by rfl, rfl⟩) ?_; try simp only [Act.put, List.setIfInBounds_toArray, List.set_cons_zero, List.set_cons_succ])
  (refine takeL Ext.tr 5 (by simp only [List.getElem?_toArray, List.getElem?_cons_succ, List.getElem?_cons_zero]; rfl) (by kernel_rfl) (by kernel_rfl) (by kernel_rfl) (by kernel_rfl) (by exact fun _ _ _ h => h) (by first | (refine Or.inl ⟨by rfl, ?_⟩; intro W hW; go_simp; try with_reducible rfl) | exact Or.inr ⟨by rfl, rfl⟩) ?_; try simp only [Act.put, List.setIfInBounds_toArray, List.set_cons_zero, List.set_cons_succ])
  (refine takeL Ext.tr 7 (by simp only [List.getElem?_toArray, List.getElem?_cons_succ, List.getElem?_cons_zero]; rfl) (by kernel_rfl) (by kernel_rfl) (by kernel_rfl) (by kernel_rfl) (by exact fun _ _ _ h => h) (by first | (refine Or.inl ⟨by rfl, ?_⟩; intro W hW; exact exec_load_bk rowM (.tmp 3) rfl (w.heap.size + 1) 0 rfl (HQD.out.2.below hW) (tcl t) rfl rfl) | exact Or.inr ⟨by rfl, rfl⟩) ?_; try simp only [Act.put, List.setIfInBounds_toArray, List.set_cons_zero, List.set_cons_succ])
  (refine takeL Ext.tr 9 (by simp only [List.getElem?_toArray, List.getElem?_cons_succ, List.getElem?_cons_zero]; rfl) (by kernel_rfl) (by kernel_rfl) (by kernel_rfl) (by kernel_rfl) (by exact fun _ _ _ h => h) (by first | (refine Or.inl ⟨by rfl, ?_⟩; intro W hW; go_simp; try with_reducible rfl) | exact Or.inr ⟨by rfl, rfl⟩) ?_; try simp only [Act.put, List.setIfInBounds_toArray, List.set_cons_zero, List.set_cons_succ])
  (refine takeL Ext.tr 13 (by simp only [List.getElem?_toArray, List.getElem?_cons_succ, List.getElem?_cons_zero]; rfl) (by kernel_rfl) (by kernel_rfl) (by kernel_rfl) (by kernel_rfl) (by exact fun _ _ _ h => h) (by first | (refine Or.inl ⟨by rfl, ?_⟩; intro W hW; go_simp; try with_reducible rfl) | exact Or.inr ⟨by rfl, rfl⟩) ?_; try simp only [Act.put, List.setIfInBounds_toArray, List.set_cons_zero, List.set_cons_succ])
  (refine takeL Ext.tr 2 (by simp only [List.getElem?_toArray, List.getElem?_cons_succ, List.getElem?_cons_zero]; rfl) (by kernel_rfl) (by kernel_rfl) (by kernel_rfl) (by kernel_rfl) (by exact fun _ _ _ h => h) (by first | (refine Or.inl ⟨by rfl, ?_⟩; intro W hW; go_simp; try with_reducible rfl) | exact Or.inr ⟨by rfl, rfl⟩) ?_; try simp only [Act.put, List.setIfInBounds_toArray, List.set_cons_zero, List.set_cons_succ])
  (refine takeL Ext.tr 10 (by simp only [List.getElem?_toArray, List.getElem?_cons_succ, List.getElem?_cons_zero]; rfl) (by kernel_rfl) (by kernel_rfl) (by kernel_rfl) (by kernel_rfl) (by exact fun _ _ _ h => h) (by first | (refine Or.inl ⟨by rfl, ?_⟩; intro W hW; go_simp; try with_reducible rfl) | exact Or.inr ⟨by rfl, rfl⟩) ?_; try simp only [Act.put, List.setIfInBounds_toArray, List.set_cons_zero, List.set_cons_succ])
  (refine takeL Ext.tr 3 (by simp only [List.getElem?_toArray, List.getElem?_cons_succ, List.getElem?_cons_zero]; rfl) (by kernel_rfl) (by kernel_rfl) (by kernel_rfl) (by kernel_rfl) (by exact fun _ _ _ h => h) (by first | (refine Or.inl ⟨by rfl, ?_⟩; intro W hW; go_simp; try with_reducible rfl) | exact Or.inr ⟨by rfl, rfl⟩) ?_; try simp only [Act.put, List.setIfInBounds_toArray, List.set_cons_zero, List.set_cons_succ])
  (refine takeL Ext.tr 11 (by simp only [List.getElem?_toArray, List.getElem?_cons_succ, List.getElem?_cons_zero]; rfl) (by kernel_rfl) (by kernel_rfl) (by kernel_rfl) (by kernel_rfl) (by exact fun _ _ _ h => h) (by first | (refine Or.inl ⟨by rfl, ?_⟩; intro W hW; go_simp; try with_reducible rfl) | exact Or.inr ⟨by rfl, rfl⟩) ?_; try simp only [Act.put, List.setIfInBounds_toArray, List.set_cons_zero, List.set_cons_succ])
  (refine takeL Ext.tr 4 (by simp only [List.getElem?_toArray, List.getElem?_cons_succ, List.getElem?_cons_zero]; rfl) (by kernel_rfl) (by kernel_rfl) (by kernel_rfl) (by kernel_rfl) (by exact fun _ _ _ h => h) (by first | (refine Or.inl ⟨by rfl, ?_⟩; intro W hW; go_simp; try with_reducible rfl) | exact Or.inr ⟨by rfl, rfl⟩) ?_; try simp only [Act.put, List.setIfInBounds_toArray, List.set_cons_zero, List.set_cons_succ])
  (refine takeL Ext.tr 12 (by simp only [List.getElem?_toArray, List.getElem?_cons_succ, List.getElem?_cons_zero]; rfl) (by kernel_rfl) (by kernel_rfl) (by kernel_rfl) (by kernel_rfl) (by exact fun _ _ _ h => h) (by first | (refine Or.inl ⟨by rfl, ?_⟩; intro W hW; go_simp; try with_reducible rfl) | exact Or.inr ⟨by rfl, rfl⟩) ?_; try simp only [Act.put, List.setIfInBounds_toArray, List.set_cons_zero, List.set_cons_succ])
  (refine takeL Ext.tr 6 (by simp only [List.getElem?_toArray, List.getElem?_cons_succ, List.getElem?_cons_zero]; rfl) (by kernel_rfl) (by kernel_rfl) (by kernel_rfl) (by kernel_rfl) (by exact fun _ _ _ h => h) (by first | (refine Or.inl ⟨by rfl, ?_⟩; intro W hW; exact exec_slice eltM.ht rfl (hpre W)) | exact Or.inr ⟨by rfl, rfl⟩) ?_; try simp only [Act.put, List.setIfInBounds_toArray, List.set_cons_zero, List.set_cons_succ])
  (refine takeL Ext.tr 14 (by simp only [List.getElem?_toArray, List.getElem?_cons_succ, List.getElem?_cons_zero]; rfl) (by kernel_rfl) (by kernel_rfl) (by kernel_rfl) (by kernel_rfl) (by exact fun _ _ _ h => h) (by first | (refine Or.inl ⟨by rfl, ?_⟩; intro W hW; exact exec_slice eltM.ht rfl (hcut W)) | exact Or.inr ⟨by rfl, rfl⟩) ?_; try simp only [Act.put, List.setIfInBounds_toArray, List.set_cons_zero, List.set_cons_succ])
  refine wpAnyL_one (i := 8) (by kernel_rfl) (by simp only [List.getElem?_toArray, List.getElem?_cons_succ, List.getElem?_cons_zero]; rfl) (fun K hK => ?_)
  refine opwp_build_row eltM rfl (.tmp 19) rfl (xs := tcl t) rfl rfl ?_
  refine hK.out _ _ (.inr ((Below.refl _ _).alloc (Nat.le_refl _) _)) ?_
  clear hK K
  try simp only [Act.put, List.setIfInBounds_toArray, List.set_cons_zero, List.set_cons_succ]
  refine wpAnyL_one (i := 15) (by kernel_rfl) (by simp only [List.getElem?_toArray, List.getElem?_cons_succ, List.getElem?_cons_zero]; rfl) (fun K hK => ?_)
  go_simp
  refine hK.out _ _ (.inr ((Below.refl _ _).alloc (Nat.le_refl _) _)) ?_
  clear hK K
  try simp only [Act.put, List.setIfInBounds_toArray, List.set_cons_zero, List.set_cons_succ]
  refine wpAnyL_one (i := 16) (by kernel_rfl) (by simp only [List.getElem?_toArray, List.getElem?_cons_succ, List.getElem?_cons_zero]; rfl) (fun K hK => ?_)
  go_simp
  refine HC2.out.mono ?_
  rintro en w3 ⟨A', n', c', rfl, hl2, hb2⟩
  have hbx := below_on (((Below.refl wd.heap.size wd).alloc (Nat.le_refl _) (.cells #[.int .i64 t.k, .int .i64 t.d] 80)).alloc (by simp) _) hb2
  have c9 := (HT.out.bk.below hbx).cell 2 rfl
  have f9 := (HT.out.bk.below hbx).free 2
  have hE2 := hb2
  have HD9 : Hid (Did w g m' (w3.setCell ⟨g, 2, none⟩ (.slice A' n' c'))) := Lib.hid (Did.after HBD.out (HT.out.list hbx (by rw [HE.out.2.2.1]; exact hl2) HE.out.1 HE.out.2.1 HE.out.2.2.2))
  clear hb2 hl2 hbx
  refine hK.out _ _ (.inr hE2) ?_
  clear hK K
  try simp only [Act.put, List.setIfInBounds_toArray, List.set_cons_zero, List.set_cons_succ]
  (refine takeL Ext.tr 17 (by simp only [List.getElem?_toArray, List.getElem?_cons_succ, List.getElem?_cons_zero]; rfl) (by kernel_rfl) (by kernel_rfl) (by kernel_rfl) (by kernel_rfl) (by exact fun _ _ _ h => h) (by first | (refine Or.inl ⟨by rfl, ?_⟩; intro W hW; go_simp; try with_reducible rfl) | exact Or.inr ⟨by rfl, rfl⟩) ?_; try simp only [Act.put, List.setIfInBounds_toArray, List.set_cons_zero, List.set_cons_succ])
  (refine takeL Ext.tr 18 (by simp only [List.getElem?_toArray, List.getElem?_cons_succ, List.getElem?_cons_zero]; rfl) (by kernel_rfl) (by kernel_rfl) (by kernel_rfl) (by kernel_rfl) (by exact fun _ _ _ h => h) (by first | (refine Or.inl ⟨by rfl, ?_⟩; intro W hW; go_simp; try with_reducible rfl) | exact Or.inr ⟨by rfl, rfl⟩) ?_; try simp only [Act.put, List.setIfInBounds_toArray, List.set_cons_zero, List.set_cons_succ])
  refine wpAnyL_one (i := 19) (by kernel_rfl) (by simp only [List.getElem?_toArray, List.getElem?_cons_succ, List.getElem?_cons_zero]; rfl) (fun K hK => ?_)
  go_simp
  refine hK.out _ _ (.inl (by decide)) ?_
  clear hK K
  try simp only [Act.put, List.setIfInBounds_toArray, List.set_cons_zero, List.set_cons_succ]
  refine wpAnyL_done (by kernel_rfl) ?_ _
  clear c2 c9 f9 d2
  go_wp2
  go_end0
  exact ⟨rfl, HD9.out⟩
end
end Go.Proofs.Ytainmpeiicinmaa.Wi
