/- Set, Drop, Left, New. -/
import Derived.Test.YtainmpeiicinmaaW5i
set_option linter.unusedSimpArgs false
set_option linter.unusedVariables false
set_option maxRecDepth 100000
namespace Go.Proofs.Ytainmpeiicinmaa.Wi
open Go.RowKit Go.Shelf
section
variable {w w' w1 w2 : World} {g p b b2 bt : Nat} {m m' : Wm Int} {A : Option Addr} {n c : Nat} {x y : Int} {T : TypeId}
theorem w_drop (h : WhC w g m) (hok : m.Ok) (x : Int) : Calls Try.prog 10 #[.pointer (some ⟨g, 0, none⟩), (.int .i64 x)] w fun e w' => e = .returned (.bool (m.has x)) ∧ Did w g (m.drop x) w' ∧ w.heap.size < w'.heap.size := by
  have HF := Lib.hid (w_find h x)
  have HH := Lib.hid h
  by_cases hx : x ∈ m.l.map Tm.k
  · obtain ⟨i, hi, hix, hki⟩ := idxV_yes hx
    have hi' : i < m.l.length := by simpa using hi
    have hln := h.nm.ln
    have HR : Hid (∀ W, Below w.heap.size w W → Calls Try.prog 31 #[.pointer (some ⟨g, 0, none⟩), .int .i64 (i : Nat), .int .i64 ((i : Int) + 1)] W fun e w' => e = .returned (.tuple #[]) ∧ Did W g (m.drop x) w') := Lib.hid fun W hW => by
      have := w_remove (HH.out.below hW) (i := i) (j := i + 1) (m' := m.drop x) (by omega) (by omega) rfl rfl (rem_at m.l x i hi' hok.nd (by simpa using hki)) (Wm.drop_nm h.nm x)
      exact this
    have HX : Hid (m.idx x = (i : Int)) := Lib.hid hix
    rw [HX.out] at HF
    have HV := Lib.hid (Wm.has_yes hx)
    have hib : i ≤ 1024 := by omega
    clear h hok hx hi hix hki hi' hln
    go_enter Try.func10, Try.ntmps10
    go_wp2_with (first
      | (go_at_call 30; refine HF.out.mono ?_; rintro e w2 ⟨rfl, hb2, hs2⟩
         have HB2 := Lib.hid (And.intro hb2 hs2)
         have HR2 := Lib.hid (HR.out _ hb2)
         clear hb2 hs2)
      | (go_at_call 31; refine HR2.out.mono ?_; rintro e w3 ⟨rfl, hd⟩
         have HD := Lib.hid hd
         clear hd))
    go_ret
    exact ⟨by rw [HV.out]; rfl, Did.after HB2.out.1 HD.out, Nat.lt_of_lt_of_le HB2.out.2 HD.out.2.size⟩
  · have HX : Hid (m.idx x = -1) := Lib.hid (idxV_no hx)
    rw [HX.out] at HF
    have HV := Lib.hid (And.intro (Wm.has_no hx) (show m.drop x = m by
      unfold Wm.drop
      rw [rem_none hx]))
    clear h hok hx
    go_enter Try.func10, Try.ntmps10
    go_wp2_with (go_at_call 30; refine HF.out.mono ?_; rintro e w2 ⟨rfl, hb2, hs2⟩
                 have HB2 := Lib.hid (And.intro hb2 hs2)
                 clear hb2 hs2)
    go_ret
    exact ⟨by rw [HV.out.1]; rfl, by rw [HV.out.2]; exact (Did.same HH.out).next HB2.out.1, HB2.out.2⟩
theorem w_left (h : WhC w g m) (hok : m.Ok) (x : Int) : Calls Try.prog 23 #[.pointer (some ⟨g, 0, none⟩), (.int .i64 x)] w fun e w' => e = .returned (.tuple #[.int .i64 (m.left x), .bool (m.has x)]) ∧ Below w.heap.size w w' := by
  have HF := Lib.hid (w_find h x)
  by_cases hx : x ∈ m.l.map Tm.k
  · obtain ⟨A, n, c, h⟩ := h
    obtain ⟨i, hi, hix, hki⟩ := idxV_yes hx
    have hi' : i < m.l.length := by simpa using hi
    have hki' : m.l[i].k = x := by simpa using hki
    have hln := h.nm.ln
    have hn := h.hn
    have HX : Hid (m.idx x = (i : Int)) := Lib.hid hix
    rw [HX.out] at HF
    have HV : Hid (m.has x = true ∧ m.left x = m.l[i].d - m.now) := Lib.hid ⟨Wm.has_yes hx, by rw [← hki']; exact Wm.left_at hok hi'⟩
    have hib : i ≤ 1024 := by omega
    have hin : (i : Int) < n := by omega
    have hdn := hok.dn _ (List.getElem_mem hi')
    have hdb := h.nm.db _ (List.getElem_mem hi')
    have hn0 := h.nm.n0
    have hnb := h.nm.nb
    obtain ⟨g1, o, rfl, hg1, hra⟩ := h.row hi'
    generalize m.l[i].d = d at *
    generalize m.l[i].k = kk at *
    have HH := Lib.hid (And.intro h hra)
    clear h hok hx hix hki hki' hln hn hra
    go_enter Try.func23, Try.ntmps23
    go_wp2_with (go_at_call 30; refine HF.out.mono ?_; rintro e w2 ⟨rfl, hb2, hs2⟩
                 have hra := range_below HH.out.2 hg1 hb2
                 have d1 := hra 1 (.int .i64 d) rfl
                 have c1 := (HH.out.1.bk.below hb2).cell 1 rfl
                 have c2 := (HH.out.1.bk.below hb2).cell 2 rfl
                 have HB2 := Lib.hid hb2
                 clear hb2 hs2 hra)
    go_quiet (fail)
    go_wp2
    go_ret2
    exact ⟨by rw [HV.out.1, HV.out.2]; rfl, HB2.out.trans ((Below.drewN_ w2 _).mono HB2.out.size)⟩
  · have HX : Hid (m.idx x = -1) := Lib.hid (idxV_no hx)
    rw [HX.out] at HF
    have HV := Lib.hid (And.intro (Wm.has_no hx) (Wm.left_no hx))
    clear h hok hx
    go_enter Try.func23, Try.ntmps23
    go_wp2_with (go_at_call 30; refine HF.out.mono ?_; rintro e w2 ⟨rfl, hb2, hs2⟩
                 have HB2 := Lib.hid hb2
                 clear hb2 hs2)
    go_ret2
    exact ⟨by rw [HV.out.1, HV.out.2]; rfl, HB2.out⟩
theorem w_new (most : Int) (hm : 1 ≤ most) (hm2 : most ≤ 1024) : Calls Try.prog 7 #[.int .i64 most] w fun e w' => e = .returned (.tuple #[.pointer (some ⟨w.heap.size, 0, none⟩), .int .i64 0]) ∧ WhC w' w.heap.size (Wm.new most) ∧ Below w.heap.size w w' := by
  have HQ : Hid (WhC (w.alloc (.cells #[.int .i64 most, .int .i64 0, .slice none 0 0] 58)) w.heap.size (Wm.new most) ∧ Below w.heap.size w (w.alloc (.cells #[.int .i64 most, .int .i64 0, .slice none 0 0] 58))) := Lib.hid
    ⟨⟨none, 0, 0, Bk.new w 58 [.int .i64 most, .int .i64 0, .slice none 0 0], LstR.nil _ _ _ _, Wm.new_nm hm hm2⟩, (Below.refl _ w).alloc (Nat.le_refl _) _⟩
  go_enter Try.func7, Try.ntmps7
  go_wp2
  go_ret2
  exact ⟨rfl, HQ.out.1, HQ.out.2⟩
theorem w_newbad (most : Int) (hm : most < 1 ∨ (1 ≤ most ∧ 1024 < most)) : Calls Try.prog 7 #[.int .i64 most] w fun e w' => e = .returned (.tuple #[.pointer none, .int .i64 160]) ∧ w = w' := by
  rcases hm with hm | ⟨hm, hm2⟩
  · go_enter Try.func7, Try.ntmps7
    go_wp2
    go_ret2
    exact ⟨rfl, rfl⟩
  · go_enter Try.func7, Try.ntmps7
    go_wp2
    go_ret2
    exact ⟨rfl, rfl⟩
theorem dec_eq {n : Nat} {z : Int} (h : (n : Int) = z) : decide ((n : Int) = z) = true := decide_eq_true h
set_option maxHeartbeats 2000000 in
theorem w_set (h : WhC w g m) (hok : m.Ok) (hnb : m.now ≤ 1000000000) (x : Int) (n : Int) : Calls Try.prog 16 #[.pointer (some ⟨g, 0, none⟩), (.int .i64 x), .int .i64 n] w fun e w' => e = .returned (.int .i64 (m.setE x n)) ∧ Did w g (m.set x n) w' := by
  have HM := Lib.hid (w_made h)
  have HH := Lib.hid h
  by_cases h1 : n < 1 ∨ 1048576 < n
  · have HV := Lib.hid (Wm.set_no (m := m) (k := x) h1)
    rcases (by omega : n < 1 ∨ (1 ≤ n ∧ 1048576 < n)) with h2 | ⟨h2, h3⟩
    · clear h1 h hok
      go_enter Try.func16, Try.ntmps16
      go_wp2_with (go_at_call 33; refine HM.out.mono ?_; rintro e w' ⟨rfl, rfl⟩)
      go_ret
      exact ⟨by rw [HV.out.1]; rfl, by rw [HV.out.2]; exact Did.same HH.out⟩
    · clear h1 h hok
      go_enter Try.func16, Try.ntmps16
      go_wp2_with (go_at_call 33; refine HM.out.mono ?_; rintro e w' ⟨rfl, rfl⟩)
      go_ret
      exact ⟨by rw [HV.out.1]; rfl, by rw [HV.out.2]; exact Did.same HH.out⟩
  · have h2 : 1 ≤ n := by omega
    have h3 : n ≤ 1048576 := by omega
    have d1 : decide (n < 1) = false := decide_eq_false (by omega)
    have d2 : decide (1048576 < n) = false := decide_eq_false (by omega)
    have HOK := Lib.hid hok
    have HN0 := Lib.hid h.nm.n0
    by_cases hx : x ∈ m.l.map Tm.k
    · have HX := Lib.hid (Wm.has_yes hx)
      have hf : m.full x = false := by unfold Wm.full; rw [HX.out]; rfl
      have HV := Lib.hid (Wm.set_yes (m := m) (k := x) h1 hf)
      have HP := Lib.hid (And.intro (Wm.put_nm h.nm hok hnb hf h2 h3) (Wm.drop_ok hok x).so)
      have hn0 := h.nm.n0
      clear h1 h hok hx hf
      go_enter Try.func16, Try.ntmps16
      go_wp2_with (go_at_call 33; refine HM.out.mono ?_; rintro e w' ⟨rfl, rfl⟩)
      refine wp_region_E (Kc w.heap.size) (by kernel_rfl) (fun wd hbd hsz => ?_)
      have HT := Lib.hid (HH.out.below hbd)
      have HBD := Lib.hid hbd
      have hle : wd.heap.size ≤ w.heap.size := by rw [hsz]; exact Nat.le_refl _
      have HLE := Lib.hid hle
      have HDr := Lib.hid (w_drop HT.out HOK.out x)
      rw [HX.out] at HDr
      clear hbd hsz hle
      (refine takeE (Kc.tr w.heap.size) 0 (by simp only [List.getElem?_toArray, List.getElem?_cons_succ, List.getElem?_cons_zero]; rfl) (by kernel_rfl) (by kernel_rfl) (by kernel_rfl) (by exact fun _ _ _ h => h) (by first | (refine Or.inl ⟨by rfl, ?_⟩; intro W hW; go_simp; try with_reducible rfl) | exact Or.inr ⟨by rfl, rfl⟩) ?_; try simp only [Act.put, List.setIfInBounds_toArray, List.set_cons_zero, List.set_cons_succ])
      (refine takeE (Kc.tr w.heap.size) 1 (by simp only [List.getElem?_toArray, List.getElem?_cons_succ, List.getElem?_cons_zero]; rfl) (by kernel_rfl) (by kernel_rfl) (by kernel_rfl) (by exact fun _ _ _ h => h) (by first | (refine Or.inl ⟨by rfl, ?_⟩; intro W hW; go_simp; try with_reducible rfl) | exact Or.inr ⟨by rfl, rfl⟩) ?_; try simp only [Act.put, List.setIfInBounds_toArray, List.set_cons_zero, List.set_cons_succ])
      refine wpAnyE_one (i := 2) (by kernel_rfl) (by simp only [List.getElem?_toArray, List.getElem?_cons_succ, List.getElem?_cons_zero]; rfl) (fun K hK => ?_)
      go_simp
      refine HDr.out.mono ?_
      rintro en w2 ⟨rfl, hd2, hlt2⟩
      obtain ⟨A2, n2, c2', hA2⟩ := hd2.1
      have HA2 := Lib.hid hA2
      have HD2 := Lib.hid (Did.after HBD.out hd2)
      have HLT : Hid (w.heap.size < w2.heap.size) := Lib.hid (Nat.lt_of_le_of_lt HBD.out.size hlt2)
      clear hd2 hA2
      refine hK.out _ _ (.inl HLE.out) ?_
      clear hK K
      try simp only [Act.put, List.setIfInBounds_toArray, List.set_cons_zero, List.set_cons_succ]
      (refine takeE (Kc.tr w.heap.size) 3 (by simp only [List.getElem?_toArray, List.getElem?_cons_succ, List.getElem?_cons_zero]; rfl) (by kernel_rfl) (by kernel_rfl) (by kernel_rfl) (by exact fun _ _ _ h => h) (by first | (refine Or.inl ⟨by rfl, ?_⟩; intro W hW; go_simp; try with_reducible rfl) | exact Or.inr ⟨by rfl, rfl⟩) ?_; try simp only [Act.put, List.setIfInBounds_toArray, List.set_cons_zero, List.set_cons_succ])
      (refine takeE (Kc.tr w.heap.size) 4 (by simp only [List.getElem?_toArray, List.getElem?_cons_succ, List.getElem?_cons_zero]; rfl) (by kernel_rfl) (by kernel_rfl) (by kernel_rfl) (by exact fun _ _ _ h => h) (by first | (refine Or.inl ⟨by rfl, ?_⟩; intro W hW; go_simp; try with_reducible rfl) | exact Or.inr ⟨by rfl, rfl⟩) ?_; try simp only [Act.put, List.setIfInBounds_toArray, List.set_cons_zero, List.set_cons_succ])
      (refine takeE (Kc.tr w.heap.size) 5 (by simp only [List.getElem?_toArray, List.getElem?_cons_succ, List.getElem?_cons_zero]; rfl) (by kernel_rfl) (by kernel_rfl) (by kernel_rfl) (by exact fun _ _ _ h => h) (by first | (refine Or.inl ⟨by rfl, ?_⟩; intro W hW; go_simp; try with_reducible rfl) | exact Or.inr ⟨by rfl, rfl⟩) ?_; try simp only [Act.put, List.setIfInBounds_toArray, List.set_cons_zero, List.set_cons_succ])
      (refine takeE (Kc.tr w.heap.size) 10 (by simp only [List.getElem?_toArray, List.getElem?_cons_succ, List.getElem?_cons_zero]; rfl) (by kernel_rfl) (by kernel_rfl) (by kernel_rfl) (by exact fun _ _ _ h => h) (by first | (refine Or.inl ⟨by rfl, ?_⟩; intro W hW; go_simp; try with_reducible rfl) | exact Or.inr ⟨by rfl, rfl⟩) ?_; try simp only [Act.put, List.setIfInBounds_toArray, List.set_cons_zero, List.set_cons_succ])
      (refine takeE (Kc.tr w.heap.size) 6 (by simp only [List.getElem?_toArray, List.getElem?_cons_succ, List.getElem?_cons_zero]; rfl) (by kernel_rfl) (by kernel_rfl) (by kernel_rfl) (by exact fun _ _ _ h => h) (by first | (refine Or.inl ⟨by rfl, ?_⟩; intro W hW; go_simp; try with_reducible rfl) | exact Or.inr ⟨by rfl, rfl⟩) ?_; try simp only [Act.put, List.setIfInBounds_toArray, List.set_cons_zero, List.set_cons_succ])
      (refine takeE (Kc.tr w.heap.size) 11 (by simp only [List.getElem?_toArray, List.getElem?_cons_succ, List.getElem?_cons_zero]; rfl) (by kernel_rfl) (by kernel_rfl) (by kernel_rfl) (by exact fun _ _ _ h => h) (by first | (refine Or.inl ⟨by rfl, ?_⟩; intro W hW; go_simp; try with_reducible rfl) | exact Or.inr ⟨by rfl, rfl⟩) ?_; try simp only [Act.put, List.setIfInBounds_toArray, List.set_cons_zero, List.set_cons_succ])
      (refine takeE (Kc.tr w.heap.size) 7 (by simp only [List.getElem?_toArray, List.getElem?_cons_succ, List.getElem?_cons_zero]; rfl) (by kernel_rfl) (by kernel_rfl) (by kernel_rfl) (by exact fun _ _ _ h => h) (by first | (refine Or.inl ⟨by rfl, ?_⟩; intro W hW; go_simp; try with_reducible rfl) | exact Or.inr ⟨by rfl, rfl⟩) ?_; try simp only [Act.put, List.setIfInBounds_toArray, List.set_cons_zero, List.set_cons_succ])
      (refine takeE (Kc.tr w.heap.size) 12 (by simp only [List.getElem?_toArray, List.getElem?_cons_succ, List.getElem?_cons_zero]; rfl) (by kernel_rfl) (by kernel_rfl) (by kernel_rfl) (by exact fun _ _ _ h => h) (by first | (refine Or.inl ⟨by rfl, ?_⟩; intro W hW; go_simp; try with_reducible rfl) | exact Or.inr ⟨by rfl, rfl⟩) ?_; try simp only [Act.put, List.setIfInBounds_toArray, List.set_cons_zero, List.set_cons_succ])
      (refine takeE (Kc.tr w.heap.size) 8 (by simp only [List.getElem?_toArray, List.getElem?_cons_succ, List.getElem?_cons_zero]; rfl) (by kernel_rfl) (by kernel_rfl) (by kernel_rfl) (by exact fun _ _ _ h => h) (by first | (refine Or.inl ⟨by rfl, ?_⟩; intro W hW; go_simp; try with_reducible rfl) | exact Or.inr ⟨by rfl, rfl⟩) ?_; try simp only [Act.put, List.setIfInBounds_toArray, List.set_cons_zero, List.set_cons_succ])
      (refine takeE (Kc.tr w.heap.size) 13 (by simp only [List.getElem?_toArray, List.getElem?_cons_succ, List.getElem?_cons_zero]; rfl) (by kernel_rfl) (by kernel_rfl) (by kernel_rfl) (by exact fun _ _ _ h => h) (by first | (refine Or.inl ⟨by rfl, ?_⟩; intro W hW; go_simp; try with_reducible rfl) | exact Or.inr ⟨by rfl, rfl⟩) ?_; try simp only [Act.put, List.setIfInBounds_toArray, List.set_cons_zero, List.set_cons_succ])
      (refine takeE (Kc.tr w.heap.size) 9 (by simp only [List.getElem?_toArray, List.getElem?_cons_succ, List.getElem?_cons_zero]; rfl) (by kernel_rfl) (by kernel_rfl) (by kernel_rfl) (by exact fun _ _ _ h => h) (by first | (refine Or.inl ⟨by rfl, ?_⟩; intro W hW; go_simp; try with_reducible rfl) | exact Or.inr ⟨by rfl, rfl⟩) ?_; try simp only [Act.put, List.setIfInBounds_toArray, List.set_cons_zero, List.set_cons_succ])
      (refine takeE (Kc.tr w.heap.size) 14 (by simp only [List.getElem?_toArray, List.getElem?_cons_succ, List.getElem?_cons_zero]; rfl) (by kernel_rfl) (by kernel_rfl) (by kernel_rfl) (by exact fun _ _ _ h => h) (by first | (refine Or.inl ⟨by rfl, ?_⟩; intro W hW; go_simp; try with_reducible rfl) | exact Or.inr ⟨by rfl, rfl⟩) ?_; try simp only [Act.put, List.setIfInBounds_toArray, List.set_cons_zero, List.set_cons_succ])
      (refine takeE (Kc.tr w.heap.size) 15 (by simp only [List.getElem?_toArray, List.getElem?_cons_succ, List.getElem?_cons_zero]; rfl) (by kernel_rfl) (by kernel_rfl) (by kernel_rfl) (by exact fun _ _ _ h => h) (by first | (refine Or.inl ⟨by rfl, ?_⟩; intro W hW; go_simp; try with_reducible rfl) | exact Or.inr ⟨by rfl, rfl⟩) ?_; try simp only [Act.put, List.setIfInBounds_toArray, List.set_cons_zero, List.set_cons_succ])
      refine wpAnyE_done (by kernel_rfl) ?_ _
      have c1 : w2.cell? ⟨g, 1, none⟩ = some (.int .i64 m.now) := (HA2.out.bk).cell 1 rfl
      have HI := Lib.hid (w_insert ⟨_, _, _, HA2.out⟩ ⟨x, m.now + n, m.sets⟩ (m' := m.put x n) HP.out.2 rfl rfl rfl HP.out.1)
      clear hlt2
      go_wp2_with fail
      refine HI.out.mono ?_
      rintro e w3 ⟨rfl, hd3⟩
      have HD3 := Lib.hid hd3
      clear hd3
      go_wp2
      go_ret
      exact ⟨by rw [HV.out.1]; rfl, by rw [HV.out.2]; exact HD2.out.trans HD3.out⟩
    · have HX := Lib.hid (Wm.has_no hx)
      have hrl : (m.drop x).l.length = m.l.length := by
        show (rem m.l x).length = _
        rw [rem_none hx]
      have hlm := hok.lm
      by_cases hml : m.most ≤ m.l.length
      · have hf : m.full x = true := by unfold Wm.full; rw [HX.out, decide_eq_true hml]; rfl
        have HV := Lib.hid (Wm.set_full (m := m) (k := x) h1 hf)
        have HNE : Hid (∀ n2 : Nat, n2 = (m.drop x).l.length → ((n2 : Int) == m.most) = true) := Lib.hid fun n2 h2 => beq_iff_eq.2 (by omega)
        have HDx : Hid (m.drop x = m) := Lib.hid (by unfold Wm.drop; rw [rem_none hx])
        clear h1 h hok hx hf hlm hml hrl
        go_enter Try.func16, Try.ntmps16
        go_wp2_with (go_at_call 33; refine HM.out.mono ?_; rintro e w' ⟨rfl, rfl⟩)
        refine wp_region_E (Kc w.heap.size) (by kernel_rfl) (fun wd hbd hsz => ?_)
        have HT := Lib.hid (HH.out.below hbd)
        have HBD := Lib.hid hbd
        have hle : wd.heap.size ≤ w.heap.size := by rw [hsz]; exact Nat.le_refl _
        have HLE := Lib.hid hle
        have HDr := Lib.hid (w_drop HT.out HOK.out x)
        rw [HX.out] at HDr
        clear hbd hsz hle
        (refine takeE (Kc.tr w.heap.size) 0 (by simp only [List.getElem?_toArray, List.getElem?_cons_succ, List.getElem?_cons_zero]; rfl) (by kernel_rfl) (by kernel_rfl) (by kernel_rfl) (by exact fun _ _ _ h => h) (by first | (refine Or.inl ⟨by rfl, ?_⟩; intro W hW; go_simp; try with_reducible rfl) | exact Or.inr ⟨by rfl, rfl⟩) ?_; try simp only [Act.put, List.setIfInBounds_toArray, List.set_cons_zero, List.set_cons_succ])
        (refine takeE (Kc.tr w.heap.size) 1 (by simp only [List.getElem?_toArray, List.getElem?_cons_succ, List.getElem?_cons_zero]; rfl) (by kernel_rfl) (by kernel_rfl) (by kernel_rfl) (by exact fun _ _ _ h => h) (by first | (refine Or.inl ⟨by rfl, ?_⟩; intro W hW; go_simp; try with_reducible rfl) | exact Or.inr ⟨by rfl, rfl⟩) ?_; try simp only [Act.put, List.setIfInBounds_toArray, List.set_cons_zero, List.set_cons_succ])
        refine wpAnyE_one (i := 2) (by kernel_rfl) (by simp only [List.getElem?_toArray, List.getElem?_cons_succ, List.getElem?_cons_zero]; rfl) (fun K hK => ?_)
        go_simp
        refine HDr.out.mono ?_
        rintro en w2 ⟨rfl, hd2, hlt2⟩
        obtain ⟨A2, n2, c2', hA2⟩ := hd2.1
        have HA2 := Lib.hid hA2
        have HD2 := Lib.hid (Did.after HBD.out hd2)
        have HLT : Hid (w.heap.size < w2.heap.size) := Lib.hid (Nat.lt_of_le_of_lt HBD.out.size hlt2)
        have n2e := hA2.hn
        have c2 : ∀ W, Kc w.heap.size w2 W → W.cell? ⟨g, 2, none⟩ = some (.slice A2 n2 c2') := fun W hW => by rw [Kc.eq hW HLT.out]; exact HA2.out.bk.cell 2 rfl
        have c0 : ∀ W, Kc w.heap.size w2 W → W.cell? ⟨g, 0, none⟩ = some (.int .i64 m.most) := fun W hW => by rw [Kc.eq hW HLT.out]; exact HA2.out.bk.cell 0 rfl
        have hne : ((n2 : Int) == m.most) = true := HNE.out n2 n2e
        clear hd2 hA2 n2e
        refine hK.out _ _ (.inl HLE.out) ?_
        clear hK K
        try simp only [Act.put, List.setIfInBounds_toArray, List.set_cons_zero, List.set_cons_succ]
        (refine takeE (Kc.tr w.heap.size) 3 (by simp only [List.getElem?_toArray, List.getElem?_cons_succ, List.getElem?_cons_zero]; rfl) (by kernel_rfl) (by kernel_rfl) (by kernel_rfl) (by exact fun _ _ _ h => h) (by first | (refine Or.inl ⟨by rfl, ?_⟩; intro W hW; go_simp; try with_reducible rfl) | exact Or.inr ⟨by rfl, rfl⟩) ?_; try simp only [Act.put, List.setIfInBounds_toArray, List.set_cons_zero, List.set_cons_succ])
        (refine takeE (Kc.tr w.heap.size) 4 (by simp only [List.getElem?_toArray, List.getElem?_cons_succ, List.getElem?_cons_zero]; rfl) (by kernel_rfl) (by kernel_rfl) (by kernel_rfl) (by exact fun _ _ _ h => h) (by first | (refine Or.inl ⟨by rfl, ?_⟩; intro W hW; go_simp; try with_reducible rfl) | exact Or.inr ⟨by rfl, rfl⟩) ?_; try simp only [Act.put, List.setIfInBounds_toArray, List.set_cons_zero, List.set_cons_succ])
        (refine takeE (Kc.tr w.heap.size) 5 (by simp only [List.getElem?_toArray, List.getElem?_cons_succ, List.getElem?_cons_zero]; rfl) (by kernel_rfl) (by kernel_rfl) (by kernel_rfl) (by exact fun _ _ _ h => h) (by first | (refine Or.inl ⟨by rfl, ?_⟩; intro W hW; go_simp; try with_reducible rfl) | exact Or.inr ⟨by rfl, rfl⟩) ?_; try simp only [Act.put, List.setIfInBounds_toArray, List.set_cons_zero, List.set_cons_succ])
        (refine takeE (Kc.tr w.heap.size) 10 (by simp only [List.getElem?_toArray, List.getElem?_cons_succ, List.getElem?_cons_zero]; rfl) (by kernel_rfl) (by kernel_rfl) (by kernel_rfl) (by exact fun _ _ _ h => h) (by first | (refine Or.inl ⟨by rfl, ?_⟩; intro W hW; go_simp; try with_reducible rfl) | exact Or.inr ⟨by rfl, rfl⟩) ?_; try simp only [Act.put, List.setIfInBounds_toArray, List.set_cons_zero, List.set_cons_succ])
        (refine takeE (Kc.tr w.heap.size) 6 (by simp only [List.getElem?_toArray, List.getElem?_cons_succ, List.getElem?_cons_zero]; rfl) (by kernel_rfl) (by kernel_rfl) (by kernel_rfl) (by exact fun _ _ _ h => h) (by first | (refine Or.inl ⟨by rfl, ?_⟩; intro W hW; go_simp; try with_reducible rfl) | exact Or.inr ⟨by rfl, rfl⟩) ?_; try simp only [Act.put, List.setIfInBounds_toArray, List.set_cons_zero, List.set_cons_succ])
        (refine takeE (Kc.tr w.heap.size) 11 (by simp only [List.getElem?_toArray, List.getElem?_cons_succ, List.getElem?_cons_zero]; rfl) (by kernel_rfl) (by kernel_rfl) (by kernel_rfl) (by exact fun _ _ _ h => h) (by first | (refine Or.inl ⟨by rfl, ?_⟩; intro W hW; go_simp; try with_reducible rfl) | exact Or.inr ⟨by rfl, rfl⟩) ?_; try simp only [Act.put, List.setIfInBounds_toArray, List.set_cons_zero, List.set_cons_succ])
        (refine takeE (Kc.tr w.heap.size) 7 (by simp only [List.getElem?_toArray, List.getElem?_cons_succ, List.getElem?_cons_zero]; rfl) (by kernel_rfl) (by kernel_rfl) (by kernel_rfl) (by exact fun _ _ _ h => h) (by first | (refine Or.inl ⟨by rfl, ?_⟩; intro W hW; go_simp; try with_reducible rfl) | exact Or.inr ⟨by rfl, rfl⟩) ?_; try simp only [Act.put, List.setIfInBounds_toArray, List.set_cons_zero, List.set_cons_succ])
        (refine takeE (Kc.tr w.heap.size) 12 (by simp only [List.getElem?_toArray, List.getElem?_cons_succ, List.getElem?_cons_zero]; rfl) (by kernel_rfl) (by kernel_rfl) (by kernel_rfl) (by exact fun _ _ _ h => h) (by first | (refine Or.inl ⟨by rfl, ?_⟩; intro W hW; go_simp; try with_reducible rfl) | exact Or.inr ⟨by rfl, rfl⟩) ?_; try simp only [Act.put, List.setIfInBounds_toArray, List.set_cons_zero, List.set_cons_succ])
        (refine takeE (Kc.tr w.heap.size) 8 (by simp only [List.getElem?_toArray, List.getElem?_cons_succ, List.getElem?_cons_zero]; rfl) (by kernel_rfl) (by kernel_rfl) (by kernel_rfl) (by exact fun _ _ _ h => h) (by first | (refine Or.inl ⟨by rfl, ?_⟩; intro W hW; go_simp; try with_reducible rfl) | exact Or.inr ⟨by rfl, rfl⟩) ?_; try simp only [Act.put, List.setIfInBounds_toArray, List.set_cons_zero, List.set_cons_succ])
        (refine takeE (Kc.tr w.heap.size) 13 (by simp only [List.getElem?_toArray, List.getElem?_cons_succ, List.getElem?_cons_zero]; rfl) (by kernel_rfl) (by kernel_rfl) (by kernel_rfl) (by exact fun _ _ _ h => h) (by first | (refine Or.inl ⟨by rfl, ?_⟩; intro W hW; go_simp; try with_reducible rfl) | exact Or.inr ⟨by rfl, rfl⟩) ?_; try simp only [Act.put, List.setIfInBounds_toArray, List.set_cons_zero, List.set_cons_succ])
        (refine takeE (Kc.tr w.heap.size) 9 (by simp only [List.getElem?_toArray, List.getElem?_cons_succ, List.getElem?_cons_zero]; rfl) (by kernel_rfl) (by kernel_rfl) (by kernel_rfl) (by exact fun _ _ _ h => h) (by first | (refine Or.inl ⟨by rfl, ?_⟩; intro W hW; go_simp; try with_reducible rfl) | exact Or.inr ⟨by rfl, rfl⟩) ?_; try simp only [Act.put, List.setIfInBounds_toArray, List.set_cons_zero, List.set_cons_succ])
        (refine takeE (Kc.tr w.heap.size) 14 (by simp only [List.getElem?_toArray, List.getElem?_cons_succ, List.getElem?_cons_zero]; rfl) (by kernel_rfl) (by kernel_rfl) (by kernel_rfl) (by exact fun _ _ _ h => h) (by first | (refine Or.inl ⟨by rfl, ?_⟩; intro W hW; go_simp; try with_reducible rfl) | exact Or.inr ⟨by rfl, rfl⟩) ?_; try simp only [Act.put, List.setIfInBounds_toArray, List.set_cons_zero, List.set_cons_succ])
        (refine takeE (Kc.tr w.heap.size) 15 (by simp only [List.getElem?_toArray, List.getElem?_cons_succ, List.getElem?_cons_zero]; rfl) (by kernel_rfl) (by kernel_rfl) (by kernel_rfl) (by exact fun _ _ _ h => h) (by first | (refine Or.inl ⟨by rfl, ?_⟩; intro W hW; go_simp; try with_reducible rfl) | exact Or.inr ⟨by rfl, rfl⟩) ?_; try simp only [Act.put, List.setIfInBounds_toArray, List.set_cons_zero, List.set_cons_succ])
        refine wpAnyE_done (by kernel_rfl) ?_ _
        go_wp2
        go_ret
        exact ⟨by rw [HV.out.1]; rfl, by rw [HV.out.2]; have := HD2.out; rw [HDx.out] at this; exact this⟩
      · have hf : m.full x = false := by unfold Wm.full; rw [decide_eq_false hml]; simp
        have HV := Lib.hid (Wm.set_yes (m := m) (k := x) h1 hf)
        have HP := Lib.hid (And.intro (Wm.put_nm h.nm hok hnb hf h2 h3) (Wm.drop_ok hok x).so)
        have HNE : Hid (∀ n2 : Nat, n2 = (m.drop x).l.length → ((n2 : Int) == m.most) = false) := Lib.hid fun n2 h2 => beq_eq_false_iff_ne.2 (by omega)
        have hn0 := h.nm.n0
        clear h1 h hok hx hf hlm hml hrl
        go_enter Try.func16, Try.ntmps16
        go_wp2_with (go_at_call 33; refine HM.out.mono ?_; rintro e w' ⟨rfl, rfl⟩)
        refine wp_region_E (Kc w.heap.size) (by kernel_rfl) (fun wd hbd hsz => ?_)
        have HT := Lib.hid (HH.out.below hbd)
        have HBD := Lib.hid hbd
        have hle : wd.heap.size ≤ w.heap.size := by rw [hsz]; exact Nat.le_refl _
        have HLE := Lib.hid hle
        have HDr := Lib.hid (w_drop HT.out HOK.out x)
        rw [HX.out] at HDr
        clear hbd hsz hle
        (refine takeE (Kc.tr w.heap.size) 0 (by simp only [List.getElem?_toArray, List.getElem?_cons_succ, List.getElem?_cons_zero]; rfl) (by kernel_rfl) (by kernel_rfl) (by kernel_rfl) (by exact fun _ _ _ h => h) (by first | (refine Or.inl ⟨by rfl, ?_⟩; intro W hW; go_simp; try with_reducible rfl) | exact Or.inr ⟨by rfl, rfl⟩) ?_; try simp only [Act.put, List.setIfInBounds_toArray, List.set_cons_zero, List.set_cons_succ])
        (refine takeE (Kc.tr w.heap.size) 1 (by simp only [List.getElem?_toArray, List.getElem?_cons_succ, List.getElem?_cons_zero]; rfl) (by kernel_rfl) (by kernel_rfl) (by kernel_rfl) (by exact fun _ _ _ h => h) (by first | (refine Or.inl ⟨by rfl, ?_⟩; intro W hW; go_simp; try with_reducible rfl) | exact Or.inr ⟨by rfl, rfl⟩) ?_; try simp only [Act.put, List.setIfInBounds_toArray, List.set_cons_zero, List.set_cons_succ])
        refine wpAnyE_one (i := 2) (by kernel_rfl) (by simp only [List.getElem?_toArray, List.getElem?_cons_succ, List.getElem?_cons_zero]; rfl) (fun K hK => ?_)
        go_simp
        refine HDr.out.mono ?_
        rintro en w2 ⟨rfl, hd2, hlt2⟩
        obtain ⟨A2, n2, c2', hA2⟩ := hd2.1
        have HA2 := Lib.hid hA2
        have HD2 := Lib.hid (Did.after HBD.out hd2)
        have HLT : Hid (w.heap.size < w2.heap.size) := Lib.hid (Nat.lt_of_le_of_lt HBD.out.size hlt2)
        have n2e := hA2.hn
        have c2 : ∀ W, Kc w.heap.size w2 W → W.cell? ⟨g, 2, none⟩ = some (.slice A2 n2 c2') := fun W hW => by rw [Kc.eq hW HLT.out]; exact HA2.out.bk.cell 2 rfl
        have c0 : ∀ W, Kc w.heap.size w2 W → W.cell? ⟨g, 0, none⟩ = some (.int .i64 m.most) := fun W hW => by rw [Kc.eq hW HLT.out]; exact HA2.out.bk.cell 0 rfl
        have hne : ((n2 : Int) == m.most) = false := HNE.out n2 n2e
        clear hd2 hA2 n2e
        refine hK.out _ _ (.inl HLE.out) ?_
        clear hK K
        try simp only [Act.put, List.setIfInBounds_toArray, List.set_cons_zero, List.set_cons_succ]
        (refine takeE (Kc.tr w.heap.size) 3 (by simp only [List.getElem?_toArray, List.getElem?_cons_succ, List.getElem?_cons_zero]; rfl) (by kernel_rfl) (by kernel_rfl) (by kernel_rfl) (by exact fun _ _ _ h => h) (by first | (refine Or.inl ⟨by rfl, ?_⟩; intro W hW; go_simp; try with_reducible rfl) | exact Or.inr ⟨by rfl, rfl⟩) ?_; try simp only [Act.put, List.setIfInBounds_toArray, List.set_cons_zero, List.set_cons_succ])
        (refine takeE (Kc.tr w.heap.size) 4 (by simp only [List.getElem?_toArray, List.getElem?_cons_succ, List.getElem?_cons_zero]; rfl) (by kernel_rfl) (by kernel_rfl) (by kernel_rfl) (by exact fun _ _ _ h => h) (by first | (refine Or.inl ⟨by rfl, ?_⟩; intro W hW; go_simp; try with_reducible rfl) | exact Or.inr ⟨by rfl, rfl⟩) ?_; try simp only [Act.put, List.setIfInBounds_toArray, List.set_cons_zero, List.set_cons_succ])
        (refine takeE (Kc.tr w.heap.size) 5 (by simp only [List.getElem?_toArray, List.getElem?_cons_succ, List.getElem?_cons_zero]; rfl) (by kernel_rfl) (by kernel_rfl) (by kernel_rfl) (by exact fun _ _ _ h => h) (by first | (refine Or.inl ⟨by rfl, ?_⟩; intro W hW; go_simp; try with_reducible rfl) | exact Or.inr ⟨by rfl, rfl⟩) ?_; try simp only [Act.put, List.setIfInBounds_toArray, List.set_cons_zero, List.set_cons_succ])
        (refine takeE (Kc.tr w.heap.size) 10 (by simp only [List.getElem?_toArray, List.getElem?_cons_succ, List.getElem?_cons_zero]; rfl) (by kernel_rfl) (by kernel_rfl) (by kernel_rfl) (by exact fun _ _ _ h => h) (by first | (refine Or.inl ⟨by rfl, ?_⟩; intro W hW; go_simp; try with_reducible rfl) | exact Or.inr ⟨by rfl, rfl⟩) ?_; try simp only [Act.put, List.setIfInBounds_toArray, List.set_cons_zero, List.set_cons_succ])
        (refine takeE (Kc.tr w.heap.size) 6 (by simp only [List.getElem?_toArray, List.getElem?_cons_succ, List.getElem?_cons_zero]; rfl) (by kernel_rfl) (by kernel_rfl) (by kernel_rfl) (by exact fun _ _ _ h => h) (by first | (refine Or.inl ⟨by rfl, ?_⟩; intro W hW; go_simp; try with_reducible rfl) | exact Or.inr ⟨by rfl, rfl⟩) ?_; try simp only [Act.put, List.setIfInBounds_toArray, List.set_cons_zero, List.set_cons_succ])
        (refine takeE (Kc.tr w.heap.size) 11 (by simp only [List.getElem?_toArray, List.getElem?_cons_succ, List.getElem?_cons_zero]; rfl) (by kernel_rfl) (by kernel_rfl) (by kernel_rfl) (by exact fun _ _ _ h => h) (by first | (refine Or.inl ⟨by rfl, ?_⟩; intro W hW; go_simp; try with_reducible rfl) | exact Or.inr ⟨by rfl, rfl⟩) ?_; try simp only [Act.put, List.setIfInBounds_toArray, List.set_cons_zero, List.set_cons_succ])
        (refine takeE (Kc.tr w.heap.size) 7 (by simp only [List.getElem?_toArray, List.getElem?_cons_succ, List.getElem?_cons_zero]; rfl) (by kernel_rfl) (by kernel_rfl) (by kernel_rfl) (by exact fun _ _ _ h => h) (by first | (refine Or.inl ⟨by rfl, ?_⟩; intro W hW; go_simp; try with_reducible rfl) | exact Or.inr ⟨by rfl, rfl⟩) ?_; try simp only [Act.put, List.setIfInBounds_toArray, List.set_cons_zero, List.set_cons_succ])
        (refine takeE (Kc.tr w.heap.size) 12 (by simp only [List.getElem?_toArray, List.getElem?_cons_succ, List.getElem?_cons_zero]; rfl) (by kernel_rfl) (by kernel_rfl) (by kernel_rfl) (by exact fun _ _ _ h => h) (by first | (refine Or.inl ⟨by rfl, ?_⟩; intro W hW; go_simp; try with_reducible rfl) | exact Or.inr ⟨by rfl, rfl⟩) ?_; try simp only [Act.put, List.setIfInBounds_toArray, List.set_cons_zero, List.set_cons_succ])
        (refine takeE (Kc.tr w.heap.size) 8 (by simp only [List.getElem?_toArray, List.getElem?_cons_succ, List.getElem?_cons_zero]; rfl) (by kernel_rfl) (by kernel_rfl) (by kernel_rfl) (by exact fun _ _ _ h => h) (by first | (refine Or.inl ⟨by rfl, ?_⟩; intro W hW; go_simp; try with_reducible rfl) | exact Or.inr ⟨by rfl, rfl⟩) ?_; try simp only [Act.put, List.setIfInBounds_toArray, List.set_cons_zero, List.set_cons_succ])
        (refine takeE (Kc.tr w.heap.size) 13 (by simp only [List.getElem?_toArray, List.getElem?_cons_succ, List.getElem?_cons_zero]; rfl) (by kernel_rfl) (by kernel_rfl) (by kernel_rfl) (by exact fun _ _ _ h => h) (by first | (refine Or.inl ⟨by rfl, ?_⟩; intro W hW; go_simp; try with_reducible rfl) | exact Or.inr ⟨by rfl, rfl⟩) ?_; try simp only [Act.put, List.setIfInBounds_toArray, List.set_cons_zero, List.set_cons_succ])
        (refine takeE (Kc.tr w.heap.size) 9 (by simp only [List.getElem?_toArray, List.getElem?_cons_succ, List.getElem?_cons_zero]; rfl) (by kernel_rfl) (by kernel_rfl) (by kernel_rfl) (by exact fun _ _ _ h => h) (by first | (refine Or.inl ⟨by rfl, ?_⟩; intro W hW; go_simp; try with_reducible rfl) | exact Or.inr ⟨by rfl, rfl⟩) ?_; try simp only [Act.put, List.setIfInBounds_toArray, List.set_cons_zero, List.set_cons_succ])
        (refine takeE (Kc.tr w.heap.size) 14 (by simp only [List.getElem?_toArray, List.getElem?_cons_succ, List.getElem?_cons_zero]; rfl) (by kernel_rfl) (by kernel_rfl) (by kernel_rfl) (by exact fun _ _ _ h => h) (by first | (refine Or.inl ⟨by rfl, ?_⟩; intro W hW; go_simp; try with_reducible rfl) | exact Or.inr ⟨by rfl, rfl⟩) ?_; try simp only [Act.put, List.setIfInBounds_toArray, List.set_cons_zero, List.set_cons_succ])
        (refine takeE (Kc.tr w.heap.size) 15 (by simp only [List.getElem?_toArray, List.getElem?_cons_succ, List.getElem?_cons_zero]; rfl) (by kernel_rfl) (by kernel_rfl) (by kernel_rfl) (by exact fun _ _ _ h => h) (by first | (refine Or.inl ⟨by rfl, ?_⟩; intro W hW; go_simp; try with_reducible rfl) | exact Or.inr ⟨by rfl, rfl⟩) ?_; try simp only [Act.put, List.setIfInBounds_toArray, List.set_cons_zero, List.set_cons_succ])
        refine wpAnyE_done (by kernel_rfl) ?_ _
        clear c2 c0
        have c1 : w2.cell? ⟨g, 1, none⟩ = some (.int .i64 m.now) := (HA2.out.bk).cell 1 rfl
        have HI := Lib.hid (w_insert ⟨_, _, _, HA2.out⟩ ⟨x, m.now + n, m.sets⟩ (m' := m.put x n) HP.out.2 rfl rfl rfl HP.out.1)
        clear hlt2
        go_wp2_with fail
        refine HI.out.mono ?_
        rintro e w3 ⟨rfl, hd3⟩
        have HD3 := Lib.hid hd3
        clear hd3
        go_wp2
        go_ret
        exact ⟨by rw [HV.out.1]; rfl, by rw [HV.out.2]; exact HD2.out.trans HD3.out⟩
end
end Go.Proofs.Ytainmpeiicinmaa.Wi
