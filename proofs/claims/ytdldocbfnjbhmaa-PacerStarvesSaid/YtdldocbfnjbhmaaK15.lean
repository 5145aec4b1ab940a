/- The document's pacer: what is known of a key; a queue without a key; two queues held against each other. -/
import Derived.Test.YtdldocbfnjbhmaaK14
set_option linter.unusedSimpArgs false
set_option linter.unusedVariables false
set_option maxRecDepth 100000
namespace Go.Proofs.Ytdldocbfnjbhmaa
open Go.RowKit Go.Shelf
section
variable {X X' F : Nat → Prop} {w w' : World} {A B : Option Addr} {n c k' d : Nat} {L : List Kn} {q : List Ky} {v : Rv} {m : Pm} {k : Ky}
variable {P : Program} {ops : Array Oper} {rest : List Oper} {op : Oper} {a : Act} {Q : Exit → Act → World → Prop}
theorem wpList_load_kn {e : TypeId} (R : Row P e 5) (hgd : op.guard = none) (x : Operand) (ho : op.op = .load e x) (q : Kn) (g o : Nat) (hx : a.eval x = .pointer (some ⟨g, o, none⟩)) (h : w.rangeAt g o q.cl)
    (hq : wpList P ops Q rest (a.put op.dst (.agg #[.int .i64 q.k.s, .int .i64 q.k.c, .int .i64 q.g, .int .i64 q.p, .int .i64 q.i])) w) : wpList P ops Q (op :: rest) a w := by
  obtain ⟨d, h1, h2⟩ := R.ht
  exact wpList_load_mid hgd e x ho g o hx q.cl d h h1 h2 R.hi hq
theorem r_of (h : RpR X w v m) (hn : v.n ≤ 1000) (k : Ky) : Calls Try.prog 16 #[.agg #[.slice v.A v.n v.c, .slice v.B v.k v.d, .slice v.C v.r v.e, .int .i64 m.most, .int .i64 m.run, .int .i64 m.total], .agg #[.int .i64 k.s, .int .i64 k.c]] w fun e w' => e = .returned (.agg #[.int .i64 ((ofKey m.L k)).k.s, .int .i64 ((ofKey m.L k)).k.c, .int .i64 ((ofKey m.L k)).g, .int .i64 ((ofKey m.L k)).p, .int .i64 ((ofKey m.L k)).i]) ∧ Below w.heap.size w w' := by
  obtain ⟨W, hW⟩ : ∃ W, W = ((w.alloc (.cells #[.slice v.A v.n v.c, .slice v.B v.k v.d, .slice v.C v.r v.e, .int .i64 m.most, .int .i64 m.run, .int .i64 m.total] 30)).alloc (.cells #[.int .i64 k.s, .int .i64 k.c] 35)).alloc (.cells #[.int .i64 zKn.k.s, .int .i64 zKn.k.c, .int .i64 zKn.g, .int .i64 zKn.p, .int .i64 zKn.i] 50) := ⟨_, rfl⟩
  have hb1 : Below w.heap.size w W := by rw [hW]; exact (((Below.refl _ w).alloc (Nat.le_refl _) _).alloc (by simp) _).alloc (by simp; omega) _
  have z1 : Bk W 30 w.heap.size ([.slice v.A v.n v.c, .slice v.B v.k v.d, .slice v.C v.r v.e, .int .i64 m.most, .int .i64 m.run, .int .i64 m.total]) := by rw [hW]; exact ((Bk.new w 30 ([.slice v.A v.n v.c, .slice v.B v.k v.d, .slice v.C v.r v.e, .int .i64 m.most, .int .i64 m.run, .int .i64 m.total])).alloc _).alloc _
  have z2 : Bk W 35 (w.heap.size + 1) k.cl := by
    have := (Bk.new (w.alloc (.cells #[.slice v.A v.n v.c, .slice v.B v.k v.d, .slice v.C v.r v.e, .int .i64 m.most, .int .i64 m.run, .int .i64 m.total] 30)) 35 k.cl).alloc (.cells #[.int .i64 zKn.k.s, .int .i64 zKn.k.c, .int .i64 zKn.g, .int .i64 zKn.p, .int .i64 zKn.i] 50)
    rw [World.size_alloc] at this
    rw [hW]; exact this
  have z3 : Bk W 50 (w.heap.size + 2) zKn.cl := by
    have := Bk.new ((w.alloc (.cells #[.slice v.A v.n v.c, .slice v.B v.k v.d, .slice v.C v.r v.e, .int .i64 m.most, .int .i64 m.run, .int .i64 m.total] 30)).alloc (.cells #[.int .i64 k.s, .int .i64 k.c] 35)) 50 zKn.cl
    simp only [World.size_alloc] at this
    rw [hW]; exact this
  have HF := Lib.hid (r_find (h.below hb1) hn k)
  have HA := Lib.hid (And.intro hb1 (And.intro z1 (And.intro z3 (h.l.below hb1))))
  unfold zKn zK at hW
  dsimp only at hW
  rcases got_or m.L k with ⟨i, x, hg⟩ | hl
  · have HO := Lib.hid (of_got hg).1
    rw [ixI_got hg] at HF
    have HG := Lib.hid hg
    have HVN := Lib.hid h.l.1
    clear hg h
    generalize ofKey m.L k = y at *
    go_enter Try.func16, Try.ntmps16
    go_wp2_with (first
      | (with_reducible refine at_load 30 (.tmp 2) (by rfl) ?_; rw [← hW]; clear hW; refine wpList_load_bk rowR rfl (.tmp 2) rfl w.heap.size 0 rfl z1 ([.slice v.A v.n v.c, .slice v.B v.k v.d, .slice v.C v.r v.e, .int .i64 m.most, .int .i64 m.run, .int .i64 m.total]) rfl rfl ?_)
      | (with_reducible refine at_load 35 (.tmp 3) (by rfl) ?_; refine wpList_load_pk rowRK rfl (.tmp 3) rfl k (w.heap.size + 1) 0 rfl (rangeK z2) ?_))
    refine HF.out.mono ?_
    rintro e w2 ⟨rfl, hb2⟩
    have hc0 := (HA.out.2.1.below hb2).cell 0 rfl
    obtain ⟨g, o, hA, hg, hra⟩ := (HA.out.2.2.2.below hb2).row HG.out.1
    rw [hA] at hc0
    have z3' := HA.out.2.2.1.below hb2
    have hi : (i : Int) < v.n := by have := HG.out.lt; have := HVN.out; omega
    have hi0 : ¬ (i : Int) < 0 := by omega
    have HB := Lib.hid hb2
    clear hb2 z1 z2 z3 hb1 hA
    go_wp2_with (first
      | (with_reducible refine at_load 50 (.tmp 15) (by rfl) ?_; refine wpList_load_kn rowN rfl (.tmp 15) rfl x g (o + i * 5) rfl hra ?_)
      | (with_reducible refine at_store 50 (.tmp 4) (.tmp 16) (by rfl) ?_; refine wpList_store_bk rowN rfl (.tmp 4) (.tmp 16) rfl (w.heap.size + 2) 0 rfl z3' x.cl rfl rfl (by decide) x.cl_one ?_; intro w5 hz6 hw5))
    rw [lay_all _ _ (by rfl)] at hz6
    refine bodyPost_ret (results_cell rfl rfl (rowN.load hz6 0 (cs := x.cl) rfl rfl)) rfl ⟨by rw [HO.out]; rfl, ?_⟩
    have hb4 := HA.out.1.trans (HB.out.mono HA.out.1.size)
    exact hb4.trans (hw5.below (by omega) hb4.size)
  · have HO := Lib.hid (of_lacks hl).1
    rw [ixI_lacks hl] at HF
    clear hl h
    generalize ofKey m.L k = y at *
    go_enter Try.func16, Try.ntmps16
    go_wp2_with (first
      | (with_reducible refine at_load 30 (.tmp 2) (by rfl) ?_; rw [← hW]; clear hW; refine wpList_load_bk rowR rfl (.tmp 2) rfl w.heap.size 0 rfl z1 ([.slice v.A v.n v.c, .slice v.B v.k v.d, .slice v.C v.r v.e, .int .i64 m.most, .int .i64 m.run, .int .i64 m.total]) rfl rfl ?_)
      | (with_reducible refine at_load 35 (.tmp 3) (by rfl) ?_; refine wpList_load_pk rowRK rfl (.tmp 3) rfl k (w.heap.size + 1) 0 rfl (rangeK z2) ?_))
    refine HF.out.mono ?_
    rintro e w2 ⟨rfl, hb2⟩
    have z3' := HA.out.2.2.1.below hb2
    have HB := Lib.hid hb2
    clear hb2 z1 z2 z3 hb1
    go_wp2_with (first
      | (with_reducible refine at_store 50 (.tmp 4) (.tmp 11) (by rfl) ?_; refine wpList_store_bk rowN rfl (.tmp 4) (.tmp 11) rfl (w.heap.size + 2) 0 rfl z3' zKn.cl rfl rfl (by decide) zKn.cl_one ?_; intro w5 hz6 hw5))
    rw [lay_all _ _ (by rfl)] at hz6
    refine bodyPost_ret (results_cell rfl rfl (rowN.load hz6 0 (cs := zKn.cl) rfl rfl)) rfl ⟨by rw [HO.out]; rfl, ?_⟩
    have hb4 := HA.out.1.trans (HB.out.mono HA.out.1.size)
    exact hb4.trans (hw5.below (by omega) hb4.size)
set_option maxHeartbeats 4000000 in
theorem r_without (h : LkK X w A n c q) (hn : n ≤ 1000) (k : Ky) (hX : ∀ j, w.heap.size ≤ j → X j) : Calls Try.prog 52 #[.slice A n c, .agg #[.int .i64 k.s, .int .i64 k.c]] w fun e w' =>
    ∃ A' n' c', e = .returned (.slice A' n' c') ∧ LkK X w' A' n' c' (q.filter (not_ k)) ∧ Below w.heap.size w w' := by
  obtain ⟨W, hW⟩ : ∃ W, W = w.alloc (.cells #[.int .i64 k.s, .int .i64 k.c] 35) := ⟨_, rfl⟩
  have hb1 : Below w.heap.size w W := by rw [hW]; exact (Below.refl _ w).alloc (Nat.le_refl _) _
  have z1 : Bk W 35 w.heap.size k.cl := by rw [hW]; exact Bk.new w 35 k.cl
  have HSW := Lib.hid (show W.heap.size = w.heap.size + 1 by rw [hW]; simp)
  have HA := Lib.hid (And.intro hb1 (And.intro z1 (h.below hb1)))
  have HVN := Lib.hid h.1
  have HX := Lib.hid hX
  clear hb1 z1 h hX
  go_enter Try.func52, Try.ntmps52
  go_wp2
  rw [← hW]
  clear hW
  go_loopw [5, 6] (fun u5 u6 wr => ∃ (i : Nat) (A' : Option Addr) (n' c' : Nat), i ≤ n ∧ n' ≤ i ∧ u6 = .int .i64 i ∧ u5 = .slice A' n' c' ∧ LstR 2 35 (w.heap.size < ·) wr A' n' c' (flat Ky.cl ((q.take i).filter (not_ k))) ∧ Below W.heap.size W wr) (fun u5 u6 _ => n + 1 - (intOf u6).toNat)
  case atStart => exact ⟨0, none, 0, 0, Nat.zero_le _, Nat.le_refl _, rfl, rfl, LstR.nil _ _ _ _, Below.refl _ _⟩
  case round =>
    obtain ⟨i, A', n', c', hi, hni, rfl, rfl, hl, hb⟩ := hrel
    have HB := Lib.hid hb
    clear hb
    by_cases hlt : i < n
    · obtain ⟨x, hx⟩ : ∃ x, q[i]? = some x := ⟨_, List.getElem?_eq_getElem (by rw [← HVN.out]; exact hlt)⟩
      obtain ⟨g, o, rfl, hg, hra⟩ := (HA.out.2.2.below HB.out).row hx
      have ht : q.take (i + 1) = q.take i ++ [x] := by rw [List.take_add_one, hx]; rfl
      have HRK := Lib.hid (And.intro hg hra)
      have HL := Lib.hid hl
      clear hra hg hl hx
      have hlt1 : (i : Int) < n := by omega
      by_cases hxk : x = k
      · have HE := Lib.hid hxk
        have HT : Hid ((q.take (i + 1)).filter (not_ k) = (q.take i).filter (not_ k)) := Lib.hid (by rw [ht, List.filter_append, hxk]; simp [not_])
        clear hxk ht
        go_wp2_with fail
        refine wp_region_E Ext (by kernel_rfl) (fun wd hbd hsz => ?_)
        have HBX := Lib.hid (HB.out.trans (hbd.mono HB.out.size))
        have HBD := Lib.hid hbd
        have z1d := HA.out.2.1.below HBX.out
        have hrd := range_below HRK.out.2 HRK.out.1 hbd
        have hgd := Nat.lt_of_lt_of_le HRK.out.1 hbd.size
        have hcmp : ∀ V, (binOp .neq 35 (.agg #[.int .i64 x.s, .int .i64 x.c]) (.agg #[.int .i64 k.s, .int .i64 k.c])).run Try.prog V = .ok (.bool false) V := fun V => by rw [rkey_neq, decide_eq_true HE.out]; rfl
        clear hsz
        (refine takeE Ext.tr 0 (by simp only [List.getElem?_toArray, List.getElem?_cons_succ, List.getElem?_cons_zero]; rfl) (by kernel_rfl) (by kernel_rfl) (by kernel_rfl) (by exact fun _ _ _ h => h) (by first | (refine Or.inl ⟨by rfl, ?_⟩; intro W hW; go_simp; try with_reducible rfl) | exact Or.inr ⟨by rfl, rfl⟩) ?_; try simp only [Act.put, List.setIfInBounds_toArray, List.set_cons_zero, List.set_cons_succ])
        (refine takeE Ext.tr 1 (by simp only [List.getElem?_toArray, List.getElem?_cons_succ, List.getElem?_cons_zero]; rfl) (by kernel_rfl) (by kernel_rfl) (by kernel_rfl) (by exact fun _ _ _ h => h) (by first | (refine Or.inl ⟨by rfl, ?_⟩; intro W hW; go_simp; try with_reducible rfl) | exact Or.inr ⟨by rfl, rfl⟩) ?_; try simp only [Act.put, List.setIfInBounds_toArray, List.set_cons_zero, List.set_cons_succ])
        (refine takeE Ext.tr 4 (by simp only [List.getElem?_toArray, List.getElem?_cons_succ, List.getElem?_cons_zero]; rfl) (by kernel_rfl) (by kernel_rfl) (by kernel_rfl) (by exact fun _ _ _ h => h) (by first | (refine Or.inl ⟨by rfl, ?_⟩; intro W hW; exact exec_loadK rowRK (.tmp 3) rfl w.heap.size 0 rfl k (rangeK (z1d.below hW))) | exact Or.inr ⟨by rfl, rfl⟩) ?_; try simp only [Act.put, List.setIfInBounds_toArray, List.set_cons_zero, List.set_cons_succ])
        (refine takeE Ext.tr 2 (by simp only [List.getElem?_toArray, List.getElem?_cons_succ, List.getElem?_cons_zero]; rfl) (by kernel_rfl) (by kernel_rfl) (by kernel_rfl) (by exact fun _ _ _ h => h) (by first | (refine Or.inl ⟨by rfl, ?_⟩; intro W hW; go_simp; try with_reducible rfl) | exact Or.inr ⟨by rfl, rfl⟩) ?_; try simp only [Act.put, List.setIfInBounds_toArray, List.set_cons_zero, List.set_cons_succ])
        (refine takeE Ext.tr 3 (by simp only [List.getElem?_toArray, List.getElem?_cons_succ, List.getElem?_cons_zero]; rfl) (by kernel_rfl) (by kernel_rfl) (by kernel_rfl) (by exact fun _ _ _ h => h) (by first | (refine Or.inl ⟨by rfl, ?_⟩; intro W hW; exact exec_loadK rowRK (.tmp 15) rfl g (o + i * 2) rfl x (range_below hrd hgd hW)) | exact Or.inr ⟨by rfl, rfl⟩) ?_; try simp only [Act.put, List.setIfInBounds_toArray, List.set_cons_zero, List.set_cons_succ])
        (refine takeE Ext.tr 5 (by simp only [List.getElem?_toArray, List.getElem?_cons_succ, List.getElem?_cons_zero]; rfl) (by kernel_rfl) (by kernel_rfl) (by kernel_rfl) (by exact fun _ _ _ h => h) (by first | (refine Or.inl ⟨by rfl, ?_⟩; intro W hW; exact exec_cmp_agg rfl (by kernel_rfl) rfl rfl (hcmp W)) | exact Or.inr ⟨by rfl, rfl⟩) ?_; try simp only [Act.put, List.setIfInBounds_toArray, List.set_cons_zero, List.set_cons_succ])
        refine wpAnyE_done (by kernel_rfl) ?_ _
        clear hcmp
        go_wp2
        go_roundw
        case rel => exact ⟨i + 1, A', n', c', by omega, by omega, by go_num, rfl, by rw [HT.out]; exact HL.out.below HBD.out, HBX.out⟩
        case measure => simp [intOf]; omega
      · have HE := Lib.hid hxk
        have HT : Hid ((q.take (i + 1)).filter (not_ k) = (q.take i).filter (not_ k) ++ [x]) := Lib.hid (by rw [ht, List.filter_append]; simp [not_, hxk])
        clear hxk ht
        go_wp2_with fail
        refine wp_region_E Ext (by kernel_rfl) (fun wd hbd hsz => ?_)
        have HBX := Lib.hid (HB.out.trans (hbd.mono HB.out.size))
        have HBD := Lib.hid hbd
        have z1d := HA.out.2.1.below HBX.out
        have hrd := range_below HRK.out.2 HRK.out.1 hbd
        have hgd := Nat.lt_of_lt_of_le HRK.out.1 hbd.size
        have hcmp : ∀ V, (binOp .neq 35 (.agg #[.int .i64 x.s, .int .i64 x.c]) (.agg #[.int .i64 k.s, .int .i64 k.c])).run Try.prog V = .ok (.bool true) V := fun V => by rw [rkey_neq, decide_eq_false HE.out]; rfl
        clear hsz
        (refine takeE Ext.tr 0 (by simp only [List.getElem?_toArray, List.getElem?_cons_succ, List.getElem?_cons_zero]; rfl) (by kernel_rfl) (by kernel_rfl) (by kernel_rfl) (by exact fun _ _ _ h => h) (by first | (refine Or.inl ⟨by rfl, ?_⟩; intro W hW; go_simp; try with_reducible rfl) | exact Or.inr ⟨by rfl, rfl⟩) ?_; try simp only [Act.put, List.setIfInBounds_toArray, List.set_cons_zero, List.set_cons_succ])
        (refine takeE Ext.tr 1 (by simp only [List.getElem?_toArray, List.getElem?_cons_succ, List.getElem?_cons_zero]; rfl) (by kernel_rfl) (by kernel_rfl) (by kernel_rfl) (by exact fun _ _ _ h => h) (by first | (refine Or.inl ⟨by rfl, ?_⟩; intro W hW; go_simp; try with_reducible rfl) | exact Or.inr ⟨by rfl, rfl⟩) ?_; try simp only [Act.put, List.setIfInBounds_toArray, List.set_cons_zero, List.set_cons_succ])
        (refine takeE Ext.tr 4 (by simp only [List.getElem?_toArray, List.getElem?_cons_succ, List.getElem?_cons_zero]; rfl) (by kernel_rfl) (by kernel_rfl) (by kernel_rfl) (by exact fun _ _ _ h => h) (by first | (refine Or.inl ⟨by rfl, ?_⟩; intro W hW; exact exec_loadK rowRK (.tmp 3) rfl w.heap.size 0 rfl k (rangeK (z1d.below hW))) | exact Or.inr ⟨by rfl, rfl⟩) ?_; try simp only [Act.put, List.setIfInBounds_toArray, List.set_cons_zero, List.set_cons_succ])
        (refine takeE Ext.tr 2 (by simp only [List.getElem?_toArray, List.getElem?_cons_succ, List.getElem?_cons_zero]; rfl) (by kernel_rfl) (by kernel_rfl) (by kernel_rfl) (by exact fun _ _ _ h => h) (by first | (refine Or.inl ⟨by rfl, ?_⟩; intro W hW; go_simp; try with_reducible rfl) | exact Or.inr ⟨by rfl, rfl⟩) ?_; try simp only [Act.put, List.setIfInBounds_toArray, List.set_cons_zero, List.set_cons_succ])
        (refine takeE Ext.tr 3 (by simp only [List.getElem?_toArray, List.getElem?_cons_succ, List.getElem?_cons_zero]; rfl) (by kernel_rfl) (by kernel_rfl) (by kernel_rfl) (by exact fun _ _ _ h => h) (by first | (refine Or.inl ⟨by rfl, ?_⟩; intro W hW; exact exec_loadK rowRK (.tmp 15) rfl g (o + i * 2) rfl x (range_below hrd hgd hW)) | exact Or.inr ⟨by rfl, rfl⟩) ?_; try simp only [Act.put, List.setIfInBounds_toArray, List.set_cons_zero, List.set_cons_succ])
        (refine takeE Ext.tr 5 (by simp only [List.getElem?_toArray, List.getElem?_cons_succ, List.getElem?_cons_zero]; rfl) (by kernel_rfl) (by kernel_rfl) (by kernel_rfl) (by exact fun _ _ _ h => h) (by first | (refine Or.inl ⟨by rfl, ?_⟩; intro W hW; exact exec_cmp_agg rfl (by kernel_rfl) rfl rfl (hcmp W)) | exact Or.inr ⟨by rfl, rfl⟩) ?_; try simp only [Act.put, List.setIfInBounds_toArray, List.set_cons_zero, List.set_cons_succ])
        refine wpAnyE_done (by kernel_rfl) ?_ _
        clear hcmp
        have hra2 := range_below HRK.out.2 HRK.out.1 HBD.out
        have hla := ((HL.out.below HBD.out).alloc (.cells x.cl.toArray 35)).tight
        have hu := RdR.one wd 35 x.cl x.cl_one
        have hnn : (n' + 1) * 16 ≤ 140737488355328 := by omega
        go_wp2_with (first
          | (with_reducible refine at_load 35 (.tmp 22) (by rfl) ?_; refine wpList_load_pk rowRK rfl (.tmp 22) rfl x g (o + i * 2) rfl hra2 ?_)
          | (refine wpList_build_row eltRK rfl (.tmp 23) rfl (xs := x.cl) rfl rfl ?_)
          | (at_builtin
             refine wpList_append_lstR eltRK rfl (.tmp 19) (.tmp 24) rfl rfl hla rfl hu hnn ?_
             rintro u w5 hap
             have hsz5 := HBX.out.size
             obtain ⟨A2, n2, c2, rfl, hl2, hb2⟩ := apd_next (Bd := w.heap.size + 1) (HL.out.below HBD.out) (by have := HSW.out; omega) hap))
        have hn2 : n2 = n' + 1 := by
          have e1 : _ = n2 * 2 := hl2.1
          have e2 : _ = n' * 2 := HL.out.1
          rw [flat_len Ky.cl_len] at e2
          simp [flat_len Ky.cl_len, Ky.cl] at e1
          omega
        have HL2 := Lib.hid hl2
        have HN2 := Lib.hid hn2
        have HB5 := Lib.hid (hb2.mono (show W.heap.size ≤ w.heap.size + 1 by have := HSW.out; omega))
        clear hla hu hl2 hn2 hb2 hap hra2 hsz5
        go_roundw
        case rel => exact ⟨i + 1, A2, n2, c2, by omega, by have := HN2.out; omega, by go_num, rfl, by rw [HT.out, flat_app, flat_one]; exact HL2.out, HBX.out.trans HB5.out⟩
        case measure => simp [intOf]; omega
    · obtain rfl : i = n := by omega
      have HL := Lib.hid hl
      clear hl
      go_wp2
      go_ret
      refine ⟨A', n', c', rfl, ?_, HA.out.1.trans (HB.out.mono HA.out.1.size)⟩
      have := HL.out
      rw [List.take_of_length_le (by rw [← HVN.out]; exact Nat.le_refl _)] at this
      exact LkK.of (this.mono fun j hj => Nat.le_of_lt hj) HX.out
set_option maxHeartbeats 4000000 in
/-- Two rows that are the same. -/
theorem r_same (h1 : LkK X w A n c q) (h2 : LkK X' w B k' d q) (hn : n ≤ 1000) : Calls Try.prog 21 #[.slice A n c, .slice B k' d] w fun e w' => e = .returned (.bool true) ∧ Below w.heap.size w w' := by
  obtain rfl : n = k' := h1.1.trans h2.1.symm
  have HQ := Lib.hid h1.1
  have H1 := Lib.hid h1
  have H2 := Lib.hid h2
  clear h1 h2
  go_enter Try.func21, Try.ntmps21
  go_wp2
  go_loopw [5] (fun u wr => ∃ i : Nat, u = .int .i64 i ∧ i ≤ n ∧ Below w.heap.size w wr) (fun u _ => n - (intOf u).toNat)
  case atStart => exact ⟨0, rfl, Nat.zero_le _, Below.refl _ _⟩
  case round =>
    obtain ⟨i, rfl, hi, hb⟩ := hrel
    by_cases hlt : i < n
    · obtain ⟨x, hx⟩ : ∃ x, q[i]? = some x := ⟨_, List.getElem?_eq_getElem (by rw [← HQ.out]; exact hlt)⟩
      obtain ⟨g1, o1, rfl, hg1, hr1⟩ := (H1.out.below hb).row hx
      obtain ⟨g2, o2, rfl, hg2, hr2⟩ := (H2.out.below hb).row hx
      have HR := Lib.hid (And.intro hg1 (And.intro hr1 (And.intro hg2 hr2)))
      have HB := Lib.hid hb
      have hlt1 : (i : Int) < n := by omega
      clear hg1 hg2 hr1 hr2 hx hb
      go_wp2_with fail
      refine wp_region_E Ext (by kernel_rfl) (fun wd hbd hsz => ?_)
      have HBX := Lib.hid (below_on HB.out hbd)
      have hrd1 := range_below HR.out.2.1 HR.out.1 hbd
      have hgd1 := Nat.lt_of_lt_of_le HR.out.1 hbd.size
      have hrd2 := range_below HR.out.2.2.2 HR.out.2.2.1 hbd
      have hgd2 := Nat.lt_of_lt_of_le HR.out.2.2.1 hbd.size
      have hcmp : ∀ V, (binOp .neq 35 (.agg #[.int .i64 x.s, .int .i64 x.c]) (.agg #[.int .i64 x.s, .int .i64 x.c])).run Try.prog V = .ok (.bool false) V := fun V => by rw [rkey_neq, decide_eq_true rfl]; rfl
      clear hsz
      (refine takeE Ext.tr 0 (by simp only [List.getElem?_toArray, List.getElem?_cons_succ, List.getElem?_cons_zero]; rfl) (by kernel_rfl) (by kernel_rfl) (by kernel_rfl) (by exact fun _ _ _ h => h) (by first | (refine Or.inl ⟨by rfl, ?_⟩; intro W hW; go_simp; try with_reducible rfl) | exact Or.inr ⟨by rfl, rfl⟩) ?_; try simp only [Act.put, List.setIfInBounds_toArray, List.set_cons_zero, List.set_cons_succ])
      (refine takeE Ext.tr 1 (by simp only [List.getElem?_toArray, List.getElem?_cons_succ, List.getElem?_cons_zero]; rfl) (by kernel_rfl) (by kernel_rfl) (by kernel_rfl) (by exact fun _ _ _ h => h) (by first | (refine Or.inl ⟨by rfl, ?_⟩; intro W hW; go_simp; try with_reducible rfl) | exact Or.inr ⟨by rfl, rfl⟩) ?_; try simp only [Act.put, List.setIfInBounds_toArray, List.set_cons_zero, List.set_cons_succ])
      (refine takeE Ext.tr 4 (by simp only [List.getElem?_toArray, List.getElem?_cons_succ, List.getElem?_cons_zero]; rfl) (by kernel_rfl) (by kernel_rfl) (by kernel_rfl) (by exact fun _ _ _ h => h) (by first | (refine Or.inl ⟨by rfl, ?_⟩; intro W hW; go_simp; try with_reducible rfl) | exact Or.inr ⟨by rfl, rfl⟩) ?_; try simp only [Act.put, List.setIfInBounds_toArray, List.set_cons_zero, List.set_cons_succ])
      (refine takeE Ext.tr 5 (by simp only [List.getElem?_toArray, List.getElem?_cons_succ, List.getElem?_cons_zero]; rfl) (by kernel_rfl) (by kernel_rfl) (by kernel_rfl) (by exact fun _ _ _ h => h) (by first | (refine Or.inl ⟨by rfl, ?_⟩; intro W hW; go_simp; try with_reducible rfl) | exact Or.inr ⟨by rfl, rfl⟩) ?_; try simp only [Act.put, List.setIfInBounds_toArray, List.set_cons_zero, List.set_cons_succ])
      (refine takeE Ext.tr 2 (by simp only [List.getElem?_toArray, List.getElem?_cons_succ, List.getElem?_cons_zero]; rfl) (by kernel_rfl) (by kernel_rfl) (by kernel_rfl) (by exact fun _ _ _ h => h) (by first | (refine Or.inl ⟨by rfl, ?_⟩; intro W hW; go_simp; try with_reducible rfl) | exact Or.inr ⟨by rfl, rfl⟩) ?_; try simp only [Act.put, List.setIfInBounds_toArray, List.set_cons_zero, List.set_cons_succ])
      (refine takeE Ext.tr 6 (by simp only [List.getElem?_toArray, List.getElem?_cons_succ, List.getElem?_cons_zero]; rfl) (by kernel_rfl) (by kernel_rfl) (by kernel_rfl) (by exact fun _ _ _ h => h) (by first | (refine Or.inl ⟨by rfl, ?_⟩; intro W hW; go_simp; try with_reducible rfl) | exact Or.inr ⟨by rfl, rfl⟩) ?_; try simp only [Act.put, List.setIfInBounds_toArray, List.set_cons_zero, List.set_cons_succ])
      (refine takeE Ext.tr 3 (by simp only [List.getElem?_toArray, List.getElem?_cons_succ, List.getElem?_cons_zero]; rfl) (by kernel_rfl) (by kernel_rfl) (by kernel_rfl) (by exact fun _ _ _ h => h) (by first | (refine Or.inl ⟨by rfl, ?_⟩; intro W hW; exact exec_loadK rowRK (.tmp 19) rfl g1 (o1 + i * 2) rfl x (range_below hrd1 hgd1 hW)) | exact Or.inr ⟨by rfl, rfl⟩) ?_; try simp only [Act.put, List.setIfInBounds_toArray, List.set_cons_zero, List.set_cons_succ])
      (refine takeE Ext.tr 7 (by simp only [List.getElem?_toArray, List.getElem?_cons_succ, List.getElem?_cons_zero]; rfl) (by kernel_rfl) (by kernel_rfl) (by kernel_rfl) (by exact fun _ _ _ h => h) (by first | (refine Or.inl ⟨by rfl, ?_⟩; intro W hW; exact exec_loadK rowRK (.tmp 23) rfl g2 (o2 + i * 2) rfl x (range_below hrd2 hgd2 hW)) | exact Or.inr ⟨by rfl, rfl⟩) ?_; try simp only [Act.put, List.setIfInBounds_toArray, List.set_cons_zero, List.set_cons_succ])
      (refine takeE Ext.tr 8 (by simp only [List.getElem?_toArray, List.getElem?_cons_succ, List.getElem?_cons_zero]; rfl) (by kernel_rfl) (by kernel_rfl) (by kernel_rfl) (by exact fun _ _ _ h => h) (by first | (refine Or.inl ⟨by rfl, ?_⟩; intro W hW; exact exec_cmp_agg rfl (by kernel_rfl) rfl rfl (hcmp W)) | exact Or.inr ⟨by rfl, rfl⟩) ?_; try simp only [Act.put, List.setIfInBounds_toArray, List.set_cons_zero, List.set_cons_succ])
      refine wpAnyE_done (by kernel_rfl) ?_ _
      clear hcmp
      go_wp2
      go_roundw
      case rel => exact ⟨i + 1, by go_num, by omega, HBX.out⟩
      case measure => simp [intOf]; omega
    · obtain rfl : i = n := by omega
      go_wp2
      go_ret
      exact ⟨rfl, hb⟩
end
end Go.Proofs.Ytdldocbfnjbhmaa
