/- The document's pacer: an entry replaced; a key at the end of its queue. -/
import Derived.Test.YtdldocbfnjbhmaaK15
set_option linter.unusedSimpArgs false
set_option linter.unusedVariables false
set_option maxRecDepth 100000
namespace Go.Proofs.Ytdldocbfnjbhmaa
open Go.RowKit Go.Shelf
section
variable {X X' F : Nat → Prop} {w w' : World} {v : Rv} {m : Pm} {k : Ky}
theorem apd_fresh' {sz s : Nat} {e : TypeId} {cs : List Value} {u : Value} {w2 : World} (hs : s = w.heap.size) (h : ApdR sz e (BlkOf (some ⟨s, 0, none⟩)) (w.alloc (.cells #[] e)) u cs w2) :
    ∃ A n c, u = .slice A n c ∧ LstR sz e (w.heap.size ≤ ·) w2 A n c cs ∧ Below w.heap.size w w2 := by
  subst hs
  exact apd_fresh h
theorem fresh_lst' (sz : Nat) {s : Nat} (w : World) (e : TypeId) (hs : s = w.heap.size) : LstR sz e (BlkOf (some ⟨s, 0, none⟩)) (w.alloc (.cells #[] e)) (some ⟨s, 0, none⟩) 0 0 [] := by
  subst hs
  exact fresh_lst sz w e
theorem EltS.hsz {P : Program} {t e : TypeId} {zs : List Value} {bytes : Nat} (E : EltS P t e zs bytes) : (P.info? e).map (·.size) = some zs.length := E.row.hi
set_option maxHeartbeats 4000000 in
theorem r_with (h : RpR X w v m) (hn : v.n ≤ 1000) (i : Nat) (x : Kn) (hi : i < m.L.length) (hX : ∀ j, w.heap.size ≤ j → X j) : Calls Try.prog 55 #[.agg #[.slice v.A v.n v.c, .slice v.B v.k v.d, .slice v.C v.r v.e, .int .i64 m.most, .int .i64 m.run, .int .i64 m.total], .int .i64 i, .agg #[.int .i64 x.k.s, .int .i64 x.k.c, .int .i64 x.g, .int .i64 x.p, .int .i64 x.i]] w fun e w' =>
    ∃ v2, e = .returned (.agg #[.slice v2.A v2.n v2.c, .slice v2.B v2.k v2.d, .slice v2.C v2.r v2.e, .int .i64 m.most, .int .i64 m.run, .int .i64 m.total]) ∧ RpR X w' v2 (m.setL (m.L.set i x)) ∧ Below w.heap.size w w' := by
  obtain ⟨W, hW⟩ : ∃ W, W = ((w.alloc (.cells #[.slice v.A v.n v.c, .slice v.B v.k v.d, .slice v.C v.r v.e, .int .i64 m.most, .int .i64 m.run, .int .i64 m.total] 30)).alloc (.cells #[.int .i64 x.k.s, .int .i64 x.k.c, .int .i64 x.g, .int .i64 x.p, .int .i64 x.i] 50)).alloc (.cells #[.slice none 0 0, .slice none 0 0, .slice none 0 0, .int .i64 0, .int .i64 0, .int .i64 0] 30) := ⟨_, rfl⟩
  have hb1 : Below w.heap.size w W := by rw [hW]; exact (((Below.refl _ w).alloc (Nat.le_refl _) _).alloc (by simp) _).alloc (by simp; omega) _
  have hsW : w.heap.size + 1 + 1 + 1 = W.heap.size := by rw [hW]; simp
  have z1 : Bk W 30 w.heap.size ([.slice v.A v.n v.c, .slice v.B v.k v.d, .slice v.C v.r v.e, .int .i64 m.most, .int .i64 m.run, .int .i64 m.total]) := by rw [hW]; exact ((Bk.new w 30 ([.slice v.A v.n v.c, .slice v.B v.k v.d, .slice v.C v.r v.e, .int .i64 m.most, .int .i64 m.run, .int .i64 m.total])).alloc _).alloc _
  have z2 : Bk W 50 (w.heap.size + 1) x.cl := by
    have := (Bk.new (w.alloc (.cells #[.slice v.A v.n v.c, .slice v.B v.k v.d, .slice v.C v.r v.e, .int .i64 m.most, .int .i64 m.run, .int .i64 m.total] 30)) 50 x.cl).alloc (.cells #[.slice none 0 0, .slice none 0 0, .slice none 0 0, .int .i64 0, .int .i64 0, .int .i64 0] 30)
    rw [World.size_alloc] at this
    rw [hW]; exact this
  have z3 : Bk W 30 (w.heap.size + 2) [.slice none 0 0, .slice none 0 0, .slice none 0 0, .int .i64 0, .int .i64 0, .int .i64 0] := by
    have := Bk.new ((w.alloc (.cells #[.slice v.A v.n v.c, .slice v.B v.k v.d, .slice v.C v.r v.e, .int .i64 m.most, .int .i64 m.run, .int .i64 m.total] 30)).alloc (.cells #[.int .i64 x.k.s, .int .i64 x.k.c, .int .i64 x.g, .int .i64 x.p, .int .i64 x.i] 50)) 30 [.slice none 0 0, .slice none 0 0, .slice none 0 0, .int .i64 0, .int .i64 0, .int .i64 0]
    simp only [World.size_alloc] at this
    rw [hW]; exact this
  have h' := h.below hb1
  have HA := Lib.hid (And.intro hb1 (And.intro z1 (And.intro z2 (And.intro z3 h'))))
  have HSW := Lib.hid hsW
  have HX := Lib.hid hX
  have HVN := Lib.hid h.l.1
  have hc0 := z1.cell 0 rfl
  have hlt := z1.lt
  have hla := fresh_lst' 5 W 50 hsW
  have hu := h'.l.2.1.alloc (.cells #[] 50)
  have hnn : (0 + v.n) * 40 ≤ 140737488355328 := by omega
  have hiv : (i : Int) < v.n := by have := h.l.1; omega
  have HI := Lib.hid hi
  have HH := Lib.hid h
  clear h h' hb1 z1 z2 z3 hX hi hsW
  go_enter Try.func55, Try.ntmps55
  go_wp2_with (first
    | (at_builtin
       rw [← hW]
       clear hW
       refine wpList_append_lstR eltN rfl (.tmp 8) (.tmp 10) rfl rfl hla rfl hu hnn ?_
       rintro u w2 hap
       obtain ⟨A1, n1, c1, rfl, hl1, hb2⟩ := apd_fresh' HSW.out hap
       have hn1 : n1 = m.L.length := by have e1 : _ = n1 * 5 := hl1.1; rw [List.nil_append, flat_len Kn.cl_len] at e1; omega
       have hlt1 : i < n1 := by rw [hn1]; exact HI.out
       obtain ⟨g, o, rfl, hg, -⟩ := hl1.rd.range hlt1
       have hF : W.heap.size ≤ g := (hl1.blk _ rfl).1
       replace hl1 : LstR 5 50 (W.heap.size ≤ ·) w2 (some ⟨g, o, none⟩) n1 c1 ([] ++ flat Kn.cl m.L) := hl1
       have hth := hl1.there hlt1
       have hl2 := hl1.lay hlt1 (us := x.cl) rfl x.cl_one
       have hw2 := Wr.setCells g (o + i * 5) x.cl w2
       have hiv1 : (i : Int) < n1 := by omega
       have z2' := HA.out.2.2.1.below hb2
       have HN1 := Lib.hid hn1
       have HB2 := Lib.hid hb2
       clear hap hl1 hn1 hb2 hc0 hla hu hnn hiv)
    | (with_reducible refine at_load 50 (.tmp 5) (by rfl) ?_; refine wpList_load_bk rowN rfl (.tmp 5) rfl (w.heap.size + 1) 0 rfl z2' x.cl rfl rfl ?_)
    | (with_reducible refine at_store 50 (.tmp 15) (.tmp 14) (by rfl) ?_
       refine wpList_store_mid rfl 50 (.tmp 15) (.tmp 14) rfl g (o + i * 5) x.cl.toArray rfl rfl hth rowN.hi (all_oneCell_toArray x.cl_one) ?_
       simp only [List.toList_toArray]
       generalize w2.setCells g (o + i * 5) x.cl = w3 at *
       have hb3 : Below W.heap.size W w3 := HB2.out.trans (hw2.below hF HB2.out.size)
       have d0 := (HA.out.2.1.below hb3).cell 0 rfl
       have f0 := (HA.out.2.1.below hb3).free 0
       have zf := (HA.out.2.1.below hb3).set 0 (.slice (some ⟨g, o, none⟩) n1 c1)
       have zr := (HA.out.2.2.2.1.below hb3).far (p := ⟨w.heap.size, 0, none⟩) (by simp) (.slice (some ⟨g, o, none⟩) n1 c1)
       have HB3 := Lib.hid hb3
       clear hth hw2 hb3 z2')
    | (with_reducible refine at_load 30 (.tmp 3) (by rfl) ?_; refine wpList_load_bk rowR rfl (.tmp 3) rfl w.heap.size 0 rfl zf ([.slice (some ⟨g, o, none⟩) n1 c1, .slice v.B v.k v.d, .slice v.C v.r v.e, .int .i64 m.most, .int .i64 m.run, .int .i64 m.total]) rfl rfl ?_)
    | (with_reducible refine at_store 30 (.tmp 6) (.tmp 18) (by rfl) ?_; refine wpList_store_bk rowR rfl (.tmp 6) (.tmp 18) rfl (w.heap.size + 2) 0 rfl zr ([.slice (some ⟨g, o, none⟩) n1 c1, .slice v.B v.k v.d, .slice v.C v.r v.e, .int .i64 m.most, .int .i64 m.run, .int .i64 m.total]) rfl rfl (by decide) (by simp [Value.oneCell']) ?_; intro w5 hz6 hw5))
  rw [lay_all _ _ (by rfl)] at hz6
  have hsc : Below w.heap.size w (w3.setCell ⟨w.heap.size, 0, none⟩ (.slice (some ⟨g, o, none⟩) n1 c1)) := (HA.out.1.trans (HB3.out.mono HA.out.1.size)).setCell (by simp) _
  have hst : St (· = w.heap.size) w3 (w3.setCell ⟨w.heap.size, 0, none⟩ (.slice (some ⟨g, o, none⟩) n1 c1)) := St.setCell (F := (· = w.heap.size)) w3 (a := ⟨w.heap.size, 0, none⟩) rfl _
  have hs5 : St (· = w.heap.size + 2) (w3.setCell ⟨w.heap.size, 0, none⟩ (.slice (some ⟨g, o, none⟩) n1 c1)) w5 := st_wr hw5
  have hz := HSW.out
  have hbF : Below w.heap.size w w5 := hsc.trans (hs5.below hsc.size fun j e => by omega)
  refine bodyPost_ret (results_cell rfl rfl (rowR.load hz6 0 (cs := [.slice (some ⟨g, o, none⟩) n1 c1, .slice v.B v.k v.d, .slice v.C v.r v.e, .int .i64 m.most, .int .i64 m.run, .int .i64 m.total]) rfl rfl)) rfl ⟨⟨some ⟨g, o, none⟩, n1, c1, v.B, v.k, v.d, v.C, v.r, v.e⟩, rfl, ⟨?_, HH.out.p.below hbF, HH.out.u.below hbF⟩, hbF⟩
  refine LkN.of (Bd := W.heap.size) (e := 50) ?_ (fun j hj => HX.out j (by omega))
  have := hl2.st hst (fun j hj e => by omega) |>.st hs5 (fun j hj e => by omega)
  rwa [List.nil_append, ← flat_set Kn.cl_len m.L i HI.out x] at this
set_option maxHeartbeats 4000000 in
theorem r_behind (h : RpR X w v m) (hn : v.k ≤ 1000 ∧ v.r ≤ 1000) (x : Kn) (hg : x.g = 0 ∨ x.g = 1) (hX : ∀ j, w.heap.size ≤ j → X j) : Calls Try.prog 54 #[.agg #[.slice v.A v.n v.c, .slice v.B v.k v.d, .slice v.C v.r v.e, .int .i64 m.most, .int .i64 m.run, .int .i64 m.total], .agg #[.int .i64 x.k.s, .int .i64 x.k.c, .int .i64 x.g, .int .i64 x.p, .int .i64 x.i]] w fun e w' =>
    ∃ v2, e = .returned (.agg #[.slice v2.A v2.n v2.c, .slice v2.B v2.k v2.d, .slice v2.C v2.r v2.e, .int .i64 m.most, .int .i64 m.run, .int .i64 m.total]) ∧ RpR X w' v2 (m.push x.g x.k) ∧ Below w.heap.size w w' := by
  obtain ⟨W, hW⟩ : ∃ W, W = ((w.alloc (.cells #[.slice v.A v.n v.c, .slice v.B v.k v.d, .slice v.C v.r v.e, .int .i64 m.most, .int .i64 m.run, .int .i64 m.total] 30)).alloc (.cells #[.int .i64 x.k.s, .int .i64 x.k.c, .int .i64 x.g, .int .i64 x.p, .int .i64 x.i] 50)).alloc (.cells #[.slice none 0 0, .slice none 0 0, .slice none 0 0, .int .i64 0, .int .i64 0, .int .i64 0] 30) := ⟨_, rfl⟩
  have hb1 : Below w.heap.size w W := by rw [hW]; exact (((Below.refl _ w).alloc (Nat.le_refl _) _).alloc (by simp) _).alloc (by simp; omega) _
  have hsW : w.heap.size + 1 + 1 + 1 = W.heap.size := by rw [hW]; simp
  have z1 : Bk W 30 w.heap.size ([.slice v.A v.n v.c, .slice v.B v.k v.d, .slice v.C v.r v.e, .int .i64 m.most, .int .i64 m.run, .int .i64 m.total]) := by rw [hW]; exact ((Bk.new w 30 ([.slice v.A v.n v.c, .slice v.B v.k v.d, .slice v.C v.r v.e, .int .i64 m.most, .int .i64 m.run, .int .i64 m.total])).alloc _).alloc _
  have z2 : Bk W 50 (w.heap.size + 1) x.cl := by
    have := (Bk.new (w.alloc (.cells #[.slice v.A v.n v.c, .slice v.B v.k v.d, .slice v.C v.r v.e, .int .i64 m.most, .int .i64 m.run, .int .i64 m.total] 30)) 50 x.cl).alloc (.cells #[.slice none 0 0, .slice none 0 0, .slice none 0 0, .int .i64 0, .int .i64 0, .int .i64 0] 30)
    rw [World.size_alloc] at this
    rw [hW]; exact this
  have z3 : Bk W 30 (w.heap.size + 2) [.slice none 0 0, .slice none 0 0, .slice none 0 0, .int .i64 0, .int .i64 0, .int .i64 0] := by
    have := Bk.new ((w.alloc (.cells #[.slice v.A v.n v.c, .slice v.B v.k v.d, .slice v.C v.r v.e, .int .i64 m.most, .int .i64 m.run, .int .i64 m.total] 30)).alloc (.cells #[.int .i64 x.k.s, .int .i64 x.k.c, .int .i64 x.g, .int .i64 x.p, .int .i64 x.i] 50)) 30 [.slice none 0 0, .slice none 0 0, .slice none 0 0, .int .i64 0, .int .i64 0, .int .i64 0]
    simp only [World.size_alloc] at this
    rw [hW]; exact this
  have h' := h.below hb1
  have HA := Lib.hid (And.intro hb1 (And.intro z1 (And.intro z2 (And.intro z3 h'))))
  have HSW := Lib.hid hsW
  have HX := Lib.hid hX
  have HH := Lib.hid h
  have hlt := z1.lt
  have hla := fresh_lst' 2 W 35 hsW
  clear hsW
  obtain ⟨kk, g, xp, xi⟩ := x
  dsimp only at *
  rcases hg with rfl | rfl
  · have hu := h'.p.2.1.alloc (.cells #[] 35)
    have hnn : (0 + v.k) * 16 ≤ 140737488355328 := by have := hn.1; have := hn.2; omega
    have HVN := Lib.hid h.p.1
    have HNN := Lib.hid hn
    clear h h' hb1 z1 z2 z3 hX hn
    go_enter Try.func54, Try.ntmps54
    go_wp2_with (first
      | (at_builtin
         rw [← hW]
         clear hW
         refine wpList_append_lstR eltRK rfl (.tmp 21) (.tmp 23) rfl rfl hla rfl hu hnn ?_
         rintro u w2 hap
         obtain ⟨A1, n1, c1, rfl, hl1, hb2⟩ := apd_fresh' HSW.out hap
         replace hl1 : LstR 2 35 (W.heap.size ≤ ·) w2 A1 n1 c1 ([] ++ flat Ky.cl m.q0) := hl1
         have hrk : w2.rangeAt (w.heap.size + 1) 0 kk.cl := fun j u hu => (HA.out.2.2.1.below hb2).cell (0 + j) (by
           rcases j with _ | _ | j
           · exact hu
           · exact hu
           · simp [Ky.cl] at hu)
         have hn1 : n1 = m.q0.length := by have e1 : _ = n1 * 2 := hl1.1; rw [List.nil_append, flat_len Ky.cl_len] at e1; omega
         have hla2 := (hl1.alloc (.cells kk.cl.toArray 35)).tight
         have hu2 := RdR.one w2 35 kk.cl kk.cl_one
         have hnn2 : (n1 + 1) * 16 ≤ 140737488355328 := by have := HVN.out; have := HNN.out.1; have := HNN.out.2; omega
         have HB2 := Lib.hid hb2
         have HL1 := Lib.hid hl1
         clear hap hl1 hn1 hb2 hla hu hnn)
      | (with_reducible refine at_load 35 (.tmp 26) (by rfl) ?_; refine wpList_load_pk rowRK rfl (.tmp 26) rfl kk (w.heap.size + 1) 0 rfl hrk ?_)
      | (refine wpList_build_row eltRK rfl (.tmp 27) rfl (xs := kk.cl) rfl rfl ?_)
      | (at_builtin
         refine wpList_append_lstR eltRK rfl (.tmp 25) (.tmp 28) rfl rfl hla2 rfl hu2 hnn2 ?_
         rintro u w3 hap
         obtain ⟨A2, n2, c2, rfl, hl2, hb3'⟩ := apd_next HL1.out HB2.out.size hap
         have hb3 := HB2.out.trans hb3'
         have d0 := (HA.out.2.1.below hb3).cell 1 rfl
         have f0 := (HA.out.2.1.below hb3).free 1
         have zf := (HA.out.2.1.below hb3).set 1 (.slice A2 n2 c2)
         have zr := (HA.out.2.2.2.1.below hb3).far (p := ⟨w.heap.size, 1, none⟩) (by simp) (.slice A2 n2 c2)
         have HB3 := Lib.hid hb3
         have HL2 := Lib.hid hl2
         clear hap hl2 hb3 hb3' hla2 hu2 hnn2)
      | (with_reducible refine at_load 30 (.tmp 2) (by rfl) ?_; refine wpList_load_bk rowR rfl (.tmp 2) rfl w.heap.size 0 rfl zf ([.slice v.A v.n v.c, .slice A2 n2 c2, .slice v.C v.r v.e, .int .i64 m.most, .int .i64 m.run, .int .i64 m.total]) rfl rfl ?_)
      | (with_reducible refine at_store 30 (.tmp 4) (.tmp 31) (by rfl) ?_; refine wpList_store_bk rowR rfl (.tmp 4) (.tmp 31) rfl (w.heap.size + 2) 0 rfl zr ([.slice v.A v.n v.c, .slice A2 n2 c2, .slice v.C v.r v.e, .int .i64 m.most, .int .i64 m.run, .int .i64 m.total]) rfl rfl (by decide) (by simp [Value.oneCell']) ?_; intro w5 hz6 hw5))
    rw [lay_all _ _ (by rfl)] at hz6
    have hsc : Below w.heap.size w (w3.setCell ⟨w.heap.size, 1, none⟩ (.slice A2 n2 c2)) := (HA.out.1.trans (HB3.out.mono HA.out.1.size)).setCell (by simp) _
    have hst : St (· = w.heap.size) w3 (w3.setCell ⟨w.heap.size, 1, none⟩ (.slice A2 n2 c2)) := St.setCell (F := (· = w.heap.size)) w3 (a := ⟨w.heap.size, 1, none⟩) rfl _
    have hs5 : St (· = w.heap.size + 2) (w3.setCell ⟨w.heap.size, 1, none⟩ (.slice A2 n2 c2)) w5 := st_wr hw5
    have hz := HSW.out
    have hbF : Below w.heap.size w w5 := hsc.trans (hs5.below hsc.size fun j e => by omega)
    refine bodyPost_ret (results_cell rfl rfl (rowR.load hz6 0 (cs := [.slice v.A v.n v.c, .slice A2 n2 c2, .slice v.C v.r v.e, .int .i64 m.most, .int .i64 m.run, .int .i64 m.total]) rfl rfl)) rfl ⟨⟨v.A, v.n, v.c, A2, n2, c2, v.C, v.r, v.e⟩, rfl, ⟨HH.out.l.below hbF, ?_, HH.out.u.below hbF⟩, hbF⟩
    refine LkK.of (Bd := W.heap.size) (e := 35) ?_ (fun j hj => HX.out j (by omega))
    have := HL2.out.st hst (fun j hj e => by omega) |>.st hs5 (fun j hj e => by omega)
    show LstR 2 _ _ w5 A2 n2 c2 (flat Ky.cl (m.q0 ++ [kk]))
    rwa [List.nil_append, show Ky.cl kk = flat Ky.cl [kk] from (flat_one kk).symm, ← flat_app] at this
  · have hu := h'.u.2.1.alloc (.cells #[] 35)
    have hnn : (0 + v.r) * 16 ≤ 140737488355328 := by have := hn.1; have := hn.2; omega
    have HVN := Lib.hid h.u.1
    have HNN := Lib.hid hn
    clear h h' hb1 z1 z2 z3 hX hn
    go_enter Try.func54, Try.ntmps54
    go_wp2_with (first
      | (at_builtin
         rw [← hW]
         clear hW
         refine wpList_append_lstR eltRK rfl (.tmp 10) (.tmp 12) rfl rfl hla rfl hu hnn ?_
         rintro u w2 hap
         obtain ⟨A1, n1, c1, rfl, hl1, hb2⟩ := apd_fresh' HSW.out hap
         replace hl1 : LstR 2 35 (W.heap.size ≤ ·) w2 A1 n1 c1 ([] ++ flat Ky.cl m.q1) := hl1
         have hrk : w2.rangeAt (w.heap.size + 1) 0 kk.cl := fun j u hu => (HA.out.2.2.1.below hb2).cell (0 + j) (by
           rcases j with _ | _ | j
           · exact hu
           · exact hu
           · simp [Ky.cl] at hu)
         have hn1 : n1 = m.q1.length := by have e1 : _ = n1 * 2 := hl1.1; rw [List.nil_append, flat_len Ky.cl_len] at e1; omega
         have hla2 := (hl1.alloc (.cells kk.cl.toArray 35)).tight
         have hu2 := RdR.one w2 35 kk.cl kk.cl_one
         have hnn2 : (n1 + 1) * 16 ≤ 140737488355328 := by have := HVN.out; have := HNN.out.1; have := HNN.out.2; omega
         have HB2 := Lib.hid hb2
         have HL1 := Lib.hid hl1
         clear hap hl1 hn1 hb2 hla hu hnn)
      | (with_reducible refine at_load 35 (.tmp 15) (by rfl) ?_; refine wpList_load_pk rowRK rfl (.tmp 15) rfl kk (w.heap.size + 1) 0 rfl hrk ?_)
      | (refine wpList_build_row eltRK rfl (.tmp 16) rfl (xs := kk.cl) rfl rfl ?_)
      | (at_builtin
         refine wpList_append_lstR eltRK rfl (.tmp 14) (.tmp 17) rfl rfl hla2 rfl hu2 hnn2 ?_
         rintro u w3 hap
         obtain ⟨A2, n2, c2, rfl, hl2, hb3'⟩ := apd_next HL1.out HB2.out.size hap
         have hb3 := HB2.out.trans hb3'
         have d0 := (HA.out.2.1.below hb3).cell 2 rfl
         have f0 := (HA.out.2.1.below hb3).free 2
         have zf := (HA.out.2.1.below hb3).set 2 (.slice A2 n2 c2)
         have zr := (HA.out.2.2.2.1.below hb3).far (p := ⟨w.heap.size, 2, none⟩) (by simp) (.slice A2 n2 c2)
         have HB3 := Lib.hid hb3
         have HL2 := Lib.hid hl2
         clear hap hl2 hb3 hb3' hla2 hu2 hnn2)
      | (with_reducible refine at_load 30 (.tmp 2) (by rfl) ?_; refine wpList_load_bk rowR rfl (.tmp 2) rfl w.heap.size 0 rfl zf ([.slice v.A v.n v.c, .slice v.B v.k v.d, .slice A2 n2 c2, .int .i64 m.most, .int .i64 m.run, .int .i64 m.total]) rfl rfl ?_)
      | (with_reducible refine at_store 30 (.tmp 4) (.tmp 20) (by rfl) ?_; refine wpList_store_bk rowR rfl (.tmp 4) (.tmp 20) rfl (w.heap.size + 2) 0 rfl zr ([.slice v.A v.n v.c, .slice v.B v.k v.d, .slice A2 n2 c2, .int .i64 m.most, .int .i64 m.run, .int .i64 m.total]) rfl rfl (by decide) (by simp [Value.oneCell']) ?_; intro w5 hz6 hw5))
    rw [lay_all _ _ (by rfl)] at hz6
    have hsc : Below w.heap.size w (w3.setCell ⟨w.heap.size, 2, none⟩ (.slice A2 n2 c2)) := (HA.out.1.trans (HB3.out.mono HA.out.1.size)).setCell (by simp) _
    have hst : St (· = w.heap.size) w3 (w3.setCell ⟨w.heap.size, 2, none⟩ (.slice A2 n2 c2)) := St.setCell (F := (· = w.heap.size)) w3 (a := ⟨w.heap.size, 2, none⟩) rfl _
    have hs5 : St (· = w.heap.size + 2) (w3.setCell ⟨w.heap.size, 2, none⟩ (.slice A2 n2 c2)) w5 := st_wr hw5
    have hz := HSW.out
    have hbF : Below w.heap.size w w5 := hsc.trans (hs5.below hsc.size fun j e => by omega)
    refine bodyPost_ret (results_cell rfl rfl (rowR.load hz6 0 (cs := [.slice v.A v.n v.c, .slice v.B v.k v.d, .slice A2 n2 c2, .int .i64 m.most, .int .i64 m.run, .int .i64 m.total]) rfl rfl)) rfl ⟨⟨v.A, v.n, v.c, v.B, v.k, v.d, A2, n2, c2⟩, rfl, ⟨HH.out.l.below hbF, HH.out.p.below hbF, ?_⟩, hbF⟩
    refine LkK.of (Bd := W.heap.size) (e := 35) ?_ (fun j hj => HX.out j (by omega))
    have := HL2.out.st hst (fun j hj e => by omega) |>.st hs5 (fun j hj e => by omega)
    show LstR 2 _ _ w5 A2 n2 c2 (flat Ky.cl (m.q1 ++ [kk]))
    rwa [List.nil_append, show Ky.cl kk = flat Ky.cl [kk] from (flat_one kk).symm, ← flat_app] at this
end
end Go.Proofs.Ytdldocbfnjbhmaa
