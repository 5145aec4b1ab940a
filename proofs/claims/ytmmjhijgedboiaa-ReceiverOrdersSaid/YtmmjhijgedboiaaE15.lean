/- A receiver is forked. -/
import Derived.Test.YtmmjhijgedboiaaE14
set_option linter.unusedSimpArgs false
set_option linter.unusedVariables false
set_option maxRecDepth 100000
namespace Go.Proofs.Ytmmjhijgedboiaa
open Go.RowKit Go.Shelf
attribute [local go_sem] Oper.semAt_some
/-- Between two rounds: so many are copied. -/
structure FkI (w : World) (B0 : Nat) (m : Rm) (pb b g : Nat) (FJ : Nat → Prop) (jm : Jm) (pre : List Pe) (W : World) : Prop where
  bel : Below w.heap.size w W
  sz : B0 ≤ W.heap.size
  bk : Bk W 89 w.heap.size [.pointer (some ⟨pb, 0, none⟩), .int .i64 m.sr, .int .i64 m.ds, .int .i64 m.cn, .int .i64 m.cl, .int .i64 0, .int .i64 0, .int .i64 0, .int .i64 m.pl, .int .i64 0, .int .i64 0, .int .i64 m.ar, .int .i64 m.pd, .bool false, .bool m.dn, .int .i64 m.pa, .map (some b), .pointer (some ⟨g, 0, none⟩)]
  bm : Bmp W pb m.bm
  mp : ∃ L, MpI W b L ∧ Ent (B0 ≤ ·) W L (m.ks.take pre.length)
  jn : JnC FJ W g jm
  le : pre.length ≤ m.ks.length
section
variable {F FJ FP G : Nat → Prop} {w W W' : World} {e r pb b g B0 : Nat} {m : Rm} {jm : Jm} {pre : List Pe}
theorem FkI.stC (h : FkI w B0 m pb b g FJ jm pre W) (hs : St G W W') (hG : NoC G W) (hb : ¬ G b) (hJ : Sep FJ G) (hw : ∀ k, G k → w.heap.size ≤ k) : FkI w B0 m pb b g FJ jm pre W' := by
  obtain ⟨L, hL, hE⟩ := h.mp
  exact ⟨h.bel.trans (hs.below h.bel.size hw), Nat.le_trans h.sz hs.size, h.bk.stC hs hG, h.bm.stC hs hG, ⟨L, hL.st hs hb, hE.stC hs hG⟩, h.jn.st hs hJ, h.le⟩
theorem FkI.below (h : FkI w B0 m pb b g FJ jm pre W) (hb : Below W.heap.size W W') : FkI w B0 m pb b g FJ jm pre W' := h.stC (G := fun _ => False) (St.ext hb) (fun _ h => h.elim) id (fun _ _ h => h.elim) (fun _ h => h.elim)
theorem FkI.own {B : Nat} (hb : b < B) (hJ : ∀ k, FJ k → k < B) (hw : w.heap.size ≤ B) : OwnFrom B (FkI w B0 m pb b g FJ jm) := fun pre W W' row h hg hr =>
  h.stC (G := fun k => row = some k) (St.grown hg fun k hk => hk) (noC_of fun k hk => (hr k hk).2) (fun hk => by have := (hr _ hk).1; omega) (fun k hk hk' => by have := (hr _ hk').1; have := hJ k hk; omega) (fun k hk => by have := (hr _ hk).1; omega)
theorem Ent.snoc {FP : Nat → Prop} {L : List Pe} {ks : List Pk} (h : Ent FP W L ks) {y : Pe} {p : Pk} (hy : y.mt p) (hl : Lacks L y.k) (hb : BsR W y.A y.n y.c y.xs) (hN : ∀ k, BlkOf y.A k → FP k) : Ent FP W (L ++ [y]) (ks ++ [p]) := by
  refine ⟨?_, fun x hx => ?_, fun q hq => ?_⟩
  · rw [List.map_append]
    refine List.nodup_append.2 ⟨h.1, by simp, ?_⟩
    rintro a ha b hb rfl
    obtain ⟨x, hx, rfl⟩ := List.mem_map.1 ha
    simp only [List.map_cons, List.map_nil, List.mem_singleton] at hb
    exact hl x hx hb
  · rcases List.mem_append.1 hx with hx | hx
    · obtain ⟨⟨q, hq, hm⟩, h2, h3⟩ := h.2.1 x hx
      exact ⟨⟨q, by simp [hq], hm⟩, h2, h3⟩
    · rw [List.mem_singleton.1 hx]
      exact ⟨⟨p, by simp, hy⟩, hb, hN⟩
  · rcases List.mem_append.1 hq with hq | hq
    · obtain ⟨x, hx, hm⟩ := h.2.2 q hq
      exact ⟨x, by simp [hx], hm⟩
    · rw [List.mem_singleton.1 hq]
      exact ⟨y, by simp, hy⟩
theorem run_mk (W : World) : (Instr.makeMap 86 none).run Try.prog W = .ok (.map (some W.heap.size)) (W.alloc (.map #[] 0)) := by
  first | rfl | simp [Instr.makeMap, run_underlying tyM, Result.andThen]
theorem Ent.stT {FP : Nat → Prop} {L : List Pe} {ks : List Pk} (h : Ent FP W L ks) (hs : St G W W') (hG : ∀ k, G k → ¬ Tyd 5 W k) : Ent FP W' L ks :=
  ⟨h.1, fun x hx => ⟨(h.2.1 x hx).1, (h.2.1 x hx).2.1.stT hs hG, (h.2.1 x hx).2.2⟩, h.2.2⟩
set_option maxHeartbeats 8000000 in
theorem e_fork (h : EnC F w e m) (hm : m.Ok) : Calls Try.prog 46 #[.pointer (some ⟨e, 0, none⟩)] w fun en w' => ∃ e' F', en = .returned (.pointer (some ⟨e', 0, none⟩)) ∧ EnC F' w' e' m ∧ (∀ k, F' k → w.heap.size ≤ k) ∧ Below w.heap.size w w' := by
  obtain ⟨pb, mb, g, FJ, FP, jm, hx⟩ := h
  have hel := hx.bk.lt
  have HX := Lib.hid hx
  have hgv := kept_gives (5 - 1) (by decide) e pb g mb m hm w
  have hSG := fun W hb pre => hx.sg hm (W := W) hb pre
  have hbA : Below w.heap.size w (w.alloc (.cells #[.pointer none, .int .i64 0, .int .i64 0, .int .i64 0, .int .i64 0, .int .i64 0, .int .i64 0, .int .i64 0, .int .i64 0, .int .i64 0, .int .i64 0, .int .i64 0, .int .i64 0, .bool false, .bool false, .int .i64 0, .map none, .pointer none] 89)) := ext1 _ _
  have zz := Bk.new w 89 [.pointer none, .int .i64 0, .int .i64 0, .int .i64 0, .int .i64 0, .int .i64 0, .int .i64 0, .int .i64 0, .int .i64 0, .int .i64 0, .int .i64 0, .int .i64 0, .int .i64 0, .bool false, .bool false, .int .i64 0, .map none, .pointer none]
  have HBK := Lib.hid (hx.bk.below hbA)
  have HXX := Lib.hid hx
  clear hx
  refine (callsIn_wide (n := 5)).1 ?_
  refine callsIn_of_wp_marks Try.func46 rfl trivial ?_ rfl
  simp only [Try.ntmps46, List.size_toArray, List.length_cons, List.length_nil, Nat.reduceAdd, Nat.reduceSub, Array.replicate_succ, Array.replicate_zero, List.push_toArray, List.append_toArray, List.nil_append, List.cons_append]
  gi_wp2_with (first
    | (with_reducible refine at_loadI 89 (.tmp 7) (by rfl) ?_
       refine wpListIn_load_bk rowE rfl (.tmp 7) rfl e 0 rfl HXX.out.bk [.pointer (some ⟨pb, 0, none⟩), .int .i64 m.sr, .int .i64 m.ds, .int .i64 m.cn, .int .i64 m.cl, .int .i64 0, .int .i64 0, .int .i64 0, .int .i64 m.pl, .int .i64 0, .int .i64 0, .int .i64 m.ar, .int .i64 m.pd, .bool false, .bool m.dn, .int .i64 m.pa, .map mb, .pointer (some ⟨g, 0, none⟩)] rfl rfl ?_)
    | (with_reducible refine at_storeI 89 (.tmp 3) (.tmp 8) (by rfl) ?_
       refine wpListIn_store_bk rowE rfl (.tmp 3) (.tmp 8) rfl w.heap.size 0 rfl zz [.pointer (some ⟨pb, 0, none⟩), .int .i64 m.sr, .int .i64 m.ds, .int .i64 m.cn, .int .i64 m.cl, .int .i64 0, .int .i64 0, .int .i64 0, .int .i64 m.pl, .int .i64 0, .int .i64 0, .int .i64 m.ar, .int .i64 m.pd, .bool false, .bool m.dn, .int .i64 m.pa, .map mb, .pointer (some ⟨g, 0, none⟩)] rfl rfl (by decide) (by simp [Value.oneCell']) ?_
       rintro W1 z1 hw1
       rw [lay_all _ _ (by rfl)] at z1
       have hb1 : Below w.heap.size w W1 := hbA.trans (hw1.below (Nat.le_refl _) hbA.size)
       have c0 := (HXX.out.bk.below hb1).cell 0 rfl))
  have HB1 := Lib.hid hb1
  have hlt1 : w.heap.size < W1.heap.size := z1.lt
  refine ⟨trivial, (callsIn_wide.2 (b_fork (HXX.out.bm.below hb1))).mono ?_⟩
  rintro en W2 ⟨rfl, hbm2, hb2⟩
  have z2 := z1.below hb2
  have zc0 := z2.cell 0 rfl
  have zf0 := z2.free 0
  have cg := ((HXX.out.bk.below hb1).below hb2).cell 17 rfl
  obtain ⟨W3, hW3⟩ : ∃ W3, W3 = W2.setCell ⟨w.heap.size, 0, none⟩ (.pointer (some ⟨W1.heap.size, 0, none⟩)) := ⟨_, rfl⟩
  have z3 : Bk W3 89 w.heap.size [.pointer (some ⟨W1.heap.size, 0, none⟩), .int .i64 m.sr, .int .i64 m.ds, .int .i64 m.cn, .int .i64 m.cl, .int .i64 0, .int .i64 0, .int .i64 0, .int .i64 m.pl, .int .i64 0, .int .i64 0, .int .i64 m.ar, .int .i64 m.pd, .bool false, .bool m.dn, .int .i64 m.pa, .map mb, .pointer (some ⟨g, 0, none⟩)] := by rw [hW3]; exact z2.set 0 _
  have hs3 : St (· = w.heap.size) W2 W3 := by rw [hW3]; exact St.setCell (F := (· = w.heap.size)) W2 rfl _
  have jn3 := ((HXX.out.jn.below hb1).below hb2).st hs3 (fun k hk he => by have := HXX.out.lt k (HXX.out.fj k hk); omega)
  have bm3 := hbm2.st hs3 (by omega)
  have hbw2 : Below w.heap.size w W2 := hb1.trans (hb2.mono hb1.size)
  have HBW3 : Hid (Below w.heap.size w W3) := Lib.hid (by rw [hW3]; exact hbw2.setCell (by show w.heap.size ≤ w.heap.size; omega) _)
  have HJF := Lib.hid (j_fork jn3)
  have Z3 := Lib.hid (And.intro z3 bm3)
  have hlt2 : W1.heap.size < W3.heap.size := bm3.lt
  clear hbm2 hb2 z2 hs3 jn3 z3 bm3 hbw2
  gi_wp2_with fail
  rw [← hW3]
  refine ⟨trivial, (callsIn_wide.2 HJF.out).mono ?_⟩
  rintro en W4 ⟨g', FJ', rfl, hj4, hf4, hb4⟩
  have z4 := Z3.out.1.below hb4
  have c17 := z4.cell 17 rfl
  have f17 := z4.free 17
  have c16 := z4.cell 16 rfl
  have f16 := z4.free 16
  have HB4 := Lib.hid (HBW3.out.trans (hb4.mono HBW3.out.size))
  have HJ4 := Lib.hid hj4
  have HF4 := Lib.hid hf4
  have HM4 := Lib.hid (Z3.out.2.below hb4)
  have hlt3 : W3.heap.size ≤ W4.heap.size := hb4.size
  have HZ4 := Lib.hid z4
  clear hj4 hf4 hb4 z4 zc0 zf0 cg c0 hW3 HJF
  have hmk := run_mk (W4.setCell ⟨w.heap.size, 17, none⟩ (.pointer (some ⟨g', 0, none⟩)))
  have zA := (HZ4.out.set 17 (.pointer (some ⟨g', 0, none⟩))).alloc (.map #[] 0)
  have cA := zA.cell 16 rfl
  have fA := zA.free 16
  have zB := zA.set 16 (.map (some W4.heap.size))
  have hsz4 : (W4.setCell ⟨w.heap.size, 17, none⟩ (.pointer (some ⟨g', 0, none⟩))).heap.size = W4.heap.size := by simp
  have hmn := MpI.new (W4.setCell ⟨w.heap.size, 17, none⟩ (.pointer (some ⟨g', 0, none⟩)))
  rw [hsz4] at hmn
  have hsA : St (· = w.heap.size) W4 (W4.setCell ⟨w.heap.size, 17, none⟩ (.pointer (some ⟨g', 0, none⟩))) := St.setCell (F := (· = w.heap.size)) W4 rfl _
  have hsB : St (· = w.heap.size) ((W4.setCell ⟨w.heap.size, 17, none⟩ (.pointer (some ⟨g', 0, none⟩))).alloc (.map #[] 0)) (((W4.setCell ⟨w.heap.size, 17, none⟩ (.pointer (some ⟨g', 0, none⟩))).alloc (.map #[] 0)).setCell ⟨w.heap.size, 16, none⟩ (.map (some W4.heap.size))) := St.setCell (F := (· = w.heap.size)) _ rfl _
  have hall := (hsA.trans (St.ext (ext1 _ (.map #[] 0)) (F := (· = w.heap.size))) (Gr.refl _ _)).trans hsB (Gr.refl _ _)
  gi_wp2
  obtain ⟨W0, hW0⟩ : ∃ W0, W0 = ((W4.setCell ⟨w.heap.size, 17, none⟩ (.pointer (some ⟨g', 0, none⟩))).alloc (.map #[] 0)).setCell ⟨w.heap.size, 16, none⟩ (.map (some W4.heap.size)) := ⟨_, rfl⟩
  rw [← hW0] at zB hsB hall ⊢
  have hs0 : W0.heap.size = W4.heap.size + 1 := by rw [hW0]; simp
  have hz4 := HB4.out.size
  have hmp0 : MpI W0 W4.heap.size [] := hmn.st hsB (by omega)
  have hbel0 : Below w.heap.size w W0 := HB4.out.trans (hall.below hz4 (fun k hk => by omega))
  obtain ⟨FJ2, hj2, hsub2, hcel2⟩ := HJ4.out.tight
  have hgw : ∀ k, FJ2 k → w.heap.size < k ∧ k < W4.heap.size := fun k hk => ⟨by
    have := HF4.out k (hsub2 k hk)
    have h3 := hlt2
    omega, hj2.lt k hk⟩
  have hgb : ∀ k, FJ2 k → k ≠ W1.heap.size := fun k hk => by
    have := HF4.out k (hsub2 k hk)
    omega
  have hj0 : JnC FJ2 W0 g' jm := hj2.st hall (fun k hk he => by have := hgw k hk; omega)
  have hI0 : FkI w W0.heap.size m W1.heap.size W4.heap.size g' FJ2 jm [] W0 :=
    ⟨hbel0, Nat.le_refl _, zB, HM4.out.st hall (by omega), ⟨[], hmp0, ⟨List.nodup_nil, (by intro p hp; cases hp), (by intro p hp; cases hp)⟩⟩, hj0, Nat.zero_le _⟩
  have HFJ := Lib.hid (And.intro hgw hgb)
  clear hmk zA cA fA hsz4 hmn hsA hsB hall zB c17 f17 c16 f16 HZ4 HM4 HJ4 HF4 hW0 hj0 hmp0 hj2 hsub2 hcel2 hgw hgb
  refine wpIn_givesS rfl (by decide) (gf := 48) (va := .pointer (some ⟨e, 0, none⟩)) rfl trivial (enters_of Try.func48 (by kernel_rfl) rfl)
    hgv hbel0 (fun _ => rfl) (FkI w W0.heap.size m W1.heap.size W4.heap.size g' FJ2 jm) (fun _ _ _ => False) (FkI.own (by omega) (fun k hk => by have := (HFJ.out.1 k hk).2; omega) (by omega)) (fun _ _ _ _ _ hs _ _ => hs) hI0 (fun pre W hI => hSG W hI.bel pre)
    (fun pre x a' W => (∃ p, m.ks[pre.length]? = some p ∧ x.mt p) ∧ BsR W x.A x.n x.c x.xs ∧ ∃ bx, W0.heap.size ≤ bx ∧ Bk W 104 bx x.cl ∧ a' = { tmps := #[.pointer (some ⟨e, 0, none⟩), undef, .pointer none, .pointer (some ⟨w.heap.size, 0, none⟩), .int .i64 x.k, .pointer (some ⟨bx, 0, none⟩), .pointer (some ⟨e, 0, none⟩), .pointer (some ⟨e, 0, none⟩), .agg #[.pointer (some ⟨pb, 0, none⟩), .int .i64 m.sr, .int .i64 m.ds, .int .i64 m.cn, .int .i64 m.cl, .int .i64 0, .int .i64 0, .int .i64 0, .int .i64 m.pl, .int .i64 0, .int .i64 0, .int .i64 m.ar, .int .i64 m.pd, .bool false, .bool m.dn, .int .i64 m.pa, .map mb, .pointer (some ⟨g, 0, none⟩)], .pointer (some ⟨e, 0, none⟩), .pointer (some ⟨e, 0, none⟩), .pointer (some ⟨e, 0, none⟩), .pointer (some ⟨pb, 0, none⟩), .pointer (some ⟨W1.heap.size, 0, none⟩), .pointer (some ⟨w.heap.size, 0, none⟩), .pointer (some ⟨e, 0, none⟩), .pointer (some ⟨e, 0, none⟩), .pointer (some ⟨e, 17, none⟩), .pointer (some ⟨g, 0, none⟩), .pointer (some ⟨g', 0, none⟩), .pointer (some ⟨w.heap.size, 17, none⟩), .map (some W4.heap.size), .pointer (some ⟨w.heap.size, 16, none⟩), .pointer (some ⟨e, 0, none⟩), .func (.func 48) #[.pointer (some ⟨e, 0, none⟩)] #[], .int .i64 x.k, .agg #[.slice x.A x.n x.c, .bool x.en, .bool x.fi], undef, undef, undef, undef, undef, undef, undef, undef], defers := [] })
    ?hAx ?assign ?body ?done ?stop
  case hAx =>
    rintro pre x a' _ W W' row ⟨h1, h2, bx, h3, h4, h5⟩ hw hr
    have hG : NoC (fun k => row = some k) W := noC_of fun k hk => (hr k hk).2
    have hs := St.grown (F := fun k => row = some k) hw fun k hk => hk
    exact ⟨h1, h2.st hs (fun k hk hg => hG k hg ⟨_, h2.2 k hk⟩), bx, h3, h4.stC hs hG, h5⟩
  case assign =>
    rintro l pre x W K hI hgd hK
    have hbW : Below W.heap.size W (W.alloc (.cells #[.slice x.A x.n x.c, .bool x.en, .bool x.fi] 104)) := (Below.refl _ W).alloc (Nat.le_refl _) _
    have hnew := Bk.new W 104 x.cl
    have hsz := hI.sz
    gi_wp2
    exact hK _ _ ((keepsOthers_of hbW).from _) (hI.below hbW) ⟨hgd.1, hgd.2.below hbW, _, hsz, hnew, rfl⟩
  case body =>
    rintro l pre x a' W hszW hI ⟨⟨p, hp, hmt⟩, hbs, bx, hbx, hbk, rfl⟩
    obtain ⟨xk, xA, xn, xc, xs, xen, xfi⟩ := x
    obtain ⟨hm1, hm2, hm3, hm4⟩ := hmt
    dsimp only at hm1 hm2 hm3 hm4 hbs hbk ⊢
    have hpk := (List.getElem?_eq_some_iff.1 hp).1
    have hxn : xn ≤ 65536 := by
      have h1 := hm.sh p (List.mem_of_getElem? hp)
      have h2 := hbs.1.1
      rw [hm2] at h1
      omega
    have HPL : Hid ((pre ++ [(⟨xk, xA, xn, xc, xs, xen, xfi⟩ : Pe)]).length = pre.length + 1) := Lib.hid (by simp)
    have HTK : Hid (m.ks.take (pre.length + 1) = m.ks.take pre.length ++ [p]) := Lib.hid (by rw [List.take_add_one, hp]; rfl)
    obtain ⟨L, hL, hE⟩ := hI.mp
    have hlk : Lacks L xk := fun x hx hk => by
      obtain ⟨⟨q, hq, hqm⟩, _⟩ := hE.2.1 x hx
      obtain ⟨i, hi, he⟩ := List.getElem_of_mem hq
      have hi' : i < pre.length := by rw [List.length_take] at hi; omega
      rw [List.getElem_take] at he
      have hri := (List.pairwise_iff_getElem.1 hm.ri) i pre.length (by omega) hpk hi'
      rw [he, (List.getElem?_eq_some_iff.1 hp).2] at hri
      have := hqm.1
      omega
    have cb0 := hbk.cell 0 rfl
    have HI := Lib.hid hI
    have HE := Lib.hid hE
    have HL := Lib.hid hL
    have HBK := Lib.hid hbk
    have HBS := Lib.hid hbs
    have hszz := hI.sz
    clear hI hE hL hbk hbs hp
    gi_wp2_with fail
    refine ⟨trivial, CallsIn.inRound l ((callsIn_wide.2 (clone_any _ _ _ _ _ HBS.out.1 hxn)).mono ?_)⟩
    rintro en w2 ⟨v, rfl, hown, hb2⟩
    obtain ⟨A', c', rfl⟩ := own_slice hown
    have HOW := Lib.hid (BsR.own hown HBS.out.1.2.2.2.2.1)
    have hbk2 := HBK.out.below hb2
    have d0 := hbk2.cell 0 rfl
    have g0 := hbk2.free 0
    have hbk3 := hbk2.set 0 (.slice A' xs.length c')
    have hbe3 := (HI.out.bk.below hb2).far (p := ⟨bx, 0, none⟩) (by show w.heap.size ≠ bx; omega) (.slice A' xs.length c')
    have e16 := hbe3.cell 16 rfl
    have hsX : St (· = bx) w2 (w2.setCell ⟨bx, 0, none⟩ (.slice A' xs.length c')) := St.setCell (F := (· = bx)) w2 rfl _
    have hbxt : ∀ k, k = bx → ¬ Tyd 5 w2 k := fun k hk => by rw [hk]; exact hbk2.tyd.ne (by decide)
    obtain ⟨W5, hrun, hm5, hs5⟩ := store_new (y := ⟨xk, A', xs.length, c', xs, xen, xfi⟩) ((HL.out.below hb2).st hsX (by omega)) hlk
    have hwz := hb2.size
    have hs5' := hs5.size
    have hxz : (w2.setCell ⟨bx, 0, none⟩ (.slice A' xs.length c')).heap.size = w2.heap.size := by simp
    have HEN := Lib.hid (show Ent (W0.heap.size ≤ ·) W5 (L ++ [⟨xk, A', xs.length, c', xs, xen, xfi⟩]) (m.ks.take pre.length ++ [p]) from by
      have hN : ∀ k, k = W4.heap.size → ¬ Tyd 5 (w2.setCell ⟨bx, 0, none⟩ (.slice A' xs.length c')) k := fun k hk ⟨cur, fz, hc⟩ => by
        obtain ⟨es, cl, h2, _⟩ := (HL.out.below hb2).st hsX (by omega)
        rw [hk, h2] at hc
        cases hc
      refine Ent.snoc ((((HE.out.below hb2).stT hsX hbxt)).stT hs5 hN) (p := p) ⟨hm1, hm2, hm3, hm4⟩ hlk ?_ ?_
      · exact (HOW.out.1.stT hsX hbxt).stT hs5 hN
      · exact fun k hk => by have := HOW.out.2 k hk; show W0.heap.size ≤ k; omega)
    have HR5 := Lib.hid (And.intro hm5 hs5)
    have HB2 := Lib.hid hb2
    have HSX := Lib.hid hsX
    have HB3 := Lib.hid hbe3
    clear hown hb2 hbk2 hm5 hs5 hsX hbe3 hbxt hlk
    gi_wp2_with (first
      | (with_reducible refine at_loadI 104 (.tmp 5) (by rfl) ?_
         refine wpListIn_load_bk rowPc rfl (.tmp 5) rfl bx 0 rfl hbk3 ([.slice ((⟨xk, A', xs.length, c', xs, xen, xfi⟩ : Pe)).A ((⟨xk, A', xs.length, c', xs, xen, xfi⟩ : Pe)).n ((⟨xk, A', xs.length, c', xs, xen, xfi⟩ : Pe)).c, .bool ((⟨xk, A', xs.length, c', xs, xen, xfi⟩ : Pe)).en, .bool ((⟨xk, A', xs.length, c', xs, xen, xfi⟩ : Pe)).fi]) rfl rfl ?_))
    have hall : St (fun k => k = bx ∨ k = W4.heap.size) W W5 := ((St.ext HB2.out).trans (HSX.out.mono fun k _ hk => .inl hk) (Gr.refl _ _)).trans (HR5.out.2.mono fun k _ hk => .inr hk) (Gr.refl _ _)
    have hw0 := HI.out.bel.size
    refine ⟨⟨hall.size, fun k o hB ho hc => (hall.block k (Array.getElem?_eq_some_iff.1 ho).1 ?_).trans ho⟩, ⟨HI.out.bel.trans (hall.below hw0 ?_), Nat.le_trans hszz hall.size, HI.out.bk.st hall (by omega), HI.out.bm.st hall (by omega), ⟨_, HR5.out.1, by rw [HPL.out, HTK.out]; exact HEN.out⟩, HI.out.jn.st hall ?_, by rw [HPL.out]; omega⟩⟩
    · rintro (rfl | rfl)
      · have := HBK.out
        unfold Bk at this
        rw [ho] at this
        injection this with this
        subst this
        cases hc
      · omega
    · rintro k (rfl | rfl)
      · omega
      · omega
    · rintro k hk (rfl | rfl)
      · have := (HFJ.out.1 k hk).2; omega
      · have := (HFJ.out.1 _ hk).2; omega
  case done =>
    rintro D ys W hD hy hI hK
    have hmp := hI.mp
    rw [hy, List.take_length] at hmp
    have HI := Lib.hid hI
    have hs : St (· = D) W (W.putObj D (.deferred none)) := ⟨rfl, rfl, rfl, by simp [World.putObj], fun k _ hn => World.putObj_heap_other hn⟩
    have hG : NoC (· = D) W := noC_of fun k hk => ⟨.deferred (some []), by rw [hk]; exact hK, rfl⟩
    have HP := Lib.hid (hI.stC hs hG (by omega) (fun k hk he => by have := (HFJ.out.1 k hk).2; omega) (fun k hk => by omega))
    have HMP := Lib.hid (show MpK (fun k => W0.heap.size ≤ k ∧ k < (W.putObj D (.deferred none)).heap.size) (W.putObj D (.deferred none)) W4.heap.size m.ks from by
      obtain ⟨L, hL, hE⟩ := hmp
      have hE' := hE.stC hs hG
      refine ⟨L, hL.st hs (by omega), hE'.1, fun x hx => ⟨(hE'.2.1 x hx).1, (hE'.2.1 x hx).2.1, fun k hk => ⟨(hE'.2.1 x hx).2.2 k hk, (hE'.2.1 x hx).2.1.lt k hk⟩⟩, hE'.2.2⟩)
    clear hI hmp hs hG
    gi_wp2
    refine ⟨by simp, .inl ⟨_, _, rfl, run_takeDeferred hK, ?_⟩⟩
    have hz := HP.out.sz
    refine ⟨_, results_tmp rfl _ _ _, w.heap.size, fun k => w.heap.size ≤ k ∧ k < (W.putObj D (.deferred none)).heap.size, rfl, ⟨W1.heap.size, some W4.heap.size, g', FJ2, fun k => W0.heap.size ≤ k ∧ k < (W.putObj D (.deferred none)).heap.size, jm, ⟨HP.out.bk, HP.out.bm, ?_, HP.out.jn, ?_, ⟨Nat.le_refl _, by omega⟩, ⟨by omega, by omega⟩, ?_, ?_, ?_, fun k hk => hk.2, ⟨?_, ?_, ?_⟩, ⟨?_, ?_, ?_, ?_⟩⟩⟩, fun k hk => hk.1, HP.out.bel⟩
    · intro b' hb'
      injection hb' with hb'
      subst hb'
      exact HMP.out
    · exact fun hd => ⟨(HXX.out.jd hd).1, _, rfl⟩
    · intro b' hb'
      injection hb' with hb'
      exact ⟨by omega, by omega⟩
    · exact fun k hk => ⟨by have := HFJ.out.1 k hk; omega, by have := HFJ.out.1 k hk; omega⟩
    · exact fun k hk => ⟨by have := hk.1; omega, hk.2⟩
    · exact fun hf => by have := HFJ.out.1 _ hf; omega
    · exact fun hf => (HFJ.out.2 _ hf) rfl
    · intro b' hb' hf
      injection hb' with hb'
      have := HFJ.out.1 _ hf; omega
    · exact fun hf => by have := hf.1; omega
    · exact fun hf => by have := hf.1; omega
    · intro b' hb' hf
      injection hb' with hb'
      have := hf.1; omega
    · exact fun k hk hk' => by have := HFJ.out.1 k hk; have := hk'.1; omega
  case stop =>
    rintro D c' pre W hD _ h _
    exact h.elim
theorem v_fork (h : RcA F w r e m) (hm : m.Ok) : Calls Try.prog 17 #[.pointer (some ⟨r, 0, none⟩)] w fun en w' => ∃ r' e' F', en = .returned (.pointer (some ⟨r', 0, none⟩)) ∧ RcA F' w' r' e' m ∧ (∀ k, FR F' r' k → w.heap.size ≤ k) ∧ Below w.heap.size w w' := by
  have HM := Lib.hid (v_made h)
  have HF := Lib.hid (e_fork h.en hm)
  have c0 := h.bk.cell 0 rfl
  clear h hm
  go_enter Try.func17, Try.ntmps17
  go_wp2_with fail
  refine HM.out.mono ?_
  rintro en w1 ⟨rfl, rfl⟩
  go_wp2_with fail
  refine HF.out.mono ?_
  rintro en w2 ⟨e', F', rfl, he, hF, hb⟩
  have HE := Lib.hid (And.intro he (And.intro hF hb))
  clear he hF hb
  go_wp2
  go_ret
  obtain ⟨he, hF, hb⟩ := HE.out
  have hsz := hb.size
  refine ⟨w2.heap.size, e', F', rfl, ⟨Bk.new w2 79 [.pointer (some ⟨e', 0, none⟩)], he.below (ext1 _ _), fun hf => by have := he.lt _ hf; omega⟩, ?_, hb.trans ((ext1 _ _).mono hsz)⟩
  rintro k (hk | rfl)
  · exact hF k hk
  · exact hsz
end
end Go.Proofs.Ytmmjhijgedboiaa
