/- What came since. -/
import Derived.Test.YtdepbdmnkkkjlaaDoorN10
set_option linter.unusedSimpArgs false
set_option linter.unusedVariables false
set_option maxRecDepth 100000
namespace Go.Proofs.YtdepbdmnkkkjlaaDoor
open Go.RowKit Go.Shelf Go.Maps Go.Sort
attribute [local go_sem] Oper.semAt_some
theorem put_end : ∀ {l : List Cn} {s : Nm} {n : Int}, (∀ x ∈ l, x.s < s) → put l s n = l ++ [⟨s, n⟩]
  | [], s, n, _ => rfl
  | x :: l, s, n, h => by
    rw [put, if_pos (h x (by simp)), put_end fun y hy => h y (by simp [hy])]
    rfl
theorem since_snoc (pre o : List Cn) (x : Cn) : since (pre ++ [x]) o = since pre o ++ [⟨x.s, max 0 (x.n - get o x.s)⟩] := by simp [since]
theorem take_step {m pre : List Cn} {x : Cn} (h : pre = m.take pre.length) (hx : m[pre.length]? = some x) : pre ++ [x] = m.take (pre ++ [x]).length := by
  obtain ⟨hlt, he⟩ := List.getElem?_eq_some_iff.1 hx
  rw [List.length_append, List.length_singleton, List.take_succ_eq_append_getElem hlt, he, ← h]
theorem take_lt {m pre : List Cn} {x : Cn} (hm : Srt m) (h : pre = m.take pre.length) (hx : m[pre.length]? = some x) : ∀ y ∈ pre, y.s < x.s := by
  have h2 := take_step h hx
  have h3 : Srt (pre ++ [x]) := by rw [h2]; exact List.Pairwise.sublist (List.take_sublist _ _) hm
  exact fun y hy => (List.pairwise_append.1 h3).2.2 y hy x (by simp)
/-- What came since, under way. -/
def SncI (w : World) (g2 : Nat) (m o pre : List Cn) (W : World) : Prop :=
  Below w.heap.size w W ∧ Bk W 25 w.heap.size [.pointer (some ⟨g2, 0, none⟩)] ∧ Bk W 60 (w.heap.size + 2) [.map (some (w.heap.size + 1))] ∧ MpN W (w.heap.size + 1) (since pre o) ∧ pre = m.take pre.length
set_option maxHeartbeats 8000000 in
theorem c_since {w : World} {g b g2 b2 : Nat} {m o : List Cn} (h : CtC w g b m) (h2 : CtC w g2 b2 o) :
    Calls Tryd.prog 26 #[.pointer (some ⟨g, 0, none⟩), .pointer (some ⟨g2, 0, none⟩)] w (ForkR (since m o) w) := by
  have hb1 : Below w.heap.size w (w.alloc (.cells #[.pointer (some ⟨g2, 0, none⟩)] 25)) := (Below.refl _ w).alloc (Nat.le_refl _) _
  have q1 := Bk.new w 25 [.pointer (some ⟨g2, 0, none⟩)]
  have hsz : (w.alloc (.cells #[.pointer (some ⟨g2, 0, none⟩)] 25)).heap.size = w.heap.size + 1 := by simp
  have HQ := Lib.hid (And.intro hb1 (And.intro q1 (And.intro (h.below hb1) (h2.below hb1))))
  have HM := Lib.hid (c_made HQ.out.2.2.1)
  have HM2 := Lib.hid (c_made HQ.out.2.2.2)
  have HLT := Lib.hid (And.intro h.bk.lt (And.intro h.mp.lt (And.intro h2.bk.lt h2.mp.lt)))
  have HOK := Lib.hid (And.intro h.ok h2.ok)
  have c1 := q1.cell 0 rfl
  have hmm := @run_makeMap Tryd.prog
  clear hb1 q1 h h2
  refine (callsIn_wide (n := 5)).1 ?_
  refine callsIn_of_wp_marks Tryd.func26 rfl trivial ?_ rfl
  simp only [Tryd.ntmps26, List.size_toArray, List.length_cons, List.length_nil, Nat.reduceAdd, Nat.reduceSub, Array.replicate_succ, Array.replicate_zero, List.push_toArray, List.append_toArray, List.nil_append, List.cons_append]
  gi_wp2
  generalize (w.alloc (.cells #[.pointer (some ⟨g2, 0, none⟩)] 25)) = W1 at *
  refine ⟨trivial, (callsIn_wide.2 HM.out).mono ?_⟩
  rintro e W' ⟨rfl, rfl⟩
  gi_wp2
  refine ⟨trivial, (callsIn_wide.2 HM2.out).mono ?_⟩
  rintro e W' ⟨rfl, rfl⟩
  clear c1
  have hb3 : Below W1.heap.size W1 ((W1.alloc (.map #[] 0)).alloc (.cells #[.map (some (w.heap.size + 1))] 60)) := ((Below.refl _ W1).alloc (Nat.le_refl _) _).alloc (by simp) _
  have q3 : Bk ((W1.alloc (.map #[] 0)).alloc (.cells #[.map (some (w.heap.size + 1))] 60)) 60 (w.heap.size + 1 + 1) [.map (some (w.heap.size + 1))] := by
    have := Bk.new (W1.alloc (.map #[] 0)) 60 [.map (some (w.heap.size + 1))]
    rw [World.size_alloc, hsz] at this; exact this
  have q4 : MpN ((W1.alloc (.map #[] 0)).alloc (.cells #[.map (some (w.heap.size + 1))] 60)) (w.heap.size + 1) [] := by
    have := (MpN.new W1).below ((Below.refl _ (W1.alloc (.map #[] 0))).alloc (Nat.le_refl _) (.cells #[.map (some (w.heap.size + 1))] 60))
    rw [hsz] at this; exact this
  have hs3 : ((W1.alloc (.map #[] 0)).alloc (.cells #[.map (some (w.heap.size + 1))] 60)).heap.size = w.heap.size + 1 + 2 := by simp [hsz]
  have HQ3 := Lib.hid (And.intro hb3 (And.intro q3 q4))
  clear hb3 q3 q4
  gi_wp2
  generalize ((W1.alloc (.map #[] 0)).alloc (.cells #[.map (some (w.heap.size + 1))] 60)) = W2 at *
  refine ⟨trivial, (callsIn_wide.2 (q_all _ _)).mono ?_⟩
  rintro e W0 ⟨rfl, hr, hb⟩
  have hs0 : W2.heap.size < W0.heap.size := hr.lt
  have hbq : Below W1.heap.size W1 W0 := below_on HQ3.out.1 hb
  have hgv := all_gives OwnN 4 (by omega) (HQ.out.2.2.1.below hbq) hr (fitN _)
  have k3 := HQ3.out.2.1.below hb
  have k4 := HQ3.out.2.2.below hb
  rw [hs3] at hgv hs0 hr ⊢
  have HI0 : Hid (SncI w g2 m o [] W0) := Lib.hid ⟨below_on HQ.out.1 hbq, HQ.out.2.1.below hbq, k3, k4, by simp⟩
  have HC2 := Lib.hid (HQ.out.2.2.2.below hbq)
  clear hr hb hbq k3 k4
  gi_wp2
  refine wpIn_givesM rfl (by decide) (gf := 49) (lb := #[.pointer (some ⟨w.heap.size + 1 + 2, 0, none⟩)]) rfl trivial (enters_of Tryd.func49 (by kernel_rfl) rfl)
    hgv (Below.refl _ _) (fun _ => rfl) KpW.trans (fun N l W o o' hl ho h0 hc => kpN_put N l W o o' hl)
    (fun pre W => SncI w g2 m o pre W ∧ CtC W g2 b2 o) (fun _ _ _ => False)
    (fun pre W W' row hI hw hr => ⟨⟨below_own hI.1.1 (by omega) hw hr, bk_own hI.1.2.1 hw hr, bk_own hI.1.2.2.1 hw hr, mp_own hI.1.2.2.2.1 (by omega) hw hr, hI.1.2.2.2.2⟩, ct_own hI.2 (by have := HLT.out.2.2.2; omega) hw hr⟩) (fun _ _ _ _ _ hs _ _ => hs) ⟨HI0.out, HC2.out⟩
    (fun pre x a' W => m[pre.length]? = some x ∧ ∃ z8 z9 z10 z11 z12 z13 z14 z15 z16 z17, a' = { tmps := #[.pointer (some ⟨g, 0, none⟩), .pointer (some ⟨g2, 0, none⟩), undef, .pointer (some ⟨w.heap.size, 0, none⟩), .pointer none, .pointer (some ⟨w.heap.size + 1 + 1, 0, none⟩), str x.s, num x.n, z8, z9, z10, z11, z12, z13, z14, z15, z16, z17, .func (.func 49) #[] #[.pointer (some ⟨w.heap.size + 1 + 2, 0, none⟩)], str x.s, num x.n, undef, undef, undef, undef, undef, undef, undef, undef, undef, undef, undef], defers := [] })
    ?hAx ?assign ?body ?done ?stop
  case hAx =>
    rintro pre x a' _ W W' row h hw hr
    exact h
  case assign =>
    rintro l pre x W K hI hat hK
    gi_wp2
    exact hK _ _ ⟨Nat.le_refl _, fun _ _ _ h _ => h⟩ ⟨Nat.le_refl _, fun k _ _ h => ⟨rfl, h⟩⟩ hI ⟨hat, _, _, _, _, _, _, _, _, _, _, rfl⟩
  case body =>
    rintro l pre x a' W hsz2 ⟨⟨hb, r1, r2, r3, hp⟩, hct⟩ ⟨hx, z8, z9, z10, z11, z12, z13, z14, z15, z16, z17, rfl⟩
    have hxm := List.mem_of_getElem? hx
    have hxo := HOK.out.1.all x hxm
    have hgo := HOK.out.2.get_le x.s
    have HB := Lib.hid (And.intro hb (And.intro r1 (And.intro r2 (And.intro r3 hct))))
    have HL := Lib.hid (take_lt HOK.out.1.srt hp hx)
    have HTS := Lib.hid (take_step hp hx)
    have HSn := Lib.hid (since_snoc pre o x)
    have hlen := (List.getElem?_eq_some_iff.1 hx).1
    have HSP : Hid (Srt (since pre o)) := Lib.hid (srt_map_since (by rw [hp]; exact List.Pairwise.sublist (List.take_sublist _ _) HOK.out.1.srt) o)
    have HSL : Hid ((since pre o).length = pre.length) := Lib.hid (by simp [since])
    have hml := HOK.out.1.len
    have HG := Lib.hid (good_len hxo.1)
    have hx0 := hxo.2.1
    have hx1 := hxo.2.2
    have hg0 := hgo.1
    have hg1 := hgo.2
    simp only [Most] at hx1 hg1
    clear hb r1 r2 r3 hp hct hxo hgo hx hxm
    gi_wp2
    refine wpIn_region_L Ext [8] (by kernel_rfl) (by kernel_rfl) (fun wd hbd hsz => ?_)
    have HW := Lib.hid hbd
    have q0 : ∀ W', Ext wd W' → W'.cell? ⟨w.heap.size, 0, none⟩ = some (.pointer (some ⟨g2, 0, none⟩)) := fun W' hW => ((HB.out.2.1.below HW.out).below hW).cell 0 rfl
    have q1 : ∀ W', Ext wd W' → W'.cell? ⟨w.heap.size + 1 + 1, 0, none⟩ = some (.map (some (w.heap.size + 1))) := fun W' hW => ((HB.out.2.2.1.below HW.out).below hW).cell 0 rfl
    have hwr : IntKind.i64.wrap (x.n - get o x.s) = x.n - get o x.s := wraps_i64 _ (by omega)
    have HGt := Lib.hid (c_get (HB.out.2.2.2.2.below HW.out) (s := x.s) HG.out)
    clear hsz
    (refine takeL Ext.tr 0 (by simp only [List.getElem?_toArray, List.getElem?_cons_succ, List.getElem?_cons_zero]; rfl) (by kernel_rfl) (by kernel_rfl) (by kernel_rfl) (by kernel_rfl) (by exact fun _ _ _ h => h) (by first | (refine Or.inl ⟨by rfl, ?_⟩; intro W hW; go_simp; try with_reducible rfl) | exact Or.inr ⟨by rfl, rfl⟩) ?_; try simp only [Act.put, List.setIfInBounds_toArray, List.set_cons_zero, List.set_cons_succ])
    (refine takeL Ext.tr 1 (by simp only [List.getElem?_toArray, List.getElem?_cons_succ, List.getElem?_cons_zero]; rfl) (by kernel_rfl) (by kernel_rfl) (by kernel_rfl) (by kernel_rfl) (by exact fun _ _ _ h => h) (by first | (refine Or.inl ⟨by rfl, ?_⟩; intro W hW; go_simp; try with_reducible rfl) | exact Or.inr ⟨by rfl, rfl⟩) ?_; try simp only [Act.put, List.setIfInBounds_toArray, List.set_cons_zero, List.set_cons_succ])
    (refine takeL Ext.tr 2 (by simp only [List.getElem?_toArray, List.getElem?_cons_succ, List.getElem?_cons_zero]; rfl) (by kernel_rfl) (by kernel_rfl) (by kernel_rfl) (by kernel_rfl) (by exact fun _ _ _ h => h) (by first | (refine Or.inl ⟨by rfl, ?_⟩; intro W hW; go_simp; try with_reducible rfl) | exact Or.inr ⟨by rfl, rfl⟩) ?_; try simp only [Act.put, List.setIfInBounds_toArray, List.set_cons_zero, List.set_cons_succ])
    (refine takeL Ext.tr 3 (by simp only [List.getElem?_toArray, List.getElem?_cons_succ, List.getElem?_cons_zero]; rfl) (by kernel_rfl) (by kernel_rfl) (by kernel_rfl) (by kernel_rfl) (by exact fun _ _ _ h => h) (by first | (refine Or.inl ⟨by rfl, ?_⟩; intro W hW; go_simp; try with_reducible rfl) | exact Or.inr ⟨by rfl, rfl⟩) ?_; try simp only [Act.put, List.setIfInBounds_toArray, List.set_cons_zero, List.set_cons_succ])
    (refine takeL Ext.tr 4 (by simp only [List.getElem?_toArray, List.getElem?_cons_succ, List.getElem?_cons_zero]; rfl) (by kernel_rfl) (by kernel_rfl) (by kernel_rfl) (by kernel_rfl) (by exact fun _ _ _ h => h) (by first | (refine Or.inl ⟨by rfl, ?_⟩; intro W hW; go_simp; try with_reducible rfl) | exact Or.inr ⟨by rfl, rfl⟩) ?_; try simp only [Act.put, List.setIfInBounds_toArray, List.set_cons_zero, List.set_cons_succ])
    refine wpAnyL_one (i := 5) (by kernel_rfl) (by simp only [List.getElem?_toArray, List.getElem?_cons_succ, List.getElem?_cons_zero]; rfl) (fun K hK => ?_)
    go_simp
    refine HGt.out.mono ?_
    rintro en w2 ⟨rfl, rfl⟩
    refine hK.out _ _ (.inr (Ext.refl _)) ?_
    clear hK K
    try simp only [Act.put, List.setIfInBounds_toArray, List.set_cons_zero, List.set_cons_succ]
    (refine takeL Ext.tr 6 (by simp only [List.getElem?_toArray, List.getElem?_cons_succ, List.getElem?_cons_zero]; rfl) (by kernel_rfl) (by kernel_rfl) (by kernel_rfl) (by kernel_rfl) (by exact fun _ _ _ h => h) (by first | (refine Or.inl ⟨by rfl, ?_⟩; intro W hW; go_simp; try with_reducible rfl) | exact Or.inr ⟨by rfl, rfl⟩) ?_; try simp only [Act.put, List.setIfInBounds_toArray, List.set_cons_zero, List.set_cons_succ])
    (refine takeL Ext.tr 7 (by simp only [List.getElem?_toArray, List.getElem?_cons_succ, List.getElem?_cons_zero]; rfl) (by kernel_rfl) (by kernel_rfl) (by kernel_rfl) (by kernel_rfl) (by exact fun _ _ _ h => h) (by first | (refine Or.inl ⟨by rfl, ?_⟩; intro W hW; go_simp; try with_reducible rfl) | exact Or.inr ⟨by rfl, rfl⟩) ?_; try simp only [Act.put, List.setIfInBounds_toArray, List.set_cons_zero, List.set_cons_succ])
    refine wpAnyL_one (i := 8) (by kernel_rfl) (by simp only [List.getElem?_toArray, List.getElem?_cons_succ, List.getElem?_cons_zero]; rfl) (fun K hK => ?_)
    refine opwp_store_to rfl (.tmp 21) (.tmp 22) (.tmp 28) rfl rfl (HB.out.2.2.2.1.below HW.out) HSP.out (by have := HSL.out; unfold maxLen; omega) rfl HG.out rfl (by omega) (by simp only [Most]; omega) ?_
    intro w9 hm9 hs9
    have HF : Hid (ownPostM W0.heap.size (KpW OwnN (W0.heap.size + 2)) (fun pre W => SncI w g2 m o pre W ∧ CtC W g2 b2 o) (fun _ _ _ => False) (pre ++ [x]) W .normal { tmps := #[], defers := [] } w9) := Lib.hid (by
      have hst : St (· = w.heap.size + 1) W w9 := (St.ext HW.out).trans hs9 (Gr.refl _ _)
      refine ⟨keeps_st hst fun k o hk _ h0 _ => by omega, kpN_st hst fun k hk => by omega, ⟨HB.out.1.trans (hst.below HB.out.1.size fun j hj => by omega), HB.out.2.1.st hst (by omega), HB.out.2.2.1.st hst (by omega), ?_, HTS.out⟩, HB.out.2.2.2.2.st hst (by have := HLT.out.2.2.1; omega) (by have := HLT.out.2.2.2; omega)⟩
      rw [put_end fun y hy => by obtain ⟨z, hz, rfl⟩ := List.mem_map.1 hy; exact HL.out z hz] at hm9
      rw [HSn.out, Int.max_comm]
      exact hm9)
    clear hm9 hs9
    refine hK.out _ _ (.inl (by decide)) ?_
    clear hK K
    try simp only [Act.put, List.setIfInBounds_toArray, List.set_cons_zero, List.set_cons_succ]
    refine noOutL_done (by kernel_rfl) ?_ _
    clear q0 q1
    exact HF.out
  case done =>
    rintro D ys W hD rfl ⟨⟨hb, r1, r2, r3, hp⟩, hct⟩ hK
    have c3 := r2.cell 0 rfl
    have HB := Lib.hid (And.intro hb r3)
    clear hb r1 r3 hp hct
    gi_wp2
    have hK2 : (W.alloc (.cells #[.map (some (w.heap.size + 1))] 62)).heap[D]? = some (.deferred (some [])) := ((Below.refl _ W).alloc (Nat.le_refl _) _).block D (Array.getElem?_eq_some_iff.1 hK).1 |>.trans hK
    refine ⟨by simp, .inl ⟨_, _, rfl, run_takeDeferred hK2, ?_⟩⟩
    refine ⟨_, results_tmp rfl _ _ _, W.heap.size, w.heap.size + 1, rfl, ?_, ?_, by have := HB.out.1.size; omega, by omega⟩
    · have hWD : D < W.heap.size := (Array.getElem?_eq_some_iff.1 hK).1
      exact CtC.same ⟨Bk.new W 62 [.map (some (w.heap.size + 1))], HB.out.2.below ((Below.refl _ _).alloc (Nat.le_refl _) _), ok_since HOK.out.1 HOK.out.2⟩ (World.putObj_heap_other (by omega)) (World.putObj_heap_other (by omega))
    · exact (HB.out.1.alloc HB.out.1.size _).trans ⟨rfl, rfl, rfl, by simp [World.putObj], fun k hk => World.putObj_heap_other (by omega)⟩
  case stop =>
    rintro D c' pre W hD _ h _
    exact h.elim
end Go.Proofs.YtdepbdmnkkkjlaaDoor
