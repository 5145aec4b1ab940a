/- A score's tick. -/
import Derived.Test.YtjoagkekbeogoaaS6
set_option linter.unusedSimpArgs false
set_option linter.unusedVariables false
namespace Go.Proofs.Ytjoagkekbeogoaa
open Go.RowKit Go.Shelf
attribute [local go_sem] Oper.semAt_some

/-- One path more: S0 is the score as it was told. -/
def tkStep (S0 : Sc) (T : Sc × List Int) (x : Nat) : Sc × List Int :=
  if S0.r x = 0 then T else ({ T.1 with r := up T.1.r x (T.1.r x - 1) }, if T.1.r x - 1 = 0 then T.2 ++ [(x : Int)] else T.2)
def tkN (S0 : Sc) (pre : List Nat) : Sc × List Int := pre.foldl (tkStep S0) (S0, [])
theorem tkN_snoc (S0 : Sc) (pre : List Nat) (x : Nat) : tkN S0 (pre ++ [x]) = tkStep S0 (tkN S0 pre) x := by simp [tkN, List.foldl_append]
theorem tkN_n (S0 : Sc) (pre : List Nat) : (tkN S0 pre).1.n = S0.n ∧ (tkN S0 pre).1.rest = S0.rest ∧ (tkN S0 pre).1.c = S0.c := by
  obtain ⟨q, rfl⟩ : ∃ q, pre = q.reverse := ⟨pre.reverse, by simp⟩
  induction q with
  | nil => exact ⟨rfl, rfl, rfl⟩
  | cons x l ih =>
    rw [List.reverse_cons, tkN_snoc]
    unfold tkStep
    split
    · exact ih
    · exact ih
theorem tkN_bound (S0 : Sc) {M : Int} (h : ∀ j, 0 ≤ S0.r j ∧ S0.r j ≤ M) (pre : List Nat) : (∀ j, -(pre.length : Int) ≤ (tkN S0 pre).1.r j ∧ (tkN S0 pre).1.r j ≤ M) ∧ (tkN S0 pre).2.length ≤ pre.length := by
  obtain ⟨q, rfl⟩ : ∃ q, pre = q.reverse := ⟨pre.reverse, by simp⟩
  induction q with
  | nil => exact ⟨fun j => by have := h j; simpa [tkN] using this, by simp [tkN]⟩
  | cons x l ih =>
    rw [List.reverse_cons, tkN_snoc, List.length_append, List.length_singleton]
    unfold tkStep
    split
    · exact ⟨fun j => by have := ih.1 j; omega, by have := ih.2; omega⟩
    · refine ⟨fun j => ?_, ?_⟩
      · show _ ≤ up _ _ _ j ∧ up _ _ _ j ≤ M
        have h1 := ih.1 j
        have h2 := ih.1 x
        unfold up
        split <;> omega
      · have := ih.2
        show (if _ then _ else _ : List Int).length ≤ _
        split
        · rw [List.length_append, List.length_singleton]; omega
        · omega
theorem tkN_range (S0 : Sc) (h : ∀ j, 0 ≤ S0.r j) (k : Nat) : tkN S0 (List.range k) = ({ S0 with r := fun i => if 0 < S0.r i ∧ i < k then S0.r i - 1 else S0.r i }, S0.backN k) := by
  induction k with
  | zero => simp [tkN, Sc.backN]
  | succ k ih =>
    rw [List.range_succ, tkN_snoc, ih, Sc.backN_succ]
    unfold tkStep
    have hk := h k
    by_cases h0 : S0.r k = 0
    · rw [if_pos h0, if_neg (by omega)]
      congr 2
      funext i
      by_cases hi : i = k
      · subst hi; rw [if_neg (by omega), if_neg (by omega)]
      · by_cases h1 : 0 < S0.r i ∧ i < k
        · rw [if_pos h1, if_pos (by omega)]
        · rw [if_neg h1, if_neg (by omega)]
    · rw [if_neg h0]
      have e1 : (if 0 < S0.r k ∧ k < k then S0.r k - 1 else S0.r k) = S0.r k := if_neg (by omega)
      dsimp only
      simp only [e1]
      congr 1
      · congr 1
        funext i
        unfold up
        by_cases hi : i = k
        · subst hi; rw [if_pos rfl, if_pos (by omega)]
        · rw [if_neg hi]
          dsimp only
          by_cases h1 : 0 < S0.r i ∧ i < k
          · rw [if_pos h1, if_pos (by omega)]
          · rw [if_neg h1, if_neg (by omega)]
      · by_cases h1 : S0.r k = 1
        · rw [if_pos (by omega), if_pos h1]
        · rw [if_neg (by omega), if_neg h1]
/-- Between two rounds of a tick. -/
structure TkI (p : Nat) (w : World) (L : Nat) (T : Sc × List Int) (W : World) : Prop where
  st : St (· = p) w W
  sz : L ≤ W.heap.size
  pt : Bk W 23 w.heap.size [.pointer (some ⟨p, 0, none⟩)]
  sm : Sm W p T.1
  ex : ∃ A n c, Bk W 37 (w.heap.size + 1) [.slice A n c] ∧ Lst 3 (L ≤ ·) W A n c (intV T.2)
theorem TkI.own {p : Nat} {w : World} {L B : Nat} {T : Sc × List Int} {W W' : World} {row : Option Nat} (h : TkI p w L T W) (hp : p < w.heap.size) (hv : w.heap.size + 2 ≤ L) (hL : L ≤ B) (hw : W.grownBy W' row)
    (hr : ∀ r, row = some r → B ≤ r ∧ ∃ o : Obj, W.heap[r]? = some o ∧ o.isCells = false) : TkI p w L T W' := by
  obtain ⟨h1, h2, h5, h6, A, n, c, h3, h4⟩ := h
  have hk : ∀ k, k < L → k < W.heap.size → W'.heap[k]? = W.heap[k]? := fun k hk hs => hw.block k hs (fun e => by have := (hr _ e.symm).1; omega)
  exact ⟨⟨hw.os.trans h1.os, hw.tape.trans h1.tape, hw.output.trans h1.output, Nat.le_trans h1.size hw.size, fun k hk' hn => (hk k (by omega) (by have := h1.size; omega)).trans (h1.block k hk' hn)⟩, Nat.le_trans h2 hw.size, (hk _ (by omega) h5.lt).trans h5, (hk _ (by omega) h6.lt).trans h6, A, n, c, (hk _ (by omega) h3.lt).trans h3, h4.own hw fun r e => (hr r e).2⟩
set_option maxRecDepth 100000 in
set_option maxHeartbeats 4000000 in
theorem sm_tick {w : World} {p : Nat} {S : Sc} {b : Int} (h : Sm w p S) (ho : S.ok b) :
    Calls Try.prog 15 #[.pointer (some ⟨p, 0, none⟩)] w fun e w' => ∃ A n c, e = .returned (.slice A n c) ∧ Lst 3 (w.heap.size ≤ ·) w' A n c (intV S.back) ∧ Ds p S.tick w w' := by
  have h8 := ho.n8
  have h1 := ho.n1
  have hplt := h.lt
  refine (callsIn_wide (n := 5)).1 ?_
  refine callsIn_of_wp_marks Try.func15 rfl trivial ?_ rfl
  simp only [Try.ntmps15, List.size_toArray, List.length_cons, List.length_nil, Nat.reduceAdd, Nat.reduceSub, Array.replicate_succ, Array.replicate_zero, List.push_toArray, List.append_toArray, List.nil_append, List.cons_append]
  have q0 : Bk ((w.alloc (.cells #[.pointer (some ⟨p, 0, none⟩)] 23)).alloc (.cells #[.slice none 0 0] 37)) 23 w.heap.size [.pointer (some ⟨p, 0, none⟩)] := (Bk.new w 23 [.pointer (some ⟨p, 0, none⟩)]).alloc _
  have q1 : Bk ((w.alloc (.cells #[.pointer (some ⟨p, 0, none⟩)] 23)).alloc (.cells #[.slice none 0 0] 37)) 37 (w.heap.size + 1) [.slice none 0 0] := by
    have := Bk.new (w.alloc (.cells #[.pointer (some ⟨p, 0, none⟩)] 23)) 37 [.slice none 0 0]
    rwa [World.size_alloc] at this
  have hb1 : Below w.heap.size w ((w.alloc (.cells #[.pointer (some ⟨p, 0, none⟩)] 23)).alloc (.cells #[.slice none 0 0] 37)) := ((Below.refl _ w).alloc (Nat.le_refl _) _).alloc (by simp) _
  have h' := (h.alloc (.cells #[.pointer (some ⟨p, 0, none⟩)] 23)).alloc (.cells #[.slice none 0 0] 37)
  have hz : ((w.alloc (.cells #[.pointer (some ⟨p, 0, none⟩)] 23)).alloc (.cells #[.slice none 0 0] 37)).heap.size = w.heap.size + 2 := by simp
  have Q := Lib.hid (And.intro q0 (And.intro q1 (And.intro hb1 hz)))
  clear q0 q1 hb1 hz
  gi_wp2
  refine ⟨trivial, (callsIn_wide.2 (sm_paths h' h1)).mono ?_⟩
  rintro e W0 ⟨g1, g2, rfl, hg1, hg2, hg, hr1, hr2, hb2⟩
  obtain ⟨q0, q1, hb1, hz⟩ := Q.out
  have h0' := h'.below hb2
  have q0' := q0.below hb2
  have q1' := q1.below hb2
  have hb0 := hb1.trans (hb2.mono hb1.size)
  have hz1 := hr1.lt
  have hz2 := hr2.lt
  rw [hz] at hg1 hg2
  clear hb2 hb1 q0 q1 h' hz
  gi_wp2
  refine wpIn_rangeFunc_ownF rfl (by decide) (gf := 34) (lb := #[.pointer (some ⟨g1, 0, none⟩), .pointer (some ⟨g2, 0, none⟩)]) rfl trivial (enters_of Try.func34 (by kernel_rfl) rfl)
    (paths_stops (5 - 1) (by decide) (fun k => k = g1 ∨ k = g2) g1 g2 S W0 h8 (.inl rfl) (.inr rfl) (fun k hk => by omega) hr1 hr2) KpS.trans (KpS.put (fun k hk => by omega)) (Below.refl _ _) (fun _ => rfl)
    (fun pre => TkI p w W0.heap.size (tkN S (pre.map Fin.val))) (fun _ _ _ => False) (fun pre W W' row hI hw hr => hI.own hplt (by omega) (Nat.le_refl _) hw hr) (fun _ _ _ _ _ hs _ _ => hs) ⟨St.ext hb0, Nat.le_refl _, q0', h0', none, 0, 0, q1', Lst.nil _ _ _⟩
    (fun i => { tmps := #[.pointer (some ⟨p, 0, none⟩), .pointer (some ⟨w.heap.size, 0, none⟩), .slice none 0 0, .pointer (some ⟨w.heap.size + 1, 0, none⟩), .int .i64 i.val, .bool (S.r i.val == 0), .pointer (some ⟨p, 0, none⟩), .func (.func 34) #[] #[.pointer (some ⟨g1, 0, none⟩), .pointer (some ⟨g2, 0, none⟩)], .int .i64 i.val, .bool (S.r i.val == 0), undef, undef, undef, undef, undef, undef, undef, undef, undef, undef, undef, undef, undef, undef, undef, undef, undef, undef, undef, undef, undef, undef, undef], defers := [] }) ?assign ?body ?done ?stop
  case assign =>
    intro l x W K hK
    gi_wp2
    simpa using hK
  case body =>
    rintro l pre x W ⟨hst, hsz, hpt, hsm, A, n, c, r, hl⟩ hpre
    have hn := hl.1
    rw [intV_len] at hn
    have hbd := tkN_bound S ho.r0 (pre.map Fin.val)
    rw [List.length_map] at hbd
    have ht1 := ho.t1
    have hsn := tkN_snoc S (pre.map Fin.val) x.val
    by_cases hx : S.r x.val = 0
    · have ha : tkN S ((pre ++ [x]).map Fin.val) = tkN S (pre.map Fin.val) := by
        rw [List.map_append, List.map_cons, List.map_nil, hsn, tkStep, if_pos hx]
      have hbx : (S.r x.val == 0) = true := by simp [hx]
      have HA := Lib.hid ha
      have HC : Hid (TkI p w W0.heap.size (tkN S (pre.map Fin.val)) W) := Lib.hid ⟨hst, hsz, hpt, hsm, A, n, c, r, hl⟩
      rw [hbx]
      clear ha hx hbx hsn
      gi_wp2
      refine ⟨KeepsOthers.refl _, fun _ _ => rfl, ?_⟩
      show TkI p w W0.heap.size (tkN S ((pre ++ [x]).map Fin.val)) _
      rw [HA.out]
      exact HC.out
    · have hbx : (S.r x.val == 0) = false := by simp [hx]
      have hx8 : (x.val : Int) < 8 := by have := x.isLt; omega
      have ha : tkN S ((pre ++ [x]).map Fin.val) = ({ (tkN S (pre.map Fin.val)).1 with r := up (tkN S (pre.map Fin.val)).1.r x.val ((tkN S (pre.map Fin.val)).1.r x.val - 1) }, if (tkN S (pre.map Fin.val)).1.r x.val - 1 = 0 then (tkN S (pre.map Fin.val)).2 ++ [(x.val : Int)] else (tkN S (pre.map Fin.val)).2) := by
        rw [List.map_append, List.map_cons, List.map_nil, hsn, tkStep, if_neg hx]
      have hbv := hbd.1 x.val
      have hb2 := hbd.2
      generalize hT : tkN S (pre.map Fin.val) = T at *
      obtain ⟨T, bk⟩ := T
      dsimp only at *
      obtain ⟨y, hy⟩ : ∃ y, y = T.r x.val := ⟨_, rfl⟩
      rw [← hy] at ha hbv
      have HC2 : Hid (T.mem[26 + x.val]? = some (.int .i64 y)) := Lib.hid (by rw [hy]; exact T.mem_r (by omega))
      have hms := T.mem_set_r (j := x.val) (by omega) (y - 1)
      have HC3 : Hid ((T.mem.set (26 + x.val) (.int .i64 (y - 1)))[26 + x.val]? = some (.int .i64 (y - 1))) := Lib.hid (by rw [hms, Sc.mem_r _ (by omega)]; show some (Value.int .i64 (up _ _ _ _)) = _; rw [up_at])
      have HMS := Lib.hid hms
      have HA := Lib.hid ha
      have HST := Lib.hid hst
      have HPT := Lib.hid hpt
      have HSM := Lib.hid hsm
      have HSZ := Lib.hid hsz
      have hn8 : n ≤ 8 := by omega
      have hy0 : -8 ≤ y := by omega
      have hy1 : y ≤ 1048576 := by omega
      have hwr : IntKind.i64.wrap (y - 1) = y - 1 := by rw [IntKind.wrap_i64]; omega
      rw [hbx]
      clear ha hx hbx hsn hbd hbv hb2 hms hst hpt hsm hsz hT hy
      gi_wp2
      refine wpIn_region_L Ext [10] (by kernel_rfl) (by kernel_rfl) (fun wd hbd hsz => ?_)
      have hbk := HSM.out.below hbd
      have q0 : ∀ W', Ext wd W' → W'.cell? ⟨p, 26 + x.val, none⟩ = some (.int .i64 y) := fun W' hW => (hbk.below hW).cell (26 + x.val) HC2.out
      have q1 : ∀ W', Ext wd W' → W'.cell? ⟨w.heap.size, 0, none⟩ = some (.pointer (some ⟨p, 0, none⟩)) := fun W' hW => ((HPT.out.below hbd).below hW).cell 0 rfl
      have f0 := hbk.free (26 + x.val)
      have c0 := hbk.cell (26 + x.val) HC2.out
      have HB2 := Lib.hid hbd
      have hk2 := hbk.set (26 + x.val) (.int .i64 (y - 1))
      have c1 := hk2.cell (26 + x.val) HC3.out
      have c2 := ((HPT.out.below hbd).far (p := ⟨p, 26 + x.val, none⟩) (by simp; omega) (.int .i64 (y - 1))).cell 0 rfl
      have HK := Lib.hid hk2
      clear hsz
      (refine takeL Ext.tr 0 (by simp only [List.getElem?_toArray, List.getElem?_cons_succ, List.getElem?_cons_zero]; rfl) (by kernel_rfl) (by kernel_rfl) (by kernel_rfl) (by kernel_rfl) (by exact fun _ _ _ h => h) (by first | (refine Or.inl ⟨by rfl, ?_⟩; intro W hW; go_simp; try with_reducible rfl) | exact Or.inr ⟨by rfl, rfl⟩) ?_; try simp only [Act.put, List.setIfInBounds_toArray, List.set_cons_zero, List.set_cons_succ])
      (refine takeL Ext.tr 1 (by simp only [List.getElem?_toArray, List.getElem?_cons_succ, List.getElem?_cons_zero]; rfl) (by kernel_rfl) (by kernel_rfl) (by kernel_rfl) (by kernel_rfl) (by exact fun _ _ _ h => h) (by first | (refine Or.inl ⟨by rfl, ?_⟩; intro W hW; go_simp; try with_reducible rfl) | exact Or.inr ⟨by rfl, rfl⟩) ?_; try simp only [Act.put, List.setIfInBounds_toArray, List.set_cons_zero, List.set_cons_succ])
      (refine takeL Ext.tr 2 (by simp only [List.getElem?_toArray, List.getElem?_cons_succ, List.getElem?_cons_zero]; rfl) (by kernel_rfl) (by kernel_rfl) (by kernel_rfl) (by kernel_rfl) (by exact fun _ _ _ h => h) (by first | (refine Or.inl ⟨by rfl, ?_⟩; intro W hW; go_simp; try with_reducible rfl) | exact Or.inr ⟨by rfl, rfl⟩) ?_; try simp only [Act.put, List.setIfInBounds_toArray, List.set_cons_zero, List.set_cons_succ])
      (refine takeL Ext.tr 7 (by simp only [List.getElem?_toArray, List.getElem?_cons_succ, List.getElem?_cons_zero]; rfl) (by kernel_rfl) (by kernel_rfl) (by kernel_rfl) (by kernel_rfl) (by exact fun _ _ _ h => h) (by first | (refine Or.inl ⟨by rfl, ?_⟩; intro W hW; go_simp; try with_reducible rfl) | exact Or.inr ⟨by rfl, rfl⟩) ?_; try simp only [Act.put, List.setIfInBounds_toArray, List.set_cons_zero, List.set_cons_succ])
      (refine takeL Ext.tr 3 (by simp only [List.getElem?_toArray, List.getElem?_cons_succ, List.getElem?_cons_zero]; rfl) (by kernel_rfl) (by kernel_rfl) (by kernel_rfl) (by kernel_rfl) (by exact fun _ _ _ h => h) (by first | (refine Or.inl ⟨by rfl, ?_⟩; intro W hW; go_simp; try with_reducible rfl) | exact Or.inr ⟨by rfl, rfl⟩) ?_; try simp only [Act.put, List.setIfInBounds_toArray, List.set_cons_zero, List.set_cons_succ])
      (refine takeL Ext.tr 8 (by simp only [List.getElem?_toArray, List.getElem?_cons_succ, List.getElem?_cons_zero]; rfl) (by kernel_rfl) (by kernel_rfl) (by kernel_rfl) (by kernel_rfl) (by exact fun _ _ _ h => h) (by first | (refine Or.inl ⟨by rfl, ?_⟩; intro W hW; go_simp; try with_reducible rfl) | exact Or.inr ⟨by rfl, rfl⟩) ?_; try simp only [Act.put, List.setIfInBounds_toArray, List.set_cons_zero, List.set_cons_succ])
      (refine takeL Ext.tr 4 (by simp only [List.getElem?_toArray, List.getElem?_cons_succ, List.getElem?_cons_zero]; rfl) (by kernel_rfl) (by kernel_rfl) (by kernel_rfl) (by kernel_rfl) (by exact fun _ _ _ h => h) (by first | (refine Or.inl ⟨by rfl, ?_⟩; intro W hW; go_simp; try with_reducible rfl) | exact Or.inr ⟨by rfl, rfl⟩) ?_; try simp only [Act.put, List.setIfInBounds_toArray, List.set_cons_zero, List.set_cons_succ])
      (refine takeL Ext.tr 5 (by simp only [List.getElem?_toArray, List.getElem?_cons_succ, List.getElem?_cons_zero]; rfl) (by kernel_rfl) (by kernel_rfl) (by kernel_rfl) (by kernel_rfl) (by exact fun _ _ _ h => h) (by first | (refine Or.inl ⟨by rfl, ?_⟩; intro W hW; go_simp; try with_reducible rfl) | exact Or.inr ⟨by rfl, rfl⟩) ?_; try simp only [Act.put, List.setIfInBounds_toArray, List.set_cons_zero, List.set_cons_succ])
      (refine takeL Ext.tr 6 (by simp only [List.getElem?_toArray, List.getElem?_cons_succ, List.getElem?_cons_zero]; rfl) (by kernel_rfl) (by kernel_rfl) (by kernel_rfl) (by kernel_rfl) (by exact fun _ _ _ h => h) (by first | (refine Or.inl ⟨by rfl, ?_⟩; intro W hW; go_simp; try with_reducible rfl) | exact Or.inr ⟨by rfl, rfl⟩) ?_; try simp only [Act.put, List.setIfInBounds_toArray, List.set_cons_zero, List.set_cons_succ])
      (refine takeL Ext.tr 9 (by simp only [List.getElem?_toArray, List.getElem?_cons_succ, List.getElem?_cons_zero]; rfl) (by kernel_rfl) (by kernel_rfl) (by kernel_rfl) (by kernel_rfl) (by exact fun _ _ _ h => h) (by first | (refine Or.inl ⟨by rfl, ?_⟩; intro W hW; go_simp; try with_reducible rfl) | exact Or.inr ⟨by rfl, rfl⟩) ?_; try simp only [Act.put, List.setIfInBounds_toArray, List.set_cons_zero, List.set_cons_succ])
      refine wpAnyL_one (i := 10) (by kernel_rfl) (by simp only [List.getElem?_toArray, List.getElem?_cons_succ, List.getElem?_cons_zero]; rfl) (fun K hK => ?_)
      go_simp
      refine hK.out _ _ (.inl (by decide)) ?_
      clear hK K
      try simp only [Act.put, List.setIfInBounds_toArray, List.set_cons_zero, List.set_cons_succ]
      refine noOutL_done (by kernel_rfl) ?_ _
      skip
      have HST2 : Hid (St (· = p) W (wd.setCell ⟨p, 26 + x.val, none⟩ (.int .i64 (y - 1)))) := Lib.hid ((St.ext HB2.out).trans (St.setCell (F := (· = p)) _ (a := ⟨p, 26 + x.val, none⟩) rfl _) (Gr.refl _ _))
      have hPT2 := (HPT.out.below HB2.out).far (p := ⟨p, 26 + x.val, none⟩) (by simp; omega) (.int .i64 (y - 1))
      have hr2 := (r.below HB2.out).far (p := ⟨p, 26 + x.val, none⟩) (by simp; omega) (.int .i64 (y - 1))
      have hl2 := (hl.below HB2.out).far (p := ⟨p, 26 + x.val, none⟩) (fun ad he => by have := (hl.blk ad he).1; have := hplt; simp; omega) (.int .i64 (y - 1))
      have hsz2 : W0.heap.size ≤ (wd.setCell ⟨p, 26 + x.val, none⟩ (.int .i64 (y - 1))).heap.size := Nat.le_trans HSZ.out HST2.out.size
      have hkp2 : KeepsOthers W (wd.setCell ⟨p, 26 + x.val, none⟩ (.int .i64 (y - 1))) := (keepsOthers_of HB2.out).trans (KeepsOthers.setCell _ _ _)
      have hkq : ∀ k, k = g1 ∨ k = g2 → (wd.setCell ⟨p, 26 + x.val, none⟩ (.int .i64 (y - 1))).heap[k]? = W.heap[k]? := fun k hk => HST2.out.block k (by have := HSZ.out; omega) (by omega)
      have HR := Lib.hid (And.intro hPT2 (And.intro hsz2 (And.intro hkp2 hkq)))
      have hk2 := HK.out
      rw [HMS.out] at hk2
      have HK2 := Lib.hid hk2
      clear hPT2 hsz2 hkp2 hkq hk2 c0 f0 q0 q1 hbk
      generalize hW2 : wd.setCell ⟨p, 26 + x.val, none⟩ (.int .i64 (y - 1)) = W2 at *
      clear hW2 HK
      have cl := hr2.cell 0 rfl
      have fl := hr2.free 0
      by_cases hy2 : y = 1
      · rw [if_pos (by omega)] at HA
        subst hy2
        have hla := (hl2.alloc (.cells #[.int .i64 x.val] 3)).tight
        have hu := RdV.one W2 3 (.int .i64 x.val) rfl
        have hvA : ¬ BlkOf A (w.heap.size + 1) := by
          rintro ⟨ad, he, hbk⟩
          have := (hl.blk ad he).1
          omega
        gi_wp2_with (first
                     | (refine wpListIn_build_one (x := .int .i64 x.val) eltI rfl (.tmp 29) rfl rfl rfl ?_)
                     | (gi_at_builtin
                        refine wpListIn_append_lst eltI rfl (.tmp 28) (.tmp 30) rfl rfl hla rfl hu (by omega) ?_
                        rintro v w2 hap
                        obtain ⟨A', n', c', rfl, hl'⟩ := hap.ex
                        have HAP := Lib.hid hap
                        have r2 := (hr2.alloc (.cells #[.int .i64 x.val] 3)).st hap.st hvA
                        have c3 := r2.cell 0 rfl
                        have f3 := r2.free 0
                        clear hap hl'))
        obtain ⟨hPT2, hsz2, hkp2, hkq⟩ := HR.out
        obtain ⟨k1, k2, k3, k4⟩ := Col.step0 hsz2 hr2 hl2 (by omega) _ HAP.out
        have hlt2 := HST2.out.size
        have hlt3 := HST.out.size
        refine ⟨hkp2.trans k1, fun k hk => (k2.block k (by omega) (by omega)).trans (hkq k hk), ?_⟩
        show TkI p w W0.heap.size (tkN S ((pre ++ [x]).map Fin.val)) _
        rw [HA.out]
        refine ⟨?_, Nat.le_trans hsz2 k2.size, hPT2.st k2 (by omega), HK2.out.st k2 (by omega), A', n', c', k3, ?_⟩
        · have h12 := HST.out.trans HST2.out (Gr.refl _ _)
          exact ⟨k2.os.trans h12.os, k2.tape.trans h12.tape, k2.output.trans h12.output, Nat.le_trans h12.size k2.size, fun k hk hn => (k2.block k (by have := h12.size; omega) (by omega)).trans (h12.block k hk hn)⟩
        · show Lst 3 _ _ A' n' c' (intV (bk ++ [(x.val : Int)]))
          rw [intV_snoc]
          exact k4
      · rw [if_neg (by omega)] at HA
        have hbz : (y - 1 == 0) = false := by simp; omega
        gi_wp2
        obtain ⟨hPT2, hsz2, hkp2, hkq⟩ := HR.out
        refine ⟨hkp2, hkq, ?_⟩
        show TkI p w W0.heap.size (tkN S ((pre ++ [x]).map Fin.val)) _
        rw [HA.out]
        exact ⟨HST.out.trans HST2.out (Gr.refl _ _), hsz2, hPT2, HK2.out, A, n, c, hr2, hl2⟩
  case done =>
    rintro D ys W hD rfl ⟨hst, hsz, hpt, hsm, A, n, c, r, hl⟩ hK
    rw [map_val_finRange, tkN_range S (fun j => (ho.r0 j).1)] at hsm hl
    have cl := r.cell 0 rfl
    gi_wp2
    refine ⟨by simp, .inl ⟨_, _, rfl, run_takeDeferred hK, ?_⟩⟩
    refine ⟨_, results_tmp rfl _ _ _, A, n, c, rfl, ?_, ?_, ?_⟩
    · refine (hl.mono (F' := (w.heap.size ≤ ·)) fun k hk => by omega).same fun ad he => ?_
      rw [World.putObj_heap_other]
      rintro rfl
      rcases hl.2.2.2.2 with ⟨rfl, _⟩ | ⟨g', o', cur, rfl, _, hh, _⟩
      · cases he
      · injection he with he
        subst he
        rw [hh] at hK
        cases hK
    · exact (World.putObj_heap_other (by omega)).trans hsm
    · refine ⟨hst.os, hst.tape, hst.output, by have := hst.size; simp [World.putObj]; omega, fun k hk hn => ?_⟩
      rw [World.putObj_heap_other (by omega)]
      exact hst.block k hk hn
  case stop =>
    rintro D c' pre W hD _ h _
    exact h.elim
end Go.Proofs.Ytjoagkekbeogoaa
