/- What a receiver answers; the pulls; how it stands. -/
import Derived.Test.YtmmjhijgedboiaaE4
import Derived.Test.YtmmjhijgedboiaaE3
set_option linter.unusedSimpArgs false
set_option linter.unusedVariables false
set_option maxRecDepth 100000
namespace Go.Proofs.Ytmmjhijgedboiaa
open Go.RowKit Go.Shelf
section
variable {F : Nat → Prop} {w w' : World} {e r : Nat} {m : Rm}
/-- A packet that goes back. -/
def bkV (m : Rm) (k pa : Int) : Pv := ⟨⟨k, 0, pa, m.ds, m.sr, m.cn, 0, 0⟩, none, 0, 0, []⟩
set_option maxHeartbeats 2000000 in
theorem e_back (h : EnC F w e m) (k pa : Int) : Calls Try.prog 56 #[.pointer (some ⟨e, 0, none⟩), .int .i64 k, .int .i64 pa] w fun en w' => en = .returned (.agg #[.int .i64 ((bkV m k pa)).h.kd, .int .i64 ((bkV m k pa)).h.fl, .int .i64 ((bkV m k pa)).h.pa, .int .i64 ((bkV m k pa)).h.sr, .int .i64 ((bkV m k pa)).h.ds, .int .i64 ((bkV m k pa)).h.cn, .int .i64 ((bkV m k pa)).h.sq, .int .i64 ((bkV m k pa)).h.pu, .slice ((bkV m k pa)).A ((bkV m k pa)).n ((bkV m k pa)).c]) ∧ Below w.heap.size w w' := by
  obtain ⟨pb, mb, g, FJ, FP, jm, h⟩ := h
  have hb1 : Below w.heap.size w (w.alloc (.cells #[.int .i64 0, .int .i64 0, .int .i64 0, .int .i64 0, .int .i64 0, .int .i64 0, .int .i64 0, .int .i64 0, .slice none 0 0] 40)) := (Below.refl _ w).alloc (Nat.le_refl _) _
  have HX := Lib.hid (h.bk.below hb1)
  have HEL := Lib.hid h.bk.lt
  have hz := Bk.new w 40 [.int .i64 0, .int .i64 0, .int .i64 0, .int .i64 0, .int .i64 0, .int .i64 0, .int .i64 0, .int .i64 0, .slice none 0 0]
  have HZ := Lib.hid hz
  have HB := Lib.hid hb1
  clear h hz hb1
  go_enter Try.func56, Try.ntmps56
  go_wp2_with fail
  refine wp_region_E (Below w.heap.size) (by kernel_rfl) (fun wd hbd hsz => ?_)
  have HBD := Lib.hid hbd
  have q1 : ∀ V, Below w.heap.size wd V → V.cell? ⟨e, 1, none⟩ = some (.int .i64 m.sr) := fun V hV => ((HX.out.below hbd).keep hV HEL.out).cell 1 rfl
  have q2 : ∀ V, Below w.heap.size wd V → V.cell? ⟨e, 2, none⟩ = some (.int .i64 m.ds) := fun V hV => ((HX.out.below hbd).keep hV HEL.out).cell 2 rfl
  have q3 : ∀ V, Below w.heap.size wd V → V.cell? ⟨e, 3, none⟩ = some (.int .i64 m.cn) := fun V hV => ((HX.out.below hbd).keep hV HEL.out).cell 3 rfl
  have hsz2 := hbd.size
  clear hsz
  (refine takeE (belowTr w.heap.size) 0 (by simp only [List.getElem?_toArray, List.getElem?_cons_succ, List.getElem?_cons_zero]; rfl) (by kernel_rfl) (by kernel_rfl) (by kernel_rfl) (by exact fun _ _ _ h => h) (by first | (refine Or.inl ⟨by rfl, ?_⟩; intro W hW; go_simp; try with_reducible rfl) | exact Or.inr ⟨by rfl, rfl⟩) ?_; try simp only [Act.put, List.setIfInBounds_toArray, List.set_cons_zero, List.set_cons_succ])
  (refine takeE (belowTr w.heap.size) 1 (by simp only [List.getElem?_toArray, List.getElem?_cons_succ, List.getElem?_cons_zero]; rfl) (by kernel_rfl) (by kernel_rfl) (by kernel_rfl) (by exact fun _ _ _ h => h) (by first | (refine Or.inl ⟨by rfl, ?_⟩; intro W hW; go_simp; try with_reducible rfl) | exact Or.inr ⟨by rfl, rfl⟩) ?_; try simp only [Act.put, List.setIfInBounds_toArray, List.set_cons_zero, List.set_cons_succ])
  (refine takeE (belowTr w.heap.size) 2 (by simp only [List.getElem?_toArray, List.getElem?_cons_succ, List.getElem?_cons_zero]; rfl) (by kernel_rfl) (by kernel_rfl) (by kernel_rfl) (by exact fun _ _ _ h => h) (by first | (refine Or.inl ⟨by rfl, ?_⟩; intro W hW; go_simp; try with_reducible rfl) | exact Or.inr ⟨by rfl, rfl⟩) ?_; try simp only [Act.put, List.setIfInBounds_toArray, List.set_cons_zero, List.set_cons_succ])
  (refine takeE (belowTr w.heap.size) 7 (by simp only [List.getElem?_toArray, List.getElem?_cons_succ, List.getElem?_cons_zero]; rfl) (by kernel_rfl) (by kernel_rfl) (by kernel_rfl) (by exact fun _ _ _ h => h) (by first | (refine Or.inl ⟨by rfl, ?_⟩; intro W hW; go_simp; try with_reducible rfl) | exact Or.inr ⟨by rfl, rfl⟩) ?_; try simp only [Act.put, List.setIfInBounds_toArray, List.set_cons_zero, List.set_cons_succ])
  (refine takeE (belowTr w.heap.size) 12 (by simp only [List.getElem?_toArray, List.getElem?_cons_succ, List.getElem?_cons_zero]; rfl) (by kernel_rfl) (by kernel_rfl) (by kernel_rfl) (by exact fun _ _ _ h => h) (by first | (refine Or.inl ⟨by rfl, ?_⟩; intro W hW; go_simp; try with_reducible rfl) | exact Or.inr ⟨by rfl, rfl⟩) ?_; try simp only [Act.put, List.setIfInBounds_toArray, List.set_cons_zero, List.set_cons_succ])
  (refine takeE (belowTr w.heap.size) 3 (by simp only [List.getElem?_toArray, List.getElem?_cons_succ, List.getElem?_cons_zero]; rfl) (by kernel_rfl) (by kernel_rfl) (by kernel_rfl) (by exact fun _ _ _ h => h) (by first | (refine Or.inl ⟨by rfl, ?_⟩; intro W hW; go_simp; try with_reducible rfl) | exact Or.inr ⟨by rfl, rfl⟩) ?_; try simp only [Act.put, List.setIfInBounds_toArray, List.set_cons_zero, List.set_cons_succ])
  (refine takeE (belowTr w.heap.size) 8 (by simp only [List.getElem?_toArray, List.getElem?_cons_succ, List.getElem?_cons_zero]; rfl) (by kernel_rfl) (by kernel_rfl) (by kernel_rfl) (by exact fun _ _ _ h => h) (by first | (refine Or.inl ⟨by rfl, ?_⟩; intro W hW; go_simp; try with_reducible rfl) | exact Or.inr ⟨by rfl, rfl⟩) ?_; try simp only [Act.put, List.setIfInBounds_toArray, List.set_cons_zero, List.set_cons_succ])
  (refine takeE (belowTr w.heap.size) 13 (by simp only [List.getElem?_toArray, List.getElem?_cons_succ, List.getElem?_cons_zero]; rfl) (by kernel_rfl) (by kernel_rfl) (by kernel_rfl) (by exact fun _ _ _ h => h) (by first | (refine Or.inl ⟨by rfl, ?_⟩; intro W hW; go_simp; try with_reducible rfl) | exact Or.inr ⟨by rfl, rfl⟩) ?_; try simp only [Act.put, List.setIfInBounds_toArray, List.set_cons_zero, List.set_cons_succ])
  (refine takeE (belowTr w.heap.size) 4 (by simp only [List.getElem?_toArray, List.getElem?_cons_succ, List.getElem?_cons_zero]; rfl) (by kernel_rfl) (by kernel_rfl) (by kernel_rfl) (by exact fun _ _ _ h => h) (by first | (refine Or.inl ⟨by rfl, ?_⟩; intro W hW; go_simp; try with_reducible rfl) | exact Or.inr ⟨by rfl, rfl⟩) ?_; try simp only [Act.put, List.setIfInBounds_toArray, List.set_cons_zero, List.set_cons_succ])
  (refine takeE (belowTr w.heap.size) 9 (by simp only [List.getElem?_toArray, List.getElem?_cons_succ, List.getElem?_cons_zero]; rfl) (by kernel_rfl) (by kernel_rfl) (by kernel_rfl) (by exact fun _ _ _ h => h) (by first | (refine Or.inl ⟨by rfl, ?_⟩; intro W hW; go_simp; try with_reducible rfl) | exact Or.inr ⟨by rfl, rfl⟩) ?_; try simp only [Act.put, List.setIfInBounds_toArray, List.set_cons_zero, List.set_cons_succ])
  (refine takeE (belowTr w.heap.size) 14 (by simp only [List.getElem?_toArray, List.getElem?_cons_succ, List.getElem?_cons_zero]; rfl) (by kernel_rfl) (by kernel_rfl) (by kernel_rfl) (by exact fun _ _ _ h => h) (by first | (refine Or.inl ⟨by rfl, ?_⟩; intro W hW; go_simp; try with_reducible rfl) | exact Or.inr ⟨by rfl, rfl⟩) ?_; try simp only [Act.put, List.setIfInBounds_toArray, List.set_cons_zero, List.set_cons_succ])
  (refine takeE (belowTr w.heap.size) 5 (by simp only [List.getElem?_toArray, List.getElem?_cons_succ, List.getElem?_cons_zero]; rfl) (by kernel_rfl) (by kernel_rfl) (by kernel_rfl) (by exact fun _ _ _ h => h) (by first | (refine Or.inl ⟨by rfl, ?_⟩; intro W hW; go_simp; try with_reducible rfl) | exact Or.inr ⟨by rfl, rfl⟩) ?_; try simp only [Act.put, List.setIfInBounds_toArray, List.set_cons_zero, List.set_cons_succ])
  (refine takeE (belowTr w.heap.size) 10 (by simp only [List.getElem?_toArray, List.getElem?_cons_succ, List.getElem?_cons_zero]; rfl) (by kernel_rfl) (by kernel_rfl) (by kernel_rfl) (by exact fun _ _ _ h => h) (by first | (refine Or.inl ⟨by rfl, ?_⟩; intro W hW; go_simp; try with_reducible rfl) | exact Or.inr ⟨by rfl, rfl⟩) ?_; try simp only [Act.put, List.setIfInBounds_toArray, List.set_cons_zero, List.set_cons_succ])
  (refine takeE (belowTr w.heap.size) 15 (by simp only [List.getElem?_toArray, List.getElem?_cons_succ, List.getElem?_cons_zero]; rfl) (by kernel_rfl) (by kernel_rfl) (by kernel_rfl) (by exact fun _ _ _ h => h) (by first | (refine Or.inl ⟨by rfl, ?_⟩; intro W hW; go_simp; try with_reducible rfl) | exact Or.inr ⟨by rfl, rfl⟩) ?_; try simp only [Act.put, List.setIfInBounds_toArray, List.set_cons_zero, List.set_cons_succ])
  (refine takeE (belowTr w.heap.size) 6 (by simp only [List.getElem?_toArray, List.getElem?_cons_succ, List.getElem?_cons_zero]; rfl) (by kernel_rfl) (by kernel_rfl) (by kernel_rfl) (by exact fun _ _ _ h => h) (by first | (refine Or.inl ⟨by rfl, ?_⟩; intro W hW; go_simp; try with_reducible rfl) | exact Or.inr ⟨by rfl, rfl⟩) ?_; try simp only [Act.put, List.setIfInBounds_toArray, List.set_cons_zero, List.set_cons_succ])
  (refine takeE (belowTr w.heap.size) 11 (by simp only [List.getElem?_toArray, List.getElem?_cons_succ, List.getElem?_cons_zero]; rfl) (by kernel_rfl) (by kernel_rfl) (by kernel_rfl) (by exact fun _ _ _ h => h) (by first | (refine Or.inl ⟨by rfl, ?_⟩; intro W hW; go_simp; try with_reducible rfl) | exact Or.inr ⟨by rfl, rfl⟩) ?_; try simp only [Act.put, List.setIfInBounds_toArray, List.set_cons_zero, List.set_cons_succ])
  (refine takeE (belowTr w.heap.size) 16 (by simp only [List.getElem?_toArray, List.getElem?_cons_succ, List.getElem?_cons_zero]; rfl) (by kernel_rfl) (by kernel_rfl) (by kernel_rfl) (by exact fun _ _ _ h => h) (by first | (refine Or.inl ⟨by rfl, ?_⟩; intro W hW; go_simp; try with_reducible rfl) | exact Or.inr ⟨by rfl, rfl⟩) ?_; try simp only [Act.put, List.setIfInBounds_toArray, List.set_cons_zero, List.set_cons_succ])
  (refine takeE (belowTr w.heap.size) 17 (by simp only [List.getElem?_toArray, List.getElem?_cons_succ, List.getElem?_cons_zero]; rfl) (by kernel_rfl) (by kernel_rfl) (by kernel_rfl) (by exact fun _ _ _ h => h) (by first | (refine Or.inl ⟨by rfl, ?_⟩; intro W hW; go_simp; try with_reducible rfl) | exact Or.inr ⟨by rfl, rfl⟩) ?_; try simp only [Act.put, List.setIfInBounds_toArray, List.set_cons_zero, List.set_cons_succ])
  refine wpAnyE_one (i := 18) (by kernel_rfl) (by simp only [List.getElem?_toArray, List.getElem?_cons_succ, List.getElem?_cons_zero]; rfl) (fun K hK => ?_)
  refine opwp_store_bk rowP rfl (.tmp 6) (.tmp 24) rfl w.heap.size 0 rfl (HZ.out.below hbd) (bkV m k pa).cl rfl rfl (by decide) (Pv.cl_one _) ?_
  intro w9 hz9 hw9
  rw [lay_all _ _ (by rfl)] at hz9
  have HZ9 := Lib.hid hz9
  have hb9 := hw9.below (Nat.le_refl _) (show w.heap.size ≤ wd.heap.size by simp at hsz2; omega)
  have HB9 := Lib.hid (HB.out.trans ((hbd.mono (by simp)).trans hb9))
  clear hz9
  refine hK.out _ _ hb9 ?_
  clear hK K
  try simp only [Act.put, List.setIfInBounds_toArray, List.set_cons_zero, List.set_cons_succ]
  refine wpAnyE_done (by kernel_rfl) ?_ _
  clear q1 q2 q3
  go_wp2
  exact bodyPost_ret (results_cell rfl rfl (rowP.load HZ9.out 0 (cs := (bkV m k pa).cl) rfl rfl)) rfl ⟨rfl, HB9.out⟩
def ansV (m : Rm) (k : Int) (p : Pk) : Pv := ⟨⟨k, 0, p.h.pa, m.ds, m.sr, m.cn, p.h.sq, 0⟩, none, 0, 0, []⟩
/-- A row of one packet that has no payload, just made. -/
theorem SlP.one {w0 : World} {q : Pv} (hw : w0.heap.size ≤ w.heap.size) (hq : q.A = none ∧ q.n = 0 ∧ q.c = 0 ∧ q.xs = []) (hf : q.h.fl ≤ 9223372036854775807) : SlP (· < w0.heap.size) (w.alloc (.cells q.cl.toArray 40)) (some ⟨w.heap.size, 0, none⟩) 1 1 [q.pk] := by
  refine ⟨[q], rfl, RdR.one w 40 q.cl (Pv.cl_one q), rfl, fun x hx => ?_, fun _ ad he => ?_⟩
  · rw [List.mem_singleton.1 hx]
    obtain ⟨h, A, n, c, xs⟩ := q
    obtain ⟨rfl, rfl, rfl, rfl⟩ := hq
    exact ⟨Rd.nil _ _, Nat.zero_le _, hf, fun h => absurd h (Nat.lt_irrefl 0)⟩
  · injection he with he
    subst he
    show ¬ w.heap.size < w0.heap.size
    omega
set_option maxHeartbeats 2000000 in
theorem e_answer (h : EnC F w e m) (k : Int) (q : Pv) : Calls Try.prog 36 #[.pointer (some ⟨e, 0, none⟩), .int .i64 k, .agg #[.int .i64 q.h.kd, .int .i64 q.h.fl, .int .i64 q.h.pa, .int .i64 q.h.sr, .int .i64 q.h.ds, .int .i64 q.h.cn, .int .i64 q.h.sq, .int .i64 q.h.pu, .slice q.A q.n q.c]] w fun en w' => ∃ A c, en = .returned (.slice A 1 c) ∧ SlP (· < w.heap.size) w' A 1 c [(ansV m k q.pk).pk] ∧ Below w.heap.size w w' := by
  have hb1 : Below w.heap.size w (w.alloc (.cells #[.int .i64 q.h.kd, .int .i64 q.h.fl, .int .i64 q.h.pa, .int .i64 q.h.sr, .int .i64 q.h.ds, .int .i64 q.h.cn, .int .i64 q.h.sq, .int .i64 q.h.pu, .slice q.A q.n q.c] 40)) := (Below.refl _ w).alloc (Nat.le_refl _) _
  have HE := Lib.hid (e_back (h.below hb1) k q.h.pa)
  have HB := Lib.hid hb1
  have HZ := Lib.hid (Bk.new w 40 q.cl)
  clear hb1 h
  go_enter Try.func36, Try.ntmps36
  go_wp2_with fail
  refine HE.out.mono ?_
  rintro en w1 ⟨rfl, hb2⟩
  have hb := HB.out.trans (hb2.mono HB.out.size)
  have z1 := (HZ.out.below hb2).alloc (.cells #[.int .i64 0, .int .i64 0, .int .i64 0, .int .i64 0, .int .i64 0, .int .i64 0, .int .i64 0, .int .i64 0, .slice none 0 0] 40)
  have z2 := Bk.new w1 40 [.int .i64 0, .int .i64 0, .int .i64 0, .int .i64 0, .int .i64 0, .int .i64 0, .int .i64 0, .int .i64 0, .slice none 0 0]
  have hlt := (HZ.out.below hb2).lt
  have HB1 := Lib.hid hb
  clear HE HB HZ hb hb2
  go_wp2_with (first
    | (with_reducible refine at_store 40 (.tmp 7) (.tmp 12) (by rfl) ?_
       refine wpList_put_pk rowP rfl (.tmp 7) (.tmp 12) rfl w1.heap.size rfl z2 rfl (bkV m k q.h.pa) rfl ?_
       intro w2 z3 hw2
       have z4 := z1.wr hw2 (by omega)
       have c6 := z4.cell 6 rfl
       have f6 := z3.free 6
       have g6 := z3.cell 6 rfl
       have HB2 := Lib.hid (HB1.out.trans ((((Below.refl _ w1).alloc (Nat.le_refl _) (.cells #[.int .i64 0, .int .i64 0, .int .i64 0, .int .i64 0, .int .i64 0, .int .i64 0, .int .i64 0, .int .i64 0, .slice none 0 0] 40)).trans (hw2.below (Nat.le_refl _) (by simp))).mono HB1.out.size))
       clear hw2 z4)
    | (with_reducible refine at_load 40 (.tmp 7) (by rfl) ?_
       refine wpList_load_bk rowP rfl (.tmp 7) rfl w1.heap.size 0 rfl (z3.set 6 _) (ansV m k q.pk).cl rfl rfl ?_)
    | (refine wpList_build_row eltP rfl (.tmp 16) rfl (xs := (ansV m k q.pk).cl) rfl rfl ?_))
  go_ret
  have hs := SlP.one (w0 := w) (w := w2.setCell ⟨w1.heap.size, 6, none⟩ (.int .i64 q.h.sq)) (q := ansV m k q.pk) (by have := HB2.out.size; simpa using this) ⟨rfl, rfl, rfl, rfl⟩ (by show (0 : Int) ≤ _; decide)
  rw [show (w2.setCell ⟨w1.heap.size, 6, none⟩ (.int .i64 q.h.sq)).heap.size = w2.heap.size by simp] at hs
  refine ⟨_, _, rfl, hs, ?_⟩
  exact (HB2.out.setCell (by show w.heap.size ≤ w1.heap.size; omega) _).alloc (by simpa using HB2.out.size) _
set_option maxHeartbeats 2000000 in
theorem v_line (h : RcA F w r e m) : Calls Try.prog 18 #[.pointer (some ⟨r, 0, none⟩)] w fun en w' => en = .returned (.agg #[.int .i64 m.sr, .int .i64 m.ds, .int .i64 m.cn, .int .i64 m.cl, .int .i64 m.base, .int .i64 0, .int .i64 0, .int .i64 m.pl, .int .i64 0, .int .i64 0, .int .i64 m.ar, .int .i64 m.pd, .bool false, .bool m.dn]) ∧ Below w.heap.size w w' := by
  have hb1 : Below w.heap.size w (w.alloc (.cells #[.int .i64 0, .int .i64 0, .int .i64 0, .int .i64 0, .int .i64 0, .int .i64 0, .int .i64 0, .int .i64 0, .int .i64 0, .int .i64 0, .int .i64 0, .int .i64 0, .bool false, .bool false] 58)) := (Below.refl _ w).alloc (Nat.le_refl _) _
  have hb2 : Below w.heap.size w ((w.alloc (.cells #[.int .i64 0, .int .i64 0, .int .i64 0, .int .i64 0, .int .i64 0, .int .i64 0, .int .i64 0, .int .i64 0, .int .i64 0, .int .i64 0, .int .i64 0, .int .i64 0, .bool false, .bool false] 58)).alloc (.cells #[.int .i64 m.sr, .int .i64 m.ds, .int .i64 m.cn, .int .i64 m.cl, .int .i64 0, .int .i64 0, .int .i64 0, .int .i64 m.pl, .int .i64 0, .int .i64 0, .int .i64 m.ar, .int .i64 m.pd, .bool false, .bool m.dn] 58)) := hb1.alloc hb1.size _
  have HM := Lib.hid (v_made (h.below hb1))
  have c0 := h.bk.cell 0 rfl
  obtain ⟨pb, mb, g, FJ, FP, jm, hx⟩ := h.en
  have ce0 := hx.bk.cell 0 rfl
  have HX1 := Lib.hid (hx.below hb1)
  have HS := Lib.hid (b_base (hx.bm.below hb2))
  have hel := hx.bk.lt
  have hrl := h.bk.lt
  have hpl := hx.bm.lt
  clear h hx hb1 hb2
  go_enter Try.func18, Try.ntmps18
  go_wp2_with (first
    | (go_at_call 33; refine HM.out.mono ?_; rintro en w1 ⟨rfl, rfl⟩)
    | (with_reducible refine at_load 58 (.tmp 13) (by rfl) ?_
       refine wpList_load_bk rowLn rfl (.tmp 13) rfl e 1 rfl HX1.out.bk [.int .i64 m.sr, .int .i64 m.ds, .int .i64 m.cn, .int .i64 m.cl, .int .i64 0, .int .i64 0, .int .i64 0, .int .i64 m.pl, .int .i64 0, .int .i64 0, .int .i64 m.ar, .int .i64 m.pd, .bool false, .bool m.dn] rfl rfl ?_)
    | (go_at_call 47; refine HS.out.mono ?_; rintro en w4 ⟨rfl, rfl⟩))
  exact bodyPost_ret (results_cell rfl rfl (rowLn.load ((Bk.new w 58 [.int .i64 m.sr, .int .i64 m.ds, .int .i64 m.cn, .int .i64 m.cl, .int .i64 m.base, .int .i64 0, .int .i64 0, .int .i64 m.pl, .int .i64 0, .int .i64 0, .int .i64 m.ar, .int .i64 m.pd, .bool false, .bool m.dn]).alloc _) 0 (cs := [.int .i64 m.sr, .int .i64 m.ds, .int .i64 m.cn, .int .i64 m.cl, .int .i64 m.base, .int .i64 0, .int .i64 0, .int .i64 m.pl, .int .i64 0, .int .i64 0, .int .i64 m.ar, .int .i64 m.pd, .bool false, .bool m.dn]) rfl rfl)) rfl ⟨rfl, ((Below.refl _ _).alloc (Nat.le_refl _) _).alloc (by simp) _⟩
theorem fld_pd (m : Rm) (W : World) : (Instr.field 58 (.agg #[.int .i64 m.sr, .int .i64 m.ds, .int .i64 m.cn, .int .i64 m.cl, .int .i64 m.base, .int .i64 0, .int .i64 0, .int .i64 m.pl, .int .i64 0, .int .i64 0, .int .i64 m.ar, .int .i64 m.pd, .bool false, .bool m.dn]) 11).run Try.prog W = .ok (.int .i64 m.pd) W := rfl
theorem fld_dn (m : Rm) (W : World) : (Instr.field 58 (.agg #[.int .i64 m.sr, .int .i64 m.ds, .int .i64 m.cn, .int .i64 m.cl, .int .i64 m.base, .int .i64 0, .int .i64 0, .int .i64 m.pl, .int .i64 0, .int .i64 0, .int .i64 m.ar, .int .i64 m.pd, .bool false, .bool m.dn]) 13).run Try.prog W = .ok (.bool m.dn) W := rfl
theorem v_pending (h : RcA F w r e m) : Calls Try.prog 20 #[.pointer (some ⟨r, 0, none⟩)] w fun en w' => en = .returned (.int .i64 m.pd) ∧ Below w.heap.size w w' := by
  have HL := Lib.hid (v_line h)
  clear h
  go_enter Try.func20, Try.ntmps20
  go_wp2_with fail
  refine HL.out.mono ?_
  rintro en w1 ⟨rfl, hb⟩
  have hf := fld_pd m w1
  go_wp2
  go_ret
  exact ⟨rfl, hb⟩
theorem v_done (h : RcA F w r e m) : Calls Try.prog 21 #[.pointer (some ⟨r, 0, none⟩)] w fun en w' => en = .returned (.bool m.dn) ∧ Below w.heap.size w w' := by
  have HL := Lib.hid (v_line h)
  clear h
  go_enter Try.func21, Try.ntmps21
  go_wp2_with fail
  refine HL.out.mono ?_
  rintro en w1 ⟨rfl, hb⟩
  have hf := fld_dn m w1
  go_wp2
  go_ret
  exact ⟨rfl, hb⟩
end
end Go.Proofs.Ytmmjhijgedboiaa
