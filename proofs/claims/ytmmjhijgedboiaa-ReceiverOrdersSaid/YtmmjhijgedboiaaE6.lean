/- The pulls. -/
import Derived.Test.YtmmjhijgedboiaaE5
set_option linter.unusedSimpArgs false
set_option linter.unusedVariables false
set_option maxRecDepth 100000
namespace Go.Proofs.Ytmmjhijgedboiaa
open Go.RowKit Go.Shelf
section
variable {F FJ FP : Nat → Prop} {w w' : World} {e r pb g : Nat} {mb : Option Nat} {m m' : Rm} {jm : Jm}
theorem EnA.pb_ne (h : EnA F w e m pb mb g FJ FP jm) : pb ≠ e := by
  obtain ⟨_, mm, _, hb⟩ := h.bm
  have h1 := h.bk
  rintro rfl
  unfold Bk5 Bk at hb
  unfold Bk at h1
  rw [hb] at h1
  injection h1 with h1
  injection h1 with _ h2
  exact absurd h2 (by decide)
theorem EnA.mb_ne (h : EnA F w e m pb mb g FJ FP jm) : ∀ b, mb = some b → b ≠ e ∧ b ≠ pb := by
  rintro b hb
  obtain ⟨L, ⟨es, cl, h1, _⟩, _⟩ := h.mp b hb
  obtain ⟨_, mm, _, h2⟩ := h.bm
  have h3 := h.bk
  unfold Bk5 Bk at h2
  unfold Bk at h3
  constructor
  · rintro rfl; rw [h1] at h3; cases h3
  · rintro rfl; rw [h1] at h2; cases h2
/-- The end's line turned, nothing else. -/
theorem EnA.line (h : EnA F w e m pb mb g FJ FP jm) (hs : St (· = e) w w') (hk : Bk w' 89 e [.pointer (some ⟨pb, 0, none⟩), .int .i64 m'.sr, .int .i64 m'.ds, .int .i64 m'.cn, .int .i64 m'.cl, .int .i64 0, .int .i64 0, .int .i64 0, .int .i64 m'.pl, .int .i64 0, .int .i64 0, .int .i64 m'.ar, .int .i64 m'.pd, .bool false, .bool m'.dn, .int .i64 m'.pa, .map mb, .pointer (some ⟨g, 0, none⟩)]) (e1 : m'.bm = m.bm) (e2 : m'.ks = m.ks) (e3 : m'.dn = m.dn) (e4 : m'.jm = m.jm) : EnA F w' e m' pb mb g FJ FP jm :=
  ⟨hk, by rw [e1]; exact h.bm.st hs h.pb_ne, fun b hb => by rw [e2]; exact (h.mp b hb).st hs (h.mb_ne b hb).1 (fun k hk he => h.ep.1 (he ▸ hk)), h.jn.st hs (fun k hk he => h.ej.1 (he ▸ hk)), by rw [e3, e4]; exact h.jd, h.fe, h.fb, h.fm, h.fj, h.fp, fun k hk => Nat.lt_of_lt_of_le (h.lt k hk) hs.size, h.ej, h.ep⟩
def pulV (m : Rm) : Pv := ⟨⟨4, 0, (m.pl : Int).tmod m.pa, m.ds, m.sr, m.cn, 0, (m.pl : Int) + 1⟩, none, 0, 0, []⟩
def Rm.pull (m : Rm) : Rm := { m with pd := m.pd - 1, pl := m.pl + 1 }
set_option maxHeartbeats 8000000 in
theorem e_pull (h : EnC F w e m) (hm : m.Ok) (hp : 0 < m.pd) : Calls Try.prog 45 #[.pointer (some ⟨e, 0, none⟩)] w fun en w' => en = .returned (.agg #[.int .i64 ((pulV m)).h.kd, .int .i64 ((pulV m)).h.fl, .int .i64 ((pulV m)).h.pa, .int .i64 ((pulV m)).h.sr, .int .i64 ((pulV m)).h.ds, .int .i64 ((pulV m)).h.cn, .int .i64 ((pulV m)).h.sq, .int .i64 ((pulV m)).h.pu, .slice ((pulV m)).A ((pulV m)).n ((pulV m)).c]) ∧ EnC F w' e m.pull ∧ St (· = e) w w' := by
  have hpa := hm.pa1
  have hct := hm.ct
  have HBK := Lib.hid (fun (W : World) (hb : Below w.heap.size w W) (t : Int) => e_back (h.below hb) 4 t)
  obtain ⟨pb, mb, g, FJ, FP, jm, h⟩ := h
  have hb1 : Below w.heap.size w (w.alloc (.cells #[.int .i64 0, .int .i64 0, .int .i64 0, .int .i64 0, .int .i64 0, .int .i64 0, .int .i64 0, .int .i64 0, .slice none 0 0] 40)) := (Below.refl _ w).alloc (Nat.le_refl _) _
  have HX := Lib.hid h
  have HB := Lib.hid hb1
  have HZ := Lib.hid (Bk.new w 40 [.int .i64 0, .int .i64 0, .int .i64 0, .int .i64 0, .int .i64 0, .int .i64 0, .int .i64 0, .int .i64 0, .slice none 0 0])
  have hel := h.bk.lt
  have hpa0 : ¬ m.pa = 0 := by omega
  clear h hb1 hm
  go_enter Try.func45, Try.ntmps45
  go_wp2_with fail
  refine wp_region_E (Below w.heap.size) (by kernel_rfl) (fun wd hbd hsz => ?_)
  have HBD := Lib.hid (HB.out.trans (hbd.mono HB.out.size))
  have hsz1 := HBD.out.size
  have q1 : ∀ V, Below w.heap.size wd V → V.cell? ⟨e, 8, none⟩ = some (.int .i64 m.pl) := fun V hV => (HX.out.bk.keep (HBD.out.trans hV) hel).cell 8 rfl
  have q2 : ∀ V, Below w.heap.size wd V → V.cell? ⟨e, 15, none⟩ = some (.int .i64 m.pa) := fun V hV => (HX.out.bk.keep (HBD.out.trans hV) hel).cell 15 rfl
  have HZD := Lib.hid (HZ.out.below hbd)
  have hsz2 : w.heap.size < wd.heap.size := by have := hbd.size; simp at this; omega
  clear hsz
  (refine takeE (belowTr w.heap.size) 0 (by simp only [List.getElem?_toArray, List.getElem?_cons_succ, List.getElem?_cons_zero]; rfl) (by kernel_rfl) (by kernel_rfl) (by kernel_rfl) (by exact fun _ _ _ h => h) (by first | (refine Or.inl ⟨by rfl, ?_⟩; intro W hW; go_simp; try with_reducible rfl) | exact Or.inr ⟨by rfl, rfl⟩) ?_; try simp only [Act.put, List.setIfInBounds_toArray, List.set_cons_zero, List.set_cons_succ])
  (refine takeE (belowTr w.heap.size) 1 (by simp only [List.getElem?_toArray, List.getElem?_cons_succ, List.getElem?_cons_zero]; rfl) (by kernel_rfl) (by kernel_rfl) (by kernel_rfl) (by exact fun _ _ _ h => h) (by first | (refine Or.inl ⟨by rfl, ?_⟩; intro W hW; go_simp; try with_reducible rfl) | exact Or.inr ⟨by rfl, rfl⟩) ?_; try simp only [Act.put, List.setIfInBounds_toArray, List.set_cons_zero, List.set_cons_succ])
  (refine takeE (belowTr w.heap.size) 6 (by simp only [List.getElem?_toArray, List.getElem?_cons_succ, List.getElem?_cons_zero]; rfl) (by kernel_rfl) (by kernel_rfl) (by kernel_rfl) (by exact fun _ _ _ h => h) (by first | (refine Or.inl ⟨by rfl, ?_⟩; intro W hW; go_simp; try with_reducible rfl) | exact Or.inr ⟨by rfl, rfl⟩) ?_; try simp only [Act.put, List.setIfInBounds_toArray, List.set_cons_zero, List.set_cons_succ])
  (refine takeE (belowTr w.heap.size) 2 (by simp only [List.getElem?_toArray, List.getElem?_cons_succ, List.getElem?_cons_zero]; rfl) (by kernel_rfl) (by kernel_rfl) (by kernel_rfl) (by exact fun _ _ _ h => h) (by first | (refine Or.inl ⟨by rfl, ?_⟩; intro W hW; go_simp; try with_reducible rfl) | exact Or.inr ⟨by rfl, rfl⟩) ?_; try simp only [Act.put, List.setIfInBounds_toArray, List.set_cons_zero, List.set_cons_succ])
  (refine takeE (belowTr w.heap.size) 7 (by simp only [List.getElem?_toArray, List.getElem?_cons_succ, List.getElem?_cons_zero]; rfl) (by kernel_rfl) (by kernel_rfl) (by kernel_rfl) (by exact fun _ _ _ h => h) (by first | (refine Or.inl ⟨by rfl, ?_⟩; intro W hW; go_simp; try with_reducible rfl) | exact Or.inr ⟨by rfl, rfl⟩) ?_; try simp only [Act.put, List.setIfInBounds_toArray, List.set_cons_zero, List.set_cons_succ])
  (refine takeE (belowTr w.heap.size) 3 (by simp only [List.getElem?_toArray, List.getElem?_cons_succ, List.getElem?_cons_zero]; rfl) (by kernel_rfl) (by kernel_rfl) (by kernel_rfl) (by exact fun _ _ _ h => h) (by first | (refine Or.inl ⟨by rfl, ?_⟩; intro W hW; go_simp; try with_reducible rfl) | exact Or.inr ⟨by rfl, rfl⟩) ?_; try simp only [Act.put, List.setIfInBounds_toArray, List.set_cons_zero, List.set_cons_succ])
  (refine takeE (belowTr w.heap.size) 8 (by simp only [List.getElem?_toArray, List.getElem?_cons_succ, List.getElem?_cons_zero]; rfl) (by kernel_rfl) (by kernel_rfl) (by kernel_rfl) (by exact fun _ _ _ h => h) (by first | (refine Or.inl ⟨by rfl, ?_⟩; intro W hW; go_simp; try with_reducible rfl) | exact Or.inr ⟨by rfl, rfl⟩) ?_; try simp only [Act.put, List.setIfInBounds_toArray, List.set_cons_zero, List.set_cons_succ])
  (refine takeE (belowTr w.heap.size) 4 (by simp only [List.getElem?_toArray, List.getElem?_cons_succ, List.getElem?_cons_zero]; rfl) (by kernel_rfl) (by kernel_rfl) (by kernel_rfl) (by exact fun _ _ _ h => h) (by first | (refine Or.inl ⟨by rfl, ?_⟩; intro W hW; go_simp; try with_reducible rfl) | exact Or.inr ⟨by rfl, rfl⟩) ?_; try simp only [Act.put, List.setIfInBounds_toArray, List.set_cons_zero, List.set_cons_succ])
  (refine takeE (belowTr w.heap.size) 9 (by simp only [List.getElem?_toArray, List.getElem?_cons_succ, List.getElem?_cons_zero]; rfl) (by kernel_rfl) (by kernel_rfl) (by kernel_rfl) (by exact fun _ _ _ h => h) (by first | (refine Or.inl ⟨by rfl, ?_⟩; intro W hW; go_simp; try with_reducible rfl) | exact Or.inr ⟨by rfl, rfl⟩) ?_; try simp only [Act.put, List.setIfInBounds_toArray, List.set_cons_zero, List.set_cons_succ])
  (refine takeE (belowTr w.heap.size) 5 (by simp only [List.getElem?_toArray, List.getElem?_cons_succ, List.getElem?_cons_zero]; rfl) (by kernel_rfl) (by kernel_rfl) (by kernel_rfl) (by exact fun _ _ _ h => h) (by first | (refine Or.inl ⟨by rfl, ?_⟩; intro W hW; go_simp; try with_reducible rfl) | exact Or.inr ⟨by rfl, rfl⟩) ?_; try simp only [Act.put, List.setIfInBounds_toArray, List.set_cons_zero, List.set_cons_succ])
  (refine takeE (belowTr w.heap.size) 10 (by simp only [List.getElem?_toArray, List.getElem?_cons_succ, List.getElem?_cons_zero]; rfl) (by kernel_rfl) (by kernel_rfl) (by kernel_rfl) (by exact fun _ _ _ h => h) (by first | (refine Or.inl ⟨by rfl, ?_⟩; intro W hW; go_simp; try with_reducible rfl) | exact Or.inr ⟨by rfl, rfl⟩) ?_; try simp only [Act.put, List.setIfInBounds_toArray, List.set_cons_zero, List.set_cons_succ])
  refine wpAnyE_two (i := 11) (j := 12) (by kernel_rfl) (by simp only [List.getElem?_toArray, List.getElem?_cons_succ, List.getElem?_cons_zero]; rfl) (by simp only [List.getElem?_toArray, List.getElem?_cons_succ, List.getElem?_cons_zero]; rfl) (fun K hK => ?_) (fun K hK => ?_)
  ·
    go_simp
    refine (HBK.out wd HBD.out _).mono ?_
    rintro en w1 ⟨rfl, hb1⟩
    have HB1 := Lib.hid hb1
    clear hb1
    refine hK.out _ _ (HB1.out.mono hsz1) ?_
    clear hK K
    try simp only [Act.put, List.setIfInBounds_toArray, List.set_cons_zero, List.set_cons_succ]
    refine wpAnyE_one (i := 12) (by kernel_rfl) (by simp only [List.getElem?_toArray, List.getElem?_cons_succ, List.getElem?_cons_zero]; rfl) (fun K hK => ?_)
    go_simp
    skip
    refine hK.out _ _ ((Below.refl _ _).alloc (Nat.le_trans hsz1 HB1.out.size) _) ?_
    clear hK K
    try simp only [Act.put, List.setIfInBounds_toArray, List.set_cons_zero, List.set_cons_succ]
    refine wpAnyE_one (i := 13) (by kernel_rfl) (by simp only [List.getElem?_toArray, List.getElem?_cons_succ, List.getElem?_cons_zero]; rfl) (fun K hK => ?_)
    have z3 := Bk.new w1 40 [.int .i64 0, .int .i64 0, .int .i64 0, .int .i64 0, .int .i64 0, .int .i64 0, .int .i64 0, .int .i64 0, .slice none 0 0]
    refine opwp_store_bk rowP rfl (.tmp 3) (.tmp 15) rfl w1.heap.size 0 rfl z3 (bkV m 4 ((m.pl : Int).tmod m.pa)).cl rfl rfl (by decide) (Pv.cl_one _) ?_
    intro w4 z4 hw4
    rw [lay_all _ _ (by rfl)] at z4
    have hsz3 := HB1.out.size
    try simp only [World.size_alloc] at hsz3
    have hs4 : Below w.heap.size (w1.alloc (.cells #[.int .i64 0, .int .i64 0, .int .i64 0, .int .i64 0, .int .i64 0, .int .i64 0, .int .i64 0, .int .i64 0, .slice none 0 0] 40)) w4 := hw4.below (by omega) (by first | omega | (simp; omega))
    have HB4 := Lib.hid ((HBD.out.trans (HB1.out.mono hsz1)).trans (((Below.refl _ w1).alloc (Nat.le_trans hsz1 HB1.out.size) (.cells #[.int .i64 0, .int .i64 0, .int .i64 0, .int .i64 0, .int .i64 0, .int .i64 0, .int .i64 0, .int .i64 0, .slice none 0 0] 40)).trans hs4))
    have HX4 := Lib.hid (HX.out.below HB4.out)
    have HZ2 : Hid (Bk w4 40 w.heap.size [.int .i64 0, .int .i64 0, .int .i64 0, .int .i64 0, .int .i64 0, .int .i64 0, .int .i64 0, .int .i64 0, .slice none 0 0]) := Lib.hid (((HZD.out.below HB1.out).alloc _).wr hw4 (by omega))
    have HZ4 := Lib.hid z4
    have HG : Hid (w.heap.size < w1.heap.size) := Lib.hid (by omega)
    have HS4 := Lib.hid hs4
    clear z3 z4 hw4 hs4 hsz3
    refine hK.out _ _ HS4.out ?_
    clear hK K
    try simp only [Act.put, List.setIfInBounds_toArray, List.set_cons_zero, List.set_cons_succ]
    refine wpAnyE_done (by kernel_rfl) ?_ _
    clear q1 q2 HB1 HZ HB HBK hsz2 hsz1 HBD hbd HZD HS4
    generalize w1.heap.size = g3 at *
    have hge := HG.out
    have c8 := HX4.out.bk.cell 8 rfl
    have f8 := HX4.out.bk.free 8
    have c12 := HX4.out.bk.cell 12 rfl
    have f12 := HX4.out.bk.free 12
    have d7 := HZ4.out.cell 7 rfl
    have g7 := HZ4.out.free 7
    have hne : g3 ≠ e := by omega
    have hn2 : w.heap.size ≠ g3 := by omega
    have hn3 : w.heap.size ≠ e := by omega
    go_wp2_with (first
      | (with_reducible refine at_load 40 (.tmp 3) (by rfl) ?_
         refine wpList_load_bk rowP rfl (.tmp 3) rfl g3 0 rfl (((HZ4.out.far (p := ⟨e, 12, none⟩) hne _).far (p := ⟨e, 8, none⟩) hne _).set 7 _) (pulV m).cl rfl rfl ?_)
      | (with_reducible refine at_store 40 (.tmp 2) (.tmp 40) (by rfl) ?_
         refine wpList_put_pk rowP rfl (.tmp 2) (.tmp 40) rfl w.heap.size rfl (((HZ2.out.far (p := ⟨e, 12, none⟩) hn3 _).far (p := ⟨e, 8, none⟩) hn3 _).far (p := ⟨g3, 7, none⟩) hn2 _) rfl (pulV m) rfl ?_
         intro w9 z9 hw9))
    have bk6 := (HX4.out.bk.set 12 (.int .i64 ((m.pd : Int) - 1))).set 8 (.int .i64 ((m.pl : Int) + 1))
    rw [show (m.pd : Int) - 1 = ((m.pd - 1 : Nat) : Int) by omega] at bk6 hw9
    have s2 := (St.setCell (F := (· = e)) w4 (a := ⟨e, 12, none⟩) rfl (.int .i64 ((m.pd - 1 : Nat) : Int))).trans (St.setCell (F := (· = e)) _ (a := ⟨e, 8, none⟩) rfl (.int .i64 ((m.pl : Int) + 1))) (Gr.refl _ _)
    have h6 := HX4.out.line (m' := m.pull) s2 bk6 rfl rfl rfl rfl
    have hlF := fun k hk => HX.out.lt k hk
    have s3 := (St.setCell (F := (w.heap.size ≤ ·)) _ (a := ⟨g3, 7, none⟩) (by show w.heap.size ≤ g3; omega) (.int .i64 ((m.pl : Int) + 1))).trans (St.of_below (F := (w.heap.size ≤ ·)) (hw9.below (Nat.le_refl _) (by have := HB4.out.size; simpa using this)) (fun k _ hk => by omega)) (Gr.refl _ _)
    exact bodyPost_ret (results_cell rfl rfl (rowP.load z9 0 (cs := (pulV m).cl) rfl rfl)) rfl ⟨rfl, ⟨pb, mb, g, FJ, FP, jm, h6.st s3 (fun k hk hw => by have := hlF k hk; omega)⟩, ((St.ext (F := (· = e)) HB4.out).trans s2 (Gr.refl _ _)).trans s3 (fun k hk => .inr hk)⟩
  ·
    go_simp
    skip
    refine hK.out _ _ ((Below.refl _ _).alloc hsz1 _) ?_
    clear hK K
    try simp only [Act.put, List.setIfInBounds_toArray, List.set_cons_zero, List.set_cons_succ]
    refine wpAnyE_one (i := 11) (by kernel_rfl) (by simp only [List.getElem?_toArray, List.getElem?_cons_succ, List.getElem?_cons_zero]; rfl) (fun K hK => ?_)
    go_simp
    refine (HBK.out _ (HBD.out.alloc hsz1 _) _).mono ?_
    rintro en w1 ⟨rfl, hb1⟩
    have HB1 := Lib.hid hb1
    clear hb1
    refine hK.out _ _ (HB1.out.mono (by simp; omega)) ?_
    clear hK K
    try simp only [Act.put, List.setIfInBounds_toArray, List.set_cons_zero, List.set_cons_succ]
    refine wpAnyE_one (i := 13) (by kernel_rfl) (by simp only [List.getElem?_toArray, List.getElem?_cons_succ, List.getElem?_cons_zero]; rfl) (fun K hK => ?_)
    have z3 := (Bk.new wd 40 [.int .i64 0, .int .i64 0, .int .i64 0, .int .i64 0, .int .i64 0, .int .i64 0, .int .i64 0, .int .i64 0, .slice none 0 0]).below HB1.out
    refine opwp_store_bk rowP rfl (.tmp 3) (.tmp 15) rfl wd.heap.size 0 rfl z3 (bkV m 4 ((m.pl : Int).tmod m.pa)).cl rfl rfl (by decide) (Pv.cl_one _) ?_
    intro w4 z4 hw4
    rw [lay_all _ _ (by rfl)] at z4
    have hsz3 := HB1.out.size
    try simp only [World.size_alloc] at hsz3
    have hs4 : Below w.heap.size (w1) w4 := hw4.below (by omega) (by first | omega | (simp; omega))
    have HB4 := Lib.hid (((HBD.out.alloc hsz1 (.cells #[.int .i64 0, .int .i64 0, .int .i64 0, .int .i64 0, .int .i64 0, .int .i64 0, .int .i64 0, .int .i64 0, .slice none 0 0] 40)).trans (HB1.out.mono (by simp; omega))).trans hs4)
    have HX4 := Lib.hid (HX.out.below HB4.out)
    have HZ2 : Hid (Bk w4 40 w.heap.size [.int .i64 0, .int .i64 0, .int .i64 0, .int .i64 0, .int .i64 0, .int .i64 0, .int .i64 0, .int .i64 0, .slice none 0 0]) := Lib.hid (((HZD.out.alloc _).below HB1.out).wr hw4 (by omega))
    have HZ4 := Lib.hid z4
    have HG : Hid (w.heap.size < wd.heap.size) := Lib.hid (by omega)
    have HS4 := Lib.hid hs4
    clear z3 z4 hw4 hs4 hsz3
    refine hK.out _ _ HS4.out ?_
    clear hK K
    try simp only [Act.put, List.setIfInBounds_toArray, List.set_cons_zero, List.set_cons_succ]
    refine wpAnyE_done (by kernel_rfl) ?_ _
    clear q1 q2 HB1 HZ HB HBK hsz2 hsz1 HBD hbd HZD HS4
    generalize wd.heap.size = g3 at *
    have hge := HG.out
    have c8 := HX4.out.bk.cell 8 rfl
    have f8 := HX4.out.bk.free 8
    have c12 := HX4.out.bk.cell 12 rfl
    have f12 := HX4.out.bk.free 12
    have d7 := HZ4.out.cell 7 rfl
    have g7 := HZ4.out.free 7
    have hne : g3 ≠ e := by omega
    have hn2 : w.heap.size ≠ g3 := by omega
    have hn3 : w.heap.size ≠ e := by omega
    go_wp2_with (first
      | (with_reducible refine at_load 40 (.tmp 3) (by rfl) ?_
         refine wpList_load_bk rowP rfl (.tmp 3) rfl g3 0 rfl (((HZ4.out.far (p := ⟨e, 12, none⟩) hne _).far (p := ⟨e, 8, none⟩) hne _).set 7 _) (pulV m).cl rfl rfl ?_)
      | (with_reducible refine at_store 40 (.tmp 2) (.tmp 40) (by rfl) ?_
         refine wpList_put_pk rowP rfl (.tmp 2) (.tmp 40) rfl w.heap.size rfl (((HZ2.out.far (p := ⟨e, 12, none⟩) hn3 _).far (p := ⟨e, 8, none⟩) hn3 _).far (p := ⟨g3, 7, none⟩) hn2 _) rfl (pulV m) rfl ?_
         intro w9 z9 hw9))
    have bk6 := (HX4.out.bk.set 12 (.int .i64 ((m.pd : Int) - 1))).set 8 (.int .i64 ((m.pl : Int) + 1))
    rw [show (m.pd : Int) - 1 = ((m.pd - 1 : Nat) : Int) by omega] at bk6 hw9
    have s2 := (St.setCell (F := (· = e)) w4 (a := ⟨e, 12, none⟩) rfl (.int .i64 ((m.pd - 1 : Nat) : Int))).trans (St.setCell (F := (· = e)) _ (a := ⟨e, 8, none⟩) rfl (.int .i64 ((m.pl : Int) + 1))) (Gr.refl _ _)
    have h6 := HX4.out.line (m' := m.pull) s2 bk6 rfl rfl rfl rfl
    have hlF := fun k hk => HX.out.lt k hk
    have s3 := (St.setCell (F := (w.heap.size ≤ ·)) _ (a := ⟨g3, 7, none⟩) (by show w.heap.size ≤ g3; omega) (.int .i64 ((m.pl : Int) + 1))).trans (St.of_below (F := (w.heap.size ≤ ·)) (hw9.below (Nat.le_refl _) (by have := HB4.out.size; simpa using this)) (fun k _ hk => by omega)) (Gr.refl _ _)
    exact bodyPost_ret (results_cell rfl rfl (rowP.load z9 0 (cs := (pulV m).cl) rfl rfl)) rfl ⟨rfl, ⟨pb, mb, g, FJ, FP, jm, h6.st s3 (fun k hk hw => by have := hlF k hk; omega)⟩, ((St.ext (F := (· = e)) HB4.out).trans s2 (Gr.refl _ _)).trans s3 (fun k hk => .inr hk)⟩
end
end Go.Proofs.Ytmmjhijgedboiaa
