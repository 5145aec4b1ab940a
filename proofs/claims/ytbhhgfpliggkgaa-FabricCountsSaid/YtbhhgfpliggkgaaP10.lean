/- Ports: the next packet is served. -/
import Derived.Test.YtbhhgfpliggkgaaP9
set_option linter.unusedSimpArgs false
set_option linter.unusedVariables false
set_option maxRecDepth 100000
namespace Go.Proofs.Ytbhhgfpliggkgaa
open Go.RowKit Go.Shelf

/-- A port whose packet x of a queue was served, by a fate. -/
def AM.took (m : AM) (hi : Bool) (r : List Pk) : AM := { m.put hi r with run := m.nrun hi }
def AM.srv (m : AM) (f : Int) (hi : Bool) (x : Pk) (r : List Pk) : AM :=
  let m2 := if f = 3 ∨ f = 4 then (m.took hi r).put hi (r ++ [x]) else m.took hi r
  if f = 1 ∨ f = 4 then { m2 with ct := up m.ct 0 (m.ct 0 + 1) } else m2
section
variable {F X : Nat → Prop} {w w' : World} {b : Nat} {m : AM} {pl ph : Nat} {Fl Fh : Nat → Prop} {ql qh : List Pv}
theorem AM.nrun_put (m : AM) (hi : Bool) (r : List Pk) : (m.put hi r).nrun hi = m.nrun hi := by
  cases hi <;> rfl
theorem sel_took {m : AM} {hi : Bool} {r : List Pk} : (m.took hi r).sel hi = r := by cases hi <;> rfl
theorem AM.nrun_le {m : AM} {hi : Bool} (hr : m.run ≤ m.wt) (hw : 1 ≤ m.wt) (hn : m.hiB = hi) : m.nrun hi ≤ m.wt := by
  unfold AM.nrun
  split
  · rename_i h
    simp only [Bool.and_eq_true, decide_eq_true_eq] at h
    rw [← hn] at h
    unfold AM.hiB at h
    simp only [Bool.and_eq_true, Bool.or_eq_true, decide_eq_true_eq, beq_iff_eq] at h
    omega
  · omega
/-- The run is counted. -/
theorem pt_count (h : PbC F X w b m pl ph Fl Fh ql qh) (hi : Bool) (hr : m.nrun hi ≤ m.wt) :
    Calls Try.prog 52 #[.pointer (some ⟨b, 0, none⟩), .pointer (some ⟨ptr pl ph hi, 0, none⟩)] w fun e w' => e = .returned (.tuple #[]) ∧ PbC F X w' b { m with run := m.nrun hi } pl ph Fl Fh ql qh ∧ St F w w' := by
  refine (pt_countRun h hi hr).mono ?_
  rintro e w' ⟨rfl, w1, hb, rfl⟩
  obtain ⟨h1, h2⟩ := (h.below hb).cell 3 (.int .i64 (m.nrun hi)) hr (ct := m.ct) rfl
  exact ⟨rfl, h1, (St.ext hb).trans h2 (Gr.refl _ _)⟩
/-- What Serve leaves. -/
def ServeTo (F X : Nat → Prop) (w : World) (b : Nat) (pl ph : Nat) (m' : AM) (l : List Pk) (err : Int) (e : Ending) (w' : World) : Prop :=
  ∃ A n c qs, e = .returned (.tuple #[.slice A n c, .int .i64 err]) ∧ n = qs.length ∧ RdR 9 w' A n c (flat Pv.cl qs) ∧ qs.map Pv.pk = l ∧ ∃ F' Fl' Fh' ql' qh', PbC F' X w' b m' pl ph Fl' Fh' ql' qh' ∧ St F w w' ∧ Gr F F' w.heap.size ∧ ∀ q ∈ qs, PvR (fun k => F' k ∨ X k) w' q
theorem ServeTo.nil (h : PbC F X w b m pl ph Fl Fh ql qh) (hb : Below w.heap.size w w') (err : Int) : ServeTo F X w b pl ph m [] err (.returned (.tuple #[.slice none 0 0, .int .i64 err])) w' :=
  ⟨Option.none, 0, 0, [], rfl, rfl, RdR.nil _ _, rfl, F, Fl, Fh, ql, qh, h.below hb, St.ext hb, Gr.refl _ _, by simp⟩
theorem ServeTo.one {m' : AM} {x : Pk} {W : World} {B : Nat} {F' Fl' Fh' : Nat → Prop} {ql' qh' : List Pv} {q : Pv} {e : Ending} (hp : PbC F' X W b m' pl ph Fl' Fh' ql' qh') (hs : St F w W) (hg : Gr F F' w.heap.size) (hr : PvR (fun k => F' k ∨ X k) W q)
    (hk : q.pk = x) (hB : B = W.heap.size) (he : e = .returned (.tuple #[.slice (some ⟨B, 0, none⟩) 1 1, .int .i64 0])) {m1 : AM} (hm : m1 = m') : ServeTo F X w b pl ph m1 [x] 0 e (W.alloc (.cells (List.toArray [.int .i64 q.h.kd, .int .i64 q.h.fl, .int .i64 q.h.pa, .int .i64 q.h.sr, .int .i64 q.h.ds, .int .i64 q.h.cn, .int .i64 q.h.sq, .int .i64 q.h.pu, .slice q.A q.n q.c]) 65)) := by
  subst hB hm
  have hb : Below W.heap.size W (W.alloc (.cells (List.toArray [.int .i64 q.h.kd, .int .i64 q.h.fl, .int .i64 q.h.pa, .int .i64 q.h.sr, .int .i64 q.h.ds, .int .i64 q.h.cn, .int .i64 q.h.sq, .int .i64 q.h.pu, .slice q.A q.n q.c]) 65)) := (Below.refl _ _).alloc (Nat.le_refl _) _
  exact ⟨_, 1, 1, [q], he, rfl, by rw [flat_one]; exact RdR.one W 65 q.cl q.cl_one, by rw [← hk]; rfl, F', Fl', Fh', ql', qh', hp.below hb, hs.trans (St.ext hb) hg, hg, fun r hr' => by rw [List.mem_singleton.1 hr']; exact hr.below hb⟩
theorem ServeTo.zero {m' : AM} {W : World} {F' Fl' Fh' : Nat → Prop} {ql' qh' : List Pv} {e : Ending} (hp : PbC F' X W b m' pl ph Fl' Fh' ql' qh') (hs : St F w W) (hg : Gr F F' w.heap.size)
    (he : e = .returned (.tuple #[.slice Option.none 0 0, .int .i64 0])) {m1 : AM} (hm : m1 = m') : ServeTo F X w b pl ph m1 [] 0 e W := by
  subst hm
  exact ⟨Option.none, 0, 0, [], he, rfl, RdR.nil _ _, rfl, F', Fl', Fh', ql', qh', hp, hs, hg, by simp⟩
theorem pt_serve_bad (h : PbC F X w b m pl ph Fl Fh ql qh) (f : Int) (hf : f < 1 ∨ 4 < f) :
    Calls Try.prog 35 #[.pointer (some ⟨b, 0, none⟩), .int .i64 f] w (ServeTo F X w b pl ph m [] 80) := by
  have HM := Lib.hid (pt_made h)
  have HH := Lib.hid h
  clear h
  rcases (by omega : f < 1 ∨ (1 ≤ f ∧ 4 < f)) with h1 | ⟨h1, h2⟩
  all_goals
    clear hf
    go_enter Try.func35, Try.ntmps35
    go_wp2_with (go_at_call 49; refine HM.out.mono ?_; rintro e w' ⟨rfl, rfl⟩)
    go_ret2
    exact ServeTo.nil HH.out (Below.refl _ _) 80
theorem pt_serve_none (h : PbC F X w b m pl ph Fl Fh ql qh) (f : Int) (hf1 : 1 ≤ f) (hf2 : f ≤ 4) (hx : m.sel m.hiB = []) :
    Calls Try.prog 35 #[.pointer (some ⟨b, 0, none⟩), .int .i64 f] w (ServeTo F X w b pl ph m [] 7) := by
  have HM := Lib.hid (pt_made h)
  have HN := Lib.hid (pt_next h)
  have HP : Hid (∀ w1, Below w.heap.size w w1 → Calls Try.prog 51 #[.pointer (some ⟨ptr pl ph m.hiB, 0, none⟩)] w1 fun e w' => e = .returned (.tuple #[.agg #[.int .i64 0, .int .i64 0, .int .i64 0, .int .i64 0, .int .i64 0, .int .i64 0, .int .i64 0, .int .i64 0, .slice none 0 0], .bool false]) ∧ Below w1.heap.size w1 w') := Lib.hid fun w1 hb => pt_pop_none (h.below hb) m.hiB hx
  have HH := Lib.hid h
  clear h hx
  generalize ptr pl ph m.hiB = pn at *
  go_enter Try.func35, Try.ntmps35
  go_wp2_with (first
    | (go_at_call 49; refine HM.out.mono ?_; rintro e w' ⟨rfl, rfl⟩)
    | (go_at_call 50; refine HN.out.mono ?_; rintro e w1 ⟨rfl, hb1⟩)
    | (go_at_call 51; refine (HP.out _ hb1).mono ?_; rintro e w2 ⟨rfl, hb2⟩))
  go_ret2
  exact ServeTo.nil HH.out ((below_on hb1 hb2).alloc (below_on hb1 hb2).size _) 7
set_option maxHeartbeats 4000000 in
set_option maxRecDepth 100000 in
theorem pt_serve1 (h : PbC F X w b m pl ph Fl Fh ql qh) (hct : ∀ k, -1 ≤ m.ct k ∧ m.ct k ≤ 1000000) (x : Pk) (r : List Pk) (hx : m.sel m.hiB = x :: r) :
    Calls Try.prog 35 #[.pointer (some ⟨b, 0, none⟩), .int .i64 1] w (ServeTo F X w b pl ph (m.srv 1 m.hiB x r) [x] 0) := by
  have HN := Lib.hid (pt_next h)
  have HM := Lib.hid (pt_made h)
  have HP : Hid (∀ w1, Below w.heap.size w w1 → Calls Try.prog 51 #[.pointer (some ⟨ptr pl ph m.hiB, 0, none⟩)] w1 _) := Lib.hid fun w1 hb => pt_pop (h.below hb) m.hiB x r hx
  have hnr : (m.put m.hiB r).nrun m.hiB ≤ (m.put m.hiB r).wt := by
    rw [AM.nrun_put]
    have := AM.nrun_le h.ru h.w1 rfl
    exact this
  have HNR := Lib.hid hnr
  have hroom : r.length + 1 ≤ m.room m.hiB := by
    have := (h.qs m.hiB).le
    rw [← List.length_map (f := Pv.pk), h.qk, hx] at this
    simpa using this
  have HRoom := Lib.hid hroom
  have HCT := Lib.hid hct
  clear h hct hnr hroom hx
  generalize m.hiB = hi at *
  go_enter Try.func35, Try.ntmps35
  go_wp2_with (first
    | (go_at_call 49; refine HM.out.mono ?_; rintro e w' ⟨rfl, rfl⟩)
    | (go_at_call 50; refine HN.out.mono ?_; rintro e w1 ⟨rfl, hb1⟩)
    | (go_at_call 51; refine (HP.out _ hb1).mono ?_; rintro e w2 ⟨q, F1, Fl1, Fh1, ql1, qh1, rfl, hqx, hp2, hs2, hg2, hr2⟩
       have hz := Bk.new w2 65 [.int .i64 q.h.kd, .int .i64 q.h.fl, .int .i64 q.h.pa, .int .i64 q.h.sr, .int .i64 q.h.ds, .int .i64 q.h.cn, .int .i64 q.h.sq, .int .i64 q.h.pu, .slice q.A q.n q.c]
       have HCo := Lib.hid (pt_count (hp2.below ((Below.refl _ _).alloc (Nat.le_refl _) (.cells (List.toArray [.int .i64 q.h.kd, .int .i64 q.h.fl, .int .i64 q.h.pa, .int .i64 q.h.sr, .int .i64 q.h.ds, .int .i64 q.h.cn, .int .i64 q.h.sq, .int .i64 q.h.pu, .slice q.A q.n q.c]) 65))) hi HNR.out)
       have HQX := Lib.hid hqx
       clear hqx HP HN)
    | (go_at_call 52; refine HCo.out.mono ?_; rintro e w3 ⟨rfl, hp3, hs3⟩
       replace hp3 : PbC F1 X w3 b (m.took hi r) pl ph Fl1 Fh1 ql1 qh1 := by rw [AM.nrun_put] at hp3; exact hp3
       have hnb : ¬ F1 w2.heap.size := fun hf => by have := hp2.bd _ hf; omega
       have hz3 := hz.st hs3 hnb
       have hr3 := (hr2.below ((Below.refl _ _).alloc (Nat.le_refl _) (.cells (List.toArray [.int .i64 q.h.kd, .int .i64 q.h.fl, .int .i64 q.h.pa, .int .i64 q.h.sr, .int .i64 q.h.ds, .int .i64 q.h.cn, .int .i64 q.h.sq, .int .i64 q.h.pu, .slice q.A q.n q.c]) 65))).st (hs3.mono fun k _ hk => .inl hk) (Gr.refl _ _)
       have HS3 : Hid (St F w w3) := Lib.hid (((St.ext hb1).trans hs2 (Gr.refl _ _)).trans ((St.alloc F1 _ _).trans hs3 (Gr.refl _ _)) ((Gr.refl F _).trans hg2 hb1.size))
       have HG1 : Hid (Gr F F1 w.heap.size) := Lib.hid ((Gr.refl F _).trans hg2 hb1.size)
       clear HCo hs3 hs2 hg2 hr2 hp2 hz))
  have HPt := Lib.hid hp3
  have HZt := Lib.hid hz3
  have HRt := Lib.hid hr3
  have HSt := HS3
  have HGt := HG1
  have hnbt := hnb
  clear hp3 hz3 hr3
  refine wp_region_L Ext [9] (by kernel_rfl) (fun wd hbd hsz => ?_)
  have hp4 := HPt.out.below hbd
  have hz4 := HZt.out.below hbd
  have hr4 := HRt.out.below hbd
  have hw : IntKind.i64.wrap (m.ct 0 + 1) = m.ct 0 + 1 := by have := HCT.out 0; rw [IntKind.wrap_i64]; omega
  have q0 : ∀ W, Ext wd W → W.cell? ⟨b, 4, none⟩ = some (.int .i64 (m.ct 0)) := fun W hW => (hp4.bk.below hW).cell 4 rfl
  have f0 := hp4.bk.free 4
  have c0 := hp4.bk.cell 4 rfl
  obtain ⟨hp5, hs5⟩ := hp4.cell 4 (.int .i64 (m.ct 0 + 1)) hp4.ru (ct := up m.ct 0 (m.ct 0 + 1)) rfl
  have hz5 := hz4.st hs5 hnbt
  have hr5 := hr4.st (hs5.mono fun k _ hk => .inl hk) (Gr.refl _ _)
  have HS5 := Lib.hid ((HSt.out.trans (St.ext hbd) HGt.out).trans hs5 HGt.out)
  have HP5 := Lib.hid hp5
  have HZ5 := Lib.hid hz5
  have HR5 := Lib.hid hr5
  clear hsz hp4 hz4 hr4 hp5 hs5 hz5 hr5
  (refine takeL Ext.tr 0 (by simp only [List.getElem?_toArray, List.getElem?_cons_succ, List.getElem?_cons_zero]; rfl) (by kernel_rfl) (by kernel_rfl) (by kernel_rfl) (by kernel_rfl) (by exact fun _ _ _ h => h) (by first | (refine Or.inl ⟨by rfl, ?_⟩; intro W hW; go_simp; try with_reducible rfl) | exact Or.inr ⟨by rfl, rfl⟩) ?_; try simp only [Act.put, List.setIfInBounds_toArray, List.set_cons_zero, List.set_cons_succ])
  (refine takeL Ext.tr 1 (by simp only [List.getElem?_toArray, List.getElem?_cons_succ, List.getElem?_cons_zero]; rfl) (by kernel_rfl) (by kernel_rfl) (by kernel_rfl) (by kernel_rfl) (by exact fun _ _ _ h => h) (by first | (refine Or.inl ⟨by rfl, ?_⟩; intro W hW; go_simp; try with_reducible rfl) | exact Or.inr ⟨by rfl, rfl⟩) ?_; try simp only [Act.put, List.setIfInBounds_toArray, List.set_cons_zero, List.set_cons_succ])
  (refine takeL Ext.tr 6 (by simp only [List.getElem?_toArray, List.getElem?_cons_succ, List.getElem?_cons_zero]; rfl) (by kernel_rfl) (by kernel_rfl) (by kernel_rfl) (by kernel_rfl) (by exact fun _ _ _ h => h) (by first | (refine Or.inl ⟨by rfl, ?_⟩; intro W hW; go_simp; try with_reducible rfl) | exact Or.inr ⟨by rfl, rfl⟩) ?_; try simp only [Act.put, List.setIfInBounds_toArray, List.set_cons_zero, List.set_cons_succ])
  (refine takeL Ext.tr 2 (by simp only [List.getElem?_toArray, List.getElem?_cons_succ, List.getElem?_cons_zero]; rfl) (by kernel_rfl) (by kernel_rfl) (by kernel_rfl) (by kernel_rfl) (by exact fun _ _ _ h => h) (by first | (refine Or.inl ⟨by rfl, ?_⟩; intro W hW; go_simp; try with_reducible rfl) | exact Or.inr ⟨by rfl, rfl⟩) ?_; try simp only [Act.put, List.setIfInBounds_toArray, List.set_cons_zero, List.set_cons_succ])
  (refine takeL Ext.tr 7 (by simp only [List.getElem?_toArray, List.getElem?_cons_succ, List.getElem?_cons_zero]; rfl) (by kernel_rfl) (by kernel_rfl) (by kernel_rfl) (by kernel_rfl) (by exact fun _ _ _ h => h) (by first | (refine Or.inl ⟨by rfl, ?_⟩; intro W hW; go_simp; try with_reducible rfl) | exact Or.inr ⟨by rfl, rfl⟩) ?_; try simp only [Act.put, List.setIfInBounds_toArray, List.set_cons_zero, List.set_cons_succ])
  (refine takeL Ext.tr 3 (by simp only [List.getElem?_toArray, List.getElem?_cons_succ, List.getElem?_cons_zero]; rfl) (by kernel_rfl) (by kernel_rfl) (by kernel_rfl) (by kernel_rfl) (by exact fun _ _ _ h => h) (by first | (refine Or.inl ⟨by rfl, ?_⟩; intro W hW; go_simp; try with_reducible rfl) | exact Or.inr ⟨by rfl, rfl⟩) ?_; try simp only [Act.put, List.setIfInBounds_toArray, List.set_cons_zero, List.set_cons_succ])
  (refine takeL Ext.tr 4 (by simp only [List.getElem?_toArray, List.getElem?_cons_succ, List.getElem?_cons_zero]; rfl) (by kernel_rfl) (by kernel_rfl) (by kernel_rfl) (by kernel_rfl) (by exact fun _ _ _ h => h) (by first | (refine Or.inl ⟨by rfl, ?_⟩; intro W hW; go_simp; try with_reducible rfl) | exact Or.inr ⟨by rfl, rfl⟩) ?_; try simp only [Act.put, List.setIfInBounds_toArray, List.set_cons_zero, List.set_cons_succ])
  (refine takeL Ext.tr 5 (by simp only [List.getElem?_toArray, List.getElem?_cons_succ, List.getElem?_cons_zero]; rfl) (by kernel_rfl) (by kernel_rfl) (by kernel_rfl) (by kernel_rfl) (by exact fun _ _ _ h => h) (by first | (refine Or.inl ⟨by rfl, ?_⟩; intro W hW; go_simp; try with_reducible rfl) | exact Or.inr ⟨by rfl, rfl⟩) ?_; try simp only [Act.put, List.setIfInBounds_toArray, List.set_cons_zero, List.set_cons_succ])
  (refine takeL Ext.tr 8 (by simp only [List.getElem?_toArray, List.getElem?_cons_succ, List.getElem?_cons_zero]; rfl) (by kernel_rfl) (by kernel_rfl) (by kernel_rfl) (by kernel_rfl) (by exact fun _ _ _ h => h) (by first | (refine Or.inl ⟨by rfl, ?_⟩; intro W hW; go_simp; try with_reducible rfl) | exact Or.inr ⟨by rfl, rfl⟩) ?_; try simp only [Act.put, List.setIfInBounds_toArray, List.set_cons_zero, List.set_cons_succ])
  refine wpAnyL_one (i := 9) (by kernel_rfl) (by simp only [List.getElem?_toArray, List.getElem?_cons_succ, List.getElem?_cons_zero]; rfl) (fun K hK => ?_)
  go_simp
  refine hK.out _ _ (.inl (by decide)) ?_
  clear hK K
  try simp only [Act.put, List.setIfInBounds_toArray, List.set_cons_zero, List.set_cons_succ]
  refine wpAnyL_done (by kernel_rfl) ?_ _
  skip
  go_wp2_with (first
    | (with_reducible refine at_load 65 (.tmp 7) (by rfl) ?_; refine wpList_load_pk rowP rfl (.tmp 7) rfl q w2.heap.size 0 rfl (Bk.pk (q := q) HZ5.out) ?_))
  have hB : wd.heap.size = (wd.setCell ⟨b, 4, none⟩ (.int .i64 (m.ct 0 + 1))).heap.size := by simp [World.setCell]
  exact bodyPost_ret (results_tmp2 rfl _ _ _) rfl (ServeTo.one HP5.out HS5.out HGt.out HR5.out HQX.out hB (by kernel_rfl) (by simp [AM.srv, AM.took]))
theorem pt_serve2 (h : PbC F X w b m pl ph Fl Fh ql qh) (hct : ∀ k, -1 ≤ m.ct k ∧ m.ct k ≤ 1000000) (x : Pk) (r : List Pk) (hx : m.sel m.hiB = x :: r) :
    Calls Try.prog 35 #[.pointer (some ⟨b, 0, none⟩), .int .i64 2] w (ServeTo F X w b pl ph (m.srv 2 m.hiB x r) [] 0) := by
  have HN := Lib.hid (pt_next h)
  have HM := Lib.hid (pt_made h)
  have HP : Hid (∀ w1, Below w.heap.size w w1 → Calls Try.prog 51 #[.pointer (some ⟨ptr pl ph m.hiB, 0, none⟩)] w1 _) := Lib.hid fun w1 hb => pt_pop (h.below hb) m.hiB x r hx
  have hnr : (m.put m.hiB r).nrun m.hiB ≤ (m.put m.hiB r).wt := by
    rw [AM.nrun_put]
    have := AM.nrun_le h.ru h.w1 rfl
    exact this
  have HNR := Lib.hid hnr
  have hroom : r.length + 1 ≤ m.room m.hiB := by
    have := (h.qs m.hiB).le
    rw [← List.length_map (f := Pv.pk), h.qk, hx] at this
    simpa using this
  have HRoom := Lib.hid hroom
  have HCT := Lib.hid hct
  clear h hct hnr hroom hx
  generalize m.hiB = hi at *
  go_enter Try.func35, Try.ntmps35
  go_wp2_with (first
    | (go_at_call 49; refine HM.out.mono ?_; rintro e w' ⟨rfl, rfl⟩)
    | (go_at_call 50; refine HN.out.mono ?_; rintro e w1 ⟨rfl, hb1⟩)
    | (go_at_call 51; refine (HP.out _ hb1).mono ?_; rintro e w2 ⟨q, F1, Fl1, Fh1, ql1, qh1, rfl, hqx, hp2, hs2, hg2, hr2⟩
       have hz := Bk.new w2 65 [.int .i64 q.h.kd, .int .i64 q.h.fl, .int .i64 q.h.pa, .int .i64 q.h.sr, .int .i64 q.h.ds, .int .i64 q.h.cn, .int .i64 q.h.sq, .int .i64 q.h.pu, .slice q.A q.n q.c]
       have HCo := Lib.hid (pt_count (hp2.below ((Below.refl _ _).alloc (Nat.le_refl _) (.cells (List.toArray [.int .i64 q.h.kd, .int .i64 q.h.fl, .int .i64 q.h.pa, .int .i64 q.h.sr, .int .i64 q.h.ds, .int .i64 q.h.cn, .int .i64 q.h.sq, .int .i64 q.h.pu, .slice q.A q.n q.c]) 65))) hi HNR.out)
       have HQX := Lib.hid hqx
       clear hqx HP HN)
    | (go_at_call 52; refine HCo.out.mono ?_; rintro e w3 ⟨rfl, hp3, hs3⟩
       replace hp3 : PbC F1 X w3 b (m.took hi r) pl ph Fl1 Fh1 ql1 qh1 := by rw [AM.nrun_put] at hp3; exact hp3
       have hnb : ¬ F1 w2.heap.size := fun hf => by have := hp2.bd _ hf; omega
       have hz3 := hz.st hs3 hnb
       have hr3 := (hr2.below ((Below.refl _ _).alloc (Nat.le_refl _) (.cells (List.toArray [.int .i64 q.h.kd, .int .i64 q.h.fl, .int .i64 q.h.pa, .int .i64 q.h.sr, .int .i64 q.h.ds, .int .i64 q.h.cn, .int .i64 q.h.sq, .int .i64 q.h.pu, .slice q.A q.n q.c]) 65))).st (hs3.mono fun k _ hk => .inl hk) (Gr.refl _ _)
       have HS3 : Hid (St F w w3) := Lib.hid (((St.ext hb1).trans hs2 (Gr.refl _ _)).trans ((St.alloc F1 _ _).trans hs3 (Gr.refl _ _)) ((Gr.refl F _).trans hg2 hb1.size))
       have HG1 : Hid (Gr F F1 w.heap.size) := Lib.hid ((Gr.refl F _).trans hg2 hb1.size)
       clear HCo hs3 hs2 hg2 hr2 hp2 hz))
  exact bodyPost_ret (results_tmp2 rfl _ _ _) rfl (ServeTo.zero hp3 HS3.out HG1.out (by kernel_rfl) (by simp [AM.srv, AM.took]))
set_option maxHeartbeats 4000000 in
set_option maxRecDepth 100000 in
theorem pt_serve3 (h : PbC F X w b m pl ph Fl Fh ql qh) (hct : ∀ k, -1 ≤ m.ct k ∧ m.ct k ≤ 1000000) (x : Pk) (r : List Pk) (hx : m.sel m.hiB = x :: r) :
    Calls Try.prog 35 #[.pointer (some ⟨b, 0, none⟩), .int .i64 3] w (ServeTo F X w b pl ph (m.srv 3 m.hiB x r) [] 0) := by
  have HN := Lib.hid (pt_next h)
  have HM := Lib.hid (pt_made h)
  have HP : Hid (∀ w1, Below w.heap.size w w1 → Calls Try.prog 51 #[.pointer (some ⟨ptr pl ph m.hiB, 0, none⟩)] w1 _) := Lib.hid fun w1 hb => pt_pop (h.below hb) m.hiB x r hx
  have hnr : (m.put m.hiB r).nrun m.hiB ≤ (m.put m.hiB r).wt := by
    rw [AM.nrun_put]
    have := AM.nrun_le h.ru h.w1 rfl
    exact this
  have HNR := Lib.hid hnr
  have hroom : r.length + 1 ≤ m.room m.hiB := by
    have := (h.qs m.hiB).le
    rw [← List.length_map (f := Pv.pk), h.qk, hx] at this
    simpa using this
  have HRoom := Lib.hid hroom
  have HCT := Lib.hid hct
  clear h hct hnr hroom hx
  generalize m.hiB = hi at *
  go_enter Try.func35, Try.ntmps35
  go_wp2_with (first
    | (go_at_call 49; refine HM.out.mono ?_; rintro e w' ⟨rfl, rfl⟩)
    | (go_at_call 50; refine HN.out.mono ?_; rintro e w1 ⟨rfl, hb1⟩)
    | (go_at_call 51; refine (HP.out _ hb1).mono ?_; rintro e w2 ⟨q, F1, Fl1, Fh1, ql1, qh1, rfl, hqx, hp2, hs2, hg2, hr2⟩
       have hz := Bk.new w2 65 [.int .i64 q.h.kd, .int .i64 q.h.fl, .int .i64 q.h.pa, .int .i64 q.h.sr, .int .i64 q.h.ds, .int .i64 q.h.cn, .int .i64 q.h.sq, .int .i64 q.h.pu, .slice q.A q.n q.c]
       have HCo := Lib.hid (pt_count (hp2.below ((Below.refl _ _).alloc (Nat.le_refl _) (.cells (List.toArray [.int .i64 q.h.kd, .int .i64 q.h.fl, .int .i64 q.h.pa, .int .i64 q.h.sr, .int .i64 q.h.ds, .int .i64 q.h.cn, .int .i64 q.h.sq, .int .i64 q.h.pu, .slice q.A q.n q.c]) 65))) hi HNR.out)
       have HQX := Lib.hid hqx
       clear hqx HP HN)
    | (go_at_call 52; refine HCo.out.mono ?_; rintro e w3 ⟨rfl, hp3, hs3⟩
       replace hp3 : PbC F1 X w3 b (m.took hi r) pl ph Fl1 Fh1 ql1 qh1 := by rw [AM.nrun_put] at hp3; exact hp3
       have hnb : ¬ F1 w2.heap.size := fun hf => by have := hp2.bd _ hf; omega
       have hz3 := hz.st hs3 hnb
       have hr3 := (hr2.below ((Below.refl _ _).alloc (Nat.le_refl _) (.cells (List.toArray [.int .i64 q.h.kd, .int .i64 q.h.fl, .int .i64 q.h.pa, .int .i64 q.h.sr, .int .i64 q.h.ds, .int .i64 q.h.cn, .int .i64 q.h.sq, .int .i64 q.h.pu, .slice q.A q.n q.c]) 65))).st (hs3.mono fun k _ hk => .inl hk) (Gr.refl _ _)
       have HS3 : Hid (St F w w3) := Lib.hid (((St.ext hb1).trans hs2 (Gr.refl _ _)).trans ((St.alloc F1 _ _).trans hs3 (Gr.refl _ _)) ((Gr.refl F _).trans hg2 hb1.size))
       have HG1 : Hid (Gr F F1 w.heap.size) := Lib.hid ((Gr.refl F _).trans hg2 hb1.size)
       clear HCo hs3 hs2 hg2 hr2 hp2 hz
       have HPu := Lib.hid (pt_push (hp3.below ((Below.refl _ _).alloc (Nat.le_refl _) (.cells (List.toArray [.int .i64 q.h.kd, .int .i64 q.h.fl, .int .i64 q.h.pa, .int .i64 q.h.sr, .int .i64 q.h.ds, .int .i64 q.h.cn, .int .i64 q.h.sq, .int .i64 q.h.pu, .slice q.A q.n q.c]) 65))) hi q (hr3.below ((Below.refl _ _).alloc (Nat.le_refl _) (.cells (List.toArray [.int .i64 q.h.kd, .int .i64 q.h.fl, .int .i64 q.h.pa, .int .i64 q.h.sr, .int .i64 q.h.ds, .int .i64 q.h.cn, .int .i64 q.h.sq, .int .i64 q.h.pu, .slice q.A q.n q.c]) 65))) (some ⟨w3.heap.size, 0, none⟩) 1 (RdR.one w3 65 q.cl q.cl_one) (by rw [sel_took]; exact HRoom.out)))
    | (with_reducible refine at_load 65 (.tmp 7) (by rfl) ?_; refine wpList_load_pk rowP rfl (.tmp 7) rfl q w2.heap.size 0 rfl (Bk.pk (q := q) hz3) ?_))
  refine HPu.out.mono ?_
  rintro e w6 ⟨rfl, F6, Fl6, Fh6, ql6, qh6, hp6, hs6, hg6⟩
  rw [sel_took, HQX.out] at hp6
  have HPt := Lib.hid hp6
  have hbw : Below w3.heap.size w3 (w3.alloc (.cells (List.toArray [.int .i64 q.h.kd, .int .i64 q.h.fl, .int .i64 q.h.pa, .int .i64 q.h.sr, .int .i64 q.h.ds, .int .i64 q.h.cn, .int .i64 q.h.sq, .int .i64 q.h.pu, .slice q.A q.n q.c]) 65)) := (Below.refl _ _).alloc (Nat.le_refl _) _
  have hnbt : ¬ F6 w2.heap.size := hg6.not (Nat.lt_of_lt_of_le hz3.lt hbw.size) hnb
  have HZt := Lib.hid ((hz3.below hbw).st hs6 hnb)
  have HGt : Hid (Gr F F6 w.heap.size) := Lib.hid (HG1.out.trans hg6 (Nat.le_trans HS3.out.size hbw.size))
  have HSt : Hid (St F w w6) := Lib.hid ((HS3.out.trans (St.ext hbw) HG1.out).trans hs6 HG1.out)
  have hgx : Gr (fun k => F1 k ∨ X k) (fun k => F6 k ∨ X k) ((w3.alloc (.cells (List.toArray [.int .i64 q.h.kd, .int .i64 q.h.fl, .int .i64 q.h.pa, .int .i64 q.h.sr, .int .i64 q.h.ds, .int .i64 q.h.cn, .int .i64 q.h.sq, .int .i64 q.h.pu, .slice q.A q.n q.c]) 65))).heap.size := fun k hk => hk.elim (fun hk => (hg6 k hk).imp .inl id) (fun hk => .inl (.inr hk))
  have hsx : St (fun k => F1 k ∨ X k) (w3.alloc (.cells (List.toArray [.int .i64 q.h.kd, .int .i64 q.h.fl, .int .i64 q.h.pa, .int .i64 q.h.sr, .int .i64 q.h.ds, .int .i64 q.h.cn, .int .i64 q.h.sq, .int .i64 q.h.pu, .slice q.A q.n q.c]) 65)) w6 := hs6.mono fun k _ hk => .inl hk
  have HRt := Lib.hid ((hr3.below hbw).st hsx hgx)
  clear hp3 hz3 hr3 hp6 hs6 hg6 HS3
  go_wp2_with fail
  exact bodyPost_ret (results_tmp2 rfl _ _ _) rfl (ServeTo.zero HPt.out HSt.out HGt.out (by kernel_rfl) (by simp [AM.srv, AM.took]))
set_option maxHeartbeats 4000000 in
set_option maxRecDepth 100000 in
theorem pt_serve4 (h : PbC F X w b m pl ph Fl Fh ql qh) (hct : ∀ k, -1 ≤ m.ct k ∧ m.ct k ≤ 1000000) (x : Pk) (r : List Pk) (hx : m.sel m.hiB = x :: r) :
    Calls Try.prog 35 #[.pointer (some ⟨b, 0, none⟩), .int .i64 4] w (ServeTo F X w b pl ph (m.srv 4 m.hiB x r) [x] 0) := by
  have HN := Lib.hid (pt_next h)
  have HM := Lib.hid (pt_made h)
  have HP : Hid (∀ w1, Below w.heap.size w w1 → Calls Try.prog 51 #[.pointer (some ⟨ptr pl ph m.hiB, 0, none⟩)] w1 _) := Lib.hid fun w1 hb => pt_pop (h.below hb) m.hiB x r hx
  have hnr : (m.put m.hiB r).nrun m.hiB ≤ (m.put m.hiB r).wt := by
    rw [AM.nrun_put]
    have := AM.nrun_le h.ru h.w1 rfl
    exact this
  have HNR := Lib.hid hnr
  have hroom : r.length + 1 ≤ m.room m.hiB := by
    have := (h.qs m.hiB).le
    rw [← List.length_map (f := Pv.pk), h.qk, hx] at this
    simpa using this
  have HRoom := Lib.hid hroom
  have HCT := Lib.hid hct
  clear h hct hnr hroom hx
  generalize m.hiB = hi at *
  go_enter Try.func35, Try.ntmps35
  go_wp2_with (first
    | (go_at_call 49; refine HM.out.mono ?_; rintro e w' ⟨rfl, rfl⟩)
    | (go_at_call 50; refine HN.out.mono ?_; rintro e w1 ⟨rfl, hb1⟩)
    | (go_at_call 51; refine (HP.out _ hb1).mono ?_; rintro e w2 ⟨q, F1, Fl1, Fh1, ql1, qh1, rfl, hqx, hp2, hs2, hg2, hr2⟩
       have hz := Bk.new w2 65 [.int .i64 q.h.kd, .int .i64 q.h.fl, .int .i64 q.h.pa, .int .i64 q.h.sr, .int .i64 q.h.ds, .int .i64 q.h.cn, .int .i64 q.h.sq, .int .i64 q.h.pu, .slice q.A q.n q.c]
       have HCo := Lib.hid (pt_count (hp2.below ((Below.refl _ _).alloc (Nat.le_refl _) (.cells (List.toArray [.int .i64 q.h.kd, .int .i64 q.h.fl, .int .i64 q.h.pa, .int .i64 q.h.sr, .int .i64 q.h.ds, .int .i64 q.h.cn, .int .i64 q.h.sq, .int .i64 q.h.pu, .slice q.A q.n q.c]) 65))) hi HNR.out)
       have HQX := Lib.hid hqx
       clear hqx HP HN)
    | (go_at_call 52; refine HCo.out.mono ?_; rintro e w3 ⟨rfl, hp3, hs3⟩
       replace hp3 : PbC F1 X w3 b (m.took hi r) pl ph Fl1 Fh1 ql1 qh1 := by rw [AM.nrun_put] at hp3; exact hp3
       have hnb : ¬ F1 w2.heap.size := fun hf => by have := hp2.bd _ hf; omega
       have hz3 := hz.st hs3 hnb
       have hr3 := (hr2.below ((Below.refl _ _).alloc (Nat.le_refl _) (.cells (List.toArray [.int .i64 q.h.kd, .int .i64 q.h.fl, .int .i64 q.h.pa, .int .i64 q.h.sr, .int .i64 q.h.ds, .int .i64 q.h.cn, .int .i64 q.h.sq, .int .i64 q.h.pu, .slice q.A q.n q.c]) 65))).st (hs3.mono fun k _ hk => .inl hk) (Gr.refl _ _)
       have HS3 : Hid (St F w w3) := Lib.hid (((St.ext hb1).trans hs2 (Gr.refl _ _)).trans ((St.alloc F1 _ _).trans hs3 (Gr.refl _ _)) ((Gr.refl F _).trans hg2 hb1.size))
       have HG1 : Hid (Gr F F1 w.heap.size) := Lib.hid ((Gr.refl F _).trans hg2 hb1.size)
       clear HCo hs3 hs2 hg2 hr2 hp2 hz
       have HAl := Lib.hid (p_alike (F := fun k => F1 k ∨ X k) hr3 (fun k hk => hk.elim (hp3.bd k) (hp3.xb k))))
    | (with_reducible refine at_load 65 (.tmp 7) (by rfl) ?_; refine wpList_load_pk rowP rfl (.tmp 7) rfl q w2.heap.size 0 rfl (Bk.pk (q := q) hz3) ?_)
    | (go_at_call 54; refine HAl.out.mono ?_; rintro e w4 ⟨q4, rfl, hq4, hr4, hb4⟩
       have HQ4 := Lib.hid (hq4.trans HQX.out)
       have hb5 := hb4.alloc hb4.size (.cells (List.toArray [.int .i64 q4.h.kd, .int .i64 q4.h.fl, .int .i64 q4.h.pa, .int .i64 q4.h.sr, .int .i64 q4.h.ds, .int .i64 q4.h.cn, .int .i64 q4.h.sq, .int .i64 q4.h.pu, .slice q4.A q4.n q4.c]) 65)
       have HPu := Lib.hid (pt_push (hp3.below hb5) hi q4 (hr4.below ((Below.refl _ _).alloc (Nat.le_refl _) (.cells (List.toArray [.int .i64 q4.h.kd, .int .i64 q4.h.fl, .int .i64 q4.h.pa, .int .i64 q4.h.sr, .int .i64 q4.h.ds, .int .i64 q4.h.cn, .int .i64 q4.h.sq, .int .i64 q4.h.pu, .slice q4.A q4.n q4.c]) 65))) (some ⟨w4.heap.size, 0, none⟩) 1 (RdR.one w4 65 q4.cl q4.cl_one) (by rw [sel_took]; exact HRoom.out))
       clear HAl hq4 hr4))
  refine HPu.out.mono ?_
  rintro e w6 ⟨rfl, F6, Fl6, Fh6, ql6, qh6, hp6, hs6, hg6⟩
  rw [sel_took, HQ4.out] at hp6
  have HPt := Lib.hid hp6
  have hbw : Below w3.heap.size w3 (w4.alloc (.cells (List.toArray [.int .i64 q4.h.kd, .int .i64 q4.h.fl, .int .i64 q4.h.pa, .int .i64 q4.h.sr, .int .i64 q4.h.ds, .int .i64 q4.h.cn, .int .i64 q4.h.sq, .int .i64 q4.h.pu, .slice q4.A q4.n q4.c]) 65)) := hb5
  have hnbt : ¬ F6 w2.heap.size := hg6.not (Nat.lt_of_lt_of_le hz3.lt hbw.size) hnb
  have HZt := Lib.hid ((hz3.below hbw).st hs6 hnb)
  have HGt : Hid (Gr F F6 w.heap.size) := Lib.hid (HG1.out.trans hg6 (Nat.le_trans HS3.out.size hbw.size))
  have HSt : Hid (St F w w6) := Lib.hid ((HS3.out.trans (St.ext hbw) HG1.out).trans hs6 HG1.out)
  have hgx : Gr (fun k => F1 k ∨ X k) (fun k => F6 k ∨ X k) ((w4.alloc (.cells (List.toArray [.int .i64 q4.h.kd, .int .i64 q4.h.fl, .int .i64 q4.h.pa, .int .i64 q4.h.sr, .int .i64 q4.h.ds, .int .i64 q4.h.cn, .int .i64 q4.h.sq, .int .i64 q4.h.pu, .slice q4.A q4.n q4.c]) 65))).heap.size := fun k hk => hk.elim (fun hk => (hg6 k hk).imp .inl id) (fun hk => .inl (.inr hk))
  have hsx : St (fun k => F1 k ∨ X k) (w4.alloc (.cells (List.toArray [.int .i64 q4.h.kd, .int .i64 q4.h.fl, .int .i64 q4.h.pa, .int .i64 q4.h.sr, .int .i64 q4.h.ds, .int .i64 q4.h.cn, .int .i64 q4.h.sq, .int .i64 q4.h.pu, .slice q4.A q4.n q4.c]) 65)) w6 := hs6.mono fun k _ hk => .inl hk
  have HRt := Lib.hid ((hr3.below hbw).st hsx hgx)
  clear hp3 hz3 hr3 hp6 hs6 hg6 HS3
  go_wp2_with fail
  refine wp_region_L Ext [9] (by kernel_rfl) (fun wd hbd hsz => ?_)
  have hp4 := HPt.out.below hbd
  have hz4 := HZt.out.below hbd
  have hr4 := HRt.out.below hbd
  have hw : IntKind.i64.wrap (m.ct 0 + 1) = m.ct 0 + 1 := by have := HCT.out 0; rw [IntKind.wrap_i64]; omega
  have q0 : ∀ W, Ext wd W → W.cell? ⟨b, 4, none⟩ = some (.int .i64 (m.ct 0)) := fun W hW => (hp4.bk.below hW).cell 4 rfl
  have f0 := hp4.bk.free 4
  have c0 := hp4.bk.cell 4 rfl
  obtain ⟨hp5, hs5⟩ := hp4.cell 4 (.int .i64 (m.ct 0 + 1)) hp4.ru (ct := up m.ct 0 (m.ct 0 + 1)) rfl
  have hz5 := hz4.st hs5 hnbt
  have hr5 := hr4.st (hs5.mono fun k _ hk => .inl hk) (Gr.refl _ _)
  have HS5 := Lib.hid ((HSt.out.trans (St.ext hbd) HGt.out).trans hs5 HGt.out)
  have HP5 := Lib.hid hp5
  have HZ5 := Lib.hid hz5
  have HR5 := Lib.hid hr5
  clear hsz hp4 hz4 hr4 hp5 hs5 hz5 hr5
  (refine takeL Ext.tr 0 (by simp only [List.getElem?_toArray, List.getElem?_cons_succ, List.getElem?_cons_zero]; rfl) (by kernel_rfl) (by kernel_rfl) (by kernel_rfl) (by kernel_rfl) (by exact fun _ _ _ h => h) (by first | (refine Or.inl ⟨by rfl, ?_⟩; intro W hW; go_simp; try with_reducible rfl) | exact Or.inr ⟨by rfl, rfl⟩) ?_; try simp only [Act.put, List.setIfInBounds_toArray, List.set_cons_zero, List.set_cons_succ])
  (refine takeL Ext.tr 1 (by simp only [List.getElem?_toArray, List.getElem?_cons_succ, List.getElem?_cons_zero]; rfl) (by kernel_rfl) (by kernel_rfl) (by kernel_rfl) (by kernel_rfl) (by exact fun _ _ _ h => h) (by first | (refine Or.inl ⟨by rfl, ?_⟩; intro W hW; go_simp; try with_reducible rfl) | exact Or.inr ⟨by rfl, rfl⟩) ?_; try simp only [Act.put, List.setIfInBounds_toArray, List.set_cons_zero, List.set_cons_succ])
  (refine takeL Ext.tr 6 (by simp only [List.getElem?_toArray, List.getElem?_cons_succ, List.getElem?_cons_zero]; rfl) (by kernel_rfl) (by kernel_rfl) (by kernel_rfl) (by kernel_rfl) (by exact fun _ _ _ h => h) (by first | (refine Or.inl ⟨by rfl, ?_⟩; intro W hW; go_simp; try with_reducible rfl) | exact Or.inr ⟨by rfl, rfl⟩) ?_; try simp only [Act.put, List.setIfInBounds_toArray, List.set_cons_zero, List.set_cons_succ])
  (refine takeL Ext.tr 2 (by simp only [List.getElem?_toArray, List.getElem?_cons_succ, List.getElem?_cons_zero]; rfl) (by kernel_rfl) (by kernel_rfl) (by kernel_rfl) (by kernel_rfl) (by exact fun _ _ _ h => h) (by first | (refine Or.inl ⟨by rfl, ?_⟩; intro W hW; go_simp; try with_reducible rfl) | exact Or.inr ⟨by rfl, rfl⟩) ?_; try simp only [Act.put, List.setIfInBounds_toArray, List.set_cons_zero, List.set_cons_succ])
  (refine takeL Ext.tr 7 (by simp only [List.getElem?_toArray, List.getElem?_cons_succ, List.getElem?_cons_zero]; rfl) (by kernel_rfl) (by kernel_rfl) (by kernel_rfl) (by kernel_rfl) (by exact fun _ _ _ h => h) (by first | (refine Or.inl ⟨by rfl, ?_⟩; intro W hW; go_simp; try with_reducible rfl) | exact Or.inr ⟨by rfl, rfl⟩) ?_; try simp only [Act.put, List.setIfInBounds_toArray, List.set_cons_zero, List.set_cons_succ])
  (refine takeL Ext.tr 3 (by simp only [List.getElem?_toArray, List.getElem?_cons_succ, List.getElem?_cons_zero]; rfl) (by kernel_rfl) (by kernel_rfl) (by kernel_rfl) (by kernel_rfl) (by exact fun _ _ _ h => h) (by first | (refine Or.inl ⟨by rfl, ?_⟩; intro W hW; go_simp; try with_reducible rfl) | exact Or.inr ⟨by rfl, rfl⟩) ?_; try simp only [Act.put, List.setIfInBounds_toArray, List.set_cons_zero, List.set_cons_succ])
  (refine takeL Ext.tr 4 (by simp only [List.getElem?_toArray, List.getElem?_cons_succ, List.getElem?_cons_zero]; rfl) (by kernel_rfl) (by kernel_rfl) (by kernel_rfl) (by kernel_rfl) (by exact fun _ _ _ h => h) (by first | (refine Or.inl ⟨by rfl, ?_⟩; intro W hW; go_simp; try with_reducible rfl) | exact Or.inr ⟨by rfl, rfl⟩) ?_; try simp only [Act.put, List.setIfInBounds_toArray, List.set_cons_zero, List.set_cons_succ])
  (refine takeL Ext.tr 5 (by simp only [List.getElem?_toArray, List.getElem?_cons_succ, List.getElem?_cons_zero]; rfl) (by kernel_rfl) (by kernel_rfl) (by kernel_rfl) (by kernel_rfl) (by exact fun _ _ _ h => h) (by first | (refine Or.inl ⟨by rfl, ?_⟩; intro W hW; go_simp; try with_reducible rfl) | exact Or.inr ⟨by rfl, rfl⟩) ?_; try simp only [Act.put, List.setIfInBounds_toArray, List.set_cons_zero, List.set_cons_succ])
  (refine takeL Ext.tr 8 (by simp only [List.getElem?_toArray, List.getElem?_cons_succ, List.getElem?_cons_zero]; rfl) (by kernel_rfl) (by kernel_rfl) (by kernel_rfl) (by kernel_rfl) (by exact fun _ _ _ h => h) (by first | (refine Or.inl ⟨by rfl, ?_⟩; intro W hW; go_simp; try with_reducible rfl) | exact Or.inr ⟨by rfl, rfl⟩) ?_; try simp only [Act.put, List.setIfInBounds_toArray, List.set_cons_zero, List.set_cons_succ])
  refine wpAnyL_one (i := 9) (by kernel_rfl) (by simp only [List.getElem?_toArray, List.getElem?_cons_succ, List.getElem?_cons_zero]; rfl) (fun K hK => ?_)
  go_simp
  refine hK.out _ _ (.inl (by decide)) ?_
  clear hK K
  try simp only [Act.put, List.setIfInBounds_toArray, List.set_cons_zero, List.set_cons_succ]
  refine wpAnyL_done (by kernel_rfl) ?_ _
  skip
  go_wp2_with (first
    | (with_reducible refine at_load 65 (.tmp 7) (by rfl) ?_; refine wpList_load_pk rowP rfl (.tmp 7) rfl q w2.heap.size 0 rfl (Bk.pk (q := q) HZ5.out) ?_))
  have hB : wd.heap.size = (wd.setCell ⟨b, 4, none⟩ (.int .i64 (m.ct 0 + 1))).heap.size := by simp [World.setCell]
  exact bodyPost_ret (results_tmp2 rfl _ _ _) rfl (ServeTo.one HP5.out HS5.out HGt.out HR5.out HQX.out hB (by kernel_rfl) (by simp [AM.srv, AM.took]))
/-- What Serve makes of a port. -/
theorem pt_serve (h : PbC F X w b m pl ph Fl Fh ql qh) (hct : ∀ k, -1 ≤ m.ct k ∧ m.ct k ≤ 1000000) (f : Int) (hf1 : 1 ≤ f) (hf2 : f ≤ 4) (x : Pk) (r : List Pk) (hx : m.sel m.hiB = x :: r) :
    Calls Try.prog 35 #[.pointer (some ⟨b, 0, none⟩), .int .i64 f] w (ServeTo F X w b pl ph (m.srv f m.hiB x r) (if f = 1 ∨ f = 4 then [x] else []) 0) := by
  rcases (by omega : f = 1 ∨ f = 2 ∨ f = 3 ∨ f = 4) with rfl | rfl | rfl | rfl
  · exact pt_serve1 h hct x r hx
  · exact pt_serve2 h hct x r hx
  · exact pt_serve3 h hct x r hx
  · exact pt_serve4 h hct x r hx
end
end Go.Proofs.Ytbhhgfpliggkgaa
