/- A queue: pieces added. -/
import Derived.Test.YtnakoplceplmmaaV8
set_option linter.unusedSimpArgs false
set_option linter.unusedVariables false
namespace Go.Proofs.Ytnakoplceplmmaa
open Go.RowKit Go.Shelf
theorem Sm.add_add (m : Sm) (a b : List Pp) : (m.add a).add b = m.add (a ++ b) := by
  simp only [Sm.add, List.append_assoc, List.length_append, List.replicate_append_replicate]
theorem Sm.add_nil (m : Sm) : m.add [] = m := by
  simp [Sm.add]
def Pc.slot (q : Pc) : Sc := ⟨q.A, q.n, q.c, q.xs, q.en, q.fn, false⟩
section
variable {F F' : Nat → Prop} {w w1 w2 w' : World} {g : Nat} {m m' : Sm} {A B : Option Addr} {n c k d : Nat}
/-- One slot more. -/
theorem Did.slot {v : Value} {q : Pc} {qs : List Sc} (h : SqA F w g m A n c B k d) (hb : Below w.heap.size w w1) (h2 : LstR 4 70 F w A n c (flat Sc.cl qs)) (h3 : qs.map Sc.say = m.zl) (h4 : ∀ q ∈ qs, BsR w q.A q.n q.c q.xs ∧ q.n ≤ 65536 ∧ ∀ k, BlkOf q.A k → F k) (hqn : n = qs.length)
    (hq : BsR w1 q.A q.n q.c q.xs) (hq5 : q.n ≤ 65536) (hqk : ∀ j, BlkOf q.A j → w.heap.size ≤ j) (ha : ApdR 4 70 (BlkOf A) w1 v (flat Sc.cl qs ++ q.slot.cl) w2) (hnm : (m.add [q.say]).Nm) :
    Did F w g (m.add [q.say]) (w2.setCell ⟨g, 3, none⟩ v) := by
  obtain ⟨⟨A', n', c', rfl, hl⟩, hst⟩ := ha
  have h1 := h.below hb
  have hgA := h1.gA
  have hT : ∀ j, BlkOf A j → Tyd 70 w1 j := (h2.below hb).tyd
  have hF : ∀ j, F j → (F j ∨ w.heap.size ≤ j) ∧ j < w2.heap.size := fun j hj => ⟨.inl hj, by have := h1.lt j hj; have := hst.size; omega⟩
  have hbk2 := h1.bk.st hst hgA
  have hbT : ∀ j, BlkOf A j → ¬ Tyd 5 w1 j := fun j hj => (hT j hj).ne (by decide)
  have hls2 : SlS (fun j => (F j ∨ w.heap.size ≤ j) ∧ j < w2.heap.size) w2 A' n' c' (m.add [q.say]).zl := by
    refine ⟨qs ++ [q.slot], ?_, ?_, ?_, fun r hr => ?_⟩
    · have := hl.1
      rw [← flat_one (cl := Sc.cl), ← flat_app, flat_len Sc.cl_len] at this
      omega
    · rw [flat_app, flat_one]
      refine hl.tight.mono ?_
      rintro j ⟨ad, he, rfl⟩
      obtain ⟨hf, hlt⟩ := hl.blk ad he
      refine ⟨?_, hlt⟩
      rcases hf with hf | hf
      · exact .inl (h1.AF _ hf)
      · exact .inr (Nat.le_trans hb.size hf)
    · rw [Sm.add_zl h.ok, List.map_append, h3]
      rfl
    · rcases List.mem_append.1 hr with hr | hr
      · obtain ⟨k1, k2, k3⟩ := h4 r hr
        have k4 := (k1.below hb).stT hst hbT
        exact ⟨k4, k2, fun j hj => ⟨.inl (k3 j hj), k4.lt j hj⟩⟩
      · obtain rfl : r = q.slot := by simpa using hr
        have k4 : BsR w2 q.A q.n q.c q.xs := hq.stT hst hbT
        exact ⟨k4, hq5, fun j hj => ⟨.inr (hqk j hj), k4.lt j hj⟩⟩
  have hrw2 : Lst 3 (fun j => (F j ∨ w.heap.size ≤ j) ∧ j < w2.heap.size) w2 B k d (intV m.row) := by
    have h5 : Lst 3 (BlkOf B) w2 B k d (intV m.row) := h1.rw.tight.st hst fun j hj hk => ((hT j hk).ne (u := 3) (by decide)) (h1.rw.tyd j hj)
    exact h5.mono fun j hj => ⟨.inl (h1.BF j hj), h5.lt j hj⟩
  have hs4 : St (· = g) w2 (w2.setCell ⟨g, 3, none⟩ (.slice A' n' c')) := St.setCell (F := (· = g)) w2 (a := ⟨g, 3, none⟩) rfl _
  have ht := hbk2.tyd
  refine ⟨fun j => (F j ∨ w.heap.size ≤ j) ∧ j < w2.heap.size, ⟨A', n', c', B, k, d, hbk2.set 3 (.slice A' n' c'), ?_, ?_, hF g h.fg, fun j hj => by simpa [World.setCell] using hj.2, hnm⟩, ?_, fun j hj => hj.1⟩
  · exact hls2.stT hs4 fun j hj => hj ▸ ⟨ht.ne (by decide), ht.ne (by decide)⟩
  · refine hrw2.same fun ad he => Below.heap_setCell _ _ _ _ ?_
    intro e
    exact (ht.ne (u := 3) (by decide)) (by have := hrw2.tyd _ ⟨ad, he, rfl⟩; rw [e] at this; exact this)
  · exact ((St.ext hb).trans (hst.mono fun j _ hj => h1.AF j hj) (Gr.refl _ _)).trans (hs4.mono fun j _ hj => hj ▸ h.fg) (Gr.refl _ _)
/-- One turn after another. -/
theorem Did.trans (h : Did F w g m w1) (k : ∀ F', SqC F' w1 g m → Did F' w1 g m' w2) : Did F w g m' w2 := by
  obtain ⟨F1, a1, a2, a3⟩ := h
  obtain ⟨F2, b1, b2, b3⟩ := k F1 a1
  exact ⟨F2, b1, a2.trans b2 a3, a3.trans b3 a2.size⟩
theorem Did.pre (hb : Below w.heap.size w w1) (h : Did F w1 g m w2) : Did F w g m w2 := by
  obtain ⟨F1, a1, a2, a3⟩ := h
  exact ⟨F1, a1, (St.ext hb).trans a2 (Gr.refl _ _), fun j hj => (a3 j hj).imp id (Nat.le_trans hb.size)⟩
def Sm.refuse (m : Sm) (k : Nat) : Int := if m.fits k then 0 else 8
def Sm.added (m : Sm) (l : List Pp) : Sm := if m.fits l.length then m.add l else m
set_option maxHeartbeats 4000000 in
theorem q_add {X : Nat → Prop} {P : Option Addr} {pn pc : Nat} {ps : List Pp} (h : SqC F w g m) (hp : SlX X w P pn pc ps) (hX : ∀ j, X j → ¬ F j) (hbg : m.L.length + ps.length ≤ 1000000000) :
    Calls Try.prog 11 #[.pointer (some ⟨g, 0, none⟩), .slice P pn pc] w fun e w' => e = .returned (.int .i64 (m.refuse ps.length)) ∧ Did F w g (m.added ps) w' := by
  have HM := Lib.hid (q_made h)
  have hpl := hp.len
  have HH0 := Lib.hid h
  obtain ⟨A, n, c, B, k, d, h⟩ := h
  have hn := h.hn
  have hbig := h.ok.big
  have hln := h.ok.ln
  have hnl := h.ok.nl
  have hrm := h.ok.rm
  have hm2 := h.ok.m2
  have c0 := h.bk.cell 0 rfl
  have c3 := h.bk.cell 3 rfl
  have hnb : n ≤ 4096 := by omega
  have hpb : pn ≤ 1000000000 := by omega
  have hmb : (m.most : Int) ≤ 4096 := by omega
  by_cases hf : m.fits ps.length
  · have HV : Hid (m.refuse ps.length = 0 ∧ m.added ps = m.add ps) := Lib.hid ⟨by unfold Sm.refuse; rw [if_pos hf], by unfold Sm.added; rw [if_pos hf]⟩
    have hgt : ¬ ((m.most : Int) - n < pn) := by unfold Sm.fits at hf; omega
    have HF := Lib.hid hf
    have HP := Lib.hid hp
    have HPL := Lib.hid hpl
    have HNm0 := Lib.hid h.ok
    clear h hp hf hn hln hnl hrm hpl
    go_enter Try.func11, Try.ntmps11
    go_wp2_with (go_at_call 32; refine HM.out.mono ?_; rintro e w' ⟨rfl, rfl⟩)
    go_quiet (fail)
    go_wp2
    have HD0 : Hid (Did F w g (m.add (ps.take 0)) (w.drewN nq)) := Lib.hid (by
      rw [List.take_zero, Sm.add_nil]
      exact ⟨F, HH0.out.below (Below.drewN_ w nq), St.ext (Below.drewN_ w nq), Gr.refl _ _⟩)
    clear c0 c3 HM
    go_loopw [6, 25] (fun a i W => ∃ j : Nat, i = .int .i64 j ∧ j ≤ pn ∧ Did F w g (m.add (ps.take j)) W) (fun a i _ => pn - (intOf i).toNat)
    case atStart => exact ⟨0, rfl, Nat.zero_le _, HD0.out⟩
    case round =>
      obtain ⟨j, rfl, hj, hd⟩ := hrel
      by_cases hlt : j < pn
      · have hjI : (j : Int) < pn := by omega
        have hd' := hd
        obtain ⟨F1, hc1, hs1, hg1⟩ := hd'
        obtain ⟨gp, op, q, rfl, hra, hrd, hq5, hat, hgp, _⟩ := (HP.out.st hs1 hX).row hlt
        have hb1 : Below wr.heap.size wr (wr.alloc (.cells #[.slice q.A q.n q.c, .bool q.en, .bool q.fn] 49)) := (Below.refl _ _).alloc (Nat.le_refl _) _
        have z1 := Bk.new wr 49 [.slice q.A q.n q.c, .bool q.en, .bool q.fn]
        have HZ1 := Lib.hid z1
        have HB1 := Lib.hid hb1
        have HRd := Lib.hid (hrd.below hb1)
        have HE : Hid (m.add (ps.take (j + 1)) = (m.add (ps.take j)).add [q.say]) := Lib.hid (by rw [Sm.add_add, List.take_add_one, hat]; rfl)
        have HNm : Hid ((m.add (ps.take (j + 1))).Nm) := Lib.hid (by
          have hl : (ps.take (j + 1)).length ≤ ps.length := by rw [List.length_take]; omega
          refine Sm.add_nm HNm0.out ?_ (by omega)
          have := HF.out
          unfold Sm.fits at this ⊢
          omega)
        have HD := Lib.hid hd
        obtain ⟨A1, n1, c1, B1, k1, d1, hc1⟩ := hc1
        have hn8 : (n1 + 1) * 40 ≤ 140737488355328 := by
          have h1 := hc1.hn
          have h2 := hc1.ok.rm
          have h3 := hc1.ok.m2
          omega
        have HC := Lib.hid hc1
        have HSG := Lib.hid (And.intro hs1 hg1)
        have hrange := hra
        clear hrd hat hd hc1 hs1 hg1 z1 hb1
        obtain ⟨dd, hd1, hd2⟩ := rowC.ht
        go_wp2_with (first
          | (with_reducible refine at_load 49 (.tmp 27) (by rfl) ?_
             refine wpList_load_mid rfl 49 (.tmp 27) rfl gp (op + j * 3) rfl [.slice q.A q.n q.c, .bool q.en, .bool q.fn] dd hra hd1 hd2 rowC.hi ?_
             clear hra hrange))
        refine wp_region_L (St (BlkOf A1)) [12] (by kernel_rfl) (fun wd hbd hsz => ?_)
        have hcd := (HC.out.below HB1.out).below hbd
        have HCd := Lib.hid hcd
        have HBD := Lib.hid (below_on HB1.out hbd)
        have HRd2 := Lib.hid (HRd.out.below hbd)
        have hgA := hcd.gA
        obtain ⟨qs, hqn, hls, hss, hqs⟩ := hcd.ls
        have HQS := Lib.hid (And.intro hqn (And.intro hss hqs))
        have HLS := Lib.hid hls
        have hzA : ¬ BlkOf A1 wr.heap.size := fun hk => by
          obtain ⟨ad, he, hb⟩ := hk
          have := (HC.out.ls.blkA _ he)
          omega
        have q3 : ∀ W, St (BlkOf A1) wd W → W.cell? ⟨g, 3, none⟩ = some (.slice A1 n1 c1) := fun W hW => (hcd.bk.st hW hgA).cell 3 rfl
        have z6 : ∀ W, St (BlkOf A1) wd W → Bk W 49 wr.heap.size [.slice q.A q.n q.c, .bool q.en, .bool q.fn] := fun W hW => (HZ1.out.below hbd).st hW hzA
        have HgA := Lib.hid hgA
        clear hsz hcd hqn hls hss hqs hgA
        (refine takeL (St.tr (BlkOf A1)) 0 (by simp only [List.getElem?_toArray, List.getElem?_cons_succ, List.getElem?_cons_zero]; rfl) (by kernel_rfl) (by kernel_rfl) (by kernel_rfl) (by kernel_rfl) (by exact fun _ _ _ h => h) (by first | (refine Or.inl ⟨by rfl, ?_⟩; intro W hW; go_simp; try with_reducible rfl) | exact Or.inr ⟨by rfl, rfl⟩) ?_; try simp only [Act.put, List.setIfInBounds_toArray, List.set_cons_zero, List.set_cons_succ])
        (refine takeL (St.tr (BlkOf A1)) 1 (by simp only [List.getElem?_toArray, List.getElem?_cons_succ, List.getElem?_cons_zero]; rfl) (by kernel_rfl) (by kernel_rfl) (by kernel_rfl) (by kernel_rfl) (by exact fun _ _ _ h => h) (by first | (refine Or.inl ⟨by rfl, ?_⟩; intro W hW; go_simp; try with_reducible rfl) | exact Or.inr ⟨by rfl, rfl⟩) ?_; try simp only [Act.put, List.setIfInBounds_toArray, List.set_cons_zero, List.set_cons_succ])
        (refine takeL (St.tr (BlkOf A1)) 5 (by simp only [List.getElem?_toArray, List.getElem?_cons_succ, List.getElem?_cons_zero]; rfl) (by kernel_rfl) (by kernel_rfl) (by kernel_rfl) (by kernel_rfl) (by exact fun _ _ _ h => h) (by first | (refine Or.inl ⟨by rfl, ?_⟩; intro W hW; exact exec_load_bk rowC (.tmp 6) rfl wr.heap.size 0 rfl (z6 W hW) [.slice q.A q.n q.c, .bool q.en, .bool q.fn] rfl rfl) | exact Or.inr ⟨by rfl, rfl⟩) ?_; try simp only [Act.put, List.setIfInBounds_toArray, List.set_cons_zero, List.set_cons_succ])
        (refine takeL (St.tr (BlkOf A1)) 2 (by simp only [List.getElem?_toArray, List.getElem?_cons_succ, List.getElem?_cons_zero]; rfl) (by kernel_rfl) (by kernel_rfl) (by kernel_rfl) (by kernel_rfl) (by exact fun _ _ _ h => h) (by first | (refine Or.inl ⟨by rfl, ?_⟩; intro W hW; go_simp; try with_reducible rfl) | exact Or.inr ⟨by rfl, rfl⟩) ?_; try simp only [Act.put, List.setIfInBounds_toArray, List.set_cons_zero, List.set_cons_succ])
        (refine takeL (St.tr (BlkOf A1)) 3 (by simp only [List.getElem?_toArray, List.getElem?_cons_succ, List.getElem?_cons_zero]; rfl) (by kernel_rfl) (by kernel_rfl) (by kernel_rfl) (by kernel_rfl) (by exact fun _ _ _ h => h) (by first | (refine Or.inl ⟨by rfl, ?_⟩; intro W hW; go_simp; try with_reducible rfl) | exact Or.inr ⟨by rfl, rfl⟩) ?_; try simp only [Act.put, List.setIfInBounds_toArray, List.set_cons_zero, List.set_cons_succ])
        (refine takeL (St.tr (BlkOf A1)) 4 (by simp only [List.getElem?_toArray, List.getElem?_cons_succ, List.getElem?_cons_zero]; rfl) (by kernel_rfl) (by kernel_rfl) (by kernel_rfl) (by kernel_rfl) (by exact fun _ _ _ h => h) (by first | (refine Or.inl ⟨by rfl, ?_⟩; intro W hW; go_simp; try with_reducible rfl) | exact Or.inr ⟨by rfl, rfl⟩) ?_; try simp only [Act.put, List.setIfInBounds_toArray, List.set_cons_zero, List.set_cons_succ])
        refine wpAnyL_one (i := 6) (by kernel_rfl) (by simp only [List.getElem?_toArray, List.getElem?_cons_succ, List.getElem?_cons_zero]; rfl) (fun K hK => ?_)
        go_simp
        refine (c_copied HRd2.out hq5).mono ?_
        rintro e w5 ⟨q', rfl, hsay, hbs5, hn5, hk5, hb5⟩
        have HQ := Lib.hid (And.intro hsay (And.intro hbs5 (And.intro hn5 (And.intro hk5 hb5))))
        clear hsay hbs5 hn5 hk5
        refine hK.out _ _ (.inr (St.ext hb5)) ?_
        clear hK K
        try simp only [Act.put, List.setIfInBounds_toArray, List.set_cons_zero, List.set_cons_succ]
        (refine takeL (St.tr (BlkOf A1)) 7 (by simp only [List.getElem?_toArray, List.getElem?_cons_succ, List.getElem?_cons_zero]; rfl) (by kernel_rfl) (by kernel_rfl) (by kernel_rfl) (by kernel_rfl) (by exact fun _ _ _ h => h) (by first | (refine Or.inl ⟨by rfl, ?_⟩; intro W hW; go_simp; try with_reducible rfl) | exact Or.inr ⟨by rfl, rfl⟩) ?_; try simp only [Act.put, List.setIfInBounds_toArray, List.set_cons_zero, List.set_cons_succ])
        refine wpAnyL_one (i := 8) (by kernel_rfl) (by simp only [List.getElem?_toArray, List.getElem?_cons_succ, List.getElem?_cons_zero]; rfl) (fun K hK => ?_)
        refine opwp_build_row eltS rfl (.tmp 36) rfl (xs := q'.slot.cl) rfl rfl ?_
        have hb8 := below_on HQ.out.2.2.2.2 ((Below.refl w5.heap.size w5).alloc (Nat.le_refl _) (.cells q'.slot.cl.toArray 70))
        have hla := ((HLS.out.below hb8).tight)
        have hu := RdR.one w5 70 q'.slot.cl q'.slot.cl_one
        have HB8 := Lib.hid hb8
        clear hb8
        refine hK.out _ _ (.inr (St.alloc _ _ _)) ?_
        clear hK K
        try simp only [Act.put, List.setIfInBounds_toArray, List.set_cons_zero, List.set_cons_succ]
        refine wpAnyL_one (i := 9) (by kernel_rfl) (by simp only [List.getElem?_toArray, List.getElem?_cons_succ, List.getElem?_cons_zero]; rfl) (fun K hK => ?_)
        refine opwp_append_lstR eltS rfl (.tmp 33) (.tmp 37) rfl rfl hla rfl hu hn8 ?_
        rintro v w2 hap
        obtain ⟨A9, n9, c9, rfl, _⟩ := hap.ex
        have hbk9 := ((HCd.out.below HB8.out).bk.st hap.st HgA.out)
        have c9' := hbk9.cell 3 rfl
        have f9' := hbk9.free 3
        have hst9 := hap.st
        have HD9 : Hid (Did F w g (m.add (ps.take (j + 1))) (w2.setCell ⟨g, 3, none⟩ (.slice A9 n9 c9))) := Lib.hid (by
          rw [HE.out, ← HQ.out.1]
          have hfin := Did.slot HCd.out HB8.out HLS.out HQS.out.2.1 HQS.out.2.2 HQS.out.1 (HQ.out.2.1.below ((Below.refl _ _).alloc (Nat.le_refl _) _)) HQ.out.2.2.1 HQ.out.2.2.2.1 hap (by rw [HQ.out.1, ← HE.out]; exact HNm.out)
          obtain ⟨F2, b1, b2, b3⟩ := Did.pre HBD.out hfin
          exact ⟨F2, b1, HSG.out.1.trans b2 HSG.out.2, HSG.out.2.trans b3 HSG.out.1.size⟩)
        clear hap hbk9 hla hu
        refine hK.out _ _ (.inr hst9) ?_
        clear hK K
        try simp only [Act.put, List.setIfInBounds_toArray, List.set_cons_zero, List.set_cons_succ]
        (refine takeL (St.tr (BlkOf A1)) 10 (by simp only [List.getElem?_toArray, List.getElem?_cons_succ, List.getElem?_cons_zero]; rfl) (by kernel_rfl) (by kernel_rfl) (by kernel_rfl) (by kernel_rfl) (by exact fun _ _ _ h => h) (by first | (refine Or.inl ⟨by rfl, ?_⟩; intro W hW; go_simp; try with_reducible rfl) | exact Or.inr ⟨by rfl, rfl⟩) ?_; try simp only [Act.put, List.setIfInBounds_toArray, List.set_cons_zero, List.set_cons_succ])
        (refine takeL (St.tr (BlkOf A1)) 11 (by simp only [List.getElem?_toArray, List.getElem?_cons_succ, List.getElem?_cons_zero]; rfl) (by kernel_rfl) (by kernel_rfl) (by kernel_rfl) (by kernel_rfl) (by exact fun _ _ _ h => h) (by first | (refine Or.inl ⟨by rfl, ?_⟩; intro W hW; go_simp; try with_reducible rfl) | exact Or.inr ⟨by rfl, rfl⟩) ?_; try simp only [Act.put, List.setIfInBounds_toArray, List.set_cons_zero, List.set_cons_succ])
        refine wpAnyL_one (i := 12) (by kernel_rfl) (by simp only [List.getElem?_toArray, List.getElem?_cons_succ, List.getElem?_cons_zero]; rfl) (fun K hK => ?_)
        go_simp
        refine hK.out _ _ (.inl (by decide)) ?_
        clear hK K
        try simp only [Act.put, List.setIfInBounds_toArray, List.set_cons_zero, List.set_cons_succ]
        refine wpAnyL_done (by kernel_rfl) ?_ _
        clear q3 z6
        go_wp2
        go_roundw
        case rel => exact ⟨j + 1, by go_num, by omega, HD9.out⟩
        case measure => simp [intOf]; omega
      · obtain rfl : j = pn := by omega
        have HD := Lib.hid hd
        clear hd
        go_wp2
        go_ret
        refine ⟨by rw [HV.out.1]; rfl, ?_⟩
        have := HD.out
        rw [List.take_of_length_le (by rw [HPL.out]; exact Nat.le_refl _)] at this
        rw [HV.out.2]
        exact this
  · have HV : Hid (m.refuse ps.length = 8 ∧ m.added ps = m) := Lib.hid ⟨by unfold Sm.refuse; rw [if_neg hf], by unfold Sm.added; rw [if_neg hf]⟩
    have hgt : (m.most : Int) - n < pn := by unfold Sm.fits at hf; omega
    clear h hp hf hn hln hnl hrm hpl
    go_enter Try.func11, Try.ntmps11
    go_wp2_with (go_at_call 32; refine HM.out.mono ?_; rintro e w' ⟨rfl, rfl⟩)
    go_quiet (fail)
    go_wp2
    go_ret
    exact ⟨by rw [HV.out.1]; rfl, by rw [HV.out.2]; exact ⟨F, HH0.out.below (Below.drewN_ w _), St.ext (Below.drewN_ w _), Gr.refl _ _⟩⟩
end
end Go.Proofs.Ytnakoplceplmmaa
