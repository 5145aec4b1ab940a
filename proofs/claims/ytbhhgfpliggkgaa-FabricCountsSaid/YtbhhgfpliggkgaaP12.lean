/- Ports: forked. -/
import Derived.Test.YtbhhgfpliggkgaaP11
set_option linter.unusedSimpArgs false
set_option linter.unusedVariables false
set_option maxRecDepth 100000
namespace Go.Proofs.Ytbhhgfpliggkgaa
open Go.RowKit Go.Shelf

section
variable {F X : Nat → Prop} {w w' : World} {b : Nat} {m : AM} {pl ph : Nat} {Fl Fh : Nat → Prop} {ql qh : List Pv}
/-- A queue like one, of its own. -/
def ForkedQ (Y : Nat → Prop) (w : World) (room : Nat) (ks : List Pk) (e : Ending) (w' : World) : Prop :=
  ∃ p2 F2 rs, e = .returned (.pointer (some ⟨p2, 0, none⟩)) ∧ Qs F2 w' p2 room rs ∧ rs.map Pv.pk = ks ∧ (∀ r ∈ rs, PvR (fun k => F2 k ∨ Y k) w' r) ∧ (∀ k, F2 k → w.heap.size ≤ k) ∧ Below w.heap.size w w'
theorem q_fork {Fq G Y : Nat → Prop} {p room : Nat} {qs : List Pv} (h : Qs Fq w p room qs) (hq : ∀ r ∈ qs, PvR G w r) (hY : ∀ k, Y k → k < w.heap.size) :
    Calls Try.prog 55 #[.pointer (some ⟨p, 0, none⟩)] w (ForkedQ Y w room (qs.map Pv.pk)) := by
  have HL := Lib.hid (q_len h)
  have HR := Lib.hid (q_room h)
  have hle := h.le
  have hlr := h.2.2.1
  have h0 := h.2.1
  have HN := Lib.hid (fun w => q_new room w h0 hlr)
  have HH := Lib.hid h
  have HQ := Lib.hid hq
  have HY := Lib.hid hY
  have hsum : (qs.length : Int) + ((room : Int) - qs.length) = room := by omega
  have HLe := Lib.hid hle
  clear h hq hY hle
  generalize hLn : (qs.length : Int) = L at *
  have HLn := Lib.hid hLn
  clear hLn
  go_enter Try.func55, Try.ntmps55
  go_wp2_with (first
    | (go_at_call 56; refine HL.out.mono ?_; rintro e w' ⟨rfl, rfl⟩)
    | (go_at_call 67; refine HR.out.mono ?_; rintro e w1 ⟨rfl, hb1⟩))
  refine (HN.out _).mono ?_
  rintro e w2 ⟨rfl, hq2, hb2⟩
  have hc2 := below_on hb1 hb2
  have HW1 := Lib.hid hb1.size
  have HA := Lib.hid (p_allAlike (F := fun k => k = w1.heap.size ∨ Y k) (HH.out.below hc2) (fun r hr => (HQ.out r hr).below hc2) (fun k hk => by
    rcases hk with rfl | hk
    · exact hq2.bd _ rfl
    · exact Nat.lt_of_lt_of_le (HY.out k hk) hc2.size))
  clear HL HR hb1 hb2
  go_wp2_with fail
  refine HA.out.mono ?_
  rintro e w3 ⟨A, n, c, rs, rfl, hn, hrk, hls, hrr, hb3⟩
  have hlen : rs.length = qs.length := by rw [← List.length_map (f := Pv.pk), hrk, List.length_map]
  have HP := Lib.hid (q_push rs A n c (hq2.below hb3) hn hls.rd (by have := HLe.out; simp; omega))
  have HRK := Lib.hid hrk
  have HRR := Lib.hid hrr
  have hc3 := below_on hc2 hb3
  clear hn hrk hls hq2 hlen HA hrr
  go_wp2_with fail
  refine HP.out.mono ?_
  rintro e w4 ⟨rfl, F4, hq4, hs4, hg4⟩
  rw [List.nil_append] at hq4
  have HG4 := Lib.hid hg4
  have HS4 := Lib.hid hs4
  have HC3 := Lib.hid hc3
  clear HP hg4 hs4 hc3
  go_wp2
  go_ret
  refine ⟨w1.heap.size, F4, rs, rfl, hq4, HRK.out, fun r hr => ?_, fun k hk => ?_, ?_⟩
  · exact (HRR.out r hr).st (HS4.out.mono fun k _ hk => .inl hk) fun k hk => by
      rcases hk with hk | hk
      · exact (HG4.out k hk).imp .inl id
      · exact .inl (.inr hk)
  · have h1 := HG4.out k hk
    have := HW1.out
    have := HC3.out.size
    omega
  · exact HC3.out.trans (HS4.out.below HC3.out.size fun k hk => by have := HW1.out; omega)
/-- A port like one, of its own. -/
def ForkedP (X : Nat → Prop) (w : World) (m : AM) (e : Ending) (w' : World) : Prop :=
  ∃ b2 F2 pl2 ph2 Fl2 Fh2 ql2 qh2, e = .returned (.pointer (some ⟨b2, 0, none⟩)) ∧ PbC F2 X w' b2 m pl2 ph2 Fl2 Fh2 ql2 qh2 ∧ (∀ k, F2 k → w.heap.size ≤ k) ∧ Below w.heap.size w w'
set_option maxHeartbeats 4000000 in
set_option maxRecDepth 100000 in
theorem pt_fork (h : PbC F X w b m pl ph Fl Fh ql qh) {Y : Nat → Prop} (hY : ∀ k, Y k → k < w.heap.size) :
    Calls Try.prog 37 #[.pointer (some ⟨b, 0, none⟩)] w (ForkedP Y w m) := by
  have HM := Lib.hid (pt_made h)
  have c0 := h.bk.cell 0 rfl
  have c1 := h.bk.cell 1 rfl
  have c2 := h.bk.cell 2 rfl
  have c3 := h.bk.cell 3 rfl
  have c4 := h.bk.cell 4 rfl
  have c5 := h.bk.cell 5 rfl
  have c6 := h.bk.cell 6 rfl
  have c7 := h.bk.cell 7 rfl
  have c8 := h.bk.cell 8 rfl
  have HH := Lib.hid h
  have HY := Lib.hid hY
  clear h hY
  go_enter Try.func37, Try.ntmps37
  go_wp2_with (go_at_call 49; refine HM.out.mono ?_; rintro e w' ⟨rfl, rfl⟩)
  have hz := Bk.new w 100 [.pointer (some ⟨pl, 0, none⟩), .pointer (some ⟨ph, 0, none⟩), .int .i64 m.wt, .int .i64 m.run, .int .i64 (m.ct 0), .int .i64 (m.ct 1), .int .i64 (m.ct 2), .int .i64 (m.ct 3), .int .i64 (m.ct 4)]
  have hba := (Below.refl w.heap.size w).alloc (Nat.le_refl _) (.cells (List.toArray [.pointer (some ⟨pl, 0, none⟩), .pointer (some ⟨ph, 0, none⟩), .int .i64 m.wt, .int .i64 m.run, .int .i64 (m.ct 0), .int .i64 (m.ct 1), .int .i64 (m.ct 2), .int .i64 (m.ct 3), .int .i64 (m.ct 4)]) 100)
  have hbne : b ≠ w.heap.size := by have := HH.out.bk.lt; omega
  clear c0 c1 c2 c3 c4 c5 c6 c7 c8 HM
  refine wp_region_E (Wr w.heap.size) (by kernel_rfl) (fun wd hbd hsz => ?_)
  have hbw := hba.trans (hbd.mono (by simp))
  have hp := HH.out.below hbw
  have HZ := Lib.hid (hz.below hbd)
  have HL := Lib.hid hp.lo
  have HHi := Lib.hid hp.hi
  have HPl := Lib.hid hp.pl_
  have HPh := Lib.hid hp.ph_
  have HBA := Lib.hid hbw
  have HZL := Lib.hid (hz.below hbd).lt
  have HSZ := Lib.hid hbw.size
  have HY1 : Hid (∀ k, (Y k ∨ k = w.heap.size) → k < wd.heap.size) := Lib.hid fun k hk => by
    rcases hk with hk | rfl
    · exact Nat.lt_of_lt_of_le (HY.out k hk) hbw.size
    · exact (hz.below hbd).lt
  have q0 : ∀ W, Wr w.heap.size wd W → W.cell? ⟨b, 0, none⟩ = some (.pointer (some ⟨pl, 0, none⟩)) := fun W hW => (hp.bk.wr hW hbne).cell 0 rfl
  have q1 : ∀ W, Wr w.heap.size wd W → W.cell? ⟨b, 1, none⟩ = some (.pointer (some ⟨ph, 0, none⟩)) := fun W hW => (hp.bk.wr hW hbne).cell 1 rfl
  clear hsz hbw hz hba hp hbd
  (refine takeE (wrTr w.heap.size) 0 (by simp only [List.getElem?_toArray, List.getElem?_cons_succ, List.getElem?_cons_zero]; rfl) (by kernel_rfl) (by kernel_rfl) (by kernel_rfl) (by exact fun _ _ _ h => h) (by first | (refine Or.inl ⟨by rfl, ?_⟩; intro W hW; go_simp; try with_reducible rfl) | exact Or.inr ⟨by rfl, rfl⟩) ?_; try simp only [Act.put, List.setIfInBounds_toArray, List.set_cons_zero, List.set_cons_succ])
  (refine takeE (wrTr w.heap.size) 5 (by simp only [List.getElem?_toArray, List.getElem?_cons_succ, List.getElem?_cons_zero]; rfl) (by kernel_rfl) (by kernel_rfl) (by kernel_rfl) (by exact fun _ _ _ h => h) (by first | (refine Or.inl ⟨by rfl, ?_⟩; intro W hW; go_simp; try with_reducible rfl) | exact Or.inr ⟨by rfl, rfl⟩) ?_; try simp only [Act.put, List.setIfInBounds_toArray, List.set_cons_zero, List.set_cons_succ])
  (refine takeE (wrTr w.heap.size) 1 (by simp only [List.getElem?_toArray, List.getElem?_cons_succ, List.getElem?_cons_zero]; rfl) (by kernel_rfl) (by kernel_rfl) (by kernel_rfl) (by exact fun _ _ _ h => h) (by first | (refine Or.inl ⟨by rfl, ?_⟩; intro W hW; go_simp; try with_reducible rfl) | exact Or.inr ⟨by rfl, rfl⟩) ?_; try simp only [Act.put, List.setIfInBounds_toArray, List.set_cons_zero, List.set_cons_succ])
  (refine takeE (wrTr w.heap.size) 6 (by simp only [List.getElem?_toArray, List.getElem?_cons_succ, List.getElem?_cons_zero]; rfl) (by kernel_rfl) (by kernel_rfl) (by kernel_rfl) (by exact fun _ _ _ h => h) (by first | (refine Or.inl ⟨by rfl, ?_⟩; intro W hW; go_simp; try with_reducible rfl) | exact Or.inr ⟨by rfl, rfl⟩) ?_; try simp only [Act.put, List.setIfInBounds_toArray, List.set_cons_zero, List.set_cons_succ])
  (refine takeE (wrTr w.heap.size) 2 (by simp only [List.getElem?_toArray, List.getElem?_cons_succ, List.getElem?_cons_zero]; rfl) (by kernel_rfl) (by kernel_rfl) (by kernel_rfl) (by exact fun _ _ _ h => h) (by first | (refine Or.inl ⟨by rfl, ?_⟩; intro W hW; go_simp; try with_reducible rfl) | exact Or.inr ⟨by rfl, rfl⟩) ?_; try simp only [Act.put, List.setIfInBounds_toArray, List.set_cons_zero, List.set_cons_succ])
  (refine takeE (wrTr w.heap.size) 7 (by simp only [List.getElem?_toArray, List.getElem?_cons_succ, List.getElem?_cons_zero]; rfl) (by kernel_rfl) (by kernel_rfl) (by kernel_rfl) (by exact fun _ _ _ h => h) (by first | (refine Or.inl ⟨by rfl, ?_⟩; intro W hW; go_simp; try with_reducible rfl) | exact Or.inr ⟨by rfl, rfl⟩) ?_; try simp only [Act.put, List.setIfInBounds_toArray, List.set_cons_zero, List.set_cons_succ])
  (refine takeE (wrTr w.heap.size) 3 (by simp only [List.getElem?_toArray, List.getElem?_cons_succ, List.getElem?_cons_zero]; rfl) (by kernel_rfl) (by kernel_rfl) (by kernel_rfl) (by exact fun _ _ _ h => h) (by first | (refine Or.inl ⟨by rfl, ?_⟩; intro W hW; go_simp; try with_reducible rfl) | exact Or.inr ⟨by rfl, rfl⟩) ?_; try simp only [Act.put, List.setIfInBounds_toArray, List.set_cons_zero, List.set_cons_succ])
  (refine takeE (wrTr w.heap.size) 8 (by simp only [List.getElem?_toArray, List.getElem?_cons_succ, List.getElem?_cons_zero]; rfl) (by kernel_rfl) (by kernel_rfl) (by kernel_rfl) (by exact fun _ _ _ h => h) (by first | (refine Or.inl ⟨by rfl, ?_⟩; intro W hW; go_simp; try with_reducible rfl) | exact Or.inr ⟨by rfl, rfl⟩) ?_; try simp only [Act.put, List.setIfInBounds_toArray, List.set_cons_zero, List.set_cons_succ])
  refine wpAnyE_one (i := 4) (by kernel_rfl) (by simp only [List.getElem?_toArray, List.getElem?_cons_succ, List.getElem?_cons_zero]; rfl) (fun K hK => ?_)
  go_simp
  refine (q_fork (HL.out) HPl.out (Y := fun k => Y k ∨ k = w.heap.size) HY1.out).mono ?_
  rintro e w1 ⟨p1, F1, r1, rfl, hq1, hk1, hr1, hf1, hb1⟩
  have HY2 : Hid (∀ k, ((Y k ∨ k = w.heap.size) ∨ F1 k) → k < w1.heap.size) := Lib.hid fun k hk => hk.elim (fun hk => Nat.lt_of_lt_of_le (HY1.out k hk) hb1.size) (hq1.bd k)
  refine hK.out _ _ (Wr.of_below hb1) ?_
  clear hK K
  try simp only [Act.put, List.setIfInBounds_toArray, List.set_cons_zero, List.set_cons_succ]
  refine wpAnyE_one (i := 9) (by kernel_rfl) (by simp only [List.getElem?_toArray, List.getElem?_cons_succ, List.getElem?_cons_zero]; rfl) (fun K hK => ?_)
  go_simp
  refine (q_fork (HHi.out.below hb1) (fun r hr => (HPh.out r hr).below hb1) (Y := fun k => (Y k ∨ k = w.heap.size) ∨ F1 k) HY2.out).mono ?_
  rintro e w2 ⟨p2, F2, r2, rfl, hq2, hk2, hr2, hf2, hb2⟩
  have hz2 := (HZ.out.below hb1).below hb2
  have z0 := hz2.cell 0 rfl
  have g0 := hz2.free 0
  have z1 := (hz2.set 0 (.pointer (some ⟨p1, 0, none⟩))).cell 1 rfl
  have g1 := (hz2.set 0 (.pointer (some ⟨p1, 0, none⟩))).free 1
  have HQ1 := Lib.hid (hq1.below hb2)
  have HQ2 := Lib.hid hq2
  have HK1 := Lib.hid hk1
  have HK2 := Lib.hid hk2
  have HR1 := Lib.hid hr1
  have HB12 := Lib.hid hb2
  have HR2 := Lib.hid hr2
  have HF1 := Lib.hid hf1
  have HF2 := Lib.hid hf2
  have HZ2 := Lib.hid hz2
  have HS1 := Lib.hid hb1.size
  have HB2 := Lib.hid (below_on (below_on HBA.out hb1) hb2)
  clear hq1 hk1 hr1 hf1 hq2 hk2 hr2 hf2 hz2
  refine hK.out _ _ (Wr.of_below hb2) ?_
  clear hK K
  try simp only [Act.put, List.setIfInBounds_toArray, List.set_cons_zero, List.set_cons_succ]
  (refine takeE (wrTr w.heap.size) 10 (by simp only [List.getElem?_toArray, List.getElem?_cons_succ, List.getElem?_cons_zero]; rfl) (by kernel_rfl) (by kernel_rfl) (by kernel_rfl) (by exact fun _ _ _ h => h) (by first | (refine Or.inl ⟨by rfl, ?_⟩; intro W hW; go_simp; try with_reducible rfl) | exact Or.inr ⟨by rfl, rfl⟩) ?_; try simp only [Act.put, List.setIfInBounds_toArray, List.set_cons_zero, List.set_cons_succ])
  refine wpAnyE_one (i := 11) (by kernel_rfl) (by simp only [List.getElem?_toArray, List.getElem?_cons_succ, List.getElem?_cons_zero]; rfl) (fun K hK => ?_)
  go_simp
  refine hK.out _ _ (Wr.set _ _ _ _) ?_
  clear hK K
  try simp only [Act.put, List.setIfInBounds_toArray, List.set_cons_zero, List.set_cons_succ]
  (refine takeE (wrTr w.heap.size) 12 (by simp only [List.getElem?_toArray, List.getElem?_cons_succ, List.getElem?_cons_zero]; rfl) (by kernel_rfl) (by kernel_rfl) (by kernel_rfl) (by exact fun _ _ _ h => h) (by first | (refine Or.inl ⟨by rfl, ?_⟩; intro W hW; go_simp; try with_reducible rfl) | exact Or.inr ⟨by rfl, rfl⟩) ?_; try simp only [Act.put, List.setIfInBounds_toArray, List.set_cons_zero, List.set_cons_succ])
  refine wpAnyE_one (i := 13) (by kernel_rfl) (by simp only [List.getElem?_toArray, List.getElem?_cons_succ, List.getElem?_cons_zero]; rfl) (fun K hK => ?_)
  go_simp
  refine hK.out _ _ (Wr.set _ _ _ _) ?_
  clear hK K
  try simp only [Act.put, List.setIfInBounds_toArray, List.set_cons_zero, List.set_cons_succ]
  refine wpAnyE_done (by kernel_rfl) ?_ _
  go_wp2
  go_ret
  refine ⟨w.heap.size, fun k => k = w.heap.size ∨ F1 k ∨ F2 k, p1, p2, F1, F2, r1, r2, rfl, ?_, ?_, ?_⟩
  · have hg : ∀ k, k = w.heap.size ∨ F1 k ∨ F2 k → k < w2.heap.size := fun k hk => by
      rcases hk with rfl | hk | hk
      · exact HZ2.out.lt
      · exact HQ1.out.bd k hk
      · exact HQ2.out.bd k hk
    have hr1' : ∀ q ∈ r1, PvR (fun k => (k = w.heap.size ∨ F1 k ∨ F2 k) ∨ Y k) w2 q := fun q hq => ((HR1.out q hq).gr fun k hk => by
      rcases hk with (rfl | hk | hk) | hk
      · exact .inl (.inr (.inr rfl))
      · exact .inl (.inl hk)
      · exact .inr (HF2.out k hk)
      · exact .inl (.inr (.inl hk))).below HB12.out
    have hr2' : ∀ q ∈ r2, PvR (fun k => (k = w.heap.size ∨ F1 k ∨ F2 k) ∨ Y k) w2 q := fun q hq => (HR2.out q hq).mono fun k hk => by
      rcases hk with (rfl | hk | hk) | hk
      · exact .inr (.inl (.inr rfl))
      · exact .inr (.inr hk)
      · exact .inl hk
      · exact .inr (.inl (.inl hk))
    have hs : St (· = w.heap.size) w2 ((w2.setCell ⟨w.heap.size, 0, none⟩ (.pointer (some ⟨p1, 0, none⟩))).setCell ⟨w.heap.size, 1, none⟩ (.pointer (some ⟨p2, 0, none⟩))) := (St.setCell (F := (· = w.heap.size)) w2 (a := ⟨w.heap.size, 0, none⟩) rfl _).trans (St.setCell (F := (· = w.heap.size)) _ (a := ⟨w.heap.size, 1, none⟩) rfl _) (Gr.refl _ _)
    have hsx : St (fun k => (k = w.heap.size ∨ F1 k ∨ F2 k) ∨ Y k) w2 _ := hs.mono fun k _ hk => .inl (.inl hk)
    have hn1 : ∀ k, F1 k → k ≠ w.heap.size := fun k hk => by have := HF1.out k hk; have := HZL.out; omega
    have hn2 : ∀ k, F2 k → k ≠ w.heap.size := fun k hk => by have := HF2.out k hk; have := HZL.out; have := HS1.out; omega
    have hbd1 : ∀ k, F1 k → k < w1.heap.size := fun k hk => HY2.out k (.inr hk)
    exact ⟨(HZ2.out.set 0 _).set 1 _, HH.out.w1, HH.out.w2, HH.out.ru, HQ1.out.st hs hn1, HQ2.out.st hs hn2, HK1.out.trans HH.out.lk, HK2.out.trans HH.out.hk, fun q hq => (hr1' q hq).st hsx (Gr.refl _ _), fun q hq => (hr2' q hq).st hsx (Gr.refl _ _), fun k => Iff.rfl, fun hf => hn1 _ hf rfl, fun hf => hn2 _ hf rfl, fun k h1 h2 => by have := hbd1 k h1; have := HF2.out k h2; omega,
      fun k hk => Nat.lt_of_lt_of_le (HY.out k hk) (Nat.le_trans HB2.out.size hs.size)⟩
  · intro k hk
    have := HSZ.out
    have := HS1.out
    rcases hk with rfl | hk | hk
    · exact Nat.le_refl _
    · have := HF1.out k hk; omega
    · have := HF2.out k hk; omega
  · exact (HB2.out.setCell (p := ⟨w.heap.size, 0, none⟩) (Nat.le_refl _) _).setCell (p := ⟨w.heap.size, 1, none⟩) (Nat.le_refl _) _
end
end Go.Proofs.Ytbhhgfpliggkgaa
