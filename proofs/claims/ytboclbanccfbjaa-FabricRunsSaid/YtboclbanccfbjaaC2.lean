/- Texts of this proof, put together: P11 P12 P13 F0 F1 F2 F3 F4 -/
import Derived.Test.YtboclbanccfbjaaC1
namespace Go.Proofs.Ytboclbanccfbjaa
set_option linter.unusedSimpArgs false
set_option linter.unusedVariables false
set_option maxRecDepth 100000
open Go.RowKit Go.Shelf
def fitB (n : Int) : Bool := decide (1 ≤ n ∧ n ≤ 1024)
theorem p_fits (n : Int) (w : World) : Calls Try.prog 42 #[.int .i64 n] w fun e w' => e = .returned (.bool (fitB n)) ∧ w = w' := by
  unfold fitB
  by_cases h1 : 1 ≤ n
  · by_cases h2 : n ≤ 1024 <;>
    · go_enter Try.func42, Try.ntmps42
      go_wp2
      go_ret
      exact ⟨by simp [h1, h2], rfl⟩
  · go_enter Try.func42, Try.ntmps42
    go_wp2
    go_ret
    exact ⟨by simp; omega, rfl⟩
def AM.new (low high wt : Nat) : AM := ⟨[], [], low, high, wt, 0, fun _ => 0⟩
section
variable {F X : Nat → Prop} {w w' : World} {b : Nat} {m : AM} {pl ph : Nat} {Fl Fh : Nat → Prop} {ql qh : List Pv}
theorem pt_new (low high wt : Nat) (w : World) (hX : ∀ k, X k → k < w.heap.size) (h1 : 1 ≤ low) (h2 : low ≤ 1024) (h3 : 1 ≤ high) (h4 : high ≤ 1024) (h5 : 1 ≤ wt) (h6 : wt ≤ 1024) :
    Calls Try.prog 26 #[.int .i64 low, .int .i64 high, .int .i64 wt] w fun e w' => e = .returned (.tuple #[.pointer (some ⟨w.heap.size, 0, none⟩), .int .i64 0]) ∧ Below w.heap.size w w' ∧
      ∃ F pl ph Fl Fh, PbC F X w' w.heap.size (AM.new low high wt) pl ph Fl Fh [] [] ∧ ∀ k, F k → w.heap.size ≤ k := by
  have HF : ∀ n : Nat, 1 ≤ n → n ≤ 1024 → ∀ w, Calls Try.prog 42 #[.int .i64 n] w fun e w' => e = .returned (.bool true) ∧ w = w' := fun n hn1 hn2 w => by
    have := p_fits n w
    rw [show fitB n = true by simp [fitB]; omega] at this; exact this
  have HFL := Lib.hid (HF low h1 h2)
  have HFH := Lib.hid (HF high h3 h4)
  have HFW := Lib.hid (HF wt h5 h6)
  have H2 := Lib.hid hX
  have HNL := Lib.hid (fun w => q_new low w h1 h2)
  have HNH := Lib.hid (fun w => q_new high w h3 h4)
  have HB := Lib.hid (And.intro h5 h6)
  clear HF h1 h2 h3 h4 h5 h6 hX
  go_enter Try.func26, Try.ntmps26
  go_wp2_with (first
    | (with_reducible refine (HFL.out _).mono ?_; rintro e w' ⟨rfl, rfl⟩)
    | (with_reducible refine (HFH.out _).mono ?_; rintro e w' ⟨rfl, rfl⟩)
    | (with_reducible refine (HFW.out _).mono ?_; rintro e w' ⟨rfl, rfl⟩))
  refine (HNL.out _).mono ?_
  rintro e w1 ⟨rfl, hq1, hb1⟩
  have hp := (Bk.new w 100 [.pointer none, .pointer none, .int .i64 wt, .int .i64 0, .int .i64 0, .int .i64 0, .int .i64 0, .int .i64 0, .int .i64 0]).below hb1
  have hb01 : Below w.heap.size w w1 := ((Below.refl _ _).alloc (Nat.le_refl _) _).trans (hb1.mono (by simp))
  rw [World.size_alloc] at hq1
  have hp2 := hp.set 0 (.pointer (some ⟨w.heap.size + 1, 0, none⟩))
  have hq2 := hq1.st (St.setCell (F := (· = w.heap.size)) w1 (a := ⟨w.heap.size, 0, none⟩) rfl (.pointer (some ⟨w.heap.size + 1, 0, none⟩))) (fun k hk => by omega)
  have hb2 := hb01.setCell (p := ⟨w.heap.size, 0, none⟩) (Nat.le_refl _) (.pointer (some ⟨w.heap.size + 1, 0, none⟩))
  have c0 := hp.cell 0 rfl
  have f0 := hp.free 0
  clear hp hq1 hb1 hb01
  go_wp2_with fail
  have hlt1 : w.heap.size + 1 < w1.heap.size := by have := hq2.bd (w.heap.size + 1) rfl; simpa [World.setCell] using this
  have hsz2 : (w1.setCell ⟨w.heap.size, 0, none⟩ (.pointer (some ⟨w.heap.size + 1, 0, none⟩))).heap.size = w1.heap.size := by simp [World.setCell]
  generalize w1.setCell ⟨w.heap.size, 0, none⟩ (.pointer (some ⟨w.heap.size + 1, 0, none⟩)) = W2 at *
  refine (HNH.out _).mono ?_
  rintro e w3 ⟨rfl, hq3, hb3⟩
  have hp3 := hp2.below hb3
  have hq4 := hq2.below hb3
  have hb4 := below_on hb2 hb3
  rw [hsz2] at hq3
  rw [hsz2]
  have HSZ := Lib.hid hsz2
  clear hsz2 c0 f0
  have c1 := hp3.cell 1 rfl
  have f1 := hp3.free 1
  have hs6 := St.setCell (F := (· = w.heap.size)) w3 (a := ⟨w.heap.size, 1, none⟩) rfl (.pointer (some ⟨w1.heap.size, 0, none⟩))
  have hp5 : Bk _ 100 w.heap.size (ptL (w.heap.size + 1) w1.heap.size wt 0 (fun _ => 0)) := hp3.set 1 (.pointer (some ⟨w1.heap.size, 0, none⟩))
  have hq5 := hq4.st hs6 (fun k hk => by omega)
  have hq6 := hq3.st hs6 (fun k hk => by omega)
  have hb6 := hb4.setCell (p := ⟨w.heap.size, 1, none⟩) (Nat.le_refl _) (.pointer (some ⟨w1.heap.size, 0, none⟩))
  clear hp2 hq2 hb2 hp3 hq4 hq3 hb3 hs6
  go_wp2
  go_ret2
  refine ⟨rfl, hb6, fun k => k = w.heap.size ∨ k = w.heap.size + 1 ∨ k = w1.heap.size, w.heap.size + 1, w1.heap.size, (· = w.heap.size + 1), (· = w1.heap.size), ⟨hp5, HB.out.1, HB.out.2, Nat.zero_le _, hq5, hq6, rfl, rfl, by simp, by simp, fun k => Iff.rfl, by omega, by omega, fun k hk hk2 => by omega, fun k hk => Nat.lt_of_lt_of_le (H2.out k hk) hb6.size⟩, fun k hk => by omega⟩
theorem pt_new_bad (low high wt : Int) (w : World) (h : fitB low = false ∨ fitB high = false ∨ fitB wt = false) :
    Calls Try.prog 26 #[.int .i64 low, .int .i64 high, .int .i64 wt] w fun e w' => e = .returned (.tuple #[.pointer none, .int .i64 80]) ∧ w = w' := by
  have HFL := Lib.hid (p_fits low)
  have HFH := Lib.hid (p_fits high)
  have HFW := Lib.hid (p_fits wt)
  rcases (by cases h1 : fitB low <;> cases h2 : fitB high <;> simp_all : fitB low = false ∨ (fitB low = true ∧ fitB high = false) ∨ (fitB low = true ∧ fitB high = true ∧ fitB wt = false)) with h1 | ⟨h1, h2⟩ | ⟨h1, h2, h3⟩
  all_goals
    rw [h1] at HFL
    try rw [h2] at HFH
    try rw [h3] at HFW
    clear h
    go_enter Try.func26, Try.ntmps26
    go_wp2_with (first
      | (with_reducible refine (HFL.out _).mono ?_; rintro e w' ⟨rfl, rfl⟩)
      | (with_reducible refine (HFH.out _).mono ?_; rintro e w' ⟨rfl, rfl⟩)
      | (with_reducible refine (HFW.out _).mono ?_; rintro e w' ⟨rfl, rfl⟩))
    go_ret2
    exact ⟨rfl, rfl⟩
end
end Go.Proofs.Ytboclbanccfbjaa
namespace Go.Proofs.Ytboclbanccfbjaa
set_option linter.unusedSimpArgs false
set_option linter.unusedVariables false
set_option maxRecDepth 100000
open Go.RowKit Go.Shelf
section
variable {F X : Nat → Prop} {w w' : World} {b : Nat} {m : AM} {pl ph : Nat} {Fl Fh : Nat → Prop} {ql qh : List Pv}
/-- A queue like one, of its own. -/
def ForkedQ (Y : Nat → Prop) (w : World) (room : Nat) (ks : List Pk) (e : Ending) (w' : World) : Prop :=
  ∃ p2 F2 rs, e = .returned (.pointer (some ⟨p2, 0, none⟩)) ∧ Qs F2 w' p2 room rs ∧ rs.map Pv.pk = ks ∧ (∀ r ∈ rs, PvR (fun k => F2 k ∨ Y k) w' r) ∧ (∀ k, F2 k → w.heap.size ≤ k) ∧ Below w.heap.size w w'
theorem q_fork {Fq G Y : Nat → Prop} {p room : Nat} {qs : List Pv} (h : Qs Fq w p room qs) (hq : ∀ r ∈ qs, PvR G w r) (hY : ∀ k, Y k → k < w.heap.size) :
    Calls Try.prog 55 #[.pointer (some ⟨p, 0, none⟩)] w (ForkedQ Y w room (qs.map Pv.pk)) := by
  have HL := Lib.hid (q_len h)
  have HR := Lib.hid (q_room h)
  have hle := h.le
  have hlr := h.2.2.1
  have h0 := h.2.1
  have HN := Lib.hid (fun w => q_new room w h0 hlr)
  have HH := Lib.hid h
  have HQ := Lib.hid hq
  have HY := Lib.hid hY
  have hsum : (qs.length : Int) + ((room : Int) - qs.length) = room := by omega
  have HLe := Lib.hid hle
  clear h hq hY hle
  generalize hLn : (qs.length : Int) = L at *
  have HLn := Lib.hid hLn
  clear hLn
  go_enter Try.func55, Try.ntmps55
  go_wp2_with (first
    | (go_at_call 56; refine HL.out.mono ?_; rintro e w' ⟨rfl, rfl⟩)
    | (go_at_call 67; refine HR.out.mono ?_; rintro e w1 ⟨rfl, hb1⟩))
  refine (HN.out _).mono ?_
  rintro e w2 ⟨rfl, hq2, hb2⟩
  have hc2 := below_on hb1 hb2
  have HW1 := Lib.hid hb1.size
  have HA := Lib.hid (p_allAlike (F := fun k => k = w1.heap.size ∨ Y k) (HH.out.below hc2) (fun r hr => (HQ.out r hr).below hc2) (fun k hk => by
    rcases hk with rfl | hk
    · exact hq2.bd _ rfl
    · exact Nat.lt_of_lt_of_le (HY.out k hk) hc2.size))
  clear HL HR hb1 hb2
  go_wp2_with fail
  refine HA.out.mono ?_
  rintro e w3 ⟨A, n, c, rs, rfl, hn, hrk, hls, hrr, hb3⟩
  have hlen : rs.length = qs.length := by rw [← List.length_map (f := Pv.pk), hrk, List.length_map]
  have HP := Lib.hid (q_push rs A n c (hq2.below hb3) hn hls.rd (by have := HLe.out; simp; omega))
  have HRK := Lib.hid hrk
  have HRR := Lib.hid hrr
  have hc3 := below_on hc2 hb3
  clear hn hrk hls hq2 hlen HA hrr
  go_wp2_with fail
  refine HP.out.mono ?_
  rintro e w4 ⟨rfl, F4, hq4, hs4, hg4⟩
  rw [List.nil_append] at hq4
  have HG4 := Lib.hid hg4
  have HS4 := Lib.hid hs4
  have HC3 := Lib.hid hc3
  clear HP hg4 hs4 hc3
  go_wp2
  go_ret
  refine ⟨w1.heap.size, F4, rs, rfl, hq4, HRK.out, fun r hr => ?_, fun k hk => ?_, ?_⟩
  · exact (HRR.out r hr).st (HS4.out.mono fun k _ hk => .inl hk) fun k hk => by
      rcases hk with hk | hk
      · exact (HG4.out k hk).imp .inl id
      · exact .inl (.inr hk)
  · have h1 := HG4.out k hk
    have := HW1.out
    have := HC3.out.size
    omega
  · exact HC3.out.trans (HS4.out.below HC3.out.size fun k hk => by have := HW1.out; omega)
/-- A port like one, of its own. -/
def ForkedP (X : Nat → Prop) (w : World) (m : AM) (e : Ending) (w' : World) : Prop :=
  ∃ b2 F2 pl2 ph2 Fl2 Fh2 ql2 qh2, e = .returned (.pointer (some ⟨b2, 0, none⟩)) ∧ PbC F2 X w' b2 m pl2 ph2 Fl2 Fh2 ql2 qh2 ∧ (∀ k, F2 k → w.heap.size ≤ k) ∧ Below w.heap.size w w'
set_option maxHeartbeats 4000000 in
set_option maxRecDepth 100000 in
theorem pt_fork (h : PbC F X w b m pl ph Fl Fh ql qh) {Y : Nat → Prop} (hY : ∀ k, Y k → k < w.heap.size) :
    Calls Try.prog 37 #[.pointer (some ⟨b, 0, none⟩)] w (ForkedP Y w m) := by
  have HM := Lib.hid (pt_made h)
  have c0 := h.bk.cell 0 rfl
  have c1 := h.bk.cell 1 rfl
  have c2 := h.bk.cell 2 rfl
  have c3 := h.bk.cell 3 rfl
  have c4 := h.bk.cell 4 rfl
  have c5 := h.bk.cell 5 rfl
  have c6 := h.bk.cell 6 rfl
  have c7 := h.bk.cell 7 rfl
  have c8 := h.bk.cell 8 rfl
  have HH := Lib.hid h
  have HY := Lib.hid hY
  clear h hY
  go_enter Try.func37, Try.ntmps37
  go_wp2_with (go_at_call 49; refine HM.out.mono ?_; rintro e w' ⟨rfl, rfl⟩)
  have hz := Bk.new w 100 [.pointer (some ⟨pl, 0, none⟩), .pointer (some ⟨ph, 0, none⟩), .int .i64 m.wt, .int .i64 m.run, .int .i64 (m.ct 0), .int .i64 (m.ct 1), .int .i64 (m.ct 2), .int .i64 (m.ct 3), .int .i64 (m.ct 4)]
  have hba := (Below.refl w.heap.size w).alloc (Nat.le_refl _) (.cells (List.toArray [.pointer (some ⟨pl, 0, none⟩), .pointer (some ⟨ph, 0, none⟩), .int .i64 m.wt, .int .i64 m.run, .int .i64 (m.ct 0), .int .i64 (m.ct 1), .int .i64 (m.ct 2), .int .i64 (m.ct 3), .int .i64 (m.ct 4)]) 100)
  have hbne : b ≠ w.heap.size := by have := HH.out.bk.lt; omega
  clear c0 c1 c2 c3 c4 c5 c6 c7 c8 HM
  refine wp_region_E (Wr w.heap.size) (by kernel_rfl) (fun wd hbd hsz => ?_)
  have hbw := hba.trans (hbd.mono (by simp))
  have hp := HH.out.below hbw
  have HZ := Lib.hid (hz.below hbd)
  have HL := Lib.hid hp.lo
  have HHi := Lib.hid hp.hi
  have HPl := Lib.hid hp.pl_
  have HPh := Lib.hid hp.ph_
  have HBA := Lib.hid hbw
  have HZL := Lib.hid (hz.below hbd).lt
  have HSZ := Lib.hid hbw.size
  have HY1 : Hid (∀ k, (Y k ∨ k = w.heap.size) → k < wd.heap.size) := Lib.hid fun k hk => by
    rcases hk with hk | rfl
    · exact Nat.lt_of_lt_of_le (HY.out k hk) hbw.size
    · exact (hz.below hbd).lt
  have q0 : ∀ W, Wr w.heap.size wd W → W.cell? ⟨b, 0, none⟩ = some (.pointer (some ⟨pl, 0, none⟩)) := fun W hW => (hp.bk.wr hW hbne).cell 0 rfl
  have q1 : ∀ W, Wr w.heap.size wd W → W.cell? ⟨b, 1, none⟩ = some (.pointer (some ⟨ph, 0, none⟩)) := fun W hW => (hp.bk.wr hW hbne).cell 1 rfl
  clear hsz hbw hz hba hp hbd
  (refine takeE (wrTr w.heap.size) 0 (by simp only [List.getElem?_toArray, List.getElem?_cons_succ, List.getElem?_cons_zero]; rfl) (by kernel_rfl) (by kernel_rfl) (by kernel_rfl) (by exact fun _ _ _ h => h) (by first | (refine Or.inl ⟨by rfl, ?_⟩; intro W hW; go_simp; try with_reducible rfl) | exact Or.inr ⟨by rfl, rfl⟩) ?_; try simp only [Act.put, List.setIfInBounds_toArray, List.set_cons_zero, List.set_cons_succ])
  (refine takeE (wrTr w.heap.size) 5 (by simp only [List.getElem?_toArray, List.getElem?_cons_succ, List.getElem?_cons_zero]; rfl) (by kernel_rfl) (by kernel_rfl) (by kernel_rfl) (by exact fun _ _ _ h => h) (by first | (refine Or.inl ⟨by rfl, ?_⟩; intro W hW; go_simp; try with_reducible rfl) | exact Or.inr ⟨by rfl, rfl⟩) ?_; try simp only [Act.put, List.setIfInBounds_toArray, List.set_cons_zero, List.set_cons_succ])
  (refine takeE (wrTr w.heap.size) 1 (by simp only [List.getElem?_toArray, List.getElem?_cons_succ, List.getElem?_cons_zero]; rfl) (by kernel_rfl) (by kernel_rfl) (by kernel_rfl) (by exact fun _ _ _ h => h) (by first | (refine Or.inl ⟨by rfl, ?_⟩; intro W hW; go_simp; try with_reducible rfl) | exact Or.inr ⟨by rfl, rfl⟩) ?_; try simp only [Act.put, List.setIfInBounds_toArray, List.set_cons_zero, List.set_cons_succ])
  (refine takeE (wrTr w.heap.size) 6 (by simp only [List.getElem?_toArray, List.getElem?_cons_succ, List.getElem?_cons_zero]; rfl) (by kernel_rfl) (by kernel_rfl) (by kernel_rfl) (by exact fun _ _ _ h => h) (by first | (refine Or.inl ⟨by rfl, ?_⟩; intro W hW; go_simp; try with_reducible rfl) | exact Or.inr ⟨by rfl, rfl⟩) ?_; try simp only [Act.put, List.setIfInBounds_toArray, List.set_cons_zero, List.set_cons_succ])
  (refine takeE (wrTr w.heap.size) 2 (by simp only [List.getElem?_toArray, List.getElem?_cons_succ, List.getElem?_cons_zero]; rfl) (by kernel_rfl) (by kernel_rfl) (by kernel_rfl) (by exact fun _ _ _ h => h) (by first | (refine Or.inl ⟨by rfl, ?_⟩; intro W hW; go_simp; try with_reducible rfl) | exact Or.inr ⟨by rfl, rfl⟩) ?_; try simp only [Act.put, List.setIfInBounds_toArray, List.set_cons_zero, List.set_cons_succ])
  (refine takeE (wrTr w.heap.size) 7 (by simp only [List.getElem?_toArray, List.getElem?_cons_succ, List.getElem?_cons_zero]; rfl) (by kernel_rfl) (by kernel_rfl) (by kernel_rfl) (by exact fun _ _ _ h => h) (by first | (refine Or.inl ⟨by rfl, ?_⟩; intro W hW; go_simp; try with_reducible rfl) | exact Or.inr ⟨by rfl, rfl⟩) ?_; try simp only [Act.put, List.setIfInBounds_toArray, List.set_cons_zero, List.set_cons_succ])
  (refine takeE (wrTr w.heap.size) 3 (by simp only [List.getElem?_toArray, List.getElem?_cons_succ, List.getElem?_cons_zero]; rfl) (by kernel_rfl) (by kernel_rfl) (by kernel_rfl) (by exact fun _ _ _ h => h) (by first | (refine Or.inl ⟨by rfl, ?_⟩; intro W hW; go_simp; try with_reducible rfl) | exact Or.inr ⟨by rfl, rfl⟩) ?_; try simp only [Act.put, List.setIfInBounds_toArray, List.set_cons_zero, List.set_cons_succ])
  (refine takeE (wrTr w.heap.size) 8 (by simp only [List.getElem?_toArray, List.getElem?_cons_succ, List.getElem?_cons_zero]; rfl) (by kernel_rfl) (by kernel_rfl) (by kernel_rfl) (by exact fun _ _ _ h => h) (by first | (refine Or.inl ⟨by rfl, ?_⟩; intro W hW; go_simp; try with_reducible rfl) | exact Or.inr ⟨by rfl, rfl⟩) ?_; try simp only [Act.put, List.setIfInBounds_toArray, List.set_cons_zero, List.set_cons_succ])
  refine wpAnyE_one (i := 4) (by kernel_rfl) (by simp only [List.getElem?_toArray, List.getElem?_cons_succ, List.getElem?_cons_zero]; rfl) (fun K hK => ?_)
  go_simp
  refine (q_fork (HL.out) HPl.out (Y := fun k => Y k ∨ k = w.heap.size) HY1.out).mono ?_
  rintro e w1 ⟨p1, F1, r1, rfl, hq1, hk1, hr1, hf1, hb1⟩
  have HY2 : Hid (∀ k, ((Y k ∨ k = w.heap.size) ∨ F1 k) → k < w1.heap.size) := Lib.hid fun k hk => hk.elim (fun hk => Nat.lt_of_lt_of_le (HY1.out k hk) hb1.size) (hq1.bd k)
  refine hK.out _ _ (Wr.of_below hb1) ?_
  clear hK K
  try simp only [Act.put, List.setIfInBounds_toArray, List.set_cons_zero, List.set_cons_succ]
  refine wpAnyE_one (i := 9) (by kernel_rfl) (by simp only [List.getElem?_toArray, List.getElem?_cons_succ, List.getElem?_cons_zero]; rfl) (fun K hK => ?_)
  go_simp
  refine (q_fork (HHi.out.below hb1) (fun r hr => (HPh.out r hr).below hb1) (Y := fun k => (Y k ∨ k = w.heap.size) ∨ F1 k) HY2.out).mono ?_
  rintro e w2 ⟨p2, F2, r2, rfl, hq2, hk2, hr2, hf2, hb2⟩
  have hz2 := (HZ.out.below hb1).below hb2
  have z0 := hz2.cell 0 rfl
  have g0 := hz2.free 0
  have z1 := (hz2.set 0 (.pointer (some ⟨p1, 0, none⟩))).cell 1 rfl
  have g1 := (hz2.set 0 (.pointer (some ⟨p1, 0, none⟩))).free 1
  have HQ1 := Lib.hid (hq1.below hb2)
  have HQ2 := Lib.hid hq2
  have HK1 := Lib.hid hk1
  have HK2 := Lib.hid hk2
  have HR1 := Lib.hid hr1
  have HB12 := Lib.hid hb2
  have HR2 := Lib.hid hr2
  have HF1 := Lib.hid hf1
  have HF2 := Lib.hid hf2
  have HZ2 := Lib.hid hz2
  have HS1 := Lib.hid hb1.size
  have HB2 := Lib.hid (below_on (below_on HBA.out hb1) hb2)
  clear hq1 hk1 hr1 hf1 hq2 hk2 hr2 hf2 hz2
  refine hK.out _ _ (Wr.of_below hb2) ?_
  clear hK K
  try simp only [Act.put, List.setIfInBounds_toArray, List.set_cons_zero, List.set_cons_succ]
  (refine takeE (wrTr w.heap.size) 10 (by simp only [List.getElem?_toArray, List.getElem?_cons_succ, List.getElem?_cons_zero]; rfl) (by kernel_rfl) (by kernel_rfl) (by kernel_rfl) (by exact fun _ _ _ h => h) (by first | (refine Or.inl ⟨by rfl, ?_⟩; intro W hW; go_simp; try with_reducible rfl) | exact Or.inr ⟨by rfl, rfl⟩) ?_; try simp only [Act.put, List.setIfInBounds_toArray, List.set_cons_zero, List.set_cons_succ])
  refine wpAnyE_one (i := 11) (by kernel_rfl) (by simp only [List.getElem?_toArray, List.getElem?_cons_succ, List.getElem?_cons_zero]; rfl) (fun K hK => ?_)
  go_simp
  refine hK.out _ _ (Wr.set _ _ _ _) ?_
  clear hK K
  try simp only [Act.put, List.setIfInBounds_toArray, List.set_cons_zero, List.set_cons_succ]
  (refine takeE (wrTr w.heap.size) 12 (by simp only [List.getElem?_toArray, List.getElem?_cons_succ, List.getElem?_cons_zero]; rfl) (by kernel_rfl) (by kernel_rfl) (by kernel_rfl) (by exact fun _ _ _ h => h) (by first | (refine Or.inl ⟨by rfl, ?_⟩; intro W hW; go_simp; try with_reducible rfl) | exact Or.inr ⟨by rfl, rfl⟩) ?_; try simp only [Act.put, List.setIfInBounds_toArray, List.set_cons_zero, List.set_cons_succ])
  refine wpAnyE_one (i := 13) (by kernel_rfl) (by simp only [List.getElem?_toArray, List.getElem?_cons_succ, List.getElem?_cons_zero]; rfl) (fun K hK => ?_)
  go_simp
  refine hK.out _ _ (Wr.set _ _ _ _) ?_
  clear hK K
  try simp only [Act.put, List.setIfInBounds_toArray, List.set_cons_zero, List.set_cons_succ]
  refine wpAnyE_done (by kernel_rfl) ?_ _
  go_wp2
  go_ret
  refine ⟨w.heap.size, fun k => k = w.heap.size ∨ F1 k ∨ F2 k, p1, p2, F1, F2, r1, r2, rfl, ?_, ?_, ?_⟩
  · have hg : ∀ k, k = w.heap.size ∨ F1 k ∨ F2 k → k < w2.heap.size := fun k hk => by
      rcases hk with rfl | hk | hk
      · exact HZ2.out.lt
      · exact HQ1.out.bd k hk
      · exact HQ2.out.bd k hk
    have hr1' : ∀ q ∈ r1, PvR (fun k => (k = w.heap.size ∨ F1 k ∨ F2 k) ∨ Y k) w2 q := fun q hq => ((HR1.out q hq).gr fun k hk => by
      rcases hk with (rfl | hk | hk) | hk
      · exact .inl (.inr (.inr rfl))
      · exact .inl (.inl hk)
      · exact .inr (HF2.out k hk)
      · exact .inl (.inr (.inl hk))).below HB12.out
    have hr2' : ∀ q ∈ r2, PvR (fun k => (k = w.heap.size ∨ F1 k ∨ F2 k) ∨ Y k) w2 q := fun q hq => (HR2.out q hq).mono fun k hk => by
      rcases hk with (rfl | hk | hk) | hk
      · exact .inr (.inl (.inr rfl))
      · exact .inr (.inr hk)
      · exact .inl hk
      · exact .inr (.inl (.inl hk))
    have hs : St (· = w.heap.size) w2 ((w2.setCell ⟨w.heap.size, 0, none⟩ (.pointer (some ⟨p1, 0, none⟩))).setCell ⟨w.heap.size, 1, none⟩ (.pointer (some ⟨p2, 0, none⟩))) := (St.setCell (F := (· = w.heap.size)) w2 (a := ⟨w.heap.size, 0, none⟩) rfl _).trans (St.setCell (F := (· = w.heap.size)) _ (a := ⟨w.heap.size, 1, none⟩) rfl _) (Gr.refl _ _)
    have hsx : St (fun k => (k = w.heap.size ∨ F1 k ∨ F2 k) ∨ Y k) w2 _ := hs.mono fun k _ hk => .inl (.inl hk)
    have hn1 : ∀ k, F1 k → k ≠ w.heap.size := fun k hk => by have := HF1.out k hk; have := HZL.out; omega
    have hn2 : ∀ k, F2 k → k ≠ w.heap.size := fun k hk => by have := HF2.out k hk; have := HZL.out; have := HS1.out; omega
    have hbd1 : ∀ k, F1 k → k < w1.heap.size := fun k hk => HY2.out k (.inr hk)
    exact ⟨(HZ2.out.set 0 _).set 1 _, HH.out.w1, HH.out.w2, HH.out.ru, HQ1.out.st hs hn1, HQ2.out.st hs hn2, HK1.out.trans HH.out.lk, HK2.out.trans HH.out.hk, fun q hq => (hr1' q hq).st hsx (Gr.refl _ _), fun q hq => (hr2' q hq).st hsx (Gr.refl _ _), fun k => Iff.rfl, fun hf => hn1 _ hf rfl, fun hf => hn2 _ hf rfl, fun k h1 h2 => by have := hbd1 k h1; have := HF2.out k h2; omega,
      fun k hk => Nat.lt_of_lt_of_le (HY.out k hk) (Nat.le_trans HB2.out.size hs.size)⟩
  · intro k hk
    have := HSZ.out
    have := HS1.out
    rcases hk with rfl | hk | hk
    · exact Nat.le_refl _
    · have := HF1.out k hk; omega
    · have := HF2.out k hk; omega
  · exact (HB2.out.setCell (p := ⟨w.heap.size, 0, none⟩) (Nat.le_refl _) _).setCell (p := ⟨w.heap.size, 1, none⟩) (Nat.le_refl _) _
end
end Go.Proofs.Ytboclbanccfbjaa
namespace Go.Proofs.Ytboclbanccfbjaa
set_option linter.unusedSimpArgs false
set_option linter.unusedVariables false
set_option maxRecDepth 100000
open Go.RowKit Go.Shelf
/-- A slice of packets that reads, off F. -/
def SlP (F : Nat → Prop) (w : World) (A : Option Addr) (n c : Nat) (ks : List Pk) : Prop :=
  ∃ qs : List Pv, n = qs.length ∧ RdR 9 w A n c (flat Pv.cl qs) ∧ qs.map Pv.pk = ks ∧ (∀ q ∈ qs, PvR F w q) ∧ (0 < n → ∀ ad, A = some ad → ¬ F ad.block)
section
variable {F F' : Nat → Prop} {w w' : World} {A : Option Addr} {n c : Nat} {ks : List Pk}
theorem SlP.st (h : SlP F w A n c ks) (hs : St F w w') (hg : Gr F F' w.heap.size) : SlP F' w' A n c ks := by
  obtain ⟨qs, h1, h2, h3, h4, h5⟩ := h
  exact ⟨qs, h1, h2.st hs h5, h3, fun q hq => (h4 q hq).st hs hg, fun hn ad he => hg.not (h2.blk hn ad he) (h5 hn ad he)⟩
theorem SlP.below (h : SlP F w A n c ks) (hb : Below w.heap.size w w') : SlP F w' A n c ks := by
  obtain ⟨qs, h1, h2, h3, h4, h5⟩ := h
  exact ⟨qs, h1, h2.below hb, h3, fun q hq => (h4 q hq).below hb, h5⟩
theorem SlP.len (h : SlP F w A n c ks) : ks.length = n := by
  obtain ⟨qs, h1, h2, h3, h4, h5⟩ := h
  rw [← h3, List.length_map, h1]
theorem SlP.nil (F : Nat → Prop) (w : World) : SlP F w none 0 0 [] := ⟨[], rfl, RdR.nil _ _, rfl, by simp, fun h => absurd h (by omega)⟩
theorem SlP.cut (h : SlP F w A n c ks) (hn : 1 ≤ n) : SlP F w (cutR A c 1 9) (n - 1) (c - 1) ks.tail := by
  obtain ⟨qs, h1, h2, h3, h4, h5⟩ := h
  refine ⟨qs.drop 1, by rw [List.length_drop, h1], ?_, by rw [List.map_drop, h3, List.drop_one], fun q hq => h4 q (List.mem_of_mem_drop hq), ?_⟩
  · rw [flat_drop Pv.cl_len qs 1 (by omega)]; exact h2.cut hn
  · intro hp ad he
    unfold cutR at he
    rw [if_neg (by have := h2.2.1; omega)] at he
    cases hA : A with
    | none => rw [hA] at he; simp at he
    | some a =>
      rw [hA] at he
      simp at he
      have := h5 (by omega) a hA
      subst he
      unfold Addr.add
      split <;> exact this
/-- The first packet. -/
theorem SlP.head (h : SlP F w A n c ks) (hn : 0 < n) : ∃ g o q, A = some ⟨g, o, none⟩ ∧ w.rangeAt g o q.cl ∧ PvR F w q ∧ q.pk = ks.headD Pk.zero ∧ g < w.heap.size := by
  obtain ⟨qs, h1, h2, h3, h4, h5⟩ := h
  obtain ⟨g, o, hA, hg, hra⟩ := h2.range hn
  cases qs with
  | nil => simp at h1; omega
  | cons q qs =>
    have hrow := flat_row Pv.cl_len (q :: qs) 0 (by simp)
    simp only [Nat.zero_mul, Nat.add_zero, List.drop_zero, List.getElem_cons_zero] at hrow hra
    rw [hrow] at hra
    exact ⟨g, o, q, hA, hra, h4 q List.mem_cons_self, by rw [← h3]; rfl, hg⟩
/-- Row i of two of them. -/
theorem SlP.row (h : SlP F w A n c ks) {i : Nat} (hi : i < n) : ∃ g o q, A = some ⟨g, o, none⟩ ∧ w.rangeAt g (o + i * 9) q.cl ∧ PvR F w q ∧ some q.pk = ks[i]? ∧ g < w.heap.size := by
  obtain ⟨qs, h1, h2, h3, h4, h5⟩ := h
  obtain ⟨g, o, hA, hg, hra⟩ := h2.range hi
  have hl : i < qs.length := by omega
  rw [flat_row Pv.cl_len qs i hl] at hra
  exact ⟨g, o, qs[i], hA, hra, h4 _ (List.getElem_mem _), by rw [← h3, List.getElem?_map, List.getElem?_eq_getElem hl]; rfl, hg⟩
/-- Many of them are a row of its own, or are made. -/
theorem MadeA.sl {Y : Nat → Prop} {e : Ending} (h : MadeA Y w ks e w') (hY : ∀ k, Y k → k < w.heap.size) : ∃ A n c, e = .returned (.slice A n c) ∧ SlP Y w' A n c ks ∧ Below w.heap.size w w' := by
  obtain ⟨A, n, c, rs, h1, h2, h3, h4, h5, h6⟩ := h
  exact ⟨A, n, c, h1, ⟨rs, h2, h4.rd, h3, h5, fun hn ad he hy => by have := (h4.blk ad he).1; have := hY _ hy; omega⟩, h6⟩
end
/-- A port by value: its two slices. -/
structure RV where
  a1 : Option Addr
  n1 : Nat
  c1 : Nat
  a2 : Option Addr
  n2 : Nat
  c2 : Nat
structure RpR (F : Nat → Prop) (w : World) (r : RV) (m : AM) : Prop where
  lo : SlP F w r.a1 r.n1 r.c1 m.low
  hi : SlP F w r.a2 r.n2 r.c2 m.high
theorem RpR.st {F F' : Nat → Prop} {w w' : World} {r : RV} {m : AM} (h : RpR F w r m) (hs : St F w w') (hg : Gr F F' w.heap.size) : RpR F' w' r m := ⟨h.lo.st hs hg, h.hi.st hs hg⟩
theorem RpR.below {F : Nat → Prop} {w w' : World} {r : RV} {m : AM} (h : RpR F w r m) (hb : Below w.heap.size w w') : RpR F w' r m := ⟨h.lo.below hb, h.hi.below hb⟩
theorem rowR : Row Try.prog 76 11 := ⟨⟨_, rfl, rfl⟩, by kernel_rfl⟩
section
variable {F : Nat → Prop} {w : World} {r : RV} {m : AM}
theorem r_new (low high wt : Int) (w : World) (h1 : fitB low = true) (h2 : fitB high = true) (h3 : fitB wt = true) :
    Calls Try.prog 27 #[.int .i64 low, .int .i64 high, .int .i64 wt] w fun e w' => e = .returned (.tuple #[.agg #[.slice none 0 0, .slice none 0 0, .int .i64 low, .int .i64 high, .int .i64 wt, .int .i64 0, .int .i64 0, .int .i64 0, .int .i64 0, .int .i64 0, .int .i64 0], .int .i64 0]) ∧ Below w.heap.size w w' := by
  simp only [fitB, decide_eq_true_eq] at h1 h2 h3
  obtain ⟨h1, h1'⟩ := h1
  obtain ⟨h2, h2'⟩ := h2
  obtain ⟨h3, h3'⟩ := h3
  go_enter Try.func27, Try.ntmps27
  go_wp2
  exact bodyPost_ret (results_cell_tmp rfl rfl (rowR.load (Bk.new w 76 [.slice none 0 0, .slice none 0 0, .int .i64 low, .int .i64 high, .int .i64 wt, .int .i64 0, .int .i64 0, .int .i64 0, .int .i64 0, .int .i64 0, .int .i64 0]) 0 rfl rfl)) rfl ⟨rfl, (Below.refl _ _).alloc (Nat.le_refl _) _⟩
theorem r_new_bad (low high wt : Int) (w : World) (h : fitB low = false ∨ fitB high = false ∨ fitB wt = false) :
    Calls Try.prog 27 #[.int .i64 low, .int .i64 high, .int .i64 wt] w fun e w' => e = .returned (.tuple #[.agg #[.slice none 0 0, .slice none 0 0, .int .i64 0, .int .i64 0, .int .i64 0, .int .i64 0, .int .i64 0, .int .i64 0, .int .i64 0, .int .i64 0, .int .i64 0], .int .i64 80]) ∧ Below w.heap.size w w' := by
  simp only [fitB, decide_eq_false_iff_not] at h
  rcases (by omega : low < 1 ∨ (1 ≤ low ∧ 1024 < low) ∨ (1 ≤ low ∧ low ≤ 1024 ∧ high < 1) ∨ (1 ≤ low ∧ low ≤ 1024 ∧ 1 ≤ high ∧ 1024 < high) ∨ (1 ≤ low ∧ low ≤ 1024 ∧ 1 ≤ high ∧ high ≤ 1024 ∧ wt < 1) ∨ (1 ≤ low ∧ low ≤ 1024 ∧ 1 ≤ high ∧ high ≤ 1024 ∧ 1 ≤ wt ∧ 1024 < wt)) with h1 | ⟨h1, h2⟩ | ⟨h1, h2, h3⟩ | ⟨h1, h2, h3, h4⟩ | ⟨h1, h2, h3, h4, h5⟩ | ⟨h1, h2, h3, h4, h5, h6⟩
  all_goals
    clear h
    go_enter Try.func27, Try.ntmps27
    go_wp2
    exact bodyPost_ret (results_cell_tmp rfl rfl (rowR.load (Bk.new w 76 [.slice none 0 0, .slice none 0 0, .int .i64 0, .int .i64 0, .int .i64 0, .int .i64 0, .int .i64 0, .int .i64 0, .int .i64 0, .int .i64 0, .int .i64 0]) 0 (cs := [.slice none 0 0, .slice none 0 0, .int .i64 0, .int .i64 0, .int .i64 0, .int .i64 0, .int .i64 0, .int .i64 0, .int .i64 0, .int .i64 0, .int .i64 0]) rfl rfl)) rfl ⟨by kernel_rfl, (Below.refl _ _).alloc (Nat.le_refl _) _⟩
theorem r_high (h : RpR F w r m) :
    Calls Try.prog 47 #[.agg #[.slice r.a1 r.n1 r.c1, .slice r.a2 r.n2 r.c2, .int .i64 m.lr, .int .i64 m.hr, .int .i64 m.wt, .int .i64 m.run, .int .i64 (m.ct 0), .int .i64 (m.ct 1), .int .i64 (m.ct 2), .int .i64 (m.ct 3), .int .i64 (m.ct 4)]] w fun e w' => e = .returned (.bool m.hiB) ∧ Below w.heap.size w w' := by
  have h1 := h.lo.len
  have h2 := h.hi.len
  have HB : Hid (m.hiB = (decide ((0 : Int) < r.n2) && (((r.n1 : Int) == 0) || decide ((m.run : Int) < m.wt)))) := Lib.hid (by
    unfold AM.hiB; rw [h1, h2]
    have e1 : ((r.n1 : Int) == 0) = (r.n1 == 0) := by cases hn : r.n1 == 0 <;> simp_all <;> omega
    rw [e1]; simp)
  clear h h1 h2
  by_cases c1 : 0 < r.n2
  · by_cases c2 : r.n1 = 0
    · have c2' : ((r.n1 : Int) == 0) = true := by simp [c2]
      go_enter Try.func47, Try.ntmps47
      go_wp2
      go_ret
      exact ⟨by rw [HB.out, c2']; simp [c1], (Below.refl _ _).alloc (Nat.le_refl _) _⟩
    · have c2' : ((r.n1 : Int) == 0) = false := by simp; omega
      go_enter Try.func47, Try.ntmps47
      go_wp2
      go_ret
      exact ⟨by rw [HB.out, c2']; simp [c1], (Below.refl _ _).alloc (Nat.le_refl _) _⟩
  · go_enter Try.func47, Try.ntmps47
    go_wp2
    go_ret
    exact ⟨by rw [HB.out]; simp [c1], (Below.refl _ _).alloc (Nat.le_refl _) _⟩
/-- A row longer by one. -/
theorem r_with {A : Option Addr} {n c : Nat} {ks : List Pk} {q : Pv} (h : SlP F w A n c ks) (hq : PvR F w q) (hF : ∀ k, F k → k < w.heap.size) (hn : n ≤ 2000) :
    Calls Try.prog 48 #[.slice A n c, .agg #[.int .i64 q.h.kd, .int .i64 q.h.fl, .int .i64 q.h.pa, .int .i64 q.h.sr, .int .i64 q.h.ds, .int .i64 q.h.cn, .int .i64 q.h.sq, .int .i64 q.h.pu, .slice q.A q.n q.c]] w fun e w' => ∃ A' n' c', e = .returned (.slice A' n' c') ∧ SlP F w' A' n' c' (ks ++ [q.pk]) ∧ Below w.heap.size w w' := by
  obtain ⟨qs, h1, h2, h3, h4, h5⟩ := h
  have hz := Bk.new w 65 [.int .i64 q.h.kd, .int .i64 q.h.fl, .int .i64 q.h.pa, .int .i64 q.h.sr, .int .i64 q.h.ds, .int .i64 q.h.cn, .int .i64 q.h.sq, .int .i64 q.h.pu, .slice q.A q.n q.c]
  have hlm : LstR 9 65 (w.heap.size ≤ ·) ((w.alloc (.cells (List.toArray [.int .i64 q.h.kd, .int .i64 q.h.fl, .int .i64 q.h.pa, .int .i64 q.h.sr, .int .i64 q.h.ds, .int .i64 q.h.cn, .int .i64 q.h.sq, .int .i64 q.h.pu, .slice q.A q.n q.c]) 65)).alloc (.cells #[] 65)) (some ⟨w.heap.size + 1, 0, none⟩) 0 0 [] := by
    have := (LstR.made 9 (w.alloc (.cells (List.toArray [.int .i64 q.h.kd, .int .i64 q.h.fl, .int .i64 q.h.pa, .int .i64 q.h.sr, .int .i64 q.h.ds, .int .i64 q.h.cn, .int .i64 q.h.sq, .int .i64 q.h.pu, .slice q.A q.n q.c]) 65)) 65 #[] 0 0 [] rfl (Nat.le_refl _) (by simp) (Nat.zero_le _) (by simp) (by simp)).mono (F' := (w.heap.size ≤ ·)) (fun k hk => by simp at hk; omega)
    simpa using this
  have hr := (h2.alloc (.cells (List.toArray [.int .i64 q.h.kd, .int .i64 q.h.fl, .int .i64 q.h.pa, .int .i64 q.h.sr, .int .i64 q.h.ds, .int .i64 q.h.cn, .int .i64 q.h.sq, .int .i64 q.h.pu, .slice q.A q.n q.c]) 65)).alloc (.cells #[] 65)
  have H1 := Lib.hid h1
  have H3 := Lib.hid h3
  have H4 := Lib.hid h4
  have HQ := Lib.hid hq
  have HF := Lib.hid hF
  clear h1 h3 h4 hq hF h5 h2
  go_enter Try.func48, Try.ntmps48
  go_wp2_with (first
    | (at_builtin
       refine wpList_append_lstR eltP rfl (.tmp 6) (.tmp 7) rfl rfl hlm.tight rfl hr (by omega) ?_
       rintro v w1 ⟨⟨A1, n1, c1, rfl, hl1⟩, hst1⟩
       rw [List.nil_append] at hl1
       have hnb : ¬ BlkOf (some ⟨w.heap.size + 1, 0, none⟩) w.heap.size := by rintro ⟨ad, he, hk⟩; injection he with he; subst he; simp at hk
       have hz1 := (hz.alloc (.cells #[] 65)).st hst1 hnb
       have hb1 : Below w.heap.size w w1 := (((Below.refl w.heap.size w).alloc (Nat.le_refl _) (.cells (List.toArray [.int .i64 q.h.kd, .int .i64 q.h.fl, .int .i64 q.h.pa, .int .i64 q.h.sr, .int .i64 q.h.ds, .int .i64 q.h.cn, .int .i64 q.h.sq, .int .i64 q.h.pu, .slice q.A q.n q.c]) 65)).alloc (by simp) (.cells #[] 65)).trans (hst1.below (by simp; omega) (by rintro k ⟨ad, he, rfl⟩; injection he with he; subst he; simp))
       have hn1 : n1 = n := by have e1 : _ = n1 * 9 := hl1.1; rw [flat_len Pv.cl_len] at e1; have := H1.out; omega
       have hlw : ∀ k, BlkOf A1 k → w.heap.size ≤ k := by
         rintro k ⟨ad, he, rfl⟩
         rcases (hl1.blk ad he).1 with ⟨ad0, h0, h1⟩ | h1
         · injection h0 with h0; subst h0; rw [← h1]; simp
         · simp at h1; omega
       have hl1' := hl1.tight.alloc (.cells (List.toArray [.int .i64 q.h.kd, .int .i64 q.h.fl, .int .i64 q.h.pa, .int .i64 q.h.sr, .int .i64 q.h.ds, .int .i64 q.h.cn, .int .i64 q.h.sq, .int .i64 q.h.pu, .slice q.A q.n q.c]) 65)
       have hrd : RdR 9 (w1.alloc (.cells (List.toArray [.int .i64 q.h.kd, .int .i64 q.h.fl, .int .i64 q.h.pa, .int .i64 q.h.sr, .int .i64 q.h.ds, .int .i64 q.h.cn, .int .i64 q.h.sq, .int .i64 q.h.pu, .slice q.A q.n q.c]) 65)) (some ⟨w1.heap.size, 0, none⟩) 1 1 q.cl := RdR.one w1 65 q.cl q.cl_one
       have hb2 := hb1.alloc hb1.size (.cells (List.toArray [.int .i64 q.h.kd, .int .i64 q.h.fl, .int .i64 q.h.pa, .int .i64 q.h.sr, .int .i64 q.h.ds, .int .i64 q.h.cn, .int .i64 q.h.sq, .int .i64 q.h.pu, .slice q.A q.n q.c]) 65)
       have HN1 := Lib.hid hn1
       have HLW := Lib.hid hlw
       have hnn : n1 ≤ 2000 := by omega
       clear hz hlm hr hl1 hst1 hn1 hnb hlw hb1)
    | (with_reducible refine at_load 65 (.tmp 3) (by rfl) ?_; refine wpList_load_pk rowP rfl (.tmp 3) rfl q w.heap.size 0 rfl (Bk.pk (q := q) hz1) ?_)
    | (at_builtin
       refine wpList_append_lstR eltP rfl (.tmp 9) (.tmp 11) rfl rfl hl1' rfl hrd (by omega) ?_
       rintro v w3 ⟨⟨A3, n3, c3, rfl, hl3⟩, hst3⟩))
  rw [← flat_one (cl := Pv.cl) q, ← flat_app] at hl3
  have hb3 : Below w.heap.size w w3 := hb2.trans (hst3.below hb2.size HLW.out)
  have hoff : ∀ k, BlkOf A3 k → w.heap.size ≤ k := by
    rintro k ⟨ad, he, rfl⟩
    rcases (hl3.blk ad he).1 with h0 | h0
    · exact HLW.out _ h0
    · have := hb2.size; omega
  have HN3 : Hid (n3 = (qs ++ [q]).length) := Lib.hid (by have e1 : _ = n3 * 9 := hl3.1; rw [flat_len Pv.cl_len] at e1; omega)
  have HO := Lib.hid hoff
  clear hoff
  go_ret
  refine ⟨A3, n3, c3, rfl, ⟨qs ++ [q], HN3.out, hl3.rd, by rw [List.map_append, H3.out]; rfl, fun r hr => ?_, fun hn ad he hf => ?_⟩, hb3⟩
  · rcases List.mem_append.1 hr with hr | hr
    · exact (H4.out r hr).below hb3
    · rw [List.mem_singleton.1 hr]; exact HQ.out.below hb3
  · have := HO.out _ ⟨ad, he, rfl⟩; have := HF.out _ hf; omega
theorem new2 {T T' : TypeId} {w w1 : World} {vs vs' : List Value} (hb : Below ((w.alloc (.cells vs.toArray T)).alloc (.cells vs'.toArray T')).heap.size ((w.alloc (.cells vs.toArray T)).alloc (.cells vs'.toArray T')) w1) :
    Bk w1 T w.heap.size vs ∧ Bk w1 T' (w.heap.size + 1) vs' ∧ Below w.heap.size w w1 :=
  ⟨((Bk.new w T vs).alloc _).below hb, by have h := (Bk.new (w.alloc (.cells vs.toArray T)) T' vs').below hb; simpa using h, (((Below.refl _ _).alloc (Nat.le_refl _) _).alloc (by simp) _).trans (hb.mono (by simp; omega))⟩
theorem exec_loadRow {P : Program} {w : World} {ty : TypeId} {op : Oper} {a : Act} (R : Row P ty 9) (x : Operand) (ho : op.op = .load ty x) (g o : Nat) (hx : a.eval x = .pointer (some ⟨g, o, none⟩)) (q : Pv) (h : w.rangeAt g o q.cl) : (execOp a.eval op).run P w = .ok (.value (.agg #[.int .i64 q.h.kd, .int .i64 q.h.fl, .int .i64 q.h.pa, .int .i64 q.h.sr, .int .i64 q.h.ds, .int .i64 q.h.cn, .int .i64 q.h.sq, .int .i64 q.h.pu, .slice q.A q.n q.c])) w := by
  obtain ⟨d, h1, h2⟩ := R.ht
  have hl := run_loadVar_mid w g o ty q.cl d h h1 h2 R.hi
  unfold execOp
  simp only [ho, hx, Instr.loadAt, Instr.sureAddr, Sem.run_bind, Sem.run_pure, Result.andThen_ok, hl]
  rfl
theorem range_below {w w1 : World} {g o : Nat} {cs : List Value} (h : w.rangeAt g o cs) (hg : g < w.heap.size) (hb : Below w.heap.size w w1) : w1.rangeAt g o cs := fun j v hv => (hb.cell (p := ⟨g, o + j, none⟩) hg).trans (h j v hv)
set_option maxHeartbeats 1000000 in
theorem r_peek (h : RpR F w r m) (hF : ∀ k, F k → k < w.heap.size) :
    Calls Try.prog 46 #[.agg #[.slice r.a1 r.n1 r.c1, .slice r.a2 r.n2 r.c2, .int .i64 m.lr, .int .i64 m.hr, .int .i64 m.wt, .int .i64 m.run, .int .i64 (m.ct 0), .int .i64 (m.ct 1), .int .i64 (m.ct 2), .int .i64 (m.ct 3), .int .i64 (m.ct 4)]] w fun e w' => ∃ q', e = .returned (.tuple #[.agg #[.int .i64 q'.h.kd, .int .i64 q'.h.fl, .int .i64 q'.h.pa, .int .i64 q'.h.sr, .int .i64 q'.h.ds, .int .i64 q'.h.cn, .int .i64 q'.h.sq, .int .i64 q'.h.pu, .slice q'.A q'.n q'.c], .bool (!(m.sel m.hiB).isEmpty)]) ∧ q'.pk = (m.sel m.hiB).headD Pk.zero ∧ PvR F w' q' ∧ Below w.heap.size w w' := by
  have HH : Hid (∀ o o', Calls Try.prog 47 #[.agg #[.slice r.a1 r.n1 r.c1, .slice r.a2 r.n2 r.c2, .int .i64 m.lr, .int .i64 m.hr, .int .i64 m.wt, .int .i64 m.run, .int .i64 (m.ct 0), .int .i64 (m.ct 1), .int .i64 (m.ct 2), .int .i64 (m.ct 3), .int .i64 (m.ct 4)]] ((w.alloc o).alloc o') fun e w' => e = .returned (.bool m.hiB) ∧ Below ((w.alloc o).alloc o').heap.size ((w.alloc o).alloc o') w') := Lib.hid fun o o' => r_high (h.below (((Below.refl _ _).alloc (Nat.le_refl _) o).alloc (by simp) o'))
  have hl := h.lo.len
  have hh := h.hi.len
  have HR := Lib.hid h
  have HF := Lib.hid hF
  obtain ⟨a1, n1, c1, a2, n2, c2⟩ := r
  dsimp only at hl hh HH
  rcases (by
    cases hb : m.hiB
    · by_cases h1 : n1 = 0
      · exact .inr (.inr ⟨rfl, h1⟩)
      · exact .inr (.inl ⟨rfl, by omega⟩)
    · refine .inl ⟨rfl, ?_⟩
      unfold AM.hiB at hb
      simp only [Bool.and_eq_true, decide_eq_true_eq] at hb
      omega : (m.hiB = true ∧ 0 < n2) ∨ (m.hiB = false ∧ 0 < n1) ∨ (m.hiB = false ∧ n1 = 0)) with ⟨hb, hn⟩ | ⟨hb, hn⟩ | ⟨hb, hn⟩
  · rw [hb] at HH ⊢
    have HE : Hid ((!(m.sel true).isEmpty) = true) := Lib.hid (by
      show (!m.high.isEmpty) = true
      cases hm : m.high with
      | nil => rw [hm] at hh; simp at hh; omega
      | cons x r => rfl)
    rw [HE.out]
    obtain ⟨g, o, q, rfl, hra, hqr, hqk, hg⟩ := h.hi.head hn
    have HQ := Lib.hid hqk
    have HQR := Lib.hid (hqr.gr (gr_box F (Nat.le_succ w.heap.size)))
    have HRA := Lib.hid hra
    clear h hF hl hh hb hqk hra hqr
    go_enter Try.func46, Try.ntmps46
    go_wp2_with fail
    refine (HH.out _ _).mono ?_
    rintro e w1 ⟨rfl, hb1⟩
    obtain ⟨hx, hy, hc⟩ := new2 hb1
    have c5 := hx.cell 1 rfl
    have hra := range_below HRA.out hg hc
    have hq1 := HQR.out.below hc
    clear hb1 hx
    go_wp2_with (first
      | (with_reducible refine at_load 65 (.tmp 8) (by rfl) ?_; refine wpList_load_pk rowP rfl (.tmp 8) rfl q g o rfl hra ?_)
      | (with_reducible refine at_store 65 (.tmp 2) (.tmp 9) (by rfl) ?_; refine wpList_put_pk rowP rfl (.tmp 2) (.tmp 9) rfl (w.heap.size + 1) rfl hy rfl q rfl ?_; rintro w5 hz5 hw5))
    exact bodyPost_ret (results_cell_tmp rfl rfl (load_pk rowP hz5)) rfl ⟨q, by kernel_rfl, HQ.out, hq1.off hw5, Wr.on hc hw5 (Nat.le_succ _)⟩
  · rw [hb] at HH ⊢
    have HE : Hid ((!(m.sel false).isEmpty) = true) := Lib.hid (by
      show (!m.low.isEmpty) = true
      cases hm : m.low with
      | nil => rw [hm] at hl; simp at hl; omega
      | cons x r => rfl)
    rw [HE.out]
    obtain ⟨g, o, q, rfl, hra, hqr, hqk, hg⟩ := h.lo.head hn
    have HQ := Lib.hid hqk
    have HQR := Lib.hid (hqr.gr (gr_box F (Nat.le_succ w.heap.size)))
    have HRA := Lib.hid hra
    clear h hF hl hh hb hqk hra hqr
    go_enter Try.func46, Try.ntmps46
    go_wp2_with fail
    refine (HH.out _ _).mono ?_
    rintro e w1 ⟨rfl, hb1⟩
    obtain ⟨hx, hy, hc⟩ := new2 hb1
    have c5 := hx.cell 0 rfl
    have hra := range_below HRA.out hg hc
    have hq1 := HQR.out.below hc
    clear hb1 hx
    go_wp2_with (first
      | (with_reducible refine at_load 65 (.tmp 16) (by rfl) ?_; refine wpList_load_pk rowP rfl (.tmp 16) rfl q g o rfl hra ?_)
      | (with_reducible refine at_store 65 (.tmp 2) (.tmp 17) (by rfl) ?_; refine wpList_put_pk rowP rfl (.tmp 2) (.tmp 17) rfl (w.heap.size + 1) rfl hy rfl q rfl ?_; rintro w5 hz5 hw5))
    exact bodyPost_ret (results_cell_tmp rfl rfl (load_pk rowP hz5)) rfl ⟨q, by kernel_rfl, HQ.out, hq1.off hw5, Wr.on hc hw5 (Nat.le_succ _)⟩
  · rw [hb] at HH ⊢
    have hnil : m.low = [] := List.eq_nil_of_length_eq_zero (by omega)
    have HE : Hid ((!(m.sel false).isEmpty) = false ∧ (m.sel false).headD Pk.zero = Pk.zero) := Lib.hid (by
      show (!m.low.isEmpty) = false ∧ m.low.headD Pk.zero = Pk.zero
      rw [hnil]; exact ⟨rfl, rfl⟩)
    rw [HE.out.1]
    clear h hF hl hh hb hnil
    subst hn
    go_enter Try.func46, Try.ntmps46
    go_wp2_with fail
    refine (HH.out _ _).mono ?_
    rintro e w1 ⟨rfl, hb1⟩
    obtain ⟨hx, hy, hc⟩ := new2 hb1
    have c5 := hx.cell 0 rfl
    clear hb1 hx
    go_wp2_with (first
      | (with_reducible refine at_store 65 (.tmp 2) (.tmp 18) (by rfl) ?_; refine wpList_put_pk rowP rfl (.tmp 2) (.tmp 18) rfl (w.heap.size + 1) rfl hy rfl zPv rfl ?_; rintro w5 hz5 hw5))
    refine bodyPost_ret (results_cell_tmp rfl rfl (load_pk rowP hz5)) rfl ?_
    exact ⟨zPv, by kernel_rfl, HE.out.2.symm, PvR.zero _ _, Wr.on hc hw5 (Nat.le_succ _)⟩
set_option maxHeartbeats 2000000 in
set_option maxRecDepth 100000 in
/-- Two rows that say the same. -/
theorem r_sameAll {F1 F2 : Nat → Prop} {A B : Option Addr} {n c k d : Nat} {ks : List Pk} (h1 : SlP F1 w A n c ks) (h2 : SlP F2 w B k d ks) (hn : n ≤ 100000) :
    Calls Try.prog 14 #[.slice A n c, .slice B k d] w fun e w' => e = .returned (.bool true) ∧ Below w.heap.size w w' := by
  obtain rfl : n = k := h1.len.symm.trans h2.len
  have H1 := Lib.hid h1
  have H2 := Lib.hid h2
  clear h1 h2
  go_enter Try.func14, Try.ntmps14
  go_wp2
  go_loopw [5] (fun v wr => ∃ i : Nat, v = .int .i64 i ∧ i ≤ n ∧ Below w.heap.size w wr) (fun v _ => n - (intOf v).toNat)
  case atStart => exact ⟨0, rfl, Nat.zero_le _, Below.refl _ _⟩
  case round =>
    obtain ⟨i, rfl, hi, hb⟩ := hrel
    by_cases hlt : i < n
    · obtain ⟨g1, o1, q1, rfl, hra1, hr1, hk1, hg1⟩ := (H1.out.below hb).row hlt
      obtain ⟨g2, o2, q2, rfl, hra2, hr2, hk2, hg2⟩ := (H2.out.below hb).row hlt
      have hk : q1.pk = q2.pk := by rw [← hk2] at hk1; injection hk1
      have hse : q1.pk.sameB q2.pk = true := by rw [hk]; exact Pk.same_refl _
      have HS : Hid (∀ W, Ext wr W → Calls Try.prog 36 #[.agg #[.int .i64 q1.h.kd, .int .i64 q1.h.fl, .int .i64 q1.h.pa, .int .i64 q1.h.sr, .int .i64 q1.h.ds, .int .i64 q1.h.cn, .int .i64 q1.h.sq, .int .i64 q1.h.pu, .slice q1.A q1.n q1.c], .agg #[.int .i64 q2.h.kd, .int .i64 q2.h.fl, .int .i64 q2.h.pa, .int .i64 q2.h.sr, .int .i64 q2.h.ds, .int .i64 q2.h.cn, .int .i64 q2.h.sq, .int .i64 q2.h.pu, .slice q2.A q2.n q2.c]] W fun e w' => e = .returned (.bool true) ∧ Below W.heap.size W w') := Lib.hid fun W hW => by
        have := r_same (hr1.below hW) (hr2.below hW)
        rw [hse] at this; exact this
      clear hk hk1 hk2 hse hr1 hr2
      have hlt1 : (i : Int) < n := by omega
      have hi0 : (0 : Int) ≤ i := by omega
      go_wp2_with fail
      refine wp_region_E Ext (by kernel_rfl) (fun wd hbd hsz => ?_)
      clear hsz
      (refine takeE Ext.tr 0 (by simp only [List.getElem?_toArray, List.getElem?_cons_succ, List.getElem?_cons_zero]; rfl) (by kernel_rfl) (by kernel_rfl) (by kernel_rfl) (by exact fun _ _ _ h => h) (by first | (refine Or.inl ⟨by rfl, ?_⟩; intro W hW; go_simp; try with_reducible rfl) | exact Or.inr ⟨by rfl, rfl⟩) ?_; try simp only [Act.put, List.setIfInBounds_toArray, List.set_cons_zero, List.set_cons_succ])
      (refine takeE Ext.tr 1 (by simp only [List.getElem?_toArray, List.getElem?_cons_succ, List.getElem?_cons_zero]; rfl) (by kernel_rfl) (by kernel_rfl) (by kernel_rfl) (by exact fun _ _ _ h => h) (by first | (refine Or.inl ⟨by rfl, ?_⟩; intro W hW; go_simp; try with_reducible rfl) | exact Or.inr ⟨by rfl, rfl⟩) ?_; try simp only [Act.put, List.setIfInBounds_toArray, List.set_cons_zero, List.set_cons_succ])
      (refine takeE Ext.tr 4 (by simp only [List.getElem?_toArray, List.getElem?_cons_succ, List.getElem?_cons_zero]; rfl) (by kernel_rfl) (by kernel_rfl) (by kernel_rfl) (by exact fun _ _ _ h => h) (by first | (refine Or.inl ⟨by rfl, ?_⟩; intro W hW; go_simp; try with_reducible rfl) | exact Or.inr ⟨by rfl, rfl⟩) ?_; try simp only [Act.put, List.setIfInBounds_toArray, List.set_cons_zero, List.set_cons_succ])
      (refine takeE Ext.tr 5 (by simp only [List.getElem?_toArray, List.getElem?_cons_succ, List.getElem?_cons_zero]; rfl) (by kernel_rfl) (by kernel_rfl) (by kernel_rfl) (by exact fun _ _ _ h => h) (by first | (refine Or.inl ⟨by rfl, ?_⟩; intro W hW; go_simp; try with_reducible rfl) | exact Or.inr ⟨by rfl, rfl⟩) ?_; try simp only [Act.put, List.setIfInBounds_toArray, List.set_cons_zero, List.set_cons_succ])
      (refine takeE Ext.tr 2 (by simp only [List.getElem?_toArray, List.getElem?_cons_succ, List.getElem?_cons_zero]; rfl) (by kernel_rfl) (by kernel_rfl) (by kernel_rfl) (by exact fun _ _ _ h => h) (by first | (refine Or.inl ⟨by rfl, ?_⟩; intro W hW; go_simp; try with_reducible rfl) | exact Or.inr ⟨by rfl, rfl⟩) ?_; try simp only [Act.put, List.setIfInBounds_toArray, List.set_cons_zero, List.set_cons_succ])
      (refine takeE Ext.tr 6 (by simp only [List.getElem?_toArray, List.getElem?_cons_succ, List.getElem?_cons_zero]; rfl) (by kernel_rfl) (by kernel_rfl) (by kernel_rfl) (by exact fun _ _ _ h => h) (by first | (refine Or.inl ⟨by rfl, ?_⟩; intro W hW; go_simp; try with_reducible rfl) | exact Or.inr ⟨by rfl, rfl⟩) ?_; try simp only [Act.put, List.setIfInBounds_toArray, List.set_cons_zero, List.set_cons_succ])
      (refine takeE Ext.tr 3 (by simp only [List.getElem?_toArray, List.getElem?_cons_succ, List.getElem?_cons_zero]; rfl) (by kernel_rfl) (by kernel_rfl) (by kernel_rfl) (by exact fun _ _ _ h => h) (by first | (refine Or.inl ⟨by rfl, ?_⟩; intro W hW; exact exec_loadRow rowP (.tmp 19) rfl g1 (o1 + i * 9) rfl q1 (range_below (range_below hra1 hg1 hbd) (Nat.lt_of_lt_of_le hg1 hbd.size) hW)) | exact Or.inr ⟨by rfl, rfl⟩) ?_; try simp only [Act.put, List.setIfInBounds_toArray, List.set_cons_zero, List.set_cons_succ])
      (refine takeE Ext.tr 7 (by simp only [List.getElem?_toArray, List.getElem?_cons_succ, List.getElem?_cons_zero]; rfl) (by kernel_rfl) (by kernel_rfl) (by kernel_rfl) (by exact fun _ _ _ h => h) (by first | (refine Or.inl ⟨by rfl, ?_⟩; intro W hW; exact exec_loadRow rowP (.tmp 23) rfl g2 (o2 + i * 9) rfl q2 (range_below (range_below hra2 hg2 hbd) (Nat.lt_of_lt_of_le hg2 hbd.size) hW)) | exact Or.inr ⟨by rfl, rfl⟩) ?_; try simp only [Act.put, List.setIfInBounds_toArray, List.set_cons_zero, List.set_cons_succ])
      refine wpAnyE_one (i := 8) (by kernel_rfl) (by simp only [List.getElem?_toArray, List.getElem?_cons_succ, List.getElem?_cons_zero]; rfl) (fun K hK => ?_)
      go_simp
      refine (HS.out _ hbd).mono ?_
      rintro e w6 ⟨rfl, hb6⟩
      have HB6 := Lib.hid (below_on (below_on hb hbd) hb6)
      refine hK.out _ _ hb6 ?_
      clear hK K
      try simp only [Act.put, List.setIfInBounds_toArray, List.set_cons_zero, List.set_cons_succ]
      (refine takeE Ext.tr 9 (by simp only [List.getElem?_toArray, List.getElem?_cons_succ, List.getElem?_cons_zero]; rfl) (by kernel_rfl) (by kernel_rfl) (by kernel_rfl) (by exact fun _ _ _ h => h) (by first | (refine Or.inl ⟨by rfl, ?_⟩; intro W hW; go_simp; try with_reducible rfl) | exact Or.inr ⟨by rfl, rfl⟩) ?_; try simp only [Act.put, List.setIfInBounds_toArray, List.set_cons_zero, List.set_cons_succ])
      refine wpAnyE_done (by kernel_rfl) ?_ _
      skip
      go_wp2
      go_roundw
      case rel => exact ⟨i + 1, by go_num, by omega, HB6.out⟩
      case measure => simp [intOf]; omega
    · obtain rfl : i = n := by omega
      go_wp2
      go_ret
      exact ⟨rfl, hb⟩
end
end Go.Proofs.Ytboclbanccfbjaa
namespace Go.Proofs.Ytboclbanccfbjaa
set_option linter.unusedSimpArgs false
set_option linter.unusedVariables false
open Go.RowKit Go.Shelf
/-- A packet that a call made: it reads, and lies in nobody's blocks. -/
def FreshP (w : World) (p : Pk) (q : Pv) (w' : World) : Prop := q.pk = p ∧ (∀ F : Nat → Prop, (∀ k, F k → k < w.heap.size) → PvR F w' q) ∧ Below w.heap.size w w'
def AM.ok (m : AM) (B : Int) : Prop := ∀ k, 0 ≤ m.ct k ∧ m.ct k ≤ B
theorem ok_up {ct : Nat → Int} {B : Int} (h : ∀ k, 0 ≤ ct k ∧ ct k ≤ B) (k : Nat) : ∀ j, 0 ≤ up ct k (ct k + 1) j ∧ up ct k (ct k + 1) j ≤ B + 1 := fun j => by
  unfold up
  have h1 := h k
  have h2 := h j
  split <;> omega
theorem AM.ok_nx {m : AM} {B : Int} (h : m.ok B) (x : Pk) : (m.nx x).ok (B + 1) := ok_up h _
theorem AM.ok.mono {m : AM} {B C : Int} (h : m.ok B) (hC : B ≤ C) : m.ok C := fun k => by have := h k; omega
theorem AM.ok_srv {m : AM} {B : Int} (h : m.ok B) (f : Int) (hi : Bool) (x : Pk) (r : List Pk) : (m.srv f hi x r).ok (B + 1) := by
  unfold AM.srv
  dsimp only
  have h1 : ∀ k, 0 ≤ up m.ct 0 (m.ct 0 + 1) k ∧ up m.ct 0 (m.ct 0 + 1) k ≤ B + 1 := ok_up h 0
  have h2 : ∀ k, 0 ≤ m.ct k ∧ m.ct k ≤ B + 1 := fun k => by have := h k; omega
  split <;> split
  · exact h1
  · exact h1
  · exact h2
  · exact h2
theorem AM.ok.ct {m : AM} {B : Int} (h : m.ok B) (hB : B ≤ 1000000) : ∀ k, -1 ≤ m.ct k ∧ m.ct k ≤ 1000000 := fun k => by have := h k; omega
theorem AM.ok_new (l h w : Nat) : (AM.new l h w).ok 0 := fun k => ⟨Int.le_refl _, Int.le_refl _⟩
theorem i64_max {x : Int} (h : (Lit.int .i64 x).wf = true) : x ≤ 9223372036854775807 := by
  simp [Lit.wf, IntKind.min, IntKind.max, IntKind.signed, IntKind.bits] at h
  omega
theorem u8_nat {x : Int} (h : (Lit.int .u8 x).wf = true) : ∃ n : Nat, x = n ∧ n < 256 := by
  have := u8_bounds h
  exact ⟨x.toNat, by omega, by omega⟩
/-- What Serve makes of a port: the port, what comes out, the error. -/
def AM.svM (m : AM) (f : Int) : AM := if f < 1 ∨ 4 < f then m else match m.sel m.hiB with
  | [] => m
  | x :: l => m.srv f m.hiB x l
def AM.svL (m : AM) (f : Int) : List Pk := if f < 1 ∨ 4 < f then [] else match m.sel m.hiB with
  | [] => []
  | x :: _ => if f = 1 ∨ f = 4 then [x] else []
def AM.svE (m : AM) (f : Int) : Int := if f < 1 ∨ 4 < f then 80 else match m.sel m.hiB with
  | [] => 7
  | _ :: _ => 0
section
variable {F F' F2 X G : Nat → Prop} {w w' w0 w1 w2 : World} {b b2 gb : Nat} {m : AM} {pl ph : Nat} {Fl Fh : Nat → Prop} {ql qh : List Pv} {r : RV} {P : Option Addr}
theorem pt_serveR (h : PbC F X w b m pl ph Fl Fh ql qh) (hct : ∀ k, -1 ≤ m.ct k ∧ m.ct k ≤ 1000000) (f : Int) :
    Calls Try.prog 35 #[.pointer (some ⟨b, 0, none⟩), .int .i64 f] w (ServeTo F X w b pl ph (m.svM f) (m.svL f) (m.svE f)) := by
  unfold AM.svM AM.svL AM.svE
  by_cases hf : f < 1 ∨ 4 < f
  · simp only [if_pos hf]; exact pt_serve_bad h f hf
  · simp only [if_neg hf]
    cases hx : m.sel m.hiB with
    | nil => exact pt_serve_none h f (by omega) (by omega) hx
    | cons x l => exact pt_serve h hct f (by omega) (by omega) x l hx
theorem AM.svL_len (m : AM) (f : Int) : (m.svL f).length ≤ 1 := by
  unfold AM.svL
  repeat' split
  all_goals simp
/-- A port that keeps within its rooms, called at most B times. -/
structure AMb (m : AM) (L H : Nat) (B : Int) : Prop where
  lr : m.lr = L
  hr : m.hr = H
  lo : m.low.length ≤ L
  hi : m.high.length ≤ H
  ok : m.ok B
theorem AMb.mono {L H : Nat} {B C : Int} (h : AMb m L H B) (hC : B ≤ C) : AMb m L H C := ⟨h.lr, h.hr, h.lo, h.hi, h.ok.mono hC⟩
theorem AMb.new (L H W : Nat) : AMb (AM.new L H W) L H 0 := ⟨rfl, rfl, Nat.zero_le _, Nat.zero_le _, AM.ok_new _ _ _⟩
theorem AMb.sv {L H : Nat} {B : Int} (h : AMb m L H B) (f : Int) : AMb (m.svM f) L H (B + 1) := by
  have hm : AMb m L H (B + 1) := h.mono (by omega)
  unfold AM.svM
  split
  · exact hm
  · split
    · exact hm
    · rename_i x l hx
      have ho := AM.ok_srv h.ok f m.hiB x l
      have h1 := h.lo
      have h2 := h.hi
      generalize m.hiB = hi at *
      refine ⟨?_, ?_, ?_, ?_, ho⟩
      all_goals
        unfold AM.srv AM.took AM.put
        dsimp only
      · split <;> split <;> exact h.lr
      · split <;> split <;> exact h.hr
      · cases hi
        · have : m.low = x :: l := hx
          rw [this] at h1
          simp at h1
          split <;> split <;> simp <;> omega
        · split <;> split <;> simp <;> exact h1
      · cases hi
        · split <;> split <;> simp <;> exact h2
        · have : m.high = x :: l := hx
          rw [this] at h2
          simp at h2
          split <;> split <;> simp <;> omega
theorem AMb.nx {L H : Nat} {B : Int} (h : AMb m L H B) (x : Pk) : AMb (m.nx x) L H (B + 1) := by
  have ho := AM.ok_nx h.ok x
  have h1 := h.lo
  have h2 := h.hi
  have h3 := h.lr
  have h4 := h.hr
  rcases m.vd_cases x with hv | hv | hv | hv
  · have hr := AM.vd_one hv
    refine ⟨?_, ?_, ?_, ?_, ho⟩
    all_goals
      unfold AM.nx AM.base
      rw [if_pos hv]
      generalize x.heavy = b at *
      cases b <;> simp_all [AM.put, AM.sel, AM.room] <;> omega
  · have hr := (AM.vd_two hv).2
    have hn : ¬ m.vd x = 1 := by omega
    refine ⟨?_, ?_, ?_, ?_, ho⟩
    all_goals
      unfold AM.nx AM.base
      rw [if_neg hn, if_pos hv]
      simp_all [AM.put, AM.sel, AM.room] <;> omega
  · refine ⟨?_, ?_, ?_, ?_, ho⟩
    all_goals
      unfold AM.nx AM.base
      rw [if_neg (by omega), if_neg (by omega)]
      assumption
  · refine ⟨?_, ?_, ?_, ?_, ho⟩
    all_goals
      unfold AM.nx AM.base
      rw [if_neg (by omega), if_neg (by omega)]
      assumption
/-- A port that neither New nor Fork made. -/
def NoPt (w : World) (P : Option Addr) : Prop := P = none ∨ ∃ p, P = some ⟨p, 0, none⟩ ∧ Bk w 100 p [.pointer none, .pointer none, .int .i64 0, .int .i64 0, .int .i64 0, .int .i64 0, .int .i64 0, .int .i64 0, .int .i64 0]
theorem NoPt.below {w w' : World} {P : Option Addr} (h : NoPt w P) (hb : Below w.heap.size w w') : NoPt w' P := by
  rcases h with h | ⟨p, h, h'⟩
  · exact .inl h
  · exact .inr ⟨p, h, h'.below hb⟩
theorem n_made (h : NoPt w P) : Calls Try.prog 49 #[.pointer P] w fun e w' => e = .returned (.bool false) ∧ w = w' := by
  rcases h with rfl | ⟨p, rfl, hp⟩
  · go_enter Try.func49, Try.ntmps49
    go_wp2
    go_ret
    exact ⟨rfl, rfl⟩
  · have c2 := hp.cell 2 rfl
    go_enter Try.func49, Try.ntmps49
    go_wp2
    go_ret
    exact ⟨rfl, rfl⟩
theorem n_lens (h : NoPt w P) : Calls Try.prog 38 #[.pointer P] w fun e w' => e = .returned (.tuple #[.int .i64 0, .int .i64 0]) ∧ w = w' := by
  have HM := Lib.hid (n_made h)
  clear h
  go_enter Try.func38, Try.ntmps38
  go_wp2_with (go_at_call 49; refine HM.out.mono ?_; rintro e w' ⟨rfl, rfl⟩)
  go_ret2
  exact ⟨rfl, rfl⟩
theorem n_low (h : NoPt w P) : Calls Try.prog 39 #[.pointer P] w fun e w' => e = .returned (.slice none 0 0) ∧ w = w' := by
  have HM := Lib.hid (n_made h)
  clear h
  go_enter Try.func39, Try.ntmps39
  go_wp2_with (go_at_call 49; refine HM.out.mono ?_; rintro e w' ⟨rfl, rfl⟩)
  go_ret
  exact ⟨rfl, rfl⟩
theorem n_high (h : NoPt w P) : Calls Try.prog 40 #[.pointer P] w fun e w' => e = .returned (.slice none 0 0) ∧ w = w' := by
  have HM := Lib.hid (n_made h)
  clear h
  go_enter Try.func40, Try.ntmps40
  go_wp2_with (go_at_call 49; refine HM.out.mono ?_; rintro e w' ⟨rfl, rfl⟩)
  go_ret
  exact ⟨rfl, rfl⟩
theorem n_fork (h : NoPt w P) : Calls Try.prog 37 #[.pointer P] w fun e w' => e = .returned (.pointer none) ∧ w = w' := by
  have HM := Lib.hid (n_made h)
  clear h
  go_enter Try.func37, Try.ntmps37
  go_wp2_with (go_at_call 49; refine HM.out.mono ?_; rintro e w' ⟨rfl, rfl⟩)
  go_ret
  exact ⟨rfl, rfl⟩
theorem n_put (h : NoPt w P) (q : Pv) : Calls Try.prog 45 #[.pointer P, .agg #[.int .i64 q.h.kd, .int .i64 q.h.fl, .int .i64 q.h.pa, .int .i64 q.h.sr, .int .i64 q.h.ds, .int .i64 q.h.cn, .int .i64 q.h.sq, .int .i64 q.h.pu, .slice q.A q.n q.c]] w fun e w' => e = .returned (.tuple #[.int .i64 4, .agg #[.int .i64 0, .int .i64 0, .int .i64 0, .int .i64 0, .int .i64 0, .int .i64 0, .int .i64 0, .int .i64 0, .slice none 0 0]]) ∧ Below w.heap.size w w' := by
  have HM : Hid (∀ o o', Calls Try.prog 49 #[.pointer P] ((w.alloc o).alloc o') fun e w' => e = .returned (.bool false) ∧ (w.alloc o).alloc o' = w') := Lib.hid fun o o' => n_made (h.below (((Below.refl _ _).alloc (Nat.le_refl _) o).alloc (by simp) o'))
  have hz : Bk ((w.alloc (.cells (List.toArray [.int .i64 q.h.kd, .int .i64 q.h.fl, .int .i64 q.h.pa, .int .i64 q.h.sr, .int .i64 q.h.ds, .int .i64 q.h.cn, .int .i64 q.h.sq, .int .i64 q.h.pu, .slice q.A q.n q.c]) 65)).alloc (.cells (List.toArray [.int .i64 0, .int .i64 0, .int .i64 0, .int .i64 0, .int .i64 0, .int .i64 0, .int .i64 0, .int .i64 0, .slice none 0 0]) 65)) 65 (w.heap.size + 1) [.int .i64 0, .int .i64 0, .int .i64 0, .int .i64 0, .int .i64 0, .int .i64 0, .int .i64 0, .int .i64 0, .slice none 0 0] := by
    have := Bk.new (w.alloc (.cells (List.toArray [.int .i64 q.h.kd, .int .i64 q.h.fl, .int .i64 q.h.pa, .int .i64 q.h.sr, .int .i64 q.h.ds, .int .i64 q.h.cn, .int .i64 q.h.sq, .int .i64 q.h.pu, .slice q.A q.n q.c]) 65)) 65 [.int .i64 0, .int .i64 0, .int .i64 0, .int .i64 0, .int .i64 0, .int .i64 0, .int .i64 0, .int .i64 0, .slice none 0 0]
    simpa using this
  clear h
  go_enter Try.func45, Try.ntmps45
  go_wp2_with (go_at_call 49; refine (HM.out _ _).mono ?_; rintro e w' ⟨rfl, rfl⟩)
  exact bodyPost_ret (results_tmp_cell rfl rfl (load_pk rowP (q := zPv) hz)) rfl ⟨by kernel_rfl, ((Below.refl _ _).alloc (Nat.le_refl _) _).alloc (by simp) _⟩
end
theorem wr_st {g : Nat} {w w' : World} {X : Nat → Prop} (hw : Wr g w w') (hX : X g) : St X w w' := ⟨hw.os, hw.tape, hw.output, hw.size, fun j hj hn => hw.block j hj (by intro e; injection e with e; exact hn (e ▸ hX))⟩
section
variable {P : Program} {w : World} {Q : Exit → Act → World → Prop} {K : Act → World → Prop} {ops : Array Oper} {rest : List Oper} {op : Oper} {a : Act}
theorem opwp_put_pk {e t : TypeId} (R : Row P e 9) (hgd : op.guard = none) (x y : Operand) (ho : op.op = .store e x y) (g : Nat) (hx : a.eval x = .pointer (some ⟨g, 0, none⟩)) {vs : List Value} (h : Bk w t g vs) (hv : vs.length = 9) (q : Pv) (hy : a.eval y = .agg #[.int .i64 q.h.kd, .int .i64 q.h.fl, .int .i64 q.h.pa, .int .i64 q.h.sr, .int .i64 q.h.ds, .int .i64 q.h.cn, .int .i64 q.h.sq, .int .i64 q.h.pu, .slice q.A q.n q.c])
    (hq : ∀ w', Bk w' t g q.cl → Wr g w w' → K (a.put op.dst undef) w') : if Region.wanted op (yielded ops a.tmps) = true then Oper.wp P op a w K Q else K (a.put op.dst undef) w :=
  opwp_store_bk R hgd x y ho g 0 hx h q.cl hy q.cl_len (by rw [hv]; decide) q.cl_one fun w' h' hw => hq w' (by rw [lay_all _ _ (by rw [hv]; rfl)] at h'; exact h') hw
end
end Go.Proofs.Ytboclbanccfbjaa
namespace Go.Proofs.Ytboclbanccfbjaa
set_option linter.unusedSimpArgs false
set_option linter.unusedVariables false
open Go.RowKit Go.Shelf
/-- A fabric by what it holds: the port of path i to host j at i * 8 + j; its counts. -/
structure FM where
  pt : Nat → Option AM
  ct : Nat → Int
def set1 {α : Type} (f : Nat → α) (k : Nat) (v : α) : Nat → α := fun i => if i = k then v else f i
theorem set1_at {α : Type} (f : Nat → α) (k : Nat) (v : α) : set1 f k v k = v := by simp [set1]
theorem set1_ne {α : Type} (f : Nat → α) {k i : Nat} (v : α) (h : i ≠ k) : set1 f k v i = f i := by simp [set1, h]
def FM.cell (m : FM) (pp : Nat → Nat) (j : Nat) : Value := if j < 64 then .pointer ((m.pt j).map fun _ => ⟨pp j, 0, none⟩) else .int .i64 (m.ct (j - 64))
/-- A fabric's cells. -/
def FM.mem (m : FM) (pp : Nat → Nat) : List Value := (List.range 69).map (m.cell pp)
def FM.nobody : FM := ⟨fun _ => none, fun _ => 0⟩
def FM.sp (m : FM) (k : Nat) (a : AM) : FM := { m with pt := set1 m.pt k (some a) }
def FM.sc (m : FM) (i : Nat) (x : Int) : FM := { m with ct := up m.ct i x }
section
variable {m : FM} {pp : Nat → Nat}
theorem FM.mem_len (m : FM) (pp : Nat → Nat) : (m.mem pp).length = 69 := by simp [FM.mem]
theorem FM.cell_one (m : FM) (pp : Nat → Nat) (j : Nat) : (m.cell pp j).oneCell' = true := by unfold FM.cell; split <;> rfl
theorem FM.mem_one (m : FM) (pp : Nat → Nat) : ∀ v ∈ m.mem pp, v.oneCell' = true := by
  intro v hv
  obtain ⟨j, _, rfl⟩ := List.mem_map.1 hv
  exact m.cell_one pp j
theorem FM.mem_get (m : FM) (pp : Nat → Nat) {j : Nat} (h : j < 69) : (m.mem pp)[j]? = some (m.cell pp j) := by simp [FM.mem, h]
theorem FM.mem_pt (m : FM) (pp : Nat → Nat) {k : Nat} (h : k < 64) : (m.mem pp)[k]? = some (.pointer ((m.pt k).map fun _ => ⟨pp k, 0, none⟩)) := by
  rw [m.mem_get pp (by omega), FM.cell, if_pos h]
theorem FM.mem_ct (m : FM) (pp : Nat → Nat) {i : Nat} (h : i < 5) : (m.mem pp)[64 + i]? = some (.int .i64 (m.ct i)) := by
  rw [m.mem_get pp (by omega), FM.cell, if_neg (by omega)]
  congr 3; omega
theorem FM.mem_ext {l : List Value} (hl : l.length = 69) (h : ∀ j, j < 69 → l[j]? = some (m.cell pp j)) : l = m.mem pp := by
  apply List.ext_getElem?
  intro i
  by_cases hi : i < 69
  · rw [h i hi, m.mem_get pp hi]
  · rw [List.getElem?_eq_none (by omega), List.getElem?_eq_none (by rw [FM.mem_len]; omega)]
theorem FM.mem_sc (m : FM) (pp : Nat → Nat) {i : Nat} (h : i < 5) (x : Int) : (m.mem pp).set (64 + i) (.int .i64 x) = (m.sc i x).mem pp := by
  refine FM.mem_ext (by simp [FM.mem_len]) fun j hj => ?_
  rw [List.getElem?_set]
  by_cases hij : 64 + i = j
  · subst hij
    rw [if_pos rfl, if_pos (by rw [FM.mem_len]; omega), FM.cell, if_neg (by omega)]
    unfold FM.sc
    dsimp only
    rw [show 64 + i - 64 = i by omega, up_at]
  · rw [if_neg hij, m.mem_get pp hj]
    unfold FM.cell FM.sc
    split
    · rfl
    · dsimp only
      rw [up_ne _ _ (by omega)]
theorem FM.mem_sp (m : FM) (pp : Nat → Nat) {k p : Nat} (h : k < 64) (a : AM) : (m.mem pp).set k (.pointer (some ⟨p, 0, none⟩)) = (m.sp k a).mem (set1 pp k p) := by
  refine FM.mem_ext (by simp [FM.mem_len]) fun j hj => ?_
  rw [List.getElem?_set]
  by_cases hij : k = j
  · subst hij
    rw [if_pos rfl, if_pos (by rw [FM.mem_len]; omega), FM.cell, if_pos h]
    unfold FM.sp
    dsimp only
    rw [set1_at, set1_at]; rfl
  · rw [if_neg hij, m.mem_get pp hj]
    unfold FM.cell FM.sp
    dsimp only
    rw [set1_ne _ _ (Ne.symm hij), set1_ne _ _ (Ne.symm hij)]
/-- A port that has turned lies where it lay. -/
theorem FM.mem_same (m : FM) (pp : Nat → Nat) {k : Nat} {a c : AM} (h : m.pt k = some a) : (m.sp k c).mem pp = m.mem pp := by
  refine FM.mem_ext (FM.mem_len _ _) fun j hj => ?_
  rw [FM.mem_get _ _ hj]
  unfold FM.cell FM.sp
  dsimp only
  by_cases hjk : j = k
  · subst hjk
    rw [set1_at, h]; rfl
  · rw [set1_ne _ _ hjk]
end
/-- Ports: what else is off limits grows. -/
theorem Pb.off {F X X1 : Nat → Prop} {w : World} {b : Nat} {m : AM} (h : Pb F X w b m) (hX : ∀ k, X1 k → F k ∨ X k) : Pb F X1 w b m := by
  obtain ⟨pl, ph, Fl, Fh, ql, qh, h⟩ := h
  have hb := h.bd
  exact ⟨pl, ph, Fl, Fh, ql, qh, h.bk, h.w1, h.w2, h.ru, h.lo, h.hi, h.lk, h.hk, fun q hq => (h.pl_ q hq).mono fun k hk => hk.elim .inl (hX k), fun q hq => (h.ph_ q hq).mono fun k hk => hk.elim .inl (hX k), h.f, h.nl, h.nh, h.sep, fun k hk => (hX k hk).elim (hb k) (h.xb k)⟩
/-- Other blocks turn; what is off limits grows by new ones. -/
theorem Pb.st2 {F X X1 G : Nat → Prop} {w w' : World} {b : Nat} {m : AM} (h : Pb F X w b m) (hs : St G w w') (hFG : ∀ k, F k → ¬ G k) (hGX : ∀ k, G k → X k ∨ w.heap.size ≤ k) (hX : ∀ k, X1 k → X k ∨ w.heap.size ≤ k) (hX1 : ∀ k, X1 k → k < w'.heap.size) : Pb F X1 w' b m := by
  obtain ⟨pl, ph, Fl, Fh, ql, qh, h⟩ := h
  have hb : F b := (h.f b).2 (.inl rfl)
  have hp : ∀ q, PvR (fun k => F k ∨ X k) w q → PvR (fun k => F k ∨ X1 k) w' q := fun q hq =>
    ⟨hq.1.st hs (fun hn ad he hg => by
      rcases hGX _ hg with hx | hx
      · exact hq.2.2.2 hn ad he (.inr hx)
      · have := hq.1.blk hn ad he; omega), hq.2.1, hq.2.2.1, fun hn ad he hf => by
      rcases hf with hf | hf
      · exact hq.2.2.2 hn ad he (.inl hf)
      · rcases hX _ hf with hx | hx
        · exact hq.2.2.2 hn ad he (.inr hx)
        · have := hq.1.blk hn ad he; omega⟩
  exact ⟨pl, ph, Fl, Fh, ql, qh, h.bk.st hs (hFG b hb), h.w1, h.w2, h.ru, h.lo.st hs fun k hk => hFG k ((h.f k).2 (.inr (.inl hk))), h.hi.st hs fun k hk => hFG k ((h.f k).2 (.inr (.inr hk))), h.lk, h.hk, fun q hq => hp q (h.pl_ q hq), fun q hq => hp q (h.ph_ q hq), h.f, h.nl, h.nh, h.sep, hX1⟩
/-- Block b holds the fabric m; all of it lies in the blocks of F; its packets' payloads lie neither there nor in X. -/
structure FbC (F X : Nat → Prop) (w : World) (b : Nat) (m : FM) (pp : Nat → Nat) (FF : Nat → Nat → Prop) : Prop where
  bk : Bk w 70 b (m.mem pp)
  lt : ∀ k a, m.pt k = some a → k < 64
  pt : ∀ k a, m.pt k = some a → Pb (FF k) (fun j => F j ∨ X j) w (pp k) a
  sep : ∀ i k a c, m.pt i = some a → m.pt k = some c → i ≠ k → Sep (FF i) (FF k)
  nb : ∀ k a, m.pt k = some a → ¬ FF k b
  f : ∀ j, F j ↔ j = b ∨ ∃ k a, m.pt k = some a ∧ FF k j
  xb : ∀ j, X j → j < w.heap.size
def Fb (F X : Nat → Prop) (w : World) (b : Nat) (m : FM) : Prop := ∃ pp FF, FbC F X w b m pp FF
section
variable {F X F1 X1 G : Nat → Prop} {w w' w1 : World} {b : Nat} {m m1 : FM} {pp : Nat → Nat} {FF : Nat → Nat → Prop} {k : Nat} {a c : AM}
theorem FbC.bd (h : FbC F X w b m pp FF) : ∀ j, F j → j < w.heap.size := fun j hj => by
  rcases (h.f j).1 hj with rfl | ⟨k, a, hk, hf⟩
  · exact h.bk.lt
  · exact (h.pt k a hk).bd j hf
theorem FbC.atB (h : FbC F X w b m pp FF) : F b := (h.f b).2 (.inl rfl)
theorem FbC.sub (h : FbC F X w b m pp FF) (hk : m.pt k = some a) : ∀ j, FF k j → F j := fun j hj => (h.f j).2 (.inr ⟨k, a, hk, hj⟩)
theorem FbC.st (h : FbC F X w b m pp FF) (hs : St G w w') (hFG : ∀ k, F k → ¬ G k) (hGX : ∀ k, G k → X k ∨ w.heap.size ≤ k) (hX : ∀ k, X1 k → X k ∨ w.heap.size ≤ k) (hX1 : ∀ k, X1 k → k < w'.heap.size) : FbC F X1 w' b m pp FF :=
  ⟨h.bk.st hs (hFG _ h.atB), h.lt, fun k a hk => (h.pt k a hk).st2 hs (fun j hj => hFG j (h.sub hk j hj)) (fun j hj => (hGX j hj).imp .inr id) (fun j hj => hj.elim (fun hj => .inl (.inl hj)) fun hj => (hX j hj).imp .inr id)
    (fun j hj => hj.elim (fun hj => Nat.lt_of_lt_of_le (h.bd j hj) hs.size) (hX1 j)), h.sep, h.nb, h.f, hX1⟩
theorem FbC.below (h : FbC F X w b m pp FF) (hb : Below w.heap.size w w') : FbC F X w' b m pp FF :=
  h.st (G := fun _ => False) (St.ext hb) (fun _ _ h => h) (fun _ h => h.elim) (fun _ h => .inl h) (fun k hk => Nat.lt_of_lt_of_le (h.xb k hk) hb.size)
theorem FbC.less (h : FbC F X w b m pp FF) (hX : ∀ k, X1 k → X k) : FbC F X1 w b m pp FF :=
  h.st (G := fun _ => False) (St.refl _ _) (fun _ _ h => h) (fun _ h => h.elim) (fun k hk => .inl (hX k hk)) (fun k hk => h.xb k (hX k hk))
theorem Fb.bd (h : Fb F X w b m) : ∀ j, F j → j < w.heap.size := by obtain ⟨_, _, h⟩ := h; exact h.bd
theorem Fb.below (h : Fb F X w b m) (hb : Below w.heap.size w w') : Fb F X w' b m := by obtain ⟨pp, FF, h⟩ := h; exact ⟨pp, FF, h.below hb⟩
theorem Fb.st (h : Fb F X w b m) (hs : St G w w') (hFG : ∀ k, F k → ¬ G k) (hGX : ∀ k, G k → X k ∨ w.heap.size ≤ k) (hX : ∀ k, X1 k → X k ∨ w.heap.size ≤ k) (hX1 : ∀ k, X1 k → k < w'.heap.size) : Fb F X1 w' b m := by
  obtain ⟨pp, FF, h⟩ := h; exact ⟨pp, FF, h.st hs hFG hGX hX hX1⟩
/-- A port has turned. -/
theorem FbC.port (h : FbC F X w b m pp FF) (hk : m.pt k = some a) (hp : Pb F1 (fun j => F j ∨ X j) w' (pp k) c) (hs : St (FF k) w w') (hg : Gr (FF k) F1 w.heap.size) :
    ∃ F' FF', FbC F' X w' b (m.sp k c) pp FF' ∧ St F w w' ∧ Gr F F' w.heap.size ∧ ∀ j, F' j → F j ∨ F1 j := by
  have hsF : St F w w' := hs.mono fun j _ hj => h.sub hk j hj
  have hF' : ∀ j, (j = b ∨ ∃ i e, (m.sp k c).pt i = some e ∧ set1 FF k F1 i j) → F j ∨ F1 j := by
    rintro j (rfl | ⟨i, e, hi, hj⟩)
    · exact .inl h.atB
    · by_cases hik : i = k
      · subst hik; rw [set1_at] at hj; exact .inr hj
      · rw [set1_ne _ _ hik] at hj
        have hi : m.pt i = some e := by unfold FM.sp at hi; dsimp only at hi; rwa [set1_ne _ _ hik] at hi
        exact .inl (h.sub hi j hj)
  have hG : Gr F (fun j => j = b ∨ ∃ i e, (m.sp k c).pt i = some e ∧ set1 FF k F1 i j) w.heap.size := fun j hj => by
    rcases hF' j hj with h1 | h1
    · exact .inl h1
    · exact (hg j h1).imp (h.sub hk j) id
  have hX1 : ∀ j, ((j = b ∨ ∃ i e, (m.sp k c).pt i = some e ∧ set1 FF k F1 i j) ∨ X j) → j < w'.heap.size := fun j hj => by
    rcases hj with hj | hj
    · rcases hF' j hj with h1 | h1
      · exact Nat.lt_of_lt_of_le (h.bd j h1) hs.size
      · exact hp.bd j h1
    · exact Nat.lt_of_lt_of_le (h.xb j hj) hs.size
  have hpt : ∀ i e, (m.sp k c).pt i = some e → i ≠ k → m.pt i = some e := fun i e hi hik => by unfold FM.sp at hi; dsimp only at hi; rwa [set1_ne _ _ hik] at hi
  refine ⟨fun j => j = b ∨ ∃ i e, (m.sp k c).pt i = some e ∧ set1 FF k F1 i j, set1 FF k F1, ⟨?_, ?_, ?_, ?_, ?_, fun j => Iff.rfl, fun j hj => hX1 j (.inr hj)⟩, hsF, hG, hF'⟩
  · rw [FM.mem_same m pp hk]; exact h.bk.st hs (h.nb k a hk)
  · intro i e hi
    by_cases hik : i = k
    · subst hik; exact h.lt _ _ hk
    · exact h.lt i e (hpt i e hi hik)
  · intro i e hi
    by_cases hik : i = k
    · subst hik
      have he : e = c := by unfold FM.sp at hi; dsimp only at hi; rw [set1_at] at hi; injection hi with hi; exact hi.symm
      subst he
      rw [set1_at]
      refine hp.off fun j hj => ?_
      rcases hj with hj | hj
      · rcases hF' j hj with h1 | h1
        · exact .inr (.inl h1)
        · exact .inl h1
      · exact .inr (.inr hj)
    · rw [set1_ne _ _ hik]
      have hi' := hpt i e hi hik
      refine (h.pt i e hi').st2 hs (h.sep i k e a hi' hk hik) (fun j hj => .inl (.inl (h.sub hk j hj))) (fun j hj => ?_) hX1
      rcases hj with hj | hj
      · exact (hG j hj).imp .inl id
      · exact .inl (.inr hj)
  · have key : ∀ i e, m.pt i = some e → i ≠ k → Sep F1 (FF i) := fun i e hi hik => (h.sep k i a e hk hi (Ne.symm hik)).gr hg fun j hj => (h.pt i e hi).bd j hj
    intro i l e d hi hl hil
    by_cases hik : i = k
    · subst hik
      rw [set1_at, set1_ne _ _ (Ne.symm hil)]
      exact key l d (hpt l d hl (Ne.symm hil)) (Ne.symm hil)
    · by_cases hlk : l = k
      · subst hlk
        rw [set1_at, set1_ne _ _ hik]
        exact (key i e (hpt i e hi hik) hik).symm
      · rw [set1_ne _ _ hik, set1_ne _ _ hlk]
        exact h.sep i l e d (hpt i e hi hik) (hpt l d hl hlk) hil
  · intro i e hi
    by_cases hik : i = k
    · subst hik
      rw [set1_at]
      exact hg.not h.bk.lt (h.nb _ a hk)
    · rw [set1_ne _ _ hik]
      exact h.nb i e (hpt i e hi hik)
/-- A count is written. -/
theorem FbC.count (h : FbC F X w b m pp FF) {i : Nat} (hi : i < 5) (x : Int) : FbC F X (w.setCell ⟨b, 64 + i, none⟩ (.int .i64 x)) b (m.sc i x) pp FF ∧ St F w (w.setCell ⟨b, 64 + i, none⟩ (.int .i64 x)) := by
  have hs : St (· = b) w (w.setCell ⟨b, 64 + i, none⟩ (.int .i64 x)) := St.setCell (F := (· = b)) w (a := ⟨b, 64 + i, none⟩) rfl _
  refine ⟨⟨?_, h.lt, ?_, h.sep, h.nb, h.f, fun j hj => Nat.lt_of_lt_of_le (h.xb j hj) hs.size⟩, hs.mono fun j _ hj => by rw [hj]; exact h.atB⟩
  · rw [← FM.mem_sc m pp hi]; exact h.bk.set _ _
  · intro k a hk
    refine (h.pt k a hk).st2 hs (fun j hj e => h.nb k a hk (e ▸ hj)) (fun j hj => .inl (.inl (by rw [hj]; exact h.atB))) (fun j hj => .inl hj) fun j hj => ?_
    exact Nat.lt_of_lt_of_le (hj.elim (h.bd j) (h.xb j)) hs.size
/-- A new port is laid in. -/
theorem FbC.newp (h : FbC F X w b m pp FF) {p k : Nat} (hk : k < 64) (hn : m.pt k = none) (hb : Below w.heap.size w w1) (hp : Pb F1 (fun j => F j ∨ X j) w1 p c) (hF : ∀ j, F1 j → w.heap.size ≤ j) :
    ∃ F' FF', FbC F' X (w1.setCell ⟨b, k, none⟩ (.pointer (some ⟨p, 0, none⟩))) b (m.sp k c) (set1 pp k p) FF' ∧ ∀ j, F' j → F j ∨ F1 j := by
  have hs : St (· = b) w1 (w1.setCell ⟨b, k, none⟩ (.pointer (some ⟨p, 0, none⟩))) := St.setCell (F := (· = b)) w1 (a := ⟨b, k, none⟩) rfl _
  have hpt : ∀ i e, (m.sp k c).pt i = some e → i ≠ k → m.pt i = some e := fun i e hi hik => by unfold FM.sp at hi; dsimp only at hi; rwa [set1_ne _ _ hik] at hi
  have hptk : ∀ e, (m.sp k c).pt k = some e → e = c := fun e hi => by unfold FM.sp at hi; dsimp only at hi; rw [set1_at] at hi; injection hi with hi; exact hi.symm
  have hne : ∀ i e, m.pt i = some e → i ≠ k := fun i e hi e' => by rw [e', hn] at hi; cases hi
  have hF' : ∀ j, (j = b ∨ ∃ i e, (m.sp k c).pt i = some e ∧ set1 FF k F1 i j) → F j ∨ F1 j := by
    rintro j (rfl | ⟨i, e, hi, hj⟩)
    · exact .inl h.atB
    · by_cases hik : i = k
      · subst hik; rw [set1_at] at hj; exact .inr hj
      · rw [set1_ne _ _ hik] at hj
        exact .inl (h.sub (hpt i e hi hik) j hj)
  have hX1 : ∀ j, ((j = b ∨ ∃ i e, (m.sp k c).pt i = some e ∧ set1 FF k F1 i j) ∨ X j) → j < (w1.setCell ⟨b, k, none⟩ (.pointer (some ⟨p, 0, none⟩))).heap.size := fun j hj => by
    refine Nat.lt_of_lt_of_le ?_ hs.size
    rcases hj with hj | hj
    · rcases hF' j hj with h1 | h1
      · exact Nat.lt_of_lt_of_le (h.bd j h1) hb.size
      · exact hp.bd j h1
    · exact Nat.lt_of_lt_of_le (h.xb j hj) hb.size
  have hnb1 : ¬ F1 b := fun hf => by have := hF b hf; have := h.bk.lt; omega
  have hst : St (fun j => j = b ∨ w.heap.size ≤ j) w (w1.setCell ⟨b, k, none⟩ (.pointer (some ⟨p, 0, none⟩))) := (St.ext hb).trans (hs.mono fun j _ hj => .inl hj) (Gr.refl _ _)
  refine ⟨fun j => j = b ∨ ∃ i e, (m.sp k c).pt i = some e ∧ set1 FF k F1 i j, set1 FF k F1, ⟨?_, ?_, ?_, ?_, ?_, fun j => Iff.rfl, fun j hj => hX1 j (.inr hj)⟩, hF'⟩
  · rw [← FM.mem_sp m pp hk c]; exact (h.bk.below hb).set _ _
  · intro i e hi
    by_cases hik : i = k
    · subst hik; exact hk
    · exact h.lt i e (hpt i e hi hik)
  · intro i e hi
    by_cases hik : i = k
    · subst hik
      obtain rfl := hptk e hi
      rw [set1_at, set1_at]
      refine (hp.off (X1 := fun j => (j = b ∨ ∃ i' e', (m.sp i e).pt i' = some e' ∧ set1 FF i F1 i' j) ∨ X j) fun j hj => ?_).st2 hs (fun j hj e' => hnb1 (e' ▸ hj)) (fun j hj => .inl (.inl (.inl hj))) (fun j hj => .inl hj) hX1
      rcases hj with hj | hj
      · exact (hF' j hj).elim (fun h1 => .inr (.inl h1)) .inl
      · exact .inr (.inr hj)
    · rw [set1_ne _ _ hik, set1_ne _ _ hik]
      have hi' := hpt i e hi hik
      refine (h.pt i e hi').st2 hst (fun j hj hj' => ?_) (fun j hj => ?_) (fun j hj => ?_) hX1
      · rcases hj' with rfl | hj'
        · exact h.nb i e hi' hj
        · have := (h.pt i e hi').bd j hj; omega
      · exact hj.elim (fun e => .inl (.inl (by rw [e]; exact h.atB))) .inr
      · rcases hj with hj | hj
        · rcases hF' j hj with h1 | h1
          · exact .inl (.inl h1)
          · exact .inr (hF j h1)
        · exact .inl (.inr hj)
  · have key : ∀ i e, m.pt i = some e → Sep F1 (FF i) := fun i e hi => sep_lt hF fun j hj => (h.pt i e hi).bd j hj
    intro i l e d hi hl hil
    by_cases hik : i = k
    · subst hik
      rw [set1_at, set1_ne _ _ (Ne.symm hil)]
      exact key l d (hpt l d hl (Ne.symm hil))
    · by_cases hlk : l = k
      · subst hlk
        rw [set1_at, set1_ne _ _ hik]
        exact (key i e (hpt i e hi hik)).symm
      · rw [set1_ne _ _ hik, set1_ne _ _ hlk]
        exact h.sep i l e d (hpt i e hi hik) (hpt l d hl hlk) hil
  · intro i e hi
    by_cases hik : i = k
    · subst hik
      rw [set1_at]; exact hnb1
    · rw [set1_ne _ _ hik]
      exact h.nb i e (hpt i e hi hik)
end
end Go.Proofs.Ytboclbanccfbjaa
namespace Go.Proofs.Ytboclbanccfbjaa
set_option linter.unusedSimpArgs false
set_option linter.unusedVariables false
set_option maxRecDepth 100000
open Go.RowKit Go.Shelf
/-- What a pointer to a fabric, or none, leads to. -/
def FbP (F X : Nat → Prop) (w : World) (P : Option Addr) (m : FM) (pp : Nat → Nat) (FF : Nat → Nat → Prop) : Prop := (P = none ∧ m = FM.nobody) ∨ ∃ b, P = some ⟨b, 0, none⟩ ∧ FbC F X w b m pp FF
def inB (p h : Int) : Bool := decide (0 ≤ p ∧ p < 8 ∧ 0 ≤ h ∧ h < 8)
def ix (p h : Int) : Nat := p.toNat * 8 + h.toNat
def FM.port (m : FM) (p h : Int) : Option AM := if inB p h = true then m.pt (ix p h) else none
def FM.addr (m : FM) (pp : Nat → Nat) (p h : Int) : Option Addr := (m.port p h).map fun _ => ⟨pp (ix p h), 0, none⟩
def FM.lows (m : FM) (p h : Int) : List Pk := match m.port p h with | none => [] | some a => a.low
def FM.highs (m : FM) (p h : Int) : List Pk := match m.port p h with | none => [] | some a => a.high
theorem ix_lt {p h : Int} (hi : inB p h = true) : ix p h < 64 := by
  simp only [inB, decide_eq_true_eq] at hi
  unfold ix; omega
section
variable {F X F1 X1 G : Nat → Prop} {w w' w1 : World} {P : Option Addr} {m m1 : FM} {pp : Nat → Nat} {FF : Nat → Nat → Prop} {k : Nat} {a c : AM}
theorem FbC.fp {b : Nat} (h : FbC F X w b m pp FF) : FbP F X w (some ⟨b, 0, none⟩) m pp FF := .inr ⟨b, rfl, h⟩
theorem FbP.below (h : FbP F X w P m pp FF) (hb : Below w.heap.size w w') : FbP F X w' P m pp FF := by
  rcases h with h | ⟨b, h, h'⟩
  · exact .inl h
  · exact .inr ⟨b, h, h'.below hb⟩
theorem FM.port_pt {p h : Int} (hp : m.port p h = some a) : m.pt (ix p h) = some a := by
  unfold FM.port at hp
  split at hp
  · exact hp
  · cases hp
theorem FbP.pt (h : FbP F X w P m pp FF) {p q : Int} (hp : m.port p q = some a) : Pb (FF (ix p q)) (fun j => F j ∨ X j) w (pp (ix p q)) a := by
  rcases h with ⟨_, rfl⟩ | ⟨b, _, h⟩
  · have := FM.port_pt hp; cases this
  · exact h.pt _ _ (FM.port_pt hp)
theorem f_at (h : FbP F X w P m pp FF) (p q : Int) :
    Calls Try.prog 34 #[.pointer P, .int .i64 p, .int .i64 q] w fun e w' => e = .returned (.pointer (m.addr pp p q)) ∧ w = w' := by
  rcases h with ⟨rfl, rfl⟩ | ⟨b, rfl, h⟩
  · have e : FM.nobody.addr pp p q = none := by
      unfold FM.addr FM.port
      split <;> rfl
    rw [e]
    go_enter Try.func34, Try.ntmps34
    go_wp2
    go_ret
    exact ⟨rfl, rfl⟩
  · by_cases hi : inB p q = true
    · have e : m.addr pp p q = (m.pt (ix p q)).map fun _ => ⟨pp (ix p q), 0, none⟩ := by unfold FM.addr FM.port; rw [if_pos hi]
      have hc := h.bk.cell _ (m.mem_pt pp (ix_lt hi))
      rw [← e] at hc
      clear h e
      generalize m.addr pp p q = A at *
      simp only [inB, decide_eq_true_eq] at hi
      obtain ⟨i, rfl⟩ := Int.eq_ofNat_of_zero_le (show 0 ≤ p by omega)
      obtain ⟨j, rfl⟩ := Int.eq_ofNat_of_zero_le (show 0 ≤ q by omega)
      simp only [ix, Int.toNat_natCast] at hc
      have hi1 : i < 8 := by omega
      have hj1 : j < 8 := by omega
      have hi2 : (i : Int) < 8 := by omega
      have hj2 : (j : Int) < 8 := by omega
      clear hi
      go_enter Try.func34, Try.ntmps34
      go_wp2
      go_ret
      exact ⟨rfl, rfl⟩
    · have e : m.addr pp p q = none := by unfold FM.addr FM.port; rw [if_neg hi]; rfl
      rw [e]
      simp only [inB, decide_eq_true_eq] at hi
      rcases (by omega : p < 0 ∨ 0 ≤ p ∧ 8 ≤ p ∨ 0 ≤ p ∧ p < 8 ∧ q < 0 ∨ 0 ≤ p ∧ p < 8 ∧ 0 ≤ q ∧ 8 ≤ q) with h0 | ⟨h0, h1⟩ | ⟨h0, h1, h2⟩ | ⟨h0, h1, h2, h3⟩
      all_goals
        clear hi h e
        go_enter Try.func34, Try.ntmps34
        go_wp2
        go_ret
        exact ⟨rfl, rfl⟩
theorem f_made (h : FbP F X w P m pp FF) :
    Calls Try.prog 30 #[.pointer P] w fun e w' => e = .returned (.bool (m.pt 0).isSome) ∧ w = w' := by
  have HA := Lib.hid (f_at h 0 0)
  clear h
  have e : m.addr pp 0 0 = (m.pt 0).map fun _ => ⟨pp 0, 0, none⟩ := rfl
  rw [e] at HA
  clear e
  cases h0 : m.pt 0 with
  | none =>
    rw [h0] at HA
    go_enter Try.func30, Try.ntmps30
    go_wp2_with fail
    refine HA.out.mono ?_
    rintro e w' ⟨rfl, rfl⟩
    go_wp2
    go_ret
    exact ⟨rfl, rfl⟩
  | some a =>
    rw [h0] at HA
    go_enter Try.func30, Try.ntmps30
    go_wp2_with fail
    refine HA.out.mono ?_
    rintro e w' ⟨rfl, rfl⟩
    go_wp2
    go_ret
    exact ⟨rfl, rfl⟩
theorem f_lens (h : FbP F X w P m pp FF) (p q : Int) :
    Calls Try.prog 16 #[.pointer P, .int .i64 p, .int .i64 q] w fun e w' => e = .returned (.tuple #[.int .i64 (m.lows p q).length, .int .i64 (m.highs p q).length]) ∧ Below w.heap.size w w' := by
  have HA := Lib.hid (f_at h p q)
  have HL : Hid (Calls Try.prog 38 #[.pointer (m.addr pp p q)] w fun e w' => e = .returned (.tuple #[.int .i64 (m.lows p q).length, .int .i64 (m.highs p q).length]) ∧ Below w.heap.size w w') := Lib.hid (by
    cases hp : m.port p q with
    | none =>
      have e1 : m.addr pp p q = none := by unfold FM.addr; rw [hp]; rfl
      have e2 : m.lows p q = [] := by unfold FM.lows; rw [hp]
      have e3 : m.highs p q = [] := by unfold FM.highs; rw [hp]
      rw [e1, e2, e3]
      exact (n_lens (.inl rfl)).mono fun e w' hh => ⟨hh.1, hh.2 ▸ Below.refl _ _⟩
    | some a =>
      have e1 : m.addr pp p q = some ⟨pp (ix p q), 0, none⟩ := by unfold FM.addr; rw [hp]; rfl
      have e2 : m.lows p q = a.low := by unfold FM.lows; rw [hp]
      have e3 : m.highs p q = a.high := by unfold FM.highs; rw [hp]
      rw [e1, e2, e3]
      obtain ⟨_, _, _, _, _, _, hh⟩ := h.pt hp
      exact pt_lens hh)
  clear h
  generalize ((m.lows p q).length : Int) = L at *
  generalize ((m.highs p q).length : Int) = H at *
  generalize m.addr pp p q = A at *
  go_enter Try.func16, Try.ntmps16
  go_wp2_with fail
  refine HA.out.mono ?_
  rintro e w' ⟨rfl, rfl⟩
  go_wp2_with fail
  refine HL.out.mono ?_
  rintro e w' ⟨rfl, hb⟩
  have HB := Lib.hid hb
  clear hb
  go_wp2
  go_ret2
  exact ⟨rfl, HB.out⟩
end
end Go.Proofs.Ytboclbanccfbjaa
namespace Go.Proofs.Ytboclbanccfbjaa
set_option linter.unusedSimpArgs false
set_option linter.unusedVariables false
set_option maxRecDepth 100000
open Go.RowKit Go.Shelf
/-- So far made: all of the first i paths, and j of the next. -/
def FM.newN (hs i j : Nat) (a : AM) : FM := ⟨fun k => if k / 8 < i ∧ k % 8 < hs ∨ k / 8 = i ∧ k % 8 < j then some a else none, fun _ => 0⟩
def FM.new (hs ps : Nat) (a : AM) : FM := FM.newN hs ps 0 a
theorem FM.newN_sp (hs i j : Nat) (a : AM) (hi : i < 8) (hj : j < 8) : (FM.newN hs i j a).sp (i * 8 + j) a = FM.newN hs i (j + 1) a := by
  unfold FM.sp FM.newN
  congr 1
  funext k
  unfold set1
  dsimp only
  by_cases hk : k = i * 8 + j
  · subst hk
    rw [if_pos rfl, if_pos (by omega)]
  · rw [if_neg hk]
    by_cases h1 : k / 8 < i ∧ k % 8 < hs ∨ k / 8 = i ∧ k % 8 < j
    · rw [if_pos h1, if_pos (by omega)]
    · rw [if_neg h1, if_neg (by omega)]
theorem FM.newN_next (hs i : Nat) (a : AM) : FM.newN hs i hs a = FM.newN hs (i + 1) 0 a := by
  unfold FM.newN
  congr 1
  funext k
  by_cases h1 : k / 8 < i ∧ k % 8 < hs ∨ k / 8 = i ∧ k % 8 < hs
  · rw [if_pos h1, if_pos (by omega)]
  · rw [if_neg h1, if_neg (by omega)]
theorem FM.newN_none (hs i j : Nat) (a : AM) : (FM.newN hs i j a).pt (i * 8 + j) = none ∨ 8 ≤ j := by
  by_cases hj : 8 ≤ j
  · exact .inr hj
  · refine .inl ?_
    show (if _ then _ else _) = _
    rw [if_neg (by omega)]
theorem FM.newN_zero (hs : Nat) (a : AM) : FM.newN hs 0 0 a = FM.nobody := by
  unfold FM.newN FM.nobody
  congr 1
  funext k
  rw [if_neg (by omega)]
theorem zero_mem : FM.nobody.mem (fun _ => 0) = List.replicate 64 (.pointer none) ++ List.replicate 5 (.int .i64 0) := by kernel_rfl
/-- A fabric that a call made, behind world w0. -/
def NwF (w0 : World) (b : Nat) (m : FM) (w : World) : Prop := ∃ F pp FF, FbC F (fun _ => False) w b m pp FF ∧ (∀ j, F j → w0.heap.size ≤ j) ∧ Below w0.heap.size w0 w
theorem zero_fb (w : World) : NwF w w.heap.size FM.nobody (w.alloc (.cells (FM.nobody.mem (fun _ => 0)).toArray 70)) :=
  ⟨(· = w.heap.size), fun _ => 0, fun _ _ => False, ⟨Bk.new w _ _, fun k a h => (by cases h), fun k a h => (by cases h), fun i k a c h => (by cases h), fun k a h => (by cases h), fun j => ⟨.inl, fun h => h.elim id fun ⟨_, _, h, _⟩ => by cases h⟩, fun j h => h.elim⟩, fun j hj => by rw [hj]; exact Nat.le_refl _, (Below.refl _ _).alloc (Nat.le_refl _) _⟩
theorem NwF.newp {w0 w w1 : World} {b : Nat} {m : FM} {F1 : Nat → Prop} {p k : Nat} {c : AM} {pp : Nat → Nat} {FF : Nat → Nat → Prop} {F : Nat → Prop} (h : FbC F (fun _ => False) w b m pp FF) (hF : ∀ j, F j → w0.heap.size ≤ j) (hb : Below w0.heap.size w0 w) (hk : k < 64) (hn : m.pt k = none)
    (hb1 : Below w.heap.size w w1) (hp : Pb F1 (fun j => F j ∨ False) w1 p c) (hF1 : ∀ j, F1 j → w.heap.size ≤ j) : NwF w0 b (m.sp k c) (w1.setCell ⟨b, k, none⟩ (.pointer (some ⟨p, 0, none⟩))) := by
  obtain ⟨F', FF', h', hF'⟩ := h.newp hk hn hb1 hp hF1
  have hbb := hF b h.atB
  refine ⟨F', _, FF', h', fun j hj => (hF' j hj).elim (hF j) fun h1 => Nat.le_trans hb.size (hF1 j h1), ?_⟩
  exact (hb.trans (hb1.mono hb.size)).setCell hbb _
set_option maxHeartbeats 4000000 in
theorem f_new (hs ps low high wt : Nat) (w : World) (a1 : 2 ≤ hs) (a2 : hs ≤ 8) (a3 : 1 ≤ ps) (a4 : ps ≤ 8) (h1 : 1 ≤ low) (h2 : low ≤ 1024) (h3 : 1 ≤ high) (h4 : high ≤ 1024) (h5 : 1 ≤ wt) (h6 : wt ≤ 1024) :
    Calls Try.prog 6 #[.int .i64 hs, .int .i64 ps, .int .i64 low, .int .i64 high, .int .i64 wt] w fun e w' => e = .returned (.tuple #[.pointer (some ⟨w.heap.size, 0, none⟩), .int .i64 0]) ∧ NwF w w.heap.size (FM.new hs ps (AM.new low high wt)) w' := by
  have HP := Lib.hid (fun (X : Nat → Prop) (W : World) (hX : ∀ k, X k → k < W.heap.size) => pt_new (X := X) low high wt W hX h1 h2 h3 h4 h5 h6)
  have HZ := Lib.hid (zero_fb w)
  rw [← FM.newN_zero hs (AM.new low high wt)] at HZ
  clear h1 h2 h3 h4 h5 h6
  go_enter Try.func6, Try.ntmps6
  go_wp2
  go_loopw [34] (fun v wr => ∃ i : Nat, v = .int .i64 i ∧ i ≤ ps ∧ NwF w w.heap.size (FM.newN hs i 0 (AM.new low high wt)) wr) (fun v _ => ps - (intOf v).toNat)
  case atStart =>
    refine ⟨0, rfl, Nat.zero_le _, ?_⟩
    have := HZ.out
    rw [FM.newN_zero] at this ⊢
    rw [zero_mem] at this
    exact this
  case round =>
    obtain ⟨i, rfl, hi, hm⟩ := hrel
    by_cases hlt : i < ps
    · have hlt' : (i : Int) < ps := by omega
      have hi8 : i < 8 := by omega
      have HM := Lib.hid hm
      clear hm HZ
      go_wp2
      go_loopw [38] (fun v wr => ∃ j : Nat, v = .int .i64 j ∧ j ≤ hs ∧ NwF w w.heap.size (FM.newN hs i j (AM.new low high wt)) wr) (fun v _ => hs - (intOf v).toNat)
      case atStart => exact ⟨0, rfl, Nat.zero_le _, HM.out⟩
      case round =>
        obtain ⟨j, rfl, hj, hm⟩ := hrel
        by_cases hjl : j < hs
        · have hjl' : (j : Int) < hs := by omega
          have hj8 : j < 8 := by omega
          have hi8' : (i : Int) < 8 := by omega
          have hj8' : (j : Int) < 8 := by omega
          obtain ⟨F, pp, FF, hf, hF, hb⟩ := hm
          have hxx : ∀ k, (F k ∨ False) → k < wr.heap.size := fun k hk => hf.bd k (hk.elim id False.elim)
          have HF := Lib.hid (And.intro hf (And.intro hF hb))
          have HPX := Lib.hid (HP.out _ wr hxx)
          clear hf hF hb hxx
          go_wp2_with fail
          refine HPX.out.mono ?_
          rintro e w1 ⟨rfl, hb1, F1, pl1, ph1, Fl1, Fh1, hp1, hF1⟩
          have hbk := HF.out.1.bk.below hb1
          have hnn := (FM.newN_none hs i j (AM.new low high wt)).resolve_right (by omega)
          have c0 := hbk.cell _ ((FM.newN hs i j (AM.new low high wt)).mem_pt pp (k := i * 8 + j) (by omega))
          have f0 := hbk.free (i * 8 + j)
          have HN := Lib.hid (NwF.newp HF.out.1 HF.out.2.1 HF.out.2.2 (show i * 8 + j < 64 by omega) hnn hb1 ⟨_, _, _, _, _, _, hp1⟩ hF1)
          rw [FM.newN_sp hs i j _ hi8 hj8] at HN
          clear hbk hnn hb1 hp1 hF1 HPX HF
          go_wp2
          go_roundw
          case rel => exact ⟨j + 1, by go_num, by omega, HN.out⟩
          case measure => simp [intOf]; omega
        · obtain rfl : j = hs := by omega
          rw [FM.newN_next] at hm
          have HM2 := Lib.hid hm
          clear hm
          go_wp2
          go_roundw
          case rel => exact ⟨i + 1, by go_num, by omega, HM2.out⟩
          case measure => simp [intOf]; omega
    · obtain rfl : i = ps := by omega
      have HM := Lib.hid hm
      clear hm HZ
      go_wp2
      go_ret2
      exact ⟨rfl, HM.out⟩
end Go.Proofs.Ytboclbanccfbjaa
namespace Go.Proofs.Ytboclbanccfbjaa
set_option linter.unusedSimpArgs false
set_option linter.unusedVariables false
set_option maxRecDepth 100000
open Go.RowKit Go.Shelf
/-- A packet into its port: the fabric, the verdict, what is to be sent back. -/
def FM.into (m : FM) (x : Pk) : FM := match m.port x.h.pa x.h.ds with | none => m | some a => m.sp (ix x.h.pa x.h.ds) (a.nx x)
def FM.ivd (m : FM) (x : Pk) : Nat := match m.port x.h.pa x.h.ds with | none => 4 | some a => a.vd x
def FM.iout (m : FM) (x : Pk) : Pk := match m.port x.h.pa x.h.ds with | none => Pk.zero | some a => a.out x
def FM.pvd (m : FM) (x : Pk) : Nat := if m.ivd x = 3 then (if (m.into x).ivd (m.iout x) = 1 then 3 else 4) else m.ivd x
def FM.pv3 (m : FM) (x : Pk) : Nat := if (m.into x).ivd (m.iout x) = 1 then 3 else 4
def FM.pnx (m : FM) (x : Pk) : FM := if m.ivd x = 3 then (m.into x).into (m.iout x) else m.into x
/-- All its ports keep within their rooms. -/
def FMb (m : FM) (L H : Nat) (B : Int) : Prop := ∀ k a, m.pt k = some a → AMb a L H B
section
variable {F X F1 X1 G : Nat → Prop} {w w' w1 : World} {b : Nat} {m m1 : FM} {pp : Nat → Nat} {FF : Nat → Nat → Prop} {k L H : Nat} {a c : AM} {B C : Int}
theorem FMb.mono (h : FMb m L H B) (hC : B ≤ C) : FMb m L H C := fun k a hk => (h k a hk).mono hC
theorem FMb.sp (h : FMb m L H B) (ha : AMb a L H C) (hC : B ≤ C) : FMb (m.sp k a) L H C := fun i e hi => by
  unfold FM.sp at hi
  dsimp only at hi
  by_cases hik : i = k
  · subst hik; rw [set1_at] at hi; injection hi with hi; subst hi; exact ha
  · rw [set1_ne _ _ hik] at hi; exact (h i e hi).mono hC
theorem FMb.into (h : FMb m L H B) (x : Pk) : FMb (m.into x) L H (B + 1) := by
  unfold FM.into
  cases hp : m.port x.h.pa x.h.ds with
  | none => exact h.mono (by omega)
  | some a => exact h.sp ((h _ _ (FM.port_pt hp)).nx x) (by omega)
theorem FMb.pnx (h : FMb m L H B) (x : Pk) : FMb (m.pnx x) L H (B + 2) := by
  unfold FM.pnx
  split
  · have := (h.into x).into (m.iout x)
    rwa [show B + 1 + 1 = B + 2 by omega] at this
  · exact (h.into x).mono (by omega)
theorem FM.pvd_lt (m : FM) (x : Pk) : 1 ≤ m.pvd x ∧ m.pvd x ≤ 4 := by
  have hi : ∀ m : FM, ∀ x : Pk, 1 ≤ m.ivd x ∧ m.ivd x ≤ 4 := fun m x => by
    unfold FM.ivd
    split
    · omega
    · rename_i a _
      have := a.vd_cases x; omega
  unfold FM.pvd
  have h1 := hi m x
  repeat' split
  all_goals omega
theorem FbC.put (h : FbC F X w b m pp FF) (hM : FMb m L H B) (hB : B ≤ 1000000) {q : Pv} (hq : PvR F w q) :
    Calls Try.prog 45 #[.pointer (m.addr pp q.h.pa q.h.ds), .agg #[.int .i64 q.h.kd, .int .i64 q.h.fl, .int .i64 q.h.pa, .int .i64 q.h.sr, .int .i64 q.h.ds, .int .i64 q.h.cn, .int .i64 q.h.sq, .int .i64 q.h.pu, .slice q.A q.n q.c]] w fun e w' => ∃ q' F' FF', e = .returned (.tuple #[.int .i64 (m.ivd q.pk), .agg #[.int .i64 q'.h.kd, .int .i64 q'.h.fl, .int .i64 q'.h.pa, .int .i64 q'.h.sr, .int .i64 q'.h.ds, .int .i64 q'.h.cn, .int .i64 q'.h.sq, .int .i64 q'.h.pu, .slice q'.A q'.n q'.c]]) ∧ q'.pk = m.iout q.pk ∧
      FbC F' X w' b (m.into q.pk) pp FF' ∧ St F w w' ∧ Gr F F' w.heap.size ∧ PvR (fun k => F' k ∨ X k) w' q' := by
  have hpk : q.pk.h = q.h := rfl
  unfold FM.into FM.ivd FM.iout
  rw [hpk]
  cases hp : m.port q.h.pa q.h.ds with
  | none =>
    have e : m.addr pp q.h.pa q.h.ds = none := by unfold FM.addr; rw [hp]; rfl
    rw [e]
    refine (n_put (.inl rfl) q).mono ?_
    rintro e w' ⟨rfl, hb⟩
    exact ⟨zPv, F, FF, rfl, rfl, h.below hb, St.ext hb, Gr.refl _ _, PvR.zero _ _⟩
  | some a =>
    have e : m.addr pp q.h.pa q.h.ds = some ⟨pp (ix q.h.pa q.h.ds), 0, none⟩ := by unfold FM.addr; rw [hp]; rfl
    rw [e]
    have hk := FM.port_pt hp
    obtain ⟨pl, ph, Fl, Fh, ql, qh, hpt⟩ := h.pt _ _ hk
    refine (pt_put hpt (hq.mono fun j hj => h.sub hk j hj) ((hM _ _ hk).ok.ct hB)).mono ?_
    rintro e w' ⟨q', rfl, hk', F1, Fl', Fh', ql', qh', hp1, hs1, hg1, hr1⟩
    obtain ⟨F', FF', h1, h2, h3, h4⟩ := h.port hk ⟨pl, ph, Fl', Fh', ql', qh', hp1⟩ hs1 hg1
    refine ⟨q', F', FF', rfl, hk', h1, h2, h3, hr1.mono fun j hj => ?_⟩
    rcases hj with hj | hj
    · exact (h4 j hj).elim (fun h => .inr (.inl h)) .inl
    · exact .inr (.inr hj)
theorem Bk.kp {t : TypeId} {g : Nat} {vs : List Value} {S : Nat → Prop} (h : Bk w t g vs) (hk : Keep S w w') (hS : S g) : Bk w' t g vs := (hk.block hS).trans h
theorem Keep.setW {g : Nat} {S : Nat → Prop} (hw : Wr g w w') (hS : ∀ k, S k → k < w.heap.size ∧ k ≠ g) : Keep S w w' := ⟨hw.os, hw.tape, hw.output, hw.size, fun k hk => hw.block k (hS k hk).1 (by intro e; injection e with e; exact (hS k hk).2 e)⟩
/-- A box of the call's own is off limits. -/
theorem FbC.box (h : FbC F X w b m pp FF) {g : Nat} (hb : Below w.heap.size w w') (hg : w.heap.size ≤ g) (hg' : g < w'.heap.size) : FbC F (fun k => X k ∨ k = g) w' b m pp FF :=
  h.st (G := fun _ => False) (St.ext hb) (fun _ _ h => h) (fun _ h => h.elim) (fun k hk => hk.imp id fun e => by omega) (fun k hk => hk.elim (fun hk => Nat.lt_of_lt_of_le (h.xb k hk) hb.size) fun e => by omega)
theorem St.kp {S : Nat → Prop} (h : St F w w') (hS : ∀ k, S k → k < w.heap.size ∧ ¬ F k) : Keep S w w' := ⟨h.os, h.tape, h.output, h.size, fun k hk => h.block k (hS k hk).1 (hS k hk).2⟩
/-- The fabric is this one now; nothing else of what was there has changed. -/
def FDid (F X : Nat → Prop) (w : World) (b : Nat) (m : FM) (pp : Nat → Nat) (w' : World) : Prop := ∃ F' FF', FbC F' X w' b m pp FF' ∧ St F w w' ∧ Gr F F' w.heap.size
/-- A packet went in, and what came of it lies in box g. -/
def InTo (F X : Nat → Prop) (w : World) (b : Nat) (m : FM) (pp : Nat → Nat) (g : Nat) (q : Pv) (w' : World) : Prop := ∃ F' FF', FbC F' (fun k => X k ∨ k = g) w' b m pp FF' ∧ St F w w' ∧ Gr F F' w.heap.size ∧ PvR (fun k => F' k ∨ X k ∨ k = g) w' q ∧ Bk w' 65 g q.cl ∧ w.heap.size ≤ g ∧ ¬ F' g
theorem into_after {o : Obj} {w6 w7 : World} {F6 : Nat → Prop} {FF6 : Nat → Nat → Prop} {q : Pv} (hf : FbC F6 X w6 b m pp FF6) (hs : St F w w6) (hg : Gr F F6 w.heap.size) (hr : PvR (fun k => F6 k ∨ X k) w6 q) (hw : Wr w6.heap.size (w6.alloc o) w7) (hz : Bk w7 65 w6.heap.size q.cl) : InTo F X w b m pp w6.heap.size q w7 := by
  have hba := (Below.refl w6.heap.size w6).alloc (Nat.le_refl _) o
  have hfb := hf.box (g := w6.heap.size) hba (Nat.le_refl _) (by simp)
  have hst : St (· = w6.heap.size) (w6.alloc o) w7 := wr_st hw rfl
  have hsz := hs.size
  refine ⟨F6, FF6, hfb.st hst (fun k hk e => by have := hf.bd k hk; omega) (fun k hk => .inl (.inr hk)) (fun k hk => .inl hk) (fun k hk => Nat.lt_of_lt_of_le (hfb.xb k hk) hst.size), (hs.trans (St.ext hba) (Gr.refl _ _)).trans ((hst.mono fun k _ hk => .inr (by omega) : St (fun k => F k ∨ w6.heap.size ≤ k) _ _) |> fun h => h.mono fun k _ hk => hk) (fun k hk => hk.imp id fun h => by omega), hg, ?_, hz, hs.size, fun h => Nat.lt_irrefl _ (hf.bd _ h)⟩
  have h1 := (hr.below hba).wr hw fun hn ad he => by have := hr.1.blk hn ad he; omega
  exact ⟨h1.1, h1.2.1, h1.2.2.1, fun hn ad he hf' => by
    rcases hf' with h | h | h
    · exact h1.2.2.2 hn ad he (.inl h)
    · exact h1.2.2.2 hn ad he (.inr h)
    · have := hr.1.blk hn ad he; omega⟩
theorem into_before {o : Obj} {w6 w7 : World} {F6 : Nat → Prop} {FF6 : Nat → Nat → Prop} {q : Pv} (hF : ∀ k, F k → k < w.heap.size) (hf : FbC F6 (fun k => X k ∨ k = w.heap.size) w6 b m pp FF6) (hs : St F (w.alloc o) w6) (hg : Gr F F6 (w.alloc o).heap.size) (hr : PvR (fun k => F6 k ∨ X k ∨ k = w.heap.size) w6 q) (hw : Wr w.heap.size w6 w7) (hz : Bk w7 65 w.heap.size q.cl) : InTo F X w b m pp w.heap.size q w7 := by
  have hba := (Below.refl w.heap.size w).alloc (Nat.le_refl _) o
  have hst : St (· = w.heap.size) w6 w7 := wr_st hw rfl
  have hnF : ¬ F6 w.heap.size := hg.not (by simp) fun h => Nat.lt_irrefl _ (hF _ h)
  refine ⟨F6, FF6, hf.st hst (fun k hk e => hnF (e ▸ hk)) (fun k hk => .inl (.inr hk)) (fun k hk => .inl hk) (fun k hk => Nat.lt_of_lt_of_le (hf.xb k hk) hst.size), ?_, (Gr.refl F _).trans hg hba.size, ?_, hz, Nat.le_refl _, hnF⟩
  · exact ((St.ext hba).trans hs (Gr.refl _ _)).trans (hst.mono (F' := fun k => F k ∨ w.heap.size ≤ k) fun k _ hk => .inr (by omega)) (fun k hk => hk)
  · exact hr.wr hw fun hn ad he e => hr.2.2.2 hn ad he (.inr (.inr e))
set_option maxHeartbeats 8000000 in
theorem f_put1 (h : FbC F X w b m pp FF) (hM : FMb m L H B) (hB : B + 2 ≤ 1000000) {q : Pv} (hq : PvR F w q) (hv : m.ivd q.pk ≠ 3) :
    Calls Try.prog 31 #[.pointer (some ⟨b, 0, none⟩), .agg #[.int .i64 q.h.kd, .int .i64 q.h.fl, .int .i64 q.h.pa, .int .i64 q.h.sr, .int .i64 q.h.ds, .int .i64 q.h.cn, .int .i64 q.h.sq, .int .i64 q.h.pu, .slice q.A q.n q.c]] w fun e w' => e = .returned (.int .i64 (m.ivd q.pk)) ∧ FDid F X w b (m.into q.pk) pp w' := by
  have hb0 := (Below.refl w.heap.size w).alloc (Nat.le_refl _) (.cells (List.toArray [.int .i64 q.h.kd, .int .i64 q.h.fl, .int .i64 q.h.pa, .int .i64 q.h.sr, .int .i64 q.h.ds, .int .i64 q.h.cn, .int .i64 q.h.sq, .int .i64 q.h.pu, .slice q.A q.n q.c]) 65)
  have HX0 := Lib.hid (Bk.new w 65 [.int .i64 q.h.kd, .int .i64 q.h.fl, .int .i64 q.h.pa, .int .i64 q.h.sr, .int .i64 q.h.ds, .int .i64 q.h.cn, .int .i64 q.h.sq, .int .i64 q.h.pu, .slice q.A q.n q.c])
  have HF0 := Lib.hid (h.box (g := w.heap.size) hb0 (Nat.le_refl _) (by simp))
  have HQ0 := Lib.hid (hq.below hb0)
  have HB0 := Lib.hid hb0
  have HFB := Lib.hid h.bd
  have HM := Lib.hid hM
  clear h hq hM hb0
  go_enter Try.func31, Try.ntmps31
  go_wp2
  have hv3 : ¬ ((m.ivd q.pk : Nat) : Int) = 3 := by omega
  refine wp_region_E (Keep (· = w.heap.size)) (by kernel_rfl) (fun wd hbd hsz => ?_)
  have hfc := HF0.out.below hbd
  have hqc := HQ0.out.below hbd
  have HXC := Lib.hid (HX0.out.below hbd)
  have HBD := Lib.hid (below_on HB0.out hbd)
  have HFD := Lib.hid hfc.bd
  have HnF : Hid (¬ F w.heap.size) := Lib.hid fun hf => Nat.lt_irrefl _ (HFB.out _ hf)
  have hgF : ¬ F wd.heap.size := fun hf => Nat.lt_irrefl _ (HFD.out _ hf)
  clear hsz HF0 HQ0 HX0 hbd
  have k2 : ∀ W, Keep (· = w.heap.size) wd W → W.cell? ⟨w.heap.size, 2, none⟩ = some (.int .i64 q.h.pa) := fun W hW => (HXC.out.kp hW rfl).cell 2 rfl
  have k4 : ∀ W, Keep (· = w.heap.size) wd W → W.cell? ⟨w.heap.size, 4, none⟩ = some (.int .i64 q.h.ds) := fun W hW => (HXC.out.kp hW rfl).cell 4 rfl
  have hsz1 : wd.heap.size ≤ wd.heap.size := Nat.le_refl _
  (refine takeE (Keep.tr (· = w.heap.size)) 0 (by simp only [List.getElem?_toArray, List.getElem?_cons_succ, List.getElem?_cons_zero]; rfl) (by kernel_rfl) (by kernel_rfl) (by kernel_rfl) (by exact fun _ _ _ h => h) (by first | (refine Or.inl ⟨by rfl, ?_⟩; intro W hW; go_simp; try with_reducible rfl) | exact Or.inr ⟨by rfl, rfl⟩) ?_; try simp only [Act.put, List.setIfInBounds_toArray, List.set_cons_zero, List.set_cons_succ])
  (refine takeE (Keep.tr (· = w.heap.size)) 1 (by simp only [List.getElem?_toArray, List.getElem?_cons_succ, List.getElem?_cons_zero]; rfl) (by kernel_rfl) (by kernel_rfl) (by kernel_rfl) (by exact fun _ _ _ h => h) (by first | (refine Or.inl ⟨by rfl, ?_⟩; intro W hW; go_simp; try with_reducible rfl) | exact Or.inr ⟨by rfl, rfl⟩) ?_; try simp only [Act.put, List.setIfInBounds_toArray, List.set_cons_zero, List.set_cons_succ])
  (refine takeE (Keep.tr (· = w.heap.size)) 3 (by simp only [List.getElem?_toArray, List.getElem?_cons_succ, List.getElem?_cons_zero]; rfl) (by kernel_rfl) (by kernel_rfl) (by kernel_rfl) (by exact fun _ _ _ h => h) (by first | (refine Or.inl ⟨by rfl, ?_⟩; intro W hW; go_simp; try with_reducible rfl) | exact Or.inr ⟨by rfl, rfl⟩) ?_; try simp only [Act.put, List.setIfInBounds_toArray, List.set_cons_zero, List.set_cons_succ])
  (refine takeE (Keep.tr (· = w.heap.size)) 6 (by simp only [List.getElem?_toArray, List.getElem?_cons_succ, List.getElem?_cons_zero]; rfl) (by kernel_rfl) (by kernel_rfl) (by kernel_rfl) (by exact fun _ _ _ h => h) (by first | (refine Or.inl ⟨by rfl, ?_⟩; intro W hW; exact exec_load_bk rowP (.tmp 3) rfl w.heap.size 0 rfl (HXC.out.kp hW rfl) q.cl rfl rfl) | exact Or.inr ⟨by rfl, rfl⟩) ?_; try simp only [Act.put, List.setIfInBounds_toArray, List.set_cons_zero, List.set_cons_succ])
  (refine takeE (Keep.tr (· = w.heap.size)) 2 (by simp only [List.getElem?_toArray, List.getElem?_cons_succ, List.getElem?_cons_zero]; rfl) (by kernel_rfl) (by kernel_rfl) (by kernel_rfl) (by exact fun _ _ _ h => h) (by first | (refine Or.inl ⟨by rfl, ?_⟩; intro W hW; go_simp; try with_reducible rfl) | exact Or.inr ⟨by rfl, rfl⟩) ?_; try simp only [Act.put, List.setIfInBounds_toArray, List.set_cons_zero, List.set_cons_succ])
  (refine takeE (Keep.tr (· = w.heap.size)) 4 (by simp only [List.getElem?_toArray, List.getElem?_cons_succ, List.getElem?_cons_zero]; rfl) (by kernel_rfl) (by kernel_rfl) (by kernel_rfl) (by exact fun _ _ _ h => h) (by first | (refine Or.inl ⟨by rfl, ?_⟩; intro W hW; go_simp; try with_reducible rfl) | exact Or.inr ⟨by rfl, rfl⟩) ?_; try simp only [Act.put, List.setIfInBounds_toArray, List.set_cons_zero, List.set_cons_succ])
  refine wpAnyE_two (i := 5) (j := 11) (by kernel_rfl) (by simp only [List.getElem?_toArray, List.getElem?_cons_succ, List.getElem?_cons_zero]; rfl) (by simp only [List.getElem?_toArray, List.getElem?_cons_succ, List.getElem?_cons_zero]; rfl) (fun K hK => ?_) (fun K hK => ?_)
  ·
    go_simp
    refine (f_at hfc.fp _ _).mono ?_
    rintro e wq ⟨rfl, rfl⟩
    refine hK.out _ _ ((Keep.tr _).refl _) ?_
    clear hK K
    try simp only [Act.put, List.setIfInBounds_toArray, List.set_cons_zero, List.set_cons_succ]
    refine wpAnyE_two (i := 7) (j := 11) (by kernel_rfl) (by simp only [List.getElem?_toArray, List.getElem?_cons_succ, List.getElem?_cons_zero]; rfl) (by simp only [List.getElem?_toArray, List.getElem?_cons_succ, List.getElem?_cons_zero]; rfl) (fun K hK => ?_) (fun K hK => ?_)
    ·
      go_simp
      refine (hfc.put HM.out (by omega) hqc).mono ?_
      rintro e w6 ⟨q', F6, FF6, rfl, hk6, hf6, hs6, hg6, hr6⟩
      refine hK.out _ _ (hs6.kp fun k hk => by rw [hk]; exact ⟨Nat.lt_of_lt_of_le HXC.out.lt hsz1, HnF.out⟩) ?_
      clear hK K
      try simp only [Act.put, List.setIfInBounds_toArray, List.set_cons_zero, List.set_cons_succ]
      (refine takeE (Keep.tr (· = w.heap.size)) 8 (by simp only [List.getElem?_toArray, List.getElem?_cons_succ, List.getElem?_cons_zero]; rfl) (by kernel_rfl) (by kernel_rfl) (by kernel_rfl) (by exact fun _ _ _ h => h) (by first | (refine Or.inl ⟨by rfl, ?_⟩; intro W hW; go_simp; try with_reducible rfl) | exact Or.inr ⟨by rfl, rfl⟩) ?_; try simp only [Act.put, List.setIfInBounds_toArray, List.set_cons_zero, List.set_cons_succ])
      (refine takeE (Keep.tr (· = w.heap.size)) 9 (by simp only [List.getElem?_toArray, List.getElem?_cons_succ, List.getElem?_cons_zero]; rfl) (by kernel_rfl) (by kernel_rfl) (by kernel_rfl) (by exact fun _ _ _ h => h) (by first | (refine Or.inl ⟨by rfl, ?_⟩; intro W hW; go_simp; try with_reducible rfl) | exact Or.inr ⟨by rfl, rfl⟩) ?_; try simp only [Act.put, List.setIfInBounds_toArray, List.set_cons_zero, List.set_cons_succ])
      (refine takeE (Keep.tr (· = w.heap.size)) 10 (by simp only [List.getElem?_toArray, List.getElem?_cons_succ, List.getElem?_cons_zero]; rfl) (by kernel_rfl) (by kernel_rfl) (by kernel_rfl) (by exact fun _ _ _ h => h) (by first | (refine Or.inl ⟨by rfl, ?_⟩; intro W hW; go_simp; try with_reducible rfl) | exact Or.inr ⟨by rfl, rfl⟩) ?_; try simp only [Act.put, List.setIfInBounds_toArray, List.set_cons_zero, List.set_cons_succ])
      refine wpAnyE_one (i := 11) (by kernel_rfl) (by simp only [List.getElem?_toArray, List.getElem?_cons_succ, List.getElem?_cons_zero]; rfl) (fun K hK => ?_)
      go_simp
      have hba := (Below.refl w6.heap.size w6).alloc (Nat.le_refl _) (.cells (List.toArray [.int .i64 0, .int .i64 0, .int .i64 0, .int .i64 0, .int .i64 0, .int .i64 0, .int .i64 0, .int .i64 0, .slice none 0 0]) 65)
      have hz6 := Bk.new w6 65 [.int .i64 0, .int .i64 0, .int .i64 0, .int .i64 0, .int .i64 0, .int .i64 0, .int .i64 0, .int .i64 0, .slice none 0 0]
      refine hK.out _ _ (Keep.below hba (fun k hk => by rw [hk]; exact Nat.lt_of_lt_of_le HXC.out.lt hs6.size)) ?_
      clear hK K
      try simp only [Act.put, List.setIfInBounds_toArray, List.set_cons_zero, List.set_cons_succ]
      (refine takeE (Keep.tr (· = w.heap.size)) 12 (by simp only [List.getElem?_toArray, List.getElem?_cons_succ, List.getElem?_cons_zero]; rfl) (by kernel_rfl) (by kernel_rfl) (by kernel_rfl) (by exact fun _ _ _ h => h) (by first | (refine Or.inl ⟨by rfl, ?_⟩; intro W hW; go_simp; try with_reducible rfl) | exact Or.inr ⟨by rfl, rfl⟩) ?_; try simp only [Act.put, List.setIfInBounds_toArray, List.set_cons_zero, List.set_cons_succ])
      refine wpAnyE_one (i := 13) (by kernel_rfl) (by simp only [List.getElem?_toArray, List.getElem?_cons_succ, List.getElem?_cons_zero]; rfl) (fun K hK => ?_)
      refine opwp_put_pk rowP rfl (.tmp 6) (.tmp 19) rfl _ rfl hz6 (by rfl) q' rfl ?_
      intro w7 hz7 hw7
      have hin := into_after hf6 hs6 hg6 hr6 hw7 hz7
      refine hK.out _ _ (Keep.setW hw7 (fun k hk => by rw [hk]; exact ⟨Nat.lt_of_lt_of_le HXC.out.lt (Nat.le_trans hs6.size hba.size), fun e => by have := HXC.out.lt; have := hs6.size; omega⟩)) ?_
      clear hK K
      try simp only [Act.put, List.setIfInBounds_toArray, List.set_cons_zero, List.set_cons_succ]
      refine wpAnyE_done (by kernel_rfl) ?_ _
      try clear hba
      try clear hz
      try clear hgF
      try clear hqc hfc hs6 hg6 hf6 hr6 hz6 hz7 hw7
      clear k2 k4 hsz1
      obtain ⟨F9, FF9, hf9, hs9, hg9, hr9, hz9, hle9, hn9⟩ := hin
      have HE : Hid (FDid F X w b (m.into q.pk) pp w7) := Lib.hid ⟨F9, FF9, hf9.less fun k hk => .inl (.inl hk), (St.ext HBD.out).trans hs9 (Gr.refl _ _), (Gr.refl F _).trans hg9 HBD.out.size⟩
      clear hf9 hs9 hg9 hr9 hz9 hle9 hn9
      go_wp2
      go_ret
      exact ⟨rfl, HE.out⟩
    ·
      go_simp
      have hba := (Below.refl wd.heap.size wd).alloc (Nat.le_refl _) (.cells (List.toArray [.int .i64 0, .int .i64 0, .int .i64 0, .int .i64 0, .int .i64 0, .int .i64 0, .int .i64 0, .int .i64 0, .slice none 0 0]) 65)
      have hz := Bk.new wd 65 [.int .i64 0, .int .i64 0, .int .i64 0, .int .i64 0, .int .i64 0, .int .i64 0, .int .i64 0, .int .i64 0, .slice none 0 0]
      replace hsz1 := hba.size
      replace hfc := hfc.box (g := wd.heap.size) hba (Nat.le_refl _) (by simp)
      replace hqc := hqc.below hba
      refine hK.out _ _ (Keep.below hba (fun k hk => by rw [hk]; exact HXC.out.lt)) ?_
      clear hK K
      try simp only [Act.put, List.setIfInBounds_toArray, List.set_cons_zero, List.set_cons_succ]
      refine wpAnyE_one (i := 7) (by kernel_rfl) (by simp only [List.getElem?_toArray, List.getElem?_cons_succ, List.getElem?_cons_zero]; rfl) (fun K hK => ?_)
      go_simp
      refine (hfc.put HM.out (by omega) hqc).mono ?_
      rintro e w6 ⟨q', F6, FF6, rfl, hk6, hf6, hs6, hg6, hr6⟩
      have hz6 := hz.st hs6 hgF
      refine hK.out _ _ (hs6.kp fun k hk => by rw [hk]; exact ⟨Nat.lt_of_lt_of_le HXC.out.lt hsz1, HnF.out⟩) ?_
      clear hK K
      try simp only [Act.put, List.setIfInBounds_toArray, List.set_cons_zero, List.set_cons_succ]
      (refine takeE (Keep.tr (· = w.heap.size)) 8 (by simp only [List.getElem?_toArray, List.getElem?_cons_succ, List.getElem?_cons_zero]; rfl) (by kernel_rfl) (by kernel_rfl) (by kernel_rfl) (by exact fun _ _ _ h => h) (by first | (refine Or.inl ⟨by rfl, ?_⟩; intro W hW; go_simp; try with_reducible rfl) | exact Or.inr ⟨by rfl, rfl⟩) ?_; try simp only [Act.put, List.setIfInBounds_toArray, List.set_cons_zero, List.set_cons_succ])
      (refine takeE (Keep.tr (· = w.heap.size)) 9 (by simp only [List.getElem?_toArray, List.getElem?_cons_succ, List.getElem?_cons_zero]; rfl) (by kernel_rfl) (by kernel_rfl) (by kernel_rfl) (by exact fun _ _ _ h => h) (by first | (refine Or.inl ⟨by rfl, ?_⟩; intro W hW; go_simp; try with_reducible rfl) | exact Or.inr ⟨by rfl, rfl⟩) ?_; try simp only [Act.put, List.setIfInBounds_toArray, List.set_cons_zero, List.set_cons_succ])
      (refine takeE (Keep.tr (· = w.heap.size)) 10 (by simp only [List.getElem?_toArray, List.getElem?_cons_succ, List.getElem?_cons_zero]; rfl) (by kernel_rfl) (by kernel_rfl) (by kernel_rfl) (by exact fun _ _ _ h => h) (by first | (refine Or.inl ⟨by rfl, ?_⟩; intro W hW; go_simp; try with_reducible rfl) | exact Or.inr ⟨by rfl, rfl⟩) ?_; try simp only [Act.put, List.setIfInBounds_toArray, List.set_cons_zero, List.set_cons_succ])
      (refine takeE (Keep.tr (· = w.heap.size)) 12 (by simp only [List.getElem?_toArray, List.getElem?_cons_succ, List.getElem?_cons_zero]; rfl) (by kernel_rfl) (by kernel_rfl) (by kernel_rfl) (by exact fun _ _ _ h => h) (by first | (refine Or.inl ⟨by rfl, ?_⟩; intro W hW; go_simp; try with_reducible rfl) | exact Or.inr ⟨by rfl, rfl⟩) ?_; try simp only [Act.put, List.setIfInBounds_toArray, List.set_cons_zero, List.set_cons_succ])
      refine wpAnyE_one (i := 13) (by kernel_rfl) (by simp only [List.getElem?_toArray, List.getElem?_cons_succ, List.getElem?_cons_zero]; rfl) (fun K hK => ?_)
      refine opwp_put_pk rowP rfl (.tmp 6) (.tmp 19) rfl _ rfl hz6 (by rfl) q' rfl ?_
      intro w7 hz7 hw7
      have hin := into_before HFD.out hf6 hs6 hg6 hr6 hw7 hz7
      refine hK.out _ _ (Keep.setW hw7 (fun k hk => by rw [hk]; exact ⟨Nat.lt_of_lt_of_le HXC.out.lt (Nat.le_trans hba.size hs6.size), fun e => by have := HXC.out.lt; omega⟩)) ?_
      clear hK K
      try simp only [Act.put, List.setIfInBounds_toArray, List.set_cons_zero, List.set_cons_succ]
      refine wpAnyE_done (by kernel_rfl) ?_ _
      try clear hba
      try clear hz
      try clear hgF
      try clear hqc hfc hs6 hg6 hf6 hr6 hz6 hz7 hw7
      clear k2 k4 hsz1
      obtain ⟨F9, FF9, hf9, hs9, hg9, hr9, hz9, hle9, hn9⟩ := hin
      have HE : Hid (FDid F X w b (m.into q.pk) pp w7) := Lib.hid ⟨F9, FF9, hf9.less fun k hk => .inl (.inl hk), (St.ext HBD.out).trans hs9 (Gr.refl _ _), (Gr.refl F _).trans hg9 HBD.out.size⟩
      clear hf9 hs9 hg9 hr9 hz9 hle9 hn9
      go_wp2
      go_ret
      exact ⟨rfl, HE.out⟩
  ·
    go_simp
    have hba := (Below.refl wd.heap.size wd).alloc (Nat.le_refl _) (.cells (List.toArray [.int .i64 0, .int .i64 0, .int .i64 0, .int .i64 0, .int .i64 0, .int .i64 0, .int .i64 0, .int .i64 0, .slice none 0 0]) 65)
    have hz := Bk.new wd 65 [.int .i64 0, .int .i64 0, .int .i64 0, .int .i64 0, .int .i64 0, .int .i64 0, .int .i64 0, .int .i64 0, .slice none 0 0]
    replace hsz1 := hba.size
    replace hfc := hfc.box (g := wd.heap.size) hba (Nat.le_refl _) (by simp)
    replace hqc := hqc.below hba
    refine hK.out _ _ (Keep.below hba (fun k hk => by rw [hk]; exact HXC.out.lt)) ?_
    clear hK K
    try simp only [Act.put, List.setIfInBounds_toArray, List.set_cons_zero, List.set_cons_succ]
    refine wpAnyE_one (i := 5) (by kernel_rfl) (by simp only [List.getElem?_toArray, List.getElem?_cons_succ, List.getElem?_cons_zero]; rfl) (fun K hK => ?_)
    go_simp
    refine (f_at hfc.fp _ _).mono ?_
    rintro e wq ⟨rfl, rfl⟩
    refine hK.out _ _ ((Keep.tr _).refl _) ?_
    clear hK K
    try simp only [Act.put, List.setIfInBounds_toArray, List.set_cons_zero, List.set_cons_succ]
    refine wpAnyE_one (i := 7) (by kernel_rfl) (by simp only [List.getElem?_toArray, List.getElem?_cons_succ, List.getElem?_cons_zero]; rfl) (fun K hK => ?_)
    go_simp
    refine (hfc.put HM.out (by omega) hqc).mono ?_
    rintro e w6 ⟨q', F6, FF6, rfl, hk6, hf6, hs6, hg6, hr6⟩
    have hz6 := hz.st hs6 hgF
    refine hK.out _ _ (hs6.kp fun k hk => by rw [hk]; exact ⟨Nat.lt_of_lt_of_le HXC.out.lt hsz1, HnF.out⟩) ?_
    clear hK K
    try simp only [Act.put, List.setIfInBounds_toArray, List.set_cons_zero, List.set_cons_succ]
    (refine takeE (Keep.tr (· = w.heap.size)) 8 (by simp only [List.getElem?_toArray, List.getElem?_cons_succ, List.getElem?_cons_zero]; rfl) (by kernel_rfl) (by kernel_rfl) (by kernel_rfl) (by exact fun _ _ _ h => h) (by first | (refine Or.inl ⟨by rfl, ?_⟩; intro W hW; go_simp; try with_reducible rfl) | exact Or.inr ⟨by rfl, rfl⟩) ?_; try simp only [Act.put, List.setIfInBounds_toArray, List.set_cons_zero, List.set_cons_succ])
    (refine takeE (Keep.tr (· = w.heap.size)) 9 (by simp only [List.getElem?_toArray, List.getElem?_cons_succ, List.getElem?_cons_zero]; rfl) (by kernel_rfl) (by kernel_rfl) (by kernel_rfl) (by exact fun _ _ _ h => h) (by first | (refine Or.inl ⟨by rfl, ?_⟩; intro W hW; go_simp; try with_reducible rfl) | exact Or.inr ⟨by rfl, rfl⟩) ?_; try simp only [Act.put, List.setIfInBounds_toArray, List.set_cons_zero, List.set_cons_succ])
    (refine takeE (Keep.tr (· = w.heap.size)) 10 (by simp only [List.getElem?_toArray, List.getElem?_cons_succ, List.getElem?_cons_zero]; rfl) (by kernel_rfl) (by kernel_rfl) (by kernel_rfl) (by exact fun _ _ _ h => h) (by first | (refine Or.inl ⟨by rfl, ?_⟩; intro W hW; go_simp; try with_reducible rfl) | exact Or.inr ⟨by rfl, rfl⟩) ?_; try simp only [Act.put, List.setIfInBounds_toArray, List.set_cons_zero, List.set_cons_succ])
    (refine takeE (Keep.tr (· = w.heap.size)) 12 (by simp only [List.getElem?_toArray, List.getElem?_cons_succ, List.getElem?_cons_zero]; rfl) (by kernel_rfl) (by kernel_rfl) (by kernel_rfl) (by exact fun _ _ _ h => h) (by first | (refine Or.inl ⟨by rfl, ?_⟩; intro W hW; go_simp; try with_reducible rfl) | exact Or.inr ⟨by rfl, rfl⟩) ?_; try simp only [Act.put, List.setIfInBounds_toArray, List.set_cons_zero, List.set_cons_succ])
    refine wpAnyE_one (i := 13) (by kernel_rfl) (by simp only [List.getElem?_toArray, List.getElem?_cons_succ, List.getElem?_cons_zero]; rfl) (fun K hK => ?_)
    refine opwp_put_pk rowP rfl (.tmp 6) (.tmp 19) rfl _ rfl hz6 (by rfl) q' rfl ?_
    intro w7 hz7 hw7
    have hin := into_before HFD.out hf6 hs6 hg6 hr6 hw7 hz7
    refine hK.out _ _ (Keep.setW hw7 (fun k hk => by rw [hk]; exact ⟨Nat.lt_of_lt_of_le HXC.out.lt (Nat.le_trans hba.size hs6.size), fun e => by have := HXC.out.lt; omega⟩)) ?_
    clear hK K
    try simp only [Act.put, List.setIfInBounds_toArray, List.set_cons_zero, List.set_cons_succ]
    refine wpAnyE_done (by kernel_rfl) ?_ _
    try clear hba
    try clear hz
    try clear hgF
    try clear hqc hfc hs6 hg6 hf6 hr6 hz6 hz7 hw7
    clear k2 k4 hsz1
    obtain ⟨F9, FF9, hf9, hs9, hg9, hr9, hz9, hle9, hn9⟩ := hin
    have HE : Hid (FDid F X w b (m.into q.pk) pp w7) := Lib.hid ⟨F9, FF9, hf9.less fun k hk => .inl (.inl hk), (St.ext HBD.out).trans hs9 (Gr.refl _ _), (Gr.refl F _).trans hg9 HBD.out.size⟩
    clear hf9 hs9 hg9 hr9 hz9 hle9 hn9
    go_wp2
    go_ret
    exact ⟨rfl, HE.out⟩
set_option maxHeartbeats 16000000 in
theorem f_put3 (h : FbC F X w b m pp FF) (hM : FMb m L H B) (hB : B + 2 ≤ 1000000) {q : Pv} (hq : PvR F w q) (hv : m.ivd q.pk = 3) :
    Calls Try.prog 31 #[.pointer (some ⟨b, 0, none⟩), .agg #[.int .i64 q.h.kd, .int .i64 q.h.fl, .int .i64 q.h.pa, .int .i64 q.h.sr, .int .i64 q.h.ds, .int .i64 q.h.cn, .int .i64 q.h.sq, .int .i64 q.h.pu, .slice q.A q.n q.c]] w fun e w' => e = .returned (.int .i64 (m.pv3 q.pk)) ∧ FDid F X w b ((m.into q.pk).into (m.iout q.pk)) pp w' := by
  have hb0 := (Below.refl w.heap.size w).alloc (Nat.le_refl _) (.cells (List.toArray [.int .i64 q.h.kd, .int .i64 q.h.fl, .int .i64 q.h.pa, .int .i64 q.h.sr, .int .i64 q.h.ds, .int .i64 q.h.cn, .int .i64 q.h.sq, .int .i64 q.h.pu, .slice q.A q.n q.c]) 65)
  have HX0 := Lib.hid (Bk.new w 65 [.int .i64 q.h.kd, .int .i64 q.h.fl, .int .i64 q.h.pa, .int .i64 q.h.sr, .int .i64 q.h.ds, .int .i64 q.h.cn, .int .i64 q.h.sq, .int .i64 q.h.pu, .slice q.A q.n q.c])
  have HF0 := Lib.hid (h.box (g := w.heap.size) hb0 (Nat.le_refl _) (by simp))
  have HQ0 := Lib.hid (hq.below hb0)
  have HB0 := Lib.hid hb0
  have HFB := Lib.hid h.bd
  have HM := Lib.hid hM
  clear h hq hM hb0
  go_enter Try.func31, Try.ntmps31
  go_wp2
  have HM2 := Lib.hid (HM.out.into q.pk)
  have HV := Lib.hid hv
  clear hv
  refine wp_region_E (Keep (· = w.heap.size)) (by kernel_rfl) (fun wd hbd hsz => ?_)
  have hfc := HF0.out.below hbd
  have hqc := HQ0.out.below hbd
  have HXC := Lib.hid (HX0.out.below hbd)
  have HBD := Lib.hid (below_on HB0.out hbd)
  have HFD := Lib.hid hfc.bd
  have HnF : Hid (¬ F w.heap.size) := Lib.hid fun hf => Nat.lt_irrefl _ (HFB.out _ hf)
  have hgF : ¬ F wd.heap.size := fun hf => Nat.lt_irrefl _ (HFD.out _ hf)
  clear hsz HF0 HQ0 HX0 hbd
  have k2 : ∀ W, Keep (· = w.heap.size) wd W → W.cell? ⟨w.heap.size, 2, none⟩ = some (.int .i64 q.h.pa) := fun W hW => (HXC.out.kp hW rfl).cell 2 rfl
  have k4 : ∀ W, Keep (· = w.heap.size) wd W → W.cell? ⟨w.heap.size, 4, none⟩ = some (.int .i64 q.h.ds) := fun W hW => (HXC.out.kp hW rfl).cell 4 rfl
  have hsz1 : wd.heap.size ≤ wd.heap.size := Nat.le_refl _
  (refine takeE (Keep.tr (· = w.heap.size)) 0 (by simp only [List.getElem?_toArray, List.getElem?_cons_succ, List.getElem?_cons_zero]; rfl) (by kernel_rfl) (by kernel_rfl) (by kernel_rfl) (by exact fun _ _ _ h => h) (by first | (refine Or.inl ⟨by rfl, ?_⟩; intro W hW; go_simp; try with_reducible rfl) | exact Or.inr ⟨by rfl, rfl⟩) ?_; try simp only [Act.put, List.setIfInBounds_toArray, List.set_cons_zero, List.set_cons_succ])
  (refine takeE (Keep.tr (· = w.heap.size)) 1 (by simp only [List.getElem?_toArray, List.getElem?_cons_succ, List.getElem?_cons_zero]; rfl) (by kernel_rfl) (by kernel_rfl) (by kernel_rfl) (by exact fun _ _ _ h => h) (by first | (refine Or.inl ⟨by rfl, ?_⟩; intro W hW; go_simp; try with_reducible rfl) | exact Or.inr ⟨by rfl, rfl⟩) ?_; try simp only [Act.put, List.setIfInBounds_toArray, List.set_cons_zero, List.set_cons_succ])
  (refine takeE (Keep.tr (· = w.heap.size)) 3 (by simp only [List.getElem?_toArray, List.getElem?_cons_succ, List.getElem?_cons_zero]; rfl) (by kernel_rfl) (by kernel_rfl) (by kernel_rfl) (by exact fun _ _ _ h => h) (by first | (refine Or.inl ⟨by rfl, ?_⟩; intro W hW; go_simp; try with_reducible rfl) | exact Or.inr ⟨by rfl, rfl⟩) ?_; try simp only [Act.put, List.setIfInBounds_toArray, List.set_cons_zero, List.set_cons_succ])
  (refine takeE (Keep.tr (· = w.heap.size)) 6 (by simp only [List.getElem?_toArray, List.getElem?_cons_succ, List.getElem?_cons_zero]; rfl) (by kernel_rfl) (by kernel_rfl) (by kernel_rfl) (by exact fun _ _ _ h => h) (by first | (refine Or.inl ⟨by rfl, ?_⟩; intro W hW; exact exec_load_bk rowP (.tmp 3) rfl w.heap.size 0 rfl (HXC.out.kp hW rfl) q.cl rfl rfl) | exact Or.inr ⟨by rfl, rfl⟩) ?_; try simp only [Act.put, List.setIfInBounds_toArray, List.set_cons_zero, List.set_cons_succ])
  (refine takeE (Keep.tr (· = w.heap.size)) 2 (by simp only [List.getElem?_toArray, List.getElem?_cons_succ, List.getElem?_cons_zero]; rfl) (by kernel_rfl) (by kernel_rfl) (by kernel_rfl) (by exact fun _ _ _ h => h) (by first | (refine Or.inl ⟨by rfl, ?_⟩; intro W hW; go_simp; try with_reducible rfl) | exact Or.inr ⟨by rfl, rfl⟩) ?_; try simp only [Act.put, List.setIfInBounds_toArray, List.set_cons_zero, List.set_cons_succ])
  (refine takeE (Keep.tr (· = w.heap.size)) 4 (by simp only [List.getElem?_toArray, List.getElem?_cons_succ, List.getElem?_cons_zero]; rfl) (by kernel_rfl) (by kernel_rfl) (by kernel_rfl) (by exact fun _ _ _ h => h) (by first | (refine Or.inl ⟨by rfl, ?_⟩; intro W hW; go_simp; try with_reducible rfl) | exact Or.inr ⟨by rfl, rfl⟩) ?_; try simp only [Act.put, List.setIfInBounds_toArray, List.set_cons_zero, List.set_cons_succ])
  refine wpAnyE_two (i := 5) (j := 11) (by kernel_rfl) (by simp only [List.getElem?_toArray, List.getElem?_cons_succ, List.getElem?_cons_zero]; rfl) (by simp only [List.getElem?_toArray, List.getElem?_cons_succ, List.getElem?_cons_zero]; rfl) (fun K hK => ?_) (fun K hK => ?_)
  ·
    go_simp
    refine (f_at hfc.fp _ _).mono ?_
    rintro e wq ⟨rfl, rfl⟩
    refine hK.out _ _ ((Keep.tr _).refl _) ?_
    clear hK K
    try simp only [Act.put, List.setIfInBounds_toArray, List.set_cons_zero, List.set_cons_succ]
    refine wpAnyE_two (i := 7) (j := 11) (by kernel_rfl) (by simp only [List.getElem?_toArray, List.getElem?_cons_succ, List.getElem?_cons_zero]; rfl) (by simp only [List.getElem?_toArray, List.getElem?_cons_succ, List.getElem?_cons_zero]; rfl) (fun K hK => ?_) (fun K hK => ?_)
    ·
      go_simp
      refine (hfc.put HM.out (by omega) hqc).mono ?_
      rintro e w6 ⟨q', F6, FF6, rfl, hk6, hf6, hs6, hg6, hr6⟩
      rw [HV.out]
      refine hK.out _ _ (hs6.kp fun k hk => by rw [hk]; exact ⟨Nat.lt_of_lt_of_le HXC.out.lt hsz1, HnF.out⟩) ?_
      clear hK K
      try simp only [Act.put, List.setIfInBounds_toArray, List.set_cons_zero, List.set_cons_succ]
      (refine takeE (Keep.tr (· = w.heap.size)) 8 (by simp only [List.getElem?_toArray, List.getElem?_cons_succ, List.getElem?_cons_zero]; rfl) (by kernel_rfl) (by kernel_rfl) (by kernel_rfl) (by exact fun _ _ _ h => h) (by first | (refine Or.inl ⟨by rfl, ?_⟩; intro W hW; go_simp; try with_reducible rfl) | exact Or.inr ⟨by rfl, rfl⟩) ?_; try simp only [Act.put, List.setIfInBounds_toArray, List.set_cons_zero, List.set_cons_succ])
      (refine takeE (Keep.tr (· = w.heap.size)) 9 (by simp only [List.getElem?_toArray, List.getElem?_cons_succ, List.getElem?_cons_zero]; rfl) (by kernel_rfl) (by kernel_rfl) (by kernel_rfl) (by exact fun _ _ _ h => h) (by first | (refine Or.inl ⟨by rfl, ?_⟩; intro W hW; go_simp; try with_reducible rfl) | exact Or.inr ⟨by rfl, rfl⟩) ?_; try simp only [Act.put, List.setIfInBounds_toArray, List.set_cons_zero, List.set_cons_succ])
      (refine takeE (Keep.tr (· = w.heap.size)) 10 (by simp only [List.getElem?_toArray, List.getElem?_cons_succ, List.getElem?_cons_zero]; rfl) (by kernel_rfl) (by kernel_rfl) (by kernel_rfl) (by exact fun _ _ _ h => h) (by first | (refine Or.inl ⟨by rfl, ?_⟩; intro W hW; go_simp; try with_reducible rfl) | exact Or.inr ⟨by rfl, rfl⟩) ?_; try simp only [Act.put, List.setIfInBounds_toArray, List.set_cons_zero, List.set_cons_succ])
      refine wpAnyE_one (i := 11) (by kernel_rfl) (by simp only [List.getElem?_toArray, List.getElem?_cons_succ, List.getElem?_cons_zero]; rfl) (fun K hK => ?_)
      go_simp
      have hba := (Below.refl w6.heap.size w6).alloc (Nat.le_refl _) (.cells (List.toArray [.int .i64 0, .int .i64 0, .int .i64 0, .int .i64 0, .int .i64 0, .int .i64 0, .int .i64 0, .int .i64 0, .slice none 0 0]) 65)
      have hz6 := Bk.new w6 65 [.int .i64 0, .int .i64 0, .int .i64 0, .int .i64 0, .int .i64 0, .int .i64 0, .int .i64 0, .int .i64 0, .slice none 0 0]
      refine hK.out _ _ (Keep.below hba (fun k hk => by rw [hk]; exact Nat.lt_of_lt_of_le HXC.out.lt hs6.size)) ?_
      clear hK K
      try simp only [Act.put, List.setIfInBounds_toArray, List.set_cons_zero, List.set_cons_succ]
      (refine takeE (Keep.tr (· = w.heap.size)) 12 (by simp only [List.getElem?_toArray, List.getElem?_cons_succ, List.getElem?_cons_zero]; rfl) (by kernel_rfl) (by kernel_rfl) (by kernel_rfl) (by exact fun _ _ _ h => h) (by first | (refine Or.inl ⟨by rfl, ?_⟩; intro W hW; go_simp; try with_reducible rfl) | exact Or.inr ⟨by rfl, rfl⟩) ?_; try simp only [Act.put, List.setIfInBounds_toArray, List.set_cons_zero, List.set_cons_succ])
      refine wpAnyE_one (i := 13) (by kernel_rfl) (by simp only [List.getElem?_toArray, List.getElem?_cons_succ, List.getElem?_cons_zero]; rfl) (fun K hK => ?_)
      refine opwp_put_pk rowP rfl (.tmp 6) (.tmp 19) rfl _ rfl hz6 (by rfl) q' rfl ?_
      intro w7 hz7 hw7
      have hin := into_after hf6 hs6 hg6 hr6 hw7 hz7
      refine hK.out _ _ (Keep.setW hw7 (fun k hk => by rw [hk]; exact ⟨Nat.lt_of_lt_of_le HXC.out.lt (Nat.le_trans hs6.size hba.size), fun e => by have := HXC.out.lt; have := hs6.size; omega⟩)) ?_
      clear hK K
      try simp only [Act.put, List.setIfInBounds_toArray, List.set_cons_zero, List.set_cons_succ]
      refine wpAnyE_done (by kernel_rfl) ?_ _
      try clear hba
      try clear hz
      try clear hgF
      try clear hqc hfc hs6 hg6 hf6 hr6 hz6 hz7 hw7
      clear k2 k4 hsz1
      obtain ⟨F9, FF9, hf9, hs9, hg9, hr9, hz9, hle9, hn9⟩ := hin
      have HF9 := Lib.hid hf9
      have HQ9 : Hid (PvR F9 w7 q') := Lib.hid (hr9.mono fun k hk => .inl hk)
      have HZ9 := Lib.hid hz9
      have HKh : Hid (q'.pk = m.iout q.pk) := Lib.hid hk6
      have HSh := Lib.hid ((St.ext HBD.out).trans hs9 (Gr.refl _ _))
      have HGh : Hid (Gr F F9 w.heap.size) := Lib.hid ((Gr.refl F _).trans hg9 HBD.out.size)
      have HN9 : Hid (¬ F9 w6.heap.size) := Lib.hid hn9
      clear hf9 hs9 hr9 hz9 hk6 hle9 hg9 hn9
      try clear hsz1 
      generalize q' = qh at *
      clear HXC HnF HFD
      try generalize w6.heap.size = g9 at *
      go_wp2
      refine wp_region_E (Keep (· = g9)) (by kernel_rfl) (fun we hbd hsz => ?_)
      have hfc := HF9.out.below hbd
      have hqc := HQ9.out.below hbd
      have HXC := Lib.hid (HZ9.out.below hbd)
      have HS9 := Lib.hid (HSh.out.trans (St.ext hbd) (Gr.refl _ _))
      have HG9 := Lib.hid HGh.out
      have HFD := Lib.hid hfc.bd
      have HnF : Hid (¬ F9 g9) := Lib.hid HN9.out
      have hgF : ¬ F9 we.heap.size := fun hf => Nat.lt_irrefl _ (HFD.out _ hf)
      clear hsz HF9 HQ9 HZ9 HSh HGh HN9 hbd
      have k2 : ∀ W, Keep (· = g9) we W → W.cell? ⟨g9, 2, none⟩ = some (.int .i64 qh.h.pa) := fun W hW => (HXC.out.kp hW rfl).cell 2 rfl
      have k4 : ∀ W, Keep (· = g9) we W → W.cell? ⟨g9, 4, none⟩ = some (.int .i64 qh.h.ds) := fun W hW => (HXC.out.kp hW rfl).cell 4 rfl
      have hsz1 : we.heap.size ≤ we.heap.size := Nat.le_refl _
      (refine takeE (Keep.tr (· = g9)) 0 (by simp only [List.getElem?_toArray, List.getElem?_cons_succ, List.getElem?_cons_zero]; rfl) (by kernel_rfl) (by kernel_rfl) (by kernel_rfl) (by exact fun _ _ _ h => h) (by first | (refine Or.inl ⟨by rfl, ?_⟩; intro W hW; go_simp; try with_reducible rfl) | exact Or.inr ⟨by rfl, rfl⟩) ?_; try simp only [Act.put, List.setIfInBounds_toArray, List.set_cons_zero, List.set_cons_succ])
      (refine takeE (Keep.tr (· = g9)) 1 (by simp only [List.getElem?_toArray, List.getElem?_cons_succ, List.getElem?_cons_zero]; rfl) (by kernel_rfl) (by kernel_rfl) (by kernel_rfl) (by exact fun _ _ _ h => h) (by first | (refine Or.inl ⟨by rfl, ?_⟩; intro W hW; go_simp; try with_reducible rfl) | exact Or.inr ⟨by rfl, rfl⟩) ?_; try simp only [Act.put, List.setIfInBounds_toArray, List.set_cons_zero, List.set_cons_succ])
      (refine takeE (Keep.tr (· = g9)) 3 (by simp only [List.getElem?_toArray, List.getElem?_cons_succ, List.getElem?_cons_zero]; rfl) (by kernel_rfl) (by kernel_rfl) (by kernel_rfl) (by exact fun _ _ _ h => h) (by first | (refine Or.inl ⟨by rfl, ?_⟩; intro W hW; go_simp; try with_reducible rfl) | exact Or.inr ⟨by rfl, rfl⟩) ?_; try simp only [Act.put, List.setIfInBounds_toArray, List.set_cons_zero, List.set_cons_succ])
      (refine takeE (Keep.tr (· = g9)) 6 (by simp only [List.getElem?_toArray, List.getElem?_cons_succ, List.getElem?_cons_zero]; rfl) (by kernel_rfl) (by kernel_rfl) (by kernel_rfl) (by exact fun _ _ _ h => h) (by first | (refine Or.inl ⟨by rfl, ?_⟩; intro W hW; exact exec_load_bk rowP (.tmp 6) rfl g9 0 rfl (HXC.out.kp hW rfl) qh.cl rfl rfl) | exact Or.inr ⟨by rfl, rfl⟩) ?_; try simp only [Act.put, List.setIfInBounds_toArray, List.set_cons_zero, List.set_cons_succ])
      (refine takeE (Keep.tr (· = g9)) 2 (by simp only [List.getElem?_toArray, List.getElem?_cons_succ, List.getElem?_cons_zero]; rfl) (by kernel_rfl) (by kernel_rfl) (by kernel_rfl) (by exact fun _ _ _ h => h) (by first | (refine Or.inl ⟨by rfl, ?_⟩; intro W hW; go_simp; try with_reducible rfl) | exact Or.inr ⟨by rfl, rfl⟩) ?_; try simp only [Act.put, List.setIfInBounds_toArray, List.set_cons_zero, List.set_cons_succ])
      (refine takeE (Keep.tr (· = g9)) 4 (by simp only [List.getElem?_toArray, List.getElem?_cons_succ, List.getElem?_cons_zero]; rfl) (by kernel_rfl) (by kernel_rfl) (by kernel_rfl) (by exact fun _ _ _ h => h) (by first | (refine Or.inl ⟨by rfl, ?_⟩; intro W hW; go_simp; try with_reducible rfl) | exact Or.inr ⟨by rfl, rfl⟩) ?_; try simp only [Act.put, List.setIfInBounds_toArray, List.set_cons_zero, List.set_cons_succ])
      refine wpAnyE_two (i := 5) (j := 11) (by kernel_rfl) (by simp only [List.getElem?_toArray, List.getElem?_cons_succ, List.getElem?_cons_zero]; rfl) (by simp only [List.getElem?_toArray, List.getElem?_cons_succ, List.getElem?_cons_zero]; rfl) (fun K2 hK2 => ?_) (fun K2 hK2 => ?_)
      ·
        go_simp
        refine (f_at hfc.fp _ _).mono ?_
        rintro e wr ⟨rfl, rfl⟩
        refine hK2.out _ _ ((Keep.tr _).refl _) ?_
        clear hK2 K2
        try simp only [Act.put, List.setIfInBounds_toArray, List.set_cons_zero, List.set_cons_succ]
        refine wpAnyE_two (i := 7) (j := 11) (by kernel_rfl) (by simp only [List.getElem?_toArray, List.getElem?_cons_succ, List.getElem?_cons_zero]; rfl) (by simp only [List.getElem?_toArray, List.getElem?_cons_succ, List.getElem?_cons_zero]; rfl) (fun K2 hK2 => ?_) (fun K2 hK2 => ?_)
        ·
          go_simp
          refine (hfc.put HM2.out (by omega) hqc).mono ?_
          rintro e w8 ⟨q9, F8, FF8, rfl, hk8, hf8, hs8, hg8, hr8⟩
          rw [HKh.out] at hk8 hf8 ⊢
          refine hK2.out _ _ (hs8.kp fun k hk => by rw [hk]; exact ⟨Nat.lt_of_lt_of_le HXC.out.lt hsz1, HnF.out⟩) ?_
          clear hK2 K2
          try simp only [Act.put, List.setIfInBounds_toArray, List.set_cons_zero, List.set_cons_succ]
          (refine takeE (Keep.tr (· = g9)) 8 (by simp only [List.getElem?_toArray, List.getElem?_cons_succ, List.getElem?_cons_zero]; rfl) (by kernel_rfl) (by kernel_rfl) (by kernel_rfl) (by exact fun _ _ _ h => h) (by first | (refine Or.inl ⟨by rfl, ?_⟩; intro W hW; go_simp; try with_reducible rfl) | exact Or.inr ⟨by rfl, rfl⟩) ?_; try simp only [Act.put, List.setIfInBounds_toArray, List.set_cons_zero, List.set_cons_succ])
          (refine takeE (Keep.tr (· = g9)) 9 (by simp only [List.getElem?_toArray, List.getElem?_cons_succ, List.getElem?_cons_zero]; rfl) (by kernel_rfl) (by kernel_rfl) (by kernel_rfl) (by exact fun _ _ _ h => h) (by first | (refine Or.inl ⟨by rfl, ?_⟩; intro W hW; go_simp; try with_reducible rfl) | exact Or.inr ⟨by rfl, rfl⟩) ?_; try simp only [Act.put, List.setIfInBounds_toArray, List.set_cons_zero, List.set_cons_succ])
          (refine takeE (Keep.tr (· = g9)) 10 (by simp only [List.getElem?_toArray, List.getElem?_cons_succ, List.getElem?_cons_zero]; rfl) (by kernel_rfl) (by kernel_rfl) (by kernel_rfl) (by exact fun _ _ _ h => h) (by first | (refine Or.inl ⟨by rfl, ?_⟩; intro W hW; go_simp; try with_reducible rfl) | exact Or.inr ⟨by rfl, rfl⟩) ?_; try simp only [Act.put, List.setIfInBounds_toArray, List.set_cons_zero, List.set_cons_succ])
          refine wpAnyE_one (i := 11) (by kernel_rfl) (by simp only [List.getElem?_toArray, List.getElem?_cons_succ, List.getElem?_cons_zero]; rfl) (fun K2 hK2 => ?_)
          go_simp
          have hba := (Below.refl w8.heap.size w8).alloc (Nat.le_refl _) (.cells (List.toArray [.int .i64 0, .int .i64 0, .int .i64 0, .int .i64 0, .int .i64 0, .int .i64 0, .int .i64 0, .int .i64 0, .slice none 0 0]) 65)
          have hz8 := Bk.new w8 65 [.int .i64 0, .int .i64 0, .int .i64 0, .int .i64 0, .int .i64 0, .int .i64 0, .int .i64 0, .int .i64 0, .slice none 0 0]
          refine hK2.out _ _ (Keep.below hba (fun k hk => by rw [hk]; exact Nat.lt_of_lt_of_le HXC.out.lt hs8.size)) ?_
          clear hK2 K2
          try simp only [Act.put, List.setIfInBounds_toArray, List.set_cons_zero, List.set_cons_succ]
          (refine takeE (Keep.tr (· = g9)) 12 (by simp only [List.getElem?_toArray, List.getElem?_cons_succ, List.getElem?_cons_zero]; rfl) (by kernel_rfl) (by kernel_rfl) (by kernel_rfl) (by exact fun _ _ _ h => h) (by first | (refine Or.inl ⟨by rfl, ?_⟩; intro W hW; go_simp; try with_reducible rfl) | exact Or.inr ⟨by rfl, rfl⟩) ?_; try simp only [Act.put, List.setIfInBounds_toArray, List.set_cons_zero, List.set_cons_succ])
          refine wpAnyE_one (i := 13) (by kernel_rfl) (by simp only [List.getElem?_toArray, List.getElem?_cons_succ, List.getElem?_cons_zero]; rfl) (fun K2 hK2 => ?_)
          refine opwp_put_pk rowP rfl (.tmp 8) (.tmp 33) rfl _ rfl hz8 (by rfl) q9 rfl ?_
          intro w9 hzz hww
          have hin := into_after hf8 hs8 hg8 hr8 hww hzz
          refine hK2.out _ _ (Keep.setW hww (fun k hk => by rw [hk]; exact ⟨Nat.lt_of_lt_of_le HXC.out.lt (Nat.le_trans hs8.size hba.size), fun e => by have := HXC.out.lt; have := hs8.size; omega⟩)) ?_
          clear hK2 K2
          try simp only [Act.put, List.setIfInBounds_toArray, List.set_cons_zero, List.set_cons_succ]
          refine wpAnyE_done (by kernel_rfl) ?_ _
          try clear hba
          try clear hz
          try clear hgF
          try clear hqc hfc hs8 hg8 hf8 hr8 hz8 hzz hww
          clear k2 k4 hsz1
          obtain ⟨FA, FFA, hfA, hsA, hgA, hrA, hzA, hleA, hnA⟩ := hin
          have HE : Hid (FDid F X w b ((m.into q.pk).into (m.iout q.pk)) pp w9) := Lib.hid ⟨FA, FFA, hfA.less fun k hk => .inl (.inl (.inl hk)), HS9.out.trans hsA HG9.out, HG9.out.trans hgA HS9.out.size⟩
          clear hfA hsA hgA hrA hzA hleA hnA
          by_cases hv2 : (m.into q.pk).ivd (m.iout q.pk) = 1
          · rw [hv2]
            go_wp2
            go_ret
            exact ⟨by unfold FM.pv3; rw [if_pos hv2]; rfl, HE.out⟩
          · have hv3 : ¬ (((m.into q.pk).ivd (m.iout q.pk) : Nat) : Int) = 1 := by omega
            go_wp2
            go_ret
            exact ⟨by unfold FM.pv3; rw [if_neg hv2]; rfl, HE.out⟩
        ·
          go_simp
          have hba := (Below.refl we.heap.size we).alloc (Nat.le_refl _) (.cells (List.toArray [.int .i64 0, .int .i64 0, .int .i64 0, .int .i64 0, .int .i64 0, .int .i64 0, .int .i64 0, .int .i64 0, .slice none 0 0]) 65)
          have hz := Bk.new we 65 [.int .i64 0, .int .i64 0, .int .i64 0, .int .i64 0, .int .i64 0, .int .i64 0, .int .i64 0, .int .i64 0, .slice none 0 0]
          replace hsz1 := hba.size
          replace hfc := hfc.box (g := we.heap.size) hba (Nat.le_refl _) (by simp)
          replace hqc := hqc.below hba
          refine hK2.out _ _ (Keep.below hba (fun k hk => by rw [hk]; exact HXC.out.lt)) ?_
          clear hK2 K2
          try simp only [Act.put, List.setIfInBounds_toArray, List.set_cons_zero, List.set_cons_succ]
          refine wpAnyE_one (i := 7) (by kernel_rfl) (by simp only [List.getElem?_toArray, List.getElem?_cons_succ, List.getElem?_cons_zero]; rfl) (fun K2 hK2 => ?_)
          go_simp
          refine (hfc.put HM2.out (by omega) hqc).mono ?_
          rintro e w8 ⟨q9, F8, FF8, rfl, hk8, hf8, hs8, hg8, hr8⟩
          rw [HKh.out] at hk8 hf8 ⊢
          have hz8 := hz.st hs8 hgF
          refine hK2.out _ _ (hs8.kp fun k hk => by rw [hk]; exact ⟨Nat.lt_of_lt_of_le HXC.out.lt hsz1, HnF.out⟩) ?_
          clear hK2 K2
          try simp only [Act.put, List.setIfInBounds_toArray, List.set_cons_zero, List.set_cons_succ]
          (refine takeE (Keep.tr (· = g9)) 8 (by simp only [List.getElem?_toArray, List.getElem?_cons_succ, List.getElem?_cons_zero]; rfl) (by kernel_rfl) (by kernel_rfl) (by kernel_rfl) (by exact fun _ _ _ h => h) (by first | (refine Or.inl ⟨by rfl, ?_⟩; intro W hW; go_simp; try with_reducible rfl) | exact Or.inr ⟨by rfl, rfl⟩) ?_; try simp only [Act.put, List.setIfInBounds_toArray, List.set_cons_zero, List.set_cons_succ])
          (refine takeE (Keep.tr (· = g9)) 9 (by simp only [List.getElem?_toArray, List.getElem?_cons_succ, List.getElem?_cons_zero]; rfl) (by kernel_rfl) (by kernel_rfl) (by kernel_rfl) (by exact fun _ _ _ h => h) (by first | (refine Or.inl ⟨by rfl, ?_⟩; intro W hW; go_simp; try with_reducible rfl) | exact Or.inr ⟨by rfl, rfl⟩) ?_; try simp only [Act.put, List.setIfInBounds_toArray, List.set_cons_zero, List.set_cons_succ])
          (refine takeE (Keep.tr (· = g9)) 10 (by simp only [List.getElem?_toArray, List.getElem?_cons_succ, List.getElem?_cons_zero]; rfl) (by kernel_rfl) (by kernel_rfl) (by kernel_rfl) (by exact fun _ _ _ h => h) (by first | (refine Or.inl ⟨by rfl, ?_⟩; intro W hW; go_simp; try with_reducible rfl) | exact Or.inr ⟨by rfl, rfl⟩) ?_; try simp only [Act.put, List.setIfInBounds_toArray, List.set_cons_zero, List.set_cons_succ])
          (refine takeE (Keep.tr (· = g9)) 12 (by simp only [List.getElem?_toArray, List.getElem?_cons_succ, List.getElem?_cons_zero]; rfl) (by kernel_rfl) (by kernel_rfl) (by kernel_rfl) (by exact fun _ _ _ h => h) (by first | (refine Or.inl ⟨by rfl, ?_⟩; intro W hW; go_simp; try with_reducible rfl) | exact Or.inr ⟨by rfl, rfl⟩) ?_; try simp only [Act.put, List.setIfInBounds_toArray, List.set_cons_zero, List.set_cons_succ])
          refine wpAnyE_one (i := 13) (by kernel_rfl) (by simp only [List.getElem?_toArray, List.getElem?_cons_succ, List.getElem?_cons_zero]; rfl) (fun K2 hK2 => ?_)
          refine opwp_put_pk rowP rfl (.tmp 8) (.tmp 33) rfl _ rfl hz8 (by rfl) q9 rfl ?_
          intro w9 hzz hww
          have hin := into_before HFD.out hf8 hs8 hg8 hr8 hww hzz
          refine hK2.out _ _ (Keep.setW hww (fun k hk => by rw [hk]; exact ⟨Nat.lt_of_lt_of_le HXC.out.lt (Nat.le_trans hba.size hs8.size), fun e => by have := HXC.out.lt; omega⟩)) ?_
          clear hK2 K2
          try simp only [Act.put, List.setIfInBounds_toArray, List.set_cons_zero, List.set_cons_succ]
          refine wpAnyE_done (by kernel_rfl) ?_ _
          try clear hba
          try clear hz
          try clear hgF
          try clear hqc hfc hs8 hg8 hf8 hr8 hz8 hzz hww
          clear k2 k4 hsz1
          obtain ⟨FA, FFA, hfA, hsA, hgA, hrA, hzA, hleA, hnA⟩ := hin
          have HE : Hid (FDid F X w b ((m.into q.pk).into (m.iout q.pk)) pp w9) := Lib.hid ⟨FA, FFA, hfA.less fun k hk => .inl (.inl (.inl hk)), HS9.out.trans hsA HG9.out, HG9.out.trans hgA HS9.out.size⟩
          clear hfA hsA hgA hrA hzA hleA hnA
          by_cases hv2 : (m.into q.pk).ivd (m.iout q.pk) = 1
          · rw [hv2]
            go_wp2
            go_ret
            exact ⟨by unfold FM.pv3; rw [if_pos hv2]; rfl, HE.out⟩
          · have hv3 : ¬ (((m.into q.pk).ivd (m.iout q.pk) : Nat) : Int) = 1 := by omega
            go_wp2
            go_ret
            exact ⟨by unfold FM.pv3; rw [if_neg hv2]; rfl, HE.out⟩
      ·
        go_simp
        have hba := (Below.refl we.heap.size we).alloc (Nat.le_refl _) (.cells (List.toArray [.int .i64 0, .int .i64 0, .int .i64 0, .int .i64 0, .int .i64 0, .int .i64 0, .int .i64 0, .int .i64 0, .slice none 0 0]) 65)
        have hz := Bk.new we 65 [.int .i64 0, .int .i64 0, .int .i64 0, .int .i64 0, .int .i64 0, .int .i64 0, .int .i64 0, .int .i64 0, .slice none 0 0]
        replace hsz1 := hba.size
        replace hfc := hfc.box (g := we.heap.size) hba (Nat.le_refl _) (by simp)
        replace hqc := hqc.below hba
        refine hK2.out _ _ (Keep.below hba (fun k hk => by rw [hk]; exact HXC.out.lt)) ?_
        clear hK2 K2
        try simp only [Act.put, List.setIfInBounds_toArray, List.set_cons_zero, List.set_cons_succ]
        refine wpAnyE_one (i := 5) (by kernel_rfl) (by simp only [List.getElem?_toArray, List.getElem?_cons_succ, List.getElem?_cons_zero]; rfl) (fun K2 hK2 => ?_)
        go_simp
        refine (f_at hfc.fp _ _).mono ?_
        rintro e wr ⟨rfl, rfl⟩
        refine hK2.out _ _ ((Keep.tr _).refl _) ?_
        clear hK2 K2
        try simp only [Act.put, List.setIfInBounds_toArray, List.set_cons_zero, List.set_cons_succ]
        refine wpAnyE_one (i := 7) (by kernel_rfl) (by simp only [List.getElem?_toArray, List.getElem?_cons_succ, List.getElem?_cons_zero]; rfl) (fun K2 hK2 => ?_)
        go_simp
        refine (hfc.put HM2.out (by omega) hqc).mono ?_
        rintro e w8 ⟨q9, F8, FF8, rfl, hk8, hf8, hs8, hg8, hr8⟩
        rw [HKh.out] at hk8 hf8 ⊢
        have hz8 := hz.st hs8 hgF
        refine hK2.out _ _ (hs8.kp fun k hk => by rw [hk]; exact ⟨Nat.lt_of_lt_of_le HXC.out.lt hsz1, HnF.out⟩) ?_
        clear hK2 K2
        try simp only [Act.put, List.setIfInBounds_toArray, List.set_cons_zero, List.set_cons_succ]
        (refine takeE (Keep.tr (· = g9)) 8 (by simp only [List.getElem?_toArray, List.getElem?_cons_succ, List.getElem?_cons_zero]; rfl) (by kernel_rfl) (by kernel_rfl) (by kernel_rfl) (by exact fun _ _ _ h => h) (by first | (refine Or.inl ⟨by rfl, ?_⟩; intro W hW; go_simp; try with_reducible rfl) | exact Or.inr ⟨by rfl, rfl⟩) ?_; try simp only [Act.put, List.setIfInBounds_toArray, List.set_cons_zero, List.set_cons_succ])
        (refine takeE (Keep.tr (· = g9)) 9 (by simp only [List.getElem?_toArray, List.getElem?_cons_succ, List.getElem?_cons_zero]; rfl) (by kernel_rfl) (by kernel_rfl) (by kernel_rfl) (by exact fun _ _ _ h => h) (by first | (refine Or.inl ⟨by rfl, ?_⟩; intro W hW; go_simp; try with_reducible rfl) | exact Or.inr ⟨by rfl, rfl⟩) ?_; try simp only [Act.put, List.setIfInBounds_toArray, List.set_cons_zero, List.set_cons_succ])
        (refine takeE (Keep.tr (· = g9)) 10 (by simp only [List.getElem?_toArray, List.getElem?_cons_succ, List.getElem?_cons_zero]; rfl) (by kernel_rfl) (by kernel_rfl) (by kernel_rfl) (by exact fun _ _ _ h => h) (by first | (refine Or.inl ⟨by rfl, ?_⟩; intro W hW; go_simp; try with_reducible rfl) | exact Or.inr ⟨by rfl, rfl⟩) ?_; try simp only [Act.put, List.setIfInBounds_toArray, List.set_cons_zero, List.set_cons_succ])
        (refine takeE (Keep.tr (· = g9)) 12 (by simp only [List.getElem?_toArray, List.getElem?_cons_succ, List.getElem?_cons_zero]; rfl) (by kernel_rfl) (by kernel_rfl) (by kernel_rfl) (by exact fun _ _ _ h => h) (by first | (refine Or.inl ⟨by rfl, ?_⟩; intro W hW; go_simp; try with_reducible rfl) | exact Or.inr ⟨by rfl, rfl⟩) ?_; try simp only [Act.put, List.setIfInBounds_toArray, List.set_cons_zero, List.set_cons_succ])
        refine wpAnyE_one (i := 13) (by kernel_rfl) (by simp only [List.getElem?_toArray, List.getElem?_cons_succ, List.getElem?_cons_zero]; rfl) (fun K2 hK2 => ?_)
        refine opwp_put_pk rowP rfl (.tmp 8) (.tmp 33) rfl _ rfl hz8 (by rfl) q9 rfl ?_
        intro w9 hzz hww
        have hin := into_before HFD.out hf8 hs8 hg8 hr8 hww hzz
        refine hK2.out _ _ (Keep.setW hww (fun k hk => by rw [hk]; exact ⟨Nat.lt_of_lt_of_le HXC.out.lt (Nat.le_trans hba.size hs8.size), fun e => by have := HXC.out.lt; omega⟩)) ?_
        clear hK2 K2
        try simp only [Act.put, List.setIfInBounds_toArray, List.set_cons_zero, List.set_cons_succ]
        refine wpAnyE_done (by kernel_rfl) ?_ _
        try clear hba
        try clear hz
        try clear hgF
        try clear hqc hfc hs8 hg8 hf8 hr8 hz8 hzz hww
        clear k2 k4 hsz1
        obtain ⟨FA, FFA, hfA, hsA, hgA, hrA, hzA, hleA, hnA⟩ := hin
        have HE : Hid (FDid F X w b ((m.into q.pk).into (m.iout q.pk)) pp w9) := Lib.hid ⟨FA, FFA, hfA.less fun k hk => .inl (.inl (.inl hk)), HS9.out.trans hsA HG9.out, HG9.out.trans hgA HS9.out.size⟩
        clear hfA hsA hgA hrA hzA hleA hnA
        by_cases hv2 : (m.into q.pk).ivd (m.iout q.pk) = 1
        · rw [hv2]
          go_wp2
          go_ret
          exact ⟨by unfold FM.pv3; rw [if_pos hv2]; rfl, HE.out⟩
        · have hv3 : ¬ (((m.into q.pk).ivd (m.iout q.pk) : Nat) : Int) = 1 := by omega
          go_wp2
          go_ret
          exact ⟨by unfold FM.pv3; rw [if_neg hv2]; rfl, HE.out⟩
    ·
      go_simp
      have hba := (Below.refl wd.heap.size wd).alloc (Nat.le_refl _) (.cells (List.toArray [.int .i64 0, .int .i64 0, .int .i64 0, .int .i64 0, .int .i64 0, .int .i64 0, .int .i64 0, .int .i64 0, .slice none 0 0]) 65)
      have hz := Bk.new wd 65 [.int .i64 0, .int .i64 0, .int .i64 0, .int .i64 0, .int .i64 0, .int .i64 0, .int .i64 0, .int .i64 0, .slice none 0 0]
      replace hsz1 := hba.size
      replace hfc := hfc.box (g := wd.heap.size) hba (Nat.le_refl _) (by simp)
      replace hqc := hqc.below hba
      refine hK.out _ _ (Keep.below hba (fun k hk => by rw [hk]; exact HXC.out.lt)) ?_
      clear hK K
      try simp only [Act.put, List.setIfInBounds_toArray, List.set_cons_zero, List.set_cons_succ]
      refine wpAnyE_one (i := 7) (by kernel_rfl) (by simp only [List.getElem?_toArray, List.getElem?_cons_succ, List.getElem?_cons_zero]; rfl) (fun K hK => ?_)
      go_simp
      refine (hfc.put HM.out (by omega) hqc).mono ?_
      rintro e w6 ⟨q', F6, FF6, rfl, hk6, hf6, hs6, hg6, hr6⟩
      rw [HV.out]
      have hz6 := hz.st hs6 hgF
      refine hK.out _ _ (hs6.kp fun k hk => by rw [hk]; exact ⟨Nat.lt_of_lt_of_le HXC.out.lt hsz1, HnF.out⟩) ?_
      clear hK K
      try simp only [Act.put, List.setIfInBounds_toArray, List.set_cons_zero, List.set_cons_succ]
      (refine takeE (Keep.tr (· = w.heap.size)) 8 (by simp only [List.getElem?_toArray, List.getElem?_cons_succ, List.getElem?_cons_zero]; rfl) (by kernel_rfl) (by kernel_rfl) (by kernel_rfl) (by exact fun _ _ _ h => h) (by first | (refine Or.inl ⟨by rfl, ?_⟩; intro W hW; go_simp; try with_reducible rfl) | exact Or.inr ⟨by rfl, rfl⟩) ?_; try simp only [Act.put, List.setIfInBounds_toArray, List.set_cons_zero, List.set_cons_succ])
      (refine takeE (Keep.tr (· = w.heap.size)) 9 (by simp only [List.getElem?_toArray, List.getElem?_cons_succ, List.getElem?_cons_zero]; rfl) (by kernel_rfl) (by kernel_rfl) (by kernel_rfl) (by exact fun _ _ _ h => h) (by first | (refine Or.inl ⟨by rfl, ?_⟩; intro W hW; go_simp; try with_reducible rfl) | exact Or.inr ⟨by rfl, rfl⟩) ?_; try simp only [Act.put, List.setIfInBounds_toArray, List.set_cons_zero, List.set_cons_succ])
      (refine takeE (Keep.tr (· = w.heap.size)) 10 (by simp only [List.getElem?_toArray, List.getElem?_cons_succ, List.getElem?_cons_zero]; rfl) (by kernel_rfl) (by kernel_rfl) (by kernel_rfl) (by exact fun _ _ _ h => h) (by first | (refine Or.inl ⟨by rfl, ?_⟩; intro W hW; go_simp; try with_reducible rfl) | exact Or.inr ⟨by rfl, rfl⟩) ?_; try simp only [Act.put, List.setIfInBounds_toArray, List.set_cons_zero, List.set_cons_succ])
      (refine takeE (Keep.tr (· = w.heap.size)) 12 (by simp only [List.getElem?_toArray, List.getElem?_cons_succ, List.getElem?_cons_zero]; rfl) (by kernel_rfl) (by kernel_rfl) (by kernel_rfl) (by exact fun _ _ _ h => h) (by first | (refine Or.inl ⟨by rfl, ?_⟩; intro W hW; go_simp; try with_reducible rfl) | exact Or.inr ⟨by rfl, rfl⟩) ?_; try simp only [Act.put, List.setIfInBounds_toArray, List.set_cons_zero, List.set_cons_succ])
      refine wpAnyE_one (i := 13) (by kernel_rfl) (by simp only [List.getElem?_toArray, List.getElem?_cons_succ, List.getElem?_cons_zero]; rfl) (fun K hK => ?_)
      refine opwp_put_pk rowP rfl (.tmp 6) (.tmp 19) rfl _ rfl hz6 (by rfl) q' rfl ?_
      intro w7 hz7 hw7
      have hin := into_before HFD.out hf6 hs6 hg6 hr6 hw7 hz7
      refine hK.out _ _ (Keep.setW hw7 (fun k hk => by rw [hk]; exact ⟨Nat.lt_of_lt_of_le HXC.out.lt (Nat.le_trans hba.size hs6.size), fun e => by have := HXC.out.lt; omega⟩)) ?_
      clear hK K
      try simp only [Act.put, List.setIfInBounds_toArray, List.set_cons_zero, List.set_cons_succ]
      refine wpAnyE_done (by kernel_rfl) ?_ _
      try clear hba
      try clear hz
      try clear hgF
      try clear hqc hfc hs6 hg6 hf6 hr6 hz6 hz7 hw7
      clear k2 k4 hsz1
      obtain ⟨F9, FF9, hf9, hs9, hg9, hr9, hz9, hle9, hn9⟩ := hin
      have HF9 := Lib.hid hf9
      have HQ9 : Hid (PvR F9 w7 q') := Lib.hid (hr9.mono fun k hk => .inl hk)
      have HZ9 := Lib.hid hz9
      have HKh : Hid (q'.pk = m.iout q.pk) := Lib.hid hk6
      have HSh := Lib.hid ((St.ext HBD.out).trans hs9 (Gr.refl _ _))
      have HGh : Hid (Gr F F9 w.heap.size) := Lib.hid ((Gr.refl F _).trans hg9 HBD.out.size)
      have HN9 : Hid (¬ F9 wd.heap.size) := Lib.hid hn9
      clear hf9 hs9 hr9 hz9 hk6 hle9 hg9 hn9
      try clear hsz1 
      generalize q' = qh at *
      clear HXC HnF HFD
      try generalize wd.heap.size = g9 at *
      go_wp2
      refine wp_region_E (Keep (· = g9)) (by kernel_rfl) (fun we hbd hsz => ?_)
      have hfc := HF9.out.below hbd
      have hqc := HQ9.out.below hbd
      have HXC := Lib.hid (HZ9.out.below hbd)
      have HS9 := Lib.hid (HSh.out.trans (St.ext hbd) (Gr.refl _ _))
      have HG9 := Lib.hid HGh.out
      have HFD := Lib.hid hfc.bd
      have HnF : Hid (¬ F9 g9) := Lib.hid HN9.out
      have hgF : ¬ F9 we.heap.size := fun hf => Nat.lt_irrefl _ (HFD.out _ hf)
      clear hsz HF9 HQ9 HZ9 HSh HGh HN9 hbd
      have k2 : ∀ W, Keep (· = g9) we W → W.cell? ⟨g9, 2, none⟩ = some (.int .i64 qh.h.pa) := fun W hW => (HXC.out.kp hW rfl).cell 2 rfl
      have k4 : ∀ W, Keep (· = g9) we W → W.cell? ⟨g9, 4, none⟩ = some (.int .i64 qh.h.ds) := fun W hW => (HXC.out.kp hW rfl).cell 4 rfl
      have hsz1 : we.heap.size ≤ we.heap.size := Nat.le_refl _
      (refine takeE (Keep.tr (· = g9)) 0 (by simp only [List.getElem?_toArray, List.getElem?_cons_succ, List.getElem?_cons_zero]; rfl) (by kernel_rfl) (by kernel_rfl) (by kernel_rfl) (by exact fun _ _ _ h => h) (by first | (refine Or.inl ⟨by rfl, ?_⟩; intro W hW; go_simp; try with_reducible rfl) | exact Or.inr ⟨by rfl, rfl⟩) ?_; try simp only [Act.put, List.setIfInBounds_toArray, List.set_cons_zero, List.set_cons_succ])
      (refine takeE (Keep.tr (· = g9)) 1 (by simp only [List.getElem?_toArray, List.getElem?_cons_succ, List.getElem?_cons_zero]; rfl) (by kernel_rfl) (by kernel_rfl) (by kernel_rfl) (by exact fun _ _ _ h => h) (by first | (refine Or.inl ⟨by rfl, ?_⟩; intro W hW; go_simp; try with_reducible rfl) | exact Or.inr ⟨by rfl, rfl⟩) ?_; try simp only [Act.put, List.setIfInBounds_toArray, List.set_cons_zero, List.set_cons_succ])
      (refine takeE (Keep.tr (· = g9)) 3 (by simp only [List.getElem?_toArray, List.getElem?_cons_succ, List.getElem?_cons_zero]; rfl) (by kernel_rfl) (by kernel_rfl) (by kernel_rfl) (by exact fun _ _ _ h => h) (by first | (refine Or.inl ⟨by rfl, ?_⟩; intro W hW; go_simp; try with_reducible rfl) | exact Or.inr ⟨by rfl, rfl⟩) ?_; try simp only [Act.put, List.setIfInBounds_toArray, List.set_cons_zero, List.set_cons_succ])
      (refine takeE (Keep.tr (· = g9)) 6 (by simp only [List.getElem?_toArray, List.getElem?_cons_succ, List.getElem?_cons_zero]; rfl) (by kernel_rfl) (by kernel_rfl) (by kernel_rfl) (by exact fun _ _ _ h => h) (by first | (refine Or.inl ⟨by rfl, ?_⟩; intro W hW; exact exec_load_bk rowP (.tmp 6) rfl g9 0 rfl (HXC.out.kp hW rfl) qh.cl rfl rfl) | exact Or.inr ⟨by rfl, rfl⟩) ?_; try simp only [Act.put, List.setIfInBounds_toArray, List.set_cons_zero, List.set_cons_succ])
      (refine takeE (Keep.tr (· = g9)) 2 (by simp only [List.getElem?_toArray, List.getElem?_cons_succ, List.getElem?_cons_zero]; rfl) (by kernel_rfl) (by kernel_rfl) (by kernel_rfl) (by exact fun _ _ _ h => h) (by first | (refine Or.inl ⟨by rfl, ?_⟩; intro W hW; go_simp; try with_reducible rfl) | exact Or.inr ⟨by rfl, rfl⟩) ?_; try simp only [Act.put, List.setIfInBounds_toArray, List.set_cons_zero, List.set_cons_succ])
      (refine takeE (Keep.tr (· = g9)) 4 (by simp only [List.getElem?_toArray, List.getElem?_cons_succ, List.getElem?_cons_zero]; rfl) (by kernel_rfl) (by kernel_rfl) (by kernel_rfl) (by exact fun _ _ _ h => h) (by first | (refine Or.inl ⟨by rfl, ?_⟩; intro W hW; go_simp; try with_reducible rfl) | exact Or.inr ⟨by rfl, rfl⟩) ?_; try simp only [Act.put, List.setIfInBounds_toArray, List.set_cons_zero, List.set_cons_succ])
      refine wpAnyE_two (i := 5) (j := 11) (by kernel_rfl) (by simp only [List.getElem?_toArray, List.getElem?_cons_succ, List.getElem?_cons_zero]; rfl) (by simp only [List.getElem?_toArray, List.getElem?_cons_succ, List.getElem?_cons_zero]; rfl) (fun K2 hK2 => ?_) (fun K2 hK2 => ?_)
      ·
        go_simp
        refine (f_at hfc.fp _ _).mono ?_
        rintro e wr ⟨rfl, rfl⟩
        refine hK2.out _ _ ((Keep.tr _).refl _) ?_
        clear hK2 K2
        try simp only [Act.put, List.setIfInBounds_toArray, List.set_cons_zero, List.set_cons_succ]
        refine wpAnyE_two (i := 7) (j := 11) (by kernel_rfl) (by simp only [List.getElem?_toArray, List.getElem?_cons_succ, List.getElem?_cons_zero]; rfl) (by simp only [List.getElem?_toArray, List.getElem?_cons_succ, List.getElem?_cons_zero]; rfl) (fun K2 hK2 => ?_) (fun K2 hK2 => ?_)
        ·
          go_simp
          refine (hfc.put HM2.out (by omega) hqc).mono ?_
          rintro e w8 ⟨q9, F8, FF8, rfl, hk8, hf8, hs8, hg8, hr8⟩
          rw [HKh.out] at hk8 hf8 ⊢
          refine hK2.out _ _ (hs8.kp fun k hk => by rw [hk]; exact ⟨Nat.lt_of_lt_of_le HXC.out.lt hsz1, HnF.out⟩) ?_
          clear hK2 K2
          try simp only [Act.put, List.setIfInBounds_toArray, List.set_cons_zero, List.set_cons_succ]
          (refine takeE (Keep.tr (· = g9)) 8 (by simp only [List.getElem?_toArray, List.getElem?_cons_succ, List.getElem?_cons_zero]; rfl) (by kernel_rfl) (by kernel_rfl) (by kernel_rfl) (by exact fun _ _ _ h => h) (by first | (refine Or.inl ⟨by rfl, ?_⟩; intro W hW; go_simp; try with_reducible rfl) | exact Or.inr ⟨by rfl, rfl⟩) ?_; try simp only [Act.put, List.setIfInBounds_toArray, List.set_cons_zero, List.set_cons_succ])
          (refine takeE (Keep.tr (· = g9)) 9 (by simp only [List.getElem?_toArray, List.getElem?_cons_succ, List.getElem?_cons_zero]; rfl) (by kernel_rfl) (by kernel_rfl) (by kernel_rfl) (by exact fun _ _ _ h => h) (by first | (refine Or.inl ⟨by rfl, ?_⟩; intro W hW; go_simp; try with_reducible rfl) | exact Or.inr ⟨by rfl, rfl⟩) ?_; try simp only [Act.put, List.setIfInBounds_toArray, List.set_cons_zero, List.set_cons_succ])
          (refine takeE (Keep.tr (· = g9)) 10 (by simp only [List.getElem?_toArray, List.getElem?_cons_succ, List.getElem?_cons_zero]; rfl) (by kernel_rfl) (by kernel_rfl) (by kernel_rfl) (by exact fun _ _ _ h => h) (by first | (refine Or.inl ⟨by rfl, ?_⟩; intro W hW; go_simp; try with_reducible rfl) | exact Or.inr ⟨by rfl, rfl⟩) ?_; try simp only [Act.put, List.setIfInBounds_toArray, List.set_cons_zero, List.set_cons_succ])
          refine wpAnyE_one (i := 11) (by kernel_rfl) (by simp only [List.getElem?_toArray, List.getElem?_cons_succ, List.getElem?_cons_zero]; rfl) (fun K2 hK2 => ?_)
          go_simp
          have hba := (Below.refl w8.heap.size w8).alloc (Nat.le_refl _) (.cells (List.toArray [.int .i64 0, .int .i64 0, .int .i64 0, .int .i64 0, .int .i64 0, .int .i64 0, .int .i64 0, .int .i64 0, .slice none 0 0]) 65)
          have hz8 := Bk.new w8 65 [.int .i64 0, .int .i64 0, .int .i64 0, .int .i64 0, .int .i64 0, .int .i64 0, .int .i64 0, .int .i64 0, .slice none 0 0]
          refine hK2.out _ _ (Keep.below hba (fun k hk => by rw [hk]; exact Nat.lt_of_lt_of_le HXC.out.lt hs8.size)) ?_
          clear hK2 K2
          try simp only [Act.put, List.setIfInBounds_toArray, List.set_cons_zero, List.set_cons_succ]
          (refine takeE (Keep.tr (· = g9)) 12 (by simp only [List.getElem?_toArray, List.getElem?_cons_succ, List.getElem?_cons_zero]; rfl) (by kernel_rfl) (by kernel_rfl) (by kernel_rfl) (by exact fun _ _ _ h => h) (by first | (refine Or.inl ⟨by rfl, ?_⟩; intro W hW; go_simp; try with_reducible rfl) | exact Or.inr ⟨by rfl, rfl⟩) ?_; try simp only [Act.put, List.setIfInBounds_toArray, List.set_cons_zero, List.set_cons_succ])
          refine wpAnyE_one (i := 13) (by kernel_rfl) (by simp only [List.getElem?_toArray, List.getElem?_cons_succ, List.getElem?_cons_zero]; rfl) (fun K2 hK2 => ?_)
          refine opwp_put_pk rowP rfl (.tmp 8) (.tmp 33) rfl _ rfl hz8 (by rfl) q9 rfl ?_
          intro w9 hzz hww
          have hin := into_after hf8 hs8 hg8 hr8 hww hzz
          refine hK2.out _ _ (Keep.setW hww (fun k hk => by rw [hk]; exact ⟨Nat.lt_of_lt_of_le HXC.out.lt (Nat.le_trans hs8.size hba.size), fun e => by have := HXC.out.lt; have := hs8.size; omega⟩)) ?_
          clear hK2 K2
          try simp only [Act.put, List.setIfInBounds_toArray, List.set_cons_zero, List.set_cons_succ]
          refine wpAnyE_done (by kernel_rfl) ?_ _
          try clear hba
          try clear hz
          try clear hgF
          try clear hqc hfc hs8 hg8 hf8 hr8 hz8 hzz hww
          clear k2 k4 hsz1
          obtain ⟨FA, FFA, hfA, hsA, hgA, hrA, hzA, hleA, hnA⟩ := hin
          have HE : Hid (FDid F X w b ((m.into q.pk).into (m.iout q.pk)) pp w9) := Lib.hid ⟨FA, FFA, hfA.less fun k hk => .inl (.inl (.inl hk)), HS9.out.trans hsA HG9.out, HG9.out.trans hgA HS9.out.size⟩
          clear hfA hsA hgA hrA hzA hleA hnA
          by_cases hv2 : (m.into q.pk).ivd (m.iout q.pk) = 1
          · rw [hv2]
            go_wp2
            go_ret
            exact ⟨by unfold FM.pv3; rw [if_pos hv2]; rfl, HE.out⟩
          · have hv3 : ¬ (((m.into q.pk).ivd (m.iout q.pk) : Nat) : Int) = 1 := by omega
            go_wp2
            go_ret
            exact ⟨by unfold FM.pv3; rw [if_neg hv2]; rfl, HE.out⟩
        ·
          go_simp
          have hba := (Below.refl we.heap.size we).alloc (Nat.le_refl _) (.cells (List.toArray [.int .i64 0, .int .i64 0, .int .i64 0, .int .i64 0, .int .i64 0, .int .i64 0, .int .i64 0, .int .i64 0, .slice none 0 0]) 65)
          have hz := Bk.new we 65 [.int .i64 0, .int .i64 0, .int .i64 0, .int .i64 0, .int .i64 0, .int .i64 0, .int .i64 0, .int .i64 0, .slice none 0 0]
          replace hsz1 := hba.size
          replace hfc := hfc.box (g := we.heap.size) hba (Nat.le_refl _) (by simp)
          replace hqc := hqc.below hba
          refine hK2.out _ _ (Keep.below hba (fun k hk => by rw [hk]; exact HXC.out.lt)) ?_
          clear hK2 K2
          try simp only [Act.put, List.setIfInBounds_toArray, List.set_cons_zero, List.set_cons_succ]
          refine wpAnyE_one (i := 7) (by kernel_rfl) (by simp only [List.getElem?_toArray, List.getElem?_cons_succ, List.getElem?_cons_zero]; rfl) (fun K2 hK2 => ?_)
          go_simp
          refine (hfc.put HM2.out (by omega) hqc).mono ?_
          rintro e w8 ⟨q9, F8, FF8, rfl, hk8, hf8, hs8, hg8, hr8⟩
          rw [HKh.out] at hk8 hf8 ⊢
          have hz8 := hz.st hs8 hgF
          refine hK2.out _ _ (hs8.kp fun k hk => by rw [hk]; exact ⟨Nat.lt_of_lt_of_le HXC.out.lt hsz1, HnF.out⟩) ?_
          clear hK2 K2
          try simp only [Act.put, List.setIfInBounds_toArray, List.set_cons_zero, List.set_cons_succ]
          (refine takeE (Keep.tr (· = g9)) 8 (by simp only [List.getElem?_toArray, List.getElem?_cons_succ, List.getElem?_cons_zero]; rfl) (by kernel_rfl) (by kernel_rfl) (by kernel_rfl) (by exact fun _ _ _ h => h) (by first | (refine Or.inl ⟨by rfl, ?_⟩; intro W hW; go_simp; try with_reducible rfl) | exact Or.inr ⟨by rfl, rfl⟩) ?_; try simp only [Act.put, List.setIfInBounds_toArray, List.set_cons_zero, List.set_cons_succ])
          (refine takeE (Keep.tr (· = g9)) 9 (by simp only [List.getElem?_toArray, List.getElem?_cons_succ, List.getElem?_cons_zero]; rfl) (by kernel_rfl) (by kernel_rfl) (by kernel_rfl) (by exact fun _ _ _ h => h) (by first | (refine Or.inl ⟨by rfl, ?_⟩; intro W hW; go_simp; try with_reducible rfl) | exact Or.inr ⟨by rfl, rfl⟩) ?_; try simp only [Act.put, List.setIfInBounds_toArray, List.set_cons_zero, List.set_cons_succ])
          (refine takeE (Keep.tr (· = g9)) 10 (by simp only [List.getElem?_toArray, List.getElem?_cons_succ, List.getElem?_cons_zero]; rfl) (by kernel_rfl) (by kernel_rfl) (by kernel_rfl) (by exact fun _ _ _ h => h) (by first | (refine Or.inl ⟨by rfl, ?_⟩; intro W hW; go_simp; try with_reducible rfl) | exact Or.inr ⟨by rfl, rfl⟩) ?_; try simp only [Act.put, List.setIfInBounds_toArray, List.set_cons_zero, List.set_cons_succ])
          (refine takeE (Keep.tr (· = g9)) 12 (by simp only [List.getElem?_toArray, List.getElem?_cons_succ, List.getElem?_cons_zero]; rfl) (by kernel_rfl) (by kernel_rfl) (by kernel_rfl) (by exact fun _ _ _ h => h) (by first | (refine Or.inl ⟨by rfl, ?_⟩; intro W hW; go_simp; try with_reducible rfl) | exact Or.inr ⟨by rfl, rfl⟩) ?_; try simp only [Act.put, List.setIfInBounds_toArray, List.set_cons_zero, List.set_cons_succ])
          refine wpAnyE_one (i := 13) (by kernel_rfl) (by simp only [List.getElem?_toArray, List.getElem?_cons_succ, List.getElem?_cons_zero]; rfl) (fun K2 hK2 => ?_)
          refine opwp_put_pk rowP rfl (.tmp 8) (.tmp 33) rfl _ rfl hz8 (by rfl) q9 rfl ?_
          intro w9 hzz hww
          have hin := into_before HFD.out hf8 hs8 hg8 hr8 hww hzz
          refine hK2.out _ _ (Keep.setW hww (fun k hk => by rw [hk]; exact ⟨Nat.lt_of_lt_of_le HXC.out.lt (Nat.le_trans hba.size hs8.size), fun e => by have := HXC.out.lt; omega⟩)) ?_
          clear hK2 K2
          try simp only [Act.put, List.setIfInBounds_toArray, List.set_cons_zero, List.set_cons_succ]
          refine wpAnyE_done (by kernel_rfl) ?_ _
          try clear hba
          try clear hz
          try clear hgF
          try clear hqc hfc hs8 hg8 hf8 hr8 hz8 hzz hww
          clear k2 k4 hsz1
          obtain ⟨FA, FFA, hfA, hsA, hgA, hrA, hzA, hleA, hnA⟩ := hin
          have HE : Hid (FDid F X w b ((m.into q.pk).into (m.iout q.pk)) pp w9) := Lib.hid ⟨FA, FFA, hfA.less fun k hk => .inl (.inl (.inl hk)), HS9.out.trans hsA HG9.out, HG9.out.trans hgA HS9.out.size⟩
          clear hfA hsA hgA hrA hzA hleA hnA
          by_cases hv2 : (m.into q.pk).ivd (m.iout q.pk) = 1
          · rw [hv2]
            go_wp2
            go_ret
            exact ⟨by unfold FM.pv3; rw [if_pos hv2]; rfl, HE.out⟩
          · have hv3 : ¬ (((m.into q.pk).ivd (m.iout q.pk) : Nat) : Int) = 1 := by omega
            go_wp2
            go_ret
            exact ⟨by unfold FM.pv3; rw [if_neg hv2]; rfl, HE.out⟩
      ·
        go_simp
        have hba := (Below.refl we.heap.size we).alloc (Nat.le_refl _) (.cells (List.toArray [.int .i64 0, .int .i64 0, .int .i64 0, .int .i64 0, .int .i64 0, .int .i64 0, .int .i64 0, .int .i64 0, .slice none 0 0]) 65)
        have hz := Bk.new we 65 [.int .i64 0, .int .i64 0, .int .i64 0, .int .i64 0, .int .i64 0, .int .i64 0, .int .i64 0, .int .i64 0, .slice none 0 0]
        replace hsz1 := hba.size
        replace hfc := hfc.box (g := we.heap.size) hba (Nat.le_refl _) (by simp)
        replace hqc := hqc.below hba
        refine hK2.out _ _ (Keep.below hba (fun k hk => by rw [hk]; exact HXC.out.lt)) ?_
        clear hK2 K2
        try simp only [Act.put, List.setIfInBounds_toArray, List.set_cons_zero, List.set_cons_succ]
        refine wpAnyE_one (i := 5) (by kernel_rfl) (by simp only [List.getElem?_toArray, List.getElem?_cons_succ, List.getElem?_cons_zero]; rfl) (fun K2 hK2 => ?_)
        go_simp
        refine (f_at hfc.fp _ _).mono ?_
        rintro e wr ⟨rfl, rfl⟩
        refine hK2.out _ _ ((Keep.tr _).refl _) ?_
        clear hK2 K2
        try simp only [Act.put, List.setIfInBounds_toArray, List.set_cons_zero, List.set_cons_succ]
        refine wpAnyE_one (i := 7) (by kernel_rfl) (by simp only [List.getElem?_toArray, List.getElem?_cons_succ, List.getElem?_cons_zero]; rfl) (fun K2 hK2 => ?_)
        go_simp
        refine (hfc.put HM2.out (by omega) hqc).mono ?_
        rintro e w8 ⟨q9, F8, FF8, rfl, hk8, hf8, hs8, hg8, hr8⟩
        rw [HKh.out] at hk8 hf8 ⊢
        have hz8 := hz.st hs8 hgF
        refine hK2.out _ _ (hs8.kp fun k hk => by rw [hk]; exact ⟨Nat.lt_of_lt_of_le HXC.out.lt hsz1, HnF.out⟩) ?_
        clear hK2 K2
        try simp only [Act.put, List.setIfInBounds_toArray, List.set_cons_zero, List.set_cons_succ]
        (refine takeE (Keep.tr (· = g9)) 8 (by simp only [List.getElem?_toArray, List.getElem?_cons_succ, List.getElem?_cons_zero]; rfl) (by kernel_rfl) (by kernel_rfl) (by kernel_rfl) (by exact fun _ _ _ h => h) (by first | (refine Or.inl ⟨by rfl, ?_⟩; intro W hW; go_simp; try with_reducible rfl) | exact Or.inr ⟨by rfl, rfl⟩) ?_; try simp only [Act.put, List.setIfInBounds_toArray, List.set_cons_zero, List.set_cons_succ])
        (refine takeE (Keep.tr (· = g9)) 9 (by simp only [List.getElem?_toArray, List.getElem?_cons_succ, List.getElem?_cons_zero]; rfl) (by kernel_rfl) (by kernel_rfl) (by kernel_rfl) (by exact fun _ _ _ h => h) (by first | (refine Or.inl ⟨by rfl, ?_⟩; intro W hW; go_simp; try with_reducible rfl) | exact Or.inr ⟨by rfl, rfl⟩) ?_; try simp only [Act.put, List.setIfInBounds_toArray, List.set_cons_zero, List.set_cons_succ])
        (refine takeE (Keep.tr (· = g9)) 10 (by simp only [List.getElem?_toArray, List.getElem?_cons_succ, List.getElem?_cons_zero]; rfl) (by kernel_rfl) (by kernel_rfl) (by kernel_rfl) (by exact fun _ _ _ h => h) (by first | (refine Or.inl ⟨by rfl, ?_⟩; intro W hW; go_simp; try with_reducible rfl) | exact Or.inr ⟨by rfl, rfl⟩) ?_; try simp only [Act.put, List.setIfInBounds_toArray, List.set_cons_zero, List.set_cons_succ])
        (refine takeE (Keep.tr (· = g9)) 12 (by simp only [List.getElem?_toArray, List.getElem?_cons_succ, List.getElem?_cons_zero]; rfl) (by kernel_rfl) (by kernel_rfl) (by kernel_rfl) (by exact fun _ _ _ h => h) (by first | (refine Or.inl ⟨by rfl, ?_⟩; intro W hW; go_simp; try with_reducible rfl) | exact Or.inr ⟨by rfl, rfl⟩) ?_; try simp only [Act.put, List.setIfInBounds_toArray, List.set_cons_zero, List.set_cons_succ])
        refine wpAnyE_one (i := 13) (by kernel_rfl) (by simp only [List.getElem?_toArray, List.getElem?_cons_succ, List.getElem?_cons_zero]; rfl) (fun K2 hK2 => ?_)
        refine opwp_put_pk rowP rfl (.tmp 8) (.tmp 33) rfl _ rfl hz8 (by rfl) q9 rfl ?_
        intro w9 hzz hww
        have hin := into_before HFD.out hf8 hs8 hg8 hr8 hww hzz
        refine hK2.out _ _ (Keep.setW hww (fun k hk => by rw [hk]; exact ⟨Nat.lt_of_lt_of_le HXC.out.lt (Nat.le_trans hba.size hs8.size), fun e => by have := HXC.out.lt; omega⟩)) ?_
        clear hK2 K2
        try simp only [Act.put, List.setIfInBounds_toArray, List.set_cons_zero, List.set_cons_succ]
        refine wpAnyE_done (by kernel_rfl) ?_ _
        try clear hba
        try clear hz
        try clear hgF
        try clear hqc hfc hs8 hg8 hf8 hr8 hz8 hzz hww
        clear k2 k4 hsz1
        obtain ⟨FA, FFA, hfA, hsA, hgA, hrA, hzA, hleA, hnA⟩ := hin
        have HE : Hid (FDid F X w b ((m.into q.pk).into (m.iout q.pk)) pp w9) := Lib.hid ⟨FA, FFA, hfA.less fun k hk => .inl (.inl (.inl hk)), HS9.out.trans hsA HG9.out, HG9.out.trans hgA HS9.out.size⟩
        clear hfA hsA hgA hrA hzA hleA hnA
        by_cases hv2 : (m.into q.pk).ivd (m.iout q.pk) = 1
        · rw [hv2]
          go_wp2
          go_ret
          exact ⟨by unfold FM.pv3; rw [if_pos hv2]; rfl, HE.out⟩
        · have hv3 : ¬ (((m.into q.pk).ivd (m.iout q.pk) : Nat) : Int) = 1 := by omega
          go_wp2
          go_ret
          exact ⟨by unfold FM.pv3; rw [if_neg hv2]; rfl, HE.out⟩
  ·
    go_simp
    have hba := (Below.refl wd.heap.size wd).alloc (Nat.le_refl _) (.cells (List.toArray [.int .i64 0, .int .i64 0, .int .i64 0, .int .i64 0, .int .i64 0, .int .i64 0, .int .i64 0, .int .i64 0, .slice none 0 0]) 65)
    have hz := Bk.new wd 65 [.int .i64 0, .int .i64 0, .int .i64 0, .int .i64 0, .int .i64 0, .int .i64 0, .int .i64 0, .int .i64 0, .slice none 0 0]
    replace hsz1 := hba.size
    replace hfc := hfc.box (g := wd.heap.size) hba (Nat.le_refl _) (by simp)
    replace hqc := hqc.below hba
    refine hK.out _ _ (Keep.below hba (fun k hk => by rw [hk]; exact HXC.out.lt)) ?_
    clear hK K
    try simp only [Act.put, List.setIfInBounds_toArray, List.set_cons_zero, List.set_cons_succ]
    refine wpAnyE_one (i := 5) (by kernel_rfl) (by simp only [List.getElem?_toArray, List.getElem?_cons_succ, List.getElem?_cons_zero]; rfl) (fun K hK => ?_)
    go_simp
    refine (f_at hfc.fp _ _).mono ?_
    rintro e wq ⟨rfl, rfl⟩
    refine hK.out _ _ ((Keep.tr _).refl _) ?_
    clear hK K
    try simp only [Act.put, List.setIfInBounds_toArray, List.set_cons_zero, List.set_cons_succ]
    refine wpAnyE_one (i := 7) (by kernel_rfl) (by simp only [List.getElem?_toArray, List.getElem?_cons_succ, List.getElem?_cons_zero]; rfl) (fun K hK => ?_)
    go_simp
    refine (hfc.put HM.out (by omega) hqc).mono ?_
    rintro e w6 ⟨q', F6, FF6, rfl, hk6, hf6, hs6, hg6, hr6⟩
    rw [HV.out]
    have hz6 := hz.st hs6 hgF
    refine hK.out _ _ (hs6.kp fun k hk => by rw [hk]; exact ⟨Nat.lt_of_lt_of_le HXC.out.lt hsz1, HnF.out⟩) ?_
    clear hK K
    try simp only [Act.put, List.setIfInBounds_toArray, List.set_cons_zero, List.set_cons_succ]
    (refine takeE (Keep.tr (· = w.heap.size)) 8 (by simp only [List.getElem?_toArray, List.getElem?_cons_succ, List.getElem?_cons_zero]; rfl) (by kernel_rfl) (by kernel_rfl) (by kernel_rfl) (by exact fun _ _ _ h => h) (by first | (refine Or.inl ⟨by rfl, ?_⟩; intro W hW; go_simp; try with_reducible rfl) | exact Or.inr ⟨by rfl, rfl⟩) ?_; try simp only [Act.put, List.setIfInBounds_toArray, List.set_cons_zero, List.set_cons_succ])
    (refine takeE (Keep.tr (· = w.heap.size)) 9 (by simp only [List.getElem?_toArray, List.getElem?_cons_succ, List.getElem?_cons_zero]; rfl) (by kernel_rfl) (by kernel_rfl) (by kernel_rfl) (by exact fun _ _ _ h => h) (by first | (refine Or.inl ⟨by rfl, ?_⟩; intro W hW; go_simp; try with_reducible rfl) | exact Or.inr ⟨by rfl, rfl⟩) ?_; try simp only [Act.put, List.setIfInBounds_toArray, List.set_cons_zero, List.set_cons_succ])
    (refine takeE (Keep.tr (· = w.heap.size)) 10 (by simp only [List.getElem?_toArray, List.getElem?_cons_succ, List.getElem?_cons_zero]; rfl) (by kernel_rfl) (by kernel_rfl) (by kernel_rfl) (by exact fun _ _ _ h => h) (by first | (refine Or.inl ⟨by rfl, ?_⟩; intro W hW; go_simp; try with_reducible rfl) | exact Or.inr ⟨by rfl, rfl⟩) ?_; try simp only [Act.put, List.setIfInBounds_toArray, List.set_cons_zero, List.set_cons_succ])
    (refine takeE (Keep.tr (· = w.heap.size)) 12 (by simp only [List.getElem?_toArray, List.getElem?_cons_succ, List.getElem?_cons_zero]; rfl) (by kernel_rfl) (by kernel_rfl) (by kernel_rfl) (by exact fun _ _ _ h => h) (by first | (refine Or.inl ⟨by rfl, ?_⟩; intro W hW; go_simp; try with_reducible rfl) | exact Or.inr ⟨by rfl, rfl⟩) ?_; try simp only [Act.put, List.setIfInBounds_toArray, List.set_cons_zero, List.set_cons_succ])
    refine wpAnyE_one (i := 13) (by kernel_rfl) (by simp only [List.getElem?_toArray, List.getElem?_cons_succ, List.getElem?_cons_zero]; rfl) (fun K hK => ?_)
    refine opwp_put_pk rowP rfl (.tmp 6) (.tmp 19) rfl _ rfl hz6 (by rfl) q' rfl ?_
    intro w7 hz7 hw7
    have hin := into_before HFD.out hf6 hs6 hg6 hr6 hw7 hz7
    refine hK.out _ _ (Keep.setW hw7 (fun k hk => by rw [hk]; exact ⟨Nat.lt_of_lt_of_le HXC.out.lt (Nat.le_trans hba.size hs6.size), fun e => by have := HXC.out.lt; omega⟩)) ?_
    clear hK K
    try simp only [Act.put, List.setIfInBounds_toArray, List.set_cons_zero, List.set_cons_succ]
    refine wpAnyE_done (by kernel_rfl) ?_ _
    try clear hba
    try clear hz
    try clear hgF
    try clear hqc hfc hs6 hg6 hf6 hr6 hz6 hz7 hw7
    clear k2 k4 hsz1
    obtain ⟨F9, FF9, hf9, hs9, hg9, hr9, hz9, hle9, hn9⟩ := hin
    have HF9 := Lib.hid hf9
    have HQ9 : Hid (PvR F9 w7 q') := Lib.hid (hr9.mono fun k hk => .inl hk)
    have HZ9 := Lib.hid hz9
    have HKh : Hid (q'.pk = m.iout q.pk) := Lib.hid hk6
    have HSh := Lib.hid ((St.ext HBD.out).trans hs9 (Gr.refl _ _))
    have HGh : Hid (Gr F F9 w.heap.size) := Lib.hid ((Gr.refl F _).trans hg9 HBD.out.size)
    have HN9 : Hid (¬ F9 wd.heap.size) := Lib.hid hn9
    clear hf9 hs9 hr9 hz9 hk6 hle9 hg9 hn9
    try clear hsz1 
    generalize q' = qh at *
    clear HXC HnF HFD
    try generalize wd.heap.size = g9 at *
    go_wp2
    refine wp_region_E (Keep (· = g9)) (by kernel_rfl) (fun we hbd hsz => ?_)
    have hfc := HF9.out.below hbd
    have hqc := HQ9.out.below hbd
    have HXC := Lib.hid (HZ9.out.below hbd)
    have HS9 := Lib.hid (HSh.out.trans (St.ext hbd) (Gr.refl _ _))
    have HG9 := Lib.hid HGh.out
    have HFD := Lib.hid hfc.bd
    have HnF : Hid (¬ F9 g9) := Lib.hid HN9.out
    have hgF : ¬ F9 we.heap.size := fun hf => Nat.lt_irrefl _ (HFD.out _ hf)
    clear hsz HF9 HQ9 HZ9 HSh HGh HN9 hbd
    have k2 : ∀ W, Keep (· = g9) we W → W.cell? ⟨g9, 2, none⟩ = some (.int .i64 qh.h.pa) := fun W hW => (HXC.out.kp hW rfl).cell 2 rfl
    have k4 : ∀ W, Keep (· = g9) we W → W.cell? ⟨g9, 4, none⟩ = some (.int .i64 qh.h.ds) := fun W hW => (HXC.out.kp hW rfl).cell 4 rfl
    have hsz1 : we.heap.size ≤ we.heap.size := Nat.le_refl _
    (refine takeE (Keep.tr (· = g9)) 0 (by simp only [List.getElem?_toArray, List.getElem?_cons_succ, List.getElem?_cons_zero]; rfl) (by kernel_rfl) (by kernel_rfl) (by kernel_rfl) (by exact fun _ _ _ h => h) (by first | (refine Or.inl ⟨by rfl, ?_⟩; intro W hW; go_simp; try with_reducible rfl) | exact Or.inr ⟨by rfl, rfl⟩) ?_; try simp only [Act.put, List.setIfInBounds_toArray, List.set_cons_zero, List.set_cons_succ])
    (refine takeE (Keep.tr (· = g9)) 1 (by simp only [List.getElem?_toArray, List.getElem?_cons_succ, List.getElem?_cons_zero]; rfl) (by kernel_rfl) (by kernel_rfl) (by kernel_rfl) (by exact fun _ _ _ h => h) (by first | (refine Or.inl ⟨by rfl, ?_⟩; intro W hW; go_simp; try with_reducible rfl) | exact Or.inr ⟨by rfl, rfl⟩) ?_; try simp only [Act.put, List.setIfInBounds_toArray, List.set_cons_zero, List.set_cons_succ])
    (refine takeE (Keep.tr (· = g9)) 3 (by simp only [List.getElem?_toArray, List.getElem?_cons_succ, List.getElem?_cons_zero]; rfl) (by kernel_rfl) (by kernel_rfl) (by kernel_rfl) (by exact fun _ _ _ h => h) (by first | (refine Or.inl ⟨by rfl, ?_⟩; intro W hW; go_simp; try with_reducible rfl) | exact Or.inr ⟨by rfl, rfl⟩) ?_; try simp only [Act.put, List.setIfInBounds_toArray, List.set_cons_zero, List.set_cons_succ])
    (refine takeE (Keep.tr (· = g9)) 6 (by simp only [List.getElem?_toArray, List.getElem?_cons_succ, List.getElem?_cons_zero]; rfl) (by kernel_rfl) (by kernel_rfl) (by kernel_rfl) (by exact fun _ _ _ h => h) (by first | (refine Or.inl ⟨by rfl, ?_⟩; intro W hW; exact exec_load_bk rowP (.tmp 6) rfl g9 0 rfl (HXC.out.kp hW rfl) qh.cl rfl rfl) | exact Or.inr ⟨by rfl, rfl⟩) ?_; try simp only [Act.put, List.setIfInBounds_toArray, List.set_cons_zero, List.set_cons_succ])
    (refine takeE (Keep.tr (· = g9)) 2 (by simp only [List.getElem?_toArray, List.getElem?_cons_succ, List.getElem?_cons_zero]; rfl) (by kernel_rfl) (by kernel_rfl) (by kernel_rfl) (by exact fun _ _ _ h => h) (by first | (refine Or.inl ⟨by rfl, ?_⟩; intro W hW; go_simp; try with_reducible rfl) | exact Or.inr ⟨by rfl, rfl⟩) ?_; try simp only [Act.put, List.setIfInBounds_toArray, List.set_cons_zero, List.set_cons_succ])
    (refine takeE (Keep.tr (· = g9)) 4 (by simp only [List.getElem?_toArray, List.getElem?_cons_succ, List.getElem?_cons_zero]; rfl) (by kernel_rfl) (by kernel_rfl) (by kernel_rfl) (by exact fun _ _ _ h => h) (by first | (refine Or.inl ⟨by rfl, ?_⟩; intro W hW; go_simp; try with_reducible rfl) | exact Or.inr ⟨by rfl, rfl⟩) ?_; try simp only [Act.put, List.setIfInBounds_toArray, List.set_cons_zero, List.set_cons_succ])
    refine wpAnyE_two (i := 5) (j := 11) (by kernel_rfl) (by simp only [List.getElem?_toArray, List.getElem?_cons_succ, List.getElem?_cons_zero]; rfl) (by simp only [List.getElem?_toArray, List.getElem?_cons_succ, List.getElem?_cons_zero]; rfl) (fun K2 hK2 => ?_) (fun K2 hK2 => ?_)
    ·
      go_simp
      refine (f_at hfc.fp _ _).mono ?_
      rintro e wr ⟨rfl, rfl⟩
      refine hK2.out _ _ ((Keep.tr _).refl _) ?_
      clear hK2 K2
      try simp only [Act.put, List.setIfInBounds_toArray, List.set_cons_zero, List.set_cons_succ]
      refine wpAnyE_two (i := 7) (j := 11) (by kernel_rfl) (by simp only [List.getElem?_toArray, List.getElem?_cons_succ, List.getElem?_cons_zero]; rfl) (by simp only [List.getElem?_toArray, List.getElem?_cons_succ, List.getElem?_cons_zero]; rfl) (fun K2 hK2 => ?_) (fun K2 hK2 => ?_)
      ·
        go_simp
        refine (hfc.put HM2.out (by omega) hqc).mono ?_
        rintro e w8 ⟨q9, F8, FF8, rfl, hk8, hf8, hs8, hg8, hr8⟩
        rw [HKh.out] at hk8 hf8 ⊢
        refine hK2.out _ _ (hs8.kp fun k hk => by rw [hk]; exact ⟨Nat.lt_of_lt_of_le HXC.out.lt hsz1, HnF.out⟩) ?_
        clear hK2 K2
        try simp only [Act.put, List.setIfInBounds_toArray, List.set_cons_zero, List.set_cons_succ]
        (refine takeE (Keep.tr (· = g9)) 8 (by simp only [List.getElem?_toArray, List.getElem?_cons_succ, List.getElem?_cons_zero]; rfl) (by kernel_rfl) (by kernel_rfl) (by kernel_rfl) (by exact fun _ _ _ h => h) (by first | (refine Or.inl ⟨by rfl, ?_⟩; intro W hW; go_simp; try with_reducible rfl) | exact Or.inr ⟨by rfl, rfl⟩) ?_; try simp only [Act.put, List.setIfInBounds_toArray, List.set_cons_zero, List.set_cons_succ])
        (refine takeE (Keep.tr (· = g9)) 9 (by simp only [List.getElem?_toArray, List.getElem?_cons_succ, List.getElem?_cons_zero]; rfl) (by kernel_rfl) (by kernel_rfl) (by kernel_rfl) (by exact fun _ _ _ h => h) (by first | (refine Or.inl ⟨by rfl, ?_⟩; intro W hW; go_simp; try with_reducible rfl) | exact Or.inr ⟨by rfl, rfl⟩) ?_; try simp only [Act.put, List.setIfInBounds_toArray, List.set_cons_zero, List.set_cons_succ])
        (refine takeE (Keep.tr (· = g9)) 10 (by simp only [List.getElem?_toArray, List.getElem?_cons_succ, List.getElem?_cons_zero]; rfl) (by kernel_rfl) (by kernel_rfl) (by kernel_rfl) (by exact fun _ _ _ h => h) (by first | (refine Or.inl ⟨by rfl, ?_⟩; intro W hW; go_simp; try with_reducible rfl) | exact Or.inr ⟨by rfl, rfl⟩) ?_; try simp only [Act.put, List.setIfInBounds_toArray, List.set_cons_zero, List.set_cons_succ])
        refine wpAnyE_one (i := 11) (by kernel_rfl) (by simp only [List.getElem?_toArray, List.getElem?_cons_succ, List.getElem?_cons_zero]; rfl) (fun K2 hK2 => ?_)
        go_simp
        have hba := (Below.refl w8.heap.size w8).alloc (Nat.le_refl _) (.cells (List.toArray [.int .i64 0, .int .i64 0, .int .i64 0, .int .i64 0, .int .i64 0, .int .i64 0, .int .i64 0, .int .i64 0, .slice none 0 0]) 65)
        have hz8 := Bk.new w8 65 [.int .i64 0, .int .i64 0, .int .i64 0, .int .i64 0, .int .i64 0, .int .i64 0, .int .i64 0, .int .i64 0, .slice none 0 0]
        refine hK2.out _ _ (Keep.below hba (fun k hk => by rw [hk]; exact Nat.lt_of_lt_of_le HXC.out.lt hs8.size)) ?_
        clear hK2 K2
        try simp only [Act.put, List.setIfInBounds_toArray, List.set_cons_zero, List.set_cons_succ]
        (refine takeE (Keep.tr (· = g9)) 12 (by simp only [List.getElem?_toArray, List.getElem?_cons_succ, List.getElem?_cons_zero]; rfl) (by kernel_rfl) (by kernel_rfl) (by kernel_rfl) (by exact fun _ _ _ h => h) (by first | (refine Or.inl ⟨by rfl, ?_⟩; intro W hW; go_simp; try with_reducible rfl) | exact Or.inr ⟨by rfl, rfl⟩) ?_; try simp only [Act.put, List.setIfInBounds_toArray, List.set_cons_zero, List.set_cons_succ])
        refine wpAnyE_one (i := 13) (by kernel_rfl) (by simp only [List.getElem?_toArray, List.getElem?_cons_succ, List.getElem?_cons_zero]; rfl) (fun K2 hK2 => ?_)
        refine opwp_put_pk rowP rfl (.tmp 8) (.tmp 33) rfl _ rfl hz8 (by rfl) q9 rfl ?_
        intro w9 hzz hww
        have hin := into_after hf8 hs8 hg8 hr8 hww hzz
        refine hK2.out _ _ (Keep.setW hww (fun k hk => by rw [hk]; exact ⟨Nat.lt_of_lt_of_le HXC.out.lt (Nat.le_trans hs8.size hba.size), fun e => by have := HXC.out.lt; have := hs8.size; omega⟩)) ?_
        clear hK2 K2
        try simp only [Act.put, List.setIfInBounds_toArray, List.set_cons_zero, List.set_cons_succ]
        refine wpAnyE_done (by kernel_rfl) ?_ _
        try clear hba
        try clear hz
        try clear hgF
        try clear hqc hfc hs8 hg8 hf8 hr8 hz8 hzz hww
        clear k2 k4 hsz1
        obtain ⟨FA, FFA, hfA, hsA, hgA, hrA, hzA, hleA, hnA⟩ := hin
        have HE : Hid (FDid F X w b ((m.into q.pk).into (m.iout q.pk)) pp w9) := Lib.hid ⟨FA, FFA, hfA.less fun k hk => .inl (.inl (.inl hk)), HS9.out.trans hsA HG9.out, HG9.out.trans hgA HS9.out.size⟩
        clear hfA hsA hgA hrA hzA hleA hnA
        by_cases hv2 : (m.into q.pk).ivd (m.iout q.pk) = 1
        · rw [hv2]
          go_wp2
          go_ret
          exact ⟨by unfold FM.pv3; rw [if_pos hv2]; rfl, HE.out⟩
        · have hv3 : ¬ (((m.into q.pk).ivd (m.iout q.pk) : Nat) : Int) = 1 := by omega
          go_wp2
          go_ret
          exact ⟨by unfold FM.pv3; rw [if_neg hv2]; rfl, HE.out⟩
      ·
        go_simp
        have hba := (Below.refl we.heap.size we).alloc (Nat.le_refl _) (.cells (List.toArray [.int .i64 0, .int .i64 0, .int .i64 0, .int .i64 0, .int .i64 0, .int .i64 0, .int .i64 0, .int .i64 0, .slice none 0 0]) 65)
        have hz := Bk.new we 65 [.int .i64 0, .int .i64 0, .int .i64 0, .int .i64 0, .int .i64 0, .int .i64 0, .int .i64 0, .int .i64 0, .slice none 0 0]
        replace hsz1 := hba.size
        replace hfc := hfc.box (g := we.heap.size) hba (Nat.le_refl _) (by simp)
        replace hqc := hqc.below hba
        refine hK2.out _ _ (Keep.below hba (fun k hk => by rw [hk]; exact HXC.out.lt)) ?_
        clear hK2 K2
        try simp only [Act.put, List.setIfInBounds_toArray, List.set_cons_zero, List.set_cons_succ]
        refine wpAnyE_one (i := 7) (by kernel_rfl) (by simp only [List.getElem?_toArray, List.getElem?_cons_succ, List.getElem?_cons_zero]; rfl) (fun K2 hK2 => ?_)
        go_simp
        refine (hfc.put HM2.out (by omega) hqc).mono ?_
        rintro e w8 ⟨q9, F8, FF8, rfl, hk8, hf8, hs8, hg8, hr8⟩
        rw [HKh.out] at hk8 hf8 ⊢
        have hz8 := hz.st hs8 hgF
        refine hK2.out _ _ (hs8.kp fun k hk => by rw [hk]; exact ⟨Nat.lt_of_lt_of_le HXC.out.lt hsz1, HnF.out⟩) ?_
        clear hK2 K2
        try simp only [Act.put, List.setIfInBounds_toArray, List.set_cons_zero, List.set_cons_succ]
        (refine takeE (Keep.tr (· = g9)) 8 (by simp only [List.getElem?_toArray, List.getElem?_cons_succ, List.getElem?_cons_zero]; rfl) (by kernel_rfl) (by kernel_rfl) (by kernel_rfl) (by exact fun _ _ _ h => h) (by first | (refine Or.inl ⟨by rfl, ?_⟩; intro W hW; go_simp; try with_reducible rfl) | exact Or.inr ⟨by rfl, rfl⟩) ?_; try simp only [Act.put, List.setIfInBounds_toArray, List.set_cons_zero, List.set_cons_succ])
        (refine takeE (Keep.tr (· = g9)) 9 (by simp only [List.getElem?_toArray, List.getElem?_cons_succ, List.getElem?_cons_zero]; rfl) (by kernel_rfl) (by kernel_rfl) (by kernel_rfl) (by exact fun _ _ _ h => h) (by first | (refine Or.inl ⟨by rfl, ?_⟩; intro W hW; go_simp; try with_reducible rfl) | exact Or.inr ⟨by rfl, rfl⟩) ?_; try simp only [Act.put, List.setIfInBounds_toArray, List.set_cons_zero, List.set_cons_succ])
        (refine takeE (Keep.tr (· = g9)) 10 (by simp only [List.getElem?_toArray, List.getElem?_cons_succ, List.getElem?_cons_zero]; rfl) (by kernel_rfl) (by kernel_rfl) (by kernel_rfl) (by exact fun _ _ _ h => h) (by first | (refine Or.inl ⟨by rfl, ?_⟩; intro W hW; go_simp; try with_reducible rfl) | exact Or.inr ⟨by rfl, rfl⟩) ?_; try simp only [Act.put, List.setIfInBounds_toArray, List.set_cons_zero, List.set_cons_succ])
        (refine takeE (Keep.tr (· = g9)) 12 (by simp only [List.getElem?_toArray, List.getElem?_cons_succ, List.getElem?_cons_zero]; rfl) (by kernel_rfl) (by kernel_rfl) (by kernel_rfl) (by exact fun _ _ _ h => h) (by first | (refine Or.inl ⟨by rfl, ?_⟩; intro W hW; go_simp; try with_reducible rfl) | exact Or.inr ⟨by rfl, rfl⟩) ?_; try simp only [Act.put, List.setIfInBounds_toArray, List.set_cons_zero, List.set_cons_succ])
        refine wpAnyE_one (i := 13) (by kernel_rfl) (by simp only [List.getElem?_toArray, List.getElem?_cons_succ, List.getElem?_cons_zero]; rfl) (fun K2 hK2 => ?_)
        refine opwp_put_pk rowP rfl (.tmp 8) (.tmp 33) rfl _ rfl hz8 (by rfl) q9 rfl ?_
        intro w9 hzz hww
        have hin := into_before HFD.out hf8 hs8 hg8 hr8 hww hzz
        refine hK2.out _ _ (Keep.setW hww (fun k hk => by rw [hk]; exact ⟨Nat.lt_of_lt_of_le HXC.out.lt (Nat.le_trans hba.size hs8.size), fun e => by have := HXC.out.lt; omega⟩)) ?_
        clear hK2 K2
        try simp only [Act.put, List.setIfInBounds_toArray, List.set_cons_zero, List.set_cons_succ]
        refine wpAnyE_done (by kernel_rfl) ?_ _
        try clear hba
        try clear hz
        try clear hgF
        try clear hqc hfc hs8 hg8 hf8 hr8 hz8 hzz hww
        clear k2 k4 hsz1
        obtain ⟨FA, FFA, hfA, hsA, hgA, hrA, hzA, hleA, hnA⟩ := hin
        have HE : Hid (FDid F X w b ((m.into q.pk).into (m.iout q.pk)) pp w9) := Lib.hid ⟨FA, FFA, hfA.less fun k hk => .inl (.inl (.inl hk)), HS9.out.trans hsA HG9.out, HG9.out.trans hgA HS9.out.size⟩
        clear hfA hsA hgA hrA hzA hleA hnA
        by_cases hv2 : (m.into q.pk).ivd (m.iout q.pk) = 1
        · rw [hv2]
          go_wp2
          go_ret
          exact ⟨by unfold FM.pv3; rw [if_pos hv2]; rfl, HE.out⟩
        · have hv3 : ¬ (((m.into q.pk).ivd (m.iout q.pk) : Nat) : Int) = 1 := by omega
          go_wp2
          go_ret
          exact ⟨by unfold FM.pv3; rw [if_neg hv2]; rfl, HE.out⟩
    ·
      go_simp
      have hba := (Below.refl we.heap.size we).alloc (Nat.le_refl _) (.cells (List.toArray [.int .i64 0, .int .i64 0, .int .i64 0, .int .i64 0, .int .i64 0, .int .i64 0, .int .i64 0, .int .i64 0, .slice none 0 0]) 65)
      have hz := Bk.new we 65 [.int .i64 0, .int .i64 0, .int .i64 0, .int .i64 0, .int .i64 0, .int .i64 0, .int .i64 0, .int .i64 0, .slice none 0 0]
      replace hsz1 := hba.size
      replace hfc := hfc.box (g := we.heap.size) hba (Nat.le_refl _) (by simp)
      replace hqc := hqc.below hba
      refine hK2.out _ _ (Keep.below hba (fun k hk => by rw [hk]; exact HXC.out.lt)) ?_
      clear hK2 K2
      try simp only [Act.put, List.setIfInBounds_toArray, List.set_cons_zero, List.set_cons_succ]
      refine wpAnyE_one (i := 5) (by kernel_rfl) (by simp only [List.getElem?_toArray, List.getElem?_cons_succ, List.getElem?_cons_zero]; rfl) (fun K2 hK2 => ?_)
      go_simp
      refine (f_at hfc.fp _ _).mono ?_
      rintro e wr ⟨rfl, rfl⟩
      refine hK2.out _ _ ((Keep.tr _).refl _) ?_
      clear hK2 K2
      try simp only [Act.put, List.setIfInBounds_toArray, List.set_cons_zero, List.set_cons_succ]
      refine wpAnyE_one (i := 7) (by kernel_rfl) (by simp only [List.getElem?_toArray, List.getElem?_cons_succ, List.getElem?_cons_zero]; rfl) (fun K2 hK2 => ?_)
      go_simp
      refine (hfc.put HM2.out (by omega) hqc).mono ?_
      rintro e w8 ⟨q9, F8, FF8, rfl, hk8, hf8, hs8, hg8, hr8⟩
      rw [HKh.out] at hk8 hf8 ⊢
      have hz8 := hz.st hs8 hgF
      refine hK2.out _ _ (hs8.kp fun k hk => by rw [hk]; exact ⟨Nat.lt_of_lt_of_le HXC.out.lt hsz1, HnF.out⟩) ?_
      clear hK2 K2
      try simp only [Act.put, List.setIfInBounds_toArray, List.set_cons_zero, List.set_cons_succ]
      (refine takeE (Keep.tr (· = g9)) 8 (by simp only [List.getElem?_toArray, List.getElem?_cons_succ, List.getElem?_cons_zero]; rfl) (by kernel_rfl) (by kernel_rfl) (by kernel_rfl) (by exact fun _ _ _ h => h) (by first | (refine Or.inl ⟨by rfl, ?_⟩; intro W hW; go_simp; try with_reducible rfl) | exact Or.inr ⟨by rfl, rfl⟩) ?_; try simp only [Act.put, List.setIfInBounds_toArray, List.set_cons_zero, List.set_cons_succ])
      (refine takeE (Keep.tr (· = g9)) 9 (by simp only [List.getElem?_toArray, List.getElem?_cons_succ, List.getElem?_cons_zero]; rfl) (by kernel_rfl) (by kernel_rfl) (by kernel_rfl) (by exact fun _ _ _ h => h) (by first | (refine Or.inl ⟨by rfl, ?_⟩; intro W hW; go_simp; try with_reducible rfl) | exact Or.inr ⟨by rfl, rfl⟩) ?_; try simp only [Act.put, List.setIfInBounds_toArray, List.set_cons_zero, List.set_cons_succ])
      (refine takeE (Keep.tr (· = g9)) 10 (by simp only [List.getElem?_toArray, List.getElem?_cons_succ, List.getElem?_cons_zero]; rfl) (by kernel_rfl) (by kernel_rfl) (by kernel_rfl) (by exact fun _ _ _ h => h) (by first | (refine Or.inl ⟨by rfl, ?_⟩; intro W hW; go_simp; try with_reducible rfl) | exact Or.inr ⟨by rfl, rfl⟩) ?_; try simp only [Act.put, List.setIfInBounds_toArray, List.set_cons_zero, List.set_cons_succ])
      (refine takeE (Keep.tr (· = g9)) 12 (by simp only [List.getElem?_toArray, List.getElem?_cons_succ, List.getElem?_cons_zero]; rfl) (by kernel_rfl) (by kernel_rfl) (by kernel_rfl) (by exact fun _ _ _ h => h) (by first | (refine Or.inl ⟨by rfl, ?_⟩; intro W hW; go_simp; try with_reducible rfl) | exact Or.inr ⟨by rfl, rfl⟩) ?_; try simp only [Act.put, List.setIfInBounds_toArray, List.set_cons_zero, List.set_cons_succ])
      refine wpAnyE_one (i := 13) (by kernel_rfl) (by simp only [List.getElem?_toArray, List.getElem?_cons_succ, List.getElem?_cons_zero]; rfl) (fun K2 hK2 => ?_)
      refine opwp_put_pk rowP rfl (.tmp 8) (.tmp 33) rfl _ rfl hz8 (by rfl) q9 rfl ?_
      intro w9 hzz hww
      have hin := into_before HFD.out hf8 hs8 hg8 hr8 hww hzz
      refine hK2.out _ _ (Keep.setW hww (fun k hk => by rw [hk]; exact ⟨Nat.lt_of_lt_of_le HXC.out.lt (Nat.le_trans hba.size hs8.size), fun e => by have := HXC.out.lt; omega⟩)) ?_
      clear hK2 K2
      try simp only [Act.put, List.setIfInBounds_toArray, List.set_cons_zero, List.set_cons_succ]
      refine wpAnyE_done (by kernel_rfl) ?_ _
      try clear hba
      try clear hz
      try clear hgF
      try clear hqc hfc hs8 hg8 hf8 hr8 hz8 hzz hww
      clear k2 k4 hsz1
      obtain ⟨FA, FFA, hfA, hsA, hgA, hrA, hzA, hleA, hnA⟩ := hin
      have HE : Hid (FDid F X w b ((m.into q.pk).into (m.iout q.pk)) pp w9) := Lib.hid ⟨FA, FFA, hfA.less fun k hk => .inl (.inl (.inl hk)), HS9.out.trans hsA HG9.out, HG9.out.trans hgA HS9.out.size⟩
      clear hfA hsA hgA hrA hzA hleA hnA
      by_cases hv2 : (m.into q.pk).ivd (m.iout q.pk) = 1
      · rw [hv2]
        go_wp2
        go_ret
        exact ⟨by unfold FM.pv3; rw [if_pos hv2]; rfl, HE.out⟩
      · have hv3 : ¬ (((m.into q.pk).ivd (m.iout q.pk) : Nat) : Int) = 1 := by omega
        go_wp2
        go_ret
        exact ⟨by unfold FM.pv3; rw [if_neg hv2]; rfl, HE.out⟩
/-- What becomes of one packet. -/
theorem f_put (h : FbC F X w b m pp FF) (hM : FMb m L H B) (hB : B + 2 ≤ 1000000) {q : Pv} (hq : PvR F w q) :
    Calls Try.prog 31 #[.pointer (some ⟨b, 0, none⟩), .agg #[.int .i64 q.h.kd, .int .i64 q.h.fl, .int .i64 q.h.pa, .int .i64 q.h.sr, .int .i64 q.h.ds, .int .i64 q.h.cn, .int .i64 q.h.sq, .int .i64 q.h.pu, .slice q.A q.n q.c]] w fun e w' => e = .returned (.int .i64 (m.pvd q.pk)) ∧ FDid F X w b (m.pnx q.pk) pp w' := by
  unfold FM.pvd FM.pnx
  by_cases hv : m.ivd q.pk = 3
  · rw [if_pos hv, if_pos hv]
    exact f_put3 h hM hB hq hv
  · rw [if_neg hv, if_neg hv]
    exact f_put1 h hM hB hq hv
end
end Go.Proofs.Ytboclbanccfbjaa
