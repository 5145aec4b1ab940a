/- Texts of this proof, put together: F30 -/
import Derived.Test.YtboclbanccfbjaaC7
import Derived.Deep.Cut
import Derived.Deep.CutRange
import Derived.Deep.CutBlock
namespace Go.Proofs.Ytboclbanccfbjaa
set_option linter.unusedSimpArgs false
set_option linter.unusedVariables false
set_option maxRecDepth 100000
open Go.RowKit Go.Shelf
theorem fit_nat {x : Int} (h : fitB x = true) : ∃ n : Nat, x = n ∧ 1 ≤ n ∧ n ≤ 1024 := by
  simp only [fitB, decide_eq_true_eq] at h
  exact ⟨x.toNat, by omega, by omega, by omega⟩
theorem same_refl {A B : Option Addr} {n c m d : Nat} {xs : List Int} {w : World} (h1 : RdV w A n c (intV xs)) (h2 : RdV w B m d (intV xs)) :
    Calls Try.prog 24 #[.slice A n c, .slice B m d] w fun e w' => e = .returned (.bool true) ∧ Below w.heap.size w w' := by
  have h := same_any A B n c m d xs xs w h1 h2
  rw [decide_eq_true rfl] at h
  exact h
set_option maxHeartbeats 32000000 in
theorem lawFRuns (hosts paths low high wt : Int) (ops : Sl OpT.den) (w : World) (h : (Ty.sl OpT).reads w ops) :
    Calls Try.prog 3 #[.int .i64 hosts, .int .i64 paths, .int .i64 low, .int .i64 high, .int .i64 wt, .slice ops.A ops.n ops.c] w fun e w' => e = .returned (.bool true) ∧ Below w.heap.size w w' := by
  have hnm : ops.n ≤ 9223372036854775807 := by have h := h.2; simp only [maxLen] at h; omega
  have HOp := Lib.hid (op_at h)
  obtain ⟨A0, n0, c0, l0⟩ := ops
  dsimp only at *
  clear h
  by_cases hok : dimB hosts paths = true ∧ fitB low = true ∧ fitB high = true ∧ fitB wt = true
  · obtain ⟨hd, h1, h2, h3⟩ := hok
    obtain ⟨d1, d2, d3, d4⟩ := dim_ok hd
    obtain ⟨hs, rfl⟩ := Int.eq_ofNat_of_zero_le (show (0 : Int) ≤ hosts by omega)
    obtain ⟨ps, rfl⟩ := Int.eq_ofNat_of_zero_le (show (0 : Int) ≤ paths by omega)
    obtain ⟨L, rfl, l1, l2⟩ := fit_nat h1
    obtain ⟨H, rfl, l3, l4⟩ := fit_nat h2
    obtain ⟨T, rfl, l5, l6⟩ := fit_nat h3
    have HFN := Lib.hid (f_new hs ps L H T w (by omega) (by omega) (by omega) (by omega) l1 l2 l3 l4 l5 l6)
    have HGN := Lib.hid (fun (W : World) => g_new hs ps L H T W (by omega) (by omega) (by omega) (by omega) h1 h2 h3)
    have HO0 := Lib.hid (FOk.new hs ps L H T (by omega) (by omega))
    have HLH := Lib.hid (And.intro l2 l4)
    obtain ⟨m0, hm0⟩ : ∃ m0, m0 = FM.new hs ps (AM.new L H T) := ⟨_, rfl⟩
    have hct0 : ∀ i, m0.ct i = 0 := by rw [hm0]; intro i; rfl
    rw [← hm0] at HFN HGN HO0
    have HCT := Lib.hid hct0
    clear hd h1 h2 h3 d1 d2 d3 d4 l1 l2 l3 l4 l5 l6 hm0 hct0
    go_enter Try.func3, Try.ntmps3
    go_upto_block 0 with (first
      | (go_at_call 6; refine HFN.out.mono ?_; rintro en w1 ⟨rfl, F, pp, FF, hf1, hF1, hb1⟩
         have H1 := Lib.hid (And.intro hf1 (And.intro hF1 hb1))
         clear hf1 hF1 hb1)
      | (go_at_call 7; refine (HGN.out _).mono ?_; rintro en w2 ⟨g, rfl, hg2, hb2⟩
         have H2 := Lib.hid (And.intro hg2 hb2)
         clear hg2 hb2)
      | (go_at_call 8; refine (p_awake _).mono ?_; rintro en w4 ⟨rfl, hb4⟩
         have H4 := Lib.hid hb4
         clear hb4))
    have hJ0 : JF w w.heap.size w2.heap.size hs ps m0 m0 g F pp FF w4 := by
      obtain ⟨hf1, hF1, hb1⟩ := H1.out
      obtain ⟨hg2, hb2⟩ := H2.out
      have hb4 := H4.out
      have hb3 : Below w2.heap.size w2 (w2.alloc (.cells ([.int .i64 hs, .int .i64 ps, .slice g.A g.n g.c, .int .i64 (z5.ct 0), .int .i64 (z5.ct 1), .int .i64 (z5.ct 2), .int .i64 (z5.ct 3), .int .i64 (z5.ct 4)] : List Value).toArray 30)) := (Below.refl _ _).alloc (Nat.le_refl _) _
      have hbx : Bk (w2.alloc (.cells ([.int .i64 hs, .int .i64 ps, .slice g.A g.n g.c, .int .i64 (z5.ct 0), .int .i64 (z5.ct 1), .int .i64 (z5.ct 2), .int .i64 (z5.ct 3), .int .i64 (z5.ct 4)] : List Value).toArray 30)) 30 w2.heap.size [.int .i64 hs, .int .i64 ps, .slice g.A g.n g.c, .int .i64 (z5.ct 0), .int .i64 (z5.ct 1), .int .i64 (z5.ct 2), .int .i64 (z5.ct 3), .int .i64 (z5.ct 4)] := Bk.new w2 _ _
      have hs1 := hb1.size
      have hs2 := hb2.size
      have hJ3 : JF w w.heap.size w2.heap.size hs ps m0 m0 g F pp FF (w2.alloc (.cells ([.int .i64 hs, .int .i64 ps, .slice g.A g.n g.c, .int .i64 (z5.ct 0), .int .i64 (z5.ct 1), .int .i64 (z5.ct 2), .int .i64 (z5.ct 3), .int .i64 (z5.ct 4)] : List Value).toArray 30)) := by
        refine ⟨(hf1.box (g := w2.heap.size) (below_on hb2 hb3) hb2.size (by rw [World.size_alloc]; omega)).less (fun k hk => .inr hk), hF1, below_on (below_on hb1 hb2) hb3, ?_, ?_, fun hf => by have := hf1.bd _ hf; omega, by omega⟩
        · exact (hg2 F (fun k hk => hf1.bd k hk)).st (St.ext hb3) (fun k hk => hk.imp id (fun e => Nat.le_of_eq e.symm))
        · have e : ([.int .i64 hs, .int .i64 ps, .slice g.A g.n g.c, .int .i64 (m0.ct 0), .int .i64 (m0.ct 1), .int .i64 (m0.ct 2), .int .i64 (m0.ct 3), .int .i64 (m0.ct 4)] : List Value) = [.int .i64 hs, .int .i64 ps, .slice g.A g.n g.c, .int .i64 (z5.ct 0), .int .i64 (z5.ct 1), .int .i64 (z5.ct 2), .int .i64 (z5.ct 3), .int .i64 (z5.ct 4)] := by rw [HCT.out 0, HCT.out 1, HCT.out 2, HCT.out 3, HCT.out 4]; rfl
          rw [e]
          exact hbx
      exact hJ3.below hb4
    have HJ0 := Lib.hid hJ0
    generalize w2.heap.size = gb at *
    clear hJ0 HFN HGN H1 H2 H4 HCT
    go_wp2_with fail
    go_loopw [13, 17] (fun fv iv wr => ∃ (i b : Nat) (m : FM) (g : GV) (F : Nat → Prop) (pp : Nat → Nat) (FF : Nat → Nat → Prop), iv = .int .i64 i ∧ i ≤ n0 ∧ i ≤ 60 ∧ fv = .pointer (some ⟨b, 0, none⟩) ∧ JF w b gb hs ps m m g F pp FF wr ∧ FOk m L H i) (fun _ iv _ => 60 - (intOf iv).toNat)
    case atStart => exact ⟨0, w.heap.size, m0, g, F, pp, FF, rfl, Nat.zero_le _, by omega, rfl, HJ0.out, HO0.out⟩
    case round =>
      clear HJ0 HO0
      obtain ⟨i, b, m, g, F, pp, FF, rfl, hin, hi60, rfl, hJ, hO⟩ := hrel
      have HJ := Lib.hid hJ
      have HO := Lib.hid hO
      clear hJ hO
      by_cases hc : i < n0 ∧ i < 60
      · obtain ⟨hlt, h60⟩ := hc
        have hlt' : (i : Int) < n0 := by omega
        have h60' : (i : Int) < 60 := by omega
        obtain ⟨go, o, dv, A, n, c, qs, p, q, f, hA, hg0, hra0, hdv, hraw⟩ := HOp.out i hlt
        obtain rfl : A0 = some ⟨go, o, none⟩ := hA
        have hra := range_below hra0 hg0 HJ.out.bl
        have HRaw := Lib.hid (fun (W : World) (hW : Below w.heap.size w W) => hraw.keep hW)
        clear hra0 hraw
        go_upto_block 2 with (first
          | (with_reducible refine at_load 37 (.tmp 79) (by rfl) ?_; refine wpList_load_op rowO rfl (.tmp 79) rfl dv A n c p q f go (o + i * 5) rfl hra ?_))
        obtain ⟨w5, hw5⟩ : ∃ W, W = wr.alloc (.cells (opL dv A n c p q f).toArray 37) := ⟨_, rfl⟩
        have hb5 : Below wr.heap.size wr w5 := by rw [hw5]; exact (Below.refl _ _).alloc (Nat.le_refl _) _
        have HX := Lib.hid (show Bk w5 37 wr.heap.size (opL dv A n c p q f) by rw [hw5]; exact Bk.new wr _ _)
        have HJ5 := Lib.hid (HJ.out.below hb5)
        have HGF : Hid (¬ Fg F gb wr.heap.size) := Lib.hid fun hf => Nat.lt_irrefl _ (HJ.out.lt _ hf).2
        have e5 : wr.alloc (.cells #[.int .u8 dv, .slice A n c, .int .i64 p, .int .i64 q, .int .i64 f] 37) = w5 := hw5.symm
        rw [e5]
        clear hra hw5 hb5 e5
        have hdv5 := hdv
        generalize wr.heap.size = bo at *
        go_cut [13] from 63 to 231 (fun fv W => ∃ (b : Nat) (m : FM) (g : GV) (F : Nat → Prop) (pp : Nat → Nat) (FF : Nat → Nat → Prop), fv = .pointer (some ⟨b, 0, none⟩) ∧ JF w b gb hs ps m m g F pp FF W ∧ FOk m L H (i + 1) ∧ Bk W 37 bo (opL dv A n c p q f))
        case first =>
          have HX0 := Lib.hid (HX.out.cell 0 rfl)
          rcases (by omega : ((dv : Int) % 5 = 0 ∨ (dv : Int) % 5 = 1) ∨ ((dv : Int) % 5 = 2 ∨ (dv : Int) % 5 = 3) ∨ (dv : Int) % 5 = 4) with h0 | h0 | h0
          · have HFwA := Lib.hid (fun (W : World) (hW : Below w.heap.size w W) => l_few (c := c) (HRaw.out W hW))
            generalize hks : fewL (qs.map Pv.pk) = ks at *
            have hk12 : ks.length ≤ 12 := by rw [← hks]; exact fewL_len _
            have HK12 := Lib.hid hk12
            have HO1 := Lib.hid (HO.out.put hk12)
            have HMC := Lib.hid (And.intro HO.out.b HO.out.c)
            have HPT : Hid (∀ W (g6 : GV) (mr : FM) A3 n3 c3, JF w b gb hs ps m mr g6 F pp FF W → SlP F W A3 n3 c3 ks → Calls Try.prog 11 #[.pointer (some ⟨b, 0, none⟩), .slice A3 n3 c3] W fun e w' => e = .returned (.agg (tabV 5 (m.puts ks).2).toArray) ∧ FDid F (· = gb) W b (m.puts ks).1 pp w') := Lib.hid (fun W g6 mr A3 n3 c3 hJ hs => f_Put hJ.fb HO.out.z HO.out.b HO.out.c (by have := hs.len; omega) hs)
            have HGP : Hid (∀ W X A3 n3 c3, GpR X W hs ps g m → SlP X W A3 n3 c3 ks → (∀ k, X k → k < W.heap.size) → Calls Try.prog 9 #[.agg #[.int .i64 hs, .int .i64 ps, .slice g.A g.n g.c, .int .i64 (m.ct 0), .int .i64 (m.ct 1), .int .i64 (m.ct 2), .int .i64 (m.ct 3), .int .i64 (m.ct 4)], .slice A3 n3 c3] W (GPutTo X W hs ps (m.puts ks).1 (m.puts ks).2)) := Lib.hid (fun W X A3 n3 c3 h1 h2 h3 => g_put h1 HO.out.b HO.out.c (by have := h2.len; omega) HLH.out.1 HLH.out.2 h2 h3)
            generalize (m.puts ks).1 = m1 at *
            generalize (m.puts ks).2 = t at *
            have HKS := Lib.hid hks
            clear hks hk12
            rcases h0 with h0 | h0
            all_goals as_aux_lemma =>
              have x0 := HX0.out
              go_upto_region 15 with fail
              go_cut [19, 20] from 63 to 231 (fun s19 s20 W => ∃ (b19 b20 : Nat) (g6 : GV), s19 = .pointer (some ⟨b19, 0, none⟩) ∧ s20 = .pointer (some ⟨b20, 0, none⟩) ∧ Bk W 30 b19 [.int .i64 hs, .int .i64 ps, .slice g6.A g6.n g6.c, .int .i64 (m1.ct 0), .int .i64 (m1.ct 1), .int .i64 (m1.ct 2), .int .i64 (m1.ct 3), .int .i64 (m1.ct 4)] ∧ Bk W 28 b20 (tabV 5 t) ∧ GpR (Fg F gb) W hs ps g6 m1 ∧ w5.heap.size ≤ b20 ∧ Below w5.heap.size w5 W)
              case first => as_aux_lemma =>
                refine wp_region_E (Below w5.heap.size) (by kernel_rfl) (fun wd hbd hsz => ?_)
                have hC : Below w5.heap.size w5 wd := hbd
                have HBD := Lib.hid hbd
                have q1 : ∀ W, Below w5.heap.size wd W → W.cell? ⟨bo, 1, none⟩ = some (.slice A n c) := fun W hW => (HX.out.below (HBD.out.trans hW)).cell 1 rfl
                have hn0 : w5.heap.size ≤ wd.heap.size := hbd.size
                have hX : ∀ k, Fg F gb k → k < wd.heap.size := fun k hk => Nat.lt_of_lt_of_le (HJ5.out.lt k hk).2 hbd.size
                have hoff : ∀ g, g < w.heap.size → ¬ Fg F gb g := fun k hl hk => by have := (HJ5.out.lt k hk).1; omega
                have hRP := HJ5.out.gp.below hbd
                have hsub : ∀ k, Fg F gb k → Fg F gb k := fun k hk => hk
                have HBW : Hid (w.heap.size ≤ w5.heap.size) := Lib.hid HJ5.out.bl.size
                clear hsz hbd
                (refine takeE (belowTr w5.heap.size) 0 (by simp only [List.getElem?_toArray, List.getElem?_cons_succ, List.getElem?_cons_zero]; rfl) (by kernel_rfl) (by kernel_rfl) (by kernel_rfl) (by exact fun _ _ _ h => h) (by first | (refine Or.inl ⟨by rfl, ?_⟩; intro W hW; exact exec_load_bk rowG (.tmp 15) rfl gb 0 rfl (HJ5.out.bx.below (HBD.out.trans hW)) [.int .i64 hs, .int .i64 ps, .slice g.A g.n g.c, .int .i64 (m.ct 0), .int .i64 (m.ct 1), .int .i64 (m.ct 2), .int .i64 (m.ct 3), .int .i64 (m.ct 4)] rfl rfl) | exact Or.inr ⟨by rfl, rfl⟩) ?_; try simp only [Act.put, List.setIfInBounds_toArray, List.set_cons_zero, List.set_cons_succ])
                (refine takeE (belowTr w5.heap.size) 1 (by simp only [List.getElem?_toArray, List.getElem?_cons_succ, List.getElem?_cons_zero]; rfl) (by kernel_rfl) (by kernel_rfl) (by kernel_rfl) (by exact fun _ _ _ h => h) (by first | (refine Or.inl ⟨by rfl, ?_⟩; intro W hW; go_simp; try with_reducible rfl) | exact Or.inr ⟨by rfl, rfl⟩) ?_; try simp only [Act.put, List.setIfInBounds_toArray, List.set_cons_zero, List.set_cons_succ])
                (refine takeE (belowTr w5.heap.size) 2 (by simp only [List.getElem?_toArray, List.getElem?_cons_succ, List.getElem?_cons_zero]; rfl) (by kernel_rfl) (by kernel_rfl) (by kernel_rfl) (by exact fun _ _ _ h => h) (by first | (refine Or.inl ⟨by rfl, ?_⟩; intro W hW; go_simp; try with_reducible rfl) | exact Or.inr ⟨by rfl, rfl⟩) ?_; try simp only [Act.put, List.setIfInBounds_toArray, List.set_cons_zero, List.set_cons_succ])
                refine wpAnyE_three (i := 3) (j := 8) (k := 9) (by kernel_rfl) (by simp only [List.getElem?_toArray, List.getElem?_cons_succ, List.getElem?_cons_zero]; rfl) (by simp only [List.getElem?_toArray, List.getElem?_cons_succ, List.getElem?_cons_zero]; rfl) (by simp only [List.getElem?_toArray, List.getElem?_cons_succ, List.getElem?_cons_zero]; rfl) (fun K hK => ?_) (fun K hK => ?_) (fun K hK => ?_)
                ·
                  go_simp
                  refine (HFwA.out _ (below_on HJ5.out.bl hC)).mono ?_
                  rintro e wf ⟨A3, n3, c3, rfl, hn3, hb, hs3⟩
                  rw [HKS.out] at hs3
                  clear hn3
                  have hsl := hs3 _ (fun k hk => ⟨Nat.le_of_not_lt (fun hl => hoff k hl hk), hX k hk⟩)
                  have hE := hb.mono hn0
                  have hC := hC.trans hE
                  have hn0 := Nat.le_trans hn0 hb.size
                  have hX := fun k hk => Nat.lt_of_lt_of_le (hX k hk) hb.size
                  have hRP := hRP.below hb
                  try have hz8 := hz8.below hb
                  try have hz9 := hz9.below hb
                  refine hK.out _ _ hE ?_
                  clear hK K
                  try simp only [Act.put, List.setIfInBounds_toArray, List.set_cons_zero, List.set_cons_succ]
                  refine wpAnyE_three (i := 4) (j := 8) (k := 9) (by kernel_rfl) (by simp only [List.getElem?_toArray, List.getElem?_cons_succ, List.getElem?_cons_zero]; rfl) (by simp only [List.getElem?_toArray, List.getElem?_cons_succ, List.getElem?_cons_zero]; rfl) (by simp only [List.getElem?_toArray, List.getElem?_cons_succ, List.getElem?_cons_zero]; rfl) (fun K hK => ?_) (fun K hK => ?_) (fun K hK => ?_)
                  ·
                    go_simp
                    refine (HGP.out _ _ _ _ _ hRP hsl hX).mono ?_
                    rintro e w6 ⟨g6, rfl, hr6, hb⟩
                    have hE := hb.mono hn0
                    have hC := hC.trans hE
                    have hn0 := Nat.le_trans hn0 hb.size
                    have hX := fun k hk => Nat.lt_of_lt_of_le (hX k hk) hb.size
                    have hRP := hRP.below hb
                    try have hz8 := hz8.below hb
                    try have hz9 := hz9.below hb
                    refine hK.out _ _ hE ?_
                    clear hK K
                    try simp only [Act.put, List.setIfInBounds_toArray, List.set_cons_zero, List.set_cons_succ]
                    (refine takeE (belowTr w5.heap.size) 5 (by simp only [List.getElem?_toArray, List.getElem?_cons_succ, List.getElem?_cons_zero]; rfl) (by kernel_rfl) (by kernel_rfl) (by kernel_rfl) (by exact fun _ _ _ h => h) (by first | (refine Or.inl ⟨by rfl, ?_⟩; intro W hW; go_simp; try with_reducible rfl) | exact Or.inr ⟨by rfl, rfl⟩) ?_; try simp only [Act.put, List.setIfInBounds_toArray, List.set_cons_zero, List.set_cons_succ])
                    (refine takeE (belowTr w5.heap.size) 6 (by simp only [List.getElem?_toArray, List.getElem?_cons_succ, List.getElem?_cons_zero]; rfl) (by kernel_rfl) (by kernel_rfl) (by kernel_rfl) (by exact fun _ _ _ h => h) (by first | (refine Or.inl ⟨by rfl, ?_⟩; intro W hW; go_simp; try with_reducible rfl) | exact Or.inr ⟨by rfl, rfl⟩) ?_; try simp only [Act.put, List.setIfInBounds_toArray, List.set_cons_zero, List.set_cons_succ])
                    (refine takeE (belowTr w5.heap.size) 7 (by simp only [List.getElem?_toArray, List.getElem?_cons_succ, List.getElem?_cons_zero]; rfl) (by kernel_rfl) (by kernel_rfl) (by kernel_rfl) (by exact fun _ _ _ h => h) (by first | (refine Or.inl ⟨by rfl, ?_⟩; intro W hW; go_simp; try with_reducible rfl) | exact Or.inr ⟨by rfl, rfl⟩) ?_; try simp only [Act.put, List.setIfInBounds_toArray, List.set_cons_zero, List.set_cons_succ])
                    refine wpAnyE_two (i := 8) (j := 9) (by kernel_rfl) (by simp only [List.getElem?_toArray, List.getElem?_cons_succ, List.getElem?_cons_zero]; rfl) (by simp only [List.getElem?_toArray, List.getElem?_cons_succ, List.getElem?_cons_zero]; rfl) (fun K hK => ?_) (fun K hK => ?_)
                    ·
                      go_simp
                      have hg8 := hn0
                      try have hne := Nat.ne_of_lt hz9.lt
                      obtain ⟨hz8, hx8, hC, hE, hb, hX, hn0, hgr, hoff, hup⟩ := al_new (B := w.heap.size) hC hn0 hX HBW.out hoff 30 [.int .i64 0, .int .i64 0, .slice none 0 0, .int .i64 0, .int .i64 0, .int .i64 0, .int .i64 0, .int .i64 0]
                      try have hz9 := hz9.below hb
                      try have hx9 := hup _ hx9
                      have hRP := hRP.st (St.ext hb) hgr
                      try have hsl := hsl.st (St.ext hb) hgr
                      try have hr6 := hr6.st (St.ext hb) hgr
                      have hsub := fun k hk => hup k (hsub k hk)
                      refine hK.out _ _ hE ?_
                      clear hK K
                      try simp only [Act.put, List.setIfInBounds_toArray, List.set_cons_zero, List.set_cons_succ]
                      refine wpAnyE_one (i := 9) (by kernel_rfl) (by simp only [List.getElem?_toArray, List.getElem?_cons_succ, List.getElem?_cons_zero]; rfl) (fun K hK => ?_)
                      go_simp
                      have hg9 := hn0
                      try have hne := Nat.ne_of_gt hz8.lt
                      obtain ⟨hz9, hx9, hC, hE, hb, hX, hn0, hgr, hoff, hup⟩ := al_new (B := w.heap.size) hC hn0 hX HBW.out hoff 28 [.int .i64 0, .int .i64 0, .int .i64 0, .int .i64 0, .int .i64 0]
                      try have hz8 := hz8.below hb
                      try have hx8 := hup _ hx8
                      have hRP := hRP.st (St.ext hb) hgr
                      try have hsl := hsl.st (St.ext hb) hgr
                      try have hr6 := hr6.st (St.ext hb) hgr
                      have hsub := fun k hk => hup k (hsub k hk)
                      refine hK.out _ _ hE ?_
                      clear hK K
                      try simp only [Act.put, List.setIfInBounds_toArray, List.set_cons_zero, List.set_cons_succ]
                      refine wpAnyE_one (i := 10) (by kernel_rfl) (by simp only [List.getElem?_toArray, List.getElem?_cons_succ, List.getElem?_cons_zero]; rfl) (fun K hK => ?_)
                      refine opwp_store_bk rowG rfl (.tmp 19) (.tmp 97) rfl _ 0 (by first | rfl | (simp only [World.size_alloc]; done) | (simp only [World.size_alloc]; rfl)) hz8 [.int .i64 hs, .int .i64 ps, .slice g6.A g6.n g6.c, .int .i64 (m1.ct 0), .int .i64 (m1.ct 1), .int .i64 (m1.ct 2), .int .i64 (m1.ct 3), .int .i64 (m1.ct 4)] rfl rfl (by decide) (one8 _ _ _ _ _ _ _ _ _ _) ?_
                      rintro w7 hz8 hw
                      have h9 := lay_all [.int .i64 0, .int .i64 0, .slice none 0 0, .int .i64 0, .int .i64 0, .int .i64 0, .int .i64 0, .int .i64 0] [.int .i64 hs, .int .i64 ps, .slice g6.A g6.n g6.c, .int .i64 (m1.ct 0), .int .i64 (m1.ct 1), .int .i64 (m1.ct 2), .int .i64 (m1.ct 3), .int .i64 (m1.ct 4)] rfl
                      rw [h9] at hz8
                      have hs := wr_st hw hx8
                      have hz9 := hz9.wr hw hne
                      have hE := hw.below hg8 hn0
                      have hC := hC.trans hE
                      have hn0 := Nat.le_trans hn0 hE.size
                      have hr6 := hr6.st hs (Gr.refl _ _)
                      refine hK.out _ _ hE ?_
                      clear hK K
                      try simp only [Act.put, List.setIfInBounds_toArray, List.set_cons_zero, List.set_cons_succ]
                      refine wpAnyE_one (i := 11) (by kernel_rfl) (by simp only [List.getElem?_toArray, List.getElem?_cons_succ, List.getElem?_cons_zero]; rfl) (fun K hK => ?_)
                      refine opwp_store_bk row5 rfl (.tmp 20) (.tmp 98) rfl _ 0 (by first | rfl | (simp only [World.size_alloc]; done) | (simp only [World.size_alloc]; rfl)) hz9 (tabV 5 t) rfl (tabV_len _ _) (by decide) (tabV_one _ _) ?_
                      rintro w8 hz9 hw
                      rw [lay_all _ _ (by rw [tabV_len]; rfl)] at hz9
                      have hs := wr_st hw hx9
                      have hz8 := hz8.wr hw (Ne.symm hne)
                      have hE := hw.below hg9 hn0
                      have hC := hC.trans hE
                      have hr6 := hr6.st hs (Gr.refl _ _)
                      refine hK.out _ _ hE ?_
                      clear hK K
                      try simp only [Act.put, List.setIfInBounds_toArray, List.set_cons_zero, List.set_cons_succ]
                      refine wpAnyE_done (by kernel_rfl) ?_ _
                      clear q1
                      go_wp2_with fail
                      go_meet
                      exact ⟨_, _, g6, by first | rfl | (simp only [World.size_alloc]; done) | (simp only [World.size_alloc]; rfl), by first | rfl | (simp only [World.size_alloc]; done) | (simp only [World.size_alloc]; rfl), hz8, hz9, hr6.mono hsub, hg9, hC⟩
                    ·
                      go_simp
                      have hg9 := hn0
                      try have hne := Nat.ne_of_gt hz8.lt
                      obtain ⟨hz9, hx9, hC, hE, hb, hX, hn0, hgr, hoff, hup⟩ := al_new (B := w.heap.size) hC hn0 hX HBW.out hoff 28 [.int .i64 0, .int .i64 0, .int .i64 0, .int .i64 0, .int .i64 0]
                      try have hz8 := hz8.below hb
                      try have hx8 := hup _ hx8
                      have hRP := hRP.st (St.ext hb) hgr
                      try have hsl := hsl.st (St.ext hb) hgr
                      try have hr6 := hr6.st (St.ext hb) hgr
                      have hsub := fun k hk => hup k (hsub k hk)
                      refine hK.out _ _ hE ?_
                      clear hK K
                      try simp only [Act.put, List.setIfInBounds_toArray, List.set_cons_zero, List.set_cons_succ]
                      refine wpAnyE_one (i := 8) (by kernel_rfl) (by simp only [List.getElem?_toArray, List.getElem?_cons_succ, List.getElem?_cons_zero]; rfl) (fun K hK => ?_)
                      go_simp
                      have hg8 := hn0
                      try have hne := Nat.ne_of_lt hz9.lt
                      obtain ⟨hz8, hx8, hC, hE, hb, hX, hn0, hgr, hoff, hup⟩ := al_new (B := w.heap.size) hC hn0 hX HBW.out hoff 30 [.int .i64 0, .int .i64 0, .slice none 0 0, .int .i64 0, .int .i64 0, .int .i64 0, .int .i64 0, .int .i64 0]
                      try have hz9 := hz9.below hb
                      try have hx9 := hup _ hx9
                      have hRP := hRP.st (St.ext hb) hgr
                      try have hsl := hsl.st (St.ext hb) hgr
                      try have hr6 := hr6.st (St.ext hb) hgr
                      have hsub := fun k hk => hup k (hsub k hk)
                      refine hK.out _ _ hE ?_
                      clear hK K
                      try simp only [Act.put, List.setIfInBounds_toArray, List.set_cons_zero, List.set_cons_succ]
                      refine wpAnyE_one (i := 10) (by kernel_rfl) (by simp only [List.getElem?_toArray, List.getElem?_cons_succ, List.getElem?_cons_zero]; rfl) (fun K hK => ?_)
                      refine opwp_store_bk rowG rfl (.tmp 19) (.tmp 97) rfl _ 0 (by first | rfl | (simp only [World.size_alloc]; done) | (simp only [World.size_alloc]; rfl)) hz8 [.int .i64 hs, .int .i64 ps, .slice g6.A g6.n g6.c, .int .i64 (m1.ct 0), .int .i64 (m1.ct 1), .int .i64 (m1.ct 2), .int .i64 (m1.ct 3), .int .i64 (m1.ct 4)] rfl rfl (by decide) (one8 _ _ _ _ _ _ _ _ _ _) ?_
                      rintro w7 hz8 hw
                      have h9 := lay_all [.int .i64 0, .int .i64 0, .slice none 0 0, .int .i64 0, .int .i64 0, .int .i64 0, .int .i64 0, .int .i64 0] [.int .i64 hs, .int .i64 ps, .slice g6.A g6.n g6.c, .int .i64 (m1.ct 0), .int .i64 (m1.ct 1), .int .i64 (m1.ct 2), .int .i64 (m1.ct 3), .int .i64 (m1.ct 4)] rfl
                      rw [h9] at hz8
                      have hs := wr_st hw hx8
                      have hz9 := hz9.wr hw hne
                      have hE := hw.below hg8 hn0
                      have hC := hC.trans hE
                      have hn0 := Nat.le_trans hn0 hE.size
                      have hr6 := hr6.st hs (Gr.refl _ _)
                      refine hK.out _ _ hE ?_
                      clear hK K
                      try simp only [Act.put, List.setIfInBounds_toArray, List.set_cons_zero, List.set_cons_succ]
                      refine wpAnyE_one (i := 11) (by kernel_rfl) (by simp only [List.getElem?_toArray, List.getElem?_cons_succ, List.getElem?_cons_zero]; rfl) (fun K hK => ?_)
                      refine opwp_store_bk row5 rfl (.tmp 20) (.tmp 98) rfl _ 0 (by first | rfl | (simp only [World.size_alloc]; done) | (simp only [World.size_alloc]; rfl)) hz9 (tabV 5 t) rfl (tabV_len _ _) (by decide) (tabV_one _ _) ?_
                      rintro w8 hz9 hw
                      rw [lay_all _ _ (by rw [tabV_len]; rfl)] at hz9
                      have hs := wr_st hw hx9
                      have hz8 := hz8.wr hw (Ne.symm hne)
                      have hE := hw.below hg9 hn0
                      have hC := hC.trans hE
                      have hr6 := hr6.st hs (Gr.refl _ _)
                      refine hK.out _ _ hE ?_
                      clear hK K
                      try simp only [Act.put, List.setIfInBounds_toArray, List.set_cons_zero, List.set_cons_succ]
                      refine wpAnyE_done (by kernel_rfl) ?_ _
                      clear q1
                      go_wp2_with fail
                      go_meet
                      exact ⟨_, _, g6, by first | rfl | (simp only [World.size_alloc]; done) | (simp only [World.size_alloc]; rfl), by first | rfl | (simp only [World.size_alloc]; done) | (simp only [World.size_alloc]; rfl), hz8, hz9, hr6.mono hsub, hg9, hC⟩
                  ·
                    go_simp
                    have hg8 := hn0
                    try have hne := Nat.ne_of_lt hz9.lt
                    obtain ⟨hz8, hx8, hC, hE, hb, hX, hn0, hgr, hoff, hup⟩ := al_new (B := w.heap.size) hC hn0 hX HBW.out hoff 30 [.int .i64 0, .int .i64 0, .slice none 0 0, .int .i64 0, .int .i64 0, .int .i64 0, .int .i64 0, .int .i64 0]
                    try have hz9 := hz9.below hb
                    try have hx9 := hup _ hx9
                    have hRP := hRP.st (St.ext hb) hgr
                    try have hsl := hsl.st (St.ext hb) hgr
                    try have hr6 := hr6.st (St.ext hb) hgr
                    have hsub := fun k hk => hup k (hsub k hk)
                    refine hK.out _ _ hE ?_
                    clear hK K
                    try simp only [Act.put, List.setIfInBounds_toArray, List.set_cons_zero, List.set_cons_succ]
                    refine wpAnyE_two (i := 4) (j := 9) (by kernel_rfl) (by simp only [List.getElem?_toArray, List.getElem?_cons_succ, List.getElem?_cons_zero]; rfl) (by simp only [List.getElem?_toArray, List.getElem?_cons_succ, List.getElem?_cons_zero]; rfl) (fun K hK => ?_) (fun K hK => ?_)
                    ·
                      go_simp
                      refine (HGP.out _ _ _ _ _ hRP hsl hX).mono ?_
                      rintro e w6 ⟨g6, rfl, hr6, hb⟩
                      have hE := hb.mono hn0
                      have hC := hC.trans hE
                      have hn0 := Nat.le_trans hn0 hb.size
                      have hX := fun k hk => Nat.lt_of_lt_of_le (hX k hk) hb.size
                      have hRP := hRP.below hb
                      try have hz8 := hz8.below hb
                      try have hz9 := hz9.below hb
                      refine hK.out _ _ hE ?_
                      clear hK K
                      try simp only [Act.put, List.setIfInBounds_toArray, List.set_cons_zero, List.set_cons_succ]
                      (refine takeE (belowTr w5.heap.size) 5 (by simp only [List.getElem?_toArray, List.getElem?_cons_succ, List.getElem?_cons_zero]; rfl) (by kernel_rfl) (by kernel_rfl) (by kernel_rfl) (by exact fun _ _ _ h => h) (by first | (refine Or.inl ⟨by rfl, ?_⟩; intro W hW; go_simp; try with_reducible rfl) | exact Or.inr ⟨by rfl, rfl⟩) ?_; try simp only [Act.put, List.setIfInBounds_toArray, List.set_cons_zero, List.set_cons_succ])
                      (refine takeE (belowTr w5.heap.size) 6 (by simp only [List.getElem?_toArray, List.getElem?_cons_succ, List.getElem?_cons_zero]; rfl) (by kernel_rfl) (by kernel_rfl) (by kernel_rfl) (by exact fun _ _ _ h => h) (by first | (refine Or.inl ⟨by rfl, ?_⟩; intro W hW; go_simp; try with_reducible rfl) | exact Or.inr ⟨by rfl, rfl⟩) ?_; try simp only [Act.put, List.setIfInBounds_toArray, List.set_cons_zero, List.set_cons_succ])
                      (refine takeE (belowTr w5.heap.size) 7 (by simp only [List.getElem?_toArray, List.getElem?_cons_succ, List.getElem?_cons_zero]; rfl) (by kernel_rfl) (by kernel_rfl) (by kernel_rfl) (by exact fun _ _ _ h => h) (by first | (refine Or.inl ⟨by rfl, ?_⟩; intro W hW; go_simp; try with_reducible rfl) | exact Or.inr ⟨by rfl, rfl⟩) ?_; try simp only [Act.put, List.setIfInBounds_toArray, List.set_cons_zero, List.set_cons_succ])
                      refine wpAnyE_one (i := 9) (by kernel_rfl) (by simp only [List.getElem?_toArray, List.getElem?_cons_succ, List.getElem?_cons_zero]; rfl) (fun K hK => ?_)
                      go_simp
                      have hg9 := hn0
                      try have hne := Nat.ne_of_gt hz8.lt
                      obtain ⟨hz9, hx9, hC, hE, hb, hX, hn0, hgr, hoff, hup⟩ := al_new (B := w.heap.size) hC hn0 hX HBW.out hoff 28 [.int .i64 0, .int .i64 0, .int .i64 0, .int .i64 0, .int .i64 0]
                      try have hz8 := hz8.below hb
                      try have hx8 := hup _ hx8
                      have hRP := hRP.st (St.ext hb) hgr
                      try have hsl := hsl.st (St.ext hb) hgr
                      try have hr6 := hr6.st (St.ext hb) hgr
                      have hsub := fun k hk => hup k (hsub k hk)
                      refine hK.out _ _ hE ?_
                      clear hK K
                      try simp only [Act.put, List.setIfInBounds_toArray, List.set_cons_zero, List.set_cons_succ]
                      refine wpAnyE_one (i := 10) (by kernel_rfl) (by simp only [List.getElem?_toArray, List.getElem?_cons_succ, List.getElem?_cons_zero]; rfl) (fun K hK => ?_)
                      refine opwp_store_bk rowG rfl (.tmp 19) (.tmp 97) rfl _ 0 (by first | rfl | (simp only [World.size_alloc]; done) | (simp only [World.size_alloc]; rfl)) hz8 [.int .i64 hs, .int .i64 ps, .slice g6.A g6.n g6.c, .int .i64 (m1.ct 0), .int .i64 (m1.ct 1), .int .i64 (m1.ct 2), .int .i64 (m1.ct 3), .int .i64 (m1.ct 4)] rfl rfl (by decide) (one8 _ _ _ _ _ _ _ _ _ _) ?_
                      rintro w7 hz8 hw
                      have h9 := lay_all [.int .i64 0, .int .i64 0, .slice none 0 0, .int .i64 0, .int .i64 0, .int .i64 0, .int .i64 0, .int .i64 0] [.int .i64 hs, .int .i64 ps, .slice g6.A g6.n g6.c, .int .i64 (m1.ct 0), .int .i64 (m1.ct 1), .int .i64 (m1.ct 2), .int .i64 (m1.ct 3), .int .i64 (m1.ct 4)] rfl
                      rw [h9] at hz8
                      have hs := wr_st hw hx8
                      have hz9 := hz9.wr hw hne
                      have hE := hw.below hg8 hn0
                      have hC := hC.trans hE
                      have hn0 := Nat.le_trans hn0 hE.size
                      have hr6 := hr6.st hs (Gr.refl _ _)
                      refine hK.out _ _ hE ?_
                      clear hK K
                      try simp only [Act.put, List.setIfInBounds_toArray, List.set_cons_zero, List.set_cons_succ]
                      refine wpAnyE_one (i := 11) (by kernel_rfl) (by simp only [List.getElem?_toArray, List.getElem?_cons_succ, List.getElem?_cons_zero]; rfl) (fun K hK => ?_)
                      refine opwp_store_bk row5 rfl (.tmp 20) (.tmp 98) rfl _ 0 (by first | rfl | (simp only [World.size_alloc]; done) | (simp only [World.size_alloc]; rfl)) hz9 (tabV 5 t) rfl (tabV_len _ _) (by decide) (tabV_one _ _) ?_
                      rintro w8 hz9 hw
                      rw [lay_all _ _ (by rw [tabV_len]; rfl)] at hz9
                      have hs := wr_st hw hx9
                      have hz8 := hz8.wr hw (Ne.symm hne)
                      have hE := hw.below hg9 hn0
                      have hC := hC.trans hE
                      have hr6 := hr6.st hs (Gr.refl _ _)
                      refine hK.out _ _ hE ?_
                      clear hK K
                      try simp only [Act.put, List.setIfInBounds_toArray, List.set_cons_zero, List.set_cons_succ]
                      refine wpAnyE_done (by kernel_rfl) ?_ _
                      clear q1
                      go_wp2_with fail
                      go_meet
                      exact ⟨_, _, g6, by first | rfl | (simp only [World.size_alloc]; done) | (simp only [World.size_alloc]; rfl), by first | rfl | (simp only [World.size_alloc]; done) | (simp only [World.size_alloc]; rfl), hz8, hz9, hr6.mono hsub, hg9, hC⟩
                    ·
                      go_simp
                      have hg9 := hn0
                      try have hne := Nat.ne_of_gt hz8.lt
                      obtain ⟨hz9, hx9, hC, hE, hb, hX, hn0, hgr, hoff, hup⟩ := al_new (B := w.heap.size) hC hn0 hX HBW.out hoff 28 [.int .i64 0, .int .i64 0, .int .i64 0, .int .i64 0, .int .i64 0]
                      try have hz8 := hz8.below hb
                      try have hx8 := hup _ hx8
                      have hRP := hRP.st (St.ext hb) hgr
                      try have hsl := hsl.st (St.ext hb) hgr
                      try have hr6 := hr6.st (St.ext hb) hgr
                      have hsub := fun k hk => hup k (hsub k hk)
                      refine hK.out _ _ hE ?_
                      clear hK K
                      try simp only [Act.put, List.setIfInBounds_toArray, List.set_cons_zero, List.set_cons_succ]
                      refine wpAnyE_one (i := 4) (by kernel_rfl) (by simp only [List.getElem?_toArray, List.getElem?_cons_succ, List.getElem?_cons_zero]; rfl) (fun K hK => ?_)
                      go_simp
                      refine (HGP.out _ _ _ _ _ hRP hsl hX).mono ?_
                      rintro e w6 ⟨g6, rfl, hr6, hb⟩
                      have hE := hb.mono hn0
                      have hC := hC.trans hE
                      have hn0 := Nat.le_trans hn0 hb.size
                      have hX := fun k hk => Nat.lt_of_lt_of_le (hX k hk) hb.size
                      have hRP := hRP.below hb
                      try have hz8 := hz8.below hb
                      try have hz9 := hz9.below hb
                      refine hK.out _ _ hE ?_
                      clear hK K
                      try simp only [Act.put, List.setIfInBounds_toArray, List.set_cons_zero, List.set_cons_succ]
                      (refine takeE (belowTr w5.heap.size) 5 (by simp only [List.getElem?_toArray, List.getElem?_cons_succ, List.getElem?_cons_zero]; rfl) (by kernel_rfl) (by kernel_rfl) (by kernel_rfl) (by exact fun _ _ _ h => h) (by first | (refine Or.inl ⟨by rfl, ?_⟩; intro W hW; go_simp; try with_reducible rfl) | exact Or.inr ⟨by rfl, rfl⟩) ?_; try simp only [Act.put, List.setIfInBounds_toArray, List.set_cons_zero, List.set_cons_succ])
                      (refine takeE (belowTr w5.heap.size) 6 (by simp only [List.getElem?_toArray, List.getElem?_cons_succ, List.getElem?_cons_zero]; rfl) (by kernel_rfl) (by kernel_rfl) (by kernel_rfl) (by exact fun _ _ _ h => h) (by first | (refine Or.inl ⟨by rfl, ?_⟩; intro W hW; go_simp; try with_reducible rfl) | exact Or.inr ⟨by rfl, rfl⟩) ?_; try simp only [Act.put, List.setIfInBounds_toArray, List.set_cons_zero, List.set_cons_succ])
                      (refine takeE (belowTr w5.heap.size) 7 (by simp only [List.getElem?_toArray, List.getElem?_cons_succ, List.getElem?_cons_zero]; rfl) (by kernel_rfl) (by kernel_rfl) (by kernel_rfl) (by exact fun _ _ _ h => h) (by first | (refine Or.inl ⟨by rfl, ?_⟩; intro W hW; go_simp; try with_reducible rfl) | exact Or.inr ⟨by rfl, rfl⟩) ?_; try simp only [Act.put, List.setIfInBounds_toArray, List.set_cons_zero, List.set_cons_succ])
                      refine wpAnyE_one (i := 10) (by kernel_rfl) (by simp only [List.getElem?_toArray, List.getElem?_cons_succ, List.getElem?_cons_zero]; rfl) (fun K hK => ?_)
                      refine opwp_store_bk rowG rfl (.tmp 19) (.tmp 97) rfl _ 0 (by first | rfl | (simp only [World.size_alloc]; done) | (simp only [World.size_alloc]; rfl)) hz8 [.int .i64 hs, .int .i64 ps, .slice g6.A g6.n g6.c, .int .i64 (m1.ct 0), .int .i64 (m1.ct 1), .int .i64 (m1.ct 2), .int .i64 (m1.ct 3), .int .i64 (m1.ct 4)] rfl rfl (by decide) (one8 _ _ _ _ _ _ _ _ _ _) ?_
                      rintro w7 hz8 hw
                      have h9 := lay_all [.int .i64 0, .int .i64 0, .slice none 0 0, .int .i64 0, .int .i64 0, .int .i64 0, .int .i64 0, .int .i64 0] [.int .i64 hs, .int .i64 ps, .slice g6.A g6.n g6.c, .int .i64 (m1.ct 0), .int .i64 (m1.ct 1), .int .i64 (m1.ct 2), .int .i64 (m1.ct 3), .int .i64 (m1.ct 4)] rfl
                      rw [h9] at hz8
                      have hs := wr_st hw hx8
                      have hz9 := hz9.wr hw hne
                      have hE := hw.below hg8 hn0
                      have hC := hC.trans hE
                      have hn0 := Nat.le_trans hn0 hE.size
                      have hr6 := hr6.st hs (Gr.refl _ _)
                      refine hK.out _ _ hE ?_
                      clear hK K
                      try simp only [Act.put, List.setIfInBounds_toArray, List.set_cons_zero, List.set_cons_succ]
                      refine wpAnyE_one (i := 11) (by kernel_rfl) (by simp only [List.getElem?_toArray, List.getElem?_cons_succ, List.getElem?_cons_zero]; rfl) (fun K hK => ?_)
                      refine opwp_store_bk row5 rfl (.tmp 20) (.tmp 98) rfl _ 0 (by first | rfl | (simp only [World.size_alloc]; done) | (simp only [World.size_alloc]; rfl)) hz9 (tabV 5 t) rfl (tabV_len _ _) (by decide) (tabV_one _ _) ?_
                      rintro w8 hz9 hw
                      rw [lay_all _ _ (by rw [tabV_len]; rfl)] at hz9
                      have hs := wr_st hw hx9
                      have hz8 := hz8.wr hw (Ne.symm hne)
                      have hE := hw.below hg9 hn0
                      have hC := hC.trans hE
                      have hr6 := hr6.st hs (Gr.refl _ _)
                      refine hK.out _ _ hE ?_
                      clear hK K
                      try simp only [Act.put, List.setIfInBounds_toArray, List.set_cons_zero, List.set_cons_succ]
                      refine wpAnyE_done (by kernel_rfl) ?_ _
                      clear q1
                      go_wp2_with fail
                      go_meet
                      exact ⟨_, _, g6, by first | rfl | (simp only [World.size_alloc]; done) | (simp only [World.size_alloc]; rfl), by first | rfl | (simp only [World.size_alloc]; done) | (simp only [World.size_alloc]; rfl), hz8, hz9, hr6.mono hsub, hg9, hC⟩
                  ·
                    go_simp
                    have hg9 := hn0
                    try have hne := Nat.ne_of_gt hz8.lt
                    obtain ⟨hz9, hx9, hC, hE, hb, hX, hn0, hgr, hoff, hup⟩ := al_new (B := w.heap.size) hC hn0 hX HBW.out hoff 28 [.int .i64 0, .int .i64 0, .int .i64 0, .int .i64 0, .int .i64 0]
                    try have hz8 := hz8.below hb
                    try have hx8 := hup _ hx8
                    have hRP := hRP.st (St.ext hb) hgr
                    try have hsl := hsl.st (St.ext hb) hgr
                    try have hr6 := hr6.st (St.ext hb) hgr
                    have hsub := fun k hk => hup k (hsub k hk)
                    refine hK.out _ _ hE ?_
                    clear hK K
                    try simp only [Act.put, List.setIfInBounds_toArray, List.set_cons_zero, List.set_cons_succ]
                    refine wpAnyE_two (i := 4) (j := 8) (by kernel_rfl) (by simp only [List.getElem?_toArray, List.getElem?_cons_succ, List.getElem?_cons_zero]; rfl) (by simp only [List.getElem?_toArray, List.getElem?_cons_succ, List.getElem?_cons_zero]; rfl) (fun K hK => ?_) (fun K hK => ?_)
                    ·
                      go_simp
                      refine (HGP.out _ _ _ _ _ hRP hsl hX).mono ?_
                      rintro e w6 ⟨g6, rfl, hr6, hb⟩
                      have hE := hb.mono hn0
                      have hC := hC.trans hE
                      have hn0 := Nat.le_trans hn0 hb.size
                      have hX := fun k hk => Nat.lt_of_lt_of_le (hX k hk) hb.size
                      have hRP := hRP.below hb
                      try have hz8 := hz8.below hb
                      try have hz9 := hz9.below hb
                      refine hK.out _ _ hE ?_
                      clear hK K
                      try simp only [Act.put, List.setIfInBounds_toArray, List.set_cons_zero, List.set_cons_succ]
                      (refine takeE (belowTr w5.heap.size) 5 (by simp only [List.getElem?_toArray, List.getElem?_cons_succ, List.getElem?_cons_zero]; rfl) (by kernel_rfl) (by kernel_rfl) (by kernel_rfl) (by exact fun _ _ _ h => h) (by first | (refine Or.inl ⟨by rfl, ?_⟩; intro W hW; go_simp; try with_reducible rfl) | exact Or.inr ⟨by rfl, rfl⟩) ?_; try simp only [Act.put, List.setIfInBounds_toArray, List.set_cons_zero, List.set_cons_succ])
                      (refine takeE (belowTr w5.heap.size) 6 (by simp only [List.getElem?_toArray, List.getElem?_cons_succ, List.getElem?_cons_zero]; rfl) (by kernel_rfl) (by kernel_rfl) (by kernel_rfl) (by exact fun _ _ _ h => h) (by first | (refine Or.inl ⟨by rfl, ?_⟩; intro W hW; go_simp; try with_reducible rfl) | exact Or.inr ⟨by rfl, rfl⟩) ?_; try simp only [Act.put, List.setIfInBounds_toArray, List.set_cons_zero, List.set_cons_succ])
                      (refine takeE (belowTr w5.heap.size) 7 (by simp only [List.getElem?_toArray, List.getElem?_cons_succ, List.getElem?_cons_zero]; rfl) (by kernel_rfl) (by kernel_rfl) (by kernel_rfl) (by exact fun _ _ _ h => h) (by first | (refine Or.inl ⟨by rfl, ?_⟩; intro W hW; go_simp; try with_reducible rfl) | exact Or.inr ⟨by rfl, rfl⟩) ?_; try simp only [Act.put, List.setIfInBounds_toArray, List.set_cons_zero, List.set_cons_succ])
                      refine wpAnyE_one (i := 8) (by kernel_rfl) (by simp only [List.getElem?_toArray, List.getElem?_cons_succ, List.getElem?_cons_zero]; rfl) (fun K hK => ?_)
                      go_simp
                      have hg8 := hn0
                      try have hne := Nat.ne_of_lt hz9.lt
                      obtain ⟨hz8, hx8, hC, hE, hb, hX, hn0, hgr, hoff, hup⟩ := al_new (B := w.heap.size) hC hn0 hX HBW.out hoff 30 [.int .i64 0, .int .i64 0, .slice none 0 0, .int .i64 0, .int .i64 0, .int .i64 0, .int .i64 0, .int .i64 0]
                      try have hz9 := hz9.below hb
                      try have hx9 := hup _ hx9
                      have hRP := hRP.st (St.ext hb) hgr
                      try have hsl := hsl.st (St.ext hb) hgr
                      try have hr6 := hr6.st (St.ext hb) hgr
                      have hsub := fun k hk => hup k (hsub k hk)
                      refine hK.out _ _ hE ?_
                      clear hK K
                      try simp only [Act.put, List.setIfInBounds_toArray, List.set_cons_zero, List.set_cons_succ]
                      refine wpAnyE_one (i := 10) (by kernel_rfl) (by simp only [List.getElem?_toArray, List.getElem?_cons_succ, List.getElem?_cons_zero]; rfl) (fun K hK => ?_)
                      refine opwp_store_bk rowG rfl (.tmp 19) (.tmp 97) rfl _ 0 (by first | rfl | (simp only [World.size_alloc]; done) | (simp only [World.size_alloc]; rfl)) hz8 [.int .i64 hs, .int .i64 ps, .slice g6.A g6.n g6.c, .int .i64 (m1.ct 0), .int .i64 (m1.ct 1), .int .i64 (m1.ct 2), .int .i64 (m1.ct 3), .int .i64 (m1.ct 4)] rfl rfl (by decide) (one8 _ _ _ _ _ _ _ _ _ _) ?_
                      rintro w7 hz8 hw
                      have h9 := lay_all [.int .i64 0, .int .i64 0, .slice none 0 0, .int .i64 0, .int .i64 0, .int .i64 0, .int .i64 0, .int .i64 0] [.int .i64 hs, .int .i64 ps, .slice g6.A g6.n g6.c, .int .i64 (m1.ct 0), .int .i64 (m1.ct 1), .int .i64 (m1.ct 2), .int .i64 (m1.ct 3), .int .i64 (m1.ct 4)] rfl
                      rw [h9] at hz8
                      have hs := wr_st hw hx8
                      have hz9 := hz9.wr hw hne
                      have hE := hw.below hg8 hn0
                      have hC := hC.trans hE
                      have hn0 := Nat.le_trans hn0 hE.size
                      have hr6 := hr6.st hs (Gr.refl _ _)
                      refine hK.out _ _ hE ?_
                      clear hK K
                      try simp only [Act.put, List.setIfInBounds_toArray, List.set_cons_zero, List.set_cons_succ]
                      refine wpAnyE_one (i := 11) (by kernel_rfl) (by simp only [List.getElem?_toArray, List.getElem?_cons_succ, List.getElem?_cons_zero]; rfl) (fun K hK => ?_)
                      refine opwp_store_bk row5 rfl (.tmp 20) (.tmp 98) rfl _ 0 (by first | rfl | (simp only [World.size_alloc]; done) | (simp only [World.size_alloc]; rfl)) hz9 (tabV 5 t) rfl (tabV_len _ _) (by decide) (tabV_one _ _) ?_
                      rintro w8 hz9 hw
                      rw [lay_all _ _ (by rw [tabV_len]; rfl)] at hz9
                      have hs := wr_st hw hx9
                      have hz8 := hz8.wr hw (Ne.symm hne)
                      have hE := hw.below hg9 hn0
                      have hC := hC.trans hE
                      have hr6 := hr6.st hs (Gr.refl _ _)
                      refine hK.out _ _ hE ?_
                      clear hK K
                      try simp only [Act.put, List.setIfInBounds_toArray, List.set_cons_zero, List.set_cons_succ]
                      refine wpAnyE_done (by kernel_rfl) ?_ _
                      clear q1
                      go_wp2_with fail
                      go_meet
                      exact ⟨_, _, g6, by first | rfl | (simp only [World.size_alloc]; done) | (simp only [World.size_alloc]; rfl), by first | rfl | (simp only [World.size_alloc]; done) | (simp only [World.size_alloc]; rfl), hz8, hz9, hr6.mono hsub, hg9, hC⟩
                    ·
                      go_simp
                      have hg8 := hn0
                      try have hne := Nat.ne_of_lt hz9.lt
                      obtain ⟨hz8, hx8, hC, hE, hb, hX, hn0, hgr, hoff, hup⟩ := al_new (B := w.heap.size) hC hn0 hX HBW.out hoff 30 [.int .i64 0, .int .i64 0, .slice none 0 0, .int .i64 0, .int .i64 0, .int .i64 0, .int .i64 0, .int .i64 0]
                      try have hz9 := hz9.below hb
                      try have hx9 := hup _ hx9
                      have hRP := hRP.st (St.ext hb) hgr
                      try have hsl := hsl.st (St.ext hb) hgr
                      try have hr6 := hr6.st (St.ext hb) hgr
                      have hsub := fun k hk => hup k (hsub k hk)
                      refine hK.out _ _ hE ?_
                      clear hK K
                      try simp only [Act.put, List.setIfInBounds_toArray, List.set_cons_zero, List.set_cons_succ]
                      refine wpAnyE_one (i := 4) (by kernel_rfl) (by simp only [List.getElem?_toArray, List.getElem?_cons_succ, List.getElem?_cons_zero]; rfl) (fun K hK => ?_)
                      go_simp
                      refine (HGP.out _ _ _ _ _ hRP hsl hX).mono ?_
                      rintro e w6 ⟨g6, rfl, hr6, hb⟩
                      have hE := hb.mono hn0
                      have hC := hC.trans hE
                      have hn0 := Nat.le_trans hn0 hb.size
                      have hX := fun k hk => Nat.lt_of_lt_of_le (hX k hk) hb.size
                      have hRP := hRP.below hb
                      try have hz8 := hz8.below hb
                      try have hz9 := hz9.below hb
                      refine hK.out _ _ hE ?_
                      clear hK K
                      try simp only [Act.put, List.setIfInBounds_toArray, List.set_cons_zero, List.set_cons_succ]
                      (refine takeE (belowTr w5.heap.size) 5 (by simp only [List.getElem?_toArray, List.getElem?_cons_succ, List.getElem?_cons_zero]; rfl) (by kernel_rfl) (by kernel_rfl) (by kernel_rfl) (by exact fun _ _ _ h => h) (by first | (refine Or.inl ⟨by rfl, ?_⟩; intro W hW; go_simp; try with_reducible rfl) | exact Or.inr ⟨by rfl, rfl⟩) ?_; try simp only [Act.put, List.setIfInBounds_toArray, List.set_cons_zero, List.set_cons_succ])
                      (refine takeE (belowTr w5.heap.size) 6 (by simp only [List.getElem?_toArray, List.getElem?_cons_succ, List.getElem?_cons_zero]; rfl) (by kernel_rfl) (by kernel_rfl) (by kernel_rfl) (by exact fun _ _ _ h => h) (by first | (refine Or.inl ⟨by rfl, ?_⟩; intro W hW; go_simp; try with_reducible rfl) | exact Or.inr ⟨by rfl, rfl⟩) ?_; try simp only [Act.put, List.setIfInBounds_toArray, List.set_cons_zero, List.set_cons_succ])
                      (refine takeE (belowTr w5.heap.size) 7 (by simp only [List.getElem?_toArray, List.getElem?_cons_succ, List.getElem?_cons_zero]; rfl) (by kernel_rfl) (by kernel_rfl) (by kernel_rfl) (by exact fun _ _ _ h => h) (by first | (refine Or.inl ⟨by rfl, ?_⟩; intro W hW; go_simp; try with_reducible rfl) | exact Or.inr ⟨by rfl, rfl⟩) ?_; try simp only [Act.put, List.setIfInBounds_toArray, List.set_cons_zero, List.set_cons_succ])
                      refine wpAnyE_one (i := 10) (by kernel_rfl) (by simp only [List.getElem?_toArray, List.getElem?_cons_succ, List.getElem?_cons_zero]; rfl) (fun K hK => ?_)
                      refine opwp_store_bk rowG rfl (.tmp 19) (.tmp 97) rfl _ 0 (by first | rfl | (simp only [World.size_alloc]; done) | (simp only [World.size_alloc]; rfl)) hz8 [.int .i64 hs, .int .i64 ps, .slice g6.A g6.n g6.c, .int .i64 (m1.ct 0), .int .i64 (m1.ct 1), .int .i64 (m1.ct 2), .int .i64 (m1.ct 3), .int .i64 (m1.ct 4)] rfl rfl (by decide) (one8 _ _ _ _ _ _ _ _ _ _) ?_
                      rintro w7 hz8 hw
                      have h9 := lay_all [.int .i64 0, .int .i64 0, .slice none 0 0, .int .i64 0, .int .i64 0, .int .i64 0, .int .i64 0, .int .i64 0] [.int .i64 hs, .int .i64 ps, .slice g6.A g6.n g6.c, .int .i64 (m1.ct 0), .int .i64 (m1.ct 1), .int .i64 (m1.ct 2), .int .i64 (m1.ct 3), .int .i64 (m1.ct 4)] rfl
                      rw [h9] at hz8
                      have hs := wr_st hw hx8
                      have hz9 := hz9.wr hw hne
                      have hE := hw.below hg8 hn0
                      have hC := hC.trans hE
                      have hn0 := Nat.le_trans hn0 hE.size
                      have hr6 := hr6.st hs (Gr.refl _ _)
                      refine hK.out _ _ hE ?_
                      clear hK K
                      try simp only [Act.put, List.setIfInBounds_toArray, List.set_cons_zero, List.set_cons_succ]
                      refine wpAnyE_one (i := 11) (by kernel_rfl) (by simp only [List.getElem?_toArray, List.getElem?_cons_succ, List.getElem?_cons_zero]; rfl) (fun K hK => ?_)
                      refine opwp_store_bk row5 rfl (.tmp 20) (.tmp 98) rfl _ 0 (by first | rfl | (simp only [World.size_alloc]; done) | (simp only [World.size_alloc]; rfl)) hz9 (tabV 5 t) rfl (tabV_len _ _) (by decide) (tabV_one _ _) ?_
                      rintro w8 hz9 hw
                      rw [lay_all _ _ (by rw [tabV_len]; rfl)] at hz9
                      have hs := wr_st hw hx9
                      have hz8 := hz8.wr hw (Ne.symm hne)
                      have hE := hw.below hg9 hn0
                      have hC := hC.trans hE
                      have hr6 := hr6.st hs (Gr.refl _ _)
                      refine hK.out _ _ hE ?_
                      clear hK K
                      try simp only [Act.put, List.setIfInBounds_toArray, List.set_cons_zero, List.set_cons_succ]
                      refine wpAnyE_done (by kernel_rfl) ?_ _
                      clear q1
                      go_wp2_with fail
                      go_meet
                      exact ⟨_, _, g6, by first | rfl | (simp only [World.size_alloc]; done) | (simp only [World.size_alloc]; rfl), by first | rfl | (simp only [World.size_alloc]; done) | (simp only [World.size_alloc]; rfl), hz8, hz9, hr6.mono hsub, hg9, hC⟩
                ·
                  go_simp
                  have hg8 := hn0
                  try have hne := Nat.ne_of_lt hz9.lt
                  obtain ⟨hz8, hx8, hC, hE, hb, hX, hn0, hgr, hoff, hup⟩ := al_new (B := w.heap.size) hC hn0 hX HBW.out hoff 30 [.int .i64 0, .int .i64 0, .slice none 0 0, .int .i64 0, .int .i64 0, .int .i64 0, .int .i64 0, .int .i64 0]
                  try have hz9 := hz9.below hb
                  try have hx9 := hup _ hx9
                  have hRP := hRP.st (St.ext hb) hgr
                  try have hsl := hsl.st (St.ext hb) hgr
                  try have hr6 := hr6.st (St.ext hb) hgr
                  have hsub := fun k hk => hup k (hsub k hk)
                  refine hK.out _ _ hE ?_
                  clear hK K
                  try simp only [Act.put, List.setIfInBounds_toArray, List.set_cons_zero, List.set_cons_succ]
                  refine wpAnyE_two (i := 3) (j := 9) (by kernel_rfl) (by simp only [List.getElem?_toArray, List.getElem?_cons_succ, List.getElem?_cons_zero]; rfl) (by simp only [List.getElem?_toArray, List.getElem?_cons_succ, List.getElem?_cons_zero]; rfl) (fun K hK => ?_) (fun K hK => ?_)
                  ·
                    go_simp
                    refine (HFwA.out _ (below_on HJ5.out.bl hC)).mono ?_
                    rintro e wf ⟨A3, n3, c3, rfl, hn3, hb, hs3⟩
                    rw [HKS.out] at hs3
                    clear hn3
                    have hsl := hs3 _ (fun k hk => ⟨Nat.le_of_not_lt (fun hl => hoff k hl hk), hX k hk⟩)
                    have hE := hb.mono hn0
                    have hC := hC.trans hE
                    have hn0 := Nat.le_trans hn0 hb.size
                    have hX := fun k hk => Nat.lt_of_lt_of_le (hX k hk) hb.size
                    have hRP := hRP.below hb
                    try have hz8 := hz8.below hb
                    try have hz9 := hz9.below hb
                    refine hK.out _ _ hE ?_
                    clear hK K
                    try simp only [Act.put, List.setIfInBounds_toArray, List.set_cons_zero, List.set_cons_succ]
                    refine wpAnyE_two (i := 4) (j := 9) (by kernel_rfl) (by simp only [List.getElem?_toArray, List.getElem?_cons_succ, List.getElem?_cons_zero]; rfl) (by simp only [List.getElem?_toArray, List.getElem?_cons_succ, List.getElem?_cons_zero]; rfl) (fun K hK => ?_) (fun K hK => ?_)
                    ·
                      go_simp
                      refine (HGP.out _ _ _ _ _ hRP hsl hX).mono ?_
                      rintro e w6 ⟨g6, rfl, hr6, hb⟩
                      have hE := hb.mono hn0
                      have hC := hC.trans hE
                      have hn0 := Nat.le_trans hn0 hb.size
                      have hX := fun k hk => Nat.lt_of_lt_of_le (hX k hk) hb.size
                      have hRP := hRP.below hb
                      try have hz8 := hz8.below hb
                      try have hz9 := hz9.below hb
                      refine hK.out _ _ hE ?_
                      clear hK K
                      try simp only [Act.put, List.setIfInBounds_toArray, List.set_cons_zero, List.set_cons_succ]
                      (refine takeE (belowTr w5.heap.size) 5 (by simp only [List.getElem?_toArray, List.getElem?_cons_succ, List.getElem?_cons_zero]; rfl) (by kernel_rfl) (by kernel_rfl) (by kernel_rfl) (by exact fun _ _ _ h => h) (by first | (refine Or.inl ⟨by rfl, ?_⟩; intro W hW; go_simp; try with_reducible rfl) | exact Or.inr ⟨by rfl, rfl⟩) ?_; try simp only [Act.put, List.setIfInBounds_toArray, List.set_cons_zero, List.set_cons_succ])
                      (refine takeE (belowTr w5.heap.size) 6 (by simp only [List.getElem?_toArray, List.getElem?_cons_succ, List.getElem?_cons_zero]; rfl) (by kernel_rfl) (by kernel_rfl) (by kernel_rfl) (by exact fun _ _ _ h => h) (by first | (refine Or.inl ⟨by rfl, ?_⟩; intro W hW; go_simp; try with_reducible rfl) | exact Or.inr ⟨by rfl, rfl⟩) ?_; try simp only [Act.put, List.setIfInBounds_toArray, List.set_cons_zero, List.set_cons_succ])
                      (refine takeE (belowTr w5.heap.size) 7 (by simp only [List.getElem?_toArray, List.getElem?_cons_succ, List.getElem?_cons_zero]; rfl) (by kernel_rfl) (by kernel_rfl) (by kernel_rfl) (by exact fun _ _ _ h => h) (by first | (refine Or.inl ⟨by rfl, ?_⟩; intro W hW; go_simp; try with_reducible rfl) | exact Or.inr ⟨by rfl, rfl⟩) ?_; try simp only [Act.put, List.setIfInBounds_toArray, List.set_cons_zero, List.set_cons_succ])
                      refine wpAnyE_one (i := 9) (by kernel_rfl) (by simp only [List.getElem?_toArray, List.getElem?_cons_succ, List.getElem?_cons_zero]; rfl) (fun K hK => ?_)
                      go_simp
                      have hg9 := hn0
                      try have hne := Nat.ne_of_gt hz8.lt
                      obtain ⟨hz9, hx9, hC, hE, hb, hX, hn0, hgr, hoff, hup⟩ := al_new (B := w.heap.size) hC hn0 hX HBW.out hoff 28 [.int .i64 0, .int .i64 0, .int .i64 0, .int .i64 0, .int .i64 0]
                      try have hz8 := hz8.below hb
                      try have hx8 := hup _ hx8
                      have hRP := hRP.st (St.ext hb) hgr
                      try have hsl := hsl.st (St.ext hb) hgr
                      try have hr6 := hr6.st (St.ext hb) hgr
                      have hsub := fun k hk => hup k (hsub k hk)
                      refine hK.out _ _ hE ?_
                      clear hK K
                      try simp only [Act.put, List.setIfInBounds_toArray, List.set_cons_zero, List.set_cons_succ]
                      refine wpAnyE_one (i := 10) (by kernel_rfl) (by simp only [List.getElem?_toArray, List.getElem?_cons_succ, List.getElem?_cons_zero]; rfl) (fun K hK => ?_)
                      refine opwp_store_bk rowG rfl (.tmp 19) (.tmp 97) rfl _ 0 (by first | rfl | (simp only [World.size_alloc]; done) | (simp only [World.size_alloc]; rfl)) hz8 [.int .i64 hs, .int .i64 ps, .slice g6.A g6.n g6.c, .int .i64 (m1.ct 0), .int .i64 (m1.ct 1), .int .i64 (m1.ct 2), .int .i64 (m1.ct 3), .int .i64 (m1.ct 4)] rfl rfl (by decide) (one8 _ _ _ _ _ _ _ _ _ _) ?_
                      rintro w7 hz8 hw
                      have h9 := lay_all [.int .i64 0, .int .i64 0, .slice none 0 0, .int .i64 0, .int .i64 0, .int .i64 0, .int .i64 0, .int .i64 0] [.int .i64 hs, .int .i64 ps, .slice g6.A g6.n g6.c, .int .i64 (m1.ct 0), .int .i64 (m1.ct 1), .int .i64 (m1.ct 2), .int .i64 (m1.ct 3), .int .i64 (m1.ct 4)] rfl
                      rw [h9] at hz8
                      have hs := wr_st hw hx8
                      have hz9 := hz9.wr hw hne
                      have hE := hw.below hg8 hn0
                      have hC := hC.trans hE
                      have hn0 := Nat.le_trans hn0 hE.size
                      have hr6 := hr6.st hs (Gr.refl _ _)
                      refine hK.out _ _ hE ?_
                      clear hK K
                      try simp only [Act.put, List.setIfInBounds_toArray, List.set_cons_zero, List.set_cons_succ]
                      refine wpAnyE_one (i := 11) (by kernel_rfl) (by simp only [List.getElem?_toArray, List.getElem?_cons_succ, List.getElem?_cons_zero]; rfl) (fun K hK => ?_)
                      refine opwp_store_bk row5 rfl (.tmp 20) (.tmp 98) rfl _ 0 (by first | rfl | (simp only [World.size_alloc]; done) | (simp only [World.size_alloc]; rfl)) hz9 (tabV 5 t) rfl (tabV_len _ _) (by decide) (tabV_one _ _) ?_
                      rintro w8 hz9 hw
                      rw [lay_all _ _ (by rw [tabV_len]; rfl)] at hz9
                      have hs := wr_st hw hx9
                      have hz8 := hz8.wr hw (Ne.symm hne)
                      have hE := hw.below hg9 hn0
                      have hC := hC.trans hE
                      have hr6 := hr6.st hs (Gr.refl _ _)
                      refine hK.out _ _ hE ?_
                      clear hK K
                      try simp only [Act.put, List.setIfInBounds_toArray, List.set_cons_zero, List.set_cons_succ]
                      refine wpAnyE_done (by kernel_rfl) ?_ _
                      clear q1
                      go_wp2_with fail
                      go_meet
                      exact ⟨_, _, g6, by first | rfl | (simp only [World.size_alloc]; done) | (simp only [World.size_alloc]; rfl), by first | rfl | (simp only [World.size_alloc]; done) | (simp only [World.size_alloc]; rfl), hz8, hz9, hr6.mono hsub, hg9, hC⟩
                    ·
                      go_simp
                      have hg9 := hn0
                      try have hne := Nat.ne_of_gt hz8.lt
                      obtain ⟨hz9, hx9, hC, hE, hb, hX, hn0, hgr, hoff, hup⟩ := al_new (B := w.heap.size) hC hn0 hX HBW.out hoff 28 [.int .i64 0, .int .i64 0, .int .i64 0, .int .i64 0, .int .i64 0]
                      try have hz8 := hz8.below hb
                      try have hx8 := hup _ hx8
                      have hRP := hRP.st (St.ext hb) hgr
                      try have hsl := hsl.st (St.ext hb) hgr
                      try have hr6 := hr6.st (St.ext hb) hgr
                      have hsub := fun k hk => hup k (hsub k hk)
                      refine hK.out _ _ hE ?_
                      clear hK K
                      try simp only [Act.put, List.setIfInBounds_toArray, List.set_cons_zero, List.set_cons_succ]
                      refine wpAnyE_one (i := 4) (by kernel_rfl) (by simp only [List.getElem?_toArray, List.getElem?_cons_succ, List.getElem?_cons_zero]; rfl) (fun K hK => ?_)
                      go_simp
                      refine (HGP.out _ _ _ _ _ hRP hsl hX).mono ?_
                      rintro e w6 ⟨g6, rfl, hr6, hb⟩
                      have hE := hb.mono hn0
                      have hC := hC.trans hE
                      have hn0 := Nat.le_trans hn0 hb.size
                      have hX := fun k hk => Nat.lt_of_lt_of_le (hX k hk) hb.size
                      have hRP := hRP.below hb
                      try have hz8 := hz8.below hb
                      try have hz9 := hz9.below hb
                      refine hK.out _ _ hE ?_
                      clear hK K
                      try simp only [Act.put, List.setIfInBounds_toArray, List.set_cons_zero, List.set_cons_succ]
                      (refine takeE (belowTr w5.heap.size) 5 (by simp only [List.getElem?_toArray, List.getElem?_cons_succ, List.getElem?_cons_zero]; rfl) (by kernel_rfl) (by kernel_rfl) (by kernel_rfl) (by exact fun _ _ _ h => h) (by first | (refine Or.inl ⟨by rfl, ?_⟩; intro W hW; go_simp; try with_reducible rfl) | exact Or.inr ⟨by rfl, rfl⟩) ?_; try simp only [Act.put, List.setIfInBounds_toArray, List.set_cons_zero, List.set_cons_succ])
                      (refine takeE (belowTr w5.heap.size) 6 (by simp only [List.getElem?_toArray, List.getElem?_cons_succ, List.getElem?_cons_zero]; rfl) (by kernel_rfl) (by kernel_rfl) (by kernel_rfl) (by exact fun _ _ _ h => h) (by first | (refine Or.inl ⟨by rfl, ?_⟩; intro W hW; go_simp; try with_reducible rfl) | exact Or.inr ⟨by rfl, rfl⟩) ?_; try simp only [Act.put, List.setIfInBounds_toArray, List.set_cons_zero, List.set_cons_succ])
                      (refine takeE (belowTr w5.heap.size) 7 (by simp only [List.getElem?_toArray, List.getElem?_cons_succ, List.getElem?_cons_zero]; rfl) (by kernel_rfl) (by kernel_rfl) (by kernel_rfl) (by exact fun _ _ _ h => h) (by first | (refine Or.inl ⟨by rfl, ?_⟩; intro W hW; go_simp; try with_reducible rfl) | exact Or.inr ⟨by rfl, rfl⟩) ?_; try simp only [Act.put, List.setIfInBounds_toArray, List.set_cons_zero, List.set_cons_succ])
                      refine wpAnyE_one (i := 10) (by kernel_rfl) (by simp only [List.getElem?_toArray, List.getElem?_cons_succ, List.getElem?_cons_zero]; rfl) (fun K hK => ?_)
                      refine opwp_store_bk rowG rfl (.tmp 19) (.tmp 97) rfl _ 0 (by first | rfl | (simp only [World.size_alloc]; done) | (simp only [World.size_alloc]; rfl)) hz8 [.int .i64 hs, .int .i64 ps, .slice g6.A g6.n g6.c, .int .i64 (m1.ct 0), .int .i64 (m1.ct 1), .int .i64 (m1.ct 2), .int .i64 (m1.ct 3), .int .i64 (m1.ct 4)] rfl rfl (by decide) (one8 _ _ _ _ _ _ _ _ _ _) ?_
                      rintro w7 hz8 hw
                      have h9 := lay_all [.int .i64 0, .int .i64 0, .slice none 0 0, .int .i64 0, .int .i64 0, .int .i64 0, .int .i64 0, .int .i64 0] [.int .i64 hs, .int .i64 ps, .slice g6.A g6.n g6.c, .int .i64 (m1.ct 0), .int .i64 (m1.ct 1), .int .i64 (m1.ct 2), .int .i64 (m1.ct 3), .int .i64 (m1.ct 4)] rfl
                      rw [h9] at hz8
                      have hs := wr_st hw hx8
                      have hz9 := hz9.wr hw hne
                      have hE := hw.below hg8 hn0
                      have hC := hC.trans hE
                      have hn0 := Nat.le_trans hn0 hE.size
                      have hr6 := hr6.st hs (Gr.refl _ _)
                      refine hK.out _ _ hE ?_
                      clear hK K
                      try simp only [Act.put, List.setIfInBounds_toArray, List.set_cons_zero, List.set_cons_succ]
                      refine wpAnyE_one (i := 11) (by kernel_rfl) (by simp only [List.getElem?_toArray, List.getElem?_cons_succ, List.getElem?_cons_zero]; rfl) (fun K hK => ?_)
                      refine opwp_store_bk row5 rfl (.tmp 20) (.tmp 98) rfl _ 0 (by first | rfl | (simp only [World.size_alloc]; done) | (simp only [World.size_alloc]; rfl)) hz9 (tabV 5 t) rfl (tabV_len _ _) (by decide) (tabV_one _ _) ?_
                      rintro w8 hz9 hw
                      rw [lay_all _ _ (by rw [tabV_len]; rfl)] at hz9
                      have hs := wr_st hw hx9
                      have hz8 := hz8.wr hw (Ne.symm hne)
                      have hE := hw.below hg9 hn0
                      have hC := hC.trans hE
                      have hr6 := hr6.st hs (Gr.refl _ _)
                      refine hK.out _ _ hE ?_
                      clear hK K
                      try simp only [Act.put, List.setIfInBounds_toArray, List.set_cons_zero, List.set_cons_succ]
                      refine wpAnyE_done (by kernel_rfl) ?_ _
                      clear q1
                      go_wp2_with fail
                      go_meet
                      exact ⟨_, _, g6, by first | rfl | (simp only [World.size_alloc]; done) | (simp only [World.size_alloc]; rfl), by first | rfl | (simp only [World.size_alloc]; done) | (simp only [World.size_alloc]; rfl), hz8, hz9, hr6.mono hsub, hg9, hC⟩
                  ·
                    go_simp
                    have hg9 := hn0
                    try have hne := Nat.ne_of_gt hz8.lt
                    obtain ⟨hz9, hx9, hC, hE, hb, hX, hn0, hgr, hoff, hup⟩ := al_new (B := w.heap.size) hC hn0 hX HBW.out hoff 28 [.int .i64 0, .int .i64 0, .int .i64 0, .int .i64 0, .int .i64 0]
                    try have hz8 := hz8.below hb
                    try have hx8 := hup _ hx8
                    have hRP := hRP.st (St.ext hb) hgr
                    try have hsl := hsl.st (St.ext hb) hgr
                    try have hr6 := hr6.st (St.ext hb) hgr
                    have hsub := fun k hk => hup k (hsub k hk)
                    refine hK.out _ _ hE ?_
                    clear hK K
                    try simp only [Act.put, List.setIfInBounds_toArray, List.set_cons_zero, List.set_cons_succ]
                    refine wpAnyE_one (i := 3) (by kernel_rfl) (by simp only [List.getElem?_toArray, List.getElem?_cons_succ, List.getElem?_cons_zero]; rfl) (fun K hK => ?_)
                    go_simp
                    refine (HFwA.out _ (below_on HJ5.out.bl hC)).mono ?_
                    rintro e wf ⟨A3, n3, c3, rfl, hn3, hb, hs3⟩
                    rw [HKS.out] at hs3
                    clear hn3
                    have hsl := hs3 _ (fun k hk => ⟨Nat.le_of_not_lt (fun hl => hoff k hl hk), hX k hk⟩)
                    have hE := hb.mono hn0
                    have hC := hC.trans hE
                    have hn0 := Nat.le_trans hn0 hb.size
                    have hX := fun k hk => Nat.lt_of_lt_of_le (hX k hk) hb.size
                    have hRP := hRP.below hb
                    try have hz8 := hz8.below hb
                    try have hz9 := hz9.below hb
                    refine hK.out _ _ hE ?_
                    clear hK K
                    try simp only [Act.put, List.setIfInBounds_toArray, List.set_cons_zero, List.set_cons_succ]
                    refine wpAnyE_one (i := 4) (by kernel_rfl) (by simp only [List.getElem?_toArray, List.getElem?_cons_succ, List.getElem?_cons_zero]; rfl) (fun K hK => ?_)
                    go_simp
                    refine (HGP.out _ _ _ _ _ hRP hsl hX).mono ?_
                    rintro e w6 ⟨g6, rfl, hr6, hb⟩
                    have hE := hb.mono hn0
                    have hC := hC.trans hE
                    have hn0 := Nat.le_trans hn0 hb.size
                    have hX := fun k hk => Nat.lt_of_lt_of_le (hX k hk) hb.size
                    have hRP := hRP.below hb
                    try have hz8 := hz8.below hb
                    try have hz9 := hz9.below hb
                    refine hK.out _ _ hE ?_
                    clear hK K
                    try simp only [Act.put, List.setIfInBounds_toArray, List.set_cons_zero, List.set_cons_succ]
                    (refine takeE (belowTr w5.heap.size) 5 (by simp only [List.getElem?_toArray, List.getElem?_cons_succ, List.getElem?_cons_zero]; rfl) (by kernel_rfl) (by kernel_rfl) (by kernel_rfl) (by exact fun _ _ _ h => h) (by first | (refine Or.inl ⟨by rfl, ?_⟩; intro W hW; go_simp; try with_reducible rfl) | exact Or.inr ⟨by rfl, rfl⟩) ?_; try simp only [Act.put, List.setIfInBounds_toArray, List.set_cons_zero, List.set_cons_succ])
                    (refine takeE (belowTr w5.heap.size) 6 (by simp only [List.getElem?_toArray, List.getElem?_cons_succ, List.getElem?_cons_zero]; rfl) (by kernel_rfl) (by kernel_rfl) (by kernel_rfl) (by exact fun _ _ _ h => h) (by first | (refine Or.inl ⟨by rfl, ?_⟩; intro W hW; go_simp; try with_reducible rfl) | exact Or.inr ⟨by rfl, rfl⟩) ?_; try simp only [Act.put, List.setIfInBounds_toArray, List.set_cons_zero, List.set_cons_succ])
                    (refine takeE (belowTr w5.heap.size) 7 (by simp only [List.getElem?_toArray, List.getElem?_cons_succ, List.getElem?_cons_zero]; rfl) (by kernel_rfl) (by kernel_rfl) (by kernel_rfl) (by exact fun _ _ _ h => h) (by first | (refine Or.inl ⟨by rfl, ?_⟩; intro W hW; go_simp; try with_reducible rfl) | exact Or.inr ⟨by rfl, rfl⟩) ?_; try simp only [Act.put, List.setIfInBounds_toArray, List.set_cons_zero, List.set_cons_succ])
                    refine wpAnyE_one (i := 10) (by kernel_rfl) (by simp only [List.getElem?_toArray, List.getElem?_cons_succ, List.getElem?_cons_zero]; rfl) (fun K hK => ?_)
                    refine opwp_store_bk rowG rfl (.tmp 19) (.tmp 97) rfl _ 0 (by first | rfl | (simp only [World.size_alloc]; done) | (simp only [World.size_alloc]; rfl)) hz8 [.int .i64 hs, .int .i64 ps, .slice g6.A g6.n g6.c, .int .i64 (m1.ct 0), .int .i64 (m1.ct 1), .int .i64 (m1.ct 2), .int .i64 (m1.ct 3), .int .i64 (m1.ct 4)] rfl rfl (by decide) (one8 _ _ _ _ _ _ _ _ _ _) ?_
                    rintro w7 hz8 hw
                    have h9 := lay_all [.int .i64 0, .int .i64 0, .slice none 0 0, .int .i64 0, .int .i64 0, .int .i64 0, .int .i64 0, .int .i64 0] [.int .i64 hs, .int .i64 ps, .slice g6.A g6.n g6.c, .int .i64 (m1.ct 0), .int .i64 (m1.ct 1), .int .i64 (m1.ct 2), .int .i64 (m1.ct 3), .int .i64 (m1.ct 4)] rfl
                    rw [h9] at hz8
                    have hs := wr_st hw hx8
                    have hz9 := hz9.wr hw hne
                    have hE := hw.below hg8 hn0
                    have hC := hC.trans hE
                    have hn0 := Nat.le_trans hn0 hE.size
                    have hr6 := hr6.st hs (Gr.refl _ _)
                    refine hK.out _ _ hE ?_
                    clear hK K
                    try simp only [Act.put, List.setIfInBounds_toArray, List.set_cons_zero, List.set_cons_succ]
                    refine wpAnyE_one (i := 11) (by kernel_rfl) (by simp only [List.getElem?_toArray, List.getElem?_cons_succ, List.getElem?_cons_zero]; rfl) (fun K hK => ?_)
                    refine opwp_store_bk row5 rfl (.tmp 20) (.tmp 98) rfl _ 0 (by first | rfl | (simp only [World.size_alloc]; done) | (simp only [World.size_alloc]; rfl)) hz9 (tabV 5 t) rfl (tabV_len _ _) (by decide) (tabV_one _ _) ?_
                    rintro w8 hz9 hw
                    rw [lay_all _ _ (by rw [tabV_len]; rfl)] at hz9
                    have hs := wr_st hw hx9
                    have hz8 := hz8.wr hw (Ne.symm hne)
                    have hE := hw.below hg9 hn0
                    have hC := hC.trans hE
                    have hr6 := hr6.st hs (Gr.refl _ _)
                    refine hK.out _ _ hE ?_
                    clear hK K
                    try simp only [Act.put, List.setIfInBounds_toArray, List.set_cons_zero, List.set_cons_succ]
                    refine wpAnyE_done (by kernel_rfl) ?_ _
                    clear q1
                    go_wp2_with fail
                    go_meet
                    exact ⟨_, _, g6, by first | rfl | (simp only [World.size_alloc]; done) | (simp only [World.size_alloc]; rfl), by first | rfl | (simp only [World.size_alloc]; done) | (simp only [World.size_alloc]; rfl), hz8, hz9, hr6.mono hsub, hg9, hC⟩
                ·
                  go_simp
                  have hg9 := hn0
                  try have hne := Nat.ne_of_gt hz8.lt
                  obtain ⟨hz9, hx9, hC, hE, hb, hX, hn0, hgr, hoff, hup⟩ := al_new (B := w.heap.size) hC hn0 hX HBW.out hoff 28 [.int .i64 0, .int .i64 0, .int .i64 0, .int .i64 0, .int .i64 0]
                  try have hz8 := hz8.below hb
                  try have hx8 := hup _ hx8
                  have hRP := hRP.st (St.ext hb) hgr
                  try have hsl := hsl.st (St.ext hb) hgr
                  try have hr6 := hr6.st (St.ext hb) hgr
                  have hsub := fun k hk => hup k (hsub k hk)
                  refine hK.out _ _ hE ?_
                  clear hK K
                  try simp only [Act.put, List.setIfInBounds_toArray, List.set_cons_zero, List.set_cons_succ]
                  refine wpAnyE_two (i := 3) (j := 8) (by kernel_rfl) (by simp only [List.getElem?_toArray, List.getElem?_cons_succ, List.getElem?_cons_zero]; rfl) (by simp only [List.getElem?_toArray, List.getElem?_cons_succ, List.getElem?_cons_zero]; rfl) (fun K hK => ?_) (fun K hK => ?_)
                  ·
                    go_simp
                    refine (HFwA.out _ (below_on HJ5.out.bl hC)).mono ?_
                    rintro e wf ⟨A3, n3, c3, rfl, hn3, hb, hs3⟩
                    rw [HKS.out] at hs3
                    clear hn3
                    have hsl := hs3 _ (fun k hk => ⟨Nat.le_of_not_lt (fun hl => hoff k hl hk), hX k hk⟩)
                    have hE := hb.mono hn0
                    have hC := hC.trans hE
                    have hn0 := Nat.le_trans hn0 hb.size
                    have hX := fun k hk => Nat.lt_of_lt_of_le (hX k hk) hb.size
                    have hRP := hRP.below hb
                    try have hz8 := hz8.below hb
                    try have hz9 := hz9.below hb
                    refine hK.out _ _ hE ?_
                    clear hK K
                    try simp only [Act.put, List.setIfInBounds_toArray, List.set_cons_zero, List.set_cons_succ]
                    refine wpAnyE_two (i := 4) (j := 8) (by kernel_rfl) (by simp only [List.getElem?_toArray, List.getElem?_cons_succ, List.getElem?_cons_zero]; rfl) (by simp only [List.getElem?_toArray, List.getElem?_cons_succ, List.getElem?_cons_zero]; rfl) (fun K hK => ?_) (fun K hK => ?_)
                    ·
                      go_simp
                      refine (HGP.out _ _ _ _ _ hRP hsl hX).mono ?_
                      rintro e w6 ⟨g6, rfl, hr6, hb⟩
                      have hE := hb.mono hn0
                      have hC := hC.trans hE
                      have hn0 := Nat.le_trans hn0 hb.size
                      have hX := fun k hk => Nat.lt_of_lt_of_le (hX k hk) hb.size
                      have hRP := hRP.below hb
                      try have hz8 := hz8.below hb
                      try have hz9 := hz9.below hb
                      refine hK.out _ _ hE ?_
                      clear hK K
                      try simp only [Act.put, List.setIfInBounds_toArray, List.set_cons_zero, List.set_cons_succ]
                      (refine takeE (belowTr w5.heap.size) 5 (by simp only [List.getElem?_toArray, List.getElem?_cons_succ, List.getElem?_cons_zero]; rfl) (by kernel_rfl) (by kernel_rfl) (by kernel_rfl) (by exact fun _ _ _ h => h) (by first | (refine Or.inl ⟨by rfl, ?_⟩; intro W hW; go_simp; try with_reducible rfl) | exact Or.inr ⟨by rfl, rfl⟩) ?_; try simp only [Act.put, List.setIfInBounds_toArray, List.set_cons_zero, List.set_cons_succ])
                      (refine takeE (belowTr w5.heap.size) 6 (by simp only [List.getElem?_toArray, List.getElem?_cons_succ, List.getElem?_cons_zero]; rfl) (by kernel_rfl) (by kernel_rfl) (by kernel_rfl) (by exact fun _ _ _ h => h) (by first | (refine Or.inl ⟨by rfl, ?_⟩; intro W hW; go_simp; try with_reducible rfl) | exact Or.inr ⟨by rfl, rfl⟩) ?_; try simp only [Act.put, List.setIfInBounds_toArray, List.set_cons_zero, List.set_cons_succ])
                      (refine takeE (belowTr w5.heap.size) 7 (by simp only [List.getElem?_toArray, List.getElem?_cons_succ, List.getElem?_cons_zero]; rfl) (by kernel_rfl) (by kernel_rfl) (by kernel_rfl) (by exact fun _ _ _ h => h) (by first | (refine Or.inl ⟨by rfl, ?_⟩; intro W hW; go_simp; try with_reducible rfl) | exact Or.inr ⟨by rfl, rfl⟩) ?_; try simp only [Act.put, List.setIfInBounds_toArray, List.set_cons_zero, List.set_cons_succ])
                      refine wpAnyE_one (i := 8) (by kernel_rfl) (by simp only [List.getElem?_toArray, List.getElem?_cons_succ, List.getElem?_cons_zero]; rfl) (fun K hK => ?_)
                      go_simp
                      have hg8 := hn0
                      try have hne := Nat.ne_of_lt hz9.lt
                      obtain ⟨hz8, hx8, hC, hE, hb, hX, hn0, hgr, hoff, hup⟩ := al_new (B := w.heap.size) hC hn0 hX HBW.out hoff 30 [.int .i64 0, .int .i64 0, .slice none 0 0, .int .i64 0, .int .i64 0, .int .i64 0, .int .i64 0, .int .i64 0]
                      try have hz9 := hz9.below hb
                      try have hx9 := hup _ hx9
                      have hRP := hRP.st (St.ext hb) hgr
                      try have hsl := hsl.st (St.ext hb) hgr
                      try have hr6 := hr6.st (St.ext hb) hgr
                      have hsub := fun k hk => hup k (hsub k hk)
                      refine hK.out _ _ hE ?_
                      clear hK K
                      try simp only [Act.put, List.setIfInBounds_toArray, List.set_cons_zero, List.set_cons_succ]
                      refine wpAnyE_one (i := 10) (by kernel_rfl) (by simp only [List.getElem?_toArray, List.getElem?_cons_succ, List.getElem?_cons_zero]; rfl) (fun K hK => ?_)
                      refine opwp_store_bk rowG rfl (.tmp 19) (.tmp 97) rfl _ 0 (by first | rfl | (simp only [World.size_alloc]; done) | (simp only [World.size_alloc]; rfl)) hz8 [.int .i64 hs, .int .i64 ps, .slice g6.A g6.n g6.c, .int .i64 (m1.ct 0), .int .i64 (m1.ct 1), .int .i64 (m1.ct 2), .int .i64 (m1.ct 3), .int .i64 (m1.ct 4)] rfl rfl (by decide) (one8 _ _ _ _ _ _ _ _ _ _) ?_
                      rintro w7 hz8 hw
                      have h9 := lay_all [.int .i64 0, .int .i64 0, .slice none 0 0, .int .i64 0, .int .i64 0, .int .i64 0, .int .i64 0, .int .i64 0] [.int .i64 hs, .int .i64 ps, .slice g6.A g6.n g6.c, .int .i64 (m1.ct 0), .int .i64 (m1.ct 1), .int .i64 (m1.ct 2), .int .i64 (m1.ct 3), .int .i64 (m1.ct 4)] rfl
                      rw [h9] at hz8
                      have hs := wr_st hw hx8
                      have hz9 := hz9.wr hw hne
                      have hE := hw.below hg8 hn0
                      have hC := hC.trans hE
                      have hn0 := Nat.le_trans hn0 hE.size
                      have hr6 := hr6.st hs (Gr.refl _ _)
                      refine hK.out _ _ hE ?_
                      clear hK K
                      try simp only [Act.put, List.setIfInBounds_toArray, List.set_cons_zero, List.set_cons_succ]
                      refine wpAnyE_one (i := 11) (by kernel_rfl) (by simp only [List.getElem?_toArray, List.getElem?_cons_succ, List.getElem?_cons_zero]; rfl) (fun K hK => ?_)
                      refine opwp_store_bk row5 rfl (.tmp 20) (.tmp 98) rfl _ 0 (by first | rfl | (simp only [World.size_alloc]; done) | (simp only [World.size_alloc]; rfl)) hz9 (tabV 5 t) rfl (tabV_len _ _) (by decide) (tabV_one _ _) ?_
                      rintro w8 hz9 hw
                      rw [lay_all _ _ (by rw [tabV_len]; rfl)] at hz9
                      have hs := wr_st hw hx9
                      have hz8 := hz8.wr hw (Ne.symm hne)
                      have hE := hw.below hg9 hn0
                      have hC := hC.trans hE
                      have hr6 := hr6.st hs (Gr.refl _ _)
                      refine hK.out _ _ hE ?_
                      clear hK K
                      try simp only [Act.put, List.setIfInBounds_toArray, List.set_cons_zero, List.set_cons_succ]
                      refine wpAnyE_done (by kernel_rfl) ?_ _
                      clear q1
                      go_wp2_with fail
                      go_meet
                      exact ⟨_, _, g6, by first | rfl | (simp only [World.size_alloc]; done) | (simp only [World.size_alloc]; rfl), by first | rfl | (simp only [World.size_alloc]; done) | (simp only [World.size_alloc]; rfl), hz8, hz9, hr6.mono hsub, hg9, hC⟩
                    ·
                      go_simp
                      have hg8 := hn0
                      try have hne := Nat.ne_of_lt hz9.lt
                      obtain ⟨hz8, hx8, hC, hE, hb, hX, hn0, hgr, hoff, hup⟩ := al_new (B := w.heap.size) hC hn0 hX HBW.out hoff 30 [.int .i64 0, .int .i64 0, .slice none 0 0, .int .i64 0, .int .i64 0, .int .i64 0, .int .i64 0, .int .i64 0]
                      try have hz9 := hz9.below hb
                      try have hx9 := hup _ hx9
                      have hRP := hRP.st (St.ext hb) hgr
                      try have hsl := hsl.st (St.ext hb) hgr
                      try have hr6 := hr6.st (St.ext hb) hgr
                      have hsub := fun k hk => hup k (hsub k hk)
                      refine hK.out _ _ hE ?_
                      clear hK K
                      try simp only [Act.put, List.setIfInBounds_toArray, List.set_cons_zero, List.set_cons_succ]
                      refine wpAnyE_one (i := 4) (by kernel_rfl) (by simp only [List.getElem?_toArray, List.getElem?_cons_succ, List.getElem?_cons_zero]; rfl) (fun K hK => ?_)
                      go_simp
                      refine (HGP.out _ _ _ _ _ hRP hsl hX).mono ?_
                      rintro e w6 ⟨g6, rfl, hr6, hb⟩
                      have hE := hb.mono hn0
                      have hC := hC.trans hE
                      have hn0 := Nat.le_trans hn0 hb.size
                      have hX := fun k hk => Nat.lt_of_lt_of_le (hX k hk) hb.size
                      have hRP := hRP.below hb
                      try have hz8 := hz8.below hb
                      try have hz9 := hz9.below hb
                      refine hK.out _ _ hE ?_
                      clear hK K
                      try simp only [Act.put, List.setIfInBounds_toArray, List.set_cons_zero, List.set_cons_succ]
                      (refine takeE (belowTr w5.heap.size) 5 (by simp only [List.getElem?_toArray, List.getElem?_cons_succ, List.getElem?_cons_zero]; rfl) (by kernel_rfl) (by kernel_rfl) (by kernel_rfl) (by exact fun _ _ _ h => h) (by first | (refine Or.inl ⟨by rfl, ?_⟩; intro W hW; go_simp; try with_reducible rfl) | exact Or.inr ⟨by rfl, rfl⟩) ?_; try simp only [Act.put, List.setIfInBounds_toArray, List.set_cons_zero, List.set_cons_succ])
                      (refine takeE (belowTr w5.heap.size) 6 (by simp only [List.getElem?_toArray, List.getElem?_cons_succ, List.getElem?_cons_zero]; rfl) (by kernel_rfl) (by kernel_rfl) (by kernel_rfl) (by exact fun _ _ _ h => h) (by first | (refine Or.inl ⟨by rfl, ?_⟩; intro W hW; go_simp; try with_reducible rfl) | exact Or.inr ⟨by rfl, rfl⟩) ?_; try simp only [Act.put, List.setIfInBounds_toArray, List.set_cons_zero, List.set_cons_succ])
                      (refine takeE (belowTr w5.heap.size) 7 (by simp only [List.getElem?_toArray, List.getElem?_cons_succ, List.getElem?_cons_zero]; rfl) (by kernel_rfl) (by kernel_rfl) (by kernel_rfl) (by exact fun _ _ _ h => h) (by first | (refine Or.inl ⟨by rfl, ?_⟩; intro W hW; go_simp; try with_reducible rfl) | exact Or.inr ⟨by rfl, rfl⟩) ?_; try simp only [Act.put, List.setIfInBounds_toArray, List.set_cons_zero, List.set_cons_succ])
                      refine wpAnyE_one (i := 10) (by kernel_rfl) (by simp only [List.getElem?_toArray, List.getElem?_cons_succ, List.getElem?_cons_zero]; rfl) (fun K hK => ?_)
                      refine opwp_store_bk rowG rfl (.tmp 19) (.tmp 97) rfl _ 0 (by first | rfl | (simp only [World.size_alloc]; done) | (simp only [World.size_alloc]; rfl)) hz8 [.int .i64 hs, .int .i64 ps, .slice g6.A g6.n g6.c, .int .i64 (m1.ct 0), .int .i64 (m1.ct 1), .int .i64 (m1.ct 2), .int .i64 (m1.ct 3), .int .i64 (m1.ct 4)] rfl rfl (by decide) (one8 _ _ _ _ _ _ _ _ _ _) ?_
                      rintro w7 hz8 hw
                      have h9 := lay_all [.int .i64 0, .int .i64 0, .slice none 0 0, .int .i64 0, .int .i64 0, .int .i64 0, .int .i64 0, .int .i64 0] [.int .i64 hs, .int .i64 ps, .slice g6.A g6.n g6.c, .int .i64 (m1.ct 0), .int .i64 (m1.ct 1), .int .i64 (m1.ct 2), .int .i64 (m1.ct 3), .int .i64 (m1.ct 4)] rfl
                      rw [h9] at hz8
                      have hs := wr_st hw hx8
                      have hz9 := hz9.wr hw hne
                      have hE := hw.below hg8 hn0
                      have hC := hC.trans hE
                      have hn0 := Nat.le_trans hn0 hE.size
                      have hr6 := hr6.st hs (Gr.refl _ _)
                      refine hK.out _ _ hE ?_
                      clear hK K
                      try simp only [Act.put, List.setIfInBounds_toArray, List.set_cons_zero, List.set_cons_succ]
                      refine wpAnyE_one (i := 11) (by kernel_rfl) (by simp only [List.getElem?_toArray, List.getElem?_cons_succ, List.getElem?_cons_zero]; rfl) (fun K hK => ?_)
                      refine opwp_store_bk row5 rfl (.tmp 20) (.tmp 98) rfl _ 0 (by first | rfl | (simp only [World.size_alloc]; done) | (simp only [World.size_alloc]; rfl)) hz9 (tabV 5 t) rfl (tabV_len _ _) (by decide) (tabV_one _ _) ?_
                      rintro w8 hz9 hw
                      rw [lay_all _ _ (by rw [tabV_len]; rfl)] at hz9
                      have hs := wr_st hw hx9
                      have hz8 := hz8.wr hw (Ne.symm hne)
                      have hE := hw.below hg9 hn0
                      have hC := hC.trans hE
                      have hr6 := hr6.st hs (Gr.refl _ _)
                      refine hK.out _ _ hE ?_
                      clear hK K
                      try simp only [Act.put, List.setIfInBounds_toArray, List.set_cons_zero, List.set_cons_succ]
                      refine wpAnyE_done (by kernel_rfl) ?_ _
                      clear q1
                      go_wp2_with fail
                      go_meet
                      exact ⟨_, _, g6, by first | rfl | (simp only [World.size_alloc]; done) | (simp only [World.size_alloc]; rfl), by first | rfl | (simp only [World.size_alloc]; done) | (simp only [World.size_alloc]; rfl), hz8, hz9, hr6.mono hsub, hg9, hC⟩
                  ·
                    go_simp
                    have hg8 := hn0
                    try have hne := Nat.ne_of_lt hz9.lt
                    obtain ⟨hz8, hx8, hC, hE, hb, hX, hn0, hgr, hoff, hup⟩ := al_new (B := w.heap.size) hC hn0 hX HBW.out hoff 30 [.int .i64 0, .int .i64 0, .slice none 0 0, .int .i64 0, .int .i64 0, .int .i64 0, .int .i64 0, .int .i64 0]
                    try have hz9 := hz9.below hb
                    try have hx9 := hup _ hx9
                    have hRP := hRP.st (St.ext hb) hgr
                    try have hsl := hsl.st (St.ext hb) hgr
                    try have hr6 := hr6.st (St.ext hb) hgr
                    have hsub := fun k hk => hup k (hsub k hk)
                    refine hK.out _ _ hE ?_
                    clear hK K
                    try simp only [Act.put, List.setIfInBounds_toArray, List.set_cons_zero, List.set_cons_succ]
                    refine wpAnyE_one (i := 3) (by kernel_rfl) (by simp only [List.getElem?_toArray, List.getElem?_cons_succ, List.getElem?_cons_zero]; rfl) (fun K hK => ?_)
                    go_simp
                    refine (HFwA.out _ (below_on HJ5.out.bl hC)).mono ?_
                    rintro e wf ⟨A3, n3, c3, rfl, hn3, hb, hs3⟩
                    rw [HKS.out] at hs3
                    clear hn3
                    have hsl := hs3 _ (fun k hk => ⟨Nat.le_of_not_lt (fun hl => hoff k hl hk), hX k hk⟩)
                    have hE := hb.mono hn0
                    have hC := hC.trans hE
                    have hn0 := Nat.le_trans hn0 hb.size
                    have hX := fun k hk => Nat.lt_of_lt_of_le (hX k hk) hb.size
                    have hRP := hRP.below hb
                    try have hz8 := hz8.below hb
                    try have hz9 := hz9.below hb
                    refine hK.out _ _ hE ?_
                    clear hK K
                    try simp only [Act.put, List.setIfInBounds_toArray, List.set_cons_zero, List.set_cons_succ]
                    refine wpAnyE_one (i := 4) (by kernel_rfl) (by simp only [List.getElem?_toArray, List.getElem?_cons_succ, List.getElem?_cons_zero]; rfl) (fun K hK => ?_)
                    go_simp
                    refine (HGP.out _ _ _ _ _ hRP hsl hX).mono ?_
                    rintro e w6 ⟨g6, rfl, hr6, hb⟩
                    have hE := hb.mono hn0
                    have hC := hC.trans hE
                    have hn0 := Nat.le_trans hn0 hb.size
                    have hX := fun k hk => Nat.lt_of_lt_of_le (hX k hk) hb.size
                    have hRP := hRP.below hb
                    try have hz8 := hz8.below hb
                    try have hz9 := hz9.below hb
                    refine hK.out _ _ hE ?_
                    clear hK K
                    try simp only [Act.put, List.setIfInBounds_toArray, List.set_cons_zero, List.set_cons_succ]
                    (refine takeE (belowTr w5.heap.size) 5 (by simp only [List.getElem?_toArray, List.getElem?_cons_succ, List.getElem?_cons_zero]; rfl) (by kernel_rfl) (by kernel_rfl) (by kernel_rfl) (by exact fun _ _ _ h => h) (by first | (refine Or.inl ⟨by rfl, ?_⟩; intro W hW; go_simp; try with_reducible rfl) | exact Or.inr ⟨by rfl, rfl⟩) ?_; try simp only [Act.put, List.setIfInBounds_toArray, List.set_cons_zero, List.set_cons_succ])
                    (refine takeE (belowTr w5.heap.size) 6 (by simp only [List.getElem?_toArray, List.getElem?_cons_succ, List.getElem?_cons_zero]; rfl) (by kernel_rfl) (by kernel_rfl) (by kernel_rfl) (by exact fun _ _ _ h => h) (by first | (refine Or.inl ⟨by rfl, ?_⟩; intro W hW; go_simp; try with_reducible rfl) | exact Or.inr ⟨by rfl, rfl⟩) ?_; try simp only [Act.put, List.setIfInBounds_toArray, List.set_cons_zero, List.set_cons_succ])
                    (refine takeE (belowTr w5.heap.size) 7 (by simp only [List.getElem?_toArray, List.getElem?_cons_succ, List.getElem?_cons_zero]; rfl) (by kernel_rfl) (by kernel_rfl) (by kernel_rfl) (by exact fun _ _ _ h => h) (by first | (refine Or.inl ⟨by rfl, ?_⟩; intro W hW; go_simp; try with_reducible rfl) | exact Or.inr ⟨by rfl, rfl⟩) ?_; try simp only [Act.put, List.setIfInBounds_toArray, List.set_cons_zero, List.set_cons_succ])
                    refine wpAnyE_one (i := 10) (by kernel_rfl) (by simp only [List.getElem?_toArray, List.getElem?_cons_succ, List.getElem?_cons_zero]; rfl) (fun K hK => ?_)
                    refine opwp_store_bk rowG rfl (.tmp 19) (.tmp 97) rfl _ 0 (by first | rfl | (simp only [World.size_alloc]; done) | (simp only [World.size_alloc]; rfl)) hz8 [.int .i64 hs, .int .i64 ps, .slice g6.A g6.n g6.c, .int .i64 (m1.ct 0), .int .i64 (m1.ct 1), .int .i64 (m1.ct 2), .int .i64 (m1.ct 3), .int .i64 (m1.ct 4)] rfl rfl (by decide) (one8 _ _ _ _ _ _ _ _ _ _) ?_
                    rintro w7 hz8 hw
                    have h9 := lay_all [.int .i64 0, .int .i64 0, .slice none 0 0, .int .i64 0, .int .i64 0, .int .i64 0, .int .i64 0, .int .i64 0] [.int .i64 hs, .int .i64 ps, .slice g6.A g6.n g6.c, .int .i64 (m1.ct 0), .int .i64 (m1.ct 1), .int .i64 (m1.ct 2), .int .i64 (m1.ct 3), .int .i64 (m1.ct 4)] rfl
                    rw [h9] at hz8
                    have hs := wr_st hw hx8
                    have hz9 := hz9.wr hw hne
                    have hE := hw.below hg8 hn0
                    have hC := hC.trans hE
                    have hn0 := Nat.le_trans hn0 hE.size
                    have hr6 := hr6.st hs (Gr.refl _ _)
                    refine hK.out _ _ hE ?_
                    clear hK K
                    try simp only [Act.put, List.setIfInBounds_toArray, List.set_cons_zero, List.set_cons_succ]
                    refine wpAnyE_one (i := 11) (by kernel_rfl) (by simp only [List.getElem?_toArray, List.getElem?_cons_succ, List.getElem?_cons_zero]; rfl) (fun K hK => ?_)
                    refine opwp_store_bk row5 rfl (.tmp 20) (.tmp 98) rfl _ 0 (by first | rfl | (simp only [World.size_alloc]; done) | (simp only [World.size_alloc]; rfl)) hz9 (tabV 5 t) rfl (tabV_len _ _) (by decide) (tabV_one _ _) ?_
                    rintro w8 hz9 hw
                    rw [lay_all _ _ (by rw [tabV_len]; rfl)] at hz9
                    have hs := wr_st hw hx9
                    have hz8 := hz8.wr hw (Ne.symm hne)
                    have hE := hw.below hg9 hn0
                    have hC := hC.trans hE
                    have hr6 := hr6.st hs (Gr.refl _ _)
                    refine hK.out _ _ hE ?_
                    clear hK K
                    try simp only [Act.put, List.setIfInBounds_toArray, List.set_cons_zero, List.set_cons_succ]
                    refine wpAnyE_done (by kernel_rfl) ?_ _
                    clear q1
                    go_wp2_with fail
                    go_meet
                    exact ⟨_, _, g6, by first | rfl | (simp only [World.size_alloc]; done) | (simp only [World.size_alloc]; rfl), by first | rfl | (simp only [World.size_alloc]; done) | (simp only [World.size_alloc]; rfl), hz8, hz9, hr6.mono hsub, hg9, hC⟩
              case rest => as_aux_lemma =>
                obtain ⟨b19, b20, g6, rfl, rfl, hz19, hz20, hg6, hb20, hC⟩ := hcut
                have hbx := HJ5.out.bx.below hC
                have hgb5 := HJ5.out.bx.lt
                have HC := Lib.hid (And.intro hg6 (And.intro hC hb20))
                go_upto_region 17 with (first
                  | (with_reducible refine at_load 30 (.tmp 19) (by rfl) ?_; refine wpList_load_bk rowG rfl (.tmp 19) rfl b19 0 rfl hz19 [.int .i64 hs, .int .i64 ps, .slice g6.A g6.n g6.c, .int .i64 (m1.ct 0), .int .i64 (m1.ct 1), .int .i64 (m1.ct 2), .int .i64 (m1.ct 3), .int .i64 (m1.ct 4)] rfl rfl ?_)
                  | (with_reducible refine at_store 30 (.tmp 15) (.tmp 99) (by rfl) ?_; refine wpList_store_bk rowG rfl (.tmp 15) (.tmp 99) rfl gb 0 rfl hbx [.int .i64 hs, .int .i64 ps, .slice g6.A g6.n g6.c, .int .i64 (m1.ct 0), .int .i64 (m1.ct 1), .int .i64 (m1.ct 2), .int .i64 (m1.ct 3), .int .i64 (m1.ct 4)] rfl rfl (Nat.le_of_eq rfl) (one8 _ _ _ _ _ _ _ _ _ _) ?_; rintro w7 hk7 hw7; have h9 := lay_all [.int .i64 hs, .int .i64 ps, .slice g.A g.n g.c, .int .i64 (m.ct 0), .int .i64 (m.ct 1), .int .i64 (m.ct 2), .int .i64 (m.ct 3), .int .i64 (m.ct 4)] [.int .i64 hs, .int .i64 ps, .slice g6.A g6.n g6.c, .int .i64 (m1.ct 0), .int .i64 (m1.ct 1), .int .i64 (m1.ct 2), .int .i64 (m1.ct 3), .int .i64 (m1.ct 4)] rfl; rw [h9] at hk7
                     have HJ7 := Lib.hid (HJ5.out.box HC.out.2.1 HC.out.1 hw7 hk7)
                     have HX7 := Lib.hid ((HX.out.below HC.out.2.1).wr hw7 (fun e => HGF.out (.inr e)))
                     have HZ7 := Lib.hid (hz20.wr hw7 (by omega))
                     clear hk7 hw7 h9 hbx hz19))
                have HNF : Hid (¬ F b20 ∧ ¬ F bo) := Lib.hid ⟨fun hf => by have := HJ5.out.fb.bd _ hf; omega, fun hf => HGF.out (.inl hf)⟩
                have HNE := Lib.hid (fun (W : World) => ne5 (tabI 5 t) (tabI 5 t) rfl rfl W)
                clear hz20 hg6 hb20 hC
                refine wp_region_E (St F) (by kernel_rfl) (fun wd hbd hsz => ?_)
                have J0 := Lib.hid (HJ7.out.below hbd)
                have HBD := Lib.hid hbd
                have q1 : ∀ V, St F wd V → V.cell? ⟨bo, 1, none⟩ = some (.slice A n c) := fun V hV => ((HX7.out.below HBD.out).st hV HNF.out.2).cell 1 rfl
                clear hsz
                (refine takeE (St.tr F) 0 (by simp only [List.getElem?_toArray, List.getElem?_cons_succ, List.getElem?_cons_zero]; rfl) (by kernel_rfl) (by kernel_rfl) (by kernel_rfl) (by exact fun _ _ _ h => h) (by first | (refine Or.inl ⟨by rfl, ?_⟩; intro W hW; go_simp; try with_reducible rfl) | exact Or.inr ⟨by rfl, rfl⟩) ?_; try simp only [Act.put, List.setIfInBounds_toArray, List.set_cons_zero, List.set_cons_succ])
                (refine takeE (St.tr F) 1 (by simp only [List.getElem?_toArray, List.getElem?_cons_succ, List.getElem?_cons_zero]; rfl) (by kernel_rfl) (by kernel_rfl) (by kernel_rfl) (by exact fun _ _ _ h => h) (by first | (refine Or.inl ⟨by rfl, ?_⟩; intro W hW; go_simp; try with_reducible rfl) | exact Or.inr ⟨by rfl, rfl⟩) ?_; try simp only [Act.put, List.setIfInBounds_toArray, List.set_cons_zero, List.set_cons_succ])
                (refine takeE (St.tr F) 5 (by simp only [List.getElem?_toArray, List.getElem?_cons_succ, List.getElem?_cons_zero]; rfl) (by kernel_rfl) (by kernel_rfl) (by kernel_rfl) (by exact fun _ _ _ h => h) (by first | (refine Or.inl ⟨by rfl, ?_⟩; intro W hW; exact exec_load_bk row5 (.tmp 20) rfl b20 0 rfl ((HZ7.out.below HBD.out).st hW HNF.out.1) (tabV 5 t) (tabV_len _ _) rfl) | exact Or.inr ⟨by rfl, rfl⟩) ?_; try simp only [Act.put, List.setIfInBounds_toArray, List.set_cons_zero, List.set_cons_succ])
                (refine takeE (St.tr F) 2 (by simp only [List.getElem?_toArray, List.getElem?_cons_succ, List.getElem?_cons_zero]; rfl) (by kernel_rfl) (by kernel_rfl) (by kernel_rfl) (by exact fun _ _ _ h => h) (by first | (refine Or.inl ⟨by rfl, ?_⟩; intro W hW; go_simp; try with_reducible rfl) | exact Or.inr ⟨by rfl, rfl⟩) ?_; try simp only [Act.put, List.setIfInBounds_toArray, List.set_cons_zero, List.set_cons_succ])
                refine wpAnyE_one (i := 3) (by kernel_rfl) (by simp only [List.getElem?_toArray, List.getElem?_cons_succ, List.getElem?_cons_zero]; rfl) (fun K hK => ?_)
                go_simp
                refine (HFwA.out _ J0.out.bl).mono ?_
                rintro e w8 ⟨A3, n3, c3, rfl, hn3, hb8, hs3⟩
                rw [HKS.out] at hs3
                clear hn3
                have hsl := hs3 F (fun k hk => ⟨J0.out.ge k hk, J0.out.fb.bd k hk⟩)
                have J8 := Lib.hid (J0.out.below hb8)
                refine hK.out _ _ (St.ext hb8) ?_
                clear hK K
                try simp only [Act.put, List.setIfInBounds_toArray, List.set_cons_zero, List.set_cons_succ]
                refine wpAnyE_one (i := 4) (by kernel_rfl) (by simp only [List.getElem?_toArray, List.getElem?_cons_succ, List.getElem?_cons_zero]; rfl) (fun K hK => ?_)
                go_simp
                refine (HPT.out _ _ _ _ _ _ J8.out hsl).mono ?_
                rintro e w9 ⟨rfl, F9, FF9, hf9, hst9, hg9⟩
                have J9 := Lib.hid (J8.out.code hf9 hst9 hg9)
                have HX9 := Lib.hid (((HX7.out.below HBD.out).below hb8).st hst9 HNF.out.2)
                have hne : ∀ W, (binOp .neq 28 (.agg (tabV 5 t).toArray) (.agg (tabV 5 t).toArray)).run Try.prog W = .ok (.bool false) W := fun W => by
                  have h1 := HNE.out W
                  rw [decide_eq_true rfl] at h1
                  exact h1
                refine hK.out _ _ hst9 ?_
                clear hK K
                try simp only [Act.put, List.setIfInBounds_toArray, List.set_cons_zero, List.set_cons_succ]
                (refine takeE (St.tr F) 6 (by simp only [List.getElem?_toArray, List.getElem?_cons_succ, List.getElem?_cons_zero]; rfl) (by kernel_rfl) (by kernel_rfl) (by kernel_rfl) (by exact fun _ _ _ h => h) (by first | (refine Or.inl ⟨by rfl, ?_⟩; intro W hW; go_simp; try with_reducible rfl) | exact Or.inr ⟨by rfl, rfl⟩) ?_; try simp only [Act.put, List.setIfInBounds_toArray, List.set_cons_zero, List.set_cons_succ])
                refine wpAnyE_done (by kernel_rfl) ?_ _
                clear q1
                go_wp2_with fail
                go_meet
                case rel => exact ⟨b, m1, g6, F9, pp, FF9, rfl, J9.out, HO1.out.1, HX9.out⟩
          · have HGS := Lib.hid (g_Serve HJ5.out.gp HO.out.b (by omega) ⟨(HO.out.c 0).1, by have := (HO.out.c 0).2; omega⟩ HLH.out.1 HLH.out.2 HJ5.out.run p q f (fun k hk => (HJ5.out.lt k hk).2))
            have HSvA := Lib.hid (fun (W : World) (g6 : GV) (mr : FM) (hJ : JF w b gb hs ps m mr g6 F pp FF W) => f_Serve hJ.fb HO.out.z HO.out.b ⟨(HO.out.c 0).1, by have := (HO.out.c 0).2; omega⟩ (by omega) p q f)
            have HO1 := Lib.hid (HO.out.sv p q f)
            have hll : (m.svL p q f).length ≤ 1 := by
              unfold FM.svL
              split
              · exact Nat.zero_le _
              · exact AM.svL_len _ f
            generalize m.svM p q f = m1 at *
            generalize m.svL p q f = sl at *
            generalize m.svE p q f = er at *
            have HLL := Lib.hid hll
            have heB : (er == er) = true := beq_self_eq_true er
            clear hll
            rcases h0 with h0 | h0
            all_goals
              have x0 := HX0.out
              have x2 := HX.out.cell 2 rfl
              have x3 := HX.out.cell 3 rfl
              have x4 := HX.out.cell 4 rfl
              have hbx := HJ5.out.bx
              go_wp2_with (first
                | (with_reducible refine at_load 30 (.tmp 15) (by rfl) ?_; refine wpList_load_bk rowG rfl (.tmp 15) rfl gb 0 rfl hbx [.int .i64 hs, .int .i64 ps, .slice g.A g.n g.c, .int .i64 (m.ct 0), .int .i64 (m.ct 1), .int .i64 (m.ct 2), .int .i64 (m.ct 3), .int .i64 (m.ct 4)] rfl rfl ?_)
                | (go_at_call 12; refine HGS.out.mono ?_; rintro en w6 ⟨g6, A6, n6, c6, rfl, hg6, hs6, hb6⟩
                   have hba : Below w6.heap.size w6 (w6.alloc (.cells ([.int .i64 hs, .int .i64 ps, .slice g6.A g6.n g6.c, .int .i64 (m1.ct 0), .int .i64 (m1.ct 1), .int .i64 (m1.ct 2), .int .i64 (m1.ct 3), .int .i64 (m1.ct 4)] : List Value).toArray 30)) := (Below.refl _ _).alloc (Nat.le_refl _) _
                   have hz21 : Bk (w6.alloc (.cells ([.int .i64 hs, .int .i64 ps, .slice g6.A g6.n g6.c, .int .i64 (m1.ct 0), .int .i64 (m1.ct 1), .int .i64 (m1.ct 2), .int .i64 (m1.ct 3), .int .i64 (m1.ct 4)] : List Value).toArray 30)) 30 w6.heap.size [.int .i64 hs, .int .i64 ps, .slice g6.A g6.n g6.c, .int .i64 (m1.ct 0), .int .i64 (m1.ct 1), .int .i64 (m1.ct 2), .int .i64 (m1.ct 3), .int .i64 (m1.ct 4)] := Bk.new w6 _ _
                   have hbx6 := (hbx.below hb6).below hba
                   have HB6 := Lib.hid (below_on hb6 hba)
                   have HG6 := Lib.hid (And.intro (hg6.below hba) (hs6.below hba))
                   clear hg6 hs6 hb6 hba x0 x2 x3 x4 hbx)
                | (with_reducible refine at_load 30 (.tmp 21) (by rfl) ?_; refine wpList_load_bk rowG rfl (.tmp 21) rfl w6.heap.size 0 rfl hz21 [.int .i64 hs, .int .i64 ps, .slice g6.A g6.n g6.c, .int .i64 (m1.ct 0), .int .i64 (m1.ct 1), .int .i64 (m1.ct 2), .int .i64 (m1.ct 3), .int .i64 (m1.ct 4)] rfl rfl ?_)
                | (with_reducible refine at_store 30 (.tmp 15) (.tmp 122) (by rfl) ?_; refine wpList_store_bk rowG rfl (.tmp 15) (.tmp 122) rfl gb 0 rfl hbx6 [.int .i64 hs, .int .i64 ps, .slice g6.A g6.n g6.c, .int .i64 (m1.ct 0), .int .i64 (m1.ct 1), .int .i64 (m1.ct 2), .int .i64 (m1.ct 3), .int .i64 (m1.ct 4)] rfl rfl (Nat.le_of_eq rfl) (one8 _ _ _ _ _ _ _ _ _ _) ?_; rintro w7 hk7 hw7; have h9 := lay_all [.int .i64 hs, .int .i64 ps, .slice g.A g.n g.c, .int .i64 (m.ct 0), .int .i64 (m.ct 1), .int .i64 (m.ct 2), .int .i64 (m.ct 3), .int .i64 (m.ct 4)] [.int .i64 hs, .int .i64 ps, .slice g6.A g6.n g6.c, .int .i64 (m1.ct 0), .int .i64 (m1.ct 1), .int .i64 (m1.ct 2), .int .i64 (m1.ct 3), .int .i64 (m1.ct 4)] rfl; rw [h9] at hk7
                   have HJ7 := Lib.hid (HJ5.out.box HB6.out HG6.out.1 hw7 hk7)
                   have HX7 := Lib.hid ((HX.out.below HB6.out).wr hw7 (fun e => HGF.out (.inr e)))
                   have HS7 := Lib.hid (HG6.out.2.st (wr_st hw7 (.inr rfl)) (Gr.refl _ _))
                   have x2 := HX7.out.cell 2 rfl
                   have x3 := HX7.out.cell 3 rfl
                   have x4 := HX7.out.cell 4 rfl
                   clear hk7 hw7 h9 hz21 hbx6)
                | (go_at_call 13; refine (HSvA.out _ _ _ HJ7.out).mono ?_; rintro en w8 ⟨A8, n8, c8, qs8, rfl, hn8, hr8, hk8, F8, FF8, hf8, hst8, hgr8, hp8⟩
                   have HJ8 := Lib.hid (HJ7.out.code hf8 hst8 hgr8)
                   have HS8 := Lib.hid (HS7.out.st (Fg.st hst8) (Fg.gr hgr8))
                   have HX8 := Lib.hid (HX7.out.st hst8 (fun hf => HGF.out (.inl hf)))
                   have HT8 : Hid (SlP (fun _ => False) w8 A8 n8 c8 sl) := Lib.hid ⟨qs8, hn8, hr8, hk8, fun q hq => (hp8 q hq).mono (fun _ h => h.elim), fun _ _ _ h => h.elim⟩
                   clear hn8 hr8 hk8 hf8 hst8 hgr8 hp8 x2 x3 x4)
                | (go_at_call 14; refine (r_sameAll HT8.out HS8.out (by have := HT8.out.len; have := HLL.out; omega)).mono ?_; rintro en w9 ⟨rfl, hb9⟩
                   have HJ9 := Lib.hid (HJ8.out.below hb9)
                   have HX9 := Lib.hid (HX8.out.below hb9)
                   clear hb9))
              go_meet
              case rel => exact ⟨b, m1, g6, F8, pp, FF8, rfl, HJ9.out, HO1.out, HX9.out⟩
          · have x0 := HX0.out
            have HFk := Lib.hid (f_fork HJ5.out.fb HO.out.z (Y := (· = gb)) (fun k hk => by subst hk; exact HJ5.out.bx.lt))
            clear HX0
            go_wp2_with (go_at_call 15; refine HFk.out.mono ?_; rintro en w6 ⟨b2, p2, F2, FF2, rfl, hf2, hF2, hb6⟩
                         have HJ6 := Lib.hid (HJ5.out.fork hf2 hF2 hb6)
                         have HX6 := Lib.hid (HX.out.below hb6)
                         clear hf2 hF2 hb6)
            go_meet
            case rel => exact ⟨b2, m, g, F2, p2, FF2, rfl, HJ6.out, ⟨HO.out.b.mono (by omega), fun j => ⟨(HO.out.c j).1, by have := (HO.out.c j).2; omega⟩, HO.out.z⟩, HX6.out⟩
        case rest =>
          obtain ⟨b, m, g, F, pp, FF, rfl, hJ, hO, hX⟩ := hcut
          clear HJ5 HGF HX HO HJ hdv5
          have x2 := hX.cell 2 rfl
          have x3 := hX.cell 3 rfl
          have hbx := hJ.bx
          have HJ := Lib.hid hJ
          have HO := Lib.hid hO
          have HX := Lib.hid hX
          have hlen := AMb.rows hO.b p q
          have HL1 := Lib.hid (f_lens hJ.fb.fp p q)
          have HLA := Lib.hid (fun (W : World) (hJ : JF w b gb hs ps m m g F pp FF W) => g_Lens hJ.gp p q)
          have HBU := Lib.hid (fun (W : World) (hJ : JF w b gb hs ps m m g F pp FF W) => g_Busy hJ.gp HO.out.b HLH.out.1 HLH.out.2)
          have hgn : g.n = hs * ps ∧ hs * ps ≤ 64 := by
            obtain ⟨rs, hg⟩ := hJ.gp
            exact ⟨by rw [hg.ln, hg.dim], Nat.mul_le_mul hg.gd.h8 hg.gd.p8⟩
          have HBT : Hid (m.busy.take g.n = m.busy ∧ g.n ≤ 64) := Lib.hid ⟨List.take_of_length_le (by rw [← hJ.gp.gd.busy, hgn.1]; exact busR_len _ _ _), by omega⟩
          have HFEW : Hid ((m.lows p q).length ≤ 1024 ∧ (m.highs p q).length ≤ 1024) := Lib.hid ⟨Nat.le_trans hlen.1 HLH.out.1, Nat.le_trans hlen.2 HLH.out.2⟩
          have HTL := Lib.hid hJ.fb.fp.total_le
          obtain ⟨la, hla⟩ : ∃ la, la = (m.lows p q).length := ⟨_, rfl⟩
          obtain ⟨lb, hlb⟩ : ∃ lb, lb = (m.highs p q).length := ⟨_, rfl⟩
          rw [← hla, ← hlb] at HL1 HLA hlen
          have hgA : decide ((L : Int) < la) = false := decide_eq_false (by omega)
          have hgB : decide ((H : Int) < lb) = false := decide_eq_false (by omega)
          have hgC : decide (L < la) = false := decide_eq_false (by omega)
          have hgD : decide (H < lb) = false := decide_eq_false (by omega)
          have HLX := Lib.hid (And.intro hla hlb)
          clear hJ hO hX hlen hgn hla hlb
          go_upto_region 29 with (first
            | (go_at_call 16; refine HL1.out.mono ?_; rintro en w6 ⟨rfl, hb6⟩
               have HJ6 := Lib.hid (HJ.out.below hb6)
               have HX6 := Lib.hid (HX.out.below hb6)
               have x2 := HX6.out.cell 2 rfl
               have x3 := HX6.out.cell 3 rfl
               have hbx := HJ6.out.bx
               clear hb6)
            | (with_reducible refine at_load 30 (.tmp 15) (by rfl) ?_; refine wpList_load_bk rowG rfl (.tmp 15) rfl gb 0 rfl hbx [.int .i64 hs, .int .i64 ps, .slice g.A g.n g.c, .int .i64 (m.ct 0), .int .i64 (m.ct 1), .int .i64 (m.ct 2), .int .i64 (m.ct 3), .int .i64 (m.ct 4)] rfl rfl ?_)
            | (go_at_call 17; refine (HLA.out _ HJ6.out).mono ?_; rintro en w7 ⟨rfl, hb7⟩
               have HJ7 := Lib.hid (HJ6.out.below hb7)
               have HX7 := Lib.hid (HX6.out.below hb7)
               have hbx := HJ7.out.bx
               clear hb7 x2 x3)
            | (go_at_call 18; refine (HBU.out _ HJ7.out).mono ?_; rintro en w8 ⟨A8, n8, c8, rfl, hl8, hb8⟩
               have HJ8 := Lib.hid (HJ7.out.below hb8)
               have HX8 := Lib.hid (HX7.out.below hb8)
               have HL8 := Lib.hid hl8.rdv
               have hn8 : Hid (n8 = 2 * m.busy.length) := Lib.hid (by have h1 := hl8.1; rw [intV_len, plcs_len] at h1; omega)
               have hc8 : n8 ≤ c8 := hl8.2.1
               have hm8 := hl8.2.2.1
               simp only [maxLen] at hm8
               clear hb8 hbx hl8))
          have HGB : Hid (gb < w8.heap.size ∧ bo < w8.heap.size) := Lib.hid ⟨HJ8.out.bx.lt, HX8.out.lt⟩
          have HNE := Lib.hid (fun (W : World) => ne5 (tabI 5 m.ct) (tabI 5 m.ct) rfl rfl W)
          rcases (by have h1 := hn8.out; omega : n8 = 0 ∨ 2 ≤ n8) with hz | hz
          · as_aux_lemma =>
            have HPR : Hid (intV (plcs (m.busy.take 1)) = (intV (plcs m.busy)).take 0) := Lib.hid (by
              have : m.busy = [] := List.eq_nil_of_length_eq_zero (by have h1 := hn8.out; omega)
              rw [this]; rfl)
            subst hz
            have hsl : ∀ W, (Instr.slice 51 (.slice A8 0 c8) none (some (.int .i64 0)) none).run Try.prog W = .ok (.slice A8 0 c8) W := fun W => eltI.run_pre A8 0 c8 0 (Nat.zero_le _) (Nat.zero_le _) W
            have HPL := Lib.hid (HL8.out.pre (Nat.zero_le _))
            clear hn8
            refine wp_region_E (Below w8.heap.size) (by kernel_rfl) (fun wd hbd hsz => ?_)
            have J0 := Lib.hid (HJ8.out.below (hbd : Below w8.heap.size w8 wd))
            have hE0 : Below w8.heap.size w8 wd := hbd
            have q2 : ∀ W, Below w8.heap.size wd W → W.cell? ⟨bo, 2, none⟩ = some (.int .i64 p) := fun W hW => ((HX8.out.below hbd).keep hW HGB.out.2).cell 2 rfl
            have q3 : ∀ W, Below w8.heap.size wd W → W.cell? ⟨bo, 3, none⟩ = some (.int .i64 q) := fun W hW => ((HX8.out.below hbd).keep hW HGB.out.2).cell 3 rfl
            clear hsz
            (refine takeE (belowTr w8.heap.size) 0 (by simp only [List.getElem?_toArray, List.getElem?_cons_succ, List.getElem?_cons_zero]; rfl) (by kernel_rfl) (by kernel_rfl) (by kernel_rfl) (by exact fun _ _ _ h => h) (by first | (refine Or.inl ⟨by rfl, ?_⟩; intro W hW; go_simp; try with_reducible rfl) | exact Or.inr ⟨by rfl, rfl⟩) ?_; try simp only [Act.put, List.setIfInBounds_toArray, List.set_cons_zero, List.set_cons_succ])
            (refine takeE (belowTr w8.heap.size) 1 (by simp only [List.getElem?_toArray, List.getElem?_cons_succ, List.getElem?_cons_zero]; rfl) (by kernel_rfl) (by kernel_rfl) (by kernel_rfl) (by exact fun _ _ _ h => h) (by first | (refine Or.inl ⟨by rfl, ?_⟩; intro W hW; go_simp; try with_reducible rfl) | exact Or.inr ⟨by rfl, rfl⟩) ?_; try simp only [Act.put, List.setIfInBounds_toArray, List.set_cons_zero, List.set_cons_succ])
            (refine takeE (belowTr w8.heap.size) 2 (by simp only [List.getElem?_toArray, List.getElem?_cons_succ, List.getElem?_cons_zero]; rfl) (by kernel_rfl) (by kernel_rfl) (by kernel_rfl) (by exact fun _ _ _ h => h) (by first | (refine Or.inl ⟨by rfl, ?_⟩; intro W hW; go_simp; try with_reducible rfl) | exact Or.inr ⟨by rfl, rfl⟩) ?_; try simp only [Act.put, List.setIfInBounds_toArray, List.set_cons_zero, List.set_cons_succ])
            (refine takeE (belowTr w8.heap.size) 3 (by simp only [List.getElem?_toArray, List.getElem?_cons_succ, List.getElem?_cons_zero]; rfl) (by kernel_rfl) (by kernel_rfl) (by kernel_rfl) (by exact fun _ _ _ h => h) (by first | (refine Or.inl ⟨by rfl, ?_⟩; intro W hW; go_simp; try with_reducible rfl) | exact Or.inr ⟨by rfl, rfl⟩) ?_; try simp only [Act.put, List.setIfInBounds_toArray, List.set_cons_zero, List.set_cons_succ])
            (refine takeE (belowTr w8.heap.size) 4 (by simp only [List.getElem?_toArray, List.getElem?_cons_succ, List.getElem?_cons_zero]; rfl) (by kernel_rfl) (by kernel_rfl) (by kernel_rfl) (by exact fun _ _ _ h => h) (by first | (refine Or.inl ⟨by rfl, ?_⟩; intro W hW; go_simp; try with_reducible rfl) | exact Or.inr ⟨by rfl, rfl⟩) ?_; try simp only [Act.put, List.setIfInBounds_toArray, List.set_cons_zero, List.set_cons_succ])
            (refine takeE (belowTr w8.heap.size) 5 (by simp only [List.getElem?_toArray, List.getElem?_cons_succ, List.getElem?_cons_zero]; rfl) (by kernel_rfl) (by kernel_rfl) (by kernel_rfl) (by exact fun _ _ _ h => h) (by first | (refine Or.inl ⟨by rfl, ?_⟩; intro W hW; go_simp; try with_reducible rfl) | exact Or.inr ⟨by rfl, rfl⟩) ?_; try simp only [Act.put, List.setIfInBounds_toArray, List.set_cons_zero, List.set_cons_succ])
            (refine takeE (belowTr w8.heap.size) 6 (by simp only [List.getElem?_toArray, List.getElem?_cons_succ, List.getElem?_cons_zero]; rfl) (by kernel_rfl) (by kernel_rfl) (by kernel_rfl) (by exact fun _ _ _ h => h) (by first | (refine Or.inl ⟨by rfl, ?_⟩; intro W hW; go_simp; try with_reducible rfl) | exact Or.inr ⟨by rfl, rfl⟩) ?_; try simp only [Act.put, List.setIfInBounds_toArray, List.set_cons_zero, List.set_cons_succ])
            (refine takeE (belowTr w8.heap.size) 7 (by simp only [List.getElem?_toArray, List.getElem?_cons_succ, List.getElem?_cons_zero]; rfl) (by kernel_rfl) (by kernel_rfl) (by kernel_rfl) (by exact fun _ _ _ h => h) (by first | (refine Or.inl ⟨by rfl, ?_⟩; intro W hW; go_simp; try with_reducible rfl) | exact Or.inr ⟨by rfl, rfl⟩) ?_; try simp only [Act.put, List.setIfInBounds_toArray, List.set_cons_zero, List.set_cons_succ])
            (refine takeE (belowTr w8.heap.size) 8 (by simp only [List.getElem?_toArray, List.getElem?_cons_succ, List.getElem?_cons_zero]; rfl) (by kernel_rfl) (by kernel_rfl) (by kernel_rfl) (by exact fun _ _ _ h => h) (by first | (refine Or.inl ⟨by rfl, ?_⟩; intro W hW; go_simp; try with_reducible rfl) | exact Or.inr ⟨by rfl, rfl⟩) ?_; try simp only [Act.put, List.setIfInBounds_toArray, List.set_cons_zero, List.set_cons_succ])
            (refine takeE (belowTr w8.heap.size) 9 (by simp only [List.getElem?_toArray, List.getElem?_cons_succ, List.getElem?_cons_zero]; rfl) (by kernel_rfl) (by kernel_rfl) (by kernel_rfl) (by exact fun _ _ _ h => h) (by first | (refine Or.inl ⟨by rfl, ?_⟩; intro W hW; go_simp; try with_reducible rfl) | exact Or.inr ⟨by rfl, rfl⟩) ?_; try simp only [Act.put, List.setIfInBounds_toArray, List.set_cons_zero, List.set_cons_succ])
            (refine takeE (belowTr w8.heap.size) 10 (by simp only [List.getElem?_toArray, List.getElem?_cons_succ, List.getElem?_cons_zero]; rfl) (by kernel_rfl) (by kernel_rfl) (by kernel_rfl) (by exact fun _ _ _ h => h) (by first | (refine Or.inl ⟨by rfl, ?_⟩; intro W hW; go_simp; try with_reducible rfl) | exact Or.inr ⟨by rfl, rfl⟩) ?_; try simp only [Act.put, List.setIfInBounds_toArray, List.set_cons_zero, List.set_cons_succ])
            (refine takeE (belowTr w8.heap.size) 11 (by simp only [List.getElem?_toArray, List.getElem?_cons_succ, List.getElem?_cons_zero]; rfl) (by kernel_rfl) (by kernel_rfl) (by kernel_rfl) (by exact fun _ _ _ h => h) (by first | (refine Or.inl ⟨by rfl, ?_⟩; intro W hW; go_simp; try with_reducible rfl) | exact Or.inr ⟨by rfl, rfl⟩) ?_; try simp only [Act.put, List.setIfInBounds_toArray, List.set_cons_zero, List.set_cons_succ])
            (refine takeE (belowTr w8.heap.size) 12 (by simp only [List.getElem?_toArray, List.getElem?_cons_succ, List.getElem?_cons_zero]; rfl) (by kernel_rfl) (by kernel_rfl) (by kernel_rfl) (by exact fun _ _ _ h => h) (by first | (refine Or.inl ⟨by rfl, ?_⟩; intro W hW; go_simp; try with_reducible rfl) | exact Or.inr ⟨by rfl, rfl⟩) ?_; try simp only [Act.put, List.setIfInBounds_toArray, List.set_cons_zero, List.set_cons_succ])
            (refine takeE (belowTr w8.heap.size) 13 (by simp only [List.getElem?_toArray, List.getElem?_cons_succ, List.getElem?_cons_zero]; rfl) (by kernel_rfl) (by kernel_rfl) (by kernel_rfl) (by exact fun _ _ _ h => h) (by first | (refine Or.inl ⟨by rfl, ?_⟩; intro W hW; go_simp; try with_reducible rfl) | exact Or.inr ⟨by rfl, rfl⟩) ?_; try simp only [Act.put, List.setIfInBounds_toArray, List.set_cons_zero, List.set_cons_succ])
            (refine takeE (belowTr w8.heap.size) 14 (by simp only [List.getElem?_toArray, List.getElem?_cons_succ, List.getElem?_cons_zero]; rfl) (by kernel_rfl) (by kernel_rfl) (by kernel_rfl) (by exact fun _ _ _ h => h) (by first | (refine Or.inl ⟨by rfl, ?_⟩; intro W hW; go_simp; try with_reducible rfl) | exact Or.inr ⟨by rfl, rfl⟩) ?_; try simp only [Act.put, List.setIfInBounds_toArray, List.set_cons_zero, List.set_cons_succ])
            (refine takeE (belowTr w8.heap.size) 15 (by simp only [List.getElem?_toArray, List.getElem?_cons_succ, List.getElem?_cons_zero]; rfl) (by kernel_rfl) (by kernel_rfl) (by kernel_rfl) (by exact fun _ _ _ h => h) (by first | (refine Or.inl ⟨by rfl, ?_⟩; intro W hW; go_simp; try with_reducible rfl) | exact Or.inr ⟨by rfl, rfl⟩) ?_; try simp only [Act.put, List.setIfInBounds_toArray, List.set_cons_zero, List.set_cons_succ])
            (refine takeE (belowTr w8.heap.size) 16 (by simp only [List.getElem?_toArray, List.getElem?_cons_succ, List.getElem?_cons_zero]; rfl) (by kernel_rfl) (by kernel_rfl) (by kernel_rfl) (by exact fun _ _ _ h => h) (by first | (refine Or.inl ⟨by rfl, ?_⟩; intro W hW; go_simp; try with_reducible rfl) | exact Or.inr ⟨by rfl, rfl⟩) ?_; try simp only [Act.put, List.setIfInBounds_toArray, List.set_cons_zero, List.set_cons_succ])
            (refine takeE (belowTr w8.heap.size) 17 (by simp only [List.getElem?_toArray, List.getElem?_cons_succ, List.getElem?_cons_zero]; rfl) (by kernel_rfl) (by kernel_rfl) (by kernel_rfl) (by exact fun _ _ _ h => h) (by first | (refine Or.inl ⟨by rfl, ?_⟩; intro W hW; go_simp; try with_reducible rfl) | exact Or.inr ⟨by rfl, rfl⟩) ?_; try simp only [Act.put, List.setIfInBounds_toArray, List.set_cons_zero, List.set_cons_succ])
            (refine takeE (belowTr w8.heap.size) 18 (by simp only [List.getElem?_toArray, List.getElem?_cons_succ, List.getElem?_cons_zero]; rfl) (by kernel_rfl) (by kernel_rfl) (by kernel_rfl) (by exact fun _ _ _ h => h) (by first | (refine Or.inl ⟨by rfl, ?_⟩; intro W hW; go_simp; try with_reducible rfl) | exact Or.inr ⟨by rfl, rfl⟩) ?_; try simp only [Act.put, List.setIfInBounds_toArray, List.set_cons_zero, List.set_cons_succ])
            (refine takeE (belowTr w8.heap.size) 19 (by simp only [List.getElem?_toArray, List.getElem?_cons_succ, List.getElem?_cons_zero]; rfl) (by kernel_rfl) (by kernel_rfl) (by kernel_rfl) (by exact fun _ _ _ h => h) (by first | (refine Or.inl ⟨by rfl, ?_⟩; intro W hW; go_simp; try with_reducible rfl) | exact Or.inr ⟨by rfl, rfl⟩) ?_; try simp only [Act.put, List.setIfInBounds_toArray, List.set_cons_zero, List.set_cons_succ])
            (refine takeE (belowTr w8.heap.size) 20 (by simp only [List.getElem?_toArray, List.getElem?_cons_succ, List.getElem?_cons_zero]; rfl) (by kernel_rfl) (by kernel_rfl) (by kernel_rfl) (by exact fun _ _ _ h => h) (by first | (refine Or.inl ⟨by rfl, ?_⟩; intro W hW; go_simp; try with_reducible rfl) | exact Or.inr ⟨by rfl, rfl⟩) ?_; try simp only [Act.put, List.setIfInBounds_toArray, List.set_cons_zero, List.set_cons_succ])
            (refine takeE (belowTr w8.heap.size) 22 (by simp only [List.getElem?_toArray, List.getElem?_cons_succ, List.getElem?_cons_zero]; rfl) (by kernel_rfl) (by kernel_rfl) (by kernel_rfl) (by exact fun _ _ _ h => h) (by first | (refine Or.inl ⟨by rfl, ?_⟩; intro W hW; go_simp; try with_reducible rfl) | exact Or.inr ⟨by rfl, rfl⟩) ?_; try simp only [Act.put, List.setIfInBounds_toArray, List.set_cons_zero, List.set_cons_succ])
            (refine takeE (belowTr w8.heap.size) 25 (by simp only [List.getElem?_toArray, List.getElem?_cons_succ, List.getElem?_cons_zero]; rfl) (by kernel_rfl) (by kernel_rfl) (by kernel_rfl) (by exact fun _ _ _ h => h) (by first | (refine Or.inl ⟨by rfl, ?_⟩; intro W hW; exact exec_load_bk rowG (.tmp 15) rfl gb 0 rfl (J0.out.bx.keep hW HGB.out.1) [.int .i64 hs, .int .i64 ps, .slice g.A g.n g.c, .int .i64 (m.ct 0), .int .i64 (m.ct 1), .int .i64 (m.ct 2), .int .i64 (m.ct 3), .int .i64 (m.ct 4)] rfl rfl) | exact Or.inr ⟨by rfl, rfl⟩) ?_; try simp only [Act.put, List.setIfInBounds_toArray, List.set_cons_zero, List.set_cons_succ])
            (refine takeE (belowTr w8.heap.size) 26 (by simp only [List.getElem?_toArray, List.getElem?_cons_succ, List.getElem?_cons_zero]; rfl) (by kernel_rfl) (by kernel_rfl) (by kernel_rfl) (by exact fun _ _ _ h => h) (by first | (refine Or.inl ⟨by rfl, ?_⟩; intro W hW; go_simp; try with_reducible rfl) | exact Or.inr ⟨by rfl, rfl⟩) ?_; try simp only [Act.put, List.setIfInBounds_toArray, List.set_cons_zero, List.set_cons_succ])
            (refine takeE (belowTr w8.heap.size) 28 (by simp only [List.getElem?_toArray, List.getElem?_cons_succ, List.getElem?_cons_zero]; rfl) (by kernel_rfl) (by kernel_rfl) (by kernel_rfl) (by exact fun _ _ _ h => h) (by first | (refine Or.inl ⟨by rfl, ?_⟩; intro W hW; go_simp; try with_reducible rfl) | exact Or.inr ⟨by rfl, rfl⟩) ?_; try simp only [Act.put, List.setIfInBounds_toArray, List.set_cons_zero, List.set_cons_succ])
            (refine takeE (belowTr w8.heap.size) 21 (by simp only [List.getElem?_toArray, List.getElem?_cons_succ, List.getElem?_cons_zero]; rfl) (by kernel_rfl) (by kernel_rfl) (by kernel_rfl) (by exact fun _ _ _ h => h) (by first | (refine Or.inl ⟨by rfl, ?_⟩; intro W hW; go_simp; try with_reducible rfl) | exact Or.inr ⟨by rfl, rfl⟩) ?_; try simp only [Act.put, List.setIfInBounds_toArray, List.set_cons_zero, List.set_cons_succ])
            (refine takeE (belowTr w8.heap.size) 23 (by simp only [List.getElem?_toArray, List.getElem?_cons_succ, List.getElem?_cons_zero]; rfl) (by kernel_rfl) (by kernel_rfl) (by kernel_rfl) (by exact fun _ _ _ h => h) (by first | (refine Or.inl ⟨by rfl, ?_⟩; intro W hW; go_simp; try with_reducible rfl) | exact Or.inr ⟨by rfl, rfl⟩) ?_; try simp only [Act.put, List.setIfInBounds_toArray, List.set_cons_zero, List.set_cons_succ])
            (refine takeE (belowTr w8.heap.size) 27 (by simp only [List.getElem?_toArray, List.getElem?_cons_succ, List.getElem?_cons_zero]; rfl) (by kernel_rfl) (by kernel_rfl) (by kernel_rfl) (by exact fun _ _ _ h => h) (by first | (refine Or.inl ⟨by rfl, ?_⟩; intro W hW; go_simp; try with_reducible rfl) | exact Or.inr ⟨by rfl, rfl⟩) ?_; try simp only [Act.put, List.setIfInBounds_toArray, List.set_cons_zero, List.set_cons_succ])
            (refine takeE (belowTr w8.heap.size) 29 (by simp only [List.getElem?_toArray, List.getElem?_cons_succ, List.getElem?_cons_zero]; rfl) (by kernel_rfl) (by kernel_rfl) (by kernel_rfl) (by exact fun _ _ _ h => h) (by first | (refine Or.inl ⟨by rfl, ?_⟩; intro W hW; go_simp; try with_reducible rfl) | exact Or.inr ⟨by rfl, rfl⟩) ?_; try simp only [Act.put, List.setIfInBounds_toArray, List.set_cons_zero, List.set_cons_succ])
            refine wpAnyE_one (i := 24) (by kernel_rfl) (by simp only [List.getElem?_toArray, List.getElem?_cons_succ, List.getElem?_cons_zero]; rfl) (fun K hK => ?_)
            go_simp
            refine (f_Packets J0.out.fb.fp p q).mono ?_
            rintro e w24 h24
            obtain ⟨A24, n24, c24, rfl, hs24, hb24⟩ := h24.slN
            have hE24 := hE0.trans (hb24.mono (Nat.le_trans (Nat.le_refl _) hE0.size))
            have J24 := Lib.hid (J0.out.below hb24)
            refine hK.out _ _ (hb24.mono hE0.size) ?_
            clear hK K
            try simp only [Act.put, List.setIfInBounds_toArray, List.set_cons_zero, List.set_cons_succ]
            refine wpAnyE_one (i := 30) (by kernel_rfl) (by simp only [List.getElem?_toArray, List.getElem?_cons_succ, List.getElem?_cons_zero]; rfl) (fun K hK => ?_)
            go_simp
            refine (g_Packets J24.out.gp p q HFEW.out).mono ?_
            rintro e w30 ⟨A30, n30, c30, rfl, hs30, hb30⟩
            have hE30 := hE24.trans (hb30.mono (Nat.le_trans (Nat.le_refl _) hE24.size))
            have J30 := Lib.hid (J24.out.below hb30)
            refine hK.out _ _ (hb30.mono hE24.size) ?_
            clear hK K
            try simp only [Act.put, List.setIfInBounds_toArray, List.set_cons_zero, List.set_cons_succ]
            refine wpAnyE_one (i := 31) (by kernel_rfl) (by simp only [List.getElem?_toArray, List.getElem?_cons_succ, List.getElem?_cons_zero]; rfl) (fun K hK => ?_)
            go_simp
            refine (r_sameAll (hs24.below hb30) hs30 (by have h1 := hs24.len; have h2 := HFEW.out; rw [List.length_append] at h1; omega)).mono ?_
            rintro e w31 ⟨rfl, hb31⟩
            have hE31 := hE30.trans (hb31.mono (Nat.le_trans (Nat.le_refl _) hE30.size))
            have J31 := Lib.hid (J30.out.below hb31)
            refine hK.out _ _ (hb31.mono hE30.size) ?_
            clear hK K
            try simp only [Act.put, List.setIfInBounds_toArray, List.set_cons_zero, List.set_cons_succ]
            (refine takeE (belowTr w8.heap.size) 32 (by simp only [List.getElem?_toArray, List.getElem?_cons_succ, List.getElem?_cons_zero]; rfl) (by kernel_rfl) (by kernel_rfl) (by kernel_rfl) (by exact fun _ _ _ h => h) (by first | (refine Or.inl ⟨by rfl, ?_⟩; intro W hW; go_simp; try with_reducible rfl) | exact Or.inr ⟨by rfl, rfl⟩) ?_; try simp only [Act.put, List.setIfInBounds_toArray, List.set_cons_zero, List.set_cons_succ])
            (refine takeE (belowTr w8.heap.size) 33 (by simp only [List.getElem?_toArray, List.getElem?_cons_succ, List.getElem?_cons_zero]; rfl) (by kernel_rfl) (by kernel_rfl) (by kernel_rfl) (by exact fun _ _ _ h => h) (by first | (refine Or.inl ⟨by rfl, ?_⟩; intro W hW; go_simp; try with_reducible rfl) | exact Or.inr ⟨by rfl, rfl⟩) ?_; try simp only [Act.put, List.setIfInBounds_toArray, List.set_cons_zero, List.set_cons_succ])
            (refine takeE (belowTr w8.heap.size) 34 (by simp only [List.getElem?_toArray, List.getElem?_cons_succ, List.getElem?_cons_zero]; rfl) (by kernel_rfl) (by kernel_rfl) (by kernel_rfl) (by exact fun _ _ _ h => h) (by first | (refine Or.inl ⟨by rfl, ?_⟩; intro W hW; go_simp; try with_reducible rfl) | exact Or.inr ⟨by rfl, rfl⟩) ?_; try simp only [Act.put, List.setIfInBounds_toArray, List.set_cons_zero, List.set_cons_succ])
            (refine takeE (belowTr w8.heap.size) 35 (by simp only [List.getElem?_toArray, List.getElem?_cons_succ, List.getElem?_cons_zero]; rfl) (by kernel_rfl) (by kernel_rfl) (by kernel_rfl) (by exact fun _ _ _ h => h) (by first | (refine Or.inl ⟨by rfl, ?_⟩; intro W hW; go_simp; try with_reducible rfl) | exact Or.inr ⟨by rfl, rfl⟩) ?_; try simp only [Act.put, List.setIfInBounds_toArray, List.set_cons_zero, List.set_cons_succ])
            (refine takeE (belowTr w8.heap.size) 37 (by simp only [List.getElem?_toArray, List.getElem?_cons_succ, List.getElem?_cons_zero]; rfl) (by kernel_rfl) (by kernel_rfl) (by kernel_rfl) (by exact fun _ _ _ h => h) (by first | (refine Or.inl ⟨by rfl, ?_⟩; intro W hW; exact exec_load_bk rowG (.tmp 15) rfl gb 0 rfl (J31.out.bx.keep hW HGB.out.1) [.int .i64 hs, .int .i64 ps, .slice g.A g.n g.c, .int .i64 (m.ct 0), .int .i64 (m.ct 1), .int .i64 (m.ct 2), .int .i64 (m.ct 3), .int .i64 (m.ct 4)] rfl rfl) | exact Or.inr ⟨by rfl, rfl⟩) ?_; try simp only [Act.put, List.setIfInBounds_toArray, List.set_cons_zero, List.set_cons_succ])
            refine wpAnyE_one (i := 36) (by kernel_rfl) (by simp only [List.getElem?_toArray, List.getElem?_cons_succ, List.getElem?_cons_zero]; rfl) (fun K hK => ?_)
            go_simp
            refine (f_Total J31.out.fb.fp).mono ?_
            rintro e w36 ⟨rfl, hb36⟩
            have hE36 := hE31.trans (hb36.mono (Nat.le_trans (Nat.le_refl _) hE31.size))
            have J36 := Lib.hid (J31.out.below hb36)
            refine hK.out _ _ (hb36.mono hE31.size) ?_
            clear hK K
            try simp only [Act.put, List.setIfInBounds_toArray, List.set_cons_zero, List.set_cons_succ]
            refine wpAnyE_one (i := 38) (by kernel_rfl) (by simp only [List.getElem?_toArray, List.getElem?_cons_succ, List.getElem?_cons_zero]; rfl) (fun K hK => ?_)
            go_simp
            refine (g_Total J36.out.gp HO.out.b HLH.out.1 HLH.out.2).mono ?_
            rintro e w38 ⟨rfl, hb38⟩
            have hE38 := hE36.trans (hb38.mono (Nat.le_trans (Nat.le_refl _) hE36.size))
            have J38 := Lib.hid (J36.out.below hb38)
            refine hK.out _ _ (hb38.mono hE36.size) ?_
            clear hK K
            try simp only [Act.put, List.setIfInBounds_toArray, List.set_cons_zero, List.set_cons_succ]
            (refine takeE (belowTr w8.heap.size) 39 (by simp only [List.getElem?_toArray, List.getElem?_cons_succ, List.getElem?_cons_zero]; rfl) (by kernel_rfl) (by kernel_rfl) (by kernel_rfl) (by exact fun _ _ _ h => h) (by first | (refine Or.inl ⟨by rfl, ?_⟩; intro W hW; go_simp; try with_reducible rfl) | exact Or.inr ⟨by rfl, rfl⟩) ?_; try simp only [Act.put, List.setIfInBounds_toArray, List.set_cons_zero, List.set_cons_succ])
            (refine takeE (belowTr w8.heap.size) 40 (by simp only [List.getElem?_toArray, List.getElem?_cons_succ, List.getElem?_cons_zero]; rfl) (by kernel_rfl) (by kernel_rfl) (by kernel_rfl) (by exact fun _ _ _ h => h) (by first | (refine Or.inl ⟨by rfl, ?_⟩; intro W hW; go_simp; try with_reducible rfl) | exact Or.inr ⟨by rfl, rfl⟩) ?_; try simp only [Act.put, List.setIfInBounds_toArray, List.set_cons_zero, List.set_cons_succ])
            (refine takeE (belowTr w8.heap.size) 41 (by simp only [List.getElem?_toArray, List.getElem?_cons_succ, List.getElem?_cons_zero]; rfl) (by kernel_rfl) (by kernel_rfl) (by kernel_rfl) (by exact fun _ _ _ h => h) (by first | (refine Or.inl ⟨by rfl, ?_⟩; intro W hW; go_simp; try with_reducible rfl) | exact Or.inr ⟨by rfl, rfl⟩) ?_; try simp only [Act.put, List.setIfInBounds_toArray, List.set_cons_zero, List.set_cons_succ])
            (refine takeE (belowTr w8.heap.size) 42 (by simp only [List.getElem?_toArray, List.getElem?_cons_succ, List.getElem?_cons_zero]; rfl) (by kernel_rfl) (by kernel_rfl) (by kernel_rfl) (by exact fun _ _ _ h => h) (by first | (refine Or.inl ⟨by rfl, ?_⟩; intro W hW; go_simp; try with_reducible rfl) | exact Or.inr ⟨by rfl, rfl⟩) ?_; try simp only [Act.put, List.setIfInBounds_toArray, List.set_cons_zero, List.set_cons_succ])
            (refine takeE (belowTr w8.heap.size) 44 (by simp only [List.getElem?_toArray, List.getElem?_cons_succ, List.getElem?_cons_zero]; rfl) (by kernel_rfl) (by kernel_rfl) (by kernel_rfl) (by exact fun _ _ _ h => h) (by first | (refine Or.inl ⟨by rfl, ?_⟩; intro W hW; go_simp; try with_reducible rfl) | exact Or.inr ⟨by rfl, rfl⟩) ?_; try simp only [Act.put, List.setIfInBounds_toArray, List.set_cons_zero, List.set_cons_succ])
            (refine takeE (belowTr w8.heap.size) 45 (by simp only [List.getElem?_toArray, List.getElem?_cons_succ, List.getElem?_cons_zero]; rfl) (by kernel_rfl) (by kernel_rfl) (by kernel_rfl) (by exact fun _ _ _ h => h) (by first | (refine Or.inl ⟨by rfl, ?_⟩; intro W hW; exact exec_load_bk row5 (.tmp 207) rfl gb 3 rfl (J38.out.bx.keep hW HGB.out.1) [.int .i64 (m.ct 0), .int .i64 (m.ct 1), .int .i64 (m.ct 2), .int .i64 (m.ct 3), .int .i64 (m.ct 4)] rfl rfl) | exact Or.inr ⟨by rfl, rfl⟩) ?_; try simp only [Act.put, List.setIfInBounds_toArray, List.set_cons_zero, List.set_cons_succ])
            refine wpAnyE_one (i := 43) (by kernel_rfl) (by simp only [List.getElem?_toArray, List.getElem?_cons_succ, List.getElem?_cons_zero]; rfl) (fun K hK => ?_)
            go_simp
            refine (f_Counts J38.out.fb.fp).mono ?_
            rintro e w43 ⟨rfl, hb43⟩
            have hE43 := hE38.trans (hb43.mono (Nat.le_trans (Nat.le_refl _) hE38.size))
            have J43 := Lib.hid (J38.out.below hb43)
            have hne : ∀ W, (binOp .neq 28 (.agg (tabV 5 m.ct).toArray) (.agg #[.int .i64 (m.ct 0), .int .i64 (m.ct 1), .int .i64 (m.ct 2), .int .i64 (m.ct 3), .int .i64 (m.ct 4)])).run Try.prog W = .ok (.bool false) W := fun W => by
              have h1 := HNE.out W
              rw [decide_eq_true rfl] at h1
              exact h1
            have q5 : ∀ W, Below w8.heap.size w43 W → W.cell? ⟨gb, 2, none⟩ = some (.slice g.A g.n g.c) := fun W hW => (J43.out.bx.keep hW HGB.out.1).cell 2 rfl
            refine hK.out _ _ (hb43.mono hE38.size) ?_
            clear hK K
            try simp only [Act.put, List.setIfInBounds_toArray, List.set_cons_zero, List.set_cons_succ]
            (refine takeE (belowTr w8.heap.size) 46 (by simp only [List.getElem?_toArray, List.getElem?_cons_succ, List.getElem?_cons_zero]; rfl) (by kernel_rfl) (by kernel_rfl) (by kernel_rfl) (by exact fun _ _ _ h => h) (by first | (refine Or.inl ⟨by rfl, ?_⟩; intro W hW; go_simp; try with_reducible rfl) | exact Or.inr ⟨by rfl, rfl⟩) ?_; try simp only [Act.put, List.setIfInBounds_toArray, List.set_cons_zero, List.set_cons_succ])
            (refine takeE (belowTr w8.heap.size) 47 (by simp only [List.getElem?_toArray, List.getElem?_cons_succ, List.getElem?_cons_zero]; rfl) (by kernel_rfl) (by kernel_rfl) (by kernel_rfl) (by exact fun _ _ _ h => h) (by first | (refine Or.inl ⟨by rfl, ?_⟩; intro W hW; go_simp; try with_reducible rfl) | exact Or.inr ⟨by rfl, rfl⟩) ?_; try simp only [Act.put, List.setIfInBounds_toArray, List.set_cons_zero, List.set_cons_succ])
            (refine takeE (belowTr w8.heap.size) 48 (by simp only [List.getElem?_toArray, List.getElem?_cons_succ, List.getElem?_cons_zero]; rfl) (by kernel_rfl) (by kernel_rfl) (by kernel_rfl) (by exact fun _ _ _ h => h) (by first | (refine Or.inl ⟨by rfl, ?_⟩; intro W hW; go_simp; try with_reducible rfl) | exact Or.inr ⟨by rfl, rfl⟩) ?_; try simp only [Act.put, List.setIfInBounds_toArray, List.set_cons_zero, List.set_cons_succ])
            (refine takeE (belowTr w8.heap.size) 49 (by simp only [List.getElem?_toArray, List.getElem?_cons_succ, List.getElem?_cons_zero]; rfl) (by kernel_rfl) (by kernel_rfl) (by kernel_rfl) (by exact fun _ _ _ h => h) (by first | (refine Or.inl ⟨by rfl, ?_⟩; intro W hW; go_simp; try with_reducible rfl) | exact Or.inr ⟨by rfl, rfl⟩) ?_; try simp only [Act.put, List.setIfInBounds_toArray, List.set_cons_zero, List.set_cons_succ])
            (refine takeE (belowTr w8.heap.size) 50 (by simp only [List.getElem?_toArray, List.getElem?_cons_succ, List.getElem?_cons_zero]; rfl) (by kernel_rfl) (by kernel_rfl) (by kernel_rfl) (by exact fun _ _ _ h => h) (by first | (refine Or.inl ⟨by rfl, ?_⟩; intro W hW; go_simp; try with_reducible rfl) | exact Or.inr ⟨by rfl, rfl⟩) ?_; try simp only [Act.put, List.setIfInBounds_toArray, List.set_cons_zero, List.set_cons_succ])
            (refine takeE (belowTr w8.heap.size) 54 (by simp only [List.getElem?_toArray, List.getElem?_cons_succ, List.getElem?_cons_zero]; rfl) (by kernel_rfl) (by kernel_rfl) (by kernel_rfl) (by exact fun _ _ _ h => h) (by first | (refine Or.inl ⟨by rfl, ?_⟩; intro W hW; go_simp; try with_reducible rfl) | exact Or.inr ⟨by rfl, rfl⟩) ?_; try simp only [Act.put, List.setIfInBounds_toArray, List.set_cons_zero, List.set_cons_succ])
            (refine takeE (belowTr w8.heap.size) 51 (by simp only [List.getElem?_toArray, List.getElem?_cons_succ, List.getElem?_cons_zero]; rfl) (by kernel_rfl) (by kernel_rfl) (by kernel_rfl) (by exact fun _ _ _ h => h) (by first | (refine Or.inl ⟨by rfl, ?_⟩; intro W hW; go_simp; try with_reducible rfl) | exact Or.inr ⟨by rfl, rfl⟩) ?_; try simp only [Act.put, List.setIfInBounds_toArray, List.set_cons_zero, List.set_cons_succ])
            (refine takeE (belowTr w8.heap.size) 52 (by simp only [List.getElem?_toArray, List.getElem?_cons_succ, List.getElem?_cons_zero]; rfl) (by kernel_rfl) (by kernel_rfl) (by kernel_rfl) (by exact fun _ _ _ h => h) (by first | (refine Or.inl ⟨by rfl, ?_⟩; intro W hW; go_simp; try with_reducible rfl) | exact Or.inr ⟨by rfl, rfl⟩) ?_; try simp only [Act.put, List.setIfInBounds_toArray, List.set_cons_zero, List.set_cons_succ])
            refine wpAnyE_one (i := 53) (by kernel_rfl) (by simp only [List.getElem?_toArray, List.getElem?_cons_succ, List.getElem?_cons_zero]; rfl) (fun K hK => ?_)
            go_simp
            refine (l_busy J43.out.fb.fp g.n (by have := HBT.out.2; omega)).mono ?_
            rintro e w53 ⟨A53, n53, c53, rfl, hl53, hb53⟩
            rw [HBT.out.1] at hl53
            have hE53 := hE43.trans (hb53.mono (Nat.le_trans (Nat.le_refl _) hE43.size))
            have J53 := Lib.hid (J43.out.below hb53)
            refine hK.out _ _ (hb53.mono hE43.size) ?_
            clear hK K
            try simp only [Act.put, List.setIfInBounds_toArray, List.set_cons_zero, List.set_cons_succ]
            refine wpAnyE_one (i := 55) (by kernel_rfl) (by simp only [List.getElem?_toArray, List.getElem?_cons_succ, List.getElem?_cons_zero]; rfl) (fun K hK => ?_)
            go_simp
            refine (same_refl hl53.rdv (HL8.out.below hE53)).mono ?_
            rintro e w55 ⟨rfl, hb55⟩
            have hE55 := hE53.trans (hb55.mono (Nat.le_trans (Nat.le_refl _) hE53.size))
            have J55 := Lib.hid (J53.out.below hb55)
            refine hK.out _ _ (hb55.mono hE53.size) ?_
            clear hK K
            try simp only [Act.put, List.setIfInBounds_toArray, List.set_cons_zero, List.set_cons_succ]
            (refine takeE (belowTr w8.heap.size) 56 (by simp only [List.getElem?_toArray, List.getElem?_cons_succ, List.getElem?_cons_zero]; rfl) (by kernel_rfl) (by kernel_rfl) (by kernel_rfl) (by exact fun _ _ _ h => h) (by first | (refine Or.inl ⟨by rfl, ?_⟩; intro W hW; go_simp; try with_reducible rfl) | exact Or.inr ⟨by rfl, rfl⟩) ?_; try simp only [Act.put, List.setIfInBounds_toArray, List.set_cons_zero, List.set_cons_succ])
            (refine takeE (belowTr w8.heap.size) 57 (by simp only [List.getElem?_toArray, List.getElem?_cons_succ, List.getElem?_cons_zero]; rfl) (by kernel_rfl) (by kernel_rfl) (by kernel_rfl) (by exact fun _ _ _ h => h) (by first | (refine Or.inl ⟨by rfl, ?_⟩; intro W hW; go_simp; try with_reducible rfl) | exact Or.inr ⟨by rfl, rfl⟩) ?_; try simp only [Act.put, List.setIfInBounds_toArray, List.set_cons_zero, List.set_cons_succ])
            (refine takeE (belowTr w8.heap.size) 58 (by simp only [List.getElem?_toArray, List.getElem?_cons_succ, List.getElem?_cons_zero]; rfl) (by kernel_rfl) (by kernel_rfl) (by kernel_rfl) (by exact fun _ _ _ h => h) (by first | (refine Or.inl ⟨by rfl, ?_⟩; intro W hW; go_simp; try with_reducible rfl) | exact Or.inr ⟨by rfl, rfl⟩) ?_; try simp only [Act.put, List.setIfInBounds_toArray, List.set_cons_zero, List.set_cons_succ])
            (refine takeE (belowTr w8.heap.size) 59 (by simp only [List.getElem?_toArray, List.getElem?_cons_succ, List.getElem?_cons_zero]; rfl) (by kernel_rfl) (by kernel_rfl) (by kernel_rfl) (by exact fun _ _ _ h => h) (by first | (refine Or.inl ⟨by rfl, ?_⟩; intro W hW; go_simp; try with_reducible rfl) | exact Or.inr ⟨by rfl, rfl⟩) ?_; try simp only [Act.put, List.setIfInBounds_toArray, List.set_cons_zero, List.set_cons_succ])
            (refine takeE (belowTr w8.heap.size) 61 (by simp only [List.getElem?_toArray, List.getElem?_cons_succ, List.getElem?_cons_zero]; rfl) (by kernel_rfl) (by kernel_rfl) (by kernel_rfl) (by exact fun _ _ _ h => h) (by first | (refine Or.inl ⟨by rfl, ?_⟩; intro W hW; go_simp; try with_reducible rfl) | exact Or.inr ⟨by rfl, rfl⟩) ?_; try simp only [Act.put, List.setIfInBounds_toArray, List.set_cons_zero, List.set_cons_succ])
            (refine takeE (belowTr w8.heap.size) 62 (by simp only [List.getElem?_toArray, List.getElem?_cons_succ, List.getElem?_cons_zero]; rfl) (by kernel_rfl) (by kernel_rfl) (by kernel_rfl) (by exact fun _ _ _ h => h) (by first | (refine Or.inl ⟨by rfl, ?_⟩; intro W hW; go_simp; try with_reducible rfl) | exact Or.inr ⟨by rfl, rfl⟩) ?_; try simp only [Act.put, List.setIfInBounds_toArray, List.set_cons_zero, List.set_cons_succ])
            (refine takeE (belowTr w8.heap.size) 63 (by simp only [List.getElem?_toArray, List.getElem?_cons_succ, List.getElem?_cons_zero]; rfl) (by kernel_rfl) (by kernel_rfl) (by kernel_rfl) (by exact fun _ _ _ h => h) (by first | (refine Or.inl ⟨by rfl, ?_⟩; intro W hW; go_simp; try with_reducible rfl) | exact Or.inr ⟨by rfl, rfl⟩) ?_; try simp only [Act.put, List.setIfInBounds_toArray, List.set_cons_zero, List.set_cons_succ])
            (refine takeE (belowTr w8.heap.size) 64 (by simp only [List.getElem?_toArray, List.getElem?_cons_succ, List.getElem?_cons_zero]; rfl) (by kernel_rfl) (by kernel_rfl) (by kernel_rfl) (by exact fun _ _ _ h => h) (by first | (refine Or.inl ⟨by rfl, ?_⟩; intro W hW; go_simp; try with_reducible rfl) | exact Or.inr ⟨by rfl, rfl⟩) ?_; try simp only [Act.put, List.setIfInBounds_toArray, List.set_cons_zero, List.set_cons_succ])
            (refine takeE (belowTr w8.heap.size) 65 (by simp only [List.getElem?_toArray, List.getElem?_cons_succ, List.getElem?_cons_zero]; rfl) (by kernel_rfl) (by kernel_rfl) (by kernel_rfl) (by exact fun _ _ _ h => h) (by first | (refine Or.inl ⟨by rfl, ?_⟩; intro W hW; go_simp; try with_reducible rfl) | exact Or.inr ⟨by rfl, rfl⟩) ?_; try simp only [Act.put, List.setIfInBounds_toArray, List.set_cons_zero, List.set_cons_succ])
            refine wpAnyE_one (i := 60) (by kernel_rfl) (by simp only [List.getElem?_toArray, List.getElem?_cons_succ, List.getElem?_cons_zero]; rfl) (fun K hK => ?_)
            go_simp
            refine (l_busy J55.out.fb.fp 1 (by decide)).mono ?_
            rintro e w60 ⟨A60, n60, c60, rfl, hl60, hb60⟩
            have hE60 := hE55.trans (hb60.mono (Nat.le_trans (Nat.le_refl _) hE55.size))
            have J60 := Lib.hid (J55.out.below hb60)
            refine hK.out _ _ (hb60.mono hE55.size) ?_
            clear hK K
            try simp only [Act.put, List.setIfInBounds_toArray, List.set_cons_zero, List.set_cons_succ]
            refine wpAnyE_one (i := 66) (by kernel_rfl) (by simp only [List.getElem?_toArray, List.getElem?_cons_succ, List.getElem?_cons_zero]; rfl) (fun K hK => ?_)
            go_simp
            have hp66 := HPL.out.below hE60
            rw [← HPR.out] at hp66
            refine (same_refl hl60.rdv hp66).mono ?_
            rintro e w66 ⟨rfl, hb66⟩
            have hE66 := hE60.trans (hb66.mono (Nat.le_trans (Nat.le_refl _) hE60.size))
            have J66 := Lib.hid (J60.out.below hb66)
            refine hK.out _ _ (hb66.mono hE60.size) ?_
            clear hK K
            try simp only [Act.put, List.setIfInBounds_toArray, List.set_cons_zero, List.set_cons_succ]
            (refine takeE (belowTr w8.heap.size) 67 (by simp only [List.getElem?_toArray, List.getElem?_cons_succ, List.getElem?_cons_zero]; rfl) (by kernel_rfl) (by kernel_rfl) (by kernel_rfl) (by exact fun _ _ _ h => h) (by first | (refine Or.inl ⟨by rfl, ?_⟩; intro W hW; go_simp; try with_reducible rfl) | exact Or.inr ⟨by rfl, rfl⟩) ?_; try simp only [Act.put, List.setIfInBounds_toArray, List.set_cons_zero, List.set_cons_succ])
            (refine takeE (belowTr w8.heap.size) 68 (by simp only [List.getElem?_toArray, List.getElem?_cons_succ, List.getElem?_cons_zero]; rfl) (by kernel_rfl) (by kernel_rfl) (by kernel_rfl) (by exact fun _ _ _ h => h) (by first | (refine Or.inl ⟨by rfl, ?_⟩; intro W hW; go_simp; try with_reducible rfl) | exact Or.inr ⟨by rfl, rfl⟩) ?_; try simp only [Act.put, List.setIfInBounds_toArray, List.set_cons_zero, List.set_cons_succ])
            refine wpAnyE_done (by kernel_rfl) ?_ _
            have JE := J66
            clear q2 q3
            go_wp2
            go_roundw
            case rel => exact ⟨i + 1, b, m, g, F, pp, FF, by go_num, by omega, by omega, rfl, JE.out, HO.out⟩
            case measure => simp [intOf]; omega
          · as_aux_lemma =>
            have HPR : Hid (intV (plcs (m.busy.take 1)) = (intV (plcs m.busy)).take 2) := Lib.hid (by
              have h1 := plcs_one m.busy
              rw [plcs_len, Nat.min_eq_left (by have h2 := hn8.out; omega)] at h1
              exact h1)
            have hsl : ∀ W, (Instr.slice 51 (.slice A8 n8 c8) none (some (.int .i64 2)) none).run Try.prog W = .ok (.slice A8 2 c8) W := fun W => eltI.run_pre A8 n8 c8 2 (by omega) hc8 W
            have HPL := Lib.hid (HL8.out.pre hz)
            have h2I : ((n8 : Int) < 2) = False := by simp; omega
            have h2C : (2 : Int) ≤ c8 := by omega
            have h2D : (2 : Int) ≤ n8 := by omega
            clear hn8
            refine wp_region_E (Below w8.heap.size) (by kernel_rfl) (fun wd hbd hsz => ?_)
            have J0 := Lib.hid (HJ8.out.below (hbd : Below w8.heap.size w8 wd))
            have hE0 : Below w8.heap.size w8 wd := hbd
            have q2 : ∀ W, Below w8.heap.size wd W → W.cell? ⟨bo, 2, none⟩ = some (.int .i64 p) := fun W hW => ((HX8.out.below hbd).keep hW HGB.out.2).cell 2 rfl
            have q3 : ∀ W, Below w8.heap.size wd W → W.cell? ⟨bo, 3, none⟩ = some (.int .i64 q) := fun W hW => ((HX8.out.below hbd).keep hW HGB.out.2).cell 3 rfl
            clear hsz
            (refine takeE (belowTr w8.heap.size) 0 (by simp only [List.getElem?_toArray, List.getElem?_cons_succ, List.getElem?_cons_zero]; rfl) (by kernel_rfl) (by kernel_rfl) (by kernel_rfl) (by exact fun _ _ _ h => h) (by first | (refine Or.inl ⟨by rfl, ?_⟩; intro W hW; go_simp; try with_reducible rfl) | exact Or.inr ⟨by rfl, rfl⟩) ?_; try simp only [Act.put, List.setIfInBounds_toArray, List.set_cons_zero, List.set_cons_succ])
            (refine takeE (belowTr w8.heap.size) 1 (by simp only [List.getElem?_toArray, List.getElem?_cons_succ, List.getElem?_cons_zero]; rfl) (by kernel_rfl) (by kernel_rfl) (by kernel_rfl) (by exact fun _ _ _ h => h) (by first | (refine Or.inl ⟨by rfl, ?_⟩; intro W hW; go_simp; try with_reducible rfl) | exact Or.inr ⟨by rfl, rfl⟩) ?_; try simp only [Act.put, List.setIfInBounds_toArray, List.set_cons_zero, List.set_cons_succ])
            (refine takeE (belowTr w8.heap.size) 2 (by simp only [List.getElem?_toArray, List.getElem?_cons_succ, List.getElem?_cons_zero]; rfl) (by kernel_rfl) (by kernel_rfl) (by kernel_rfl) (by exact fun _ _ _ h => h) (by first | (refine Or.inl ⟨by rfl, ?_⟩; intro W hW; go_simp; try with_reducible rfl) | exact Or.inr ⟨by rfl, rfl⟩) ?_; try simp only [Act.put, List.setIfInBounds_toArray, List.set_cons_zero, List.set_cons_succ])
            (refine takeE (belowTr w8.heap.size) 3 (by simp only [List.getElem?_toArray, List.getElem?_cons_succ, List.getElem?_cons_zero]; rfl) (by kernel_rfl) (by kernel_rfl) (by kernel_rfl) (by exact fun _ _ _ h => h) (by first | (refine Or.inl ⟨by rfl, ?_⟩; intro W hW; go_simp; try with_reducible rfl) | exact Or.inr ⟨by rfl, rfl⟩) ?_; try simp only [Act.put, List.setIfInBounds_toArray, List.set_cons_zero, List.set_cons_succ])
            (refine takeE (belowTr w8.heap.size) 4 (by simp only [List.getElem?_toArray, List.getElem?_cons_succ, List.getElem?_cons_zero]; rfl) (by kernel_rfl) (by kernel_rfl) (by kernel_rfl) (by exact fun _ _ _ h => h) (by first | (refine Or.inl ⟨by rfl, ?_⟩; intro W hW; go_simp; try with_reducible rfl) | exact Or.inr ⟨by rfl, rfl⟩) ?_; try simp only [Act.put, List.setIfInBounds_toArray, List.set_cons_zero, List.set_cons_succ])
            (refine takeE (belowTr w8.heap.size) 5 (by simp only [List.getElem?_toArray, List.getElem?_cons_succ, List.getElem?_cons_zero]; rfl) (by kernel_rfl) (by kernel_rfl) (by kernel_rfl) (by exact fun _ _ _ h => h) (by first | (refine Or.inl ⟨by rfl, ?_⟩; intro W hW; go_simp; try with_reducible rfl) | exact Or.inr ⟨by rfl, rfl⟩) ?_; try simp only [Act.put, List.setIfInBounds_toArray, List.set_cons_zero, List.set_cons_succ])
            (refine takeE (belowTr w8.heap.size) 6 (by simp only [List.getElem?_toArray, List.getElem?_cons_succ, List.getElem?_cons_zero]; rfl) (by kernel_rfl) (by kernel_rfl) (by kernel_rfl) (by exact fun _ _ _ h => h) (by first | (refine Or.inl ⟨by rfl, ?_⟩; intro W hW; go_simp; try with_reducible rfl) | exact Or.inr ⟨by rfl, rfl⟩) ?_; try simp only [Act.put, List.setIfInBounds_toArray, List.set_cons_zero, List.set_cons_succ])
            (refine takeE (belowTr w8.heap.size) 7 (by simp only [List.getElem?_toArray, List.getElem?_cons_succ, List.getElem?_cons_zero]; rfl) (by kernel_rfl) (by kernel_rfl) (by kernel_rfl) (by exact fun _ _ _ h => h) (by first | (refine Or.inl ⟨by rfl, ?_⟩; intro W hW; go_simp; try with_reducible rfl) | exact Or.inr ⟨by rfl, rfl⟩) ?_; try simp only [Act.put, List.setIfInBounds_toArray, List.set_cons_zero, List.set_cons_succ])
            (refine takeE (belowTr w8.heap.size) 8 (by simp only [List.getElem?_toArray, List.getElem?_cons_succ, List.getElem?_cons_zero]; rfl) (by kernel_rfl) (by kernel_rfl) (by kernel_rfl) (by exact fun _ _ _ h => h) (by first | (refine Or.inl ⟨by rfl, ?_⟩; intro W hW; go_simp; try with_reducible rfl) | exact Or.inr ⟨by rfl, rfl⟩) ?_; try simp only [Act.put, List.setIfInBounds_toArray, List.set_cons_zero, List.set_cons_succ])
            (refine takeE (belowTr w8.heap.size) 9 (by simp only [List.getElem?_toArray, List.getElem?_cons_succ, List.getElem?_cons_zero]; rfl) (by kernel_rfl) (by kernel_rfl) (by kernel_rfl) (by exact fun _ _ _ h => h) (by first | (refine Or.inl ⟨by rfl, ?_⟩; intro W hW; go_simp; try with_reducible rfl) | exact Or.inr ⟨by rfl, rfl⟩) ?_; try simp only [Act.put, List.setIfInBounds_toArray, List.set_cons_zero, List.set_cons_succ])
            (refine takeE (belowTr w8.heap.size) 10 (by simp only [List.getElem?_toArray, List.getElem?_cons_succ, List.getElem?_cons_zero]; rfl) (by kernel_rfl) (by kernel_rfl) (by kernel_rfl) (by exact fun _ _ _ h => h) (by first | (refine Or.inl ⟨by rfl, ?_⟩; intro W hW; go_simp; try with_reducible rfl) | exact Or.inr ⟨by rfl, rfl⟩) ?_; try simp only [Act.put, List.setIfInBounds_toArray, List.set_cons_zero, List.set_cons_succ])
            (refine takeE (belowTr w8.heap.size) 11 (by simp only [List.getElem?_toArray, List.getElem?_cons_succ, List.getElem?_cons_zero]; rfl) (by kernel_rfl) (by kernel_rfl) (by kernel_rfl) (by exact fun _ _ _ h => h) (by first | (refine Or.inl ⟨by rfl, ?_⟩; intro W hW; go_simp; try with_reducible rfl) | exact Or.inr ⟨by rfl, rfl⟩) ?_; try simp only [Act.put, List.setIfInBounds_toArray, List.set_cons_zero, List.set_cons_succ])
            (refine takeE (belowTr w8.heap.size) 12 (by simp only [List.getElem?_toArray, List.getElem?_cons_succ, List.getElem?_cons_zero]; rfl) (by kernel_rfl) (by kernel_rfl) (by kernel_rfl) (by exact fun _ _ _ h => h) (by first | (refine Or.inl ⟨by rfl, ?_⟩; intro W hW; go_simp; try with_reducible rfl) | exact Or.inr ⟨by rfl, rfl⟩) ?_; try simp only [Act.put, List.setIfInBounds_toArray, List.set_cons_zero, List.set_cons_succ])
            (refine takeE (belowTr w8.heap.size) 13 (by simp only [List.getElem?_toArray, List.getElem?_cons_succ, List.getElem?_cons_zero]; rfl) (by kernel_rfl) (by kernel_rfl) (by kernel_rfl) (by exact fun _ _ _ h => h) (by first | (refine Or.inl ⟨by rfl, ?_⟩; intro W hW; go_simp; try with_reducible rfl) | exact Or.inr ⟨by rfl, rfl⟩) ?_; try simp only [Act.put, List.setIfInBounds_toArray, List.set_cons_zero, List.set_cons_succ])
            (refine takeE (belowTr w8.heap.size) 14 (by simp only [List.getElem?_toArray, List.getElem?_cons_succ, List.getElem?_cons_zero]; rfl) (by kernel_rfl) (by kernel_rfl) (by kernel_rfl) (by exact fun _ _ _ h => h) (by first | (refine Or.inl ⟨by rfl, ?_⟩; intro W hW; go_simp; try with_reducible rfl) | exact Or.inr ⟨by rfl, rfl⟩) ?_; try simp only [Act.put, List.setIfInBounds_toArray, List.set_cons_zero, List.set_cons_succ])
            (refine takeE (belowTr w8.heap.size) 15 (by simp only [List.getElem?_toArray, List.getElem?_cons_succ, List.getElem?_cons_zero]; rfl) (by kernel_rfl) (by kernel_rfl) (by kernel_rfl) (by exact fun _ _ _ h => h) (by first | (refine Or.inl ⟨by rfl, ?_⟩; intro W hW; go_simp; try with_reducible rfl) | exact Or.inr ⟨by rfl, rfl⟩) ?_; try simp only [Act.put, List.setIfInBounds_toArray, List.set_cons_zero, List.set_cons_succ])
            (refine takeE (belowTr w8.heap.size) 16 (by simp only [List.getElem?_toArray, List.getElem?_cons_succ, List.getElem?_cons_zero]; rfl) (by kernel_rfl) (by kernel_rfl) (by kernel_rfl) (by exact fun _ _ _ h => h) (by first | (refine Or.inl ⟨by rfl, ?_⟩; intro W hW; go_simp; try with_reducible rfl) | exact Or.inr ⟨by rfl, rfl⟩) ?_; try simp only [Act.put, List.setIfInBounds_toArray, List.set_cons_zero, List.set_cons_succ])
            (refine takeE (belowTr w8.heap.size) 17 (by simp only [List.getElem?_toArray, List.getElem?_cons_succ, List.getElem?_cons_zero]; rfl) (by kernel_rfl) (by kernel_rfl) (by kernel_rfl) (by exact fun _ _ _ h => h) (by first | (refine Or.inl ⟨by rfl, ?_⟩; intro W hW; go_simp; try with_reducible rfl) | exact Or.inr ⟨by rfl, rfl⟩) ?_; try simp only [Act.put, List.setIfInBounds_toArray, List.set_cons_zero, List.set_cons_succ])
            (refine takeE (belowTr w8.heap.size) 18 (by simp only [List.getElem?_toArray, List.getElem?_cons_succ, List.getElem?_cons_zero]; rfl) (by kernel_rfl) (by kernel_rfl) (by kernel_rfl) (by exact fun _ _ _ h => h) (by first | (refine Or.inl ⟨by rfl, ?_⟩; intro W hW; go_simp; try with_reducible rfl) | exact Or.inr ⟨by rfl, rfl⟩) ?_; try simp only [Act.put, List.setIfInBounds_toArray, List.set_cons_zero, List.set_cons_succ])
            (refine takeE (belowTr w8.heap.size) 19 (by simp only [List.getElem?_toArray, List.getElem?_cons_succ, List.getElem?_cons_zero]; rfl) (by kernel_rfl) (by kernel_rfl) (by kernel_rfl) (by exact fun _ _ _ h => h) (by first | (refine Or.inl ⟨by rfl, ?_⟩; intro W hW; go_simp; try with_reducible rfl) | exact Or.inr ⟨by rfl, rfl⟩) ?_; try simp only [Act.put, List.setIfInBounds_toArray, List.set_cons_zero, List.set_cons_succ])
            (refine takeE (belowTr w8.heap.size) 20 (by simp only [List.getElem?_toArray, List.getElem?_cons_succ, List.getElem?_cons_zero]; rfl) (by kernel_rfl) (by kernel_rfl) (by kernel_rfl) (by exact fun _ _ _ h => h) (by first | (refine Or.inl ⟨by rfl, ?_⟩; intro W hW; go_simp; try with_reducible rfl) | exact Or.inr ⟨by rfl, rfl⟩) ?_; try simp only [Act.put, List.setIfInBounds_toArray, List.set_cons_zero, List.set_cons_succ])
            (refine takeE (belowTr w8.heap.size) 22 (by simp only [List.getElem?_toArray, List.getElem?_cons_succ, List.getElem?_cons_zero]; rfl) (by kernel_rfl) (by kernel_rfl) (by kernel_rfl) (by exact fun _ _ _ h => h) (by first | (refine Or.inl ⟨by rfl, ?_⟩; intro W hW; go_simp; try with_reducible rfl) | exact Or.inr ⟨by rfl, rfl⟩) ?_; try simp only [Act.put, List.setIfInBounds_toArray, List.set_cons_zero, List.set_cons_succ])
            (refine takeE (belowTr w8.heap.size) 25 (by simp only [List.getElem?_toArray, List.getElem?_cons_succ, List.getElem?_cons_zero]; rfl) (by kernel_rfl) (by kernel_rfl) (by kernel_rfl) (by exact fun _ _ _ h => h) (by first | (refine Or.inl ⟨by rfl, ?_⟩; intro W hW; exact exec_load_bk rowG (.tmp 15) rfl gb 0 rfl (J0.out.bx.keep hW HGB.out.1) [.int .i64 hs, .int .i64 ps, .slice g.A g.n g.c, .int .i64 (m.ct 0), .int .i64 (m.ct 1), .int .i64 (m.ct 2), .int .i64 (m.ct 3), .int .i64 (m.ct 4)] rfl rfl) | exact Or.inr ⟨by rfl, rfl⟩) ?_; try simp only [Act.put, List.setIfInBounds_toArray, List.set_cons_zero, List.set_cons_succ])
            (refine takeE (belowTr w8.heap.size) 26 (by simp only [List.getElem?_toArray, List.getElem?_cons_succ, List.getElem?_cons_zero]; rfl) (by kernel_rfl) (by kernel_rfl) (by kernel_rfl) (by exact fun _ _ _ h => h) (by first | (refine Or.inl ⟨by rfl, ?_⟩; intro W hW; go_simp; try with_reducible rfl) | exact Or.inr ⟨by rfl, rfl⟩) ?_; try simp only [Act.put, List.setIfInBounds_toArray, List.set_cons_zero, List.set_cons_succ])
            (refine takeE (belowTr w8.heap.size) 28 (by simp only [List.getElem?_toArray, List.getElem?_cons_succ, List.getElem?_cons_zero]; rfl) (by kernel_rfl) (by kernel_rfl) (by kernel_rfl) (by exact fun _ _ _ h => h) (by first | (refine Or.inl ⟨by rfl, ?_⟩; intro W hW; go_simp; try with_reducible rfl) | exact Or.inr ⟨by rfl, rfl⟩) ?_; try simp only [Act.put, List.setIfInBounds_toArray, List.set_cons_zero, List.set_cons_succ])
            (refine takeE (belowTr w8.heap.size) 21 (by simp only [List.getElem?_toArray, List.getElem?_cons_succ, List.getElem?_cons_zero]; rfl) (by kernel_rfl) (by kernel_rfl) (by kernel_rfl) (by exact fun _ _ _ h => h) (by first | (refine Or.inl ⟨by rfl, ?_⟩; intro W hW; go_simp; try with_reducible rfl) | exact Or.inr ⟨by rfl, rfl⟩) ?_; try simp only [Act.put, List.setIfInBounds_toArray, List.set_cons_zero, List.set_cons_succ])
            (refine takeE (belowTr w8.heap.size) 23 (by simp only [List.getElem?_toArray, List.getElem?_cons_succ, List.getElem?_cons_zero]; rfl) (by kernel_rfl) (by kernel_rfl) (by kernel_rfl) (by exact fun _ _ _ h => h) (by first | (refine Or.inl ⟨by rfl, ?_⟩; intro W hW; go_simp; try with_reducible rfl) | exact Or.inr ⟨by rfl, rfl⟩) ?_; try simp only [Act.put, List.setIfInBounds_toArray, List.set_cons_zero, List.set_cons_succ])
            (refine takeE (belowTr w8.heap.size) 27 (by simp only [List.getElem?_toArray, List.getElem?_cons_succ, List.getElem?_cons_zero]; rfl) (by kernel_rfl) (by kernel_rfl) (by kernel_rfl) (by exact fun _ _ _ h => h) (by first | (refine Or.inl ⟨by rfl, ?_⟩; intro W hW; go_simp; try with_reducible rfl) | exact Or.inr ⟨by rfl, rfl⟩) ?_; try simp only [Act.put, List.setIfInBounds_toArray, List.set_cons_zero, List.set_cons_succ])
            (refine takeE (belowTr w8.heap.size) 29 (by simp only [List.getElem?_toArray, List.getElem?_cons_succ, List.getElem?_cons_zero]; rfl) (by kernel_rfl) (by kernel_rfl) (by kernel_rfl) (by exact fun _ _ _ h => h) (by first | (refine Or.inl ⟨by rfl, ?_⟩; intro W hW; go_simp; try with_reducible rfl) | exact Or.inr ⟨by rfl, rfl⟩) ?_; try simp only [Act.put, List.setIfInBounds_toArray, List.set_cons_zero, List.set_cons_succ])
            refine wpAnyE_one (i := 24) (by kernel_rfl) (by simp only [List.getElem?_toArray, List.getElem?_cons_succ, List.getElem?_cons_zero]; rfl) (fun K hK => ?_)
            go_simp
            refine (f_Packets J0.out.fb.fp p q).mono ?_
            rintro e w24 h24
            obtain ⟨A24, n24, c24, rfl, hs24, hb24⟩ := h24.slN
            have hE24 := hE0.trans (hb24.mono (Nat.le_trans (Nat.le_refl _) hE0.size))
            have J24 := Lib.hid (J0.out.below hb24)
            refine hK.out _ _ (hb24.mono hE0.size) ?_
            clear hK K
            try simp only [Act.put, List.setIfInBounds_toArray, List.set_cons_zero, List.set_cons_succ]
            refine wpAnyE_one (i := 30) (by kernel_rfl) (by simp only [List.getElem?_toArray, List.getElem?_cons_succ, List.getElem?_cons_zero]; rfl) (fun K hK => ?_)
            go_simp
            refine (g_Packets J24.out.gp p q HFEW.out).mono ?_
            rintro e w30 ⟨A30, n30, c30, rfl, hs30, hb30⟩
            have hE30 := hE24.trans (hb30.mono (Nat.le_trans (Nat.le_refl _) hE24.size))
            have J30 := Lib.hid (J24.out.below hb30)
            refine hK.out _ _ (hb30.mono hE24.size) ?_
            clear hK K
            try simp only [Act.put, List.setIfInBounds_toArray, List.set_cons_zero, List.set_cons_succ]
            refine wpAnyE_one (i := 31) (by kernel_rfl) (by simp only [List.getElem?_toArray, List.getElem?_cons_succ, List.getElem?_cons_zero]; rfl) (fun K hK => ?_)
            go_simp
            refine (r_sameAll (hs24.below hb30) hs30 (by have h1 := hs24.len; have h2 := HFEW.out; rw [List.length_append] at h1; omega)).mono ?_
            rintro e w31 ⟨rfl, hb31⟩
            have hE31 := hE30.trans (hb31.mono (Nat.le_trans (Nat.le_refl _) hE30.size))
            have J31 := Lib.hid (J30.out.below hb31)
            refine hK.out _ _ (hb31.mono hE30.size) ?_
            clear hK K
            try simp only [Act.put, List.setIfInBounds_toArray, List.set_cons_zero, List.set_cons_succ]
            (refine takeE (belowTr w8.heap.size) 32 (by simp only [List.getElem?_toArray, List.getElem?_cons_succ, List.getElem?_cons_zero]; rfl) (by kernel_rfl) (by kernel_rfl) (by kernel_rfl) (by exact fun _ _ _ h => h) (by first | (refine Or.inl ⟨by rfl, ?_⟩; intro W hW; go_simp; try with_reducible rfl) | exact Or.inr ⟨by rfl, rfl⟩) ?_; try simp only [Act.put, List.setIfInBounds_toArray, List.set_cons_zero, List.set_cons_succ])
            (refine takeE (belowTr w8.heap.size) 33 (by simp only [List.getElem?_toArray, List.getElem?_cons_succ, List.getElem?_cons_zero]; rfl) (by kernel_rfl) (by kernel_rfl) (by kernel_rfl) (by exact fun _ _ _ h => h) (by first | (refine Or.inl ⟨by rfl, ?_⟩; intro W hW; go_simp; try with_reducible rfl) | exact Or.inr ⟨by rfl, rfl⟩) ?_; try simp only [Act.put, List.setIfInBounds_toArray, List.set_cons_zero, List.set_cons_succ])
            (refine takeE (belowTr w8.heap.size) 34 (by simp only [List.getElem?_toArray, List.getElem?_cons_succ, List.getElem?_cons_zero]; rfl) (by kernel_rfl) (by kernel_rfl) (by kernel_rfl) (by exact fun _ _ _ h => h) (by first | (refine Or.inl ⟨by rfl, ?_⟩; intro W hW; go_simp; try with_reducible rfl) | exact Or.inr ⟨by rfl, rfl⟩) ?_; try simp only [Act.put, List.setIfInBounds_toArray, List.set_cons_zero, List.set_cons_succ])
            (refine takeE (belowTr w8.heap.size) 35 (by simp only [List.getElem?_toArray, List.getElem?_cons_succ, List.getElem?_cons_zero]; rfl) (by kernel_rfl) (by kernel_rfl) (by kernel_rfl) (by exact fun _ _ _ h => h) (by first | (refine Or.inl ⟨by rfl, ?_⟩; intro W hW; go_simp; try with_reducible rfl) | exact Or.inr ⟨by rfl, rfl⟩) ?_; try simp only [Act.put, List.setIfInBounds_toArray, List.set_cons_zero, List.set_cons_succ])
            (refine takeE (belowTr w8.heap.size) 37 (by simp only [List.getElem?_toArray, List.getElem?_cons_succ, List.getElem?_cons_zero]; rfl) (by kernel_rfl) (by kernel_rfl) (by kernel_rfl) (by exact fun _ _ _ h => h) (by first | (refine Or.inl ⟨by rfl, ?_⟩; intro W hW; exact exec_load_bk rowG (.tmp 15) rfl gb 0 rfl (J31.out.bx.keep hW HGB.out.1) [.int .i64 hs, .int .i64 ps, .slice g.A g.n g.c, .int .i64 (m.ct 0), .int .i64 (m.ct 1), .int .i64 (m.ct 2), .int .i64 (m.ct 3), .int .i64 (m.ct 4)] rfl rfl) | exact Or.inr ⟨by rfl, rfl⟩) ?_; try simp only [Act.put, List.setIfInBounds_toArray, List.set_cons_zero, List.set_cons_succ])
            refine wpAnyE_one (i := 36) (by kernel_rfl) (by simp only [List.getElem?_toArray, List.getElem?_cons_succ, List.getElem?_cons_zero]; rfl) (fun K hK => ?_)
            go_simp
            refine (f_Total J31.out.fb.fp).mono ?_
            rintro e w36 ⟨rfl, hb36⟩
            have hE36 := hE31.trans (hb36.mono (Nat.le_trans (Nat.le_refl _) hE31.size))
            have J36 := Lib.hid (J31.out.below hb36)
            refine hK.out _ _ (hb36.mono hE31.size) ?_
            clear hK K
            try simp only [Act.put, List.setIfInBounds_toArray, List.set_cons_zero, List.set_cons_succ]
            refine wpAnyE_one (i := 38) (by kernel_rfl) (by simp only [List.getElem?_toArray, List.getElem?_cons_succ, List.getElem?_cons_zero]; rfl) (fun K hK => ?_)
            go_simp
            refine (g_Total J36.out.gp HO.out.b HLH.out.1 HLH.out.2).mono ?_
            rintro e w38 ⟨rfl, hb38⟩
            have hE38 := hE36.trans (hb38.mono (Nat.le_trans (Nat.le_refl _) hE36.size))
            have J38 := Lib.hid (J36.out.below hb38)
            refine hK.out _ _ (hb38.mono hE36.size) ?_
            clear hK K
            try simp only [Act.put, List.setIfInBounds_toArray, List.set_cons_zero, List.set_cons_succ]
            (refine takeE (belowTr w8.heap.size) 39 (by simp only [List.getElem?_toArray, List.getElem?_cons_succ, List.getElem?_cons_zero]; rfl) (by kernel_rfl) (by kernel_rfl) (by kernel_rfl) (by exact fun _ _ _ h => h) (by first | (refine Or.inl ⟨by rfl, ?_⟩; intro W hW; go_simp; try with_reducible rfl) | exact Or.inr ⟨by rfl, rfl⟩) ?_; try simp only [Act.put, List.setIfInBounds_toArray, List.set_cons_zero, List.set_cons_succ])
            (refine takeE (belowTr w8.heap.size) 40 (by simp only [List.getElem?_toArray, List.getElem?_cons_succ, List.getElem?_cons_zero]; rfl) (by kernel_rfl) (by kernel_rfl) (by kernel_rfl) (by exact fun _ _ _ h => h) (by first | (refine Or.inl ⟨by rfl, ?_⟩; intro W hW; go_simp; try with_reducible rfl) | exact Or.inr ⟨by rfl, rfl⟩) ?_; try simp only [Act.put, List.setIfInBounds_toArray, List.set_cons_zero, List.set_cons_succ])
            (refine takeE (belowTr w8.heap.size) 41 (by simp only [List.getElem?_toArray, List.getElem?_cons_succ, List.getElem?_cons_zero]; rfl) (by kernel_rfl) (by kernel_rfl) (by kernel_rfl) (by exact fun _ _ _ h => h) (by first | (refine Or.inl ⟨by rfl, ?_⟩; intro W hW; go_simp; try with_reducible rfl) | exact Or.inr ⟨by rfl, rfl⟩) ?_; try simp only [Act.put, List.setIfInBounds_toArray, List.set_cons_zero, List.set_cons_succ])
            (refine takeE (belowTr w8.heap.size) 42 (by simp only [List.getElem?_toArray, List.getElem?_cons_succ, List.getElem?_cons_zero]; rfl) (by kernel_rfl) (by kernel_rfl) (by kernel_rfl) (by exact fun _ _ _ h => h) (by first | (refine Or.inl ⟨by rfl, ?_⟩; intro W hW; go_simp; try with_reducible rfl) | exact Or.inr ⟨by rfl, rfl⟩) ?_; try simp only [Act.put, List.setIfInBounds_toArray, List.set_cons_zero, List.set_cons_succ])
            (refine takeE (belowTr w8.heap.size) 44 (by simp only [List.getElem?_toArray, List.getElem?_cons_succ, List.getElem?_cons_zero]; rfl) (by kernel_rfl) (by kernel_rfl) (by kernel_rfl) (by exact fun _ _ _ h => h) (by first | (refine Or.inl ⟨by rfl, ?_⟩; intro W hW; go_simp; try with_reducible rfl) | exact Or.inr ⟨by rfl, rfl⟩) ?_; try simp only [Act.put, List.setIfInBounds_toArray, List.set_cons_zero, List.set_cons_succ])
            (refine takeE (belowTr w8.heap.size) 45 (by simp only [List.getElem?_toArray, List.getElem?_cons_succ, List.getElem?_cons_zero]; rfl) (by kernel_rfl) (by kernel_rfl) (by kernel_rfl) (by exact fun _ _ _ h => h) (by first | (refine Or.inl ⟨by rfl, ?_⟩; intro W hW; exact exec_load_bk row5 (.tmp 207) rfl gb 3 rfl (J38.out.bx.keep hW HGB.out.1) [.int .i64 (m.ct 0), .int .i64 (m.ct 1), .int .i64 (m.ct 2), .int .i64 (m.ct 3), .int .i64 (m.ct 4)] rfl rfl) | exact Or.inr ⟨by rfl, rfl⟩) ?_; try simp only [Act.put, List.setIfInBounds_toArray, List.set_cons_zero, List.set_cons_succ])
            refine wpAnyE_one (i := 43) (by kernel_rfl) (by simp only [List.getElem?_toArray, List.getElem?_cons_succ, List.getElem?_cons_zero]; rfl) (fun K hK => ?_)
            go_simp
            refine (f_Counts J38.out.fb.fp).mono ?_
            rintro e w43 ⟨rfl, hb43⟩
            have hE43 := hE38.trans (hb43.mono (Nat.le_trans (Nat.le_refl _) hE38.size))
            have J43 := Lib.hid (J38.out.below hb43)
            have hne : ∀ W, (binOp .neq 28 (.agg (tabV 5 m.ct).toArray) (.agg #[.int .i64 (m.ct 0), .int .i64 (m.ct 1), .int .i64 (m.ct 2), .int .i64 (m.ct 3), .int .i64 (m.ct 4)])).run Try.prog W = .ok (.bool false) W := fun W => by
              have h1 := HNE.out W
              rw [decide_eq_true rfl] at h1
              exact h1
            have q5 : ∀ W, Below w8.heap.size w43 W → W.cell? ⟨gb, 2, none⟩ = some (.slice g.A g.n g.c) := fun W hW => (J43.out.bx.keep hW HGB.out.1).cell 2 rfl
            refine hK.out _ _ (hb43.mono hE38.size) ?_
            clear hK K
            try simp only [Act.put, List.setIfInBounds_toArray, List.set_cons_zero, List.set_cons_succ]
            (refine takeE (belowTr w8.heap.size) 46 (by simp only [List.getElem?_toArray, List.getElem?_cons_succ, List.getElem?_cons_zero]; rfl) (by kernel_rfl) (by kernel_rfl) (by kernel_rfl) (by exact fun _ _ _ h => h) (by first | (refine Or.inl ⟨by rfl, ?_⟩; intro W hW; go_simp; try with_reducible rfl) | exact Or.inr ⟨by rfl, rfl⟩) ?_; try simp only [Act.put, List.setIfInBounds_toArray, List.set_cons_zero, List.set_cons_succ])
            (refine takeE (belowTr w8.heap.size) 47 (by simp only [List.getElem?_toArray, List.getElem?_cons_succ, List.getElem?_cons_zero]; rfl) (by kernel_rfl) (by kernel_rfl) (by kernel_rfl) (by exact fun _ _ _ h => h) (by first | (refine Or.inl ⟨by rfl, ?_⟩; intro W hW; go_simp; try with_reducible rfl) | exact Or.inr ⟨by rfl, rfl⟩) ?_; try simp only [Act.put, List.setIfInBounds_toArray, List.set_cons_zero, List.set_cons_succ])
            (refine takeE (belowTr w8.heap.size) 48 (by simp only [List.getElem?_toArray, List.getElem?_cons_succ, List.getElem?_cons_zero]; rfl) (by kernel_rfl) (by kernel_rfl) (by kernel_rfl) (by exact fun _ _ _ h => h) (by first | (refine Or.inl ⟨by rfl, ?_⟩; intro W hW; go_simp; try with_reducible rfl) | exact Or.inr ⟨by rfl, rfl⟩) ?_; try simp only [Act.put, List.setIfInBounds_toArray, List.set_cons_zero, List.set_cons_succ])
            (refine takeE (belowTr w8.heap.size) 49 (by simp only [List.getElem?_toArray, List.getElem?_cons_succ, List.getElem?_cons_zero]; rfl) (by kernel_rfl) (by kernel_rfl) (by kernel_rfl) (by exact fun _ _ _ h => h) (by first | (refine Or.inl ⟨by rfl, ?_⟩; intro W hW; go_simp; try with_reducible rfl) | exact Or.inr ⟨by rfl, rfl⟩) ?_; try simp only [Act.put, List.setIfInBounds_toArray, List.set_cons_zero, List.set_cons_succ])
            (refine takeE (belowTr w8.heap.size) 50 (by simp only [List.getElem?_toArray, List.getElem?_cons_succ, List.getElem?_cons_zero]; rfl) (by kernel_rfl) (by kernel_rfl) (by kernel_rfl) (by exact fun _ _ _ h => h) (by first | (refine Or.inl ⟨by rfl, ?_⟩; intro W hW; go_simp; try with_reducible rfl) | exact Or.inr ⟨by rfl, rfl⟩) ?_; try simp only [Act.put, List.setIfInBounds_toArray, List.set_cons_zero, List.set_cons_succ])
            (refine takeE (belowTr w8.heap.size) 54 (by simp only [List.getElem?_toArray, List.getElem?_cons_succ, List.getElem?_cons_zero]; rfl) (by kernel_rfl) (by kernel_rfl) (by kernel_rfl) (by exact fun _ _ _ h => h) (by first | (refine Or.inl ⟨by rfl, ?_⟩; intro W hW; go_simp; try with_reducible rfl) | exact Or.inr ⟨by rfl, rfl⟩) ?_; try simp only [Act.put, List.setIfInBounds_toArray, List.set_cons_zero, List.set_cons_succ])
            (refine takeE (belowTr w8.heap.size) 51 (by simp only [List.getElem?_toArray, List.getElem?_cons_succ, List.getElem?_cons_zero]; rfl) (by kernel_rfl) (by kernel_rfl) (by kernel_rfl) (by exact fun _ _ _ h => h) (by first | (refine Or.inl ⟨by rfl, ?_⟩; intro W hW; go_simp; try with_reducible rfl) | exact Or.inr ⟨by rfl, rfl⟩) ?_; try simp only [Act.put, List.setIfInBounds_toArray, List.set_cons_zero, List.set_cons_succ])
            (refine takeE (belowTr w8.heap.size) 52 (by simp only [List.getElem?_toArray, List.getElem?_cons_succ, List.getElem?_cons_zero]; rfl) (by kernel_rfl) (by kernel_rfl) (by kernel_rfl) (by exact fun _ _ _ h => h) (by first | (refine Or.inl ⟨by rfl, ?_⟩; intro W hW; go_simp; try with_reducible rfl) | exact Or.inr ⟨by rfl, rfl⟩) ?_; try simp only [Act.put, List.setIfInBounds_toArray, List.set_cons_zero, List.set_cons_succ])
            refine wpAnyE_one (i := 53) (by kernel_rfl) (by simp only [List.getElem?_toArray, List.getElem?_cons_succ, List.getElem?_cons_zero]; rfl) (fun K hK => ?_)
            go_simp
            refine (l_busy J43.out.fb.fp g.n (by have := HBT.out.2; omega)).mono ?_
            rintro e w53 ⟨A53, n53, c53, rfl, hl53, hb53⟩
            rw [HBT.out.1] at hl53
            have hE53 := hE43.trans (hb53.mono (Nat.le_trans (Nat.le_refl _) hE43.size))
            have J53 := Lib.hid (J43.out.below hb53)
            refine hK.out _ _ (hb53.mono hE43.size) ?_
            clear hK K
            try simp only [Act.put, List.setIfInBounds_toArray, List.set_cons_zero, List.set_cons_succ]
            refine wpAnyE_one (i := 55) (by kernel_rfl) (by simp only [List.getElem?_toArray, List.getElem?_cons_succ, List.getElem?_cons_zero]; rfl) (fun K hK => ?_)
            go_simp
            refine (same_refl hl53.rdv (HL8.out.below hE53)).mono ?_
            rintro e w55 ⟨rfl, hb55⟩
            have hE55 := hE53.trans (hb55.mono (Nat.le_trans (Nat.le_refl _) hE53.size))
            have J55 := Lib.hid (J53.out.below hb55)
            refine hK.out _ _ (hb55.mono hE53.size) ?_
            clear hK K
            try simp only [Act.put, List.setIfInBounds_toArray, List.set_cons_zero, List.set_cons_succ]
            (refine takeE (belowTr w8.heap.size) 56 (by simp only [List.getElem?_toArray, List.getElem?_cons_succ, List.getElem?_cons_zero]; rfl) (by kernel_rfl) (by kernel_rfl) (by kernel_rfl) (by exact fun _ _ _ h => h) (by first | (refine Or.inl ⟨by rfl, ?_⟩; intro W hW; go_simp; try with_reducible rfl) | exact Or.inr ⟨by rfl, rfl⟩) ?_; try simp only [Act.put, List.setIfInBounds_toArray, List.set_cons_zero, List.set_cons_succ])
            (refine takeE (belowTr w8.heap.size) 57 (by simp only [List.getElem?_toArray, List.getElem?_cons_succ, List.getElem?_cons_zero]; rfl) (by kernel_rfl) (by kernel_rfl) (by kernel_rfl) (by exact fun _ _ _ h => h) (by first | (refine Or.inl ⟨by rfl, ?_⟩; intro W hW; go_simp; try with_reducible rfl) | exact Or.inr ⟨by rfl, rfl⟩) ?_; try simp only [Act.put, List.setIfInBounds_toArray, List.set_cons_zero, List.set_cons_succ])
            (refine takeE (belowTr w8.heap.size) 58 (by simp only [List.getElem?_toArray, List.getElem?_cons_succ, List.getElem?_cons_zero]; rfl) (by kernel_rfl) (by kernel_rfl) (by kernel_rfl) (by exact fun _ _ _ h => h) (by first | (refine Or.inl ⟨by rfl, ?_⟩; intro W hW; go_simp; try with_reducible rfl) | exact Or.inr ⟨by rfl, rfl⟩) ?_; try simp only [Act.put, List.setIfInBounds_toArray, List.set_cons_zero, List.set_cons_succ])
            (refine takeE (belowTr w8.heap.size) 59 (by simp only [List.getElem?_toArray, List.getElem?_cons_succ, List.getElem?_cons_zero]; rfl) (by kernel_rfl) (by kernel_rfl) (by kernel_rfl) (by exact fun _ _ _ h => h) (by first | (refine Or.inl ⟨by rfl, ?_⟩; intro W hW; go_simp; try with_reducible rfl) | exact Or.inr ⟨by rfl, rfl⟩) ?_; try simp only [Act.put, List.setIfInBounds_toArray, List.set_cons_zero, List.set_cons_succ])
            (refine takeE (belowTr w8.heap.size) 61 (by simp only [List.getElem?_toArray, List.getElem?_cons_succ, List.getElem?_cons_zero]; rfl) (by kernel_rfl) (by kernel_rfl) (by kernel_rfl) (by exact fun _ _ _ h => h) (by first | (refine Or.inl ⟨by rfl, ?_⟩; intro W hW; go_simp; try with_reducible rfl) | exact Or.inr ⟨by rfl, rfl⟩) ?_; try simp only [Act.put, List.setIfInBounds_toArray, List.set_cons_zero, List.set_cons_succ])
            (refine takeE (belowTr w8.heap.size) 62 (by simp only [List.getElem?_toArray, List.getElem?_cons_succ, List.getElem?_cons_zero]; rfl) (by kernel_rfl) (by kernel_rfl) (by kernel_rfl) (by exact fun _ _ _ h => h) (by first | (refine Or.inl ⟨by rfl, ?_⟩; intro W hW; go_simp; try with_reducible rfl) | exact Or.inr ⟨by rfl, rfl⟩) ?_; try simp only [Act.put, List.setIfInBounds_toArray, List.set_cons_zero, List.set_cons_succ])
            (refine takeE (belowTr w8.heap.size) 63 (by simp only [List.getElem?_toArray, List.getElem?_cons_succ, List.getElem?_cons_zero]; rfl) (by kernel_rfl) (by kernel_rfl) (by kernel_rfl) (by exact fun _ _ _ h => h) (by first | (refine Or.inl ⟨by rfl, ?_⟩; intro W hW; go_simp; try with_reducible rfl) | exact Or.inr ⟨by rfl, rfl⟩) ?_; try simp only [Act.put, List.setIfInBounds_toArray, List.set_cons_zero, List.set_cons_succ])
            (refine takeE (belowTr w8.heap.size) 64 (by simp only [List.getElem?_toArray, List.getElem?_cons_succ, List.getElem?_cons_zero]; rfl) (by kernel_rfl) (by kernel_rfl) (by kernel_rfl) (by exact fun _ _ _ h => h) (by first | (refine Or.inl ⟨by rfl, ?_⟩; intro W hW; go_simp; try with_reducible rfl) | exact Or.inr ⟨by rfl, rfl⟩) ?_; try simp only [Act.put, List.setIfInBounds_toArray, List.set_cons_zero, List.set_cons_succ])
            (refine takeE (belowTr w8.heap.size) 65 (by simp only [List.getElem?_toArray, List.getElem?_cons_succ, List.getElem?_cons_zero]; rfl) (by kernel_rfl) (by kernel_rfl) (by kernel_rfl) (by exact fun _ _ _ h => h) (by first | (refine Or.inl ⟨by rfl, ?_⟩; intro W hW; go_simp; try with_reducible rfl) | exact Or.inr ⟨by rfl, rfl⟩) ?_; try simp only [Act.put, List.setIfInBounds_toArray, List.set_cons_zero, List.set_cons_succ])
            refine wpAnyE_one (i := 60) (by kernel_rfl) (by simp only [List.getElem?_toArray, List.getElem?_cons_succ, List.getElem?_cons_zero]; rfl) (fun K hK => ?_)
            go_simp
            refine (l_busy J55.out.fb.fp 1 (by decide)).mono ?_
            rintro e w60 ⟨A60, n60, c60, rfl, hl60, hb60⟩
            have hE60 := hE55.trans (hb60.mono (Nat.le_trans (Nat.le_refl _) hE55.size))
            have J60 := Lib.hid (J55.out.below hb60)
            refine hK.out _ _ (hb60.mono hE55.size) ?_
            clear hK K
            try simp only [Act.put, List.setIfInBounds_toArray, List.set_cons_zero, List.set_cons_succ]
            refine wpAnyE_one (i := 66) (by kernel_rfl) (by simp only [List.getElem?_toArray, List.getElem?_cons_succ, List.getElem?_cons_zero]; rfl) (fun K hK => ?_)
            go_simp
            have hp66 := HPL.out.below hE60
            rw [← HPR.out] at hp66
            refine (same_refl hl60.rdv hp66).mono ?_
            rintro e w66 ⟨rfl, hb66⟩
            have hE66 := hE60.trans (hb66.mono (Nat.le_trans (Nat.le_refl _) hE60.size))
            have J66 := Lib.hid (J60.out.below hb66)
            refine hK.out _ _ (hb66.mono hE60.size) ?_
            clear hK K
            try simp only [Act.put, List.setIfInBounds_toArray, List.set_cons_zero, List.set_cons_succ]
            (refine takeE (belowTr w8.heap.size) 67 (by simp only [List.getElem?_toArray, List.getElem?_cons_succ, List.getElem?_cons_zero]; rfl) (by kernel_rfl) (by kernel_rfl) (by kernel_rfl) (by exact fun _ _ _ h => h) (by first | (refine Or.inl ⟨by rfl, ?_⟩; intro W hW; go_simp; try with_reducible rfl) | exact Or.inr ⟨by rfl, rfl⟩) ?_; try simp only [Act.put, List.setIfInBounds_toArray, List.set_cons_zero, List.set_cons_succ])
            (refine takeE (belowTr w8.heap.size) 68 (by simp only [List.getElem?_toArray, List.getElem?_cons_succ, List.getElem?_cons_zero]; rfl) (by kernel_rfl) (by kernel_rfl) (by kernel_rfl) (by exact fun _ _ _ h => h) (by first | (refine Or.inl ⟨by rfl, ?_⟩; intro W hW; go_simp; try with_reducible rfl) | exact Or.inr ⟨by rfl, rfl⟩) ?_; try simp only [Act.put, List.setIfInBounds_toArray, List.set_cons_zero, List.set_cons_succ])
            refine wpAnyE_done (by kernel_rfl) ?_ _
            have JE := J66
            clear q2 q3
            go_wp2
            go_roundw
            case rel => exact ⟨i + 1, b, m, g, F, pp, FF, by go_num, by omega, by omega, rfl, JE.out, HO.out⟩
            case measure => simp [intOf]; omega
      · rcases (by omega : ¬ (i : Int) < n0 ∨ ((i : Int) < n0 ∧ i = 60)) with hx | ⟨hx, rfl⟩
        · clear hc
          go_wp2
          go_ret
          exact ⟨rfl, HJ.out.bl⟩
        · clear hc
          go_wp2
          go_ret
          exact ⟨rfl, HJ.out.bl⟩
  · have hbad : ∃ er : Int, er ≠ 0 ∧ Hid (∀ W, Calls Try.prog 6 #[.int .i64 hosts, .int .i64 paths, .int .i64 low, .int .i64 high, .int .i64 wt] W fun e w' => e = .returned (.tuple #[.pointer none, .int .i64 er]) ∧ Below W.heap.size W w') ∧ Hid (∀ W, Calls Try.prog 7 #[.int .i64 hosts, .int .i64 paths, .int .i64 low, .int .i64 high, .int .i64 wt] W fun e w' => e = .returned (.tuple #[.agg ([.int .i64 0, .int .i64 0, .slice none 0 0, .int .i64 0, .int .i64 0, .int .i64 0, .int .i64 0, .int .i64 0] : List Value).toArray, .int .i64 er]) ∧ Below W.heap.size W w') := by
      cases hd : dimB hosts paths with
      | false => exact ⟨90, by decide, Lib.hid fun W => f_new_dim _ _ _ _ _ W hd, Lib.hid fun W => g_new_dim _ _ _ _ _ W hd⟩
      | true =>
        have hf : fitB low = false ∨ fitB high = false ∨ fitB wt = false := by
          cases h1 : fitB low with
          | false => exact .inl rfl
          | true =>
            cases h2 : fitB high with
            | false => exact .inr (.inl rfl)
            | true =>
              cases h3 : fitB wt with
              | false => exact .inr (.inr rfl)
              | true => exact absurd ⟨hd, h1, h2, h3⟩ hok
        exact ⟨80, by decide, Lib.hid fun W => f_new_fit _ _ _ _ _ W hd hf, Lib.hid fun W => g_new_fit _ _ _ _ _ W hd hf⟩
    obtain ⟨er, he, HVN, HRN⟩ := hbad
    have heB : (er == 0) = false := by simpa using he
    clear he hok
    go_enter Try.func3, Try.ntmps3
    go_wp2_with (first
      | (go_at_call 6; refine (HVN.out _).mono ?_; rintro en w1 ⟨rfl, hb1⟩
         have HB1 := Lib.hid hb1
         clear hb1)
      | (go_at_call 7; refine (HRN.out _).mono ?_; rintro en w2 ⟨rfl, hb2⟩
         have HB3 := Lib.hid (below_on (below_on HB1.out hb2) ((Below.refl _ _).alloc (Nat.le_refl _) (.cells ([.int .i64 0, .int .i64 0, .slice none 0 0, .int .i64 0, .int .i64 0, .int .i64 0, .int .i64 0, .int .i64 0] : List Value).toArray 30)))
         clear hb2)
      | (go_at_call 8; refine (p_awake _).mono ?_; rintro en w4 ⟨rfl, hb4⟩
         have HB4 := Lib.hid (below_on HB3.out hb4)
         clear hb4))
    go_loopw [13, 17] (fun fv iv wr => fv = .pointer none ∧ iv = .int .i64 0 ∧ Below w.heap.size w wr) (fun _ _ _ => 0)
    case atStart => exact ⟨rfl, rfl, HB4.out⟩
    case round =>
      obtain ⟨rfl, rfl, hb⟩ := hrel
      have HB := Lib.hid hb
      clear hb
      by_cases hn : n0 = 0
      · subst hn
        go_wp2
        go_ret
        exact ⟨rfl, HB.out⟩
      · have hn' : (0 : Int) < n0 := by omega
        go_wp2
        go_ret
        exact ⟨rfl, HB.out⟩
end Go.Proofs.Ytboclbanccfbjaa
