/- The law of any calls of a list of paths. -/
import Derived.Test.YtiefgicapcljiaaQ16
import Derived.Test.YtiefgicapcljiaaOpenV
set_option linter.unusedSimpArgs false
set_option linter.unusedVariables false
namespace Go.Proofs.Ytiefgicapcljiaa
open Go.RowKit Go.Shelf
abbrev OpT : Ty := .one (.int .u8) (.one (.sl (.int .i64)) .unit)
/-- The k-th call, as it lies in memory. -/
theorem op_at {w : World} {s : Sl OpT.den} (h : (Ty.sl OpT).reads w s) (k : Nat) (hk : k < s.n) : ∃ (g o dv m d : Nat) (B : Option Addr) (ls : List Int), s.A = some ⟨g, o, none⟩ ∧ g < w.heap.size ∧
    w.cell? ⟨g, o + k * 2, none⟩ = some (.int .u8 dv) ∧ w.cell? ⟨g, o + k * 2 + 1, none⟩ = some (.slice B m d) ∧ dv < 256 ∧ Rd .i64 w B m d ls := by
  obtain ⟨h1, h2, h3, h4, h5, h6⟩ := h
  have h1' : s.l.length = s.n := h1
  have hkl : k < s.l.length := by omega
  obtain ⟨g, o, hA, hg, hx⟩ := h5 (by omega) (show 0 < 2 from by omega)
  obtain ⟨dv, ⟨B, m, d, ls⟩, u, hv⟩ : ∃ (dv : Int) (t : Sl Int) (u : Unit), (show OpT.den from (dv, t, u)) = s.l[k] := ⟨(s.l[k] : OpT.den).1, (s.l[k] : OpT.den).2.1, (s.l[k] : OpT.den).2.2, rfl⟩
  have hr : OpT.reads w s.l[k] := h6 _ (List.getElem_mem _)
  rw [← hv] at hr
  obtain ⟨r1, r2, _⟩ := hr
  have hb : 0 ≤ dv ∧ dv < 256 := u8_bounds r1
  have hdv : dv = (dv.toNat : Int) := by omega
  have x0 := hx k hkl 0 (.int .u8 dv) (by rw [← hv]; rfl)
  have x1 := hx k hkl 1 (.slice B m d) (by rw [← hv]; rfl)
  refine ⟨g, o, dv.toNat, m, d, B, ls, hA, hg, ?_, x1, by omega, rd_of_reads ⟨B, m, d, ls⟩ r2⟩
  rw [← hdv]
  exact x0
theorem RL.cells {G : Nat → Prop} {w : World} {L : PL} {v : Value} (h : RL G w L v) (ht : L.told.length = 8) : ∃ cs : List Value, v = .agg cs.toArray ∧ cs.length = 13 ∧ ∀ v ∈ cs, v.oneCell' = true := by
  obtain ⟨_, A, n, c, B, m, d, rfl, _, _⟩ := h
  exact ⟨_, rfl, cellsR_len _ _ _ _ _ _ _ _ _ ht, cellsR_one _ _ _ _ _ _ _ _ _ _⟩
/-- A list and the reference's, which lies in box g, side by side. -/
structure JL (w : World) (g p : Nat) (F G : Nat → Prop) (L R : PL) (cs : List Value) (W : World) : Prop where
  pm : Pm F W p L
  rl : RL G W R (.agg cs.toArray)
  bk : Bk W 34 g cs
  len : cs.length = 13
  fge : ∀ j, F j → w.heap.size ≤ j
  gge : w.heap.size ≤ g
  sep : Sep G F
  nf : ¬ F g
  ng : ¬ G g
  bel : Below w.heap.size w W
section
variable {w W W' : World} {g p : Nat} {F G : Nat → Prop} {L L' R R' : PL} {cs cs' : List Value}
theorem JL.next (h : JL w g p F G L R cs W) (hb : Below W.heap.size W W') : JL w g p F G L R cs W' :=
  ⟨h.pm.below hb, h.rl.below hb, h.bk.below hb, h.len, h.fge, h.gge, h.sep, h.nf, h.ng, h.bel.trans (hb.mono h.bel.size)⟩
theorem JL.did (h : JL w g p F G L R cs W) (hd : Did F p L' W W') : ∃ F', JL w g p F' G L' R cs W' := by
  obtain ⟨F', h1, h2, h3⟩ := hd
  refine ⟨F', h1, h.rl.st h2 h.sep, h.bk.st h2 h.nf, h.len, h3.ge h.fge h.bel.size, h.gge, ?_, h3.not h.bk.lt h.nf, h.ng, h.bel.trans (h2.below h.bel.size h.fge)⟩
  exact (Sep.gr h.sep.symm h3 h.rl.1).symm
/-- The reference has told; its list goes into the box. -/
theorem JL.ref {W1 : World} {G' : Nat → Prop} (h : JL w g p F G L R cs W) (hb : Below W.heap.size W W1) (hr : RL G' W1 R' (.agg cs'.toArray)) (hg : Gr G G' W.heap.size) (hl : cs'.length = 13) (hb2 : Below W1.heap.size W1 W') (hbk : Bk W' 34 g cs) :
    ∀ W'', Bk W'' 34 g cs' → Wr g W' W'' → JL w g p F G' L R' cs' W'' := by
  intro W'' hk hw
  have hbb : Below W.heap.size W W' := hb.trans (hb2.mono hb.size)
  have hsep : Sep G' F := by
    refine Sep.gr h.sep hg h.pm.2.1
  have hng : ¬ G' g := hg.not h.bk.lt h.ng
  have hst : St (· = g) W' W'' := ⟨hw.os, hw.tape, hw.output, hw.size, fun j hj hn => hw.block j hj (by intro e; injection e with e; exact hn e)⟩
  exact ⟨(h.pm.below hbb).st hst (fun j hj e => h.nf (e ▸ hj)), (hr.below hb2).st hst (fun j hj e => hng (e ▸ hj)), hk, hl, h.fge, h.gge, hsep, h.nf, hng, (h.bel.trans (hbb.mono h.bel.size)).trans (hw.below h.gge (by have := h.bel.size; have := hbb.size; omega))⟩
/-- A fork goes on, and the elder list is asked for its next path. -/
theorem JL.fork {W1 : World} {p' : Nat} {F' : Nat → Prop} (h : JL w g p F G L R cs W) (hp : Pm F' W1 p' L) (hF : ∀ j, F' j → W.heap.size ≤ j) (hb : Below W.heap.size W W1) (hd : Did F p L' W1 W') : JL w g p' F' G L R cs W' := by
  have h1 := h.next hb
  obtain ⟨F2, h2⟩ := h1.did hd
  obtain ⟨F3, h3, h4, h5⟩ := hd
  have hs : Sep F' F := sep_lt (n := W.heap.size) hF h.pm.2.1
  exact ⟨hp.st h4 hs, h2.rl, h2.bk, h2.len, fun j hj => by have := hF j hj; have := h.bel.size; omega, h.gge, (sep_lt (n := W.heap.size) hF h.rl.1).symm, fun hf => by have := hF g hf; have := h.bk.lt; omega, h.ng, h2.bel⟩
end
set_option maxRecDepth 100000 in
set_option maxHeartbeats 8000000 in
theorem lawRuns (s : Int) (X : Option Addr) (nx cx : Nat) (xs0 : List Int) (ops : Sl OpT.den) (w : World) (hx : Rd .i64 w X nx cx xs0) (h : (Ty.sl OpT).reads w ops) :
    Calls Try.prog 3 #[.int .u64 s, .slice X nx cx, .slice ops.A ops.n ops.c] w fun e w' => e = .returned (.bool true) ∧ Below w.heap.size w w' := by
  have hnm : ops.n ≤ 9223372036854775807 := by have h := h.2; simp only [maxLen] at h; omega
  have HOp := Lib.hid (op_at h)
  obtain ⟨A0, n0, c0, l0⟩ := ops
  dsimp only at *
  clear h
  go_enter Try.func3, Try.ntmps3
  go_wp2_with fail
  refine (short_any X nx cx xs0 w hx).mono ?_
  rintro e w0 ⟨⟨m, -, -, rfl, hxs⟩, rfl⟩
  generalize xs0.take 20 = xs at *
  clear hx
  by_cases hv : valP xs = true
  · go_wp2_with fail
    refine (pm_new w s X m cx xs hxs hv).mono ?_
    rintro e w1 ⟨p, F, rfl, hp, hF, hb1⟩
    go_wp2_with fail
    refine (rnew_any w1 s X m cx xs (hxs.below hb1) hv).mono ?_
    rintro e w2 ⟨v, G, rfl, hr, hG, hb2⟩
    obtain ⟨cs, rfl, hcl, hc1⟩ := hr.cells (PL.new_ok s hv).t1
    have hz := Bk.new w2 34 zeroR
    have HCL := Lib.hid hcl
    have HC1 := Lib.hid hc1
    have HP := Lib.hid (hp.below hb2)
    have HPL := Lib.hid hp.2.1
    have HR := Lib.hid hr
    have HF := Lib.hid hF
    have HG := Lib.hid hG
    have HB := Lib.hid (hb1.trans (hb2.mono hb1.size))
    have HB1 := Lib.hid hb1.size
    have HB2 := Lib.hid hb2.size
    have HV := Lib.hid hv
    clear hcl hc1 hp hr hF hG hb1 hb2 hv hxs
    go_wp2_with (refine at_store 34 (.tmp 9) (.tmp 32) (by rfl) ?_; refine wpList_store_bk rowRef rfl (.tmp 9) (.tmp 32) rfl w2.heap.size 0 rfl hz cs rfl HCL.out (by decide) HC1.out ?_; rintro w3 hz3 hw3)
    rw [lay_all _ _ HCL.out] at hz3
    have hJ : JL w w2.heap.size p F G (PL.new s xs) (PL.new s xs) cs w3 := by
      have hst : St (· = w2.heap.size) (w2.alloc (.cells zeroR.toArray 34)) w3 := ⟨hw3.os, hw3.tape, hw3.output, hw3.size, fun j hj hn => hw3.block j hj (by intro e; injection e with e; exact hn e)⟩
      have hba : Below w2.heap.size w2 (w2.alloc (.cells zeroR.toArray 34)) := (Below.refl _ _).alloc (Nat.le_refl _) _
      refine ⟨(HP.out.below hba).st hst (fun j hj e => by have := HP.out.2.1 j hj; omega), (HR.out.below hba).st hst (fun j hj e => by have := HR.out.1 j hj; omega), hz3, HCL.out, HF.out, HB.out.size, (sep_lt (n := w1.heap.size) HG.out HPL.out), fun hf => by have := HP.out.2.1 _ hf; omega, fun hf => by have := HR.out.1 _ hf; omega, ?_⟩
      exact (HB.out.alloc HB.out.size _).trans (hw3.below HB.out.size (by rw [World.size_alloc]; have := HB.out.size; omega))
    have HJ := Lib.hid hJ
    clear hJ hz hz3 hw3
    refine (awake_any w3).mono ?_
    rintro e w4 ⟨rfl, hb4⟩
    have hJ := HJ.out.next hb4
    clear hb4
    generalize w2.heap.size = gb at *
    go_wp2_with fail
    clear HP HPL HR HF HG HB HB1 HB2 HCL HC1 HJ
    go_loopw [7, 11] (fun lp i wr => ∃ (k : Nat) (p : Nat) (F G : Nat → Prop) (L : PL) (cs : List Value), k ≤ n0 ∧ k ≤ 60 ∧ i = .int .i64 k ∧ lp = .pointer (some ⟨p, 0, none⟩) ∧ L.ok (k + 1) ∧ JL w gb p F G L L cs wr) (fun _ i _ => n0 + 1 - (intOf i).toNat)
    case atStart => exact ⟨0, p, F, G, _, cs, Nat.zero_le _, by omega, rfl, rfl, PL.new_ok s HV.out, hJ⟩
    case round =>
      clear hJ HV
      obtain ⟨k, p, F, G, L, cs, hkn, hk60, rfl, rfl, hok, hJ⟩ := hrel
      have HCS := Lib.hid hJ.len
      have HOK := Lib.hid hok
      obtain ⟨cs2, hcs2, -, hone⟩ := hJ.rl.cells hok.t1
      clear cs2 hcs2 hone hok
      by_cases hc : k < n0 ∧ k < 60
      · obtain ⟨hlt, h60⟩ := hc
        have h60' : (k : Int) < 60 := by omega
        have hlt' : (k : Int) < n0 := by omega
        obtain ⟨g, o, dv, m1, d1, B1, ls, hA, hg, o0, o1, hdv, hls⟩ := HOp.out k hlt
        obtain rfl : A0 = some ⟨g, o, none⟩ := hA
        have hO : ∀ W, Below w.heap.size w W → W.cell? ⟨g, o + k * 2, none⟩ = some (.int .u8 dv) ∧ W.cell? ⟨g, o + k * 2 + 1, none⟩ = some (.slice B1 m1 d1) := fun W hW => ⟨(hW.cell hg).trans o0, (hW.cell hg).trans o1⟩
        have HO := Lib.hid hO
        have HLS := Lib.hid hls
        have J0 := Lib.hid hJ
        clear hO o0 o1 hls
        go_wp2_with (refine at_load 34 (.tmp 9) (by rfl) ?_; refine wpList_load_bk rowRef rfl (.tmp 9) rfl gb 0 rfl hJ.bk cs HCS.out (all_take _) ?_)
        refine (same_law F G _ p L _ _ hJ.pm HOK.out hJ.rl).mono ?_
        rintro e w3 ⟨rfl, hb3⟩
        have hj3 := hJ.next hb3
        have J3 := Lib.hid hj3
        have k0 := (HO.out _ hj3.bel).1
        have k1 := (HO.out _ hj3.bel).2
        clear hj3 hb3 hJ
        rcases (by omega : (dv : Int) % 7 = 5 ∨ (dv : Int) % 7 = 6 ∨ ((dv : Int) % 7 ≠ 5 ∧ (dv : Int) % 7 ≠ 6)) with h0 | h0 | ⟨h0, h1⟩
        · go_wp2_with fail
          refine (short_any B1 m1 d1 ls w3 (HLS.out.below J3.out.bel)).mono ?_
          rintro e w3' ⟨⟨m2, hm2, hm20, rfl, hls2⟩, rfl⟩
          clear k0 k1
          go_wp2_with fail
          refine (pm_renew F w3 p L (k + 1) B1 m2 d1 (ls.take 20) J3.out.pm HOK.out (by omega) hls2).mono ?_
          rintro e w4 ⟨rfl, hd4⟩
          obtain ⟨F4, hj4⟩ := J3.out.did hd4
          have J4 := Lib.hid hj4
          have hls4 : Rd .i64 w4 B1 m2 d1 (ls.take 20) := by
            have := HLS.out.below (hj4.bel)
            rcases Nat.lt_or_ge 20 m1 with hm | hm
            · have h20 := this.pre (s := 20) (by omega)
              have e20 : m2 = 20 := by have := hls2.1; have := HLS.out.1; simp at *; omega
              rw [e20]; exact h20
            · have em : m2 = m1 := by have := hls2.1; have := HLS.out.1; simp at *; omega
              rw [em, List.take_of_length_le (by rw [HLS.out.1]; exact hm)]; exact this
          clear hd4 hj4 hls2
          have hbk4 := J4.out.bk
          go_wp2_with (refine at_load 34 (.tmp 9) (by rfl) ?_; refine wpList_load_bk rowRef rfl (.tmp 9) rfl gb 0 rfl hbk4 cs HCS.out (all_take _) ?_)
          refine (rl_renew G w4 L _ (k + 1) B1 m2 d1 (ls.take 20) J4.out.rl HOK.out (by omega) hls4).mono ?_
          rintro e w5 ⟨v', G', rfl, hr5, hg5, hb5⟩
          clear hls4
          obtain ⟨cs', rfl, hcl', hc1'⟩ := hr5.cells (HOK.out.renew (ls.take 20)).t1
          have HCL' := Lib.hid hcl'
          have HC1' := Lib.hid hc1'
          have hz := Bk.new w5 34 zeroR
          have hj5 := J4.out.next hb5
          have HB5 := Lib.hid hb5
          have HR5 := Lib.hid hr5
          have HG5 := Lib.hid hg5
          have hg5b : gb ≠ w5.heap.size := by have := hj5.bk.lt; omega
          have HJ5 := Lib.hid hj5
          clear hcl' hc1' hj5 hb5 hr5 hg5
          go_wp2_with (first
            | (refine at_store 34 (.tmp 14) (.tmp 98) (by rfl) ?_; refine wpList_store_bk rowRef rfl (.tmp 14) (.tmp 98) rfl w5.heap.size 0 rfl hz cs' rfl HCL'.out (by decide) HC1'.out ?_; rintro w6 hz6 hw6
               rw [lay_all _ _ HCL'.out] at hz6
               have hb6 : Below w5.heap.size w5 w6 := ((Below.refl _ _).alloc (Nat.le_refl _) _).trans (hw6.below (Nat.le_refl _) (by simp))
               have hk6 := HJ5.out.bk.below hb6)
            | (refine at_load 34 (.tmp 14) (by rfl) ?_; refine wpList_load_bk rowRef rfl (.tmp 14) rfl w5.heap.size 0 rfl hz6 cs' HCL'.out (all_take _) ?_)
            | (refine at_store 34 (.tmp 9) (.tmp 100) (by rfl) ?_; refine wpList_store_bk rowRef rfl (.tmp 9) (.tmp 100) rfl gb 0 rfl hk6 cs' rfl HCL'.out (by rw [HJ5.out.len]; decide) HC1'.out ?_; rintro w7 hk7 hw7
               rw [lay_all _ _ (by rw [HCL'.out, HJ5.out.len])] at hk7
               have hJ7 := J4.out.ref HB5.out HR5.out HG5.out HCL'.out hb6 hk6 w7 hk7 hw7
               have HJ7 := Lib.hid hJ7
               clear hJ7 hk7 hw7 hk6 hb6 hz6 hw6 hz))

          go_wp2
          go_roundw
          case rel => exact ⟨k + 1, p, _, _, _, _, by omega, by omega, by go_num, rfl, by have := HOK.out.renew (ls.take 20); rw [show ((k + 1 : Nat) : Int) = k + 1 from by omega]; exact this, HJ7.out⟩
          case measure => simp [intOf]; omega
        · go_wp2_with fail
          refine (pm_fork F w3 p L (k + 1) J3.out.pm HOK.out).mono ?_
          rintro e w4 ⟨p', F', rfl, hp4, hF4, hb4⟩
          have HP4 := Lib.hid hp4
          have HF4 := Lib.hid hF4
          have HB4 := Lib.hid hb4
          have hj4 := J3.out.next hb4
          have J4 := Lib.hid hj4
          clear hp4 hF4 hb4 hj4 k0 k1
          go_wp2_with fail
          refine (pm_next F w4 p L (k + 1) J4.out.pm HOK.out (by omega)).mono ?_
          rintro e w5 ⟨rfl, hd5⟩
          have HJ7 := Lib.hid (J3.out.fork HP4.out HF4.out HB4.out hd5)
          clear hd5
          go_wp2
          go_roundw
          case rel => exact ⟨k + 1, p', _, _, _, _, by omega, by omega, by go_num, rfl, by have := HOK.out.mono (b' := k + 1 + 1) (by omega); rw [show ((k + 1 : Nat) : Int) = k + 1 from by omega]; exact this, HJ7.out⟩
          case measure => simp [intOf]; omega
        · go_wp2_with fail
          refine (pm_next F w3 p L (k + 1) J3.out.pm HOK.out (by omega)).mono ?_
          rintro e w4 ⟨rfl, hd4⟩
          obtain ⟨F4, hj4⟩ := J3.out.did hd4
          have J4 := Lib.hid hj4
          clear hd4 hj4 k0 k1
          have hbk4 := J4.out.bk
          go_wp2_with (refine at_load 34 (.tmp 9) (by rfl) ?_; refine wpList_load_bk rowRef rfl (.tmp 9) rfl gb 0 rfl hbk4 cs HCS.out (all_take _) ?_)
          refine (rl_next G w4 L _ (k + 1) J4.out.rl HOK.out (by omega)).mono ?_
          rintro e w5 ⟨v', G', rfl, hr5, hg5, hb5⟩

          obtain ⟨cs', rfl, hcl', hc1'⟩ := hr5.cells HOK.out.next.t1
          have HCL' := Lib.hid hcl'
          have HC1' := Lib.hid hc1'
          have hz := Bk.new w5 34 zeroR
          have hj5 := J4.out.next hb5
          have HB5 := Lib.hid hb5
          have HR5 := Lib.hid hr5
          have HG5 := Lib.hid hg5
          have hg5b : gb ≠ w5.heap.size := by have := hj5.bk.lt; omega
          have HJ5 := Lib.hid hj5
          clear hcl' hc1' hj5 hb5 hr5 hg5
          go_wp2_with (first
            | (refine at_store 34 (.tmp 18) (.tmp 77) (by rfl) ?_; refine wpList_store_bk rowRef rfl (.tmp 18) (.tmp 77) rfl w5.heap.size 0 rfl hz cs' rfl HCL'.out (by decide) HC1'.out ?_; rintro w6 hz6 hw6
               rw [lay_all _ _ HCL'.out] at hz6
               have hb6 : Below w5.heap.size w5 w6 := ((Below.refl _ _).alloc (Nat.le_refl _) _).trans (hw6.below (Nat.le_refl _) (by simp))
               have hk6 := HJ5.out.bk.below hb6)
            | (refine at_load 34 (.tmp 18) (by rfl) ?_; refine wpList_load_bk rowRef rfl (.tmp 18) rfl w5.heap.size 0 rfl hz6 cs' HCL'.out (all_take _) ?_)
            | (refine at_store 34 (.tmp 9) (.tmp 79) (by rfl) ?_; refine wpList_store_bk rowRef rfl (.tmp 9) (.tmp 79) rfl gb 0 rfl hk6 cs' rfl HCL'.out (by rw [HJ5.out.len]; decide) HC1'.out ?_; rintro w7 hk7 hw7
               rw [lay_all _ _ (by rw [HCL'.out, HJ5.out.len])] at hk7
               have hJ7 := J4.out.ref HB5.out HR5.out HG5.out HCL'.out hb6 hk6 w7 hk7 hw7
               have HJ7 := Lib.hid hJ7
               clear hJ7 hk7 hw7 hk6 hb6 hz6 hw6 hz))

          go_wp2
          go_roundw
          case rel => exact ⟨k + 1, p, _, _, _, _, by omega, by omega, by go_num, rfl, by have := HOK.out.next; rw [show ((k + 1 : Nat) : Int) = k + 1 from by omega]; exact this, HJ7.out⟩
          case measure => simp [intOf]; omega
      · have hd : k < n0 ∧ (60 : Int) ≤ k ∨ n0 ≤ k := by omega
        have HJ := Lib.hid hJ
        have hbk := hJ.bk
        clear hJ
        rcases hd with ⟨hlt, h60⟩ | hge
        · have hlt' : (k : Int) < n0 := by omega
          go_wp2_with (refine at_load 34 (.tmp 9) (by rfl) ?_; refine wpList_load_bk_g rowRef (by rfl) (.tmp 9) rfl gb 0 rfl hbk cs HCS.out (all_take _) ?_)
          refine (same_law F G _ p L _ _ HJ.out.pm HOK.out HJ.out.rl).mono ?_
          rintro e w3 ⟨rfl, hb3⟩
          have HB := Lib.hid (HJ.out.next hb3).bel
          clear hb3
          go_wp2
          go_ret
          exact ⟨rfl, HB.out⟩
        · obtain rfl : k = n0 := by omega
          go_wp2_with (refine at_load 34 (.tmp 9) (by rfl) ?_; refine wpList_load_bk_g rowRef (by rfl) (.tmp 9) rfl gb 0 rfl hbk cs HCS.out (all_take _) ?_)
          refine (same_law F G _ p L _ _ HJ.out.pm HOK.out HJ.out.rl).mono ?_
          rintro e w3 ⟨rfl, hb3⟩
          have HB := Lib.hid (HJ.out.next hb3).bel
          clear hb3
          go_wp2
          go_ret
          exact ⟨rfl, HB.out⟩
  · have hvf : valP xs = false := by simpa using hv
    go_wp2_with fail
    refine (pm_new_bad w s X m cx xs hxs hvf).mono ?_
    rintro e w1 ⟨rfl, hb1⟩
    go_wp2_with fail
    refine (rnew_bad w1 s X m cx xs (hxs.below hb1) hvf).mono ?_
    rintro e w2 ⟨rfl, hb2⟩
    have hz := Bk.new w2 34 zeroR
    have hbb := hb1.trans (hb2.mono hb1.size)
    have HB := Lib.hid hbb
    clear hb1 hb2 hxs hv hvf hbb
    go_wp2_with (refine at_store 34 (.tmp 9) (.tmp 32) (by rfl) ?_; refine wpList_store_bk rowRef rfl (.tmp 9) (.tmp 32) rfl w2.heap.size 0 rfl hz zeroR rfl rfl (by decide) (cellsR_one _ _ _ _ _ _ _ _ _ _) ?_; rintro w3 hz3 hw3)
    have HB3 := Lib.hid ((HB.out.alloc HB.out.size (.cells zeroR.toArray 34)).trans (hw3.below HB.out.size (by rw [World.size_alloc]; have := HB.out.size; omega)))
    clear hz hz3 hw3
    refine (awake_any w3).mono ?_
    rintro e w4 ⟨rfl, hb4⟩
    have HB4 := Lib.hid (HB3.out.trans (hb4.mono HB3.out.size))
    clear hb4
    go_wp2
    go_loopw [7, 11] (fun lp i wr => lp = .pointer none ∧ i = .int .i64 0 ∧ wr = w4) (fun _ _ _ => 0)
    case atStart => exact ⟨rfl, rfl, rfl⟩
    case round =>
      obtain ⟨rfl, rfl, rfl⟩ := hrel
      by_cases hn : n0 = 0
      · subst hn
        go_wp2
        go_ret
        exact ⟨rfl, HB4.out⟩
      · have hn' : (0 : Int) < n0 := by omega
        go_wp2
        go_ret
        exact ⟨rfl, HB4.out⟩
end Go.Proofs.Ytiefgicapcljiaa
