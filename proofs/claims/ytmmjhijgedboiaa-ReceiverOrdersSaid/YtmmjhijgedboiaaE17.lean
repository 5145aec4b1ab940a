/- The page's example; ReceiverNobody. -/
import Derived.Test.YtmmjhijgedboiaaE16
import Derived.Lib.SlBytesConst
set_option linter.unusedSimpArgs false
set_option linter.unusedVariables false
set_option maxRecDepth 100000
namespace Go.Proofs.Ytmmjhijgedboiaa
open Go.RowKit Go.Shelf
def cf0 : Cf := ⟨3, 2, 1, 2, 8, 4, 40, 4, 6, 20, 9, 6, 40, 0⟩
section
variable {F F' : Nat → Prop} {w w' : World} {r : Nat}
theorem l_conf (w : World) : Calls Try.prog 26 #[] w fun e w' => e = .returned (.agg #[.int .i64 cf0.c0, .int .i64 cf0.c1, .int .i64 cf0.c2, .int .i64 cf0.c3, .int .i64 cf0.c4, .int .i64 cf0.c5, .int .i64 cf0.c6, .int .i64 cf0.c7, .int .i64 cf0.c8, .int .i64 cf0.c9, .int .i64 cf0.c10, .int .i64 cf0.c11, .int .i64 cf0.c12, .int .i64 cf0.c13]) ∧ Below w.heap.size w w' := by
  have zz := Bk.new w 23 [.int .i64 0, .int .i64 0, .int .i64 0, .int .i64 0, .int .i64 0, .int .i64 0, .int .i64 0, .int .i64 0, .int .i64 0, .int .i64 0, .int .i64 0, .int .i64 0, .int .i64 0, .int .i64 0]
  have hb1 : Below w.heap.size w (w.alloc (.cells #[.int .i64 0, .int .i64 0, .int .i64 0, .int .i64 0, .int .i64 0, .int .i64 0, .int .i64 0, .int .i64 0, .int .i64 0, .int .i64 0, .int .i64 0, .int .i64 0, .int .i64 0, .int .i64 0] 23)) := ext1 _ _
  go_enter Try.func26, Try.ntmps26
  go_wp2_with (first
    | (with_reducible refine at_store 23 (.tmp 0) (.tmp 1) (by rfl) ?_
       refine wpList_store_bk rowCf rfl (.tmp 0) (.tmp 1) rfl w.heap.size 0 rfl zz cf0.cl rfl rfl (by decide) (by simp [Value.oneCell', Cf.cl]) ?_
       rintro w5 z5 hw5
       rw [lay_all _ _ (by rfl)] at z5))
  exact bodyPost_ret (results_cell rfl rfl (rowCf.load z5 0 (cs := cf0.cl) rfl rfl)) rfl ⟨rfl, hb1.trans (hw5.below (Nat.le_refl _) hb1.size)⟩
theorem FR.gr {n : Nat} (hg : Gr F F' n) : Gr (FR F r) (FR F' r) n := fun k hk => by
  rcases hk with hk | rfl
  · exact (hg k hk).imp .inl id
  · exact .inl (.inr rfl)
theorem FR.st (hs : St F w w') : St (FR F r) w w' := hs.mono fun k _ hk => .inl hk
def pkA : Pk := ⟨⟨2, 0, 0, 1, 0, 1, 0, 0⟩, []⟩
set_option maxHeartbeats 8000000 in
theorem awake_any (w : World) : Calls Try.prog 8 #[] w fun e w' => e = .returned (.bool true) ∧ Below w.heap.size w w' := by
  go_enter Try.func8, Try.ntmps8
  go_wp2_with fail
  refine (l_conf w).mono ?_
  rintro en w1 ⟨rfl, hb1⟩
  have HB1 := Lib.hid hb1
  clear hb1
  go_wp2_with fail
  refine (v_new_ok (w := w1) cf0 0 1 1 0 (by kernel_rfl) (pa := 2) (size := 8) rfl rfl).mono ?_
  rintro en w2 ⟨r, e, F, rfl, hrc, hfr, hb2⟩
  obtain ⟨q, hq⟩ : ∃ q : Pv, q = ⟨⟨1, 3, 0, 0, 1, 1, 0, 0⟩, some ⟨w2.heap.size, 0, none⟩, 1, 1, [97]⟩ := ⟨_, rfl⟩
  have hqp : q.pk = p0 := by rw [hq]; rfl
  have hc1 : (convert 30 30 (.slice (some ⟨w2.heap.size, 0, none⟩) 1 1)).run Try.prog (w2.alloc (.cells #[.int .u8 97] 5)) = .ok (.slice (some ⟨w2.heap.size, 0, none⟩) 1 1) (w2.alloc (.cells #[.int .u8 97] 5 (1, 2))) := Lib.run_convert_bytes_const (P := Try.prog) w2 30 5 #[.int .u8 97] 1 1 Try.underlying30 Try.underlying5
  have hba : Below w2.heap.size w2 (w2.alloc (.cells #[.int .u8 97] 5 (1, 2))) := ext1 _ _
  have hr1 : Rd .u8 (w2.alloc (.cells #[.int .u8 97] 5 (1, 2))) (some ⟨w2.heap.size, 0, none⟩) 1 1 [97] := Rd.litF w2 5 [97] (1, 2) (wf_of_ok (by decide)) (by decide)
  obtain ⟨W3, hW3⟩ : ∃ W3, W3 = (w2.alloc (.cells #[.int .u8 97] 5 (1, 2))).alloc (.cells #[.int .i64 1, .int .i64 3, .int .i64 0, .int .i64 0, .int .i64 1, .int .i64 1, .int .i64 0, .int .i64 0, .slice (some ⟨w2.heap.size, 0, none⟩) 1 1] 40) := ⟨_, rfl⟩
  have hb3 : Below w2.heap.size w2 W3 := by rw [hW3]; exact hba.alloc hba.size _
  have z3 : Bk W3 40 (w2.heap.size + 1) q.cl := by
    have := Bk.new (w2.alloc (.cells #[.int .u8 97] 5 (1, 2))) 40 q.cl
    rw [World.size_alloc] at this
    rw [hW3]
    rw [hq] at this ⊢
    exact this
  have hpv : PvR (FR F r) W3 q := by
    rw [hq]
    refine ⟨by rw [hW3]; exact hr1.alloc _, by show (1 : Nat) ≤ 1100; decide, by show (3 : Int) ≤ 9223372036854775807; decide, fun _ ad he hf => ?_⟩
    injection he with he
    rw [← he] at hf
    have := hrc.lt _ hf
    exact absurd this (Nat.lt_irrefl _)
  have hz3 : W3.heap.size = w2.heap.size + 2 := by rw [hW3]; simp
  have H3 := Lib.hid (hrc.below hb3)
  have HT1 := Lib.hid (v_take (hrc.below hb3) (Rm.new_fit 0 1 1 0 (by decide) (by decide) (by decide) (by decide) : m0.Fit 0) (by decide) q hpv)
  rw [hqp] at HT1
  have HT1' : Hid (Calls Try.prog 9 #[.pointer (some ⟨r, 0, none⟩), .agg #[.int .i64 1, .int .i64 3, .int .i64 0, .int .i64 0, .int .i64 1, .int .i64 1, .int .i64 0, .int .i64 0, .slice (some ⟨w2.heap.size, 0, none⟩) 1 1]] W3 (TakR F W3 r e m0 p0)) := Lib.hid (by have := HT1.out; rw [hq] at this; exact this)
  have HB3 := Lib.hid ((HB1.out.trans (hb2.mono HB1.out.size)).trans (hb3.mono (Nat.le_trans HB1.out.size hb2.size)))
  have HFR := Lib.hid (fun k hk => Nat.le_trans HB1.out.size (hfr k hk))
  have Z3 := Lib.hid z3
  have HPV := Lib.hid hpv
  have hnF : ¬ FR F r (w2.heap.size + 1) := fun hf => by have := hrc.lt _ hf; omega
  clear hba hr1 hb3 z3 hpv hrc hfr hb2
  go_wp2_with fail
  simp only [cf0] at hW3 ⊢
  try rw [← hW3]
  refine HT1'.out.mono ?_
  rintro en w4 ⟨A, n, c, B, k, d, F4, rfl, hr4, hs4, hg4, hsl4, ho4, _⟩
  obtain ⟨x1, x2, x3⟩ := ex_take
  obtain ⟨y1, y2, y3⟩ := ex_same
  have hfit1 : (m0.take p0).Fit 1 := (Rm.new_fit 0 1 1 0 (by decide) (by decide) (by decide) (by decide) : m0.Fit 0).take (by decide) p0 (by decide)
  generalize m0.take p0 = m1 at x1 x2 x3 y1 y2 y3 hfit1 hr4
  have HXY := Lib.hid (And.intro x1 (And.intro x2 (And.intro y1 (And.intro y2 y3))))
  clear x1 x2 x3 y1 y2 y3
  rw [ex_ans] at hsl4
  rw [ex_told] at ho4
  have hp4 : PvR (FR F4 r) w4 q := HPV.out.st (FR.st hs4) (FR.gr hg4)
  have HT2 := Lib.hid (v_take hr4 hfit1 (by decide) q hp4)
  rw [hqp] at HT2
  have z4 := Z3.out.st (FR.st hs4) hnF
  have hn4 : ¬ FR F4 r (w2.heap.size + 1) := fun hf => (FR.gr hg4 _ hf).elim hnF (fun h => by omega)
  have HS4 := Lib.hid hs4
  have HG4 := Lib.hid hg4
  have HSL4 := Lib.hid hsl4
  have HO4 := Lib.hid ho4
  have HN := Lib.hid (And.intro hsl4.len ho4.sl.len)
  have HW := Lib.hid hW3
  clear hc1 hW3 hr4 hs4 hg4 hsl4 ho4 hp4 HT1 HT1' hq hqp
  go_wp2_with (first
    | (with_reducible refine at_load 40 (.tmp 3) (by rfl) ?_
       refine wpList_load_pk rowP rfl (.tmp 3) rfl q (w2.heap.size + 1) 0 rfl (Bk.pk z4) ?_))
  refine HT2.out.mono ?_
  rintro en w5 ⟨A5, n5, c5, B5, k5, d5, F5, rfl, hr5, hs5, hg5, hsl5, ho5, _⟩
  rw [HXY.out.2.2.1] at hr5
  rw [HXY.out.2.2.2.1] at hsl5
  rw [HXY.out.2.2.2.2] at ho5
  have HIS := Lib.hid (v_issue_yes hr5 hfit1.ok (by rw [HXY.out.1]; decide))
  have HS5 := Lib.hid hs5
  have HG5 := Lib.hid hg5
  have HSL5 := Lib.hid hsl5
  have HN5 := Lib.hid (And.intro hsl5.len ho5.sl.len)
  clear hr5 hs5 hg5 hsl5 ho5 HT2 z4
  go_wp2_with fail
  refine HIS.out.mono ?_
  rintro en w6 ⟨rfl, hr6, hs6⟩
  obtain ⟨u, hu⟩ : ∃ u : Pv, u = pulV m1 := ⟨_, rfl⟩
  have hpu : u.h.pu = 1 := by rw [hu]; show (m1.pl : Int) + 1 = 1; rw [HXY.out.2.1]; rfl
  rw [← hu]
  have HU := Lib.hid hu
  clear hu
  have hb7 : Below w6.heap.size w6 (w6.alloc (.cells #[.int .i64 u.h.kd, .int .i64 u.h.fl, .int .i64 u.h.pa, .int .i64 u.h.sr, .int .i64 u.h.ds, .int .i64 u.h.cn, .int .i64 u.h.sq, .int .i64 u.h.pu, .slice u.A u.n u.c] 40)) := ext1 _ _
  have HPE := Lib.hid (v_pending (hr6.below hb7))
  rw [show m1.pull.pd = 0 from by show m1.pd - 1 = 0; rw [HXY.out.1]] at HPE
  obtain ⟨g1, o1, q1, rfl, ra1, -, hq1, hg1⟩ := (((HSL4.out.st (FR.st HS5.out) (FR.gr HG5.out)).st (FR.st hs6) (Gr.refl _ _)).below hb7).head (by have := HN.out.1; simp at this; omega)
  obtain ⟨g2, o2, q2, rfl, ra2, -, hq2, hg2⟩ := ((HSL5.out.st (FR.st hs6) (Gr.refl _ _)).below hb7).head (by have := HN5.out.1; simp at this; omega)
  have ho6 := ((HO4.out.add (FR.st HS5.out) (FR.gr HG5.out)).add (FR.st hs6) (Gr.refl _ _)).sl.below hb7
  obtain ⟨g3, o3, b3, rfl, cb3, rb3, hb3x⟩ := ho6.at (i := 0) (by have := HN.out.2; simp at this; omega)
  have hx3 : b3.xs = [97] := by simpa using hb3x.symm
  rw [hx3] at rb3
  have hcv := conv_any rb3
  rw [show strOfNums [97] = { data := #[97] } by decide] at hcv
  have a10 := ra1 0 _ rfl
  have a13 := ra1 3 _ rfl
  have a20 := ra2 0 _ rfl
  rw [show q1.h.kd = 2 from congrArg (fun p : Pk => p.h.kd) hq1] at a10
  rw [show q1.h.sr = 1 from congrArg (fun p : Pk => p.h.sr) hq1] at a13
  rw [show q2.h.kd = 2 from congrArg (fun p : Pk => p.h.kd) hq2] at a20
  obtain rfl : n = 1 := by have := HN.out.1; simp at this; omega
  obtain rfl : k = 1 := by have := HN.out.2; simp at this; omega
  obtain rfl : n5 = 1 := by have := HN5.out.1; simp at this; omega
  obtain rfl : k5 = 0 := by have := HN5.out.2; simp at this; omega
  have HB6 := Lib.hid ((((HB3.out.trans (HS4.out.below HB3.out.size (fun k hk => HFR.out k (.inl hk)))))))
  have HR6 := Lib.hid hs6
  clear ra1 ra2 hq1 hq2 ho6 hb3x rb3 hr6 hs6 hg1 hg2 hb7 HIS hx3
  simp only [Nat.add_zero] at a10 a13 a20 cb3
  simp only [hpu] at a10 a13 a20 cb3 hcv HPE
  go_wp2_with fail
  refine HPE.out.mono ?_
  rintro en w8 ⟨rfl, hb8⟩
  have HB8 := Lib.hid hb8
  clear a10 a13 a20 cb3 hcv hb8
  go_wp2
  go_ret
  refine ⟨rfl, ?_⟩
  have h5 := HS5.out.below (Nat.le_trans HB3.out.size HS4.out.size) (fun k hk => (HG4.out k hk).elim (fun h => HFR.out k (.inl h)) (fun h => Nat.le_trans HB3.out.size h))
  have hsz4 := Nat.le_trans HB3.out.size HS4.out.size
  have hF5 : ∀ k, F5 k → w.heap.size ≤ k := fun k hk => (HG5.out k hk).elim (fun h => (HG4.out k h).elim (fun h => HFR.out k (.inl h)) (fun h => Nat.le_trans HB3.out.size h)) (fun h => Nat.le_trans hsz4 h)
  have h6 := HR6.out.below (Nat.le_trans hsz4 HS5.out.size) hF5
  have hsz6 := Nat.le_trans (Nat.le_trans hsz4 HS5.out.size) HR6.out.size
  exact ((HB6.out.trans h5).trans h6).trans (((ext1 _ _).mono hsz6).trans (HB8.out.mono (by simp; omega)))
end
end Go.Proofs.Ytmmjhijgedboiaa
