/- CountMany: the walk. -/
import Derived.Test.YtdepbdmnkkkjlaaDoorN20
set_option linter.unusedSimpArgs false
set_option linter.unusedVariables false
set_option maxRecDepth 100000
namespace Go.Proofs.YtdepbdmnkkkjlaaDoor
open Go.RowKit Go.Shelf Go.Maps Go.Sort
theorem nm_str (i : Nat) (h : i < 600) : strOfNums [110, ((97 + i / 26 : Nat) : Int), ((97 + i % 26 : Nat) : Int)] = ⟨(nm i).toArray⟩ := by
  unfold strOfNums nm
  simp only [List.map_cons, List.map_nil, Int.toNat_natCast]
  rfl
theorem wf_u8 {n : Int} (h0 : 0 ≤ n) (h1 : n ≤ 255) : (Lit.int .u8 n).wf = true := by
  exact WalkArith.wf_u8 (by omega)
/-- So many names given: the list of them, the counters. -/
structure MnI (w : World) (g b L k : Nat) (A : Option Addr) (n c : Nat) (W : World) : Prop where
  bl : Below w.heap.size w W
  hL : L ≤ W.heap.size
  ct : CtC W g b (mM (min k 256))
  ls : Lst 9 (L ≤ ·) W A n c ((nms k).map str)
set_option maxHeartbeats 8000000 in
theorem lawMany {w : World} (ht : Tb w) (a : Int) (ha : 0 ≤ a ∧ a < 256) : Calls Tryd.prog 6 #[.int .u8 a] w fun e w' => e = .returned (.bool true) ∧ Below w.heap.size w w' := by
  have HT := Lib.hid ht
  have HN := Lib.hid (c_new0 w)
  clear ht
  obtain ⟨k, hk, hk0, hk2⟩ : ∃ k : Nat, a % 3 = (k : Int) ∧ k < 3 ∧ a.tmod 3 = k := by
    have h1 := Int.tmod_eq_emod_of_nonneg (b := 3) ha.1
    refine ⟨(a % 3).toNat, by omega, by omega, by omega⟩
  go_enter Tryd.func6, Tryd.ntmps6
  go_wp2_with fail
  refine HN.out.mono ?_
  rintro e w1 ⟨g, b, rfl, hct, hg, hbb, hb1⟩
  have HI0 : Hid (MnI w g b w1.heap.size 0 none 0 0 w1) := Lib.hid ⟨hb1, Nat.le_refl _, hct, Lst.nil _ _ _⟩
  have HG : Hid ((w.heap.size ≤ g ∧ w.heap.size ≤ b) ∧ g < w1.heap.size ∧ b < w1.heap.size) := Lib.hid ⟨⟨hg, hbb⟩, hct.bk.lt, hct.mp.lt⟩
  clear hct hb1 hg hbb
  go_wp2
  go_loopw [7, 4] (fun v l wr => ∃ i : Nat, i ≤ 255 + k ∧ v = .int .i64 (i : Nat) ∧ ∃ A n c, l = .slice A n c ∧ MnI w g b w1.heap.size i A n c wr) (fun v _ _ => 255 + k - (intOf v).toNat)
  case atStart => exact ⟨0, by omega, rfl, none, 0, 0, rfl, HI0.out⟩
  case round =>
    obtain ⟨i, hi, rfl, A, n, c, rfl, hm⟩ := hrel
    have HM := Lib.hid hm
    clear hm
    by_cases hlt : i < 255 + k
    · have hlt' : (i : Int) < 255 + (k : Int) := by omega
      obtain ⟨p, q, hp, hq, hp2, hq2, hnm⟩ : ∃ p q : Nat, p < 24 ∧ q < 26 ∧ (i : Int).tdiv 26 = p ∧ (i : Int).tmod 26 = q ∧ Hid (strOfNums [110, 97 + (p : Int), 97 + (q : Int)] = ⟨(nm i).toArray⟩) :=
        ⟨i / 26, i % 26, by omega, by omega, by have := Int.tdiv_eq_ediv_of_nonneg (a := (i : Int)) (b := 26) (by omega); omega, by have := Int.tmod_eq_emod_of_nonneg (a := (i : Int)) (b := 26) (by omega); omega, Lib.hid (by
          rw [← nm_str i (by omega)]
          simp only [Int.natCast_add]
          rfl)⟩
      have hst : (Go.convert 57 9 (.slice (some ⟨wr.heap.size, 0, none⟩) 3 3)).run Tryd.prog (wr.alloc (.cells #[.int .u8 110, .int .u8 (97 + (p : Int)), .int .u8 (97 + (q : Int))] 5)) = .ok (str (nm i)) (wr.alloc (.cells #[.int .u8 110, .int .u8 (97 + (p : Int)), .int .u8 (97 + (q : Int))] 5)) := by
        have hrd : Rd .u8 (wr.alloc (.cells #[.int .u8 110, .int .u8 (97 + (p : Int)), .int .u8 (97 + (q : Int))] 5)) (some ⟨wr.heap.size, 0, none⟩) 3 3 [110, 97 + (p : Int), 97 + (q : Int)] :=
          (RdV.lit wr 5 [.int .u8 110, .int .u8 (97 + (p : Int)), .int .u8 (97 + (q : Int))] (by simp [Value.oneCell']) (by simp)).rd (by
            intro x hx
            simp only [List.mem_cons, List.not_mem_nil, or_false] at hx
            rcases hx with rfl | rfl | rfl <;> exact wf_u8 (by omega) (by omega))
        have := run_str (t := 57) (e := 5) (P := Tryd.prog) (by kernel_rfl) (by kernel_rfl) hrd 9 (by kernel_rfl)
        rw [hnm.out] at this
        exact this
      have hbA := Lib.hid ((Below.refl wr.heap.size wr).alloc (Nat.le_refl _) (.cells #[.int .u8 110, .int .u8 (97 + (p : Int)), .int .u8 (97 + (q : Int))] 5))
      clear hnm
      have hl0 := HM.out.ls
      have hn8 : n ≤ 600 := by have := hl0.1; simp [nms_len] at this; omega
      have hb2 := Lib.hid (hbA.out.alloc (by simp) (.cells #[str (nm i)] 9))
      go_wp2_with (first
        | (refine wpList_build_one (x := str (nm i)) eltT rfl (.tmp 44) rfl rfl rfl ?_)
        | (at_builtin
           refine wpList_append_lst eltT rfl (.tmp 43) (.tmp 45) rfl rfl (((hl0.alloc (.cells #[.int .u8 110, .int .u8 (97 + (p : Int)), .int .u8 (97 + (q : Int))] 5)).alloc (.cells #[str (nm i)] 9)).tight) rfl (RdV.one _ 9 (str (nm i)) rfl) (by omega) ?_
           rintro v w3 hap
           obtain ⟨A', n', c', rfl, hl'⟩ := hap.ex
           have HAP := Lib.hid (And.intro hl' hap.st)
           clear hap hl')
        | fail)
      obtain ⟨e1, hsz1⟩ : Hid (Below wr.heap.size wr ((wr.alloc (.cells #[.int .u8 110, .int .u8 (97 + (p : Int)), .int .u8 (97 + (q : Int))] 5)).alloc (.cells #[str (nm i)] 9))) ∧ ((wr.alloc (.cells #[.int .u8 110, .int .u8 (97 + (p : Int)), .int .u8 (97 + (q : Int))] 5)).alloc (.cells #[str (nm i)] 9)).heap.size = wr.heap.size + 2 := ⟨hb2, by simp⟩
      have hA : ∀ j, BlkOf A j → w1.heap.size ≤ j := fun j hj => by
        obtain ⟨ad, rfl, rfl⟩ := hj
        exact (HM.out.ls.blk _ rfl).1
      have hge : w1.heap.size ≤ wr.heap.size := HM.out.hL
      have hb3 : Below w1.heap.size wr w3 := (e1.out.mono hge).trans (HAP.out.2.below (by rw [hsz1]; omega) hA)
      have hl3 : Lst 9 (w1.heap.size ≤ ·) w3 A' n' c' ((nms (i + 1)).map str) := by
        rw [show (nms (i + 1)).map str = (nms i).map str ++ [str (nm i)] from by simp [nms_succ]]
        refine HAP.out.1.mono fun j hj => ?_
        rcases hj with hj | hj
        · exact hA j hj
        · rw [hsz1] at hj
          omega
      have hbw3 : Below w.heap.size w w3 := HM.out.bl.trans (hb3.mono (by have := HI0.out.bl.size; omega))
      have hct3 : CtC w3 g b (mM (min i 256)) := HM.out.ct.same (hb3.block g HG.out.2.1) (hb3.block b HG.out.2.2)
      have hs3 : wr.heap.size ≤ w3.heap.size := by have := HAP.out.2.size; omega
      obtain ⟨f, hf, hadd⟩ : ∃ f : Int, ((i < 256 ∧ f = 0) ∨ (i = 256 ∧ f = 3)) ∧ add (mM (min i 256)) (nm i) (i : Int) = (mM (min (i + 1) 256), f) := by
        by_cases h : i < 256
        · exact ⟨0, .inl ⟨h, rfl⟩, by rw [Nat.min_eq_left (by omega), Nat.min_eq_left (by omega)]; exact many_add h⟩
        · obtain rfl : i = 256 := by omega
          exact ⟨3, .inr ⟨rfl, rfl⟩, many_full⟩
      have HA := Lib.hid (c_add hct3 (s := nm i) (n := (i : Int)) (by simp [nm, maxLen]) (by omega))
      rw [hadd] at HA
      have H3 := Lib.hid (And.intro hbw3 (And.intro hl3 hs3))
      clear hct3 hbw3 hl3 hs3 hb3 hadd HAP e1 hsz1 hb2 hbA hst hA hl0
      refine HA.out.mono ?_
      rintro e w4 ⟨rfl, hd⟩
      have HD := Lib.hid hd
      clear hd
      have hfin : MnI w g b w1.heap.size (i + 1) A' n' c' w4 := by
        refine ⟨did_below HD.out H3.out.1 HG.out.1.2, ?_, HD.out.1, H3.out.2.1.st HD.out.2 fun j hj e => ?_⟩
        · have := HD.out.2.size; have := H3.out.2.2; omega
        · have := HG.out.2.2; omega
      have HF := Lib.hid hfin
      clear hfin
      rcases hf with ⟨hf, rfl⟩ | ⟨rfl, rfl⟩
      · have hf' : (i : Int) < 256 := by omega
        go_wp2
        go_roundw
        case rel => exact ⟨i + 1, by omega, by go_num, _, _, _, rfl, HF.out⟩
        case measure => simp [intOf]; omega
      · go_wp2
        go_roundw
        case rel => exact ⟨257, by omega, by go_num, _, _, _, rfl, HF.out⟩
        case measure => simp [intOf]; omega
    · obtain rfl : i = 255 + k := by omega
      have hK1 : 255 ≤ min (255 + k) 256 := by omega
      have hK2 : min (255 + k) 256 ≤ 256 := by omega
      have HXm : Hid (merge mX (mM (min (255 + k) 256)) = (mX, 3)) := Lib.hid (x_merge hK1 hK2)
      have HXn : Hid ((add (mM (min (255 + k) 256)) [110, 97, 97] 1).2 = 0) := Lib.hid (naa_add hK1 hK2)
      have HNw := Lib.hid (c_new HM.out.ls.rdv (fun s hs => by
        obtain ⟨j, hj, rfl⟩ := List.mem_map.1 hs
        simp [nm, maxLen]) (by rw [nms_len]; omega))
      have HX : ∀ W, Below wr.heap.size wr W → Hid (Calls Tryd.prog 9 #[.slice (some ⟨W.heap.size, 0, none⟩) 2 2] (W.alloc (.cells #[str nZZ, str nZY] 9)) fun e w' => ∃ g b, e = .returned (.tuple #[.pointer (some ⟨g, 0, none⟩), num 0]) ∧ CtC w' g b mX ∧ W.heap.size + 1 ≤ g ∧ W.heap.size + 1 ≤ b ∧ Below W.heap.size W w') := fun W hW => by
        refine Lib.hid ((c_new (ns := [nZZ, nZY]) (RdV.lit W 9 [str nZZ, str nZY] (by simp [Value.oneCell']) (by simp)) (by simp [nZZ, nZY, maxLen]) (by simp)).mono ?_)
        rintro e w' ⟨hb, hh⟩
        rw [x_new] at hh
        rcases hh with ⟨h1, _⟩ | ⟨m, h1, h2⟩
        · cases h1
        · injection h1 with h1
          subst h1
          rcases h2 with ⟨h2, _⟩ | ⟨_, g, b, rfl, h3, h4, h5⟩
          · simp at h2
          · exact ⟨g, b, rfl, h3, by simpa using h4, by simpa using h5, ((Below.refl _ W).alloc (Nat.le_refl _) _).trans (hb.mono (by simp))⟩
      have hlt' : ¬ (255 + (k : Int) < 255 + (k : Int)) := by omega
      clear hK1 hK2
      go_wp2_with fail
      refine HNw.out.mono ?_
      rintro e w5 ⟨hb5, hh⟩
      rw [many_new _ (by omega)] at hh
      have HXb := Lib.hid hb5
      clear hb5
      rcases hh with ⟨h1, _⟩ | ⟨m, h1, h2⟩
      · cases h1
      · rw [nms_len] at h2
        clear h1
        rcases h2 with ⟨h2, rfl⟩ | ⟨h2, g5, b5, rfl, _, _, _⟩
        · have hkc : 256 < 255 + (k : Int) := by omega
          go_wp2_with fail
          refine (HX w5 HXb.out).out.mono ?_
          rintro e w6 ⟨g2, b2, rfl, hct2, hg2, hb2, hb6⟩
          have H6 := Lib.hid (And.intro hct2 (And.intro (below_on HXb.out hb6) (And.intro hg2 hb2)))
          clear hct2 hg2 hb2 hb6
          have hbw6 : Below wr.heap.size wr w6 := H6.out.2.1
          have hc6 := HM.out.ct.below hbw6
          have hge : w1.heap.size ≤ wr.heap.size := HM.out.hL
          have hge5 : wr.heap.size ≤ w5.heap.size := HXb.out.size
          have hMg := Lib.hid (c_merge H6.out.1 hc6 ⟨by have := HG.out.2.1; have := H6.out.2.2.2; omega, by have := HG.out.2.2; have := H6.out.2.2.2; omega⟩)
          unfold MrgR at hMg; rw [HXm.out] at hMg
          have H6b := Lib.hid (And.intro hbw6 (And.intro hc6 (And.intro hge hge5)))
          clear hbw6 hc6 hge hge5
          go_wp2_with fail
          refine hMg.out.mono ?_
          rintro e w7 ⟨rfl, hc7, hs7⟩
          have hcc7 : CtC w7 g b (mM (min (255 + k) 256)) := H6b.out.2.1.st hs7 (by have := HG.out.2.1; have := H6.out.2.2.2; have := H6b.out.2.2; omega) (by have := HG.out.2.2; have := H6.out.2.2.2; have := H6b.out.2.2; omega)
          have hb7 : Below wr.heap.size wr w7 := H6b.out.1.trans (hs7.below H6b.out.1.size fun j hj => by have := H6.out.2.2.2; have := H6b.out.2.2.2; omega)
          have HNm := Lib.hid (c_names hc7)
          have H7 := Lib.hid (And.intro hcc7 hb7)
          clear hc7 hs7 hcc7 hb7
          go_wp2_with fail
          refine HNm.out.mono ?_
          rintro e w8 ⟨An, nn, cn, rfl, hln, hb8⟩
          have hnn : nn = 2 := by have := hln.1; simpa [mX] using this.symm
          subst hnn
          have hc8 := H7.out.1.below hb8
          have HA8 := Lib.hid (c_add hc8 (s := [110, 97, 97]) (n := 1) (by decide) (by decide))
          rw [HXn.out] at HA8
          have H8 := Lib.hid (below_on H7.out.2 hb8)
          clear hln hb8 hc8
          go_wp2_with fail
          refine HA8.out.mono ?_
          rintro e w9 ⟨rfl, hd⟩
          have hb9 : Below w.heap.size w w9 := did_below hd (below_on HM.out.bl H8.out) HG.out.1.2
          have HAw := Lib.hid (l_awake (HT.out.below hb9))
          have H9 := Lib.hid hb9
          clear hd hb9
          go_wp2_with fail
          refine HAw.out.mono ?_
          rintro e w10 ⟨rfl, hb10⟩
          have H10 := Lib.hid (below_on H9.out hb10)
          clear hb10
          go_wp2
          go_ret
          exact ⟨rfl, H10.out⟩
        · have hkc : 255 + (k : Int) ≤ 256 := by omega
          go_wp2_with fail
          refine (HX w5 HXb.out).out.mono ?_
          rintro e w6 ⟨g2, b2, rfl, hct2, hg2, hb2, hb6⟩
          have H6 := Lib.hid (And.intro hct2 (And.intro (below_on HXb.out hb6) (And.intro hg2 hb2)))
          clear hct2 hg2 hb2 hb6
          have hbw6 : Below wr.heap.size wr w6 := H6.out.2.1
          have hc6 := HM.out.ct.below hbw6
          have hge : w1.heap.size ≤ wr.heap.size := HM.out.hL
          have hge5 : wr.heap.size ≤ w5.heap.size := HXb.out.size
          have hMg := Lib.hid (c_merge H6.out.1 hc6 ⟨by have := HG.out.2.1; have := H6.out.2.2.2; omega, by have := HG.out.2.2; have := H6.out.2.2.2; omega⟩)
          unfold MrgR at hMg; rw [HXm.out] at hMg
          have H6b := Lib.hid (And.intro hbw6 (And.intro hc6 (And.intro hge hge5)))
          clear hbw6 hc6 hge hge5
          go_wp2_with fail
          refine hMg.out.mono ?_
          rintro e w7 ⟨rfl, hc7, hs7⟩
          have hcc7 : CtC w7 g b (mM (min (255 + k) 256)) := H6b.out.2.1.st hs7 (by have := HG.out.2.1; have := H6.out.2.2.2; have := H6b.out.2.2; omega) (by have := HG.out.2.2; have := H6.out.2.2.2; have := H6b.out.2.2; omega)
          have hb7 : Below wr.heap.size wr w7 := H6b.out.1.trans (hs7.below H6b.out.1.size fun j hj => by have := H6.out.2.2.2; have := H6b.out.2.2.2; omega)
          have HNm := Lib.hid (c_names hc7)
          have H7 := Lib.hid (And.intro hcc7 hb7)
          clear hc7 hs7 hcc7 hb7
          go_wp2_with fail
          refine HNm.out.mono ?_
          rintro e w8 ⟨An, nn, cn, rfl, hln, hb8⟩
          have hnn : nn = 2 := by have := hln.1; simpa [mX] using this.symm
          subst hnn
          have hc8 := H7.out.1.below hb8
          have HA8 := Lib.hid (c_add hc8 (s := [110, 97, 97]) (n := 1) (by decide) (by decide))
          rw [HXn.out] at HA8
          have H8 := Lib.hid (below_on H7.out.2 hb8)
          clear hln hb8 hc8
          go_wp2_with fail
          refine HA8.out.mono ?_
          rintro e w9 ⟨rfl, hd⟩
          have hb9 : Below w.heap.size w w9 := did_below hd (below_on HM.out.bl H8.out) HG.out.1.2
          have HAw := Lib.hid (l_awake (HT.out.below hb9))
          have H9 := Lib.hid hb9
          clear hd hb9
          go_wp2_with fail
          refine HAw.out.mono ?_
          rintro e w10 ⟨rfl, hb10⟩
          have H10 := Lib.hid (below_on H9.out hb10)
          clear hb10
          go_wp2
          go_ret
          exact ⟨rfl, H10.out⟩
end Go.Proofs.YtdepbdmnkkkjlaaDoor
