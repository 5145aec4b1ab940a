/- The law of any calls. -/
import Derived.Test.YtdakojggknkidaaJ15
import Derived.Lib.SlBytesConst
set_option linter.unusedSimpArgs false
set_option linter.unusedVariables false
namespace Go.Proofs.Ytdakojggknkidaa
open Go.RowKit Go.Shelf
theorem rowO : Row Try.prog 30 4 := ⟨⟨_, rfl, by decide⟩, by kernel_rfl⟩
theorem own_st {k : IntKind} {e : TypeId} {base : Nat} {w w' : World} {v : Value} {xs : List Int} (h : Ow k e base w v xs) {F : Nat → Prop} (hs : St F w w') (hF : ∀ g, v.ownBlock = some g → ¬ F g) : Ow k e base w' v xs := by
  refine ⟨h.1, ?_⟩
  rcases h.2 with hn | ⟨g, cap, cur, hv, hg, hh, r⟩
  · exact .inl hn
  · exact .inr ⟨g, cap, cur, hv, hg, (hs.block g (Array.getElem?_eq_some_iff.1 hh).1 (hF g (by rw [hv]; rfl))).trans hh, r⟩
/-- Between two calls. -/
def JI (w : World) (b k : Nat) (P : Option Addr) (W : World) : Prop :=
  ∃ g m A c F, P = some ⟨g, 0, none⟩ ∧ JR w b g m A c F W ∧ (0 ≤ m.N ∧ m.N ≤ k) ∧ (0 ≤ m.T ∧ m.T ≤ k * 65536)
set_option maxRecDepth 100000 in
set_option maxHeartbeats 16000000 in
theorem lawRuns (ops : Sl OpT.den) (x : Int) (w : World) (h : (Ty.sl OpT).reads w ops) :
    Calls Try.prog 3 #[.slice ops.A ops.n ops.c, .int .i64 x] w fun e w' => e = .returned (.bool true) ∧ Below w.heap.size w w' := by
  have HOp := Lib.hid (op_at h)
  obtain ⟨A0, n0, c0, l0⟩ := ops
  dsimp only at *
  clear h
  go_enter Try.func3, Try.ntmps3
  go_wp2_with fail
  refine (j_new w).mono ?_
  rintro e w1 ⟨rfl, hj1, hb1⟩
  have hz1 := Bk.new w1 27 [.slice none 0 0, .int .i64 0, .int .i64 0, .int .i64 0]
  have hba : Below w1.heap.size w1 (w1.alloc (.cells #[.slice none 0 0, .int .i64 0, .int .i64 0, .int .i64 0] 27)) := (Below.refl _ _).alloc (Nat.le_refl _) _
  have hlt1 := hj1.bk.lt
  have hJ0 : JI w w1.heap.size 0 (some ⟨w.heap.size, 0, none⟩) (w1.alloc (.cells #[.slice none 0 0, .int .i64 0, .int .i64 0, .int .i64 0] 27)) :=
    ⟨w.heap.size, ⟨[], 0, 0⟩, none, 0, _, rfl, ⟨⟨_, _, _, hj1.below hba⟩, hz1, BsR.nil _, (by rintro k ⟨ad, he, _⟩; cases he), (by show ¬ w1.heap.size = w.heap.size; omega), (fun k hk => by subst hk; exact Nat.le_refl _), hb1.size, hb1.trans (hba.mono hb1.size)⟩, by simp, by simp⟩
  have HA := Lib.hid (awake_any (w1.alloc (.cells #[.slice none 0 0, .int .i64 0, .int .i64 0, .int .i64 0] 27)))
  have HJ0 := Lib.hid hJ0
  clear hj1 hb1 hz1 hba hJ0 hlt1
  go_wp2_with fail
  refine HA.out.mono ?_
  rintro e w2 ⟨rfl, hb2⟩
  have hJ : JI w w1.heap.size 0 (some ⟨w.heap.size, 0, none⟩) w2 := by
    obtain ⟨g, m, A, c, F, h1, h2, h3⟩ := HJ0.out
    exact ⟨g, m, A, c, F, h1, h2.next hb2, h3⟩
  have HJ := Lib.hid hJ
  clear hb2 hJ HA HJ0
  generalize w1.heap.size = b at *
  go_wp2
  go_loopw [5, 7, 8, 9, 10, 11, 12, 13, 14, 15, 16, 17, 18] (fun p i o8 k9 b10 m11 o12 e13 n14 w15 i16 f17 k18 wr => ∃ (k : Nat) (P : Option Addr), i = .int .i64 k ∧ k ≤ 30 ∧ p = .pointer P ∧ JI w b k P wr) (fun p i o8 k9 b10 m11 o12 e13 n14 w15 i16 f17 k18 _ => 30 - (intOf i).toNat)
  case atStart => exact ⟨0, _, rfl, Nat.zero_le _, rfl, HJ.out⟩
  case round =>
    obtain ⟨k, P, rfl, hk, rfl, hJk⟩ := hrel
    obtain ⟨g, m, A, c, F, rfl, hJR, hN, hT⟩ := hJk
    by_cases hlt : k < n0 ∧ k < 30
    · obtain ⟨go_, oo, d, B, l, cc, ys, t, en, rfl, hgo, hra, hd, ht, hrd⟩ := HOp.out k hlt.1
      have c0' := (hJR.bel.cell (p := ⟨go_, oo + k * 4, none⟩) hgo).trans (hra 0 _ rfl)
      have c1' := (hJR.bel.cell (p := ⟨go_, oo + k * 4 + 1, none⟩) hgo).trans (hra 1 _ rfl)
      have c2' := (hJR.bel.cell (p := ⟨go_, oo + k * 4 + 2, none⟩) hgo).trans (hra 2 _ rfl)
      have c3' := (hJR.bel.cell (p := ⟨go_, oo + k * 4 + 3, none⟩) hgo).trans (hra 3 _ rfl)
      have hk1 : (k : Int) < n0 := by omega
      have hk2 : (k : Int) < 30 := by omega
      have hbao : Below wr.heap.size wr (wr.alloc (.cells #[.int .u8 d, .slice B l cc, .int .u8 t, .bool en] 30)) := (Below.refl _ _).alloc (Nat.le_refl _) _
      have HZ := Lib.hid (Bk.new wr 30 [.int .u8 d, .slice B l cc, .int .u8 t, .bool en])
      have HFw := Lib.hid hJR.j.lt
      have HJR := Lib.hid (hJR.next hbao)
      have HRd := Lib.hid ((hrd.below hJR.bel).below hbao)
      have HNT := Lib.hid (And.intro hN hT)
      have hwr := hJR.bel.size
      obtain ⟨hd1, hd2⟩ := hd
      obtain ⟨ht1, ht2⟩ := ht
      clear hra hrd hJR hN hT hbao hgo hlt
      generalize hW1 : wr.alloc (.cells #[.int .u8 d, .slice B l cc, .int .u8 t, .bool en] 30) = W1 at *
      have d0 := HZ.out.cell 0 rfl
      have d1 := HZ.out.cell 1 rfl
      have d2 := HZ.out.cell 2 rfl
      have d3 := HZ.out.cell 3 rfl
      obtain ⟨AJ, nJ, cJ, hJA⟩ := HJR.out.j
      have hFg := hJA.fg
      have hbg : b ≠ g := fun e => HJR.out.bF (e ▸ hFg)
      have HF := Lib.hid hFg
      clear hJA hFg
      rcases (by omega : d % 7 = 5 ∨ d % 7 = 6 ∨ (d % 7 ≠ 5 ∧ d % 7 ≠ 6)) with hd7 | hd7 | ⟨hd5, hd6⟩
      · have e5 : (d % 7 == 5) = true := by simpa using hd7
        clear hd7
        go_wp2
        clear d0 d1 d2 d3 c0' c1' c2' c3'
        refine wp_region_E (St (· = g)) (by kernel_rfl) (fun wd hbd hsz => ?_)
        have HJd := Lib.hid (HJR.out.next hbd)
        have q0 : ∀ W, St (· = g) wd W → W.cell? ⟨b, 0, none⟩ = some (.slice A m.op c) := fun W hW => (HJd.out.bx.st hW hbg).cell 0 rfl
        clear hsz hbd
        (refine takeE (St.tr (· = g)) 0 (by simp only [List.getElem?_toArray, List.getElem?_cons_succ, List.getElem?_cons_zero]; rfl) (by kernel_rfl) (by kernel_rfl) (by kernel_rfl) (by exact fun _ _ _ h => h) (by first | (refine Or.inl ⟨by rfl, ?_⟩; intro W hW; go_simp; try with_reducible rfl) | exact Or.inr ⟨by rfl, rfl⟩) ?_; try simp only [Act.put, List.setIfInBounds_toArray, List.set_cons_zero, List.set_cons_succ])
        (refine takeE (St.tr (· = g)) 2 (by simp only [List.getElem?_toArray, List.getElem?_cons_succ, List.getElem?_cons_zero]; rfl) (by kernel_rfl) (by kernel_rfl) (by kernel_rfl) (by exact fun _ _ _ h => h) (by first | (refine Or.inl ⟨by rfl, ?_⟩; intro W hW; go_simp; try with_reducible rfl) | exact Or.inr ⟨by rfl, rfl⟩) ?_; try simp only [Act.put, List.setIfInBounds_toArray, List.set_cons_zero, List.set_cons_succ])
        (refine takeE (St.tr (· = g)) 3 (by simp only [List.getElem?_toArray, List.getElem?_cons_succ, List.getElem?_cons_zero]; rfl) (by kernel_rfl) (by kernel_rfl) (by kernel_rfl) (by exact fun _ _ _ h => h) (by first | (refine Or.inl ⟨by rfl, ?_⟩; intro W hW; go_simp; try with_reducible rfl) | exact Or.inr ⟨by rfl, rfl⟩) ?_; try simp only [Act.put, List.setIfInBounds_toArray, List.set_cons_zero, List.set_cons_succ])
        (refine takeE (St.tr (· = g)) 4 (by simp only [List.getElem?_toArray, List.getElem?_cons_succ, List.getElem?_cons_zero]; rfl) (by kernel_rfl) (by kernel_rfl) (by kernel_rfl) (by exact fun _ _ _ h => h) (by first | (refine Or.inl ⟨by rfl, ?_⟩; intro W hW; go_simp; try with_reducible rfl) | exact Or.inr ⟨by rfl, rfl⟩) ?_; try simp only [Act.put, List.setIfInBounds_toArray, List.set_cons_zero, List.set_cons_succ])
        refine wpAnyE_one (i := 1) (by kernel_rfl) (by simp only [List.getElem?_toArray, List.getElem?_cons_succ, List.getElem?_cons_zero]; rfl) (fun K hK => ?_)
        go_simp
        refine (j_reset HJd.out.j).mono ?_
        rintro e w5 ⟨rfl, hj5, hs5⟩
        have HJ3 := Lib.hid (And.intro hj5 hs5)
        have HJ2 := Lib.hid (HJd.out.bx.st hs5 hbg)
        clear hj5 q0
        refine hK.out _ _ hs5 ?_
        clear hK K
        try simp only [Act.put, List.setIfInBounds_toArray, List.set_cons_zero, List.set_cons_succ]
        (refine takeE (St.tr (· = g)) 5 (by simp only [List.getElem?_toArray, List.getElem?_cons_succ, List.getElem?_cons_zero]; rfl) (by kernel_rfl) (by kernel_rfl) (by kernel_rfl) (by exact fun _ _ _ h => h) (by first | (refine Or.inl ⟨by rfl, ?_⟩; intro W hW; go_simp; try with_reducible rfl) | exact Or.inr ⟨by rfl, rfl⟩) ?_; try simp only [Act.put, List.setIfInBounds_toArray, List.set_cons_zero, List.set_cons_succ])
        refine wpAnyE_done (by kernel_rfl) ?_ _
        clear hs5
        have b2 := HJ2.out.cell 2 rfl
        have b3 := HJ2.out.cell 3 rfl
        have hzb := HJ2.out
        go_wp2_with (first
          | (with_reducible refine at_store 27 (.tmp 6) (.tmp 104) (by rfl) ?_
             refine wpList_store_bk rowR rfl (.tmp 6) (.tmp 104) rfl b 0 rfl hzb [.slice none 0 0, .int .i64 0, .int .i64 m.N, .int .i64 m.T] rfl rfl (by show 0 + 4 ≤ 4; omega) (by simp [Value.oneCell']) ?_
             intro w7 hz7 hw7
             rw [lay_all _ _ (by rfl)] at hz7
             have HR7 := Lib.hid (JR.reset HJd.out HJ3.out.1 HJ3.out.2 hz7 hw7)
             clear b2 b3 hzb)
          | (with_reducible refine at_load 27 (.tmp 6) (by rfl) ?_
             refine wpList_load_bk rowR rfl (.tmp 6) rfl b 0 rfl hz7 [.slice none 0 0, .int .i64 0, .int .i64 m.N, .int .i64 m.T] rfl rfl ?_)
          | (go_at_call 14; refine (same_true HR7.out.j x).mono ?_; rintro e w9 ⟨rfl, hb9⟩))
        go_roundw
        case rel => exact ⟨k + 1, _, by go_num, by omega, rfl, g, _, none, 0, F, rfl, HR7.out.next hb9, ⟨HNT.out.1.1, by have := HNT.out.1.2; show m.N ≤ ((k + 1 : Nat) : Int); omega⟩, ⟨HNT.out.2.1, by have := HNT.out.2.2; show m.T ≤ ((k + 1 : Nat) : Int) * 65536; omega⟩⟩
        case measure => simp [intOf]; omega
      · have e5 : (d % 7 == 5) = false := by simp; omega
        have e6 : (d % 7 == 6) = true := by simpa using hd7
        have HFk := Lib.hid (j_fork HJR.out.j)
        clear hd7
        go_wp2_with fail
        clear d0 d1 d2 d3 c0' c1' c2' c3'
        refine HFk.out.mono ?_
        rintro e w5 ⟨g5, F5, rfl, hj5, hge5, hb5⟩
        have hc1 : (convert 25 25 (.slice (some ⟨w5.heap.size, 0, none⟩) 2 2)).run Try.prog (w5.alloc (.cells #[.int .u8 122, .int .u8 122] 5)) = .ok (.slice (some ⟨w5.heap.size, 0, none⟩) 2 2) (w5.alloc (.cells #[.int .u8 122, .int .u8 122] 5 (2, 3))) := Lib.run_convert_bytes_const (P := Try.prog) w5 25 5 #[.int .u8 122, .int .u8 122] 2 2 Try.underlying25 Try.underlying5
        have hba5 : Below w5.heap.size w5 (w5.alloc (.cells #[.int .u8 122, .int .u8 122] 5 (2, 3))) := (Below.refl _ _).alloc (Nat.le_refl _) _
        have hr5 : Rd .u8 (w5.alloc (.cells #[.int .u8 122, .int .u8 122] 5 (2, 3))) (some ⟨w5.heap.size, 0, none⟩) 2 2 [122, 122] := Rd.litF w5 5 [122, 122] (2, 3) (wf_of_ok (by decide)) (by decide)
        have HAd := Lib.hid (j_add ((HJR.out.j.below hb5).below hba5) hr5 true (by have := HNT.out.1; omega) (by have := HNT.out.2; omega))
        have HJF := Lib.hid (fun w6 hs6 => JR.fork (W3 := w6) HJR.out hj5 hge5 hb5 hba5 hs6)
        clear hj5 hge5 hb5 hba5 hr5 HFk
        go_wp2_with fail
        refine HAd.out.mono ?_
        rintro e w6 ⟨A6, n6, c6, F6, rfl, _, _, _, hs6, _⟩
        have HR7 := Lib.hid (HJF.out w6 hs6)
        have hzb := HR7.out.bx
        clear hc1 hs6 HAd HJF
        go_wp2_with (first
          | (with_reducible refine at_load 27 (.tmp 6) (by rfl) ?_
             refine wpList_load_bk rowR rfl (.tmp 6) rfl b 0 rfl hzb [.slice A m.op c, .int .i64 m.ps.length, .int .i64 m.N, .int .i64 m.T] rfl rfl ?_)
          | (go_at_call 14; refine (same_true HR7.out.j x).mono ?_; rintro e w9 ⟨rfl, hb9⟩))
        go_roundw
        case rel => exact ⟨k + 1, _, by go_num, by omega, rfl, g5, m, A, c, F5, rfl, HR7.out.next hb9, ⟨HNT.out.1.1, by have := HNT.out.1.2; omega⟩, ⟨HNT.out.2.1, by have := HNT.out.2.2; omega⟩⟩
        case measure => simp [intOf]; omega
      · have e5 : (d % 7 == 5) = false := by simpa using hd5
        have e6 : (d % 7 == 6) = false := by simpa using hd6
        have HMn := Lib.hid (many_any B l cc ys t W1 HRd.out ⟨ht1, ht2⟩)
        have HW1s := Lib.hid HJR.out.bel.size
        have HbW1 := Lib.hid HJR.out.bx.lt
        clear hd5 hd6
        go_wp2_with fail
        clear d0 d1 d2 d3 c0' c1' c2' c3'
        refine HMn.out.mono ?_
        rintro e W2 ⟨v5, zs, rfl, how, hzw, hzl, hb2⟩
        obtain ⟨A5, c5, rfl⟩ := own_slice how
        obtain ⟨hown, hown2⟩ := BsR.own how hzw
        have d3 := (HZ.out.below hb2).cell 3 rfl
        have HOw := Lib.hid (And.intro how (And.intro hown (And.intro hown2 hb2)))
        have HJ2 := Lib.hid (HJR.out.next hb2)
        have HAd := Lib.hid (j_add HJ2.out.j hown.1 en (by have := HNT.out.1; omega) (by have := HNT.out.2; omega))
        clear how hown hown2 hb2 hzw HMn
        go_wp2_with fail
        clear d3
        refine HAd.out.mono ?_
        rintro e W3 ⟨A3, n3, c3, F3, rfl, hj3, hq3, hk3, hs3, hg3⟩
        have hbx3 := HJ2.out.bx.st hs3 HJ2.out.bF
        have hq03 := HJ2.out.q.st hs3 HJ2.out.off
        have hoffb : ∀ k, BlkOf A5 k → ¬ F k := fun j hj hf => by
          have h1 := HOw.out.2.2.1 j hj
          have h2 := HJR.out.j.lt j hf
          omega
        have d3 := ((HZ.out.below HOw.out.2.2.2).st hs3 (fun hf => Nat.lt_irrefl _ (HFw.out _ hf))).cell 3 rfl
        have HRA := Lib.hid (r_add hq03 (HOw.out.2.1.st hs3 hoffb).1 en HJ2.out.j.le.1 HJ2.out.j.le.2 (by have := HNT.out.1; omega) (by have := HNT.out.2; omega))
        have H3 := Lib.hid (And.intro hj3 (And.intro hq3 (And.intro hk3 (And.intro hs3 hg3))))
        clear hj3 hq3 hk3 hs3 hg3 hq03 HAd
        go_wp2_with (first
          | (with_reducible refine at_load 27 (.tmp 6) (by rfl) ?_
             refine wpList_load_bk rowR rfl (.tmp 6) rfl b 0 rfl hbx3 [.slice A m.op c, .int .i64 m.ps.length, .int .i64 m.N, .int .i64 m.T] rfl rfl ?_)
          | (go_at_call 13
             refine HRA.out.mono ?_
             rintro e W4 ⟨A6, n6, c6, A7, n7, c7, rfl, hq6, hq7, hk6, hk7, hb4⟩
             have hn6 : n6 = (m.add zs en).op := hq6.1.1.symm.trans rfl
             subst hn6
             have hz14 := Bk.new W4 27 [.slice A6 (m.add zs en).op c6, .int .i64 (m.add zs en).ps.length, .int .i64 (m.add zs en).N, .int .i64 (m.add zs en).T]
             have hb5 : Below W4.heap.size W4 (W4.alloc (.cells #[.slice A6 (m.add zs en).op c6, .int .i64 (m.add zs en).ps.length, .int .i64 (m.add zs en).N, .int .i64 (m.add zs en).T] 27)) := (Below.refl _ _).alloc (Nat.le_refl _) _
             have hbx5 := (hbx3.below hb4).below hb5
             have H4 := Lib.hid (And.intro hq6 (And.intro hq7 (And.intro hk6 (And.intro hb4 hb5))))
             clear hq6 hq7 hk6 hk7 hb4 hb5 hbx3 d3)
          | (with_reducible refine at_load 27 (.tmp 14) (by rfl) ?_
             refine wpList_load_bk rowR rfl (.tmp 14) rfl W4.heap.size 0 rfl hz14 [.slice A6 (m.add zs en).op c6, .int .i64 (m.add zs en).ps.length, .int .i64 (m.add zs en).N, .int .i64 (m.add zs en).T] rfl rfl ?_)
          | (with_reducible refine at_store 27 (.tmp 6) (.tmp 67) (by rfl) ?_
             refine wpList_store_bk rowR rfl (.tmp 6) (.tmp 67) rfl b 0 rfl hbx5 [.slice A6 (m.add zs en).op c6, .int .i64 (m.add zs en).ps.length, .int .i64 (m.add zs en).N, .int .i64 (m.add zs en).T] rfl rfl (by show 0 + 4 ≤ 4; omega) (by simp [Value.oneCell']) ?_
             intro W6 hz6 hw6
             rw [lay_all _ _ (by rfl)] at hz6
             have HR7 := Lib.hid (JR.add HJ2.out H3.out.1 H3.out.2.2.2.1 H3.out.2.2.2.2 H4.out.2.2.2.1 H4.out.1 H4.out.2.2.1 H4.out.2.2.2.2 hz6 hw6)
             have q1 := conv_any (((H3.out.2.1.below H4.out.2.2.2.1).below H4.out.2.2.2.2).wrT hbx5 (by decide) hw6).1
             have q2 := conv_any ((H4.out.2.1.below H4.out.2.2.2.2).wrT hbx5 (by decide) hw6).1
             have HWr := Lib.hid (And.intro hw6 (And.intro (H4.out.2.2.2.2.mono (show W1.heap.size ≤ W4.heap.size from Nat.le_trans HOw.out.2.2.2.size (Nat.le_trans H3.out.2.2.2.1.size H4.out.2.2.2.1.size))) H4.out.2.2.2.2))
             generalize strOfNums (m.told zs en) = sx at q1 q2
             clear hz14 hbx5 hz6 hw6))
        have HFar : Hid (∀ gb, BlkOf A5 gb → w.heap.size ≤ gb ∧ ¬ F3 gb ∧ gb ≠ b ∧ ¬ BlkOf A6 gb) := Lib.hid fun gb hgb => by
          have h1 := HOw.out.2.2.1 gb hgb
          have h2 := HOw.out.2.1.lt gb hgb
          have h3 := H3.out.2.2.2.1.size
          refine ⟨Nat.le_trans HW1s.out h1, H3.out.2.2.2.2.not h2 (hoffb gb hgb), by have := HbW1.out; omega, fun h4 => ?_⟩
          rcases H4.out.2.2.1 gb h4 with h5 | h5
          · have := HJR.out.q.lt gb h5
            omega
          · omega
        have HO6 : Hid (Ow .u8 5 W1.heap.size W6 (.slice A5 zs.length c5) zs) := Lib.hid (by
          have hblk : ∀ gb, (Value.slice A5 zs.length c5).ownBlock = some gb → BlkOf A5 gb := fun gb hgb => by
            cases A5 with
            | none => simp [Value.ownBlock] at hgb
            | some ad => exact ⟨ad, rfl, by simpa [Value.ownBlock] using hgb⟩
          have o3 := own_st HOw.out.1 H3.out.2.2.2.1 fun gb hgb => hoffb gb (hblk gb hgb)
          have o4 := own_st o3 (F := fun _ => False) (St.ext H4.out.2.2.2.1) fun _ _ h => h
          have o5 := own_st o4 (F := fun _ => False) (St.ext H4.out.2.2.2.2) fun _ _ h => h
          exact own_st o5 (st_wr HWr.out.1) fun gb hgb => (HFar.out gb (hblk gb hgb)).2.2.1)
        clear hoffb q1 q2 HRA
        go_loopw [18] (fun i W => ∃ (j : Nat) (vs : List Int), i = .int .i64 j ∧ j ≤ zs.length ∧ vs.length = zs.length ∧ Ow .u8 5 W1.heap.size W (.slice A5 zs.length c5) vs ∧ JR w b g (m.add zs en) A6 c6 F3 W) (fun i _ => zs.length - (intOf i).toNat)
        case atStart => exact ⟨0, zs, rfl, Nat.zero_le _, rfl, HO6.out, HR7.out⟩
        case round =>
          obtain ⟨j, vs, rfl, hj, hvl, how, hjr⟩ := hrel
          by_cases hlt : j < zs.length
          · obtain ⟨gb, cap, hfm, hgb1, hgb2⟩ := how.form (by omega)
            injection hfm with e1 e2 e3
            subst e1 e3
            obtain ⟨v9, hcell⟩ : ∃ v, wr.cell? ⟨gb, j, none⟩ = some v := ⟨_, how.cellAt hvl (j := j) (by omega)⟩
            have hfree := how.free hvl j
            have HO2 := Lib.hid (how.stored hvl j 0)
            have HJ9 := Lib.hid (hjr.far (St.setCell (F := (· = gb)) _ (a := ⟨gb, j, none⟩) rfl (.int .u8 0)) (fun q hq => by subst hq; exact HFar.out q ⟨_, rfl, rfl⟩))
            have hjI : (j : Int) < zs.length := by omega
            have HVL := Lib.hid hvl
            clear how hjr hvl e2
            go_wp2
            go_roundw
            case rel => exact ⟨j + 1, _, by go_num, by omega, by rw [List.length_set]; exact HVL.out, HO2.out, HJ9.out⟩
            case measure => simp [intOf]; omega
          · obtain rfl : j = zs.length := by omega
            have HJ9 := Lib.hid hjr
            have hzb := hjr.bx
            have HN3 := Lib.hid (m.add_N zs en k HNT.out.1)
            have HT3 := Lib.hid (m.add_T zs en k HNT.out.2)
            clear how hjr
            go_wp2_with (first
              | (with_reducible refine at_load 27 (.tmp 6) (by rfl) ?_
                 refine wpList_load_bk rowR rfl (.tmp 6) rfl b 0 rfl hzb [.slice A6 (m.add zs en).op c6, .int .i64 (m.add zs en).ps.length, .int .i64 (m.add zs en).N, .int .i64 (m.add zs en).T] rfl rfl ?_)
              | (go_at_call 14; refine (same_true HJ9.out.j x).mono ?_; rintro e w9 ⟨rfl, hb9⟩))
            go_roundw
            case rel => exact ⟨k + 1, _, by go_num, by omega, rfl, g, m.add zs en, A6, c6, F3, rfl, HJ9.out.next hb9, HN3.out, HT3.out⟩
            case measure => simp [intOf]; omega
    · have HB := Lib.hid hJR.bel
      clear hJR hN hT
      rcases (by omega : n0 ≤ k ∨ (k < n0 ∧ 30 ≤ k)) with h9 | ⟨h9, h10⟩
      · have h9' : (n0 : Int) ≤ k := by omega
        go_wp2
        go_ret
        exact ⟨rfl, HB.out⟩
      · have h9' : (k : Int) < n0 := by omega
        have h10' : (30 : Int) ≤ k := by omega
        go_wp2
        go_ret
        exact ⟨rfl, HB.out⟩
end Go.Proofs.Ytdakojggknkidaa
