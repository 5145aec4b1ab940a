/- The document's pacer: a turn. -/
import Derived.Test.YtdldocbfnjbhmaaK19
set_option linter.unusedSimpArgs false
set_option linter.unusedVariables false
set_option maxRecDepth 100000
namespace Go.Proofs.Ytdldocbfnjbhmaa
open Go.RowKit Go.Shelf
section
variable {X X' F : Nat → Prop} {w w' : World} {v : Rv} {m : Pm} {k : Ky}
theorem issue_num (m : Pm) (i : Nat) (x : Kn) : (m.issue i x).most = m.most ∧ (m.issue i x).run = m.run ∧ (m.issue i x).total = m.total := by
  obtain ⟨e1, e2, e3, e4⟩ := push_total m x.g x.k
  unfold Pm.issue Pm.setL
  split
  · exact ⟨e2, e4, e1⟩
  · exact ⟨rfl, rfl, rfl⟩
theorem push_swap {most : Nat} {m1 : Pm} {run total : Int} {g : Int} (h : RpR X w v ((⟨most, m1.L, m1.q0, m1.q1, run, total⟩ : Pm).push g k)) : RpR X w v (m1.push g k) := by
  unfold Pm.push at h ⊢
  split at h
  · next e => rw [if_pos e]; exact ⟨h.l, h.p, h.u⟩
  · next e => rw [if_neg e]; exact ⟨h.l, h.p, h.u⟩
set_option maxHeartbeats 16000000 in
theorem r_tick (h : RpR X w v m) (ok : m.Ok) (ht : m.total ≤ 4611686018427387903) (hX : ∀ j, w.heap.size ≤ j → X j) : Calls Try.prog 39 #[.agg #[.slice v.A v.n v.c, .slice v.B v.k v.d, .slice v.C v.r v.e, .int .i64 m.most, .int .i64 m.run, .int .i64 m.total]] w fun e w' =>
    ∃ v2, e = .returned (.tuple #[.agg #[.slice v2.A v2.n v2.c, .slice v2.B v2.k v2.d, .slice v2.C v2.r v2.e, .int .i64 m.tickR.1.most, .int .i64 m.tickR.1.run, .int .i64 m.tickR.1.total], .agg #[.int .i64 m.tickR.2.1.s, .int .i64 m.tickR.2.1.c], .int .i64 m.tickR.2.2.1, .bool m.tickR.2.2.2]) ∧ RpR X w' v2 m.tickR.1 ∧ Below w.heap.size w w' := by
  obtain ⟨W, hW⟩ : ∃ W, W = ((w.alloc (.cells #[.slice v.A v.n v.c, .slice v.B v.k v.d, .slice v.C v.r v.e, .int .i64 m.most, .int .i64 m.run, .int .i64 m.total] 30)).alloc (.cells #[.slice none 0 0, .slice none 0 0, .slice none 0 0, .int .i64 0, .int .i64 0, .int .i64 0] 30)).alloc (.cells #[.int .i64 zK.s, .int .i64 zK.c] 35) := ⟨_, rfl⟩
  have hb1 : Below w.heap.size w W := by rw [hW]; exact (((Below.refl _ w).alloc (Nat.le_refl _) _).alloc (by simp) _).alloc (by simp; omega) _
  have hsW : w.heap.size + 1 + 1 + 1 = W.heap.size := by rw [hW]; simp
  have z1 : Bk W 30 w.heap.size ([.slice v.A v.n v.c, .slice v.B v.k v.d, .slice v.C v.r v.e, .int .i64 m.most, .int .i64 m.run, .int .i64 m.total]) := by rw [hW]; exact ((Bk.new w 30 ([.slice v.A v.n v.c, .slice v.B v.k v.d, .slice v.C v.r v.e, .int .i64 m.most, .int .i64 m.run, .int .i64 m.total])).alloc _).alloc _
  have z2 : Bk W 30 (w.heap.size + 1) [.slice none 0 0, .slice none 0 0, .slice none 0 0, .int .i64 0, .int .i64 0, .int .i64 0] := by
    have := (Bk.new (w.alloc (.cells #[.slice v.A v.n v.c, .slice v.B v.k v.d, .slice v.C v.r v.e, .int .i64 m.most, .int .i64 m.run, .int .i64 m.total] 30)) 30 [.slice none 0 0, .slice none 0 0, .slice none 0 0, .int .i64 0, .int .i64 0, .int .i64 0]).alloc (.cells #[.int .i64 zK.s, .int .i64 zK.c] 35)
    rw [World.size_alloc] at this
    rw [hW]; exact this
  have z3 : Bk W 35 (w.heap.size + 2) zK.cl := by
    have := Bk.new ((w.alloc (.cells #[.slice v.A v.n v.c, .slice v.B v.k v.d, .slice v.C v.r v.e, .int .i64 m.most, .int .i64 m.run, .int .i64 m.total] 30)).alloc (.cells #[.slice none 0 0, .slice none 0 0, .slice none 0 0, .int .i64 0, .int .i64 0, .int .i64 0] 30)) 35 zK.cl
    simp only [World.size_alloc] at this
    rw [hW]; exact this
  unfold zK at hW
  dsimp only at hW
  have ht0 := ok.t0
  have HSW := Lib.hid hsW
  have HX := Lib.hid hX
  have HA := Lib.hid (And.intro hb1 (And.intro z1 (And.intro z2 z3)))
  obtain ⟨X2, hX2⟩ : ∃ X2 : Nat → Prop, X2 = fun j => X j ∧ j ≠ w.heap.size ∧ j ≠ w.heap.size + 1 ∧ j ≠ w.heap.size + 2 := ⟨_, rfl⟩
  have h2 : RpR X2 W v m := by rw [hX2]; exact (h.low.mono fun j hj => ⟨hj.1, by omega, by omega, by omega⟩).below hb1
  have hXN : ∀ j, W.heap.size ≤ j → X2 j := fun j hj => by rw [hX2]; exact ⟨hX j (by omega), by omega, by omega, by omega⟩
  have HXE : Hid (∀ j, X2 j → X j ∧ j ≠ w.heap.size ∧ j ≠ w.heap.size + 1 ∧ j ≠ w.heap.size + 2) := Lib.hid fun j hj => by rw [hX2] at hj; exact hj
  have HXN := Lib.hid hXN
  clear hX2 hsW z1 z2 z3 hb1 hX
  cases hp : m.pop with
  | none =>
    have HR := Lib.hid (tick_none hp)
    have HT := Lib.hid (r_turn_no h2 ok hp)
    have HH := Lib.hid h
    generalize m.tickR = R at *
    clear h h2 hXN ok hp
    go_enter Try.func39, Try.ntmps39
    go_wp2_with fail
    rw [← hW]
    clear hW
    refine HT.out.mono ?_
    rintro e w1 ⟨rfl, hb⟩
    have hs1 := hb.size
    have zp := (HA.out.2.1.below hb).alloc (.cells #[.int .i64 zK.s, .int .i64 zK.c] 35)
    have z2 := (HA.out.2.2.1.below hb).alloc (.cells #[.int .i64 zK.s, .int .i64 zK.c] 35)
    have z3 := (HA.out.2.2.2.below hb).alloc (.cells #[.int .i64 zK.s, .int .i64 zK.c] 35)
    have zk := Bk.new w1 35 zK.cl
    have hb2 := HA.out.1.trans ((hb.trans ((Below.refl W.heap.size w1).alloc hs1 (.cells #[.int .i64 zK.s, .int .i64 zK.c] 35))).mono HA.out.1.size)
    have HB2 := Lib.hid hb2
    have HS1 := Lib.hid hs1
    clear hb hs1 hb2
    go_wp2_with (first
      | (with_reducible refine at_store 30 (.tmp 1) (.tmp 13) (by rfl) ?_
         refine wpList_store_bk rowR rfl (.tmp 1) (.tmp 13) rfl w.heap.size 0 rfl zp ([.slice v.A v.n v.c, .slice v.B v.k v.d, .slice v.C v.r v.e, .int .i64 m.most, .int .i64 m.run, .int .i64 m.total]) rfl rfl (by show 0 + 6 ≤ 6; omega) (by simp [Value.oneCell']) ?_
         intro w2 hz1 hw2
         rw [lay_all _ _ (by rfl)] at hz1
         have hk1 : w1.heap.size ≠ w.heap.size := by have := HSW.out; have := HS1.out; omega
         replace z2 := z2.wr hw2 (by omega)
         replace z3 := z3.wr hw2 (by omega)
         replace zk := zk.wr hw2 hk1)
      | (with_reducible refine at_store 35 (.tmp 6) (.tmp 14) (by rfl) ?_
         refine wpList_store_bk rowRK rfl (.tmp 6) (.tmp 14) rfl w1.heap.size 0 rfl zk (zK).cl rfl rfl (by decide) (zK).cl_one ?_
         intro w3 hzk hw3
         rw [lay_all _ _ (by rfl)] at hzk
         have hk0 : w.heap.size ≠ w1.heap.size := fun e => hk1 e.symm
         have z1 := hz1.wr hw3 hk0
         replace z2 := z2.wr hw3 (by have := HSW.out; have := HS1.out; omega)
         replace z3 := z3.wr hw3 (by have := HSW.out; have := HS1.out; omega)
         have hs2 := st_wr hw2
         have hs3 := st_wr hw3
         have HB3 : Hid (Below w.heap.size w w3) := Lib.hid (by
           have b2 := HB2.out.trans (hs2.below HB2.out.size fun j e => by omega)
           exact b2.trans (hs3.below b2.size fun j e => by have := HSW.out; have := HS1.out; omega))
         skip
         clear hz1 zp hk0)
      | (with_reducible refine at_load 30 (.tmp 1) (by rfl) ?_; refine wpList_load_bk rowR rfl (.tmp 1) rfl w.heap.size 0 rfl z1 ([.slice v.A v.n v.c, .slice v.B v.k v.d, .slice v.C v.r v.e, .int .i64 m.most, .int .i64 m.run, .int .i64 m.total]) rfl rfl ?_)
      | (with_reducible refine at_store 30 (.tmp 2) (.tmp 18) (by rfl) ?_; refine wpList_store_bk rowR rfl (.tmp 2) (.tmp 18) rfl (w.heap.size + 1) 0 rfl z2 ([.slice v.A v.n v.c, .slice v.B v.k v.d, .slice v.C v.r v.e, .int .i64 m.most, .int .i64 m.run, .int .i64 m.total]) rfl rfl (by decide) (by simp [Value.oneCell']) ?_; intro w5 hz5 hw5; replace z3 := z3.wr hw5 (by omega))
      | (with_reducible refine at_store 35 (.tmp 3) (.tmp 19) (by rfl) ?_; refine wpList_store_bk rowRK rfl (.tmp 3) (.tmp 19) rfl (w.heap.size + 2) 0 rfl z3 zK.cl rfl rfl (by decide) zK.cl_one ?_; intro w6 hz6 hw6))
    rw [lay_all _ _ (by rfl)] at hz5 hz6
    have hz7 := hz5.wr hw6 (by omega)
    have hbF : Below w.heap.size w w6 := by
      have b5 := HB3.out.trans (hw5.below (B := w.heap.size) (by omega) HB3.out.size)
      exact b5.trans (hw6.below (by omega) b5.size)
    refine bodyPost_ret (results_cctt rfl rfl (rowR.load hz7 0 (cs := [.slice v.A v.n v.c, .slice v.B v.k v.d, .slice v.C v.r v.e, .int .i64 m.most, .int .i64 m.run, .int .i64 m.total]) rfl rfl) rfl (rowRK.load hz6 0 (cs := zK.cl) rfl rfl)) rfl ⟨v, ?_, ?_, hbF⟩
    · rw [HR.out]; rfl
    · rw [HR.out]; exact HH.out.below hbF
  | some km =>
    obtain ⟨i, x, hg, hx, hL, hxg⟩ := ok.popped hp
    have hpe := ok.pe x hg.mem
    have hgl := ok.gl x hg.mem
    obtain ⟨k, m1⟩ := km
    dsimp only at hL hg
    have HR := Lib.hid (tick_some hp (i := i) (x := x) (by rw [hL]; exact hg))
    have HT := Lib.hid (r_turn h2 ok hp hXN)
    have hm1 : m1.most = m.most ∧ m1.total = m.total + 1 ∧ m1.q0.length ≤ 512 ∧ m1.q1.length ≤ 512 := by
      have l0 := ok.len0
      have l1 := ok.len1
      rcases turn_pop ok hp with ⟨r, h1, h2, h3⟩ | ⟨r, h1, h2, h3⟩
      · dsimp only at h2 h3
        rw [h2] at l0
        rw [h3]
        exact ⟨rfl, rfl, by simp at l0; show r.length ≤ 512; omega, l1⟩
      · dsimp only at h2 h3
        rw [h2] at l1
        rw [h3]
        exact ⟨rfl, rfl, l0, by simp at l1; show r.length ≤ 512; omega⟩
    have hll : m.L.length ≤ 512 := by have := ok.ll; have := ok.mo; omega
    have HM1 := Lib.hid (And.intro hm1 (And.intro hL (And.intro hg (And.intro hgl hll))))
    have hq0 : 0 < x.p := hx
    have hq1 : x.p ≤ 1152921504606846976 := hpe.2.1
    have hi0 : 0 ≤ x.i := hpe.2.2.1
    have hi1 : x.i ≤ 4611686018427387903 := by have := hpe.2.2.2; omega
    have hHH := Lib.hid (issue_num m1 i x)
    generalize m.tickR = R at *
    clear h h2 hXN ok hp hx hpe hgl hxg hm1 hll hL hg
    by_cases hz : 0 < x.p - 1
    · have HIS : Hid (m1.issue i x = (m1.push x.g x.k).setL ((m1.push x.g x.k).L.set i x.told)) := Lib.hid (by unfold Pm.issue; rw [if_pos hz, (push_total _ _ _).2.2.1])
      go_enter Try.func39, Try.ntmps39
      go_wp2_with fail
      rw [← hW]
      clear hW
      refine HT.out.mono ?_
      rintro e w1 ⟨v1, rfl, hr1, hb⟩
      have hs1 := hb.size
      have zp := (HA.out.2.1.below hb).alloc (.cells #[.int .i64 zK.s, .int .i64 zK.c] 35)
      have z2 := (HA.out.2.2.1.below hb).alloc (.cells #[.int .i64 zK.s, .int .i64 zK.c] 35)
      have z3 := (HA.out.2.2.2.below hb).alloc (.cells #[.int .i64 zK.s, .int .i64 zK.c] 35)
      have zk := Bk.new w1 35 zK.cl
      have hb2 := HA.out.1.trans ((hb.trans ((Below.refl W.heap.size w1).alloc hs1 (.cells #[.int .i64 zK.s, .int .i64 zK.c] 35))).mono HA.out.1.size)
      have HB2 := Lib.hid hb2
      have HS1 := Lib.hid hs1
      have HR1 := Lib.hid ((hr1.low).below ((Below.refl w1.heap.size w1).alloc (Nat.le_refl _) (.cells #[.int .i64 zK.s, .int .i64 zK.c] 35)))
      clear hr1
      clear hb hs1 hb2
      go_wp2_with (first
        | (with_reducible refine at_store 30 (.tmp 1) (.tmp 13) (by rfl) ?_
           refine wpList_store_bk rowR rfl (.tmp 1) (.tmp 13) rfl w.heap.size 0 rfl zp ([.slice v1.A v1.n v1.c, .slice v1.B v1.k v1.d, .slice v1.C v1.r v1.e, .int .i64 m.most, .int .i64 m1.run, .int .i64 m.total]) rfl rfl (by show 0 + 6 ≤ 6; omega) (by simp [Value.oneCell']) ?_
           intro w2 hz1 hw2
           rw [lay_all _ _ (by rfl)] at hz1
           have hk1 : w1.heap.size ≠ w.heap.size := by have := HSW.out; have := HS1.out; omega
           replace z2 := z2.wr hw2 (by omega)
           replace z3 := z3.wr hw2 (by omega)
           replace zk := zk.wr hw2 hk1)
        | (with_reducible refine at_store 35 (.tmp 6) (.tmp 14) (by rfl) ?_
           refine wpList_store_bk rowRK rfl (.tmp 6) (.tmp 14) rfl w1.heap.size 0 rfl zk (k).cl rfl rfl (by decide) (k).cl_one ?_
           intro w3 hzk hw3
           rw [lay_all _ _ (by rfl)] at hzk
           have hk0 : w.heap.size ≠ w1.heap.size := fun e => hk1 e.symm
           have z1 := hz1.wr hw3 hk0
           replace z2 := z2.wr hw3 (by have := HSW.out; have := HS1.out; omega)
           replace z3 := z3.wr hw3 (by have := HSW.out; have := HS1.out; omega)
           have hs2 := st_wr hw2
           have hs3 := st_wr hw3
           have HB3 : Hid (Below w.heap.size w w3) := Lib.hid (by
             have b2 := HB2.out.trans (hs2.below HB2.out.size fun j e => by omega)
             exact b2.trans (hs3.below b2.size fun j e => by have := HSW.out; have := HS1.out; omega))
           have HR3 := Lib.hid ((HR1.out.st hs2 fun j hj => (HXE.out j hj.1).2.1).st hs3 fun j hj => by have := hj.2; omega)
           have HS3 := Lib.hid (show w1.heap.size < w3.heap.size by have := hs2.size; have := hs3.size; simp at *; omega)
           clear hz1 zp hk0)
        | (with_reducible refine at_load 30 (.tmp 1) (by rfl) ?_; refine wpList_load_bk rowR rfl (.tmp 1) rfl w.heap.size 0 rfl z1 ([.slice v1.A v1.n v1.c, .slice v1.B v1.k v1.d, .slice v1.C v1.r v1.e, .int .i64 m.most, .int .i64 m1.run, .int .i64 m.total]) rfl rfl ?_)
        | (with_reducible refine at_load 35 (.tmp 6) (by rfl) ?_; refine wpList_load_pk rowRK rfl (.tmp 6) rfl k w1.heap.size 0 rfl (rangeK hzk) ?_))
      have HF : Hid (Calls Try.prog 41 #[.agg #[.slice v1.A v1.n v1.c, .slice v1.B v1.k v1.d, .slice v1.C v1.r v1.e, .int .i64 m.most, .int .i64 m1.run, .int .i64 m.total], .agg #[.int .i64 k.s, .int .i64 k.c]] w3 fun e w' => e = .returned (.int .i64 i) ∧ Below w3.heap.size w3 w') := Lib.hid (by
        have hh := r_find (m := ⟨m.most, m1.L, m1.q0, m1.q1, m1.run, m.total⟩) (v := v1) ⟨HR3.out.l, HR3.out.p, HR3.out.u⟩ (by rw [HR3.out.l.1, HM1.out.2.1]; have := HM1.out.2.2.2.2; omega) k
        rw [show ixI (⟨m.most, m1.L, m1.q0, m1.q1, m1.run, m.total⟩ : Pm).L k = i from by show ixI m1.L k = i; rw [HM1.out.2.1]; exact ixI_got HM1.out.2.2.1] at hh
        exact hh)
      refine HF.out.mono ?_
      rintro e w4 ⟨rfl, hb4⟩
      replace z1 := z1.below hb4
      replace z2 := z2.below hb4
      replace z3 := z3.below hb4
      replace hzk := hzk.below hb4
      have hr4 := HR3.out.below hb4
      have c0 := z1.cell 0 rfl
      have c5 := z1.cell 5 rfl
      have f5 := z1.free 5
      have hlt := z1.lt
      obtain ⟨g, o, hAa, hgg, hra⟩ := hr4.l.row (i := i) (x := x) (by rw [HM1.out.2.1]; exact HM1.out.2.2.1.1)
      have hiv : (i : Int) < v1.n := by have e1 := hr4.l.1; have e2 := HM1.out.2.2.1.lt; rw [HM1.out.2.1] at e1; omega
      have hst5 : St (· = w.heap.size) w4 (w4.setCell ⟨w.heap.size, 5, none⟩ (.int .i64 (m.total + 1))) := St.setCell (F := (· = w.heap.size)) w4 (a := ⟨w.heap.size, 5, none⟩) rfl _
      have y1 := (z1.set 5 (.int .i64 (m.total + 1))).alloc (.cells #[.int .i64 x.k.s, .int .i64 x.k.c, .int .i64 x.g, .int .i64 (x.p - 1), .int .i64 (x.i + 1)] 50)
      have y2 := (z2.far (p := ⟨w.heap.size, 5, none⟩) (by simp) (.int .i64 (m.total + 1))).alloc (.cells #[.int .i64 x.k.s, .int .i64 x.k.c, .int .i64 x.g, .int .i64 (x.p - 1), .int .i64 (x.i + 1)] 50)
      have y3 := (z3.far (p := ⟨w.heap.size, 5, none⟩) (by simp) (.int .i64 (m.total + 1))).alloc (.cells #[.int .i64 x.k.s, .int .i64 x.k.c, .int .i64 x.g, .int .i64 (x.p - 1), .int .i64 (x.i + 1)] 50)
      have yk := (hzk.far (p := ⟨w.heap.size, 5, none⟩) hk1 (.int .i64 (m.total + 1))).alloc (.cells #[.int .i64 x.k.s, .int .i64 x.k.c, .int .i64 x.g, .int .i64 (x.p - 1), .int .i64 (x.i + 1)] 50)
      have yx := Bk.new (w4.setCell ⟨w.heap.size, 5, none⟩ (.int .i64 (m.total + 1))) 50 [.int .i64 x.k.s, .int .i64 x.k.c, .int .i64 x.g, .int .i64 (x.p - 1), .int .i64 (x.i + 1)]
      have hr5 := (hr4.st hst5 fun j hj => (HXE.out j hj.1).2.1).below ((Below.refl _ _).alloc (Nat.le_refl _) (.cells #[.int .i64 x.k.s, .int .i64 x.k.c, .int .i64 x.g, .int .i64 (x.p - 1), .int .i64 (x.i + 1)] 50))
      have hb5 : Below w.heap.size w ((w4.setCell ⟨w.heap.size, 5, none⟩ (.int .i64 (m.total + 1))).alloc (.cells #[.int .i64 x.k.s, .int .i64 x.k.c, .int .i64 x.g, .int .i64 (x.p - 1), .int .i64 (x.i + 1)] 50)) := ((HB3.out.trans (hb4.mono HB3.out.size)).setCell (by simp) _).alloc (by have := hb4.size; have := HB3.out.size; simp [World.setCell]; omega) _
      have hsz5 : ((w4.setCell ⟨w.heap.size, 5, none⟩ (.int .i64 (m.total + 1))).alloc (.cells #[.int .i64 x.k.s, .int .i64 x.k.c, .int .i64 x.g, .int .i64 (x.p - 1), .int .i64 (x.i + 1)] 50)).heap.size = w4.heap.size + 1 := by simp [World.setCell]
      have hsx : (w4.setCell ⟨w.heap.size, 5, none⟩ (.int .i64 (m.total + 1))).heap.size = w4.heap.size := by simp [World.setCell]
      rw [hsx] at yx
      have H5 := Lib.hid (And.intro y1 (And.intro y2 (And.intro y3 (And.intro yk (And.intro yx (And.intro hr5 (And.intro hb5 hsz5)))))))
      have HS4 := Lib.hid hb4.size
      rw [hAa] at c0
      have HAa := Lib.hid hAa
      clear hb4 hr4 z1 z2 z3 hzk y1 y2 y3 yk yx hr5 hb5 hsz5 hsx hst5 hAa
      go_wp2_with (first
        | (with_reducible refine at_load 50 (.tmp 26) (by rfl) ?_; refine wpList_load_kn rowN rfl (.tmp 26) rfl x g (o + i * 5) rfl hra ?_)
        | (with_reducible refine at_load 30 (.tmp 1) (by rfl) ?_; refine wpList_load_bk rowR rfl (.tmp 1) rfl w.heap.size 0 rfl H5.out.1 ([.slice v1.A v1.n v1.c, .slice v1.B v1.k v1.d, .slice v1.C v1.r v1.e, .int .i64 m.most, .int .i64 m1.run, .int .i64 (m.total + 1)]) rfl rfl ?_)
        | (with_reducible refine at_load 50 (.tmp 9) (by rfl) ?_; refine wpList_load_bk rowN rfl (.tmp 9) rfl w4.heap.size 0 rfl H5.out.2.2.2.2.1 [.int .i64 x.k.s, .int .i64 x.k.c, .int .i64 x.g, .int .i64 (x.p - 1), .int .i64 (x.i + 1)] rfl rfl ?_))
      clear c0 c5 f5 hra
      have hsz5 := H5.out.2.2.2.2.2.2.2
      have HBh : Hid (Calls Try.prog 54 #[.agg #[.slice v1.A v1.n v1.c, .slice v1.B v1.k v1.d, .slice v1.C v1.r v1.e, .int .i64 m.most, .int .i64 m1.run, .int .i64 (m.total + 1)], .agg #[.int .i64 x.k.s, .int .i64 x.k.c, .int .i64 x.g, .int .i64 (x.p - 1), .int .i64 (x.i + 1)]] ((w4.setCell ⟨w.heap.size, 5, none⟩ (.int .i64 (m.total + 1))).alloc (.cells #[.int .i64 x.k.s, .int .i64 x.k.c, .int .i64 x.g, .int .i64 (x.p - 1), .int .i64 (x.i + 1)] 50)) fun e w' => ∃ v2 : Rv, e = .returned (.agg #[.slice v2.A v2.n v2.c, .slice v2.B v2.k v2.d, .slice v2.C v2.r v2.e, .int .i64 m.most, .int .i64 m1.run, .int .i64 (m.total + 1)]) ∧ RpR (fun j => X2 j ∧ j ≠ w1.heap.size ∧ j ≠ w4.heap.size) w' v2 (m1.push x.g x.k) ∧ Below ((w4.setCell ⟨w.heap.size, 5, none⟩ (.int .i64 (m.total + 1))).alloc (.cells #[.int .i64 x.k.s, .int .i64 x.k.c, .int .i64 x.g, .int .i64 (x.p - 1), .int .i64 (x.i + 1)] 50)).heap.size ((w4.setCell ⟨w.heap.size, 5, none⟩ (.int .i64 (m.total + 1))).alloc (.cells #[.int .i64 x.k.s, .int .i64 x.k.c, .int .i64 x.g, .int .i64 (x.p - 1), .int .i64 (x.i + 1)] 50)) w') := Lib.hid (by
        have hr5 := H5.out.2.2.2.2.2.1
        have s3 := HS3.out
        have s4 := HS4.out
        have s1 := HS1.out
        refine (r_behind (X := fun j => X2 j ∧ j ≠ w1.heap.size ∧ j ≠ w4.heap.size) (m := ⟨m.most, m1.L, m1.q0, m1.q1, m1.run, m.total + 1⟩) (v := v1) ⟨hr5.l.mono fun j hj => ⟨hj.1, by have := hj.2; omega, by have := hj.2; omega⟩, hr5.p.mono fun j hj => ⟨hj.1, by have := hj.2; omega, by have := hj.2; omega⟩, hr5.u.mono fun j hj => ⟨hj.1, by have := hj.2; omega, by have := hj.2; omega⟩⟩ ⟨by have := hr5.p.1; have := HM1.out.1.2.2.1; omega, by have := hr5.u.1; have := HM1.out.1.2.2.2; omega⟩ x.told HM1.out.2.2.2.1 (fun j hj => by rw [hsz5] at hj; exact ⟨HXN.out j (by omega), by omega, by omega⟩)).mono ?_
        rintro e w' ⟨v2, rfl, hh, hb⟩
        exact ⟨v2, rfl, push_swap hh, hb⟩)
      clear hsz5
      generalize hW5 : ((w4.setCell ⟨w.heap.size, 5, none⟩ (.int .i64 (m.total + 1))).alloc (.cells #[.int .i64 x.k.s, .int .i64 x.k.c, .int .i64 x.g, .int .i64 (x.p - 1), .int .i64 (x.i + 1)] 50)) = W5 at *
      have HS5 := Lib.hid H5.out.2.2.2.2.2.2.2
      clear hW5
      refine HBh.out.mono ?_
      rintro e w6 ⟨v2, rfl, hr6, hb6⟩
      have y1 := H5.out.1.below hb6
      have y2 := H5.out.2.1.below hb6
      have y3 := H5.out.2.2.1.below hb6
      have yk := H5.out.2.2.2.1.below hb6
      have yx := H5.out.2.2.2.2.1.below hb6
      have HR6 := Lib.hid hr6
      have HB6 := Lib.hid (H5.out.2.2.2.2.2.2.1.trans (hb6.mono H5.out.2.2.2.2.2.2.1.size))
      have HS6 := Lib.hid (show w4.heap.size < w6.heap.size by have := hb6.size; have := HS5.out; omega)
      clear hr6 hb6 H5
      go_wp2_with (first
        | (with_reducible refine at_store 30 (.tmp 1) (.tmp 45) (by rfl) ?_
           refine wpList_store_bk rowR rfl (.tmp 1) (.tmp 45) rfl w.heap.size 0 rfl y1 ([.slice v2.A v2.n v2.c, .slice v2.B v2.k v2.d, .slice v2.C v2.r v2.e, .int .i64 m.most, .int .i64 m1.run, .int .i64 (m.total + 1)]) rfl rfl (by show 0 + 6 ≤ 6; omega) (by simp [Value.oneCell']) ?_
           intro w7 hz7 hw7
           rw [lay_all _ _ (by rfl)] at hz7
           have hs7 := st_wr hw7
           have hl4 : w4.heap.size ≠ w.heap.size := by have := HSW.out; have := HS1.out; have := HS3.out; have := HS4.out; omega
           have HZ := Lib.hid (And.intro hz7 (And.intro (y2.wr hw7 (by omega)) (And.intro (y3.wr hw7 (by omega)) (And.intro (yk.wr hw7 hk1) (And.intro (yx.wr hw7 hl4) (And.intro (HR6.out.st hs7 fun j hj => (HXE.out j hj.1).2.1) (And.intro (HB6.out.trans (hs7.below HB6.out.size fun j e => by omega)) (Nat.lt_of_lt_of_le HS6.out hs7.size))))))))
           clear y1 y2 y3 yk yx hz7 hs7 hl4))
      refine wp_region_E (St (fun j => j = w.heap.size + 1 ∨ j = w.heap.size + 2)) (by kernel_rfl) (fun wd hbd hsz => ?_)
      have z1 := HZ.out.1.below hbd
      have z2 := HZ.out.2.1.below hbd
      have z3 := HZ.out.2.2.1.below hbd
      have zk := HZ.out.2.2.2.1.below hbd
      have zx := HZ.out.2.2.2.2.1.below hbd
      have hrd := HZ.out.2.2.2.2.2.1.below hbd
      have HBd := Lib.hid (HZ.out.2.2.2.2.2.2.1.trans (hbd.mono HZ.out.2.2.2.2.2.2.1.size))
      have n0 : ¬ (w.heap.size = w.heap.size + 1 ∨ w.heap.size = w.heap.size + 2) := by omega
      have n1 : ¬ (w1.heap.size = w.heap.size + 1 ∨ w1.heap.size = w.heap.size + 2) := by have := HSW.out; have := HS1.out; omega
      have n4 : ¬ (w4.heap.size = w.heap.size + 1 ∨ w4.heap.size = w.heap.size + 2) := by have := HSW.out; have := HS1.out; have := HS3.out; have := HS4.out; omega
      have q4 : ∀ V, St (fun j => j = w.heap.size + 1 ∨ j = w.heap.size + 2) wd V → V.cell? ⟨w4.heap.size, 4, none⟩ = some (.int .i64 (x.i + 1)) := fun V hV => (zx.st hV n4).cell 4 rfl
      have HWi : Hid (∀ V, St (fun j => j = w.heap.size + 1 ∨ j = w.heap.size + 2) wd V → Calls Try.prog 55 #[.agg #[.slice v2.A v2.n v2.c, .slice v2.B v2.k v2.d, .slice v2.C v2.r v2.e, .int .i64 m.most, .int .i64 m1.run, .int .i64 (m.total + 1)], .int .i64 i, .agg #[.int .i64 x.k.s, .int .i64 x.k.c, .int .i64 x.g, .int .i64 (x.p - 1), .int .i64 (x.i + 1)]] V fun e w' => ∃ v3 : Rv, e = .returned (.agg #[.slice v3.A v3.n v3.c, .slice v3.B v3.k v3.d, .slice v3.C v3.r v3.e, .int .i64 m.most, .int .i64 m1.run, .int .i64 (m.total + 1)]) ∧ RpR X2 w' v3 (m1.issue i x) ∧ Below V.heap.size V w') := Lib.hid fun V hV => by
        rw [HIS.out]
        have hrv := hrd.st hV fun j hj e => by have := HXE.out j hj.1; omega
        have hsv := hV.size
        have hlm : (m1.push x.g x.k).L = m1.L := (push_total m1 x.g x.k).2.2.1
        refine (r_with (X := X2) (m := ⟨m.most, (m1.push x.g x.k).L, (m1.push x.g x.k).q0, (m1.push x.g x.k).q1, m1.run, m.total + 1⟩) (v := v2) ⟨hrv.l.mono fun j hj => hj.1, hrv.p.mono fun j hj => hj.1, hrv.u.mono fun j hj => hj.1⟩ (by rw [hrv.l.1, hlm, HM1.out.2.1]; have := HM1.out.2.2.2.2; omega) i x.told (by show i < (m1.push x.g x.k).L.length; rw [hlm, HM1.out.2.1]; exact HM1.out.2.2.1.lt) (fun j hj => HXN.out j (by have := HZ.out.2.2.2.2.2.2.2; have := HS1.out; have := HS3.out; have := HS4.out; have := HBd.out.size; have := hbd.size; omega))).mono ?_
        rintro e w' ⟨v3, rfl, hh, hb⟩
        exact ⟨v3, rfl, ⟨hh.l, hh.p, hh.u⟩, hb⟩
      have hc : St (fun j => j = w.heap.size + 1 ∨ j = w.heap.size + 2) wd wd := St.refl _ _
      clear hsz hrd
      (refine takeE (St.tr (fun j => j = w.heap.size + 1 ∨ j = w.heap.size + 2)) 0 (by simp only [List.getElem?_toArray, List.getElem?_cons_succ, List.getElem?_cons_zero]; rfl) (by kernel_rfl) (by kernel_rfl) (by kernel_rfl) (by exact fun _ _ _ h => h) (by first | (refine Or.inl ⟨by rfl, ?_⟩; intro W hW; exact exec_loadC rowR (.tmp 1) rfl w.heap.size rfl ([.slice v2.A v2.n v2.c, .slice v2.B v2.k v2.d, .slice v2.C v2.r v2.e, .int .i64 m.most, .int .i64 m1.run, .int .i64 (m.total + 1)]) (z1.st hW n0) rfl) | exact Or.inr ⟨by rfl, rfl⟩) ?_; try simp only [Act.put, List.setIfInBounds_toArray, List.set_cons_zero, List.set_cons_succ])
      (refine takeE (St.tr (fun j => j = w.heap.size + 1 ∨ j = w.heap.size + 2)) 1 (by simp only [List.getElem?_toArray, List.getElem?_cons_succ, List.getElem?_cons_zero]; rfl) (by kernel_rfl) (by kernel_rfl) (by kernel_rfl) (by exact fun _ _ _ h => h) (by first | (refine Or.inl ⟨by rfl, ?_⟩; intro W hW; go_simp; try with_reducible rfl) | exact Or.inr ⟨by rfl, rfl⟩) ?_; try simp only [Act.put, List.setIfInBounds_toArray, List.set_cons_zero, List.set_cons_succ])
      (refine takeE (St.tr (fun j => j = w.heap.size + 1 ∨ j = w.heap.size + 2)) 2 (by simp only [List.getElem?_toArray, List.getElem?_cons_succ, List.getElem?_cons_zero]; rfl) (by kernel_rfl) (by kernel_rfl) (by kernel_rfl) (by exact fun _ _ _ h => h) (by first | (refine Or.inl ⟨by rfl, ?_⟩; intro W hW; exact exec_loadC rowN (.tmp 9) rfl w4.heap.size rfl [.int .i64 x.k.s, .int .i64 x.k.c, .int .i64 x.g, .int .i64 (x.p - 1), .int .i64 (x.i + 1)] (zx.st hW n4) rfl) | exact Or.inr ⟨by rfl, rfl⟩) ?_; try simp only [Act.put, List.setIfInBounds_toArray, List.set_cons_zero, List.set_cons_succ])
      (refine takeE (St.tr (fun j => j = w.heap.size + 1 ∨ j = w.heap.size + 2)) 4 (by simp only [List.getElem?_toArray, List.getElem?_cons_succ, List.getElem?_cons_zero]; rfl) (by kernel_rfl) (by kernel_rfl) (by kernel_rfl) (by exact fun _ _ _ h => h) (by first | (refine Or.inl ⟨by rfl, ?_⟩; intro W hW; exact exec_loadK rowRK (.tmp 6) rfl w1.heap.size 0 rfl k (rangeK (zk.st hW n1))) | exact Or.inr ⟨by rfl, rfl⟩) ?_; try simp only [Act.put, List.setIfInBounds_toArray, List.set_cons_zero, List.set_cons_succ])
      (refine takeE (St.tr (fun j => j = w.heap.size + 1 ∨ j = w.heap.size + 2)) 5 (by simp only [List.getElem?_toArray, List.getElem?_cons_succ, List.getElem?_cons_zero]; rfl) (by kernel_rfl) (by kernel_rfl) (by kernel_rfl) (by exact fun _ _ _ h => h) (by first | (refine Or.inl ⟨by rfl, ?_⟩; intro W hW; go_simp; try with_reducible rfl) | exact Or.inr ⟨by rfl, rfl⟩) ?_; try simp only [Act.put, List.setIfInBounds_toArray, List.set_cons_zero, List.set_cons_succ])
      (refine takeE (St.tr (fun j => j = w.heap.size + 1 ∨ j = w.heap.size + 2)) 6 (by simp only [List.getElem?_toArray, List.getElem?_cons_succ, List.getElem?_cons_zero]; rfl) (by kernel_rfl) (by kernel_rfl) (by kernel_rfl) (by exact fun _ _ _ h => h) (by first | (refine Or.inl ⟨by rfl, ?_⟩; intro W hW; go_simp; try with_reducible rfl) | exact Or.inr ⟨by rfl, rfl⟩) ?_; try simp only [Act.put, List.setIfInBounds_toArray, List.set_cons_zero, List.set_cons_succ])
      refine wpAnyE_one (i := 3) (by kernel_rfl) (by simp only [List.getElem?_toArray, List.getElem?_cons_succ, List.getElem?_cons_zero]; rfl) (fun K hK => ?_)
      go_simp
      refine (HWi.out _ hc).mono ?_
      rintro en u7 ⟨v3, rfl, hr, hb7⟩
      replace z2 := z2.below hb7
      replace z3 := z3.below hb7
      have hs7 : St (fun j => j = w.heap.size + 1 ∨ j = w.heap.size + 2) _ u7 := St.ext hb7
      replace hc := hc.trans hs7 (Gr.refl _ _)
      clear hb7
      refine hK.out _ _ hs7 ?_
      clear hK K
      try simp only [Act.put, List.setIfInBounds_toArray, List.set_cons_zero, List.set_cons_succ]
      refine wpAnyE_one (i := 7) (by kernel_rfl) (by simp only [List.getElem?_toArray, List.getElem?_cons_succ, List.getElem?_cons_zero]; rfl) (fun K hK => ?_)
      refine opwp_store_bk rowR rfl (.tmp 2) (.tmp 49) rfl (w.heap.size + 1) 0 rfl z2 ([.slice v3.A v3.n v3.c, .slice v3.B v3.k v3.d, .slice v3.C v3.r v3.e, .int .i64 m.most, .int .i64 m1.run, .int .i64 (m.total + 1)]) rfl rfl (by first | decide | (show 0 + 6 ≤ 6; omega)) (by simp [Value.oneCell']) ?_
      intro u8 hz8 hw8
      rw [lay_all _ _ (by rfl)] at hz8
      replace z3 := z3.wr hw8 (by omega)
      clear z2
      have z2 := hz8
      replace hr := hr.st (st_wr hw8) fun j hj => (HXE.out j hj).2.2.1
      have hs8 : St (fun j => j = w.heap.size + 1 ∨ j = w.heap.size + 2) _ u8 := (st_wr hw8).mono fun j _ e => .inl e
      replace hc := hc.trans hs8 (Gr.refl _ _)
      clear hz8 hw8
      refine hK.out _ _ hs8 ?_
      clear hK K
      try simp only [Act.put, List.setIfInBounds_toArray, List.set_cons_zero, List.set_cons_succ]
      refine wpAnyE_one (i := 8) (by kernel_rfl) (by simp only [List.getElem?_toArray, List.getElem?_cons_succ, List.getElem?_cons_zero]; rfl) (fun K hK => ?_)
      refine opwp_store_bk rowRK rfl (.tmp 3) (.tmp 50) rfl (w.heap.size + 2) 0 rfl z3 k.cl rfl rfl (by decide) k.cl_one ?_
      intro u9 hz9 hw9
      rw [lay_all _ _ (by rfl)] at hz9
      replace z2 := z2.wr hw9 (by omega)
      clear z3
      have z3 := hz9
      try replace hr := hr.st (st_wr hw9) fun j hj => (HXE.out j hj).2.2.2
      have hs9 : St (fun j => j = w.heap.size + 1 ∨ j = w.heap.size + 2) _ u9 := (st_wr hw9).mono fun j _ e => .inr e
      replace hc := hc.trans hs9 (Gr.refl _ _)
      clear hz9 hw9
      refine hK.out _ _ hs9 ?_
      clear hK K
      try simp only [Act.put, List.setIfInBounds_toArray, List.set_cons_zero, List.set_cons_succ]
      (refine takeE (St.tr (fun j => j = w.heap.size + 1 ∨ j = w.heap.size + 2)) 9 (by simp only [List.getElem?_toArray, List.getElem?_cons_succ, List.getElem?_cons_zero]; rfl) (by kernel_rfl) (by kernel_rfl) (by kernel_rfl) (by exact fun _ _ _ h => h) (by first | (refine Or.inl ⟨by rfl, ?_⟩; intro W hW; go_simp; try with_reducible rfl) | exact Or.inr ⟨by rfl, rfl⟩) ?_; try simp only [Act.put, List.setIfInBounds_toArray, List.set_cons_zero, List.set_cons_succ])
      (refine takeE (St.tr (fun j => j = w.heap.size + 1 ∨ j = w.heap.size + 2)) 10 (by simp only [List.getElem?_toArray, List.getElem?_cons_succ, List.getElem?_cons_zero]; rfl) (by kernel_rfl) (by kernel_rfl) (by kernel_rfl) (by exact fun _ _ _ h => h) (by first | (refine Or.inl ⟨by rfl, ?_⟩; intro W hW; go_simp; try with_reducible rfl) | exact Or.inr ⟨by rfl, rfl⟩) ?_; try simp only [Act.put, List.setIfInBounds_toArray, List.set_cons_zero, List.set_cons_succ])
      refine wpAnyE_done (by kernel_rfl) ?_ _
      clear q4
      go_wp2
      have hbF := HBd.out.trans (hc.below HBd.out.size fun j e => by omega)
      refine bodyPost_ret (results_cctt rfl rfl (rowR.load z2 0 (cs := [.slice v3.A v3.n v3.c, .slice v3.B v3.k v3.d, .slice v3.C v3.r v3.e, .int .i64 m.most, .int .i64 m1.run, .int .i64 (m.total + 1)]) rfl rfl) rfl (rowRK.load z3 0 (cs := k.cl) rfl rfl)) rfl ⟨v3, ?_, ?_, hbF⟩
      · rw [HR.out]
        dsimp only
        rw [hHH.out.1, hHH.out.2.1, hHH.out.2.2, HM1.out.1.1, HM1.out.1.2.1]
        rfl
      · rw [HR.out]
        exact hr.mono fun j hj => (HXE.out j hj).1
    · have HIS : Hid (m1.issue i x = m1.setL (m1.L.set i x.told)) := Lib.hid (by unfold Pm.issue; rw [if_neg hz])
      have hz' : x.p - 1 ≤ 0 := by omega
      go_enter Try.func39, Try.ntmps39
      go_wp2_with fail
      rw [← hW]
      clear hW
      refine HT.out.mono ?_
      rintro e w1 ⟨v1, rfl, hr1, hb⟩
      have hs1 := hb.size
      have zp := (HA.out.2.1.below hb).alloc (.cells #[.int .i64 zK.s, .int .i64 zK.c] 35)
      have z2 := (HA.out.2.2.1.below hb).alloc (.cells #[.int .i64 zK.s, .int .i64 zK.c] 35)
      have z3 := (HA.out.2.2.2.below hb).alloc (.cells #[.int .i64 zK.s, .int .i64 zK.c] 35)
      have zk := Bk.new w1 35 zK.cl
      have hb2 := HA.out.1.trans ((hb.trans ((Below.refl W.heap.size w1).alloc hs1 (.cells #[.int .i64 zK.s, .int .i64 zK.c] 35))).mono HA.out.1.size)
      have HB2 := Lib.hid hb2
      have HS1 := Lib.hid hs1
      have HR1 := Lib.hid ((hr1.low).below ((Below.refl w1.heap.size w1).alloc (Nat.le_refl _) (.cells #[.int .i64 zK.s, .int .i64 zK.c] 35)))
      clear hr1
      clear hb hs1 hb2
      go_wp2_with (first
        | (with_reducible refine at_store 30 (.tmp 1) (.tmp 13) (by rfl) ?_
           refine wpList_store_bk rowR rfl (.tmp 1) (.tmp 13) rfl w.heap.size 0 rfl zp ([.slice v1.A v1.n v1.c, .slice v1.B v1.k v1.d, .slice v1.C v1.r v1.e, .int .i64 m.most, .int .i64 m1.run, .int .i64 m.total]) rfl rfl (by show 0 + 6 ≤ 6; omega) (by simp [Value.oneCell']) ?_
           intro w2 hz1 hw2
           rw [lay_all _ _ (by rfl)] at hz1
           have hk1 : w1.heap.size ≠ w.heap.size := by have := HSW.out; have := HS1.out; omega
           replace z2 := z2.wr hw2 (by omega)
           replace z3 := z3.wr hw2 (by omega)
           replace zk := zk.wr hw2 hk1)
        | (with_reducible refine at_store 35 (.tmp 6) (.tmp 14) (by rfl) ?_
           refine wpList_store_bk rowRK rfl (.tmp 6) (.tmp 14) rfl w1.heap.size 0 rfl zk (k).cl rfl rfl (by decide) (k).cl_one ?_
           intro w3 hzk hw3
           rw [lay_all _ _ (by rfl)] at hzk
           have hk0 : w.heap.size ≠ w1.heap.size := fun e => hk1 e.symm
           have z1 := hz1.wr hw3 hk0
           replace z2 := z2.wr hw3 (by have := HSW.out; have := HS1.out; omega)
           replace z3 := z3.wr hw3 (by have := HSW.out; have := HS1.out; omega)
           have hs2 := st_wr hw2
           have hs3 := st_wr hw3
           have HB3 : Hid (Below w.heap.size w w3) := Lib.hid (by
             have b2 := HB2.out.trans (hs2.below HB2.out.size fun j e => by omega)
             exact b2.trans (hs3.below b2.size fun j e => by have := HSW.out; have := HS1.out; omega))
           have HR3 := Lib.hid ((HR1.out.st hs2 fun j hj => (HXE.out j hj.1).2.1).st hs3 fun j hj => by have := hj.2; omega)
           have HS3 := Lib.hid (show w1.heap.size < w3.heap.size by have := hs2.size; have := hs3.size; simp at *; omega)
           clear hz1 zp hk0)
        | (with_reducible refine at_load 30 (.tmp 1) (by rfl) ?_; refine wpList_load_bk rowR rfl (.tmp 1) rfl w.heap.size 0 rfl z1 ([.slice v1.A v1.n v1.c, .slice v1.B v1.k v1.d, .slice v1.C v1.r v1.e, .int .i64 m.most, .int .i64 m1.run, .int .i64 m.total]) rfl rfl ?_)
        | (with_reducible refine at_load 35 (.tmp 6) (by rfl) ?_; refine wpList_load_pk rowRK rfl (.tmp 6) rfl k w1.heap.size 0 rfl (rangeK hzk) ?_))
      have HF : Hid (Calls Try.prog 41 #[.agg #[.slice v1.A v1.n v1.c, .slice v1.B v1.k v1.d, .slice v1.C v1.r v1.e, .int .i64 m.most, .int .i64 m1.run, .int .i64 m.total], .agg #[.int .i64 k.s, .int .i64 k.c]] w3 fun e w' => e = .returned (.int .i64 i) ∧ Below w3.heap.size w3 w') := Lib.hid (by
        have hh := r_find (m := ⟨m.most, m1.L, m1.q0, m1.q1, m1.run, m.total⟩) (v := v1) ⟨HR3.out.l, HR3.out.p, HR3.out.u⟩ (by rw [HR3.out.l.1, HM1.out.2.1]; have := HM1.out.2.2.2.2; omega) k
        rw [show ixI (⟨m.most, m1.L, m1.q0, m1.q1, m1.run, m.total⟩ : Pm).L k = i from by show ixI m1.L k = i; rw [HM1.out.2.1]; exact ixI_got HM1.out.2.2.1] at hh
        exact hh)
      refine HF.out.mono ?_
      rintro e w4 ⟨rfl, hb4⟩
      replace z1 := z1.below hb4
      replace z2 := z2.below hb4
      replace z3 := z3.below hb4
      replace hzk := hzk.below hb4
      have hr4 := HR3.out.below hb4
      have c0 := z1.cell 0 rfl
      have c5 := z1.cell 5 rfl
      have f5 := z1.free 5
      have hlt := z1.lt
      obtain ⟨g, o, hAa, hgg, hra⟩ := hr4.l.row (i := i) (x := x) (by rw [HM1.out.2.1]; exact HM1.out.2.2.1.1)
      have hiv : (i : Int) < v1.n := by have e1 := hr4.l.1; have e2 := HM1.out.2.2.1.lt; rw [HM1.out.2.1] at e1; omega
      have hst5 : St (· = w.heap.size) w4 (w4.setCell ⟨w.heap.size, 5, none⟩ (.int .i64 (m.total + 1))) := St.setCell (F := (· = w.heap.size)) w4 (a := ⟨w.heap.size, 5, none⟩) rfl _
      have y1 := (z1.set 5 (.int .i64 (m.total + 1))).alloc (.cells #[.int .i64 x.k.s, .int .i64 x.k.c, .int .i64 x.g, .int .i64 (x.p - 1), .int .i64 (x.i + 1)] 50)
      have y2 := (z2.far (p := ⟨w.heap.size, 5, none⟩) (by simp) (.int .i64 (m.total + 1))).alloc (.cells #[.int .i64 x.k.s, .int .i64 x.k.c, .int .i64 x.g, .int .i64 (x.p - 1), .int .i64 (x.i + 1)] 50)
      have y3 := (z3.far (p := ⟨w.heap.size, 5, none⟩) (by simp) (.int .i64 (m.total + 1))).alloc (.cells #[.int .i64 x.k.s, .int .i64 x.k.c, .int .i64 x.g, .int .i64 (x.p - 1), .int .i64 (x.i + 1)] 50)
      have yk := (hzk.far (p := ⟨w.heap.size, 5, none⟩) hk1 (.int .i64 (m.total + 1))).alloc (.cells #[.int .i64 x.k.s, .int .i64 x.k.c, .int .i64 x.g, .int .i64 (x.p - 1), .int .i64 (x.i + 1)] 50)
      have yx := Bk.new (w4.setCell ⟨w.heap.size, 5, none⟩ (.int .i64 (m.total + 1))) 50 [.int .i64 x.k.s, .int .i64 x.k.c, .int .i64 x.g, .int .i64 (x.p - 1), .int .i64 (x.i + 1)]
      have hr5 := (hr4.st hst5 fun j hj => (HXE.out j hj.1).2.1).below ((Below.refl _ _).alloc (Nat.le_refl _) (.cells #[.int .i64 x.k.s, .int .i64 x.k.c, .int .i64 x.g, .int .i64 (x.p - 1), .int .i64 (x.i + 1)] 50))
      have hb5 : Below w.heap.size w ((w4.setCell ⟨w.heap.size, 5, none⟩ (.int .i64 (m.total + 1))).alloc (.cells #[.int .i64 x.k.s, .int .i64 x.k.c, .int .i64 x.g, .int .i64 (x.p - 1), .int .i64 (x.i + 1)] 50)) := ((HB3.out.trans (hb4.mono HB3.out.size)).setCell (by simp) _).alloc (by have := hb4.size; have := HB3.out.size; simp [World.setCell]; omega) _
      have hsz5 : ((w4.setCell ⟨w.heap.size, 5, none⟩ (.int .i64 (m.total + 1))).alloc (.cells #[.int .i64 x.k.s, .int .i64 x.k.c, .int .i64 x.g, .int .i64 (x.p - 1), .int .i64 (x.i + 1)] 50)).heap.size = w4.heap.size + 1 := by simp [World.setCell]
      have hsx : (w4.setCell ⟨w.heap.size, 5, none⟩ (.int .i64 (m.total + 1))).heap.size = w4.heap.size := by simp [World.setCell]
      rw [hsx] at yx
      have H5 := Lib.hid (And.intro y1 (And.intro y2 (And.intro y3 (And.intro yk (And.intro yx (And.intro hr5 (And.intro hb5 hsz5)))))))
      have HS4 := Lib.hid hb4.size
      rw [hAa] at c0
      have HAa := Lib.hid hAa
      clear hb4 hr4 z1 z2 z3 hzk y1 y2 y3 yk yx hr5 hb5 hsz5 hsx hst5 hAa
      go_wp2_with (first
        | (with_reducible refine at_load 50 (.tmp 26) (by rfl) ?_; refine wpList_load_kn rowN rfl (.tmp 26) rfl x g (o + i * 5) rfl hra ?_)
        | (with_reducible refine at_load 30 (.tmp 1) (by rfl) ?_; refine wpList_load_bk rowR rfl (.tmp 1) rfl w.heap.size 0 rfl H5.out.1 ([.slice v1.A v1.n v1.c, .slice v1.B v1.k v1.d, .slice v1.C v1.r v1.e, .int .i64 m.most, .int .i64 m1.run, .int .i64 (m.total + 1)]) rfl rfl ?_)
        | (with_reducible refine at_load 50 (.tmp 9) (by rfl) ?_; refine wpList_load_bk rowN rfl (.tmp 9) rfl w4.heap.size 0 rfl H5.out.2.2.2.2.1 [.int .i64 x.k.s, .int .i64 x.k.c, .int .i64 x.g, .int .i64 (x.p - 1), .int .i64 (x.i + 1)] rfl rfl ?_))
      clear c0 c5 f5 hra
      generalize hW5 : ((w4.setCell ⟨w.heap.size, 5, none⟩ (.int .i64 (m.total + 1))).alloc (.cells #[.int .i64 x.k.s, .int .i64 x.k.c, .int .i64 x.g, .int .i64 (x.p - 1), .int .i64 (x.i + 1)] 50)) = W5 at *
      have hr5 := H5.out.2.2.2.2.2.1
      have hz5 := H5.out.2.2.2.2.2.2.2
      have HZ := Lib.hid (And.intro H5.out.1 (And.intro H5.out.2.1 (And.intro H5.out.2.2.1 (And.intro H5.out.2.2.2.1 (And.intro H5.out.2.2.2.2.1 (And.intro (RpR.mono hr5 fun j hj => (⟨hj.1, by have := hj.2; have := HS3.out; have := HS4.out; omega, by have := hj.2; have := HS3.out; have := HS4.out; omega⟩ : X2 j ∧ j ≠ w1.heap.size ∧ j ≠ w4.heap.size)) (And.intro H5.out.2.2.2.2.2.2.1 (show w4.heap.size < W5.heap.size by omega))))))))
      clear hW5 hr5 hz5 H5
      refine wp_region_E (St (fun j => j = w.heap.size + 1 ∨ j = w.heap.size + 2)) (by kernel_rfl) (fun wd hbd hsz => ?_)
      have z1 := HZ.out.1.below hbd
      have z2 := HZ.out.2.1.below hbd
      have z3 := HZ.out.2.2.1.below hbd
      have zk := HZ.out.2.2.2.1.below hbd
      have zx := HZ.out.2.2.2.2.1.below hbd
      have hrd := HZ.out.2.2.2.2.2.1.below hbd
      have HBd := Lib.hid (HZ.out.2.2.2.2.2.2.1.trans (hbd.mono HZ.out.2.2.2.2.2.2.1.size))
      have n0 : ¬ (w.heap.size = w.heap.size + 1 ∨ w.heap.size = w.heap.size + 2) := by omega
      have n1 : ¬ (w1.heap.size = w.heap.size + 1 ∨ w1.heap.size = w.heap.size + 2) := by have := HSW.out; have := HS1.out; omega
      have n4 : ¬ (w4.heap.size = w.heap.size + 1 ∨ w4.heap.size = w.heap.size + 2) := by have := HSW.out; have := HS1.out; have := HS3.out; have := HS4.out; omega
      have q4 : ∀ V, St (fun j => j = w.heap.size + 1 ∨ j = w.heap.size + 2) wd V → V.cell? ⟨w4.heap.size, 4, none⟩ = some (.int .i64 (x.i + 1)) := fun V hV => (zx.st hV n4).cell 4 rfl
      have HWi : Hid (∀ V, St (fun j => j = w.heap.size + 1 ∨ j = w.heap.size + 2) wd V → Calls Try.prog 55 #[.agg #[.slice v1.A v1.n v1.c, .slice v1.B v1.k v1.d, .slice v1.C v1.r v1.e, .int .i64 m.most, .int .i64 m1.run, .int .i64 (m.total + 1)], .int .i64 i, .agg #[.int .i64 x.k.s, .int .i64 x.k.c, .int .i64 x.g, .int .i64 (x.p - 1), .int .i64 (x.i + 1)]] V fun e w' => ∃ v3 : Rv, e = .returned (.agg #[.slice v3.A v3.n v3.c, .slice v3.B v3.k v3.d, .slice v3.C v3.r v3.e, .int .i64 m.most, .int .i64 m1.run, .int .i64 (m.total + 1)]) ∧ RpR X2 w' v3 (m1.issue i x) ∧ Below V.heap.size V w') := Lib.hid fun V hV => by
        rw [HIS.out]
        have hrv := hrd.st hV fun j hj e => by have := HXE.out j hj.1; omega
        have hsv := hV.size
        have hlm : (m1).L = m1.L := rfl
        refine (r_with (X := X2) (m := ⟨m.most, (m1).L, (m1).q0, (m1).q1, m1.run, m.total + 1⟩) (v := v1) ⟨hrv.l.mono fun j hj => hj.1, hrv.p.mono fun j hj => hj.1, hrv.u.mono fun j hj => hj.1⟩ (by rw [hrv.l.1, hlm, HM1.out.2.1]; have := HM1.out.2.2.2.2; omega) i x.told (by show i < (m1).L.length; rw [hlm, HM1.out.2.1]; exact HM1.out.2.2.1.lt) (fun j hj => HXN.out j (by have := HZ.out.2.2.2.2.2.2.2; have := HS1.out; have := HS3.out; have := HS4.out; have := HBd.out.size; have := hbd.size; omega))).mono ?_
        rintro e w' ⟨v3, rfl, hh, hb⟩
        exact ⟨v3, rfl, ⟨hh.l, hh.p, hh.u⟩, hb⟩
      have hc : St (fun j => j = w.heap.size + 1 ∨ j = w.heap.size + 2) wd wd := St.refl _ _
      clear hsz hrd
      (refine takeE (St.tr (fun j => j = w.heap.size + 1 ∨ j = w.heap.size + 2)) 0 (by simp only [List.getElem?_toArray, List.getElem?_cons_succ, List.getElem?_cons_zero]; rfl) (by kernel_rfl) (by kernel_rfl) (by kernel_rfl) (by exact fun _ _ _ h => h) (by first | (refine Or.inl ⟨by rfl, ?_⟩; intro W hW; exact exec_loadC rowR (.tmp 1) rfl w.heap.size rfl ([.slice v1.A v1.n v1.c, .slice v1.B v1.k v1.d, .slice v1.C v1.r v1.e, .int .i64 m.most, .int .i64 m1.run, .int .i64 (m.total + 1)]) (z1.st hW n0) rfl) | exact Or.inr ⟨by rfl, rfl⟩) ?_; try simp only [Act.put, List.setIfInBounds_toArray, List.set_cons_zero, List.set_cons_succ])
      (refine takeE (St.tr (fun j => j = w.heap.size + 1 ∨ j = w.heap.size + 2)) 1 (by simp only [List.getElem?_toArray, List.getElem?_cons_succ, List.getElem?_cons_zero]; rfl) (by kernel_rfl) (by kernel_rfl) (by kernel_rfl) (by exact fun _ _ _ h => h) (by first | (refine Or.inl ⟨by rfl, ?_⟩; intro W hW; go_simp; try with_reducible rfl) | exact Or.inr ⟨by rfl, rfl⟩) ?_; try simp only [Act.put, List.setIfInBounds_toArray, List.set_cons_zero, List.set_cons_succ])
      (refine takeE (St.tr (fun j => j = w.heap.size + 1 ∨ j = w.heap.size + 2)) 2 (by simp only [List.getElem?_toArray, List.getElem?_cons_succ, List.getElem?_cons_zero]; rfl) (by kernel_rfl) (by kernel_rfl) (by kernel_rfl) (by exact fun _ _ _ h => h) (by first | (refine Or.inl ⟨by rfl, ?_⟩; intro W hW; exact exec_loadC rowN (.tmp 9) rfl w4.heap.size rfl [.int .i64 x.k.s, .int .i64 x.k.c, .int .i64 x.g, .int .i64 (x.p - 1), .int .i64 (x.i + 1)] (zx.st hW n4) rfl) | exact Or.inr ⟨by rfl, rfl⟩) ?_; try simp only [Act.put, List.setIfInBounds_toArray, List.set_cons_zero, List.set_cons_succ])
      (refine takeE (St.tr (fun j => j = w.heap.size + 1 ∨ j = w.heap.size + 2)) 4 (by simp only [List.getElem?_toArray, List.getElem?_cons_succ, List.getElem?_cons_zero]; rfl) (by kernel_rfl) (by kernel_rfl) (by kernel_rfl) (by exact fun _ _ _ h => h) (by first | (refine Or.inl ⟨by rfl, ?_⟩; intro W hW; exact exec_loadK rowRK (.tmp 6) rfl w1.heap.size 0 rfl k (rangeK (zk.st hW n1))) | exact Or.inr ⟨by rfl, rfl⟩) ?_; try simp only [Act.put, List.setIfInBounds_toArray, List.set_cons_zero, List.set_cons_succ])
      (refine takeE (St.tr (fun j => j = w.heap.size + 1 ∨ j = w.heap.size + 2)) 5 (by simp only [List.getElem?_toArray, List.getElem?_cons_succ, List.getElem?_cons_zero]; rfl) (by kernel_rfl) (by kernel_rfl) (by kernel_rfl) (by exact fun _ _ _ h => h) (by first | (refine Or.inl ⟨by rfl, ?_⟩; intro W hW; go_simp; try with_reducible rfl) | exact Or.inr ⟨by rfl, rfl⟩) ?_; try simp only [Act.put, List.setIfInBounds_toArray, List.set_cons_zero, List.set_cons_succ])
      (refine takeE (St.tr (fun j => j = w.heap.size + 1 ∨ j = w.heap.size + 2)) 6 (by simp only [List.getElem?_toArray, List.getElem?_cons_succ, List.getElem?_cons_zero]; rfl) (by kernel_rfl) (by kernel_rfl) (by kernel_rfl) (by exact fun _ _ _ h => h) (by first | (refine Or.inl ⟨by rfl, ?_⟩; intro W hW; go_simp; try with_reducible rfl) | exact Or.inr ⟨by rfl, rfl⟩) ?_; try simp only [Act.put, List.setIfInBounds_toArray, List.set_cons_zero, List.set_cons_succ])
      refine wpAnyE_one (i := 3) (by kernel_rfl) (by simp only [List.getElem?_toArray, List.getElem?_cons_succ, List.getElem?_cons_zero]; rfl) (fun K hK => ?_)
      go_simp
      refine (HWi.out _ hc).mono ?_
      rintro en u7 ⟨v3, rfl, hr, hb7⟩
      replace z2 := z2.below hb7
      replace z3 := z3.below hb7
      have hs7 : St (fun j => j = w.heap.size + 1 ∨ j = w.heap.size + 2) _ u7 := St.ext hb7
      replace hc := hc.trans hs7 (Gr.refl _ _)
      clear hb7
      refine hK.out _ _ hs7 ?_
      clear hK K
      try simp only [Act.put, List.setIfInBounds_toArray, List.set_cons_zero, List.set_cons_succ]
      refine wpAnyE_one (i := 7) (by kernel_rfl) (by simp only [List.getElem?_toArray, List.getElem?_cons_succ, List.getElem?_cons_zero]; rfl) (fun K hK => ?_)
      refine opwp_store_bk rowR rfl (.tmp 2) (.tmp 49) rfl (w.heap.size + 1) 0 rfl z2 ([.slice v3.A v3.n v3.c, .slice v3.B v3.k v3.d, .slice v3.C v3.r v3.e, .int .i64 m.most, .int .i64 m1.run, .int .i64 (m.total + 1)]) rfl rfl (by first | decide | (show 0 + 6 ≤ 6; omega)) (by simp [Value.oneCell']) ?_
      intro u8 hz8 hw8
      rw [lay_all _ _ (by rfl)] at hz8
      replace z3 := z3.wr hw8 (by omega)
      clear z2
      have z2 := hz8
      replace hr := hr.st (st_wr hw8) fun j hj => (HXE.out j hj).2.2.1
      have hs8 : St (fun j => j = w.heap.size + 1 ∨ j = w.heap.size + 2) _ u8 := (st_wr hw8).mono fun j _ e => .inl e
      replace hc := hc.trans hs8 (Gr.refl _ _)
      clear hz8 hw8
      refine hK.out _ _ hs8 ?_
      clear hK K
      try simp only [Act.put, List.setIfInBounds_toArray, List.set_cons_zero, List.set_cons_succ]
      refine wpAnyE_one (i := 8) (by kernel_rfl) (by simp only [List.getElem?_toArray, List.getElem?_cons_succ, List.getElem?_cons_zero]; rfl) (fun K hK => ?_)
      refine opwp_store_bk rowRK rfl (.tmp 3) (.tmp 50) rfl (w.heap.size + 2) 0 rfl z3 k.cl rfl rfl (by decide) k.cl_one ?_
      intro u9 hz9 hw9
      rw [lay_all _ _ (by rfl)] at hz9
      replace z2 := z2.wr hw9 (by omega)
      clear z3
      have z3 := hz9
      try replace hr := hr.st (st_wr hw9) fun j hj => (HXE.out j hj).2.2.2
      have hs9 : St (fun j => j = w.heap.size + 1 ∨ j = w.heap.size + 2) _ u9 := (st_wr hw9).mono fun j _ e => .inr e
      replace hc := hc.trans hs9 (Gr.refl _ _)
      clear hz9 hw9
      refine hK.out _ _ hs9 ?_
      clear hK K
      try simp only [Act.put, List.setIfInBounds_toArray, List.set_cons_zero, List.set_cons_succ]
      (refine takeE (St.tr (fun j => j = w.heap.size + 1 ∨ j = w.heap.size + 2)) 9 (by simp only [List.getElem?_toArray, List.getElem?_cons_succ, List.getElem?_cons_zero]; rfl) (by kernel_rfl) (by kernel_rfl) (by kernel_rfl) (by exact fun _ _ _ h => h) (by first | (refine Or.inl ⟨by rfl, ?_⟩; intro W hW; go_simp; try with_reducible rfl) | exact Or.inr ⟨by rfl, rfl⟩) ?_; try simp only [Act.put, List.setIfInBounds_toArray, List.set_cons_zero, List.set_cons_succ])
      (refine takeE (St.tr (fun j => j = w.heap.size + 1 ∨ j = w.heap.size + 2)) 10 (by simp only [List.getElem?_toArray, List.getElem?_cons_succ, List.getElem?_cons_zero]; rfl) (by kernel_rfl) (by kernel_rfl) (by kernel_rfl) (by exact fun _ _ _ h => h) (by first | (refine Or.inl ⟨by rfl, ?_⟩; intro W hW; go_simp; try with_reducible rfl) | exact Or.inr ⟨by rfl, rfl⟩) ?_; try simp only [Act.put, List.setIfInBounds_toArray, List.set_cons_zero, List.set_cons_succ])
      refine wpAnyE_done (by kernel_rfl) ?_ _
      clear q4
      go_wp2
      have hbF := HBd.out.trans (hc.below HBd.out.size fun j e => by omega)
      refine bodyPost_ret (results_cctt rfl rfl (rowR.load z2 0 (cs := [.slice v3.A v3.n v3.c, .slice v3.B v3.k v3.d, .slice v3.C v3.r v3.e, .int .i64 m.most, .int .i64 m1.run, .int .i64 (m.total + 1)]) rfl rfl) rfl (rowRK.load z3 0 (cs := k.cl) rfl rfl)) rfl ⟨v3, ?_, ?_, hbF⟩
      · rw [HR.out]
        dsimp only
        rw [hHH.out.1, hHH.out.2.1, hHH.out.2.2, HM1.out.1.1, HM1.out.1.2.1]
        rfl
      · rw [HR.out]
        exact hr.mono fun j hj => (HXE.out j hj).1
end
end Go.Proofs.Ytdldocbfnjbhmaa
