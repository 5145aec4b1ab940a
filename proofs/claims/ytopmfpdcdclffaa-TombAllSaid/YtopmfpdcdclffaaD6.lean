/- The reference's tomb: Close. -/
import Derived.Test.YtopmfpdcdclffaaD5
import Derived.Deep.LoopGhost
set_option linter.unusedSimpArgs false
set_option linter.unusedVariables false
namespace Go.Proofs.Ytopmfpdcdclffaa
open Go.RowKit Go.Shelf
section
variable {w w' : World} {B : Bm} {A : Option Addr} {n c : Nat}
theorem cutA_blk {A : Option Addr} {c s : Nat} {ad : Addr} (h : cutA A c s = some ad) : ∃ a0, A = some a0 ∧ ad.block = a0.block := by
  unfold cutA at h
  split at h
  · exact ⟨ad, h, rfl⟩
  · cases A with
    | none => cases h
    | some a =>
      simp only [Option.map_some, Option.some.injEq] at h
      subst h
      refine ⟨a, rfl, ?_⟩
      unfold Addr.add
      split <;> rfl
theorem _root_.Go.Proofs.Ytopmfpdcdclffaa.RdV.belowA' {W W' : World} {A' : Option Addr} {n' c' L : Nat} {vs : List Value} (h : RdV W A' n' c' vs) (hb : Below L W W') (hA : ∀ ad, A' = some ad → 0 < n' → ad.block < L) : RdV W' A' n' c' vs :=
  h.st (F := fun k => L ≤ k) (St.of_below hb fun k _ hk => by omega) fun hn ad he => by have := hA ad he hn; omega
theorem st_wr {g : Nat} {W W' : World} (hw : Wr g W W') : St (· = g) W W' := ⟨hw.os, hw.tape, hw.output, hw.size, fun j hj hn => hw.block j hj (by intro e; injection e with e; exact hn e)⟩
/-- Between two rounds of Close. -/
structure RcI (w : World) (B : Bm) (A' : Option Addr) (n' c' : Nat) (W : World) : Prop where
  bx : Bk W 29 w.heap.size (rvL B A' n' c')
  rs : Bk W 29 (w.heap.size + 1) zR
  rp : Rp W B A' n' c'
  lie : 0 < n' → ∀ ad, A' = some ad → w.heap.size + 2 ≤ ad.block
  bel : Below w.heap.size w W
theorem RcI.next {A' : Option Addr} {n' c' : Nat} {W : World} (h : RcI w B A' n' c' W) (ho : B.ok) (hs : B.s B.base = true) (q : Nat) :
    RcI w (B.on 1) (cutA A' c' 1) (n' - 1) (c' - 1) (((W.drewN q).setCell ⟨w.heap.size, 2, none⟩ (.slice (cutA A' c' 1) (n' - 1) (c' - 1))).setCell ⟨w.heap.size, 1, none⟩ (.int .i64 ((B.base : Int) + 1))) := by
  obtain ⟨h1, h2, h3, h5, h6⟩ := h
  have hall := Bm.on_all ho hs
  have hn := h3.len
  have hn1 : 1 ≤ n' := by rw [hn, hall]; simp
  have hst : St (fun k => k = w.heap.size) W (((W.drewN q).setCell ⟨w.heap.size, 2, none⟩ (.slice (cutA A' c' 1) (n' - 1) (c' - 1))).setCell ⟨w.heap.size, 1, none⟩ (.int .i64 ((B.base : Int) + 1))) :=
    (((St.ext (Below.drewN_ W q) (F := fun k => k = w.heap.size)).trans (St.setCell (F := fun k => k = w.heap.size) (W.drewN q) (a := ⟨w.heap.size, 2, none⟩) rfl _) (Gr.refl _ _)).trans (St.setCell (F := fun k => k = w.heap.size) _ (a := ⟨w.heap.size, 1, none⟩) rfl _) (Gr.refl _ _))
  refine ⟨((h1.below (Below.drewN_ W q)).set 2 _).set 1 _, h2.st hst (by omega), ?_, fun hn ad he => ?_, h6.trans (hst.below h6.size (by intro k hk; omega))⟩
  · have hr := RdV.cut h3 hn1
    have : (intV (B.all true)).drop 1 = intV ((B.on 1).all true) := by rw [hall]; rfl
    rw [this] at hr
    refine hr.st hst fun hn ad he => ?_
    obtain ⟨a0, ha, hb⟩ := cutA_blk he
    have := h5 (by omega) a0 ha
    omega
  · obtain ⟨a0, ha, hb⟩ := cutA_blk he
    have := h5 (by omega) a0 ha
    omega
set_option maxRecDepth 100000 in
set_option maxHeartbeats 4000000 in
theorem rclose_any (h : Rp w B A n c) (ht : B.tk) (x : Int) :
    Calls Try.prog 12 #[.agg (rvL B A n c).toArray, .int .i64 x] w fun e w' => ∃ A' n' c', e = .returned (.tuple #[.agg (rvL (B.close x) A' n' c').toArray, .bool (B.tfresh x), .int .i64 (B.terr x)]) ∧ Rr w (B.close x) A n A' n' c' w' := by
  have ho := ht.ok
  have hs1 := ho.s1
  have hs2 := ho.s2
  have hb1 := ho.b1
  have hn256 := h.n256 ho
  have hwr : IntKind.i64.wrap ((B.base : Int) + B.size) = (B.base : Int) + B.size := by rw [IntKind.wrap_i64]; omega
  obtain ⟨w1, hw1⟩ : ∃ w1, w1 = (w.alloc (.cells (rvL B A n c).toArray 29)).alloc (.cells zR.toArray 29) := ⟨_, rfl⟩
  have k0 : Bk w1 29 w.heap.size (rvL B A n c) := by rw [hw1]; exact (Bk.new w _ (rvL B A n c)).alloc _
  have k1 : Bk w1 29 (w.heap.size + 1) zR := by
    have := Bk.new (w.alloc (.cells (rvL B A n c).toArray 29)) 29 zR
    rw [World.size_alloc] at this
    rw [hw1]; exact this
  have hb : Below w.heap.size w w1 := by rw [hw1]; exact ((Below.refl _ w).alloc (Nat.le_refl _) _).alloc (by simp) _
  have hz1 : w1.heap.size = w.heap.size + 2 := by rw [hw1]; simp
  have HZ := Lib.hid hz1
  have HW : Hid (((w.alloc (.cells (rvL B A n c).toArray 29)).alloc (.cells #[.int .i64 0, .int .i64 0, .slice none 0 0] 29)) = w1) := Lib.hid hw1.symm
  have HB := Lib.hid hb
  have HK0 := Lib.hid k0
  have HK1 := Lib.hid k1
  have HH := Lib.hid (RdV.below h hb)
  have HH0 := Lib.hid h
  clear h hb hw1 hz1 k0 k1
  have hk := (Bk.new w 29 (rvL B A n c)).alloc (.cells #[.int .i64 0, .int .i64 0, .slice none 0 0] 29)
  have c0 := hk.cell 0 (v := .int .i64 B.size) rfl
  have c1 := hk.cell 1 (v := .int .i64 B.base) rfl
  by_cases hin : 1 ≤ x ∧ x ≤ 1073741824 ∧ x < (B.base : Int) + B.size
  · obtain ⟨hx1, hx2, hx3⟩ := hin
    have hnum : isNum x = true := decide_eq_true ⟨hx1, hx2⟩
    have hre : B.reach x = true := decide_eq_true ⟨by omega, hx3, by omega⟩
    cases hh : B.has x with
    | true =>
      have HV : Hid (B.tfresh x = false ∧ B.terr x = 0 ∧ B.close x = B) := by
        have hf : B.tfresh x = false := by simp [Bm.tfresh, Bm.fresh, hnum, hre, hh]
        exact Lib.hid ⟨hf, by simp [Bm.terr, Bm.err, hnum, hre], ht.stays (Bm.tset_old hf)⟩
      have HC : Hid (B.rclosed x = true) := Lib.hid (by unfold Bm.rclosed; rw [hh, decide_eq_true hx1]; rfl)
      go_enter Try.func12, Try.ntmps12
      go_wp2_with (with_reducible refine at_load 29 (.tmp 2) (by rfl) ?_; refine wpList_load_bk rowR rfl (.tmp 2) rfl w.heap.size 0 rfl hk (rvL B A n c) rfl rfl ?_)
      rw [HW.out]
      clear hk c0 c1
      refine (rclosed_any HH.out ho x).mono ?_
      rintro e w2 ⟨rfl, hb2⟩
      rw [HC.out]
      have KB := HK0.out.below hb2
      have KZ := HK1.out.below hb2
      have HB2 := Lib.hid hb2
      clear hb2
      go_wp2_with (first
        | (with_reducible refine at_load 29 (.tmp 2) (by rfl) ?_; refine wpList_load_bk rowR rfl (.tmp 2) rfl w.heap.size 0 rfl KB (rvL B A n c) rfl rfl ?_)
        | (with_reducible refine at_store 29 (.tmp 4) (.tmp 26) (by rfl) ?_; refine wpList_store_bk rowR rfl (.tmp 4) (.tmp 26) rfl (w.heap.size + 1) 0 rfl KZ (rvL B A n c) rfl rfl (by decide) (rvL_one _ _ _ _) ?_; rintro w5 hr5 hw5))
      rw [lay_zR] at hr5
      have hbl : Below w.heap.size w w5 := (HB.out.trans (HB2.out.mono (by have := HZ.out; omega))).trans (hw5.below (by omega) (by have := HZ.out; have := HB2.out.size; omega))
      refine bodyPost_ret (results_cell_tmp2 rfl rfl (rowR.load hr5 0 (cs := rvL B A n c) rfl rfl)) rfl ⟨A, n, c, ?_, ?_, fun hn ad he => .inr ⟨hn, ad, he, rfl⟩, hbl⟩
      · rw [HV.out.1, HV.out.2.1, HV.out.2.2]; rfl
      · rw [HV.out.2.2]; exact RdV.below HH0.out hbl
    | false =>
      have hf : B.fresh x = true := by simp [Bm.fresh, hre, hh]
      have HV : Hid (B.tfresh x = true ∧ B.terr x = 0 ∧ B.tset x = B.put x.toNat) := Lib.hid ⟨by simp [Bm.tfresh, hnum, hf], by simp [Bm.terr, Bm.err, hnum, hre], by simp [Bm.tset, Bm.set, hnum, hf]⟩
      have HC : Hid (B.rclosed x = false) := Lib.hid (by unfold Bm.rclosed; rw [hh, Bool.and_false])
      obtain ⟨f1, f3, f4, f5, f6⟩ := Bm.fresh_in hf
      obtain ⟨y, rfl⟩ := Int.eq_ofNat_of_zero_le f1
      rw [Int.toNat_natCast] at f3 f4 f5 f6
      have HPA := Lib.hid (fun k (hk : Spot (B.all true) (y : Int) k) => Bm.put_all ho f3 f4 f5 f6 hk)
      have HPO := Lib.hid (ho.put f3 f4 f5)
      clear hf
      go_enter Try.func12, Try.ntmps12
      go_wp2_with (with_reducible refine at_load 29 (.tmp 2) (by rfl) ?_; refine wpList_load_bk rowR rfl (.tmp 2) rfl w.heap.size 0 rfl hk (rvL B A n c) rfl rfl ?_)
      rw [HW.out]
      clear hk c0 c1
      refine (rclosed_any HH.out ho (y : Int)).mono ?_
      rintro e w2 ⟨rfl, hb2⟩
      rw [HC.out]
      have KB2 := HK0.out.below hb2
      have KZ2 := HK1.out.below hb2
      have c2 := KB2.cell 2 (v := .slice A n c) rfl
      have HB2 := Lib.hid hb2
      have HKB2 := Lib.hid KB2
      have HKZ2 := Lib.hid KZ2
      clear hb2 KB2 KZ2
      go_wp2_with fail
      refine (with_any A n c (B.all true) (y : Int) _ (RdV.below HH.out HB2.out) hn256).mono ?_
      rintro e w3 ⟨k, hsp, A3, n3, c3, rfl, hl3, hb3⟩
      rw [HPA.out k hsp] at hl3
      have hk3 := HKB2.out.below hb3
      have f2 := hk3.free 2
      have c2' := hk3.cell 2 (v := .slice A n c) rfl
      obtain ⟨Bo, hBo⟩ : ∃ Bo, Bo = B.put y := ⟨_, rfl⟩
      have HBO := Lib.hid hBo
      have hoB : Bo.ok := by rw [hBo]; exact HPO.out
      rw [← hBo] at hl3
      have hI : RcI w (Bo.on 0) A3 n3 c3 (w3.setCell ⟨w.heap.size, 2, none⟩ (.slice A3 n3 c3)) := by
        rw [Bm.on_zero hoB]
        have hz1 := HZ.out
        have hz2 := HB2.out.size
        have hst : St (fun k => k = w.heap.size) w3 (w3.setCell ⟨w.heap.size, 2, none⟩ (.slice A3 n3 c3)) := St.setCell (F := fun k => k = w.heap.size) w3 (a := ⟨w.heap.size, 2, none⟩) rfl _
        have hlie : ∀ ad, A3 = some ad → w.heap.size + 2 ≤ ad.block := fun ad he => by have := (hl3.blk ad he).1; omega
        refine ⟨?_, (HKZ2.out.below hb3).st hst (by omega), hl3.rdv.st hst (fun hn ad he => by have := hlie ad he; omega), fun hn ad he => hlie ad he, ?_⟩
        · have := hk3.set 2 (.slice A3 n3 c3)
          rw [hBo]
          exact this
        · exact ((HB.out.trans (HB2.out.mono (by omega))).trans (hb3.mono (by omega))).trans (hst.below (by have := hb3.size; omega) (by intro k hk; omega))
      have HI := Lib.hid hI
      clear hI hl3 hb3 hk3 c2 hBo
      go_wp2
      go_loopg [] 257 (fun gk wr => ∃ (k : Nat) (A' : Option Addr) (n' c' : Nat), gk + k = 257 ∧ (∀ j, j < k → Bo.s (Bo.base + j) = true) ∧ RcI w (Bo.on k) A' n' c' wr)
      case atStart => exact ⟨0, A3, n3, c3, rfl, by omega, HI.out⟩
      case round =>
        clear HI
        obtain ⟨k, A', n', c', hgk, hj, hJ⟩ := hrel
        have hk := Bm.runs_le hoB hj
        have HJ := Lib.hid hj
        clear hj
        obtain ⟨B1, hB1⟩ : ∃ B1, B1 = Bo.on k := ⟨_, rfl⟩
        have HB1 := Lib.hid hB1
        have ho1 : B1.ok := by rw [hB1]; exact hoB.on HJ.out
        have hbs : B1.base = Bo.base + k := by rw [hB1]; rfl
        rw [← hB1] at hJ
        have HBS := Lib.hid hbs
        clear hB1 hbs
        have HR := Lib.hid hJ
        have hn' := hJ.rp.len
        have hcc := hJ.rp.2.1
        have hcm := hJ.rp.2.2.1
        unfold maxLen at hcm
        have hb1 := ho1.b1
        have c1 := hJ.bx.cell 1 (v := .int .i64 B1.base) rfl
        have c2 := hJ.bx.cell 2 (v := .slice A' n' c') rfl
        have f1 := hJ.bx.free 1
        have f2 := hJ.bx.free 2
        clear hJ
        cases hs : B1.s B1.base with
        | true =>
          have HJ2 : Hid (∀ j, j < k + 1 → Bo.s (Bo.base + j) = true) := Lib.hid (fun j hj => by
            rcases (by omega : j < k ∨ j = k) with h | rfl
            · exact HJ.out j h
            · rw [HBS.out, HB1.out] at hs
              have : (Bo.s (Bo.base + j) && decide (Bo.base + j ≤ Bo.base + j)) = true := hs
              simpa using this)
          have hk2 : k < 256 := by have := Bm.runs_le hoB HJ2.out; omega
          have hall := Bm.on_all ho1 hs
          have hn1 : 0 < n' := by rw [hn', hall]; simp
          have hn1' : (0 : Int) < n' := by omega
          obtain ⟨g, o, hA', hg, d⟩ := intV_at HR.out.rp hn1 (by rw [hall]; simp)
          subst hA'
          have e0 : (B1.all true)[0]'(by rw [hall]; simp) = (B1.base : Int) := by simp [hall]
          rw [e0, Nat.add_zero] at d
          have hrc : ∀ W : World, (Instr.slice 27 (.slice (some ⟨g, o, none⟩) n' c') (some (.int .i64 1)) none none).run Try.prog W = .ok (.slice (cutA (some ⟨g, o, none⟩) c' 1) (n' - 1) (c' - 1)) W := fun W => eltI.run_cut (some ⟨g, o, none⟩) n' c' 1 (by omega) hcc W
          have HNX := Lib.hid (fun q => HR.out.next ho1 hs q)
          have hle := (ho1.win _ hs).2.2
          clear hall e0 hn' hs
          go_wp2
          go_quiet (fail)
          go_wp2
          go_roundg (256 - k)
          case rel =>
            refine ⟨k + 1, cutA (some ⟨g, o, none⟩) c' 1, n' - 1, c' - 1, by omega, HJ2.out, ?_⟩
            rw [← Bm.on_on, ← HB1.out]
            exact HNX.out _
          case measure => omega
        | false =>
          have HRUN : Hid (Bo.runs k) := Lib.hid ⟨HJ.out, by
            rw [HBS.out, HB1.out] at hs
            have : (Bo.s (Bo.base + k) && decide (Bo.base + k ≤ Bo.base + k)) = false := hs
            simpa using this⟩
          have HCL : Hid (B.close (y : Int) = B1) := Lib.hid (by
            rw [HB1.out]
            have hr : (B.tset (y : Int)).runs k := by rw [HV.out.2.2, Int.toNat_natCast, ← HBO.out]; exact HRUN.out
            rw [Bm.close_eq hr, HV.out.2.2, Int.toNat_natCast, ← HBO.out])
          rcases Nat.eq_zero_or_pos n' with hn0 | hn0
          · subst hn0
            have hn0' : ¬ (0 : Int) < ((0 : Nat) : Int) := by omega
            have hd := decide_eq_false hn0'
            obtain ⟨A1, hA1⟩ : ∃ A1, A1 = A' := ⟨_, rfl⟩
            rw [← hA1] at HR c2
            clear hn' hs hA1
            go_wp2
            go_quiet (fail)
            go_wp2_with (first
              | (with_reducible refine at_load 29 (.tmp 2) (by rfl) ?_; refine wpList_load_bk rowR rfl (.tmp 2) rfl w.heap.size 0 rfl (HR.out.bx.below (Below.drewN_ wr _)) (rvL B1 A1 0 c') rfl rfl ?_)
              | (with_reducible refine at_store 29 (.tmp 4) (.tmp 53) (by rfl) ?_; have hkk := HR.out.rs.below (Below.drewN_ wr nq); refine wpList_store_bk rowR rfl (.tmp 4) (.tmp 53) rfl (w.heap.size + 1) 0 rfl hkk (rvL B1 A1 0 c') rfl rfl (by decide) (rvL_one _ _ _ _) ?_; rintro w5 hr5 hw5))
            rw [lay_zR] at hr5
            have hbl := hw5.below (B := w.heap.size) (by omega) HR.out.bel.size
            refine bodyPost_ret (results_cell_tmp2 rfl rfl (rowR.load hr5 0 (cs := rvL B1 A1 0 c') rfl rfl)) rfl ⟨A1, 0, c', ?_, ?_, ?_, (HR.out.bel.trans ((Below.drewN_ wr nq).mono HR.out.bel.size)).trans hbl⟩
            · rw [HCL.out, HV.out.1, HV.out.2.1]; rfl
            · rw [HCL.out]
              exact RdV.st (RdV.below HR.out.rp (Below.drewN_ wr nq)) (st_wr hw5) (fun hn ad he => by have := HR.out.lie hn ad he; omega)
            · intro hn ad he
              have := HR.out.lie hn ad he
              exact .inl (by omega)
          · have hn1' : (0 : Int) < n' := by omega
            have hnh := Bm.not_head ho1 hs (h := by omega)
            obtain ⟨g, o, hA', hg, d⟩ := intV_at HR.out.rp hn0 (by omega)
            rw [Nat.add_zero] at d
            generalize (B1.all true)[0] = z at *
            subst hA'
            obtain ⟨A1, hA1⟩ : ∃ A1 : Option Addr, A1 = some ⟨g, o, none⟩ := ⟨_, rfl⟩
            have hd := decide_eq_true hn1'
            have hd2 : (z == (B1.base : Int)) = false := by simpa using hnh
            have hd3 : ¬ z = (B1.base : Int) := hnh
            clear hn' hs hnh
            go_wp2
            go_quiet (fail)
            go_wp2_with (first
              | (with_reducible refine at_load 29 (.tmp 2) (by rfl) ?_; refine wpList_load_bk rowR rfl (.tmp 2) rfl w.heap.size 0 rfl (HR.out.bx.below (Below.drewN_ wr _)) (rvL B1 (some ⟨g, o, none⟩) n' c') rfl rfl ?_)
              | (with_reducible refine at_store 29 (.tmp 4) (.tmp 53) (by rfl) ?_; have hkk := HR.out.rs.below (Below.drewN_ wr nq); refine wpList_store_bk rowR rfl (.tmp 4) (.tmp 53) rfl (w.heap.size + 1) 0 rfl hkk (rvL B1 (some ⟨g, o, none⟩) n' c') rfl rfl (by decide) (rvL_one _ _ _ _) ?_; rintro w5 hr5 hw5))
            rw [lay_zR] at hr5
            have hbl := hw5.below (B := w.heap.size) (by omega) HR.out.bel.size
            refine bodyPost_ret (results_cell_tmp2 rfl rfl (rowR.load hr5 0 (cs := rvL B1 (some ⟨g, o, none⟩) n' c') rfl rfl)) rfl ⟨some ⟨g, o, none⟩, n', c', ?_, ?_, ?_, (HR.out.bel.trans ((Below.drewN_ wr nq).mono HR.out.bel.size)).trans hbl⟩
            · rw [HCL.out, HV.out.1, HV.out.2.1]; rfl
            · rw [HCL.out]
              exact RdV.st (RdV.below HR.out.rp (Below.drewN_ wr nq)) (st_wr hw5) (fun hn ad he => by have := HR.out.lie hn ad he; omega)
            · intro hn ad he
              have := HR.out.lie hn ad he
              exact .inl (by omega)
  · have HV : Hid (B.tfresh x = false ∧ B.terr x = 5 ∧ B.close x = B) := by
      have h5 : B.terr x = 5 := by
        unfold Bm.terr isNum Bm.err Bm.reach
        by_cases h1 : 1 ≤ x ∧ x ≤ 1073741824
        · rw [decide_eq_true h1, decide_eq_false (by omega)]; rfl
        · rw [decide_eq_false h1]; rfl
      have hf : B.tfresh x = false := by
        unfold Bm.tfresh isNum Bm.fresh Bm.reach
        by_cases h1 : 1 ≤ x ∧ x ≤ 1073741824
        · rw [decide_eq_true h1, decide_eq_false (by omega)]; rfl
        · rw [decide_eq_false h1]; rfl
      exact Lib.hid ⟨hf, h5, ht.stays (Bm.tset_old hf)⟩
    have hz : Bk ((w.alloc (.cells (rvL B A n c).toArray 29)).alloc (.cells #[.int .i64 0, .int .i64 0, .slice none 0 0] 29)) 29 (w.heap.size + 1) zR := by rw [HW.out]; exact HK1.out
    rcases (by omega : x < 1 ∨ (1 ≤ x ∧ ¬ x ≤ 1073741824) ∨ (1 ≤ x ∧ x ≤ 1073741824 ∧ (B.base : Int) + B.size ≤ x)) with h0 | ⟨h0, h1⟩ | ⟨h0, h1, h2⟩
    all_goals
      clear hin
      go_enter Try.func12, Try.ntmps12
      go_wp2_with (first
        | (with_reducible refine at_load 29 (.tmp 2) (by rfl) ?_; refine wpList_load_bk rowR rfl (.tmp 2) rfl w.heap.size 0 rfl hk (rvL B A n c) rfl rfl ?_)
        | (with_reducible refine at_store 29 (.tmp 4) (.tmp 22) (by rfl) ?_; refine wpList_store_bk rowR rfl (.tmp 4) (.tmp 22) rfl (w.heap.size + 1) 0 rfl hz (rvL B A n c) rfl rfl (by decide) (rvL_one _ _ _ _) ?_; rintro w5 hr5 hw5))
      rw [lay_zR] at hr5
      rw [HW.out] at hw5
      have hbl : Below w.heap.size w w5 := HB.out.trans (hw5.below (by omega) (by have := HZ.out; omega))
      refine bodyPost_ret (results_cell_tmp2 rfl rfl (rowR.load hr5 0 (cs := rvL B A n c) rfl rfl)) rfl ⟨A, n, c, ?_, ?_, fun hn ad he => .inr ⟨hn, ad, he, rfl⟩, hbl⟩
      · rw [HV.out.1, HV.out.2.1, HV.out.2.2]; rfl
      · rw [HV.out.2.2]; exact RdV.below HH0.out hbl
end
end Go.Proofs.Ytopmfpdcdclffaa
