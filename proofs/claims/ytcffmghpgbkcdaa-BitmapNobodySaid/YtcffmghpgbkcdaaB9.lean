/- The reference's bitmap: New, Has, Set. -/
import Derived.Test.YtcffmghpgbkcdaaB8
set_option linter.unusedSimpArgs false
set_option linter.unusedVariables false
namespace Go.Proofs.Ytcffmghpgbkcdaa
open Go.RowKit Go.Shelf

theorem rowR : Row Try.prog 29 3 := ⟨⟨_, rfl, rfl⟩, by kernel_rfl⟩
/-- The cells of the reference's bitmap. -/
def rvL (B : Bm) (A : Option Addr) (n c : Nat) : List Value := [.int .i64 B.size, .int .i64 B.base, .slice A n c]
theorem rvL_one (B : Bm) (A : Option Addr) (n c : Nat) : ∀ v ∈ rvL B A n c, v.oneCell' = true := by
  intro v hv
  simp [rvL] at hv
  rcases hv with rfl | rfl | rfl <;> rfl
def zR : List Value := [.int .i64 0, .int .i64 0, .slice none 0 0]
theorem lay_zR (B : Bm) (A : Option Addr) (n c : Nat) : lay zR 0 (rvL B A n c) = rvL B A n c := rfl
theorem lay_rv (B B' : Bm) (A A' : Option Addr) (n c n' c' : Nat) : lay (rvL B A n c) 0 (rvL B' A' n' c') = rvL B' A' n' c' := rfl
/-- The row that the slice holds. -/
def Rp (w : World) (B : Bm) (A : Option Addr) (n c : Nat) : Prop := RdV w A n c (intV (B.all true))
theorem Rp.len {w : World} {B : Bm} {A : Option Addr} {n c : Nat} (h : Rp w B A n c) : n = (B.all true).length := by have := h.1; rw [intV_len] at this; exact this.symm
theorem Rp.n256 {w : World} {B : Bm} {A : Option Addr} {n c : Nat} (h : Rp w B A n c) (ho : B.ok) : n ≤ 256 := by rw [h.len]; exact Nat.le_trans (B.nums_len true _) ho.s2
theorem results_cell_tmp2 {P : Program} {w : World} {ty : TypeId} {fn : Func} {s u v : Tmp} (h : fn.results = #[.cell s ty, .tmp u, .tmp v]) {tmps : Array Value} {a : Addr} (ha : tmps.getD s undef = .pointer (some a)) {x : Value} (hl : (loadVar ty a).run P w = .ok x w) :
    (results fn tmps).run P w = .ok (.tuple #[x, tmps.getD u undef, tmps.getD v undef]) w := by
  rw [Array.getD_eq_getD_getElem?] at ha
  simp [results, h, ha, asAddr_some, hl]
theorem rnew_any (size base : Nat) (w : World) (h1 : 1 ≤ size) (h2 : size ≤ 256) (h3 : base ≤ 1152921504606846976) :
    Calls Try.prog 7 #[.int .i64 size, .int .i64 base] w fun e w' => e = .returned (.tuple #[.agg (rvL (Bm.new size base) none 0 0).toArray, .int .i64 0]) ∧ Below w.heap.size w w' := by
  have hs1 : ¬ (size : Int) < 1 := by omega
  have hs2 : ¬ (256 : Int) < size := by omega
  have hb0 : ¬ (base : Int) < 0 := by omega
  have hb1 : ¬ (1152921504606846976 : Int) < base := by omega
  have hr5 := Bk.new w 29 (rvL (Bm.new size base) none 0 0)
  go_enter Try.func7, Try.ntmps7
  go_wp2
  exact bodyPost_ret (results_cell_tmp rfl rfl (rowR.load hr5 0 (cs := rvL (Bm.new size base) none 0 0) rfl rfl)) rfl ⟨rfl, (Below.refl _ w).alloc (Nat.le_refl _) _⟩
theorem rnew_bad (size base : Int) (w : World) (h : size < 1 ∨ 256 < size ∨ base < 0 ∨ 1152921504606846976 < base) :
    Calls Try.prog 7 #[.int .i64 size, .int .i64 base] w fun e w' => e = .returned (.tuple #[.agg zR.toArray, .int .i64 100]) ∧ Below w.heap.size w w' := by
  have hr5 := Bk.new w 29 zR
  rcases (by omega : size < 1 ∨ (1 ≤ size ∧ 256 < size) ∨ (1 ≤ size ∧ size ≤ 256 ∧ base < 0) ∨ (1 ≤ size ∧ size ≤ 256 ∧ 0 ≤ base ∧ 1152921504606846976 < base)) with h0 | ⟨h0, h1⟩ | ⟨h0, h1, h2⟩ | ⟨h0, h1, h2, h3⟩
  all_goals
    clear h
    go_enter Try.func7, Try.ntmps7
    go_wp2
    exact bodyPost_ret (results_cell_tmp rfl rfl (rowR.load hr5 0 (cs := zR) rfl rfl)) rfl ⟨rfl, (Below.refl _ w).alloc (Nat.le_refl _) _⟩
section
variable {w w' : World} {B : Bm} {A : Option Addr} {n c : Nat}
set_option maxHeartbeats 1000000 in
theorem rhas_any (h : Rp w B A n c) (ho : B.ok) (x : Int) :
    Calls Try.prog 26 #[.agg (rvL B A n c).toArray, .int .i64 x] w fun e w' => e = .returned (.bool (B.has x)) ∧ Below w.heap.size w w' := by
  have HM := Lib.hid (Bm.has_mem ho x)
  have HB := Lib.hid ((Below.refl w.heap.size w).alloc (Nat.le_refl _) (.cells (rvL B A n c).toArray 29))
  have HH := Lib.hid h
  have hk := Bk.new w 29 (rvL B A n c)
  have c1 := hk.cell 1 (v := .int .i64 B.base) rfl
  have c2 := hk.cell 2 (v := .slice A n c) rfl
  clear h hk
  rcases (by omega : x < 0 ∨ (0 ≤ x ∧ x < B.base) ∨ (0 ≤ x ∧ (B.base : Int) ≤ x)) with h0 | ⟨h0, h1⟩ | ⟨h0, h1⟩
  · have HV : Hid (B.has x = false) := Lib.hid (by rw [HM.out, decide_eq_false (by omega)]; rfl)
    go_enter Try.func26, Try.ntmps26
    go_wp2
    go_ret
    exact ⟨by rw [HV.out]; rfl, HB.out⟩
  · have HV : Hid (B.has x = true) := Lib.hid (by rw [HM.out, decide_eq_true h0, decide_eq_true h1]; rfl)
    go_enter Try.func26, Try.ntmps26
    go_wp2
    go_ret
    exact ⟨by rw [HV.out]; rfl, HB.out⟩
  · have HV : Hid (B.has x = (decide (x < B.base) || decide (x ∈ B.all true))) := Lib.hid (by rw [HM.out, decide_eq_true h0]; rfl)
    go_enter Try.func26, Try.ntmps26
    go_wp2_with (go_at_call 33; refine (in_any A n c (B.all true) x _ (HH.out.below HB.out)).mono ?_; rintro e w' ⟨rfl, rfl⟩)
    go_ret
    exact ⟨by rw [HV.out]; rfl, HB.out⟩
/-- What the reference's answer holds. -/
structure Rr (w : World) (B' : Bm) (A : Option Addr) (n : Nat) (A' : Option Addr) (n' c' : Nat) (w' : World) : Prop where
  rp : Rp w' B' A' n' c'
  lie : 0 < n' → ∀ ad, A' = some ad → w.heap.size ≤ ad.block ∨ (0 < n ∧ ∃ a0, A = some a0 ∧ ad.block = a0.block)
  bel : Below w.heap.size w w'
set_option maxRecDepth 100000 in
set_option maxHeartbeats 2000000 in
theorem rset_any (h : Rp w B A n c) (ho : B.ok) (x : Int) :
    Calls Try.prog 13 #[.agg (rvL B A n c).toArray, .int .i64 x] w fun e w' => ∃ A' n' c', e = .returned (.tuple #[.agg (rvL (B.set x) A' n' c').toArray, .bool (B.fresh x), .int .i64 (B.err x)]) ∧ Rr w (B.set x) A n A' n' c' w' := by
  have hs1 := ho.s1
  have hs2 := ho.s2
  have hb1 := ho.b1
  have hn256 := h.n256 ho
  obtain ⟨w1, hw1⟩ : ∃ w1, w1 = (w.alloc (.cells (rvL B A n c).toArray 29)).alloc (.cells zR.toArray 29) := ⟨_, rfl⟩
  have k0 : Bk w1 29 w.heap.size (rvL B A n c) := by rw [hw1]; exact (Bk.new w _ (rvL B A n c)).alloc _
  have k1 : Bk w1 29 (w.heap.size + 1) zR := by
    have := Bk.new (w.alloc (.cells (rvL B A n c).toArray 29)) 29 zR
    rw [World.size_alloc] at this
    rw [hw1]; exact this
  have hb : Below w.heap.size w w1 := by rw [hw1]; exact ((Below.refl _ w).alloc (Nat.le_refl _) _).alloc (by simp) _
  have hz1 : w1.heap.size = w.heap.size + 2 := by rw [hw1]; simp
  have HZ := Lib.hid hz1
  have HW : Hid (((w.alloc (.cells (rvL B A n c).toArray 29)).alloc (.cells #[.int .i64 0, .int .i64 0, .slice none 0 0] 29)) = w1) := Lib.hid hw1.symm
  have HB := Lib.hid hb
  have HK0 := Lib.hid k0
  have HK1 := Lib.hid k1
  have HH := Lib.hid (h.below hb)
  have HH0 := Lib.hid h
  have c0 := k0.cell 0 (v := .int .i64 B.size) rfl
  have c1 := k0.cell 1 (v := .int .i64 B.base) rfl
  have c2 := k0.cell 2 (v := .slice A n c) rfl
  have f2 := k0.free 2
  clear h hb hw1 hz1 k0 k1
  cases hr : B.reach x with
  | false =>
    have HV : Hid (B.fresh x = false ∧ B.err x = 5 ∧ B.set x = B) := Lib.hid (by simp [Bm.fresh, Bm.err, Bm.set, hr])
    have hx : x < 0 ∨ (0 ≤ x ∧ 1152921504606846976 < x) ∨ (0 ≤ x ∧ x ≤ 1152921504606846976 ∧ (B.base : Int) ≤ x - B.size) := by
      simp only [Bm.reach, decide_eq_false_iff_not] at hr
      omega
    clear c0 c1 c2 f2
    have hk := (Bk.new w 29 (rvL B A n c)).alloc (.cells #[.int .i64 0, .int .i64 0, .slice none 0 0] 29)
    have hz : Bk ((w.alloc (.cells (rvL B A n c).toArray 29)).alloc (.cells #[.int .i64 0, .int .i64 0, .slice none 0 0] 29)) 29 (w.heap.size + 1) zR := by rw [HW.out]; exact HK1.out
    have c0 := hk.cell 0 (v := .int .i64 B.size) rfl
    have c1 := hk.cell 1 (v := .int .i64 B.base) rfl
    rcases hx with h0 | ⟨h0, h1⟩ | ⟨h0, h1, h2⟩
    all_goals
      go_enter Try.func13, Try.ntmps13
      go_wp2_with (first
        | (with_reducible refine at_load 29 (.tmp 2) (by rfl) ?_; refine wpList_load_bk rowR rfl (.tmp 2) rfl w.heap.size 0 rfl hk (rvL B A n c) rfl rfl ?_)
        | (with_reducible refine at_store 29 (.tmp 4) (.tmp 22) (by rfl) ?_; refine wpList_store_bk rowR rfl (.tmp 4) (.tmp 22) rfl (w.heap.size + 1) 0 rfl hz (rvL B A n c) rfl rfl (by decide) (rvL_one _ _ _ _) ?_; rintro w5 hr5 hw5))
      rw [lay_zR] at hr5
      rw [HW.out] at hw5
      have hbl : Below w.heap.size w w5 := HB.out.trans (hw5.below (by omega) (by have := HZ.out; omega))
      refine bodyPost_ret (results_cell_tmp2 rfl rfl (rowR.load hr5 0 (cs := rvL B A n c) rfl rfl)) rfl ⟨A, n, c, ?_, ?_, fun hn ad he => .inr ⟨hn, ad, he, rfl⟩, hbl⟩
      · rw [HV.out.1, HV.out.2.1, HV.out.2.2]; rfl
      · rw [HV.out.2.2]; exact HH0.out.below hbl
  | true =>
    have hx : 0 ≤ x ∧ x ≤ 1152921504606846976 ∧ x - B.size < (B.base : Int) := by
      simp only [Bm.reach, decide_eq_true_eq] at hr
      omega
    obtain ⟨hx0, hx1, hx2⟩ := hx
    clear c0 c1 c2 f2
    have hk := (Bk.new w 29 (rvL B A n c)).alloc (.cells #[.int .i64 0, .int .i64 0, .slice none 0 0] 29)
    have c0 := hk.cell 0 (v := .int .i64 B.size) rfl
    have c1 := hk.cell 1 (v := .int .i64 B.base) rfl
    cases hh : B.has x with
    | true =>
      have HV : Hid (B.fresh x = false ∧ B.err x = 0 ∧ B.set x = B) := Lib.hid (by simp [Bm.fresh, Bm.err, Bm.set, hr, hh])
      go_enter Try.func13, Try.ntmps13
      go_wp2_with (with_reducible refine at_load 29 (.tmp 2) (by rfl) ?_; refine wpList_load_bk rowR rfl (.tmp 2) rfl w.heap.size 0 rfl hk (rvL B A n c) rfl rfl ?_)
      rw [HW.out]
      clear hk c0 c1
      refine (rhas_any HH.out ho x).mono ?_
      rintro e w2 ⟨rfl, hb2⟩
      rw [hh]
      have KB := HK0.out.below hb2
      have KZ := HK1.out.below hb2
      have HB2 := Lib.hid hb2
      clear hb2
      go_wp2_with (first
        | (with_reducible refine at_load 29 (.tmp 2) (by rfl) ?_; refine wpList_load_bk rowR rfl (.tmp 2) rfl w.heap.size 0 rfl KB (rvL B A n c) rfl rfl ?_)
        | (with_reducible refine at_store 29 (.tmp 4) (.tmp 26) (by rfl) ?_; refine wpList_store_bk rowR rfl (.tmp 4) (.tmp 26) rfl (w.heap.size + 1) 0 rfl KZ (rvL B A n c) rfl rfl (by decide) (rvL_one _ _ _ _) ?_; rintro w5 hr5 hw5))
      rw [lay_zR] at hr5
      have hbl : Below w.heap.size w w5 := (HB.out.trans (HB2.out.mono (by have := HZ.out; omega))).trans (hw5.below (by omega) (by have := HZ.out; have := HB2.out.size; omega))
      refine bodyPost_ret (results_cell_tmp2 rfl rfl (rowR.load hr5 0 (cs := rvL B A n c) rfl rfl)) rfl ⟨A, n, c, ?_, ?_, fun hn ad he => .inr ⟨hn, ad, he, rfl⟩, hbl⟩
      · rw [HV.out.1, HV.out.2.1, HV.out.2.2]; rfl
      · rw [HV.out.2.2]; exact HH0.out.below hbl
    | false =>
      have hf : B.fresh x = true := by simp [Bm.fresh, hr, hh]
      have HV : Hid (B.fresh x = true ∧ B.err x = 0 ∧ B.set x = B.put x.toNat) := Lib.hid (by simp [Bm.fresh, Bm.err, Bm.set, hr, hh])
      obtain ⟨f1, f3, f4, f5, f6⟩ := Bm.fresh_in hf
      obtain ⟨y, rfl⟩ := Int.eq_ofNat_of_zero_le f1
      rw [Int.toNat_natCast] at f3 f4 f5 f6
      have HPA := Lib.hid (fun k (hk : Spot (B.all true) (y : Int) k) => Bm.put_all ho f3 f4 f5 f6 hk)
      clear hf
      go_enter Try.func13, Try.ntmps13
      go_wp2_with (with_reducible refine at_load 29 (.tmp 2) (by rfl) ?_; refine wpList_load_bk rowR rfl (.tmp 2) rfl w.heap.size 0 rfl hk (rvL B A n c) rfl rfl ?_)
      rw [HW.out]
      clear hk c0 c1
      refine (rhas_any HH.out ho (y : Int)).mono ?_
      rintro e w2 ⟨rfl, hb2⟩
      rw [hh]
      have KB2 := HK0.out.below hb2
      have KZ2 := HK1.out.below hb2
      have c2 := KB2.cell 2 (v := .slice A n c) rfl
      have HB2 := Lib.hid hb2
      have HKB2 := Lib.hid KB2
      have HKZ2 := Lib.hid KZ2
      clear hb2 KB2 KZ2
      go_wp2_with fail
      refine (with_any A n c (B.all true) (y : Int) _ (HH.out.below HB2.out) hn256).mono ?_
      rintro e w3 ⟨k, hsp, A3, n3, c3, rfl, hl3, hb3⟩
      rw [HPA.out k hsp] at hl3
      have hk3 := HKB2.out.below hb3
      have f2 := hk3.free 2
      have c2' := hk3.cell 2 (v := .slice A n c) rfl
      have KB : Bk (w3.setCell ⟨w.heap.size, 2, none⟩ (.slice A3 n3 c3)) 29 w.heap.size (rvL (B.put y) A3 n3 c3) := hk3.set 2 _
      have KZ := (HKZ2.out.below hb3).far (p := ⟨w.heap.size, 2, none⟩) (by simp) (.slice A3 n3 c3)
      have HL3 := Lib.hid hl3
      have HB3 := Lib.hid hb3
      clear hl3 hb3 hk3 c2
      go_wp2_with (first
        | (with_reducible refine at_load 29 (.tmp 2) (by rfl) ?_; refine wpList_load_bk rowR rfl (.tmp 2) rfl w.heap.size 0 rfl KB (rvL (B.put y) A3 n3 c3) rfl rfl ?_)
        | (with_reducible refine at_store 29 (.tmp 4) (.tmp 32) (by rfl) ?_; refine wpList_store_bk rowR rfl (.tmp 4) (.tmp 32) rfl (w.heap.size + 1) 0 rfl KZ (rvL (B.put y) A3 n3 c3) rfl rfl (by decide) (rvL_one _ _ _ _) ?_; rintro w5 hr5 hw5))
      rw [lay_zR] at hr5
      have hz2 := HZ.out
      have hz3 := HB2.out.size
      have hz4 := HB3.out.size
      have hst := (Wr.set w3 w.heap.size 2 (.slice A3 n3 c3))
      have hbl : Below w.heap.size w w5 := ((HB.out.trans (HB2.out.mono (by omega))).trans (HB3.out.mono (by omega))).trans ((hst.below (Nat.le_refl _) (by omega)).trans (hw5.below (by omega) (by simp [World.setCell]; omega)))
      have hfar : Lst 3 (w2.heap.size ≤ ·) w5 A3 n3 c3 (intV ((B.put y).all true)) := by
        refine HL3.out.same fun ad he => ?_
        have hlt := HL3.out.blk ad he
        have h2 := hst.block ad.block hlt.2 (by intro e; injection e with e; omega)
        rw [← h2]
        exact hw5.block ad.block (by simp [World.setCell]; exact hlt.2) (by intro e; injection e with e; omega)
      refine bodyPost_ret (results_cell_tmp2 rfl rfl (rowR.load hr5 0 (cs := rvL (B.put y) A3 n3 c3) rfl rfl)) rfl ⟨A3, n3, c3, ?_, ?_, fun hn ad he => .inl ?_, hbl⟩
      · rw [HV.out.1, HV.out.2.1, HV.out.2.2]; rfl
      · rw [HV.out.2.2]; exact hfar.rdv
      · have := (HL3.out.blk ad he).1; omega
end
end Go.Proofs.Ytcffmghpgbkcdaa
