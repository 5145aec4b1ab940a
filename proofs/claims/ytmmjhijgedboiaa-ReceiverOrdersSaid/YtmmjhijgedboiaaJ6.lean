/- The reference: Add, Fits, last. -/
import Derived.Test.YtmmjhijgedboiaaJ4
import Derived.Test.YtmmjhijgedboiaaOpenV
set_option linter.unusedSimpArgs false
set_option linter.unusedVariables false
set_option maxRecDepth 100000
namespace Go.Proofs.Ytmmjhijgedboiaa
open Go.RowKit Go.Shelf
theorem rowR : Row Try.prog 32 4 := ⟨⟨_, rfl, by decide⟩, by kernel_rfl⟩
theorem results_cell_tmp3 {P : Program} {w : World} {ty : TypeId} {fn : Func} {s u1 u2 u3 : Tmp} (h : fn.results = #[.cell s ty, .tmp u1, .tmp u2, .tmp u3]) {tmps : Array Value} {a : Addr} (ha : tmps.getD s undef = .pointer (some a)) {v : Value} (hl : (loadVar ty a).run P w = .ok v w) :
    (results fn tmps).run P w = .ok (.tuple #[v, tmps.getD u1 undef, tmps.getD u2 undef, tmps.getD u3 undef]) w := by
  rw [Array.getD_eq_getD_getElem?] at ha
  simp [results, h, ha, asAddr_some, hl]
/-- The reference's Join, by value. -/
def rL (m : Jm) (A : Option Addr) (n c : Nat) : List Value := [.slice A n c, .int .i64 m.ps.length, .int .i64 m.N, .int .i64 m.T]
theorem rL_one (m : Jm) (A : Option Addr) (n c : Nat) : ∀ v ∈ rL m A n c, v.oneCell' = true := by
  intro v hv
  simp only [rL, List.mem_cons, List.not_mem_nil, or_false] at hv
  rcases hv with rfl | rfl | rfl | rfl <;> rfl
theorem rL_len (m : Jm) (A : Option Addr) (n c : Nat) : (rL m A n c).length = 4 := rfl
theorem Jm.fl_len (m : Jm) : m.fl.length = m.op := rfl
/-- What the reference's Add answers. -/
def RAdd (w : World) (m : Jm) (A : Option Addr) (xs : List Int) (en : Bool) (e : Ending) (w' : World) : Prop :=
  ∃ A1 n1 c1 A2 n2 c2, e = .returned (.tuple #[.agg #[.slice A1 n1 c1, .int .i64 (m.add xs en).ps.length, .int .i64 (m.add xs en).N, .int .i64 (m.add xs en).T], .slice A2 n2 c2, .bool (m.is xs en), .int .i64 (m.refuse xs)]) ∧
    BsR w' A1 n1 c1 (m.add xs en).fl ∧ BsR w' A2 n2 c2 (m.told xs en) ∧ (∀ k, BlkOf A1 k → BlkOf A k ∨ w.heap.size ≤ k) ∧ (∀ k, BlkOf A2 k → w.heap.size ≤ k) ∧ Below w.heap.size w w'
section
variable {w : World} {m : Jm} {A : Option Addr} {n c : Nat} {B : Option Addr} {l d : Nat} {xs : List Int} {en : Bool}
theorem RAdd.no {w' : World} (h : BsR w A n c m.fl) (hb : Below w.heap.size w w') (hr : m.refuse xs ≠ 0) : RAdd w m A xs en (.returned (.tuple #[.agg #[.slice A n c, .int .i64 m.ps.length, .int .i64 m.N, .int .i64 m.T], .slice none 0 0, .bool false, .int .i64 (m.refuse xs)])) w' := by
  have h1 : m.is xs en = false := by simp [Jm.is, hr]
  have h2 : m.add xs en = m := by unfold Jm.add; rw [if_neg hr]
  refine ⟨A, n, c, none, 0, 0, by rw [h1, h2], ?_, ?_, fun k hk => .inl hk, (by rintro k ⟨ad, he, _⟩; cases he), hb⟩
  · rw [h2]; exact h.below hb
  · unfold Jm.told; rw [h1]; exact BsR.nil _
theorem rbox (w : World) (m : Jm) (A : Option Addr) (n c : Nat) (o : Obj) : (loadVar 32 ⟨w.heap.size + 1, 0, none⟩).run Try.prog ((w.alloc o).alloc (.cells #[.slice A n c, .int .i64 m.ps.length, .int .i64 m.N, .int .i64 m.T] 32)) =
    .ok (.agg #[.slice A n c, .int .i64 m.ps.length, .int .i64 m.N, .int .i64 m.T]) ((w.alloc o).alloc (.cells #[.slice A n c, .int .i64 m.ps.length, .int .i64 m.N, .int .i64 m.T] 32)) := by
  have h := Bk.new (w.alloc o) 32 [.slice A n c, .int .i64 m.ps.length, .int .i64 m.N, .int .i64 m.T]
  rw [World.size_alloc] at h
  exact rowR.load h 0 rfl rfl
theorem below2 (w : World) (o o' : Obj) : Below w.heap.size w ((w.alloc o).alloc o') := ((Below.refl _ w).alloc (Nat.le_refl _) o).alloc (by simp) o'
set_option maxHeartbeats 1000000 in
theorem r_add_no (h : BsR w A n c m.fl) (hx : xs.length = l) (hle : m.op ≤ 65536) (hr : m.refuse xs ≠ 0) :
    Calls Try.prog 50 #[.agg #[.slice A n c, .int .i64 m.ps.length, .int .i64 m.N, .int .i64 m.T], .slice B l d, .bool en] w (RAdd w m A xs en) := by
  obtain rfl : n = m.op := by rw [← m.fl_len]; exact h.1.1.symm
  have HH := Lib.hid (fun w' hb => RAdd.no (w' := w') (en := en) h hb hr)
  by_cases h0 : l = 0
  · have HE : Hid (m.refuse xs = 120) := Lib.hid (by unfold Jm.refuse; rw [if_pos (by omega)])
    rw [HE.out] at HH
    subst h0
    clear h hx hr
    go_enter Try.func50, Try.ntmps50
    go_wp2
    exact bodyPost_ret (results_cell_tmp3 (s := 6) (u1 := 7) (u2 := 8) (u3 := 9) rfl rfl (rbox w m A m.op c _)) rfl (HH.out _ (below2 _ _ _))
  · have h2 : 65536 < m.op + l := by
      refine Decidable.byContradiction fun hc => hr ?_
      unfold Jm.refuse
      rw [if_neg (by omega), if_neg (by omega)]
    have HE : Hid (m.refuse xs = 2) := Lib.hid (by unfold Jm.refuse; rw [if_neg (by omega), if_pos (by omega)])
    rw [HE.out] at HH
    have hl0 : ((l : Int) == 0) = false := by simp; omega
    have hl2 : (65536 : Int) - m.op < l := by omega
    clear h hx hr h2
    go_enter Try.func50, Try.ntmps50
    go_wp2
    exact bodyPost_ret (results_cell_tmp3 (s := 6) (u1 := 7) (u2 := 8) (u3 := 9) rfl rfl (rbox w m A m.op c _)) rfl (HH.out _ (below2 _ _ _))
theorem RAdd.on {W0 w2 w5 : World} {A2 : Option Addr} {c2 : Nat} (hE : m.refuse xs = 0) (hx : xs.length = l) (ho : Ow .u8 5 W0.heap.size w2 (.slice A2 (m.op + l) c2) (m.fl ++ xs)) (hw : ∀ x ∈ m.fl ++ xs, (Lit.int .u8 x).wf = true) (hb0 : Below w.heap.size w W0) (hb2 : Below W0.heap.size W0 w2) (h5 : Wr (w.heap.size + 1) w2 w5) (hs : w.heap.size + 1 < W0.heap.size) :
    RAdd w m A xs false (.returned (.tuple #[.agg #[.slice A2 (m.op + l) c2, .int .i64 ((m.ps.length : Int) + 1), .int .i64 m.N, .int .i64 m.T], .slice none 0 0, .bool false, .int .i64 0])) w5 := by
  have h1 : m.is xs false = false := by simp [Jm.is]
  have h2 : m.add xs false = m.plus xs := by unfold Jm.add; rw [if_pos hE, if_neg (by simp)]
  obtain ⟨hq, hge⟩ := BsR.own ho hw
  have hb : Below w.heap.size w w2 := hb0.trans (hb2.mono hb0.size)
  refine ⟨A2, m.op + l, c2, none, 0, 0, ?_, ?_, ?_, fun k hk => .inr (Nat.le_trans hb0.size (hge k hk)), (by rintro k ⟨ad, he, _⟩; cases he), hb.trans (h5.below (by omega) hb.size)⟩
  · rw [h1, h2, hE]
    have e : ((m.plus xs).ps.length : Int) = (m.ps.length : Int) + 1 := by simp [Jm.plus]
    rw [e]; rfl
  · rw [h2, Jm.plus_fl]
    exact hq.keep h5.size fun ad he => h5.block _ (hq.lt _ ⟨ad, he, rfl⟩) (by have := hge _ ⟨ad, he, rfl⟩; intro e; injection e with e; omega)
  · unfold Jm.told; rw [h1]; exact BsR.nil _
theorem RAdd.full {W0 w2 w5 : World} {A2 : Option Addr} {c2 : Nat} (hE : m.refuse xs = 0) (hx : xs.length = l) (ho : Ow .u8 5 W0.heap.size w2 (.slice A2 (m.op + l) c2) (m.fl ++ xs)) (hw : ∀ x ∈ m.fl ++ xs, (Lit.int .u8 x).wf = true) (hb0 : Below w.heap.size w W0) (hb2 : Below W0.heap.size W0 w2) (h5 : Wr (w.heap.size + 1) w2 w5) (hs : w.heap.size + 1 < W0.heap.size) :
    RAdd w m A xs true (.returned (.tuple #[.agg #[.slice none 0 0, .int .i64 0, .int .i64 (m.N + 1), .int .i64 (m.T + ((m.op : Int) + l))], .slice A2 (m.op + l) c2, .bool true, .int .i64 0])) w5 := by
  have h1 : m.is xs true = true := by simp [Jm.is, hE]
  have h2 : m.add xs true = ⟨[], m.N + 1, m.T + (m.op + xs.length : Nat)⟩ := by unfold Jm.add; rw [if_pos hE, if_pos rfl]
  obtain ⟨hq, hge⟩ := BsR.own ho hw
  have hb : Below w.heap.size w w2 := hb0.trans (hb2.mono hb0.size)
  refine ⟨none, 0, 0, A2, m.op + l, c2, ?_, ?_, ?_, ?_, fun k hk => Nat.le_trans hb0.size (hge k hk), hb.trans (h5.below (by omega) hb.size)⟩
  · rw [h1, h2, hE, hx, Int.natCast_add]; rfl
  · rw [h2]; exact BsR.nil _
  · unfold Jm.told
    rw [if_pos h1]
    exact hq.keep h5.size fun ad he => h5.block _ (hq.lt _ ⟨ad, he, rfl⟩) (by have := hge _ ⟨ad, he, rfl⟩; intro e; injection e with e; omega)
  · rintro k ⟨ad, he, _⟩; cases he
set_option maxHeartbeats 4000000 in
theorem r_add_on (h : BsR w A n c m.fl) (hr : Rd .u8 w B l d xs) (h0 : l ≠ 0) (h2 : m.op + l ≤ 65536) (hpl : m.ps.length ≤ 65536) (hN : 0 ≤ m.N ∧ m.N ≤ 1000000000) (hT : 0 ≤ m.T ∧ m.T ≤ 1000000000000000) :
    Calls Try.prog 50 #[.agg #[.slice A n c, .int .i64 m.ps.length, .int .i64 m.N, .int .i64 m.T], .slice B l d, .bool false] w (RAdd w m A xs false) := by
  obtain rfl : n = m.op := by rw [← m.fl_len]; exact h.1.1.symm
  have hxl := hr.1
  have HE : Hid (m.refuse xs = 0) := Lib.hid (by unfold Jm.refuse; rw [if_neg (by omega), if_neg (by omega)])
  have hl0 : ((l : Int) == 0) = false := by simp; omega
  have hl2 : (l : Int) ≤ (65536 : Int) - m.op := by omega
  obtain ⟨W0, hW0⟩ : ∃ W0, W0 = ((w.alloc (.cells #[.slice A m.op c, .int .i64 m.ps.length, .int .i64 m.N, .int .i64 m.T] 32)).alloc (.cells #[.slice none 0 0, .int .i64 0, .int .i64 0, .int .i64 0] 32)) := ⟨_, rfl⟩
  have hb0 : Below w.heap.size w W0 := by rw [hW0]; exact below2 _ _ _
  have k0 : Bk W0 32 w.heap.size [.slice A m.op c, .int .i64 m.ps.length, .int .i64 m.N, .int .i64 m.T] := by rw [hW0]; exact (Bk.new w 32 [.slice A m.op c, .int .i64 m.ps.length, .int .i64 m.N, .int .i64 m.T]).alloc _
  have k1 : Bk W0 32 (w.heap.size + 1) [.slice none 0 0, .int .i64 0, .int .i64 0, .int .i64 0] := by
    rw [hW0]
    have := Bk.new (w.alloc (.cells #[.slice A m.op c, .int .i64 m.ps.length, .int .i64 m.N, .int .i64 m.T] 32)) 32 [.slice none 0 0, .int .i64 0, .int .i64 0, .int .i64 0]
    rw [World.size_alloc] at this; exact this
  have HW := Lib.hid hW0
  have HOE : Hid (Ow .u8 5 W0.heap.size (W0.alloc (.cells #[] 5)) (.slice (some ⟨w.heap.size + 1 + 1, 0, none⟩) 0 0) []) := Lib.hid (by
    have h1 := Ow.empty .u8 5 W0
    have h2 : W0.heap.size = w.heap.size + 1 + 1 := by rw [hW0]; simp
    rw [h2] at h1
    rw [h2]; exact h1)
  have HX := Lib.hid hr.1
  have HF := Lib.hid (And.intro (h.1.below hb0) (hr.below hb0))
  have HO : Hid ((m.fl ++ xs).length = m.op + l) := Lib.hid (by rw [List.length_append, m.fl_len, hr.1])
  have HWF : Hid (∀ x ∈ m.fl ++ xs, (Lit.int .u8 x).wf = true) := Lib.hid fun x hx => by
    rcases List.mem_append.1 hx with h' | h'
    · exact h.1.2.2.2.2.1 x h'
    · exact hr.2.2.2.2.1 x h'
  have HB0 := Lib.hid hb0
  have HK := Lib.hid (And.intro k0 k1)
  obtain ⟨hN1, hN2⟩ := hN
  obtain ⟨hT1, hT2⟩ := hT
  clear h hr hb0 k0 k1 hxl hW0
  go_enter Try.func50, Try.ntmps50
  go_wp2_with (first
    | (at_builtin
       rw [← HW.out]
       refine wpList_append_ints bytesT rfl (.tmp 23) (.tmp 25) rfl rfl (w0 := W0) (xs := []) HOE.out rfl (HF.out.1.alloc _) (by simp; omega) (by omega) ((Below.refl _ W0).alloc (Nat.le_refl _) _) ?_
       intro v1 w1 hown1 hb1
       rw [List.nil_append] at hown1
       have HOw1 := Lib.hid hown1
       have HB1 := Lib.hid hb1
       obtain ⟨A8, c8, rfl⟩ := own_slice hown1
       clear hown1 hb1)
    | (at_builtin
       refine wpList_append_ints bytesT rfl (.tmp 26) (.tmp 27) rfl rfl (w0 := W0) HOw1.out rfl (HF.out.2.belowB HB1.out (Nat.le_refl _)) (by rw [m.fl_len]; omega) (by omega) HB1.out ?_
       intro v2 w2 hown2 hb2
       obtain ⟨A2, c2, rfl⟩ := own_slice hown2
       rw [HO.out] at hown2 ⊢
       have HOw := Lib.hid hown2
       have HB2 := Lib.hid hb2
       have z0 := HK.out.1.keep hb2 HK.out.1.lt
       have z1 := HK.out.2.keep hb2 HK.out.2.lt
       have d1 := z0.cell 1 rfl
       have d2 := z0.cell 2 rfl
       have d3 := z0.cell 3 rfl
       clear hown2 hb2)
    | (with_reducible refine at_store 32 (.tmp 6) (.tmp 39) (by rfl) ?_
       refine wpList_store_bk rowR rfl (.tmp 6) (.tmp 39) rfl (w.heap.size + 1) 0 rfl z1 [.slice A2 (m.op + l) c2, .int .i64 ((m.ps.length : Int) + 1), .int .i64 m.N, .int .i64 m.T] rfl rfl (by decide) (by simp [Value.oneCell']) ?_
       intro w5 hz5 hw5))
  rw [lay_all _ _ (by rfl)] at hz5
  exact bodyPost_ret (results_cell_tmp3 (s := 6) (u1 := 7) (u2 := 8) (u3 := 9) rfl rfl (rowR.load hz5 0 rfl rfl)) rfl (RAdd.on HE.out HX.out HOw.out HWF.out HB0.out HB2.out hw5 HK.out.2.lt)
set_option maxHeartbeats 4000000 in
theorem r_add_en (h : BsR w A n c m.fl) (hr : Rd .u8 w B l d xs) (h0 : l ≠ 0) (h2 : m.op + l ≤ 65536) (hpl : m.ps.length ≤ 65536) (hN : 0 ≤ m.N ∧ m.N ≤ 1000000000) (hT : 0 ≤ m.T ∧ m.T ≤ 1000000000000000) :
    Calls Try.prog 50 #[.agg #[.slice A n c, .int .i64 m.ps.length, .int .i64 m.N, .int .i64 m.T], .slice B l d, .bool true] w (RAdd w m A xs true) := by
  obtain rfl : n = m.op := by rw [← m.fl_len]; exact h.1.1.symm
  have hxl := hr.1
  have HE : Hid (m.refuse xs = 0) := Lib.hid (by unfold Jm.refuse; rw [if_neg (by omega), if_neg (by omega)])
  have hl0 : ((l : Int) == 0) = false := by simp; omega
  have hl2 : (l : Int) ≤ (65536 : Int) - m.op := by omega
  obtain ⟨W0, hW0⟩ : ∃ W0, W0 = ((w.alloc (.cells #[.slice A m.op c, .int .i64 m.ps.length, .int .i64 m.N, .int .i64 m.T] 32)).alloc (.cells #[.slice none 0 0, .int .i64 0, .int .i64 0, .int .i64 0] 32)) := ⟨_, rfl⟩
  have hb0 : Below w.heap.size w W0 := by rw [hW0]; exact below2 _ _ _
  have k0 : Bk W0 32 w.heap.size [.slice A m.op c, .int .i64 m.ps.length, .int .i64 m.N, .int .i64 m.T] := by rw [hW0]; exact (Bk.new w 32 [.slice A m.op c, .int .i64 m.ps.length, .int .i64 m.N, .int .i64 m.T]).alloc _
  have k1 : Bk W0 32 (w.heap.size + 1) [.slice none 0 0, .int .i64 0, .int .i64 0, .int .i64 0] := by
    rw [hW0]
    have := Bk.new (w.alloc (.cells #[.slice A m.op c, .int .i64 m.ps.length, .int .i64 m.N, .int .i64 m.T] 32)) 32 [.slice none 0 0, .int .i64 0, .int .i64 0, .int .i64 0]
    rw [World.size_alloc] at this; exact this
  have HW := Lib.hid hW0
  have HOE : Hid (Ow .u8 5 W0.heap.size (W0.alloc (.cells #[] 5)) (.slice (some ⟨w.heap.size + 1 + 1, 0, none⟩) 0 0) []) := Lib.hid (by
    have h1 := Ow.empty .u8 5 W0
    have h2 : W0.heap.size = w.heap.size + 1 + 1 := by rw [hW0]; simp
    rw [h2] at h1
    rw [h2]; exact h1)
  have HX := Lib.hid hr.1
  have HF := Lib.hid (And.intro (h.1.below hb0) (hr.below hb0))
  have HO : Hid ((m.fl ++ xs).length = m.op + l) := Lib.hid (by rw [List.length_append, m.fl_len, hr.1])
  have HWF : Hid (∀ x ∈ m.fl ++ xs, (Lit.int .u8 x).wf = true) := Lib.hid fun x hx => by
    rcases List.mem_append.1 hx with h' | h'
    · exact h.1.2.2.2.2.1 x h'
    · exact hr.2.2.2.2.1 x h'
  have HB0 := Lib.hid hb0
  have HK := Lib.hid (And.intro k0 k1)
  obtain ⟨hN1, hN2⟩ := hN
  obtain ⟨hT1, hT2⟩ := hT
  clear h hr hb0 k0 k1 hxl hW0
  go_enter Try.func50, Try.ntmps50
  go_wp2_with (first
    | (at_builtin
       rw [← HW.out]
       refine wpList_append_ints bytesT rfl (.tmp 23) (.tmp 25) rfl rfl (w0 := W0) (xs := []) HOE.out rfl (HF.out.1.alloc _) (by simp; omega) (by omega) ((Below.refl _ W0).alloc (Nat.le_refl _) _) ?_
       intro v1 w1 hown1 hb1
       rw [List.nil_append] at hown1
       have HOw1 := Lib.hid hown1
       have HB1 := Lib.hid hb1
       obtain ⟨A8, c8, rfl⟩ := own_slice hown1
       clear hown1 hb1)
    | (at_builtin
       refine wpList_append_ints bytesT rfl (.tmp 26) (.tmp 27) rfl rfl (w0 := W0) HOw1.out rfl (HF.out.2.belowB HB1.out (Nat.le_refl _)) (by rw [m.fl_len]; omega) (by omega) HB1.out ?_
       intro v2 w2 hown2 hb2
       obtain ⟨A2, c2, rfl⟩ := own_slice hown2
       rw [HO.out] at hown2 ⊢
       have HOw := Lib.hid hown2
       have HB2 := Lib.hid hb2
       have z0 := HK.out.1.keep hb2 HK.out.1.lt
       have z1 := HK.out.2.keep hb2 HK.out.2.lt
       have d1 := z0.cell 1 rfl
       have d2 := z0.cell 2 rfl
       have d3 := z0.cell 3 rfl
       clear hown2 hb2)
    | (with_reducible refine at_store 32 (.tmp 6) (.tmp 48) (by rfl) ?_
       refine wpList_store_bk rowR rfl (.tmp 6) (.tmp 48) rfl (w.heap.size + 1) 0 rfl z1 [.slice none 0 0, .int .i64 0, .int .i64 (m.N + 1), .int .i64 (m.T + ((m.op : Int) + l))] rfl rfl (by decide) (by simp [Value.oneCell']) ?_
       intro w5 hz5 hw5))
  rw [lay_all _ _ (by rfl)] at hz5
  exact bodyPost_ret (results_cell_tmp3 (s := 6) (u1 := 7) (u2 := 8) (u3 := 9) rfl rfl (rowR.load hz5 0 rfl rfl)) rfl (RAdd.full HE.out HX.out HOw.out HWF.out HB0.out HB2.out hw5 HK.out.2.lt)
theorem r_add (h : BsR w A n c m.fl) (hr : Rd .u8 w B l d xs) (en : Bool) (hle : m.op ≤ 65536) (hpl : m.ps.length ≤ 65536) (hN : 0 ≤ m.N ∧ m.N ≤ 1000000000) (hT : 0 ≤ m.T ∧ m.T ≤ 1000000000000000) :
    Calls Try.prog 50 #[.agg #[.slice A n c, .int .i64 m.ps.length, .int .i64 m.N, .int .i64 m.T], .slice B l d, .bool en] w (RAdd w m A xs en) := by
  by_cases h0 : m.refuse xs = 0
  · have hl : l ≠ 0 ∧ m.op + l ≤ 65536 := by
      have h1 := hr.1
      unfold Jm.refuse at h0
      split at h0
      · cases h0
      · split at h0
        · cases h0
        · omega
    cases en with
    | false => exact r_add_on h hr hl.1 hl.2 hpl hN hT
    | true => exact r_add_en h hr hl.1 hl.2 hpl hN hT
  · exact r_add_no h hr.1 hle h0
end
end Go.Proofs.Ytmmjhijgedboiaa
