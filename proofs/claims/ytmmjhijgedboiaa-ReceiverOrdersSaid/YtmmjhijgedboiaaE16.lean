/- Receivers that nobody made. -/
import Derived.Test.YtmmjhijgedboiaaE15
set_option linter.unusedSimpArgs false
set_option linter.unusedVariables false
set_option maxRecDepth 100000
namespace Go.Proofs.Ytmmjhijgedboiaa
open Go.RowKit Go.Shelf
def NoV (w : World) (P : Option Addr) : Prop := P = none ∨ ∃ r, P = some ⟨r, 0, none⟩ ∧ Bk w 79 r [.pointer none]
section
variable {w w' : World} {P : Option Addr}
theorem NoV.below (h : NoV w P) (hb : Below w.heap.size w w') : NoV w' P := h.imp id fun ⟨r, h1, h2⟩ => ⟨r, h1, h2.below hb⟩
theorem o_made (h : NoV w P) : Calls Try.prog 33 #[.pointer P] w fun e w' => e = .returned (.bool false) ∧ w = w' := by
  rcases h with rfl | ⟨r, rfl, hb⟩
  · go_enter Try.func33, Try.ntmps33
    go_wp2
    go_ret
    exact ⟨rfl, rfl⟩
  · have c0 := hb.cell 0 rfl
    go_enter Try.func33, Try.ntmps33
    go_wp2
    go_ret
    exact ⟨rfl, rfl⟩
theorem o_take (h : NoV w P) (q : Pv) : Calls Try.prog 9 #[.pointer P, .agg #[.int .i64 q.h.kd, .int .i64 q.h.fl, .int .i64 q.h.pa, .int .i64 q.h.sr, .int .i64 q.h.ds, .int .i64 q.h.cn, .int .i64 q.h.sq, .int .i64 q.h.pu, .slice q.A q.n q.c]] w fun e w' => e = .returned (.tuple #[.slice none 0 0, .slice none 0 0]) ∧ Below w.heap.size w w' := by
  have hb1 : Below w.heap.size w (w.alloc (.cells #[.int .i64 q.h.kd, .int .i64 q.h.fl, .int .i64 q.h.pa, .int .i64 q.h.sr, .int .i64 q.h.ds, .int .i64 q.h.cn, .int .i64 q.h.sq, .int .i64 q.h.pu, .slice q.A q.n q.c] 40)) := (Below.refl _ w).alloc (Nat.le_refl _) _
  have HM := Lib.hid (o_made (h.below hb1))
  clear h
  go_enter Try.func9, Try.ntmps9
  go_wp2_with (go_at_call 33; refine HM.out.mono ?_; rintro e w' ⟨rfl, rfl⟩)
  go_ret2
  exact ⟨rfl, hb1⟩
set_option maxHeartbeats 4000000 in
theorem o_line (h : NoV w P) : Calls Try.prog 18 #[.pointer P] w fun e w' => e = .returned (.agg #[.int .i64 0, .int .i64 0, .int .i64 0, .int .i64 0, .int .i64 0, .int .i64 0, .int .i64 0, .int .i64 0, .int .i64 0, .int .i64 0, .int .i64 0, .int .i64 0, .bool false, .bool false]) ∧ Below w.heap.size w w' := by
  have hb1 : Below w.heap.size w (w.alloc (.cells #[.int .i64 0, .int .i64 0, .int .i64 0, .int .i64 0, .int .i64 0, .int .i64 0, .int .i64 0, .int .i64 0, .int .i64 0, .int .i64 0, .int .i64 0, .int .i64 0, .bool false, .bool false] 58)) := (Below.refl _ w).alloc (Nat.le_refl _) _
  have HM := Lib.hid (o_made (h.below hb1))
  have HB := Lib.hid hb1
  have zz := Bk.new w 58 [.int .i64 0, .int .i64 0, .int .i64 0, .int .i64 0, .int .i64 0, .int .i64 0, .int .i64 0, .int .i64 0, .int .i64 0, .int .i64 0, .int .i64 0, .int .i64 0, .bool false, .bool false]
  clear h hb1
  go_enter Try.func18, Try.ntmps18
  go_wp2_with (first
    | (go_at_call 33; refine HM.out.mono ?_; rintro e w' ⟨rfl, rfl⟩)
    | (with_reducible refine at_store 58 (.tmp 2) (.tmp 7) (by rfl) ?_
       refine wpList_store_bk rowLn rfl (.tmp 2) (.tmp 7) rfl w.heap.size 0 rfl zz [.int .i64 0, .int .i64 0, .int .i64 0, .int .i64 0, .int .i64 0, .int .i64 0, .int .i64 0, .int .i64 0, .int .i64 0, .int .i64 0, .int .i64 0, .int .i64 0, .bool false, .bool false] rfl rfl (by decide) (by simp [Value.oneCell']) ?_
       rintro w5 z5 hw5
       rw [lay_all _ _ (by rfl)] at z5))
  exact bodyPost_ret (results_cell rfl rfl (rowLn.load z5 0 (cs := [.int .i64 0, .int .i64 0, .int .i64 0, .int .i64 0, .int .i64 0, .int .i64 0, .int .i64 0, .int .i64 0, .int .i64 0, .int .i64 0, .int .i64 0, .int .i64 0, .bool false, .bool false]) rfl rfl)) rfl ⟨rfl, HB.out.trans (hw5.below (Nat.le_refl _) HB.out.size)⟩
theorem fld0_pd (W : World) : (Instr.field 58 (.agg #[.int .i64 0, .int .i64 0, .int .i64 0, .int .i64 0, .int .i64 0, .int .i64 0, .int .i64 0, .int .i64 0, .int .i64 0, .int .i64 0, .int .i64 0, .int .i64 0, .bool false, .bool false]) 11).run Try.prog W = .ok (.int .i64 0) W := rfl
theorem fld0_dn (W : World) : (Instr.field 58 (.agg #[.int .i64 0, .int .i64 0, .int .i64 0, .int .i64 0, .int .i64 0, .int .i64 0, .int .i64 0, .int .i64 0, .int .i64 0, .int .i64 0, .int .i64 0, .int .i64 0, .bool false, .bool false]) 13).run Try.prog W = .ok (.bool false) W := rfl
theorem o_pending (h : NoV w P) : Calls Try.prog 20 #[.pointer P] w fun e w' => e = .returned (.int .i64 0) ∧ Below w.heap.size w w' := by
  have HL := Lib.hid (o_line h)
  clear h
  go_enter Try.func20, Try.ntmps20
  go_wp2_with fail
  refine HL.out.mono ?_
  rintro en w1 ⟨rfl, hb⟩
  have hf := fld0_pd w1
  go_wp2
  go_ret
  exact ⟨rfl, hb⟩
theorem o_done (h : NoV w P) : Calls Try.prog 21 #[.pointer P] w fun e w' => e = .returned (.bool false) ∧ Below w.heap.size w w' := by
  have HL := Lib.hid (o_line h)
  clear h
  go_enter Try.func21, Try.ntmps21
  go_wp2_with fail
  refine HL.out.mono ?_
  rintro en w1 ⟨rfl, hb⟩
  have hf := fld0_dn w1
  go_wp2
  go_ret
  exact ⟨rfl, hb⟩
set_option maxHeartbeats 4000000 in
theorem o_issue (h : NoV w P) : Calls Try.prog 14 #[.pointer P] w fun en w' => en = .returned (.tuple #[.agg #[.int .i64 zPv.h.kd, .int .i64 zPv.h.fl, .int .i64 zPv.h.pa, .int .i64 zPv.h.sr, .int .i64 zPv.h.ds, .int .i64 zPv.h.cn, .int .i64 zPv.h.sq, .int .i64 zPv.h.pu, .slice zPv.A zPv.n zPv.c], .bool false]) ∧ Below w.heap.size w w' := by
  have hb1 : Below w.heap.size w (w.alloc (.cells #[.int .i64 0, .int .i64 0, .int .i64 0, .int .i64 0, .int .i64 0, .int .i64 0, .int .i64 0, .int .i64 0, .slice none 0 0] 40)) := (Below.refl _ w).alloc (Nat.le_refl _) _
  have HP := Lib.hid (o_pending (h.below hb1))
  have HB := Lib.hid hb1
  have HZ := Lib.hid (Bk.new w 40 [.int .i64 0, .int .i64 0, .int .i64 0, .int .i64 0, .int .i64 0, .int .i64 0, .int .i64 0, .int .i64 0, .slice none 0 0])
  clear h hb1
  go_enter Try.func14, Try.ntmps14
  go_wp2_with fail
  refine HP.out.mono ?_
  rintro en w1 ⟨rfl, hb2⟩
  have z1 := HZ.out.below hb2
  have HB2 := Lib.hid (HB.out.trans (hb2.mono HB.out.size))
  clear hb2 HP HB
  go_wp2_with (first
    | (with_reducible refine at_store 40 (.tmp 2) (.tmp 7) (by rfl) ?_
       refine wpList_put_pk rowP rfl (.tmp 2) (.tmp 7) rfl w.heap.size rfl z1 rfl zPv rfl ?_
       intro w9 z9 hw9))
  exact bodyPost_ret (results_cell_tmp rfl rfl (rowP.load z9 0 (cs := zPv.cl) rfl rfl)) rfl ⟨rfl, HB2.out.trans (hw9.below (Nat.le_refl _) HB2.out.size)⟩
theorem o_kept (h : NoV w P) : Calls Try.prog 23 #[.pointer P] w fun e w' => e = .returned (.slice none 0 0) ∧ Below w.heap.size w w' := by
  have HM := Lib.hid (o_made h)
  clear h
  go_enter Try.func23, Try.ntmps23
  go_wp2_with (go_at_call 33; refine HM.out.mono ?_; rintro e w' ⟨rfl, rfl⟩)
  go_ret
  exact ⟨rfl, Below.refl _ _⟩
theorem o_fork (h : NoV w P) : Calls Try.prog 17 #[.pointer P] w fun e w' => e = .returned (.pointer none) ∧ Below w.heap.size w w' := by
  have HM := Lib.hid (o_made h)
  clear h
  go_enter Try.func17, Try.ntmps17
  go_wp2_with (go_at_call 33; refine HM.out.mono ?_; rintro e w' ⟨rfl, rfl⟩)
  go_ret
  exact ⟨rfl, Below.refl _ _⟩
end
/-! The example by value. -/
def m0 : Rm := Rm.new 8 2 0 1 1 0
def p0 : Pk := ⟨⟨1, 3, 0, 0, 1, 1, 0, 0⟩, [97]⟩
theorem ex_take : (m0.take p0).pd = 1 ∧ (m0.take p0).pl = 0 ∧ (m0.take p0).pa = 2 := by
  refine ⟨?_, ?_, ?_⟩ <;> kernel_rfl
theorem ex_ans : m0.ans p0 = [⟨⟨2, 0, 0, 1, 0, 1, 0, 0⟩, []⟩] := by kernel_rfl
theorem ex_told : m0.told p0 = [[97]] := by kernel_rfl
theorem ex_same : (m0.take p0).take p0 = m0.take p0 ∧ (m0.take p0).ans p0 = [⟨⟨2, 0, 0, 1, 0, 1, 0, 0⟩, []⟩] ∧ (m0.take p0).told p0 = [] := by
  have h1 : p0.tkn = true := by kernel_rfl
  have h2 : ((m0.take p0).dn || (m0.take p0).hs p0) = true := by kernel_rfl
  refine ⟨by unfold Rm.take; rw [if_neg (by rw [h1]; decide)]; rw [if_pos (by exact h2)], by kernel_rfl, by kernel_rfl⟩
end Go.Proofs.Ytmmjhijgedboiaa
