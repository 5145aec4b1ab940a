/- Lines compared; ReceiverNobody. -/
import Derived.Test.YtmmjhijgedboiaaE17
set_option linter.unusedSimpArgs false
set_option linter.unusedVariables false
set_option maxRecDepth 100000
namespace Go.Proofs.Ytmmjhijgedboiaa
open Go.RowKit Go.Shelf
/-- A value of a line: an integer, or a bool. -/
def Pln (v : Value) : Prop := (∃ x, v = .int .i64 x) ∨ ∃ b, v = .bool b
theorem eqF (xs : Array Value) (W : World) : ∀ fs : List Field, (∀ f ∈ fs, f.name ≠ "_" ∧ ((f.type = 3 ∧ ∃ x, xs[f.offset]? = some (.int .i64 x)) ∨ (f.type = 4 ∧ ∃ b, xs[f.offset]? = some (.bool b)))) → (Op.eqFields 9999 xs xs fs).run Try.prog W = .ok true W
  | [], _ => by simp [Op.eqFields]
  | f :: fs, h => by
    have ih := eqF xs W fs (fun g hg => h g (List.mem_cons_of_mem _ hg))
    obtain ⟨hn, ht | ht⟩ := h f (by simp)
    · obtain ⟨h1, x, h2⟩ := ht
      have hi : Try.prog.underlying 3 = some (.int .i64) := rfl
      have hag : (isAgg 3).run Try.prog W = .ok false W := by unfold isAgg; rw [Sem.run_bind, run_underlying hi W]; rfl
      have hE : (Op.equalIn 9999 3 (.int .i64 x) (.int .i64 x)).run Try.prog W = .ok (x == x) W := run_equalIn_int W 9998 _ _ _ x x hi
      simp [Op.eqFields, hn, h1, part, Sem.run_bind, hag, h2, hE, ih, Result.andThen_ok]
    · obtain ⟨h1, b, h2⟩ := ht
      have hi : Try.prog.underlying 4 = some .bool := rfl
      have hag : (isAgg 4).run Try.prog W = .ok false W := by unfold isAgg; rw [Sem.run_bind, run_underlying hi W]; rfl
      have hE : (Op.equalIn 9999 4 (.bool b) (.bool b)).run Try.prog W = .ok true W := by cases b <;> kernel_rfl
      simp [Op.eqFields, hn, h1, part, Sem.run_bind, hag, h2, hE, ih, Result.andThen_ok]
theorem line_eq (a0 a1 a2 a3 a4 a5 a6 a7 a8 a9 a10 a11 : Int) (b0 b1 : Bool) (W : World) : (Op.equal 58 (.agg #[.int .i64 a0, .int .i64 a1, .int .i64 a2, .int .i64 a3, .int .i64 a4, .int .i64 a5, .int .i64 a6, .int .i64 a7, .int .i64 a8, .int .i64 a9, .int .i64 a10, .int .i64 a11, .bool b0, .bool b1]) (.agg #[.int .i64 a0, .int .i64 a1, .int .i64 a2, .int .i64 a3, .int .i64 a4, .int .i64 a5, .int .i64 a6, .int .i64 a7, .int .i64 a8, .int .i64 a9, .int .i64 a10, .int .i64 a11, .bool b0, .bool b1])).run Try.prog W = .ok true W := by
  have ht : Try.prog.underlying 58 = some (.struct (Try.prog.fieldsOf 58)) := by kernel_rfl
  have hp : Try.prog.stoodInHeld 58 = false := by kernel_rfl
  have hf : (Try.prog.fieldsOf 58).toList.map (fun f => (f.name, f.type, f.offset)) = [("Src", 3, 0), ("Dst", 3, 1), ("Conn", 3, 2), ("Class", 3, 3), ("Next", 3, 4), ("Low", 3, 5), ("Total", 3, 6), ("Pulled", 3, 7), ("Spent", 3, 8), ("Timed", 3, 9), ("Arrived", 3, 10), ("Pending", 3, 11), ("Closed", 4, 12), ("Done", 4, 13)] := by kernel_rfl
  show (Op.equalIn 10000 58 _ _).run Try.prog W = _
  rw [run_equalIn_struct W 9999 58 _ _ ht hp]
  refine eqF _ W _ fun f hfm => ?_
  have hm := List.mem_map_of_mem (f := fun f : Field => (f.name, f.type, f.offset)) hfm
  rw [hf] at hm
  simp only [List.mem_cons, List.not_mem_nil, or_false, Prod.mk.injEq] at hm
  rcases hm with ⟨h1, h2, h3⟩ | ⟨h1, h2, h3⟩ | ⟨h1, h2, h3⟩ | ⟨h1, h2, h3⟩ | ⟨h1, h2, h3⟩ | ⟨h1, h2, h3⟩ | ⟨h1, h2, h3⟩ | ⟨h1, h2, h3⟩ | ⟨h1, h2, h3⟩ | ⟨h1, h2, h3⟩ | ⟨h1, h2, h3⟩ | ⟨h1, h2, h3⟩ | ⟨h1, h2, h3⟩ | ⟨h1, h2, h3⟩
  all_goals
    refine ⟨by rw [h1]; decide, ?_⟩
    first
      | exact .inl ⟨h2, _, by rw [h3]; rfl⟩
      | exact .inr ⟨h2, _, by rw [h3]; rfl⟩
/-- What the law has in its list of two. -/
theorem law_nobody (q : Pv) (w : World) : Calls Try.prog 5 #[.agg #[.int .i64 q.h.kd, .int .i64 q.h.fl, .int .i64 q.h.pa, .int .i64 q.h.sr, .int .i64 q.h.ds, .int .i64 q.h.cn, .int .i64 q.h.sq, .int .i64 q.h.pu, .slice q.A q.n q.c]] w fun e w' => e = .returned (.bool true) ∧ Below w.heap.size w w' := by
  obtain ⟨W1, hW1⟩ : ∃ W1, W1 = ((w.alloc (.cells #[.int .i64 q.h.kd, .int .i64 q.h.fl, .int .i64 q.h.pa, .int .i64 q.h.sr, .int .i64 q.h.ds, .int .i64 q.h.cn, .int .i64 q.h.sq, .int .i64 q.h.pu, .slice q.A q.n q.c] 40)).alloc (.cells #[.pointer none] 79)).alloc (.cells #[.pointer none, .pointer (some ⟨w.heap.size + 1, 0, none⟩)] 25) := ⟨_, rfl⟩
  have hb1 : Below w.heap.size w W1 := by rw [hW1]; exact (((Below.refl _ w).alloc (Nat.le_refl _) _).alloc (by simp) _).alloc (by simp; omega) _
  have z0 : Bk W1 40 w.heap.size q.cl := by rw [hW1]; exact ((Bk.new w 40 q.cl).alloc _).alloc _
  have z1 : Bk W1 79 (w.heap.size + 1) [.pointer none] := by
    have := (Bk.new (w.alloc (.cells #[.int .i64 q.h.kd, .int .i64 q.h.fl, .int .i64 q.h.pa, .int .i64 q.h.sr, .int .i64 q.h.ds, .int .i64 q.h.cn, .int .i64 q.h.sq, .int .i64 q.h.pu, .slice q.A q.n q.c] 40)) 79 [.pointer none]).alloc (.cells #[.pointer none, .pointer (some ⟨w.heap.size + 1, 0, none⟩)] 25)
    rw [World.size_alloc] at this
    rw [hW1]; exact this
  have z2 : Bk W1 25 (w.heap.size + 2) [.pointer none, .pointer (some ⟨w.heap.size + 1, 0, none⟩)] := by
    have := Bk.new ((w.alloc (.cells #[.int .i64 q.h.kd, .int .i64 q.h.fl, .int .i64 q.h.pa, .int .i64 q.h.sr, .int .i64 q.h.ds, .int .i64 q.h.cn, .int .i64 q.h.sq, .int .i64 q.h.pu, .slice q.A q.n q.c] 40)).alloc (.cells #[.pointer none] 79)) 25 [.pointer none, .pointer (some ⟨w.heap.size + 1, 0, none⟩)]
    simp only [World.size_alloc] at this
    rw [hW1]; exact this
  go_enter Try.func5, Try.ntmps5
  go_wp2_with fail
  rw [← hW1]
  clear hW1
  go_loopw [5, 6, 7, 8, 9, 15] (fun _ _ _ _ _ i wr => ∃ k : Nat, k ≤ 2 ∧ i = .int .i64 k ∧ Below W1.heap.size W1 wr) (fun _ _ _ _ _ i _ => 2 - (intOf i).toNat)
  case atStart => exact ⟨0, by decide, rfl, Below.refl _ _⟩
  case round =>
    obtain ⟨k, hk, rfl, hb⟩ := hrel
    by_cases hlt : k < 2
    · have hno : ∃ P, NoV wr P ∧ wr.cell? ⟨w.heap.size + 2, k, none⟩ = some (.pointer P) := by
        rcases (by omega : k = 0 ∨ k = 1) with rfl | rfl
        · exact ⟨none, .inl rfl, (z2.below hb).cell 0 rfl⟩
        · exact ⟨_, .inr ⟨_, rfl, z1.below hb⟩, (z2.below hb).cell 1 rfl⟩
      obtain ⟨P, hP, cP⟩ := hno
      have HP := Lib.hid hP
      have zq := z0.below hb
      have HBW := Lib.hid hb
      clear hP hb
      go_wp2_with (first
        | (with_reducible refine at_load 40 (.tmp 1) (by rfl) ?_
           refine wpList_load_pk rowP rfl (.tmp 1) rfl q w.heap.size 0 rfl (Bk.pk zq) ?_))
      refine (o_take HP.out q).mono ?_
      rintro en w2 ⟨rfl, hb2⟩
      have HP2 := Lib.hid (HP.out.below hb2)
      have HB2 := Lib.hid (HBW.out.trans (hb2.mono HBW.out.size))
      clear hb2 cP zq
      go_wp2_with fail
      refine (o_issue HP2.out).mono ?_
      rintro en w3 ⟨rfl, hb3⟩
      have hb4 : Below w3.heap.size w3 (w3.alloc (.cells #[.int .i64 zPv.h.kd, .int .i64 zPv.h.fl, .int .i64 zPv.h.pa, .int .i64 zPv.h.sr, .int .i64 zPv.h.ds, .int .i64 zPv.h.cn, .int .i64 zPv.h.sq, .int .i64 zPv.h.pu, .slice zPv.A zPv.n zPv.c] 40)) := ext1 _ _
      have HP4 := Lib.hid ((HP2.out.below hb3).below hb4)
      have HB4 := Lib.hid ((HB2.out.trans (hb3.mono HB2.out.size)).trans (hb4.mono (Nat.le_trans HB2.out.size hb3.size)))
      clear hb3 hb4
      go_wp2_with fail
      refine (o_pending HP4.out).mono ?_
      rintro en w5 ⟨rfl, hb5⟩
      have HP5 := Lib.hid (HP4.out.below hb5)
      have HB5 := Lib.hid (HB4.out.trans (hb5.mono HB4.out.size))
      clear hb5
      go_wp2_with fail
      refine (o_kept HP5.out).mono ?_
      rintro en w6 ⟨rfl, hb6⟩
      have HP6 := Lib.hid (HP5.out.below hb6)
      have HB6 := Lib.hid (HB5.out.trans (hb6.mono HB5.out.size))
      clear hb6
      go_wp2_with fail
      refine (o_done HP6.out).mono ?_
      rintro en w7 ⟨rfl, hb7⟩
      have HP7 := Lib.hid (HP6.out.below hb7)
      have HB7 := Lib.hid (HB6.out.trans (hb7.mono HB6.out.size))
      clear hb7
      go_wp2_with fail
      refine (o_line HP7.out).mono ?_
      rintro en w8 ⟨rfl, hb8⟩
      have HP8 := Lib.hid (HP7.out.below hb8)
      have HB8 := Lib.hid (HB7.out.trans (hb8.mono HB7.out.size))
      have hle := line_eq 0 0 0 0 0 0 0 0 0 0 0 0 false false w8
      clear hb8
      go_wp2_with fail
      refine (o_fork HP8.out).mono ?_
      rintro en w9 ⟨rfl, hb9⟩
      have HB9 := Lib.hid (HB8.out.trans (hb9.mono HB8.out.size))
      clear hb9 hle
      go_wp2
      go_roundw
      case rel => exact ⟨k + 1, by omega, by go_num, HB9.out⟩
      case measure => simp [intOf]; omega
    · obtain rfl : k = 2 := by omega
      go_wp2_with fail
      refine (awake_any wr).mono ?_
      rintro en w2 ⟨rfl, hb2⟩
      have HB2 := Lib.hid ((hb1.trans (hb.mono hb1.size)).trans (hb2.mono (Nat.le_trans hb1.size hb.size)))
      clear hb2 hb
      go_wp2
      go_ret
      exact ⟨rfl, HB2.out⟩
end Go.Proofs.Ytmmjhijgedboiaa
