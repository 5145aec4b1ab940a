/- The law of nobody's fabrics. -/
import Derived.Test.YtbhhgfpliggkgaaF12
set_option linter.unusedSimpArgs false
set_option linter.unusedVariables false
set_option maxRecDepth 100000
namespace Go.Proofs.Ytbhhgfpliggkgaa
open Go.RowKit Go.Shelf
theorem nobody_low (p q : Int) : FM.nobody.lows p q = [] ∧ FM.nobody.highs p q = [] := by
  unfold FM.lows FM.highs FM.port FM.nobody
  constructor <;> (split <;> rename_i h <;> first | rfl | (split at h <;> cases h))
theorem nobody_busy : FM.nobody.busy = [] := by decide +kernel
theorem nobody_total : FM.nobody.total = 0 := by decide +kernel
section
variable {F X F1 X1 G : Nat → Prop} {w w' w1 W W' : World} {pp : Nat → Nat} {FF : Nat → Nat → Prop} {P : Option Addr}
theorem n_Packets (h : FbP F X w P FM.nobody pp FF) (p q : Int) :
    Calls Try.prog 19 #[.pointer P, .int .i64 p, .int .i64 q] w fun e w' => ∃ A c, e = .returned (.slice A 0 c) ∧ Below w.heap.size w w' := by
  refine (f_Packets h p q).mono ?_
  rintro e w' ⟨A, n, c, rs, rfl, hn, hk, -, -, hb⟩
  rw [(nobody_low p q).1, (nobody_low p q).2] at hk
  have : rs = [] := List.map_eq_nil_iff.1 hk
  subst this
  obtain rfl : n = 0 := hn
  exact ⟨A, c, rfl, hb⟩
theorem n_Put {A : Option Addr} {n d : Nat} (h : FbP F X w P FM.nobody pp FF) :
    Calls Try.prog 11 #[.pointer P, .slice A n d] w fun e w' => e = .returned (.agg #[.int .i64 0, .int .i64 0, .int .i64 0, .int .i64 0, .int .i64 0]) ∧ Below w.heap.size w w' := f_Put_none (v := .bool true) h
theorem n_Counts (h : FbP F X w P FM.nobody pp FF) :
    Calls Try.prog 23 #[.pointer P] w fun e w' => e = .returned (.agg #[.int .i64 0, .int .i64 0, .int .i64 0, .int .i64 0, .int .i64 0]) ∧ Below w.heap.size w w' := f_Counts h
theorem n_Lens (h : FbP F X w P FM.nobody pp FF) (p q : Int) :
    Calls Try.prog 16 #[.pointer P, .int .i64 p, .int .i64 q] w fun e w' => e = .returned (.tuple #[.int .i64 0, .int .i64 0]) ∧ Below w.heap.size w w' := by
  have := f_lens h p q
  rw [(nobody_low p q).1, (nobody_low p q).2] at this
  exact this
theorem n_Total (h : FbP F X w P FM.nobody pp FF) :
    Calls Try.prog 21 #[.pointer P] w fun e w' => e = .returned (.int .i64 0) ∧ Below w.heap.size w w' := by
  have := f_Total h
  rw [nobody_total] at this
  exact this
theorem n_busy (h : FbP F X w P FM.nobody pp FF) :
    Calls Try.prog 25 #[.pointer P, .int .i64 3] w fun e w' => ∃ A c, e = .returned (.slice A 0 c) ∧ Below w.heap.size w w' := by
  refine (l_busy h 3 (by decide)).mono ?_
  rintro e w' ⟨A, n, c, rfl, hl, hb⟩
  have := hl.1
  rw [nobody_busy] at this
  obtain rfl : n = 0 := this.symm
  exact ⟨A, c, rfl, hb⟩
end
/-- What stands between two rounds. -/
structure NbI (w : World) (q : Pv) (F : Nat → Prop) (pp : Nat → Nat) (FF : Nat → Nat → Prop) (wr : World) : Prop where
  bx : Bk wr 65 w.heap.size q.cl
  fb : FbC F (fun _ => False) wr (w.heap.size + 1) FM.nobody pp FF
  sl : Bk wr 23 (w.heap.size + 2) [.pointer none, .pointer (some ⟨w.heap.size + 1, 0, none⟩)]
  bl : Below w.heap.size w wr
theorem NbI.below {w wr wr' : World} {q : Pv} {F : Nat → Prop} {pp : Nat → Nat} {FF : Nat → Nat → Prop} (h : NbI w q F pp FF wr) (hb : Below wr.heap.size wr wr') : NbI w q F pp FF wr' :=
  ⟨h.bx.below hb, h.fb.below hb, h.sl.below hb, below_on h.bl hb⟩
theorem zero5 : (tabV 5 fun _ => 0).toArray = #[.int .i64 0, .int .i64 0, .int .i64 0, .int .i64 0, .int .i64 0] := rfl
set_option maxHeartbeats 8000000 in
theorem lawNobody (q : Pv) (path : Int) (w : World) :
    Calls Try.prog 5 #[.agg #[.int .i64 q.h.kd, .int .i64 q.h.fl, .int .i64 q.h.pa, .int .i64 q.h.sr, .int .i64 q.h.ds, .int .i64 q.h.cn, .int .i64 q.h.sq, .int .i64 q.h.pu, .slice q.A q.n q.c], .int .i64 path] w fun e w' => e = .returned (.bool true) ∧ Below w.heap.size w w' := by
  have hbx := Bk.new w 65 [.int .i64 q.h.kd, .int .i64 q.h.fl, .int .i64 q.h.pa, .int .i64 q.h.sr, .int .i64 q.h.ds, .int .i64 q.h.cn, .int .i64 q.h.sq, .int .i64 q.h.pu, .slice q.A q.n q.c]
  have hz0 := zero_fb (w.alloc (.cells (List.toArray [.int .i64 q.h.kd, .int .i64 q.h.fl, .int .i64 q.h.pa, .int .i64 q.h.sr, .int .i64 q.h.ds, .int .i64 q.h.cn, .int .i64 q.h.sq, .int .i64 q.h.pu, .slice q.A q.n q.c]) 65))
  rw [zero_mem] at hz0
  have hba := (Below.refl w.heap.size w).alloc (Nat.le_refl _) (.cells (List.toArray [.int .i64 q.h.kd, .int .i64 q.h.fl, .int .i64 q.h.pa, .int .i64 q.h.sr, .int .i64 q.h.ds, .int .i64 q.h.cn, .int .i64 q.h.sq, .int .i64 q.h.pu, .slice q.A q.n q.c]) 65)
  obtain ⟨F, pp, FF, hz, hF, hbz⟩ := hz0
  have H0 := Lib.hid (And.intro hbx (And.intro hba (And.intro hz hbz)))
  clear hbx hba hz hbz hF
  go_enter Try.func5, Try.ntmps5
  go_wp2_with fail
  go_loopw [17] (fun v wr => ∃ i : Nat, v = .int .i64 i ∧ i ≤ 2 ∧ NbI w q F pp FF wr) (fun v _ => 2 - (intOf v).toNat)
  case atStart =>
    obtain ⟨hbx, hba, hz, hbz⟩ := H0.out
    simp only [World.size_alloc] at hz
    have hb3 : ∀ (W : World) (o : Obj), Below W.heap.size W (W.alloc o) := fun W o => (Below.refl _ _).alloc (Nat.le_refl _) o
    refine ⟨0, rfl, by decide, (hbx.below hbz).alloc _, hz.below (hb3 _ _), ?_, (below_on hba hbz).alloc (below_on hba hbz).size _⟩
    have := Bk.new ((w.alloc (.cells (List.toArray [.int .i64 q.h.kd, .int .i64 q.h.fl, .int .i64 q.h.pa, .int .i64 q.h.sr, .int .i64 q.h.ds, .int .i64 q.h.cn, .int .i64 q.h.sq, .int .i64 q.h.pu, .slice q.A q.n q.c]) 65)).alloc (.cells (List.replicate 64 (Value.pointer none) ++ List.replicate 5 (Value.int .i64 0)).toArray 70)) 23 [.pointer none, .pointer (some ⟨w.heap.size + 1, 0, none⟩)]
    simp only [World.size_alloc] at this
    exact this
  case round =>
    obtain ⟨i, rfl, hi, hI⟩ := hrel
    by_cases hlt : i < 2
    · obtain ⟨P, hcell, HNo⟩ : ∃ P : Option Addr, wr.cell? ⟨w.heap.size + 2, i, none⟩ = some (.pointer P) ∧ Hid (∀ W, Below wr.heap.size wr W → FbP F (fun _ => False) W P FM.nobody pp FF) := by
        rcases (by omega : i = 0 ∨ i = 1) with rfl | rfl
        · exact ⟨none, hI.sl.cell 0 rfl, Lib.hid fun W hW => .inl ⟨rfl, rfl⟩⟩
        · exact ⟨some ⟨w.heap.size + 1, 0, none⟩, hI.sl.cell 1 rfl, Lib.hid fun W hW => (hI.fb.below hW).fp⟩
      have hlt' : (i : Int) < 2 := by omega
      have HI := Lib.hid hI
      have HBX := Lib.hid hI.bx
      have hcur : Below wr.heap.size wr wr := Below.refl _ _
      have hi4 : (i : Int) < 4 := by omega
      clear hI
      go_wp2_with (first
        | (go_at_call 13; refine (f_Serve_none (HNo.out _ hcur) _ _ _).mono ?_; rintro e w1 ⟨rfl, hb⟩; replace hcur := below_on hcur hb; clear hb)
        | (go_at_call 16; refine (n_Lens (HNo.out _ hcur) _ _).mono ?_; rintro e w2 ⟨rfl, hb⟩; replace hcur := below_on hcur hb; clear hb)
        | (with_reducible refine at_load 65 (.tmp 2) (by rfl) ?_; refine wpList_load_pk rowP rfl (.tmp 2) rfl q w.heap.size 0 rfl (Bk.pk (q := q) (HBX.out.below hcur)) ?_)
        | (refine wpList_build_row eltP rfl (.tmp 34) rfl (xs := q.cl) rfl rfl ?_)
        | (go_at_call 11; replace hcur := hcur.alloc hcur.size (.cells q.cl.toArray 65); refine (n_Put (HNo.out _ hcur)).mono ?_; rintro e w3 ⟨rfl, hb⟩; replace hcur := below_on hcur hb; clear hb)
        | (with_reducible refine at_bin .neq 28 28 (.tmp 36) (.tmp 37) (by rfl) ?_; refine wpList_exec rfl (exec_cmp_agg rfl (by kernel_rfl) rfl rfl (ne5 [0, 0, 0, 0, 0] [0, 0, 0, 0, 0] rfl rfl _)) ?_)
        | (go_at_call 19; refine (n_Packets (HNo.out _ hcur) _ _).mono ?_; rintro e w4 ⟨A4, c4, rfl, hb⟩; replace hcur := below_on hcur hb; clear hb)
        | (go_at_call 25; refine (n_busy (HNo.out _ hcur)).mono ?_; rintro e w5 ⟨A5, c5, rfl, hb⟩; replace hcur := below_on hcur hb; clear hb)
        | (go_at_call 21; refine (n_Total (HNo.out _ hcur)).mono ?_; rintro e w6 ⟨rfl, hb⟩; replace hcur := below_on hcur hb; clear hb)
        | (go_at_call 23; refine (n_Counts (HNo.out _ hcur)).mono ?_; rintro e w7 ⟨rfl, hb⟩; replace hcur := below_on hcur hb; clear hb)
        | (with_reducible refine at_bin .neq 28 28 (.tmp 68) (.tmp 69) (by rfl) ?_; refine wpList_exec rfl (exec_cmp_agg rfl (by kernel_rfl) rfl rfl (ne5 [0, 0, 0, 0, 0] [0, 0, 0, 0, 0] rfl rfl _)) ?_)
        | (go_at_call 15; refine (f_Fork_none (HNo.out _ hcur)).mono ?_; rintro e w8 ⟨rfl, rfl⟩))
      go_roundw
      case rel => exact ⟨i + 1, by go_num, by omega, HI.out.below hcur⟩
      case measure => simp [intOf]; omega
    · obtain rfl : i = 2 := by omega
      have HB := Lib.hid hI.bl
      clear hI H0 hi hlt
      go_wp2_with (go_at_call 8; refine (p_awake _).mono ?_; rintro e w9 ⟨rfl, hb9⟩)
      go_ret
      exact ⟨rfl, below_on HB.out hb9⟩
end Go.Proofs.Ytbhhgfpliggkgaa
