/- Ports, as fabrics use them: bounds on their counts; Serve in one; nobody's. -/
import Derived.Test.YtbhhgfpliggkgaaP13
set_option linter.unusedSimpArgs false
set_option linter.unusedVariables false
namespace Go.Proofs.Ytbhhgfpliggkgaa
open Go.RowKit Go.Shelf
/-- A packet that a call made: it reads, and lies in nobody's blocks. -/
def FreshP (w : World) (p : Pk) (q : Pv) (w' : World) : Prop := q.pk = p ∧ (∀ F : Nat → Prop, (∀ k, F k → k < w.heap.size) → PvR F w' q) ∧ Below w.heap.size w w'
def AM.ok (m : AM) (B : Int) : Prop := ∀ k, 0 ≤ m.ct k ∧ m.ct k ≤ B
theorem ok_up {ct : Nat → Int} {B : Int} (h : ∀ k, 0 ≤ ct k ∧ ct k ≤ B) (k : Nat) : ∀ j, 0 ≤ up ct k (ct k + 1) j ∧ up ct k (ct k + 1) j ≤ B + 1 := fun j => by
  unfold up
  have h1 := h k
  have h2 := h j
  split <;> omega
theorem AM.ok_nx {m : AM} {B : Int} (h : m.ok B) (x : Pk) : (m.nx x).ok (B + 1) := ok_up h _
theorem AM.ok.mono {m : AM} {B C : Int} (h : m.ok B) (hC : B ≤ C) : m.ok C := fun k => by have := h k; omega
theorem AM.ok_srv {m : AM} {B : Int} (h : m.ok B) (f : Int) (hi : Bool) (x : Pk) (r : List Pk) : (m.srv f hi x r).ok (B + 1) := by
  unfold AM.srv
  dsimp only
  have h1 : ∀ k, 0 ≤ up m.ct 0 (m.ct 0 + 1) k ∧ up m.ct 0 (m.ct 0 + 1) k ≤ B + 1 := ok_up h 0
  have h2 : ∀ k, 0 ≤ m.ct k ∧ m.ct k ≤ B + 1 := fun k => by have := h k; omega
  split <;> split
  · exact h1
  · exact h1
  · exact h2
  · exact h2
theorem AM.ok.ct {m : AM} {B : Int} (h : m.ok B) (hB : B ≤ 1000000) : ∀ k, -1 ≤ m.ct k ∧ m.ct k ≤ 1000000 := fun k => by have := h k; omega
theorem AM.ok_new (l h w : Nat) : (AM.new l h w).ok 0 := fun k => ⟨Int.le_refl _, Int.le_refl _⟩
theorem i64_max {x : Int} (h : (Lit.int .i64 x).wf = true) : x ≤ 9223372036854775807 := by
  simp [Lit.wf, IntKind.min, IntKind.max, IntKind.signed, IntKind.bits] at h
  omega
theorem u8_nat {x : Int} (h : (Lit.int .u8 x).wf = true) : ∃ n : Nat, x = n ∧ n < 256 := by
  have := u8_bounds h
  exact ⟨x.toNat, by omega, by omega⟩
/-- What Serve makes of a port: the port, what comes out, the error. -/
def AM.svM (m : AM) (f : Int) : AM := if f < 1 ∨ 4 < f then m else match m.sel m.hiB with
  | [] => m
  | x :: l => m.srv f m.hiB x l
def AM.svL (m : AM) (f : Int) : List Pk := if f < 1 ∨ 4 < f then [] else match m.sel m.hiB with
  | [] => []
  | x :: _ => if f = 1 ∨ f = 4 then [x] else []
def AM.svE (m : AM) (f : Int) : Int := if f < 1 ∨ 4 < f then 80 else match m.sel m.hiB with
  | [] => 7
  | _ :: _ => 0
section
variable {F F' F2 X G : Nat → Prop} {w w' w0 w1 w2 : World} {b b2 gb : Nat} {m : AM} {pl ph : Nat} {Fl Fh : Nat → Prop} {ql qh : List Pv} {r : RV} {P : Option Addr}
theorem pt_serveR (h : PbC F X w b m pl ph Fl Fh ql qh) (hct : ∀ k, -1 ≤ m.ct k ∧ m.ct k ≤ 1000000) (f : Int) :
    Calls Try.prog 35 #[.pointer (some ⟨b, 0, none⟩), .int .i64 f] w (ServeTo F X w b pl ph (m.svM f) (m.svL f) (m.svE f)) := by
  unfold AM.svM AM.svL AM.svE
  by_cases hf : f < 1 ∨ 4 < f
  · simp only [if_pos hf]; exact pt_serve_bad h f hf
  · simp only [if_neg hf]
    cases hx : m.sel m.hiB with
    | nil => exact pt_serve_none h f (by omega) (by omega) hx
    | cons x l => exact pt_serve h hct f (by omega) (by omega) x l hx
theorem AM.svL_len (m : AM) (f : Int) : (m.svL f).length ≤ 1 := by
  unfold AM.svL
  repeat' split
  all_goals simp
/-- A port that keeps within its rooms, called at most B times. -/
structure AMb (m : AM) (L H : Nat) (B : Int) : Prop where
  lr : m.lr = L
  hr : m.hr = H
  lo : m.low.length ≤ L
  hi : m.high.length ≤ H
  ok : m.ok B
theorem AMb.mono {L H : Nat} {B C : Int} (h : AMb m L H B) (hC : B ≤ C) : AMb m L H C := ⟨h.lr, h.hr, h.lo, h.hi, h.ok.mono hC⟩
theorem AMb.new (L H W : Nat) : AMb (AM.new L H W) L H 0 := ⟨rfl, rfl, Nat.zero_le _, Nat.zero_le _, AM.ok_new _ _ _⟩
theorem AMb.sv {L H : Nat} {B : Int} (h : AMb m L H B) (f : Int) : AMb (m.svM f) L H (B + 1) := by
  have hm : AMb m L H (B + 1) := h.mono (by omega)
  unfold AM.svM
  split
  · exact hm
  · split
    · exact hm
    · rename_i x l hx
      have ho := AM.ok_srv h.ok f m.hiB x l
      have h1 := h.lo
      have h2 := h.hi
      generalize m.hiB = hi at *
      refine ⟨?_, ?_, ?_, ?_, ho⟩
      all_goals
        unfold AM.srv AM.took AM.put
        dsimp only
      · split <;> split <;> exact h.lr
      · split <;> split <;> exact h.hr
      · cases hi
        · have : m.low = x :: l := hx
          rw [this] at h1
          simp at h1
          split <;> split <;> simp <;> omega
        · split <;> split <;> simp <;> exact h1
      · cases hi
        · split <;> split <;> simp <;> exact h2
        · have : m.high = x :: l := hx
          rw [this] at h2
          simp at h2
          split <;> split <;> simp <;> omega
theorem AMb.nx {L H : Nat} {B : Int} (h : AMb m L H B) (x : Pk) : AMb (m.nx x) L H (B + 1) := by
  have ho := AM.ok_nx h.ok x
  have h1 := h.lo
  have h2 := h.hi
  have h3 := h.lr
  have h4 := h.hr
  rcases m.vd_cases x with hv | hv | hv | hv
  · have hr := AM.vd_one hv
    refine ⟨?_, ?_, ?_, ?_, ho⟩
    all_goals
      unfold AM.nx AM.base
      rw [if_pos hv]
      generalize x.heavy = b at *
      cases b <;> simp_all [AM.put, AM.sel, AM.room] <;> omega
  · have hr := (AM.vd_two hv).2
    have hn : ¬ m.vd x = 1 := by omega
    refine ⟨?_, ?_, ?_, ?_, ho⟩
    all_goals
      unfold AM.nx AM.base
      rw [if_neg hn, if_pos hv]
      simp_all [AM.put, AM.sel, AM.room] <;> omega
  · refine ⟨?_, ?_, ?_, ?_, ho⟩
    all_goals
      unfold AM.nx AM.base
      rw [if_neg (by omega), if_neg (by omega)]
      assumption
  · refine ⟨?_, ?_, ?_, ?_, ho⟩
    all_goals
      unfold AM.nx AM.base
      rw [if_neg (by omega), if_neg (by omega)]
      assumption
/-- A port that neither New nor Fork made. -/
def NoPt (w : World) (P : Option Addr) : Prop := P = none ∨ ∃ p, P = some ⟨p, 0, none⟩ ∧ Bk w 100 p [.pointer none, .pointer none, .int .i64 0, .int .i64 0, .int .i64 0, .int .i64 0, .int .i64 0, .int .i64 0, .int .i64 0]
theorem NoPt.below {w w' : World} {P : Option Addr} (h : NoPt w P) (hb : Below w.heap.size w w') : NoPt w' P := by
  rcases h with h | ⟨p, h, h'⟩
  · exact .inl h
  · exact .inr ⟨p, h, h'.below hb⟩
theorem n_made (h : NoPt w P) : Calls Try.prog 49 #[.pointer P] w fun e w' => e = .returned (.bool false) ∧ w = w' := by
  rcases h with rfl | ⟨p, rfl, hp⟩
  · go_enter Try.func49, Try.ntmps49
    go_wp2
    go_ret
    exact ⟨rfl, rfl⟩
  · have c2 := hp.cell 2 rfl
    go_enter Try.func49, Try.ntmps49
    go_wp2
    go_ret
    exact ⟨rfl, rfl⟩
theorem n_lens (h : NoPt w P) : Calls Try.prog 38 #[.pointer P] w fun e w' => e = .returned (.tuple #[.int .i64 0, .int .i64 0]) ∧ w = w' := by
  have HM := Lib.hid (n_made h)
  clear h
  go_enter Try.func38, Try.ntmps38
  go_wp2_with (go_at_call 49; refine HM.out.mono ?_; rintro e w' ⟨rfl, rfl⟩)
  go_ret2
  exact ⟨rfl, rfl⟩
theorem n_low (h : NoPt w P) : Calls Try.prog 39 #[.pointer P] w fun e w' => e = .returned (.slice none 0 0) ∧ w = w' := by
  have HM := Lib.hid (n_made h)
  clear h
  go_enter Try.func39, Try.ntmps39
  go_wp2_with (go_at_call 49; refine HM.out.mono ?_; rintro e w' ⟨rfl, rfl⟩)
  go_ret
  exact ⟨rfl, rfl⟩
theorem n_high (h : NoPt w P) : Calls Try.prog 40 #[.pointer P] w fun e w' => e = .returned (.slice none 0 0) ∧ w = w' := by
  have HM := Lib.hid (n_made h)
  clear h
  go_enter Try.func40, Try.ntmps40
  go_wp2_with (go_at_call 49; refine HM.out.mono ?_; rintro e w' ⟨rfl, rfl⟩)
  go_ret
  exact ⟨rfl, rfl⟩
theorem n_fork (h : NoPt w P) : Calls Try.prog 37 #[.pointer P] w fun e w' => e = .returned (.pointer none) ∧ w = w' := by
  have HM := Lib.hid (n_made h)
  clear h
  go_enter Try.func37, Try.ntmps37
  go_wp2_with (go_at_call 49; refine HM.out.mono ?_; rintro e w' ⟨rfl, rfl⟩)
  go_ret
  exact ⟨rfl, rfl⟩
theorem n_put (h : NoPt w P) (q : Pv) : Calls Try.prog 45 #[.pointer P, .agg #[.int .i64 q.h.kd, .int .i64 q.h.fl, .int .i64 q.h.pa, .int .i64 q.h.sr, .int .i64 q.h.ds, .int .i64 q.h.cn, .int .i64 q.h.sq, .int .i64 q.h.pu, .slice q.A q.n q.c]] w fun e w' => e = .returned (.tuple #[.int .i64 4, .agg #[.int .i64 0, .int .i64 0, .int .i64 0, .int .i64 0, .int .i64 0, .int .i64 0, .int .i64 0, .int .i64 0, .slice none 0 0]]) ∧ Below w.heap.size w w' := by
  have HM : Hid (∀ o o', Calls Try.prog 49 #[.pointer P] ((w.alloc o).alloc o') fun e w' => e = .returned (.bool false) ∧ (w.alloc o).alloc o' = w') := Lib.hid fun o o' => n_made (h.below (((Below.refl _ _).alloc (Nat.le_refl _) o).alloc (by simp) o'))
  have hz : Bk ((w.alloc (.cells (List.toArray [.int .i64 q.h.kd, .int .i64 q.h.fl, .int .i64 q.h.pa, .int .i64 q.h.sr, .int .i64 q.h.ds, .int .i64 q.h.cn, .int .i64 q.h.sq, .int .i64 q.h.pu, .slice q.A q.n q.c]) 65)).alloc (.cells (List.toArray [.int .i64 0, .int .i64 0, .int .i64 0, .int .i64 0, .int .i64 0, .int .i64 0, .int .i64 0, .int .i64 0, .slice none 0 0]) 65)) 65 (w.heap.size + 1) [.int .i64 0, .int .i64 0, .int .i64 0, .int .i64 0, .int .i64 0, .int .i64 0, .int .i64 0, .int .i64 0, .slice none 0 0] := by
    have := Bk.new (w.alloc (.cells (List.toArray [.int .i64 q.h.kd, .int .i64 q.h.fl, .int .i64 q.h.pa, .int .i64 q.h.sr, .int .i64 q.h.ds, .int .i64 q.h.cn, .int .i64 q.h.sq, .int .i64 q.h.pu, .slice q.A q.n q.c]) 65)) 65 [.int .i64 0, .int .i64 0, .int .i64 0, .int .i64 0, .int .i64 0, .int .i64 0, .int .i64 0, .int .i64 0, .slice none 0 0]
    simpa using this
  clear h
  go_enter Try.func45, Try.ntmps45
  go_wp2_with (go_at_call 49; refine (HM.out _ _).mono ?_; rintro e w' ⟨rfl, rfl⟩)
  exact bodyPost_ret (results_tmp_cell rfl rfl (load_pk rowP (q := zPv) hz)) rfl ⟨by kernel_rfl, ((Below.refl _ _).alloc (Nat.le_refl _) _).alloc (by simp) _⟩
end
theorem wr_st {g : Nat} {w w' : World} {X : Nat → Prop} (hw : Wr g w w') (hX : X g) : St X w w' := ⟨hw.os, hw.tape, hw.output, hw.size, fun j hj hn => hw.block j hj (by intro e; injection e with e; exact hn (e ▸ hX))⟩
section
variable {P : Program} {w : World} {Q : Exit → Act → World → Prop} {K : Act → World → Prop} {ops : Array Oper} {rest : List Oper} {op : Oper} {a : Act}
theorem opwp_put_pk {e t : TypeId} (R : Row P e 9) (hgd : op.guard = none) (x y : Operand) (ho : op.op = .store e x y) (g : Nat) (hx : a.eval x = .pointer (some ⟨g, 0, none⟩)) {vs : List Value} (h : Bk w t g vs) (hv : vs.length = 9) (q : Pv) (hy : a.eval y = .agg #[.int .i64 q.h.kd, .int .i64 q.h.fl, .int .i64 q.h.pa, .int .i64 q.h.sr, .int .i64 q.h.ds, .int .i64 q.h.cn, .int .i64 q.h.sq, .int .i64 q.h.pu, .slice q.A q.n q.c])
    (hq : ∀ w', Bk w' t g q.cl → Wr g w w' → K (a.put op.dst undef) w') : if Region.wanted op (yielded ops a.tmps) = true then Oper.wp P op a w K Q else K (a.put op.dst undef) w :=
  opwp_store_bk R hgd x y ho g 0 hx h q.cl hy q.cl_len (by rw [hv]; decide) q.cl_one fun w' h' hw => hq w' (by rw [lay_all _ _ (by rw [hv]; rfl)] at h'; exact h') hw
theorem wpList_load_pk_g {e : TypeId} (R : Row P e 9) (hw : Region.wanted op (yielded ops a.tmps) = true) (x : Operand) (ho : op.op = .load e x) (q : Pv) (g o : Nat) (hx : a.eval x = .pointer (some ⟨g, o, none⟩)) (h : w.rangeAt g o q.cl)
    (hq : wpList P ops Q rest (a.put op.dst (.agg #[.int .i64 q.h.kd, .int .i64 q.h.fl, .int .i64 q.h.pa, .int .i64 q.h.sr, .int .i64 q.h.ds, .int .i64 q.h.cn, .int .i64 q.h.sq, .int .i64 q.h.pu, .slice q.A q.n q.c])) w) : wpList P ops Q (op :: rest) a w := by
  obtain ⟨d, h1, h2⟩ := R.ht
  refine wpList_step (fun K hK => ?_)
  rw [if_pos hw]
  exact wp_load_mid e x ho g o hx q.cl d h h1 h2 R.hi (hK _ _ hq)
end
end Go.Proofs.Ytbhhgfpliggkgaa
