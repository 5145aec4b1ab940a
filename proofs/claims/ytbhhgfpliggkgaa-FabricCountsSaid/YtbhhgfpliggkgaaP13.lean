/- The reference: ports by value; which packet is next; rows compared. -/
import Derived.Test.YtbhhgfpliggkgaaP12
set_option linter.unusedSimpArgs false
set_option linter.unusedVariables false
set_option maxRecDepth 100000
namespace Go.Proofs.Ytbhhgfpliggkgaa
open Go.RowKit Go.Shelf

/-- A slice of packets that reads, off F. -/
def SlP (F : Nat → Prop) (w : World) (A : Option Addr) (n c : Nat) (ks : List Pk) : Prop :=
  ∃ qs : List Pv, n = qs.length ∧ RdR 9 w A n c (flat Pv.cl qs) ∧ qs.map Pv.pk = ks ∧ (∀ q ∈ qs, PvR F w q) ∧ (0 < n → ∀ ad, A = some ad → ¬ F ad.block)
section
variable {F F' : Nat → Prop} {w w' : World} {A : Option Addr} {n c : Nat} {ks : List Pk}
theorem SlP.st (h : SlP F w A n c ks) (hs : St F w w') (hg : Gr F F' w.heap.size) : SlP F' w' A n c ks := by
  obtain ⟨qs, h1, h2, h3, h4, h5⟩ := h
  exact ⟨qs, h1, h2.st hs h5, h3, fun q hq => (h4 q hq).st hs hg, fun hn ad he => hg.not (h2.blk hn ad he) (h5 hn ad he)⟩
theorem SlP.below (h : SlP F w A n c ks) (hb : Below w.heap.size w w') : SlP F w' A n c ks := by
  obtain ⟨qs, h1, h2, h3, h4, h5⟩ := h
  exact ⟨qs, h1, h2.below hb, h3, fun q hq => (h4 q hq).below hb, h5⟩
theorem SlP.len (h : SlP F w A n c ks) : ks.length = n := by
  obtain ⟨qs, h1, h2, h3, h4, h5⟩ := h
  rw [← h3, List.length_map, h1]
theorem SlP.nil (F : Nat → Prop) (w : World) : SlP F w none 0 0 [] := ⟨[], rfl, RdR.nil _ _, rfl, by simp, fun h => absurd h (by omega)⟩
theorem SlP.cut (h : SlP F w A n c ks) (hn : 1 ≤ n) : SlP F w (cutR A c 1 9) (n - 1) (c - 1) ks.tail := by
  obtain ⟨qs, h1, h2, h3, h4, h5⟩ := h
  refine ⟨qs.drop 1, by rw [List.length_drop, h1], ?_, by rw [List.map_drop, h3, List.drop_one], fun q hq => h4 q (List.mem_of_mem_drop hq), ?_⟩
  · rw [flat_drop Pv.cl_len qs 1 (by omega)]; exact h2.cut hn
  · intro hp ad he
    unfold cutR at he
    rw [if_neg (by have := h2.2.1; omega)] at he
    cases hA : A with
    | none => rw [hA] at he; simp at he
    | some a =>
      rw [hA] at he
      simp at he
      have := h5 (by omega) a hA
      subst he
      unfold Addr.add
      split <;> exact this
/-- The first packet. -/
theorem SlP.head (h : SlP F w A n c ks) (hn : 0 < n) : ∃ g o q, A = some ⟨g, o, none⟩ ∧ w.rangeAt g o q.cl ∧ PvR F w q ∧ q.pk = ks.headD Pk.zero ∧ g < w.heap.size := by
  obtain ⟨qs, h1, h2, h3, h4, h5⟩ := h
  obtain ⟨g, o, hA, hg, hra⟩ := h2.range hn
  cases qs with
  | nil => simp at h1; omega
  | cons q qs =>
    have hrow := flat_row Pv.cl_len (q :: qs) 0 (by simp)
    simp only [Nat.zero_mul, Nat.add_zero, List.drop_zero, List.getElem_cons_zero] at hrow hra
    rw [hrow] at hra
    exact ⟨g, o, q, hA, hra, h4 q List.mem_cons_self, by rw [← h3]; rfl, hg⟩
/-- Row i of two of them. -/
theorem SlP.row (h : SlP F w A n c ks) {i : Nat} (hi : i < n) : ∃ g o q, A = some ⟨g, o, none⟩ ∧ w.rangeAt g (o + i * 9) q.cl ∧ PvR F w q ∧ some q.pk = ks[i]? ∧ g < w.heap.size := by
  obtain ⟨qs, h1, h2, h3, h4, h5⟩ := h
  obtain ⟨g, o, hA, hg, hra⟩ := h2.range hi
  have hl : i < qs.length := by omega
  rw [flat_row Pv.cl_len qs i hl] at hra
  exact ⟨g, o, qs[i], hA, hra, h4 _ (List.getElem_mem _), by rw [← h3, List.getElem?_map, List.getElem?_eq_getElem hl]; rfl, hg⟩
/-- Many of them are a row of its own, or are made. -/
theorem MadeA.sl {Y : Nat → Prop} {e : Ending} (h : MadeA Y w ks e w') (hY : ∀ k, Y k → k < w.heap.size) : ∃ A n c, e = .returned (.slice A n c) ∧ SlP Y w' A n c ks ∧ Below w.heap.size w w' := by
  obtain ⟨A, n, c, rs, h1, h2, h3, h4, h5, h6⟩ := h
  exact ⟨A, n, c, h1, ⟨rs, h2, h4.rd, h3, h5, fun hn ad he hy => by have := (h4.blk ad he).1; have := hY _ hy; omega⟩, h6⟩
end
/-- A port by value: its two slices. -/
structure RV where
  a1 : Option Addr
  n1 : Nat
  c1 : Nat
  a2 : Option Addr
  n2 : Nat
  c2 : Nat
structure RpR (F : Nat → Prop) (w : World) (r : RV) (m : AM) : Prop where
  lo : SlP F w r.a1 r.n1 r.c1 m.low
  hi : SlP F w r.a2 r.n2 r.c2 m.high
theorem RpR.st {F F' : Nat → Prop} {w w' : World} {r : RV} {m : AM} (h : RpR F w r m) (hs : St F w w') (hg : Gr F F' w.heap.size) : RpR F' w' r m := ⟨h.lo.st hs hg, h.hi.st hs hg⟩
theorem RpR.below {F : Nat → Prop} {w w' : World} {r : RV} {m : AM} (h : RpR F w r m) (hb : Below w.heap.size w w') : RpR F w' r m := ⟨h.lo.below hb, h.hi.below hb⟩
theorem rowR : Row Try.prog 76 11 := ⟨⟨_, rfl, rfl⟩, by kernel_rfl⟩
section
variable {F : Nat → Prop} {w : World} {r : RV} {m : AM}
theorem r_new (low high wt : Int) (w : World) (h1 : fitB low = true) (h2 : fitB high = true) (h3 : fitB wt = true) :
    Calls Try.prog 27 #[.int .i64 low, .int .i64 high, .int .i64 wt] w fun e w' => e = .returned (.tuple #[.agg #[.slice none 0 0, .slice none 0 0, .int .i64 low, .int .i64 high, .int .i64 wt, .int .i64 0, .int .i64 0, .int .i64 0, .int .i64 0, .int .i64 0, .int .i64 0], .int .i64 0]) ∧ Below w.heap.size w w' := by
  simp only [fitB, decide_eq_true_eq] at h1 h2 h3
  obtain ⟨h1, h1'⟩ := h1
  obtain ⟨h2, h2'⟩ := h2
  obtain ⟨h3, h3'⟩ := h3
  go_enter Try.func27, Try.ntmps27
  go_wp2
  exact bodyPost_ret (results_cell_tmp rfl rfl (rowR.load (Bk.new w 76 [.slice none 0 0, .slice none 0 0, .int .i64 low, .int .i64 high, .int .i64 wt, .int .i64 0, .int .i64 0, .int .i64 0, .int .i64 0, .int .i64 0, .int .i64 0]) 0 rfl rfl)) rfl ⟨rfl, (Below.refl _ _).alloc (Nat.le_refl _) _⟩
theorem r_new_bad (low high wt : Int) (w : World) (h : fitB low = false ∨ fitB high = false ∨ fitB wt = false) :
    Calls Try.prog 27 #[.int .i64 low, .int .i64 high, .int .i64 wt] w fun e w' => e = .returned (.tuple #[.agg #[.slice none 0 0, .slice none 0 0, .int .i64 0, .int .i64 0, .int .i64 0, .int .i64 0, .int .i64 0, .int .i64 0, .int .i64 0, .int .i64 0, .int .i64 0], .int .i64 80]) ∧ Below w.heap.size w w' := by
  simp only [fitB, decide_eq_false_iff_not] at h
  rcases (by omega : low < 1 ∨ (1 ≤ low ∧ 1024 < low) ∨ (1 ≤ low ∧ low ≤ 1024 ∧ high < 1) ∨ (1 ≤ low ∧ low ≤ 1024 ∧ 1 ≤ high ∧ 1024 < high) ∨ (1 ≤ low ∧ low ≤ 1024 ∧ 1 ≤ high ∧ high ≤ 1024 ∧ wt < 1) ∨ (1 ≤ low ∧ low ≤ 1024 ∧ 1 ≤ high ∧ high ≤ 1024 ∧ 1 ≤ wt ∧ 1024 < wt)) with h1 | ⟨h1, h2⟩ | ⟨h1, h2, h3⟩ | ⟨h1, h2, h3, h4⟩ | ⟨h1, h2, h3, h4, h5⟩ | ⟨h1, h2, h3, h4, h5, h6⟩
  all_goals
    clear h
    go_enter Try.func27, Try.ntmps27
    go_wp2
    exact bodyPost_ret (results_cell_tmp rfl rfl (rowR.load (Bk.new w 76 [.slice none 0 0, .slice none 0 0, .int .i64 0, .int .i64 0, .int .i64 0, .int .i64 0, .int .i64 0, .int .i64 0, .int .i64 0, .int .i64 0, .int .i64 0]) 0 (cs := [.slice none 0 0, .slice none 0 0, .int .i64 0, .int .i64 0, .int .i64 0, .int .i64 0, .int .i64 0, .int .i64 0, .int .i64 0, .int .i64 0, .int .i64 0]) rfl rfl)) rfl ⟨by kernel_rfl, (Below.refl _ _).alloc (Nat.le_refl _) _⟩
theorem r_high (h : RpR F w r m) :
    Calls Try.prog 47 #[.agg #[.slice r.a1 r.n1 r.c1, .slice r.a2 r.n2 r.c2, .int .i64 m.lr, .int .i64 m.hr, .int .i64 m.wt, .int .i64 m.run, .int .i64 (m.ct 0), .int .i64 (m.ct 1), .int .i64 (m.ct 2), .int .i64 (m.ct 3), .int .i64 (m.ct 4)]] w fun e w' => e = .returned (.bool m.hiB) ∧ Below w.heap.size w w' := by
  have h1 := h.lo.len
  have h2 := h.hi.len
  have HB : Hid (m.hiB = (decide ((0 : Int) < r.n2) && (((r.n1 : Int) == 0) || decide ((m.run : Int) < m.wt)))) := Lib.hid (by
    unfold AM.hiB; rw [h1, h2]
    have e1 : ((r.n1 : Int) == 0) = (r.n1 == 0) := by cases hn : r.n1 == 0 <;> simp_all <;> omega
    rw [e1]; simp)
  clear h h1 h2
  by_cases c1 : 0 < r.n2
  · by_cases c2 : r.n1 = 0
    · have c2' : ((r.n1 : Int) == 0) = true := by simp [c2]
      go_enter Try.func47, Try.ntmps47
      go_wp2
      go_ret
      exact ⟨by rw [HB.out, c2']; simp [c1], (Below.refl _ _).alloc (Nat.le_refl _) _⟩
    · have c2' : ((r.n1 : Int) == 0) = false := by simp; omega
      go_enter Try.func47, Try.ntmps47
      go_wp2
      go_ret
      exact ⟨by rw [HB.out, c2']; simp [c1], (Below.refl _ _).alloc (Nat.le_refl _) _⟩
  · go_enter Try.func47, Try.ntmps47
    go_wp2
    go_ret
    exact ⟨by rw [HB.out]; simp [c1], (Below.refl _ _).alloc (Nat.le_refl _) _⟩
/-- A row longer by one. -/
theorem r_with {A : Option Addr} {n c : Nat} {ks : List Pk} {q : Pv} (h : SlP F w A n c ks) (hq : PvR F w q) (hF : ∀ k, F k → k < w.heap.size) (hn : n ≤ 2000) :
    Calls Try.prog 48 #[.slice A n c, .agg #[.int .i64 q.h.kd, .int .i64 q.h.fl, .int .i64 q.h.pa, .int .i64 q.h.sr, .int .i64 q.h.ds, .int .i64 q.h.cn, .int .i64 q.h.sq, .int .i64 q.h.pu, .slice q.A q.n q.c]] w fun e w' => ∃ A' n' c', e = .returned (.slice A' n' c') ∧ SlP F w' A' n' c' (ks ++ [q.pk]) ∧ Below w.heap.size w w' := by
  obtain ⟨qs, h1, h2, h3, h4, h5⟩ := h
  have hz := Bk.new w 65 [.int .i64 q.h.kd, .int .i64 q.h.fl, .int .i64 q.h.pa, .int .i64 q.h.sr, .int .i64 q.h.ds, .int .i64 q.h.cn, .int .i64 q.h.sq, .int .i64 q.h.pu, .slice q.A q.n q.c]
  have hlm : LstR 9 65 (w.heap.size ≤ ·) ((w.alloc (.cells (List.toArray [.int .i64 q.h.kd, .int .i64 q.h.fl, .int .i64 q.h.pa, .int .i64 q.h.sr, .int .i64 q.h.ds, .int .i64 q.h.cn, .int .i64 q.h.sq, .int .i64 q.h.pu, .slice q.A q.n q.c]) 65)).alloc (.cells #[] 65)) (some ⟨w.heap.size + 1, 0, none⟩) 0 0 [] := by
    have := (LstR.made 9 (w.alloc (.cells (List.toArray [.int .i64 q.h.kd, .int .i64 q.h.fl, .int .i64 q.h.pa, .int .i64 q.h.sr, .int .i64 q.h.ds, .int .i64 q.h.cn, .int .i64 q.h.sq, .int .i64 q.h.pu, .slice q.A q.n q.c]) 65)) 65 #[] 0 0 [] rfl (Nat.le_refl _) (by simp) (Nat.zero_le _) (by simp) (by simp)).mono (F' := (w.heap.size ≤ ·)) (fun k hk => by simp at hk; omega)
    simpa using this
  have hr := (h2.alloc (.cells (List.toArray [.int .i64 q.h.kd, .int .i64 q.h.fl, .int .i64 q.h.pa, .int .i64 q.h.sr, .int .i64 q.h.ds, .int .i64 q.h.cn, .int .i64 q.h.sq, .int .i64 q.h.pu, .slice q.A q.n q.c]) 65)).alloc (.cells #[] 65)
  have H1 := Lib.hid h1
  have H3 := Lib.hid h3
  have H4 := Lib.hid h4
  have HQ := Lib.hid hq
  have HF := Lib.hid hF
  clear h1 h3 h4 hq hF h5 h2
  go_enter Try.func48, Try.ntmps48
  go_wp2_with (first
    | (at_builtin
       refine wpList_append_lstR eltP rfl (.tmp 6) (.tmp 7) rfl rfl hlm.tight rfl hr (by omega) ?_
       rintro v w1 ⟨⟨A1, n1, c1, rfl, hl1⟩, hst1⟩
       rw [List.nil_append] at hl1
       have hnb : ¬ BlkOf (some ⟨w.heap.size + 1, 0, none⟩) w.heap.size := by rintro ⟨ad, he, hk⟩; injection he with he; subst he; simp at hk
       have hz1 := (hz.alloc (.cells #[] 65)).st hst1 hnb
       have hb1 : Below w.heap.size w w1 := (((Below.refl w.heap.size w).alloc (Nat.le_refl _) (.cells (List.toArray [.int .i64 q.h.kd, .int .i64 q.h.fl, .int .i64 q.h.pa, .int .i64 q.h.sr, .int .i64 q.h.ds, .int .i64 q.h.cn, .int .i64 q.h.sq, .int .i64 q.h.pu, .slice q.A q.n q.c]) 65)).alloc (by simp) (.cells #[] 65)).trans (hst1.below (by simp; omega) (by rintro k ⟨ad, he, rfl⟩; injection he with he; subst he; simp))
       have hn1 : n1 = n := by have e1 : _ = n1 * 9 := hl1.1; rw [flat_len Pv.cl_len] at e1; have := H1.out; omega
       have hlw : ∀ k, BlkOf A1 k → w.heap.size ≤ k := by
         rintro k ⟨ad, he, rfl⟩
         rcases (hl1.blk ad he).1 with ⟨ad0, h0, h1⟩ | h1
         · injection h0 with h0; subst h0; rw [← h1]; simp
         · simp at h1; omega
       have hl1' := hl1.tight.alloc (.cells (List.toArray [.int .i64 q.h.kd, .int .i64 q.h.fl, .int .i64 q.h.pa, .int .i64 q.h.sr, .int .i64 q.h.ds, .int .i64 q.h.cn, .int .i64 q.h.sq, .int .i64 q.h.pu, .slice q.A q.n q.c]) 65)
       have hrd : RdR 9 (w1.alloc (.cells (List.toArray [.int .i64 q.h.kd, .int .i64 q.h.fl, .int .i64 q.h.pa, .int .i64 q.h.sr, .int .i64 q.h.ds, .int .i64 q.h.cn, .int .i64 q.h.sq, .int .i64 q.h.pu, .slice q.A q.n q.c]) 65)) (some ⟨w1.heap.size, 0, none⟩) 1 1 q.cl := RdR.one w1 65 q.cl q.cl_one
       have hb2 := hb1.alloc hb1.size (.cells (List.toArray [.int .i64 q.h.kd, .int .i64 q.h.fl, .int .i64 q.h.pa, .int .i64 q.h.sr, .int .i64 q.h.ds, .int .i64 q.h.cn, .int .i64 q.h.sq, .int .i64 q.h.pu, .slice q.A q.n q.c]) 65)
       have HN1 := Lib.hid hn1
       have HLW := Lib.hid hlw
       have hnn : n1 ≤ 2000 := by omega
       clear hz hlm hr hl1 hst1 hn1 hnb hlw hb1)
    | (with_reducible refine at_load 65 (.tmp 3) (by rfl) ?_; refine wpList_load_pk rowP rfl (.tmp 3) rfl q w.heap.size 0 rfl (Bk.pk (q := q) hz1) ?_)
    | (at_builtin
       refine wpList_append_lstR eltP rfl (.tmp 9) (.tmp 11) rfl rfl hl1' rfl hrd (by omega) ?_
       rintro v w3 ⟨⟨A3, n3, c3, rfl, hl3⟩, hst3⟩))
  rw [← flat_one (cl := Pv.cl) q, ← flat_app] at hl3
  have hb3 : Below w.heap.size w w3 := hb2.trans (hst3.below hb2.size HLW.out)
  have hoff : ∀ k, BlkOf A3 k → w.heap.size ≤ k := by
    rintro k ⟨ad, he, rfl⟩
    rcases (hl3.blk ad he).1 with h0 | h0
    · exact HLW.out _ h0
    · have := hb2.size; omega
  have HN3 : Hid (n3 = (qs ++ [q]).length) := Lib.hid (by have e1 : _ = n3 * 9 := hl3.1; rw [flat_len Pv.cl_len] at e1; omega)
  have HO := Lib.hid hoff
  clear hoff
  go_ret
  refine ⟨A3, n3, c3, rfl, ⟨qs ++ [q], HN3.out, hl3.rd, by rw [List.map_append, H3.out]; rfl, fun r hr => ?_, fun hn ad he hf => ?_⟩, hb3⟩
  · rcases List.mem_append.1 hr with hr | hr
    · exact (H4.out r hr).below hb3
    · rw [List.mem_singleton.1 hr]; exact HQ.out.below hb3
  · have := HO.out _ ⟨ad, he, rfl⟩; have := HF.out _ hf; omega
theorem new2 {T T' : TypeId} {w w1 : World} {vs vs' : List Value} (hb : Below ((w.alloc (.cells vs.toArray T)).alloc (.cells vs'.toArray T')).heap.size ((w.alloc (.cells vs.toArray T)).alloc (.cells vs'.toArray T')) w1) :
    Bk w1 T w.heap.size vs ∧ Bk w1 T' (w.heap.size + 1) vs' ∧ Below w.heap.size w w1 :=
  ⟨((Bk.new w T vs).alloc _).below hb, by have h := (Bk.new (w.alloc (.cells vs.toArray T)) T' vs').below hb; simpa using h, (((Below.refl _ _).alloc (Nat.le_refl _) _).alloc (by simp) _).trans (hb.mono (by simp; omega))⟩
theorem exec_loadRow {P : Program} {w : World} {ty : TypeId} {op : Oper} {a : Act} (R : Row P ty 9) (x : Operand) (ho : op.op = .load ty x) (g o : Nat) (hx : a.eval x = .pointer (some ⟨g, o, none⟩)) (q : Pv) (h : w.rangeAt g o q.cl) : (execOp a.eval op).run P w = .ok (.value (.agg #[.int .i64 q.h.kd, .int .i64 q.h.fl, .int .i64 q.h.pa, .int .i64 q.h.sr, .int .i64 q.h.ds, .int .i64 q.h.cn, .int .i64 q.h.sq, .int .i64 q.h.pu, .slice q.A q.n q.c])) w := by
  obtain ⟨d, h1, h2⟩ := R.ht
  have hl := run_loadVar_mid w g o ty q.cl d h h1 h2 R.hi
  unfold execOp
  simp only [ho, hx, Instr.loadAt, Instr.sureAddr, Sem.run_bind, Sem.run_pure, Result.andThen_ok, hl]
  rfl
theorem range_below {w w1 : World} {g o : Nat} {cs : List Value} (h : w.rangeAt g o cs) (hg : g < w.heap.size) (hb : Below w.heap.size w w1) : w1.rangeAt g o cs := fun j v hv => (hb.cell (p := ⟨g, o + j, none⟩) hg).trans (h j v hv)
set_option maxHeartbeats 1000000 in
theorem r_peek (h : RpR F w r m) (hF : ∀ k, F k → k < w.heap.size) :
    Calls Try.prog 46 #[.agg #[.slice r.a1 r.n1 r.c1, .slice r.a2 r.n2 r.c2, .int .i64 m.lr, .int .i64 m.hr, .int .i64 m.wt, .int .i64 m.run, .int .i64 (m.ct 0), .int .i64 (m.ct 1), .int .i64 (m.ct 2), .int .i64 (m.ct 3), .int .i64 (m.ct 4)]] w fun e w' => ∃ q', e = .returned (.tuple #[.agg #[.int .i64 q'.h.kd, .int .i64 q'.h.fl, .int .i64 q'.h.pa, .int .i64 q'.h.sr, .int .i64 q'.h.ds, .int .i64 q'.h.cn, .int .i64 q'.h.sq, .int .i64 q'.h.pu, .slice q'.A q'.n q'.c], .bool (!(m.sel m.hiB).isEmpty)]) ∧ q'.pk = (m.sel m.hiB).headD Pk.zero ∧ PvR F w' q' ∧ Below w.heap.size w w' := by
  have HH : Hid (∀ o o', Calls Try.prog 47 #[.agg #[.slice r.a1 r.n1 r.c1, .slice r.a2 r.n2 r.c2, .int .i64 m.lr, .int .i64 m.hr, .int .i64 m.wt, .int .i64 m.run, .int .i64 (m.ct 0), .int .i64 (m.ct 1), .int .i64 (m.ct 2), .int .i64 (m.ct 3), .int .i64 (m.ct 4)]] ((w.alloc o).alloc o') fun e w' => e = .returned (.bool m.hiB) ∧ Below ((w.alloc o).alloc o').heap.size ((w.alloc o).alloc o') w') := Lib.hid fun o o' => r_high (h.below (((Below.refl _ _).alloc (Nat.le_refl _) o).alloc (by simp) o'))
  have hl := h.lo.len
  have hh := h.hi.len
  have HR := Lib.hid h
  have HF := Lib.hid hF
  obtain ⟨a1, n1, c1, a2, n2, c2⟩ := r
  dsimp only at hl hh HH
  rcases (by
    cases hb : m.hiB
    · by_cases h1 : n1 = 0
      · exact .inr (.inr ⟨rfl, h1⟩)
      · exact .inr (.inl ⟨rfl, by omega⟩)
    · refine .inl ⟨rfl, ?_⟩
      unfold AM.hiB at hb
      simp only [Bool.and_eq_true, decide_eq_true_eq] at hb
      omega : (m.hiB = true ∧ 0 < n2) ∨ (m.hiB = false ∧ 0 < n1) ∨ (m.hiB = false ∧ n1 = 0)) with ⟨hb, hn⟩ | ⟨hb, hn⟩ | ⟨hb, hn⟩
  · rw [hb] at HH ⊢
    have HE : Hid ((!(m.sel true).isEmpty) = true) := Lib.hid (by
      show (!m.high.isEmpty) = true
      cases hm : m.high with
      | nil => rw [hm] at hh; simp at hh; omega
      | cons x r => rfl)
    rw [HE.out]
    obtain ⟨g, o, q, rfl, hra, hqr, hqk, hg⟩ := h.hi.head hn
    have HQ := Lib.hid hqk
    have HQR := Lib.hid (hqr.gr (gr_box F (Nat.le_succ w.heap.size)))
    have HRA := Lib.hid hra
    clear h hF hl hh hb hqk hra hqr
    go_enter Try.func46, Try.ntmps46
    go_wp2_with fail
    refine (HH.out _ _).mono ?_
    rintro e w1 ⟨rfl, hb1⟩
    obtain ⟨hx, hy, hc⟩ := new2 hb1
    have c5 := hx.cell 1 rfl
    have hra := range_below HRA.out hg hc
    have hq1 := HQR.out.below hc
    clear hb1 hx
    go_wp2_with (first
      | (with_reducible refine at_load 65 (.tmp 8) (by rfl) ?_; refine wpList_load_pk rowP rfl (.tmp 8) rfl q g o rfl hra ?_)
      | (with_reducible refine at_store 65 (.tmp 2) (.tmp 9) (by rfl) ?_; refine wpList_put_pk rowP rfl (.tmp 2) (.tmp 9) rfl (w.heap.size + 1) rfl hy rfl q rfl ?_; rintro w5 hz5 hw5))
    exact bodyPost_ret (results_cell_tmp rfl rfl (load_pk rowP hz5)) rfl ⟨q, by kernel_rfl, HQ.out, hq1.off hw5, Wr.on hc hw5 (Nat.le_succ _)⟩
  · rw [hb] at HH ⊢
    have HE : Hid ((!(m.sel false).isEmpty) = true) := Lib.hid (by
      show (!m.low.isEmpty) = true
      cases hm : m.low with
      | nil => rw [hm] at hl; simp at hl; omega
      | cons x r => rfl)
    rw [HE.out]
    obtain ⟨g, o, q, rfl, hra, hqr, hqk, hg⟩ := h.lo.head hn
    have HQ := Lib.hid hqk
    have HQR := Lib.hid (hqr.gr (gr_box F (Nat.le_succ w.heap.size)))
    have HRA := Lib.hid hra
    clear h hF hl hh hb hqk hra hqr
    go_enter Try.func46, Try.ntmps46
    go_wp2_with fail
    refine (HH.out _ _).mono ?_
    rintro e w1 ⟨rfl, hb1⟩
    obtain ⟨hx, hy, hc⟩ := new2 hb1
    have c5 := hx.cell 0 rfl
    have hra := range_below HRA.out hg hc
    have hq1 := HQR.out.below hc
    clear hb1 hx
    go_wp2_with (first
      | (with_reducible refine at_load 65 (.tmp 16) (by rfl) ?_; refine wpList_load_pk rowP rfl (.tmp 16) rfl q g o rfl hra ?_)
      | (with_reducible refine at_store 65 (.tmp 2) (.tmp 17) (by rfl) ?_; refine wpList_put_pk rowP rfl (.tmp 2) (.tmp 17) rfl (w.heap.size + 1) rfl hy rfl q rfl ?_; rintro w5 hz5 hw5))
    exact bodyPost_ret (results_cell_tmp rfl rfl (load_pk rowP hz5)) rfl ⟨q, by kernel_rfl, HQ.out, hq1.off hw5, Wr.on hc hw5 (Nat.le_succ _)⟩
  · rw [hb] at HH ⊢
    have hnil : m.low = [] := List.eq_nil_of_length_eq_zero (by omega)
    have HE : Hid ((!(m.sel false).isEmpty) = false ∧ (m.sel false).headD Pk.zero = Pk.zero) := Lib.hid (by
      show (!m.low.isEmpty) = false ∧ m.low.headD Pk.zero = Pk.zero
      rw [hnil]; exact ⟨rfl, rfl⟩)
    rw [HE.out.1]
    clear h hF hl hh hb hnil
    subst hn
    go_enter Try.func46, Try.ntmps46
    go_wp2_with fail
    refine (HH.out _ _).mono ?_
    rintro e w1 ⟨rfl, hb1⟩
    obtain ⟨hx, hy, hc⟩ := new2 hb1
    have c5 := hx.cell 0 rfl
    clear hb1 hx
    go_wp2_with (first
      | (with_reducible refine at_store 65 (.tmp 2) (.tmp 18) (by rfl) ?_; refine wpList_put_pk rowP rfl (.tmp 2) (.tmp 18) rfl (w.heap.size + 1) rfl hy rfl zPv rfl ?_; rintro w5 hz5 hw5))
    refine bodyPost_ret (results_cell_tmp rfl rfl (load_pk rowP hz5)) rfl ?_
    exact ⟨zPv, by kernel_rfl, HE.out.2.symm, PvR.zero _ _, Wr.on hc hw5 (Nat.le_succ _)⟩
set_option maxHeartbeats 2000000 in
set_option maxRecDepth 100000 in
/-- Two rows that say the same. -/
theorem r_sameAll {F1 F2 : Nat → Prop} {A B : Option Addr} {n c k d : Nat} {ks : List Pk} (h1 : SlP F1 w A n c ks) (h2 : SlP F2 w B k d ks) (hn : n ≤ 100000) :
    Calls Try.prog 14 #[.slice A n c, .slice B k d] w fun e w' => e = .returned (.bool true) ∧ Below w.heap.size w w' := by
  obtain rfl : n = k := h1.len.symm.trans h2.len
  have H1 := Lib.hid h1
  have H2 := Lib.hid h2
  clear h1 h2
  go_enter Try.func14, Try.ntmps14
  go_wp2
  go_loopw [5] (fun v wr => ∃ i : Nat, v = .int .i64 i ∧ i ≤ n ∧ Below w.heap.size w wr) (fun v _ => n - (intOf v).toNat)
  case atStart => exact ⟨0, rfl, Nat.zero_le _, Below.refl _ _⟩
  case round =>
    obtain ⟨i, rfl, hi, hb⟩ := hrel
    by_cases hlt : i < n
    · obtain ⟨g1, o1, q1, rfl, hra1, hr1, hk1, hg1⟩ := (H1.out.below hb).row hlt
      obtain ⟨g2, o2, q2, rfl, hra2, hr2, hk2, hg2⟩ := (H2.out.below hb).row hlt
      have hk : q1.pk = q2.pk := by rw [← hk2] at hk1; injection hk1
      have hse : q1.pk.sameB q2.pk = true := by rw [hk]; exact Pk.same_refl _
      have HS : Hid (∀ W, Ext wr W → Calls Try.prog 36 #[.agg #[.int .i64 q1.h.kd, .int .i64 q1.h.fl, .int .i64 q1.h.pa, .int .i64 q1.h.sr, .int .i64 q1.h.ds, .int .i64 q1.h.cn, .int .i64 q1.h.sq, .int .i64 q1.h.pu, .slice q1.A q1.n q1.c], .agg #[.int .i64 q2.h.kd, .int .i64 q2.h.fl, .int .i64 q2.h.pa, .int .i64 q2.h.sr, .int .i64 q2.h.ds, .int .i64 q2.h.cn, .int .i64 q2.h.sq, .int .i64 q2.h.pu, .slice q2.A q2.n q2.c]] W fun e w' => e = .returned (.bool true) ∧ Below W.heap.size W w') := Lib.hid fun W hW => by
        have := r_same (hr1.below hW) (hr2.below hW)
        rw [hse] at this; exact this
      clear hk hk1 hk2 hse hr1 hr2
      have hlt1 : (i : Int) < n := by omega
      have hi0 : (0 : Int) ≤ i := by omega
      go_wp2_with fail
      refine wp_region_E Ext (by kernel_rfl) (fun wd hbd hsz => ?_)
      clear hsz
      (refine takeE Ext.tr 0 (by simp only [List.getElem?_toArray, List.getElem?_cons_succ, List.getElem?_cons_zero]; rfl) (by kernel_rfl) (by kernel_rfl) (by kernel_rfl) (by exact fun _ _ _ h => h) (by first | (refine Or.inl ⟨by rfl, ?_⟩; intro W hW; go_simp; try with_reducible rfl) | exact Or.inr ⟨by rfl, rfl⟩) ?_; try simp only [Act.put, List.setIfInBounds_toArray, List.set_cons_zero, List.set_cons_succ])
      (refine takeE Ext.tr 1 (by simp only [List.getElem?_toArray, List.getElem?_cons_succ, List.getElem?_cons_zero]; rfl) (by kernel_rfl) (by kernel_rfl) (by kernel_rfl) (by exact fun _ _ _ h => h) (by first | (refine Or.inl ⟨by rfl, ?_⟩; intro W hW; go_simp; try with_reducible rfl) | exact Or.inr ⟨by rfl, rfl⟩) ?_; try simp only [Act.put, List.setIfInBounds_toArray, List.set_cons_zero, List.set_cons_succ])
      (refine takeE Ext.tr 4 (by simp only [List.getElem?_toArray, List.getElem?_cons_succ, List.getElem?_cons_zero]; rfl) (by kernel_rfl) (by kernel_rfl) (by kernel_rfl) (by exact fun _ _ _ h => h) (by first | (refine Or.inl ⟨by rfl, ?_⟩; intro W hW; go_simp; try with_reducible rfl) | exact Or.inr ⟨by rfl, rfl⟩) ?_; try simp only [Act.put, List.setIfInBounds_toArray, List.set_cons_zero, List.set_cons_succ])
      (refine takeE Ext.tr 5 (by simp only [List.getElem?_toArray, List.getElem?_cons_succ, List.getElem?_cons_zero]; rfl) (by kernel_rfl) (by kernel_rfl) (by kernel_rfl) (by exact fun _ _ _ h => h) (by first | (refine Or.inl ⟨by rfl, ?_⟩; intro W hW; go_simp; try with_reducible rfl) | exact Or.inr ⟨by rfl, rfl⟩) ?_; try simp only [Act.put, List.setIfInBounds_toArray, List.set_cons_zero, List.set_cons_succ])
      (refine takeE Ext.tr 2 (by simp only [List.getElem?_toArray, List.getElem?_cons_succ, List.getElem?_cons_zero]; rfl) (by kernel_rfl) (by kernel_rfl) (by kernel_rfl) (by exact fun _ _ _ h => h) (by first | (refine Or.inl ⟨by rfl, ?_⟩; intro W hW; go_simp; try with_reducible rfl) | exact Or.inr ⟨by rfl, rfl⟩) ?_; try simp only [Act.put, List.setIfInBounds_toArray, List.set_cons_zero, List.set_cons_succ])
      (refine takeE Ext.tr 6 (by simp only [List.getElem?_toArray, List.getElem?_cons_succ, List.getElem?_cons_zero]; rfl) (by kernel_rfl) (by kernel_rfl) (by kernel_rfl) (by exact fun _ _ _ h => h) (by first | (refine Or.inl ⟨by rfl, ?_⟩; intro W hW; go_simp; try with_reducible rfl) | exact Or.inr ⟨by rfl, rfl⟩) ?_; try simp only [Act.put, List.setIfInBounds_toArray, List.set_cons_zero, List.set_cons_succ])
      (refine takeE Ext.tr 3 (by simp only [List.getElem?_toArray, List.getElem?_cons_succ, List.getElem?_cons_zero]; rfl) (by kernel_rfl) (by kernel_rfl) (by kernel_rfl) (by exact fun _ _ _ h => h) (by first | (refine Or.inl ⟨by rfl, ?_⟩; intro W hW; exact exec_loadRow rowP (.tmp 19) rfl g1 (o1 + i * 9) rfl q1 (range_below (range_below hra1 hg1 hbd) (Nat.lt_of_lt_of_le hg1 hbd.size) hW)) | exact Or.inr ⟨by rfl, rfl⟩) ?_; try simp only [Act.put, List.setIfInBounds_toArray, List.set_cons_zero, List.set_cons_succ])
      (refine takeE Ext.tr 7 (by simp only [List.getElem?_toArray, List.getElem?_cons_succ, List.getElem?_cons_zero]; rfl) (by kernel_rfl) (by kernel_rfl) (by kernel_rfl) (by exact fun _ _ _ h => h) (by first | (refine Or.inl ⟨by rfl, ?_⟩; intro W hW; exact exec_loadRow rowP (.tmp 23) rfl g2 (o2 + i * 9) rfl q2 (range_below (range_below hra2 hg2 hbd) (Nat.lt_of_lt_of_le hg2 hbd.size) hW)) | exact Or.inr ⟨by rfl, rfl⟩) ?_; try simp only [Act.put, List.setIfInBounds_toArray, List.set_cons_zero, List.set_cons_succ])
      refine wpAnyE_one (i := 8) (by kernel_rfl) (by simp only [List.getElem?_toArray, List.getElem?_cons_succ, List.getElem?_cons_zero]; rfl) (fun K hK => ?_)
      go_simp
      refine (HS.out _ hbd).mono ?_
      rintro e w6 ⟨rfl, hb6⟩
      have HB6 := Lib.hid (below_on (below_on hb hbd) hb6)
      refine hK.out _ _ hb6 ?_
      clear hK K
      try simp only [Act.put, List.setIfInBounds_toArray, List.set_cons_zero, List.set_cons_succ]
      (refine takeE Ext.tr 9 (by simp only [List.getElem?_toArray, List.getElem?_cons_succ, List.getElem?_cons_zero]; rfl) (by kernel_rfl) (by kernel_rfl) (by kernel_rfl) (by exact fun _ _ _ h => h) (by first | (refine Or.inl ⟨by rfl, ?_⟩; intro W hW; go_simp; try with_reducible rfl) | exact Or.inr ⟨by rfl, rfl⟩) ?_; try simp only [Act.put, List.setIfInBounds_toArray, List.set_cons_zero, List.set_cons_succ])
      refine wpAnyE_done (by kernel_rfl) ?_ _
      skip
      go_wp2
      go_roundw
      case rel => exact ⟨i + 1, by go_num, by omega, HB6.out⟩
      case measure => simp [intOf]; omega
    · obtain rfl : i = n := by omega
      go_wp2
      go_ret
      exact ⟨rfl, hb⟩
end
end Go.Proofs.Ytbhhgfpliggkgaa
