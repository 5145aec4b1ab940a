/- Queues of packets in memory: popped, told. -/
import Derived.Test.YtbhhgfpliggkgaaP2
set_option linter.unusedSimpArgs false
set_option linter.unusedVariables false
set_option maxRecDepth 100000
namespace Go.Proofs.Ytbhhgfpliggkgaa
open Go.RowKit Go.Shelf

section
variable {F : Nat → Prop} {w : World} {p room : Nat} {qs : List Pv}
set_option maxHeartbeats 2000000 in
theorem q_pop (q : Pv) (qs : List Pv) (h : Qs F w p room (q :: qs)) :
    Calls Try.prog 51 #[.pointer (some ⟨p, 0, none⟩)] w fun e w' => e = .returned (.tuple #[.agg #[.int .i64 q.h.kd, .int .i64 q.h.fl, .int .i64 q.h.pa, .int .i64 q.h.sr, .int .i64 q.h.ds, .int .i64 q.h.cn, .int .i64 q.h.sq, .int .i64 q.h.pu, .slice q.A q.n q.c], .bool true]) ∧ DidQ F p room qs w w' := by
  have HP : ∀ o, Calls Try.prog 65 #[.pointer (some ⟨p, 0, none⟩), .int .i64 0] (w.alloc o) fun e w' => e = .returned (.tuple #[.agg #[.int .i64 q.h.kd, .int .i64 q.h.fl, .int .i64 q.h.pa, .int .i64 q.h.sr, .int .i64 q.h.ds, .int .i64 q.h.cn, .int .i64 q.h.sq, .int .i64 q.h.pu, .slice q.A q.n q.c], .bool true]) ∧ Below (w.alloc o).heap.size (w.alloc o) w' := fun o => q_peek q qs (h.below ((Below.refl _ _).alloc (Nat.le_refl _) o))
  have HP' := Lib.hid HP
  have HH := Lib.hid h
  clear HP h
  go_enter Try.func51, Try.ntmps51
  go_wp2_with fail
  refine (HP'.out _).mono ?_
  rintro e w1 ⟨rfl, hb1⟩
  obtain ⟨hz, hb⟩ := pk_new hb1
  clear hb1 HP'
  have hzq := Bk.new w1 65 [.int .i64 q.h.kd, .int .i64 q.h.fl, .int .i64 q.h.pa, .int .i64 q.h.sr, .int .i64 q.h.ds, .int .i64 q.h.cn, .int .i64 q.h.sq, .int .i64 q.h.pu, .slice q.A q.n q.c]
  have hz' := hz.alloc (.cells (List.toArray [.int .i64 q.h.kd, .int .i64 q.h.fl, .int .i64 q.h.pa, .int .i64 q.h.sr, .int .i64 q.h.ds, .int .i64 q.h.cn, .int .i64 q.h.sq, .int .i64 q.h.pu, .slice q.A q.n q.c]) 65)
  have hb' := hb.alloc hb.size (.cells (List.toArray [.int .i64 q.h.kd, .int .i64 q.h.fl, .int .i64 q.h.pa, .int .i64 q.h.sr, .int .i64 q.h.ds, .int .i64 q.h.cn, .int .i64 q.h.sq, .int .i64 q.h.pu, .slice q.A q.n q.c]) 65)
  have h := HH.out.below hb'
  have hFw := HH.out.bd
  have HFs := Lib.hid hFw
  clear HH hz
  have HZ := Lib.hid hb.size
  obtain ⟨h1, h2, h3, h4, A, n, c, hn, h5, h6, h7, h8⟩ := h
  have hin : 0 < n := by rw [hn]; simp
  have hn1 : 1 ≤ n := hin
  have hnc := h6.2.1
  have hcm := h6.2.2.1
  unfold maxLen at hcm
  obtain ⟨g, o, rfl, hg, -⟩ := h6.rd.range hin
  have hF : F g := (h6.blk _ rfl).1
  have hgw : g < w.heap.size := hFw _ hF
  have hpw : p < w.heap.size := hFw _ h1
  have hgp : g ≠ p := h7 _ rfl
  have hth := h6.there hin
  have h6' := (h6.lay hin (us := zsP) rfl eltP.h1).cut hn1
  have hdr : (lay (flat Pv.cl (q :: qs)) (0 * 9) zsP).drop (1 * 9) = flat Pv.cl qs := rfl
  rw [hdr] at h6'
  rw [Nat.zero_mul, Nat.add_zero] at hth h6'
  have hwr := Wr.setCells g o zsP (w1.alloc (.cells (List.toArray [.int .i64 q.h.kd, .int .i64 q.h.fl, .int .i64 q.h.pa, .int .i64 q.h.sr, .int .i64 q.h.ds, .int .i64 q.h.cn, .int .i64 q.h.sq, .int .i64 q.h.pu, .slice q.A q.n q.c]) 65))
  have hcut1 : (Instr.slice 34 (.slice (some ⟨g, o, none⟩) n c) none (some (.int .i64 1)) none).run Try.prog (w1.alloc (.cells (List.toArray [.int .i64 q.h.kd, .int .i64 q.h.fl, .int .i64 q.h.pa, .int .i64 q.h.sr, .int .i64 q.h.ds, .int .i64 q.h.cn, .int .i64 q.h.sq, .int .i64 q.h.pu, .slice q.A q.n q.c]) 65)) = .ok (.slice (some ⟨g, o, none⟩) 1 c) (w1.alloc (.cells (List.toArray [.int .i64 q.h.kd, .int .i64 q.h.fl, .int .i64 q.h.pa, .int .i64 q.h.sr, .int .i64 q.h.ds, .int .i64 q.h.cn, .int .i64 q.h.sq, .int .i64 q.h.pu, .slice q.A q.n q.c]) 65)) := eltP.run_pre (some ⟨g, o, none⟩) n c 1 (by omega) hnc _
  have c1 := h5.cell 1 rfl
  have hgne1 : g ≠ w1.heap.size := by have := HZ.out; omega
  have hgne2 : g ≠ w.heap.size := by omega
  generalize hW : (w1.alloc (.cells (List.toArray [.int .i64 q.h.kd, .int .i64 q.h.fl, .int .i64 q.h.pa, .int .i64 q.h.sr, .int .i64 q.h.ds, .int .i64 q.h.cn, .int .i64 q.h.sq, .int .i64 q.h.pu, .slice q.A q.n q.c]) 65)).setCells g o zsP = W2 at *
  have hcut2 : (Instr.slice 34 (.slice (some ⟨g, o, none⟩) n c) (some (.int .i64 1)) none none).run Try.prog W2 = .ok (.slice (cutR (some ⟨g, o, none⟩) c 1 9) (n - 1) (c - 1)) W2 := eltP.run_cut (some ⟨g, o, none⟩) n c 1 hn1 hnc W2
  have h5' := h5.wr hwr (Ne.symm hgp)
  have hzq2 := hzq.wr hwr (Ne.symm hgne1)
  have hz2 := hz'.wr hwr (Ne.symm hgne2)
  have c2 := h5'.cell 1 rfl
  have f2 := h5'.free 1
  have hne : ∀ ad, cutR (some ⟨g, o, none⟩) c 1 9 = some ad → ad.block ≠ p := by
    intro ad he
    unfold cutR at he
    split at he
    · injection he with he; subst he; exact hgp
    · simp [Addr.add] at he; subst he; exact hgp
  generalize hX : cutR (some ⟨g, o, none⟩) c 1 9 = X at *
  have h53 := h5'.set 1 (.slice X (n - 1) (c - 1))
  have hzq3 := hzq2.far (p := ⟨p, 1, none⟩) (show w1.heap.size ≠ p by have := HZ.out; omega) (.slice X (n - 1) (c - 1))
  have hz3 := hz2.far (p := ⟨p, 1, none⟩) (show w.heap.size ≠ p by omega) (.slice X (n - 1) (c - 1))
  have h63 := h6'.far (p := ⟨p, 1, none⟩) hne (.slice X (n - 1) (c - 1))
  have hst3 : St F w (W2.setCell ⟨p, 1, none⟩ (.slice X (n - 1) (c - 1))) := by
    refine ((St.ext hb').trans (F' := F) ?_ (Gr.refl _ _)).trans (St.setCell _ (a := ⟨p, 1, none⟩) h1 _) (Gr.refl _ _)
    exact ⟨hwr.os, hwr.tape, hwr.output, hwr.size, fun k hk hn => hwr.block k hk fun e => hn (by injection e with e; rw [e]; exact hF)⟩
  have HW := Lib.hid hW
  have HC1 := Lib.hid c1
  have HN := Lib.hid hn
  have HNE := Lib.hid hne
  have HL := Lib.hid h4
  have H8 := Lib.hid h8
  clear hW hX hn hFw h7 h6 hne h6' h4
  clear hdr
  go_wp2_with (first
    | (refine wpList_clear_row eltP rfl (.tmp 16) rfl rfl hth ?_; rw [HW.out]; clear c1 hcut1 hzq hz')
    | (with_reducible refine at_load 65 (.tmp 4) (by rfl) ?_; refine wpList_load_pk rowP rfl (.tmp 4) rfl q w1.heap.size 0 rfl (Bk.pk (q := q) hzq3) ?_)
    | (with_reducible refine at_store 65 (.tmp 2) (.tmp 25) (by rfl) ?_; refine wpList_put_pk rowP rfl (.tmp 2) (.tmp 25) rfl w.heap.size rfl hz3 rfl q rfl ?_; rintro w5 hz5 hw5))
  have hst5 : St F w w5 := ⟨hw5.os.trans hst3.os, hw5.tape.trans hst3.tape, hw5.output.trans hst3.output, Nat.le_trans hst3.size hw5.size, fun k hk hn => (hw5.block k (Nat.lt_of_lt_of_le hk hst3.size) (by intro e; injection e; omega)).trans (hst3.block k hk hn)⟩
  have hn' : n - 1 = qs.length := by have := HN.out; simp at this; omega
  have h4' : qs.length ≤ room := by have := HL.out; simp at this; omega
  have hsz : (w1.alloc (.cells (List.toArray [.int .i64 q.h.kd, .int .i64 q.h.fl, .int .i64 q.h.pa, .int .i64 q.h.sr, .int .i64 q.h.ds, .int .i64 q.h.cn, .int .i64 q.h.sq, .int .i64 q.h.pu, .slice q.A q.n q.c]) 65)).heap.size ≤ w5.heap.size := Nat.le_trans hwr.size (Nat.le_trans (by simp [World.setCell]) hw5.size)
  refine bodyPost_ret (results_cell_tmp rfl rfl (load_pk rowP hz5)) rfl ⟨rfl, F, ⟨h1, h2, h3, h4', X, n - 1, c - 1, hn', h53.wr hw5 (by omega), ?_, HNE.out, fun k hk => Nat.lt_of_lt_of_le (H8.out k hk) hsz⟩, hst5, Gr.refl _ _⟩
  exact h63.same fun ad he => hw5.block _ (h63.blk ad he).2 (by intro e; injection e with e; have := HFs.out _ (h63.blk ad he).1; omega)
theorem q_pop_none (h : Qs F w p room []) :
    Calls Try.prog 51 #[.pointer (some ⟨p, 0, none⟩)] w fun e w' => e = .returned (.tuple #[.agg #[.int .i64 0, .int .i64 0, .int .i64 0, .int .i64 0, .int .i64 0, .int .i64 0, .int .i64 0, .int .i64 0, .slice none 0 0], .bool false]) ∧ Below w.heap.size w w' := by
  have HP : ∀ o, Calls Try.prog 65 #[.pointer (some ⟨p, 0, none⟩), .int .i64 0] (w.alloc o) fun e w' => e = .returned (.tuple #[.agg #[.int .i64 0, .int .i64 0, .int .i64 0, .int .i64 0, .int .i64 0, .int .i64 0, .int .i64 0, .int .i64 0, .slice none 0 0], .bool false]) ∧ Below (w.alloc o).heap.size (w.alloc o) w' := fun o => q_peek_none (h.below ((Below.refl _ _).alloc (Nat.le_refl _) o))
  have HP' := Lib.hid HP
  clear HP
  go_enter Try.func51, Try.ntmps51
  go_wp2_with fail
  refine (HP'.out _).mono ?_
  rintro e w1 ⟨rfl, hb1⟩
  obtain ⟨hz, hb⟩ := pk_new hb1
  clear hb1 HP'
  have hzq := Bk.new w1 65 [.int .i64 0, .int .i64 0, .int .i64 0, .int .i64 0, .int .i64 0, .int .i64 0, .int .i64 0, .int .i64 0, .slice none 0 0]
  have hz' := hz.alloc (.cells (List.toArray [.int .i64 0, .int .i64 0, .int .i64 0, .int .i64 0, .int .i64 0, .int .i64 0, .int .i64 0, .int .i64 0, .slice none 0 0]) 65)
  have hb' := hb.alloc hb.size (.cells (List.toArray [.int .i64 0, .int .i64 0, .int .i64 0, .int .i64 0, .int .i64 0, .int .i64 0, .int .i64 0, .int .i64 0, .slice none 0 0]) 65)
  clear hz
  go_wp2_with (first
    | (with_reducible refine at_load 65 (.tmp 4) (by rfl) ?_; refine wpList_load_pk rowP rfl (.tmp 4) rfl zPv w1.heap.size 0 rfl (Bk.pk (q := zPv) hzq) ?_)
    | (with_reducible refine at_store 65 (.tmp 2) (.tmp 25) (by rfl) ?_; refine wpList_put_pk rowP rfl (.tmp 2) (.tmp 25) rfl w.heap.size rfl hz' rfl zPv rfl ?_; rintro w5 hz5 hw5))
  exact bodyPost_ret (results_cell_tmp rfl rfl (load_pk rowP hz5)) rfl ⟨rfl, hb'.trans (hw5.below (Nat.le_refl _) hb'.size)⟩
theorem q_clone (A : Option Addr) (n c : Nat) (hn : n = qs.length) (h : RdR 9 w A n c (flat Pv.cl qs)) (hl : n ≤ 1000000) :
    Calls Try.prog 80 #[.slice A n c] w (MadeQ qs w) := by
  cases A with
  | none =>
    obtain rfl : c = 0 := h.2.2.2.1 rfl
    obtain rfl : n = 0 := by have := h.2.1; omega
    obtain rfl : qs = [] := List.eq_nil_of_length_eq_zero hn.symm
    have he : (binOp .eql 34 (.slice none 0 0) (.slice none 0 0)).run Try.prog w = .ok (.bool true) w := Lib.run_eql_slice_nil w _ _ none 0 0 0 0 eltP.ht
    clear h hn hl
    go_enter Try.func80, Try.ntmps80
    go_wp2
    go_ret
    exact ⟨none, 0, 0, rfl, rfl, LstR.nil _ _ _ _, Below.refl _ _⟩
  | some a =>
    have he : (binOp .eql 34 (.slice (some a) n c) (.slice none 0 0)).run Try.prog w = .ok (.bool false) w := Lib.run_eql_slice_nil w _ _ (some a) n c 0 0 eltP.ht
    have hlm : LstR 9 65 (BlkOf (some ⟨w.heap.size, 0, none⟩)) (w.alloc (.cells #[] 65)) (some ⟨w.heap.size, 0, none⟩) 0 0 [] := (LstR.made 9 w 65 #[] 0 0 [] rfl (Nat.le_refl _) (by simp) (Nat.zero_le _) (by simp) (by simp)).tight
    have hr := h.alloc (.cells #[] 65)
    have HN := Lib.hid hn
    clear hn
    go_enter Try.func80, Try.ntmps80
    go_wp2_with (at_builtin
                 refine wpList_append_lstR eltP rfl (.tmp 5) (.tmp 6) rfl rfl hlm rfl hr (by omega) ?_
                 rintro v w1 ⟨⟨A', n', c', rfl, hl'⟩, hst⟩)
    rw [List.nil_append] at hl'
    have hn' : n' = qs.length := by have h1 : _ = n' * 9 := hl'.1; rw [flat_len Pv.cl_len] at h1; omega
    have HN2 := Lib.hid hn'
    clear hn'
    go_ret
    refine ⟨A', n', c', rfl, HN2.out, hl'.mono ?_, ?_⟩
    · rintro k (⟨ad, he, rfl⟩ | hk)
      · injection he with he; subst he; exact Nat.le_refl _
      · simp at hk; omega
    · refine ((Below.refl _ w).alloc (Nat.le_refl _) (.cells #[] 65)).trans (hst.below (by simp) ?_)
      rintro k ⟨ad, he, rfl⟩
      injection he with he; subst he; exact Nat.le_refl _
theorem q_list (h : Qs F w p room qs) :
    Calls Try.prog 69 #[.pointer (some ⟨p, 0, none⟩)] w (MadeQ qs w) := by
  obtain ⟨h1, h2, h3, h4, A, n, c, hn, h5, h6, h7, h8⟩ := h
  have c1 := h5.cell 1 rfl
  have HC := Lib.hid (q_clone A n c hn h6.rd (by omega))
  clear hn
  go_enter Try.func69, Try.ntmps69
  go_wp2_with fail
  refine (q_made p room _ w h5 h2).mono ?_
  rintro e w' ⟨rfl, rfl⟩
  go_wp2_with fail
  refine HC.out.mono ?_
  rintro e w' ⟨A', n', c', rfl, hn', hl, hb⟩
  have HN := Lib.hid hn'
  clear hn'
  go_wp2
  go_ret
  exact ⟨A', n', c', rfl, HN.out, hl, hb⟩
end
end Go.Proofs.Ytbhhgfpliggkgaa
