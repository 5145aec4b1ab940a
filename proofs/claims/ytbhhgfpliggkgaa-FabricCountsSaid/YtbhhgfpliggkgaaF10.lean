/- A fabric's packets, counts. -/
import Derived.Test.YtbhhgfpliggkgaaF9
set_option linter.unusedSimpArgs false
set_option linter.unusedVariables false
set_option maxRecDepth 100000
namespace Go.Proofs.Ytbhhgfpliggkgaa
open Go.RowKit Go.Shelf

/-- What is told of a list of packets: a slice of its own, whose packets lie off F, and off the slice. -/
def MadeB (F : Nat → Prop) (w : World) (ps : List Pk) (en : Ending) (w' : World) : Prop :=
  ∃ A n c rs, en = .returned (.slice A n c) ∧ n = rs.length ∧ rs.map Pv.pk = ps ∧ LstR 9 65 (w.heap.size ≤ ·) w' A n c (flat Pv.cl rs) ∧ (∀ r ∈ rs, PvR (fun k => F k ∨ BlkOf A k) w' r) ∧ Below w.heap.size w w'
section
variable {F : Nat → Prop} {w : World} {q : Pv}
set_option maxHeartbeats 4000000 in
set_option maxRecDepth 100000 in
theorem p_allAlike2 {p room : Nat} {Fq G : Nat → Prop} {qs : List Pv} (h : Qs Fq w p room qs) (hq : ∀ r ∈ qs, PvR G w r) (hF : ∀ k, F k → k < w.heap.size) :
    Calls Try.prog 57 #[.pointer (some ⟨p, 0, none⟩)] w (MadeB F w (qs.map Pv.pk)) := by
  have HL := Lib.hid (q_list h)
  have h1024 : qs.length ≤ 1024 := Nat.le_trans h.2.2.2.1 h.2.2.1
  have HQ := Lib.hid hq
  have HF := Lib.hid hF
  clear h hq hF
  go_enter Try.func57, Try.ntmps57
  go_wp2_with fail
  refine HL.out.mono ?_
  rintro e w1 ⟨A, n, c, rfl, hn, hl, hb⟩
  have HN := Lib.hid hn
  have hnl : n ≤ 1024 := by omega
  have HB := Lib.hid hb
  have HLs := Lib.hid hl
  clear hn HL hl hb
  go_wp2
  go_loopw [10] (fun v wr => ∃ (i : Nat) (rs : List Pv), v = .int .i64 i ∧ i ≤ n ∧ rs.length = i ∧ rs.map Pv.pk = (qs.take i).map Pv.pk ∧ (∀ r ∈ rs, PvR (fun k => F k ∨ BlkOf A k) wr r) ∧ LstR 9 65 (BlkOf A) wr A n c (flat Pv.cl (rs ++ qs.drop i)) ∧ Below w.heap.size w wr) (fun v _ => n - (intOf v).toNat)
  case atStart => exact ⟨0, [], rfl, Nat.zero_le _, rfl, rfl, by simp, HLs.out.tight, HB.out⟩
  case round =>
    obtain ⟨i, rs, rfl, hi, hrl, hrm, hrr, hls, hb⟩ := hrel
    have hAw : ∀ k, BlkOf A k → w.heap.size ≤ k := by
      rintro k ⟨ad, he, rfl⟩
      exact (HLs.out.blk ad he).1
    by_cases hlt : i < n
    · have hlt' : i < qs.length := by have := HN.out; omega
      obtain ⟨g, o, rfl, hg, hra⟩ := hls.rd.range hlt
      rw [flat_row Pv.cl_len (rs ++ qs.drop i) i (by simp; omega)] at hra
      have hqi : (rs ++ qs.drop i)[i]'(by simp; omega) = qs[i] := by
        rw [List.getElem_append_right (by omega), List.getElem_drop]
        congr 1; omega
      rw [hqi] at hra
      have hq := HQ.out qs[i] (List.getElem_mem _)
      have hset : ∀ q', (rs ++ qs.drop i).set i q' = (rs ++ [q']) ++ qs.drop (i + 1) := fun q' => by
        rw [List.set_append_right _ _ (by omega), hrl, Nat.sub_self, List.drop_eq_getElem_cons hlt', List.set_cons_zero, List.append_assoc]
        rfl
      have htk : (qs.take (i + 1)).map Pv.pk = rs.map Pv.pk ++ [qs[i].pk] := by rw [List.take_succ_eq_append_getElem hlt', List.map_append, ← hrm]; rfl
      generalize qs[i] = q at *
      have hqw := (hq.below hb).below ((Below.refl _ _).alloc (Nat.le_refl _) (.cells (List.toArray [.int .i64 q.h.kd, .int .i64 q.h.fl, .int .i64 q.h.pa, .int .i64 q.h.sr, .int .i64 q.h.ds, .int .i64 q.h.cn, .int .i64 q.h.sq, .int .i64 q.h.pu, .slice q.A q.n q.c]) 65))
      have hbd : ∀ k, (F k ∨ BlkOf (some ⟨g, o, none⟩) k) → k < (wr.alloc (.cells (List.toArray [.int .i64 q.h.kd, .int .i64 q.h.fl, .int .i64 q.h.pa, .int .i64 q.h.sr, .int .i64 q.h.ds, .int .i64 q.h.cn, .int .i64 q.h.sq, .int .i64 q.h.pu, .slice q.A q.n q.c]) 65)).heap.size := by
        intro k hk
        rw [World.size_alloc]
        have := hb.size
        rcases hk with hk | hk
        · have := HF.out k hk; omega
        · obtain ⟨ad, he, rfl⟩ := hk
          have := (hls.blk ad he).2; omega
      have HA := Lib.hid (p_alike (F := fun k => F k ∨ BlkOf (some ⟨g, o, none⟩) k) hqw hbd)
      have hzq := Bk.new wr 65 [.int .i64 q.h.kd, .int .i64 q.h.fl, .int .i64 q.h.pa, .int .i64 q.h.sr, .int .i64 q.h.ds, .int .i64 q.h.cn, .int .i64 q.h.sq, .int .i64 q.h.pu, .slice q.A q.n q.c]
      have HRL := Lib.hid hrl
      have HRM := Lib.hid hrm
      have HSet := Lib.hid hset
      have HTk := Lib.hid htk
      have hlsa := hls.alloc (.cells (List.toArray [.int .i64 q.h.kd, .int .i64 q.h.fl, .int .i64 q.h.pa, .int .i64 q.h.sr, .int .i64 q.h.ds, .int .i64 q.h.cn, .int .i64 q.h.sq, .int .i64 q.h.pu, .slice q.A q.n q.c]) 65)
      clear hrl hrm hset htk hqi hq hqw hbd
      go_wp2_with (first
        | (with_reducible refine at_load 65 (.tmp 13) (by rfl) ?_; refine wpList_load_pk rowP rfl (.tmp 13) rfl q g (o + i * 9) rfl hra ?_)
        | (with_reducible refine at_load 65 (.tmp 5) (by rfl) ?_; refine wpList_load_pk rowP rfl (.tmp 5) rfl q wr.heap.size 0 rfl (Bk.pk (q := q) hzq) ?_)
        | (go_at_call 54; refine HA.out.mono ?_; rintro e w2 ⟨q', rfl, hq', hr', hb2⟩; have hls2 := hlsa.below hb2; clear hzq hlsa)
        | (with_reducible refine at_store 65 (.tmp 19) (.tmp 18) (by rfl) ?_; refine wpList_lay_pk rowP rfl (.tmp 19) (.tmp 18) rfl hls2 hlt rfl q' rfl ?_; rintro w3 hls3 hw3))
      rw [← flat_set Pv.cl_len _ i (by rw [List.length_append, List.length_drop, HRL.out]; omega), HSet.out] at hls3
      have hb3 : Below w.heap.size w w3 := ((hb.alloc hb.size _).trans (hb2.mono (by have := hb.size; simp; omega))).trans (hw3.below (hAw g ⟨_, rfl, rfl⟩) (by have := hb.size; have := hb2.size; simp at this; omega))
      have hrr3 : ∀ r ∈ rs ++ [q'], PvR (fun k => F k ∨ BlkOf (some ⟨g, o, none⟩) k) w3 r := by
        intro r hr
        have hoff : PvR (fun k => F k ∨ BlkOf (some ⟨g, o, none⟩) k) w2 r := by
          rcases List.mem_append.1 hr with hr | hr
          · exact ((hrr r hr).below ((Below.refl _ _).alloc (Nat.le_refl _) _)).below hb2
          · rw [List.mem_singleton.1 hr]; exact hr'
        exact hoff.wr hw3 fun hn ad he e => hoff.2.2.2 hn ad he (.inr ⟨_, rfl, e.symm⟩)
      have HRel := Lib.hid (show (rs ++ [q']).map Pv.pk = (qs.take (i + 1)).map Pv.pk by rw [HTk.out, List.map_append, ← hq']; rfl)
      clear hls2 hls hra hrr HA
      go_wp2
      go_roundw
      case rel => exact ⟨i + 1, rs ++ [q'], by go_num, by omega, by rw [List.length_append, HRL.out]; rfl, HRel.out, hrr3, hls3, hb3⟩
      case measure => simp [intOf]; omega
    · obtain rfl : i = n := by omega
      have hd : qs.drop i = [] := List.drop_of_length_le (by have := HN.out; omega)
      have htk : qs.take i = qs := List.take_of_length_le (by have := HN.out; omega)
      rw [hd, List.append_nil] at hls
      rw [htk] at hrm
      have HRL := Lib.hid hrl
      have HRM := Lib.hid hrm
      clear hd htk hrl hrm
      go_wp2
      go_ret
      exact ⟨A, i, c, rs, rfl, HRL.out.symm, HRM.out, hls.mono hAw, hrr, hb⟩
end
section
variable {F X : Nat → Prop} {w w' : World} {b : Nat} {m : AM} {pl ph : Nat} {Fl Fh : Nat → Prop} {ql qh : List Pv}
theorem pt_rows2 (h : PbC F X w b m pl ph Fl Fh ql qh) {Y : Nat → Prop} (hY : ∀ k, Y k → k < w.heap.size) (hi : Bool) :
    Calls Try.prog 57 #[.pointer (some ⟨ptr pl ph hi, 0, none⟩)] w (MadeB Y w (m.sel hi)) := by
  have := p_allAlike2 (h.qs hi) (h.qp hi) hY
  rw [h.qk hi] at this
  exact this
theorem pt_low2 (h : PbC F X w b m pl ph Fl Fh ql qh) {Y : Nat → Prop} (hY : ∀ k, Y k → k < w.heap.size) :
    Calls Try.prog 39 #[.pointer (some ⟨b, 0, none⟩)] w (MadeB Y w m.low) := by
  have HR := Lib.hid (pt_rows2 h hY false)
  have HM := Lib.hid (pt_made h)
  have c0 := h.bk.cell 0 rfl
  clear h hY
  go_enter Try.func39, Try.ntmps39
  go_wp2_with (first
    | (go_at_call 49; refine HM.out.mono ?_; rintro e w' ⟨rfl, rfl⟩)
    | (go_at_call 57; refine HR.out.mono ?_; rintro e w1 ⟨A, n, c, rs, rfl, hn1, hr1⟩; have HN1 := Lib.hid hn1; clear hn1))
  go_ret
  exact ⟨A, n, c, rs, rfl, HN1.out, hr1⟩
theorem pt_high2 (h : PbC F X w b m pl ph Fl Fh ql qh) {Y : Nat → Prop} (hY : ∀ k, Y k → k < w.heap.size) :
    Calls Try.prog 40 #[.pointer (some ⟨b, 0, none⟩)] w (MadeB Y w m.high) := by
  have HR := Lib.hid (pt_rows2 h hY true)
  have HM := Lib.hid (pt_made h)
  have c0 := h.bk.cell 1 rfl
  clear h hY
  go_enter Try.func40, Try.ntmps40
  go_wp2_with (first
    | (go_at_call 49; refine HM.out.mono ?_; rintro e w' ⟨rfl, rfl⟩)
    | (go_at_call 57; refine HR.out.mono ?_; rintro e w1 ⟨A, n, c, rs, rfl, hn1, hr1⟩; have HN1 := Lib.hid hn1; clear hn1))
  go_ret
  exact ⟨A, n, c, rs, rfl, HN1.out, hr1⟩
end
section
variable {F X Y : Nat → Prop} {w w' w1 : World} {b : Nat} {m : FM} {pp : Nat → Nat} {FF : Nat → Nat → Prop} {P : Option Addr}
theorem f_low (h : FbP F X w P m pp FF) (hY : ∀ k, Y k → k < w.heap.size) (p q : Int) :
    Calls Try.prog 39 #[.pointer (m.addr pp p q)] w (MadeB Y w (m.lows p q)) := by
  unfold FM.addr FM.lows
  cases hp : m.port p q with
  | none =>
    refine (n_low (.inl rfl)).mono ?_
    rintro e w' ⟨rfl, rfl⟩
    exact ⟨none, 0, 0, [], rfl, rfl, rfl, LstR.nil _ _ _ _, by simp, Below.refl _ _⟩
  | some a =>
    obtain ⟨_, _, _, _, _, _, hh⟩ := h.pt hp
    exact pt_low2 hh hY
theorem f_high (h : FbP F X w P m pp FF) (hY : ∀ k, Y k → k < w.heap.size) (p q : Int) :
    Calls Try.prog 40 #[.pointer (m.addr pp p q)] w (MadeB Y w (m.highs p q)) := by
  unfold FM.addr FM.highs
  cases hp : m.port p q with
  | none =>
    refine (n_high (.inl rfl)).mono ?_
    rintro e w' ⟨rfl, rfl⟩
    exact ⟨none, 0, 0, [], rfl, rfl, rfl, LstR.nil _ _ _ _, by simp, Below.refl _ _⟩
  | some a =>
    obtain ⟨_, _, _, _, _, _, hh⟩ := h.pt hp
    exact pt_high2 hh hY
set_option maxHeartbeats 4000000 in
theorem f_Packets (h : FbP F X w P m pp FF) (p q : Int) :
    Calls Try.prog 19 #[.pointer P, .int .i64 p, .int .i64 q] w (MadeA (fun _ => False) w (m.lows p q ++ m.highs p q)) := by
  have HA := Lib.hid (f_at h p q)
  have HLo := Lib.hid (f_low h (Y := fun _ => False) (fun _ h => h.elim) p q)
  have HHi := Lib.hid (fun (W : World) (hW : Below w.heap.size w W) => f_high (h.below hW) (Y := fun k => k < W.heap.size) (fun _ h => h) p q)
  have HFew := Lib.hid (h.few p q)
  clear h
  generalize m.addr pp p q = ad at *
  generalize m.lows p q = lo at *
  generalize m.highs p q = hi at *
  go_enter Try.func19, Try.ntmps19
  go_wp2_with fail
  refine HA.out.mono ?_
  rintro e w' ⟨rfl, rfl⟩
  go_wp2_with fail
  refine HLo.out.mono ?_
  rintro e w1 ⟨A, n, c, rs, rfl, hn, hk, hl, hr, hb⟩
  have HHi1 := Lib.hid (HHi.out w1 hb)
  have H1 := Lib.hid (And.intro hn (And.intro hk (And.intro hl (And.intro hr hb))))
  clear hn hk hl hr hb HHi HLo
  go_wp2_with fail
  refine HHi1.out.mono ?_
  rintro e w2 ⟨B, n2, c2, rs2, rfl, hn2, hk2, hl2, hr2, hb2⟩
  obtain ⟨hn, hk, hl, hr, hb⟩ := H1.out
  have hla := (hl.below hb2).tight
  have hu := hl2.rd
  have hlen : (n + n2) * 88 ≤ 140737488355328 := by
    have h1 := HFew.out
    rw [← hk, ← hk2, List.length_map, List.length_map, ← hn, ← hn2] at h1
    omega
  have H2 := Lib.hid (And.intro hn2 (And.intro hk2 (And.intro hl2 (And.intro hr2 hb2))))
  clear hn hk hl hr hb hn2 hk2 hl2 hr2 hb2 HHi1
  go_wp2_with (at_builtin
               refine wpList_append_lstR eltP rfl (.tmp 13) (.tmp 15) rfl rfl hla rfl hu hlen ?_
               rintro v3 w3 ⟨⟨A3, n3, c3, rfl, hl3⟩, hst3⟩)
  have HE : Hid (MadeA (fun _ => False) w (lo ++ hi) (.returned (.slice A3 n3 c3)) w3) := Lib.hid (by
    obtain ⟨hn, hk, hl, hr, hb⟩ := H1.out
    obtain ⟨hn2, hk2, hl2, hr2, hb2⟩ := H2.out
    rw [← flat_app] at hl3
    have hA : ∀ k, BlkOf A k → w.heap.size ≤ k := by rintro k ⟨ad, he, rfl⟩; exact (hl.blk ad he).1
    have hA1 : ∀ k, BlkOf A k → k < w1.heap.size := by rintro k ⟨ad, he, rfl⟩; exact (hl.blk ad he).2
    have hb3 := below_on hb hb2
    refine ⟨A3, n3, c3, rs ++ rs2, rfl, ?_, by rw [List.map_append, hk, hk2], hl3.mono fun k hk => ?_, fun r hr' => ?_, hb3.trans (hst3.below hb3.size hA)⟩
    · have h1 : (flat Pv.cl (rs ++ rs2)).length = n3 * 9 := hl3.1
      rw [flat_len Pv.cl_len] at h1
      omega
    · rcases hk with hk | hk
      · exact hA k hk
      · exact Nat.le_trans hb3.size hk
    · rcases List.mem_append.1 hr' with hr' | hr'
      · have h1 := (hr r hr').below hb2
        exact ((h1.mono (F' := BlkOf A) fun k hk => .inr hk).st hst3 (F' := fun _ => False) (fun k hk => hk.elim))
      · have h1 := hr2 r hr'
        exact ((h1.mono (F' := BlkOf A) fun k hk => .inl (hA1 k hk)).st hst3 (F' := fun _ => False) (fun k hk => hk.elim)))
  clear hla hu hst3 hl3
  go_wp2
  go_ret
  exact HE.out
theorem f_Counts (h : FbP F X w P m pp FF) :
    Calls Try.prog 23 #[.pointer P] w fun e w' => e = .returned (.agg (tabV 5 m.ct).toArray) ∧ Below w.heap.size w w' := by
  have hz := Bk.new w 28 [.int .i64 0, .int .i64 0, .int .i64 0, .int .i64 0, .int .i64 0]
  rcases h with ⟨rfl, rfl⟩ | ⟨b, rfl, h⟩
  · clear hz
    go_enter Try.func23, Try.ntmps23
    go_wp2
    exact bodyPost_ret (v := .agg (tabV 5 fun _ => 0).toArray) (by simp [results, Try.results23, go_sem]; rfl) rfl ⟨rfl, (Below.refl _ _).alloc (Nat.le_refl _) _⟩
  · have hb := h.bk.alloc (.cells #[.int .i64 0, .int .i64 0, .int .i64 0, .int .i64 0, .int .i64 0] 28)
    have hrow : ((m.mem pp).drop 64).take (tabV 5 m.ct).length = tabV 5 m.ct := by
      rw [tabV_len]
      refine tabV_ext (by simp [FM.mem_len]) fun i hi => ?_
      rw [List.getElem?_take, if_pos hi, List.getElem?_drop, m.mem_ct pp hi]
    clear h
    go_enter Try.func23, Try.ntmps23
    go_wp2_with (first
      | (with_reducible refine at_load 28 (.tmp 8) (by rfl) ?_; refine wpList_load_bk row5 rfl (.tmp 8) rfl b 64 rfl hb (tabV 5 m.ct) (tabV_len _ _) hrow ?_)
      | (with_reducible refine at_store 28 (.tmp 2) (.tmp 9) (by rfl) ?_; refine wpList_store_bk row5 rfl (.tmp 2) (.tmp 9) rfl w.heap.size 0 rfl hz (tabV 5 m.ct) rfl (tabV_len _ _) (by decide) (tabV_one _ _) ?_; rintro w9 hz9 hw9))
    rw [lay_all _ _ (by rw [tabV_len]; rfl)] at hz9
    exact bodyPost_ret (results_cell rfl rfl (row5.load hz9 0 (tabV_len _ _) rfl)) rfl ⟨rfl, Wr.on ((Below.refl _ _).alloc (Nat.le_refl _) _) hw9 (Nat.le_refl _)⟩
theorem f_Fork_none (h : FbP F X w P FM.nobody pp FF) :
    Calls Try.prog 15 #[.pointer P] w fun e w' => e = .returned (.pointer none) ∧ w = w' := by
  have HM : Hid (Calls Try.prog 30 #[.pointer P] w fun e w' => e = .returned (.bool false) ∧ w = w') := Lib.hid (f_made h)
  clear h
  go_enter Try.func15, Try.ntmps15
  go_wp2_with (go_at_call 30; refine HM.out.mono ?_; rintro e w' ⟨rfl, rfl⟩)
  go_ret
  exact ⟨rfl, rfl⟩
end
end Go.Proofs.Ytbhhgfpliggkgaa
