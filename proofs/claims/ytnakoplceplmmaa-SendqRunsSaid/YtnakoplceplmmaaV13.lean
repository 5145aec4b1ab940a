/- A queue: forked. -/
import Derived.Test.YtnakoplceplmmaaV12
import Derived.Test.YtnakoplceplmmaaTab
set_option linter.unusedSimpArgs false
set_option linter.unusedVariables false
namespace Go.Proofs.Ytnakoplceplmmaa
open Go.RowKit Go.Shelf
def zSc : Sc := ⟨none, 0, 0, [], false, false, false⟩
theorem flat_zeros (n : Nat) : flat Sc.cl (List.replicate n zSc) = (Builtin.zeroCells (Value.agg zsS.toArray).cells n).toList := by
  apply List.ext_getElem
  · rw [zcells_len, flat_len Sc.cl_len, List.length_replicate]
    rfl
  · intro i h1 h2
    rw [flat_len Sc.cl_len, List.length_replicate] at h1
    have h3 := flat_row Sc.cl_len (List.replicate n zSc) (i / 4) (by rw [List.length_replicate]; omega)
    have h4 : ((flat Sc.cl (List.replicate n zSc)).drop (i / 4 * 4)).take 4 = zsS := by rw [h3, List.getElem_replicate]; rfl
    have h5 : (flat Sc.cl (List.replicate n zSc))[i]? = zsS[i % 4]? := by
      rw [← h4, List.getElem?_take, if_pos (by omega), List.getElem?_drop]
      congr 1
      omega
    have hlt : i < (flat Sc.cl (List.replicate n zSc)).length := by rw [flat_len Sc.cl_len, List.length_replicate]; exact h1
    have h6 : i % 4 < zsS.length := by show i % 4 < 4; omega
    rw [List.getElem?_eq_getElem hlt, List.getElem?_eq_getElem h6] at h5
    injection h5 with h5
    rw [h5]
    simp only [Builtin.zeroCells, Value.cells, Array.toList_map, List.getElem_map, Array.toList_range, List.getElem_range, List.size_toArray]
    have h7 : i % zsS.length < zsS.toArray.size := by rw [List.size_toArray]; exact h6
    rw [getElem!_pos zsS.toArray (i % zsS.length) h7]
    rfl
theorem run_makeS (n : Nat) (hn : n ≤ 4096) (w : World) :
    (Instr.makeSlice 61 (.int .i64 n) (.int .i64 n)).run Try.prog w = .ok (.slice (some ⟨w.heap.size, 0, none⟩) n n) (w.alloc (.cells (flat Sc.cl (List.replicate n zSc)).toArray 70)) := by
  obtain ⟨i, hi, hz, hsz, hby⟩ := info_parts eltS.hi
  have hr := Go.run_make (P := Try.prog) w 61 70 i _ eltS.ht hi hz .i64 .i64 (n : Int) (n : Int) (by omega) (by omega) (by rw [hby]; omega) (by omega)
  rw [hr, hsz]
  simp only [Int.toNat_natCast]
  congr 3
  apply Array.ext'
  rw [List.toList_toArray, flat_zeros]
  simp only [madeCells, Builtin.zeroCells, Value.cells, List.size_toArray]
/-- A fork under way: i slots are copied. -/
structure Frk (w : World) (m : Sm) (n : Nat) (B : Option Addr) (k d i : Nat) (W : World) : Prop where
  bel : Below w.heap.size w W
  bx : Bk W 65 w.heap.size [.int .i64 m.most, .int .i64 m.lo, .int .i64 m.nx, .slice (some ⟨w.heap.size + 1, 0, none⟩) n n, .slice B k d]
  ls : ∃ qs : List Sc, qs.length = i ∧ qs.map Sc.say = m.zl.take i ∧ Bk W 70 (w.heap.size + 1) (flat Sc.cl (qs ++ List.replicate (n - i) zSc)) ∧ ∀ q ∈ qs, BsR W q.A q.n q.c q.xs ∧ q.n ≤ 65536 ∧ ∀ j, BlkOf q.A j → w.heap.size ≤ j
theorem set_snoc {α : Type} (qs : List α) (z q : α) (r : Nat) (h : 0 < r) : (qs ++ List.replicate r z).set qs.length q = qs ++ [q] ++ List.replicate (r - 1) z := by
  obtain ⟨r', rfl⟩ : ∃ r', r = r' + 1 := ⟨r - 1, by omega⟩
  rw [List.set_append_right _ _ (Nat.le_refl _), Nat.sub_self, List.replicate_succ, List.set_cons_zero, List.append_assoc]
  rfl
theorem Frk.next {w W W1 W2 : World} {m : Sm} {n k d i : Nat} {B : Option Addr} {qs : List Sc} (h : Frk w m n B k d i W) (hb : Below W.heap.size W W1) (hi : i < n) (h1 : qs.length = i) (h2 : qs.map Sc.say = m.zl.take i) (h3 : Bk W1 70 (w.heap.size + 1) (flat Sc.cl (qs ++ List.replicate (n - i) zSc))) (h4 : ∀ q ∈ qs, BsR W q.A q.n q.c q.xs ∧ q.n ≤ 65536 ∧ ∀ j, BlkOf q.A j → w.heap.size ≤ j)
    {q : Sc} (hq : BsR W1 q.A q.n q.c q.xs) (hn : q.n ≤ 65536) (hbl : ∀ j, BlkOf q.A j → w.heap.size ≤ j) (hat : m.zl[i]? = some q.say) (hs : Bk W2 70 (w.heap.size + 1) (lay (flat Sc.cl (qs ++ List.replicate (n - i) zSc)) (i * 4) q.cl)) (hw : Wr (w.heap.size + 1) W1 W2) :
    Frk w m n B k d (i + 1) W2 := by
  have hst := st_wr hw
  have hbz := h.bel.size
  have hne : ∀ {A : Option Addr} {l c : Nat} {xs : List Int}, BsR W1 A l c xs → ∀ j, j = w.heap.size + 1 → ¬ Tyd 5 W1 j := fun hr j hj => hj ▸ h3.tyd.ne (by decide)
  refine ⟨(h.bel.trans (hb.mono hbz)).trans (hst.below (by have := hb.size; omega) (fun j hj => by omega)), (h.bx.below hb).st hst (by omega), qs ++ [q], by simp [h1], ?_, ?_, fun r hr => ?_⟩
  · rw [List.map_append, h2, List.take_add_one, hat]; rfl
  · have e := set_snoc qs zSc q (n - i) (by omega)
    rw [h1] at e
    rw [← flat_set Sc.cl_len _ i (by simp; omega) q, e] at hs
    rw [show n - (i + 1) = n - i - 1 from by omega]
    exact hs
  · rcases List.mem_append.1 hr with hr | hr
    · obtain ⟨k1, k2, k3⟩ := h4 r hr
      exact ⟨(k1.below hb).stT hst fun j hj => hj ▸ h3.tyd.ne (by decide), k2, k3⟩
    · obtain rfl : r = q := by simpa using hr
      exact ⟨hq.stT hst fun j hj => hj ▸ h3.tyd.ne (by decide), hn, hbl⟩
theorem Frk.done {w W W1 W2 : World} {m : Sm} {n k d k2 d2 : Nat} {B B2 : Option Addr} (h : Frk w m n B k d n W) (hn : m.zl.length = n) (hn4 : n ≤ 4096) (hnm : m.Nm) (hb : Below W.heap.size W W1) (hl : Lst 3 (W.heap.size ≤ ·) W1 B2 k2 d2 (intV m.row))
    (hs : Bk W2 65 w.heap.size [.int .i64 m.most, .int .i64 m.lo, .int .i64 m.nx, .slice (some ⟨w.heap.size + 1, 0, none⟩) n n, .slice B2 k2 d2]) (hw : Wr w.heap.size W1 W2) :
    SqC (fun j => w.heap.size ≤ j ∧ j < W2.heap.size) W2 w.heap.size m ∧ Below w.heap.size w W2 := by
  obtain ⟨qs, h1, h2, h3, h4⟩ := h.ls
  have hst := st_wr hw
  have hbz := h.bel.size
  have hbz2 := hb.size
  have hs2 := hst.size
  rw [Nat.sub_self, List.replicate_zero, List.append_nil] at h3
  have h3' := (h3.below hb).st hst (by omega)
  have ht := (h.bx.below hb).tyd
  have hl2 := hl.st hst (fun j hj e => by have := h.bx.lt; omega)
  refine ⟨⟨some ⟨w.heap.size + 1, 0, none⟩, n, n, B2, k2, d2, hs, ⟨qs, h1.symm, ?_, by rw [h2, List.take_of_length_le (by omega)], fun q hq => ?_⟩, ?_, ⟨Nat.le_refl _, hs.lt⟩, fun j hj => hj.2, hnm⟩, (h.bel.trans (hb.mono hbz)).trans (hst.below (by omega) (fun j hj => by omega))⟩
  · refine ⟨by rw [flat_len Sc.cl_len, h1], Nat.le_refl _, by unfold maxLen; omega, flat_wf Sc.cl_one qs, .inr ⟨w.heap.size + 1, 0, (flat Sc.cl qs).toArray, rfl, ⟨by omega, h3'.lt⟩, h3', by rw [List.size_toArray, flat_len Sc.cl_len, h1]; omega, fun i hi => by simp⟩⟩
  · obtain ⟨k1, k3, k4⟩ := h4 q hq
    have k5 := (k1.below hb).stT hst fun j hj => hj ▸ ht.ne (by decide)
    exact ⟨k5, k3, fun j hj => ⟨k4 j hj, k5.lt j hj⟩⟩
  · refine hl2.tight.mono fun j hj => ?_
    obtain ⟨ad, he, rfl⟩ := hj
    have := hl2.blk ad he
    exact ⟨by omega, this.2⟩
section
variable {F : Nat → Prop} {w : World} {g : Nat} {m : Sm}
set_option maxHeartbeats 4000000 in
theorem q_fork (h : SqC F w g m) : Calls Try.prog 23 #[.pointer (some ⟨g, 0, none⟩)] w fun e w' => ∃ g' F', e = .returned (.pointer (some ⟨g', 0, none⟩)) ∧ SqC F' w' g' m ∧ (∀ j, F' j → w.heap.size ≤ j) ∧ Below w.heap.size w w' := by
  have HM := Lib.hid (q_made h)
  have HQ := Lib.hid h
  obtain ⟨A, n, c, B, k, d, h⟩ := h
  have hgl := h.bk.lt
  have hn4 : n ≤ 4096 := by have h1 := h.hn; have := h.ok.rm; have := h.ok.m2; omega
  have hmk := fun W => run_makeS n hn4 W
  have hbk := h.bk
  have H := Lib.hid h
  have c3 := h.bk.cell 3 rfl
  have hzl : m.zl.length = n := h.ls.len
  have HZL := Lib.hid hzl
  clear h hzl
  have hF0 : Frk w m n B k d 0 ((w.alloc (.cells #[.int .i64 m.most, .int .i64 m.lo, .int .i64 m.nx, .slice (some ⟨w.heap.size + 1, 0, none⟩) n n, .slice B k d] 65)).alloc (.cells (flat Sc.cl (List.replicate n zSc)).toArray 70)) := by
    refine ⟨((Below.refl _ w).alloc (Nat.le_refl _) _).alloc (by simp) _, (Bk.new w 65 [.int .i64 m.most, .int .i64 m.lo, .int .i64 m.nx, .slice (some ⟨w.heap.size + 1, 0, none⟩) n n, .slice B k d]).alloc _, [], rfl, by simp, ?_, by simp⟩
    have := Bk.new (w.alloc (.cells #[.int .i64 m.most, .int .i64 m.lo, .int .i64 m.nx, .slice (some ⟨w.heap.size + 1, 0, none⟩) n n, .slice B k d] 65)) 70 (flat Sc.cl (List.replicate n zSc))
    rw [World.size_alloc] at this
    simpa using this
  have HF0 := Lib.hid hF0
  clear hF0
  go_enter Try.func23, Try.ntmps23
  go_wp2_with (first
    | (go_at_call 32; refine HM.out.mono ?_; rintro e w' ⟨rfl, rfl⟩)
    | (with_reducible refine at_load 65 (.tmp 10) (by rfl) ?_
       refine wpList_load_bk rowQ rfl (.tmp 10) rfl g 0 rfl hbk [.int .i64 m.most, .int .i64 m.lo, .int .i64 m.nx, .slice A n c, .slice B k d] rfl rfl ?_))
  go_loopw [4, 5, 24] (fun a b i W => ∃ (k' : Nat), i = .int .i64 k' ∧ k' ≤ n ∧ Frk w m n B k d k' W) (fun a b i _ => n - (intOf i).toNat)
  case atStart => exact ⟨0, rfl, Nat.zero_le _, HF0.out⟩
  case round =>
    obtain ⟨i, rfl, hi, hfr⟩ := hrel
    clear c3 hmk
    by_cases hlt : i < n
    · have hh := H.out.below hfr.bel
      obtain ⟨gp, op, q, rfl, hFg, hgp, hra, hbs, hq5, hat, _⟩ := hh.ls.row hlt
      have hiI : (i : Int) < n := by omega
      have HFr := Lib.hid hfr
      have HBs := Lib.hid hbs
      have HAt := Lib.hid hat
      obtain ⟨dd, hd1, hd2⟩ := rowS.ht
      have z1 := Bk.new wr 70 [.slice q.A q.n q.c, .bool q.en, .bool q.fn, .bool q.ak]
      have hb1 : Below wr.heap.size wr (wr.alloc (.cells #[.slice q.A q.n q.c, .bool q.en, .bool q.fn, .bool q.ak] 70)) := (Below.refl _ _).alloc (Nat.le_refl _) _
      have HZ1 := Lib.hid z1
      have HB1 := Lib.hid hb1
      have hsz1 : w.heap.size + 1 < wr.heap.size := by
        obtain ⟨qs, k1, k2, k3, k4⟩ := hfr.ls
        exact k3.lt
      clear hfr hbs hat hh z1 hb1 hbk
      go_wp2_with (first
        | (with_reducible refine at_load 70 (.tmp 27) (by rfl) ?_
           refine wpList_load_mid rfl 70 (.tmp 27) rfl gp (op + i * 4) rfl [.slice q.A q.n q.c, .bool q.en, .bool q.fn, .bool q.ak] dd hra hd1 hd2 rowS.hi ?_
           clear hra))
      refine wp_region_L Ext [10] (by kernel_rfl) (fun wd hbd hsz => ?_)
      have hbd1 := below_on HB1.out hbd
      have hfd := HFr.out.bx.below hbd1
      have HBD1 := Lib.hid hbd1
      have HZd := Lib.hid (HZ1.out.below hbd)
      have HRd := Lib.hid ((HBs.out.below hbd1).1)
      have q3 : ∀ W, Ext wd W → W.cell? ⟨w.heap.size, 3, none⟩ = some (.slice (some ⟨w.heap.size + 1, 0, none⟩) n n) := fun W hW => (hfd.below hW).cell 3 rfl
      have q5 : ∀ W, Ext wd W → W.cell? ⟨wr.heap.size, 3, none⟩ = some (.bool q.ak) := fun W hW => (HZd.out.below hW).cell 3 rfl
      clear hsz hfd hbd1
      (refine takeL Ext.tr 0 (by simp only [List.getElem?_toArray, List.getElem?_cons_succ, List.getElem?_cons_zero]; rfl) (by kernel_rfl) (by kernel_rfl) (by kernel_rfl) (by kernel_rfl) (by exact fun _ _ _ h => h) (by first | (refine Or.inl ⟨by rfl, ?_⟩; intro W hW; go_simp; try with_reducible rfl) | exact Or.inr ⟨by rfl, rfl⟩) ?_; try simp only [Act.put, List.setIfInBounds_toArray, List.set_cons_zero, List.set_cons_succ])
      (refine takeL Ext.tr 2 (by simp only [List.getElem?_toArray, List.getElem?_cons_succ, List.getElem?_cons_zero]; rfl) (by kernel_rfl) (by kernel_rfl) (by kernel_rfl) (by kernel_rfl) (by exact fun _ _ _ h => h) (by first | (refine Or.inl ⟨by rfl, ?_⟩; intro W hW; go_simp; try with_reducible rfl) | exact Or.inr ⟨by rfl, rfl⟩) ?_; try simp only [Act.put, List.setIfInBounds_toArray, List.set_cons_zero, List.set_cons_succ])
      (refine takeL Ext.tr 3 (by simp only [List.getElem?_toArray, List.getElem?_cons_succ, List.getElem?_cons_zero]; rfl) (by kernel_rfl) (by kernel_rfl) (by kernel_rfl) (by kernel_rfl) (by exact fun _ _ _ h => h) (by first | (refine Or.inl ⟨by rfl, ?_⟩; intro W hW; go_simp; try with_reducible rfl) | exact Or.inr ⟨by rfl, rfl⟩) ?_; try simp only [Act.put, List.setIfInBounds_toArray, List.set_cons_zero, List.set_cons_succ])
      (refine takeL Ext.tr 6 (by simp only [List.getElem?_toArray, List.getElem?_cons_succ, List.getElem?_cons_zero]; rfl) (by kernel_rfl) (by kernel_rfl) (by kernel_rfl) (by kernel_rfl) (by exact fun _ _ _ h => h) (by first | (refine Or.inl ⟨by rfl, ?_⟩; intro W hW; go_simp; try with_reducible rfl) | exact Or.inr ⟨by rfl, rfl⟩) ?_; try simp only [Act.put, List.setIfInBounds_toArray, List.set_cons_zero, List.set_cons_succ])
      (refine takeL Ext.tr 1 (by simp only [List.getElem?_toArray, List.getElem?_cons_succ, List.getElem?_cons_zero]; rfl) (by kernel_rfl) (by kernel_rfl) (by kernel_rfl) (by kernel_rfl) (by exact fun _ _ _ h => h) (by first | (refine Or.inl ⟨by rfl, ?_⟩; intro W hW; go_simp; try with_reducible rfl) | exact Or.inr ⟨by rfl, rfl⟩) ?_; try simp only [Act.put, List.setIfInBounds_toArray, List.set_cons_zero, List.set_cons_succ])
      (refine takeL Ext.tr 4 (by simp only [List.getElem?_toArray, List.getElem?_cons_succ, List.getElem?_cons_zero]; rfl) (by kernel_rfl) (by kernel_rfl) (by kernel_rfl) (by kernel_rfl) (by exact fun _ _ _ h => h) (by first | (refine Or.inl ⟨by rfl, ?_⟩; intro W hW; exact exec_load_bk rowC (.tmp 32) rfl wr.heap.size 0 rfl (HZd.out.below hW) [.slice q.A q.n q.c, .bool q.en, .bool q.fn] rfl rfl) | exact Or.inr ⟨by rfl, rfl⟩) ?_; try simp only [Act.put, List.setIfInBounds_toArray, List.set_cons_zero, List.set_cons_succ])
      (refine takeL Ext.tr 7 (by simp only [List.getElem?_toArray, List.getElem?_cons_succ, List.getElem?_cons_zero]; rfl) (by kernel_rfl) (by kernel_rfl) (by kernel_rfl) (by kernel_rfl) (by exact fun _ _ _ h => h) (by first | (refine Or.inl ⟨by rfl, ?_⟩; intro W hW; go_simp; try with_reducible rfl) | exact Or.inr ⟨by rfl, rfl⟩) ?_; try simp only [Act.put, List.setIfInBounds_toArray, List.set_cons_zero, List.set_cons_succ])
      refine wpAnyL_one (i := 5) (by kernel_rfl) (by simp only [List.getElem?_toArray, List.getElem?_cons_succ, List.getElem?_cons_zero]; rfl) (fun K hK => ?_)
      go_simp
      refine (c_copied (q := q.pc) HRd.out hq5).mono ?_
      rintro e w1 ⟨q', rfl, hsay, hbs5, hn5, hk5, hb5⟩
      have HQ5 := Lib.hid (And.intro hsay (And.intro hbs5 (And.intro hn5 (And.intro hk5 hb5))))
      obtain ⟨qs, k1, k2, k3, k4⟩ := HFr.out.ls
      have z6 := k3.below (below_on HBD1.out hb5)
      have HZ6 := Lib.hid (And.intro k1 (And.intro k2 (And.intro z6 k4)))
      clear hsay hbs5 hn5 hk5 k1 k2 k3 k4
      refine hK.out _ _ (.inr hb5) ?_
      clear hK K
      try simp only [Act.put, List.setIfInBounds_toArray, List.set_cons_zero, List.set_cons_succ]
      (refine takeL Ext.tr 8 (by simp only [List.getElem?_toArray, List.getElem?_cons_succ, List.getElem?_cons_zero]; rfl) (by kernel_rfl) (by kernel_rfl) (by kernel_rfl) (by kernel_rfl) (by exact fun _ _ _ h => h) (by first | (refine Or.inl ⟨by rfl, ?_⟩; intro W hW; go_simp; try with_reducible rfl) | exact Or.inr ⟨by rfl, rfl⟩) ?_; try simp only [Act.put, List.setIfInBounds_toArray, List.set_cons_zero, List.set_cons_succ])
      (refine takeL Ext.tr 9 (by simp only [List.getElem?_toArray, List.getElem?_cons_succ, List.getElem?_cons_zero]; rfl) (by kernel_rfl) (by kernel_rfl) (by kernel_rfl) (by kernel_rfl) (by exact fun _ _ _ h => h) (by first | (refine Or.inl ⟨by rfl, ?_⟩; intro W hW; go_simp; try with_reducible rfl) | exact Or.inr ⟨by rfl, rfl⟩) ?_; try simp only [Act.put, List.setIfInBounds_toArray, List.set_cons_zero, List.set_cons_succ])
      refine wpAnyL_one (i := 10) (by kernel_rfl) (by simp only [List.getElem?_toArray, List.getElem?_cons_succ, List.getElem?_cons_zero]; rfl) (fun K hK => ?_)
      refine opwp_store_bk rowS rfl (.tmp 38) (.tmp 37) rfl (w.heap.size + 1) (i * 4) (by simp only [Act.eval, Nat.zero_add]; rfl) z6 [.slice q'.A q'.n q'.c, .bool q'.en, .bool q'.fn, .bool q.ak] rfl rfl (by rw [flat_len Sc.cl_len, List.length_append, List.length_replicate, HZ6.out.1]; omega) (by simp [Value.oneCell']) ?_
      intro w6 hz6 hw6
      have HT : Hid (Frk w m n B k d (i + 1) w6) := Lib.hid (by
        have hsay := HQ5.out.1
        refine HFr.out.next (W1 := w1) (q := ⟨q'.A, q'.n, q'.c, q'.xs, q'.en, q'.fn, q.ak⟩) (below_on HBD1.out HQ5.out.2.2.2.2) hlt HZ6.out.1 HZ6.out.2.1 HZ6.out.2.2.1 HZ6.out.2.2.2 HQ5.out.2.1 HQ5.out.2.2.1 (fun j hj => by have h1 := HQ5.out.2.2.2.1 j hj; have h2 := HBD1.out.size; have h3 := HFr.out.bel.size; omega) ?_ hz6 hw6
        rw [HAt.out]
        show some ((⟨q.xs, q.en, q.fn⟩ : Pp), q.ak) = some ((⟨q'.xs, q'.en, q'.fn⟩ : Pp), q.ak)
        have e : (⟨q'.xs, q'.en, q'.fn⟩ : Pp) = ⟨q.xs, q.en, q.fn⟩ := hsay
        rw [e])
      clear hz6 hw6 z6
      refine hK.out _ _ (.inl (by decide)) ?_
      clear hK K
      try simp only [Act.put, List.setIfInBounds_toArray, List.set_cons_zero, List.set_cons_succ]
      refine wpAnyL_done (by kernel_rfl) ?_ _
      clear q3 q5
      go_wp2
      go_roundw
      case rel => exact ⟨i + 1, by go_num, by omega, HT.out⟩
      case measure => simp [intOf]; omega
    · obtain rfl : i = n := by omega
      have hq1 := HQ.out.below hfr.bel
      have HFr := Lib.hid hfr
      have HC := Lib.hid (l_copied hq1)
      clear hfr hq1 hbk
      go_wp2_with fail
      refine HC.out.mono ?_
      rintro e w5 ⟨B2, k2, d2, rfl, hl5, hb5⟩
      have z5 := HFr.out.bx.below hb5
      have HL5 := Lib.hid (And.intro hl5 hb5)
      clear hl5 hb5 HC
      go_wp2_with (first
        | (with_reducible refine at_store 63 (.tmp 44) (.tmp 43) (by rfl) ?_
           refine wpList_store_bk rowL rfl (.tmp 44) (.tmp 43) rfl w.heap.size 4 rfl z5 [.slice B2 k2 d2] rfl rfl (by show 4 + 1 ≤ 5; omega) (by simp [Value.oneCell']) ?_
           intro w6 hz6 hw6
           have HD := Lib.hid (HFr.out.done HZL.out hn4 H.out.ok HL5.out.2 HL5.out.1 hz6 hw6)
           clear hz6 hw6 z5))
      go_ret
      exact ⟨_, _, rfl, HD.out.1, fun j hj => hj.1, HD.out.2⟩
end
end Go.Proofs.Ytnakoplceplmmaa
