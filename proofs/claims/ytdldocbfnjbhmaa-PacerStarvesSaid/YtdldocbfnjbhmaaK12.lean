/- A class' queue told; a pacer forked. -/
import Derived.Test.YtdldocbfnjbhmaaK11
set_option linter.unusedSimpArgs false
set_option linter.unusedVariables false
set_option maxRecDepth 100000
namespace Go.Proofs.Ytdldocbfnjbhmaa
open Go.RowKit Go.Shelf
attribute [local go_sem] Oper.semAt_some
def Pm.qOf (m : Pm) (g : Int) : List Ky := if g = 0 then m.q0 else if g = 1 then m.q1 else []
/-- Between two rounds: what has been told. -/
def QueI (qs : List Ky) (w : World) (pre : List (Fin qs.length)) (W : World) : Prop :=
  Below w.heap.size w W ∧ w.heap.size + 2 ≤ W.heap.size ∧ ∃ A n c, n ≤ pre.length ∧ Bk W 56 w.heap.size [.slice A n c] ∧ LstR 2 39 (fun k => w.heap.size < k) W A n c (flat Ky.cl (keys qs pre))
theorem queI_own {qs : List Ky} {w : World} {B : Nat} (hB : w.heap.size + 2 ≤ B) : OwnFrom B (QueI qs w) := by
  rintro pre W W' row ⟨h3, h4, A, n, c, h0, h5, h6⟩ hw hr
  have hk : ∀ k, k < w.heap.size + 2 → W'.heap[k]? = W.heap[k]? := fun k hk => hw.block k (by omega) (fun e => by have := (hr _ e.symm).1; omega)
  refine ⟨⟨hw.os.trans h3.os, hw.tape.trans h3.tape, hw.output.trans h3.output, Nat.le_trans h3.size hw.size, fun k hk' => (hk k (by omega)).trans (h3.block k hk')⟩, Nat.le_trans h4 hw.size, A, n, c, h0, (hk _ (by omega)).trans h5, h6.same fun ad he => ?_⟩
  refine hw.block _ (h6.blk ad he).2 fun e => ?_
  obtain ⟨_, o, ho, hc⟩ := hr _ e.symm
  rcases h6.2.2.2.2 with ⟨rfl, _⟩ | ⟨g, o', cur, rfl, _, hh, _⟩
  · cases he
  · injection he with he
    subst he
    rw [hh] at ho
    injection ho with ho
    subst ho
    cases hc
theorem QueI.next {qs : List Ky} {w W W' : World} {pre : List (Fin qs.length)} (h : QueI qs w pre W) (hb : Below W.heap.size W W') : QueI qs w pre W' := by
  obtain ⟨h3, h4, A, n, c, h0, h5, h6⟩ := h
  exact ⟨h3.trans (hb.mono h3.size), Nat.le_trans h4 hb.size, A, n, c, h0, h5.below hb, h6.below hb⟩
section
variable {F : Nat → Prop} {w w' : World} {p : Nat} {m : Pm} {P : Option Addr}
set_option maxHeartbeats 8000000 in
theorem p_queue (h : PcA F w p m) (g : Int) : Calls Try.prog 23 #[.pointer (some ⟨p, 0, none⟩), .int .i64 g] w (MadeQ (m.qOf g) w) := by
  have HM := Lib.hid (p_made h)
  by_cases hg : g = 0 ∨ g = 1
  · obtain ⟨b, p0, p1, F0, F1, hx⟩ := h
    rcases hg with rfl | rfl
    · have HV : Hid (m.qOf 0 = m.q0) := Lib.hid rfl
      have hmd := p_made (F := F) ⟨b, p0, p1, F0, F1, hx⟩
      have hba : Below w.heap.size w (w.alloc (.cells #[.slice none 0 0] 56)) := (Below.refl _ w).alloc (Nat.le_refl _) _
      have c2 := (hx.below hba).bk.cell 2 rfl
      have hS := hx.s0
      have hqn : m.q0.length ≤ 1024 := by have := hS.le; have := hx.mo; omega
      obtain ⟨qs, hqs⟩ : ∃ qs, qs = m.q0 := ⟨_, rfl⟩
      rw [← hqs] at hS hqn HV
      rw [HV.out]
      clear hqs HV hx
      refine (callsIn_wide (n := 5)).1 ?_
      refine callsIn_of_wp_marks Try.func23 rfl trivial ?_ rfl
      simp only [Try.ntmps23, List.size_toArray, List.length_cons, List.length_nil, Nat.reduceAdd, Nat.reduceSub, Array.replicate_succ, Array.replicate_zero, List.push_toArray, List.append_toArray, List.nil_append, List.cons_append]
      gi_wp2
      refine ⟨trivial, (callsIn_wide.2 hmd).mono ?_⟩
      rintro e w' ⟨rfl, rfl⟩
      gi_wp2
      refine ⟨trivial, (callsIn_wide.2 (q_all _ _)).mono ?_⟩
      rintro e w' ⟨rfl, rfl⟩
      gi_wp2
      obtain ⟨W0, hW0⟩ : ∃ W0, W0 = (w.alloc (.cells #[.slice none 0 0] 56)).alloc (.cells #[.pointer (some ⟨p0, 0, none⟩)] 66) := ⟨_, rfl⟩
      rw [← hW0]
      have hs0 : W0.heap.size = w.heap.size + 2 := by rw [hW0]; simp
      have hb0 : Below w.heap.size w W0 := by rw [hW0]; exact hba.alloc (by simp) _
      have q1 : Bk W0 56 w.heap.size [.slice none 0 0] := by rw [hW0]; exact (Bk.new w 56 [.slice none 0 0]).alloc _
      have q2 : Bk W0 66 (w.heap.size + 1) [.pointer (some ⟨p0, 0, none⟩)] := by
        have := Bk.new (w.alloc (.cells #[.slice none 0 0] 56)) 66 [.pointer (some ⟨p0, 0, none⟩)]
        rw [World.size_alloc] at this
        rw [hW0]; exact this
      have hL := fun W (hW : Below W0.heap.size W0 W) => q_list (hS.below (hb0.trans (hW.mono hb0.size)))
      clear hW0 c2 hba
      have hgv := all_gives (5 - 1) (by decide) (OwnB [] w.heap.size) (w.heap.size + 1) (some ⟨p0, 0, none⟩) qs W0 hqn hL q2 (by
        rintro W hW k (hk | hk | ⟨ad, n', c', hk, rfl⟩)
        · simp at hk
        · omega
        · rw [(q1.below hW).cell 0 rfl] at hk
          injection hk with hk
          injection hk with hk
          cases hk) (fun W W' hs hb k hk => OwnB.of_block (hb.block _ (by omega)) hk)
      refine wpIn_givesM rfl (by decide) (gf := 56) (lb := #[.pointer (some ⟨w.heap.size + 1, 0, none⟩)]) rfl trivial (enters_of Try.func56 (by kernel_rfl) rfl)
        hgv (Below.refl _ _) (fun _ => rfl) KpO.trans (fun N l W o o' hl ho h0 hc => kpO_put _ (B := w.heap.size + 1) (by omega) W l o o' (by omega) ho hc)
        (QueI qs w) (fun _ _ _ => False) (queI_own (by omega)) (fun _ _ _ _ _ hs _ _ => hs) ⟨hb0, by omega, _, _, _, Nat.zero_le _, q1, LstR.nil _ _ _ _⟩
        (fun pre x a' W => pre.length < qs.length ∧ ∃ b, Bk W 39 b (qs[x]).cl ∧ a' = { tmps := #[.pointer (some ⟨p, 0, none⟩), .int .i64 0, undef, undef, .slice none 0 0, .pointer (some ⟨w.heap.size, 0, none⟩), undef, .pointer (some ⟨b, 0, none⟩), .pointer (some ⟨p, 0, none⟩), .bool true, .bool false, .bool false, .int .i64 0, .bool false, .bool false, undef, undef, .bool false, .bool false, .pointer (some ⟨p, 0, none⟩), .int .i64 0, .pointer (some ⟨p, 0, none⟩), .pointer (some ⟨p, 2, none⟩), .pointer (some ⟨p, 2, none⟩), .pointer (some ⟨p0, 0, none⟩), .func (.func 56) #[] #[.pointer (some ⟨w.heap.size + 1, 0, none⟩)], .int .i64 x.val, .agg #[.int .i64 (qs[x]).s, .int .i64 (qs[x]).c], undef, undef, undef, undef, undef], defers := [] })
        ?hAx ?assign ?body ?done ?stop
      case hAx =>
        rintro pre x a' _ W W' row ⟨h0, b, h3, h4⟩ hw hr
        refine ⟨h0, b, (hw.block b h3.lt fun e => ?_).trans h3, h4⟩
        obtain ⟨_, o, ho, hc⟩ := hr _ e.symm
        rw [h3] at ho
        injection ho with ho
        subst ho
        cases hc
      case assign =>
        rintro l pre x W K hI hpl hK
        have hsz := hI.2.1
        have hbW : Below W.heap.size W (W.alloc (.cells #[.int .i64 (qs[x]).s, .int .i64 (qs[x]).c] 39)) := (Below.refl _ W).alloc (Nat.le_refl _) _
        have hnew := Bk.new W 39 (qs[x]).cl
        gi_wp2
        exact hK _ _ ((keepsOthers_of hbW).from _) (kpO_ext (by omega) hbW) (hI.next hbW) ⟨hpl, _, hnew, rfl⟩
      case body =>
        rintro l pre x a' W hszW ⟨hb, hsz, A1, n1, c1, hn1p, r2, hl⟩ ⟨hpl, bx, hbx, rfl⟩
        have cl := r2.cell 0 rfl
        have b0 : W.cell? ⟨bx, 0, none⟩ = some (.int .i64 (qs[x]).s) := hbx.cell 0 rfl
        have b1 : W.cell? ⟨bx, 1, none⟩ = some (.int .i64 (qs[x]).c) := hbx.cell 1 rfl
        have hsn := keys_snoc qs pre x
        have hn1 : (n1 + 1) * 16 ≤ 140737488355328 := by omega
        obtain ⟨y, hy⟩ : ∃ y, y = qs[x] := ⟨_, rfl⟩
        rw [← hy] at hsn hbx b0 b1 ⊢
        have nb2 : ¬ BlkOf A1 w.heap.size := by
          rintro ⟨ad, he, hbk⟩
          have := (hl.blk ad he).1
          omega
        have HP := Lib.hid hsn
        have hla := (hl.alloc (.cells #[.int .i64 y.s, .int .i64 y.c] 39)).tight
        have hu := RdR.one W 39 y.cl y.cl_one
        have hba : Below W.heap.size W (W.alloc (.cells #[.int .i64 y.s, .int .i64 y.c] 39)) := (Below.refl _ _).alloc (Nat.le_refl _) _
        have r2a := r2.below hba
        have cla := r2a.cell 0 rfl
        clear hsn hy
        gi_wp2_with (first
                     | (refine wpListIn_build_row eltK rfl (.tmp 29) rfl (xs := y.cl) rfl rfl ?_)
                     | (gi_at_builtin
                        refine wpListIn_append_lstR eltK rfl (.tmp 28) (.tmp 30) rfl rfl hla rfl hu hn1 ?_
                        rintro v w2 ⟨⟨A', n', c', rfl, hl'⟩, hst⟩
                        have r2w := r2a.st hst nb2
                        have c3 := r2w.cell 0 rfl
                        have f3 := r2w.free 0))
        have hsta : St (BlkOf A1) W w2 := (St.ext hba).trans hst (Gr.refl _ _)
        have hF' : ∀ ad, A' = some ad → BlkOf A1 ad.block ∨ W.heap.size ≤ ad.block := fun ad he => by
          rcases (hl'.blk ad he).1 with h | h
          · exact .inl h
          · exact .inr (Nat.le_trans hba.size h)
        rw [show Ky.cl y = flat Ky.cl [y] from (flat_one y).symm, ← flat_app] at hl'
        have hn' : n' = n1 + 1 := by
          have e1 : _ = n' * 2 := hl'.1
          have e2 : _ = n1 * 2 := hl.1
          rw [flat_len Ky.cl_len] at e1 e2
          simp at e1
          omega
        have hDF : LstR 2 39 (fun k => w.heap.size < k) w2 A' n' c' (flat Ky.cl (keys qs pre ++ [y])) := by
          refine hl'.mono ?_
          rintro k (⟨ad, he, rfl⟩ | hk)
          · exact (hl.blk ad he).1
          · have := Nat.le_trans hba.size hk; omega
        have hb2 : Below w.heap.size W w2 := ⟨hsta.os, hsta.tape, hsta.output, hsta.size, fun k hk => hsta.block k (by omega) (by
          rintro ⟨ad, he, hbk⟩
          have := (hl.blk ad he).1
          omega)⟩
        refine ⟨(((keepsOthers_of hba).trans (keeps_append hla hst)).trans (KeepsOthers.setCell _ _ _)).from _, KpO.stored r2 nb2 hba hst hF', ?_⟩
        unfold QueI
        rw [HP.out]
        exact ⟨(hb.trans hb2).setCell (p := ⟨w.heap.size, 0, none⟩) (by simp) _, by have := hsta.size; simp [World.setCell]; omega, A', n', c', by simp; omega, r2w.set 0 _, hDF.far (fun ad he hne => by have := (hDF.blk ad he).1; have h2 : ad.block = w.heap.size := hne; omega) _⟩
      case done =>
        rintro D ys W hD rfl ⟨hb, hsz, A1, n1, c1, hn1p, r2, hl⟩ hK
        rw [keys_all] at hl
        have cl := r2.cell 0 rfl
        have hnf : n1 = qs.length := by
          have e1 := hl.1
          rw [flat_len Ky.cl_len] at e1
          omega
        have HNF := Lib.hid hnf
        clear hnf
        gi_wp2
        refine ⟨by simp, .inl ⟨_, _, rfl, run_takeDeferred hK, ?_⟩⟩
        refine ⟨_, results_tmp rfl _ _ _, A1, n1, c1, rfl, HNF.out, ?_, ?_⟩
        · have hAD : ∀ ad, A1 = some ad → ad.block ≠ D := by
            rintro ad rfl rfl
            rcases hl.2.2.2.2 with ⟨h, _⟩ | ⟨g', o', cur, h, _, hh, _⟩
            · cases h
            · injection h with h
              subst h
              rw [hh] at hK
              cases hK
          exact (hl.same fun ad he => World.putObj_heap_other (hAD ad he)).mono fun k hk => Nat.le_of_lt hk
        · exact hb.trans ⟨rfl, rfl, rfl, by simp [World.putObj], fun k hk => World.putObj_heap_other (by omega)⟩
      case stop =>
        rintro D c' pre W hD _ h _
        exact h.elim
    · have HV : Hid (m.qOf 1 = m.q1) := Lib.hid rfl
      have hmd := p_made (F := F) ⟨b, p0, p1, F0, F1, hx⟩
      have hba : Below w.heap.size w (w.alloc (.cells #[.slice none 0 0] 56)) := (Below.refl _ w).alloc (Nat.le_refl _) _
      have c2 := (hx.below hba).bk.cell 3 rfl
      have hS := hx.s1
      have hqn : m.q1.length ≤ 1024 := by have := hS.le; have := hx.mo; omega
      obtain ⟨qs, hqs⟩ : ∃ qs, qs = m.q1 := ⟨_, rfl⟩
      rw [← hqs] at hS hqn HV
      rw [HV.out]
      clear hqs HV hx
      refine (callsIn_wide (n := 5)).1 ?_
      refine callsIn_of_wp_marks Try.func23 rfl trivial ?_ rfl
      simp only [Try.ntmps23, List.size_toArray, List.length_cons, List.length_nil, Nat.reduceAdd, Nat.reduceSub, Array.replicate_succ, Array.replicate_zero, List.push_toArray, List.append_toArray, List.nil_append, List.cons_append]
      gi_wp2
      refine ⟨trivial, (callsIn_wide.2 hmd).mono ?_⟩
      rintro e w' ⟨rfl, rfl⟩
      gi_wp2
      refine ⟨trivial, (callsIn_wide.2 (q_all _ _)).mono ?_⟩
      rintro e w' ⟨rfl, rfl⟩
      gi_wp2
      obtain ⟨W0, hW0⟩ : ∃ W0, W0 = (w.alloc (.cells #[.slice none 0 0] 56)).alloc (.cells #[.pointer (some ⟨p1, 0, none⟩)] 66) := ⟨_, rfl⟩
      rw [← hW0]
      have hs0 : W0.heap.size = w.heap.size + 2 := by rw [hW0]; simp
      have hb0 : Below w.heap.size w W0 := by rw [hW0]; exact hba.alloc (by simp) _
      have q1 : Bk W0 56 w.heap.size [.slice none 0 0] := by rw [hW0]; exact (Bk.new w 56 [.slice none 0 0]).alloc _
      have q2 : Bk W0 66 (w.heap.size + 1) [.pointer (some ⟨p1, 0, none⟩)] := by
        have := Bk.new (w.alloc (.cells #[.slice none 0 0] 56)) 66 [.pointer (some ⟨p1, 0, none⟩)]
        rw [World.size_alloc] at this
        rw [hW0]; exact this
      have hL := fun W (hW : Below W0.heap.size W0 W) => q_list (hS.below (hb0.trans (hW.mono hb0.size)))
      clear hW0 c2 hba
      have hgv := all_gives (5 - 1) (by decide) (OwnB [] w.heap.size) (w.heap.size + 1) (some ⟨p1, 0, none⟩) qs W0 hqn hL q2 (by
        rintro W hW k (hk | hk | ⟨ad, n', c', hk, rfl⟩)
        · simp at hk
        · omega
        · rw [(q1.below hW).cell 0 rfl] at hk
          injection hk with hk
          injection hk with hk
          cases hk) (fun W W' hs hb k hk => OwnB.of_block (hb.block _ (by omega)) hk)
      refine wpIn_givesM rfl (by decide) (gf := 56) (lb := #[.pointer (some ⟨w.heap.size + 1, 0, none⟩)]) rfl trivial (enters_of Try.func56 (by kernel_rfl) rfl)
        hgv (Below.refl _ _) (fun _ => rfl) KpO.trans (fun N l W o o' hl ho h0 hc => kpO_put _ (B := w.heap.size + 1) (by omega) W l o o' (by omega) ho hc)
        (QueI qs w) (fun _ _ _ => False) (queI_own (by omega)) (fun _ _ _ _ _ hs _ _ => hs) ⟨hb0, by omega, _, _, _, Nat.zero_le _, q1, LstR.nil _ _ _ _⟩
        (fun pre x a' W => pre.length < qs.length ∧ ∃ b, Bk W 39 b (qs[x]).cl ∧ a' = { tmps := #[.pointer (some ⟨p, 0, none⟩), .int .i64 1, undef, undef, .slice none 0 0, .pointer (some ⟨w.heap.size, 0, none⟩), undef, .pointer (some ⟨b, 0, none⟩), .pointer (some ⟨p, 0, none⟩), .bool true, .bool false, .bool false, .int .i64 1, .bool true, .bool true, .int .i64 1, .bool false, .bool false, .bool false, .pointer (some ⟨p, 0, none⟩), .int .i64 1, .pointer (some ⟨p, 0, none⟩), .pointer (some ⟨p, 2, none⟩), .pointer (some ⟨p, 3, none⟩), .pointer (some ⟨p1, 0, none⟩), .func (.func 56) #[] #[.pointer (some ⟨w.heap.size + 1, 0, none⟩)], .int .i64 x.val, .agg #[.int .i64 (qs[x]).s, .int .i64 (qs[x]).c], undef, undef, undef, undef, undef], defers := [] })
        ?hAx ?assign ?body ?done ?stop
      case hAx =>
        rintro pre x a' _ W W' row ⟨h0, b, h3, h4⟩ hw hr
        refine ⟨h0, b, (hw.block b h3.lt fun e => ?_).trans h3, h4⟩
        obtain ⟨_, o, ho, hc⟩ := hr _ e.symm
        rw [h3] at ho
        injection ho with ho
        subst ho
        cases hc
      case assign =>
        rintro l pre x W K hI hpl hK
        have hsz := hI.2.1
        have hbW : Below W.heap.size W (W.alloc (.cells #[.int .i64 (qs[x]).s, .int .i64 (qs[x]).c] 39)) := (Below.refl _ W).alloc (Nat.le_refl _) _
        have hnew := Bk.new W 39 (qs[x]).cl
        gi_wp2
        exact hK _ _ ((keepsOthers_of hbW).from _) (kpO_ext (by omega) hbW) (hI.next hbW) ⟨hpl, _, hnew, rfl⟩
      case body =>
        rintro l pre x a' W hszW ⟨hb, hsz, A1, n1, c1, hn1p, r2, hl⟩ ⟨hpl, bx, hbx, rfl⟩
        have cl := r2.cell 0 rfl
        have b0 : W.cell? ⟨bx, 0, none⟩ = some (.int .i64 (qs[x]).s) := hbx.cell 0 rfl
        have b1 : W.cell? ⟨bx, 1, none⟩ = some (.int .i64 (qs[x]).c) := hbx.cell 1 rfl
        have hsn := keys_snoc qs pre x
        have hn1 : (n1 + 1) * 16 ≤ 140737488355328 := by omega
        obtain ⟨y, hy⟩ : ∃ y, y = qs[x] := ⟨_, rfl⟩
        rw [← hy] at hsn hbx b0 b1 ⊢
        have nb2 : ¬ BlkOf A1 w.heap.size := by
          rintro ⟨ad, he, hbk⟩
          have := (hl.blk ad he).1
          omega
        have HP := Lib.hid hsn
        have hla := (hl.alloc (.cells #[.int .i64 y.s, .int .i64 y.c] 39)).tight
        have hu := RdR.one W 39 y.cl y.cl_one
        have hba : Below W.heap.size W (W.alloc (.cells #[.int .i64 y.s, .int .i64 y.c] 39)) := (Below.refl _ _).alloc (Nat.le_refl _) _
        have r2a := r2.below hba
        have cla := r2a.cell 0 rfl
        clear hsn hy
        gi_wp2_with (first
                     | (refine wpListIn_build_row eltK rfl (.tmp 29) rfl (xs := y.cl) rfl rfl ?_)
                     | (gi_at_builtin
                        refine wpListIn_append_lstR eltK rfl (.tmp 28) (.tmp 30) rfl rfl hla rfl hu hn1 ?_
                        rintro v w2 ⟨⟨A', n', c', rfl, hl'⟩, hst⟩
                        have r2w := r2a.st hst nb2
                        have c3 := r2w.cell 0 rfl
                        have f3 := r2w.free 0))
        have hsta : St (BlkOf A1) W w2 := (St.ext hba).trans hst (Gr.refl _ _)
        have hF' : ∀ ad, A' = some ad → BlkOf A1 ad.block ∨ W.heap.size ≤ ad.block := fun ad he => by
          rcases (hl'.blk ad he).1 with h | h
          · exact .inl h
          · exact .inr (Nat.le_trans hba.size h)
        rw [show Ky.cl y = flat Ky.cl [y] from (flat_one y).symm, ← flat_app] at hl'
        have hn' : n' = n1 + 1 := by
          have e1 : _ = n' * 2 := hl'.1
          have e2 : _ = n1 * 2 := hl.1
          rw [flat_len Ky.cl_len] at e1 e2
          simp at e1
          omega
        have hDF : LstR 2 39 (fun k => w.heap.size < k) w2 A' n' c' (flat Ky.cl (keys qs pre ++ [y])) := by
          refine hl'.mono ?_
          rintro k (⟨ad, he, rfl⟩ | hk)
          · exact (hl.blk ad he).1
          · have := Nat.le_trans hba.size hk; omega
        have hb2 : Below w.heap.size W w2 := ⟨hsta.os, hsta.tape, hsta.output, hsta.size, fun k hk => hsta.block k (by omega) (by
          rintro ⟨ad, he, hbk⟩
          have := (hl.blk ad he).1
          omega)⟩
        refine ⟨(((keepsOthers_of hba).trans (keeps_append hla hst)).trans (KeepsOthers.setCell _ _ _)).from _, KpO.stored r2 nb2 hba hst hF', ?_⟩
        unfold QueI
        rw [HP.out]
        exact ⟨(hb.trans hb2).setCell (p := ⟨w.heap.size, 0, none⟩) (by simp) _, by have := hsta.size; simp [World.setCell]; omega, A', n', c', by simp; omega, r2w.set 0 _, hDF.far (fun ad he hne => by have := (hDF.blk ad he).1; have h2 : ad.block = w.heap.size := hne; omega) _⟩
      case done =>
        rintro D ys W hD rfl ⟨hb, hsz, A1, n1, c1, hn1p, r2, hl⟩ hK
        rw [keys_all] at hl
        have cl := r2.cell 0 rfl
        have hnf : n1 = qs.length := by
          have e1 := hl.1
          rw [flat_len Ky.cl_len] at e1
          omega
        have HNF := Lib.hid hnf
        clear hnf
        gi_wp2
        refine ⟨by simp, .inl ⟨_, _, rfl, run_takeDeferred hK, ?_⟩⟩
        refine ⟨_, results_tmp rfl _ _ _, A1, n1, c1, rfl, HNF.out, ?_, ?_⟩
        · have hAD : ∀ ad, A1 = some ad → ad.block ≠ D := by
            rintro ad rfl rfl
            rcases hl.2.2.2.2 with ⟨h, _⟩ | ⟨g', o', cur, h, _, hh, _⟩
            · cases h
            · injection h with h
              subst h
              rw [hh] at hK
              cases hK
          exact (hl.same fun ad he => World.putObj_heap_other (hAD ad he)).mono fun k hk => Nat.le_of_lt hk
        · exact hb.trans ⟨rfl, rfl, rfl, by simp [World.putObj], fun k hk => World.putObj_heap_other (by omega)⟩
      case stop =>
        rintro D c' pre W hD _ h _
        exact h.elim
  · have HV : Hid (m.qOf g = []) := Lib.hid (by unfold Pm.qOf; rw [if_neg (fun e => hg (.inl e)), if_neg (fun e => hg (.inr e))])
    have hg0 : ¬ g = 0 := by omega
    have hg0' : (g != 0) = true := by simp; omega
    have hg1' : (g != 1) = true := by simp; omega
    clear hg
    go_enter Try.func23, Try.ntmps23
    go_wp2_with fail
    refine HM.out.mono ?_
    rintro e w' ⟨rfl, rfl⟩
    go_wp2
    go_ret
    rw [HV.out]
    exact ⟨none, 0, 0, rfl, rfl, LstR.nil _ _ _ _, Below.refl _ _⟩
end
end Go.Proofs.Ytdldocbfnjbhmaa
