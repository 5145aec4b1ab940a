/- All: the iterator over counters, whatever the loop's body does with memory of its own. -/
import Derived.Test.YtdepbdmnkkkjlaaDoorN6
import Derived.Test.YtdepbdmnkkkjlaaDoorRegZ
set_option linter.unusedSimpArgs false
set_option linter.unusedVariables false
set_option maxRecDepth 100000
namespace Go.Proofs.YtdepbdmnkkkjlaaDoor
open Go.RowKit Go.Shelf Go.Maps
theorem q_all (v : Option Addr) (w : World) :
    Calls Tryd.prog 38 #[.pointer v] w fun e w' => e = .returned (.func (.func 49) #[] #[.pointer (some ⟨w.heap.size, 0, none⟩)]) ∧ Bk w' 25 w.heap.size [.pointer v] ∧ Below w.heap.size w w' := by
  have HQ := Lib.hid (And.intro (Bk.new w 25 [.pointer v]) ((Below.refl _ w).alloc (Nat.le_refl _) (.cells #[.pointer v] 25)))
  go_enter Tryd.func38, Tryd.ntmps38
  go_wp2
  go_ret
  exact ⟨rfl, HQ.out.1, HQ.out.2⟩
/-- What a round keeps of the blocks from N on: all that the body does not own just then; what it owns later it owns now, or is new. -/
def KpW (Own : World → Nat → Prop) (N : Nat) (W W' : World) : Prop :=
  W.heap.size ≤ W'.heap.size ∧ ∀ k, N ≤ k → k < W.heap.size → ¬ Own W k → W'.heap[k]? = W.heap[k]? ∧ ¬ Own W' k
/-- The blocks that the iterator makes (a map, a row of names) are none that the body owns. -/
def Fit (Own : World → Nat → Prop) (w : World) : Prop := ∀ W W1, Below w.heap.size w W → Below W.heap.size W W1 → ∀ k, W.heap.size ≤ k →
  ((∃ es c, W1.heap[k]? = some (.map es c)) ∨ ∃ cur fz, W1.heap[k]? = some (.cells cur 9 fz)) → ¬ Own W1 k
theorem KpW.trans {Own : World → Nat → Prop} {N : Nat} {A B C : World} (h : KpW Own N A B) (k : KpW Own N B C) : KpW Own N A C := by
  refine ⟨Nat.le_trans h.1 k.1, fun i hN hi ho => ?_⟩
  obtain ⟨h1, h2⟩ := h.2 i hN hi ho
  obtain ⟨k1, k2⟩ := k.2 i hN (by have := h.1; omega) h2
  exact ⟨k1.trans h1, k2⟩
/-- The iterator over these counters that lies in this box. -/
def AllG (Own : World → Nat → Prop) (m : List Cn) (g1 : Nat) (w : World) (fu : Nat) : Prop :=
  GivesM Fence.wide fu Tryd.prog 49 #[.pointer (some ⟨g1, 0, none⟩)] (fun x : Cn => #[str x.s, num x.n]) (fun pre x _ => m[pre.length]? = some x) (KpW Own) (fun xs => xs = m) (fun pre => ∃ k, pre = m.take k) w
attribute [local go_sem] Oper.semAt_some
theorem no_gives (Own : World → Nat → Prop) (fu : Nat) (hfu : 3 ≤ fu) {A : Option Addr} {g1 : Nat} {w : World} (h : NoC w A) (hb1 : Bk w 25 g1 [.pointer A]) : AllG Own [] g1 w fu := fun l J Jx W hW hJ hJx hY h0 => by
  have E1 : Bk W 25 g1 [.pointer A] := hb1.below hW
  have E0 : NoC W A := fun ad e => by
    obtain ⟨g, e2, hb⟩ := h ad e
    exact ⟨g, e2, hb.below hW⟩
  have HM := Lib.hid (n_made E0)
  have c1 := E1.cell 0 rfl
  clear hb1 E0 E1 h
  refine callsIn_of_wp Tryd.func49 rfl trivial ?_ rfl
  simp only [Tryd.ntmps49, List.size_toArray, List.length_cons, List.length_nil, Nat.reduceAdd, Nat.reduceSub, Array.replicate_succ, Array.replicate_zero, List.push_toArray, List.append_toArray, List.nil_append, List.cons_append]
  gi_wp2
  refine ⟨trivial, fun _ => by omega, (callsIn_wide.2 HM.out).mono ?_⟩
  rintro e W1 ⟨rfl, rfl⟩
  gi_wp2
  refine bodyPost_ret (results_none rfl _ _ _) rfl ?_
  exact ⟨⟨_, rfl⟩, .inl ⟨[], rfl, h0⟩⟩
set_option maxHeartbeats 4000000 in
theorem all_gives (Own : World → Nat → Prop) (fu : Nat) (hfu : 3 ≤ fu) {g b g1 : Nat} {m : List Cn} {w : World} (h : CtC w g b m) (hb1 : Bk w 25 g1 [.pointer (some ⟨g, 0, none⟩)]) (hfit : Fit Own w) : AllG Own m g1 w fu := fun l J Jx W hW hJ hJx hY h0 => by
  have E1 : Bk W 25 g1 [.pointer (some ⟨g, 0, none⟩)] := hb1.below hW
  have E0 := h.below hW
  have HM := Lib.hid (c_made E0)
  have HC := Lib.hid (c_clone E0.mp)
  have HE := Lib.hid (And.intro E0 E1)
  have c1 := E1.cell 0 rfl
  have c0 := E0.bk.cell 0 rfl
  have HF := Lib.hid (hfit W · hW)
  have HJ0 := Lib.hid h0
  have hlen : Hid (m.length ≤ 256) := Lib.hid h.ok.len
  clear hb1 E0 E1 h hfit h0
  refine callsIn_of_wp Tryd.func49 rfl trivial ?_ rfl
  simp only [Tryd.ntmps49, List.size_toArray, List.length_cons, List.length_nil, Nat.reduceAdd, Nat.reduceSub, Array.replicate_succ, Array.replicate_zero, List.push_toArray, List.append_toArray, List.nil_append, List.cons_append]
  gi_wp2
  refine ⟨trivial, fun _ => by omega, (callsIn_wide.2 HM.out).mono ?_⟩
  rintro e W1 ⟨rfl, rfl⟩
  gi_wp2
  refine ⟨trivial, fun _ => by omega, (callsIn_wide.2 HC.out).mono ?_⟩
  rintro e W1 ⟨rfl, hm1, hb1⟩
  have H1 := Lib.hid (And.intro hm1 hb1)
  have HS := Lib.hid (c_sorted hm1 HE.out.1.ok.srt (by have := hlen.out; omega))
  clear c0 c1 hm1 hb1
  gi_wp2
  refine ⟨trivial, fun _ => by omega, (callsIn_wide.2 HS.out).mono ?_⟩
  rintro e W2 ⟨A, n, c, rfl, hl2, hb2⟩
  have hn : n = m.length := by have := hl2.1; simpa using this.symm
  subst hn
  have hbW : Below W.heap.size W W2 := below_on H1.out.2 hb2
  have H2 := Lib.hid (And.intro hl2 (And.intro (H1.out.1.below hb2) hbW))
  have HT : Hid (∀ q, (q = W.heap.size ∨ BlkOf A q) → W.heap.size ≤ q ∧ q < W2.heap.size ∧ ¬ Own W2 q) := Lib.hid (by
    rintro q (rfl | ⟨ad, rfl, rfl⟩)
    · have hm2 := H1.out.1.below hb2
      refine ⟨Nat.le_refl _, hm2.lt, HF.out W2 hbW _ (Nat.le_refl _) (.inl ?_)⟩
      obtain ⟨es, c, hh, _⟩ := hm2
      exact ⟨es, c, hh⟩
    · have hk := hl2.blk _ rfl
      have hk1 : W.heap.size ≤ ad.block := Nat.le_trans H1.out.2.size hk.1
      refine ⟨hk1, hk.2, HF.out W2 hbW _ hk1 (.inr ?_)⟩
      rcases hl2.2.2.2.2 with ⟨e, _⟩ | ⟨g, o, cur, e, _, hh, _⟩
      · cases e
      · injection e with e
        subst e
        exact ⟨cur, _, hh⟩)
  have HJ2 := Lib.hid (hJ [] W W2 none HJ0.out (grown_of hbW) (by simp))
  clear hl2 hb2 hbW
  gi_wp2
  gi_loopw [17] (fun i' wr => ∃ k : Nat, k ≤ m.length ∧ i' = .int .i64 k ∧ J (m.take k) wr ∧ W2.heap.size ≤ wr.heap.size ∧ ∀ q, (q = W.heap.size ∨ BlkOf A q) → wr.heap[q]? = W2.heap[q]? ∧ ¬ Own wr q) (fun i' _ => m.length - (intOf i').toNat)
  case atStart => exact ⟨0, by omega, rfl, by simpa using HJ2.out, Nat.le_refl _, fun q hq => ⟨rfl, (HT.out q hq).2.2⟩⟩
  case round =>
    obtain ⟨k, hk, rfl, hJk, hsz, hT⟩ := hrel
    have HR := Lib.hid (And.intro hJk (And.intro hsz hT))
    by_cases hlt : k < m.length
    · have hmr : MpN wr W.heap.size m := H2.out.2.1.same (hT _ (.inl rfl)).1
      have hlr : RdV wr A m.length c (m.map fun x => str x.s) := (H2.out.1.same fun ad he => (hT ad.block (.inr ⟨ad, he, rfl⟩)).1).rdv
      obtain ⟨g', o', rfl, hg', hx⟩ := hlr.cell hlt
      have hc : wr.cell? ⟨g', o' + k, none⟩ = some (str m[k].s) := by
        rw [hx]
        simp [hlt]
      have hgd := (HE.out.1.ok.all m[k] (List.getElem_mem hlt)).1
      have hs : m[k].s.length ≤ maxLen := by
        simp only [good, Bool.and_eq_true, decide_eq_true_eq] at hgd
        unfold maxLen
        omega
      have hlk := look_at hmr hs
      rw [show get m m[k].s = m[k].n from by unfold get; rw [look_of HE.out.1.ok.srt (List.getElem_mem hlt)]; rfl] at hlk
      have HTK : Hid (m.take (k + 1) = m.take k ++ [m[k]]) := Lib.hid (List.take_succ_eq_append_getElem hlt)
      have hlt' : (k : Int) < m.length := by omega
      have h256 := hlen.out
      have hy0 := hY (m.take k) m[k] wr hJk (by rw [List.length_take, Nat.min_eq_left (by omega), List.getElem?_eq_getElem hlt])
      generalize m[k] = x at *
      obtain ⟨fn, tmps, assign, body, hy, hR⟩ := hy0
      clear hx hg' hmr hlr hgd hJk hT hsz
      gi_wp2
      refine ⟨fun _ => by omega, hR.mono ?_⟩
      rintro e W3 (⟨rfl, hJ3, hk3⟩ | ⟨rfl, hJx3, _⟩)
      · have HF2 := Lib.hid (And.intro hJ3 hk3)
        clear hy hR hJ3 hk3 hc hlk
        gi_wp2
        go_roundw
        case rel =>
          obtain ⟨r1, r2, r3⟩ := HR.out
          refine ⟨k + 1, by omega, by go_num, by rw [HTK.out]; exact HF2.out.1, Nat.le_trans r2 HF2.out.2.1, fun q hq => ?_⟩
          obtain ⟨t1, t2, _⟩ := HT.out q hq
          obtain ⟨z1, z2⟩ := HF2.out.2.2 q t1 (Nat.lt_of_lt_of_le t2 r2) (r3 q hq).2
          exact ⟨z1.trans (r3 q hq).1, z2⟩
        case measure => simp [intOf]; omega
      · have HF2 := Lib.hid hJx3
        clear hy hR hJx3 hc hlk
        gi_wp2
        refine bodyPost_ret (results_none rfl _ _ _) rfl ?_
        exact ⟨⟨_, rfl⟩, .inr ⟨_, ⟨k + 1, HTK.out.symm⟩, HF2.out⟩⟩
    · obtain rfl : k = m.length := by omega
      gi_wp2
      go_end0
      exact ⟨⟨_, rfl⟩, .inl ⟨m, rfl, by have := HR.out.1; rwa [List.take_of_length_le (Nat.le_refl _)] at this⟩⟩
end Go.Proofs.YtdepbdmnkkkjlaaDoor
