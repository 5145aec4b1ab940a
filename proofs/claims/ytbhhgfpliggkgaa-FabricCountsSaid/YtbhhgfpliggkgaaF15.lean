/- The law's few: packets, not more, nor longer, than are looked at. -/
import Derived.Test.YtbhhgfpliggkgaaF14
set_option linter.unusedSimpArgs false
set_option linter.unusedVariables false
set_option maxRecDepth 100000
namespace Go.Proofs.Ytbhhgfpliggkgaa
open Go.RowKit Go.Shelf

def Pv.few (q : Pv) : Pv := ⟨q.h, q.A, min q.n 60, q.c, q.xs.take (min q.n 60)⟩
def Pk.few (p : Pk) : Pk := ⟨p.h, p.xs.take (min p.xs.length 60)⟩
def fewL (ks : List Pk) : List Pk := (ks.take 12).map Pk.few
theorem fewL_len (ks : List Pk) : (fewL ks).length ≤ 12 := by unfold fewL; rw [List.length_map, List.length_take]; omega
/-- Packets that came in: they lie below B. -/
structure RawP (B : Nat) (w : World) (A : Option Addr) (n : Nat) (qs : List Pv) : Prop where
  ln : n = qs.length
  row : ∀ i (h : i < qs.length), ∃ g o, A = some ⟨g, o, none⟩ ∧ g < B ∧ w.rangeAt g (o + i * 9) qs[i].cl
  rd : ∀ q ∈ qs, Rd .u8 w q.A q.n q.c q.xs ∧ q.h.fl ≤ 9223372036854775807 ∧ (0 < q.n → ∀ ad, q.A = some ad → ad.block < B)
  mx : n ≤ 9223372036854775807
  hB : B ≤ w.heap.size
section
variable {B : Nat} {w w' wr : World} {A : Option Addr} {n c : Nat} {qs : List Pv}
theorem RawP.keep (h : RawP B w A n qs) (hb : Below B w w') : RawP B w' A n qs := by
  obtain ⟨h1, h2, h3, h4, h5⟩ := h
  refine ⟨h1, fun i hi => ?_, fun q hq => ?_, h4, Nat.le_trans h5 hb.size⟩
  · obtain ⟨g, o, e, hg, hra⟩ := h2 i hi
    exact ⟨g, o, e, hg, fun j v hv => (hb.cell (p := ⟨g, _, none⟩) hg).trans (hra j v hv)⟩
  · obtain ⟨k1, k2, k3⟩ := h3 q hq
    exact ⟨k1.belowA k3 hb, k2, k3⟩
/-- What few leaves. -/
def Fewed (B : Nat) (w : World) (ks : List Pk) (e : Ending) (w' : World) : Prop := ∃ A n c, e = .returned (.slice A n c) ∧ n = (fewL ks).length ∧ Below w.heap.size w w' ∧ ∀ F : Nat → Prop, (∀ k, F k → B ≤ k ∧ k < w.heap.size) → SlP F w' A n c (fewL ks)
theorem few_snoc (i : Nat) (h : i < qs.length) : (qs.take (i + 1)).map Pv.few = (qs.take i).map Pv.few ++ [qs[i].few] := by
  rw [List.take_succ_eq_append_getElem h, List.map_append]; rfl
/-- A packet cut short reads, off what lies elsewhere. -/
theorem Pv.few_rd {q : Pv} {F : Nat → Prop} (h : Rd .u8 w q.A q.n q.c q.xs ∧ q.h.fl ≤ 9223372036854775807 ∧ (0 < q.n → ∀ ad, q.A = some ad → ad.block < B)) (hF : ∀ k, F k → B ≤ k) : PvR F w q.few ∧ q.few.pk = q.pk.few := by
  obtain ⟨h1, h2, h3⟩ := h
  refine ⟨⟨h1.pre (Nat.min_le_left _ _), by show min q.n 60 ≤ 1100; omega, h2, fun hn ad he hf => ?_⟩, ?_⟩
  · have := h3 (by have : 0 < min q.n 60 := hn; omega) ad he
    have := hF _ hf
    omega
  · unfold Pv.few Pk.few Pv.pk
    dsimp only
    rw [h1.1]
set_option maxHeartbeats 4000000 in
theorem l_few (h : RawP B w A n qs) :
    Calls Try.prog 10 #[.slice A n c] w (Fewed B w (qs.map Pv.pk)) := by
  have HR := Lib.hid (fun (W : World) (hW : Below w.heap.size w W) => h.keep (hW.mono h.hB))
  have HN := Lib.hid h.ln
  have hmx := h.mx
  have HB := Lib.hid h.hB
  clear h
  go_enter Try.func10, Try.ntmps10
  go_wp2
  go_loopw [3, 4] (fun s v wr => ∃ (i : Nat) (A' : Option Addr) (c' : Nat), v = .int .i64 i ∧ s = .slice A' i c' ∧ i ≤ n ∧ i ≤ 12 ∧ LstR 9 65 (w.heap.size ≤ ·) wr A' i c' (flat Pv.cl ((qs.take i).map Pv.few)) ∧ Below w.heap.size w wr) (fun _ v _ => 12 - (intOf v).toNat)
  case atStart => exact ⟨0, none, 0, rfl, rfl, Nat.zero_le _, by decide, LstR.nil _ _ _ _, Below.refl _ _⟩
  case round =>
    obtain ⟨i, A', c', rfl, rfl, hin, hi12, hl, hb⟩ := hrel
    by_cases hc : i < n ∧ i < 12
    · obtain ⟨hlt, h12⟩ := hc
      have hlt' : (i : Int) < n := by omega
      have h12' : (i : Int) < 12 := by omega
      have hiq : i < qs.length := by rw [← HN.out]; exact hlt
      have hRw := HR.out wr hb
      obtain ⟨g, o, rfl, hg, hra⟩ := hRw.row i hiq
      have hq := hRw.rd qs[i] (List.getElem_mem _)
      have hsn := few_snoc i hiq
      generalize qs[i] = q at *
      have HSN := Lib.hid hsn
      have hnc := hq.1.2.1
      have hcm : q.c ≤ maxLen := hq.1.2.2.1
      simp only [maxLen] at hcm
      have HL := Lib.hid hl
      have HBl := Lib.hid hb
      clear hsn hRw hq hl hb
      by_cases h60 : q.n ≤ 60
      · skip
        have hx : Bk (wr.alloc (.cells (List.toArray [.int .i64 q.h.kd, .int .i64 q.h.fl, .int .i64 q.h.pa, .int .i64 q.h.sr, .int .i64 q.h.ds, .int .i64 q.h.cn, .int .i64 q.h.sq, .int .i64 q.h.pu, .slice q.A q.n q.c]) 65)) 65 wr.heap.size [.int .i64 q.h.kd, .int .i64 q.h.fl, .int .i64 q.h.pa, .int .i64 q.h.sr, .int .i64 q.h.ds, .int .i64 q.h.cn, .int .i64 q.h.sq, .int .i64 q.h.pu, .slice q.A q.n q.c] := Bk.new wr 65 [.int .i64 q.h.kd, .int .i64 q.h.fl, .int .i64 q.h.pa, .int .i64 q.h.sr, .int .i64 q.h.ds, .int .i64 q.h.cn, .int .i64 q.h.sq, .int .i64 q.h.pu, .slice q.A q.n q.c]
        have hec : q.few.cl = [.int .i64 q.h.kd, .int .i64 q.h.fl, .int .i64 q.h.pa, .int .i64 q.h.sr, .int .i64 q.h.ds, .int .i64 q.h.cn, .int .i64 q.h.sq, .int .i64 q.h.pu, .slice q.A q.n q.c] := by unfold Pv.few Pv.cl; dsimp only; rw [Nat.min_eq_left h60]
        have HEC := Lib.hid hec
        have hla := ((HL.out.alloc (.cells (List.toArray [.int .i64 q.h.kd, .int .i64 q.h.fl, .int .i64 q.h.pa, .int .i64 q.h.sr, .int .i64 q.h.ds, .int .i64 q.h.cn, .int .i64 q.h.sq, .int .i64 q.h.pu, .slice q.A q.n q.c]) 65)).alloc (.cells (List.toArray [.int .i64 q.h.kd, .int .i64 q.h.fl, .int .i64 q.h.pa, .int .i64 q.h.sr, .int .i64 q.h.ds, .int .i64 q.h.cn, .int .i64 q.h.sq, .int .i64 q.h.pu, .slice q.A q.n q.c]) 65)).tight
        have hu : RdR 9 ((wr.alloc (.cells (List.toArray [.int .i64 q.h.kd, .int .i64 q.h.fl, .int .i64 q.h.pa, .int .i64 q.h.sr, .int .i64 q.h.ds, .int .i64 q.h.cn, .int .i64 q.h.sq, .int .i64 q.h.pu, .slice q.A q.n q.c]) 65)).alloc (.cells (List.toArray [.int .i64 q.h.kd, .int .i64 q.h.fl, .int .i64 q.h.pa, .int .i64 q.h.sr, .int .i64 q.h.ds, .int .i64 q.h.cn, .int .i64 q.h.sq, .int .i64 q.h.pu, .slice q.A q.n q.c]) 65)) (some ⟨wr.heap.size + 1, 0, none⟩) 1 1 [.int .i64 q.h.kd, .int .i64 q.h.fl, .int .i64 q.h.pa, .int .i64 q.h.sr, .int .i64 q.h.ds, .int .i64 q.h.cn, .int .i64 q.h.sq, .int .i64 q.h.pu, .slice q.A q.n q.c] := by
          have := RdR.one (wr.alloc (.cells (List.toArray [.int .i64 q.h.kd, .int .i64 q.h.fl, .int .i64 q.h.pa, .int .i64 q.h.sr, .int .i64 q.h.ds, .int .i64 q.h.cn, .int .i64 q.h.sq, .int .i64 q.h.pu, .slice q.A q.n q.c]) 65)) 65 [.int .i64 q.h.kd, .int .i64 q.h.fl, .int .i64 q.h.pa, .int .i64 q.h.sr, .int .i64 q.h.ds, .int .i64 q.h.cn, .int .i64 q.h.sq, .int .i64 q.h.pu, .slice q.A q.n q.c] (by rw [← hec]; exact Pv.cl_one _)
          rw [World.size_alloc] at this
          exact this
        have hb3 : Below w.heap.size w ((wr.alloc (.cells (List.toArray [.int .i64 q.h.kd, .int .i64 q.h.fl, .int .i64 q.h.pa, .int .i64 q.h.sr, .int .i64 q.h.ds, .int .i64 q.h.cn, .int .i64 q.h.sq, .int .i64 q.h.pu, .slice q.A q.n q.c]) 65)).alloc (.cells (List.toArray [.int .i64 q.h.kd, .int .i64 q.h.fl, .int .i64 q.h.pa, .int .i64 q.h.sr, .int .i64 q.h.ds, .int .i64 q.h.cn, .int .i64 q.h.sq, .int .i64 q.h.pu, .slice q.A q.n q.c]) 65)) := (HBl.out.alloc HBl.out.size _).alloc (by have := HBl.out.size; simp; omega) _
        have hk : (i + 1) * 88 ≤ 140737488355328 := by omega
        have HB3 := Lib.hid hb3
        clear hec hb3
        go_wp2_with (first
          | (with_reducible refine at_load 65 (.tmp 18) (by rfl) ?_; refine wpList_load_pk rowP rfl (.tmp 18) rfl q g (o + i * 9) rfl hra ?_)
          | (at_builtin
             refine wpList_append_lstR eltP rfl (.tmp 28) (.tmp 30) rfl rfl hla rfl hu hk ?_
             rintro v2 w2 ⟨⟨A2, n2, c2, rfl, hl2⟩, hst2⟩))
        obtain ⟨hn2, HE⟩ : n2 = i + 1 ∧ Hid (LstR 9 65 (w.heap.size ≤ ·) w2 A2 (i + 1) c2 (flat Pv.cl ((qs.take (i + 1)).map Pv.few)) ∧ Below w.heap.size w w2) := by
          have hF : ∀ k, BlkOf A' k → w.heap.size ≤ k := by rintro k ⟨ad, he, rfl⟩; exact (HL.out.blk ad he).1
          have e : flat Pv.cl ((qs.take i).map Pv.few) ++ [.int .i64 q.h.kd, .int .i64 q.h.fl, .int .i64 q.h.pa, .int .i64 q.h.sr, .int .i64 q.h.ds, .int .i64 q.h.cn, .int .i64 q.h.sq, .int .i64 q.h.pu, .slice q.A q.n q.c] = flat Pv.cl ((qs.take (i + 1)).map Pv.few) := by rw [HSN.out, flat_app, ← HEC.out]; simp [flat]
          rw [e] at hl2
          have hn2 : n2 = i + 1 := by
            have h1 : (flat Pv.cl ((qs.take (i + 1)).map Pv.few)).length = n2 * 9 := hl2.1
            have h2 : (flat Pv.cl ((qs.take i).map Pv.few)).length = i * 9 := HL.out.1
            rw [flat_len Pv.cl_len, HSN.out, List.length_append, List.length_cons, List.length_nil] at h1
            rw [flat_len Pv.cl_len] at h2
            omega
          subst hn2
          refine ⟨rfl, Lib.hid ⟨hl2.mono fun k hk => ?_, HB3.out.trans (hst2.below HB3.out.size hF)⟩⟩
          rcases hk with hk | hk
          · exact hF k hk
          · exact Nat.le_trans HB3.out.size hk
        subst hn2
        clear hst2 hl2 hla hu hx hra
        go_wp2
        go_roundw
        case rel => exact ⟨i + 1, A2, c2, by go_num, rfl, by omega, by omega, HE.out.1, HE.out.2⟩
        case measure => simp [intOf]; omega
      · have h61 : 60 ≤ q.n := by omega
        have h62 : 60 ≤ q.c := by omega
        have hx : Bk (wr.alloc (.cells (List.toArray [.int .i64 q.h.kd, .int .i64 q.h.fl, .int .i64 q.h.pa, .int .i64 q.h.sr, .int .i64 q.h.ds, .int .i64 q.h.cn, .int .i64 q.h.sq, .int .i64 q.h.pu, .slice q.A 60 q.c]) 65)) 65 wr.heap.size [.int .i64 q.h.kd, .int .i64 q.h.fl, .int .i64 q.h.pa, .int .i64 q.h.sr, .int .i64 q.h.ds, .int .i64 q.h.cn, .int .i64 q.h.sq, .int .i64 q.h.pu, .slice q.A 60 q.c] := Bk.new wr 65 [.int .i64 q.h.kd, .int .i64 q.h.fl, .int .i64 q.h.pa, .int .i64 q.h.sr, .int .i64 q.h.ds, .int .i64 q.h.cn, .int .i64 q.h.sq, .int .i64 q.h.pu, .slice q.A 60 q.c]
        have hec : q.few.cl = [.int .i64 q.h.kd, .int .i64 q.h.fl, .int .i64 q.h.pa, .int .i64 q.h.sr, .int .i64 q.h.ds, .int .i64 q.h.cn, .int .i64 q.h.sq, .int .i64 q.h.pu, .slice q.A 60 q.c] := by unfold Pv.few Pv.cl; dsimp only; rw [Nat.min_eq_right h61]
        have HEC := Lib.hid hec
        have hla := ((HL.out.alloc (.cells (List.toArray [.int .i64 q.h.kd, .int .i64 q.h.fl, .int .i64 q.h.pa, .int .i64 q.h.sr, .int .i64 q.h.ds, .int .i64 q.h.cn, .int .i64 q.h.sq, .int .i64 q.h.pu, .slice q.A 60 q.c]) 65)).alloc (.cells (List.toArray [.int .i64 q.h.kd, .int .i64 q.h.fl, .int .i64 q.h.pa, .int .i64 q.h.sr, .int .i64 q.h.ds, .int .i64 q.h.cn, .int .i64 q.h.sq, .int .i64 q.h.pu, .slice q.A 60 q.c]) 65)).tight
        have hu : RdR 9 ((wr.alloc (.cells (List.toArray [.int .i64 q.h.kd, .int .i64 q.h.fl, .int .i64 q.h.pa, .int .i64 q.h.sr, .int .i64 q.h.ds, .int .i64 q.h.cn, .int .i64 q.h.sq, .int .i64 q.h.pu, .slice q.A 60 q.c]) 65)).alloc (.cells (List.toArray [.int .i64 q.h.kd, .int .i64 q.h.fl, .int .i64 q.h.pa, .int .i64 q.h.sr, .int .i64 q.h.ds, .int .i64 q.h.cn, .int .i64 q.h.sq, .int .i64 q.h.pu, .slice q.A 60 q.c]) 65)) (some ⟨wr.heap.size + 1, 0, none⟩) 1 1 [.int .i64 q.h.kd, .int .i64 q.h.fl, .int .i64 q.h.pa, .int .i64 q.h.sr, .int .i64 q.h.ds, .int .i64 q.h.cn, .int .i64 q.h.sq, .int .i64 q.h.pu, .slice q.A 60 q.c] := by
          have := RdR.one (wr.alloc (.cells (List.toArray [.int .i64 q.h.kd, .int .i64 q.h.fl, .int .i64 q.h.pa, .int .i64 q.h.sr, .int .i64 q.h.ds, .int .i64 q.h.cn, .int .i64 q.h.sq, .int .i64 q.h.pu, .slice q.A 60 q.c]) 65)) 65 [.int .i64 q.h.kd, .int .i64 q.h.fl, .int .i64 q.h.pa, .int .i64 q.h.sr, .int .i64 q.h.ds, .int .i64 q.h.cn, .int .i64 q.h.sq, .int .i64 q.h.pu, .slice q.A 60 q.c] (by rw [← hec]; exact Pv.cl_one _)
          rw [World.size_alloc] at this
          exact this
        have hb3 : Below w.heap.size w ((wr.alloc (.cells (List.toArray [.int .i64 q.h.kd, .int .i64 q.h.fl, .int .i64 q.h.pa, .int .i64 q.h.sr, .int .i64 q.h.ds, .int .i64 q.h.cn, .int .i64 q.h.sq, .int .i64 q.h.pu, .slice q.A 60 q.c]) 65)).alloc (.cells (List.toArray [.int .i64 q.h.kd, .int .i64 q.h.fl, .int .i64 q.h.pa, .int .i64 q.h.sr, .int .i64 q.h.ds, .int .i64 q.h.cn, .int .i64 q.h.sq, .int .i64 q.h.pu, .slice q.A 60 q.c]) 65)) := (HBl.out.alloc HBl.out.size _).alloc (by have := HBl.out.size; simp; omega) _
        have hk : (i + 1) * 88 ≤ 140737488355328 := by omega
        have HB3 := Lib.hid hb3
        clear hec hb3
        go_wp2_with (first
          | (with_reducible refine at_load 65 (.tmp 18) (by rfl) ?_; refine wpList_load_pk rowP rfl (.tmp 18) rfl q g (o + i * 9) rfl hra ?_)
          | (at_builtin
             refine wpList_append_lstR eltP rfl (.tmp 28) (.tmp 30) rfl rfl hla rfl hu hk ?_
             rintro v2 w2 ⟨⟨A2, n2, c2, rfl, hl2⟩, hst2⟩))
        obtain ⟨hn2, HE⟩ : n2 = i + 1 ∧ Hid (LstR 9 65 (w.heap.size ≤ ·) w2 A2 (i + 1) c2 (flat Pv.cl ((qs.take (i + 1)).map Pv.few)) ∧ Below w.heap.size w w2) := by
          have hF : ∀ k, BlkOf A' k → w.heap.size ≤ k := by rintro k ⟨ad, he, rfl⟩; exact (HL.out.blk ad he).1
          have e : flat Pv.cl ((qs.take i).map Pv.few) ++ [.int .i64 q.h.kd, .int .i64 q.h.fl, .int .i64 q.h.pa, .int .i64 q.h.sr, .int .i64 q.h.ds, .int .i64 q.h.cn, .int .i64 q.h.sq, .int .i64 q.h.pu, .slice q.A 60 q.c] = flat Pv.cl ((qs.take (i + 1)).map Pv.few) := by rw [HSN.out, flat_app, ← HEC.out]; simp [flat]
          rw [e] at hl2
          have hn2 : n2 = i + 1 := by
            have h1 : (flat Pv.cl ((qs.take (i + 1)).map Pv.few)).length = n2 * 9 := hl2.1
            have h2 : (flat Pv.cl ((qs.take i).map Pv.few)).length = i * 9 := HL.out.1
            rw [flat_len Pv.cl_len, HSN.out, List.length_append, List.length_cons, List.length_nil] at h1
            rw [flat_len Pv.cl_len] at h2
            omega
          subst hn2
          refine ⟨rfl, Lib.hid ⟨hl2.mono fun k hk => ?_, HB3.out.trans (hst2.below HB3.out.size hF)⟩⟩
          rcases hk with hk | hk
          · exact hF k hk
          · exact Nat.le_trans HB3.out.size hk
        subst hn2
        clear hst2 hl2 hla hu hx hra
        go_wp2
        go_roundw
        case rel => exact ⟨i + 1, A2, c2, by go_num, rfl, by omega, by omega, HE.out.1, HE.out.2⟩
        case measure => simp [intOf]; omega
    · have HL := Lib.hid hl
      have HBl := Lib.hid hb
      have hil : i = (fewL (qs.map Pv.pk)).length := by
        unfold fewL
        rw [List.length_map, List.length_take, List.length_map, ← HN.out]
        omega
      have HIL := Lib.hid hil
      clear hl hb hil
      have HE : Hid (Fewed B w (qs.map Pv.pk) (.returned (.slice A' i c')) wr) := Lib.hid (by
        refine ⟨A', i, c', rfl, HIL.out, HBl.out, fun F hF => ?_⟩
        have hRw := HR.out wr HBl.out
        refine ⟨(qs.take i).map Pv.few, ?_, HL.out.rd, ?_, fun q' hq' => ?_, fun _ ad he hf => ?_⟩
        · rw [List.length_map, List.length_take, ← HN.out, Nat.min_eq_left hin]
        · have e : qs.take i = qs.take 12 := by
            by_cases h12 : i = 12
            · rw [h12]
            · rw [List.take_of_length_le (by rw [← HN.out]; omega), List.take_of_length_le (by rw [← HN.out]; omega)]
          unfold fewL
          rw [List.map_map, ← List.map_take, List.map_map, e]
          refine List.map_congr_left fun q hq => ?_
          exact (Pv.few_rd (hRw.rd q (List.mem_of_mem_take hq)) (F := fun _ => False) (fun _ h => h.elim)).2
        · obtain ⟨q, hq, rfl⟩ := List.mem_map.1 hq'
          exact (Pv.few_rd (hRw.rd q (List.mem_of_mem_take hq)) fun k hk => (hF k hk).1).1
        · have := (HL.out.blk ad he).1
          have := (hF _ hf).2
          omega)
      by_cases h12 : i < 12
      · have hge : (n : Int) ≤ i := by omega
        have h12' : (i : Int) < 12 := by omega
        go_wp2
        go_ret
        exact HE.out
      · have h12' : (12 : Int) ≤ i := by omega
        by_cases hlt : i < n
        · have hlt' : (i : Int) < n := by omega
          go_wp2
          go_ret
          exact HE.out
        · have hge : (n : Int) ≤ i := by omega
          go_wp2
          go_ret
          exact HE.out
end
end Go.Proofs.Ytbhhgfpliggkgaa
