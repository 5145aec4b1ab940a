/- How many packets a fabric has. -/
import Derived.Test.YtbhhgfpliggkgaaF8
set_option linter.unusedSimpArgs false
set_option linter.unusedVariables false
set_option maxRecDepth 100000
namespace Go.Proofs.Ytbhhgfpliggkgaa
open Go.RowKit Go.Shelf
attribute [local go_sem] Oper.semAt_some

def FM.at2 (m : FM) (p : Nat × Nat) : Nat := (m.lows (p.1 : Int) (p.2 : Int)).length + (m.highs (p.1 : Int) (p.2 : Int)).length
def FM.total (m : FM) : Nat := (m.busy.map m.at2).sum
/-- What has been added up. -/
def accT (m : FM) (ps : List (Nat × Nat)) (pre : List (Fin ps.length)) : Nat := (pre.map fun i => m.at2 ps[i]).sum
theorem accT_snoc (m : FM) (ps : List (Nat × Nat)) (pre : List (Fin ps.length)) (x : Fin ps.length) : accT m ps (pre ++ [x]) = accT m ps pre + m.at2 ps[x] := by
  unfold accT; rw [List.map_append, List.sum_append]; simp
theorem accT_all (m : FM) (ps : List (Nat × Nat)) : accT m ps (List.finRange ps.length) = (ps.map m.at2).sum := by
  unfold accT
  congr 1
  apply List.ext_getElem
  · simp
  · intro i h1 h2
    simp
theorem accT_le (m : FM) (ps : List (Nat × Nat)) (h : ∀ p, m.at2 p ≤ 2048) : ∀ pre : List (Fin ps.length), accT m ps pre ≤ pre.length * 2048
  | [] => Nat.le_refl _
  | x :: r => by
    have h1 := accT_le m ps h r
    have h2 := h ps[x]
    unfold accT at h1 ⊢
    simp only [List.map_cons, List.sum_cons, List.length_cons]
    omega
section
variable {F X F1 X1 G : Nat → Prop} {w w' w1 W W' : World} {b b1 b3 s : Nat} {m m1 : FM} {pp : Nat → Nat} {FF : Nat → Nat → Prop} {k L H : Nat} {a c : AM} {B C : Int} {P A : Option Addr} {n d : Nat} {ks : List Pk}
/-- Within Total. -/
structure TotI (w : World) (P : Option Addr) (L0 : Nat) (s : Nat) (W : World) : Prop where
  bel : Below w.heap.size w W
  sz : L0 ≤ W.heap.size
  bx : Bk W 23 w.heap.size [.pointer P]
  sm : Bk W 3 (w.heap.size + 1) [.int .i64 s]
theorem TotI.own {row : Option Nat} {L0 : Nat} (h : TotI w P L0 s W) (hL : w.heap.size + 2 ≤ L) (hw : W.grownBy W' row)
    (hr : ∀ r, row = some r → L ≤ r ∧ ∃ o : Obj, W.heap[r]? = some o ∧ o.isCells = false) : TotI w P L0 s W' := by
  obtain ⟨h1, h0, h2, h3⟩ := h
  have hk : ∀ k, k < L → k < W.heap.size → W'.heap[k]? = W.heap[k]? := fun k hk hs => hw.block k hs (fun e => by have := (hr _ e.symm).1; omega)
  exact ⟨⟨hw.os.trans h1.os, hw.tape.trans h1.tape, hw.output.trans h1.output, Nat.le_trans h1.size hw.size, fun k hk' => (hk k (by omega) (by have := h1.size; omega)).trans (h1.block k hk')⟩, Nat.le_trans h0 hw.size, (hk _ (by omega) h2.lt).trans h2, (hk _ (by omega) h3.lt).trans h3⟩
set_option maxHeartbeats 4000000 in
theorem f_Total (h : FbP F X w P m pp FF) :
    Calls Try.prog 21 #[.pointer P] w fun e w' => e = .returned (.int .i64 m.total) ∧ Below w.heap.size w w' := by
  have HL := Lib.hid (fun (W : World) (hW : Below w.heap.size w W) (p q : Int) => f_lens (h.below hW) p q)
  have HB := Lib.hid (fun (W : World) (hW : Below w.heap.size w W) => f_Busy (h.below hW))
  have HFew := Lib.hid h.few
  clear h
  refine (callsIn_wide (n := 5)).1 ?_
  refine callsIn_of_wp_marks Try.func21 rfl trivial ?_ rfl
  simp only [Try.ntmps21, List.size_toArray, List.length_cons, List.length_nil, Nat.reduceAdd, Nat.reduceSub, Array.replicate_succ, Array.replicate_zero, List.push_toArray, List.append_toArray, List.nil_append, List.cons_append]
  have hb2 : Below w.heap.size w ((w.alloc (.cells #[.pointer P] 23)).alloc (.cells #[.int .i64 0] 3)) := ((Below.refl _ _).alloc (Nat.le_refl _) _).alloc (by simp) _
  have HI := Lib.hid (show TotI w P 0 0 ((w.alloc (.cells #[.pointer P] 23)).alloc (.cells #[.int .i64 0] 3)) from ⟨hb2, Nat.zero_le _, (Bk.new w 23 [.pointer P]).alloc _, by have := Bk.new (w.alloc (.cells #[.pointer P] 23)) 3 [.int .i64 0]; rw [World.size_alloc] at this; exact this⟩)
  have HBu := Lib.hid (HB.out _ hb2)
  clear hb2
  gi_wp2
  refine ⟨trivial, (callsIn_wide.2 HBu.out).mono ?_⟩
  rintro e W0 ⟨g, A, n, c, rfl, hg, hbx, hn, hrd, hA, hb⟩
  have hI0 : TotI w P W0.heap.size 0 W0 := ⟨HI.out.bel.trans (hb.mono HI.out.bel.size), Nat.le_refl _, HI.out.bx.below hb, HI.out.sm.below hb⟩
  have hgl := hbx.lt
  have hsz0 := hb.size
  simp only [World.size_alloc] at hg hA hsz0
  have HSZ : Hid (w.heap.size + 2 ≤ W0.heap.size) := Lib.hid (by omega)
  have hn64 : n ≤ 64 := by rw [hn]; exact m.busyN_len 64
  have HT : Hid (∀ k, (k = g ∨ BlkOf A k) → w.heap.size + 2 ≤ k ∧ k < W0.heap.size) := Lib.hid (by
    rintro k (rfl | ⟨ad, he, rfl⟩)
    · exact ⟨by omega, hgl⟩
    · exact ⟨by have := (hA ad he).1; omega, (hA ad he).2⟩)
  have HSt := Lib.hid (busy_stops (5 - 1) (by decide) (fun k => k = g ∨ BlkOf A k) g m.busy A n c W0 hn hn64 (.inl rfl) (fun ad he => .inr ⟨ad, he, rfl⟩) (fun k hk => (HT.out k hk).2) hbx hrd)
  have hl64 : m.busy.length ≤ 64 := by omega
  have HTo : Hid (accT m m.busy (List.finRange m.busy.length) = m.total) := Lib.hid (accT_all m m.busy)
  clear hg hbx hn hrd hA hb hgl hn64 HI HBu HB
  generalize m.busy = ps at *
  gi_wp2
  refine wpIn_rangeFunc_ownF rfl (by decide) (gf := 59) (lb := #[.pointer (some ⟨g, 0, none⟩)]) rfl trivial (enters_of Try.func59 (by kernel_rfl) rfl)
    HSt.out KpS.trans (KpS.put (fun k hk => (HT.out k hk).2)) (Below.refl _ _) (fun _ => rfl)
    (fun pre => TotI w P W0.heap.size (accT m ps pre)) (fun _ _ _ => False) (fun pre W W' row hI hw hr => hI.own (L := W0.heap.size) (by omega) hw hr) (fun _ _ _ _ _ hs _ _ => hs) hI0
    (fun i => { tmps := #[.pointer P, .pointer (some ⟨w.heap.size, 0, none⟩), .int .i64 0, .pointer (some ⟨w.heap.size + 1, 0, none⟩), .int .i64 ps[i].1, .int .i64 ps[i].2, undef, undef, .pointer P, .func (.func 59) #[] #[.pointer (some ⟨g, 0, none⟩)], .int .i64 ps[i].1, .int .i64 ps[i].2, undef, undef, undef, undef, undef, undef, undef, undef, undef, undef, undef, undef, undef], defers := [] }) ?assign ?body ?done ?stop
  case assign =>
    intro l x W K hK
    gi_wp2
    simpa using hK
  case body =>
    rintro l pre x W ⟨hbel, hszW, hbx, hsm⟩ hpre
    have c1 := hbx.cell 0 rfl
    have c3 := hsm.cell 0 rfl
    have f3 := hsm.free 0
    have hle := accT_le m ps (fun p => by have := HFew.out (p.1 : Int) (p.2 : Int); unfold FM.at2; omega) pre
    have hac : accT m ps (pre ++ [x]) = accT m ps pre + ((m.lows ((ps[x].1 : Nat) : Int) ((ps[x].2 : Nat) : Int)).length + (m.highs ((ps[x].1 : Nat) : Int) ((ps[x].2 : Nat) : Int)).length) := accT_snoc m ps pre x
    have hfw := HFew.out ((ps[x].1 : Nat) : Int) ((ps[x].2 : Nat) : Int)
    have HLn := Lib.hid (HL.out W hbel ((ps[x].1 : Nat) : Int) ((ps[x].2 : Nat) : Int))
    generalize (m.lows ((ps[x].1 : Nat) : Int) ((ps[x].2 : Nat) : Int)).length = lo at *
    generalize (m.highs ((ps[x].1 : Nat) : Int) ((ps[x].2 : Nat) : Int)).length = hi at *
    have HAC := Lib.hid hac
    obtain ⟨s, hs⟩ : ∃ s, s = accT m ps pre := ⟨_, rfl⟩
    rw [← hs] at hsm hle c3 HAC
    have HI1 := Lib.hid (And.intro hbel (And.intro hszW (And.intro hbx hsm)))
    have hw1 : IntKind.i64.wrap ((lo : Int) + hi) = lo + hi := by rw [IntKind.wrap_i64]; omega
    have hw2 : IntKind.i64.wrap ((s : Int) + (lo + hi)) = s + (lo + hi) := by rw [IntKind.wrap_i64]; omega
    clear hbel hszW hbx hsm hac hs
    gi_wp2
    refine ⟨trivial, (CallsIn.inRound l (callsIn_wide.2 HLn.out)).mono ?_⟩
    rintro e W2 ⟨rfl, hb2⟩
    obtain ⟨hbel, hszW, hbx, hsm⟩ := HI1.out
    have hsm2 := hsm.below hb2
    have c4 := hsm2.cell 0 rfl
    have f4 := hsm2.free 0
    have HE : Hid (KeepsOthers W (W2.setCell ⟨w.heap.size + 1, 0, none⟩ (.int .i64 (s + (lo + hi)))) ∧ KpS (fun k => k = g ∨ BlkOf A k) W (W2.setCell ⟨w.heap.size + 1, 0, none⟩ (.int .i64 (s + (lo + hi)))) ∧ TotI w P W0.heap.size (accT m ps (pre ++ [x])) (W2.setCell ⟨w.heap.size + 1, 0, none⟩ (.int .i64 (s + (lo + hi))))) := Lib.hid (by
      rw [HAC.out]
      refine ⟨(keepsOthers_of hb2).trans (KeepsOthers.setCell _ _ _), fun k hk => ?_, ?_⟩
      · have h1 := HT.out k hk
        exact (Below.heap_setCell _ _ _ _ (by simp; omega)).trans (hb2.block k (by omega))
      · refine ⟨(below_on hbel hb2).setCell (by simp) _, Nat.le_trans hszW (by simpa [World.setCell] using hb2.size), (hbx.below hb2).far (by simp) _, ?_⟩
        have := hsm2.set 0 (.int .i64 (s + (lo + hi)))
        simpa using this)
    clear hbel hszW hbx hsm hsm2 hb2 HI1 HLn c1 c3 f3
    gi_wp2
    exact HE.out
  case done =>
    rintro D ys W hD rfl ⟨hbel, hszW, hbx, hsm⟩ hK
    have c3 := hsm.cell 0 rfl
    rw [HTo.out] at c3
    have HB := Lib.hid hbel
    clear hbel hszW hbx hsm
    gi_wp2
    refine ⟨by simp, .inl ⟨_, _, rfl, run_takeDeferred hK, ?_⟩⟩
    refine ⟨_, results_tmp rfl _ _ _, rfl, ?_⟩
    have hb := HB.out
    refine ⟨hb.os, hb.tape, hb.output, by have := hb.size; simp [World.putObj]; omega, fun k hk => ?_⟩
    have := HSZ.out
    rw [World.putObj_heap_other (by omega)]
    exact hb.block k hk
  case stop =>
    rintro D c' pre W hD _ h _
    exact h.elim
end
end Go.Proofs.Ytbhhgfpliggkgaa
