/- The iterator over one message's pieces. -/
import Derived.Test.YtmnmkolcffehhaaU2
import Derived.Test.YtmnmkolcffehhaaRegZ
set_option linter.unusedSimpArgs false
set_option linter.unusedVariables false
namespace Go.Proofs.Ytmnmkolcffehhaa
open Go.RowKit Go.Shelf
theorem grown_of {w w' : World} (h : Below w.heap.size w w') : w.grownBy w' none := ⟨h.os, h.tape, h.output, h.size, fun k hk _ => h.block k hk⟩
/-- What an iterator that hands on the pieces ps owes. -/
def Gv (n0 : Nat) (ps : List Pp) (fu : Nat) (g : Nat) (lb : Array Value) (w : World) : Prop :=
  GivesM Fence.wide fu Try.prog g lb (fun q : Pc => #[.agg #[.slice q.A q.n q.c, .bool q.en, .bool q.fn]]) (fun pre q W => ps[pre.length]? = some q.say ∧ PcR W q) (KpT n0) (fun ys => ys.map Pc.say = ps) (fun pre => ∃ k, pre.map Pc.say = ps.take k) w
theorem c_pieces (A : Option Addr) (n c : Nat) (m : Int) (w : World) :
    Calls Try.prog 19 #[.slice A n c, .int .i64 m] w fun e w' => e = .returned (.func (.func 22) #[] #[.pointer (some ⟨w.heap.size, 0, none⟩), .pointer (some ⟨w.heap.size + 1, 0, none⟩)]) ∧
      Bk w' 22 w.heap.size [.slice A n c] ∧ Bk w' 3 (w.heap.size + 1) [.int .i64 m] ∧ Below w.heap.size w w' := by
  have q1 := (Bk.new w 22 [.slice A n c]).alloc (.cells #[.int .i64 m] 3)
  have q2 := Bk.new (w.alloc (.cells #[.slice A n c] 22)) 3 [.int .i64 m]
  rw [World.size_alloc] at q2
  have HQ := Lib.hid (And.intro q1 (And.intro q2 (((Below.refl _ w).alloc (Nat.le_refl _) (.cells #[.slice A n c] 22)).alloc (by simp) (.cells #[.int .i64 m] 3))))
  clear q1 q2
  go_enter Try.func19, Try.ntmps19
  go_wp2
  go_ret
  exact ⟨rfl, HQ.out.1, HQ.out.2.1, HQ.out.2.2⟩
attribute [local go_sem] Oper.semAt_some
set_option maxRecDepth 100000 in
set_option maxHeartbeats 2000000 in
theorem pcs_gives (fu : Nat) (hfu : 2 ≤ fu) (n0 g1 g2 : Nat) (A : Option Addr) (n c : Nat) (xs : List Int) (m : Nat) (w : World) (hfit : fitB n m = true) (hA : BsK n0 w A n c xs)
    (r1 : Bk w 22 g1 [.slice A n c]) (r2 : Bk w 3 g2 [.int .i64 m]) :
    Gv n0 (cutL xs m) fu 22 #[.pointer (some ⟨g1, 0, none⟩), .pointer (some ⟨g2, 0, none⟩)] w := fun l J Jx W hW hJ hJx hY h0 => by
  obtain ⟨hn1, hn2, hm1, hm2⟩ := fit_of hfit
  have hxl := hA.1.1
  have hcc := hA.1.2.1
  have hK0 := KpT.below (n0 := n0) (N := W.heap.size) hW
  have a0 : BsK n0 W A n c xs := hA.kp hK0
  have e1 : Bk W 22 g1 [.slice A n c] := hK0.bk r1 (by decide) (by decide)
  have e2 : Bk W 3 g2 [.int .i64 m] := hK0.bk r2 (by decide) (by decide)
  have HE := Lib.hid (And.intro a0 (And.intro e1 e2))
  have HX := Lib.hid hxl
  have hcm : c ≤ maxLen := hA.1.2.2.1
  unfold maxLen at hcm
  clear hK0 r1 r2 a0 e1 e2 hA hxl
  refine callsIn_of_wp Try.func22 rfl trivial ?_ rfl
  simp only [Try.ntmps22, List.size_toArray, List.length_cons, List.length_nil, Nat.reduceAdd, Nat.reduceSub, Array.replicate_succ, Array.replicate_zero, List.push_toArray, List.append_toArray, List.nil_append, List.cons_append]
  gi_wp2
  gi_loopw [4] (fun i' wr => ∃ (k : Nat) (pre : List Pc), k ≤ cutN n m ∧ i' = .int .i64 ((k * m : Nat) : Int) ∧ pre.length = k ∧ pre.map Pc.say = (cutL xs m).take k ∧ J pre wr ∧ KpT n0 W.heap.size W wr) (fun i' _ => n + 1 - (intOf i').toNat)
  case atStart => exact ⟨0, [], Nat.zero_le _, by simp, rfl, by simp, h0, KpT.refl _ _ _⟩
  case round =>
    obtain ⟨k, pre, hk, rfl, hpl, hps, hJk, hr⟩ := hrel
    have A0 : BsK n0 wr A n c xs := HE.out.1.kp hr
    have E1 : Bk wr 22 g1 [.slice A n c] := hr.bk HE.out.2.1 (by decide) (by decide)
    have E2 : Bk wr 3 g2 [.int .i64 m] := hr.bk HE.out.2.2 (by decide) (by decide)
    have c1 := E1.cell 0 rfl
    have c2 := E2.cell 0 rfl
    have hlt := cutN_lt (l := n) (m := m) (k := k) (by omega)
    have hlast := cutN_last (l := n) (m := m) (k := k) (by omega)
    obtain ⟨f, hf⟩ : ∃ f, f = k * m := ⟨_, rfl⟩
    have hf2 : (k + 1) * m = f + m := by rw [hf, Nat.add_mul, Nat.one_mul]
    rw [← hf] at hlt hlast ⊢
    have HF := Lib.hid (And.intro hf hf2)
    clear hf hf2
    by_cases hfn : f < n
    · have hkK := hlt.2 hfn
      have hfn' : (f : Int) < n := by omega
      have HK := Lib.hid (And.intro A0 (And.intro E1 E2))
      have HPL := Lib.hid hpl
      have HPS := Lib.hid hps
      have HR := Lib.hid hr
      have HST := Lib.hid (hJ pre wr)
      have HCT := Lib.hid (And.intro (cutL_at xs m (i := k) (by rw [HX.out]; exact hkK)) (cutL_take xs m (i := k) (by rw [HX.out]; exact hkK)))
      have HKK := Lib.hid hkK
      have HY := Lib.hid hY
      clear hlt A0 E1 E2 hpl hps hr hkK
      by_cases hl : n ≤ f + m
      · have HCP : Hid (cutP xs m k = ⟨(xs.drop f).take (n - f), true, false⟩) := Lib.hid (by
          unfold cutP
          rw [← HF.out.1, HX.out, decide_eq_true ((hlast hfn).2 hl)]
          congr 1
          rw [List.take_of_length_le (by rw [List.length_drop, HX.out]; omega), List.take_of_length_le (by rw [List.length_drop, HX.out]; omega)])
        have hsl := fun W' => bytesT.run_cut2 A n c f (n - f) (by omega) hcc W'
        have hnf : (f : Int) + ((n - f : Nat) : Int) = n := by omega
        simp only [hnf] at hsl
        have HRD := Lib.hid ((HK.out.1.1.cut (s := f) (by omega)).pre (s := n - f) (Nat.le_refl _))
        have hmf : n - f ≤ 65536 := by omega
        clear hlast hnf
        rcases (by omega : (n : Int) < (f : Int) + m ∨ (f : Int) + m = n) with hl' | hl'
        all_goals
          gi_wp2
          refine wpIn_region_Z Ext [11] (by kernel_rfl) (fun wd hbd hsz => ?_)
          have HBD := Lib.hid hbd
          have HW := Lib.hid (HK.out.1.below hbd)
          have HRW := Lib.hid (HRD.out.below hbd)
          have q1 : ∀ W, Ext wd W → W.cell? ⟨g1, 0, none⟩ = some (.slice A n c) := fun W hW => (((HK.out.2.1).below hbd).below hW).cell 0 rfl
          clear hsz
          (refine takeZ Ext.tr 0 (by simp only [List.getElem?_toArray, List.getElem?_cons_succ, List.getElem?_cons_zero]; rfl) (by kernel_rfl) (by kernel_rfl) (by kernel_rfl) (by kernel_rfl) (by decide) (by exact fun _ _ _ h => h) (by first | (refine Or.inl ⟨by rfl, ?_⟩; intro W hW; go_simp; try with_reducible rfl) | exact Or.inr ⟨by rfl, rfl⟩) ?_; try simp only [Act.put, List.setIfInBounds_toArray, List.set_cons_zero, List.set_cons_succ])
          (refine takeZ Ext.tr 1 (by simp only [List.getElem?_toArray, List.getElem?_cons_succ, List.getElem?_cons_zero]; rfl) (by kernel_rfl) (by kernel_rfl) (by kernel_rfl) (by kernel_rfl) (by decide) (by exact fun _ _ _ h => h) (by first | (refine Or.inl ⟨by rfl, ?_⟩; intro W hW; go_simp; try with_reducible rfl) | exact Or.inr ⟨by rfl, rfl⟩) ?_; try simp only [Act.put, List.setIfInBounds_toArray, List.set_cons_zero, List.set_cons_succ])
          (refine takeZ Ext.tr 2 (by simp only [List.getElem?_toArray, List.getElem?_cons_succ, List.getElem?_cons_zero]; rfl) (by kernel_rfl) (by kernel_rfl) (by kernel_rfl) (by kernel_rfl) (by decide) (by exact fun _ _ _ h => h) (by first | (refine Or.inl ⟨by rfl, ?_⟩; intro W hW; go_simp; try with_reducible rfl) | exact Or.inr ⟨by rfl, rfl⟩) ?_; try simp only [Act.put, List.setIfInBounds_toArray, List.set_cons_zero, List.set_cons_succ])
          (refine takeZ Ext.tr 3 (by simp only [List.getElem?_toArray, List.getElem?_cons_succ, List.getElem?_cons_zero]; rfl) (by kernel_rfl) (by kernel_rfl) (by kernel_rfl) (by kernel_rfl) (by decide) (by exact fun _ _ _ h => h) (by first | (refine Or.inl ⟨by rfl, ?_⟩; intro W hW; go_simp; try with_reducible rfl) | exact Or.inr ⟨by rfl, rfl⟩) ?_; try simp only [Act.put, List.setIfInBounds_toArray, List.set_cons_zero, List.set_cons_succ])
          (refine takeZ Ext.tr 6 (by simp only [List.getElem?_toArray, List.getElem?_cons_succ, List.getElem?_cons_zero]; rfl) (by kernel_rfl) (by kernel_rfl) (by kernel_rfl) (by kernel_rfl) (by decide) (by exact fun _ _ _ h => h) (by first | (refine Or.inl ⟨by rfl, ?_⟩; intro W hW; go_simp; try with_reducible rfl) | exact Or.inr ⟨by rfl, rfl⟩) ?_; try simp only [Act.put, List.setIfInBounds_toArray, List.set_cons_zero, List.set_cons_succ])
          (refine takeZ Ext.tr 7 (by simp only [List.getElem?_toArray, List.getElem?_cons_succ, List.getElem?_cons_zero]; rfl) (by kernel_rfl) (by kernel_rfl) (by kernel_rfl) (by kernel_rfl) (by decide) (by exact fun _ _ _ h => h) (by first | (refine Or.inl ⟨by rfl, ?_⟩; intro W hW; go_simp; try with_reducible rfl) | exact Or.inr ⟨by rfl, rfl⟩) ?_; try simp only [Act.put, List.setIfInBounds_toArray, List.set_cons_zero, List.set_cons_succ])
          (refine takeZ Ext.tr 4 (by simp only [List.getElem?_toArray, List.getElem?_cons_succ, List.getElem?_cons_zero]; rfl) (by kernel_rfl) (by kernel_rfl) (by kernel_rfl) (by kernel_rfl) (by decide) (by exact fun _ _ _ h => h) (by first | (refine Or.inl ⟨by rfl, ?_⟩; intro W hW; go_simp; try with_reducible rfl) | exact Or.inr ⟨by rfl, rfl⟩) ?_; try simp only [Act.put, List.setIfInBounds_toArray, List.set_cons_zero, List.set_cons_succ])
          (refine takeZ Ext.tr 8 (by simp only [List.getElem?_toArray, List.getElem?_cons_succ, List.getElem?_cons_zero]; rfl) (by kernel_rfl) (by kernel_rfl) (by kernel_rfl) (by kernel_rfl) (by decide) (by exact fun _ _ _ h => h) (by first | (refine Or.inl ⟨by rfl, ?_⟩; intro W hW; go_simp; try with_reducible rfl) | exact Or.inr ⟨by rfl, rfl⟩) ?_; try simp only [Act.put, List.setIfInBounds_toArray, List.set_cons_zero, List.set_cons_succ])
          (refine takeZ Ext.tr 9 (by simp only [List.getElem?_toArray, List.getElem?_cons_succ, List.getElem?_cons_zero]; rfl) (by kernel_rfl) (by kernel_rfl) (by kernel_rfl) (by kernel_rfl) (by decide) (by exact fun _ _ _ h => h) (by first | (refine Or.inl ⟨by rfl, ?_⟩; intro W hW; go_simp; try with_reducible rfl) | exact Or.inr ⟨by rfl, rfl⟩) ?_; try simp only [Act.put, List.setIfInBounds_toArray, List.set_cons_zero, List.set_cons_succ])
          refine wpAnyZ_one (i := 5) (by kernel_rfl) (by decide) (by simp only [List.getElem?_toArray, List.getElem?_cons_succ, List.getElem?_cons_zero]; rfl) (fun K hK => ?_)
          go_simp
          refine (clone_any _ _ _ _ _ HRW.out hmf).mono ?_
          rintro e W2 ⟨v, rfl, hown, hb2⟩
          obtain ⟨A', c', rfl⟩ := own_slice hown
          have HPC : Hid (PcR W2 ⟨A', ((xs.drop f).take (n - f)).length, c', (xs.drop f).take (n - f), true, false⟩) := Lib.hid (BsR.own hown HRW.out.2.2.2.2.1)
          have HJ2 := Lib.hid (HST.out W2 none hJk (grown_of (HBD.out.trans (hb2.mono HBD.out.size))) (by simp))
          have HEX := Lib.hid (KpT.below (n0 := n0) (N := W.heap.size) (HBD.out.trans (hb2.mono HBD.out.size)))
          have hy := HY.out pre ⟨A', ((xs.drop f).take (n - f)).length, c', (xs.drop f).take (n - f), true, false⟩ W2 HJ2.out ⟨by rw [HPL.out, HCT.out.1, HCP.out]; rfl, HPC.out⟩
          have HB2 := Lib.hid hb2
          generalize hln : ((xs.drop f).take (n - f)).length = ln at hy ⊢
          have HLN := Lib.hid hln
          clear hown hln
          refine hK.out _ _ (.inr hb2) ?_
          clear hK K
          try simp only [Act.put, List.setIfInBounds_toArray, List.set_cons_zero, List.set_cons_succ]
          (refine takeZ Ext.tr 10 (by simp only [List.getElem?_toArray, List.getElem?_cons_succ, List.getElem?_cons_zero]; rfl) (by kernel_rfl) (by kernel_rfl) (by kernel_rfl) (by kernel_rfl) (by decide) (by exact fun _ _ _ h => h) (by first | (refine Or.inl ⟨by rfl, ?_⟩; intro W hW; go_simp; try with_reducible rfl) | exact Or.inr ⟨by rfl, rfl⟩) ?_; try simp only [Act.put, List.setIfInBounds_toArray, List.set_cons_zero, List.set_cons_succ])
          refine wpAnyZ_yield (i := 11) (by kernel_rfl) (by decide) (by simp only [List.getElem?_toArray, List.getElem?_cons_succ, List.getElem?_cons_zero]; rfl) (by go_simp) rfl (by rfl) hy ?_
          rintro e W3 hor
          obtain ⟨c0, rfl, HC⟩ : ∃ c0, e = .returned (.bool c0) ∧ Hid ((c0 = true → J (pre ++ [⟨A', ln, c', (xs.drop f).take (n - f), true, false⟩]) W3 ∧ KpT n0 W.heap.size wr W3) ∧ (c0 = false → Jx (pre ++ [⟨A', ln, c', (xs.drop f).take (n - f), true, false⟩]) W3)) := by
            rcases hor with ⟨rfl, h1, h2⟩ | ⟨rfl, h1, _⟩
            · exact ⟨true, rfl, Lib.hid ⟨fun _ => ⟨h1, HEX.out.trans h2⟩, fun h => (by cases h)⟩⟩
            · exact ⟨false, rfl, Lib.hid ⟨fun h => (by cases h), fun _ => h1⟩⟩
          refine ⟨_, rfl, ?_⟩
          try simp only [Act.put, List.setIfInBounds_toArray, List.set_cons_zero, List.set_cons_succ]
          try simp only [Act.put, List.setIfInBounds_toArray, List.set_cons_zero, List.set_cons_succ]
          (refine takeZ Ext.tr 12 (by simp only [List.getElem?_toArray, List.getElem?_cons_succ, List.getElem?_cons_zero]; rfl) (by kernel_rfl) (by kernel_rfl) (by kernel_rfl) (by kernel_rfl) (by decide) (by exact fun _ _ _ h => h) (by first | (refine Or.inl ⟨by rfl, ?_⟩; intro W hW; go_simp; try with_reducible rfl) | exact Or.inr ⟨by rfl, rfl⟩) ?_; try simp only [Act.put, List.setIfInBounds_toArray, List.set_cons_zero, List.set_cons_succ])
          refine noOutZ_done (by kernel_rfl) ?_ _
          clear q1
          cases c0
          · have HC1 := Lib.hid (HC.out.2 rfl)
            clear HC
            gi_wp2
            refine bodyPost_ret (results_none rfl _ _ _) rfl ?_
            exact ⟨⟨_, rfl⟩, .inr ⟨pre ++ [_], ⟨k + 1, by rw [HCT.out.2, List.map_append, HPS.out, HCP.out]; rfl⟩, HC1.out⟩⟩
          · have HC1 := Lib.hid (HC.out.1 rfl)
            have c3 := (HC1.out.2.bk HK.out.2.2 (by decide) (by decide)).cell 0 rfl
            clear HC c2
            gi_wp2
            go_roundw
            case rel => exact ⟨k + 1, pre ++ [_], HKK.out, by rw [HF.out.2]; go_num, by simp [HPL.out], by rw [HCT.out.2, List.map_append, HPS.out, HCP.out]; rfl, HC1.out.1, HR.out.trans HC1.out.2⟩
            case measure => simp [intOf]; omega
      · have hl' : (f : Int) + m < n := by omega
        have hne : ((f : Int) + m == n) = false := by simp; omega
        have HCP : Hid (cutP xs m k = ⟨(xs.drop f).take m, false, false⟩) := Lib.hid (by
          unfold cutP
          rw [← HF.out.1, HX.out, decide_eq_false (fun h => hl ((hlast hfn).1 h))])
        have hsl := fun W' => bytesT.run_cut2 A n c f m (by omega) hcc W'
        have HRD := Lib.hid ((HK.out.1.1.cut (s := f) (by omega)).pre (s := m) (by omega))
        have hmf : m ≤ 65536 := by omega
        clear hlast
        gi_wp2
        refine wpIn_region_Z Ext [11] (by kernel_rfl) (fun wd hbd hsz => ?_)
        have HBD := Lib.hid hbd
        have HW := Lib.hid (HK.out.1.below hbd)
        have HRW := Lib.hid (HRD.out.below hbd)
        have q1 : ∀ W, Ext wd W → W.cell? ⟨g1, 0, none⟩ = some (.slice A n c) := fun W hW => (((HK.out.2.1).below hbd).below hW).cell 0 rfl
        clear hsz
        (refine takeZ Ext.tr 0 (by simp only [List.getElem?_toArray, List.getElem?_cons_succ, List.getElem?_cons_zero]; rfl) (by kernel_rfl) (by kernel_rfl) (by kernel_rfl) (by kernel_rfl) (by decide) (by exact fun _ _ _ h => h) (by first | (refine Or.inl ⟨by rfl, ?_⟩; intro W hW; go_simp; try with_reducible rfl) | exact Or.inr ⟨by rfl, rfl⟩) ?_; try simp only [Act.put, List.setIfInBounds_toArray, List.set_cons_zero, List.set_cons_succ])
        (refine takeZ Ext.tr 1 (by simp only [List.getElem?_toArray, List.getElem?_cons_succ, List.getElem?_cons_zero]; rfl) (by kernel_rfl) (by kernel_rfl) (by kernel_rfl) (by kernel_rfl) (by decide) (by exact fun _ _ _ h => h) (by first | (refine Or.inl ⟨by rfl, ?_⟩; intro W hW; go_simp; try with_reducible rfl) | exact Or.inr ⟨by rfl, rfl⟩) ?_; try simp only [Act.put, List.setIfInBounds_toArray, List.set_cons_zero, List.set_cons_succ])
        (refine takeZ Ext.tr 2 (by simp only [List.getElem?_toArray, List.getElem?_cons_succ, List.getElem?_cons_zero]; rfl) (by kernel_rfl) (by kernel_rfl) (by kernel_rfl) (by kernel_rfl) (by decide) (by exact fun _ _ _ h => h) (by first | (refine Or.inl ⟨by rfl, ?_⟩; intro W hW; go_simp; try with_reducible rfl) | exact Or.inr ⟨by rfl, rfl⟩) ?_; try simp only [Act.put, List.setIfInBounds_toArray, List.set_cons_zero, List.set_cons_succ])
        (refine takeZ Ext.tr 3 (by simp only [List.getElem?_toArray, List.getElem?_cons_succ, List.getElem?_cons_zero]; rfl) (by kernel_rfl) (by kernel_rfl) (by kernel_rfl) (by kernel_rfl) (by decide) (by exact fun _ _ _ h => h) (by first | (refine Or.inl ⟨by rfl, ?_⟩; intro W hW; go_simp; try with_reducible rfl) | exact Or.inr ⟨by rfl, rfl⟩) ?_; try simp only [Act.put, List.setIfInBounds_toArray, List.set_cons_zero, List.set_cons_succ])
        (refine takeZ Ext.tr 6 (by simp only [List.getElem?_toArray, List.getElem?_cons_succ, List.getElem?_cons_zero]; rfl) (by kernel_rfl) (by kernel_rfl) (by kernel_rfl) (by kernel_rfl) (by decide) (by exact fun _ _ _ h => h) (by first | (refine Or.inl ⟨by rfl, ?_⟩; intro W hW; go_simp; try with_reducible rfl) | exact Or.inr ⟨by rfl, rfl⟩) ?_; try simp only [Act.put, List.setIfInBounds_toArray, List.set_cons_zero, List.set_cons_succ])
        (refine takeZ Ext.tr 7 (by simp only [List.getElem?_toArray, List.getElem?_cons_succ, List.getElem?_cons_zero]; rfl) (by kernel_rfl) (by kernel_rfl) (by kernel_rfl) (by kernel_rfl) (by decide) (by exact fun _ _ _ h => h) (by first | (refine Or.inl ⟨by rfl, ?_⟩; intro W hW; go_simp; try with_reducible rfl) | exact Or.inr ⟨by rfl, rfl⟩) ?_; try simp only [Act.put, List.setIfInBounds_toArray, List.set_cons_zero, List.set_cons_succ])
        (refine takeZ Ext.tr 4 (by simp only [List.getElem?_toArray, List.getElem?_cons_succ, List.getElem?_cons_zero]; rfl) (by kernel_rfl) (by kernel_rfl) (by kernel_rfl) (by kernel_rfl) (by decide) (by exact fun _ _ _ h => h) (by first | (refine Or.inl ⟨by rfl, ?_⟩; intro W hW; go_simp; try with_reducible rfl) | exact Or.inr ⟨by rfl, rfl⟩) ?_; try simp only [Act.put, List.setIfInBounds_toArray, List.set_cons_zero, List.set_cons_succ])
        (refine takeZ Ext.tr 8 (by simp only [List.getElem?_toArray, List.getElem?_cons_succ, List.getElem?_cons_zero]; rfl) (by kernel_rfl) (by kernel_rfl) (by kernel_rfl) (by kernel_rfl) (by decide) (by exact fun _ _ _ h => h) (by first | (refine Or.inl ⟨by rfl, ?_⟩; intro W hW; go_simp; try with_reducible rfl) | exact Or.inr ⟨by rfl, rfl⟩) ?_; try simp only [Act.put, List.setIfInBounds_toArray, List.set_cons_zero, List.set_cons_succ])
        (refine takeZ Ext.tr 9 (by simp only [List.getElem?_toArray, List.getElem?_cons_succ, List.getElem?_cons_zero]; rfl) (by kernel_rfl) (by kernel_rfl) (by kernel_rfl) (by kernel_rfl) (by decide) (by exact fun _ _ _ h => h) (by first | (refine Or.inl ⟨by rfl, ?_⟩; intro W hW; go_simp; try with_reducible rfl) | exact Or.inr ⟨by rfl, rfl⟩) ?_; try simp only [Act.put, List.setIfInBounds_toArray, List.set_cons_zero, List.set_cons_succ])
        refine wpAnyZ_one (i := 5) (by kernel_rfl) (by decide) (by simp only [List.getElem?_toArray, List.getElem?_cons_succ, List.getElem?_cons_zero]; rfl) (fun K hK => ?_)
        go_simp
        refine (clone_any _ _ _ _ _ HRW.out hmf).mono ?_
        rintro e W2 ⟨v, rfl, hown, hb2⟩
        obtain ⟨A', c', rfl⟩ := own_slice hown
        have HPC : Hid (PcR W2 ⟨A', ((xs.drop f).take m).length, c', (xs.drop f).take m, false, false⟩) := Lib.hid (BsR.own hown HRW.out.2.2.2.2.1)
        have HJ2 := Lib.hid (HST.out W2 none hJk (grown_of (HBD.out.trans (hb2.mono HBD.out.size))) (by simp))
        have HEX := Lib.hid (KpT.below (n0 := n0) (N := W.heap.size) (HBD.out.trans (hb2.mono HBD.out.size)))
        have hy := HY.out pre ⟨A', ((xs.drop f).take m).length, c', (xs.drop f).take m, false, false⟩ W2 HJ2.out ⟨by rw [HPL.out, HCT.out.1, HCP.out]; rfl, HPC.out⟩
        have HB2 := Lib.hid hb2
        generalize hln : ((xs.drop f).take m).length = ln at hy ⊢
        have HLN := Lib.hid hln
        clear hown hln
        refine hK.out _ _ (.inr hb2) ?_
        clear hK K
        try simp only [Act.put, List.setIfInBounds_toArray, List.set_cons_zero, List.set_cons_succ]
        (refine takeZ Ext.tr 10 (by simp only [List.getElem?_toArray, List.getElem?_cons_succ, List.getElem?_cons_zero]; rfl) (by kernel_rfl) (by kernel_rfl) (by kernel_rfl) (by kernel_rfl) (by decide) (by exact fun _ _ _ h => h) (by first | (refine Or.inl ⟨by rfl, ?_⟩; intro W hW; go_simp; try with_reducible rfl) | exact Or.inr ⟨by rfl, rfl⟩) ?_; try simp only [Act.put, List.setIfInBounds_toArray, List.set_cons_zero, List.set_cons_succ])
        refine wpAnyZ_yield (i := 11) (by kernel_rfl) (by decide) (by simp only [List.getElem?_toArray, List.getElem?_cons_succ, List.getElem?_cons_zero]; rfl) (by go_simp) rfl (by rfl) hy ?_
        rintro e W3 hor
        obtain ⟨c0, rfl, HC⟩ : ∃ c0, e = .returned (.bool c0) ∧ Hid ((c0 = true → J (pre ++ [⟨A', ln, c', (xs.drop f).take m, false, false⟩]) W3 ∧ KpT n0 W.heap.size wr W3) ∧ (c0 = false → Jx (pre ++ [⟨A', ln, c', (xs.drop f).take m, false, false⟩]) W3)) := by
          rcases hor with ⟨rfl, h1, h2⟩ | ⟨rfl, h1, _⟩
          · exact ⟨true, rfl, Lib.hid ⟨fun _ => ⟨h1, HEX.out.trans h2⟩, fun h => (by cases h)⟩⟩
          · exact ⟨false, rfl, Lib.hid ⟨fun h => (by cases h), fun _ => h1⟩⟩
        refine ⟨_, rfl, ?_⟩
        try simp only [Act.put, List.setIfInBounds_toArray, List.set_cons_zero, List.set_cons_succ]
        try simp only [Act.put, List.setIfInBounds_toArray, List.set_cons_zero, List.set_cons_succ]
        (refine takeZ Ext.tr 12 (by simp only [List.getElem?_toArray, List.getElem?_cons_succ, List.getElem?_cons_zero]; rfl) (by kernel_rfl) (by kernel_rfl) (by kernel_rfl) (by kernel_rfl) (by decide) (by exact fun _ _ _ h => h) (by first | (refine Or.inl ⟨by rfl, ?_⟩; intro W hW; go_simp; try with_reducible rfl) | exact Or.inr ⟨by rfl, rfl⟩) ?_; try simp only [Act.put, List.setIfInBounds_toArray, List.set_cons_zero, List.set_cons_succ])
        refine noOutZ_done (by kernel_rfl) ?_ _
        clear q1
        cases c0
        · have HC1 := Lib.hid (HC.out.2 rfl)
          clear HC
          gi_wp2
          refine bodyPost_ret (results_none rfl _ _ _) rfl ?_
          exact ⟨⟨_, rfl⟩, .inr ⟨pre ++ [_], ⟨k + 1, by rw [HCT.out.2, List.map_append, HPS.out, HCP.out]; rfl⟩, HC1.out⟩⟩
        · have HC1 := Lib.hid (HC.out.1 rfl)
          have c3 := (HC1.out.2.bk HK.out.2.2 (by decide) (by decide)).cell 0 rfl
          clear HC c2
          gi_wp2
          go_roundw
          case rel => exact ⟨k + 1, pre ++ [_], HKK.out, by rw [HF.out.2]; go_num, by simp [HPL.out], by rw [HCT.out.2, List.map_append, HPS.out, HCP.out]; rfl, HC1.out.1, HR.out.trans HC1.out.2⟩
          case measure => simp [intOf]; omega
    · have hnf : ¬ (f : Int) < n := by omega
      have HPS : Hid (pre.map Pc.say = cutL xs m) := Lib.hid (by rw [hps, List.take_of_length_le]; rw [cutL_len, HX.out]; exact Nat.le_of_not_lt (fun h => hfn (hlt.1 h)))
      clear hlt hlast hps hpl E1 E2 A0
      gi_wp2
      go_end0
      exact ⟨⟨_, rfl⟩, .inl ⟨pre, HPS.out, hJk⟩⟩
end Go.Proofs.Ytmnmkolcffehhaa
