/- The iterator over the numbers of a bitmap's window. -/
import Derived.Test.YtopmfpdcdclffaaB4
import Derived.Test.YtopmfpdcdclffaaCol
import Derived.Test.YtopmfpdcdclffaaKit3
import Derived.Test.YtopmfpdcdclffaaRegZ
set_option linter.unusedSimpArgs false
set_option linter.unusedVariables false
namespace Go.Proofs.Ytopmfpdcdclffaa
open Go.RowKit Go.Shelf
def intV (xs : List Int) : List Value := xs.map (.int .i64)
theorem intV_len (xs : List Int) : (intV xs).length = xs.length := by simp [intV]
theorem intV_snoc (xs : List Int) (x : Int) : intV (xs ++ [x]) = intV xs ++ [.int .i64 x] := by simp [intV]
theorem eltI : Elt Try.prog 27 3 (.int .i64 0) 8 := ⟨rfl, by kernel_rfl, rfl, rfl, by decide⟩
abbrev ptrT : TypeId := 71
/-- The iterator's value. -/
def numF (g1 g2 : Nat) : Value := .func (.func 46) #[] #[.pointer (some ⟨g1, 0, none⟩), .pointer (some ⟨g2, 0, none⟩)]
theorem grown_of {w w' : World} (h : Below w.heap.size w w') : w.grownBy w' none := ⟨h.os, h.tape, h.output, h.size, fun k hk _ => h.block k hk⟩
theorem kps_below {T : Nat → Prop} {w w' : World} (h : Below w.heap.size w w') (hT : ∀ q, T q → q < w.heap.size) : KpS T w w' := fun q hq => h.block q (hT q hq)
theorem kps_lt {q : Nat} {w W wr : World} (h : q < w.heap.size) (hs : w.heap.size ≤ W.heap.size) (he : wr.heap[q]? = W.heap[q]?) : q < wr.heap.size := by
  have h1 : q < W.heap.size := by omega
  rw [Array.getElem?_eq_getElem h1] at he
  exact (Array.getElem?_eq_some_iff.1 he).1
theorem b_numbers (v : Option Addr) (b : Bool) (w : World) :
    Calls Try.prog 44 #[.pointer v, .bool b] w fun e w' => e = .returned (.func (.func 46) #[] #[.pointer (some ⟨w.heap.size, 0, none⟩), .pointer (some ⟨w.heap.size + 1, 0, none⟩)]) ∧
      Bk w' 71 w.heap.size [.pointer v] ∧ Bk w' 4 (w.heap.size + 1) [.bool b] ∧ Below w.heap.size w w' := by
  have q1 := (Bk.new w 71 [.pointer v]).alloc (.cells #[.bool b] 4)
  have q2 := Bk.new (w.alloc (.cells #[.pointer v] 71)) 4 [.bool b]
  rw [World.size_alloc] at q2
  have HQ := Lib.hid (And.intro q1 (And.intro q2 (((Below.refl _ w).alloc (Nat.le_refl _) (.cells #[.pointer v] 71)).alloc (by simp) (.cells #[.bool b] 4))))
  clear q1 q2
  go_enter Try.func44, Try.ntmps44
  go_wp2
  go_ret
  exact ⟨rfl, HQ.out.1, HQ.out.2.1, HQ.out.2.2⟩
attribute [local go_sem] Oper.semAt_some
set_option maxRecDepth 100000 in
set_option maxHeartbeats 2000000 in
theorem num_stops (fu : Nat) (hfu : 2 ≤ fu) (T : Nat → Prop) (g1 g2 : Nat) (P : Pl) (B : Bm) (b : Bool) (w : World) (hp : T P.p)
    (h1 : T g1) (h2 : T g2) (hT : ∀ k, T k → k < w.heap.size) (hbm : Bmp w P B) (hb1 : Bk w 71 g1 [.pointer (some ⟨P.p, P.o, none⟩)]) (hb2 : Bk w 4 g2 [.bool b]) :
    SeqStopsK Fence.wide fu Try.prog 46 #[.pointer (some ⟨g1, 0, none⟩), .pointer (some ⟨g2, 0, none⟩)] (fun i : Fin (B.all b).length => #[.int .i64 (B.all b)[i]]) (KpS T)
      (fun ys => ys = List.finRange (B.all b).length) (fun pre => ∃ k, pre = (List.finRange (B.all b).length).take k) (B.all b).length w := fun l J Jx W hW hJ hJx hY h0 => by
  have hKW : KpS T w W := fun k hk => hW.block k (hT k hk)
  obtain ⟨ho, m, hm, hbk⟩ := hbm
  have e0 : Bk5 W P B m := (hKW P.p hp).trans hbk
  have e1 : Bk W 71 g1 [.pointer (some ⟨P.p, P.o, none⟩)] := (hKW g1 h1).trans hb1
  have e2 : Bk W 4 g2 [.bool b] := (hKW g2 h2).trans hb2
  have hs2 := ho.s2
  have hbb := ho.b1
  have HM := Lib.hid hm
  have HO := Lib.hid ho
  have HE := Lib.hid (And.intro e0 (And.intro e1 e2))
  have c1 := e1.cell 0 rfl
  clear hKW hb1 hb2 hbk hm ho e0 e1 e2
  refine callsIn_of_wp Try.func46 rfl trivial ?_ rfl
  simp only [Try.ntmps46, List.size_toArray, List.length_cons, List.length_nil, Nat.reduceAdd, Nat.reduceSub, Array.replicate_succ, Array.replicate_zero, List.push_toArray, List.append_toArray, List.nil_append, List.cons_append]
  gi_wp2
  refine ⟨trivial, fun _ => by omega, (callsIn_wide.2 (b_size ⟨HO.out, m, HM.out, HE.out.1⟩)).mono ?_⟩
  rintro e W1 ⟨rfl, rfl⟩
  clear c1
  gi_wp2
  gi_loopw [8] (fun i' wr => ∃ k : Nat, k ≤ B.size ∧ i' = .int .i64 k ∧ J ((List.finRange (B.all b).length).take (B.nums b k).length) wr ∧ KpS T W wr) (fun i' _ => B.size + 1 - (intOf i').toNat)
  case atStart => exact ⟨0, Nat.zero_le _, rfl, by simpa [Bm.nums] using h0, KpS.refl _ _⟩
  case round =>
    obtain ⟨k, hk, rfl, hJk, hr⟩ := hrel
    have E0 : Bk5 wr P B m := (hr P.p hp).trans HE.out.1
    have E1 : Bk wr 71 g1 [.pointer (some ⟨P.p, P.o, none⟩)] := (hr g1 h1).trans HE.out.2.1
    have E2 : Bk wr 4 g2 [.bool b] := (hr g2 h2).trans HE.out.2.2
    by_cases hlt : k < B.size
    · have hlt' : (k : Int) < B.size := by omega
      have c1 := E1.cell 0 rfl
      have c2 := E0.cell 1 (v := .int .i64 B.base) rfl
      have HK := Lib.hid (And.intro E0 (And.intro E1 E2))
      clear E0 E1 E2
      by_cases htop : 1152921504606846976 < B.base + k
      · have htop' : (1152921504606846976 : Int) < (B.base : Int) + k := by omega
        have HA : Hid (B.nums b k = B.all b) := Lib.hid (by
          have := B.nums_top b htop (B.size - k)
          rw [show k + (B.size - k) = B.size from by omega] at this
          exact this.symm)
        gi_wp2
        refine bodyPost_ret (results_none rfl _ _ _) rfl ?_
        refine ⟨⟨_, rfl⟩, .inl ⟨_, List.take_of_length_le (by rw [HA.out]; simp), hJk⟩⟩
      · have htop' : ¬ (1152921504606846976 : Int) < (B.base : Int) + k := by omega
        have hbit := HM.out.bit (B.base + k) (by omega) (by omega)
        have HLT := Lib.hid (show B.base + k < 9223372036854775808 by omega)
        have HBT := Lib.hid hbit
        have HR0 := Lib.hid hr
        have HST := Lib.hid (hJ ((List.finRange (B.all b).length).take (B.nums b k).length) wr)
        have HTL : Hid (∀ q, T q → q < wr.heap.size) := Lib.hid (fun q hq => kps_lt (hT q hq) hW.size (hr q hq))
        clear hbit
        by_cases hc : B.cond b k = true
        · have hc1 : (B.s (B.base + k) == b) = true := by
            have := hc
            simp only [Bm.cond, Bool.and_eq_true] at this
            exact this.1
          have HSB : Hid (B.s (B.base + k) = b) := Lib.hid (by simpa using hc1)
          have hns := B.nums_succ b k
          rw [if_pos hc] at hns
          have HNS := Lib.hid hns
          obtain ⟨hl, hat⟩ := B.nums_at b hlt hc
          have HF := Lib.hid (fin_take (B.all b).length (B.nums b k).length hl)
          have HY := Lib.hid (hY ((List.finRange (B.all b).length).take (B.nums b k).length) ⟨(B.nums b k).length, hl⟩)
          have HEN : Hid ((#[.int .i64 (B.all b)[(⟨(B.nums b k).length, hl⟩ : Fin (B.all b).length)]] : Array Value) = #[.int .i64 ((B.base : Int) + k)]) := Lib.hid (by rw [show (B.all b)[(⟨(B.nums b k).length, hl⟩ : Fin (B.all b).length)] = ((B.base + k : Nat) : Int) from hat, Int.natCast_add])
          have HAT := Lib.hid hat
          clear hns hc1 hat hc
          cases b
          · gi_wp2
            refine wpIn_region_Z Ext [10] (by kernel_rfl) (fun wd hbd hsz => ?_)
            have HBD := Lib.hid hbd
            have HW := Lib.hid (HK.out.1.below hbd)
            have q1 : ∀ W, Ext wd W → W.cell? ⟨g1, 0, none⟩ = some (.pointer (some ⟨P.p, P.o, none⟩)) := fun W hW => (((HK.out.2.1).below hbd).below hW).cell 0 rfl
            have q2 : ∀ W, Ext wd W → W.cell? ⟨g2, 0, none⟩ = some (.bool false) := fun W hW => (((HK.out.2.2).below hbd).below hW).cell 0 rfl
            clear hsz
            (refine takeZ Ext.tr 0 (by simp only [List.getElem?_toArray, List.getElem?_cons_succ, List.getElem?_cons_zero]; rfl) (by kernel_rfl) (by kernel_rfl) (by kernel_rfl) (by kernel_rfl) (by decide) (by exact fun _ _ _ h => h) (by first | (refine Or.inl ⟨by rfl, ?_⟩; intro W hW; go_simp; try with_reducible rfl) | exact Or.inr ⟨by rfl, rfl⟩) ?_; try simp only [Act.put, List.setIfInBounds_toArray, List.set_cons_zero, List.set_cons_succ])
            (refine takeZ Ext.tr 3 (by simp only [List.getElem?_toArray, List.getElem?_cons_succ, List.getElem?_cons_zero]; rfl) (by kernel_rfl) (by kernel_rfl) (by kernel_rfl) (by kernel_rfl) (by decide) (by exact fun _ _ _ h => h) (by first | (refine Or.inl ⟨by rfl, ?_⟩; intro W hW; go_simp; try with_reducible rfl) | exact Or.inr ⟨by rfl, rfl⟩) ?_; try simp only [Act.put, List.setIfInBounds_toArray, List.set_cons_zero, List.set_cons_succ])
            (refine takeZ Ext.tr 5 (by simp only [List.getElem?_toArray, List.getElem?_cons_succ, List.getElem?_cons_zero]; rfl) (by kernel_rfl) (by kernel_rfl) (by kernel_rfl) (by kernel_rfl) (by decide) (by exact fun _ _ _ h => h) (by first | (refine Or.inl ⟨by rfl, ?_⟩; intro W hW; go_simp; try with_reducible rfl) | exact Or.inr ⟨by rfl, rfl⟩) ?_; try simp only [Act.put, List.setIfInBounds_toArray, List.set_cons_zero, List.set_cons_succ])
            (refine takeZ Ext.tr 1 (by simp only [List.getElem?_toArray, List.getElem?_cons_succ, List.getElem?_cons_zero]; rfl) (by kernel_rfl) (by kernel_rfl) (by kernel_rfl) (by kernel_rfl) (by decide) (by exact fun _ _ _ h => h) (by first | (refine Or.inl ⟨by rfl, ?_⟩; intro W hW; go_simp; try with_reducible rfl) | exact Or.inr ⟨by rfl, rfl⟩) ?_; try simp only [Act.put, List.setIfInBounds_toArray, List.set_cons_zero, List.set_cons_succ])
            (refine takeZ Ext.tr 2 (by simp only [List.getElem?_toArray, List.getElem?_cons_succ, List.getElem?_cons_zero]; rfl) (by kernel_rfl) (by kernel_rfl) (by kernel_rfl) (by kernel_rfl) (by decide) (by exact fun _ _ _ h => h) (by first | (refine Or.inl ⟨by rfl, ?_⟩; intro W hW; go_simp; try with_reducible rfl) | exact Or.inr ⟨by rfl, rfl⟩) ?_; try simp only [Act.put, List.setIfInBounds_toArray, List.set_cons_zero, List.set_cons_succ])
            refine wpAnyZ_one (i := 4) (by kernel_rfl) (by decide) (by simp only [List.getElem?_toArray, List.getElem?_cons_succ, List.getElem?_cons_zero]; rfl) (fun K hK => ?_)
            go_simp
            refine (marks_has HW.out HM.out.lt (B.base + k) HLT.out).mono ?_
            rintro e W2 ⟨rfl, hb2⟩
            rw [HBT.out, HSB.out]
            have HB2 := Lib.hid hb2
            have HJ2 := Lib.hid (HST.out W2 none hJk (grown_of (HBD.out.trans (hb2.mono HBD.out.size))) (by simp))
            have HEX := Lib.hid (kps_below (HBD.out.trans (hb2.mono HBD.out.size)) HTL.out)
            have hy := HY.out W2 HJ2.out (by simp; omega)
            rw [HEN.out] at hy
            refine hK.out _ _ (.inr hb2) ?_
            clear hK K
            try simp only [Act.put, List.setIfInBounds_toArray, List.set_cons_zero, List.set_cons_succ]
            (refine takeZ Ext.tr 6 (by simp only [List.getElem?_toArray, List.getElem?_cons_succ, List.getElem?_cons_zero]; rfl) (by kernel_rfl) (by kernel_rfl) (by kernel_rfl) (by kernel_rfl) (by decide) (by exact fun _ _ _ h => h) (by first | (refine Or.inl ⟨by rfl, ?_⟩; intro W hW; go_simp; try with_reducible rfl) | exact Or.inr ⟨by rfl, rfl⟩) ?_; try simp only [Act.put, List.setIfInBounds_toArray, List.set_cons_zero, List.set_cons_succ])
            (refine takeZ Ext.tr 7 (by simp only [List.getElem?_toArray, List.getElem?_cons_succ, List.getElem?_cons_zero]; rfl) (by kernel_rfl) (by kernel_rfl) (by kernel_rfl) (by kernel_rfl) (by decide) (by exact fun _ _ _ h => h) (by first | (refine Or.inl ⟨by rfl, ?_⟩; intro W hW; go_simp; try with_reducible rfl) | exact Or.inr ⟨by rfl, rfl⟩) ?_; try simp only [Act.put, List.setIfInBounds_toArray, List.set_cons_zero, List.set_cons_succ])
            (refine takeZ Ext.tr 8 (by simp only [List.getElem?_toArray, List.getElem?_cons_succ, List.getElem?_cons_zero]; rfl) (by kernel_rfl) (by kernel_rfl) (by kernel_rfl) (by kernel_rfl) (by decide) (by exact fun _ _ _ h => h) (by first | (refine Or.inl ⟨by rfl, ?_⟩; intro W hW; go_simp; try with_reducible rfl) | exact Or.inr ⟨by rfl, rfl⟩) ?_; try simp only [Act.put, List.setIfInBounds_toArray, List.set_cons_zero, List.set_cons_succ])
            (refine takeZ Ext.tr 9 (by simp only [List.getElem?_toArray, List.getElem?_cons_succ, List.getElem?_cons_zero]; rfl) (by kernel_rfl) (by kernel_rfl) (by kernel_rfl) (by kernel_rfl) (by decide) (by exact fun _ _ _ h => h) (by first | (refine Or.inl ⟨by rfl, ?_⟩; intro W hW; go_simp; try with_reducible rfl) | exact Or.inr ⟨by rfl, rfl⟩) ?_; try simp only [Act.put, List.setIfInBounds_toArray, List.set_cons_zero, List.set_cons_succ])
            refine wpAnyZ_yield (i := 10) (by kernel_rfl) (by decide) (by simp only [List.getElem?_toArray, List.getElem?_cons_succ, List.getElem?_cons_zero]; rfl) (by go_simp) rfl (by rfl) hy ?_
            rintro e W3 hor
            obtain ⟨c, rfl, HC⟩ : ∃ c, e = .returned (.bool c) ∧ Hid ((c = true → J ((List.finRange (B.all false).length).take (B.nums false k).length ++ [⟨(B.nums false k).length, hl⟩]) W3 ∧ KpS T W2 W3) ∧ (c = false → Jx ((List.finRange (B.all false).length).take (B.nums false k).length ++ [⟨(B.nums false k).length, hl⟩]) W3)) := by
              rcases hor with ⟨rfl, h1, h2⟩ | ⟨rfl, h1⟩
              · exact ⟨true, rfl, Lib.hid ⟨fun _ => ⟨h1, h2⟩, fun h => (by cases h)⟩⟩
              · exact ⟨false, rfl, Lib.hid ⟨fun h => (by cases h), fun _ => h1⟩⟩
            refine ⟨_, rfl, ?_⟩
            try simp only [Act.put, List.setIfInBounds_toArray, List.set_cons_zero, List.set_cons_succ]
            try simp only [Act.put, List.setIfInBounds_toArray, List.set_cons_zero, List.set_cons_succ]
            (refine takeZ Ext.tr 11 (by simp only [List.getElem?_toArray, List.getElem?_cons_succ, List.getElem?_cons_zero]; rfl) (by kernel_rfl) (by kernel_rfl) (by kernel_rfl) (by kernel_rfl) (by decide) (by exact fun _ _ _ h => h) (by first | (refine Or.inl ⟨by rfl, ?_⟩; intro W hW; go_simp; try with_reducible rfl) | exact Or.inr ⟨by rfl, rfl⟩) ?_; try simp only [Act.put, List.setIfInBounds_toArray, List.set_cons_zero, List.set_cons_succ])
            (refine takeZ Ext.tr 12 (by simp only [List.getElem?_toArray, List.getElem?_cons_succ, List.getElem?_cons_zero]; rfl) (by kernel_rfl) (by kernel_rfl) (by kernel_rfl) (by kernel_rfl) (by decide) (by exact fun _ _ _ h => h) (by first | (refine Or.inl ⟨by rfl, ?_⟩; intro W hW; go_simp; try with_reducible rfl) | exact Or.inr ⟨by rfl, rfl⟩) ?_; try simp only [Act.put, List.setIfInBounds_toArray, List.set_cons_zero, List.set_cons_succ])
            refine noOutZ_done (by kernel_rfl) ?_ _
            clear q1 q2
            cases c
            · have HF2 := Lib.hid (HC.out.2 rfl)
              gi_wp2
              refine bodyPost_ret (results_none rfl _ _ _) rfl ?_
              exact ⟨⟨_, rfl⟩, .inr ⟨_, ⟨(B.nums _ k).length + 1, HF.out.symm⟩, HF2.out⟩⟩
            · have HF2 := Lib.hid (HC.out.1 rfl)
              gi_wp2
              go_roundw
              case rel => exact ⟨k + 1, by omega, by go_num, by rw [HNS.out, List.length_append, List.length_singleton, HF.out]; exact HF2.out.1, HR0.out.trans (HEX.out.trans HF2.out.2)⟩
              case measure => simp [intOf]; omega
          · gi_wp2
            refine wpIn_region_Z Ext [10] (by kernel_rfl) (fun wd hbd hsz => ?_)
            have HBD := Lib.hid hbd
            have HW := Lib.hid (HK.out.1.below hbd)
            have q1 : ∀ W, Ext wd W → W.cell? ⟨g1, 0, none⟩ = some (.pointer (some ⟨P.p, P.o, none⟩)) := fun W hW => (((HK.out.2.1).below hbd).below hW).cell 0 rfl
            have q2 : ∀ W, Ext wd W → W.cell? ⟨g2, 0, none⟩ = some (.bool true) := fun W hW => (((HK.out.2.2).below hbd).below hW).cell 0 rfl
            clear hsz
            (refine takeZ Ext.tr 0 (by simp only [List.getElem?_toArray, List.getElem?_cons_succ, List.getElem?_cons_zero]; rfl) (by kernel_rfl) (by kernel_rfl) (by kernel_rfl) (by kernel_rfl) (by decide) (by exact fun _ _ _ h => h) (by first | (refine Or.inl ⟨by rfl, ?_⟩; intro W hW; go_simp; try with_reducible rfl) | exact Or.inr ⟨by rfl, rfl⟩) ?_; try simp only [Act.put, List.setIfInBounds_toArray, List.set_cons_zero, List.set_cons_succ])
            (refine takeZ Ext.tr 3 (by simp only [List.getElem?_toArray, List.getElem?_cons_succ, List.getElem?_cons_zero]; rfl) (by kernel_rfl) (by kernel_rfl) (by kernel_rfl) (by kernel_rfl) (by decide) (by exact fun _ _ _ h => h) (by first | (refine Or.inl ⟨by rfl, ?_⟩; intro W hW; go_simp; try with_reducible rfl) | exact Or.inr ⟨by rfl, rfl⟩) ?_; try simp only [Act.put, List.setIfInBounds_toArray, List.set_cons_zero, List.set_cons_succ])
            (refine takeZ Ext.tr 5 (by simp only [List.getElem?_toArray, List.getElem?_cons_succ, List.getElem?_cons_zero]; rfl) (by kernel_rfl) (by kernel_rfl) (by kernel_rfl) (by kernel_rfl) (by decide) (by exact fun _ _ _ h => h) (by first | (refine Or.inl ⟨by rfl, ?_⟩; intro W hW; go_simp; try with_reducible rfl) | exact Or.inr ⟨by rfl, rfl⟩) ?_; try simp only [Act.put, List.setIfInBounds_toArray, List.set_cons_zero, List.set_cons_succ])
            (refine takeZ Ext.tr 1 (by simp only [List.getElem?_toArray, List.getElem?_cons_succ, List.getElem?_cons_zero]; rfl) (by kernel_rfl) (by kernel_rfl) (by kernel_rfl) (by kernel_rfl) (by decide) (by exact fun _ _ _ h => h) (by first | (refine Or.inl ⟨by rfl, ?_⟩; intro W hW; go_simp; try with_reducible rfl) | exact Or.inr ⟨by rfl, rfl⟩) ?_; try simp only [Act.put, List.setIfInBounds_toArray, List.set_cons_zero, List.set_cons_succ])
            (refine takeZ Ext.tr 2 (by simp only [List.getElem?_toArray, List.getElem?_cons_succ, List.getElem?_cons_zero]; rfl) (by kernel_rfl) (by kernel_rfl) (by kernel_rfl) (by kernel_rfl) (by decide) (by exact fun _ _ _ h => h) (by first | (refine Or.inl ⟨by rfl, ?_⟩; intro W hW; go_simp; try with_reducible rfl) | exact Or.inr ⟨by rfl, rfl⟩) ?_; try simp only [Act.put, List.setIfInBounds_toArray, List.set_cons_zero, List.set_cons_succ])
            refine wpAnyZ_one (i := 4) (by kernel_rfl) (by decide) (by simp only [List.getElem?_toArray, List.getElem?_cons_succ, List.getElem?_cons_zero]; rfl) (fun K hK => ?_)
            go_simp
            refine (marks_has HW.out HM.out.lt (B.base + k) HLT.out).mono ?_
            rintro e W2 ⟨rfl, hb2⟩
            rw [HBT.out, HSB.out]
            have HB2 := Lib.hid hb2
            have HJ2 := Lib.hid (HST.out W2 none hJk (grown_of (HBD.out.trans (hb2.mono HBD.out.size))) (by simp))
            have HEX := Lib.hid (kps_below (HBD.out.trans (hb2.mono HBD.out.size)) HTL.out)
            have hy := HY.out W2 HJ2.out (by simp; omega)
            rw [HEN.out] at hy
            refine hK.out _ _ (.inr hb2) ?_
            clear hK K
            try simp only [Act.put, List.setIfInBounds_toArray, List.set_cons_zero, List.set_cons_succ]
            (refine takeZ Ext.tr 6 (by simp only [List.getElem?_toArray, List.getElem?_cons_succ, List.getElem?_cons_zero]; rfl) (by kernel_rfl) (by kernel_rfl) (by kernel_rfl) (by kernel_rfl) (by decide) (by exact fun _ _ _ h => h) (by first | (refine Or.inl ⟨by rfl, ?_⟩; intro W hW; go_simp; try with_reducible rfl) | exact Or.inr ⟨by rfl, rfl⟩) ?_; try simp only [Act.put, List.setIfInBounds_toArray, List.set_cons_zero, List.set_cons_succ])
            (refine takeZ Ext.tr 7 (by simp only [List.getElem?_toArray, List.getElem?_cons_succ, List.getElem?_cons_zero]; rfl) (by kernel_rfl) (by kernel_rfl) (by kernel_rfl) (by kernel_rfl) (by decide) (by exact fun _ _ _ h => h) (by first | (refine Or.inl ⟨by rfl, ?_⟩; intro W hW; go_simp; try with_reducible rfl) | exact Or.inr ⟨by rfl, rfl⟩) ?_; try simp only [Act.put, List.setIfInBounds_toArray, List.set_cons_zero, List.set_cons_succ])
            (refine takeZ Ext.tr 8 (by simp only [List.getElem?_toArray, List.getElem?_cons_succ, List.getElem?_cons_zero]; rfl) (by kernel_rfl) (by kernel_rfl) (by kernel_rfl) (by kernel_rfl) (by decide) (by exact fun _ _ _ h => h) (by first | (refine Or.inl ⟨by rfl, ?_⟩; intro W hW; go_simp; try with_reducible rfl) | exact Or.inr ⟨by rfl, rfl⟩) ?_; try simp only [Act.put, List.setIfInBounds_toArray, List.set_cons_zero, List.set_cons_succ])
            (refine takeZ Ext.tr 9 (by simp only [List.getElem?_toArray, List.getElem?_cons_succ, List.getElem?_cons_zero]; rfl) (by kernel_rfl) (by kernel_rfl) (by kernel_rfl) (by kernel_rfl) (by decide) (by exact fun _ _ _ h => h) (by first | (refine Or.inl ⟨by rfl, ?_⟩; intro W hW; go_simp; try with_reducible rfl) | exact Or.inr ⟨by rfl, rfl⟩) ?_; try simp only [Act.put, List.setIfInBounds_toArray, List.set_cons_zero, List.set_cons_succ])
            refine wpAnyZ_yield (i := 10) (by kernel_rfl) (by decide) (by simp only [List.getElem?_toArray, List.getElem?_cons_succ, List.getElem?_cons_zero]; rfl) (by go_simp) rfl (by rfl) hy ?_
            rintro e W3 hor
            obtain ⟨c, rfl, HC⟩ : ∃ c, e = .returned (.bool c) ∧ Hid ((c = true → J ((List.finRange (B.all true).length).take (B.nums true k).length ++ [⟨(B.nums true k).length, hl⟩]) W3 ∧ KpS T W2 W3) ∧ (c = false → Jx ((List.finRange (B.all true).length).take (B.nums true k).length ++ [⟨(B.nums true k).length, hl⟩]) W3)) := by
              rcases hor with ⟨rfl, h1, h2⟩ | ⟨rfl, h1⟩
              · exact ⟨true, rfl, Lib.hid ⟨fun _ => ⟨h1, h2⟩, fun h => (by cases h)⟩⟩
              · exact ⟨false, rfl, Lib.hid ⟨fun h => (by cases h), fun _ => h1⟩⟩
            refine ⟨_, rfl, ?_⟩
            try simp only [Act.put, List.setIfInBounds_toArray, List.set_cons_zero, List.set_cons_succ]
            try simp only [Act.put, List.setIfInBounds_toArray, List.set_cons_zero, List.set_cons_succ]
            (refine takeZ Ext.tr 11 (by simp only [List.getElem?_toArray, List.getElem?_cons_succ, List.getElem?_cons_zero]; rfl) (by kernel_rfl) (by kernel_rfl) (by kernel_rfl) (by kernel_rfl) (by decide) (by exact fun _ _ _ h => h) (by first | (refine Or.inl ⟨by rfl, ?_⟩; intro W hW; go_simp; try with_reducible rfl) | exact Or.inr ⟨by rfl, rfl⟩) ?_; try simp only [Act.put, List.setIfInBounds_toArray, List.set_cons_zero, List.set_cons_succ])
            (refine takeZ Ext.tr 12 (by simp only [List.getElem?_toArray, List.getElem?_cons_succ, List.getElem?_cons_zero]; rfl) (by kernel_rfl) (by kernel_rfl) (by kernel_rfl) (by kernel_rfl) (by decide) (by exact fun _ _ _ h => h) (by first | (refine Or.inl ⟨by rfl, ?_⟩; intro W hW; go_simp; try with_reducible rfl) | exact Or.inr ⟨by rfl, rfl⟩) ?_; try simp only [Act.put, List.setIfInBounds_toArray, List.set_cons_zero, List.set_cons_succ])
            refine noOutZ_done (by kernel_rfl) ?_ _
            clear q1 q2
            cases c
            · have HF2 := Lib.hid (HC.out.2 rfl)
              gi_wp2
              refine bodyPost_ret (results_none rfl _ _ _) rfl ?_
              exact ⟨⟨_, rfl⟩, .inr ⟨_, ⟨(B.nums _ k).length + 1, HF.out.symm⟩, HF2.out⟩⟩
            · have HF2 := Lib.hid (HC.out.1 rfl)
              gi_wp2
              go_roundw
              case rel => exact ⟨k + 1, by omega, by go_num, by rw [HNS.out, List.length_append, List.length_singleton, HF.out]; exact HF2.out.1, HR0.out.trans (HEX.out.trans HF2.out.2)⟩
              case measure => simp [intOf]; omega
        · have hc1 : (B.s (B.base + k) == b) = false := by
            have := hc
            simp only [Bm.cond, Bool.and_eq_true, decide_eq_true_eq] at this
            cases hh : (B.s (B.base + k) == b) with
            | false => rfl
            | true => exact absurd ⟨hh, by omega⟩ this
          have HSB : Hid (B.s (B.base + k) = !b) := Lib.hid (by cases b <;> simpa using hc1)
          have hns := B.nums_succ b k
          rw [if_neg hc] at hns
          have HNS := Lib.hid hns
          clear hns hc1 hc
          cases b
          · gi_wp2
            refine wpIn_wide.2 ?_
            refine wp_region_L Ext [10] (by kernel_rfl) (fun wd hbd hsz => ?_)
            have HBD := Lib.hid hbd
            have HW := Lib.hid (HK.out.1.below hbd)
            have q1 : ∀ W, Ext wd W → W.cell? ⟨g1, 0, none⟩ = some (.pointer (some ⟨P.p, P.o, none⟩)) := fun W hW => (((HK.out.2.1).below hbd).below hW).cell 0 rfl
            have q2 : ∀ W, Ext wd W → W.cell? ⟨g2, 0, none⟩ = some (.bool false) := fun W hW => (((HK.out.2.2).below hbd).below hW).cell 0 rfl
            clear hsz
            (refine takeL Ext.tr 0 (by simp only [List.getElem?_toArray, List.getElem?_cons_succ, List.getElem?_cons_zero]; rfl) (by kernel_rfl) (by kernel_rfl) (by kernel_rfl) (by kernel_rfl) (by exact fun _ _ _ h => h) (by first | (refine Or.inl ⟨by rfl, ?_⟩; intro W hW; go_simp; try with_reducible rfl) | exact Or.inr ⟨by rfl, rfl⟩) ?_; try simp only [Act.put, List.setIfInBounds_toArray, List.set_cons_zero, List.set_cons_succ])
            (refine takeL Ext.tr 3 (by simp only [List.getElem?_toArray, List.getElem?_cons_succ, List.getElem?_cons_zero]; rfl) (by kernel_rfl) (by kernel_rfl) (by kernel_rfl) (by kernel_rfl) (by exact fun _ _ _ h => h) (by first | (refine Or.inl ⟨by rfl, ?_⟩; intro W hW; go_simp; try with_reducible rfl) | exact Or.inr ⟨by rfl, rfl⟩) ?_; try simp only [Act.put, List.setIfInBounds_toArray, List.set_cons_zero, List.set_cons_succ])
            (refine takeL Ext.tr 5 (by simp only [List.getElem?_toArray, List.getElem?_cons_succ, List.getElem?_cons_zero]; rfl) (by kernel_rfl) (by kernel_rfl) (by kernel_rfl) (by kernel_rfl) (by exact fun _ _ _ h => h) (by first | (refine Or.inl ⟨by rfl, ?_⟩; intro W hW; go_simp; try with_reducible rfl) | exact Or.inr ⟨by rfl, rfl⟩) ?_; try simp only [Act.put, List.setIfInBounds_toArray, List.set_cons_zero, List.set_cons_succ])
            (refine takeL Ext.tr 1 (by simp only [List.getElem?_toArray, List.getElem?_cons_succ, List.getElem?_cons_zero]; rfl) (by kernel_rfl) (by kernel_rfl) (by kernel_rfl) (by kernel_rfl) (by exact fun _ _ _ h => h) (by first | (refine Or.inl ⟨by rfl, ?_⟩; intro W hW; go_simp; try with_reducible rfl) | exact Or.inr ⟨by rfl, rfl⟩) ?_; try simp only [Act.put, List.setIfInBounds_toArray, List.set_cons_zero, List.set_cons_succ])
            (refine takeL Ext.tr 2 (by simp only [List.getElem?_toArray, List.getElem?_cons_succ, List.getElem?_cons_zero]; rfl) (by kernel_rfl) (by kernel_rfl) (by kernel_rfl) (by kernel_rfl) (by exact fun _ _ _ h => h) (by first | (refine Or.inl ⟨by rfl, ?_⟩; intro W hW; go_simp; try with_reducible rfl) | exact Or.inr ⟨by rfl, rfl⟩) ?_; try simp only [Act.put, List.setIfInBounds_toArray, List.set_cons_zero, List.set_cons_succ])
            refine wpAnyL_one (i := 4) (by kernel_rfl) (by simp only [List.getElem?_toArray, List.getElem?_cons_succ, List.getElem?_cons_zero]; rfl) (fun K hK => ?_)
            go_simp
            refine (marks_has HW.out HM.out.lt (B.base + k) HLT.out).mono ?_
            rintro e W2 ⟨rfl, hb2⟩
            rw [HBT.out, HSB.out]
            have HB2 := Lib.hid hb2
            have HF2 := Lib.hid (And.intro (HST.out W2 none hJk (grown_of (HBD.out.trans (hb2.mono HBD.out.size))) (by simp)) (kps_below (HBD.out.trans (hb2.mono HBD.out.size)) HTL.out))
            refine hK.out _ _ (.inr hb2) ?_
            clear hK K
            try simp only [Act.put, List.setIfInBounds_toArray, List.set_cons_zero, List.set_cons_succ]
            (refine takeL Ext.tr 6 (by simp only [List.getElem?_toArray, List.getElem?_cons_succ, List.getElem?_cons_zero]; rfl) (by kernel_rfl) (by kernel_rfl) (by kernel_rfl) (by kernel_rfl) (by exact fun _ _ _ h => h) (by first | (refine Or.inl ⟨by rfl, ?_⟩; intro W hW; go_simp; try with_reducible rfl) | exact Or.inr ⟨by rfl, rfl⟩) ?_; try simp only [Act.put, List.setIfInBounds_toArray, List.set_cons_zero, List.set_cons_succ])
            (refine takeL Ext.tr 7 (by simp only [List.getElem?_toArray, List.getElem?_cons_succ, List.getElem?_cons_zero]; rfl) (by kernel_rfl) (by kernel_rfl) (by kernel_rfl) (by kernel_rfl) (by exact fun _ _ _ h => h) (by first | (refine Or.inl ⟨by rfl, ?_⟩; intro W hW; go_simp; try with_reducible rfl) | exact Or.inr ⟨by rfl, rfl⟩) ?_; try simp only [Act.put, List.setIfInBounds_toArray, List.set_cons_zero, List.set_cons_succ])
            (refine takeL Ext.tr 8 (by simp only [List.getElem?_toArray, List.getElem?_cons_succ, List.getElem?_cons_zero]; rfl) (by kernel_rfl) (by kernel_rfl) (by kernel_rfl) (by kernel_rfl) (by exact fun _ _ _ h => h) (by first | (refine Or.inl ⟨by rfl, ?_⟩; intro W hW; go_simp; try with_reducible rfl) | exact Or.inr ⟨by rfl, rfl⟩) ?_; try simp only [Act.put, List.setIfInBounds_toArray, List.set_cons_zero, List.set_cons_succ])
            (refine takeL Ext.tr 9 (by simp only [List.getElem?_toArray, List.getElem?_cons_succ, List.getElem?_cons_zero]; rfl) (by kernel_rfl) (by kernel_rfl) (by kernel_rfl) (by kernel_rfl) (by exact fun _ _ _ h => h) (by first | (refine Or.inl ⟨by rfl, ?_⟩; intro W hW; go_simp; try with_reducible rfl) | exact Or.inr ⟨by rfl, rfl⟩) ?_; try simp only [Act.put, List.setIfInBounds_toArray, List.set_cons_zero, List.set_cons_succ])
            refine wpAnyL_one (i := 10) (by kernel_rfl) (by simp only [List.getElem?_toArray, List.getElem?_cons_succ, List.getElem?_cons_zero]; rfl) (fun K hK => ?_)
            go_simp
            refine hK.out _ _ (.inl (by decide)) ?_
            clear hK K
            try simp only [Act.put, List.setIfInBounds_toArray, List.set_cons_zero, List.set_cons_succ]
            (refine takeL Ext.tr 11 (by simp only [List.getElem?_toArray, List.getElem?_cons_succ, List.getElem?_cons_zero]; rfl) (by kernel_rfl) (by kernel_rfl) (by kernel_rfl) (by kernel_rfl) (by exact fun _ _ _ h => h) (by first | (refine Or.inl ⟨by rfl, ?_⟩; intro W hW; go_simp; try with_reducible rfl) | exact Or.inr ⟨by rfl, rfl⟩) ?_; try simp only [Act.put, List.setIfInBounds_toArray, List.set_cons_zero, List.set_cons_succ])
            (refine takeL Ext.tr 12 (by simp only [List.getElem?_toArray, List.getElem?_cons_succ, List.getElem?_cons_zero]; rfl) (by kernel_rfl) (by kernel_rfl) (by kernel_rfl) (by kernel_rfl) (by exact fun _ _ _ h => h) (by first | (refine Or.inl ⟨by rfl, ?_⟩; intro W hW; go_simp; try with_reducible rfl) | exact Or.inr ⟨by rfl, rfl⟩) ?_; try simp only [Act.put, List.setIfInBounds_toArray, List.set_cons_zero, List.set_cons_succ])
            refine wpAnyL_done (by kernel_rfl) ?_ _
            clear q1 q2
            gi_wp2
            go_roundw
            case rel => exact ⟨k + 1, by omega, by go_num, by rw [HNS.out]; exact HF2.out.1, HR0.out.trans HF2.out.2⟩
            case measure => simp [intOf]; omega
          · gi_wp2
            refine wpIn_wide.2 ?_
            refine wp_region_L Ext [10] (by kernel_rfl) (fun wd hbd hsz => ?_)
            have HBD := Lib.hid hbd
            have HW := Lib.hid (HK.out.1.below hbd)
            have q1 : ∀ W, Ext wd W → W.cell? ⟨g1, 0, none⟩ = some (.pointer (some ⟨P.p, P.o, none⟩)) := fun W hW => (((HK.out.2.1).below hbd).below hW).cell 0 rfl
            have q2 : ∀ W, Ext wd W → W.cell? ⟨g2, 0, none⟩ = some (.bool true) := fun W hW => (((HK.out.2.2).below hbd).below hW).cell 0 rfl
            clear hsz
            (refine takeL Ext.tr 0 (by simp only [List.getElem?_toArray, List.getElem?_cons_succ, List.getElem?_cons_zero]; rfl) (by kernel_rfl) (by kernel_rfl) (by kernel_rfl) (by kernel_rfl) (by exact fun _ _ _ h => h) (by first | (refine Or.inl ⟨by rfl, ?_⟩; intro W hW; go_simp; try with_reducible rfl) | exact Or.inr ⟨by rfl, rfl⟩) ?_; try simp only [Act.put, List.setIfInBounds_toArray, List.set_cons_zero, List.set_cons_succ])
            (refine takeL Ext.tr 3 (by simp only [List.getElem?_toArray, List.getElem?_cons_succ, List.getElem?_cons_zero]; rfl) (by kernel_rfl) (by kernel_rfl) (by kernel_rfl) (by kernel_rfl) (by exact fun _ _ _ h => h) (by first | (refine Or.inl ⟨by rfl, ?_⟩; intro W hW; go_simp; try with_reducible rfl) | exact Or.inr ⟨by rfl, rfl⟩) ?_; try simp only [Act.put, List.setIfInBounds_toArray, List.set_cons_zero, List.set_cons_succ])
            (refine takeL Ext.tr 5 (by simp only [List.getElem?_toArray, List.getElem?_cons_succ, List.getElem?_cons_zero]; rfl) (by kernel_rfl) (by kernel_rfl) (by kernel_rfl) (by kernel_rfl) (by exact fun _ _ _ h => h) (by first | (refine Or.inl ⟨by rfl, ?_⟩; intro W hW; go_simp; try with_reducible rfl) | exact Or.inr ⟨by rfl, rfl⟩) ?_; try simp only [Act.put, List.setIfInBounds_toArray, List.set_cons_zero, List.set_cons_succ])
            (refine takeL Ext.tr 1 (by simp only [List.getElem?_toArray, List.getElem?_cons_succ, List.getElem?_cons_zero]; rfl) (by kernel_rfl) (by kernel_rfl) (by kernel_rfl) (by kernel_rfl) (by exact fun _ _ _ h => h) (by first | (refine Or.inl ⟨by rfl, ?_⟩; intro W hW; go_simp; try with_reducible rfl) | exact Or.inr ⟨by rfl, rfl⟩) ?_; try simp only [Act.put, List.setIfInBounds_toArray, List.set_cons_zero, List.set_cons_succ])
            (refine takeL Ext.tr 2 (by simp only [List.getElem?_toArray, List.getElem?_cons_succ, List.getElem?_cons_zero]; rfl) (by kernel_rfl) (by kernel_rfl) (by kernel_rfl) (by kernel_rfl) (by exact fun _ _ _ h => h) (by first | (refine Or.inl ⟨by rfl, ?_⟩; intro W hW; go_simp; try with_reducible rfl) | exact Or.inr ⟨by rfl, rfl⟩) ?_; try simp only [Act.put, List.setIfInBounds_toArray, List.set_cons_zero, List.set_cons_succ])
            refine wpAnyL_one (i := 4) (by kernel_rfl) (by simp only [List.getElem?_toArray, List.getElem?_cons_succ, List.getElem?_cons_zero]; rfl) (fun K hK => ?_)
            go_simp
            refine (marks_has HW.out HM.out.lt (B.base + k) HLT.out).mono ?_
            rintro e W2 ⟨rfl, hb2⟩
            rw [HBT.out, HSB.out]
            have HB2 := Lib.hid hb2
            have HF2 := Lib.hid (And.intro (HST.out W2 none hJk (grown_of (HBD.out.trans (hb2.mono HBD.out.size))) (by simp)) (kps_below (HBD.out.trans (hb2.mono HBD.out.size)) HTL.out))
            refine hK.out _ _ (.inr hb2) ?_
            clear hK K
            try simp only [Act.put, List.setIfInBounds_toArray, List.set_cons_zero, List.set_cons_succ]
            (refine takeL Ext.tr 6 (by simp only [List.getElem?_toArray, List.getElem?_cons_succ, List.getElem?_cons_zero]; rfl) (by kernel_rfl) (by kernel_rfl) (by kernel_rfl) (by kernel_rfl) (by exact fun _ _ _ h => h) (by first | (refine Or.inl ⟨by rfl, ?_⟩; intro W hW; go_simp; try with_reducible rfl) | exact Or.inr ⟨by rfl, rfl⟩) ?_; try simp only [Act.put, List.setIfInBounds_toArray, List.set_cons_zero, List.set_cons_succ])
            (refine takeL Ext.tr 7 (by simp only [List.getElem?_toArray, List.getElem?_cons_succ, List.getElem?_cons_zero]; rfl) (by kernel_rfl) (by kernel_rfl) (by kernel_rfl) (by kernel_rfl) (by exact fun _ _ _ h => h) (by first | (refine Or.inl ⟨by rfl, ?_⟩; intro W hW; go_simp; try with_reducible rfl) | exact Or.inr ⟨by rfl, rfl⟩) ?_; try simp only [Act.put, List.setIfInBounds_toArray, List.set_cons_zero, List.set_cons_succ])
            (refine takeL Ext.tr 8 (by simp only [List.getElem?_toArray, List.getElem?_cons_succ, List.getElem?_cons_zero]; rfl) (by kernel_rfl) (by kernel_rfl) (by kernel_rfl) (by kernel_rfl) (by exact fun _ _ _ h => h) (by first | (refine Or.inl ⟨by rfl, ?_⟩; intro W hW; go_simp; try with_reducible rfl) | exact Or.inr ⟨by rfl, rfl⟩) ?_; try simp only [Act.put, List.setIfInBounds_toArray, List.set_cons_zero, List.set_cons_succ])
            (refine takeL Ext.tr 9 (by simp only [List.getElem?_toArray, List.getElem?_cons_succ, List.getElem?_cons_zero]; rfl) (by kernel_rfl) (by kernel_rfl) (by kernel_rfl) (by kernel_rfl) (by exact fun _ _ _ h => h) (by first | (refine Or.inl ⟨by rfl, ?_⟩; intro W hW; go_simp; try with_reducible rfl) | exact Or.inr ⟨by rfl, rfl⟩) ?_; try simp only [Act.put, List.setIfInBounds_toArray, List.set_cons_zero, List.set_cons_succ])
            refine wpAnyL_one (i := 10) (by kernel_rfl) (by simp only [List.getElem?_toArray, List.getElem?_cons_succ, List.getElem?_cons_zero]; rfl) (fun K hK => ?_)
            go_simp
            refine hK.out _ _ (.inl (by decide)) ?_
            clear hK K
            try simp only [Act.put, List.setIfInBounds_toArray, List.set_cons_zero, List.set_cons_succ]
            (refine takeL Ext.tr 11 (by simp only [List.getElem?_toArray, List.getElem?_cons_succ, List.getElem?_cons_zero]; rfl) (by kernel_rfl) (by kernel_rfl) (by kernel_rfl) (by kernel_rfl) (by exact fun _ _ _ h => h) (by first | (refine Or.inl ⟨by rfl, ?_⟩; intro W hW; go_simp; try with_reducible rfl) | exact Or.inr ⟨by rfl, rfl⟩) ?_; try simp only [Act.put, List.setIfInBounds_toArray, List.set_cons_zero, List.set_cons_succ])
            (refine takeL Ext.tr 12 (by simp only [List.getElem?_toArray, List.getElem?_cons_succ, List.getElem?_cons_zero]; rfl) (by kernel_rfl) (by kernel_rfl) (by kernel_rfl) (by kernel_rfl) (by exact fun _ _ _ h => h) (by first | (refine Or.inl ⟨by rfl, ?_⟩; intro W hW; go_simp; try with_reducible rfl) | exact Or.inr ⟨by rfl, rfl⟩) ?_; try simp only [Act.put, List.setIfInBounds_toArray, List.set_cons_zero, List.set_cons_succ])
            refine wpAnyL_done (by kernel_rfl) ?_ _
            clear q1 q2
            gi_wp2
            go_roundw
            case rel => exact ⟨k + 1, by omega, by go_num, by rw [HNS.out]; exact HF2.out.1, HR0.out.trans HF2.out.2⟩
            case measure => simp [intOf]; omega
    · obtain rfl : k = B.size := by omega
      have HK := Lib.hid (And.intro E0 (And.intro E1 E2))
      clear E0 E1 E2
      gi_wp2
      go_end0
      exact ⟨⟨_, rfl⟩, .inl ⟨_, List.take_of_length_le (by simp [Bm.all]), hJk⟩⟩
end Go.Proofs.Ytopmfpdcdclffaa
