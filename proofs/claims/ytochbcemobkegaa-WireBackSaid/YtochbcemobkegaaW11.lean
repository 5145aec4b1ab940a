/- The reader of a header. -/
import Derived.Test.YtochbcemobkegaaW10
set_option linter.unusedSimpArgs false
set_option linter.unusedVariables false
namespace Go.Proofs.Ytochbcemobkegaa
open Go.RowKit Go.Shelf

/-- A number of some bytes, as an int. -/
def gN (bs : List Int) (o k : Nat) : Int := wrap64 (num ((bs.drop o).take k))
theorem Good.wr {w w' : World} {g g' : Nat} {xs : List Int} (h : Good w g xs) (hw : Wr g' w w') (hg : g < g') : Good w' g xs := by
  obtain ⟨A, n, c, h1, h2, h3, h4⟩ := h
  exact ⟨A, n, c, h1.wr hw (by omega), h2.wr (fun ad he => by have := h3 ad he; omega) hw, h3, h4⟩
theorem Good.set {w : World} {g : Nat} {xs : List Int} (h : Good w g xs) {b i : Nat} (u : Value) (hg : g < b) : Good (w.setCell ⟨b, i, none⟩ u) g xs := h.wr (Wr.set w b i u) hg
theorem Good.lt {w : World} {g : Nat} {xs : List Int} (h : Good w g xs) : g < w.heap.size := by
  obtain ⟨A, n, c, h1, _⟩ := h
  exact h1.lt
theorem wr_set {g : Nat} {w w1 : World} (h : Wr g w w1) {b i : Nat} (u : Value) (hb : w.heap.size ≤ b) : Wr g w (w1.setCell ⟨b, i, none⟩ u) :=
  ⟨h.os, h.tape, h.output, by simp [World.setCell]; exact h.size, fun k hk hn => (Below.heap_setCell w1 ⟨b, i, none⟩ u k (by simp; omega)).trans (h.block k hk hn)⟩
theorem wr_alloc {g : Nat} {w w1 : World} (h : Wr g w w1) (o : Obj) : Wr g w (w1.alloc o) :=
  ⟨h.os, h.tape, h.output, by simp; have := h.size; omega, fun k hk hn => (Below.heap_alloc w1 o k (by have := h.size; omega)).trans (h.block k hk hn)⟩
theorem wr_of {g : Nat} {w w1 : World} (h : Below w.heap.size w w1) : Wr g w w1 := Wr.of_below h
set_option maxHeartbeats 1000000 in
theorem next_in (g : Nat) (xs : List Int) (k : Nat) (w : World) (h : Good w g xs) (h1 : 1 ≤ k) (h8 : k ≤ 8) (hk : k ≤ xs.length) :
    Calls Try.prog 31 #[.agg #[.pointer (some ⟨g, 0, none⟩)], .int .i64 k] w fun e w' => e = .returned (.int .i64 (wrap64 (num (xs.take k)))) ∧ Good w' g (xs.drop k) ∧ Wr g w w' := by
  have hs : sizeB k = true := by unfold sizeB; simp; omega
  have HG := Lib.hid (Good.below h ((Below.refl _ _).alloc (Nat.le_refl _) (.cells #[.pointer (some ⟨g, 0, none⟩)] 56)))
  clear h
  go_enter Try.func31, Try.ntmps31
  go_wp2_with fail
  refine (num_yes g xs k _ HG.out hs hk).mono ?_
  rintro e w1 ⟨rfl, hg1, hw1⟩
  have hw := (wr_alloc (Wr.refl w g) (.cells #[.pointer (some ⟨g, 0, none⟩)] 56)).trans hw1 (by simp)
  clear hw1
  generalize hv : num (xs.take k) = v at *
  have HV := Lib.hid hv
  clear hv
  have HG1 := Lib.hid hg1
  clear hg1
  go_wp2
  go_ret
  exact ⟨by rw [HV.out]; rfl, HG1.out, hw⟩
set_option maxHeartbeats 4000000 in
theorem packet_in (g : Nat) (xs : List Int) (w : World) (h : Good w g xs) (hl : 25 ≤ xs.length) :
    Calls Try.prog 30 #[.agg #[.pointer (some ⟨g, 0, none⟩)]] w fun e w' => e = .returned (.agg #[.int .i64 (gN xs 0 1), .int .i64 (gN xs 1 1), .int .i64 (gN xs 2 1), .int .i64 (gN xs 3 1), .int .i64 (gN xs 4 1), .int .i64 (gN xs 5 4), .int .i64 (gN xs 9 8), .int .i64 (gN xs 17 8), .slice none 0 0]) ∧ Good w' g (xs.drop 25) ∧ Wr g w w' := by
  have hgl := h.lt
  go_enter Try.func30, Try.ntmps30
  go_wp2_with fail
  have hb1 := ((((Below.refl w.heap.size w).alloc (Nat.le_refl _) (.cells #[.pointer (some ⟨g, 0, none⟩)] 56)).alloc (by simp) (.cells ([.int .i64 0, .int .i64 0, .int .i64 0, .int .i64 0, .int .i64 0, .int .i64 0, .int .i64 0, .int .i64 0, .slice none 0 0]).toArray 25)).alloc (by simp; omega) (.cells ([.int .i64 0, .int .i64 0, .int .i64 0, .int .i64 0, .int .i64 0, .int .i64 0, .int .i64 0, .int .i64 0, .slice none 0 0]).toArray 25))
  have hi := (((Bk.new w 56 [.pointer (some ⟨g, 0, none⟩)]).alloc (.cells ([.int .i64 0, .int .i64 0, .int .i64 0, .int .i64 0, .int .i64 0, .int .i64 0, .int .i64 0, .int .i64 0, .slice none 0 0]).toArray 25)).alloc (.cells ([.int .i64 0, .int .i64 0, .int .i64 0, .int .i64 0, .int .i64 0, .int .i64 0, .int .i64 0, .int .i64 0, .slice none 0 0]).toArray 25))
  have hr := ((Bk.new (w.alloc (.cells #[.pointer (some ⟨g, 0, none⟩)] 56)) 25 [.int .i64 0, .int .i64 0, .int .i64 0, .int .i64 0, .int .i64 0, .int .i64 0, .int .i64 0, .int .i64 0, .slice none 0 0]).alloc (.cells ([.int .i64 0, .int .i64 0, .int .i64 0, .int .i64 0, .int .i64 0, .int .i64 0, .int .i64 0, .int .i64 0, .slice none 0 0]).toArray 25))
  have hp := Bk.new ((w.alloc (.cells #[.pointer (some ⟨g, 0, none⟩)] 56)).alloc (.cells ([.int .i64 0, .int .i64 0, .int .i64 0, .int .i64 0, .int .i64 0, .int .i64 0, .int .i64 0, .int .i64 0, .slice none 0 0]).toArray 25)) 25 [.int .i64 0, .int .i64 0, .int .i64 0, .int .i64 0, .int .i64 0, .int .i64 0, .int .i64 0, .int .i64 0, .slice none 0 0]
  simp only [World.size_alloc, Nat.add_assoc, Nat.reduceAdd] at hr hp
  have hG := h.below hb1
  have hw := wr_of (g := g) hb1
  clear h hb1
  refine (next_in g xs 1 _ (by exact hG) (by omega) (by omega) (by (try simp); omega)).mono ?_
  clear hG
  rintro e w0 ⟨rfl, hG, hw0⟩
  try simp only [Nat.reduceAdd] at hG
  have hi := hi.wr hw0 (by omega)
  have hr := hr.wr hw0 (by omega)
  have hp := hp.wr hw0 (by omega)
  have hw := hw.trans hw0 (by have := hw.size; omega)
  clear hw0
  have e0 : wrap64 (num (xs.take 1)) = gN xs 0 1 := by simp [gN]
  rw [e0]
  clear e0
  obtain ⟨v0, ev0⟩ : ∃ v, v = gN xs 0 1 := ⟨_, rfl⟩
  rw [← ev0]
  have HV0 := Lib.hid ev0
  clear ev0
  have ci := hi.cell 0 rfl
  have cp := hp.cells9
  have fp := fun i => hp.free i
  go_wp2_with fail
  clear ci cp fp
  have hp := hp.set 0 (.int .i64 v0)
  simp only [List.set_cons_zero, List.set_cons_succ] at hp
  have hi := hi.far (p := ⟨w.heap.size + 2, 0, none⟩) (by simp) (.int .i64 v0)
  have hr := hr.far (p := ⟨w.heap.size + 2, 0, none⟩) (by simp) (.int .i64 v0)
  have hG := hG.set (b := w.heap.size + 2) (i := 0) (.int .i64 v0) (by omega)
  have hw := wr_set hw (b := w.heap.size + 2) (i := 0) (.int .i64 v0) (by omega)
  refine (next_in g (xs.drop 1) 1 _ (by exact hG) (by omega) (by omega) (by (try simp); omega)).mono ?_
  clear hG
  rintro e w1 ⟨rfl, hG, hw1⟩
  rw [List.drop_drop] at hG
  try simp only [Nat.reduceAdd] at hG
  have hi := hi.wr hw1 (by omega)
  have hr := hr.wr hw1 (by omega)
  have hp := hp.wr hw1 (by omega)
  have hw := hw.trans hw1 (by have := hw.size; omega)
  clear hw1
  have e0 : wrap64 (num ((xs.drop 1).take 1)) = gN xs 1 1 := by simp [gN]
  rw [e0]
  clear e0
  obtain ⟨v1, ev1⟩ : ∃ v, v = gN xs 1 1 := ⟨_, rfl⟩
  rw [← ev1]
  have HV1 := Lib.hid ev1
  clear ev1
  have ci := hi.cell 0 rfl
  have cp := hp.cells9
  have fp := fun i => hp.free i
  go_wp2_with fail
  clear ci cp fp
  have hp := hp.set 1 (.int .i64 v1)
  simp only [List.set_cons_zero, List.set_cons_succ] at hp
  have hi := hi.far (p := ⟨w.heap.size + 2, 1, none⟩) (by simp) (.int .i64 v1)
  have hr := hr.far (p := ⟨w.heap.size + 2, 1, none⟩) (by simp) (.int .i64 v1)
  have hG := hG.set (b := w.heap.size + 2) (i := 1) (.int .i64 v1) (by omega)
  have hw := wr_set hw (b := w.heap.size + 2) (i := 1) (.int .i64 v1) (by omega)
  refine (next_in g (xs.drop 2) 1 _ (by exact hG) (by omega) (by omega) (by (try simp); omega)).mono ?_
  clear hG
  rintro e w2 ⟨rfl, hG, hw2⟩
  rw [List.drop_drop] at hG
  try simp only [Nat.reduceAdd] at hG
  have hi := hi.wr hw2 (by omega)
  have hr := hr.wr hw2 (by omega)
  have hp := hp.wr hw2 (by omega)
  have hw := hw.trans hw2 (by have := hw.size; omega)
  clear hw2
  have e0 : wrap64 (num ((xs.drop 2).take 1)) = gN xs 2 1 := by simp [gN]
  rw [e0]
  clear e0
  obtain ⟨v2, ev2⟩ : ∃ v, v = gN xs 2 1 := ⟨_, rfl⟩
  rw [← ev2]
  have HV2 := Lib.hid ev2
  clear ev2
  have ci := hi.cell 0 rfl
  have cp := hp.cells9
  have fp := fun i => hp.free i
  go_wp2_with fail
  clear ci cp fp
  have hp := hp.set 2 (.int .i64 v2)
  simp only [List.set_cons_zero, List.set_cons_succ] at hp
  have hi := hi.far (p := ⟨w.heap.size + 2, 2, none⟩) (by simp) (.int .i64 v2)
  have hr := hr.far (p := ⟨w.heap.size + 2, 2, none⟩) (by simp) (.int .i64 v2)
  have hG := hG.set (b := w.heap.size + 2) (i := 2) (.int .i64 v2) (by omega)
  have hw := wr_set hw (b := w.heap.size + 2) (i := 2) (.int .i64 v2) (by omega)
  refine (next_in g (xs.drop 3) 1 _ (by exact hG) (by omega) (by omega) (by (try simp); omega)).mono ?_
  clear hG
  rintro e w3 ⟨rfl, hG, hw3⟩
  rw [List.drop_drop] at hG
  try simp only [Nat.reduceAdd] at hG
  have hi := hi.wr hw3 (by omega)
  have hr := hr.wr hw3 (by omega)
  have hp := hp.wr hw3 (by omega)
  have hw := hw.trans hw3 (by have := hw.size; omega)
  clear hw3
  have e0 : wrap64 (num ((xs.drop 3).take 1)) = gN xs 3 1 := by simp [gN]
  rw [e0]
  clear e0
  obtain ⟨v3, ev3⟩ : ∃ v, v = gN xs 3 1 := ⟨_, rfl⟩
  rw [← ev3]
  have HV3 := Lib.hid ev3
  clear ev3
  have ci := hi.cell 0 rfl
  have cp := hp.cells9
  have fp := fun i => hp.free i
  go_wp2_with fail
  clear ci cp fp
  have hp := hp.set 3 (.int .i64 v3)
  simp only [List.set_cons_zero, List.set_cons_succ] at hp
  have hi := hi.far (p := ⟨w.heap.size + 2, 3, none⟩) (by simp) (.int .i64 v3)
  have hr := hr.far (p := ⟨w.heap.size + 2, 3, none⟩) (by simp) (.int .i64 v3)
  have hG := hG.set (b := w.heap.size + 2) (i := 3) (.int .i64 v3) (by omega)
  have hw := wr_set hw (b := w.heap.size + 2) (i := 3) (.int .i64 v3) (by omega)
  refine (next_in g (xs.drop 4) 1 _ (by exact hG) (by omega) (by omega) (by (try simp); omega)).mono ?_
  clear hG
  rintro e w4 ⟨rfl, hG, hw4⟩
  rw [List.drop_drop] at hG
  try simp only [Nat.reduceAdd] at hG
  have hi := hi.wr hw4 (by omega)
  have hr := hr.wr hw4 (by omega)
  have hp := hp.wr hw4 (by omega)
  have hw := hw.trans hw4 (by have := hw.size; omega)
  clear hw4
  have e0 : wrap64 (num ((xs.drop 4).take 1)) = gN xs 4 1 := by simp [gN]
  rw [e0]
  clear e0
  obtain ⟨v4, ev4⟩ : ∃ v, v = gN xs 4 1 := ⟨_, rfl⟩
  rw [← ev4]
  have HV4 := Lib.hid ev4
  clear ev4
  have ci := hi.cell 0 rfl
  have cp := hp.cells9
  have fp := fun i => hp.free i
  go_wp2_with fail
  clear ci cp fp
  have hp := hp.set 4 (.int .i64 v4)
  simp only [List.set_cons_zero, List.set_cons_succ] at hp
  have hi := hi.far (p := ⟨w.heap.size + 2, 4, none⟩) (by simp) (.int .i64 v4)
  have hr := hr.far (p := ⟨w.heap.size + 2, 4, none⟩) (by simp) (.int .i64 v4)
  have hG := hG.set (b := w.heap.size + 2) (i := 4) (.int .i64 v4) (by omega)
  have hw := wr_set hw (b := w.heap.size + 2) (i := 4) (.int .i64 v4) (by omega)
  refine (next_in g (xs.drop 5) 4 _ (by exact hG) (by omega) (by omega) (by (try simp); omega)).mono ?_
  clear hG
  rintro e w5 ⟨rfl, hG, hw5⟩
  rw [List.drop_drop] at hG
  try simp only [Nat.reduceAdd] at hG
  have hi := hi.wr hw5 (by omega)
  have hr := hr.wr hw5 (by omega)
  have hp := hp.wr hw5 (by omega)
  have hw := hw.trans hw5 (by have := hw.size; omega)
  clear hw5
  have e0 : wrap64 (num ((xs.drop 5).take 4)) = gN xs 5 4 := by simp [gN]
  rw [e0]
  clear e0
  obtain ⟨v5, ev5⟩ : ∃ v, v = gN xs 5 4 := ⟨_, rfl⟩
  rw [← ev5]
  have HV5 := Lib.hid ev5
  clear ev5
  have ci := hi.cell 0 rfl
  have cp := hp.cells9
  have fp := fun i => hp.free i
  go_wp2_with fail
  clear ci cp fp
  have hp := hp.set 5 (.int .i64 v5)
  simp only [List.set_cons_zero, List.set_cons_succ] at hp
  have hi := hi.far (p := ⟨w.heap.size + 2, 5, none⟩) (by simp) (.int .i64 v5)
  have hr := hr.far (p := ⟨w.heap.size + 2, 5, none⟩) (by simp) (.int .i64 v5)
  have hG := hG.set (b := w.heap.size + 2) (i := 5) (.int .i64 v5) (by omega)
  have hw := wr_set hw (b := w.heap.size + 2) (i := 5) (.int .i64 v5) (by omega)
  refine (next_in g (xs.drop 9) 8 _ (by exact hG) (by omega) (by omega) (by (try simp); omega)).mono ?_
  clear hG
  rintro e w6 ⟨rfl, hG, hw6⟩
  rw [List.drop_drop] at hG
  try simp only [Nat.reduceAdd] at hG
  have hi := hi.wr hw6 (by omega)
  have hr := hr.wr hw6 (by omega)
  have hp := hp.wr hw6 (by omega)
  have hw := hw.trans hw6 (by have := hw.size; omega)
  clear hw6
  have e0 : wrap64 (num ((xs.drop 9).take 8)) = gN xs 9 8 := by simp [gN]
  rw [e0]
  clear e0
  obtain ⟨v6, ev6⟩ : ∃ v, v = gN xs 9 8 := ⟨_, rfl⟩
  rw [← ev6]
  have HV6 := Lib.hid ev6
  clear ev6
  have ci := hi.cell 0 rfl
  have cp := hp.cells9
  have fp := fun i => hp.free i
  go_wp2_with fail
  clear ci cp fp
  have hp := hp.set 6 (.int .i64 v6)
  simp only [List.set_cons_zero, List.set_cons_succ] at hp
  have hi := hi.far (p := ⟨w.heap.size + 2, 6, none⟩) (by simp) (.int .i64 v6)
  have hr := hr.far (p := ⟨w.heap.size + 2, 6, none⟩) (by simp) (.int .i64 v6)
  have hG := hG.set (b := w.heap.size + 2) (i := 6) (.int .i64 v6) (by omega)
  have hw := wr_set hw (b := w.heap.size + 2) (i := 6) (.int .i64 v6) (by omega)
  refine (next_in g (xs.drop 17) 8 _ (by exact hG) (by omega) (by omega) (by (try simp); omega)).mono ?_
  clear hG
  rintro e w7 ⟨rfl, hG, hw7⟩
  rw [List.drop_drop] at hG
  try simp only [Nat.reduceAdd] at hG
  have hi := hi.wr hw7 (by omega)
  have hr := hr.wr hw7 (by omega)
  have hp := hp.wr hw7 (by omega)
  have hw := hw.trans hw7 (by have := hw.size; omega)
  clear hw7
  have e0 : wrap64 (num ((xs.drop 17).take 8)) = gN xs 17 8 := by simp [gN]
  rw [e0]
  clear e0
  obtain ⟨v7, ev7⟩ : ∃ v, v = gN xs 17 8 := ⟨_, rfl⟩
  rw [← ev7]
  have HV7 := Lib.hid ev7
  clear ev7
  have ci := hi.cell 0 rfl
  have cp := hp.cells9
  have fp := fun i => hp.free i
  have cr := hr.cells9
  have fr := fun i => hr.free i
  go_wp2_with fail
  refine bodyPost_ret (v := .agg #[.int .i64 v0, .int .i64 v1, .int .i64 v2, .int .i64 v3, .int .i64 v4, .int .i64 v5, .int .i64 v6, .int .i64 v7, .slice none 0 0]) (by simp [results, Try.results30, go_sem, *]) rfl ⟨by rw [HV0.out, HV1.out, HV2.out, HV3.out, HV4.out, HV5.out, HV6.out, HV7.out], ?_, ?_⟩
  · clear hp hi hr hw ci cp fp cr fr
    repeat (first | with_reducible refine Good.set ?_ _ (by omega) | with_reducible exact hG)
  · clear hp hi hr hG ci cp fp cr fr
    repeat (first | with_reducible refine wr_set ?_ _ (by omega) | with_reducible exact hw)
end Go.Proofs.Ytochbcemobkegaa
