/- The document's answers: rings as values. -/
import Derived.Test.YtgeihelpggncgaaL2
import Derived.Laws.NewBlocks
set_option linter.unusedSimpArgs false
set_option linter.unusedVariables false
namespace Go.Proofs.Ytgeihelpggncgaa
open Go.RowKit Go.Shelf Rgint

/-- The block in which the slice lies, if it has elements. -/
def BlkN (A : Option Addr) (n k : Nat) : Prop := 0 < n ∧ BlkOf A k
/-- A row that reads as xs, in blocks that are there. -/
def Rf (w : World) (A : Option Addr) (n c : Nat) (xs : List Int) : Prop := Rd .i64 w A n c xs ∧ ∀ k, BlkN A n k → k < w.heap.size
theorem Rf.below {w w' : World} {A : Option Addr} {n c : Nat} {xs : List Int} (h : Rf w A n c xs) (hb : Below w.heap.size w w') : Rf w' A n c xs := ⟨h.1.below hb, fun k hk => Nat.lt_of_lt_of_le (h.2 k hk) hb.size⟩
theorem Rf.st {w w' : World} {A : Option Addr} {n c : Nat} {xs : List Int} (h : Rf w A n c xs) {F : Nat → Prop} (hs : St F w w') (hF : Sep F (BlkN A n)) : Rf w' A n c xs :=
  ⟨h.1.st hs (fun hn ad he hf => hF _ hf ⟨hn, ad, he, rfl⟩), fun k hk => Nat.lt_of_lt_of_le (h.2 k hk) hs.size⟩
theorem Lst.rf {F : Nat → Prop} {w : World} {A : Option Addr} {n c : Nat} {xs : List Int} (h : Lst 3 F w A n c (xs.map (.int .i64))) (hwf : ∀ x ∈ xs, (Lit.int .i64 x).wf = true) : Rf w A n c xs := ⟨h.rdv.rd hwf, fun k hk => h.lt k hk.2⟩
theorem cutA_blk {A : Option Addr} {n c s : Nat} : ∀ k, BlkN (cutA A c s) (n - s) k → BlkN A n k := by
  rintro k ⟨hn, ad, he, rfl⟩
  refine ⟨by omega, ?_⟩
  unfold cutA at he
  split at he
  · exact ⟨ad, he, rfl⟩
  · cases A with
    | none => cases he
    | some a =>
      injection he with he
      refine ⟨a, rfl, ?_⟩
      rw [← he]
      unfold Addr.add
      split <;> rfl
/-- What a call hands back: a ring's value, and more. -/
def Rv (A0 : Option Addr) (n0 : Nat) (xs : List Int) (N : Int) (more : List Value) (w : World) (e : Ending) (w' : World) : Prop :=
  ∃ A n c, e = .returned (.tuple (.agg #[.slice A n c, .int .i64 N] :: more).toArray) ∧ Rf w' A n c xs ∧ Below w.heap.size w w' ∧ Gr (BlkN A0 n0) (BlkN A n) w.heap.size

theorem rnew_ok (room : Nat) (w : World) (h0 : 0 < room) (h1 : room ≤ 1024) : Calls Try.prog 8 #[.int .i64 room] w (Rv none 0 [] room [.int .i64 0] w) := by
  go_enter Try.func8, Try.ntmps8
  go_wp2
  refine bodyPost_ret (v := .tuple #[.agg #[.slice none 0 0, .int .i64 room], .int .i64 0]) (by simp [results, Try.results8, go_sem]) rfl ?_
  exact ⟨none, 0, 0, rfl, ⟨Rd.nil _ _, by rintro k ⟨h, _⟩; omega⟩, (Below.refl _ _).alloc (Nat.le_refl _) _, Gr.refl _ _⟩
theorem rnew_bad (room : Int) (w : World) (h : badRoom room = true) : Calls Try.prog 8 #[.int .i64 room] w (Rv none 0 [] 0 [.int .i64 40] w) := by
  unfold badRoom at h
  by_cases h1 : room < 1
  · clear h
    go_enter Try.func8, Try.ntmps8
    go_wp2
    refine bodyPost_ret (v := .tuple #[.agg #[.slice none 0 0, .int .i64 0], .int .i64 40]) (by simp [results, Try.results8, go_sem]) rfl ?_
    exact ⟨none, 0, 0, rfl, ⟨Rd.nil _ _, by rintro k ⟨h, _⟩; omega⟩, (Below.refl _ _).alloc (Nat.le_refl _) _, Gr.refl _ _⟩
  · have h2 : 1024 < room := by simp at h; omega
    clear h
    go_enter Try.func8, Try.ntmps8
    go_wp2
    refine bodyPost_ret (v := .tuple #[.agg #[.slice none 0 0, .int .i64 0], .int .i64 40]) (by simp [results, Try.results8, go_sem]) rfl ?_
    exact ⟨none, 0, 0, rfl, ⟨Rd.nil _ _, by rintro k ⟨h, _⟩; omega⟩, (Below.refl _ _).alloc (Nat.le_refl _) _, Gr.refl _ _⟩

theorem St.set2 {F : Nat → Prop} {g : Nat} (hg : F g) (w : World) (a b : Value) : St F w ((w.setCell ⟨g, 0, none⟩ a).setCell ⟨g, 1, none⟩ b) := (St.setCell w (a := ⟨g, 0, none⟩) hg a).trans (St.setCell _ (a := ⟨g, 1, none⟩) hg b) (Gr.refl _ _)
theorem rv_end {A0 A4 A5 : Option Addr} {n0 n5 c5 : Nat} {zs : List Int} {N : Int} {more : List Value} {w w4 wd w5 : World} (hwf : ∀ x ∈ zs, (Lit.int .i64 x).wf = true) (hb4 : Below w.heap.size w w4) (hz4 : w.heap.size + 2 ≤ w4.heap.size) (hbd : Below w4.heap.size w4 wd) (hst5 : St (BlkOf A4) wd w5)
    (hA4 : ∀ k, BlkOf A4 k → w.heap.size + 2 ≤ k) (hle : Lst 3 (BlkOf A5) w5 A5 n5 c5 (zs.map (.int .i64))) (hgr : Gr (BlkOf A4) (BlkOf A5) wd.heap.size) (v0 v1 : Value) :
    Rv A0 n0 zs N more w (.returned (.tuple (.agg #[.slice A5 n5 c5, .int .i64 N] :: more).toArray)) ((w5.setCell ⟨w.heap.size + 1, 0, none⟩ v0).setCell ⟨w.heap.size + 1, 1, none⟩ v1) := by
  have hs := hbd.size
  have hw4 := hb4.size
  have hA5 := hgr.ge hA4 (by omega)
  have hne : ∀ ad, A5 = some ad → ad.block ≠ w.heap.size + 1 := fun ad he e => by have := hA5 _ ⟨ad, he, rfl⟩; omega
  have hbe : Below w.heap.size w ((w5.setCell ⟨w.heap.size + 1, 0, none⟩ v0).setCell ⟨w.heap.size + 1, 1, none⟩ v1) :=
    (((hb4.trans (hbd.mono hw4)).trans (hst5.below (by omega) (fun k hk => by have := hA4 k hk; omega))).setCell (p := ⟨w.heap.size + 1, 0, none⟩) (by simp) _).setCell (p := ⟨w.heap.size + 1, 1, none⟩) (by simp) _
  exact ⟨A5, n5, c5, rfl, Lst.rf ((hle.far (p := ⟨w.heap.size + 1, 0, none⟩) hne v0).far (p := ⟨w.heap.size + 1, 1, none⟩) hne v1) hwf, hbe, fun k hk => .inr (by have := hA5 k hk.2; omega)⟩
theorem none_ge (n : Nat) : ∀ k, BlkOf none k → n ≤ k := by rintro k ⟨ad, he, _⟩; cases he
theorem boxes (w : World) (v0 v1 : Value) : ∃ w2, w2 = (w.alloc (.cells #[v0, v1] 29)).alloc (.cells #[.slice none 0 0, .int .i64 0] 29) ∧ Bk w2 29 w.heap.size [v0, v1] ∧ Bk w2 29 (w.heap.size + 1) [.slice none 0 0, .int .i64 0] ∧ Below w.heap.size w w2 ∧ w2.heap.size = w.heap.size + 2 := by
  refine ⟨_, rfl, (Bk.new w 29 [v0, v1]).alloc _, ?_, ((Below.refl w.heap.size w).alloc (Nat.le_refl _) _).alloc (by simp) _, by simp⟩
  have := Bk.new (w.alloc (.cells #[v0, v1] 29)) 29 [.slice none 0 0, .int .i64 0]
  rwa [World.size_alloc] at this
set_option maxRecDepth 100000 in
set_option maxHeartbeats 1000000 in
theorem rpop_some (A : Option Addr) (n c : Nat) (N x : Int) (xs : List Int) (w : World) (h : Rf w A n c (x :: xs)) :
    Calls Try.prog 30 #[.agg #[.slice A n c, .int .i64 N]] w (Rv A n xs N [.int .i64 x, .bool true] w) := by
  have hn := h.1.1
  have hnc := h.1.2.1
  simp only [List.length_cons] at hn
  have h1 : 1 ≤ n := by omega
  have hn0 : 0 < n := h1
  have hne : ((n : Int) == 0) = false := by rw [beq_eq_false_iff_ne]; omega
  have hcut : ∀ W, (Instr.slice 27 (.slice A n c) (some (.int .i64 1)) none none).run Try.prog W = .ok (.slice (cutA A c 1) (n - 1) (c - 1)) W := fun W => elt.run_cut A n c 1 h1 hnc W
  have hc := h.1.cut (s := 1) h1
  obtain ⟨g, o, hA, hg, hx⟩ := h.1.cell (i := 0) h1
  have HA := Lib.hid (And.intro hc h.2)
  rw [Nat.add_zero] at hx
  simp only [List.getD_cons_zero] at hx
  subst hA
  obtain ⟨w2, hw2, q0, q1, hb2, hs2⟩ := boxes w (.slice (some ⟨g, o, none⟩) n c) (.int .i64 N)
  have hx2 := (hb2.cell (p := ⟨g, o, none⟩) hg).trans hx
  clear hc hn
  go_enter Try.func30, Try.ntmps30
  go_wp2
  rw [← hw2]
  clear hw2
  refine wp_region_E (Wr (w.heap.size + 1)) (by kernel_rfl) (fun wd hbd hsz => ?_)
  have p0 := q0.below hbd
  have p1 := q1.below hbd
  have hxd : wd.cell? ⟨g, o, none⟩ = some (.int .i64 x) := (hbd.cell (p := ⟨g, o, none⟩) (by simp; omega)).trans hx2
  have hgd : g < wd.heap.size := by have := hbd.size; omega
  have k0 := fun W' (hW : Wr (w.heap.size + 1) wd W') => (p0.wr hW (by omega)).cell 0 rfl
  have k1 := fun W' (hW : Wr (w.heap.size + 1) wd W') => (p0.wr hW (by omega)).cell 1 rfl
  have k2 := fun W' (hW : Wr (w.heap.size + 1) wd W') => (wr_cell hW (p := ⟨g, o, none⟩) (by simp; omega) hgd).trans hxd
  have k3 := p1.cell 0 rfl
  have k4 := p1.cell 1 rfl
  have k5 := p1.free 0
  have k6 := p1.free 1
  (refine takeE (wrTr (w.heap.size + 1)) 0 (by simp only [List.getElem?_toArray, List.getElem?_cons_succ, List.getElem?_cons_zero]; rfl) (by kernel_rfl) (by kernel_rfl) (by kernel_rfl) (by exact fun _ _ _ h => h) (by first | (refine Or.inl ⟨by rfl, ?_⟩; intro W hW; go_simp; try with_reducible rfl) | exact Or.inr ⟨by rfl, rfl⟩) ?_; try simp only [Act.put, List.setIfInBounds_toArray, List.set_cons_zero, List.set_cons_succ])
  (refine takeE (wrTr (w.heap.size + 1)) 3 (by simp only [List.getElem?_toArray, List.getElem?_cons_succ, List.getElem?_cons_zero]; rfl) (by kernel_rfl) (by kernel_rfl) (by kernel_rfl) (by exact fun _ _ _ h => h) (by first | (refine Or.inl ⟨by rfl, ?_⟩; intro W hW; go_simp; try with_reducible rfl) | exact Or.inr ⟨by rfl, rfl⟩) ?_; try simp only [Act.put, List.setIfInBounds_toArray, List.set_cons_zero, List.set_cons_succ])
  (refine takeE (wrTr (w.heap.size + 1)) 6 (by simp only [List.getElem?_toArray, List.getElem?_cons_succ, List.getElem?_cons_zero]; rfl) (by kernel_rfl) (by kernel_rfl) (by kernel_rfl) (by exact fun _ _ _ h => h) (by first | (refine Or.inl ⟨by rfl, ?_⟩; intro W hW; go_simp; try with_reducible rfl) | exact Or.inr ⟨by rfl, rfl⟩) ?_; try simp only [Act.put, List.setIfInBounds_toArray, List.set_cons_zero, List.set_cons_succ])
  (refine takeE (wrTr (w.heap.size + 1)) 1 (by simp only [List.getElem?_toArray, List.getElem?_cons_succ, List.getElem?_cons_zero]; rfl) (by kernel_rfl) (by kernel_rfl) (by kernel_rfl) (by exact fun _ _ _ h => h) (by first | (refine Or.inl ⟨by rfl, ?_⟩; intro W hW; go_simp; try with_reducible rfl) | exact Or.inr ⟨by rfl, rfl⟩) ?_; try simp only [Act.put, List.setIfInBounds_toArray, List.set_cons_zero, List.set_cons_succ])
  (refine takeE (wrTr (w.heap.size + 1)) 4 (by simp only [List.getElem?_toArray, List.getElem?_cons_succ, List.getElem?_cons_zero]; rfl) (by kernel_rfl) (by kernel_rfl) (by kernel_rfl) (by exact fun _ _ _ h => h) (by first | (refine Or.inl ⟨by rfl, ?_⟩; intro W hW; go_simp; try with_reducible rfl) | exact Or.inr ⟨by rfl, rfl⟩) ?_; try simp only [Act.put, List.setIfInBounds_toArray, List.set_cons_zero, List.set_cons_succ])
  (refine takeE (wrTr (w.heap.size + 1)) 7 (by simp only [List.getElem?_toArray, List.getElem?_cons_succ, List.getElem?_cons_zero]; rfl) (by kernel_rfl) (by kernel_rfl) (by kernel_rfl) (by exact fun _ _ _ h => h) (by first | (refine Or.inl ⟨by rfl, ?_⟩; intro W hW; go_simp; try with_reducible rfl) | exact Or.inr ⟨by rfl, rfl⟩) ?_; try simp only [Act.put, List.setIfInBounds_toArray, List.set_cons_zero, List.set_cons_succ])
  (refine takeE (wrTr (w.heap.size + 1)) 2 (by simp only [List.getElem?_toArray, List.getElem?_cons_succ, List.getElem?_cons_zero]; rfl) (by kernel_rfl) (by kernel_rfl) (by kernel_rfl) (by exact fun _ _ _ h => h) (by first | (refine Or.inl ⟨by rfl, ?_⟩; intro W hW; go_simp; try with_reducible rfl) | exact Or.inr ⟨by rfl, rfl⟩) ?_; try simp only [Act.put, List.setIfInBounds_toArray, List.set_cons_zero, List.set_cons_succ])
  (refine takeE (wrTr (w.heap.size + 1)) 8 (by simp only [List.getElem?_toArray, List.getElem?_cons_succ, List.getElem?_cons_zero]; rfl) (by kernel_rfl) (by kernel_rfl) (by kernel_rfl) (by exact fun _ _ _ h => h) (by first | (refine Or.inl ⟨by rfl, ?_⟩; intro W hW; go_simp; try with_reducible rfl) | exact Or.inr ⟨by rfl, rfl⟩) ?_; try simp only [Act.put, List.setIfInBounds_toArray, List.set_cons_zero, List.set_cons_succ])
  (refine takeE (wrTr (w.heap.size + 1)) 5 (by simp only [List.getElem?_toArray, List.getElem?_cons_succ, List.getElem?_cons_zero]; rfl) (by kernel_rfl) (by kernel_rfl) (by kernel_rfl) (by exact fun _ _ _ h => h) (by first | (refine Or.inl ⟨by rfl, ?_⟩; intro W hW; go_simp; try with_reducible rfl) | exact Or.inr ⟨by rfl, rfl⟩) ?_; try simp only [Act.put, List.setIfInBounds_toArray, List.set_cons_zero, List.set_cons_succ])
  (refine takeE (wrTr (w.heap.size + 1)) 9 (by simp only [List.getElem?_toArray, List.getElem?_cons_succ, List.getElem?_cons_zero]; rfl) (by kernel_rfl) (by kernel_rfl) (by kernel_rfl) (by exact fun _ _ _ h => h) (by first | (refine Or.inl ⟨by rfl, ?_⟩; intro W hW; go_simp; try with_reducible rfl) | exact Or.inr ⟨by rfl, rfl⟩) ?_; try simp only [Act.put, List.setIfInBounds_toArray, List.set_cons_zero, List.set_cons_succ])
  refine wpAnyE_one (i := 10) (by kernel_rfl) (by simp only [List.getElem?_toArray, List.getElem?_cons_succ, List.getElem?_cons_zero]; rfl) (fun K hK => ?_)
  go_simp
  refine hK.out _ _ ((Wr.set _ _ _ _).trans (Wr.set _ _ _ _) (by simp [World.setCell])) ?_
  clear hK K
  try simp only [Act.put, List.setIfInBounds_toArray, List.set_cons_zero, List.set_cons_succ]
  (refine takeE (wrTr (w.heap.size + 1)) 11 (by simp only [List.getElem?_toArray, List.getElem?_cons_succ, List.getElem?_cons_zero]; rfl) (by kernel_rfl) (by kernel_rfl) (by kernel_rfl) (by exact fun _ _ _ h => h) (by first | (refine Or.inl ⟨by rfl, ?_⟩; intro W hW; go_simp; try with_reducible rfl) | exact Or.inr ⟨by rfl, rfl⟩) ?_; try simp only [Act.put, List.setIfInBounds_toArray, List.set_cons_zero, List.set_cons_succ])
  (refine takeE (wrTr (w.heap.size + 1)) 12 (by simp only [List.getElem?_toArray, List.getElem?_cons_succ, List.getElem?_cons_zero]; rfl) (by kernel_rfl) (by kernel_rfl) (by kernel_rfl) (by exact fun _ _ _ h => h) (by first | (refine Or.inl ⟨by rfl, ?_⟩; intro W hW; go_simp; try with_reducible rfl) | exact Or.inr ⟨by rfl, rfl⟩) ?_; try simp only [Act.put, List.setIfInBounds_toArray, List.set_cons_zero, List.set_cons_succ])
  refine wpAnyE_done (by kernel_rfl) ?_ _
  clear k0 k1 k2 k3 k4 k5 k6
  have p1s := (p1.set 0 (.slice (cutA (some ⟨g, o, none⟩) c 1) (n - 1) (c - 1))).set 1 (.int .i64 N)
  have e0 := p1s.cell 0 rfl
  have e1 := p1s.cell 1 rfl
  go_wp2
  refine bodyPost_ret (v := .tuple #[.agg #[.slice (cutA (some ⟨g, o, none⟩) c 1) (n - 1) (c - 1), .int .i64 N], .int .i64 x, .bool true]) (by simp [results, Try.results30, go_sem, e0, e1]) rfl ?_
  have hbe : Below w.heap.size w ((wd.setCell ⟨w.heap.size + 1, 0, none⟩ (.slice (cutA (some ⟨g, o, none⟩) c 1) (n - 1) (c - 1))).setCell ⟨w.heap.size + 1, 1, none⟩ (.int .i64 N)) :=
    ((hb2.trans (hbd.mono hb2.size)).setCell (p := ⟨w.heap.size + 1, 0, none⟩) (by simp) _).setCell (p := ⟨w.heap.size + 1, 1, none⟩) (by simp) _
  exact ⟨_, _, _, rfl, Rf.below ⟨HA.out.1, fun k hk => HA.out.2 k (cutA_blk k hk)⟩ hbe, hbe, fun k hk => .inl (cutA_blk k hk)⟩
theorem rpop_none (A : Option Addr) (c : Nat) (N : Int) (w : World) (h : Rf w A 0 c []) :
    Calls Try.prog 30 #[.agg #[.slice A 0 c, .int .i64 N]] w (Rv A 0 [] N [.int .i64 0, .bool false] w) := by
  go_enter Try.func30, Try.ntmps30
  go_wp2
  refine bodyPost_ret (v := .tuple #[.agg #[.slice A 0 c, .int .i64 N], .int .i64 0, .bool false]) (by simp [results, Try.results30, go_sem]) rfl ?_
  have hbe : Below w.heap.size w ((w.alloc (.cells #[.slice A 0 c, .int .i64 N] 29)).alloc (.cells #[.slice A 0 c, .int .i64 N] 29)) := ((Below.refl w.heap.size w).alloc (Nat.le_refl _) _).alloc (by simp) _
  exact ⟨_, _, _, rfl, h.below hbe, hbe, Gr.refl _ _⟩
set_option maxRecDepth 100000 in
set_option maxHeartbeats 1000000 in
theorem rpush_ok (A B : Option Addr) (n c m d N : Nat) (xs ys : List Int) (w : World) (h : Rf w A n c xs) (h2 : Rd .i64 w B m d ys) (hN : N ≤ 1024) (hnm : n + m ≤ N) :
    Calls Try.prog 33 #[.agg #[.slice A n c, .int .i64 N], .slice B m d] w (Rv A n (xs ++ ys) N [.int .i64 0] w) := by
  have hcmp : (m : Int) ≤ (N : Int) - n := by omega
  have hnm' : n ≤ 1024 := by omega
  have HW := Lib.hid (And.intro h.1.2.2.2.2.1 h2.2.2.2.2.1)
  have HN := Lib.hid h.1.1
  have HM := Lib.hid h2.1
  obtain ⟨w2, hw2, q0, q1, hb2, hs2⟩ := boxes w (.slice A n c) (.int .i64 N)
  have hb3 : Below w.heap.size w (w2.alloc (.cells #[] 3)) := hb2.alloc (by omega) _
  have hu := (h.1.below hb3).rdv
  have h2' := h2.below hb3
  have hl : Lst 3 (BlkOf (some ⟨w.heap.size + 2, 0, none⟩)) (w2.alloc (.cells #[] 3)) (some ⟨w.heap.size + 2, 0, none⟩) 0 0 [] := by
    have := (Lst.made w2 3 #[] 0 [] rfl (Nat.le_refl _) (Nat.zero_le _) (by simp) (by simp)).tight
    rwa [hs2] at this
  have q0' := q0.alloc (.cells #[] 3)
  have q1' := q1.alloc (.cells #[] 3)
  have HS2 := Lib.hid hs2
  have hs3 : (w2.alloc (.cells #[] 3)).heap.size = w.heap.size + 3 := by simp [hs2]
  have HS3 := Lib.hid hs3
  rw [hw2] at hl hu q0' q1'
  clear hs2 hs3
  go_enter Try.func33, Try.ntmps33
  go_wp2_with (at_builtin
               refine wpList_append_lst elt rfl (.tmp 17) (.tmp 19) rfl rfl hl rfl hu (by omega) ?_
               rintro v w4 ⟨⟨A4, n4, c4, rfl, hl4⟩, hst4⟩)
  rw [← hw2] at hl4 hst4 q0' q1'
  have hbl : ∀ k, BlkOf (some (⟨w.heap.size + 2, 0, none⟩ : Addr)) k → k = w.heap.size + 2 := by
    rintro k ⟨ad, he, rfl⟩
    injection he with he
    subst he
    rfl
  have hA4 : ∀ k, BlkOf A4 k → w.heap.size + 2 ≤ k := by
    rintro k hk
    rcases hl4.gr k hk with h | h
    · rw [hbl k h]; exact Nat.le_refl _
    · rw [HS3.out] at h; omega
  have r0 := q0'.st hst4 (fun h => by have := hbl _ h; omega)
  have r1 := q1'.st hst4 (fun h => by have := hbl _ h; omega)
  have hb4 : Below w.heap.size w w4 := hb3.trans (hst4.below hb3.size (fun k hk => by rw [hbl k hk]; omega))
  have hz4 : w.heap.size + 3 ≤ w4.heap.size := by have := hst4.size; rw [HS3.out] at this; exact this
  have hn4 : n4 = n := by
    have := hl4.1
    simp [HN.out] at this
    omega
  have h24 := h2.below hb4
  subst hn4
  rw [List.nil_append] at hl4
  clear hl hu q0' q1' hst4 hw2 q0 q1 h2'
  have hFo : ∃ Fo : Nat → Prop, (∀ k, BlkOf A4 k → Fo k) ∧ Fo (w.heap.size + 1) ∧ ¬ Fo w.heap.size ∧ ∀ k, Fo k → w.heap.size + 1 ≤ k :=
    ⟨fun k => BlkOf A4 k ∨ k = w.heap.size + 1, fun k h => .inl h, .inr rfl, fun h => by rcases h with h | h; have := hA4 _ h; omega; omega, fun k h => by rcases h with h | h; have := hA4 _ h; omega; omega⟩
  obtain ⟨Fo, hFa, hFb, hFc, hFd⟩ := hFo
  refine wp_region_E (St Fo) (by kernel_rfl) (fun wd hbd hsz => ?_)
  have s0 := r0.below hbd
  have s1 := r1.below hbd
  have hld := (hl4.tight).below hbd
  have hud := (h24.below hbd).rdv
  have k1 := fun W' (hW : St Fo wd W') => (s0.st hW hFc).cell 1 rfl
  (refine takeE (St.tr Fo) 0 (by simp only [List.getElem?_toArray, List.getElem?_cons_succ, List.getElem?_cons_zero]; rfl) (by kernel_rfl) (by kernel_rfl) (by kernel_rfl) (by exact fun _ _ _ h => h) (by first | (refine Or.inl ⟨by rfl, ?_⟩; intro W hW; go_simp; try with_reducible rfl) | exact Or.inr ⟨by rfl, rfl⟩) ?_; try simp only [Act.put, List.setIfInBounds_toArray, List.set_cons_zero, List.set_cons_succ])
  (refine takeE (St.tr Fo) 1 (by simp only [List.getElem?_toArray, List.getElem?_cons_succ, List.getElem?_cons_zero]; rfl) (by kernel_rfl) (by kernel_rfl) (by kernel_rfl) (by exact fun _ _ _ h => h) (by first | (refine Or.inl ⟨by rfl, ?_⟩; intro W hW; go_simp; try with_reducible rfl) | exact Or.inr ⟨by rfl, rfl⟩) ?_; try simp only [Act.put, List.setIfInBounds_toArray, List.set_cons_zero, List.set_cons_succ])
  (refine takeE (St.tr Fo) 3 (by simp only [List.getElem?_toArray, List.getElem?_cons_succ, List.getElem?_cons_zero]; rfl) (by kernel_rfl) (by kernel_rfl) (by kernel_rfl) (by exact fun _ _ _ h => h) (by first | (refine Or.inl ⟨by rfl, ?_⟩; intro W hW; go_simp; try with_reducible rfl) | exact Or.inr ⟨by rfl, rfl⟩) ?_; try simp only [Act.put, List.setIfInBounds_toArray, List.set_cons_zero, List.set_cons_succ])
  (refine takeE (St.tr Fo) 4 (by simp only [List.getElem?_toArray, List.getElem?_cons_succ, List.getElem?_cons_zero]; rfl) (by kernel_rfl) (by kernel_rfl) (by kernel_rfl) (by exact fun _ _ _ h => h) (by first | (refine Or.inl ⟨by rfl, ?_⟩; intro W hW; go_simp; try with_reducible rfl) | exact Or.inr ⟨by rfl, rfl⟩) ?_; try simp only [Act.put, List.setIfInBounds_toArray, List.set_cons_zero, List.set_cons_succ])
  refine wpAnyE_one (i := 2) (by kernel_rfl) (by simp only [List.getElem?_toArray, List.getElem?_cons_succ, List.getElem?_cons_zero]; rfl) (fun K hK => ?_)
  refine opwp_append_lst elt rfl (.tmp 21) (.tmp 22) rfl rfl hld rfl hud (by omega) ?_
  rintro v w5 ⟨⟨A5, n5, c5, rfl, hl5⟩, hst5⟩
  have hx1 : ¬ BlkOf A4 (w.heap.size + 1) := fun h => by have := hA4 _ h; omega
  have t1 := s1.st hst5 hx1
  have k3 := t1.cell 0 rfl
  have k4 := t1.cell 1 rfl
  have k5 := t1.free 0
  have k6 := t1.free 1
  refine hK.out _ _ (hst5.mono fun k _ hk => hFa k hk) ?_
  clear hK K
  try simp only [Act.put, List.setIfInBounds_toArray, List.set_cons_zero, List.set_cons_succ]
  (refine takeE (St.tr Fo) 5 (by simp only [List.getElem?_toArray, List.getElem?_cons_succ, List.getElem?_cons_zero]; rfl) (by kernel_rfl) (by kernel_rfl) (by kernel_rfl) (by exact fun _ _ _ h => h) (by first | (refine Or.inl ⟨by rfl, ?_⟩; intro W hW; go_simp; try with_reducible rfl) | exact Or.inr ⟨by rfl, rfl⟩) ?_; try simp only [Act.put, List.setIfInBounds_toArray, List.set_cons_zero, List.set_cons_succ])
  refine wpAnyE_one (i := 6) (by kernel_rfl) (by simp only [List.getElem?_toArray, List.getElem?_cons_succ, List.getElem?_cons_zero]; rfl) (fun K hK => ?_)
  go_simp
  refine hK.out _ _ (St.set2 hFb _ _ _) ?_
  clear hK K
  try simp only [Act.put, List.setIfInBounds_toArray, List.set_cons_zero, List.set_cons_succ]
  (refine takeE (St.tr Fo) 7 (by simp only [List.getElem?_toArray, List.getElem?_cons_succ, List.getElem?_cons_zero]; rfl) (by kernel_rfl) (by kernel_rfl) (by kernel_rfl) (by exact fun _ _ _ h => h) (by first | (refine Or.inl ⟨by rfl, ?_⟩; intro W hW; go_simp; try with_reducible rfl) | exact Or.inr ⟨by rfl, rfl⟩) ?_; try simp only [Act.put, List.setIfInBounds_toArray, List.set_cons_zero, List.set_cons_succ])
  refine wpAnyE_done (by kernel_rfl) ?_ _
  clear k1 k3 k4 k5 k6
  have u1 := (t1.set 0 (.slice A5 n5 c5)).set 1 (.int .i64 N)
  have e0 := u1.cell 0 rfl
  have e1 := u1.cell 1 rfl
  have hn5 : n5 = n4 + m := by
    have := hl5.1
    simp [HN.out, HM.out] at this
    omega
  go_wp2
  refine bodyPost_ret (v := .tuple #[.agg #[.slice A5 n5 c5, .int .i64 N], .int .i64 0]) (by simp [results, Try.results33, go_sem, e0, e1]) rfl ?_
  have hle := hl5.tight
  rw [← List.map_append] at hle
  have hgr := hl5.gr
  exact rv_end (fun x hx => by rcases List.mem_append.1 hx with h | h; exact HW.out.1 x h; exact HW.out.2 x h) hb4 (by omega) hbd hst5 hA4 hle hgr _ _
theorem rpush_full (A B : Option Addr) (n c m d N : Nat) (xs : List Int) (w : World) (h : Rf w A n c xs) (hm : m ≤ maxLen) (hnm : N < n + m) (hN : N ≤ 1024) (hnN : n ≤ N) :
    Calls Try.prog 33 #[.agg #[.slice A n c, .int .i64 N], .slice B m d] w (Rv A n xs N [.int .i64 8] w) := by
  unfold maxLen at hm
  have hcmp : (N : Int) - n < (m : Int) := by omega
  go_enter Try.func33, Try.ntmps33
  go_wp2
  refine bodyPost_ret (v := .tuple #[.agg #[.slice A n c, .int .i64 N], .int .i64 8]) (by simp [results, Try.results33, go_sem]) rfl ?_
  have hbe : Below w.heap.size w ((w.alloc (.cells #[.slice A n c, .int .i64 N] 29)).alloc (.cells #[.slice A n c, .int .i64 N] 29)) := ((Below.refl w.heap.size w).alloc (Nat.le_refl _) _).alloc (by simp) _
  exact ⟨_, _, _, rfl, h.below hbe, hbe, Gr.refl _ _⟩
theorem rrot_none (A : Option Addr) (c : Nat) (N t : Int) (w : World) (h : Rf w A 0 c []) :
    Calls Try.prog 18 #[.agg #[.slice A 0 c, .int .i64 N], .int .i64 t] w (Rv A 0 [] N [.int .i64 0] w) := by
  go_enter Try.func18, Try.ntmps18
  go_wp2
  refine bodyPost_ret (v := .tuple #[.agg #[.slice A 0 c, .int .i64 N], .int .i64 0]) (by simp [results, Try.results18, go_sem]) rfl ?_
  have hbe : Below w.heap.size w ((w.alloc (.cells #[.slice A 0 c, .int .i64 N] 29)).alloc (.cells #[.slice A 0 c, .int .i64 N] 29)) := ((Below.refl w.heap.size w).alloc (Nat.le_refl _) _).alloc (by simp) _
  exact ⟨_, _, _, rfl, h.below hbe, hbe, Gr.refl _ _⟩
theorem rot_twice (t : Int) (L : Nat) (h : 0 < L) : t.tmod L % L = rotN t L := by
  obtain ⟨hc, h1, h2⟩ := tmod_cases t L h
  have hk := rotN_lt t L h
  rcases hc with ⟨h3, h4⟩ | ⟨h3, h4⟩
  · rw [← Int.add_emod_right, h4, Int.emod_eq_of_lt (by omega) (by omega)]
  · rw [h4, Int.emod_eq_of_lt (by omega) (by omega)]
set_option maxRecDepth 100000 in
set_option maxHeartbeats 1000000 in
theorem rrot_any (A : Option Addr) (n c N : Nat) (t : Int) (xs : List Int) (w : World) (h : Rf w A n c xs) (hn0 : 0 < n) (hn : n ≤ 1024) (ht : (Lit.int .i64 t).wf = true) :
    Calls Try.prog 18 #[.agg #[.slice A n c, .int .i64 N], .int .i64 t] w (Rv A n (xs.drop (rotN t n) ++ xs.take (rotN t n)) N [.int .i64 (rotN t n)] w) := by
  obtain ⟨_, ht1, ht2⟩ := tmod_cases t n hn0
  have htw := rot_twice t n hn0
  have hk := rotN_lt t n hn0
  have hne : ((n : Int) == 0) = false := by rw [beq_eq_false_iff_ne]; omega
  have ht' : -9223372036854775808 ≤ t ∧ t ≤ 9223372036854775807 := by simpa [Lit.wf, IntKind.min, IntKind.max, IntKind.signed, IntKind.bits] using ht
  obtain ⟨hq0, hq1⟩ := ht'
  have hW := h.1.2.2.2.2.1
  have HWF : Hid (∀ x ∈ xs.drop (rotN t n) ++ xs.take (rotN t n), (Lit.int .i64 x).wf = true) := Lib.hid (fun x hx => by
    rcases List.mem_append.1 hx with h | h
    · exact hW x (List.mem_of_mem_drop h)
    · exact hW x (List.mem_of_mem_take h))
  have HN := Lib.hid h.1.1
  have hnc := h.1.2.1
  generalize hK : rotN t n = k at *
  obtain ⟨w2, hw2, q0, q1, hb2, hs2⟩ := boxes w (.slice A n c) (.int .i64 N)
  have hb3 : Below w.heap.size w (w2.alloc (.cells #[] 3)) := hb2.alloc (by omega) _
  have hcd : ∀ W, (Instr.slice 27 (.slice A n c) (some (.int .i64 k)) none none).run Try.prog W = .ok (.slice (cutA A c k) (n - k) (c - k)) W := fun W => elt.run_cut A n c k (by omega) hnc W
  have hcp : ∀ W, (Instr.slice 27 (.slice A n c) none (some (.int .i64 k)) none).run Try.prog W = .ok (.slice A k c) W := fun W => elt.run_pre A n c k (by omega) hnc W
  have hu := ((h.1.below hb3).cut (s := k) (by omega)).rdv
  have h2' := (h.1.below hb3).pre (s := k) (by omega)
  have hl : Lst 3 (BlkOf (some ⟨w.heap.size + 2, 0, none⟩)) (w2.alloc (.cells #[] 3)) (some ⟨w.heap.size + 2, 0, none⟩) 0 0 [] := by
    have := (Lst.made w2 3 #[] 0 [] rfl (Nat.le_refl _) (Nat.zero_le _) (by simp) (by simp)).tight
    rwa [hs2] at this
  have q0' := q0.alloc (.cells #[] 3)
  have q1' := q1.alloc (.cells #[] 3)
  have hs3 : (w2.alloc (.cells #[] 3)).heap.size = w.heap.size + 3 := by simp [hs2]
  have HS3 := Lib.hid hs3
  rw [hw2] at hl hu q0' q1'
  clear hs2 hs3 hK hW
  go_enter Try.func18, Try.ntmps18
  go_wp2_with (at_builtin
               refine wpList_append_lst elt rfl (.tmp 22) (.tmp 26) rfl rfl hl rfl hu (by omega) ?_
               rintro v w4 ⟨⟨A4, n4, c4, rfl, hl4⟩, hst4⟩)
  rw [← hw2] at hl4 hst4 q0' q1'
  have hbl : ∀ k, BlkOf (some (⟨w.heap.size + 2, 0, none⟩ : Addr)) k → k = w.heap.size + 2 := by
    rintro k ⟨ad, he, rfl⟩
    injection he with he
    subst he
    rfl
  have hA4 : ∀ k, BlkOf A4 k → w.heap.size + 2 ≤ k := by
    rintro k hk
    rcases hl4.gr k hk with h | h
    · rw [hbl k h]; exact Nat.le_refl _
    · rw [HS3.out] at h; omega
  have r0 := q0'.st hst4 (fun h => by have := hbl _ h; omega)
  have r1 := q1'.st hst4 (fun h => by have := hbl _ h; omega)
  have hb4 : Below w.heap.size w w4 := hb3.trans (hst4.below hb3.size (fun k hk => by rw [hbl k hk]; omega))
  have hz4 : w.heap.size + 3 ≤ w4.heap.size := by have := hst4.size; rw [HS3.out] at this; exact this
  have hn4 : n4 = n - k := by
    have := hl4.1
    simp [HN.out] at this
    omega
  have h24 := (h.1.below hb4).pre (s := k) (by omega)
  subst hn4
  rw [List.nil_append] at hl4
  clear hl hu q0' q1' hst4 hw2 q0 q1 h2'
  have hFo : ∃ Fo : Nat → Prop, (∀ k, BlkOf A4 k → Fo k) ∧ Fo (w.heap.size + 1) ∧ ¬ Fo w.heap.size ∧ ∀ k, Fo k → w.heap.size + 1 ≤ k :=
    ⟨fun k => BlkOf A4 k ∨ k = w.heap.size + 1, fun k h => .inl h, .inr rfl, fun h => by rcases h with h | h; have := hA4 _ h; omega; omega, fun k h => by rcases h with h | h; have := hA4 _ h; omega; omega⟩
  obtain ⟨Fo, hFa, hFb, hFc, hFd⟩ := hFo
  refine wp_region_E (St Fo) (by kernel_rfl) (fun wd hbd hsz => ?_)
  have s0 := r0.below hbd
  have s1 := r1.below hbd
  have hld := (hl4.tight).below hbd
  have hud := (h24.below hbd).rdv
  have k1 := fun W' (hW : St Fo wd W') => (s0.st hW hFc).cell 1 rfl
  have k2 := fun W' (hW : St Fo wd W') => (s0.st hW hFc).cell 0 rfl
  (refine takeE (St.tr Fo) 0 (by simp only [List.getElem?_toArray, List.getElem?_cons_succ, List.getElem?_cons_zero]; rfl) (by kernel_rfl) (by kernel_rfl) (by kernel_rfl) (by exact fun _ _ _ h => h) (by first | (refine Or.inl ⟨by rfl, ?_⟩; intro W hW; go_simp; try with_reducible rfl) | exact Or.inr ⟨by rfl, rfl⟩) ?_; try simp only [Act.put, List.setIfInBounds_toArray, List.set_cons_zero, List.set_cons_succ])
  (refine takeE (St.tr Fo) 1 (by simp only [List.getElem?_toArray, List.getElem?_cons_succ, List.getElem?_cons_zero]; rfl) (by kernel_rfl) (by kernel_rfl) (by kernel_rfl) (by exact fun _ _ _ h => h) (by first | (refine Or.inl ⟨by rfl, ?_⟩; intro W hW; go_simp; try with_reducible rfl) | exact Or.inr ⟨by rfl, rfl⟩) ?_; try simp only [Act.put, List.setIfInBounds_toArray, List.set_cons_zero, List.set_cons_succ])
  (refine takeE (St.tr Fo) 3 (by simp only [List.getElem?_toArray, List.getElem?_cons_succ, List.getElem?_cons_zero]; rfl) (by kernel_rfl) (by kernel_rfl) (by kernel_rfl) (by exact fun _ _ _ h => h) (by first | (refine Or.inl ⟨by rfl, ?_⟩; intro W hW; go_simp; try with_reducible rfl) | exact Or.inr ⟨by rfl, rfl⟩) ?_; try simp only [Act.put, List.setIfInBounds_toArray, List.set_cons_zero, List.set_cons_succ])
  (refine takeE (St.tr Fo) 6 (by simp only [List.getElem?_toArray, List.getElem?_cons_succ, List.getElem?_cons_zero]; rfl) (by kernel_rfl) (by kernel_rfl) (by kernel_rfl) (by exact fun _ _ _ h => h) (by first | (refine Or.inl ⟨by rfl, ?_⟩; intro W hW; go_simp; try with_reducible rfl) | exact Or.inr ⟨by rfl, rfl⟩) ?_; try simp only [Act.put, List.setIfInBounds_toArray, List.set_cons_zero, List.set_cons_succ])
  (refine takeE (St.tr Fo) 9 (by simp only [List.getElem?_toArray, List.getElem?_cons_succ, List.getElem?_cons_zero]; rfl) (by kernel_rfl) (by kernel_rfl) (by kernel_rfl) (by exact fun _ _ _ h => h) (by first | (refine Or.inl ⟨by rfl, ?_⟩; intro W hW; go_simp; try with_reducible rfl) | exact Or.inr ⟨by rfl, rfl⟩) ?_; try simp only [Act.put, List.setIfInBounds_toArray, List.set_cons_zero, List.set_cons_succ])
  (refine takeE (St.tr Fo) 2 (by simp only [List.getElem?_toArray, List.getElem?_cons_succ, List.getElem?_cons_zero]; rfl) (by kernel_rfl) (by kernel_rfl) (by kernel_rfl) (by exact fun _ _ _ h => h) (by first | (refine Or.inl ⟨by rfl, ?_⟩; intro W hW; go_simp; try with_reducible rfl) | exact Or.inr ⟨by rfl, rfl⟩) ?_; try simp only [Act.put, List.setIfInBounds_toArray, List.set_cons_zero, List.set_cons_succ])
  (refine takeE (St.tr Fo) 7 (by simp only [List.getElem?_toArray, List.getElem?_cons_succ, List.getElem?_cons_zero]; rfl) (by kernel_rfl) (by kernel_rfl) (by kernel_rfl) (by exact fun _ _ _ h => h) (by first | (refine Or.inl ⟨by rfl, ?_⟩; intro W hW; go_simp; try with_reducible rfl) | exact Or.inr ⟨by rfl, rfl⟩) ?_; try simp only [Act.put, List.setIfInBounds_toArray, List.set_cons_zero, List.set_cons_succ])
  (refine takeE (St.tr Fo) 4 (by simp only [List.getElem?_toArray, List.getElem?_cons_succ, List.getElem?_cons_zero]; rfl) (by kernel_rfl) (by kernel_rfl) (by kernel_rfl) (by exact fun _ _ _ h => h) (by first | (refine Or.inl ⟨by rfl, ?_⟩; intro W hW; go_simp; try with_reducible rfl) | exact Or.inr ⟨by rfl, rfl⟩) ?_; try simp only [Act.put, List.setIfInBounds_toArray, List.set_cons_zero, List.set_cons_succ])
  refine wpAnyE_one (i := 5) (by kernel_rfl) (by simp only [List.getElem?_toArray, List.getElem?_cons_succ, List.getElem?_cons_zero]; rfl) (fun K hK => ?_)
  refine opwp_append_lst elt rfl (.tmp 28) (.tmp 32) rfl rfl hld rfl hud (by omega) ?_
  rintro v w5 ⟨⟨A5, n5, c5, rfl, hl5⟩, hst5⟩
  have hx1 : ¬ BlkOf A4 (w.heap.size + 1) := fun h => by have := hA4 _ h; omega
  have t1 := s1.st hst5 hx1
  have k3 := t1.cell 0 rfl
  have k4 := t1.cell 1 rfl
  have k5 := t1.free 0
  have k6 := t1.free 1
  refine hK.out _ _ (hst5.mono fun k _ hk => hFa k hk) ?_
  clear hK K
  try simp only [Act.put, List.setIfInBounds_toArray, List.set_cons_zero, List.set_cons_succ]
  (refine takeE (St.tr Fo) 8 (by simp only [List.getElem?_toArray, List.getElem?_cons_succ, List.getElem?_cons_zero]; rfl) (by kernel_rfl) (by kernel_rfl) (by kernel_rfl) (by exact fun _ _ _ h => h) (by first | (refine Or.inl ⟨by rfl, ?_⟩; intro W hW; go_simp; try with_reducible rfl) | exact Or.inr ⟨by rfl, rfl⟩) ?_; try simp only [Act.put, List.setIfInBounds_toArray, List.set_cons_zero, List.set_cons_succ])
  refine wpAnyE_one (i := 10) (by kernel_rfl) (by simp only [List.getElem?_toArray, List.getElem?_cons_succ, List.getElem?_cons_zero]; rfl) (fun K hK => ?_)
  go_simp
  refine hK.out _ _ (St.set2 hFb _ _ _) ?_
  clear hK K
  try simp only [Act.put, List.setIfInBounds_toArray, List.set_cons_zero, List.set_cons_succ]
  (refine takeE (St.tr Fo) 11 (by simp only [List.getElem?_toArray, List.getElem?_cons_succ, List.getElem?_cons_zero]; rfl) (by kernel_rfl) (by kernel_rfl) (by kernel_rfl) (by exact fun _ _ _ h => h) (by first | (refine Or.inl ⟨by rfl, ?_⟩; intro W hW; go_simp; try with_reducible rfl) | exact Or.inr ⟨by rfl, rfl⟩) ?_; try simp only [Act.put, List.setIfInBounds_toArray, List.set_cons_zero, List.set_cons_succ])
  refine wpAnyE_done (by kernel_rfl) ?_ _
  clear k1 k2 k3 k4 k5 k6
  have u1 := (t1.set 0 (.slice A5 n5 c5)).set 1 (.int .i64 N)
  have e0 := u1.cell 0 rfl
  have e1 := u1.cell 1 rfl
  go_wp2
  refine bodyPost_ret (v := .tuple #[.agg #[.slice A5 n5 c5, .int .i64 N], .int .i64 k]) (by simp [results, Try.results18, go_sem, e0, e1]) rfl ?_
  have hle := hl5.tight
  rw [← List.map_append] at hle
  have hgr := hl5.gr
  exact rv_end HWF.out hb4 (by omega) hbd hst5 hA4 hle hgr _ _
set_option maxRecDepth 100000 in
set_option maxHeartbeats 1000000 in
theorem rbelow_any (A : Option Addr) (n c N : Nat) (t : Int) (xs : List Int) (w : World) (h : Rf w A n c xs) (hn : n ≤ 1024) :
    Calls Try.prog 32 #[.agg #[.slice A n c, .int .i64 N], .int .i64 t] w (Rv A n (xs.filter fun x => decide (t ≤ x)) N [.int .i64 (n - (xs.filter fun x => decide (t ≤ x)).length)] w) := by
  have HN := Lib.hid h.1.1
  have HWF : Hid (∀ x ∈ xs.filter fun x => decide (t ≤ x), (Lit.int .i64 x).wf = true) := Lib.hid (fun x hx => h.1.2.2.2.2.1 x (List.mem_filter.1 hx).1)
  have hfl := List.length_filter_le (fun x => decide (t ≤ x)) xs
  rw [HN.out] at hfl
  have HFL := Lib.hid hfl
  obtain ⟨w2, hw2, q0, q1, hb2, hs2⟩ := boxes w (.slice A n c) (.int .i64 N)
  clear hfl
  go_enter Try.func32, Try.ntmps32
  go_wp2
  rw [← hw2]
  clear hw2
  have hI0 : ∃ A' n' c', (.slice none 0 0 : Value) = .slice A' n' c' ∧ Lst 3 (BlkOf A') w2 A' n' c' (((xs.take 0).filter fun x => decide (t ≤ x)).map (.int .i64)) ∧ ∀ k, BlkOf A' k → w.heap.size + 2 ≤ k := ⟨none, 0, 0, rfl, by simpa using Lst.nil _ _ _, none_ge _⟩
  go_loopw [6, 7] (fun v i wr => ∃ k A' n' c', k ≤ n ∧ i = .int .i64 k ∧ v = .slice A' n' c' ∧ Lst 3 (BlkOf A') wr A' n' c' (((xs.take k).filter fun x => decide (t ≤ x)).map (.int .i64)) ∧ (∀ k, BlkOf A' k → w.heap.size + 2 ≤ k) ∧
    Bk wr 29 w.heap.size [.slice A n c, .int .i64 N] ∧ Bk wr 29 (w.heap.size + 1) [.slice none 0 0, .int .i64 0] ∧ Below w.heap.size w wr ∧ w.heap.size + 2 ≤ wr.heap.size) (fun _ i _ => n - (intOf i).toNat)
  case atStart => exact ⟨0, none, 0, 0, Nat.zero_le _, rfl, rfl, by simpa using Lst.nil _ _ _, none_ge _, q0, q1, hb2, by omega⟩
  case round =>
    obtain ⟨k, A', n', c', hk, rfl, rfl, hl, hA', r0, r1, hb, hz⟩ := hrel
    have c0 := r0.cell 0 rfl
    have hln : n' ≤ k := by
      have h1 := hl.1
      rw [List.length_map] at h1
      have h2 := List.length_filter_le (fun x => decide (t ≤ x)) (xs.take k)
      have h3 : (xs.take k).length ≤ k := List.length_take_le _ _
      omega
    have hx0 : ¬ BlkOf A' w.heap.size := fun h => by have := hA' _ h; omega
    have hx1 : ¬ BlkOf A' (w.heap.size + 1) := fun h => by have := hA' _ h; omega
    by_cases hlt : k < n
    · have hkl : k < xs.length := by rw [HN.out]; exact hlt
      obtain ⟨g, o, rfl, hg, hc⟩ := (h.1.below hb).cell hlt
      obtain ⟨x, hx⟩ : ∃ x, x = xs.getD k 0 := ⟨_, rfl⟩
      rw [← hx] at hc
      have hx' : x = xs[k] := by rw [hx]; simp [hkl]
      have hts : (xs.take (k + 1)).filter (fun x => decide (t ≤ x)) = (xs.take k).filter (fun x => decide (t ≤ x)) ++ (if t ≤ x then [x] else []) := by
        rw [List.take_succ_eq_append_getElem hkl, List.filter_append, ← hx']
        by_cases ht : t ≤ x <;> simp [ht]
      clear hx hx'
      by_cases ht : t ≤ x
      · rw [if_pos ht] at hts
        have HT := Lib.hid hts
        have hu := RdV.one wr 3 (.int .i64 x) rfl
        have hla := hl.alloc (.cells #[.int .i64 x] 3)
        clear hts
        go_wp2_with (at_builtin
                     refine wpList_append_lst elt rfl (.tmp 22) (.tmp 28) rfl rfl hla rfl hu (by omega) ?_
                     rintro v w4 ⟨⟨A4, n4, c4, rfl, hl4⟩, hst4⟩
                     have HQ : Hid (Lst 3 (BlkOf A4) w4 A4 n4 c4 (((xs.take (k + 1)).filter fun x => decide (t ≤ x)).map (.int .i64)) ∧ (∀ k, BlkOf A4 k → w.heap.size + 2 ≤ k) ∧
                       Bk w4 29 w.heap.size [.slice (some ⟨g, o, none⟩) n c, .int .i64 N] ∧ Bk w4 29 (w.heap.size + 1) [.slice none 0 0, .int .i64 0] ∧ Below w.heap.size w w4 ∧ w.heap.size + 2 ≤ w4.heap.size) := by
                       refine Lib.hid ⟨?_, hl4.gr.ge hA' (by simp; omega), (r0.alloc _).st hst4 hx0, (r1.alloc _).st hst4 hx1, (hb.alloc (by omega) _).trans (hst4.below (by simp; omega) (fun k hk => by have := hA' k hk; omega)), by have := hst4.size; simp at this; omega⟩
                       rw [HT.out, List.map_append]
                       exact hl4.tight
                     clear hl4 hst4 hl hla hu c0 hc)
        go_roundw
        case rel => exact ⟨k + 1, _, _, _, by omega, by go_num, rfl, HQ.out⟩
        case measure => simp [intOf]; omega
      · rw [if_neg ht, List.append_nil] at hts
        have HT := Lib.hid hts
        clear hts
        go_wp2
        go_roundw
        case rel => exact ⟨k + 1, _, _, _, by omega, by go_num, rfl, by rw [HT.out]; exact hl, hA', r0, r1, hb, hz⟩
        case measure => simp [intOf]; omega
    · obtain rfl : k = n := by omega
      rw [List.take_of_length_le (by rw [HN.out]; exact Nat.le_refl _)] at hl
      have hnl : n' = (xs.filter fun x => decide (t ≤ x)).length := by have := hl.1; simp at this; omega
      have hn'k : (n' : Int) ≤ k := by omega
      have HNL := Lib.hid hnl
      have HWR : Hid (IntKind.i64.wrap ((k : Int) - n') = (k : Int) - n') := Lib.hid (by rw [IntKind.wrap_i64]; omega)
      clear hnl
      go_wp2
      refine wp_region_E (Wr (w.heap.size + 1)) (by kernel_rfl) (fun wd hbd hsz => ?_)
      have s0 := r0.below hbd
      have s1 := r1.below hbd
      have k0 := fun W' (hW : Wr (w.heap.size + 1) wd W') => (s0.wr hW (by omega)).cell 0 rfl
      have k1 := fun W' (hW : Wr (w.heap.size + 1) wd W') => (s0.wr hW (by omega)).cell 1 rfl
      have k3 := s1.cell 0 rfl
      have k4 := s1.cell 1 rfl
      have k5 := s1.free 0
      have k6 := s1.free 1
      (refine takeE (wrTr (w.heap.size + 1)) 0 (by simp only [List.getElem?_toArray, List.getElem?_cons_succ, List.getElem?_cons_zero]; rfl) (by kernel_rfl) (by kernel_rfl) (by kernel_rfl) (by exact fun _ _ _ h => h) (by first | (refine Or.inl ⟨by rfl, ?_⟩; intro W hW; go_simp; try with_reducible rfl) | exact Or.inr ⟨by rfl, rfl⟩) ?_; try simp only [Act.put, List.setIfInBounds_toArray, List.set_cons_zero, List.set_cons_succ])
      (refine takeE (wrTr (w.heap.size + 1)) 1 (by simp only [List.getElem?_toArray, List.getElem?_cons_succ, List.getElem?_cons_zero]; rfl) (by kernel_rfl) (by kernel_rfl) (by kernel_rfl) (by exact fun _ _ _ h => h) (by first | (refine Or.inl ⟨by rfl, ?_⟩; intro W hW; go_simp; try with_reducible rfl) | exact Or.inr ⟨by rfl, rfl⟩) ?_; try simp only [Act.put, List.setIfInBounds_toArray, List.set_cons_zero, List.set_cons_succ])
      (refine takeE (wrTr (w.heap.size + 1)) 4 (by simp only [List.getElem?_toArray, List.getElem?_cons_succ, List.getElem?_cons_zero]; rfl) (by kernel_rfl) (by kernel_rfl) (by kernel_rfl) (by exact fun _ _ _ h => h) (by first | (refine Or.inl ⟨by rfl, ?_⟩; intro W hW; go_simp; try with_reducible rfl) | exact Or.inr ⟨by rfl, rfl⟩) ?_; try simp only [Act.put, List.setIfInBounds_toArray, List.set_cons_zero, List.set_cons_succ])
      (refine takeE (wrTr (w.heap.size + 1)) 7 (by simp only [List.getElem?_toArray, List.getElem?_cons_succ, List.getElem?_cons_zero]; rfl) (by kernel_rfl) (by kernel_rfl) (by kernel_rfl) (by exact fun _ _ _ h => h) (by first | (refine Or.inl ⟨by rfl, ?_⟩; intro W hW; go_simp; try with_reducible rfl) | exact Or.inr ⟨by rfl, rfl⟩) ?_; try simp only [Act.put, List.setIfInBounds_toArray, List.set_cons_zero, List.set_cons_succ])
      (refine takeE (wrTr (w.heap.size + 1)) 2 (by simp only [List.getElem?_toArray, List.getElem?_cons_succ, List.getElem?_cons_zero]; rfl) (by kernel_rfl) (by kernel_rfl) (by kernel_rfl) (by exact fun _ _ _ h => h) (by first | (refine Or.inl ⟨by rfl, ?_⟩; intro W hW; go_simp; try with_reducible rfl) | exact Or.inr ⟨by rfl, rfl⟩) ?_; try simp only [Act.put, List.setIfInBounds_toArray, List.set_cons_zero, List.set_cons_succ])
      (refine takeE (wrTr (w.heap.size + 1)) 5 (by simp only [List.getElem?_toArray, List.getElem?_cons_succ, List.getElem?_cons_zero]; rfl) (by kernel_rfl) (by kernel_rfl) (by kernel_rfl) (by exact fun _ _ _ h => h) (by first | (refine Or.inl ⟨by rfl, ?_⟩; intro W hW; go_simp; try with_reducible rfl) | exact Or.inr ⟨by rfl, rfl⟩) ?_; try simp only [Act.put, List.setIfInBounds_toArray, List.set_cons_zero, List.set_cons_succ])
      (refine takeE (wrTr (w.heap.size + 1)) 8 (by simp only [List.getElem?_toArray, List.getElem?_cons_succ, List.getElem?_cons_zero]; rfl) (by kernel_rfl) (by kernel_rfl) (by kernel_rfl) (by exact fun _ _ _ h => h) (by first | (refine Or.inl ⟨by rfl, ?_⟩; intro W hW; go_simp; try with_reducible rfl) | exact Or.inr ⟨by rfl, rfl⟩) ?_; try simp only [Act.put, List.setIfInBounds_toArray, List.set_cons_zero, List.set_cons_succ])
      (refine takeE (wrTr (w.heap.size + 1)) 3 (by simp only [List.getElem?_toArray, List.getElem?_cons_succ, List.getElem?_cons_zero]; rfl) (by kernel_rfl) (by kernel_rfl) (by kernel_rfl) (by exact fun _ _ _ h => h) (by first | (refine Or.inl ⟨by rfl, ?_⟩; intro W hW; go_simp; try with_reducible rfl) | exact Or.inr ⟨by rfl, rfl⟩) ?_; try simp only [Act.put, List.setIfInBounds_toArray, List.set_cons_zero, List.set_cons_succ])
      (refine takeE (wrTr (w.heap.size + 1)) 6 (by simp only [List.getElem?_toArray, List.getElem?_cons_succ, List.getElem?_cons_zero]; rfl) (by kernel_rfl) (by kernel_rfl) (by kernel_rfl) (by exact fun _ _ _ h => h) (by first | (refine Or.inl ⟨by rfl, ?_⟩; intro W hW; go_simp; try with_reducible rfl) | exact Or.inr ⟨by rfl, rfl⟩) ?_; try simp only [Act.put, List.setIfInBounds_toArray, List.set_cons_zero, List.set_cons_succ])
      (refine takeE (wrTr (w.heap.size + 1)) 9 (by simp only [List.getElem?_toArray, List.getElem?_cons_succ, List.getElem?_cons_zero]; rfl) (by kernel_rfl) (by kernel_rfl) (by kernel_rfl) (by exact fun _ _ _ h => h) (by first | (refine Or.inl ⟨by rfl, ?_⟩; intro W hW; go_simp; try with_reducible rfl) | exact Or.inr ⟨by rfl, rfl⟩) ?_; try simp only [Act.put, List.setIfInBounds_toArray, List.set_cons_zero, List.set_cons_succ])
      refine wpAnyE_one (i := 10) (by kernel_rfl) (by simp only [List.getElem?_toArray, List.getElem?_cons_succ, List.getElem?_cons_zero]; rfl) (fun K hK => ?_)
      go_simp
      refine hK.out _ _ ((Wr.set _ _ _ _).trans (Wr.set _ _ _ _) (by simp [World.setCell])) ?_
      clear hK K
      try simp only [Act.put, List.setIfInBounds_toArray, List.set_cons_zero, List.set_cons_succ]
      (refine takeE (wrTr (w.heap.size + 1)) 11 (by simp only [List.getElem?_toArray, List.getElem?_cons_succ, List.getElem?_cons_zero]; rfl) (by kernel_rfl) (by kernel_rfl) (by kernel_rfl) (by exact fun _ _ _ h => h) (by first | (refine Or.inl ⟨by rfl, ?_⟩; intro W hW; go_simp; try with_reducible rfl) | exact Or.inr ⟨by rfl, rfl⟩) ?_; try simp only [Act.put, List.setIfInBounds_toArray, List.set_cons_zero, List.set_cons_succ])
      refine wpAnyE_done (by kernel_rfl) ?_ _
      clear k0 k1 k3 k4 k5 k6
      have u1 := (s1.set 0 (.slice A' n' c')).set 1 (.int .i64 N)
      have e0 := u1.cell 0 rfl
      have e1 := u1.cell 1 rfl
      go_wp2
      refine bodyPost_ret (v := .tuple #[.agg #[.slice A' n' c', .int .i64 N], .int .i64 (k - n')]) (by simp [results, Try.results32, go_sem, e0, e1, HWR.out]) rfl ?_
      rw [← HNL.out]
      exact rv_end HWF.out hb (by omega) hbd (St.refl _ _) hA' (hl.below hbd) (Gr.refl _ _) _ _
end Go.Proofs.Ytgeihelpggncgaa
