/- The reference: a list of paths by value. -/
import Derived.Test.YtiefgicapcljiaaQ9
set_option linter.unusedSimpArgs false
set_option linter.unusedVariables false
namespace Go.Proofs.Ytiefgicapcljiaa
open Go.RowKit Go.Shelf
/-- The cells of the reference's list. -/
def cellsR (s i : Int) (A : Option Addr) (n c : Nat) (B : Option Addr) (m d : Nat) (r : Int) (told : List Int) : List Value :=
  .int .u64 s :: .int .i64 i :: .slice A n c :: .slice B m d :: .int .i64 r :: intV told
theorem rowRef : Row Try.prog 34 13 := ⟨⟨_, rfl, rfl⟩, by kernel_rfl⟩
theorem cellsR_len (s i : Int) (A : Option Addr) (n c : Nat) (B : Option Addr) (m d : Nat) (r : Int) {told : List Int} (h : told.length = 8) : (cellsR s i A n c B m d r told).length = 13 := by
  simp [cellsR, intV_len, h]
theorem cellsR_one (s i : Int) (A : Option Addr) (n c : Nat) (B : Option Addr) (m d : Nat) (r : Int) (told : List Int) : ∀ v ∈ cellsR s i A n c B m d r told, v.oneCell' = true := by
  intro v hv
  unfold cellsR at hv
  simp only [List.mem_cons] at hv
  rcases hv with rfl | rfl | rfl | rfl | rfl | hv
  iterate 5 rfl
  exact intV_one _ v hv
theorem all_take (vs : List Value) : (vs.drop 0).take vs.length = vs := List.take_of_length_le (Nat.le_refl _)
def zeroR : List Value := cellsR 0 0 none 0 0 none 0 0 0 (List.replicate 8 0)
set_option maxRecDepth 100000 in
set_option maxHeartbeats 2000000 in
theorem rbegin_any (w : World) (s i : Int) (A : Option Addr) (n c : Nat) (B : Option Addr) (m d : Nat) (r : Int) (told ps : List Int) (h : RdV w A n c (intV ps)) (hps : ps.length ≤ 8) (ht : told.length = 8) (hi0 : 0 ≤ i) (hi1 : i ≤ 1000000) (hr0 : 0 ≤ r) (hr1 : r ≤ 1000000) :
    Calls Try.prog 25 #[.agg (cellsR s i A n c B m d r told).toArray] w fun e w' => ∃ B' d', e = .returned (.agg (cellsR s (i + (ps.length - 1 : Nat)) A n c B' ps.length d' (r + 1) told).toArray) ∧
      Lst 3 (w.heap.size ≤ ·) w' B' ps.length d' (intV (shufI s i ps)) ∧ Below w.heap.size w w' := by
  have hb1 := (Bk.new w 34 (cellsR s i A n c B m d r told)).alloc (.cells zeroR.toArray 34)
  have hz := Bk.new (w.alloc (.cells (cellsR s i A n c B m d r told).toArray 34)) 34 zeroR
  rw [World.size_alloc] at hz
  have hb0 : Below w.heap.size w ((w.alloc (.cells (cellsR s i A n c B m d r told).toArray 34)).alloc (.cells zeroR.toArray 34)) := ((Below.refl _ _).alloc (Nat.le_refl _) _).alloc (by simp) _
  have hu := h.below hb0
  have c0 : ((w.alloc (.cells (cellsR s i A n c B m d r told).toArray 34)).alloc (.cells #[.int .u64 0, .int .i64 0, .slice none 0 0, .slice none 0 0, .int .i64 0, .int .i64 0, .int .i64 0, .int .i64 0, .int .i64 0, .int .i64 0, .int .i64 0, .int .i64 0, .int .i64 0] 34)).cell? ⟨w.heap.size, 0, none⟩ = some (.int .u64 s) := hb1.cell 0 rfl
  have c1 : ((w.alloc (.cells (cellsR s i A n c B m d r told).toArray 34)).alloc (.cells #[.int .u64 0, .int .i64 0, .slice none 0 0, .slice none 0 0, .int .i64 0, .int .i64 0, .int .i64 0, .int .i64 0, .int .i64 0, .int .i64 0, .int .i64 0, .int .i64 0, .int .i64 0] 34)).cell? ⟨w.heap.size, 1, none⟩ = some (.int .i64 i) := hb1.cell 1 rfl
  have c2 : ((w.alloc (.cells (cellsR s i A n c B m d r told).toArray 34)).alloc (.cells #[.int .u64 0, .int .i64 0, .slice none 0 0, .slice none 0 0, .int .i64 0, .int .i64 0, .int .i64 0, .int .i64 0, .int .i64 0, .int .i64 0, .int .i64 0, .int .i64 0, .int .i64 0] 34)).cell? ⟨w.heap.size, 2, none⟩ = some (.slice A n c) := hb1.cell 2 rfl
  have hn := h.1
  rw [intV_len] at hn
  have hn8 : n ≤ 8 := by omega
  have HN := Lib.hid hn
  have HT := Lib.hid ht
  have HZ : Hid (((w.alloc (.cells (cellsR s i A n c B m d r told).toArray 34)).alloc (.cells zeroR.toArray 34)).heap.size = w.heap.size + 2) := Lib.hid (by rw [World.size_alloc, World.size_alloc])
  have H1 := Lib.hid hb1
  have H2 := Lib.hid hz
  have H0 := Lib.hid hb0
  have HU := Lib.hid hu
  clear hn h ht hb1 hz hu
  go_enter Try.func25, Try.ntmps25
  go_wp2_with fail
  refine (rshuffle_any s i A n c (intV ps) _ HU.out (fun v hv => by obtain ⟨x, _, rfl⟩ := List.mem_map.1 hv; exact ⟨x, rfl⟩) (by omega) hi0 hi1).mono ?_
  rintro e w3 ⟨A3, c3, rfl, hl3, hb3⟩
  have h31 := H1.out.below hb3
  have h32 := H2.out.below hb3
  have hb03 : Below w.heap.size w w3 := H0.out.trans (hb3.mono H0.out.size)
  have hlt := h32.lt
  have hlt0 := h31.lt
  generalize hi' : i + ((n - 1 : Nat) : Int) = i' at *
  have g0 := h31.cell 0 rfl
  have g1 := h31.cell 1 rfl
  have g2 := h31.cell 2 rfl
  have g3 := h31.cell 3 rfl
  have g4 := h31.cell 4 rfl
  have fz : ∀ j, w3.frozen? ⟨w.heap.size, j, none⟩ = false := h31.free
  have HL := Lib.hid hl3
  have HB := Lib.hid hb03
  have H31 := Lib.hid h31
  have H32 := Lib.hid h32
  clear c0 c1 c2 hb3 hl3 hb03 h31 h32 hb0
  have hk5 := ((((H31.out.set 0 (.int .u64 s)).set 1 (.int .i64 i')).set 3 (.slice A3 n c3)).set 4 (.int .i64 (r + 1))).alloc (.cells #[.int .u64 s, .int .i64 i'] 31)
  have hz5 := ((((H32.out.far (p := ⟨w.heap.size, 0, none⟩) (by simp) (.int .u64 s)).far (p := ⟨w.heap.size, 1, none⟩) (by simp) (.int .i64 i')).far (p := ⟨w.heap.size, 3, none⟩) (by simp) (.slice A3 n c3)).far (p := ⟨w.heap.size, 4, none⟩) (by simp) (.int .i64 (r + 1))).alloc (.cells #[.int .u64 s, .int .i64 i'] 31)
  have hbw := ((((HB.out.setCell (p := ⟨w.heap.size, 0, none⟩) (Nat.le_refl _) (.int .u64 s)).setCell (p := ⟨w.heap.size, 1, none⟩) (Nat.le_refl _) (.int .i64 i')).setCell (p := ⟨w.heap.size, 3, none⟩) (Nat.le_refl _) (.slice A3 n c3)).setCell (p := ⟨w.heap.size, 4, none⟩) (Nat.le_refl _) (.int .i64 (r + 1))).alloc (by simp [World.setCell]; omega) (.cells #[.int .u64 s, .int .i64 i'] 31)
  have hne : ∀ ad, A3 = some ad → ad.block ≠ w.heap.size := fun ad he => by have := (HL.out.blk ad he).1; have := HZ.out; omega
  have hne1 : ∀ ad, A3 = some ad → ad.block ≠ w.heap.size + 1 := fun ad he => by have := (HL.out.blk ad he).1; have := HZ.out; omega
  have hlw := ((((HL.out.far (p := ⟨w.heap.size, 0, none⟩) hne (.int .u64 s)).far (p := ⟨w.heap.size, 1, none⟩) hne (.int .i64 i')).far (p := ⟨w.heap.size, 3, none⟩) hne (.slice A3 n c3)).far (p := ⟨w.heap.size, 4, none⟩) hne (.int .i64 (r + 1))).alloc (.cells #[.int .u64 s, .int .i64 i'] 31)
  have HK5 : Hid (Bk _ 34 w.heap.size (cellsR s i' A n c A3 n c3 (r + 1) told)) := Lib.hid hk5
  have HZ5 := Lib.hid hz5
  have HBW := Lib.hid hbw
  have HLW := Lib.hid hlw
  have HNE1 := Lib.hid hne1
  have hcl : Hid ((cellsR s i' A n c A3 n c3 (r + 1) told).length = 13) := Lib.hid (cellsR_len _ _ _ _ _ _ _ _ _ HT.out)
  clear hk5 hz5 hbw hlw hne hne1 HL HB
  go_wp2_with (first
    | (refine at_load 34 (.tmp 1) (by rfl) ?_; refine wpList_load_bk rowRef rfl (.tmp 1) rfl w.heap.size 0 rfl HK5.out (cellsR s i' A n c A3 n c3 (r + 1) told) hcl.out (all_take _) ?_)
    | (refine at_store 34 (.tmp 2) (.tmp 21) (by rfl) ?_; refine wpList_store_bk rowRef rfl (.tmp 2) (.tmp 21) rfl (w.heap.size + 1) 0 rfl HZ5.out (cellsR s i' A n c A3 n c3 (r + 1) told) rfl hcl.out (Nat.le_of_eq (by rfl)) (cellsR_one _ _ _ _ _ _ _ _ _ _) ?_; rintro w7 hz7 hw7))
  rw [lay_all _ _ hcl.out] at hz7
  refine bodyPost_ret (results_cell rfl rfl (rowRef.load hz7 0 hcl.out (all_take _))) rfl ⟨A3, c3, by rw [HN.out, hi'], ?_, HBW.out.trans (hw7.below (by omega) HBW.out.size)⟩
  rw [HN.out]
  have hl7 := HLW.out.same (w' := w7) (fun ad he => hw7.block _ (HLW.out.blk ad he).2 (by intro e; injection e with e; exact HNE1.out ad he e))
  unfold intV at hl7 ⊢
  rw [shufV_int] at hl7
  exact hl7.mono (fun k hk => by have := HZ.out; omega)
end Go.Proofs.Ytiefgicapcljiaa
