/- The reference: made, asked for the next path, renewed. -/
import Derived.Test.YtiefgicapcljiaaQ10
set_option linter.unusedSimpArgs false
set_option linter.unusedVariables false
namespace Go.Proofs.Ytiefgicapcljiaa
open Go.RowKit Go.Shelf
/-- v is the reference's list L, whose rows lie in G. -/
def RL (G : Nat → Prop) (w : World) (L : PL) (v : Value) : Prop :=
  (∀ k, G k → k < w.heap.size) ∧ ∃ A n c B m d, v = .agg (cellsR L.s L.i A n c B m d L.rounds L.told).toArray ∧ Lst 3 G w A n c (intV L.ps) ∧ Lst 3 G w B m d (intV L.rest)
theorem RL.st {F G : Nat → Prop} {w w' : World} {L : PL} {v : Value} (h : RL G w L v) (hs : St F w w') (hS : Sep G F) : RL G w' L v := by
  obtain ⟨h1, A, n, c, B, m, d, h2, h3, h4⟩ := h
  exact ⟨fun k hk => by have := h1 k hk; have := hs.size; omega, A, n, c, B, m, d, h2, h3.st hs hS, h4.st hs hS⟩
theorem RL.below {G : Nat → Prop} {w w' : World} {L : PL} {v : Value} (h : RL G w L v) (hb : Below w.heap.size w w') : RL G w' L v :=
  h.st (F := fun _ => False) (St.ext hb) (fun _ _ => id)
theorem RL.mono {G G' : Nat → Prop} {w : World} {L : PL} {v : Value} (h : RL G w L v) (hG : ∀ k, G k → G' k) (hG' : ∀ k, G' k → k < w.heap.size) : RL G' w L v := by
  obtain ⟨h1, A, n, c, B, m, d, h2, h3, h4⟩ := h
  exact ⟨hG', A, n, c, B, m, d, h2, h3.mono hG, h4.mono hG⟩
/-- The rows of a list that was made of an elder one. -/
theorem RL.mk2 {G : Nat → Prop} {w' : World} {L : PL} {A B : Option Addr} {n c m d N : Nat} (hG : ∀ k, G k → k < N) (hN : N ≤ w'.heap.size) (hA : Lst 3 (fun k => G k ∨ N ≤ k) w' A n c (intV L.ps)) (hB : Lst 3 (fun k => G k ∨ N ≤ k) w' B m d (intV L.rest)) :
    RL (fun k => G k ∨ BlkOf A k ∨ BlkOf B k) w' L (.agg (cellsR L.s L.i A n c B m d L.rounds L.told).toArray) ∧ Gr G (fun k => G k ∨ BlkOf A k ∨ BlkOf B k) N := by
  refine ⟨⟨fun k hk => ?_, A, n, c, B, m, d, rfl, hA.tight.mono (fun k hk => .inr (.inl hk)), hB.tight.mono (fun k hk => .inr (.inr hk))⟩, fun k hk => ?_⟩
  · rcases hk with hk | hk | hk
    · have := hG k hk; omega
    · exact hA.lt k hk
    · exact hB.lt k hk
  · rcases hk with hk | ⟨ad, he, rfl⟩ | ⟨ad, he, rfl⟩
    · exact .inl hk
    · exact (hA.blk ad he).1
    · exact (hB.blk ad he).1
theorem cellsR_set3 (s i : Int) (A : Option Addr) (n c : Nat) (B : Option Addr) (m d : Nat) (r : Int) (told : List Int) (B' : Option Addr) (m' d' : Nat) : (cellsR s i A n c B m d r told).set 3 (.slice B' m' d') = cellsR s i A n c B' m' d' r told := rfl
theorem cellsR_set2 (s i : Int) (A : Option Addr) (n c : Nat) (B : Option Addr) (m d : Nat) (r : Int) (told : List Int) (B' : Option Addr) (m' d' : Nat) : (cellsR s i A n c B m d r told).set 2 (.slice B' m' d') = cellsR s i B' m' d' B m d r told := rfl
theorem cellsR_told (s i : Int) (A : Option Addr) (n c : Nat) (B : Option Addr) (m d : Nat) (r : Int) (told : List Int) (k : Nat) (hk : k < told.length) : (cellsR s i A n c B m d r told)[5 + k]? = some (.int .i64 (told.getD k 0)) := by
  show (_ :: _ :: _ :: _ :: _ :: intV told)[5 + k]? = _
  rw [Nat.add_comm 5 k]
  simp [intV, hk]
theorem cellsR_set5 (s i : Int) (A : Option Addr) (n c : Nat) (B : Option Addr) (m d : Nat) (r : Int) (told : List Int) (k : Nat) (x : Int) : (cellsR s i A n c B m d r told).set (5 + k) (.int .i64 x) = cellsR s i A n c B m d r (told.set k x) := by
  show (_ :: _ :: _ :: _ :: _ :: intV told).set (5 + k) _ = _ :: _ :: _ :: _ :: _ :: intV (told.set k x)
  rw [Nat.add_comm 5 k]
  simp [intV]
theorem rnew_bad (w : World) (s : Int) (X : Option Addr) (nx cx : Nat) (xs : List Int) (hx : Rd .i64 w X nx cx xs) (hv : valP xs = false) :
    Calls Try.prog 8 #[.int .u64 s, .slice X nx cx] w fun e w' => e = .returned (.tuple #[.agg zeroR.toArray, .int .i64 60]) ∧ Below w.heap.size w w' := by
  have hz := Bk.new w 34 zeroR
  have hb0 : Below w.heap.size w (w.alloc (.cells zeroR.toArray 34)) := (Below.refl _ _).alloc (Nat.le_refl _) _
  have hx' := hx.below hb0
  have HZ := Lib.hid hz
  have HB := Lib.hid hb0
  clear hz hb0 hx
  go_enter Try.func8, Try.ntmps8
  go_wp2_with fail
  refine (rise_any X nx cx xs _ hx').mono ?_
  rintro e w1 ⟨Y, ny, cy, ys, rfl, hl1, hys, hb1⟩
  have hz1 := HZ.out.below hb1
  have HB1 := Lib.hid (HB.out.trans (hb1.mono HB.out.size))
  rw [hv]
  clear hl1 hys hb1 hx' hv
  go_wp2_with (refine at_store 34 (.tmp 4) (.tmp 15) (by rfl) ?_; refine wpList_store_bk rowRef rfl (.tmp 4) (.tmp 15) rfl w.heap.size 0 rfl hz1 zeroR rfl rfl (by decide) (cellsR_one _ _ _ _ _ _ _ _ _ _) ?_; rintro w7 hz7 hw7)
  rw [lay_all _ _ rfl] at hz7
  exact bodyPost_ret (results_cell_tmp rfl rfl (rowRef.load hz7 0 (cs := zeroR) rfl rfl)) rfl ⟨rfl, HB1.out.trans (hw7.below (Nat.le_refl _) HB1.out.size)⟩
theorem rnew_any (w : World) (s : Int) (X : Option Addr) (nx cx : Nat) (xs : List Int) (hx : Rd .i64 w X nx cx xs) (hv : valP xs = true) :
    Calls Try.prog 8 #[.int .u64 s, .slice X nx cx] w fun e w' => ∃ v G, e = .returned (.tuple #[v, .int .i64 0]) ∧ RL G w' (PL.new s xs) v ∧ (∀ k, G k → w.heap.size ≤ k) ∧ Below w.heap.size w w' := by
  have hz := Bk.new w 34 zeroR
  have hb0 : Below w.heap.size w (w.alloc (.cells zeroR.toArray 34)) := (Below.refl _ _).alloc (Nat.le_refl _) _
  have hx' := hx.below hb0
  have HZ := Lib.hid hz
  have HB := Lib.hid hb0
  clear hz hb0 hx
  go_enter Try.func8, Try.ntmps8
  go_wp2_with fail
  refine (rise_any X nx cx xs _ hx').mono ?_
  rintro e w1 ⟨Y, ny, cy, ys, rfl, hl1, hys, hb1⟩
  have hz1 := HZ.out.below hb1
  have HB1 := Lib.hid (HB.out.trans (hb1.mono HB.out.size))
  have HY := Lib.hid (hys hv)
  rw [HY.out] at hl1
  have HL1 := Lib.hid hl1
  have HZ1 := Lib.hid hz1
  rw [hv]
  have hl8 : (riseL xs).length ≤ 8 := riseN_len _ _
  have HN : Hid (ny = (riseL xs).length) := Lib.hid (by have := hl1.1; rw [intV_len] at this; exact this.symm)
  clear hl1 hys hb1 hx' hv hz1
  go_wp2_with fail
  refine (rbegin_any w1 s 0 Y ny cy none 0 0 0 (List.replicate 8 0) (riseL xs) HL1.out.rdv hl8 rfl (by omega) (by omega) (by omega) (by omega)).mono ?_
  rintro e w2 ⟨B', d', rfl, hl2, hb2⟩
  have hz2 := HZ1.out.below hb2
  obtain ⟨i0, hi0⟩ : ∃ i0 : Int, i0 = 0 + ((riseL xs).length - 1 : Nat) := ⟨_, rfl⟩
  obtain ⟨r0, hr0⟩ : ∃ r0 : Int, r0 = 0 + 1 := ⟨_, rfl⟩
  rw [← hi0, ← hr0]
  have HI0 := Lib.hid hi0
  have HR0 := Lib.hid hr0
  clear hi0 hr0
  have HC : Hid ((cellsR s i0 Y ny cy B' (riseL xs).length d' r0 (List.replicate 8 0)).length = 13) := Lib.hid (cellsR_len _ _ _ _ _ _ _ _ _ rfl)
  have HB2 := Lib.hid (HB1.out.trans (hb2.mono HB1.out.size))
  have HA2 := Lib.hid (HL1.out.below hb2)
  have HL2 := Lib.hid hl2
  clear hb2 hl2
  go_wp2_with (refine at_store 34 (.tmp 4) (.tmp 20) (by rfl) ?_; refine wpList_store_bk rowRef rfl (.tmp 4) (.tmp 20) rfl w.heap.size 0 rfl hz2 (cellsR s i0 Y ny cy B' (riseL xs).length d' r0 (List.replicate 8 0)) rfl HC.out (by decide) (cellsR_one _ _ _ _ _ _ _ _ _ _) ?_; rintro w7 hz7 hw7)
  rw [lay_all _ _ HC.out] at hz7
  have hz0 := HZ.out.lt
  have hz1 := HB1.out.size
  have hA7 : Lst 3 (fun k => False ∨ w.heap.size ≤ k) w7 Y ny cy (intV (riseL xs)) := (HA2.out.same (fun ad he => hw7.block _ (HA2.out.blk ad he).2 (by intro e; injection e with e; have := (HA2.out.blk ad he).1; rw [World.size_alloc] at this; omega))).mono (fun k hk => .inr (by rw [World.size_alloc] at hk; omega))
  have hB7 : Lst 3 (fun k => False ∨ w.heap.size ≤ k) w7 B' (riseL xs).length d' (intV (shufI s 0 (riseL xs))) := (HL2.out.same (fun ad he => hw7.block _ (HL2.out.blk ad he).2 (by intro e; injection e with e; have := (HL2.out.blk ad he).1; have := HZ1.out.lt; omega))).mono (fun k hk => .inr (by omega))
  have hR := RL.mk2 (L := PL.new s xs) (G := fun _ => False) (fun k hk => hk.elim) (by have := hw7.size; have := HB2.out.size; omega) hA7 hB7
  refine bodyPost_ret (results_cell_tmp rfl rfl (rowRef.load hz7 0 HC.out (all_take _))) rfl ⟨_, _, by rw [HI0.out, HR0.out]; rfl, hR.1, fun k hk => (hR.2 k hk).elim (fun h => h.elim) id, HB2.out.trans (hw7.below (Nat.le_refl _) HB2.out.size)⟩
end Go.Proofs.Ytiefgicapcljiaa
