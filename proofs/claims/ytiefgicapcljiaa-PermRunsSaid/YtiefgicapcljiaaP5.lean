/- The reference's shuffle. -/
import Derived.Test.YtiefgicapcljiaaP4
set_option linter.unusedSimpArgs false
set_option linter.unusedVariables false
namespace Go.Proofs.Ytiefgicapcljiaa
open Go.RowKit Go.Shelf

/-- Between two rounds of the reference's shuffle. -/
structure RSh (w : World) (A : Option Addr) (n c : Nat) (s i : Int) (xs : List Value) (W : World) : Prop where
  src : Bk W 31 w.heap.size [.int .u64 s, .int .i64 i]
  res : Bk W 31 (w.heap.size + 1) [.int .u64 0, .int .i64 0]
  lst : Lst 3 (BlkOf A) W A n c xs
  far : ∀ k, BlkOf A k → w.heap.size + 2 ≤ k
  bel : Below w.heap.size w W
theorem RSh.next {w W W' : World} {A : Option Addr} {n c : Nat} {s i : Int} {xs : List Value} (h : RSh w A n c s i xs W) (hb : Below W.heap.size W W') : RSh w A n c s i xs W' :=
  ⟨h.src.below hb, h.res.below hb, h.lst.below hb, h.far, h.bel.trans (hb.mono h.bel.size)⟩
theorem RSh.turn {w W : World} {A : Option Addr} {n c : Nat} {s i : Int} {xs : List Value} (h : RSh w A n c s i xs W) (i' : Int) : RSh w A n c s i' xs ((W.setCell ⟨w.heap.size, 0, none⟩ (.int .u64 s)).setCell ⟨w.heap.size, 1, none⟩ (.int .i64 i')) :=
  ⟨(h.src.set 0 (.int .u64 s)).set 1 (.int .i64 i'), (h.res.far (p := ⟨w.heap.size, 0, none⟩) (by simp) _).far (p := ⟨w.heap.size, 1, none⟩) (by simp) _,
    (h.lst.far (p := ⟨w.heap.size, 0, none⟩) (fun ad he => by have := h.far _ ⟨ad, he, rfl⟩; simp; omega) _).far (p := ⟨w.heap.size, 1, none⟩) (fun ad he => by have := h.far _ ⟨ad, he, rfl⟩; simp; omega) _,
    h.far, (h.bel.setCell (Nat.le_refl _) _).setCell (Nat.le_refl _) _⟩
theorem RSh.set {w W : World} {g o n c : Nat} {s i : Int} {xs : List Value} (h : RSh w (some ⟨g, o, none⟩) n c s i xs W) (k : Nat) (hk : k < n) {x : Value} (hx : x.oneCell' = true) : RSh w (some ⟨g, o, none⟩) n c s i (xs.set k x) (W.setCell ⟨g, o + k, none⟩ x) := by
  have hg := h.far g ⟨_, rfl, rfl⟩
  exact ⟨h.src.far (by simp; omega) _, h.res.far (by simp; omega) _, h.lst.set k hk hx, h.far, h.bel.setCell (by simp; omega) _⟩
set_option maxRecDepth 100000 in
set_option maxHeartbeats 4000000 in
theorem rshuffle_any (s i : Int) (A : Option Addr) (n c : Nat) (vs : List Value) (w : World) (h : RdV w A n c vs) (hcon : ∀ v ∈ vs, ∃ x, v = .int .i64 x) (hn : n ≤ 1000000) (hi0 : 0 ≤ i) (hi1 : i ≤ 1000000) :
    Calls Try.prog 32 #[.agg #[.int .u64 s, .int .i64 i], .slice A n c] w fun e w' => ∃ A' c', e = .returned (.tuple #[.agg #[.int .u64 s, .int .i64 (i + (n - 1 : Nat))], .slice A' n c']) ∧ Lst 3 (w.heap.size ≤ ·) w' A' n c' (shufV s i vs) ∧ Below w.heap.size w w' := by
  have hvl := h.1
  have b1 := ((Bk.new w 31 [.int .u64 s, .int .i64 i]).alloc (.cells #[.int .u64 0, .int .i64 0] 31)).alloc (.cells #[] 3)
  have b2 := (Bk.new (w.alloc (.cells #[.int .u64 s, .int .i64 i] 31)) 31 [.int .u64 0, .int .i64 0]).alloc (.cells #[] 3)
  rw [World.size_alloc] at b2
  have hl := (Lst.made ((w.alloc (.cells #[.int .u64 s, .int .i64 i] 31)).alloc (.cells #[.int .u64 0, .int .i64 0] 31)) 3 #[] 0 [] rfl (Nat.le_refl _) (Nat.zero_le _) (by simp) (by simp))
  have hb : Below w.heap.size w (((w.alloc (.cells #[.int .u64 s, .int .i64 i] 31)).alloc (.cells #[.int .u64 0, .int .i64 0] 31)).alloc (.cells #[] 3)) := (((Below.refl _ _).alloc (Nat.le_refl _) _).alloc (by rw [World.size_alloc]; omega) _).alloc (by rw [World.size_alloc, World.size_alloc]; omega) _
  simp only [World.size_alloc] at hl
  have hu := h.below hb
  go_enter Try.func32, Try.ntmps32
  go_wp2_with (at_builtin
               refine wpList_append_lst eltI rfl (.tmp 11) (.tmp 12) rfl rfl hl rfl hu (by omega) ?_
               rintro v w4 ⟨⟨A4, n4, c4, rfl, hl4⟩, hst4⟩
               rw [List.nil_append] at hl4
               obtain rfl : n4 = n := by rw [← hl4.1, hvl])
  have hI : RSh w A4 n4 c4 s i vs w4 :=
    ⟨b1.st hst4 (by omega), b2.st hst4 (by omega), hl4.tight, fun k hk => by obtain ⟨ad, rfl, rfl⟩ := hk; have := (hl4.blk ad rfl).1; simp at this; omega, hb.trans (hst4.below hb.size (fun k hk => by omega))⟩
  clear b1 b2 hl hb hu hl4 hst4 h
  go_loopw [7] (fun k' wr => ∃ m : Nat, m ≤ n4 - 1 ∧ k' = .int .i64 ((n4 : Int) - 1 - m) ∧ RSh w A4 n4 c4 s (i + m) (stepV s i n4 vs m) wr) (fun k' _ => (intOf k' + 1).toNat)
  case atStart => exact ⟨0, Nat.zero_le _, by simp, by rw [show i + ((0 : Nat) : Int) = i from by simp]; exact hI⟩
  case round =>
    obtain ⟨m, hm, rfl, hI⟩ := hrel
    by_cases hlt : m < n4 - 1
    · have hbv := belV_bounds s (i + m) ((n4 : Int) - m) (by omega)
      obtain ⟨j, hj⟩ := Int.eq_ofNat_of_zero_le hbv.1
      obtain ⟨k, hk⟩ : ∃ k : Nat, k = n4 - 1 - m := ⟨_, rfl⟩
      have hk' : (n4 : Int) - 1 - m = k := by omega
      have hjn : j < n4 := by omega
      have hkn : k < n4 := by omega
      have hxv : ∀ v ∈ stepV s i n4 vs m, ∃ x, v = .int .i64 x := fun v hv' => hcon v (by
        have hp := stepV_perm s i vs m (by omega)
        rw [hvl] at hp
        exact hp.mem_iff.1 hv')
      have hstep : stepV s i n4 vs (m + 1) = swapV (stepV s i n4 vs m) k j := by rw [stepV, hj, hk]; simp
      have hxl : (stepV s i n4 vs m).length = n4 := by rw [stepV_len, hvl]
      generalize stepV s i n4 vs m = xs at *
      have hsw : swapV xs k j = (xs.set k xs[j]).set j xs[k] := by
        unfold swapV
        rw [List.getD_eq_getElem?_getD, List.getD_eq_getElem?_getD, List.getElem?_eq_getElem (by omega), List.getElem?_eq_getElem (by omega)]
        rfl
      rw [hsw] at hstep
      obtain ⟨aj, haj⟩ := hxv xs[j] (List.getElem_mem _)
      obtain ⟨ak, hak⟩ := hxv xs[k] (List.getElem_mem _)
      obtain ⟨g, o, rfl, hg, -⟩ := hI.lst.rdv.cell hjn
      have hgf := hI.far g ⟨_, rfl, rfl⟩
      have hc1 : (k : Int) < n4 := by omega
      have hc2 : (j : Int) < n4 := by omega
      have c0 := hI.src.cell 0 rfl
      have c1 := hI.src.cell 1 rfl
      rw [hk']
      have hkp : 1 ≤ (k : Int) := by omega
      have hkm : (n4 : Int) - m = k + 1 := by omega
      have hkm' : (k : Int) + 1 ≤ 1000000 := by omega
      rw [hkm] at hj
      rw [haj, hak] at hstep
      have HST := Lib.hid hstep
      have HAJ : Hid (xs[j]? = some (.int .i64 aj)) := Lib.hid (by rw [List.getElem?_eq_getElem (by omega), haj])
      have HAK : Hid (xs[k]? = some (.int .i64 ak)) := Lib.hid (by rw [List.getElem?_eq_getElem (by omega), hak])
      have hkn1 : k + m + 1 = n4 := by omega
      have hmx : m ≤ 1000000 := by omega
      clear haj hak hsw hbv hstep hxv hk hk' hkm hc1 hc2
      go_wp2_with fail
      refine (rbelow_any wr s (i + m) ((k : Int) + 1) (by omega) (by omega) (by omega) (by omega)).mono ?_
      rintro e w5 ⟨rfl, hb5⟩
      rw [hj]
      have hl5 := (hI.next hb5).src.lt
      have hI6 := (hI.next hb5).turn (i + m + 1)
      have hI7 := hI6.set k hkn (x := .int .i64 aj) rfl
      have hI8 := hI7.set j hjn (x := .int .i64 ak) rfl
      obtain ⟨g2, o2, he2, hg5, cj⟩ := (hI.next hb5).lst.rdv.cell hjn
      obtain ⟨g3, o3, he3, -, ck⟩ := (hI.next hb5).lst.rdv.cell hkn
      injection he2 with he2
      injection he2 with he4 he5
      injection he3 with he3
      injection he3 with he6 he7
      subst he4 he5 he6 he7
      rw [HAJ.out] at cj
      rw [HAK.out] at ck
      obtain ⟨u, cu⟩ : ∃ u, (((w5.setCell ⟨w.heap.size, 0, none⟩ (.int .u64 s)).setCell ⟨w.heap.size, 1, none⟩ (.int .i64 (i + m + 1))).setCell ⟨g, o + k, none⟩ (.int .i64 aj)).cell? ⟨g, o + j, none⟩ = some u := by
        obtain ⟨g2, o2, he2, -, cu⟩ := hI7.lst.rdv.cell hjn
        injection he2 with he2
        injection he2 with he3 he4
        subst he3 he4
        rw [List.getElem?_eq_getElem (by simp; omega)] at cu
        exact ⟨_, cu⟩
      have fz : w5.frozen? ⟨g, o + k, none⟩ = false := (hI.next hb5).lst.free rfl (o + k)
      have fy : w5.frozen? ⟨g, o + j, none⟩ = false := (hI.next hb5).lst.free rfl (o + j)
      have c0 := (hI.next hb5).src.cell 0 rfl
      have c1 := (hI.next hb5).src.cell 1 rfl
      have f0 := (hI.next hb5).src.free 0
      have f1 := (hI.next hb5).src.free 1
      have HI8 := Lib.hid (hI8.next ((Below.refl _ _).alloc (Nat.le_refl _) (.cells #[.int .u64 s, .int .i64 (i + m + 1)] 31)))
      have hc1 : (k : Int) < n4 := by omega
      have hc2 : (j : Int) < n4 := by omega
      clear hI8 hI7 hI6 hI hb5 hj hg
      dsimp only
      go_wp2
      go_roundw
      case rel => exact ⟨m + 1, by omega, by rw [show ((m + 1 : Nat) : Int) = m + 1 from by omega, ← hkn1]; congr 1; omega, by rw [HST.out, show i + ((m + 1 : Nat) : Int) = i + m + 1 from by omega]; exact HI8.out⟩
      case measure => simp [intOf]
    · obtain rfl : m = n4 - 1 := by omega
      have hk : (n4 : Int) - 1 - (n4 - 1 : Nat) < 1 := by omega
      have c0 := hI.src.cell 0 rfl
      have c1 := hI.src.cell 1 rfl
      have d0 := hI.res.cell 0 rfl
      have d1 := hI.res.cell 1 rfl
      have f0 := hI.res.free 0
      have f1 := hI.res.free 1
      have hr := ((hI.res.set 0 (.int .u64 s)).set 1 (.int .i64 (i + (n4 - 1 : Nat))))
      have e0 := hr.cell 0 rfl
      have e1 := hr.cell 1 rfl
      have e2 := (hI.res.set 0 (.int .u64 s)).cell 0 rfl
      have hlf := (hI.lst.far (p := ⟨w.heap.size + 1, 0, none⟩) (fun ad he => by have := hI.far _ ⟨ad, he, rfl⟩; simp; omega) (.int .u64 s)).far (p := ⟨w.heap.size + 1, 1, none⟩) (fun ad he => by have := hI.far _ ⟨ad, he, rfl⟩; simp; omega) (.int .i64 (i + (n4 - 1 : Nat)))
      go_wp2
      refine bodyPost_ret (v := .tuple #[.agg #[.int .u64 s, .int .i64 (i + (n4 - 1 : Nat))], .slice A4 n4 c4]) (by simp [results, Try.results32, go_sem, e0, e1, e2]) rfl ⟨A4, c4, rfl, ?_, (hI.bel.setCell (by simp) _).setCell (by simp) _⟩
      unfold shufV
      rw [hvl]
      exact hlf.mono (fun q hq => by have := hI.far q hq; omega)
end Go.Proofs.Ytiefgicapcljiaa
