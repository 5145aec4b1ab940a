/- Rows of integers by the library: looked through, cut, copied. -/
import Derived.Test.YtnakoplceplmmaaV3
set_option linter.unusedSimpArgs false
set_option linter.unusedVariables false
namespace Go.Proofs.Ytnakoplceplmmaa
open Go.RowKit Go.Shelf
theorem intV_at {w : World} {A : Option Addr} {n c : Nat} {xs : List Int} (h : RdV w A n c (intV xs)) {k : Nat} (hk : k < n) (hx : k < xs.length) : ∃ g o, A = some ⟨g, o, none⟩ ∧ g < w.heap.size ∧ w.cell? ⟨g, o + k, none⟩ = some (.int .i64 xs[k]) := by
  obtain ⟨g, o, e, hg, hc⟩ := h.cell hk
  refine ⟨g, o, e, hg, ?_⟩
  rw [hc, intV, List.getElem?_map, List.getElem?_eq_getElem hx]
  rfl
/-- Where x first is: -1 if nowhere. -/
def idxV (xs : List Int) (x : Int) : Int := if x ∈ xs then ((xs.idxOf x : Nat) : Int) else -1
theorem idxOf_first : ∀ (xs : List Int) (x : Int) (k : Nat) (h : k < xs.length), xs[k] = x → (∀ j, (hj : j < k) → xs[j]'(by omega) ≠ x) → xs.idxOf x = k
  | [], x, k, h, _, _ => by simp at h
  | y :: r, x, 0, h, he, _ => by
    have : y = x := he
    subst this
    simp
  | y :: r, x, k + 1, h, he, hj => by
    have h0 : y ≠ x := hj 0 (by omega)
    have ih := idxOf_first r x k (by simpa using h) he (fun j hj' => hj (j + 1) (by omega))
    have h0b : (y == x) = false := by simpa using h0
    rw [List.idxOf_cons, h0b, ih]
    rfl
set_option maxHeartbeats 400000 in
theorem idx_any (A : Option Addr) (n c : Nat) (xs : List Int) (x : Int) (w : World) (h : RdV w A n c (intV xs)) :
    Calls Try.prog 44 #[.slice A n c, .int .i64 x] w fun e w' => e = .returned (.int .i64 (idxV xs x)) ∧ w = w' := by
  have hn := h.1
  rw [intV_len] at hn
  have hc := h.2.1
  have hmx := h.2.2.1
  unfold maxLen at hmx
  have H := Lib.hid h
  have HN := Lib.hid hn
  clear h hn
  go_enter Try.func44, Try.ntmps44
  go_wp2
  go_loopw [5, 8] (fun j i wr => ∃ k : Nat, k ≤ n ∧ i = .int .i64 k ∧ wr = w ∧ ∀ j, (hj : j < k) → (h2 : j < xs.length) → xs[j] ≠ x) (fun j i _ => n - (intOf i).toNat)
  case atStart => exact ⟨0, Nat.zero_le _, rfl, rfl, fun j hj => by omega⟩
  case round =>
    obtain ⟨k, hk, rfl, rfl, hno⟩ := hrel
    by_cases hlt : k < n
    · have hx : k < xs.length := by rw [HN.out]; exact hlt
      obtain ⟨g, o, rfl, hg, d⟩ := intV_at H.out hlt hx
      have hlt' : (k : Int) < n := by omega
      by_cases hxy : x = xs[k]
      · have HT : Hid (idxV xs x = (k : Int)) := Lib.hid (by
          unfold idxV
          rw [if_pos (by rw [hxy]; exact List.getElem_mem _), idxOf_first xs x k hx hxy.symm (fun j hj => hno j hj (by omega))])
        rw [← hxy] at d
        clear hno hxy
        go_wp2
        go_ret
        exact ⟨by rw [HT.out]; rfl, rfl⟩
      · have HT : Hid (∀ j, (hj : j < k + 1) → (h2 : j < xs.length) → xs[j] ≠ x) := Lib.hid (fun j hj h2 => by
          rcases (by omega : j < k ∨ j = k) with h | rfl
          · exact hno j h h2
          · exact fun e => hxy e.symm)
        generalize hgx : xs[k] = y at *
        clear hno hgx
        go_wp2
        go_roundw
        case rel => exact ⟨k + 1, by omega, by go_num, trivial, HT.out⟩
        case measure => simp [intOf]; omega
    · obtain rfl : k = n := by omega
      have HT : Hid (idxV xs x = -1) := Lib.hid (by
        unfold idxV
        rw [if_neg]
        intro hm
        obtain ⟨j, hj, he⟩ := List.getElem_of_mem hm
        exact hno j (by have := HN.out; omega) hj he)
      clear hno
      go_wp2
      go_ret
      exact ⟨by rw [HT.out]; rfl, rfl⟩
theorem idxV_pos (xs : List Int) (x : Int) : decide (0 ≤ idxV xs x) = decide (x ∈ xs) := by
  unfold idxV
  split
  · rename_i h; simp [h]
  · rename_i h; simp [h]
theorem has_any (A : Option Addr) (n c : Nat) (xs : List Int) (x : Int) (w : World) (h : RdV w A n c (intV xs)) :
    Calls Try.prog 47 #[.slice A n c, .int .i64 x] w fun e w' => e = .returned (.bool (decide (x ∈ xs))) ∧ w = w' := by
  have HI := Lib.hid (idx_any A n c xs x w h)
  have HP := Lib.hid (idxV_pos xs x)
  clear h
  generalize idxV xs x = y at *
  go_enter Try.func47, Try.ntmps47
  go_wp2_with (go_at_call 44; refine HI.out.mono ?_; rintro e w' ⟨rfl, rfl⟩)
  go_ret
  exact ⟨by rw [← HP.out]; rfl, rfl⟩
theorem iclone_any (A : Option Addr) (n c : Nat) (xs : List Int) (w : World) (h : RdV w A n c (intV xs)) (hn : n ≤ 1000000) :
    Calls Try.prog 48 #[.slice A n c] w (Made 3 (intV xs) w) := by
  rcases A with _ | ad
  · have hc := h.2.2.2.1 rfl
    subst hc
    obtain rfl : n = 0 := by have := h.2.1; omega
    obtain rfl : xs = [] := List.eq_nil_of_length_eq_zero (by have := h.1; rwa [intV_len] at this)
    have hq := Lib.run_eql_slice_nil (P := Try.prog) w 29 3 none 0 0 0 0 Try.underlying29
    go_enter Try.func48, Try.ntmps48
    go_wp2
    go_ret
    exact ⟨none, 0, 0, rfl, Lst.nil _ _ _, Below.refl _ _⟩
  · have hq := Lib.run_eql_slice_nil (P := Try.prog) w 29 3 (some ad) n c 0 0 Try.underlying29
    have hb0 : Below w.heap.size w (w.alloc (.cells #[] 3)) := (Below.refl _ _).alloc (Nat.le_refl _) _
    have HL0 := Lib.hid (Lst.made w 3 #[] 0 [] rfl (Nat.zero_le _) (by decide) (by simp) (fun i hi => by omega))
    have HS0 := Lib.hid (h.below hb0)
    clear h
    go_enter Try.func48, Try.ntmps48
    go_wp2_with (first
      | (at_builtin
         refine wpList_append_lst eltI rfl (.tmp 5) (.tmp 6) rfl rfl HL0.out rfl HS0.out (by omega) ?_
         rintro v w2 hap
         obtain ⟨A2, n2, c2, rfl, l2⟩ := hap.ex
         have HB2 := Lib.hid (hb0.trans (hap.st.below (by simp) (fun k hk => hk)))
         have HL2 := Lib.hid (l2.mono (F' := (w.heap.size ≤ ·)) (fun k hk => by rcases hk with hk | hk; exact hk; simp at hk; omega))
         clear hap l2))
    go_ret
    exact ⟨A2, n2, c2, rfl, HL2.out, HB2.out⟩
theorem cutA_blk {A : Option Addr} {c s k : Nat} : BlkOf (cutA A c s) k ↔ BlkOf A k := by
  unfold cutA
  split
  · exact Iff.rfl
  · cases A with
    | none => exact Iff.rfl
    | some ad =>
      constructor
      · rintro ⟨a, he, rfl⟩
        injection he with he
        subst he
        exact ⟨ad, rfl, by unfold Addr.add; split <;> rfl⟩
      · rintro ⟨a, he, rfl⟩
        injection he with he
        subst he
        exact ⟨_, rfl, by unfold Addr.add; split <;> rfl⟩
set_option maxHeartbeats 1000000 in
theorem del_any {F : Nat → Prop} {g o n c i : Nat} {vs : List Value} {w : World} (h : Lst 3 F w (some ⟨g, o, none⟩) n c vs) (hi : i < n) (hn : n ≤ 1000000) :
    Calls Try.prog 45 #[.slice (some ⟨g, o, none⟩) n c, .int .i64 i, .int .i64 ((i : Int) + 1)] w fun e w' => e = .returned (.slice (some ⟨g, o, none⟩) (n - 1) c) ∧ Lst 3 F w' (some ⟨g, o, none⟩) (n - 1) c (vs.take i ++ vs.drop (i + 1)) ∧ St (· = g) w w' := by
  have hnc := h.2.1
  have hlen := h.1
  have h3 := eltI.run_cut3 (some ⟨g, o, none⟩) n c i (i + 1) (by omega) (by omega) hnc w
  have hpre : ∀ W, _ := fun W => eltI.run_pre (some ⟨g, o, none⟩) n c i (by omega) hnc W
  have hcut : ∀ W, _ := fun W => eltI.run_cut (some ⟨g, o, none⟩) n c (i + 1) (by omega) hnc W
  rw [Int.natCast_add, Int.natCast_one] at h3
  have hcut' : ∀ W : World, (Instr.slice 29 (.slice (some ⟨g, o, none⟩) n c) (some (.int .i64 ((i : Int) + 1))) none none).run Try.prog W = .ok (.slice (cutA (some ⟨g, o, none⟩) c (i + 1)) (n - (i + 1)) (c - (i + 1))) W := fun W => by
    have := hcut W
    rwa [Int.natCast_add, Int.natCast_one] at this
  clear hcut
  have H := Lib.hid h
  clear h
  go_enter Try.func45, Try.ntmps45
  go_wp2_with fail
  refine wp_region_E (St (· = g)) (by kernel_rfl) (fun wd hbd hsz => ?_)
  have HB := Lib.hid hbd
  have HHd := Lib.hid (H.out.below hbd)
  clear hsz
  (refine takeE (St.tr (· = g)) 0 (by simp only [List.getElem?_toArray, List.getElem?_cons_succ, List.getElem?_cons_zero]; rfl) (by kernel_rfl) (by kernel_rfl) (by kernel_rfl) (by exact fun _ _ _ h => h) (by first | (refine Or.inl ⟨by rfl, ?_⟩; intro W hW; go_simp; try with_reducible rfl) | exact Or.inr ⟨by rfl, rfl⟩) ?_; try simp only [Act.put, List.setIfInBounds_toArray, List.set_cons_zero, List.set_cons_succ])
  (refine takeE (St.tr (· = g)) 1 (by simp only [List.getElem?_toArray, List.getElem?_cons_succ, List.getElem?_cons_zero]; rfl) (by kernel_rfl) (by kernel_rfl) (by kernel_rfl) (by exact fun _ _ _ h => h) (by first | (refine Or.inl ⟨by rfl, ?_⟩; intro W hW; go_simp; try with_reducible rfl) | exact Or.inr ⟨by rfl, rfl⟩) ?_; try simp only [Act.put, List.setIfInBounds_toArray, List.set_cons_zero, List.set_cons_succ])
  (refine takeE (St.tr (· = g)) 3 (by simp only [List.getElem?_toArray, List.getElem?_cons_succ, List.getElem?_cons_zero]; rfl) (by kernel_rfl) (by kernel_rfl) (by kernel_rfl) (by exact fun _ _ _ h => h) (by first | (refine Or.inl ⟨by rfl, ?_⟩; intro W hW; go_simp; try with_reducible rfl) | exact Or.inr ⟨by rfl, rfl⟩) ?_; try simp only [Act.put, List.setIfInBounds_toArray, List.set_cons_zero, List.set_cons_succ])
  (refine takeE (St.tr (· = g)) 4 (by simp only [List.getElem?_toArray, List.getElem?_cons_succ, List.getElem?_cons_zero]; rfl) (by kernel_rfl) (by kernel_rfl) (by kernel_rfl) (by exact fun _ _ _ h => h) (by first | (refine Or.inl ⟨by rfl, ?_⟩; intro W hW; go_simp; try with_reducible rfl) | exact Or.inr ⟨by rfl, rfl⟩) ?_; try simp only [Act.put, List.setIfInBounds_toArray, List.set_cons_zero, List.set_cons_succ])
  (refine takeE (St.tr (· = g)) 2 (by simp only [List.getElem?_toArray, List.getElem?_cons_succ, List.getElem?_cons_zero]; rfl) (by kernel_rfl) (by kernel_rfl) (by kernel_rfl) (by exact fun _ _ _ h => h) (by first | (refine Or.inl ⟨by rfl, ?_⟩; intro W hW; go_simp; try with_reducible rfl) | exact Or.inr ⟨by rfl, rfl⟩) ?_; try simp only [Act.put, List.setIfInBounds_toArray, List.set_cons_zero, List.set_cons_succ])
  (refine takeE (St.tr (· = g)) 5 (by simp only [List.getElem?_toArray, List.getElem?_cons_succ, List.getElem?_cons_zero]; rfl) (by kernel_rfl) (by kernel_rfl) (by kernel_rfl) (by exact fun _ _ _ h => h) (by first | (refine Or.inl ⟨by rfl, ?_⟩; intro W hW; go_simp; try with_reducible rfl) | exact Or.inr ⟨by rfl, rfl⟩) ?_; try simp only [Act.put, List.setIfInBounds_toArray, List.set_cons_zero, List.set_cons_succ])
  refine wpAnyE_one (i := 6) (by kernel_rfl) (by simp only [List.getElem?_toArray, List.getElem?_cons_succ, List.getElem?_cons_zero]; rfl) (fun K hK => ?_)
  refine opwp_del eltI rfl (.tmp 22) (.tmp 25) rfl (n := n) rfl HHd.out rfl hi ?_
  intro w1 lastv hl1 hs1
  have hn1 : 0 < n := by omega
  have hcell := (hl1.rdv.2.2.2.2.2 (by omega))
  have HC : Hid (w1.cell? ⟨g, o + (n - 1), none⟩ = some lastv) := Lib.hid (by
    obtain ⟨g', o', he, _, hx⟩ := hl1.rdv.2.2.2.2.2 hn1
    injection he with he
    injection he with e1 e2
    subst e1 e2
    rw [hx (n - 1) (by omega), List.getElem?_append_right (by simp [hlen]; omega)]
    rw [show n - 1 - (List.take i vs ++ List.drop (i + 1) vs).length = 0 from by simp [hlen]; omega]
    rfl)
  have HFz : Hid (w1.frozen? ⟨g, o + (n - 1), none⟩ = false) := Lib.hid (hl1.free rfl _)
  have hc2 := eltI.run_cut2 g o (n - 1) c (n - 1) n (by omega) hnc (by omega) w1
  rw [show n - (n - 1) = 1 from by omega] at hc2
  have hset := hl1.set (n - 1) (by omega) (x := .int .i64 0) rfl
  have HS2 : Hid (St (· = g) w (w1.setCell ⟨g, o + (n - 1), none⟩ (.int .i64 0))) := Lib.hid (((St.ext HB.out).trans hs1 (Gr.refl _ _)).trans (St.setCell (F := (· = g)) w1 (a := ⟨g, o + (n - 1), none⟩) rfl _) (Gr.refl _ _))
  have HL2 : Hid (Lst 3 F (w1.setCell ⟨g, o + (n - 1), none⟩ (.int .i64 0)) (some ⟨g, o, none⟩) (n - 1) c (vs.take i ++ vs.drop (i + 1))) := Lib.hid (by
    obtain ⟨k1, k2, k3, k4, k5⟩ := hset
    refine ⟨by simp [hlen]; omega, by omega, k3, fun v hv => k4 v (by
      have hl2 : (List.take i vs ++ List.drop (i + 1) vs).length = n - 1 := by simp [hlen]; omega
      rw [List.set_append_right _ _ (by omega)]
      exact List.mem_append_left _ hv), ?_⟩
    rcases k5 with ⟨h, _⟩ | ⟨g', o', cur, hA, hf, hh, hs, hx⟩
    · cases h
    · injection hA with hA
      injection hA with e1 e2
      subst e1 e2
      refine .inr ⟨g, o, cur, rfl, hf, hh, hs, fun j hj => ?_⟩
      rw [hx j (by omega), List.set_append_right _ _ (by simp [hlen]; omega), List.getElem?_append_left (by simp [hlen]; omega)])
  clear hcell hset hl1
  refine hK.out _ _ hs1 ?_
  clear hK K
  try simp only [Act.put, List.setIfInBounds_toArray, List.set_cons_zero, List.set_cons_succ]
  (refine takeE (St.tr (· = g)) 7 (by simp only [List.getElem?_toArray, List.getElem?_cons_succ, List.getElem?_cons_zero]; rfl) (by kernel_rfl) (by kernel_rfl) (by kernel_rfl) (by exact fun _ _ _ h => h) (by first | (refine Or.inl ⟨by rfl, ?_⟩; intro W hW; go_simp; try with_reducible rfl) | exact Or.inr ⟨by rfl, rfl⟩) ?_; try simp only [Act.put, List.setIfInBounds_toArray, List.set_cons_zero, List.set_cons_succ])
  refine wpAnyE_done (by kernel_rfl) ?_ _
  go_wp2_with (refine wpList_clear_one eltI rfl (.tmp 31) rfl rfl (by rw [HC.out]; rfl) HFz.out ?_)
  go_ret
  exact ⟨rfl, HL2.out, HS2.out⟩
end Go.Proofs.Ytnakoplceplmmaa
