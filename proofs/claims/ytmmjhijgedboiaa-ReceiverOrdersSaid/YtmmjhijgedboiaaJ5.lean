/- A Join: forked. -/
import Derived.Test.YtmmjhijgedboiaaJ4
set_option linter.unusedSimpArgs false
set_option linter.unusedVariables false
set_option maxRecDepth 100000
namespace Go.Proofs.Ytmmjhijgedboiaa
open Go.RowKit Go.Shelf
/-- A fork under way: k parts are copied. -/
structure Frk (w : World) (m : Jm) (n k : Nat) (W : World) : Prop where
  bel : Below w.heap.size w W
  bx : Bk W 130 w.heap.size [.int .i64 m.op, .int .i64 m.N, .int .i64 m.T, .slice (some ⟨w.heap.size + 1, 0, none⟩) n n, .bool true]
  ls : ∃ bs : List Bs, bs.length = k ∧ bs.map Bs.xs = m.ps.take k ∧ Bk W 30 (w.heap.size + 1) (bs.map Bs.val ++ List.replicate (n - k) (.slice none 0 0)) ∧ ∀ b ∈ bs, BsR W b.A b.n b.c b.xs ∧ 0 < b.n ∧ ∀ k, BlkOf b.A k → w.heap.size ≤ k
theorem Frk.next {w W W1 : World} {m : Jm} {n k : Nat} (h : Frk w m n k W) (hb : Below W.heap.size W W1) (hk : k < n) {b : Bs} (hq : BsR W1 b.A b.n b.c b.xs) (hn : 0 < b.n) (hbl : ∀ j, BlkOf b.A j → w.heap.size ≤ j) (hat : m.ps[k]? = some b.xs) :
    Frk w m n (k + 1) (W1.setCell ⟨w.heap.size + 1, k, none⟩ (.slice b.A b.n b.c)) := by
  obtain ⟨bs, h1, h2, h3, h4⟩ := h.ls
  have h3' := h3.below hb
  have hst : St (· = w.heap.size + 1) W1 (W1.setCell ⟨w.heap.size + 1, k, none⟩ (.slice b.A b.n b.c)) := St.setCell (F := (· = w.heap.size + 1)) W1 (a := ⟨w.heap.size + 1, k, none⟩) rfl _
  have hne : ∀ {A : Option Addr} {l c : Nat} {xs : List Int}, BsR W1 A l c xs → ∀ j, BlkOf A j → ¬ j = w.heap.size + 1 := fun hr j hj e => by
    subst e
    exact ((hr.2 _ hj).ne (u := 30) (by decide)) h3'.tyd
  refine ⟨(h.bel.trans (hb.mono h.bel.size)).trans (hst.below (by have := h.bel.size; have := hb.size; omega) (fun j hj => by omega)), (h.bx.below hb).st hst (by omega), bs ++ [b], by simp [h1], ?_, ?_, fun q hq' => ?_⟩
  · rw [List.map_append, h2, List.take_add_one, hat]; rfl
  · have h5 := h3'.set k (.slice b.A b.n b.c)
    have e : (bs.map Bs.val ++ List.replicate (n - k) (Value.slice none 0 0)).set k (.slice b.A b.n b.c) = (bs ++ [b]).map Bs.val ++ List.replicate (n - (k + 1)) (Value.slice none 0 0) := by
      rw [List.set_append_right _ _ (by simp; omega), List.length_map, h1, Nat.sub_self, show n - k = (n - (k + 1)) + 1 from by omega, List.replicate_succ, List.set_cons_zero, List.map_append, List.append_assoc]
      rfl
    rw [e] at h5
    exact h5
  · rcases List.mem_append.1 hq' with h | h
    · obtain ⟨k1, k2, k3⟩ := h4 q h
      exact ⟨(k1.below hb).st hst (hne (k1.below hb)), k2, k3⟩
    · obtain rfl : q = b := by simpa using h
      exact ⟨hq.st hst (hne hq), hn, hbl⟩
theorem Frk.done {w W : World} {m : Jm} {n : Nat} (h : Frk w m n n W) (hl : m.ps.length = n) (hn : n ≤ 65536) (hop : m.op ≤ 65536) : JnC (fun k => w.heap.size ≤ k ∧ k < W.heap.size) W w.heap.size m := by
  obtain ⟨bs, h1, h2, h3, h4⟩ := h.ls
  rw [Nat.sub_self, List.replicate_zero, List.append_nil] at h3
  refine ⟨_, n, n, h.bx, ⟨bs, ⟨by simpa using h1, Nat.le_refl _, by unfold maxLen; omega, ?_, .inr ⟨w.heap.size + 1, 0, (bs.map Bs.val).toArray, rfl, ⟨by omega, h3.lt⟩, h3, by simp; omega, fun i hi => by simp⟩⟩, by rw [h2, List.take_of_length_le (by omega)], fun b hb => ?_⟩, ⟨Nat.le_refl _, h.bx.lt⟩, fun k hk => hk.2, hop⟩
  · intro v hv
    obtain ⟨b, _, rfl⟩ := List.mem_map.1 hv
    rfl
  · obtain ⟨k1, k2, k3⟩ := h4 b hb
    exact ⟨k1, k2, fun k hk => ⟨k3 k hk, k1.lt k hk⟩⟩
section
variable {F : Nat → Prop} {w : World} {g : Nat} {m : Jm}
set_option maxHeartbeats 4000000 in
theorem j_fork (h : JnC F w g m) : Calls Try.prog 64 #[.pointer (some ⟨g, 0, none⟩)] w fun e w' => ∃ g' F', e = .returned (.pointer (some ⟨g', 0, none⟩)) ∧ JnC F' w' g' m ∧ (∀ k, F' k → w.heap.size ≤ k) ∧ Below w.heap.size w w' := by
  have HM := Lib.hid (j_made h)
  obtain ⟨A, n, c, h⟩ := h
  have hle := h.le
  have c0 := h.bk.cell 0 rfl
  have c1 := h.bk.cell 1 rfl
  have c2 := h.bk.cell 2 rfl
  have c3 := h.bk.cell 3 rfl
  have c4 := h.bk.cell 4 rfl
  have hgl := h.bk.lt
  have hnm := h.many
  have hmk := fun W => eltB.run_make n n (Nat.le_refl _) (by omega) W
  have HH := Lib.hid h
  clear h
  go_enter Try.func64, Try.ntmps64
  go_wp2_with (go_at_call 70; refine HM.out.mono ?_; rintro e w' ⟨rfl, rfl⟩)
  have hn := HH.out.ls.len
  have hF0 : Frk w m n 0 ((w.alloc (.cells #[.int .i64 m.op, .int .i64 m.N, .int .i64 m.T, .slice (some ⟨w.heap.size + 1, 0, none⟩) n n, .bool true] 130)).alloc (.cells (Array.replicate n (.slice none 0 0)) 30)) := by
    refine ⟨((Below.refl _ w).alloc (Nat.le_refl _) _).alloc (by simp) _, (Bk.new w 130 [.int .i64 m.op, .int .i64 m.N, .int .i64 m.T, .slice (some ⟨w.heap.size + 1, 0, none⟩) n n, .bool true]).alloc _, [], rfl, by simp, ?_, by simp⟩
    have := Bk.new (w.alloc (.cells #[.int .i64 m.op, .int .i64 m.N, .int .i64 m.T, .slice (some ⟨w.heap.size + 1, 0, none⟩) n n, .bool true] 130)) 30 (List.replicate n (.slice none 0 0))
    rw [World.size_alloc] at this
    simpa using this
  have HF0 := Lib.hid hF0
  have HN := Lib.hid hn
  clear hF0 hn c0 c1 c2 c3 c4 hmk HM
  go_loopw [4, 5, 24] (fun a b i W => ∃ (k : Nat), i = .int .i64 k ∧ k ≤ n ∧ Frk w m n k W) (fun a b i _ => n - (intOf i).toNat)
  case atStart => exact ⟨0, rfl, Nat.zero_le _, HF0.out⟩
  case round =>
    obtain ⟨k, rfl, hk, hfr⟩ := hrel
    by_cases hlt : k < n
    · have hh := HH.out.below hfr.bel
      obtain ⟨gp, op, b, rfl, hcell, hrd, hbn, hat⟩ := hh.ls.at hlt
      have hkI : (k : Int) < n := by omega
      have HFr := Lib.hid hfr
      have HRd := Lib.hid hrd
      have HAt := Lib.hid hat
      have hb65 : b.n ≤ 65536 := by
        have h1 := m.pre_le (k + 1)
        rw [m.pre_succ hat, List.length_append, hrd.1.1] at h1
        omega
      clear hfr hrd hat hh
      go_wp2_with fail
      refine wp_region_L Ext [6] (by kernel_rfl) (fun wd hbd hsz => ?_)
      have hfd := HFr.out.bx.below hbd
      have HBD := Lib.hid hbd
      have hrd := HRd.out.below hbd
      have HRD := Lib.hid hrd
      have q3 : ∀ W, Ext wd W → W.cell? ⟨w.heap.size, 3, none⟩ = some (.slice (some ⟨w.heap.size + 1, 0, none⟩) n n) := fun W hW => (hfd.below hW).cell 3 rfl
      clear hsz hrd hfd hbd
      (refine takeL Ext.tr 0 (by simp only [List.getElem?_toArray, List.getElem?_cons_succ, List.getElem?_cons_zero]; rfl) (by kernel_rfl) (by kernel_rfl) (by kernel_rfl) (by kernel_rfl) (by exact fun _ _ _ h => h) (by first | (refine Or.inl ⟨by rfl, ?_⟩; intro W hW; go_simp; try with_reducible rfl) | exact Or.inr ⟨by rfl, rfl⟩) ?_; try simp only [Act.put, List.setIfInBounds_toArray, List.set_cons_zero, List.set_cons_succ])
      (refine takeL Ext.tr 2 (by simp only [List.getElem?_toArray, List.getElem?_cons_succ, List.getElem?_cons_zero]; rfl) (by kernel_rfl) (by kernel_rfl) (by kernel_rfl) (by kernel_rfl) (by exact fun _ _ _ h => h) (by first | (refine Or.inl ⟨by rfl, ?_⟩; intro W hW; go_simp; try with_reducible rfl) | exact Or.inr ⟨by rfl, rfl⟩) ?_; try simp only [Act.put, List.setIfInBounds_toArray, List.set_cons_zero, List.set_cons_succ])
      (refine takeL Ext.tr 3 (by simp only [List.getElem?_toArray, List.getElem?_cons_succ, List.getElem?_cons_zero]; rfl) (by kernel_rfl) (by kernel_rfl) (by kernel_rfl) (by kernel_rfl) (by exact fun _ _ _ h => h) (by first | (refine Or.inl ⟨by rfl, ?_⟩; intro W hW; go_simp; try with_reducible rfl) | exact Or.inr ⟨by rfl, rfl⟩) ?_; try simp only [Act.put, List.setIfInBounds_toArray, List.set_cons_zero, List.set_cons_succ])
      (refine takeL Ext.tr 1 (by simp only [List.getElem?_toArray, List.getElem?_cons_succ, List.getElem?_cons_zero]; rfl) (by kernel_rfl) (by kernel_rfl) (by kernel_rfl) (by kernel_rfl) (by exact fun _ _ _ h => h) (by first | (refine Or.inl ⟨by rfl, ?_⟩; intro W hW; go_simp; try with_reducible rfl) | exact Or.inr ⟨by rfl, rfl⟩) ?_; try simp only [Act.put, List.setIfInBounds_toArray, List.set_cons_zero, List.set_cons_succ])
      refine wpAnyL_one (i := 4) (by kernel_rfl) (by simp only [List.getElem?_toArray, List.getElem?_cons_succ, List.getElem?_cons_zero]; rfl) (fun K hK => ?_)
      go_simp
      refine (clone_any _ _ _ _ _ HRD.out.1 (by omega)).mono ?_
      rintro e w1 ⟨v1, rfl, hown, hb1⟩
      obtain ⟨A2, c2, rfl⟩ := own_slice hown
      have hown2 := BsR.own hown HRD.out.1.2.2.2.2.1
      have hbl : b.xs.length = b.n := HRD.out.1.1
      rw [hbl] at hown2 ⊢
      have hb2 := HBD.out.trans (hb1.mono HBD.out.size)
      have hT := HFr.out.next (W1 := w1) hb2 hlt (b := ⟨A2, b.n, c2, b.xs⟩) hown2.1 hbn (fun j hj => by have := hown2.2 j hj; have := HBD.out.size; have := HFr.out.bel.size; omega) HAt.out
      have HT := Lib.hid hT
      obtain ⟨bs9, z1, z2, z3, z4⟩ := HFr.out.ls
      have z5 := z3.below hb2
      have c9 : ∃ v, w1.cell? ⟨w.heap.size + 1, k, none⟩ = some v := ⟨_, z5.cell k (List.getElem?_eq_getElem (by simp; omega))⟩
      obtain ⟨v9, c9⟩ := c9
      have f9 := z5.free k
      clear hown hown2 hbl hT z1 z2 z3 z4 z5 hb2
      refine hK.out _ _ (.inr hb1) ?_
      clear hK K
      try simp only [Act.put, List.setIfInBounds_toArray, List.set_cons_zero, List.set_cons_succ]
      (refine takeL Ext.tr 5 (by simp only [List.getElem?_toArray, List.getElem?_cons_succ, List.getElem?_cons_zero]; rfl) (by kernel_rfl) (by kernel_rfl) (by kernel_rfl) (by kernel_rfl) (by exact fun _ _ _ h => h) (by first | (refine Or.inl ⟨by rfl, ?_⟩; intro W hW; go_simp; try with_reducible rfl) | exact Or.inr ⟨by rfl, rfl⟩) ?_; try simp only [Act.put, List.setIfInBounds_toArray, List.set_cons_zero, List.set_cons_succ])
      refine wpAnyL_one (i := 6) (by kernel_rfl) (by simp only [List.getElem?_toArray, List.getElem?_cons_succ, List.getElem?_cons_zero]; rfl) (fun K hK => ?_)
      go_simp
      refine hK.out _ _ (.inl (by decide)) ?_
      clear hK K
      try simp only [Act.put, List.setIfInBounds_toArray, List.set_cons_zero, List.set_cons_succ]
      refine wpAnyL_done (by kernel_rfl) ?_ _
      clear q3
      go_wp2
      go_roundw
      case rel => exact ⟨k + 1, by go_num, by omega, HT.out⟩
      case measure => simp [intOf]; omega
    · obtain rfl : k = n := by omega
      have HFr := Lib.hid hfr
      clear hfr
      go_wp2
      go_ret
      exact ⟨_, _, rfl, HFr.out.done HN.out (by omega) hle, fun k hk => hk.1, HFr.out.bel⟩
end
end Go.Proofs.Ytmmjhijgedboiaa
