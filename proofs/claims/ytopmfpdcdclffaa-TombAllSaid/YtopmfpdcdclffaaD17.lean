/- The tombs of all hosts in memory: NewAll. -/
import Derived.Test.YtopmfpdcdclffaaD16
set_option linter.unusedSimpArgs false
set_option linter.unusedVariables false
namespace Go.Proofs.Ytopmfpdcdclffaa
open Go.RowKit Go.Shelf
theorem all_made {w : World} {q n : Nat} {B : Bm} {m : Nat → Nat} (h8 : n ≤ 8) (ho : B.ok) (hm : Marks B m) (h : Bk w 68 q (alL n (List.replicate n (B, m) ++ List.replicate (8 - n) z0))) : AllC w q (List.replicate n B) := by
  refine ⟨by rw [List.length_replicate]; exact h8, _, ?_, fun i C hC => ?_, by rw [List.length_replicate]; exact h⟩
  · rw [List.length_append, List.length_replicate, List.length_replicate]; omega
  · obtain ⟨hi, hC⟩ := List.getElem?_eq_some_iff.1 hC
    rw [List.length_replicate] at hi
    rw [List.getElem_replicate] at hC
    subst hC
    refine ⟨ho, m, hm, ?_⟩
    rw [List.getElem?_append_left (by rw [List.length_replicate]; exact hi), List.getElem?_replicate, if_pos hi]
theorem set_next (n i : Nat) (hi : i < n) (h8 : n ≤ 8) (a z : Tq) : (List.replicate i a ++ List.replicate (8 - i) z).set i a = List.replicate (i + 1) a ++ List.replicate (8 - (i + 1)) z := by
  rw [List.set_append_right _ _ (by rw [List.length_replicate]; omega), List.length_replicate, Nat.sub_self, show 8 - i = 8 - (i + 1) + 1 from by omega, List.replicate_succ, List.set_cons_zero, List.replicate_succ', List.append_assoc]
  rfl
set_option maxRecDepth 100000 in
set_option maxHeartbeats 4000000 in
theorem a_new (n s : Nat) (w : World) (h1 : 1 ≤ n) (h8 : n ≤ 8) (hs1 : 1 ≤ s) (hs2 : s ≤ 64) :
    Calls Try.prog 18 #[.int .i64 n, .int .i64 s] w fun e w' => ∃ p, w.heap.size ≤ p ∧ e = .returned (.tuple #[.pointer (some ⟨p, 0, none⟩), .int .i64 0]) ∧ AllC w' p (List.replicate n (Bm.new s 1)) ∧ Below w.heap.size w w' := by
  have hr : inR (n : Int) 1 8 = true := decide_eq_true (by omega)
  go_enter Try.func18, Try.ntmps18
  go_wp2_with fail
  refine (from_any n 1 8 w).mono ?_
  rintro e w1 ⟨rfl, rfl⟩
  rw [hr]
  go_wp2_with fail
  refine (t_new s w hs1 hs2).mono ?_
  rintro e w1 ⟨p, hp, rfl, hm, hb⟩
  obtain ⟨B, hB⟩ : ∃ B, B = Bm.new s 1 := ⟨_, rfl⟩
  have HE := Lib.hid hB
  rw [← hB] at hm
  clear hB hr
  obtain ⟨ho, m, hmk, hk⟩ := hm
  have hk2 : Bk w1 63 p (B.mem m) := by
    have : Bk w1 63 p ((plT p).all (B.mem m)) := hk
    unfold Pl.all plT at this
    simpa using this
  have HO := Lib.hid (And.intro ho hmk)
  have HCUT : Hid (((B.mem m).drop 0).take (B.mem m).length = B.mem m) := Lib.hid (by rw [List.drop_zero, List.take_length])
  have HZ0 : Hid (Bk (w1.alloc (.cells #[.int .i64 n, .int .i64 0, .int .i64 0, .int .u64 0, .int .u64 0, .int .u64 0, .int .u64 0, .int .i64 0, .int .i64 0, .int .u64 0, .int .u64 0, .int .u64 0, .int .u64 0, .int .i64 0, .int .i64 0, .int .u64 0, .int .u64 0, .int .u64 0, .int .u64 0, .int .i64 0, .int .i64 0, .int .u64 0, .int .u64 0, .int .u64 0, .int .u64 0, .int .i64 0, .int .i64 0, .int .u64 0, .int .u64 0, .int .u64 0, .int .u64 0, .int .i64 0, .int .i64 0, .int .u64 0, .int .u64 0, .int .u64 0, .int .u64 0, .int .i64 0, .int .i64 0, .int .u64 0, .int .u64 0, .int .u64 0, .int .u64 0, .int .i64 0, .int .i64 0, .int .u64 0, .int .u64 0, .int .u64 0, .int .u64 0] 68)) 68 w1.heap.size (alL n (List.replicate 0 (B, m) ++ List.replicate (8 - 0) z0))) := Lib.hid (Bk.new w1 68 [.int .i64 n, .int .i64 0, .int .i64 0, .int .u64 0, .int .u64 0, .int .u64 0, .int .u64 0, .int .i64 0, .int .i64 0, .int .u64 0, .int .u64 0, .int .u64 0, .int .u64 0, .int .i64 0, .int .i64 0, .int .u64 0, .int .u64 0, .int .u64 0, .int .u64 0, .int .i64 0, .int .i64 0, .int .u64 0, .int .u64 0, .int .u64 0, .int .u64 0, .int .i64 0, .int .i64 0, .int .u64 0, .int .u64 0, .int .u64 0, .int .u64 0, .int .i64 0, .int .i64 0, .int .u64 0, .int .u64 0, .int .u64 0, .int .u64 0, .int .i64 0, .int .i64 0, .int .u64 0, .int .u64 0, .int .u64 0, .int .u64 0, .int .i64 0, .int .i64 0, .int .u64 0, .int .u64 0, .int .u64 0, .int .u64 0])
  have hb0 := (Below.refl w1.heap.size w1).alloc (Nat.le_refl _) (.cells #[.int .i64 n, .int .i64 0, .int .i64 0, .int .u64 0, .int .u64 0, .int .u64 0, .int .u64 0, .int .i64 0, .int .i64 0, .int .u64 0, .int .u64 0, .int .u64 0, .int .u64 0, .int .i64 0, .int .i64 0, .int .u64 0, .int .u64 0, .int .u64 0, .int .u64 0, .int .i64 0, .int .i64 0, .int .u64 0, .int .u64 0, .int .u64 0, .int .u64 0, .int .i64 0, .int .i64 0, .int .u64 0, .int .u64 0, .int .u64 0, .int .u64 0, .int .i64 0, .int .i64 0, .int .u64 0, .int .u64 0, .int .u64 0, .int .u64 0, .int .i64 0, .int .i64 0, .int .u64 0, .int .u64 0, .int .u64 0, .int .u64 0, .int .i64 0, .int .i64 0, .int .u64 0, .int .u64 0, .int .u64 0, .int .u64 0] 68)
  have HM0 := Lib.hid (hk2.below hb0)
  have HB0 := Lib.hid (hb.trans (hb0.mono hb.size))
  have HSZ := Lib.hid hb.size
  have HPL : Hid (p < w1.heap.size) := Lib.hid hk2.lt
  clear hb hb0 hk2 hk ho hmk hp
  go_wp2
  obtain ⟨q, hq⟩ : ∃ q, q = w1.heap.size := ⟨_, rfl⟩
  rw [← hq] at HZ0 HSZ HPL ⊢
  obtain ⟨w2, hw2⟩ : ∃ w2, w2 = (w1.alloc (.cells #[.int .i64 n, .int .i64 0, .int .i64 0, .int .u64 0, .int .u64 0, .int .u64 0, .int .u64 0, .int .i64 0, .int .i64 0, .int .u64 0, .int .u64 0, .int .u64 0, .int .u64 0, .int .i64 0, .int .i64 0, .int .u64 0, .int .u64 0, .int .u64 0, .int .u64 0, .int .i64 0, .int .i64 0, .int .u64 0, .int .u64 0, .int .u64 0, .int .u64 0, .int .i64 0, .int .i64 0, .int .u64 0, .int .u64 0, .int .u64 0, .int .u64 0, .int .i64 0, .int .i64 0, .int .u64 0, .int .u64 0, .int .u64 0, .int .u64 0, .int .i64 0, .int .i64 0, .int .u64 0, .int .u64 0, .int .u64 0, .int .u64 0, .int .i64 0, .int .i64 0, .int .u64 0, .int .u64 0, .int .u64 0, .int .u64 0] 68)) := ⟨_, rfl⟩
  rw [← hw2] at HZ0 HM0 HB0 ⊢
  clear hw2 hq
  go_loopw [25] (fun iv wr => ∃ i : Nat, i ≤ n ∧ iv = .int .i64 i ∧ Bk wr 68 q (alL n (List.replicate i (B, m) ++ List.replicate (8 - i) z0)) ∧ Bk wr 63 p (B.mem m) ∧ Below w.heap.size w wr) (fun iv _ => n - (intOf iv).toNat)
  case atStart => exact ⟨0, Nat.zero_le _, rfl, HZ0.out, HM0.out, HB0.out⟩
  case round =>
    clear HZ0 HM0 HB0
    obtain ⟨i, hi, rfl, hz, hmm, hbb⟩ := hrel
    have HZ := Lib.hid hz
    have HM := Lib.hid hmm
    have HB := Lib.hid hbb
    clear hz hmm hbb
    by_cases hlt : i < n
    · have hlt' : (i : Int) < n := by omega
      have hi8 : (i : Int) < 8 := by omega
      go_wp2
      refine wp_region_L Ext [8] (by kernel_rfl) (fun wd hbd hsz => ?_)
      have HZD := Lib.hid (HZ.out.below hbd)
      have HMD := Lib.hid (HM.out.below hbd)
      have HBD := Lib.hid (HB.out.trans (hbd.mono HB.out.size))
      have hz6 := HZ.out.below hbd
      clear hsz
      (refine takeL Ext.tr 0 (by simp only [List.getElem?_toArray, List.getElem?_cons_succ, List.getElem?_cons_zero]; rfl) (by kernel_rfl) (by kernel_rfl) (by kernel_rfl) (by kernel_rfl) (by exact fun _ _ _ h => h) (by first | (refine Or.inl ⟨by rfl, ?_⟩; intro W hW; go_simp; try with_reducible rfl) | exact Or.inr ⟨by rfl, rfl⟩) ?_; try simp only [Act.put, List.setIfInBounds_toArray, List.set_cons_zero, List.set_cons_succ])
      (refine takeL Ext.tr 1 (by simp only [List.getElem?_toArray, List.getElem?_cons_succ, List.getElem?_cons_zero]; rfl) (by kernel_rfl) (by kernel_rfl) (by kernel_rfl) (by kernel_rfl) (by exact fun _ _ _ h => h) (by first | (refine Or.inl ⟨by rfl, ?_⟩; intro W hW; go_simp; try with_reducible rfl) | exact Or.inr ⟨by rfl, rfl⟩) ?_; try simp only [Act.put, List.setIfInBounds_toArray, List.set_cons_zero, List.set_cons_succ])
      (refine takeL Ext.tr 2 (by simp only [List.getElem?_toArray, List.getElem?_cons_succ, List.getElem?_cons_zero]; rfl) (by kernel_rfl) (by kernel_rfl) (by kernel_rfl) (by kernel_rfl) (by exact fun _ _ _ h => h) (by first | (refine Or.inl ⟨by rfl, ?_⟩; intro W hW; go_simp; try with_reducible rfl) | exact Or.inr ⟨by rfl, rfl⟩) ?_; try simp only [Act.put, List.setIfInBounds_toArray, List.set_cons_zero, List.set_cons_succ])
      (refine takeL Ext.tr 3 (by simp only [List.getElem?_toArray, List.getElem?_cons_succ, List.getElem?_cons_zero]; rfl) (by kernel_rfl) (by kernel_rfl) (by kernel_rfl) (by kernel_rfl) (by exact fun _ _ _ h => h) (by first | (refine Or.inl ⟨by rfl, ?_⟩; intro W hW; go_simp; try with_reducible rfl) | exact Or.inr ⟨by rfl, rfl⟩) ?_; try simp only [Act.put, List.setIfInBounds_toArray, List.set_cons_zero, List.set_cons_succ])
      (refine takeL Ext.tr 5 (by simp only [List.getElem?_toArray, List.getElem?_cons_succ, List.getElem?_cons_zero]; rfl) (by kernel_rfl) (by kernel_rfl) (by kernel_rfl) (by kernel_rfl) (by exact fun _ _ _ h => h) (by first | (refine Or.inl ⟨by rfl, ?_⟩; intro W hW; go_simp; try with_reducible rfl) | exact Or.inr ⟨by rfl, rfl⟩) ?_; try simp only [Act.put, List.setIfInBounds_toArray, List.set_cons_zero, List.set_cons_succ])
      (refine takeL Ext.tr 4 (by simp only [List.getElem?_toArray, List.getElem?_cons_succ, List.getElem?_cons_zero]; rfl) (by kernel_rfl) (by kernel_rfl) (by kernel_rfl) (by kernel_rfl) (by exact fun _ _ _ h => h) (by first | (refine Or.inl ⟨by rfl, ?_⟩; intro W hW; exact exec_load_bk rowT (.tmp 31) rfl p 0 rfl (HMD.out.below hW) (B.mem m) rfl HCUT.out) | exact Or.inr ⟨by rfl, rfl⟩) ?_; try simp only [Act.put, List.setIfInBounds_toArray, List.set_cons_zero, List.set_cons_succ])
      (refine takeL Ext.tr 6 (by simp only [List.getElem?_toArray, List.getElem?_cons_succ, List.getElem?_cons_zero]; rfl) (by kernel_rfl) (by kernel_rfl) (by kernel_rfl) (by kernel_rfl) (by exact fun _ _ _ h => h) (by first | (refine Or.inl ⟨by rfl, ?_⟩; intro W hW; go_simp; try with_reducible rfl) | exact Or.inr ⟨by rfl, rfl⟩) ?_; try simp only [Act.put, List.setIfInBounds_toArray, List.set_cons_zero, List.set_cons_succ])
      (refine takeL Ext.tr 7 (by simp only [List.getElem?_toArray, List.getElem?_cons_succ, List.getElem?_cons_zero]; rfl) (by kernel_rfl) (by kernel_rfl) (by kernel_rfl) (by kernel_rfl) (by exact fun _ _ _ h => h) (by first | (refine Or.inl ⟨by rfl, ?_⟩; intro W hW; go_simp; try with_reducible rfl) | exact Or.inr ⟨by rfl, rfl⟩) ?_; try simp only [Act.put, List.setIfInBounds_toArray, List.set_cons_zero, List.set_cons_succ])
      refine wpAnyL_one (i := 8) (by kernel_rfl) (by simp only [List.getElem?_toArray, List.getElem?_cons_succ, List.getElem?_cons_zero]; rfl) (fun K hK => ?_)
      refine opwp_store_bk rowT rfl (.tmp 35) (.tmp 32) rfl q (1 + i * 6) (by first | rfl | (simp only [Act.eval]; rfl)) hz6 (B.mem m) rfl rfl (by rw [alL_len, List.length_append, List.length_replicate, List.length_replicate]; omega) (B.mem_one m) ?_
      intro w6 hk6 hw6
      have HW6 := Lib.hid (And.intro hk6 hw6)
      clear hk6 hw6 hz6
      refine hK.out _ _ (.inl (by decide)) ?_
      clear hK K
      try simp only [Act.put, List.setIfInBounds_toArray, List.set_cons_zero, List.set_cons_succ]
      refine wpAnyL_done (by kernel_rfl) ?_ _
      skip
      have HF : Hid (Bk w6 68 q (alL n (List.replicate (i + 1) (B, m) ++ List.replicate (8 - (i + 1)) z0)) ∧ Bk w6 63 p (B.mem m) ∧ Below w.heap.size w w6) := Lib.hid (by
        obtain ⟨hk6, hw6⟩ := HW6.out
        refine ⟨?_, HMD.out.wr hw6 (by have := HPL.out; omega), HBD.out.trans (hw6.below HSZ.out HBD.out.size)⟩
        have h := lay_alL (hosts := n) (i := i) (qs := List.replicate i (B, m) ++ List.replicate (8 - i) z0) (by rw [List.length_append, List.length_replicate, List.length_replicate]; omega) (B, m)
        rw [set_next n i hlt h8] at h
        rw [← h]
        exact hk6)
      go_wp2
      go_roundw
      case rel => exact ⟨i + 1, by omega, by go_num, HF.out⟩
      case measure => simp [intOf]; omega
    · obtain rfl : i = n := by omega
      go_wp2
      go_ret2
      exact ⟨q, HSZ.out, rfl, by rw [← HE.out]; exact all_made h8 HO.out.1 HO.out.2 HZ.out, HB.out⟩
theorem a_newBad (n s : Int) (w : World) (h : n < 1 ∨ 8 < n ∨ s < 1 ∨ 64 < s) :
    Calls Try.prog 18 #[.int .i64 n, .int .i64 s] w fun e w' => e = .returned (.tuple #[.pointer none, .int .i64 200]) ∧ w = w' := by
  by_cases hn : n < 1 ∨ 8 < n
  · have hr : inR n 1 8 = false := decide_eq_false (by omega)
    go_enter Try.func18, Try.ntmps18
    go_wp2_with fail
    refine (from_any n 1 8 w).mono ?_
    rintro e w1 ⟨rfl, rfl⟩
    rw [hr]
    go_wp2
    go_ret2
    exact ⟨rfl, rfl⟩
  · have hr : inR n 1 8 = true := decide_eq_true (by omega)
    have hs : s < 1 ∨ 64 < s := by omega
    clear h hn
    go_enter Try.func18, Try.ntmps18
    go_wp2_with fail
    refine (from_any n 1 8 w).mono ?_
    rintro e w1 ⟨rfl, rfl⟩
    rw [hr]
    go_wp2_with fail
    refine (t_newBad s w hs).mono ?_
    rintro e w1 ⟨rfl, rfl⟩
    go_wp2
    go_ret2
    exact ⟨rfl, rfl⟩
end Go.Proofs.Ytopmfpdcdclffaa
