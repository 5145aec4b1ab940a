/- Scores in memory: the calls that turn one. -/
import Derived.Test.YtjoagkekbeogoaaS2
set_option linter.unusedSimpArgs false
set_option linter.unusedVariables false
namespace Go.Proofs.Ytjoagkekbeogoaa
open Go.RowKit Go.Shelf

/-- The score has become S', and all else is as it was. -/
structure Ds (p : Nat) (S' : Sc) (w w' : World) : Prop where
  sm : Sm w' p S'
  st : St (· = p) w w'
def Sc.add (S : Sc) (x : Int) (k : Nat) : Sc := if S.has x = true then S.cnt x.toNat k else S
theorem Sc.ok.add {S : Sc} {b : Int} (h : S.ok b) (x : Int) (k : Nat) : (S.add x k).ok (b + 1) := by
  unfold Sc.add
  split
  · exact h.cnt _ _
  · exact h.mono (by omega)
section
variable {w : World} {p : Nat} {S : Sc} {b : Int}
set_option maxRecDepth 100000 in
set_option maxHeartbeats 2000000 in
theorem sm_add (h : Sm w p S) (ho : S.ok b) (hb : b ≤ 100000) (x : Int) (k : Nat) (hk : k < 3) :
    Calls Try.prog 24 #[.pointer (some ⟨p, 0, none⟩), .int .i64 x, .int .i64 k] w fun e w' => e = .returned (.int .i64 (S.err x)) ∧ Ds p (S.add x k) w w' := by
  have h8 := ho.n8
  have h1 := ho.n1
  have H1 := Lib.hid h1
  by_cases hx : S.has x = true
  · have hx' : 0 ≤ x ∧ x < S.n := by simpa [Sc.has] using hx
    obtain ⟨q, rfl⟩ := Int.eq_ofNat_of_zero_le hx'.1
    have HE : Hid (S.err q = 0) := Lib.hid (by simp [Sc.err, hx])
    have HA : Hid (S.add q k = S.cnt q k) := Lib.hid (by simp [Sc.add, hx])
    have hq : (q : Int) < 8 := by omega
    have hk' : (k : Int) < 3 := by omega
    have HC : Hid (S.mem[2 + q * 3 + k]? = some (.int .i64 (S.c (q * 3 + k)))) := Lib.hid (by rw [Nat.add_assoc]; exact S.mem_c (by omega))
    have HS : Hid (S.mem.set (2 + q * 3 + k) (.int .i64 (S.c (q * 3 + k) + 1)) = (S.cnt q k).mem) := Lib.hid (by rw [Nat.add_assoc, Sc.mem_set_c _ (by omega)]; rfl)
    have hw : IntKind.i64.wrap (S.c (q * 3 + k) + 1) = S.c (q * 3 + k) + 1 := by have := ho.c0 (q * 3 + k); rw [IntKind.wrap_i64]; omega
    clear ho hb
    go_enter Try.func24, Try.ntmps24
    go_wp2_with (first
      | (go_at_call 28; refine (sm_made h H1.out).mono ?_; rintro e w' ⟨rfl, rfl⟩)
      | (go_at_call 31; refine (sm_has h H1.out _).mono ?_; rintro e w' ⟨rfl, rfl⟩; rw [hx]))
    refine wp_region_L Ext [13] (by kernel_rfl) (fun wd hbd hsz => ?_)
    have hbk := h.below hbd
    have q0 : ∀ W, Ext wd W → W.cell? ⟨p, 2 + q * 3 + k, none⟩ = some (.int .i64 (S.c (q * 3 + k))) := fun W hW => (hbk.below hW).cell (2 + q * 3 + k) HC.out
    have f0 := hbk.free (2 + q * 3 + k)
    have c0 := hbk.cell (2 + q * 3 + k) HC.out
    have HB2 := Lib.hid hbd
    have HK := Lib.hid (hbk.set (2 + q * 3 + k) (.int .i64 (S.c (q * 3 + k) + 1)))
    clear hsz
    (refine takeL Ext.tr 0 (by simp only [List.getElem?_toArray, List.getElem?_cons_succ, List.getElem?_cons_zero]; rfl) (by kernel_rfl) (by kernel_rfl) (by kernel_rfl) (by kernel_rfl) (by exact fun _ _ _ h => h) (by first | (refine Or.inl ⟨by rfl, ?_⟩; intro W hW; go_simp; try with_reducible rfl) | exact Or.inr ⟨by rfl, rfl⟩) ?_; try simp only [Act.put, List.setIfInBounds_toArray, List.set_cons_zero, List.set_cons_succ])
    (refine takeL Ext.tr 1 (by simp only [List.getElem?_toArray, List.getElem?_cons_succ, List.getElem?_cons_zero]; rfl) (by kernel_rfl) (by kernel_rfl) (by kernel_rfl) (by kernel_rfl) (by exact fun _ _ _ h => h) (by first | (refine Or.inl ⟨by rfl, ?_⟩; intro W hW; go_simp; try with_reducible rfl) | exact Or.inr ⟨by rfl, rfl⟩) ?_; try simp only [Act.put, List.setIfInBounds_toArray, List.set_cons_zero, List.set_cons_succ])
    (refine takeL Ext.tr 2 (by simp only [List.getElem?_toArray, List.getElem?_cons_succ, List.getElem?_cons_zero]; rfl) (by kernel_rfl) (by kernel_rfl) (by kernel_rfl) (by kernel_rfl) (by exact fun _ _ _ h => h) (by first | (refine Or.inl ⟨by rfl, ?_⟩; intro W hW; go_simp; try with_reducible rfl) | exact Or.inr ⟨by rfl, rfl⟩) ?_; try simp only [Act.put, List.setIfInBounds_toArray, List.set_cons_zero, List.set_cons_succ])
    (refine takeL Ext.tr 3 (by simp only [List.getElem?_toArray, List.getElem?_cons_succ, List.getElem?_cons_zero]; rfl) (by kernel_rfl) (by kernel_rfl) (by kernel_rfl) (by kernel_rfl) (by exact fun _ _ _ h => h) (by first | (refine Or.inl ⟨by rfl, ?_⟩; intro W hW; go_simp; try with_reducible rfl) | exact Or.inr ⟨by rfl, rfl⟩) ?_; try simp only [Act.put, List.setIfInBounds_toArray, List.set_cons_zero, List.set_cons_succ])
    (refine takeL Ext.tr 9 (by simp only [List.getElem?_toArray, List.getElem?_cons_succ, List.getElem?_cons_zero]; rfl) (by kernel_rfl) (by kernel_rfl) (by kernel_rfl) (by kernel_rfl) (by exact fun _ _ _ h => h) (by first | (refine Or.inl ⟨by rfl, ?_⟩; intro W hW; go_simp; try with_reducible rfl) | exact Or.inr ⟨by rfl, rfl⟩) ?_; try simp only [Act.put, List.setIfInBounds_toArray, List.set_cons_zero, List.set_cons_succ])
    (refine takeL Ext.tr 4 (by simp only [List.getElem?_toArray, List.getElem?_cons_succ, List.getElem?_cons_zero]; rfl) (by kernel_rfl) (by kernel_rfl) (by kernel_rfl) (by kernel_rfl) (by exact fun _ _ _ h => h) (by first | (refine Or.inl ⟨by rfl, ?_⟩; intro W hW; go_simp; try with_reducible rfl) | exact Or.inr ⟨by rfl, rfl⟩) ?_; try simp only [Act.put, List.setIfInBounds_toArray, List.set_cons_zero, List.set_cons_succ])
    (refine takeL Ext.tr 10 (by simp only [List.getElem?_toArray, List.getElem?_cons_succ, List.getElem?_cons_zero]; rfl) (by kernel_rfl) (by kernel_rfl) (by kernel_rfl) (by kernel_rfl) (by exact fun _ _ _ h => h) (by first | (refine Or.inl ⟨by rfl, ?_⟩; intro W hW; go_simp; try with_reducible rfl) | exact Or.inr ⟨by rfl, rfl⟩) ?_; try simp only [Act.put, List.setIfInBounds_toArray, List.set_cons_zero, List.set_cons_succ])
    (refine takeL Ext.tr 5 (by simp only [List.getElem?_toArray, List.getElem?_cons_succ, List.getElem?_cons_zero]; rfl) (by kernel_rfl) (by kernel_rfl) (by kernel_rfl) (by kernel_rfl) (by exact fun _ _ _ h => h) (by first | (refine Or.inl ⟨by rfl, ?_⟩; intro W hW; go_simp; try with_reducible rfl) | exact Or.inr ⟨by rfl, rfl⟩) ?_; try simp only [Act.put, List.setIfInBounds_toArray, List.set_cons_zero, List.set_cons_succ])
    (refine takeL Ext.tr 11 (by simp only [List.getElem?_toArray, List.getElem?_cons_succ, List.getElem?_cons_zero]; rfl) (by kernel_rfl) (by kernel_rfl) (by kernel_rfl) (by kernel_rfl) (by exact fun _ _ _ h => h) (by first | (refine Or.inl ⟨by rfl, ?_⟩; intro W hW; go_simp; try with_reducible rfl) | exact Or.inr ⟨by rfl, rfl⟩) ?_; try simp only [Act.put, List.setIfInBounds_toArray, List.set_cons_zero, List.set_cons_succ])
    (refine takeL Ext.tr 6 (by simp only [List.getElem?_toArray, List.getElem?_cons_succ, List.getElem?_cons_zero]; rfl) (by kernel_rfl) (by kernel_rfl) (by kernel_rfl) (by kernel_rfl) (by exact fun _ _ _ h => h) (by first | (refine Or.inl ⟨by rfl, ?_⟩; intro W hW; go_simp; try with_reducible rfl) | exact Or.inr ⟨by rfl, rfl⟩) ?_; try simp only [Act.put, List.setIfInBounds_toArray, List.set_cons_zero, List.set_cons_succ])
    (refine takeL Ext.tr 7 (by simp only [List.getElem?_toArray, List.getElem?_cons_succ, List.getElem?_cons_zero]; rfl) (by kernel_rfl) (by kernel_rfl) (by kernel_rfl) (by kernel_rfl) (by exact fun _ _ _ h => h) (by first | (refine Or.inl ⟨by rfl, ?_⟩; intro W hW; go_simp; try with_reducible rfl) | exact Or.inr ⟨by rfl, rfl⟩) ?_; try simp only [Act.put, List.setIfInBounds_toArray, List.set_cons_zero, List.set_cons_succ])
    (refine takeL Ext.tr 8 (by simp only [List.getElem?_toArray, List.getElem?_cons_succ, List.getElem?_cons_zero]; rfl) (by kernel_rfl) (by kernel_rfl) (by kernel_rfl) (by kernel_rfl) (by exact fun _ _ _ h => h) (by first | (refine Or.inl ⟨by rfl, ?_⟩; intro W hW; go_simp; try with_reducible rfl) | exact Or.inr ⟨by rfl, rfl⟩) ?_; try simp only [Act.put, List.setIfInBounds_toArray, List.set_cons_zero, List.set_cons_succ])
    (refine takeL Ext.tr 12 (by simp only [List.getElem?_toArray, List.getElem?_cons_succ, List.getElem?_cons_zero]; rfl) (by kernel_rfl) (by kernel_rfl) (by kernel_rfl) (by kernel_rfl) (by exact fun _ _ _ h => h) (by first | (refine Or.inl ⟨by rfl, ?_⟩; intro W hW; go_simp; try with_reducible rfl) | exact Or.inr ⟨by rfl, rfl⟩) ?_; try simp only [Act.put, List.setIfInBounds_toArray, List.set_cons_zero, List.set_cons_succ])
    refine wpAnyL_one (i := 13) (by kernel_rfl) (by simp only [List.getElem?_toArray, List.getElem?_cons_succ, List.getElem?_cons_zero]; rfl) (fun K hK => ?_)
    go_simp
    refine hK.out _ _ (.inl (by decide)) ?_
    clear hK K
    try simp only [Act.put, List.setIfInBounds_toArray, List.set_cons_zero, List.set_cons_succ]
    refine wpAnyL_done (by kernel_rfl) ?_ _
    skip
    go_wp2
    go_ret
    refine ⟨by rw [HE.out]; rfl, ?_, ((St.ext HB2.out).trans (St.setCell (F := (· = p)) _ (a := ⟨p, 2 + q * 3 + k, none⟩) rfl _) (Gr.refl _ _))⟩
    rw [HA.out]
    have := HK.out
    rw [HS.out] at this
    exact this
  · have hx' : S.has x = false := by simpa using hx
    have HE : Hid (S.err x = 5) := Lib.hid (by simp [Sc.err, hx])
    have HA : Hid (S.add x k = S) := Lib.hid (by simp [Sc.add, hx])
    go_enter Try.func24, Try.ntmps24
    go_wp2_with (first
      | (go_at_call 28; refine (sm_made h H1.out).mono ?_; rintro e w' ⟨rfl, rfl⟩)
      | (go_at_call 31; refine (sm_has h H1.out _).mono ?_; rintro e w' ⟨rfl, rfl⟩; rw [hx']))
    go_ret
    exact ⟨by rw [HE.out]; rfl, by rw [HA.out]; exact h, St.refl _ _⟩
theorem sm_ack (h : Sm w p S) (ho : S.ok b) (hb : b ≤ 100000) (x : Int) :
    Calls Try.prog 9 #[.pointer (some ⟨p, 0, none⟩), .int .i64 x] w fun e w' => e = .returned (.int .i64 (S.err x)) ∧ Ds p (S.did x 0) w w' := by
  go_enter Try.func9, Try.ntmps9
  go_wp2_with (go_at_call 24; refine (sm_add h ho hb x 0 (by decide)).mono ?_; rintro e w' ⟨rfl, hd⟩)
  go_ret
  exact ⟨rfl, hd⟩
theorem bad_any (S : Sc) (q : Nat) (hb : ∀ j, 0 ≤ S.c j ∧ S.c j ≤ 1000000) (w : World) :
    Calls Try.prog 35 #[.agg (tabV 3 (fun i => S.c (q * 3 + i))).toArray] w fun e w' => e = .returned (.bool (S.bad q)) ∧ Below w.heap.size w w' := by
  have h0 := hb (q * 3)
  have h1 := hb (q * 3 + 1)
  have h2 := hb (q * 3 + 2)
  have e : tabV 3 (fun i => S.c (q * 3 + i)) = [.int .i64 (S.c (q * 3)), .int .i64 (S.c (q * 3 + 1)), .int .i64 (S.c (q * 3 + 2))] := rfl
  have hB : S.bad q = decide (S.c (q * 3) + 4 < S.c (q * 3 + 1) + 2 * S.c (q * 3 + 2)) := rfl
  rw [e, hB]
  generalize S.c (q * 3) = x0 at *
  generalize S.c (q * 3 + 1) = x1 at *
  generalize S.c (q * 3 + 2) = x2 at *
  clear e hB hb
  go_enter Try.func35, Try.ntmps35
  go_wp2
  go_ret
  exact ⟨rfl, (Below.refl _ _).alloc (Nat.le_refl _) _⟩
theorem sm_new (n rest : Int) (w : World) (h1 : 1 ≤ n) (h8 : n ≤ 8) (h0 : 0 ≤ rest) (hr : rest ≤ 1048576) :
    Calls Try.prog 6 #[.int .i64 n, .int .i64 rest] w fun e w' => e = .returned (.tuple #[.pointer (some ⟨w.heap.size, 0, none⟩), .int .i64 0]) ∧ Sm w' w.heap.size (Sc.new n.toNat rest) ∧ Below w.heap.size w w' := by
  obtain ⟨m, rfl⟩ := Int.eq_ofNat_of_zero_le (show 0 ≤ n by omega)
  have hm : (Sc.new m rest).mem = .int .i64 m :: .int .i64 rest :: List.replicate 32 (.int .i64 0) := by
    unfold Sc.mem
    refine (tabV_ext (by simp) fun i hi => ?_).symm
    match i, hi with
    | 0, _ => rfl
    | 1, _ => rfl
    | i + 2, hi =>
      rw [List.getElem?_cons_succ, List.getElem?_cons_succ, List.getElem?_replicate, if_pos (by omega)]
      congr 2
      unfold Sc.cell
      rw [if_neg (by omega), if_neg (by omega)]
      split <;> rfl
  have hb := Bk.new w 53 (Sc.new m rest).mem
  rw [Int.toNat_natCast]
  have HM := Lib.hid hm
  have HB := Lib.hid hb
  clear hb hm
  go_enter Try.func6, Try.ntmps6
  go_wp2
  go_ret2
  refine ⟨rfl, ?_, (Below.refl _ _).alloc (Nat.le_refl _) _⟩
  have := HB.out
  rw [HM.out] at this
  unfold Sm
  rw [HM.out]
  exact this
theorem sm_new_bad (n rest : Int) (w : World) (h : n < 1 ∨ 8 < n ∨ rest < 0 ∨ 1048576 < rest) :
    Calls Try.prog 6 #[.int .i64 n, .int .i64 rest] w fun e w' => e = .returned (.tuple #[.pointer none, .int .i64 70]) ∧ w = w' := by
  rcases (by omega : n < 1 ∨ 1 ≤ n ∧ 8 < n ∨ 1 ≤ n ∧ n ≤ 8 ∧ rest < 0 ∨ 1 ≤ n ∧ n ≤ 8 ∧ 0 ≤ rest ∧ 1048576 < rest) with h0 | ⟨h0, h1⟩ | ⟨h0, h1, h2⟩ | ⟨h0, h1, h2, h3⟩
  all_goals
    clear h
    go_enter Try.func6, Try.ntmps6
    go_wp2
    go_ret2
    exact ⟨rfl, rfl⟩
theorem sm_fork (h : Sm w p S) (ho : 1 ≤ S.n) :
    Calls Try.prog 18 #[.pointer (some ⟨p, 0, none⟩)] w fun e w' => e = .returned (.pointer (some ⟨w.heap.size, 0, none⟩)) ∧ Sm w' w.heap.size S ∧ Below w.heap.size w w' := by
  have hz := Bk.new w 53 (tabV 34 (fun _ => 0))
  go_enter Try.func18, Try.ntmps18
  go_wp2_with (first
    | (go_at_call 28; refine (sm_made h ho).mono ?_; rintro e w' ⟨rfl, rfl⟩)
    | (refine at_load 53 (.tmp 8) (by rfl) ?_; refine wpList_load_bk rowS rfl (.tmp 8) rfl p 0 rfl h S.mem S.mem_len (List.take_of_length_le (by simp)) ?_)
    | (refine at_store 53 (.tmp 3) (.tmp 9) (by rfl) ?_; refine wpList_store_bk rowS rfl (.tmp 3) (.tmp 9) rfl w.heap.size 0 rfl hz S.mem rfl S.mem_len (by rw [tabV_len]; decide) S.mem_one ?_; rintro w5 hr5 hw5))
  rw [lay_all _ _ (by rw [tabV_len, S.mem_len])] at hr5
  go_ret
  exact ⟨rfl, hr5, ((Below.refl _ _).alloc (Nat.le_refl _) _).trans (hw5.below (Nat.le_refl _) (by simp))⟩
end
end Go.Proofs.Ytjoagkekbeogoaa
