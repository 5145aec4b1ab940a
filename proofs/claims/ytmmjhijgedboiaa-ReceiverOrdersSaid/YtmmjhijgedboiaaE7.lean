/- A packet is kept. -/
import Derived.Test.YtmmjhijgedboiaaE6
set_option linter.unusedSimpArgs false
set_option linter.unusedVariables false
set_option maxRecDepth 100000
namespace Go.Proofs.Ytmmjhijgedboiaa
open Go.RowKit Go.Shelf
section
variable {P : Program} {w : World} {ops : Array Oper} {o : Oper} {a : Act} {K : Act → World → Prop} {Q : Exit → Act → World → Prop} {b : Nat} {L : List Pe}
theorem opwp_store_new (hg : o.guard = none) (m x v : Operand) (hop : o.op = Op.mapUpdate 86 m x v) (hm : a.eval m = .map (some b)) (h : MpI w b L) (y : Pe) (hx : a.eval x = .int .i64 y.k) (hl : Lacks L y.k) (hv : a.eval v = .agg #[.slice y.A y.n y.c, .bool y.en, .bool y.fi])
    (hK : ∀ w', MpI w' b (L ++ [y]) → St (· = b) w w' → K (a.put o.dst undef) w') : if Region.wanted o (yielded ops a.tmps) = true then Oper.wp Try.prog o a w K Q else K (a.put o.dst undef) w := by
  obtain ⟨w', hrun, r1, r2⟩ := store_new h hl
  rw [if_pos (by simp only [Region.wanted, hg])]
  unfold Oper.wp
  simp [execOp, hop, hm, hx, hv, hrun, Result.andThen]
  exact hK w' r1 r2
end
section
variable {F FJ FP FP' : Nat → Prop} {w w' : World} {e r pb g : Nat} {mb : Option Nat} {m m' : Rm} {jm : Jm}
theorem Ent.add {L : List Pe} {ks : List Pk} (h : Ent FP w L ks) {y : Pe} {p : Pk} (hy : y.mt p) (hl : Lacks L y.k) (hb : BsR w y.A y.n y.c y.xs) (hF : ∀ k, FP k → FP' k) (hN : ∀ k, BlkOf y.A k → FP' k) : Ent FP' w (L ++ [y]) (insK p ks) := by
  refine ⟨?_, fun x hx => ?_, fun q hq => ?_⟩
  · rw [List.map_append]
    refine List.nodup_append.2 ⟨h.1, by simp, ?_⟩
    rintro a ha b hb rfl
    obtain ⟨x, hx, rfl⟩ := List.mem_map.1 ha
    simp only [List.map_cons, List.map_nil, List.mem_singleton] at hb
    exact hl x hx hb
  · rcases List.mem_append.1 hx with hx | hx
    · obtain ⟨⟨q, hq, hm⟩, h2, h3⟩ := h.2.1 x hx
      exact ⟨⟨q, mem_insK.2 (.inr hq), hm⟩, h2, fun k hk => hF k (h3 k hk)⟩
    · rw [List.mem_singleton.1 hx]
      exact ⟨⟨p, mem_insK.2 (.inl rfl), hy⟩, hb, hN⟩
  · rcases mem_insK.1 hq with rfl | hq
    · exact ⟨y, by simp, hy⟩
    · obtain ⟨x, hx, hm⟩ := h.2.2 q hq
      exact ⟨x, by simp [hx], hm⟩
theorem Ent.lacks {L : List Pe} {ks : List Pk} (h : Ent FP w L ks) {n : Nat} (hn : ∀ p ∈ ks, p.h.sq ≠ n) : Lacks L n := fun x hx hk => by
  obtain ⟨⟨p, hp, hm⟩, _⟩ := h.2.1 x hx
  exact hn p hp (by rw [hm.1, hk])
def Rm.kept (m : Rm) (p : Pk) : Rm := { m with ks := insK p m.ks }
theorem Rm.set_kept {m : Rm} {p : Pk} {n : Nat} (hn : p.h.sq = n) (h1 : m.base ≤ n) (h2 : n < m.base + m.size) (h3 : n ≤ 1152921504606846976) (h4 : ∀ q ∈ m.ks, q.h.sq ≠ n) : m.bm.set n = (m.kept p).bm := by
  have hs : hasK m.ks n = false := by
    cases h : hasK m.ks n with
    | false => rfl
    | true => obtain ⟨q, hq, hn⟩ := hasK_iff.1 h; exact absurd hn (h4 q hq)
  have hf : m.bm.fresh n = true := by
    unfold Bm.fresh Bm.reach Bm.has
    rw [Int.toNat_natCast, decide_eq_true (show (0 : Int) ≤ (n : Int) ∧ (n : Int) < (m.bm.base : Int) + m.bm.size ∧ (n : Int) ≤ 1152921504606846976 from ⟨by omega, by show (n : Int) < (m.base : Int) + m.size; omega, by omega⟩), decide_eq_true (show (0 : Int) ≤ (n : Int) by omega), decide_eq_false (show ¬ (n : Int) < (m.bm.base : Int) from by show ¬ (n : Int) < (m.base : Int); omega), show m.bm.s n = false from hs]
    rfl
  unfold Bm.set
  rw [if_pos hf, Int.toNat_natCast]
  unfold Bm.put Rm.bm Rm.kept
  congr 1
  funext i
  by_cases hi : i = n
  · subst hi
    rw [decide_eq_true rfl]
    exact (hasK_iff.2 ⟨p, mem_insK.2 (.inl rfl), hn⟩).symm
  · rw [decide_eq_false hi, Bool.false_or]
    show hasK m.ks i = hasK (insK p m.ks) i
    cases h : hasK m.ks i with
    | true =>
      obtain ⟨q, hq, hn'⟩ := hasK_iff.1 h
      exact (hasK_iff.2 ⟨q, mem_insK.2 (.inr hq), hn'⟩).symm
    | false =>
      cases h' : hasK (insK p m.ks) i with
      | false => rfl
      | true =>
        obtain ⟨q, hq, hn'⟩ := hasK_iff.1 h'
        rcases mem_insK.1 hq with rfl | hq
        · omega
        · rw [hasK_iff.2 ⟨q, hq, hn'⟩] at h; cases h
set_option maxHeartbeats 8000000 in
theorem e_keep (h : EnC F w e m) (hd : m.dn = false) (q : Pv) (hq : PvR F w q) (n : Nat) (hn : q.h.sq = n) (h1 : m.base ≤ n) (h2 : n < m.base + m.size) (h3 : n ≤ 1152921504606846976) (h4 : ∀ p ∈ m.ks, p.h.sq ≠ n) :
    Calls Try.prog 39 #[.pointer (some ⟨e, 0, none⟩), .agg #[.int .i64 q.h.kd, .int .i64 q.h.fl, .int .i64 q.h.pa, .int .i64 q.h.sr, .int .i64 q.h.ds, .int .i64 q.h.cn, .int .i64 q.h.sq, .int .i64 q.h.pu, .slice q.A q.n q.c]] w fun en w' => (∃ v, en = .returned v) ∧ DidE F w e (m.kept q.pk) w' := by
  obtain ⟨hr, hl0, hf, hoff⟩ := hq
  have hl : q.n ≤ 65536 := by omega
  obtain ⟨pb, mb, g, FJ, FP, jm, h⟩ := h
  obtain ⟨hjm, b, rfl⟩ := h.jd hd
  have hb1 : Below w.heap.size w (w.alloc (.cells #[.int .i64 q.h.kd, .int .i64 q.h.fl, .int .i64 q.h.pa, .int .i64 q.h.sr, .int .i64 q.h.ds, .int .i64 q.h.cn, .int .i64 q.h.sq, .int .i64 q.h.pu, .slice q.A q.n q.c] 40)) := (Below.refl _ w).alloc (Nat.le_refl _) _
  obtain ⟨L, hL, hE⟩ := h.mp b rfl
  have HLK := Lib.hid (hE.lacks h4)
  have HSET := Lib.hid (Rm.set_kept (m := m) (p := q.pk) hn h1 h2 h3 h4)
  have HX := Lib.hid h
  have HL := Lib.hid hL
  have HE := Lib.hid hE
  have HR := Lib.hid hr
  have HOF := Lib.hid (fun hn ad he (hk : ad.block = pb) => hoff hn ad he (hk ▸ h.fb))
  have HB := Lib.hid hb1
  have HZ := Lib.hid (Bk.new w 40 q.cl)
  have hel := h.bk.lt
  have hpl := h.bm.lt
  have hpe := h.pb_ne
  obtain ⟨hbe, hbp⟩ := h.mb_ne b rfl
  have hbl := hL.lt
  have HN := Lib.hid hn
  clear h hb1 hL hE hr hoff h4 h1 h2 h3 hn
  go_enter Try.func39, Try.ntmps39
  go_wp2_with fail
  refine wp_region_E (St (· = pb)) (by kernel_rfl) (fun wd hbd hsz => ?_)
  have HBD := Lib.hid (HB.out.trans (hbd.mono HB.out.size))
  have q1 : ∀ V, St (· = pb) wd V → V.cell? ⟨e, 0, none⟩ = some (.pointer (some ⟨pb, 0, none⟩)) := fun V hV => ((HX.out.bk.below HBD.out).st hV (Ne.symm hpe)).cell 0 rfl
  have HZD := Lib.hid (HZ.out.below hbd)
  have hwd : w.heap.size < wd.heap.size := by have := hbd.size; simp at this; omega
  have q2 : ∀ V, St (· = pb) wd V → V.cell? ⟨w.heap.size, 6, none⟩ = some (.int .i64 q.h.sq) := fun V hV => (HZD.out.st hV (by omega)).cell 6 rfl
  have HBM := Lib.hid (HX.out.bm.below HBD.out)
  clear hsz
  (refine takeE (St.tr (· = pb)) 0 (by simp only [List.getElem?_toArray, List.getElem?_cons_succ, List.getElem?_cons_zero]; rfl) (by kernel_rfl) (by kernel_rfl) (by kernel_rfl) (by exact fun _ _ _ h => h) (by first | (refine Or.inl ⟨by rfl, ?_⟩; intro W hW; go_simp; try with_reducible rfl) | exact Or.inr ⟨by rfl, rfl⟩) ?_; try simp only [Act.put, List.setIfInBounds_toArray, List.set_cons_zero, List.set_cons_succ])
  (refine takeE (St.tr (· = pb)) 4 (by simp only [List.getElem?_toArray, List.getElem?_cons_succ, List.getElem?_cons_zero]; rfl) (by kernel_rfl) (by kernel_rfl) (by kernel_rfl) (by exact fun _ _ _ h => h) (by first | (refine Or.inl ⟨by rfl, ?_⟩; intro W hW; go_simp; try with_reducible rfl) | exact Or.inr ⟨by rfl, rfl⟩) ?_; try simp only [Act.put, List.setIfInBounds_toArray, List.set_cons_zero, List.set_cons_succ])
  (refine takeE (St.tr (· = pb)) 1 (by simp only [List.getElem?_toArray, List.getElem?_cons_succ, List.getElem?_cons_zero]; rfl) (by kernel_rfl) (by kernel_rfl) (by kernel_rfl) (by exact fun _ _ _ h => h) (by first | (refine Or.inl ⟨by rfl, ?_⟩; intro W hW; go_simp; try with_reducible rfl) | exact Or.inr ⟨by rfl, rfl⟩) ?_; try simp only [Act.put, List.setIfInBounds_toArray, List.set_cons_zero, List.set_cons_succ])
  (refine takeE (St.tr (· = pb)) 5 (by simp only [List.getElem?_toArray, List.getElem?_cons_succ, List.getElem?_cons_zero]; rfl) (by kernel_rfl) (by kernel_rfl) (by kernel_rfl) (by exact fun _ _ _ h => h) (by first | (refine Or.inl ⟨by rfl, ?_⟩; intro W hW; go_simp; try with_reducible rfl) | exact Or.inr ⟨by rfl, rfl⟩) ?_; try simp only [Act.put, List.setIfInBounds_toArray, List.set_cons_zero, List.set_cons_succ])
  (refine takeE (St.tr (· = pb)) 2 (by simp only [List.getElem?_toArray, List.getElem?_cons_succ, List.getElem?_cons_zero]; rfl) (by kernel_rfl) (by kernel_rfl) (by kernel_rfl) (by exact fun _ _ _ h => h) (by first | (refine Or.inl ⟨by rfl, ?_⟩; intro W hW; go_simp; try with_reducible rfl) | exact Or.inr ⟨by rfl, rfl⟩) ?_; try simp only [Act.put, List.setIfInBounds_toArray, List.set_cons_zero, List.set_cons_succ])
  (refine takeE (St.tr (· = pb)) 3 (by simp only [List.getElem?_toArray, List.getElem?_cons_succ, List.getElem?_cons_zero]; rfl) (by kernel_rfl) (by kernel_rfl) (by kernel_rfl) (by exact fun _ _ _ h => h) (by first | (refine Or.inl ⟨by rfl, ?_⟩; intro W hW; go_simp; try with_reducible rfl) | exact Or.inr ⟨by rfl, rfl⟩) ?_; try simp only [Act.put, List.setIfInBounds_toArray, List.set_cons_zero, List.set_cons_succ])
  refine wpAnyE_one (i := 6) (by kernel_rfl) (by simp only [List.getElem?_toArray, List.getElem?_cons_succ, List.getElem?_cons_zero]; rfl) (fun K hK => ?_)
  go_simp
  have hset := b_set HBM.out q.h.sq
  refine hset.mono ?_
  rintro en w1 ⟨rfl, hbd1⟩
  have HB1 : Hid (Bmp w1 pb (m.kept q.pk).bm) := Lib.hid (by rw [← HSET.out, ← HN.out]; exact hbd1.bm)
  have HS1 := Lib.hid hbd1.st
  clear hset hbd1
  refine hK.out _ _ HS1.out ?_
  clear hK K
  try simp only [Act.put, List.setIfInBounds_toArray, List.set_cons_zero, List.set_cons_succ]
  refine wpAnyE_done (by kernel_rfl) ?_ _
  clear q1 q2
  have HW1 : Hid (St F w w1) := Lib.hid ((St.ext HBD.out).trans (HS1.out.mono fun k _ hk => hk ▸ HX.out.fb) (Gr.refl _ _))
  have HK1 := Lib.hid ((HX.out.bk.below HBD.out).st HS1.out (Ne.symm hpe))
  have HL1 := Lib.hid ((HL.out.below HBD.out).st HS1.out hbp)
  have HE1 := Lib.hid ((HE.out.below HBD.out).st HS1.out (fun k hk he => HX.out.ep.2.1 (he ▸ hk)))
  have HJ1 := Lib.hid ((HX.out.jn.below HBD.out).st HS1.out (fun k hk he => HX.out.ej.2.1 (he ▸ hk)))
  have HZ1 := Lib.hid (HZD.out.st HS1.out (by omega))
  have HR1 := Lib.hid ((HR.out.below HBD.out).st HS1.out HOF.out)
  have hw1 : w.heap.size < w1.heap.size := by have := HS1.out.size; omega
  clear HZ HB HS1 HZD HBM hbd HBD
  go_wp2_with fail
  refine wp_region_E (St (· = b)) (by kernel_rfl) (fun wd hbd hsz => ?_)
  have HBD := Lib.hid hbd
  have hwb : w.heap.size ≠ b := by omega
  have q1 : ∀ V, St (· = b) wd V → V.cell? ⟨e, 16, none⟩ = some (.map (some b)) := fun V hV => ((HK1.out.below hbd).st hV (Ne.symm hbe)).cell 16 rfl
  have q2 : ∀ V, St (· = b) wd V → V.cell? ⟨w.heap.size, 6, none⟩ = some (.int .i64 q.h.sq) := fun V hV => ((HZ1.out.below hbd).st hV hwb).cell 6 rfl
  have q3 : ∀ V, St (· = b) wd V → V.cell? ⟨w.heap.size, 8, none⟩ = some (.slice q.A q.n q.c) := fun V hV => ((HZ1.out.below hbd).st hV hwb).cell 8 rfl
  have q4 : ∀ V, St (· = b) wd V → V.cell? ⟨w.heap.size, 1, none⟩ = some (.int .i64 q.h.fl) := fun V hV => ((HZ1.out.below hbd).st hV hwb).cell 1 rfl
  clear hsz
  (refine takeE (St.tr (· = b)) 0 (by simp only [List.getElem?_toArray, List.getElem?_cons_succ, List.getElem?_cons_zero]; rfl) (by kernel_rfl) (by kernel_rfl) (by kernel_rfl) (by exact fun _ _ _ h => h) (by first | (refine Or.inl ⟨by rfl, ?_⟩; intro W hW; go_simp; try with_reducible rfl) | exact Or.inr ⟨by rfl, rfl⟩) ?_; try simp only [Act.put, List.setIfInBounds_toArray, List.set_cons_zero, List.set_cons_succ])
  (refine takeE (St.tr (· = b)) 4 (by simp only [List.getElem?_toArray, List.getElem?_cons_succ, List.getElem?_cons_zero]; rfl) (by kernel_rfl) (by kernel_rfl) (by kernel_rfl) (by exact fun _ _ _ h => h) (by first | (refine Or.inl ⟨by rfl, ?_⟩; intro W hW; go_simp; try with_reducible rfl) | exact Or.inr ⟨by rfl, rfl⟩) ?_; try simp only [Act.put, List.setIfInBounds_toArray, List.set_cons_zero, List.set_cons_succ])
  (refine takeE (St.tr (· = b)) 6 (by simp only [List.getElem?_toArray, List.getElem?_cons_succ, List.getElem?_cons_zero]; rfl) (by kernel_rfl) (by kernel_rfl) (by kernel_rfl) (by exact fun _ _ _ h => h) (by first | (refine Or.inl ⟨by rfl, ?_⟩; intro W hW; go_simp; try with_reducible rfl) | exact Or.inr ⟨by rfl, rfl⟩) ?_; try simp only [Act.put, List.setIfInBounds_toArray, List.set_cons_zero, List.set_cons_succ])
  (refine takeE (St.tr (· = b)) 9 (by simp only [List.getElem?_toArray, List.getElem?_cons_succ, List.getElem?_cons_zero]; rfl) (by kernel_rfl) (by kernel_rfl) (by kernel_rfl) (by exact fun _ _ _ h => h) (by first | (refine Or.inl ⟨by rfl, ?_⟩; intro W hW; go_simp; try with_reducible rfl) | exact Or.inr ⟨by rfl, rfl⟩) ?_; try simp only [Act.put, List.setIfInBounds_toArray, List.set_cons_zero, List.set_cons_succ])
  (refine takeE (St.tr (· = b)) 12 (by simp only [List.getElem?_toArray, List.getElem?_cons_succ, List.getElem?_cons_zero]; rfl) (by kernel_rfl) (by kernel_rfl) (by kernel_rfl) (by exact fun _ _ _ h => h) (by first | (refine Or.inl ⟨by rfl, ?_⟩; intro W hW; go_simp; try with_reducible rfl) | exact Or.inr ⟨by rfl, rfl⟩) ?_; try simp only [Act.put, List.setIfInBounds_toArray, List.set_cons_zero, List.set_cons_succ])
  (refine takeE (St.tr (· = b)) 1 (by simp only [List.getElem?_toArray, List.getElem?_cons_succ, List.getElem?_cons_zero]; rfl) (by kernel_rfl) (by kernel_rfl) (by kernel_rfl) (by exact fun _ _ _ h => h) (by first | (refine Or.inl ⟨by rfl, ?_⟩; intro W hW; go_simp; try with_reducible rfl) | exact Or.inr ⟨by rfl, rfl⟩) ?_; try simp only [Act.put, List.setIfInBounds_toArray, List.set_cons_zero, List.set_cons_succ])
  (refine takeE (St.tr (· = b)) 5 (by simp only [List.getElem?_toArray, List.getElem?_cons_succ, List.getElem?_cons_zero]; rfl) (by kernel_rfl) (by kernel_rfl) (by kernel_rfl) (by exact fun _ _ _ h => h) (by first | (refine Or.inl ⟨by rfl, ?_⟩; intro W hW; go_simp; try with_reducible rfl) | exact Or.inr ⟨by rfl, rfl⟩) ?_; try simp only [Act.put, List.setIfInBounds_toArray, List.set_cons_zero, List.set_cons_succ])
  (refine takeE (St.tr (· = b)) 7 (by simp only [List.getElem?_toArray, List.getElem?_cons_succ, List.getElem?_cons_zero]; rfl) (by kernel_rfl) (by kernel_rfl) (by kernel_rfl) (by exact fun _ _ _ h => h) (by first | (refine Or.inl ⟨by rfl, ?_⟩; intro W hW; go_simp; try with_reducible rfl) | exact Or.inr ⟨by rfl, rfl⟩) ?_; try simp only [Act.put, List.setIfInBounds_toArray, List.set_cons_zero, List.set_cons_succ])
  (refine takeE (St.tr (· = b)) 10 (by simp only [List.getElem?_toArray, List.getElem?_cons_succ, List.getElem?_cons_zero]; rfl) (by kernel_rfl) (by kernel_rfl) (by kernel_rfl) (by exact fun _ _ _ h => h) (by first | (refine Or.inl ⟨by rfl, ?_⟩; intro W hW; go_simp; try with_reducible rfl) | exact Or.inr ⟨by rfl, rfl⟩) ?_; try simp only [Act.put, List.setIfInBounds_toArray, List.set_cons_zero, List.set_cons_succ])
  (refine takeE (St.tr (· = b)) 13 (by simp only [List.getElem?_toArray, List.getElem?_cons_succ, List.getElem?_cons_zero]; rfl) (by kernel_rfl) (by kernel_rfl) (by kernel_rfl) (by exact fun _ _ _ h => h) (by first | (refine Or.inl ⟨by rfl, ?_⟩; intro W hW; go_simp; try with_reducible rfl) | exact Or.inr ⟨by rfl, rfl⟩) ?_; try simp only [Act.put, List.setIfInBounds_toArray, List.set_cons_zero, List.set_cons_succ])
  (refine takeE (St.tr (· = b)) 2 (by simp only [List.getElem?_toArray, List.getElem?_cons_succ, List.getElem?_cons_zero]; rfl) (by kernel_rfl) (by kernel_rfl) (by kernel_rfl) (by exact fun _ _ _ h => h) (by first | (refine Or.inl ⟨by rfl, ?_⟩; intro W hW; go_simp; try with_reducible rfl) | exact Or.inr ⟨by rfl, rfl⟩) ?_; try simp only [Act.put, List.setIfInBounds_toArray, List.set_cons_zero, List.set_cons_succ])
  (refine takeE (St.tr (· = b)) 3 (by simp only [List.getElem?_toArray, List.getElem?_cons_succ, List.getElem?_cons_zero]; rfl) (by kernel_rfl) (by kernel_rfl) (by kernel_rfl) (by exact fun _ _ _ h => h) (by first | (refine Or.inl ⟨by rfl, ?_⟩; intro W hW; go_simp; try with_reducible rfl) | exact Or.inr ⟨by rfl, rfl⟩) ?_; try simp only [Act.put, List.setIfInBounds_toArray, List.set_cons_zero, List.set_cons_succ])
  refine wpAnyE_one (i := 8) (by kernel_rfl) (by simp only [List.getElem?_toArray, List.getElem?_cons_succ, List.getElem?_cons_zero]; rfl) (fun K hK => ?_)
  go_simp
  refine (clone_any _ _ _ _ _ (HR1.out.below hbd) hl).mono ?_
  rintro en w2 ⟨v, rfl, hown, hb2⟩
  obtain ⟨A', c', rfl⟩ := own_slice hown
  have HOW := Lib.hid (BsR.own hown HR1.out.2.2.2.2.1)
  have HB2 := Lib.hid (hbd.trans (hb2.mono hbd.size))
  have HB2' : Hid (St (· = b) wd w2) := Lib.hid (St.ext hb2)
  have HGE := Lib.hid (show w1.heap.size ≤ wd.heap.size from hbd.size)
  clear hown hb2
  refine hK.out _ _ HB2'.out ?_
  clear hK K
  try simp only [Act.put, List.setIfInBounds_toArray, List.set_cons_zero, List.set_cons_succ]
  refine wpAnyE_one (i := 11) (by kernel_rfl) (by simp only [List.getElem?_toArray, List.getElem?_cons_succ, List.getElem?_cons_zero]; rfl) (fun K hK => ?_)
  go_simp
  refine (v_has2 _ w2 hf).mono ?_
  rintro en w3 ⟨rfl, rfl⟩
  refine hK.out _ _ (St.refl _ _) ?_
  clear hK K
  try simp only [Act.put, List.setIfInBounds_toArray, List.set_cons_zero, List.set_cons_succ]
  refine wpAnyE_one (i := 14) (by kernel_rfl) (by simp only [List.getElem?_toArray, List.getElem?_cons_succ, List.getElem?_cons_zero]; rfl) (fun K hK => ?_)
  go_simp
  refine (v_has4 _ w2 hf).mono ?_
  rintro en w3 ⟨rfl, rfl⟩
  refine hK.out _ _ (St.refl _ _) ?_
  clear hK K
  try simp only [Act.put, List.setIfInBounds_toArray, List.set_cons_zero, List.set_cons_succ]
  (refine takeE (St.tr (· = b)) 15 (by simp only [List.getElem?_toArray, List.getElem?_cons_succ, List.getElem?_cons_zero]; rfl) (by kernel_rfl) (by kernel_rfl) (by kernel_rfl) (by exact fun _ _ _ h => h) (by first | (refine Or.inl ⟨by rfl, ?_⟩; intro W hW; go_simp; try with_reducible rfl) | exact Or.inr ⟨by rfl, rfl⟩) ?_; try simp only [Act.put, List.setIfInBounds_toArray, List.set_cons_zero, List.set_cons_succ])
  refine wpAnyE_one (i := 16) (by kernel_rfl) (by simp only [List.getElem?_toArray, List.getElem?_cons_succ, List.getElem?_cons_zero]; rfl) (fun K hK => ?_)
  have hlk : Lacks L n := HLK.out
  refine opwp_store_new rfl (.tmp 14) (.tmp 16) (.tmp 26) rfl rfl (HL1.out.below HB2.out) ⟨n, A', q.xs.length, c', q.xs, hasB q.h.fl 2, hasB q.h.fl 4⟩ (by rw [← HN.out]; rfl) hlk rfl ?_
  intro w3 hm3 hs3
  have HD : Hid (DidE F w e (m.kept q.pk) w3) := Lib.hid (by
    have hz3 := hs3.size
    have hz2 := HB2.out.size
    have hz1 := HW1.out.size
    have hge := HGE.out
    have hnew : ∀ k, BlkOf A' k → w.heap.size ≤ k ∧ k < w2.heap.size := fun k hk => ⟨by have := HOW.out.2 k hk; omega, HOW.out.1.lt k hk⟩
    have hbA : ∀ k, BlkOf A' k → ¬ k = b := fun k hk he => by have := HOW.out.2 k hk; omega
    refine ⟨fun k => F k ∨ (w.heap.size ≤ k ∧ k < w2.heap.size), ⟨pb, some b, g, FJ, fun k => FP k ∨ (w.heap.size ≤ k ∧ k < w2.heap.size), jm, ?_⟩, (HW1.out.trans (St.ext HB2.out) (Gr.refl _ _)).trans (hs3.mono fun k _ hk => hk ▸ HX.out.fm b rfl) (Gr.refl _ _), fun k hk => hk.elim .inl fun h => .inr h.1⟩
    have hx := HX.out
    refine ⟨(HK1.out.below HB2.out).st hs3 (Ne.symm hbe), (HB1.out.below HB2.out).st hs3 (Ne.symm hbp), ?_, (HJ1.out.below HB2.out).st hs3 (fun k hk he => hx.ej.2.2 b rfl (he ▸ hk)), hx.jd, .inl hx.fe, .inl hx.fb, fun b' hb' => .inl (hx.fm b' hb'), fun k hk => .inl (hx.fj k hk), fun k hk => hk.elim (fun h => .inl (hx.fp k h)) .inr, ?_, hx.ej, ?_⟩
    · rintro b' hb'
      injection hb' with hb'
      subst hb'
      refine ⟨_, hm3, Ent.add (p := q.pk) ((HE1.out.below HB2.out).st hs3 (fun k hk he => hx.ep.2.2.1 b rfl (he ▸ hk))) ⟨HN.out, rfl, rfl, rfl⟩ hlk (HOW.out.1.st hs3 hbA) (fun k => .inl) (fun k hk => .inr (hnew k hk))⟩
    · rintro k (hk | hk)
      · have := hx.lt k hk; omega
      · omega
    · refine ⟨?_, ?_, ?_, ?_⟩
      · rintro (h | h)
        · exact hx.ep.1 h
        · omega
      · rintro (h | h)
        · exact hx.ep.2.1 h
        · omega
      · rintro b' hb' (h | h)
        · exact hx.ep.2.2.1 b' hb' h
        · injection hb' with hb'; omega
      · rintro k hk (h | h)
        · exact hx.ep.2.2.2 k hk h
        · have := hx.lt k (hx.fj k hk); omega)
  have HS3 := Lib.hid hs3
  clear hm3 hs3
  refine hK.out _ _ HS3.out ?_
  clear hK K
  try simp only [Act.put, List.setIfInBounds_toArray, List.set_cons_zero, List.set_cons_succ]
  refine wpAnyE_done (by kernel_rfl) ?_ _
  clear q1 q2 q3 q4
  go_end0
  exact ⟨⟨_, rfl⟩, HD.out⟩
end
end Go.Proofs.Ytmmjhijgedboiaa
