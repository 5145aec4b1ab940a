/- The reference's row, by rising numbers, longer by one. -/
import Derived.Test.YtmmjhijgedboiaaE19
import Derived.Test.YtmmjhijgedboiaaKit3
set_option linter.unusedSimpArgs false
set_option linter.unusedVariables false
set_option maxRecDepth 100000
namespace Go.Proofs.Ytmmjhijgedboiaa
open Go.RowKit Go.Shelf
section
variable {P : Program} {w : World} {t e : TypeId} {zs : List Value} {bytes : Nat} {A B : Option Addr} {n c m d : Nat} {cs us : List Value} {F : Nat → Prop}
theorem opwp_append_lstR {ops : Array Oper} {o : Oper} {a : Act} {K : Act → World → Prop} {Q : Exit → Act → World → Prop} (E : EltS P t e zs bytes) (hgd : o.guard = none) (s x : Operand)
    (ho : o.op = .call { callee := .builtin .append, args := #[s, x], argTypes := #[t, t] })
    (hs : a.eval s = .slice A n c) (h : LstR zs.length e F w A n c cs) (hx : a.eval x = .slice B m d) (hu : RdR zs.length w B m d us) (hlen : (n + m) * bytes ≤ 140737488355328)
    (hq : ∀ v w', ApdR zs.length e F w v (cs ++ us) w' → K (a.put o.dst v) w') : if Region.wanted o (yielded ops a.tmps) = true then Oper.wp P o a w K Q else K (a.put o.dst undef) w := by
  obtain ⟨v, w', hrun, hap⟩ := run_append_lstR E o.type h hu hlen
  rw [if_pos (by simp only [Region.wanted, hgd])]
  unfold Oper.wp execOp
  simp only [ho, resolve, invoke, builtin, Sem.run_bind, Sem.run_pure, Result.andThen_ok, List.map_toArray, List.map_cons, List.map_nil, hs, hx, hrun]
  exact hq v w' hap
theorem opwp_build_row {ops : Array Oper} {o : Oper} {a : Act} {K : Act → World → Prop} {Q : Exit → Act → World → Prop} (E : EltS P t e zs bytes) (hgd : o.guard = none) (s : Operand)
    (ho : o.op = .buildSlice t 1 #[(0, s)]) {xs : List Value} (hs : a.eval s = .agg xs.toArray) (hx : xs.length = zs.length)
    (hq : K (a.put o.dst (.slice (some ⟨w.heap.size, 0, none⟩) 1 1)) (w.alloc (.cells xs.toArray e))) : if Region.wanted o (yielded ops a.tmps) = true then Oper.wp P o a w K Q else K (a.put o.dst undef) w := by
  have hr := E.build_one hx w
  rw [if_pos (by simp only [Region.wanted, hgd])]
  unfold Oper.wp execOp
  simp only [ho, List.map_toArray, List.map_cons, List.map_nil, hs, Sem.run_bind, Sem.run_pure, hr, Result.andThen_ok]
  exact hq

end
section
variable {F : Nat → Prop} {w w' : World} {A : Option Addr} {n c : Nat} {ks : List Pk}
theorem RdR.pre {sz : Nat} {A : Option Addr} {n c : Nat} {cs : List Value} (h : RdR sz w A n c cs) {s : Nat} (hs : s ≤ n) : RdR sz w A s c (cs.take (s * sz)) := by
  obtain ⟨h1, h2, h3, h4, h5, h6⟩ := h
  have hm : s * sz ≤ n * sz := Nat.mul_le_mul_right _ hs
  refine ⟨by rw [List.length_take]; omega, by omega, h3, h4, fun x hx => h5 x (List.mem_of_mem_take hx), fun hn => ?_⟩
  obtain ⟨g, o, e, hg, hx⟩ := h6 (by omega)
  refine ⟨g, o, e, hg, fun i hi => ?_⟩
  rw [hx i (by omega), List.getElem?_take, if_pos hi]

theorem insK_split {p : Pk} : ∀ {ks : List Pk} {k : Nat}, k ≤ ks.length → (∀ j q, j < k → ks[j]? = some q → q.h.sq < p.h.sq) → (∀ q, ks[k]? = some q → ¬ q.h.sq < p.h.sq) → insK p ks = ks.take k ++ p :: ks.drop k
  | [], k, hk, h1, h2 => by
    obtain rfl : k = 0 := by simpa using hk
    rfl
  | r :: t, 0, hk, h1, h2 => by
    unfold insK
    rw [if_neg (h2 r rfl)]
    rfl
  | r :: t, k + 1, hk, h1, h2 => by
    unfold insK
    rw [if_pos (h1 0 r (by omega) rfl), insK_split (k := k) (by simpa using hk) (fun j q hj hq => h1 (j + 1) q (by omega) (by simpa using hq)) (fun q hq => h2 q (by simpa using hq))]
    rfl
theorem with_end {qs : List Pv} {q : Pv} {k : Nat} {w9 : World} {A9 : Option Addr} {n9 c9 : Nat} (h1 : n = qs.length ∧ qs.map Pv.pk = ks) (h2 : ∀ r ∈ qs, PvR F w r) (hq : PvR F w q) (hF : ∀ x, F x → x < w.heap.size) (hk : k ≤ n)
    (hs : insK q.pk ks = ks.take k ++ q.pk :: ks.drop k) (hl : LstR 9 40 (w.heap.size < ·) w9 A9 n9 c9 ((flat Pv.cl qs).take (k * 9) ++ q.cl ++ (flat Pv.cl qs).drop (k * 9))) (hb : Below w.heap.size w w9) :
    ∃ A' n' c', Ending.returned (.slice A9 n9 c9) = .returned (.slice A' n' c') ∧ SlP F w9 A' n' c' (insK q.pk ks) ∧ Below w.heap.size w w9 := by
  have hfl : (flat Pv.cl qs).take (k * 9) ++ q.cl ++ (flat Pv.cl qs).drop (k * 9) = flat Pv.cl (qs.take k ++ q :: qs.drop k) := by
    rw [← flat_drop Pv.cl_len qs k (by omega)]
    have : (flat Pv.cl qs).take (k * 9) = flat Pv.cl (qs.take k) := by
      have e1 : flat Pv.cl qs = flat Pv.cl (qs.take k) ++ flat Pv.cl (qs.drop k) := by rw [← flat_app, List.take_append_drop]
      have e2 : (flat Pv.cl (qs.take k)).length = k * 9 := by rw [flat_len Pv.cl_len, List.length_take]; rw [Nat.min_eq_left (by omega)]
      rw [e1, ← e2, List.take_left]
    rw [this, show q :: qs.drop k = [q] ++ qs.drop k from rfl, flat_app, flat_app, flat_one, List.append_assoc]
  rw [hfl] at hl
  refine ⟨A9, n9, c9, rfl, ⟨qs.take k ++ q :: qs.drop k, ?_, hl.rd, ?_, fun r hr => ?_, fun hn ad he hf => ?_⟩, hb⟩
  · have e1 := hl.1
    rw [flat_len Pv.cl_len] at e1
    omega
  · rw [hs, ← h1.2]; simp
  · rcases List.mem_append.1 hr with hr | hr
    · exact (h2 r (List.mem_of_mem_take hr)).below hb
    · rcases List.mem_cons.1 hr with rfl | hr
      · exact hq.below hb
      · exact (h2 r (List.mem_of_mem_drop hr)).below hb
  · have h3 := (hl.blk ad he).1
    have h4 := hF _ hf
    omega
set_option maxHeartbeats 8000000 in
theorem r_with (h : SlP F w A n c ks) (hn : n ≤ 1000000) (q : Pv) (hq0 : PvR F w q) (hF : ∀ x, F x → x < w.heap.size) : Calls Try.prog 43 #[.slice A n c, .agg #[.int .i64 q.h.kd, .int .i64 q.h.fl, .int .i64 q.h.pa, .int .i64 q.h.sr, .int .i64 q.h.ds, .int .i64 q.h.cn, .int .i64 q.h.sq, .int .i64 q.h.pu, .slice q.A q.n q.c]] w fun en w' => ∃ A' n' c', en = .returned (.slice A' n' c') ∧ SlP F w' A' n' c' (insK q.pk ks) ∧ Below w.heap.size w w' := by
  obtain ⟨W, hW⟩ : ∃ W, W = w.alloc (.cells #[.int .i64 q.h.kd, .int .i64 q.h.fl, .int .i64 q.h.pa, .int .i64 q.h.sr, .int .i64 q.h.ds, .int .i64 q.h.cn, .int .i64 q.h.sq, .int .i64 q.h.pu, .slice q.A q.n q.c] 40) := ⟨_, rfl⟩
  have hb1 : Below w.heap.size w W := by rw [hW]; exact ext1 _ _
  have z1 : Bk W 40 w.heap.size q.cl := by rw [hW]; exact Bk.new w 40 q.cl
  have hsW : W.heap.size = w.heap.size + 1 := by rw [hW]; simp
  have HS := Lib.hid (h.below hb1)
  have hlen := h.len
  obtain ⟨qs, g1, g2, g3, g4, g5⟩ := h
  have HR := Lib.hid g2
  have HQS := Lib.hid (And.intro g1 g3)
  have HPS := Lib.hid g4
  have HF0 := Lib.hid hF
  have hnc := g2.2.1
  have hcm := g2.2.2.1
  unfold maxLen at hcm
  have HW0 := Lib.hid hsW
  have c6 := z1.cell 6 rfl
  have HL := Lib.hid hlen
  clear g1 g2 g3 g4 g5 hF hlen
  go_enter Try.func43, Try.ntmps43
  go_wp2_with fail
  rw [← hW]
  clear hW
  go_loopw [5] (fun i wr => ∃ k : Nat, k ≤ n ∧ i = .int .i64 k ∧ Below W.heap.size W wr ∧ ∀ j p, j < k → ks[j]? = some p → p.h.sq < q.h.sq) (fun i _ => n - (intOf i).toNat)
  case atStart => exact ⟨0, Nat.zero_le _, rfl, Below.refl _ _, fun j p hj => absurd hj (Nat.not_lt_zero j)⟩
  case round =>
    obtain ⟨k, hk, rfl, hbw, hno⟩ := hrel
    have c6 := fun d => ((z1.below hbw).below (Below.drewN_ wr d)).cell 6 rfl
    have HB0 := Lib.hid hbw
    have HBW := Lib.hid (hb1.trans (hbw.mono hb1.size))
    have HZW := Lib.hid (z1.below hbw)
    by_cases hlt : k < n
    · obtain ⟨g, o, p, rfl, hra, -, hp, hg⟩ := (HS.out.below hbw).row hlt
      have cs : ∀ d, (wr.drewN d).cell? ⟨g, o + k * 9 + 6, none⟩ = some (.int .i64 p.h.sq) := fun d => range_below hra hg (Below.drewN_ wr d) 6 _ rfl
      have hlt' : (k : Int) < n := by omega
      have HNO := Lib.hid hno
      have HP := Lib.hid hp
      clear hra hg hno hp hb1 hbw z1
      by_cases hs : p.h.sq < q.h.sq
      · have hd1 := decide_eq_true hs
        go_wp2
        go_quiet (fail)
        go_wp2
        go_roundw
        case rel => exact ⟨k + 1, by omega, by go_num, HB0.out.trans ((Below.drewN_ wr _).mono HB0.out.size), fun j r hj hr => by
          rcases Nat.lt_or_ge j k with h' | h'
          · exact HNO.out j r h' hr
          · obtain rfl : j = k := by omega
            rw [← HP.out] at hr
            rw [← Option.some.inj hr]
            exact hs⟩
        case measure => simp [intOf]; omega
      · have hd1 := decide_eq_false hs
        have HSP : Hid (insK q.pk ks = ks.take k ++ q.pk :: ks.drop k) := Lib.hid (insK_split (by rw [HL.out]; exact hk) HNO.out (fun r hr => by rw [← HP.out] at hr; rw [← Option.some.inj hr]; exact hs))
        go_wp2
        go_quiet (fail)
        go_wp2_with fail
        refine wp_region_E (Below (w.heap.size + 1)) (by kernel_rfl) (fun wd hbd hsz => ?_)
        have HBD := Lib.hid (HBW.out.trans (((Below.drewN_ wr _).trans hbd).mono HBW.out.size))
        have Z3 := Lib.hid (HZW.out.below ((Below.drewN_ wr _).trans hbd))
        have hwd : w.heap.size < wd.heap.size := Z3.out.lt
        have q1 := fun V => eltP.run_pre (some ⟨g, o, none⟩) n c k (by omega) hnc V
        have q2 := fun V => eltP.run_cut (some ⟨g, o, none⟩) n c k hk hnc V
        clear hsz
        (refine takeE (belowTr (w.heap.size + 1)) 1 (by simp only [List.getElem?_toArray, List.getElem?_cons_succ, List.getElem?_cons_zero]; rfl) (by kernel_rfl) (by kernel_rfl) (by kernel_rfl) (by exact fun _ _ _ h => h) (by first | (refine Or.inl ⟨by rfl, ?_⟩; intro W hW; go_simp; try with_reducible rfl) | exact Or.inr ⟨by rfl, rfl⟩) ?_; try simp only [Act.put, List.setIfInBounds_toArray, List.set_cons_zero, List.set_cons_succ])
        (refine takeE (belowTr (w.heap.size + 1)) 2 (by simp only [List.getElem?_toArray, List.getElem?_cons_succ, List.getElem?_cons_zero]; rfl) (by kernel_rfl) (by kernel_rfl) (by kernel_rfl) (by exact fun _ _ _ h => h) (by first | (refine Or.inl ⟨by rfl, ?_⟩; intro W hW; go_simp; try with_reducible rfl) | exact Or.inr ⟨by rfl, rfl⟩) ?_; try simp only [Act.put, List.setIfInBounds_toArray, List.set_cons_zero, List.set_cons_succ])
        (refine takeE (belowTr (w.heap.size + 1)) 5 (by simp only [List.getElem?_toArray, List.getElem?_cons_succ, List.getElem?_cons_zero]; rfl) (by kernel_rfl) (by kernel_rfl) (by kernel_rfl) (by exact fun _ _ _ h => h) (by first | (refine Or.inl ⟨by rfl, ?_⟩; intro W hW; exact exec_loadRow rowP (.tmp 3) rfl w.heap.size 0 rfl q (Bk.pk (Z3.out.keep hW (Nat.lt_succ_self _)))) | exact Or.inr ⟨by rfl, rfl⟩) ?_; try simp only [Act.put, List.setIfInBounds_toArray, List.set_cons_zero, List.set_cons_succ])
        (refine takeE (belowTr (w.heap.size + 1)) 8 (by simp only [List.getElem?_toArray, List.getElem?_cons_succ, List.getElem?_cons_zero]; rfl) (by kernel_rfl) (by kernel_rfl) (by kernel_rfl) (by exact fun _ _ _ h => h) (by first | (refine Or.inl ⟨by rfl, ?_⟩; intro W hW; go_simp; try with_reducible rfl) | exact Or.inr ⟨by rfl, rfl⟩) ?_; try simp only [Act.put, List.setIfInBounds_toArray, List.set_cons_zero, List.set_cons_succ])
        (refine takeE (belowTr (w.heap.size + 1)) 9 (by simp only [List.getElem?_toArray, List.getElem?_cons_succ, List.getElem?_cons_zero]; rfl) (by kernel_rfl) (by kernel_rfl) (by kernel_rfl) (by exact fun _ _ _ h => h) (by first | (refine Or.inl ⟨by rfl, ?_⟩; intro W hW; go_simp; try with_reducible rfl) | exact Or.inr ⟨by rfl, rfl⟩) ?_; try simp only [Act.put, List.setIfInBounds_toArray, List.set_cons_zero, List.set_cons_succ])
        (refine takeE (belowTr (w.heap.size + 1)) 3 (by simp only [List.getElem?_toArray, List.getElem?_cons_succ, List.getElem?_cons_zero]; rfl) (by kernel_rfl) (by kernel_rfl) (by kernel_rfl) (by exact fun _ _ _ h => h) (by first | (refine Or.inl ⟨by rfl, ?_⟩; intro W hW; go_simp; try with_reducible rfl) | exact Or.inr ⟨by rfl, rfl⟩) ?_; try simp only [Act.put, List.setIfInBounds_toArray, List.set_cons_zero, List.set_cons_succ])
        (refine takeE (belowTr (w.heap.size + 1)) 10 (by simp only [List.getElem?_toArray, List.getElem?_cons_succ, List.getElem?_cons_zero]; rfl) (by kernel_rfl) (by kernel_rfl) (by kernel_rfl) (by exact fun _ _ _ h => h) (by first | (refine Or.inl ⟨by rfl, ?_⟩; intro W hW; go_simp; try with_reducible rfl) | exact Or.inr ⟨by rfl, rfl⟩) ?_; try simp only [Act.put, List.setIfInBounds_toArray, List.set_cons_zero, List.set_cons_succ])
        refine wpAnyE_two (i := 0) (j := 6) (by kernel_rfl) (by simp only [List.getElem?_toArray, List.getElem?_cons_succ, List.getElem?_cons_zero]; rfl) (by simp only [List.getElem?_toArray, List.getElem?_cons_succ, List.getElem?_cons_zero]; rfl) (fun K hK => ?_) (fun K hK => ?_)
        ·
          go_simp
          skip
          refine hK.out _ _ ((Below.refl _ _).alloc (by first | omega | (simp; omega)) _) ?_
          clear hK K
          try simp only [Act.put, List.setIfInBounds_toArray, List.set_cons_zero, List.set_cons_succ]
          refine wpAnyE_two (i := 4) (j := 6) (by kernel_rfl) (by simp only [List.getElem?_toArray, List.getElem?_cons_succ, List.getElem?_cons_zero]; rfl) (by simp only [List.getElem?_toArray, List.getElem?_cons_succ, List.getElem?_cons_zero]; rfl) (fun K hK => ?_) (fun K hK => ?_)
          ·
            have hl0 : LstR 9 40 (wd.heap.size ≤ ·) (wd.alloc (.cells #[] 40)) (some ⟨wd.heap.size, 0, none⟩) 0 0 [] := by have := (LstR.made 9 wd 40 #[] 0 0 [] rfl (Nat.le_refl _) (by simp) (Nat.zero_le _) (by simp) (by simp)); exact this.mono (F' := (wd.heap.size ≤ ·)) (fun k hk => hk)
            have hbx : Below w.heap.size w (wd.alloc (.cells #[] 40)) := (HBD.out.alloc HBD.out.size (.cells #[] 40))
            refine opwp_append_lstR eltP rfl (.tmp 22) (.tmp 25) rfl rfl hl0.tight rfl ((HR.out.below hbx).pre hk) (by omega) ?_
            rintro v w4 ⟨⟨A4, n4, c4, rfl, hl4⟩, hs4⟩
            rw [List.nil_append] at hl4
            have HS4 := Lib.hid hs4
            have hs4b : Below (w.heap.size + 1) (wd.alloc (.cells #[] 40)) w4 := hs4.below (by simp; omega) (by rintro x ⟨ad, he, rfl⟩; injection he with he; subst he; show w.heap.size + 1 ≤ wd.heap.size; omega)
            have HB4 := Lib.hid (hbx.trans (hs4b.mono (Nat.le_succ _)))
            have hz4 : w.heap.size < w4.heap.size := by have := hs4b.size; simp at this; omega
            have HS4B := Lib.hid hs4b
            have HL4 : Hid (LstR 9 40 (w.heap.size < ·) w4 A4 n4 c4 ((flat Pv.cl qs).take (k * 9))) := Lib.hid (hl4.mono (by
              rintro x (⟨ad, he, rfl⟩ | hx)
              · injection he with he; subst he; show w.heap.size < wd.heap.size; omega
              · have := hbx.size; have h2 : _ ≤ x := hx; simp at h2; omega))
            have hn4 : n4 = k := by have h0 := HQS.out.1; have e1 : _ = n4 * 9 := hl4.1; rw [List.length_take, flat_len Pv.cl_len] at e1; omega
            clear hl0 hbx hl4 hs4 hs4b
            refine hK.out _ _ HS4B.out ?_
            clear hK K
            try simp only [Act.put, List.setIfInBounds_toArray, List.set_cons_zero, List.set_cons_succ]
            refine wpAnyE_one (i := 6) (by kernel_rfl) (by simp only [List.getElem?_toArray, List.getElem?_cons_succ, List.getElem?_cons_zero]; rfl) (fun K hK => ?_)
            refine opwp_build_row eltP rfl (.tmp 27) rfl (xs := q.cl) rfl rfl ?_
            refine hK.out _ _ ((Below.refl _ _).alloc (by first | omega | (simp; omega)) _) ?_
            clear hK K
            try simp only [Act.put, List.setIfInBounds_toArray, List.set_cons_zero, List.set_cons_succ]
            refine wpAnyE_one (i := 7) (by kernel_rfl) (by simp only [List.getElem?_toArray, List.getElem?_cons_succ, List.getElem?_cons_zero]; rfl) (fun K hK => ?_)
            have hl7 : LstR 9 40 (w.heap.size < ·) (w4.alloc (.cells #[.int .i64 q.h.kd, .int .i64 q.h.fl, .int .i64 q.h.pa, .int .i64 q.h.sr, .int .i64 q.h.ds, .int .i64 q.h.cn, .int .i64 q.h.sq, .int .i64 q.h.pu, .slice q.A q.n q.c] 40)) A4 n4 c4 ((flat Pv.cl qs).take (k * 9)) := HL4.out.alloc _
            have hr7 : RdR 9 (w4.alloc (.cells #[.int .i64 q.h.kd, .int .i64 q.h.fl, .int .i64 q.h.pa, .int .i64 q.h.sr, .int .i64 q.h.ds, .int .i64 q.h.cn, .int .i64 q.h.sq, .int .i64 q.h.pu, .slice q.A q.n q.c] 40)) (some ⟨w4.heap.size, 0, none⟩) 1 1 q.cl := RdR.one w4 40 q.cl (Pv.cl_one q)
            have hb7 : Below w.heap.size w (w4.alloc (.cells #[.int .i64 q.h.kd, .int .i64 q.h.fl, .int .i64 q.h.pa, .int .i64 q.h.sr, .int .i64 q.h.ds, .int .i64 q.h.cn, .int .i64 q.h.sq, .int .i64 q.h.pu, .slice q.A q.n q.c] 40)) := (HB4.out.alloc HB4.out.size (.cells #[.int .i64 q.h.kd, .int .i64 q.h.fl, .int .i64 q.h.pa, .int .i64 q.h.sr, .int .i64 q.h.ds, .int .i64 q.h.cn, .int .i64 q.h.sq, .int .i64 q.h.pu, .slice q.A q.n q.c] 40))
            refine opwp_append_lstR eltP rfl (.tmp 26) (.tmp 28) rfl rfl hl7.tight rfl (by first | exact hr7 | (simp only [World.size_alloc] at hr7; exact hr7)) (by omega) ?_
            rintro v w7 ⟨⟨A7, n7, c7, rfl, hl8⟩, hs7⟩
            have hs7b : Below (w.heap.size + 1) (w4.alloc (.cells #[.int .i64 q.h.kd, .int .i64 q.h.fl, .int .i64 q.h.pa, .int .i64 q.h.sr, .int .i64 q.h.ds, .int .i64 q.h.cn, .int .i64 q.h.sq, .int .i64 q.h.pu, .slice q.A q.n q.c] 40)) w7 := hs7.below (by first | omega | (simp; omega)) (by rintro x ⟨ad, he, rfl⟩; exact (hl7.blk ad he).1)
            have HB7 := Lib.hid (hb7.trans (hs7b.mono (Nat.le_succ _)))
            have hz7 : w.heap.size < w7.heap.size := by have := hs7b.size; (try simp at this); omega
            have HS7B := Lib.hid hs7b
            have HL7 : Hid (LstR 9 40 (w.heap.size < ·) w7 A7 n7 c7 ((flat Pv.cl qs).take (k * 9) ++ q.cl)) := Lib.hid (hl8.mono (by
              rintro x (⟨ad, he, rfl⟩ | hx)
              · exact (hl7.blk ad he).1
              · have := hb7.size; have h2 : _ ≤ x := hx; have h3 := HB4.out.size; have h4 := HW0.out; (try simp at h2); omega))
            have hn7 : n7 = k + 1 := by have h0 := HQS.out.1; have e1 : _ = n7 * 9 := hl8.1; rw [List.length_append, List.length_take, flat_len Pv.cl_len, Pv.cl_len] at e1; omega
            clear hl7 hr7 hb7 hl8 hs7 hs7b
            refine hK.out _ _ HS7B.out ?_
            clear hK K
            try simp only [Act.put, List.setIfInBounds_toArray, List.set_cons_zero, List.set_cons_succ]
            refine wpAnyE_one (i := 11) (by kernel_rfl) (by simp only [List.getElem?_toArray, List.getElem?_cons_succ, List.getElem?_cons_zero]; rfl) (fun K hK => ?_)
            refine opwp_append_lstR eltP rfl (.tmp 29) (.tmp 32) rfl rfl HL7.out.tight rfl (by have h := (HR.out.below HB7.out).cut hk; first | exact h | (unfold cutR at h; first | exact h | (rw [Nat.sub_self] at h; exact h))) (by omega) ?_
            rintro v w9 ⟨⟨A9, n9, c9, rfl, hl9⟩, hs9⟩
            have hs9b : Below (w.heap.size + 1) w7 w9 := hs9.below hz7 (by rintro x ⟨ad, he, rfl⟩; exact (HL7.out.blk ad he).1)
            have HB9 := Lib.hid (HB7.out.trans (hs9b.mono (Nat.le_succ _)))
            have HS9B := Lib.hid hs9b
            have HL9 : Hid (LstR 9 40 (w.heap.size < ·) w9 A9 n9 c9 ((flat Pv.cl qs).take (k * 9) ++ q.cl ++ (flat Pv.cl qs).drop (k * 9))) := Lib.hid (hl9.mono (by
              rintro x (⟨ad, he, rfl⟩ | hx)
              · exact (HL7.out.blk ad he).1
              · have h2 : _ ≤ x := hx; have h3 := HB7.out.size; have h4 := HW0.out; have h5 := HS7B.out.size; omega))
            clear hl9 hs9 hs9b
            refine hK.out _ _ HS9B.out ?_
            clear hK K
            try simp only [Act.put, List.setIfInBounds_toArray, List.set_cons_zero, List.set_cons_succ]
            (refine takeE (belowTr (w.heap.size + 1)) 12 (by simp only [List.getElem?_toArray, List.getElem?_cons_succ, List.getElem?_cons_zero]; rfl) (by kernel_rfl) (by kernel_rfl) (by kernel_rfl) (by exact fun _ _ _ h => h) (by first | (refine Or.inl ⟨by rfl, ?_⟩; intro W hW; go_simp; try with_reducible rfl) | exact Or.inr ⟨by rfl, rfl⟩) ?_; try simp only [Act.put, List.setIfInBounds_toArray, List.set_cons_zero, List.set_cons_succ])
            refine wpAnyE_done (by kernel_rfl) ?_ _
            clear q1 q2
            go_wp2
            go_ret
            exact with_end HQS.out HPS.out hq0 HF0.out hk HSP.out HL9.out HB9.out
          ·
            refine opwp_build_row eltP rfl (.tmp 27) rfl (xs := q.cl) rfl rfl ?_
            refine hK.out _ _ ((Below.refl _ _).alloc (by first | omega | (simp; omega)) _) ?_
            clear hK K
            try simp only [Act.put, List.setIfInBounds_toArray, List.set_cons_zero, List.set_cons_succ]
            refine wpAnyE_one (i := 4) (by kernel_rfl) (by simp only [List.getElem?_toArray, List.getElem?_cons_succ, List.getElem?_cons_zero]; rfl) (fun K hK => ?_)
            have hl0 : LstR 9 40 (wd.heap.size ≤ ·) ((wd.alloc (.cells #[] 40)).alloc (.cells #[.int .i64 q.h.kd, .int .i64 q.h.fl, .int .i64 q.h.pa, .int .i64 q.h.sr, .int .i64 q.h.ds, .int .i64 q.h.cn, .int .i64 q.h.sq, .int .i64 q.h.pu, .slice q.A q.n q.c] 40)) (some ⟨wd.heap.size, 0, none⟩) 0 0 [] := by have := (LstR.made 9 wd 40 #[] 0 0 [] rfl (Nat.le_refl _) (by simp) (Nat.zero_le _) (by simp) (by simp)); exact (this.alloc _).mono (F' := (wd.heap.size ≤ ·)) (fun k hk => hk)
            have hbx : Below w.heap.size w ((wd.alloc (.cells #[] 40)).alloc (.cells #[.int .i64 q.h.kd, .int .i64 q.h.fl, .int .i64 q.h.pa, .int .i64 q.h.sr, .int .i64 q.h.ds, .int .i64 q.h.cn, .int .i64 q.h.sq, .int .i64 q.h.pu, .slice q.A q.n q.c] 40)) := ((HBD.out.alloc HBD.out.size (.cells #[] 40)).alloc (HBD.out.alloc HBD.out.size (.cells #[] 40)).size (.cells #[.int .i64 q.h.kd, .int .i64 q.h.fl, .int .i64 q.h.pa, .int .i64 q.h.sr, .int .i64 q.h.ds, .int .i64 q.h.cn, .int .i64 q.h.sq, .int .i64 q.h.pu, .slice q.A q.n q.c] 40))
            refine opwp_append_lstR eltP rfl (.tmp 22) (.tmp 25) rfl rfl hl0.tight rfl ((HR.out.below hbx).pre hk) (by omega) ?_
            rintro v w4 ⟨⟨A4, n4, c4, rfl, hl4⟩, hs4⟩
            rw [List.nil_append] at hl4
            have HS4 := Lib.hid hs4
            have hs4b : Below (w.heap.size + 1) ((wd.alloc (.cells #[] 40)).alloc (.cells #[.int .i64 q.h.kd, .int .i64 q.h.fl, .int .i64 q.h.pa, .int .i64 q.h.sr, .int .i64 q.h.ds, .int .i64 q.h.cn, .int .i64 q.h.sq, .int .i64 q.h.pu, .slice q.A q.n q.c] 40)) w4 := hs4.below (by simp; omega) (by rintro x ⟨ad, he, rfl⟩; injection he with he; subst he; show w.heap.size + 1 ≤ wd.heap.size; omega)
            have HB4 := Lib.hid (hbx.trans (hs4b.mono (Nat.le_succ _)))
            have hz4 : w.heap.size < w4.heap.size := by have := hs4b.size; simp at this; omega
            have HS4B := Lib.hid hs4b
            have HL4 : Hid (LstR 9 40 (w.heap.size < ·) w4 A4 n4 c4 ((flat Pv.cl qs).take (k * 9))) := Lib.hid (hl4.mono (by
              rintro x (⟨ad, he, rfl⟩ | hx)
              · injection he with he; subst he; show w.heap.size < wd.heap.size; omega
              · have := hbx.size; have h2 : _ ≤ x := hx; simp at h2; omega))
            have hn4 : n4 = k := by have h0 := HQS.out.1; have e1 : _ = n4 * 9 := hl4.1; rw [List.length_take, flat_len Pv.cl_len] at e1; omega
            clear hl0 hbx hl4 hs4 hs4b
            refine hK.out _ _ HS4B.out ?_
            clear hK K
            try simp only [Act.put, List.setIfInBounds_toArray, List.set_cons_zero, List.set_cons_succ]
            refine wpAnyE_one (i := 7) (by kernel_rfl) (by simp only [List.getElem?_toArray, List.getElem?_cons_succ, List.getElem?_cons_zero]; rfl) (fun K hK => ?_)
            have hl7 : LstR 9 40 (w.heap.size < ·) w4 A4 n4 c4 ((flat Pv.cl qs).take (k * 9)) := HL4.out
            have hr7 : RdR 9 w4 (some ⟨(wd.alloc (.cells #[] 40)).heap.size, 0, none⟩) 1 1 q.cl := by have := RdR.one (wd.alloc (.cells #[] 40)) 40 q.cl (Pv.cl_one q); exact this.st HS4.out (fun _ ad he => by injection he with he; subst he; rintro ⟨ad2, h2, h3⟩; injection h2 with h2; subst h2; simp at h3)
            have hb7 : Below w.heap.size w w4 := HB4.out
            refine opwp_append_lstR eltP rfl (.tmp 26) (.tmp 28) rfl rfl hl7.tight rfl (by first | exact hr7 | (simp only [World.size_alloc] at hr7; exact hr7)) (by omega) ?_
            rintro v w7 ⟨⟨A7, n7, c7, rfl, hl8⟩, hs7⟩
            have hs7b : Below (w.heap.size + 1) w4 w7 := hs7.below (by first | omega | (simp; omega)) (by rintro x ⟨ad, he, rfl⟩; exact (hl7.blk ad he).1)
            have HB7 := Lib.hid (hb7.trans (hs7b.mono (Nat.le_succ _)))
            have hz7 : w.heap.size < w7.heap.size := by have := hs7b.size; (try simp at this); omega
            have HS7B := Lib.hid hs7b
            have HL7 : Hid (LstR 9 40 (w.heap.size < ·) w7 A7 n7 c7 ((flat Pv.cl qs).take (k * 9) ++ q.cl)) := Lib.hid (hl8.mono (by
              rintro x (⟨ad, he, rfl⟩ | hx)
              · exact (hl7.blk ad he).1
              · have := hb7.size; have h2 : _ ≤ x := hx; have h3 := HB4.out.size; have h4 := HW0.out; (try simp at h2); omega))
            have hn7 : n7 = k + 1 := by have h0 := HQS.out.1; have e1 : _ = n7 * 9 := hl8.1; rw [List.length_append, List.length_take, flat_len Pv.cl_len, Pv.cl_len] at e1; omega
            clear hl7 hr7 hb7 hl8 hs7 hs7b
            refine hK.out _ _ HS7B.out ?_
            clear hK K
            try simp only [Act.put, List.setIfInBounds_toArray, List.set_cons_zero, List.set_cons_succ]
            refine wpAnyE_one (i := 11) (by kernel_rfl) (by simp only [List.getElem?_toArray, List.getElem?_cons_succ, List.getElem?_cons_zero]; rfl) (fun K hK => ?_)
            refine opwp_append_lstR eltP rfl (.tmp 29) (.tmp 32) rfl rfl HL7.out.tight rfl (by have h := (HR.out.below HB7.out).cut hk; first | exact h | (unfold cutR at h; first | exact h | (rw [Nat.sub_self] at h; exact h))) (by omega) ?_
            rintro v w9 ⟨⟨A9, n9, c9, rfl, hl9⟩, hs9⟩
            have hs9b : Below (w.heap.size + 1) w7 w9 := hs9.below hz7 (by rintro x ⟨ad, he, rfl⟩; exact (HL7.out.blk ad he).1)
            have HB9 := Lib.hid (HB7.out.trans (hs9b.mono (Nat.le_succ _)))
            have HS9B := Lib.hid hs9b
            have HL9 : Hid (LstR 9 40 (w.heap.size < ·) w9 A9 n9 c9 ((flat Pv.cl qs).take (k * 9) ++ q.cl ++ (flat Pv.cl qs).drop (k * 9))) := Lib.hid (hl9.mono (by
              rintro x (⟨ad, he, rfl⟩ | hx)
              · exact (HL7.out.blk ad he).1
              · have h2 : _ ≤ x := hx; have h3 := HB7.out.size; have h4 := HW0.out; have h5 := HS7B.out.size; omega))
            clear hl9 hs9 hs9b
            refine hK.out _ _ HS9B.out ?_
            clear hK K
            try simp only [Act.put, List.setIfInBounds_toArray, List.set_cons_zero, List.set_cons_succ]
            (refine takeE (belowTr (w.heap.size + 1)) 12 (by simp only [List.getElem?_toArray, List.getElem?_cons_succ, List.getElem?_cons_zero]; rfl) (by kernel_rfl) (by kernel_rfl) (by kernel_rfl) (by exact fun _ _ _ h => h) (by first | (refine Or.inl ⟨by rfl, ?_⟩; intro W hW; go_simp; try with_reducible rfl) | exact Or.inr ⟨by rfl, rfl⟩) ?_; try simp only [Act.put, List.setIfInBounds_toArray, List.set_cons_zero, List.set_cons_succ])
            refine wpAnyE_done (by kernel_rfl) ?_ _
            clear q1 q2
            go_wp2
            go_ret
            exact with_end HQS.out HPS.out hq0 HF0.out hk HSP.out HL9.out HB9.out
        ·
          refine opwp_build_row eltP rfl (.tmp 27) rfl (xs := q.cl) rfl rfl ?_
          refine hK.out _ _ ((Below.refl _ _).alloc (by first | omega | (simp; omega)) _) ?_
          clear hK K
          try simp only [Act.put, List.setIfInBounds_toArray, List.set_cons_zero, List.set_cons_succ]
          refine wpAnyE_one (i := 0) (by kernel_rfl) (by simp only [List.getElem?_toArray, List.getElem?_cons_succ, List.getElem?_cons_zero]; rfl) (fun K hK => ?_)
          go_simp
          skip
          refine hK.out _ _ ((Below.refl _ _).alloc (by first | omega | (simp; omega)) _) ?_
          clear hK K
          try simp only [Act.put, List.setIfInBounds_toArray, List.set_cons_zero, List.set_cons_succ]
          refine wpAnyE_one (i := 4) (by kernel_rfl) (by simp only [List.getElem?_toArray, List.getElem?_cons_succ, List.getElem?_cons_zero]; rfl) (fun K hK => ?_)
          have hl0 : LstR 9 40 (wd.heap.size ≤ ·) ((wd.alloc (.cells #[.int .i64 q.h.kd, .int .i64 q.h.fl, .int .i64 q.h.pa, .int .i64 q.h.sr, .int .i64 q.h.ds, .int .i64 q.h.cn, .int .i64 q.h.sq, .int .i64 q.h.pu, .slice q.A q.n q.c] 40)).alloc (.cells #[] 40)) (some ⟨(wd.heap.size + 1), 0, none⟩) 0 0 [] := by have := (LstR.made 9 (wd.alloc (.cells #[.int .i64 q.h.kd, .int .i64 q.h.fl, .int .i64 q.h.pa, .int .i64 q.h.sr, .int .i64 q.h.ds, .int .i64 q.h.cn, .int .i64 q.h.sq, .int .i64 q.h.pu, .slice q.A q.n q.c] 40)) 40 #[] 0 0 [] rfl (Nat.le_refl _) (by simp) (Nat.zero_le _) (by simp) (by simp)); rw [World.size_alloc] at this; exact this.mono (F' := (wd.heap.size ≤ ·)) (fun k hk => by omega)
          have hbx : Below w.heap.size w ((wd.alloc (.cells #[.int .i64 q.h.kd, .int .i64 q.h.fl, .int .i64 q.h.pa, .int .i64 q.h.sr, .int .i64 q.h.ds, .int .i64 q.h.cn, .int .i64 q.h.sq, .int .i64 q.h.pu, .slice q.A q.n q.c] 40)).alloc (.cells #[] 40)) := ((HBD.out.alloc HBD.out.size (.cells #[.int .i64 q.h.kd, .int .i64 q.h.fl, .int .i64 q.h.pa, .int .i64 q.h.sr, .int .i64 q.h.ds, .int .i64 q.h.cn, .int .i64 q.h.sq, .int .i64 q.h.pu, .slice q.A q.n q.c] 40)).alloc (HBD.out.alloc HBD.out.size (.cells #[.int .i64 q.h.kd, .int .i64 q.h.fl, .int .i64 q.h.pa, .int .i64 q.h.sr, .int .i64 q.h.ds, .int .i64 q.h.cn, .int .i64 q.h.sq, .int .i64 q.h.pu, .slice q.A q.n q.c] 40)).size (.cells #[] 40))
          refine opwp_append_lstR eltP rfl (.tmp 22) (.tmp 25) rfl rfl hl0.tight rfl ((HR.out.below hbx).pre hk) (by omega) ?_
          rintro v w4 ⟨⟨A4, n4, c4, rfl, hl4⟩, hs4⟩
          rw [List.nil_append] at hl4
          have HS4 := Lib.hid hs4
          have hs4b : Below (w.heap.size + 1) ((wd.alloc (.cells #[.int .i64 q.h.kd, .int .i64 q.h.fl, .int .i64 q.h.pa, .int .i64 q.h.sr, .int .i64 q.h.ds, .int .i64 q.h.cn, .int .i64 q.h.sq, .int .i64 q.h.pu, .slice q.A q.n q.c] 40)).alloc (.cells #[] 40)) w4 := hs4.below (by simp; omega) (by rintro x ⟨ad, he, rfl⟩; injection he with he; subst he; show w.heap.size + 1 ≤ (wd.heap.size + 1); omega)
          have HB4 := Lib.hid (hbx.trans (hs4b.mono (Nat.le_succ _)))
          have hz4 : w.heap.size < w4.heap.size := by have := hs4b.size; simp at this; omega
          have HS4B := Lib.hid hs4b
          have HL4 : Hid (LstR 9 40 (w.heap.size < ·) w4 A4 n4 c4 ((flat Pv.cl qs).take (k * 9))) := Lib.hid (hl4.mono (by
            rintro x (⟨ad, he, rfl⟩ | hx)
            · injection he with he; subst he; show w.heap.size < (wd.heap.size + 1); omega
            · have := hbx.size; have h2 : _ ≤ x := hx; simp at h2; omega))
          have hn4 : n4 = k := by have h0 := HQS.out.1; have e1 : _ = n4 * 9 := hl4.1; rw [List.length_take, flat_len Pv.cl_len] at e1; omega
          clear hl0 hbx hl4 hs4 hs4b
          refine hK.out _ _ HS4B.out ?_
          clear hK K
          try simp only [Act.put, List.setIfInBounds_toArray, List.set_cons_zero, List.set_cons_succ]
          refine wpAnyE_one (i := 7) (by kernel_rfl) (by simp only [List.getElem?_toArray, List.getElem?_cons_succ, List.getElem?_cons_zero]; rfl) (fun K hK => ?_)
          have hl7 : LstR 9 40 (w.heap.size < ·) w4 A4 n4 c4 ((flat Pv.cl qs).take (k * 9)) := HL4.out
          have hr7 : RdR 9 w4 (some ⟨wd.heap.size, 0, none⟩) 1 1 q.cl := by have := (RdR.one wd 40 q.cl (Pv.cl_one q)).alloc (.cells #[] 40); exact this.st HS4.out (fun _ ad he => by injection he with he; subst he; rintro ⟨ad2, h2, h3⟩; injection h2 with h2; subst h2; simp at h3)
          have hb7 : Below w.heap.size w w4 := HB4.out
          refine opwp_append_lstR eltP rfl (.tmp 26) (.tmp 28) rfl rfl hl7.tight rfl (by first | exact hr7 | (simp only [World.size_alloc] at hr7; exact hr7)) (by omega) ?_
          rintro v w7 ⟨⟨A7, n7, c7, rfl, hl8⟩, hs7⟩
          have hs7b : Below (w.heap.size + 1) w4 w7 := hs7.below (by first | omega | (simp; omega)) (by rintro x ⟨ad, he, rfl⟩; exact (hl7.blk ad he).1)
          have HB7 := Lib.hid (hb7.trans (hs7b.mono (Nat.le_succ _)))
          have hz7 : w.heap.size < w7.heap.size := by have := hs7b.size; (try simp at this); omega
          have HS7B := Lib.hid hs7b
          have HL7 : Hid (LstR 9 40 (w.heap.size < ·) w7 A7 n7 c7 ((flat Pv.cl qs).take (k * 9) ++ q.cl)) := Lib.hid (hl8.mono (by
            rintro x (⟨ad, he, rfl⟩ | hx)
            · exact (hl7.blk ad he).1
            · have := hb7.size; have h2 : _ ≤ x := hx; have h3 := HB4.out.size; have h4 := HW0.out; (try simp at h2); omega))
          have hn7 : n7 = k + 1 := by have h0 := HQS.out.1; have e1 : _ = n7 * 9 := hl8.1; rw [List.length_append, List.length_take, flat_len Pv.cl_len, Pv.cl_len] at e1; omega
          clear hl7 hr7 hb7 hl8 hs7 hs7b
          refine hK.out _ _ HS7B.out ?_
          clear hK K
          try simp only [Act.put, List.setIfInBounds_toArray, List.set_cons_zero, List.set_cons_succ]
          refine wpAnyE_one (i := 11) (by kernel_rfl) (by simp only [List.getElem?_toArray, List.getElem?_cons_succ, List.getElem?_cons_zero]; rfl) (fun K hK => ?_)
          refine opwp_append_lstR eltP rfl (.tmp 29) (.tmp 32) rfl rfl HL7.out.tight rfl (by have h := (HR.out.below HB7.out).cut hk; first | exact h | (unfold cutR at h; first | exact h | (rw [Nat.sub_self] at h; exact h))) (by omega) ?_
          rintro v w9 ⟨⟨A9, n9, c9, rfl, hl9⟩, hs9⟩
          have hs9b : Below (w.heap.size + 1) w7 w9 := hs9.below hz7 (by rintro x ⟨ad, he, rfl⟩; exact (HL7.out.blk ad he).1)
          have HB9 := Lib.hid (HB7.out.trans (hs9b.mono (Nat.le_succ _)))
          have HS9B := Lib.hid hs9b
          have HL9 : Hid (LstR 9 40 (w.heap.size < ·) w9 A9 n9 c9 ((flat Pv.cl qs).take (k * 9) ++ q.cl ++ (flat Pv.cl qs).drop (k * 9))) := Lib.hid (hl9.mono (by
            rintro x (⟨ad, he, rfl⟩ | hx)
            · exact (HL7.out.blk ad he).1
            · have h2 : _ ≤ x := hx; have h3 := HB7.out.size; have h4 := HW0.out; have h5 := HS7B.out.size; omega))
          clear hl9 hs9 hs9b
          refine hK.out _ _ HS9B.out ?_
          clear hK K
          try simp only [Act.put, List.setIfInBounds_toArray, List.set_cons_zero, List.set_cons_succ]
          (refine takeE (belowTr (w.heap.size + 1)) 12 (by simp only [List.getElem?_toArray, List.getElem?_cons_succ, List.getElem?_cons_zero]; rfl) (by kernel_rfl) (by kernel_rfl) (by kernel_rfl) (by exact fun _ _ _ h => h) (by first | (refine Or.inl ⟨by rfl, ?_⟩; intro W hW; go_simp; try with_reducible rfl) | exact Or.inr ⟨by rfl, rfl⟩) ?_; try simp only [Act.put, List.setIfInBounds_toArray, List.set_cons_zero, List.set_cons_succ])
          refine wpAnyE_done (by kernel_rfl) ?_ _
          clear q1 q2
          go_wp2
          go_ret
          exact with_end HQS.out HPS.out hq0 HF0.out hk HSP.out HL9.out HB9.out
    · obtain rfl : k = n := by omega
      have hd1 : ¬ (k : Int) < k := by omega
      have HSP : Hid (insK q.pk ks = ks.take k ++ q.pk :: ks.drop k) := Lib.hid (insK_split (by rw [HL.out]; exact hk) hno (fun r hr => by have := (List.getElem?_eq_some_iff.1 hr).1; have := HL.out; omega))
      clear hno hb1 hbw z1
      go_wp2
      go_quiet (fail)
      go_wp2_with fail
      refine wp_region_E (Below (w.heap.size + 1)) (by kernel_rfl) (fun wd hbd hsz => ?_)
      have HBD := Lib.hid (HBW.out.trans (((Below.drewN_ wr _).trans hbd).mono HBW.out.size))
      have Z3 := Lib.hid (HZW.out.below ((Below.drewN_ wr _).trans hbd))
      have hwd : w.heap.size < wd.heap.size := Z3.out.lt
      have q1 := fun V => eltP.run_pre A k c k (by omega) hnc V
      have q2 := fun V => eltP.run_cut A k c k hk hnc V
      clear hsz
      (refine takeE (belowTr (w.heap.size + 1)) 1 (by simp only [List.getElem?_toArray, List.getElem?_cons_succ, List.getElem?_cons_zero]; rfl) (by kernel_rfl) (by kernel_rfl) (by kernel_rfl) (by exact fun _ _ _ h => h) (by first | (refine Or.inl ⟨by rfl, ?_⟩; intro W hW; go_simp; try with_reducible rfl) | exact Or.inr ⟨by rfl, rfl⟩) ?_; try simp only [Act.put, List.setIfInBounds_toArray, List.set_cons_zero, List.set_cons_succ])
      (refine takeE (belowTr (w.heap.size + 1)) 2 (by simp only [List.getElem?_toArray, List.getElem?_cons_succ, List.getElem?_cons_zero]; rfl) (by kernel_rfl) (by kernel_rfl) (by kernel_rfl) (by exact fun _ _ _ h => h) (by first | (refine Or.inl ⟨by rfl, ?_⟩; intro W hW; go_simp; try with_reducible rfl) | exact Or.inr ⟨by rfl, rfl⟩) ?_; try simp only [Act.put, List.setIfInBounds_toArray, List.set_cons_zero, List.set_cons_succ])
      (refine takeE (belowTr (w.heap.size + 1)) 5 (by simp only [List.getElem?_toArray, List.getElem?_cons_succ, List.getElem?_cons_zero]; rfl) (by kernel_rfl) (by kernel_rfl) (by kernel_rfl) (by exact fun _ _ _ h => h) (by first | (refine Or.inl ⟨by rfl, ?_⟩; intro W hW; exact exec_loadRow rowP (.tmp 3) rfl w.heap.size 0 rfl q (Bk.pk (Z3.out.keep hW (Nat.lt_succ_self _)))) | exact Or.inr ⟨by rfl, rfl⟩) ?_; try simp only [Act.put, List.setIfInBounds_toArray, List.set_cons_zero, List.set_cons_succ])
      (refine takeE (belowTr (w.heap.size + 1)) 8 (by simp only [List.getElem?_toArray, List.getElem?_cons_succ, List.getElem?_cons_zero]; rfl) (by kernel_rfl) (by kernel_rfl) (by kernel_rfl) (by exact fun _ _ _ h => h) (by first | (refine Or.inl ⟨by rfl, ?_⟩; intro W hW; go_simp; try with_reducible rfl) | exact Or.inr ⟨by rfl, rfl⟩) ?_; try simp only [Act.put, List.setIfInBounds_toArray, List.set_cons_zero, List.set_cons_succ])
      (refine takeE (belowTr (w.heap.size + 1)) 9 (by simp only [List.getElem?_toArray, List.getElem?_cons_succ, List.getElem?_cons_zero]; rfl) (by kernel_rfl) (by kernel_rfl) (by kernel_rfl) (by exact fun _ _ _ h => h) (by first | (refine Or.inl ⟨by rfl, ?_⟩; intro W hW; go_simp; try with_reducible rfl) | exact Or.inr ⟨by rfl, rfl⟩) ?_; try simp only [Act.put, List.setIfInBounds_toArray, List.set_cons_zero, List.set_cons_succ])
      (refine takeE (belowTr (w.heap.size + 1)) 3 (by simp only [List.getElem?_toArray, List.getElem?_cons_succ, List.getElem?_cons_zero]; rfl) (by kernel_rfl) (by kernel_rfl) (by kernel_rfl) (by exact fun _ _ _ h => h) (by first | (refine Or.inl ⟨by rfl, ?_⟩; intro W hW; go_simp; try with_reducible rfl) | exact Or.inr ⟨by rfl, rfl⟩) ?_; try simp only [Act.put, List.setIfInBounds_toArray, List.set_cons_zero, List.set_cons_succ])
      (refine takeE (belowTr (w.heap.size + 1)) 10 (by simp only [List.getElem?_toArray, List.getElem?_cons_succ, List.getElem?_cons_zero]; rfl) (by kernel_rfl) (by kernel_rfl) (by kernel_rfl) (by exact fun _ _ _ h => h) (by first | (refine Or.inl ⟨by rfl, ?_⟩; intro W hW; go_simp; try with_reducible rfl) | exact Or.inr ⟨by rfl, rfl⟩) ?_; try simp only [Act.put, List.setIfInBounds_toArray, List.set_cons_zero, List.set_cons_succ])
      refine wpAnyE_two (i := 0) (j := 6) (by kernel_rfl) (by simp only [List.getElem?_toArray, List.getElem?_cons_succ, List.getElem?_cons_zero]; rfl) (by simp only [List.getElem?_toArray, List.getElem?_cons_succ, List.getElem?_cons_zero]; rfl) (fun K hK => ?_) (fun K hK => ?_)
      ·
        go_simp
        skip
        refine hK.out _ _ ((Below.refl _ _).alloc (by first | omega | (simp; omega)) _) ?_
        clear hK K
        try simp only [Act.put, List.setIfInBounds_toArray, List.set_cons_zero, List.set_cons_succ]
        refine wpAnyE_two (i := 4) (j := 6) (by kernel_rfl) (by simp only [List.getElem?_toArray, List.getElem?_cons_succ, List.getElem?_cons_zero]; rfl) (by simp only [List.getElem?_toArray, List.getElem?_cons_succ, List.getElem?_cons_zero]; rfl) (fun K hK => ?_) (fun K hK => ?_)
        ·
          have hl0 : LstR 9 40 (wd.heap.size ≤ ·) (wd.alloc (.cells #[] 40)) (some ⟨wd.heap.size, 0, none⟩) 0 0 [] := by have := (LstR.made 9 wd 40 #[] 0 0 [] rfl (Nat.le_refl _) (by simp) (Nat.zero_le _) (by simp) (by simp)); exact this.mono (F' := (wd.heap.size ≤ ·)) (fun k hk => hk)
          have hbx : Below w.heap.size w (wd.alloc (.cells #[] 40)) := (HBD.out.alloc HBD.out.size (.cells #[] 40))
          refine opwp_append_lstR eltP rfl (.tmp 22) (.tmp 25) rfl rfl hl0.tight rfl ((HR.out.below hbx).pre hk) (by omega) ?_
          rintro v w4 ⟨⟨A4, n4, c4, rfl, hl4⟩, hs4⟩
          rw [List.nil_append] at hl4
          have HS4 := Lib.hid hs4
          have hs4b : Below (w.heap.size + 1) (wd.alloc (.cells #[] 40)) w4 := hs4.below (by simp; omega) (by rintro x ⟨ad, he, rfl⟩; injection he with he; subst he; show w.heap.size + 1 ≤ wd.heap.size; omega)
          have HB4 := Lib.hid (hbx.trans (hs4b.mono (Nat.le_succ _)))
          have hz4 : w.heap.size < w4.heap.size := by have := hs4b.size; simp at this; omega
          have HS4B := Lib.hid hs4b
          have HL4 : Hid (LstR 9 40 (w.heap.size < ·) w4 A4 n4 c4 ((flat Pv.cl qs).take (k * 9))) := Lib.hid (hl4.mono (by
            rintro x (⟨ad, he, rfl⟩ | hx)
            · injection he with he; subst he; show w.heap.size < wd.heap.size; omega
            · have := hbx.size; have h2 : _ ≤ x := hx; simp at h2; omega))
          have hn4 : n4 = k := by have h0 := HQS.out.1; have e1 : _ = n4 * 9 := hl4.1; rw [List.length_take, flat_len Pv.cl_len] at e1; omega
          clear hl0 hbx hl4 hs4 hs4b
          refine hK.out _ _ HS4B.out ?_
          clear hK K
          try simp only [Act.put, List.setIfInBounds_toArray, List.set_cons_zero, List.set_cons_succ]
          refine wpAnyE_one (i := 6) (by kernel_rfl) (by simp only [List.getElem?_toArray, List.getElem?_cons_succ, List.getElem?_cons_zero]; rfl) (fun K hK => ?_)
          refine opwp_build_row eltP rfl (.tmp 27) rfl (xs := q.cl) rfl rfl ?_
          refine hK.out _ _ ((Below.refl _ _).alloc (by first | omega | (simp; omega)) _) ?_
          clear hK K
          try simp only [Act.put, List.setIfInBounds_toArray, List.set_cons_zero, List.set_cons_succ]
          refine wpAnyE_one (i := 7) (by kernel_rfl) (by simp only [List.getElem?_toArray, List.getElem?_cons_succ, List.getElem?_cons_zero]; rfl) (fun K hK => ?_)
          have hl7 : LstR 9 40 (w.heap.size < ·) (w4.alloc (.cells #[.int .i64 q.h.kd, .int .i64 q.h.fl, .int .i64 q.h.pa, .int .i64 q.h.sr, .int .i64 q.h.ds, .int .i64 q.h.cn, .int .i64 q.h.sq, .int .i64 q.h.pu, .slice q.A q.n q.c] 40)) A4 n4 c4 ((flat Pv.cl qs).take (k * 9)) := HL4.out.alloc _
          have hr7 : RdR 9 (w4.alloc (.cells #[.int .i64 q.h.kd, .int .i64 q.h.fl, .int .i64 q.h.pa, .int .i64 q.h.sr, .int .i64 q.h.ds, .int .i64 q.h.cn, .int .i64 q.h.sq, .int .i64 q.h.pu, .slice q.A q.n q.c] 40)) (some ⟨w4.heap.size, 0, none⟩) 1 1 q.cl := RdR.one w4 40 q.cl (Pv.cl_one q)
          have hb7 : Below w.heap.size w (w4.alloc (.cells #[.int .i64 q.h.kd, .int .i64 q.h.fl, .int .i64 q.h.pa, .int .i64 q.h.sr, .int .i64 q.h.ds, .int .i64 q.h.cn, .int .i64 q.h.sq, .int .i64 q.h.pu, .slice q.A q.n q.c] 40)) := (HB4.out.alloc HB4.out.size (.cells #[.int .i64 q.h.kd, .int .i64 q.h.fl, .int .i64 q.h.pa, .int .i64 q.h.sr, .int .i64 q.h.ds, .int .i64 q.h.cn, .int .i64 q.h.sq, .int .i64 q.h.pu, .slice q.A q.n q.c] 40))
          refine opwp_append_lstR eltP rfl (.tmp 26) (.tmp 28) rfl rfl hl7.tight rfl (by first | exact hr7 | (simp only [World.size_alloc] at hr7; exact hr7)) (by omega) ?_
          rintro v w7 ⟨⟨A7, n7, c7, rfl, hl8⟩, hs7⟩
          have hs7b : Below (w.heap.size + 1) (w4.alloc (.cells #[.int .i64 q.h.kd, .int .i64 q.h.fl, .int .i64 q.h.pa, .int .i64 q.h.sr, .int .i64 q.h.ds, .int .i64 q.h.cn, .int .i64 q.h.sq, .int .i64 q.h.pu, .slice q.A q.n q.c] 40)) w7 := hs7.below (by first | omega | (simp; omega)) (by rintro x ⟨ad, he, rfl⟩; exact (hl7.blk ad he).1)
          have HB7 := Lib.hid (hb7.trans (hs7b.mono (Nat.le_succ _)))
          have hz7 : w.heap.size < w7.heap.size := by have := hs7b.size; (try simp at this); omega
          have HS7B := Lib.hid hs7b
          have HL7 : Hid (LstR 9 40 (w.heap.size < ·) w7 A7 n7 c7 ((flat Pv.cl qs).take (k * 9) ++ q.cl)) := Lib.hid (hl8.mono (by
            rintro x (⟨ad, he, rfl⟩ | hx)
            · exact (hl7.blk ad he).1
            · have := hb7.size; have h2 : _ ≤ x := hx; have h3 := HB4.out.size; have h4 := HW0.out; (try simp at h2); omega))
          have hn7 : n7 = k + 1 := by have h0 := HQS.out.1; have e1 : _ = n7 * 9 := hl8.1; rw [List.length_append, List.length_take, flat_len Pv.cl_len, Pv.cl_len] at e1; omega
          clear hl7 hr7 hb7 hl8 hs7 hs7b
          refine hK.out _ _ HS7B.out ?_
          clear hK K
          try simp only [Act.put, List.setIfInBounds_toArray, List.set_cons_zero, List.set_cons_succ]
          refine wpAnyE_one (i := 11) (by kernel_rfl) (by simp only [List.getElem?_toArray, List.getElem?_cons_succ, List.getElem?_cons_zero]; rfl) (fun K hK => ?_)
          refine opwp_append_lstR eltP rfl (.tmp 29) (.tmp 32) rfl rfl HL7.out.tight rfl (by have h := (HR.out.below HB7.out).cut hk; first | exact h | (unfold cutR at h; first | exact h | (rw [Nat.sub_self] at h; exact h))) (by omega) ?_
          rintro v w9 ⟨⟨A9, n9, c9, rfl, hl9⟩, hs9⟩
          have hs9b : Below (w.heap.size + 1) w7 w9 := hs9.below hz7 (by rintro x ⟨ad, he, rfl⟩; exact (HL7.out.blk ad he).1)
          have HB9 := Lib.hid (HB7.out.trans (hs9b.mono (Nat.le_succ _)))
          have HS9B := Lib.hid hs9b
          have HL9 : Hid (LstR 9 40 (w.heap.size < ·) w9 A9 n9 c9 ((flat Pv.cl qs).take (k * 9) ++ q.cl ++ (flat Pv.cl qs).drop (k * 9))) := Lib.hid (hl9.mono (by
            rintro x (⟨ad, he, rfl⟩ | hx)
            · exact (HL7.out.blk ad he).1
            · have h2 : _ ≤ x := hx; have h3 := HB7.out.size; have h4 := HW0.out; have h5 := HS7B.out.size; omega))
          clear hl9 hs9 hs9b
          refine hK.out _ _ HS9B.out ?_
          clear hK K
          try simp only [Act.put, List.setIfInBounds_toArray, List.set_cons_zero, List.set_cons_succ]
          (refine takeE (belowTr (w.heap.size + 1)) 12 (by simp only [List.getElem?_toArray, List.getElem?_cons_succ, List.getElem?_cons_zero]; rfl) (by kernel_rfl) (by kernel_rfl) (by kernel_rfl) (by exact fun _ _ _ h => h) (by first | (refine Or.inl ⟨by rfl, ?_⟩; intro W hW; go_simp; try with_reducible rfl) | exact Or.inr ⟨by rfl, rfl⟩) ?_; try simp only [Act.put, List.setIfInBounds_toArray, List.set_cons_zero, List.set_cons_succ])
          refine wpAnyE_done (by kernel_rfl) ?_ _
          clear q1 q2
          go_wp2
          go_ret
          exact with_end HQS.out HPS.out hq0 HF0.out hk HSP.out HL9.out HB9.out
        ·
          refine opwp_build_row eltP rfl (.tmp 27) rfl (xs := q.cl) rfl rfl ?_
          refine hK.out _ _ ((Below.refl _ _).alloc (by first | omega | (simp; omega)) _) ?_
          clear hK K
          try simp only [Act.put, List.setIfInBounds_toArray, List.set_cons_zero, List.set_cons_succ]
          refine wpAnyE_one (i := 4) (by kernel_rfl) (by simp only [List.getElem?_toArray, List.getElem?_cons_succ, List.getElem?_cons_zero]; rfl) (fun K hK => ?_)
          have hl0 : LstR 9 40 (wd.heap.size ≤ ·) ((wd.alloc (.cells #[] 40)).alloc (.cells #[.int .i64 q.h.kd, .int .i64 q.h.fl, .int .i64 q.h.pa, .int .i64 q.h.sr, .int .i64 q.h.ds, .int .i64 q.h.cn, .int .i64 q.h.sq, .int .i64 q.h.pu, .slice q.A q.n q.c] 40)) (some ⟨wd.heap.size, 0, none⟩) 0 0 [] := by have := (LstR.made 9 wd 40 #[] 0 0 [] rfl (Nat.le_refl _) (by simp) (Nat.zero_le _) (by simp) (by simp)); exact (this.alloc _).mono (F' := (wd.heap.size ≤ ·)) (fun k hk => hk)
          have hbx : Below w.heap.size w ((wd.alloc (.cells #[] 40)).alloc (.cells #[.int .i64 q.h.kd, .int .i64 q.h.fl, .int .i64 q.h.pa, .int .i64 q.h.sr, .int .i64 q.h.ds, .int .i64 q.h.cn, .int .i64 q.h.sq, .int .i64 q.h.pu, .slice q.A q.n q.c] 40)) := ((HBD.out.alloc HBD.out.size (.cells #[] 40)).alloc (HBD.out.alloc HBD.out.size (.cells #[] 40)).size (.cells #[.int .i64 q.h.kd, .int .i64 q.h.fl, .int .i64 q.h.pa, .int .i64 q.h.sr, .int .i64 q.h.ds, .int .i64 q.h.cn, .int .i64 q.h.sq, .int .i64 q.h.pu, .slice q.A q.n q.c] 40))
          refine opwp_append_lstR eltP rfl (.tmp 22) (.tmp 25) rfl rfl hl0.tight rfl ((HR.out.below hbx).pre hk) (by omega) ?_
          rintro v w4 ⟨⟨A4, n4, c4, rfl, hl4⟩, hs4⟩
          rw [List.nil_append] at hl4
          have HS4 := Lib.hid hs4
          have hs4b : Below (w.heap.size + 1) ((wd.alloc (.cells #[] 40)).alloc (.cells #[.int .i64 q.h.kd, .int .i64 q.h.fl, .int .i64 q.h.pa, .int .i64 q.h.sr, .int .i64 q.h.ds, .int .i64 q.h.cn, .int .i64 q.h.sq, .int .i64 q.h.pu, .slice q.A q.n q.c] 40)) w4 := hs4.below (by simp; omega) (by rintro x ⟨ad, he, rfl⟩; injection he with he; subst he; show w.heap.size + 1 ≤ wd.heap.size; omega)
          have HB4 := Lib.hid (hbx.trans (hs4b.mono (Nat.le_succ _)))
          have hz4 : w.heap.size < w4.heap.size := by have := hs4b.size; simp at this; omega
          have HS4B := Lib.hid hs4b
          have HL4 : Hid (LstR 9 40 (w.heap.size < ·) w4 A4 n4 c4 ((flat Pv.cl qs).take (k * 9))) := Lib.hid (hl4.mono (by
            rintro x (⟨ad, he, rfl⟩ | hx)
            · injection he with he; subst he; show w.heap.size < wd.heap.size; omega
            · have := hbx.size; have h2 : _ ≤ x := hx; simp at h2; omega))
          have hn4 : n4 = k := by have h0 := HQS.out.1; have e1 : _ = n4 * 9 := hl4.1; rw [List.length_take, flat_len Pv.cl_len] at e1; omega
          clear hl0 hbx hl4 hs4 hs4b
          refine hK.out _ _ HS4B.out ?_
          clear hK K
          try simp only [Act.put, List.setIfInBounds_toArray, List.set_cons_zero, List.set_cons_succ]
          refine wpAnyE_one (i := 7) (by kernel_rfl) (by simp only [List.getElem?_toArray, List.getElem?_cons_succ, List.getElem?_cons_zero]; rfl) (fun K hK => ?_)
          have hl7 : LstR 9 40 (w.heap.size < ·) w4 A4 n4 c4 ((flat Pv.cl qs).take (k * 9)) := HL4.out
          have hr7 : RdR 9 w4 (some ⟨(wd.alloc (.cells #[] 40)).heap.size, 0, none⟩) 1 1 q.cl := by have := RdR.one (wd.alloc (.cells #[] 40)) 40 q.cl (Pv.cl_one q); exact this.st HS4.out (fun _ ad he => by injection he with he; subst he; rintro ⟨ad2, h2, h3⟩; injection h2 with h2; subst h2; simp at h3)
          have hb7 : Below w.heap.size w w4 := HB4.out
          refine opwp_append_lstR eltP rfl (.tmp 26) (.tmp 28) rfl rfl hl7.tight rfl (by first | exact hr7 | (simp only [World.size_alloc] at hr7; exact hr7)) (by omega) ?_
          rintro v w7 ⟨⟨A7, n7, c7, rfl, hl8⟩, hs7⟩
          have hs7b : Below (w.heap.size + 1) w4 w7 := hs7.below (by first | omega | (simp; omega)) (by rintro x ⟨ad, he, rfl⟩; exact (hl7.blk ad he).1)
          have HB7 := Lib.hid (hb7.trans (hs7b.mono (Nat.le_succ _)))
          have hz7 : w.heap.size < w7.heap.size := by have := hs7b.size; (try simp at this); omega
          have HS7B := Lib.hid hs7b
          have HL7 : Hid (LstR 9 40 (w.heap.size < ·) w7 A7 n7 c7 ((flat Pv.cl qs).take (k * 9) ++ q.cl)) := Lib.hid (hl8.mono (by
            rintro x (⟨ad, he, rfl⟩ | hx)
            · exact (hl7.blk ad he).1
            · have := hb7.size; have h2 : _ ≤ x := hx; have h3 := HB4.out.size; have h4 := HW0.out; (try simp at h2); omega))
          have hn7 : n7 = k + 1 := by have h0 := HQS.out.1; have e1 : _ = n7 * 9 := hl8.1; rw [List.length_append, List.length_take, flat_len Pv.cl_len, Pv.cl_len] at e1; omega
          clear hl7 hr7 hb7 hl8 hs7 hs7b
          refine hK.out _ _ HS7B.out ?_
          clear hK K
          try simp only [Act.put, List.setIfInBounds_toArray, List.set_cons_zero, List.set_cons_succ]
          refine wpAnyE_one (i := 11) (by kernel_rfl) (by simp only [List.getElem?_toArray, List.getElem?_cons_succ, List.getElem?_cons_zero]; rfl) (fun K hK => ?_)
          refine opwp_append_lstR eltP rfl (.tmp 29) (.tmp 32) rfl rfl HL7.out.tight rfl (by have h := (HR.out.below HB7.out).cut hk; first | exact h | (unfold cutR at h; first | exact h | (rw [Nat.sub_self] at h; exact h))) (by omega) ?_
          rintro v w9 ⟨⟨A9, n9, c9, rfl, hl9⟩, hs9⟩
          have hs9b : Below (w.heap.size + 1) w7 w9 := hs9.below hz7 (by rintro x ⟨ad, he, rfl⟩; exact (HL7.out.blk ad he).1)
          have HB9 := Lib.hid (HB7.out.trans (hs9b.mono (Nat.le_succ _)))
          have HS9B := Lib.hid hs9b
          have HL9 : Hid (LstR 9 40 (w.heap.size < ·) w9 A9 n9 c9 ((flat Pv.cl qs).take (k * 9) ++ q.cl ++ (flat Pv.cl qs).drop (k * 9))) := Lib.hid (hl9.mono (by
            rintro x (⟨ad, he, rfl⟩ | hx)
            · exact (HL7.out.blk ad he).1
            · have h2 : _ ≤ x := hx; have h3 := HB7.out.size; have h4 := HW0.out; have h5 := HS7B.out.size; omega))
          clear hl9 hs9 hs9b
          refine hK.out _ _ HS9B.out ?_
          clear hK K
          try simp only [Act.put, List.setIfInBounds_toArray, List.set_cons_zero, List.set_cons_succ]
          (refine takeE (belowTr (w.heap.size + 1)) 12 (by simp only [List.getElem?_toArray, List.getElem?_cons_succ, List.getElem?_cons_zero]; rfl) (by kernel_rfl) (by kernel_rfl) (by kernel_rfl) (by exact fun _ _ _ h => h) (by first | (refine Or.inl ⟨by rfl, ?_⟩; intro W hW; go_simp; try with_reducible rfl) | exact Or.inr ⟨by rfl, rfl⟩) ?_; try simp only [Act.put, List.setIfInBounds_toArray, List.set_cons_zero, List.set_cons_succ])
          refine wpAnyE_done (by kernel_rfl) ?_ _
          clear q1 q2
          go_wp2
          go_ret
          exact with_end HQS.out HPS.out hq0 HF0.out hk HSP.out HL9.out HB9.out
      ·
        refine opwp_build_row eltP rfl (.tmp 27) rfl (xs := q.cl) rfl rfl ?_
        refine hK.out _ _ ((Below.refl _ _).alloc (by first | omega | (simp; omega)) _) ?_
        clear hK K
        try simp only [Act.put, List.setIfInBounds_toArray, List.set_cons_zero, List.set_cons_succ]
        refine wpAnyE_one (i := 0) (by kernel_rfl) (by simp only [List.getElem?_toArray, List.getElem?_cons_succ, List.getElem?_cons_zero]; rfl) (fun K hK => ?_)
        go_simp
        skip
        refine hK.out _ _ ((Below.refl _ _).alloc (by first | omega | (simp; omega)) _) ?_
        clear hK K
        try simp only [Act.put, List.setIfInBounds_toArray, List.set_cons_zero, List.set_cons_succ]
        refine wpAnyE_one (i := 4) (by kernel_rfl) (by simp only [List.getElem?_toArray, List.getElem?_cons_succ, List.getElem?_cons_zero]; rfl) (fun K hK => ?_)
        have hl0 : LstR 9 40 (wd.heap.size ≤ ·) ((wd.alloc (.cells #[.int .i64 q.h.kd, .int .i64 q.h.fl, .int .i64 q.h.pa, .int .i64 q.h.sr, .int .i64 q.h.ds, .int .i64 q.h.cn, .int .i64 q.h.sq, .int .i64 q.h.pu, .slice q.A q.n q.c] 40)).alloc (.cells #[] 40)) (some ⟨(wd.heap.size + 1), 0, none⟩) 0 0 [] := by have := (LstR.made 9 (wd.alloc (.cells #[.int .i64 q.h.kd, .int .i64 q.h.fl, .int .i64 q.h.pa, .int .i64 q.h.sr, .int .i64 q.h.ds, .int .i64 q.h.cn, .int .i64 q.h.sq, .int .i64 q.h.pu, .slice q.A q.n q.c] 40)) 40 #[] 0 0 [] rfl (Nat.le_refl _) (by simp) (Nat.zero_le _) (by simp) (by simp)); rw [World.size_alloc] at this; exact this.mono (F' := (wd.heap.size ≤ ·)) (fun k hk => by omega)
        have hbx : Below w.heap.size w ((wd.alloc (.cells #[.int .i64 q.h.kd, .int .i64 q.h.fl, .int .i64 q.h.pa, .int .i64 q.h.sr, .int .i64 q.h.ds, .int .i64 q.h.cn, .int .i64 q.h.sq, .int .i64 q.h.pu, .slice q.A q.n q.c] 40)).alloc (.cells #[] 40)) := ((HBD.out.alloc HBD.out.size (.cells #[.int .i64 q.h.kd, .int .i64 q.h.fl, .int .i64 q.h.pa, .int .i64 q.h.sr, .int .i64 q.h.ds, .int .i64 q.h.cn, .int .i64 q.h.sq, .int .i64 q.h.pu, .slice q.A q.n q.c] 40)).alloc (HBD.out.alloc HBD.out.size (.cells #[.int .i64 q.h.kd, .int .i64 q.h.fl, .int .i64 q.h.pa, .int .i64 q.h.sr, .int .i64 q.h.ds, .int .i64 q.h.cn, .int .i64 q.h.sq, .int .i64 q.h.pu, .slice q.A q.n q.c] 40)).size (.cells #[] 40))
        refine opwp_append_lstR eltP rfl (.tmp 22) (.tmp 25) rfl rfl hl0.tight rfl ((HR.out.below hbx).pre hk) (by omega) ?_
        rintro v w4 ⟨⟨A4, n4, c4, rfl, hl4⟩, hs4⟩
        rw [List.nil_append] at hl4
        have HS4 := Lib.hid hs4
        have hs4b : Below (w.heap.size + 1) ((wd.alloc (.cells #[.int .i64 q.h.kd, .int .i64 q.h.fl, .int .i64 q.h.pa, .int .i64 q.h.sr, .int .i64 q.h.ds, .int .i64 q.h.cn, .int .i64 q.h.sq, .int .i64 q.h.pu, .slice q.A q.n q.c] 40)).alloc (.cells #[] 40)) w4 := hs4.below (by simp; omega) (by rintro x ⟨ad, he, rfl⟩; injection he with he; subst he; show w.heap.size + 1 ≤ (wd.heap.size + 1); omega)
        have HB4 := Lib.hid (hbx.trans (hs4b.mono (Nat.le_succ _)))
        have hz4 : w.heap.size < w4.heap.size := by have := hs4b.size; simp at this; omega
        have HS4B := Lib.hid hs4b
        have HL4 : Hid (LstR 9 40 (w.heap.size < ·) w4 A4 n4 c4 ((flat Pv.cl qs).take (k * 9))) := Lib.hid (hl4.mono (by
          rintro x (⟨ad, he, rfl⟩ | hx)
          · injection he with he; subst he; show w.heap.size < (wd.heap.size + 1); omega
          · have := hbx.size; have h2 : _ ≤ x := hx; simp at h2; omega))
        have hn4 : n4 = k := by have h0 := HQS.out.1; have e1 : _ = n4 * 9 := hl4.1; rw [List.length_take, flat_len Pv.cl_len] at e1; omega
        clear hl0 hbx hl4 hs4 hs4b
        refine hK.out _ _ HS4B.out ?_
        clear hK K
        try simp only [Act.put, List.setIfInBounds_toArray, List.set_cons_zero, List.set_cons_succ]
        refine wpAnyE_one (i := 7) (by kernel_rfl) (by simp only [List.getElem?_toArray, List.getElem?_cons_succ, List.getElem?_cons_zero]; rfl) (fun K hK => ?_)
        have hl7 : LstR 9 40 (w.heap.size < ·) w4 A4 n4 c4 ((flat Pv.cl qs).take (k * 9)) := HL4.out
        have hr7 : RdR 9 w4 (some ⟨wd.heap.size, 0, none⟩) 1 1 q.cl := by have := (RdR.one wd 40 q.cl (Pv.cl_one q)).alloc (.cells #[] 40); exact this.st HS4.out (fun _ ad he => by injection he with he; subst he; rintro ⟨ad2, h2, h3⟩; injection h2 with h2; subst h2; simp at h3)
        have hb7 : Below w.heap.size w w4 := HB4.out
        refine opwp_append_lstR eltP rfl (.tmp 26) (.tmp 28) rfl rfl hl7.tight rfl (by first | exact hr7 | (simp only [World.size_alloc] at hr7; exact hr7)) (by omega) ?_
        rintro v w7 ⟨⟨A7, n7, c7, rfl, hl8⟩, hs7⟩
        have hs7b : Below (w.heap.size + 1) w4 w7 := hs7.below (by first | omega | (simp; omega)) (by rintro x ⟨ad, he, rfl⟩; exact (hl7.blk ad he).1)
        have HB7 := Lib.hid (hb7.trans (hs7b.mono (Nat.le_succ _)))
        have hz7 : w.heap.size < w7.heap.size := by have := hs7b.size; (try simp at this); omega
        have HS7B := Lib.hid hs7b
        have HL7 : Hid (LstR 9 40 (w.heap.size < ·) w7 A7 n7 c7 ((flat Pv.cl qs).take (k * 9) ++ q.cl)) := Lib.hid (hl8.mono (by
          rintro x (⟨ad, he, rfl⟩ | hx)
          · exact (hl7.blk ad he).1
          · have := hb7.size; have h2 : _ ≤ x := hx; have h3 := HB4.out.size; have h4 := HW0.out; (try simp at h2); omega))
        have hn7 : n7 = k + 1 := by have h0 := HQS.out.1; have e1 : _ = n7 * 9 := hl8.1; rw [List.length_append, List.length_take, flat_len Pv.cl_len, Pv.cl_len] at e1; omega
        clear hl7 hr7 hb7 hl8 hs7 hs7b
        refine hK.out _ _ HS7B.out ?_
        clear hK K
        try simp only [Act.put, List.setIfInBounds_toArray, List.set_cons_zero, List.set_cons_succ]
        refine wpAnyE_one (i := 11) (by kernel_rfl) (by simp only [List.getElem?_toArray, List.getElem?_cons_succ, List.getElem?_cons_zero]; rfl) (fun K hK => ?_)
        refine opwp_append_lstR eltP rfl (.tmp 29) (.tmp 32) rfl rfl HL7.out.tight rfl (by have h := (HR.out.below HB7.out).cut hk; first | exact h | (unfold cutR at h; first | exact h | (rw [Nat.sub_self] at h; exact h))) (by omega) ?_
        rintro v w9 ⟨⟨A9, n9, c9, rfl, hl9⟩, hs9⟩
        have hs9b : Below (w.heap.size + 1) w7 w9 := hs9.below hz7 (by rintro x ⟨ad, he, rfl⟩; exact (HL7.out.blk ad he).1)
        have HB9 := Lib.hid (HB7.out.trans (hs9b.mono (Nat.le_succ _)))
        have HS9B := Lib.hid hs9b
        have HL9 : Hid (LstR 9 40 (w.heap.size < ·) w9 A9 n9 c9 ((flat Pv.cl qs).take (k * 9) ++ q.cl ++ (flat Pv.cl qs).drop (k * 9))) := Lib.hid (hl9.mono (by
          rintro x (⟨ad, he, rfl⟩ | hx)
          · exact (HL7.out.blk ad he).1
          · have h2 : _ ≤ x := hx; have h3 := HB7.out.size; have h4 := HW0.out; have h5 := HS7B.out.size; omega))
        clear hl9 hs9 hs9b
        refine hK.out _ _ HS9B.out ?_
        clear hK K
        try simp only [Act.put, List.setIfInBounds_toArray, List.set_cons_zero, List.set_cons_succ]
        (refine takeE (belowTr (w.heap.size + 1)) 12 (by simp only [List.getElem?_toArray, List.getElem?_cons_succ, List.getElem?_cons_zero]; rfl) (by kernel_rfl) (by kernel_rfl) (by kernel_rfl) (by exact fun _ _ _ h => h) (by first | (refine Or.inl ⟨by rfl, ?_⟩; intro W hW; go_simp; try with_reducible rfl) | exact Or.inr ⟨by rfl, rfl⟩) ?_; try simp only [Act.put, List.setIfInBounds_toArray, List.set_cons_zero, List.set_cons_succ])
        refine wpAnyE_done (by kernel_rfl) ?_ _
        clear q1 q2
        go_wp2
        go_ret
        exact with_end HQS.out HPS.out hq0 HF0.out hk HSP.out HL9.out HB9.out
end
end Go.Proofs.Ytmmjhijgedboiaa
