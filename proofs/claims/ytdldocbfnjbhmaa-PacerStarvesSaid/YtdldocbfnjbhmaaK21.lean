/- The law's own words: keys of the one kind and of the other; the page's example. -/
import Derived.Test.YtdldocbfnjbhmaaK20
set_option linter.unusedSimpArgs false
set_option linter.unusedVariables false
set_option maxRecDepth 100000
namespace Go.Proofs.Ytdldocbfnjbhmaa
open Go.RowKit Go.Shelf
theorem range_belowB {w w1 : World} {B g o : Nat} {cs : List Value} (h : w.rangeAt g o cs) (hg : g < B) (hb : Below B w w1) : w1.rangeAt g o cs := fun j v hv => (hb.cell (p := ⟨g, o + j, none⟩) hg).trans (h j v hv)
theorem opwp_append_lstR {P : Program} {w : World} {t e : TypeId} {zs : List Value} {bytes : Nat} {F : Nat → Prop} {A B : Option Addr} {n c m d : Nat} {cs us : List Value} {o : Oper} {a : Act} {ops : Array Oper} {K : Act → World → Prop} {Q : Exit → Act → World → Prop} (E : EltS P t e zs bytes) (hgd : o.guard = none) (s x : Operand)
    (ho : o.op = .call { callee := .builtin .append, args := #[s, x], argTypes := #[t, t] })
    (hs : a.eval s = .slice A n c) (h : LstR zs.length e F w A n c cs) (hx : a.eval x = .slice B m d) (hu : RdR zs.length w B m d us) (hlen : (n + m) * bytes ≤ 140737488355328)
    (hq : ∀ v w', ApdR zs.length e F w v (cs ++ us) w' → K (a.put o.dst v) w') : if Region.wanted o (yielded ops a.tmps) = true then Oper.wp P o a w K Q else K (a.put o.dst undef) w := by
  obtain ⟨v, w', hrun, hap⟩ := run_append_lstR E o.type h hu hlen
  rw [if_pos (by simp only [Region.wanted, hgd])]
  unfold Oper.wp execOp
  simp only [ho, resolve, invoke, builtin, Sem.run_bind, Sem.run_pure, Result.andThen_ok, List.map_toArray, List.map_cons, List.map_nil, hs, hx, hrun]
  exact hq v w' hap
theorem l_of (k : Ky) (w : World) : Calls Try.prog 14 #[.agg #[.int .i64 k.s, .int .i64 k.c]] w fun e w' => e = .returned (.agg #[.int .i64 k.s, .int .i64 k.c]) ∧ Below w.heap.size w w' := by
  have hb : Below w.heap.size w ((w.alloc (.cells #[.int .i64 k.s, .int .i64 k.c] 35)).alloc (.cells #[.int .i64 zK.s, .int .i64 zK.c] 39)) := ((Below.refl _ w).alloc (Nat.le_refl _) _).alloc (by simp) _
  have z := Bk.new (w.alloc (.cells #[.int .i64 k.s, .int .i64 k.c] 35)) 39 zK.cl
  rw [World.size_alloc] at z
  obtain ⟨W, hW⟩ : ∃ W, W = (w.alloc (.cells #[.int .i64 k.s, .int .i64 k.c] 35)).alloc (.cells #[.int .i64 zK.s, .int .i64 zK.c] 39) := ⟨_, rfl⟩
  have HB := Lib.hid (show Below w.heap.size w W by rw [hW]; exact hb)
  have hz : Bk W 39 (w.heap.size + 1) zK.cl := by rw [hW]; exact z
  unfold zK at hW
  dsimp only at hW
  clear hb z
  go_enter Try.func14, Try.ntmps14
  go_wp2_with (first
    | (with_reducible refine at_store 39 (.tmp 2) (.tmp 7) (by rfl) ?_; rw [← hW]; clear hW; refine wpList_store_bk rowK rfl (.tmp 2) (.tmp 7) rfl (w.heap.size + 1) 0 rfl hz k.cl rfl rfl (by decide) k.cl_one ?_; intro w5 hz5 hw5))
  rw [lay_all _ _ (by rfl)] at hz5
  exact bodyPost_ret (results_cell rfl rfl (rowK.load hz5 0 (cs := k.cl) rfl rfl)) rfl ⟨rfl, HB.out.trans (hw5.below (by omega) HB.out.size)⟩
set_option maxHeartbeats 4000000 in
theorem l_back {w : World} {A : Option Addr} {n c : Nat} {q : List Ky} (h : RdR 2 w A n c (flat Ky.cl q)) (hn : n = q.length) (hl : n ≤ 1000) : Calls Try.prog 22 #[.slice A n c] w fun e w' =>
    ∃ A' n' c', e = .returned (.slice A' n' c') ∧ LkK (fun j => w.heap.size ≤ j) w' A' n' c' q ∧ Below w.heap.size w w' := by
  have HH := Lib.hid h
  have HVN := Lib.hid hn
  clear h hn
  go_enter Try.func22, Try.ntmps22
  go_wp2
  go_loopw [3, 4] (fun u3 u4 wr => ∃ (i : Nat) (A' : Option Addr) (n' c' : Nat), i ≤ n ∧ n' ≤ i ∧ u4 = .int .i64 i ∧ u3 = .slice A' n' c' ∧ LstR 2 35 (w.heap.size ≤ ·) wr A' n' c' (flat Ky.cl (q.take i)) ∧ Below w.heap.size w wr) (fun u3 u4 _ => n + 1 - (intOf u4).toNat)
  case atStart => exact ⟨0, none, 0, 0, Nat.zero_le _, Nat.le_refl _, rfl, rfl, LstR.nil _ _ _ _, Below.refl _ _⟩
  case round =>
    obtain ⟨i, A', n', c', hi, hni, rfl, rfl, hl2, hb⟩ := hrel
    have HB := Lib.hid hb
    clear hb
    by_cases hlt : i < n
    · have hqi : i < q.length := by rw [← HVN.out]; exact hlt
      obtain ⟨g, o, rfl, hg, hra⟩ := (HH.out.below HB.out).range hlt
      rw [flat_row Ky.cl_len q i hqi] at hra
      obtain ⟨x, hx⟩ : ∃ x, x = q[i] := ⟨_, rfl⟩
      rw [← hx] at hra
      have ht : q.take (i + 1) = q.take i ++ [x] := by rw [List.take_add_one, List.getElem?_eq_getElem hqi, ← hx]; rfl
      have HRA := Lib.hid (And.intro hg hra)
      have HGW : Hid (g < w.heap.size) := Lib.hid (HH.out.blk (by omega) _ rfl)
      have HL := Lib.hid hl2
      have HT := Lib.hid ht
      have hlt1 : (i : Int) < n := by omega
      clear hra hg hl2 hx ht hqi
      go_wp2_with fail
      refine wp_region_E (Below w.heap.size) (by kernel_rfl) (fun wd hbd hsz => ?_)
      have HBX := Lib.hid (HB.out.trans (hbd.mono HB.out.size))
      have HSB := Lib.hid HB.out.size
      have hrd := range_below HRA.out.2 HRA.out.1 hbd
      have hgw : g < w.heap.size := HGW.out
      have hgd := Nat.lt_of_lt_of_le HRA.out.1 hbd.size
      have q0 : ∀ V, Below w.heap.size wd V → V.cell? ⟨g, o + i * 2, none⟩ = some (.int .i64 x.s) := fun V hV => range_belowB hrd hgw hV 0 _ rfl
      have q1 : ∀ V, Below w.heap.size wd V → V.cell? ⟨g, o + i * 2 + 1, none⟩ = some (.int .i64 x.c) := fun V hV => range_belowB hrd hgw hV 1 _ rfl
      have hla := ((HL.out.below hbd).alloc (.cells x.cl.toArray 35)).tight
      have hu := RdR.one wd 35 x.cl x.cl_one
      have hnn : (n' + 1) * 16 ≤ 140737488355328 := by omega
      clear hsz
      (refine takeE (belowTr w.heap.size) 0 (by simp only [List.getElem?_toArray, List.getElem?_cons_succ, List.getElem?_cons_zero]; rfl) (by kernel_rfl) (by kernel_rfl) (by kernel_rfl) (by exact fun _ _ _ h => h) (by first | (refine Or.inl ⟨by rfl, ?_⟩; intro W hW; go_simp; try with_reducible rfl) | exact Or.inr ⟨by rfl, rfl⟩) ?_; try simp only [Act.put, List.setIfInBounds_toArray, List.set_cons_zero, List.set_cons_succ])
      (refine takeE (belowTr w.heap.size) 1 (by simp only [List.getElem?_toArray, List.getElem?_cons_succ, List.getElem?_cons_zero]; rfl) (by kernel_rfl) (by kernel_rfl) (by kernel_rfl) (by exact fun _ _ _ h => h) (by first | (refine Or.inl ⟨by rfl, ?_⟩; intro W hW; go_simp; try with_reducible rfl) | exact Or.inr ⟨by rfl, rfl⟩) ?_; try simp only [Act.put, List.setIfInBounds_toArray, List.set_cons_zero, List.set_cons_succ])
      (refine takeE (belowTr w.heap.size) 2 (by simp only [List.getElem?_toArray, List.getElem?_cons_succ, List.getElem?_cons_zero]; rfl) (by kernel_rfl) (by kernel_rfl) (by kernel_rfl) (by exact fun _ _ _ h => h) (by first | (refine Or.inl ⟨by rfl, ?_⟩; intro W hW; go_simp; try with_reducible rfl) | exact Or.inr ⟨by rfl, rfl⟩) ?_; try simp only [Act.put, List.setIfInBounds_toArray, List.set_cons_zero, List.set_cons_succ])
      (refine takeE (belowTr w.heap.size) 6 (by simp only [List.getElem?_toArray, List.getElem?_cons_succ, List.getElem?_cons_zero]; rfl) (by kernel_rfl) (by kernel_rfl) (by kernel_rfl) (by exact fun _ _ _ h => h) (by first | (refine Or.inl ⟨by rfl, ?_⟩; intro W hW; go_simp; try with_reducible rfl) | exact Or.inr ⟨by rfl, rfl⟩) ?_; try simp only [Act.put, List.setIfInBounds_toArray, List.set_cons_zero, List.set_cons_succ])
      (refine takeE (belowTr w.heap.size) 7 (by simp only [List.getElem?_toArray, List.getElem?_cons_succ, List.getElem?_cons_zero]; rfl) (by kernel_rfl) (by kernel_rfl) (by kernel_rfl) (by exact fun _ _ _ h => h) (by first | (refine Or.inl ⟨by rfl, ?_⟩; intro W hW; go_simp; try with_reducible rfl) | exact Or.inr ⟨by rfl, rfl⟩) ?_; try simp only [Act.put, List.setIfInBounds_toArray, List.set_cons_zero, List.set_cons_succ])
      (refine takeE (belowTr w.heap.size) 3 (by simp only [List.getElem?_toArray, List.getElem?_cons_succ, List.getElem?_cons_zero]; rfl) (by kernel_rfl) (by kernel_rfl) (by kernel_rfl) (by exact fun _ _ _ h => h) (by first | (refine Or.inl ⟨by rfl, ?_⟩; intro W hW; go_simp; try with_reducible rfl) | exact Or.inr ⟨by rfl, rfl⟩) ?_; try simp only [Act.put, List.setIfInBounds_toArray, List.set_cons_zero, List.set_cons_succ])
      (refine takeE (belowTr w.heap.size) 8 (by simp only [List.getElem?_toArray, List.getElem?_cons_succ, List.getElem?_cons_zero]; rfl) (by kernel_rfl) (by kernel_rfl) (by kernel_rfl) (by exact fun _ _ _ h => h) (by first | (refine Or.inl ⟨by rfl, ?_⟩; intro W hW; go_simp; try with_reducible rfl) | exact Or.inr ⟨by rfl, rfl⟩) ?_; try simp only [Act.put, List.setIfInBounds_toArray, List.set_cons_zero, List.set_cons_succ])
      (refine takeE (belowTr w.heap.size) 4 (by simp only [List.getElem?_toArray, List.getElem?_cons_succ, List.getElem?_cons_zero]; rfl) (by kernel_rfl) (by kernel_rfl) (by kernel_rfl) (by exact fun _ _ _ h => h) (by first | (refine Or.inl ⟨by rfl, ?_⟩; intro W hW; go_simp; try with_reducible rfl) | exact Or.inr ⟨by rfl, rfl⟩) ?_; try simp only [Act.put, List.setIfInBounds_toArray, List.set_cons_zero, List.set_cons_succ])
      (refine takeE (belowTr w.heap.size) 9 (by simp only [List.getElem?_toArray, List.getElem?_cons_succ, List.getElem?_cons_zero]; rfl) (by kernel_rfl) (by kernel_rfl) (by kernel_rfl) (by exact fun _ _ _ h => h) (by first | (refine Or.inl ⟨by rfl, ?_⟩; intro W hW; go_simp; try with_reducible rfl) | exact Or.inr ⟨by rfl, rfl⟩) ?_; try simp only [Act.put, List.setIfInBounds_toArray, List.set_cons_zero, List.set_cons_succ])
      (refine takeE (belowTr w.heap.size) 5 (by simp only [List.getElem?_toArray, List.getElem?_cons_succ, List.getElem?_cons_zero]; rfl) (by kernel_rfl) (by kernel_rfl) (by kernel_rfl) (by exact fun _ _ _ h => h) (by first | (refine Or.inl ⟨by rfl, ?_⟩; intro W hW; go_simp; try with_reducible rfl) | exact Or.inr ⟨by rfl, rfl⟩) ?_; try simp only [Act.put, List.setIfInBounds_toArray, List.set_cons_zero, List.set_cons_succ])
      (refine takeE (belowTr w.heap.size) 10 (by simp only [List.getElem?_toArray, List.getElem?_cons_succ, List.getElem?_cons_zero]; rfl) (by kernel_rfl) (by kernel_rfl) (by kernel_rfl) (by exact fun _ _ _ h => h) (by first | (refine Or.inl ⟨by rfl, ?_⟩; intro W hW; go_simp; try with_reducible rfl) | exact Or.inr ⟨by rfl, rfl⟩) ?_; try simp only [Act.put, List.setIfInBounds_toArray, List.set_cons_zero, List.set_cons_succ])
      (refine takeE (belowTr w.heap.size) 11 (by simp only [List.getElem?_toArray, List.getElem?_cons_succ, List.getElem?_cons_zero]; rfl) (by kernel_rfl) (by kernel_rfl) (by kernel_rfl) (by exact fun _ _ _ h => h) (by first | (refine Or.inl ⟨by rfl, ?_⟩; intro W hW; go_simp; try with_reducible rfl) | exact Or.inr ⟨by rfl, rfl⟩) ?_; try simp only [Act.put, List.setIfInBounds_toArray, List.set_cons_zero, List.set_cons_succ])
      refine wpAnyE_one (i := 12) (by kernel_rfl) (by simp only [List.getElem?_toArray, List.getElem?_cons_succ, List.getElem?_cons_zero]; rfl) (fun K hK => ?_)
      refine opwp_build_row eltRK rfl (.tmp 22) rfl (xs := x.cl) rfl rfl ?_
      refine hK.out _ _ ((Below.refl _ _).alloc HBX.out.size _) ?_
      clear hK K
      try simp only [Act.put, List.setIfInBounds_toArray, List.set_cons_zero, List.set_cons_succ]
      refine wpAnyE_one (i := 13) (by kernel_rfl) (by simp only [List.getElem?_toArray, List.getElem?_cons_succ, List.getElem?_cons_zero]; rfl) (fun K hK => ?_)
      refine opwp_append_lstR eltRK rfl (.tmp 11) (.tmp 23) rfl rfl hla rfl hu hnn ?_
      intro u w5 hap
      obtain ⟨A2, n2, c2, rfl, hl3, hb2⟩ := apd_next (Bd := w.heap.size) (HL.out.below hbd) HBX.out.size hap
      have hn2 : n2 = n' + 1 := by
        have e1 : _ = n2 * 2 := hl3.1
        have e2 : _ = n' * 2 := HL.out.1
        rw [flat_len Ky.cl_len, List.length_take] at e2
        simp [flat_len Ky.cl_len, Ky.cl] at e1
        omega
      have HL2 := Lib.hid hl3
      have HN2 := Lib.hid hn2
      have HB5 := Lib.hid (HBX.out.trans hb2)
      have hE : Below w.heap.size (wd.alloc (.cells x.cl.toArray 35)) w5 := ⟨hb2.os, hb2.tape, hb2.output, by have := hap.st.size; exact this, fun k hk => (hb2.block k hk).trans (((Below.refl w.heap.size wd).alloc HBX.out.size (.cells x.cl.toArray 35)).block k hk).symm⟩
      clear hla hu hl3 hn2 hb2 hap
      refine hK.out _ _ hE ?_
      clear hK K
      try simp only [Act.put, List.setIfInBounds_toArray, List.set_cons_zero, List.set_cons_succ]
      (refine takeE (belowTr w.heap.size) 14 (by simp only [List.getElem?_toArray, List.getElem?_cons_succ, List.getElem?_cons_zero]; rfl) (by kernel_rfl) (by kernel_rfl) (by kernel_rfl) (by exact fun _ _ _ h => h) (by first | (refine Or.inl ⟨by rfl, ?_⟩; intro W hW; go_simp; try with_reducible rfl) | exact Or.inr ⟨by rfl, rfl⟩) ?_; try simp only [Act.put, List.setIfInBounds_toArray, List.set_cons_zero, List.set_cons_succ])
      refine wpAnyE_done (by kernel_rfl) ?_ _
      clear q0 q1
      go_wp2
      go_roundw
      case rel => exact ⟨i + 1, A2, n2, c2, by omega, by have := HN2.out; omega, by go_num, rfl, by rw [HT.out, flat_app, flat_one]; exact HL2.out, HB5.out⟩
      case measure => simp [intOf]; omega
    · obtain rfl : i = n := by omega
      have HL := Lib.hid hl2
      clear hl2
      go_wp2
      go_ret
      refine ⟨A', n', c', rfl, ?_, HB.out⟩
      have := HL.out
      rw [List.take_of_length_le (by rw [← HVN.out]; exact Nat.le_refl _)] at this
      exact LkK.of this fun j hj => hj
/-- The blocks of K stay. -/
def KpB (K : Nat → Prop) (a b : World) : Prop := a.heap.size ≤ b.heap.size ∧ ∀ k, K k → k < a.heap.size → b.heap[k]? = a.heap[k]?
/-- A pacer of the call's own, off the blocks of K. -/
def PcN (w : World) (K : Nat → Prop) (wr : World) (p : Nat) (m : Pm) : Prop := m.Ok ∧ ∃ F, PcA F wr p m ∧ (∀ k, F k → w.heap.size ≤ k ∧ ¬ K k) ∧ Below w.heap.size w wr ∧ ∀ k, K k → k < wr.heap.size
section
variable {K : Nat → Prop} {w wr w' : World} {p : Nat} {m m' : Pm}
theorem KpB.refl (K : Nat → Prop) (a : World) : KpB K a a := ⟨Nat.le_refl _, fun _ _ _ => rfl⟩
theorem KpB.trans {a b c : World} (h : KpB K a b) (k : KpB K b c) : KpB K a c := ⟨Nat.le_trans h.1 k.1, fun i hi hl => (k.2 i hi (Nat.lt_of_lt_of_le hl h.1)).trans (h.2 i hi hl)⟩
theorem KpB.of (h : Below wr.heap.size wr w') : KpB K wr w' := ⟨h.size, fun k _ hl => h.block k hl⟩
theorem Bk.kp {t : TypeId} {g : Nat} {vs : List Value} (h : Bk wr t g vs) (hk : KpB K wr w') (hg : K g) : Bk w' t g vs := (hk.2 g hg h.lt).trans h
theorem PcN.next (h : PcN w K wr p m) (hb : Below wr.heap.size wr w') : PcN w K w' p m := by
  obtain ⟨h0, F, h1, h2, h3, h4⟩ := h
  exact ⟨h0, F, h1.below hb, h2, h3.trans (hb.mono h3.size), fun k hk => Nat.lt_of_lt_of_le (h4 k hk) hb.size⟩
theorem PcN.did {f : FuncId} {args : Array Value} {post : Ending → Prop} (h : PcN w K wr p m) (ok : m'.Ok) (hc : ∀ F, PcA F wr p m → Calls Try.prog f args wr fun e w' => post e ∧ DidP F p m' wr w') :
    Calls Try.prog f args wr fun e w' => post e ∧ PcN w K w' p m' ∧ KpB K wr w' := by
  obtain ⟨h0, F, h1, h2, h3, h4⟩ := h
  refine (hc F h1).mono ?_
  rintro e w' ⟨he, F', k1, k2, k3⟩
  refine ⟨he, ⟨ok, F', k1, fun k hk => ?_, h3.trans (k2.below h3.size fun k hk => (h2 k hk).1), fun k hk => Nat.lt_of_lt_of_le (h4 k hk) k2.size⟩, k2.size, fun k hk hl => k2.block k hl fun hf => (h2 k hf).2 hk⟩
  rcases k3 k hk with h5 | h5
  · exact h2 k h5
  · exact ⟨Nat.le_trans h3.size h5, fun hkk => by have := h4 k hkk; omega⟩
theorem n_know (h : PcN w K wr p m) (k : Ky) (g : Int) : Calls Try.prog 24 #[.pointer (some ⟨p, 0, none⟩), .agg #[.int .i64 k.s, .int .i64 k.c], .int .i64 g] wr fun e w' => e = .returned (.int .i64 (m.knowR k g).2) ∧ PcN w K w' p (m.knowR k g).1 ∧ KpB K wr w' :=
  h.did (h.1.knowR k g).1 fun F hA => p_know hA k g
theorem n_owe (h : PcN w K wr p m) (k : Ky) (n : Int) : Calls Try.prog 25 #[.pointer (some ⟨p, 0, none⟩), .agg #[.int .i64 k.s, .int .i64 k.c], .int .i64 n] wr fun e w' => e = .returned (.int .i64 (m.oweR k n).2) ∧ PcN w K w' p (m.oweR k n).1 ∧ KpB K wr w' :=
  h.did (h.1.oweR k n).1 fun F hA => p_owe hA h.1 k n
theorem n_tick (h : PcN w K wr p m) (ht : m.total ≤ 4611686018427387903) : Calls Try.prog 12 #[.pointer (some ⟨p, 0, none⟩)] wr fun e w' =>
    e = .returned (.tuple #[.agg #[.int .i64 m.tickR.2.1.s, .int .i64 m.tickR.2.1.c, .int .i64 m.tickR.2.2.1], .bool m.tickR.2.2.2]) ∧ PcN w K w' p m.tickR.1 ∧ KpB K wr w' :=
  h.did h.1.tick.1 fun F hA => p_tick hA h.1 ht
theorem n_pending (h : PcN w K wr p m) (k : Ky) : Calls Try.prog 17 #[.pointer (some ⟨p, 0, none⟩), .agg #[.int .i64 k.s, .int .i64 k.c]] wr fun e w' => e = .returned (.int .i64 (ofKey m.L k).p) ∧ Below wr.heap.size wr w' := by
  obtain ⟨h0, F, h1, h2, h3, h4⟩ := h
  exact p_pending h1 k
theorem n_issued (h : PcN w K wr p m) (k : Ky) : Calls Try.prog 18 #[.pointer (some ⟨p, 0, none⟩), .agg #[.int .i64 k.s, .int .i64 k.c]] wr fun e w' => e = .returned (.int .i64 (ofKey m.L k).i) ∧ Below wr.heap.size wr w' := by
  obtain ⟨h0, F, h1, h2, h3, h4⟩ := h
  exact p_issued h1 k
theorem n_total (h : PcN w K wr p m) : Calls Try.prog 19 #[.pointer (some ⟨p, 0, none⟩)] wr fun e w' => e = .returned (.int .i64 m.total) ∧ wr = w' := by
  obtain ⟨h0, F, h1, h2, h3, h4⟩ := h
  exact p_total h1
theorem n_new (most : Nat) (w : World) (h1 : 1 ≤ most) (h2 : most ≤ 512) : Calls Try.prog 8 #[.int .i64 most] w fun e w' => e = .returned (.tuple #[.pointer (some ⟨w.heap.size + 1, 0, none⟩), .int .i64 0]) ∧ PcN w (fun _ => False) w' (w.heap.size + 1) (Pm.new most) := by
  refine (p_new most w h1 h2).mono ?_
  rintro e w' ⟨rfl, ⟨F, k1, k2⟩, k3⟩
  exact ⟨rfl, Pm.Ok.new h1 h2, F, k1, fun k hk => ⟨k2 k hk, id⟩, k3, fun k hk => hk.elim⟩
/-- Blocks of the call's own, just made, are kept from now on. -/
theorem PcN.keep {K' : Nat → Prop} (h : PcN w K wr p m) (hb : Below wr.heap.size wr w') (hK : ∀ k, K' k → K k ∨ (wr.heap.size ≤ k ∧ k < w'.heap.size)) : PcN w K' w' p m := by
  obtain ⟨h0, F, h1, h2, h3, h4⟩ := h
  refine ⟨h0, F, h1.below hb, fun k hk => ⟨(h2 k hk).1, fun hk' => ?_⟩, h3.trans (hb.mono h3.size), fun k hk => ?_⟩
  · rcases hK k hk' with h5 | h5
    · exact (h2 k hk).2 h5
    · have := h1.bd k hk; omega
  · rcases hK k hk with h5 | h5
    · exact Nat.lt_of_lt_of_le (h4 k h5) hb.size
    · exact h5.2
end
/-! The page's example. -/
def ka : Ky := ⟨0, 1⟩
def kb : Ky := ⟨1, 1⟩
def aw0 : Pm := ((((Pm.new 9).knowR ka 1).1.knowR kb 0).1.oweR ka 9).1.oweR kb 1 |>.1
def aw : Nat → Pm
  | 0 => aw0
  | i + 1 => (aw i).tickR.1
theorem aw_set : ((Pm.new 9).knowR ka 1).2 = 0 ∧ (((Pm.new 9).knowR ka 1).1.knowR kb 0).2 = 0 ∧ ((((Pm.new 9).knowR ka 1).1.knowR kb 0).1.oweR ka 9).2 = 0 ∧ (((((Pm.new 9).knowR ka 1).1.knowR kb 0).1.oweR ka 9).1.oweR kb 1).2 = 0 := by decide
theorem aw_tick : ∀ i : Fin 6, (aw i).tickR.2.1 = (if i.val = 4 then kb else ka) ∧ (aw i).tickR.2.2.2 = true ∧ (aw i).total ≤ 6 := by decide
theorem aw_end : (ofKey (aw 6).L ka).i = 5 ∧ (ofKey (aw 6).L ka).p = 4 ∧ (aw 6).total = 6 := by decide
set_option maxHeartbeats 8000000 in
theorem l_awake (w : World) : Calls Try.prog 10 #[] w fun e w' => e = .returned (.bool true) ∧ Below w.heap.size w w' := by
  go_enter Try.func10, Try.ntmps10
  go_wp2_with fail
  refine (n_new 9 w (by decide) (by decide)).mono ?_
  rintro e w1 ⟨rfl, h1⟩
  obtain ⟨W, hW⟩ : ∃ W, W = (w1.alloc (.cells #[.int .i64 ka.s, .int .i64 ka.c] 39)).alloc (.cells #[.int .i64 kb.s, .int .i64 kb.c] 39) := ⟨_, rfl⟩
  have hb1 : Below w1.heap.size w1 W := by rw [hW]; exact ((Below.refl _ w1).alloc (Nat.le_refl _) _).alloc (by simp) _
  have hsW : W.heap.size = w1.heap.size + 2 := by rw [hW]; simp
  have za : Bk W 39 w1.heap.size ka.cl := by rw [hW]; exact (Bk.new w1 39 ka.cl).alloc _
  have zb : Bk W 39 (w1.heap.size + 1) kb.cl := by
    have := Bk.new (w1.alloc (.cells #[.int .i64 ka.s, .int .i64 ka.c] 39)) 39 kb.cl
    rw [World.size_alloc] at this
    rw [hW]; exact this
  obtain ⟨K, hK⟩ : ∃ K : Nat → Prop, K = fun j => j = w1.heap.size ∨ j = w1.heap.size + 1 := ⟨_, rfl⟩
  have ha : K w1.heap.size := by rw [hK]; exact .inl rfl
  have hbb : K (w1.heap.size + 1) := by rw [hK]; exact .inr rfl
  have h2 : PcN w K W (w.heap.size + 1) (Pm.new 9) := h1.keep hb1 fun k hk => by rw [hK] at hk; exact .inr (by omega)
  have a0 : W.cell? ⟨w1.heap.size, 0, none⟩ = some (.int .i64 0) := za.cell 0 rfl
  have a1 : W.cell? ⟨w1.heap.size, 1, none⟩ = some (.int .i64 1) := za.cell 1 rfl
  have b0 : W.cell? ⟨w1.heap.size + 1, 0, none⟩ = some (.int .i64 1) := zb.cell 0 rfl
  have b1 : W.cell? ⟨w1.heap.size + 1, 1, none⟩ = some (.int .i64 1) := zb.cell 1 rfl
  have H2 := Lib.hid (And.intro h2 (And.intro za zb))
  have HK := Lib.hid (And.intro ha hbb)
  unfold ka kb at hW
  dsimp only at hW
  clear h1 hb1 hsW za zb hK ha hbb h2
  go_wp2_with fail
  rw [← hW]
  clear hW
  have HC := Lib.hid (n_know H2.out.1 ka 1)
  rw [aw_set.1] at HC
  refine HC.out.mono ?_
  rintro e w2 ⟨rfl, h3, hk3⟩
  clear a0 a1 b0 b1
  have za := H2.out.2.1.kp hk3 HK.out.1
  have zb := H2.out.2.2.kp hk3 HK.out.2
  have a0 : w2.cell? ⟨w1.heap.size, 0, none⟩ = some (.int .i64 0) := za.cell 0 rfl
  have a1 : w2.cell? ⟨w1.heap.size, 1, none⟩ = some (.int .i64 1) := za.cell 1 rfl
  have b0 : w2.cell? ⟨w1.heap.size + 1, 0, none⟩ = some (.int .i64 1) := zb.cell 0 rfl
  have b1 : w2.cell? ⟨w1.heap.size + 1, 1, none⟩ = some (.int .i64 1) := zb.cell 1 rfl
  have H3 := Lib.hid (And.intro h3 (And.intro za zb))
  clear h3 hk3 za zb HC
  go_wp2_with fail
  have HC := Lib.hid (n_know H3.out.1 kb 0)
  rw [aw_set.2.1] at HC
  refine HC.out.mono ?_
  rintro e w3 ⟨rfl, h3, hk3⟩
  clear a0 a1 b0 b1
  have za := H3.out.2.1.kp hk3 HK.out.1
  have zb := H3.out.2.2.kp hk3 HK.out.2
  have a0 : w3.cell? ⟨w1.heap.size, 0, none⟩ = some (.int .i64 0) := za.cell 0 rfl
  have a1 : w3.cell? ⟨w1.heap.size, 1, none⟩ = some (.int .i64 1) := za.cell 1 rfl
  have b0 : w3.cell? ⟨w1.heap.size + 1, 0, none⟩ = some (.int .i64 1) := zb.cell 0 rfl
  have b1 : w3.cell? ⟨w1.heap.size + 1, 1, none⟩ = some (.int .i64 1) := zb.cell 1 rfl
  have H4 := Lib.hid (And.intro h3 (And.intro za zb))
  clear h3 hk3 za zb HC
  go_wp2_with fail
  have HC := Lib.hid (n_owe H4.out.1 ka 9)
  rw [aw_set.2.2.1] at HC
  refine HC.out.mono ?_
  rintro e w4 ⟨rfl, h3, hk3⟩
  clear a0 a1 b0 b1
  have za := H4.out.2.1.kp hk3 HK.out.1
  have zb := H4.out.2.2.kp hk3 HK.out.2
  have a0 : w4.cell? ⟨w1.heap.size, 0, none⟩ = some (.int .i64 0) := za.cell 0 rfl
  have a1 : w4.cell? ⟨w1.heap.size, 1, none⟩ = some (.int .i64 1) := za.cell 1 rfl
  have b0 : w4.cell? ⟨w1.heap.size + 1, 0, none⟩ = some (.int .i64 1) := zb.cell 0 rfl
  have b1 : w4.cell? ⟨w1.heap.size + 1, 1, none⟩ = some (.int .i64 1) := zb.cell 1 rfl
  have H5 := Lib.hid (And.intro h3 (And.intro za zb))
  clear h3 hk3 za zb HC
  go_wp2_with fail
  have HC := Lib.hid (n_owe H5.out.1 kb 1)
  rw [aw_set.2.2.2] at HC
  refine HC.out.mono ?_
  rintro e w5 ⟨rfl, h3, hk3⟩
  have H6 := Lib.hid (And.intro (show PcN w K w5 (w.heap.size + 1) (aw 0) from h3) (And.intro (H5.out.2.1.kp hk3 HK.out.1) (H5.out.2.2.kp hk3 HK.out.2)))
  clear h3 hk3 HC H2 H3 H4 H5 a0 a1 b0 b1
  go_wp2
  go_loopw [5] (fun u wr => ∃ i : Nat, i ≤ 6 ∧ u = .int .i64 i ∧ PcN w K wr (w.heap.size + 1) (aw i) ∧ Bk wr 39 w1.heap.size ka.cl ∧ Bk wr 39 (w1.heap.size + 1) kb.cl) (fun u _ => 7 - (intOf u).toNat)
  case atStart => exact ⟨0, by omega, rfl, H6.out.1, H6.out.2.1, H6.out.2.2⟩
  case round =>
    obtain ⟨i, hi, rfl, h, za, zb⟩ := hrel
    by_cases hlt : i < 6
    · obtain ⟨t1, t2, t3⟩ := aw_tick ⟨i, hlt⟩
      dsimp only at t1 t2 t3
      have HC := n_tick h (by omega)
      rw [t1, t2] at HC
      have HT := Lib.hid HC
      have HZ := Lib.hid (And.intro za zb)
      clear h za zb t1 t2 t3 HC
      have hlt' : (i : Int) < 6 := by omega
      by_cases h4 : i = 4
      · subst h4
        go_wp2_with fail
        refine HT.out.mono ?_
        rintro e w7 ⟨rfl, h7, hk7⟩
        have zb7 := HZ.out.2.kp hk7 HK.out.2
        have b0 : w7.cell? ⟨w1.heap.size + 1, 0, none⟩ = some (.int .i64 1) := zb7.cell 0 rfl
        have b1 : w7.cell? ⟨w1.heap.size + 1, 1, none⟩ = some (.int .i64 1) := zb7.cell 1 rfl
        have hlt7 := zb7.lt
        have hba : Below w7.heap.size w7 (w7.alloc (.cells #[.int .i64 1, .int .i64 1, .int .i64 (aw 4).tickR.2.2.1] 41)) := (Below.refl _ w7).alloc (Nat.le_refl _) _
        have H7 := Lib.hid (And.intro (h7.next hba) (And.intro ((HZ.out.1.kp hk7 HK.out.1).below hba) (zb7.below hba)))
        clear h7 hk7 zb7 hba HT
        go_wp2
        go_roundw
        case rel => exact ⟨5, by omega, by go_num, H7.out⟩
        case measure => simp [intOf]
      · have h4' : ((i : Int) == 4) = false := by simp; omega
        rw [if_neg h4] at HT
        go_wp2_with fail
        refine HT.out.mono ?_
        rintro e w7 ⟨rfl, h7, hk7⟩
        have zb7 := HZ.out.2.kp hk7 HK.out.2
        have b0 : w7.cell? ⟨w1.heap.size + 1, 0, none⟩ = some (.int .i64 1) := zb7.cell 0 rfl
        have b1 : w7.cell? ⟨w1.heap.size + 1, 1, none⟩ = some (.int .i64 1) := zb7.cell 1 rfl
        have hlt7 := zb7.lt
        have hba : Below w7.heap.size w7 (w7.alloc (.cells #[.int .i64 0, .int .i64 1, .int .i64 (aw i).tickR.2.2.1] 41)) := (Below.refl _ w7).alloc (Nat.le_refl _) _
        have H7 := Lib.hid (And.intro (show PcN w K _ (w.heap.size + 1) (aw (i + 1)) from h7.next hba) (And.intro ((HZ.out.1.kp hk7 HK.out.1).below hba) (zb7.below hba)))
        clear h7 hk7 zb7 hba HT
        go_wp2
        go_roundw
        case rel => exact ⟨i + 1, by omega, by go_num, H7.out⟩
        case measure => simp [intOf]; omega
    · obtain rfl : i = 6 := by omega
      have a0 : wr.cell? ⟨w1.heap.size, 0, none⟩ = some (.int .i64 0) := za.cell 0 rfl
      have a1 : wr.cell? ⟨w1.heap.size, 1, none⟩ = some (.int .i64 1) := za.cell 1 rfl
      have HC := n_issued h ka
      rw [aw_end.1] at HC
      have HI := Lib.hid HC
      have HH := Lib.hid (And.intro h za)
      clear h za zb HC
      go_wp2_with fail
      refine HI.out.mono ?_
      rintro e w7 ⟨rfl, hb7⟩
      have h7 := HH.out.1.next hb7
      have za7 := HH.out.2.below hb7
      have c0 : w7.cell? ⟨w1.heap.size, 0, none⟩ = some (.int .i64 0) := za7.cell 0 rfl
      have c1 : w7.cell? ⟨w1.heap.size, 1, none⟩ = some (.int .i64 1) := za7.cell 1 rfl
      have HC := n_pending h7 ka
      rw [aw_end.2.1] at HC
      have HP := Lib.hid HC
      have H7 := Lib.hid h7
      clear a0 a1 h7 za7 hb7 HC HI
      go_wp2_with fail
      refine HP.out.mono ?_
      rintro e w8 ⟨rfl, hb8⟩
      have HC := n_total (H7.out.next hb8)
      rw [aw_end.2.2] at HC
      have HT := Lib.hid HC
      have HE := Lib.hid (H7.out.next hb8)
      clear c0 c1 hb8 HC HP
      go_wp2_with fail
      refine HT.out.mono ?_
      rintro e w9 ⟨rfl, rfl⟩
      go_wp2
      go_ret
      obtain ⟨_, F, _, _, hb, _⟩ := HE.out
      exact ⟨rfl, hb⟩
end Go.Proofs.Ytdldocbfnjbhmaa
