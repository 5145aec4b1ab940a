/- Builtins: clear of many rows, append of a make, a list's element deleted in place. -/
import Derived.Test.YtnakoplceplmmaaLsr
import Derived.Test.YtnakoplceplmmaaLsrI
import Derived.Test.YtnakoplceplmmaaItrM
import Derived.Test.YtnakoplceplmmaaItr
import Derived.Test.YtnakoplceplmmaaCol
import Derived.Test.YtnakoplceplmmaaKit3
import Derived.Test.YtnakoplceplmmaaRegL
import Derived.BigQuiet
import Derived.Deep.QuietTactic
import Derived.WalkSpells
set_option linter.unusedSimpArgs false
set_option linter.unusedVariables false
namespace Go.Proofs.Ytnakoplceplmmaa
open Go.RowKit Go.Shelf
section
variable {P : Program} {w : World} {t e : TypeId} {zs : List Value} {z : Value} {bytes : Nat} {F : Nat → Prop} {A B : Option Addr} {n c m d : Nat} {cs us vs : List Value}
theorem zcells_len (zs : List Value) (n : Nat) : (Builtin.zeroCells (Value.agg zs.toArray).cells n).toList.length = n * zs.length := by
  rw [Array.length_toList, zeroCells_size]
  simp [Value.cells]
theorem zcells_one (hs : 0 < zs.length) (h1 : ∀ v ∈ zs, v.oneCell' = true) (n : Nat) : ∀ v ∈ (Builtin.zeroCells (Value.agg zs.toArray).cells n).toList, v.oneCell' = true := by
  intro v hv
  simp only [Builtin.zeroCells, Value.cells, Array.toList_map, List.mem_map] at hv
  obtain ⟨i, hi, rfl⟩ := hv
  have hlt : i % zs.length < zs.length := Nat.mod_lt _ hs
  simp only [List.size_toArray]
  rw [getElem!_pos _ _ (by simpa using hlt)]
  exact h1 _ (by simp)
/-- clear(x[:s]), and x = x[s:]. -/
theorem run_clear_cut (E : EltS P t e zs bytes) (ty : TypeId) (h : LstR zs.length e F w A n c cs) {s : Nat} (hs : s ≤ n) :
    ∃ w', (Builtin.clear_ #[t] ty #[.slice A s c]).run P w = .ok (.tuple #[]) w' ∧ LstR zs.length e F w' (cutR A c s zs.length) (n - s) (c - s) (cs.drop (s * zs.length)) ∧ St (BlkOf A) w w' := by
  obtain ⟨i, hi, hz, hsz, hby⟩ := info_parts E.hi
  have hcut := h.cut hs
  rcases Nat.eq_zero_or_pos s with rfl | hs0
  · refine ⟨w, ?_, hcut, St.refl _ _⟩
    cases A <;> simp [Builtin.clear_, run_underlying E.ht]
  · obtain ⟨h1, h2, h3, h4, h5⟩ := h
    rcases h5 with ⟨rfl, rfl⟩ | ⟨g, o, cur, rfl, hf, hh, hcs, hx⟩
    · omega
    · have hzl := zcells_len zs s
      have hz1 := zcells_one E.hs E.h1 s
      generalize hzz : (Builtin.zeroCells (Value.agg zs.toArray).cells s).toList = zz at hzl hz1
      have hm1 : s * zs.length ≤ n * zs.length := Nat.mul_le_mul_right _ hs
      have hm2 : n * zs.length ≤ c * zs.length := Nat.mul_le_mul_right _ h2
      have hst := run_storeCells_cells (P := P) g o zz 0 w (fun j hj => by rw [Nat.add_zero, cell_of_row _ _ _ _ _ _ hh, Array.getElem?_eq_getElem (by omega)]; rfl) (fun j hj => by simp [World.frozen?, hh]) hz1
      simp only [Nat.add_zero] at hst
      obtain ⟨cur', k1, k2, k3, k4⟩ := heap_setCells g e (0, 0) zz o w cur hh (by omega)
      refine ⟨w.setCells g o zz, ?_, ?_, st_setCells _ g ⟨_, rfl, rfl⟩ _ _ _⟩
      · obtain ⟨s', rfl⟩ : ∃ s', s = s' + 1 := ⟨s - 1, by omega⟩
        simp [Builtin.clear_, run_underlying E.ht, zeroValue, typeInfo, hi, hz, hzz, hst]
      · refine ⟨hcut.1, hcut.2.1, hcut.2.2.1, hcut.2.2.2.1, ?_⟩
        unfold cutR
        split
        · rename_i hcs'
          subst hcs'
          obtain rfl : n = c := by omega
          exact .inr ⟨g, o, cur', rfl, hf, k1, by simp; omega, fun i hi => by simp at hi⟩
        · refine .inr ⟨g, o + s * zs.length, cur', by simp [Addr.add], hf, k1, by rw [Nat.sub_mul]; omega, fun i hi => ?_⟩
          rw [Nat.sub_mul] at hi
          rw [k4 _ (by omega), show o + s * zs.length + i = o + (s * zs.length + i) from by omega, hx (s * zs.length + i) (by omega), List.getElem?_drop]
theorem wpList_clear_cut {ops : Array Oper} {rest : List Oper} {o : Oper} {a : Act} {Q : Exit → Act → World → Prop} (E : EltS P t e zs bytes) (hgd : o.guard = none) (x : Operand)
    (ho : o.op = .call { callee := .builtin .clear, args := #[x], argTypes := #[t] }) {s : Nat} (hx : a.eval x = .slice A s c) (h : LstR zs.length e F w A n c cs) (hs : s ≤ n)
    (hq : ∀ w', LstR zs.length e F w' (cutR A c s zs.length) (n - s) (c - s) (cs.drop (s * zs.length)) → St (BlkOf A) w w' → wpList P ops Q rest (a.put o.dst (.tuple #[])) w') : wpList P ops Q (o :: rest) a w := by
  obtain ⟨w', hrun, hl, hst⟩ := run_clear_cut E o.type h hs
  refine wpList_plain hgd fun K hK => ?_
  unfold Oper.wp execOp
  simp only [ho, resolve, invoke, builtin, Sem.run_bind, Sem.run_pure, Result.andThen_ok, List.map_toArray, List.map_cons, List.map_nil, hx, hrun]
  exact hK _ _ (hq w' hl hst)
/-- append(x, make([]T, k)...). -/
theorem run_append_zeros {ti : TypeId} (E : Elt P t e z bytes) (hti : P.underlying ti = some (.int .i64)) (ty : TypeId) (h : Lst e F w A n c vs) (k : Nat) (hlen : (n + k) * bytes ≤ 140737488355328) :
    ∃ v w', (Builtin.append_ #[t, ti] ty #[.slice A n c, .int .i64 k]).run P w = .ok v w' ∧ Apd e F w v (vs ++ List.replicate k z) w' := by
  obtain ⟨i, hi, hz, hsz, hby⟩ := info_parts E.hi
  have hb := E.hb
  have hmax : n + k ≤ 140737488355328 := by
    have : (n + k) * 1 ≤ (n + k) * bytes := Nat.mul_le_mul_left _ hb
    omega
  have hkb : k * bytes ≤ 140737488355328 := Nat.le_trans (Nat.mul_le_mul_right _ (by omega)) hlen
  have hkb' : ¬ ((281474976710656 : Int) < (k : Int) * (bytes : Int)) := by
    have : ((k * bytes : Nat) : Int) ≤ 140737488355328 := Int.ofNat_le.2 hkb
    rw [Int.natCast_mul] at this
    omega
  have hwr : IntKind.i64.wrap (k : Int) = k := by
    have : (k : Int) ≤ 140737488355328 := by omega
    rw [IntKind.wrap_i64]
    omega
  have hk0 : ¬ ((k : Int) < 0) := by omega
  have hzz := zeroCells_one E k
  have hone : ∀ v ∈ vs ++ List.replicate k z, v.oneCell' = true := fun v hv => by
    rcases List.mem_append.1 hv with h' | h'
    · exact h.2.2.2.1 v h'
    · rw [(List.mem_replicate.1 h').2]; exact E.h1
  by_cases hroom : n + k ≤ c
  · rcases h.2.2.2.2 with ⟨rfl, rfl⟩ | ⟨g, o, cur, rfl, hf, hh, hs, hx⟩
    · obtain rfl : n = 0 := by omega
      obtain rfl : k = 0 := by omega
      obtain rfl : vs = [] := List.eq_nil_of_length_eq_zero h.1
      refine ⟨.slice none 0 0, w, ?_, ⟨⟨none, 0, 0, rfl, Lst.nil _ _ _⟩, St.refl _ _⟩⟩
      have hw0 : IntKind.i64.wrap 0 = 0 := by decide
      simp [Builtin.append_, asInt, asIntOf, run_underlying E.ht, run_underlying hti, sizeOf, typeInfo, hi, hw0]
    · have hst := run_storeCells_cells (P := P) g (o + n) (List.replicate k z) 0 w (fun j hj => by rw [Nat.add_zero, Nat.add_assoc, cell_of_row _ _ _ _ _ _ hh, Array.getElem?_eq_getElem (by simp at hj; omega)]; rfl) (fun j hj => by simp [World.frozen?, hh]) (fun v hv => by rw [(List.mem_replicate.1 hv).2]; exact E.h1)
      simp only [Nat.add_zero] at hst
      obtain ⟨cur', h1, h2, h3, h4⟩ := heap_setCells g e (0, 0) (List.replicate k z) (o + n) w cur hh (by simp; omega)
      refine ⟨.slice (some ⟨g, o, none⟩) (n + k) c, w.setCells g (o + n) (List.replicate k z), ?_, ⟨⟨_, _, _, rfl, by simp [h.1], hroom, h.2.2.1, hone, .inr ⟨g, o, cur', rfl, .inl hf, h1, by omega, fun j hj => ?_⟩⟩, st_setCells F g hf _ _ _⟩⟩
      · rcases Nat.eq_zero_or_pos k with rfl | hkp
        · have hw0 : IntKind.i64.wrap 0 = 0 := by decide
          have hn0 : n ≤ c := by omega
          simp [Builtin.append_, asInt, asIntOf, run_underlying E.ht, run_underlying hti, sizeOf, typeInfo, zeroValue, hi, hz, hsz, hby, hw0, hn0, Addr.add_lit] at hst ⊢
          first | exact hst | rfl | simp [storeCells]
        · have hk' : ¬ k = 0 := by omega
          simp [Builtin.append_, asInt, asIntOf, run_underlying E.ht, run_underlying hti, sizeOf, typeInfo, zeroValue, hi, hz, hsz, hby, hwr, hk0, hkb', hroom, Addr.add_lit, hzz, hk', hst]
      · by_cases hjn : j < n
        · rw [h4 (o + j) (by omega), hx j hjn, List.getElem?_append_left (by rw [h.1]; exact hjn)]
        · rw [show o + j = o + n + (j - n) from by omega, h3 (j - n) (by simp; omega), List.getElem?_append_right (by rw [h.1]; omega), h.1]
  · have hkp : ¬ k = 0 := by have := h.2.1; omega
    have holds : (Builtin.firstCells i.size n (.slice A n c)).run P w.drew = .ok vs.toArray w.drew := by
      have := (h.rdv.src E.ht).cellsD
      rw [hsz]; exact this
    have hge := grownCap_ge w (n + k) c e
    have hcm : grownCap w (n + k) c e ≤ maxLen := grownCap_le_maxLen w (n + k) c e (by simp only [maxLen]; omega)
    have hfit := growslice_fits (need := n + k) (old := c) (bytes := i.bytes) (by omega) (by rw [hby]; exact hlen)
    have hcs : ((vs ++ List.replicate k z).toArray ++ Builtin.zeroCells z.cells (grownCap w (n + k) c e - (n + k))).size = grownCap w (n + k) c e := by
      rw [zeroCells_one E]; simp [h.1]; omega
    have hl := Lst.made w.drew e ((vs ++ List.replicate k z).toArray ++ Builtin.zeroCells z.cells (grownCap w (n + k) c e - (n + k))) (n + k) (vs ++ List.replicate k z) (by simp [h.1]) (by rw [hcs]; exact hge) (by rw [hcs]; exact hcm) hone
      (fun j hj => by rw [Array.getElem?_append_left (by simp [h.1]; exact hj)]; simp)
    refine ⟨.slice (some ⟨w.heap.size, 0, none⟩) (n + k) (grownCap w (n + k) c e), w.drew.alloc (.cells ((vs ++ List.replicate k z).toArray ++ Builtin.zeroCells z.cells (grownCap w (n + k) c e - (n + k))) e), ?_, ⟨⟨_, _, _, rfl, ?_⟩, ⟨rfl, rfl, rfl, by simp, fun k hk _ => heap_alloc_old w.drew _ hk⟩⟩⟩
    · have h63' : ¬ (9223372036854775807 < ((n : Int) + (k : Int))) := by omega
      have h48' : ¬ (281474976710656 < Builtin.nextslicecap (n + k) c * bytes) := by rw [← hby]; omega
      have hk1 : ¬ (k * 1 = 0) := by omega
      simp [Builtin.append_, asInt, asIntOf, run_underlying E.ht, run_underlying hti, sizeOf, typeInfo, zeroValue, hi, hz, hsz, hby, hwr, hk0, hkb', hroom, h63', h48', hkp, Question.forced, hzz, newRow, grownCap]
      rw [hsz] at holds
      rw [holds]
      simp [newRow, grownCap, Array.append_assoc]
      congr 2
      apply Array.ext'
      simp
    · rw [hcs] at hl
      exact hl.mono fun j hj => .inr (by simpa using hj)
theorem wpList_append_zeros {ti : TypeId} {ops : Array Oper} {rest : List Oper} {o : Oper} {a : Act} {Q : Exit → Act → World → Prop} (E : Elt P t e z bytes) (hti : P.underlying ti = some (.int .i64)) (hgd : o.guard = none) (s x : Operand)
    (ho : o.op = .call { callee := .builtin .append, args := #[s, x], argTypes := #[t, ti] })
    (hs : a.eval s = .slice A n c) (h : Lst e F w A n c vs) {k : Nat} (hx : a.eval x = .int .i64 k) (hlen : (n + k) * bytes ≤ 140737488355328)
    (hq : ∀ v w', Apd e F w v (vs ++ List.replicate k z) w' → wpList P ops Q rest (a.put o.dst v) w') : wpList P ops Q (o :: rest) a w := by
  obtain ⟨v, w', hrun, hap⟩ := run_append_zeros E hti o.type h k hlen
  refine wpList_plain hgd fun K hK => ?_
  unfold Oper.wp execOp
  simp only [ho, resolve, invoke, builtin, Sem.run_bind, Sem.run_pure, Result.andThen_ok, List.map_toArray, List.map_cons, List.map_nil, hs, hx, hrun]
  exact hK _ _ (hq v w' hap)
/-- append(x[:i], x[i+1:]...): in place. -/
theorem run_del (E : Elt P t e z bytes) (ty : TypeId) {g o : Nat} (h : Lst e F w (some ⟨g, o, none⟩) n c vs) {i : Nat} (hi : i < n) :
    ∃ w' lastv, (Builtin.append_ #[t, t] ty #[.slice (some ⟨g, o, none⟩) i c, .slice (cutA (some ⟨g, o, none⟩) c (i + 1)) (n - (i + 1)) (c - (i + 1))]).run P w = .ok (.slice (some ⟨g, o, none⟩) (n - 1) c) w' ∧
      Lst e F w' (some ⟨g, o, none⟩) n c (vs.take i ++ vs.drop (i + 1) ++ [lastv]) ∧ St (· = g) w w' := by
  obtain ⟨inf, hinf, hz, hsz, hby⟩ := info_parts E.hi
  have hcut := h.cut (s := i + 1) (by omega)
  have hsrc : Src P inf.size t (.slice (cutA (some ⟨g, o, none⟩) c (i + 1)) (n - (i + 1)) (c - (i + 1))) (n - (i + 1)) (vs.drop (i + 1)) w := by rw [hsz]; exact hcut.rdv.src E.ht
  obtain ⟨h1, h2, h3, h4, h5⟩ := h
  rcases h5 with ⟨h, _⟩ | ⟨g', o', cur, hA, hf, hh, hs, hx⟩
  · cases h
  · injection hA with hA
    injection hA with e1 e2 e3
    subst e1 e2
    have hul : (vs.drop (i + 1)).length = n - (i + 1) := by simp [h1]
    have hr := run_append_room_src (P := P) w t t ty e inf E.ht hinf g o i c _ _ _ hsrc (by omega)
        (fun j hj => by rw [hsz, Nat.mul_one, Nat.add_assoc, cell_of_row _ _ _ _ _ _ hh, Array.getElem?_eq_getElem (by omega)]; rfl)
        (fun j hj => by simp [World.frozen?, hh])
    rw [hsz, Nat.mul_one] at hr
    obtain ⟨cur', k1, k2, k3, k4⟩ := heap_setCells g e (0, 0) (vs.drop (i + 1)) (o + i) w cur hh (by omega)
    have hlast : o + (n - 1) < cur.size := by omega
    refine ⟨_, vs[n - 1]'(by omega), ?_, ⟨by simp [h1]; omega, h2, h3, fun v hv => ?_, .inr ⟨g, o, cur', rfl, hf, k1, by omega, fun j hj => ?_⟩⟩, st_setCells (· = g) g rfl _ _ _⟩
    · rw [hr, show i + (n - (i + 1)) = n - 1 from by omega]
    · simp only [List.mem_append, List.mem_singleton] at hv
      rcases hv with (hv | hv) | hv
      · exact h4 v (List.mem_of_mem_take hv)
      · exact h4 v (List.mem_of_mem_drop hv)
      · rw [hv]; exact h4 _ (List.getElem_mem _)
    · by_cases hj1 : j < i
      · rw [k4 (o + j) (by omega), hx j hj, List.append_assoc, List.getElem?_append_left (by simp; omega), List.getElem?_take, if_pos hj1]
      · by_cases hj2 : j < n - 1
        · rw [show o + j = o + i + (j - i) from by omega, k3 (j - i) (by omega), List.getElem?_append_left (by simp [h1]; omega), List.getElem?_append_right (by simp; omega), List.length_take, Nat.min_eq_left (by omega)]
        · obtain rfl : j = n - 1 := by omega
          rw [k4 (o + (n - 1)) (by omega), hx (n - 1) hj, List.getElem?_append_right (by simp [h1]; omega), List.getElem?_eq_getElem (by omega)]
          rw [show n - 1 - (vs.take i ++ vs.drop (i + 1)).length = 0 from by simp [h1]; omega]
          rfl
end

section
variable {P : Program} {w : World} {t e : TypeId} {zs : List Value} {z : Value} {bytes : Nat} {F : Nat → Prop} {A B : Option Addr} {n c m d : Nat} {cs us vs : List Value}
theorem opwp_append_lstR {ops : Array Oper} {o : Oper} {a : Act} {K : Act → World → Prop} {Q : Exit → Act → World → Prop} (E : EltS P t e zs bytes) (hgd : o.guard = none) (s x : Operand)
    (ho : o.op = .call { callee := .builtin .append, args := #[s, x], argTypes := #[t, t] })
    (hs : a.eval s = .slice A n c) (h : LstR zs.length e F w A n c cs) (hx : a.eval x = .slice B m d) (hu : RdR zs.length w B m d us) (hlen : (n + m) * bytes ≤ 140737488355328)
    (hq : ∀ v w', ApdR zs.length e F w v (cs ++ us) w' → K (a.put o.dst v) w') : if Region.wanted o (yielded ops a.tmps) = true then Oper.wp P o a w K Q else K (a.put o.dst undef) w := by
  obtain ⟨v, w', hrun, hap⟩ := run_append_lstR E o.type h hu hlen
  rw [if_pos (by simp only [Region.wanted, hgd])]
  unfold Oper.wp execOp
  simp only [ho, resolve, invoke, builtin, Sem.run_bind, Sem.run_pure, Result.andThen_ok, List.map_toArray, List.map_cons, List.map_nil, hs, hx, hrun]
  exact hq v w' hap
theorem opwp_build_row {ops : Array Oper} {o : Oper} {a : Act} {K : Act → World → Prop} {Q : Exit → Act → World → Prop} (E : EltS P t e zs bytes) (hgd : o.guard = none) (s : Operand)
    (ho : o.op = .buildSlice t 1 #[(0, s)]) {xs : List Value} (hs : a.eval s = .agg xs.toArray) (hx : xs.length = zs.length)
    (hq : K (a.put o.dst (.slice (some ⟨w.heap.size, 0, none⟩) 1 1)) (w.alloc (.cells xs.toArray e))) : if Region.wanted o (yielded ops a.tmps) = true then Oper.wp P o a w K Q else K (a.put o.dst undef) w := by
  have hr := E.build_one hx w
  rw [if_pos (by simp only [Region.wanted, hgd])]
  unfold Oper.wp execOp
  simp only [ho, List.map_toArray, List.map_cons, List.map_nil, hs, Sem.run_bind, Sem.run_pure, hr, Result.andThen_ok]
  exact hq
theorem opwp_del {ops : Array Oper} {oo : Oper} {a : Act} {K : Act → World → Prop} {Q : Exit → Act → World → Prop} (E : Elt P t e z bytes) (hgd : oo.guard = none) (s x : Operand)
    (ho : oo.op = .call { callee := .builtin .append, args := #[s, x], argTypes := #[t, t] }) {g o i : Nat}
    (hs : a.eval s = .slice (some ⟨g, o, none⟩) i c) (h : Lst e F w (some ⟨g, o, none⟩) n c vs) (hx : a.eval x = .slice (cutA (some ⟨g, o, none⟩) c (i + 1)) (n - (i + 1)) (c - (i + 1))) (hi : i < n)
    (hq : ∀ w' lastv, Lst e F w' (some ⟨g, o, none⟩) n c (vs.take i ++ vs.drop (i + 1) ++ [lastv]) → St (· = g) w w' → K (a.put oo.dst (.slice (some ⟨g, o, none⟩) (n - 1) c)) w') : if Region.wanted oo (yielded ops a.tmps) = true then Oper.wp P oo a w K Q else K (a.put oo.dst undef) w := by
  obtain ⟨w', lastv, hrun, hl, hst⟩ := run_del E oo.type h hi
  rw [if_pos (by simp only [Region.wanted, hgd])]
  unfold Oper.wp execOp
  simp only [ho, resolve, invoke, builtin, Sem.run_bind, Sem.run_pure, Result.andThen_ok, List.map_toArray, List.map_cons, List.map_nil, hs, hx, hrun]
  exact hq w' lastv hl hst
theorem exec_load_mid {ty : TypeId} {op : Oper} {a : Act} (R : Row P ty m) (x : Operand) (ho : op.op = .load ty x) (g o : Nat) (hx : a.eval x = .pointer (some ⟨g, o, none⟩)) (cs : List Value) (h : w.rangeAt g o cs) (hm : cs.length = m) : (execOp a.eval op).run P w = .ok (.value (.agg cs.toArray)) w := by
  obtain ⟨d, h1, h2⟩ := R.ht
  have hl := run_loadVar_mid w g o ty cs d h h1 h2 (by rw [hm]; exact R.hi)
  unfold execOp
  simp only [ho, hx, Instr.loadAt, Instr.sureAddr, Sem.run_bind, Sem.run_pure, Result.andThen_ok, hl]
theorem Elt.run_cut3 (E : Elt P t e z bytes) (A : Option Addr) (n c i j : Nat) (hi : i ≤ j) (hj : j ≤ n) (hn : n ≤ c) (w : World) :
    (Instr.slice t (.slice A n c) (some (.int .i64 i)) (some (.int .i64 j)) (some (.int .i64 n))).run P w = .ok (.slice (if n = i then A else A.map (·.add (i * 1))) (j - i) (n - i)) w := by
  obtain ⟨inf, hinf, hz, hsz, hby⟩ := info_parts E.hi
  have h1 := run_sliceBound (P := P) (w := w) .i64 n c .slice3Acap (by omega) (by omega)
  have h2 := run_sliceBound (P := P) (w := w) .i64 j n .slice3B (by omega) (by omega)
  have h3 := run_sliceBound (P := P) (w := w) .i64 i j .slice3C (by omega) (by omega)
  simp [Instr.slice, run_underlying E.ht, Instr.sliceBounds, h1, h2, h3, sizeOf, typeInfo, hinf, hsz]
end

theorem Elt.run_cut2 {P : Program} {t e : TypeId} {z : Value} {bytes : Nat} (E : Elt P t e z bytes) (g o n c i j : Nat) (hi : i ≤ j) (hj : j ≤ c) (hlt : i < c) (w : World) :
    (Instr.slice t (.slice (some ⟨g, o, none⟩) n c) (some (.int .i64 i)) (some (.int .i64 j)) none).run P w = .ok (.slice (some ⟨g, o + i, none⟩) (j - i) (c - i)) w := by
  obtain ⟨inf, hinf, hz, hsz, hby⟩ := info_parts E.hi
  have h2 := run_sliceBound (P := P) (w := w) .i64 j c .sliceAcap (by omega) (by omega)
  have h3 := run_sliceBound (P := P) (w := w) .i64 i j .sliceB (by omega) (by omega)
  have hne : ¬ c = i := by omega
  simp [Instr.slice, run_underlying E.ht, Instr.sliceBounds, h2, h3, sizeOf, typeInfo, hinf, hsz, hne, Addr.add]
end Go.Proofs.Ytnakoplceplmmaa
