/- A row of zeros made by append; what is read of rows. -/
import Derived.Test.YtainmpeiicinmaaW1
set_option linter.unusedSimpArgs false
set_option linter.unusedVariables false
namespace Go.Proofs.Ytainmpeiicinmaa
open Go.RowKit Go.Shelf
section
variable {P : Program} {w : World} {t e : TypeId} {zs : List Value} {z : Value} {bytes : Nat} {F : Nat → Prop} {A B : Option Addr} {n c m d : Nat} {cs us vs : List Value}
/-- append(nil, make([]T, k)...), cut to nothing. -/
theorem run_append_zrow {ti : TypeId} (E : EltS P t e zs bytes) (hti : P.underlying ti = some (.int .i64)) (ty : TypeId) (w : World) (k : Nat) (hk : 0 < k) (hlen : k * bytes ≤ 140737488355328) :
    ∃ A c w', (Builtin.append_ #[t, ti] ty #[.slice none 0 0, .int .i64 k]).run P w = .ok (.slice A k c) w' ∧ LstR zs.length e (w.heap.size ≤ ·) w' A 0 c [] ∧ k ≤ c ∧ Below w.heap.size w w' := by
  obtain ⟨i, hi, hz, hsz, hby⟩ := info_parts E.hi
  have hmax : k ≤ maxLen := by
    have : k * 1 ≤ k * bytes := Nat.mul_le_mul_left _ E.hb
    simp only [maxLen]; omega
  have hkb' : ¬ ((281474976710656 : Int) < (k : Int) * (bytes : Int)) := by
    have : ((k * bytes : Nat) : Int) ≤ 140737488355328 := Int.ofNat_le.2 hlen
    rw [Int.natCast_mul] at this
    omega
  have hk8 : (k : Int) ≤ 140737488355328 := by
    have : k * 1 ≤ k * bytes := Nat.mul_le_mul_left _ E.hb
    omega
  have hwr : IntKind.i64.wrap (k : Int) = k := by
    rw [IntKind.wrap_i64]
    omega
  have hk0 : ¬ ((k : Int) < 0) := by omega
  have hroom : ¬ (0 + k ≤ 0) := by omega
  have hge := grownCap_ge w k 0 e
  have hcm : grownCap w k 0 e ≤ maxLen := grownCap_le_maxLen w k 0 e hmax
  have hfit := growslice_fits (need := k) (old := 0) (bytes := i.bytes) hk (by rw [hby]; exact hlen)
  have hkk : k - 0 = k := by omega
  have h63' : ¬ (9223372036854775807 < (k : Int)) := by omega
  have h48' : ¬ (281474976710656 < Builtin.nextslicecap k 0 * bytes) := by rw [← hby]; omega
  have hkp : ¬ k = 0 := by omega
  obtain ⟨cur, hcur, hcs⟩ : ∃ cur : Array Value, cur = Builtin.zeroCells (Value.agg zs.toArray).cells k ++ Builtin.zeroCells (Value.agg zs.toArray).cells (grownCap w k 0 e - k) ∧ cur.size = grownCap w k 0 e * zs.length := by
    refine ⟨_, rfl, ?_⟩
    rw [Array.size_append, zeroCells_size, zeroCells_size]
    simp only [Value.cells, List.size_toArray]
    rw [← Nat.add_mul]
    congr 1; omega
  have hl := LstR.made zs.length w.drew e cur 0 (grownCap w k 0 e) [] (by simp) (Nat.zero_le _) (by rw [hcs]; exact Nat.le_refl _) hcm (by simp) (fun i hi => by simp at hi)
  refine ⟨some ⟨w.heap.size, 0, none⟩, grownCap w k 0 e, w.drew.alloc (.cells cur e), ?_, hl, hge, ⟨rfl, rfl, rfl, by simp, fun j hj => heap_alloc_old w.drew _ hj⟩⟩
  rw [hcur]
  have holds : (Builtin.firstCells zs.length 0 (.slice none 0 0)).run P w.drew = .ok #[] w.drew := by
    have := ((LstR.nil zs.length e (fun _ => True) w).rd.src E.ht).cellsD
    simpa using this
  have hkz : ¬ (k * zs.length = 0) := by
    have := E.hs
    intro h
    rcases Nat.mul_eq_zero.1 h with h | h <;> omega
  simp [Builtin.append_, asInt, asIntOf, run_underlying E.ht, run_underlying hti, sizeOf, typeInfo, zeroValue, hi, hz, hsz, hby, hwr, hk0, hkb', h63', h48', hkp, Question.forced, newRow, grownCap, holds, hkz]
theorem wpList_append_zrow {ti : TypeId} {ops : Array Oper} {rest : List Oper} {o : Oper} {a : Act} {Q : Exit → Act → World → Prop} (E : EltS P t e zs bytes) (hti : P.underlying ti = some (.int .i64)) (hgd : o.guard = none) (s x : Operand)
    (ho : o.op = .call { callee := .builtin .append, args := #[s, x], argTypes := #[t, ti] })
    (hs : a.eval s = .slice none 0 0) {k : Nat} (hx : a.eval x = .int .i64 k) (hk : 0 < k) (hlen : k * bytes ≤ 140737488355328)
    (hq : ∀ A c w', LstR zs.length e (w.heap.size ≤ ·) w' A 0 c [] → k ≤ c → Below w.heap.size w w' → wpList P ops Q rest (a.put o.dst (.slice A k c)) w') : wpList P ops Q (o :: rest) a w := by
  obtain ⟨A, c, w', hrun, h1, h2, h3⟩ := run_append_zrow E hti o.type w k hk hlen
  refine wpList_plain hgd fun K hK => ?_
  unfold Oper.wp execOp
  simp only [ho, resolve, invoke, builtin, Sem.run_bind, Sem.run_pure, Result.andThen_ok, List.map_toArray, List.map_cons, List.map_nil, hs, hx, hrun]
  exact hK _ _ (hq A c w' h1 h2 h3)
theorem opwp_build_row {ops : Array Oper} {o : Oper} {a : Act} {K : Act → World → Prop} {Q : Exit → Act → World → Prop} (E : EltS P t e zs bytes) (hgd : o.guard = none) (s : Operand)
    (ho : o.op = .buildSlice t 1 #[(0, s)]) {xs : List Value} (hs : a.eval s = .agg xs.toArray) (hx : xs.length = zs.length)
    (hq : K (a.put o.dst (.slice (some ⟨w.heap.size, 0, none⟩) 1 1)) (w.alloc (.cells xs.toArray e))) : if Region.wanted o (yielded ops a.tmps) = true then Oper.wp P o a w K Q else K (a.put o.dst undef) w := by
  have hr := E.build_one hx w
  rw [if_pos (by simp only [Region.wanted, hgd])]
  unfold Oper.wp execOp
  simp only [ho, List.map_toArray, List.map_cons, List.map_nil, hs, Sem.run_bind, Sem.run_pure, hr, Result.andThen_ok]
  exact hq
theorem exec_slice {op : Oper} {a : Act} {x : Operand} {lo hi mx : Option Operand} {r : Value} (ht : P.underlying t = some (.slice e)) (ho : op.op = .slice t x lo hi mx) (hr : (Instr.slice t (a.eval x) (lo.map a.eval) (hi.map a.eval) (mx.map a.eval)).run P w = .ok r w) : (execOp a.eval op).run P w = .ok (.value r) w := by
  unfold execOp
  simp only [ho, Instr.sliceAt, Sem.run_bind]
  simp [hr, run_underlying ht]
theorem RdR.pre {sz : Nat} (h : RdR sz w A n c cs) {s : Nat} (hs : s ≤ n) : RdR sz w A s c (cs.take (s * sz)) := by
  obtain ⟨h1, h2, h3, h4, h5, h6⟩ := h
  have hm : s * sz ≤ n * sz := Nat.mul_le_mul_right _ hs
  refine ⟨by rw [List.length_take, h1]; omega, by omega, h3, h4, fun x hx => h5 x (List.mem_of_mem_take hx), fun hn => ?_⟩
  obtain ⟨g, o, e, hg, hx⟩ := h6 (by omega)
  refine ⟨g, o, e, hg, fun i hi => ?_⟩
  rw [hx i (by omega), List.getElem?_take, if_pos hi]
theorem flat_take {α : Type} {cl : α → List Value} {sz : Nat} (h : ∀ a, (cl a).length = sz) (qs : List α) (s : Nat) (hs : s ≤ qs.length) : flat cl (qs.take s) = (flat cl qs).take (s * sz) := by
  have e : flat cl qs = flat cl (qs.take s) ++ flat cl (qs.drop s) := by rw [← flat_app, List.take_append_drop]
  have hl : (flat cl (qs.take s)).length = s * sz := by rw [flat_len h, List.length_take, Nat.min_eq_left hs]
  rw [e, ← hl, List.take_left]
/-- In a world of N blocks at most anything may come; behind it nothing. -/
def Kc (N : Nat) (W W' : World) : Prop := W.heap.size ≤ N ∨ W' = W
theorem Kc.tr (N : Nat) : Tr (Kc N) := ⟨fun w => .inr rfl, fun a b c h k => by
  rcases h with h | rfl
  · exact .inl h
  · exact k⟩
theorem Kc.eq {N : Nat} {W W' : World} (h : Kc N W W') (hN : N < W.heap.size) : W' = W := by
  rcases h with h | h
  · omega
  · exact h
end
theorem bytes_beq (a b : ByteArray) : (a.toList == b.toList) = decide (a = b) := by
  rw [ByteArray.toList_eq, ByteArray.toList_eq]
  by_cases h : a = b
  · subst h
    simp
  · have : a.data.toList ≠ b.data.toList := fun e => h (by
      cases a; cases b
      simp only [ByteArray.mk.injEq]
      exact Array.ext' e)
    rw [decide_eq_false h]
    simpa using this
/-- A list of rows that a call made. -/
def MadeR (e : TypeId) (cs : List Value) (w : World) (en : Ending) (w' : World) : Prop := ∃ A n c, en = .returned (.slice A n c) ∧ LstR 2 e (w.heap.size ≤ ·) w' A n c cs ∧ Below w.heap.size w w'
end Go.Proofs.Ytainmpeiicinmaa
