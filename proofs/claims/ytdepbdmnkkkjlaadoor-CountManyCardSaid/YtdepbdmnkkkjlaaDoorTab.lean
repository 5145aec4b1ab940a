/- Rows of integers told by a function of their place. -/
import Derived.Test.YtdepbdmnkkkjlaaDoorAgg
set_option linter.unusedSimpArgs false
set_option linter.unusedVariables false
namespace Go.Proofs.YtdepbdmnkkkjlaaDoor
open Go.RowKit Go.Shelf

/-- The integers f 0 .. f (m - 1). -/
def tabI (m : Nat) (f : Nat → Int) : List Int := (List.range m).map f
def tabV (m : Nat) (f : Nat → Int) : List Value := (tabI m f).map (.int .i64)
def up (f : Nat → Int) (k : Nat) (v : Int) : Nat → Int := fun i => if i = k then v else f i
theorem up_at (f : Nat → Int) (k : Nat) (v : Int) : up f k v k = v := by simp [up]
theorem up_ne (f : Nat → Int) {k i : Nat} (v : Int) (h : i ≠ k) : up f k v i = f i := by simp [up, h]
theorem tabI_len (m : Nat) (f : Nat → Int) : (tabI m f).length = m := by simp [tabI]
theorem tabV_len (m : Nat) (f : Nat → Int) : (tabV m f).length = m := by simp [tabV, tabI]
theorem tabI_get (m : Nat) (f : Nat → Int) {i : Nat} (h : i < m) : (tabI m f)[i]? = some (f i) := by simp [tabI, h]
theorem tabV_get (m : Nat) (f : Nat → Int) {i : Nat} (h : i < m) : (tabV m f)[i]? = some (.int .i64 (f i)) := by simp [tabV, tabI, h]
theorem tabV_one (m : Nat) (f : Nat → Int) : ∀ v ∈ tabV m f, v.oneCell' = true := by
  intro v hv
  obtain ⟨b, _, rfl⟩ := List.mem_map.1 hv
  rfl
theorem tabI_congr {m : Nat} {f g : Nat → Int} (h : ∀ i, i < m → f i = g i) : tabI m f = tabI m g := List.map_congr_left fun i hi => h i (by simpa using hi)
theorem tabV_congr {m : Nat} {f g : Nat → Int} (h : ∀ i, i < m → f i = g i) : tabV m f = tabV m g := by unfold tabV; rw [tabI_congr h]
theorem tabV_ext {l : List Value} {m : Nat} {f : Nat → Int} (hl : l.length = m) (h : ∀ i, i < m → l[i]? = some (.int .i64 (f i))) : l = tabV m f := by
  apply List.ext_getElem?
  intro i
  by_cases hi : i < m
  · rw [h i hi, tabV_get _ _ hi]
  · rw [List.getElem?_eq_none (by omega), List.getElem?_eq_none (by rw [tabV_len]; omega)]
theorem tabI_inj {m : Nat} {f g : Nat → Int} (h : tabI m f = tabI m g) : ∀ i, i < m → f i = g i := fun i hi => by
  have h1 := tabI_get m f hi
  rw [h, tabI_get m g hi] at h1
  injection h1 with h1
  exact h1.symm
theorem tabV_set (m : Nat) (f : Nat → Int) (k : Nat) (x : Int) : (tabV m f).set k (.int .i64 x) = tabV m (up f k x) := by
  refine tabV_ext (by simp [tabV_len]) fun i hi => ?_
  rw [List.getElem?_set]
  by_cases h : k = i
  · subst h
    rw [if_pos rfl, if_pos (by rw [tabV_len]; exact hi), up_at]
  · rw [if_neg h, tabV_get _ _ hi, up_ne _ _ (Ne.symm h)]
theorem tabV_row (m : Nat) (f : Nat → Int) (o k : Nat) (h : o + k ≤ m) : ((tabV m f).drop o).take k = tabV k (fun i => f (o + i)) := by
  refine tabV_ext (by simp [tabV_len]; omega) fun i hi => ?_
  rw [List.getElem?_take, if_pos hi, List.getElem?_drop, tabV_get _ _ (by omega)]
theorem tabV_row' (m : Nat) (f : Nat → Int) (o k : Nat) (h : o + k ≤ m) {g : Nat → Int} (hg : ∀ i, i < k → f (o + i) = g i) : ((tabV m f).drop o).take (tabV k g).length = tabV k g := by
  rw [tabV_len, tabV_row m f o k h]
  exact tabV_congr hg
theorem tabV_lay (m : Nat) (f : Nat → Int) (o k : Nat) (h : o + k ≤ m) (g : Nat → Int) : lay (tabV m f) o (tabV k g) = tabV m (fun i => if o ≤ i ∧ i < o + k then g (i - o) else f i) := by
  have hl : o + (tabV k g).length ≤ (tabV m f).length := by rw [tabV_len, tabV_len]; exact h
  refine tabV_ext (by rw [lay_len _ _ _ hl, tabV_len]) fun i hi => ?_
  by_cases hc : o ≤ i ∧ i < o + k
  · obtain ⟨j, rfl⟩ := Nat.exists_eq_add_of_le hc.1
    rw [if_pos hc, lay_in _ _ _ hl (by rw [tabV_len]; omega), tabV_get _ _ (by omega)]
    simp
  · rw [if_neg hc, lay_out _ _ _ hl (by rw [tabV_len]; omega), tabV_get _ _ hi]
/-- A row that is followed by what is not told. -/
theorem tabV_get_app (m : Nat) (f : Nat → Int) (tl : List Value) {i : Nat} (h : i < m) : (tabV m f ++ tl)[i]? = some (.int .i64 (f i)) := by
  rw [List.getElem?_append_left (by rw [tabV_len]; exact h), tabV_get _ _ h]
theorem tabV_set_app (m : Nat) (f : Nat → Int) (tl : List Value) {k : Nat} (h : k < m) (x : Int) : (tabV m f ++ tl).set k (.int .i64 x) = tabV m (up f k x) ++ tl := by
  rw [List.set_append_left _ _ (by rw [tabV_len]; exact h), tabV_set]
theorem tabV_row_app (m : Nat) (f : Nat → Int) (tl : List Value) (o k : Nat) (h : o + k ≤ m) {g : Nat → Int} (hg : ∀ i, i < k → f (o + i) = g i) : ((tabV m f ++ tl).drop o).take (tabV k g).length = tabV k g := by
  rw [List.drop_append_of_le_length (by rw [tabV_len]; omega), List.take_append_of_le_length (by rw [List.length_drop, tabV_len, tabV_len]; omega)]
  exact tabV_row' m f o k h hg
theorem lay_app (vs tl : List Value) (o : Nat) (cs : List Value) (h : o + cs.length ≤ vs.length) : lay (vs ++ tl) o cs = lay vs o cs ++ tl := by
  unfold lay
  rw [List.take_append_of_le_length (by omega), List.drop_append_of_le_length (by omega), List.append_assoc, List.append_assoc, List.append_assoc]
theorem tabV_lay_app (m : Nat) (f : Nat → Int) (tl : List Value) (o k : Nat) (h : o + k ≤ m) (g : Nat → Int) : lay (tabV m f ++ tl) o (tabV k g) = tabV m (fun i => if o ≤ i ∧ i < o + k then g (i - o) else f i) ++ tl := by
  rw [lay_app _ _ _ _ (by rw [tabV_len, tabV_len]; exact h), tabV_lay _ _ _ _ h]
theorem tabV_zero (m : Nat) : tabV m (fun _ => 0) = List.replicate m (.int .i64 0) := by
  apply List.ext_getElem
  · simp [tabV_len]
  · intro i h1 h2
    simp [tabV, tabI]
theorem zeroCells_tab (k n : Nat) (hk : 0 < k) : (Builtin.zeroCells (Value.agg (tabV k (fun _ => 0)).toArray).cells n).toList = tabV (n * k) (fun _ => 0) := by
  refine tabV_ext (by simp [Builtin.zeroCells, tabV_len, Value.cells]) fun i hi => ?_
  have h1 : i % k < k := Nat.mod_lt _ hk
  have h2 := tabV_get k (fun _ => 0) h1
  have h3 : (tabV k (fun _ => 0)).toArray[i % k]! = .int .i64 0 := by
    rw [getElem!_def]
    simp [h2]
  simp only [Builtin.zeroCells, Value.cells, List.size_toArray, tabV_len, Array.toList_map, Array.toList_range, List.getElem?_map, List.getElem?_range hi, Option.map_some, h3]
/-- A row is stored, at one operation of a drawn region. -/
theorem opwp_store_bk {P : Program} {w : World} {t ty : TypeId} {m : Nat} {vs : List Value} {ops : Array Oper} {op : Oper} {a : Act} {K : Act → World → Prop} {Q : Exit → Act → World → Prop} (R : Row P ty m) (hgd : op.guard = none) (x y : Operand)
    (ho : op.op = .store ty x y) (g o : Nat) (hx : a.eval x = .pointer (some ⟨g, o, none⟩)) (h : Bk w t g vs) (cs : List Value) (hy : a.eval y = .agg cs.toArray) (hm : cs.length = m)
    (hl : o + m ≤ vs.length) (h1 : ∀ v ∈ cs, v.oneCell' = true) (hq : ∀ w', Bk w' t g (lay vs o cs) → Wr g w w' → K (a.put op.dst undef) w') :
    if Region.wanted op (yielded ops a.tmps) = true then Oper.wp P op a w K Q else K (a.put op.dst undef) w := by
  rw [if_pos (by simp only [Region.wanted, hgd])]
  exact wp_store_mid ty x y ho g o cs.toArray hx hy (h.there o (by simpa [hm] using hl)) (by simp only [List.size_toArray, hm]; exact R.hi) (all_oneCell_toArray h1)
    (hq _ (h.setCells o cs (by omega)) (Wr.setCells g o cs w))
/-- A row is loaded, at one operation of a drawn region. -/
theorem opwp_load_bk {P : Program} {w : World} {t ty : TypeId} {m : Nat} {vs : List Value} {ops : Array Oper} {op : Oper} {a : Act} {K : Act → World → Prop} {Q : Exit → Act → World → Prop} (R : Row P ty m) (hgd : op.guard = none) (x : Operand)
    (ho : op.op = .load ty x) (g o : Nat) (hx : a.eval x = .pointer (some ⟨g, o, none⟩)) {g' : Nat} (hg : g' = g) (h : Bk w t g' vs) (cs : List Value) (hm : cs.length = m) (hcs : (vs.drop o).take cs.length = cs) (hq : K (a.put op.dst (.agg cs.toArray)) w) :
    if Region.wanted op (yielded ops a.tmps) = true then Oper.wp P op a w K Q else K (a.put op.dst undef) w := by
  subst hg
  obtain ⟨d, h1, h2⟩ := R.ht
  rw [if_pos (by simp only [Region.wanted, hgd])]
  exact wp_load_mid ty x ho g' o hx cs d (h.range o hcs) h1 h2 (by rw [hm]; exact R.hi) hq
/-- clear(x[..]) of a row in a block that is known whole: cs: the zeros. -/
theorem run_clear_bk {P : Program} {w : World} {t e tt : TypeId} {i : TypeInfo} {z : Value} {vs cs : List Value} {g o n c : Nat} (ty : TypeId) (ht : P.underlying t = some (.slice e)) (hi : P.info? e = some i) (hz : i.zero = some z) (h : Bk w tt g vs)
    (hn : 0 < n) (hcs : (Builtin.zeroCells z.cells n).toList = cs) (hl : o + cs.length ≤ vs.length) (h1 : ∀ v ∈ cs, v.oneCell' = true) :
    (Builtin.clear_ #[t] ty #[.slice (some ⟨g, o, none⟩) n c]).run P w = .ok (.tuple #[]) (w.setCells g o cs) := by
  have hst := run_storeCells_cells (P := P) g o cs 0 w (by intro j hj; rw [Nat.add_zero, h.cell (o + j) (List.getElem?_eq_getElem (by omega))]; rfl) (by intro j hj; exact h.free _) h1
  simp only [Nat.add_zero] at hst
  obtain ⟨m, rfl⟩ := Nat.exists_eq_succ_of_ne_zero (show n ≠ 0 by omega)
  simp [Builtin.clear_, run_underlying ht, zeroValue, typeInfo, hi, hz, hcs, hst]
theorem wpList_clear_bk {P : Program} {w : World} {t e tt : TypeId} {i : TypeInfo} {z : Value} {vs cs : List Value} {g p n c : Nat} {ops : Array Oper} {rest : List Oper} {o : Oper} {a : Act} {Q : Exit → Act → World → Prop} (hgd : o.guard = none) (s : Operand)
    (ho : o.op = .call { callee := .builtin .clear, args := #[s], argTypes := #[t] }) (hs : a.eval s = .slice (some ⟨g, p, none⟩) n c) (ht : P.underlying t = some (.slice e)) (hi : P.info? e = some i) (hz : i.zero = some z) (h : Bk w tt g vs)
    (hn : 0 < n) (hcs : (Builtin.zeroCells z.cells n).toList = cs) (hl : p + cs.length ≤ vs.length) (h1 : ∀ v ∈ cs, v.oneCell' = true)
    (hq : ∀ w', Bk w' tt g (lay vs p cs) → Wr g w w' → wpList P ops Q rest (a.put o.dst (.tuple #[])) w') : wpList P ops Q (o :: rest) a w := by
  have hrun := run_clear_bk (c := c) o.type ht hi hz h hn hcs hl h1
  refine wpList_plain hgd fun K hK => ?_
  unfold Oper.wp execOp
  simp only [ho, resolve, invoke, builtin, Sem.run_bind, Sem.run_pure, Result.andThen_ok, List.map_toArray, List.map_cons, List.map_nil, hs, hrun]
  exact hK _ _ (hq _ (h.setCells p cs hl) (Wr.setCells g p cs w))
/-! ### Slices whose elements are rows -/
/-- In P, type t is a slice of type e, whose elements are sz cells, at first zeros, of so many bytes. -/
structure EltT (P : Program) (t e : TypeId) (sz bytes : Nat) : Prop where
  ht : P.underlying t = some (.slice e)
  hi : (P.info? e).map (fun i => (i.zero, i.size, i.bytes)) = some (some (.agg (tabV sz (fun _ => 0)).toArray), sz, bytes)
  hs : 0 < sz
  hb : 0 < bytes
section
variable {P : Program} {w : World} {t e : TypeId} {sz bytes g n c : Nat} {f : Nat → Int} {tl : List Value}
theorem EltT.src (E : EltT P t e sz bytes) (h : Bk w e g (tabV (n * sz) f ++ tl)) : Src P sz t (.slice (some ⟨g, 0, none⟩) n c) n (tabV (n * sz) f) w :=
  Src.ofSlice w E.ht ⟨g, 0, none⟩ n c _ (tabV_len _ _) (fun j u hu => by
    have hj : j < n * sz := by
      rcases Nat.lt_or_ge j (n * sz) with h | h
      · exact h
      · rw [List.getElem?_eq_none (by rw [tabV_len]; exact h)] at hu; cases hu
    have hadd : (⟨g, 0, none⟩ : Addr).add j = ⟨g, j, none⟩ := by unfold Addr.add; split <;> simp_all
    rw [hadd]
    exact h.cell j (by rw [tabV_get_app _ _ _ hj, ← hu, tabV_get _ _ hj])) (tabV_one _ _)
/-- append(x[:0:0], y..): a row of its own. -/
theorem EltT.run_copy (E : EltT P t e sz bytes) (ty : TypeId) (h : Bk w e g (tabV (n * sz) f ++ tl)) (A : Option Addr) (hn : 0 < n) (hlen : n * bytes ≤ 140737488355328) :
    ∃ c' tl', (Builtin.append_ #[t, t] ty #[.slice A 0 0, .slice (some ⟨g, 0, none⟩) n c]).run P w = .ok (.slice (some ⟨w.heap.size, 0, none⟩) n c') (w.drew.alloc (.cells (tabV (n * sz) f ++ tl').toArray e)) := by
  obtain ⟨i, hi, hz, hsz, hby⟩ := info_parts E.hi
  have hmax : n ≤ maxLen := by
    have : n * 1 ≤ n * bytes := Nat.mul_le_mul_left _ E.hb
    simp only [maxLen]; omega
  have hsrc : Src P i.size t (.slice (some ⟨g, 0, none⟩) n c) n (tabV (n * sz) f) w := by rw [hsz]; exact E.src h
  have hold : (Builtin.firstCells i.size 0 (.slice A 0 0)).run P w.drew = .ok ([] : List Value).toArray w.drew := by
    cases A with
    | none => exact run_firstCells_none w.drew _ 0 0 0
    | some a => exact run_firstCells_some w.drew _ 0 a 0 0 [] (by simp) (by simp)
  have hr := run_append_grow_src (P := P) w t t ty e i _ E.ht hi hz A 0 0 [] hold _ n (tabV (n * sz) f) hsrc (by omega) (by simp only [maxLen] at hmax; omega) (growslice_fits (by omega) (by rw [hby, Nat.zero_add]; exact hlen))
  rw [hr]
  refine ⟨grownCap w (0 + n) 0 e, (Builtin.zeroCells (Value.agg (tabV sz (fun _ => 0)).toArray).cells (grownCap w (0 + n) 0 e - (0 + n))).toList, ?_⟩
  have he : ([] ++ tabV (n * sz) f).toArray ++ Builtin.zeroCells (Value.agg (tabV sz (fun _ => 0)).toArray).cells (grownCap w (0 + n) 0 e - (0 + n)) = (tabV (n * sz) f ++ (Builtin.zeroCells (Value.agg (tabV sz (fun _ => 0)).toArray).cells (grownCap w (0 + n) 0 e - (0 + n))).toList).toArray := by
    apply Array.ext'
    simp
  rw [he, Nat.zero_add]
theorem wpList_copy_rows {ops : Array Oper} {rest : List Oper} {o : Oper} {a : Act} {Q : Exit → Act → World → Prop} (E : EltT P t e sz bytes) (hgd : o.guard = none) (s x : Operand)
    (ho : o.op = .call { callee := .builtin .append, args := #[s, x], argTypes := #[t, t] }) {A : Option Addr}
    (hs : a.eval s = .slice A 0 0) (hx : a.eval x = .slice (some ⟨g, 0, none⟩) n c) (h : Bk w e g (tabV (n * sz) f ++ tl)) (hn : 0 < n) (hlen : n * bytes ≤ 140737488355328)
    (hq : ∀ c' tl' w', Bk w' e w.heap.size (tabV (n * sz) f ++ tl') → Below w.heap.size w w' → wpList P ops Q rest (a.put o.dst (.slice (some ⟨w.heap.size, 0, none⟩) n c')) w') : wpList P ops Q (o :: rest) a w := by
  obtain ⟨c', tl', hrun⟩ := E.run_copy (c := c) o.type h A hn hlen
  refine wpList_plain hgd fun K hK => ?_
  unfold Oper.wp execOp
  simp only [ho, resolve, invoke, builtin, Sem.run_bind, Sem.run_pure, Result.andThen_ok, List.map_toArray, List.map_cons, List.map_nil, hs, hx, hrun]
  have hb : Below w.heap.size w (w.drew.alloc (.cells (tabV (n * sz) f ++ tl').toArray e)) := ⟨rfl, rfl, rfl, by simp, fun k hk => heap_alloc_old w.drew _ hk⟩
  exact hK _ _ (hq c' tl' _ (Bk.new w.drew e _) hb)
/-- make(x, n) of rows. -/
theorem EltT.run_make (E : EltT P t e sz bytes) (n : Nat) (hC : bytes * n ≤ 281474976710656) (w : World) :
    (Instr.makeSlice t (.int .i64 n) (.int .i64 n)).run P w = .ok (.slice (some ⟨w.heap.size, 0, none⟩) n n) (w.alloc (.cells (tabV (n * sz) (fun _ => 0)).toArray e)) := by
  obtain ⟨i, hi, hz, hsz, hby⟩ := info_parts E.hi
  have hb1 := E.hb
  have hC2 : n ≤ bytes * n := Nat.le_mul_of_pos_left _ hb1
  have hr := Go.run_make (P := P) w t e i _ E.ht hi hz .i64 .i64 (n : Int) (n : Int) (by omega) (by omega) (by rw [hby, ← Int.natCast_mul]; omega) (by omega)
  rw [hr, hsz]
  simp only [Int.toNat_natCast]
  congr 3
  apply Array.ext'
  have h := zeroCells_tab sz n E.hs
  rw [List.toList_toArray, ← h]
  simp only [madeCells, Builtin.zeroCells, Value.cells, List.size_toArray, tabV_len]
end
end Go.Proofs.YtdepbdmnkkkjlaaDoor
