/- Counters told as a text. -/
import Derived.Test.YtdepbdmnkkkjlaaDoorN8
import Derived.Lib.LaidTab
set_option linter.unusedSimpArgs false
set_option linter.unusedVariables false
set_option maxRecDepth 100000
namespace Go.Proofs.YtdepbdmnkkkjlaaDoor
open Go.RowKit Go.Shelf Go.Maps Go.Sort
attribute [local go_sem] Oper.semAt_some
/-- The library's table of powers. -/
def Tb (w : World) : Prop := Lib.TabIs Tryd.prog w "internal/strconv.uint64pow10" .u64 Lib.pow10Tab
theorem Tb.below {w w' : World} (h : Tb w) (hb : Below w.heap.size w w') : Tb w' := by
  have hg : Tryd.prog.globalNamed "internal/strconv.uint64pow10" = some 0 := by kernel_rfl
  unfold Tb Lib.TabIs World.var? at h ⊢
  rw [hg] at h ⊢
  simp only [Option.bind_some] at h ⊢
  have hlt : 0 < w.heap.size := by
    rcases Nat.lt_or_ge 0 w.heap.size with h' | h'
    · exact h'
    · rw [Array.getElem?_eq_none h'] at h; cases h
  rw [hb.block 0 hlt]
  exact h
theorem bld_cells {T e : TypeId} {B b : Nat} {p : Value} {bs : List Value} {A A' : World} (h : Lib.BuilderAtF T e B b p bs A) (hc : ∀ (k : Nat) (o : Obj), A.heap[k]? = some o → o.isCells = true → A'.heap[k]? = some o) : Lib.BuilderAtF T e B b p bs A' := by
  obtain ⟨hB, v, hb, hown, hne⟩ := h
  refine ⟨hB, v, hc _ _ hb rfl, ⟨hown.1, ?_⟩, hne⟩
  rcases hown.2 with hn | ⟨g, cap, cur, fz, hv, hbg, hg, rest⟩
  · exact .inl hn
  · exact .inr ⟨g, cap, cur, fz, hv, hbg, hc _ _ hg rfl, rest⟩
theorem isb_cells {T e : TypeId} {B b : Nat} {bs : List Value} {A A' : World} (h : Lib.IsBuilderF T e B b bs A) (hc : ∀ (k : Nat) (o : Obj), A.heap[k]? = some o → o.isCells = true → A'.heap[k]? = some o) : Lib.IsBuilderF T e B b bs A' :=
  h.elim (fun x => .inl (bld_cells x hc)) (fun x => .inr (bld_cells x hc))
theorem cells_own {A A' : World} {row : Option Nat} {B : Nat} (hw : A.grownBy A' row) (hr : ∀ r, row = some r → B ≤ r ∧ ∃ o : Obj, A.heap[r]? = some o ∧ o.isCells = false) : ∀ (k : Nat) (o : Obj), A.heap[k]? = some o → o.isCells = true → A'.heap[k]? = some o := fun k o hk hc => by
  refine (hw.block k (Array.getElem?_eq_some_iff.1 hk).1 fun e => ?_).trans hk
  obtain ⟨_, o', ho, hc'⟩ := hr k e.symm
  rw [hk] at ho
  injection ho with ho
  subst ho
  rw [hc] at hc'
  cases hc'
theorem cells_below {A A' : World} (hw : Below A.heap.size A A') : ∀ (k : Nat) (o : Obj), A.heap[k]? = some o → o.isCells = true → A'.heap[k]? = some o := fun k o hk _ => (hw.block k (Array.getElem?_eq_some_iff.1 hk).1).trans hk
/-- The body owns rows of bytes. -/
def OwnT : World → Nat → Prop := fun W k => ∃ cur fz, W.heap[k]? = some (.cells cur 5 fz)
theorem fitT (w : World) : Fit OwnT w := fun W W1 _ _ k _ h ho => by
  obtain ⟨cur, fz, h1⟩ := ho
  rcases h with ⟨es, c, h2⟩ | ⟨cur2, fz2, h2⟩
  · rw [h1] at h2; cases h2
  · rw [h1] at h2
    injection h2 with h2
    injection h2 with h2 h3
    cases h3
theorem kpT_put (N l : Nat) (W : World) (o o' : Obj) (hl : l < N) : KpW OwnT N W (W.putObj l o') :=
  ⟨by simp [World.putObj], fun k hk _ hn => ⟨World.putObj_heap_other (by omega), fun ⟨cur, fz, h⟩ => hn ⟨cur, fz, (World.putObj_heap_other (by omega)).symm.trans h⟩⟩⟩
theorem kpT_of {W W' : World} {b N : Nat} (hs : W.heap.size ≤ W'.heap.size) (h : Lib.OthersKept 5 (some b) W W') (hb : b < N) : KpW OwnT N W W' := by
  refine ⟨hs, fun k hk hl hn => ?_⟩
  have hk2 : W.heap[k]? = some W.heap[k] := Array.getElem?_eq_getElem hl
  have h1 := h k W.heap[k] hk2 (fun e => by injection e with e; omega) (fun c fz e => hn ⟨c, fz, hk2.trans (by rw [e])⟩)
  exact ⟨h1.trans hk2.symm, fun ⟨cur, fz, hc⟩ => hn ⟨cur, fz, by rw [hk2, ← h1]; exact hc⟩⟩
theorem keepsT {W W' : World} {b B : Nat} {o : Obj} (hs : W.heap.size ≤ W'.heap.size) (h : Lib.OthersKept 5 (some b) W W') (hb : b < B) : KeepsFrom B W W' :=
  ⟨hs, fun k o hk ho hc => h k o ho (fun e => by injection e with e; omega) (fun c fz e => by rw [e] at hc; cases hc)⟩
theorem kept_below {e : TypeId} {bo : Option Nat} {W W2 W3 : World} (hb : Below W.heap.size W W2) (h : Lib.OthersKept e bo W2 W3) : Lib.OthersKept e bo W W3 := fun k o hk hn hc => h k o ((hb.block k (Array.getElem?_eq_some_iff.1 hk).1).trans hk) hn hc
theorem below_grow (W : World) (k : Nat) (os : Array Obj) : Below W.heap.size W (grow (W.drewN k) os) := by
  refine ⟨rfl, rfl, rfl, by simp [grow, World.drewN], fun j hj => ?_⟩
  show (W.heap ++ os)[j]? = _
  rw [Array.getElem?_append_left hj]
theorem dec_len : ∀ (k u : Nat), u < 10 ^ (k + 1) → (Lib.decDigits u).length ≤ k + 1
  | 0, u, h => by rw [Lib.decDigits, dif_pos (by simpa using h)]; simp
  | k + 1, u, h => by
    rw [Lib.decDigits]
    split
    · simp
    · have := dec_len k (u / 10) (by rw [Nat.pow_succ] at h; omega)
      simp
      omega
theorem itoa_len {n : Int} (h0 : 0 ≤ n) (h1 : n ≤ Most) : (Lib.itoa n).length ≤ 20 := by
  unfold Lib.itoa
  rw [if_neg (by omega)]
  exact dec_len 19 _ (by simp only [Most] at h1; omega)
theorem cells_line (x : Cn) : Lib.strCells (⟨x.s.toArray⟩ ++ ⟨#[32]⟩ ++ ⟨(Lib.itoa x.n).toArray⟩ ++ ⟨#[10]⟩) = Lib.byteCells (line x) := by
  simp [Lib.strCells, Lib.byteCells, line]
theorem txt_snoc (pre : List Cn) (x : Cn) : txt (pre ++ [x]) = if 0 < x.n then txt pre ++ line x else txt pre := by
  simp only [txt, List.flatMap_append, List.flatMap_cons, List.flatMap_nil, List.append_nil]
  split <;> simp
/-- The text is being put together. -/
def TxtI (w : World) (pre : List Cn) (W : World) : Prop :=
  Below w.heap.size w W ∧ w.heap.size < W.heap.size ∧ Lib.IsBuilderF 79 5 w.heap.size w.heap.size (Lib.byteCells (txt pre)) W
set_option maxHeartbeats 4000000 in
theorem all_text {w : World} {A : Option Addr} {m : List Cn} (ht : Tb w) (hok : Ok m) (hg : ∀ W g1, Below w.heap.size w W → Bk W 25 g1 [.pointer A] → AllG OwnT m g1 W 4) :
    Calls Tryd.prog 29 #[.pointer A] w fun e w' => e = .returned (str (txt m)) ∧ Below w.heap.size w w' := by
  have HQ := Lib.hid (And.intro (Bk.new w 79 [.pointer none, .slice none 0 0]) ((Below.refl _ w).alloc (Nat.le_refl _) (.cells #[.pointer none, .slice none 0 0] 79)))
  have hsz : (w.alloc (.cells #[.pointer none, .slice none 0 0] 79)).heap.size = w.heap.size + 1 := by simp
  refine (callsIn_wide (n := 5)).1 ?_
  refine callsIn_of_wp_marks Tryd.func29 rfl trivial ?_ rfl
  simp only [Tryd.ntmps29, List.size_toArray, List.length_cons, List.length_nil, Nat.reduceAdd, Nat.reduceSub, Array.replicate_succ, Array.replicate_zero, List.push_toArray, List.append_toArray, List.nil_append, List.cons_append]
  gi_wp2
  generalize (w.alloc (.cells #[.pointer none, .slice none 0 0] 79)) = W1 at *
  refine ⟨trivial, (callsIn_wide.2 (q_all A W1)).mono ?_⟩
  rintro e W0 ⟨rfl, hr, hb⟩
  have hs0 : W1.heap.size < W0.heap.size := hr.lt
  have HI0 : Hid (TxtI w [] W0) := Lib.hid ⟨HQ.out.2.trans (hb.mono HQ.out.2.size), by omega, .inl ⟨Nat.le_refl _, .slice none 0 0, HQ.out.1.below hb, ⟨rfl, .inl ⟨rfl, rfl⟩⟩, by simp [Value.ownBlock]⟩⟩
  have hgv := hg W0 _ HI0.out.1 hr
  rw [hsz] at hgv hs0 hr ⊢
  clear hr hb hg
  gi_wp2
  refine wpIn_givesM rfl (by decide) (gf := 49) (lb := #[.pointer (some ⟨w.heap.size + 1, 0, none⟩)]) rfl trivial (enters_of Tryd.func49 (by kernel_rfl) rfl)
    hgv (Below.refl _ _) (fun _ => rfl) KpW.trans (fun N l W o o' hl ho h0 hc => kpT_put N l W o o' hl)
    (fun pre W => TxtI w pre W ∧ pre.length ≤ 256 ∧ (txt pre).length ≤ pre.length * 100) (fun _ _ _ => False)
    (fun pre W W' row hI hw hr => ⟨⟨below_own hI.1.1 (by omega) hw hr, Nat.lt_of_lt_of_le hI.1.2.1 hw.size, isb_cells hI.1.2.2 (cells_own hw hr)⟩, hI.2⟩) (fun _ _ _ _ _ hs _ _ => hs) ⟨HI0.out, by simp, by simp [txt]⟩
    (fun pre x a' W => pre.length < 256 ∧ x ∈ m ∧ a' = { tmps := #[.pointer A, undef, str [], .pointer (some ⟨w.heap.size, 0, none⟩), str x.s, num x.n, .pointer A, .func (.func 49) #[] #[.pointer (some ⟨w.heap.size + 1, 0, none⟩)], str x.s, num x.n, undef, undef, undef, undef, undef, undef, undef, undef, undef, undef], defers := [] })
    ?hAx ?assign ?body ?done ?stop
  case hAx =>
    rintro pre x a' _ W W' row h hw hr
    exact h
  case assign =>
    rintro l pre x W K hI hat hK
    have hlt : pre.length < 256 := by have := (List.getElem?_eq_some_iff.1 hat).1; have := hok.len; omega
    gi_wp2
    exact hK _ _ ⟨Nat.le_refl _, fun _ _ _ h _ => h⟩ ⟨Nat.le_refl _, fun k _ _ h => ⟨rfl, h⟩⟩ hI ⟨hlt, List.mem_of_getElem? hat, rfl⟩
  case body =>
    rintro l pre x a' W hsz2 ⟨⟨hb, hL, hbl⟩, hp1, hp2⟩ ⟨hx, hxm, rfl⟩
    have hx2 := (hok.all x hxm).2
    have HB := Lib.hid (And.intro hb (And.intro hL hbl))
    have HTX := Lib.hid (txt_snoc pre x)
    by_cases h0 : 0 < x.n
    · have hne : (x.n != 0) = true := by simp; omega
      have HW : Tb W := (ht.below hb)
      have HIt := Lib.hid (Tryd.strconv_Itoa x.n (by omega) (by have := hx2.2; simp only [Most] at this; omega) W HW)
      have e1 := str_len x.s
      have e2 : x.s.length ≤ 32 := by have := (hok.all x hxm).1; simp only [good, Bool.and_eq_true, decide_eq_true_eq] at this; exact this.1.2
      clear hb hL hbl
      gi_wp2
      refine ⟨trivial, (callsIn_wide.2 HIt.out).mono ?_⟩
      rintro e W2 ⟨rfl, kk, os, hW2⟩
      have hb2 : Below W.heap.size W W2 := by rw [hW2]; exact below_grow _ _ _
      have e3 := itoa_len (n := x.n) (by omega) hx2.2
      have e4 := str_len (Lib.itoa x.n)
      have HW2 := Lib.hid (And.intro hb2 (isb_cells HB.out.2.2 (cells_below hb2)))
      clear hW2 hb2
      gi_wp2
      have hln : Lib.strCells (⟨x.s.toArray⟩ ++ ⟨#[32]⟩ ++ ⟨(Lib.itoa x.n).toArray⟩ ++ ⟨#[10]⟩) = Lib.byteCells (line x) := cells_line x
      have hll : (line x).length ≤ 60 := by simp [line]; omega
      refine ⟨trivial, (callsIn_wide.2 (Tryd.Builder_WriteString_k w.heap.size w.heap.size _ _ W2 HW2.out.2 (by rw [Lib.byteCells_length, ← Lib.strCells_length, hln, Lib.byteCells_length]; omega) (by have := HB.out.2.1; have := HW2.out.1.size; omega))).mono ?_⟩
      rintro e W3 ⟨rfl, h1, h2, h3⟩
      gi_wp2
      have hk2 : Lib.OthersKept 5 (some w.heap.size) W W3 := kept_below HW2.out.1 h3
      have hsz3 : W.heap.size ≤ W3.heap.size := by have := HW2.out.1.size; have := h2.size; omega
      have hb3 : Below w.heap.size w W3 := (HB.out.1.trans (HW2.out.1.mono HB.out.1.size)).trans h2
      refine ⟨keepsT (o := .deferred none) hsz3 hk2 (by omega), kpT_of hsz3 hk2 (by omega), ⟨hb3, by have := HB.out.2.1; omega, ?_⟩, by simp; omega, ?_⟩
      · rw [HTX.out, if_pos h0]
        rw [hln] at h1
        refine .inr ?_
        simpa [Lib.byteCells] using h1
      · rw [HTX.out, if_pos h0]
        simp
        omega
    · have hz : x.n = 0 := by omega
      clear hb hL hbl
      gi_wp2
      have hT : txt (pre ++ [x]) = txt pre := by rw [HTX.out, if_neg (by omega)]
      refine ⟨⟨Nat.le_refl _, fun _ _ _ h _ => h⟩, ⟨Nat.le_refl _, fun k _ _ h => ⟨rfl, h⟩⟩, ⟨HB.out.1, HB.out.2.1, ?_⟩, by simp; omega, ?_⟩
      · rw [hT]; exact HB.out.2.2
      · rw [hT]; simp; omega
  case done =>
    rintro D ys W hD rfl ⟨⟨hb, hL, hbl⟩, _⟩ hK
    have HS := Lib.hid (Tryd.Builder_String_any_k w.heap.size w.heap.size (txt ys) W hbl (by omega))
    gi_wp2
    refine ⟨trivial, (callsIn_wide.2 HS.out).mono ?_⟩
    rintro e W2 ⟨rfl, h1, h2, h3⟩
    gi_wp2
    have hK2 : W2.heap[D]? = some (.deferred (some [])) := h3 D _ hK (fun e => by injection e with e; omega) (fun c fz e => by cases e)
    refine ⟨by simp, .inl ⟨_, _, rfl, run_takeDeferred hK2, ?_⟩⟩
    refine ⟨_, results_tmp rfl _ _ _, rfl, (hb.trans h2).trans ⟨rfl, rfl, rfl, by simp [World.putObj], fun k hk => World.putObj_heap_other (by omega)⟩⟩
  case stop =>
    rintro D c' pre W hD _ h _
    exact h.elim
end Go.Proofs.YtdepbdmnkkkjlaaDoor
