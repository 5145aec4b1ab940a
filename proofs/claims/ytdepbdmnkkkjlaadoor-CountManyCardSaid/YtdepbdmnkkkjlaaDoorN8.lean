/- Ranged over: the sum of those whose names begin so; all names. -/
import Derived.Test.YtdepbdmnkkkjlaaDoorN7
set_option linter.unusedSimpArgs false
set_option linter.unusedVariables false
set_option maxRecDepth 100000
namespace Go.Proofs.YtdepbdmnkkkjlaaDoor
open Go.RowKit Go.Shelf Go.Maps
attribute [local go_sem] Oper.semAt_some
section
variable {A A' W W' : World} {t : TypeId} {g b N B : Nat} {vs : List Value} {row : Option Nat} {m : List Cn}
theorem bk_own (h : Bk A t g vs) (hw : A.grownBy A' row) (hr : ∀ r, row = some r → B ≤ r ∧ ∃ o : Obj, A.heap[r]? = some o ∧ o.isCells = false) : Bk A' t g vs := by
  refine (hw.block g h.lt fun e => ?_).trans h
  obtain ⟨_, o, ho, hc⟩ := hr g e.symm
  rw [h] at ho
  injection ho with ho
  subst ho
  cases hc
theorem mp_own (h : MpN A b m) (hb : b < B) (hw : A.grownBy A' row) (hr : ∀ r, row = some r → B ≤ r ∧ ∃ o : Obj, A.heap[r]? = some o ∧ o.isCells = false) : MpN A' b m :=
  h.same (hw.block b h.lt fun e => by have := (hr b e.symm).1; omega)
theorem below_own {w : World} (h : Below w.heap.size w A) (hB : w.heap.size ≤ B) (hw : A.grownBy A' row) (hr : ∀ r, row = some r → B ≤ r ∧ ∃ o : Obj, A.heap[r]? = some o ∧ o.isCells = false) : Below w.heap.size w A' :=
  h.trans ⟨hw.os, hw.tape, hw.output, hw.size, fun k hk => hw.block k (by have := h.size; omega) fun e => by have := (hr k e.symm).1; omega⟩
theorem ct_own (h : CtC A g b m) (hb : b < B) (hw : A.grownBy A' row) (hr : ∀ r, row = some r → B ≤ r ∧ ∃ o : Obj, A.heap[r]? = some o ∧ o.isCells = false) : CtC A' g b m := ⟨bk_own h.bk hw hr, mp_own h.mp hb hw hr, h.ok⟩
theorem keeps_st {F : Nat → Prop} (h : St F W W') (hF : ∀ k o, F k → W.heap[k]? = some o → B ≤ k → o.isCells = false → False) : KeepsFrom B W W' :=
  ⟨h.size, fun k o h0 hk hc => (h.block k (Array.getElem?_eq_some_iff.1 hk).1 fun hf => hF k o hf hk h0 hc).trans hk⟩
/-- The body owns nothing that is new. -/
def OwnN : World → Nat → Prop := fun _ _ => False
theorem fitN (w : World) : Fit OwnN w := fun _ _ _ _ _ _ _ h => h
theorem kpN_st {F : Nat → Prop} (h : St F W W') (hF : ∀ k, F k → k < N) : KpW OwnN N W W' := ⟨h.size, fun k hk hl _ => ⟨h.block k hl fun hf => by have := hF k hf; omega, id⟩⟩
theorem kpN_put (N l : Nat) (W : World) (o o' : Obj) (hl : l < N) : KpW OwnN N W (W.putObj l o') := ⟨by simp [World.putObj], fun k hk _ _ => ⟨World.putObj_heap_other (by omega), id⟩⟩
/-- The body owns the block of the list that this variable holds. -/
def OwnS (Bl : Nat) : World → Nat → Prop := fun W k => ∃ ad n c, W.cell? ⟨Bl, 0, none⟩ = some (.slice (some ad) n c) ∧ ad.block = k
theorem fitS {Bl : Nat} {w : World} {t : TypeId} (h : Bk w t Bl [.slice none 0 0]) : Fit (OwnS Bl) w := fun W W1 hW hW1 k hk _ ho => by
  obtain ⟨ad, n, c, h1, _⟩ := ho
  rw [((h.below hW).below hW1).cell 0 rfl] at h1
  cases h1
theorem kpS_put {Bl : Nat} (N l : Nat) (W : World) (o o' : Obj) (hl : l < N) (hB : Bl ≠ l) : KpW (OwnS Bl) N W (W.putObj l o') :=
  ⟨by simp [World.putObj], fun k hk _ hn => ⟨World.putObj_heap_other (by omega), fun ⟨ad, n, c, h1, h2⟩ => hn ⟨ad, n, c, (World.cell?_of_block (a := ⟨Bl, 0, none⟩) (World.putObj_heap_other (by simpa using hB))).symm.trans h1, h2⟩⟩⟩
/-- An append into the list that the variable holds. -/
theorem kpS_stored {Bl n c n' c' : Nat} {A A' : Option Addr} {W1 w2 : World} (hl : Bk W t Bl [.slice A n c]) (hnb : ¬ BlkOf A Bl) (h1 : Below W.heap.size W W1) (hst : St (BlkOf A) W1 w2) (hF : ∀ ad, A' = some ad → BlkOf A ad.block ∨ W.heap.size ≤ ad.block) (hBN : Bl < N) :
    KpW (OwnS Bl) N W (w2.setCell ⟨Bl, 0, none⟩ (.slice A' n' c')) := by
  refine ⟨by have := h1.size; have := hst.size; simp [World.setCell]; omega, fun k hk hkl hn => ⟨?_, fun ⟨ad, n2, c2, hc, hb⟩ => ?_⟩⟩
  · rw [Below.heap_setCell _ _ _ _ (show k ≠ Bl by omega), hst.block k (by have := h1.size; omega) ?_, h1.block k hkl]
    rintro ⟨ad, rfl, rfl⟩
    exact hn ⟨ad, n, c, hl.cell 0 rfl, rfl⟩
  · rw [((hl.below h1).st hst hnb |>.set 0 (.slice A' n' c')).cell 0 rfl] at hc
    injection hc with hc
    injection hc with hc
    rcases hF ad hc with ⟨ad0, rfl, h'⟩ | h'
    · exact hn ⟨ad0, n, c, hl.cell 0 rfl, h'.trans hb⟩
    · omega
end
theorem total_snoc (pre : List Cn) (x : Cn) (p : Nm) : total (pre ++ [x]) p = if p.isPrefixOf x.s then sum (total pre p) x.n else total pre p := by simp [total]
theorem pre_take : ∀ p s : Nm, p.length ≤ s.length → p.isPrefixOf s = decide (s.take p.length = p)
  | [], s, _ => by simp
  | _ :: _, [], h => by simp at h
  | a :: p, b :: s, h => by
    have ih := pre_take p s (by simpa using h)
    rw [List.isPrefixOf, ih]
    by_cases h1 : a = b
    · subst h1; simp
    · simp [h1, Ne.symm h1]
theorem pre_short : ∀ p s : Nm, s.length < p.length → p.isPrefixOf s = false
  | [], s, h => by simp at h
  | _ :: _, [], _ => rfl
  | a :: p, b :: s, h => by rw [List.isPrefixOf, pre_short p s (by simpa using h)]; simp
theorem ext_take (s : Nm) (k : Nat) : ((⟨s.toArray⟩ : ByteArray).extract 0 k).toList = s.take k := by
  rw [ByteArray.toList_eq]
  simp
theorem prefix_in (s p : Nm) (w : World) : Calls Tryd.prog 51 #[str s, str p] w fun e w' => e = .returned (.bool (p.isPrefixOf s)) ∧ w = w' := by
  have e1 := str_len s
  have e2 := str_len p
  by_cases h : p.length ≤ s.length
  · have HE := Lib.hid (pre_take p s h)
    have hi : (p.length : Int) ≤ (s.length : Int) := by omega
    go_enter Tryd.func51, Tryd.ntmps51
    go_wp2
    go_ret
    refine ⟨?_, rfl⟩
    rw [HE.out]
    show Ending.returned (.bool (((⟨s.toArray⟩ : ByteArray).extract 0 p.length).toList == p)) = _
    rw [ext_take]
    congr 2
    rw [Bool.eq_iff_iff]
    simp
  · have HE := Lib.hid (pre_short p s (by omega))
    have hi : (s.length : Int) < (p.length : Int) := by omega
    clear h
    go_enter Tryd.func51, Tryd.ntmps51
    go_wp2
    go_ret
    exact ⟨by rw [HE.out]; rfl, rfl⟩
theorem prefix_any (s p : Nm) (w : World) : Calls Tryd.prog 39 #[str s, str p] w fun e w' => e = .returned (.bool (p.isPrefixOf s)) ∧ w = w' := by
  have H := Lib.hid (prefix_in s p w)
  go_enter Tryd.func39, Tryd.ntmps39
  go_wp2_with (go_at_call 51; refine H.out.mono ?_; rintro e w' ⟨rfl, rfl⟩)
  go_ret
  exact ⟨rfl, rfl⟩
/-- The sum is being taken. -/
def TotI (w : World) (m : List Cn) (p : Nm) (pre : List Cn) (W : World) : Prop :=
  Below w.heap.size w W ∧ Bk W 9 w.heap.size [str p] ∧ Bk W 3 (w.heap.size + 1) [num (total pre p)] ∧ 0 ≤ total pre p ∧ total pre p ≤ Most
set_option maxHeartbeats 4000000 in
theorem all_total {w : World} {A : Option Addr} {m : List Cn} (hok : Ok m) (p : Nm) (hg : ∀ W g1, Below w.heap.size w W → Bk W 25 g1 [.pointer A] → AllG OwnN m g1 W 4) :
    Calls Tryd.prog 18 #[.pointer A, str p] w fun e w' => e = .returned (num (total m p)) ∧ Below w.heap.size w w' := by
  have hb0 : Below w.heap.size w ((w.alloc (.cells #[str p] 9)).alloc (.cells #[num 0] 3)) := ((Below.refl _ w).alloc (Nat.le_refl _) _).alloc (by simp) _
  have q1 : Bk ((w.alloc (.cells #[str p] 9)).alloc (.cells #[num 0] 3)) 9 w.heap.size [str p] := (Bk.new w 9 [str p]).alloc _
  have q2 : Bk ((w.alloc (.cells #[str p] 9)).alloc (.cells #[num 0] 3)) 3 (w.heap.size + 1) [num 0] := by
    have := Bk.new (w.alloc (.cells #[str p] 9)) 3 [num 0]
    rw [World.size_alloc] at this; exact this
  have HQ := Lib.hid (And.intro hb0 (And.intro q1 q2))
  have hsz : ((w.alloc (.cells #[str p] 9)).alloc (.cells #[num 0] 3)).heap.size = w.heap.size + 2 := by simp
  clear hb0 q1 q2
  refine (callsIn_wide (n := 5)).1 ?_
  refine callsIn_of_wp_marks Tryd.func18 rfl trivial ?_ rfl
  simp only [Tryd.ntmps18, List.size_toArray, List.length_cons, List.length_nil, Nat.reduceAdd, Nat.reduceSub, Array.replicate_succ, Array.replicate_zero, List.push_toArray, List.append_toArray, List.nil_append, List.cons_append]
  gi_wp2
  generalize ((w.alloc (.cells #[str p] 9)).alloc (.cells #[num 0] 3)) = W1 at *
  refine ⟨trivial, (callsIn_wide.2 (q_all A W1)).mono ?_⟩
  rintro e W0 ⟨rfl, hr, hb⟩
  have hs0 : W1.heap.size < W0.heap.size := hr.lt
  have HI0 : Hid (TotI w m p [] W0) := Lib.hid ⟨HQ.out.1.trans (hb.mono HQ.out.1.size), HQ.out.2.1.below hb, HQ.out.2.2.below hb, by simp [total], by simp [total, Most]⟩
  have hgv := hg W0 _ HI0.out.1 hr
  rw [hsz] at hgv hs0 hr ⊢
  clear hr hb hg
  gi_wp2
  refine wpIn_givesM rfl (by decide) (gf := 49) (lb := #[.pointer (some ⟨w.heap.size + 2, 0, none⟩)]) rfl trivial (enters_of Tryd.func49 (by kernel_rfl) rfl)
    hgv (Below.refl _ _) (fun _ => rfl) KpW.trans (fun N l W o o' hl ho h0 hc => kpN_put N l W o o' hl)
    (fun pre W => TotI w m p pre W) (fun _ _ _ => False) (fun pre W W' row hI hw hr => ⟨below_own hI.1 (by omega) hw hr, bk_own hI.2.1 hw hr, bk_own hI.2.2.1 hw hr, hI.2.2.2⟩) (fun _ _ _ _ _ hs _ _ => hs) HI0.out
    (fun pre x a' W => x ∈ m ∧ a' = { tmps := #[.pointer A, str p, undef, .pointer (some ⟨w.heap.size, 0, none⟩), num 0, .pointer (some ⟨w.heap.size + 1, 0, none⟩), str x.s, num x.n, .pointer A, .func (.func 49) #[] #[.pointer (some ⟨w.heap.size + 2, 0, none⟩)], str x.s, num x.n, undef, undef, undef, undef, undef, undef, undef], defers := [] })
    ?hAx ?assign ?body ?done ?stop
  case hAx =>
    rintro pre x a' _ W W' row h hw hr
    exact h
  case assign =>
    rintro l pre x W K hI hat hK
    gi_wp2
    exact hK _ _ ⟨Nat.le_refl _, fun _ _ _ h _ => h⟩ ⟨Nat.le_refl _, fun k _ _ h => ⟨rfl, h⟩⟩ hI ⟨List.mem_of_getElem? hat, rfl⟩
  case body =>
    rintro l pre x a' W hsz2 ⟨hb, r1, r2, t0, t1⟩ ⟨hx, rfl⟩
    have hx2 := (hok.all x hx).2
    have c1 := r1.cell 0 rfl
    have c2 := r2.cell 0 rfl
    have f2 := r2.free 0
    have HP := Lib.hid (prefix_any x.s p W)
    have HB := Lib.hid (And.intro hb (And.intro r1 r2))
    cases hp : p.isPrefixOf x.s with
    | true =>
      rw [hp] at HP
      have HS := Lib.hid (f_sum (a := total pre p) (b := x.n) t0 t1 hx2.1 (by have := hx2.2; simp only [Most] at this; omega) W)
      have HT : Hid (total (pre ++ [x]) p = sum (total pre p) x.n) := Lib.hid (by rw [total_snoc, if_pos hp])
      have HU : Hid (0 ≤ sum (total pre p) x.n ∧ sum (total pre p) x.n ≤ Most) := Lib.hid (by unfold sum; split <;> omega)
      clear hb r1 r2 hp
      gi_wp2
      refine ⟨trivial, (callsIn_wide.2 HP.out).mono ?_⟩
      rintro e W' ⟨rfl, rfl⟩
      gi_wp2
      refine ⟨trivial, (callsIn_wide.2 HS.out).mono ?_⟩
      rintro e W' ⟨rfl, rfl⟩
      gi_wp2
      have hst : St (· = w.heap.size + 1) W (W.setCell ⟨w.heap.size + 1, 0, none⟩ (num (sum (total pre p) x.n))) := St.setCell (F := (· = w.heap.size + 1)) W (a := ⟨w.heap.size + 1, 0, none⟩) rfl _
      refine ⟨keeps_st hst fun k o hk _ h0 _ => by omega, kpN_st hst fun k hk => by omega, HB.out.1.trans (hst.below HB.out.1.size fun j hj => by omega), HB.out.2.1.st hst (by omega), ?_, ?_, ?_⟩
      · rw [HT.out]
        exact HB.out.2.2.set 0 _
      · rw [HT.out]; exact HU.out.1
      · rw [HT.out]; exact HU.out.2
    | false =>
      rw [hp] at HP
      have HT : Hid (total (pre ++ [x]) p = total pre p) := Lib.hid (by rw [total_snoc, if_neg (by rw [hp]; simp)])
      clear hb r1 r2 hp
      gi_wp2
      refine ⟨trivial, (callsIn_wide.2 HP.out).mono ?_⟩
      rintro e W' ⟨rfl, rfl⟩
      gi_wp2
      refine ⟨⟨Nat.le_refl _, fun _ _ _ h _ => h⟩, ⟨Nat.le_refl _, fun k _ _ h => ⟨rfl, h⟩⟩, HB.out.1, HB.out.2.1, ?_, ?_, ?_⟩
      · rw [HT.out]; exact HB.out.2.2
      · rw [HT.out]; exact t0
      · rw [HT.out]; exact t1
  case done =>
    rintro D ys W hD rfl ⟨hb, r1, r2, t0, t1⟩ hK
    have c2 := r2.cell 0 rfl
    gi_wp2
    refine ⟨by simp, .inl ⟨_, _, rfl, run_takeDeferred hK, ?_⟩⟩
    refine ⟨_, results_tmp rfl _ _ _, rfl, hb.trans ⟨rfl, rfl, rfl, by simp [World.putObj], fun k hk => World.putObj_heap_other (by omega)⟩⟩
  case stop =>
    rintro D c' pre W hD _ h _
    exact h.elim
/-- The names are being gathered, into the list that a variable holds. -/
def GatI (w : World) (L : Nat) (pre : List Value) (W : World) : Prop :=
  Below w.heap.size w W ∧ L ≤ W.heap.size ∧ ∃ A n c, Bk W 22 w.heap.size [.slice A n c] ∧ Lst 9 (L ≤ ·) W A n c pre
set_option maxHeartbeats 4000000 in
theorem all_names {w : World} {A : Option Addr} {m : List Cn} (hok : Ok m) (hg : ∀ W g1, Below w.heap.size w W → Bk W 22 w.heap.size [.slice none 0 0] → Bk W 25 g1 [.pointer A] → AllG (OwnS w.heap.size) m g1 W 4) :
    Calls Tryd.prog 28 #[.pointer A] w (Made 9 (m.map fun x => str x.s) w) := by
  have HQ := Lib.hid (And.intro (Bk.new w 22 [.slice none 0 0]) ((Below.refl _ w).alloc (Nat.le_refl _) (.cells #[.slice none 0 0] 22)))
  have hsz : (w.alloc (.cells #[.slice none 0 0] 22)).heap.size = w.heap.size + 1 := by simp
  refine (callsIn_wide (n := 5)).1 ?_
  refine callsIn_of_wp_marks Tryd.func28 rfl trivial ?_ rfl
  simp only [Tryd.ntmps28, List.size_toArray, List.length_cons, List.length_nil, Nat.reduceAdd, Nat.reduceSub, Array.replicate_succ, Array.replicate_zero, List.push_toArray, List.append_toArray, List.nil_append, List.cons_append]
  gi_wp2
  generalize (w.alloc (.cells #[.slice none 0 0] 22)) = W1 at *
  refine ⟨trivial, (callsIn_wide.2 (q_all A W1)).mono ?_⟩
  rintro e W0 ⟨rfl, hr, hb⟩
  have hs0 : W1.heap.size < W0.heap.size := hr.lt
  have HI0 : Hid (GatI w (w.heap.size + 1) [] W0) := Lib.hid ⟨HQ.out.2.trans (hb.mono HQ.out.2.size), by omega, none, 0, 0, HQ.out.1.below hb, Lst.nil _ _ _⟩
  have hgv := hg W0 _ HI0.out.1 (HQ.out.1.below hb) hr
  rw [hsz] at hgv hs0 hr ⊢
  clear hr hb hg
  gi_wp2
  refine wpIn_givesM rfl (by decide) (gf := 49) (lb := #[.pointer (some ⟨w.heap.size + 1, 0, none⟩)]) rfl trivial (enters_of Tryd.func49 (by kernel_rfl) rfl)
    hgv (Below.refl _ _) (fun _ => rfl) KpW.trans (fun N l W o o' hl ho h0 hc => kpS_put N l W o o' hl (by omega))
    (fun pre W => GatI w (w.heap.size + 1) (pre.map fun x => str x.s) W) (fun _ _ _ => False)
    (fun pre W W' row hI hw hr => by
      obtain ⟨h1, h2, A', n', c', h3, h4⟩ := hI
      exact ⟨below_own h1 (by omega) hw hr, Nat.le_trans h2 hw.size, A', n', c', bk_own h3 hw hr, h4.own hw fun r e => (hr r e).2⟩)
    (fun _ _ _ _ _ hs _ _ => hs) HI0.out
    (fun pre x a' W => pre.length < 256 ∧ a' = { tmps := #[.pointer A, undef, .slice none 0 0, .pointer (some ⟨w.heap.size, 0, none⟩), str x.s, .pointer A, .func (.func 49) #[] #[.pointer (some ⟨w.heap.size + 1, 0, none⟩)], str x.s, num x.n, undef, undef, undef, undef, undef], defers := [] })
    ?hAx ?assign ?body ?done ?stop
  case hAx =>
    rintro pre x a' _ W W' row h hw hr
    exact h
  case assign =>
    rintro l pre x W K hI hat hK
    have hlt : pre.length < 256 := by have := (List.getElem?_eq_some_iff.1 hat).1; have := hok.len; omega
    gi_wp2
    exact hK _ _ ⟨Nat.le_refl _, fun _ _ _ h _ => h⟩ ⟨Nat.le_refl _, fun k _ _ h => ⟨rfl, h⟩⟩ hI ⟨hlt, rfl⟩
  case body =>
    rintro l pre x a' W hsz2 ⟨hb, hL, A', n, c, r, hl⟩ ⟨hx, rfl⟩
    have cl := r.cell 0 rfl
    have fl := r.free 0
    have hn := hl.1
    rw [List.length_map] at hn
    have hla := (hl.alloc (.cells #[str x.s] 9)).tight
    have hu := RdV.one W 9 (str x.s) rfl
    have hn8 : n ≤ 256 := by omega
    have HB := Lib.hid (And.intro hb (And.intro hL (And.intro hl r)))
    have hvA : ¬ BlkOf A' w.heap.size := by
      rintro ⟨ad, he, hbk⟩
      have := (hl.blk ad he).1
      omega
    have HN := Lib.hid hvA
    clear hb hL
    gi_wp2_with (first
      | (refine wpListIn_build_one (x := str x.s) eltT rfl (.tmp 10) rfl rfl rfl ?_)
      | (gi_at_builtin
         refine wpListIn_append_lst eltT rfl (.tmp 9) (.tmp 11) rfl rfl hla rfl hu (by omega) ?_
         rintro v w2 hap
         obtain ⟨A2, n2, c2, rfl, hl2⟩ := hap.ex
         have HAP := Lib.hid hap
         have r2 := (r.alloc (.cells #[str x.s] 9)).st hap.st hvA
         have c3 := r2.cell 0 rfl
         have f3 := r2.free 0
         have HL2 := Lib.hid hl2
         clear hap hl2))
    have hk := Col.step HB.out.1 HB.out.2.1 HB.out.2.2.2 HB.out.2.2.1 (by omega) (Nat.le_refl _) _ HAP.out
    refine ⟨hk.1.from _, ?_, ?_⟩
    · refine kpS_stored HB.out.2.2.2 HN.out ((Below.refl _ W).alloc (Nat.le_refl _) _) HAP.out.st (fun ad he => ?_) (by omega)
      subst he
      rcases (HL2.out.blk _ rfl).1 with h1 | h1
      · exact .inl h1
      · exact .inr (by simp at h1; omega)
    · show GatI w (w.heap.size + 1) ((pre ++ [x]).map fun x => str x.s) _
      rw [List.map_append]
      obtain ⟨k1, k2, A3, n3, c3, k3, k4⟩ := hk.2.2
      exact ⟨k1, k2, A3, n3, c3, k3, k4⟩
  case done =>
    rintro D ys W hD rfl ⟨hb, hL, A', n, c, r, hl⟩ hK
    have cl := r.cell 0 rfl
    gi_wp2
    refine ⟨by simp, .inl ⟨_, _, rfl, run_takeDeferred hK, ?_⟩⟩
    refine ⟨_, results_tmp rfl _ _ _, ?_⟩
    exact Col.shut0 (t := 22) (v := w.heap.size) hb hl hK (by omega) (by omega)
  case stop =>
    rintro D c' pre W hD _ h _
    exact h.elim
end Go.Proofs.YtdepbdmnkkkjlaaDoor
