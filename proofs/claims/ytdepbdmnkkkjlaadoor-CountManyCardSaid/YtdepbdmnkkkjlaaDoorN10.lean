/- What another one has beyond; merged. -/
import Derived.Test.YtdepbdmnkkkjlaaDoorN9
set_option linter.unusedSimpArgs false
set_option linter.unusedVariables false
set_option maxRecDepth 100000
namespace Go.Proofs.YtdepbdmnkkkjlaaDoor
open Go.RowKit Go.Shelf Go.Maps Go.Sort
theorem wraps_i64 (n : Int) (h : -9223372036854775808 ≤ n ∧ n < 9223372036854775808) : IntKind.i64.wrap n = n := by rw [IntKind.wrap_i64]; omega
theorem good_len {s : Nm} (h : good s = true) : s.length ≤ maxLen := by
  simp only [good, Bool.and_eq_true, decide_eq_true_eq] at h
  unfold maxLen
  omega
def lackN (m : List Cn) (ss : List Nm) : Nat := (ss.filter fun s => (look m s).isNone).length
theorem lackN_perm {m o : List Cn} {ss : List Nm} (h : ss.Perm (o.map (·.s))) : lackN m ss = lacks m o := by
  unfold lackN lacks
  rw [(h.filter _).length_eq, List.filter_map, List.length_map]
  rfl
theorem lackN_snoc (m : List Cn) (ss : List Nm) (s : Nm) : lackN m (ss ++ [s]) = lackN m ss + if look m s = none then 1 else 0 := by
  unfold lackN
  rw [List.filter_append, List.length_append]
  cases hl : look m s <;> simp [hl]
theorem collected_good {o : List Cn} (ho : Ok o) {left : Lit → Bool} {x : Nm} (h : Maps.has (datum o) (.string x) = true) : good x = true := by
  rw [has_datum] at h
  obtain ⟨y, hy, rfl⟩ := look_some (Option.isSome_iff_ne_none.1 h)
  exact (ho.all y hy).1
/-- Counting under way. -/
def LckI (w : World) (b r : Nat) (m o : List Cn) (v : Value) (left : Lit → Bool) (cnt : Nat) (ss : List Nm) (W : World) : Prop :=
  W.ranges Tryd.prog 9 (plainElem (H := Unit) Tryd.prog 3) b r o.length (datum o) left cnt ∧ ss.length + cnt ≤ o.length ∧ Collected (datum o) left ss ∧ v = num (lackN m ss) ∧ Below w.heap.size w W ∧ w.heap.size ≤ r
set_option maxHeartbeats 4000000 in
theorem c_lacking {w : World} {g b g2 b2 : Nat} {m o : List Cn} (h : CtC w g b m) (h2 : CtC w g2 b2 o) :
    Calls Tryd.prog 41 #[.pointer (some ⟨g, 0, none⟩), .pointer (some ⟨g2, 0, none⟩)] w fun e w' => e = .returned (num (lacks m o)) ∧ Below w.heap.size w w' := by
  have c2 := h2.bk.cell 0 rfl
  have hmp := h2.mp
  have HH := Lib.hid (And.intro h h2)
  clear h h2
  go_enter Tryd.func41, Tryd.ntmps41
  go_wp2_with (first
    | (at_range; refine wpList_range_own _ rfl _ 60 rfl 9 3 keyS tyM _ b2 o.length (datum o) rfl hmp ?_; intro w0 hrg0 hg0 hs0)
    | go_in)
  have HI : Hid (LckI w b2 w.heap.size m o (num 0) (Maps.has (datum o)) (Maps.size (datum o)) [] w0) := Lib.hid ⟨hrg0, by rw [size_datum]; simp, Collected.start _, rfl, below_grown hg0, Nat.le_refl _⟩
  clear hrg0 hg0 hs0 hmp c2
  go_frame
  go_loopw [5] (fun v wr => ∃ left cnt ss, LckI w b2 w.heap.size m o v left cnt ss wr) (fun _ wr => wr.rangeLeft b2 w.heap.size)
  case atStart => exact ⟨_, _, _, HI.out⟩
  case round =>
    obtain ⟨left, cnt, ss, hi⟩ := hrel
    obtain ⟨hrg, hcs, hC, rfl, hbw, _⟩ := hi
    have HX := Lib.hid (And.intro hcs (And.intro hC hbw))
    have HRG := Lib.hid hrg
    have hlen := HH.out.2.ok.len
    clear hcs hC hbw
    go_wp2_with (first
      | (at_next; refine wpList_next_ranges _ rfl _ rfl 9 keyS (plainElem Tryd.prog 3) encStr (Value.int .i64) (fun key kl hk => by obtain ⟨x, hx, _⟩ := Maps.keyOf_str tyS hk; exact ⟨x, hx⟩) (fun v y hv => by obtain ⟨c, rfl, _⟩ := plainElem_int_inv tyI hv; exact ⟨c, rfl⟩) b2 w.heap.size o.length _ _ _ rfl hrg ?_ ?_)
      | go_in)
    · intro hc0 hl0
      have HP : Hid (lackN m ss = lacks m o) := Lib.hid (lackN_perm (by have := HX.out.2.1.perm hrg.owns keyS tyS hl0; rwa [keys_datum] at this))
      clear hrg hl0
      go_wp2
      go_ret
      exact ⟨by rw [← HP.out]; rfl, HX.out.2.2⟩
    · intro x cv kl yd yp w2 cnt2 hkey hlk hv hat hrg2 hlt hg2 hs2 hen
      obtain ⟨x', ex, rfl, hxl⟩ := Maps.keyOf_str tyS hkey
      obtain rfl : x = x' := encStr_inj ex
      have hst2 := st_grown hg2
      have hbw2 : Below w.heap.size w w2 := HX.out.2.2.trans (hst2.below HX.out.2.2.size fun j hj => by omega)
      have HHs := Lib.hid (c_has (HH.out.1.below hbw2) (s := x) hxl)
      have HC2 := Lib.hid (And.intro hrg2 (And.intro hbw2 (HX.out.2.1.step hlk hat)))
      have hn8 : lackN m ss ≤ 256 := by have h1 : lackN m ss ≤ ss.length := List.length_filter_le _ _; have := HX.out.1; omega
      have HS := Lib.hid (lackN_snoc m ss x)
      have hcn : cnt2 < cnt := hlt
      have HC := Lib.hid hcn
      clear hrg hlk hat hrg2 hg2 hs2 hst2 hbw2 hkey hv hlt hcn ex hlen
      cases hl : look m x with
      | none =>
        rw [hl] at HHs
        simp only [Option.isSome_none] at HHs
        go_wp2_with (first
          | (go_at_call 34; refine HHs.out.mono ?_; rintro e w' ⟨rfl, rfl⟩)
          | go_in)
        go_roundw
        case rel => exact ⟨_, cnt2, ss ++ [x], HC2.out.1, by have := HC.out; have := HX.out.1; simp; omega, HC2.out.2.2, by rw [HS.out, if_pos hl]; go_num, HC2.out.2.1, Nat.le_refl _⟩
        case measure => rw [HC2.out.1.left_eq, HRG.out.left_eq]; exact HC.out
      | some v =>
        rw [hl] at HHs
        simp only [Option.isSome_some] at HHs
        go_wp2_with (first
          | (go_at_call 34; refine HHs.out.mono ?_; rintro e w' ⟨rfl, rfl⟩)
          | go_in)
        go_roundw
        case rel => exact ⟨_, cnt2, ss ++ [x], HC2.out.1, by have := HC.out; have := HX.out.1; simp; omega, HC2.out.2.2, by rw [HS.out, if_neg (by rw [hl]; simp)]; rfl, HC2.out.2.1, Nat.le_refl _⟩
        case measure => rw [HC2.out.1.left_eq, HRG.out.left_eq]; exact HC.out
theorem adds_snoc (m pre : List Cn) (x : Cn) : adds m (pre ++ [x]) = (add (adds m pre) x.s x.n).1 := by simp [adds]
attribute [local go_sem] Oper.semAt_some
/-- Q where nothing is left early. -/
def onlyN (Q : Exit → Act → World → Prop) : Exit → Act → World → Prop := fun e a w => match e with
  | .normal => Q .normal a w
  | _ => False
theorem onlyN_mono {Q : Exit → Act → World → Prop} : ∀ e a w, onlyN Q e a w → Q e a w := fun e a w h => by cases e <;> first | exact h | exact h.elim
theorem wpIn_region_W {P : Program} {ops : Array Oper} {Q : Exit → Act → World → Prop} {n : Nat} (E : World → World → Prop) {id : Nat} {a : Act} {w : World} (hm : P.follows .mixedOrders = true)
    (h : ∀ wd : World, Below w.heap.size w wd → wd.heap.size = w.heap.size → wpAnyE P .any ops (onlyN Q) E ops.size (Array.replicate ops.size false) a wd) : (Code.region id ops true).wpIn Fence.wide n P Q a w :=
  wpIn_mono (wpIn_wide.2 (wp_region_E E hm h)) onlyN_mono
theorem onlyN_done {P : Program} {md : Region.Mode} {ops : Array Oper} {Q : Exit → Act → World → Prop} {E : World → World → Prop} {listed : Array Bool} {a : Act} {w : World} (hr : Region.ready md ops listed = []) (h : Q .normal a w) (fuel : Nat) : wpAnyE P md ops (onlyN Q) E fuel listed a w := wpAnyE_done (Q := onlyN Q) hr h fuel
theorem st_own {F : Nat → Prop} {w A A' : World} {row : Option Nat} {B : Nat} (h : St F w A) (hB : w.heap.size ≤ B) (hw : A.grownBy A' row) (hr : ∀ r, row = some r → B ≤ r ∧ ∃ o : Obj, A.heap[r]? = some o ∧ o.isCells = false) : St F w A' :=
  ⟨hw.os.trans h.os, hw.tape.trans h.tape, hw.output.trans h.output, Nat.le_trans h.size hw.size, fun k hk hn => (hw.block k (by have := h.size; omega) fun e => by have := (hr k e.symm).1; omega).trans (h.block k hk hn)⟩
/-- Merging under way. -/
def MrgI (w : World) (g b : Nat) (m pre : List Cn) (W : World) : Prop :=
  CtC W g b (adds m pre) ∧ St (· = b) w W ∧ Bk W 25 w.heap.size [.pointer (some ⟨g, 0, none⟩)]
def MrgR (m o : List Cn) (w : World) (g b : Nat) (e : Ending) (w' : World) : Prop := e = .returned (num (merge m o).2) ∧ CtC w' g b (merge m o).1 ∧ St (· = b) w w'
set_option maxHeartbeats 8000000 in
theorem c_merge {w : World} {g b g2 b2 : Nat} {m o : List Cn} (h : CtC w g b m) (h2 : CtC w g2 b2 o) (hne : g2 ≠ b ∧ b2 ≠ b) :
    Calls Tryd.prog 24 #[.pointer (some ⟨g, 0, none⟩), .pointer (some ⟨g2, 0, none⟩)] w (MrgR m o w g b) := by
  have hb1 : Below w.heap.size w (w.alloc (.cells #[.pointer (some ⟨g, 0, none⟩)] 25)) := (Below.refl _ w).alloc (Nat.le_refl _) _
  have q1 := Bk.new w 25 [.pointer (some ⟨g, 0, none⟩)]
  have hsz : (w.alloc (.cells #[.pointer (some ⟨g, 0, none⟩)] 25)).heap.size = w.heap.size + 1 := by simp
  have HQ := Lib.hid (And.intro hb1 (And.intro q1 (And.intro (h.below hb1) (h2.below hb1))))
  have HM := Lib.hid (c_made HQ.out.2.2.1)
  have HM2 := Lib.hid (c_made HQ.out.2.2.2)
  have HLT := Lib.hid (And.intro h.bk.lt (And.intro h.mp.lt (And.intro h2.bk.lt h2.mp.lt)))
  have HOK := Lib.hid (And.intro h.ok h2.ok)
  have c1 := q1.cell 0 rfl
  clear hb1 q1 h h2
  refine (callsIn_wide (n := 5)).1 ?_
  refine callsIn_of_wp_marks Tryd.func24 rfl trivial ?_ rfl
  simp only [Tryd.ntmps24, List.size_toArray, List.length_cons, List.length_nil, Nat.reduceAdd, Nat.reduceSub, Array.replicate_succ, Array.replicate_zero, List.push_toArray, List.append_toArray, List.nil_append, List.cons_append]
  gi_wp2
  generalize (w.alloc (.cells #[.pointer (some ⟨g, 0, none⟩)] 25)) = W1 at *
  refine ⟨trivial, (callsIn_wide.2 HM.out).mono ?_⟩
  rintro e W' ⟨rfl, rfl⟩
  gi_wp2
  refine ⟨trivial, (callsIn_wide.2 HM2.out).mono ?_⟩
  rintro e W' ⟨rfl, rfl⟩
  clear c1
  have hm8 : (m.length : Int) ≤ 256 := by have := HOK.out.1.len; omega
  have hl8 : (lacks m o : Int) ≤ 256 := by have h1 : lacks m o ≤ o.length := List.length_filter_le _ _; have := HOK.out.2.len; omega
  gi_wp2
  refine wpIn_region_W Ext (by kernel_rfl) (fun wd hbd hsz => ?_)
  have HW := Lib.hid hbd
  have q0 : ∀ W, Ext wd W → W.cell? ⟨w.heap.size, 0, none⟩ = some (.pointer (some ⟨g, 0, none⟩)) := fun W hW => ((HQ.out.2.1.below HW.out).below hW).cell 0 rfl
  have q1 : ∀ W, Ext wd W → W.cell? ⟨g, 0, none⟩ = some (.map (some b)) := fun W hW => ((HQ.out.2.2.1.below HW.out).below hW).bk.cell 0 rfl
  have ql : ∀ W, Ext wd W → ∀ ty, (Builtin.len_ #[60] ty #[.map (some b)]).run Tryd.prog W = .ok (.int .i64 m.length) W := fun W hW ty => map_len ((HQ.out.2.2.1.below HW.out).below hW).mp ty
  have hwr : IntKind.i64.wrap ((m.length : Int) + (lacks m o : Int)) = (m.length : Int) + (lacks m o : Int) := wraps_i64 _ (by omega)
  have HL := Lib.hid (c_lacking (HQ.out.2.2.1.below HW.out) (HQ.out.2.2.2.below HW.out))
  clear hsz
  (refine takeE Ext.tr 0 (by simp only [List.getElem?_toArray, List.getElem?_cons_succ, List.getElem?_cons_zero]; rfl) (by kernel_rfl) (by kernel_rfl) (by kernel_rfl) (by exact fun _ _ _ h => h) (by first | (refine Or.inl ⟨by rfl, ?_⟩; intro W hW; go_simp; try with_reducible rfl) | exact Or.inr ⟨by rfl, rfl⟩) ?_; try simp only [Act.put, List.setIfInBounds_toArray, List.set_cons_zero, List.set_cons_succ])
  (refine takeE Ext.tr 5 (by simp only [List.getElem?_toArray, List.getElem?_cons_succ, List.getElem?_cons_zero]; rfl) (by kernel_rfl) (by kernel_rfl) (by kernel_rfl) (by exact fun _ _ _ h => h) (by first | (refine Or.inl ⟨by rfl, ?_⟩; intro W hW; go_simp; try with_reducible rfl) | exact Or.inr ⟨by rfl, rfl⟩) ?_; try simp only [Act.put, List.setIfInBounds_toArray, List.set_cons_zero, List.set_cons_succ])
  (refine takeE Ext.tr 6 (by simp only [List.getElem?_toArray, List.getElem?_cons_succ, List.getElem?_cons_zero]; rfl) (by kernel_rfl) (by kernel_rfl) (by kernel_rfl) (by exact fun _ _ _ h => h) (by first | (refine Or.inl ⟨by rfl, ?_⟩; intro W hW; go_simp; try with_reducible rfl) | exact Or.inr ⟨by rfl, rfl⟩) ?_; try simp only [Act.put, List.setIfInBounds_toArray, List.set_cons_zero, List.set_cons_succ])
  (refine takeE Ext.tr 1 (by simp only [List.getElem?_toArray, List.getElem?_cons_succ, List.getElem?_cons_zero]; rfl) (by kernel_rfl) (by kernel_rfl) (by kernel_rfl) (by exact fun _ _ _ h => h) (by first | (refine Or.inl ⟨by rfl, ?_⟩; intro W hW; go_simp; try with_reducible rfl) | exact Or.inr ⟨by rfl, rfl⟩) ?_; try simp only [Act.put, List.setIfInBounds_toArray, List.set_cons_zero, List.set_cons_succ])
  (refine takeE Ext.tr 2 (by simp only [List.getElem?_toArray, List.getElem?_cons_succ, List.getElem?_cons_zero]; rfl) (by kernel_rfl) (by kernel_rfl) (by kernel_rfl) (by exact fun _ _ _ h => h) (by first | (refine Or.inl ⟨by rfl, ?_⟩; intro W hW; go_simp; try with_reducible rfl) | exact Or.inr ⟨by rfl, rfl⟩) ?_; try simp only [Act.put, List.setIfInBounds_toArray, List.set_cons_zero, List.set_cons_succ])
  (refine takeE Ext.tr 3 (by simp only [List.getElem?_toArray, List.getElem?_cons_succ, List.getElem?_cons_zero]; rfl) (by kernel_rfl) (by kernel_rfl) (by kernel_rfl) (by exact fun _ _ _ h => h) (by first | (refine Or.inl ⟨by rfl, ?_⟩; intro W hW; go_simp; try with_reducible rfl) | exact Or.inr ⟨by rfl, rfl⟩) ?_; try simp only [Act.put, List.setIfInBounds_toArray, List.set_cons_zero, List.set_cons_succ])
  (refine takeE Ext.tr 4 (by simp only [List.getElem?_toArray, List.getElem?_cons_succ, List.getElem?_cons_zero]; rfl) (by kernel_rfl) (by kernel_rfl) (by kernel_rfl) (by exact fun _ _ _ h => h) (by first | (refine Or.inl ⟨by rfl, ?_⟩; intro W hW; go_simp; try with_reducible rfl) | exact Or.inr ⟨by rfl, rfl⟩) ?_; try simp only [Act.put, List.setIfInBounds_toArray, List.set_cons_zero, List.set_cons_succ])
  refine wpAnyE_one (i := 7) (by kernel_rfl) (by simp only [List.getElem?_toArray, List.getElem?_cons_succ, List.getElem?_cons_zero]; rfl) (fun K hK => ?_)
  go_simp
  refine HL.out.mono ?_
  rintro en w2 ⟨rfl, hb2⟩
  have HB2 := Lib.hid hb2
  have HW2 := Lib.hid (below_on HW.out hb2)
  clear hb2
  refine hK.out _ _ HB2.out ?_
  clear hK K
  try simp only [Act.put, List.setIfInBounds_toArray, List.set_cons_zero, List.set_cons_succ]
  (refine takeE Ext.tr 8 (by simp only [List.getElem?_toArray, List.getElem?_cons_succ, List.getElem?_cons_zero]; rfl) (by kernel_rfl) (by kernel_rfl) (by kernel_rfl) (by exact fun _ _ _ h => h) (by first | (refine Or.inl ⟨by rfl, ?_⟩; intro W hW; go_simp; try with_reducible rfl) | exact Or.inr ⟨by rfl, rfl⟩) ?_; try simp only [Act.put, List.setIfInBounds_toArray, List.set_cons_zero, List.set_cons_succ])
  (refine takeE Ext.tr 9 (by simp only [List.getElem?_toArray, List.getElem?_cons_succ, List.getElem?_cons_zero]; rfl) (by kernel_rfl) (by kernel_rfl) (by kernel_rfl) (by exact fun _ _ _ h => h) (by first | (refine Or.inl ⟨by rfl, ?_⟩; intro W hW; go_simp; try with_reducible rfl) | exact Or.inr ⟨by rfl, rfl⟩) ?_; try simp only [Act.put, List.setIfInBounds_toArray, List.set_cons_zero, List.set_cons_succ])
  refine onlyN_done (by kernel_rfl) ?_ _
  clear q0 q1 ql
  by_cases hbig : 256 < m.length + lacks m o
  · have hbig' : (256 : Int) < (m.length : Int) + (lacks m o : Int) := by omega
    have HMe : Hid (merge m o = (m, 3)) := Lib.hid (by unfold merge; rw [if_pos hbig])
    gi_wp2
    refine ⟨_, results_tmp rfl _ _ _, ?_⟩
    rw [MrgR, HMe.out]
    exact ⟨rfl, HQ.out.2.2.1.below HW2.out, St.ext (below_on HQ.out.1 HW2.out)⟩
  · have hbig' : (m.length : Int) + (lacks m o : Int) ≤ 256 := by omega
    have HMe : Hid (merge m o = (adds m o, 0)) := Lib.hid (by unfold merge; rw [if_neg hbig])
    gi_wp2
    refine ⟨trivial, (callsIn_wide.2 (q_all _ _)).mono ?_⟩
    rintro e W0 ⟨rfl, hr, hb⟩
    have hs0 : w2.heap.size < W0.heap.size := hr.lt
    have hbq : Below W1.heap.size W1 W0 := below_on HW2.out hb
    have HI0 : Hid (MrgI w g b m [] W0) := Lib.hid ⟨HQ.out.2.2.1.below hbq, St.ext (below_on HQ.out.1 hbq), HQ.out.2.1.below hbq⟩
    have hgv := all_gives OwnN 4 (by omega) (HQ.out.2.2.2.below hbq) hr (fitN _)
    have hsw : w.heap.size < w2.heap.size := by have := HW2.out.size; omega
    generalize w2.heap.size = g1 at *
    clear hr hb hbq hbig hbig' hm8 hl8
    gi_wp2
    refine wpIn_givesM rfl (by decide) (gf := 49) (lb := #[.pointer (some ⟨g1, 0, none⟩)]) rfl trivial (enters_of Tryd.func49 (by kernel_rfl) rfl)
      hgv (Below.refl _ _) (fun _ => rfl) KpW.trans (fun N l W o o' hl ho h0 hc => kpN_put N l W o o' hl)
      (fun pre W => MrgI w g b m pre W) (fun _ _ _ => False)
      (fun pre W W' row hI hw hr => ⟨ct_own hI.1 (by have := HLT.out.2.1; omega) hw hr, st_own hI.2.1 (by omega) hw hr, bk_own hI.2.2 hw hr⟩) (fun _ _ _ _ _ hs _ _ => hs) HI0.out
      (fun pre x a' W => x ∈ o ∧ ∃ z11 z12 z13 z14 z15 z16 z17 z18 z19 z20 z21 z22 z23 z24 z25, a' = { tmps := #[.pointer (some ⟨g, 0, none⟩), .pointer (some ⟨g2, 0, none⟩), .pointer (some ⟨w.heap.size, 0, none⟩), undef, .int .i64 0, str x.s, num x.n, .pointer (some ⟨g, 0, none⟩), .bool true, .bool false, .bool false, z11, z12, z13, z14, z15, z16, z17, z18, z19, z20, z21, z22, z23, z24, z25, .func (.func 49) #[] #[.pointer (some ⟨g1, 0, none⟩)], str x.s, num x.n, undef, undef, undef, undef], defers := [] })
      ?hAx ?assign ?body ?done ?stop
    case hAx =>
      rintro pre x a' _ W W' row h hw hr
      exact h
    case assign =>
      rintro l pre x W K hI hat hK
      gi_wp2
      exact hK _ _ ⟨Nat.le_refl _, fun _ _ _ h _ => h⟩ ⟨Nat.le_refl _, fun k _ _ h => ⟨rfl, h⟩⟩ hI ⟨List.mem_of_getElem? hat, _, _, _, _, _, _, _, _, _, _, _, _, _, _, _, rfl⟩
    case body =>
      rintro l pre x a' W hsz2 ⟨hct, hst, hbx⟩ ⟨hx, z11, z12, z13, z14, z15, z16, z17, z18, z19, z20, z21, z22, z23, z24, z25, rfl⟩
      have hxo := HOK.out.2.all x hx
      have HA := Lib.hid (c_add hct (s := x.s) (n := x.n) (good_len hxo.1) (by have := hxo.2.2; simp only [Most] at this; omega))
      have HB := Lib.hid (And.intro hct (And.intro hst hbx))
      have c1 := hbx.cell 0 rfl
      clear hct hst hbx
      gi_wp2
      refine ⟨trivial, (callsIn_wide.2 HA.out).mono ?_⟩
      rintro e W3 ⟨rfl, hd, hs3⟩
      gi_wp2
      refine ⟨keeps_st hs3 fun k o hk _ h0 _ => by have := HLT.out.2.1; omega, kpN_st hs3 fun k hk => by have := HLT.out.2.1; omega, ?_, HB.out.2.1.trans hs3 (Gr.refl _ _), HB.out.2.2.st hs3 (by have := HLT.out.2.1; omega)⟩
      rw [adds_snoc]
      exact hd
    case done =>
      rintro D ys W hD rfl ⟨hct, hst, hbx⟩ hK
      gi_wp2
      refine ⟨by simp, .inl ⟨_, _, rfl, run_takeDeferred hK, ?_⟩⟩
      refine ⟨_, results_tmp rfl _ _ _, ?_⟩
      rw [MrgR, HMe.out]
      refine ⟨rfl, hct.same (World.putObj_heap_other (by have := HLT.out.1; omega)) (World.putObj_heap_other (by have := HLT.out.2.1; omega)), hst.os, hst.tape, hst.output, by have := hst.size; simp [World.putObj]; omega, fun k hk hn => (World.putObj_heap_other (by omega)).trans (hst.block k hk hn)⟩
    case stop =>
      rintro D c' pre W hD _ h _
      exact h.elim
end Go.Proofs.YtdepbdmnkkkjlaaDoor
