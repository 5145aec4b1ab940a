/- A map's names, sorted. -/
import Derived.Test.YtdepbdmnkkkjlaaDoorN0
import Derived.Test.YtdepbdmnkkkjlaaDoorN5
import Derived.Sort.OwnSorted
set_option linter.unusedSimpArgs false
set_option linter.unusedVariables false
set_option maxRecDepth 100000
namespace Go.Proofs.YtdepbdmnkkkjlaaDoor
open Go.RowKit Go.Shelf Go.Maps Go.Sort
theorem eltT : Elt Tryd.prog 22 9 (.string ⟨#[]⟩) 16 := ⟨rfl, by kernel_rfl, rfl, rfl, by decide⟩
theorem ranges_st {H : Type} {P : Program} {k : TypeId} {R : Value → Option (DataW H × List MemPlace)} {w w' : World} {b r n : Nat} {D : DataW H} {left : Lit → Bool} {cnt : Nat} (h : w.ranges P k R b r n D left cnt) {F : Nat → Prop} (hs : St F w w') (hb : ¬ F b) (hr : ¬ F r) : w'.ranges P k R b r n D left cnt := by
  have h1 := h.owns.lt
  have h2 := h.lt
  obtain ⟨es, clock, since, seen, c0, k1, F', k2, hD, k3, rest⟩ := h
  exact ⟨es, clock, since, seen, c0, (hs.block b h1 hb).trans k1, F', k2, hD, (hs.block r h2 hr).trans k3, rest⟩
theorem lst_holds {e : TypeId} {F : Nat → Prop} {w : World} {g o n c : Nat} {ss : List Nm} (h : Lst e F w (some ⟨g, o, none⟩) n c (ss.map str)) : Holds encStr w g o ss.toArray := by
  obtain ⟨h1, h2, h3, h4, h5⟩ := h
  rcases h5 with ⟨h5, _⟩ | ⟨g', o', cur, hA, hf, hb, hc, hx⟩
  · cases h5
  simp only [Option.some.injEq, Addr.mk.injEq, and_true] at hA
  obtain ⟨rfl, rfl⟩ := hA
  intro j hj
  have hj' : j < ss.length := by simpa using hj
  refine ⟨?_, by simp [World.frozen?, hb]⟩
  have := hx j (by simp at h1; omega)
  rw [List.getElem?_map, List.getElem?_eq_getElem hj'] at this
  simp [World.cell?, hb, this, hj']
theorem lst_sorted {e : TypeId} {F : Nat → Prop} {w : World} {g o n c k : Nat} {os : Array Obj} {ss ts : List Nm} (h : Lst e F w (some ⟨g, o, none⟩) n c (ss.map str)) (hl : ts.length = ss.length) :
    Lst e F (grow (putRow encStr (Sort.ahead w k) g o ts.toArray) os) (some ⟨g, o, none⟩) n c (ts.map str) ∧ St (· = g) w (grow (putRow encStr (Sort.ahead w k) g o ts.toArray) os) := by
  obtain ⟨h1, h2, h3, h4, h5⟩ := h
  rcases h5 with ⟨h5, _⟩ | ⟨g', o', cur, hA, hf, hb, hc, hx⟩
  · cases h5
  simp only [Option.some.injEq, Addr.mk.injEq, and_true] at hA
  obtain ⟨rfl, rfl⟩ := hA
  have hgl : g < w.heap.size := (Array.getElem?_eq_some_iff.1 hb).1
  constructor
  · refine ⟨by simpa [hl] using h1, h2, h3, fun v hv => by obtain ⟨x, _, rfl⟩ := List.mem_map.1 hv; rfl, .inr ⟨g, o, putCells encStr o ts.toArray cur, rfl, hf, ?_, ?_, ?_⟩⟩
    · rw [heap_grow_old _ _ (by simpa [putRow, mapBlock, Sort.ahead] using hgl)]
      simp [putRow, mapBlock, Sort.ahead, Array.getElem?_modify, hb, onCells]
    · simp [putCells]; exact hc
    · intro i hi
      have hi' : i < ts.length := by simp at h1; omega
      have hlt : o + i < cur.size := by omega
      simp [putCells, Array.getElem?_mapIdx, hlt, hi']
  · refine ⟨rfl, rfl, rfl, by simp [grow, putRow, mapBlock, Sort.ahead], fun j hj hne => ?_⟩
    have hne' : g ≠ j := fun e => hne e.symm
    rw [heap_grow_old _ _ (by simpa [putRow, mapBlock, Sort.ahead] using hj)]
    simp [putRow, mapBlock, Sort.ahead, Array.getElem?_modify, hne']
/-- The names are being gathered. -/
def SrtI (w : World) (b r : Nat) (m : List Cn) (v : Value) (left : Lit → Bool) (cnt : Nat) (ss : List Nm) (A : Option Addr) (n c : Nat) (W : World) : Prop :=
  W.ranges Tryd.prog 9 (plainElem (H := Unit) Tryd.prog 3) b r m.length (datum m) left cnt ∧ ss.length + cnt ≤ m.length ∧ Collected (datum m) left ss ∧ v = .slice A n c ∧ Lst 9 (fun k => w.heap.size ≤ k ∧ k ≠ r) W A n c (ss.map str) ∧ Below w.heap.size w W ∧ w.heap.size ≤ r ∧ r < W.heap.size
set_option maxHeartbeats 4000000 in
theorem c_sorted {w : World} {b : Nat} {m : List Cn} (h : MpN w b m) (hm : Srt m) (hlen : m.length ≤ 1000) :
    Calls Tryd.prog 50 #[.map (some b)] w (Made 9 (m.map fun x => str x.s) w) := by
  have hbl := h.lt
  have HM := Lib.hid h
  have HK : Hid (∀ ss : List Nm, ss.Perm (m.map (·.s)) → ss.mergeSort leB = m.map (·.s)) := Lib.hid fun ss => sort_keys hm
  clear hm
  go_enter Tryd.func50, Tryd.ntmps50
  go_wp2_with (first
    | (at_range; refine wpList_range_own _ rfl _ 60 rfl 9 3 keyS tyM _ b m.length (datum m) rfl h ?_; intro w0 hrg0 hg0 hs0)
    | go_in)
  have HI : Hid (SrtI w b w.heap.size m (.slice none 0 0) (Maps.has (datum m)) (Maps.size (datum m)) [] none 0 0 w0) := Lib.hid ⟨hrg0, by rw [size_datum]; simp, Collected.start _, rfl, Lst.nil _ _ _, below_grown hg0, Nat.le_refl _, by omega⟩
  clear hrg0 hg0 hs0 h
  go_loopw [3] (fun v wr => ∃ left cnt ss A n c, SrtI w b w.heap.size m v left cnt ss A n c wr) (fun _ wr => wr.rangeLeft b w.heap.size)
  case atStart => exact ⟨_, _, _, _, _, _, HI.out⟩
  case round =>
    obtain ⟨left, cnt, ss, A, n, c, hi⟩ := hrel
    obtain ⟨hrg, hcs, hC, rfl, hlst, hbw, _, hrl⟩ := hi
    have HX := Lib.hid (And.intro hcs (And.intro hC (And.intro hlst (And.intro hbw hrl))))
    have HRG := Lib.hid hrg
    clear hcs hC hlst hbw hrl
    go_wp2_with (first
      | (at_next; refine wpList_next_ranges _ rfl _ rfl 9 keyS (plainElem Tryd.prog 3) encStr (Value.int .i64) (fun key kl hk => by obtain ⟨x, hx, _⟩ := Maps.keyOf_str tyS hk; exact ⟨x, hx⟩) (fun v y hv => by obtain ⟨c, rfl, _⟩ := plainElem_int_inv tyI hv; exact ⟨c, rfl⟩) b w.heap.size m.length _ _ _ rfl hrg ?_ ?_)
      | go_in)
    · intro hc0 hl0
      have HP : Hid (ss.mergeSort leB = m.map (·.s)) := Lib.hid (HK.out ss (by have := HX.out.2.1.perm hrg.owns keyS tyS hl0; rwa [keys_datum] at this))
      have HN : Hid (n = ss.length) := Lib.hid (by have := HX.out.2.2.1.1; simpa using this.symm)
      cases A with
      | none =>
        have hE : ss = [] := by
          have h1 := HX.out.2.2.1
          rcases h1.2.2.2.2 with ⟨_, hc⟩ | ⟨g, o, cur, e, _⟩
          · have := h1.1; have := h1.2.1; have := HN.out
            exact List.length_eq_zero_iff.1 (by omega)
          · cases e
        have hc : c = 0 := by
          rcases HX.out.2.2.1.2.2.2.2 with ⟨_, hc⟩ | ⟨g, o, cur, e, _⟩
          · exact hc
          · cases e
        have hn0 : n = 0 := by rw [HN.out, hE]; rfl
        subst hc hn0
        have HS := Lib.hid (Tryd.slices_Sort_string_none none 0 wr)
        clear hrg hl0
        go_wp2_with (go_at_call 56; refine HS.out.mono ?_; rintro e w1 ⟨rfl, rfl⟩)
        go_ret
        refine ⟨none, 0, 0, rfl, ?_, ?_⟩
        · have : m.map (·.s) = [] := by rw [← HP.out, hE]; simp
          have e2 : (m.map fun x => str x.s) = [] := by
            have := congrArg (List.map str) this
            simpa using this
          rw [e2]
          exact Lst.nil _ _ _
        · exact HX.out.2.2.2.1
      | some ad =>
        obtain ⟨g, o, rfl⟩ : ∃ g o, ad = ⟨g, o, none⟩ := by
          rcases HX.out.2.2.1.2.2.2.2 with ⟨e, _⟩ | ⟨g, o, cur, e, _⟩
          · cases e
          · injection e with e; exact ⟨g, o, e⟩
        have hnn : n = ss.length := HN.out
        subst hnn
        have hgl := HX.out.2.2.1.blk _ rfl
        have HS := Lib.hid (Tryd.slices_Sort_string g o c ss wr (lst_holds HX.out.2.2.1) hgl.2 (by have := HX.out.1; omega))
        have HG := Lib.hid hgl
        clear hrg hl0 hgl
        go_wp2_with (go_at_call 56; refine HS.out.mono ?_; rintro e w1 ⟨rfl, nn, os, rfl⟩)
        go_ret
        have hls := lst_sorted (k := nn) (os := os) HX.out.2.2.1 (ts := ss.mergeSort leB) (by simp)
        refine ⟨some ⟨g, o, none⟩, ss.length, c, rfl, ?_, HX.out.2.2.2.1.trans (hls.2.below HX.out.2.2.2.1.size fun j hj => by rw [hj]; exact HG.out.1.1)⟩
        have h9 := hls.1
        have e3 : (ss.mergeSort leB).map str = m.map fun x => str x.s := by
          rw [HP.out, List.map_map]
          rfl
        rw [e3] at h9
        exact h9.mono fun j hj => hj.1
    · intro x cv kl yd yp w2 cnt2 hkey hlk hv hat hrg2 hlt hg2 hs2 hen
      obtain ⟨x', ex, rfl, _⟩ := Maps.keyOf_str tyS hkey
      obtain rfl : x = x' := encStr_inj ex
      have hst2 := st_grown hg2
      have hl2 : Lst 9 (fun k => w.heap.size ≤ k ∧ k ≠ w.heap.size) w2 A n c (ss.map str) := HX.out.2.2.1.st hst2 fun k hk e => hk.2 e
      have hbw2 : Below w.heap.size w w2 := HX.out.2.2.2.1.trans (hst2.below HX.out.2.2.2.1.size fun j hj => by omega)
      have H2 := Lib.hid (And.intro hrg2 (And.intro hbw2 (And.intro (HX.out.2.1.step hlk hat) hs2)))
      have hla := (hl2.alloc (.cells #[str x] 9)).tight
      have hu := RdV.one w2 9 (str x) rfl
      have hn8 : n ≤ 1000 := by have h1 := HX.out.2.2.1.1; have h2 := HX.out.1; simp at h1; omega
      have HL2 := Lib.hid hl2
      have hcn : cnt2 < cnt := hlt
      have HC := Lib.hid hcn
      clear hrg hlk hat hrg2 hg2 hs2 hst2 hl2 hbw2 hkey hv hlt hcn ex
      go_wp2_with (first
        | (refine wpList_build_one (x := str x) eltT rfl (.tmp 12) rfl rfl rfl ?_)
        | (at_builtin
           refine wpList_append_lst eltT rfl (.tmp 11) (.tmp 13) rfl rfl hla rfl hu (by omega) ?_
           rintro v w3 hap
           obtain ⟨A', n', c', rfl, hl'⟩ := hap.ex
           have HAP := Lib.hid (And.intro hl' hap.st)
           clear hap hl')
        | go_in)
      obtain ⟨r1, r2, r3, r4⟩ := H2.out
      have hA : ∀ k, BlkOf A k → (w.heap.size ≤ k ∧ k ≠ w.heap.size) ∧ k < w2.heap.size := fun k hk => by
        obtain ⟨ad, rfl, rfl⟩ := hk
        exact HL2.out.blk _ rfl
      have hal : Below w2.heap.size w2 (w2.alloc (.cells #[str x] 9)) := (Below.refl _ _).alloc (Nat.le_refl _) _
      have hst3 : St (BlkOf A) w2 w3 := (St.ext hal).trans HAP.out.2 (Gr.refl _ _)
      have hrg3 := ranges_st r1 hst3 (fun hk => by have := (hA _ hk).1.1; omega) (fun hk => (hA _ hk).1.2 rfl)
      have hbw3 := r2.trans (hst3.below r2.size fun j hj => (hA j hj).1.1)
      go_roundw
      case rel =>
        refine ⟨_, cnt2, ss ++ [x], A', n', c', hrg3, by have := HC.out; have := HX.out.1; simp; omega, r3, rfl, ?_, hbw3, Nat.le_refl _, by have := hst3.size; have := HX.out.2.2.2.2; omega⟩
        have hl3 := HAP.out.1
        rw [show (ss ++ [x]).map str = ss.map str ++ [str x] from by simp]
        refine hl3.mono fun k hk => ?_
        rcases hk with hk | hk
        · exact (hA k hk).1
        · have h1 : w2.heap.size + 1 ≤ k := by simpa using hk
          have := HX.out.2.2.2.2
          have := r2.size
          exact ⟨by omega, by omega⟩
      case measure => rw [hrg3.left_eq, HRG.out.left_eq]; exact HC.out
end Go.Proofs.YtdepbdmnkkkjlaaDoor
