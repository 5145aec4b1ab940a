/- The iterator over a fabric's busy ports; how many packets there are. -/
import Derived.Test.YtbhhgfpliggkgaaF7
set_option linter.unusedSimpArgs false
set_option linter.unusedVariables false
set_option maxRecDepth 100000
namespace Go.Proofs.Ytbhhgfpliggkgaa
open Go.RowKit Go.Shelf
attribute [local go_sem] Oper.semAt_some

section
variable {F X F1 X1 G : Nat → Prop} {w w' w1 : World} {b : Nat} {m m1 : FM} {pp : Nat → Nat} {FF : Nat → Nat → Prop} {k L H : Nat} {a c : AM} {B C : Int} {P A : Option Addr} {n d : Nat} {ks : List Pk}
/-- The iterator: its list of places in a box. -/
def BusyI (w : World) (ps : List (Nat × Nat)) (g : Nat) (A : Option Addr) (n c : Nat) (w' : World) : Prop :=
  w.heap.size ≤ g ∧ Bk w' 118 g [.slice A n c] ∧ n = ps.length ∧ RdR 2 w' A n c (flat plc ps) ∧ (∀ ad, A = some ad → w.heap.size ≤ ad.block ∧ ad.block < w'.heap.size) ∧ Below w.heap.size w w'
theorem f_Busy (h : FbP F X w P m pp FF) :
    Calls Try.prog 41 #[.pointer P] w fun e w' => ∃ g A n c, e = .returned (.func (.func 59) #[] #[.pointer (some ⟨g, 0, none⟩)]) ∧ BusyI w m.busy g A n c w' := by
  have HP := Lib.hid (f_places h)
  clear h
  go_enter Try.func41, Try.ntmps41
  go_wp2_with fail
  refine HP.out.mono ?_
  rintro e w1 ⟨v, rfl, A, n, c, rfl, hn, hl, hb⟩
  have HE : Hid (BusyI w m.busy w1.heap.size A n c (w1.alloc (.cells #[.slice A n c] 118))) := Lib.hid
    ⟨hb.size, Bk.new w1 _ [.slice A n c], hn, hl.rd.alloc _, fun ad he => ⟨(hl.blk ad he).1, by have := (hl.blk ad he).2; simp; omega⟩, hb.alloc hb.size _⟩
  clear hn hl hb
  go_wp2
  go_ret
  exact ⟨_, _, _, _, rfl, HE.out⟩
theorem RdR.kps {S : Nat → Prop} {sz : Nat} {cs : List Value} (h : RdR sz w A n d cs) (hk : KpS S w w') (hs : w.heap.size ≤ w'.heap.size) (hS : 0 < n → ∀ ad, A = some ad → S ad.block) : RdR sz w' A n d cs := by
  obtain ⟨h1, h2, h3, h4, h5, h6⟩ := h
  refine ⟨h1, h2, h3, h4, h5, fun hn => ?_⟩
  obtain ⟨g, o, rfl, hg, hx⟩ := h6 hn
  exact ⟨g, o, rfl, by omega, fun i hi => (hk.cell (hS hn _ rfl)).trans (hx i hi)⟩
theorem KpS.alloc {S : Nat → Prop} (h : KpS S w w1) (hS : ∀ k, S k → k < w.heap.size) (o : Obj) : KpS S w (w1.alloc o) := fun k hk => by
  have h1 := h k hk
  have h2 : k < w1.heap.size := by
    rw [Array.getElem?_eq_getElem (hS k hk)] at h1
    exact (Array.getElem?_eq_some_iff.1 h1).1
  exact (heap_alloc_old w1 _ h2).trans h1
set_option maxHeartbeats 2000000 in
theorem busy_stops (fu : Nat) (hfu : 1 ≤ fu) (T : Nat → Prop) (g : Nat) (ps : List (Nat × Nat)) (A : Option Addr) (n c : Nat) (w : World) (hn : n = ps.length) (h64 : n ≤ 64)
    (h1 : T g) (hA : ∀ ad, A = some ad → T ad.block) (hT : ∀ k, T k → k < w.heap.size) (hb : Bk w 118 g [.slice A n c]) (hl : RdR 2 w A n c (flat plc ps)) :
    SeqStopsK Fence.wide fu Try.prog 59 #[.pointer (some ⟨g, 0, none⟩)] (fun i : Fin ps.length => #[.int .i64 ps[i].1, .int .i64 ps[i].2]) (KpS T)
      (fun ys => ys = List.finRange ps.length) (fun pre => ∃ k, pre = (List.finRange ps.length).take k) ps.length w := fun l J Jx W hW hJ hJx hY h0 => by
  have hKW : KpS T w W := fun k hk => hW.block k (hT k hk)
  have e1 := (show Bk W 118 g [.slice A n c] from (hKW g h1).trans hb).cell 0 rfl
  have HT := Lib.hid hT
  have HRow : Hid (∀ wr, KpS T W wr → ∀ k (hk : k < ps.length), ∃ g' o, A = some ⟨g', o, none⟩ ∧ wr.cell? ⟨g', o + k * 2, none⟩ = some (.int .i64 ps[k].1) ∧ wr.cell? ⟨g', o + k * 2 + 1, none⟩ = some (.int .i64 ps[k].2)) := Lib.hid (by
    intro wr hk k hlt
    obtain ⟨g', o, rfl, hg, hra⟩ := hl.range (i := k) (by omega)
    rw [flat_row plc_len ps k hlt] at hra
    have hS := hA _ rfl
    have hkk := KpS.trans hKW hk
    exact ⟨g', o, rfl, (hkk.cell hS).trans (hra 0 _ rfl), (hkk.cell hS).trans (hra 1 _ rfl)⟩)
  have HN := Lib.hid hn
  have HWS := Lib.hid hW.size
  clear hW hKW hb hl hA hT hn
  refine callsIn_of_wp Try.func59 rfl trivial ?_ rfl
  simp only [Try.ntmps59, List.size_toArray, List.length_cons, List.length_nil, Nat.reduceAdd, Nat.reduceSub, Array.replicate_succ, Array.replicate_zero, List.push_toArray, List.append_toArray, List.nil_append, List.cons_append]
  gi_wp2
  gi_loopw [7] (fun i' wr => ∃ k : Nat, k ≤ n ∧ i' = .int .i64 k ∧ J ((List.finRange ps.length).take k) wr ∧ KpS T W wr) (fun i' _ => n + 1 - (intOf i').toNat)
  case atStart => exact ⟨0, Nat.zero_le _, rfl, by simpa using h0, KpS.refl _ _⟩
  case round =>
    obtain ⟨k, hk, rfl, hJk, hr⟩ := hrel
    by_cases hlt : k < n
    · have hlp : k < ps.length := by rw [← HN.out]; exact hlt
      obtain ⟨g', o, rfl, f1, f2⟩ := HRow.out wr hr k hlp
      obtain ⟨x, hx⟩ : ∃ x, x = ps[k] := ⟨_, rfl⟩
      rw [← hx] at f1 f2
      have HF := Lib.hid (fin_take ps.length k hlp)
      have hJa : J ((List.finRange ps.length).take k) (wr.alloc (.cells #[.int .i64 x.1, .int .i64 x.2] 122)) := hJ _ wr _ none hJk ⟨rfl, rfl, rfl, by simp, fun k hk _ => heap_alloc_old wr _ hk⟩ (by simp)
      obtain ⟨fn, tmps, assign, body, hy, hR⟩ := hY _ ⟨k, hlp⟩ _ hJa (by simp; omega)
      rw [show ps[(⟨k, hlp⟩ : Fin ps.length)] = x from hx.symm] at hy
      have HKA : Hid (KpS T W (wr.alloc (.cells #[.int .i64 x.1, .int .i64 x.2] 122))) := Lib.hid (hr.alloc (fun k hk => Nat.lt_of_lt_of_le (HT.out k hk) HWS.out) _)
      have HR := Lib.hid hR
      clear hJa hx hr e1 hR
      gi_wp2
      refine HR.out.mono ?_
      rintro e W3 (⟨rfl, hJ3, hk3⟩ | ⟨rfl, hJx3⟩)
      · have HK3 := Lib.hid (KpS.trans HKA.out hk3)
        clear hy f1 f2 hk3
        gi_wp2
        go_roundw
        case rel => exact ⟨k + 1, by omega, by go_num, by rw [HF.out]; exact hJ3, HK3.out⟩
        case measure => simp [intOf]; omega
      · clear hy f1 f2
        gi_wp2
        refine bodyPost_ret (results_none rfl _ _ _) rfl ?_
        exact ⟨⟨_, rfl⟩, .inr ⟨_, ⟨k + 1, HF.out.symm⟩, hJx3⟩⟩
    · obtain rfl : k = n := by omega
      have HJ := Lib.hid hJk
      clear hJk hr
      gi_wp2
      go_end0
      exact ⟨⟨_, rfl⟩, .inl ⟨_, List.take_of_length_le (by simp [HN.out]), HJ.out⟩⟩
end
end Go.Proofs.Ytbhhgfpliggkgaa
