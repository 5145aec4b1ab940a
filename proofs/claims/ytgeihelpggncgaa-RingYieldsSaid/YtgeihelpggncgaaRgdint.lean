/- Rings of int: the iterator. -/
import Derived.Test.YtgeihelpggncgaaRgbint
import Derived.Test.YtgeihelpggncgaaItr
set_option linter.unusedSimpArgs false
set_option linter.unusedVariables false
namespace Go.Proofs.Ytgeihelpggncgaa.Rgint
open Go.RowKit Go.Shelf
attribute [local go_sem] Oper.semAt_some

theorem all_any (P : Option Addr) (w : World) :
    Calls Try.prog 36 #[.pointer P] w fun e w' => e = .returned (.func (.func 42) #[] #[.pointer (some ⟨w.heap.size, 0, none⟩)]) ∧ w' = w.alloc (.cells #[.pointer P] 23) := by
  go_enter Try.func36, Try.ntmps36
  go_wp2
  go_ret
  exact ⟨by simp, rfl⟩

set_option maxRecDepth 100000 in
set_option maxHeartbeats 2000000 in
theorem all_stops (fu : Nat) (hfu : 1 ≤ fu) (Own : World → Nat → Prop) (Bc : Nat) (P : Option Addr) (vs : List Value) (w : World) (hlen : vs.length ≤ 1024)
    (HL : ∀ W, Below w.heap.size w W → Calls Try.prog 12 #[.pointer P] W (Made 3 vs W))
    (hBc : Bk w 23 Bc [.pointer P]) (hO : ∀ W, Below w.heap.size w W → ∀ k, Own W k → k < w.heap.size) :
    SeqStopsK Fence.wide fu Try.prog 42 #[.pointer (some ⟨Bc, 0, none⟩)] (fun i : Fin vs.length => #[Value.int .i64 i.val, vs[i]]) (KpO Own)
      (fun ys => ys = List.finRange vs.length) (fun pre => ∃ k, pre = (List.finRange vs.length).take k) vs.length w := fun l J Jx W hW hJ hJx hY h0 => by
  have e1 := (hBc.below hW).cell 0 rfl
  have HLi := Lib.hid (HL W hW)
  have HO := Lib.hid hO
  have HW := Lib.hid hW
  clear HL hBc hO hW
  refine callsIn_of_wp Try.func42 rfl trivial ?_ rfl
  simp only [Try.ntmps42, List.size_toArray, List.length_cons, List.length_nil, Nat.reduceAdd, Nat.reduceSub, Array.replicate_succ, Array.replicate_zero, List.push_toArray, List.append_toArray, List.nil_append, List.cons_append]
  gi_wp2
  refine ⟨trivial, (callsIn_wide.2 HLi.out).mono ?_⟩
  rintro e W2 ⟨A, n, c, rfl, hl, hb⟩
  have hJ0 : J [] W2 := hJ [] W W2 none h0 ⟨hb.os, hb.tape, hb.output, hb.size, fun k hk _ => hb.block k hk⟩ (by simp)
  have hn := hl.1
  have hnO : ∀ k, W.heap.size ≤ k → ¬ Own W2 k := fun k hk hf => by
    have := HO.out W2 (HW.out.trans (hb.mono HW.out.size)) k hf
    have := HW.out.size
    omega
  have hn4 : n ≤ 1024 := by omega
  have HN := Lib.hid hn
  have HNO := Lib.hid hnO
  clear hn hnO hlen e1 h0 hb
  gi_wp2
  gi_loopw [8] (fun i wr => ∃ k : Nat, k ≤ n ∧ i = .int .i64 k ∧ J ((List.finRange vs.length).take k) wr ∧ KpO Own W2 wr) (fun i _ => n + 1 - (intOf i).toNat)
  case atStart => exact ⟨0, Nat.zero_le _, rfl, by simpa using hJ0, KpO.refl _ _⟩
  case round =>
    obtain ⟨k, hk, rfl, hJk, hkw⟩ := hrel
    by_cases hlt : k < n
    · have hlv : k < vs.length := by rw [HN.out]; exact hlt
      obtain ⟨g, o, rfl, hg, hc⟩ := (hkw.list hl HNO.out).rdv.cell hlt
      rw [List.getElem?_eq_getElem hlv] at hc
      have hz := fin_take vs.length k hlv
      obtain ⟨x, hx⟩ : ∃ x, x = vs[k] := ⟨_, rfl⟩
      rw [← hx] at hc
      have HZ := Lib.hid hz
      obtain ⟨fn, tmps, assign, body, hy, hR⟩ := hY _ ⟨k, hlv⟩ wr hJk (by simp; omega)
      rw [show vs[(⟨k, hlv⟩ : Fin vs.length)] = x from hx.symm] at hy
      have HL2 := Lib.hid hl
      clear hx hz hl
      gi_wp2
      refine hR.mono ?_
      rintro e W3 (⟨rfl, hJ3, hk3⟩ | ⟨rfl, hJx3⟩)
      · have hkw3 := hkw.trans hk3
        clear hy hR hc
        gi_wp2
        go_roundw
        case rel => exact ⟨k + 1, by omega, by go_num, by rw [HZ.out]; exact hJ3, hkw3⟩
        case measure => simp [intOf]; omega
      · clear hy hR hc
        gi_wp2
        refine bodyPost_ret (results_none rfl _ _ _) rfl ?_
        exact ⟨⟨_, rfl⟩, .inr ⟨_, ⟨k + 1, HZ.out.symm⟩, hJx3⟩⟩
    · obtain rfl : k = n := by omega
      gi_wp2
      go_end0
      exact ⟨⟨_, rfl⟩, .inl ⟨_, List.take_of_length_le (by simp [HN.out]), hJk⟩⟩
end Go.Proofs.Ytgeihelpggncgaa.Rgint
