/- Queues of keys in memory: the iterator over one. -/
import Derived.Test.YtdldocbfnjbhmaaK2
import Derived.Test.YtdldocbfnjbhmaaItrM
import Derived.Test.YtdldocbfnjbhmaaLsrI
set_option linter.unusedSimpArgs false
set_option linter.unusedVariables false
set_option maxRecDepth 100000
namespace Go.Proofs.Ytdldocbfnjbhmaa
open Go.RowKit Go.Shelf
attribute [local go_sem] Oper.semAt_some
theorem grown_of {w w' : World} (h : Below w.heap.size w w') : w.grownBy w' none := ⟨h.os, h.tape, h.output, h.size, fun k hk _ => h.block k hk⟩
theorem below_on {w w1 w2 : World} (h : Below w.heap.size w w1) (k : Below w1.heap.size w1 w2) : Below w.heap.size w w2 := h.trans (k.mono h.size)
theorem q_all (P : Option Addr) (w : World) :
    Calls Try.prog 42 #[.pointer P] w fun e w' => e = .returned (.func (.func 56) #[] #[.pointer (some ⟨w.heap.size, 0, none⟩)]) ∧ w' = w.alloc (.cells #[.pointer P] 66) := by
  go_enter Try.func42, Try.ntmps42
  go_wp2
  go_ret
  exact ⟨by simp, rfl⟩
/-- A list of rows that the iterator made stays. -/
theorem KpO.listR {Own : World → Nat → Prop} {sz : Nat} {e : TypeId} {W W' : World} {A : Option Addr} {n c : Nat} {vs : List Value} {F : Nat → Prop} (hk : KpO Own W W') (h : LstR sz e F W A n c vs) (hO : ∀ k, F k → ¬ Own W k) : LstR sz e F W' A n c vs := by
  obtain ⟨h1, h2, h3, h4, h5⟩ := h
  refine ⟨h1, h2, h3, h4, ?_⟩
  rcases h5 with h5 | ⟨g, o, cur, hA, hf, hh, r⟩
  · exact .inl h5
  · exact .inr ⟨g, o, cur, hA, hf, hk.2.1 g _ hh rfl (hO g hf), r⟩
/-- The keys at these places. -/
def keys (qs : List Ky) (pre : List (Fin qs.length)) : List Ky := pre.map fun i => qs[i]
theorem keys_all (qs : List Ky) : keys qs (List.finRange qs.length) = qs := by
  apply List.ext_getElem
  · simp [keys]
  · intro i h1 h2
    simp [keys]
theorem keys_snoc (qs : List Ky) (pre : List (Fin qs.length)) (i : Fin qs.length) : keys qs (pre ++ [i]) = keys qs pre ++ [qs[i]] := by simp [keys]
theorem keys_length (qs : List Ky) (pre : List (Fin qs.length)) : (keys qs pre).length = pre.length := by simp [keys]
/-- What an iterator that hands on these keys owes. -/
def GvK (Own : World → Nat → Prop) (qs : List Ky) (fu : Nat) (g : Nat) (lb : Array Value) (w : World) : Prop :=
  GivesM Fence.wide fu Try.prog g lb (fun i : Fin qs.length => #[.int .i64 i.val, .agg #[.int .i64 (qs[i]).s, .int .i64 (qs[i]).c]]) (fun pre _ _ => pre.length < qs.length) (fun _ => KpO Own) (fun ys => ys = List.finRange qs.length) (fun pre => ∃ k, pre = (List.finRange qs.length).take k) w
set_option maxHeartbeats 4000000 in
theorem all_gives (fu : Nat) (hfu : 1 ≤ fu) (Own : World → Nat → Prop) (Bc : Nat) (P : Option Addr) (qs : List Ky) (w : World) (hlen : qs.length ≤ 1024)
    (HL : ∀ W, Below w.heap.size w W → Calls Try.prog 57 #[.pointer P] W (MadeQ qs W))
    (hBc : Bk w 66 Bc [.pointer P]) (hO : ∀ W, Below w.heap.size w W → ∀ k, Own W k → k < w.heap.size)
    (hOb : ∀ W W', w.heap.size ≤ W.heap.size → Below W.heap.size W W' → ∀ k, Own W' k → Own W k) :
    GvK Own qs fu 56 #[.pointer (some ⟨Bc, 0, none⟩)] w := fun l J Jx W hW hJ hJx hY h0 => by
  have e1 := (hBc.below hW).cell 0 rfl
  have HLi := Lib.hid (HL W hW)
  have HO := Lib.hid hO
  have HW := Lib.hid hW
  clear HL hBc hO hW
  refine callsIn_of_wp Try.func56 rfl trivial ?_ rfl
  simp only [Try.ntmps56, List.size_toArray, List.length_cons, List.length_nil, Nat.reduceAdd, Nat.reduceSub, Array.replicate_succ, Array.replicate_zero, List.push_toArray, List.append_toArray, List.nil_append, List.cons_append]
  gi_wp2
  refine ⟨trivial, (callsIn_wide.2 HLi.out).mono ?_⟩
  rintro e W2 ⟨A, n, c, rfl, hn, hl, hb⟩
  have hJ0 : J [] W2 := hJ [] W W2 none h0 ⟨hb.os, hb.tape, hb.output, hb.size, fun k hk _ => hb.block k hk⟩ (by simp)
  have hnO : ∀ k, W.heap.size ≤ k → ¬ Own W2 k := fun k hk hf => by
    have := HO.out W2 (HW.out.trans (hb.mono HW.out.size)) k hf
    have := HW.out.size
    omega
  have hn4 : n ≤ 1024 := by omega
  have HN := Lib.hid hn
  have HNO := Lib.hid hnO
  have hWW := hb.size
  clear hn hnO hlen e1 h0 hb
  gi_wp2
  gi_loopw [8] (fun i wr => ∃ k : Nat, k ≤ n ∧ i = .int .i64 k ∧ J ((List.finRange qs.length).take k) wr ∧ KpO Own W2 wr) (fun i _ => n + 1 - (intOf i).toNat)
  case atStart => exact ⟨0, Nat.zero_le _, rfl, by simpa using hJ0, KpO.refl _ _⟩
  case round =>
    obtain ⟨k, hk, rfl, hJk, hkw⟩ := hrel
    by_cases hlt : k < n
    · have hlv : k < qs.length := by rw [← HN.out]; exact hlt
      obtain ⟨g, o, rfl, hg, hra⟩ := (hkw.listR hl HNO.out).rd.range hlt
      have hrow := flat_row Ky.cl_len qs k hlv
      rw [hrow] at hra
      clear hrow
      have hz := fin_take qs.length k hlv
      obtain ⟨x, hx⟩ : ∃ x, x = qs[k] := ⟨_, rfl⟩
      rw [← hx] at hra
      have c0 : wr.cell? ⟨g, o + k * 2, none⟩ = some (.int .i64 x.s) := hra 0 _ rfl
      have c1 : wr.cell? ⟨g, o + k * 2 + 1, none⟩ = some (.int .i64 x.c) := hra 1 _ rfl
      have hba : Below wr.heap.size wr (wr.alloc (.cells #[.int .i64 x.s, .int .i64 x.c] 39)) := (Below.refl _ wr).alloc (Nat.le_refl _) _
      have hka : KpO Own W2 (wr.alloc (.cells #[.int .i64 x.s, .int .i64 x.c] 39)) := hkw.trans ⟨hba.size, fun i o hi _ _ => (hba.block i (Array.getElem?_eq_some_iff.1 hi).1).trans hi, fun i hi => .inl (hOb _ _ (Nat.le_trans HW.out.size (Nat.le_trans hWW hkw.1)) hba i hi)⟩
      obtain ⟨fn, tmps, assign, body, hy, hR⟩ := hY _ ⟨k, hlv⟩ _ (hJ _ _ _ none hJk (grown_of hba) (by simp)) (by simp; omega)
      rw [show qs[(⟨k, hlv⟩ : Fin qs.length)] = x from hx.symm] at hy
      have HZ := Lib.hid hz
      have HKA := Lib.hid hka
      have HL2 := Lib.hid hl
      clear hx hz hl hra hkw hJk hY hka hba
      gi_wp2
      refine hR.mono ?_
      rintro e W3 (⟨rfl, hJ3, hk3⟩ | ⟨rfl, hJx3, hk3⟩)
      · have hkw3 := HKA.out.trans hk3
        clear hy hR c0 c1
        gi_wp2
        go_roundw
        case rel => exact ⟨k + 1, by omega, by go_num, by rw [HZ.out]; exact hJ3, hkw3⟩
        case measure => simp [intOf]; omega
      · clear hy hR c0 c1
        gi_wp2
        refine bodyPost_ret (results_none rfl _ _ _) rfl ?_
        exact ⟨⟨_, rfl⟩, .inr ⟨_, ⟨k + 1, HZ.out.symm⟩, hJx3⟩⟩
    · obtain rfl : k = n := by omega
      gi_wp2
      go_end0
      exact ⟨⟨_, rfl⟩, .inl ⟨_, List.take_of_length_le (by simp [HN.out]), hJk⟩⟩
end Go.Proofs.Ytdldocbfnjbhmaa
