/- The iterator over what is kept. -/
import Derived.Test.YtmmjhijgedboiaaE2
import Derived.Test.YtmmjhijgedboiaaItrS
import Derived.Test.YtmmjhijgedboiaaLsrI
set_option linter.unusedSimpArgs false
set_option linter.unusedVariables false
set_option maxRecDepth 100000
namespace Go.Proofs.Ytmmjhijgedboiaa
open Go.RowKit Go.Shelf
attribute [local go_sem] Oper.semAt_some
theorem grown_of {w w' : World} (h : Below w.heap.size w w') : w.grownBy w' none := ⟨h.os, h.tape, h.output, h.size, fun k hk _ => h.block k hk⟩
theorem MpR.below {w w' : World} {b : Nat} {ks : List Pk} (h : MpR w b ks) (hb : Below w.heap.size w w') : MpR w' b ks := by
  obtain ⟨L, h1, h2, h3⟩ := h
  exact ⟨L, h1.below hb, h2, fun p hp => by obtain ⟨x, hx, hm, hr⟩ := h3 p hp; exact ⟨x, hx, hm, hr.below hb⟩⟩
/-- What the iterator wants: the end as it was, and of what is kept all that has not come yet. -/
def SgK (e pb g : Nat) (mb : Option Nat) (m : Rm) (pre : List Pe) (W : World) : Prop := Bk W 89 e [.pointer (some ⟨pb, 0, none⟩), .int .i64 m.sr, .int .i64 m.ds, .int .i64 m.cn, .int .i64 m.cl, .int .i64 0, .int .i64 0, .int .i64 0, .int .i64 m.pl, .int .i64 0, .int .i64 0, .int .i64 m.ar, .int .i64 m.pd, .bool false, .bool m.dn, .int .i64 m.pa, .map mb, .pointer (some ⟨g, 0, none⟩)] ∧ Bmp W pb m.bm ∧ ∀ p ∈ m.ks.drop pre.length, ∃ b, mb = some b ∧ MpR W b (m.ks.drop pre.length)
def GdK (ks : List Pk) (pre : List Pe) (x : Pe) (W : World) : Prop := (∃ p, ks[pre.length]? = some p ∧ x.mt p) ∧ BsR W x.A x.n x.c x.xs
def GvE (fu : Nat) (e pb g : Nat) (mb : Option Nat) (m : Rm) (w : World) : Prop :=
  GivesS Fence.wide fu Try.prog 48 (.pointer (some ⟨e, 0, none⟩)) (fun x : Pe => #[.int .i64 x.k, .agg #[.slice x.A x.n x.c, .bool x.en, .bool x.fi]]) (GdK m.ks) (SgK e pb g mb m) (fun xs => xs.length = m.ks.length) (fun _ => True) w
/-- So many are below a number. -/
def Cnt (ks : List Pk) (c N : Nat) : Prop := ∀ (j : Nat) (p : Pk), ks[j]? = some p → (j < c ↔ p.h.sq < N)
theorem cnt_hit {ks : List Pk} {c N : Nat} (hr : Rise ks) (hc : Cnt ks c N) {p : Pk} (hp : p ∈ ks) (hn : p.h.sq = N) : ks[c]? = some p ∧ Cnt ks (c + 1) (N + 1) := by
  obtain ⟨j, hj, he⟩ := List.getElem_of_mem hp
  have hjs : ks[j]? = some p := by rw [List.getElem?_eq_getElem hj, he]
  have hcj : c ≤ j := by
    have := hc j p hjs
    by_cases h : j < c
    · have := this.1 h; omega
    · omega
  have rise : ∀ (a b : Nat) (ha : a < ks.length) (hb : b < ks.length), a < b → ks[a].h.sq < ks[b].h.sq := fun a b ha hb h => List.pairwise_iff_getElem.1 hr a b ha hb h
  have hjc : j = c := by
    rcases Nat.lt_or_ge c j with h | h
    · have h1 := rise c j (by omega) hj h
      have h2 := hc c ks[c] (List.getElem?_eq_getElem (by omega))
      rw [he] at h1
      have := h2.2 (by omega)
      omega
    · omega
  subst hjc
  refine ⟨hjs, fun i q hq => ?_⟩
  have hi : i < ks.length := (List.getElem?_eq_some_iff.1 hq).1
  have hqe : ks[i] = q := (List.getElem?_eq_some_iff.1 hq).2
  constructor
  · intro h
    rcases Nat.lt_or_ge i j with h' | h'
    · have := (hc i q hq).1 h'; omega
    · obtain rfl : i = j := by omega
      rw [hq] at hjs
      rw [Option.some.inj hjs]; omega
  · intro h
    rcases Nat.lt_or_ge j i with h' | h'
    · have := rise j i hj hi h'
      rw [he, hqe] at this
      omega
    · omega
theorem cnt_miss {ks : List Pk} {c N : Nat} (hc : Cnt ks c N) (hn : ∀ p ∈ ks, p.h.sq ≠ N) : Cnt ks c (N + 1) := fun j q hq => by
  have h1 := hc j q hq
  have h2 := hn q (List.mem_of_getElem? hq)
  rw [h1]; omega
theorem cnt_zero {ks : List Pk} {N : Nat} (h : ∀ p ∈ ks, (N : Int) ≤ p.h.sq) : Cnt ks 0 N := fun j q hq => by
  have := h q (List.mem_of_getElem? hq); omega
theorem cnt_all {ks : List Pk} {c N : Nat} (hc : Cnt ks c N) (hl : c ≤ ks.length) (h : ∀ p ∈ ks, p.h.sq < (N : Int)) : c = ks.length := by
  rcases Nat.lt_or_ge c ks.length with h' | h'
  · have := (hc c ks[c] (List.getElem?_eq_getElem h')).2 (h _ (List.getElem_mem h'))
    omega
  · omega
theorem Rm.Ok.win {m : Rm} (h : m.Ok) : ∀ p ∈ m.ks, (m.base : Int) ≤ p.h.sq ∧ p.h.sq < ((m.base + m.size : Nat) : Int) ∧ p.h.sq ≤ 1152921504606846976 := fun p hp => by
  have h0 := h.po p hp
  obtain ⟨n, hn⟩ := Int.eq_ofNat_of_zero_le h0
  obtain ⟨h1, h2, h3⟩ := h.bo.win n (hasK_iff.2 ⟨p, hp, hn⟩)
  have e1 : m.bm.base = m.base := rfl
  have e2 : m.bm.size = m.size := rfl
  rw [e1] at h1 h2
  rw [e2] at h2
  omega
set_option maxHeartbeats 4000000 in
theorem kept_gives (fu : Nat) (hfu : 2 ≤ fu) (e pb g : Nat) (mb : Option Nat) (m : Rm) (hm : m.Ok) (w : World) : GvE fu e pb g mb m w := fun l J Jx W hW hJ hJx hS hY h0 => by
  have hs1 := hm.bo.s2
  have hb1 := hm.bo.b1
  have e1 : m.bm.base = m.base := rfl
  have e2 : m.bm.size = m.size := rfl
  rw [e1] at hb1
  rw [e2] at hs1
  have HM := Lib.hid hm
  have HJ := Lib.hid hJ
  have HS := Lib.hid hS
  have HY := Lib.hid hY
  have hsg := hS _ _ h0
  have c0 := hsg.1.cell 0 rfl
  have HC0 := Lib.hid (cnt_zero (ks := m.ks) (N := m.base) fun p hp => (hm.win p hp).1)
  have HSZ := Lib.hid (b_size hsg.2.1)
  clear hS hY hJ hm hsg e1 e2 hJx hW
  refine callsIn_of_wp Try.func48 rfl trivial ?_ rfl
  simp only [Try.ntmps48, List.size_toArray, List.length_cons, List.length_nil, Nat.reduceAdd, Nat.reduceSub, Array.replicate_succ, Array.replicate_zero, List.push_toArray, List.append_toArray, List.nil_append, List.cons_append]
  gi_wp2
  refine ⟨trivial, fun _ => by omega, (callsIn_wide.2 HSZ.out).mono ?_⟩
  rintro ee W1 ⟨rfl, rfl⟩
  gi_wp2
  gi_loopw [4, 5, 11] (fun a' b' i' wr => ∃ (k : Nat) (pre : List Pe), k ≤ m.size ∧ i' = .int .i64 k ∧ J pre wr ∧ pre.length ≤ m.ks.length ∧ Cnt m.ks pre.length (m.base + k)) (fun a' b' i' _ => m.size + 1 - (intOf i').toNat)
  case atStart => exact ⟨0, [], Nat.zero_le _, rfl, h0, Nat.zero_le _, HC0.out⟩
  case round =>
    obtain ⟨k, pre, hk, rfl, hJk, hpl, hcn⟩ := hrel
    by_cases hlt : k < m.size
    · have hsg := HS.out _ _ hJk
      have c0 := hsg.1.cell 0 rfl
      have HBA := Lib.hid (b_base hsg.2.1)
      have HHA : Hid (Calls Try.prog 35 #[.pointer (some ⟨pb, 0, none⟩), .int .i64 ((m.base : Int) + k)] wr fun e w' => e = .returned (.bool (hasK m.ks (m.base + k))) ∧ Below wr.heap.size wr w') := Lib.hid (by
        have := b_has hsg.2.1 ((m.base : Int) + k)
        have hv : m.bm.has ((m.base : Int) + k) = hasK m.ks (m.base + k) := by
          unfold Bm.has
          rw [show ((m.base : Int) + k).toNat = m.base + k by omega, decide_eq_true (show (0 : Int) ≤ (m.base : Int) + k by omega), decide_eq_false (show ¬ ((m.base : Int) + k < (m.bm.base : Int)) from by show ¬ ((m.base : Int) + k < (m.base : Int)); omega)]
          rfl
        rwa [hv] at this)
      have HSG := Lib.hid hsg
      have HJK := Lib.hid hJk
      have HCN := Lib.hid hcn
      have HPL := Lib.hid hpl
      clear hsg hJk hcn hpl
      gi_wp2
      refine ⟨trivial, fun _ => by omega, (callsIn_wide.2 HBA.out).mono ?_⟩
      rintro ee W1 ⟨rfl, rfl⟩
      clear HBA
      have ew : (m.bm.base : Int) + k = (m.base : Int) + k := rfl
      gi_wp2
      refine ⟨trivial, fun _ => by omega, (callsIn_wide.2 HHA.out).mono ?_⟩
      rintro ee W2 ⟨rfl, hb2⟩
      have hJ2 := HJ.out _ _ W2 none HJK.out (grown_of hb2) (by simp)
      have HJ2 := Lib.hid hJ2
      have HSG2 := Lib.hid (HS.out _ _ hJ2)
      clear hb2 hJ2 HHA HJK HSG c0
      cases hh : hasK m.ks (m.base + k) with
      | false =>
        have HN := Lib.hid (cnt_miss HCN.out (fun p hp hn => by
          have := hasK_iff.2 ⟨p, hp, hn⟩
          rw [hh] at this; cases this))
        clear hh
        gi_wp2
        refine ⟨by simp, ?_⟩
        gi_wp2
        go_roundw
        case rel => exact ⟨k + 1, pre, by omega, by go_num, HJ2.out, HPL.out, by rw [← Nat.add_assoc]; exact HN.out⟩
        case measure => simp [intOf]; omega
      | true =>
        obtain ⟨p, hp, hn⟩ := hasK_iff.1 hh
        obtain ⟨hat, hc1⟩ := cnt_hit HM.out.ri HCN.out hp hn
        have hpd : p ∈ m.ks.drop pre.length := by
          refine List.mem_of_getElem? (i := 0) ?_
          rw [List.getElem?_drop]; exact hat
        obtain ⟨b, hmb, L, hL, hnd, hall⟩ := HSG2.out.2.2 p hpd
        obtain ⟨x, hx, hmt, hbs⟩ := hall p hpd
        have hxk : x.k = m.base + k := by have := hmt.1; omega
        obtain ⟨i, hgot⟩ := got_of hnd hx
        have hlk := look_at hL hgot
        rw [hxk] at hlk
        have hlk' : (Instr.lookup 86 (.map (some b)) (.int .i64 ((m.base : Int) + k)) false).run Try.prog W2 = .ok (.agg #[.slice x.A x.n x.c, .bool x.en, .bool x.fi]) W2 := by
          rw [show ((m.base : Int) + k) = ((m.base + k : Nat) : Int) by omega]; exact hlk
        obtain ⟨fn, tmps, assign, body, hy, hR⟩ := HY.out pre x W2 HJ2.out ⟨⟨p, hat, hmt⟩, hbs⟩
        have hy' := hy
        rw [show ((x.k : Nat) : Int) = (m.base : Int) + k by omega] at hy'
        have c3 := HSG2.out.1.cell 16 rfl
        rw [hmb] at c3
        have c0 := HSG2.out.1.cell 0 rfl
        have HC1 := Lib.hid hc1
        have HPL1 : Hid ((pre ++ [x]).length ≤ m.ks.length ∧ (pre ++ [x]).length = pre.length + 1) := Lib.hid ⟨by rw [List.length_append]; have := (List.getElem?_eq_some_iff.1 hat).1; show pre.length + 1 ≤ _; omega, by simp⟩
        clear hmb hh hp hn hat hc1 hpd hL hnd hall hx hmt hbs hgot hlk hy hxk HPL
        gi_wp2
        refine ⟨fun _ => by omega, hR.mono ?_⟩
        rintro ee W3 (⟨rfl, hJ3⟩ | ⟨rfl, hJx3⟩)
        · clear hy' hR c0 c3 hlk'
          gi_wp2
          go_roundw
          case rel => exact ⟨k + 1, pre ++ [x], by omega, by go_num, hJ3, HPL1.out.1, by rw [HPL1.out.2, ← Nat.add_assoc]; exact HC1.out⟩
          case measure => simp [intOf]; omega
        · clear hy' hR c0 c3 hlk'
          gi_wp2
          refine bodyPost_ret (results_none rfl _ _ _) rfl ?_
          exact ⟨⟨_, rfl⟩, .inr ⟨_, trivial, hJx3⟩⟩
    · obtain rfl : k = m.size := by omega
      have HE := Lib.hid (cnt_all hcn hpl fun p hp => (HM.out.win p hp).2.1)
      gi_wp2
      go_end0
      exact ⟨⟨_, rfl⟩, .inl ⟨_, HE.out, hJk⟩⟩
end Go.Proofs.Ytmmjhijgedboiaa
