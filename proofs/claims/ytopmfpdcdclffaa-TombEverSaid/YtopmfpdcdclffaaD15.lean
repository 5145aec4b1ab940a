/- The law: for ever. -/
import Derived.Test.YtopmfpdcdclffaaD14
import Derived.Test.YtopmfpdcdclffaaOpen
set_option linter.unusedSimpArgs false
set_option linter.unusedVariables false
namespace Go.Proofs.Ytopmfpdcdclffaa
open Go.RowKit Go.Shelf
/-- A tomb of the call's own, and the numbers that were closed, in a row of its own. -/
structure JE (w : World) (p L : Nat) (B : Bm) (A : Option Addr) (n c : Nat) (xs : List Int) (W : World) : Prop where
  bm : Bmp W (plT p) B
  ls : Lst 3 (L ≤ ·) W A n c (intV xs)
  pl : w.heap.size ≤ p
  pL : p < L
  LW : L ≤ W.heap.size
  bel : Below w.heap.size w W
section
variable {w W W' : World} {p L n c : Nat} {A : Option Addr} {B B' : Bm} {xs : List Int}
theorem JE.next (h : JE w p L B A n c xs W) (hb : Below W.heap.size W W') : JE w p L B A n c xs W' :=
  ⟨h.bm.below hb, h.ls.below hb, h.pl, h.pL, Nat.le_trans h.LW hb.size, h.bel.trans (hb.mono h.bel.size)⟩
theorem JE.did (h : JE w p L B A n c xs W) (hd : Bd (plT p) B' W W') : JE w p L B' A n c xs W' :=
  ⟨hd.bm, h.ls.st hd.st (fun k hk hp => by have : k = p := hp; have : L ≤ k := hk; have := h.pL; omega), h.pl, h.pL, Nat.le_trans h.LW hd.st.size, h.bel.trans (hd.st.below h.bel.size (fun k hk => by have : k = p := hk; have := h.pl; omega))⟩
theorem JE.push (h : JE w p L B A n c xs W) {x : Int} {v : Value} (hap : Apd 3 (L ≤ ·) (W.alloc (.cells #[.int .i64 x] 3)) v (intV xs ++ [.int .i64 x]) W') :
    ∃ A2 n2 c2, v = .slice A2 n2 c2 ∧ JE w p L B A2 n2 c2 (xs ++ [x]) W' := by
  obtain ⟨A2, n2, c2, rfl, hl⟩ := hap.ex
  have hb0 := (Below.refl W.heap.size W).alloc (Nat.le_refl _) (.cells #[.int .i64 x] 3)
  have hpL := h.pL
  have hLW := h.LW
  refine ⟨A2, n2, c2, rfl, ?_, ?_, h.pl, h.pL, ?_, ?_⟩
  · exact (h.bm.below hb0).st hap.st (by show ¬ L ≤ p; omega)
  · rw [intV_snoc]
    exact hl.mono fun k hk => by
      rcases hk with hk | hk
      · exact hk
      · simp at hk; omega
  · have := hap.st.size; simp at this; omega
  · exact (h.bel.trans (hb0.mono h.bel.size)).trans (hap.st.below (by have := h.bel.size; simp; omega) (fun k hk => by have := h.pl; omega))
end
set_option maxRecDepth 100000 in
set_option maxHeartbeats 16000000 in
theorem lawEver (s : Nat) (hs : s < 256) (A0 : Option Addr) (n0 c0 : Nat) (bs : List Int) (w : World) (h : Rd .u8 w A0 n0 c0 bs) :
    Calls Try.prog 4 #[.int .u8 s, .slice A0 n0 c0] w fun e w' => e = .returned (.bool true) ∧ Below w.heap.size w w' := by
  have hnc := h.2.1
  have hcm := h.2.2.1
  unfold maxLen at hcm
  have HL := Lib.hid (bytes_at h)
  clear h
  obtain ⟨sz, hsz⟩ : ∃ sz : Nat, sz = 1 + s % 64 := ⟨_, rfl⟩
  have h1 : 1 ≤ sz := by omega
  have h2 : sz ≤ 64 := by omega
  have k1 : IntKind.i64.wrap (1 + ((s : Int)) % 64) = sz := by rw [IntKind.wrap_i64]; omega
  have k2 : IntKind.i64.wrap (s : Int) = s := by rw [IntKind.wrap_i64]; omega
  have HSZ := Lib.hid hsz
  clear hsz
  go_enter Try.func4, Try.ntmps4
  go_wp2_with fail
  refine (t_new sz w h1 h2).mono ?_
  rintro e w1 ⟨p, hp, rfl, hm1, hb1⟩
  have H1 := Lib.hid (And.intro hm1 (And.intro hb1 hp))
  clear hm1 hb1 hp k1 k2
  go_wp2_with fail
  refine (awake_any w1).mono ?_
  rintro e w2 ⟨rfl, hb2⟩
  have HJ2 : Hid (JE w p w2.heap.size (Bm.new sz 1) none 0 0 [] w2) := Lib.hid (by
    obtain ⟨hm1, hb1, hp⟩ := H1.out
    exact ⟨hm1.below hb2, Lst.nil _ _ _, hp, by have : p < w1.heap.size := hm1.lt; have := hb2.size; omega, Nat.le_refl _, hb1.trans (hb2.mono hb1.size)⟩)
  have HN1 : Hid ((Bm.new sz 1).tk ∧ (Bm.new sz 1).base ≤ 1 + 64 * 0 ∧ (Bm.new sz 1).size = sz) := Lib.hid ⟨Bm.new_tk h1 (by omega), by show 1 ≤ _; omega, rfl⟩
  clear hb2 H1
  generalize w2.heap.size = L at *
  go_wp2
  go_loopw [8, 9] (fun v i wr => ∃ (k : Nat) (B : Bm) (A : Option Addr) (c : Nat) (xs : List Int), k ≤ n0 ∧ k ≤ 120 ∧ i = .int .i64 k ∧ v = .slice A k c ∧ (B.tk ∧ B.base ≤ 1 + 64 * k ∧ B.size = sz) ∧ (∀ x ∈ xs, B.tclosed x = true) ∧ JE w p L B A k c xs wr) (fun _ i _ => n0 + 1 - (intOf i).toNat)
  case atStart => exact ⟨0, _, none, 0, [], Nat.zero_le _, by omega, rfl, rfl, HN1.out, by simp, HJ2.out⟩
  case round =>
    clear HJ2 HN1
    obtain ⟨k, B, A, c, xs, hkn, hk60, rfl, rfl, hB, hcl, hJ⟩ := hrel
    have HJ := Lib.hid hJ
    have HT := Lib.hid hB.1
    have HCL := Lib.hid hcl
    have hbase := hB.2.1
    have HSB := Lib.hid hB.2.2
    have hcm1 := hJ.ls.rdv.2.1
    have hcm2 := hJ.ls.rdv.2.2.1
    unfold maxLen at hcm2
    clear hJ hcl hB
    by_cases hc : k < n0 ∧ k < 120
    · obtain ⟨hlt, h60⟩ := hc
      have h60' : (k : Int) < 120 := by omega
      have hlt' : (k : Int) < n0 := by omega
      obtain ⟨go, o, x, hA, hcell, hx⟩ := HL.out _ HJ.out.bel k hlt
      obtain rfl : A0 = some ⟨go, o, none⟩ := hA
      have c0 := fun q => hcell _ (Below.drewN_ wr q)
      have hM := Lib.hid (fun q => t_floor (HJ.out.bm.below (Below.drewN_ wr q)))
      have hmod : x % sz < sz := Nat.mod_lt _ (by omega)
      have k1 : IntKind.i64.wrap (x : Int) = x := by rw [IntKind.wrap_i64]; omega
      have hz0 : (sz : Int) ≠ 0 := by omega
      obtain ⟨y, hy⟩ : ∃ y : Nat, y = B.base + x % sz := ⟨_, rfl⟩
      have HY := Lib.hid hy
      have k3 : (B.base : Int) + ((x % sz : Nat) : Int) = (y : Int) := by omega
      clear hcell hy
      go_wp2
      go_quiet (exact (hM.out _).mono fun _ _ h => ⟨h.1, _, h.2.symm⟩)
      rw [show (B.base : Int) + (x : Int) % (sz : Int) = (y : Int) from by have := k3; rw [Int.natCast_emod] at this; exact this]
      have HJq := Lib.hid (HJ.out.next (Below.drewN_ wr nq))
      clear c0 hM k1 k3 HJ
      generalize wr.drewN nq = wq at *
      have HD := Lib.hid (HT.out.did (y := y) (by have := HY.out; omega) (by have := HY.out; have := HSB.out; omega) (by have := HY.out; omega))
      go_wp2_with fail
      refine (t_close HJq.out.bm HT.out (y : Int)).mono ?_
      rintro e w3 ⟨rfl, hd⟩
      rw [HD.out.1]
      obtain ⟨B', hB'⟩ : ∃ B', B' = B.close (y : Int) := ⟨_, rfl⟩
      have HB' := Lib.hid hB'
      rw [← hB'] at hd
      have hla := (HJq.out.did hd).ls.alloc (.cells #[.int .i64 y] 3)
      have hu := RdV.one w3 3 (.int .i64 y) rfl
      have HJ3 := Lib.hid (HJq.out.did hd)
      have HTB : Hid (B'.tk ∧ B'.base ≤ 1 + 64 * (k + 1) ∧ B'.size = sz) := Lib.hid (by
        rw [hB']
        obtain ⟨g1, g2, g3, g4⟩ := HT.out.close (y : Int)
        have := HSB.out
        exact ⟨g1, by omega, by omega⟩)
      have HCL2 : Hid (∀ z ∈ xs ++ [(y : Int)], B'.tclosed z = true) := Lib.hid (by
        rw [hB']
        intro z hz
        rcases List.mem_append.1 hz with h | h
        · exact HT.out.keeps _ (HCL.out z h)
        · rw [List.mem_singleton.1 h]; exact HD.out.2)
      clear hd hB' HJq
      go_wp2_with (
        at_builtin
        refine wpList_append_lst eltI rfl (.tmp 61) (.tmp 63) rfl rfl hla rfl hu (by omega) ?_
        rintro v w4 hap
        obtain ⟨A2, n2, c2, rfl, hj4⟩ := HJ3.out.push hap
        have HJ4 := Lib.hid hj4
        have hl4 := hj4.ls.1
        rw [intV_len] at hl4
        have hc4 := hj4.ls.rdv.2.1
        have hm4 := hj4.ls.rdv.2.2.1
        unfold maxLen at hm4
        clear hap hj4 hla hu)
      obtain ⟨ys, hys⟩ : ∃ ys, ys = xs ++ [(y : Int)] := ⟨_, rfl⟩
      have hn2 : n2 = k + 1 := by
        have := HJ3.out.ls.1
        rw [intV_len] at this
        rw [List.length_append, List.length_singleton] at hl4
        omega
      subst hn2
      rw [← hys] at HJ4 HCL2 hl4
      clear hys HJ3
      go_loopw [13] (fun j wx => ∃ q : Nat, q ≤ k + 1 ∧ j = .int .i64 q ∧ JE w p L B' A2 (k + 1) c2 ys wx) (fun j _ => k + 2 - (intOf j).toNat)
      case atStart => exact ⟨0, by omega, rfl, HJ4.out⟩
      case round =>
        clear HJ4
        obtain ⟨q, hq, rfl, hj5⟩ := hrel
        have HJ5 := Lib.hid hj5
        by_cases hqk : q < k + 1
        · have hqk' : (q : Int) < (k : Int) + 1 := by omega
          obtain ⟨g, o2, hA2, hg, d⟩ := intV_at hj5.ls.rdv hqk (by omega)
          have HCQ := Lib.hid (HCL2.out _ (List.getElem_mem (by omega : q < ys.length)))
          have HRV := Lib.hid hj5.ls.rdv
          have hqy : q < ys.length := by omega
          obtain ⟨z, hz⟩ : ∃ z, z = ys[q] := ⟨_, rfl⟩
          have HZ := Lib.hid hz
          rw [← hz] at d HCQ
          clear hj5 hz
          subst hA2
          have kq : IntKind.i64.wrap ((k : Int) + 1) = (k : Int) + 1 := by rw [IntKind.wrap_i64]; omega
          go_wp2_with fail
          refine (t_closed HJ5.out.bm z).mono ?_
          rintro e w6 ⟨rfl, hb6⟩
          rw [HCQ.out]
          have HJ6 := Lib.hid (HJ5.out.next hb6)
          have d6 := (hb6.cell (p := ⟨g, o2 + q, none⟩) hg).trans d
          clear hb6 d hg
          go_wp2_with fail
          refine (t_may HJ6.out.bm z).mono ?_
          rintro e w7 ⟨rfl, hb7⟩
          rw [Bm.not_may HCQ.out]
          have HJ7 := Lib.hid (HJ6.out.next hb7)
          clear hb7 d6
          go_wp2
          go_roundw
          case rel => exact ⟨q + 1, by omega, by go_num, HJ7.out⟩
          case measure => simp [intOf]; omega
        · obtain rfl : q = k + 1 := by omega
          clear hj5
          have hfew := HTB.out.1.few
          have hfew' : ¬ (sz : Int) ≤ ((B'.all true).length : Int) := by have := HTB.out.2.2; omega
          obtain ⟨af1, af2⟩ := HTB.out.1.at_floor (by have := HTB.out.2.1; omega)
          have AF1 := Lib.hid af1
          have AF2 := Lib.hid af2
          clear hfew af1 af2
          go_wp2_with fail
          refine (t_count HJ5.out.bm).mono ?_
          rintro e w6 ⟨rfl, hb6⟩
          have HJ6 := Lib.hid (HJ5.out.next hb6)
          clear hb6
          go_wp2_with fail
          refine (t_floor HJ6.out.bm).mono ?_
          rintro e w7 ⟨rfl, rfl⟩
          go_wp2_with fail
          refine (t_closed HJ6.out.bm _).mono ?_
          rintro e w7 ⟨rfl, hb7⟩
          rw [AF1.out]
          have HJ7 := Lib.hid (HJ6.out.next hb7)
          clear hb7
          go_wp2_with fail
          refine (t_floor HJ7.out.bm).mono ?_
          rintro e w8 ⟨rfl, rfl⟩
          go_wp2_with fail
          refine (t_may HJ7.out.bm _).mono ?_
          rintro e w8 ⟨rfl, hb8⟩
          rw [AF2.out]
          have HJ8 := Lib.hid (HJ7.out.next hb8)
          clear hb8
          go_wp2
          go_roundw
          case rel => exact ⟨k + 1, B', A2, c2, ys, by omega, by omega, by go_num, rfl, HTB.out, HCL2.out, HJ8.out⟩
          case measure => simp [intOf]; omega
    · have hd : k < n0 ∧ (120 : Int) ≤ k ∨ n0 ≤ k := by omega
      rcases hd with ⟨hlt, h60⟩ | hge
      · have hlt' : (k : Int) < n0 := by omega
        go_wp2
        go_ret
        exact ⟨rfl, HJ.out.bel⟩
      · obtain rfl : k = n0 := by omega
        go_wp2
        go_ret
        exact ⟨rfl, HJ.out.bel⟩
theorem lawEverI (s : Int) (A0 : Option Addr) (n0 c0 : Nat) (bs : List Int) (w : World) (hs : (Lit.int .u8 s).wf = true) (h : Rd .u8 w A0 n0 c0 bs) :
    Calls Try.prog 4 #[.int .u8 s, .slice A0 n0 c0] w fun e w' => e = .returned (.bool true) ∧ Below w.heap.size w w' := by
  have h1 := u8_bounds hs
  have := lawEver s.toNat (by omega) A0 n0 c0 bs w h
  rwa [show ((s.toNat : Nat) : Int) = s from by omega] at this
end Go.Proofs.Ytopmfpdcdclffaa
