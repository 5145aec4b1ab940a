/- The reference: questions, answers. -/
import Derived.Test.YtmmjhijgedboiaaE18
set_option linter.unusedSimpArgs false
set_option linter.unusedVariables false
set_option maxRecDepth 100000
namespace Go.Proofs.Ytmmjhijgedboiaa
open Go.RowKit Go.Shelf
/-- What the reference's receiver has beside the model: settings, the slices of what is kept, and of what is open. -/
structure Zr where
  c0 : Int
  c2 : Int
  c3 : Int
  c5 : Int
  c6 : Int
  c7 : Int
  c8 : Int
  c9 : Int
  c10 : Int
  c11 : Int
  c12 : Int
  c13 : Int
  A : Option Addr
  n : Nat
  c : Nat
  J : Option Addr
  jn : Nat
  jc : Nat
def Rm.rl (m : Rm) (z : Zr) : List Value := [.int .i64 z.c0, .int .i64 m.pa, .int .i64 z.c2, .int .i64 z.c3, .int .i64 m.size, .int .i64 z.c5, .int .i64 z.c6, .int .i64 z.c7, .int .i64 z.c8, .int .i64 z.c9, .int .i64 z.c10, .int .i64 z.c11, .int .i64 z.c12, .int .i64 z.c13, .int .i64 m.sr, .int .i64 m.ds, .int .i64 m.cn, .int .i64 m.cl, .int .i64 m.base, .slice z.A z.n z.c, .slice z.J z.jn z.jc, .int .i64 m.jm.ps.length, .int .i64 m.jm.N, .int .i64 m.jm.T, .int .i64 m.ar, .int .i64 m.pl, .int .i64 m.pd, .bool m.dn]
theorem Rm.rl_one (m : Rm) (z : Zr) : ∀ v ∈ m.rl z, v.oneCell' = true := by simp [Rm.rl, Value.oneCell']
theorem rowRv : Row Try.prog 34 28 := ⟨⟨_, rfl, by decide⟩, by kernel_rfl⟩
/-- The reference's receiver says the same; its slices lie off F. -/
structure RfR (F : Nat → Prop) (w : World) (z : Zr) (m : Rm) : Prop where
  kp : SlP F w z.A z.n z.c m.ks
  jn : BsR w z.J z.jn z.jc m.jm.fl
  jo : ∀ k, BlkOf z.J k → ¬ F k
section
variable {F F' : Nat → Prop} {w w' : World} {z : Zr} {m : Rm}
theorem RfR.st (h : RfR F w z m) (hs : St F w w') (hg : Gr F F' w.heap.size) : RfR F' w' z m := ⟨h.kp.st hs hg, h.jn.st hs h.jo, fun k hk => hg.not (h.jn.lt k hk) (h.jo k hk)⟩
theorem RfR.below (h : RfR F w z m) (hb : Below w.heap.size w w') : RfR F w' z m := ⟨h.kp.below hb, h.jn.below hb, h.jo⟩
theorem r_within (n a b : Int) (w : World) : Calls Try.prog 32 #[.int .i64 n, .int .i64 a, .int .i64 b] w fun e w' => e = .returned (.bool (witB n a b)) ∧ w = w' := by
  unfold witB
  by_cases h1 : a ≤ n
  · by_cases h2 : n ≤ b <;>
    · go_enter Try.func32, Try.ntmps32
      go_wp2
      go_ret
      exact ⟨by simp [h1, h2], rfl⟩
  · go_enter Try.func32, Try.ntmps32
    go_wp2
    go_ret
    exact ⟨by simp; omega, rfl⟩
def thB (m : Rm) (x : Int) : Bool := m.ks.any (fun p => p.h.sq == x) || decide (x < m.base)
theorem thB_hs {p : Pk} (h : p.tkn = true) : thB m p.h.sq = m.hs p := by
  obtain ⟨h0, h1⟩ := Pk.tkn_sq h
  obtain ⟨n, hn⟩ := Int.eq_ofNat_of_zero_le h0
  unfold thB Rm.hs Bm.has
  rw [hn, decide_eq_true (show (0 : Int) ≤ ((n : Nat) : Int) by omega), Bool.true_and, Bool.or_comm, Int.toNat_natCast]
  rfl
set_option maxHeartbeats 4000000 in
theorem r_there (h : SlP F w z.A z.n z.c m.ks) (hn : z.n ≤ 1000000) (x : Int) : Calls Try.prog 41 #[.agg #[.int .i64 z.c0, .int .i64 m.pa, .int .i64 z.c2, .int .i64 z.c3, .int .i64 m.size, .int .i64 z.c5, .int .i64 z.c6, .int .i64 z.c7, .int .i64 z.c8, .int .i64 z.c9, .int .i64 z.c10, .int .i64 z.c11, .int .i64 z.c12, .int .i64 z.c13, .int .i64 m.sr, .int .i64 m.ds, .int .i64 m.cn, .int .i64 m.cl, .int .i64 m.base, .slice z.A z.n z.c, .slice z.J z.jn z.jc, .int .i64 m.jm.ps.length, .int .i64 m.jm.N, .int .i64 m.jm.T, .int .i64 m.ar, .int .i64 m.pl, .int .i64 m.pd, .bool m.dn], .int .i64 x] w fun e w' => e = .returned (.bool (thB m x)) ∧ Below w.heap.size w w' := by
  obtain ⟨W, hW⟩ : ∃ W, W = w.alloc (.cells #[.int .i64 z.c0, .int .i64 m.pa, .int .i64 z.c2, .int .i64 z.c3, .int .i64 m.size, .int .i64 z.c5, .int .i64 z.c6, .int .i64 z.c7, .int .i64 z.c8, .int .i64 z.c9, .int .i64 z.c10, .int .i64 z.c11, .int .i64 z.c12, .int .i64 z.c13, .int .i64 m.sr, .int .i64 m.ds, .int .i64 m.cn, .int .i64 m.cl, .int .i64 m.base, .slice z.A z.n z.c, .slice z.J z.jn z.jc, .int .i64 m.jm.ps.length, .int .i64 m.jm.N, .int .i64 m.jm.T, .int .i64 m.ar, .int .i64 m.pl, .int .i64 m.pd, .bool m.dn] 34) := ⟨_, rfl⟩
  have hb1 : Below w.heap.size w W := by rw [hW]; exact ext1 _ _
  have z1 : Bk W 34 w.heap.size [.int .i64 z.c0, .int .i64 m.pa, .int .i64 z.c2, .int .i64 z.c3, .int .i64 m.size, .int .i64 z.c5, .int .i64 z.c6, .int .i64 z.c7, .int .i64 z.c8, .int .i64 z.c9, .int .i64 z.c10, .int .i64 z.c11, .int .i64 z.c12, .int .i64 z.c13, .int .i64 m.sr, .int .i64 m.ds, .int .i64 m.cn, .int .i64 m.cl, .int .i64 m.base, .slice z.A z.n z.c, .slice z.J z.jn z.jc, .int .i64 m.jm.ps.length, .int .i64 m.jm.N, .int .i64 m.jm.T, .int .i64 m.ar, .int .i64 m.pl, .int .i64 m.pd, .bool m.dn] := by rw [hW]; exact Bk.new w 34 [.int .i64 z.c0, .int .i64 m.pa, .int .i64 z.c2, .int .i64 z.c3, .int .i64 m.size, .int .i64 z.c5, .int .i64 z.c6, .int .i64 z.c7, .int .i64 z.c8, .int .i64 z.c9, .int .i64 z.c10, .int .i64 z.c11, .int .i64 z.c12, .int .i64 z.c13, .int .i64 m.sr, .int .i64 m.ds, .int .i64 m.cn, .int .i64 m.cl, .int .i64 m.base, .slice z.A z.n z.c, .slice z.J z.jn z.jc, .int .i64 m.jm.ps.length, .int .i64 m.jm.N, .int .i64 m.jm.T, .int .i64 m.ar, .int .i64 m.pl, .int .i64 m.pd, .bool m.dn]
  have HS := Lib.hid (h.below hb1)
  have hlen := h.len
  have c18 := z1.cell 18 rfl
  have c19 := z1.cell 19 rfl
  have HB := Lib.hid hb1
  have HL := Lib.hid hlen
  clear h hb1 z1 hlen
  go_enter Try.func41, Try.ntmps41
  go_wp2_with fail
  rw [← hW]
  clear hW
  go_loopw [5] (fun i wr => ∃ k : Nat, k ≤ z.n ∧ i = .int .i64 k ∧ wr = W ∧ ∀ j p, j < k → m.ks[j]? = some p → p.h.sq ≠ x) (fun i _ => z.n - (intOf i).toNat)
  case atStart => exact ⟨0, Nat.zero_le _, rfl, rfl, fun j p hj => absurd hj (Nat.not_lt_zero j)⟩
  case round =>
    obtain ⟨k, hk, rfl, rfl, hno⟩ := hrel
    by_cases hlt : k < z.n
    · obtain ⟨g, o, q, hA, hra, -, hq, -⟩ := HS.out.row hlt
      have cs : wr.cell? ⟨g, o + k * 9 + 6, none⟩ = some (.int .i64 q.h.sq) := hra 6 _ rfl
      rw [hA] at c19
      have hlt' : (k : Int) < z.n := by omega
      have HNO := Lib.hid hno
      have HQ := Lib.hid hq
      clear hra hno hq hA
      by_cases he : q.h.sq = x
      · have HV : Hid (thB m x = true) := Lib.hid (by
          unfold thB
          rw [Bool.or_eq_true]
          exact .inl (List.any_eq_true.2 ⟨q.pk, List.mem_of_getElem? HQ.out.symm, by show (q.h.sq == x) = true; simpa using he⟩))
        go_wp2
        go_ret
        exact ⟨by rw [HV.out]; rfl, HB.out⟩
      · go_wp2
        go_roundw
        case rel => exact ⟨k + 1, by omega, by go_num, by first | rfl | trivial, fun j p hj hp => by
          rcases Nat.lt_or_ge j k with h' | h'
          · exact HNO.out j p h' hp
          · obtain rfl : j = k := by omega
            rw [← HQ.out] at hp
            rw [← Option.some.inj hp]
            exact he⟩
        case measure => simp [intOf]; omega
    · obtain rfl : k = z.n := by omega
      have HV : Hid (thB m x = decide (x < m.base)) := Lib.hid (by
        unfold thB
        rw [show (m.ks.any fun p => p.h.sq == x) = false from ?_, Bool.false_or]
        rw [List.any_eq_false]
        intro p hp
        obtain ⟨j, hj⟩ := List.getElem?_of_mem hp
        have := hno j p (by have := (List.getElem?_eq_some_iff.1 hj).1; have := HL.out; omega) hj
        simpa using this)
      clear hno
      go_wp2
      go_ret
      exact ⟨by rw [HV.out]; rfl, HB.out⟩
set_option maxHeartbeats 4000000 in
theorem r_answer (k : Int) (q : Pv) (w : World) : Calls Try.prog 42 #[.agg #[.int .i64 z.c0, .int .i64 m.pa, .int .i64 z.c2, .int .i64 z.c3, .int .i64 m.size, .int .i64 z.c5, .int .i64 z.c6, .int .i64 z.c7, .int .i64 z.c8, .int .i64 z.c9, .int .i64 z.c10, .int .i64 z.c11, .int .i64 z.c12, .int .i64 z.c13, .int .i64 m.sr, .int .i64 m.ds, .int .i64 m.cn, .int .i64 m.cl, .int .i64 m.base, .slice z.A z.n z.c, .slice z.J z.jn z.jc, .int .i64 m.jm.ps.length, .int .i64 m.jm.N, .int .i64 m.jm.T, .int .i64 m.ar, .int .i64 m.pl, .int .i64 m.pd, .bool m.dn], .int .i64 k, .agg #[.int .i64 q.h.kd, .int .i64 q.h.fl, .int .i64 q.h.pa, .int .i64 q.h.sr, .int .i64 q.h.ds, .int .i64 q.h.cn, .int .i64 q.h.sq, .int .i64 q.h.pu, .slice q.A q.n q.c]] w fun en w' => ∃ A c, en = .returned (.slice A 1 c) ∧ SlP (· < w.heap.size) w' A 1 c [(ansV m k q.pk).pk] ∧ Below w.heap.size w w' := by
  obtain ⟨W, hW⟩ : ∃ W, W = (w.alloc (.cells #[.int .i64 z.c0, .int .i64 m.pa, .int .i64 z.c2, .int .i64 z.c3, .int .i64 m.size, .int .i64 z.c5, .int .i64 z.c6, .int .i64 z.c7, .int .i64 z.c8, .int .i64 z.c9, .int .i64 z.c10, .int .i64 z.c11, .int .i64 z.c12, .int .i64 z.c13, .int .i64 m.sr, .int .i64 m.ds, .int .i64 m.cn, .int .i64 m.cl, .int .i64 m.base, .slice z.A z.n z.c, .slice z.J z.jn z.jc, .int .i64 m.jm.ps.length, .int .i64 m.jm.N, .int .i64 m.jm.T, .int .i64 m.ar, .int .i64 m.pl, .int .i64 m.pd, .bool m.dn] 34)).alloc (.cells #[.int .i64 q.h.kd, .int .i64 q.h.fl, .int .i64 q.h.pa, .int .i64 q.h.sr, .int .i64 q.h.ds, .int .i64 q.h.cn, .int .i64 q.h.sq, .int .i64 q.h.pu, .slice q.A q.n q.c] 40) := ⟨_, rfl⟩
  have hb1 : Below w.heap.size w W := by rw [hW]; exact ((Below.refl _ w).alloc (Nat.le_refl _) _).alloc (by simp) _
  have z1 : Bk W 34 w.heap.size [.int .i64 z.c0, .int .i64 m.pa, .int .i64 z.c2, .int .i64 z.c3, .int .i64 m.size, .int .i64 z.c5, .int .i64 z.c6, .int .i64 z.c7, .int .i64 z.c8, .int .i64 z.c9, .int .i64 z.c10, .int .i64 z.c11, .int .i64 z.c12, .int .i64 z.c13, .int .i64 m.sr, .int .i64 m.ds, .int .i64 m.cn, .int .i64 m.cl, .int .i64 m.base, .slice z.A z.n z.c, .slice z.J z.jn z.jc, .int .i64 m.jm.ps.length, .int .i64 m.jm.N, .int .i64 m.jm.T, .int .i64 m.ar, .int .i64 m.pl, .int .i64 m.pd, .bool m.dn] := by rw [hW]; exact (Bk.new w 34 [.int .i64 z.c0, .int .i64 m.pa, .int .i64 z.c2, .int .i64 z.c3, .int .i64 m.size, .int .i64 z.c5, .int .i64 z.c6, .int .i64 z.c7, .int .i64 z.c8, .int .i64 z.c9, .int .i64 z.c10, .int .i64 z.c11, .int .i64 z.c12, .int .i64 z.c13, .int .i64 m.sr, .int .i64 m.ds, .int .i64 m.cn, .int .i64 m.cl, .int .i64 m.base, .slice z.A z.n z.c, .slice z.J z.jn z.jc, .int .i64 m.jm.ps.length, .int .i64 m.jm.N, .int .i64 m.jm.T, .int .i64 m.ar, .int .i64 m.pl, .int .i64 m.pd, .bool m.dn]).alloc _
  have z2 : Bk W 40 (w.heap.size + 1) q.cl := by
    have := Bk.new (w.alloc (.cells #[.int .i64 z.c0, .int .i64 m.pa, .int .i64 z.c2, .int .i64 z.c3, .int .i64 m.size, .int .i64 z.c5, .int .i64 z.c6, .int .i64 z.c7, .int .i64 z.c8, .int .i64 z.c9, .int .i64 z.c10, .int .i64 z.c11, .int .i64 z.c12, .int .i64 z.c13, .int .i64 m.sr, .int .i64 m.ds, .int .i64 m.cn, .int .i64 m.cl, .int .i64 m.base, .slice z.A z.n z.c, .slice z.J z.jn z.jc, .int .i64 m.jm.ps.length, .int .i64 m.jm.N, .int .i64 m.jm.T, .int .i64 m.ar, .int .i64 m.pl, .int .i64 m.pd, .bool m.dn] 34)) 40 q.cl
    rw [World.size_alloc] at this
    rw [hW]; exact this
  have c14 := z1.cell 14 rfl
  have c15 := z1.cell 15 rfl
  have c16 := z1.cell 16 rfl
  have d2 := z2.cell 2 rfl
  have d6 := z2.cell 6 rfl
  rw [hW] at c14 c15 c16 d2 d6
  go_enter Try.func42, Try.ntmps42
  go_wp2_with (first
    | (refine wpList_build_row eltP rfl (.tmp 18) rfl (xs := (ansV m k q.pk).cl) rfl rfl ?_))
  go_ret
  rw [← hW]
  have hs := SlP.one (w0 := w) (w := W) (q := ansV m k q.pk) hb1.size ⟨rfl, rfl, rfl, rfl⟩ (by show (0 : Int) ≤ _; decide)
  have hwz : W.heap.size = w.heap.size + 2 := by rw [hW]; simp
  rw [hwz] at hs
  exact ⟨_, _, rfl, hs, hb1.trans ((ext1 _ _).mono hb1.size)⟩
end
end Go.Proofs.Ytmmjhijgedboiaa
