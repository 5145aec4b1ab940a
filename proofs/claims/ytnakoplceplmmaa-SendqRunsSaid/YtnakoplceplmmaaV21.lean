/- The page's example. -/
import Derived.Test.YtnakoplceplmmaaV20
set_option linter.unusedSimpArgs false
set_option linter.unusedVariables false
namespace Go.Proofs.Ytnakoplceplmmaa
open Go.RowKit Go.Shelf
def exP : List Pp := [⟨[97], false, false⟩, ⟨[], false, true⟩]
def e0 : Sm := .new 5
def e1 : Sm := e0.added exP
def e2 : Sm := e1.send
def e3 : Sm := e2.send
def e4 : Sm := e3.ack 1
def e5 : Sm := e4.ack 0
theorem e0_ok : e0.Ok ∧ e0.Low := Sm.new_ok (by decide) (by decide)
theorem e1_eq : e1 = e0.add exP := rfl
theorem e1_ok : e1.Ok ∧ e1.Low := by rw [e1_eq]; exact Sm.add_ok e0_ok.1 e0_ok.2 (by decide) (by decide)
theorem e2_ok : e2.Ok ∧ e2.Low := Sm.send_ok e1_ok.1 e1_ok.2
theorem e3_ok : e3.Ok ∧ e3.Low := Sm.send_ok e2_ok.1 e2_ok.2
theorem e4_ok : e4.Ok ∧ e4.Low := Sm.ack_ok e3_ok.1 e3_ok.2 1
theorem e5_ok : e5.Ok ∧ e5.Low := Sm.ack_ok e4_ok.1 e4_ok.2 0
/-- A queue whose blocks are all new. -/
def New (w : World) (g : Nat) (m : Sm) (W : World) : Prop := ∃ F, SqC F W g m ∧ (∀ k, F k → w.heap.size ≤ k) ∧ Below w.heap.size w W
theorem New.did {w W W' : World} {g : Nat} {m m' : Sm} (h : New w g m W) (k : ∀ F, SqC F W g m → Did F W g m' W') : New w g m' W' := by
  obtain ⟨F, h1, h2, h3⟩ := h
  obtain ⟨F1, k1, k2, k3⟩ := k F h1
  exact ⟨F1, k1, k3.ge h2 h3.size, h3.trans (k2.below h3.size h2)⟩
theorem New.next {w W W' : World} {g : Nat} {m : Sm} (h : New w g m W) (hb : Below W.heap.size W W') : New w g m W' := by
  obtain ⟨F, h1, h2, h3⟩ := h
  exact ⟨F, h1.below hb, h2, below_on h3 hb⟩
theorem tbl (W : World) (a : Option Addr) : (Instr.buildSlice 27 2 #[(0, .agg #[.slice a 1 1, .bool false, .bool false]), (1, .agg #[.slice none 0 0, .bool false, .bool true])]).run Try.prog W = .ok (.slice (some ⟨W.heap.size, 0, none⟩) 2 2) (W.alloc (.cells #[.slice a 1 1, .bool false, .bool false, .slice none 0 0, .bool false, .bool true] 49)) := by
  obtain ⟨i, hi, hz, hsz, hby⟩ := info_parts eltC.hi
  simp [Instr.buildSlice, run_underlying eltC.ht, sizeOf, typeInfo, zeroValue, hi, hsz, hz, Instr.fill, newRow, Value.cells, zsC]
  rw [show (Array.range 6) = #[0, 1, 2, 3, 4, 5] from by decide]
  simp
theorem New.mk0 {w W : World} {g : Nat} {m : Sm} {F : Nat → Prop} (h : SqC F W g m) (hF : ∀ k, F k → w.heap.size ≤ k) (hb : Below w.heap.size w W) : New w g m W := ⟨F, h, hF, hb⟩
section
variable {w W : World} {g : Nat} {m : Sm}
theorem New.bel (h : New w g m W) : Below w.heap.size w W := by
  obtain ⟨F, h1, h2, h3⟩ := h
  exact h3
theorem n_send (h : New w g m W) : Calls Try.prog 13 #[.pointer (some ⟨g, 0, none⟩)] W fun en W' => en = .returned (.tuple #[.int .i64 m.sent, .bool m.can]) ∧ New w g m.send W' := by
  obtain ⟨F, h1, h2, h3⟩ := h
  refine (q_send h1).mono ?_
  rintro en W' ⟨rfl, F1, k1, k2, k3⟩
  exact ⟨rfl, F1, k1, k3.ge h2 h3.size, h3.trans (k2.below h3.size h2)⟩
theorem n_ack (h : New w g m W) (ok : m.Ok) (s : Int) : Calls Try.prog 15 #[.pointer (some ⟨g, 0, none⟩), .int .i64 s] W fun en W' => en = .returned (.bool (m.lacks s)) ∧ New w g (m.ack s) W' := by
  obtain ⟨F, h1, h2, h3⟩ := h
  refine (q_ack h1 ok s).mono ?_
  rintro en W' ⟨rfl, F1, k1, k2, k3⟩
  exact ⟨rfl, F1, k1, k3.ge h2 h3.size, h3.trans (k2.below h3.size h2)⟩
theorem n_low (h : New w g m W) : Calls Try.prog 26 #[.pointer (some ⟨g, 0, none⟩)] W fun en W' => en = .returned (.int .i64 m.lo) ∧ W = W' := by
  obtain ⟨F, h1, h2, h3⟩ := h
  exact q_low h1
theorem n_next (h : New w g m W) : Calls Try.prog 29 #[.pointer (some ⟨g, 0, none⟩)] W fun en W' => en = .returned (.int .i64 m.nx) ∧ W = W' := by
  obtain ⟨F, h1, h2, h3⟩ := h
  exact q_next h1
theorem n_total (h : New w g m W) : Calls Try.prog 25 #[.pointer (some ⟨g, 0, none⟩)] W fun en W' => en = .returned (.int .i64 m.L.length) ∧ New w g m W' := by
  obtain ⟨F, h1, h2, h3⟩ := h
  refine (q_total h1).mono ?_
  rintro en W' ⟨rfl, hb⟩
  exact ⟨rfl, F, h1.below hb, h2, below_on h3 hb⟩
theorem n_lacks (h : New w g m W) (s : Int) : Calls Try.prog 30 #[.pointer (some ⟨g, 0, none⟩), .int .i64 s] W fun en W' => en = .returned (.bool (m.lacks s)) ∧ New w g m W' := by
  obtain ⟨F, h1, h2, h3⟩ := h
  refine (q_lacks h1 s).mono ?_
  rintro en W' ⟨rfl, hb⟩
  exact ⟨rfl, F, h1.below hb, h2, below_on h3 hb⟩
theorem n_lack (h : New w g m W) (ok : m.Ok) (x : Int) : Calls Try.prog 28 #[.pointer (some ⟨g, 0, none⟩), .int .i64 x] W fun en W' => ∃ A n c, en = .returned (.slice A n c) ∧ n = (m.all.take x.toNat).length ∧ New w g m W' := by
  obtain ⟨F, h1, h2, h3⟩ := h
  refine (law_lacking (fun W' hW => q_lacking (h1.below hW)) (by have := Sm.all_max ok; have := ok.m2; omega) x).mono ?_
  rintro en W' ⟨A, n, c, rfl, hl, hb⟩
  exact ⟨A, n, c, rfl, by have := hl.1; rw [intV_len] at this; exact this.symm, F, h1.below hb, h2, below_on h3 hb⟩
theorem n_add {P : Option Addr} {pn pc : Nat} {ps : List Pp} {b : Nat} (h : New w g m W) (hp : SlX (b ≤ ·) W P pn pc ps) (hb : ∃ F, SqC F W g m ∧ (∀ k, F k → w.heap.size ≤ k ∧ k < b)) (hbg : m.L.length + ps.length ≤ 1000000000) :
    Calls Try.prog 11 #[.pointer (some ⟨g, 0, none⟩), .slice P pn pc] W fun en W' => en = .returned (.int .i64 (m.refuse ps.length)) ∧ New w g (m.added ps) W' := by
  obtain ⟨F, h1, h2⟩ := hb
  have h3 := h.bel
  refine (q_add h1 hp (fun j hj hf => by have := h2 j hf; omega) hbg).mono ?_
  rintro en W' ⟨rfl, F1, k1, k2, k3⟩
  exact ⟨rfl, F1, k1, k3.ge (fun k hk => (h2 k hk).1) h3.size, h3.trans (k2.below h3.size (fun k hk => (h2 k hk).1))⟩
end
theorem ex_list (W : World) (a : Option Addr) (b : Nat) (ha : ∀ k, BlkOf a k → b ≤ k) (hb : b ≤ W.heap.size) (h : Rd .u8 W a 1 1 [97]) : SlX (b ≤ ·) (W.alloc (.cells #[.slice a 1 1, .bool false, .bool false, .slice none 0 0, .bool false, .bool true] 49)) (some ⟨W.heap.size, 0, none⟩) 2 2 exP := by
  have hl := LstR.made 3 W 49 #[.slice a 1 1, .bool false, .bool false, .slice none 0 0, .bool false, .bool true] 2 2 (flat Pc.cl [⟨a, 1, 1, [97], false, false⟩, ⟨none, 0, 0, [], false, true⟩]) rfl (Nat.le_refl _) (Nat.le_refl 6) (by decide) (flat_wf Pc.cl_one _) (fun i hi => by simp [flat, Pc.cl])
  have hb2 : Below W.heap.size W (W.alloc (.cells #[.slice a 1 1, .bool false, .bool false, .slice none 0 0, .bool false, .bool true] 49)) := (Below.refl _ _).alloc (Nat.le_refl _) _
  refine ⟨[⟨a, 1, 1, [97], false, false⟩, ⟨none, 0, 0, [], false, true⟩], rfl, hl.rd, fun _ k hk => ?_, rfl, fun q hq => ?_⟩
  · obtain ⟨ad, he, rfl⟩ := hk
    injection he with he
    subst he
    exact hb
  · simp only [List.mem_cons, List.not_mem_nil, or_false] at hq
    rcases hq with rfl | rfl
    · exact ⟨h.below hb2, (by show 1 ≤ 65536; omega), fun _ => ha⟩
    · exact ⟨Rd.nil _ _, Nat.zero_le _, fun hn => absurd hn (Nat.lt_irrefl 0)⟩
set_option maxRecDepth 100000 in
set_option maxHeartbeats 8000000 in
theorem awake_any (w : World) : Calls Try.prog 8 #[] w fun en w' => en = .returned (.bool true) ∧ Below w.heap.size w w' := by
  have hbl := tbl
  go_enter Try.func8, Try.ntmps8
  go_wp2_with fail
  refine (q_new (p := 5) (by decide) w).mono ?_
  rintro e w1 ⟨rfl, hj1, hb1⟩
  have hc1 : (convert 47 47 (.slice (some ⟨w1.heap.size, 0, none⟩) 1 1)).run Try.prog (w1.alloc (.cells #[.int .u8 97] 5)) = .ok (.slice (some ⟨w1.heap.size, 0, none⟩) 1 1) (w1.alloc (.cells #[.int .u8 97] 5 (1, 2))) := Lib.run_convert_bytes_const (P := Try.prog) w1 47 5 #[.int .u8 97] 1 1 Try.underlying47 Try.underlying5
  have HA1 : Hid (Calls Try.prog 11 #[.pointer (some ⟨w.heap.size, 0, none⟩), .slice (some ⟨w1.heap.size + 1, 0, none⟩) 2 2] ((w1.alloc (.cells #[.int .u8 97] 5 (1, 2))).alloc (.cells #[.slice (some ⟨w1.heap.size, 0, none⟩) 1 1, .bool false, .bool false, .slice none 0 0, .bool false, .bool true] 49)) fun en w' => en = .returned (.int .i64 0) ∧ New w w.heap.size e1 w') := Lib.hid (by
    have hba : Below w1.heap.size w1 (w1.alloc (.cells #[.int .u8 97] 5 (1, 2))) := (Below.refl _ _).alloc (Nat.le_refl _) _
    have hr1 : Rd .u8 (w1.alloc (.cells #[.int .u8 97] 5 (1, 2))) (some ⟨w1.heap.size, 0, none⟩) 1 1 [97] := Rd.litF w1 5 [97] (1, 2) (wf_of_ok (by decide)) (by decide)
    have hsl := ex_list _ _ w1.heap.size (by rintro k ⟨ad, he, rfl⟩; injection he with he; subst he; exact Nat.le_refl _) hba.size hr1
    rw [World.size_alloc] at hsl
    have hbp := hba.alloc hba.size (.cells #[.slice (some ⟨w1.heap.size, 0, none⟩) 1 1, .bool false, .bool false, .slice none 0 0, .bool false, .bool true] 49)
    have hj := hj1.below hbp
    have hlt := hj1.lt _ rfl
    exact n_add (m := e0) (b := w1.heap.size) ⟨_, hj, fun k hk => by subst hk; exact Nat.le_refl _, below_on hb1 hbp⟩ hsl ⟨_, hj, fun k hk => by subst hk; exact ⟨Nat.le_refl _, hlt⟩⟩ (by decide))
  clear hj1 hb1
  go_wp2_with fail
  refine HA1.out.mono ?_
  rintro e w2 ⟨rfl, hN2⟩
  have HN2 := Lib.hid (n_send hN2)
  clear hN2 HA1 hc1 hbl
  go_wp2_with fail
  refine HN2.out.mono ?_
  rintro e w3 ⟨rfl, hN3⟩
  have v1 : e1.sent = 0 := rfl
  have v2 : e1.can = true := rfl
  rw [v1, v2]
  have HN3 := Lib.hid (n_send hN3)
  clear hN3 HN2 v1 v2
  go_wp2_with fail
  refine HN3.out.mono ?_
  rintro e w4 ⟨rfl, hN4⟩
  have v1 : e1.send.sent = 1 := rfl
  have v2 : e1.send.can = true := rfl
  rw [v1, v2]
  have HN4 := Lib.hid (n_ack (m := e3) hN4 e3_ok.1 1)
  clear hN4 HN3 v1 v2
  go_wp2_with fail
  refine HN4.out.mono ?_
  rintro e w5 ⟨rfl, hN5⟩
  have v1 : e3.lacks 1 = true := rfl
  rw [v1]
  have HL5 := Lib.hid (n_low (m := e4) hN5)
  have HK5 := Lib.hid (n_lacks (m := e4) hN5 0)
  clear hN5 HN4 v1
  have v1 : e4.lo = 0 := rfl
  have v2 : e4.lacks 0 = true := rfl
  have V1 := Lib.hid (And.intro v1 v2)
  clear v1 v2
  go_wp2_with fail
  refine HL5.out.mono ?_
  rintro e w6 ⟨rfl, rfl⟩
  rw [V1.out.1]
  go_wp2_with fail
  refine HK5.out.mono ?_
  rintro e w7 ⟨rfl, hN7⟩
  rw [V1.out.2]
  have HN7 := Lib.hid (n_ack (m := e4) hN7 e4_ok.1 0)
  clear hN7 HL5 HK5
  go_wp2_with fail
  refine HN7.out.mono ?_
  rintro e w8 ⟨rfl, hN8⟩
  rw [V1.out.2]
  have HL8 := Lib.hid (n_low (m := e5) hN8)
  have HT8 := Lib.hid (n_total (m := e5) hN8)
  have v1 : e5.lo = 2 := rfl
  have v2 : e5.L.length = 2 := rfl
  have V2 := Lib.hid (And.intro v1 v2)
  clear hN8 HN7 v1 v2
  go_wp2_with fail
  refine HL8.out.mono ?_
  rintro e w9 ⟨rfl, rfl⟩
  rw [V2.out.1]
  go_wp2_with fail
  refine HT8.out.mono ?_
  rintro e w10 ⟨rfl, hN10⟩
  rw [V2.out.2]
  have HB := Lib.hid hN10.bel
  clear hN10 HL8 HT8
  go_wp2
  go_ret
  exact ⟨rfl, HB.out⟩
end Go.Proofs.Ytnakoplceplmmaa
