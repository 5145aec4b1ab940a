/- Calls that turn an account. -/
import Derived.Test.YtinblipcepagaaaC1
set_option linter.unusedSimpArgs false
set_option linter.unusedVariables false
namespace Go.Proofs.Ytinblipcepagaaa
open Go.RowKit Go.Shelf
section
variable {w w' : World} {g : Nat} {m : Cm}
theorem Did.box (h : CrC w g m) (j : Nat) (v : Value) {m' : Cm} (hs : [.bool true, .int .i64 m.f, .int .i64 m.p, .int .i64 m.s, .int .i64 m.t].set j v = [.bool true, .int .i64 m'.f, .int .i64 m'.p, .int .i64 m'.s, .int .i64 m'.t]) (ok : m'.Ok) : Did w g m' (w.setCell ⟨g, j, none⟩ v) := by
  have hb := h.1.set j v
  rw [hs] at hb
  exact ⟨⟨hb, ok⟩, St.setCell (F := (· = g)) w (a := ⟨g, j, none⟩) rfl _⟩
theorem k_pull (h : CrC w g m) (n : Int) : Calls Try.prog 28 #[.pointer (some ⟨g, 2, none⟩), .int .i64 n] w fun e w' => e = .returned (.tuple #[.int .i64 (m.more n), .int .i64 (pullE n)]) ∧ Did w g (m.pull n) w' := by
  by_cases hn : n < 0 ∨ 1152921504606846976 < n
  · have HV := Lib.hid (Cm.more_no (m := m) hn)
    have H := Lib.hid h
    clear h
    rcases (by omega : n < 0 ∨ (0 ≤ n ∧ 1152921504606846976 < n)) with hn0 | ⟨hn0, hn1⟩
    all_goals
      clear hn
      go_enter Try.func28, Try.ntmps28
      go_wp2
      go_ret2
      exact ⟨by rw [HV.out.1, HV.out.2.1]; rfl, by rw [HV.out.2.2]; exact Did.same H.out⟩
  · have h0 : 0 ≤ n := by omega
    have h1 : n ≤ 1152921504606846976 := by omega
    have c2 := h.1.cell 2 rfl
    have f2 := h.1.free 2
    have hs0 := h.2.s0
    have hs1 := h.2.s1
    have hp1 := h.2.p1
    have h3 : (0 : Int) ≤ m.p := by omega
    have hok := Cm.pull_ok h.2 n
    have HD := Lib.hid (Did.box h 2 (.int .i64 (m.p + m.more n)) (m' := m.pull n) rfl hok)
    clear h hn hok hs0 hs1
    go_enter Try.func28, Try.ntmps28
    go_wp2
    · rename_i hlt
      have HV := Lib.hid (Cm.more_old (m := m) h0 h1 (by omega))
      rw [HV.out.1, Int.add_zero] at HD
      go_ret2
      exact ⟨by rw [HV.out.1, HV.out.2]; rfl, HD.out⟩
    · rename_i hlt
      have HV := Lib.hid (Cm.more_new (m := m) h0 h1 (by omega))
      rw [HV.out.1] at HD
      go_ret2
      exact ⟨by rw [HV.out.1, HV.out.2]; rfl, HD.out⟩
theorem k_spend (h : CrC w g m) (n : Int) : Calls Try.prog 25 #[.pointer (some ⟨g, 2, none⟩), .int .i64 n] w fun e w' => (∃ x, e = .returned (.tuple #[.int .i64 x, .int .i64 (m.spendE n)])) ∧ Did w g (m.spend n) w' := by
  have HC := Lib.hid h
  by_cases h0 : n < 0
  · have HV : Hid (m.spendE n = 1 ∧ m.spend n = m) := Lib.hid ⟨by unfold Cm.spendE; rw [if_pos h0], by unfold Cm.spend; rw [if_pos (.inl h0)]⟩
    clear h
    go_enter Try.func25, Try.ntmps25
    go_wp2
    go_ret2
    exact ⟨⟨_, by rw [HV.out.1]; rfl⟩, by rw [HV.out.2]; exact Did.same HC.out⟩
  · have HL := Lib.hid (k_left h)
    by_cases h1 : m.p - m.s < n
    · have HV : Hid (m.spendE n = 140 ∧ m.spend n = m) := Lib.hid ⟨by unfold Cm.spendE; rw [if_neg h0, if_pos h1], by unfold Cm.spend; rw [if_pos (.inr h1)]⟩
      clear h
      go_enter Try.func25, Try.ntmps25
      go_wp2_with (go_at_call 29; refine HL.out.mono ?_; rintro e w1 ⟨rfl, hb⟩; have HB := Lib.hid hb; clear hb)
      go_ret2
      exact ⟨⟨_, by rw [HV.out.1]; rfl⟩, by rw [HV.out.2]; exact ⟨HC.out.below HB.out, St.ext HB.out⟩⟩
    · have HV : Hid (m.spendE n = 0 ∧ m.spend n = ⟨m.f, m.p, m.s + n, m.t⟩) := Lib.hid ⟨by unfold Cm.spendE; rw [if_neg h0, if_neg h1], by unfold Cm.spend; rw [if_neg (by omega)]⟩
      have hok := Cm.spend_ok h.2 n
      have hb1 := h.2.s0
      have hb2 := h.2.s1
      have hb3 := h.2.p1
      clear h
      go_enter Try.func25, Try.ntmps25
      go_wp2_with fail
      refine HL.out.mono ?_
      rintro e w1 ⟨rfl, hb⟩
      have h' := HC.out.below hb
      have c3 := h'.1.cell 3 rfl
      have f3 := h'.1.free 3
      rw [HV.out.2] at hok
      have hD := Did.box h' 3 (.int .i64 (m.s + n)) (m' := ⟨m.f, m.p, m.s + n, m.t⟩) rfl hok
      have HL2 := Lib.hid (k_left hD.1)
      have HD := Lib.hid (And.intro hD hb)
      clear hD hb h' hok HL
      go_wp2_with fail
      refine HL2.out.mono ?_
      rintro e w2 ⟨rfl, hb2⟩
      have HB := Lib.hid hb2
      clear hb2
      go_wp2
      go_ret2
      exact ⟨⟨_, by rw [HV.out.1]; rfl⟩, by rw [HV.out.2]; exact ⟨HD.out.1.1.below HB.out, ((St.ext HD.out.2).trans HD.out.1.2 (Gr.refl _ _)).trans (St.ext HB.out) (Gr.refl _ _)⟩⟩
theorem k_timer (h : CrC w g m) (ht : m.t < 1000000) : Calls Try.prog 26 #[.pointer (some ⟨g, 2, none⟩), .int .i64 1] w fun e w' => e = .returned (.tuple #[.int .i64 (m.t + 1), .int .i64 0]) ∧ Did w g m.tick w' := by
  have c4 := h.1.cell 4 rfl
  have f4 := h.1.free 4
  have hb1 := h.2.t0
  have HD := Lib.hid (Did.box h 4 (.int .i64 (m.t + 1)) (m' := m.tick) rfl (Cm.tick_ok h.2 ht))
  have c4' : (w.setCell ⟨g, 4, none⟩ (.int .i64 (m.t + 1))).cell? ⟨g, 4, none⟩ = some (.int .i64 (m.t + 1)) := HD.out.1.1.cell 4 rfl
  clear h
  go_enter Try.func26, Try.ntmps26
  go_wp2
  go_ret2
  exact ⟨rfl, HD.out⟩
theorem c_pull (h : CrC w g m) (n : Int) : Calls Try.prog 15 #[.pointer (some ⟨g, 0, none⟩), .int .i64 n] w fun e w' => e = .returned (.tuple #[.int .i64 (m.more n), .int .i64 (pullE n)]) ∧ Did w g (m.pull n) w' := by
  have HM := Lib.hid (c_made h)
  have HK := Lib.hid (k_pull h n)
  have HC : Hid (Calls Try.prog 24 #[.pointer (some ⟨g, 0, none⟩), .func (.func 28) #[] #[], .int .i64 n] w fun e w' => e = .returned (.tuple #[.int .i64 (m.more n), .int .i64 (pullE n)]) ∧ Did w g (m.pull n) w') := Lib.hid (by
    clear h
    go_enter Try.func24, Try.ntmps24
    go_wp2_with (go_at_call 27; refine HM.out.mono ?_; rintro e w' ⟨rfl, rfl⟩)
    refine HK.out.mono ?_
    rintro e w1 ⟨rfl, hd⟩
    have HD := Lib.hid hd
    clear hd
    go_wp2
    go_ret2
    exact ⟨rfl, HD.out⟩)
  clear h
  go_enter Try.func15, Try.ntmps15
  go_wp2_with fail
  refine HC.out.mono ?_
  rintro e w1 ⟨rfl, hd⟩
  have HD := Lib.hid hd
  clear hd
  go_wp2
  go_ret2
  exact ⟨rfl, HD.out⟩
theorem c_spend (h : CrC w g m) (n : Int) : Calls Try.prog 9 #[.pointer (some ⟨g, 0, none⟩), .int .i64 n] w fun e w' => e = .returned (.int .i64 (m.spendE n)) ∧ Did w g (m.spend n) w' := by
  have HM := Lib.hid (c_made h)
  have HK := Lib.hid (k_spend h n)
  have HC : Hid (Calls Try.prog 24 #[.pointer (some ⟨g, 0, none⟩), .func (.func 25) #[] #[], .int .i64 n] w fun e w' => (∃ x, e = .returned (.tuple #[.int .i64 x, .int .i64 (m.spendE n)])) ∧ Did w g (m.spend n) w') := Lib.hid (by
    clear h
    go_enter Try.func24, Try.ntmps24
    go_wp2_with (go_at_call 27; refine HM.out.mono ?_; rintro e w' ⟨rfl, rfl⟩)
    refine HK.out.mono ?_
    rintro e w1 ⟨⟨x, rfl⟩, hd⟩
    have HD := Lib.hid hd
    clear hd
    go_wp2
    go_ret2
    exact ⟨⟨x, rfl⟩, HD.out⟩)
  clear h
  go_enter Try.func9, Try.ntmps9
  go_wp2_with fail
  refine HC.out.mono ?_
  rintro e w1 ⟨⟨x, rfl⟩, hd⟩
  have HD := Lib.hid hd
  clear hd
  go_wp2
  go_ret
  exact ⟨rfl, HD.out⟩
theorem c_timer (h : CrC w g m) (ht : m.t < 1000000) : Calls Try.prog 11 #[.pointer (some ⟨g, 0, none⟩)] w fun e w' => e = .returned (.int .i64 (m.t + 1)) ∧ Did w g m.tick w' := by
  have HM := Lib.hid (c_made h)
  have HK := Lib.hid (k_timer h ht)
  have HC : Hid (Calls Try.prog 24 #[.pointer (some ⟨g, 0, none⟩), .func (.func 26) #[] #[], .int .i64 1] w fun e w' => e = .returned (.tuple #[.int .i64 (m.t + 1), .int .i64 0]) ∧ Did w g m.tick w') := Lib.hid (by
    clear h ht
    go_enter Try.func24, Try.ntmps24
    go_wp2_with (go_at_call 27; refine HM.out.mono ?_; rintro e w' ⟨rfl, rfl⟩)
    refine HK.out.mono ?_
    rintro e w1 ⟨rfl, hd⟩
    have HD := Lib.hid hd
    clear hd
    go_wp2
    go_ret2
    exact ⟨rfl, HD.out⟩)
  clear h ht
  go_enter Try.func11, Try.ntmps11
  go_wp2_with fail
  refine HC.out.mono ?_
  rintro e w1 ⟨rfl, hd⟩
  have HD := Lib.hid hd
  clear hd
  go_wp2
  go_ret
  exact ⟨rfl, HD.out⟩
theorem c_take (h : CrC w g m) (n : Int) : Calls Try.prog 12 #[.pointer (some ⟨g, 0, none⟩), .int .i64 n] w fun e w' => e = .returned (.int .i64 (m.taken n)) ∧ Did w g (m.take n) w' := by
  have HM := Lib.hid (c_made h)
  have HC := Lib.hid h
  by_cases h0 : n < 1
  · have HV := Lib.hid (And.intro (Cm.taken_no (m := m) h0) (Cm.take_no (m := m) h0))
    clear h
    go_enter Try.func12, Try.ntmps12
    go_wp2_with (go_at_call 27; refine HM.out.mono ?_; rintro e w' ⟨rfl, rfl⟩)
    go_ret
    exact ⟨by rw [HV.out.1]; rfl, by rw [HV.out.2]; exact Did.same HC.out⟩
  · have c1 := h.1.cell 1 rfl
    have f1 := h.1.free 1
    have hb0 := h.2.f0
    have hb1 := h.2.f1
    have h1 : 1 ≤ n := by omega
    have HD := Lib.hid (Did.box h 1 (.int .i64 (m.f - m.taken n)) (m' := m.take n) rfl (Cm.take_ok h.2 n))
    clear h
    go_enter Try.func12, Try.ntmps12
    go_wp2_with (go_at_call 27; refine HM.out.mono ?_; rintro e w' ⟨rfl, rfl⟩)
    all_goals
      first
        | (have HV := Lib.hid (Cm.taken_all (m := m) h1 (by omega)))
        | (have HV := Lib.hid (Cm.taken_some (m := m) h1 (by omega)))
      rw [HV.out] at HD
      try rw [Int.sub_self] at HD
      go_ret
      exact ⟨by rw [HV.out]; rfl, HD.out⟩
end
end Go.Proofs.Ytinblipcepagaaa
