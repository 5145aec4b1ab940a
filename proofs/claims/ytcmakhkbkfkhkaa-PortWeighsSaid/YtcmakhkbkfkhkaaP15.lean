/- The law of weighing. -/
import Derived.Test.YtcmakhkbkfkhkaaP14
set_option linter.unusedSimpArgs false
set_option linter.unusedVariables false
namespace Go.Proofs.Ytcmakhkbkfkhkaa
open Go.RowKit Go.Shelf

theorem hv_chk {i : Int} (h0 : 0 ≤ i) (h1 : i ≤ 100000) : (hv i).chk = true ∧ (hv i).heavy = true := by
  constructor
  · unfold Pk.chk hv chkB plB nmB kdB dtB witB hasB
    simp
    omega
  · rfl
def nk (i : Int) : Pk := ⟨⟨3, 0, 0, 2, 1, 1, i, 0⟩, []⟩
theorem nk_chk {i : Int} (h0 : 0 ≤ i) (h1 : i ≤ 100000) : (nk i).chk = true ∧ (nk i).heavy = false := by
  constructor
  · unfold Pk.chk nk chkB plB nmB kdB brB witB
    simp
    omega
  · rfl
/-- What the law keeps of a port. -/
structure WI (m : AM) (w a b r : Nat) (B : Int) : Prop where
  la : m.low.length = a
  lb : m.high.length = b
  lx : ∀ x ∈ m.low, 0 < x.xs.length
  hx : ∀ x ∈ m.high, x.xs.length = 0
  lr : m.lr = 20
  hr : m.hr = 200
  wt : m.wt = w
  ru : m.run = r
  ok : m.ok B
theorem wi_new (w : Nat) : WI (AM.new 20 200 w) w 0 0 0 0 := ⟨rfl, rfl, by simp [AM.new], by simp [AM.new], rfl, rfl, rfl, rfl, AM.ok_new _ _ _⟩
section
variable {m : AM} {w a b r : Nat} {B : Int}
theorem wi_heavy (h : WI m w a b r B) {i : Int} (ha : a < 20) (h0 : 0 ≤ i) (h1 : i ≤ 100000) : WI (m.nx (hv i)) w (a + 1) b r (B + 1) := by
  obtain ⟨hc, hh⟩ := hv_chk h0 h1
  have hv1 : m.vd (hv i) = 1 := by
    unfold AM.vd
    rw [if_neg (by simp [hc]), hh]
    exact if_pos (by show m.low.length < m.lr; rw [h.la, h.lr]; exact ha)
  have hb : m.base (hv i) = m.put false (m.low ++ [hv i]) := by unfold AM.base; rw [if_pos hv1, hh]; rfl
  refine ⟨?_, ?_, ?_, ?_, ?_, ?_, ?_, ?_, AM.ok_nx h.ok _⟩
  all_goals
    unfold AM.nx
    dsimp only
    rw [hb]
  · show (m.low ++ [hv i]).length = _
    rw [List.length_append, h.la]; rfl
  · exact h.lb
  · intro x hx
    rcases List.mem_append.1 hx with hx | hx
    · exact h.lx x hx
    · rw [List.mem_singleton.1 hx]; exact Nat.one_pos
  · exact h.hx
  · exact h.lr
  · exact h.hr
  · exact h.wt
  · exact h.ru
theorem wi_nack (h : WI m w a b r B) {i : Int} (hb : b < 200) (h0 : 0 ≤ i) (h1 : i ≤ 100000) : WI (m.nx (nk i)) w a (b + 1) r (B + 1) := by
  obtain ⟨hc, hh⟩ := nk_chk h0 h1
  have hv1 : m.vd (nk i) = 1 := by
    unfold AM.vd
    rw [if_neg (by simp [hc]), hh]
    exact if_pos (by show m.high.length < m.hr; rw [h.lb, h.hr]; exact hb)
  have hb : m.base (nk i) = m.put true (m.high ++ [nk i]) := by unfold AM.base; rw [if_pos hv1, hh]; rfl
  refine ⟨?_, ?_, ?_, ?_, ?_, ?_, ?_, ?_, AM.ok_nx h.ok _⟩
  all_goals
    unfold AM.nx
    dsimp only
    rw [hb]
  · exact h.la
  · show (m.high ++ [nk i]).length = _
    rw [List.length_append, h.lb]; rfl
  · exact h.lx
  · intro x hx
    rcases List.mem_append.1 hx with hx | hx
    · exact h.hx x hx
    · rw [List.mem_singleton.1 hx]; rfl
  · exact h.lr
  · exact h.hr
  · exact h.wt
  · exact h.ru
theorem wi_light (h : WI m w a b r B) (ha : 0 < a) (hb : 0 < b) (hr : r < w) : ∃ x l, m.sel m.hiB = x :: l ∧ x.xs.length = 0 ∧ WI (m.srv 1 m.hiB x l) w a (b - 1) (r + 1) (B + 1) := by
  have hi : m.hiB = true := by
    unfold AM.hiB; rw [h.la, h.lb, h.ru, h.wt]; simp; omega
  rw [hi]
  cases hm : m.high with
  | nil => have := h.lb; rw [hm] at this; simp at this; omega
  | cons x l =>
    refine ⟨x, l, hm, h.hx x (by rw [hm]; exact List.mem_cons_self), ?_⟩
    have e : m.srv 1 true x l = { m.took true l with ct := up m.ct 0 (m.ct 0 + 1) } := by simp [AM.srv]
    rw [e]
    have hn : m.nrun true = r + 1 := by unfold AM.nrun; rw [h.la, if_pos (by simp; exact ha), h.ru]
    have hlb := h.lb
    rw [hm] at hlb
    refine ⟨h.la, ?_, h.lx, fun y hy => h.hx y (by rw [hm]; exact List.mem_cons_of_mem _ hy), h.lr, h.hr, h.wt, hn, ok_up h.ok 0⟩
    show l.length = b - 1
    simp at hlb; omega
theorem wi_dense (h : WI m w a b r B) (ha : 0 < a) (hr : r = w) (hw : 0 < w) : ∃ x l, m.sel m.hiB = x :: l ∧ 0 < x.xs.length ∧ WI (m.srv 1 m.hiB x l) w (a - 1) b 0 (B + 1) := by
  have hi : m.hiB = false := by
    unfold AM.hiB; rw [h.la, h.ru, h.wt]; simp; omega
  rw [hi]
  cases hm : m.low with
  | nil => have := h.la; rw [hm] at this; simp at this; omega
  | cons x l =>
    refine ⟨x, l, hm, h.lx x (by rw [hm]; exact List.mem_cons_self), ?_⟩
    have e : m.srv 1 false x l = { m.took false l with ct := up m.ct 0 (m.ct 0 + 1) } := by simp [AM.srv]
    rw [e]
    have hn : m.nrun false = 0 := by simp [AM.nrun]
    have hla := h.la
    rw [hm] at hla
    refine ⟨?_, h.lb, fun y hy => h.lx y (by rw [hm]; exact List.mem_cons_of_mem _ hy), h.hx, h.lr, h.hr, h.wt, hn, ok_up h.ok 0⟩
    show l.length = a - 1
    simp at hla; omega
end
set_option maxHeartbeats 4000000 in
set_option maxRecDepth 100000 in
theorem lawWeighs (a b : Nat) (w : World) (ha : a < 256) (hb : b < 256) :
    Calls Try.prog 5 #[.int .u8 a, .int .u8 b] w fun e w' => e = .returned (.bool true) ∧ Below w.heap.size w w' := by
  have e1 : (a : Int).tmod 8 = ((a % 8 : Nat) : Int) := by rw [Int.tmod_eq_emod_of_nonneg (by omega)]; simp
  have e2 : (b : Int).tmod 10 = ((b % 10 : Nat) : Int) := by rw [Int.tmod_eq_emod_of_nonneg (by omega)]; simp
  have hwt : a % 8 < 8 := Nat.mod_lt _ (by decide)
  have hnn : b % 10 < 10 := Nat.mod_lt _ (by decide)
  generalize a % 8 = wt at *
  generalize b % 10 = n at *
  go_enter Try.func5, Try.ntmps5
  obtain ⟨W, hW⟩ : ∃ W : Nat, (1 + (wt : Int)) = W := ⟨1 + wt, by omega⟩
  have hW1 : 1 ≤ W := by omega
  have hW8 : W ≤ 8 := by omega
  go_wp2_with fail
  clear hW hwt e1 e2
  refine (ptw_new (w0 := w) 20 200 W w (Below.refl _ _) (by decide) (by decide) (by decide) (by decide) hW1 (by omega)).mono ?_
  rintro e w1 ⟨rfl, F1, hp1, -, -⟩
  have HP1 := Lib.hid hp1
  clear hp1
  go_wp2_with fail
  refine (p_awake w1).mono ?_
  rintro e w2 ⟨rfl, hb2⟩
  have HP2 := Lib.hid (HP1.out.below hb2)
  clear HP1 hb2
  go_wp2
  go_loopw [9] (fun v wr => ∃ (i : Nat) (F : Nat → Prop) (m : AM), v = .int .i64 i ∧ i ≤ 20 ∧ PtW F w wr w.heap.size m ∧ WI m W i 0 0 i) (fun v _ => 20 - (intOf v).toNat)
  case atStart => exact ⟨0, F1, _, rfl, by decide, HP2.out, wi_new W⟩
  case round =>
    obtain ⟨i, F, m, rfl, hi, hp, hm⟩ := hrel
    by_cases hlt : i < 20
    · have HPI := Lib.hid hp
      have HM := Lib.hid hm
      clear hp hm
      have hlt' : (i : Int) < 20 := by omega
      go_wp2_with fail
      refine (p_hv i _).mono ?_
      rintro e w3 ⟨q, rfl, hk, hr, hb⟩
      have HPut := Lib.hid (ptw_put (HPI.out.below hb) (hr F HPI.out.bd) HM.out.ok (by omega))
      have HK := Lib.hid hk
      clear hk hr
      go_wp2_with fail
      refine HPut.out.mono ?_
      rintro e w4 ⟨q', F4, rfl, hk4, hr4, hd4⟩
      have HD := Lib.hid hd4.pt
      clear hk4 hr4 hd4 HPut hb
      go_wp2
      go_roundw
      case rel => exact ⟨i + 1, F4, _, by go_num, by omega, HD.out, by rw [HK.out]; have := wi_heavy HM.out hlt (i := i) (by omega) (by omega); simpa using this⟩
      case measure => simp [intOf]; omega
    · have hge : (20 : Int) ≤ i := by omega
      have HPI := Lib.hid hp
      have HM : Hid (WI m W 20 0 0 20) := Lib.hid (by obtain rfl : i = 20 := by omega
                                                      exact hm)
      clear hp hm HP2 hlt hi
      go_wp2
      go_loopw [10] (fun v wr => ∃ (i : Nat) (F : Nat → Prop) (m : AM), v = .int .i64 i ∧ i ≤ 200 ∧ PtW F w wr w.heap.size m ∧ WI m W 20 i 0 (20 + i)) (fun v _ => 200 - (intOf v).toNat)
      case atStart => exact ⟨0, F, m, rfl, by decide, HPI.out, HM.out⟩
      case round =>
        obtain ⟨i, F, m, rfl, hi, hp, hm⟩ := hrel
        by_cases hlt : i < 200
        · have HPI := Lib.hid hp
          have HM := Lib.hid hm
          clear hp hm
          have hlt' : (i : Int) < 200 := by omega
          go_wp2_with fail
          have HPut := Lib.hid (ptw_put (q := ⟨(nk i).h, none, 0, 0, []⟩) HPI.out ⟨Rd.nil _ _, by show 0 ≤ 1100; decide, by show (0 : Int) ≤ 9223372036854775807; decide, fun h => absurd h (by show ¬ (0 < 0); decide)⟩ HM.out.ok (by omega))
          refine HPut.out.mono ?_
          rintro e w4 ⟨q', F4, rfl, hk4, hr4, hd4⟩
          have HD := Lib.hid hd4.pt
          clear hk4 hr4 hd4 HPut
          go_wp2
          go_roundw
          case rel => exact ⟨i + 1, F4, _, by go_num, by omega, HD.out, by rw [show (20 : Int) + ((i + 1 : Nat) : Int) = 20 + i + 1 by omega]; exact wi_nack HM.out hlt (i := i) (by omega) (by omega)⟩
          case measure => simp [intOf]; omega
        · have hge2 : (200 : Int) ≤ i := by omega
          have HPI := Lib.hid hp
          have HM : Hid (WI m W 20 200 0 220) := Lib.hid (by obtain rfl : i = 200 := by omega
                                                             exact hm)
          clear hp hm hlt hi
          clear ha hb
          go_wp2
          go_loopw [11] (fun v wr => ∃ (i hb : Nat) (F : Nat → Prop) (m : AM), v = .int .i64 i ∧ i ≤ n ∧ hb + i * W = 200 ∧ PtW F w wr w.heap.size m ∧ WI m W (20 - i) hb 0 (220 + i * 9)) (fun v _ => n - (intOf v).toNat)
          case atStart => exact ⟨0, 200, F, m, rfl, Nat.zero_le _, by omega, HPI.out, HM.out⟩
          case round =>
            obtain ⟨i, hb, F, m, rfl, hi, hbw, hp, hm⟩ := hrel
            by_cases hlt : i < n
            · have HPI := Lib.hid hp
              have HM := Lib.hid hm
              have hiw : i * W ≤ 8 * 8 := Nat.mul_le_mul (by omega) hW8
              have hb100 : 100 ≤ hb := by omega
              have hsuc : (i + 1) * W = i * W + W := by rw [Nat.add_mul, Nat.one_mul]
              generalize i * W = iw at *
              have HBW := Lib.hid hbw
              have HSU := Lib.hid hsuc
              clear hp hm hbw hsuc
              go_wp2
              go_loopw [12, 13] (fun k v wr => ∃ (j : Nat) (F : Nat → Prop) (m : AM), v = .int .i64 j ∧ PtW F w wr w.heap.size m ∧ ((j ≤ W ∧ k = .int .i64 0 ∧ WI m W (20 - i) (hb - j) j (220 + i * 9 + j)) ∨ (j = W + 1 ∧ k = .int .i64 1 ∧ WI m W (20 - i - 1) (hb - W) 0 (220 + i * 9 + j)))) (fun _ v _ => W + 1 - (intOf v).toNat)
              case atStart => exact ⟨0, F, m, rfl, HPI.out, .inl ⟨Nat.zero_le _, rfl, by simpa using HM.out⟩⟩
              case round =>
                obtain ⟨j, F, m, rfl, hp, ⟨hj, rfl, hm⟩ | ⟨rfl, rfl, hm⟩⟩ := hrel
                · have hj' : (j : Int) ≤ W := by omega
                  have hpos : 0 < 20 - i ∧ 0 < hb - j := by omega
                  obtain ⟨x, l, hsel, hx⟩ : ∃ x l, m.sel m.hiB = x :: l ∧ ((j < W ∧ x.xs.length = 0 ∧ WI (m.srv 1 m.hiB x l) W (20 - i) (hb - j - 1) (j + 1) (220 + i * 9 + j + 1)) ∨ (j = W ∧ 0 < x.xs.length ∧ WI (m.srv 1 m.hiB x l) W (20 - i - 1) (hb - j) 0 (220 + i * 9 + j + 1))) := by
                    by_cases hjw : j < W
                    · obtain ⟨x, l, h1, h2, h3⟩ := wi_light hm hpos.1 hpos.2 hjw
                      exact ⟨x, l, h1, .inl ⟨hjw, h2, h3⟩⟩
                    · obtain ⟨x, l, h1, h2, h3⟩ := wi_dense hm hpos.1 (by omega) (by omega)
                      exact ⟨x, l, h1, .inr ⟨by omega, h2, h3⟩⟩
                  have HS := Lib.hid (ptw_deliver hp hm.ok (by omega) x l hsel)
                  rcases hx with ⟨hjw, hx, hm2⟩ | ⟨hjw, hx, hm2⟩
                  all_goals
                    have HM2 := Lib.hid hm2
                    have HJ := Lib.hid hjw
                    have HX := Lib.hid hx
                    clear hp hm hsel hm2 hjw hx
                    go_wp2_with fail
                    refine HS.out.mono ?_
                    rintro e w5 ⟨g, o, c, q, F5, rfl, hra, hg, hk, hr, hd⟩
                    have HD := Lib.hid hd.pt
                    have c8 := hra 8 (.slice q.A q.n q.c) rfl
                    have hqn : q.n = x.xs.length := by rw [← hr.len, ← hk]; rfl
                    have hxx := HX.out
                  · have hq0 : q.n = 0 := by omega
                    rw [hq0] at c8
                    clear hra hk hr hd HS hqn hxx hq0
                    go_wp2
                    go_roundw
                    case rel => exact ⟨j + 1, F5, _, by go_num, HD.out, .inl ⟨by have := HJ.out; omega, rfl, by have := HM2.out; simpa [Int.add_assoc, Nat.sub_sub] using this⟩⟩
                    case measure => simp [intOf]; omega
                  · have hq0 : 0 < q.n := by omega
                    clear hra hk hr hd HS hqn hxx
                    go_wp2
                    go_roundw
                    case rel => exact ⟨j + 1, F5, _, by go_num, HD.out, .inr ⟨by have := HJ.out; omega, by go_num, by have := HM2.out; have := HJ.out; subst this; simpa [Int.add_assoc] using HM2.out⟩⟩
                    case measure => simp [intOf]; omega
                · have hge3 : (W : Int) < ((W + 1 : Nat) : Int) := by omega
                  have HPJ := Lib.hid hp
                  have HMJ := Lib.hid hm
                  clear hp hm
                  generalize hJ : W + 1 = J at *
                  have HJ := Lib.hid hJ
                  clear hJ
                  go_wp2
                  go_roundw
                  case rel => exact ⟨i + 1, hb - W, F, m, by go_num, by omega, by rw [HSU.out]; have := HBW.out; omega, HPJ.out, by
                    have h1 := HMJ.out
                    rw [show 20 - (i + 1) = 20 - i - 1 by omega]
                    exact ⟨h1.la, h1.lb, h1.lx, h1.hx, h1.lr, h1.hr, h1.wt, h1.ru, h1.ok.mono (by have := HJ.out; omega)⟩⟩
                  case measure => simp [intOf]; omega
            · obtain rfl : i = n := by omega
              have HPI := Lib.hid hp
              have HM := Lib.hid hm
              have HBW := Lib.hid hbw
              clear hp hm hbw
              have HL : Hid (∀ wr', wr' = wr → Calls Try.prog 20 #[.pointer (some ⟨w.heap.size, 0, none⟩)] wr' fun e w' => e = .returned (.tuple #[.int .i64 (20 - i : Nat), .int .i64 hb]) ∧ Below wr.heap.size wr w') := Lib.hid (by
                rintro _ rfl
                obtain ⟨⟨pl, ph, Fl, Fh, ql, qh, h1⟩, h2, h3⟩ := HPI.out
                have := pt_lens h1
                rw [HM.out.la, HM.out.lb] at this; exact this)
              have hmul : (i : Int) * W = ((i * W : Nat) : Int) := by rw [Int.natCast_mul]
              have h20 : ((20 - i : Nat) : Int) = 20 - i := by omega
              have h200 : (hb : Int) = 200 - ((i * W : Nat) : Int) := by have := HBW.out; omega
              have hiw : i * W ≤ 9 * 8 := Nat.mul_le_mul (by omega) hW8
              rw [h20, h200] at HL
              clear h20 h200
              generalize i * W = iw at *
              go_wp2_with (go_at_call 20; refine (HL.out _ rfl).mono ?_; rintro e w5 ⟨rfl, hb5⟩; have HB5 := Lib.hid (below_on HPI.out.bl hb5); clear hb5)
              go_ret
              exact ⟨rfl, HB5.out⟩
theorem lawWeighsI (a b : Int) (w : World) (ha : (Lit.int .u8 a).wf = true) (hb : (Lit.int .u8 b).wf = true) :
    Calls Try.prog 5 #[.int .u8 a, .int .u8 b] w fun e w' => e = .returned (.bool true) ∧ Below w.heap.size w w' := by
  have h1 := u8_bounds ha
  have h2 := u8_bounds hb
  obtain ⟨m, rfl⟩ := Int.eq_ofNat_of_zero_le h1.1
  obtain ⟨k, rfl⟩ := Int.eq_ofNat_of_zero_le h2.1
  exact lawWeighs m k w (by omega) (by omega)
end Go.Proofs.Ytcmakhkbkfkhkaa
