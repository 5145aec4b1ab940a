/- Both Decodes in one word; the law awake. -/
import Derived.Test.YtochbcemobkegaaW14
set_option linter.unusedSimpArgs false
set_option linter.unusedVariables false
namespace Go.Proofs.Ytochbcemobkegaa
open Go.RowKit Go.Shelf

/-- What Decode says of any bytes. -/
def dE (bs : List Int) : Int := if bs.length < 36 then 6 else decE (bs.take 36) (bs.drop 36)
def dP (bs : List Int) : Hd := if bs.length < 36 then ⟨0, 0, 0, 0, 0, 0, 0, 0⟩ else decP (bs.take 36) (bs.drop 36)
def dX (bs : List Int) : List Int := if bs.length < 36 then [] else decX (bs.take 36) (bs.drop 36)
theorem decode_all (A : Option Addr) (n c : Nat) (bs : List Int) (w : World) (h : Rd .u8 w A n c bs) (hn2 : n ≤ 60000) :
    Calls Try.prog 10 #[.slice A n c] w fun e w' => ∃ A' n' c', e = .returned (.tuple #[.agg #[.int .i64 ((dP bs).kd), .int .i64 ((dP bs).fl), .int .i64 ((dP bs).pa), .int .i64 ((dP bs).sr), .int .i64 ((dP bs).ds), .int .i64 ((dP bs).cn), .int .i64 ((dP bs).sq), .int .i64 ((dP bs).pu), .slice A' n' c'], .int .i64 (dE bs)]) ∧ Rd .u8 w' A' n' c' (dX bs) ∧ Below w.heap.size w w' := by
  have hl := h.1
  have hwf : ∀ x ∈ dX bs, (Lit.int .u8 x).wf = true := by
    intro x hx
    unfold dX decX at hx
    split at hx
    · simp at hx
    · split at hx
      · exact h.2.2.2.2.1 x (List.mem_of_mem_drop hx)
      · simp at hx
  unfold dE dP dX at *
  by_cases hn : n < 36
  · rw [hl] at *
    simp only [hn, if_true]
    refine (decode_short A n c w hn).mono ?_
    rintro e w' ⟨rfl, hb⟩
    exact ⟨none, 0, 0, rfl, Rd.nil _ _, hb⟩
  · rw [hl] at *
    simp only [hn, if_false] at hwf ⊢
    refine (decode_any A n c bs _ _ w h (by omega) hn2 rfl rfl).mono ?_
    rintro e w' ⟨A', n', c', rfl, ho, hb⟩
    exact ⟨A', n', c', rfl, own_rd ho hwf, hb⟩
theorem rdecode_all (A : Option Addr) (n c : Nat) (bs : List Int) (w : World) (h : Rd .u8 w A n c bs) (hn2 : n ≤ 60000) :
    Calls Try.prog 11 #[.slice A n c] w fun e w' => ∃ A' n' c', e = .returned (.tuple #[.agg #[.int .i64 ((dP bs).kd), .int .i64 ((dP bs).fl), .int .i64 ((dP bs).pa), .int .i64 ((dP bs).sr), .int .i64 ((dP bs).ds), .int .i64 ((dP bs).cn), .int .i64 ((dP bs).sq), .int .i64 ((dP bs).pu), .slice A' n' c'], .int .i64 (dE bs)]) ∧ Rd .u8 w' A' n' c' (dX bs) ∧ Below w.heap.size w w' := by
  have hl := h.1
  unfold dE dP dX
  by_cases hn : n < 36
  · rw [hl]
    simp only [hn, if_true]
    refine (rdecode_short A n c w hn).mono ?_
    rintro e w' ⟨rfl, hb⟩
    exact ⟨none, 0, 0, rfl, Rd.nil _ _, hb⟩
  · rw [hl]
    simp only [hn, if_false]
    by_cases hm : magic (bs.take 36)
    · exact rdecode_magic A n c bs _ _ w h (by omega) hn2 rfl rfl hm
    · have hE : decE (bs.take 36) (bs.drop 36) = 30 := by unfold decE; rw [if_neg (fun h => hm h.1)]
      obtain ⟨hP, hX⟩ := dec_err hE (by decide)
      rw [hP, hX, hE]
      refine (rdecode_nomagic A n c bs _ (bs.drop 36) w h (by omega) rfl hm).mono ?_
      rintro e w' ⟨rfl, hb⟩
      exact ⟨none, 0, 0, rfl, Rd.nil _ _, hb⟩
theorem d_enc (h : Hd) (xs : List Int) (hc : chkB h xs.length = true) (ho : okB xs = true) : dE (encL h xs) = 0 ∧ dP (encL h xs) = h ∧ dX (encL h xs) = xs := by
  have hl := encL_len h xs
  obtain ⟨-, h1, h2, h3⟩ := dec_enc h xs _ _ hc ho rfl rfl
  unfold dE dP dX
  simp only [show ¬ (encL h xs).length < 36 by omega, if_false]
  exact ⟨h1, h2, h3⟩
set_option maxRecDepth 100000 in
set_option maxHeartbeats 8000000 in
theorem awake_any (w : World) : Calls Try.prog 16 #[] w fun e w' => e = .returned (.bool true) ∧ Below w.heap.size w w' := by
  have hc0 : chkB ⟨4, 0, 0, 0, 1, 1, 0, 5⟩ ((([] : List Int).length : Nat) : Int) = true := by decide
  obtain ⟨D1, D2, D3⟩ := d_enc ⟨4, 0, 0, 0, 1, 1, 0, 5⟩ [] hc0 (by decide)
  have HD1 := Lib.hid D1
  have HD2 := Lib.hid D2
  have HD3 := Lib.hid D3
  have HOK := Lib.hid (encL_ok ⟨4, 0, 0, 0, 1, 1, 0, 5⟩ [] (by simp))
  have HLN : Hid ((encL ⟨4, 0, 0, 0, 1, 1, 0, 5⟩ []).length = 36) := Lib.hid (by rw [encL_len]; rfl)
  have HC0 := Lib.hid hc0
  clear D1 D2 D3 hc0
  have kc : ∀ (w : World) (o : Obj) (C : Array Value) (n c : Nat), (convert 23 23 (.slice (some ⟨w.heap.size + 1, 0, none⟩) n c)).run Try.prog ((w.alloc o).alloc (.cells C 5)) = .ok (.slice (some ⟨w.heap.size + 1, 0, none⟩) n c) ((w.alloc o).alloc (.cells C 5 (C.size, C.size + 1))) := fun w o C n c => by
    have := Lib.run_convert_bytes_const (P := Try.prog) (w.alloc o) 23 5 C n c Try.underlying23 Try.underlying5
    rw [World.size_alloc] at this
    exact this
  go_enter Try.func16, Try.ntmps16
  go_wp2_with fail
  refine (encode_yes 4 0 0 0 1 1 0 5 none 0 0 [] _ (Rd.nil _ _) HC0.out).mono ?_
  rintro e w1 ⟨v, rfl, hown, hb1⟩
  obtain ⟨B, d, rfl, hr⟩ := hown.rd HOK.out
  rw [HLN.out] at hr ⊢
  clear hown
  go_wp2_with fail
  refine (decode_all _ _ _ _ _ hr (by omega)).mono ?_
  rintro e w2 ⟨A2, n2, c2, rfl, hr2, hb2⟩
  rw [HD1.out, HD2.out]
  rw [HD3.out] at hr2
  dsimp only
  have hc2 := below_on hb1 hb2
  clear hb1 hb2 hr
  go_wp2_with fail
  have hq := (Bk.new w2 25 [.int .i64 4, .int .i64 0, .int .i64 0, .int .i64 0, .int .i64 1, .int .i64 1, .int .i64 0, .int .i64 5, .slice A2 n2 c2]).alloc (.cells #[.int .u8 97] 5 (1, 2))
  have hc3 := (hc2.alloc hc2.size (.cells #[.int .i64 4, .int .i64 0, .int .i64 0, .int .i64 0, .int .i64 1, .int .i64 1, .int .i64 0, .int .i64 5, .slice A2 n2 c2] 25)).alloc (by have := hc2.size; simp; omega) (.cells #[.int .u8 97] 5 (1, 2))
  refine (trim_yes 1 0 0 0 1 1 0 0 _ 1 1 _ (by omega) (by decide) (by decide)).mono ?_
  rintro e w3 ⟨rfl, hb3⟩
  have hq3 := hq.below hb3
  have hc4 := below_on hc3 hb3
  have hl3 := hq3.lt
  clear hq hc3 hb3 hc2
  go_wp2_with fail
  refine (bounce_yes 1 8 0 0 1 1 0 0 none 0 0 [] _ (by exact Rd.nil _ _) (by omega) (by omega) (by decide) (by decide) (by decide)).mono ?_
  rintro e w4 ⟨A4, c4, rfl, -, hb4⟩
  have hq4 := (hq3.alloc _).below hb4
  have hc5 := (hc4.alloc hc4.size _).trans (hb4.mono (by have := hc4.size; simp; omega))
  have hl4 := hq4.lt
  clear hb4 hq3 hc4
  go_wp2_with fail
  have hs := Bk.new w4 25 [.int .i64 1, .int .i64 24, .int .i64 0, .int .i64 1, .int .i64 0, .int .i64 1, .int .i64 0, .int .i64 0, .slice A4 0 c4]
  refine (encode_no 0 0 0 0 0 0 0 0 none 0 0 _ (by omega) (by decide)).mono ?_
  rintro e w5 ⟨rfl, hb5⟩
  have hq5 := (hq4.alloc _).below hb5
  have hs5 := hs.below hb5
  have hc6 := (hc5.alloc hc5.size _).trans (hb5.mono (by have := hc5.size; simp; omega))
  clear hb5 hq4 hs hc5
  have hq9 := hq5.cells9
  have hs9 := hs5.cells9
  go_wp2_with fail
  go_ret
  exact ⟨rfl, hc6⟩
end Go.Proofs.Ytochbcemobkegaa
