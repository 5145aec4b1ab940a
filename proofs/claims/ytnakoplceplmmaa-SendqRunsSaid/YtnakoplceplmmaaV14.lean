/- The document's queue: by value; asked, made, sent, repeated. -/
import Derived.Test.YtnakoplceplmmaaV13
set_option linter.unusedSimpArgs false
set_option linter.unusedVariables false
namespace Go.Proofs.Ytnakoplceplmmaa
open Go.RowKit Go.Shelf
/-- The document's queue reads as m, in blocks of X. -/
structure RqA (X : Nat → Prop) (w : World) (m : Sm) (A : Option Addr) (n c : Nat) (B : Option Addr) (k d : Nat) (C : Option Addr) (r e : Nat) : Prop where
  l : SlX X w A n c m.L
  k : RdX X w B k d (booV m.K)
  r : RdX X w C r e (intV m.row)
section
variable {X X' F : Nat → Prop} {w w' : World} {m : Sm} {A B C : Option Addr} {n c k d r e : Nat}
theorem RqA.below (h : RqA X w m A n c B k d C r e) (hb : Below w.heap.size w w') : RqA X w' m A n c B k d C r e := ⟨h.l.below hb, h.k.below hb, h.r.below hb⟩
theorem RqA.st (h : RqA X w m A n c B k d C r e) (hs : St F w w') (hX : ∀ j, X j → ¬ F j) : RqA X w' m A n c B k d C r e := ⟨h.l.st hs hX, h.k.st hs hX, h.r.st hs hX⟩
theorem RqA.mono (h : RqA X w m A n c B k d C r e) (hX : ∀ j, j < w.heap.size → X j → X' j) : RqA X' w m A n c B k d C r e := ⟨h.l.mono hX, h.k.mono hX, h.r.mono hX⟩
theorem RqA.hn (h : RqA X w m A n c B k d C r e) : n = m.L.length := h.l.len.symm
theorem RqA.hk (h : RqA X w m A n c B k d C r e) : k = m.K.length := by rw [← booV_len]; exact h.k.1.1.symm
theorem RqA.hr (h : RqA X w m A n c B k d C r e) : r = m.row.length := by rw [← intV_len]; exact h.r.1.1.symm
/-- What a call of the document's tells, with the queue that follows. -/
def Rt2 (X : Nat → Prop) (m : Sm) (x : Value) (w : World) (en : Ending) (w' : World) : Prop :=
  ∃ A n c B k d C r e, en = .returned (.tuple #[.agg #[.int .i64 m.most, .slice A n c, .slice B k d, .int .i64 m.nx, .slice C r e], x]) ∧ RqA X w' m A n c B k d C r e ∧ Below w.heap.size w w'
def Rt3 (X : Nat → Prop) (m : Sm) (x y : Value) (w : World) (en : Ending) (w' : World) : Prop :=
  ∃ A n c B k d C r e, en = .returned (.tuple #[.agg #[.int .i64 m.most, .slice A n c, .slice B k d, .int .i64 m.nx, .slice C r e], x, y]) ∧ RqA X w' m A n c B k d C r e ∧ Below w.heap.size w w'
theorem results_cell_tmp2 {P : Program} {w : World} {ty : TypeId} {fn : Func} {s u1 u2 : Tmp} (h : fn.results = #[.cell s ty, .tmp u1, .tmp u2]) {tmps : Array Value} {a : Addr} (ha : tmps.getD s undef = .pointer (some a)) {v : Value} (hl : (loadVar ty a).run P w = .ok v w) :
    (results fn tmps).run P w = .ok (.tuple #[v, tmps.getD u1 undef, tmps.getD u2 undef]) w := by
  rw [Array.getD_eq_getD_getElem?] at ha
  simp [results, h, ha, asAddr_some, hl]
theorem booV_at {w : World} {A : Option Addr} {n c : Nat} {xs : List Bool} (h : RdV w A n c (booV xs)) {k : Nat} {b : Bool} (hx : xs[k]? = some b) : ∃ g o, A = some ⟨g, o, none⟩ ∧ g < w.heap.size ∧ w.cell? ⟨g, o + k, none⟩ = some (.bool b) := by
  have hl : k < xs.length := (List.getElem?_eq_some_iff.1 hx).1
  have hk : k < n := by have := h.1; rw [booV_len] at this; omega
  obtain ⟨g, o, e, hg, hc⟩ := h.cell hk
  refine ⟨g, o, e, hg, ?_⟩
  rw [hc, booV, List.getElem?_map, hx]
  rfl
theorem box5 (w : World) (m : Sm) (A B C : Option Addr) (n c k d r e : Nat) : Below w.heap.size w (w.alloc (.cells #[.int .i64 m.most, .slice A n c, .slice B k d, .int .i64 m.nx, .slice C r e] 31)) := (Below.refl _ _).alloc (Nat.le_refl _) _
set_option maxHeartbeats 1000000 in
theorem r_low (h : RqA X w m A n c B k d C r e) (ok : m.Ok) (lw : m.Low) : Calls Try.prog 31 #[.agg #[.int .i64 m.most, .slice A n c, .slice B k d, .int .i64 m.nx, .slice C r e]] w fun en w' => en = .returned (.int .i64 m.lo) ∧ Below w.heap.size w w' := by
  have hb := box5 w m A B C n c k d r e
  have z := Bk.new w 31 [.int .i64 m.most, .slice A n c, .slice B k d, .int .i64 m.nx, .slice C r e]
  have c2 := z.cell 2 rfl
  have c3 := z.cell 3 rfl
  have hk := h.hk
  have hlk := ok.lk
  have hln := ok.ln
  have hnl := ok.nl
  have hbig := ok.big
  have HK := Lib.hid (h.k.1.below hb)
  have HB := Lib.hid hb
  have HAc := Lib.hid ok.ac
  have HLw := Lib.hid lw
  have hkb : k ≤ 1000000000 := by omega
  have HKL := Lib.hid hk
  clear h ok lw z hb hk
  go_enter Try.func31, Try.ntmps31
  go_wp2
  go_loopw [3] (fun i W => ∃ j : Nat, i = .int .i64 j ∧ j ≤ m.lo ∧ W = w.alloc (.cells #[.int .i64 m.most, .slice A n c, .slice B k d, .int .i64 m.nx, .slice C r e] 31)) (fun i _ => m.lo - (intOf i).toNat)
  case atStart => exact ⟨0, rfl, Nat.zero_le _, rfl⟩
  case round =>
    obtain ⟨j, rfl, hj, rfl⟩ := hrel
    by_cases hlt : j < m.lo
    · obtain ⟨g, o, rfl, hg, cj⟩ := booV_at HK.out (HAc.out j hlt)
      have h1 : (j : Int) < m.nx := by omega
      have h2 : (j : Int) < k := by have := HKL.out; omega
      go_wp2
      go_roundw
      case rel => exact ⟨j + 1, by go_num, by omega, by first | rfl | trivial⟩
      case measure => simp [intOf]; omega
    · obtain rfl : j = m.lo := by omega
      by_cases hnx : m.nx = m.lo
      · have h1 : ¬ (m.lo : Int) < m.nx := by omega
        have HE : Hid ((m.nx : Int) = m.lo) := Lib.hid (by omega)
        clear hnx hln hnl
        go_wp2
        go_ret
        exact ⟨by rw [← HE.out]; rfl, HB.out⟩
      · have hf : m.K[m.lo]? = some false := HLw.out.resolve_left hnx
        obtain ⟨g, o, rfl, hg, cj⟩ := booV_at HK.out hf
        have h1 : (m.lo : Int) < m.nx := by omega
        have h2 : (m.lo : Int) < k := by have := HKL.out; omega
        clear hf
        go_wp2
        go_ret
        exact ⟨rfl, HB.out⟩
set_option maxHeartbeats 1000000 in
theorem r_lacks (h : RqA X w m A n c B k d C r e) (ok : m.Ok) (lw : m.Low) (s : Int) : Calls Try.prog 34 #[.agg #[.int .i64 m.most, .slice A n c, .slice B k d, .int .i64 m.nx, .slice C r e], .int .i64 s] w fun en w' => en = .returned (.bool (m.lacks s)) ∧ Below w.heap.size w w' := by
  have hb := box5 w m A B C n c k d r e
  have z := Bk.new w 31 [.int .i64 m.most, .slice A n c, .slice B k d, .int .i64 m.nx, .slice C r e]
  have HL := Lib.hid (r_low (h.below hb) ok lw)
  have hk := h.hk
  have hlk := ok.lk
  have hln := ok.ln
  have hnl := ok.nl
  have hbig := ok.big
  have HK := Lib.hid (h.k.1.below hb)
  have HB := Lib.hid hb
  have HZ := Lib.hid z
  by_cases hlo : (m.lo : Int) ≤ s
  · by_cases hnx : s < m.nx
    · obtain ⟨s, rfl⟩ : ∃ s' : Nat, s = s' := ⟨s.toNat, by omega⟩
      have hsl : s < m.K.length := by omega
      have hsk : m.K[s]? = some m.K[s] := List.getElem?_eq_getElem hsl
      have HV : Hid (m.lacks (s : Int) = !m.K[s]) := Lib.hid (by
        unfold Sm.lacks
        rw [decide_eq_true ⟨hlo, hnx⟩, Int.toNat_natCast, getD_of hsk]
        rfl)
      have hsI : (s : Int) < k := by omega
      have hkb : k ≤ 1000000000 := by omega
      obtain ⟨g, o, rfl, hg, cj⟩ := booV_at HK.out hsk
      generalize m.K[s] = b at *
      have HC := Lib.hid cj
      clear h ok lw hb hk hsk cj
      go_enter Try.func34, Try.ntmps34
      go_wp2_with (first
        | (with_reducible refine at_load 31 (.tmp 2) (by rfl) ?_
           refine wpList_load_bk rowR rfl (.tmp 2) rfl w.heap.size 0 rfl z [.int .i64 m.most, .slice A n c, .slice (some ⟨g, o, none⟩) k d, .int .i64 m.nx, .slice C r e] rfl rfl ?_)
        | (go_at_call 31; refine HL.out.mono ?_; rintro en w1 ⟨rfl, hb1⟩
           have z1 := HZ.out.below hb1
           have c2 := z1.cell 2 rfl
           have c3 := z1.cell 3 rfl
           have cj := (hb1.cell (p := ⟨g, o + s, none⟩) hg).trans HC.out
           have HB1 := Lib.hid (below_on HB.out hb1)
           clear hb1 z1 z))
      go_ret
      exact ⟨by rw [HV.out]; rfl, HB1.out⟩
    · have HV : Hid (m.lacks s = false) := Lib.hid (Sm.lacks_no (.inr (by omega)))
      clear h ok lw hb hk
      go_enter Try.func34, Try.ntmps34
      go_wp2_with (first
        | (with_reducible refine at_load 31 (.tmp 2) (by rfl) ?_
           refine wpList_load_bk rowR rfl (.tmp 2) rfl w.heap.size 0 rfl z [.int .i64 m.most, .slice A n c, .slice B k d, .int .i64 m.nx, .slice C r e] rfl rfl ?_)
        | (go_at_call 31; refine HL.out.mono ?_; rintro en w1 ⟨rfl, hb1⟩
           have z1 := HZ.out.below hb1
           have c2 := z1.cell 2 rfl
           have c3 := z1.cell 3 rfl
           have HB1 := Lib.hid (below_on HB.out hb1)
           clear hb1 z1 z))
      go_ret
      exact ⟨by rw [HV.out]; rfl, HB1.out⟩
  · have HV : Hid (m.lacks s = false) := Lib.hid (Sm.lacks_no (.inl (by omega)))
    clear h ok lw hb hk
    go_enter Try.func34, Try.ntmps34
    go_wp2_with (first
      | (with_reducible refine at_load 31 (.tmp 2) (by rfl) ?_
         refine wpList_load_bk rowR rfl (.tmp 2) rfl w.heap.size 0 rfl z [.int .i64 m.most, .slice A n c, .slice B k d, .int .i64 m.nx, .slice C r e] rfl rfl ?_)
      | (go_at_call 31; refine HL.out.mono ?_; rintro en w1 ⟨rfl, hb1⟩
         have HB1 := Lib.hid (below_on HB.out hb1)
         clear hb1 z))
    go_ret
    exact ⟨by rw [HV.out]; rfl, HB1.out⟩
theorem r_new_no {x : Int} (h : okN x = false) (w : World) : Calls Try.prog 7 #[.int .i64 x] w fun en w' => en = .returned (.tuple #[.agg #[.int .i64 0, .slice none 0 0, .slice none 0 0, .int .i64 0, .slice none 0 0], .int .i64 130]) ∧ Below w.heap.size w w' := by
  have h' : x < 1 ∨ (1 ≤ x ∧ 4096 < x) := by simp only [okN, decide_eq_false_iff_not] at h; omega
  have z := Bk.new w 31 [.int .i64 0, .slice none 0 0, .slice none 0 0, .int .i64 0, .slice none 0 0]
  have hb : Below w.heap.size w (w.alloc (.cells #[.int .i64 0, .slice none 0 0, .slice none 0 0, .int .i64 0, .slice none 0 0] 31)) := (Below.refl _ _).alloc (Nat.le_refl _) _
  clear h
  rcases h' with h | ⟨h1, h2⟩
  all_goals
    go_enter Try.func7, Try.ntmps7
    go_wp2_with (first
      | (with_reducible refine at_store 31 (.tmp 2) (.tmp 10) (by rfl) ?_
         refine wpList_store_bk rowR rfl (.tmp 2) (.tmp 10) rfl w.heap.size 0 rfl z [.int .i64 0, .slice none 0 0, .slice none 0 0, .int .i64 0, .slice none 0 0] rfl rfl (by show 0 + 5 ≤ 5; omega) (by simp [Value.oneCell']) ?_
         intro w3 hz3 hw3))
    rw [lay_all _ _ (by rfl)] at hz3
    refine bodyPost_ret (results_cell_tmp rfl rfl (rowR.load hz3 0 (cs := [.int .i64 0, .slice none 0 0, .slice none 0 0, .int .i64 0, .slice none 0 0]) rfl rfl)) rfl ?_
    exact ⟨rfl, hb.trans ((st_wr hw3).below hb.size (fun j hj => by omega))⟩
theorem r_new {p : Nat} (h : okN p = true) (w : World) (X : Nat → Prop) : Calls Try.prog 7 #[.int .i64 p] w (Rt2 X (.new p) (.int .i64 0) w) := by
  have hp : 1 ≤ p ∧ p ≤ 4096 := by simp only [okN, decide_eq_true_eq] at h; omega
  obtain ⟨h1, h2⟩ := hp
  have z := Bk.new w 31 [.int .i64 0, .slice none 0 0, .slice none 0 0, .int .i64 0, .slice none 0 0]
  have hb : Below w.heap.size w (w.alloc (.cells #[.int .i64 0, .slice none 0 0, .slice none 0 0, .int .i64 0, .slice none 0 0] 31)) := (Below.refl _ _).alloc (Nat.le_refl _) _
  have h1' : (1 : Int) ≤ p := by omega
  have h2' : (p : Int) ≤ 4096 := by omega
  clear h
  go_enter Try.func7, Try.ntmps7
  go_wp2_with (first
    | (with_reducible refine at_store 31 (.tmp 2) (.tmp 12) (by rfl) ?_
       refine wpList_store_bk rowR rfl (.tmp 2) (.tmp 12) rfl w.heap.size 0 rfl z [.int .i64 p, .slice none 0 0, .slice none 0 0, .int .i64 0, .slice none 0 0] rfl rfl (by show 0 + 5 ≤ 5; omega) (by simp [Value.oneCell']) ?_
       intro w3 hz3 hw3))
  rw [lay_all _ _ (by rfl)] at hz3
  refine bodyPost_ret (results_cell_tmp rfl rfl (rowR.load hz3 0 (cs := [.int .i64 p, .slice none 0 0, .slice none 0 0, .int .i64 0, .slice none 0 0]) rfl rfl)) rfl ?_
  exact ⟨none, 0, 0, none, 0, 0, none, 0, 0, rfl, ⟨SlX.nil _ _, RdX.nil _ _, RdX.nil _ _⟩, hb.trans ((st_wr hw3).below hb.size (fun j hj => by omega))⟩
end
end Go.Proofs.Ytnakoplceplmmaa
