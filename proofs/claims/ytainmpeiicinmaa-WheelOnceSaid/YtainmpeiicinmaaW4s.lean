/- Lists of timers: put together, looked for. -/
import Derived.Test.YtainmpeiicinmaaW3s
set_option linter.unusedSimpArgs false
set_option linter.unusedVariables false
set_option maxRecDepth 100000
namespace Go.Proofs.Ytainmpeiicinmaa.Ws
open Go.RowKit Go.Shelf
section
variable {w w' w1 w2 : World} {g p b b3 : Nat} {m m' : Wm ByteArray} {A : Option Addr} {n c : Nat} {x y : ByteArray} {T : TypeId}
theorem grow_any (k : Nat) (hk : k ≤ 4000) : Calls Try.prog 60 #[.slice none 0 0, .int .i64 k] w (MadeR 90 [] w) := by
  rcases Nat.eq_zero_or_pos k with rfl | hp
  · go_enter Try.func60, Try.ntmps60
    go_wp2
    go_ret
    exact ⟨none, 0, 0, rfl, LstR.nil _ _ _ _, Below.refl _ _⟩
  · have hp' : (0 : Int) < k := by omega
    have hpre0 : ∀ W : World, _ := fun W => eltM.run_pre none 0 0 0 (Nat.le_refl _) (Nat.le_refl _) W
    go_enter Try.func60, Try.ntmps60
    go_wp2_with (refine wpList_append_zrow eltM rfl rfl (.tmp 20) (.tmp 21) rfl rfl rfl hp (by omega) ?_
                 rintro A c w2 hl hkc hb
                 have hpre : ∀ W : World, _ := fun W => eltM.run_pre A k c 0 (Nat.zero_le _) hkc W
                 have HL := Lib.hid (And.intro hl hb)
                 clear hl hb)
    go_ret
    exact ⟨A, 0, c, rfl, HL.out.1, HL.out.2⟩
/-- One of the lists that are put together. -/
structure Sl where
  A : Option Addr
  n : Nat
  c : Nat
  qs : List (Tm ByteArray)
def Sl.v (s : Sl) : Value := .slice s.A s.n s.c
def sums (ss : List Sl) : Nat := (ss.map fun s => s.n).sum
def alls (ss : List Sl) : List (Tm ByteArray) := ss.flatMap fun s => s.qs
theorem sums_at (ss : List Sl) {j : Nat} (hj : j < ss.length) : sums (ss.take (j + 1)) = sums (ss.take j) + ss[j].n := by
  unfold sums
  rw [List.take_add_one, List.getElem?_eq_getElem hj, List.map_append, List.sum_append]
  rfl
theorem alls_at (ss : List Sl) {j : Nat} (hj : j < ss.length) : alls (ss.take (j + 1)) = alls (ss.take j) ++ ss[j].qs := by
  unfold alls
  rw [List.take_add_one, List.getElem?_eq_getElem hj, List.flatMap_append]
  simp only [Option.toList, List.flatMap_cons, List.flatMap_nil, List.append_nil]
theorem alls_len : ∀ (ss : List Sl), (∀ s ∈ ss, s.n = s.qs.length) → (alls ss).length = sums ss
  | [], _ => rfl
  | s :: r, h => by
    have ih := alls_len r fun s hs => h s (by simp [hs])
    have h0 := h s (by simp)
    unfold alls sums at ih ⊢
    rw [List.flatMap_cons, List.length_append, ih, List.map_cons, List.sum_cons, h0]
theorem sums_le (ss : List Sl) {j : Nat} (hj : j < ss.length) : sums (ss.take j) + ss[j].n ≤ sums ss := by
  have h := sums_at ss hj
  have : sums (ss.take (j + 1)) ≤ sums ss := by
    unfold sums
    conv => rhs; rw [← List.take_append_drop (j + 1) ss, List.map_append, List.sum_append]
    omega
  omega
set_option maxHeartbeats 2000000 in
theorem con_any (ss : List Sl) (hb : Bk w 84 b (ss.map Sl.v)) (hl : ss.length ≤ 10) (hs : sums ss ≤ 4000) (hr : ∀ s ∈ ss, RdR 2 w s.A s.n s.c (flat tcl s.qs)) :
    Calls Try.prog 52 #[.slice (some ⟨b, 0, none⟩) ss.length ss.length] w (MadeR 90 (flat tcl (alls ss)) w) := by
  have HH := Lib.hid (And.intro hb hr)
  have hcell : ∀ W, Below w.heap.size w W → ∀ j, (hj : j < ss.length) → W.cell? ⟨b, 0 + j, none⟩ = some (.slice ss[j].A ss[j].n ss[j].c) := fun W hW j hj => by
    rw [Nat.zero_add]
    refine (HH.out.1.below hW).cell j ?_
    rw [List.getElem?_map, List.getElem?_eq_getElem hj]
    rfl
  have HC := Lib.hid hcell
  have HS := Lib.hid hs
  clear hb hr hcell hs
  go_enter Try.func52, Try.ntmps52
  go_wp2
  go_loopw [3, 5, 11] (fun s t i W => ∃ j : Nat, j ≤ ss.length ∧ i = .int .i64 j ∧ s = .int .i64 (sums (ss.take j) : Nat) ∧ W = w) (fun s t i _ => ss.length - (intOf i).toNat)
  case atStart => exact ⟨0, Nat.zero_le _, rfl, rfl, rfl⟩
  case round =>
    obtain ⟨j, hj, rfl, rfl, rfl⟩ := hrel
    by_cases hlt : j < ss.length
    · have d := HC.out wr (Below.refl _ _) j hlt
      have hlt' : (j : Int) < ss.length := by omega
      have h1 := sums_at ss hlt
      have h2 := sums_le ss hlt
      have h3 := HS.out
      have hbn : ss[j].n ≤ 4000 := by omega
      have hbs : sums (ss.take j) ≤ 4000 := by omega
      have HE : Hid ((sums (ss.take j) : Int) + (ss[j].n : Int) = (sums (ss.take (j + 1)) : Int)) := Lib.hid (by omega)
      rw [Nat.zero_add] at d
      clear h1 h2 h3
      generalize sums (ss.take j) = S at *
      generalize hQ : ss[j] = q at *
      clear hQ
      go_wp2
      go_roundw
      case rel => exact ⟨j + 1, by omega, by go_num, by rw [← HE.out], trivial⟩
      case measure => simp [intOf]; omega
    · obtain rfl : j = ss.length := by omega
      rw [List.take_length]
      generalize wr = w0 at *
      have HG := Lib.hid (grow_any (w := w0) (sums ss) HS.out)
      go_wp2_with (refine HG.out.mono ?_
                   rintro e w2 ⟨A0, n0, c0, rfl, hl0, hb0⟩
                   have HL0 := Lib.hid (And.intro hl0 hb0)
                   clear hl0 hb0)
      go_loopw [6, 8, 27] (fun v t i W => ∃ j : Nat, j ≤ ss.length ∧ i = .int .i64 j ∧ ∃ A n c, v = .slice A n c ∧ LstR 2 90 (w0.heap.size ≤ ·) W A n c (flat tcl (alls (ss.take j))) ∧ Below w0.heap.size w0 W) (fun v t i _ => ss.length - (intOf i).toNat)
      case atStart => exact ⟨0, Nat.zero_le _, rfl, A0, n0, c0, rfl, HL0.out.1, HL0.out.2⟩
      case round =>
        obtain ⟨j, hj, rfl, A, n, c, rfl, hl, hb⟩ := hrel
        by_cases hlt2 : j < ss.length
        · have d := HC.out wr hb j hlt2
          have hlt' : (j : Int) < ss.length := by omega
          rw [Nat.zero_add] at d
          have hu := (HH.out.2 _ (List.getElem_mem hlt2)).below hb
          have hn : n = sums (ss.take j) := by
            have h1 := hl.1
            rw [flat_len tcl_len, alls_len _ fun s hs => by
              have h2 := (HH.out.2 s (List.mem_of_mem_take hs)).1
              rw [flat_len tcl_len] at h2
              omega] at h1
            omega
          have hbig : (n + ss[j].n) * 24 ≤ 140737488355328 := by
            have h2 := sums_le ss hlt2
            have h3 := HS.out
            omega
          have HA := Lib.hid (alls_at ss hlt2)
          have HB := Lib.hid hb
          generalize hQ : ss[j] = q at *
          clear hQ hb hn
          go_wp2_with (refine wpList_append_lstR eltM rfl (.tmp 31) (.tmp 32) rfl rfl hl rfl hu hbig ?_
                       rintro v w3 ⟨⟨A', n', c', rfl, hl'⟩, hst⟩
                       have HL := Lib.hid (And.intro hl' hst)
                       clear hl' hst)
          go_roundw
          case rel =>
            refine ⟨j + 1, by omega, by go_num, A', n', c', rfl, ?_, HB.out.trans (HL.out.2.below HB.out.size fun k hk => hk)⟩
            rw [HA.out, flat_app]
            exact HL.out.1.mono fun k hk => by
              rcases hk with hk | hk
              · exact hk
              · exact Nat.le_trans HB.out.size hk
          case measure => simp [intOf]; omega
        · obtain rfl : j = ss.length := by omega
          rw [List.take_length] at hl
          have HL := Lib.hid (And.intro hl hb)
          clear hl hb
          go_wp2
          go_ret
          exact ⟨A, n, c, rfl, HL.out.1, HL.out.2⟩
end
end Go.Proofs.Ytainmpeiicinmaa.Ws
