/- Bitmaps that nobody made. -/
import Derived.Test.YtcffmghpgbkcdaaB6
set_option linter.unusedSimpArgs false
set_option linter.unusedVariables false
namespace Go.Proofs.Ytcffmghpgbkcdaa
open Go.RowKit Go.Shelf
/-- Nobody made it. -/
def NoBm (w : World) (P : Option Addr) : Prop := P = none ∨ ∃ p, P = some ⟨p, 0, none⟩ ∧ Bk w 55 p zB
theorem NoBm.below {w w' : World} {P : Option Addr} (h : NoBm w P) (hb : Below w.heap.size w w') : NoBm w' P := by
  rcases h with h | ⟨p, e, h⟩
  · exact .inl h
  · exact .inr ⟨p, e, h.below hb⟩
theorem NoBm.alloc {w : World} {P : Option Addr} (h : NoBm w P) (o : Obj) : NoBm (w.alloc o) P := h.below ((Below.refl _ _).alloc (Nat.le_refl _) o)
def NoT (g1 g2 : Nat) (P : Option Addr) (k : Nat) : Prop := k = g1 ∨ k = g2 ∨ ∃ p, P = some ⟨p, 0, none⟩ ∧ k = p
theorem NoBm.kps {w W : World} {P : Option Addr} {g1 g2 : Nat} (h : NoBm w P) (hK : KpS (NoT g1 g2 P) w W) : NoBm W P := by
  rcases h with h | ⟨p, e, h⟩
  · exact .inl h
  · exact .inr ⟨p, e, (hK p (.inr (.inr ⟨p, e, rfl⟩))).trans h⟩
theorem NoBm.lt {w : World} {P : Option Addr} {g1 g2 : Nat} (h : NoBm w P) (h1 : g1 < w.heap.size) (h2 : g2 < w.heap.size) : ∀ k, NoT g1 g2 P k → k < w.heap.size := by
  rintro k (rfl | rfl | ⟨p, e, rfl⟩)
  · exact h1
  · exact h2
  · rcases h with h | ⟨p', e', h⟩
    · rw [h] at e; cases e
    · rw [e] at e'; cases e'; exact h.lt
section
variable {w : World} {P : Option Addr}
theorem no_made (h : NoBm w P) : Calls Try.prog 23 #[.pointer P] w fun e w' => e = .returned (.bool false) ∧ w = w' := by
  rcases h with rfl | ⟨p, rfl, h⟩
  · go_enter Try.func23, Try.ntmps23
    go_wp2
    go_ret
    exact ⟨rfl, rfl⟩
  · have c0 := h.cell 0 (v := .int .i64 0) rfl
    go_enter Try.func23, Try.ntmps23
    go_wp2
    go_ret
    exact ⟨rfl, rfl⟩
theorem no_size (h : NoBm w P) : Calls Try.prog 20 #[.pointer P] w fun e w' => e = .returned (.int .i64 0) ∧ w = w' := by
  go_enter Try.func20, Try.ntmps20
  go_wp2_with (go_at_call 23; refine (no_made h).mono ?_; rintro e w' ⟨rfl, rfl⟩)
  go_ret
  exact ⟨rfl, rfl⟩
theorem no_base (h : NoBm w P) : Calls Try.prog 16 #[.pointer P] w fun e w' => e = .returned (.int .i64 0) ∧ w = w' := by
  go_enter Try.func16, Try.ntmps16
  go_wp2_with (go_at_call 23; refine (no_made h).mono ?_; rintro e w' ⟨rfl, rfl⟩)
  go_ret
  exact ⟨rfl, rfl⟩
theorem no_reaches (h : NoBm w P) (x : Int) : Calls Try.prog 24 #[.pointer P, .int .i64 x] w fun e w' => e = .returned (.bool false) ∧ Below w.heap.size w w' := by
  have hM := Lib.hid (fun n => no_made (h.below (Below.drewN_ w n)))
  go_enter Try.func24, Try.ntmps24
  go_wp2
  go_quiet (exact (hM.out _).mono fun _ _ h => ⟨h.1, _, h.2.symm⟩)
  go_wp2
  go_ret
  exact ⟨rfl, Below.drewN_ _ _⟩
theorem no_has (h : NoBm w P) (x : Int) : Calls Try.prog 19 #[.pointer P, .int .i64 x] w fun e w' => e = .returned (.bool false) ∧ Below w.heap.size w w' := by
  go_enter Try.func19, Try.ntmps19
  go_wp2_with (go_at_call 24; refine (no_reaches h x).mono ?_; rintro e w' ⟨rfl, hb⟩)
  go_ret
  exact ⟨rfl, hb⟩
theorem no_set (h : NoBm w P) (x : Int) : Calls Try.prog 12 #[.pointer P, .int .i64 x] w fun e w' => e = .returned (.tuple #[.bool false, .int .i64 4]) ∧ w = w' := by
  go_enter Try.func12, Try.ntmps12
  go_wp2_with (go_at_call 23; refine (no_made h).mono ?_; rintro e w' ⟨rfl, rfl⟩)
  go_ret2
  exact ⟨rfl, rfl⟩
theorem no_fork (h : NoBm w P) : Calls Try.prog 11 #[.pointer P] w fun e w' => e = .returned (.pointer none) ∧ w = w' := by
  go_enter Try.func11, Try.ntmps11
  go_wp2_with (go_at_call 23; refine (no_made h).mono ?_; rintro e w' ⟨rfl, rfl⟩)
  go_ret
  exact ⟨rfl, rfl⟩
theorem no_advance (h : NoBm w P) : Calls Try.prog 9 #[.pointer P] w fun e w' => e = .returned (.int .i64 0) ∧ Below w.heap.size w w' := by
  go_enter Try.func9, Try.ntmps9
  go_wp2
  go_loopw [3] (fun i wr => i = .int .i64 0 ∧ wr = w) (fun i _ => 0)
  case atStart => exact ⟨rfl, rfl⟩
  case round =>
    obtain ⟨rfl, rfl⟩ := hrel
    go_wp2_with (first
      | (go_at_call 16; refine (no_base h).mono ?_; rintro e w' ⟨rfl, rfl⟩)
      | (go_at_call 19; refine (no_has h 0).mono ?_; rintro e w2 ⟨rfl, hb⟩))
    go_ret
    exact ⟨rfl, hb⟩
end
attribute [local go_sem] Oper.semAt_some
set_option maxRecDepth 100000 in
set_option maxHeartbeats 2000000 in
/-- The iterator that yields nothing. -/
theorem none_stops (fu : Nat) (hfu : 2 ≤ fu) (g1 g2 : Nat) (P : Option Addr) (w : World) (hn : NoBm w P) (hb1 : Bk w 23 g1 [.pointer P]) (hg2 : g2 < w.heap.size) :
    SeqStopsK Fence.wide fu Try.prog 34 #[.pointer (some ⟨g1, 0, none⟩), .pointer (some ⟨g2, 0, none⟩)] (fun i : Fin 0 => #[.int .i64 0]) (KpS (NoT g1 g2 P))
      (fun ys => ys = []) (fun _ => False) 0 w := fun l J Jx W hW hJ hJx hY h0 => by
  have hKW : KpS (NoT g1 g2 P) w W := fun k hk => hW.block k (hn.lt hb1.lt hg2 k hk)
  have e1 : Bk W 23 g1 [.pointer P] := (hKW g1 (.inl rfl)).trans hb1
  have HN := Lib.hid (hn.kps hKW)
  have c1 := e1.cell 0 rfl
  clear hKW hn hb1 e1
  refine callsIn_of_wp Try.func34 rfl trivial ?_ rfl
  simp only [Try.ntmps34, List.size_toArray, List.length_cons, List.length_nil, Nat.reduceAdd, Nat.reduceSub, Array.replicate_succ, Array.replicate_zero, List.push_toArray, List.append_toArray, List.nil_append, List.cons_append]
  gi_wp2
  refine ⟨trivial, fun _ => by omega, (callsIn_wide.2 (no_size HN.out)).mono ?_⟩
  rintro e W1 ⟨rfl, rfl⟩
  clear c1
  gi_wp2
  gi_loopw [8] (fun i' wr => i' = .int .i64 0 ∧ wr = W) (fun i' _ => 0)
  case atStart => exact ⟨rfl, rfl⟩
  case round =>
    obtain ⟨rfl, rfl⟩ := hrel
    gi_wp2
    go_end0
    exact ⟨⟨_, rfl⟩, .inl ⟨_, rfl, h0⟩⟩
set_option maxRecDepth 100000 in
set_option maxHeartbeats 4000000 in
theorem no_count {w : World} {P : Option Addr} (h : NoBm w P) :
    Calls Try.prog 15 #[.pointer P] w fun e w' => e = .returned (.int .i64 0) ∧ Below w.heap.size w w' := by
  refine (callsIn_wide (n := 5)).1 ?_
  refine callsIn_of_wp_marks Try.func15 rfl trivial ?_ rfl
  simp only [Try.ntmps15, List.size_toArray, List.length_cons, List.length_nil, Nat.reduceAdd, Nat.reduceSub, Array.replicate_succ, Array.replicate_zero, List.push_toArray, List.append_toArray, List.nil_append, List.cons_append]
  have q1 : Bk (w.alloc (.cells #[.int .i64 0] 3)) 3 w.heap.size [.int .i64 0] := Bk.new w 3 [.int .i64 0]
  have hb1 : Below w.heap.size w (w.alloc (.cells #[.int .i64 0] 3)) := (Below.refl _ w).alloc (Nat.le_refl _) _
  have h' := h.below hb1
  have Q := Lib.hid (And.intro q1 hb1)
  clear q1 hb1
  gi_wp2
  refine ⟨trivial, (callsIn_wide.2 (b_numbers _ _ _)).mono ?_⟩
  rintro e W0 ⟨rfl, hr1, hr2, hb2⟩
  obtain ⟨q1, hb1⟩ := Q.out
  have q1' := q1.keep hb2 (by simp)
  have hb0 := hb1.trans (hb2.mono hb1.size)
  have hbm := h'.below hb2
  simp only [World.size_alloc] at hr1 hr2 ⊢
  have hz2 := hr2.lt
  gi_wp2
  refine wpIn_rangeFunc_ownF rfl (by decide) (gf := 34) (lb := #[.pointer (some ⟨w.heap.size + 1, 0, none⟩), .pointer (some ⟨w.heap.size + 1 + 1, 0, none⟩)]) rfl trivial (enters_of Try.func34 (by kernel_rfl) rfl)
    (none_stops (5 - 1) (by decide) (w.heap.size + 1) (w.heap.size + 1 + 1) P W0 hbm hr1 hz2) KpS.trans (KpS.put (hbm.lt hr1.lt hz2)) (Below.refl _ _) (fun _ => rfl)
    (fun pre => Cnt w W0.heap.size w.heap.size 0) (fun _ _ _ => False) (fun pre W W' row hI hw hr => hI.own (by omega) (Nat.le_refl _) (by omega) hw hr) (fun _ _ _ _ _ hs _ _ => hs) ⟨hb0, Nat.le_refl _, q1'⟩
    (fun i => i.elim0) ?assign ?body ?done ?stop
  case assign =>
    intro l x
    exact x.elim0
  case body =>
    intro l pre x
    exact x.elim0
  case done =>
    rintro D ys W hD rfl ⟨hb, hsz, r⟩ hK
    have cl := r.cell 0 rfl
    gi_wp2
    refine ⟨by simp, .inl ⟨_, _, rfl, run_takeDeferred hK, ?_⟩⟩
    refine ⟨_, results_tmp rfl _ _ _, ?_⟩
    refine ⟨rfl, hb.os, hb.tape, hb.output, by have := hb.size; simp [World.putObj]; omega, fun k hk => ?_⟩
    rw [World.putObj_heap_other (by omega)]
    exact hb.block k hk
  case stop =>
    rintro D c' pre W hD _ h _
    exact h.elim
set_option maxRecDepth 100000 in
set_option maxHeartbeats 4000000 in
theorem no_appSeq {w : World} {P : Option Addr} {g1 g2 : Nat} (h : NoBm w P) (hr1 : Bk w 23 g1 [.pointer P]) (hz2 : g2 < w.heap.size) :
    Calls Try.prog 35 #[.slice none 0 0, .func (.func 34) #[] #[.pointer (some ⟨g1, 0, none⟩), .pointer (some ⟨g2, 0, none⟩)]] w (Made 3 [] w) := by
  have hz1 := hr1.lt
  refine (callsIn_wide (n := 5)).1 ?_
  refine callsIn_of_wp_marks Try.func35 rfl trivial ?_ rfl
  simp only [Try.ntmps35, List.size_toArray, List.length_cons, List.length_nil, Nat.reduceAdd, Nat.reduceSub, Array.replicate_succ, Array.replicate_zero, List.push_toArray, List.append_toArray, List.nil_append, List.cons_append]
  have q1 : Bk (w.alloc (.cells #[.slice none 0 0] 27)) 27 w.heap.size [.slice none 0 0] := Bk.new w 27 [.slice none 0 0]
  have hb1 : Below w.heap.size w (w.alloc (.cells #[.slice none 0 0] 27)) := (Below.refl _ w).alloc (Nat.le_refl _) _
  have Q := Lib.hid (And.intro q1 hb1)
  have h' := h.below hb1
  have hr1' := hr1.below hb1
  clear q1 hb1
  gi_wp2
  obtain ⟨q1, hb1⟩ := Q.out
  have hss : (w.alloc (.cells #[.slice none 0 0] 27)).heap.size = w.heap.size + 1 := by simp
  generalize (w.alloc (.cells #[.slice none 0 0] 27)) = W0 at *
  refine wpIn_rangeFunc_ownF rfl (by decide) (gf := 34) (lb := #[.pointer (some ⟨g1, 0, none⟩), .pointer (some ⟨g2, 0, none⟩)]) rfl trivial (enters_of Try.func34 (by kernel_rfl) rfl)
    (none_stops (5 - 1) (by decide) g1 g2 P W0 h' hr1' (by omega)) KpS.trans (KpS.put (fun k hk => by have := h.lt hr1.lt hz2 k hk; omega)) (Below.refl _ _) (fun _ => rfl)
    (fun pre => Col 27 3 w W0.heap.size w.heap.size []) (fun _ _ _ => False) (fun pre W W' row hI hw hr => hI.own (by omega) (Nat.le_refl _) (by omega) hw hr) (fun _ _ _ _ _ hs _ _ => hs) ⟨hb1, Nat.le_refl _, none, 0, 0, q1, Lst.nil _ _ _⟩
    (fun i => i.elim0) ?assign ?body ?done ?stop
  case assign =>
    intro l x
    exact x.elim0
  case body =>
    intro l pre x
    exact x.elim0
  case done =>
    rintro D ys W hD rfl ⟨hb, hsz, A, n, c, r, hl⟩ hK
    have cl := r.cell 0 rfl
    gi_wp2
    refine ⟨by simp, .inl ⟨_, _, rfl, run_takeDeferred hK, ?_⟩⟩
    refine ⟨_, results_tmp rfl _ _ _, ?_⟩
    exact Col.shut0 (t := 27) (v := w.heap.size) hb hl hK (by omega) (by omega)
  case stop =>
    rintro D c' pre W hD _ h _
    exact h.elim
theorem no_collect {w : World} {P : Option Addr} {g1 g2 : Nat} (h : NoBm w P) (hr1 : Bk w 23 g1 [.pointer P]) (hz2 : g2 < w.heap.size) :
    Calls Try.prog 30 #[.func (.func 34) #[] #[.pointer (some ⟨g1, 0, none⟩), .pointer (some ⟨g2, 0, none⟩)]] w (Made 3 [] w) := by
  have HS := Lib.hid (no_appSeq h hr1 hz2)
  clear h hr1 hz2
  go_enter Try.func30, Try.ntmps30
  go_wp2_with fail
  refine HS.out.mono ?_
  rintro e w2 ⟨A, n, c, rfl, hl, hb2⟩
  have HL := Lib.hid (And.intro hl hb2)
  clear hl hb2
  go_wp2
  go_ret
  exact ⟨A, n, c, rfl, HL.out.1, HL.out.2⟩
theorem no_list {w : World} {P : Option Addr} (h : NoBm w P) :
    Calls Try.prog 18 #[.pointer P] w (Made 3 [] w) := by
  have H := Lib.hid h
  clear h
  go_enter Try.func18, Try.ntmps18
  go_wp2_with fail
  refine (b_numbers _ _ _).mono ?_
  rintro e w1 ⟨rfl, hr1, hr2, hb⟩
  have HS := Lib.hid (no_collect (H.out.below hb) hr1 hr2.lt)
  have HB := Lib.hid hb
  clear hr1 hr2 hb
  go_wp2_with fail
  refine HS.out.mono ?_
  rintro e w2 ⟨A, n, c, rfl, hl, hb2⟩
  have HL := Lib.hid hl
  have HB2 := Lib.hid hb2
  clear hl hb2
  go_wp2
  go_ret
  exact ⟨A, n, c, rfl, HL.out.mono fun k hk => Nat.le_trans HB.out.size hk, HB.out.trans (HB2.out.mono HB.out.size)⟩
set_option maxRecDepth 100000 in
set_option maxHeartbeats 4000000 in
theorem no_lacking {w : World} {P : Option Addr} (h : NoBm w P) (most : Int) :
    Calls Try.prog 21 #[.pointer P, .int .i64 most] w (Made 3 [] w) := by
  obtain ⟨w0, hw0⟩ : ∃ w0, w0 = (w.alloc (.cells #[.int .i64 most] 3)).alloc (.cells #[.slice none 0 0] 27) := ⟨_, rfl⟩
  have q1 : Bk w0 27 (w.heap.size + 1) [.slice none 0 0] := by
    have := Bk.new (w.alloc (.cells #[.int .i64 most] 3)) 27 [.slice none 0 0]
    rw [World.size_alloc] at this
    rw [hw0]; exact this
  have hb1 : Below w.heap.size w w0 := by rw [hw0]; exact (((Below.refl _ w).alloc (Nat.le_refl _) _).alloc (by simp) _)
  have hz : w0.heap.size = w.heap.size + 2 := by rw [hw0]; simp
  have h' := h.below hb1
  have HW := Lib.hid hw0
  have Q := Lib.hid (And.intro q1 (And.intro hb1 hz))
  clear q1 hb1 hz hw0
  refine (callsIn_wide (n := 5)).1 ?_
  refine callsIn_of_wp_marks Try.func21 rfl trivial ?_ rfl
  simp only [Try.ntmps21, List.size_toArray, List.length_cons, List.length_nil, Nat.reduceAdd, Nat.reduceSub, Array.replicate_succ, Array.replicate_zero, List.push_toArray, List.append_toArray, List.nil_append, List.cons_append]
  gi_wp2
  rw [← HW.out]
  refine ⟨trivial, (callsIn_wide.2 (b_numbers _ _ _)).mono ?_⟩
  rintro e W0 ⟨rfl, hr1, hr2, hb2⟩
  obtain ⟨q1, hb1, hz⟩ := Q.out
  have q1' := q1.below hb2
  have hb0 := hb1.trans (hb2.mono hb1.size)
  have hbm := h'.below hb2
  rw [hz] at hr1 hr2 ⊢
  have hz2 := hr2.lt
  clear Q hb2 q1 h'
  gi_wp2
  refine wpIn_rangeFunc_ownF rfl (by decide) (gf := 34) (lb := #[.pointer (some ⟨w.heap.size + 2, 0, none⟩), .pointer (some ⟨w.heap.size + 2 + 1, 0, none⟩)]) rfl trivial (enters_of Try.func34 (by kernel_rfl) rfl)
    (none_stops (5 - 1) (by decide) (w.heap.size + 2) (w.heap.size + 2 + 1) P W0 hbm hr1 hz2) KpS.trans (KpS.put (hbm.lt hr1.lt hz2)) (Below.refl _ _) (fun _ => rfl)
    (fun pre => Col 27 3 w W0.heap.size (w.heap.size + 1) []) (fun _ _ _ => False) (fun pre W W' row hI hw hr => hI.own (by omega) (Nat.le_refl _) (by omega) hw hr) (fun _ _ _ _ _ hs _ _ => hs) ⟨hb0, Nat.le_refl _, none, 0, 0, q1', Lst.nil _ _ _⟩
    (fun i => i.elim0) ?assign ?body ?done ?stop
  case assign =>
    intro l x
    exact x.elim0
  case body =>
    intro l pre x
    exact x.elim0
  case done =>
    rintro D ys W hD rfl ⟨hb, hsz, A, n, c, r, hl⟩ hK
    have cl := r.cell 0 rfl
    gi_wp2
    refine ⟨by simp, .inl ⟨_, _, rfl, run_takeDeferred hK, ?_⟩⟩
    refine ⟨_, results_tmp rfl _ _ _, ?_⟩
    exact Col.shut0 (t := 27) (v := w.heap.size + 1) hb hl hK (by omega) (by omega)
  case stop =>
    rintro D c' pre W hD _ h _
    exact h.elim
end Go.Proofs.Ytcffmghpgbkcdaa
