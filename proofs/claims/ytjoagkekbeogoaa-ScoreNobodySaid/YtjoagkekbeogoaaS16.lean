/- Scores that nobody made. -/
import Derived.Test.YtjoagkekbeogoaaS13
set_option linter.unusedSimpArgs false
set_option linter.unusedVariables false
namespace Go.Proofs.Ytjoagkekbeogoaa
open Go.RowKit Go.Shelf

/-- Nobody made it. -/
def NoSc (w : World) (P : Option Addr) : Prop := P = none ∨ ∃ p vs, P = some ⟨p, 0, none⟩ ∧ Bk w 53 p (.int .i64 0 :: vs)
theorem NoSc.below {w w' : World} {P : Option Addr} (h : NoSc w P) (hb : Below w.heap.size w w') : NoSc w' P := by
  rcases h with h | ⟨p, vs, h1, h2⟩
  · exact .inl h
  · exact .inr ⟨p, vs, h1, h2.below hb⟩
theorem NoSc.alloc {w : World} {P : Option Addr} (h : NoSc w P) (o : Obj) : NoSc (w.alloc o) P := h.below ((Below.refl _ _).alloc (Nat.le_refl _) o)
section
variable {w : World} {P : Option Addr}
theorem no_made (h : NoSc w P) : Calls Try.prog 28 #[.pointer P] w fun e w' => e = .returned (.bool false) ∧ w = w' := by
  rcases h with rfl | ⟨p, vs, rfl, h⟩
  · go_enter Try.func28, Try.ntmps28
    go_wp2
    go_ret
    exact ⟨rfl, rfl⟩
  · have c0 := h.cell 0 rfl
    go_enter Try.func28, Try.ntmps28
    go_wp2
    go_ret
    exact ⟨rfl, rfl⟩
theorem no_has (h : NoSc w P) (x : Int) : Calls Try.prog 31 #[.pointer P, .int .i64 x] w fun e w' => e = .returned (.bool false) ∧ w = w' := by
  go_enter Try.func31, Try.ntmps31
  go_wp2_with (go_at_call 28; refine (no_made h).mono ?_; rintro e w' ⟨rfl, rfl⟩)
  go_ret
  exact ⟨rfl, rfl⟩
theorem no_rests (h : NoSc w P) (x : Int) : Calls Try.prog 22 #[.pointer P, .int .i64 x] w fun e w' => e = .returned (.int .i64 0) ∧ w = w' := by
  go_enter Try.func22, Try.ntmps22
  go_wp2_with (go_at_call 31; refine (no_has h x).mono ?_; rintro e w' ⟨rfl, rfl⟩)
  go_ret
  exact ⟨rfl, rfl⟩
theorem no_counts (h : NoSc w P) (x : Int) : Calls Try.prog 23 #[.pointer P, .int .i64 x] w fun e w' => e = .returned (.agg ((tabI 3 (fun _ => 0)).map (.int .i64)).toArray) ∧ Below w.heap.size w w' := by
  have hz := Bk.new w 48 (tabV 3 (fun _ => 0))
  have h' := h.alloc (.cells (tabV 3 (fun _ => 0)).toArray 48)
  go_enter Try.func23, Try.ntmps23
  go_wp2_with (first
    | (go_at_call 31; refine (no_has h' x).mono ?_; rintro e w' ⟨rfl, rfl⟩)
    | (with_reducible refine at_store 48 (.tmp 4) (.tmp 9) (by rfl) ?_; refine wpList_store_bk row3 rfl (.tmp 4) (.tmp 9) rfl w.heap.size 0 rfl hz (tabV 3 (fun _ => 0)) rfl (tabV_len _ _) (by decide) (tabV_one _ _) ?_; rintro w5 hr5 hw5))
  rw [lay_all _ _ (by simp only [tabV_len])] at hr5
  exact bodyPost_ret (results_cell rfl rfl (row3.load hr5 0 (tabV_len _ _) (List.take_of_length_le (by simp)))) rfl ⟨rfl, ((Below.refl _ _).alloc (Nat.le_refl _) _).trans (hw5.below (Nat.le_refl _) (by simp))⟩
theorem no_add (h : NoSc w P) (x k : Int) : Calls Try.prog 24 #[.pointer P, .int .i64 x, .int .i64 k] w fun e w' => e = .returned (.int .i64 4) ∧ w = w' := by
  go_enter Try.func24, Try.ntmps24
  go_wp2_with (go_at_call 28; refine (no_made h).mono ?_; rintro e w' ⟨rfl, rfl⟩)
  go_ret
  exact ⟨rfl, rfl⟩
theorem no_ack (h : NoSc w P) (x : Int) : Calls Try.prog 9 #[.pointer P, .int .i64 x] w fun e w' => e = .returned (.int .i64 4) ∧ w = w' := by
  go_enter Try.func9, Try.ntmps9
  go_wp2_with (go_at_call 24; refine (no_add h x _).mono ?_; rintro e w' ⟨rfl, rfl⟩)
  go_ret
  exact ⟨rfl, rfl⟩
theorem no_blame (h : NoSc w P) (x k : Int) : Calls Try.prog 26 #[.pointer P, .int .i64 x, .int .i64 k] w fun e w' => e = .returned (.int .i64 4) ∧ w = w' := by
  go_enter Try.func26, Try.ntmps26
  go_wp2_with (go_at_call 24; refine (no_add h x _).mono ?_; rintro e w' ⟨rfl, rfl⟩)
  go_ret
  exact ⟨rfl, rfl⟩
theorem no_nack (h : NoSc w P) (x : Int) : Calls Try.prog 11 #[.pointer P, .int .i64 x] w fun e w' => e = .returned (.int .i64 4) ∧ w = w' := by
  go_enter Try.func11, Try.ntmps11
  go_wp2_with (go_at_call 26; refine (no_blame h x _).mono ?_; rintro e w' ⟨rfl, rfl⟩)
  go_ret
  exact ⟨rfl, rfl⟩
theorem no_bounce (h : NoSc w P) (x : Int) : Calls Try.prog 12 #[.pointer P, .int .i64 x] w fun e w' => e = .returned (.int .i64 4) ∧ w = w' := by
  go_enter Try.func12, Try.ntmps12
  go_wp2_with (go_at_call 26; refine (no_blame h x _).mono ?_; rintro e w' ⟨rfl, rfl⟩)
  go_ret
  exact ⟨rfl, rfl⟩
theorem no_clear (h : NoSc w P) : Calls Try.prog 16 #[.pointer P] w fun e w' => e = .returned (.tuple #[]) ∧ w = w' := by
  go_enter Try.func16, Try.ntmps16
  go_wp2_with (go_at_call 28; refine (no_made h).mono ?_; rintro e w' ⟨rfl, rfl⟩)
  go_end0
  exact ⟨rfl, rfl⟩
theorem no_fork (h : NoSc w P) : Calls Try.prog 18 #[.pointer P] w fun e w' => e = .returned (.pointer none) ∧ w = w' := by
  go_enter Try.func18, Try.ntmps18
  go_wp2_with (go_at_call 28; refine (no_made h).mono ?_; rintro e w' ⟨rfl, rfl⟩)
  go_ret
  exact ⟨rfl, rfl⟩
theorem no_iter (h : NoSc w P) : Calls Try.prog 27 #[.pointer P] w fun e w' => e = .returned (.func (.func 33) #[] #[]) ∧ w = w' := by
  go_enter Try.func27, Try.ntmps27
  go_wp2_with (go_at_call 28; refine (no_made h).mono ?_; rintro e w' ⟨rfl, rfl⟩)
  go_ret
  exact ⟨rfl, rfl⟩
end
attribute [local go_sem] Oper.semAt_some
/-- The iterator that yields nothing. -/
theorem none_stops (fu : Nat) (hfu : 1 ≤ fu) (T : Nat → Prop) (w : World) :
    SeqStopsK Fence.wide fu Try.prog 33 #[] (fun i : Fin 0 => #[.int .i64 0, .bool false]) (KpS T)
      (fun ys => ys = []) (fun _ => False) 0 w := fun l J Jx W hW hJ hJx hY h0 => by
  refine callsIn_of_wp Try.func33 rfl trivial ?_ rfl
  simp only [Try.ntmps33, List.size_toArray, List.length_cons, List.length_nil, Nat.reduceAdd, Nat.reduceSub, Array.replicate_succ, Array.replicate_zero, List.push_toArray, List.append_toArray, List.nil_append, List.cons_append]
  gi_wp2
  go_end0
  exact ⟨⟨_, rfl⟩, h0⟩
set_option maxRecDepth 100000 in
set_option maxHeartbeats 4000000 in
theorem no_active {w : World} {P : Option Addr} (h : NoSc w P) : Calls Try.prog 20 #[.pointer P] w (Made 3 [] w) := by
  refine (callsIn_wide (n := 5)).1 ?_
  refine callsIn_of_wp_marks Try.func20 rfl trivial ?_ rfl
  simp only [Try.ntmps20, List.size_toArray, List.length_cons, List.length_nil, Nat.reduceAdd, Nat.reduceSub, Array.replicate_succ, Array.replicate_zero, List.push_toArray, List.append_toArray, List.nil_append, List.cons_append]
  obtain ⟨w1, hw1⟩ : ∃ w1, w1 = w.alloc (.cells #[.slice none 0 0] 37) := ⟨_, rfl⟩
  have q1 : Bk w1 37 w.heap.size [.slice none 0 0] := by rw [hw1]; exact Bk.new w 37 [.slice none 0 0]
  have hb1 : Below w.heap.size w w1 := by rw [hw1]; exact (Below.refl _ w).alloc (Nat.le_refl _) _
  have hz : w1.heap.size = w.heap.size + 1 := by rw [hw1]; simp
  have h' : NoSc (w.alloc (.cells #[.slice none 0 0] 37)) P := h.alloc _
  have Q := Lib.hid (And.intro q1 (And.intro hb1 hz))
  have HW := Lib.hid hw1
  clear q1 hb1 hz hw1
  gi_wp2
  refine ⟨trivial, (callsIn_wide.2 (no_iter h')).mono ?_⟩
  rintro e W0 ⟨rfl, rfl⟩
  rw [← HW.out]
  obtain ⟨q1, hb1, hz⟩ := Q.out
  clear h'
  gi_wp2
  have hW := HW.out
  try rw [← hW]
  refine wpIn_rangeFunc_ownF rfl (by decide) (gf := 33) (lb := #[]) rfl trivial (enters_of Try.func33 (by kernel_rfl) rfl)
    (none_stops (5 - 1) (by decide) (fun _ => False) w1) KpS.trans (KpS.put (fun k hk => hk.elim)) (Below.refl _ _) (fun _ => rfl)
    (fun pre => Col 37 3 w w1.heap.size w.heap.size []) (fun _ _ _ => False) (fun pre W W' row hI hw hr => hI.own (by omega) (Nat.le_refl _) (by omega) hw hr) (fun _ _ _ _ _ hs _ _ => hs) ⟨hb1, Nat.le_refl _, none, 0, 0, q1, Lst.nil _ _ _⟩
    (fun i => i.elim0) ?assign ?body ?done ?stop
  case assign =>
    intro l x
    exact x.elim0
  case body =>
    intro l pre x
    exact x.elim0
  case done =>
    rintro D ys W hD rfl ⟨hb, hsz, A, n, c, r, hl⟩ hK
    have cl := r.cell 0 rfl
    gi_wp2
    refine ⟨by simp, .inl ⟨_, _, rfl, run_takeDeferred hK, ?_⟩⟩
    refine ⟨_, results_tmp rfl _ _ _, ?_⟩
    exact Col.shut0 (t := 37) (v := w.heap.size) hb hl hK (by omega) (by omega)
  case stop =>
    rintro D c' pre W hD _ h _
    exact h.elim
set_option maxRecDepth 100000 in
set_option maxHeartbeats 4000000 in
theorem no_tick {w : World} {P : Option Addr} (h : NoSc w P) : Calls Try.prog 15 #[.pointer P] w (Made 3 [] w) := by
  refine (callsIn_wide (n := 5)).1 ?_
  refine callsIn_of_wp_marks Try.func15 rfl trivial ?_ rfl
  simp only [Try.ntmps15, List.size_toArray, List.length_cons, List.length_nil, Nat.reduceAdd, Nat.reduceSub, Array.replicate_succ, Array.replicate_zero, List.push_toArray, List.append_toArray, List.nil_append, List.cons_append]
  obtain ⟨w1, hw1⟩ : ∃ w1, w1 = (w.alloc (.cells #[.pointer P] 23)).alloc (.cells #[.slice none 0 0] 37) := ⟨_, rfl⟩
  have q1 : Bk w1 37 (w.heap.size + 1) [.slice none 0 0] := by
    have := Bk.new (w.alloc (.cells #[.pointer P] 23)) 37 [.slice none 0 0]
    rw [World.size_alloc] at this
    rw [hw1]; exact this
  have hb1 : Below w.heap.size w w1 := by rw [hw1]; exact ((Below.refl _ w).alloc (Nat.le_refl _) _).alloc (by simp) _
  have hz : w1.heap.size = w.heap.size + 2 := by rw [hw1]; simp
  have h' : NoSc ((w.alloc (.cells #[.pointer P] 23)).alloc (.cells #[.slice none 0 0] 37)) P := (h.alloc _).alloc _
  have Q := Lib.hid (And.intro q1 (And.intro hb1 hz))
  have HW := Lib.hid hw1
  clear q1 hb1 hz hw1
  gi_wp2
  refine ⟨trivial, (callsIn_wide.2 (no_iter h')).mono ?_⟩
  rintro e W0 ⟨rfl, rfl⟩
  rw [← HW.out]
  obtain ⟨q1, hb1, hz⟩ := Q.out
  clear h'
  gi_wp2
  have hW := HW.out
  try rw [← hW]
  refine wpIn_rangeFunc_ownF rfl (by decide) (gf := 33) (lb := #[]) rfl trivial (enters_of Try.func33 (by kernel_rfl) rfl)
    (none_stops (5 - 1) (by decide) (fun _ => False) w1) KpS.trans (KpS.put (fun k hk => hk.elim)) (Below.refl _ _) (fun _ => rfl)
    (fun pre => Col 37 3 w w1.heap.size (w.heap.size + 1) []) (fun _ _ _ => False) (fun pre W W' row hI hw hr => hI.own (by omega) (Nat.le_refl _) (by omega) hw hr) (fun _ _ _ _ _ hs _ _ => hs) ⟨hb1, Nat.le_refl _, none, 0, 0, q1, Lst.nil _ _ _⟩
    (fun i => i.elim0) ?assign ?body ?done ?stop
  case assign =>
    intro l x
    exact x.elim0
  case body =>
    intro l pre x
    exact x.elim0
  case done =>
    rintro D ys W hD rfl ⟨hb, hsz, A, n, c, r, hl⟩ hK
    have cl := r.cell 0 rfl
    gi_wp2
    refine ⟨by simp, .inl ⟨_, _, rfl, run_takeDeferred hK, ?_⟩⟩
    refine ⟨_, results_tmp rfl _ _ _, ?_⟩
    exact Col.shut0 (t := 37) (v := (w.heap.size + 1)) hb hl hK (by omega) (by omega)
  case stop =>
    rintro D c' pre W hD _ h _
    exact h.elim
set_option maxRecDepth 100000 in
set_option maxHeartbeats 4000000 in
theorem no_actives {w : World} {P : Option Addr} (h : NoSc w P) : Calls Try.prog 21 #[.pointer P, .int .i64 9] w fun e w' => ∃ A1 c1 A2 c2, e = .returned (.tuple #[.slice A1 0 c1, .slice A2 0 c2]) ∧ Below w.heap.size w w' := by
  have fn := fun (w : World) (f : Fn) (ts b : Array Value) => run_func_nil w f ts b
  refine (callsIn_wide (n := 5)).1 ?_
  refine callsIn_of_wp_marks Try.func21 rfl trivial ?_ rfl
  simp only [Try.ntmps21, List.size_toArray, List.length_cons, List.length_nil, Nat.reduceAdd, Nat.reduceSub, Array.replicate_succ, Array.replicate_zero, List.push_toArray, List.append_toArray, List.nil_append, List.cons_append]
  obtain ⟨w1, hw1⟩ : ∃ w1, w1 = ((w.alloc (.cells #[.int .i64 9] 3)).alloc (.cells #[.slice none 0 0] 37)).alloc (.cells #[.slice none 0 0] 55) := ⟨_, rfl⟩
  have q0 : Bk w1 3 w.heap.size [.int .i64 9] := by rw [hw1]; exact ((Bk.new w _ [.int .i64 9]).alloc _).alloc _
  have q1 : Bk w1 37 (w.heap.size + 1) [.slice none 0 0] := by
    have := (Bk.new (w.alloc (.cells #[.int .i64 9] 3)) 37 [.slice none 0 0]).alloc (.cells #[.slice none 0 0] 55)
    rw [hw1]; simpa using this
  have q2 : Bk w1 55 (w.heap.size + 2) [.slice none 0 0] := by
    have := Bk.new ((w.alloc (.cells #[.int .i64 9] 3)).alloc (.cells #[.slice none 0 0] 37)) 55 [.slice none 0 0]
    rw [hw1]; simpa using this
  have hb1 : Below w.heap.size w w1 := by rw [hw1]; exact (((Below.refl _ w).alloc (Nat.le_refl _) _).alloc (by simp) _).alloc (by simp; omega) _
  have hz : w1.heap.size = w.heap.size + 3 := by rw [hw1]; simp
  have h' : NoSc w1 P := by rw [hw1]; exact ((h.alloc _).alloc _).alloc _
  have Q := Lib.hid (And.intro q0 (And.intro q1 (And.intro q2 (And.intro hb1 hz))))
  have HW := Lib.hid hw1
  clear q0 q1 q2 hb1 hz hw1
  gi_wp2
  rw [← HW.out]
  refine ⟨trivial, (callsIn_wide.2 (no_iter h')).mono ?_⟩
  rintro e W0 ⟨rfl, rfl⟩
  obtain ⟨q0, q1, q2, hb1, hz⟩ := Q.out
  clear h' HW
  gi_wp2
  clear fn
  refine wpIn_rangeFunc_ownF rfl (by decide) (gf := 33) (lb := #[]) rfl trivial (enters_of Try.func33 (by kernel_rfl) rfl)
    (none_stops (5 - 1) (by decide) (fun _ => False) w1) KpS.trans (KpS.put (fun k hk => hk.elim)) (Below.refl _ _) (fun _ => rfl)
    (fun pre => TwI w (w.heap.size + 3) 9 [] []) (fun _ _ _ => False) (fun pre W W' row hI hw hr => hI.own (Nat.le_refl _) (by omega) hw hr) (fun _ _ _ _ _ hs _ _ => hs) ⟨q0, hb1, by omega, none, 0, 0, none, 0, 0, q1, q2, Lst.nil _ _ _, Lst.nil _ _ _, sep_none _⟩
    (fun i => i.elim0) ?assign ?body ?done ?stop
  case assign =>
    intro l x
    exact x.elim0
  case body =>
    intro l pre x
    exact x.elim0
  case done =>
    rintro D ys W hD rfl ⟨r0, hb, hsz, A1, n1, c1, A2, n2, c2, r1, r2, l1, l2, sp⟩ hK
    have hn1 : n1 = 0 := by rw [← l1.1]; rfl
    have hn2 : n2 = 0 := by rw [← l2.1]; rfl
    subst hn1
    subst hn2
    have d1 := r1.cell 0 rfl
    have d2 := r2.cell 0 rfl
    clear q0 q1 q2 l1 l2 r1 r2 r0
    gi_wp2
    gi_quiet (fail)
    gi_wp2
    refine ⟨by simp, .inl ⟨_, _, rfl, run_takeDeferred hK, ?_⟩⟩
    refine ⟨.tuple #[.slice A1 0 c1, .slice A2 0 c2], by simp [results, Try.results21, go_sem], ?_⟩
    refine ⟨A1, c1, A2, c2, rfl, ⟨hb.os, hb.tape, hb.output, by have := hb.size; simp [World.putObj]; omega, fun k hk => ?_⟩⟩
    rw [World.putObj_heap_other (by omega)]
    exact hb.block k hk
  case stop =>
    rintro D c' pre W hD _ h _
    exact h.elim
end Go.Proofs.Ytjoagkekbeogoaa
