/- What an iterator yields, up to a place; a wheel that nobody made. -/
import Derived.Test.YtainmpeiicinmaaW9
set_option linter.unusedSimpArgs false
set_option linter.unusedVariables false
set_option maxRecDepth 100000
namespace Go.Proofs.Ytainmpeiicinmaa.Wi
open Go.RowKit Go.Shelf
def prs (xs : List (Int × Int)) (pre : List (Fin xs.length)) : List Int := pre.flatMap fun i => [xs[i].1, xs[i].2]
def flat2 (xs : List (Int × Int)) : List Int := xs.flatMap fun t => [t.1, t.2]
theorem flat2_len : ∀ xs : List (Int × Int), (flat2 xs).length = 2 * xs.length
  | [] => rfl
  | t :: r => by
    have := flat2_len r
    unfold flat2 at this ⊢
    rw [List.flatMap_cons, List.length_append, this]
    simp
    omega
theorem prs_flat (xs : List (Int × Int)) (pre : List (Fin xs.length)) : prs xs pre = flat2 (pre.map fun i : Fin xs.length => (xs[i] : Int × Int)) := by
  unfold prs flat2
  rw [List.flatMap_map]
theorem prs_len (xs : List (Int × Int)) (pre : List (Fin xs.length)) : (prs xs pre).length = 2 * pre.length := by
  rw [prs_flat, flat2_len, List.length_map]
theorem prs_take (xs : List (Int × Int)) (k : Nat) : prs xs ((List.finRange xs.length).take k) = flat2 (xs.take k) := by
  rw [prs_flat]
  congr 1
  apply List.ext_getElem
  · simp
  · intro i h1 h2
    simp
/-- A list, and yes. -/
def MadeB (vs : List Value) (w : World) (e : Ending) (w' : World) : Prop := ∃ A n c, e = .returned (.tuple #[.slice A n c, .bool true]) ∧ Lst 3 (w.heap.size ≤ ·) w' A n c vs ∧ Below w.heap.size w w'
/-- Between two rounds. -/
structure ToI (w : World) (L v : Nat) (most : Int) (xs : List (Int × Int)) (pre : List (Fin xs.length)) (W : World) : Prop where
  mo : Bk W 3 w.heap.size [.int .i64 most]
  col : Col 38 3 w L v (kvs (prs xs pre)) W
  le : pre.length ≤ most.toNat
theorem ToI.own {w : World} {L v B : Nat} {most : Int} {xs : List (Int × Int)} {pre : List (Fin xs.length)} {W W' : World} {row : Option Nat} (h : ToI w L v most xs pre W) (hv : v < L) (hwL : w.heap.size < L) (hL : L ≤ B) (hw : W.grownBy W' row)
    (hr : ∀ r, row = some r → B ≤ r ∧ ∃ o : Obj, W.heap[r]? = some o ∧ o.isCells = false) : ToI w L v most xs pre W' :=
  ⟨(hw.block _ h.mo.lt (fun e => by have := (hr _ e.symm).1; omega)).trans h.mo, h.col.own hv hL (by omega) hw hr, h.le⟩
section
variable {w w' w1 w2 w3 : World} {g p b b2 bt D : Nat} {m m' : Wm Int} {A : Option Addr} {n c : Nat} {x y : Int} {P : Option Addr}
attribute [local go_sem] Oper.semAt_some
set_option maxHeartbeats 4000000 in
theorem told_core {xs : List (Int × Int)} (hO : ∀ W, Below w.heap.size w W → ∀ g1, Bk W 23 g1 [.pointer P] → OutsB w.heap.size xs g1 W) (hl : xs.length ≤ 1024) (most : Int) (hm0 : 0 ≤ most) (hm1 : most ≤ 2000) :
    Calls Try.prog 19 #[.pointer P, .int .i64 most] w (MadeB (kvs (flat2 (xs.take most.toNat))) w) := by
  obtain ⟨w1, hw1⟩ : ∃ w1, w1 = w.alloc (.cells #[.int .i64 most] 3) := ⟨_, rfl⟩
  have q0 : Bk w1 3 w.heap.size [.int .i64 most] := by rw [hw1]; exact Bk.new w _ [.int .i64 most]
  have hb1 : Below w.heap.size w w1 := by rw [hw1]; exact (Below.refl _ w).alloc (Nat.le_refl _) _
  have hz : w1.heap.size = w.heap.size + 1 := by rw [hw1]; simp
  have HO := Lib.hid hO
  have HW := Lib.hid hw1
  have Q := Lib.hid (And.intro q0 (And.intro hb1 hz))
  clear q0 hb1 hz hw1 hO
  refine (callsIn_wide (n := 5)).1 ?_
  refine callsIn_of_wp_marks Try.func19 rfl trivial ?_ rfl
  simp only [Try.ntmps19, List.size_toArray, List.length_cons, List.length_nil, Nat.reduceAdd, Nat.reduceSub, Array.replicate_succ, Array.replicate_zero, List.push_toArray, List.append_toArray, List.nil_append, List.cons_append]
  gi_wp2
  rw [← HW.out]
  refine ⟨trivial, (callsIn_wide.2 (w_all _ _)).mono ?_⟩
  rintro e W0 ⟨rfl, hr1, hb2⟩
  obtain ⟨q0, hb1, hz⟩ := Q.out
  have q0' := q0.below hb2
  have hb0 := below_on hb1 hb2
  have hz1 := hr1.lt
  rw [hz] at hr1 hz1 ⊢
  have hnl : (binOp BinOp.eql 76 (.func (.func 47) #[] #[.pointer (some ⟨w.heap.size + 1, 0, none⟩)]) .nilFunc).run Try.prog W0 = .ok (.bool false) W0 := by kernel_rfl
  have HQ0 := Lib.hid (And.intro q0' (And.intro hb0 hr1))
  clear Q hb1 hb2 q0 q0' hz hr1
  gi_wp2
  have hba : Below W0.heap.size W0 (W0.alloc (.cells #[.slice none 0 0] 38)) := (Below.refl _ _).alloc (Nat.le_refl _) _
  have qv : Bk (W0.alloc (.cells #[.slice none 0 0] 38)) 38 W0.heap.size [.slice none 0 0] := Bk.new W0 _ [.slice none 0 0]
  have q0' := HQ0.out.1.below hba
  have hb0 := below_on HQ0.out.2.1 hba
  obtain ⟨T, hT, hst⟩ := HO.out _ hb0 (w.heap.size + 1) (HQ0.out.2.2.below hba)
  have hvs : w.heap.size + 1 < W0.heap.size := hz1
  have hsz : (W0.alloc (.cells #[.slice none 0 0] 38)).heap.size = W0.heap.size + 1 := by simp
  generalize hW1 : W0.alloc (.cells #[.slice none 0 0] 38) = W1 at *
  obtain ⟨v, hv⟩ : ∃ v, v = W0.heap.size := ⟨_, rfl⟩
  rw [← hv] at hsz qv hvs ⊢
  have HST := Lib.hid hst
  have hT2 : ∀ q, T q → q < W1.heap.size ∧ q ≠ v := fun q hq => by
    have := hT q hq
    omega
  have HZ := Lib.hid hsz
  clear hst hW1 hba hv
  obtain ⟨L, hL⟩ : ∃ L, L = W1.heap.size := ⟨_, rfl⟩
  have HLz := Lib.hid hL
  have hLw : v < L := by omega
  clear hL hsz
  refine wpIn_rangeFunc_ownF rfl (by decide) (gf := 47) (lb := #[.pointer (some ⟨w.heap.size + 1, 0, none⟩)]) rfl trivial (enters_of Try.func47 (by kernel_rfl) rfl)
    HST.out KpS.trans (KpS.put (fun q hq => (hT2 q hq).1)) (Below.refl _ _) (fun _ => rfl)
    (fun (pre : List (Fin xs.length)) W => ToI w L v most xs pre W) (fun c pre' W => c = .exit 0 ∧ ∃ pre x, pre' = pre ++ [x] ∧ most.toNat ≤ pre.length ∧ ToI w L v most xs pre W) (fun pre W W' row hI hw hr => hI.own (by omega) (by omega) (by have := HLz.out; omega) hw hr) (fun c' => ?own) ⟨q0', ⟨hb0, by have := HLz.out; omega, none, 0, 0, qv, Lst.nil _ _ _⟩, Nat.zero_le _⟩
    (fun i => { tmps := #[.pointer P, .int .i64 most, undef, .pointer (some ⟨w.heap.size, 0, none⟩), .slice none 0 0, .bool false, .func (.func 47) #[] #[.pointer (some ⟨w.heap.size + 1, 0, none⟩)], .pointer (some ⟨v, 0, none⟩), .int .i64 xs[i].1, .int .i64 xs[i].2, .pointer P, .func (.func 47) #[] #[.pointer (some ⟨w.heap.size + 1, 0, none⟩)], .func (.func 47) #[] #[.pointer (some ⟨w.heap.size + 1, 0, none⟩)], .bool false, .func (.func 47) #[] #[.pointer (some ⟨w.heap.size + 1, 0, none⟩)], .int .i64 xs[i].1, .int .i64 xs[i].2, undef, undef, undef, undef, undef, undef, undef, undef, undef, undef, undef], defers := [] }) ?assign ?body ?done ?stop
  case own =>
    rintro pre' W W' row ⟨hc', pre, x, e1, e2, hI⟩ hw hr
    exact ⟨hc', pre, x, e1, e2, hI.own (by omega) (by omega) (by have := HLz.out; omega) hw hr⟩
  case assign =>
    intro l x W K hK
    gi_wp2
    simpa using hK
  case body =>
    rintro l pre x W ⟨r0, ⟨hb, hsz, A, n, c, r, hl'⟩, hle⟩ hpre
    have c0 := r0.cell 0 rfl
    have cl := r.cell 0 rfl
    have fl := r.free 0
    have hn := hl'.1
    rw [kvs_len, prs_len] at hn
    have hn8 : n ≤ 4096 := by omega
    have HB := Lib.hid hb
    have HS := Lib.hid hsz
    by_cases hm : most ≤ pre.length
    · have HI : Hid (ToI w L v most xs pre W) := Lib.hid ⟨r0, ⟨hb, hsz, A, _, c, r, hl'⟩, hle⟩
      have HM := Lib.hid (show most.toNat ≤ pre.length by omega)
      have hge : 2 * most ≤ (n : Int) := by omega
      clear hb hsz r0 r hl' hle hn hpre hm
      gi_wp2
      exact ⟨KeepsOthers.refl _, rfl, pre, x, rfl, HM.out, HI.out⟩
    · have hlt : (n : Int) < 2 * most := by omega
      have hla := (hl'.alloc (.cells #[.int .i64 xs[x].1, .int .i64 xs[x].2] 3)).tight
      have hu := RdV.lit W 3 [.int .i64 xs[x].1, .int .i64 xs[x].2] (by intro z hz; simp at hz; rcases hz with rfl | rfl <;> rfl) (by simp)
      have HA : Hid (kvs (prs xs (pre ++ [x])) = kvs (prs xs pre) ++ [.int .i64 xs[x].1, .int .i64 xs[x].2]) := Lib.hid (by simp [kvs, prs])
      have HLE : Hid ((pre ++ [x]).length ≤ most.toNat) := Lib.hid (by simp; omega)
      have hvA : ¬ BlkOf A v := by
        rintro ⟨ad, he, hbk⟩
        have := (hl'.blk ad he).1
        omega
      have HR0 := Lib.hid r0
      generalize xs[x].1 = y at *
      generalize xs[x].2 = z at *
      clear hb hsz r0 hn hle hm
      gi_wp2_with (gi_at_builtin
                   refine wpListIn_append_lst eltK rfl (.tmp 22) (.tmp 25) rfl rfl hla rfl hu (by show (n + 2) * 8 ≤ 140737488355328; omega) ?_
                   rintro v' w2 hap
                   obtain ⟨A', n', c', rfl, hl2⟩ := hap.ex
                   have HAP := Lib.hid hap
                   have r2 := (r.alloc (.cells #[.int .i64 y, .int .i64 z] 3)).st hap.st hvA
                   have c3 := r2.cell 0 rfl
                   have f3 := r2.free 0
                   clear hap hl2)
      obtain ⟨k1, k2, k3⟩ := Col.step HB.out HS.out r hl' (by omega) (by omega) _ HAP.out
      refine ⟨k1, fun q hq => k2.block q (by have := HS.out; have := (hT2 q hq).1; have := HLz.out; omega) (by have := hT2 q hq; have := HLz.out; omega), HR0.out.st k2 (by omega), ?_, HLE.out⟩
      show Col 38 3 w L v (kvs (prs xs (pre ++ [x]))) _
      rw [HA.out]
      exact k3
  case done =>
    rintro D ys W hD rfl ⟨r0, ⟨hb, hsz, A, n, c, r, hl'⟩, hle⟩ hK
    have hp := prs_take xs xs.length
    rw [List.take_of_length_le (by simp), List.take_length] at hp
    rw [hp] at hl'
    have HT : Hid (xs.take most.toNat = xs) := Lib.hid (List.take_of_length_le (by simpa using hle))
    have cl := r.cell 0 rfl
    clear hle hp
    gi_wp2
    refine ⟨by simp, .inl ⟨_, _, rfl, run_takeDeferred hK, ?_⟩⟩
    refine ⟨_, results_tmp2 rfl _ _ _, ?_⟩
    rw [HT.out]
    obtain ⟨A', n', c', he, k1, k2⟩ := Col.shut0 (t := 38) (v := v) hb hl' hK (by have := HLz.out; omega) (by omega)
    cases he
    exact ⟨A, n, c, rfl, k1, k2⟩
  case stop =>
    rintro D c' pre' W hD ⟨k, hpk⟩ ⟨rfl, pre, x, e1, e2, r0, ⟨hb, hsz, A, n, c, r, hl'⟩, hle⟩ hK
    have hpx := (pre_at (e1.symm.trans hpk)).1
    have hlm : pre.length = most.toNat := by omega
    rw [hpx, prs_take, hlm] at hl'
    have cl := r.cell 0 rfl
    clear hpx hlm hpk e1
    gi_wp2
    refine ⟨by simp, .inl ⟨_, _, rfl, run_takeDeferred hK, ?_⟩⟩
    refine ⟨_, results_tmp2 rfl _ _ _, ?_⟩
    obtain ⟨A', n', c', he, k1, k2⟩ := Col.shut0 (t := 38) (v := v) hb hl' hK (by have := HLz.out; omega) (by omega)
    cases he
    exact ⟨A, n, c, rfl, k1, k2⟩
theorem l_told (h : WhC w g m) (most : Int) (hm0 : 0 ≤ most) (hm1 : most ≤ 2000) : Calls Try.prog 19 #[.pointer (some ⟨g, 0, none⟩), .int .i64 most] w (MadeB (kvs (flat2 ((outs m).take most.toNat))) w) :=
  told_core (outs_of h) (by rw [outs_len]; exact h.nm.ln) most hm0 hm1
/-! ### Nobody's -/
theorem no_made (h : NoW w P) : Calls Try.prog 33 #[.pointer P] w fun e w' => e = .returned (.bool false) ∧ w = w' := by
  rcases h with rfl | ⟨g, rfl, h⟩
  · go_enter Try.func33, Try.ntmps33
    go_wp2
    go_ret
    exact ⟨rfl, rfl⟩
  · have c0 := h.cell 0 rfl
    go_enter Try.func33, Try.ntmps33
    go_wp2
    go_ret
    exact ⟨rfl, rfl⟩
theorem no_find (h : NoW w P) (x : Int) : Calls Try.prog 30 #[.pointer P, .int .i64 x] w fun e w' => e = .returned (.int .i64 (-1)) ∧ Below w.heap.size w w' := by
  have hb1 : Below w.heap.size w (w.alloc (.cells #[.int .i64 x] 3)) := (Below.refl _ w).alloc (Nat.le_refl _) _
  have HM := Lib.hid (no_made (h.below hb1))
  have HB := Lib.hid hb1
  clear hb1
  go_enter Try.func30, Try.ntmps30
  go_wp2_with (go_at_call 33; refine HM.out.mono ?_; rintro e w' ⟨rfl, rfl⟩)
  go_ret
  exact ⟨rfl, HB.out⟩
theorem no_drop (h : NoW w P) (x : Int) : Calls Try.prog 10 #[.pointer P, .int .i64 x] w fun e w' => e = .returned (.bool false) ∧ Below w.heap.size w w' := by
  have HF := Lib.hid (no_find h x)
  go_enter Try.func10, Try.ntmps10
  go_wp2_with (go_at_call 30; refine HF.out.mono ?_; rintro e w' ⟨rfl, hb⟩
               have HB := Lib.hid hb
               clear hb)
  go_ret
  exact ⟨rfl, HB.out⟩
theorem no_left (h : NoW w P) (x : Int) : Calls Try.prog 23 #[.pointer P, .int .i64 x] w fun e w' => e = .returned (.tuple #[.int .i64 0, .bool false]) ∧ Below w.heap.size w w' := by
  have HF := Lib.hid (no_find h x)
  go_enter Try.func23, Try.ntmps23
  go_wp2_with (go_at_call 30; refine HF.out.mono ?_; rintro e w' ⟨rfl, hb⟩
               have HB := Lib.hid hb
               clear hb)
  go_ret2
  exact ⟨rfl, HB.out⟩
theorem no_set (h : NoW w P) (x n : Int) : Calls Try.prog 16 #[.pointer P, .int .i64 x, .int .i64 n] w fun e w' => e = .returned (.int .i64 4) ∧ w = w' := by
  have HM := Lib.hid (no_made h)
  go_enter Try.func16, Try.ntmps16
  go_wp2_with (go_at_call 33; refine HM.out.mono ?_; rintro e w' ⟨rfl, rfl⟩)
  go_ret
  exact ⟨rfl, rfl⟩
attribute [local go_sem] Oper.semAt_some
theorem no_skip (h : NoW w P) (n : Int) : Calls Try.prog 15 #[.pointer P, .int .i64 n] w fun e w' => e = .returned (.slice none 0 0) ∧ w = w' := by
  have HM := Lib.hid (no_made h)
  refine (callsIn_wide (n := 5)).1 ?_
  refine callsIn_of_wp_marks Try.func15 rfl trivial ?_ rfl
  simp only [Try.ntmps15, List.size_toArray, List.length_cons, List.length_nil, Nat.reduceAdd, Nat.reduceSub, Array.replicate_succ, Array.replicate_zero, List.push_toArray, List.append_toArray, List.nil_append, List.cons_append]
  gi_wp2
  refine ⟨trivial, (callsIn_wide.2 HM.out).mono ?_⟩
  rintro e W1 ⟨rfl, rfl⟩
  gi_wp2
  refine ⟨_, results_tmp rfl _ _ _, ?_⟩
  exact ⟨rfl, rfl⟩
theorem no_tick (h : NoW w P) : Calls Try.prog 12 #[.pointer P] w fun e w' => e = .returned (.slice none 0 0) ∧ w = w' := by
  have HS := Lib.hid (no_skip h 1)
  go_enter Try.func12, Try.ntmps12
  go_wp2_with (go_at_call 15; refine HS.out.mono ?_; rintro e w' ⟨rfl, rfl⟩)
  go_ret
  exact ⟨rfl, rfl⟩
theorem no_now (h : NoW w P) : Calls Try.prog 21 #[.pointer P] w fun e w' => e = .returned (.int .i64 0) ∧ w = w' := by
  have HM := Lib.hid (no_made h)
  go_enter Try.func21, Try.ntmps21
  go_wp2_with (go_at_call 33; refine HM.out.mono ?_; rintro e w' ⟨rfl, rfl⟩)
  go_ret
  exact ⟨rfl, rfl⟩
theorem no_len (h : NoW w P) : Calls Try.prog 22 #[.pointer P] w fun e w' => e = .returned (.int .i64 0) ∧ w = w' := by
  have HM := Lib.hid (no_made h)
  go_enter Try.func22, Try.ntmps22
  go_wp2_with (go_at_call 33; refine HM.out.mono ?_; rintro e w' ⟨rfl, rfl⟩)
  go_ret
  exact ⟨rfl, rfl⟩
theorem no_next (h : NoW w P) : Calls Try.prog 25 #[.pointer P] w fun e w' => e = .returned (.int .i64 0) ∧ w = w' := by
  have HM := Lib.hid (no_len h)
  go_enter Try.func25, Try.ntmps25
  go_wp2_with (go_at_call 22; refine HM.out.mono ?_; rintro e w' ⟨rfl, rfl⟩)
  go_ret
  exact ⟨rfl, rfl⟩
theorem no_stops (fu : Nat) (hfu : 3 ≤ fu) (T : Nat → Prop) (g1 : Nat) (h1 : T g1) (hP : ∀ g, P = some ⟨g, 0, none⟩ → T g) (hT : ∀ k, T k → k < w.heap.size) (h : NoW w P) (hb1 : Bk w 23 g1 [.pointer P]) :
    SeqStopsK Fence.wide fu Try.prog 47 #[.pointer (some ⟨g1, 0, none⟩)] (fun i : Fin ([] : List (Int × Int)).length => #[.int .i64 ([] : List (Int × Int))[i].1, .int .i64 ([] : List (Int × Int))[i].2]) (KpS T)
      (fun ys => ys = List.finRange ([] : List (Int × Int)).length) (fun pre => ∃ k, pre = (List.finRange ([] : List (Int × Int)).length).take k) ([] : List (Int × Int)).length w := fun l J Jx W hW hJ hJx hY h0 => by
  have hKW : KpS T w W := fun k hk => hW.block k (hT k hk)
  have E1 : Bk W 23 g1 [.pointer P] := (hKW g1 h1).trans hb1
  have E0 : NoW W P := by
    rcases h with rfl | ⟨g, rfl, h⟩
    · exact .inl rfl
    · exact .inr ⟨g, rfl, (hKW g (hP g rfl)).trans h⟩
  have HM := Lib.hid (no_made E0)
  have c1 := E1.cell 0 rfl
  have H0 := Lib.hid h0
  clear hKW hb1 h E0 E1
  refine callsIn_of_wp Try.func47 rfl trivial ?_ rfl
  simp only [Try.ntmps47, List.size_toArray, List.length_cons, List.length_nil, Nat.reduceAdd, Nat.reduceSub, Array.replicate_succ, Array.replicate_zero, List.push_toArray, List.append_toArray, List.nil_append, List.cons_append]
  gi_wp2
  refine ⟨trivial, fun _ => by omega, (callsIn_wide.2 HM.out).mono ?_⟩
  rintro e W1 ⟨rfl, rfl⟩
  gi_wp2
  refine bodyPost_ret (results_none rfl _ _ _) rfl ?_
  exact ⟨⟨_, rfl⟩, .inl ⟨_, rfl, H0.out⟩⟩
theorem no_outs (h : NoW w P) : ∀ W, Below w.heap.size w W → ∀ g1, Bk W 23 g1 [.pointer P] → OutsB w.heap.size [] g1 W := by
  intro W hW g1 hb1
  have hs := hW.size
  have hlt : ∀ g, P = some ⟨g, 0, none⟩ → g < w.heap.size := fun g hg => by
    rcases h with h | ⟨g', h, hb⟩
    · rw [h] at hg; cases hg
    · rw [h] at hg
      injection hg with hg
      injection hg with hg
      subst hg
      exact hb.lt
  refine ⟨fun q => q = g1 ∨ P = some ⟨q, 0, none⟩, fun q hq => ?_, no_stops 4 (by decide) _ g1 (.inl rfl) (fun g hg => .inr hg) (fun q hq => ?_) (h.below hW) hb1⟩
  · rcases hq with rfl | hq
    · exact ⟨hb1.lt, .inr rfl⟩
    · have := hlt q hq
      exact ⟨by omega, .inl this⟩
  · rcases hq with rfl | hq
    · exact hb1.lt
    · have := hlt q hq
      omega
theorem no_keys (h : NoW w P) : Calls Try.prog 24 #[.pointer P] w (Made 3 [] w) :=
  keys_core (w := w) (P := P) (xs := []) (fun W hW => no_len (h.below hW)) (no_outs h) (by simp)
theorem no_told (h : NoW w P) (most : Int) (hm0 : 0 ≤ most) (hm1 : most ≤ 2000) : Calls Try.prog 19 #[.pointer P, .int .i64 most] w (MadeB [] w) := by
  have := told_core (w := w) (P := P) (xs := []) (no_outs h) (by simp) most hm0 hm1
  simpa [flat2, kvs] using this
end
end Go.Proofs.Ytainmpeiicinmaa.Wi
