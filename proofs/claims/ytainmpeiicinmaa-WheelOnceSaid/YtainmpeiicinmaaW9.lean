/- What a wheel of int is asked; a wheel that nobody made. -/
import Derived.Test.YtainmpeiicinmaaW8i
set_option linter.unusedSimpArgs false
set_option linter.unusedVariables false
set_option maxRecDepth 100000
namespace Go.Proofs.Ytainmpeiicinmaa.Wi
open Go.RowKit Go.Shelf
section
variable {w w' w1 w2 w3 : World} {g p b b2 bt D : Nat} {m m' : Wm Int} {A : Option Addr} {n c : Nat} {x y : Int} {P : Option Addr}
theorem w_now (h : WhC w g m) : Calls Try.prog 21 #[.pointer (some ⟨g, 0, none⟩)] w fun e w' => e = .returned (.int .i64 m.now) ∧ w = w' := by
  have HM := Lib.hid (w_made h)
  obtain ⟨A, n, c, h⟩ := h
  have c1 := h.bk.cell 1 rfl
  go_enter Try.func21, Try.ntmps21
  go_wp2_with (go_at_call 33; refine HM.out.mono ?_; rintro e w' ⟨rfl, rfl⟩)
  go_ret
  exact ⟨rfl, rfl⟩
theorem w_len (h : WhC w g m) : Calls Try.prog 22 #[.pointer (some ⟨g, 0, none⟩)] w fun e w' => e = .returned (.int .i64 (m.l.length : Nat)) ∧ w = w' := by
  have HM := Lib.hid (w_made h)
  obtain ⟨A, n, c, h⟩ := h
  have c2 := h.bk.cell 2 rfl
  have HN := Lib.hid h.hn
  clear h
  go_enter Try.func22, Try.ntmps22
  go_wp2_with (go_at_call 33; refine HM.out.mono ?_; rintro e w' ⟨rfl, rfl⟩)
  go_ret
  exact ⟨by rw [← HN.out]; rfl, rfl⟩
theorem w_next (h : WhC w g m) : Calls Try.prog 25 #[.pointer (some ⟨g, 0, none⟩)] w fun e w' => e = .returned (.int .i64 m.next) ∧ Below w.heap.size w w' := by
  have HL := Lib.hid (w_len h)
  obtain ⟨A, n, c, h⟩ := h
  by_cases h0 : m.l = []
  · have HV : Hid (m.next = 0) := Lib.hid (by unfold Wm.next; rw [h0])
    rw [show m.l.length = 0 from by rw [h0]; rfl] at HL
    clear h h0
    go_enter Try.func25, Try.ntmps25
    go_wp2_with (go_at_call 22; refine HL.out.mono ?_; rintro e w' ⟨rfl, rfl⟩)
    go_ret
    exact ⟨by rw [HV.out]; rfl, Below.refl _ _⟩
  · have hl0 : 0 < m.l.length := List.length_pos_iff.2 h0
    have HV : Hid (m.next = m.l[0].d - m.now) := Lib.hid (by
      unfold Wm.next
      have : m.l = m.l[0] :: m.l.drop 1 := by
        have h := List.drop_eq_getElem_cons hl0
        rwa [List.drop_zero] at h
      conv => lhs; rw [this])
    have hn := h.hn
    obtain ⟨g1, o, rfl, hg1, hra⟩ := h.row hl0
    have d1 := hra 1 (.int .i64 m.l[0].d) rfl
    have c2 := h.bk.cell 2 rfl
    have c1 := h.bk.cell 1 rfl
    have hdb := h.nm.db _ (List.getElem_mem hl0)
    have hn0 := h.nm.n0
    have hnb := h.nm.nb
    have hln := h.nm.ln
    have hn1 : (1 : Int) ≤ n := by omega
    have hn2 : n ≤ 1024 := by omega
    have hnz : ((n : Int) == 0) = false := by simp; omega
    have hN0 : (0 : Int) < n := by omega
    rw [← hn] at HL
    rw [show o + 0 * 2 = o from by omega] at d1
    generalize m.l[0].d = d at *
    clear hra h h0 hl0 hn hln
    go_enter Try.func25, Try.ntmps25
    go_wp2_with (go_at_call 22; refine HL.out.mono ?_; rintro e w' ⟨rfl, rfl⟩)
    go_quiet (fail)
    go_wp2
    go_ret
    exact ⟨by rw [HV.out]; rfl, Below.drewN_ w _⟩
/-- The iterator over xs, wherever its box; in memory from s on there is nothing but the box. -/
def OutsB (s : Nat) (xs : List (Int × Int)) (g1 : Nat) (w : World) : Prop := ∃ T : Nat → Prop, (∀ k, T k → k < w.heap.size ∧ (k < s ∨ k = g1)) ∧ Outs T xs g1 w
theorem outs_of (h : WhC w g m) : ∀ W, Below w.heap.size w W → ∀ g1, Bk W 23 g1 [.pointer (some ⟨g, 0, none⟩)] → OutsB w.heap.size (outs m) g1 W := by
  obtain ⟨A, n, c, h⟩ := h
  intro W hW g1 hb1
  have hgl := h.bk.lt
  have hs := hW.size
  refine ⟨fun q => q = g ∨ q = g1 ∨ BlkOf A q, fun q hq => ?_, all_stops 4 (by decide) _ g1 (.inr (.inl rfl)) (.inl rfl) (fun q hq => .inr (.inr hq)) (fun q hq => ?_) (h.below hW) hb1⟩
  · rcases hq with rfl | rfl | hq
    · exact ⟨by omega, .inl hgl⟩
    · exact ⟨hb1.lt, .inr rfl⟩
    · have := h.blt q hq
      exact ⟨by omega, .inl this⟩
  · rcases hq with rfl | rfl | hq
    · omega
    · exact hb1.lt
    · have := h.blt q hq
      omega
def fsts (xs : List (Int × Int)) (pre : List (Fin xs.length)) : List Int := pre.map fun i => xs[i].1
theorem fst_all (xs : List (Int × Int)) : fsts xs (List.finRange xs.length) = xs.map Prod.fst := by
  unfold fsts
  apply List.ext_getElem
  · simp
  · intro i h1 h2
    simp
/-- A list that is gathered in variable v, begun in block s. -/
structure KCol (w : World) (L s v : Nat) (ys : List Value) (W : World) : Prop where
  bel : Below w.heap.size w W
  sz : L ≤ W.heap.size
  ex : ∃ A n c, Bk W 38 v [.slice A n c] ∧ Lst 3 (fun k => k = s ∨ L ≤ k) W A n c ys
theorem KCol.own {L s v B : Nat} {ys : List Value} {W W' : World} {row : Option Nat} (h : KCol w L s v ys W) (hv : v < L) (hL : L ≤ B) (hwL : w.heap.size ≤ L) (hw : W.grownBy W' row)
    (hr : ∀ r, row = some r → B ≤ r ∧ ∃ o : Obj, W.heap[r]? = some o ∧ o.isCells = false) : KCol w L s v ys W' := by
  obtain ⟨h1, h2, A, n, c, h3, h4⟩ := h
  have hk : ∀ k, k < L → k < W.heap.size → W'.heap[k]? = W.heap[k]? := fun k hk hs => hw.block k hs (fun e => by have := (hr _ e.symm).1; omega)
  exact ⟨⟨hw.os.trans h1.os, hw.tape.trans h1.tape, hw.output.trans h1.output, Nat.le_trans h1.size hw.size, fun k hk' => (hk k (by omega) (by have := h1.size; omega)).trans (h1.block k hk')⟩, Nat.le_trans h2 hw.size, A, n, c, (hk v hv h3.lt).trans h3, h4.own hw fun r e => (hr r e).2⟩
theorem KCol.step {L s v : Nat} {xs ys : List Value} {W w2 : World} {A A' : Option Addr} {n c n' c' : Nat} (hb : Below w.heap.size w W) (hs : L ≤ W.heap.size) (r : Bk W 38 v [.slice A n c]) (hl : Lst 3 (fun k => k = s ∨ L ≤ k) W A n c xs) (hv : v < L) (hsv : s ≠ v) (hwv : w.heap.size ≤ v) (hws : w.heap.size ≤ s) (o : Obj)
    (hap : Apd 3 (BlkOf A) (W.alloc o) (.slice A' n' c') ys w2) :
    KeepsOthers W (w2.setCell ⟨v, 0, none⟩ (.slice A' n' c')) ∧ St (fun k => k = v ∨ k = s ∨ L ≤ k) W (w2.setCell ⟨v, 0, none⟩ (.slice A' n' c')) ∧ KCol w L s v ys (w2.setCell ⟨v, 0, none⟩ (.slice A' n' c')) := by
  obtain ⟨⟨A2, n2, c2, he, hl'⟩, hst⟩ := hap
  injection he with e1 e2 e3
  subst e1 e2 e3
  have hA : ∀ k, BlkOf A k → k = s ∨ L ≤ k := by rintro k ⟨ad, he, rfl⟩; exact (hl.blk ad he).1
  have hba : Below W.heap.size W (W.alloc o) := (Below.refl _ _).alloc (Nat.le_refl _) _
  have hla := hl.alloc o
  have hDF : Lst 3 (fun k => k = s ∨ L ≤ k) w2 A' n' c' ys := hl'.mono (by
    rintro k (hk | hk)
    · exact hA k hk
    · have := hba.size; omega)
  have hsta : St (fun k => k = v ∨ k = s ∨ L ≤ k) W w2 := (St.ext hba).trans (hst.mono (F' := fun k => k = v ∨ k = s ∨ L ≤ k) (fun k _ hk => .inr (hA k hk))) (Gr.refl _ _)
  have hvA : ¬ BlkOf A v := fun h => by have := hA v h; omega
  have r2 : Bk w2 38 v [.slice A n c] := (r.alloc o).st hst hvA
  have hst3 : St (fun k => k = v ∨ k = s ∨ L ≤ k) W (w2.setCell ⟨v, 0, none⟩ (.slice A' n' c')) := hsta.trans (St.setCell (F := fun k => k = v ∨ k = s ∨ L ≤ k) w2 (a := ⟨v, 0, none⟩) (.inl rfl) _) (Gr.refl _ _)
  refine ⟨?_, hst3, hb.trans (hst3.below hb.size ?_), Nat.le_trans hs hst3.size, A', n', c', r2.set 0 _, hDF.far (fun ad he hne => by have := (hDF.blk ad he).1; simp at hne; omega) _⟩
  · refine (keepsOthers_of hba).trans (KeepsOthers.trans (keeps_apd (us := ys) (v := .slice A' n' c') hla.tight hst) (KeepsOthers.setCell _ _ _))
  · rintro k (rfl | rfl | hk)
    · exact hwv
    · exact hws
    · omega
attribute [local go_sem] Oper.semAt_some
set_option maxHeartbeats 4000000 in
theorem keys_core {xs : List (Int × Int)} (hL : ∀ W, Below w.heap.size w W → Calls Try.prog 22 #[.pointer P] W fun e w' => e = .returned (.int .i64 (xs.length : Nat)) ∧ W = w')
    (hO : ∀ W, Below w.heap.size w W → ∀ g1, Bk W 23 g1 [.pointer P] → OutsB w.heap.size xs g1 W) (hl : xs.length ≤ 1024) : Calls Try.prog 24 #[.pointer P] w (Made 3 (kvs (xs.map Prod.fst)) w) := by
  have HL := Lib.hid (hL w (Below.refl _ _))
  have HO := Lib.hid hO
  have hmk : ∀ W, (Instr.makeSlice 38 (.int .i64 0) (.int .i64 xs.length)).run Try.prog W = .ok (.slice (some ⟨W.heap.size, 0, none⟩) 0 xs.length) (W.alloc (.cells (Array.replicate xs.length (.int .i64 0)) 3)) := fun W => eltK.run_make 0 xs.length (Nat.zero_le _) (by omega) W
  obtain ⟨w1, hw1⟩ : ∃ w1, w1 = (w.alloc (.cells (Array.replicate xs.length (.int .i64 0)) 3)).alloc (.cells #[.slice (some ⟨w.heap.size, 0, none⟩) 0 xs.length] 38) := ⟨_, rfl⟩
  have hb1 : Below w.heap.size w w1 := by rw [hw1]; exact (((Below.refl _ w).alloc (Nat.le_refl _) _).alloc (by simp) _)
  have q1 : Bk w1 38 (w.heap.size + 1) [.slice (some ⟨w.heap.size, 0, none⟩) 0 xs.length] := by
    have := Bk.new (w.alloc (.cells (Array.replicate xs.length (.int .i64 0)) 3)) 38 [.slice (some ⟨w.heap.size, 0, none⟩) 0 xs.length]
    rw [World.size_alloc] at this
    rw [hw1]; exact this
  have q0 : Lst 3 (· = w.heap.size) w1 (some ⟨w.heap.size, 0, none⟩) 0 xs.length [] := by
    have h0 := Lst.made w 3 (Array.replicate xs.length (.int .i64 0)) 0 [] rfl (by simp) (by simp [maxLen]; omega) (by simp) (by simp)
    have h1 := (h0.alloc (.cells #[.slice (some ⟨w.heap.size, 0, none⟩) 0 xs.length] 38)).tight
    simp only [Array.size_replicate] at h1
    rw [hw1]
    exact h1.mono (by rintro k ⟨ad, he, rfl⟩; injection he with he; subst he; rfl)
  have Q := Lib.hid (And.intro q1 (And.intro q0 hb1))
  have HW := Lib.hid hw1
  clear hL hO q1 q0 hb1 hw1
  refine (callsIn_wide (n := 5)).1 ?_
  refine callsIn_of_wp_marks Try.func24 rfl trivial ?_ rfl
  simp only [Try.ntmps24, List.size_toArray, List.length_cons, List.length_nil, Nat.reduceAdd, Nat.reduceSub, Array.replicate_succ, Array.replicate_zero, List.push_toArray, List.append_toArray, List.nil_append, List.cons_append]
  gi_wp2
  refine ⟨trivial, (callsIn_wide.2 HL.out).mono ?_⟩
  rintro e W1 ⟨rfl, rfl⟩
  gi_wp2
  rw [← HW.out]
  refine ⟨trivial, (callsIn_wide.2 (w_all _ _)).mono ?_⟩
  rintro e W0 ⟨rfl, hr1, hb2⟩
  obtain ⟨q1, q0, hb1⟩ := Q.out
  have q1' := q1.below hb2
  have q0' := q0.below hb2
  have hb0 := below_on hb1 hb2
  have hz1 := hr1.lt
  have hwz := hb1.size
  have hw1z : w1.heap.size = w.heap.size + 2 := by rw [HW.out]; simp
  obtain ⟨g1, hg1⟩ : ∃ g1, g1 = w1.heap.size := ⟨_, rfl⟩
  rw [← hg1] at hr1 hz1 ⊢
  obtain ⟨T, hT, hst⟩ := HO.out W0 hb0 g1 hr1
  have HST := Lib.hid hst
  have hT2 : ∀ q, T q → q < W0.heap.size ∧ q ≠ w.heap.size ∧ q ≠ w.heap.size + 1 := fun q hq => by
    have := hT q hq
    omega
  have HZ := Lib.hid (And.intro hwz (And.intro hw1z hg1))
  clear q1 q0 hb1 hb2 Q hst hwz hw1z hg1
  gi_wp2
  obtain ⟨L, hL⟩ : ∃ L, L = W0.heap.size := ⟨_, rfl⟩
  have HLz := Lib.hid hL
  have hLw : w.heap.size + 2 < L := by have := HZ.out; omega
  clear hL
  refine wpIn_rangeFunc_ownF rfl (by decide) (gf := 47) (lb := #[.pointer (some ⟨g1, 0, none⟩)]) rfl trivial (enters_of Try.func47 (by kernel_rfl) rfl)
    HST.out KpS.trans (KpS.put (fun q hq => (hT2 q hq).1)) (Below.refl _ _) (fun _ => rfl)
    (fun (pre : List (Fin xs.length)) W => KCol w L w.heap.size (w.heap.size + 1) (kvs (fsts xs pre)) W) (fun _ _ _ => False) (fun pre W W' row hI hw hr => hI.own (by omega) (by have := HLz.out; omega) (by omega) hw hr) (fun _ _ _ _ _ hs _ _ => hs) ⟨hb0, by have := HLz.out; omega, _, _, _, q1', q0'.mono fun k hk => .inl hk⟩
    (fun i => { tmps := #[.pointer P, undef, .slice none 0 0, .pointer (some ⟨w.heap.size + 1, 0, none⟩), .int .i64 xs[i].1, .pointer P, .int .i64 xs.length, .slice (some ⟨w.heap.size, 0, none⟩) 0 xs.length, .pointer P, .func (.func 47) #[] #[.pointer (some ⟨g1, 0, none⟩)], .int .i64 xs[i].1, .int .i64 xs[i].2, undef, undef, undef, undef, undef], defers := [] }) ?assign ?body ?done ?stop
  case assign =>
    intro l x W K hK
    gi_wp2
    simpa using hK
  case body =>
    rintro l pre x W ⟨hb, hsz, A, n, c, r, hl'⟩ hpre
    have cl := r.cell 0 rfl
    have fl := r.free 0
    have hn := hl'.1
    rw [kvs_len, fsts, List.length_map] at hn
    have hla := (hl'.alloc (.cells #[.int .i64 xs[x].1] 3)).tight
    have hu := RdV.one W 3 (.int .i64 xs[x].1) rfl
    have hn8 : n ≤ 1024 := by omega
    have HB := Lib.hid hb
    have HSz := Lib.hid hsz
    have HA : Hid (kvs (fsts xs (pre ++ [x])) = kvs (fsts xs pre) ++ [.int .i64 xs[x].1]) := Lib.hid (by simp [kvs, fsts])
    have hvA : ¬ BlkOf A (w.heap.size + 1) := by
      rintro ⟨ad, he, hbk⟩
      have := (hl'.blk ad he).1
      omega
    generalize xs[x].1 = y at *
    generalize xs[x].2 = z at *
    clear hb hsz hn
    gi_wp2_with (first
                 | (refine wpListIn_build_one (x := .int .i64 y) eltK rfl (.tmp 13) rfl rfl rfl ?_)
                 | (gi_at_builtin
                    refine wpListIn_append_lst eltK rfl (.tmp 12) (.tmp 14) rfl rfl hla rfl hu (by omega) ?_
                    rintro v w2 hap
                    obtain ⟨A', n', c', rfl, hl2⟩ := hap.ex
                    have HAP := Lib.hid hap
                    have r2 := (r.alloc (.cells #[.int .i64 y] 3)).st hap.st hvA
                    have c3 := r2.cell 0 rfl
                    have f3 := r2.free 0
                    clear hap hl2))
    obtain ⟨k1, k2, k3⟩ := KCol.step HB.out HSz.out r hl' (by omega) (by omega) (by omega) (Nat.le_refl _) _ HAP.out
    refine ⟨k1, fun q hq => k2.block q (by have := hT2 q hq; have := HSz.out; have := HLz.out; omega) (by have := hT2 q hq; have := HLz.out; omega), ?_⟩
    show KCol w L w.heap.size (w.heap.size + 1) (kvs (fsts xs (pre ++ [x]))) _
    rw [HA.out]
    exact k3
  case done =>
    rintro D ys W hD rfl ⟨hb, hsz, A, n, c, r, hl'⟩ hK
    rw [fst_all] at hl'
    have cl := r.cell 0 rfl
    gi_wp2
    refine ⟨by simp, .inl ⟨_, _, rfl, run_takeDeferred hK, ?_⟩⟩
    refine ⟨_, results_tmp rfl _ _ _, ?_⟩
    refine ⟨A, n, c, rfl, ?_, ?_⟩
    · refine (hl'.mono (F' := (w.heap.size ≤ ·)) fun k hk => by omega).same fun ad he => World.putObj_heap_other (hl'.notD hK he)
    · refine ⟨hb.os, hb.tape, hb.output, by simpa [World.putObj] using hb.size, fun k hk => ?_⟩
      rw [World.putObj_heap_other (by have := HLz.out; omega)]
      exact hb.block k hk
  case stop =>
    rintro D c' pre W hD _ h _
    exact h.elim
theorem w_keys (h : WhC w g m) : Calls Try.prog 24 #[.pointer (some ⟨g, 0, none⟩)] w (Made 3 (kvs m.keys) w) := by
  have := keys_core (w := w) (P := some ⟨g, 0, none⟩) (xs := outs m) (fun W hW => by rw [outs_len]; exact w_len (h.below hW)) (outs_of h) (by rw [outs_len]; exact h.nm.ln)
  rw [show (outs m).map Prod.fst = m.keys from by simp [outs, Wm.keys]] at this
  exact this
end
end Go.Proofs.Ytainmpeiicinmaa.Wi
