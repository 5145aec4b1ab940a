/- The iterator over the pieces of many messages. -/
import Derived.Test.YtmnmkolcffehhaaU10
set_option linter.unusedSimpArgs false
set_option linter.unusedVariables false
namespace Go.Proofs.Ytmnmkolcffehhaa
open Go.RowKit Go.Shelf
def allP (m : Int) (ms : List (List Int)) : List Pp := ms.flatMap fun xs => cutL xs m.toNat
theorem allP_take (m : Int) (ms : List (List Int)) {k : Nat} {xs : List Int} (h : ms[k]? = some xs) : allP m (ms.take (k + 1)) = allP m (ms.take k) ++ cutL xs m.toNat := by
  unfold allP
  rw [List.take_add_one, h, List.flatMap_append]
  simp
theorem allP_split (m : Int) (ms : List (List Int)) {k : Nat} {xs : List Int} (h : ms[k]? = some xs) : allP m ms = allP m (ms.take k) ++ cutL xs m.toNat ++ allP m (ms.drop (k + 1)) := by
  rw [← allP_take m ms h]
  unfold allP
  rw [← List.flatMap_append, List.take_append_drop]
theorem allP_at (m : Int) (ms : List (List Int)) {k i : Nat} {xs : List Int} {p : Pp} (h : ms[k]? = some xs) (hp : (cutL xs m.toNat)[i]? = some p) : (allP m ms)[(allP m (ms.take k)).length + i]? = some p := by
  have hi := (List.getElem?_eq_some_iff.1 hp).1
  rw [allP_split m ms h, List.append_assoc, List.getElem?_append_right (by omega), Nat.add_sub_cancel_left, List.getElem?_append_left hi]
  exact hp
theorem app_take {α : Type} (P C R : List α) (i : Nat) : ∃ j, P ++ C.take i = (P ++ C ++ R).take j := by
  refine ⟨P.length + min i C.length, ?_⟩
  rw [List.append_assoc, List.take_append, List.take_of_length_le (l := P) (by omega), Nat.add_sub_cancel_left, List.take_append_of_le_length (Nat.min_le_right _ _)]
  rcases Nat.le_total i C.length with h1 | h1
  · rw [Nat.min_eq_left h1]
  · rw [Nat.min_eq_right h1, List.take_of_length_le h1, List.take_of_length_le (Nat.le_refl _)]
theorem allP_pre (m : Int) (ms : List (List Int)) {k : Nat} (i : Nat) {xs : List Int} (h : ms[k]? = some xs) : ∃ j, allP m (ms.take k) ++ (cutL xs m.toNat).take i = (allP m ms).take j := by
  rw [allP_split m ms h]
  exact app_take _ _ _ _
theorem KpT.grown {n0 N B : Nat} {W A A' : World} {row : Option Nat} (h : KpT n0 N W A) (hw : A.grownBy A' row) (hr : ∀ r, row = some r → B ≤ r ∧ ∃ o : Obj, A.heap[r]? = some o ∧ o.isCells = false) (hB : W.heap.size ≤ B) : KpT n0 N W A' :=
  ⟨Nat.le_trans h.1 hw.size, fun k o ho hx => by
    have h1 := h.2 k o ho hx
    have hk := (Array.getElem?_eq_some_iff.1 ho).1
    exact (hw.block k (Array.getElem?_eq_some_iff.1 h1).1 (fun e => by have := (hr _ e.symm).1; omega)).trans h1⟩
attribute [local go_sem] Oper.semAt_some
set_option maxRecDepth 100000 in
set_option maxHeartbeats 4000000 in
theorem all_gives (fu : Nat) (hfu : 4 ≤ fu) (n0 g1 g2 : Nat) (A : Option Addr) (n c : Nat) (ms : List (List Int)) (mi : Int) (w : World) (F : Nat → Prop) (hfit : ∀ xs ∈ ms, fitB xs.length mi = true) (hL : LsB F w A n c ms)
    (r1 : Bk w 34 g1 [.slice A n c]) (r2 : Bk w 3 g2 [.int .i64 mi]) (hn0 : n0 ≤ w.heap.size) :
    Gv n0 (allP mi ms) fu 25 #[.pointer (some ⟨g1, 0, none⟩), .pointer (some ⟨g2, 0, none⟩)] w := fun l J Jx W hW hJ hJx hY h0 => by
  have hK0 := KpT.below (n0 := n0) (N := W.heap.size) hW
  have hW0 := hW.size
  have c1 := (hK0.bk r1 (by decide) (by decide)).cell 0 rfl
  have hg1 := (hK0.bk r1 (by decide) (by decide)).lt
  have HE := Lib.hid (And.intro (hL.kp hK0) (And.intro (hK0.bk r1 (by decide) (by decide)) (hK0.bk r2 (by decide) (by decide))))
  have HM := Lib.hid hL.rd.len
  have hnm : (n : Int) ≤ 9223372036854775807 := by
    obtain ⟨bs, h1, _⟩ := hL.rd
    have h2 := h1.2.1
    have h3 := h1.2.2.1
    simp only [maxLen] at h3
    omega
  clear hK0 r1 r2 hL hW
  refine callsIn_of_wp_marks Try.func25 rfl trivial ?_ rfl
  simp only [Try.ntmps25, List.size_toArray, List.length_cons, List.length_nil, Nat.reduceAdd, Nat.reduceSub, Array.replicate_succ, Array.replicate_zero, List.push_toArray, List.append_toArray, List.nil_append, List.cons_append]
  gi_wp2
  obtain ⟨Wa, hWa⟩ : ∃ Wa, Wa = W.alloc (.cells #[.func (.yield l) #[] #[]] 49) := ⟨_, rfl⟩
  have hba : Below W.heap.size W Wa := by rw [hWa]; exact (Below.refl _ W).alloc (Nat.le_refl _) _
  have q3 : Bk Wa 49 W.heap.size [.func (.yield l) #[] #[]] := by rw [hWa]; exact Bk.new W _ _
  have hza : Wa.heap.size = W.heap.size + 1 := by rw [hWa]; simp
  have HA := Lib.hid (And.intro (HE.out.1.below hba) (And.intro (HE.out.2.2.below hba) q3))
  have hJa : J [] Wa := hJ [] W Wa none h0 (grown_of hba) (by simp)
  rw [← hWa]
  clear c1 hg1 HE q3 hWa hba h0
  have HJ := Lib.hid hJ
  have HJx := Lib.hid hJx
  have HY := Lib.hid hY
  have HFit := Lib.hid hfit
  clear hJ hJx hY hfit
  refine wpIn_loop (fun a wr => ∃ (k : Nat) (pre : List Pc) (Ds : List Nat) (u5 u10 u11 u12 u13 u14 u15 u21 : Value), a = { tmps := #[.func (.yield l) #[] #[], .pointer (some ⟨g1, 0, none⟩), .pointer (some ⟨g2, 0, none⟩), .pointer (some ⟨W.heap.size, 0, none⟩), undef, u5, undef, .slice A n c, .int .i64 n, .int .i64 k, u10, u11, u12, u13, u14, u15, undef, undef, undef, undef, undef, u21], defers := marks Ds } ∧
      k ≤ n ∧ pre.map Pc.say = allP mi (ms.take k) ∧ J pre wr ∧ KpT n0 W.heap.size Wa wr ∧ Ds.Nodup ∧ ∀ D ∈ Ds, W.heap.size ≤ D ∧ wr.heap[D]? = some (.deferred (some [])))
    (fun a _ => n - (intOf (a.tmps.getD 9 undef)).toNat) ?start ?round
  case start => exact ⟨0, [], [], undef, undef, undef, undef, undef, undef, undef, undef, rfl, Nat.zero_le _, by simp [allP], hJa, KpT.refl _ _ _, List.nodup_nil, by simp⟩
  case round =>
    rintro a wr ⟨k, pre, Ds, u5, u10, u11, u12, u13, u14, u15, u21, rfl, hk, hps, hJk, hkp, hnd, hDs⟩
    have HDs := Lib.hid (And.intro hnd hDs)
    clear hnd hDs
    by_cases hlt : k < n
    · obtain ⟨g, o, b, rfl, hcell, hbr, hat⟩ := (HA.out.1.kp hkp).at hlt
      have hkI : (k : Int) < n := by omega
      have hf := HFit.out b.xs (List.mem_of_getElem? hat)
      rw [hbr.1.1] at hf
      obtain ⟨m, rfl⟩ := fit_nat hf
      have HSAY := Lib.hid (fun i p => allP_at (m : Int) ms (k := k) (i := i) (p := p) hat)
      have HPRE := Lib.hid (fun i => allP_pre (m : Int) ms (k := k) i hat)
      have HTK := Lib.hid (allP_take (m : Int) ms hat)
      have HPS := Lib.hid hps
      have c2 := (hkp.bk HA.out.2.1 (by decide) (by decide)).cell 0 rfl
      have q3 := hkp.bk HA.out.2.2 (by decide) (by decide)
      have HKP := Lib.hid hkp
      have hzr := hkp.1
      have HB := Lib.hid (And.intro hbr q3)
      have HF := Lib.hid hf
      clear hat hps hkp hbr q3 hf
      gi_wp2
      refine ⟨trivial, fun _ => by omega, (callsIn_wide.2 (c_pieces b.A b.n b.c m wr)).mono ?_⟩
      rintro e W0 ⟨rfl, hr1, hr2, hb2⟩
      have hz0 := hb2.size
      have HK0 := Lib.hid (HKP.out.trans (KpT.below (n0 := n0) (N := W.heap.size) hb2))
      have hgv := pcs_gives (fu - 1) (by omega) n0 _ _ b.A b.n b.c b.xs m W0 HF.out ((HB.out.1.below hb2).bsk) hr1 hr2
      have hJ0 := HJ.out pre wr W0 none hJk (grown_of hb2) (by simp)
      have HD0 : Hid (∀ D ∈ Ds, W.heap.size ≤ D ∧ W0.heap[D]? = some (.deferred (some []))) := Lib.hid fun D hD => by
        have h1 := HDs.out.2 D hD
        exact ⟨h1.1, (hb2.block D (Array.getElem?_eq_some_iff.1 h1.2).1).trans h1.2⟩
      clear hr1 hr2 hb2 hcell c2 hJk
      gi_wp2
      refine wpIn_givesM rfl (by omega) (gf := 22) (lb := #[.pointer (some ⟨wr.heap.size, 0, none⟩), .pointer (some ⟨wr.heap.size + 1, 0, none⟩)]) rfl trivial (enters_of Try.func22 (by kernel_rfl) rfl)
        hgv (Below.refl _ _) (fun _ => rfl) KpT.trans (fun N l W o o' hl ho h0 hc => KpT.put W o o' hl ho (by omega) hc)
        (fun pre' X => J (pre ++ pre') X ∧ KpT n0 W.heap.size W0 X) (fun c' pre' X => c' = .ret ∧ Jx (pre ++ pre') X ∧ KpT n0 W.heap.size W0 X)
        (fun pre' X X' row hI hw hr => ⟨HJ.out _ X X' row hI.1 hw (fun r e => ⟨by have := (hr r e).1; omega, (hr r e).2⟩), hI.2.grown hw hr (Nat.le_refl _)⟩)
        (fun c' pre' X X' row hI hw hr => ⟨hI.1, HJx.out _ X X' row hI.2.1 hw (fun r e => ⟨by have := (hr r e).1; omega, (hr r e).2⟩), hI.2.2.grown hw hr (Nat.le_refl _)⟩)
        ⟨by simpa using hJ0, KpT.refl _ _ _⟩
        (fun pre' x a' X => (allP (m : Int) ms)[(pre ++ pre').length]? = some x.say ∧ PcR X x ∧ ∃ bx, Bk X 36 bx x.cl ∧ a' = { tmps := #[.func (.yield l) #[] #[], .pointer (some ⟨g1, 0, none⟩), .pointer (some ⟨g2, 0, none⟩), .pointer (some ⟨W.heap.size, 0, none⟩), undef, .slice b.A b.n b.c, .pointer (some ⟨bx, 0, none⟩), .slice (some ⟨g, o, none⟩) n c, .int .i64 n, .int .i64 k, .bool true, .pointer (some ⟨g, o + k, none⟩), .slice b.A b.n b.c, .slice b.A b.n b.c, .int .i64 m, .func (.func 22) #[] #[.pointer (some ⟨wr.heap.size, 0, none⟩), .pointer (some ⟨wr.heap.size + 1, 0, none⟩)], .agg #[.slice x.A x.n x.c, .bool x.en, .bool x.fn], undef, undef, undef, undef, u21], defers := [] })
        ?hAx ?assign ?body ?done ?stop
      case hAx =>
        rintro pre' x a' _ X X' row ⟨h1, h2, bx, h3, h4⟩ hw hr
        have hk := KpC.grown hw (fun r e => (hr r e).2)
        exact ⟨h1, BsR.kc h2 hk, bx, hk.bk h3, h4⟩
      case assign =>
        rintro l' pre' x X K ⟨hj, hkx⟩ ⟨hat, hp⟩ hK
        have hat2 := HSAY.out _ _ hat
        rw [← HPS.out, List.length_map, ← List.length_append] at hat2
        have hnew := Bk.new X 36 zsC
        have HAT := Lib.hid hat2
        clear hat hat2
        gi_wp2_with (with_reducible refine at_storeI 36 (.tmp 6) (.tmp 16) (by rfl) ?_
                     refine wpListIn_store_bk rowC rfl (.tmp 6) (.tmp 16) rfl X.heap.size 0 rfl hnew x.cl rfl rfl (by decide) x.cl_one ?_
                     rintro w2 hz2 hw2)
        have hbX : Below X.heap.size X w2 := ((Below.refl _ X).alloc (Nat.le_refl _) _).trans (hw2.below (Nat.le_refl _) (by simp))
        exact hK _ _ ((keepsOthers_of hbX).from _) (KpT.below hbX) ⟨HJ.out _ X w2 none hj (grown_of hbX) (by simp), hkx.trans (KpT.below hbX)⟩ ⟨HAT.out, BsR.below hp hbX, _, hz2, rfl⟩
      case body =>
        rintro l' pre' x a' X hsz ⟨hj, hkx⟩ ⟨hat, hp, bx, hbx, rfl⟩
        obtain ⟨fn, tmps, asg, bd, hy, hR⟩ := HY.out (pre ++ pre') x X hj ⟨hat, hp⟩
        replace hy : (Instr.yield l #[.agg x.cl.toArray]).run Try.prog X = .ok (.round l fn tmps asg bd) X := hy
        have c3 := ((HK0.out.trans hkx).bk HA.out.2.2 (by decide) (by decide)).cell 0 rfl
        have HKX := Lib.hid hkx
        clear hkx hat hp hj
        gi_wp2_with (with_reducible refine at_loadI 36 (.tmp 6) (by rfl) ?_
                     refine wpListIn_load_bk rowC rfl (.tmp 6) rfl bx 0 rfl hbx x.cl rfl rfl ?_)
        refine ⟨fun _ => by omega, (roundIn_wide hR).mono ?_⟩
        clear hy hR
        rintro e X2 (⟨rfl, hj2, hk2⟩ | ⟨rfl, hj2, hk2⟩)
        · have HH := Lib.hid (And.intro hj2 hk2)
          clear hj2 hk2
          gi_wp2
          exact ⟨HH.out.2.from (by omega), HH.out.2.up (by omega), by rw [← List.append_assoc]; exact HH.out.1, HKX.out.trans HH.out.2⟩
        · have HH := Lib.hid (And.intro hj2 hk2)
          clear hj2 hk2
          gi_wp2
          exact ⟨HH.out.2.from (by omega), HH.out.2.up (by omega), rfl, by rw [← List.append_assoc]; exact HH.out.1, HKX.out.trans HH.out.2⟩
      case done =>
        rintro D ys X hD hS ⟨hj, hkx⟩ hK
        have hjs : J (pre ++ ys) X ∧ (pre ++ ys).map Pc.say = allP (m : Int) (ms.take (k + 1)) := ⟨hj, by rw [List.map_append, HPS.out, hS, HTK.out]; rfl⟩
        have HJS := Lib.hid hjs
        have HKX := Lib.hid hkx
        have HK2 := Lib.hid hK
        clear hj hkx hK hjs
        gi_wp2
        refine ⟨⟨k + 1, pre ++ ys, D :: Ds, _, _, _, _, _, _, _, _, by rw [Int.natCast_add]; rfl, by omega, HJS.out.2, HJS.out.1, HK0.out.trans HKX.out, List.nodup_cons.2 ⟨fun hD' => ?_, HDs.out.1⟩, fun D' hD' => ?_⟩, ?_⟩
        · have := (Array.getElem?_eq_some_iff.1 (HD0.out D hD').2).1
          omega
        · rcases List.mem_cons.1 hD' with rfl | hD'
          · exact ⟨by omega, HK2.out⟩
          · have h1 := HD0.out D' hD'
            exact ⟨h1.1, HKX.out.2 _ _ h1.2 (.inr (.inl ⟨h1.1, rfl⟩))⟩
        · simp [intOf]; omega
      case stop =>
        rintro D c' pre' X hD ⟨i, hSp⟩ ⟨rfl, hj, hkx⟩ hK
        obtain ⟨j, hj2⟩ := HPRE.out i
        have HJS := Lib.hid (show (pre ++ pre').map Pc.say = (allP (m : Int) ms).take j by rw [List.map_append, HPS.out, hSp]; exact hj2)
        gi_wp2
        refine leaves_marks (Ds := D :: Ds) rfl (M := fun X => Jx (pre ++ pre') X) (B := W.heap.size) (fun _ X X' row h hw hr => HJx.out _ X X' row h hw hr) (fun v X hX => ⟨⟨v, rfl⟩, .inr ⟨_, ⟨j, HJS.out⟩, hX⟩⟩) _ hj (fun D' hD' => ?_) (List.nodup_cons.2 ⟨fun hD' => ?_, HDs.out.1⟩)
        · rcases List.mem_cons.1 hD' with rfl | hD'
          · exact ⟨by omega, hK⟩
          · have h1 := HD0.out D' hD'
            exact ⟨h1.1, hkx.2 _ _ h1.2 (.inr (.inl ⟨h1.1, rfl⟩))⟩
        · have := (Array.getElem?_eq_some_iff.1 (HD0.out D hD').2).1
          omega
    · obtain rfl : k = n := by omega
      rw [List.take_of_length_le (by rw [HM.out]; exact Nat.le_refl _)] at hps
      have HPS := Lib.hid hps
      clear hps
      gi_wp2
      exact leaves_marks (Ds := Ds) rfl (M := fun X => J pre X) (B := W.heap.size) (fun _ X X' row h hw hr => HJ.out _ X X' row h hw hr) (fun v X hX => ⟨⟨v, rfl⟩, .inl ⟨_, HPS.out, hX⟩⟩) _ hJk HDs.out.2 HDs.out.1
end Go.Proofs.Ytmnmkolcffehhaa
