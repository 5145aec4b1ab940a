/- The first pieces that are told. -/
import Derived.Test.YtmnmkolcffehhaaU11
import Derived.Test.YtmnmkolcffehhaaU4
set_option linter.unusedSimpArgs false
set_option linter.unusedVariables false
namespace Go.Proofs.Ytmnmkolcffehhaa
open Go.RowKit Go.Shelf
/-- Between two rounds. -/
structure TdI (w : World) (most : Int) (ps : List Pp) (W : World) : Prop where
  col : ColP w (w.heap.size + 1) ps W
  mo : Bk W 3 w.heap.size [.int .i64 most]
  le : ps.length ≤ most.toNat
theorem TdI.own {w W W' : World} {most : Int} {ps : List Pp} {B : Nat} {row : Option Nat} (h : TdI w most ps W) (hwB : w.heap.size ≤ B) (hw : W.grownBy W' row)
    (hr : ∀ r, row = some r → B ≤ r ∧ ∃ o : Obj, W.heap[r]? = some o ∧ o.isCells = false) : TdI w most ps W' :=
  ⟨h.col.own hwB hw hr, (KpC.grown hw (fun r e => (hr r e).2)).bk h.mo, h.le⟩
theorem run_equalIn_func_nil (w : World) (k : Nat) (f : Fn) (ts b : Array Value) : (Op.equalIn (k + 1) 45 (.func f ts b) .nilFunc).run Try.prog w = .ok false w := by
  simp [Op.equalIn, run_underlying Try.underlying45]
theorem run_func_nil (w : World) (f : Fn) (ts b : Array Value) : (binOp .eql 45 (.func f ts b) .nilFunc).run Try.prog w = .ok (.bool false) w := by
  simp only [binOp]
  simp [Op.equal, Op.maxDepth, run_equalIn_func_nil w 9999 f ts b]
attribute [local go_sem] Oper.semAt_some
set_option maxRecDepth 100000 in
set_option maxHeartbeats 4000000 in
theorem l_told {w : World} {A : Option Addr} {n c : Nat} {ms : List (List Int)} (m most : Int) (h : SlB w A n c ms) (hn : n ≤ 100000) (hps : (allP m (okM m ms)).length ≤ 1000000) :
    Calls Try.prog 14 #[.int .i64 m, .slice A n c, .int .i64 most] w fun e w' => ∃ A' n' c', e = .returned (.slice A' n' c') ∧ MadeC ((allP m (okM m ms)).take most.toNat) w A' n' c' w' := by
  generalize hP : allP m (okM m ms) = P at *
  have HP := Lib.hid hP
  obtain ⟨w0, hw0⟩ : ∃ w0, w0 = (w.alloc (.cells #[.int .i64 most] 3)).alloc (.cells #[.slice none 0 0] 24) := ⟨_, rfl⟩
  have q0 : Bk w0 3 w.heap.size [.int .i64 most] := by rw [hw0]; exact (Bk.new w _ [.int .i64 most]).alloc _
  have q1 : Bk w0 24 (w.heap.size + 1) [.slice none 0 0] := by
    have := Bk.new (w.alloc (.cells #[.int .i64 most] 3)) 24 [.slice none 0 0]
    rw [World.size_alloc] at this
    rw [hw0]; exact this
  have hb1 : Below w.heap.size w w0 := by rw [hw0]; exact (((Below.refl _ w).alloc (Nat.le_refl _) _).alloc (by simp) _)
  have hz : w0.heap.size = w.heap.size + 2 := by rw [hw0]; simp
  have HC := Lib.hid (c_all m (h.below hb1) hn)
  have HW := Lib.hid hw0
  have Q := Lib.hid (And.intro q0 (And.intro q1 (And.intro hb1 hz)))
  clear q0 q1 hb1 hz hw0 h hP
  refine (callsIn_wide (n := 5)).1 ?_
  refine callsIn_of_wp_marks Try.func14 rfl trivial ?_ rfl
  simp only [Try.ntmps14, List.size_toArray, List.length_cons, List.length_nil, Nat.reduceAdd, Nat.reduceSub, Array.replicate_succ, Array.replicate_zero, List.push_toArray, List.append_toArray, List.nil_append, List.cons_append]
  gi_wp2
  rw [← HW.out]
  refine ⟨trivial, (callsIn_wide.2 HC.out).mono ?_⟩
  rintro e W0 ⟨g1, g2, A1, n1, c1, rfl, hr1, hr2, hl, hb2⟩
  obtain ⟨q0, q1, hb1, hz⟩ := Q.out
  have hi0 : TdI w most [] W0 := ⟨⟨hb1.trans (hb2.mono hb1.size), none, 0, 0, q1.below hb2, LstP.nil _ _⟩, q0.below hb2, Nat.zero_le _⟩
  have hb0 := hb1.trans (hb2.mono hb1.size)
  have hsz0 := hb2.size
  have HI0 := Lib.hid hi0
  have hgv := all_gives (5 - 1) (by decide) w.heap.size g1 g2 A1 n1 c1 (okM m ms) m W0 (w0.heap.size ≤ ·) (fun xs hx => by unfold okM at hx; exact (List.mem_filter.1 hx).2) hl hr1 hr2 (by omega)
  rw [HP.out] at hgv
  clear hr1 hr2 hl hb2 q0 q1 hb1 hi0 hb0 Q HC
  have hq := run_func_nil W0 (.func 25) #[] #[.pointer (some ⟨g1, 0, none⟩), .pointer (some ⟨g2, 0, none⟩)]
  gi_wp2
  clear hq
  refine wpIn_givesM rfl (by decide) (gf := 25) (lb := #[.pointer (some ⟨g1, 0, none⟩), .pointer (some ⟨g2, 0, none⟩)]) rfl trivial (enters_of Try.func25 (by kernel_rfl) rfl)
    hgv (Below.refl _ _) (fun _ => rfl) KpT.trans (fun N l W o o' hl ho h0 hc => KpT.put W o o' hl ho (by omega) hc)
    (fun pre W => TdI w most (pre.map Pc.say) W) (fun c pre' W => c = .exit 0 ∧ ∃ pre x, pre' = pre ++ [x] ∧ most.toNat ≤ pre.length ∧ TdI w most (pre.map Pc.say) W) (fun pre W W' row hI hw hr => hI.own (by omega) hw hr)
    (by
      rintro c' pre' W W' row ⟨e0, pre, x, e1, e2, hI⟩ hw hr
      exact ⟨e0, pre, x, e1, e2, hI.own (by omega) hw hr⟩) HI0.out
    (fun pre x a' W => pre.length < 1000000 ∧ PcR W x ∧ ∃ b, Bk W 36 b x.cl ∧ a' = { tmps := #[.int .i64 m, .slice A n c, .int .i64 most, undef, undef, .pointer (some ⟨w.heap.size, 0, none⟩), .slice none 0 0, .pointer (some ⟨w.heap.size + 1, 0, none⟩),
          .func (.func 25) #[] #[.pointer (some ⟨g1, 0, none⟩), .pointer (some ⟨g2, 0, none⟩)], .pointer (some ⟨b, 0, none⟩), .int .i64 m, .slice A n c,
          .func (.func 25) #[] #[.pointer (some ⟨g1, 0, none⟩), .pointer (some ⟨g2, 0, none⟩)], .func (.func 25) #[] #[.pointer (some ⟨g1, 0, none⟩), .pointer (some ⟨g2, 0, none⟩)], .bool false,
          .func (.func 25) #[] #[.pointer (some ⟨g1, 0, none⟩), .pointer (some ⟨g2, 0, none⟩)], .agg #[.slice x.A x.n x.c, .bool x.en, .bool x.fn], undef, undef, undef, undef, undef, undef, undef, undef, undef], defers := [] })
    ?hAx ?assign ?body ?done ?stop
  case hAx =>
    rintro pre x a' _ W W' row ⟨h1, h2, b, h3, h4⟩ hw hr
    have hk := KpC.grown hw (fun r e => (hr r e).2)
    exact ⟨h1, BsR.kc h2 hk, b, hk.bk h3, h4⟩
  case assign =>
    rintro l pre x W K hI ⟨hat, hp⟩ hK
    have hlen : pre.length < 1000000 := by
      have := (List.getElem?_eq_some_iff.1 hat).1
      omega
    have hnew := Bk.new W 36 zsC
    gi_wp2_with (with_reducible refine at_storeI 36 (.tmp 9) (.tmp 16) (by rfl) ?_
                 refine wpListIn_store_bk rowC rfl (.tmp 9) (.tmp 16) rfl W.heap.size 0 rfl hnew x.cl rfl rfl (by decide) x.cl_one ?_
                 rintro w2 hz2 hw2)
    have hbW : Below W.heap.size W w2 := ((Below.refl _ W).alloc (Nat.le_refl _) _).trans (hw2.below (Nat.le_refl _) (by simp))
    exact hK _ _ ((keepsOthers_of hbW).from _) (KpT.below hbW) ⟨hI.col.next hbW, hI.mo.below hbW, hI.le⟩ ⟨hlen, BsR.below hp hbW, _, hz2, rfl⟩
  case body =>
    rintro l pre x a' W hsz hI ⟨hlen, hp, b, hb, rfl⟩
    have HI := Lib.hid hI
    obtain ⟨⟨hbel, A3, n3, c3, r, qs, hn3, hl, hps3, hqs⟩, r0, hle⟩ := hI
    have c0 := r0.cell 0 rfl
    have cl := r.cell 0 rfl
    have fl := r.free 0
    have hql : qs.length = pre.length := by have := congrArg List.length hps3; simpa using this
    have hn3' : n3 = pre.length := by omega
    rw [List.length_map] at hle
    subst hn3'
    by_cases hm : most ≤ pre.length
    · have HM := Lib.hid (show most.toNat ≤ pre.length by omega)
      clear hbel r hn3 hl hps3 hqs r0 hle hql
      gi_wp2
      exact ⟨KeepsFrom.refl _ _, KpT.refl _ _ _, rfl, pre, x, rfl, HM.out, HI.out⟩
    · have hm' : (pre.length : Int) < most := by omega
      have hn8 : (pre.length + 1) * 32 ≤ 140737488355328 := by omega
      have hla := (hl.alloc (.cells x.cl.toArray 36)).tight
      have hu := RdR.one W 36 x.cl x.cl_one
      have hvA : ¬ BlkOf A3 (w.heap.size + 1) := by
        rintro ⟨ad, he, hbk⟩
        exact (hl.blk ad he).1.2 hbk
      have HB := Lib.hid hbel
      have HPx := Lib.hid hp
      have HQ := Lib.hid (And.intro hn3 (And.intro hl (And.intro hps3 hqs)))
      have HR0 := Lib.hid r0
      have HLE : Hid (((pre ++ [x]).map Pc.say).length ≤ most.toNat) := Lib.hid (by simp; omega)
      clear hbel hp hn3 hl hps3 hqs hql r0 hle
      gi_wp2_with (first
                   | (with_reducible refine at_loadI 36 (.tmp 9) (by rfl) ?_
                      refine wpListIn_load_bk rowC rfl (.tmp 9) rfl b 0 rfl hb x.cl rfl rfl ?_)
                   | (refine wpListIn_build_row eltC rfl (.tmp 22) rfl (xs := x.cl) rfl rfl ?_)
                   | (gi_at_builtin
                      refine wpListIn_append_lstR eltC rfl (.tmp 21) (.tmp 23) rfl rfl hla rfl hu hn8 ?_
                      rintro v w2 hap
                      obtain ⟨A', n', c', rfl, hl'⟩ := hap.ex
                      have HAP := Lib.hid hap
                      have r2 := (r.alloc (.cells x.cl.toArray 36)).st hap.st hvA
                      have c3 := r2.cell 0 rfl
                      have f3 := r2.free 0
                      clear hap hl'))
      obtain ⟨k1, k2, k3, k4⟩ := ColP.step (N := W0.heap.size + 2) HB.out r qs HQ.out.1 HQ.out.2.1 HQ.out.2.2.1 HQ.out.2.2.2 (by omega) HPx.out _ HAP.out
      refine ⟨k2.from _, k1, ?_, k4 _ _ _ HR0.out (by decide) (by decide), HLE.out⟩
      show ColP w (w.heap.size + 1) ((pre ++ [x]).map Pc.say) _
      rw [List.map_append]
      exact k3
  case done =>
    rintro D ys W hD hS ⟨⟨hbel, A3, n3, c3, r, hl⟩, r0, hle⟩ hK
    rw [hS] at hl hle
    have HT : Hid (P.take most.toNat = P) := Lib.hid (List.take_of_length_le hle)
    have cl := r.cell 0 rfl
    have HL := Lib.hid hle
    clear hle
    gi_wp2
    refine ⟨by simp, .inl ⟨_, _, rfl, run_takeDeferred hK, ?_⟩⟩
    refine ⟨_, results_tmp rfl _ _ _, A3, n3, c3, rfl, ?_⟩
    have hkc : KpC W (W.putObj D (.deferred none)) := KpC.grown (grownBy_putObj' W D _) (fun r e => by cases e; exact ⟨_, hK, rfl⟩)
    rw [HT.out]
    refine ⟨(hl.kc hkc).mono (fun k hk => hk.1), hbel.trans ⟨rfl, rfl, rfl, by simp [World.putObj], fun k hk => World.putObj_heap_other (by omega)⟩⟩
  case stop =>
    rintro D c' pre' W hD ⟨i, hi⟩ ⟨rfl, pre, x, e1, e2, ⟨⟨hbel, A3, n3, c3, r, hl⟩, r0, hle⟩⟩ hK
    have hpre : pre.map Pc.say = P.take most.toNat := by
      rw [List.length_map] at hle
      have hlm : pre.length = most.toNat := by omega
      rw [e1, List.map_append] at hi
      have h1 := congrArg (List.take pre.length) hi
      have h2 : pre.length ≤ i := by
        have := congrArg List.length hi
        simp at this
        omega
      rw [List.take_take, Nat.min_eq_left h2, List.take_left' (by simp)] at h1
      rw [h1, hlm]
    rw [hpre] at hl
    have cl := r.cell 0 rfl
    gi_wp2
    refine ⟨by simp, .inl ⟨_, _, rfl, run_takeDeferred hK, ?_⟩⟩
    refine ⟨_, results_tmp rfl _ _ _, A3, n3, c3, rfl, ?_⟩
    have hkc : KpC W (W.putObj D (.deferred none)) := KpC.grown (grownBy_putObj' W D _) (fun r e => by cases e; exact ⟨_, hK, rfl⟩)
    refine ⟨(hl.kc hkc).mono (fun k hk => hk.1), hbel.trans ⟨rfl, rfl, rfl, by simp [World.putObj], fun k hk => World.putObj_heap_other (by omega)⟩⟩
end Go.Proofs.Ytmnmkolcffehhaa
