/- A message is cut. -/
import Derived.Test.YtmnmkolcffehhaaU3
set_option linter.unusedSimpArgs false
set_option linter.unusedVariables false
namespace Go.Proofs.Ytmnmkolcffehhaa
open Go.RowKit Go.Shelf
theorem make_none (C : Nat) (hC : 32 * C ≤ 281474976710656) (w : World) : ∃ cur : Array Value, cur.size = C * 3 ∧
    (Instr.makeSlice 24 (.int .i64 0) (.int .i64 C)).run Try.prog w = .ok (.slice (some ⟨w.heap.size, 0, none⟩) 0 C) (w.alloc (.cells cur 36)) := by
  obtain ⟨i, hi, hz, hsz, hby⟩ := info_parts eltC.hi
  have hr := Go.run_make (P := Try.prog) w 24 36 i _ eltC.ht hi hz .i64 .i64 (0 : Int) (C : Int) (by omega) (by omega) (by rw [hby, ← Int.natCast_mul]; omega) (by omega)
  rw [hsz] at hr
  exact ⟨_, by rw [size_madeCells]; rfl, hr⟩
theorem made_none (C : Nat) (hC : C ≤ 65536) (w : World) {cur : Array Value} (hc : cur.size = C * 3) (F : Nat → Prop) (hF : F w.heap.size) : LstP F (w.alloc (.cells cur 36)) (some ⟨w.heap.size, 0, none⟩) 0 C [] := by
  have h := LstR.made 3 w 36 cur 0 C [] (by simp) (by omega) (by omega) (by simp only [maxLen]; omega) (by simp) (fun i hi => by omega)
  refine ⟨[], rfl, ?_, rfl, by simp⟩
  refine h.tight.mono ?_
  rintro k ⟨ad, he, rfl⟩
  injection he with he
  subst he
  exact hF
attribute [local go_sem] Oper.semAt_some
set_option maxRecDepth 100000 in
set_option maxHeartbeats 4000000 in
theorem c_cut {w : World} {A : Option Addr} {n c : Nat} {xs : List Int} {m : Nat} (h : Rd .u8 w A n c xs) (hfit : fitB n m = true) :
    Calls Try.prog 7 #[.slice A n c, .int .i64 m] w fun e w' => ∃ A' n' c', e = .returned (.tuple #[.slice A' n' c', .int .i64 0]) ∧ MadeC (cutL xs m) w A' n' c' w' := by
  obtain ⟨hf1, hf2, hf3, hf4⟩ := fit_of hfit
  have hcv := cntV_cut hfit
  have hxl := h.1
  have hK : cutN n m ≤ n := Nat.le_of_not_lt fun hlt => by
    have h1 := (cutN_lt (l := n) (m := m) (k := n) (by omega)).1 hlt
    have h2 := Nat.le_mul_of_pos_right n (show 0 < m by omega)
    omega
  obtain ⟨cur, hcur, hmk⟩ := make_none (cutN n m) (by omega) w
  have hmd := made_none (cutN n m) (by omega) w hcur (fun k => w.heap.size ≤ k ∧ k ≠ w.heap.size + 1) (by omega)
  have HC := Lib.hid hcv
  have HX := Lib.hid hxl
  have HFit := Lib.hid hfit
  have HH := Lib.hid h
  clear hcv hxl hfit hcur h
  refine (callsIn_wide (n := 5)).1 ?_
  refine callsIn_of_wp_marks Try.func7 rfl trivial ?_ rfl
  simp only [Try.ntmps7, List.size_toArray, List.length_cons, List.length_nil, Nat.reduceAdd, Nat.reduceSub, Array.replicate_succ, Array.replicate_zero, List.push_toArray, List.append_toArray, List.nil_append, List.cons_append]
  gi_wp2
  refine ⟨trivial, (callsIn_wide.2 (fits_any n m w)).mono ?_⟩
  rintro e w' ⟨rfl, rfl⟩
  rw [HFit.out]
  gi_wp2
  refine ⟨trivial, (callsIn_wide.2 (count_any n m w)).mono ?_⟩
  rintro e w' ⟨rfl, rfl⟩
  rw [HC.out]
  gi_wp2
  refine ⟨trivial, (callsIn_wide.2 (c_pieces A n c m _)).mono ?_⟩
  rintro e W0 ⟨rfl, hr1, hr2, hb2⟩
  have hba : Below w.heap.size w ((w.alloc (.cells cur 36)).alloc (.cells #[.slice (some ⟨w.heap.size, 0, none⟩) 0 (cutN n m)] 24)) := ((Below.refl _ w).alloc (Nat.le_refl _) _).alloc (by simp) _
  have qv : Bk ((w.alloc (.cells cur 36)).alloc (.cells #[.slice (some ⟨w.heap.size, 0, none⟩) 0 (cutN n m)] 24)) 24 (w.heap.size + 1) [.slice (some ⟨w.heap.size, 0, none⟩) 0 (cutN n m)] := by
    have := Bk.new (w.alloc (.cells cur 36)) 24 [.slice (some ⟨w.heap.size, 0, none⟩) 0 (cutN n m)]
    rw [World.size_alloc] at this; exact this
  have hb0 := hba.trans (hb2.mono hba.size)
  have hi0 : ColP w (w.heap.size + 1) [] W0 := ⟨hb0, _, _, _, qv.below hb2, (hmd.below ((Below.refl _ _).alloc (Nat.le_refl _) _)).below hb2⟩
  have hz := hr2.lt
  simp only [World.size_alloc] at hr1 hr2 hz ⊢
  have HB0 := Lib.hid hb0
  have HI0 := Lib.hid hi0
  have hbs : BsK w.heap.size W0 A n c xs := ⟨HH.out.below hb0, fun hn k hk => .inl (by obtain ⟨ad, he, rfl⟩ := hk; exact HH.out.blk hn ad he)⟩
  have hgv := pcs_gives (5 - 1) (by decide) w.heap.size _ _ A n c xs m W0 HFit.out hbs hr1 hr2
  clear hr1 hr2 hb2 hba qv hb0 hi0 hmd hmk hbs HH
  have hsz0 := HB0.out.size
  gi_wp2
  refine wpIn_givesM rfl (by decide) (gf := 22) (lb := #[.pointer (some ⟨w.heap.size + 1 + 1, 0, none⟩), .pointer (some ⟨w.heap.size + 1 + 1 + 1, 0, none⟩)]) rfl trivial (enters_of Try.func22 (by kernel_rfl) rfl)
    hgv (Below.refl _ _) (fun _ => rfl) KpT.trans (fun N l W o o' hl ho h0 hc => KpT.put W o o' hl ho (by omega) hc)
    (fun pre W => ColP w (w.heap.size + 1) (pre.map Pc.say) W) (fun _ _ _ => False) (fun pre W W' row hI hw hr => hI.own (by omega) hw hr) (fun _ _ _ _ _ hs _ _ => hs) HI0.out
    (fun pre x a' W => pre.length < 65536 ∧ PcR W x ∧ ∃ b, Bk W 36 b x.cl ∧ a' = { tmps := #[.slice A n c, .int .i64 m, undef, undef, .slice none 0 0, .int .i64 0, .pointer (some ⟨w.heap.size + 1, 0, none⟩), .pointer (some ⟨b, 0, none⟩),
                .slice A n c, .int .i64 n, .int .i64 m, .bool true,
                .bool false, .slice A n c, .int .i64 n, .int .i64 m,
                .int .i64 (cutN n m), .slice (some ⟨w.heap.size, 0, none⟩) 0 (cutN n m),
                .slice A n c, .int .i64 m, .func (.func 22) #[] #[.pointer (some ⟨w.heap.size + 1 + 1, 0, none⟩), .pointer (some ⟨w.heap.size + 1 + 1 + 1, 0, none⟩)], .agg #[.slice x.A x.n x.c, .bool x.en, .bool x.fn], undef, undef, undef, undef, undef], defers := [] })
    ?hAx ?assign ?body ?done ?stop
  case hAx =>
    rintro pre x a' _ W W' row ⟨h1, h2, b, h3, h4⟩ hw hr
    have hk := KpC.grown hw (fun r e => (hr r e).2)
    exact ⟨h1, BsR.kc h2 hk, b, hk.bk h3, h4⟩
  case assign =>
    rintro l pre x W K hI ⟨hat, hp⟩ hK
    have hlen : pre.length < 65536 := by
      have := (List.getElem?_eq_some_iff.1 hat).1
      rw [cutL_len, HX.out] at this
      omega
    have hnew := Bk.new W 36 zsC
    gi_wp2_with (with_reducible refine at_storeI 36 (.tmp 7) (.tmp 21) (by rfl) ?_
                 refine wpListIn_store_bk rowC rfl (.tmp 7) (.tmp 21) rfl W.heap.size 0 rfl hnew x.cl rfl rfl (by decide) x.cl_one ?_
                 rintro w2 hz2 hw2)
    have hbW : Below W.heap.size W w2 := ((Below.refl _ W).alloc (Nat.le_refl _) _).trans (hw2.below (Nat.le_refl _) (by simp))
    exact hK _ _ ((keepsOthers_of hbW).from _) (KpT.below hbW) (hI.next hbW) ⟨hlen, BsR.below hp hbW, _, hz2, rfl⟩
  case body =>
    rintro l pre x a' W hsz hI ⟨hlen, hp, b, hb, rfl⟩
    obtain ⟨hbel, A1, n1, c1, r, qs, hn, hl, hps, hqs⟩ := hI
    have cl := r.cell 0 rfl
    have fl := r.free 0
    have hql : qs.length = pre.length := by have := congrArg List.length hps; simpa using this
    have hn8 : (n1 + 1) * 32 ≤ 140737488355328 := by omega
    have hla := (hl.alloc (.cells x.cl.toArray 36)).tight
    have hu := RdR.one W 36 x.cl x.cl_one
    have hvA : ¬ BlkOf A1 (w.heap.size + 1) := by
      rintro ⟨ad, he, hbk⟩
      exact (hl.blk ad he).1.2 hbk
    have HB := Lib.hid hbel
    have HP := Lib.hid hp
    have HQ := Lib.hid (And.intro hn (And.intro hl (And.intro hps hqs)))
    clear hbel hp hn hl hps hqs hql
    gi_wp2_with (first
                 | (with_reducible refine at_loadI 36 (.tmp 7) (by rfl) ?_
                    refine wpListIn_load_bk rowC rfl (.tmp 7) rfl b 0 rfl hb x.cl rfl rfl ?_)
                 | (refine wpListIn_build_row eltC rfl (.tmp 23) rfl (xs := x.cl) rfl rfl ?_)
                 | (gi_at_builtin
                    refine wpListIn_append_lstR eltC rfl (.tmp 22) (.tmp 24) rfl rfl hla rfl hu hn8 ?_
                    rintro v w2 hap
                    obtain ⟨A', n', c', rfl, hl'⟩ := hap.ex
                    have HAP := Lib.hid hap
                    have r2 := (r.alloc (.cells x.cl.toArray 36)).st hap.st hvA
                    have c3 := r2.cell 0 rfl
                    have f3 := r2.free 0
                    clear hap hl'))
    obtain ⟨k1, k2, k3, k4⟩ := ColP.step (N := W0.heap.size + 2) HB.out r qs HQ.out.1 HQ.out.2.1 HQ.out.2.2.1 HQ.out.2.2.2 (by omega) HP.out _ HAP.out
    refine ⟨k2.from _, k1, ?_⟩
    show ColP w (w.heap.size + 1) ((pre ++ [x]).map Pc.say) _
    rw [List.map_append]
    exact k3
  case done =>
    rintro D ys W hD hS ⟨hbel, A1, n1, c1, r, hl⟩ hK
    rw [hS] at hl
    have cl := r.cell 0 rfl
    gi_wp2
    refine ⟨by simp, .inl ⟨_, _, rfl, run_takeDeferred hK, ?_⟩⟩
    refine ⟨_, results_tmp2 rfl _ _ _, A1, n1, c1, rfl, ?_⟩
    have hkc : KpC W (W.putObj D (.deferred none)) := KpC.grown (grownBy_putObj' W D _) (fun r e => by cases e; exact ⟨_, hK, rfl⟩)
    refine ⟨(hl.kc hkc).mono (fun k hk => hk.1), hbel.trans ⟨rfl, rfl, rfl, by simp [World.putObj], fun k hk => World.putObj_heap_other (by omega)⟩⟩
  case stop =>
    rintro D c' pre W hD _ h _
    exact h.elim
theorem c_cut_no {w : World} {A : Option Addr} {n c : Nat} {m : Int} (hfit : fitB n m = false) :
    Calls Try.prog 7 #[.slice A n c, .int .i64 m] w fun e w' => e = .returned (.tuple #[.slice none 0 0, .int .i64 110]) ∧ w = w' := by
  have HFit := Lib.hid hfit
  clear hfit
  refine (callsIn_wide (n := 5)).1 ?_
  refine callsIn_of_wp_marks Try.func7 rfl trivial ?_ rfl
  simp only [Try.ntmps7, List.size_toArray, List.length_cons, List.length_nil, Nat.reduceAdd, Nat.reduceSub, Array.replicate_succ, Array.replicate_zero, List.push_toArray, List.append_toArray, List.nil_append, List.cons_append]
  gi_wp2
  refine ⟨trivial, (callsIn_wide.2 (fits_any n m w)).mono ?_⟩
  rintro e w' ⟨rfl, rfl⟩
  rw [HFit.out]
  gi_wp2
  exact ⟨_, results_tmp2 rfl _ _ _, rfl, rfl⟩
end Go.Proofs.Ytmnmkolcffehhaa
