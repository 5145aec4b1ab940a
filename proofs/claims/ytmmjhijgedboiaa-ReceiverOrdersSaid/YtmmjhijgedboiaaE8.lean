/- The numbers that are kept are told. -/
import Derived.Test.YtmmjhijgedboiaaE7
import Derived.Test.YtmmjhijgedboiaaCol
set_option linter.unusedSimpArgs false
set_option linter.unusedVariables false
set_option maxRecDepth 100000
namespace Go.Proofs.Ytmmjhijgedboiaa
open Go.RowKit Go.Shelf
attribute [local go_sem] Oper.semAt_some
def intV (xs : List Int) : List Value := xs.map (.int .i64)
theorem intV_len (xs : List Int) : (intV xs).length = xs.length := by simp [intV]
theorem eltI : Elt Try.prog 63 3 (.int .i64 0) 8 := ⟨rfl, by kernel_rfl, rfl, rfl, by decide⟩
def sqs (ks : List Pk) : List Int := ks.map fun p => p.h.sq
theorem MpR.mono {w : World} {b : Nat} {ks ks' : List Pk} (h : MpR w b ks) (hs : ∀ p ∈ ks', p ∈ ks) : MpR w b ks' := by
  obtain ⟨L, h1, h2, h3⟩ := h
  exact ⟨L, h1, h2, fun p hp => h3 p (hs p hp)⟩
/-- Between two rounds. -/
structure KpI (w : World) (m : Rm) (pre : List Pe) (W : World) : Prop where
  col : Col 63 3 w (w.heap.size + 1) w.heap.size (intV (sqs (m.ks.take pre.length))) W
  le : pre.length ≤ m.ks.length
theorem KpI.own {w : World} {m : Rm} {B : Nat} (hB : w.heap.size + 1 ≤ B) : OwnFrom B (KpI w m) := fun pre W W' row h hw hr => ⟨h.col.own (by omega) hB (by omega) hw hr, h.le⟩
section
variable {F FJ FP : Nat → Prop} {w w' : World} {e r pb g : Nat} {m : Rm} {jm : Jm}
theorem EnA.sg {mb : Option Nat} (h : EnA F w e m pb mb g FJ FP jm) (hm : m.Ok) {W : World} (hb : Below w.heap.size w W) (pre : List Pe) : SgK e pb g mb m pre W := by
  refine ⟨h.bk.below hb, h.bm.below hb, fun p hp => ?_⟩
  cases hd : m.dn with
  | true => rw [hm.dk hd] at hp; simp at hp
  | false =>
    obtain ⟨_, b, rfl⟩ := h.jd hd
    exact ⟨b, rfl, ((h.mp b rfl).below hb).rd.mono fun p hp => List.mem_of_mem_drop hp⟩
set_option maxHeartbeats 8000000 in
theorem v_kept (h : RcA F w r e m) (hm : m.Ok) : Calls Try.prog 23 #[.pointer (some ⟨r, 0, none⟩)] w (Made 3 (intV (sqs m.ks)) w) := by
  have hMD := v_made h
  have c0 := h.bk.cell 0 rfl
  obtain ⟨pb, mb, g, FJ, FP, jm, hx⟩ := h.en
  have hgv := kept_gives (5 - 1) (by decide) e pb g mb m hm w
  have hSG := fun W hb pre => hx.sg hm (W := W) hb pre
  have hlen : m.ks.length ≤ 1000000 := by have := hm.lm; omega
  have hb0 : Below w.heap.size w (w.alloc (.cells #[.slice none 0 0] 63)) := (Below.refl _ w).alloc (Nat.le_refl _) _
  have q1 := Bk.new w 63 [.slice none 0 0]
  have c1 := (h.bk.below hb0).cell 0 rfl
  clear h hx hm
  refine (callsIn_wide (n := 5)).1 ?_
  refine callsIn_of_wp_marks Try.func23 rfl trivial ?_ rfl
  simp only [Try.ntmps23, List.size_toArray, List.length_cons, List.length_nil, Nat.reduceAdd, Nat.reduceSub, Array.replicate_succ, Array.replicate_zero, List.push_toArray, List.append_toArray, List.nil_append, List.cons_append]
  gi_wp2
  refine ⟨trivial, (callsIn_wide.2 hMD).mono ?_⟩
  rintro en w' ⟨rfl, rfl⟩
  gi_wp2
  obtain ⟨W0, hW0⟩ : ∃ W0, W0 = w.alloc (.cells #[.slice none 0 0] 63) := ⟨_, rfl⟩
  rw [← hW0] at hb0 q1 ⊢
  have hs0 : W0.heap.size = w.heap.size + 1 := by rw [hW0]; simp
  clear hW0 c0 c1 hMD
  refine wpIn_givesS rfl (by decide) (gf := 48) (va := .pointer (some ⟨e, 0, none⟩)) rfl trivial (enters_of Try.func48 (by kernel_rfl) rfl)
    hgv hb0 (fun _ => rfl) (KpI w m) (fun _ _ _ => False) (KpI.own (by omega)) (fun _ _ _ _ _ hs _ _ => hs) ⟨⟨hb0, by omega, none, 0, 0, q1, Lst.nil _ _ _⟩, Nat.zero_le _⟩ (fun pre W hI => hSG W hI.col.bel pre)
    (fun pre x a' W => (∃ p, m.ks[pre.length]? = some p ∧ x.mt p) ∧ a' = { tmps := #[.pointer (some ⟨r, 0, none⟩), undef, .slice none 0 0, .pointer (some ⟨w.heap.size, 0, none⟩), .int .i64 x.k, .pointer (some ⟨r, 0, none⟩), .bool true, .bool false, .pointer (some ⟨r, 0, none⟩), .pointer (some ⟨r, 0, none⟩), .pointer (some ⟨r, 0, none⟩), .pointer (some ⟨e, 0, none⟩), .func (.func 48) #[.pointer (some ⟨e, 0, none⟩)] #[], .int .i64 x.k, .agg #[.slice x.A x.n x.c, .bool x.en, .bool x.fi], undef, undef, undef, undef, undef], defers := [] })
    ?hAx ?assign ?body ?done ?stop
  case hAx => rintro pre x a' _ W W' row h hw hr; exact h
  case assign =>
    rintro l pre x W K hI hgd hK
    gi_wp2
    exact hK _ _ ((KeepsOthers.refl _).from _) hI ⟨hgd.1, rfl⟩
  case body =>
    rintro l pre x a' W hszW ⟨⟨hb, hsz, A, n, c, rr, hl⟩, hle⟩ ⟨⟨p, hp, hmt⟩, rfl⟩
    have cl := rr.cell 0 rfl
    have fl := rr.free 0
    have hn := hl.1
    have hpl := (List.getElem?_eq_some_iff.1 hp).1
    have hA : Hid (intV (sqs (m.ks.take (pre ++ [x]).length)) = intV (sqs (m.ks.take pre.length)) ++ [.int .i64 x.k]) := Lib.hid (by
      rw [List.length_append, List.length_singleton, List.take_add_one, hp]
      simp [intV, sqs, hmt.1])
    rw [intV_len, sqs, List.length_map, List.length_take] at hn
    have hn8 : n ≤ 1000000 := by omega
    have hla := (hl.alloc (.cells #[.int .i64 x.k] 3)).tight
    have hu := RdV.one W 3 (.int .i64 x.k) rfl
    have hvA : ¬ BlkOf A w.heap.size := by
      rintro ⟨ad, he, hbk⟩
      have := (hl.blk ad he).1
      omega
    have HB := Lib.hid hb
    have HS := Lib.hid hsz
    have HP := Lib.hid (show (pre ++ [x]).length ≤ m.ks.length by rw [List.length_append]; exact hpl)
    clear hb hsz hp hmt hn
    gi_wp2_with (first
                 | (refine wpListIn_build_one (x := .int .i64 x.k) eltI rfl (.tmp 16) rfl rfl rfl ?_)
                 | (gi_at_builtin
                    refine wpListIn_append_lst eltI rfl (.tmp 15) (.tmp 17) rfl rfl hla rfl hu (by omega) ?_
                    rintro v w2 hap
                    obtain ⟨A', n', c', rfl, hl'⟩ := hap.ex
                    have HAP := Lib.hid hap
                    have r2 := (rr.alloc (.cells #[.int .i64 x.k] 3)).st hap.st hvA
                    have c3 := r2.cell 0 rfl
                    have f3 := r2.free 0
                    clear hap hl'))
    obtain ⟨k1, k2, k3⟩ := Col.step HB.out HS.out rr hl (by omega) (by omega) _ HAP.out
    refine ⟨k1.from _, ?_, HP.out⟩
    show Col 63 3 w (w.heap.size + 1) w.heap.size (intV (sqs (m.ks.take (pre ++ [x]).length))) _
    rw [hA.out]
    exact k3
  case done =>
    rintro D ys W hD hy ⟨⟨hb, hsz, A, n, c, rr, hl⟩, hle⟩ hK
    rw [hy, List.take_length] at hl
    have cl := rr.cell 0 rfl
    gi_wp2
    refine ⟨by simp, .inl ⟨_, _, rfl, run_takeDeferred hK, ?_⟩⟩
    obtain ⟨A', n', c', he, h1, h2⟩ := Col.shut0 (t := 63) (v := w.heap.size) hb hl hK (by omega) (by omega)
    injection he with he
    injection he with e1 e2 e3
    subst e1 e2 e3
    exact ⟨_, results_tmp rfl _ _ _, A, n, c, rfl, h1, h2⟩
  case stop =>
    rintro D c' pre W hD _ h _
    exact h.elim
end
end Go.Proofs.Ytmmjhijgedboiaa
