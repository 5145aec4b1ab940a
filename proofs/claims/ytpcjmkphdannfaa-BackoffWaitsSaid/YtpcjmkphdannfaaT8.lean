/- The law's look at the waits. -/
import Derived.Test.YtpcjmkphdannfaaT7
set_option linter.unusedSimpArgs false
set_option linter.unusedVariables false
namespace Go.Proofs.Ytpcjmkphdannfaa
open Go.RowKit Go.Shelf
theorem eltI : Elt Try.prog 42 3 (.int .i64 0) 8 := ⟨rfl, by kernel_rfl, rfl, rfl, by decide⟩
def intV (xs : List Int) : List Value := xs.map (.int .i64)
theorem intV_len (xs : List Int) : (intV xs).length = xs.length := by simp [intV]
theorem intV_snoc (xs : List Int) (x : Int) : intV (xs ++ [x]) = intV xs ++ [.int .i64 x] := by simp [intV]
/-- The first n waits. -/
def tk (b c : Int) (n : Nat) : List Int := (List.range n).map (wt b c)
theorem tk_len (b c : Int) (n : Nat) : (tk b c n).length = n := by simp [tk]
theorem tk_succ (b c : Int) (n : Nat) : tk b c (n + 1) = tk b c n ++ [wt b c n] := by simp [tk, List.range_succ]
def wl (b c n : Int) : List Int := if fitT b c = true then tk b c n.toNat else []
/-- Between two rounds. -/
structure WtI (w : World) (L : Nat) (n b c : Int) (xs : List Int) (W : World) : Prop where
  mo : Bk W 3 w.heap.size [.int .i64 n]
  col : Col 42 3 w L (w.heap.size + 1) (intV xs) W
  le : xs.length ≤ n.toNat
  eq : xs = tk b c xs.length
theorem WtI.own {w : World} {L B : Nat} {n b c : Int} {xs : List Int} {W W' : World} {row : Option Nat} (h : WtI w L n b c xs W) (hv : w.heap.size + 2 ≤ L) (hL : L ≤ B) (hw : W.grownBy W' row)
    (hr : ∀ r, row = some r → B ≤ r ∧ ∃ o : Obj, W.heap[r]? = some o ∧ o.isCells = false) : WtI w L n b c xs W' :=
  ⟨(hw.block _ h.mo.lt (fun e => by have := (hr _ e.symm).1; omega)).trans h.mo, h.col.own (by omega) hL (by omega) hw hr, h.le, h.eq⟩
/-- What an append to the variable's list keeps. -/
theorem col_kpt {w W w2 : World} {L v N n0 : Nat} {xs ys : List Value} {A A' : Option Addr} {n c n' c' : Nat} (hv : n0 ≤ v) (hL : n0 ≤ L) (r : Bk W 42 v [.slice A n c]) (hl : Lst 3 (L ≤ ·) W A n c xs) (o : Obj)
    (hap : Apd 3 (BlkOf A) (W.alloc o) (.slice A' n' c') ys w2) : KpT n0 N W (w2.setCell ⟨v, 0, none⟩ (.slice A' n' c')) := by
  obtain ⟨_, hst⟩ := hap
  have hA : ∀ k, BlkOf A k → L ≤ k := by rintro k ⟨ad, he, rfl⟩; exact (hl.blk ad he).1
  have hba : Below W.heap.size W (W.alloc o) := (Below.refl _ _).alloc (Nat.le_refl _) _
  have hAt := hl.tyd
  refine ⟨by have := hba.size; have := hst.size; simp [World.setCell]; omega, fun k o' ho hx => ?_⟩
  have hk := (Array.getElem?_eq_some_iff.1 ho).1
  have hkv : k ≠ v := by
    rintro rfl
    have r' : W.heap[k]? = _ := r
    rw [r'] at ho
    injection ho with ho
    subst ho
    rcases hx with h | ⟨_, h⟩ | ⟨cur, t, fz, h, _, h2⟩
    · omega
    · cases h
    · injection h with _ h3
      exact h2 h3.symm
  have hkA : ¬ BlkOf A k := by
    intro hb
    obtain ⟨cur, fz, h1⟩ := hAt k hb
    rw [h1] at ho
    injection ho with ho
    subst ho
    rcases hx with h | ⟨_, h⟩ | ⟨cur', t, fz', h, h2, _⟩
    · have := hA k hb; omega
    · cases h
    · injection h with _ h3
      exact h2 h3.symm
  rw [Below.heap_setCell _ _ _ _ (by simpa using hkv), hst.block k (by have := hba.size; omega) hkA, hba.block k hk]
  exact ho
attribute [local go_sem] Oper.semAt_some
set_option maxRecDepth 100000 in
set_option maxHeartbeats 4000000 in
theorem l_waits (b c n : Int) (hn8 : n ≤ 1000000) (w : World) :
    Calls Try.prog 21 #[.int .i64 b, .int .i64 c, .int .i64 n] w (Made 3 (intV (wl b c n)) w) := by
  obtain ⟨w0, hw0⟩ : ∃ w0, w0 = (w.alloc (.cells #[.int .i64 n] 3)).alloc (.cells #[.slice none 0 0] 42) := ⟨_, rfl⟩
  have q0 : Bk w0 3 w.heap.size [.int .i64 n] := by rw [hw0]; exact (Bk.new w _ [.int .i64 n]).alloc _
  have q1 : Bk w0 42 (w.heap.size + 1) [.slice none 0 0] := by
    have := Bk.new (w.alloc (.cells #[.int .i64 n] 3)) 42 [.slice none 0 0]
    rw [World.size_alloc] at this
    rw [hw0]; exact this
  have hb1 : Below w.heap.size w w0 := by rw [hw0]; exact (((Below.refl _ w).alloc (Nat.le_refl _) _).alloc (by simp) _)
  have hz : w0.heap.size = w.heap.size + 2 := by rw [hw0]; simp
  have HLk := Lib.hid (b_waits b c w0)
  have HW := Lib.hid hw0
  have Q := Lib.hid (And.intro q0 (And.intro q1 (And.intro hb1 hz)))
  have HN8 := Lib.hid hn8
  clear q0 q1 hb1 hz hw0 hn8
  refine (callsIn_wide (n := 7)).1 ?_
  refine callsIn_of_wp_marks Try.func21 rfl trivial ?_ rfl
  simp only [Try.ntmps21, List.size_toArray, List.length_cons, List.length_nil, Nat.reduceAdd, Nat.reduceSub, Array.replicate_succ, Array.replicate_zero, List.push_toArray, List.append_toArray, List.nil_append, List.cons_append]
  gi_wp2
  rw [← HW.out]
  refine ⟨trivial, (callsIn_wide.2 HLk.out).mono ?_⟩
  rintro e W0 ⟨rfl, hr1, hb2⟩
  obtain ⟨q0, q1, hb1, hz⟩ := Q.out
  have q0' := q0.below hb2
  have q1' := q1.below hb2
  have hb0 := hb1.trans (hb2.mono hb1.size)
  have hWz := hb2.size
  have hz' : w.heap.size + 2 ≤ w0.heap.size := by omega
  have hnl : (binOp BinOp.eql 53 (.func (.func 26) #[] #[.pointer (some ⟨w0.heap.size, 0, none⟩)]) .nilFunc).run Try.prog W0 = .ok (.bool false) W0 := by kernel_rfl
  clear Q hb2 q0 q1 hz
  gi_wp2
  obtain ⟨L, hL⟩ : ∃ L, L = W0.heap.size := ⟨_, rfl⟩
  have hLw : w.heap.size + 2 ≤ L := by omega
  have HLz := Lib.hid hL
  clear hL hnl
  refine wpIn_givesE rfl (by decide) (gf := 26) (lb := #[.pointer (some ⟨w0.heap.size, 0, none⟩)]) rfl trivial (enters_of Try.func26 (by kernel_rfl) rfl)
    (waits_gives (7 - 1) (by decide) (n.toNat + 1) w.heap.size w0.heap.size b c W0 hr1 (by omega)) (Below.refl _ _) (fun _ => rfl) KpT.trans (fun N l W o o' hl ho h0 hc => KpT.put W o o' hl ho (by omega) hc)
    (fun pre W => WtI w L n b c pre W) (fun c' pre' W => c' = .exit 0 ∧ ∃ pre x, pre' = pre ++ [x] ∧ n.toNat ≤ pre.length ∧ WtI w L n b c pre W) (fun pre W W' row hI hw hr => hI.own (by omega) (by have := HLz.out; omega) hw hr)
    (by
      rintro c' pre' W W' row ⟨e0, pre, x, e1, e2, hI⟩ hw hr
      exact ⟨e0, pre, x, e1, e2, hI.own (by omega) (by have := HLz.out; omega) hw hr⟩) ⟨q0', ⟨hb0, by have := HLz.out; omega, none, 0, 0, q1', Lst.nil _ _ _⟩, Nat.zero_le _, rfl⟩
    (fun pre W1 hle hI => by have := hI.le; omega)
    (fun pre x a' W => x = wt b c pre.length ∧ a' = { tmps := #[.int .i64 b, .int .i64 c, .int .i64 n, undef, undef, .pointer (some ⟨w.heap.size, 0, none⟩), .slice none 0 0, .pointer (some ⟨w.heap.size + 1, 0, none⟩),
          .func (.func 26) #[] #[.pointer (some ⟨w0.heap.size, 0, none⟩)], .int .i64 x, .int .i64 b, .int .i64 c, .func (.func 26) #[] #[.pointer (some ⟨w0.heap.size, 0, none⟩)], .func (.func 26) #[] #[.pointer (some ⟨w0.heap.size, 0, none⟩)], .bool false,
          .func (.func 26) #[] #[.pointer (some ⟨w0.heap.size, 0, none⟩)], .int .i64 x, undef, undef, undef, undef, undef, undef, undef, undef, undef], defers := [] })
    ?hAx ?assign ?body ?done ?stop
  case hAx =>
    rintro pre x a' _ W W' row h hw hr
    exact h
  case assign =>
    rintro l pre x W K hI hx hK
    have HI := Lib.hid hI
    have HX := Lib.hid hx
    clear hI hx
    gi_wp2
    exact hK _ _ (KeepsFrom.refl _ _) (KpT.refl _ _ _) HI.out ⟨HX.out, rfl⟩
  case body =>
    rintro l pre x a' W hsz hI ⟨hx, rfl⟩
    have HI := Lib.hid hI
    obtain ⟨r0, ⟨hb, hsz2, A, n3, c3, r, hl⟩, hle, heq⟩ := hI
    have c0 := r0.cell 0 rfl
    have cl := r.cell 0 rfl
    have fl := r.free 0
    have hn := hl.1
    rw [intV_len] at hn
    subst hn
    have HX := Lib.hid hx
    by_cases hm : n ≤ pre.length
    · have HM := Lib.hid (show n.toNat ≤ pre.length by omega)
      clear hb hsz2 r0 r hl hle heq hx
      gi_wp2
      exact ⟨KeepsFrom.refl _ _, KpT.refl _ _ _, rfl, pre, x, rfl, HM.out, HI.out⟩
    · have hm' : (pre.length : Int) < n := by omega
      have hn8 : pre.length ≤ 1000000 := by have := HN8.out; omega
      have hla := (hl.alloc (.cells #[.int .i64 x] 3)).tight
      have hu := RdV.one W 3 (.int .i64 x) rfl
      have HLE : Hid ((pre ++ [x]).length ≤ n.toNat) := Lib.hid (by simp; omega)
      have HEQ : Hid (pre ++ [x] = tk b c (pre ++ [x]).length) := Lib.hid (by rw [List.length_append, List.length_singleton, tk_succ, ← heq, hx])
      have hvA : ¬ BlkOf A (w.heap.size + 1) := by
        rintro ⟨ad, he, hbk⟩
        have := (hl.blk ad he).1
        omega
      have HR0 := Lib.hid r0
      have HB := Lib.hid hb
      have HS := Lib.hid hsz2
      clear hb hsz2 r0 hx heq hle
      gi_wp2_with (first
                   | (refine wpListIn_build_one (x := .int .i64 x) eltI rfl (.tmp 22) rfl rfl rfl ?_)
                   | (gi_at_builtin
                      refine wpListIn_append_lst eltI rfl (.tmp 21) (.tmp 23) rfl rfl hla rfl hu (by omega) ?_
                      rintro v w2 hap
                      obtain ⟨A', n', c', rfl, hl'⟩ := hap.ex
                      have HAP := Lib.hid hap
                      have r2 := (r.alloc (.cells #[.int .i64 x] 3)).st hap.st hvA
                      have c3 := r2.cell 0 rfl
                      have f3 := r2.free 0
                      clear hap hl'))
      obtain ⟨k1, k2, k3⟩ := Col.step HB.out HS.out r hl (by omega) (by omega) _ HAP.out
      refine ⟨k1.from _, col_kpt (w := w) (by omega) (by omega) r hl _ HAP.out, HR0.out.st k2 (by omega), ?_, HLE.out, HEQ.out⟩
      rw [intV_snoc]
      exact k3
  case done =>
    rintro D ys W hD ⟨hf, rfl⟩ ⟨r0, ⟨hb, hsz, A, n3, c3, r, hl⟩, hle, heq⟩ hK
    have HT : Hid (wl b c n = []) := Lib.hid (by unfold wl; rw [hf]; rfl)
    have cl := r.cell 0 rfl
    clear hle heq hf
    gi_wp2
    refine ⟨by simp, .inl ⟨_, _, rfl, run_takeDeferred hK, ?_⟩⟩
    refine ⟨_, results_tmp rfl _ _ _, ?_⟩
    rw [HT.out]
    exact Col.shut0 (t := 42) (v := w.heap.size + 1) hb hl hK (by omega) (by omega)
  case stop =>
    rintro D c' pre' W hD hf ⟨rfl, pre, x, e1, e2, r0, ⟨hb, hsz, A, n3, c3, r, hl⟩, hle, heq⟩ hK
    have hpre : pre = wl b c n := by
      unfold wl
      rw [if_pos hf, show n.toNat = pre.length by omega]
      exact heq
    rw [hpre] at hl
    have cl := r.cell 0 rfl
    clear hle heq e1 e2 hpre hf
    gi_wp2
    refine ⟨by simp, .inl ⟨_, _, rfl, run_takeDeferred hK, ?_⟩⟩
    refine ⟨_, results_tmp rfl _ _ _, ?_⟩
    exact Col.shut0 (t := 42) (v := w.heap.size + 1) hb hl hK (by omega) (by omega)
end Go.Proofs.Ytpcjmkphdannfaa
