/- The law's busy: the first busy ports that are told. -/
import Derived.Test.YtbhhgfpliggkgaaF10
import Derived.Test.YtbhhgfpliggkgaaLL
set_option linter.unusedSimpArgs false
set_option linter.unusedVariables false
set_option maxRecDepth 100000
namespace Go.Proofs.Ytbhhgfpliggkgaa
open Go.RowKit Go.Shelf
attribute [local go_sem] Oper.semAt_some

theorem run_equalIn_func_nil (w : World) (k : Nat) (f : Fn) (ts b : Array Value) : (Op.equalIn (k + 1) 95 (.func f ts b) .nilFunc).run Try.prog w = .ok false w := by
  simp [Op.equalIn, run_underlying Try.underlying95]
theorem run_func_nil (w : World) (f : Fn) (ts b : Array Value) : (binOp .eql 95 (.func f ts b) .nilFunc).run Try.prog w = .ok (.bool false) w := by
  simp only [binOp]
  simp [Op.equal, Op.maxDepth, run_equalIn_func_nil w 9999 f ts b]
def intV (xs : List Int) : List Value := xs.map (.int .i64)
theorem intV_len (xs : List Int) : (intV xs).length = xs.length := by simp [intV]
theorem eltI : Elt Try.prog 51 3 (.int .i64 0) 8 := ⟨rfl, by kernel_rfl, rfl, rfl, by decide⟩
/-- Places as numbers, path, host, path, host. -/
def plcs (ps : List (Nat × Nat)) : List Int := ps.flatMap fun p => [(p.1 : Int), (p.2 : Int)]
theorem plcs_snoc (ps : List (Nat × Nat)) (p : Nat × Nat) : plcs (ps ++ [p]) = plcs ps ++ [(p.1 : Int), (p.2 : Int)] := by simp [plcs]
theorem plcs_len : ∀ ps : List (Nat × Nat), (plcs ps).length = 2 * ps.length
  | [] => rfl
  | p :: r => by
    have := plcs_len r
    simp only [plcs, List.flatMap_cons, List.length_append, List.length_cons, List.length_nil] at this ⊢
    omega
def prePl (ps : List (Nat × Nat)) (pre : List (Fin ps.length)) : List (Nat × Nat) := pre.map fun i => ps[i]
theorem prePl_snoc (ps : List (Nat × Nat)) (pre : List (Fin ps.length)) (x : Fin ps.length) : prePl ps (pre ++ [x]) = prePl ps pre ++ [ps[x]] := by simp [prePl]
theorem prePl_all (ps : List (Nat × Nat)) : prePl ps (List.finRange ps.length) = ps := by
  apply List.ext_getElem
  · simp [prePl]
  · intro i h1 h2
    simp [prePl]
theorem prePl_take (ps : List (Nat × Nat)) (k : Nat) : prePl ps ((List.finRange ps.length).take k) = ps.take k := by
  have := congrArg (List.take k) (prePl_all ps)
  rw [← this, prePl, prePl, List.map_take]
section
variable {F X F1 X1 G : Nat → Prop} {w w' w1 W W' : World} {m m1 : FM} {pp : Nat → Nat} {FF : Nat → Nat → Prop} {k L H : Nat} {P A : Option Addr} {n d : Nat}
theorem RdV.two (w : World) (e : TypeId) (x y : Value) (hx : x.oneCell' = true) (hy : y.oneCell' = true) : RdV (w.alloc (.cells #[x, y] e)) (some ⟨w.heap.size, 0, none⟩) 2 2 [x, y] := by
  have := Lst.made w e #[x, y] 2 [x, y] rfl (by simp) (by simp [maxLen]) (by simp [hx, hy]) (fun i hi => by
    match i, hi with
    | 0, _ => rfl
    | 1, _ => rfl)
  exact this.rdv
/-- Within busy. -/
structure BuI (w : World) (L most : Nat) (ps : List (Nat × Nat)) (pre : List (Fin ps.length)) (W : World) : Prop where
  col : Col 51 3 w L (w.heap.size + 1) (intV (plcs (prePl ps pre))) W
  bx : Bk W 3 w.heap.size [.int .i64 most]
  le : pre.length ≤ most
theorem BuI.own {most : Nat} {ps : List (Nat × Nat)} (hL : w.heap.size + 2 ≤ L) : OwnFrom L (BuI w L most ps) := by
  rintro pre W W' row ⟨h1, h2, h3⟩ hw hr
  exact ⟨h1.own (B := L) (by omega) (Nat.le_refl _) (by omega) hw hr, (hw.block _ h2.lt (fun e => by have := (hr _ e.symm).1; omega)).trans h2, h3⟩
def BuX (w : World) (L most : Nat) (ps : List (Nat × Nat)) (c : Code) (pre' : List (Fin ps.length)) (W : World) : Prop :=
  c = .exit 0 ∧ ∃ pre x, pre' = pre ++ [x] ∧ most ≤ pre.length ∧ BuI w L most ps pre W
set_option maxHeartbeats 8000000 in
theorem l_busy (h : FbP F X w P m pp FF) (most : Nat) (hm : most ≤ 1000) :
    Calls Try.prog 25 #[.pointer P, .int .i64 most] w (Made 3 (intV (plcs (m.busy.take most))) w) := by
  have fn := fun (w : World) (f : Fn) (ts b : Array Value) => run_func_nil w f ts b
  have hb2 : Below w.heap.size w ((w.alloc (.cells #[.int .i64 most] 3)).alloc (.cells #[.slice none 0 0] 51)) := ((Below.refl _ _).alloc (Nat.le_refl _) _).alloc (by simp) _
  have HB := Lib.hid (f_Busy (h.below hb2))
  have HB2 := Lib.hid hb2
  have HQ0 := Lib.hid ((Bk.new w 3 [.int .i64 most]).alloc (.cells #[.slice none 0 0] 51))
  have HQ1 : Hid (Bk ((w.alloc (.cells #[.int .i64 most] 3)).alloc (.cells #[.slice none 0 0] 51)) 51 (w.heap.size + 1) [.slice none 0 0]) := Lib.hid (by
    have := Bk.new (w.alloc (.cells #[.int .i64 most] 3)) 51 [.slice none 0 0]
    rw [World.size_alloc] at this; exact this)
  clear h hb2
  refine (callsIn_wide (n := 5)).1 ?_
  refine callsIn_of_wp_marks Try.func25 rfl trivial ?_ rfl
  simp only [Try.ntmps25, List.size_toArray, List.length_cons, List.length_nil, Nat.reduceAdd, Nat.reduceSub, Array.replicate_succ, Array.replicate_zero, List.push_toArray, List.append_toArray, List.nil_append, List.cons_append]
  gi_wp2
  refine ⟨trivial, (callsIn_wide.2 HB.out).mono ?_⟩
  rintro e W0 ⟨g, A, n, c, rfl, hg, hbx, hn, hrd, hA, hb⟩
  have q0 := HQ0.out.below hb
  have q1 := HQ1.out.below hb
  have hb0 := HB2.out.trans (hb.mono HB2.out.size)
  have hgl := hbx.lt
  have hsz0 := hb.size
  simp only [World.size_alloc] at hg hA hsz0
  have hn64 : n ≤ 64 := by rw [hn]; exact m.busyN_len 64
  have HSZ : Hid (w.heap.size + 2 ≤ W0.heap.size) := Lib.hid (by omega)
  have HT : Hid (∀ k, (k = g ∨ BlkOf A k) → w.heap.size + 2 ≤ k ∧ k < W0.heap.size) := Lib.hid (by
    rintro k (rfl | ⟨ad, he, rfl⟩)
    · exact ⟨by omega, hgl⟩
    · exact ⟨by have := (hA ad he).1; omega, (hA ad he).2⟩)
  have HSt := Lib.hid (busy_stops (5 - 1) (by decide) (fun k => k = g ∨ BlkOf A k) g m.busy A n c W0 hn hn64 (.inl rfl) (fun ad he => .inr ⟨ad, he, rfl⟩) (fun k hk => (HT.out k hk).2) hbx hrd)
  have hl64 : m.busy.length ≤ 64 := by omega
  clear hg hbx hn hrd hA hb hgl hn64 HB HQ0 HQ1 hsz0
  generalize m.busy = ps at *
  gi_wp2
  clear fn
  refine wpIn_rangeFunc_ownF rfl (by decide) (gf := 59) (lb := #[.pointer (some ⟨g, 0, none⟩)]) rfl trivial (enters_of Try.func59 (by kernel_rfl) rfl)
    HSt.out KpS.trans (KpS.put (fun k hk => (HT.out k hk).2)) (Below.refl _ _) (fun _ => rfl)
    (BuI w W0.heap.size most ps) (BuX w W0.heap.size most ps) (BuI.own HSZ.out) (fun c' => ?own) ⟨⟨hb0, Nat.le_refl _, none, 0, 0, q1, Lst.nil _ _ _⟩, q0, Nat.zero_le _⟩
    (fun i => { tmps := #[.pointer P, .int .i64 most, undef, .pointer (some ⟨w.heap.size, 0, none⟩), .slice none 0 0, .pointer (some ⟨w.heap.size + 1, 0, none⟩), .func (.func 59) #[] #[.pointer (some ⟨g, 0, none⟩)], .int .i64 ps[i].1, .int .i64 ps[i].2, .pointer P, .func (.func 59) #[] #[.pointer (some ⟨g, 0, none⟩)], .func (.func 59) #[] #[.pointer (some ⟨g, 0, none⟩)], .bool false, .func (.func 59) #[] #[.pointer (some ⟨g, 0, none⟩)], .int .i64 ps[i].1, .int .i64 ps[i].2, undef, undef, undef, undef, undef, undef, undef, undef, undef, undef, undef], defers := [] }) ?assign ?body ?done ?stop
  case own =>
    rintro pre' W W' row ⟨hc', pre, x, e1, e2, hI⟩ hw hr
    exact ⟨hc', pre, x, e1, e2, BuI.own HSZ.out pre W W' row hI hw hr⟩
  case assign =>
    intro l x W K hK
    gi_wp2
    simpa using hK
  case body =>
    rintro l pre x W ⟨⟨hbel, hsz, A1, n1, c1, r, hl⟩, hbx, hle⟩ hpre
    have c0 := hbx.cell 0 rfl
    have cl := r.cell 0 rfl
    have fl := r.free 0
    have hn1 : n1 = 2 * pre.length := by have := hl.1; rw [intV_len, plcs_len] at this; simp [prePl] at this; omega
    have hpl : pre.length ≤ 64 := by omega
    have hmw : IntKind.i64.wrap (2 * (most : Int)) = 2 * most := by rw [IntKind.wrap_i64]; omega
    by_cases hlt : most ≤ pre.length
    · have HI : Hid (BuI w W0.heap.size most ps pre W) := Lib.hid ⟨⟨hbel, hsz, A1, n1, c1, r, hl⟩, hbx, hle⟩
      have hcmp : 2 * (most : Int) ≤ (n1 : Int) := by omega
      clear hn1 hbel hsz r hl hbx
      gi_wp2
      exact ⟨KeepsOthers.refl _, rfl, pre, x, rfl, hlt, HI.out⟩
    · have hcmp : (n1 : Int) < 2 * (most : Int) := by omega
      have hpp := prePl_snoc ps pre x
      obtain ⟨y, hy⟩ : ∃ y, y = ps[x] := ⟨_, rfl⟩
      rw [← hy] at hpp ⊢
      have HPP := Lib.hid hpp
      have hla := (hl.alloc (.cells #[.int .i64 y.1, .int .i64 y.2] 3)).tight
      have hu := RdV.two W 3 (.int .i64 y.1) (.int .i64 y.2) rfl rfl
      have ra := r.alloc (.cells #[.int .i64 y.1, .int .i64 y.2] 3)
      have hk8 : (n1 + 2) * 8 ≤ 140737488355328 := by omega
      have hvA : ¬ BlkOf A1 (w.heap.size + 1) := by
        rintro ⟨ad, he, hbk⟩
        have := (hl.blk ad he).1
        have := HSZ.out
        omega
      have HI := Lib.hid (And.intro hbel (And.intro hsz (And.intro r (And.intro hl hbx))))
      clear hbel hsz r hl hbx hn1 hy hpp
      gi_wp2_with (gi_at_builtin
                   refine wpListIn_append_lst eltI rfl (.tmp 21) (.tmp 24) rfl rfl hla rfl hu hk8 ?_
                   rintro v w2 hap
                   obtain ⟨A', n', c', rfl, hl'⟩ := hap.ex
                   have HAP := Lib.hid hap
                   have r2 := ra.st hap.st hvA
                   have c3 := r2.cell 0 rfl
                   have f3 := r2.free 0
                   clear hap hl')
      obtain ⟨hbel, hsz, r, hl, hbx⟩ := HI.out
      have hs2 := HSZ.out
      obtain ⟨k1, k2, k3⟩ := Col.step hbel hsz r hl (by omega) (by omega) _ HAP.out
      refine ⟨k1, fun k hk => k2.block k (by have := (HT.out k hk).2; omega) (by have := HT.out k hk; omega), ?_⟩
      refine ⟨?_, hbx.st k2 (by omega), by simp; omega⟩
      rw [HPP.out, plcs_snoc]
      simpa [intV] using k3
  case done =>
    rintro D ys W hD rfl ⟨⟨hbel, hsz, A1, n1, c1, r, hl⟩, hbx, hle⟩ hK
    rw [prePl_all] at hl
    have hvm : ps = ps.take most := by
      rw [List.length_finRange] at hle
      rw [List.take_of_length_le hle]
    have HV := Lib.hid hvm
    have cl := r.cell 0 rfl
    have HE := Lib.hid (Col.shut0 (t := 51) (v := w.heap.size + 1) hbel hl hK (by have := HSZ.out; omega) (by have := HSZ.out; omega))
    rw [hvm] at HE
    clear hvm hl hbel r hbx
    gi_wp2
    refine ⟨by simp, .inl ⟨_, _, rfl, run_takeDeferred hK, ?_⟩⟩
    refine ⟨_, results_tmp rfl _ _ _, ?_⟩
    exact HE.out
  case stop =>
    rintro D c' pre' W hD ⟨k, hpk⟩ ⟨rfl, pre, x, e1, e2, ⟨⟨hbel, hsz, A1, n1, c1, r, hl⟩, hbx, hle⟩⟩ hK
    have hpre : pre = (List.finRange ps.length).take most := by
      obtain rfl : pre.length = most := by omega
      rw [e1] at hpk
      have hk : pre.length ≤ k := by
        have := congrArg List.length hpk
        simp at this
        omega
      have := congrArg (List.take pre.length) hpk
      rw [List.take_take, Nat.min_eq_left hk] at this
      rw [← this]
      simp
    rw [hpre, prePl_take] at hl
    have cl := r.cell 0 rfl
    have HE := Lib.hid (Col.shut0 (t := 51) (v := w.heap.size + 1) hbel hl hK (by have := HSZ.out; omega) (by have := HSZ.out; omega))
    clear hpre e1 hpk hl hbel r hbx
    gi_wp2
    refine ⟨by simp, .inl ⟨_, _, rfl, run_takeDeferred hK, ?_⟩⟩
    refine ⟨_, results_tmp rfl _ _ _, ?_⟩
    exact HE.out
end
end Go.Proofs.Ytbhhgfpliggkgaa
