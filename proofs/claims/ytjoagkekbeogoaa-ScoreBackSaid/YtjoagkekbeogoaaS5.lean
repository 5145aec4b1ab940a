/- The active paths of a score. -/
import Derived.Test.YtjoagkekbeogoaaS4
import Derived.Test.YtjoagkekbeogoaaCol
set_option linter.unusedSimpArgs false
set_option linter.unusedVariables false
namespace Go.Proofs.Ytjoagkekbeogoaa
open Go.RowKit Go.Shelf
attribute [local go_sem] Oper.semAt_some

def intV (xs : List Int) : List Value := xs.map (.int .i64)
theorem intV_len (xs : List Int) : (intV xs).length = xs.length := by simp [intV]
theorem intV_snoc (xs : List Int) (x : Int) : intV (xs ++ [x]) = intV xs ++ [.int .i64 x] := by simp [intV]
theorem eltI : Elt Try.prog 37 3 (.int .i64 0) 8 := ⟨rfl, by kernel_rfl, rfl, rfl, by decide⟩
/-- The places of these that are active. -/
def accA (S : Sc) (pre : List (Fin S.n)) : List Int := (pre.filter fun i => S.r i.val == 0).map fun i => (i.val : Int)
theorem accA_snoc (S : Sc) (pre : List (Fin S.n)) (x : Fin S.n) : accA S (pre ++ [x]) = if S.r x.val = 0 then accA S pre ++ [(x.val : Int)] else accA S pre := by
  unfold accA
  rw [List.filter_append, List.map_append]
  by_cases h : S.r x.val = 0 <;> simp [h]
theorem accA_len (S : Sc) (pre : List (Fin S.n)) : (accA S pre).length ≤ pre.length := by
  unfold accA
  rw [List.length_map]
  exact List.length_filter_le _ _
theorem map_val_finRange (n : Nat) : (List.finRange n).map Fin.val = List.range n := by
  apply List.ext_getElem
  · simp
  · intro i h1 h2
    simp
theorem filter_val {n : Nat} (P : Nat → Bool) (l : List (Fin n)) : (l.filter fun i => P i.val).map Fin.val = (l.map Fin.val).filter P := by
  induction l with
  | nil => rfl
  | cons a l ih =>
    by_cases h : P a.val = true <;> simp [h, ih]
theorem accA_all (S : Sc) : accA S (List.finRange S.n) = S.act := by
  unfold accA Sc.act Sc.actN
  rw [← map_val_finRange, ← filter_val (fun i => decide (S.r i = 0)), List.map_map]
  rfl
set_option maxRecDepth 100000 in
set_option maxHeartbeats 4000000 in
theorem sm_active {w : World} {p : Nat} {S : Sc} {b : Int} (h : Sm w p S) (ho : S.ok b) :
    Calls Try.prog 20 #[.pointer (some ⟨p, 0, none⟩)] w (Made 3 (intV S.act) w) := by
  have h8 := ho.n8
  have h1 := ho.n1
  refine (callsIn_wide (n := 5)).1 ?_
  refine callsIn_of_wp_marks Try.func20 rfl trivial ?_ rfl
  simp only [Try.ntmps20, List.size_toArray, List.length_cons, List.length_nil, Nat.reduceAdd, Nat.reduceSub, Array.replicate_succ, Array.replicate_zero, List.push_toArray, List.append_toArray, List.nil_append, List.cons_append]
  have q1 : Bk (w.alloc (.cells #[.slice none 0 0] 37)) 37 w.heap.size [.slice none 0 0] := Bk.new w 37 [.slice none 0 0]
  have hb1 : Below w.heap.size w (w.alloc (.cells #[.slice none 0 0] 37)) := (Below.refl _ w).alloc (Nat.le_refl _) _
  have h' := h.alloc (.cells #[.slice none 0 0] 37)
  have Q := Lib.hid (And.intro q1 hb1)
  clear q1 hb1
  gi_wp2
  refine ⟨trivial, (callsIn_wide.2 (sm_paths h' h1)).mono ?_⟩
  rintro e W0 ⟨g1, g2, rfl, hg1, hg2, hg, hr1, hr2, hb2⟩
  obtain ⟨q1, hb1⟩ := Q.out
  have q1' := q1.keep hb2 (by simp)
  have hb0 := hb1.trans (hb2.mono hb1.size)
  have hz1 := hr1.lt
  have hz2 := hr2.lt
  simp only [World.size_alloc] at hg1 hg2
  gi_wp2
  refine wpIn_rangeFunc_ownF rfl (by decide) (gf := 34) (lb := #[.pointer (some ⟨g1, 0, none⟩), .pointer (some ⟨g2, 0, none⟩)]) rfl trivial (enters_of Try.func34 (by kernel_rfl) rfl)
    (paths_stops (5 - 1) (by decide) (fun k => k = g1 ∨ k = g2) g1 g2 S W0 h8 (.inl rfl) (.inr rfl) (fun k hk => by omega) hr1 hr2) KpS.trans (KpS.put (fun k hk => by omega)) (Below.refl _ _) (fun _ => rfl)
    (fun pre => Col 37 3 w W0.heap.size w.heap.size (intV (accA S pre))) (fun _ _ _ => False) (fun pre W W' row hI hw hr => hI.own (by omega) (Nat.le_refl _) (by omega) hw hr) (fun _ _ _ _ _ hs _ _ => hs) ⟨hb0, Nat.le_refl _, none, 0, 0, q1', Lst.nil _ _ _⟩
    (fun i => { tmps := #[.pointer (some ⟨p, 0, none⟩), undef, .slice none 0 0, .pointer (some ⟨w.heap.size, 0, none⟩), .int .i64 i.val, .bool (S.r i.val == 0), .pointer (some ⟨p, 0, none⟩), .func (.func 34) #[] #[.pointer (some ⟨g1, 0, none⟩), .pointer (some ⟨g2, 0, none⟩)], .int .i64 i.val, .bool (S.r i.val == 0), undef, undef, undef, undef, undef, undef], defers := [] }) ?assign ?body ?done ?stop
  case assign =>
    intro l x W K hK
    gi_wp2
    simpa using hK
  case body =>
    rintro l pre x W ⟨hb, hsz, A, n, c, r, hl⟩ hpre
    have cl := r.cell 0 rfl
    have fl := r.free 0
    have hn := hl.1
    rw [intV_len] at hn
    have hal := accA_len S pre
    by_cases hx : S.r x.val = 0
    · have ha := accA_snoc S pre x
      rw [if_pos hx] at ha
      have hbx : (S.r x.val == 0) = true := by simp [hx]
      have hla := (hl.alloc (.cells #[.int .i64 x.val] 3)).tight
      have hu := RdV.one W 3 (.int .i64 x.val) rfl
      have hn8 : n ≤ 8 := by omega
      have HB := Lib.hid hb
      have HS := Lib.hid hsz
      have HA := Lib.hid ha
      have hvA : ¬ BlkOf A w.heap.size := by
        rintro ⟨ad, he, hbk⟩
        have := (hl.blk ad he).1
        omega
      rw [hbx]
      clear hb hsz ha hbx hx hal
      gi_wp2_with (first
                   | (refine wpListIn_build_one (x := .int .i64 x.val) eltI rfl (.tmp 12) rfl rfl rfl ?_)
                   | (gi_at_builtin
                      refine wpListIn_append_lst eltI rfl (.tmp 11) (.tmp 13) rfl rfl hla rfl hu (by omega) ?_
                      rintro v w2 hap
                      obtain ⟨A', n', c', rfl, hl'⟩ := hap.ex
                      have HAP := Lib.hid hap
                      have r2 := (r.alloc (.cells #[.int .i64 x.val] 3)).st hap.st hvA
                      have c3 := r2.cell 0 rfl
                      have f3 := r2.free 0
                      clear hap hl'))
      obtain ⟨k1, k2, k3⟩ := Col.step HB.out HS.out r hl (by omega) (Nat.le_refl _) _ HAP.out
      refine ⟨k1, fun k hk => k2.block k (by have := HS.out; omega) (by omega), ?_⟩
      show Col 37 3 w W0.heap.size w.heap.size (intV (accA S (pre ++ [x]))) _
      rw [HA.out, intV_snoc]
      exact k3
    · have ha := accA_snoc S pre x
      rw [if_neg hx] at ha
      have hbx : (S.r x.val == 0) = false := by simp [hx]
      have HA := Lib.hid ha
      have HC : Hid (Col 37 3 w W0.heap.size w.heap.size (intV (accA S pre)) W) := Lib.hid ⟨hb, hsz, A, n, c, r, hl⟩
      rw [hbx]
      clear ha hx hbx
      gi_wp2
      refine ⟨KeepsOthers.refl _, fun _ _ => rfl, ?_⟩
      show Col 37 3 w W0.heap.size w.heap.size (intV (accA S (pre ++ [x]))) _
      rw [HA.out]
      exact HC.out
  case done =>
    rintro D ys W hD rfl ⟨hb, hsz, A, n, c, r, hl⟩ hK
    rw [accA_all] at hl
    have cl := r.cell 0 rfl
    gi_wp2
    refine ⟨by simp, .inl ⟨_, _, rfl, run_takeDeferred hK, ?_⟩⟩
    refine ⟨_, results_tmp rfl _ _ _, ?_⟩
    exact Col.shut0 (t := 37) (v := w.heap.size) hb hl hK (by omega) (by omega)
  case stop =>
    rintro D c' pre W hD _ h _
    exact h.elim
end Go.Proofs.Ytjoagkekbeogoaa
