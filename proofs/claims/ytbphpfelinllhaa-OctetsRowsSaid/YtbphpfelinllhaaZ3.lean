/- How many numbers; the first numbers that are told. -/
import Derived.Test.YtbphpfelinllhaaZ2
set_option linter.unusedSimpArgs false
set_option linter.unusedVariables false
namespace Go.Proofs.Ytbphpfelinllhaa
open Go.RowKit Go.Shelf
attribute [local go_sem] Oper.semAt_some

/-- Block g, of type t, holds these. -/
def Bk (w : World) (t : TypeId) (g : Nat) (vs : List Value) : Prop := w.heap[g]? = some (.cells vs.toArray t (0, 0))
section
variable {w w' : World} {t : TypeId} {g : Nat} {vs : List Value}
theorem Bk.lt (h : Bk w t g vs) : g < w.heap.size := (Array.getElem?_eq_some_iff.1 h).1
theorem Bk.cell (h : Bk w t g vs) (i : Nat) {v : Value} (hv : vs[i]? = some v) : w.cell? ⟨g, i, none⟩ = some v := by
  rw [cell_of_row w g i _ _ _ h]; simpa using hv
theorem Bk.free (h : Bk w t g vs) (i : Nat) : w.frozen? ⟨g, i, none⟩ = false := by
  unfold Bk at h
  simp [World.frozen?, h]
theorem Bk.keep (h : Bk w t g vs) {B : Nat} (hb : Below B w w') (hB : g < B) : Bk w' t g vs := (hb.block g hB).trans h
theorem Bk.below (h : Bk w t g vs) (hb : Below w.heap.size w w') : Bk w' t g vs := h.keep hb h.lt
theorem Bk.wr (h : Bk w t g vs) {g' : Nat} (hw : Wr g' w w') (hp : g ≠ g') : Bk w' t g vs :=
  (hw.block g h.lt (by intro e; injection e with e; exact hp e)).trans h
theorem Bk.new (w : World) (t : TypeId) (vs : List Value) : Bk (w.alloc (.cells vs.toArray t)) t w.heap.size vs := heap_alloc_new w _
theorem Bk.alloc (h : Bk w t g vs) (o : Obj) : Bk (w.alloc o) t g vs := h.keep ((Below.refl _ _).alloc (Nat.le_refl _) o) h.lt
theorem Bk.set (h : Bk w t g vs) (i : Nat) (x : Value) : Bk (w.setCell ⟨g, i, none⟩ x) t g (vs.set i x) := by
  unfold Bk at h ⊢
  simp [World.setCell, Array.getElem?_modify, h]
theorem Bk.far (h : Bk w t g vs) {p : Addr} (hp : g ≠ p.block) (x : Value) : Bk (w.setCell p x) t g vs := (Below.heap_setCell w p x g hp).trans h
end

set_option maxRecDepth 100000 in
set_option maxHeartbeats 2000000 in
theorem rows1_none (fu : Nat) (hfu : 1 ≤ fu) (S : Nat → Prop) (Bs Bb : Nat) (s : Int) (w : World) (hs : sizeB s = false) (hBs : Bs < w.heap.size) (h1 : w.cell? ⟨Bs, 0, none⟩ = some (.int .i64 s)) :
    SeqStopsK Fence.wide fu Try.prog 29 #[.pointer (some ⟨Bs, 0, none⟩), .pointer (some ⟨Bb, 0, none⟩)] (fun x : Int => #[Value.int .u64 x]) (KpS S)
      (fun ys => ys = []) (fun _ => False) 0 w := fun l J Jx W hW hJ hJx hY h0 => by
  have e1 := (hW.cell (p := ⟨Bs, 0, none⟩) hBs).trans h1
  have hsz := Lib.hid hs
  clear hs h1
  refine callsIn_of_wp Try.func29 rfl trivial ?_ rfl
  simp only [Try.ntmps29, List.size_toArray, List.length_cons, List.length_nil, Nat.reduceAdd, Nat.reduceSub, Array.replicate_succ, Array.replicate_zero, List.push_toArray, List.append_toArray, List.nil_append, List.cons_append]
  gi_wp2
  refine ⟨trivial, (callsIn_wide.2 (isSize_any _ _)).mono ?_⟩
  rintro e w' ⟨rfl, rfl⟩
  rw [hsz.out]
  gi_wp2
  refine bodyPost_ret (results_none rfl _ _ _) rfl ?_
  exact ⟨⟨_, rfl⟩, .inl ⟨_, rfl, h0⟩⟩

/-- The iterator over numbers of any size. -/
theorem rows1_any (fu : Nat) (hfu : 1 ≤ fu) (S : Nat → Prop) (Bs Bb : Nat) (A : Option Addr) (n c : Nat) (s : Int) (xs : List Int) (w : World) (h : Rd .u8 w A n c xs) (hn : n ≤ 100000)
    (hBs : S Bs) (hBb : S Bb) (hA : 0 < n → ∀ ad, A = some ad → S ad.block) (hS : ∀ k, S k → k < w.heap.size)
    (h1 : w.cell? ⟨Bs, 0, none⟩ = some (.int .i64 s)) (h2 : w.cell? ⟨Bb, 0, none⟩ = some (.slice A n c)) :
    SeqStopsK Fence.wide fu Try.prog 29 #[.pointer (some ⟨Bs, 0, none⟩), .pointer (some ⟨Bb, 0, none⟩)] (fun x : Int => #[Value.int .u64 x]) (KpS S)
      (fun ys => ys = rowsL xs s) (fun pre => ∃ k, pre = (rowsL xs s).take k) (rowsL xs s).length w := by
  by_cases hs : sizeB s = true
  · obtain ⟨z, rfl, hz1, hz8⟩ := sizeB_nat hs
    have hV : rowsL xs z = upto xs z (n / z) := by unfold rowsL; rw [if_pos hs, h.1]; rfl
    rw [hV, upto_length]
    have := rows1_stops fu hfu S Bs Bb A n c z xs w h hz1 hz8 hn hBs hBb hA hS h1 h2
    intro l J Jx W hW hJ hJx hY h0
    refine (this l J Jx W hW hJ hJx hY h0).mono ?_
    rintro e W' ⟨he, ⟨ys, rfl, hj⟩ | ⟨pre, ⟨k, hk, rfl⟩, hj⟩⟩
    · exact ⟨he, .inl ⟨_, rfl, hj⟩⟩
    · exact ⟨he, .inr ⟨_, ⟨k, (upto_take _ _ _ _ hk).symm⟩, hj⟩⟩
  · have hV : rowsL xs s = [] := by unfold rowsL; rw [if_neg hs]
    rw [hV]
    intro l J Jx W hW hJ hJx hY h0
    refine (rows1_none fu hfu S Bs Bb s w (by simpa using hs) (hS _ hBs) h1 l J Jx W hW hJ hJx hY h0).mono ?_
    rintro e W' ⟨he, ⟨ys, rfl, hj⟩ | ⟨pre, hf, hj⟩⟩
    · exact ⟨he, .inl ⟨_, rfl, hj⟩⟩
    · exact hf.elim

theorem irows_any (A : Option Addr) (n c : Nat) (s : Int) (w : World) :
    Calls Try.prog 27 #[.slice A n c, .int .i64 s] w fun e w' => e = .returned (.func (.func 29) #[] #[.pointer (some ⟨w.heap.size + 1, 0, none⟩), .pointer (some ⟨w.heap.size, 0, none⟩)]) ∧
      w' = (w.alloc (.cells #[.slice A n c] 22)).alloc (.cells #[.int .i64 s] 3) := by
  go_enter Try.func27, Try.ntmps27
  go_wp2
  go_ret
  exact ⟨by simp, rfl⟩

/-- Between two rounds of a count. -/
def CntI (w : World) (pre : List Int) (W : World) : Prop := Bk W 3 w.heap.size [.int .i64 pre.length] ∧ Below w.heap.size w W
theorem cntI_own {w : World} {B : Nat} (hB : w.heap.size < B) : OwnFrom B (CntI w) := by
  rintro s W W' row ⟨h1, h2⟩ hw hr
  refine ⟨(hw.block _ h1.lt (fun e => ?_)).trans h1, ⟨hw.os.trans h2.os, hw.tape.trans h2.tape, hw.output.trans h2.output, Nat.le_trans h2.size hw.size, fun k hk => ?_⟩⟩
  · have := (hr _ e.symm).1; omega
  · exact (hw.block k (by have := h2.size; omega) (fun e => by have := (hr k e.symm).1; omega)).trans (h2.block k hk)

set_option maxRecDepth 100000 in
set_option maxHeartbeats 4000000 in
theorem count_any (A : Option Addr) (n c : Nat) (s : Int) (xs : List Int) (w : World) (h : Rd .u8 w A n c xs) (hn : n ≤ 100000) (hA : 0 < n → ∀ ad, A = some ad → ad.block < w.heap.size) :
    Calls Try.prog 14 #[.slice A n c, .int .i64 s] w fun e w' => e = .returned (.int .i64 (rowsL xs s).length) ∧ Below w.heap.size w w' := by
  have hlen := rowsL_len xs s
  rw [h.1] at hlen
  refine (callsIn_wide (n := 5)).1 ?_
  refine callsIn_of_wp_marks Try.func14 rfl trivial ?_ rfl
  simp only [Try.ntmps14, List.size_toArray, List.length_cons, List.length_nil, Nat.reduceAdd, Nat.reduceSub, Array.replicate_succ, Array.replicate_zero, List.push_toArray, List.append_toArray, List.nil_append, List.cons_append]
  gi_wp2
  refine ⟨trivial, (callsIn_wide.2 (irows_any A n c s _)).mono ?_⟩
  rintro e w' ⟨rfl, rfl⟩
  gi_wp2
  obtain ⟨W0, hW0⟩ : ∃ W0, W0 = ((w.alloc (.cells #[.int .i64 0] 3)).alloc (.cells #[.slice A n c] 22)).alloc (.cells #[.int .i64 s] 3) := ⟨_, rfl⟩
  have hs0 : W0.heap.size = w.heap.size + 3 := by rw [hW0]; simp
  have hb0 : Below w.heap.size w W0 := by rw [hW0]; exact (((Below.refl _ w).alloc (Nat.le_refl _) _).alloc (by simp) _).alloc (by simp; omega) _
  have p0 : Bk W0 3 w.heap.size [.int .i64 (([] : List Int).length : Nat)] := by rw [hW0]; exact ((Bk.new w 3 [.int .i64 0]).alloc _).alloc _
  have p1 : W0.cell? ⟨w.heap.size + 1, 0, none⟩ = some (.slice A n c) := by
    have := ((Bk.new (w.alloc (.cells #[.int .i64 0] 3)) 22 [.slice A n c]).alloc (.cells #[.int .i64 s] 3)).cell 0 rfl
    rw [hW0]; simpa using this
  have p2 : W0.cell? ⟨w.heap.size + 1 + 1, 0, none⟩ = some (.int .i64 s) := by
    have := (Bk.new ((w.alloc (.cells #[.int .i64 0] 3)).alloc (.cells #[.slice A n c] 22)) 3 [.int .i64 s]).cell 0 rfl
    rw [hW0]; simpa using this
  rw [← hW0]
  clear hW0
  refine wpIn_rangeFunc_ownF rfl (by decide) (gf := 29) (lb := #[.pointer (some ⟨w.heap.size + 1 + 1, 0, none⟩), .pointer (some ⟨w.heap.size + 1, 0, none⟩)]) rfl trivial (enters_of Try.func29 (by kernel_rfl) rfl)
    (rows1_any (5 - 1) (by decide) (fun k => k < w.heap.size + 3 ∧ k ≠ w.heap.size) (w.heap.size + 1 + 1) (w.heap.size + 1) A n c s xs W0 (h.below hb0) hn (by omega) (by omega) (fun hm ad he => by have := hA hm ad he; omega) (fun k hk => by omega) p2 p1) KpS.trans (KpS.put (fun k hk => by omega)) (Below.refl _ _) (fun _ => rfl)
    (CntI w) (fun _ _ _ => False) (cntI_own (by omega)) (fun _ _ _ _ _ hs _ _ => hs) ⟨p0, hb0⟩
    (fun x => { tmps := #[.slice A n c, .int .i64 s, undef, undef, .int .i64 0, .pointer (some ⟨w.heap.size, 0, none⟩), .slice A n c, .int .i64 s, .func (.func 29) #[] #[.pointer (some ⟨w.heap.size + 1 + 1, 0, none⟩), .pointer (some ⟨w.heap.size + 1, 0, none⟩)], .int .u64 x, undef, undef, undef], defers := [] }) ?assign ?body ?done ?stop
  case assign =>
    intro l x W K hK
    gi_wp2
    simpa using hK
  case body =>
    rintro l pre x W ⟨h1, h2⟩ hpre
    have c0 := h1.cell 0 rfl
    have f0 := h1.free 0
    have hp : (pre.length : Int) ≤ 100000 := by omega
    gi_wp2
    refine ⟨KeepsOthers.setCell _ _ _, fun k hk => Below.heap_setCell _ _ _ _ (by simpa using hk.2), ?_, h2.setCell (p := ⟨w.heap.size, 0, none⟩) (Nat.le_refl _) _⟩
    have := h1.set 0 (.int .i64 ((pre.length : Int) + 1))
    rw [List.length_append]
    simpa using this
  case done =>
    rintro D ys W hD rfl ⟨h1, h2⟩ hK
    have c0 := h1.cell 0 rfl
    gi_wp2
    refine ⟨by simp, .inl ⟨_, _, rfl, run_takeDeferred hK, ?_⟩⟩
    exact ⟨_, results_tmp rfl _ _ _, rfl, h2.trans (belowK_b (w := w) (Nat.le_refl _) W D _ _ (by omega) hK rfl rfl)⟩
  case stop =>
    rintro D c' pre W hD _ h _
    exact h.elim
end Go.Proofs.Ytbphpfelinllhaa
