/- What a score's iterator tells, up to a place. -/
import Derived.Test.YtjoagkekbeogoaaS7
import Derived.BigQuiet
import Derived.Deep.QuietTactic
set_option linter.unusedSimpArgs false
set_option linter.unusedVariables false
namespace Go.Proofs.Ytjoagkekbeogoaa
open Go.RowKit Go.Shelf
attribute [local go_sem] Oper.semAt_some
theorem run_equalIn_func_nil (w : World) (k : Nat) (f : Fn) (ts b : Array Value) : (Op.equalIn (k + 1) 66 (.func f ts b) .nilFunc).run Try.prog w = .ok false w := by
  simp [Op.equalIn, run_underlying Try.underlying66]
theorem run_func_nil (w : World) (f : Fn) (ts b : Array Value) : (binOp .eql 66 (.func f ts b) .nilFunc).run Try.prog w = .ok (.bool false) w := by
  simp only [binOp]
  simp [Op.equal, Op.maxDepth, run_equalIn_func_nil w 9999 f ts b]
theorem eltB : Elt Try.prog 55 4 (.bool false) 1 := ⟨rfl, by kernel_rfl, rfl, rfl, by decide⟩
def idxV {n : Nat} (pre : List (Fin n)) : List Value := pre.map fun i => .int .i64 i.val
def flgV (S : Sc) (pre : List (Fin S.n)) : List Value := pre.map fun i => .bool (S.r i.val == 0)
theorem idxV_snoc {n : Nat} (pre : List (Fin n)) (x : Fin n) : idxV (pre ++ [x]) = idxV pre ++ [.int .i64 x.val] := by simp [idxV]
theorem flgV_snoc (S : Sc) (pre : List (Fin S.n)) (x : Fin S.n) : flgV S (pre ++ [x]) = flgV S pre ++ [.bool (S.r x.val == 0)] := by simp [flgV]
theorem idxV_len {n : Nat} (pre : List (Fin n)) : (idxV pre).length = pre.length := by simp [idxV]
theorem flgV_len (S : Sc) (pre : List (Fin S.n)) : (flgV S pre).length = pre.length := by simp [flgV]
def pathV (n : Nat) : List Value := tabV n fun i => (i : Int)
def flagV (S : Sc) : List Value := (List.range S.n).map fun i => .bool (S.r i == 0)
theorem idxV_all (n : Nat) : idxV (List.finRange n) = pathV n := by
  unfold idxV pathV tabV tabI
  rw [← map_val_finRange, List.map_map, List.map_map]
  rfl
theorem flgV_all (S : Sc) : flgV S (List.finRange S.n) = flagV S := by
  unfold flgV flagV
  rw [← map_val_finRange, List.map_map]
  rfl
/-- Between two rounds: what was told. -/
structure TwI (w : World) (L : Nat) (most : Int) (xs ys : List Value) (W : World) : Prop where
  mo : Bk W 3 w.heap.size [.int .i64 most]
  bel : Below w.heap.size w W
  sz : L ≤ W.heap.size
  ex : ∃ A1 n1 c1 A2 n2 c2, Bk W 37 (w.heap.size + 1) [.slice A1 n1 c1] ∧ Bk W 55 (w.heap.size + 2) [.slice A2 n2 c2] ∧ Lst 3 (L ≤ ·) W A1 n1 c1 xs ∧ Lst 4 (L ≤ ·) W A2 n2 c2 ys ∧ Sep (BlkOf A1) (BlkOf A2)
theorem TwI.own {w : World} {L B : Nat} {most : Int} {xs ys : List Value} {W W' : World} {row : Option Nat} (h : TwI w L most xs ys W) (hv : w.heap.size + 3 ≤ L) (hL : L ≤ B) (hw : W.grownBy W' row)
    (hr : ∀ r, row = some r → B ≤ r ∧ ∃ o : Obj, W.heap[r]? = some o ∧ o.isCells = false) : TwI w L most xs ys W' := by
  obtain ⟨h1, h2, h3, A1, n1, c1, A2, n2, c2, h4, h5, h6, h7, h8⟩ := h
  have hk : ∀ k, k < L → k < W.heap.size → W'.heap[k]? = W.heap[k]? := fun k hk hs => hw.block k hs (fun e => by have := (hr _ e.symm).1; omega)
  have hr' : ∀ r, row = some r → ∃ o : Obj, W.heap[r]? = some o ∧ o.isCells = false := fun r e => (hr r e).2
  exact ⟨(hk _ (by omega) h1.lt).trans h1, ⟨hw.os.trans h2.os, hw.tape.trans h2.tape, hw.output.trans h2.output, Nat.le_trans h2.size hw.size, fun k hk' => (hk k (by omega) (by have := h2.size; omega)).trans (h2.block k hk')⟩, Nat.le_trans h3 hw.size,
    A1, n1, c1, A2, n2, c2, (hk _ (by omega) h4.lt).trans h4, (hk _ (by omega) h5.lt).trans h5, h6.own hw hr', h7.own hw hr', h8⟩
theorem twI_next {S : Sc} {w W w5 : World} {L g1 g2 : Nat} {most : Int} {pre : List (Fin S.n)} {x : Fin S.n} {A1 A2 A3 A4 : Option Addr} {n1 c1 n2 c2 n3 c3 n4 c4 : Nat} {v1 v2 : Value}
    (hT : Two L 3 4 A3 n3 c3 (idxV pre ++ [v1]) A4 n4 c4 (flgV S pre ++ [v2]) W w5) (r0 : Bk W 3 w.heap.size [.int .i64 most]) (r1 : Bk W 37 (w.heap.size + 1) [.slice A1 n1 c1]) (r2 : Bk W 55 (w.heap.size + 2) [.slice A2 n2 c2])
    (hb : Below w.heap.size w W) (h1 : idxV (pre ++ [x]) = idxV pre ++ [v1]) (h2 : flgV S (pre ++ [x]) = flgV S pre ++ [v2]) (hLw : w.heap.size + 3 ≤ L) (hg1 : w.heap.size + 3 ≤ g1) (hg2 : w.heap.size + 3 ≤ g2) (hL1 : g1 < L) (hL2 : g2 < L) :
    KeepsOthers W ((w5.setCell ⟨w.heap.size + 1, 0, none⟩ (.slice A3 n3 c3)).setCell ⟨w.heap.size + 2, 0, none⟩ (.slice A4 n4 c4)) ∧
    KpS (fun k => k = g1 ∨ k = g2) W ((w5.setCell ⟨w.heap.size + 1, 0, none⟩ (.slice A3 n3 c3)).setCell ⟨w.heap.size + 2, 0, none⟩ (.slice A4 n4 c4)) ∧
    TwI w L most (idxV (pre ++ [x])) (flgV S (pre ++ [x])) ((w5.setCell ⟨w.heap.size + 1, 0, none⟩ (.slice A3 n3 c3)).setCell ⟨w.heap.size + 2, 0, none⟩ (.slice A4 n4 c4)) := by
  obtain ⟨k1, k2, k3, k4, k5, k6⟩ := hT.stored r1 r2 (by omega) (by omega) (by omega)
  have hsz := hT.sz
  refine ⟨k1, fun k hk => k2.block k (by omega) (by omega), ⟨r0.st k2 (by omega), hb.trans (k2.below hb.size (by intro k hk; omega)), Nat.le_trans hsz k2.size, A3, n3, c3, A4, n4, c4, k3, k4, ?_, ?_, hT.sep⟩⟩
  · rw [h1]; exact k5
  · rw [h2]; exact k6
set_option maxRecDepth 100000 in
set_option maxHeartbeats 8000000 in
theorem actives_any {w : World} {p : Nat} {S : Sc} {b : Int} (h : Sm w p S) (ho : S.ok b) :
    Calls Try.prog 21 #[.pointer (some ⟨p, 0, none⟩), .int .i64 S.n] w fun e w' => ∃ A1 c1 A2 c2, e = .returned (.tuple #[.slice A1 S.n c1, .slice A2 S.n c2]) ∧
      RdV w' A1 S.n c1 (pathV S.n) ∧ RdV w' A2 S.n c2 (flagV S) ∧ Below w.heap.size w w' := by
  have h8 := ho.n8
  have h1 := ho.n1
  have fn := fun (w : World) (f : Fn) (ts b : Array Value) => run_func_nil w f ts b
  refine (callsIn_wide (n := 5)).1 ?_
  refine callsIn_of_wp_marks Try.func21 rfl trivial ?_ rfl
  simp only [Try.ntmps21, List.size_toArray, List.length_cons, List.length_nil, Nat.reduceAdd, Nat.reduceSub, Array.replicate_succ, Array.replicate_zero, List.push_toArray, List.append_toArray, List.nil_append, List.cons_append]
  obtain ⟨w1, hw1⟩ : ∃ w1, w1 = ((w.alloc (.cells #[.int .i64 S.n] 3)).alloc (.cells #[.slice none 0 0] 37)).alloc (.cells #[.slice none 0 0] 55) := ⟨_, rfl⟩
  have q0 : Bk w1 3 w.heap.size [.int .i64 S.n] := by rw [hw1]; exact ((Bk.new w _ [.int .i64 S.n]).alloc _).alloc _
  have q1 : Bk w1 37 (w.heap.size + 1) [.slice none 0 0] := by
    have := (Bk.new (w.alloc (.cells #[.int .i64 S.n] 3)) 37 [.slice none 0 0]).alloc (.cells #[.slice none 0 0] 55)
    rw [hw1]; simpa using this
  have q2 : Bk w1 55 (w.heap.size + 2) [.slice none 0 0] := by
    have := Bk.new ((w.alloc (.cells #[.int .i64 S.n] 3)).alloc (.cells #[.slice none 0 0] 37)) 55 [.slice none 0 0]
    rw [hw1]; simpa using this
  have hb1 : Below w.heap.size w w1 := by rw [hw1]; exact (((Below.refl _ w).alloc (Nat.le_refl _) _).alloc (by simp) _).alloc (by simp; omega) _
  have hz : w1.heap.size = w.heap.size + 3 := by rw [hw1]; simp
  have h' : Sm w1 p S := by rw [hw1]; exact ((h.alloc _).alloc _).alloc _
  have Q := Lib.hid (And.intro q0 (And.intro q1 (And.intro q2 (And.intro hb1 hz))))
  have HW := Lib.hid hw1
  clear q0 q1 q2 hb1 hz hw1
  gi_wp2
  rw [← HW.out]
  refine ⟨trivial, (callsIn_wide.2 (sm_paths h' h1)).mono ?_⟩
  rintro e W0 ⟨g1, g2, rfl, hg1, hg2, hg, hr1, hr2, hb2⟩
  obtain ⟨q0, q1, q2, hb1, hz⟩ := Q.out
  have q0' := q0.below hb2
  have q1' := q1.below hb2
  have q2' := q2.below hb2
  have hb0 := hb1.trans (hb2.mono hb1.size)
  have hz1 := hr1.lt
  have hz2 := hr2.lt
  rw [hz] at hg1 hg2
  clear hb2 hb1 q0 q1 q2 h' hz HW
  gi_wp2
  clear fn
  obtain ⟨L, hL⟩ : ∃ L, L = W0.heap.size := ⟨_, rfl⟩
  have hL1 : g1 < L := by omega
  have hL2 : g2 < L := by omega
  have hLw : w.heap.size + 3 ≤ L := by omega
  have HLz := Lib.hid hL
  clear hL
  refine wpIn_rangeFunc_ownF rfl (by decide) (gf := 34) (lb := #[.pointer (some ⟨g1, 0, none⟩), .pointer (some ⟨g2, 0, none⟩)]) rfl trivial (enters_of Try.func34 (by kernel_rfl) rfl)
    (paths_stops (5 - 1) (by decide) (fun k => k = g1 ∨ k = g2) g1 g2 S W0 h8 (.inl rfl) (.inr rfl) (fun k hk => by omega) hr1 hr2) KpS.trans (KpS.put (fun k hk => by omega)) (Below.refl _ _) (fun _ => rfl)
    (fun pre => TwI w L S.n (idxV pre) (flgV S pre)) (fun _ _ _ => False) (fun pre W W' row hI hw hr => hI.own hLw (by have := HLz.out; omega) hw hr) (fun _ _ _ _ _ hs _ _ => hs) ⟨q0', hb0, by have := HLz.out; omega, none, 0, 0, none, 0, 0, q1', q2', Lst.nil _ _ _, Lst.nil _ _ _, sep_none _⟩
    (fun i => { tmps := #[.pointer (some ⟨p, 0, none⟩), .int .i64 S.n, undef, .pointer (some ⟨w.heap.size, 0, none⟩), .slice none 0 0, .slice none 0 0, .pointer (some ⟨w.heap.size + 1, 0, none⟩), .pointer (some ⟨w.heap.size + 2, 0, none⟩), .func (.func 34) #[] #[.pointer (some ⟨g1, 0, none⟩), .pointer (some ⟨g2, 0, none⟩)], .int .i64 i.val, .bool (S.r i.val == 0), .pointer (some ⟨p, 0, none⟩), .func (.func 34) #[] #[.pointer (some ⟨g1, 0, none⟩), .pointer (some ⟨g2, 0, none⟩)], .func (.func 34) #[] #[.pointer (some ⟨g1, 0, none⟩), .pointer (some ⟨g2, 0, none⟩)], .bool false, .func (.func 34) #[] #[.pointer (some ⟨g1, 0, none⟩), .pointer (some ⟨g2, 0, none⟩)], .int .i64 i.val, .bool (S.r i.val == 0), undef, undef, undef, undef, undef, undef, undef, undef, undef, undef, undef, undef, undef, undef], defers := [] }) ?assign ?body ?done ?stop
  case assign =>
    intro l x W K hK
    gi_wp2
    simpa using hK
  case body =>
    rintro l pre x W ⟨r0, hb, hsW, A1, n1, c1, A2, n2, c2, r1, r2, l1, l2, sp⟩ hpre
    have c0 := r0.cell 0 rfl
    have d1 := r1.cell 0 rfl
    have hn1 : n1 = pre.length := by rw [← l1.1, idxV_len]
    have hn2 : n2 = pre.length := by rw [← l2.1, flgV_len]
    subst hn1
    subst hn2
    have hli : (pre.length : Int) < S.n := by omega
    have hp8 : pre.length ≤ 8 := by omega
    have HSN := Lib.hid (idxV_snoc pre x)
    have HSM := Lib.hid (flgV_snoc S pre x)
    have HR0 := Lib.hid r0
    have HBL := Lib.hid hb
    generalize (S.r x.val == 0) = bx at *
    clear q0' q1' q2' hb r0
    gi_wp2
    refine wpIn_region_L (Below L) [8, 9] (by kernel_rfl) (by kernel_rfl) (fun wd hbd hsz => ?_)
    have hT0 : Two L 3 4 A1 pre.length c1 (idxV pre) A2 pre.length c2 (flgV S pre) W wd := ⟨l1.below hbd, l2.below hbd, sp, hsW, hbd.mono hsW, keepsOthers_of hbd⟩
    have k1 : ∀ W', Below L wd W' → W'.cell? ⟨w.heap.size + 1, 0, none⟩ = some (.slice A1 pre.length c1) := fun W' hW => ((r1.below hbd).keep hW (by omega)).cell 0 rfl
    have k2 : ∀ W', Below L wd W' → W'.cell? ⟨w.heap.size + 2, 0, none⟩ = some (.slice A2 pre.length c2) := fun W' hW => ((r2.below hbd).keep hW (by omega)).cell 0 rfl
    clear hsz
    (refine takeL (belowTr L) 0 (by simp only [List.getElem?_toArray, List.getElem?_cons_succ, List.getElem?_cons_zero]; rfl) (by kernel_rfl) (by kernel_rfl) (by kernel_rfl) (by kernel_rfl) (by exact fun _ _ _ h => h) (by first | (refine Or.inl ⟨by rfl, ?_⟩; intro W hW; go_simp; try with_reducible rfl) | exact Or.inr ⟨by rfl, rfl⟩) ?_; try simp only [Act.put, List.setIfInBounds_toArray, List.set_cons_zero, List.set_cons_succ])
    (refine takeL (belowTr L) 1 (by simp only [List.getElem?_toArray, List.getElem?_cons_succ, List.getElem?_cons_zero]; rfl) (by kernel_rfl) (by kernel_rfl) (by kernel_rfl) (by kernel_rfl) (by exact fun _ _ _ h => h) (by first | (refine Or.inl ⟨by rfl, ?_⟩; intro W hW; go_simp; try with_reducible rfl) | exact Or.inr ⟨by rfl, rfl⟩) ?_; try simp only [Act.put, List.setIfInBounds_toArray, List.set_cons_zero, List.set_cons_succ])
    (refine takeL (belowTr L) 4 (by simp only [List.getElem?_toArray, List.getElem?_cons_succ, List.getElem?_cons_zero]; rfl) (by kernel_rfl) (by kernel_rfl) (by kernel_rfl) (by kernel_rfl) (by exact fun _ _ _ h => h) (by first | (refine Or.inl ⟨by rfl, ?_⟩; intro W hW; go_simp; try with_reducible rfl) | exact Or.inr ⟨by rfl, rfl⟩) ?_; try simp only [Act.put, List.setIfInBounds_toArray, List.set_cons_zero, List.set_cons_succ])
    (refine takeL (belowTr L) 5 (by simp only [List.getElem?_toArray, List.getElem?_cons_succ, List.getElem?_cons_zero]; rfl) (by kernel_rfl) (by kernel_rfl) (by kernel_rfl) (by kernel_rfl) (by exact fun _ _ _ h => h) (by first | (refine Or.inl ⟨by rfl, ?_⟩; intro W hW; go_simp; try with_reducible rfl) | exact Or.inr ⟨by rfl, rfl⟩) ?_; try simp only [Act.put, List.setIfInBounds_toArray, List.set_cons_zero, List.set_cons_succ])
    refine wpAnyL_two (i := 2) (j := 6) (by kernel_rfl) (by simp only [List.getElem?_toArray, List.getElem?_cons_succ, List.getElem?_cons_zero]; rfl) (by simp only [List.getElem?_toArray, List.getElem?_cons_succ, List.getElem?_cons_zero]; rfl) (fun K hK => ?_) (fun K hK => ?_)
    ·
      go_simp
      have hu1 := RdV.one wd 3 (.int .i64 x.val) rfl
      try simp only [World.size_alloc] at hu1
      have hT := hT0.alloc (.cells #[.int .i64 x.val] 3)
      have hLa : L ≤ (wd).heap.size := Nat.le_trans hT0.sz hT0.bel.size
      refine hK.out _ _ (.inr ((Below.refl _ _).alloc hLa _)) ?_
      clear hK K
      try simp only [Act.put, List.setIfInBounds_toArray, List.set_cons_zero, List.set_cons_succ]
      refine wpAnyL_two (i := 3) (j := 6) (by kernel_rfl) (by simp only [List.getElem?_toArray, List.getElem?_cons_succ, List.getElem?_cons_zero]; rfl) (by simp only [List.getElem?_toArray, List.getElem?_cons_succ, List.getElem?_cons_zero]; rfl) (fun K hK => ?_) (fun K hK => ?_)
      ·
        refine opwp_append_lst eltI rfl (.tmp 22) (.tmp 24) rfl rfl hT.l1.tight rfl hu1 (by omega) ?_
        rintro v w3 hap
        have hap0 := hap
        obtain ⟨A3, n3, c3, rfl, hT3, hb3⟩ := hT.app1 hap
        refine hK.out _ _ (.inr hb3) ?_
        clear hK K
        try simp only [Act.put, List.setIfInBounds_toArray, List.set_cons_zero, List.set_cons_succ]
        refine wpAnyL_one (i := 6) (by kernel_rfl) (by simp only [List.getElem?_toArray, List.getElem?_cons_succ, List.getElem?_cons_zero]; rfl) (fun K hK => ?_)
        go_simp
        have hu2 := RdV.one w3 4 (.bool bx) rfl
        try simp only [World.size_alloc] at hu2
        have hT := hT3.alloc (.cells #[.bool bx] 4)
        have hLa : L ≤ (w3).heap.size := Nat.le_trans hT3.sz hT3.bel.size
        refine hK.out _ _ (.inr ((Below.refl _ _).alloc hLa _)) ?_
        clear hK K
        try simp only [Act.put, List.setIfInBounds_toArray, List.set_cons_zero, List.set_cons_succ]
        refine wpAnyL_one (i := 7) (by kernel_rfl) (by simp only [List.getElem?_toArray, List.getElem?_cons_succ, List.getElem?_cons_zero]; rfl) (fun K hK => ?_)
        refine opwp_append_lst eltB rfl (.tmp 26) (.tmp 28) rfl rfl hT.l2.tight rfl hu2 (by omega) ?_
        rintro v w5 hap5
        obtain ⟨A4, n4, c4, rfl, hT5, hb5⟩ := hT.app2 hap5
        have r1e := r1.keep hT5.bel (by omega)
        have r2e := r2.keep hT5.bel (by omega)
        have s1 := r1e.cell 0 rfl
        have s2 := r2e.cell 0 rfl
        have g1 := r1e.free 0
        have g2 := r2e.free 0
        refine hK.out _ _ (.inr hb5) ?_
        clear hK K
        try simp only [Act.put, List.setIfInBounds_toArray, List.set_cons_zero, List.set_cons_succ]
        refine wpAnyL_one (i := 8) (by kernel_rfl) (by simp only [List.getElem?_toArray, List.getElem?_cons_succ, List.getElem?_cons_zero]; rfl) (fun K hK => ?_)
        go_simp
        refine hK.out _ _ (.inl (by decide)) ?_
        clear hK K
        try simp only [Act.put, List.setIfInBounds_toArray, List.set_cons_zero, List.set_cons_succ]
        refine wpAnyL_one (i := 9) (by kernel_rfl) (by simp only [List.getElem?_toArray, List.getElem?_cons_succ, List.getElem?_cons_zero]; rfl) (fun K hK => ?_)
        go_simp
        refine hK.out _ _ (.inl (by decide)) ?_
        clear hK K
        try simp only [Act.put, List.setIfInBounds_toArray, List.set_cons_zero, List.set_cons_succ]
        refine noOutL_done (by kernel_rfl) ?_ _
        gi_wp2
        exact twI_next hT5 HR0.out r1 r2 HBL.out HSN.out HSM.out hLw hg1 hg2 hL1 hL2
      ·
        go_simp
        have hu1 := hu1.alloc (.cells #[.bool bx] 4)
        have hTb := hT
        have hu2 := RdV.one (wd.alloc (.cells #[.int .i64 x.val] 3)) 4 (.bool bx) rfl
        try simp only [World.size_alloc] at hu2
        have hT := hTb.alloc (.cells #[.bool bx] 4)
        have hLa : L ≤ ((wd.alloc (.cells #[.int .i64 x.val] 3))).heap.size := Nat.le_trans hTb.sz hTb.bel.size
        refine hK.out _ _ (.inr ((Below.refl _ _).alloc hLa _)) ?_
        clear hK K
        try simp only [Act.put, List.setIfInBounds_toArray, List.set_cons_zero, List.set_cons_succ]
        refine wpAnyL_one (i := 3) (by kernel_rfl) (by simp only [List.getElem?_toArray, List.getElem?_cons_succ, List.getElem?_cons_zero]; rfl) (fun K hK => ?_)
        refine opwp_append_lst eltI rfl (.tmp 22) (.tmp 24) rfl rfl hT.l1.tight rfl hu1 (by omega) ?_
        rintro v w3 hap
        have hap0 := hap
        obtain ⟨A3, n3, c3, rfl, hT3, hb3⟩ := hT.app1 hap
        have hu2 := hu2.st hap0.st (fun _ ad he hf => by
          injection he with he
          subst he
          have := hTb.l1.lt _ hf
          simp at this)
        refine hK.out _ _ (.inr hb3) ?_
        clear hK K
        try simp only [Act.put, List.setIfInBounds_toArray, List.set_cons_zero, List.set_cons_succ]
        refine wpAnyL_one (i := 7) (by kernel_rfl) (by simp only [List.getElem?_toArray, List.getElem?_cons_succ, List.getElem?_cons_zero]; rfl) (fun K hK => ?_)
        refine opwp_append_lst eltB rfl (.tmp 26) (.tmp 28) rfl rfl hT3.l2.tight rfl hu2 (by omega) ?_
        rintro v w5 hap5
        obtain ⟨A4, n4, c4, rfl, hT5, hb5⟩ := hT3.app2 hap5
        have r1e := r1.keep hT5.bel (by omega)
        have r2e := r2.keep hT5.bel (by omega)
        have s1 := r1e.cell 0 rfl
        have s2 := r2e.cell 0 rfl
        have g1 := r1e.free 0
        have g2 := r2e.free 0
        refine hK.out _ _ (.inr hb5) ?_
        clear hK K
        try simp only [Act.put, List.setIfInBounds_toArray, List.set_cons_zero, List.set_cons_succ]
        refine wpAnyL_one (i := 8) (by kernel_rfl) (by simp only [List.getElem?_toArray, List.getElem?_cons_succ, List.getElem?_cons_zero]; rfl) (fun K hK => ?_)
        go_simp
        refine hK.out _ _ (.inl (by decide)) ?_
        clear hK K
        try simp only [Act.put, List.setIfInBounds_toArray, List.set_cons_zero, List.set_cons_succ]
        refine wpAnyL_one (i := 9) (by kernel_rfl) (by simp only [List.getElem?_toArray, List.getElem?_cons_succ, List.getElem?_cons_zero]; rfl) (fun K hK => ?_)
        go_simp
        refine hK.out _ _ (.inl (by decide)) ?_
        clear hK K
        try simp only [Act.put, List.setIfInBounds_toArray, List.set_cons_zero, List.set_cons_succ]
        refine noOutL_done (by kernel_rfl) ?_ _
        gi_wp2
        exact twI_next hT5 HR0.out r1 r2 HBL.out HSN.out HSM.out hLw hg1 hg2 hL1 hL2
    ·
      go_simp
      have hu2 := RdV.one wd 4 (.bool bx) rfl
      try simp only [World.size_alloc] at hu2
      have hT := hT0.alloc (.cells #[.bool bx] 4)
      have hLa : L ≤ (wd).heap.size := Nat.le_trans hT0.sz hT0.bel.size
      refine hK.out _ _ (.inr ((Below.refl _ _).alloc hLa _)) ?_
      clear hK K
      try simp only [Act.put, List.setIfInBounds_toArray, List.set_cons_zero, List.set_cons_succ]
      refine wpAnyL_one (i := 2) (by kernel_rfl) (by simp only [List.getElem?_toArray, List.getElem?_cons_succ, List.getElem?_cons_zero]; rfl) (fun K hK => ?_)
      go_simp
      have hu2 := hu2.alloc (.cells #[.int .i64 x.val] 3)
      have hTc := hT
      have hu1 := RdV.one (wd.alloc (.cells #[.bool bx] 4)) 3 (.int .i64 x.val) rfl
      try simp only [World.size_alloc] at hu1
      have hT := hTc.alloc (.cells #[.int .i64 x.val] 3)
      have hLa : L ≤ ((wd.alloc (.cells #[.bool bx] 4))).heap.size := Nat.le_trans hTc.sz hTc.bel.size
      refine hK.out _ _ (.inr ((Below.refl _ _).alloc hLa _)) ?_
      clear hK K
      try simp only [Act.put, List.setIfInBounds_toArray, List.set_cons_zero, List.set_cons_succ]
      refine wpAnyL_one (i := 3) (by kernel_rfl) (by simp only [List.getElem?_toArray, List.getElem?_cons_succ, List.getElem?_cons_zero]; rfl) (fun K hK => ?_)
      refine opwp_append_lst eltI rfl (.tmp 22) (.tmp 24) rfl rfl hT.l1.tight rfl hu1 (by omega) ?_
      rintro v w3 hap
      have hap0 := hap
      obtain ⟨A3, n3, c3, rfl, hT3, hb3⟩ := hT.app1 hap
      have hu2 := hu2.st hap0.st (fun _ ad he hf => by
        injection he with he
        subst he
        have := hT0.l1.lt _ hf
        simp at this)
      refine hK.out _ _ (.inr hb3) ?_
      clear hK K
      try simp only [Act.put, List.setIfInBounds_toArray, List.set_cons_zero, List.set_cons_succ]
      refine wpAnyL_one (i := 7) (by kernel_rfl) (by simp only [List.getElem?_toArray, List.getElem?_cons_succ, List.getElem?_cons_zero]; rfl) (fun K hK => ?_)
      refine opwp_append_lst eltB rfl (.tmp 26) (.tmp 28) rfl rfl hT3.l2.tight rfl hu2 (by omega) ?_
      rintro v w5 hap5
      obtain ⟨A4, n4, c4, rfl, hT5, hb5⟩ := hT3.app2 hap5
      have r1e := r1.keep hT5.bel (by omega)
      have r2e := r2.keep hT5.bel (by omega)
      have s1 := r1e.cell 0 rfl
      have s2 := r2e.cell 0 rfl
      have g1 := r1e.free 0
      have g2 := r2e.free 0
      refine hK.out _ _ (.inr hb5) ?_
      clear hK K
      try simp only [Act.put, List.setIfInBounds_toArray, List.set_cons_zero, List.set_cons_succ]
      refine wpAnyL_one (i := 8) (by kernel_rfl) (by simp only [List.getElem?_toArray, List.getElem?_cons_succ, List.getElem?_cons_zero]; rfl) (fun K hK => ?_)
      go_simp
      refine hK.out _ _ (.inl (by decide)) ?_
      clear hK K
      try simp only [Act.put, List.setIfInBounds_toArray, List.set_cons_zero, List.set_cons_succ]
      refine wpAnyL_one (i := 9) (by kernel_rfl) (by simp only [List.getElem?_toArray, List.getElem?_cons_succ, List.getElem?_cons_zero]; rfl) (fun K hK => ?_)
      go_simp
      refine hK.out _ _ (.inl (by decide)) ?_
      clear hK K
      try simp only [Act.put, List.setIfInBounds_toArray, List.set_cons_zero, List.set_cons_succ]
      refine noOutL_done (by kernel_rfl) ?_ _
      gi_wp2
      exact twI_next hT5 HR0.out r1 r2 HBL.out HSN.out HSM.out hLw hg1 hg2 hL1 hL2
  case done =>
    rintro D ys W hD rfl ⟨r0, hb, hsz, A1, n1, c1, A2, n2, c2, r1, r2, l1, l2, sp⟩ hK
    rw [idxV_all] at l1
    rw [flgV_all] at l2
    have hn1 : n1 = S.n := by rw [← l1.1]; exact tabV_len _ _
    have hn2 : n2 = S.n := by rw [← l2.1]; simp [flagV]
    subst hn1
    subst hn2
    have d1 := r1.cell 0 rfl
    have d2 := r2.cell 0 rfl
    have L1 := Lib.hid l1
    have L2 := Lib.hid l2
    clear q0' q1' q2' l1 l2 r1 r2 r0
    gi_wp2
    gi_quiet (fail)
    gi_wp2
    refine ⟨by simp, .inl ⟨_, _, rfl, run_takeDeferred hK, ?_⟩⟩
    refine ⟨.tuple #[.slice A1 S.n c1, .slice A2 S.n c2], by simp [results, Try.results21, go_sem], ?_⟩
    have hne : ∀ {e : TypeId} {F : Nat → Prop} {A : Option Addr} {n c : Nat} {ls : List Value} (q : Nat), Lst e F W A n c ls → RdV ((W.drewN q).putObj D (.deferred none)) A n c ls := fun q hl => by
      refine Lst.rdv (hl.same fun ad he => ?_)
      show (((W.drewN q).putObj D (.deferred none)).heap[ad.block]? = W.heap[ad.block]?)
      rw [World.putObj_heap_other]
      · rfl
      · rintro rfl
        rcases hl.2.2.2.2 with ⟨rfl, _⟩ | ⟨g', o', cur, rfl, _, hh, _⟩
        · cases he
        · injection he with he
          subst he
          rw [hh] at hK
          cases hK
    refine ⟨A1, c1, A2, c2, rfl, hne _ L1.out, hne _ L2.out, ⟨hb.os, hb.tape, hb.output, by have := hb.size; simp [World.putObj]; omega, fun k hk => ?_⟩⟩
    rw [World.putObj_heap_other (by omega)]
    exact hb.block k hk
  case stop =>
    rintro D c' pre W hD _ h _
    exact h.elim
end Go.Proofs.Ytjoagkekbeogoaa
