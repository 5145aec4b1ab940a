/- Rings of int: what holds of an element, asked of a function. -/
import Derived.Test.YtgeihelpggncgaaRgdint
import Derived.Defers
import Derived.Recover
import Derived.Laws.Pointers
set_option linter.unusedSimpArgs false
set_option linter.unusedVariables false
namespace Go.Proofs.Ytgeihelpggncgaa.Rgint
open Go.RowKit Go.Shelf
attribute [local go_sem] Oper.semAt_some

theorem idle (w : World) : CallsD Try.prog 43 #[] .returning w fun e u' w' => e = .returned (.tuple #[]) ∧ u' = .returning ∧ w' = w := by
  refine callsD_of_wpS Try.func43 rfl fun c₀ cs hu => ?_
  apply wpS_region
  simp [wpOpsS, go_sem, recoverD, hu, Try.ntmps43, Exit.thenS, bodyPostS, results, Try.results43]
  cases c₀
  simp_all
theorem holds_any (g : Nat) (lb : Array Value) (eg : ∀ args w, (callFunc g args).run Try.prog w = .ok (.enter g args) w) (x : Value) (b : Bool) (w : World)
    (h : Calls Try.prog g (#[x] ++ lb) w fun e w' => e = .returned (.bool b) ∧ w = w') :
    Calls Try.prog 41 #[.func (.func g) #[] lb, x] w fun e w' => e = .returned (.bool b) ∧ w = w' := by
  have H := Lib.hid h
  clear h
  go_enter_defers Try.func41, Try.ntmps41
  go_wp2_with fail
  refine H.out.mono ?_
  rintro e w' ⟨rfl, rfl⟩
  go_wp2
  refine leaves_cons (f := 43) (args := #[]) (by simp) (by simp [go_sem]) ?_
  refine (idle _).mono ?_
  rintro e u' w'' ⟨rfl, rfl, rfl⟩
  simp [Leaves, settle, results, Try.results41, go_sem]

/-- What the boxes of Drop leave to its list. -/
def DropF (s k : Nat) : Prop := s ≤ k ∧ k ≠ s ∧ k ≠ s + 2 ∧ k ≠ s + 3
/-- Between two rounds: what was kept of what has come, and how many were not. -/
def DropI (pr : Value → Bool) (fv : Value) (vs : List Value) (w : World) (pre : List (Fin vs.length)) (W : World) : Prop :=
  Bk W 66 w.heap.size [fv] ∧ Bk W 3 (w.heap.size + 3) [.int .i64 ((vals vs pre).countP pr)] ∧ Below w.heap.size w W ∧ w.heap.size + 5 ≤ W.heap.size ∧
  ∃ A n c, Bk W 27 (w.heap.size + 2) [.slice A n c] ∧ Lst 3 (DropF w.heap.size) W A n c ((vals vs pre).filter fun x => !pr x)
theorem dropI_own {pr : Value → Bool} {fv : Value} {vs : List Value} {w : World} {B : Nat} (hB : w.heap.size + 5 ≤ B) : OwnFrom B (DropI pr fv vs w) := by
  rintro pre W W' row ⟨h1, h2, h3, h4, A, n, c, h5, h6⟩ hw hr
  have hk : ∀ k, k < w.heap.size + 5 → W'.heap[k]? = W.heap[k]? := fun k hk => hw.block k (by omega) (fun e => by have := (hr _ e.symm).1; omega)
  refine ⟨(hk _ (by omega)).trans h1, (hk _ (by omega)).trans h2, ⟨hw.os.trans h3.os, hw.tape.trans h3.tape, hw.output.trans h3.output, Nat.le_trans h3.size hw.size, fun k hk' => (hk k (by omega)).trans (h3.block k hk')⟩, Nat.le_trans h4 hw.size, A, n, c, (hk _ (by omega)).trans h5, h6.same fun ad he => ?_⟩
  refine hw.block _ (h6.blk ad he).2 fun e => ?_
  obtain ⟨_, o, ho, hc⟩ := hr _ e.symm
  rcases h6.2.2.2.2 with ⟨rfl, _⟩ | ⟨g, o', cur, rfl, _, hh, _⟩
  · cases he
  · injection he with he
    subst he
    rw [hh] at ho
    injection ho with ho
    subst ho
    cases hc
theorem dropF_ne {s : Nat} {A : Option Addr} {e : TypeId} {n c : Nat} {vs : List Value} {W : World} (h : Lst e (DropF s) W A n c vs) : ¬ BlkOf A s ∧ ¬ BlkOf A (s + 2) ∧ ¬ BlkOf A (s + 3) ∧ ∀ k, k < s → ¬ BlkOf A k := by
  refine ⟨?_, ?_, ?_, fun k hk => ?_⟩ <;> rintro ⟨ad, he, hb⟩ <;> have := (h.blk ad he).1 <;> unfold DropF at this <;> omega

set_option maxRecDepth 100000 in
set_option maxHeartbeats 4000000 in
theorem drop_any (F : Nat → Prop) (p room : Nat) (vs : List Value) (g : Nat) (lb : Array Value) (pr : Value → Bool) (w : World) (h : Rg 60 3 F w p room vs)
    (eg : ∀ args w, (callFunc g args).run Try.prog w = .ok (.enter g args) w)
    (hpr : ∀ W, Below w.heap.size w W → ∀ x ∈ vs, Calls Try.prog g (#[x] ++ lb) W fun e w' => e = .returned (.bool (pr x)) ∧ W = w') :
    Calls Try.prog 28 #[.pointer (some ⟨p, 0, none⟩), .func (.func g) #[] lb] w fun e w' => e = .returned (.int .i64 (vs.countP pr)) ∧ Did 60 3 F p room (vs.filter fun x => !pr x) w w' := by
  have HPr := Lib.hid hpr
  have HEg := Lib.hid eg
  have HR := Lib.hid h
  clear eg hpr
  obtain ⟨h1, h2, h3, h4, A, n, c, h5, h6, h7, h8⟩ := h
  have hlv : vs.length ≤ 1024 := by omega
  have hplt := h5.lt
  obtain ⟨w1, hw1⟩ : ∃ w1, w1 = w.alloc (.cells #[.func (.func g) #[] lb] 66) := ⟨_, rfl⟩
  have hb1 : Below w.heap.size w w1 := by rw [hw1]; exact (Below.refl _ w).alloc (Nat.le_refl _) _
  have HLen := Lib.hid (len_any F p room vs w1 (HR.out.below hb1))
  have h5' := h5.below hb1
  have hmk : ∀ W, (Instr.makeSlice 27 (.int .i64 0) (.int .i64 vs.length)).run Try.prog W = .ok (.slice (some ⟨W.heap.size, 0, none⟩) 0 vs.length) (W.alloc (.cells (Array.replicate vs.length (.int .i64 0)) 3)) := fun W => elt.run_make 0 vs.length (Nat.zero_le _) (by omega) W
  rw [hw1] at HLen h5'
  refine (callsIn_wide (n := 5)).1 ?_
  refine callsIn_of_wp_marks Try.func28 rfl trivial ?_ rfl
  simp only [Try.ntmps28, List.size_toArray, List.length_cons, List.length_nil, Nat.reduceAdd, Nat.reduceSub, Array.replicate_succ, Array.replicate_zero, List.push_toArray, List.append_toArray, List.nil_append, List.cons_append]
  gi_wp2
  refine ⟨trivial, (callsIn_wide.2 (made_any p room _ _ h5' h2)).mono ?_⟩
  rintro e w' ⟨rfl, rfl⟩
  gi_wp2
  refine ⟨trivial, (callsIn_wide.2 HLen.out).mono ?_⟩
  rintro e w' ⟨rfl, rfl⟩
  gi_wp2
  refine ⟨trivial, (callsIn_wide.2 (all_any _ _)).mono ?_⟩
  rintro e w' ⟨rfl, rfl⟩
  gi_wp2
  clear hmk HLen h5' hb1 hw1
  obtain ⟨W0, hW0⟩ : ∃ W0, W0 = ((((w.alloc (.cells #[.func (.func g) #[] lb] 66)).alloc (.cells (Array.replicate vs.length (.int .i64 0)) 3)).alloc (.cells #[.slice (some ⟨w.heap.size + 1, 0, none⟩) 0 vs.length] 27)).alloc (.cells #[.int .i64 0] 3)).alloc (.cells #[.pointer (some ⟨p, 0, none⟩)] 23) := ⟨_, rfl⟩
  rw [← hW0]
  have hs0 : W0.heap.size = w.heap.size + 5 := by rw [hW0]; simp
  have hb0 : Below w.heap.size w W0 := by rw [hW0]; exact (((((Below.refl _ w).alloc (Nat.le_refl _) _).alloc (by simp) _).alloc (by simp; omega) _).alloc (by simp; omega) _).alloc (by simp; omega) _
  have q0 : Bk W0 66 w.heap.size [.func (.func g) #[] lb] := by
    rw [hW0]; exact ((((Bk.new w _ [.func (.func g) #[] lb]).alloc _).alloc _).alloc _).alloc _
  have q2 : Bk W0 27 (w.heap.size + 2) [.slice (some ⟨w.heap.size + 1, 0, none⟩) 0 vs.length] := by
    have := ((Bk.new ((w.alloc (.cells #[.func (.func g) #[] lb] 66)).alloc (.cells (Array.replicate vs.length (.int .i64 0)) 3)) 27 [.slice (some ⟨w.heap.size + 1, 0, none⟩) 0 vs.length]).alloc (.cells #[.int .i64 0] 3)).alloc (.cells #[.pointer (some ⟨p, 0, none⟩)] 23)
    rw [hW0]; simpa using this
  have q3 : Bk W0 3 (w.heap.size + 3) [.int .i64 0] := by
    have := (Bk.new (((w.alloc (.cells #[.func (.func g) #[] lb] 66)).alloc (.cells (Array.replicate vs.length (.int .i64 0)) 3)).alloc (.cells #[.slice (some ⟨w.heap.size + 1, 0, none⟩) 0 vs.length] 27)) 3 [.int .i64 0]).alloc (.cells #[.pointer (some ⟨p, 0, none⟩)] 23)
    rw [hW0]; simpa using this
  have q4 : Bk W0 23 (w.heap.size + 4) [.pointer (some ⟨p, 0, none⟩)] := by
    have := Bk.new ((((w.alloc (.cells #[.func (.func g) #[] lb] 66)).alloc (.cells (Array.replicate vs.length (.int .i64 0)) 3)).alloc (.cells #[.slice (some ⟨w.heap.size + 1, 0, none⟩) 0 vs.length] 27)).alloc (.cells #[.int .i64 0] 3)) 23 [.pointer (some ⟨p, 0, none⟩)]
    rw [hW0]; simpa using this
  have q1 : Lst 3 (DropF w.heap.size) W0 (some ⟨w.heap.size + 1, 0, none⟩) 0 vs.length [] := by
    have h0 := Lst.made (w.alloc (.cells #[.func (.func g) #[] lb] 66)) 3 (Array.replicate vs.length (.int .i64 0)) 0 [] rfl (by simp) (by simp [maxLen]; omega) (by simp) (by simp)
    have h1 := ((h0.alloc (.cells #[.slice (some ⟨w.heap.size + 1, 0, none⟩) 0 vs.length] 27)).alloc (.cells #[.int .i64 0] 3)).alloc (.cells #[.pointer (some ⟨p, 0, none⟩)] 23)
    rw [hW0]
    have h2 := h1.tight
    simp only [World.size_alloc, Array.size_replicate] at h2
    exact h2.mono (by rintro k ⟨ad, he, rfl⟩; injection he with he; subst he; simp [DropF])
  clear hW0
  simp only [Nat.add_assoc, Nat.reduceAdd]
  have hL := fun W (hW : Below W0.heap.size W0 W) => list_any F p room vs W (HR.out.below (hb0.trans (hW.mono hb0.size)))
  refine wpIn_rangeFunc_ownF rfl (by decide) (gf := 42) (lb := #[.pointer (some ⟨w.heap.size + 4, 0, none⟩)]) rfl trivial (enters_of Try.func42 (by kernel_rfl) rfl)
    (all_stops (5 - 1) (by decide) (OwnB [w.heap.size + 3] (w.heap.size + 2)) (w.heap.size + 4) (some ⟨p, 0, none⟩) vs W0 hlv hL q4 ?hO) KpO.trans (KpO.put _ (by omega)) (Below.refl _ _) (fun _ => rfl)
    (DropI pr (.func (.func g) #[] lb) vs w) (fun _ _ _ => False) (dropI_own (by omega)) (fun _ _ _ _ _ hs _ _ => hs) ⟨q0, q3, hb0, by omega, _, _, _, q2, q1⟩
    (fun i => { tmps := #[.pointer (some ⟨p, 0, none⟩), .func (.func g) #[] lb, undef, .pointer (some ⟨w.heap.size, 0, none⟩), .int .i64 0, .pointer (some ⟨w.heap.size + 2, 0, none⟩), .pointer (some ⟨w.heap.size + 3, 0, none⟩), undef, vs[i], .pointer (some ⟨p, 0, none⟩), .bool true, .bool false, .pointer (some ⟨p, 0, none⟩), .int .i64 vs.length, .slice (some ⟨w.heap.size + 1, 0, none⟩) 0 vs.length, .pointer (some ⟨p, 0, none⟩), .func (.func 42) #[] #[.pointer (some ⟨w.heap.size + 4, 0, none⟩)], .int .i64 i.val, vs[i], undef, undef, undef, undef, undef, undef, undef, undef, undef, undef, undef, undef, undef, undef], defers := [] }) ?assign ?body ?done ?stop
  case hO =>
    rintro W hW k (hk | hk | ⟨ad, n', c', hk, rfl⟩)
    · simp at hk; omega
    · omega
    · rw [(q2.below hW).cell 0 rfl] at hk
      injection hk with hk
      injection hk with hk
      injection hk with hk
      subst hk
      simp; omega
  case assign =>
    intro l x W K hK
    gi_wp2
    simpa using hK
  case body =>
    rintro l pre x W ⟨r0, r3, hb, hsz, A1, n1, c1, r2, hl⟩ hpre
    have hpx := holds_any g lb HEg.out vs[x] (pr vs[x]) W (HPr.out W hb _ (by simp))
    have c0 := r0.cell 0 rfl
    have cl := r2.cell 0 rfl
    have fl := r2.free 0
    have cg := r3.cell 0 rfl
    have fg := r3.free 0
    have hcnt := List.countP_le_length (p := pr) (l := vals vs pre)
    have hflt := List.length_filter_le (fun x => !pr x) (vals vs pre)
    rw [vals_length] at hcnt hflt
    have hcn : ((vals vs pre).countP pr : Int) ≤ 1024 := by omega
    have hsn := vals_snoc vs pre x
    have hn1 : n1 ≤ 1024 := by have := hl.1; omega
    have HX := Lib.hid hpx
    have h1c : (vs[x]).oneCell' = true := by
      obtain ⟨_, _, _, _, A2, n2, c2, _, h62, _, _⟩ := HR.out
      exact h62.2.2.2.1 _ (by simp)
    obtain ⟨y, hy⟩ : ∃ y, y = vs[x] := ⟨_, rfl⟩
    obtain ⟨k, hk⟩ : ∃ k, k = (vals vs pre).countP pr := ⟨_, rfl⟩
    rw [← hy] at HX hsn h1c ⊢
    rw [← hk] at r3 cg hcnt hcn
    obtain ⟨nb0, nb2, nb3, nbk⟩ := dropF_ne hl
    by_cases hpy : pr y = true
    · have hpre' : (vals vs (pre ++ [x])).countP pr = k + 1 ∧ (vals vs (pre ++ [x])).filter (fun x => !pr x) = (vals vs pre).filter fun x => !pr x := by
        rw [hsn, List.countP_append, List.filter_append, hk]
        simp [hpy]
      rw [hpy] at HX
      have HP := Lib.hid hpre'
      clear hpre' hpy hsn hy hk hpx
      gi_wp2
      refine ⟨trivial, (CallsIn.inRound l (callsIn_wide.2 HX.out)).mono ?_⟩
      rintro e w' ⟨rfl, rfl⟩
      gi_wp2
      refine ⟨KeepsOthers.setCell _ _ _, KpO.box (by simp) (by omega) W _, ?_⟩
      unfold DropI
      rw [HP.out.1, HP.out.2]
      exact ⟨r0.far (by simp) _, by simpa using r3.set 0 (.int .i64 ((k : Int) + 1)), hb.setCell (p := ⟨w.heap.size + 3, 0, none⟩) (by simp) _, by simpa [World.setCell] using hsz, A1, n1, c1, r2.far (by simp) _, hl.far (fun ad he hne => nb3 ⟨ad, he, hne⟩) _⟩
    · have hpre' : (vals vs (pre ++ [x])).countP pr = k ∧ (vals vs (pre ++ [x])).filter (fun x => !pr x) = ((vals vs pre).filter fun x => !pr x) ++ [y] := by
        rw [hsn, List.countP_append, List.filter_append, hk]
        simp [hpy]
      rw [show pr y = false from by simpa using hpy] at HX
      have HP := Lib.hid hpre'
      have hlt := (hl.alloc (.cells #[y] 3)).tight
      have hu := RdV.one W 3 y h1c
      have hba : Below W.heap.size W (W.alloc (.cells #[y] 3)) := (Below.refl _ _).alloc (Nat.le_refl _) _
      have r2a := r2.below hba
      have cla := r2a.cell 0 rfl
      clear hpre' hpy hsn hy hk hpx
      gi_wp2
      refine ⟨trivial, (CallsIn.inRound l (callsIn_wide.2 HX.out)).mono ?_⟩
      rintro e w' ⟨rfl, rfl⟩
      gi_wp2_with (first
                   | (refine wpListIn_build_one (x := y) elt rfl (.tmp 25) rfl rfl h1c ?_)
                   | (gi_at_builtin
                      refine wpListIn_append_lst elt rfl (.tmp 24) (.tmp 26) rfl rfl hlt rfl hu (by omega) ?_
                      rintro v w2 ⟨⟨A', n', c', rfl, hl'⟩, hst⟩
                      have r2w := r2a.st hst nb2
                      have c3 := r2w.cell 0 rfl
                      have f3 := r2w.free 0))
      have hsta : St (BlkOf A1) W w2 := (St.ext hba).trans hst (Gr.refl _ _)
      have hF' : ∀ ad, A' = some ad → BlkOf A1 ad.block ∨ W.heap.size ≤ ad.block := fun ad he => by
        rcases (hl'.blk ad he).1 with h | h
        · exact .inl h
        · simp at h; exact .inr (by omega)
      have hDF : Lst 3 (DropF w.heap.size) w2 A' n' c' (((vals vs pre).filter fun x => !pr x) ++ [y]) := by
        refine hl'.mono ?_
        rintro k (⟨ad, he, rfl⟩ | hk)
        · exact (hl.blk ad he).1
        · simp at hk; unfold DropF; omega
      obtain ⟨nc0, nc2, nc3, nck⟩ := dropF_ne hDF
      have hb2 : Below w.heap.size W w2 := ⟨hsta.os, hsta.tape, hsta.output, hsta.size, fun k hk => hsta.block k (by omega) (nbk k hk)⟩
      refine ⟨?_, KpO.stored r2 nb2 hba hst hF', ?_⟩
      · refine (KeepsOthers.alloc W _).trans (KeepsOthers.trans ⟨hst.size, fun k o ho hc => ?_⟩ (KeepsOthers.setCell _ _ _))
        rw [hst.block k (Array.getElem?_eq_some_iff.1 ho).1 ?_]
        · exact ho
        · rintro ⟨ad, rfl, rfl⟩
          rcases hlt.2.2.2.2 with ⟨h, _⟩ | ⟨g', o', cur, h, _, hh, _⟩
          · cases h
          · injection h with h
            subst h
            rw [hh] at ho
            injection ho with ho
            subst ho
            cases hc
      · unfold DropI
        rw [HP.out.1, HP.out.2]
        exact ⟨(r0.st hsta nb0).far (by simp) _, (r3.st hsta nb3).far (by simp) _, (hb.trans hb2).setCell (p := ⟨w.heap.size + 2, 0, none⟩) (by simp) _, by have := hsta.size; simp [World.setCell]; omega, A', n', c', r2w.set 0 _, hDF.far (fun ad he hne => nc2 ⟨ad, he, hne⟩) _⟩
  case done =>
    rintro D ys W hD rfl ⟨r0, r3, hb, hsz, A1, n1, c1, r2, hl⟩ hK
    rw [vals_all] at r3 hl
    have cg := r3.cell 0 rfl
    have cl := r2.cell 0 rfl
    have hring := HR.out.below hb
    have hp5 := h5.below hb
    have fp := hp5.free 1
    have cp := hp5.cell 1 rfl
    obtain ⟨nb0, nb2, nb3, nbk⟩ := dropF_ne hl
    gi_wp2
    refine ⟨by simp, .inl ⟨_, _, rfl, run_takeDeferred (by rw [Below.heap_setCell _ _ _ _ (by simp; omega)]; exact hK), ?_⟩⟩
    refine ⟨_, results_tmp rfl _ _ _, rfl, fun k => k = p ∨ BlkOf A1 k, ?_, ?_, ?_⟩
    · have hAD : ∀ ad, A1 = some ad → ad.block ≠ D := by
        rintro ad rfl rfl
        rcases hl.2.2.2.2 with ⟨h, _⟩ | ⟨g', o', cur, h, _, hh, _⟩
        · cases h
        · injection h with h
          subst h
          rw [hh] at hK
          cases hK
      have hAp : ∀ ad, A1 = some ad → ad.block ≠ p := fun ad he e => nbk p hplt ⟨ad, he, e⟩
      have hf : (vs.filter fun x => !pr x).length ≤ room := Nat.le_trans (List.length_filter_le _ _) h4
      refine ⟨.inl rfl, h2, h3, hf, A1, n1, c1, (World.putObj_heap_other (by omega)).trans (hp5.set 1 _), ?_, hAp, ?_⟩
      · have h1' := (hl.tight.mono (F' := fun k => k = p ∨ BlkOf A1 k) (fun k hk => .inr hk)).far (p := ⟨p, 1, none⟩) (fun ad he => hAp ad he) (.slice A1 n1 c1)
        exact h1'.same fun ad he => World.putObj_heap_other (hAD ad he)
      · rintro k (rfl | ⟨ad, he, rfl⟩)
        · simp [World.putObj, World.setCell]; omega
        · have := (hl.blk ad he).2
          simp [World.putObj, World.setCell]; omega
    · refine ⟨hb.os, hb.tape, hb.output, by have := hb.size; simp [World.putObj, World.setCell]; omega, fun k hk hn => ?_⟩
      rw [World.putObj_heap_other (by omega), Below.heap_setCell _ _ _ _ (by rintro rfl; exact hn h1)]
      exact hb.block k hk
    · rintro k (rfl | ⟨ad, he, rfl⟩)
      · exact .inl h1
      · have := (hl.blk ad he).1
        unfold DropF at this
        exact .inr this.1
  case stop =>
    rintro D c' pre W hD _ h _
    exact h.elim
theorem drop_no (P : Option Addr) (g : Nat) (lb : Array Value) (w : World) (hp : NoRg 60 w P) :
    Calls Try.prog 28 #[.pointer P, .func (.func g) #[] lb] w fun e w' => e = .returned (.int .i64 0) ∧ Below w.heap.size w w' := by
  have hp' := hp.below ((Below.refl _ w).alloc (Nat.le_refl _) (.cells #[.func (.func g) #[] lb] 66))
  go_enter Try.func28, Try.ntmps28
  go_wp2_with fail
  refine (made_no P _ hp').mono ?_
  rintro e w' ⟨rfl, rfl⟩
  go_wp2
  go_ret
  exact ⟨rfl, (Below.refl _ _).alloc (Nat.le_refl _) _⟩
end Go.Proofs.Ytgeihelpggncgaa.Rgint
