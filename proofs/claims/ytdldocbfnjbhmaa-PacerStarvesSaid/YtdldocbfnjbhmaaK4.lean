/- Queues of keys in memory: what holds of a key, asked of a function; those for which it holds are dropped. -/
import Derived.Test.YtdldocbfnjbhmaaK3
import Derived.Defers
import Derived.Recover
import Derived.Laws.Pointers
set_option linter.unusedSimpArgs false
set_option linter.unusedVariables false
set_option maxRecDepth 100000
namespace Go.Proofs.Ytdldocbfnjbhmaa
open Go.RowKit Go.Shelf
attribute [local go_sem] Oper.semAt_some

theorem kpO_ext {Bs : List Nat} {Bl : Nat} {W W' : World} (hBl : Bl < W.heap.size) (h : Below W.heap.size W W') : KpO (OwnB Bs Bl) W W' :=
  ⟨h.size, fun k o hk _ _ => (h.block k (Array.getElem?_eq_some_iff.1 hk).1).trans hk, fun k hk => .inl (OwnB.of_block (h.block _ hBl) hk)⟩
theorem kpO_put (Bs : List Nat) {Bl B : Nat} (hBl : Bl < B) (W : World) (l : Nat) (o o' : Obj) (hl : B ≤ l) (ho : W.heap[l]? = some o) (hc : o.isCells = false) : KpO (OwnB Bs Bl) W (W.putObj l o') := by
  refine ⟨by simp [World.putObj], fun k x hk hx _ => ?_, fun k hk => .inl (OwnB.of_block (World.putObj_heap_other (by omega)) hk)⟩
  rw [World.putObj_heap_other ?_]
  · exact hk
  · rintro rfl
    rw [ho] at hk
    injection hk with hk
    subst hk
    rw [hc] at hx
    cases hx
/-- An append to a list that the call owns turns cells alone. -/
theorem keeps_append {sz : Nat} {e : TypeId} {F : Nat → Prop} {W w2 : World} {A : Option Addr} {n c : Nat} {cs : List Value} (hl : LstR sz e F W A n c cs) (hst : St (BlkOf A) W w2) : KeepsOthers W w2 := by
  refine ⟨hst.size, fun k o ho hc => ?_⟩
  rw [hst.block k (Array.getElem?_eq_some_iff.1 ho).1 ?_]
  · exact ho
  · rintro ⟨ad, rfl, rfl⟩
    rcases hl.2.2.2.2 with ⟨h, _⟩ | ⟨g', o', cur, h, _, hh, _⟩
    · cases h
    · injection h with h
      subst h
      rw [hh] at ho
      injection ho with ho
      subst ho
      cases hc

theorem idle (w : World) : CallsD Try.prog 58 #[] .returning w fun e u' w' => e = .returned (.tuple #[]) ∧ u' = .returning ∧ w' = w := by
  refine callsD_of_wpS Try.func58 rfl fun c₀ cs hu => ?_
  apply wpS_region
  simp [wpOpsS, go_sem, recoverD, hu, Try.ntmps58, Exit.thenS, bodyPostS, results, Try.results58]
  cases c₀
  simp_all
theorem holds_any (g : Nat) (lb : Array Value) (eg : ∀ args w, (callFunc g args).run Try.prog w = .ok (.enter g args) w) (x : Ky) (b : Bool) (w : World)
    (h : ∀ W, Below w.heap.size w W → Calls Try.prog g (#[.agg #[.int .i64 x.s, .int .i64 x.c]] ++ lb) W fun e w' => e = .returned (.bool b) ∧ Below W.heap.size W w') :
    Calls Try.prog 50 #[.func (.func g) #[] lb, .agg #[.int .i64 x.s, .int .i64 x.c]] w fun e w' => e = .returned (.bool b) ∧ Below w.heap.size w w' := by
  have hb : Below w.heap.size w (w.alloc (.cells #[.int .i64 x.s, .int .i64 x.c] 39)) := (Below.refl _ w).alloc (Nat.le_refl _) _
  have H := Lib.hid (h _ hb)
  have HB := Lib.hid hb
  clear h hb
  go_enter_defers Try.func50, Try.ntmps50
  go_wp2_with fail
  refine H.out.mono ?_
  rintro e w' ⟨rfl, hb'⟩
  go_wp2
  refine leaves_cons (f := 58) (args := #[]) (by simp) (by simp [go_sem]) ?_
  refine (idle _).mono ?_
  rintro e u' w'' ⟨rfl, rfl, rfl⟩
  simp [Leaves, settle, results, Try.results50, go_sem]
  exact below_on HB.out hb'

theorem make_keys (C : Nat) (hC : C ≤ 1024) : ∃ cur : Array Value, cur.size = C * 2 ∧ ∀ w : World,
    (Instr.makeSlice 56 (.int .i64 0) (.int .i64 C)).run Try.prog w = .ok (.slice (some ⟨w.heap.size, 0, none⟩) 0 C) (w.alloc (.cells cur 39)) := by
  obtain ⟨i, hi, hz, hsz, hby⟩ := info_parts eltK.hi
  have hr := fun w => Go.run_make (P := Try.prog) w 56 39 i _ eltK.ht hi hz .i64 .i64 (0 : Int) (C : Int) (by omega) (by omega) (by rw [hby, ← Int.natCast_mul]; omega) (by omega)
  rw [hsz] at hr
  exact ⟨_, by rw [size_madeCells]; rfl, hr⟩
theorem made_keys (C : Nat) (hC : C ≤ 1024) (w : World) {cur : Array Value} (hc : cur.size = C * 2) (F : Nat → Prop) (hF : F w.heap.size) : LstR 2 39 F (w.alloc (.cells cur 39)) (some ⟨w.heap.size, 0, none⟩) 0 C [] := by
  refine (LstR.made 2 w 39 cur 0 C [] (by simp) (by omega) (by omega) (by simp only [maxLen]; omega) (by simp) (fun i hi => by omega)).tight.mono ?_
  rintro k ⟨ad, he, rfl⟩
  injection he with he
  subst he
  exact hF
/-- What the boxes of Drop leave to its list. -/
def DropF (s k : Nat) : Prop := s ≤ k ∧ k ≠ s ∧ k ≠ s + 2 ∧ k ≠ s + 3
/-- Between two rounds: what was kept of what has come, and how many were not. -/
def DropI (pr : Ky → Bool) (fv : Value) (qs : List Ky) (w : World) (pre : List (Fin qs.length)) (W : World) : Prop :=
  Bk W 84 w.heap.size [fv] ∧ Bk W 3 (w.heap.size + 3) [.int .i64 ((keys qs pre).countP pr)] ∧ Below w.heap.size w W ∧ w.heap.size + 5 ≤ W.heap.size ∧
  ∃ A n c, n ≤ pre.length ∧ Bk W 56 (w.heap.size + 2) [.slice A n c] ∧ LstR 2 39 (DropF w.heap.size) W A n c (flat Ky.cl ((keys qs pre).filter fun x => !pr x))
theorem dropI_own {pr : Ky → Bool} {fv : Value} {qs : List Ky} {w : World} {B : Nat} (hB : w.heap.size + 5 ≤ B) : OwnFrom B (DropI pr fv qs w) := by
  rintro pre W W' row ⟨h1, h2, h3, h4, A, n, c, h0, h5, h6⟩ hw hr
  have hk : ∀ k, k < w.heap.size + 5 → W'.heap[k]? = W.heap[k]? := fun k hk => hw.block k (by omega) (fun e => by have := (hr _ e.symm).1; omega)
  refine ⟨(hk _ (by omega)).trans h1, (hk _ (by omega)).trans h2, ⟨hw.os.trans h3.os, hw.tape.trans h3.tape, hw.output.trans h3.output, Nat.le_trans h3.size hw.size, fun k hk' => (hk k (by omega)).trans (h3.block k hk')⟩, Nat.le_trans h4 hw.size, A, n, c, h0, (hk _ (by omega)).trans h5, h6.same fun ad he => ?_⟩
  refine hw.block _ (h6.blk ad he).2 fun e => ?_
  obtain ⟨_, o, ho, hc⟩ := hr _ e.symm
  rcases h6.2.2.2.2 with ⟨rfl, _⟩ | ⟨g, o', cur, rfl, _, hh, _⟩
  · cases he
  · injection he with he
    subst he
    rw [hh] at ho
    injection ho with ho
    subst ho
    cases hc
theorem dropF_ne {s sz : Nat} {A : Option Addr} {e : TypeId} {n c : Nat} {vs : List Value} {W : World} (h : LstR sz e (DropF s) W A n c vs) : ¬ BlkOf A s ∧ ¬ BlkOf A (s + 2) ∧ ¬ BlkOf A (s + 3) ∧ ∀ k, k < s → ¬ BlkOf A k := by
  refine ⟨?_, ?_, ?_, fun k hk => ?_⟩ <;> rintro ⟨ad, he, hb⟩ <;> have := (h.blk ad he).1 <;> unfold DropF at this <;> omega
theorem DropI.next {pr : Ky → Bool} {fv : Value} {qs : List Ky} {w W W' : World} {pre : List (Fin qs.length)} (h : DropI pr fv qs w pre W) (hb : Below W.heap.size W W') : DropI pr fv qs w pre W' := by
  obtain ⟨h1, h2, h3, h4, A, n, c, h0, h5, h6⟩ := h
  exact ⟨h1.below hb, h2.below hb, h3.trans (hb.mono h3.size), Nat.le_trans h4 hb.size, A, n, c, h0, h5.below hb, h6.below hb⟩

set_option maxHeartbeats 8000000 in
theorem q_drop {F : Nat → Prop} {w : World} {p room : Nat} {qs : List Ky} (g : Nat) (lb : Array Value) (pr : Ky → Bool) (h : Qs F w p room qs)
    (eg : ∀ args w, (callFunc g args).run Try.prog w = .ok (.enter g args) w)
    (hpr : ∀ W, Below w.heap.size w W → ∀ x ∈ qs, Calls Try.prog g (#[.agg #[.int .i64 x.s, .int .i64 x.c]] ++ lb) W fun e w' => e = .returned (.bool (pr x)) ∧ Below W.heap.size W w') :
    Calls Try.prog 35 #[.pointer (some ⟨p, 0, none⟩), .func (.func g) #[] lb] w fun e w' => e = .returned (.int .i64 (qs.countP pr)) ∧ DidQ F p room (qs.filter fun x => !pr x) w w' := by
  have HPr := Lib.hid hpr
  have HEg := Lib.hid eg
  have HR := Lib.hid h
  clear eg hpr
  obtain ⟨h1, h2, h3, h4, A, n, c, hn, h5, h6, h7, h8⟩ := h
  have hlv : qs.length ≤ 1024 := by omega
  have hplt := h5.lt
  obtain ⟨w1, hw1⟩ : ∃ w1, w1 = w.alloc (.cells #[.func (.func g) #[] lb] 84) := ⟨_, rfl⟩
  have hb1 : Below w.heap.size w w1 := by rw [hw1]; exact (Below.refl _ w).alloc (Nat.le_refl _) _
  have HLen := Lib.hid (q_len (HR.out.below hb1))
  have h5' := h5.below hb1
  obtain ⟨cur, hcur, hmk⟩ := make_keys qs.length hlv
  rw [hw1] at HLen h5'
  have HN := Lib.hid hn
  clear hn
  refine (callsIn_wide (n := 5)).1 ?_
  refine callsIn_of_wp_marks Try.func35 rfl trivial ?_ rfl
  simp only [Try.ntmps35, List.size_toArray, List.length_cons, List.length_nil, Nat.reduceAdd, Nat.reduceSub, Array.replicate_succ, Array.replicate_zero, List.push_toArray, List.append_toArray, List.nil_append, List.cons_append]
  gi_wp2
  refine ⟨trivial, (callsIn_wide.2 (q_made p room _ _ h5' h2)).mono ?_⟩
  rintro e w' ⟨rfl, rfl⟩
  gi_wp2
  refine ⟨trivial, (callsIn_wide.2 HLen.out).mono ?_⟩
  rintro e w' ⟨rfl, rfl⟩
  gi_wp2
  refine ⟨trivial, (callsIn_wide.2 (q_all _ _)).mono ?_⟩
  rintro e w' ⟨rfl, rfl⟩
  gi_wp2
  clear hmk HLen h5' hb1 hw1
  obtain ⟨W0, hW0⟩ : ∃ W0, W0 = ((((w.alloc (.cells #[.func (.func g) #[] lb] 84)).alloc (.cells cur 39)).alloc (.cells #[.slice (some ⟨w.heap.size + 1, 0, none⟩) 0 qs.length] 56)).alloc (.cells #[.int .i64 0] 3)).alloc (.cells #[.pointer (some ⟨p, 0, none⟩)] 66) := ⟨_, rfl⟩
  rw [← hW0]
  have hs0 : W0.heap.size = w.heap.size + 5 := by rw [hW0]; simp
  have hb0 : Below w.heap.size w W0 := by rw [hW0]; exact (((((Below.refl _ w).alloc (Nat.le_refl _) _).alloc (by simp) _).alloc (by simp; omega) _).alloc (by simp; omega) _).alloc (by simp; omega) _
  have q0 : Bk W0 84 w.heap.size [.func (.func g) #[] lb] := by
    rw [hW0]; exact ((((Bk.new w _ [.func (.func g) #[] lb]).alloc _).alloc _).alloc _).alloc _
  have q2 : Bk W0 56 (w.heap.size + 2) [.slice (some ⟨w.heap.size + 1, 0, none⟩) 0 qs.length] := by
    have := ((Bk.new ((w.alloc (.cells #[.func (.func g) #[] lb] 84)).alloc (.cells cur 39)) 56 [.slice (some ⟨w.heap.size + 1, 0, none⟩) 0 qs.length]).alloc (.cells #[.int .i64 0] 3)).alloc (.cells #[.pointer (some ⟨p, 0, none⟩)] 66)
    rw [hW0]; simpa using this
  have q3 : Bk W0 3 (w.heap.size + 3) [.int .i64 0] := by
    have := (Bk.new (((w.alloc (.cells #[.func (.func g) #[] lb] 84)).alloc (.cells cur 39)).alloc (.cells #[.slice (some ⟨w.heap.size + 1, 0, none⟩) 0 qs.length] 56)) 3 [.int .i64 0]).alloc (.cells #[.pointer (some ⟨p, 0, none⟩)] 66)
    rw [hW0]; simpa using this
  have q4 : Bk W0 66 (w.heap.size + 4) [.pointer (some ⟨p, 0, none⟩)] := by
    have := Bk.new ((((w.alloc (.cells #[.func (.func g) #[] lb] 84)).alloc (.cells cur 39)).alloc (.cells #[.slice (some ⟨w.heap.size + 1, 0, none⟩) 0 qs.length] 56)).alloc (.cells #[.int .i64 0] 3)) 66 [.pointer (some ⟨p, 0, none⟩)]
    rw [hW0]; simpa using this
  have q1 : LstR 2 39 (DropF w.heap.size) W0 (some ⟨w.heap.size + 1, 0, none⟩) 0 qs.length [] := by
    have h0 := made_keys qs.length hlv (w.alloc (.cells #[.func (.func g) #[] lb] 84)) hcur (DropF w.heap.size) (by simp [DropF])
    have h1 := ((h0.alloc (.cells #[.slice (some ⟨w.heap.size + 1, 0, none⟩) 0 qs.length] 56)).alloc (.cells #[.int .i64 0] 3)).alloc (.cells #[.pointer (some ⟨p, 0, none⟩)] 66)
    rw [hW0]
    simpa only [World.size_alloc] using h1
  clear hW0
  simp only [Nat.add_assoc, Nat.reduceAdd]
  have hL := fun W (hW : Below W0.heap.size W0 W) => q_list (HR.out.below (hb0.trans (hW.mono hb0.size)))
  have hgv := all_gives (5 - 1) (by decide) (OwnB [w.heap.size + 3] (w.heap.size + 2)) (w.heap.size + 4) (some ⟨p, 0, none⟩) qs W0 hlv hL q4 (by
    rintro W hW k (hk | hk | ⟨ad, n', c', hk, rfl⟩)
    · simp at hk; omega
    · omega
    · rw [(q2.below hW).cell 0 rfl] at hk
      injection hk with hk
      injection hk with hk
      injection hk with hk
      subst hk
      simp; omega) (fun W W' hs hb k hk => OwnB.of_block (hb.block _ (by omega)) hk)
  refine wpIn_givesM rfl (by decide) (gf := 56) (lb := #[.pointer (some ⟨w.heap.size + 4, 0, none⟩)]) rfl trivial (enters_of Try.func56 (by kernel_rfl) rfl)
    hgv (Below.refl _ _) (fun _ => rfl) KpO.trans (fun N l W o o' hl ho h0 hc => kpO_put _ (B := w.heap.size + 3) (by omega) W l o o' (by omega) ho hc)
    (DropI pr (.func (.func g) #[] lb) qs w) (fun _ _ _ => False) (dropI_own (by omega)) (fun _ _ _ _ _ hs _ _ => hs) ⟨q0, q3, hb0, by omega, _, _, _, Nat.zero_le _, q2, q1⟩
    (fun pre x a' W => pre.length < qs.length ∧ ∃ b, Bk W 39 b (qs[x]).cl ∧ a' = { tmps := #[.pointer (some ⟨p, 0, none⟩), .func (.func g) #[] lb, undef, .pointer (some ⟨w.heap.size, 0, none⟩), .int .i64 0, .pointer (some ⟨w.heap.size + 2, 0, none⟩), .pointer (some ⟨w.heap.size + 3, 0, none⟩), undef, .pointer (some ⟨b, 0, none⟩), .pointer (some ⟨p, 0, none⟩), .bool true, .bool false, .pointer (some ⟨p, 0, none⟩), .int .i64 qs.length, .slice (some ⟨w.heap.size + 1, 0, none⟩) 0 qs.length, .pointer (some ⟨p, 0, none⟩), .func (.func 56) #[] #[.pointer (some ⟨w.heap.size + 4, 0, none⟩)], .int .i64 x.val, .agg #[.int .i64 (qs[x]).s, .int .i64 (qs[x]).c], undef, undef, undef, undef, undef, undef, undef, undef, undef, undef, undef, undef, undef, undef], defers := [] })
    ?hAx ?assign ?body ?done ?stop
  case hAx =>
    rintro pre x a' _ W W' row ⟨h0, b, h3, h4⟩ hw hr
    refine ⟨h0, b, (hw.block b h3.lt fun e => ?_).trans h3, h4⟩
    obtain ⟨_, o, ho, hc⟩ := hr _ e.symm
    rw [h3] at ho
    injection ho with ho
    subst ho
    cases hc
  case assign =>
    rintro l pre x W K hI hpl hK
    have hsz := hI.2.2.2.1
    have hbW : Below W.heap.size W (W.alloc (.cells #[.int .i64 (qs[x]).s, .int .i64 (qs[x]).c] 39)) := (Below.refl _ W).alloc (Nat.le_refl _) _
    have hnew := Bk.new W 39 (qs[x]).cl
    gi_wp2
    exact hK _ _ ((keepsOthers_of hbW).from _) (kpO_ext (by omega) hbW) (hI.next hbW) ⟨hpl, _, hnew, rfl⟩
  case body =>
    rintro l pre x a' W hszW ⟨r0, r3, hb, hsz, A1, n1, c1, hn1p, r2, hl⟩ ⟨hpl, bx, hbx, rfl⟩
    have HH := Lib.hid (holds_any g lb HEg.out qs[x] (pr qs[x]) W (fun W' hW' => HPr.out W' (hb.trans (hW'.mono hb.size)) _ (by simp)))
    have c0 := r0.cell 0 rfl
    have cl := r2.cell 0 rfl
    have cg := r3.cell 0 rfl
    have b0 : W.cell? ⟨bx, 0, none⟩ = some (.int .i64 (qs[x]).s) := hbx.cell 0 rfl
    have b1 : W.cell? ⟨bx, 1, none⟩ = some (.int .i64 (qs[x]).c) := hbx.cell 1 rfl
    have hcnt := List.countP_le_length (p := pr) (l := keys qs pre)
    rw [keys_length] at hcnt
    have hcn : ((keys qs pre).countP pr : Int) ≤ 1024 := by omega
    have hsn := keys_snoc qs pre x
    have hn1 : (n1 + 1) * 16 ≤ 140737488355328 := by omega
    obtain ⟨y, hy⟩ : ∃ y, y = qs[x] := ⟨_, rfl⟩
    obtain ⟨k, hk⟩ : ∃ k, k = (keys qs pre).countP pr := ⟨_, rfl⟩
    rw [← hy] at HH hsn hbx b0 b1 ⊢
    rw [← hk] at r3 cg hcnt hcn
    obtain ⟨nb0, nb2, nb3, nbk⟩ := dropF_ne hl
    by_cases hpy : pr y = true
    · have hpre' : (keys qs (pre ++ [x])).countP pr = k + 1 ∧ (keys qs (pre ++ [x])).filter (fun x => !pr x) = (keys qs pre).filter fun x => !pr x := by
        rw [hsn, List.countP_append, List.filter_append, hk]
        simp [hpy]
      rw [hpy] at HH
      have HP := Lib.hid hpre'
      clear hpre' hpy hsn hy hk
      gi_wp2
      refine ⟨trivial, (CallsIn.inRound l (callsIn_wide.2 HH.out)).mono ?_⟩
      rintro e w' ⟨rfl, hbw⟩
      have r3' := r3.below hbw
      have cg' := r3'.cell 0 rfl
      have fg' := r3'.free 0
      gi_wp2
      refine ⟨((keepsOthers_of hbw).trans (KeepsOthers.setCell _ _ _)).from _, (kpO_ext (by omega) hbw).trans (KpO.box (by simp) (by omega) _ _), ?_⟩
      unfold DropI
      rw [HP.out.1, HP.out.2]
      exact ⟨(r0.below hbw).far (by simp) _, by simpa using r3'.set 0 (.int .i64 ((k : Int) + 1)), (hb.trans (hbw.mono hb.size)).setCell (p := ⟨w.heap.size + 3, 0, none⟩) (by simp) _, by have := hbw.size; simp [World.setCell]; omega, A1, n1, c1, by simp; omega, (r2.below hbw).far (by simp) _, (hl.below hbw).far (fun ad he hne => nb3 ⟨ad, he, hne⟩) _⟩
    · have hpre' : (keys qs (pre ++ [x])).countP pr = k ∧ (keys qs (pre ++ [x])).filter (fun x => !pr x) = ((keys qs pre).filter fun x => !pr x) ++ [y] := by
        rw [hsn, List.countP_append, List.filter_append, hk]
        simp [hpy]
      rw [show pr y = false from by simpa using hpy] at HH
      have HP := Lib.hid hpre'
      clear hpre' hpy hsn hy hk
      gi_wp2
      refine ⟨trivial, (CallsIn.inRound l (callsIn_wide.2 HH.out)).mono ?_⟩
      rintro e w' ⟨rfl, hbw⟩
      have hla := ((hl.below hbw).alloc (.cells #[.int .i64 y.s, .int .i64 y.c] 39)).tight
      have hu := RdR.one w' 39 y.cl y.cl_one
      have hba : Below w'.heap.size w' (w'.alloc (.cells #[.int .i64 y.s, .int .i64 y.c] 39)) := (Below.refl _ _).alloc (Nat.le_refl _) _
      have hbb := below_on hbw hba
      have r2a := r2.below hbb
      have cla := r2a.cell 0 rfl
      have cl' := (r2.below hbw).cell 0 rfl
      have b0' : w'.cell? ⟨bx, 0, none⟩ = some (.int .i64 y.s) := (hbx.below hbw).cell 0 rfl
      have b1' : w'.cell? ⟨bx, 1, none⟩ = some (.int .i64 y.c) := (hbx.below hbw).cell 1 rfl
      clear c0 cl cg b0 b1
      gi_wp2_with (first
                   | (refine wpListIn_build_row eltK rfl (.tmp 25) rfl (xs := y.cl) rfl rfl ?_)
                   | (gi_at_builtin
                      refine wpListIn_append_lstR eltK rfl (.tmp 24) (.tmp 26) rfl rfl hla rfl hu hn1 ?_
                      rintro v w2 ⟨⟨A', n', c', rfl, hl'⟩, hst⟩
                      have r2w := r2a.st hst nb2
                      have c3 := r2w.cell 0 rfl
                      have f3 := r2w.free 0))
      have hsta : St (BlkOf A1) W w2 := (St.ext hbb).trans hst (Gr.refl _ _)
      have hF' : ∀ ad, A' = some ad → BlkOf A1 ad.block ∨ W.heap.size ≤ ad.block := fun ad he => by
        rcases (hl'.blk ad he).1 with h | h
        · exact .inl h
        · exact .inr (Nat.le_trans hbb.size h)
      rw [show Ky.cl y = flat Ky.cl [y] from (flat_one y).symm, ← flat_app] at hl'
      have hn' : n' = n1 + 1 := by
        have e1 : _ = n' * 2 := hl'.1
        have e2 : _ = n1 * 2 := hl.1
        rw [flat_len Ky.cl_len] at e1 e2
        simp at e1
        omega
      have hDF : LstR 2 39 (DropF w.heap.size) w2 A' n' c' (flat Ky.cl (((keys qs pre).filter fun x => !pr x) ++ [y])) := by
        refine hl'.mono ?_
        rintro k (⟨ad, he, rfl⟩ | hk)
        · exact (hl.blk ad he).1
        · have := Nat.le_trans hbb.size hk; unfold DropF; omega
      obtain ⟨nc0, nc2, nc3, nck⟩ := dropF_ne hDF
      have hb2 : Below w.heap.size W w2 := ⟨hsta.os, hsta.tape, hsta.output, hsta.size, fun k hk => hsta.block k (by omega) (nbk k hk)⟩
      refine ⟨(((keepsOthers_of hbb).trans (keeps_append hla hst)).trans (KeepsOthers.setCell _ _ _)).from _, KpO.stored r2 nb2 hbb hst hF', ?_⟩
      unfold DropI
      rw [HP.out.1, HP.out.2]
      exact ⟨(r0.st hsta nb0).far (by simp) _, (r3.st hsta nb3).far (by simp) _, (hb.trans hb2).setCell (p := ⟨w.heap.size + 2, 0, none⟩) (by simp) _, by have := hsta.size; simp [World.setCell]; omega, A', n', c', by simp; omega, r2w.set 0 _, hDF.far (fun ad he hne => nc2 ⟨ad, he, hne⟩) _⟩
  case done =>
    rintro D ys W hD rfl ⟨r0, r3, hb, hsz, A1, n1, c1, hn1p, r2, hl⟩ hK
    rw [keys_all] at r3 hl
    have cg := r3.cell 0 rfl
    have cl := r2.cell 0 rfl
    have hring := HR.out.below hb
    have hp5 := h5.below hb
    have fp := hp5.free 1
    have cp := hp5.cell 1 rfl
    obtain ⟨nb0, nb2, nb3, nbk⟩ := dropF_ne hl
    have hnf : n1 = (qs.filter fun x => !pr x).length := by
      have e1 := hl.1
      rw [flat_len Ky.cl_len] at e1
      omega
    have HNF := Lib.hid hnf
    clear hnf
    gi_wp2
    refine ⟨by simp, .inl ⟨_, _, rfl, run_takeDeferred (by rw [Below.heap_setCell _ _ _ _ (by simp; omega)]; exact hK), ?_⟩⟩
    refine ⟨_, results_tmp rfl _ _ _, rfl, fun k => k = p ∨ BlkOf A1 k, ?_, ?_, ?_⟩
    · have hAD : ∀ ad, A1 = some ad → ad.block ≠ D := by
        rintro ad rfl rfl
        rcases hl.2.2.2.2 with ⟨h, _⟩ | ⟨g', o', cur, h, _, hh, _⟩
        · cases h
        · injection h with h
          subst h
          rw [hh] at hK
          cases hK
      have hAp : ∀ ad, A1 = some ad → ad.block ≠ p := fun ad he e => nbk p hplt ⟨ad, he, e⟩
      have hf : (qs.filter fun x => !pr x).length ≤ room := Nat.le_trans (List.length_filter_le _ _) h4
      refine ⟨.inl rfl, h2, h3, hf, A1, n1, c1, HNF.out, (World.putObj_heap_other (by omega)).trans (hp5.set 1 _), ?_, hAp, ?_⟩
      · have h1' := (hl.tight.mono (F' := fun k => k = p ∨ BlkOf A1 k) (fun k hk => .inr hk)).far (p := ⟨p, 1, none⟩) (fun ad he => hAp ad he) (.slice A1 n1 c1)
        exact h1'.same fun ad he => World.putObj_heap_other (hAD ad he)
      · rintro k (rfl | ⟨ad, he, rfl⟩)
        · simp [World.putObj, World.setCell]; omega
        · have := (hl.blk ad he).2
          simp [World.putObj, World.setCell]; omega
    · refine ⟨hb.os, hb.tape, hb.output, by have := hb.size; simp [World.putObj, World.setCell]; omega, fun k hk hn => ?_⟩
      rw [World.putObj_heap_other (by omega), Below.heap_setCell _ _ _ _ (by rintro rfl; exact hn h1)]
      exact hb.block k hk
    · rintro k (rfl | ⟨ad, he, rfl⟩)
      · exact .inl h1
      · have := (hl.blk ad he).1
        unfold DropF at this
        exact .inr this.1
  case stop =>
    rintro D c' pre W hD _ h _
    exact h.elim
end Go.Proofs.Ytdldocbfnjbhmaa
