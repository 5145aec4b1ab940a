/- What an iterator yields, told as a row, up to a place. -/
import Derived.Test.YtdepbdmnkkkjlaaDoorN14
set_option linter.unusedSimpArgs false
set_option linter.unusedVariables false
set_option maxRecDepth 100000
namespace Go.Proofs.YtdepbdmnkkkjlaaDoor
open Go.RowKit Go.Shelf Go.Maps Go.Sort
attribute [local go_sem] Oper.semAt_some
theorem run_fn_nil (f : Fn) (lb : Array Value) (w : World) : (binOp .eql 72 (.func f #[] lb) .nilFunc).run Tryd.prog w = .ok (.bool false) w := by
  kernel_rfl
/-- The row is being gathered. -/
def TldI (w : World) (k : Int) (Bl L : Nat) (pre : List Cn) (W : World) : Prop :=
  Below w.heap.size w W ∧ L ≤ W.heap.size ∧ Bk W 3 w.heap.size [num k] ∧ ∃ A n c, Bk W 29 Bl [.slice A n c] ∧ LstR 2 54 (L ≤ ·) W A n c (flat Cn.cl pre)
theorem lstr_own {e : TypeId} {F : Nat → Prop} {W W' : World} {A : Option Addr} {n c B : Nat} {cs : List Value} {row : Option Nat} (h : LstR 2 e F W A n c cs) (hw : W.grownBy W' row) (hr : ∀ r, row = some r → B ≤ r ∧ ∃ o : Obj, W.heap[r]? = some o ∧ o.isCells = false) : LstR 2 e F W' A n c cs := by
  refine h.same fun ad he => hw.block _ (h.blk ad he).2 fun e2 => ?_
  obtain ⟨_, o, ho, hc⟩ := hr _ e2.symm
  rcases h.2.2.2.2 with ⟨e3, _⟩ | ⟨g, o', cur, e3, _, hh, _⟩
  · rw [e3] at he; cases he
  · rw [e3] at he
    injection he with he
    subst he
    rw [hh] at ho
    injection ho with ho
    subst ho
    cases hc
/-- What it answers. -/
def TldR (m : List Cn) (k : Nat) (w : World) (e : Ending) (w' : World) : Prop := ∃ A n c, e = .returned (.tuple #[.slice A n c, .bool true]) ∧ RvL w' A n c (m.take k) ∧ Below w.heap.size w w'
theorem tld_shut {w W : World} {A : Option Addr} {n c k D L : Nat} {m : List Cn} (hb : Below w.heap.size w W) (hL : w.heap.size ≤ L) (hl : LstR 2 54 (L ≤ ·) W A n c (flat Cn.cl (m.take k))) (hK : W.heap[D]? = some (.deferred (some []))) (hD : w.heap.size ≤ D) :
    TldR m k w (.returned (.tuple #[.slice A n c, .bool true])) (W.putObj D (.deferred none)) := by
  have hl2 : LstR 2 54 (L ≤ ·) (W.putObj D (.deferred none)) A n c (flat Cn.cl (m.take k)) := hl.same fun ad he => World.putObj_heap_other (by
    rintro rfl
    rcases hl.2.2.2.2 with ⟨e3, _⟩ | ⟨g, o', cur, e3, _, hh, _⟩
    · rw [e3] at he; cases he
    · rw [e3] at he
      injection he with he
      subst he
      rw [hh] at hK
      cases hK)
  refine ⟨A, n, c, rfl, ⟨?_, hl2.rd⟩, hb.trans ⟨rfl, rfl, rfl, by simp [World.putObj], fun k hk => World.putObj_heap_other (by omega)⟩⟩
  have := hl.1
  rw [flat_len Cn.cl_len] at this
  omega
set_option maxHeartbeats 8000000 in
theorem all_told {w : World} {A : Option Addr} {m : List Cn} (hok : Ok m) (k : Nat) (hk : k ≤ 100000) (hg : ∀ W g1 Bl, Below w.heap.size w W → Bk W 29 Bl [.slice none 0 0] → Bk W 25 g1 [.pointer A] → AllG (OwnS Bl) m g1 W 4) :
    Calls Tryd.prog 20 #[.pointer A, num k] w (TldR m k w) := by
  have hb1 : Below w.heap.size w (w.alloc (.cells #[num k] 3)) := (Below.refl _ w).alloc (Nat.le_refl _) _
  have q1 := Bk.new w 3 [num k]
  have hsz : (w.alloc (.cells #[num k] 3)).heap.size = w.heap.size + 1 := by simp
  have HQ := Lib.hid (And.intro hb1 q1)
  have hfn := run_fn_nil
  clear hb1 q1
  refine (callsIn_wide (n := 5)).1 ?_
  refine callsIn_of_wp_marks Tryd.func20 rfl trivial ?_ rfl
  simp only [Tryd.ntmps20, List.size_toArray, List.length_cons, List.length_nil, Nat.reduceAdd, Nat.reduceSub, Array.replicate_succ, Array.replicate_zero, List.push_toArray, List.append_toArray, List.nil_append, List.cons_append]
  gi_wp2
  generalize (w.alloc (.cells #[num k] 3)) = W1 at *
  refine ⟨trivial, (callsIn_wide.2 (q_all A W1)).mono ?_⟩
  rintro e W2 ⟨rfl, hr, hb⟩
  have hs2 : W1.heap.size < W2.heap.size := hr.lt
  rw [hsz] at hr hs2 ⊢
  have hb3 : Below W2.heap.size W2 (W2.alloc (.cells #[.slice none 0 0] 29)) := (Below.refl _ W2).alloc (Nat.le_refl _) _
  have q3 := Bk.new W2 29 [.slice none 0 0]
  have hs3 : (W2.alloc (.cells #[.slice none 0 0] 29)).heap.size = W2.heap.size + 1 := by simp
  have hgv := hg _ _ W2.heap.size ((below_on HQ.out.1 hb).trans (hb3.mono (below_on HQ.out.1 hb).size)) q3 (hr.below hb3)
  have HI0 : Hid (TldI w k W2.heap.size (W2.heap.size + 1) [] (W2.alloc (.cells #[.slice none 0 0] 29))) := Lib.hid ⟨(below_on HQ.out.1 hb).trans (hb3.mono (below_on HQ.out.1 hb).size), by omega, (HQ.out.2.below hb).below hb3, none, 0, 0, q3, LstR.nil 2 _ _ _⟩
  clear hr hb hb3 q3 hg
  gi_wp2
  generalize (W2.alloc (.cells #[.slice none 0 0] 29)) = W0 at *
  generalize hBl : W2.heap.size = Bl at *
  clear hBl
  refine wpIn_givesM rfl (by decide) (gf := 49) (lb := #[.pointer (some ⟨w.heap.size + 1, 0, none⟩)]) rfl trivial (enters_of Tryd.func49 (by kernel_rfl) rfl)
    hgv (Below.refl _ _) (fun _ => rfl) KpW.trans (fun N l W o o' hl ho h0 hc => kpS_put N l W o o' hl (by omega))
    (fun pre W => TldI w k Bl (Bl + 1) pre W ∧ pre = m.take pre.length ∧ pre.length ≤ k) (fun c pre W => c = .exit 0 ∧ TldI w k Bl (Bl + 1) (m.take k) W)
    (fun pre W W' row hI hw hr => by
      obtain ⟨⟨h1, h2, h3, A', n', c', h4, h5⟩, h6⟩ := hI
      exact ⟨⟨below_own h1 (by omega) hw hr, Nat.le_trans h2 hw.size, bk_own h3 hw hr, A', n', c', bk_own h4 hw hr, lstr_own h5 hw hr⟩, h6⟩)
    (fun c pre W W' row hI hw hr => by
      obtain ⟨h0, h1, h2, h3, A', n', c', h4, h5⟩ := hI
      exact ⟨h0, below_own h1 (by omega) hw hr, Nat.le_trans h2 hw.size, bk_own h3 hw hr, A', n', c', bk_own h4 hw hr, lstr_own h5 hw hr⟩) ⟨HI0.out, by simp, by simp⟩
    (fun pre x a' W => m[pre.length]? = some x ∧ a' = { tmps := #[.pointer A, num k, undef, .pointer (some ⟨w.heap.size, 0, none⟩), .slice none 0 0, .bool false, .func (.func 49) #[] #[.pointer (some ⟨w.heap.size + 1, 0, none⟩)], .pointer (some ⟨Bl, 0, none⟩), str x.s, num x.n, .pointer A, .func (.func 49) #[] #[.pointer (some ⟨w.heap.size + 1, 0, none⟩)], .func (.func 49) #[] #[.pointer (some ⟨w.heap.size + 1, 0, none⟩)], .bool false, .func (.func 49) #[] #[.pointer (some ⟨w.heap.size + 1, 0, none⟩)], str x.s, num x.n, undef, undef, undef, undef, undef, undef, undef, undef, undef, undef, undef], defers := [] })
    ?hAx ?assign ?body ?done ?stop
  case hAx =>
    rintro pre x a' _ W W' row h hw hr
    exact h
  case assign =>
    rintro l pre x W K hI hat hK
    gi_wp2
    exact hK _ _ ⟨Nat.le_refl _, fun _ _ _ h _ => h⟩ ⟨Nat.le_refl _, fun k _ _ h => ⟨rfl, h⟩⟩ hI ⟨hat, rfl⟩
  case body =>
    rintro l pre x a' W hsz2 ⟨⟨hb, hL, r0, A', n, c, r, hl⟩, hp1, hp2⟩ ⟨hx, rfl⟩
    have hlt := (List.getElem?_eq_some_iff.1 hx).1
    have hml := hok.len
    have c0 := r0.cell 0 rfl
    have cl := r.cell 0 rfl
    have fl := r.free 0
    have hn : n = pre.length := by have := hl.1; rw [flat_len Cn.cl_len] at this; omega
    have HB := Lib.hid (And.intro hb (And.intro hL (And.intro hl (And.intro r r0))))
    have hvA : ¬ BlkOf A' Bl := by
      rintro ⟨ad, he, hbk⟩
      have := (hl.blk ad he).1
      omega
    have HN := Lib.hid hvA
    subst hn
    by_cases hge : k ≤ pre.length
    · have hge' : (k : Int) ≤ (pre.length : Int) := by omega
      have HE : Hid (pre = m.take k) := Lib.hid (by rw [hp1]; congr 1; omega)
      clear hb hL r0 r hl hvA hp1
      gi_wp2
      exact ⟨⟨Nat.le_refl _, fun _ _ _ h _ => h⟩, ⟨Nat.le_refl _, fun k _ _ h => ⟨rfl, h⟩⟩, rfl, HB.out.1, HB.out.2.1, HB.out.2.2.2.2, A', pre.length, c, HB.out.2.2.2.1, by rw [← HE.out]; exact HB.out.2.2.1⟩
    · have hge' : (pre.length : Int) < (k : Int) := by omega
      have HTS := Lib.hid (take_step hp1 hx)
      have hla := Lib.hid (hl.alloc (.cells #[str x.s, num x.n] 54)).tight
      have hu := Lib.hid (RdR.one W 54 [str x.s, num x.n] (Cn.cl_one x))
      clear hb hL r0 hl hvA hp1 hge
      gi_wp2_with (first
        | (refine wpListIn_build_row eltO rfl (.tmp 24) rfl (xs := [str x.s, num x.n]) rfl rfl ?_)
        | (gi_at_builtin
           refine wpListIn_append_lstR eltO rfl (.tmp 21) (.tmp 25) rfl rfl hla.out rfl hu.out (by omega) ?_
           rintro v w2 hap
           obtain ⟨A2, n2, c2, rfl, hl2⟩ := hap.ex
           have r2 := (HB.out.2.2.2.1.alloc (.cells #[str x.s, num x.n] 54)).st hap.st HN.out
           have c3 := r2.cell 0 rfl
           have f3 := r2.free 0
           have HL2 := Lib.hid (And.intro hl2 (And.intro hap.st r2))
           clear hap hl2 r2))
      have hal : Below W.heap.size W (W.alloc (.cells #[str x.s, num x.n] 54)) := (Below.refl _ W).alloc (Nat.le_refl _) _
      have hA : ∀ j, BlkOf A' j → Bl + 1 ≤ j ∧ j < W.heap.size := fun j hj => by obtain ⟨ad, rfl, rfl⟩ := hj; exact HB.out.2.2.1.blk _ rfl
      have hst : St (fun j => BlkOf A' j ∨ j = Bl) W (w2.setCell ⟨Bl, 0, none⟩ (.slice A2 n2 c2)) :=
        ((St.ext hal).trans (HL2.out.2.1.mono fun j _ hj => Or.inl hj) (Gr.refl _ _)).trans (St.setCell (F := fun j => BlkOf A' j ∨ j = Bl) w2 (a := ⟨Bl, 0, none⟩) (.inr rfl) _) (Gr.refl _ _)
      have hBlk : ∀ ad, A2 = some ad → ad.block ≠ Bl := fun ad he e => by
        rcases (HL2.out.1.blk ad he).1 with h1 | h1
        · exact HN.out (e ▸ h1)
        · have h2 : W.heap.size + 1 ≤ ad.block := by simpa using h1
          have := HB.out.2.1
          omega
      refine ⟨?_, ?_, ⟨HB.out.1.trans (hst.below HB.out.1.size fun j hj => ?_), Nat.le_trans HB.out.2.1 hst.size, HB.out.2.2.2.2.st hst ?_, A2, n2, c2, HL2.out.2.2.set 0 _, ?_⟩, HTS.out, by simp; omega⟩
      · refine keeps_st hst fun j o hj hjo h0 hc => ?_
        rcases hj with hj | hj
        · have h1 := (hA j hj).1
          obtain ⟨ad, he, rfl⟩ := hj
          rcases HB.out.2.2.1.2.2.2.2 with ⟨e3, _⟩ | ⟨g, o', cur, e3, _, hh, _⟩
          · rw [e3] at he; cases he
          · rw [e3] at he
            injection he with he
            subst he
            rw [hh] at hjo
            injection hjo with hjo
            subst hjo
            cases hc
        · omega
      · refine kpS_stored HB.out.2.2.2.1 HN.out hal HL2.out.2.1 (fun ad he => ?_) (by omega)
        rcases (HL2.out.1.blk ad he).1 with h1 | h1
        · exact .inl h1
        · exact .inr (by have h2 : W.heap.size + 1 ≤ ad.block := by simpa using h1
                         omega)
      · have hwB := HB.out.1.size
        rcases hj with hj | hj
        · have := (hA j hj).1; omega
        · omega
      · rintro (h1 | h1)
        · have := (hA _ h1).1; omega
        · omega
      · have h9 := (HL2.out.1.far (p := ⟨Bl, 0, none⟩) hBlk (.slice A2 n2 c2)).mono (F' := (Bl + 1 ≤ ·)) fun j hj => by
          rcases hj with h1 | h1
          · exact (hA j h1).1
          · have h2 : W.heap.size + 1 ≤ j := by simpa using h1
            have := HB.out.2.1
            omega
        rw [show flat Cn.cl (pre ++ [x]) = flat Cn.cl pre ++ [str x.s, num x.n] from by simp [flat, Cn.cl]]
        exact h9
  case done =>
    rintro D ys W hD rfl ⟨⟨hb, hL, r0, A', n, c, r, hl⟩, hp1, hp2⟩ hK
    have cl := r.cell 0 rfl
    clear hp1
    gi_wp2
    refine ⟨by simp, .inl ⟨_, _, rfl, run_takeDeferred hK, ?_⟩⟩
    refine ⟨_, results_tmp2 rfl _ _ _, ?_⟩
    have hml := hok.len
    rw [show ys = ys.take k from (List.take_of_length_le hp2).symm] at hl
    exact tld_shut hb (by omega) hl hK (by omega)
  case stop =>
    rintro D c' pre W hD hsp ⟨rfl, hb, hL, r0, A', n, c, r, hl⟩ hK
    have cl := r.cell 0 rfl
    clear hfn hgv hsp
    gi_wp2
    refine ⟨by simp, .inl ⟨_, _, rfl, run_takeDeferred hK, ?_⟩⟩
    refine ⟨_, results_tmp2 rfl _ _ _, ?_⟩
    exact tld_shut hb (by omega) hl hK (by omega)
section
variable {w : World} {g b : Nat} {m : List Cn} {A : Option Addr}
theorem c_told (h : CtC w g b m) (k : Nat) (hk : k ≤ 100000) : Calls Tryd.prog 20 #[.pointer (some ⟨g, 0, none⟩), num k] w (TldR m k w) :=
  all_told h.ok k hk fun W g1 Bl hW hq hb => all_gives (OwnS Bl) 4 (by omega) (h.below hW) hb (fitS hq)
theorem n_told (h : NoC w A) (k : Nat) (hk : k ≤ 100000) : Calls Tryd.prog 20 #[.pointer A, num k] w (TldR [] k w) :=
  all_told Ok.nil k hk fun W g1 Bl hW hq hb => no_gives (OwnS Bl) 4 (by omega) (h.below hW) hb
end
end Go.Proofs.YtdepbdmnkkkjlaaDoor
