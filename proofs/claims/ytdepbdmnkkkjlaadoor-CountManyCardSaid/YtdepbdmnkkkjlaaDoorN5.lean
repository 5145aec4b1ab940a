/- Counters made, copied. -/
import Derived.Test.YtdepbdmnkkkjlaaDoorN4
set_option linter.unusedSimpArgs false
set_option linter.unusedVariables false
set_option maxRecDepth 100000
namespace Go.Proofs.YtdepbdmnkkkjlaaDoor
open Go.RowKit Go.Shelf Go.Maps
/-- The names one after the other; none: one is not valid, or was there. -/
def newC : List Cn → List Nm → Option (List Cn)
  | m, [] => some m
  | m, s :: l => if (look m s).isSome || !good s then none else newC (put m s 0) l
theorem newC_app : ∀ (l : List Nm) (m m1 : List Cn) (l2 : List Nm), newC m l = some m1 → newC m (l ++ l2) = newC m1 l2
  | [], m, m1, l2, h => by
    rw [newC] at h
    injection h with h
    subst h
    rfl
  | s :: l, m, m1, l2, h => by
    rw [newC] at h
    split at h
    · cases h
    · rename_i hc
      rw [List.cons_append, newC, if_neg hc]
      exact newC_app l _ m1 l2 h
theorem newC_srt : ∀ (l : List Nm) (m m1 : List Cn), Srt m → newC m l = some m1 → Srt m1 ∧ m1.length = m.length + l.length
  | [], m, m1, h, e => by
    rw [newC] at e
    injection e with e
    subst e
    exact ⟨h, rfl⟩
  | s :: l, m, m1, h, e => by
    rw [newC] at e
    split at e
    · cases e
    · rename_i hc
      obtain ⟨h1, h2⟩ := newC_srt l _ m1 (srt_put h s 0) e
      refine ⟨h1, ?_⟩
      rw [h2, len_put h, if_neg (by simp at hc; rw [hc.1]; simp), List.length_cons]
      omega
theorem newC_ok : ∀ (l : List Nm) (m m1 : List Cn), (∀ x ∈ m, good x.s = true ∧ 0 ≤ x.n ∧ x.n ≤ Most) → newC m l = some m1 → ∀ x ∈ m1, good x.s = true ∧ 0 ≤ x.n ∧ x.n ≤ Most
  | [], m, m1, h, e => by
    rw [newC] at e
    injection e with e
    subst e
    exact h
  | s :: l, m, m1, h, e => by
    rw [newC] at e
    split at e
    · cases e
    · rename_i hc
      refine newC_ok l _ m1 (fun x hx => ?_) e
      rcases mem_put hx with rfl | hx
      · refine ⟨?_, by simp, by simp [Most]⟩
        simp at hc
        exact hc.2
      · exact h x hx
/-- What New leaves: a good object, or none. -/
def NewR (ns : List Nm) (w : World) (e : Ending) (w' : World) : Prop :=
  Below w.heap.size w w' ∧ ((newC [] ns = none ∧ e = .returned (.tuple #[.pointer none, num 1])) ∨ ∃ m, newC [] ns = some m ∧
    ((256 < ns.length ∧ e = .returned (.tuple #[.pointer none, num 3])) ∨ (ns.length ≤ 256 ∧ ∃ g b, e = .returned (.tuple #[.pointer (some ⟨g, 0, none⟩), num 0]) ∧ CtC w' g b m ∧ w.heap.size ≤ g ∧ w.heap.size ≤ b)))
/-- New under way. -/
def NewI (w : World) (ns : List Nm) (k : Nat) (m : List Cn) (W : World) : Prop :=
  newC [] (ns.take k) = some m ∧ MpN W w.heap.size m ∧ Srt m ∧ m.length = k ∧ Below w.heap.size w W
set_option maxHeartbeats 2000000 in
theorem c_new {w : World} {ns : List Nm} {A : Option Addr} {n c : Nat} (hr : RdV w A n c (ns.map str)) (hl : ∀ s ∈ ns, s.length ≤ maxLen) (hlen : ns.length ≤ 1000) :
    Calls Tryd.prog 9 #[.slice A n c] w (NewR ns w) := by
  have hn : n = ns.length := by have := hr.1; simpa using this.symm
  subst hn
  have HR := Lib.hid hr
  have HI : Hid (NewI w ns 0 [] (w.alloc (.map #[] 0))) := Lib.hid ⟨rfl, MpN.new w, List.Pairwise.nil, rfl, (Below.refl _ _).alloc (Nat.le_refl _) _⟩
  have hmm := @run_makeMap Tryd.prog
  have HL := Lib.hid hl
  clear hr hl
  go_enter Tryd.func9, Tryd.ntmps9
  go_wp2
  generalize w.alloc (.map #[] 0) = W0 at *
  go_loopw [12] (fun i wr => ∃ k m, k ≤ ns.length ∧ i = .int .i64 (k : Nat) ∧ NewI w ns k m wr) (fun i _ => ns.length - (intOf i).toNat)
  case atStart => exact ⟨0, [], by omega, rfl, HI.out⟩
  case round =>
    obtain ⟨k, m, hk, rfl, hi⟩ := hrel
    have HJ := Lib.hid hi
    clear hi
    by_cases hlt : k < ns.length
    · obtain ⟨g, o, rfl, hg, hx⟩ := (HR.out.below HJ.out.2.2.2.2).cell (i := k) (by simpa using hlt)
      have hc : wr.cell? ⟨g, o + k, none⟩ = some (str ns[k]) := by
        rw [hx]
        simp [hlt]
      have hs : ns[k].length ≤ maxLen := HL.out _ (List.getElem_mem hlt)
      have hlk := look_ok HJ.out.2.1 hs
      have HN := Lib.hid (f_name ns[k] hs wr)
      have HT : Hid (ns.take (k + 1) = ns.take k ++ [ns[k]]) := Lib.hid (List.take_succ_eq_append_getElem hlt)
      have HD : Hid (ns.drop k = ns[k] :: ns.drop (k + 1)) := Lib.hid (List.drop_eq_getElem_cons hlt)
      have hlt' : (k : Int) < ns.length := by omega
      clear hx hg
      generalize ns[k] = s at *
      cases hq : (look m s).isSome with
      | true =>
        rw [hq] at hlk
        have HF : Hid (newC [] ns = none) := Lib.hid (by
          have h1 := newC_app _ _ _ (ns.drop k) HJ.out.1
          rw [List.take_append_drop, HD.out, newC, if_pos (by rw [hq]; rfl)] at h1
          exact h1)
        go_wp2
        go_ret2
        exact ⟨HJ.out.2.2.2.2, .inl ⟨HF.out, rfl⟩⟩
      | false =>
        rw [hq] at hlk
        cases hgd : good s with
        | false =>
          rw [hgd] at HN
          have HF : Hid (newC [] ns = none) := Lib.hid (by
            have h1 := newC_app _ _ _ (ns.drop k) HJ.out.1
            rw [List.take_append_drop, HD.out, newC, if_pos (by rw [hgd]; simp)] at h1
            exact h1)
          go_wp2_with (go_at_call 30; refine HN.out.mono ?_; rintro e w1 ⟨rfl, hb1⟩)
          go_ret2
          exact ⟨below_on HJ.out.2.2.2.2 hb1, .inl ⟨HF.out, rfl⟩⟩
        | true =>
          rw [hgd] at HN
          have HF : Hid (newC [] (ns.take (k + 1)) = some (put m s 0)) := Lib.hid (by
            rw [HT.out, newC_app _ _ _ _ HJ.out.1, newC, if_neg (by rw [hgd, hq]; simp)]
            rfl)
          have HLn : Hid ((put m s 0).length = k + 1) := Lib.hid (by rw [len_put HJ.out.2.2.1, if_neg (by rw [hq]; simp), HJ.out.2.2.2.1])
          go_wp2_with (first
            | (go_at_call 30; refine HN.out.mono ?_; rintro e w1 ⟨rfl, hb1⟩)
            | (refine wpList_store_to rfl (.tmp 28) (.tmp 29) (.const (.int .i64 0)) rfl rfl (HJ.out.2.1.below hb1) HJ.out.2.2.1 (by have := HJ.out.2.2.2.1; unfold maxLen; omega) rfl hs rfl (by simp) (by simp [Most]) ?_
               intro w2 hm2 hs2
               have H2 := Lib.hid (And.intro hm2 hs2)
               clear hm2 hs2))
          go_roundw
          case rel => exact ⟨k + 1, put m s 0, by omega, by go_num, HF.out, H2.out.1, srt_put HJ.out.2.2.1 s 0, HLn.out, (below_on HJ.out.2.2.2.2 hb1).trans (H2.out.2.below (below_on HJ.out.2.2.2.2 hb1).size fun j hj => by omega)⟩
          case measure => simp [intOf]; omega
    · obtain rfl : k = ns.length := by omega
      have HF : Hid (newC [] ns = some m) := Lib.hid (by have := HJ.out.1; rwa [List.take_of_length_le (Nat.le_refl _)] at this)
      by_cases hm : 256 < ns.length
      · have hm' : (256 : Int) < ns.length := by omega
        go_wp2
        go_ret2
        exact ⟨HJ.out.2.2.2.2, .inr ⟨m, HF.out, .inl ⟨hm, rfl⟩⟩⟩
      · have hm' : (ns.length : Int) ≤ 256 := by omega
        have HQ := Lib.hid (Bk.new wr 62 [.map (some w.heap.size)])
        have HOk : Hid (Ok m) := Lib.hid ⟨HJ.out.2.2.1, by have := HJ.out.2.2.2.1; omega, newC_ok _ _ _ (by simp) HF.out⟩
        go_wp2
        go_ret2
        refine ⟨HJ.out.2.2.2.2.alloc HJ.out.2.2.2.2.size _, .inr ⟨m, HF.out, .inr ⟨by omega, wr.heap.size, w.heap.size, rfl, ⟨HQ.out, HJ.out.2.1.below ((Below.refl _ _).alloc (Nat.le_refl _) _), HOk.out⟩, HJ.out.2.2.2.2.size, Nat.le_refl _⟩⟩⟩
section
variable {P : Program} (w : World)
theorem run_typeAssert_map (t xT k e : TypeId) (v : Value) (h : P.underlying t = some (.map k e)) : (Instr.typeAssert (.iface t v) xT t false).run P w = .ok v w := by
  simp [Instr.typeAssert, run_underlying h, go_sem, Result.andThen]
theorem run_clone_map {r : Nat} {es : Array MapEntry} {clock : Nat} (t : TypeId) (hb : w.heap[r]? = some (.map es clock)) :
    (Extern.MapsClone.clone #[.iface t (.map (some r))]).run P w = .ok (.iface t (.map (some w.heap.size))) (w.alloc (.map es clock)) := by
  have e : Extern.MapsClone.clone #[.iface t (.map (some r))] = (getObj r >>= fun o => match o with
      | .map entries clock => (newObj (.map entries clock) >>= fun n => pure (.iface t (.map (some n))))
      | _ => stuck "maps.clone: a map expected") := rfl
  rw [e]
  simp [MapKept.run_getObj_map hb, Result.andThen, go_sem]
end
theorem c_clone {w : World} {b : Nat} {m : List Cn} (h : MpN w b m) : Calls Tryd.prog 40 #[.map (some b)] w fun e w' => e = .returned (.map (some w.heap.size)) ∧ MpN w' w.heap.size m ∧ Below w.heap.size w w' := by
  obtain ⟨es, clock, hb, he⟩ := h
  have hq := run_eql_nil (some b) w
  simp only [Option.isNone_some] at hq
  have HE := Lib.hid he
  clear he
  go_enter Tryd.func40, Tryd.ntmps40
  go_wp2
  rw [run_callFunc_extern Tryd.func52 (by kernel_rfl) (by kernel_rfl) (by kernel_rfl) (e := Extern.MapsClone.clone) (by kernel_rfl), run_clone_map w 60 hb]
  simp only [Result.andThen]
  rw [Oper.upon_value]
  go_wp2
  rw [run_typeAssert_map _ 60 _ _ _ _ tyM]
  simp only [Result.andThen]
  rw [Oper.upon_value]
  go_wp2
  go_ret
  exact ⟨rfl, ⟨es, clock, heap_alloc_new w _, HE.out⟩, (Below.refl _ _).alloc (Nat.le_refl _) _⟩
/-- A copy: an object of its own. -/
def ForkR (m : List Cn) (w : World) (e : Ending) (w' : World) : Prop := ∃ g b, e = .returned (.pointer (some ⟨g, 0, none⟩)) ∧ CtC w' g b m ∧ Below w.heap.size w w' ∧ w.heap.size ≤ g ∧ w.heap.size ≤ b
theorem c_fork {w : World} {g b : Nat} {m : List Cn} (h : CtC w g b m) : Calls Tryd.prog 23 #[.pointer (some ⟨g, 0, none⟩)] w (ForkR m w) := by
  have HM := Lib.hid (c_made h)
  have HC := Lib.hid (c_clone h.mp)
  have c0 := h.bk.cell 0 rfl
  have HO := Lib.hid h.ok
  clear h
  go_enter Tryd.func23, Tryd.ntmps23
  go_wp2_with (first
    | (go_at_call 33; refine HM.out.mono ?_; rintro e w' ⟨rfl, rfl⟩)
    | (go_at_call 40; refine HC.out.mono ?_; rintro e w1 ⟨rfl, hm1, hb1⟩; have H1 := Lib.hid (And.intro hm1 hb1); clear hm1 hb1))
  go_ret
  exact ⟨w1.heap.size, w.heap.size, rfl, ⟨Bk.new w1 62 [.map (some w.heap.size)], H1.out.1.below ((Below.refl _ _).alloc (Nat.le_refl _) _), HO.out⟩, H1.out.2.alloc H1.out.2.size _, H1.out.2.size, Nat.le_refl _⟩
end Go.Proofs.YtdepbdmnkkkjlaaDoor
