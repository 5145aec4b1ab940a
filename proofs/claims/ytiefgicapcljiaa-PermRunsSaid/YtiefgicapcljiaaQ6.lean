/- A list of paths: what its calls keep; asked. -/
import Derived.Test.YtiefgicapcljiaaQ5
set_option linter.unusedSimpArgs false
set_option linter.unusedVariables false
namespace Go.Proofs.Ytiefgicapcljiaa
open Go.RowKit Go.Shelf

/-! ### What holds of every list -/
theorem valP_ok {l : List Int} (h : valP l = true) : okP l ∧ l ≠ [] := by simpa [valP] using h
theorem riseL_ne {l : List Int} (h : valP l = true) : riseL l ≠ [] := by
  intro e
  have h1 := (riseL_perm (valP_ok h).1).length_eq
  rw [e] at h1
  exact (valP_ok h).2 (List.eq_nil_of_length_eq_zero h1.symm)
theorem PL.ok.mono {L : PL} {b b' : Int} (h : L.ok b) (hb : b ≤ b') : L.ok b' :=
  ⟨h.i0, by have := h.i1; omega, h.p1, h.p2, h.r1, h.r2, h.r3, h.n0, by have := h.n1; omega, h.t1, fun x hx => by have := h.t2 x hx; omega⟩
/-- What holds of a list whose round is to begin. -/
structure PL.pre (L : PL) (b : Int) : Prop where
  i0 : 0 ≤ L.i
  i1 : L.i ≤ 7 * b
  p1 : L.ps = riseL L.ps
  p2 : L.ps ≠ []
  n0 : 0 ≤ L.rounds
  n1 : L.rounds ≤ b
  t1 : L.told.length = 8
  t2 : ∀ x ∈ L.told, 0 ≤ x ∧ x ≤ b + 1
theorem PL.pre.begin {L : PL} {b : Int} (h : L.pre b) : L.begin.ok (b + 1) := by
  have hl := ps_len h.p1
  refine ⟨?_, ?_, h.p1, h.p2, ?_, ?_, ?_, ?_, ?_, h.t1, fun x hx => ?_⟩
  · have := h.i0; simp only [PL.begin]; omega
  · have := h.i1; simp only [PL.begin]; omega
  · intro e
    have := shufI_len L.s L.i L.ps
    rw [show shufI L.s L.i L.ps = [] from e] at this
    exact h.p2 (List.eq_nil_of_length_eq_zero this.symm)
  · exact fun x hx => (shufI_perm L.s L.i L.ps).mem_iff.1 hx
  · exact (shufI_perm L.s L.i L.ps).nodup_iff.2 (by show L.ps.Nodup; rw [h.p1]; exact nodup_riseL _)
  · have := h.n0; simp only [PL.begin]; omega
  · have := h.n1; simp only [PL.begin]; omega
  · have := h.t2 x hx; omega
theorem PL.new_ok (s : Int) {l : List Int} (h : valP l = true) : (PL.new s l).ok 1 :=
  PL.pre.begin (b := 0) ⟨by simp, by simp, (riseL_idem l).symm, riseL_ne h, by simp, by simp, rfl, fun x hx => by have := List.eq_of_mem_replicate hx; omega⟩
theorem PL.ok.head {L : PL} {b : Int} (h : L.ok b) : L.top ∈ L.rest := by
  unfold PL.top
  have := h.r1
  cases hr : L.rest with
  | nil => exact absurd hr this
  | cons x r => simp
theorem PL.ok.head_bounds {L : PL} {b : Int} (h : L.ok b) : 0 ≤ L.top ∧ L.top < 8 := ps_bounds h.p1 _ (h.r2 _ h.head)
theorem PL.ok.rest_len {L : PL} {b : Int} (h : L.ok b) : L.rest.length ≤ 8 := by
  have hp : L.rest.Perm (riseL L.rest) := perm_of_nodup h.r3 (nodup_riseL _) fun x => by
    rw [mem_riseL]
    exact ⟨fun hx => ⟨hx, ps_bounds h.p1 x (h.r2 x hx)⟩, fun hx => hx.1⟩
  rw [hp.length_eq]
  exact riseN_len _ _
theorem told_step {l : List Int} {b : Int} (h : ∀ x ∈ l, 0 ≤ x ∧ x ≤ b) (k : Nat) (hb : 0 ≤ b) : ∀ x ∈ l.set k (l.getD k 0 + 1), 0 ≤ x ∧ x ≤ b + 1 := by
  intro x hx
  rcases List.mem_or_eq_of_mem_set hx with h' | rfl
  · have := h x h'; omega
  · rcases Nat.lt_or_ge k l.length with hk | hk
    · have := h l[k] (List.getElem_mem _)
      rw [List.getD_eq_getElem?_getD, List.getElem?_eq_getElem hk]
      simp; omega
    · rw [List.getD_eq_getElem?_getD, List.getElem?_eq_none hk]
      simp; omega
theorem PL.ok.next {L : PL} {b : Int} (h : L.ok b) : L.next.ok (b + 1) := by
  have hb : 0 ≤ b := by have := h.n0; have := h.n1; omega
  have ht := told_step h.t2 L.top.toNat hb
  unfold PL.next
  split
  · exact PL.pre.begin ⟨h.i0, h.i1, h.p1, h.p2, h.n0, h.n1, by simp [PL.step, h.t1], ht⟩
  · rename_i hr
    refine ⟨h.i0, by have := h.i1; simp only [PL.step]; omega, h.p1, h.p2, ?_, fun x hx => h.r2 x (List.mem_of_mem_tail hx), h.r3.tail, h.n0, by have := h.n1; simp only [PL.step]; omega, by simp [PL.step, h.t1], ht⟩
    intro e
    have h1 := h.r1
    cases hL : L.rest with
    | nil => exact h1 hL
    | cons x r =>
      have : L.rest.tail = [] := e
      rw [hL] at this hr
      simp at this
      simp [this] at hr
theorem PL.ok.pre {L : PL} {b : Int} (h : L.ok b) : L.pre b := ⟨h.i0, h.i1, h.p1, h.p2, h.n0, h.n1, h.t1, fun x hx => by have := h.t2 x hx; omega⟩
theorem PL.ok.renew {L : PL} {b : Int} (h : L.ok b) (l : List Int) : (L.renew l).ok (b + 1) := by
  unfold PL.renew
  split
  · rename_i hv
    exact PL.pre.begin ⟨h.i0, h.i1, (riseL_idem l).symm, riseL_ne hv.1, h.n0, h.n1, h.t1, h.pre.t2⟩
  · exact h.mono (by omega)
/-! ### In memory -/
/-- Block p, with all that it owns in F, is the list L. -/
def Pm (F : Nat → Prop) (w : World) (p : Nat) (L : PL) : Prop :=
  F p ∧ (∀ k, F k → k < w.heap.size) ∧ ∃ q A n c, Bk w 56 p (cellsL q (memB L.ps) A n c L.rounds L.told) ∧ Src w q L.s L.i ∧ Lst 3 F w A n c (intV L.rest) ∧ F q ∧ p ≠ q ∧ ¬ BlkOf A p ∧ ¬ BlkOf A q
theorem Pm.st {F G : Nat → Prop} {w w' : World} {p : Nat} {L : PL} (h : Pm F w p L) (hs : St G w w') (hS : Sep F G) : Pm F w' p L := by
  obtain ⟨h1, h2, q, A, n, c, h3, h4, h5, h6, h7, h8, h9⟩ := h
  exact ⟨h1, fun k hk => by have := h2 k hk; have := hs.size; omega, q, A, n, c, h3.st hs (hS p h1), Bk.st h4 hs (hS q h6), h5.st hs hS, h6, h7, h8, h9⟩
theorem Pm.below {F : Nat → Prop} {w w' : World} {p : Nat} {L : PL} (h : Pm F w p L) (hb : Below w.heap.size w w') : Pm F w' p L :=
  h.st (G := fun _ => False) (St.ext hb) (fun _ _ => id)
theorem Pm.far {F : Nat → Prop} {w : World} {p : Nat} {L : PL} (h : Pm F w p L) {a : Addr} (ha : ¬ F a.block) (v : Value) : Pm F (w.setCell a v) p L :=
  h.st (G := (· = a.block)) (St.setCell (F := (· = a.block)) w (a := a) rfl v) (fun k hk e => ha (e ▸ hk))
theorem Pm.alloc {F : Nat → Prop} {w : World} {p : Nat} {L : PL} (h : Pm F w p L) (o : Obj) : Pm F (w.alloc o) p L := h.below ((Below.refl _ _).alloc (Nat.le_refl _) o)
/-- Nobody made it. -/
def NoPm (w : World) (P : Option Addr) : Prop := P = none ∨ ∃ p vs, P = some ⟨p, 0, none⟩ ∧ Bk w 56 p (.pointer none :: vs)
theorem NoPm.below {w w' : World} {P : Option Addr} (h : NoPm w P) (hb : Below w.heap.size w w') : NoPm w' P := by
  rcases h with h | ⟨p, vs, h1, h2⟩
  · exact .inl h
  · exact .inr ⟨p, vs, h1, h2.below hb⟩
theorem pm_made (w : World) (p q : Nat) (vs : List Value) (h : Bk w 56 p (.pointer (some ⟨q, 0, none⟩) :: vs)) :
    Calls Try.prog 27 #[.pointer (some ⟨p, 0, none⟩)] w fun e w' => e = .returned (.bool true) ∧ w = w' := by
  have c0 := h.cell 0 rfl
  go_enter Try.func27, Try.ntmps27
  go_wp2
  go_ret
  exact ⟨rfl, rfl⟩
theorem pm_made_no (w : World) (P : Option Addr) (h : NoPm w P) :
    Calls Try.prog 27 #[.pointer P] w fun e w' => e = .returned (.bool false) ∧ w = w' := by
  rcases h with rfl | ⟨p, vs, rfl, h⟩
  · go_enter Try.func27, Try.ntmps27
    go_wp2
    go_ret
    exact ⟨rfl, rfl⟩
  · have c0 := h.cell 0 rfl
    go_enter Try.func27, Try.ntmps27
    go_wp2
    go_ret
    exact ⟨rfl, rfl⟩
section
variable {F : Nat → Prop} {w : World} {p : Nat} {L : PL} {b : Int}
theorem pm_peek (h : Pm F w p L) (ho : L.ok b) : Calls Try.prog 18 #[.pointer (some ⟨p, 0, none⟩)] w fun e w' => e = .returned (.int .i64 L.top) ∧ w = w' := by
  obtain ⟨h1, h2, q, A, n, c, h3, h4, h5, h6, h7, h8, h9⟩ := h
  have hr := ho.r1
  obtain ⟨x, r, hxr⟩ : ∃ x r, L.rest = x :: r := by cases hL : L.rest with | nil => exact absurd hL hr | cons x r => exact ⟨x, r, rfl⟩
  rw [hxr] at h5
  have hn := h5.1
  rw [intV_len, List.length_cons] at hn
  obtain ⟨g, o, rfl, hg, c0⟩ := h5.rdv.cell (i := 0) (by omega)
  have c9 := h3.cell 9 (cellsL_rest _ _ _ _ _ _ (memB_len _))
  have c0' : w.cell? ⟨g, o, none⟩ = some (.int .i64 x) := c0
  have hn0 : (0 : Int) < n := by omega
  have HX : Hid (L.top = x) := Lib.hid (by unfold PL.top; rw [hxr]; rfl)
  clear hn c0 hxr h5 h4 hr
  go_enter Try.func18, Try.ntmps18
  go_wp2_with (go_at_call 27; refine (pm_made _ _ _ _ h3).mono ?_; rintro e w' ⟨rfl, rfl⟩)
  go_ret
  exact ⟨by rw [HX.out]; rfl, rfl⟩
theorem pm_left (h : Pm F w p L) (ho : L.ok b) : Calls Try.prog 19 #[.pointer (some ⟨p, 0, none⟩)] w (Made 3 (intV L.rest) w) := by
  obtain ⟨h1, h2, q, A, n, c, h3, h4, h5, h6, h7, h8, h9⟩ := h
  have c9 := h3.cell 9 (cellsL_rest _ _ _ _ _ _ (memB_len _))
  have hn := h5.1
  rw [intV_len] at hn
  have hn8 := ho.rest_len
  have H5 := Lib.hid h5.rdv
  have HN : n ≤ 8 := by omega
  clear hn hn8 h5
  go_enter Try.func19, Try.ntmps19
  go_wp2_with (first
    | (go_at_call 27; refine (pm_made _ _ _ _ h3).mono ?_; rintro e w' ⟨rfl, rfl⟩)
    | (go_at_call 29; refine (Shint.clone_any A n c (intV L.rest) w H5.out (by omega)).mono ?_; rintro e w' ⟨A1, n1, c1, rfl, hl1, hb1⟩))
  go_ret
  exact ⟨A1, n1, c1, rfl, hl1, hb1⟩
theorem pm_paths (h : Pm F w p L) (ho : L.ok b) : Calls Try.prog 20 #[.pointer (some ⟨p, 0, none⟩)] w (Made 3 (intV L.ps) w) := by
  obtain ⟨h1, h2, q, A, n, c, h3, h4, h5, h6, h7, h8, h9⟩ := h
  have HP : Hid (riseN (memB L.ps) 8 = L.ps) := Lib.hid ho.p1.symm
  go_enter Try.func20, Try.ntmps20
  go_wp2_with (first
    | (go_at_call 27; refine (pm_made _ _ _ _ h3).mono ?_; rintro e w' ⟨rfl, rfl⟩)
    | (refine wpList_load_bk rowSet rfl (.tmp 8) rfl p 1 rfl h3 (boolV (memB L.ps)) (by rw [boolV_len, memB_len]) (cellsL_ps _ _ _ _ _ _ (memB_len _)) ?_)
    | (go_at_call 30; refine (rising_any _ _ (memB_len _)).mono ?_; rintro e w' ⟨A1, n1, c1, rfl, hl1, hb1⟩))
  go_ret
  exact ⟨A1, n1, c1, rfl, by rw [HP.out] at hl1; exact hl1, hb1⟩
theorem pm_rounds (h : Pm F w p L) : Calls Try.prog 21 #[.pointer (some ⟨p, 0, none⟩)] w fun e w' => e = .returned (.int .i64 L.rounds) ∧ w = w' := by
  obtain ⟨h1, h2, q, A, n, c, h3, h4, h5, h6, h7, h8, h9⟩ := h
  have c10 := h3.cell 10 (cellsL_rounds _ _ _ _ _ _ (memB_len _))
  go_enter Try.func21, Try.ntmps21
  go_wp2_with (go_at_call 27; refine (pm_made _ _ _ _ h3).mono ?_; rintro e w' ⟨rfl, rfl⟩)
  go_ret
  exact ⟨rfl, rfl⟩
theorem rowTold : Row Try.prog 32 8 := ⟨⟨_, rfl, rfl⟩, by kernel_rfl⟩
theorem intV_one (xs : List Int) : ∀ v ∈ intV xs, v.oneCell' = true := by
  intro v hv
  obtain ⟨b, _, rfl⟩ := List.mem_map.1 hv
  rfl
theorem pm_sprayed (h : Pm F w p L) (ho : L.ok b) : Calls Try.prog 17 #[.pointer (some ⟨p, 0, none⟩)] w fun e w' => e = .returned (.agg (intV L.told).toArray) ∧ Below w.heap.size w w' := by
  obtain ⟨h1, h2, q, A, n, c, h3, h4, h5, h6, h7, h8, h9⟩ := h
  have hz := Bk.new w 32 (intV (List.replicate 8 0))
  have h3' := h3.alloc (.cells (intV (List.replicate 8 0)).toArray 32)
  have ht := ho.t1
  have HT : Hid ((intV L.told).length = 8) := Lib.hid (by rw [intV_len, ht])
  clear ht
  go_enter Try.func17, Try.ntmps17
  go_wp2_with (first
    | (go_at_call 27; refine (pm_made _ _ _ _ h3').mono ?_; rintro e w' ⟨rfl, rfl⟩)
    | (refine wpList_load_bk rowTold rfl (.tmp 9) rfl p 11 rfl h3' (intV L.told) HT.out (cellsL_tolds _ _ _ _ _ _ (memB_len _)) ?_)
    | (refine wpList_store_bk rowTold rfl (.tmp 2) (.tmp 10) rfl w.heap.size 0 rfl hz (intV L.told) rfl HT.out (by decide) (intV_one _) ?_; rintro w5 hr5 hw5))
  rw [lay_all _ _ HT.out] at hr5
  exact bodyPost_ret (results_cell rfl rfl (rowTold.load hr5 0 HT.out (List.take_of_length_le (by simp)))) rfl ⟨rfl, ((Below.refl _ _).alloc (Nat.le_refl _) _).trans (hw5.below (Nat.le_refl _) (by simp))⟩
end
end Go.Proofs.Ytiefgicapcljiaa
