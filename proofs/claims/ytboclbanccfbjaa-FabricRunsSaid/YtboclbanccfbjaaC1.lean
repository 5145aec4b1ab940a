/- Texts of this proof, put together: P5 P6 P7 RegL P8 P9 P10 -/
import Derived.Test.YtboclbanccfbjaaC0
import Derived.LaidEqlPtr
namespace Go.Proofs.Ytboclbanccfbjaa
set_option linter.unusedSimpArgs false
set_option linter.unusedVariables false
set_option maxRecDepth 100000
open Go.RowKit Go.Shelf
/-- A port by what it holds. -/
structure AM where
  low : List Pk
  high : List Pk
  lr : Nat
  hr : Nat
  wt : Nat
  run : Nat
  ct : Nat → Int
def AM.sel (m : AM) (hi : Bool) : List Pk := if hi then m.high else m.low
def AM.room (m : AM) (hi : Bool) : Nat := if hi then m.hr else m.lr
def AM.put (m : AM) (hi : Bool) (l : List Pk) : AM := { m with low := if hi then m.low else l, high := if hi then l else m.high }
/-- A port's cells. -/
def ptL (pl ph wt run : Nat) (ct : Nat → Int) : List Value := [.pointer (some ⟨pl, 0, none⟩), .pointer (some ⟨ph, 0, none⟩), .int .i64 wt, .int .i64 run, .int .i64 (ct 0), .int .i64 (ct 1), .int .i64 (ct 2), .int .i64 (ct 3), .int .i64 (ct 4)]
/-- Block b holds the port m; all of it lies in the blocks of F; its packets' payloads lie neither there nor in X. -/
structure PbC (F X : Nat → Prop) (w : World) (b : Nat) (m : AM) (pl ph : Nat) (Fl Fh : Nat → Prop) (ql qh : List Pv) : Prop where
  bk : Bk w 100 b (ptL pl ph m.wt m.run m.ct)
  w1 : 1 ≤ m.wt
  w2 : m.wt ≤ 1024
  ru : m.run ≤ m.wt
  lo : Qs Fl w pl m.lr ql
  hi : Qs Fh w ph m.hr qh
  lk : ql.map Pv.pk = m.low
  hk : qh.map Pv.pk = m.high
  pl_ : ∀ q ∈ ql, PvR (fun k => F k ∨ X k) w q
  ph_ : ∀ q ∈ qh, PvR (fun k => F k ∨ X k) w q
  f : ∀ k, F k ↔ k = b ∨ Fl k ∨ Fh k
  nl : ¬ Fl b
  nh : ¬ Fh b
  sep : Sep Fl Fh
  xb : ∀ k, X k → k < w.heap.size
def Pb (F X : Nat → Prop) (w : World) (b : Nat) (m : AM) : Prop := ∃ pl ph Fl Fh ql qh, PbC F X w b m pl ph Fl Fh ql qh
/-- The port is this one now; nothing else of what was there has changed. -/
def DidP (F X : Nat → Prop) (b : Nat) (m : AM) (w w' : World) : Prop := ∃ F', Pb F' X w' b m ∧ St F w w' ∧ Gr F F' w.heap.size
section
variable {F X : Nat → Prop} {w w' : World} {b : Nat} {m : AM} {pl ph : Nat} {Fl Fh : Nat → Prop} {ql qh : List Pv}
theorem PbC.bd (h : PbC F X w b m pl ph Fl Fh ql qh) : ∀ k, F k → k < w.heap.size := fun k hk => by
  rcases (h.f k).1 hk with rfl | hk | hk
  · exact h.bk.lt
  · exact h.lo.bd k hk
  · exact h.hi.bd k hk
theorem PbC.below (h : PbC F X w b m pl ph Fl Fh ql qh) (hb : Below w.heap.size w w') : PbC F X w' b m pl ph Fl Fh ql qh :=
  ⟨h.bk.below hb, h.w1, h.w2, h.ru, h.lo.below hb, h.hi.below hb, h.lk, h.hk, fun q hq => (h.pl_ q hq).below hb, fun q hq => (h.ph_ q hq).below hb, h.f, h.nl, h.nh, h.sep, fun k hk => Nat.lt_of_lt_of_le (h.xb k hk) hb.size⟩
/-- Blocks of the call's own are off limits too. -/
theorem PbC.ext (h : PbC F X w b m pl ph Fl Fh ql qh) (hb : Below w.heap.size w w') {X1 : Nat → Prop} (hX : ∀ k, X1 k → X k ∨ w.heap.size ≤ k) (hX1 : ∀ k, X1 k → k < w'.heap.size) : PbC F X1 w' b m pl ph Fl Fh ql qh := by
  have hg : Gr (fun k => F k ∨ X k) (fun k => F k ∨ X1 k) w.heap.size := fun k hk => by
    rcases hk with hk | hk
    · exact .inl (.inl hk)
    · exact (hX k hk).imp .inr id
  exact ⟨h.bk.below hb, h.w1, h.w2, h.ru, h.lo.below hb, h.hi.below hb, h.lk, h.hk, fun q hq => ((h.pl_ q hq).gr hg).below hb, fun q hq => ((h.ph_ q hq).gr hg).below hb, h.f, h.nl, h.nh, h.sep, hX1⟩
theorem PbC.less (h : PbC F X w b m pl ph Fl Fh ql qh) {X1 : Nat → Prop} (hX : ∀ k, X1 k → X k) : PbC F X1 w b m pl ph Fl Fh ql qh :=
  ⟨h.bk, h.w1, h.w2, h.ru, h.lo, h.hi, h.lk, h.hk, fun q hq => (h.pl_ q hq).mono fun k hk => hk.imp id (hX k), fun q hq => (h.ph_ q hq).mono fun k hk => hk.imp id (hX k), h.f, h.nl, h.nh, h.sep, fun k hk => h.xb k (hX k hk)⟩
theorem PbC.sel_len (h : PbC F X w b m pl ph Fl Fh ql qh) : ql.length = m.low.length ∧ qh.length = m.high.length := ⟨by rw [← h.lk, List.length_map], by rw [← h.hk, List.length_map]⟩
/-- Another port's, or nobody's, blocks turn. -/
theorem PbC.st (h : PbC F X w b m pl ph Fl Fh ql qh) {G : Nat → Prop} (hs : St G w w') (hFG : ∀ k, F k → ¬ G k) (hGX : ∀ k, G k → X k ∨ w.heap.size ≤ k) : PbC F X w' b m pl ph Fl Fh ql qh := by
  have hb : F b := (h.f b).2 (.inl rfl)
  have hp : ∀ q, PvR (fun k => F k ∨ X k) w q → PvR (fun k => F k ∨ X k) w' q := fun q hq =>
    ⟨hq.1.st hs (fun hn ad he hg => by
      rcases hGX _ hg with hx | hx
      · exact hq.2.2.2 hn ad he (.inr hx)
      · have := hq.1.blk hn ad he; omega), hq.2⟩
  exact ⟨h.bk.st hs (hFG b hb), h.w1, h.w2, h.ru, h.lo.st hs fun k hk => hFG k ((h.f k).2 (.inr (.inl hk))), h.hi.st hs fun k hk => hFG k ((h.f k).2 (.inr (.inr hk))), h.lk, h.hk, fun q hq => hp q (h.pl_ q hq), fun q hq => hp q (h.ph_ q hq), h.f, h.nl, h.nh, h.sep, fun k hk => Nat.lt_of_lt_of_le (h.xb k hk) hs.size⟩
theorem Pb.bd (h : Pb F X w b m) : ∀ k, F k → k < w.heap.size := by obtain ⟨_, _, _, _, _, _, h⟩ := h; exact h.bd
theorem Pb.at (h : Pb F X w b m) : F b := by obtain ⟨_, _, _, _, _, _, h⟩ := h; exact (h.f b).2 (.inl rfl)
theorem Pb.below (h : Pb F X w b m) (hb : Below w.heap.size w w') : Pb F X w' b m := by obtain ⟨a1, a2, a3, a4, a5, a6, h⟩ := h; exact ⟨a1, a2, a3, a4, a5, a6, h.below hb⟩
theorem Pb.st (h : Pb F X w b m) {G : Nat → Prop} (hs : St G w w') (hFG : ∀ k, F k → ¬ G k) (hGX : ∀ k, G k → X k ∨ w.heap.size ≤ k) : Pb F X w' b m := by obtain ⟨a1, a2, a3, a4, a5, a6, h⟩ := h; exact ⟨a1, a2, a3, a4, a5, a6, h.st hs hFG hGX⟩
theorem DidP.trans {w1 : World} {F1 : Nat → Prop} (hs : St F w w1) (hg : Gr F F1 w.heap.size) (h : DidP F1 X b m w1 w') : DidP F X b m w w' := by
  obtain ⟨F', h1, h2, h3⟩ := h
  exact ⟨F', h1, hs.trans h2 hg, hg.trans h3 hs.size⟩
/-- The queue that is meant, its blocks, its place. -/
def ptr (pl ph : Nat) (hi : Bool) : Nat := if hi then ph else pl
def AM.qv (ql qh : List Pv) (hi : Bool) : List Pv := if hi then qh else ql
theorem PbC.qs (h : PbC F X w b m pl ph Fl Fh ql qh) (hi : Bool) : Qs (if hi then Fh else Fl) w (ptr pl ph hi) (m.room hi) (AM.qv ql qh hi) := by
  cases hi
  · exact h.lo
  · exact h.hi
theorem PbC.qk (h : PbC F X w b m pl ph Fl Fh ql qh) (hi : Bool) : (AM.qv ql qh hi).map Pv.pk = m.sel hi := by
  cases hi
  · exact h.lk
  · exact h.hk
theorem PbC.qp (h : PbC F X w b m pl ph Fl Fh ql qh) (hi : Bool) : ∀ q ∈ AM.qv ql qh hi, PvR (fun k => F k ∨ X k) w q := by
  cases hi
  · exact h.pl_
  · exact h.ph_
theorem PbC.ne (h : PbC F X w b m pl ph Fl Fh ql qh) : pl ≠ ph := fun e => h.sep pl h.lo.at (by rw [e]; exact h.hi.at)
/-- One of the queues has turned. -/
theorem PbC.did (h : PbC F X w b m pl ph Fl Fh ql qh) (hi : Bool) {us : List Pv} (hd : DidQ (if hi then Fh else Fl) (ptr pl ph hi) (m.room hi) us w w') (hu : ∀ q ∈ us, PvR (fun k => F k ∨ X k) w q) :
    ∃ F' Fl' Fh' ql' qh', PbC F' X w' b (m.put hi (us.map Pv.pk)) pl ph Fl' Fh' ql' qh' ∧ St F w w' ∧ Gr F F' w.heap.size := by
  cases hi with
  | true =>
    obtain ⟨F1, h1, h2, h3⟩ := hd
    have hg : Gr F (fun k => k = b ∨ Fl k ∨ F1 k) w.heap.size := fun k hk => by
      rcases hk with rfl | hk | hk
      · exact .inl ((h.f _).2 (.inl rfl))
      · exact .inl ((h.f _).2 (.inr (.inl hk)))
      · exact (h3 k hk).imp (fun hk => (h.f _).2 (.inr (.inr hk))) id
    have hgx : Gr (fun k => F k ∨ X k) (fun k => (k = b ∨ Fl k ∨ F1 k) ∨ X k) w.heap.size := fun k hk => by
      rcases hk with hk | hk
      · exact (hg k hk).imp .inl id
      · exact .inl (.inr hk)
    have hs : St F w w' := h2.mono fun k _ hk => (h.f _).2 (.inr (.inr hk))
    have hsx : St (fun k => F k ∨ X k) w w' := hs.mono fun k _ hk => .inl hk
    refine ⟨fun k => k = b ∨ Fl k ∨ F1 k, Fl, F1, ql, us, ⟨h.bk.st h2 h.nh, h.w1, h.w2, h.ru, h.lo.st h2 h.sep, h1, h.lk, rfl, fun q hq => (h.pl_ q hq).st hsx hgx, fun q hq => (hu q hq).st hsx hgx, fun k => Iff.rfl, h.nl, ?_, ?_, fun k hk => Nat.lt_of_lt_of_le (h.xb k hk) hs.size⟩, hs, hg⟩
    · exact h3.not h.bk.lt h.nh
    · exact fun k hk => h3.not (h.lo.bd k hk) (h.sep k hk)
  | false =>
    obtain ⟨F1, h1, h2, h3⟩ := hd
    have hg : Gr F (fun k => k = b ∨ F1 k ∨ Fh k) w.heap.size := fun k hk => by
      rcases hk with rfl | hk | hk
      · exact .inl ((h.f _).2 (.inl rfl))
      · exact (h3 k hk).imp (fun hk => (h.f _).2 (.inr (.inl hk))) id
      · exact .inl ((h.f _).2 (.inr (.inr hk)))
    have hgx : Gr (fun k => F k ∨ X k) (fun k => (k = b ∨ F1 k ∨ Fh k) ∨ X k) w.heap.size := fun k hk => by
      rcases hk with hk | hk
      · exact (hg k hk).imp .inl id
      · exact .inl (.inr hk)
    have hs : St F w w' := h2.mono fun k _ hk => (h.f _).2 (.inr (.inl hk))
    have hsx : St (fun k => F k ∨ X k) w w' := hs.mono fun k _ hk => .inl hk
    refine ⟨fun k => k = b ∨ F1 k ∨ Fh k, F1, Fh, us, qh, ⟨h.bk.st h2 h.nl, h.w1, h.w2, h.ru, h1, h.hi.st h2 fun k hk hl => h.sep k hl hk, rfl, h.hk, fun q hq => (hu q hq).st hsx hgx, fun q hq => (h.ph_ q hq).st hsx hgx, fun k => Iff.rfl, ?_, h.nh, ?_, fun k hk => Nat.lt_of_lt_of_le (h.xb k hk) hs.size⟩, hs, hg⟩
    · exact h3.not h.bk.lt h.nl
    · exact fun k hk hh => h3.not (h.hi.bd k hh) (fun hl => h.sep k hl hh) hk
/-- A cell of the port itself is written. -/
theorem PbC.cell (h : PbC F X w b m pl ph Fl Fh ql qh) (i : Nat) (u : Value) {run : Nat} {ct : Nat → Int} (hr : run ≤ m.wt) (hl : (ptL pl ph m.wt m.run m.ct).set i u = ptL pl ph m.wt run ct) :
    PbC F X (w.setCell ⟨b, i, none⟩ u) b { m with run := run, ct := ct } pl ph Fl Fh ql qh ∧ St F w (w.setCell ⟨b, i, none⟩ u) := by
  have hb : F b := (h.f b).2 (.inl rfl)
  have hs : St (· = b) w (w.setCell ⟨b, i, none⟩ u) := (St.setCell (F := (· = b)) w (a := ⟨b, i, none⟩) rfl u)
  have hsx : St (fun k => F k ∨ X k) w (w.setCell ⟨b, i, none⟩ u) := hs.mono fun k _ hk => by rw [hk]; exact .inl hb
  refine ⟨⟨?_, h.w1, h.w2, hr, h.lo.st hs (fun k hk e => h.nl (e ▸ hk)), h.hi.st hs (fun k hk e => h.nh (e ▸ hk)), h.lk, h.hk, fun q hq => (h.pl_ q hq).st hsx (Gr.refl _ _), fun q hq => (h.ph_ q hq).st hsx (Gr.refl _ _), h.f, h.nl, h.nh, h.sep, fun k hk => Nat.lt_of_lt_of_le (h.xb k hk) hs.size⟩, hs.mono fun k _ hk => by rw [hk]; exact hb⟩
  have := h.bk.set i u
  rw [hl] at this
  exact this
theorem pt_made (h : PbC F X w b m pl ph Fl Fh ql qh) :
    Calls Try.prog 49 #[.pointer (some ⟨b, 0, none⟩)] w fun e w' => e = .returned (.bool true) ∧ w = w' := by
  have c2 := h.bk.cell 2 rfl
  have h1 := h.w1
  clear h
  go_enter Try.func49, Try.ntmps49
  go_wp2
  go_ret
  exact ⟨by simp [Act.tmps]; omega, rfl⟩
theorem pt_len (h : PbC F X w b m pl ph Fl Fh ql qh) (hi : Bool) :
    Calls Try.prog 56 #[.pointer (some ⟨ptr pl ph hi, 0, none⟩)] w fun e w' => e = .returned (.int .i64 (m.sel hi).length) ∧ w = w' := by
  have hh := q_len (h.qs hi)
  have : (AM.qv ql qh hi).length = (m.sel hi).length := by rw [← h.qk hi, List.length_map]
  rw [this] at hh
  exact hh
theorem pt_room (h : PbC F X w b m pl ph Fl Fh ql qh) (hi : Bool) :
    Calls Try.prog 67 #[.pointer (some ⟨ptr pl ph hi, 0, none⟩)] w fun e w' => e = .returned (.int .i64 (m.room hi - (m.sel hi).length)) ∧ Below w.heap.size w w' := by
  have hh := q_room (h.qs hi)
  have : (AM.qv ql qh hi).length = (m.sel hi).length := by rw [← h.qk hi, List.length_map]
  rw [this] at hh
  exact hh
set_option maxHeartbeats 4000000 in
theorem pt_lens (h : PbC F X w b m pl ph Fl Fh ql qh) :
    Calls Try.prog 38 #[.pointer (some ⟨b, 0, none⟩)] w fun e w' => e = .returned (.tuple #[.int .i64 m.low.length, .int .i64 m.high.length]) ∧ Below w.heap.size w w' := by
  have HM := Lib.hid (pt_made h)
  go_enter Try.func38, Try.ntmps38
  go_wp2_with (go_at_call 49; refine HM.out.mono ?_; rintro e w' ⟨rfl, rfl⟩)
  refine wp_region_E Ext (by kernel_rfl) (fun wd hbd hsz => ?_)
  have HP := Lib.hid (h.below hbd)
  have q0 : ∀ W, Ext wd W → W.cell? ⟨b, 0, none⟩ = some (.pointer (some ⟨pl, 0, none⟩)) := fun W hW => (h.bk.below (Ext.trans _ _ _ hbd hW)).cell 0 rfl
  have q1 : ∀ W, Ext wd W → W.cell? ⟨b, 1, none⟩ = some (.pointer (some ⟨ph, 0, none⟩)) := fun W hW => (h.bk.below (Ext.trans _ _ _ hbd hW)).cell 1 rfl
  have HBD := Lib.hid hbd
  clear hsz h
  (refine takeE Ext.tr 0 (by simp only [List.getElem?_toArray, List.getElem?_cons_succ, List.getElem?_cons_zero]; rfl) (by kernel_rfl) (by kernel_rfl) (by kernel_rfl) (by exact fun _ _ _ h => h) (by first | (refine Or.inl ⟨by rfl, ?_⟩; intro W hW; go_simp; try with_reducible rfl) | exact Or.inr ⟨by rfl, rfl⟩) ?_; try simp only [Act.put, List.setIfInBounds_toArray, List.set_cons_zero, List.set_cons_succ])
  (refine takeE Ext.tr 5 (by simp only [List.getElem?_toArray, List.getElem?_cons_succ, List.getElem?_cons_zero]; rfl) (by kernel_rfl) (by kernel_rfl) (by kernel_rfl) (by exact fun _ _ _ h => h) (by first | (refine Or.inl ⟨by rfl, ?_⟩; intro W hW; go_simp; try with_reducible rfl) | exact Or.inr ⟨by rfl, rfl⟩) ?_; try simp only [Act.put, List.setIfInBounds_toArray, List.set_cons_zero, List.set_cons_succ])
  (refine takeE Ext.tr 1 (by simp only [List.getElem?_toArray, List.getElem?_cons_succ, List.getElem?_cons_zero]; rfl) (by kernel_rfl) (by kernel_rfl) (by kernel_rfl) (by exact fun _ _ _ h => h) (by first | (refine Or.inl ⟨by rfl, ?_⟩; intro W hW; go_simp; try with_reducible rfl) | exact Or.inr ⟨by rfl, rfl⟩) ?_; try simp only [Act.put, List.setIfInBounds_toArray, List.set_cons_zero, List.set_cons_succ])
  (refine takeE Ext.tr 6 (by simp only [List.getElem?_toArray, List.getElem?_cons_succ, List.getElem?_cons_zero]; rfl) (by kernel_rfl) (by kernel_rfl) (by kernel_rfl) (by exact fun _ _ _ h => h) (by first | (refine Or.inl ⟨by rfl, ?_⟩; intro W hW; go_simp; try with_reducible rfl) | exact Or.inr ⟨by rfl, rfl⟩) ?_; try simp only [Act.put, List.setIfInBounds_toArray, List.set_cons_zero, List.set_cons_succ])
  (refine takeE Ext.tr 2 (by simp only [List.getElem?_toArray, List.getElem?_cons_succ, List.getElem?_cons_zero]; rfl) (by kernel_rfl) (by kernel_rfl) (by kernel_rfl) (by exact fun _ _ _ h => h) (by first | (refine Or.inl ⟨by rfl, ?_⟩; intro W hW; go_simp; try with_reducible rfl) | exact Or.inr ⟨by rfl, rfl⟩) ?_; try simp only [Act.put, List.setIfInBounds_toArray, List.set_cons_zero, List.set_cons_succ])
  (refine takeE Ext.tr 7 (by simp only [List.getElem?_toArray, List.getElem?_cons_succ, List.getElem?_cons_zero]; rfl) (by kernel_rfl) (by kernel_rfl) (by kernel_rfl) (by exact fun _ _ _ h => h) (by first | (refine Or.inl ⟨by rfl, ?_⟩; intro W hW; go_simp; try with_reducible rfl) | exact Or.inr ⟨by rfl, rfl⟩) ?_; try simp only [Act.put, List.setIfInBounds_toArray, List.set_cons_zero, List.set_cons_succ])
  (refine takeE Ext.tr 3 (by simp only [List.getElem?_toArray, List.getElem?_cons_succ, List.getElem?_cons_zero]; rfl) (by kernel_rfl) (by kernel_rfl) (by kernel_rfl) (by exact fun _ _ _ h => h) (by first | (refine Or.inl ⟨by rfl, ?_⟩; intro W hW; go_simp; try with_reducible rfl) | exact Or.inr ⟨by rfl, rfl⟩) ?_; try simp only [Act.put, List.setIfInBounds_toArray, List.set_cons_zero, List.set_cons_succ])
  (refine takeE Ext.tr 8 (by simp only [List.getElem?_toArray, List.getElem?_cons_succ, List.getElem?_cons_zero]; rfl) (by kernel_rfl) (by kernel_rfl) (by kernel_rfl) (by exact fun _ _ _ h => h) (by first | (refine Or.inl ⟨by rfl, ?_⟩; intro W hW; go_simp; try with_reducible rfl) | exact Or.inr ⟨by rfl, rfl⟩) ?_; try simp only [Act.put, List.setIfInBounds_toArray, List.set_cons_zero, List.set_cons_succ])
  refine wpAnyE_one (i := 4) (by kernel_rfl) (by simp only [List.getElem?_toArray, List.getElem?_cons_succ, List.getElem?_cons_zero]; rfl) (fun K hK => ?_)
  go_simp
  refine (pt_len HP.out false).mono ?_
  rintro e w1 ⟨rfl, rfl⟩
  refine hK.out _ _ (Ext.refl _) ?_
  clear hK K
  try simp only [Act.put, List.setIfInBounds_toArray, List.set_cons_zero, List.set_cons_succ]
  refine wpAnyE_one (i := 9) (by kernel_rfl) (by simp only [List.getElem?_toArray, List.getElem?_cons_succ, List.getElem?_cons_zero]; rfl) (fun K hK => ?_)
  go_simp
  refine (pt_len HP.out true).mono ?_
  rintro e w1 ⟨rfl, rfl⟩
  refine hK.out _ _ (Ext.refl _) ?_
  clear hK K
  try simp only [Act.put, List.setIfInBounds_toArray, List.set_cons_zero, List.set_cons_succ]
  (refine takeE Ext.tr 10 (by simp only [List.getElem?_toArray, List.getElem?_cons_succ, List.getElem?_cons_zero]; rfl) (by kernel_rfl) (by kernel_rfl) (by kernel_rfl) (by exact fun _ _ _ h => h) (by first | (refine Or.inl ⟨by rfl, ?_⟩; intro W hW; go_simp; try with_reducible rfl) | exact Or.inr ⟨by rfl, rfl⟩) ?_; try simp only [Act.put, List.setIfInBounds_toArray, List.set_cons_zero, List.set_cons_succ])
  (refine takeE Ext.tr 11 (by simp only [List.getElem?_toArray, List.getElem?_cons_succ, List.getElem?_cons_zero]; rfl) (by kernel_rfl) (by kernel_rfl) (by kernel_rfl) (by exact fun _ _ _ h => h) (by first | (refine Or.inl ⟨by rfl, ?_⟩; intro W hW; go_simp; try with_reducible rfl) | exact Or.inr ⟨by rfl, rfl⟩) ?_; try simp only [Act.put, List.setIfInBounds_toArray, List.set_cons_zero, List.set_cons_succ])
  refine wpAnyE_done (by kernel_rfl) ?_ _
  skip
  all_goals
    go_wp2
    go_ret2
    exact ⟨rfl, HBD.out⟩
end
end Go.Proofs.Ytboclbanccfbjaa
namespace Go.Proofs.Ytboclbanccfbjaa
set_option linter.unusedSimpArgs false
set_option linter.unusedVariables false
set_option maxRecDepth 100000
open Go.RowKit Go.Shelf
/-- Is the high queue served next? -/
def AM.hiB (m : AM) : Bool := decide (0 < m.high.length) && (m.low.length == 0 || decide (m.run < m.wt))
/-- The run behind a packet of a queue. -/
def AM.nrun (m : AM) (hi : Bool) : Nat := if (hi && decide (0 < m.low.length)) = true then m.run + 1 else 0
section
variable {F X : Nat → Prop} {w w' : World} {b : Nat} {m : AM} {pl ph : Nat} {Fl Fh : Nat → Prop} {ql qh : List Pv}
set_option maxHeartbeats 2000000 in
theorem pt_next (h : PbC F X w b m pl ph Fl Fh ql qh) :
    Calls Try.prog 50 #[.pointer (some ⟨b, 0, none⟩)] w fun e w' => e = .returned (.pointer (some ⟨ptr pl ph m.hiB, 0, none⟩)) ∧ Below w.heap.size w w' := by
  rcases (by omega : (m.high.length = 0 ∧ m.low.length = 0) ∨ (m.high.length = 0 ∧ 0 < m.low.length) ∨ (0 < m.high.length ∧ m.low.length = 0) ∨ (0 < m.high.length ∧ 0 < m.low.length ∧ m.run < m.wt) ∨ (0 < m.high.length ∧ 0 < m.low.length ∧ m.wt ≤ m.run)) with ⟨h1, h2⟩ | ⟨h1, h2⟩ | ⟨h1, h2⟩ | ⟨h1, h2, h3⟩ | ⟨h1, h2, h3⟩
  · have HB : Hid (m.hiB = false) := Lib.hid (by simp [AM.hiB, h1])
    have HL : Hid (∀ w1, Below w.heap.size w w1 → Calls Try.prog 56 #[.pointer (some ⟨pl, 0, none⟩)] w1 fun e w' => e = .returned (.int .i64 0) ∧ w1 = w') := Lib.hid fun w1 hb => by
      have := pt_len (h.below hb) false
      have e : (m.sel false).length = 0 := h2
      rw [e] at this; exact this
    have HH : Hid (∀ w1, Below w.heap.size w w1 → Calls Try.prog 56 #[.pointer (some ⟨ph, 0, none⟩)] w1 fun e w' => e = .returned (.int .i64 0) ∧ w1 = w') := Lib.hid fun w1 hb => by
      have := pt_len (h.below hb) true
      have e : (m.sel true).length = 0 := h1
      rw [e] at this; exact this
    go_enter Try.func50, Try.ntmps50
    go_wp2_with fail
    refine wp_region_E Ext (by kernel_rfl) (fun wd hbd hsz => ?_)
    have q0 : ∀ W, Ext wd W → W.cell? ⟨b, 0, none⟩ = some (.pointer (some ⟨pl, 0, none⟩)) := fun W hW => (h.bk.below (Ext.trans _ _ _ hbd hW)).cell 0 rfl
    have q1 : ∀ W, Ext wd W → W.cell? ⟨b, 1, none⟩ = some (.pointer (some ⟨ph, 0, none⟩)) := fun W hW => (h.bk.below (Ext.trans _ _ _ hbd hW)).cell 1 rfl
    have q2 : ∀ W, Ext wd W → W.cell? ⟨b, 2, none⟩ = some (.int .i64 m.wt) := fun W hW => (h.bk.below (Ext.trans _ _ _ hbd hW)).cell 2 rfl
    have q3 : ∀ W, Ext wd W → W.cell? ⟨b, 3, none⟩ = some (.int .i64 m.run) := fun W hW => (h.bk.below (Ext.trans _ _ _ hbd hW)).cell 3 rfl
    have HBD := Lib.hid hbd
    clear hsz
    (refine takeE Ext.tr 0 (by simp only [List.getElem?_toArray, List.getElem?_cons_succ, List.getElem?_cons_zero]; rfl) (by kernel_rfl) (by kernel_rfl) (by kernel_rfl) (by exact fun _ _ _ h => h) (by first | (refine Or.inl ⟨by rfl, ?_⟩; intro W hW; go_simp; try with_reducible rfl) | exact Or.inr ⟨by rfl, rfl⟩) ?_; try simp only [Act.put, List.setIfInBounds_toArray, List.set_cons_zero, List.set_cons_succ])
    (refine takeE Ext.tr 1 (by simp only [List.getElem?_toArray, List.getElem?_cons_succ, List.getElem?_cons_zero]; rfl) (by kernel_rfl) (by kernel_rfl) (by kernel_rfl) (by exact fun _ _ _ h => h) (by first | (refine Or.inl ⟨by rfl, ?_⟩; intro W hW; go_simp; try with_reducible rfl) | exact Or.inr ⟨by rfl, rfl⟩) ?_; try simp only [Act.put, List.setIfInBounds_toArray, List.set_cons_zero, List.set_cons_succ])
    (refine takeE Ext.tr 2 (by simp only [List.getElem?_toArray, List.getElem?_cons_succ, List.getElem?_cons_zero]; rfl) (by kernel_rfl) (by kernel_rfl) (by kernel_rfl) (by exact fun _ _ _ h => h) (by first | (refine Or.inl ⟨by rfl, ?_⟩; intro W hW; go_simp; try with_reducible rfl) | exact Or.inr ⟨by rfl, rfl⟩) ?_; try simp only [Act.put, List.setIfInBounds_toArray, List.set_cons_zero, List.set_cons_succ])
    (refine takeE Ext.tr 3 (by simp only [List.getElem?_toArray, List.getElem?_cons_succ, List.getElem?_cons_zero]; rfl) (by kernel_rfl) (by kernel_rfl) (by kernel_rfl) (by exact fun _ _ _ h => h) (by first | (refine Or.inl ⟨by rfl, ?_⟩; intro W hW; go_simp; try with_reducible rfl) | exact Or.inr ⟨by rfl, rfl⟩) ?_; try simp only [Act.put, List.setIfInBounds_toArray, List.set_cons_zero, List.set_cons_succ])
    refine wpAnyE_one (i := 4) (by kernel_rfl) (by simp only [List.getElem?_toArray, List.getElem?_cons_succ, List.getElem?_cons_zero]; rfl) (fun K hK => ?_)
    go_simp
    refine (HH.out _ HBD.out).mono ?_
    rintro e w1 ⟨rfl, rfl⟩
    refine hK.out _ _ (Ext.refl _) ?_
    clear hK K
    try simp only [Act.put, List.setIfInBounds_toArray, List.set_cons_zero, List.set_cons_succ]
    (refine takeE Ext.tr 5 (by simp only [List.getElem?_toArray, List.getElem?_cons_succ, List.getElem?_cons_zero]; rfl) (by kernel_rfl) (by kernel_rfl) (by kernel_rfl) (by exact fun _ _ _ h => h) (by first | (refine Or.inl ⟨by rfl, ?_⟩; intro W hW; go_simp; try with_reducible rfl) | exact Or.inr ⟨by rfl, rfl⟩) ?_; try simp only [Act.put, List.setIfInBounds_toArray, List.set_cons_zero, List.set_cons_succ])
    (refine takeE Ext.tr 6 (by simp only [List.getElem?_toArray, List.getElem?_cons_succ, List.getElem?_cons_zero]; rfl) (by kernel_rfl) (by kernel_rfl) (by kernel_rfl) (by exact fun _ _ _ h => h) (by first | (refine Or.inl ⟨by rfl, ?_⟩; intro W hW; go_simp; try with_reducible rfl) | exact Or.inr ⟨by rfl, rfl⟩) ?_; try simp only [Act.put, List.setIfInBounds_toArray, List.set_cons_zero, List.set_cons_succ])
    (refine takeE Ext.tr 7 (by simp only [List.getElem?_toArray, List.getElem?_cons_succ, List.getElem?_cons_zero]; rfl) (by kernel_rfl) (by kernel_rfl) (by kernel_rfl) (by exact fun _ _ _ h => h) (by first | (refine Or.inl ⟨by rfl, ?_⟩; intro W hW; go_simp; try with_reducible rfl) | exact Or.inr ⟨by rfl, rfl⟩) ?_; try simp only [Act.put, List.setIfInBounds_toArray, List.set_cons_zero, List.set_cons_succ])
    (refine takeE Ext.tr 8 (by simp only [List.getElem?_toArray, List.getElem?_cons_succ, List.getElem?_cons_zero]; rfl) (by kernel_rfl) (by kernel_rfl) (by kernel_rfl) (by exact fun _ _ _ h => h) (by first | (refine Or.inl ⟨by rfl, ?_⟩; intro W hW; go_simp; try with_reducible rfl) | exact Or.inr ⟨by rfl, rfl⟩) ?_; try simp only [Act.put, List.setIfInBounds_toArray, List.set_cons_zero, List.set_cons_succ])
    (refine takeE Ext.tr 9 (by simp only [List.getElem?_toArray, List.getElem?_cons_succ, List.getElem?_cons_zero]; rfl) (by kernel_rfl) (by kernel_rfl) (by kernel_rfl) (by exact fun _ _ _ h => h) (by first | (refine Or.inl ⟨by rfl, ?_⟩; intro W hW; go_simp; try with_reducible rfl) | exact Or.inr ⟨by rfl, rfl⟩) ?_; try simp only [Act.put, List.setIfInBounds_toArray, List.set_cons_zero, List.set_cons_succ])
    (refine takeE Ext.tr 10 (by simp only [List.getElem?_toArray, List.getElem?_cons_succ, List.getElem?_cons_zero]; rfl) (by kernel_rfl) (by kernel_rfl) (by kernel_rfl) (by exact fun _ _ _ h => h) (by first | (refine Or.inl ⟨by rfl, ?_⟩; intro W hW; go_simp; try with_reducible rfl) | exact Or.inr ⟨by rfl, rfl⟩) ?_; try simp only [Act.put, List.setIfInBounds_toArray, List.set_cons_zero, List.set_cons_succ])
    refine wpAnyE_one (i := 11) (by kernel_rfl) (by simp only [List.getElem?_toArray, List.getElem?_cons_succ, List.getElem?_cons_zero]; rfl) (fun K hK => ?_)
    go_simp
    refine hK.out _ _ (Ext.refl _) ?_
    clear hK K
    try simp only [Act.put, List.setIfInBounds_toArray, List.set_cons_zero, List.set_cons_succ]
    (refine takeE Ext.tr 12 (by simp only [List.getElem?_toArray, List.getElem?_cons_succ, List.getElem?_cons_zero]; rfl) (by kernel_rfl) (by kernel_rfl) (by kernel_rfl) (by exact fun _ _ _ h => h) (by first | (refine Or.inl ⟨by rfl, ?_⟩; intro W hW; go_simp; try with_reducible rfl) | exact Or.inr ⟨by rfl, rfl⟩) ?_; try simp only [Act.put, List.setIfInBounds_toArray, List.set_cons_zero, List.set_cons_succ])
    (refine takeE Ext.tr 13 (by simp only [List.getElem?_toArray, List.getElem?_cons_succ, List.getElem?_cons_zero]; rfl) (by kernel_rfl) (by kernel_rfl) (by kernel_rfl) (by exact fun _ _ _ h => h) (by first | (refine Or.inl ⟨by rfl, ?_⟩; intro W hW; go_simp; try with_reducible rfl) | exact Or.inr ⟨by rfl, rfl⟩) ?_; try simp only [Act.put, List.setIfInBounds_toArray, List.set_cons_zero, List.set_cons_succ])
    (refine takeE Ext.tr 14 (by simp only [List.getElem?_toArray, List.getElem?_cons_succ, List.getElem?_cons_zero]; rfl) (by kernel_rfl) (by kernel_rfl) (by kernel_rfl) (by exact fun _ _ _ h => h) (by first | (refine Or.inl ⟨by rfl, ?_⟩; intro W hW; go_simp; try with_reducible rfl) | exact Or.inr ⟨by rfl, rfl⟩) ?_; try simp only [Act.put, List.setIfInBounds_toArray, List.set_cons_zero, List.set_cons_succ])
    (refine takeE Ext.tr 18 (by simp only [List.getElem?_toArray, List.getElem?_cons_succ, List.getElem?_cons_zero]; rfl) (by kernel_rfl) (by kernel_rfl) (by kernel_rfl) (by exact fun _ _ _ h => h) (by first | (refine Or.inl ⟨by rfl, ?_⟩; intro W hW; go_simp; try with_reducible rfl) | exact Or.inr ⟨by rfl, rfl⟩) ?_; try simp only [Act.put, List.setIfInBounds_toArray, List.set_cons_zero, List.set_cons_succ])
    (refine takeE Ext.tr 15 (by simp only [List.getElem?_toArray, List.getElem?_cons_succ, List.getElem?_cons_zero]; rfl) (by kernel_rfl) (by kernel_rfl) (by kernel_rfl) (by exact fun _ _ _ h => h) (by first | (refine Or.inl ⟨by rfl, ?_⟩; intro W hW; go_simp; try with_reducible rfl) | exact Or.inr ⟨by rfl, rfl⟩) ?_; try simp only [Act.put, List.setIfInBounds_toArray, List.set_cons_zero, List.set_cons_succ])
    (refine takeE Ext.tr 19 (by simp only [List.getElem?_toArray, List.getElem?_cons_succ, List.getElem?_cons_zero]; rfl) (by kernel_rfl) (by kernel_rfl) (by kernel_rfl) (by exact fun _ _ _ h => h) (by first | (refine Or.inl ⟨by rfl, ?_⟩; intro W hW; go_simp; try with_reducible rfl) | exact Or.inr ⟨by rfl, rfl⟩) ?_; try simp only [Act.put, List.setIfInBounds_toArray, List.set_cons_zero, List.set_cons_succ])
    (refine takeE Ext.tr 16 (by simp only [List.getElem?_toArray, List.getElem?_cons_succ, List.getElem?_cons_zero]; rfl) (by kernel_rfl) (by kernel_rfl) (by kernel_rfl) (by exact fun _ _ _ h => h) (by first | (refine Or.inl ⟨by rfl, ?_⟩; intro W hW; go_simp; try with_reducible rfl) | exact Or.inr ⟨by rfl, rfl⟩) ?_; try simp only [Act.put, List.setIfInBounds_toArray, List.set_cons_zero, List.set_cons_succ])
    (refine takeE Ext.tr 20 (by simp only [List.getElem?_toArray, List.getElem?_cons_succ, List.getElem?_cons_zero]; rfl) (by kernel_rfl) (by kernel_rfl) (by kernel_rfl) (by exact fun _ _ _ h => h) (by first | (refine Or.inl ⟨by rfl, ?_⟩; intro W hW; go_simp; try with_reducible rfl) | exact Or.inr ⟨by rfl, rfl⟩) ?_; try simp only [Act.put, List.setIfInBounds_toArray, List.set_cons_zero, List.set_cons_succ])
    (refine takeE Ext.tr 17 (by simp only [List.getElem?_toArray, List.getElem?_cons_succ, List.getElem?_cons_zero]; rfl) (by kernel_rfl) (by kernel_rfl) (by kernel_rfl) (by exact fun _ _ _ h => h) (by first | (refine Or.inl ⟨by rfl, ?_⟩; intro W hW; go_simp; try with_reducible rfl) | exact Or.inr ⟨by rfl, rfl⟩) ?_; try simp only [Act.put, List.setIfInBounds_toArray, List.set_cons_zero, List.set_cons_succ])
    (refine takeE Ext.tr 21 (by simp only [List.getElem?_toArray, List.getElem?_cons_succ, List.getElem?_cons_zero]; rfl) (by kernel_rfl) (by kernel_rfl) (by kernel_rfl) (by exact fun _ _ _ h => h) (by first | (refine Or.inl ⟨by rfl, ?_⟩; intro W hW; go_simp; try with_reducible rfl) | exact Or.inr ⟨by rfl, rfl⟩) ?_; try simp only [Act.put, List.setIfInBounds_toArray, List.set_cons_zero, List.set_cons_succ])
    (refine takeE Ext.tr 22 (by simp only [List.getElem?_toArray, List.getElem?_cons_succ, List.getElem?_cons_zero]; rfl) (by kernel_rfl) (by kernel_rfl) (by kernel_rfl) (by exact fun _ _ _ h => h) (by first | (refine Or.inl ⟨by rfl, ?_⟩; intro W hW; go_simp; try with_reducible rfl) | exact Or.inr ⟨by rfl, rfl⟩) ?_; try simp only [Act.put, List.setIfInBounds_toArray, List.set_cons_zero, List.set_cons_succ])
    (refine takeE Ext.tr 23 (by simp only [List.getElem?_toArray, List.getElem?_cons_succ, List.getElem?_cons_zero]; rfl) (by kernel_rfl) (by kernel_rfl) (by kernel_rfl) (by exact fun _ _ _ h => h) (by first | (refine Or.inl ⟨by rfl, ?_⟩; intro W hW; go_simp; try with_reducible rfl) | exact Or.inr ⟨by rfl, rfl⟩) ?_; try simp only [Act.put, List.setIfInBounds_toArray, List.set_cons_zero, List.set_cons_succ])
    (refine takeE Ext.tr 24 (by simp only [List.getElem?_toArray, List.getElem?_cons_succ, List.getElem?_cons_zero]; rfl) (by kernel_rfl) (by kernel_rfl) (by kernel_rfl) (by exact fun _ _ _ h => h) (by first | (refine Or.inl ⟨by rfl, ?_⟩; intro W hW; go_simp; try with_reducible rfl) | exact Or.inr ⟨by rfl, rfl⟩) ?_; try simp only [Act.put, List.setIfInBounds_toArray, List.set_cons_zero, List.set_cons_succ])
    refine wpAnyE_done (by kernel_rfl) ?_ _
    skip
    all_goals
      have hb := HBD.out
      have c1 := (h.bk.below hb).cell 0 rfl
      clear h
      go_wp2
      go_ret
      exact ⟨by rw [HB.out]; rfl, hb⟩
  · have HB : Hid (m.hiB = false) := Lib.hid (by simp [AM.hiB, h1])
    obtain ⟨j, hkj⟩ : ∃ k : Nat, m.low.length = k + 1 := ⟨_ - 1, (Nat.succ_pred_eq_of_pos h2).symm⟩
    have HL : Hid (∀ w1, Below w.heap.size w w1 → Calls Try.prog 56 #[.pointer (some ⟨pl, 0, none⟩)] w1 fun e w' => e = .returned (.int .i64 (j + 1)) ∧ w1 = w') := Lib.hid fun w1 hb => by
      have := pt_len (h.below hb) false
      have e : (m.sel false).length = j + 1 := hkj
      rw [e] at this; exact this
    have HH : Hid (∀ w1, Below w.heap.size w w1 → Calls Try.prog 56 #[.pointer (some ⟨ph, 0, none⟩)] w1 fun e w' => e = .returned (.int .i64 0) ∧ w1 = w') := Lib.hid fun w1 hb => by
      have := pt_len (h.below hb) true
      have e : (m.sel true).length = 0 := h1
      rw [e] at this; exact this
    have hj0 : (((j : Int) + 1) == 0) = false := by rw [beq_eq_false_iff_ne]; omega
    go_enter Try.func50, Try.ntmps50
    go_wp2_with fail
    refine wp_region_E Ext (by kernel_rfl) (fun wd hbd hsz => ?_)
    have q0 : ∀ W, Ext wd W → W.cell? ⟨b, 0, none⟩ = some (.pointer (some ⟨pl, 0, none⟩)) := fun W hW => (h.bk.below (Ext.trans _ _ _ hbd hW)).cell 0 rfl
    have q1 : ∀ W, Ext wd W → W.cell? ⟨b, 1, none⟩ = some (.pointer (some ⟨ph, 0, none⟩)) := fun W hW => (h.bk.below (Ext.trans _ _ _ hbd hW)).cell 1 rfl
    have q2 : ∀ W, Ext wd W → W.cell? ⟨b, 2, none⟩ = some (.int .i64 m.wt) := fun W hW => (h.bk.below (Ext.trans _ _ _ hbd hW)).cell 2 rfl
    have q3 : ∀ W, Ext wd W → W.cell? ⟨b, 3, none⟩ = some (.int .i64 m.run) := fun W hW => (h.bk.below (Ext.trans _ _ _ hbd hW)).cell 3 rfl
    have HBD := Lib.hid hbd
    clear hsz
    (refine takeE Ext.tr 0 (by simp only [List.getElem?_toArray, List.getElem?_cons_succ, List.getElem?_cons_zero]; rfl) (by kernel_rfl) (by kernel_rfl) (by kernel_rfl) (by exact fun _ _ _ h => h) (by first | (refine Or.inl ⟨by rfl, ?_⟩; intro W hW; go_simp; try with_reducible rfl) | exact Or.inr ⟨by rfl, rfl⟩) ?_; try simp only [Act.put, List.setIfInBounds_toArray, List.set_cons_zero, List.set_cons_succ])
    (refine takeE Ext.tr 1 (by simp only [List.getElem?_toArray, List.getElem?_cons_succ, List.getElem?_cons_zero]; rfl) (by kernel_rfl) (by kernel_rfl) (by kernel_rfl) (by exact fun _ _ _ h => h) (by first | (refine Or.inl ⟨by rfl, ?_⟩; intro W hW; go_simp; try with_reducible rfl) | exact Or.inr ⟨by rfl, rfl⟩) ?_; try simp only [Act.put, List.setIfInBounds_toArray, List.set_cons_zero, List.set_cons_succ])
    (refine takeE Ext.tr 2 (by simp only [List.getElem?_toArray, List.getElem?_cons_succ, List.getElem?_cons_zero]; rfl) (by kernel_rfl) (by kernel_rfl) (by kernel_rfl) (by exact fun _ _ _ h => h) (by first | (refine Or.inl ⟨by rfl, ?_⟩; intro W hW; go_simp; try with_reducible rfl) | exact Or.inr ⟨by rfl, rfl⟩) ?_; try simp only [Act.put, List.setIfInBounds_toArray, List.set_cons_zero, List.set_cons_succ])
    (refine takeE Ext.tr 3 (by simp only [List.getElem?_toArray, List.getElem?_cons_succ, List.getElem?_cons_zero]; rfl) (by kernel_rfl) (by kernel_rfl) (by kernel_rfl) (by exact fun _ _ _ h => h) (by first | (refine Or.inl ⟨by rfl, ?_⟩; intro W hW; go_simp; try with_reducible rfl) | exact Or.inr ⟨by rfl, rfl⟩) ?_; try simp only [Act.put, List.setIfInBounds_toArray, List.set_cons_zero, List.set_cons_succ])
    refine wpAnyE_one (i := 4) (by kernel_rfl) (by simp only [List.getElem?_toArray, List.getElem?_cons_succ, List.getElem?_cons_zero]; rfl) (fun K hK => ?_)
    go_simp
    refine (HH.out _ HBD.out).mono ?_
    rintro e w1 ⟨rfl, rfl⟩
    refine hK.out _ _ (Ext.refl _) ?_
    clear hK K
    try simp only [Act.put, List.setIfInBounds_toArray, List.set_cons_zero, List.set_cons_succ]
    (refine takeE Ext.tr 5 (by simp only [List.getElem?_toArray, List.getElem?_cons_succ, List.getElem?_cons_zero]; rfl) (by kernel_rfl) (by kernel_rfl) (by kernel_rfl) (by exact fun _ _ _ h => h) (by first | (refine Or.inl ⟨by rfl, ?_⟩; intro W hW; go_simp; try with_reducible rfl) | exact Or.inr ⟨by rfl, rfl⟩) ?_; try simp only [Act.put, List.setIfInBounds_toArray, List.set_cons_zero, List.set_cons_succ])
    (refine takeE Ext.tr 6 (by simp only [List.getElem?_toArray, List.getElem?_cons_succ, List.getElem?_cons_zero]; rfl) (by kernel_rfl) (by kernel_rfl) (by kernel_rfl) (by exact fun _ _ _ h => h) (by first | (refine Or.inl ⟨by rfl, ?_⟩; intro W hW; go_simp; try with_reducible rfl) | exact Or.inr ⟨by rfl, rfl⟩) ?_; try simp only [Act.put, List.setIfInBounds_toArray, List.set_cons_zero, List.set_cons_succ])
    (refine takeE Ext.tr 7 (by simp only [List.getElem?_toArray, List.getElem?_cons_succ, List.getElem?_cons_zero]; rfl) (by kernel_rfl) (by kernel_rfl) (by kernel_rfl) (by exact fun _ _ _ h => h) (by first | (refine Or.inl ⟨by rfl, ?_⟩; intro W hW; go_simp; try with_reducible rfl) | exact Or.inr ⟨by rfl, rfl⟩) ?_; try simp only [Act.put, List.setIfInBounds_toArray, List.set_cons_zero, List.set_cons_succ])
    (refine takeE Ext.tr 8 (by simp only [List.getElem?_toArray, List.getElem?_cons_succ, List.getElem?_cons_zero]; rfl) (by kernel_rfl) (by kernel_rfl) (by kernel_rfl) (by exact fun _ _ _ h => h) (by first | (refine Or.inl ⟨by rfl, ?_⟩; intro W hW; go_simp; try with_reducible rfl) | exact Or.inr ⟨by rfl, rfl⟩) ?_; try simp only [Act.put, List.setIfInBounds_toArray, List.set_cons_zero, List.set_cons_succ])
    (refine takeE Ext.tr 9 (by simp only [List.getElem?_toArray, List.getElem?_cons_succ, List.getElem?_cons_zero]; rfl) (by kernel_rfl) (by kernel_rfl) (by kernel_rfl) (by exact fun _ _ _ h => h) (by first | (refine Or.inl ⟨by rfl, ?_⟩; intro W hW; go_simp; try with_reducible rfl) | exact Or.inr ⟨by rfl, rfl⟩) ?_; try simp only [Act.put, List.setIfInBounds_toArray, List.set_cons_zero, List.set_cons_succ])
    (refine takeE Ext.tr 10 (by simp only [List.getElem?_toArray, List.getElem?_cons_succ, List.getElem?_cons_zero]; rfl) (by kernel_rfl) (by kernel_rfl) (by kernel_rfl) (by exact fun _ _ _ h => h) (by first | (refine Or.inl ⟨by rfl, ?_⟩; intro W hW; go_simp; try with_reducible rfl) | exact Or.inr ⟨by rfl, rfl⟩) ?_; try simp only [Act.put, List.setIfInBounds_toArray, List.set_cons_zero, List.set_cons_succ])
    refine wpAnyE_one (i := 11) (by kernel_rfl) (by simp only [List.getElem?_toArray, List.getElem?_cons_succ, List.getElem?_cons_zero]; rfl) (fun K hK => ?_)
    go_simp
    refine hK.out _ _ (Ext.refl _) ?_
    clear hK K
    try simp only [Act.put, List.setIfInBounds_toArray, List.set_cons_zero, List.set_cons_succ]
    (refine takeE Ext.tr 12 (by simp only [List.getElem?_toArray, List.getElem?_cons_succ, List.getElem?_cons_zero]; rfl) (by kernel_rfl) (by kernel_rfl) (by kernel_rfl) (by exact fun _ _ _ h => h) (by first | (refine Or.inl ⟨by rfl, ?_⟩; intro W hW; go_simp; try with_reducible rfl) | exact Or.inr ⟨by rfl, rfl⟩) ?_; try simp only [Act.put, List.setIfInBounds_toArray, List.set_cons_zero, List.set_cons_succ])
    (refine takeE Ext.tr 13 (by simp only [List.getElem?_toArray, List.getElem?_cons_succ, List.getElem?_cons_zero]; rfl) (by kernel_rfl) (by kernel_rfl) (by kernel_rfl) (by exact fun _ _ _ h => h) (by first | (refine Or.inl ⟨by rfl, ?_⟩; intro W hW; go_simp; try with_reducible rfl) | exact Or.inr ⟨by rfl, rfl⟩) ?_; try simp only [Act.put, List.setIfInBounds_toArray, List.set_cons_zero, List.set_cons_succ])
    (refine takeE Ext.tr 14 (by simp only [List.getElem?_toArray, List.getElem?_cons_succ, List.getElem?_cons_zero]; rfl) (by kernel_rfl) (by kernel_rfl) (by kernel_rfl) (by exact fun _ _ _ h => h) (by first | (refine Or.inl ⟨by rfl, ?_⟩; intro W hW; go_simp; try with_reducible rfl) | exact Or.inr ⟨by rfl, rfl⟩) ?_; try simp only [Act.put, List.setIfInBounds_toArray, List.set_cons_zero, List.set_cons_succ])
    (refine takeE Ext.tr 18 (by simp only [List.getElem?_toArray, List.getElem?_cons_succ, List.getElem?_cons_zero]; rfl) (by kernel_rfl) (by kernel_rfl) (by kernel_rfl) (by exact fun _ _ _ h => h) (by first | (refine Or.inl ⟨by rfl, ?_⟩; intro W hW; go_simp; try with_reducible rfl) | exact Or.inr ⟨by rfl, rfl⟩) ?_; try simp only [Act.put, List.setIfInBounds_toArray, List.set_cons_zero, List.set_cons_succ])
    (refine takeE Ext.tr 15 (by simp only [List.getElem?_toArray, List.getElem?_cons_succ, List.getElem?_cons_zero]; rfl) (by kernel_rfl) (by kernel_rfl) (by kernel_rfl) (by exact fun _ _ _ h => h) (by first | (refine Or.inl ⟨by rfl, ?_⟩; intro W hW; go_simp; try with_reducible rfl) | exact Or.inr ⟨by rfl, rfl⟩) ?_; try simp only [Act.put, List.setIfInBounds_toArray, List.set_cons_zero, List.set_cons_succ])
    (refine takeE Ext.tr 19 (by simp only [List.getElem?_toArray, List.getElem?_cons_succ, List.getElem?_cons_zero]; rfl) (by kernel_rfl) (by kernel_rfl) (by kernel_rfl) (by exact fun _ _ _ h => h) (by first | (refine Or.inl ⟨by rfl, ?_⟩; intro W hW; go_simp; try with_reducible rfl) | exact Or.inr ⟨by rfl, rfl⟩) ?_; try simp only [Act.put, List.setIfInBounds_toArray, List.set_cons_zero, List.set_cons_succ])
    (refine takeE Ext.tr 16 (by simp only [List.getElem?_toArray, List.getElem?_cons_succ, List.getElem?_cons_zero]; rfl) (by kernel_rfl) (by kernel_rfl) (by kernel_rfl) (by exact fun _ _ _ h => h) (by first | (refine Or.inl ⟨by rfl, ?_⟩; intro W hW; go_simp; try with_reducible rfl) | exact Or.inr ⟨by rfl, rfl⟩) ?_; try simp only [Act.put, List.setIfInBounds_toArray, List.set_cons_zero, List.set_cons_succ])
    (refine takeE Ext.tr 20 (by simp only [List.getElem?_toArray, List.getElem?_cons_succ, List.getElem?_cons_zero]; rfl) (by kernel_rfl) (by kernel_rfl) (by kernel_rfl) (by exact fun _ _ _ h => h) (by first | (refine Or.inl ⟨by rfl, ?_⟩; intro W hW; go_simp; try with_reducible rfl) | exact Or.inr ⟨by rfl, rfl⟩) ?_; try simp only [Act.put, List.setIfInBounds_toArray, List.set_cons_zero, List.set_cons_succ])
    (refine takeE Ext.tr 17 (by simp only [List.getElem?_toArray, List.getElem?_cons_succ, List.getElem?_cons_zero]; rfl) (by kernel_rfl) (by kernel_rfl) (by kernel_rfl) (by exact fun _ _ _ h => h) (by first | (refine Or.inl ⟨by rfl, ?_⟩; intro W hW; go_simp; try with_reducible rfl) | exact Or.inr ⟨by rfl, rfl⟩) ?_; try simp only [Act.put, List.setIfInBounds_toArray, List.set_cons_zero, List.set_cons_succ])
    (refine takeE Ext.tr 21 (by simp only [List.getElem?_toArray, List.getElem?_cons_succ, List.getElem?_cons_zero]; rfl) (by kernel_rfl) (by kernel_rfl) (by kernel_rfl) (by exact fun _ _ _ h => h) (by first | (refine Or.inl ⟨by rfl, ?_⟩; intro W hW; go_simp; try with_reducible rfl) | exact Or.inr ⟨by rfl, rfl⟩) ?_; try simp only [Act.put, List.setIfInBounds_toArray, List.set_cons_zero, List.set_cons_succ])
    (refine takeE Ext.tr 22 (by simp only [List.getElem?_toArray, List.getElem?_cons_succ, List.getElem?_cons_zero]; rfl) (by kernel_rfl) (by kernel_rfl) (by kernel_rfl) (by exact fun _ _ _ h => h) (by first | (refine Or.inl ⟨by rfl, ?_⟩; intro W hW; go_simp; try with_reducible rfl) | exact Or.inr ⟨by rfl, rfl⟩) ?_; try simp only [Act.put, List.setIfInBounds_toArray, List.set_cons_zero, List.set_cons_succ])
    (refine takeE Ext.tr 23 (by simp only [List.getElem?_toArray, List.getElem?_cons_succ, List.getElem?_cons_zero]; rfl) (by kernel_rfl) (by kernel_rfl) (by kernel_rfl) (by exact fun _ _ _ h => h) (by first | (refine Or.inl ⟨by rfl, ?_⟩; intro W hW; go_simp; try with_reducible rfl) | exact Or.inr ⟨by rfl, rfl⟩) ?_; try simp only [Act.put, List.setIfInBounds_toArray, List.set_cons_zero, List.set_cons_succ])
    (refine takeE Ext.tr 24 (by simp only [List.getElem?_toArray, List.getElem?_cons_succ, List.getElem?_cons_zero]; rfl) (by kernel_rfl) (by kernel_rfl) (by kernel_rfl) (by exact fun _ _ _ h => h) (by first | (refine Or.inl ⟨by rfl, ?_⟩; intro W hW; go_simp; try with_reducible rfl) | exact Or.inr ⟨by rfl, rfl⟩) ?_; try simp only [Act.put, List.setIfInBounds_toArray, List.set_cons_zero, List.set_cons_succ])
    refine wpAnyE_done (by kernel_rfl) ?_ _
    skip
    all_goals
      have hb := HBD.out
      have c1 := (h.bk.below hb).cell 0 rfl
      clear h
      go_wp2
      go_ret
      exact ⟨by rw [HB.out]; rfl, hb⟩
  · have HB : Hid (m.hiB = true) := Lib.hid (by simp [AM.hiB, h1, h2])
    have HL : Hid (∀ w1, Below w.heap.size w w1 → Calls Try.prog 56 #[.pointer (some ⟨pl, 0, none⟩)] w1 fun e w' => e = .returned (.int .i64 0) ∧ w1 = w') := Lib.hid fun w1 hb => by
      have := pt_len (h.below hb) false
      have e : (m.sel false).length = 0 := h2
      rw [e] at this; exact this
    obtain ⟨k, hkk⟩ : ∃ k : Nat, m.high.length = k + 1 := ⟨_ - 1, (Nat.succ_pred_eq_of_pos h1).symm⟩
    have HH : Hid (∀ w1, Below w.heap.size w w1 → Calls Try.prog 56 #[.pointer (some ⟨ph, 0, none⟩)] w1 fun e w' => e = .returned (.int .i64 (k + 1)) ∧ w1 = w') := Lib.hid fun w1 hb => by
      have := pt_len (h.below hb) true
      have e : (m.sel true).length = k + 1 := hkk
      rw [e] at this; exact this
    have hk0 : decide ((0 : Int) < (k : Int) + 1) = true := by rw [decide_eq_true_eq]; omega
    go_enter Try.func50, Try.ntmps50
    go_wp2_with fail
    refine wp_region_E Ext (by kernel_rfl) (fun wd hbd hsz => ?_)
    have q0 : ∀ W, Ext wd W → W.cell? ⟨b, 0, none⟩ = some (.pointer (some ⟨pl, 0, none⟩)) := fun W hW => (h.bk.below (Ext.trans _ _ _ hbd hW)).cell 0 rfl
    have q1 : ∀ W, Ext wd W → W.cell? ⟨b, 1, none⟩ = some (.pointer (some ⟨ph, 0, none⟩)) := fun W hW => (h.bk.below (Ext.trans _ _ _ hbd hW)).cell 1 rfl
    have q2 : ∀ W, Ext wd W → W.cell? ⟨b, 2, none⟩ = some (.int .i64 m.wt) := fun W hW => (h.bk.below (Ext.trans _ _ _ hbd hW)).cell 2 rfl
    have q3 : ∀ W, Ext wd W → W.cell? ⟨b, 3, none⟩ = some (.int .i64 m.run) := fun W hW => (h.bk.below (Ext.trans _ _ _ hbd hW)).cell 3 rfl
    have HBD := Lib.hid hbd
    clear hsz
    (refine takeE Ext.tr 0 (by simp only [List.getElem?_toArray, List.getElem?_cons_succ, List.getElem?_cons_zero]; rfl) (by kernel_rfl) (by kernel_rfl) (by kernel_rfl) (by exact fun _ _ _ h => h) (by first | (refine Or.inl ⟨by rfl, ?_⟩; intro W hW; go_simp; try with_reducible rfl) | exact Or.inr ⟨by rfl, rfl⟩) ?_; try simp only [Act.put, List.setIfInBounds_toArray, List.set_cons_zero, List.set_cons_succ])
    (refine takeE Ext.tr 1 (by simp only [List.getElem?_toArray, List.getElem?_cons_succ, List.getElem?_cons_zero]; rfl) (by kernel_rfl) (by kernel_rfl) (by kernel_rfl) (by exact fun _ _ _ h => h) (by first | (refine Or.inl ⟨by rfl, ?_⟩; intro W hW; go_simp; try with_reducible rfl) | exact Or.inr ⟨by rfl, rfl⟩) ?_; try simp only [Act.put, List.setIfInBounds_toArray, List.set_cons_zero, List.set_cons_succ])
    (refine takeE Ext.tr 2 (by simp only [List.getElem?_toArray, List.getElem?_cons_succ, List.getElem?_cons_zero]; rfl) (by kernel_rfl) (by kernel_rfl) (by kernel_rfl) (by exact fun _ _ _ h => h) (by first | (refine Or.inl ⟨by rfl, ?_⟩; intro W hW; go_simp; try with_reducible rfl) | exact Or.inr ⟨by rfl, rfl⟩) ?_; try simp only [Act.put, List.setIfInBounds_toArray, List.set_cons_zero, List.set_cons_succ])
    (refine takeE Ext.tr 3 (by simp only [List.getElem?_toArray, List.getElem?_cons_succ, List.getElem?_cons_zero]; rfl) (by kernel_rfl) (by kernel_rfl) (by kernel_rfl) (by exact fun _ _ _ h => h) (by first | (refine Or.inl ⟨by rfl, ?_⟩; intro W hW; go_simp; try with_reducible rfl) | exact Or.inr ⟨by rfl, rfl⟩) ?_; try simp only [Act.put, List.setIfInBounds_toArray, List.set_cons_zero, List.set_cons_succ])
    refine wpAnyE_one (i := 4) (by kernel_rfl) (by simp only [List.getElem?_toArray, List.getElem?_cons_succ, List.getElem?_cons_zero]; rfl) (fun K hK => ?_)
    go_simp
    refine (HH.out _ HBD.out).mono ?_
    rintro e w1 ⟨rfl, rfl⟩
    refine hK.out _ _ (Ext.refl _) ?_
    clear hK K
    try simp only [Act.put, List.setIfInBounds_toArray, List.set_cons_zero, List.set_cons_succ]
    (refine takeE Ext.tr 5 (by simp only [List.getElem?_toArray, List.getElem?_cons_succ, List.getElem?_cons_zero]; rfl) (by kernel_rfl) (by kernel_rfl) (by kernel_rfl) (by exact fun _ _ _ h => h) (by first | (refine Or.inl ⟨by rfl, ?_⟩; intro W hW; go_simp; try with_reducible rfl) | exact Or.inr ⟨by rfl, rfl⟩) ?_; try simp only [Act.put, List.setIfInBounds_toArray, List.set_cons_zero, List.set_cons_succ])
    (refine takeE Ext.tr 6 (by simp only [List.getElem?_toArray, List.getElem?_cons_succ, List.getElem?_cons_zero]; rfl) (by kernel_rfl) (by kernel_rfl) (by kernel_rfl) (by exact fun _ _ _ h => h) (by first | (refine Or.inl ⟨by rfl, ?_⟩; intro W hW; go_simp; try with_reducible rfl) | exact Or.inr ⟨by rfl, rfl⟩) ?_; try simp only [Act.put, List.setIfInBounds_toArray, List.set_cons_zero, List.set_cons_succ])
    (refine takeE Ext.tr 7 (by simp only [List.getElem?_toArray, List.getElem?_cons_succ, List.getElem?_cons_zero]; rfl) (by kernel_rfl) (by kernel_rfl) (by kernel_rfl) (by exact fun _ _ _ h => h) (by first | (refine Or.inl ⟨by rfl, ?_⟩; intro W hW; go_simp; try with_reducible rfl) | exact Or.inr ⟨by rfl, rfl⟩) ?_; try simp only [Act.put, List.setIfInBounds_toArray, List.set_cons_zero, List.set_cons_succ])
    (refine takeE Ext.tr 8 (by simp only [List.getElem?_toArray, List.getElem?_cons_succ, List.getElem?_cons_zero]; rfl) (by kernel_rfl) (by kernel_rfl) (by kernel_rfl) (by exact fun _ _ _ h => h) (by first | (refine Or.inl ⟨by rfl, ?_⟩; intro W hW; go_simp; try with_reducible rfl) | exact Or.inr ⟨by rfl, rfl⟩) ?_; try simp only [Act.put, List.setIfInBounds_toArray, List.set_cons_zero, List.set_cons_succ])
    (refine takeE Ext.tr 9 (by simp only [List.getElem?_toArray, List.getElem?_cons_succ, List.getElem?_cons_zero]; rfl) (by kernel_rfl) (by kernel_rfl) (by kernel_rfl) (by exact fun _ _ _ h => h) (by first | (refine Or.inl ⟨by rfl, ?_⟩; intro W hW; go_simp; try with_reducible rfl) | exact Or.inr ⟨by rfl, rfl⟩) ?_; try simp only [Act.put, List.setIfInBounds_toArray, List.set_cons_zero, List.set_cons_succ])
    (refine takeE Ext.tr 10 (by simp only [List.getElem?_toArray, List.getElem?_cons_succ, List.getElem?_cons_zero]; rfl) (by kernel_rfl) (by kernel_rfl) (by kernel_rfl) (by exact fun _ _ _ h => h) (by first | (refine Or.inl ⟨by rfl, ?_⟩; intro W hW; go_simp; try with_reducible rfl) | exact Or.inr ⟨by rfl, rfl⟩) ?_; try simp only [Act.put, List.setIfInBounds_toArray, List.set_cons_zero, List.set_cons_succ])
    refine wpAnyE_one (i := 11) (by kernel_rfl) (by simp only [List.getElem?_toArray, List.getElem?_cons_succ, List.getElem?_cons_zero]; rfl) (fun K hK => ?_)
    go_simp
    refine (HL.out _ HBD.out).mono ?_
    rintro e w1 ⟨rfl, rfl⟩
    refine hK.out _ _ (Ext.refl _) ?_
    clear hK K
    try simp only [Act.put, List.setIfInBounds_toArray, List.set_cons_zero, List.set_cons_succ]
    (refine takeE Ext.tr 12 (by simp only [List.getElem?_toArray, List.getElem?_cons_succ, List.getElem?_cons_zero]; rfl) (by kernel_rfl) (by kernel_rfl) (by kernel_rfl) (by exact fun _ _ _ h => h) (by first | (refine Or.inl ⟨by rfl, ?_⟩; intro W hW; go_simp; try with_reducible rfl) | exact Or.inr ⟨by rfl, rfl⟩) ?_; try simp only [Act.put, List.setIfInBounds_toArray, List.set_cons_zero, List.set_cons_succ])
    (refine takeE Ext.tr 13 (by simp only [List.getElem?_toArray, List.getElem?_cons_succ, List.getElem?_cons_zero]; rfl) (by kernel_rfl) (by kernel_rfl) (by kernel_rfl) (by exact fun _ _ _ h => h) (by first | (refine Or.inl ⟨by rfl, ?_⟩; intro W hW; go_simp; try with_reducible rfl) | exact Or.inr ⟨by rfl, rfl⟩) ?_; try simp only [Act.put, List.setIfInBounds_toArray, List.set_cons_zero, List.set_cons_succ])
    (refine takeE Ext.tr 14 (by simp only [List.getElem?_toArray, List.getElem?_cons_succ, List.getElem?_cons_zero]; rfl) (by kernel_rfl) (by kernel_rfl) (by kernel_rfl) (by exact fun _ _ _ h => h) (by first | (refine Or.inl ⟨by rfl, ?_⟩; intro W hW; go_simp; try with_reducible rfl) | exact Or.inr ⟨by rfl, rfl⟩) ?_; try simp only [Act.put, List.setIfInBounds_toArray, List.set_cons_zero, List.set_cons_succ])
    (refine takeE Ext.tr 18 (by simp only [List.getElem?_toArray, List.getElem?_cons_succ, List.getElem?_cons_zero]; rfl) (by kernel_rfl) (by kernel_rfl) (by kernel_rfl) (by exact fun _ _ _ h => h) (by first | (refine Or.inl ⟨by rfl, ?_⟩; intro W hW; go_simp; try with_reducible rfl) | exact Or.inr ⟨by rfl, rfl⟩) ?_; try simp only [Act.put, List.setIfInBounds_toArray, List.set_cons_zero, List.set_cons_succ])
    (refine takeE Ext.tr 15 (by simp only [List.getElem?_toArray, List.getElem?_cons_succ, List.getElem?_cons_zero]; rfl) (by kernel_rfl) (by kernel_rfl) (by kernel_rfl) (by exact fun _ _ _ h => h) (by first | (refine Or.inl ⟨by rfl, ?_⟩; intro W hW; go_simp; try with_reducible rfl) | exact Or.inr ⟨by rfl, rfl⟩) ?_; try simp only [Act.put, List.setIfInBounds_toArray, List.set_cons_zero, List.set_cons_succ])
    (refine takeE Ext.tr 19 (by simp only [List.getElem?_toArray, List.getElem?_cons_succ, List.getElem?_cons_zero]; rfl) (by kernel_rfl) (by kernel_rfl) (by kernel_rfl) (by exact fun _ _ _ h => h) (by first | (refine Or.inl ⟨by rfl, ?_⟩; intro W hW; go_simp; try with_reducible rfl) | exact Or.inr ⟨by rfl, rfl⟩) ?_; try simp only [Act.put, List.setIfInBounds_toArray, List.set_cons_zero, List.set_cons_succ])
    (refine takeE Ext.tr 16 (by simp only [List.getElem?_toArray, List.getElem?_cons_succ, List.getElem?_cons_zero]; rfl) (by kernel_rfl) (by kernel_rfl) (by kernel_rfl) (by exact fun _ _ _ h => h) (by first | (refine Or.inl ⟨by rfl, ?_⟩; intro W hW; go_simp; try with_reducible rfl) | exact Or.inr ⟨by rfl, rfl⟩) ?_; try simp only [Act.put, List.setIfInBounds_toArray, List.set_cons_zero, List.set_cons_succ])
    (refine takeE Ext.tr 20 (by simp only [List.getElem?_toArray, List.getElem?_cons_succ, List.getElem?_cons_zero]; rfl) (by kernel_rfl) (by kernel_rfl) (by kernel_rfl) (by exact fun _ _ _ h => h) (by first | (refine Or.inl ⟨by rfl, ?_⟩; intro W hW; go_simp; try with_reducible rfl) | exact Or.inr ⟨by rfl, rfl⟩) ?_; try simp only [Act.put, List.setIfInBounds_toArray, List.set_cons_zero, List.set_cons_succ])
    (refine takeE Ext.tr 17 (by simp only [List.getElem?_toArray, List.getElem?_cons_succ, List.getElem?_cons_zero]; rfl) (by kernel_rfl) (by kernel_rfl) (by kernel_rfl) (by exact fun _ _ _ h => h) (by first | (refine Or.inl ⟨by rfl, ?_⟩; intro W hW; go_simp; try with_reducible rfl) | exact Or.inr ⟨by rfl, rfl⟩) ?_; try simp only [Act.put, List.setIfInBounds_toArray, List.set_cons_zero, List.set_cons_succ])
    (refine takeE Ext.tr 21 (by simp only [List.getElem?_toArray, List.getElem?_cons_succ, List.getElem?_cons_zero]; rfl) (by kernel_rfl) (by kernel_rfl) (by kernel_rfl) (by exact fun _ _ _ h => h) (by first | (refine Or.inl ⟨by rfl, ?_⟩; intro W hW; go_simp; try with_reducible rfl) | exact Or.inr ⟨by rfl, rfl⟩) ?_; try simp only [Act.put, List.setIfInBounds_toArray, List.set_cons_zero, List.set_cons_succ])
    (refine takeE Ext.tr 22 (by simp only [List.getElem?_toArray, List.getElem?_cons_succ, List.getElem?_cons_zero]; rfl) (by kernel_rfl) (by kernel_rfl) (by kernel_rfl) (by exact fun _ _ _ h => h) (by first | (refine Or.inl ⟨by rfl, ?_⟩; intro W hW; go_simp; try with_reducible rfl) | exact Or.inr ⟨by rfl, rfl⟩) ?_; try simp only [Act.put, List.setIfInBounds_toArray, List.set_cons_zero, List.set_cons_succ])
    (refine takeE Ext.tr 23 (by simp only [List.getElem?_toArray, List.getElem?_cons_succ, List.getElem?_cons_zero]; rfl) (by kernel_rfl) (by kernel_rfl) (by kernel_rfl) (by exact fun _ _ _ h => h) (by first | (refine Or.inl ⟨by rfl, ?_⟩; intro W hW; go_simp; try with_reducible rfl) | exact Or.inr ⟨by rfl, rfl⟩) ?_; try simp only [Act.put, List.setIfInBounds_toArray, List.set_cons_zero, List.set_cons_succ])
    (refine takeE Ext.tr 24 (by simp only [List.getElem?_toArray, List.getElem?_cons_succ, List.getElem?_cons_zero]; rfl) (by kernel_rfl) (by kernel_rfl) (by kernel_rfl) (by exact fun _ _ _ h => h) (by first | (refine Or.inl ⟨by rfl, ?_⟩; intro W hW; go_simp; try with_reducible rfl) | exact Or.inr ⟨by rfl, rfl⟩) ?_; try simp only [Act.put, List.setIfInBounds_toArray, List.set_cons_zero, List.set_cons_succ])
    refine wpAnyE_done (by kernel_rfl) ?_ _
    skip
    all_goals
      have hb := HBD.out
      have c1 := (h.bk.below hb).cell 1 rfl
      clear h
      go_wp2
      go_ret
      exact ⟨by rw [HB.out]; rfl, hb⟩
  · have HB : Hid (m.hiB = true) := Lib.hid (by simp [AM.hiB, h1, h3])
    obtain ⟨j, hkj⟩ : ∃ k : Nat, m.low.length = k + 1 := ⟨_ - 1, (Nat.succ_pred_eq_of_pos h2).symm⟩
    have HL : Hid (∀ w1, Below w.heap.size w w1 → Calls Try.prog 56 #[.pointer (some ⟨pl, 0, none⟩)] w1 fun e w' => e = .returned (.int .i64 (j + 1)) ∧ w1 = w') := Lib.hid fun w1 hb => by
      have := pt_len (h.below hb) false
      have e : (m.sel false).length = j + 1 := hkj
      rw [e] at this; exact this
    obtain ⟨k, hkk⟩ : ∃ k : Nat, m.high.length = k + 1 := ⟨_ - 1, (Nat.succ_pred_eq_of_pos h1).symm⟩
    have HH : Hid (∀ w1, Below w.heap.size w w1 → Calls Try.prog 56 #[.pointer (some ⟨ph, 0, none⟩)] w1 fun e w' => e = .returned (.int .i64 (k + 1)) ∧ w1 = w') := Lib.hid fun w1 hb => by
      have := pt_len (h.below hb) true
      have e : (m.sel true).length = k + 1 := hkk
      rw [e] at this; exact this
    have hk0 : decide ((0 : Int) < (k : Int) + 1) = true := by rw [decide_eq_true_eq]; omega
    have hj0 : (((j : Int) + 1) == 0) = false := by rw [beq_eq_false_iff_ne]; omega
    go_enter Try.func50, Try.ntmps50
    go_wp2_with fail
    refine wp_region_E Ext (by kernel_rfl) (fun wd hbd hsz => ?_)
    have q0 : ∀ W, Ext wd W → W.cell? ⟨b, 0, none⟩ = some (.pointer (some ⟨pl, 0, none⟩)) := fun W hW => (h.bk.below (Ext.trans _ _ _ hbd hW)).cell 0 rfl
    have q1 : ∀ W, Ext wd W → W.cell? ⟨b, 1, none⟩ = some (.pointer (some ⟨ph, 0, none⟩)) := fun W hW => (h.bk.below (Ext.trans _ _ _ hbd hW)).cell 1 rfl
    have q2 : ∀ W, Ext wd W → W.cell? ⟨b, 2, none⟩ = some (.int .i64 m.wt) := fun W hW => (h.bk.below (Ext.trans _ _ _ hbd hW)).cell 2 rfl
    have q3 : ∀ W, Ext wd W → W.cell? ⟨b, 3, none⟩ = some (.int .i64 m.run) := fun W hW => (h.bk.below (Ext.trans _ _ _ hbd hW)).cell 3 rfl
    have HBD := Lib.hid hbd
    clear hsz
    (refine takeE Ext.tr 0 (by simp only [List.getElem?_toArray, List.getElem?_cons_succ, List.getElem?_cons_zero]; rfl) (by kernel_rfl) (by kernel_rfl) (by kernel_rfl) (by exact fun _ _ _ h => h) (by first | (refine Or.inl ⟨by rfl, ?_⟩; intro W hW; go_simp; try with_reducible rfl) | exact Or.inr ⟨by rfl, rfl⟩) ?_; try simp only [Act.put, List.setIfInBounds_toArray, List.set_cons_zero, List.set_cons_succ])
    (refine takeE Ext.tr 1 (by simp only [List.getElem?_toArray, List.getElem?_cons_succ, List.getElem?_cons_zero]; rfl) (by kernel_rfl) (by kernel_rfl) (by kernel_rfl) (by exact fun _ _ _ h => h) (by first | (refine Or.inl ⟨by rfl, ?_⟩; intro W hW; go_simp; try with_reducible rfl) | exact Or.inr ⟨by rfl, rfl⟩) ?_; try simp only [Act.put, List.setIfInBounds_toArray, List.set_cons_zero, List.set_cons_succ])
    (refine takeE Ext.tr 2 (by simp only [List.getElem?_toArray, List.getElem?_cons_succ, List.getElem?_cons_zero]; rfl) (by kernel_rfl) (by kernel_rfl) (by kernel_rfl) (by exact fun _ _ _ h => h) (by first | (refine Or.inl ⟨by rfl, ?_⟩; intro W hW; go_simp; try with_reducible rfl) | exact Or.inr ⟨by rfl, rfl⟩) ?_; try simp only [Act.put, List.setIfInBounds_toArray, List.set_cons_zero, List.set_cons_succ])
    (refine takeE Ext.tr 3 (by simp only [List.getElem?_toArray, List.getElem?_cons_succ, List.getElem?_cons_zero]; rfl) (by kernel_rfl) (by kernel_rfl) (by kernel_rfl) (by exact fun _ _ _ h => h) (by first | (refine Or.inl ⟨by rfl, ?_⟩; intro W hW; go_simp; try with_reducible rfl) | exact Or.inr ⟨by rfl, rfl⟩) ?_; try simp only [Act.put, List.setIfInBounds_toArray, List.set_cons_zero, List.set_cons_succ])
    refine wpAnyE_one (i := 4) (by kernel_rfl) (by simp only [List.getElem?_toArray, List.getElem?_cons_succ, List.getElem?_cons_zero]; rfl) (fun K hK => ?_)
    go_simp
    refine (HH.out _ HBD.out).mono ?_
    rintro e w1 ⟨rfl, rfl⟩
    refine hK.out _ _ (Ext.refl _) ?_
    clear hK K
    try simp only [Act.put, List.setIfInBounds_toArray, List.set_cons_zero, List.set_cons_succ]
    (refine takeE Ext.tr 5 (by simp only [List.getElem?_toArray, List.getElem?_cons_succ, List.getElem?_cons_zero]; rfl) (by kernel_rfl) (by kernel_rfl) (by kernel_rfl) (by exact fun _ _ _ h => h) (by first | (refine Or.inl ⟨by rfl, ?_⟩; intro W hW; go_simp; try with_reducible rfl) | exact Or.inr ⟨by rfl, rfl⟩) ?_; try simp only [Act.put, List.setIfInBounds_toArray, List.set_cons_zero, List.set_cons_succ])
    (refine takeE Ext.tr 6 (by simp only [List.getElem?_toArray, List.getElem?_cons_succ, List.getElem?_cons_zero]; rfl) (by kernel_rfl) (by kernel_rfl) (by kernel_rfl) (by exact fun _ _ _ h => h) (by first | (refine Or.inl ⟨by rfl, ?_⟩; intro W hW; go_simp; try with_reducible rfl) | exact Or.inr ⟨by rfl, rfl⟩) ?_; try simp only [Act.put, List.setIfInBounds_toArray, List.set_cons_zero, List.set_cons_succ])
    (refine takeE Ext.tr 7 (by simp only [List.getElem?_toArray, List.getElem?_cons_succ, List.getElem?_cons_zero]; rfl) (by kernel_rfl) (by kernel_rfl) (by kernel_rfl) (by exact fun _ _ _ h => h) (by first | (refine Or.inl ⟨by rfl, ?_⟩; intro W hW; go_simp; try with_reducible rfl) | exact Or.inr ⟨by rfl, rfl⟩) ?_; try simp only [Act.put, List.setIfInBounds_toArray, List.set_cons_zero, List.set_cons_succ])
    (refine takeE Ext.tr 8 (by simp only [List.getElem?_toArray, List.getElem?_cons_succ, List.getElem?_cons_zero]; rfl) (by kernel_rfl) (by kernel_rfl) (by kernel_rfl) (by exact fun _ _ _ h => h) (by first | (refine Or.inl ⟨by rfl, ?_⟩; intro W hW; go_simp; try with_reducible rfl) | exact Or.inr ⟨by rfl, rfl⟩) ?_; try simp only [Act.put, List.setIfInBounds_toArray, List.set_cons_zero, List.set_cons_succ])
    (refine takeE Ext.tr 9 (by simp only [List.getElem?_toArray, List.getElem?_cons_succ, List.getElem?_cons_zero]; rfl) (by kernel_rfl) (by kernel_rfl) (by kernel_rfl) (by exact fun _ _ _ h => h) (by first | (refine Or.inl ⟨by rfl, ?_⟩; intro W hW; go_simp; try with_reducible rfl) | exact Or.inr ⟨by rfl, rfl⟩) ?_; try simp only [Act.put, List.setIfInBounds_toArray, List.set_cons_zero, List.set_cons_succ])
    (refine takeE Ext.tr 10 (by simp only [List.getElem?_toArray, List.getElem?_cons_succ, List.getElem?_cons_zero]; rfl) (by kernel_rfl) (by kernel_rfl) (by kernel_rfl) (by exact fun _ _ _ h => h) (by first | (refine Or.inl ⟨by rfl, ?_⟩; intro W hW; go_simp; try with_reducible rfl) | exact Or.inr ⟨by rfl, rfl⟩) ?_; try simp only [Act.put, List.setIfInBounds_toArray, List.set_cons_zero, List.set_cons_succ])
    refine wpAnyE_one (i := 11) (by kernel_rfl) (by simp only [List.getElem?_toArray, List.getElem?_cons_succ, List.getElem?_cons_zero]; rfl) (fun K hK => ?_)
    go_simp
    refine (HL.out _ HBD.out).mono ?_
    rintro e w1 ⟨rfl, rfl⟩
    refine hK.out _ _ (Ext.refl _) ?_
    clear hK K
    try simp only [Act.put, List.setIfInBounds_toArray, List.set_cons_zero, List.set_cons_succ]
    (refine takeE Ext.tr 12 (by simp only [List.getElem?_toArray, List.getElem?_cons_succ, List.getElem?_cons_zero]; rfl) (by kernel_rfl) (by kernel_rfl) (by kernel_rfl) (by exact fun _ _ _ h => h) (by first | (refine Or.inl ⟨by rfl, ?_⟩; intro W hW; go_simp; try with_reducible rfl) | exact Or.inr ⟨by rfl, rfl⟩) ?_; try simp only [Act.put, List.setIfInBounds_toArray, List.set_cons_zero, List.set_cons_succ])
    (refine takeE Ext.tr 13 (by simp only [List.getElem?_toArray, List.getElem?_cons_succ, List.getElem?_cons_zero]; rfl) (by kernel_rfl) (by kernel_rfl) (by kernel_rfl) (by exact fun _ _ _ h => h) (by first | (refine Or.inl ⟨by rfl, ?_⟩; intro W hW; go_simp; try with_reducible rfl) | exact Or.inr ⟨by rfl, rfl⟩) ?_; try simp only [Act.put, List.setIfInBounds_toArray, List.set_cons_zero, List.set_cons_succ])
    (refine takeE Ext.tr 14 (by simp only [List.getElem?_toArray, List.getElem?_cons_succ, List.getElem?_cons_zero]; rfl) (by kernel_rfl) (by kernel_rfl) (by kernel_rfl) (by exact fun _ _ _ h => h) (by first | (refine Or.inl ⟨by rfl, ?_⟩; intro W hW; go_simp; try with_reducible rfl) | exact Or.inr ⟨by rfl, rfl⟩) ?_; try simp only [Act.put, List.setIfInBounds_toArray, List.set_cons_zero, List.set_cons_succ])
    (refine takeE Ext.tr 18 (by simp only [List.getElem?_toArray, List.getElem?_cons_succ, List.getElem?_cons_zero]; rfl) (by kernel_rfl) (by kernel_rfl) (by kernel_rfl) (by exact fun _ _ _ h => h) (by first | (refine Or.inl ⟨by rfl, ?_⟩; intro W hW; go_simp; try with_reducible rfl) | exact Or.inr ⟨by rfl, rfl⟩) ?_; try simp only [Act.put, List.setIfInBounds_toArray, List.set_cons_zero, List.set_cons_succ])
    (refine takeE Ext.tr 15 (by simp only [List.getElem?_toArray, List.getElem?_cons_succ, List.getElem?_cons_zero]; rfl) (by kernel_rfl) (by kernel_rfl) (by kernel_rfl) (by exact fun _ _ _ h => h) (by first | (refine Or.inl ⟨by rfl, ?_⟩; intro W hW; go_simp; try with_reducible rfl) | exact Or.inr ⟨by rfl, rfl⟩) ?_; try simp only [Act.put, List.setIfInBounds_toArray, List.set_cons_zero, List.set_cons_succ])
    (refine takeE Ext.tr 19 (by simp only [List.getElem?_toArray, List.getElem?_cons_succ, List.getElem?_cons_zero]; rfl) (by kernel_rfl) (by kernel_rfl) (by kernel_rfl) (by exact fun _ _ _ h => h) (by first | (refine Or.inl ⟨by rfl, ?_⟩; intro W hW; go_simp; try with_reducible rfl) | exact Or.inr ⟨by rfl, rfl⟩) ?_; try simp only [Act.put, List.setIfInBounds_toArray, List.set_cons_zero, List.set_cons_succ])
    (refine takeE Ext.tr 16 (by simp only [List.getElem?_toArray, List.getElem?_cons_succ, List.getElem?_cons_zero]; rfl) (by kernel_rfl) (by kernel_rfl) (by kernel_rfl) (by exact fun _ _ _ h => h) (by first | (refine Or.inl ⟨by rfl, ?_⟩; intro W hW; go_simp; try with_reducible rfl) | exact Or.inr ⟨by rfl, rfl⟩) ?_; try simp only [Act.put, List.setIfInBounds_toArray, List.set_cons_zero, List.set_cons_succ])
    (refine takeE Ext.tr 20 (by simp only [List.getElem?_toArray, List.getElem?_cons_succ, List.getElem?_cons_zero]; rfl) (by kernel_rfl) (by kernel_rfl) (by kernel_rfl) (by exact fun _ _ _ h => h) (by first | (refine Or.inl ⟨by rfl, ?_⟩; intro W hW; go_simp; try with_reducible rfl) | exact Or.inr ⟨by rfl, rfl⟩) ?_; try simp only [Act.put, List.setIfInBounds_toArray, List.set_cons_zero, List.set_cons_succ])
    (refine takeE Ext.tr 17 (by simp only [List.getElem?_toArray, List.getElem?_cons_succ, List.getElem?_cons_zero]; rfl) (by kernel_rfl) (by kernel_rfl) (by kernel_rfl) (by exact fun _ _ _ h => h) (by first | (refine Or.inl ⟨by rfl, ?_⟩; intro W hW; go_simp; try with_reducible rfl) | exact Or.inr ⟨by rfl, rfl⟩) ?_; try simp only [Act.put, List.setIfInBounds_toArray, List.set_cons_zero, List.set_cons_succ])
    (refine takeE Ext.tr 21 (by simp only [List.getElem?_toArray, List.getElem?_cons_succ, List.getElem?_cons_zero]; rfl) (by kernel_rfl) (by kernel_rfl) (by kernel_rfl) (by exact fun _ _ _ h => h) (by first | (refine Or.inl ⟨by rfl, ?_⟩; intro W hW; go_simp; try with_reducible rfl) | exact Or.inr ⟨by rfl, rfl⟩) ?_; try simp only [Act.put, List.setIfInBounds_toArray, List.set_cons_zero, List.set_cons_succ])
    (refine takeE Ext.tr 22 (by simp only [List.getElem?_toArray, List.getElem?_cons_succ, List.getElem?_cons_zero]; rfl) (by kernel_rfl) (by kernel_rfl) (by kernel_rfl) (by exact fun _ _ _ h => h) (by first | (refine Or.inl ⟨by rfl, ?_⟩; intro W hW; go_simp; try with_reducible rfl) | exact Or.inr ⟨by rfl, rfl⟩) ?_; try simp only [Act.put, List.setIfInBounds_toArray, List.set_cons_zero, List.set_cons_succ])
    (refine takeE Ext.tr 23 (by simp only [List.getElem?_toArray, List.getElem?_cons_succ, List.getElem?_cons_zero]; rfl) (by kernel_rfl) (by kernel_rfl) (by kernel_rfl) (by exact fun _ _ _ h => h) (by first | (refine Or.inl ⟨by rfl, ?_⟩; intro W hW; go_simp; try with_reducible rfl) | exact Or.inr ⟨by rfl, rfl⟩) ?_; try simp only [Act.put, List.setIfInBounds_toArray, List.set_cons_zero, List.set_cons_succ])
    (refine takeE Ext.tr 24 (by simp only [List.getElem?_toArray, List.getElem?_cons_succ, List.getElem?_cons_zero]; rfl) (by kernel_rfl) (by kernel_rfl) (by kernel_rfl) (by exact fun _ _ _ h => h) (by first | (refine Or.inl ⟨by rfl, ?_⟩; intro W hW; go_simp; try with_reducible rfl) | exact Or.inr ⟨by rfl, rfl⟩) ?_; try simp only [Act.put, List.setIfInBounds_toArray, List.set_cons_zero, List.set_cons_succ])
    refine wpAnyE_done (by kernel_rfl) ?_ _
    skip
    all_goals
      have hb := HBD.out
      have c1 := (h.bk.below hb).cell 1 rfl
      clear h
      go_wp2
      go_ret
      exact ⟨by rw [HB.out]; rfl, hb⟩
  · have HB : Hid (m.hiB = false) := Lib.hid (by simp [AM.hiB, h1, h3, Nat.ne_of_gt h2])
    obtain ⟨j, hkj⟩ : ∃ k : Nat, m.low.length = k + 1 := ⟨_ - 1, (Nat.succ_pred_eq_of_pos h2).symm⟩
    have HL : Hid (∀ w1, Below w.heap.size w w1 → Calls Try.prog 56 #[.pointer (some ⟨pl, 0, none⟩)] w1 fun e w' => e = .returned (.int .i64 (j + 1)) ∧ w1 = w') := Lib.hid fun w1 hb => by
      have := pt_len (h.below hb) false
      have e : (m.sel false).length = j + 1 := hkj
      rw [e] at this; exact this
    obtain ⟨k, hkk⟩ : ∃ k : Nat, m.high.length = k + 1 := ⟨_ - 1, (Nat.succ_pred_eq_of_pos h1).symm⟩
    have HH : Hid (∀ w1, Below w.heap.size w w1 → Calls Try.prog 56 #[.pointer (some ⟨ph, 0, none⟩)] w1 fun e w' => e = .returned (.int .i64 (k + 1)) ∧ w1 = w') := Lib.hid fun w1 hb => by
      have := pt_len (h.below hb) true
      have e : (m.sel true).length = k + 1 := hkk
      rw [e] at this; exact this
    have hk0 : decide ((0 : Int) < (k : Int) + 1) = true := by rw [decide_eq_true_eq]; omega
    have hj0 : (((j : Int) + 1) == 0) = false := by rw [beq_eq_false_iff_ne]; omega
    go_enter Try.func50, Try.ntmps50
    go_wp2_with fail
    refine wp_region_E Ext (by kernel_rfl) (fun wd hbd hsz => ?_)
    have q0 : ∀ W, Ext wd W → W.cell? ⟨b, 0, none⟩ = some (.pointer (some ⟨pl, 0, none⟩)) := fun W hW => (h.bk.below (Ext.trans _ _ _ hbd hW)).cell 0 rfl
    have q1 : ∀ W, Ext wd W → W.cell? ⟨b, 1, none⟩ = some (.pointer (some ⟨ph, 0, none⟩)) := fun W hW => (h.bk.below (Ext.trans _ _ _ hbd hW)).cell 1 rfl
    have q2 : ∀ W, Ext wd W → W.cell? ⟨b, 2, none⟩ = some (.int .i64 m.wt) := fun W hW => (h.bk.below (Ext.trans _ _ _ hbd hW)).cell 2 rfl
    have q3 : ∀ W, Ext wd W → W.cell? ⟨b, 3, none⟩ = some (.int .i64 m.run) := fun W hW => (h.bk.below (Ext.trans _ _ _ hbd hW)).cell 3 rfl
    have HBD := Lib.hid hbd
    clear hsz
    (refine takeE Ext.tr 0 (by simp only [List.getElem?_toArray, List.getElem?_cons_succ, List.getElem?_cons_zero]; rfl) (by kernel_rfl) (by kernel_rfl) (by kernel_rfl) (by exact fun _ _ _ h => h) (by first | (refine Or.inl ⟨by rfl, ?_⟩; intro W hW; go_simp; try with_reducible rfl) | exact Or.inr ⟨by rfl, rfl⟩) ?_; try simp only [Act.put, List.setIfInBounds_toArray, List.set_cons_zero, List.set_cons_succ])
    (refine takeE Ext.tr 1 (by simp only [List.getElem?_toArray, List.getElem?_cons_succ, List.getElem?_cons_zero]; rfl) (by kernel_rfl) (by kernel_rfl) (by kernel_rfl) (by exact fun _ _ _ h => h) (by first | (refine Or.inl ⟨by rfl, ?_⟩; intro W hW; go_simp; try with_reducible rfl) | exact Or.inr ⟨by rfl, rfl⟩) ?_; try simp only [Act.put, List.setIfInBounds_toArray, List.set_cons_zero, List.set_cons_succ])
    (refine takeE Ext.tr 2 (by simp only [List.getElem?_toArray, List.getElem?_cons_succ, List.getElem?_cons_zero]; rfl) (by kernel_rfl) (by kernel_rfl) (by kernel_rfl) (by exact fun _ _ _ h => h) (by first | (refine Or.inl ⟨by rfl, ?_⟩; intro W hW; go_simp; try with_reducible rfl) | exact Or.inr ⟨by rfl, rfl⟩) ?_; try simp only [Act.put, List.setIfInBounds_toArray, List.set_cons_zero, List.set_cons_succ])
    (refine takeE Ext.tr 3 (by simp only [List.getElem?_toArray, List.getElem?_cons_succ, List.getElem?_cons_zero]; rfl) (by kernel_rfl) (by kernel_rfl) (by kernel_rfl) (by exact fun _ _ _ h => h) (by first | (refine Or.inl ⟨by rfl, ?_⟩; intro W hW; go_simp; try with_reducible rfl) | exact Or.inr ⟨by rfl, rfl⟩) ?_; try simp only [Act.put, List.setIfInBounds_toArray, List.set_cons_zero, List.set_cons_succ])
    refine wpAnyE_one (i := 4) (by kernel_rfl) (by simp only [List.getElem?_toArray, List.getElem?_cons_succ, List.getElem?_cons_zero]; rfl) (fun K hK => ?_)
    go_simp
    refine (HH.out _ HBD.out).mono ?_
    rintro e w1 ⟨rfl, rfl⟩
    refine hK.out _ _ (Ext.refl _) ?_
    clear hK K
    try simp only [Act.put, List.setIfInBounds_toArray, List.set_cons_zero, List.set_cons_succ]
    (refine takeE Ext.tr 5 (by simp only [List.getElem?_toArray, List.getElem?_cons_succ, List.getElem?_cons_zero]; rfl) (by kernel_rfl) (by kernel_rfl) (by kernel_rfl) (by exact fun _ _ _ h => h) (by first | (refine Or.inl ⟨by rfl, ?_⟩; intro W hW; go_simp; try with_reducible rfl) | exact Or.inr ⟨by rfl, rfl⟩) ?_; try simp only [Act.put, List.setIfInBounds_toArray, List.set_cons_zero, List.set_cons_succ])
    (refine takeE Ext.tr 6 (by simp only [List.getElem?_toArray, List.getElem?_cons_succ, List.getElem?_cons_zero]; rfl) (by kernel_rfl) (by kernel_rfl) (by kernel_rfl) (by exact fun _ _ _ h => h) (by first | (refine Or.inl ⟨by rfl, ?_⟩; intro W hW; go_simp; try with_reducible rfl) | exact Or.inr ⟨by rfl, rfl⟩) ?_; try simp only [Act.put, List.setIfInBounds_toArray, List.set_cons_zero, List.set_cons_succ])
    (refine takeE Ext.tr 7 (by simp only [List.getElem?_toArray, List.getElem?_cons_succ, List.getElem?_cons_zero]; rfl) (by kernel_rfl) (by kernel_rfl) (by kernel_rfl) (by exact fun _ _ _ h => h) (by first | (refine Or.inl ⟨by rfl, ?_⟩; intro W hW; go_simp; try with_reducible rfl) | exact Or.inr ⟨by rfl, rfl⟩) ?_; try simp only [Act.put, List.setIfInBounds_toArray, List.set_cons_zero, List.set_cons_succ])
    (refine takeE Ext.tr 8 (by simp only [List.getElem?_toArray, List.getElem?_cons_succ, List.getElem?_cons_zero]; rfl) (by kernel_rfl) (by kernel_rfl) (by kernel_rfl) (by exact fun _ _ _ h => h) (by first | (refine Or.inl ⟨by rfl, ?_⟩; intro W hW; go_simp; try with_reducible rfl) | exact Or.inr ⟨by rfl, rfl⟩) ?_; try simp only [Act.put, List.setIfInBounds_toArray, List.set_cons_zero, List.set_cons_succ])
    (refine takeE Ext.tr 9 (by simp only [List.getElem?_toArray, List.getElem?_cons_succ, List.getElem?_cons_zero]; rfl) (by kernel_rfl) (by kernel_rfl) (by kernel_rfl) (by exact fun _ _ _ h => h) (by first | (refine Or.inl ⟨by rfl, ?_⟩; intro W hW; go_simp; try with_reducible rfl) | exact Or.inr ⟨by rfl, rfl⟩) ?_; try simp only [Act.put, List.setIfInBounds_toArray, List.set_cons_zero, List.set_cons_succ])
    (refine takeE Ext.tr 10 (by simp only [List.getElem?_toArray, List.getElem?_cons_succ, List.getElem?_cons_zero]; rfl) (by kernel_rfl) (by kernel_rfl) (by kernel_rfl) (by exact fun _ _ _ h => h) (by first | (refine Or.inl ⟨by rfl, ?_⟩; intro W hW; go_simp; try with_reducible rfl) | exact Or.inr ⟨by rfl, rfl⟩) ?_; try simp only [Act.put, List.setIfInBounds_toArray, List.set_cons_zero, List.set_cons_succ])
    refine wpAnyE_one (i := 11) (by kernel_rfl) (by simp only [List.getElem?_toArray, List.getElem?_cons_succ, List.getElem?_cons_zero]; rfl) (fun K hK => ?_)
    go_simp
    refine (HL.out _ HBD.out).mono ?_
    rintro e w1 ⟨rfl, rfl⟩
    refine hK.out _ _ (Ext.refl _) ?_
    clear hK K
    try simp only [Act.put, List.setIfInBounds_toArray, List.set_cons_zero, List.set_cons_succ]
    (refine takeE Ext.tr 12 (by simp only [List.getElem?_toArray, List.getElem?_cons_succ, List.getElem?_cons_zero]; rfl) (by kernel_rfl) (by kernel_rfl) (by kernel_rfl) (by exact fun _ _ _ h => h) (by first | (refine Or.inl ⟨by rfl, ?_⟩; intro W hW; go_simp; try with_reducible rfl) | exact Or.inr ⟨by rfl, rfl⟩) ?_; try simp only [Act.put, List.setIfInBounds_toArray, List.set_cons_zero, List.set_cons_succ])
    (refine takeE Ext.tr 13 (by simp only [List.getElem?_toArray, List.getElem?_cons_succ, List.getElem?_cons_zero]; rfl) (by kernel_rfl) (by kernel_rfl) (by kernel_rfl) (by exact fun _ _ _ h => h) (by first | (refine Or.inl ⟨by rfl, ?_⟩; intro W hW; go_simp; try with_reducible rfl) | exact Or.inr ⟨by rfl, rfl⟩) ?_; try simp only [Act.put, List.setIfInBounds_toArray, List.set_cons_zero, List.set_cons_succ])
    (refine takeE Ext.tr 14 (by simp only [List.getElem?_toArray, List.getElem?_cons_succ, List.getElem?_cons_zero]; rfl) (by kernel_rfl) (by kernel_rfl) (by kernel_rfl) (by exact fun _ _ _ h => h) (by first | (refine Or.inl ⟨by rfl, ?_⟩; intro W hW; go_simp; try with_reducible rfl) | exact Or.inr ⟨by rfl, rfl⟩) ?_; try simp only [Act.put, List.setIfInBounds_toArray, List.set_cons_zero, List.set_cons_succ])
    (refine takeE Ext.tr 18 (by simp only [List.getElem?_toArray, List.getElem?_cons_succ, List.getElem?_cons_zero]; rfl) (by kernel_rfl) (by kernel_rfl) (by kernel_rfl) (by exact fun _ _ _ h => h) (by first | (refine Or.inl ⟨by rfl, ?_⟩; intro W hW; go_simp; try with_reducible rfl) | exact Or.inr ⟨by rfl, rfl⟩) ?_; try simp only [Act.put, List.setIfInBounds_toArray, List.set_cons_zero, List.set_cons_succ])
    (refine takeE Ext.tr 15 (by simp only [List.getElem?_toArray, List.getElem?_cons_succ, List.getElem?_cons_zero]; rfl) (by kernel_rfl) (by kernel_rfl) (by kernel_rfl) (by exact fun _ _ _ h => h) (by first | (refine Or.inl ⟨by rfl, ?_⟩; intro W hW; go_simp; try with_reducible rfl) | exact Or.inr ⟨by rfl, rfl⟩) ?_; try simp only [Act.put, List.setIfInBounds_toArray, List.set_cons_zero, List.set_cons_succ])
    (refine takeE Ext.tr 19 (by simp only [List.getElem?_toArray, List.getElem?_cons_succ, List.getElem?_cons_zero]; rfl) (by kernel_rfl) (by kernel_rfl) (by kernel_rfl) (by exact fun _ _ _ h => h) (by first | (refine Or.inl ⟨by rfl, ?_⟩; intro W hW; go_simp; try with_reducible rfl) | exact Or.inr ⟨by rfl, rfl⟩) ?_; try simp only [Act.put, List.setIfInBounds_toArray, List.set_cons_zero, List.set_cons_succ])
    (refine takeE Ext.tr 16 (by simp only [List.getElem?_toArray, List.getElem?_cons_succ, List.getElem?_cons_zero]; rfl) (by kernel_rfl) (by kernel_rfl) (by kernel_rfl) (by exact fun _ _ _ h => h) (by first | (refine Or.inl ⟨by rfl, ?_⟩; intro W hW; go_simp; try with_reducible rfl) | exact Or.inr ⟨by rfl, rfl⟩) ?_; try simp only [Act.put, List.setIfInBounds_toArray, List.set_cons_zero, List.set_cons_succ])
    (refine takeE Ext.tr 20 (by simp only [List.getElem?_toArray, List.getElem?_cons_succ, List.getElem?_cons_zero]; rfl) (by kernel_rfl) (by kernel_rfl) (by kernel_rfl) (by exact fun _ _ _ h => h) (by first | (refine Or.inl ⟨by rfl, ?_⟩; intro W hW; go_simp; try with_reducible rfl) | exact Or.inr ⟨by rfl, rfl⟩) ?_; try simp only [Act.put, List.setIfInBounds_toArray, List.set_cons_zero, List.set_cons_succ])
    (refine takeE Ext.tr 17 (by simp only [List.getElem?_toArray, List.getElem?_cons_succ, List.getElem?_cons_zero]; rfl) (by kernel_rfl) (by kernel_rfl) (by kernel_rfl) (by exact fun _ _ _ h => h) (by first | (refine Or.inl ⟨by rfl, ?_⟩; intro W hW; go_simp; try with_reducible rfl) | exact Or.inr ⟨by rfl, rfl⟩) ?_; try simp only [Act.put, List.setIfInBounds_toArray, List.set_cons_zero, List.set_cons_succ])
    (refine takeE Ext.tr 21 (by simp only [List.getElem?_toArray, List.getElem?_cons_succ, List.getElem?_cons_zero]; rfl) (by kernel_rfl) (by kernel_rfl) (by kernel_rfl) (by exact fun _ _ _ h => h) (by first | (refine Or.inl ⟨by rfl, ?_⟩; intro W hW; go_simp; try with_reducible rfl) | exact Or.inr ⟨by rfl, rfl⟩) ?_; try simp only [Act.put, List.setIfInBounds_toArray, List.set_cons_zero, List.set_cons_succ])
    (refine takeE Ext.tr 22 (by simp only [List.getElem?_toArray, List.getElem?_cons_succ, List.getElem?_cons_zero]; rfl) (by kernel_rfl) (by kernel_rfl) (by kernel_rfl) (by exact fun _ _ _ h => h) (by first | (refine Or.inl ⟨by rfl, ?_⟩; intro W hW; go_simp; try with_reducible rfl) | exact Or.inr ⟨by rfl, rfl⟩) ?_; try simp only [Act.put, List.setIfInBounds_toArray, List.set_cons_zero, List.set_cons_succ])
    (refine takeE Ext.tr 23 (by simp only [List.getElem?_toArray, List.getElem?_cons_succ, List.getElem?_cons_zero]; rfl) (by kernel_rfl) (by kernel_rfl) (by kernel_rfl) (by exact fun _ _ _ h => h) (by first | (refine Or.inl ⟨by rfl, ?_⟩; intro W hW; go_simp; try with_reducible rfl) | exact Or.inr ⟨by rfl, rfl⟩) ?_; try simp only [Act.put, List.setIfInBounds_toArray, List.set_cons_zero, List.set_cons_succ])
    (refine takeE Ext.tr 24 (by simp only [List.getElem?_toArray, List.getElem?_cons_succ, List.getElem?_cons_zero]; rfl) (by kernel_rfl) (by kernel_rfl) (by kernel_rfl) (by exact fun _ _ _ h => h) (by first | (refine Or.inl ⟨by rfl, ?_⟩; intro W hW; go_simp; try with_reducible rfl) | exact Or.inr ⟨by rfl, rfl⟩) ?_; try simp only [Act.put, List.setIfInBounds_toArray, List.set_cons_zero, List.set_cons_succ])
    refine wpAnyE_done (by kernel_rfl) ?_ _
    skip
    all_goals
      have hb := HBD.out
      have c1 := (h.bk.below hb).cell 0 rfl
      clear h
      go_wp2
      go_ret
      exact ⟨by rw [HB.out]; rfl, hb⟩
theorem eq_ring {W : World} {p q : Nat} {vp vq : List Value} (hp : Bk W 124 p vp) (hq : Bk W 124 q vq) :
    (binOp .eql 98 (.pointer (some ⟨p, 0, none⟩)) (.pointer (some ⟨q, 0, none⟩))).run Try.prog W = .ok (.bool (decide (p = q))) W := by
  have hi : (Try.prog.info? 124).map (·.size) = some 2 := by kernel_rfl
  obtain ⟨j, hj, hs⟩ := Option.map_eq_some_iff.1 hi
  by_cases h : p = q
  · subst h
    rw [decide_eq_true rfl]
    exact run_eql_ptr_same W _ rfl hj
  · rw [decide_eq_false h]
    exact run_eql_ptr_other W rfl hj (by rw [hs]; decide) (by intro e; injection e with e; exact h e) hp hq
theorem Qs.bk {F : Nat → Prop} {w : World} {p room : Nat} {qs : List Pv} (h : Qs F w p room qs) : ∃ vs, Bk w 124 p vs := by
  obtain ⟨h1, h2, h3, h4, A, n, c, hn, h5, h6, h7, h8⟩ := h
  exact ⟨_, h5⟩
set_option maxHeartbeats 2000000 in
/-- A packet of a queue was served: the run goes on, or ends. -/
theorem pt_countRun (h : PbC F X w b m pl ph Fl Fh ql qh) (hi : Bool) (hr : m.nrun hi ≤ m.wt) :
    Calls Try.prog 52 #[.pointer (some ⟨b, 0, none⟩), .pointer (some ⟨ptr pl ph hi, 0, none⟩)] w fun e w' => e = .returned (.tuple #[]) ∧ ∃ w1, Below w.heap.size w w1 ∧ w' = w1.setCell ⟨b, 3, none⟩ (.int .i64 (m.nrun hi)) := by
  have h2 := h.w2
  have hru := h.ru
  have hne := h.ne
  have c0 := h.bk.cell 0 rfl
  have c1 := h.bk.cell 1 rfl
  have c3 := h.bk.cell 3 rfl
  have f3 := h.bk.free 3
  have HL := Lib.hid (pt_len h false)
  cases hi
  · have hN : m.nrun false = 0 := by simp [AM.nrun]
    have hp : ptr pl ph false = pl := rfl
    rw [hN, hp]
    have he := eq_ring h.lo.bk.choose_spec h.hi.bk.choose_spec
    rw [decide_eq_false hne] at he
    clear hr hN h
    go_enter Try.func52, Try.ntmps52
    go_wp2
    go_end0
    exact ⟨rfl, w, Below.refl _ _, rfl⟩
  · have hp : ptr pl ph true = ph := rfl
    rw [hp]
    have he := eq_ring h.hi.bk.choose_spec h.hi.bk.choose_spec
    rw [decide_eq_true rfl] at he
    by_cases hl : 0 < m.low.length
    · have hN : m.nrun true = m.run + 1 := by simp [AM.nrun, hl]
      rw [hN] at hr ⊢
      obtain ⟨j, hj⟩ : ∃ j : Nat, m.low.length = j + 1 := ⟨_ - 1, (Nat.succ_pred_eq_of_pos hl).symm⟩
      have e : (m.sel false).length = j + 1 := hj
      rw [e] at HL
      clear hN h hl hj e
      go_enter Try.func52, Try.ntmps52
      go_wp2_with (go_at_call 56; refine HL.out.mono ?_; rintro e w' ⟨rfl, rfl⟩)
      go_end0
      exact ⟨rfl, w, Below.refl _ _, by go_num⟩
    · have hN : m.nrun true = 0 := by simp [AM.nrun, hl]
      rw [hN]
      have e : (m.sel false).length = 0 := by have : m.sel false = m.low := rfl; rw [this]; omega
      rw [e] at HL
      clear hN h hl e hr
      go_enter Try.func52, Try.ntmps52
      go_wp2_with (go_at_call 56; refine HL.out.mono ?_; rintro e w' ⟨rfl, rfl⟩)
      go_end0
      exact ⟨rfl, w, Below.refl _ _, rfl⟩
end
end Go.Proofs.Ytboclbanccfbjaa
namespace Go.Proofs.Ytboclbanccfbjaa
set_option linter.unusedSimpArgs false
set_option linter.unusedVariables false
set_option maxRecDepth 100000
open Go.RowKit Go.Shelf
/-- What becomes of a packet. -/
def AM.vd (m : AM) (x : Pk) : Nat :=
  if x.chk = false then 4 else if (m.sel (!x.heavy)).length < m.room (!x.heavy) then 1 else if m.high.length < m.hr then 2 else if x.retB = true then 3 else 4
section
variable {F X : Nat → Prop} {w w' : World} {b : Nat} {m : AM} {pl ph : Nat} {Fl Fh : Nat → Prop} {ql qh : List Pv}
theorem pt_pop (h : PbC F X w b m pl ph Fl Fh ql qh) (hi : Bool) (x : Pk) (r : List Pk) (hx : m.sel hi = x :: r) :
    Calls Try.prog 51 #[.pointer (some ⟨ptr pl ph hi, 0, none⟩)] w fun e w' => ∃ q F' Fl' Fh' ql' qh', e = .returned (.tuple #[.agg #[.int .i64 q.h.kd, .int .i64 q.h.fl, .int .i64 q.h.pa, .int .i64 q.h.sr, .int .i64 q.h.ds, .int .i64 q.h.cn, .int .i64 q.h.sq, .int .i64 q.h.pu, .slice q.A q.n q.c], .bool true]) ∧ q.pk = x ∧ PbC F' X w' b (m.put hi r) pl ph Fl' Fh' ql' qh' ∧ St F w w' ∧ Gr F F' w.heap.size ∧ PvR (fun k => F' k ∨ X k) w' q := by
  have hk := h.qk hi
  have hp := h.qp hi
  have hq := h.qs hi
  rw [hx] at hk
  generalize AM.qv ql qh hi = qs at *
  cases qs with
  | nil => cases hk
  | cons q qs =>
    rw [List.map_cons] at hk
    injection hk with hk1 hk2
    refine (q_pop q qs hq).mono ?_
    rintro e w' ⟨rfl, hd⟩
    obtain ⟨F', Fl', Fh', ql', qh', h1, h2, h3⟩ := h.did hi hd (fun r hr => hp r (List.mem_cons_of_mem _ hr))
    rw [hk2] at h1
    refine ⟨q, F', Fl', Fh', ql', qh', rfl, hk1, h1, h2, h3, ?_⟩
    exact (hp q List.mem_cons_self).st (h2.mono fun k _ hk => .inl hk) fun k hk => by
      rcases hk with hk | hk
      · exact (h3 k hk).imp .inl id
      · exact .inl (.inr hk)
theorem pt_pop_none (h : PbC F X w b m pl ph Fl Fh ql qh) (hi : Bool) (hx : m.sel hi = []) :
    Calls Try.prog 51 #[.pointer (some ⟨ptr pl ph hi, 0, none⟩)] w fun e w' => e = .returned (.tuple #[.agg #[.int .i64 0, .int .i64 0, .int .i64 0, .int .i64 0, .int .i64 0, .int .i64 0, .int .i64 0, .int .i64 0, .slice none 0 0], .bool false]) ∧ Below w.heap.size w w' := by
  have hk := h.qk hi
  have hq := h.qs hi
  rw [hx, List.map_eq_nil_iff] at hk
  rw [hk] at hq
  exact q_pop_none hq
theorem pt_push (h : PbC F X w b m pl ph Fl Fh ql qh) (hi : Bool) (q : Pv) (hq : PvR (fun k => F k ∨ X k) w q) (B : Option Addr) (d : Nat) (hB : RdR 9 w B 1 d q.cl) (hr : (m.sel hi).length + 1 ≤ m.room hi) :
    Calls Try.prog 53 #[.pointer (some ⟨ptr pl ph hi, 0, none⟩), .slice B 1 d] w fun e w' => e = .returned (.int .i64 0) ∧ ∃ F' Fl' Fh' ql' qh', PbC F' X w' b (m.put hi (m.sel hi ++ [q.pk])) pl ph Fl' Fh' ql' qh' ∧ St F w w' ∧ Gr F F' w.heap.size := by
  have hl : (AM.qv ql qh hi).length = (m.sel hi).length := by rw [← h.qk hi, List.length_map]
  refine (q_push [q] B 1 d (h.qs hi) rfl (by rw [flat_one]; exact hB) (by omega)).mono ?_
  rintro e w' ⟨rfl, hd⟩
  refine ⟨rfl, ?_⟩
  have := h.did hi hd (fun r hr => by
    rcases List.mem_append.1 hr with hr | hr
    · exact h.qp hi r hr
    · rw [List.mem_singleton.1 hr]; exact hq)
  rw [List.map_append, h.qk hi] at this
  exact this
theorem pt_queueOf (h : PbC F X w b m pl ph Fl Fh ql qh) {G : Nat → Prop} {q : Pv} (hq : PvR G w q) :
    Calls Try.prog 64 #[.pointer (some ⟨b, 0, none⟩), .agg #[.int .i64 q.h.kd, .int .i64 q.h.fl, .int .i64 q.h.pa, .int .i64 q.h.sr, .int .i64 q.h.ds, .int .i64 q.h.cn, .int .i64 q.h.sq, .int .i64 q.h.pu, .slice q.A q.n q.c]] w fun e w' => e = .returned (.pointer (some ⟨ptr pl ph (!q.pk.heavy), 0, none⟩)) ∧ Below w.heap.size w w' := by
  have HV := Lib.hid (fun o => p_heavy (hq.below ((Below.refl _ _).alloc (Nat.le_refl _) o)))
  have HH := Lib.hid h
  clear hq h
  generalize q.pk.heavy = hv at *
  cases hv
  all_goals
    go_enter Try.func64, Try.ntmps64
    go_wp2_with fail
    refine (HV.out _).mono ?_
    rintro e w1 ⟨rfl, hb1⟩
    obtain ⟨hx, hb⟩ := pk_new hb1
    have hp := HH.out.below hb
    have c0 := hp.bk.cell 0 rfl
    have c1 := hp.bk.cell 1 rfl
    clear HH HV hb1 hp hx
    go_wp2
    go_ret
    exact ⟨rfl, hb⟩
set_option maxHeartbeats 1000000 in
theorem pt_verdict (h : PbC F X w b m pl ph Fl Fh ql qh) {G : Nat → Prop} {q : Pv} (hq : PvR G w q) (hG : ∀ k, G k → k < w.heap.size) :
    Calls Try.prog 61 #[.pointer (some ⟨b, 0, none⟩), .agg #[.int .i64 q.h.kd, .int .i64 q.h.fl, .int .i64 q.h.pa, .int .i64 q.h.sr, .int .i64 q.h.ds, .int .i64 q.h.cn, .int .i64 q.h.sq, .int .i64 q.h.pu, .slice q.A q.n q.c]] w fun e w' => e = .returned (.int .i64 (m.vd q.pk)) ∧ Below w.heap.size w w' := by
  have HC := Lib.hid (fun o => p_check (hq.below ((Below.refl _ _).alloc (Nat.le_refl _) o)))
  have HH := Lib.hid h
  have HQ := Lib.hid hq
  have HG := Lib.hid hG
  have hs1 : (m.sel (!q.pk.heavy)).length ≤ m.room (!q.pk.heavy) := by have := (h.qs (!q.pk.heavy)).le; rw [← h.qk, List.length_map]; exact this
  have hs2 : m.high.length ≤ m.hr := by have := h.hi.le; rw [← h.hk, List.length_map]; exact this
  have HR : Hid (∀ w1, Below w.heap.size w w1 → Calls Try.prog 67 #[.pointer (some ⟨ptr pl ph (!q.pk.heavy), 0, none⟩)] w1 fun e w' => e = .returned (.int .i64 ((m.room (!q.pk.heavy) - (m.sel (!q.pk.heavy)).length : Nat))) ∧ Below w1.heap.size w1 w') := Lib.hid fun w1 hb => by
    have := pt_room (h.below hb) (!q.pk.heavy)
    rw [← Int.ofNat_sub hs1] at this; exact this
  have HR2 : Hid (∀ w1, Below w.heap.size w w1 → Calls Try.prog 67 #[.pointer (some ⟨ph, 0, none⟩)] w1 fun e w' => e = .returned (.int .i64 ((m.hr - m.high.length : Nat))) ∧ Below w1.heap.size w1 w') := Lib.hid fun w1 hb => by
    have := pt_room (h.below hb) true
    have e : (m.room true : Int) - (m.sel true).length = ((m.hr - m.high.length : Nat) : Int) := by rw [Int.ofNat_sub hs2]; rfl
    rw [e] at this; exact this
  have HV : Hid (m.vd q.pk = if q.pk.chk = false then 4 else if 0 < m.room (!q.pk.heavy) - (m.sel (!q.pk.heavy)).length then 1 else if 0 < m.hr - m.high.length then 2 else if q.pk.retB = true then 3 else 4) := Lib.hid (by
    unfold AM.vd
    simp only [Nat.sub_pos_iff_lt])
  clear hs1 hs2 h hq hG
  generalize hA : ptr pl ph (!q.pk.heavy) = pA at *
  generalize hr1 : m.room (!q.pk.heavy) - (m.sel (!q.pk.heavy)).length = r1 at *
  generalize hr2 : m.hr - m.high.length = r2 at *
  have HA := Lib.hid hA
  clear hA hr1 hr2
  cases hc : q.pk.chk with
  | false =>
    rw [hc] at HC
    go_enter Try.func61, Try.ntmps61
    go_wp2_with fail
    refine (HC.out _).mono ?_
    rintro e w1 ⟨rfl, hb1⟩
    obtain ⟨hx, hb⟩ := pk_new hb1
    rw [errV_f]
    go_wp2
    go_ret
    exact ⟨by rw [HV.out, hc]; rfl, hb⟩
  | true =>
    rw [hc] at HC
    rcases (by omega : 0 < r1 ∨ (r1 = 0 ∧ 0 < r2) ∨ (r1 = 0 ∧ r2 = 0)) with h1 | ⟨h1, h2⟩ | ⟨h1, h2⟩
    all_goals
      go_enter Try.func61, Try.ntmps61
      go_wp2_with fail
      refine (HC.out _).mono ?_
      rintro e w1 ⟨rfl, hb1⟩
      obtain ⟨hx, hb⟩ := pk_new hb1
      rw [errV_t]
      have HQO := Lib.hid (pt_queueOf (HH.out.below hb) (HQ.out.below hb))
      rw [HA.out] at HQO
      clear hb1
      go_wp2_with (first
        | (with_reducible refine at_load 65 (.tmp 3) (by rfl) ?_; refine wpList_load_pk rowP rfl (.tmp 3) rfl q w.heap.size 0 rfl (Bk.pk (q := q) hx) ?_)
        | (go_at_call 64; refine HQO.out.mono ?_; rintro e w2 ⟨rfl, hb2⟩; have hc2 := below_on hb hb2; clear HQO)
        | (go_at_call 67; refine (HR.out _ hc2).mono ?_; rintro e w3 ⟨rfl, hb3⟩; have hc3 := below_on hc2 hb3; have c1 := (HH.out.below hc3).bk.cell 1 rfl; have hx3 := (hx.below hb2).below hb3; clear HR hx)
        | (go_at_call 67; refine (HR2.out _ hc3).mono ?_; rintro e w4 ⟨rfl, hb4⟩; have hc4 := below_on hc3 hb4; have hx4 := hx3.below hb4; have HRt := Lib.hid (p_returned (HQ.out.below hc4) (fun k hk => Nat.lt_of_lt_of_le (HG.out k hk) hc4.size)); clear HR2 hx3)
        | (with_reducible refine at_load 65 (.tmp 3) (by rfl) ?_; refine wpList_load_pk rowP rfl (.tmp 3) rfl q w.heap.size 0 rfl (Bk.pk (q := q) hx4) ?_)
        | (go_at_call 62; refine HRt.out.mono ?_; rintro e w5 ⟨q5, rfl, hq5, hr5, hb5⟩; have hc5 := below_on hc4 hb5))
    all_goals
      go_ret
      exact ⟨by rw [HV.out]; simp [*], by first | assumption | exact hc5.alloc hc5.size _⟩
end
end Go.Proofs.Ytboclbanccfbjaa
namespace Go.Proofs.Ytboclbanccfbjaa
set_option linter.unusedSimpArgs false
set_option linter.unusedVariables false
open Go.RowKit
section
variable {P : Program} {ops : Array Oper} {Q : Exit → Act → World → Prop} {md : Region.Mode} {E : World → World → Prop} {late : List Nat}
/-- Whatever order is picked from here on; each operation that is not late leads from a world to one that E lets. -/
def wpAnyL (P : Program) (md : Region.Mode) (ops : Array Oper) (Q : Exit → Act → World → Prop) (E : World → World → Prop) (late : List Nat) : Nat → Array Bool → Act → World → Prop
  | 0, listed, a, w => Region.ready md ops listed = [] ∧ Q .normal a w
  | fuel + 1, listed, a, w =>
    (Region.ready md ops listed = [] → Q .normal a w) ∧
    ∀ i ∈ Region.ready md ops listed, wpOp P ops Q i (fun a' w' => (i ∈ late ∨ E w w') ∧ wpAnyL P md ops Q E late fuel (listed.setIfInBounds i true) a' w') a w
theorem wpAny_of_L : ∀ (fuel : Nat) (listed : Array Bool) (a : Act) (w : World), wpAnyL P md ops Q E late fuel listed a w → wpAny P md ops Q fuel listed a w
  | 0, _, _, _, h => h
  | fuel + 1, _, _, _, h => ⟨h.1, fun i hi => wpOp_mono (fun a' w' h' => wpAny_of_L fuel _ a' w' h'.2) (h.2 i hi)⟩
/-- Operation j comes behind operation i. -/
def reach (md : Region.Mode) (ops : Array Oper) : Nat → Nat → Nat → Bool
  | 0, _, _ => false
  | f + 1, j, i => match ops[j]? with
    | none => false
    | some o => o.after.any fun e => Region.binds md e && (e.on == i || reach md ops f e.on i)
/-- What is listed came behind what it waits for. -/
def Closed (md : Region.Mode) (ops : Array Oper) (listed : Array Bool) : Prop :=
  ∀ k o, ops[k]? = some o → listed.getD k false = true → ∀ e ∈ o.after, Region.binds md e = true → listed.getD e.on false = true
def closedB (md : Region.Mode) (ops : Array Oper) (listed : Array Bool) : Bool :=
  (List.range ops.size).all fun k => !(listed.getD k false) || match ops[k]? with
    | none => true
    | some o => o.after.all fun e => !(Region.binds md e) || listed.getD e.on false
theorem closedB_spec {listed : Array Bool} (h : closedB md ops listed = true) : Closed md ops listed := by
  intro k o ho hk e he hb
  have hlt := (Array.getElem?_eq_some_iff.1 ho).1
  have h1 := (List.all_eq_true.1 h) k (by simpa using hlt)
  rw [hk] at h1
  simp only [ho, Bool.not_true, Bool.false_or] at h1
  have h2 := (Array.all_eq_true_iff_forall_mem.1 h1) e he
  simpa [hb] using h2
theorem reach_listed {listed : Array Bool} (hc : Closed md ops listed) {i : Nat} : ∀ f j, reach md ops f j i = true → (∀ o, ops[j]? = some o → ∀ e ∈ o.after, Region.binds md e = true → listed.getD e.on false = true) → listed.getD i false = true
  | 0, _, h, _ => by cases h
  | f + 1, j, h, hd => by
    unfold reach at h
    split at h
    · cases h
    · rename_i o ho
      obtain ⟨e, he, h5⟩ := Array.any_eq_true'.1 h
      simp only [Bool.and_eq_true, Bool.or_eq_true, beq_iff_eq] at h5
      have hl := hd o ho e he h5.1
      rcases h5.2 with h6 | h6
      · rw [← h6]; exact hl
      · exact reach_listed hc f e.on h6 fun o' ho' => hc e.on o' ho' hl
theorem getD_set_true {listed : Array Bool} {j k : Nat} (h : listed.getD k false = true) : (listed.setIfInBounds j true).getD k false = true := by
  simp only [Array.getD_eq_getD_getElem?, Array.getElem?_setIfInBounds] at *
  split
  · rename_i hjk
    subst hjk
    split
    · rfl
    · rename_i hs
      rw [Array.getElem?_eq_none (by omega)] at h
      cases h
  · exact h
theorem Closed.set {listed : Array Bool} (hc : Closed md ops listed) {j : Nat} {oj : Oper} (hj : ops[j]? = some oj) (hd : ∀ e ∈ oj.after, Region.binds md e = true → listed.getD e.on false = true) : Closed md ops (listed.setIfInBounds j true) := by
  intro k o ho hk e he hb
  refine getD_set_true ?_
  by_cases hjk : j = k
  · subst hjk
    rw [hj] at ho
    injection ho with ho
    subst ho
    exact hd e he hb
  · rw [getD_set_ne false hjk] at hk
    exact hc k o ho hk e he hb
/-- Each late operation is listed, or comes behind operation i. -/
def waits (md : Region.Mode) (ops : Array Oper) (late : List Nat) (listed : Array Bool) (i : Nat) : Bool := late.all fun j => listed.getD j false || reach md ops ops.size j i
theorem waits_set {listed : Array Bool} {i : Nat} (h : waits md ops late listed i = true) (j : Nat) : waits md ops late (listed.setIfInBounds j true) i = true := by
  refine List.all_eq_true.2 fun k hk => ?_
  have h1 := (List.all_eq_true.1 h) k hk
  rw [Bool.or_eq_true] at h1 ⊢
  rcases h1 with h1 | h1
  · exact .inl (getD_set_true h1)
  · exact .inr h1
theorem wpAnyL_first (hrefl : ∀ w, E w w) (htr : ∀ a b c, E a b → E b c → E a c) {i : Nat} {oi : Oper} {v : Value} (hi : ops[i]? = some oi)
    (hsel : ∀ (j : Nat) (o : Oper) cs b, ops[j]? = some o → o.op ≠ .select cs b) (hQ : ∀ c a w, Q (.panic c) (a.put oi.dst v) w → Q (.panic c) a w) :
    ∀ (fuel : Nat) (listed : Array Bool) (a : Act) (w : World), waits md ops late listed i = true → Closed md ops listed →
      (∀ j oj, ops[j]? = some oj → j ≠ i → listed.getD j true = false → (∀ e ∈ oj.after, Region.binds md e = true → e.on ≠ i) → oi.apart ops oj = true) →
      i ∈ Region.ready md ops listed → YieldsIf P ops (E w) oi v a →
      wpAnyL P md ops Q E late fuel (listed.setIfInBounds i true) (a.put oi.dst v) w → wpAnyL P md ops Q E late (fuel + 1) listed a w := by
  intro fuel
  induction fuel with
  | zero =>
    intro listed a w _ _ _ hr hy H
    refine ⟨fun h => absurd hr (by rw [h]; simp), fun j hj => ?_⟩
    rcases Nat.decEq j i with hji | rfl
    · have h0 := ready_mono hj hji
      rw [H.1] at h0
      simp at h0
    · exact hy.wpOp hi (hrefl w) ⟨.inr (hrefl w), H⟩
  | succ fuel ih =>
    intro listed a w hw hcl hfree hr hy H
    refine ⟨fun h => absurd hr (by rw [h]; simp), fun j hj => ?_⟩
    rcases Nat.decEq j i with hji | rfl
    · have h1 := H.2 j (ready_mono hj hji)
      obtain ⟨hjun, oj, hoj, hall⟩ := mem_ready.1 hj
      have hun := (mem_ready.1 hr).1
      have hnot : ∀ e ∈ oj.after, Region.binds md e = true → e.on ≠ i := by
        intro e he hb heq
        have h3 := hall e he hb
        rw [heq] at h3
        rcases Nat.lt_or_ge i listed.size with h' | h'
        · simp [h'] at hun h3
          rw [hun] at h3
          cases h3
        · simp [Array.getElem?_eq_none h'] at h3
      have hdeps : ∀ e ∈ oj.after, Region.binds md e = true → listed.getD e.on false = true := fun e he hb => by
        simpa using hall e he hb
      have hearly : ¬ j ∈ late := fun hl => by
        have h3 : reach md ops ops.size j i = true := by
          have h3 := (List.all_eq_true.1 hw) j hl
          rw [Bool.or_eq_true] at h3
          rcases h3 with h3 | h3
          · exfalso
            rcases Nat.lt_or_ge j listed.size with h' | h'
            · simp [h'] at hjun h3
              rw [hjun] at h3
              cases h3
            · simp [Array.getElem?_eq_none h'] at h3
          · exact h3
        have h4 := reach_listed hcl _ _ h3 (fun o ho => by
          rw [hoj] at ho
          injection ho with ho
          subst ho
          exact hdeps)
        rcases Nat.lt_or_ge i listed.size with h' | h'
        · simp [h'] at hun h4
          rw [hun] at h4
          cases h4
        · simp [Array.getElem?_eq_none h'] at h4
      have h2 := wpOp_putIf (S := E w) hoj (hfree j oj hoj hji hjun hnot) (fun cs b => hsel i oi cs b hi) (fun cs b => hsel j oj cs b hoj) hQ hy h1
      refine wpOp_mono (fun a' w' h3 => ?_) h2
      have hE : E w w' := by
        rcases h3.2.1 with h | h
        · exact absurd h hearly
        · exact h
      refine ⟨h3.2.1, ih _ a' w' (waits_set hw j) (hcl.set hoj hdeps) ?_ (ready_mono hr (Ne.symm hji)) (yieldsIf_mono (fun W hW => htr _ _ _ hE hW) h3.1) ?_⟩
      · intro k ok hk hki hkun hno
        refine hfree k ok hk hki ?_ hno
        by_cases hjk : j = k
        · subst hjk
          exact hjun
        · rw [getD_set_ne true hjk] at hkun
          exact hkun
      · rw [Array.setIfInBounds_comm _ _ hji]
        exact h3.2.2
    · exact hy.wpOp hi (hrefl w) ⟨.inr (hrefl w), H⟩
/-- Operation number i is taken now: the side conditions are paid by reckoning. -/
theorem takeL (hE : Tr E) (i : Nat) {oi : Oper} {v : Value} {fuel : Nat} {listed : Array Bool} {a : Act} {w : World} (hi : ops[i]? = some oi)
    (hs : Region.noSelect ops = true) (hf : Region.free md ops listed i = true) (hr : (Region.ready md ops listed).contains i = true) (hw : (waits md ops late listed i && closedB md ops listed) = true)
    (hQ : ∀ c a w, Q (.panic c) (a.put oi.dst v) w → Q (.panic c) a w)
    (hy : (Region.wanted oi (yielded ops a.tmps) = true ∧ ∀ W, E w W → (execOp a.eval oi).run P W = .ok (.value v) W) ∨ (Region.wanted oi (yielded ops a.tmps) = false ∧ v = undef))
    (h : wpAnyL P md ops Q E late fuel (listed.setIfInBounds i true) (a.put oi.dst v) w) : wpAnyL P md ops Q E late (fuel + 1) listed a w :=
  wpAnyL_first hE.refl hE.trans hi (Region.noSelect_spec hs) hQ fuel listed a w (Bool.and_eq_true _ _ ▸ hw).1 (closedB_spec (Bool.and_eq_true _ _ ▸ hw).2) (Region.free_spec hi hf) (by simpa using hr) hy h
/-- Just one may come up. -/
theorem wpAnyL_one {i : Nat} {o : Oper} {fuel : Nat} {listed : Array Bool} {a : Act} {w : World} (hr : Region.ready md ops listed = [i]) (ho : ops[i]? = some o)
    (h : ∀ K' : Act → World → Prop, Shut (∀ a' w', (i ∈ late ∨ E w w') → wpAnyL P md ops Q E late fuel (listed.setIfInBounds i true) a' w' → K' a' w') →
      if Region.wanted o (yielded ops a.tmps) = true then Oper.wp P o a w K' Q else K' (a.put o.dst undef) w) : wpAnyL P md ops Q E late (fuel + 1) listed a w := by
  refine ⟨fun h0 => absurd (hr ▸ h0) (by simp), fun j hj => ?_⟩
  rw [hr] at hj
  obtain rfl : j = i := by simpa using hj
  exact wpOp_step ho (fun K' hK => h K' (fun a' w' hE hW => hK a' w' ⟨hE, hW⟩))
theorem wpAnyL_done {listed : Array Bool} {a : Act} {w : World} (hr : Region.ready md ops listed = []) (h : Q .normal a w) : ∀ fuel, wpAnyL P md ops Q E late fuel listed a w
  | 0 => ⟨hr, h⟩
  | _ + 1 => ⟨fun _ => h, by rw [hr]; simp⟩
/-- The beginning. -/
theorem wp_region_L (E : World → World → Prop) (late : List Nat) {id : Nat} {a : Act} {w : World} (hm : P.follows .mixedOrders = true)
    (h : ∀ wd : World, Below w.heap.size w wd → wd.heap.size = w.heap.size → wpAnyL P .any ops Q E late ops.size (Array.replicate ops.size false) a wd) : (Code.region id ops true).wp P Q a w :=
  wp_region_any hm (wpAny_of_L _ _ _ _ (h _ (Below.refl _ _).drew rfl))
end
end Go.Proofs.Ytboclbanccfbjaa
namespace Go.Proofs.Ytboclbanccfbjaa
set_option linter.unusedSimpArgs false
set_option linter.unusedVariables false
set_option maxRecDepth 100000
open Go.RowKit Go.Shelf
theorem Pk.trim_of_heavy {x : Pk} (hc : x.chk = true) (hh : x.heavy = true) : x.trimB = true := by
  unfold Pk.heavy at hh
  simp only [Bool.and_eq_true, beq_iff_eq, decide_eq_true_eq] at hh
  have hd := hc
  unfold Pk.chk chkB kdB at hd
  rw [if_pos (by simp [hh.1])] at hd
  simp only [Bool.and_eq_true] at hd
  obtain ⟨-, -, hd⟩ := hd
  unfold dtB at hd
  unfold Pk.trimB Pk.isd isdB
  rw [show chkB x.h x.xs.length = true from hc]
  cases h4 : hasB x.h.fl 4 <;> cases h8 : hasB x.h.fl 8 <;> simp_all <;> omega
theorem Pk.trim_light {x : Pk} (h : x.trimB = true) : x.trim.heavy = false := by
  unfold Pk.trim
  rw [if_pos h]
  simp [Pk.heavy]
def AM.out (m : AM) (x : Pk) : Pk := if m.vd x = 1 then x else if m.vd x = 2 then x.trim else if m.vd x = 3 then x.ret else Pk.zero
def AM.base (m : AM) (x : Pk) : AM := if m.vd x = 1 then m.put (!x.heavy) (m.sel (!x.heavy) ++ [x]) else if m.vd x = 2 then m.put true (m.high ++ [x.trim]) else m
def AM.nx (m : AM) (x : Pk) : AM := { m.base x with ct := up m.ct (m.vd x) (m.ct (m.vd x) + 1) }
theorem AM.vd_cases (m : AM) (x : Pk) : m.vd x = 1 ∨ m.vd x = 2 ∨ m.vd x = 3 ∨ m.vd x = 4 := by
  unfold AM.vd
  repeat' split
  all_goals simp
theorem AM.vd_one {m : AM} {x : Pk} (h : m.vd x = 1) : (m.sel (!x.heavy)).length < m.room (!x.heavy) := by
  unfold AM.vd at h
  split at h
  · omega
  · split at h
    · assumption
    · split at h
      · omega
      · split at h <;> omega
theorem AM.vd_two {m : AM} {x : Pk} (h : m.vd x = 2) : x.trimB = true ∧ m.high.length < m.hr := by
  unfold AM.vd at h
  split at h
  · omega
  · rename_i hc
    split at h
    · omega
    · rename_i hn
      split at h
      · rename_i hh
        refine ⟨Pk.trim_of_heavy (by simpa using hc) ?_, hh⟩
        cases hv : x.heavy with
        | true => rfl
        | false => rw [hv] at hn; exact absurd hh hn
      · split at h <;> omega
section
variable {F X : Nat → Prop} {w w' : World} {b : Nat} {m : AM} {pl ph : Nat} {Fl Fh : Nat → Prop} {ql qh : List Pv}
/-- What Put leaves. -/
def PutTo (F X : Nat → Prop) (w : World) (b : Nat) (m' : AM) (pl ph : Nat) (v : Nat) (x : Pk) (e : Ending) (w' : World) : Prop :=
  ∃ q', e = .returned (.tuple #[.int .i64 v, .agg #[.int .i64 q'.h.kd, .int .i64 q'.h.fl, .int .i64 q'.h.pa, .int .i64 q'.h.sr, .int .i64 q'.h.ds, .int .i64 q'.h.cn, .int .i64 q'.h.sq, .int .i64 q'.h.pu, .slice q'.A q'.n q'.c]]) ∧ q'.pk = x ∧ ∃ F' Fl' Fh' ql' qh', PbC F' X w' b m' pl ph Fl' Fh' ql' qh' ∧ St F w w' ∧ Gr F F' w.heap.size ∧ PvR (fun k => F' k ∨ X k) w' q'
theorem results_tmp_cell {P : Program} {w : World} {fn : Func} {s u : Tmp} {ty : TypeId} (h : fn.results = #[.tmp u, .cell s ty]) {tmps : Array Value} {a : Addr} (ha : tmps.getD s undef = .pointer (some a)) {v : Value} (hl : (loadVar ty a).run P w = .ok v w) :
    (results fn tmps).run P w = .ok (.tuple #[tmps.getD u undef, v]) w := by
  rw [Array.getD_eq_getD_getElem?] at ha
  simp [results, h, ha, asAddr_some, hl]
theorem PutTo.of {m' : AM} {v : Nat} {x : Pk} {w4 w5 : World} {F' Fl' Fh' : Nat → Prop} {ql' qh' : List Pv} {q' : Pv} {e : Ending}
    (hp : PbC F' (fun k => X k ∨ k = w.heap.size ∨ k = w.heap.size + 1) w4 b m' pl ph Fl' Fh' ql' qh') (hs : St F w w4) (hg : Gr F F' w.heap.size) (hF' : ¬ F' (w.heap.size + 1)) (hw : Wr (w.heap.size + 1) w4 w5)
    (hr : PvR (fun k => F' k ∨ X k ∨ k = w.heap.size ∨ k = w.heap.size + 1) w4 q') (hk : q'.pk = x) (he : e = .returned (.tuple #[.int .i64 v, .agg #[.int .i64 q'.h.kd, .int .i64 q'.h.fl, .int .i64 q'.h.pa, .int .i64 q'.h.sr, .int .i64 q'.h.ds, .int .i64 q'.h.cn, .int .i64 q'.h.sq, .int .i64 q'.h.pu, .slice q'.A q'.n q'.c]])) : PutTo F X w b m' pl ph v x e w5 := by
  have hs5 : St (· = w.heap.size + 1) w4 w5 := ⟨hw.os, hw.tape, hw.output, hw.size, fun k hk hn => hw.block k hk (by intro e; injection e with e; exact hn e)⟩
  refine ⟨q', he, hk, F', Fl', Fh', ql', qh', (hp.st hs5 (fun k hk e => hF' (e ▸ hk)) (fun k hk => .inl (.inr (.inr hk)))).less (fun k hk => .inl hk), ?_, hg, ?_⟩
  · exact ⟨hs5.os.trans hs.os, hs5.tape.trans hs.tape, hs5.output.trans hs.output, Nat.le_trans hs.size hs5.size, fun k hk hn => (hs5.block k (Nat.lt_of_lt_of_le hk hs.size) (by omega)).trans (hs.block k hk hn)⟩
  · exact (hr.wr hw fun hn ad he e => hr.2.2.2 hn ad he (.inr (.inr (.inr e)))).mono fun k hk => hk.imp id .inl
set_option maxHeartbeats 2000000 in
set_option maxRecDepth 100000 in
theorem pt_put4 (h : PbC F X w b m pl ph Fl Fh ql qh) {q : Pv} (hq : PvR F w q) (hct : ∀ k, -1 ≤ m.ct k ∧ m.ct k ≤ 1000000) (hv : m.vd q.pk = 4) :
    Calls Try.prog 45 #[.pointer (some ⟨b, 0, none⟩), .agg #[.int .i64 q.h.kd, .int .i64 q.h.fl, .int .i64 q.h.pa, .int .i64 q.h.sr, .int .i64 q.h.ds, .int .i64 q.h.cn, .int .i64 q.h.sq, .int .i64 q.h.pu, .slice q.A q.n q.c]] w (PutTo F X w b { m with ct := up m.ct 4 (m.ct 4 + 1) } pl ph 4 Pk.zero) := by
  have hF := h.bd
  have HF := Lib.hid hF
  have HX := Lib.hid h.xb
  have HM : Hid (∀ o o', Calls Try.prog 49 #[.pointer (some ⟨b, 0, none⟩)] ((w.alloc o).alloc o') fun e w' => e = .returned (.bool true) ∧ (w.alloc o).alloc o' = w') := Lib.hid fun o o' => pt_made (h.below (((Below.refl _ _).alloc (Nat.le_refl _) o).alloc (by simp) o'))
  have HV : Hid (∀ o o', Calls Try.prog 61 #[.pointer (some ⟨b, 0, none⟩), .agg #[.int .i64 q.h.kd, .int .i64 q.h.fl, .int .i64 q.h.pa, .int .i64 q.h.sr, .int .i64 q.h.ds, .int .i64 q.h.cn, .int .i64 q.h.sq, .int .i64 q.h.pu, .slice q.A q.n q.c]] ((w.alloc o).alloc o') fun e w' => e = .returned (.int .i64 4) ∧ Below ((w.alloc o).alloc o').heap.size ((w.alloc o).alloc o') w') := Lib.hid fun o o' => by
    have hb : Below w.heap.size w ((w.alloc o).alloc o') := ((Below.refl _ _).alloc (Nat.le_refl _) o).alloc (by simp) o'
    have := pt_verdict (h.below hb) (hq.below hb) (fun k hk => by have := HF.out k hk; simp; omega)
    rw [hv] at this; exact this
  have HH := Lib.hid h
  have HQ := Lib.hid hq
  have hcv := hct 4
  clear h hq hF hv
  go_enter Try.func45, Try.ntmps45
  go_wp2_with (first
    | (go_at_call 49; refine (HM.out _ _).mono ?_; rintro e w' ⟨rfl, rfl⟩)
    | (with_reducible refine at_load 65 (.tmp 3) (by rfl) ?_; refine wpList_load_pk rowP rfl (.tmp 3) rfl q w.heap.size 0 rfl (Bk.pk (q := q) ((Bk.new w 65 [.int .i64 q.h.kd, .int .i64 q.h.fl, .int .i64 q.h.pa, .int .i64 q.h.sr, .int .i64 q.h.ds, .int .i64 q.h.cn, .int .i64 q.h.sq, .int .i64 q.h.pu, .slice q.A q.n q.c]).alloc (.cells (List.toArray [.int .i64 0, .int .i64 0, .int .i64 0, .int .i64 0, .int .i64 0, .int .i64 0, .int .i64 0, .int .i64 0, .slice none 0 0]) 65))) ?_)
    | (go_at_call 61; refine (HV.out _ _).mono ?_; rintro e w1 ⟨rfl, hb1⟩))
  refine wp_region_L Ext [10] (by kernel_rfl) (fun wd hbd hsz => ?_)
  obtain ⟨hx0, hy0, hc0⟩ := pk_new2 hb1
  have hp0 := (HH.out.ext hc0 (X1 := fun k => X k ∨ k = w.heap.size ∨ k = w.heap.size + 1) (fun k hk => hk.imp id (by omega)) (fun k hk => by
    rcases hk with hk | hk
    · exact Nat.lt_of_lt_of_le (HX.out k hk) hc0.size
    · have := hx0.lt; have := hy0.lt; omega)).below hbd
  have hx1 := hx0.below hbd
  have hy1 := hy0.below hbd
  have hc1 := below_on hc0 hbd
  have hq1 := HQ.out.below hc1
  have hw : IntKind.i64.wrap (m.ct 4 + 1) = m.ct 4 + 1 := by rw [IntKind.wrap_i64]; omega
  have q0 : ∀ W, Ext wd W → W.cell? ⟨b, 8, none⟩ = some (.int .i64 (m.ct 4)) := fun W hW => (hp0.bk.below hW).cell 8 rfl
  have f0 := hp0.bk.free 8
  have c0 := hp0.bk.cell 8 rfl
  obtain ⟨hp2, hs2⟩ := hp0.cell 8 (.int .i64 (m.ct 4 + 1)) hp0.ru (ct := up m.ct 4 (m.ct 4 + 1)) rfl
  have hbw : b < w.heap.size := HH.out.bk.lt
  have hx2 := hx1.far (p := ⟨b, 8, none⟩) (show w.heap.size ≠ b by omega) (.int .i64 (m.ct 4 + 1))
  have hy2 := hy1.far (p := ⟨b, 8, none⟩) (show w.heap.size + 1 ≠ b by omega) (.int .i64 (m.ct 4 + 1))
  have hq2 := hq1.st hs2 (Gr.refl _ _)
  have hst2 := (St.ext (F := F) hc1).trans hs2 (Gr.refl _ _)
  have HP2 := Lib.hid hp2
  have HX2 := Lib.hid hx2
  have HY := Lib.hid hy2
  have HQ2 := Lib.hid hq2
  have HS2 := Lib.hid hst2
  clear hsz hb1 hx0 hy0 hc0 hp0 hx1 hy1 hc1 hq1 hp2 hs2 hx2 hy2 hq2 hst2 hbw hct
  (refine takeL Ext.tr 0 (by simp only [List.getElem?_toArray, List.getElem?_cons_succ, List.getElem?_cons_zero]; rfl) (by kernel_rfl) (by kernel_rfl) (by kernel_rfl) (by kernel_rfl) (by exact fun _ _ _ h => h) (by first | (refine Or.inl ⟨by rfl, ?_⟩; intro W hW; go_simp; try with_reducible rfl) | exact Or.inr ⟨by rfl, rfl⟩) ?_; try simp only [Act.put, List.setIfInBounds_toArray, List.set_cons_zero, List.set_cons_succ])
  (refine takeL Ext.tr 1 (by simp only [List.getElem?_toArray, List.getElem?_cons_succ, List.getElem?_cons_zero]; rfl) (by kernel_rfl) (by kernel_rfl) (by kernel_rfl) (by kernel_rfl) (by exact fun _ _ _ h => h) (by first | (refine Or.inl ⟨by rfl, ?_⟩; intro W hW; go_simp; try with_reducible rfl) | exact Or.inr ⟨by rfl, rfl⟩) ?_; try simp only [Act.put, List.setIfInBounds_toArray, List.set_cons_zero, List.set_cons_succ])
  (refine takeL Ext.tr 2 (by simp only [List.getElem?_toArray, List.getElem?_cons_succ, List.getElem?_cons_zero]; rfl) (by kernel_rfl) (by kernel_rfl) (by kernel_rfl) (by kernel_rfl) (by exact fun _ _ _ h => h) (by first | (refine Or.inl ⟨by rfl, ?_⟩; intro W hW; go_simp; try with_reducible rfl) | exact Or.inr ⟨by rfl, rfl⟩) ?_; try simp only [Act.put, List.setIfInBounds_toArray, List.set_cons_zero, List.set_cons_succ])
  (refine takeL Ext.tr 7 (by simp only [List.getElem?_toArray, List.getElem?_cons_succ, List.getElem?_cons_zero]; rfl) (by kernel_rfl) (by kernel_rfl) (by kernel_rfl) (by kernel_rfl) (by exact fun _ _ _ h => h) (by first | (refine Or.inl ⟨by rfl, ?_⟩; intro W hW; go_simp; try with_reducible rfl) | exact Or.inr ⟨by rfl, rfl⟩) ?_; try simp only [Act.put, List.setIfInBounds_toArray, List.set_cons_zero, List.set_cons_succ])
  (refine takeL Ext.tr 3 (by simp only [List.getElem?_toArray, List.getElem?_cons_succ, List.getElem?_cons_zero]; rfl) (by kernel_rfl) (by kernel_rfl) (by kernel_rfl) (by kernel_rfl) (by exact fun _ _ _ h => h) (by first | (refine Or.inl ⟨by rfl, ?_⟩; intro W hW; go_simp; try with_reducible rfl) | exact Or.inr ⟨by rfl, rfl⟩) ?_; try simp only [Act.put, List.setIfInBounds_toArray, List.set_cons_zero, List.set_cons_succ])
  (refine takeL Ext.tr 8 (by simp only [List.getElem?_toArray, List.getElem?_cons_succ, List.getElem?_cons_zero]; rfl) (by kernel_rfl) (by kernel_rfl) (by kernel_rfl) (by kernel_rfl) (by exact fun _ _ _ h => h) (by first | (refine Or.inl ⟨by rfl, ?_⟩; intro W hW; go_simp; try with_reducible rfl) | exact Or.inr ⟨by rfl, rfl⟩) ?_; try simp only [Act.put, List.setIfInBounds_toArray, List.set_cons_zero, List.set_cons_succ])
  (refine takeL Ext.tr 4 (by simp only [List.getElem?_toArray, List.getElem?_cons_succ, List.getElem?_cons_zero]; rfl) (by kernel_rfl) (by kernel_rfl) (by kernel_rfl) (by kernel_rfl) (by exact fun _ _ _ h => h) (by first | (refine Or.inl ⟨by rfl, ?_⟩; intro W hW; go_simp; try with_reducible rfl) | exact Or.inr ⟨by rfl, rfl⟩) ?_; try simp only [Act.put, List.setIfInBounds_toArray, List.set_cons_zero, List.set_cons_succ])
  (refine takeL Ext.tr 5 (by simp only [List.getElem?_toArray, List.getElem?_cons_succ, List.getElem?_cons_zero]; rfl) (by kernel_rfl) (by kernel_rfl) (by kernel_rfl) (by kernel_rfl) (by exact fun _ _ _ h => h) (by first | (refine Or.inl ⟨by rfl, ?_⟩; intro W hW; go_simp; try with_reducible rfl) | exact Or.inr ⟨by rfl, rfl⟩) ?_; try simp only [Act.put, List.setIfInBounds_toArray, List.set_cons_zero, List.set_cons_succ])
  (refine takeL Ext.tr 6 (by simp only [List.getElem?_toArray, List.getElem?_cons_succ, List.getElem?_cons_zero]; rfl) (by kernel_rfl) (by kernel_rfl) (by kernel_rfl) (by kernel_rfl) (by exact fun _ _ _ h => h) (by first | (refine Or.inl ⟨by rfl, ?_⟩; intro W hW; go_simp; try with_reducible rfl) | exact Or.inr ⟨by rfl, rfl⟩) ?_; try simp only [Act.put, List.setIfInBounds_toArray, List.set_cons_zero, List.set_cons_succ])
  (refine takeL Ext.tr 9 (by simp only [List.getElem?_toArray, List.getElem?_cons_succ, List.getElem?_cons_zero]; rfl) (by kernel_rfl) (by kernel_rfl) (by kernel_rfl) (by kernel_rfl) (by exact fun _ _ _ h => h) (by first | (refine Or.inl ⟨by rfl, ?_⟩; intro W hW; go_simp; try with_reducible rfl) | exact Or.inr ⟨by rfl, rfl⟩) ?_; try simp only [Act.put, List.setIfInBounds_toArray, List.set_cons_zero, List.set_cons_succ])
  refine wpAnyL_one (i := 10) (by kernel_rfl) (by simp only [List.getElem?_toArray, List.getElem?_cons_succ, List.getElem?_cons_zero]; rfl) (fun K hK => ?_)
  go_simp
  refine hK.out _ _ (.inl (by decide)) ?_
  clear hK K
  try simp only [Act.put, List.setIfInBounds_toArray, List.set_cons_zero, List.set_cons_succ]
  refine wpAnyL_done (by kernel_rfl) ?_ _
  skip
  go_wp2_with (with_reducible refine at_store 65 (.tmp 5) (.tmp 55) (by rfl) ?_; refine wpList_put_pk rowP rfl (.tmp 5) (.tmp 55) rfl (w.heap.size + 1) rfl HY.out rfl zPv rfl ?_; rintro w5 hz5 hw5)
  exact bodyPost_ret (results_tmp_cell rfl rfl (load_pk rowP hz5)) rfl (PutTo.of HP2.out HS2.out (Gr.refl _ _) (fun hf => by have := HF.out _ hf; omega) hw5 (PvR.zero _ _) rfl (by kernel_rfl))
set_option maxHeartbeats 2000000 in
set_option maxRecDepth 100000 in
theorem pt_put3 (h : PbC F X w b m pl ph Fl Fh ql qh) {q : Pv} (hq : PvR F w q) (hct : ∀ k, -1 ≤ m.ct k ∧ m.ct k ≤ 1000000) (hv : m.vd q.pk = 3) :
    Calls Try.prog 45 #[.pointer (some ⟨b, 0, none⟩), .agg #[.int .i64 q.h.kd, .int .i64 q.h.fl, .int .i64 q.h.pa, .int .i64 q.h.sr, .int .i64 q.h.ds, .int .i64 q.h.cn, .int .i64 q.h.sq, .int .i64 q.h.pu, .slice q.A q.n q.c]] w (PutTo F X w b { m with ct := up m.ct 3 (m.ct 3 + 1) } pl ph 3 q.pk.ret) := by
  have hF := h.bd
  have HF := Lib.hid hF
  have HX := Lib.hid h.xb
  have HM : Hid (∀ o o', Calls Try.prog 49 #[.pointer (some ⟨b, 0, none⟩)] ((w.alloc o).alloc o') fun e w' => e = .returned (.bool true) ∧ (w.alloc o).alloc o' = w') := Lib.hid fun o o' => pt_made (h.below (((Below.refl _ _).alloc (Nat.le_refl _) o).alloc (by simp) o'))
  have HV : Hid (∀ o o', Calls Try.prog 61 #[.pointer (some ⟨b, 0, none⟩), .agg #[.int .i64 q.h.kd, .int .i64 q.h.fl, .int .i64 q.h.pa, .int .i64 q.h.sr, .int .i64 q.h.ds, .int .i64 q.h.cn, .int .i64 q.h.sq, .int .i64 q.h.pu, .slice q.A q.n q.c]] ((w.alloc o).alloc o') fun e w' => e = .returned (.int .i64 3) ∧ Below ((w.alloc o).alloc o').heap.size ((w.alloc o).alloc o') w') := Lib.hid fun o o' => by
    have hb : Below w.heap.size w ((w.alloc o).alloc o') := ((Below.refl _ _).alloc (Nat.le_refl _) o).alloc (by simp) o'
    have := pt_verdict (h.below hb) (hq.below hb) (fun k hk => by have := HF.out k hk; simp; omega)
    rw [hv] at this; exact this
  have HH := Lib.hid h
  have HQ := Lib.hid hq
  have hcv := hct 3
  clear h hq hF hv
  go_enter Try.func45, Try.ntmps45
  go_wp2_with (first
    | (go_at_call 49; refine (HM.out _ _).mono ?_; rintro e w' ⟨rfl, rfl⟩)
    | (with_reducible refine at_load 65 (.tmp 3) (by rfl) ?_; refine wpList_load_pk rowP rfl (.tmp 3) rfl q w.heap.size 0 rfl (Bk.pk (q := q) ((Bk.new w 65 [.int .i64 q.h.kd, .int .i64 q.h.fl, .int .i64 q.h.pa, .int .i64 q.h.sr, .int .i64 q.h.ds, .int .i64 q.h.cn, .int .i64 q.h.sq, .int .i64 q.h.pu, .slice q.A q.n q.c]).alloc (.cells (List.toArray [.int .i64 0, .int .i64 0, .int .i64 0, .int .i64 0, .int .i64 0, .int .i64 0, .int .i64 0, .int .i64 0, .slice none 0 0]) 65))) ?_)
    | (go_at_call 61; refine (HV.out _ _).mono ?_; rintro e w1 ⟨rfl, hb1⟩))
  refine wp_region_L Ext [10] (by kernel_rfl) (fun wd hbd hsz => ?_)
  obtain ⟨hx0, hy0, hc0⟩ := pk_new2 hb1
  have hp0 := (HH.out.ext hc0 (X1 := fun k => X k ∨ k = w.heap.size ∨ k = w.heap.size + 1) (fun k hk => hk.imp id (by omega)) (fun k hk => by
    rcases hk with hk | hk
    · exact Nat.lt_of_lt_of_le (HX.out k hk) hc0.size
    · have := hx0.lt; have := hy0.lt; omega)).below hbd
  have hx1 := hx0.below hbd
  have hy1 := hy0.below hbd
  have hc1 := below_on hc0 hbd
  have hq1 := HQ.out.below hc1
  have hw : IntKind.i64.wrap (m.ct 3 + 1) = m.ct 3 + 1 := by rw [IntKind.wrap_i64]; omega
  have q0 : ∀ W, Ext wd W → W.cell? ⟨b, 7, none⟩ = some (.int .i64 (m.ct 3)) := fun W hW => (hp0.bk.below hW).cell 7 rfl
  have f0 := hp0.bk.free 7
  have c0 := hp0.bk.cell 7 rfl
  obtain ⟨hp2, hs2⟩ := hp0.cell 7 (.int .i64 (m.ct 3 + 1)) hp0.ru (ct := up m.ct 3 (m.ct 3 + 1)) rfl
  have hbw : b < w.heap.size := HH.out.bk.lt
  have hx2 := hx1.far (p := ⟨b, 7, none⟩) (show w.heap.size ≠ b by omega) (.int .i64 (m.ct 3 + 1))
  have hy2 := hy1.far (p := ⟨b, 7, none⟩) (show w.heap.size + 1 ≠ b by omega) (.int .i64 (m.ct 3 + 1))
  have hq2 := hq1.st hs2 (Gr.refl _ _)
  have hst2 := (St.ext (F := F) hc1).trans hs2 (Gr.refl _ _)
  have HP2 := Lib.hid hp2
  have HX2 := Lib.hid hx2
  have HY := Lib.hid hy2
  have HQ2 := Lib.hid hq2
  have HS2 := Lib.hid hst2
  clear hsz hb1 hx0 hy0 hc0 hp0 hx1 hy1 hc1 hq1 hp2 hs2 hx2 hy2 hq2 hst2 hbw hct
  (refine takeL Ext.tr 0 (by simp only [List.getElem?_toArray, List.getElem?_cons_succ, List.getElem?_cons_zero]; rfl) (by kernel_rfl) (by kernel_rfl) (by kernel_rfl) (by kernel_rfl) (by exact fun _ _ _ h => h) (by first | (refine Or.inl ⟨by rfl, ?_⟩; intro W hW; go_simp; try with_reducible rfl) | exact Or.inr ⟨by rfl, rfl⟩) ?_; try simp only [Act.put, List.setIfInBounds_toArray, List.set_cons_zero, List.set_cons_succ])
  (refine takeL Ext.tr 1 (by simp only [List.getElem?_toArray, List.getElem?_cons_succ, List.getElem?_cons_zero]; rfl) (by kernel_rfl) (by kernel_rfl) (by kernel_rfl) (by kernel_rfl) (by exact fun _ _ _ h => h) (by first | (refine Or.inl ⟨by rfl, ?_⟩; intro W hW; go_simp; try with_reducible rfl) | exact Or.inr ⟨by rfl, rfl⟩) ?_; try simp only [Act.put, List.setIfInBounds_toArray, List.set_cons_zero, List.set_cons_succ])
  (refine takeL Ext.tr 2 (by simp only [List.getElem?_toArray, List.getElem?_cons_succ, List.getElem?_cons_zero]; rfl) (by kernel_rfl) (by kernel_rfl) (by kernel_rfl) (by kernel_rfl) (by exact fun _ _ _ h => h) (by first | (refine Or.inl ⟨by rfl, ?_⟩; intro W hW; go_simp; try with_reducible rfl) | exact Or.inr ⟨by rfl, rfl⟩) ?_; try simp only [Act.put, List.setIfInBounds_toArray, List.set_cons_zero, List.set_cons_succ])
  (refine takeL Ext.tr 7 (by simp only [List.getElem?_toArray, List.getElem?_cons_succ, List.getElem?_cons_zero]; rfl) (by kernel_rfl) (by kernel_rfl) (by kernel_rfl) (by kernel_rfl) (by exact fun _ _ _ h => h) (by first | (refine Or.inl ⟨by rfl, ?_⟩; intro W hW; go_simp; try with_reducible rfl) | exact Or.inr ⟨by rfl, rfl⟩) ?_; try simp only [Act.put, List.setIfInBounds_toArray, List.set_cons_zero, List.set_cons_succ])
  (refine takeL Ext.tr 3 (by simp only [List.getElem?_toArray, List.getElem?_cons_succ, List.getElem?_cons_zero]; rfl) (by kernel_rfl) (by kernel_rfl) (by kernel_rfl) (by kernel_rfl) (by exact fun _ _ _ h => h) (by first | (refine Or.inl ⟨by rfl, ?_⟩; intro W hW; go_simp; try with_reducible rfl) | exact Or.inr ⟨by rfl, rfl⟩) ?_; try simp only [Act.put, List.setIfInBounds_toArray, List.set_cons_zero, List.set_cons_succ])
  (refine takeL Ext.tr 8 (by simp only [List.getElem?_toArray, List.getElem?_cons_succ, List.getElem?_cons_zero]; rfl) (by kernel_rfl) (by kernel_rfl) (by kernel_rfl) (by kernel_rfl) (by exact fun _ _ _ h => h) (by first | (refine Or.inl ⟨by rfl, ?_⟩; intro W hW; go_simp; try with_reducible rfl) | exact Or.inr ⟨by rfl, rfl⟩) ?_; try simp only [Act.put, List.setIfInBounds_toArray, List.set_cons_zero, List.set_cons_succ])
  (refine takeL Ext.tr 4 (by simp only [List.getElem?_toArray, List.getElem?_cons_succ, List.getElem?_cons_zero]; rfl) (by kernel_rfl) (by kernel_rfl) (by kernel_rfl) (by kernel_rfl) (by exact fun _ _ _ h => h) (by first | (refine Or.inl ⟨by rfl, ?_⟩; intro W hW; go_simp; try with_reducible rfl) | exact Or.inr ⟨by rfl, rfl⟩) ?_; try simp only [Act.put, List.setIfInBounds_toArray, List.set_cons_zero, List.set_cons_succ])
  (refine takeL Ext.tr 5 (by simp only [List.getElem?_toArray, List.getElem?_cons_succ, List.getElem?_cons_zero]; rfl) (by kernel_rfl) (by kernel_rfl) (by kernel_rfl) (by kernel_rfl) (by exact fun _ _ _ h => h) (by first | (refine Or.inl ⟨by rfl, ?_⟩; intro W hW; go_simp; try with_reducible rfl) | exact Or.inr ⟨by rfl, rfl⟩) ?_; try simp only [Act.put, List.setIfInBounds_toArray, List.set_cons_zero, List.set_cons_succ])
  (refine takeL Ext.tr 6 (by simp only [List.getElem?_toArray, List.getElem?_cons_succ, List.getElem?_cons_zero]; rfl) (by kernel_rfl) (by kernel_rfl) (by kernel_rfl) (by kernel_rfl) (by exact fun _ _ _ h => h) (by first | (refine Or.inl ⟨by rfl, ?_⟩; intro W hW; go_simp; try with_reducible rfl) | exact Or.inr ⟨by rfl, rfl⟩) ?_; try simp only [Act.put, List.setIfInBounds_toArray, List.set_cons_zero, List.set_cons_succ])
  (refine takeL Ext.tr 9 (by simp only [List.getElem?_toArray, List.getElem?_cons_succ, List.getElem?_cons_zero]; rfl) (by kernel_rfl) (by kernel_rfl) (by kernel_rfl) (by kernel_rfl) (by exact fun _ _ _ h => h) (by first | (refine Or.inl ⟨by rfl, ?_⟩; intro W hW; go_simp; try with_reducible rfl) | exact Or.inr ⟨by rfl, rfl⟩) ?_; try simp only [Act.put, List.setIfInBounds_toArray, List.set_cons_zero, List.set_cons_succ])
  refine wpAnyL_one (i := 10) (by kernel_rfl) (by simp only [List.getElem?_toArray, List.getElem?_cons_succ, List.getElem?_cons_zero]; rfl) (fun K hK => ?_)
  go_simp
  refine hK.out _ _ (.inl (by decide)) ?_
  clear hK K
  try simp only [Act.put, List.setIfInBounds_toArray, List.set_cons_zero, List.set_cons_succ]
  refine wpAnyL_done (by kernel_rfl) ?_ _
  skip
  have HB := Lib.hid HP2.out.bd
  have HXB := Lib.hid HP2.out.xb
  have HRt := Lib.hid (p_returned (F := fun k => F k ∨ X k ∨ k = w.heap.size ∨ k = w.heap.size + 1) HQ2.out (fun k hk => hk.elim (HB.out k) (HXB.out k)))
  go_wp2_with (first
    | (with_reducible refine at_load 65 (.tmp 3) (by rfl) ?_; refine wpList_load_pk rowP rfl (.tmp 3) rfl q w.heap.size 0 rfl (Bk.pk (q := q) HX2.out) ?_)
    | (go_at_call 62; refine HRt.out.mono ?_; rintro e w3 ⟨q', rfl, hq', hr', hb3⟩))
  have hz7 := Bk.new w3 65 [.int .i64 q'.h.kd, .int .i64 q'.h.fl, .int .i64 q'.h.pa, .int .i64 q'.h.sr, .int .i64 q'.h.ds, .int .i64 q'.h.cn, .int .i64 q'.h.sq, .int .i64 q'.h.pu, .slice q'.A q'.n q'.c]
  have hb4 := hb3.alloc hb3.size (.cells (List.toArray [.int .i64 q'.h.kd, .int .i64 q'.h.fl, .int .i64 q'.h.pa, .int .i64 q'.h.sr, .int .i64 q'.h.ds, .int .i64 q'.h.cn, .int .i64 q'.h.sq, .int .i64 q'.h.pu, .slice q'.A q'.n q'.c]) 65)
  have hy4 := HY.out.below hb4
  have hr4 := hr'.below ((Below.refl _ _).alloc (Nat.le_refl _) (.cells (List.toArray [.int .i64 q'.h.kd, .int .i64 q'.h.fl, .int .i64 q'.h.pa, .int .i64 q'.h.sr, .int .i64 q'.h.ds, .int .i64 q'.h.cn, .int .i64 q'.h.sq, .int .i64 q'.h.pu, .slice q'.A q'.n q'.c]) 65))
  refine wp_region_L Ext [3] (by kernel_rfl) (fun wd hbd hsz => ?_)
  have HY4 := Lib.hid (hy4.below hbd)
  have hz8 := hz7.below hbd
  have HZ7 := Lib.hid hz8
  have hb5 := hb4.trans (hbd.mono hb4.size)
  have HP4 := Lib.hid (HP2.out.below hb5)
  have HR4 := Lib.hid (hr4.below hbd)
  have HS4 := Lib.hid (HS2.out.trans (St.ext hb5) (Gr.refl _ _))
  clear hsz hz7 hb4 hy4 hr4 hz8 hb5
  (refine takeL Ext.tr 0 (by simp only [List.getElem?_toArray, List.getElem?_cons_succ, List.getElem?_cons_zero]; rfl) (by kernel_rfl) (by kernel_rfl) (by kernel_rfl) (by kernel_rfl) (by exact fun _ _ _ h => h) (by first | (refine Or.inl ⟨by rfl, ?_⟩; intro W hW; go_simp; try with_reducible rfl) | exact Or.inr ⟨by rfl, rfl⟩) ?_; try simp only [Act.put, List.setIfInBounds_toArray, List.set_cons_zero, List.set_cons_succ])
  (refine takeL Ext.tr 1 (by simp only [List.getElem?_toArray, List.getElem?_cons_succ, List.getElem?_cons_zero]; rfl) (by kernel_rfl) (by kernel_rfl) (by kernel_rfl) (by kernel_rfl) (by exact fun _ _ _ h => h) (by first | (refine Or.inl ⟨by rfl, ?_⟩; intro W hW; exact exec_load_bk rowP (.tmp 7) rfl w3.heap.size 0 rfl (HZ7.out.below hW) q'.cl rfl rfl) | exact Or.inr ⟨by rfl, rfl⟩) ?_; try simp only [Act.put, List.setIfInBounds_toArray, List.set_cons_zero, List.set_cons_succ])
  (refine takeL Ext.tr 2 (by simp only [List.getElem?_toArray, List.getElem?_cons_succ, List.getElem?_cons_zero]; rfl) (by kernel_rfl) (by kernel_rfl) (by kernel_rfl) (by kernel_rfl) (by exact fun _ _ _ h => h) (by first | (refine Or.inl ⟨by rfl, ?_⟩; intro W hW; go_simp; try with_reducible rfl) | exact Or.inr ⟨by rfl, rfl⟩) ?_; try simp only [Act.put, List.setIfInBounds_toArray, List.set_cons_zero, List.set_cons_succ])
  refine wpAnyL_one (i := 3) (by kernel_rfl) (by simp only [List.getElem?_toArray, List.getElem?_cons_succ, List.getElem?_cons_zero]; rfl) (fun K hK => ?_)
  refine opwp_store_bk rowP rfl (.tmp 5) (.tmp 39) rfl (w.heap.size + 1) 0 rfl HY4.out q'.cl rfl q'.cl_len (by decide) q'.cl_one ?_
  intro w5 hz5 hw5
  rw [lay_all _ _ (by rfl)] at hz5
  have HZ5 := Lib.hid hz5
  have HW5 := Lib.hid hw5
  refine hK.out _ _ (.inl (by decide)) ?_
  clear hK K
  try simp only [Act.put, List.setIfInBounds_toArray, List.set_cons_zero, List.set_cons_succ]
  refine wpAnyL_done (by kernel_rfl) ?_ _
  go_wp2
  exact bodyPost_ret (results_tmp_cell rfl rfl (load_pk rowP HZ5.out)) rfl (PutTo.of (HP4.out) HS4.out (Gr.refl _ _) (fun hf => by have := HF.out _ hf; omega) HW5.out HR4.out hq' (by kernel_rfl))
set_option maxHeartbeats 4000000 in
set_option maxRecDepth 100000 in
theorem pt_put1 (h : PbC F X w b m pl ph Fl Fh ql qh) {q : Pv} (hq : PvR F w q) (hct : ∀ k, -1 ≤ m.ct k ∧ m.ct k ≤ 1000000) (hv : m.vd q.pk = 1) (hroom : (m.sel (!q.pk.heavy)).length + 1 ≤ m.room (!q.pk.heavy)) :
    Calls Try.prog 45 #[.pointer (some ⟨b, 0, none⟩), .agg #[.int .i64 q.h.kd, .int .i64 q.h.fl, .int .i64 q.h.pa, .int .i64 q.h.sr, .int .i64 q.h.ds, .int .i64 q.h.cn, .int .i64 q.h.sq, .int .i64 q.h.pu, .slice q.A q.n q.c]] w (PutTo F X w b (({ m with ct := up m.ct 1 (m.ct 1 + 1) } : AM).put (!q.pk.heavy) (m.sel (!q.pk.heavy) ++ [q.pk])) pl ph 1 q.pk) := by
  have HRoom := Lib.hid hroom
  clear hroom
  have hF := h.bd
  have HF := Lib.hid hF
  have HX := Lib.hid h.xb
  have HM : Hid (∀ o o', Calls Try.prog 49 #[.pointer (some ⟨b, 0, none⟩)] ((w.alloc o).alloc o') fun e w' => e = .returned (.bool true) ∧ (w.alloc o).alloc o' = w') := Lib.hid fun o o' => pt_made (h.below (((Below.refl _ _).alloc (Nat.le_refl _) o).alloc (by simp) o'))
  have HV : Hid (∀ o o', Calls Try.prog 61 #[.pointer (some ⟨b, 0, none⟩), .agg #[.int .i64 q.h.kd, .int .i64 q.h.fl, .int .i64 q.h.pa, .int .i64 q.h.sr, .int .i64 q.h.ds, .int .i64 q.h.cn, .int .i64 q.h.sq, .int .i64 q.h.pu, .slice q.A q.n q.c]] ((w.alloc o).alloc o') fun e w' => e = .returned (.int .i64 1) ∧ Below ((w.alloc o).alloc o').heap.size ((w.alloc o).alloc o') w') := Lib.hid fun o o' => by
    have hb : Below w.heap.size w ((w.alloc o).alloc o') := ((Below.refl _ _).alloc (Nat.le_refl _) o).alloc (by simp) o'
    have := pt_verdict (h.below hb) (hq.below hb) (fun k hk => by have := HF.out k hk; simp; omega)
    rw [hv] at this; exact this
  have HH := Lib.hid h
  have HQ := Lib.hid hq
  have hcv := hct 1
  clear h hq hF hv
  go_enter Try.func45, Try.ntmps45
  go_wp2_with (first
    | (go_at_call 49; refine (HM.out _ _).mono ?_; rintro e w' ⟨rfl, rfl⟩)
    | (with_reducible refine at_load 65 (.tmp 3) (by rfl) ?_; refine wpList_load_pk rowP rfl (.tmp 3) rfl q w.heap.size 0 rfl (Bk.pk (q := q) ((Bk.new w 65 [.int .i64 q.h.kd, .int .i64 q.h.fl, .int .i64 q.h.pa, .int .i64 q.h.sr, .int .i64 q.h.ds, .int .i64 q.h.cn, .int .i64 q.h.sq, .int .i64 q.h.pu, .slice q.A q.n q.c]).alloc (.cells (List.toArray [.int .i64 0, .int .i64 0, .int .i64 0, .int .i64 0, .int .i64 0, .int .i64 0, .int .i64 0, .int .i64 0, .slice none 0 0]) 65))) ?_)
    | (go_at_call 61; refine (HV.out _ _).mono ?_; rintro e w1 ⟨rfl, hb1⟩))
  refine wp_region_L Ext [10] (by kernel_rfl) (fun wd hbd hsz => ?_)
  obtain ⟨hx0, hy0, hc0⟩ := pk_new2 hb1
  have hp0 := (HH.out.ext hc0 (X1 := fun k => X k ∨ k = w.heap.size ∨ k = w.heap.size + 1) (fun k hk => hk.imp id (by omega)) (fun k hk => by
    rcases hk with hk | hk
    · exact Nat.lt_of_lt_of_le (HX.out k hk) hc0.size
    · have := hx0.lt; have := hy0.lt; omega)).below hbd
  have hx1 := hx0.below hbd
  have hy1 := hy0.below hbd
  have hc1 := below_on hc0 hbd
  have hq1 := HQ.out.below hc1
  have hw : IntKind.i64.wrap (m.ct 1 + 1) = m.ct 1 + 1 := by rw [IntKind.wrap_i64]; omega
  have q0 : ∀ W, Ext wd W → W.cell? ⟨b, 5, none⟩ = some (.int .i64 (m.ct 1)) := fun W hW => (hp0.bk.below hW).cell 5 rfl
  have f0 := hp0.bk.free 5
  have c0 := hp0.bk.cell 5 rfl
  obtain ⟨hp2, hs2⟩ := hp0.cell 5 (.int .i64 (m.ct 1 + 1)) hp0.ru (ct := up m.ct 1 (m.ct 1 + 1)) rfl
  have hbw : b < w.heap.size := HH.out.bk.lt
  have hx2 := hx1.far (p := ⟨b, 5, none⟩) (show w.heap.size ≠ b by omega) (.int .i64 (m.ct 1 + 1))
  have hy2 := hy1.far (p := ⟨b, 5, none⟩) (show w.heap.size + 1 ≠ b by omega) (.int .i64 (m.ct 1 + 1))
  have hq2 := hq1.st hs2 (Gr.refl _ _)
  have hst2 := (St.ext (F := F) hc1).trans hs2 (Gr.refl _ _)
  have HP2 := Lib.hid hp2
  have HX2 := Lib.hid hx2
  have HY := Lib.hid hy2
  have HQ2 := Lib.hid hq2
  have HS2 := Lib.hid hst2
  clear hsz hb1 hx0 hy0 hc0 hp0 hx1 hy1 hc1 hq1 hp2 hs2 hx2 hy2 hq2 hst2 hbw hct
  (refine takeL Ext.tr 0 (by simp only [List.getElem?_toArray, List.getElem?_cons_succ, List.getElem?_cons_zero]; rfl) (by kernel_rfl) (by kernel_rfl) (by kernel_rfl) (by kernel_rfl) (by exact fun _ _ _ h => h) (by first | (refine Or.inl ⟨by rfl, ?_⟩; intro W hW; go_simp; try with_reducible rfl) | exact Or.inr ⟨by rfl, rfl⟩) ?_; try simp only [Act.put, List.setIfInBounds_toArray, List.set_cons_zero, List.set_cons_succ])
  (refine takeL Ext.tr 1 (by simp only [List.getElem?_toArray, List.getElem?_cons_succ, List.getElem?_cons_zero]; rfl) (by kernel_rfl) (by kernel_rfl) (by kernel_rfl) (by kernel_rfl) (by exact fun _ _ _ h => h) (by first | (refine Or.inl ⟨by rfl, ?_⟩; intro W hW; go_simp; try with_reducible rfl) | exact Or.inr ⟨by rfl, rfl⟩) ?_; try simp only [Act.put, List.setIfInBounds_toArray, List.set_cons_zero, List.set_cons_succ])
  (refine takeL Ext.tr 2 (by simp only [List.getElem?_toArray, List.getElem?_cons_succ, List.getElem?_cons_zero]; rfl) (by kernel_rfl) (by kernel_rfl) (by kernel_rfl) (by kernel_rfl) (by exact fun _ _ _ h => h) (by first | (refine Or.inl ⟨by rfl, ?_⟩; intro W hW; go_simp; try with_reducible rfl) | exact Or.inr ⟨by rfl, rfl⟩) ?_; try simp only [Act.put, List.setIfInBounds_toArray, List.set_cons_zero, List.set_cons_succ])
  (refine takeL Ext.tr 7 (by simp only [List.getElem?_toArray, List.getElem?_cons_succ, List.getElem?_cons_zero]; rfl) (by kernel_rfl) (by kernel_rfl) (by kernel_rfl) (by kernel_rfl) (by exact fun _ _ _ h => h) (by first | (refine Or.inl ⟨by rfl, ?_⟩; intro W hW; go_simp; try with_reducible rfl) | exact Or.inr ⟨by rfl, rfl⟩) ?_; try simp only [Act.put, List.setIfInBounds_toArray, List.set_cons_zero, List.set_cons_succ])
  (refine takeL Ext.tr 3 (by simp only [List.getElem?_toArray, List.getElem?_cons_succ, List.getElem?_cons_zero]; rfl) (by kernel_rfl) (by kernel_rfl) (by kernel_rfl) (by kernel_rfl) (by exact fun _ _ _ h => h) (by first | (refine Or.inl ⟨by rfl, ?_⟩; intro W hW; go_simp; try with_reducible rfl) | exact Or.inr ⟨by rfl, rfl⟩) ?_; try simp only [Act.put, List.setIfInBounds_toArray, List.set_cons_zero, List.set_cons_succ])
  (refine takeL Ext.tr 8 (by simp only [List.getElem?_toArray, List.getElem?_cons_succ, List.getElem?_cons_zero]; rfl) (by kernel_rfl) (by kernel_rfl) (by kernel_rfl) (by kernel_rfl) (by exact fun _ _ _ h => h) (by first | (refine Or.inl ⟨by rfl, ?_⟩; intro W hW; go_simp; try with_reducible rfl) | exact Or.inr ⟨by rfl, rfl⟩) ?_; try simp only [Act.put, List.setIfInBounds_toArray, List.set_cons_zero, List.set_cons_succ])
  (refine takeL Ext.tr 4 (by simp only [List.getElem?_toArray, List.getElem?_cons_succ, List.getElem?_cons_zero]; rfl) (by kernel_rfl) (by kernel_rfl) (by kernel_rfl) (by kernel_rfl) (by exact fun _ _ _ h => h) (by first | (refine Or.inl ⟨by rfl, ?_⟩; intro W hW; go_simp; try with_reducible rfl) | exact Or.inr ⟨by rfl, rfl⟩) ?_; try simp only [Act.put, List.setIfInBounds_toArray, List.set_cons_zero, List.set_cons_succ])
  (refine takeL Ext.tr 5 (by simp only [List.getElem?_toArray, List.getElem?_cons_succ, List.getElem?_cons_zero]; rfl) (by kernel_rfl) (by kernel_rfl) (by kernel_rfl) (by kernel_rfl) (by exact fun _ _ _ h => h) (by first | (refine Or.inl ⟨by rfl, ?_⟩; intro W hW; go_simp; try with_reducible rfl) | exact Or.inr ⟨by rfl, rfl⟩) ?_; try simp only [Act.put, List.setIfInBounds_toArray, List.set_cons_zero, List.set_cons_succ])
  (refine takeL Ext.tr 6 (by simp only [List.getElem?_toArray, List.getElem?_cons_succ, List.getElem?_cons_zero]; rfl) (by kernel_rfl) (by kernel_rfl) (by kernel_rfl) (by kernel_rfl) (by exact fun _ _ _ h => h) (by first | (refine Or.inl ⟨by rfl, ?_⟩; intro W hW; go_simp; try with_reducible rfl) | exact Or.inr ⟨by rfl, rfl⟩) ?_; try simp only [Act.put, List.setIfInBounds_toArray, List.set_cons_zero, List.set_cons_succ])
  (refine takeL Ext.tr 9 (by simp only [List.getElem?_toArray, List.getElem?_cons_succ, List.getElem?_cons_zero]; rfl) (by kernel_rfl) (by kernel_rfl) (by kernel_rfl) (by kernel_rfl) (by exact fun _ _ _ h => h) (by first | (refine Or.inl ⟨by rfl, ?_⟩; intro W hW; go_simp; try with_reducible rfl) | exact Or.inr ⟨by rfl, rfl⟩) ?_; try simp only [Act.put, List.setIfInBounds_toArray, List.set_cons_zero, List.set_cons_succ])
  refine wpAnyL_one (i := 10) (by kernel_rfl) (by simp only [List.getElem?_toArray, List.getElem?_cons_succ, List.getElem?_cons_zero]; rfl) (fun K hK => ?_)
  go_simp
  refine hK.out _ _ (.inl (by decide)) ?_
  clear hK K
  try simp only [Act.put, List.setIfInBounds_toArray, List.set_cons_zero, List.set_cons_succ]
  refine wpAnyL_done (by kernel_rfl) ?_ _
  skip
  have HXI := Lib.hid HX2.out
  have HYI := Lib.hid HY.out
  have HPI := Lib.hid HP2.out
  have HSI := Lib.hid HS2.out
  have HQI := Lib.hid HQ2.out
  clear HP2 HX2 HY HQ2 HS2
  go_wp2_with fail
  refine wp_region_E (St F) (by kernel_rfl) (fun wd hbd hsz => ?_)
  have HP5 := Lib.hid (HPI.out.below hbd)
  have HX5 := Lib.hid (HXI.out.below hbd)
  have HY5 := Lib.hid (HYI.out.below hbd)
  have HQ5 := Lib.hid (HQI.out.below hbd)
  have HS5 := Lib.hid (HSI.out.trans (St.ext hbd) (Gr.refl _ _))
  have HRoom5 := Lib.hid (show (({ m with ct := up m.ct 1 (m.ct 1 + 1) } : AM).sel (!q.pk.heavy)).length + 1 ≤ ({ m with ct := up m.ct 1 (m.ct 1 + 1) } : AM).room (!q.pk.heavy) by exact HRoom.out)
  have HBd : Hid (∀ k, (F k ∨ X k ∨ k = w.heap.size ∨ k = w.heap.size + 1) → k < wd.heap.size) := Lib.hid fun k hk => hk.elim (HP5.out.bd k) (HP5.out.xb k)
  have hnF0 : ¬ F w.heap.size := fun hf => by have := HF.out _ hf; omega
  have hnF1 : ¬ F (w.heap.size + 1) := fun hf => by have := HF.out _ hf; omega
  have hcur : Below wd.heap.size wd wd := Below.refl _ _
  clear hsz HPI HXI HYI HQI HSI hbd
  (refine takeE (St.tr F) 0 (by simp only [List.getElem?_toArray, List.getElem?_cons_succ, List.getElem?_cons_zero]; rfl) (by kernel_rfl) (by kernel_rfl) (by kernel_rfl) (by exact fun _ _ _ h => h) (by first | (refine Or.inl ⟨by rfl, ?_⟩; intro W hW; go_simp; try with_reducible rfl) | exact Or.inr ⟨by rfl, rfl⟩) ?_; try simp only [Act.put, List.setIfInBounds_toArray, List.set_cons_zero, List.set_cons_succ])
  (refine takeE (St.tr F) 1 (by simp only [List.getElem?_toArray, List.getElem?_cons_succ, List.getElem?_cons_zero]; rfl) (by kernel_rfl) (by kernel_rfl) (by kernel_rfl) (by exact fun _ _ _ h => h) (by first | (refine Or.inl ⟨by rfl, ?_⟩; intro W hW; exact exec_load_bk rowP (.tmp 3) rfl w.heap.size 0 rfl (HX5.out.st hW hnF0) q.cl rfl rfl) | exact Or.inr ⟨by rfl, rfl⟩) ?_; try simp only [Act.put, List.setIfInBounds_toArray, List.set_cons_zero, List.set_cons_succ])
  (refine takeE (St.tr F) 3 (by simp only [List.getElem?_toArray, List.getElem?_cons_succ, List.getElem?_cons_zero]; rfl) (by kernel_rfl) (by kernel_rfl) (by kernel_rfl) (by exact fun _ _ _ h => h) (by first | (refine Or.inl ⟨by rfl, ?_⟩; intro W hW; exact exec_load_bk rowP (.tmp 3) rfl w.heap.size 0 rfl (HX5.out.st hW hnF0) q.cl rfl rfl) | exact Or.inr ⟨by rfl, rfl⟩) ?_; try simp only [Act.put, List.setIfInBounds_toArray, List.set_cons_zero, List.set_cons_succ])
  refine wpAnyE_one (i := 2) (by kernel_rfl) (by simp only [List.getElem?_toArray, List.getElem?_cons_succ, List.getElem?_cons_zero]; rfl) (fun K hK => ?_)
  go_simp
  refine (pt_queueOf (HP5.out.below hcur) (HQ5.out.below hcur)).mono ?_
  rintro e wq ⟨rfl, hbq⟩
  replace hcur := below_on hcur hbq
  try replace hr' := hr'.below hbq
  try replace hrd := hrd.below hbq
  refine hK.out _ _ (St.ext hbq) ?_
  clear hK K
  try simp only [Act.put, List.setIfInBounds_toArray, List.set_cons_zero, List.set_cons_succ]
  refine wpAnyE_one (i := 4) (by kernel_rfl) (by simp only [List.getElem?_toArray, List.getElem?_cons_succ, List.getElem?_cons_zero]; rfl) (fun K hK => ?_)
  go_simp
  refine (p_alike (F := fun k => F k ∨ X k ∨ k = w.heap.size ∨ k = w.heap.size + 1) (HQ5.out.below hcur) (fun k hk => Nat.lt_of_lt_of_le (HBd.out k hk) hcur.size)).mono ?_
  rintro e wa ⟨q', rfl, hq', hr', hba⟩
  replace hcur := below_on hcur hba
  refine hK.out _ _ (St.ext hba) ?_
  clear hK K
  try simp only [Act.put, List.setIfInBounds_toArray, List.set_cons_zero, List.set_cons_succ]
  refine wpAnyE_one (i := 5) (by kernel_rfl) (by simp only [List.getElem?_toArray, List.getElem?_cons_succ, List.getElem?_cons_zero]; rfl) (fun K hK => ?_)
  go_simp
  have hrd := RdR.one wa 65 q'.cl q'.cl_one
  replace hcur := hcur.alloc hcur.size (.cells q'.cl.toArray 65)
  replace hr' := hr'.below ((Below.refl _ _).alloc (Nat.le_refl _) (.cells q'.cl.toArray 65))
  refine hK.out _ _ (St.ext ((Below.refl _ _).alloc (Nat.le_refl _) _)) ?_
  clear hK K
  try simp only [Act.put, List.setIfInBounds_toArray, List.set_cons_zero, List.set_cons_succ]
  refine wpAnyE_one (i := 6) (by kernel_rfl) (by simp only [List.getElem?_toArray, List.getElem?_cons_succ, List.getElem?_cons_zero]; rfl) (fun K hK => ?_)
  go_simp
  refine (pt_push (HP5.out.below hcur) (!q.pk.heavy) q' hr' _ _ hrd HRoom5.out).mono ?_
  rintro e w6 ⟨rfl, F', Fl', Fh', ql', qh', hp6, hs6, hg6⟩
  refine hK.out _ _ hs6 ?_
  clear hK K
  try simp only [Act.put, List.setIfInBounds_toArray, List.set_cons_zero, List.set_cons_succ]
  refine wpAnyE_done (by kernel_rfl) ?_ _
  skip
  all_goals
    have hst6 : St F wd w6 := (St.ext hcur).trans hs6 (Gr.refl _ _)
    have hx6 := HX5.out.st hst6 hnF0
    have hy6 := HY5.out.st hst6 hnF1
    have hgw : Gr F F' wd.heap.size := (Gr.refl F _).trans hg6 hcur.size
    have hq6 := HQ5.out.st hst6 hgw
    have HA6 := Lib.hid (p_alike (F := fun k => F' k ∨ X k ∨ k = w.heap.size ∨ k = w.heap.size + 1) hq6 (fun k hk => hk.elim (hp6.bd k) (hp6.xb k)))
    have HP6 := Lib.hid hp6
    have hnF6 : ¬ F' (w.heap.size + 1) := hgw.not HY5.out.lt hnF1
    have HG6 : Hid (Gr F F' w.heap.size) := Lib.hid ((Gr.refl F _).trans hgw HS5.out.size)
    have HS6 := Lib.hid (HS5.out.trans hst6 (Gr.refl _ _))
    clear hs6 hg6 hp6 hq6 hcur hr' hrd hst6 hgw HQ5
    go_wp2_with (first
      | (with_reducible refine at_load 65 (.tmp 3) (by rfl) ?_; refine wpList_load_pk rowP rfl (.tmp 3) rfl q w.heap.size 0 rfl (Bk.pk (q := q) hx6) ?_)
      | (go_at_call 54; refine HA6.out.mono ?_; rintro e w7 ⟨q7, rfl, hq7, hr7, hb7⟩; have hy7 := hy6.below hb7)
      | (with_reducible refine at_store 65 (.tmp 5) (.tmp 54) (by rfl) ?_; refine wpList_put_pk rowP rfl (.tmp 5) (.tmp 54) rfl (w.heap.size + 1) rfl hy7 rfl q7 rfl ?_; rintro w8 hz8 hw8))
    have hp7 := HP6.out.below hb7
    rw [show ({ m with ct := up m.ct 1 (m.ct 1 + 1) } : AM).sel (!q.pk.heavy) = m.sel (!q.pk.heavy) from rfl, hq'] at hp7
    have hs7 := HS6.out.trans (St.ext hb7) (Gr.refl _ _)
    exact bodyPost_ret (results_tmp_cell rfl rfl (load_pk rowP hz8)) rfl (PutTo.of hp7 hs7 HG6.out hnF6 hw8 hr7 hq7 (by kernel_rfl))
end
end Go.Proofs.Ytboclbanccfbjaa
namespace Go.Proofs.Ytboclbanccfbjaa
set_option linter.unusedSimpArgs false
set_option linter.unusedVariables false
set_option maxRecDepth 100000
open Go.RowKit Go.Shelf
section
variable {F X : Nat → Prop} {w w' : World} {b : Nat} {m : AM} {pl ph : Nat} {Fl Fh : Nat → Prop} {ql qh : List Pv}
set_option maxHeartbeats 4000000 in
set_option maxRecDepth 100000 in
theorem pt_put2 (h : PbC F X w b m pl ph Fl Fh ql qh) {q : Pv} (hq : PvR F w q) (hct : ∀ k, -1 ≤ m.ct k ∧ m.ct k ≤ 1000000) (hv : m.vd q.pk = 2) (hroom : (m.sel (!q.pk.trim.heavy)).length + 1 ≤ m.room (!q.pk.trim.heavy)) :
    Calls Try.prog 45 #[.pointer (some ⟨b, 0, none⟩), .agg #[.int .i64 q.h.kd, .int .i64 q.h.fl, .int .i64 q.h.pa, .int .i64 q.h.sr, .int .i64 q.h.ds, .int .i64 q.h.cn, .int .i64 q.h.sq, .int .i64 q.h.pu, .slice q.A q.n q.c]] w (PutTo F X w b (({ m with ct := up m.ct 2 (m.ct 2 + 1) } : AM).put (!q.pk.trim.heavy) (m.sel (!q.pk.trim.heavy) ++ [q.pk.trim])) pl ph 2 q.pk.trim) := by
  have HRoom := Lib.hid hroom
  clear hroom
  have hF := h.bd
  have HF := Lib.hid hF
  have HX := Lib.hid h.xb
  have HM : Hid (∀ o o', Calls Try.prog 49 #[.pointer (some ⟨b, 0, none⟩)] ((w.alloc o).alloc o') fun e w' => e = .returned (.bool true) ∧ (w.alloc o).alloc o' = w') := Lib.hid fun o o' => pt_made (h.below (((Below.refl _ _).alloc (Nat.le_refl _) o).alloc (by simp) o'))
  have HV : Hid (∀ o o', Calls Try.prog 61 #[.pointer (some ⟨b, 0, none⟩), .agg #[.int .i64 q.h.kd, .int .i64 q.h.fl, .int .i64 q.h.pa, .int .i64 q.h.sr, .int .i64 q.h.ds, .int .i64 q.h.cn, .int .i64 q.h.sq, .int .i64 q.h.pu, .slice q.A q.n q.c]] ((w.alloc o).alloc o') fun e w' => e = .returned (.int .i64 2) ∧ Below ((w.alloc o).alloc o').heap.size ((w.alloc o).alloc o') w') := Lib.hid fun o o' => by
    have hb : Below w.heap.size w ((w.alloc o).alloc o') := ((Below.refl _ _).alloc (Nat.le_refl _) o).alloc (by simp) o'
    have := pt_verdict (h.below hb) (hq.below hb) (fun k hk => by have := HF.out k hk; simp; omega)
    rw [hv] at this; exact this
  have HH := Lib.hid h
  have HQ := Lib.hid hq
  have hcv := hct 2
  clear h hq hF hv
  go_enter Try.func45, Try.ntmps45
  go_wp2_with (first
    | (go_at_call 49; refine (HM.out _ _).mono ?_; rintro e w' ⟨rfl, rfl⟩)
    | (with_reducible refine at_load 65 (.tmp 3) (by rfl) ?_; refine wpList_load_pk rowP rfl (.tmp 3) rfl q w.heap.size 0 rfl (Bk.pk (q := q) ((Bk.new w 65 [.int .i64 q.h.kd, .int .i64 q.h.fl, .int .i64 q.h.pa, .int .i64 q.h.sr, .int .i64 q.h.ds, .int .i64 q.h.cn, .int .i64 q.h.sq, .int .i64 q.h.pu, .slice q.A q.n q.c]).alloc (.cells (List.toArray [.int .i64 0, .int .i64 0, .int .i64 0, .int .i64 0, .int .i64 0, .int .i64 0, .int .i64 0, .int .i64 0, .slice none 0 0]) 65))) ?_)
    | (go_at_call 61; refine (HV.out _ _).mono ?_; rintro e w1 ⟨rfl, hb1⟩))
  refine wp_region_L Ext [10] (by kernel_rfl) (fun wd hbd hsz => ?_)
  obtain ⟨hx0, hy0, hc0⟩ := pk_new2 hb1
  have hp0 := (HH.out.ext hc0 (X1 := fun k => X k ∨ k = w.heap.size ∨ k = w.heap.size + 1) (fun k hk => hk.imp id (by omega)) (fun k hk => by
    rcases hk with hk | hk
    · exact Nat.lt_of_lt_of_le (HX.out k hk) hc0.size
    · have := hx0.lt; have := hy0.lt; omega)).below hbd
  have hx1 := hx0.below hbd
  have hy1 := hy0.below hbd
  have hc1 := below_on hc0 hbd
  have hq1 := HQ.out.below hc1
  have hw : IntKind.i64.wrap (m.ct 2 + 1) = m.ct 2 + 1 := by rw [IntKind.wrap_i64]; omega
  have q0 : ∀ W, Ext wd W → W.cell? ⟨b, 6, none⟩ = some (.int .i64 (m.ct 2)) := fun W hW => (hp0.bk.below hW).cell 6 rfl
  have f0 := hp0.bk.free 6
  have c0 := hp0.bk.cell 6 rfl
  obtain ⟨hp2, hs2⟩ := hp0.cell 6 (.int .i64 (m.ct 2 + 1)) hp0.ru (ct := up m.ct 2 (m.ct 2 + 1)) rfl
  have hbw : b < w.heap.size := HH.out.bk.lt
  have hx2 := hx1.far (p := ⟨b, 6, none⟩) (show w.heap.size ≠ b by omega) (.int .i64 (m.ct 2 + 1))
  have hy2 := hy1.far (p := ⟨b, 6, none⟩) (show w.heap.size + 1 ≠ b by omega) (.int .i64 (m.ct 2 + 1))
  have hq2 := hq1.st hs2 (Gr.refl _ _)
  have hst2 := (St.ext (F := F) hc1).trans hs2 (Gr.refl _ _)
  have HP2 := Lib.hid hp2
  have HX2 := Lib.hid hx2
  have HY := Lib.hid hy2
  have HQ2 := Lib.hid hq2
  have HS2 := Lib.hid hst2
  clear hsz hb1 hx0 hy0 hc0 hp0 hx1 hy1 hc1 hq1 hp2 hs2 hx2 hy2 hq2 hst2 hbw hct
  (refine takeL Ext.tr 0 (by simp only [List.getElem?_toArray, List.getElem?_cons_succ, List.getElem?_cons_zero]; rfl) (by kernel_rfl) (by kernel_rfl) (by kernel_rfl) (by kernel_rfl) (by exact fun _ _ _ h => h) (by first | (refine Or.inl ⟨by rfl, ?_⟩; intro W hW; go_simp; try with_reducible rfl) | exact Or.inr ⟨by rfl, rfl⟩) ?_; try simp only [Act.put, List.setIfInBounds_toArray, List.set_cons_zero, List.set_cons_succ])
  (refine takeL Ext.tr 1 (by simp only [List.getElem?_toArray, List.getElem?_cons_succ, List.getElem?_cons_zero]; rfl) (by kernel_rfl) (by kernel_rfl) (by kernel_rfl) (by kernel_rfl) (by exact fun _ _ _ h => h) (by first | (refine Or.inl ⟨by rfl, ?_⟩; intro W hW; go_simp; try with_reducible rfl) | exact Or.inr ⟨by rfl, rfl⟩) ?_; try simp only [Act.put, List.setIfInBounds_toArray, List.set_cons_zero, List.set_cons_succ])
  (refine takeL Ext.tr 2 (by simp only [List.getElem?_toArray, List.getElem?_cons_succ, List.getElem?_cons_zero]; rfl) (by kernel_rfl) (by kernel_rfl) (by kernel_rfl) (by kernel_rfl) (by exact fun _ _ _ h => h) (by first | (refine Or.inl ⟨by rfl, ?_⟩; intro W hW; go_simp; try with_reducible rfl) | exact Or.inr ⟨by rfl, rfl⟩) ?_; try simp only [Act.put, List.setIfInBounds_toArray, List.set_cons_zero, List.set_cons_succ])
  (refine takeL Ext.tr 7 (by simp only [List.getElem?_toArray, List.getElem?_cons_succ, List.getElem?_cons_zero]; rfl) (by kernel_rfl) (by kernel_rfl) (by kernel_rfl) (by kernel_rfl) (by exact fun _ _ _ h => h) (by first | (refine Or.inl ⟨by rfl, ?_⟩; intro W hW; go_simp; try with_reducible rfl) | exact Or.inr ⟨by rfl, rfl⟩) ?_; try simp only [Act.put, List.setIfInBounds_toArray, List.set_cons_zero, List.set_cons_succ])
  (refine takeL Ext.tr 3 (by simp only [List.getElem?_toArray, List.getElem?_cons_succ, List.getElem?_cons_zero]; rfl) (by kernel_rfl) (by kernel_rfl) (by kernel_rfl) (by kernel_rfl) (by exact fun _ _ _ h => h) (by first | (refine Or.inl ⟨by rfl, ?_⟩; intro W hW; go_simp; try with_reducible rfl) | exact Or.inr ⟨by rfl, rfl⟩) ?_; try simp only [Act.put, List.setIfInBounds_toArray, List.set_cons_zero, List.set_cons_succ])
  (refine takeL Ext.tr 8 (by simp only [List.getElem?_toArray, List.getElem?_cons_succ, List.getElem?_cons_zero]; rfl) (by kernel_rfl) (by kernel_rfl) (by kernel_rfl) (by kernel_rfl) (by exact fun _ _ _ h => h) (by first | (refine Or.inl ⟨by rfl, ?_⟩; intro W hW; go_simp; try with_reducible rfl) | exact Or.inr ⟨by rfl, rfl⟩) ?_; try simp only [Act.put, List.setIfInBounds_toArray, List.set_cons_zero, List.set_cons_succ])
  (refine takeL Ext.tr 4 (by simp only [List.getElem?_toArray, List.getElem?_cons_succ, List.getElem?_cons_zero]; rfl) (by kernel_rfl) (by kernel_rfl) (by kernel_rfl) (by kernel_rfl) (by exact fun _ _ _ h => h) (by first | (refine Or.inl ⟨by rfl, ?_⟩; intro W hW; go_simp; try with_reducible rfl) | exact Or.inr ⟨by rfl, rfl⟩) ?_; try simp only [Act.put, List.setIfInBounds_toArray, List.set_cons_zero, List.set_cons_succ])
  (refine takeL Ext.tr 5 (by simp only [List.getElem?_toArray, List.getElem?_cons_succ, List.getElem?_cons_zero]; rfl) (by kernel_rfl) (by kernel_rfl) (by kernel_rfl) (by kernel_rfl) (by exact fun _ _ _ h => h) (by first | (refine Or.inl ⟨by rfl, ?_⟩; intro W hW; go_simp; try with_reducible rfl) | exact Or.inr ⟨by rfl, rfl⟩) ?_; try simp only [Act.put, List.setIfInBounds_toArray, List.set_cons_zero, List.set_cons_succ])
  (refine takeL Ext.tr 6 (by simp only [List.getElem?_toArray, List.getElem?_cons_succ, List.getElem?_cons_zero]; rfl) (by kernel_rfl) (by kernel_rfl) (by kernel_rfl) (by kernel_rfl) (by exact fun _ _ _ h => h) (by first | (refine Or.inl ⟨by rfl, ?_⟩; intro W hW; go_simp; try with_reducible rfl) | exact Or.inr ⟨by rfl, rfl⟩) ?_; try simp only [Act.put, List.setIfInBounds_toArray, List.set_cons_zero, List.set_cons_succ])
  (refine takeL Ext.tr 9 (by simp only [List.getElem?_toArray, List.getElem?_cons_succ, List.getElem?_cons_zero]; rfl) (by kernel_rfl) (by kernel_rfl) (by kernel_rfl) (by kernel_rfl) (by exact fun _ _ _ h => h) (by first | (refine Or.inl ⟨by rfl, ?_⟩; intro W hW; go_simp; try with_reducible rfl) | exact Or.inr ⟨by rfl, rfl⟩) ?_; try simp only [Act.put, List.setIfInBounds_toArray, List.set_cons_zero, List.set_cons_succ])
  refine wpAnyL_one (i := 10) (by kernel_rfl) (by simp only [List.getElem?_toArray, List.getElem?_cons_succ, List.getElem?_cons_zero]; rfl) (fun K hK => ?_)
  go_simp
  refine hK.out _ _ (.inl (by decide)) ?_
  clear hK K
  try simp only [Act.put, List.setIfInBounds_toArray, List.set_cons_zero, List.set_cons_succ]
  refine wpAnyL_done (by kernel_rfl) ?_ _
  skip
  have HB := Lib.hid HP2.out.bd
  have HXB := Lib.hid HP2.out.xb
  have HTr := Lib.hid (p_trim (F := fun k => F k ∨ X k ∨ k = w.heap.size ∨ k = w.heap.size + 1) HQ2.out (fun k hk => hk.elim (HB.out k) (HXB.out k)))
  go_wp2_with (first
    | (with_reducible refine at_load 65 (.tmp 3) (by rfl) ?_; refine wpList_load_pk rowP rfl (.tmp 3) rfl q w.heap.size 0 rfl (Bk.pk (q := q) HX2.out) ?_)
    | (go_at_call 63; refine HTr.out.mono ?_; rintro e w3 ⟨q1, rfl, hq1, hr1, hb3⟩; have hx3 := HX2.out.below hb3)
    | (with_reducible refine at_store 65 (.tmp 3) (.tmp 43) (by rfl) ?_; refine wpList_put_pk rowP rfl (.tmp 3) (.tmp 43) rfl w.heap.size rfl hx3 rfl q1 rfl ?_; rintro w4 hx4 hw4))
  have hs4 : St (· = w.heap.size) w3 w4 := ⟨hw4.os, hw4.tape, hw4.output, hw4.size, fun k hk hn => hw4.block k hk (by intro e; injection e with e; exact hn e)⟩
  have HXI := Lib.hid hx4
  have HYI := Lib.hid ((HY.out.below hb3).wr hw4 (by omega))
  have HPI := Lib.hid ((HP2.out.below hb3).st hs4 (fun k hk e => by have := HF.out k hk; omega) (fun k hk => .inl (.inr (.inl hk))))
  have HSI : Hid (St F w w4) := Lib.hid ⟨hs4.os.trans (hb3.os.trans HS2.out.os), hs4.tape.trans (hb3.tape.trans HS2.out.tape), hs4.output.trans (hb3.output.trans HS2.out.output), Nat.le_trans (Nat.le_trans HS2.out.size hb3.size) hs4.size, fun k hk hn => (hs4.block k (Nat.lt_of_lt_of_le hk (Nat.le_trans HS2.out.size hb3.size)) (by omega)).trans ((hb3.block k (Nat.lt_of_lt_of_le hk HS2.out.size)).trans (HS2.out.block k hk hn))⟩
  have HQI : Hid (PvR F w4 q1) := Lib.hid ((hr1.wr hw4 fun hn ad he e => hr1.2.2.2 hn ad he (.inr (.inr (.inl e)))).mono fun k hk => .inl hk)
  have HQ1 := Lib.hid hq1
  clear HP2 HX2 HY HQ2 HS2 hx3 hx4 hw4 hs4 hb3 hr1 hq1
  refine wp_region_E (St F) (by kernel_rfl) (fun wd hbd hsz => ?_)
  have HP5 := Lib.hid (HPI.out.below hbd)
  have HX5 := Lib.hid (HXI.out.below hbd)
  have HY5 := Lib.hid (HYI.out.below hbd)
  have HQ5 := Lib.hid (HQI.out.below hbd)
  have HS5 := Lib.hid (HSI.out.trans (St.ext hbd) (Gr.refl _ _))
  have HRoom5 := Lib.hid (show (({ m with ct := up m.ct 2 (m.ct 2 + 1) } : AM).sel (!q1.pk.heavy)).length + 1 ≤ ({ m with ct := up m.ct 2 (m.ct 2 + 1) } : AM).room (!q1.pk.heavy) by rw [HQ1.out]; exact HRoom.out)
  have HBd : Hid (∀ k, (F k ∨ X k ∨ k = w.heap.size ∨ k = w.heap.size + 1) → k < wd.heap.size) := Lib.hid fun k hk => hk.elim (HP5.out.bd k) (HP5.out.xb k)
  have hnF0 : ¬ F w.heap.size := fun hf => by have := HF.out _ hf; omega
  have hnF1 : ¬ F (w.heap.size + 1) := fun hf => by have := HF.out _ hf; omega
  have hcur : Below wd.heap.size wd wd := Below.refl _ _
  clear hsz HPI HXI HYI HQI HSI hbd
  (refine takeE (St.tr F) 0 (by simp only [List.getElem?_toArray, List.getElem?_cons_succ, List.getElem?_cons_zero]; rfl) (by kernel_rfl) (by kernel_rfl) (by kernel_rfl) (by exact fun _ _ _ h => h) (by first | (refine Or.inl ⟨by rfl, ?_⟩; intro W hW; go_simp; try with_reducible rfl) | exact Or.inr ⟨by rfl, rfl⟩) ?_; try simp only [Act.put, List.setIfInBounds_toArray, List.set_cons_zero, List.set_cons_succ])
  (refine takeE (St.tr F) 1 (by simp only [List.getElem?_toArray, List.getElem?_cons_succ, List.getElem?_cons_zero]; rfl) (by kernel_rfl) (by kernel_rfl) (by kernel_rfl) (by exact fun _ _ _ h => h) (by first | (refine Or.inl ⟨by rfl, ?_⟩; intro W hW; exact exec_load_bk rowP (.tmp 3) rfl w.heap.size 0 rfl (HX5.out.st hW hnF0) q1.cl rfl rfl) | exact Or.inr ⟨by rfl, rfl⟩) ?_; try simp only [Act.put, List.setIfInBounds_toArray, List.set_cons_zero, List.set_cons_succ])
  (refine takeE (St.tr F) 3 (by simp only [List.getElem?_toArray, List.getElem?_cons_succ, List.getElem?_cons_zero]; rfl) (by kernel_rfl) (by kernel_rfl) (by kernel_rfl) (by exact fun _ _ _ h => h) (by first | (refine Or.inl ⟨by rfl, ?_⟩; intro W hW; exact exec_load_bk rowP (.tmp 3) rfl w.heap.size 0 rfl (HX5.out.st hW hnF0) q1.cl rfl rfl) | exact Or.inr ⟨by rfl, rfl⟩) ?_; try simp only [Act.put, List.setIfInBounds_toArray, List.set_cons_zero, List.set_cons_succ])
  refine wpAnyE_one (i := 2) (by kernel_rfl) (by simp only [List.getElem?_toArray, List.getElem?_cons_succ, List.getElem?_cons_zero]; rfl) (fun K hK => ?_)
  go_simp
  refine (pt_queueOf (HP5.out.below hcur) (HQ5.out.below hcur)).mono ?_
  rintro e wq ⟨rfl, hbq⟩
  replace hcur := below_on hcur hbq
  try replace hr' := hr'.below hbq
  try replace hrd := hrd.below hbq
  refine hK.out _ _ (St.ext hbq) ?_
  clear hK K
  try simp only [Act.put, List.setIfInBounds_toArray, List.set_cons_zero, List.set_cons_succ]
  refine wpAnyE_one (i := 4) (by kernel_rfl) (by simp only [List.getElem?_toArray, List.getElem?_cons_succ, List.getElem?_cons_zero]; rfl) (fun K hK => ?_)
  go_simp
  refine (p_alike (F := fun k => F k ∨ X k ∨ k = w.heap.size ∨ k = w.heap.size + 1) (HQ5.out.below hcur) (fun k hk => Nat.lt_of_lt_of_le (HBd.out k hk) hcur.size)).mono ?_
  rintro e wa ⟨q', rfl, hq', hr', hba⟩
  replace hcur := below_on hcur hba
  refine hK.out _ _ (St.ext hba) ?_
  clear hK K
  try simp only [Act.put, List.setIfInBounds_toArray, List.set_cons_zero, List.set_cons_succ]
  refine wpAnyE_one (i := 5) (by kernel_rfl) (by simp only [List.getElem?_toArray, List.getElem?_cons_succ, List.getElem?_cons_zero]; rfl) (fun K hK => ?_)
  go_simp
  have hrd := RdR.one wa 65 q'.cl q'.cl_one
  replace hcur := hcur.alloc hcur.size (.cells q'.cl.toArray 65)
  replace hr' := hr'.below ((Below.refl _ _).alloc (Nat.le_refl _) (.cells q'.cl.toArray 65))
  refine hK.out _ _ (St.ext ((Below.refl _ _).alloc (Nat.le_refl _) _)) ?_
  clear hK K
  try simp only [Act.put, List.setIfInBounds_toArray, List.set_cons_zero, List.set_cons_succ]
  refine wpAnyE_one (i := 6) (by kernel_rfl) (by simp only [List.getElem?_toArray, List.getElem?_cons_succ, List.getElem?_cons_zero]; rfl) (fun K hK => ?_)
  go_simp
  refine (pt_push (HP5.out.below hcur) (!q1.pk.heavy) q' hr' _ _ hrd HRoom5.out).mono ?_
  rintro e w6 ⟨rfl, F', Fl', Fh', ql', qh', hp6, hs6, hg6⟩
  refine hK.out _ _ hs6 ?_
  clear hK K
  try simp only [Act.put, List.setIfInBounds_toArray, List.set_cons_zero, List.set_cons_succ]
  refine wpAnyE_done (by kernel_rfl) ?_ _
  skip
  all_goals
    have hst6 : St F wd w6 := (St.ext hcur).trans hs6 (Gr.refl _ _)
    have hx6 := HX5.out.st hst6 hnF0
    have hy6 := HY5.out.st hst6 hnF1
    have hgw : Gr F F' wd.heap.size := (Gr.refl F _).trans hg6 hcur.size
    have hq6 := HQ5.out.st hst6 hgw
    have HA6 := Lib.hid (p_alike (F := fun k => F' k ∨ X k ∨ k = w.heap.size ∨ k = w.heap.size + 1) hq6 (fun k hk => hk.elim (hp6.bd k) (hp6.xb k)))
    have HP6 := Lib.hid hp6
    have hnF6 : ¬ F' (w.heap.size + 1) := hgw.not HY5.out.lt hnF1
    have HG6 : Hid (Gr F F' w.heap.size) := Lib.hid ((Gr.refl F _).trans hgw HS5.out.size)
    have HS6 := Lib.hid (HS5.out.trans hst6 (Gr.refl _ _))
    clear hs6 hg6 hp6 hq6 hcur hr' hrd hst6 hgw HQ5
    go_wp2_with (first
      | (with_reducible refine at_load 65 (.tmp 3) (by rfl) ?_; refine wpList_load_pk rowP rfl (.tmp 3) rfl q1 w.heap.size 0 rfl (Bk.pk (q := q1) hx6) ?_)
      | (go_at_call 54; refine HA6.out.mono ?_; rintro e w7 ⟨q7, rfl, hq7, hr7, hb7⟩; have hy7 := hy6.below hb7)
      | (with_reducible refine at_store 65 (.tmp 5) (.tmp 54) (by rfl) ?_; refine wpList_put_pk rowP rfl (.tmp 5) (.tmp 54) rfl (w.heap.size + 1) rfl hy7 rfl q7 rfl ?_; rintro w8 hz8 hw8))
    have hp7 := HP6.out.below hb7
    rw [show ({ m with ct := up m.ct 2 (m.ct 2 + 1) } : AM).sel (!q1.pk.heavy) = m.sel (!q1.pk.heavy) from rfl, hq', HQ1.out] at hp7
    have hs7 := HS6.out.trans (St.ext hb7) (Gr.refl _ _)
    exact bodyPost_ret (results_tmp_cell rfl rfl (load_pk rowP hz8)) rfl (PutTo.of hp7 hs7 HG6.out hnF6 hw8 hr7 (hq7.trans HQ1.out) (by kernel_rfl))
/-- What Put makes of a port. -/
theorem pt_put (h : PbC F X w b m pl ph Fl Fh ql qh) {q : Pv} (hq : PvR F w q) (hct : ∀ k, -1 ≤ m.ct k ∧ m.ct k ≤ 1000000) :
    Calls Try.prog 45 #[.pointer (some ⟨b, 0, none⟩), .agg #[.int .i64 q.h.kd, .int .i64 q.h.fl, .int .i64 q.h.pa, .int .i64 q.h.sr, .int .i64 q.h.ds, .int .i64 q.h.cn, .int .i64 q.h.sq, .int .i64 q.h.pu, .slice q.A q.n q.c]] w (PutTo F X w b (m.nx q.pk) pl ph (m.vd q.pk) (m.out q.pk)) := by
  rcases m.vd_cases q.pk with hv | hv | hv | hv
  · have := pt_put1 h hq hct hv (AM.vd_one hv)
    have e : m.nx q.pk = ({ m with ct := up m.ct 1 (m.ct 1 + 1) } : AM).put (!q.pk.heavy) (m.sel (!q.pk.heavy) ++ [q.pk]) := by
      unfold AM.nx AM.base
      rw [if_pos hv, hv]
      cases q.pk.heavy <;> rfl
    rw [e, hv, show m.out q.pk = q.pk by unfold AM.out; rw [if_pos hv]]
    exact this
  · have h2 := AM.vd_two hv
    have hl := Pk.trim_light h2.1
    have hr : (m.sel (!q.pk.trim.heavy)).length + 1 ≤ m.room (!q.pk.trim.heavy) := by rw [hl]; exact h2.2
    have := pt_put2 h hq hct hv hr
    have e : m.nx q.pk = ({ m with ct := up m.ct 2 (m.ct 2 + 1) } : AM).put (!q.pk.trim.heavy) (m.sel (!q.pk.trim.heavy) ++ [q.pk.trim]) := by
      unfold AM.nx AM.base
      rw [if_neg (by omega), if_pos hv, hv, hl]
      rfl
    rw [e, hv, show m.out q.pk = q.pk.trim by unfold AM.out; rw [if_neg (by omega), if_pos hv]]
    exact this
  · have := pt_put3 h hq hct hv
    have e : m.nx q.pk = { m with ct := up m.ct 3 (m.ct 3 + 1) } := by
      unfold AM.nx AM.base
      rw [if_neg (by omega), if_neg (by omega), hv]
    rw [e, hv, show m.out q.pk = q.pk.ret by unfold AM.out; rw [if_neg (by omega), if_neg (by omega), if_pos hv]]
    exact this
  · have := pt_put4 h hq hct hv
    have e : m.nx q.pk = { m with ct := up m.ct 4 (m.ct 4 + 1) } := by
      unfold AM.nx AM.base
      rw [if_neg (by omega), if_neg (by omega), hv]
    rw [e, hv, show m.out q.pk = Pk.zero by unfold AM.out; rw [if_neg (by omega), if_neg (by omega), if_neg (by omega)]]
    exact this
end
end Go.Proofs.Ytboclbanccfbjaa
namespace Go.Proofs.Ytboclbanccfbjaa
set_option linter.unusedSimpArgs false
set_option linter.unusedVariables false
set_option maxRecDepth 100000
open Go.RowKit Go.Shelf
/-- A port whose packet x of a queue was served, by a fate. -/
def AM.took (m : AM) (hi : Bool) (r : List Pk) : AM := { m.put hi r with run := m.nrun hi }
def AM.srv (m : AM) (f : Int) (hi : Bool) (x : Pk) (r : List Pk) : AM :=
  let m2 := if f = 3 ∨ f = 4 then (m.took hi r).put hi (r ++ [x]) else m.took hi r
  if f = 1 ∨ f = 4 then { m2 with ct := up m.ct 0 (m.ct 0 + 1) } else m2
section
variable {F X : Nat → Prop} {w w' : World} {b : Nat} {m : AM} {pl ph : Nat} {Fl Fh : Nat → Prop} {ql qh : List Pv}
theorem AM.nrun_put (m : AM) (hi : Bool) (r : List Pk) : (m.put hi r).nrun hi = m.nrun hi := by
  cases hi <;> rfl
theorem sel_took {m : AM} {hi : Bool} {r : List Pk} : (m.took hi r).sel hi = r := by cases hi <;> rfl
theorem AM.nrun_le {m : AM} {hi : Bool} (hr : m.run ≤ m.wt) (hw : 1 ≤ m.wt) (hn : m.hiB = hi) : m.nrun hi ≤ m.wt := by
  unfold AM.nrun
  split
  · rename_i h
    simp only [Bool.and_eq_true, decide_eq_true_eq] at h
    rw [← hn] at h
    unfold AM.hiB at h
    simp only [Bool.and_eq_true, Bool.or_eq_true, decide_eq_true_eq, beq_iff_eq] at h
    omega
  · omega
/-- The run is counted. -/
theorem pt_count (h : PbC F X w b m pl ph Fl Fh ql qh) (hi : Bool) (hr : m.nrun hi ≤ m.wt) :
    Calls Try.prog 52 #[.pointer (some ⟨b, 0, none⟩), .pointer (some ⟨ptr pl ph hi, 0, none⟩)] w fun e w' => e = .returned (.tuple #[]) ∧ PbC F X w' b { m with run := m.nrun hi } pl ph Fl Fh ql qh ∧ St F w w' := by
  refine (pt_countRun h hi hr).mono ?_
  rintro e w' ⟨rfl, w1, hb, rfl⟩
  obtain ⟨h1, h2⟩ := (h.below hb).cell 3 (.int .i64 (m.nrun hi)) hr (ct := m.ct) rfl
  exact ⟨rfl, h1, (St.ext hb).trans h2 (Gr.refl _ _)⟩
/-- What Serve leaves. -/
def ServeTo (F X : Nat → Prop) (w : World) (b : Nat) (pl ph : Nat) (m' : AM) (l : List Pk) (err : Int) (e : Ending) (w' : World) : Prop :=
  ∃ A n c qs, e = .returned (.tuple #[.slice A n c, .int .i64 err]) ∧ n = qs.length ∧ RdR 9 w' A n c (flat Pv.cl qs) ∧ qs.map Pv.pk = l ∧ ∃ F' Fl' Fh' ql' qh', PbC F' X w' b m' pl ph Fl' Fh' ql' qh' ∧ St F w w' ∧ Gr F F' w.heap.size ∧ ∀ q ∈ qs, PvR (fun k => F' k ∨ X k) w' q
theorem ServeTo.nil (h : PbC F X w b m pl ph Fl Fh ql qh) (hb : Below w.heap.size w w') (err : Int) : ServeTo F X w b pl ph m [] err (.returned (.tuple #[.slice none 0 0, .int .i64 err])) w' :=
  ⟨Option.none, 0, 0, [], rfl, rfl, RdR.nil _ _, rfl, F, Fl, Fh, ql, qh, h.below hb, St.ext hb, Gr.refl _ _, by simp⟩
theorem ServeTo.one {m' : AM} {x : Pk} {W : World} {B : Nat} {F' Fl' Fh' : Nat → Prop} {ql' qh' : List Pv} {q : Pv} {e : Ending} (hp : PbC F' X W b m' pl ph Fl' Fh' ql' qh') (hs : St F w W) (hg : Gr F F' w.heap.size) (hr : PvR (fun k => F' k ∨ X k) W q)
    (hk : q.pk = x) (hB : B = W.heap.size) (he : e = .returned (.tuple #[.slice (some ⟨B, 0, none⟩) 1 1, .int .i64 0])) {m1 : AM} (hm : m1 = m') : ServeTo F X w b pl ph m1 [x] 0 e (W.alloc (.cells (List.toArray [.int .i64 q.h.kd, .int .i64 q.h.fl, .int .i64 q.h.pa, .int .i64 q.h.sr, .int .i64 q.h.ds, .int .i64 q.h.cn, .int .i64 q.h.sq, .int .i64 q.h.pu, .slice q.A q.n q.c]) 65)) := by
  subst hB hm
  have hb : Below W.heap.size W (W.alloc (.cells (List.toArray [.int .i64 q.h.kd, .int .i64 q.h.fl, .int .i64 q.h.pa, .int .i64 q.h.sr, .int .i64 q.h.ds, .int .i64 q.h.cn, .int .i64 q.h.sq, .int .i64 q.h.pu, .slice q.A q.n q.c]) 65)) := (Below.refl _ _).alloc (Nat.le_refl _) _
  exact ⟨_, 1, 1, [q], he, rfl, by rw [flat_one]; exact RdR.one W 65 q.cl q.cl_one, by rw [← hk]; rfl, F', Fl', Fh', ql', qh', hp.below hb, hs.trans (St.ext hb) hg, hg, fun r hr' => by rw [List.mem_singleton.1 hr']; exact hr.below hb⟩
theorem ServeTo.zero {m' : AM} {W : World} {F' Fl' Fh' : Nat → Prop} {ql' qh' : List Pv} {e : Ending} (hp : PbC F' X W b m' pl ph Fl' Fh' ql' qh') (hs : St F w W) (hg : Gr F F' w.heap.size)
    (he : e = .returned (.tuple #[.slice Option.none 0 0, .int .i64 0])) {m1 : AM} (hm : m1 = m') : ServeTo F X w b pl ph m1 [] 0 e W := by
  subst hm
  exact ⟨Option.none, 0, 0, [], he, rfl, RdR.nil _ _, rfl, F', Fl', Fh', ql', qh', hp, hs, hg, by simp⟩
theorem pt_serve_bad (h : PbC F X w b m pl ph Fl Fh ql qh) (f : Int) (hf : f < 1 ∨ 4 < f) :
    Calls Try.prog 35 #[.pointer (some ⟨b, 0, none⟩), .int .i64 f] w (ServeTo F X w b pl ph m [] 80) := by
  have HM := Lib.hid (pt_made h)
  have HH := Lib.hid h
  clear h
  rcases (by omega : f < 1 ∨ (1 ≤ f ∧ 4 < f)) with h1 | ⟨h1, h2⟩
  all_goals
    clear hf
    go_enter Try.func35, Try.ntmps35
    go_wp2_with (go_at_call 49; refine HM.out.mono ?_; rintro e w' ⟨rfl, rfl⟩)
    go_ret2
    exact ServeTo.nil HH.out (Below.refl _ _) 80
theorem pt_serve_none (h : PbC F X w b m pl ph Fl Fh ql qh) (f : Int) (hf1 : 1 ≤ f) (hf2 : f ≤ 4) (hx : m.sel m.hiB = []) :
    Calls Try.prog 35 #[.pointer (some ⟨b, 0, none⟩), .int .i64 f] w (ServeTo F X w b pl ph m [] 7) := by
  have HM := Lib.hid (pt_made h)
  have HN := Lib.hid (pt_next h)
  have HP : Hid (∀ w1, Below w.heap.size w w1 → Calls Try.prog 51 #[.pointer (some ⟨ptr pl ph m.hiB, 0, none⟩)] w1 fun e w' => e = .returned (.tuple #[.agg #[.int .i64 0, .int .i64 0, .int .i64 0, .int .i64 0, .int .i64 0, .int .i64 0, .int .i64 0, .int .i64 0, .slice none 0 0], .bool false]) ∧ Below w1.heap.size w1 w') := Lib.hid fun w1 hb => pt_pop_none (h.below hb) m.hiB hx
  have HH := Lib.hid h
  clear h hx
  generalize ptr pl ph m.hiB = pn at *
  go_enter Try.func35, Try.ntmps35
  go_wp2_with (first
    | (go_at_call 49; refine HM.out.mono ?_; rintro e w' ⟨rfl, rfl⟩)
    | (go_at_call 50; refine HN.out.mono ?_; rintro e w1 ⟨rfl, hb1⟩)
    | (go_at_call 51; refine (HP.out _ hb1).mono ?_; rintro e w2 ⟨rfl, hb2⟩))
  go_ret2
  exact ServeTo.nil HH.out ((below_on hb1 hb2).alloc (below_on hb1 hb2).size _) 7
set_option maxHeartbeats 4000000 in
set_option maxRecDepth 100000 in
theorem pt_serve1 (h : PbC F X w b m pl ph Fl Fh ql qh) (hct : ∀ k, -1 ≤ m.ct k ∧ m.ct k ≤ 1000000) (x : Pk) (r : List Pk) (hx : m.sel m.hiB = x :: r) :
    Calls Try.prog 35 #[.pointer (some ⟨b, 0, none⟩), .int .i64 1] w (ServeTo F X w b pl ph (m.srv 1 m.hiB x r) [x] 0) := by
  have HN := Lib.hid (pt_next h)
  have HM := Lib.hid (pt_made h)
  have HP : Hid (∀ w1, Below w.heap.size w w1 → Calls Try.prog 51 #[.pointer (some ⟨ptr pl ph m.hiB, 0, none⟩)] w1 _) := Lib.hid fun w1 hb => pt_pop (h.below hb) m.hiB x r hx
  have hnr : (m.put m.hiB r).nrun m.hiB ≤ (m.put m.hiB r).wt := by
    rw [AM.nrun_put]
    have := AM.nrun_le h.ru h.w1 rfl
    exact this
  have HNR := Lib.hid hnr
  have hroom : r.length + 1 ≤ m.room m.hiB := by
    have := (h.qs m.hiB).le
    rw [← List.length_map (f := Pv.pk), h.qk, hx] at this
    simpa using this
  have HRoom := Lib.hid hroom
  have HCT := Lib.hid hct
  clear h hct hnr hroom hx
  generalize m.hiB = hi at *
  go_enter Try.func35, Try.ntmps35
  go_wp2_with (first
    | (go_at_call 49; refine HM.out.mono ?_; rintro e w' ⟨rfl, rfl⟩)
    | (go_at_call 50; refine HN.out.mono ?_; rintro e w1 ⟨rfl, hb1⟩)
    | (go_at_call 51; refine (HP.out _ hb1).mono ?_; rintro e w2 ⟨q, F1, Fl1, Fh1, ql1, qh1, rfl, hqx, hp2, hs2, hg2, hr2⟩
       have hz := Bk.new w2 65 [.int .i64 q.h.kd, .int .i64 q.h.fl, .int .i64 q.h.pa, .int .i64 q.h.sr, .int .i64 q.h.ds, .int .i64 q.h.cn, .int .i64 q.h.sq, .int .i64 q.h.pu, .slice q.A q.n q.c]
       have HCo := Lib.hid (pt_count (hp2.below ((Below.refl _ _).alloc (Nat.le_refl _) (.cells (List.toArray [.int .i64 q.h.kd, .int .i64 q.h.fl, .int .i64 q.h.pa, .int .i64 q.h.sr, .int .i64 q.h.ds, .int .i64 q.h.cn, .int .i64 q.h.sq, .int .i64 q.h.pu, .slice q.A q.n q.c]) 65))) hi HNR.out)
       have HQX := Lib.hid hqx
       clear hqx HP HN)
    | (go_at_call 52; refine HCo.out.mono ?_; rintro e w3 ⟨rfl, hp3, hs3⟩
       replace hp3 : PbC F1 X w3 b (m.took hi r) pl ph Fl1 Fh1 ql1 qh1 := by rw [AM.nrun_put] at hp3; exact hp3
       have hnb : ¬ F1 w2.heap.size := fun hf => by have := hp2.bd _ hf; omega
       have hz3 := hz.st hs3 hnb
       have hr3 := (hr2.below ((Below.refl _ _).alloc (Nat.le_refl _) (.cells (List.toArray [.int .i64 q.h.kd, .int .i64 q.h.fl, .int .i64 q.h.pa, .int .i64 q.h.sr, .int .i64 q.h.ds, .int .i64 q.h.cn, .int .i64 q.h.sq, .int .i64 q.h.pu, .slice q.A q.n q.c]) 65))).st (hs3.mono fun k _ hk => .inl hk) (Gr.refl _ _)
       have HS3 : Hid (St F w w3) := Lib.hid (((St.ext hb1).trans hs2 (Gr.refl _ _)).trans ((St.alloc F1 _ _).trans hs3 (Gr.refl _ _)) ((Gr.refl F _).trans hg2 hb1.size))
       have HG1 : Hid (Gr F F1 w.heap.size) := Lib.hid ((Gr.refl F _).trans hg2 hb1.size)
       clear HCo hs3 hs2 hg2 hr2 hp2 hz))
  have HPt := Lib.hid hp3
  have HZt := Lib.hid hz3
  have HRt := Lib.hid hr3
  have HSt := HS3
  have HGt := HG1
  have hnbt := hnb
  clear hp3 hz3 hr3
  refine wp_region_L Ext [9] (by kernel_rfl) (fun wd hbd hsz => ?_)
  have hp4 := HPt.out.below hbd
  have hz4 := HZt.out.below hbd
  have hr4 := HRt.out.below hbd
  have hw : IntKind.i64.wrap (m.ct 0 + 1) = m.ct 0 + 1 := by have := HCT.out 0; rw [IntKind.wrap_i64]; omega
  have q0 : ∀ W, Ext wd W → W.cell? ⟨b, 4, none⟩ = some (.int .i64 (m.ct 0)) := fun W hW => (hp4.bk.below hW).cell 4 rfl
  have f0 := hp4.bk.free 4
  have c0 := hp4.bk.cell 4 rfl
  obtain ⟨hp5, hs5⟩ := hp4.cell 4 (.int .i64 (m.ct 0 + 1)) hp4.ru (ct := up m.ct 0 (m.ct 0 + 1)) rfl
  have hz5 := hz4.st hs5 hnbt
  have hr5 := hr4.st (hs5.mono fun k _ hk => .inl hk) (Gr.refl _ _)
  have HS5 := Lib.hid ((HSt.out.trans (St.ext hbd) HGt.out).trans hs5 HGt.out)
  have HP5 := Lib.hid hp5
  have HZ5 := Lib.hid hz5
  have HR5 := Lib.hid hr5
  clear hsz hp4 hz4 hr4 hp5 hs5 hz5 hr5
  (refine takeL Ext.tr 0 (by simp only [List.getElem?_toArray, List.getElem?_cons_succ, List.getElem?_cons_zero]; rfl) (by kernel_rfl) (by kernel_rfl) (by kernel_rfl) (by kernel_rfl) (by exact fun _ _ _ h => h) (by first | (refine Or.inl ⟨by rfl, ?_⟩; intro W hW; go_simp; try with_reducible rfl) | exact Or.inr ⟨by rfl, rfl⟩) ?_; try simp only [Act.put, List.setIfInBounds_toArray, List.set_cons_zero, List.set_cons_succ])
  (refine takeL Ext.tr 1 (by simp only [List.getElem?_toArray, List.getElem?_cons_succ, List.getElem?_cons_zero]; rfl) (by kernel_rfl) (by kernel_rfl) (by kernel_rfl) (by kernel_rfl) (by exact fun _ _ _ h => h) (by first | (refine Or.inl ⟨by rfl, ?_⟩; intro W hW; go_simp; try with_reducible rfl) | exact Or.inr ⟨by rfl, rfl⟩) ?_; try simp only [Act.put, List.setIfInBounds_toArray, List.set_cons_zero, List.set_cons_succ])
  (refine takeL Ext.tr 6 (by simp only [List.getElem?_toArray, List.getElem?_cons_succ, List.getElem?_cons_zero]; rfl) (by kernel_rfl) (by kernel_rfl) (by kernel_rfl) (by kernel_rfl) (by exact fun _ _ _ h => h) (by first | (refine Or.inl ⟨by rfl, ?_⟩; intro W hW; go_simp; try with_reducible rfl) | exact Or.inr ⟨by rfl, rfl⟩) ?_; try simp only [Act.put, List.setIfInBounds_toArray, List.set_cons_zero, List.set_cons_succ])
  (refine takeL Ext.tr 2 (by simp only [List.getElem?_toArray, List.getElem?_cons_succ, List.getElem?_cons_zero]; rfl) (by kernel_rfl) (by kernel_rfl) (by kernel_rfl) (by kernel_rfl) (by exact fun _ _ _ h => h) (by first | (refine Or.inl ⟨by rfl, ?_⟩; intro W hW; go_simp; try with_reducible rfl) | exact Or.inr ⟨by rfl, rfl⟩) ?_; try simp only [Act.put, List.setIfInBounds_toArray, List.set_cons_zero, List.set_cons_succ])
  (refine takeL Ext.tr 7 (by simp only [List.getElem?_toArray, List.getElem?_cons_succ, List.getElem?_cons_zero]; rfl) (by kernel_rfl) (by kernel_rfl) (by kernel_rfl) (by kernel_rfl) (by exact fun _ _ _ h => h) (by first | (refine Or.inl ⟨by rfl, ?_⟩; intro W hW; go_simp; try with_reducible rfl) | exact Or.inr ⟨by rfl, rfl⟩) ?_; try simp only [Act.put, List.setIfInBounds_toArray, List.set_cons_zero, List.set_cons_succ])
  (refine takeL Ext.tr 3 (by simp only [List.getElem?_toArray, List.getElem?_cons_succ, List.getElem?_cons_zero]; rfl) (by kernel_rfl) (by kernel_rfl) (by kernel_rfl) (by kernel_rfl) (by exact fun _ _ _ h => h) (by first | (refine Or.inl ⟨by rfl, ?_⟩; intro W hW; go_simp; try with_reducible rfl) | exact Or.inr ⟨by rfl, rfl⟩) ?_; try simp only [Act.put, List.setIfInBounds_toArray, List.set_cons_zero, List.set_cons_succ])
  (refine takeL Ext.tr 4 (by simp only [List.getElem?_toArray, List.getElem?_cons_succ, List.getElem?_cons_zero]; rfl) (by kernel_rfl) (by kernel_rfl) (by kernel_rfl) (by kernel_rfl) (by exact fun _ _ _ h => h) (by first | (refine Or.inl ⟨by rfl, ?_⟩; intro W hW; go_simp; try with_reducible rfl) | exact Or.inr ⟨by rfl, rfl⟩) ?_; try simp only [Act.put, List.setIfInBounds_toArray, List.set_cons_zero, List.set_cons_succ])
  (refine takeL Ext.tr 5 (by simp only [List.getElem?_toArray, List.getElem?_cons_succ, List.getElem?_cons_zero]; rfl) (by kernel_rfl) (by kernel_rfl) (by kernel_rfl) (by kernel_rfl) (by exact fun _ _ _ h => h) (by first | (refine Or.inl ⟨by rfl, ?_⟩; intro W hW; go_simp; try with_reducible rfl) | exact Or.inr ⟨by rfl, rfl⟩) ?_; try simp only [Act.put, List.setIfInBounds_toArray, List.set_cons_zero, List.set_cons_succ])
  (refine takeL Ext.tr 8 (by simp only [List.getElem?_toArray, List.getElem?_cons_succ, List.getElem?_cons_zero]; rfl) (by kernel_rfl) (by kernel_rfl) (by kernel_rfl) (by kernel_rfl) (by exact fun _ _ _ h => h) (by first | (refine Or.inl ⟨by rfl, ?_⟩; intro W hW; go_simp; try with_reducible rfl) | exact Or.inr ⟨by rfl, rfl⟩) ?_; try simp only [Act.put, List.setIfInBounds_toArray, List.set_cons_zero, List.set_cons_succ])
  refine wpAnyL_one (i := 9) (by kernel_rfl) (by simp only [List.getElem?_toArray, List.getElem?_cons_succ, List.getElem?_cons_zero]; rfl) (fun K hK => ?_)
  go_simp
  refine hK.out _ _ (.inl (by decide)) ?_
  clear hK K
  try simp only [Act.put, List.setIfInBounds_toArray, List.set_cons_zero, List.set_cons_succ]
  refine wpAnyL_done (by kernel_rfl) ?_ _
  skip
  go_wp2_with (first
    | (with_reducible refine at_load 65 (.tmp 7) (by rfl) ?_; refine wpList_load_pk rowP rfl (.tmp 7) rfl q w2.heap.size 0 rfl (Bk.pk (q := q) HZ5.out) ?_))
  have hB : wd.heap.size = (wd.setCell ⟨b, 4, none⟩ (.int .i64 (m.ct 0 + 1))).heap.size := by simp [World.setCell]
  exact bodyPost_ret (results_tmp2 rfl _ _ _) rfl (ServeTo.one HP5.out HS5.out HGt.out HR5.out HQX.out hB (by kernel_rfl) (by simp [AM.srv, AM.took]))
theorem pt_serve2 (h : PbC F X w b m pl ph Fl Fh ql qh) (hct : ∀ k, -1 ≤ m.ct k ∧ m.ct k ≤ 1000000) (x : Pk) (r : List Pk) (hx : m.sel m.hiB = x :: r) :
    Calls Try.prog 35 #[.pointer (some ⟨b, 0, none⟩), .int .i64 2] w (ServeTo F X w b pl ph (m.srv 2 m.hiB x r) [] 0) := by
  have HN := Lib.hid (pt_next h)
  have HM := Lib.hid (pt_made h)
  have HP : Hid (∀ w1, Below w.heap.size w w1 → Calls Try.prog 51 #[.pointer (some ⟨ptr pl ph m.hiB, 0, none⟩)] w1 _) := Lib.hid fun w1 hb => pt_pop (h.below hb) m.hiB x r hx
  have hnr : (m.put m.hiB r).nrun m.hiB ≤ (m.put m.hiB r).wt := by
    rw [AM.nrun_put]
    have := AM.nrun_le h.ru h.w1 rfl
    exact this
  have HNR := Lib.hid hnr
  have hroom : r.length + 1 ≤ m.room m.hiB := by
    have := (h.qs m.hiB).le
    rw [← List.length_map (f := Pv.pk), h.qk, hx] at this
    simpa using this
  have HRoom := Lib.hid hroom
  have HCT := Lib.hid hct
  clear h hct hnr hroom hx
  generalize m.hiB = hi at *
  go_enter Try.func35, Try.ntmps35
  go_wp2_with (first
    | (go_at_call 49; refine HM.out.mono ?_; rintro e w' ⟨rfl, rfl⟩)
    | (go_at_call 50; refine HN.out.mono ?_; rintro e w1 ⟨rfl, hb1⟩)
    | (go_at_call 51; refine (HP.out _ hb1).mono ?_; rintro e w2 ⟨q, F1, Fl1, Fh1, ql1, qh1, rfl, hqx, hp2, hs2, hg2, hr2⟩
       have hz := Bk.new w2 65 [.int .i64 q.h.kd, .int .i64 q.h.fl, .int .i64 q.h.pa, .int .i64 q.h.sr, .int .i64 q.h.ds, .int .i64 q.h.cn, .int .i64 q.h.sq, .int .i64 q.h.pu, .slice q.A q.n q.c]
       have HCo := Lib.hid (pt_count (hp2.below ((Below.refl _ _).alloc (Nat.le_refl _) (.cells (List.toArray [.int .i64 q.h.kd, .int .i64 q.h.fl, .int .i64 q.h.pa, .int .i64 q.h.sr, .int .i64 q.h.ds, .int .i64 q.h.cn, .int .i64 q.h.sq, .int .i64 q.h.pu, .slice q.A q.n q.c]) 65))) hi HNR.out)
       have HQX := Lib.hid hqx
       clear hqx HP HN)
    | (go_at_call 52; refine HCo.out.mono ?_; rintro e w3 ⟨rfl, hp3, hs3⟩
       replace hp3 : PbC F1 X w3 b (m.took hi r) pl ph Fl1 Fh1 ql1 qh1 := by rw [AM.nrun_put] at hp3; exact hp3
       have hnb : ¬ F1 w2.heap.size := fun hf => by have := hp2.bd _ hf; omega
       have hz3 := hz.st hs3 hnb
       have hr3 := (hr2.below ((Below.refl _ _).alloc (Nat.le_refl _) (.cells (List.toArray [.int .i64 q.h.kd, .int .i64 q.h.fl, .int .i64 q.h.pa, .int .i64 q.h.sr, .int .i64 q.h.ds, .int .i64 q.h.cn, .int .i64 q.h.sq, .int .i64 q.h.pu, .slice q.A q.n q.c]) 65))).st (hs3.mono fun k _ hk => .inl hk) (Gr.refl _ _)
       have HS3 : Hid (St F w w3) := Lib.hid (((St.ext hb1).trans hs2 (Gr.refl _ _)).trans ((St.alloc F1 _ _).trans hs3 (Gr.refl _ _)) ((Gr.refl F _).trans hg2 hb1.size))
       have HG1 : Hid (Gr F F1 w.heap.size) := Lib.hid ((Gr.refl F _).trans hg2 hb1.size)
       clear HCo hs3 hs2 hg2 hr2 hp2 hz))
  exact bodyPost_ret (results_tmp2 rfl _ _ _) rfl (ServeTo.zero hp3 HS3.out HG1.out (by kernel_rfl) (by simp [AM.srv, AM.took]))
set_option maxHeartbeats 4000000 in
set_option maxRecDepth 100000 in
theorem pt_serve3 (h : PbC F X w b m pl ph Fl Fh ql qh) (hct : ∀ k, -1 ≤ m.ct k ∧ m.ct k ≤ 1000000) (x : Pk) (r : List Pk) (hx : m.sel m.hiB = x :: r) :
    Calls Try.prog 35 #[.pointer (some ⟨b, 0, none⟩), .int .i64 3] w (ServeTo F X w b pl ph (m.srv 3 m.hiB x r) [] 0) := by
  have HN := Lib.hid (pt_next h)
  have HM := Lib.hid (pt_made h)
  have HP : Hid (∀ w1, Below w.heap.size w w1 → Calls Try.prog 51 #[.pointer (some ⟨ptr pl ph m.hiB, 0, none⟩)] w1 _) := Lib.hid fun w1 hb => pt_pop (h.below hb) m.hiB x r hx
  have hnr : (m.put m.hiB r).nrun m.hiB ≤ (m.put m.hiB r).wt := by
    rw [AM.nrun_put]
    have := AM.nrun_le h.ru h.w1 rfl
    exact this
  have HNR := Lib.hid hnr
  have hroom : r.length + 1 ≤ m.room m.hiB := by
    have := (h.qs m.hiB).le
    rw [← List.length_map (f := Pv.pk), h.qk, hx] at this
    simpa using this
  have HRoom := Lib.hid hroom
  have HCT := Lib.hid hct
  clear h hct hnr hroom hx
  generalize m.hiB = hi at *
  go_enter Try.func35, Try.ntmps35
  go_wp2_with (first
    | (go_at_call 49; refine HM.out.mono ?_; rintro e w' ⟨rfl, rfl⟩)
    | (go_at_call 50; refine HN.out.mono ?_; rintro e w1 ⟨rfl, hb1⟩)
    | (go_at_call 51; refine (HP.out _ hb1).mono ?_; rintro e w2 ⟨q, F1, Fl1, Fh1, ql1, qh1, rfl, hqx, hp2, hs2, hg2, hr2⟩
       have hz := Bk.new w2 65 [.int .i64 q.h.kd, .int .i64 q.h.fl, .int .i64 q.h.pa, .int .i64 q.h.sr, .int .i64 q.h.ds, .int .i64 q.h.cn, .int .i64 q.h.sq, .int .i64 q.h.pu, .slice q.A q.n q.c]
       have HCo := Lib.hid (pt_count (hp2.below ((Below.refl _ _).alloc (Nat.le_refl _) (.cells (List.toArray [.int .i64 q.h.kd, .int .i64 q.h.fl, .int .i64 q.h.pa, .int .i64 q.h.sr, .int .i64 q.h.ds, .int .i64 q.h.cn, .int .i64 q.h.sq, .int .i64 q.h.pu, .slice q.A q.n q.c]) 65))) hi HNR.out)
       have HQX := Lib.hid hqx
       clear hqx HP HN)
    | (go_at_call 52; refine HCo.out.mono ?_; rintro e w3 ⟨rfl, hp3, hs3⟩
       replace hp3 : PbC F1 X w3 b (m.took hi r) pl ph Fl1 Fh1 ql1 qh1 := by rw [AM.nrun_put] at hp3; exact hp3
       have hnb : ¬ F1 w2.heap.size := fun hf => by have := hp2.bd _ hf; omega
       have hz3 := hz.st hs3 hnb
       have hr3 := (hr2.below ((Below.refl _ _).alloc (Nat.le_refl _) (.cells (List.toArray [.int .i64 q.h.kd, .int .i64 q.h.fl, .int .i64 q.h.pa, .int .i64 q.h.sr, .int .i64 q.h.ds, .int .i64 q.h.cn, .int .i64 q.h.sq, .int .i64 q.h.pu, .slice q.A q.n q.c]) 65))).st (hs3.mono fun k _ hk => .inl hk) (Gr.refl _ _)
       have HS3 : Hid (St F w w3) := Lib.hid (((St.ext hb1).trans hs2 (Gr.refl _ _)).trans ((St.alloc F1 _ _).trans hs3 (Gr.refl _ _)) ((Gr.refl F _).trans hg2 hb1.size))
       have HG1 : Hid (Gr F F1 w.heap.size) := Lib.hid ((Gr.refl F _).trans hg2 hb1.size)
       clear HCo hs3 hs2 hg2 hr2 hp2 hz
       have HPu := Lib.hid (pt_push (hp3.below ((Below.refl _ _).alloc (Nat.le_refl _) (.cells (List.toArray [.int .i64 q.h.kd, .int .i64 q.h.fl, .int .i64 q.h.pa, .int .i64 q.h.sr, .int .i64 q.h.ds, .int .i64 q.h.cn, .int .i64 q.h.sq, .int .i64 q.h.pu, .slice q.A q.n q.c]) 65))) hi q (hr3.below ((Below.refl _ _).alloc (Nat.le_refl _) (.cells (List.toArray [.int .i64 q.h.kd, .int .i64 q.h.fl, .int .i64 q.h.pa, .int .i64 q.h.sr, .int .i64 q.h.ds, .int .i64 q.h.cn, .int .i64 q.h.sq, .int .i64 q.h.pu, .slice q.A q.n q.c]) 65))) (some ⟨w3.heap.size, 0, none⟩) 1 (RdR.one w3 65 q.cl q.cl_one) (by rw [sel_took]; exact HRoom.out)))
    | (with_reducible refine at_load 65 (.tmp 7) (by rfl) ?_; refine wpList_load_pk rowP rfl (.tmp 7) rfl q w2.heap.size 0 rfl (Bk.pk (q := q) hz3) ?_))
  refine HPu.out.mono ?_
  rintro e w6 ⟨rfl, F6, Fl6, Fh6, ql6, qh6, hp6, hs6, hg6⟩
  rw [sel_took, HQX.out] at hp6
  have HPt := Lib.hid hp6
  have hbw : Below w3.heap.size w3 (w3.alloc (.cells (List.toArray [.int .i64 q.h.kd, .int .i64 q.h.fl, .int .i64 q.h.pa, .int .i64 q.h.sr, .int .i64 q.h.ds, .int .i64 q.h.cn, .int .i64 q.h.sq, .int .i64 q.h.pu, .slice q.A q.n q.c]) 65)) := (Below.refl _ _).alloc (Nat.le_refl _) _
  have hnbt : ¬ F6 w2.heap.size := hg6.not (Nat.lt_of_lt_of_le hz3.lt hbw.size) hnb
  have HZt := Lib.hid ((hz3.below hbw).st hs6 hnb)
  have HGt : Hid (Gr F F6 w.heap.size) := Lib.hid (HG1.out.trans hg6 (Nat.le_trans HS3.out.size hbw.size))
  have HSt : Hid (St F w w6) := Lib.hid ((HS3.out.trans (St.ext hbw) HG1.out).trans hs6 HG1.out)
  have hgx : Gr (fun k => F1 k ∨ X k) (fun k => F6 k ∨ X k) ((w3.alloc (.cells (List.toArray [.int .i64 q.h.kd, .int .i64 q.h.fl, .int .i64 q.h.pa, .int .i64 q.h.sr, .int .i64 q.h.ds, .int .i64 q.h.cn, .int .i64 q.h.sq, .int .i64 q.h.pu, .slice q.A q.n q.c]) 65))).heap.size := fun k hk => hk.elim (fun hk => (hg6 k hk).imp .inl id) (fun hk => .inl (.inr hk))
  have hsx : St (fun k => F1 k ∨ X k) (w3.alloc (.cells (List.toArray [.int .i64 q.h.kd, .int .i64 q.h.fl, .int .i64 q.h.pa, .int .i64 q.h.sr, .int .i64 q.h.ds, .int .i64 q.h.cn, .int .i64 q.h.sq, .int .i64 q.h.pu, .slice q.A q.n q.c]) 65)) w6 := hs6.mono fun k _ hk => .inl hk
  have HRt := Lib.hid ((hr3.below hbw).st hsx hgx)
  clear hp3 hz3 hr3 hp6 hs6 hg6 HS3
  go_wp2_with fail
  exact bodyPost_ret (results_tmp2 rfl _ _ _) rfl (ServeTo.zero HPt.out HSt.out HGt.out (by kernel_rfl) (by simp [AM.srv, AM.took]))
set_option maxHeartbeats 4000000 in
set_option maxRecDepth 100000 in
theorem pt_serve4 (h : PbC F X w b m pl ph Fl Fh ql qh) (hct : ∀ k, -1 ≤ m.ct k ∧ m.ct k ≤ 1000000) (x : Pk) (r : List Pk) (hx : m.sel m.hiB = x :: r) :
    Calls Try.prog 35 #[.pointer (some ⟨b, 0, none⟩), .int .i64 4] w (ServeTo F X w b pl ph (m.srv 4 m.hiB x r) [x] 0) := by
  have HN := Lib.hid (pt_next h)
  have HM := Lib.hid (pt_made h)
  have HP : Hid (∀ w1, Below w.heap.size w w1 → Calls Try.prog 51 #[.pointer (some ⟨ptr pl ph m.hiB, 0, none⟩)] w1 _) := Lib.hid fun w1 hb => pt_pop (h.below hb) m.hiB x r hx
  have hnr : (m.put m.hiB r).nrun m.hiB ≤ (m.put m.hiB r).wt := by
    rw [AM.nrun_put]
    have := AM.nrun_le h.ru h.w1 rfl
    exact this
  have HNR := Lib.hid hnr
  have hroom : r.length + 1 ≤ m.room m.hiB := by
    have := (h.qs m.hiB).le
    rw [← List.length_map (f := Pv.pk), h.qk, hx] at this
    simpa using this
  have HRoom := Lib.hid hroom
  have HCT := Lib.hid hct
  clear h hct hnr hroom hx
  generalize m.hiB = hi at *
  go_enter Try.func35, Try.ntmps35
  go_wp2_with (first
    | (go_at_call 49; refine HM.out.mono ?_; rintro e w' ⟨rfl, rfl⟩)
    | (go_at_call 50; refine HN.out.mono ?_; rintro e w1 ⟨rfl, hb1⟩)
    | (go_at_call 51; refine (HP.out _ hb1).mono ?_; rintro e w2 ⟨q, F1, Fl1, Fh1, ql1, qh1, rfl, hqx, hp2, hs2, hg2, hr2⟩
       have hz := Bk.new w2 65 [.int .i64 q.h.kd, .int .i64 q.h.fl, .int .i64 q.h.pa, .int .i64 q.h.sr, .int .i64 q.h.ds, .int .i64 q.h.cn, .int .i64 q.h.sq, .int .i64 q.h.pu, .slice q.A q.n q.c]
       have HCo := Lib.hid (pt_count (hp2.below ((Below.refl _ _).alloc (Nat.le_refl _) (.cells (List.toArray [.int .i64 q.h.kd, .int .i64 q.h.fl, .int .i64 q.h.pa, .int .i64 q.h.sr, .int .i64 q.h.ds, .int .i64 q.h.cn, .int .i64 q.h.sq, .int .i64 q.h.pu, .slice q.A q.n q.c]) 65))) hi HNR.out)
       have HQX := Lib.hid hqx
       clear hqx HP HN)
    | (go_at_call 52; refine HCo.out.mono ?_; rintro e w3 ⟨rfl, hp3, hs3⟩
       replace hp3 : PbC F1 X w3 b (m.took hi r) pl ph Fl1 Fh1 ql1 qh1 := by rw [AM.nrun_put] at hp3; exact hp3
       have hnb : ¬ F1 w2.heap.size := fun hf => by have := hp2.bd _ hf; omega
       have hz3 := hz.st hs3 hnb
       have hr3 := (hr2.below ((Below.refl _ _).alloc (Nat.le_refl _) (.cells (List.toArray [.int .i64 q.h.kd, .int .i64 q.h.fl, .int .i64 q.h.pa, .int .i64 q.h.sr, .int .i64 q.h.ds, .int .i64 q.h.cn, .int .i64 q.h.sq, .int .i64 q.h.pu, .slice q.A q.n q.c]) 65))).st (hs3.mono fun k _ hk => .inl hk) (Gr.refl _ _)
       have HS3 : Hid (St F w w3) := Lib.hid (((St.ext hb1).trans hs2 (Gr.refl _ _)).trans ((St.alloc F1 _ _).trans hs3 (Gr.refl _ _)) ((Gr.refl F _).trans hg2 hb1.size))
       have HG1 : Hid (Gr F F1 w.heap.size) := Lib.hid ((Gr.refl F _).trans hg2 hb1.size)
       clear HCo hs3 hs2 hg2 hr2 hp2 hz
       have HAl := Lib.hid (p_alike (F := fun k => F1 k ∨ X k) hr3 (fun k hk => hk.elim (hp3.bd k) (hp3.xb k))))
    | (with_reducible refine at_load 65 (.tmp 7) (by rfl) ?_; refine wpList_load_pk rowP rfl (.tmp 7) rfl q w2.heap.size 0 rfl (Bk.pk (q := q) hz3) ?_)
    | (go_at_call 54; refine HAl.out.mono ?_; rintro e w4 ⟨q4, rfl, hq4, hr4, hb4⟩
       have HQ4 := Lib.hid (hq4.trans HQX.out)
       have hb5 := hb4.alloc hb4.size (.cells (List.toArray [.int .i64 q4.h.kd, .int .i64 q4.h.fl, .int .i64 q4.h.pa, .int .i64 q4.h.sr, .int .i64 q4.h.ds, .int .i64 q4.h.cn, .int .i64 q4.h.sq, .int .i64 q4.h.pu, .slice q4.A q4.n q4.c]) 65)
       have HPu := Lib.hid (pt_push (hp3.below hb5) hi q4 (hr4.below ((Below.refl _ _).alloc (Nat.le_refl _) (.cells (List.toArray [.int .i64 q4.h.kd, .int .i64 q4.h.fl, .int .i64 q4.h.pa, .int .i64 q4.h.sr, .int .i64 q4.h.ds, .int .i64 q4.h.cn, .int .i64 q4.h.sq, .int .i64 q4.h.pu, .slice q4.A q4.n q4.c]) 65))) (some ⟨w4.heap.size, 0, none⟩) 1 (RdR.one w4 65 q4.cl q4.cl_one) (by rw [sel_took]; exact HRoom.out))
       clear HAl hq4 hr4))
  refine HPu.out.mono ?_
  rintro e w6 ⟨rfl, F6, Fl6, Fh6, ql6, qh6, hp6, hs6, hg6⟩
  rw [sel_took, HQ4.out] at hp6
  have HPt := Lib.hid hp6
  have hbw : Below w3.heap.size w3 (w4.alloc (.cells (List.toArray [.int .i64 q4.h.kd, .int .i64 q4.h.fl, .int .i64 q4.h.pa, .int .i64 q4.h.sr, .int .i64 q4.h.ds, .int .i64 q4.h.cn, .int .i64 q4.h.sq, .int .i64 q4.h.pu, .slice q4.A q4.n q4.c]) 65)) := hb5
  have hnbt : ¬ F6 w2.heap.size := hg6.not (Nat.lt_of_lt_of_le hz3.lt hbw.size) hnb
  have HZt := Lib.hid ((hz3.below hbw).st hs6 hnb)
  have HGt : Hid (Gr F F6 w.heap.size) := Lib.hid (HG1.out.trans hg6 (Nat.le_trans HS3.out.size hbw.size))
  have HSt : Hid (St F w w6) := Lib.hid ((HS3.out.trans (St.ext hbw) HG1.out).trans hs6 HG1.out)
  have hgx : Gr (fun k => F1 k ∨ X k) (fun k => F6 k ∨ X k) ((w4.alloc (.cells (List.toArray [.int .i64 q4.h.kd, .int .i64 q4.h.fl, .int .i64 q4.h.pa, .int .i64 q4.h.sr, .int .i64 q4.h.ds, .int .i64 q4.h.cn, .int .i64 q4.h.sq, .int .i64 q4.h.pu, .slice q4.A q4.n q4.c]) 65))).heap.size := fun k hk => hk.elim (fun hk => (hg6 k hk).imp .inl id) (fun hk => .inl (.inr hk))
  have hsx : St (fun k => F1 k ∨ X k) (w4.alloc (.cells (List.toArray [.int .i64 q4.h.kd, .int .i64 q4.h.fl, .int .i64 q4.h.pa, .int .i64 q4.h.sr, .int .i64 q4.h.ds, .int .i64 q4.h.cn, .int .i64 q4.h.sq, .int .i64 q4.h.pu, .slice q4.A q4.n q4.c]) 65)) w6 := hs6.mono fun k _ hk => .inl hk
  have HRt := Lib.hid ((hr3.below hbw).st hsx hgx)
  clear hp3 hz3 hr3 hp6 hs6 hg6 HS3
  go_wp2_with fail
  refine wp_region_L Ext [9] (by kernel_rfl) (fun wd hbd hsz => ?_)
  have hp4 := HPt.out.below hbd
  have hz4 := HZt.out.below hbd
  have hr4 := HRt.out.below hbd
  have hw : IntKind.i64.wrap (m.ct 0 + 1) = m.ct 0 + 1 := by have := HCT.out 0; rw [IntKind.wrap_i64]; omega
  have q0 : ∀ W, Ext wd W → W.cell? ⟨b, 4, none⟩ = some (.int .i64 (m.ct 0)) := fun W hW => (hp4.bk.below hW).cell 4 rfl
  have f0 := hp4.bk.free 4
  have c0 := hp4.bk.cell 4 rfl
  obtain ⟨hp5, hs5⟩ := hp4.cell 4 (.int .i64 (m.ct 0 + 1)) hp4.ru (ct := up m.ct 0 (m.ct 0 + 1)) rfl
  have hz5 := hz4.st hs5 hnbt
  have hr5 := hr4.st (hs5.mono fun k _ hk => .inl hk) (Gr.refl _ _)
  have HS5 := Lib.hid ((HSt.out.trans (St.ext hbd) HGt.out).trans hs5 HGt.out)
  have HP5 := Lib.hid hp5
  have HZ5 := Lib.hid hz5
  have HR5 := Lib.hid hr5
  clear hsz hp4 hz4 hr4 hp5 hs5 hz5 hr5
  (refine takeL Ext.tr 0 (by simp only [List.getElem?_toArray, List.getElem?_cons_succ, List.getElem?_cons_zero]; rfl) (by kernel_rfl) (by kernel_rfl) (by kernel_rfl) (by kernel_rfl) (by exact fun _ _ _ h => h) (by first | (refine Or.inl ⟨by rfl, ?_⟩; intro W hW; go_simp; try with_reducible rfl) | exact Or.inr ⟨by rfl, rfl⟩) ?_; try simp only [Act.put, List.setIfInBounds_toArray, List.set_cons_zero, List.set_cons_succ])
  (refine takeL Ext.tr 1 (by simp only [List.getElem?_toArray, List.getElem?_cons_succ, List.getElem?_cons_zero]; rfl) (by kernel_rfl) (by kernel_rfl) (by kernel_rfl) (by kernel_rfl) (by exact fun _ _ _ h => h) (by first | (refine Or.inl ⟨by rfl, ?_⟩; intro W hW; go_simp; try with_reducible rfl) | exact Or.inr ⟨by rfl, rfl⟩) ?_; try simp only [Act.put, List.setIfInBounds_toArray, List.set_cons_zero, List.set_cons_succ])
  (refine takeL Ext.tr 6 (by simp only [List.getElem?_toArray, List.getElem?_cons_succ, List.getElem?_cons_zero]; rfl) (by kernel_rfl) (by kernel_rfl) (by kernel_rfl) (by kernel_rfl) (by exact fun _ _ _ h => h) (by first | (refine Or.inl ⟨by rfl, ?_⟩; intro W hW; go_simp; try with_reducible rfl) | exact Or.inr ⟨by rfl, rfl⟩) ?_; try simp only [Act.put, List.setIfInBounds_toArray, List.set_cons_zero, List.set_cons_succ])
  (refine takeL Ext.tr 2 (by simp only [List.getElem?_toArray, List.getElem?_cons_succ, List.getElem?_cons_zero]; rfl) (by kernel_rfl) (by kernel_rfl) (by kernel_rfl) (by kernel_rfl) (by exact fun _ _ _ h => h) (by first | (refine Or.inl ⟨by rfl, ?_⟩; intro W hW; go_simp; try with_reducible rfl) | exact Or.inr ⟨by rfl, rfl⟩) ?_; try simp only [Act.put, List.setIfInBounds_toArray, List.set_cons_zero, List.set_cons_succ])
  (refine takeL Ext.tr 7 (by simp only [List.getElem?_toArray, List.getElem?_cons_succ, List.getElem?_cons_zero]; rfl) (by kernel_rfl) (by kernel_rfl) (by kernel_rfl) (by kernel_rfl) (by exact fun _ _ _ h => h) (by first | (refine Or.inl ⟨by rfl, ?_⟩; intro W hW; go_simp; try with_reducible rfl) | exact Or.inr ⟨by rfl, rfl⟩) ?_; try simp only [Act.put, List.setIfInBounds_toArray, List.set_cons_zero, List.set_cons_succ])
  (refine takeL Ext.tr 3 (by simp only [List.getElem?_toArray, List.getElem?_cons_succ, List.getElem?_cons_zero]; rfl) (by kernel_rfl) (by kernel_rfl) (by kernel_rfl) (by kernel_rfl) (by exact fun _ _ _ h => h) (by first | (refine Or.inl ⟨by rfl, ?_⟩; intro W hW; go_simp; try with_reducible rfl) | exact Or.inr ⟨by rfl, rfl⟩) ?_; try simp only [Act.put, List.setIfInBounds_toArray, List.set_cons_zero, List.set_cons_succ])
  (refine takeL Ext.tr 4 (by simp only [List.getElem?_toArray, List.getElem?_cons_succ, List.getElem?_cons_zero]; rfl) (by kernel_rfl) (by kernel_rfl) (by kernel_rfl) (by kernel_rfl) (by exact fun _ _ _ h => h) (by first | (refine Or.inl ⟨by rfl, ?_⟩; intro W hW; go_simp; try with_reducible rfl) | exact Or.inr ⟨by rfl, rfl⟩) ?_; try simp only [Act.put, List.setIfInBounds_toArray, List.set_cons_zero, List.set_cons_succ])
  (refine takeL Ext.tr 5 (by simp only [List.getElem?_toArray, List.getElem?_cons_succ, List.getElem?_cons_zero]; rfl) (by kernel_rfl) (by kernel_rfl) (by kernel_rfl) (by kernel_rfl) (by exact fun _ _ _ h => h) (by first | (refine Or.inl ⟨by rfl, ?_⟩; intro W hW; go_simp; try with_reducible rfl) | exact Or.inr ⟨by rfl, rfl⟩) ?_; try simp only [Act.put, List.setIfInBounds_toArray, List.set_cons_zero, List.set_cons_succ])
  (refine takeL Ext.tr 8 (by simp only [List.getElem?_toArray, List.getElem?_cons_succ, List.getElem?_cons_zero]; rfl) (by kernel_rfl) (by kernel_rfl) (by kernel_rfl) (by kernel_rfl) (by exact fun _ _ _ h => h) (by first | (refine Or.inl ⟨by rfl, ?_⟩; intro W hW; go_simp; try with_reducible rfl) | exact Or.inr ⟨by rfl, rfl⟩) ?_; try simp only [Act.put, List.setIfInBounds_toArray, List.set_cons_zero, List.set_cons_succ])
  refine wpAnyL_one (i := 9) (by kernel_rfl) (by simp only [List.getElem?_toArray, List.getElem?_cons_succ, List.getElem?_cons_zero]; rfl) (fun K hK => ?_)
  go_simp
  refine hK.out _ _ (.inl (by decide)) ?_
  clear hK K
  try simp only [Act.put, List.setIfInBounds_toArray, List.set_cons_zero, List.set_cons_succ]
  refine wpAnyL_done (by kernel_rfl) ?_ _
  skip
  go_wp2_with (first
    | (with_reducible refine at_load 65 (.tmp 7) (by rfl) ?_; refine wpList_load_pk rowP rfl (.tmp 7) rfl q w2.heap.size 0 rfl (Bk.pk (q := q) HZ5.out) ?_))
  have hB : wd.heap.size = (wd.setCell ⟨b, 4, none⟩ (.int .i64 (m.ct 0 + 1))).heap.size := by simp [World.setCell]
  exact bodyPost_ret (results_tmp2 rfl _ _ _) rfl (ServeTo.one HP5.out HS5.out HGt.out HR5.out HQX.out hB (by kernel_rfl) (by simp [AM.srv, AM.took]))
/-- What Serve makes of a port. -/
theorem pt_serve (h : PbC F X w b m pl ph Fl Fh ql qh) (hct : ∀ k, -1 ≤ m.ct k ∧ m.ct k ≤ 1000000) (f : Int) (hf1 : 1 ≤ f) (hf2 : f ≤ 4) (x : Pk) (r : List Pk) (hx : m.sel m.hiB = x :: r) :
    Calls Try.prog 35 #[.pointer (some ⟨b, 0, none⟩), .int .i64 f] w (ServeTo F X w b pl ph (m.srv f m.hiB x r) (if f = 1 ∨ f = 4 then [x] else []) 0) := by
  rcases (by omega : f = 1 ∨ f = 2 ∨ f = 3 ∨ f = 4) with rfl | rfl | rfl | rfl
  · exact pt_serve1 h hct x r hx
  · exact pt_serve2 h hct x r hx
  · exact pt_serve3 h hct x r hx
  · exact pt_serve4 h hct x r hx
end
end Go.Proofs.Ytboclbanccfbjaa
