/- Ports in memory. -/
import Derived.Test.YtbhhgfpliggkgaaP4
set_option linter.unusedSimpArgs false
set_option linter.unusedVariables false
set_option maxRecDepth 100000
namespace Go.Proofs.Ytbhhgfpliggkgaa
open Go.RowKit Go.Shelf

/-- A port by what it holds. -/
structure AM where
  low : List Pk
  high : List Pk
  lr : Nat
  hr : Nat
  wt : Nat
  run : Nat
  ct : Nat → Int
def AM.sel (m : AM) (hi : Bool) : List Pk := if hi then m.high else m.low
def AM.room (m : AM) (hi : Bool) : Nat := if hi then m.hr else m.lr
def AM.put (m : AM) (hi : Bool) (l : List Pk) : AM := { m with low := if hi then m.low else l, high := if hi then l else m.high }
theorem AM.sel_put (m : AM) (hi : Bool) (l : List Pk) : (m.put hi l).sel hi = l := by cases hi <;> rfl
theorem AM.put_put (m : AM) (hi : Bool) (l k : List Pk) : (m.put hi l).put hi k = m.put hi k := by cases hi <;> rfl
/-- A port's cells. -/
def ptL (pl ph wt run : Nat) (ct : Nat → Int) : List Value := [.pointer (some ⟨pl, 0, none⟩), .pointer (some ⟨ph, 0, none⟩), .int .i64 wt, .int .i64 run, .int .i64 (ct 0), .int .i64 (ct 1), .int .i64 (ct 2), .int .i64 (ct 3), .int .i64 (ct 4)]
/-- Block b holds the port m; all of it lies in the blocks of F; its packets' payloads lie neither there nor in X. -/
structure PbC (F X : Nat → Prop) (w : World) (b : Nat) (m : AM) (pl ph : Nat) (Fl Fh : Nat → Prop) (ql qh : List Pv) : Prop where
  bk : Bk w 100 b (ptL pl ph m.wt m.run m.ct)
  w1 : 1 ≤ m.wt
  w2 : m.wt ≤ 1024
  ru : m.run ≤ m.wt
  lo : Qs Fl w pl m.lr ql
  hi : Qs Fh w ph m.hr qh
  lk : ql.map Pv.pk = m.low
  hk : qh.map Pv.pk = m.high
  pl_ : ∀ q ∈ ql, PvR (fun k => F k ∨ X k) w q
  ph_ : ∀ q ∈ qh, PvR (fun k => F k ∨ X k) w q
  f : ∀ k, F k ↔ k = b ∨ Fl k ∨ Fh k
  nl : ¬ Fl b
  nh : ¬ Fh b
  sep : Sep Fl Fh
  xb : ∀ k, X k → k < w.heap.size
def Pb (F X : Nat → Prop) (w : World) (b : Nat) (m : AM) : Prop := ∃ pl ph Fl Fh ql qh, PbC F X w b m pl ph Fl Fh ql qh
/-- The port is this one now; nothing else of what was there has changed. -/
def DidP (F X : Nat → Prop) (b : Nat) (m : AM) (w w' : World) : Prop := ∃ F', Pb F' X w' b m ∧ St F w w' ∧ Gr F F' w.heap.size
section
variable {F X : Nat → Prop} {w w' : World} {b : Nat} {m : AM} {pl ph : Nat} {Fl Fh : Nat → Prop} {ql qh : List Pv}
theorem PbC.bd (h : PbC F X w b m pl ph Fl Fh ql qh) : ∀ k, F k → k < w.heap.size := fun k hk => by
  rcases (h.f k).1 hk with rfl | hk | hk
  · exact h.bk.lt
  · exact h.lo.bd k hk
  · exact h.hi.bd k hk
theorem PbC.below (h : PbC F X w b m pl ph Fl Fh ql qh) (hb : Below w.heap.size w w') : PbC F X w' b m pl ph Fl Fh ql qh :=
  ⟨h.bk.below hb, h.w1, h.w2, h.ru, h.lo.below hb, h.hi.below hb, h.lk, h.hk, fun q hq => (h.pl_ q hq).below hb, fun q hq => (h.ph_ q hq).below hb, h.f, h.nl, h.nh, h.sep, fun k hk => Nat.lt_of_lt_of_le (h.xb k hk) hb.size⟩
/-- Blocks of the call's own are off limits too. -/
theorem PbC.ext (h : PbC F X w b m pl ph Fl Fh ql qh) (hb : Below w.heap.size w w') {X1 : Nat → Prop} (hX : ∀ k, X1 k → X k ∨ w.heap.size ≤ k) (hX1 : ∀ k, X1 k → k < w'.heap.size) : PbC F X1 w' b m pl ph Fl Fh ql qh := by
  have hg : Gr (fun k => F k ∨ X k) (fun k => F k ∨ X1 k) w.heap.size := fun k hk => by
    rcases hk with hk | hk
    · exact .inl (.inl hk)
    · exact (hX k hk).imp .inr id
  exact ⟨h.bk.below hb, h.w1, h.w2, h.ru, h.lo.below hb, h.hi.below hb, h.lk, h.hk, fun q hq => ((h.pl_ q hq).gr hg).below hb, fun q hq => ((h.ph_ q hq).gr hg).below hb, h.f, h.nl, h.nh, h.sep, hX1⟩
theorem PbC.less (h : PbC F X w b m pl ph Fl Fh ql qh) {X1 : Nat → Prop} (hX : ∀ k, X1 k → X k) : PbC F X1 w b m pl ph Fl Fh ql qh :=
  ⟨h.bk, h.w1, h.w2, h.ru, h.lo, h.hi, h.lk, h.hk, fun q hq => (h.pl_ q hq).mono fun k hk => hk.imp id (hX k), fun q hq => (h.ph_ q hq).mono fun k hk => hk.imp id (hX k), h.f, h.nl, h.nh, h.sep, fun k hk => h.xb k (hX k hk)⟩
theorem PbC.sel_len (h : PbC F X w b m pl ph Fl Fh ql qh) : ql.length = m.low.length ∧ qh.length = m.high.length := ⟨by rw [← h.lk, List.length_map], by rw [← h.hk, List.length_map]⟩
/-- Another port's, or nobody's, blocks turn. -/
theorem PbC.st (h : PbC F X w b m pl ph Fl Fh ql qh) {G : Nat → Prop} (hs : St G w w') (hFG : ∀ k, F k → ¬ G k) (hGX : ∀ k, G k → X k ∨ w.heap.size ≤ k) : PbC F X w' b m pl ph Fl Fh ql qh := by
  have hb : F b := (h.f b).2 (.inl rfl)
  have hp : ∀ q, PvR (fun k => F k ∨ X k) w q → PvR (fun k => F k ∨ X k) w' q := fun q hq =>
    ⟨hq.1.st hs (fun hn ad he hg => by
      rcases hGX _ hg with hx | hx
      · exact hq.2.2.2 hn ad he (.inr hx)
      · have := hq.1.blk hn ad he; omega), hq.2⟩
  exact ⟨h.bk.st hs (hFG b hb), h.w1, h.w2, h.ru, h.lo.st hs fun k hk => hFG k ((h.f k).2 (.inr (.inl hk))), h.hi.st hs fun k hk => hFG k ((h.f k).2 (.inr (.inr hk))), h.lk, h.hk, fun q hq => hp q (h.pl_ q hq), fun q hq => hp q (h.ph_ q hq), h.f, h.nl, h.nh, h.sep, fun k hk => Nat.lt_of_lt_of_le (h.xb k hk) hs.size⟩
theorem Pb.bd (h : Pb F X w b m) : ∀ k, F k → k < w.heap.size := by obtain ⟨_, _, _, _, _, _, h⟩ := h; exact h.bd
theorem Pb.at (h : Pb F X w b m) : F b := by obtain ⟨_, _, _, _, _, _, h⟩ := h; exact (h.f b).2 (.inl rfl)
theorem Pb.xb (h : Pb F X w b m) : ∀ k, X k → k < w.heap.size := by obtain ⟨_, _, _, _, _, _, h⟩ := h; exact h.xb
theorem Pb.below (h : Pb F X w b m) (hb : Below w.heap.size w w') : Pb F X w' b m := by obtain ⟨a1, a2, a3, a4, a5, a6, h⟩ := h; exact ⟨a1, a2, a3, a4, a5, a6, h.below hb⟩
theorem Pb.st (h : Pb F X w b m) {G : Nat → Prop} (hs : St G w w') (hFG : ∀ k, F k → ¬ G k) (hGX : ∀ k, G k → X k ∨ w.heap.size ≤ k) : Pb F X w' b m := by obtain ⟨a1, a2, a3, a4, a5, a6, h⟩ := h; exact ⟨a1, a2, a3, a4, a5, a6, h.st hs hFG hGX⟩
theorem DidP.of (h : Pb F X w b m) (hb : Below w.heap.size w w') : DidP F X b m w w' := ⟨F, h.below hb, St.ext hb, Gr.refl _ _⟩
theorem DidP.trans {w1 : World} {F1 : Nat → Prop} (hs : St F w w1) (hg : Gr F F1 w.heap.size) (h : DidP F1 X b m w1 w') : DidP F X b m w w' := by
  obtain ⟨F', h1, h2, h3⟩ := h
  exact ⟨F', h1, hs.trans h2 hg, hg.trans h3 hs.size⟩
theorem DidP.then {w1 : World} (h : DidP F X b m w w1) (hb : Below w1.heap.size w1 w') : DidP F X b m w w' := by
  obtain ⟨F', h1, h2, h3⟩ := h
  exact ⟨F', h1.below hb, h2.trans (St.ext hb) h3, h3⟩
theorem DidP.on {w1 : World} (hb : Below w.heap.size w w1) (h : DidP F X b m w1 w') : DidP F X b m w w' := DidP.trans (St.ext hb) (Gr.refl _ _) h
/-- The queue that is meant, its blocks, its place. -/
def ptr (pl ph : Nat) (hi : Bool) : Nat := if hi then ph else pl
def AM.qv (ql qh : List Pv) (hi : Bool) : List Pv := if hi then qh else ql
theorem PbC.qs (h : PbC F X w b m pl ph Fl Fh ql qh) (hi : Bool) : Qs (if hi then Fh else Fl) w (ptr pl ph hi) (m.room hi) (AM.qv ql qh hi) := by
  cases hi
  · exact h.lo
  · exact h.hi
theorem PbC.qk (h : PbC F X w b m pl ph Fl Fh ql qh) (hi : Bool) : (AM.qv ql qh hi).map Pv.pk = m.sel hi := by
  cases hi
  · exact h.lk
  · exact h.hk
theorem PbC.qp (h : PbC F X w b m pl ph Fl Fh ql qh) (hi : Bool) : ∀ q ∈ AM.qv ql qh hi, PvR (fun k => F k ∨ X k) w q := by
  cases hi
  · exact h.pl_
  · exact h.ph_
theorem PbC.ne (h : PbC F X w b m pl ph Fl Fh ql qh) : pl ≠ ph := fun e => h.sep pl h.lo.at (by rw [e]; exact h.hi.at)
/-- One of the queues has turned. -/
theorem PbC.did (h : PbC F X w b m pl ph Fl Fh ql qh) (hi : Bool) {us : List Pv} (hd : DidQ (if hi then Fh else Fl) (ptr pl ph hi) (m.room hi) us w w') (hu : ∀ q ∈ us, PvR (fun k => F k ∨ X k) w q) :
    ∃ F' Fl' Fh' ql' qh', PbC F' X w' b (m.put hi (us.map Pv.pk)) pl ph Fl' Fh' ql' qh' ∧ St F w w' ∧ Gr F F' w.heap.size := by
  cases hi with
  | true =>
    obtain ⟨F1, h1, h2, h3⟩ := hd
    have hg : Gr F (fun k => k = b ∨ Fl k ∨ F1 k) w.heap.size := fun k hk => by
      rcases hk with rfl | hk | hk
      · exact .inl ((h.f _).2 (.inl rfl))
      · exact .inl ((h.f _).2 (.inr (.inl hk)))
      · exact (h3 k hk).imp (fun hk => (h.f _).2 (.inr (.inr hk))) id
    have hgx : Gr (fun k => F k ∨ X k) (fun k => (k = b ∨ Fl k ∨ F1 k) ∨ X k) w.heap.size := fun k hk => by
      rcases hk with hk | hk
      · exact (hg k hk).imp .inl id
      · exact .inl (.inr hk)
    have hs : St F w w' := h2.mono fun k _ hk => (h.f _).2 (.inr (.inr hk))
    have hsx : St (fun k => F k ∨ X k) w w' := hs.mono fun k _ hk => .inl hk
    refine ⟨fun k => k = b ∨ Fl k ∨ F1 k, Fl, F1, ql, us, ⟨h.bk.st h2 h.nh, h.w1, h.w2, h.ru, h.lo.st h2 h.sep, h1, h.lk, rfl, fun q hq => (h.pl_ q hq).st hsx hgx, fun q hq => (hu q hq).st hsx hgx, fun k => Iff.rfl, h.nl, ?_, ?_, fun k hk => Nat.lt_of_lt_of_le (h.xb k hk) hs.size⟩, hs, hg⟩
    · exact h3.not h.bk.lt h.nh
    · exact fun k hk => h3.not (h.lo.bd k hk) (h.sep k hk)
  | false =>
    obtain ⟨F1, h1, h2, h3⟩ := hd
    have hg : Gr F (fun k => k = b ∨ F1 k ∨ Fh k) w.heap.size := fun k hk => by
      rcases hk with rfl | hk | hk
      · exact .inl ((h.f _).2 (.inl rfl))
      · exact (h3 k hk).imp (fun hk => (h.f _).2 (.inr (.inl hk))) id
      · exact .inl ((h.f _).2 (.inr (.inr hk)))
    have hgx : Gr (fun k => F k ∨ X k) (fun k => (k = b ∨ F1 k ∨ Fh k) ∨ X k) w.heap.size := fun k hk => by
      rcases hk with hk | hk
      · exact (hg k hk).imp .inl id
      · exact .inl (.inr hk)
    have hs : St F w w' := h2.mono fun k _ hk => (h.f _).2 (.inr (.inl hk))
    have hsx : St (fun k => F k ∨ X k) w w' := hs.mono fun k _ hk => .inl hk
    refine ⟨fun k => k = b ∨ F1 k ∨ Fh k, F1, Fh, us, qh, ⟨h.bk.st h2 h.nl, h.w1, h.w2, h.ru, h1, h.hi.st h2 fun k hk hl => h.sep k hl hk, rfl, h.hk, fun q hq => (hu q hq).st hsx hgx, fun q hq => (h.ph_ q hq).st hsx hgx, fun k => Iff.rfl, ?_, h.nh, ?_, fun k hk => Nat.lt_of_lt_of_le (h.xb k hk) hs.size⟩, hs, hg⟩
    · exact h3.not h.bk.lt h.nl
    · exact fun k hk hh => h3.not (h.hi.bd k hh) (fun hl => h.sep k hl hh) hk
/-- A cell of the port itself is written. -/
theorem PbC.cell (h : PbC F X w b m pl ph Fl Fh ql qh) (i : Nat) (u : Value) {run : Nat} {ct : Nat → Int} (hr : run ≤ m.wt) (hl : (ptL pl ph m.wt m.run m.ct).set i u = ptL pl ph m.wt run ct) :
    PbC F X (w.setCell ⟨b, i, none⟩ u) b { m with run := run, ct := ct } pl ph Fl Fh ql qh ∧ St F w (w.setCell ⟨b, i, none⟩ u) := by
  have hb : F b := (h.f b).2 (.inl rfl)
  have hs : St (· = b) w (w.setCell ⟨b, i, none⟩ u) := (St.setCell (F := (· = b)) w (a := ⟨b, i, none⟩) rfl u)
  have hsx : St (fun k => F k ∨ X k) w (w.setCell ⟨b, i, none⟩ u) := hs.mono fun k _ hk => by rw [hk]; exact .inl hb
  refine ⟨⟨?_, h.w1, h.w2, hr, h.lo.st hs (fun k hk e => h.nl (e ▸ hk)), h.hi.st hs (fun k hk e => h.nh (e ▸ hk)), h.lk, h.hk, fun q hq => (h.pl_ q hq).st hsx (Gr.refl _ _), fun q hq => (h.ph_ q hq).st hsx (Gr.refl _ _), h.f, h.nl, h.nh, h.sep, fun k hk => Nat.lt_of_lt_of_le (h.xb k hk) hs.size⟩, hs.mono fun k _ hk => by rw [hk]; exact hb⟩
  have := h.bk.set i u
  rw [hl] at this
  exact this
/-! The calls that ask. -/
theorem pt_made (h : PbC F X w b m pl ph Fl Fh ql qh) :
    Calls Try.prog 49 #[.pointer (some ⟨b, 0, none⟩)] w fun e w' => e = .returned (.bool true) ∧ w = w' := by
  have c2 := h.bk.cell 2 rfl
  have h1 := h.w1
  clear h
  go_enter Try.func49, Try.ntmps49
  go_wp2
  go_ret
  exact ⟨by simp [Act.tmps]; omega, rfl⟩
theorem pt_len (h : PbC F X w b m pl ph Fl Fh ql qh) (hi : Bool) :
    Calls Try.prog 56 #[.pointer (some ⟨ptr pl ph hi, 0, none⟩)] w fun e w' => e = .returned (.int .i64 (m.sel hi).length) ∧ w = w' := by
  have hh := q_len (h.qs hi)
  have : (AM.qv ql qh hi).length = (m.sel hi).length := by rw [← h.qk hi, List.length_map]
  rw [this] at hh
  exact hh
theorem pt_room (h : PbC F X w b m pl ph Fl Fh ql qh) (hi : Bool) :
    Calls Try.prog 67 #[.pointer (some ⟨ptr pl ph hi, 0, none⟩)] w fun e w' => e = .returned (.int .i64 (m.room hi - (m.sel hi).length)) ∧ Below w.heap.size w w' := by
  have hh := q_room (h.qs hi)
  have : (AM.qv ql qh hi).length = (m.sel hi).length := by rw [← h.qk hi, List.length_map]
  rw [this] at hh
  exact hh
theorem pt_lenq (h : PbC F X w b m pl ph Fl Fh ql qh) (hi : Bool) (n : Nat) :
    Calls Try.prog 56 #[.pointer (some ⟨ptr pl ph hi, 0, none⟩)] (w.drewN n) fun e w' => e = .returned (.int .i64 (m.sel hi).length) ∧ ∃ k, w' = w.drewN k :=
  (pt_len (h.below (Below.drewN_ w n)) hi).mono fun _ _ h => ⟨h.1, _, h.2.symm⟩
set_option maxHeartbeats 4000000 in
theorem pt_lens (h : PbC F X w b m pl ph Fl Fh ql qh) :
    Calls Try.prog 38 #[.pointer (some ⟨b, 0, none⟩)] w fun e w' => e = .returned (.tuple #[.int .i64 m.low.length, .int .i64 m.high.length]) ∧ Below w.heap.size w w' := by
  have HM := Lib.hid (pt_made h)
  go_enter Try.func38, Try.ntmps38
  go_wp2_with (go_at_call 49; refine HM.out.mono ?_; rintro e w' ⟨rfl, rfl⟩)
  refine wp_region_E Ext (by kernel_rfl) (fun wd hbd hsz => ?_)
  have HP := Lib.hid (h.below hbd)
  have q0 : ∀ W, Ext wd W → W.cell? ⟨b, 0, none⟩ = some (.pointer (some ⟨pl, 0, none⟩)) := fun W hW => (h.bk.below (Ext.trans _ _ _ hbd hW)).cell 0 rfl
  have q1 : ∀ W, Ext wd W → W.cell? ⟨b, 1, none⟩ = some (.pointer (some ⟨ph, 0, none⟩)) := fun W hW => (h.bk.below (Ext.trans _ _ _ hbd hW)).cell 1 rfl
  have HBD := Lib.hid hbd
  clear hsz h
  (refine takeE Ext.tr 0 (by simp only [List.getElem?_toArray, List.getElem?_cons_succ, List.getElem?_cons_zero]; rfl) (by kernel_rfl) (by kernel_rfl) (by kernel_rfl) (by exact fun _ _ _ h => h) (by first | (refine Or.inl ⟨by rfl, ?_⟩; intro W hW; go_simp; try with_reducible rfl) | exact Or.inr ⟨by rfl, rfl⟩) ?_; try simp only [Act.put, List.setIfInBounds_toArray, List.set_cons_zero, List.set_cons_succ])
  (refine takeE Ext.tr 5 (by simp only [List.getElem?_toArray, List.getElem?_cons_succ, List.getElem?_cons_zero]; rfl) (by kernel_rfl) (by kernel_rfl) (by kernel_rfl) (by exact fun _ _ _ h => h) (by first | (refine Or.inl ⟨by rfl, ?_⟩; intro W hW; go_simp; try with_reducible rfl) | exact Or.inr ⟨by rfl, rfl⟩) ?_; try simp only [Act.put, List.setIfInBounds_toArray, List.set_cons_zero, List.set_cons_succ])
  (refine takeE Ext.tr 1 (by simp only [List.getElem?_toArray, List.getElem?_cons_succ, List.getElem?_cons_zero]; rfl) (by kernel_rfl) (by kernel_rfl) (by kernel_rfl) (by exact fun _ _ _ h => h) (by first | (refine Or.inl ⟨by rfl, ?_⟩; intro W hW; go_simp; try with_reducible rfl) | exact Or.inr ⟨by rfl, rfl⟩) ?_; try simp only [Act.put, List.setIfInBounds_toArray, List.set_cons_zero, List.set_cons_succ])
  (refine takeE Ext.tr 6 (by simp only [List.getElem?_toArray, List.getElem?_cons_succ, List.getElem?_cons_zero]; rfl) (by kernel_rfl) (by kernel_rfl) (by kernel_rfl) (by exact fun _ _ _ h => h) (by first | (refine Or.inl ⟨by rfl, ?_⟩; intro W hW; go_simp; try with_reducible rfl) | exact Or.inr ⟨by rfl, rfl⟩) ?_; try simp only [Act.put, List.setIfInBounds_toArray, List.set_cons_zero, List.set_cons_succ])
  (refine takeE Ext.tr 2 (by simp only [List.getElem?_toArray, List.getElem?_cons_succ, List.getElem?_cons_zero]; rfl) (by kernel_rfl) (by kernel_rfl) (by kernel_rfl) (by exact fun _ _ _ h => h) (by first | (refine Or.inl ⟨by rfl, ?_⟩; intro W hW; go_simp; try with_reducible rfl) | exact Or.inr ⟨by rfl, rfl⟩) ?_; try simp only [Act.put, List.setIfInBounds_toArray, List.set_cons_zero, List.set_cons_succ])
  (refine takeE Ext.tr 7 (by simp only [List.getElem?_toArray, List.getElem?_cons_succ, List.getElem?_cons_zero]; rfl) (by kernel_rfl) (by kernel_rfl) (by kernel_rfl) (by exact fun _ _ _ h => h) (by first | (refine Or.inl ⟨by rfl, ?_⟩; intro W hW; go_simp; try with_reducible rfl) | exact Or.inr ⟨by rfl, rfl⟩) ?_; try simp only [Act.put, List.setIfInBounds_toArray, List.set_cons_zero, List.set_cons_succ])
  (refine takeE Ext.tr 3 (by simp only [List.getElem?_toArray, List.getElem?_cons_succ, List.getElem?_cons_zero]; rfl) (by kernel_rfl) (by kernel_rfl) (by kernel_rfl) (by exact fun _ _ _ h => h) (by first | (refine Or.inl ⟨by rfl, ?_⟩; intro W hW; go_simp; try with_reducible rfl) | exact Or.inr ⟨by rfl, rfl⟩) ?_; try simp only [Act.put, List.setIfInBounds_toArray, List.set_cons_zero, List.set_cons_succ])
  (refine takeE Ext.tr 8 (by simp only [List.getElem?_toArray, List.getElem?_cons_succ, List.getElem?_cons_zero]; rfl) (by kernel_rfl) (by kernel_rfl) (by kernel_rfl) (by exact fun _ _ _ h => h) (by first | (refine Or.inl ⟨by rfl, ?_⟩; intro W hW; go_simp; try with_reducible rfl) | exact Or.inr ⟨by rfl, rfl⟩) ?_; try simp only [Act.put, List.setIfInBounds_toArray, List.set_cons_zero, List.set_cons_succ])
  refine wpAnyE_one (i := 4) (by kernel_rfl) (by simp only [List.getElem?_toArray, List.getElem?_cons_succ, List.getElem?_cons_zero]; rfl) (fun K hK => ?_)
  go_simp
  refine (pt_len HP.out false).mono ?_
  rintro e w1 ⟨rfl, rfl⟩
  refine hK.out _ _ (Ext.refl _) ?_
  clear hK K
  try simp only [Act.put, List.setIfInBounds_toArray, List.set_cons_zero, List.set_cons_succ]
  refine wpAnyE_one (i := 9) (by kernel_rfl) (by simp only [List.getElem?_toArray, List.getElem?_cons_succ, List.getElem?_cons_zero]; rfl) (fun K hK => ?_)
  go_simp
  refine (pt_len HP.out true).mono ?_
  rintro e w1 ⟨rfl, rfl⟩
  refine hK.out _ _ (Ext.refl _) ?_
  clear hK K
  try simp only [Act.put, List.setIfInBounds_toArray, List.set_cons_zero, List.set_cons_succ]
  (refine takeE Ext.tr 10 (by simp only [List.getElem?_toArray, List.getElem?_cons_succ, List.getElem?_cons_zero]; rfl) (by kernel_rfl) (by kernel_rfl) (by kernel_rfl) (by exact fun _ _ _ h => h) (by first | (refine Or.inl ⟨by rfl, ?_⟩; intro W hW; go_simp; try with_reducible rfl) | exact Or.inr ⟨by rfl, rfl⟩) ?_; try simp only [Act.put, List.setIfInBounds_toArray, List.set_cons_zero, List.set_cons_succ])
  (refine takeE Ext.tr 11 (by simp only [List.getElem?_toArray, List.getElem?_cons_succ, List.getElem?_cons_zero]; rfl) (by kernel_rfl) (by kernel_rfl) (by kernel_rfl) (by exact fun _ _ _ h => h) (by first | (refine Or.inl ⟨by rfl, ?_⟩; intro W hW; go_simp; try with_reducible rfl) | exact Or.inr ⟨by rfl, rfl⟩) ?_; try simp only [Act.put, List.setIfInBounds_toArray, List.set_cons_zero, List.set_cons_succ])
  refine wpAnyE_done (by kernel_rfl) ?_ _
  skip
  all_goals
    go_wp2
    go_ret2
    exact ⟨rfl, HBD.out⟩
end
end Go.Proofs.Ytbhhgfpliggkgaa
