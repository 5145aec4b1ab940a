/- A Join: a part is added. -/
import Derived.Test.YtmmjhijgedboiaaJ3
set_option linter.unusedSimpArgs false
set_option linter.unusedVariables false
set_option maxRecDepth 100000
namespace Go.Proofs.Ytmmjhijgedboiaa
open Go.RowKit Go.Shelf
/-- This cell stays. -/
def Kc (p : Addr) (w w' : World) : Prop := w'.cell? p = w.cell? p
theorem Kc.tr (p : Addr) : Tr (Kc p) := ⟨fun _ => rfl, fun _ _ _ h k => k.trans h⟩
def Jm.refuse (m : Jm) (xs : List Int) : Int := if xs.length = 0 then 120 else if 65536 < m.op + xs.length then 2 else 0
def Jm.is (m : Jm) (xs : List Int) (en : Bool) : Bool := decide (m.refuse xs = 0) && en
def Jm.told (m : Jm) (xs : List Int) (en : Bool) : List Int := if m.is xs en = true then m.fl ++ xs else []
def Jm.plus (m : Jm) (xs : List Int) : Jm := ⟨m.ps ++ [xs], m.N, m.T⟩
def Jm.add (m : Jm) (xs : List Int) (en : Bool) : Jm := if m.refuse xs = 0 then (if en = true then ⟨[], m.N + 1, m.T + (m.op + xs.length : Nat)⟩ else m.plus xs) else m
theorem Jm.plus_fl (m : Jm) (xs : List Int) : (m.plus xs).fl = m.fl ++ xs := by simp [Jm.plus, Jm.fl]
theorem Jm.plus_op (m : Jm) (xs : List Int) : (m.plus xs).op = m.op + xs.length := by simp [Jm.plus, Jm.op]
/-- What an Add leaves. -/
def AddR (F : Nat → Prop) (w : World) (g : Nat) (m : Jm) (xs : List Int) (en : Bool) (e : Ending) (w' : World) : Prop :=
  ∃ A n c F', e = .returned (.tuple #[.slice A n c, .bool (m.is xs en), .int .i64 (m.refuse xs)]) ∧ JnC F' w' g (m.add xs en) ∧ BsR w' A n c (m.told xs en) ∧
    (∀ k, BlkOf A k → w.heap.size ≤ k ∧ ¬ F' k) ∧ St F w w' ∧ Gr F F' w.heap.size
section
variable {F : Nat → Prop} {w : World} {g : Nat} {m : Jm} {B : Option Addr} {l d : Nat} {xs : List Int} {en : Bool}
theorem AddR.no (h : JnC F w g m) (hr : m.refuse xs ≠ 0) : AddR F w g m xs en (.returned (.tuple #[.slice none 0 0, .bool false, .int .i64 (m.refuse xs)])) w := by
  have h1 : m.is xs en = false := by simp [Jm.is, hr]
  refine ⟨none, 0, 0, F, by rw [h1], ?_, ?_, ?_, St.refl _ _, Gr.refl _ _⟩
  · unfold Jm.add; rw [if_neg hr]; exact h
  · unfold Jm.told; rw [h1]; exact BsR.nil w
  · rintro k ⟨ad, he, _⟩; cases he
theorem AddR.on {F' : Nat → Prop} {wd w' : World} {A : Option Addr} {n c : Nat} (hb : Below w.heap.size w wd) (hE : m.refuse xs = 0) (hj : JnA F' w' g (m.plus xs) A n c) (hs : St F wd w') (hg : Gr F F' wd.heap.size) :
    AddR F w g m xs false (.returned (.tuple #[.slice none 0 0, .bool false, .int .i64 0])) w' := by
  have h1 : m.is xs false = false := by simp [Jm.is]
  refine ⟨none, 0, 0, F', by rw [h1, hE], ?_, ?_, ?_, (St.ext hb).trans hs (Gr.refl _ _), fun k hk => (hg k hk).imp id (Nat.le_trans hb.size)⟩
  · unfold Jm.add; rw [if_pos hE, if_neg (by simp)]; exact ⟨_, _, _, hj⟩
  · unfold Jm.told; rw [h1]; exact BsR.nil _
  · rintro k ⟨ad, he, _⟩; cases he
theorem j_add_no (h : JnC F w g m) (hx : xs.length = l) (hr : m.refuse xs ≠ 0) :
    Calls Try.prog 61 #[.pointer (some ⟨g, 0, none⟩), .slice B l d, .bool en] w (AddR F w g m xs en) := by
  have HM := Lib.hid (j_made h)
  have HF := Lib.hid (j_fits h l)
  have HR := Lib.hid (AddR.no (en := en) h hr)
  have hle : m.op ≤ 65536 := by obtain ⟨A, n, c, h⟩ := h; exact h.le
  by_cases h0 : l = 0
  · have HE : Hid (m.refuse xs = 120) := Lib.hid (by unfold Jm.refuse; rw [if_pos (by omega)])
    subst h0
    clear h hx hr
    go_enter Try.func61, Try.ntmps61
    go_wp2_with (go_at_call 70; refine HM.out.mono ?_; rintro e w' ⟨rfl, rfl⟩)
    go_ret3
    rw [← HE.out]
    exact HR.out
  · have h2 : 65536 < m.op + l := by
      refine Decidable.byContradiction fun hc => hr ?_
      unfold Jm.refuse
      rw [if_neg (by omega), if_neg (by omega)]
    have HE : Hid (m.refuse xs = 2) := Lib.hid (by unfold Jm.refuse; rw [if_neg (by omega), if_pos (by omega)])
    have HV : Hid (fitV m l = false) := Lib.hid (by simp [fitV]; omega)
    have hl0 : ((l : Int) == 0) = false := by simp; omega
    clear h hx hr h2
    go_enter Try.func61, Try.ntmps61
    go_wp2_with (first
      | (go_at_call 70; refine HM.out.mono ?_; rintro e w' ⟨rfl, rfl⟩)
      | (go_at_call 71; refine HF.out.mono ?_; rintro e w' ⟨rfl, rfl⟩; rw [HV.out]))
    go_ret3
    rw [← HE.out]
    exact HR.out
/-- One part more, in two stores. -/
theorem JnA.more {A A' : Option Addr} {n c n' c' : Nat} {w2 : World} (h : JnA F w g m A n c) (hp : Pts (fun k => F k ∨ w.heap.size ≤ k) w2 A' n' c' (m.ps ++ [xs])) (hs : St (BlkOf A) w w2) (hx : m.op + xs.length ≤ 65536) {z : Int} (hz : z = (m.op + xs.length : Nat)) :
    ∃ F', JnA F' ((w2.setCell ⟨g, 3, none⟩ (.slice A' n' c')).setCell ⟨g, 0, none⟩ (.int .i64 z)) g (m.plus xs) A' n' c' ∧ St F w ((w2.setCell ⟨g, 3, none⟩ (.slice A' n' c')).setCell ⟨g, 0, none⟩ (.int .i64 z)) ∧ Gr F F' w.heap.size ∧ ∀ k, F' k → k < w2.heap.size := by
  have hgA : ¬ BlkOf A g := fun hk => by
    obtain ⟨bs, h1, h2, h3⟩ := h.ls
    exact ((h1.tyd g hk).ne (u := 130) (by decide)) h.bk.tyd
  have hAF : ∀ k, BlkOf A k → F k := fun k hk => by
    obtain ⟨bs, h1, h2, h3⟩ := h.ls
    obtain ⟨ad, he, rfl⟩ := hk
    exact (h1.blk ad he).1
  have hg2 := h.bk.st hs hgA
  have hst : St F w ((w2.setCell ⟨g, 3, none⟩ (.slice A' n' c')).setCell ⟨g, 0, none⟩ (.int .i64 z)) :=
    ((hs.mono fun k _ hk => hAF k hk).trans (St.setCell (F := F) w2 (a := ⟨g, 3, none⟩) h.fg _) (Gr.refl _ _)).trans (St.setCell (F := F) _ (a := ⟨g, 0, none⟩) h.fg _) (Gr.refl _ _)
  refine ⟨fun k => (F k ∨ w.heap.size ≤ k) ∧ k < w2.heap.size, ⟨?_, ?_, ⟨.inl h.fg, by have := h.bk.lt; have := hs.size; omega⟩, fun k hk => by simpa [World.setCell] using hk.2, by rw [Jm.plus_op]; exact hx⟩, hst, fun k hk => hk.1, fun k hk => hk.2⟩
  · have := (hg2.set 3 (.slice A' n' c')).set 0 (.int .i64 z)
    rw [Jm.plus_op, ← hz]
    exact this
  · obtain ⟨bs, h1, h2, h3⟩ := hp
    have hp2 : Pts (fun k => (F k ∨ w.heap.size ≤ k) ∧ k < w2.heap.size) w2 A' n' c' (m.ps ++ [xs]) := by
      refine ⟨bs, ?_, h2, fun b hb => ?_⟩
      · refine h1.tight.mono ?_
        rintro k ⟨ad, he, rfl⟩
        exact h1.blk ad he
      · obtain ⟨k1, k2, k3⟩ := h3 b hb
        exact ⟨k1, k2, fun k hk => ⟨k3 k hk, k1.lt k hk⟩⟩
    have hst2 : St (· = g) w2 ((w2.setCell ⟨g, 3, none⟩ (.slice A' n' c')).setCell ⟨g, 0, none⟩ (.int .i64 z)) :=
      (St.setCell (F := (· = g)) w2 (a := ⟨g, 3, none⟩) rfl _).trans (St.setCell (F := (· = g)) _ (a := ⟨g, 0, none⟩) rfl _) (Gr.refl _ _)
    refine hp2.same hst2.size fun k _ ht => ?_
    refine hst2.block k ?_ ?_
    · rcases ht with ⟨cur, fz, h1⟩ | ⟨cur, fz, h1⟩ <;> exact (Array.getElem?_eq_some_iff.1 h1).1
    · rintro rfl
      rcases ht with h1 | h1
      · exact (h1.ne (u := 130) (by decide)) hg2.tyd
      · exact (h1.ne (u := 130) (by decide)) hg2.tyd
set_option maxHeartbeats 4000000 in
theorem j_add_on (h : JnC F w g m) (hr : Rd .u8 w B l d xs) (h0 : l ≠ 0) (h2 : m.op + l ≤ 65536) :
    Calls Try.prog 61 #[.pointer (some ⟨g, 0, none⟩), .slice B l d, .bool false] w (AddR F w g m xs false) := by
  have HM := Lib.hid (j_made h)
  have HF := Lib.hid (j_fits h l)
  obtain ⟨A, n, c, h⟩ := h
  have hxl := hr.1
  have HV : Hid (fitV m l = true) := Lib.hid (by simp [fitV]; omega)
  have HE : Hid (m.refuse xs = 0) := Lib.hid (by unfold Jm.refuse; rw [if_neg (by omega), if_neg (by omega)])
  have hl0 : ((l : Int) == 0) = false := by simp; omega
  have HX := Lib.hid hxl
  have HR := Lib.hid hr
  have HH := Lib.hid h
  have hnm := h.many
  clear hr h hxl
  go_enter Try.func61, Try.ntmps61
  go_wp2_with (first
    | (go_at_call 70; refine HM.out.mono ?_; rintro e w' ⟨rfl, rfl⟩)
    | (go_at_call 71; refine HF.out.mono ?_; rintro e w' ⟨rfl, rfl⟩; rw [HV.out]))
  clear HM HF HV
  refine wp_region_L (St (BlkOf A)) [11] (by kernel_rfl) (fun wd hbd hsz => ?_)
  have h7 := HH.out.below hbd
  have HH7 := Lib.hid h7
  have HR7 := Lib.hid (HR.out.below hbd)
  have HBD := Lib.hid hbd
  have hgA : ¬ BlkOf A g := fun hk => by
    obtain ⟨bs, h1, h2, h3⟩ := h7.ls
    exact ((h1.tyd g hk).ne (u := 130) (by decide)) h7.bk.tyd
  obtain ⟨bs, hls, hbs, hbb⟩ := h7.ls
  have hlt := h7.bk.lt
  have q3 : ∀ W, St (BlkOf A) wd W → W.cell? ⟨g, 3, none⟩ = some (.slice A n c) := fun W hW => (h7.bk.st hW hgA).cell 3 rfl
  have hn8 : (n + 1) * 24 ≤ 140737488355328 := by have := HH.out.le; omega
  clear h7 hsz hbd
  (refine takeL (St.tr (BlkOf A)) 0 (by simp only [List.getElem?_toArray, List.getElem?_cons_succ, List.getElem?_cons_zero]; rfl) (by kernel_rfl) (by kernel_rfl) (by kernel_rfl) (by kernel_rfl) (by exact fun _ _ _ h => h) (by first | (refine Or.inl ⟨by rfl, ?_⟩; intro W hW; go_simp; try with_reducible rfl) | exact Or.inr ⟨by rfl, rfl⟩) ?_; try simp only [Act.put, List.setIfInBounds_toArray, List.set_cons_zero, List.set_cons_succ])
  (refine takeL (St.tr (BlkOf A)) 1 (by simp only [List.getElem?_toArray, List.getElem?_cons_succ, List.getElem?_cons_zero]; rfl) (by kernel_rfl) (by kernel_rfl) (by kernel_rfl) (by kernel_rfl) (by exact fun _ _ _ h => h) (by first | (refine Or.inl ⟨by rfl, ?_⟩; intro W hW; go_simp; try with_reducible rfl) | exact Or.inr ⟨by rfl, rfl⟩) ?_; try simp only [Act.put, List.setIfInBounds_toArray, List.set_cons_zero, List.set_cons_succ])
  (refine takeL (St.tr (BlkOf A)) 5 (by simp only [List.getElem?_toArray, List.getElem?_cons_succ, List.getElem?_cons_zero]; rfl) (by kernel_rfl) (by kernel_rfl) (by kernel_rfl) (by kernel_rfl) (by exact fun _ _ _ h => h) (by first | (refine Or.inl ⟨by rfl, ?_⟩; intro W hW; go_simp; try with_reducible rfl) | exact Or.inr ⟨by rfl, rfl⟩) ?_; try simp only [Act.put, List.setIfInBounds_toArray, List.set_cons_zero, List.set_cons_succ])
  (refine takeL (St.tr (BlkOf A)) 2 (by simp only [List.getElem?_toArray, List.getElem?_cons_succ, List.getElem?_cons_zero]; rfl) (by kernel_rfl) (by kernel_rfl) (by kernel_rfl) (by kernel_rfl) (by exact fun _ _ _ h => h) (by first | (refine Or.inl ⟨by rfl, ?_⟩; intro W hW; go_simp; try with_reducible rfl) | exact Or.inr ⟨by rfl, rfl⟩) ?_; try simp only [Act.put, List.setIfInBounds_toArray, List.set_cons_zero, List.set_cons_succ])
  (refine takeL (St.tr (BlkOf A)) 3 (by simp only [List.getElem?_toArray, List.getElem?_cons_succ, List.getElem?_cons_zero]; rfl) (by kernel_rfl) (by kernel_rfl) (by kernel_rfl) (by kernel_rfl) (by exact fun _ _ _ h => h) (by first | (refine Or.inl ⟨by rfl, ?_⟩; intro W hW; go_simp; try with_reducible rfl) | exact Or.inr ⟨by rfl, rfl⟩) ?_; try simp only [Act.put, List.setIfInBounds_toArray, List.set_cons_zero, List.set_cons_succ])
  (refine takeL (St.tr (BlkOf A)) 4 (by simp only [List.getElem?_toArray, List.getElem?_cons_succ, List.getElem?_cons_zero]; rfl) (by kernel_rfl) (by kernel_rfl) (by kernel_rfl) (by kernel_rfl) (by exact fun _ _ _ h => h) (by first | (refine Or.inl ⟨by rfl, ?_⟩; intro W hW; go_simp; try with_reducible rfl) | exact Or.inr ⟨by rfl, rfl⟩) ?_; try simp only [Act.put, List.setIfInBounds_toArray, List.set_cons_zero, List.set_cons_succ])
  refine wpAnyL_one (i := 6) (by kernel_rfl) (by simp only [List.getElem?_toArray, List.getElem?_cons_succ, List.getElem?_cons_zero]; rfl) (fun K hK => ?_)
  go_simp
  refine (clone_any _ _ _ _ _ HR7.out (by omega)).mono ?_
  rintro e w1 ⟨v1, rfl, hown, hb1⟩
  obtain ⟨A2, c2, rfl⟩ := own_slice hown
  have HQ := Lib.hid (BsR.own hown HR7.out.2.2.2.2.1)
  rw [HX.out] at hown HQ ⊢
  have HB1 := Lib.hid hb1
  have hla := ((hls.below hb1).alloc (.cells #[.slice A2 l c2] 30)).tight
  have hu := RdV.one w1 30 (.slice A2 l c2) rfl
  clear hown
  refine hK.out _ _ (.inr (St.ext hb1)) ?_
  clear hK K
  try simp only [Act.put, List.setIfInBounds_toArray, List.set_cons_zero, List.set_cons_succ]
  refine wpAnyL_one (i := 7) (by kernel_rfl) (by simp only [List.getElem?_toArray, List.getElem?_cons_succ, List.getElem?_cons_zero]; rfl) (fun K hK => ?_)
  go_simp
  refine hK.out _ _ (.inr (St.alloc _ _ _)) ?_
  clear hK K
  try simp only [Act.put, List.setIfInBounds_toArray, List.set_cons_zero, List.set_cons_succ]
  refine wpAnyL_one (i := 8) (by kernel_rfl) (by simp only [List.getElem?_toArray, List.getElem?_cons_succ, List.getElem?_cons_zero]; rfl) (fun K hK => ?_)
  refine opwp_append_lst eltB rfl (.tmp 28) (.tmp 31) rfl rfl hla rfl hu hn8 ?_
  rintro v w2 hap
  have hba := HB1.out.trans ((Below.refl _ w1).alloc HB1.out.size (.cells #[.slice A2 l c2] 30))
  obtain ⟨A3, n3, c3, rfl, hL3, hS3⟩ := Pts.app (b := ⟨A2, l, c2, xs⟩) hls hbs hbb (HQ.out.1.below ((Below.refl _ w1).alloc (Nat.le_refl _) _)) (by show 0 < l; omega) HQ.out.2 hba hap
  have hb7 := HH7.out.bk.st hS3 hgA
  have HP7 := Lib.hid hL3
  have HS7 := Lib.hid hS3
  have HB7 := Lib.hid (hb7.set 3 (.slice A3 n3 c3))
  have c3' := hb7.cell 3 rfl
  have f3 := hb7.free 3
  have hst8 := hap.st
  clear hap hL3 hS3 hb7 hla hu
  refine hK.out _ _ (.inr hst8) ?_
  clear hK K
  try simp only [Act.put, List.setIfInBounds_toArray, List.set_cons_zero, List.set_cons_succ]
  (refine takeL (St.tr (BlkOf A)) 9 (by simp only [List.getElem?_toArray, List.getElem?_cons_succ, List.getElem?_cons_zero]; rfl) (by kernel_rfl) (by kernel_rfl) (by kernel_rfl) (by kernel_rfl) (by exact fun _ _ _ h => h) (by first | (refine Or.inl ⟨by rfl, ?_⟩; intro W hW; go_simp; try with_reducible rfl) | exact Or.inr ⟨by rfl, rfl⟩) ?_; try simp only [Act.put, List.setIfInBounds_toArray, List.set_cons_zero, List.set_cons_succ])
  (refine takeL (St.tr (BlkOf A)) 10 (by simp only [List.getElem?_toArray, List.getElem?_cons_succ, List.getElem?_cons_zero]; rfl) (by kernel_rfl) (by kernel_rfl) (by kernel_rfl) (by kernel_rfl) (by exact fun _ _ _ h => h) (by first | (refine Or.inl ⟨by rfl, ?_⟩; intro W hW; go_simp; try with_reducible rfl) | exact Or.inr ⟨by rfl, rfl⟩) ?_; try simp only [Act.put, List.setIfInBounds_toArray, List.set_cons_zero, List.set_cons_succ])
  refine wpAnyL_one (i := 11) (by kernel_rfl) (by simp only [List.getElem?_toArray, List.getElem?_cons_succ, List.getElem?_cons_zero]; rfl) (fun K hK => ?_)
  go_simp
  refine hK.out _ _ (.inl (by decide)) ?_
  clear hK K
  try simp only [Act.put, List.setIfInBounds_toArray, List.set_cons_zero, List.set_cons_succ]
  refine wpAnyL_done (by kernel_rfl) ?_ _
  clear q3
  obtain ⟨F', hj, hs, hg, _⟩ := JnA.more (xs := xs) HH7.out HP7.out HS7.out (by rw [HX.out]; exact h2) (z := (m.op : Int) + l) (by rw [HX.out]; push_cast; rfl)
  have c0 := HB7.out.cell 0 rfl
  have f0 := HB7.out.free 0
  have HJ := Lib.hid (And.intro hj (And.intro hs hg))
  clear hj hs hg
  go_wp2
  go_ret3
  exact AddR.on HBD.out HE.out HJ.out.1 HJ.out.2.1 HJ.out.2.2
/-- One count turned. -/
theorem JnA.setN {A : Option Addr} {n c : Nat} (h : JnA F w g m A n c) (z : Int) : JnA F (w.setCell ⟨g, 1, none⟩ (.int .i64 z)) g ⟨m.ps, z, m.T⟩ A n c ∧ St (· = g) w (w.setCell ⟨g, 1, none⟩ (.int .i64 z)) := by
  have hst : St (· = g) w (w.setCell ⟨g, 1, none⟩ (.int .i64 z)) := St.setCell (F := (· = g)) w (a := ⟨g, 1, none⟩) rfl _
  refine ⟨⟨h.bk.set 1 _, h.ls.same hst.size fun k _ ht => hst.block k ?_ ?_, h.fg, fun k hk => by simpa [World.setCell] using h.lt k hk, h.le⟩, hst⟩
  · rcases ht with ⟨cur, fz, h1⟩ | ⟨cur, fz, h1⟩ <;> exact (Array.getElem?_eq_some_iff.1 h1).1
  · rintro rfl
    rcases ht with h1 | h1 <;> exact (h1.ne (u := 130) (by decide)) h.bk.tyd
theorem JnA.setT {A : Option Addr} {n c : Nat} (h : JnA F w g m A n c) (z : Int) : JnA F (w.setCell ⟨g, 2, none⟩ (.int .i64 z)) g ⟨m.ps, m.N, z⟩ A n c ∧ St (· = g) w (w.setCell ⟨g, 2, none⟩ (.int .i64 z)) := by
  have hst : St (· = g) w (w.setCell ⟨g, 2, none⟩ (.int .i64 z)) := St.setCell (F := (· = g)) w (a := ⟨g, 2, none⟩) rfl _
  refine ⟨⟨h.bk.set 2 _, h.ls.same hst.size fun k _ ht => hst.block k ?_ ?_, h.fg, fun k hk => by simpa [World.setCell] using h.lt k hk, h.le⟩, hst⟩
  · rcases ht with ⟨cur, fz, h1⟩ | ⟨cur, fz, h1⟩ <;> exact (Array.getElem?_eq_some_iff.1 h1).1
  · rintro rfl
    rcases ht with h1 | h1 <;> exact (h1.ne (u := 130) (by decide)) h.bk.tyd
theorem blk_ne {q g : Nat} (h : g < q) : ∀ k, BlkOf (some ⟨q, 0, none⟩) k → ¬ k = g := by
  rintro k ⟨ad, he, rfl⟩ e
  injection he with he
  subst he
  dsimp only at e
  omega
theorem AddR.full {F' : Nat → Prop} {wd w8 w' : World} {n c q : Nat} (hb : Below w.heap.size w wd) (hE : m.refuse xs = 0) (hj : JnA F' w' g ⟨[], m.N + 1, m.T + (m.op + xs.length : Nat)⟩ none 0 0) (hs : St F wd w8) (hs' : St F' w8 w') (hg : Gr F F' wd.heap.size)
    (hlt : ∀ k, F' k → k < q) (hq : wd.heap.size ≤ q) (hm : BsR w' (some ⟨q, 0, none⟩) n c (m.plus xs).fl) :
    AddR F w g m xs true (.returned (.tuple #[.slice (some ⟨q, 0, none⟩) n c, .bool true, .int .i64 0])) w' := by
  have h1 : m.is xs true = true := by simp [Jm.is, hE]
  have hg' : Gr F F' w.heap.size := fun k hk => (hg k hk).imp id (Nat.le_trans hb.size)
  refine ⟨_, n, c, F', by rw [h1, hE], ?_, ?_, ?_, ((St.ext hb).trans hs (Gr.refl _ _)).trans hs' hg', hg'⟩
  · unfold Jm.add; rw [if_pos hE, if_pos rfl]; exact ⟨_, _, _, hj⟩
  · unfold Jm.told; rw [if_pos h1, ← Jm.plus_fl]; exact hm
  · rintro k ⟨ad, he, rfl⟩
    injection he with he
    subst he
    exact ⟨Nat.le_trans hb.size hq, fun hk => Nat.lt_irrefl _ (hlt _ hk)⟩
set_option maxHeartbeats 4000000 in
theorem j_add_en (h : JnC F w g m) (hr : Rd .u8 w B l d xs) (h0 : l ≠ 0) (h2 : m.op + l ≤ 65536) (hN : 0 ≤ m.N ∧ m.N ≤ 1000000000) (hT : 0 ≤ m.T ∧ m.T ≤ 1000000000000000) :
    Calls Try.prog 61 #[.pointer (some ⟨g, 0, none⟩), .slice B l d, .bool true] w (AddR F w g m xs true) := by
  have HM := Lib.hid (j_made h)
  have HF := Lib.hid (j_fits h l)
  obtain ⟨A, n, c, h⟩ := h
  have hxl := hr.1
  have HV : Hid (fitV m l = true) := Lib.hid (by simp [fitV]; omega)
  have HE : Hid (m.refuse xs = 0) := Lib.hid (by unfold Jm.refuse; rw [if_neg (by omega), if_neg (by omega)])
  have hl0 : ((l : Int) == 0) = false := by simp; omega
  have HX := Lib.hid hxl
  have HR := Lib.hid hr
  have HH := Lib.hid h
  have hnm := h.many
  have HOP : Hid (Jm.op ⟨(m.plus xs).ps, m.N + 1, (m.plus xs).T⟩ = m.op + l) := Lib.hid (by have := m.plus_op xs; rw [hxl] at this; exact this)
  obtain ⟨hN1, hN2⟩ := hN
  obtain ⟨hT1, hT2⟩ := hT
  clear hr h hxl
  go_enter Try.func61, Try.ntmps61
  go_wp2_with (first
    | (go_at_call 70; refine HM.out.mono ?_; rintro e w' ⟨rfl, rfl⟩)
    | (go_at_call 71; refine HF.out.mono ?_; rintro e w' ⟨rfl, rfl⟩; rw [HV.out]))
  clear HM HF HV
  refine wp_region_L (St (BlkOf A)) [11] (by kernel_rfl) (fun wd hbd hsz => ?_)
  have h7 := HH.out.below hbd
  have HH7 := Lib.hid h7
  have HR7 := Lib.hid (HR.out.below hbd)
  have HBD := Lib.hid hbd
  have hgA : ¬ BlkOf A g := fun hk => by
    obtain ⟨bs, h1, h2, h3⟩ := h7.ls
    exact ((h1.tyd g hk).ne (u := 130) (by decide)) h7.bk.tyd
  obtain ⟨bs, hls, hbs, hbb⟩ := h7.ls
  have hlt := h7.bk.lt
  have q3 : ∀ W, St (BlkOf A) wd W → W.cell? ⟨g, 3, none⟩ = some (.slice A n c) := fun W hW => (h7.bk.st hW hgA).cell 3 rfl
  have hn8 : (n + 1) * 24 ≤ 140737488355328 := by have := HH.out.le; omega
  clear h7 hsz hbd
  (refine takeL (St.tr (BlkOf A)) 0 (by simp only [List.getElem?_toArray, List.getElem?_cons_succ, List.getElem?_cons_zero]; rfl) (by kernel_rfl) (by kernel_rfl) (by kernel_rfl) (by kernel_rfl) (by exact fun _ _ _ h => h) (by first | (refine Or.inl ⟨by rfl, ?_⟩; intro W hW; go_simp; try with_reducible rfl) | exact Or.inr ⟨by rfl, rfl⟩) ?_; try simp only [Act.put, List.setIfInBounds_toArray, List.set_cons_zero, List.set_cons_succ])
  (refine takeL (St.tr (BlkOf A)) 1 (by simp only [List.getElem?_toArray, List.getElem?_cons_succ, List.getElem?_cons_zero]; rfl) (by kernel_rfl) (by kernel_rfl) (by kernel_rfl) (by kernel_rfl) (by exact fun _ _ _ h => h) (by first | (refine Or.inl ⟨by rfl, ?_⟩; intro W hW; go_simp; try with_reducible rfl) | exact Or.inr ⟨by rfl, rfl⟩) ?_; try simp only [Act.put, List.setIfInBounds_toArray, List.set_cons_zero, List.set_cons_succ])
  (refine takeL (St.tr (BlkOf A)) 5 (by simp only [List.getElem?_toArray, List.getElem?_cons_succ, List.getElem?_cons_zero]; rfl) (by kernel_rfl) (by kernel_rfl) (by kernel_rfl) (by kernel_rfl) (by exact fun _ _ _ h => h) (by first | (refine Or.inl ⟨by rfl, ?_⟩; intro W hW; go_simp; try with_reducible rfl) | exact Or.inr ⟨by rfl, rfl⟩) ?_; try simp only [Act.put, List.setIfInBounds_toArray, List.set_cons_zero, List.set_cons_succ])
  (refine takeL (St.tr (BlkOf A)) 2 (by simp only [List.getElem?_toArray, List.getElem?_cons_succ, List.getElem?_cons_zero]; rfl) (by kernel_rfl) (by kernel_rfl) (by kernel_rfl) (by kernel_rfl) (by exact fun _ _ _ h => h) (by first | (refine Or.inl ⟨by rfl, ?_⟩; intro W hW; go_simp; try with_reducible rfl) | exact Or.inr ⟨by rfl, rfl⟩) ?_; try simp only [Act.put, List.setIfInBounds_toArray, List.set_cons_zero, List.set_cons_succ])
  (refine takeL (St.tr (BlkOf A)) 3 (by simp only [List.getElem?_toArray, List.getElem?_cons_succ, List.getElem?_cons_zero]; rfl) (by kernel_rfl) (by kernel_rfl) (by kernel_rfl) (by kernel_rfl) (by exact fun _ _ _ h => h) (by first | (refine Or.inl ⟨by rfl, ?_⟩; intro W hW; go_simp; try with_reducible rfl) | exact Or.inr ⟨by rfl, rfl⟩) ?_; try simp only [Act.put, List.setIfInBounds_toArray, List.set_cons_zero, List.set_cons_succ])
  (refine takeL (St.tr (BlkOf A)) 4 (by simp only [List.getElem?_toArray, List.getElem?_cons_succ, List.getElem?_cons_zero]; rfl) (by kernel_rfl) (by kernel_rfl) (by kernel_rfl) (by kernel_rfl) (by exact fun _ _ _ h => h) (by first | (refine Or.inl ⟨by rfl, ?_⟩; intro W hW; go_simp; try with_reducible rfl) | exact Or.inr ⟨by rfl, rfl⟩) ?_; try simp only [Act.put, List.setIfInBounds_toArray, List.set_cons_zero, List.set_cons_succ])
  refine wpAnyL_one (i := 6) (by kernel_rfl) (by simp only [List.getElem?_toArray, List.getElem?_cons_succ, List.getElem?_cons_zero]; rfl) (fun K hK => ?_)
  go_simp
  refine (clone_any _ _ _ _ _ HR7.out (by omega)).mono ?_
  rintro e w1 ⟨v1, rfl, hown, hb1⟩
  obtain ⟨A2, c2, rfl⟩ := own_slice hown
  have HQ := Lib.hid (BsR.own hown HR7.out.2.2.2.2.1)
  rw [HX.out] at hown HQ ⊢
  have HB1 := Lib.hid hb1
  have hla := ((hls.below hb1).alloc (.cells #[.slice A2 l c2] 30)).tight
  have hu := RdV.one w1 30 (.slice A2 l c2) rfl
  clear hown
  refine hK.out _ _ (.inr (St.ext hb1)) ?_
  clear hK K
  try simp only [Act.put, List.setIfInBounds_toArray, List.set_cons_zero, List.set_cons_succ]
  refine wpAnyL_one (i := 7) (by kernel_rfl) (by simp only [List.getElem?_toArray, List.getElem?_cons_succ, List.getElem?_cons_zero]; rfl) (fun K hK => ?_)
  go_simp
  refine hK.out _ _ (.inr (St.alloc _ _ _)) ?_
  clear hK K
  try simp only [Act.put, List.setIfInBounds_toArray, List.set_cons_zero, List.set_cons_succ]
  refine wpAnyL_one (i := 8) (by kernel_rfl) (by simp only [List.getElem?_toArray, List.getElem?_cons_succ, List.getElem?_cons_zero]; rfl) (fun K hK => ?_)
  refine opwp_append_lst eltB rfl (.tmp 28) (.tmp 31) rfl rfl hla rfl hu hn8 ?_
  rintro v w2 hap
  have hba := HB1.out.trans ((Below.refl _ w1).alloc HB1.out.size (.cells #[.slice A2 l c2] 30))
  obtain ⟨A3, n3, c3, rfl, hL3, hS3⟩ := Pts.app (b := ⟨A2, l, c2, xs⟩) hls hbs hbb (HQ.out.1.below ((Below.refl _ w1).alloc (Nat.le_refl _) _)) (by show 0 < l; omega) HQ.out.2 hba hap
  have hb7 := HH7.out.bk.st hS3 hgA
  have HP7 := Lib.hid hL3
  have HS7 := Lib.hid hS3
  have HB7 := Lib.hid (hb7.set 3 (.slice A3 n3 c3))
  have c3' := hb7.cell 3 rfl
  have f3 := hb7.free 3
  have hst8 := hap.st
  clear hap hL3 hS3 hb7 hla hu
  refine hK.out _ _ (.inr hst8) ?_
  clear hK K
  try simp only [Act.put, List.setIfInBounds_toArray, List.set_cons_zero, List.set_cons_succ]
  (refine takeL (St.tr (BlkOf A)) 9 (by simp only [List.getElem?_toArray, List.getElem?_cons_succ, List.getElem?_cons_zero]; rfl) (by kernel_rfl) (by kernel_rfl) (by kernel_rfl) (by kernel_rfl) (by exact fun _ _ _ h => h) (by first | (refine Or.inl ⟨by rfl, ?_⟩; intro W hW; go_simp; try with_reducible rfl) | exact Or.inr ⟨by rfl, rfl⟩) ?_; try simp only [Act.put, List.setIfInBounds_toArray, List.set_cons_zero, List.set_cons_succ])
  (refine takeL (St.tr (BlkOf A)) 10 (by simp only [List.getElem?_toArray, List.getElem?_cons_succ, List.getElem?_cons_zero]; rfl) (by kernel_rfl) (by kernel_rfl) (by kernel_rfl) (by kernel_rfl) (by exact fun _ _ _ h => h) (by first | (refine Or.inl ⟨by rfl, ?_⟩; intro W hW; go_simp; try with_reducible rfl) | exact Or.inr ⟨by rfl, rfl⟩) ?_; try simp only [Act.put, List.setIfInBounds_toArray, List.set_cons_zero, List.set_cons_succ])
  refine wpAnyL_one (i := 11) (by kernel_rfl) (by simp only [List.getElem?_toArray, List.getElem?_cons_succ, List.getElem?_cons_zero]; rfl) (fun K hK => ?_)
  go_simp
  refine hK.out _ _ (.inl (by decide)) ?_
  clear hK K
  try simp only [Act.put, List.setIfInBounds_toArray, List.set_cons_zero, List.set_cons_succ]
  refine wpAnyL_done (by kernel_rfl) ?_ _
  clear q3
  obtain ⟨F', hj, hs, hg, hlt8⟩ := JnA.more (xs := xs) HH7.out HP7.out HS7.out (by rw [HX.out]; exact h2) (z := (m.op : Int) + l) (by rw [HX.out]; push_cast; rfl)
  have c0 := HB7.out.cell 0 rfl
  have f0 := HB7.out.free 0
  have HJ := Lib.hid (And.intro hj (And.intro hs (And.intro hg hlt8)))
  clear hj hs hg hlt8 hlt hnm hn8 hls hbs hbb hst8 c3' f3
  go_wp2_with fail
  refine (j_whole ⟨_, _, _, HJ.out.1⟩).mono ?_
  rintro e w9 ⟨rfl, hm9, hb9⟩
  have h9 := HJ.out.1.below hb9
  have c1 : w9.cell? ⟨g, 1, none⟩ = some (.int .i64 m.N) := h9.bk.cell 1 rfl
  have f1 := h9.bk.free 1
  obtain ⟨h10, hs10⟩ := h9.setN (m.N + 1)
  have hm10 := hm9.st hs10 (blk_ne (HJ.out.1.lt _ HJ.out.1.fg))
  have HM10 := Lib.hid hm10
  have H10 := Lib.hid (And.intro h10 (And.intro hs10 hb9))
  clear h9 h10 hs10 hm10 hm9 hb9
  go_wp2_with fail
  refine wp_region_L (Kc ⟨g, 2, none⟩) [11] (by kernel_rfl) (fun wd13 hbd hsz => ?_)
  have h13 := H10.out.1.below hbd
  have hm13 := HM10.out.below hbd
  have HBD13 := Lib.hid hbd
  have HM13 := Lib.hid hm13
  have H13 := Lib.hid h13
  have q2 : ∀ W, Kc ⟨g, 2, none⟩ wd13 W → W.cell? ⟨g, 2, none⟩ = some (.int .i64 m.T) := fun W hW => hW.trans (h13.bk.cell 2 rfl)
  have hw : IntKind.i64.wrap (m.T + ((m.op : Int) + (l : Int))) = m.T + ((m.op : Int) + (l : Int)) := by rw [IntKind.wrap_i64]; omega
  clear hsz h13 hm13 hbd
  (refine takeL (Kc.tr ⟨g, 2, none⟩) 0 (by simp only [List.getElem?_toArray, List.getElem?_cons_succ, List.getElem?_cons_zero]; rfl) (by kernel_rfl) (by kernel_rfl) (by kernel_rfl) (by kernel_rfl) (by exact fun _ _ _ h => h) (by first | (refine Or.inl ⟨by rfl, ?_⟩; intro W hW; go_simp; try with_reducible rfl) | exact Or.inr ⟨by rfl, rfl⟩) ?_; try simp only [Act.put, List.setIfInBounds_toArray, List.set_cons_zero, List.set_cons_succ])
  (refine takeL (Kc.tr ⟨g, 2, none⟩) 5 (by simp only [List.getElem?_toArray, List.getElem?_cons_succ, List.getElem?_cons_zero]; rfl) (by kernel_rfl) (by kernel_rfl) (by kernel_rfl) (by kernel_rfl) (by exact fun _ _ _ h => h) (by first | (refine Or.inl ⟨by rfl, ?_⟩; intro W hW; go_simp; try with_reducible rfl) | exact Or.inr ⟨by rfl, rfl⟩) ?_; try simp only [Act.put, List.setIfInBounds_toArray, List.set_cons_zero, List.set_cons_succ])
  (refine takeL (Kc.tr ⟨g, 2, none⟩) 1 (by simp only [List.getElem?_toArray, List.getElem?_cons_succ, List.getElem?_cons_zero]; rfl) (by kernel_rfl) (by kernel_rfl) (by kernel_rfl) (by kernel_rfl) (by exact fun _ _ _ h => h) (by first | (refine Or.inl ⟨by rfl, ?_⟩; intro W hW; go_simp; try with_reducible rfl) | exact Or.inr ⟨by rfl, rfl⟩) ?_; try simp only [Act.put, List.setIfInBounds_toArray, List.set_cons_zero, List.set_cons_succ])
  (refine takeL (Kc.tr ⟨g, 2, none⟩) 2 (by simp only [List.getElem?_toArray, List.getElem?_cons_succ, List.getElem?_cons_zero]; rfl) (by kernel_rfl) (by kernel_rfl) (by kernel_rfl) (by kernel_rfl) (by exact fun _ _ _ h => h) (by first | (refine Or.inl ⟨by rfl, ?_⟩; intro W hW; go_simp; try with_reducible rfl) | exact Or.inr ⟨by rfl, rfl⟩) ?_; try simp only [Act.put, List.setIfInBounds_toArray, List.set_cons_zero, List.set_cons_succ])
  (refine takeL (Kc.tr ⟨g, 2, none⟩) 3 (by simp only [List.getElem?_toArray, List.getElem?_cons_succ, List.getElem?_cons_zero]; rfl) (by kernel_rfl) (by kernel_rfl) (by kernel_rfl) (by kernel_rfl) (by exact fun _ _ _ h => h) (by first | (refine Or.inl ⟨by rfl, ?_⟩; intro W hW; go_simp; try with_reducible rfl) | exact Or.inr ⟨by rfl, rfl⟩) ?_; try simp only [Act.put, List.setIfInBounds_toArray, List.set_cons_zero, List.set_cons_succ])
  (refine takeL (Kc.tr ⟨g, 2, none⟩) 4 (by simp only [List.getElem?_toArray, List.getElem?_cons_succ, List.getElem?_cons_zero]; rfl) (by kernel_rfl) (by kernel_rfl) (by kernel_rfl) (by kernel_rfl) (by exact fun _ _ _ h => h) (by first | (refine Or.inl ⟨by rfl, ?_⟩; intro W hW; go_simp; try with_reducible rfl) | exact Or.inr ⟨by rfl, rfl⟩) ?_; try simp only [Act.put, List.setIfInBounds_toArray, List.set_cons_zero, List.set_cons_succ])
  refine wpAnyL_one (i := 6) (by kernel_rfl) (by simp only [List.getElem?_toArray, List.getElem?_cons_succ, List.getElem?_cons_zero]; rfl) (fun K hK => ?_)
  go_simp
  refine (j_reset ⟨_, _, _, H13.out⟩).mono ?_
  rintro e w14 ⟨rfl, hj14, hs14⟩
  rw [HOP.out]
  have c2 := hj14.bk.cell 2 rfl
  have f2 := hj14.bk.free 2
  obtain ⟨h15, hs15⟩ := hj14.setT (m.T + ((m.op : Int) + (l : Int)))
  have hm15 := (HM13.out.st hs14 (blk_ne (HJ.out.1.lt _ HJ.out.1.fg))).st hs15 (blk_ne (HJ.out.1.lt _ HJ.out.1.fg))
  have hk14 : Kc ⟨g, 2, none⟩ wd13 w14 := c2.trans (H13.out.bk.cell 2 rfl).symm
  have h15' : JnA F' (w14.setCell ⟨g, 2, none⟩ (.int .i64 (m.T + ((m.op : Int) + (l : Int))))) g ⟨[], m.N + 1, m.T + (m.op + xs.length : Nat)⟩ none 0 0 := by rw [HX.out, Int.natCast_add]; exact h15
  have HT13 := Lib.hid (And.intro h15' (And.intro ((hs14.trans hs15 (Gr.refl _ _)).mono (F' := F') (fun k _ hk => hk ▸ HJ.out.1.fg)) hm15))
  clear hj14 hs14 h15 h15' hs15 hm15
  refine hK.out _ _ (.inr hk14) ?_
  clear hK K
  try simp only [Act.put, List.setIfInBounds_toArray, List.set_cons_zero, List.set_cons_succ]
  (refine takeL (Kc.tr ⟨g, 2, none⟩) 7 (by simp only [List.getElem?_toArray, List.getElem?_cons_succ, List.getElem?_cons_zero]; rfl) (by kernel_rfl) (by kernel_rfl) (by kernel_rfl) (by kernel_rfl) (by exact fun _ _ _ h => h) (by first | (refine Or.inl ⟨by rfl, ?_⟩; intro W hW; go_simp; try with_reducible rfl) | exact Or.inr ⟨by rfl, rfl⟩) ?_; try simp only [Act.put, List.setIfInBounds_toArray, List.set_cons_zero, List.set_cons_succ])
  (refine takeL (Kc.tr ⟨g, 2, none⟩) 8 (by simp only [List.getElem?_toArray, List.getElem?_cons_succ, List.getElem?_cons_zero]; rfl) (by kernel_rfl) (by kernel_rfl) (by kernel_rfl) (by kernel_rfl) (by exact fun _ _ _ h => h) (by first | (refine Or.inl ⟨by rfl, ?_⟩; intro W hW; go_simp; try with_reducible rfl) | exact Or.inr ⟨by rfl, rfl⟩) ?_; try simp only [Act.put, List.setIfInBounds_toArray, List.set_cons_zero, List.set_cons_succ])
  (refine takeL (Kc.tr ⟨g, 2, none⟩) 9 (by simp only [List.getElem?_toArray, List.getElem?_cons_succ, List.getElem?_cons_zero]; rfl) (by kernel_rfl) (by kernel_rfl) (by kernel_rfl) (by kernel_rfl) (by exact fun _ _ _ h => h) (by first | (refine Or.inl ⟨by rfl, ?_⟩; intro W hW; go_simp; try with_reducible rfl) | exact Or.inr ⟨by rfl, rfl⟩) ?_; try simp only [Act.put, List.setIfInBounds_toArray, List.set_cons_zero, List.set_cons_succ])
  (refine takeL (Kc.tr ⟨g, 2, none⟩) 10 (by simp only [List.getElem?_toArray, List.getElem?_cons_succ, List.getElem?_cons_zero]; rfl) (by kernel_rfl) (by kernel_rfl) (by kernel_rfl) (by kernel_rfl) (by exact fun _ _ _ h => h) (by first | (refine Or.inl ⟨by rfl, ?_⟩; intro W hW; go_simp; try with_reducible rfl) | exact Or.inr ⟨by rfl, rfl⟩) ?_; try simp only [Act.put, List.setIfInBounds_toArray, List.set_cons_zero, List.set_cons_succ])
  refine wpAnyL_one (i := 11) (by kernel_rfl) (by simp only [List.getElem?_toArray, List.getElem?_cons_succ, List.getElem?_cons_zero]; rfl) (fun K hK => ?_)
  go_simp
  refine hK.out _ _ (.inl (by decide)) ?_
  clear hK K
  try simp only [Act.put, List.setIfInBounds_toArray, List.set_cons_zero, List.set_cons_succ]
  refine wpAnyL_done (by kernel_rfl) ?_ _
  clear q2
  go_wp2
  go_ret3
  have hb13 := HBD13.out
  have hm13' := HT13.out.2.2
  rw [show ((w2.setCell ⟨g, 3, none⟩ (.slice A3 n3 c3)).setCell ⟨g, 0, none⟩ (.int .i64 ((m.op : Int) + l))).heap.size = w2.heap.size by simp [World.setCell]] at hm13'
  refine AddR.full HBD.out HE.out (HT13.out.1) HJ.out.2.1 (w8 := (w2.setCell ⟨g, 3, none⟩ (.slice A3 n3 c3)).setCell ⟨g, 0, none⟩ (.int .i64 ((m.op : Int) + l))) ?_ HJ.out.2.2.1 (q := w2.heap.size) ?_ ?_ hm13'
  · have s1 := H10.out.2.1.mono (F' := F') (fun k _ hk => hk ▸ HJ.out.1.fg)
    have s0 : St F' _ w9 := St.ext H10.out.2.2
    exact ((s0.trans s1 (Gr.refl _ _)).trans (St.ext hb13) (Gr.refl _ _)).trans HT13.out.2.1 (Gr.refl _ _)
  · intro k hk
    have := HJ.out.2.2.2 k hk
    simpa [World.setCell] using this
  · have := HBD.out.size
    have := HJ.out.2.1.size
    simpa [World.setCell] using this
/-- Add, whatever the part. -/
theorem j_add (h : JnC F w g m) (hr : Rd .u8 w B l d xs) (en : Bool) (hN : 0 ≤ m.N ∧ m.N ≤ 1000000000) (hT : 0 ≤ m.T ∧ m.T ≤ 1000000000000000) :
    Calls Try.prog 61 #[.pointer (some ⟨g, 0, none⟩), .slice B l d, .bool en] w (AddR F w g m xs en) := by
  by_cases h0 : m.refuse xs = 0
  · have hl : l ≠ 0 ∧ m.op + l ≤ 65536 := by
      have h1 := hr.1
      unfold Jm.refuse at h0
      split at h0
      · cases h0
      · split at h0
        · cases h0
        · omega
    cases en with
    | false => exact j_add_on h hr hl.1 hl.2
    | true => exact j_add_en h hr hl.1 hl.2 hN hT
  · exact j_add_no h hr.1 h0
end
end Go.Proofs.Ytmmjhijgedboiaa
