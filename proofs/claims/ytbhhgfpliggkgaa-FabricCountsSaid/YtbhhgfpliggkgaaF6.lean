/- A port of a fabric serves. -/
import Derived.Test.YtbhhgfpliggkgaaF5
set_option linter.unusedSimpArgs false
set_option linter.unusedVariables false
set_option maxRecDepth 100000
namespace Go.Proofs.Ytbhhgfpliggkgaa
open Go.RowKit Go.Shelf

/-- What Serve makes of a fabric: what comes out, the error, the fabric. -/
def FM.svE (m : FM) (p q f : Int) : Int := match m.port p q with | none => 5 | some a => a.svE f
def FM.svL (m : FM) (p q f : Int) : List Pk := match m.port p q with | none => [] | some a => a.svL f
def FM.svM (m : FM) (p q f : Int) : FM := match m.port p q with | none => m | some a => (m.sp (ix p q) (a.svM f)).sc 0 (m.ct 0 + (a.svL f).length)
section
variable {F X F1 X1 G : Nat → Prop} {w w' w1 : World} {b : Nat} {m m1 : FM} {pp : Nat → Nat} {FF : Nat → Nat → Prop} {k L H : Nat} {a c : AM} {B C : Int} {A : Option Addr} {n d : Nat} {ks : List Pk}
/-- A fabric's block holds no packet. -/
theorem not_fab {g o n c : Nat} {qs : List Pv} (h : RdR 9 w (some ⟨g, o, none⟩) n c (flat Pv.cl qs)) (hn : n = qs.length) (hp : 0 < n) (hb : Bk w 70 b (m.mem pp)) : g ≠ b := by
  rintro rfl
  obtain ⟨g', o', hA, hg, hra⟩ := h.range hp
  injection hA with hA
  injection hA with h1 h2
  subst h1 h2
  rw [flat_row Pv.cl_len qs 0 (by omega)] at hra
  have h8 := hra 8 (.slice (qs[0]'(by omega)).A (qs[0]'(by omega)).n (qs[0]'(by omega)).c) rfl
  have h0 : w.cell? ⟨g, o + 0 * 9 + 8, none⟩ = (m.mem pp)[o + 8]? := by
    unfold Bk at hb
    unfold World.cell?
    simp [hb]
  rw [h0] at h8
  by_cases h9 : o + 8 < 69
  · rw [m.mem_get pp h9] at h8
    injection h8 with h8
    unfold FM.cell at h8
    split at h8 <;> cases h8
  · rw [List.getElem?_eq_none (by rw [FM.mem_len]; omega)] at h8
    cases h8
/-- What Serve leaves. -/
def FServed (F X : Nat → Prop) (w : World) (b : Nat) (pp : Nat → Nat) (m' : FM) (l : List Pk) (err : Int) (e : Ending) (w' : World) : Prop :=
  ∃ A n c qs, e = .returned (.tuple #[.slice A n c, .int .i64 err]) ∧ n = qs.length ∧ RdR 9 w' A n c (flat Pv.cl qs) ∧ qs.map Pv.pk = l ∧ ∃ F' FF', FbC F' X w' b m' pp FF' ∧ St F w w' ∧ Gr F F' w.heap.size ∧ ∀ q ∈ qs, PvR (fun k => F' k ∨ X k) w' q
theorem f_Serve_none {P : Option Addr} (h : FbP F X w P FM.nobody pp FF) (p q f : Int) :
    Calls Try.prog 13 #[.pointer P, .int .i64 p, .int .i64 q, .int .i64 f] w fun e w' => e = .returned (.tuple #[.slice none 0 0, .int .i64 4]) ∧ Below w.heap.size w w' := by
  have HM : Hid (Calls Try.prog 30 #[.pointer P] w fun e w' => e = .returned (.bool false) ∧ w = w') := Lib.hid (f_made h)
  clear h
  go_enter Try.func13, Try.ntmps13
  go_wp2_with (go_at_call 30; refine HM.out.mono ?_; rintro e w' ⟨rfl, rfl⟩)
  go_ret2
  exact ⟨rfl, Below.refl _ _⟩
set_option maxHeartbeats 4000000 in
theorem f_Serve (h : FbC F X w b m pp FF) (h0 : (m.pt 0).isSome = true) (hM : FMb m L H B) (hc : 0 ≤ m.ct 0 ∧ m.ct 0 ≤ 1000000) (hB : B ≤ 1000000) (p q f : Int) :
    Calls Try.prog 13 #[.pointer (some ⟨b, 0, none⟩), .int .i64 p, .int .i64 q, .int .i64 f] w (FServed F X w b pp (m.svM p q f) (m.svL p q f) (m.svE p q f)) := by
  have HMd : Hid (Calls Try.prog 30 #[.pointer (some ⟨b, 0, none⟩)] w fun e w' => e = .returned (.bool true) ∧ w = w') := Lib.hid (by
    have := f_made h.fp
    rw [h0] at this; exact this)
  have HA := Lib.hid (f_at h.fp p q)
  unfold FM.svM FM.svL FM.svE
  cases hp : m.port p q with
  | none =>
    have e : m.addr pp p q = none := by unfold FM.addr; rw [hp]; rfl
    rw [e] at HA
    have HH := Lib.hid h
    clear h e
    go_enter Try.func13, Try.ntmps13
    go_wp2_with (first
      | (go_at_call 30; refine HMd.out.mono ?_; rintro e w' ⟨rfl, rfl⟩)
      | (go_at_call 34; refine HA.out.mono ?_; rintro e w' ⟨rfl, rfl⟩))
    go_ret2
    exact ⟨none, 0, 0, [], rfl, rfl, RdR.nil _ _, rfl, F, FF, HH.out, St.refl _ _, Gr.refl _ _, by simp⟩
  | some a =>
    have e : m.addr pp p q = some ⟨pp (ix p q), 0, none⟩ := by unfold FM.addr; rw [hp]; rfl
    rw [e] at HA
    have hk := FM.port_pt hp
    have HS : Hid (Calls Try.prog 35 #[.pointer (some ⟨pp (ix p q), 0, none⟩), .int .i64 f] w (FServed F X w b pp (m.sp (ix p q) (a.svM f)) (a.svL f) (a.svE f))) := Lib.hid (by
      obtain ⟨pl, ph, Fl, Fh, ql, qh, hpt⟩ := h.pt _ _ hk
      refine (pt_serveR hpt ((hM _ _ hk).ok.ct hB) f).mono ?_
      rintro e w' ⟨A, n, c, qs, rfl, hn, hrd, hkk, F1, Fl', Fh', ql', qh', hp1, hs1, hg1, hr1⟩
      obtain ⟨F', FF', h1, h2, h3, h4⟩ := h.port hk ⟨pl, ph, Fl', Fh', ql', qh', hp1⟩ hs1 hg1
      refine ⟨A, n, c, qs, rfl, hn, hrd, hkk, F', FF', h1, h2, h3, fun q hq => (hr1 q hq).mono fun j hj => ?_⟩
      rcases hj with hj | hj
      · exact (h4 j hj).elim (fun h => .inr (.inl h)) .inl
      · exact .inr (.inr hj))
    have HB := Lib.hid h.bk.lt
    have hL : (a.svL f).length ≤ 1 := AM.svL_len a f
    clear h e hk
    go_enter Try.func13, Try.ntmps13
    go_wp2_with (first
      | (go_at_call 30; refine HMd.out.mono ?_; rintro e w' ⟨rfl, rfl⟩)
      | (go_at_call 34; refine HA.out.mono ?_; rintro e w' ⟨rfl, rfl⟩)
      | (go_at_call 35; refine HS.out.mono ?_; rintro e w2 ⟨A, n, c, qs, rfl, hn, hrd, hkk, F2, FF2, hf2, hs2, hg2, hr2⟩; have HN2 := Lib.hid hn; clear hn))
    have hn := HN2.out
    have hnl : n = (a.svL f).length := by rw [hn, ← hkk, List.length_map]
    have HSM := Lib.hid (show 0 ≤ (m.sp (ix p q) (a.svM f)).ct 0 ∧ (m.sp (ix p q) (a.svM f)).ct 0 ≤ 1000000 from hc)
    have HNL := Lib.hid hnl
    have hn1 : n ≤ 1 := by omega
    have H2 := Lib.hid (And.intro hn (And.intro hrd (And.intro hkk (And.intro hf2 (And.intro hs2 (And.intro hg2 hr2))))))
    clear hn hrd hkk hf2 hs2 hg2 hr2 hc hnl HMd HA HS
    refine wp_region_L Ext [11] (by kernel_rfl) (fun wd hbd hsz => ?_)
    have hf4 := H2.out.2.2.2.1.below hbd
    have hc := HSM.out
    have k0 : ∀ W, Ext wd W → W.cell? ⟨b, 64, none⟩ = some (.int .i64 (m.ct 0)) := fun W hW => (hf4.bk.below hW).cell 64 (FM.mem_ct (m.sp (ix p q) (a.svM f)) _ (i := 0) (by decide))
    have c0 : wd.cell? ⟨b, 64, none⟩ = some (.int .i64 (m.ct 0)) := hf4.bk.cell 64 (FM.mem_ct (m.sp (ix p q) (a.svM f)) _ (i := 0) (by decide))
    have f0 := hf4.bk.free 64
    have hwn : IntKind.i64.wrap (m.ct 0 + n) = m.ct 0 + n := by rw [IntKind.wrap_i64]; have h1 : 0 ≤ m.ct 0 := hc.1; have h2 : m.ct 0 ≤ 1000000 := hc.2; omega
    obtain ⟨hf5, hs5⟩ := hf4.count (i := 0) (by decide) (m.ct 0 + n)
    have HE : Hid (FServed F X w b pp ((m.sp (ix p q) (a.svM f)).sc 0 (m.ct 0 + (a.svL f).length)) (a.svL f) (a.svE f) (.returned (.tuple #[.slice A n c, .int .i64 (a.svE f)])) (wd.setCell ⟨b, 64, none⟩ (.int .i64 (m.ct 0 + n)))) := Lib.hid (by
      obtain ⟨hn, hrd, hkk, hf2, hs2, hg2, hr2⟩ := H2.out
      have hs3 := (hs2.trans (St.ext hbd) (Gr.refl _ _))
      have hsb : St (· = b) wd (wd.setCell ⟨b, 64, none⟩ (.int .i64 (m.ct 0 + n))) := St.setCell (F := (· = b)) wd (a := ⟨b, 64, none⟩) rfl _
      rw [HNL.out] at hf5 hs5 ⊢
      refine ⟨A, _, c, qs, rfl, by rw [← HNL.out]; exact hn, ?_, hkk, F2, FF2, hf5, by rw [← HNL.out] at hs5 ⊢; exact hs3.trans hs5 hg2, hg2, fun q hq => ?_⟩
      · rw [← HNL.out]
        exact (hrd.below hbd).st hsb fun hp ad he e => by
          obtain ⟨g, o, hA, -⟩ := hrd.range hp
          rw [hA] at he hrd
          injection he with he
          subst he
          exact not_fab hrd hn hp hf2.bk e
      · rw [← HNL.out] at hs5 ⊢
        exact ((hr2 q hq).below hbd).st (hs5.mono fun k _ hk => .inl hk) (Gr.refl _ _))
    clear hf4 hf5 hs5 hsz hbd hc
    (refine takeL Ext.tr 0 (by simp only [List.getElem?_toArray, List.getElem?_cons_succ, List.getElem?_cons_zero]; rfl) (by kernel_rfl) (by kernel_rfl) (by kernel_rfl) (by kernel_rfl) (by exact fun _ _ _ h => h) (by first | (refine Or.inl ⟨by rfl, ?_⟩; intro W hW; go_simp; try with_reducible rfl) | exact Or.inr ⟨by rfl, rfl⟩) ?_; try simp only [Act.put, List.setIfInBounds_toArray, List.set_cons_zero, List.set_cons_succ])
    (refine takeL Ext.tr 5 (by simp only [List.getElem?_toArray, List.getElem?_cons_succ, List.getElem?_cons_zero]; rfl) (by kernel_rfl) (by kernel_rfl) (by kernel_rfl) (by kernel_rfl) (by exact fun _ _ _ h => h) (by first | (refine Or.inl ⟨by rfl, ?_⟩; intro W hW; go_simp; try with_reducible rfl) | exact Or.inr ⟨by rfl, rfl⟩) ?_; try simp only [Act.put, List.setIfInBounds_toArray, List.set_cons_zero, List.set_cons_succ])
    (refine takeL Ext.tr 1 (by simp only [List.getElem?_toArray, List.getElem?_cons_succ, List.getElem?_cons_zero]; rfl) (by kernel_rfl) (by kernel_rfl) (by kernel_rfl) (by kernel_rfl) (by exact fun _ _ _ h => h) (by first | (refine Or.inl ⟨by rfl, ?_⟩; intro W hW; go_simp; try with_reducible rfl) | exact Or.inr ⟨by rfl, rfl⟩) ?_; try simp only [Act.put, List.setIfInBounds_toArray, List.set_cons_zero, List.set_cons_succ])
    (refine takeL Ext.tr 6 (by simp only [List.getElem?_toArray, List.getElem?_cons_succ, List.getElem?_cons_zero]; rfl) (by kernel_rfl) (by kernel_rfl) (by kernel_rfl) (by kernel_rfl) (by exact fun _ _ _ h => h) (by first | (refine Or.inl ⟨by rfl, ?_⟩; intro W hW; go_simp; try with_reducible rfl) | exact Or.inr ⟨by rfl, rfl⟩) ?_; try simp only [Act.put, List.setIfInBounds_toArray, List.set_cons_zero, List.set_cons_succ])
    (refine takeL Ext.tr 8 (by simp only [List.getElem?_toArray, List.getElem?_cons_succ, List.getElem?_cons_zero]; rfl) (by kernel_rfl) (by kernel_rfl) (by kernel_rfl) (by kernel_rfl) (by exact fun _ _ _ h => h) (by first | (refine Or.inl ⟨by rfl, ?_⟩; intro W hW; go_simp; try with_reducible rfl) | exact Or.inr ⟨by rfl, rfl⟩) ?_; try simp only [Act.put, List.setIfInBounds_toArray, List.set_cons_zero, List.set_cons_succ])
    (refine takeL Ext.tr 2 (by simp only [List.getElem?_toArray, List.getElem?_cons_succ, List.getElem?_cons_zero]; rfl) (by kernel_rfl) (by kernel_rfl) (by kernel_rfl) (by kernel_rfl) (by exact fun _ _ _ h => h) (by first | (refine Or.inl ⟨by rfl, ?_⟩; intro W hW; go_simp; try with_reducible rfl) | exact Or.inr ⟨by rfl, rfl⟩) ?_; try simp only [Act.put, List.setIfInBounds_toArray, List.set_cons_zero, List.set_cons_succ])
    (refine takeL Ext.tr 9 (by simp only [List.getElem?_toArray, List.getElem?_cons_succ, List.getElem?_cons_zero]; rfl) (by kernel_rfl) (by kernel_rfl) (by kernel_rfl) (by kernel_rfl) (by exact fun _ _ _ h => h) (by first | (refine Or.inl ⟨by rfl, ?_⟩; intro W hW; go_simp; try with_reducible rfl) | exact Or.inr ⟨by rfl, rfl⟩) ?_; try simp only [Act.put, List.setIfInBounds_toArray, List.set_cons_zero, List.set_cons_succ])
    (refine takeL Ext.tr 3 (by simp only [List.getElem?_toArray, List.getElem?_cons_succ, List.getElem?_cons_zero]; rfl) (by kernel_rfl) (by kernel_rfl) (by kernel_rfl) (by kernel_rfl) (by exact fun _ _ _ h => h) (by first | (refine Or.inl ⟨by rfl, ?_⟩; intro W hW; go_simp; try with_reducible rfl) | exact Or.inr ⟨by rfl, rfl⟩) ?_; try simp only [Act.put, List.setIfInBounds_toArray, List.set_cons_zero, List.set_cons_succ])
    (refine takeL Ext.tr 4 (by simp only [List.getElem?_toArray, List.getElem?_cons_succ, List.getElem?_cons_zero]; rfl) (by kernel_rfl) (by kernel_rfl) (by kernel_rfl) (by kernel_rfl) (by exact fun _ _ _ h => h) (by first | (refine Or.inl ⟨by rfl, ?_⟩; intro W hW; go_simp; try with_reducible rfl) | exact Or.inr ⟨by rfl, rfl⟩) ?_; try simp only [Act.put, List.setIfInBounds_toArray, List.set_cons_zero, List.set_cons_succ])
    (refine takeL Ext.tr 7 (by simp only [List.getElem?_toArray, List.getElem?_cons_succ, List.getElem?_cons_zero]; rfl) (by kernel_rfl) (by kernel_rfl) (by kernel_rfl) (by kernel_rfl) (by exact fun _ _ _ h => h) (by first | (refine Or.inl ⟨by rfl, ?_⟩; intro W hW; go_simp; try with_reducible rfl) | exact Or.inr ⟨by rfl, rfl⟩) ?_; try simp only [Act.put, List.setIfInBounds_toArray, List.set_cons_zero, List.set_cons_succ])
    (refine takeL Ext.tr 10 (by simp only [List.getElem?_toArray, List.getElem?_cons_succ, List.getElem?_cons_zero]; rfl) (by kernel_rfl) (by kernel_rfl) (by kernel_rfl) (by kernel_rfl) (by exact fun _ _ _ h => h) (by first | (refine Or.inl ⟨by rfl, ?_⟩; intro W hW; go_simp; try with_reducible rfl) | exact Or.inr ⟨by rfl, rfl⟩) ?_; try simp only [Act.put, List.setIfInBounds_toArray, List.set_cons_zero, List.set_cons_succ])
    refine wpAnyL_one (i := 11) (by kernel_rfl) (by simp only [List.getElem?_toArray, List.getElem?_cons_succ, List.getElem?_cons_zero]; rfl) (fun K hK => ?_)
    go_simp
    refine hK.out _ _ (.inl (by decide)) ?_
    clear hK K
    try simp only [Act.put, List.setIfInBounds_toArray, List.set_cons_zero, List.set_cons_succ]
    refine wpAnyL_done (by kernel_rfl) ?_ _
    skip
    clear k0 f0 c0
    go_wp2
    go_ret2
    exact HE.out
end
end Go.Proofs.Ytbhhgfpliggkgaa
