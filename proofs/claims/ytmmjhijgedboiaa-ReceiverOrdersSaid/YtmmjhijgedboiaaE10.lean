/- Between two rounds of advancing. -/
import Derived.Test.YtmmjhijgedboiaaE9
set_option linter.unusedSimpArgs false
set_option linter.unusedVariables false
set_option maxRecDepth 100000
namespace Go.Proofs.Ytmmjhijgedboiaa
open Go.RowKit Go.Shelf
attribute [local go_sem] Oper.semAt_some
/-- Blocks of cells, whatever cells. -/
def Cel (w : World) (k : Nat) : Prop := ∃ t, Tyd t w k
theorem Bk.cel {w : World} {t : TypeId} {g : Nat} {vs : List Value} (h : Bk w t g vs) : Cel w g := ⟨_, h.tyd⟩
/-- No block of G holds cells. -/
def NoC (G : Nat → Prop) (w : World) : Prop := ∀ k, G k → ¬ Cel w k
theorem noC_of {G : Nat → Prop} {w : World} (h : ∀ k, G k → ∃ o : Obj, w.heap[k]? = some o ∧ o.isCells = false) : NoC G w := fun k hk ⟨t, cur, fz, hc⟩ => by
  obtain ⟨o, h1, h2⟩ := h k hk
  rw [hc] at h1
  injection h1 with h1
  subst h1
  cases h2
theorem JnC.tight {F : Nat → Prop} {w : World} {g : Nat} {m : Jm} (h : JnC F w g m) : ∃ F', JnC F' w g m ∧ (∀ k, F' k → F k) ∧ ∀ k, F' k → Cel w k := by
  obtain ⟨A, n, c, h1, ⟨bs, h2, h3, h4⟩, h5, h6, h7⟩ := h
  refine ⟨fun k => k = g ∨ BlkOf A k ∨ ∃ b ∈ bs, BlkOf b.A k, ⟨A, n, c, h1, ⟨bs, h2.tight.mono fun k hk => .inr (.inl hk), h3, fun b hb => ⟨(h4 b hb).1, (h4 b hb).2.1, fun k hk => .inr (.inr ⟨b, hb, hk⟩)⟩⟩, .inl rfl, ?_, h7⟩, ?_, ?_⟩
  · rintro k (rfl | ⟨ad, he, rfl⟩ | ⟨b, hb, hk⟩)
    · exact h1.lt
    · exact (h2.blk ad he).2
    · exact (h4 b hb).1.lt k hk
  · rintro k (rfl | ⟨ad, he, rfl⟩ | ⟨b, hb, hk⟩)
    · exact h5
    · exact (h2.blk ad he).1
    · exact (h4 b hb).2.2 k hk
  · rintro k (rfl | hk | ⟨b, hb, hk⟩)
    · exact h1.cel
    · exact ⟨_, h2.tyd k hk⟩
    · exact ⟨_, (h4 b hb).1.2 k hk⟩
section
variable {F FJ FP G : Nat → Prop} {w W W' : World} {e pb g b k : Nat} {m : Rm} {j : Jm} {out : List (List Int)} {A : Option Addr} {n c : Nat}
theorem Cel.st (hs : St G W W') (hG : NoC G W) {k : Nat} (h : Cel W k) : Cel W' k := by
  obtain ⟨t, cur, fz, hc⟩ := h
  exact ⟨t, cur, fz, (hs.block k (Array.getElem?_eq_some_iff.1 hc).1 fun hg => hG k hg ⟨t, cur, fz, hc⟩).trans hc⟩
theorem BsR.cel {xs' : List Int} (h : BsR W A n c xs') : ∀ k, BlkOf A k → Cel W k := fun k hk => ⟨_, h.2 k hk⟩
theorem OutR.stC {w : World} (h : OutR F w W A n c out) (hs : St G W W') (hG : NoC G W) : OutR F w W' A n c out := by
  obtain ⟨bs, h1, h2, h3⟩ := h
  refine ⟨bs, ?_, h2, fun b hb => ⟨(h3 b hb).1.st hs fun k hk hg => hG k hg ⟨_, (h3 b hb).1.2 k hk⟩, (h3 b hb).2⟩⟩
  exact (h1.tight.st hs fun k hk hg => hG k hg ⟨_, h1.tyd k hk⟩).mono fun k ⟨ad, he, hk⟩ => hk ▸ (h1.blk ad he).1
theorem Ent.stC {L : List Pe} {ks : List Pk} (h : Ent FP W L ks) (hs : St G W W') (hG : NoC G W) : Ent FP W' L ks :=
  ⟨h.1, fun x hx => ⟨(h.2.1 x hx).1, (h.2.1 x hx).2.1.st hs fun k hk hg => hG k hg ⟨_, (h.2.1 x hx).2.1.2 k hk⟩, (h.2.1 x hx).2.2⟩, h.2.2⟩
/-- The first of them is taken out. -/
theorem Ent.drop {L : List Pe} {p : Pk} {t : List Pk} (h : Ent FP W L (p :: t)) (hr : Rise (p :: t)) {q : Nat} (hq : p.h.sq = q) {i : Nat} {x0 : Pe} (hg : Got L q i x0) : Ent FP W (L.eraseIdx i) t := by
  have hne : ∀ x ∈ L.eraseIdx i, x.k ≠ q := fun x hx hk => by
    obtain ⟨i', hi', he⟩ := List.getElem_of_mem hx
    have h1 := h.1
    have hil := hg.lt
    have hgi := (List.getElem?_eq_some_iff.1 hg.1).2
    have hll : (L.eraseIdx i).length = L.length - 1 := by rw [List.length_eraseIdx, if_pos hil]
    rw [List.getElem_eraseIdx] at he
    split at he
    · rename_i hlt
      have := (List.pairwise_iff_getElem.1 h1) i' i (by simp; omega) (by simpa using hil) hlt
      simp only [List.getElem_map] at this
      rw [he, hgi, hk, hg.2.1] at this
      exact this rfl
    · rename_i hge
      have := (List.pairwise_iff_getElem.1 h1) i (i' + 1) (by simpa using hil) (by simp; omega) (by omega)
      simp only [List.getElem_map] at this
      rw [he, hgi, hk, hg.2.1] at this
      exact this rfl
  refine ⟨?_, fun x hx => ?_, fun p' hp' => ?_⟩
  · rw [erase_map]
    exact h.1.sublist (List.eraseIdx_sublist _ _)
  · have hxL := List.mem_of_mem_eraseIdx hx
    obtain ⟨⟨p', hp', hm⟩, h2, h3⟩ := h.2.1 x hxL
    refine ⟨⟨p', ?_, hm⟩, h2, h3⟩
    rcases List.mem_cons.1 hp' with rfl | hp'
    · exact absurd (by have := hm.1; omega) (hne x hx)
    · exact hp'
  · obtain ⟨x, hx, hm⟩ := h.2.2 p' (List.mem_cons_of_mem _ hp')
    have hlt := (List.pairwise_cons.1 hr).1 p' hp'
    have hxk := hm.1
    refine ⟨x, ?_, hm⟩
    obtain ⟨i', hi', he⟩ := List.getElem_of_mem hx
    have hii : i' ≠ i := by
      rintro rfl
      have := (List.getElem?_eq_some_iff.1 hg.1).2
      rw [he] at this
      have := hg.2.1
      subst x0
      omega
    exact List.mem_eraseIdx_iff_getElem.2 ⟨i', hi', hii, he⟩
/-- Between two rounds. -/
structure AdI (F FJ FP : Nat → Prop) (w : World) (e pb b g : Nat) (m : Rm) (k : Nat) (FJ' : Nat → Prop) (j : Jm) (out : List (List Int)) (A : Option Addr) (n c : Nat) (W : World) : Prop where
  sz : w.heap.size + 3 ≤ W.heap.size
  st : St F w W
  bk : Bk W 89 e [.pointer (some ⟨pb, 0, none⟩), .int .i64 m.sr, .int .i64 m.ds, .int .i64 m.cn, .int .i64 m.cl, .int .i64 0, .int .i64 0, .int .i64 0, .int .i64 m.pl, .int .i64 0, .int .i64 0, .int .i64 m.ar, .int .i64 m.pd, .bool false, .bool m.dn, .int .i64 m.pa, .map (some b), .pointer (some ⟨g, 0, none⟩)]
  bm : Bmp W pb m.bm
  mp : MpK FP W b (m.ks.drop k)
  jn : JnC FJ' W g j
  cl : ∀ k, FJ' k → Cel W k
  gr : Gr FJ FJ' w.heap.size
  nw : ∀ k, FJ' k → k < w.heap.size ∨ w.heap.size + 3 ≤ k
  eb : Bk W 77 w.heap.size [.pointer (some ⟨e, 0, none⟩)]
  ob : Bk W 43 (w.heap.size + 1) [.slice A n c]
  nb : Bk W 3 (w.heap.size + 2) [.int .i64 ((m.base + k : Nat) : Int)]
  ou : OutR (fun x => F x ∨ FJ' x ∨ x < w.heap.size + 3) w W A n c out
  sq : Seq0 m.ks m.base k
  le : k ≤ m.ks.length
  n0 : 0 ≤ j.N ∧ j.N ≤ ((m.base + k : Nat) : Int)
  t0 : 0 ≤ j.T ∧ j.T ≤ ((m.base + k : Nat) : Int) * 65536
  p0 : j.ps.length ≤ m.base + k
theorem JnC.stC {FJ' : Nat → Prop} (h : JnC FJ' W g j) (hc : ∀ k, FJ' k → Cel W k) (hs : St G W W') (hG : NoC G W) : JnC FJ' W' g j := h.st hs fun k hk hg => hG k hg (hc k hk)
theorem Bmp.stC {B : Bm} {p : Nat} (h : Bmp W p B) (hs : St G W W') (hG : NoC G W) : Bmp W' p B := h.st hs fun hg => hG p hg (by obtain ⟨_, mm, _, hb⟩ := h; exact Bk.cel hb)
theorem Bk.stC {t : TypeId} {p : Nat} {vs : List Value} (h : Bk W t p vs) (hs : St G W W') (hG : NoC G W) : Bk W' t p vs := h.st hs fun hg => hG p hg h.cel
theorem AdI.stC {FJ' : Nat → Prop} (h : AdI F FJ FP w e pb b g m k FJ' j out A n c W) (hs : St G W W') (hG : NoC G W) (hb : ¬ G b) (hw : ∀ k, G k → w.heap.size ≤ k) : AdI F FJ FP w e pb b g m k FJ' j out A n c W' := by
  obtain ⟨L, hL, hE⟩ := h.mp
  exact ⟨Nat.le_trans h.sz hs.size, h.st.trans hs (fun k hk => .inr (hw k hk)), h.bk.stC hs hG, h.bm.stC hs hG, ⟨L, hL.st hs hb, hE.stC hs hG⟩, h.jn.stC h.cl hs hG, fun k hk => (h.cl k hk).st hs hG, h.gr, h.nw, h.eb.stC hs hG, h.ob.stC hs hG, h.nb.stC hs hG, h.ou.stC hs hG, h.sq, h.le, h.n0, h.t0, h.p0⟩
theorem AdI.below {FJ' : Nat → Prop} (h : AdI F FJ FP w e pb b g m k FJ' j out A n c W) (hb : Below W.heap.size W W') : AdI F FJ FP w e pb b g m k FJ' j out A n c W' := h.stC (G := fun _ => False) (St.ext hb) (fun _ h => h.elim) id (fun _ h => h.elim)
/-- The word of the loop. -/
def AdW (F FJ FP : Nat → Prop) (w : World) (e pb b g : Nat) (m : Rm) (pre : List Pe) (W : World) : Prop := ∃ FJ' j out A n c, AdI F FJ FP w e pb b g m pre.length FJ' j out A n c W ∧ out.length ≤ pre.length ∧ m.av = avL (m.base + pre.length) j out (m.ks.drop pre.length)
theorem AdW.own (hb : b < w.heap.size) {B : Nat} (hB : w.heap.size + 3 ≤ B) : OwnFrom B (AdW F FJ FP w e pb b g m) := by
  rintro pre W W' row ⟨FJ', j, out, A, n, c, h, h1⟩ hw hr
  exact ⟨FJ', j, out, A, n, c, h.stC (G := fun k => row = some k) (St.grown hw fun k hk => hk) (noC_of fun k hk => (hr k hk).2) (fun hk => by have := (hr _ hk).1; omega) (fun k hk => by have := (hr k hk).1; omega), h1⟩
theorem AdW.sg {pre : List Pe} (h : AdW F FJ FP w e pb b g m pre W) : SgK e pb g (some b) m pre W := by
  obtain ⟨FJ', j, out, A, n, c, h, _⟩ := h
  exact ⟨h.bk, h.bm, fun p hp => ⟨b, rfl, h.mp.rd⟩⟩
def Rm.mz (m : Rm) : Rm := if m.av.fin = true then m.fins else m
/-- When no round follows. -/
structure AdZ (F FJ FP : Nat → Prop) (w : World) (e g : Nat) (m : Rm) (pb : Nat) (mb : Option Nat) (B : Bm) (FJ' : Nat → Prop) (j : Jm) (A : Option Addr) (n c : Nat) (W : World) : Prop where
  sz : w.heap.size + 3 ≤ W.heap.size
  st : St F w W
  bk : Bk W 89 e [.pointer (some ⟨pb, 0, none⟩), .int .i64 m.mz.sr, .int .i64 m.mz.ds, .int .i64 m.mz.cn, .int .i64 m.mz.cl, .int .i64 0, .int .i64 0, .int .i64 0, .int .i64 m.mz.pl, .int .i64 0, .int .i64 0, .int .i64 m.mz.ar, .int .i64 m.mz.pd, .bool false, .bool m.mz.dn, .int .i64 m.mz.pa, .map mb, .pointer (some ⟨g, 0, none⟩)]
  bm : Bmp W pb B
  mp : ∀ b, mb = some b → MpK FP W b m.av.ks ∧ b < w.heap.size ∧ F b ∧ ¬ FJ b ∧ ¬ FP b
  jn : JnC FJ' W g j
  cl : ∀ k, FJ' k → Cel W k
  gr : Gr FJ FJ' w.heap.size
  jd : m.av.fin = false → j = m.av.j ∧ ∃ b, mb = some b
  fpb : F pb ∨ w.heap.size ≤ pb
  pp : ¬ FJ' pb ∧ ¬ FP pb
  eb : Bk W 77 w.heap.size [.pointer (some ⟨e, 0, none⟩)]
  ob : Bk W 43 (w.heap.size + 1) [.slice A n c]
  ou : OutR (fun x => F x ∨ FJ' x ∨ x = pb) w W A n c m.av.out
  rn : ∃ k, B.runs k ∧ B.on k = ⟨m.size, m.av.b, hasK m.av.ks⟩
theorem AdZ.stC {FJ' : Nat → Prop} {mb : Option Nat} {B : Bm} (h : AdZ F FJ FP w e g m pb mb B FJ' j A n c W) (hs : St G W W') (hG : NoC G W) (hw : ∀ k, G k → w.heap.size ≤ k) : AdZ F FJ FP w e g m pb mb B FJ' j A n c W' :=
  ⟨Nat.le_trans h.sz hs.size, h.st.trans hs (fun k hk => .inr (hw k hk)), h.bk.stC hs hG, h.bm.stC hs hG, fun b hb => ⟨by
    obtain ⟨⟨L, hL, hE⟩, h2, _⟩ := h.mp b hb
    exact ⟨L, hL.st hs (fun hg => by have := hw b hg; omega), hE.stC hs hG⟩, (h.mp b hb).2⟩, h.jn.stC h.cl hs hG, fun k hk => (h.cl k hk).st hs hG, h.gr, h.jd, h.fpb, h.pp, h.eb.stC hs hG, h.ob.stC hs hG, h.ou.stC hs hG, h.rn⟩
def AdX (F FJ FP : Nat → Prop) (w : World) (e g : Nat) (m : Rm) (W : World) : Prop := ∃ pb mb B FJ' j A n c, AdZ F FJ FP w e g m pb mb B FJ' j A n c W
theorem Tyd.lt {t : TypeId} {k : Nat} (h : Tyd t W k) : k < W.heap.size := by
  obtain ⟨cur, fz, hc⟩ := h
  exact (Array.getElem?_eq_some_iff.1 hc).1
/-- A round that goes on: the number is counted, its entry taken out, its part added. -/
theorem AdI.next {W1 W2 wd W4 : World} {FJ' : Nat → Prop} {jm : Jm} {p : Pk} {en : Bool} {E : Ending} {B : Nat} (h : AdI F FJ FP w e pb b g m k FJ' j out A n c W) (hx : EnA F w e m pb (some b) g FJ FP jm) (hm : m.Ok) (hp : m.ks[k]? = some p) (hsq : p.h.sq = ((m.base + k : Nat) : Int))
    (hs1 : St (· = w.heap.size + 2) W W1) (hnb1 : Bk W1 3 (w.heap.size + 2) [.int .i64 ((m.base + (k + 1) : Nat) : Int)]) (hm2 : MpK FP W2 b (m.ks.drop (k + 1))) (hs2 : St (· = b) W1 W2) (hbd : Below W2.heap.size W2 wd)
    (hadd : AddR FJ' wd g j p.xs en E W4) (hB : b < B) : ∃ A4 n4 c4 FJ4, E = .returned (.tuple #[.slice A4 n4 c4, .bool (j.is p.xs en), .int .i64 (j.refuse p.xs)]) ∧ AdI F FJ FP w e pb b g m (k + 1) FJ4 (j.add p.xs en) out A n c W4 ∧
      BsR W4 A4 n4 c4 (j.told p.xs en) ∧ (∀ x, BlkOf A4 x → w.heap.size + 3 ≤ x ∧ ¬ F x ∧ ¬ FJ4 x) ∧ KeepsFrom B W W4 := by
  obtain ⟨A4, n4, c4, FJ5, rfl, hj4, hb4, hn4, hs4, hg4⟩ := hadd
  obtain ⟨FJ4, hj4t, hsub, hcel⟩ := hj4.tight
  have hbl := (hx.mp b rfl).lt
  have hel := hx.bk.lt
  have hpl := hx.bm.lt
  have z1 := hs1.size
  have z2 := hs2.size
  have zd := hbd.size
  have z4 := hs4.size
  have hz := h.sz
  have hbe := hx.mb_ne b rfl
  have hold : ∀ x, FJ' x → x < w.heap.size → FJ x := fun x hx' hl => (h.gr x hx').elim id (fun h' => by omega)
  have nb : ¬ FJ' b := fun hf => hx.ej.2.2 b rfl (hold b hf hbl)
  have ne : ¬ FJ' e := fun hf => hx.ej.1 (hold e hf hel)
  have np : ¬ FJ' pb := fun hf => hx.ej.2.1 (hold pb hf hpl)
  have n0 : ¬ FJ' (w.heap.size) := fun hf => by have := h.nw _ hf; omega
  have n1 : ¬ FJ' (w.heap.size + 1) := fun hf => by have := h.nw _ hf; omega
  have n2 : ¬ FJ' (w.heap.size + 2) := fun hf => by have := h.nw _ hf; omega
  have hFP : Sep FP FJ' := fun x hx1 hx2 => hx.ep.2.2.2 x (hold x hx2 (hx.lt x (hx.fp x hx1))) hx1
  have hall : St (fun x => x = w.heap.size + 2 ∨ x = b ∨ FJ' x) W W4 :=
    ((((hs1.mono fun x _ hx' => .inl hx').trans (hs2.mono fun x _ hx' => .inr (.inl hx')) (Gr.refl _ _)).trans (St.ext hbd) (Gr.refl _ _)).trans (hs4.mono fun x _ hx' => .inr (.inr hx')) (Gr.refl _ _))
  refine ⟨A4, n4, c4, FJ4, rfl, ⟨by omega, h.st.trans hall ?_, h.bk.st hall ?_, h.bm.st hall ?_, (hm2.below hbd).st hs4 nb hFP, hj4t, hcel, ?_, ?_, h.eb.st hall ?_, h.ob.st hall ?_, ((hnb1.st hs2 (by omega)).below hbd).st hs4 n2, ?_, ?_, ?_, ?_, ?_, ?_⟩, hb4, ?_, ?_⟩
  · rintro x (rfl | rfl | hx')
    · exact .inr (by omega)
    · exact .inl (hx.fm x rfl)
    · exact (h.gr x hx').elim (fun h' => .inl (hx.fj x h')) .inr
  · rintro (h' | h' | h')
    · omega
    · exact hbe.1 h'.symm
    · exact ne h'
  · rintro (h' | h' | h')
    · omega
    · exact hbe.2 h'.symm
    · exact np h'
  · exact fun x hx' => (hg4 x (hsub x hx')).elim (fun h' => h.gr x h') (fun h' => .inr (by omega))
  · exact fun x hx' => (hg4 x (hsub x hx')).elim (fun h' => h.nw x h') (fun h' => .inr (by omega))
  · rintro (h' | h' | h')
    · omega
    · omega
    · exact n0 h'
  · rintro (h' | h' | h')
    · omega
    · omega
    · exact n1 h'
  · refine h.ou.add (hall.mono ?_) ?_
    · rintro x _ (rfl | rfl | hx')
      · exact .inr (.inr (by omega))
      · exact .inl (hx.fm x rfl)
      · exact .inr (.inl hx')
    · rintro x (hx' | hx' | hx')
      · exact .inl (.inl hx')
      · exact (hg4 x (hsub x hx')).elim (fun h' => .inl (.inr (.inl h'))) (fun h' => .inr (by omega))
      · exact .inl (.inr (.inr hx'))
  · exact seq0_add h.sq hp hsq
  · have := (List.getElem?_eq_some_iff.1 hp).1; omega
  · have := Jm.add_N j p.xs en (m.base + k) h.n0
    rwa [show m.base + k + 1 = m.base + (k + 1) by omega] at this
  · have := Jm.add_T j p.xs en (m.base + k) h.t0
    rwa [show m.base + k + 1 = m.base + (k + 1) by omega] at this
  · have := h.p0
    unfold Jm.add Jm.plus
    split
    · split
      · simp
      · simp; omega
    · omega
  · exact fun x hx' => ⟨by have := (hn4 x hx').1; omega, fun hf => by have := hx.lt x hf; have := (hn4 x hx').1; omega, fun hf => (hn4 x hx').2 (hsub x hf)⟩
  · refine ⟨by omega, fun x o hBx ho hc => ?_⟩
    have hxl : x < W.heap.size := (Array.getElem?_eq_some_iff.1 ho).1
    refine (hall.block x hxl ?_).trans ho
    rintro (rfl | rfl | hx')
    · have := h.nb
      unfold Bk at this
      rw [ho] at this
      injection this with this
      subst this
      cases hc
    · omega
    · obtain ⟨t, cur, fz, hcc⟩ := h.cl x hx'
      rw [ho] at hcc
      injection hcc with hcc
      subst hcc
      cases hc
/-- A message is told. -/
theorem AdI.app {W1 W2 : World} {FJ' : Nat → Prop} {A4 : Option Addr} {n4 c4 : Nat} {xs : List Int} {bs : List Bs} {v : Value} (h : AdI F FJ FP w e pb b g m k FJ' j out A n c W) {jm : Jm} (hx0 : EnA F w e m pb (some b) g FJ FP jm)
    (h1 : Lst 30 (fun x => w.heap.size ≤ x ∧ ¬ (F x ∨ FJ' x ∨ x < w.heap.size + 3)) W A n c (bs.map Bs.val)) (h2 : bs.map Bs.xs = out) (h3 : ∀ b ∈ bs, BsR W b.A b.n b.c b.xs ∧ ∀ x, BlkOf b.A x → w.heap.size ≤ x ∧ ¬ (F x ∨ FJ' x ∨ x < w.heap.size + 3))
    (hb4 : BsR W A4 n4 c4 xs) (hn4 : ∀ x, BlkOf A4 x → w.heap.size + 3 ≤ x ∧ ¬ F x ∧ ¬ FJ' x) (hb : Below W.heap.size W W1) (hap : Apd 30 (BlkOf A) W1 v (bs.map Bs.val ++ [.slice A4 n4 c4]) W2) :
    ∃ A' n' c', v = .slice A' n' c' ∧ AdI F FJ FP w e pb b g m k FJ' j (out ++ [xs]) A' n' c' (W2.setCell ⟨w.heap.size + 1, 0, none⟩ v) := by
  have hz := h.sz
  have hx := hx0.lt
  obtain ⟨A', n', c', rfl, hou, hst⟩ := OutR.app (b := ⟨A4, n4, c4, xs⟩) (F := fun x => F x ∨ FJ' x ∨ x < w.heap.size + 3) h1 h2 h3 (by
    rintro x (hx' | hx' | hx')
    · have := hx x hx'; omega
    · exact h.jn.lt x hx'
    · omega) (by omega) hb4 (fun x hx' => ⟨by have := (hn4 x hx').1; omega, by
      rintro (hf | hf | hf)
      · exact (hn4 x hx').2.1 hf
      · exact (hn4 x hx').2.2 hf
      · have := (hn4 x hx').1; omega⟩) hb hap
  have hoff : ∀ x, BlkOf A x → w.heap.size + 3 ≤ x ∧ ¬ F x ∧ ¬ FJ' x := fun x ⟨ad, he, hk⟩ => by
    have := (h1.blk ad he).1
    rw [hk] at this
    exact ⟨by
      rcases Nat.lt_or_ge x (w.heap.size + 3) with h' | h'
      · exact absurd (.inr (.inr h')) this.2
      · exact h', fun hf => this.2 (.inl hf), fun hf => this.2 (.inr (.inl hf))⟩
  have hs3 : St (fun x => x = w.heap.size + 1 ∨ BlkOf A x) W (W2.setCell ⟨w.heap.size + 1, 0, none⟩ (.slice A' n' c')) := (hst.mono fun x _ hx' => .inr hx').trans (St.setCell (F := fun x => x = w.heap.size + 1 ∨ BlkOf A x) W2 (a := ⟨w.heap.size + 1, 0, none⟩) (.inl rfl) _) (Gr.refl _ _)
  have ho2 := (h.ob.st hst (fun hf => by have := (hoff _ hf).1; omega)).set 0 (.slice A' n' c')
  have hgen : ∀ x, (x < w.heap.size ∨ x = w.heap.size ∨ x = w.heap.size + 2 ∨ FJ' x) → x ≠ w.heap.size + 1 → ¬ (x = w.heap.size + 1 ∨ BlkOf A x) := by
    rintro x h' hne (hf | hf)
    · exact hne hf
    · have := hoff x hf
      rcases h' with h' | h' | h' | h'
      · omega
      · omega
      · omega
      · exact this.2.2 h'
  have hnj : ∀ x, FJ' x → x ≠ w.heap.size + 1 := fun x hf => by have := h.nw x hf; omega
  obtain ⟨L, hL, hE⟩ := h.mp
  have hsF : ∀ x, F x → ¬ (x = w.heap.size + 1 ∨ BlkOf A x) := fun x hf => hgen x (.inl (hx x hf)) (by have := hx x hf; omega)
  refine ⟨A', n', c', rfl, ⟨Nat.le_trans hz hs3.size, h.st.trans hs3 ?_, ?_, ?_, ⟨L, ?_, ?_⟩, h.jn.st hs3 (fun x hf => hgen x (.inr (.inr (.inr hf))) (hnj x hf)), ?_, h.gr, h.nw, h.eb.st hs3 (hgen _ (.inr (.inl rfl)) (by omega)), ho2, h.nb.st hs3 (hgen _ (.inr (.inr (.inl rfl))) (by omega)), ?_, h.sq, h.le, h.n0, h.t0, h.p0⟩⟩
  · rintro x (rfl | hx')
    · exact .inr (by omega)
    · exact .inr (by have := (hoff x hx').1; omega)
  · exact h.bk.st hs3 (hsF e hx0.fe)
  · exact h.bm.st hs3 (hsF pb hx0.fb)
  · exact hL.st hs3 (hsF b (hx0.fm b rfl))
  · exact hE.st hs3 (fun x hf => hsF x (hx0.fp x hf))
  · rintro x hf
    obtain ⟨t, cur, fz, hc⟩ := h.cl x hf
    exact ⟨t, cur, fz, (hs3.block x (h.jn.lt x hf) (hgen x (.inr (.inr (.inr hf))) (hnj x hf))).trans hc⟩
  · exact hou.add (St.setCell (F := fun x => F x ∨ FJ' x ∨ x < w.heap.size + 3) W2 (a := ⟨w.heap.size + 1, 0, none⟩) (.inr (.inr (by show w.heap.size + 1 < w.heap.size + 3; omega))) _) (Gr.refl _ _)
end
end Go.Proofs.Ytmmjhijgedboiaa
