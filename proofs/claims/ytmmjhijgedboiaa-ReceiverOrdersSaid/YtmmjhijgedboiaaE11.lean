/- Advancing. -/
import Derived.Test.YtmmjhijgedboiaaE10
set_option linter.unusedSimpArgs false
set_option linter.unusedVariables false
set_option maxRecDepth 100000
namespace Go.Proofs.Ytmmjhijgedboiaa
open Go.RowKit Go.Shelf
attribute [local go_sem] Oper.semAt_some
section
variable {Fe : Fence} {q : Nat} {w : World} {ops : Array Oper} {rest : List Oper} {o : Oper} {a : Act} {Q : Exit → Act → World → Prop} {b : Nat} {L : List Pe} {i : Nat}
theorem wpListIn_drop_old (hg : o.guard = none) (m x : Operand) (hop : o.op = Op.call { callee := Callee.builtin Builtin.delete, args := #[m, x], argTypes := #[86, 3] }) (hm : a.eval m = .map (some b)) (h : MpI w b L) (k : Nat) (hx : a.eval x = .int .i64 k) {x0 : Pe} (hl : Got L k i x0)
    (hK : ∀ w', MpI w' b (L.eraseIdx i) → St (· = b) w w' → wpListIn Fe q Try.prog ops Q rest (a.put o.dst (.tuple #[])) w') : wpListIn Fe q Try.prog ops Q (o :: rest) a w := by
  obtain ⟨w', hrun, r1, r2⟩ := drop_old h hl o.type
  refine wpListIn_exec (v := .tuple #[]) (w' := w') hg ?_ ?_ ?_ (hK w' r1 r2)
  · simp [Oper.about, hop, resolve, Target.leads, Sem.run_pure]
  · intro c; rw [hop]; intro h; cases h
  · simp [execOp, hop, resolve, invoke, builtin, hm, hx, hrun, Result.andThen]
end
section
variable {F FJ FP : Nat → Prop} {w w' : World} {e pb b g : Nat} {m : Rm}
theorem OutR.mono {F F' : Nat → Prop} {w W : World} {A : Option Addr} {n c : Nat} {out : List (List Int)} (h : OutR F w W A n c out) (hF : ∀ k, F' k → F k) : OutR F' w W A n c out := by
  obtain ⟨bs, h1, h2, h3⟩ := h
  exact ⟨bs, h1.mono fun k hk => ⟨hk.1, fun hf => hk.2 (hF k hf)⟩, h2, fun b hb => ⟨(h3 b hb).1, fun k hk => ⟨((h3 b hb).2 k hk).1, fun hf => ((h3 b hb).2 k hk).2 (hF k hf)⟩⟩⟩
variable {W : World} {k : Nat} {FJ' : Nat → Prop} {j jm : Jm} {out : List (List Int)} {A : Option Addr} {n c : Nat}
theorem stp_drop {ks : List Pk} {B : Nat} (h : Stp ks B k) {j : Jm} {out : List (List Int)} : avL (B + k) j out (ks.drop k) = ⟨B + k, ks.drop k, j, out, false⟩ := by
  cases hd : ks.drop k with
  | nil => rfl
  | cons p t =>
    refine avL_stop (h p ?_)
    have : (ks.drop k)[0]? = some p := by rw [hd]; rfl
    rwa [List.getElem?_drop, Nat.add_zero] at this
theorem AdI.stop (h : AdI F FJ FP w e pb b g m k FJ' j out A n c W) (hav0 : m.av = avL (m.base + k) j out (m.ks.drop k)) (hm : m.Ok) (hx : EnA F w e m pb (some b) g FJ FP jm) (ht : Stp m.ks m.base k) : AdX F FJ FP w e g m W := by
  have hav : m.av = ⟨m.base + k, m.ks.drop k, j, out, false⟩ := hav0.trans (stp_drop ht)
  have hmz : m.mz = m := by unfold Rm.mz; rw [hav]; rfl
  have hbl := (hx.mp b rfl).lt
  refine ⟨pb, some b, m.bm, FJ', j, A, n, c, ⟨h.sz, h.st, by rw [hmz]; exact h.bk, h.bm, ?_, h.jn, h.cl, h.gr, fun _ => ⟨by rw [hav], b, rfl⟩, .inl hx.fb, ⟨?_, hx.ep.2.1⟩, h.eb, h.ob, ?_, ⟨k, hm.runs h.le h.sq ht, by rw [hav]; exact hm.on h.le h.sq⟩⟩⟩
  · rintro b' hb'
    injection hb' with hb'
    subst hb'
    rw [hav]
    exact ⟨h.mp, hbl, hx.fm b rfl, hx.ej.2.2 b rfl, hx.ep.2.2.1 b rfl⟩
  · intro hk
    rcases h.gr pb hk with h1 | h1
    · exact hx.ej.2.1 h1
    · have := hx.lt pb hx.fb; omega
  · rw [hav]
    refine h.ou.mono ?_
    rintro x (hx' | hx' | rfl)
    · exact .inl hx'
    · exact .inr (.inl hx')
    · exact .inl hx.fb
/-- The round of the end. -/
theorem AdI.fin {W1 W2 W3 : World} {p : Pk} {pb' B : Nat} {j' : Jm} (h : AdI F FJ FP w e pb b g m k FJ' j out A n c W) (hav0 : m.av = avL (m.base + k) j out (m.ks.drop k)) (hx : EnA F w e m pb (some b) g FJ FP jm) (hp : m.ks[k]? = some p) (hsq : p.h.sq = ((m.base + k : Nat) : Int)) (hf : hasB p.h.fl 4 = true)
    (hs1 : St (· = w.heap.size + 2) W W1) (hs2 : St (· = b) W1 W2) (hge : W2.heap.size ≤ pb') (hbk : Bk W3 89 e [.pointer (some ⟨pb', 0, none⟩), .int .i64 m.fins.sr, .int .i64 m.fins.ds, .int .i64 m.fins.cn, .int .i64 m.fins.cl, .int .i64 0, .int .i64 0, .int .i64 0, .int .i64 m.fins.pl, .int .i64 0, .int .i64 0, .int .i64 m.fins.ar, .int .i64 m.fins.pd, .bool false, .bool m.fins.dn, .int .i64 m.fins.pa, .map none, .pointer (some ⟨g, 0, none⟩)]) (hbm : Bmp W3 pb' (Bm.new m.size (m.base + (k + 1)))) (hj : JnC FJ' W3 g j') (hs3 : St (fun x => x = e ∨ FJ' x) W2 W3) (hB : b < B) (heB : e < B) :
    AdX F FJ FP w e g m W3 ∧ KeepsFrom B W W3 := by
  obtain ⟨FJ4, hj4t, hsub, hcel⟩ := hj.tight
  have hbl := (hx.mp b rfl).lt
  have hel := hx.bk.lt
  have z1 := hs1.size
  have z2 := hs2.size
  have z3 := hs3.size
  have hz := h.sz
  have hpk := (List.getElem?_eq_some_iff.1 hp).1
  have hdr : m.ks.drop k = p :: m.ks.drop (k + 1) := by rw [List.drop_eq_getElem_cons hpk, (List.getElem?_eq_some_iff.1 hp).2]
  have hav : m.av = ⟨m.base + (k + 1), [], j, out, true⟩ := by rw [hav0, hdr, avL_fin hsq hf]; rfl
  have hmz : m.mz = m.fins := by unfold Rm.mz; rw [hav]; rfl
  have hnew : ∀ x, FJ' x → x < W.heap.size := h.jn.lt
  have n0 : ¬ FJ' (w.heap.size) := fun hf => by have := h.nw _ hf; omega
  have n1 : ¬ FJ' (w.heap.size + 1) := fun hf => by have := h.nw _ hf; omega
  have hall : St (fun x => x = w.heap.size + 2 ∨ x = b ∨ x = e ∨ FJ' x) W W3 :=
    ((hs1.mono fun x _ hx' => .inl hx').trans (hs2.mono fun x _ hx' => .inr (.inl hx')) (Gr.refl _ _)).trans (hs3.mono fun x _ hx' => .inr (.inr hx')) (Gr.refl _ _)
  refine ⟨⟨pb', none, _, FJ4, _, A, n, c, ⟨by omega, h.st.trans hall ?_, by rw [hmz]; exact hbk, hbm, (by intro b' hb'; cases hb'), hj4t, hcel, ?_, fun hf' => (by rw [hav] at hf'; cases hf'), .inr (by omega), ⟨?_, ?_⟩, h.eb.st hall ?_, h.ob.st hall ?_, ?_, ⟨0, ⟨fun j hj => absurd hj (Nat.not_lt_zero j), rfl⟩, ?_⟩⟩⟩, ?_⟩
  · rintro x (rfl | rfl | rfl | hx')
    · exact .inr (by omega)
    · exact .inl (hx.fm x rfl)
    · exact .inl hx.fe
    · exact (h.gr x hx').elim (fun h' => .inl (hx.fj x h')) .inr
  · exact fun x hx' => h.gr x (hsub x hx')
  · exact fun hf' => by have := hnew _ (hsub _ hf'); omega
  · exact fun hf' => by have := hx.lt _ (hx.fp _ hf'); omega
  · rintro (h' | h' | h' | h')
    · omega
    · omega
    · omega
    · exact n0 h'
  · rintro (h' | h' | h' | h')
    · omega
    · omega
    · omega
    · exact n1 h'
  · rw [hav]
    refine (h.ou.add (F' := fun x => (F x ∨ FJ' x ∨ x < w.heap.size + 3) ∨ x = pb') (hall.mono ?_) ?_).mono ?_
    · rintro x _ (rfl | rfl | rfl | hx')
      · exact .inr (.inr (by omega))
      · exact .inl (hx.fm x rfl)
      · exact .inl hx.fe
      · exact .inr (.inl hx')
    · rintro x (hx' | rfl)
      · exact .inl hx'
      · exact .inr (by omega)
    · rintro x (hx' | hx' | hx')
      · exact .inl (.inl hx')
      · exact .inl (.inr (.inl (hsub x hx')))
      · exact .inr hx'
  · rw [hav, Bm.on_zero hbm.1]; rfl
  · refine ⟨by omega, fun x o hBx ho hc => ?_⟩
    have hxl : x < W.heap.size := (Array.getElem?_eq_some_iff.1 ho).1
    refine (hall.block x hxl ?_).trans ho
    rintro (rfl | rfl | rfl | hx')
    · have := h.nb
      unfold Bk at this
      rw [ho] at this
      injection this with this
      subst this
      cases hc
    · omega
    · omega
    · obtain ⟨t, cur, fz, hcc⟩ := h.cl x hx'
      rw [ho] at hcc
      injection hcc with hcc
      subst hcc
      cases hc
theorem LE_mz (hd : m.dn = false) (pb g : Nat) (mb : Option Nat) : ([.pointer (some ⟨pb, 0, none⟩), .int .i64 m.mz.sr, .int .i64 m.mz.ds, .int .i64 m.mz.cn, .int .i64 m.mz.cl, .int .i64 0, .int .i64 0, .int .i64 0, .int .i64 m.mz.pl, .int .i64 0, .int .i64 0, .int .i64 m.mz.ar, .int .i64 m.mz.pd, .bool false, .bool m.mz.dn, .int .i64 m.mz.pa, .map mb, .pointer (some ⟨g, 0, none⟩)] : List Value) = [.pointer (some ⟨pb, 0, none⟩), .int .i64 m.adv.sr, .int .i64 m.adv.ds, .int .i64 m.adv.cn, .int .i64 m.adv.cl, .int .i64 0, .int .i64 0, .int .i64 0, .int .i64 m.adv.pl, .int .i64 0, .int .i64 0, .int .i64 m.adv.ar, .int .i64 m.adv.pd, .bool false, .bool m.adv.dn, .int .i64 m.adv.pa, .map mb, .pointer (some ⟨g, 0, none⟩)] := by
  unfold Rm.mz Rm.adv Rm.fins
  cases m.av.fin <;> simp [hd]
/-- Behind the loop: the bitmap goes on. -/
theorem AdZ.end {W2 : World} {pb pb' : Nat} {mb mb0 : Option Nat} {B : Bm} {kk : Nat} {jm : Jm} (h : AdZ F FJ FP w e g m pb' mb B FJ' j A n c W) (hx : EnA F w e m pb mb0 g FJ FP jm) (hd : m.dn = false) (hr : B.runs kk) (hb : Bd pb' (B.on kk) W W2) :
    EnC (fun k => F k ∨ FJ' k ∨ k = pb') W2 e m.adv ∧ OutR (fun k => F k ∨ FJ' k ∨ k = pb') w W2 A n c m.av.out ∧ St F w W2 ∧ Gr F (fun k => F k ∨ FJ' k ∨ k = pb') w.heap.size ∧ ∀ k, (F k ∨ FJ' k ∨ k = pb') → k < w.heap.size ∨ Cel W k := by
  obtain ⟨k0, hr0, hon⟩ := h.rn
  obtain rfl : kk = k0 := Bm.runs_one hr hr0
  have hel := hx.bk.lt
  have hpe : e ≠ pb' := by
    rintro rfl
    obtain ⟨_, mm, _, h2⟩ := h.bm
    exact (Bk.tyd h.bk).ne (t := 89) (u := 115) (by decide) (Bk.tyd h2)
  have hbt : Cel W pb' := by obtain ⟨_, mm, _, h2⟩ := h.bm; exact Bk.cel h2
  have hbm := hb.bm
  rw [hon] at hbm
  have hz0 : w.heap.size ≤ W.heap.size := by have := h.sz; omega
  have hz2 := hb.st.size
  have hj0 : ∀ k, FJ' k → FJ k ∨ w.heap.size ≤ k := h.gr
  refine ⟨⟨pb', mb, g, FJ', FP, j, ?_, hbm, ?_, h.jn.st hb.st (fun k hk he => h.pp.1 (he ▸ hk)), ?_, .inl hx.fe, .inr (.inr rfl), fun b hb' => .inl (h.mp b hb').2.2.1, fun k hk => .inr (.inl hk), fun k hk => .inl (hx.fp k hk), ?_, ⟨?_, h.pp.1, ?_⟩, ⟨hx.ep.1, h.pp.2, fun b hb' => (h.mp b hb').2.2.2.2, ?_⟩⟩, h.ou.add (hb.st.mono fun k _ hk => .inr (.inr hk)) (Gr.refl _ _), h.st.trans hb.st ?_, ?_, ?_⟩
  · have := h.bk.st hb.st hpe
    rw [LE_mz hd] at this
    exact this
  · rintro b hb'
    refine (h.mp b hb').1.st hb.st ?_ (fun k hk he => h.pp.2 (he ▸ hk))
    rintro rfl
    obtain ⟨⟨L, ⟨es, cl, h1, _⟩, _⟩, _⟩ := h.mp b hb'
    obtain ⟨t, cur, fz, h2⟩ := hbt
    rw [h1] at h2
    cases h2
  · intro hdn
    refine h.jd ?_
    cases hf : m.av.fin with
    | false => rfl
    | true =>
      have : m.adv.dn = true := by unfold Rm.adv; rw [hf]; rfl
      rw [this] at hdn; cases hdn
  · rintro k (hk | hk | rfl)
    · have := hx.lt k hk; omega
    · have := h.jn.lt k hk; omega
    · have := h.bm.lt; omega
  · intro hf
    rcases hj0 e hf with h' | h'
    · exact hx.ej.1 h'
    · omega
  · rintro b hb' hf
    rcases hj0 b hf with h' | h'
    · exact (h.mp b hb').2.2.2.1 h'
    · have := (h.mp b hb').2.1; omega
  · rintro k hk hk'
    rcases hj0 k hk with h' | h'
    · exact hx.ep.2.2.2 k h' hk'
    · have := hx.lt k (hx.fp k hk'); omega
  · rintro k rfl; exact h.fpb
  · rintro k (hk | hk | rfl)
    · exact .inl hk
    · exact (hj0 k hk).elim (fun h' => .inl (hx.fj k h')) .inr
    · exact h.fpb
  · rintro k (hk | hk | rfl)
    · exact .inl (hx.lt k hk)
    · exact .inr (h.cl k hk)
    · exact .inr hbt
/-- The mark of the loop is taken. -/
theorem end_put {F' : Nat → Prop} {W2 : World} {D : Nat} {m' : Rm} (h1 : EnC F' W2 e m') (h2 : OutR F' w W2 A n c out) (h3 : St F w W2) (h4 : Gr F F' w.heap.size) (h5 : ∀ k, F' k → k < w.heap.size ∨ Cel W2 k) (hD : w.heap.size ≤ D) (hK : W2.heap[D]? = some (.deferred (some []))) :
    EnC F' (W2.putObj D (.deferred none)) e m' ∧ OutR F' w (W2.putObj D (.deferred none)) A n c out ∧ St F w (W2.putObj D (.deferred none)) ∧ Gr F F' w.heap.size := by
  have hs : St (· = D) W2 (W2.putObj D (.deferred none)) := ⟨rfl, rfl, rfl, by simp [World.putObj], fun k _ hn => World.putObj_heap_other hn⟩
  have hG : NoC (· = D) W2 := noC_of fun k hk => ⟨.deferred (some []), by rw [hk]; exact hK, rfl⟩
  refine ⟨h1.st hs ?_, h2.stC hs hG, h3.trans hs (fun k hk => .inr (by omega)), h4⟩
  rintro k hk rfl
  rcases h5 k hk with h' | h'
  · omega
  · exact hG k rfl h'
set_option maxHeartbeats 8000000 in
theorem e_adv (h : EnA F w e m pb (some b) g FJ FP m.jm) (hm : m.Ok) (hd : m.dn = false) : Calls Try.prog 40 #[.pointer (some ⟨e, 0, none⟩)] w fun en w' => ∃ A n c F', en = .returned (.slice A n c) ∧ EnC F' w' e m.adv ∧ OutR F' w w' A n c m.av.out ∧ St F w w' ∧ Gr F F' w.heap.size := by
  obtain ⟨W2, hW2⟩ : ∃ W2, W2 = (w.alloc (.cells #[.pointer (some ⟨e, 0, none⟩)] 77)).alloc (.cells #[.slice none 0 0] 43) := ⟨_, rfl⟩
  have hb2 : Below w.heap.size w W2 := by rw [hW2]; exact ((Below.refl _ w).alloc (Nat.le_refl _) _).alloc (by simp) _
  have hs2 : W2.heap.size = w.heap.size + 2 := by rw [hW2]; simp
  have z1 : Bk W2 77 w.heap.size [.pointer (some ⟨e, 0, none⟩)] := by rw [hW2]; exact (Bk.new w 77 [.pointer (some ⟨e, 0, none⟩)]).alloc _
  have z2 : Bk W2 43 (w.heap.size + 1) [.slice none 0 0] := by
    have := Bk.new (w.alloc (.cells #[.pointer (some ⟨e, 0, none⟩)] 77)) 43 [.slice none 0 0]
    rw [World.size_alloc] at this
    rw [hW2]; exact this
  have c0 := (h.bk.below hb2).cell 0 rfl
  have d0 := z1.cell 0 rfl
  rw [hW2] at c0 d0
  have HBA := Lib.hid (b_base (h.bm.below hb2))
  have e1 : m.bm.base = m.base := rfl
  rw [e1] at HBA
  refine (callsIn_wide (n := 5)).1 ?_
  refine callsIn_of_wp_marks Try.func40 rfl trivial ?_ rfl
  simp only [Try.ntmps40, List.size_toArray, List.length_cons, List.length_nil, Nat.reduceAdd, Nat.reduceSub, Array.replicate_succ, Array.replicate_zero, List.push_toArray, List.append_toArray, List.nil_append, List.cons_append]
  gi_wp2
  rw [← hW2]
  refine ⟨trivial, (callsIn_wide.2 HBA.out).mono ?_⟩
  rintro en w' ⟨rfl, rfl⟩
  gi_wp2
  obtain ⟨W0, hW0⟩ : ∃ W0, W0 = W2.alloc (.cells #[.int .i64 m.base] 3) := ⟨_, rfl⟩
  have hb3 : Below w.heap.size w W0 := by rw [hW0]; exact hb2.alloc hb2.size _
  have hs0 : W0.heap.size = w.heap.size + 3 := by rw [hW0]; simp [hs2]
  have z10 : Bk W0 77 w.heap.size [.pointer (some ⟨e, 0, none⟩)] := by rw [hW0]; exact z1.alloc _
  have z20 : Bk W0 43 (w.heap.size + 1) [.slice none 0 0] := by rw [hW0]; exact z2.alloc _
  have z30 : Bk W0 3 (w.heap.size + 2) [.int .i64 m.base] := by
    have := Bk.new W2 3 [.int .i64 m.base]
    rw [hs2] at this
    rw [hW0]; exact this
  rw [← hW2, ← hW0]
  have hbl := (h.mp b rfl).lt
  have hx0 := h.below hb3
  obtain ⟨FJ0, hj0, hsub0, hcel0⟩ := hx0.jn.tight
  have hI0 : AdI F FJ FP w e pb b g m 0 FJ0 m.jm [] none 0 0 W0 :=
    ⟨by omega, St.ext hb3, hx0.bk, hx0.bm, by rw [List.drop_zero]; exact hx0.mp b rfl, hj0, hcel0, fun k hk => .inl (hsub0 k hk), fun k hk => .inl (h.lt k (h.fj k (hsub0 k hk))), z10, z20, z30, OutR.nil _ _ _, fun j p hj => absurd hj (Nat.not_lt_zero j), Nat.zero_le _, hm.n0, hm.t0, hm.p0⟩
  have hgv := kept_gives (5 - 1) (by decide) e pb g (some b) m hm w
  have HX := Lib.hid h
  clear hW0 hW2 c0 d0 HBA z10 z20 z30 hx0 hj0 hsub0 hcel0 z1 z2 hb2 hs2
  refine wpIn_givesS rfl (by decide) (gf := 48) (va := .pointer (some ⟨e, 0, none⟩)) rfl trivial (enters_of Try.func48 (by kernel_rfl) rfl)
    hgv hb3 (fun _ => rfl) (AdW F FJ FP w e pb b g m) (fun c' pre W => c' = .exit 0 ∧ AdX F FJ FP w e g m W) (AdW.own hbl (by omega)) (fun c' pre W W' row hs hw hr => ⟨hs.1, ?xown⟩) ⟨_, _, _, _, _, _, hI0, Nat.le_refl _, rfl⟩ (fun pre W hI => hI.sg)
    (fun pre x a' W => (∃ p, m.ks[pre.length]? = some p ∧ x.mt p) ∧ BsR W x.A x.n x.c x.xs ∧ ∃ bx, w.heap.size + 3 ≤ bx ∧ Bk W 104 bx x.cl ∧ a' = { tmps := #[.pointer (some ⟨e, 0, none⟩), .pointer (some ⟨w.heap.size, 0, none⟩), .slice none 0 0, .pointer (some ⟨w.heap.size + 1, 0, none⟩), .pointer (some ⟨w.heap.size + 1 + 1, 0, none⟩), .int .i64 x.k, .pointer (some ⟨bx, 0, none⟩), undef, undef, undef, .pointer (some ⟨e, 0, none⟩), .pointer (some ⟨e, 0, none⟩), .pointer (some ⟨e, 0, none⟩), .pointer (some ⟨pb, 0, none⟩), .int .i64 m.base, .pointer (some ⟨e, 0, none⟩), .func (.func 48) #[.pointer (some ⟨e, 0, none⟩)] #[], .int .i64 x.k, .agg #[.slice x.A x.n x.c, .bool x.en, .bool x.fi], undef, undef, undef, undef, undef, undef, undef, undef, undef, undef, undef, undef, undef, undef, undef, undef, undef, undef, undef, undef, undef, undef, undef, undef, undef, undef, undef, undef, undef, undef, undef, undef, undef, undef, undef, undef, undef, undef, undef], defers := [] })
    ?hAx ?assign ?body ?done ?stop
  case xown =>
    obtain ⟨pb', mb, B, FJ', j, A, n, c, hz⟩ := hs.2
    exact ⟨pb', mb, B, FJ', j, A, n, c, hz.stC (G := fun k => row = some k) (St.grown hw fun k hk => hk) (noC_of fun k hk => (hr k hk).2) (fun k hk => by have := (hr k hk).1; omega)⟩
  case hAx =>
    rintro pre x a' _ W W' row ⟨h1, h2, bx, h3, h4, h5⟩ hw hr
    have hG : NoC (fun k => row = some k) W := noC_of fun k hk => (hr k hk).2
    have hs := St.grown (F := fun k => row = some k) hw fun k hk => hk
    exact ⟨h1, h2.st hs (fun k hk hg => hG k hg ⟨_, h2.2 k hk⟩), bx, h3, h4.stC hs hG, h5⟩
  case assign =>
    rintro l pre x W K hI hgd hK
    obtain ⟨FJ', j, out, A, n, c, hI, hol, hav⟩ := hI
    have hbW : Below W.heap.size W (W.alloc (.cells #[.slice x.A x.n x.c, .bool x.en, .bool x.fi] 104)) := (Below.refl _ W).alloc (Nat.le_refl _) _
    have hnew := Bk.new W 104 x.cl
    have hsz := hI.sz
    gi_wp2
    exact hK _ _ ((keepsOthers_of hbW).from _) ⟨FJ', j, out, A, n, c, hI.below hbW, hol, hav⟩ ⟨hgd.1, hgd.2.below hbW, _, hsz, hnew, rfl⟩
  case body =>
    rintro l pre x a' W hszW ⟨FJ', j, out, A, n, c, hI, hol, hav⟩ ⟨⟨p, hp, hmt⟩, hbs, bx, hbx, hbk, rfl⟩
    obtain ⟨xk, xA, xn, xc, xs, xen, xfi⟩ := x
    obtain ⟨hm1, hm2, hm3, hm4⟩ := hmt
    dsimp only at hm1 hm2 hm3 hm4 hbs ⊢
    subst hm2 hm3
    obtain ⟨k, hk⟩ : ∃ k, k = pre.length := ⟨_, rfl⟩
    have HPL : Hid ((pre ++ [(⟨xk, xA, xn, xc, p.xs, hasB p.h.fl 2, xfi⟩ : Pe)]).length = k + 1) := Lib.hid (by rw [List.length_append, hk]; rfl)
    rw [← hk] at hI hp hol hav
    clear hk
    obtain ⟨nx, hnx⟩ : ∃ nx, nx = m.base + k := ⟨_, rfl⟩
    have cn : W.cell? ⟨w.heap.size + 2, 0, none⟩ = some (.int .i64 nx) := by rw [hnx]; exact hI.nb.cell 0 rfl
    have HNX := Lib.hid hnx
    clear hnx
    have hpk := (List.getElem?_eq_some_iff.1 hp).1
    have hlm := hm.lm
    by_cases he : xk = nx
    · subst he
      have hsq : p.h.sq = ((m.base + k : Nat) : Int) := by rw [hm1, HNX.out]
      have fn := hI.nb.free 0
      have d0 := hI.eb.cell 0 rfl
      have c16 := hI.bk.cell 16 rfl
      have hel := HX.out.bk.lt
      have hbe := HX.out.mb_ne b rfl
      have hdr : m.ks.drop k = p :: m.ks.drop (k + 1) := by rw [List.drop_eq_getElem_cons hpk, (List.getElem?_eq_some_iff.1 hp).2]
      obtain ⟨L, hL, hE⟩ := hI.mp
      rw [hdr] at hE
      have hrise : Rise (p :: m.ks.drop (k + 1)) := by rw [← hdr]; exact hm.ri.sublist (List.drop_sublist _ _)
      obtain ⟨x0, hx0, hmt0⟩ := hE.2.2 p (by simp)
      obtain ⟨i, hgot⟩ := got_of hE.1 hx0
      have hx0k : x0.k = xk := by have := hmt0.1; omega
      rw [hx0k] at hgot
      have hEd := hE.drop hrise (by rw [hsq, HNX.out]) hgot
      have hL1 : MpI (W.setCell ⟨w.heap.size + 2, 0, none⟩ (.int .i64 ((xk : Int) + 1))) b L := hL.st (St.setCell (F := (· = w.heap.size + 2)) W rfl _) (by omega)
      have hs1 : St (· = w.heap.size + 2) W (W.setCell ⟨w.heap.size + 2, 0, none⟩ (.int .i64 ((xk : Int) + 1))) := St.setCell (F := (· = w.heap.size + 2)) W rfl _
      have hbk1 := hbk.far (p := ⟨w.heap.size + 2, 0, none⟩) (by show bx ≠ w.heap.size + 2; omega) (.int .i64 ((xk : Int) + 1))
      have hnb1 := hI.nb.set 0 (.int .i64 ((xk : Int) + 1))
      have heb1 := hI.eb.far (p := ⟨w.heap.size + 2, 0, none⟩) (by show w.heap.size ≠ w.heap.size + 2; omega) (.int .i64 ((xk : Int) + 1))
      have heb3 := hI.bk.far (p := ⟨w.heap.size + 2, 0, none⟩) (by show e ≠ w.heap.size + 2; omega) (.int .i64 ((xk : Int) + 1))
      have HPK := Lib.hid (And.intro hp (And.intro hsq (And.intro hI (And.intro hav (And.intro hm4 (And.intro hs1 hEd))))))
      have hbp : pb ≠ w.heap.size + 2 := by have := HX.out.bm.lt; omega
      have HJ1 := Lib.hid (hI.jn.st hs1 (fun x hx he => by have := hI.nw x hx; omega))
      have HB1 := Lib.hid (hI.bm.st hs1 hbp)
      have hnbj : ¬ FJ' b := fun hf => (hI.gr b hf).elim (fun h' => HX.out.ej.2.2 b rfl h') (fun h' => by omega)
      have hnej : ¬ FJ' e := fun hf => (hI.gr e hf).elim (fun h' => HX.out.ej.1 h') (fun h' => by omega)
      have HNN : Hid ((0 ≤ j.N ∧ j.N ≤ 1000000000) ∧ 0 ≤ j.T ∧ j.T ≤ 1000000000000000) := Lib.hid (by have := hI.n0; have := hI.t0; omega)
      have HDR := Lib.hid hdr
      have HNB1 := Lib.hid (hI.nb.set 0 (.int .i64 ((xk : Int) + 1)))
      have HBS := Lib.hid (hbs.st hs1 (fun q hq he' => by
        have h1 := hbs.2 q hq
        have h2 := hI.nb.tyd
        rw [he'] at h1
        exact absurd h1 (h2.ne (by decide))))
      clear hE hmt0 hx0 hL hav hp hsq hI hm4 hEd hdr hrise hbk hbs hm1 hs1
      have hxb : xk ≤ 1000000 := by have := HNX.out; omega
      obtain ⟨W2, hrun, hm5, hs2⟩ := drop_old hL1 hgot 0
      have hdel : (Builtin.delete_ #[86, 3] 0 #[.map (some b), .int .i64 xk]).run Try.prog (W.setCell ⟨w.heap.size + 1 + 1, 0, none⟩ (.int .i64 ((xk : Int) + 1))) = .ok (.tuple #[]) W2 := hrun
      have hbk2 := hbk1.st hs2 (by omega)
      have cb2 := hbk2.cell 2 rfl
      have cb1 := hbk2.cell 1 rfl
      have cb0 := hbk2.cell 0 rfl
      have d2 := (heb1.st hs2 (by omega)).cell 0 rfl
      have n2 := (hnb1.st hs2 (by omega)).cell 0 rfl
      have HW2 := Lib.hid (And.intro hm5 (And.intro hs2 (heb3.st hs2 (Ne.symm hbe.1))))
      have HJ2 := Lib.hid (HJ1.out.st hs2 (fun x hx he => hnbj (he ▸ hx)))
      have HB2 := Lib.hid (HB1.out.st hs2 (Ne.symm hbe.2))
      have HS2 := Lib.hid (HBS.out.st hs2 (fun x hx he => by
        obtain ⟨cur, fz, h1⟩ := HBS.out.2 x hx
        rw [he] at h1
        obtain ⟨es, cl, h2, _⟩ := hL1
        rw [h1] at h2
        cases h2))
      have HBX := Lib.hid hbk2
      have HEB := Lib.hid (heb1.st hs2 (by omega))
      have HNB := Lib.hid (hnb1.st hs2 (by omega))
      clear hrun hm5 hs2 hbk2 hbk1 heb1 hnb1 heb3 hL1 hgot
      cases xfi with
      | true =>
        gi_wp2_with fail
        have hfin := e_finish HW2.out.2.2 HB2.out HJ2.out hnej HX.out.pb_ne (xk + 1) (by omega)
        rw [show ((xk + 1 : Nat) : Int) = (xk : Int) + 1 by omega] at hfin
        refine ⟨trivial, CallsIn.inRound l ((callsIn_wide.2 hfin).mono ?_)⟩
        rintro en W3 ⟨⟨v, rfl⟩, pb', hge, hbk3, hbm3, hj3, hs3⟩
        obtain ⟨k1, k2, k3, k4, k5, k6, k7⟩ := HPK.out
        have HZ := Lib.hid (AdI.fin (B := W0.heap.size) k3 k4 HX.out k1 k2 k5 k6 HW2.out.2.1 hge hbk3 (by rw [show m.base + (k + 1) = xk + 1 by have := HNX.out; omega]; exact hbm3) hj3 hs3 (by omega) (by omega))
        clear hfin hge hbk3 hbm3 hj3 hs3 k1 k2 k3 k4 k5 k6 k7 hdel cb0 cb1 cb2 d2 n2
        gi_wp2
        exact ⟨HZ.out.2, rfl, HZ.out.1⟩
      | false =>
        gi_wp2_with fail
        refine wpIn_region_L Ext [8] (by kernel_rfl) (by kernel_rfl) (fun wd hbd hsz => ?_)
        have HBD := Lib.hid hbd
        have q1 : ∀ V, Ext wd V → V.cell? ⟨w.heap.size, 0, none⟩ = some (.pointer (some ⟨e, 0, none⟩)) := fun V hV => ((HEB.out.below hbd).below hV).cell 0 rfl
        have q2 : ∀ V, Ext wd V → V.cell? ⟨e, 17, none⟩ = some (.pointer (some ⟨g, 0, none⟩)) := fun V hV => ((HW2.out.2.2.below hbd).below hV).cell 17 rfl
        have q3 : ∀ V, Ext wd V → V.cell? ⟨bx, 0, none⟩ = some (.slice xA xn xc) := fun V hV => ((HBX.out.below hbd).below hV).cell 0 rfl
        have q4 : ∀ V, Ext wd V → V.cell? ⟨bx, 1, none⟩ = some (.bool (hasB p.h.fl 2)) := fun V hV => ((HBX.out.below hbd).below hV).cell 1 rfl
        clear hsz
        (refine takeL Ext.tr 0 (by simp only [List.getElem?_toArray, List.getElem?_cons_succ, List.getElem?_cons_zero]; rfl) (by kernel_rfl) (by kernel_rfl) (by kernel_rfl) (by kernel_rfl) (by exact fun _ _ _ h => h) (by first | (refine Or.inl ⟨by rfl, ?_⟩; intro W hW; go_simp; try with_reducible rfl) | exact Or.inr ⟨by rfl, rfl⟩) ?_; try simp only [Act.put, List.setIfInBounds_toArray, List.set_cons_zero, List.set_cons_succ])
        (refine takeL Ext.tr 4 (by simp only [List.getElem?_toArray, List.getElem?_cons_succ, List.getElem?_cons_zero]; rfl) (by kernel_rfl) (by kernel_rfl) (by kernel_rfl) (by kernel_rfl) (by exact fun _ _ _ h => h) (by first | (refine Or.inl ⟨by rfl, ?_⟩; intro W hW; go_simp; try with_reducible rfl) | exact Or.inr ⟨by rfl, rfl⟩) ?_; try simp only [Act.put, List.setIfInBounds_toArray, List.set_cons_zero, List.set_cons_succ])
        (refine takeL Ext.tr 6 (by simp only [List.getElem?_toArray, List.getElem?_cons_succ, List.getElem?_cons_zero]; rfl) (by kernel_rfl) (by kernel_rfl) (by kernel_rfl) (by kernel_rfl) (by exact fun _ _ _ h => h) (by first | (refine Or.inl ⟨by rfl, ?_⟩; intro W hW; go_simp; try with_reducible rfl) | exact Or.inr ⟨by rfl, rfl⟩) ?_; try simp only [Act.put, List.setIfInBounds_toArray, List.set_cons_zero, List.set_cons_succ])
        (refine takeL Ext.tr 1 (by simp only [List.getElem?_toArray, List.getElem?_cons_succ, List.getElem?_cons_zero]; rfl) (by kernel_rfl) (by kernel_rfl) (by kernel_rfl) (by kernel_rfl) (by exact fun _ _ _ h => h) (by first | (refine Or.inl ⟨by rfl, ?_⟩; intro W hW; go_simp; try with_reducible rfl) | exact Or.inr ⟨by rfl, rfl⟩) ?_; try simp only [Act.put, List.setIfInBounds_toArray, List.set_cons_zero, List.set_cons_succ])
        (refine takeL Ext.tr 5 (by simp only [List.getElem?_toArray, List.getElem?_cons_succ, List.getElem?_cons_zero]; rfl) (by kernel_rfl) (by kernel_rfl) (by kernel_rfl) (by kernel_rfl) (by exact fun _ _ _ h => h) (by first | (refine Or.inl ⟨by rfl, ?_⟩; intro W hW; go_simp; try with_reducible rfl) | exact Or.inr ⟨by rfl, rfl⟩) ?_; try simp only [Act.put, List.setIfInBounds_toArray, List.set_cons_zero, List.set_cons_succ])
        (refine takeL Ext.tr 7 (by simp only [List.getElem?_toArray, List.getElem?_cons_succ, List.getElem?_cons_zero]; rfl) (by kernel_rfl) (by kernel_rfl) (by kernel_rfl) (by kernel_rfl) (by exact fun _ _ _ h => h) (by first | (refine Or.inl ⟨by rfl, ?_⟩; intro W hW; go_simp; try with_reducible rfl) | exact Or.inr ⟨by rfl, rfl⟩) ?_; try simp only [Act.put, List.setIfInBounds_toArray, List.set_cons_zero, List.set_cons_succ])
        (refine takeL Ext.tr 2 (by simp only [List.getElem?_toArray, List.getElem?_cons_succ, List.getElem?_cons_zero]; rfl) (by kernel_rfl) (by kernel_rfl) (by kernel_rfl) (by kernel_rfl) (by exact fun _ _ _ h => h) (by first | (refine Or.inl ⟨by rfl, ?_⟩; intro W hW; go_simp; try with_reducible rfl) | exact Or.inr ⟨by rfl, rfl⟩) ?_; try simp only [Act.put, List.setIfInBounds_toArray, List.set_cons_zero, List.set_cons_succ])
        (refine takeL Ext.tr 3 (by simp only [List.getElem?_toArray, List.getElem?_cons_succ, List.getElem?_cons_zero]; rfl) (by kernel_rfl) (by kernel_rfl) (by kernel_rfl) (by kernel_rfl) (by exact fun _ _ _ h => h) (by first | (refine Or.inl ⟨by rfl, ?_⟩; intro W hW; go_simp; try with_reducible rfl) | exact Or.inr ⟨by rfl, rfl⟩) ?_; try simp only [Act.put, List.setIfInBounds_toArray, List.set_cons_zero, List.set_cons_succ])
        refine wpAnyL_one (i := 8) (by kernel_rfl) (by simp only [List.getElem?_toArray, List.getElem?_cons_succ, List.getElem?_cons_zero]; rfl) (fun K hK => ?_)
        go_simp
        refine (j_add (HJ2.out.below hbd) (HS2.out.below hbd).1 _ HNN.out.1 HNN.out.2).mono ?_
        rintro en W4 hadd
        obtain ⟨k1, k2, k3, k4, k5, k6, k7⟩ := HPK.out
        obtain ⟨A4, n4, c4, FJ4, rfl, hI4, hb4, hn4, hkf⟩ := AdI.next (B := W0.heap.size) k3 HX.out hm k1 k2 k6 (by rw [show (((m.base + (k + 1) : Nat)) : Int) = (xk : Int) + 1 by have := HNX.out; omega]; exact (HNB1.out)) ⟨_, HW2.out.1, (k7.st k6 (fun x hx he => by have := HX.out.lt x (HX.out.fp x hx); omega)).st HW2.out.2.1 (fun x hx he => HX.out.ep.2.2.1 b rfl (he ▸ hx))⟩ HW2.out.2.1 hbd hadd (by omega)
        have HAV : Hid (m.av = avL (m.base + (k + 1)) (j.add p.xs (hasB p.h.fl 2)) (j.outs out p.xs (hasB p.h.fl 2)) (m.ks.drop (k + 1))) := Lib.hid (by rw [k4, HDR.out, avL_on k2 k5]; rfl)
        have HI4 := Lib.hid hI4
        have HM4 := Lib.hid (And.intro hb4 hn4)
        have HKF := Lib.hid hkf
        clear k1 k2 k3 k4 k5 k6 k7 hI4 hb4 hn4 hkf hadd
        refine hK.out _ _ (.inl (by decide)) ?_
        clear hK K
        try simp only [Act.put, List.setIfInBounds_toArray, List.set_cons_zero, List.set_cons_succ]
        (refine takeL Ext.tr 9 (by simp only [List.getElem?_toArray, List.getElem?_cons_succ, List.getElem?_cons_zero]; rfl) (by kernel_rfl) (by kernel_rfl) (by kernel_rfl) (by kernel_rfl) (by exact fun _ _ _ h => h) (by first | (refine Or.inl ⟨by rfl, ?_⟩; intro W hW; go_simp; try with_reducible rfl) | exact Or.inr ⟨by rfl, rfl⟩) ?_; try simp only [Act.put, List.setIfInBounds_toArray, List.set_cons_zero, List.set_cons_succ])
        (refine takeL Ext.tr 10 (by simp only [List.getElem?_toArray, List.getElem?_cons_succ, List.getElem?_cons_zero]; rfl) (by kernel_rfl) (by kernel_rfl) (by kernel_rfl) (by kernel_rfl) (by exact fun _ _ _ h => h) (by first | (refine Or.inl ⟨by rfl, ?_⟩; intro W hW; go_simp; try with_reducible rfl) | exact Or.inr ⟨by rfl, rfl⟩) ?_; try simp only [Act.put, List.setIfInBounds_toArray, List.set_cons_zero, List.set_cons_succ])
        (refine takeL Ext.tr 11 (by simp only [List.getElem?_toArray, List.getElem?_cons_succ, List.getElem?_cons_zero]; rfl) (by kernel_rfl) (by kernel_rfl) (by kernel_rfl) (by kernel_rfl) (by exact fun _ _ _ h => h) (by first | (refine Or.inl ⟨by rfl, ?_⟩; intro W hW; go_simp; try with_reducible rfl) | exact Or.inr ⟨by rfl, rfl⟩) ?_; try simp only [Act.put, List.setIfInBounds_toArray, List.set_cons_zero, List.set_cons_succ])
        (refine takeL Ext.tr 12 (by simp only [List.getElem?_toArray, List.getElem?_cons_succ, List.getElem?_cons_zero]; rfl) (by kernel_rfl) (by kernel_rfl) (by kernel_rfl) (by kernel_rfl) (by exact fun _ _ _ h => h) (by first | (refine Or.inl ⟨by rfl, ?_⟩; intro W hW; go_simp; try with_reducible rfl) | exact Or.inr ⟨by rfl, rfl⟩) ?_; try simp only [Act.put, List.setIfInBounds_toArray, List.set_cons_zero, List.set_cons_succ])
        (refine takeL Ext.tr 13 (by simp only [List.getElem?_toArray, List.getElem?_cons_succ, List.getElem?_cons_zero]; rfl) (by kernel_rfl) (by kernel_rfl) (by kernel_rfl) (by kernel_rfl) (by exact fun _ _ _ h => h) (by first | (refine Or.inl ⟨by rfl, ?_⟩; intro W hW; go_simp; try with_reducible rfl) | exact Or.inr ⟨by rfl, rfl⟩) ?_; try simp only [Act.put, List.setIfInBounds_toArray, List.set_cons_zero, List.set_cons_succ])
        (refine takeL Ext.tr 14 (by simp only [List.getElem?_toArray, List.getElem?_cons_succ, List.getElem?_cons_zero]; rfl) (by kernel_rfl) (by kernel_rfl) (by kernel_rfl) (by kernel_rfl) (by exact fun _ _ _ h => h) (by first | (refine Or.inl ⟨by rfl, ?_⟩; intro W hW; go_simp; try with_reducible rfl) | exact Or.inr ⟨by rfl, rfl⟩) ?_; try simp only [Act.put, List.setIfInBounds_toArray, List.set_cons_zero, List.set_cons_succ])
        (refine takeL Ext.tr 15 (by simp only [List.getElem?_toArray, List.getElem?_cons_succ, List.getElem?_cons_zero]; rfl) (by kernel_rfl) (by kernel_rfl) (by kernel_rfl) (by kernel_rfl) (by exact fun _ _ _ h => h) (by first | (refine Or.inl ⟨by rfl, ?_⟩; intro W hW; go_simp; try with_reducible rfl) | exact Or.inr ⟨by rfl, rfl⟩) ?_; try simp only [Act.put, List.setIfInBounds_toArray, List.set_cons_zero, List.set_cons_succ])
        refine noOutL_done (by kernel_rfl) ?_ _
        clear q1 q2 q3 q4
        have c1 := HI4.out.ob.cell 0 rfl
        have f1 := HI4.out.ob.free 0
        cases his : j.is p.xs (hasB p.h.fl 2) with
        | false =>
          have HO : Hid (j.outs out p.xs (hasB p.h.fl 2) = out) := Lib.hid (by unfold Jm.outs; rw [his]; rfl)
          clear his
          gi_wp2
          refine ⟨HKF.out, FJ4, j.add p.xs (hasB p.h.fl 2), out, A, n, c, ?_, ?_, ?_⟩
          · rw [HPL.out]; exact HI4.out
          · rw [HPL.out]; omega
          · rw [HPL.out, HAV.out, HO.out]
        | true =>
          have HO : Hid (j.outs out p.xs (hasB p.h.fl 2) = out ++ [j.told p.xs (hasB p.h.fl 2)]) := Lib.hid (by unfold Jm.outs; rw [his]; rfl)
          obtain ⟨bs, g1, g2, g3⟩ := HI4.out.ou
          have hla := (g1.alloc (.cells #[.slice A4 n4 c4] 30)).tight
          have hu := RdV.one W4 30 (.slice A4 n4 c4) rfl
          have hnl := g1.1
          have hbl2 : bs.length = out.length := by rw [← g2]; simp
          rw [List.length_map] at hnl
          have hvA : ¬ BlkOf A (w.heap.size + 1) := by
            rintro ⟨ad, he', hbk'⟩
            have := (g1.blk ad he').1.2
            rw [hbk'] at this
            exact this (.inr (.inr (by omega)))
          have HG := Lib.hid (And.intro g1 (And.intro g2 g3))
          clear his g1 g2 g3
          gi_wp2_with (first
            | (refine wpListIn_build_one (x := .slice A4 n4 c4) eltB rfl (.tmp 49) rfl rfl rfl ?_)
            | (gi_at_builtin
               refine wpListIn_append_lst eltB rfl (.tmp 48) (.tmp 50) rfl rfl hla rfl hu (by omega) ?_
               rintro v w2 hap
               obtain ⟨A', n', c', rfl, hl'⟩ := hap.ex
               have HAP := Lib.hid hap
               have r2 := (HI4.out.ob.alloc (.cells #[.slice A4 n4 c4] 30)).st hap.st hvA
               have c3 := r2.cell 0 rfl
               have f3 := r2.free 0
               clear hap hl'))
          have hba : Below W4.heap.size W4 (W4.alloc (.cells #[.slice A4 n4 c4] 30)) := (Below.refl _ _).alloc (Nat.le_refl _) _
          obtain ⟨A6, n6, c6, he6, hI6⟩ := HI4.out.app HX.out HG.out.1 HG.out.2.1 HG.out.2.2 HM4.out.1 HM4.out.2 hba HAP.out
          refine ⟨by rw [← hs0]; exact HKF.out.trans ((((keepsOthers_of hba).trans (keeps_apd (us := []) (v := undef) hla HAP.out.st)).trans (KeepsOthers.setCell w2 _ _)).from _), FJ4, j.add p.xs (hasB p.h.fl 2), out ++ [j.told p.xs (hasB p.h.fl 2)], A6, n6, c6, ?_, ?_, ?_⟩
          · rw [HPL.out]; exact hI6
          · rw [HPL.out, List.length_append]; simp; omega
          · rw [HPL.out, HAV.out, HO.out]
    · have HS := Lib.hid (hI.stop hav hm HX.out (fun q hq => by rw [hp] at hq; injection hq with hq; have := HNX.out; rw [← hq, hm1]; omega))
      have hne : ¬ ((xk : Int) = nx) := by omega
      clear hI hav hbs hm1 hm4 hp
      gi_wp2
      exact ⟨KeepsFrom.refl _ _, rfl, HS.out⟩
  case done =>
    rintro D ys W hD hy ⟨FJ', j, out, A, n, c, hI, hol, hav⟩ hK
    have hX := hI.stop hav hm HX.out (fun p hp => by rw [hy] at hp; simp at hp)
    clear hI hav hol
    obtain ⟨pb', mb, B, FJ', j, A, n, c, hz⟩ := hX
    have d0 := hz.eb.cell 0 rfl
    have c0 := hz.bk.cell 0 rfl
    have HZ := Lib.hid hz
    have HAD := Lib.hid (b_advance hz.bm)
    have hpD : D ≠ pb' := by
      rintro rfl
      obtain ⟨_, mm, _, h2⟩ := hz.bm
      unfold Bk5 Bk at h2
      rw [hK] at h2
      cases h2
    have hop : w.heap.size + 1 ≠ pb' := by
      rintro rfl
      obtain ⟨_, mm, _, h2⟩ := hz.bm
      exact (Bk.tyd hz.ob).ne (t := 43) (u := 115) (by decide) (Bk.tyd h2)
    clear hz
    gi_wp2_with fail
    refine ⟨trivial, (callsIn_wide.2 HAD.out).mono ?_⟩
    rintro en W2 ⟨kk, hrun, rfl, hbd⟩
    have hKD : W2.heap[D]? = some (.deferred (some [])) := (hbd.st.block D (Array.getElem?_eq_some_iff.1 hK).1 hpD).trans hK
    have c1 := (HZ.out.ob.st hbd.st hop).cell 0 rfl
    obtain ⟨e1', e2', e3', e4', e5'⟩ := HZ.out.end HX.out hd hrun hbd
    have HP := Lib.hid (end_put (D := D) e1' e2' e3' e4' (fun k hk => (e5' k hk).imp id (fun hc => by
      obtain ⟨t, cur, fz, hc⟩ := hc
      by_cases hkp : k = pb'
      · rw [hkp]; obtain ⟨_, mm, _, h2⟩ := hbd.bm; exact Bk.cel h2
      · exact ⟨t, cur, fz, (hbd.st.block k (Array.getElem?_eq_some_iff.1 hc).1 hkp).trans hc⟩)) (by omega) hKD)
    clear e1' e2' e3' e4' e5' hrun hbd
    gi_wp2
    refine ⟨by simp, .inl ⟨_, _, rfl, run_takeDeferred hKD, ?_⟩⟩
    exact ⟨_, results_tmp rfl _ _ _, A, n, c, _, rfl, HP.out⟩
  case stop =>
    rintro D c' pre W hD _ ⟨rfl, hX⟩ hK
    obtain ⟨pb', mb, B, FJ', j, A, n, c, hz⟩ := hX
    have d0 := hz.eb.cell 0 rfl
    have c0 := hz.bk.cell 0 rfl
    have HZ := Lib.hid hz
    have HAD := Lib.hid (b_advance hz.bm)
    have hpD : D ≠ pb' := by
      rintro rfl
      obtain ⟨_, mm, _, h2⟩ := hz.bm
      unfold Bk5 Bk at h2
      rw [hK] at h2
      cases h2
    have hop : w.heap.size + 1 ≠ pb' := by
      rintro rfl
      obtain ⟨_, mm, _, h2⟩ := hz.bm
      exact (Bk.tyd hz.ob).ne (t := 43) (u := 115) (by decide) (Bk.tyd h2)
    clear hz
    gi_wp2_with fail
    refine ⟨trivial, (callsIn_wide.2 HAD.out).mono ?_⟩
    rintro en W2 ⟨kk, hrun, rfl, hbd⟩
    have hKD : W2.heap[D]? = some (.deferred (some [])) := (hbd.st.block D (Array.getElem?_eq_some_iff.1 hK).1 hpD).trans hK
    have c1 := (HZ.out.ob.st hbd.st hop).cell 0 rfl
    obtain ⟨e1', e2', e3', e4', e5'⟩ := HZ.out.end HX.out hd hrun hbd
    have HP := Lib.hid (end_put (D := D) e1' e2' e3' e4' (fun k hk => (e5' k hk).imp id (fun hc => by
      obtain ⟨t, cur, fz, hc⟩ := hc
      by_cases hkp : k = pb'
      · rw [hkp]; obtain ⟨_, mm, _, h2⟩ := hbd.bm; exact Bk.cel h2
      · exact ⟨t, cur, fz, (hbd.st.block k (Array.getElem?_eq_some_iff.1 hc).1 hkp).trans hc⟩)) (by omega) hKD)
    clear e1' e2' e3' e4' e5' hrun hbd
    gi_wp2
    refine ⟨by simp, .inl ⟨_, _, rfl, run_takeDeferred hKD, ?_⟩⟩
    exact ⟨_, results_tmp rfl _ _ _, A, n, c, _, rfl, HP.out⟩
end
end Go.Proofs.Ytmmjhijgedboiaa
