/- What advancing makes of the values; the end of all. -/
import Derived.Test.YtmmjhijgedboiaaE8
set_option linter.unusedSimpArgs false
set_option linter.unusedVariables false
set_option maxRecDepth 100000
namespace Go.Proofs.Ytmmjhijgedboiaa
open Go.RowKit Go.Shelf
theorem avL_nil (b : Nat) (j : Jm) (out : List (List Int)) : avL b j out [] = ⟨b, [], j, out, false⟩ := rfl
theorem avL_stop {b : Nat} {j : Jm} {out : List (List Int)} {p : Pk} {t : List Pk} (h : p.h.sq ≠ b) : avL b j out (p :: t) = ⟨b, p :: t, j, out, false⟩ := by
  rw [avL, if_neg h]
theorem avL_fin {b : Nat} {j : Jm} {out : List (List Int)} {p : Pk} {t : List Pk} (h : p.h.sq = b) (hf : hasB p.h.fl 4 = true) : avL b j out (p :: t) = ⟨b + 1, [], j, out, true⟩ := by
  rw [avL, if_pos h, if_pos hf]
theorem avL_on {b : Nat} {j : Jm} {out : List (List Int)} {p : Pk} {t : List Pk} (h : p.h.sq = b) (hf : hasB p.h.fl 4 = false) : avL b j out (p :: t) = avL (b + 1) (j.add p.xs (hasB p.h.fl 2)) (j.outs out p.xs (hasB p.h.fl 2)) t := by
  rw [avL, if_pos h, if_neg (by rw [hf]; decide)]
/-- The first k of them are the numbers from b on. -/
def Seq0 (ks : List Pk) (b k : Nat) : Prop := ∀ (j : Nat) (p : Pk), j < k → ks[j]? = some p → p.h.sq = ((b + j : Nat) : Int)
theorem seq0_add {ks : List Pk} {b k : Nat} (h : Seq0 ks b k) {p : Pk} (hp : ks[k]? = some p) (hq : p.h.sq = ((b + k : Nat) : Int)) : Seq0 ks b (k + 1) := fun j q hj hq' => by
  rcases Nat.lt_or_ge j k with h' | h'
  · exact h j q h' hq'
  · obtain rfl : j = k := by omega
    rw [hp] at hq'
    rw [← Option.some.inj hq']; exact hq
/-- They stop at k: the number b + k is lacking. -/
def Stp (ks : List Pk) (b k : Nat) : Prop := ∀ p, ks[k]? = some p → p.h.sq ≠ ((b + k : Nat) : Int)
section
variable {m : Rm} {k : Nat}
theorem Rm.Ok.later (hm : m.Ok) (hk : k ≤ m.ks.length) (hs : Seq0 m.ks m.base k) : ∀ (j : Nat) (p : Pk), k ≤ j → m.ks[j]? = some p → ((m.base + k : Nat) : Int) ≤ p.h.sq ∧ (k < j → ∀ q, m.ks[k]? = some q → q.h.sq < p.h.sq) := by
  intro j p hj hp
  have hjl : j < m.ks.length := (List.getElem?_eq_some_iff.1 hp).1
  have hpe : m.ks[j] = p := (List.getElem?_eq_some_iff.1 hp).2
  have rise : ∀ (a b : Nat) (ha : a < m.ks.length) (hb : b < m.ks.length), a < b → m.ks[a].h.sq < m.ks[b].h.sq := fun a b ha hb h => List.pairwise_iff_getElem.1 hm.ri a b ha hb h
  refine ⟨?_, fun h q hq => ?_⟩
  · rcases Nat.eq_zero_or_pos k with h0 | h0
    · have := (hm.win p (List.mem_of_getElem? hp)).1
      subst h0; simpa using this
    · have h1 := rise (k - 1) j (by omega) hjl (by omega)
      have h2 := hs (k - 1) m.ks[k - 1] (by omega) (List.getElem?_eq_getElem (by omega))
      rw [hpe] at h1
      omega
  · have h1 := rise k j (by omega) hjl h
    rw [hpe, (List.getElem?_eq_some_iff.1 hq).2] at h1
    exact h1
theorem Rm.Ok.runs (hm : m.Ok) (hk : k ≤ m.ks.length) (hs : Seq0 m.ks m.base k) (ht : Stp m.ks m.base k) : m.bm.runs k := by
  refine ⟨fun j hj => ?_, ?_⟩
  · have hjl : j < m.ks.length := by omega
    exact hasK_iff.2 ⟨m.ks[j], List.getElem_mem hjl, hs j _ hj (List.getElem?_eq_getElem hjl)⟩
  · cases h : m.bm.s (m.bm.base + k) with
    | false => rfl
    | true =>
      obtain ⟨p, hp, hq⟩ := hasK_iff.1 h
      obtain ⟨j, hj, he⟩ := List.getElem_of_mem hp
      have hjs : m.ks[j]? = some p := by rw [List.getElem?_eq_getElem hj, he]
      have hq' : p.h.sq = ((m.base + k : Nat) : Int) := hq
      rcases Nat.lt_or_ge j k with h' | h'
      · have := hs j p h' hjs; omega
      · rcases Nat.lt_or_ge k j with h2 | h2
        · have hkl : k < m.ks.length := by omega
          have h3 := (hm.later hk hs k m.ks[k] (Nat.le_refl _) (List.getElem?_eq_getElem hkl)).1
          have h4 := (hm.later hk hs j p h' hjs).2 h2 _ (List.getElem?_eq_getElem hkl)
          omega
        · obtain rfl : j = k := by omega
          exact absurd hq' (ht p hjs)
theorem Rm.Ok.on (hm : m.Ok) (hk : k ≤ m.ks.length) (hs : Seq0 m.ks m.base k) : m.bm.on k = ⟨m.size, m.base + k, hasK (m.ks.drop k)⟩ := by
  unfold Bm.on
  show (⟨m.size, m.base + k, _⟩ : Bm) = _
  congr 1
  funext i
  show (hasK m.ks i && decide (m.base + k ≤ i)) = hasK (m.ks.drop k) i
  cases h : hasK (m.ks.drop k) i with
  | true =>
    obtain ⟨p, hp, hq⟩ := hasK_iff.1 h
    obtain ⟨j, hj⟩ := List.getElem?_of_mem hp
    rw [List.getElem?_drop] at hj
    have := (hm.later hk hs (k + j) p (by omega) hj).1
    rw [hasK_iff.2 ⟨p, List.mem_of_mem_drop hp, hq⟩, decide_eq_true (by omega)]; rfl
  | false =>
    cases h' : hasK m.ks i with
    | false => rfl
    | true =>
      obtain ⟨p, hp, hq⟩ := hasK_iff.1 h'
      obtain ⟨j, hj⟩ := List.getElem?_of_mem hp
      have hlt : j < k := by
        rcases Nat.lt_or_ge j k with h2 | h2
        · exact h2
        · have : p ∈ m.ks.drop k := List.mem_of_getElem? (i := j - k) (by rw [List.getElem?_drop, show k + (j - k) = j by omega]; exact hj)
          rw [hasK_iff.2 ⟨p, this, hq⟩] at h; cases h
      have := hs j p hlt hj
      rw [decide_eq_false (by omega)]; rfl
end
/-- What advancing makes of a receiver; and what it tells. -/
def Rm.av (m : Rm) : Av := avL m.base m.jm [] m.ks
def Rm.adv (m : Rm) : Rm := { m with base := m.av.b, ks := m.av.ks, jm := m.av.j, dn := m.av.fin || m.dn, pd := if m.av.fin = true then 0 else m.pd }
section
variable {F FJ FP : Nat → Prop} {w w' : World} {e r pb g b : Nat} {m : Rm} {j : Jm}
def Rm.fins (m : Rm) : Rm := { m with dn := true, pd := 0 }
set_option maxHeartbeats 4000000 in
theorem e_finish (hb : Bk w 89 e [.pointer (some ⟨pb, 0, none⟩), .int .i64 m.sr, .int .i64 m.ds, .int .i64 m.cn, .int .i64 m.cl, .int .i64 0, .int .i64 0, .int .i64 0, .int .i64 m.pl, .int .i64 0, .int .i64 0, .int .i64 m.ar, .int .i64 m.pd, .bool false, .bool m.dn, .int .i64 m.pa, .map (some b), .pointer (some ⟨g, 0, none⟩)]) (hm : Bmp w pb m.bm) (hj : JnC FJ w g j) (hfe : ¬ FJ e) (hpe : pb ≠ e) (n : Nat) (hn : n ≤ 1152921504606846976) :
    Calls Try.prog 60 #[.pointer (some ⟨e, 0, none⟩), .int .i64 n] w fun en w' => (∃ v, en = .returned v) ∧ ∃ pb', w.heap.size ≤ pb' ∧ Bk w' 89 e [.pointer (some ⟨pb', 0, none⟩), .int .i64 m.fins.sr, .int .i64 m.fins.ds, .int .i64 m.fins.cn, .int .i64 m.fins.cl, .int .i64 0, .int .i64 0, .int .i64 0, .int .i64 m.fins.pl, .int .i64 0, .int .i64 0, .int .i64 m.fins.ar, .int .i64 m.fins.pd, .bool false, .bool m.fins.dn, .int .i64 m.fins.pa, .map none, .pointer (some ⟨g, 0, none⟩)] ∧ Bmp w' pb' (Bm.new m.size n) ∧ JnC FJ w' g ⟨[], j.N, j.T⟩ ∧ St (fun k => k = e ∨ FJ k) w w' := by
  have c14 := hb.cell 14 rfl
  have f14 := hb.free 14
  have c12 := hb.cell 12 rfl
  have f12 := hb.free 12
  have c0 := hb.cell 0 rfl
  have hel := hb.lt
  have ho := hm.1
  have hs1 : 1 ≤ m.size := ho.s1
  have hs2 : m.size ≤ 256 := ho.s2
  have hsA := (St.setCell (F := (· = e)) w (a := ⟨e, 14, none⟩) rfl (.bool true)).trans (St.setCell (F := (· = e)) _ (a := ⟨e, 12, none⟩) rfl (.int .i64 0)) (Gr.refl _ _)
  have bk2 := (hb.set 14 (.bool true)).set 12 (.int .i64 0)
  have HM2 := Lib.hid (b_size (hm.st hsA hpe))
  have HJ2 := Lib.hid (hj.st hsA (fun k hk he => hfe (he ▸ hk)))
  have HA := Lib.hid hsA
  have hgj : FJ g := by obtain ⟨A, n, c, h⟩ := hj; exact h.fg
  have hge : g ≠ e := fun he => hfe (he ▸ hgj)
  generalize hW2 : (w.setCell ⟨e, 14, none⟩ (.bool true)).setCell ⟨e, 12, none⟩ (.int .i64 0) = W2 at *
  have HW2 := Lib.hid hW2
  have B2 := Lib.hid bk2
  clear hm hj hsA hW2 bk2 ho
  have e2 : m.bm.size = m.size := rfl
  rw [e2] at HM2
  go_enter Try.func60, Try.ntmps60
  go_wp2_with fail
  rw [HW2.out]
  refine HM2.out.mono ?_
  rintro en w1 ⟨rfl, rfl⟩
  go_wp2_with fail
  refine (b_new m.size n W2 hs1 hs2 (by omega)).mono ?_
  rintro en w3 ⟨rfl, hbm3, hb3⟩
  have bk3 := B2.out.below hb3
  have c0 := bk3.cell 0 rfl
  have f0 := bk3.free 0
  have c16 := bk3.cell 16 rfl
  have f16 := bk3.free 16
  have c17 := bk3.cell 17 rfl
  have hel2 := B2.out.lt
  have hsB := (St.setCell (F := (· = e)) w3 (a := ⟨e, 0, none⟩) rfl (.pointer (some ⟨W2.heap.size, 0, none⟩))).trans (St.setCell (F := (· = e)) _ (a := ⟨e, 16, none⟩) rfl (.map none)) (Gr.refl _ _)
  have bk4 := (bk3.set 0 (.pointer (some ⟨W2.heap.size, 0, none⟩))).set 16 (.map none)
  have HJ4 := Lib.hid ((HJ2.out.below hb3).st hsB (fun k hk he => hfe (he ▸ hk)))
  have HBM4 := Lib.hid (hbm3.st hsB (by omega))
  have HS4 := Lib.hid ((HA.out.trans (St.ext hb3 (F := (· = e))) (Gr.refl _ _)).trans hsB (Gr.refl _ _))
  have HSZ := Lib.hid (show w.heap.size ≤ W2.heap.size from HA.out.size)
  have HGE := Lib.hid (show W2.heap.size < w3.heap.size from hbm3.lt)
  have B4 := Lib.hid bk4
  clear hbm3 hb3 bk3 hsB bk4 HM2 HA HJ2 B2 HW2
  generalize hW4 : (w3.setCell ⟨e, 0, none⟩ (.pointer (some ⟨W2.heap.size, 0, none⟩))).setCell ⟨e, 16, none⟩ (.map none) = W4 at *
  have HW4 := Lib.hid hW4
  clear hW4
  go_wp2_with fail
  rw [HW4.out]
  refine (j_reset HJ4.out).mono ?_
  rintro en w5 ⟨rfl, hj5, hs5⟩
  have HLT := Lib.hid (HJ4.out.lt g hgj)
  have hgz : g ≠ W2.heap.size := by
    have := HSZ.out
    have h1 := HJ4.out.lt g hgj
    intro he
    obtain ⟨_, _, _, h2⟩ := HJ4.out
    have h3 := h2.bk
    obtain ⟨_, mm, _, h4⟩ := HBM4.out
    unfold Bk at h3
    unfold Bk5 Bk at h4
    rw [he, h4] at h3
    injection h3 with h3
    injection h3 with _ h5
    exact absurd h5 (by decide)
  go_wp2
  go_end0
  exact ⟨⟨_, rfl⟩, W2.heap.size, HSZ.out, (B4.out.st hs5 (Ne.symm hge)), HBM4.out.st hs5 (Ne.symm hgz), ⟨_, _, _, hj5⟩, (HS4.out.mono fun k _ hk => .inl hk).trans (hs5.mono fun k _ hk => .inr (hk ▸ hgj)) (Gr.refl _ _)⟩
end
end Go.Proofs.Ytmmjhijgedboiaa
