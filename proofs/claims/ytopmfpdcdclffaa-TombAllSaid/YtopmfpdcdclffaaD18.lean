/- All tombs and the reference's side by side. -/
import Derived.Test.YtopmfpdcdclffaaD17
import Derived.Test.YtopmfpdcdclffaaD10
import Derived.Test.YtopmfpdcdclffaaD14
set_option linter.unusedSimpArgs false
set_option linter.unusedVariables false
namespace Go.Proofs.Ytopmfpdcdclffaa
open Go.RowKit Go.Shelf
/-- One of the reference's: its values, and the slice of its row. -/
abbrev RT := Bm × Option Addr × Nat × Nat
def rcl (q : RT) : List Value := rvL q.1 q.2.1 q.2.2.1 q.2.2.2
theorem rcl_len (q : RT) : (rcl q).length = 3 := rfl
theorem rcl_one (q : RT) : ∀ v ∈ rcl q, v.oneCell' = true := rvL_one _ _ _ _
theorem eltR : EltS Try.prog 52 29 zR 40 := ⟨rfl, by kernel_rfl, by intro v hv; simp [zR] at hv; rcases hv with rfl | rfl <;> rfl, by decide, by decide, ⟨_, rfl, by decide⟩, by decide⟩
def alR (pre : List Value) (Rs : List RT) (suf : List Value) : List Value := pre ++ flat rcl Rs ++ suf
theorem alR_len (pre : List Value) (Rs : List RT) (suf : List Value) : (alR pre Rs suf).length = pre.length + Rs.length * 3 + suf.length := by
  unfold alR
  rw [List.length_append, List.length_append, flat_len rcl_len]
theorem alR_row {pre suf : List Value} {Rs : List RT} {i : Nat} {q : RT} (h : Rs[i]? = some q) : ((alR pre Rs suf).drop (pre.length + i * 3)).take 3 = rcl q := by
  obtain ⟨hi, rfl⟩ := List.getElem?_eq_some_iff.1 h
  have hl := flat_len rcl_len Rs
  unfold alR
  rw [List.append_assoc, ← List.drop_drop, List.drop_left, List.drop_append_of_le_length (by rw [hl]; omega), List.take_append_of_le_length (by rw [List.length_drop, hl]; omega)]
  exact flat_row rcl_len Rs i hi
theorem alR_cell {pre suf : List Value} {Rs : List RT} {i : Nat} {q : RT} (h : Rs[i]? = some q) : (alR pre Rs suf)[pre.length + i * 3 + 2]? = some (.slice q.2.1 q.2.2.1 q.2.2.2) := by
  have hr := alR_row (pre := pre) (suf := suf) h
  have : (((alR pre Rs suf).drop (pre.length + i * 3)).take 3)[2]? = (alR pre Rs suf)[pre.length + i * 3 + 2]? := by
    rw [List.getElem?_take, if_pos (by omega), List.getElem?_drop]
  rw [← this, hr]
  rfl
theorem lay_alR {pre suf : List Value} {Rs : List RT} {i : Nat} (hi : i < Rs.length) (q : RT) : lay (alR pre Rs suf) (pre.length + i * 3) (rcl q) = alR pre (Rs.set i q) suf := by
  have hl := flat_len rcl_len Rs
  unfold alR
  rw [flat_set rcl_len Rs i hi]
  unfold lay
  have hq := rcl_len q
  have e1 : (pre ++ flat rcl Rs ++ suf).take (pre.length + i * 3) = pre ++ (flat rcl Rs).take (i * 3) := by
    rw [List.append_assoc, List.take_length_add_append, List.take_append_of_le_length (by rw [hl]; omega)]
  have e2 : (pre ++ flat rcl Rs ++ suf).drop (pre.length + i * 3 + 3) = (flat rcl Rs).drop (i * 3 + 3) ++ suf := by
    rw [List.append_assoc, Nat.add_assoc, List.drop_length_add_append, List.drop_append_of_le_length (by rw [hl]; omega)]
  rw [hq, e1, e2]
  simp
/-- The block that a slice of rows lies in, known whole. -/
theorem lst_whole {e : TypeId} {F : Nat → Prop} {w : World} {A : Option Addr} {n c : Nat} {Rs : List RT} (h : LstR 3 e F w A n c (flat rcl Rs)) (hn : 0 < n) : ∃ g pre suf, A = some ⟨g, pre.length, none⟩ ∧ F g ∧ Bk w e g (alR pre Rs suf) := by
  obtain ⟨h1, h2, h3, h4, h5⟩ := h
  rcases h5 with ⟨_, hc⟩ | ⟨g, o, cur, hA, hf, hh, hs, hx⟩
  · omega
  · have hl := flat_len rcl_len Rs
    have hon : o + n * 3 ≤ cur.size := by omega
    refine ⟨g, cur.toList.take o, cur.toList.drop (o + n * 3), ?_, hf, ?_⟩
    · rw [hA, List.length_take, Array.length_toList, Nat.min_eq_left (by omega)]
    · have hfl : flat rcl Rs = (cur.toList.drop o).take (n * 3) := by
        apply List.ext_getElem?
        intro i
        rw [List.getElem?_take]
        split
        · rename_i hi
          rw [← hx i hi, List.getElem?_drop, Array.getElem?_toList]
        · rename_i hi
          rw [List.getElem?_eq_none (by omega)]
      have he : alR (cur.toList.take o) Rs (cur.toList.drop (o + n * 3)) = cur.toList := by
        unfold alR
        rw [hfl, List.append_assoc, ← List.drop_drop, List.take_append_drop, List.take_append_drop]
      unfold Bk
      rw [he]
      exact hh
/-- All tombs, and the reference's: side by side. -/
structure JR (w : World) (p g : Nat) (pre suf : List Value) (Bs : List Bm) (Rs : List RT) (W : World) : Prop where
  al : AllC W p Bs
  rs : Bk W 29 g (alR pre Rs suf)
  ln : Rs.length = Bs.length
  eq : ∀ (i : Nat) (q : RT), Rs[i]? = some q → Bs[i]? = some q.1 ∧ Rp W q.1 q.2.1 q.2.2.1 q.2.2.2 ∧ (0 < q.2.2.1 → ∀ ad, q.2.1 = some ad → ad.block ≠ p ∧ ad.block ≠ g)
  pg : p ≠ g
  pl : w.heap.size ≤ p
  gl : w.heap.size ≤ g
  bel : Below w.heap.size w W
section
variable {w W W' W1 W2 W3 : World} {p g n c : Nat} {pre suf : List Value} {Bs Bs' : List Bm} {Rs : List RT} {A : Option Addr}
theorem JR.next (h : JR w p g pre suf Bs Rs W) (hb : Below W.heap.size W W') : JR w p g pre suf Bs Rs W' :=
  ⟨h.al.below hb, h.rs.below hb, h.ln, fun i q hq => ⟨(h.eq i q hq).1, RdV.below (h.eq i q hq).2.1 hb, (h.eq i q hq).2.2⟩, h.pg, h.pl, h.gl, h.bel.trans (hb.mono h.bel.size)⟩
/-- The code's tomb i has been turned: the reference's is behind. -/
structure JM (w : World) (p g : Nat) (pre suf : List Value) (i : Nat) (B' : Bm) (Bs : List Bm) (Rs : List RT) (W : World) : Prop where
  al : AllC W p (Bs.set i B')
  rs : Bk W 29 g (alR pre Rs suf)
  ln : Rs.length = Bs.length
  eq : ∀ (i : Nat) (q : RT), Rs[i]? = some q → Bs[i]? = some q.1 ∧ Rp W q.1 q.2.1 q.2.2.1 q.2.2.2 ∧ (0 < q.2.2.1 → ∀ ad, q.2.1 = some ad → ad.block ≠ p ∧ ad.block ≠ g)
  pg : p ≠ g
  pl : w.heap.size ≤ p
  gl : w.heap.size ≤ g
  bel : Below w.heap.size w W
theorem JR.turn (h : JR w p g pre suf Bs Rs W) {i : Nat} {B' : Bm} (ha : AllC W' p (Bs.set i B')) (hs : St (· = p) W W') : JM w p g pre suf i B' Bs Rs W' :=
  ⟨ha, h.rs.st hs (Ne.symm h.pg), h.ln, fun i q hq => ⟨(h.eq i q hq).1, RdV.st (h.eq i q hq).2.1 hs (fun hn ad he => ((h.eq i q hq).2.2 hn ad he).1), (h.eq i q hq).2.2⟩, h.pg, h.pl, h.gl, h.bel.trans (hs.below h.bel.size (fun k hk => by have : k = p := hk; have := h.pl; omega))⟩
theorem JM.next {i : Nat} {B' : Bm} (h : JM w p g pre suf i B' Bs Rs W) (hb : Below W.heap.size W W') : JM w p g pre suf i B' Bs Rs W' :=
  ⟨h.al.below hb, h.rs.below hb, h.ln, fun i q hq => ⟨(h.eq i q hq).1, RdV.below (h.eq i q hq).2.1 hb, (h.eq i q hq).2.2⟩, h.pg, h.pl, h.gl, h.bel.trans (hb.mono h.bel.size)⟩
/-- The reference's follows. -/
theorem JM.ref {i : Nat} {B' : Bm} {q : RT} (h : JM w p g pre suf i B' Bs Rs W) (hq : Rs[i]? = some q) (hr : Rr W B' q.2.1 q.2.2.1 A n c W1) (hb : Below W1.heap.size W1 W2) (hk : Bk W3 29 g (lay (alR pre Rs suf) (pre.length + i * 3) (rvL B' A n c))) (hw : Wr g W2 W3) :
    JR w p g pre suf (Bs.set i B') (Rs.set i (B', A, n, c)) W3 := by
  have h1 := (h.next hr.bel).next hb
  have hst := st_wr hw
  have hi : i < Rs.length := (List.getElem?_eq_some_iff.1 hq).1
  have hiB : i < Bs.length := by have := h.ln; omega
  have hlt := h.al.lt
  have hgt := h.rs.lt
  have ho : 0 < n → ∀ ad, A = some ad → ad.block ≠ p ∧ ad.block ≠ g := fun hn ad he => by
    rcases hr.lie hn ad he with hl | ⟨hn0, a0, e0, hl⟩
    · omega
    · have := (h.eq i q hq).2.2 hn0 a0 e0
      omega
  have hk' : Bk W3 29 g (alR pre (Rs.set i (B', A, n, c)) suf) := by
    rw [← lay_alR hi]
    exact hk
  refine ⟨h1.al.st hst h.pg, hk', by rw [List.length_set, List.length_set]; exact h.ln, fun j t ht => ?_, h.pg, h.pl, h.gl, h1.bel.trans (hw.below h.gl h1.bel.size)⟩
  rw [List.getElem?_set] at ht ⊢
  by_cases hij : i = j
  · subst hij
    rw [if_pos rfl, if_pos hi] at ht
    rw [if_pos rfl, if_pos hiB]
    cases ht
    exact ⟨rfl, RdV.st (RdV.below hr.rp hb) hst (fun hn ad he => (ho hn ad he).2), ho⟩
  · rw [if_neg hij] at ht ⊢
    obtain ⟨e1, e2, e3⟩ := h1.eq j t ht
    exact ⟨e1, RdV.st e2 hst (fun hn ad he => (e3 hn ad he).2), e3⟩
end
end Go.Proofs.Ytopmfpdcdclffaa
