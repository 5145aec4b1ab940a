/- Messages: lists of slices of bytes; those that can be cut, copied; the iterator over all their pieces is made. -/
import Derived.Test.YtmnmkolcffehhaaU3
import Derived.Test.YtmnmkolcffehhaaU6
set_option linter.unusedSimpArgs false
set_option linter.unusedVariables false
namespace Go.Proofs.Ytmnmkolcffehhaa
open Go.RowKit Go.Shelf
/-- A slice of bytes as a value, and what it reads. -/
structure Bs where
  A : Option Addr
  n : Nat
  c : Nat
  xs : List Int
def Bs.val (b : Bs) : Value := .slice b.A b.n b.c
theorem Bs.val_one (b : Bs) : b.val.oneCell' = true := rfl
/-- Messages in a list that reads. -/
def SlB (w : World) (A : Option Addr) (n c : Nat) (ms : List (List Int)) : Prop :=
  ∃ bs : List Bs, RdV w A n c (bs.map Bs.val) ∧ bs.map Bs.xs = ms ∧ ∀ b ∈ bs, Rd .u8 w b.A b.n b.c b.xs
/-- Messages in a list of the call's own. -/
def LsB (F : Nat → Prop) (w : World) (A : Option Addr) (n c : Nat) (ms : List (List Int)) : Prop :=
  ∃ bs : List Bs, Lst 22 F w A n c (bs.map Bs.val) ∧ bs.map Bs.xs = ms ∧ ∀ b ∈ bs, BsR w b.A b.n b.c b.xs
section
variable {F : Nat → Prop} {w w' : World} {A : Option Addr} {n c : Nat} {ms : List (List Int)}
theorem SlB.below (h : SlB w A n c ms) (hb : Below w.heap.size w w') : SlB w' A n c ms := by
  obtain ⟨bs, h1, h2, h3⟩ := h
  exact ⟨bs, h1.below hb, h2, fun b hb' => (h3 b hb').below hb⟩
theorem SlB.len (h : SlB w A n c ms) : ms.length = n := by
  obtain ⟨bs, h1, h2, h3⟩ := h
  have := h1.1
  rw [← h2]
  simpa using this
theorem SlB.at (h : SlB w A n c ms) {i : Nat} (hi : i < n) : ∃ (g o : Nat) (b : Bs), A = some ⟨g, o, none⟩ ∧ w.cell? ⟨g, o + i, none⟩ = some (.slice b.A b.n b.c) ∧ Rd .u8 w b.A b.n b.c b.xs ∧ ms[i]? = some b.xs := by
  obtain ⟨bs, h1, h2, h3⟩ := h
  have hl : i < bs.length := by have := h1.1; simp at this; omega
  obtain ⟨g, o, hA, hg, hx⟩ := h1.2.2.2.2.2 (by omega)
  refine ⟨g, o, bs[i], hA, ?_, h3 _ (List.getElem_mem _), by rw [← h2]; simp [hl]⟩
  rw [hx i hi]
  simp [hl, Bs.val]
theorem LsB.rd (h : LsB F w A n c ms) : SlB w A n c ms := by
  obtain ⟨bs, h1, h2, h3⟩ := h
  exact ⟨bs, h1.rdv, h2, fun b hb => (h3 b hb).1⟩
theorem LsB.nil (F : Nat → Prop) (w : World) : LsB F w none 0 0 [] := ⟨[], Lst.nil _ _ _, rfl, by simp⟩
theorem LsB.mono {F' : Nat → Prop} (h : LsB F w A n c ms) (hF : ∀ k, F k → F' k) : LsB F' w A n c ms := by
  obtain ⟨bs, h1, h2, h3⟩ := h
  exact ⟨bs, h1.mono hF, h2, h3⟩
theorem LsB.keep (h : LsB F w A n c ms) (hs : w.heap.size ≤ w'.heap.size) (hb : ∀ k t, Tyd t w k → t = 5 ∨ t = 22 → w'.heap[k]? = w.heap[k]?) : LsB F w' A n c ms := by
  obtain ⟨bs, h1, h2, h3⟩ := h
  exact ⟨bs, h1.same fun ad he => hb _ _ (h1.tyd _ ⟨ad, he, rfl⟩) (.inr rfl), h2, fun b hb' => BsR.keep (h3 b hb') hs fun ad he => hb _ _ ((h3 b hb').2 _ ⟨ad, he, rfl⟩) (.inl rfl)⟩
theorem LsB.kp {n0 N : Nat} (h : LsB F w A n c ms) (hk : KpT n0 N w w') : LsB F w' A n c ms := h.keep hk.1 fun k t ⟨cur, fz, ht⟩ hor => by
  rw [hk.2 _ _ ht (.inr (.inr ⟨_, _, _, rfl, by rcases hor with rfl | rfl <;> decide, by rcases hor with rfl | rfl <;> decide⟩)), ht]
theorem LsB.below (h : LsB F w A n c ms) (hb : Below w.heap.size w w') : LsB F w' A n c ms := h.kp (KpT.below (n0 := 0) (N := 0) hb)
/-- Message i of a list of the call's own. -/
theorem LsB.at (h : LsB F w A n c ms) {i : Nat} (hi : i < n) : ∃ (g o : Nat) (b : Bs), A = some ⟨g, o, none⟩ ∧ w.cell? ⟨g, o + i, none⟩ = some (.slice b.A b.n b.c) ∧ BsR w b.A b.n b.c b.xs ∧ ms[i]? = some b.xs := by
  obtain ⟨bs, h1, h2, h3⟩ := h
  have hl : i < bs.length := by have := h1.1; simp at this; omega
  obtain ⟨g, o, hA, hg, hx⟩ := h1.rdv.2.2.2.2.2 (by omega)
  refine ⟨g, o, bs[i], hA, ?_, h3 _ (List.getElem_mem _), by rw [← h2]; simp [hl]⟩
  rw [hx i hi]
  simp [hl, Bs.val]
/-- One message more. -/
theorem LsB.app {W W1 w2 : World} {b : Bs} {bs : List Bs} {v : Value} (h1 : Lst 22 F W A n c (bs.map Bs.val)) (h2 : bs.map Bs.xs = ms) (h3 : ∀ b ∈ bs, BsR W b.A b.n b.c b.xs) (hq : BsR W1 b.A b.n b.c b.xs) (hb : Below W.heap.size W W1)
    (hap : Apd 22 (BlkOf A) W1 v (bs.map Bs.val ++ [b.val]) w2) : ∃ A' n' c', v = .slice A' n' c' ∧ LsB (fun k => F k ∨ W.heap.size ≤ k) w2 A' n' c' (ms ++ [b.xs]) ∧ St (BlkOf A) W w2 := by
  obtain ⟨⟨A', n', c', rfl, hl'⟩, hst⟩ := hap
  have hnb : ∀ k, BlkOf A k → ¬ Tyd 5 W1 k := fun k hk => ((h1.below hb).tyd k hk).ne (by decide)
  refine ⟨A', n', c', rfl, ⟨bs ++ [b], ?_, by rw [List.map_append, h2]; rfl, fun q hq' => ?_⟩, (St.ext hb).trans hst (Gr.refl _ _)⟩
  · rw [List.map_append]
    refine hl'.mono ?_
    rintro k (⟨ad, rfl, rfl⟩ | hk)
    · exact .inl (h1.blk _ rfl).1
    · exact .inr (Nat.le_trans hb.size hk)
  · rcases List.mem_append.1 hq' with h | h
    · exact BsR.st (BsR.below (h3 q h) hb) hst hnb
    · obtain rfl : q = b := by simpa using h
      exact BsR.st hq hst hnb
end
/-- Those that can be cut. -/
def okM (m : Int) (ms : List (List Int)) : List (List Int) := ms.filter fun xs => fitB xs.length m
theorem okM_take (m : Int) (ms : List (List Int)) {k : Nat} {xs : List Int} (h : ms[k]? = some xs) : okM m (ms.take (k + 1)) = okM m (ms.take k) ++ (if fitB xs.length m = true then [xs] else []) := by
  unfold okM
  rw [List.take_add_one, h, List.filter_append]
  simp only [Option.toList_some, List.filter_cons, List.filter_nil]
set_option maxRecDepth 100000 in
set_option maxHeartbeats 4000000 in
theorem c_copies {w : World} {A : Option Addr} {n c : Nat} {ms : List (List Int)} (m : Int) (h : SlB w A n c ms) (hn : n ≤ 100000) :
    Calls Try.prog 24 #[.int .i64 m, .slice A n c] w fun e w' => ∃ A' n' c', e = .returned (.slice A' n' c') ∧ LsB (w.heap.size ≤ ·) w' A' n' c' (okM m ms) ∧ Below w.heap.size w w' := by
  have HM := Lib.hid h.len
  have HH := Lib.hid h
  clear h
  go_enter Try.func24, Try.ntmps24
  go_wp2
  go_loopw [5, 7, 10] (fun v u i wr => ∃ (k : Nat) (A1 : Option Addr) (n1 c1 : Nat), i = .int .i64 k ∧ k ≤ n ∧ v = .slice A1 n1 c1 ∧ n1 ≤ k ∧ LsB (w.heap.size ≤ ·) wr A1 n1 c1 (okM m (ms.take k)) ∧ Below w.heap.size w wr) (fun v u i _ => n - (intOf i).toNat)
  case atStart => exact ⟨0, none, 0, 0, rfl, Nat.zero_le _, rfl, Nat.zero_le _, by simpa [okM] using LsB.nil _ _, Below.refl _ _⟩
  case round =>
    obtain ⟨k, A1, n1, c1, rfl, hk, rfl, hn1, hl, hb⟩ := hrel
    by_cases hlt : k < n
    · obtain ⟨g, o, b, rfl, hcell, hrd, hat⟩ := (HH.out.below hb).at hlt
      have hkI : (k : Int) < n := by omega
      have HO := Lib.hid (okM_take m ms hat)
      have HB := Lib.hid hb
      have HL := Lib.hid hl
      have hbl := hrd.1
      clear hat hb
      cases hf : fitB b.n m with
      | true =>
        have hf' : fitB b.xs.length m = true := by rw [hbl]; exact hf
        have HO2 : Hid (okM m (ms.take (k + 1)) = okM m (ms.take k) ++ [b.xs]) := Lib.hid (by rw [HO.out, if_pos hf'])
        have hb6 : b.n ≤ 65536 := by have := fit_of hf; omega
        have HF := Lib.hid hf
        have HRD := Lib.hid hrd
        obtain ⟨bs, hlst, hbs, hbr⟩ := hl
        have hbytes : (n1 + 1) * 24 ≤ 140737488355328 := by omega
        clear hf hf' hrd HO
        go_wp2_with fail
        refine (fits_any b.n m wr).mono ?_
        rintro e w1 ⟨rfl, rfl⟩
        rw [HF.out]
        go_wp2_with fail
        refine (clone_any _ _ _ _ _ HRD.out hb6).mono ?_
        rintro e w1 ⟨v1, rfl, hown, hb1⟩
        obtain ⟨A2, c2, rfl⟩ := own_slice hown
        have HQ := Lib.hid (BsR.own hown HRD.out.2.2.2.2.1)
        have HB1 := Lib.hid hb1
        generalize hln : b.xs.length = ln at hown ⊢
        have HLN := Lib.hid hln
        have hla := ((hlst.below hb1).alloc (.cells #[.slice A2 ln c2] 22)).tight
        have hu := RdV.one w1 22 (.slice A2 ln c2) rfl
        clear hown hln hb1
        go_wp2_with (first
          | (refine wpList_build_one (x := .slice A2 ln c2) eltB rfl (.tmp 20) rfl rfl rfl ?_)
          | (at_builtin
             refine wpList_append_lst eltB rfl (.tmp 18) (.tmp 21) rfl rfl hla rfl hu hbytes ?_
             rintro v w2 hap
             obtain ⟨A', n', c', rfl, hl'⟩ := hap.ex
             have HAP := Lib.hid hap
             have hn' := hl'.1
             clear hap hl'))
        have hba := HB1.out.trans ((Below.refl _ w1).alloc HB1.out.size (.cells #[.slice A2 ln c2] 22))
        obtain ⟨A3, n3, c3, e3, hL3, hS3⟩ := LsB.app (b := ⟨A2, ln, c2, b.xs⟩) (w2 := w2) (v := .slice A' n' c') hlst hbs hbr (by
          have := HQ.out
          rw [HLN.out] at this
          exact BsR.below this ((Below.refl _ w1).alloc (Nat.le_refl _) _)) hba HAP.out
        injection e3 with e1 e2 e3
        subst e1 e2 e3
        have HL3 := Lib.hid (hL3.mono (F' := (w.heap.size ≤ ·)) (fun k hk => by rcases hk with hk | hk; exact hk; exact Nat.le_trans HB.out.size hk))
        have HB3 := Lib.hid (HB.out.trans (hS3.below HB.out.size (fun k hk => by obtain ⟨ad, he, rfl⟩ := hk; exact (hlst.blk ad he).1)))
        have hnn : n' ≤ k + 1 := by have := hlst.1; simp at hn' this; omega
        go_roundw
        case rel => exact ⟨k + 1, A', n', c', by go_num, by omega, rfl, hnn, by rw [HO2.out]; exact HL3.out, HB3.out⟩
        case measure => simp [intOf]; omega
      | false =>
        have hf' : fitB b.xs.length m = false := by rw [hbl]; exact hf
        have HO2 : Hid (okM m (ms.take (k + 1)) = okM m (ms.take k)) := Lib.hid (by rw [HO.out, if_neg (by rw [hf']; simp), List.append_nil])
        have HF := Lib.hid hf
        clear hf hf' hrd HO hl
        go_wp2_with fail
        refine (fits_any b.n m wr).mono ?_
        rintro e w1 ⟨rfl, rfl⟩
        rw [HF.out]
        go_wp2
        go_roundw
        case rel => exact ⟨k + 1, A1, n1, c1, by go_num, by omega, rfl, by omega, by rw [HO2.out]; exact HL.out, HB.out⟩
        case measure => simp [intOf]; omega
    · obtain rfl : k = n := by omega
      rw [List.take_of_length_le (by rw [HM.out]; exact Nat.le_refl _)] at hl
      have HL := Lib.hid hl
      have HB := Lib.hid hb
      clear hl hb
      go_wp2
      go_ret
      exact ⟨_, _, _, rfl, HL.out, HB.out⟩
theorem c_all {w : World} {A : Option Addr} {n c : Nat} {ms : List (List Int)} (m : Int) (h : SlB w A n c ms) (hn : n ≤ 100000) :
    Calls Try.prog 20 #[.int .i64 m, .slice A n c] w fun e w' => ∃ g1 g2 A1 n1 c1, e = .returned (.func (.func 25) #[] #[.pointer (some ⟨g1, 0, none⟩), .pointer (some ⟨g2, 0, none⟩)]) ∧
      Bk w' 34 g1 [.slice A1 n1 c1] ∧ Bk w' 3 g2 [.int .i64 m] ∧ LsB (w.heap.size ≤ ·) w' A1 n1 c1 (okM m ms) ∧ Below w.heap.size w w' := by
  have hba : Below w.heap.size w (w.alloc (.cells #[.int .i64 m] 3)) := (Below.refl _ w).alloc (Nat.le_refl _) _
  have HC := Lib.hid (c_copies m (h.below hba) hn)
  have q2 := Bk.new w 3 [.int .i64 m]
  have cc := q2.cell 0 rfl
  have HQ := Lib.hid (And.intro q2 hba)
  clear h hba q2
  go_enter Try.func20, Try.ntmps20
  go_wp2_with fail
  refine HC.out.mono ?_
  rintro e w1 ⟨A1, n1, c1, rfl, hl, hb1⟩
  have HL := Lib.hid hl
  have HB1 := Lib.hid hb1
  clear hl hb1 cc HC
  go_wp2
  go_ret
  have q1 := Bk.new w1 34 [.slice A1 n1 c1]
  have hb2 : Below w1.heap.size w1 (w1.alloc (.cells #[.slice A1 n1 c1] 34)) := (Below.refl _ w1).alloc (Nat.le_refl _) _
  have hb0 := HQ.out.2.trans (HB1.out.mono HQ.out.2.size)
  refine ⟨w1.heap.size, w.heap.size, A1, n1, c1, rfl, q1, (HQ.out.1.below HB1.out).below hb2, (HL.out.below hb2).mono (fun k hk => Nat.le_trans HQ.out.2.size hk), hb0.trans (hb2.mono hb0.size)⟩
end Go.Proofs.Ytmnmkolcffehhaa
