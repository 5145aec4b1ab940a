/- The reference's tomb: Open. -/
import Derived.Test.YtopmfpdcdclffaaD6
set_option linter.unusedSimpArgs false
set_option linter.unusedVariables false
namespace Go.Proofs.Ytopmfpdcdclffaa
open Go.RowKit Go.Shelf
section
variable {w w' : World} {B : Bm} {A : Option Addr} {n c : Nat}
theorem Bm.cond_false {B : Bm} (ho : B.ok) (j : Nat) (ht : B.base + j ≤ 1152921504606846976) : B.cond false j = !decide (((B.base + j : Nat) : Int) ∈ B.all true) := by
  unfold Bm.cond
  rw [decide_eq_true ht, Bool.and_true]
  have : decide (((B.base + j : Nat) : Int) ∈ B.all true) = B.s (B.base + j) := by
    rw [Bool.eq_iff_iff, decide_eq_true_eq, B.mem_all ho, Int.toNat_natCast]
    exact ⟨fun h => h.2, fun h => ⟨by omega, h⟩⟩
  rw [this]
  cases B.s (B.base + j) <;> rfl
theorem Bm.take_nums (B : Bm) {i : Nat} (hi : i ≤ B.size) {m : Nat} (h : (B.nums false i).length = m) : (B.all false).take m = B.nums false i := by
  obtain ⟨r, hr⟩ := B.nums_pre false i (B.size - i)
  rw [show i + (B.size - i) = B.size from by omega] at hr
  show (B.nums false B.size).take m = _
  rw [hr, ← h, List.take_left]
/-- Between two rounds of Lacking. -/
structure RlI (w : World) (B : Bm) (A : Option Addr) (n c : Nat) (xs : List Int) (A' : Option Addr) (n' c' : Nat) (W : World) : Prop where
  bx : Bk W 29 w.heap.size (rvL B A n c)
  ls : Lst 3 (w.heap.size + 1 ≤ ·) W A' n' c' (intV xs)
  bel : Below w.heap.size w W
theorem RlI.up {xs : List Int} {A' : Option Addr} {n' c' : Nat} {W W' : World} (h : RlI w B A n c xs A' n' c' W) (hb : Below W.heap.size W W') : RlI w B A n c xs A' n' c' W' :=
  ⟨h.bx.below hb, h.ls.below hb, h.bel.trans (hb.mono h.bel.size)⟩
theorem RlI.next {xs : List Int} {x : Int} {A' : Option Addr} {n' c' : Nat} {W W' : World} {v : Value} (h : RlI w B A n c xs A' n' c' W) (hap : Apd 3 (w.heap.size + 1 ≤ ·) (W.alloc (.cells #[.int .i64 x] 3)) v (intV xs ++ [.int .i64 x]) W') :
    ∃ A2 n2 c2, v = .slice A2 n2 c2 ∧ RlI w B A n c (xs ++ [x]) A2 n2 c2 W' := by
  obtain ⟨h1, h2, h3⟩ := h
  obtain ⟨A2, n2, c2, rfl, hl⟩ := hap.ex
  have hlt := h1.lt
  refine ⟨A2, n2, c2, rfl, (h1.alloc _).st hap.st (by omega), ?_, ?_⟩
  · rw [intV_snoc]
    exact hl.mono fun k hk => by
      rcases hk with hk | hk
      · exact hk
      · simp at hk; omega
  · exact (h3.trans ((Below.refl _ _).alloc h3.size _)).trans (hap.st.below (by have := h3.size; simp; omega) (fun k hk => by omega))
set_option maxRecDepth 100000 in
set_option maxHeartbeats 4000000 in
theorem ropen_any (h : Rp w B A n c) (ht : B.tk) (hbb : B.base + B.size ≤ 1073741825) (most : Int) :
    Calls Try.prog 32 #[.agg (rvL B A n c).toArray, .int .i64 most] w (Made 3 (intV (B.opens most)) w) := by
  have ho := ht.ok
  show Calls _ _ _ _ (Made 3 (intV ((B.all false).take most.toNat)) w)
  have hs2 := ho.s2
  have hb1 := ho.b1
  have hb := (Below.refl w.heap.size w).alloc (Nat.le_refl _) (.cells (rvL B A n c).toArray 29)
  have HI : Hid (RlI w B A n c (B.nums false 0) none 0 0 (w.alloc (.cells (rvL B A n c).toArray 29))) := Lib.hid ⟨Bk.new w _ (rvL B A n c), Lst.nil _ _ _, hb⟩
  have HH := Lib.hid h
  have hk0 := Bk.new w 29 (rvL B A n c)
  have c1 := hk0.cell 1 (v := .int .i64 B.base) rfl
  clear h hb hk0
  go_enter Try.func32, Try.ntmps32
  go_wp2
  clear c1
  go_loopw [5, 6] (fun v i wr => ∃ (j : Nat) (A' : Option Addr) (n' c' : Nat), j ≤ B.size ∧ v = .slice A' n' c' ∧ i = .int .i64 ((B.base : Int) + j) ∧ (B.nums false j).length ≤ most.toNat ∧ RlI w B A n c (B.nums false j) A' n' c' wr) (fun _ i _ => (B.base + 257 - (intOf i).toNat : Nat))
  case atStart => exact ⟨0, none, 0, 0, Nat.zero_le _, rfl, by simp, Nat.zero_le _, HI.out⟩
  case round =>
    obtain ⟨j, A', n', c', hj, rfl, rfl, hle, hJ⟩ := hrel
    have HLE := Lib.hid hle
    have HR := Lib.hid hJ
    have hn' : n' = (B.nums false j).length := by have := hJ.ls.1; rw [intV_len] at this; exact this.symm
    have hnl := B.nums_len false j
    have c0 := hJ.bx.cell 0 (v := .int .i64 B.size) rfl
    have c1 := hJ.bx.cell 1 (v := .int .i64 B.base) rfl
    have c2 := hJ.bx.cell 2 (v := .slice A n c) rfl
    have HN := Lib.hid hn'
    have hn8 : n' ≤ 256 := by omega
    clear hJ hle hn' hnl
    have hwr : IntKind.i64.wrap ((B.base : Int) + B.size) = (B.base : Int) + B.size := by rw [IntKind.wrap_i64]; omega
    have hbx := HR.out.bx
    by_cases hstop : j = B.size ∨ most ≤ n'
    · have HT : Hid ((B.all false).take most.toNat = B.nums false j) := Lib.hid (by
        have h1 := HLE.out
        have h2 := HN.out
        rcases hstop with rfl | hs
        · exact List.take_of_length_le h1
        · exact B.take_nums hj (by omega))
      have HF : Hid (Made 3 (intV ((B.all false).take most.toNat)) w (.returned (.slice A' n' c')) wr) := Lib.hid ⟨A', n', c', rfl, by rw [HT.out]; exact HR.out.ls.mono fun k hk => by omega, HR.out.bel⟩
      clear hbx
      rcases (by omega : (B.base : Int) + B.size ≤ (B.base : Int) + j ∨ ((B.base : Int) + j < (B.base : Int) + B.size ∧ most ≤ n')) with h0 | ⟨h0, h2⟩
      all_goals
        clear hstop
        go_wp2
        go_ret
        exact HF.out
    · have hjs : j < B.size := by omega
      have h0 : (B.base : Int) + j < (B.base : Int) + B.size := by omega
      have h2 : (n' : Int) < most := by omega
      have hc : B.cond false j = B.tmay ((B.base : Int) + j) := by
        rw [B.cond_false ho j (by omega), Bm.tmay_eq ht, decide_eq_true (show (B.base : Int) ≤ (B.base : Int) + j by omega), decide_eq_true h0, decide_eq_true (show (B.base : Int) + j ≤ 1073741824 by omega), Int.natCast_add]
        rfl
      have hsu := B.nums_succ false j
      have HRH := Lib.hid (RdV.belowA' HH.out HR.out.bel (fun ad he hn => RdV.blk HH.out hn ad he))
      have HM := Lib.hid (rmay_any HRH.out ht ((B.base : Int) + j))
      clear hstop
      cases hm : B.tmay ((B.base : Int) + j) with
      | false =>
        rw [hm] at hc
        rw [if_neg (by rw [hc]; simp)] at hsu
        have HSU := Lib.hid hsu
        clear hc hsu
        go_wp2_with (with_reducible refine at_load 29 (.tmp 2) (by rfl) ?_; refine wpList_load_bk rowR rfl (.tmp 2) rfl w.heap.size 0 rfl hbx (rvL B A n c) rfl rfl ?_)
        refine HM.out.mono ?_
        rintro e w3 ⟨rfl, hb3⟩
        rw [hm]
        have HR3 := Lib.hid (HR.out.up hb3)
        clear hb3 hm
        go_wp2
        go_roundw
        case rel => exact ⟨j + 1, A', n', c', by omega, rfl, by go_num, by rw [HSU.out]; exact HLE.out, by rw [HSU.out]; exact HR3.out⟩
        case measure => simp [intOf]; omega
      | true =>
        rw [hm] at hc
        rw [if_pos (by rw [hc])] at hsu
        have HSU := Lib.hid hsu
        clear hc hsu
        go_wp2_with (with_reducible refine at_load 29 (.tmp 2) (by rfl) ?_; refine wpList_load_bk rowR rfl (.tmp 2) rfl w.heap.size 0 rfl hbx (rvL B A n c) rfl rfl ?_)
        refine HM.out.mono ?_
        rintro e w3 ⟨rfl, hb3⟩
        rw [hm]
        have HR3 := Lib.hid (HR.out.up hb3)
        have hla := HR3.out.ls.alloc (.cells #[.int .i64 ((B.base : Int) + j)] 3)
        have hu := RdV.one w3 3 (.int .i64 ((B.base : Int) + j)) rfl
        clear hb3 hm hbx c0 c1 c2
        go_wp2_with (
             at_builtin
             refine wpList_append_lst eltI rfl (.tmp 27) (.tmp 29) rfl rfl hla rfl hu (by omega) ?_
             rintro v w2 hap
             obtain ⟨A2, n2, c2', rfl, hnx⟩ := HR3.out.next hap
             have HNX := Lib.hid hnx
             clear hap hnx)
        go_roundw
        case rel => exact ⟨j + 1, A2, n2, c2', by omega, rfl, by go_num, by rw [HSU.out, List.length_append, List.length_singleton]; have := HN.out; omega, by rw [HSU.out]; exact HNX.out⟩
        case measure => simp [intOf]; omega
end
end Go.Proofs.Ytopmfpdcdclffaa
