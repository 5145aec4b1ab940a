/- The law's pieces; the page's example. -/
import Derived.Test.YtnakoplceplmmaaV19
import Derived.Lib.SlBytesConst
set_option linter.unusedSimpArgs false
set_option linter.unusedVariables false
namespace Go.Proofs.Ytnakoplceplmmaa
open Go.RowKit Go.Shelf
/-- What the law's pieces say. -/
def pcAt (n f i : Nat) : Pp := ⟨[((f + i : Nat) : Int)], decide (i + 1 = n), false⟩
def pcs (n f : Nat) : List Pp := (List.range n).map (pcAt n f)
theorem pcs_len (n f : Nat) : (pcs n f).length = n := by simp [pcs]
theorem pcs_succ (n f i : Nat) (h : i < n) : (pcs n f).take (i + 1) = (pcs n f).take i ++ [pcAt n f i] := by
  rw [List.take_add_one]
  simp [pcs, h]
set_option maxHeartbeats 2000000 in
theorem law_pieces (n f : Nat) (w : World) (hn : n ≤ 100) (hf : f + n ≤ 256) :
    Calls Try.prog 9 #[.int .i64 n, .int .i64 f] w fun en w' => ∃ A n' c, en = .returned (.slice A n' c) ∧ SlX (w.heap.size ≤ ·) w' A n' c (pcs n f) ∧ Below w.heap.size w w' := by
  go_enter Try.func9, Try.ntmps9
  go_wp2
  go_loopw [5, 6] (fun l i W => ∃ j : Nat, i = .int .i64 j ∧ j ≤ n ∧ ∃ (A1 : Option Addr) (n1 c1 : Nat), l = .slice A1 n1 c1 ∧ Below w.heap.size w W ∧ ∃ qs : List Pc, n1 = qs.length ∧ LstR 3 49 (w.heap.size ≤ ·) W A1 n1 c1 (flat Pc.cl qs) ∧ qs.map Pc.say = (pcs n f).take j ∧
    ∀ q ∈ qs, BsR W q.A q.n q.c q.xs ∧ q.n ≤ 65536 ∧ ∀ k, BlkOf q.A k → w.heap.size ≤ k) (fun l i _ => n - (intOf i).toNat)
  case atStart => exact ⟨0, rfl, Nat.zero_le _, none, 0, 0, rfl, Below.refl _ _, [], rfl, LstR.nil _ _ _ _, by simp, by simp⟩
  case round =>
    obtain ⟨j, rfl, hj, A1, n1, c1, rfl, hb, qs, hqn, hl, hss, hqs⟩ := hrel
    by_cases hlt : j < n
    · have hlt' : (j : Int) < n := by omega
      have hqj : n1 ≤ 100 := by
        have h1 := congrArg List.length hss
        rw [List.length_map, List.length_take] at h1
        omega
      have hby : (n1 + 1) * 32 ≤ 140737488355328 := by omega
      have hjb : j ≤ 100 := by omega
      have hfb : f ≤ 256 := by omega
      have hw1 : IntKind.u8.wrap ((f : Int) + j) = ((f + j : Nat) : Int) := by rw [IntKind.wrap_u8]; omega
      have hcv : ∀ W : World, (convert 3 5 (.int .i64 ((f : Int) + j))).run Try.prog W = .ok (.int .u8 ((f + j : Nat) : Int)) W := fun W => by
        rw [← hw1]
        kernel_rfl
      have hHS := Lib.hid (pcs_succ n f j hlt)
      have hsz := hb.size
      obtain ⟨y, hy⟩ : ∃ y : Int, y = ((f + j : Nat) : Int) := ⟨_, rfl⟩
      obtain ⟨b, hbd⟩ : ∃ b : Bool, b = decide (j + 1 = n) := ⟨_, rfl⟩
      have hcmp : ((j : Int) == (n : Int) - 1) = b := by rw [hbd]; by_cases h : j + 1 = n <;> simp [h] <;> omega
      have HAt : Hid (pcAt n f j = ⟨[y], b, false⟩) := Lib.hid (by rw [hy, hbd]; rfl)
      have hwf : (Lit.int .u8 y).wf = true := by rw [hy]; simp [Lit.wf, IntKind.min, IntKind.max, IntKind.signed, IntKind.bits]; omega
      rw [← hy] at hcv
      have z1 := Bk.new wr 5 [.int .u8 y]
      have hb1 : Below wr.heap.size wr (wr.alloc (.cells #[.int .u8 y] 5)) := (Below.refl _ _).alloc (Nat.le_refl _) _
      have hr1 : Rd .u8 (wr.alloc (.cells #[.int .u8 y] 5)) (some ⟨wr.heap.size, 0, none⟩) 1 1 [y] := RdV.rd (RdV.one wr 5 (.int .u8 y) rfl) (by intro x hx; simp at hx; rw [hx]; exact hwf)
      have hbs1 : BsR (wr.alloc (.cells #[.int .u8 y] 5)) (some ⟨wr.heap.size, 0, none⟩) 1 1 [y] := ⟨hr1, by rintro k ⟨ad, he, rfl⟩; injection he with he; subst he; exact z1.tyd⟩
      have hb2 : Below wr.heap.size wr ((wr.alloc (.cells #[.int .u8 y] 5)).alloc (.cells #[.slice (some ⟨wr.heap.size, 0, none⟩) 1 1, .bool b, .bool false] 49)) := hb1.alloc (by simp) _
      have hla := (hl.below hb2).tight
      have hu := RdR.one (wr.alloc (.cells #[.int .u8 y] 5)) 49 (⟨some ⟨wr.heap.size, 0, none⟩, 1, 1, [y], b, false⟩ : Pc).cl (Pc.cl_one _)
      have hbs2 := hbs1.below ((Below.refl _ _).alloc (Nat.le_refl _) (.cells #[.slice (some ⟨wr.heap.size, 0, none⟩) 1 1, .bool b, .bool false] 49))
      have HQ := Lib.hid (And.intro hb (And.intro hqn (And.intro hl (And.intro hss (And.intro hqs (And.intro hb2 hbs2))))))
      clear hb hqn hl hss hqs hb1 hr1 hbs1 hb2 hbs2 z1 hbd hwf
      rw [← hy] at hw1
      clear hy
      go_wp2_with (first
        | (refine wpList_build_row eltC rfl (.tmp 22) rfl (xs := [.slice (some ⟨wr.heap.size, 0, none⟩) 1 1, .bool b, .bool false]) rfl rfl ?_)
        | (at_builtin
           refine wpList_append_lstR eltC rfl (.tmp 12) (.tmp 23) rfl rfl hla rfl hu hby ?_
           rintro v w3 hap
           obtain ⟨A3, n3, c3, rfl, l3⟩ := hap.ex
           have HAP := Lib.hid (And.intro l3 hap.st)
           clear hap l3 hla hu))
      go_roundw
      case rel =>
        obtain ⟨hb, hqn, hl, hss, hqs, hb2, hbs2⟩ := HQ.out
        have hA1 : ∀ i, BlkOf A1 i → w.heap.size ≤ i := by rintro i ⟨ad, he, rfl⟩; exact (hl.blk ad he).1
        have hT : ∀ i, BlkOf A1 i → ¬ Tyd 5 ((wr.alloc (.cells #[.int .u8 y] 5)).alloc (.cells #[.slice (some ⟨wr.heap.size, 0, none⟩) 1 1, .bool b, .bool false] 49)) i := fun i hi => ((hl.below hb2).tyd i hi).ne (by decide)
        have hb5 := below_on hb hb2
        have hl3 := HAP.out.1.1
        rw [← flat_one (cl := Pc.cl), ← flat_app, flat_len Pc.cl_len] at hl3
        refine ⟨j + 1, by go_num, by omega, A3, n3, c3, rfl, hb5.trans (HAP.out.2.below hb5.size hA1), qs ++ [⟨some ⟨wr.heap.size, 0, none⟩, 1, 1, [y], b, false⟩], by have := hl3; simp [zsC] at this; simp; omega, ?_, ?_, fun q hq => ?_⟩
        · rw [flat_app, flat_one]
          refine HAP.out.1.mono fun i hi => ?_
          rcases hi with hi | hi
          · exact hA1 i hi
          · exact Nat.le_trans hb5.size hi
        · rw [List.map_append, hss, hHS.out, HAt.out]
          rfl
        · rcases List.mem_append.1 hq with hq | hq
          · obtain ⟨k1, k2, k3⟩ := hqs q hq
            exact ⟨(k1.below hb2).stT HAP.out.2 hT, k2, k3⟩
          · obtain rfl : q = ⟨some ⟨wr.heap.size, 0, none⟩, 1, 1, [y], b, false⟩ := by simpa using hq
            exact ⟨hbs2.stT HAP.out.2 hT, (by show 1 ≤ 65536; omega), by rintro k ⟨ad, he, rfl⟩; injection he with he; subst he; exact hsz⟩
      case measure => simp [intOf]; omega
    · obtain rfl : j = n := by omega
      have HQ := Lib.hid (And.intro hb (And.intro hqn (And.intro hl (And.intro hss hqs))))
      clear hb hqn hl hss hqs
      go_wp2
      go_ret
      obtain ⟨hb, hqn, hl, hss, hqs⟩ := HQ.out
      rw [List.take_of_length_le (by rw [pcs_len]; exact Nat.le_refl _)] at hss
      refine ⟨A1, n1, c1, rfl, ⟨qs, hqn, hl.rd, fun hn k hk => ?_, hss, fun q hq => ⟨(hqs q hq).1.1, (hqs q hq).2.1, fun _ => (hqs q hq).2.2⟩⟩, hb⟩
      obtain ⟨ad, he, rfl⟩ := hk
      exact (hl.blk ad he).1
end Go.Proofs.Ytnakoplceplmmaa
