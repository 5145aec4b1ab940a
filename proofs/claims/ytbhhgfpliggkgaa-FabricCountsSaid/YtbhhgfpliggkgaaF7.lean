/- The busy ports of a fabric. -/
import Derived.Test.YtbhhgfpliggkgaaF6
import Derived.Test.YtbhhgfpliggkgaaLL
set_option linter.unusedSimpArgs false
set_option linter.unusedVariables false
set_option maxRecDepth 100000
namespace Go.Proofs.Ytbhhgfpliggkgaa
open Go.RowKit Go.Shelf

def plc (p : Nat × Nat) : List Value := [.int .i64 p.1, .int .i64 p.2]
theorem plc_len (p : Nat × Nat) : (plc p).length = 2 := rfl
theorem plc_one (p : Nat × Nat) : ∀ v ∈ plc p, v.oneCell' = true := by
  intro v hv
  simp only [plc, List.mem_cons, List.not_mem_nil, or_false] at hv
  rcases hv with rfl | rfl <;> rfl
theorem eltL : EltS Try.prog 118 122 [.int .i64 0, .int .i64 0] 16 := ⟨rfl, by kernel_rfl, by intro v hv; exact plc_one (0, 0) v hv, by decide, by decide, ⟨_, rfl, by decide⟩, by decide⟩
def FM.many (m : FM) (k : Nat) : Nat := (m.lows ((k / 8 : Nat) : Int) ((k % 8 : Nat) : Int)).length + (m.highs ((k / 8 : Nat) : Int) ((k % 8 : Nat) : Int)).length
/-- The busy ones among the first k. -/
def FM.busyN (m : FM) (k : Nat) : List (Nat × Nat) := ((List.range k).filter fun k => decide (0 < m.many k)).map fun k => (k / 8, k % 8)
def FM.busy (m : FM) : List (Nat × Nat) := m.busyN 64
theorem FM.busyN_succ (m : FM) (k : Nat) : m.busyN (k + 1) = if 0 < m.many k then m.busyN k ++ [(k / 8, k % 8)] else m.busyN k := by
  unfold FM.busyN
  rw [List.range_succ, List.filter_append, List.map_append]
  by_cases h : 0 < m.many k <;> simp [h]
theorem FM.busyN_len (m : FM) (k : Nat) : (m.busyN k).length ≤ k := by
  unfold FM.busyN
  rw [List.length_map]
  exact Nat.le_trans (List.length_filter_le _ _) (by simp)
section
variable {F X F1 X1 G : Nat → Prop} {w w' w1 : World} {b : Nat} {m m1 : FM} {pp : Nat → Nat} {FF : Nat → Nat → Prop} {k L H : Nat} {a c : AM} {B C : Int} {P A : Option Addr} {n d : Nat} {ks : List Pk}
theorem FbP.few (h : FbP F X w P m pp FF) (p q : Int) : (m.lows p q).length ≤ 1024 ∧ (m.highs p q).length ≤ 1024 := by
  unfold FM.lows FM.highs
  cases hp : m.port p q with
  | none => exact ⟨Nat.zero_le _, Nat.zero_le _⟩
  | some a =>
    obtain ⟨_, _, _, _, ql, qh, hh⟩ := h.pt hp
    have h1 := hh.sel_len
    have h2 := hh.lo.le
    have h3 := hh.hi.le
    have h4 := hh.lo.2.2.1
    have h5 := hh.hi.2.2.1
    dsimp only
    omega
/-- A list of places of the call's own, in a slice. -/
def PlI (w : World) (ps : List (Nat × Nat)) (v : Value) (wr : World) : Prop := ∃ A n c, v = .slice A n c ∧ n = ps.length ∧ LstR 2 122 (w.heap.size ≤ ·) wr A n c (flat plc ps) ∧ Below w.heap.size w wr
set_option maxHeartbeats 4000000 in
theorem f_places (h : FbP F X w P m pp FF) :
    Calls Try.prog 58 #[.pointer P] w fun e w' => ∃ v, e = .returned v ∧ PlI w m.busy v w' := by
  have HFew := Lib.hid h.few
  have HL := Lib.hid (fun (W : World) (hW : Below w.heap.size w W) (p q : Int) => f_lens (h.below hW) p q)
  clear h
  go_enter Try.func58, Try.ntmps58
  go_wp2
  go_loopw [3, 8] (fun s v wr => ∃ i : Nat, v = .int .i64 i ∧ i ≤ 8 ∧ PlI w (m.busyN (i * 8)) s wr) (fun _ v _ => 8 - (intOf v).toNat)
  case atStart => exact ⟨0, rfl, by decide, none, 0, 0, rfl, rfl, LstR.nil _ _ _ _, Below.refl _ _⟩
  case round =>
    obtain ⟨i, rfl, hi, hP⟩ := hrel
    by_cases hlt : i < 8
    · have hlt' : (i : Int) < 8 := by omega
      have HP := Lib.hid hP
      clear hP
      go_wp2
      go_loopw [3, 11] (fun s v wr => ∃ j : Nat, v = .int .i64 j ∧ j ≤ 8 ∧ PlI w (m.busyN (i * 8 + j)) s wr) (fun _ v _ => 8 - (intOf v).toNat)
      case atStart => exact ⟨0, rfl, by decide, HP.out⟩
      case round =>
        obtain ⟨j, rfl, hj, A, n, c, rfl, hn, hl, hb⟩ := hrel
        by_cases hjl : j < 8
        · have hjl' : (j : Int) < 8 := by omega
          have e1 : (i * 8 + j) / 8 = i := by omega
          have e2 : (i * 8 + j) % 8 = j := by omega
          have hbs := m.busyN_succ (i * 8 + j)
          have hmn : m.many (i * 8 + j) = (m.lows (i : Int) (j : Int)).length + (m.highs (i : Int) (j : Int)).length := by unfold FM.many; rw [e1, e2]
          rw [e1, e2, hmn] at hbs
          have hnl := m.busyN_len (i * 8 + j)
          have hn64 : n ≤ 64 := by omega
          have HLn := Lib.hid (HL.out _ hb (i : Int) (j : Int))
          have hfw := HFew.out (i : Int) (j : Int)
          generalize m.busyN (i * 8 + j) = ps at *
          generalize (m.lows (i : Int) (j : Int)).length = lo at *
          generalize (m.highs (i : Int) (j : Int)).length = hi at *
          have hw : IntKind.i64.wrap ((lo : Int) + hi) = lo + hi := by rw [IntKind.wrap_i64]; omega
          have HN := Lib.hid hn
          have HI := Lib.hid (And.intro hl hb)
          have HBS := Lib.hid hbs
          clear hn hl hb hmn e1 e2 hbs hnl HP
          by_cases hz : 0 < lo + hi
          · have hz' : (0 : Int) < lo + hi := by omega
            go_wp2_with fail
            refine HLn.out.mono ?_
            rintro e w1 ⟨rfl, hb1⟩
            obtain ⟨hl, hb⟩ := HI.out
            have hla := ((hl.below hb1).alloc (.cells (List.toArray (plc (i, j))) 122)).tight
            have hu := RdR.one w1 122 (plc (i, j)) (plc_one _)
            have hk : (n + 1) * 16 ≤ 140737488355328 := by omega
            have hbb := below_on hb hb1
            have HB := Lib.hid hbb
            have hb3 : Below w.heap.size w (w1.alloc (.cells (List.toArray (plc (i, j))) 122)) := hbb.alloc hbb.size _
            have HB3 := Lib.hid hb3
            have HL1 := Lib.hid hl
            clear hl hb hbb hb3
            go_wp2_with (first
              | (refine wpList_build_row eltL rfl (.tmp 28) rfl (xs := plc (i, j)) rfl rfl ?_)
              | (at_builtin
                 refine wpList_append_lstR eltL rfl (.tmp 25) (.tmp 29) rfl rfl hla rfl hu hk ?_
                 rintro v2 w2 ⟨⟨A2, n2, c2, rfl, hl2⟩, hst2⟩))
            have HE : Hid (PlI w (m.busyN (i * 8 + j + 1)) (.slice A2 n2 c2) w2) := Lib.hid (by
              rw [HBS.out, if_pos hz]
              have hF : ∀ k, BlkOf A k → w.heap.size ≤ k := by rintro k ⟨ad, he, rfl⟩; exact (HL1.out.blk ad he).1
              have e : flat plc ps ++ plc (i, j) = flat plc (ps ++ [(i, j)]) := by rw [flat_app]; simp [flat]
              rw [e] at hl2
              refine ⟨A2, n2, c2, rfl, ?_, hl2.mono fun k hk => ?_, HB3.out.trans (hst2.below HB3.out.size hF)⟩
              · have h1 := hl2.1
                rw [flat_len plc_len] at h1
                rw [List.length_append] at h1 ⊢
                simp at h1 ⊢
                omega
              · rcases hk with hk | hk
                · exact hF k hk
                · exact Nat.le_trans HB3.out.size hk)
            clear hst2 hl2 hla hu hb1
            go_wp2
            go_roundw
            case rel => exact ⟨j + 1, by go_num, by omega, HE.out⟩
            case measure => simp [intOf]; omega
          · have hz' : (lo : Int) + hi ≤ 0 := by omega
            go_wp2_with fail
            refine HLn.out.mono ?_
            rintro e w1 ⟨rfl, hb1⟩
            have HE : Hid (PlI w (m.busyN (i * 8 + j + 1)) (.slice A n c) w1) := Lib.hid (by
              rw [HBS.out, if_neg hz]
              exact ⟨A, n, c, rfl, HN.out, HI.out.1.below hb1, below_on HI.out.2 hb1⟩)
            clear hb1
            go_wp2
            go_roundw
            case rel => exact ⟨j + 1, by go_num, by omega, HE.out⟩
            case measure => simp [intOf]; omega
        · obtain rfl : j = 8 := by omega
          have HE : Hid (PlI w (m.busyN ((i + 1) * 8)) (.slice A n c) wr) := Lib.hid (by
            rw [show (i + 1) * 8 = i * 8 + 8 by omega]
            exact ⟨A, n, c, rfl, hn, hl, hb⟩)
          clear hn hl hb
          go_wp2
          go_roundw
          case rel => exact ⟨i + 1, by go_num, by omega, HE.out⟩
          case measure => simp [intOf]; omega
    · obtain rfl : i = 8 := by omega
      have HP := Lib.hid hP
      clear hP
      go_wp2
      go_ret
      exact ⟨_, rfl, HP.out⟩
end
end Go.Proofs.Ytbhhgfpliggkgaa
