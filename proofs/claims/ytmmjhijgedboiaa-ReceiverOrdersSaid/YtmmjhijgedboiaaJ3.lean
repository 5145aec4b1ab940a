/- A Join: its open parts joined. -/
import Derived.Test.YtmmjhijgedboiaaJ2
set_option linter.unusedSimpArgs false
set_option linter.unusedVariables false
set_option maxRecDepth 100000
namespace Go.Proofs.Ytmmjhijgedboiaa
open Go.RowKit Go.Shelf
theorem BsR.bk {w : World} {g : Nat} {xs : List Int} (h : Bk w 5 g (xs.map (.int .u8))) (hw : ∀ x ∈ xs, (Lit.int .u8 x).wf = true) (hl : xs.length ≤ maxLen) : BsR w (some ⟨g, 0, none⟩) xs.length xs.length xs := by
  refine ⟨⟨rfl, Nat.le_refl _, hl, by simp, hw, fun hn => ⟨g, 0, rfl, h.lt, fun i hi => ?_⟩⟩, ?_⟩
  · rw [Nat.zero_add]
    refine h.cell i ?_
    simp [hi]
  · rintro k ⟨ad, he, rfl⟩
    injection he with he
    subst he
    exact h.tyd
/-- The bytes of the first k parts. -/
def Jm.pre (m : Jm) (k : Nat) : List Int := (m.ps.take k).flatten
theorem Jm.pre_all (m : Jm) {k : Nat} (h : m.ps.length ≤ k) : m.pre k = m.fl := by unfold Jm.pre Jm.fl; rw [List.take_of_length_le h]
theorem Jm.pre_succ (m : Jm) {k : Nat} {xs : List Int} (h : m.ps[k]? = some xs) : m.pre (k + 1) = m.pre k ++ xs := by
  unfold Jm.pre
  rw [List.take_add_one, h]
  simp
theorem Jm.pre_le (m : Jm) (k : Nat) : (m.pre k).length ≤ m.op := by
  unfold Jm.pre Jm.op
  have h : m.ps.flatten = (m.ps.take k).flatten ++ (m.ps.drop k).flatten := by rw [← List.flatten_append, List.take_append_drop]
  rw [h, List.length_append]; omega
theorem cells_len (xs : List Int) (q : Nat) : (xs.map (Value.int .u8) ++ List.replicate q (Value.int .u8 0)).length = xs.length + q := by simp
theorem splice_cells (xs ys : List Int) (q : Nat) (h : ys.length ≤ q) : splice (xs.map (Value.int .u8) ++ List.replicate q (Value.int .u8 0)) xs.length (ys.map (Value.int .u8)) = (xs ++ ys).map (Value.int .u8) ++ List.replicate (q - ys.length) (Value.int .u8 0) := by
  unfold splice
  have h1 : (xs.map (Value.int .u8) ++ List.replicate q (Value.int .u8 0)).take xs.length = xs.map (.int .u8) := by
    rw [List.take_append_of_le_length (by simp)]
    exact List.take_of_length_le (by simp)
  have h2 : (xs.map (Value.int .u8) ++ List.replicate q (Value.int .u8 0)).drop (xs.length + (ys.map (Value.int .u8)).length) = List.replicate (q - ys.length) (.int .u8 0) := by
    rw [List.drop_append, List.drop_of_length_le (by simp), List.drop_replicate, List.nil_append]
    congr 1
    simp
  rw [h1, h2, List.map_append, List.append_assoc]
set_option maxHeartbeats 4000000 in
theorem j_whole {F : Nat → Prop} {w : World} {g : Nat} {m : Jm} (h : JnC F w g m) : Calls Try.prog 72 #[.pointer (some ⟨g, 0, none⟩)] w fun e w' =>
    e = .returned (.slice (some ⟨w.heap.size, 0, none⟩) m.op m.op) ∧ BsR w' (some ⟨w.heap.size, 0, none⟩) m.op m.op m.fl ∧ Below w.heap.size w w' := by
  obtain ⟨A, n, c, h⟩ := h
  have hle := h.le
  have c0 := h.bk.cell 0 rfl
  have c3 := h.bk.cell 3 rfl
  have hn := h.ls.len
  have hnm := h.many
  have hgl := h.bk.lt
  have hmk := eltU.run_make m.op m.op (Nat.le_refl _) (by omega) w
  have hb0 : Below w.heap.size w (w.alloc (.cells (Array.replicate m.op (.int .u8 0)) 5)) := (Below.refl _ _).alloc (Nat.le_refl _) _
  have hk0 : Bk (w.alloc (.cells (Array.replicate m.op (.int .u8 0)) 5)) 5 w.heap.size ((m.pre 0).map (.int .u8) ++ List.replicate (m.op - (m.pre 0).length) (.int .u8 0)) := by
    have h1 := Bk.new w 5 (List.replicate m.op (.int .u8 0))
    simpa [Jm.pre] using h1
  have HH := Lib.hid h
  have HN := Lib.hid hn
  have HK0 := Lib.hid (And.intro hb0 hk0)
  have hcap := h.ls.rd.len
  clear h hn hb0 hk0 hcap
  go_enter Try.func72, Try.ntmps72
  go_wp2
  clear hmk c0 c3
  go_loopw [4, 6, 19] (fun r p i wr => ∃ (k o q : Nat), i = .int .i64 k ∧ k ≤ n ∧ r = .slice (some ⟨w.heap.size, o, none⟩) q q ∧ q = m.op - (m.pre k).length ∧ (0 < q → o = (m.pre k).length) ∧
      Bk wr 5 w.heap.size ((m.pre k).map (.int .u8) ++ List.replicate q (.int .u8 0)) ∧ Below w.heap.size w wr) (fun r p i _ => n - (intOf i).toNat)
  case atStart => exact ⟨0, 0, m.op, rfl, Nat.zero_le _, rfl, by simp [Jm.pre], fun _ => by simp [Jm.pre], by simpa [Jm.pre] using HK0.out.2, HK0.out.1⟩
  case round =>
    obtain ⟨k, o, q, rfl, hk, rfl, hq, ho, hbk, hb⟩ := hrel
    by_cases hlt : k < n
    · obtain ⟨gp, op, b, rfl, hcell, hrd, hbn, hat⟩ := (HH.out.below hb).ls.at hlt
      have hsucc := m.pre_succ hat
      have hlen := m.pre_le (k + 1)
      rw [hsucc, List.length_append] at hlen
      have hbl := hrd.1.1
      have hbq : b.n ≤ q := by omega
      obtain rfl : o = (m.pre k).length := ho (by omega)
      have hsl := fun W => eltU.run_cut (some ⟨w.heap.size, (m.pre k).length, none⟩) q q b.n hbq (Nat.le_refl _) W
      have hkI : (k : Int) < n := by omega
      have HS := Lib.hid hsucc
      have HL := Lib.hid hlen
      have HBL := Lib.hid hbl
      have HB := Lib.hid hb
      have HR := Lib.hid hrd
      have HBk := Lib.hid hbk
      have HQ := Lib.hid hq
      have HAt := Lib.hid hat
      clear hsucc hlen hbl hb hrd hbk hq ho hat
      go_wp2_with (refine wpList_copy_splice rfl (.tmp 24) (.tmp 25) 30 30 rfl 5 Try.underlying30 (by kernel_rfl) (some ⟨w.heap.size, (m.pre k).length, none⟩) b.A q q b.n b.c rfl rfl
                     w.heap.size (m.pre k).length _ 5 HBk.out (b.xs.map (.int .u8)) (by rw [List.length_map, HBL.out]; exact (Nat.min_eq_left hbq).symm) (fun hpos => ⟨rfl, ?src⟩)
                     (by rw [cells_len, List.length_map, HBL.out]; omega) (by simp [Value.oneCell']) w.heap.size w HB.out (Nat.le_refl _) ?_
                   case src =>
                     obtain ⟨r1, r2, r3, r4, r5, r6⟩ := HR.out.1
                     obtain ⟨g', o', e, hg', hx⟩ := r6 hbn
                     refine ⟨_, e, fun j v hj => ?_⟩
                     rw [List.getElem?_map] at hj
                     have hjl : j < b.xs.length := by
                       rcases Nat.lt_or_ge j b.xs.length with h | h
                       · exact h
                       · rw [List.getElem?_eq_none h] at hj; cases hj
                     rw [List.getElem?_eq_getElem hjl] at hj
                     have hadd : (⟨g', o', none⟩ : Addr).add j = ⟨g', o' + j, none⟩ := by unfold Addr.add; split <;> simp_all
                     rw [hadd, hx j (by omega)]
                     simp at hj
                     simp [hjl, ← hj]
                   intro w2 hg2 hb2
                   rw [List.length_map, HBL.out])
      have HBk2 : Bk w2 5 w.heap.size ((m.pre (k + 1)).map (.int .u8) ++ List.replicate (q - b.n) (.int .u8 0)) := by
        have h1 := hg2.out
        rw [splice_cells _ _ _ (by rw [HBL.out]; exact hbq), ← HS.out, HBL.out] at h1
        exact h1
      go_roundw
      case rel =>
        by_cases he : q = b.n
        · refine ⟨k + 1, (m.pre k).length, q - b.n, by go_num, by omega, by unfold cutA; rw [if_pos he], ?_, fun h => by omega, HBk2, hb2⟩
          rw [HS.out, List.length_append, HBL.out]; have := HQ.out; omega
        · refine ⟨k + 1, (m.pre k).length + b.n, q - b.n, by go_num, by omega, by unfold cutA; rw [if_neg he]; simp [Addr.add]; omega, ?_, fun h => ?_, HBk2, hb2⟩
          · rw [HS.out, List.length_append, HBL.out]; have := HQ.out; omega
          · rw [HS.out, List.length_append, HBL.out]
      case measure => simp [intOf]; omega
    · obtain rfl : k = n := by omega
      have hfl : m.pre k = m.fl := m.pre_all (by rw [HN.out]; exact Nat.le_refl _)
      have hq0 : q = 0 := by
        rw [hq, hfl]
        show m.op - m.fl.length = 0
        unfold Jm.op Jm.fl; omega
      subst hq0
      rw [hfl, List.replicate_zero, List.append_nil] at hbk
      have HBk := Lib.hid hbk
      have HB := Lib.hid hb
      clear hbk hb hq ho hfl
      go_wp2
      go_ret
      exact ⟨rfl, BsR.bk HBk.out (fun x hx => by
        obtain ⟨ys, hy, hx⟩ := List.mem_flatten.1 hx
        obtain ⟨bs, h1, h2, h3⟩ := HH.out.ls
        rw [← h2] at hy
        obtain ⟨b, hb, rfl⟩ := List.mem_map.1 hy
        exact (h3 b hb).1.1.2.2.2.2.1 x hx) (by show m.op ≤ _; unfold maxLen; omega), HB.out⟩
end Go.Proofs.Ytmmjhijgedboiaa
