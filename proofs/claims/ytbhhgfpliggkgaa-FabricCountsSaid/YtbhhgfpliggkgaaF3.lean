/- Fabrics made. -/
import Derived.Test.YtbhhgfpliggkgaaF2
set_option linter.unusedSimpArgs false
set_option linter.unusedVariables false
set_option maxRecDepth 100000
namespace Go.Proofs.Ytbhhgfpliggkgaa
open Go.RowKit Go.Shelf

/-- So far made: all of the first i paths, and j of the next. -/
def FM.newN (hs i j : Nat) (a : AM) : FM := ⟨fun k => if k / 8 < i ∧ k % 8 < hs ∨ k / 8 = i ∧ k % 8 < j then some a else none, fun _ => 0⟩
def FM.new (hs ps : Nat) (a : AM) : FM := FM.newN hs ps 0 a
theorem FM.newN_sp (hs i j : Nat) (a : AM) (hi : i < 8) (hj : j < 8) : (FM.newN hs i j a).sp (i * 8 + j) a = FM.newN hs i (j + 1) a := by
  unfold FM.sp FM.newN
  congr 1
  funext k
  unfold set1
  dsimp only
  by_cases hk : k = i * 8 + j
  · subst hk
    rw [if_pos rfl, if_pos (by omega)]
  · rw [if_neg hk]
    by_cases h1 : k / 8 < i ∧ k % 8 < hs ∨ k / 8 = i ∧ k % 8 < j
    · rw [if_pos h1, if_pos (by omega)]
    · rw [if_neg h1, if_neg (by omega)]
theorem FM.newN_next (hs i : Nat) (a : AM) : FM.newN hs i hs a = FM.newN hs (i + 1) 0 a := by
  unfold FM.newN
  congr 1
  funext k
  by_cases h1 : k / 8 < i ∧ k % 8 < hs ∨ k / 8 = i ∧ k % 8 < hs
  · rw [if_pos h1, if_pos (by omega)]
  · rw [if_neg h1, if_neg (by omega)]
theorem FM.newN_none (hs i j : Nat) (a : AM) : (FM.newN hs i j a).pt (i * 8 + j) = none ∨ 8 ≤ j := by
  by_cases hj : 8 ≤ j
  · exact .inr hj
  · refine .inl ?_
    show (if _ then _ else _) = _
    rw [if_neg (by omega)]
theorem FM.newN_zero (hs : Nat) (a : AM) : FM.newN hs 0 0 a = FM.nobody := by
  unfold FM.newN FM.nobody
  congr 1
  funext k
  rw [if_neg (by omega)]
theorem zero_mem : FM.nobody.mem (fun _ => 0) = List.replicate 64 (.pointer none) ++ List.replicate 5 (.int .i64 0) := by kernel_rfl
/-- A fabric that a call made, behind world w0. -/
def NwF (w0 : World) (b : Nat) (m : FM) (w : World) : Prop := ∃ F pp FF, FbC F (fun _ => False) w b m pp FF ∧ (∀ j, F j → w0.heap.size ≤ j) ∧ Below w0.heap.size w0 w
theorem zero_fb (w : World) : NwF w w.heap.size FM.nobody (w.alloc (.cells (FM.nobody.mem (fun _ => 0)).toArray 70)) :=
  ⟨(· = w.heap.size), fun _ => 0, fun _ _ => False, ⟨Bk.new w _ _, fun k a h => (by cases h), fun k a h => (by cases h), fun i k a c h => (by cases h), fun k a h => (by cases h), fun j => ⟨.inl, fun h => h.elim id fun ⟨_, _, h, _⟩ => by cases h⟩, fun j h => h.elim⟩, fun j hj => by rw [hj]; exact Nat.le_refl _, (Below.refl _ _).alloc (Nat.le_refl _) _⟩
theorem NwF.newp {w0 w w1 : World} {b : Nat} {m : FM} {F1 : Nat → Prop} {p k : Nat} {c : AM} {pp : Nat → Nat} {FF : Nat → Nat → Prop} {F : Nat → Prop} (h : FbC F (fun _ => False) w b m pp FF) (hF : ∀ j, F j → w0.heap.size ≤ j) (hb : Below w0.heap.size w0 w) (hk : k < 64) (hn : m.pt k = none)
    (hb1 : Below w.heap.size w w1) (hp : Pb F1 (fun j => F j ∨ False) w1 p c) (hF1 : ∀ j, F1 j → w.heap.size ≤ j) : NwF w0 b (m.sp k c) (w1.setCell ⟨b, k, none⟩ (.pointer (some ⟨p, 0, none⟩))) := by
  obtain ⟨F', FF', h', hF'⟩ := h.newp hk hn hb1 hp hF1
  have hbb := hF b h.atB
  refine ⟨F', _, FF', h', fun j hj => (hF' j hj).elim (hF j) fun h1 => Nat.le_trans hb.size (hF1 j h1), ?_⟩
  exact (hb.trans (hb1.mono hb.size)).setCell hbb _
set_option maxHeartbeats 4000000 in
theorem f_new (hs ps low high wt : Nat) (w : World) (a1 : 2 ≤ hs) (a2 : hs ≤ 8) (a3 : 1 ≤ ps) (a4 : ps ≤ 8) (h1 : 1 ≤ low) (h2 : low ≤ 1024) (h3 : 1 ≤ high) (h4 : high ≤ 1024) (h5 : 1 ≤ wt) (h6 : wt ≤ 1024) :
    Calls Try.prog 6 #[.int .i64 hs, .int .i64 ps, .int .i64 low, .int .i64 high, .int .i64 wt] w fun e w' => e = .returned (.tuple #[.pointer (some ⟨w.heap.size, 0, none⟩), .int .i64 0]) ∧ NwF w w.heap.size (FM.new hs ps (AM.new low high wt)) w' := by
  have HP := Lib.hid (fun (X : Nat → Prop) (W : World) (hX : ∀ k, X k → k < W.heap.size) => pt_new (X := X) low high wt W hX h1 h2 h3 h4 h5 h6)
  have HZ := Lib.hid (zero_fb w)
  rw [← FM.newN_zero hs (AM.new low high wt)] at HZ
  clear h1 h2 h3 h4 h5 h6
  go_enter Try.func6, Try.ntmps6
  go_wp2
  go_loopw [34] (fun v wr => ∃ i : Nat, v = .int .i64 i ∧ i ≤ ps ∧ NwF w w.heap.size (FM.newN hs i 0 (AM.new low high wt)) wr) (fun v _ => ps - (intOf v).toNat)
  case atStart =>
    refine ⟨0, rfl, Nat.zero_le _, ?_⟩
    have := HZ.out
    rw [FM.newN_zero] at this ⊢
    rw [zero_mem] at this
    exact this
  case round =>
    obtain ⟨i, rfl, hi, hm⟩ := hrel
    by_cases hlt : i < ps
    · have hlt' : (i : Int) < ps := by omega
      have hi8 : i < 8 := by omega
      have HM := Lib.hid hm
      clear hm HZ
      go_wp2
      go_loopw [38] (fun v wr => ∃ j : Nat, v = .int .i64 j ∧ j ≤ hs ∧ NwF w w.heap.size (FM.newN hs i j (AM.new low high wt)) wr) (fun v _ => hs - (intOf v).toNat)
      case atStart => exact ⟨0, rfl, Nat.zero_le _, HM.out⟩
      case round =>
        obtain ⟨j, rfl, hj, hm⟩ := hrel
        by_cases hjl : j < hs
        · have hjl' : (j : Int) < hs := by omega
          have hj8 : j < 8 := by omega
          have hi8' : (i : Int) < 8 := by omega
          have hj8' : (j : Int) < 8 := by omega
          obtain ⟨F, pp, FF, hf, hF, hb⟩ := hm
          have hxx : ∀ k, (F k ∨ False) → k < wr.heap.size := fun k hk => hf.bd k (hk.elim id False.elim)
          have HF := Lib.hid (And.intro hf (And.intro hF hb))
          have HPX := Lib.hid (HP.out _ wr hxx)
          clear hf hF hb hxx
          go_wp2_with fail
          refine HPX.out.mono ?_
          rintro e w1 ⟨rfl, hb1, F1, pl1, ph1, Fl1, Fh1, hp1, hF1⟩
          have hbk := HF.out.1.bk.below hb1
          have hnn := (FM.newN_none hs i j (AM.new low high wt)).resolve_right (by omega)
          have c0 := hbk.cell _ ((FM.newN hs i j (AM.new low high wt)).mem_pt pp (k := i * 8 + j) (by omega))
          have f0 := hbk.free (i * 8 + j)
          have HN := Lib.hid (NwF.newp HF.out.1 HF.out.2.1 HF.out.2.2 (show i * 8 + j < 64 by omega) hnn hb1 ⟨_, _, _, _, _, _, hp1⟩ hF1)
          rw [FM.newN_sp hs i j _ hi8 hj8] at HN
          clear hbk hnn hb1 hp1 hF1 HPX HF
          go_wp2
          go_roundw
          case rel => exact ⟨j + 1, by go_num, by omega, HN.out⟩
          case measure => simp [intOf]; omega
        · obtain rfl : j = hs := by omega
          rw [FM.newN_next] at hm
          have HM2 := Lib.hid hm
          clear hm
          go_wp2
          go_roundw
          case rel => exact ⟨i + 1, by go_num, by omega, HM2.out⟩
          case measure => simp [intOf]; omega
    · obtain rfl : i = ps := by omega
      have HM := Lib.hid hm
      clear hm HZ
      go_wp2
      go_ret2
      exact ⟨rfl, HM.out⟩
end Go.Proofs.Ytbhhgfpliggkgaa
