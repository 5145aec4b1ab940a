/- The law on the order of things: what was pushed comes out as it came in. -/
import Derived.Test.YtgeihelpggncgaaL2
import Derived.Test.YtgeihelpggncgaaRgbstring
set_option linter.unusedSimpArgs false
set_option linter.unusedVariables false
namespace Go.Proofs.Ytgeihelpggncgaa
open Go.RowKit Go.Shelf

def strV (l : List ByteArray) : List Value := l.map .string
theorem strV_app (l m : List ByteArray) : strV (l ++ m) = strV l ++ strV m := by simp [strV]
theorem strV_len (l : List ByteArray) : (strV l).length = l.length := by simp [strV]
theorem strV_at (l : List ByteArray) (k : Nat) (h : k < l.length) : (strV l)[k]? = some (.string l[k]) := by simp [strV, h]
theorem boolV_at (l : List Bool) (k : Nat) (h : k < l.length) : (l.map Value.bool)[k]? = some (.bool l[k]) := by simp [h]

theorem none_ge (n : Nat) : ∀ k, BlkOf none k → n ≤ k := by rintro k ⟨ad, he, _⟩; cases he
/-- Between two rounds: what went in, what came out, what is still there. -/
def OrdI (w : World) (p k : Nat) (A1 : Option Addr) (n1 c1 : Nat) (A2 : Option Addr) (n2 c2 : Nat) (wr : World) : Prop :=
  ∃ F ins outs xs, Rg 74 9 F wr p 8 (strV xs) ∧ Lst 9 (BlkOf A1) wr A1 n1 c1 (strV ins) ∧ Lst 9 (BlkOf A2) wr A2 n2 c2 (strV outs) ∧
    Sep F (BlkOf A1) ∧ Sep F (BlkOf A2) ∧ Sep (BlkOf A1) (BlkOf A2) ∧ (∀ k, F k → w.heap.size ≤ k) ∧ (∀ k, BlkOf A1 k → w.heap.size ≤ k) ∧ (∀ k, BlkOf A2 k → w.heap.size ≤ k) ∧
    Below w.heap.size w wr ∧ ins = outs ++ xs ∧ ins.length ≤ k
/-- The same, where something is there. -/
def OrdP (w : World) (p k : Nat) (s0 : ByteArray) (A1 : Option Addr) (n1 c1 : Nat) (A2 : Option Addr) (n2 c2 : Nat) (wr : World) (F : Nat → Prop) (ins outs xs : List ByteArray) : Prop :=
  Rg 74 9 F wr p 8 (.string s0 :: strV xs) ∧ Lst 9 (BlkOf A1) wr A1 n1 c1 (strV ins) ∧ Lst 9 (BlkOf A2) wr A2 n2 c2 (strV outs) ∧
    Sep F (BlkOf A1) ∧ Sep F (BlkOf A2) ∧ Sep (BlkOf A1) (BlkOf A2) ∧ (∀ k, F k → w.heap.size ≤ k) ∧ (∀ k, BlkOf A1 k → w.heap.size ≤ k) ∧ (∀ k, BlkOf A2 k → w.heap.size ≤ k) ∧
    Below w.heap.size w wr ∧ ins = outs ++ s0 :: xs ∧ ins.length ≤ k
section
variable {w wr w' w3 w4 : World} {p k : Nat} {A1 A2 A1' A2' : Option Addr} {n1 c1 n2 c2 n1' c1' n2' c2' : Nat} {F F3 : Nat → Prop} {ins outs xs : List ByteArray} {s s0 : ByteArray}
theorem OrdP.toI (h : OrdP w p k s0 A1 n1 c1 A2 n2 c2 wr F ins outs xs) : OrdI w p k A1 n1 c1 A2 n2 c2 wr := ⟨F, ins, outs, s0 :: xs, h⟩
theorem OrdI.next (h : OrdI w p k A1 n1 c1 A2 n2 c2 wr) : OrdI w p (k + 1) A1 n1 c1 A2 n2 c2 wr := by
  obtain ⟨F, ins, outs, xs, hr, hl1, hl2, sF1, sF2, s12, gF, gA1, gA2, hb, he, hle⟩ := h
  exact ⟨F, ins, outs, xs, hr, hl1, hl2, sF1, sF2, s12, gF, gA1, gA2, hb, he, by omega⟩
theorem OrdP.below (h : OrdP w p k s0 A1 n1 c1 A2 n2 c2 wr F ins outs xs) (hb' : Below wr.heap.size wr w') : OrdP w p k s0 A1 n1 c1 A2 n2 c2 w' F ins outs xs := by
  obtain ⟨hr, hl1, hl2, sF1, sF2, s12, gF, gA1, gA2, hb, he, hle⟩ := h
  exact ⟨hr.below hb', hl1.below hb', hl2.below hb', sF1, sF2, s12, gF, gA1, gA2, hb.trans (hb'.mono hb.size), he, hle⟩
theorem OrdP.of (hr : Rg 74 9 F wr p 8 (strV xs)) (hl1 : Lst 9 (BlkOf A1) wr A1 n1 c1 (strV ins)) (hl2 : Lst 9 (BlkOf A2) wr A2 n2 c2 (strV outs))
    (sF1 : Sep F (BlkOf A1)) (sF2 : Sep F (BlkOf A2)) (s12 : Sep (BlkOf A1) (BlkOf A2)) (gF : ∀ k, F k → w.heap.size ≤ k) (gA1 : ∀ k, BlkOf A1 k → w.heap.size ≤ k) (gA2 : ∀ k, BlkOf A2 k → w.heap.size ≤ k)
    (hb : Below w.heap.size w wr) (he : ins = outs ++ xs) (hle : ins.length ≤ k) (hx : 0 < xs.length) : ∃ s0 xs', OrdP w p k s0 A1 n1 c1 A2 n2 c2 wr F ins outs xs' := by
  cases xs with
  | nil => simp at hx
  | cons s0 xs' => exact ⟨s0, xs', hr, hl1, hl2, sF1, sF2, s12, gF, gA1, gA2, hb, he, hle⟩
/-- Pushed, and noted. -/
theorem OrdP.push (hl1 : Lst 9 (BlkOf A1) wr A1 n1 c1 (strV ins)) (hl2 : Lst 9 (BlkOf A2) wr A2 n2 c2 (strV outs))
    (sF1 : Sep F (BlkOf A1)) (sF2 : Sep F (BlkOf A2)) (s12 : Sep (BlkOf A1) (BlkOf A2)) (gF : ∀ k, F k → w.heap.size ≤ k) (gA1 : ∀ k, BlkOf A1 k → w.heap.size ≤ k) (gA2 : ∀ k, BlkOf A2 k → w.heap.size ≤ k)
    (hb : Below w.heap.size w wr) (he : ins = outs ++ xs) (hle : ins.length ≤ k) {o1 o2 : Obj}
    (hr3 : Rg 74 9 F3 w3 p 8 (strV xs ++ [.string s])) (hst3 : St F (wr.alloc o1) w3) (hg3 : Gr F F3 (wr.alloc o1).heap.size)
    (hap : Lst 9 (fun k => BlkOf A1 k ∨ (w3.alloc o2).heap.size ≤ k) w4 A1' n1' c1' (strV ins ++ [.string s])) (hst4 : St (BlkOf A1) (w3.alloc o2) w4) :
    ∃ s0 xs', OrdP w p (k + 1) s0 A1' n1' c1' A2 n2 c2 w4 F3 (ins ++ [s]) outs xs' := by
  have hsz := hst3.size
  simp only [World.size_alloc] at hsz hg3
  have hwb := hb.size
  have s3 : Sep F3 (BlkOf A1) := sF1.gr hg3 (fun k hk => by have := hl1.lt k hk; omega)
  have s32 : Sep F3 (BlkOf A2) := sF2.gr hg3 (fun k hk => by have := hl2.lt k hk; omega)
  have hA2 : Lst 9 (BlkOf A2) w3 A2 n2 c2 (strV outs) := (hl2.alloc o1).st hst3 sF2.symm
  have hA2' := (hA2.alloc o2).st hst4 s12.symm
  have hgr := hap.gr
  simp only [World.size_alloc] at hgr
  have hr4 := (hr3.below ((Below.refl _ w3).alloc (Nat.le_refl _) o2)).st hst4 s3
  have hx : strV xs ++ [.string s] = strV (xs ++ [s]) := by simp [strV]
  have hi : strV ins ++ [.string s] = strV (ins ++ [s]) := by simp [strV]
  rw [hx] at hr4
  rw [hi] at hap
  refine OrdP.of hr4 hap.tight hA2' (s3.symm.gr hgr (fun k hk => by have := hr3.bd k hk; omega)).symm s32 (s12.gr hgr (fun k hk => by have := hA2.lt k hk; omega)) (hg3.ge gF (by omega)) (hgr.ge gA1 (by omega)) gA2 ?_ (by rw [he, List.append_assoc]) (by simp; omega) (by simp)
  refine ((hb.trans (((Below.refl _ wr).alloc hwb o1).trans (hst3.below (by simp; omega) gF))).trans ((Below.refl _ w3).alloc (by omega) o2)).trans (hst4.below (by simp; omega) gA1)
/-- Popped, and noted. -/
theorem OrdP.pop (h : OrdP w p k s0 A1 n1 c1 A2 n2 c2 wr F ins outs xs) {o2 : Obj}
    (hr3 : Rg 74 9 F3 w3 p 8 (strV xs)) (hst3 : St F wr w3) (hg3 : Gr F F3 wr.heap.size)
    (hap : Lst 9 (fun k => BlkOf A2 k ∨ (w3.alloc o2).heap.size ≤ k) w4 A2' n2' c2' (strV outs ++ [.string s0])) (hst4 : St (BlkOf A2) (w3.alloc o2) w4) :
    OrdI w p k A1 n1 c1 A2' n2' c2' w4 := by
  obtain ⟨hr, hl1, hl2, sF1, sF2, s12, gF, gA1, gA2, hb, he, hle⟩ := h
  have hsz := hst3.size
  have hwb := hb.size
  have s3 : Sep F3 (BlkOf A1) := sF1.gr hg3 (fun k hk => by have := hl1.lt k hk; omega)
  have s32 : Sep F3 (BlkOf A2) := sF2.gr hg3 (fun k hk => by have := hl2.lt k hk; omega)
  have hA1 : Lst 9 (BlkOf A1) w3 A1 n1 c1 (strV ins) := hl1.st hst3 sF1.symm
  have hA1' := (hA1.alloc o2).st hst4 s12
  have hgr := hap.gr
  simp only [World.size_alloc] at hgr
  have hr4 := (hr3.below ((Below.refl _ w3).alloc (Nat.le_refl _) o2)).st hst4 s32
  have hi : strV outs ++ [.string s0] = strV (outs ++ [s0]) := by simp [strV]
  rw [hi] at hap
  refine ⟨F3, ins, outs ++ [s0], xs, hr4, hA1', hap.tight, s3, (s32.symm.gr hgr (fun k hk => by have := hr3.bd k hk; omega)).symm, (s12.symm.gr hgr (fun k hk => by have := hA1.lt k hk; omega)).symm, hg3.ge gF (by omega), gA1, hgr.ge gA2 (by omega), ?_, by rw [he, List.append_assoc]; rfl, hle⟩
  exact ((hb.trans (hst3.below hwb gF)).trans ((Below.refl _ w3).alloc (by omega) o2)).trans (hst4.below (by simp; omega) gA2)
end

set_option maxRecDepth 100000 in
set_option maxHeartbeats 4000000 in
theorem lawOrder (A : Option Addr) (n c : Nat) (l : List ByteArray) (B : Option Addr) (m d : Nat) (ps : List Bool) (w : World) (h1 : RdV w A n c (strV l)) (h2 : RdV w B m d (ps.map .bool)) :
    Calls Try.prog 5 #[.slice A n c, .slice B m d] w fun e w' => e = .returned (.bool true) ∧ Below w.heap.size w w' := by
  have hn := h1.1
  have hm := h2.1
  rw [strV_len] at hn
  rw [List.length_map] at hm
  have hnm : n ≤ 9223372036854775807 := by have h := h1.2; simp only [maxLen] at h; omega
  have hmm : m ≤ 9223372036854775807 := by have h := h2.2; simp only [maxLen] at h; omega
  have HN := Lib.hid hn
  have HM := Lib.hid hm
  have H1 := Lib.hid h1
  have H2 := Lib.hid h2
  clear hn hm h1 h2
  go_enter Try.func5, Try.ntmps5
  go_wp2_with fail
  refine (Rgstring.new_ok 8 w (by decide) (by decide)).mono ?_
  rintro e w1 ⟨rfl, hr1, hb1⟩
  go_wp2_with fail
  refine (awake_any w1).mono ?_
  rintro e w2 ⟨rfl, hb2⟩
  have hr2 := hr1.below hb2
  have hbb := hb1.trans (hb2.mono hb1.size)
  clear hr1 hb1 hb2
  have hI0 : OrdI w w.heap.size 0 none 0 0 none 0 0 w2 := ⟨_, [], [], [], hr2, Lst.nil _ _ _, Lst.nil _ _ _, (sep_none _).symm, (sep_none _).symm, sep_none _, (by rintro k rfl; exact Nat.le_refl _), none_ge _, none_ge _, hbb, rfl, Nat.le_refl _⟩
  have HI0 := Lib.hid hI0
  clear hI0 hr2 hbb
  generalize w.heap.size = p at HI0
  go_wp2
  go_loopw [7, 8, 9] (fun vi vo i wr => ∃ k A1 n1 c1 A2 n2 c2, k ≤ n ∧ k ≤ 40 ∧ i = .int .i64 k ∧ vi = .slice A1 n1 c1 ∧ vo = .slice A2 n2 c2 ∧ OrdI w p k A1 n1 c1 A2 n2 c2 wr) (fun _ _ i _ => n + 1 - (intOf i).toNat)
  case atStart => exact ⟨0, none, 0, 0, none, 0, 0, Nat.zero_le _, by omega, rfl, rfl, rfl, HI0.out⟩
  case round =>
    obtain ⟨k, A1, n1, c1, A2, n2, c2, hkn, hk40, rfl, rfl, rfl, hI⟩ := hrel
    by_cases hc : k < n ∧ k < 40
    · obtain ⟨hlt, h40⟩ := hc
      have h40' : (k : Int) < 40 := by omega
      have hkl : k < l.length := by rw [HN.out]; exact hlt
      obtain ⟨F, ins, outs, xs, hr, hl1, hl2, sF1, sF2, s12, gF, gA1, gA2, hb, he, hle⟩ := hI
      obtain ⟨g, o, rfl, hg, c1'⟩ := (H1.out.below hb).cell hlt
      rw [strV_at l k hkl] at c1'
      obtain ⟨s, hs⟩ : ∃ s, s = l[k] := ⟨_, rfl⟩
      rw [← hs] at c1'
      have HS := Lib.hid hs
      clear hs
      have hu := RdV.one wr 9 (.string s) rfl
      have hba : Below wr.heap.size wr (wr.alloc (.cells #[.string s] 9)) := (Below.refl _ _).alloc (Nat.le_refl _) _
      have hra := hr.below hba
      have hx8 : xs.length ≤ 8 := by
        obtain ⟨_, _, _, h4, _⟩ := hr
        rwa [strV_len] at h4
      have hnF : ¬ F wr.heap.size := fun hf => by
        obtain ⟨_, _, _, _, _, _, _, _, _, _, h8⟩ := hr
        exact absurd (h8 _ hf) (by omega)
      have hux : 0 < 1 → ∀ ad : Addr, (some ⟨wr.heap.size, 0, none⟩ : Option Addr) = some ad → ¬ F ad.block := by
        rintro - ad he
        injection he with he
        subst he
        exact hnF
      have hn2 : n2 ≤ 40 := by
        have h1 := hl2.1
        rw [strV_len] at h1
        rw [he] at hle
        simp at hle
        omega
      have hn1 : n1 ≤ 40 := by
        have h1 := hl1.1
        rw [strV_len] at h1
        omega
      by_cases hp : k < m
      · obtain ⟨g3, o3, rfl, hg3, _⟩ := H2.out.cell hp
        have hkp : k < ps.length := by rw [HM.out]; exact hp
        have hB3 : ∀ W, Below w.heap.size w W → W.cell? ⟨g3, o3 + k, none⟩ = some (.bool ps[k]) := fun W hW => by
          obtain ⟨g4, o4, h4, _, h5⟩ := (H2.out.below hW).cell hp
          injection h4 with h4
          injection h4 with h4 h6 h7
          subst h4 h6
          rw [h5, boolV_at ps k hkp]
        obtain ⟨b, hb'⟩ : ∃ b, b = ps[k] := ⟨_, rfl⟩
        rw [← hb'] at hB3
        have HB3 := Lib.hid hB3
        clear hb' hB3
        cases b with
        | false =>
          by_cases hf : xs.length = 8
          · have HP := Lib.hid (Rgstring.push_full F p 8 (strV xs) (some ⟨wr.heap.size, 0, none⟩) 1 1 _ hra (by decide) (by rw [strV_len]; omega))
            go_wp2_with fail
            refine HP.out.mono ?_
            rintro e w3 ⟨rfl, q, rfl⟩
            have hb3 : Below wr.heap.size wr ((wr.alloc (.cells #[.string s] 9)).drewN q) := hba.trans ((Below.drewN_ _ q).mono (by simp))
            generalize (wr.alloc (.cells #[.string s] 9)).drewN q = w3 at *
            go_wp2_with fail
            have hr3 := hr.below hb3
            obtain ⟨s0, xs0, hOP⟩ := OrdP.of (w := w) hr3 (hl1.below hb3) (hl2.below hb3) sF1 sF2 s12 gF gA1 gA2 (hb.trans (hb3.mono hb.size)) he (Nat.le_succ_of_le hle) (by omega)
            have hlen := Rgstring.len_any F p 8 (strV xs) w3 hr3
            rw [show (strV xs).length = 8 from by rw [strV_len]; exact hf] at hlen
            have HLen := Lib.hid hlen
            obtain ⟨FP, hFP⟩ : ∃ FP, FP = F := ⟨_, rfl⟩
            obtain ⟨ins0, hi0⟩ : ∃ ins0, ins0 = ins := ⟨_, rfl⟩
            rw [← hFP, ← hi0] at hOP
            have HOP := Lib.hid hOP
            have hbW := hOP.2.2.2.2.2.2.2.2.2.1
            have c3 := HB3.out _ hbW
            clear hFP hi0 hOP hbW hlen hr3 hr hl1 hl2 sF1 sF2 s12 gF gA1 gA2 he hle hf HP hux hnF hra hu hba hb3 hx8 hb
            refine HLen.out.mono ?_
            rintro e w4 ⟨rfl, rfl⟩
            clear HLen
            go_wp2
            go_roundw
            case rel => exact ⟨k + 1, _, _, _, _, _, _, by omega, by omega, by go_num, rfl, rfl, HOP.out.toI⟩
            case measure => simp [intOf]; omega
          · have HP := Lib.hid (Rgstring.push_ok F p 8 (strV xs) [.string s] (some ⟨wr.heap.size, 0, none⟩) 1 1 _ hra hu hux (by rw [strV_len]; omega))
            go_wp2_with fail
            refine HP.out.mono ?_
            rintro e w3 ⟨rfl, F3, hr3, hst3, hg3⟩
            have hbl3 : Below w.heap.size w w3 := hb.trans (((Below.refl _ wr).alloc hb.size _).trans (hst3.below (by have := hb.size; simp; omega) gF))
            obtain ⟨g4, o4, hA4, hg4, c4⟩ := (H1.out.below hbl3).cell hlt
            injection hA4 with hA4
            injection hA4 with hA4 hA5 hA6
            subst hA4 hA5
            rw [strV_at l k hkl, ← HS.out] at c4
            have hu3 := RdV.one w3 9 (.string s) rfl
            have hl13 : Lst 9 (BlkOf A1) (w3.alloc (.cells #[.string s] 9)) A1 n1 c1 (strV ins) := ((hl1.alloc _).st hst3 sF1.symm).alloc _
            clear c1'
            go_wp2_with (at_builtin
                         refine wpList_append_lst Rgstring.elt rfl (.tmp 45) (.tmp 50) rfl rfl hl13 rfl (by exact hu3) (by omega) ?_
                         rintro v w4 ⟨⟨A1', n1', c1', rfl, hl1'⟩, hst4⟩
                         obtain ⟨s0, xs0, hOP⟩ := OrdP.push (w := w) hl1 hl2 sF1 sF2 s12 gF gA1 gA2 hb he hle hr3 hst3 hg3 hl1' hst4
                         obtain ⟨FP, hFP⟩ : ∃ FP, FP = F3 := ⟨_, rfl⟩
                         obtain ⟨ins0, hi0⟩ : ∃ ins0, ins0 = ins ++ [s] := ⟨_, rfl⟩
                         rw [← hFP, ← hi0] at hOP
                         have HOP := Lib.hid hOP
                         have hbW := hOP.2.2.2.2.2.2.2.2.2.1
                         have c3 := HB3.out _ hbW
                         clear hFP hi0 hOP hbW hr3 hst3 hg3 hl1' hst4 hl1 hl2 sF1 sF2 s12 gF gA1 gA2 hb he hle hbl3 hu3 hl13 c4 hr HP hux hnF hra hu hba hx8)
            go_roundw
            case rel => exact ⟨k + 1, _, _, _, _, _, _, by omega, by omega, by go_num, rfl, rfl, HOP.out.toI⟩
            case measure => simp [intOf]; omega
        | true =>
          by_cases hf : xs.length = 8
          · have HP := Lib.hid (Rgstring.push_full F p 8 (strV xs) (some ⟨wr.heap.size, 0, none⟩) 1 1 _ hra (by decide) (by rw [strV_len]; omega))
            go_wp2_with fail
            refine HP.out.mono ?_
            rintro e w3 ⟨rfl, q, rfl⟩
            have hb3 : Below wr.heap.size wr ((wr.alloc (.cells #[.string s] 9)).drewN q) := hba.trans ((Below.drewN_ _ q).mono (by simp))
            generalize (wr.alloc (.cells #[.string s] 9)).drewN q = w3 at *
            go_wp2_with fail
            have hr3 := hr.below hb3
            obtain ⟨s0, xs0, hOP⟩ := OrdP.of (w := w) hr3 (hl1.below hb3) (hl2.below hb3) sF1 sF2 s12 gF gA1 gA2 (hb.trans (hb3.mono hb.size)) he (Nat.le_succ_of_le hle) (by omega)
            have hlen := Rgstring.len_any F p 8 (strV xs) w3 hr3
            rw [show (strV xs).length = 8 from by rw [strV_len]; exact hf] at hlen
            have HLen := Lib.hid hlen
            obtain ⟨FP, hFP⟩ : ∃ FP, FP = F := ⟨_, rfl⟩
            obtain ⟨ins0, hi0⟩ : ∃ ins0, ins0 = ins := ⟨_, rfl⟩
            rw [← hFP, ← hi0] at hOP
            have HOP := Lib.hid hOP
            have hbW := hOP.2.2.2.2.2.2.2.2.2.1
            have c3 := HB3.out _ hbW
            clear hFP hi0 hOP hbW hlen hr3 hr hl1 hl2 sF1 sF2 s12 gF gA1 gA2 he hle hf HP hux hnF hra hu hba hb3 hx8 hb
            have HPop := Lib.hid (Rgstring.pop_some FP p 8 (.string s0) (strV xs0) _ HOP.out.1)
            refine HLen.out.mono ?_
            rintro e w4 ⟨rfl, rfl⟩
            clear HLen
            go_wp2_with fail
            refine HPop.out.mono ?_
            rintro e w9 ⟨rfl, F9, hr9, hst9, hg9⟩
            have hl29 : Lst 9 (BlkOf A2) (w9.alloc (.cells #[.string s0] 9)) A2 n2 c2 (strV outs) := (HOP.out.2.2.1.st hst9 HOP.out.2.2.2.2.1.symm).alloc _
            have hu9 := RdV.one w9 9 (.string s0) rfl
            go_wp2_with (at_builtin
                         refine wpList_append_lst Rgstring.elt rfl (.tmp 72) (.tmp 74) rfl rfl hl29 rfl (by exact hu9) (by omega) ?_
                         rintro v w10 ⟨⟨A2', n2', c2', rfl, hl2'⟩, hst10⟩)
            have HF := Lib.hid (OrdP.pop HOP.out hr9 hst9 hg9 hl2' hst10)
            clear hl2' hst10 hr9 hst9 hg9 hl29 hu9
            go_wp2
            go_roundw
            case rel => exact ⟨k + 1, _, _, _, _, _, _, by omega, by omega, by go_num, rfl, rfl, HF.out⟩
            case measure => simp [intOf]; omega
          · have HP := Lib.hid (Rgstring.push_ok F p 8 (strV xs) [.string s] (some ⟨wr.heap.size, 0, none⟩) 1 1 _ hra hu hux (by rw [strV_len]; omega))
            go_wp2_with fail
            refine HP.out.mono ?_
            rintro e w3 ⟨rfl, F3, hr3, hst3, hg3⟩
            have hbl3 : Below w.heap.size w w3 := hb.trans (((Below.refl _ wr).alloc hb.size _).trans (hst3.below (by have := hb.size; simp; omega) gF))
            obtain ⟨g4, o4, hA4, hg4, c4⟩ := (H1.out.below hbl3).cell hlt
            injection hA4 with hA4
            injection hA4 with hA4 hA5 hA6
            subst hA4 hA5
            rw [strV_at l k hkl, ← HS.out] at c4
            have hu3 := RdV.one w3 9 (.string s) rfl
            have hl13 : Lst 9 (BlkOf A1) (w3.alloc (.cells #[.string s] 9)) A1 n1 c1 (strV ins) := ((hl1.alloc _).st hst3 sF1.symm).alloc _
            clear c1'
            go_wp2_with (at_builtin
                         refine wpList_append_lst Rgstring.elt rfl (.tmp 45) (.tmp 50) rfl rfl hl13 rfl (by exact hu3) (by omega) ?_
                         rintro v w4 ⟨⟨A1', n1', c1', rfl, hl1'⟩, hst4⟩
                         obtain ⟨s0, xs0, hOP⟩ := OrdP.push (w := w) hl1 hl2 sF1 sF2 s12 gF gA1 gA2 hb he hle hr3 hst3 hg3 hl1' hst4
                         obtain ⟨FP, hFP⟩ : ∃ FP, FP = F3 := ⟨_, rfl⟩
                         obtain ⟨ins0, hi0⟩ : ∃ ins0, ins0 = ins ++ [s] := ⟨_, rfl⟩
                         rw [← hFP, ← hi0] at hOP
                         have HOP := Lib.hid hOP
                         have hbW := hOP.2.2.2.2.2.2.2.2.2.1
                         have c3 := HB3.out _ hbW
                         clear hFP hi0 hOP hbW hr3 hst3 hg3 hl1' hst4 hl1 hl2 sF1 sF2 s12 gF gA1 gA2 hb he hle hbl3 hu3 hl13 c4 hr HP hux hnF hra hu hba hx8)
            have HPop := Lib.hid (Rgstring.pop_some FP p 8 (.string s0) (strV xs0) _ HOP.out.1)
            refine HPop.out.mono ?_
            rintro e w9 ⟨rfl, F9, hr9, hst9, hg9⟩
            have hl29 : Lst 9 (BlkOf A2) (w9.alloc (.cells #[.string s0] 9)) A2 n2 c2 (strV outs) := (HOP.out.2.2.1.st hst9 HOP.out.2.2.2.2.1.symm).alloc _
            have hu9 := RdV.one w9 9 (.string s0) rfl
            go_wp2_with (at_builtin
                         refine wpList_append_lst Rgstring.elt rfl (.tmp 72) (.tmp 74) rfl rfl hl29 rfl (by exact hu9) (by omega) ?_
                         rintro v w10 ⟨⟨A2', n2', c2', rfl, hl2'⟩, hst10⟩)
            have HF := Lib.hid (OrdP.pop HOP.out hr9 hst9 hg9 hl2' hst10)
            clear hl2' hst10 hr9 hst9 hg9 hl29 hu9
            go_wp2
            go_roundw
            case rel => exact ⟨k + 1, _, _, _, _, _, _, by omega, by omega, by go_num, rfl, rfl, HF.out⟩
            case measure => simp [intOf]; omega
      · skip
        by_cases hf : xs.length = 8
        · have HP := Lib.hid (Rgstring.push_full F p 8 (strV xs) (some ⟨wr.heap.size, 0, none⟩) 1 1 _ hra (by decide) (by rw [strV_len]; omega))
          go_wp2_with fail
          refine HP.out.mono ?_
          rintro e w3 ⟨rfl, q, rfl⟩
          have hb3 : Below wr.heap.size wr ((wr.alloc (.cells #[.string s] 9)).drewN q) := hba.trans ((Below.drewN_ _ q).mono (by simp))
          generalize (wr.alloc (.cells #[.string s] 9)).drewN q = w3 at *
          go_wp2_with fail
          have hr3 := hr.below hb3
          obtain ⟨s0, xs0, hOP⟩ := OrdP.of (w := w) hr3 (hl1.below hb3) (hl2.below hb3) sF1 sF2 s12 gF gA1 gA2 (hb.trans (hb3.mono hb.size)) he (Nat.le_succ_of_le hle) (by omega)
          have hlen := Rgstring.len_any F p 8 (strV xs) w3 hr3
          rw [show (strV xs).length = 8 from by rw [strV_len]; exact hf] at hlen
          have HLen := Lib.hid hlen
          obtain ⟨FP, hFP⟩ : ∃ FP, FP = F := ⟨_, rfl⟩
          obtain ⟨ins0, hi0⟩ : ∃ ins0, ins0 = ins := ⟨_, rfl⟩
          rw [← hFP, ← hi0] at hOP
          have HOP := Lib.hid hOP
          have hbW := hOP.2.2.2.2.2.2.2.2.2.1
          clear hFP hi0 hOP hbW hlen hr3 hr hl1 hl2 sF1 sF2 s12 gF gA1 gA2 he hle hf HP hux hnF hra hu hba hb3 hx8 hb
          refine HLen.out.mono ?_
          rintro e w4 ⟨rfl, rfl⟩
          clear HLen
          go_wp2
          go_roundw
          case rel => exact ⟨k + 1, _, _, _, _, _, _, by omega, by omega, by go_num, rfl, rfl, HOP.out.toI⟩
          case measure => simp [intOf]; omega
        · have HP := Lib.hid (Rgstring.push_ok F p 8 (strV xs) [.string s] (some ⟨wr.heap.size, 0, none⟩) 1 1 _ hra hu hux (by rw [strV_len]; omega))
          go_wp2_with fail
          refine HP.out.mono ?_
          rintro e w3 ⟨rfl, F3, hr3, hst3, hg3⟩
          have hbl3 : Below w.heap.size w w3 := hb.trans (((Below.refl _ wr).alloc hb.size _).trans (hst3.below (by have := hb.size; simp; omega) gF))
          obtain ⟨g4, o4, hA4, hg4, c4⟩ := (H1.out.below hbl3).cell hlt
          injection hA4 with hA4
          injection hA4 with hA4 hA5 hA6
          subst hA4 hA5
          rw [strV_at l k hkl, ← HS.out] at c4
          have hu3 := RdV.one w3 9 (.string s) rfl
          have hl13 : Lst 9 (BlkOf A1) (w3.alloc (.cells #[.string s] 9)) A1 n1 c1 (strV ins) := ((hl1.alloc _).st hst3 sF1.symm).alloc _
          clear c1'
          go_wp2_with (at_builtin
                       refine wpList_append_lst Rgstring.elt rfl (.tmp 45) (.tmp 50) rfl rfl hl13 rfl (by exact hu3) (by omega) ?_
                       rintro v w4 ⟨⟨A1', n1', c1', rfl, hl1'⟩, hst4⟩
                       obtain ⟨s0, xs0, hOP⟩ := OrdP.push (w := w) hl1 hl2 sF1 sF2 s12 gF gA1 gA2 hb he hle hr3 hst3 hg3 hl1' hst4
                       obtain ⟨FP, hFP⟩ : ∃ FP, FP = F3 := ⟨_, rfl⟩
                       obtain ⟨ins0, hi0⟩ : ∃ ins0, ins0 = ins ++ [s] := ⟨_, rfl⟩
                       rw [← hFP, ← hi0] at hOP
                       have HOP := Lib.hid hOP
                       have hbW := hOP.2.2.2.2.2.2.2.2.2.1
                       clear hFP hi0 hOP hbW hr3 hst3 hg3 hl1' hst4 hl1 hl2 sF1 sF2 s12 gF gA1 gA2 hb he hle hbl3 hu3 hl13 c4 hr HP hux hnF hra hu hba hx8)
          go_roundw
          case rel => exact ⟨k + 1, _, _, _, _, _, _, by omega, by omega, by go_num, rfl, rfl, HOP.out.toI⟩
          case measure => simp [intOf]; omega
    · obtain ⟨F, ins, outs, xs, hr, hl1, hl2, sF1, sF2, s12, gF, gA1, gA2, hb, he, hle⟩ := hI
      have hn1 := hl1.1
      have hn2 := hl2.1
      have hxl : xs.length ≤ 8 := by
        obtain ⟨_, _, _, h4, _⟩ := hr
        rwa [strV_len] at h4
      rw [strV_len] at hn1 hn2
      have hn1' : n1 ≤ 40 := by omega
      have hn2' : n2 ≤ 40 := by rw [he] at hle; simp at hle; omega
      have HLi := Lib.hid (Rgstring.list_any F p 8 (strV xs) wr hr)
      have HN1 := Lib.hid hn1
      have HN2 := Lib.hid hn2
      clear hn1 hn2 hle
      have hd : k < n ∧ (40 : Int) ≤ k ∨ n ≤ k := by omega
      rcases hd with ⟨hlt, h40⟩ | hge
      all_goals
        go_wp2_with fail
        refine HLi.out.mono ?_
        rintro e w5 ⟨A3, n3, c3, rfl, hl3, hb5⟩
        have hn3 := hl3.1
        rw [strV_len] at hn3
        have hn3' : n3 ≤ 8 := by omega
        have HN3 := Lib.hid hn3
        clear hn3
        go_wp2_with (at_builtin
                     refine wpList_append_lst Rgstring.elt rfl (.tmp 76) (.tmp 78) rfl rfl (hl2.below hb5) rfl hl3.rdv (by omega) ?_
                     rintro v w6 ⟨⟨A4, n4, c4, rfl, hl4⟩, hst6⟩
                     have hn4 : n4 = n1 := by
                       have h4 := hl4.1
                       rw [List.length_append, strV_len, strV_len] at h4
                       rw [← h4, ← HN1.out, he, List.length_append]
                     have hl16 : Lst 9 (BlkOf A1) w6 A1 n1 c1 (strV ins) := (hl1.below hb5).st hst6 s12
                     have hl46 : Lst 9 (BlkOf A4) w6 A4 n4 c4 (strV ins) := by
                       have h4 := hl4.tight
                       rwa [← strV_app, ← he] at h4
                     have hbe : Below w.heap.size w w6 := (hb.trans (hb5.mono hb.size)).trans (hst6.below (by have := hb.size; have := hb5.size; omega) gA2)
                     subst hn4
                     have HB := Lib.hid hbe
                     clear hl4 hst6 hbe hl3 hb5 hl2 hl1 hr sF1 sF2 s12 gF gA1 gA2 hb he HLi HN3 HN2 HI0)
        go_loopw [12] (fun i wz => ∃ j q : Nat, j ≤ n4 ∧ i = .int .i64 j ∧ wz = w6.drewN q) (fun i _ => n4 - (intOf i).toNat)
        case atStart => exact ⟨0, 0, Nat.zero_le _, rfl, rfl⟩
        case round =>
          obtain ⟨j, q, hj, rfl, rfl⟩ := hrel
          by_cases hjl : j < n4
          · have hji : (j : Int) < n4 := by omega
            have hj0 : (0 : Int) ≤ j := by omega
            have hjx : j < ins.length := by rw [HN1.out]; exact hjl
            obtain ⟨g1, o1, rfl, hg1, d1⟩ := hl16.rdv.cell hjl
            obtain ⟨g4, o4, rfl, hg4, d4⟩ := hl46.rdv.cell hjl
            rw [strV_at ins j hjx] at d1 d4
            generalize ins[j] = s at d1 d4
            go_wp2
            go_quiet (fail)
            go_wp2
            go_roundw
            case rel => exact ⟨j + 1, _, by omega, by go_num, rfl⟩
            case measure => simp [intOf]; omega
          · obtain rfl : j = n4 := by omega
            go_wp2
            go_ret
            exact ⟨rfl, HB.out.trans ((Below.drewN_ w6 q).mono HB.out.size)⟩
end Go.Proofs.Ytgeihelpggncgaa
