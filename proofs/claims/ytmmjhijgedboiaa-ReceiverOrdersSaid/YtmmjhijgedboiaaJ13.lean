/- The reference: all parts. -/
import Derived.Test.YtmmjhijgedboiaaJ6
import Derived.Test.YtmmjhijgedboiaaJ12
set_option linter.unusedSimpArgs false
set_option linter.unusedVariables false
set_option maxRecDepth 100000
namespace Go.Proofs.Ytmmjhijgedboiaa
open Go.RowKit Go.Shelf
theorem st_wr {g : Nat} {W W' : World} (hw : Wr g W W') : St (· = g) W W' := ⟨hw.os, hw.tape, hw.output, hw.size, fun j hj hn => hw.block j hj (by intro e; injection e with e; exact hn e)⟩
theorem BsR.wrT {W W' : World} {A : Option Addr} {n c : Nat} {xs : List Int} (h : BsR W A n c xs) {g : Nat} {T : TypeId} {vs : List Value} (hz : Bk W T g vs) (hT : T ≠ 5) (hw : Wr g W W') : BsR W' A n c xs :=
  h.st (st_wr hw) fun k hk e => by subst e; exact (hz.tyd.ne hT) (h.2 _ hk)
theorem Jm.add_le (m : Jm) (x : List Int) (e : Bool) (k : Nat) (hr : m.refuse x = 0) (h : m.op ≤ 65536) (hk : m.ps.length ≤ k) : (m.add x e).op ≤ 65536 ∧ (m.add x e).ps.length ≤ k + 1 := by
  unfold Jm.add
  rw [if_pos hr]
  unfold Jm.refuse at hr
  split at hr
  · cases hr
  · split at hr
    · cases hr
    · split
      · exact ⟨by simp [Jm.op], by simp⟩
      · refine ⟨by rw [Jm.plus_op]; omega, by simp [Jm.plus]; omega⟩
theorem last_any {w : World} {B : Option Addr} {n1 c1 : Nat} {es : List Bool} (he : RdV w B n1 c1 (es.map .bool)) (k : Nat) :
    Calls Try.prog 51 #[.slice B n1 c1, .int .i64 k] w fun e w' => e = .returned (.bool (es.getD k false)) ∧ w = w' := by
  have hel : es.length = n1 := by have := he.1; simpa using this
  rcases (by omega : k < n1 ∨ n1 ≤ k) with h1 | h1
  · have h1' : (k : Int) < n1 := by omega
    obtain ⟨ge, oe, rfl, hge, hce⟩ := he.cell h1
    rw [getD_map es (by omega)] at hce
    generalize es.getD k false = en at hce
    go_enter Try.func51, Try.ntmps51
    go_wp2
    go_ret
    exact ⟨rfl, rfl⟩
  · have h1' : (n1 : Int) ≤ k := by omega
    have hen : es.getD k false = false := by
      rw [List.getD_eq_getElem?_getD, List.getElem?_eq_none (by omega)]; rfl
    rw [hen]
    go_enter Try.func51, Try.ntmps51
    go_wp2
    go_ret
    exact ⟨rfl, rfl⟩
set_option maxRecDepth 100000 in
set_option maxHeartbeats 16000000 in
theorem rall_any {w : World} {A : Option Addr} {n c : Nat} {ps : List (List Int)} {B : Option Addr} {n1 c1 : Nat} {es : List Bool} (h : SlB w A n c ps) (he : RdV w B n1 c1 (es.map .bool)) (hn : n ≤ 1000) :
    Calls Try.prog 28 #[.slice A n c, .slice B n1 c1] w (AllP w (allR es 0 ⟨[], 0, 0⟩ [] ps)) := by
  have HL := Lib.hid h.len
  have HH := Lib.hid h
  have HE := Lib.hid he
  obtain ⟨R, hR⟩ : ∃ R, R = allR es 0 ⟨[], 0, 0⟩ [] ps := ⟨_, rfl⟩
  rw [← hR]
  have HR := Lib.hid hR
  have hz1 := Bk.new w 32 [.slice none 0 0, .int .i64 0, .int .i64 0, .int .i64 0]
  have hba : Below w.heap.size w (w.alloc (.cells (List.toArray [.slice none 0 0, .int .i64 0, .int .i64 0, .int .i64 0]) 32)) := (Below.refl _ _).alloc (Nat.le_refl _) _
  have HI := Lib.hid (And.intro hz1 hba)
  clear h he hR hz1 hba
  go_enter Try.func28, Try.ntmps28
  go_wp2
  go_loopw [8, 9, 10, 11, 12, 13] (fun out i p m9 ok e9 wr => ∃ (k : Nat) (A1 : Option Addr) (n2 c2 : Nat) (m : Jm) (ms : List (List Int)) (A0 : Option Addr) (c0 : Nat), i = .int .i64 k ∧ k ≤ n ∧ out = .slice A1 n2 c2 ∧ n2 ≤ k ∧
      Bk wr 32 w.heap.size [.slice A0 m.op c0, .int .i64 m.ps.length, .int .i64 m.N, .int .i64 m.T] ∧ BsR wr A0 m.op c0 m.fl ∧ m.op ≤ 65536 ∧ m.ps.length ≤ k ∧ (0 ≤ m.N ∧ m.N ≤ k) ∧ (0 ≤ m.T ∧ m.T ≤ k * 65536) ∧
      OutR (· = w.heap.size) w wr A1 n2 c2 ms ∧ allR es k m ms (ps.drop k) = R ∧ Below w.heap.size w wr) (fun out i p m9 ok e9 _ => n - (intOf i).toNat)
  case atStart => exact ⟨0, none, 0, 0, ⟨[], 0, 0⟩, [], none, 0, rfl, Nat.zero_le _, rfl, Nat.zero_le _, HI.out.1, BsR.nil _, by simp [Jm.op], by simp, by simp, by simp, OutR.nil _ _ _, by rw [HR.out]; rfl, HI.out.2⟩
  case round =>
    obtain ⟨k, A1, n2, c2, m, ms, A0, c0, rfl, hk, rfl, hn2, hbx, hq, hle, hpl, hN, hT, ho, hall, hb⟩ := hrel
    by_cases hlt : k < n
    · obtain ⟨g, o, b, rfl, hcell, hrd, hat⟩ := (HH.out.below hb).at hlt
      have hkI : (k : Int) < n := by omega
      have hdrop : ps.drop k = b.xs :: ps.drop (k + 1) := by
        have hl := HL.out
        rw [List.drop_eq_getElem_cons (by omega)]
        rw [List.getElem?_eq_getElem (by omega)] at hat
        injection hat with hat
        rw [hat]
      rw [hdrop] at hall
      have hg8 := World.block_lt_of_cell? _ _ hcell
      have HAll := Lib.hid hall
      have HO := Lib.hid ho
      have HNT := Lib.hid (And.intro hN (And.intro hT (And.intro hle hpl)))
      have HB := Lib.hid hb
      have HRd := Lib.hid hrd
      have HQ := Lib.hid hq
      have HBx := Lib.hid hbx
      have HC := Lib.hid hcell
      clear hN hT ho hall hb hdrop hat hrd hq hbx hle hpl
      generalize hen : es.getD k false = en
      have HEn := Lib.hid hen
      clear hen
      go_wp2_with fail
      clear hcell
      refine wp_region_E (Below wr.heap.size) (by kernel_rfl) (fun wd hbd hsz => ?_)
      have hErd := RdV.below HE.out HB.out
      have HEd := Lib.hid (fun W (hW : Below wr.heap.size wr W) => RdV.below hErd hW)
      have HQd := Lib.hid (fun W (hW : Below wr.heap.size wr W) => HQ.out.below hW)
      have HPd := Lib.hid (fun W (hW : Below wr.heap.size wr W) => HRd.out.below hW)
      have HXd := Lib.hid (HBx.out.below hbd)
      have HGX := Lib.hid HBx.out.lt
      have HBD := Lib.hid hbd
      have hE : Below wr.heap.size wr wd := hbd
      have q0 : ∀ W, Below wr.heap.size wd W → W.cell? ⟨g, o + k, none⟩ = some (.slice b.A b.n b.c) := fun W hW => (hW.cell (p := ⟨g, o + k, none⟩) hg8).trans ((hbd.cell (p := ⟨g, o + k, none⟩) hg8).trans HC.out)
      clear hsz hErd hbd
      (refine takeE (belowTr wr.heap.size) 0 (by simp only [List.getElem?_toArray, List.getElem?_cons_succ, List.getElem?_cons_zero]; rfl) (by kernel_rfl) (by kernel_rfl) (by kernel_rfl) (by exact fun _ _ _ h => h) (by first | (refine Or.inl ⟨by rfl, ?_⟩; intro W hW; exact exec_load_bk rowR (.tmp 7) rfl w.heap.size 0 rfl (HXd.out.keep hW HGX.out) [.slice A0 m.op c0, .int .i64 m.ps.length, .int .i64 m.N, .int .i64 m.T] rfl rfl) | exact Or.inr ⟨by rfl, rfl⟩) ?_; try simp only [Act.put, List.setIfInBounds_toArray, List.set_cons_zero, List.set_cons_succ])
      (refine takeE (belowTr wr.heap.size) 1 (by simp only [List.getElem?_toArray, List.getElem?_cons_succ, List.getElem?_cons_zero]; rfl) (by kernel_rfl) (by kernel_rfl) (by kernel_rfl) (by exact fun _ _ _ h => h) (by first | (refine Or.inl ⟨by rfl, ?_⟩; intro W hW; go_simp; try with_reducible rfl) | exact Or.inr ⟨by rfl, rfl⟩) ?_; try simp only [Act.put, List.setIfInBounds_toArray, List.set_cons_zero, List.set_cons_succ])
      (refine takeE (belowTr wr.heap.size) 2 (by simp only [List.getElem?_toArray, List.getElem?_cons_succ, List.getElem?_cons_zero]; rfl) (by kernel_rfl) (by kernel_rfl) (by kernel_rfl) (by exact fun _ _ _ h => h) (by first | (refine Or.inl ⟨by rfl, ?_⟩; intro W hW; go_simp; try with_reducible rfl) | exact Or.inr ⟨by rfl, rfl⟩) ?_; try simp only [Act.put, List.setIfInBounds_toArray, List.set_cons_zero, List.set_cons_succ])
      (refine takeE (belowTr wr.heap.size) 5 (by simp only [List.getElem?_toArray, List.getElem?_cons_succ, List.getElem?_cons_zero]; rfl) (by kernel_rfl) (by kernel_rfl) (by kernel_rfl) (by exact fun _ _ _ h => h) (by first | (refine Or.inl ⟨by rfl, ?_⟩; intro W hW; go_simp; try with_reducible rfl) | exact Or.inr ⟨by rfl, rfl⟩) ?_; try simp only [Act.put, List.setIfInBounds_toArray, List.set_cons_zero, List.set_cons_succ])
      (refine takeE (belowTr wr.heap.size) 6 (by simp only [List.getElem?_toArray, List.getElem?_cons_succ, List.getElem?_cons_zero]; rfl) (by kernel_rfl) (by kernel_rfl) (by kernel_rfl) (by exact fun _ _ _ h => h) (by first | (refine Or.inl ⟨by rfl, ?_⟩; intro W hW; go_simp; try with_reducible rfl) | exact Or.inr ⟨by rfl, rfl⟩) ?_; try simp only [Act.put, List.setIfInBounds_toArray, List.set_cons_zero, List.set_cons_succ])
      (refine takeE (belowTr wr.heap.size) 3 (by simp only [List.getElem?_toArray, List.getElem?_cons_succ, List.getElem?_cons_zero]; rfl) (by kernel_rfl) (by kernel_rfl) (by kernel_rfl) (by exact fun _ _ _ h => h) (by first | (refine Or.inl ⟨by rfl, ?_⟩; intro W hW; go_simp; try with_reducible rfl) | exact Or.inr ⟨by rfl, rfl⟩) ?_; try simp only [Act.put, List.setIfInBounds_toArray, List.set_cons_zero, List.set_cons_succ])
      (refine takeE (belowTr wr.heap.size) 4 (by simp only [List.getElem?_toArray, List.getElem?_cons_succ, List.getElem?_cons_zero]; rfl) (by kernel_rfl) (by kernel_rfl) (by kernel_rfl) (by exact fun _ _ _ h => h) (by first | (refine Or.inl ⟨by rfl, ?_⟩; intro W hW; go_simp; try with_reducible rfl) | exact Or.inr ⟨by rfl, rfl⟩) ?_; try simp only [Act.put, List.setIfInBounds_toArray, List.set_cons_zero, List.set_cons_succ])
      refine wpAnyE_two (i := 7) (j := 14) (by kernel_rfl) (by simp only [List.getElem?_toArray, List.getElem?_cons_succ, List.getElem?_cons_zero]; rfl) (by simp only [List.getElem?_toArray, List.getElem?_cons_succ, List.getElem?_cons_zero]; rfl) (fun K hK => ?_) (fun K hK => ?_)
      ·
        go_simp
        refine (last_any (HEd.out _ hE) k).mono ?_
        rintro e v1 ⟨rfl, rfl⟩
        rw [HEn.out]
        refine hK.out _ _ (Below.refl _ _) ?_
        clear hK K
        try simp only [Act.put, List.setIfInBounds_toArray, List.set_cons_zero, List.set_cons_succ]
        refine wpAnyE_two (i := 8) (j := 14) (by kernel_rfl) (by simp only [List.getElem?_toArray, List.getElem?_cons_succ, List.getElem?_cons_zero]; rfl) (by simp only [List.getElem?_toArray, List.getElem?_cons_succ, List.getElem?_cons_zero]; rfl) (fun K hK => ?_) (fun K hK => ?_)
        ·
          go_simp
          refine (r_add (HQd.out _ hE) (HPd.out _ hE) en HNT.out.2.2.1 (by have := HNT.out.2.2.2; omega) (by have := HNT.out.1; omega) (by have := HNT.out.2.1; omega)).mono ?_
          rintro e v2 ⟨A3, n3, c3, A2, n2', c2', rfl, hq1, hq2, hk1, hk2, hb2⟩
          have hk9 := hb2.mono hE.size
          replace hE := hE.trans hk9
          skip
          refine hK.out _ _ hk9 ?_
          clear hK K
          try simp only [Act.put, List.setIfInBounds_toArray, List.set_cons_zero, List.set_cons_succ]
          (refine takeE (belowTr wr.heap.size) 9 (by simp only [List.getElem?_toArray, List.getElem?_cons_succ, List.getElem?_cons_zero]; rfl) (by kernel_rfl) (by kernel_rfl) (by kernel_rfl) (by exact fun _ _ _ h => h) (by first | (refine Or.inl ⟨by rfl, ?_⟩; intro W hW; go_simp; try with_reducible rfl) | exact Or.inr ⟨by rfl, rfl⟩) ?_; try simp only [Act.put, List.setIfInBounds_toArray, List.set_cons_zero, List.set_cons_succ])
          (refine takeE (belowTr wr.heap.size) 10 (by simp only [List.getElem?_toArray, List.getElem?_cons_succ, List.getElem?_cons_zero]; rfl) (by kernel_rfl) (by kernel_rfl) (by kernel_rfl) (by exact fun _ _ _ h => h) (by first | (refine Or.inl ⟨by rfl, ?_⟩; intro W hW; go_simp; try with_reducible rfl) | exact Or.inr ⟨by rfl, rfl⟩) ?_; try simp only [Act.put, List.setIfInBounds_toArray, List.set_cons_zero, List.set_cons_succ])
          (refine takeE (belowTr wr.heap.size) 11 (by simp only [List.getElem?_toArray, List.getElem?_cons_succ, List.getElem?_cons_zero]; rfl) (by kernel_rfl) (by kernel_rfl) (by kernel_rfl) (by exact fun _ _ _ h => h) (by first | (refine Or.inl ⟨by rfl, ?_⟩; intro W hW; go_simp; try with_reducible rfl) | exact Or.inr ⟨by rfl, rfl⟩) ?_; try simp only [Act.put, List.setIfInBounds_toArray, List.set_cons_zero, List.set_cons_succ])
          (refine takeE (belowTr wr.heap.size) 12 (by simp only [List.getElem?_toArray, List.getElem?_cons_succ, List.getElem?_cons_zero]; rfl) (by kernel_rfl) (by kernel_rfl) (by kernel_rfl) (by exact fun _ _ _ h => h) (by first | (refine Or.inl ⟨by rfl, ?_⟩; intro W hW; go_simp; try with_reducible rfl) | exact Or.inr ⟨by rfl, rfl⟩) ?_; try simp only [Act.put, List.setIfInBounds_toArray, List.set_cons_zero, List.set_cons_succ])
          (refine takeE (belowTr wr.heap.size) 13 (by simp only [List.getElem?_toArray, List.getElem?_cons_succ, List.getElem?_cons_zero]; rfl) (by kernel_rfl) (by kernel_rfl) (by kernel_rfl) (by exact fun _ _ _ h => h) (by first | (refine Or.inl ⟨by rfl, ?_⟩; intro W hW; go_simp; try with_reducible rfl) | exact Or.inr ⟨by rfl, rfl⟩) ?_; try simp only [Act.put, List.setIfInBounds_toArray, List.set_cons_zero, List.set_cons_succ])
          refine wpAnyE_one (i := 14) (by kernel_rfl) (by simp only [List.getElem?_toArray, List.getElem?_cons_succ, List.getElem?_cons_zero]; rfl) (fun K hK => ?_)
          go_simp
          have z10 := Bk.new v2 32 [.slice none 0 0, .int .i64 0, .int .i64 0, .int .i64 0]
          have hga : wr.heap.size ≤ v2.heap.size := hE.size
          have hk8 := (Below.refl wr.heap.size v2).alloc hga (.cells (List.toArray [.slice none 0 0, .int .i64 0, .int .i64 0, .int .i64 0]) 32)
          replace hE := hE.trans hk8
          replace hq1 := hq1.below ((Below.refl _ v2).alloc (Nat.le_refl _) (.cells (List.toArray [.slice none 0 0, .int .i64 0, .int .i64 0, .int .i64 0]) 32))
          replace hq2 := hq2.below ((Below.refl _ v2).alloc (Nat.le_refl _) (.cells (List.toArray [.slice none 0 0, .int .i64 0, .int .i64 0, .int .i64 0]) 32))
          refine hK.out _ _ hk8 ?_
          clear hK K
          try simp only [Act.put, List.setIfInBounds_toArray, List.set_cons_zero, List.set_cons_succ]
          refine wpAnyE_one (i := 15) (by kernel_rfl) (by simp only [List.getElem?_toArray, List.getElem?_cons_succ, List.getElem?_cons_zero]; rfl) (fun K hK => ?_)
          refine opwp_store_bk rowR rfl (.tmp 10) (.tmp 30) rfl v2.heap.size 0 rfl z10 [.slice A3 n3 c3, .int .i64 (m.add b.xs en).ps.length, .int .i64 (m.add b.xs en).N, .int .i64 (m.add b.xs en).T] rfl rfl (by decide) (by simp [Value.oneCell']) ?_
          intro w6 hz6 hw6
          rw [lay_all _ _ (by rfl)] at hz6
          have hk7 := hw6.below hga hE.size
          refine hK.out _ _ hk7 ?_
          clear hK K
          try simp only [Act.put, List.setIfInBounds_toArray, List.set_cons_zero, List.set_cons_succ]
          (refine takeE (belowTr wr.heap.size) 16 (by simp only [List.getElem?_toArray, List.getElem?_cons_succ, List.getElem?_cons_zero]; rfl) (by kernel_rfl) (by kernel_rfl) (by kernel_rfl) (by exact fun _ _ _ h => h) (by first | (refine Or.inl ⟨by rfl, ?_⟩; intro W hW; go_simp; try with_reducible rfl) | exact Or.inr ⟨by rfl, rfl⟩) ?_; try simp only [Act.put, List.setIfInBounds_toArray, List.set_cons_zero, List.set_cons_succ])
          (refine takeE (belowTr wr.heap.size) 17 (by simp only [List.getElem?_toArray, List.getElem?_cons_succ, List.getElem?_cons_zero]; rfl) (by kernel_rfl) (by kernel_rfl) (by kernel_rfl) (by exact fun _ _ _ h => h) (by first | (refine Or.inl ⟨by rfl, ?_⟩; intro W hW; go_simp; try with_reducible rfl) | exact Or.inr ⟨by rfl, rfl⟩) ?_; try simp only [Act.put, List.setIfInBounds_toArray, List.set_cons_zero, List.set_cons_succ])
          (refine takeE (belowTr wr.heap.size) 18 (by simp only [List.getElem?_toArray, List.getElem?_cons_succ, List.getElem?_cons_zero]; rfl) (by kernel_rfl) (by kernel_rfl) (by kernel_rfl) (by exact fun _ _ _ h => h) (by first | (refine Or.inl ⟨by rfl, ?_⟩; intro W hW; go_simp; try with_reducible rfl) | exact Or.inr ⟨by rfl, rfl⟩) ?_; try simp only [Act.put, List.setIfInBounds_toArray, List.set_cons_zero, List.set_cons_succ])
          refine wpAnyE_done (by kernel_rfl) ?_ _
          replace hq1 := hq1.wrT z10 (by decide) hw6
          replace hq2 := hq2.wrT z10 (by decide) hw6
          have hb7 : Below wr.heap.size wr w6 := hE.trans hk7
          have hx6 := HBx.out.below hb7
          have ho6 := HO.out.add (F' := (· = w.heap.size)) (St.ext hb7) (Gr.refl _ _)
          have hwd6 := HB.out.trans (hb7.mono HB.out.size)
          have hk2' : ∀ k, BlkOf A2 k → w.heap.size ≤ k ∧ ¬ k = w.heap.size := fun j hj => ⟨by have := hk2 j hj; have := HBD.out.size; have := HB.out.size; have := hga; omega, fun e => by
            subst e
            exact ((hq2.2 _ hj).ne (u := 32) (by decide)) hx6.tyd⟩
          have hn3 : n3 = (m.add b.xs en).op := hq1.1.1.symm.trans rfl
          subst hn3
          have HAll2 := HAll.out
          have HW6 := Lib.hid (And.intro hz6 (And.intro hx6 (And.intro ho6 (And.intro hwd6 (And.intro hq1 (And.intro hq2 hk2'))))))
          clear q0 hE z10 hw6 hb7 hk7 hk8 hk9 hx6 ho6 hwd6 hq1 hk1 hk2 hk2' hq2
          by_cases hz : m.refuse b.xs = 0
          · rw [allR_on es k m ms b.xs _ hz, HEn.out] at HAll2
            have HN2 := Lib.hid (m.add_N b.xs en k HNT.out.1)
            have HT2 := Lib.hid (m.add_T b.xs en k HNT.out.2.1)
            have HL2 := Lib.hid (m.add_le b.xs en k hz HNT.out.2.2.1 HNT.out.2.2.2)
            have HA3 := Lib.hid HAll2
            have hzb := HW6.out.1
            have hzj := HW6.out.2.1
            rw [hz]
            clear HAll2
            cases hi : m.is b.xs en with
            | false =>
              have HM : Hid (m.outs ms b.xs en = ms) := Lib.hid (by unfold Jm.outs; rw [if_neg (by rw [hi]; simp)])
              clear hi hz
              go_wp2_with (first
                | (with_reducible refine at_load 32 (.tmp 10) (by rfl) ?_
                   refine wpList_load_bk rowR rfl (.tmp 10) rfl v2.heap.size 0 rfl hzb [.slice A3 (m.add b.xs en).op c3, .int .i64 (m.add b.xs en).ps.length, .int .i64 (m.add b.xs en).N, .int .i64 (m.add b.xs en).T] rfl rfl ?_)
                | (with_reducible refine at_store 32 (.tmp 7) (.tmp 39) (by rfl) ?_
                   refine wpList_store_bk rowR rfl (.tmp 7) (.tmp 39) rfl w.heap.size 0 rfl hzj [.slice A3 (m.add b.xs en).op c3, .int .i64 (m.add b.xs en).ps.length, .int .i64 (m.add b.xs en).N, .int .i64 (m.add b.xs en).T] rfl rfl (by show 0 + 4 ≤ 4; omega) (by simp [Value.oneCell']) ?_
                   intro w7 hz7 hw7
                   clear hzb hzj))
              rw [lay_all _ _ (by rfl)] at hz7
              go_roundw
              case rel =>
                refine ⟨k + 1, A1, n2, c2, m.add b.xs en, _, A3, c3, by go_num, by omega, rfl, by omega, hz7, HW6.out.2.2.2.2.1.wrT HW6.out.2.1 (by decide) hw7, HL2.out.1, HL2.out.2, HN2.out, HT2.out, ?_, HA3.out, HW6.out.2.2.2.1.trans (hw7.below (Nat.le_refl _) HW6.out.2.2.2.1.size)⟩
                rw [HM.out]
                exact HW6.out.2.2.1.add (st_wr hw7) (Gr.refl _ _)
              case measure => simp [intOf]; omega
            | true =>
              have HM : Hid (m.outs ms b.xs en = ms ++ [m.told b.xs en]) := Lib.hid (by unfold Jm.outs; rw [if_pos hi])
              have hbytes : (n2 + 1) * 24 ≤ 140737488355328 := by omega
              clear hi hz
              go_wp2_with (first
                | (with_reducible refine at_load 32 (.tmp 10) (by rfl) ?_
                   refine wpList_load_bk rowR rfl (.tmp 10) rfl v2.heap.size 0 rfl hzb [.slice A3 (m.add b.xs en).op c3, .int .i64 (m.add b.xs en).ps.length, .int .i64 (m.add b.xs en).N, .int .i64 (m.add b.xs en).T] rfl rfl ?_)
                | (with_reducible refine at_store 32 (.tmp 7) (.tmp 39) (by rfl) ?_
                   refine wpList_store_bk rowR rfl (.tmp 7) (.tmp 39) rfl w.heap.size 0 rfl hzj [.slice A3 (m.add b.xs en).op c3, .int .i64 (m.add b.xs en).ps.length, .int .i64 (m.add b.xs en).N, .int .i64 (m.add b.xs en).T] rfl rfl (by show 0 + 4 ≤ 4; omega) (by simp [Value.oneCell']) ?_
                   intro w7 hz7 hw7
                   clear hzb hzj
                   rw [lay_all _ _ (by rfl)] at hz7
                   have hq7 := HW6.out.2.2.2.2.2.1.wrT HW6.out.2.1 (by decide) hw7
                   obtain ⟨bs, hl, hbs, hbb⟩ := HW6.out.2.2.1.add (st_wr hw7) (Gr.refl _ _)
                   have hsz7 := HW6.out.2.2.2.1.trans (hw7.below (Nat.le_refl _) HW6.out.2.2.2.1.size)
                   have hla := (hl.alloc (.cells #[.slice A2 n2' c2'] 30)).tight
                   have hu := RdV.one w7 30 (.slice A2 n2' c2') rfl
                   have HAp := Lib.hid (fun (v : Value) (w9 : World) => OutR.app (w := w) (v := v) (w2 := w9) (b := ⟨A2, n2', c2', m.told b.xs en⟩) hl hbs hbb (fun j hj => by subst hj; exact hz7.lt) hsz7.size hq7 HW6.out.2.2.2.2.2.2 ((Below.refl w7.heap.size w7).alloc (Nat.le_refl _) (.cells #[.slice A2 n2' c2'] 30)))
                   have HSep := Lib.hid hl.sepF
                   have HLb := Lib.hid (fun ad he => (hl.blk ad he).1.1)
                   have HW7 := Lib.hid (And.intro hz7 (And.intro hw7 (And.intro hsz7 (fun j hj => hl.tyd j hj))))
                   clear hz7 hw7 hq7 hl hbs hbb hsz7)
                | (refine wpList_build_one (x := .slice A2 n2' c2') eltB rfl (.tmp 42) rfl rfl rfl ?_)
                | (at_builtin
                   refine wpList_append_lst eltB rfl (.tmp 41) (.tmp 43) rfl rfl hla rfl hu hbytes ?_
                   rintro v w9 hap
                   obtain ⟨A', n', c', e5, ho5, hs5⟩ := HAp.out v w9 hap
                   subst e5
                   have hn5 : n' = n2 + 1 := by
                     obtain ⟨⟨A8, n8, c8, e8, hl8⟩, _⟩ := hap
                     injection e8 with f1 f2 f3
                     have h8 := hl8.1
                     have h9 := hla.1
                     simp at h8 h9
                     omega
                   subst hn5
                   have HO5 := Lib.hid ho5
                   have HS5 := Lib.hid hs5
                   clear hap ho5 hs5))
              go_roundw
              case rel =>
                refine ⟨k + 1, A', n2 + 1, c', m.add b.xs en, _, A3, c3, by go_num, by omega, rfl, by omega, HW7.out.1.st HS5.out (HSep.out _ rfl), ?_, HL2.out.1, HL2.out.2, HN2.out, HT2.out, by rw [HM.out]; exact HO5.out, HA3.out, HW7.out.2.2.1.trans (HS5.out.below HW7.out.2.2.1.size ?_)⟩
                · exact (HW6.out.2.2.2.2.1.wrT HW6.out.2.1 (by decide) HW7.out.2.1).stT HS5.out fun j hj => (HW7.out.2.2.2 j hj).ne (by decide)
                · rintro j ⟨ad, he, rfl⟩
                  exact HLb.out ad he
              case measure => simp [intOf]; omega
          · rw [allR_no es k m ms b.xs _ hz] at HAll2
            have hz' : (m.refuse b.xs != 0) = true := by simpa using hz
            have HP : Hid (AllP w R (.returned (.tuple #[.slice A1 n2 c2, .int .i64 k, .int .i64 (m.refuse b.xs)])) w6) := Lib.hid (by
              rw [← HAll2]
              exact ⟨A1, n2, c2, rfl, HW6.out.2.2.1.sl, HW6.out.2.2.2.1⟩)
            clear HAll2 hz
            go_wp2
            go_ret3
            exact HP.out
        ·
          go_simp
          have z10 := Bk.new wd 32 [.slice none 0 0, .int .i64 0, .int .i64 0, .int .i64 0]
          have hga : wr.heap.size ≤ wd.heap.size := hE.size
          have hk8 := (Below.refl wr.heap.size wd).alloc hga (.cells (List.toArray [.slice none 0 0, .int .i64 0, .int .i64 0, .int .i64 0]) 32)
          replace hE := hE.trans hk8
          refine hK.out _ _ hk8 ?_
          clear hK K
          try simp only [Act.put, List.setIfInBounds_toArray, List.set_cons_zero, List.set_cons_succ]
          refine wpAnyE_one (i := 8) (by kernel_rfl) (by simp only [List.getElem?_toArray, List.getElem?_cons_succ, List.getElem?_cons_zero]; rfl) (fun K hK => ?_)
          go_simp
          refine (r_add (HQd.out _ hE) (HPd.out _ hE) en HNT.out.2.2.1 (by have := HNT.out.2.2.2; omega) (by have := HNT.out.1; omega) (by have := HNT.out.2.1; omega)).mono ?_
          rintro e v2 ⟨A3, n3, c3, A2, n2', c2', rfl, hq1, hq2, hk1, hk2, hb2⟩
          have hk9 := hb2.mono hE.size
          replace hE := hE.trans hk9
          replace z10 := z10.below hb2
          refine hK.out _ _ hk9 ?_
          clear hK K
          try simp only [Act.put, List.setIfInBounds_toArray, List.set_cons_zero, List.set_cons_succ]
          (refine takeE (belowTr wr.heap.size) 9 (by simp only [List.getElem?_toArray, List.getElem?_cons_succ, List.getElem?_cons_zero]; rfl) (by kernel_rfl) (by kernel_rfl) (by kernel_rfl) (by exact fun _ _ _ h => h) (by first | (refine Or.inl ⟨by rfl, ?_⟩; intro W hW; go_simp; try with_reducible rfl) | exact Or.inr ⟨by rfl, rfl⟩) ?_; try simp only [Act.put, List.setIfInBounds_toArray, List.set_cons_zero, List.set_cons_succ])
          (refine takeE (belowTr wr.heap.size) 10 (by simp only [List.getElem?_toArray, List.getElem?_cons_succ, List.getElem?_cons_zero]; rfl) (by kernel_rfl) (by kernel_rfl) (by kernel_rfl) (by exact fun _ _ _ h => h) (by first | (refine Or.inl ⟨by rfl, ?_⟩; intro W hW; go_simp; try with_reducible rfl) | exact Or.inr ⟨by rfl, rfl⟩) ?_; try simp only [Act.put, List.setIfInBounds_toArray, List.set_cons_zero, List.set_cons_succ])
          (refine takeE (belowTr wr.heap.size) 11 (by simp only [List.getElem?_toArray, List.getElem?_cons_succ, List.getElem?_cons_zero]; rfl) (by kernel_rfl) (by kernel_rfl) (by kernel_rfl) (by exact fun _ _ _ h => h) (by first | (refine Or.inl ⟨by rfl, ?_⟩; intro W hW; go_simp; try with_reducible rfl) | exact Or.inr ⟨by rfl, rfl⟩) ?_; try simp only [Act.put, List.setIfInBounds_toArray, List.set_cons_zero, List.set_cons_succ])
          (refine takeE (belowTr wr.heap.size) 12 (by simp only [List.getElem?_toArray, List.getElem?_cons_succ, List.getElem?_cons_zero]; rfl) (by kernel_rfl) (by kernel_rfl) (by kernel_rfl) (by exact fun _ _ _ h => h) (by first | (refine Or.inl ⟨by rfl, ?_⟩; intro W hW; go_simp; try with_reducible rfl) | exact Or.inr ⟨by rfl, rfl⟩) ?_; try simp only [Act.put, List.setIfInBounds_toArray, List.set_cons_zero, List.set_cons_succ])
          (refine takeE (belowTr wr.heap.size) 13 (by simp only [List.getElem?_toArray, List.getElem?_cons_succ, List.getElem?_cons_zero]; rfl) (by kernel_rfl) (by kernel_rfl) (by kernel_rfl) (by exact fun _ _ _ h => h) (by first | (refine Or.inl ⟨by rfl, ?_⟩; intro W hW; go_simp; try with_reducible rfl) | exact Or.inr ⟨by rfl, rfl⟩) ?_; try simp only [Act.put, List.setIfInBounds_toArray, List.set_cons_zero, List.set_cons_succ])
          refine wpAnyE_one (i := 15) (by kernel_rfl) (by simp only [List.getElem?_toArray, List.getElem?_cons_succ, List.getElem?_cons_zero]; rfl) (fun K hK => ?_)
          refine opwp_store_bk rowR rfl (.tmp 10) (.tmp 30) rfl wd.heap.size 0 rfl z10 [.slice A3 n3 c3, .int .i64 (m.add b.xs en).ps.length, .int .i64 (m.add b.xs en).N, .int .i64 (m.add b.xs en).T] rfl rfl (by decide) (by simp [Value.oneCell']) ?_
          intro w6 hz6 hw6
          rw [lay_all _ _ (by rfl)] at hz6
          have hk7 := hw6.below hga hE.size
          refine hK.out _ _ hk7 ?_
          clear hK K
          try simp only [Act.put, List.setIfInBounds_toArray, List.set_cons_zero, List.set_cons_succ]
          (refine takeE (belowTr wr.heap.size) 16 (by simp only [List.getElem?_toArray, List.getElem?_cons_succ, List.getElem?_cons_zero]; rfl) (by kernel_rfl) (by kernel_rfl) (by kernel_rfl) (by exact fun _ _ _ h => h) (by first | (refine Or.inl ⟨by rfl, ?_⟩; intro W hW; go_simp; try with_reducible rfl) | exact Or.inr ⟨by rfl, rfl⟩) ?_; try simp only [Act.put, List.setIfInBounds_toArray, List.set_cons_zero, List.set_cons_succ])
          (refine takeE (belowTr wr.heap.size) 17 (by simp only [List.getElem?_toArray, List.getElem?_cons_succ, List.getElem?_cons_zero]; rfl) (by kernel_rfl) (by kernel_rfl) (by kernel_rfl) (by exact fun _ _ _ h => h) (by first | (refine Or.inl ⟨by rfl, ?_⟩; intro W hW; go_simp; try with_reducible rfl) | exact Or.inr ⟨by rfl, rfl⟩) ?_; try simp only [Act.put, List.setIfInBounds_toArray, List.set_cons_zero, List.set_cons_succ])
          (refine takeE (belowTr wr.heap.size) 18 (by simp only [List.getElem?_toArray, List.getElem?_cons_succ, List.getElem?_cons_zero]; rfl) (by kernel_rfl) (by kernel_rfl) (by kernel_rfl) (by exact fun _ _ _ h => h) (by first | (refine Or.inl ⟨by rfl, ?_⟩; intro W hW; go_simp; try with_reducible rfl) | exact Or.inr ⟨by rfl, rfl⟩) ?_; try simp only [Act.put, List.setIfInBounds_toArray, List.set_cons_zero, List.set_cons_succ])
          refine wpAnyE_done (by kernel_rfl) ?_ _
          replace hq1 := hq1.wrT z10 (by decide) hw6
          replace hq2 := hq2.wrT z10 (by decide) hw6
          have hb7 : Below wr.heap.size wr w6 := hE.trans hk7
          have hx6 := HBx.out.below hb7
          have ho6 := HO.out.add (F' := (· = w.heap.size)) (St.ext hb7) (Gr.refl _ _)
          have hwd6 := HB.out.trans (hb7.mono HB.out.size)
          have hk2' : ∀ k, BlkOf A2 k → w.heap.size ≤ k ∧ ¬ k = w.heap.size := fun j hj => ⟨by have := hk2 j hj; have := HBD.out.size; have := HB.out.size; have := hga; simp at *; omega, fun e => by
            subst e
            exact ((hq2.2 _ hj).ne (u := 32) (by decide)) hx6.tyd⟩
          have hn3 : n3 = (m.add b.xs en).op := hq1.1.1.symm.trans rfl
          subst hn3
          have HAll2 := HAll.out
          have HW6 := Lib.hid (And.intro hz6 (And.intro hx6 (And.intro ho6 (And.intro hwd6 (And.intro hq1 (And.intro hq2 hk2'))))))
          clear q0 hE z10 hw6 hb7 hk7 hk8 hk9 hx6 ho6 hwd6 hq1 hk1 hk2 hk2' hq2
          by_cases hz : m.refuse b.xs = 0
          · rw [allR_on es k m ms b.xs _ hz, HEn.out] at HAll2
            have HN2 := Lib.hid (m.add_N b.xs en k HNT.out.1)
            have HT2 := Lib.hid (m.add_T b.xs en k HNT.out.2.1)
            have HL2 := Lib.hid (m.add_le b.xs en k hz HNT.out.2.2.1 HNT.out.2.2.2)
            have HA3 := Lib.hid HAll2
            have hzb := HW6.out.1
            have hzj := HW6.out.2.1
            rw [hz]
            clear HAll2
            cases hi : m.is b.xs en with
            | false =>
              have HM : Hid (m.outs ms b.xs en = ms) := Lib.hid (by unfold Jm.outs; rw [if_neg (by rw [hi]; simp)])
              clear hi hz
              go_wp2_with (first
                | (with_reducible refine at_load 32 (.tmp 10) (by rfl) ?_
                   refine wpList_load_bk rowR rfl (.tmp 10) rfl wd.heap.size 0 rfl hzb [.slice A3 (m.add b.xs en).op c3, .int .i64 (m.add b.xs en).ps.length, .int .i64 (m.add b.xs en).N, .int .i64 (m.add b.xs en).T] rfl rfl ?_)
                | (with_reducible refine at_store 32 (.tmp 7) (.tmp 39) (by rfl) ?_
                   refine wpList_store_bk rowR rfl (.tmp 7) (.tmp 39) rfl w.heap.size 0 rfl hzj [.slice A3 (m.add b.xs en).op c3, .int .i64 (m.add b.xs en).ps.length, .int .i64 (m.add b.xs en).N, .int .i64 (m.add b.xs en).T] rfl rfl (by show 0 + 4 ≤ 4; omega) (by simp [Value.oneCell']) ?_
                   intro w7 hz7 hw7
                   clear hzb hzj))
              rw [lay_all _ _ (by rfl)] at hz7
              go_roundw
              case rel =>
                refine ⟨k + 1, A1, n2, c2, m.add b.xs en, _, A3, c3, by go_num, by omega, rfl, by omega, hz7, HW6.out.2.2.2.2.1.wrT HW6.out.2.1 (by decide) hw7, HL2.out.1, HL2.out.2, HN2.out, HT2.out, ?_, HA3.out, HW6.out.2.2.2.1.trans (hw7.below (Nat.le_refl _) HW6.out.2.2.2.1.size)⟩
                rw [HM.out]
                exact HW6.out.2.2.1.add (st_wr hw7) (Gr.refl _ _)
              case measure => simp [intOf]; omega
            | true =>
              have HM : Hid (m.outs ms b.xs en = ms ++ [m.told b.xs en]) := Lib.hid (by unfold Jm.outs; rw [if_pos hi])
              have hbytes : (n2 + 1) * 24 ≤ 140737488355328 := by omega
              clear hi hz
              go_wp2_with (first
                | (with_reducible refine at_load 32 (.tmp 10) (by rfl) ?_
                   refine wpList_load_bk rowR rfl (.tmp 10) rfl wd.heap.size 0 rfl hzb [.slice A3 (m.add b.xs en).op c3, .int .i64 (m.add b.xs en).ps.length, .int .i64 (m.add b.xs en).N, .int .i64 (m.add b.xs en).T] rfl rfl ?_)
                | (with_reducible refine at_store 32 (.tmp 7) (.tmp 39) (by rfl) ?_
                   refine wpList_store_bk rowR rfl (.tmp 7) (.tmp 39) rfl w.heap.size 0 rfl hzj [.slice A3 (m.add b.xs en).op c3, .int .i64 (m.add b.xs en).ps.length, .int .i64 (m.add b.xs en).N, .int .i64 (m.add b.xs en).T] rfl rfl (by show 0 + 4 ≤ 4; omega) (by simp [Value.oneCell']) ?_
                   intro w7 hz7 hw7
                   clear hzb hzj
                   rw [lay_all _ _ (by rfl)] at hz7
                   have hq7 := HW6.out.2.2.2.2.2.1.wrT HW6.out.2.1 (by decide) hw7
                   obtain ⟨bs, hl, hbs, hbb⟩ := HW6.out.2.2.1.add (st_wr hw7) (Gr.refl _ _)
                   have hsz7 := HW6.out.2.2.2.1.trans (hw7.below (Nat.le_refl _) HW6.out.2.2.2.1.size)
                   have hla := (hl.alloc (.cells #[.slice A2 n2' c2'] 30)).tight
                   have hu := RdV.one w7 30 (.slice A2 n2' c2') rfl
                   have HAp := Lib.hid (fun (v : Value) (w9 : World) => OutR.app (w := w) (v := v) (w2 := w9) (b := ⟨A2, n2', c2', m.told b.xs en⟩) hl hbs hbb (fun j hj => by subst hj; exact hz7.lt) hsz7.size hq7 HW6.out.2.2.2.2.2.2 ((Below.refl w7.heap.size w7).alloc (Nat.le_refl _) (.cells #[.slice A2 n2' c2'] 30)))
                   have HSep := Lib.hid hl.sepF
                   have HLb := Lib.hid (fun ad he => (hl.blk ad he).1.1)
                   have HW7 := Lib.hid (And.intro hz7 (And.intro hw7 (And.intro hsz7 (fun j hj => hl.tyd j hj))))
                   clear hz7 hw7 hq7 hl hbs hbb hsz7)
                | (refine wpList_build_one (x := .slice A2 n2' c2') eltB rfl (.tmp 42) rfl rfl rfl ?_)
                | (at_builtin
                   refine wpList_append_lst eltB rfl (.tmp 41) (.tmp 43) rfl rfl hla rfl hu hbytes ?_
                   rintro v w9 hap
                   obtain ⟨A', n', c', e5, ho5, hs5⟩ := HAp.out v w9 hap
                   subst e5
                   have hn5 : n' = n2 + 1 := by
                     obtain ⟨⟨A8, n8, c8, e8, hl8⟩, _⟩ := hap
                     injection e8 with f1 f2 f3
                     have h8 := hl8.1
                     have h9 := hla.1
                     simp at h8 h9
                     omega
                   subst hn5
                   have HO5 := Lib.hid ho5
                   have HS5 := Lib.hid hs5
                   clear hap ho5 hs5))
              go_roundw
              case rel =>
                refine ⟨k + 1, A', n2 + 1, c', m.add b.xs en, _, A3, c3, by go_num, by omega, rfl, by omega, HW7.out.1.st HS5.out (HSep.out _ rfl), ?_, HL2.out.1, HL2.out.2, HN2.out, HT2.out, by rw [HM.out]; exact HO5.out, HA3.out, HW7.out.2.2.1.trans (HS5.out.below HW7.out.2.2.1.size ?_)⟩
                · exact (HW6.out.2.2.2.2.1.wrT HW6.out.2.1 (by decide) HW7.out.2.1).stT HS5.out fun j hj => (HW7.out.2.2.2 j hj).ne (by decide)
                · rintro j ⟨ad, he, rfl⟩
                  exact HLb.out ad he
              case measure => simp [intOf]; omega
          · rw [allR_no es k m ms b.xs _ hz] at HAll2
            have hz' : (m.refuse b.xs != 0) = true := by simpa using hz
            have HP : Hid (AllP w R (.returned (.tuple #[.slice A1 n2 c2, .int .i64 k, .int .i64 (m.refuse b.xs)])) w6) := Lib.hid (by
              rw [← HAll2]
              exact ⟨A1, n2, c2, rfl, HW6.out.2.2.1.sl, HW6.out.2.2.2.1⟩)
            clear HAll2 hz
            go_wp2
            go_ret3
            exact HP.out
      ·
        go_simp
        have z10 := Bk.new wd 32 [.slice none 0 0, .int .i64 0, .int .i64 0, .int .i64 0]
        have hga : wr.heap.size ≤ wd.heap.size := hE.size
        have hk8 := (Below.refl wr.heap.size wd).alloc hga (.cells (List.toArray [.slice none 0 0, .int .i64 0, .int .i64 0, .int .i64 0]) 32)
        replace hE := hE.trans hk8
        refine hK.out _ _ hk8 ?_
        clear hK K
        try simp only [Act.put, List.setIfInBounds_toArray, List.set_cons_zero, List.set_cons_succ]
        refine wpAnyE_one (i := 7) (by kernel_rfl) (by simp only [List.getElem?_toArray, List.getElem?_cons_succ, List.getElem?_cons_zero]; rfl) (fun K hK => ?_)
        go_simp
        refine (last_any (HEd.out _ hE) k).mono ?_
        rintro e v1 ⟨rfl, rfl⟩
        rw [HEn.out]
        refine hK.out _ _ (Below.refl _ _) ?_
        clear hK K
        try simp only [Act.put, List.setIfInBounds_toArray, List.set_cons_zero, List.set_cons_succ]
        refine wpAnyE_one (i := 8) (by kernel_rfl) (by simp only [List.getElem?_toArray, List.getElem?_cons_succ, List.getElem?_cons_zero]; rfl) (fun K hK => ?_)
        go_simp
        refine (r_add (HQd.out _ hE) (HPd.out _ hE) en HNT.out.2.2.1 (by have := HNT.out.2.2.2; omega) (by have := HNT.out.1; omega) (by have := HNT.out.2.1; omega)).mono ?_
        rintro e v2 ⟨A3, n3, c3, A2, n2', c2', rfl, hq1, hq2, hk1, hk2, hb2⟩
        have hk9 := hb2.mono hE.size
        replace hE := hE.trans hk9
        replace z10 := z10.below hb2
        refine hK.out _ _ hk9 ?_
        clear hK K
        try simp only [Act.put, List.setIfInBounds_toArray, List.set_cons_zero, List.set_cons_succ]
        (refine takeE (belowTr wr.heap.size) 9 (by simp only [List.getElem?_toArray, List.getElem?_cons_succ, List.getElem?_cons_zero]; rfl) (by kernel_rfl) (by kernel_rfl) (by kernel_rfl) (by exact fun _ _ _ h => h) (by first | (refine Or.inl ⟨by rfl, ?_⟩; intro W hW; go_simp; try with_reducible rfl) | exact Or.inr ⟨by rfl, rfl⟩) ?_; try simp only [Act.put, List.setIfInBounds_toArray, List.set_cons_zero, List.set_cons_succ])
        (refine takeE (belowTr wr.heap.size) 10 (by simp only [List.getElem?_toArray, List.getElem?_cons_succ, List.getElem?_cons_zero]; rfl) (by kernel_rfl) (by kernel_rfl) (by kernel_rfl) (by exact fun _ _ _ h => h) (by first | (refine Or.inl ⟨by rfl, ?_⟩; intro W hW; go_simp; try with_reducible rfl) | exact Or.inr ⟨by rfl, rfl⟩) ?_; try simp only [Act.put, List.setIfInBounds_toArray, List.set_cons_zero, List.set_cons_succ])
        (refine takeE (belowTr wr.heap.size) 11 (by simp only [List.getElem?_toArray, List.getElem?_cons_succ, List.getElem?_cons_zero]; rfl) (by kernel_rfl) (by kernel_rfl) (by kernel_rfl) (by exact fun _ _ _ h => h) (by first | (refine Or.inl ⟨by rfl, ?_⟩; intro W hW; go_simp; try with_reducible rfl) | exact Or.inr ⟨by rfl, rfl⟩) ?_; try simp only [Act.put, List.setIfInBounds_toArray, List.set_cons_zero, List.set_cons_succ])
        (refine takeE (belowTr wr.heap.size) 12 (by simp only [List.getElem?_toArray, List.getElem?_cons_succ, List.getElem?_cons_zero]; rfl) (by kernel_rfl) (by kernel_rfl) (by kernel_rfl) (by exact fun _ _ _ h => h) (by first | (refine Or.inl ⟨by rfl, ?_⟩; intro W hW; go_simp; try with_reducible rfl) | exact Or.inr ⟨by rfl, rfl⟩) ?_; try simp only [Act.put, List.setIfInBounds_toArray, List.set_cons_zero, List.set_cons_succ])
        (refine takeE (belowTr wr.heap.size) 13 (by simp only [List.getElem?_toArray, List.getElem?_cons_succ, List.getElem?_cons_zero]; rfl) (by kernel_rfl) (by kernel_rfl) (by kernel_rfl) (by exact fun _ _ _ h => h) (by first | (refine Or.inl ⟨by rfl, ?_⟩; intro W hW; go_simp; try with_reducible rfl) | exact Or.inr ⟨by rfl, rfl⟩) ?_; try simp only [Act.put, List.setIfInBounds_toArray, List.set_cons_zero, List.set_cons_succ])
        refine wpAnyE_one (i := 15) (by kernel_rfl) (by simp only [List.getElem?_toArray, List.getElem?_cons_succ, List.getElem?_cons_zero]; rfl) (fun K hK => ?_)
        refine opwp_store_bk rowR rfl (.tmp 10) (.tmp 30) rfl wd.heap.size 0 rfl z10 [.slice A3 n3 c3, .int .i64 (m.add b.xs en).ps.length, .int .i64 (m.add b.xs en).N, .int .i64 (m.add b.xs en).T] rfl rfl (by decide) (by simp [Value.oneCell']) ?_
        intro w6 hz6 hw6
        rw [lay_all _ _ (by rfl)] at hz6
        have hk7 := hw6.below hga hE.size
        refine hK.out _ _ hk7 ?_
        clear hK K
        try simp only [Act.put, List.setIfInBounds_toArray, List.set_cons_zero, List.set_cons_succ]
        (refine takeE (belowTr wr.heap.size) 16 (by simp only [List.getElem?_toArray, List.getElem?_cons_succ, List.getElem?_cons_zero]; rfl) (by kernel_rfl) (by kernel_rfl) (by kernel_rfl) (by exact fun _ _ _ h => h) (by first | (refine Or.inl ⟨by rfl, ?_⟩; intro W hW; go_simp; try with_reducible rfl) | exact Or.inr ⟨by rfl, rfl⟩) ?_; try simp only [Act.put, List.setIfInBounds_toArray, List.set_cons_zero, List.set_cons_succ])
        (refine takeE (belowTr wr.heap.size) 17 (by simp only [List.getElem?_toArray, List.getElem?_cons_succ, List.getElem?_cons_zero]; rfl) (by kernel_rfl) (by kernel_rfl) (by kernel_rfl) (by exact fun _ _ _ h => h) (by first | (refine Or.inl ⟨by rfl, ?_⟩; intro W hW; go_simp; try with_reducible rfl) | exact Or.inr ⟨by rfl, rfl⟩) ?_; try simp only [Act.put, List.setIfInBounds_toArray, List.set_cons_zero, List.set_cons_succ])
        (refine takeE (belowTr wr.heap.size) 18 (by simp only [List.getElem?_toArray, List.getElem?_cons_succ, List.getElem?_cons_zero]; rfl) (by kernel_rfl) (by kernel_rfl) (by kernel_rfl) (by exact fun _ _ _ h => h) (by first | (refine Or.inl ⟨by rfl, ?_⟩; intro W hW; go_simp; try with_reducible rfl) | exact Or.inr ⟨by rfl, rfl⟩) ?_; try simp only [Act.put, List.setIfInBounds_toArray, List.set_cons_zero, List.set_cons_succ])
        refine wpAnyE_done (by kernel_rfl) ?_ _
        replace hq1 := hq1.wrT z10 (by decide) hw6
        replace hq2 := hq2.wrT z10 (by decide) hw6
        have hb7 : Below wr.heap.size wr w6 := hE.trans hk7
        have hx6 := HBx.out.below hb7
        have ho6 := HO.out.add (F' := (· = w.heap.size)) (St.ext hb7) (Gr.refl _ _)
        have hwd6 := HB.out.trans (hb7.mono HB.out.size)
        have hk2' : ∀ k, BlkOf A2 k → w.heap.size ≤ k ∧ ¬ k = w.heap.size := fun j hj => ⟨by have := hk2 j hj; have := HBD.out.size; have := HB.out.size; have := hga; simp at *; omega, fun e => by
          subst e
          exact ((hq2.2 _ hj).ne (u := 32) (by decide)) hx6.tyd⟩
        have hn3 : n3 = (m.add b.xs en).op := hq1.1.1.symm.trans rfl
        subst hn3
        have HAll2 := HAll.out
        have HW6 := Lib.hid (And.intro hz6 (And.intro hx6 (And.intro ho6 (And.intro hwd6 (And.intro hq1 (And.intro hq2 hk2'))))))
        clear q0 hE z10 hw6 hb7 hk7 hk8 hk9 hx6 ho6 hwd6 hq1 hk1 hk2 hk2' hq2
        by_cases hz : m.refuse b.xs = 0
        · rw [allR_on es k m ms b.xs _ hz, HEn.out] at HAll2
          have HN2 := Lib.hid (m.add_N b.xs en k HNT.out.1)
          have HT2 := Lib.hid (m.add_T b.xs en k HNT.out.2.1)
          have HL2 := Lib.hid (m.add_le b.xs en k hz HNT.out.2.2.1 HNT.out.2.2.2)
          have HA3 := Lib.hid HAll2
          have hzb := HW6.out.1
          have hzj := HW6.out.2.1
          rw [hz]
          clear HAll2
          cases hi : m.is b.xs en with
          | false =>
            have HM : Hid (m.outs ms b.xs en = ms) := Lib.hid (by unfold Jm.outs; rw [if_neg (by rw [hi]; simp)])
            clear hi hz
            go_wp2_with (first
              | (with_reducible refine at_load 32 (.tmp 10) (by rfl) ?_
                 refine wpList_load_bk rowR rfl (.tmp 10) rfl wd.heap.size 0 rfl hzb [.slice A3 (m.add b.xs en).op c3, .int .i64 (m.add b.xs en).ps.length, .int .i64 (m.add b.xs en).N, .int .i64 (m.add b.xs en).T] rfl rfl ?_)
              | (with_reducible refine at_store 32 (.tmp 7) (.tmp 39) (by rfl) ?_
                 refine wpList_store_bk rowR rfl (.tmp 7) (.tmp 39) rfl w.heap.size 0 rfl hzj [.slice A3 (m.add b.xs en).op c3, .int .i64 (m.add b.xs en).ps.length, .int .i64 (m.add b.xs en).N, .int .i64 (m.add b.xs en).T] rfl rfl (by show 0 + 4 ≤ 4; omega) (by simp [Value.oneCell']) ?_
                 intro w7 hz7 hw7
                 clear hzb hzj))
            rw [lay_all _ _ (by rfl)] at hz7
            go_roundw
            case rel =>
              refine ⟨k + 1, A1, n2, c2, m.add b.xs en, _, A3, c3, by go_num, by omega, rfl, by omega, hz7, HW6.out.2.2.2.2.1.wrT HW6.out.2.1 (by decide) hw7, HL2.out.1, HL2.out.2, HN2.out, HT2.out, ?_, HA3.out, HW6.out.2.2.2.1.trans (hw7.below (Nat.le_refl _) HW6.out.2.2.2.1.size)⟩
              rw [HM.out]
              exact HW6.out.2.2.1.add (st_wr hw7) (Gr.refl _ _)
            case measure => simp [intOf]; omega
          | true =>
            have HM : Hid (m.outs ms b.xs en = ms ++ [m.told b.xs en]) := Lib.hid (by unfold Jm.outs; rw [if_pos hi])
            have hbytes : (n2 + 1) * 24 ≤ 140737488355328 := by omega
            clear hi hz
            go_wp2_with (first
              | (with_reducible refine at_load 32 (.tmp 10) (by rfl) ?_
                 refine wpList_load_bk rowR rfl (.tmp 10) rfl wd.heap.size 0 rfl hzb [.slice A3 (m.add b.xs en).op c3, .int .i64 (m.add b.xs en).ps.length, .int .i64 (m.add b.xs en).N, .int .i64 (m.add b.xs en).T] rfl rfl ?_)
              | (with_reducible refine at_store 32 (.tmp 7) (.tmp 39) (by rfl) ?_
                 refine wpList_store_bk rowR rfl (.tmp 7) (.tmp 39) rfl w.heap.size 0 rfl hzj [.slice A3 (m.add b.xs en).op c3, .int .i64 (m.add b.xs en).ps.length, .int .i64 (m.add b.xs en).N, .int .i64 (m.add b.xs en).T] rfl rfl (by show 0 + 4 ≤ 4; omega) (by simp [Value.oneCell']) ?_
                 intro w7 hz7 hw7
                 clear hzb hzj
                 rw [lay_all _ _ (by rfl)] at hz7
                 have hq7 := HW6.out.2.2.2.2.2.1.wrT HW6.out.2.1 (by decide) hw7
                 obtain ⟨bs, hl, hbs, hbb⟩ := HW6.out.2.2.1.add (st_wr hw7) (Gr.refl _ _)
                 have hsz7 := HW6.out.2.2.2.1.trans (hw7.below (Nat.le_refl _) HW6.out.2.2.2.1.size)
                 have hla := (hl.alloc (.cells #[.slice A2 n2' c2'] 30)).tight
                 have hu := RdV.one w7 30 (.slice A2 n2' c2') rfl
                 have HAp := Lib.hid (fun (v : Value) (w9 : World) => OutR.app (w := w) (v := v) (w2 := w9) (b := ⟨A2, n2', c2', m.told b.xs en⟩) hl hbs hbb (fun j hj => by subst hj; exact hz7.lt) hsz7.size hq7 HW6.out.2.2.2.2.2.2 ((Below.refl w7.heap.size w7).alloc (Nat.le_refl _) (.cells #[.slice A2 n2' c2'] 30)))
                 have HSep := Lib.hid hl.sepF
                 have HLb := Lib.hid (fun ad he => (hl.blk ad he).1.1)
                 have HW7 := Lib.hid (And.intro hz7 (And.intro hw7 (And.intro hsz7 (fun j hj => hl.tyd j hj))))
                 clear hz7 hw7 hq7 hl hbs hbb hsz7)
              | (refine wpList_build_one (x := .slice A2 n2' c2') eltB rfl (.tmp 42) rfl rfl rfl ?_)
              | (at_builtin
                 refine wpList_append_lst eltB rfl (.tmp 41) (.tmp 43) rfl rfl hla rfl hu hbytes ?_
                 rintro v w9 hap
                 obtain ⟨A', n', c', e5, ho5, hs5⟩ := HAp.out v w9 hap
                 subst e5
                 have hn5 : n' = n2 + 1 := by
                   obtain ⟨⟨A8, n8, c8, e8, hl8⟩, _⟩ := hap
                   injection e8 with f1 f2 f3
                   have h8 := hl8.1
                   have h9 := hla.1
                   simp at h8 h9
                   omega
                 subst hn5
                 have HO5 := Lib.hid ho5
                 have HS5 := Lib.hid hs5
                 clear hap ho5 hs5))
            go_roundw
            case rel =>
              refine ⟨k + 1, A', n2 + 1, c', m.add b.xs en, _, A3, c3, by go_num, by omega, rfl, by omega, HW7.out.1.st HS5.out (HSep.out _ rfl), ?_, HL2.out.1, HL2.out.2, HN2.out, HT2.out, by rw [HM.out]; exact HO5.out, HA3.out, HW7.out.2.2.1.trans (HS5.out.below HW7.out.2.2.1.size ?_)⟩
              · exact (HW6.out.2.2.2.2.1.wrT HW6.out.2.1 (by decide) HW7.out.2.1).stT HS5.out fun j hj => (HW7.out.2.2.2 j hj).ne (by decide)
              · rintro j ⟨ad, he, rfl⟩
                exact HLb.out ad he
            case measure => simp [intOf]; omega
        · rw [allR_no es k m ms b.xs _ hz] at HAll2
          have hz' : (m.refuse b.xs != 0) = true := by simpa using hz
          have HP : Hid (AllP w R (.returned (.tuple #[.slice A1 n2 c2, .int .i64 k, .int .i64 (m.refuse b.xs)])) w6) := Lib.hid (by
            rw [← HAll2]
            exact ⟨A1, n2, c2, rfl, HW6.out.2.2.1.sl, HW6.out.2.2.2.1⟩)
          clear HAll2 hz
          go_wp2
          go_ret3
          exact HP.out
    · obtain rfl : k = n := by omega
      rw [List.drop_of_length_le (by rw [HL.out]; exact Nat.le_refl _), allR_nil] at hall
      have HP : Hid (AllP w R (.returned (.tuple #[.slice A1 n2 c2, .int .i64 k, .int .i64 0])) wr) := Lib.hid (by
        rw [← hall]
        exact ⟨A1, n2, c2, rfl, ho.sl, hb⟩)
      clear hbx hq hle hpl hN hT ho hall hb
      go_wp2
      go_ret3
      exact HP.out
end Go.Proofs.Ytmmjhijgedboiaa
