/- The law of the reader: the walk. -/
import Derived.Test.YtbphpfelinllhaaY2
import Derived.Deep.DeepCutAuto
import Derived.Deep.LoopGhost
import Derived.Outline
namespace Go.Proofs.Ytbphpfelinllhaa
open Go.RowKit
/-- Element i of the slice of calls. -/
def OpAt (w : World) (A : Option Addr) (i : Nat) (kd N : Int) : Prop :=
  ∃ g o, A = some ⟨g, o, none⟩ ∧ g < w.heap.size ∧ w.cell? ⟨g, o + i * 2, none⟩ = some (.int .u8 kd) ∧ w.cell? ⟨g, o + i * 2 + 1, none⟩ = some (.int .i64 N)

theorem OpAt.below {w w' : World} {A : Option Addr} {i : Nat} {kd N : Int} (h : OpAt w A i kd N) {B : Nat} (hb : Below B w w') (hB : w.heap.size ≤ B) : OpAt w' A i kd N := by
  obtain ⟨g, o, e, hg, h1, h2⟩ := h
  exact ⟨g, o, e, by have := hb.size; omega, (hb.cell (p := ⟨g, _, none⟩) (by simpa using Nat.lt_of_lt_of_le hg hB)).trans h1, (hb.cell (p := ⟨g, _, none⟩) (by simpa using Nat.lt_of_lt_of_le hg hB)).trans h2⟩
/-- Both readers stand so in W; w is the world in which the call began. -/
def St (w W : World) (g gr : Nat) (st : Option (List Int)) : Prop :=
  Below w.heap.size w W ∧ w.heap.size ≤ g ∧ g < gr ∧ gr < W.heap.size ∧ StR W g st ∧ ∃ A m d, B2 W 40 gr (.slice A m d) (.bool (badB st)) ∧ Rd .u8 W A m d (lst st) ∧ (0 < m → ∀ ad, A = some ad → ad.block < w.heap.size)

theorem Rd.wr' {k : IntKind} {w w' : World} {A : Option Addr} {n c : Nat} {xs : List Int} (h : Rd k w A n c xs) {g : Nat} (hA : 0 < n → ∀ ad, A = some ad → ad.block ≠ g) (hw : Wr g w w') : Rd k w' A n c xs := by
  obtain ⟨h1, h2, h3, h4, h5, h6⟩ := h
  refine ⟨h1, h2, h3, h4, h5, fun hn => ?_⟩
  obtain ⟨g', o, e, hg, hx⟩ := h6 hn
  refine ⟨g', o, e, by have := hw.size; omega, fun i hi => ?_⟩
  rw [World.cell?_of_block (hw.block g' hg (by intro e'; injection e' with e'; exact hA hn _ e e'))]
  exact hx i hi
theorem wrTr (g : Nat) : Tr (Wr g) := ⟨fun w => Wr.refl w g, fun _ _ _ h k => h.trans k h.size⟩
theorem wr_cell {g : Nat} {w w' : World} (h : Wr g w w') {p : Addr} (hp : p.block ≠ g) (hs : p.block < w.heap.size) : w'.cell? p = w.cell? p :=
  World.cell?_of_block (h.block p.block hs (by intro e; injection e with e; exact hp e))
theorem B2.wr {w w' : World} {t : TypeId} {g g' : Nat} {v u : Value} (h : B2 w t g' v u) (hw : Wr g w w') (hp : g' ≠ g) (hs : g' < w.heap.size) : B2 w' t g' v u :=
  (hw.block g' hs (by intro e; injection e with e; exact hp e)).trans h
theorem own_ne {k : IntKind} {e : TypeId} {base : Nat} {w : World} {A : Option Addr} {n c : Nat} {xs : List Int} (h : Own k e base w (.slice A n c) xs) {g : Nat} (hg : g < base) : 0 < n → ∀ ad, A = some ad → ad.block ≠ g := by
  rintro - ad rfl
  have := (World.ownsRow.lt h ad.block rfl).1
  omega
theorem takeL_wf {st : Option (List Int)} (N : Int) (h : ∀ x ∈ lst st, (Lit.int .u8 x).wf = true) : ∀ x ∈ takeL st N, (Lit.int .u8 x).wf = true := by
  unfold takeL
  split
  · exact fun x hx => h x (List.mem_of_mem_take hx)
  · simp
theorem Rd.to {k : IntKind} {w W : World} {B : Option Addr} {m d L L' : Nat} {xs : List Int} (h : Rd k w B m d xs) (hB : 0 < m → ∀ ad, B = some ad → ad.block < L) (hL : L ≤ L') (hb : Below L' w W) : Rd k W B m d xs :=
  h.belowA (fun hm ad he => Nat.lt_of_lt_of_le (hB hm ad he) hL) hb
theorem below_alloc2 {B : Nat} {w : World} (hB : B ≤ w.heap.size) (o o' : Obj) : Below B (w.alloc o) (w.alloc o') :=
  ⟨rfl, rfl, rfl, by simp, fun k hk => (Below.heap_alloc w o' k (by omega)).trans (Below.heap_alloc w o k (by omega)).symm⟩
theorem St.below {w W W' : World} {g gr : Nat} {st : Option (List Int)} (h : St w W g gr st) (hb : Below W.heap.size W W') : St w W' g gr st := by
  obtain ⟨h1, h2, h3, h4, h5, A, m, d, h6, h7, h8⟩ := h
  exact ⟨h1.trans (hb.mono h1.size), h2, h3, Nat.lt_of_lt_of_le h4 hb.size, h5.below hb (by omega), A, m, d, h6.keep hb h4, h7.below hb, h8⟩
/-- What stands behind the reference's Take: the next reader at p, the bytes v. -/
def CutT (w W : World) (g gr : Nat) (st : Option (List Int)) (N : Int) (p v : Value) : Prop :=
  ∃ gn B m' d' C l f, p = .pointer (some ⟨gn, 0, none⟩) ∧ v = .slice C l f ∧ gr < gn ∧ St w W g gr st ∧ B2 W 40 gn (.slice B m' d') (.bool (badB (takeS st N))) ∧
    Rd .u8 W B m' d' (lst (takeS st N)) ∧ (0 < m' → ∀ ad, B = some ad → ad.block < w.heap.size) ∧ Rd .u8 W C l f (takeL st N) ∧ (0 < l → ∀ ad, C = some ad → ad.block < w.heap.size)
def CutN (w W : World) (g gr : Nat) (st : Option (List Int)) (N : Int) (p v : Value) : Prop :=
  ∃ gn B m' d', p = .pointer (some ⟨gn, 0, none⟩) ∧ v = .int .u64 (numV st N) ∧ gr < gn ∧ St w W g gr st ∧ B2 W 40 gn (.slice B m' d') (.bool (badB (numS st N))) ∧
    Rd .u8 W B m' d' (lst (numS st N)) ∧ (0 < m' → ∀ ad, B = some ad → ad.block < w.heap.size)

set_option maxRecDepth 100000 in
set_option maxHeartbeats 2000000 in
theorem lawReads (A0 : Option Addr) (n0 c0 : Nat) (xs0 : List Int) (A1 : Option Addr) (n1 c1 : Nat) (w : World) (h0 : Rd .u8 w A0 n0 c0 xs0)
    (h1 : n1 ≤ c1 ∧ c1 ≤ maxLen) (hop : ∀ i, i < n1 → ∃ kd N, 0 ≤ kd ∧ kd < 256 ∧ OpAt w A1 i kd N) :
    Calls Try.prog 5 #[.slice A0 n0 c0, .slice A1 n1 c1] w fun e w' => e = .returned (.bool true) ∧ Below w.heap.size w w' := by
  have HC := Lib.hid (show n0 ≤ c0 ∧ c0 ≤ maxLen from ⟨h0.2.1, h0.2.2.1⟩)
  have hm1 : n1 ≤ 9223372036854775807 := by have := h1.2; unfold maxLen at this; omega
  obtain ⟨n, hn⟩ : ∃ n, n = min n0 500 := ⟨_, rfl⟩
  obtain ⟨xs, hxs⟩ : ∃ xs, xs = xs0.take n := ⟨_, rfl⟩
  have h : Rd .u8 w A0 n c0 xs := by rw [hxs]; exact h0.pre (by omega)
  have hn5 : n ≤ 500 := by omega
  have HN := Lib.hid hn
  have HOP := Lib.hid hop

  clear hn hxs h0 h1 hop
  go_enter Try.func5, Try.ntmps5
  go_wp2_with fail
  refine (lawcut_any _ _ _ _ HC.out.1 HC.out.2).mono ?_
  rintro e w' ⟨rfl, rfl⟩
  rw [← HN.out]
  go_wp2_with fail
  refine (new_any _ _ _ xs _ (by exact h) (by omega)).mono ?_
  rintro e w1 ⟨g, rfl, hg, hG, hb1⟩
  go_wp2_with fail
  refine (awake_any _).mono ?_
  rintro e w2 ⟨rfl, hb2⟩
  have hgs : g < w1.heap.size := by obtain ⟨A, n, c, hB, _⟩ := hG; exact hB.lt
  have hst : St w w2 g w1.heap.size (some xs) := by
    refine ⟨(hb1.alloc hb1.size _).trans (hb2.mono (by have := hb1.size; simp; omega)), hg, hgs, by have := hb2.size; simp at this; omega, ?_, A0, n, c0, ?_, ?_, h.blk⟩
    · exact Good.below (Good.below hG ((Below.refl _ _).alloc (Nat.le_refl _) _)) hb2
    · exact (B2.new w1 40 _ _).keep hb2 (by simp)
    · exact ((h.below hb1).alloc _).below hb2
  obtain ⟨gr, hgr⟩ : ∃ gr, gr = w1.heap.size := ⟨_, rfl⟩
  rw [← hgr] at hst ⊢
  clear hb1 hb2 hG hgs hg h hgr
  go_wp2_with fail
  go_loopg [7] 60 (fun gk i wr => ∃ (k : Nat) (st : Option (List Int)), gk = 60 - k ∧ k ≤ n1 ∧ k ≤ 60 ∧ i = .int .i64 k ∧ St w wr g gr st)
  case atStart => exact ⟨0, some xs, rfl, Nat.zero_le _, Nat.zero_le _, rfl, hst⟩
  case round =>
    obtain ⟨k, st, rfl, hk, hk60, rfl, hs⟩ := hrel
    clear hst
    by_cases hlt : k < n1 ∧ k < 60
    · obtain ⟨hlt1, hlt2⟩ := hlt
      obtain ⟨kd, N, hkd0, hkd1, ho⟩ := HOP.out k hlt1
      have ho' := ho.below hs.1 (Nat.le_refl _)
      have HO := Lib.hid ho
      obtain ⟨g1, o1, rfl, hg1, hc1, hc2⟩ := ho
      obtain ⟨g1', o1', e, hg1', hc1', hc2'⟩ := ho'
      injection e with e
      injection e with e1 e2
      subst e1 e2
      have HS := Lib.hid hs
      clear hs hc1 hc2
      go_upto_if 42 with fail
      go_cut [] (fun W => ∃ st', St w W g gr st')
      case first =>
        obtain ⟨hbw, hwg, hggr, hgrl, hstr, A, m, d, hx, hr, hAb⟩ := HS.out
        have hww := hbw.size
        by_cases hk2 : kd % 3 = 2
        · go_upto_region 9 with fail
          go_cut [8, 9] (fun p v W => CutT w W g gr st N p v)
          case first =>
            refine wp_region_E (Below wr.heap.size) (by kernel_rfl) (fun wd hbd hsz => ?_)
            have hsz1 : wd.heap.size ≤ wr.heap.size := Nat.le_of_eq hsz
            have hsz2 : wr.heap.size ≤ wd.heap.size := Nat.le_of_eq hsz.symm
            clear hsz
            have hxd := hx.keep hbd hgrl
            have hbe := hbd.mono (Nat.le_refl wr.heap.size)
            have k1 := fun W (hW : Below wr.heap.size wd W) => (hW.cell (p := ⟨gr, 0, none⟩) hgrl).trans hxd.c0
            have k2 := fun W (hW : Below wr.heap.size wd W) => (hW.cell (p := ⟨gr, 1, none⟩) hgrl).trans hxd.c1
            have k3 := fun W (hW : Below wr.heap.size wd W) => (hW.cell (p := ⟨g1, o1 + k * 2 + 1, none⟩) hg1').trans ((hbd.cell (p := ⟨g1, o1 + k * 2 + 1, none⟩) hg1').trans hc2')
            have hrd := hr.below hbd
            have hAd : ∀ L, w.heap.size ≤ L → 0 < m → ∀ ad, A = some ad → ad.block < L := fun L hL hm ad he => Nat.lt_of_lt_of_le (hAb hm ad he) hL
            (refine takeE (belowTr wr.heap.size) 0 (by simp only [List.getElem?_toArray, List.getElem?_cons_succ, List.getElem?_cons_zero]; rfl) (by kernel_rfl) (by kernel_rfl) (by kernel_rfl) (by exact fun _ _ _ h => h) (by first | (refine Or.inl ⟨by rfl, ?_⟩; intro W hW; go_simp; try with_reducible rfl) | exact Or.inr ⟨by rfl, rfl⟩) ?_; try simp only [Act.put, List.setIfInBounds_toArray, List.set_cons_zero, List.set_cons_succ])
            (refine takeE (belowTr wr.heap.size) 1 (by simp only [List.getElem?_toArray, List.getElem?_cons_succ, List.getElem?_cons_zero]; rfl) (by kernel_rfl) (by kernel_rfl) (by kernel_rfl) (by exact fun _ _ _ h => h) (by first | (refine Or.inl ⟨by rfl, ?_⟩; intro W hW; go_simp; try with_reducible rfl) | exact Or.inr ⟨by rfl, rfl⟩) ?_; try simp only [Act.put, List.setIfInBounds_toArray, List.set_cons_zero, List.set_cons_succ])
            (refine takeE (belowTr wr.heap.size) 2 (by simp only [List.getElem?_toArray, List.getElem?_cons_succ, List.getElem?_cons_zero]; rfl) (by kernel_rfl) (by kernel_rfl) (by kernel_rfl) (by exact fun _ _ _ h => h) (by first | (refine Or.inl ⟨by rfl, ?_⟩; intro W hW; go_simp; try with_reducible rfl) | exact Or.inr ⟨by rfl, rfl⟩) ?_; try simp only [Act.put, List.setIfInBounds_toArray, List.set_cons_zero, List.set_cons_succ])
            (refine takeE (belowTr wr.heap.size) 3 (by simp only [List.getElem?_toArray, List.getElem?_cons_succ, List.getElem?_cons_zero]; rfl) (by kernel_rfl) (by kernel_rfl) (by kernel_rfl) (by exact fun _ _ _ h => h) (by first | (refine Or.inl ⟨by rfl, ?_⟩; intro W hW; go_simp; try with_reducible rfl) | exact Or.inr ⟨by rfl, rfl⟩) ?_; try simp only [Act.put, List.setIfInBounds_toArray, List.set_cons_zero, List.set_cons_succ])
            (refine takeE (belowTr wr.heap.size) 4 (by simp only [List.getElem?_toArray, List.getElem?_cons_succ, List.getElem?_cons_zero]; rfl) (by kernel_rfl) (by kernel_rfl) (by kernel_rfl) (by exact fun _ _ _ h => h) (by first | (refine Or.inl ⟨by rfl, ?_⟩; intro W hW; go_simp; try with_reducible rfl) | exact Or.inr ⟨by rfl, rfl⟩) ?_; try simp only [Act.put, List.setIfInBounds_toArray, List.set_cons_zero, List.set_cons_succ])
            (refine takeE (belowTr wr.heap.size) 5 (by simp only [List.getElem?_toArray, List.getElem?_cons_succ, List.getElem?_cons_zero]; rfl) (by kernel_rfl) (by kernel_rfl) (by kernel_rfl) (by exact fun _ _ _ h => h) (by first | (refine Or.inl ⟨by rfl, ?_⟩; intro W hW; go_simp; try with_reducible rfl) | exact Or.inr ⟨by rfl, rfl⟩) ?_; try simp only [Act.put, List.setIfInBounds_toArray, List.set_cons_zero, List.set_cons_succ])
            refine wpAnyE_two (i := 6) (j := 10) (by kernel_rfl) (by simp only [List.getElem?_toArray, List.getElem?_cons_succ, List.getElem?_cons_zero]; rfl) (by simp only [List.getElem?_toArray, List.getElem?_cons_succ, List.getElem?_cons_zero]; rfl) (fun K hK => ?_) (fun K hK => ?_)
            ·
              go_simp
              refine (rtake_st _ _ _ st N _ (by exact hrd)).mono ?_
              rintro e w6 ⟨B, m', d', C, l, f, rfl, q1, q2, q3, q4, hb6⟩
              go_simp
              have hb7 := hbd.trans (hb6.mono (by omega))
              have hs6 := hb6.size
              clear k1 k2 k3
              refine hK.out _ _ (hb6.mono (by omega)) ?_
              clear hK K
              try simp only [Act.put, List.setIfInBounds_toArray, List.set_cons_zero, List.set_cons_succ]
              (refine takeE (belowTr wr.heap.size) 7 (by simp only [List.getElem?_toArray, List.getElem?_cons_succ, List.getElem?_cons_zero]; rfl) (by kernel_rfl) (by kernel_rfl) (by kernel_rfl) (by exact fun _ _ _ h => h) (by first | (refine Or.inl ⟨by rfl, ?_⟩; intro W hW; go_simp; try with_reducible rfl) | exact Or.inr ⟨by rfl, rfl⟩) ?_; try simp only [Act.put, List.setIfInBounds_toArray, List.set_cons_zero, List.set_cons_succ])
              (refine takeE (belowTr wr.heap.size) 8 (by simp only [List.getElem?_toArray, List.getElem?_cons_succ, List.getElem?_cons_zero]; rfl) (by kernel_rfl) (by kernel_rfl) (by kernel_rfl) (by exact fun _ _ _ h => h) (by first | (refine Or.inl ⟨by rfl, ?_⟩; intro W hW; go_simp; try with_reducible rfl) | exact Or.inr ⟨by rfl, rfl⟩) ?_; try simp only [Act.put, List.setIfInBounds_toArray, List.set_cons_zero, List.set_cons_succ])
              (refine takeE (belowTr wr.heap.size) 9 (by simp only [List.getElem?_toArray, List.getElem?_cons_succ, List.getElem?_cons_zero]; rfl) (by kernel_rfl) (by kernel_rfl) (by kernel_rfl) (by exact fun _ _ _ h => h) (by first | (refine Or.inl ⟨by rfl, ?_⟩; intro W hW; go_simp; try with_reducible rfl) | exact Or.inr ⟨by rfl, rfl⟩) ?_; try simp only [Act.put, List.setIfInBounds_toArray, List.set_cons_zero, List.set_cons_succ])
              refine wpAnyE_one (i := 10) (by kernel_rfl) (by simp only [List.getElem?_toArray, List.getElem?_cons_succ, List.getElem?_cons_zero]; rfl) (fun K hK => ?_)
              go_simp
              refine hK.out _ _ ((Below.refl _ _).alloc (by omega) _) ?_
              clear hK K
              try simp only [Act.put, List.setIfInBounds_toArray, List.set_cons_zero, List.set_cons_succ]
              refine wpAnyE_one (i := 11) (by kernel_rfl) (by simp only [List.getElem?_toArray, List.getElem?_cons_succ, List.getElem?_cons_zero]; rfl) (fun K hK => ?_)
              go_simp
              refine hK.out _ _ (below_alloc2 (by omega) _ _) ?_
              clear hK K
              try simp only [Act.put, List.setIfInBounds_toArray, List.set_cons_zero, List.set_cons_succ]
              (refine takeE (belowTr wr.heap.size) 12 (by simp only [List.getElem?_toArray, List.getElem?_cons_succ, List.getElem?_cons_zero]; rfl) (by kernel_rfl) (by kernel_rfl) (by kernel_rfl) (by exact fun _ _ _ h => h) (by first | (refine Or.inl ⟨by rfl, ?_⟩; intro W hW; go_simp; try with_reducible rfl) | exact Or.inr ⟨by rfl, rfl⟩) ?_; try simp only [Act.put, List.setIfInBounds_toArray, List.set_cons_zero, List.set_cons_succ])
              refine wpAnyE_done (by kernel_rfl) ?_ _
              go_wp2_with fail
              go_meet
              have hbz : Below wr.heap.size w6 (w6.alloc (.cells #[.slice B m' d', .bool (badB (takeS st N))] 40)) := (Below.refl _ _).alloc (by omega) _
              exact ⟨w6.heap.size, B, m', d', C, l, f, rfl, rfl, by omega, HS.out.below (hb7.trans hbz), B2.new w6 40 _ _, q1.to (q2.lt hAb) hww hbz, q2.lt hAb, q3.to (q4.lt hAb) hww hbz, q4.lt hAb⟩
            ·
              go_simp
              refine hK.out _ _ ((Below.refl _ _).alloc (by omega) _) ?_
              clear hK K
              try simp only [Act.put, List.setIfInBounds_toArray, List.set_cons_zero, List.set_cons_succ]
              refine wpAnyE_one (i := 6) (by kernel_rfl) (by simp only [List.getElem?_toArray, List.getElem?_cons_succ, List.getElem?_cons_zero]; rfl) (fun K hK => ?_)
              go_simp
              refine (rtake_st _ _ _ st N _ (by exact hrd.alloc _)).mono ?_
              rintro e w6 ⟨B, m', d', C, l, f, rfl, q1, q2, q3, q4, hb6⟩
              go_simp
              have hn0 := (B2.new wd 40 (.slice none 0 0) (.bool false)).keep hb6 (by simp)
              have n1 := hn0.c0
              have n2 := hn0.c1
              have n3 := hn0.free 0
              have n4 := hn0.free 1
              have hs6 := hb6.size
              simp at hs6
              have hb7 : Below wr.heap.size wr w6 := (hbd.alloc (by omega) _).trans (hb6.mono (by simp; omega))
              clear k1 k2 k3
              refine hK.out _ _ (hb6.mono (by simp; omega)) ?_
              clear hK K
              try simp only [Act.put, List.setIfInBounds_toArray, List.set_cons_zero, List.set_cons_succ]
              (refine takeE (belowTr wr.heap.size) 7 (by simp only [List.getElem?_toArray, List.getElem?_cons_succ, List.getElem?_cons_zero]; rfl) (by kernel_rfl) (by kernel_rfl) (by kernel_rfl) (by exact fun _ _ _ h => h) (by first | (refine Or.inl ⟨by rfl, ?_⟩; intro W hW; go_simp; try with_reducible rfl) | exact Or.inr ⟨by rfl, rfl⟩) ?_; try simp only [Act.put, List.setIfInBounds_toArray, List.set_cons_zero, List.set_cons_succ])
              (refine takeE (belowTr wr.heap.size) 8 (by simp only [List.getElem?_toArray, List.getElem?_cons_succ, List.getElem?_cons_zero]; rfl) (by kernel_rfl) (by kernel_rfl) (by kernel_rfl) (by exact fun _ _ _ h => h) (by first | (refine Or.inl ⟨by rfl, ?_⟩; intro W hW; go_simp; try with_reducible rfl) | exact Or.inr ⟨by rfl, rfl⟩) ?_; try simp only [Act.put, List.setIfInBounds_toArray, List.set_cons_zero, List.set_cons_succ])
              (refine takeE (belowTr wr.heap.size) 9 (by simp only [List.getElem?_toArray, List.getElem?_cons_succ, List.getElem?_cons_zero]; rfl) (by kernel_rfl) (by kernel_rfl) (by kernel_rfl) (by exact fun _ _ _ h => h) (by first | (refine Or.inl ⟨by rfl, ?_⟩; intro W hW; go_simp; try with_reducible rfl) | exact Or.inr ⟨by rfl, rfl⟩) ?_; try simp only [Act.put, List.setIfInBounds_toArray, List.set_cons_zero, List.set_cons_succ])
              refine wpAnyE_one (i := 11) (by kernel_rfl) (by simp only [List.getElem?_toArray, List.getElem?_cons_succ, List.getElem?_cons_zero]; rfl) (fun K hK => ?_)
              go_simp
              refine hK.out _ _ (((Below.refl _ _).setCell (by simpa using hsz2) _).setCell (by simpa using hsz2) _) ?_
              clear hK K
              try simp only [Act.put, List.setIfInBounds_toArray, List.set_cons_zero, List.set_cons_succ]
              (refine takeE (belowTr wr.heap.size) 12 (by simp only [List.getElem?_toArray, List.getElem?_cons_succ, List.getElem?_cons_zero]; rfl) (by kernel_rfl) (by kernel_rfl) (by kernel_rfl) (by exact fun _ _ _ h => h) (by first | (refine Or.inl ⟨by rfl, ?_⟩; intro W hW; go_simp; try with_reducible rfl) | exact Or.inr ⟨by rfl, rfl⟩) ?_; try simp only [Act.put, List.setIfInBounds_toArray, List.set_cons_zero, List.set_cons_succ])
              refine wpAnyE_done (by kernel_rfl) ?_ _
              go_wp2_with fail
              go_meet
              have hbz : Below wr.heap.size w6 ((w6.setCell ⟨wd.heap.size, 0, none⟩ (.slice B m' d')).setCell ⟨wd.heap.size, 1, none⟩ (.bool (badB (takeS st N)))) := ((Below.refl _ _).setCell (by simpa using hsz2) _).setCell (by simpa using hsz2) _
              exact ⟨wd.heap.size, B, m', d', C, l, f, rfl, rfl, by omega, HS.out.below (hb7.trans hbz), (hn0.set0 _).set1 _, q1.to (q2.lt hAb) hww hbz, q2.lt hAb, q3.to (q4.lt hAb) hww hbz, q4.lt hAb⟩
          case rest =>
            have hwf := hr.2.2.2.2.1
            obtain ⟨gn, B, m', d', C, l, f, rfl, rfl, hgn, hSt, hN2, hRB, hBb, hRC, hCb⟩ := hcut
            obtain ⟨hbw', -, -, hgrl', hstr', A', mm, dd, hx', hr', hAb'⟩ := hSt
            have f1 := hN2.c0
            have f2 := hN2.c1
            have f3 := hx'.c0
            have f4 := hx'.c1
            have f5 := hx'.free 0
            have f6 := hx'.free 1
            have f7 : wc.cell? ⟨g1, o1 + k * 2 + 1, none⟩ = some (.int .i64 N) := by
              obtain ⟨g1', o1', e, _, _, h2⟩ := HO.out
              injection e with e
              injection e with e1 e2
              subst e1 e2
              exact (hbw'.cell (p := ⟨g1, o1 + k * 2 + 1, none⟩) hg1).trans h2
            have hne1 : g1 ≠ gr := by omega
            have hne2 : gr ≠ g1 := by omega
            go_wp2_with fail
            obtain ⟨W2, hW2⟩ : ∃ W2, W2 = (wc.setCell ⟨gr, 0, none⟩ (.slice B m' d')).setCell ⟨gr, 1, none⟩ (.bool (badB (takeS st N))) := ⟨_, rfl⟩
            have hb2 : Below gr wc W2 := by rw [hW2]; exact ((Below.refl _ _).setCell (by simp) _).setCell (by simp) _
            have hs2 : wc.heap.size ≤ W2.heap.size := hb2.size
            have hx2 : B2 W2 40 gr (.slice B m' d') (.bool (badB (takeS st N))) := by rw [hW2]; exact (hx'.set0 _).set1 _
            rw [← hW2]
            have hbw2 : Below w.heap.size w W2 := hbw'.trans (hb2.mono (by omega))
            have hst2 : StR W2 g st := hstr'.below hb2 hggr
            have hRB2 := hRB.to hBb (Nat.le_of_lt (Nat.lt_of_le_of_lt hwg hggr)) hb2
            have hcN2 : W2.cell? ⟨g1, o1 + k * 2 + 1, none⟩ = some (.int .i64 N) := by
              obtain ⟨g1', o1', e, _, _, h2⟩ := HO.out
              injection e with e
              injection e with e1 e2
              subst e1 e2
              exact (hbw2.cell (p := ⟨g1, o1 + k * 2 + 1, none⟩) hg1).trans h2
            have hb2x := hb2
            clear hW2 f1 f2 f3 f4 f5 f6 f7 hx' hb2 hN2 hstr' hr'
            have hRC2 := hRC.to hCb (Nat.le_of_lt (Nat.lt_of_le_of_lt hwg hggr)) hb2x
            refine wp_region_E (Wr g) (by kernel_rfl) (fun wd hbd hsz => ?_)
            have hstd : StR wd g st := hst2.below hbd (by omega)
            have hRCd := hRC2.below hbd
            have k1 := fun W (hW : Wr g wd W) => conv_any (hRCd.wr' (fun hm ad he => Nat.ne_of_lt (Nat.lt_of_lt_of_le (hCb hm ad he) hwg)) hW)
            have k3 := fun W (hW : Wr g wd W) => (wr_cell (p := ⟨g1, o1 + k * 2 + 1, none⟩) hW (by simp; omega) (by have := hbd.size; simp; omega)).trans ((hbd.cell (p := ⟨g1, o1 + k * 2 + 1, none⟩) (by simp; omega)).trans hcN2)
            (refine takeE (wrTr g) 0 (by simp only [List.getElem?_toArray, List.getElem?_cons_succ, List.getElem?_cons_zero]; rfl) (by kernel_rfl) (by kernel_rfl) (by kernel_rfl) (by exact fun _ _ _ h => h) (by first | (refine Or.inl ⟨by rfl, ?_⟩; intro W hW; go_simp; try with_reducible rfl) | exact Or.inr ⟨by rfl, rfl⟩) ?_; try simp only [Act.put, List.setIfInBounds_toArray, List.set_cons_zero, List.set_cons_succ])
            (refine takeE (wrTr g) 1 (by simp only [List.getElem?_toArray, List.getElem?_cons_succ, List.getElem?_cons_zero]; rfl) (by kernel_rfl) (by kernel_rfl) (by kernel_rfl) (by exact fun _ _ _ h => h) (by first | (refine Or.inl ⟨by rfl, ?_⟩; intro W hW; go_simp; try with_reducible rfl) | exact Or.inr ⟨by rfl, rfl⟩) ?_; try simp only [Act.put, List.setIfInBounds_toArray, List.set_cons_zero, List.set_cons_succ])
            (refine takeE (wrTr g) 2 (by simp only [List.getElem?_toArray, List.getElem?_cons_succ, List.getElem?_cons_zero]; rfl) (by kernel_rfl) (by kernel_rfl) (by kernel_rfl) (by exact fun _ _ _ h => h) (by first | (refine Or.inl ⟨by rfl, ?_⟩; intro W hW; go_simp; try with_reducible rfl) | exact Or.inr ⟨by rfl, rfl⟩) ?_; try simp only [Act.put, List.setIfInBounds_toArray, List.set_cons_zero, List.set_cons_succ])
            (refine takeE (wrTr g) 8 (by simp only [List.getElem?_toArray, List.getElem?_cons_succ, List.getElem?_cons_zero]; rfl) (by kernel_rfl) (by kernel_rfl) (by kernel_rfl) (by exact fun _ _ _ h => h) (by first | (refine Or.inl ⟨by rfl, ?_⟩; intro W hW; go_simp; try with_reducible rfl) | exact Or.inr ⟨by rfl, rfl⟩) ?_; try simp only [Act.put, List.setIfInBounds_toArray, List.set_cons_zero, List.set_cons_succ])
            (refine takeE (wrTr g) 3 (by simp only [List.getElem?_toArray, List.getElem?_cons_succ, List.getElem?_cons_zero]; rfl) (by kernel_rfl) (by kernel_rfl) (by kernel_rfl) (by exact fun _ _ _ h => h) (by first | (refine Or.inl ⟨by rfl, ?_⟩; intro W hW; go_simp; try with_reducible rfl) | exact Or.inr ⟨by rfl, rfl⟩) ?_; try simp only [Act.put, List.setIfInBounds_toArray, List.set_cons_zero, List.set_cons_succ])
            (refine takeE (wrTr g) 9 (by simp only [List.getElem?_toArray, List.getElem?_cons_succ, List.getElem?_cons_zero]; rfl) (by kernel_rfl) (by kernel_rfl) (by kernel_rfl) (by exact fun _ _ _ h => h) (by first | (refine Or.inl ⟨by rfl, ?_⟩; intro W hW; go_simp; try with_reducible rfl) | exact Or.inr ⟨by rfl, rfl⟩) ?_; try simp only [Act.put, List.setIfInBounds_toArray, List.set_cons_zero, List.set_cons_succ])
            (refine takeE (wrTr g) 4 (by simp only [List.getElem?_toArray, List.getElem?_cons_succ, List.getElem?_cons_zero]; rfl) (by kernel_rfl) (by kernel_rfl) (by kernel_rfl) (by exact fun _ _ _ h => h) (by first | (refine Or.inl ⟨by rfl, ?_⟩; intro W hW; go_simp; try with_reducible rfl) | exact Or.inr ⟨by rfl, rfl⟩) ?_; try simp only [Act.put, List.setIfInBounds_toArray, List.set_cons_zero, List.set_cons_succ])
            (refine takeE (wrTr g) 5 (by simp only [List.getElem?_toArray, List.getElem?_cons_succ, List.getElem?_cons_zero]; rfl) (by kernel_rfl) (by kernel_rfl) (by kernel_rfl) (by exact fun _ _ _ h => h) (by first | (refine Or.inl ⟨by rfl, ?_⟩; intro W hW; go_simp; try with_reducible rfl) | exact Or.inr ⟨by rfl, rfl⟩) ?_; try simp only [Act.put, List.setIfInBounds_toArray, List.set_cons_zero, List.set_cons_succ])
            refine wpAnyE_one (i := 6) (by kernel_rfl) (by simp only [List.getElem?_toArray, List.getElem?_cons_succ, List.getElem?_cons_zero]; rfl) (fun K hK => ?_)
            go_simp
            refine (take_st g st N _ (by exact hstd)).mono ?_
            rintro e w6 ⟨v6, rfl, hown6, hst6, hw6⟩
            obtain ⟨A6, c6, rfl, hr6⟩ := hown6.rd (takeL_wf N hwf)
            clear k1 k3
            have hgd : g < wd.heap.size := by have := hbd.size; omega
            have hA6 := own_ne hown6 hgd
            have k1 := fun W (hW : Wr g w6 W) => conv_any ((hRCd.wr' (fun hm ad he => Nat.ne_of_lt (Nat.lt_of_lt_of_le (hCb hm ad he) hwg)) hw6).wr' (fun hm ad he => Nat.ne_of_lt (Nat.lt_of_lt_of_le (hCb hm ad he) hwg)) hW)
            have k6 := fun W (hW : Wr g w6 W) => conv_any (hr6.wr' hA6 hW)
            go_simp
            refine hK.out _ _ hw6 ?_
            clear hK K
            try simp only [Act.put, List.setIfInBounds_toArray, List.set_cons_zero, List.set_cons_succ]
            (refine takeE (wrTr g) 7 (by simp only [List.getElem?_toArray, List.getElem?_cons_succ, List.getElem?_cons_zero]; rfl) (by kernel_rfl) (by kernel_rfl) (by kernel_rfl) (by exact fun _ _ _ h => h) (by first | (refine Or.inl ⟨by rfl, ?_⟩; intro W hW; go_simp; try with_reducible rfl) | exact Or.inr ⟨by rfl, rfl⟩) ?_; try simp only [Act.put, List.setIfInBounds_toArray, List.set_cons_zero, List.set_cons_succ])
            (refine takeE (wrTr g) 10 (by simp only [List.getElem?_toArray, List.getElem?_cons_succ, List.getElem?_cons_zero]; rfl) (by kernel_rfl) (by kernel_rfl) (by kernel_rfl) (by exact fun _ _ _ h => h) (by first | (refine Or.inl ⟨by rfl, ?_⟩; intro W hW; go_simp; try with_reducible rfl) | exact Or.inr ⟨by rfl, rfl⟩) ?_; try simp only [Act.put, List.setIfInBounds_toArray, List.set_cons_zero, List.set_cons_succ])
            refine wpAnyE_done (by kernel_rfl) ?_ _
            go_wp2_with fail
            go_meet
            refine ⟨takeS st N, ?_⟩
            have hw2 : Wr g W2 w6 := (Wr.of_below hbd).trans hw6 hbd.size
            exact ⟨hbw2.trans (hw2.below hwg (by omega)), hwg, hggr, by have := hw2.size; omega, hst6, B, m', d', hx2.wr hw2 (by omega) (by omega), hRB2.wr' (fun hm ad he => Nat.ne_of_lt (Nat.lt_of_lt_of_le (hBb hm ad he) hwg)) hw2, hBb⟩
        · have hke : (kd % 3 == 2) = false := by simpa using hk2
          go_upto_region 13 with fail
          go_cut [10, 11] (fun p v W => CutN w W g gr st N p v)
          case first =>
            refine wp_region_E (Below wr.heap.size) (by kernel_rfl) (fun wd hbd hsz => ?_)
            have hsz1 : wd.heap.size ≤ wr.heap.size := Nat.le_of_eq hsz
            have hsz2 : wr.heap.size ≤ wd.heap.size := Nat.le_of_eq hsz.symm
            clear hsz
            have hxd := hx.keep hbd hgrl
            have hbe := hbd.mono (Nat.le_refl wr.heap.size)
            have k1 := fun W (hW : Below wr.heap.size wd W) => (hW.cell (p := ⟨gr, 0, none⟩) hgrl).trans hxd.c0
            have k2 := fun W (hW : Below wr.heap.size wd W) => (hW.cell (p := ⟨gr, 1, none⟩) hgrl).trans hxd.c1
            have k3 := fun W (hW : Below wr.heap.size wd W) => (hW.cell (p := ⟨g1, o1 + k * 2 + 1, none⟩) hg1').trans ((hbd.cell (p := ⟨g1, o1 + k * 2 + 1, none⟩) hg1').trans hc2')
            have hrd := hr.below hbd
            have hAd : ∀ L, w.heap.size ≤ L → 0 < m → ∀ ad, A = some ad → ad.block < L := fun L hL hm ad he => Nat.lt_of_lt_of_le (hAb hm ad he) hL
            (refine takeE (belowTr wr.heap.size) 0 (by simp only [List.getElem?_toArray, List.getElem?_cons_succ, List.getElem?_cons_zero]; rfl) (by kernel_rfl) (by kernel_rfl) (by kernel_rfl) (by exact fun _ _ _ h => h) (by first | (refine Or.inl ⟨by rfl, ?_⟩; intro W hW; go_simp; try with_reducible rfl) | exact Or.inr ⟨by rfl, rfl⟩) ?_; try simp only [Act.put, List.setIfInBounds_toArray, List.set_cons_zero, List.set_cons_succ])
            (refine takeE (belowTr wr.heap.size) 1 (by simp only [List.getElem?_toArray, List.getElem?_cons_succ, List.getElem?_cons_zero]; rfl) (by kernel_rfl) (by kernel_rfl) (by kernel_rfl) (by exact fun _ _ _ h => h) (by first | (refine Or.inl ⟨by rfl, ?_⟩; intro W hW; go_simp; try with_reducible rfl) | exact Or.inr ⟨by rfl, rfl⟩) ?_; try simp only [Act.put, List.setIfInBounds_toArray, List.set_cons_zero, List.set_cons_succ])
            (refine takeE (belowTr wr.heap.size) 2 (by simp only [List.getElem?_toArray, List.getElem?_cons_succ, List.getElem?_cons_zero]; rfl) (by kernel_rfl) (by kernel_rfl) (by kernel_rfl) (by exact fun _ _ _ h => h) (by first | (refine Or.inl ⟨by rfl, ?_⟩; intro W hW; go_simp; try with_reducible rfl) | exact Or.inr ⟨by rfl, rfl⟩) ?_; try simp only [Act.put, List.setIfInBounds_toArray, List.set_cons_zero, List.set_cons_succ])
            (refine takeE (belowTr wr.heap.size) 3 (by simp only [List.getElem?_toArray, List.getElem?_cons_succ, List.getElem?_cons_zero]; rfl) (by kernel_rfl) (by kernel_rfl) (by kernel_rfl) (by exact fun _ _ _ h => h) (by first | (refine Or.inl ⟨by rfl, ?_⟩; intro W hW; go_simp; try with_reducible rfl) | exact Or.inr ⟨by rfl, rfl⟩) ?_; try simp only [Act.put, List.setIfInBounds_toArray, List.set_cons_zero, List.set_cons_succ])
            (refine takeE (belowTr wr.heap.size) 4 (by simp only [List.getElem?_toArray, List.getElem?_cons_succ, List.getElem?_cons_zero]; rfl) (by kernel_rfl) (by kernel_rfl) (by kernel_rfl) (by exact fun _ _ _ h => h) (by first | (refine Or.inl ⟨by rfl, ?_⟩; intro W hW; go_simp; try with_reducible rfl) | exact Or.inr ⟨by rfl, rfl⟩) ?_; try simp only [Act.put, List.setIfInBounds_toArray, List.set_cons_zero, List.set_cons_succ])
            (refine takeE (belowTr wr.heap.size) 5 (by simp only [List.getElem?_toArray, List.getElem?_cons_succ, List.getElem?_cons_zero]; rfl) (by kernel_rfl) (by kernel_rfl) (by kernel_rfl) (by exact fun _ _ _ h => h) (by first | (refine Or.inl ⟨by rfl, ?_⟩; intro W hW; go_simp; try with_reducible rfl) | exact Or.inr ⟨by rfl, rfl⟩) ?_; try simp only [Act.put, List.setIfInBounds_toArray, List.set_cons_zero, List.set_cons_succ])
            refine wpAnyE_two (i := 6) (j := 10) (by kernel_rfl) (by simp only [List.getElem?_toArray, List.getElem?_cons_succ, List.getElem?_cons_zero]; rfl) (by simp only [List.getElem?_toArray, List.getElem?_cons_succ, List.getElem?_cons_zero]; rfl) (fun K hK => ?_) (fun K hK => ?_)
            ·
              go_simp
              refine (rnum_st _ _ _ st N _ (by exact hrd)).mono ?_
              rintro e w6 ⟨B, m', d', rfl, q1, q2, hb6⟩
              go_simp
              have hb7 := hbd.trans (hb6.mono (by omega))
              have hs6 := hb6.size
              clear k1 k2 k3
              refine hK.out _ _ (hb6.mono (by omega)) ?_
              clear hK K
              try simp only [Act.put, List.setIfInBounds_toArray, List.set_cons_zero, List.set_cons_succ]
              (refine takeE (belowTr wr.heap.size) 7 (by simp only [List.getElem?_toArray, List.getElem?_cons_succ, List.getElem?_cons_zero]; rfl) (by kernel_rfl) (by kernel_rfl) (by kernel_rfl) (by exact fun _ _ _ h => h) (by first | (refine Or.inl ⟨by rfl, ?_⟩; intro W hW; go_simp; try with_reducible rfl) | exact Or.inr ⟨by rfl, rfl⟩) ?_; try simp only [Act.put, List.setIfInBounds_toArray, List.set_cons_zero, List.set_cons_succ])
              (refine takeE (belowTr wr.heap.size) 8 (by simp only [List.getElem?_toArray, List.getElem?_cons_succ, List.getElem?_cons_zero]; rfl) (by kernel_rfl) (by kernel_rfl) (by kernel_rfl) (by exact fun _ _ _ h => h) (by first | (refine Or.inl ⟨by rfl, ?_⟩; intro W hW; go_simp; try with_reducible rfl) | exact Or.inr ⟨by rfl, rfl⟩) ?_; try simp only [Act.put, List.setIfInBounds_toArray, List.set_cons_zero, List.set_cons_succ])
              (refine takeE (belowTr wr.heap.size) 9 (by simp only [List.getElem?_toArray, List.getElem?_cons_succ, List.getElem?_cons_zero]; rfl) (by kernel_rfl) (by kernel_rfl) (by kernel_rfl) (by exact fun _ _ _ h => h) (by first | (refine Or.inl ⟨by rfl, ?_⟩; intro W hW; go_simp; try with_reducible rfl) | exact Or.inr ⟨by rfl, rfl⟩) ?_; try simp only [Act.put, List.setIfInBounds_toArray, List.set_cons_zero, List.set_cons_succ])
              refine wpAnyE_one (i := 10) (by kernel_rfl) (by simp only [List.getElem?_toArray, List.getElem?_cons_succ, List.getElem?_cons_zero]; rfl) (fun K hK => ?_)
              go_simp
              refine hK.out _ _ ((Below.refl _ _).alloc (by omega) _) ?_
              clear hK K
              try simp only [Act.put, List.setIfInBounds_toArray, List.set_cons_zero, List.set_cons_succ]
              refine wpAnyE_one (i := 11) (by kernel_rfl) (by simp only [List.getElem?_toArray, List.getElem?_cons_succ, List.getElem?_cons_zero]; rfl) (fun K hK => ?_)
              go_simp
              refine hK.out _ _ (below_alloc2 (by omega) _ _) ?_
              clear hK K
              try simp only [Act.put, List.setIfInBounds_toArray, List.set_cons_zero, List.set_cons_succ]
              (refine takeE (belowTr wr.heap.size) 12 (by simp only [List.getElem?_toArray, List.getElem?_cons_succ, List.getElem?_cons_zero]; rfl) (by kernel_rfl) (by kernel_rfl) (by kernel_rfl) (by exact fun _ _ _ h => h) (by first | (refine Or.inl ⟨by rfl, ?_⟩; intro W hW; go_simp; try with_reducible rfl) | exact Or.inr ⟨by rfl, rfl⟩) ?_; try simp only [Act.put, List.setIfInBounds_toArray, List.set_cons_zero, List.set_cons_succ])
              refine wpAnyE_done (by kernel_rfl) ?_ _
              go_wp2_with fail
              go_meet
              have hbz : Below wr.heap.size w6 (w6.alloc (.cells #[.slice B m' d', .bool (badB (numS st N))] 40)) := (Below.refl _ _).alloc (by omega) _
              exact ⟨w6.heap.size, B, m', d', rfl, rfl, by omega, HS.out.below (hb7.trans hbz), B2.new w6 40 _ _, q1.to (q2.lt hAb) hww hbz, q2.lt hAb⟩
            ·
              go_simp
              refine hK.out _ _ ((Below.refl _ _).alloc (by omega) _) ?_
              clear hK K
              try simp only [Act.put, List.setIfInBounds_toArray, List.set_cons_zero, List.set_cons_succ]
              refine wpAnyE_one (i := 6) (by kernel_rfl) (by simp only [List.getElem?_toArray, List.getElem?_cons_succ, List.getElem?_cons_zero]; rfl) (fun K hK => ?_)
              go_simp
              refine (rnum_st _ _ _ st N _ (by exact hrd.alloc _)).mono ?_
              rintro e w6 ⟨B, m', d', rfl, q1, q2, hb6⟩
              go_simp
              have hn0 := (B2.new wd 40 (.slice none 0 0) (.bool false)).keep hb6 (by simp)
              have n1 := hn0.c0
              have n2 := hn0.c1
              have n3 := hn0.free 0
              have n4 := hn0.free 1
              have hs6 := hb6.size
              simp at hs6
              have hb7 : Below wr.heap.size wr w6 := (hbd.alloc (by omega) _).trans (hb6.mono (by simp; omega))
              clear k1 k2 k3
              refine hK.out _ _ (hb6.mono (by simp; omega)) ?_
              clear hK K
              try simp only [Act.put, List.setIfInBounds_toArray, List.set_cons_zero, List.set_cons_succ]
              (refine takeE (belowTr wr.heap.size) 7 (by simp only [List.getElem?_toArray, List.getElem?_cons_succ, List.getElem?_cons_zero]; rfl) (by kernel_rfl) (by kernel_rfl) (by kernel_rfl) (by exact fun _ _ _ h => h) (by first | (refine Or.inl ⟨by rfl, ?_⟩; intro W hW; go_simp; try with_reducible rfl) | exact Or.inr ⟨by rfl, rfl⟩) ?_; try simp only [Act.put, List.setIfInBounds_toArray, List.set_cons_zero, List.set_cons_succ])
              (refine takeE (belowTr wr.heap.size) 8 (by simp only [List.getElem?_toArray, List.getElem?_cons_succ, List.getElem?_cons_zero]; rfl) (by kernel_rfl) (by kernel_rfl) (by kernel_rfl) (by exact fun _ _ _ h => h) (by first | (refine Or.inl ⟨by rfl, ?_⟩; intro W hW; go_simp; try with_reducible rfl) | exact Or.inr ⟨by rfl, rfl⟩) ?_; try simp only [Act.put, List.setIfInBounds_toArray, List.set_cons_zero, List.set_cons_succ])
              (refine takeE (belowTr wr.heap.size) 9 (by simp only [List.getElem?_toArray, List.getElem?_cons_succ, List.getElem?_cons_zero]; rfl) (by kernel_rfl) (by kernel_rfl) (by kernel_rfl) (by exact fun _ _ _ h => h) (by first | (refine Or.inl ⟨by rfl, ?_⟩; intro W hW; go_simp; try with_reducible rfl) | exact Or.inr ⟨by rfl, rfl⟩) ?_; try simp only [Act.put, List.setIfInBounds_toArray, List.set_cons_zero, List.set_cons_succ])
              refine wpAnyE_one (i := 11) (by kernel_rfl) (by simp only [List.getElem?_toArray, List.getElem?_cons_succ, List.getElem?_cons_zero]; rfl) (fun K hK => ?_)
              go_simp
              refine hK.out _ _ (((Below.refl _ _).setCell (by simpa using hsz2) _).setCell (by simpa using hsz2) _) ?_
              clear hK K
              try simp only [Act.put, List.setIfInBounds_toArray, List.set_cons_zero, List.set_cons_succ]
              (refine takeE (belowTr wr.heap.size) 12 (by simp only [List.getElem?_toArray, List.getElem?_cons_succ, List.getElem?_cons_zero]; rfl) (by kernel_rfl) (by kernel_rfl) (by kernel_rfl) (by exact fun _ _ _ h => h) (by first | (refine Or.inl ⟨by rfl, ?_⟩; intro W hW; go_simp; try with_reducible rfl) | exact Or.inr ⟨by rfl, rfl⟩) ?_; try simp only [Act.put, List.setIfInBounds_toArray, List.set_cons_zero, List.set_cons_succ])
              refine wpAnyE_done (by kernel_rfl) ?_ _
              go_wp2_with fail
              go_meet
              have hbz : Below wr.heap.size w6 ((w6.setCell ⟨wd.heap.size, 0, none⟩ (.slice B m' d')).setCell ⟨wd.heap.size, 1, none⟩ (.bool (badB (numS st N)))) := ((Below.refl _ _).setCell (by simpa using hsz2) _).setCell (by simpa using hsz2) _
              exact ⟨wd.heap.size, B, m', d', rfl, rfl, by omega, HS.out.below (hb7.trans hbz), (hn0.set0 _).set1 _, q1.to (q2.lt hAb) hww hbz, q2.lt hAb⟩
          case rest =>
            obtain ⟨gn, B, m', d', rfl, rfl, hgn, hSt, hN2, hRB, hBb⟩ := hcut
            obtain ⟨hbw', -, -, hgrl', hstr', A', mm, dd, hx', hr', hAb'⟩ := hSt
            have f1 := hN2.c0
            have f2 := hN2.c1
            have f3 := hx'.c0
            have f4 := hx'.c1
            have f5 := hx'.free 0
            have f6 := hx'.free 1
            have f7 : wc.cell? ⟨g1, o1 + k * 2 + 1, none⟩ = some (.int .i64 N) := by
              obtain ⟨g1', o1', e, _, _, h2⟩ := HO.out
              injection e with e
              injection e with e1 e2
              subst e1 e2
              exact (hbw'.cell (p := ⟨g1, o1 + k * 2 + 1, none⟩) hg1).trans h2
            have hne1 : g1 ≠ gr := by omega
            have hne2 : gr ≠ g1 := by omega
            go_wp2_with fail
            obtain ⟨W2, hW2⟩ : ∃ W2, W2 = (wc.setCell ⟨gr, 0, none⟩ (.slice B m' d')).setCell ⟨gr, 1, none⟩ (.bool (badB (numS st N))) := ⟨_, rfl⟩
            have hb2 : Below gr wc W2 := by rw [hW2]; exact ((Below.refl _ _).setCell (by simp) _).setCell (by simp) _
            have hs2 : wc.heap.size ≤ W2.heap.size := hb2.size
            have hx2 : B2 W2 40 gr (.slice B m' d') (.bool (badB (numS st N))) := by rw [hW2]; exact (hx'.set0 _).set1 _
            rw [← hW2]
            have hbw2 : Below w.heap.size w W2 := hbw'.trans (hb2.mono (by omega))
            have hst2 : StR W2 g st := hstr'.below hb2 hggr
            have hRB2 := hRB.to hBb (Nat.le_of_lt (Nat.lt_of_le_of_lt hwg hggr)) hb2
            have hcN2 : W2.cell? ⟨g1, o1 + k * 2 + 1, none⟩ = some (.int .i64 N) := by
              obtain ⟨g1', o1', e, _, _, h2⟩ := HO.out
              injection e with e
              injection e with e1 e2
              subst e1 e2
              exact (hbw2.cell (p := ⟨g1, o1 + k * 2 + 1, none⟩) hg1).trans h2
            have hb2x := hb2
            clear hW2 f1 f2 f3 f4 f5 f6 f7 hx' hb2 hN2 hstr' hr'
            go_wp2_with fail
            refine (num_st g st N _ (by exact hst2)).mono ?_
            rintro e w6 ⟨rfl, hst6, hw6⟩
            go_wp2_with fail
            go_meet
            refine ⟨numS st N, ?_⟩
            exact ⟨hbw2.trans (hw6.below hwg (by omega)), hwg, hggr, by have := hw6.size; omega, hst6, B, m', d', hx2.wr hw6 (by omega) (by omega), hRB2.wr' (fun hm ad he => Nat.ne_of_lt (Nat.lt_of_lt_of_le (hBb hm ad he) hwg)) hw6, hBb⟩
      case rest =>
        obtain ⟨st', hs'⟩ := hcut
        obtain ⟨hbw, hwg, hggr, hgrl, hstr, A, m, d, hx, hr, hAb⟩ := hs'
        obtain rfl : (lst st').length = m := hr.1
        go_upto_region 17 with fail
        refine wp_region_E Ext (by kernel_rfl) (fun wd hbd hsz => ?_)
        have hxd := hx.keep hbd hgrl
        have k1 := fun W (hW : Ext wd W) => (hxd.keep hW hxd.lt).c0
        have k2 := fun W (hW : Ext wd W) => (hxd.keep hW hxd.lt).c1
        have hstd : StR wd g st' := hstr.below hbd (by omega)
        (refine takeE Ext.tr 0 (by simp only [List.getElem?_toArray, List.getElem?_cons_succ, List.getElem?_cons_zero]; rfl) (by kernel_rfl) (by kernel_rfl) (by kernel_rfl) (by exact fun _ _ _ h => h) (by first | (refine Or.inl ⟨by rfl, ?_⟩; intro W hW; go_simp; try with_reducible rfl) | exact Or.inr ⟨by rfl, rfl⟩) ?_; try simp only [Act.put, List.setIfInBounds_toArray, List.set_cons_zero, List.set_cons_succ])
        (refine takeE Ext.tr 2 (by simp only [List.getElem?_toArray, List.getElem?_cons_succ, List.getElem?_cons_zero]; rfl) (by kernel_rfl) (by kernel_rfl) (by kernel_rfl) (by exact fun _ _ _ h => h) (by first | (refine Or.inl ⟨by rfl, ?_⟩; intro W hW; go_simp; try with_reducible rfl) | exact Or.inr ⟨by rfl, rfl⟩) ?_; try simp only [Act.put, List.setIfInBounds_toArray, List.set_cons_zero, List.set_cons_succ])
        (refine takeE Ext.tr 3 (by simp only [List.getElem?_toArray, List.getElem?_cons_succ, List.getElem?_cons_zero]; rfl) (by kernel_rfl) (by kernel_rfl) (by kernel_rfl) (by exact fun _ _ _ h => h) (by first | (refine Or.inl ⟨by rfl, ?_⟩; intro W hW; go_simp; try with_reducible rfl) | exact Or.inr ⟨by rfl, rfl⟩) ?_; try simp only [Act.put, List.setIfInBounds_toArray, List.set_cons_zero, List.set_cons_succ])
        (refine takeE Ext.tr 4 (by simp only [List.getElem?_toArray, List.getElem?_cons_succ, List.getElem?_cons_zero]; rfl) (by kernel_rfl) (by kernel_rfl) (by kernel_rfl) (by exact fun _ _ _ h => h) (by first | (refine Or.inl ⟨by rfl, ?_⟩; intro W hW; go_simp; try with_reducible rfl) | exact Or.inr ⟨by rfl, rfl⟩) ?_; try simp only [Act.put, List.setIfInBounds_toArray, List.set_cons_zero, List.set_cons_succ])
        refine wpAnyE_one (i := 1) (by kernel_rfl) (by simp only [List.getElem?_toArray, List.getElem?_cons_succ, List.getElem?_cons_zero]; rfl) (fun K hK => ?_)
        go_simp
        refine (left_st g st' _ (by exact hstd)).mono ?_
        rintro e w6 ⟨rfl, rfl⟩
        go_simp
        refine hK.out _ _ (Ext.refl _) ?_
        clear hK K
        try simp only [Act.put, List.setIfInBounds_toArray, List.set_cons_zero, List.set_cons_succ]
        (refine takeE Ext.tr 5 (by simp only [List.getElem?_toArray, List.getElem?_cons_succ, List.getElem?_cons_zero]; rfl) (by kernel_rfl) (by kernel_rfl) (by kernel_rfl) (by exact fun _ _ _ h => h) (by first | (refine Or.inl ⟨by rfl, ?_⟩; intro W hW; go_simp; try with_reducible rfl) | exact Or.inr ⟨by rfl, rfl⟩) ?_; try simp only [Act.put, List.setIfInBounds_toArray, List.set_cons_zero, List.set_cons_succ])
        (refine takeE Ext.tr 6 (by simp only [List.getElem?_toArray, List.getElem?_cons_succ, List.getElem?_cons_zero]; rfl) (by kernel_rfl) (by kernel_rfl) (by kernel_rfl) (by exact fun _ _ _ h => h) (by first | (refine Or.inl ⟨by rfl, ?_⟩; intro W hW; go_simp; try with_reducible rfl) | exact Or.inr ⟨by rfl, rfl⟩) ?_; try simp only [Act.put, List.setIfInBounds_toArray, List.set_cons_zero, List.set_cons_succ])
        (refine takeE Ext.tr 7 (by simp only [List.getElem?_toArray, List.getElem?_cons_succ, List.getElem?_cons_zero]; rfl) (by kernel_rfl) (by kernel_rfl) (by kernel_rfl) (by exact fun _ _ _ h => h) (by first | (refine Or.inl ⟨by rfl, ?_⟩; intro W hW; go_simp; try with_reducible rfl) | exact Or.inr ⟨by rfl, rfl⟩) ?_; try simp only [Act.put, List.setIfInBounds_toArray, List.set_cons_zero, List.set_cons_succ])
        (refine takeE Ext.tr 9 (by simp only [List.getElem?_toArray, List.getElem?_cons_succ, List.getElem?_cons_zero]; rfl) (by kernel_rfl) (by kernel_rfl) (by kernel_rfl) (by exact fun _ _ _ h => h) (by first | (refine Or.inl ⟨by rfl, ?_⟩; intro W hW; go_simp; try with_reducible rfl) | exact Or.inr ⟨by rfl, rfl⟩) ?_; try simp only [Act.put, List.setIfInBounds_toArray, List.set_cons_zero, List.set_cons_succ])
        (refine takeE Ext.tr 10 (by simp only [List.getElem?_toArray, List.getElem?_cons_succ, List.getElem?_cons_zero]; rfl) (by kernel_rfl) (by kernel_rfl) (by kernel_rfl) (by exact fun _ _ _ h => h) (by first | (refine Or.inl ⟨by rfl, ?_⟩; intro W hW; go_simp; try with_reducible rfl) | exact Or.inr ⟨by rfl, rfl⟩) ?_; try simp only [Act.put, List.setIfInBounds_toArray, List.set_cons_zero, List.set_cons_succ])
        refine wpAnyE_one (i := 8) (by kernel_rfl) (by simp only [List.getElem?_toArray, List.getElem?_cons_succ, List.getElem?_cons_zero]; rfl) (fun K hK => ?_)
        go_simp
        refine (bad_st g st' _ (by exact hstd)).mono ?_
        rintro e w6 ⟨rfl, rfl⟩
        go_simp
        refine hK.out _ _ (Ext.refl _) ?_
        clear hK K
        try simp only [Act.put, List.setIfInBounds_toArray, List.set_cons_zero, List.set_cons_succ]
        (refine takeE Ext.tr 11 (by simp only [List.getElem?_toArray, List.getElem?_cons_succ, List.getElem?_cons_zero]; rfl) (by kernel_rfl) (by kernel_rfl) (by kernel_rfl) (by exact fun _ _ _ h => h) (by first | (refine Or.inl ⟨by rfl, ?_⟩; intro W hW; go_simp; try with_reducible rfl) | exact Or.inr ⟨by rfl, rfl⟩) ?_; try simp only [Act.put, List.setIfInBounds_toArray, List.set_cons_zero, List.set_cons_succ])
        (refine takeE Ext.tr 12 (by simp only [List.getElem?_toArray, List.getElem?_cons_succ, List.getElem?_cons_zero]; rfl) (by kernel_rfl) (by kernel_rfl) (by kernel_rfl) (by exact fun _ _ _ h => h) (by first | (refine Or.inl ⟨by rfl, ?_⟩; intro W hW; go_simp; try with_reducible rfl) | exact Or.inr ⟨by rfl, rfl⟩) ?_; try simp only [Act.put, List.setIfInBounds_toArray, List.set_cons_zero, List.set_cons_succ])
        refine wpAnyE_done (by kernel_rfl) ?_ _
        clear k1 k2 hxd hsz hstd
        go_wp2_with fail
        go_roundg (60 - (k + 1))
        case measure => omega
        case rel => exact ⟨k + 1, st', rfl, by omega, by omega, by go_num, St.below ⟨hbw, hwg, hggr, hgrl, hstr, A, _, d, hx, hr, hAb⟩ hbd⟩
    · have hbw := hs.1
      clear hs HOP
      have hend : k = 60 ∨ n1 ≤ k := by omega
      have hnew : Blk (wr.alloc (.cells #[.slice none 0 0, .bool false] 52)) wr.heap.size (.slice none 0 0) false := heap_alloc_new wr _
      have hbn := hbw.alloc hbw.size (.cells #[.slice none 0 0, .bool false] 52)
      have hsz := hbw.size
      by_cases hk1 : k < n1
      case pos =>
        obtain rfl : k = 60 := by omega
        clear hlt hend
        go_wp2_with fail
        refine (bad_nil _).mono ?_
        rintro e w' ⟨rfl, rfl⟩
        go_wp2_with fail
        refine (bad_at _ _ _ _ (by exact hnew)).mono ?_
        rintro e w' ⟨rfl, rfl⟩
        go_wp2_with fail
        refine (num_nil _ _ (by decide)).mono ?_
        rintro e w' ⟨rfl, rfl⟩
        go_wp2_with fail
        refine (take_bad _ _ _ (by exact ⟨_, hnew⟩)).mono ?_
        rintro e w7 ⟨v7, rfl, hown7, hbad7, hw7⟩
        obtain ⟨A7, c7, rfl, -⟩ := hown7.rd (by simp)
        go_wp2_with fail
        refine (left_nil _).mono ?_
        rintro e w' ⟨rfl, rfl⟩
        go_wp2_with fail
        obtain ⟨v8, hv8⟩ := hbad7
        refine (left_bad _ _ _ (by exact hv8)).mono ?_
        rintro e w' ⟨rfl, rfl⟩
        go_wp2
        go_ret
        exact ⟨rfl, hbn.trans (hw7.below hsz (by simp; omega))⟩
      case neg =>
        clear hlt hend
        go_wp2_with fail
        refine (bad_nil _).mono ?_
        rintro e w' ⟨rfl, rfl⟩
        go_wp2_with fail
        refine (bad_at _ _ _ _ (by exact hnew)).mono ?_
        rintro e w' ⟨rfl, rfl⟩
        go_wp2_with fail
        refine (num_nil _ _ (by decide)).mono ?_
        rintro e w' ⟨rfl, rfl⟩
        go_wp2_with fail
        refine (take_bad _ _ _ (by exact ⟨_, hnew⟩)).mono ?_
        rintro e w7 ⟨v7, rfl, hown7, hbad7, hw7⟩
        obtain ⟨A7, c7, rfl, -⟩ := hown7.rd (by simp)
        go_wp2_with fail
        refine (left_nil _).mono ?_
        rintro e w' ⟨rfl, rfl⟩
        go_wp2_with fail
        obtain ⟨v8, hv8⟩ := hbad7
        refine (left_bad _ _ _ (by exact hv8)).mono ?_
        rintro e w' ⟨rfl, rfl⟩
        go_wp2
        go_ret
        exact ⟨rfl, hbn.trans (hw7.below hsz (by simp; omega))⟩
end Go.Proofs.Ytbphpfelinllhaa
