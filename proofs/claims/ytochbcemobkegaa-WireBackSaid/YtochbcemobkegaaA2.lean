/- What adds bytes to a pair of sums. -/
import Derived.Test.YtochbcemobkegaaA1
set_option linter.unusedSimpArgs false
set_option linter.unusedVariables false
namespace Go.Proofs.Ytochbcemobkegaa
open Go.RowKit Go.Shelf
attribute [local go_sem] Oper.semAt_some

/-- Adler's two sums go on. -/
def adA (a b : Int) (l : List Int) : Int := rawA a b l % 65521
def adB (a b : Int) (l : List Int) : Int := rawB a b l % 65521
def pr (a b : Int) (r : List Value) : List Value := .int .u64 a :: .int .u64 b :: r
theorem raw_small (a b : Int) (k : Nat) (hk : k ≤ 65536) (ha0 : 0 ≤ a) (ha : a < 65521) (hb : b < 65521) (s : Int) (h : s ≤ b + k * (a + 256 * k)) : s < 2000000000000 := by
  have h1 : (k : Int) * (a + 256 * k) ≤ 65536 * (65521 + 256 * 65536) := by
    refine Int.le_trans (Int.mul_le_mul_of_nonneg_left (c := (k : Int)) (show a + 256 * (k : Int) ≤ 65521 + 256 * 65536 from by omega) (by omega)) ?_
    exact Int.mul_le_mul_of_nonneg_right (by omega) (by omega)
  omega
/-- Between two rounds: the pair, what lies elsewhere, the box of the pair's address. -/
def AddI (T g : Nat) (a b : Int) (r : List Value) (xs : List Int) (w : World) (pre : List Unit) (W : World) : Prop :=
  Bk W T g (if pre.isEmpty then pr a b r else pr (adA a b xs) (adB a b xs) r) ∧ Wr g w W ∧ Bk W 82 w.heap.size [.pointer (some ⟨g, 0, none⟩)] ∧ w.heap.size + 3 ≤ W.heap.size
theorem addI_own {T g : Nat} {a b : Int} {r : List Value} {xs : List Int} {w : World} {B : Nat} (hB : w.heap.size < B) (hg : g < w.heap.size) : OwnFrom B (AddI T g a b r xs w) := by
  rintro s W W' row ⟨h1, h2, h3, h4⟩ hw hr
  refine ⟨(hw.block g h1.lt (fun e => ?_)).trans h1, ⟨hw.os.trans h2.os, hw.tape.trans h2.tape, hw.output.trans h2.output, Nat.le_trans h2.size hw.size, fun k hk hn => ?_⟩, (hw.block _ h3.lt (fun e => ?_)).trans h3, Nat.le_trans h4 hw.size⟩
  · have := (hr g e.symm).1; omega
  · exact (hw.block k (by have := h2.size; omega) (fun e => by have := (hr k e.symm).1; omega)).trans (h2.block k hk hn)
  · have := (hr _ e.symm).1; omega

set_option maxRecDepth 100000 in
set_option maxHeartbeats 4000000 in
theorem add_some (g T : Nat) (a b : Int) (r : List Value) (A : Option Addr) (n c : Nat) (xs : List Int) (w : World) (hp : Bk w T g (pr a b r)) (ha : 0 ≤ a ∧ a < 65521) (hb : 0 ≤ b ∧ b < 65521)
    (h : Rd .u8 w A n c xs) (hA : ∀ ad, A = some ad → ad.block ≠ g) (hn : 0 < n) (hn6 : n ≤ 65536) :
    Calls Try.prog 47 #[.pointer (some ⟨g, 0, none⟩), .slice A n c] w fun e w' => (∃ v, e = .returned v) ∧ Bk w' T g (pr (adA a b xs) (adB a b xs) r) ∧ Wr g w w' := by
  have hc := h.2.1
  have hm := h.2.2.1
  have hok := okB_of h.2.2.2.2.1
  have hl := h.1
  refine (callsIn_wide (n := 5)).1 ?_
  refine callsIn_of_wp_marks Try.func47 rfl trivial ?_ rfl
  simp only [Try.ntmps47, List.size_toArray, List.length_cons, List.length_nil, Nat.reduceAdd, Nat.reduceSub, Array.replicate_succ, Array.replicate_zero, List.push_toArray, List.append_toArray, List.nil_append, List.cons_append]
  gi_wp2
  refine ⟨trivial, (chunk_any A n c _ _).mono ?_⟩
  rintro e w' ⟨rfl, rfl⟩
  gi_wp2
  obtain ⟨W0, hW0⟩ : ∃ W0, W0 = ((w.alloc (.cells #[.pointer (some ⟨g, 0, none⟩)] 82)).alloc (.cells #[.slice A n c] 23)).alloc (.cells #[.int .i64 65536] 3) := ⟨_, rfl⟩
  have hs0 : W0.heap.size = w.heap.size + 3 := by rw [hW0]; simp
  have hb0 : Below w.heap.size w W0 := by rw [hW0]; exact (((Below.refl _ w).alloc (Nat.le_refl _) _).alloc (by simp) _).alloc (by simp; omega) _
  have p0 : Bk W0 82 w.heap.size [.pointer (some ⟨g, 0, none⟩)] := by rw [hW0]; exact ((Bk.new w 82 [.pointer (some ⟨g, 0, none⟩)]).alloc _).alloc _
  have p1 : W0.cell? ⟨w.heap.size + 1, 0, none⟩ = some (.slice A n c) := by
    have := ((Bk.new (w.alloc (.cells #[.pointer (some ⟨g, 0, none⟩)] 82)) 23 [.slice A n c]).alloc (.cells #[.int .i64 65536] 3)).cell 0 rfl
    rw [hW0]; simpa using this
  have p2 : W0.cell? ⟨w.heap.size + 2, 0, none⟩ = some (.int .i64 65536) := by
    have := (Bk.new ((w.alloc (.cells #[.pointer (some ⟨g, 0, none⟩)] 82)).alloc (.cells #[.slice A n c] 23)) 3 [.int .i64 65536]).cell 0 rfl
    rw [hW0]; simpa using this
  rw [← hW0]
  have hg := hp.lt
  refine wpIn_rangeFunc_ownF rfl (by decide) (gf := 59) (lb := #[.pointer (some ⟨w.heap.size + 1, 0, none⟩), .pointer (some ⟨w.heap.size + 1 + 1, 0, none⟩)]) rfl trivial (enters_of Try.func59 (by kernel_rfl) rfl)
    (chunk1_one (5 - 1) (by decide) (w.heap.size + 1) (w.heap.size + 1 + 1) A n c hn hn6 hc hm W0 (by omega) (by omega) p1 p2) KpB.trans (KpB.put (by omega) (by omega)) (Below.refl _ _) (fun _ => rfl)
    (AddI T g a b r xs w) (fun _ _ _ => False) (addI_own (by omega) hg) (fun _ _ _ _ _ hs _ _ => hs) ⟨hp.keep hb0 hg, Wr.of_below hb0, p0, by omega⟩
    (fun _ => { tmps := #[.pointer (some ⟨g, 0, none⟩), .slice A n c, .pointer (some ⟨w.heap.size, 0, none⟩), undef, .slice A n n, undef, undef, undef, undef, .slice A n c, .func (.func 59) #[] #[.pointer (some ⟨w.heap.size + 1, 0, none⟩), .pointer (some ⟨w.heap.size + 1 + 1, 0, none⟩)], .slice A n n, undef, undef, undef, undef, undef, undef, undef, undef, undef, undef, undef, undef, undef, undef, undef, undef, undef, undef, undef, undef, undef, undef, undef, undef, undef, undef, undef, undef, undef, undef, undef, undef], defers := [] }) ?assign ?body ?done ?stop
  case assign =>
    intro l x W K hK
    gi_wp2
    exact hK
  case body =>
    rintro l pre x W ⟨h1, h2, h3, h4⟩ hpre
    obtain rfl : pre = [] := List.eq_nil_of_length_eq_zero (by omega)
    have q0 : W.cell? ⟨w.heap.size, 0, none⟩ = some (.pointer (some ⟨g, 0, none⟩)) := h3.cell 0 rfl
    have h1' : Bk W T g (pr a b r) := h1
    clear h1 hpre
    gi_wp2
    refine wpIn_region_E Ext (by kernel_rfl) (by kernel_rfl) (fun wd hbd hsz => ?_)
    have hq := h3.below hbd
    have hr := h1'.below hbd
    have k1 := fun W' (hW : Ext wd W') => (hq.below hW).cell 0 rfl
    have k2 := fun W' (hW : Ext wd W') => (hr.below hW).cell 0 rfl
    have k3 := fun W' (hW : Ext wd W') => (hr.below hW).cell 1 rfl
    (refine takeE Ext.tr 0 (by simp only [List.getElem?_toArray, List.getElem?_cons_succ, List.getElem?_cons_zero]; rfl) (by kernel_rfl) (by kernel_rfl) (by kernel_rfl) (by exact fun _ _ _ h => h) (by first | (refine Or.inl ⟨by rfl, ?_⟩; intro W hW; go_simp; try with_reducible rfl) | exact Or.inr ⟨by rfl, rfl⟩) ?_; try simp only [Act.put, List.setIfInBounds_toArray, List.set_cons_zero, List.set_cons_succ])
    (refine takeE Ext.tr 4 (by simp only [List.getElem?_toArray, List.getElem?_cons_succ, List.getElem?_cons_zero]; rfl) (by kernel_rfl) (by kernel_rfl) (by kernel_rfl) (by exact fun _ _ _ h => h) (by first | (refine Or.inl ⟨by rfl, ?_⟩; intro W hW; go_simp; try with_reducible rfl) | exact Or.inr ⟨by rfl, rfl⟩) ?_; try simp only [Act.put, List.setIfInBounds_toArray, List.set_cons_zero, List.set_cons_succ])
    (refine takeE Ext.tr 1 (by simp only [List.getElem?_toArray, List.getElem?_cons_succ, List.getElem?_cons_zero]; rfl) (by kernel_rfl) (by kernel_rfl) (by kernel_rfl) (by exact fun _ _ _ h => h) (by first | (refine Or.inl ⟨by rfl, ?_⟩; intro W hW; go_simp; try with_reducible rfl) | exact Or.inr ⟨by rfl, rfl⟩) ?_; try simp only [Act.put, List.setIfInBounds_toArray, List.set_cons_zero, List.set_cons_succ])
    (refine takeE Ext.tr 5 (by simp only [List.getElem?_toArray, List.getElem?_cons_succ, List.getElem?_cons_zero]; rfl) (by kernel_rfl) (by kernel_rfl) (by kernel_rfl) (by exact fun _ _ _ h => h) (by first | (refine Or.inl ⟨by rfl, ?_⟩; intro W hW; go_simp; try with_reducible rfl) | exact Or.inr ⟨by rfl, rfl⟩) ?_; try simp only [Act.put, List.setIfInBounds_toArray, List.set_cons_zero, List.set_cons_succ])
    (refine takeE Ext.tr 2 (by simp only [List.getElem?_toArray, List.getElem?_cons_succ, List.getElem?_cons_zero]; rfl) (by kernel_rfl) (by kernel_rfl) (by kernel_rfl) (by exact fun _ _ _ h => h) (by first | (refine Or.inl ⟨by rfl, ?_⟩; intro W hW; go_simp; try with_reducible rfl) | exact Or.inr ⟨by rfl, rfl⟩) ?_; try simp only [Act.put, List.setIfInBounds_toArray, List.set_cons_zero, List.set_cons_succ])
    (refine takeE Ext.tr 6 (by simp only [List.getElem?_toArray, List.getElem?_cons_succ, List.getElem?_cons_zero]; rfl) (by kernel_rfl) (by kernel_rfl) (by kernel_rfl) (by exact fun _ _ _ h => h) (by first | (refine Or.inl ⟨by rfl, ?_⟩; intro W hW; go_simp; try with_reducible rfl) | exact Or.inr ⟨by rfl, rfl⟩) ?_; try simp only [Act.put, List.setIfInBounds_toArray, List.set_cons_zero, List.set_cons_succ])
    (refine takeE Ext.tr 3 (by simp only [List.getElem?_toArray, List.getElem?_cons_succ, List.getElem?_cons_zero]; rfl) (by kernel_rfl) (by kernel_rfl) (by kernel_rfl) (by exact fun _ _ _ h => h) (by first | (refine Or.inl ⟨by rfl, ?_⟩; intro W hW; go_simp; try with_reducible rfl) | exact Or.inr ⟨by rfl, rfl⟩) ?_; try simp only [Act.put, List.setIfInBounds_toArray, List.set_cons_zero, List.set_cons_succ])
    (refine takeE Ext.tr 7 (by simp only [List.getElem?_toArray, List.getElem?_cons_succ, List.getElem?_cons_zero]; rfl) (by kernel_rfl) (by kernel_rfl) (by kernel_rfl) (by exact fun _ _ _ h => h) (by first | (refine Or.inl ⟨by rfl, ?_⟩; intro W hW; go_simp; try with_reducible rfl) | exact Or.inr ⟨by rfl, rfl⟩) ?_; try simp only [Act.put, List.setIfInBounds_toArray, List.set_cons_zero, List.set_cons_succ])
    (refine takeE Ext.tr 8 (by simp only [List.getElem?_toArray, List.getElem?_cons_succ, List.getElem?_cons_zero]; rfl) (by kernel_rfl) (by kernel_rfl) (by kernel_rfl) (by exact fun _ _ _ h => h) (by first | (refine Or.inl ⟨by rfl, ?_⟩; intro W hW; go_simp; try with_reducible rfl) | exact Or.inr ⟨by rfl, rfl⟩) ?_; try simp only [Act.put, List.setIfInBounds_toArray, List.set_cons_zero, List.set_cons_succ])
    (refine takeE Ext.tr 9 (by simp only [List.getElem?_toArray, List.getElem?_cons_succ, List.getElem?_cons_zero]; rfl) (by kernel_rfl) (by kernel_rfl) (by kernel_rfl) (by exact fun _ _ _ h => h) (by first | (refine Or.inl ⟨by rfl, ?_⟩; intro W hW; go_simp; try with_reducible rfl) | exact Or.inr ⟨by rfl, rfl⟩) ?_; try simp only [Act.put, List.setIfInBounds_toArray, List.set_cons_zero, List.set_cons_succ])
    refine noOut_done (by kernel_rfl) ?_ _
    clear k1 k2 k3
    have h3 := hq
    have h1' := hr
    have hE := hbd
    clear hq hr
    gi_wp2
    gi_loop [5, 6, 22] (fun ta tb ti => ∃ k : Nat, k ≤ n ∧ ti = .int .i64 k ∧ ta = .int .u64 (rawA a b (xs.take k)) ∧ tb = .int .u64 (rawB a b (xs.take k))) (fun _ _ i => n - (intOf i).toNat)
    case atStart => exact ⟨0, Nat.zero_le _, rfl, rfl, rfl⟩
    case round =>
      obtain ⟨k, hk, rfl, rfl, rfl⟩ := hrel
      by_cases hlt : k < n
      · obtain ⟨x0, hx0, hx1, hx2⟩ : ∃ x, x = xs[k]'(by omega) ∧ 0 ≤ x ∧ x < 256 := ⟨_, rfl, u8_bounds (h.2.2.2.2.1 _ (List.getElem_mem _))⟩
        obtain ⟨ga, o, rfl, hga, hcell⟩ := h.cell hlt
        have hne : ga ≠ g := hA _ rfl
        have hcd : wd.cell? ⟨ga, o + k, none⟩ = some (.int .u8 x0) := by
          rw [hE.cell (p := ⟨ga, o + k, none⟩) (Nat.lt_of_lt_of_le hga h2.size), wr_cell h2 (p := ⟨ga, o + k, none⟩) hne hga, hcell, hx0]
          simp [show k < xs.length from by omega]
        have htk := raw_take a b xs k (by omega)
        have hbd := raw_bounds a b (xs.take k) (okB_take hok k) ha.1 hb.1
        have hlk : (xs.take k).length = k := by simp; omega
        rw [hlk] at hbd
        rw [← hx0] at htk
        have HT := Lib.hid htk
        obtain ⟨⟨hA0, hA1⟩, hB0, hB1⟩ := hbd
        have hB2 := raw_small a b k (by omega) ha.1 (by omega) hb.2 (rawB a b (xs.take k)) hB1
        generalize hsa : rawA a b (xs.take k) = sa at *
        generalize hsb : rawB a b (xs.take k) = sb at *
        have HX := Lib.hid hx0
        have HSa := Lib.hid hsa
        have HSb := Lib.hid hsb
        clear hx0 htk hsa hsb hlk hcell hB1 h1' h3
        gi_wp2
        go_round
        case rel => exact ⟨k + 1, by omega, by go_num, by rw [HT.out.1], by rw [HT.out.2]⟩
        case measure => simp [intOf]; omega
      · obtain rfl : k = n := by omega
        rw [List.take_of_length_le (by omega)]
        obtain ⟨⟨hA0, hA1⟩, hB0, hB1⟩ := raw_bounds a b xs hok ha.1 hb.1
        have hB2 := raw_small a b k hn6 ha.1 (by omega) hb.2 (rawB a b xs) (by rw [hl] at hB1; exact hB1)
        have HL := Lib.hid hl
        rw [hl] at hA1
        clear hlt hk hB1 hl hbd hsz p0 p1 p2 hW0 hs0
        gi_wp2
        refine wpIn_region_E (Wr g) (by kernel_rfl) (by kernel_rfl) (fun wd hbd hsz => ?_)
        have hq := h3.below hbd
        have hr := h1'.below hbd
        have k1 := fun W' (hW : Wr g wd W') => (hq.wr hW (by omega)).cell 0 rfl
        have k2 := hr.free 0
        have k4 := hr.cell 0 rfl
        have hr1 := hr.set 0 (.int .u64 ((rawA a b xs).tmod 65521))
        have k3 := hr1.free 1
        have k5 := hr1.cell 1 rfl
        (refine takeE (wrTr g) 0 (by simp only [List.getElem?_toArray, List.getElem?_cons_succ, List.getElem?_cons_zero]; rfl) (by kernel_rfl) (by kernel_rfl) (by kernel_rfl) (by exact fun _ _ _ h => h) (by first | (refine Or.inl ⟨by rfl, ?_⟩; intro W hW; go_simp; try with_reducible rfl) | exact Or.inr ⟨by rfl, rfl⟩) ?_; try simp only [Act.put, List.setIfInBounds_toArray, List.set_cons_zero, List.set_cons_succ])
        (refine takeE (wrTr g) 1 (by simp only [List.getElem?_toArray, List.getElem?_cons_succ, List.getElem?_cons_zero]; rfl) (by kernel_rfl) (by kernel_rfl) (by kernel_rfl) (by exact fun _ _ _ h => h) (by first | (refine Or.inl ⟨by rfl, ?_⟩; intro W hW; go_simp; try with_reducible rfl) | exact Or.inr ⟨by rfl, rfl⟩) ?_; try simp only [Act.put, List.setIfInBounds_toArray, List.set_cons_zero, List.set_cons_succ])
        (refine takeE (wrTr g) 2 (by simp only [List.getElem?_toArray, List.getElem?_cons_succ, List.getElem?_cons_zero]; rfl) (by kernel_rfl) (by kernel_rfl) (by kernel_rfl) (by exact fun _ _ _ h => h) (by first | (refine Or.inl ⟨by rfl, ?_⟩; intro W hW; go_simp; try with_reducible rfl) | exact Or.inr ⟨by rfl, rfl⟩) ?_; try simp only [Act.put, List.setIfInBounds_toArray, List.set_cons_zero, List.set_cons_succ])
        (refine takeE (wrTr g) 4 (by simp only [List.getElem?_toArray, List.getElem?_cons_succ, List.getElem?_cons_zero]; rfl) (by kernel_rfl) (by kernel_rfl) (by kernel_rfl) (by exact fun _ _ _ h => h) (by first | (refine Or.inl ⟨by rfl, ?_⟩; intro W hW; go_simp; try with_reducible rfl) | exact Or.inr ⟨by rfl, rfl⟩) ?_; try simp only [Act.put, List.setIfInBounds_toArray, List.set_cons_zero, List.set_cons_succ])
        (refine takeE (wrTr g) 3 (by simp only [List.getElem?_toArray, List.getElem?_cons_succ, List.getElem?_cons_zero]; rfl) (by kernel_rfl) (by kernel_rfl) (by kernel_rfl) (by exact fun _ _ _ h => h) (by first | (refine Or.inl ⟨by rfl, ?_⟩; intro W hW; go_simp; try with_reducible rfl) | exact Or.inr ⟨by rfl, rfl⟩) ?_; try simp only [Act.put, List.setIfInBounds_toArray, List.set_cons_zero, List.set_cons_succ])
        (refine takeE (wrTr g) 5 (by simp only [List.getElem?_toArray, List.getElem?_cons_succ, List.getElem?_cons_zero]; rfl) (by kernel_rfl) (by kernel_rfl) (by kernel_rfl) (by exact fun _ _ _ h => h) (by first | (refine Or.inl ⟨by rfl, ?_⟩; intro W hW; go_simp; try with_reducible rfl) | exact Or.inr ⟨by rfl, rfl⟩) ?_; try simp only [Act.put, List.setIfInBounds_toArray, List.set_cons_zero, List.set_cons_succ])
        (refine takeE (wrTr g) 6 (by simp only [List.getElem?_toArray, List.getElem?_cons_succ, List.getElem?_cons_zero]; rfl) (by kernel_rfl) (by kernel_rfl) (by kernel_rfl) (by exact fun _ _ _ h => h) (by first | (refine Or.inl ⟨by rfl, ?_⟩; intro W hW; go_simp; try with_reducible rfl) | exact Or.inr ⟨by rfl, rfl⟩) ?_; try simp only [Act.put, List.setIfInBounds_toArray, List.set_cons_zero, List.set_cons_succ])
        (refine takeE (wrTr g) 7 (by simp only [List.getElem?_toArray, List.getElem?_cons_succ, List.getElem?_cons_zero]; rfl) (by kernel_rfl) (by kernel_rfl) (by kernel_rfl) (by exact fun _ _ _ h => h) (by first | (refine Or.inl ⟨by rfl, ?_⟩; intro W hW; go_simp; try with_reducible rfl) | exact Or.inr ⟨by rfl, rfl⟩) ?_; try simp only [Act.put, List.setIfInBounds_toArray, List.set_cons_zero, List.set_cons_succ])
        refine wpAnyE_one (i := 8) (by kernel_rfl) (by simp only [List.getElem?_toArray, List.getElem?_cons_succ, List.getElem?_cons_zero]; rfl) (fun K hK => ?_)
        go_simp
        refine hK.out _ _ (Wr.set _ _ _ _) ?_
        clear hK K
        try simp only [Act.put, List.setIfInBounds_toArray, List.set_cons_zero, List.set_cons_succ]
        (refine takeE (wrTr g) 9 (by simp only [List.getElem?_toArray, List.getElem?_cons_succ, List.getElem?_cons_zero]; rfl) (by kernel_rfl) (by kernel_rfl) (by kernel_rfl) (by exact fun _ _ _ h => h) (by first | (refine Or.inl ⟨by rfl, ?_⟩; intro W hW; go_simp; try with_reducible rfl) | exact Or.inr ⟨by rfl, rfl⟩) ?_; try simp only [Act.put, List.setIfInBounds_toArray, List.set_cons_zero, List.set_cons_succ])
        (refine takeE (wrTr g) 10 (by simp only [List.getElem?_toArray, List.getElem?_cons_succ, List.getElem?_cons_zero]; rfl) (by kernel_rfl) (by kernel_rfl) (by kernel_rfl) (by exact fun _ _ _ h => h) (by first | (refine Or.inl ⟨by rfl, ?_⟩; intro W hW; go_simp; try with_reducible rfl) | exact Or.inr ⟨by rfl, rfl⟩) ?_; try simp only [Act.put, List.setIfInBounds_toArray, List.set_cons_zero, List.set_cons_succ])
        refine wpAnyE_one (i := 11) (by kernel_rfl) (by simp only [List.getElem?_toArray, List.getElem?_cons_succ, List.getElem?_cons_zero]; rfl) (fun K hK => ?_)
        go_simp
        refine hK.out _ _ (Wr.set _ _ _ _) ?_
        clear hK K
        try simp only [Act.put, List.setIfInBounds_toArray, List.set_cons_zero, List.set_cons_succ]
        refine noOut_done (by kernel_rfl) ?_ _
        clear k1 k2 k3 k4 k5
        gi_wp2
        have hr2 := hr1.set 1 (.int .u64 ((rawB a b xs).tmod 65521))
        have hww : Wr g wd ((wd.setCell ⟨g, 0, none⟩ (.int .u64 ((rawA a b xs).tmod 65521))).setCell ⟨g, 1, none⟩ (.int .u64 ((rawB a b xs).tmod 65521))) :=
          (Wr.set _ _ _ _).trans (Wr.set _ _ _ _) (by simp)
        have hEE : Below W.heap.size W wd := hE.trans (hbd.mono hE.size)
        have hW2 : Wr g W _ := (Wr.of_below hEE).trans hww hEE.size
        refine ⟨(keepsOthers_of hEE).trans ((KeepsOthers.setCell _ _ _).trans (KeepsOthers.setCell _ _ _)), ⟨hW2.block _ (by omega) (by intro e; injection e with e; omega), hW2.block _ (by omega) (by intro e; injection e with e; omega)⟩, ?_, h2.trans hW2 h2.size, hq.wr hww (by omega), by have := hW2.size; omega⟩
        rw [Int.tmod_eq_emod_of_nonneg hA0, Int.tmod_eq_emod_of_nonneg hB0] at hr2 ⊢
        exact hr2
  case done =>
    rintro D ys W hD rfl ⟨h1, h2, h3, h4⟩ hK
    gi_wp2
    refine ⟨by simp, .inl ⟨_, _, rfl, run_takeDeferred hK, ?_⟩⟩
    refine ⟨_, results_none rfl _ _ _, ⟨_, rfl⟩, (World.putObj_heap_other (by omega)).trans h1, h2.os, h2.tape, h2.output, by have := h2.size; simp [World.putObj]; omega, fun k hk hn => (World.putObj_heap_other (by omega)).trans (h2.block k hk hn)⟩
  case stop =>
    rintro D c' pre W hD _ h _
    exact h.elim
end Go.Proofs.Ytochbcemobkegaa
