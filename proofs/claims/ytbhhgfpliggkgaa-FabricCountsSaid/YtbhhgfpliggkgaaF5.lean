/- Packets are put into a fabric. -/
import Derived.Test.YtbhhgfpliggkgaaF4
import Derived.Test.YtbhhgfpliggkgaaLL
import Derived.Test.YtbhhgfpliggkgaaKK
set_option linter.unusedSimpArgs false
set_option linter.unusedVariables false
set_option maxRecDepth 100000
namespace Go.Proofs.Ytbhhgfpliggkgaa
open Go.RowKit Go.Shelf

/-- One packet more is put, and counted. -/
def FM.put1 (s : FM × (Nat → Int)) (x : Pk) : FM × (Nat → Int) := ((s.1.pnx x).sc (s.1.pvd x) ((s.1.pnx x).ct (s.1.pvd x) + 1), up s.2 (s.1.pvd x) (s.2 (s.1.pvd x) + 1))
def FM.puts (m : FM) (ks : List Pk) : FM × (Nat → Int) := ks.foldl FM.put1 (m, fun _ => 0)
theorem FM.puts_snoc (m : FM) (ks : List Pk) (x : Pk) : m.puts (ks ++ [x]) = FM.put1 (m.puts ks) x := by unfold FM.puts; rw [List.foldl_append]; rfl
theorem FM.into_ct (m : FM) (x : Pk) : (m.into x).ct = m.ct := by unfold FM.into; split <;> rfl
theorem FM.pnx_ct (m : FM) (x : Pk) : (m.pnx x).ct = m.ct := by
  unfold FM.pnx
  split
  · rw [FM.into_ct, FM.into_ct]
  · rw [FM.into_ct]
/-- Ports within their rooms, counts within bounds. -/
structure FMc (s : FM × (Nat → Int)) (L H : Nat) (B : Int) (n : Nat) : Prop where
  b : FMb s.1 L H (B + 2 * n)
  c : ∀ i, 0 ≤ s.1.ct i ∧ s.1.ct i ≤ B + n
  t : ∀ i, 0 ≤ s.2 i ∧ s.2 i ≤ n
theorem FMc.put1 {s : FM × (Nat → Int)} {L H n : Nat} {B : Int} (h : FMc s L H B n) (x : Pk) : FMc (FM.put1 s x) L H B (n + 1) := by
  refine ⟨?_, fun i => ?_, fun i => ?_⟩
  · have := h.b.pnx x
    rw [show B + 2 * ((n + 1 : Nat) : Int) = B + 2 * n + 2 by omega]
    exact this
  · show 0 ≤ up (s.1.pnx x).ct _ _ i ∧ up (s.1.pnx x).ct _ _ i ≤ _
    rw [FM.pnx_ct]
    have h1 := h.c i
    have h2 := h.c (s.1.pvd x)
    unfold up
    split <;> omega
  · show 0 ≤ up s.2 _ _ i ∧ up s.2 _ _ i ≤ _
    have h1 := h.t i
    have h2 := h.t (s.1.pvd x)
    unfold up
    split <;> omega
theorem FMc.start {m : FM} {L H : Nat} {B : Int} (h : FMb m L H B) (hc : ∀ i, 0 ≤ m.ct i ∧ m.ct i ≤ B) : FMc (m, fun _ => 0) L H B 0 :=
  ⟨by simpa using h, fun i => by have := hc i; simp; exact this, fun i => ⟨Int.le_refl _, Int.le_refl _⟩⟩
theorem FMc.take {m : FM} {L H : Nat} {B : Int} (h : FMb m L H B) (hc : ∀ i, 0 ≤ m.ct i ∧ m.ct i ≤ B) (ks : List Pk) : ∀ n, n ≤ ks.length → FMc (m.puts (ks.take n)) L H B n
  | 0, _ => FMc.start h hc
  | n + 1, hn => by
    rw [List.take_succ_eq_append_getElem (by omega), FM.puts_snoc]
    exact (FMc.take h hc ks n (by omega)).put1 _
theorem row5 : Row Try.prog 28 5 := ⟨⟨_, rfl, rfl⟩, by kernel_rfl⟩
theorem FM.keep_made (m : FM) (x : Pk) {k : Nat} (h : (m.pt k).isSome = true) : ((m.pnx x).pt k).isSome = true := by
  have hi : ∀ (m : FM) (x : Pk), (m.pt k).isSome = true → ((m.into x).pt k).isSome = true := fun m x h => by
    unfold FM.into
    split
    · exact h
    · unfold FM.sp set1
      dsimp only
      split
      · rfl
      · exact h
  unfold FM.pnx
  split
  · exact hi _ _ (hi _ _ h)
  · exact hi _ _ h
section
variable {F X F1 X1 G : Nat → Prop} {w w' w1 : World} {b : Nat} {m m1 : FM} {pp : Nat → Nat} {FF : Nat → Nat → Prop} {k L H : Nat} {a c : AM} {B C : Int} {A : Option Addr} {n d : Nat} {ks : List Pk}
theorem f_Put_none {P : Option Addr} {v : Value} (h : FbP F X w P FM.nobody pp FF) :
    Calls Try.prog 11 #[.pointer P, .slice A n d] w fun e w' => e = .returned (.agg (tabV 5 fun _ => 0).toArray) ∧ Below w.heap.size w w' := by
  have HM : Hid (∀ o o', Calls Try.prog 30 #[.pointer P] ((w.alloc o).alloc o') fun e w' => e = .returned (.bool false) ∧ (w.alloc o).alloc o' = w') := Lib.hid fun o o' => f_made (h.below (((Below.refl _ _).alloc (Nat.le_refl _) o).alloc (by simp) o'))
  clear h
  go_enter Try.func11, Try.ntmps11
  go_wp2_with (go_at_call 30; refine (HM.out _ _).mono ?_; rintro e w' ⟨rfl, rfl⟩)
  exact bodyPost_ret (v := .agg (tabV 5 fun _ => 0).toArray) (by simp [results, Try.results11, go_sem]; rfl) rfl ⟨rfl, ((Below.refl _ _).alloc (Nat.le_refl _) _).alloc (by simp) _⟩
theorem St.more (h : St F w w1) (hb : Below w.heap.size w1 w') : St F w w' := ⟨hb.os.trans h.os, hb.tape.trans h.tape, hb.output.trans h.output, Nat.le_trans h.size hb.size, fun k hk hn => (hb.block k hk).trans (h.block k hk hn)⟩
/-- What holds within Put, behind i packets: told in box g. -/
structure PI (F X : Nat → Prop) (w : World) (b : Nat) (m : FM) (t : Nat → Int) (pp : Nat → Nat) (wr : World) : Prop where
  fb : ∃ F' FF', FbC F' (fun k => (X k ∨ k = w.heap.size) ∨ k = w.heap.size + 1) wr b m pp FF' ∧ St F w wr ∧ Gr F F' w.heap.size ∧ ¬ F' w.heap.size ∧ ¬ F' (w.heap.size + 1)
  tl : Bk wr 28 (w.heap.size + 1) (tabV 5 t)
  rs : Bk wr 28 w.heap.size [.int .i64 0, .int .i64 0, .int .i64 0, .int .i64 0, .int .i64 0]
set_option maxHeartbeats 8000000 in
theorem f_Put (h : FbC F X w b m pp FF) (h0 : (m.pt 0).isSome = true) (hM : FMb m L H B) (hc : ∀ i, 0 ≤ m.ct i ∧ m.ct i ≤ B) (hB : B + 2 * n + 2 ≤ 1000000) (hl : SlP F w A n d ks) :
    Calls Try.prog 11 #[.pointer (some ⟨b, 0, none⟩), .slice A n d] w fun e w' => e = .returned (.agg (tabV 5 (m.puts ks).2).toArray) ∧ FDid F X w b (m.puts ks).1 pp w' := by
  have hb2 : ∀ o o', Below w.heap.size w ((w.alloc o).alloc o') := fun o o' => ((Below.refl _ _).alloc (Nat.le_refl _) o).alloc (by simp) o'
  have HMd : Hid (∀ o o', Calls Try.prog 30 #[.pointer (some ⟨b, 0, none⟩)] ((w.alloc o).alloc o') fun e w' => e = .returned (.bool true) ∧ (w.alloc o).alloc o' = w') := Lib.hid fun o o' => by
    have := f_made (h.below (hb2 o o')).fp
    rw [h0] at this; exact this
  have hln := hl.len
  have HS : Hid (PI F X w b m (fun _ => 0) pp ((w.alloc (.cells #[.int .i64 0, .int .i64 0, .int .i64 0, .int .i64 0, .int .i64 0] 28)).alloc (.cells #[.int .i64 0, .int .i64 0, .int .i64 0, .int .i64 0, .int .i64 0] 28))) := Lib.hid
    ⟨⟨F, FF, (h.box (g := w.heap.size) ((Below.refl _ _).alloc (Nat.le_refl _) _) (Nat.le_refl _) (by simp)).box (g := w.heap.size + 1) ((Below.refl _ _).alloc (Nat.le_refl _) _) (by simp) (by simp), St.ext (hb2 _ _), Gr.refl _ _, fun hf => by have := h.bd _ hf; omega, fun hf => by have := h.bd _ hf; omega⟩, by have := Bk.new (w.alloc (.cells #[.int .i64 0, .int .i64 0, .int .i64 0, .int .i64 0, .int .i64 0] 28)) 28 [.int .i64 0, .int .i64 0, .int .i64 0, .int .i64 0, .int .i64 0]; rw [World.size_alloc] at this; exact this, (Bk.new w 28 [.int .i64 0, .int .i64 0, .int .i64 0, .int .i64 0, .int .i64 0]).alloc _⟩
  have HC := Lib.hid (FMc.take hM hc ks)
  have HL := Lib.hid hl
  have HLN := Lib.hid hln
  have HFB := Lib.hid h.bd
  clear h h0 hM hc hb2 hl hln
  go_enter Try.func11, Try.ntmps11
  go_wp2_with (go_at_call 30; refine (HMd.out _ _).mono ?_; rintro e w' ⟨rfl, rfl⟩)
  go_loopw [15] (fun v wr => ∃ i : Nat, v = .int .i64 i ∧ i ≤ n ∧ PI F X w b (m.puts (ks.take i)).1 (m.puts (ks.take i)).2 pp wr) (fun v _ => n - (intOf v).toNat)
  case atStart => exact ⟨0, rfl, Nat.zero_le _, HS.out⟩
  case round =>
    obtain ⟨i, rfl, hi, hP⟩ := hrel
    by_cases hlt : i < n
    · have hlt' : (i : Int) < n := by omega
      obtain ⟨⟨F1, FF1, hf1, hs1, hg1, hn1, hm1⟩, ht1, hr1⟩ := hP
      have hl1 := HL.out.st hs1 hg1
      obtain ⟨g, o, q, rfl, hra, hq, hqk, hgl⟩ := hl1.row hlt
      have hb1 := (Below.refl wr.heap.size wr).alloc (Nat.le_refl _) (.cells (List.toArray [.int .i64 q.h.kd, .int .i64 q.h.fl, .int .i64 q.h.pa, .int .i64 q.h.sr, .int .i64 q.h.ds, .int .i64 q.h.cn, .int .i64 q.h.sq, .int .i64 q.h.pu, .slice q.A q.n q.c]) 65)
      have hx1 := Bk.new wr 65 [.int .i64 q.h.kd, .int .i64 q.h.fl, .int .i64 q.h.pa, .int .i64 q.h.sr, .int .i64 q.h.ds, .int .i64 q.h.cn, .int .i64 q.h.sq, .int .i64 q.h.pu, .slice q.A q.n q.c]
      have hM1 := HC.out i (by rw [HLN.out]; omega)
      have hsn : ks.take (i + 1) = ks.take i ++ [q.pk] := by
        rw [List.take_add_one, ← hqk]; rfl
      have HSn : Hid (m.puts (ks.take (i + 1)) = FM.put1 (m.puts (ks.take i)) q.pk) := Lib.hid (by rw [hsn, FM.puts_snoc])
      generalize m.puts (ks.take i) = s at *
      obtain ⟨m1, t1⟩ := s
      dsimp only at hf1 ht1 HSn
      have HPut := Lib.hid (f_put (hf1.below hb1) hM1.b (by omega) (hq.below hb1))
      have HT := Lib.hid (ht1.below hb1)
      have HR := Lib.hid (hr1.below hb1)
      have HS1 := Lib.hid (hs1.trans (St.ext hb1) (Gr.refl _ _))
      have HG1 := Lib.hid hg1
      have HM1 := Lib.hid hM1
      have HX1 := Lib.hid hx1
      have HFB1 := Lib.hid hf1.bd
      clear hf1 hs1 hg1 ht1 hr1 hl1 hq hqk hb1 hx1 hM1 hsn HS
      go_wp2_with (first
        | (with_reducible refine at_load 65 (.tmp 17) (by rfl) ?_; refine wpList_load_pk rowP rfl (.tmp 17) rfl q g (o + i * 9) rfl hra ?_)
        | (with_reducible refine at_load 65 (.tmp 7) (by rfl) ?_; refine wpList_load_pk rowP rfl (.tmp 7) rfl q wr.heap.size 0 rfl (Bk.pk (q := q) HX1.out) ?_))
      obtain ⟨v, hv⟩ : ∃ v, v = m1.pvd q.pk := ⟨_, rfl⟩
      rw [← hv] at HPut
      have hv5 : v < 5 := by have := m1.pvd_lt q.pk; omega
      have HV := Lib.hid hv
      clear hv
      refine HPut.out.mono ?_
      rintro e w2 ⟨rfl, F2, FF2, hf2, hs2, hg2⟩
      have ht2 := HT.out.st hs2 hm1
      have hr2 := HR.out.st hs2 hn1
      have hm2 : ¬ F2 (w.heap.size + 1) := hg2.not HT.out.lt hm1
      have hn2 : ¬ F2 w.heap.size := hg2.not HR.out.lt hn1
      have c1 := ht2.cell v (tabV_get 5 t1 hv5)
      have f1 := ht2.free v
      have hb1 : 0 ≤ t1 v ∧ t1 v ≤ i := HM1.out.t v
      have hct : 0 ≤ m1.ct v ∧ m1.ct v ≤ B + i := HM1.out.c v
      rw [← FM.pnx_ct m1 q.pk] at hct
      have HST : Hid (∀ u, (tabV 5 t1).set v (.int .i64 u) = tabV 5 (up t1 v u)) := Lib.hid fun u => tabV_set 5 t1 v u
      have HTW := Lib.hid (fun u : Int => ht2.set v (.int .i64 u))
      have HRW := Lib.hid (fun u : Value => hr2.far (p := ⟨w.heap.size + 1, v, none⟩) (by simp) u)
      have HFW := Lib.hid (fun u : Value => hf2.st (X1 := fun k => (X k ∨ k = w.heap.size) ∨ k = w.heap.size + 1) (St.setCell (F := (· = w.heap.size + 1)) w2 (a := ⟨w.heap.size + 1, v, none⟩) rfl u) (fun k hk e => hm2 (e ▸ hk)) (fun k hk => .inl (.inr hk)) (fun k hk => .inl hk) (fun k hk => by have := hf2.xb k hk; simpa [World.setCell] using this))
      have HSW := Lib.hid (fun u : Value => (HS1.out.trans hs2 HG1.out).more (show Below w.heap.size w2 (w2.setCell ⟨w.heap.size + 1, v, none⟩ u) from (Below.refl _ _).setCell (by simp) u))
      have HGW : Hid (Gr F F2 w.heap.size) := Lib.hid (HG1.out.trans hg2 HS1.out.size)
      have hv6 : (v : Int) < 5 := by omega
      clear hf2 hs2 hg2 ht2 hr2 HT HR HS1 HG1 HM1 HX1 HFB1 HPut
      obtain ⟨tv, htv⟩ : ∃ x, x = t1 v := ⟨_, rfl⟩
      rw [← htv] at c1 hb1
      have HTV := Lib.hid htv
      clear htv
      have hwt : IntKind.i64.wrap (tv + 1) = tv + 1 := by rw [IntKind.wrap_i64]; omega
      have hwc : IntKind.i64.wrap ((m1.pnx q.pk).ct v + 1) = (m1.pnx q.pk).ct v + 1 := by rw [IntKind.wrap_i64]; omega
      go_wp2
      refine wp_region_L Ext [10] (by kernel_rfl) (fun wd hbd hsz => ?_)
      have hf4 := (HFW.out (.int .i64 (tv + 1))).below hbd
      have k0 : ∀ W, Ext wd W → W.cell? ⟨b, 64 + v, none⟩ = some (.int .i64 ((m1.pnx q.pk).ct v)) := fun W hW => (hf4.bk.below hW).cell (64 + v) (FM.mem_ct _ _ hv5)
      have c0 := hf4.bk.cell (64 + v) (FM.mem_ct _ _ hv5)
      have f0 := hf4.bk.free (64 + v)
      obtain ⟨hf5, hs5⟩ := hf4.count hv5 ((m1.pnx q.pk).ct v + 1)
      have HPI : Hid (PI F X w b (m.puts (ks.take (i + 1))).1 (m.puts (ks.take (i + 1))).2 pp (wd.setCell ⟨b, 64 + v, none⟩ (.int .i64 ((m1.pnx q.pk).ct v + 1)))) := Lib.hid (by
        rw [HSn.out]
        have e2 : (FM.put1 (m1, t1) q.pk).1 = (m1.pnx q.pk).sc v ((m1.pnx q.pk).ct v + 1) := by rw [HV.out]; rfl
        have e3 : (FM.put1 (m1, t1) q.pk).2 = up t1 v (tv + 1) := by rw [HTV.out, HV.out]; rfl
        rw [e2, e3]
        have ht := (HTW.out (tv + 1)).below hbd
        rw [HST.out] at ht
        have hr := (HRW.out (.int .i64 (tv + 1))).below hbd
        refine ⟨⟨F2, FF2, hf5, ((HSW.out (.int .i64 (tv + 1))).trans (St.ext hbd) (Gr.refl _ _)).trans hs5 HGW.out, HGW.out, hn2, hm2⟩, ht.st hs5 hm2, hr.st hs5 hn2⟩)
      clear hf4 hf5 hs5 hsz hbd
      (refine takeL Ext.tr 0 (by simp only [List.getElem?_toArray, List.getElem?_cons_succ, List.getElem?_cons_zero]; rfl) (by kernel_rfl) (by kernel_rfl) (by kernel_rfl) (by kernel_rfl) (by exact fun _ _ _ h => h) (by first | (refine Or.inl ⟨by rfl, ?_⟩; intro W hW; go_simp; try with_reducible rfl) | exact Or.inr ⟨by rfl, rfl⟩) ?_; try simp only [Act.put, List.setIfInBounds_toArray, List.set_cons_zero, List.set_cons_succ])
      (refine takeL Ext.tr 1 (by simp only [List.getElem?_toArray, List.getElem?_cons_succ, List.getElem?_cons_zero]; rfl) (by kernel_rfl) (by kernel_rfl) (by kernel_rfl) (by kernel_rfl) (by exact fun _ _ _ h => h) (by first | (refine Or.inl ⟨by rfl, ?_⟩; intro W hW; go_simp; try with_reducible rfl) | exact Or.inr ⟨by rfl, rfl⟩) ?_; try simp only [Act.put, List.setIfInBounds_toArray, List.set_cons_zero, List.set_cons_succ])
      (refine takeL Ext.tr 2 (by simp only [List.getElem?_toArray, List.getElem?_cons_succ, List.getElem?_cons_zero]; rfl) (by kernel_rfl) (by kernel_rfl) (by kernel_rfl) (by kernel_rfl) (by exact fun _ _ _ h => h) (by first | (refine Or.inl ⟨by rfl, ?_⟩; intro W hW; go_simp; try with_reducible rfl) | exact Or.inr ⟨by rfl, rfl⟩) ?_; try simp only [Act.put, List.setIfInBounds_toArray, List.set_cons_zero, List.set_cons_succ])
      (refine takeL Ext.tr 7 (by simp only [List.getElem?_toArray, List.getElem?_cons_succ, List.getElem?_cons_zero]; rfl) (by kernel_rfl) (by kernel_rfl) (by kernel_rfl) (by kernel_rfl) (by exact fun _ _ _ h => h) (by first | (refine Or.inl ⟨by rfl, ?_⟩; intro W hW; go_simp; try with_reducible rfl) | exact Or.inr ⟨by rfl, rfl⟩) ?_; try simp only [Act.put, List.setIfInBounds_toArray, List.set_cons_zero, List.set_cons_succ])
      (refine takeL Ext.tr 3 (by simp only [List.getElem?_toArray, List.getElem?_cons_succ, List.getElem?_cons_zero]; rfl) (by kernel_rfl) (by kernel_rfl) (by kernel_rfl) (by kernel_rfl) (by exact fun _ _ _ h => h) (by first | (refine Or.inl ⟨by rfl, ?_⟩; intro W hW; go_simp; try with_reducible rfl) | exact Or.inr ⟨by rfl, rfl⟩) ?_; try simp only [Act.put, List.setIfInBounds_toArray, List.set_cons_zero, List.set_cons_succ])
      (refine takeL Ext.tr 8 (by simp only [List.getElem?_toArray, List.getElem?_cons_succ, List.getElem?_cons_zero]; rfl) (by kernel_rfl) (by kernel_rfl) (by kernel_rfl) (by kernel_rfl) (by exact fun _ _ _ h => h) (by first | (refine Or.inl ⟨by rfl, ?_⟩; intro W hW; go_simp; try with_reducible rfl) | exact Or.inr ⟨by rfl, rfl⟩) ?_; try simp only [Act.put, List.setIfInBounds_toArray, List.set_cons_zero, List.set_cons_succ])
      (refine takeL Ext.tr 4 (by simp only [List.getElem?_toArray, List.getElem?_cons_succ, List.getElem?_cons_zero]; rfl) (by kernel_rfl) (by kernel_rfl) (by kernel_rfl) (by kernel_rfl) (by exact fun _ _ _ h => h) (by first | (refine Or.inl ⟨by rfl, ?_⟩; intro W hW; go_simp; try with_reducible rfl) | exact Or.inr ⟨by rfl, rfl⟩) ?_; try simp only [Act.put, List.setIfInBounds_toArray, List.set_cons_zero, List.set_cons_succ])
      (refine takeL Ext.tr 5 (by simp only [List.getElem?_toArray, List.getElem?_cons_succ, List.getElem?_cons_zero]; rfl) (by kernel_rfl) (by kernel_rfl) (by kernel_rfl) (by kernel_rfl) (by exact fun _ _ _ h => h) (by first | (refine Or.inl ⟨by rfl, ?_⟩; intro W hW; go_simp; try with_reducible rfl) | exact Or.inr ⟨by rfl, rfl⟩) ?_; try simp only [Act.put, List.setIfInBounds_toArray, List.set_cons_zero, List.set_cons_succ])
      (refine takeL Ext.tr 6 (by simp only [List.getElem?_toArray, List.getElem?_cons_succ, List.getElem?_cons_zero]; rfl) (by kernel_rfl) (by kernel_rfl) (by kernel_rfl) (by kernel_rfl) (by exact fun _ _ _ h => h) (by first | (refine Or.inl ⟨by rfl, ?_⟩; intro W hW; go_simp; try with_reducible rfl) | exact Or.inr ⟨by rfl, rfl⟩) ?_; try simp only [Act.put, List.setIfInBounds_toArray, List.set_cons_zero, List.set_cons_succ])
      (refine takeL Ext.tr 9 (by simp only [List.getElem?_toArray, List.getElem?_cons_succ, List.getElem?_cons_zero]; rfl) (by kernel_rfl) (by kernel_rfl) (by kernel_rfl) (by kernel_rfl) (by exact fun _ _ _ h => h) (by first | (refine Or.inl ⟨by rfl, ?_⟩; intro W hW; go_simp; try with_reducible rfl) | exact Or.inr ⟨by rfl, rfl⟩) ?_; try simp only [Act.put, List.setIfInBounds_toArray, List.set_cons_zero, List.set_cons_succ])
      refine wpAnyL_one (i := 10) (by kernel_rfl) (by simp only [List.getElem?_toArray, List.getElem?_cons_succ, List.getElem?_cons_zero]; rfl) (fun K hK => ?_)
      go_simp
      refine hK.out _ _ (.inl (by decide)) ?_
      clear hK K
      try simp only [Act.put, List.setIfInBounds_toArray, List.set_cons_zero, List.set_cons_succ]
      refine wpAnyL_done (by kernel_rfl) ?_ _
      skip
      clear c1 f1 hwt hwc k0 f0 c0
      go_wp2
      go_roundw
      case rel => exact ⟨i + 1, by go_num, by omega, HPI.out⟩
      case measure => simp [intOf]; omega
    · obtain rfl : i = n := by omega
      have e : ks.take i = ks := List.take_of_length_le (by rw [HLN.out]; exact Nat.le_refl _)
      rw [e] at hP
      obtain ⟨⟨F1, FF1, hf1, hs1, hg1, hn1, hm1⟩, ht1, hr1⟩ := hP
      have HE : Hid (FbC F1 (fun k => (X k ∨ k = w.heap.size) ∨ k = w.heap.size + 1) wr b (m.puts ks).1 pp FF1 ∧ St F w wr ∧ Gr F F1 w.heap.size) := Lib.hid ⟨hf1, hs1, hg1⟩
      have HN := Lib.hid hn1
      clear hf1 hs1 hg1 hm1 e HS hi hn1
      go_wp2_with (first
        | (with_reducible refine at_load 28 (.tmp 5) (by rfl) ?_; refine wpList_load_bk row5 rfl (.tmp 5) rfl (w.heap.size + 1) 0 rfl ht1 (tabV 5 (m.puts ks).2) (tabV_len _ _) rfl ?_)
        | (with_reducible refine at_store 28 (.tmp 4) (.tmp 38) (by rfl) ?_; refine wpList_store_bk row5 rfl (.tmp 4) (.tmp 38) rfl w.heap.size 0 rfl hr1 (tabV 5 (m.puts ks).2) rfl (tabV_len _ _) (by decide) (tabV_one _ _) ?_; rintro w9 hz9 hw9))
      rw [lay_all _ _ (by rw [tabV_len]; rfl)] at hz9
      refine bodyPost_ret (results_cell rfl rfl (row5.load hz9 0 (tabV_len _ _) rfl)) rfl ⟨rfl, ?_⟩
      obtain ⟨h1, h2, h3⟩ := HE.out
      have hst : St (· = w.heap.size) wr w9 := wr_st hw9 rfl
      exact ⟨F1, FF1, h1.st hst (fun k hk e => HN.out (e ▸ hk)) (fun k hk => .inl (.inl (.inr hk))) (fun k hk => .inl (.inl (.inl hk))) (fun k hk => Nat.lt_of_lt_of_le (h1.xb k (.inl (.inl hk))) hst.size), h2.more (hw9.below (Nat.le_refl _) h2.size), h3⟩
end
end Go.Proofs.Ytbhhgfpliggkgaa
