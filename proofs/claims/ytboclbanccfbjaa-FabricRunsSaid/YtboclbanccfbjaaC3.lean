/- Texts of this proof, put together: F5 F6 Itr F7 F8 F9 F10 Col F11 F12 F13 F14 F15 Open F16 P17 P18 -/
import Derived.Test.YtboclbanccfbjaaC2
import Derived.Test.YtboclbanccfbjaaC0
import Derived.Test.YtboclbanccfbjaaC1
import Derived.OwnWalkIn
import Derived.Lib.SmallJoins
namespace Go.Proofs.Ytboclbanccfbjaa
set_option linter.unusedSimpArgs false
set_option linter.unusedVariables false
set_option maxRecDepth 100000
open Go.RowKit Go.Shelf
/-- One packet more is put, and counted. -/
def FM.put1 (s : FM × (Nat → Int)) (x : Pk) : FM × (Nat → Int) := ((s.1.pnx x).sc (s.1.pvd x) ((s.1.pnx x).ct (s.1.pvd x) + 1), up s.2 (s.1.pvd x) (s.2 (s.1.pvd x) + 1))
def FM.puts (m : FM) (ks : List Pk) : FM × (Nat → Int) := ks.foldl FM.put1 (m, fun _ => 0)
theorem FM.puts_snoc (m : FM) (ks : List Pk) (x : Pk) : m.puts (ks ++ [x]) = FM.put1 (m.puts ks) x := by unfold FM.puts; rw [List.foldl_append]; rfl
theorem FM.into_ct (m : FM) (x : Pk) : (m.into x).ct = m.ct := by unfold FM.into; split <;> rfl
theorem FM.pnx_ct (m : FM) (x : Pk) : (m.pnx x).ct = m.ct := by
  unfold FM.pnx
  split
  · rw [FM.into_ct, FM.into_ct]
  · rw [FM.into_ct]
/-- Ports within their rooms, counts within bounds. -/
structure FMc (s : FM × (Nat → Int)) (L H : Nat) (B : Int) (n : Nat) : Prop where
  b : FMb s.1 L H (B + 2 * n)
  c : ∀ i, 0 ≤ s.1.ct i ∧ s.1.ct i ≤ B + n
  t : ∀ i, 0 ≤ s.2 i ∧ s.2 i ≤ n
theorem FMc.put1 {s : FM × (Nat → Int)} {L H n : Nat} {B : Int} (h : FMc s L H B n) (x : Pk) : FMc (FM.put1 s x) L H B (n + 1) := by
  refine ⟨?_, fun i => ?_, fun i => ?_⟩
  · have := h.b.pnx x
    rw [show B + 2 * ((n + 1 : Nat) : Int) = B + 2 * n + 2 by omega]
    exact this
  · show 0 ≤ up (s.1.pnx x).ct _ _ i ∧ up (s.1.pnx x).ct _ _ i ≤ _
    rw [FM.pnx_ct]
    have h1 := h.c i
    have h2 := h.c (s.1.pvd x)
    unfold up
    split <;> omega
  · show 0 ≤ up s.2 _ _ i ∧ up s.2 _ _ i ≤ _
    have h1 := h.t i
    have h2 := h.t (s.1.pvd x)
    unfold up
    split <;> omega
theorem FMc.start {m : FM} {L H : Nat} {B : Int} (h : FMb m L H B) (hc : ∀ i, 0 ≤ m.ct i ∧ m.ct i ≤ B) : FMc (m, fun _ => 0) L H B 0 :=
  ⟨by simpa using h, fun i => by have := hc i; simp; exact this, fun i => ⟨Int.le_refl _, Int.le_refl _⟩⟩
theorem FMc.take {m : FM} {L H : Nat} {B : Int} (h : FMb m L H B) (hc : ∀ i, 0 ≤ m.ct i ∧ m.ct i ≤ B) (ks : List Pk) : ∀ n, n ≤ ks.length → FMc (m.puts (ks.take n)) L H B n
  | 0, _ => FMc.start h hc
  | n + 1, hn => by
    rw [List.take_succ_eq_append_getElem (by omega), FM.puts_snoc]
    exact (FMc.take h hc ks n (by omega)).put1 _
theorem row5 : Row Try.prog 28 5 := ⟨⟨_, rfl, rfl⟩, by kernel_rfl⟩
theorem FM.keep_made (m : FM) (x : Pk) {k : Nat} (h : (m.pt k).isSome = true) : ((m.pnx x).pt k).isSome = true := by
  have hi : ∀ (m : FM) (x : Pk), (m.pt k).isSome = true → ((m.into x).pt k).isSome = true := fun m x h => by
    unfold FM.into
    split
    · exact h
    · unfold FM.sp set1
      dsimp only
      split
      · rfl
      · exact h
  unfold FM.pnx
  split
  · exact hi _ _ (hi _ _ h)
  · exact hi _ _ h
section
variable {F X F1 X1 G : Nat → Prop} {w w' w1 : World} {b : Nat} {m m1 : FM} {pp : Nat → Nat} {FF : Nat → Nat → Prop} {k L H : Nat} {a c : AM} {B C : Int} {A : Option Addr} {n d : Nat} {ks : List Pk}
theorem St.more (h : St F w w1) (hb : Below w.heap.size w1 w') : St F w w' := ⟨hb.os.trans h.os, hb.tape.trans h.tape, hb.output.trans h.output, Nat.le_trans h.size hb.size, fun k hk hn => (hb.block k hk).trans (h.block k hk hn)⟩
/-- What holds within Put, behind i packets: told in box g. -/
structure PI (F X : Nat → Prop) (w : World) (b : Nat) (m : FM) (t : Nat → Int) (pp : Nat → Nat) (wr : World) : Prop where
  fb : ∃ F' FF', FbC F' (fun k => (X k ∨ k = w.heap.size) ∨ k = w.heap.size + 1) wr b m pp FF' ∧ St F w wr ∧ Gr F F' w.heap.size ∧ ¬ F' w.heap.size ∧ ¬ F' (w.heap.size + 1)
  tl : Bk wr 28 (w.heap.size + 1) (tabV 5 t)
  rs : Bk wr 28 w.heap.size [.int .i64 0, .int .i64 0, .int .i64 0, .int .i64 0, .int .i64 0]
set_option maxHeartbeats 8000000 in
theorem f_Put (h : FbC F X w b m pp FF) (h0 : (m.pt 0).isSome = true) (hM : FMb m L H B) (hc : ∀ i, 0 ≤ m.ct i ∧ m.ct i ≤ B) (hB : B + 2 * n + 2 ≤ 1000000) (hl : SlP F w A n d ks) :
    Calls Try.prog 11 #[.pointer (some ⟨b, 0, none⟩), .slice A n d] w fun e w' => e = .returned (.agg (tabV 5 (m.puts ks).2).toArray) ∧ FDid F X w b (m.puts ks).1 pp w' := by
  have hb2 : ∀ o o', Below w.heap.size w ((w.alloc o).alloc o') := fun o o' => ((Below.refl _ _).alloc (Nat.le_refl _) o).alloc (by simp) o'
  have HMd : Hid (∀ o o', Calls Try.prog 30 #[.pointer (some ⟨b, 0, none⟩)] ((w.alloc o).alloc o') fun e w' => e = .returned (.bool true) ∧ (w.alloc o).alloc o' = w') := Lib.hid fun o o' => by
    have := f_made (h.below (hb2 o o')).fp
    rw [h0] at this; exact this
  have hln := hl.len
  have HS : Hid (PI F X w b m (fun _ => 0) pp ((w.alloc (.cells #[.int .i64 0, .int .i64 0, .int .i64 0, .int .i64 0, .int .i64 0] 28)).alloc (.cells #[.int .i64 0, .int .i64 0, .int .i64 0, .int .i64 0, .int .i64 0] 28))) := Lib.hid
    ⟨⟨F, FF, (h.box (g := w.heap.size) ((Below.refl _ _).alloc (Nat.le_refl _) _) (Nat.le_refl _) (by simp)).box (g := w.heap.size + 1) ((Below.refl _ _).alloc (Nat.le_refl _) _) (by simp) (by simp), St.ext (hb2 _ _), Gr.refl _ _, fun hf => by have := h.bd _ hf; omega, fun hf => by have := h.bd _ hf; omega⟩, by have := Bk.new (w.alloc (.cells #[.int .i64 0, .int .i64 0, .int .i64 0, .int .i64 0, .int .i64 0] 28)) 28 [.int .i64 0, .int .i64 0, .int .i64 0, .int .i64 0, .int .i64 0]; rw [World.size_alloc] at this; exact this, (Bk.new w 28 [.int .i64 0, .int .i64 0, .int .i64 0, .int .i64 0, .int .i64 0]).alloc _⟩
  have HC := Lib.hid (FMc.take hM hc ks)
  have HL := Lib.hid hl
  have HLN := Lib.hid hln
  have HFB := Lib.hid h.bd
  clear h h0 hM hc hb2 hl hln
  go_enter Try.func11, Try.ntmps11
  go_wp2_with (go_at_call 30; refine (HMd.out _ _).mono ?_; rintro e w' ⟨rfl, rfl⟩)
  go_loopw [15] (fun v wr => ∃ i : Nat, v = .int .i64 i ∧ i ≤ n ∧ PI F X w b (m.puts (ks.take i)).1 (m.puts (ks.take i)).2 pp wr) (fun v _ => n - (intOf v).toNat)
  case atStart => exact ⟨0, rfl, Nat.zero_le _, HS.out⟩
  case round =>
    obtain ⟨i, rfl, hi, hP⟩ := hrel
    by_cases hlt : i < n
    · have hlt' : (i : Int) < n := by omega
      obtain ⟨⟨F1, FF1, hf1, hs1, hg1, hn1, hm1⟩, ht1, hr1⟩ := hP
      have hl1 := HL.out.st hs1 hg1
      obtain ⟨g, o, q, rfl, hra, hq, hqk, hgl⟩ := hl1.row hlt
      have hb1 := (Below.refl wr.heap.size wr).alloc (Nat.le_refl _) (.cells (List.toArray [.int .i64 q.h.kd, .int .i64 q.h.fl, .int .i64 q.h.pa, .int .i64 q.h.sr, .int .i64 q.h.ds, .int .i64 q.h.cn, .int .i64 q.h.sq, .int .i64 q.h.pu, .slice q.A q.n q.c]) 65)
      have hx1 := Bk.new wr 65 [.int .i64 q.h.kd, .int .i64 q.h.fl, .int .i64 q.h.pa, .int .i64 q.h.sr, .int .i64 q.h.ds, .int .i64 q.h.cn, .int .i64 q.h.sq, .int .i64 q.h.pu, .slice q.A q.n q.c]
      have hM1 := HC.out i (by rw [HLN.out]; omega)
      have hsn : ks.take (i + 1) = ks.take i ++ [q.pk] := by
        rw [List.take_add_one, ← hqk]; rfl
      have HSn : Hid (m.puts (ks.take (i + 1)) = FM.put1 (m.puts (ks.take i)) q.pk) := Lib.hid (by rw [hsn, FM.puts_snoc])
      generalize m.puts (ks.take i) = s at *
      obtain ⟨m1, t1⟩ := s
      dsimp only at hf1 ht1 HSn
      have HPut := Lib.hid (f_put (hf1.below hb1) hM1.b (by omega) (hq.below hb1))
      have HT := Lib.hid (ht1.below hb1)
      have HR := Lib.hid (hr1.below hb1)
      have HS1 := Lib.hid (hs1.trans (St.ext hb1) (Gr.refl _ _))
      have HG1 := Lib.hid hg1
      have HM1 := Lib.hid hM1
      have HX1 := Lib.hid hx1
      have HFB1 := Lib.hid hf1.bd
      clear hf1 hs1 hg1 ht1 hr1 hl1 hq hqk hb1 hx1 hM1 hsn HS
      go_wp2_with (first
        | (with_reducible refine at_load 65 (.tmp 17) (by rfl) ?_; refine wpList_load_pk rowP rfl (.tmp 17) rfl q g (o + i * 9) rfl hra ?_)
        | (with_reducible refine at_load 65 (.tmp 7) (by rfl) ?_; refine wpList_load_pk rowP rfl (.tmp 7) rfl q wr.heap.size 0 rfl (Bk.pk (q := q) HX1.out) ?_))
      obtain ⟨v, hv⟩ : ∃ v, v = m1.pvd q.pk := ⟨_, rfl⟩
      rw [← hv] at HPut
      have hv5 : v < 5 := by have := m1.pvd_lt q.pk; omega
      have HV := Lib.hid hv
      clear hv
      refine HPut.out.mono ?_
      rintro e w2 ⟨rfl, F2, FF2, hf2, hs2, hg2⟩
      have ht2 := HT.out.st hs2 hm1
      have hr2 := HR.out.st hs2 hn1
      have hm2 : ¬ F2 (w.heap.size + 1) := hg2.not HT.out.lt hm1
      have hn2 : ¬ F2 w.heap.size := hg2.not HR.out.lt hn1
      have c1 := ht2.cell v (tabV_get 5 t1 hv5)
      have f1 := ht2.free v
      have hb1 : 0 ≤ t1 v ∧ t1 v ≤ i := HM1.out.t v
      have hct : 0 ≤ m1.ct v ∧ m1.ct v ≤ B + i := HM1.out.c v
      rw [← FM.pnx_ct m1 q.pk] at hct
      have HST : Hid (∀ u, (tabV 5 t1).set v (.int .i64 u) = tabV 5 (up t1 v u)) := Lib.hid fun u => tabV_set 5 t1 v u
      have HTW := Lib.hid (fun u : Int => ht2.set v (.int .i64 u))
      have HRW := Lib.hid (fun u : Value => hr2.far (p := ⟨w.heap.size + 1, v, none⟩) (by simp) u)
      have HFW := Lib.hid (fun u : Value => hf2.st (X1 := fun k => (X k ∨ k = w.heap.size) ∨ k = w.heap.size + 1) (St.setCell (F := (· = w.heap.size + 1)) w2 (a := ⟨w.heap.size + 1, v, none⟩) rfl u) (fun k hk e => hm2 (e ▸ hk)) (fun k hk => .inl (.inr hk)) (fun k hk => .inl hk) (fun k hk => by have := hf2.xb k hk; simpa [World.setCell] using this))
      have HSW := Lib.hid (fun u : Value => (HS1.out.trans hs2 HG1.out).more (show Below w.heap.size w2 (w2.setCell ⟨w.heap.size + 1, v, none⟩ u) from (Below.refl _ _).setCell (by simp) u))
      have HGW : Hid (Gr F F2 w.heap.size) := Lib.hid (HG1.out.trans hg2 HS1.out.size)
      have hv6 : (v : Int) < 5 := by omega
      clear hf2 hs2 hg2 ht2 hr2 HT HR HS1 HG1 HM1 HX1 HFB1 HPut
      obtain ⟨tv, htv⟩ : ∃ x, x = t1 v := ⟨_, rfl⟩
      rw [← htv] at c1 hb1
      have HTV := Lib.hid htv
      clear htv
      have hwt : IntKind.i64.wrap (tv + 1) = tv + 1 := by rw [IntKind.wrap_i64]; omega
      have hwc : IntKind.i64.wrap ((m1.pnx q.pk).ct v + 1) = (m1.pnx q.pk).ct v + 1 := by rw [IntKind.wrap_i64]; omega
      go_wp2
      refine wp_region_L Ext [10] (by kernel_rfl) (fun wd hbd hsz => ?_)
      have hf4 := (HFW.out (.int .i64 (tv + 1))).below hbd
      have k0 : ∀ W, Ext wd W → W.cell? ⟨b, 64 + v, none⟩ = some (.int .i64 ((m1.pnx q.pk).ct v)) := fun W hW => (hf4.bk.below hW).cell (64 + v) (FM.mem_ct _ _ hv5)
      have c0 := hf4.bk.cell (64 + v) (FM.mem_ct _ _ hv5)
      have f0 := hf4.bk.free (64 + v)
      obtain ⟨hf5, hs5⟩ := hf4.count hv5 ((m1.pnx q.pk).ct v + 1)
      have HPI : Hid (PI F X w b (m.puts (ks.take (i + 1))).1 (m.puts (ks.take (i + 1))).2 pp (wd.setCell ⟨b, 64 + v, none⟩ (.int .i64 ((m1.pnx q.pk).ct v + 1)))) := Lib.hid (by
        rw [HSn.out]
        have e2 : (FM.put1 (m1, t1) q.pk).1 = (m1.pnx q.pk).sc v ((m1.pnx q.pk).ct v + 1) := by rw [HV.out]; rfl
        have e3 : (FM.put1 (m1, t1) q.pk).2 = up t1 v (tv + 1) := by rw [HTV.out, HV.out]; rfl
        rw [e2, e3]
        have ht := (HTW.out (tv + 1)).below hbd
        rw [HST.out] at ht
        have hr := (HRW.out (.int .i64 (tv + 1))).below hbd
        refine ⟨⟨F2, FF2, hf5, ((HSW.out (.int .i64 (tv + 1))).trans (St.ext hbd) (Gr.refl _ _)).trans hs5 HGW.out, HGW.out, hn2, hm2⟩, ht.st hs5 hm2, hr.st hs5 hn2⟩)
      clear hf4 hf5 hs5 hsz hbd
      (refine takeL Ext.tr 0 (by simp only [List.getElem?_toArray, List.getElem?_cons_succ, List.getElem?_cons_zero]; rfl) (by kernel_rfl) (by kernel_rfl) (by kernel_rfl) (by kernel_rfl) (by exact fun _ _ _ h => h) (by first | (refine Or.inl ⟨by rfl, ?_⟩; intro W hW; go_simp; try with_reducible rfl) | exact Or.inr ⟨by rfl, rfl⟩) ?_; try simp only [Act.put, List.setIfInBounds_toArray, List.set_cons_zero, List.set_cons_succ])
      (refine takeL Ext.tr 1 (by simp only [List.getElem?_toArray, List.getElem?_cons_succ, List.getElem?_cons_zero]; rfl) (by kernel_rfl) (by kernel_rfl) (by kernel_rfl) (by kernel_rfl) (by exact fun _ _ _ h => h) (by first | (refine Or.inl ⟨by rfl, ?_⟩; intro W hW; go_simp; try with_reducible rfl) | exact Or.inr ⟨by rfl, rfl⟩) ?_; try simp only [Act.put, List.setIfInBounds_toArray, List.set_cons_zero, List.set_cons_succ])
      (refine takeL Ext.tr 2 (by simp only [List.getElem?_toArray, List.getElem?_cons_succ, List.getElem?_cons_zero]; rfl) (by kernel_rfl) (by kernel_rfl) (by kernel_rfl) (by kernel_rfl) (by exact fun _ _ _ h => h) (by first | (refine Or.inl ⟨by rfl, ?_⟩; intro W hW; go_simp; try with_reducible rfl) | exact Or.inr ⟨by rfl, rfl⟩) ?_; try simp only [Act.put, List.setIfInBounds_toArray, List.set_cons_zero, List.set_cons_succ])
      (refine takeL Ext.tr 7 (by simp only [List.getElem?_toArray, List.getElem?_cons_succ, List.getElem?_cons_zero]; rfl) (by kernel_rfl) (by kernel_rfl) (by kernel_rfl) (by kernel_rfl) (by exact fun _ _ _ h => h) (by first | (refine Or.inl ⟨by rfl, ?_⟩; intro W hW; go_simp; try with_reducible rfl) | exact Or.inr ⟨by rfl, rfl⟩) ?_; try simp only [Act.put, List.setIfInBounds_toArray, List.set_cons_zero, List.set_cons_succ])
      (refine takeL Ext.tr 3 (by simp only [List.getElem?_toArray, List.getElem?_cons_succ, List.getElem?_cons_zero]; rfl) (by kernel_rfl) (by kernel_rfl) (by kernel_rfl) (by kernel_rfl) (by exact fun _ _ _ h => h) (by first | (refine Or.inl ⟨by rfl, ?_⟩; intro W hW; go_simp; try with_reducible rfl) | exact Or.inr ⟨by rfl, rfl⟩) ?_; try simp only [Act.put, List.setIfInBounds_toArray, List.set_cons_zero, List.set_cons_succ])
      (refine takeL Ext.tr 8 (by simp only [List.getElem?_toArray, List.getElem?_cons_succ, List.getElem?_cons_zero]; rfl) (by kernel_rfl) (by kernel_rfl) (by kernel_rfl) (by kernel_rfl) (by exact fun _ _ _ h => h) (by first | (refine Or.inl ⟨by rfl, ?_⟩; intro W hW; go_simp; try with_reducible rfl) | exact Or.inr ⟨by rfl, rfl⟩) ?_; try simp only [Act.put, List.setIfInBounds_toArray, List.set_cons_zero, List.set_cons_succ])
      (refine takeL Ext.tr 4 (by simp only [List.getElem?_toArray, List.getElem?_cons_succ, List.getElem?_cons_zero]; rfl) (by kernel_rfl) (by kernel_rfl) (by kernel_rfl) (by kernel_rfl) (by exact fun _ _ _ h => h) (by first | (refine Or.inl ⟨by rfl, ?_⟩; intro W hW; go_simp; try with_reducible rfl) | exact Or.inr ⟨by rfl, rfl⟩) ?_; try simp only [Act.put, List.setIfInBounds_toArray, List.set_cons_zero, List.set_cons_succ])
      (refine takeL Ext.tr 5 (by simp only [List.getElem?_toArray, List.getElem?_cons_succ, List.getElem?_cons_zero]; rfl) (by kernel_rfl) (by kernel_rfl) (by kernel_rfl) (by kernel_rfl) (by exact fun _ _ _ h => h) (by first | (refine Or.inl ⟨by rfl, ?_⟩; intro W hW; go_simp; try with_reducible rfl) | exact Or.inr ⟨by rfl, rfl⟩) ?_; try simp only [Act.put, List.setIfInBounds_toArray, List.set_cons_zero, List.set_cons_succ])
      (refine takeL Ext.tr 6 (by simp only [List.getElem?_toArray, List.getElem?_cons_succ, List.getElem?_cons_zero]; rfl) (by kernel_rfl) (by kernel_rfl) (by kernel_rfl) (by kernel_rfl) (by exact fun _ _ _ h => h) (by first | (refine Or.inl ⟨by rfl, ?_⟩; intro W hW; go_simp; try with_reducible rfl) | exact Or.inr ⟨by rfl, rfl⟩) ?_; try simp only [Act.put, List.setIfInBounds_toArray, List.set_cons_zero, List.set_cons_succ])
      (refine takeL Ext.tr 9 (by simp only [List.getElem?_toArray, List.getElem?_cons_succ, List.getElem?_cons_zero]; rfl) (by kernel_rfl) (by kernel_rfl) (by kernel_rfl) (by kernel_rfl) (by exact fun _ _ _ h => h) (by first | (refine Or.inl ⟨by rfl, ?_⟩; intro W hW; go_simp; try with_reducible rfl) | exact Or.inr ⟨by rfl, rfl⟩) ?_; try simp only [Act.put, List.setIfInBounds_toArray, List.set_cons_zero, List.set_cons_succ])
      refine wpAnyL_one (i := 10) (by kernel_rfl) (by simp only [List.getElem?_toArray, List.getElem?_cons_succ, List.getElem?_cons_zero]; rfl) (fun K hK => ?_)
      go_simp
      refine hK.out _ _ (.inl (by decide)) ?_
      clear hK K
      try simp only [Act.put, List.setIfInBounds_toArray, List.set_cons_zero, List.set_cons_succ]
      refine wpAnyL_done (by kernel_rfl) ?_ _
      skip
      clear c1 f1 hwt hwc k0 f0 c0
      go_wp2
      go_roundw
      case rel => exact ⟨i + 1, by go_num, by omega, HPI.out⟩
      case measure => simp [intOf]; omega
    · obtain rfl : i = n := by omega
      have e : ks.take i = ks := List.take_of_length_le (by rw [HLN.out]; exact Nat.le_refl _)
      rw [e] at hP
      obtain ⟨⟨F1, FF1, hf1, hs1, hg1, hn1, hm1⟩, ht1, hr1⟩ := hP
      have HE : Hid (FbC F1 (fun k => (X k ∨ k = w.heap.size) ∨ k = w.heap.size + 1) wr b (m.puts ks).1 pp FF1 ∧ St F w wr ∧ Gr F F1 w.heap.size) := Lib.hid ⟨hf1, hs1, hg1⟩
      have HN := Lib.hid hn1
      clear hf1 hs1 hg1 hm1 e HS hi hn1
      go_wp2_with (first
        | (with_reducible refine at_load 28 (.tmp 5) (by rfl) ?_; refine wpList_load_bk row5 rfl (.tmp 5) rfl (w.heap.size + 1) 0 rfl ht1 (tabV 5 (m.puts ks).2) (tabV_len _ _) rfl ?_)
        | (with_reducible refine at_store 28 (.tmp 4) (.tmp 38) (by rfl) ?_; refine wpList_store_bk row5 rfl (.tmp 4) (.tmp 38) rfl w.heap.size 0 rfl hr1 (tabV 5 (m.puts ks).2) rfl (tabV_len _ _) (by decide) (tabV_one _ _) ?_; rintro w9 hz9 hw9))
      rw [lay_all _ _ (by rw [tabV_len]; rfl)] at hz9
      refine bodyPost_ret (results_cell rfl rfl (row5.load hz9 0 (tabV_len _ _) rfl)) rfl ⟨rfl, ?_⟩
      obtain ⟨h1, h2, h3⟩ := HE.out
      have hst : St (· = w.heap.size) wr w9 := wr_st hw9 rfl
      exact ⟨F1, FF1, h1.st hst (fun k hk e => HN.out (e ▸ hk)) (fun k hk => .inl (.inl (.inr hk))) (fun k hk => .inl (.inl (.inl hk))) (fun k hk => Nat.lt_of_lt_of_le (h1.xb k (.inl (.inl hk))) hst.size), h2.more (hw9.below (Nat.le_refl _) h2.size), h3⟩
end
end Go.Proofs.Ytboclbanccfbjaa
namespace Go.Proofs.Ytboclbanccfbjaa
set_option linter.unusedSimpArgs false
set_option linter.unusedVariables false
set_option maxRecDepth 100000
open Go.RowKit Go.Shelf
/-- What Serve makes of a fabric: what comes out, the error, the fabric. -/
def FM.svE (m : FM) (p q f : Int) : Int := match m.port p q with | none => 5 | some a => a.svE f
def FM.svL (m : FM) (p q f : Int) : List Pk := match m.port p q with | none => [] | some a => a.svL f
def FM.svM (m : FM) (p q f : Int) : FM := match m.port p q with | none => m | some a => (m.sp (ix p q) (a.svM f)).sc 0 (m.ct 0 + (a.svL f).length)
section
variable {F X F1 X1 G : Nat → Prop} {w w' w1 : World} {b : Nat} {m m1 : FM} {pp : Nat → Nat} {FF : Nat → Nat → Prop} {k L H : Nat} {a c : AM} {B C : Int} {A : Option Addr} {n d : Nat} {ks : List Pk}
/-- A fabric's block holds no packet. -/
theorem not_fab {g o n c : Nat} {qs : List Pv} (h : RdR 9 w (some ⟨g, o, none⟩) n c (flat Pv.cl qs)) (hn : n = qs.length) (hp : 0 < n) (hb : Bk w 70 b (m.mem pp)) : g ≠ b := by
  rintro rfl
  obtain ⟨g', o', hA, hg, hra⟩ := h.range hp
  injection hA with hA
  injection hA with h1 h2
  subst h1 h2
  rw [flat_row Pv.cl_len qs 0 (by omega)] at hra
  have h8 := hra 8 (.slice (qs[0]'(by omega)).A (qs[0]'(by omega)).n (qs[0]'(by omega)).c) rfl
  have h0 : w.cell? ⟨g, o + 0 * 9 + 8, none⟩ = (m.mem pp)[o + 8]? := by
    unfold Bk at hb
    unfold World.cell?
    simp [hb]
  rw [h0] at h8
  by_cases h9 : o + 8 < 69
  · rw [m.mem_get pp h9] at h8
    injection h8 with h8
    unfold FM.cell at h8
    split at h8 <;> cases h8
  · rw [List.getElem?_eq_none (by rw [FM.mem_len]; omega)] at h8
    cases h8
/-- What Serve leaves. -/
def FServed (F X : Nat → Prop) (w : World) (b : Nat) (pp : Nat → Nat) (m' : FM) (l : List Pk) (err : Int) (e : Ending) (w' : World) : Prop :=
  ∃ A n c qs, e = .returned (.tuple #[.slice A n c, .int .i64 err]) ∧ n = qs.length ∧ RdR 9 w' A n c (flat Pv.cl qs) ∧ qs.map Pv.pk = l ∧ ∃ F' FF', FbC F' X w' b m' pp FF' ∧ St F w w' ∧ Gr F F' w.heap.size ∧ ∀ q ∈ qs, PvR (fun k => F' k ∨ X k) w' q
set_option maxHeartbeats 4000000 in
theorem f_Serve (h : FbC F X w b m pp FF) (h0 : (m.pt 0).isSome = true) (hM : FMb m L H B) (hc : 0 ≤ m.ct 0 ∧ m.ct 0 ≤ 1000000) (hB : B ≤ 1000000) (p q f : Int) :
    Calls Try.prog 13 #[.pointer (some ⟨b, 0, none⟩), .int .i64 p, .int .i64 q, .int .i64 f] w (FServed F X w b pp (m.svM p q f) (m.svL p q f) (m.svE p q f)) := by
  have HMd : Hid (Calls Try.prog 30 #[.pointer (some ⟨b, 0, none⟩)] w fun e w' => e = .returned (.bool true) ∧ w = w') := Lib.hid (by
    have := f_made h.fp
    rw [h0] at this; exact this)
  have HA := Lib.hid (f_at h.fp p q)
  unfold FM.svM FM.svL FM.svE
  cases hp : m.port p q with
  | none =>
    have e : m.addr pp p q = none := by unfold FM.addr; rw [hp]; rfl
    rw [e] at HA
    have HH := Lib.hid h
    clear h e
    go_enter Try.func13, Try.ntmps13
    go_wp2_with (first
      | (go_at_call 30; refine HMd.out.mono ?_; rintro e w' ⟨rfl, rfl⟩)
      | (go_at_call 34; refine HA.out.mono ?_; rintro e w' ⟨rfl, rfl⟩))
    go_ret2
    exact ⟨none, 0, 0, [], rfl, rfl, RdR.nil _ _, rfl, F, FF, HH.out, St.refl _ _, Gr.refl _ _, by simp⟩
  | some a =>
    have e : m.addr pp p q = some ⟨pp (ix p q), 0, none⟩ := by unfold FM.addr; rw [hp]; rfl
    rw [e] at HA
    have hk := FM.port_pt hp
    have HS : Hid (Calls Try.prog 35 #[.pointer (some ⟨pp (ix p q), 0, none⟩), .int .i64 f] w (FServed F X w b pp (m.sp (ix p q) (a.svM f)) (a.svL f) (a.svE f))) := Lib.hid (by
      obtain ⟨pl, ph, Fl, Fh, ql, qh, hpt⟩ := h.pt _ _ hk
      refine (pt_serveR hpt ((hM _ _ hk).ok.ct hB) f).mono ?_
      rintro e w' ⟨A, n, c, qs, rfl, hn, hrd, hkk, F1, Fl', Fh', ql', qh', hp1, hs1, hg1, hr1⟩
      obtain ⟨F', FF', h1, h2, h3, h4⟩ := h.port hk ⟨pl, ph, Fl', Fh', ql', qh', hp1⟩ hs1 hg1
      refine ⟨A, n, c, qs, rfl, hn, hrd, hkk, F', FF', h1, h2, h3, fun q hq => (hr1 q hq).mono fun j hj => ?_⟩
      rcases hj with hj | hj
      · exact (h4 j hj).elim (fun h => .inr (.inl h)) .inl
      · exact .inr (.inr hj))
    have HB := Lib.hid h.bk.lt
    have hL : (a.svL f).length ≤ 1 := AM.svL_len a f
    clear h e hk
    go_enter Try.func13, Try.ntmps13
    go_wp2_with (first
      | (go_at_call 30; refine HMd.out.mono ?_; rintro e w' ⟨rfl, rfl⟩)
      | (go_at_call 34; refine HA.out.mono ?_; rintro e w' ⟨rfl, rfl⟩)
      | (go_at_call 35; refine HS.out.mono ?_; rintro e w2 ⟨A, n, c, qs, rfl, hn, hrd, hkk, F2, FF2, hf2, hs2, hg2, hr2⟩; have HN2 := Lib.hid hn; clear hn))
    have hn := HN2.out
    have hnl : n = (a.svL f).length := by rw [hn, ← hkk, List.length_map]
    have HSM := Lib.hid (show 0 ≤ (m.sp (ix p q) (a.svM f)).ct 0 ∧ (m.sp (ix p q) (a.svM f)).ct 0 ≤ 1000000 from hc)
    have HNL := Lib.hid hnl
    have hn1 : n ≤ 1 := by omega
    have H2 := Lib.hid (And.intro hn (And.intro hrd (And.intro hkk (And.intro hf2 (And.intro hs2 (And.intro hg2 hr2))))))
    clear hn hrd hkk hf2 hs2 hg2 hr2 hc hnl HMd HA HS
    refine wp_region_L Ext [11] (by kernel_rfl) (fun wd hbd hsz => ?_)
    have hf4 := H2.out.2.2.2.1.below hbd
    have hc := HSM.out
    have k0 : ∀ W, Ext wd W → W.cell? ⟨b, 64, none⟩ = some (.int .i64 (m.ct 0)) := fun W hW => (hf4.bk.below hW).cell 64 (FM.mem_ct (m.sp (ix p q) (a.svM f)) _ (i := 0) (by decide))
    have c0 : wd.cell? ⟨b, 64, none⟩ = some (.int .i64 (m.ct 0)) := hf4.bk.cell 64 (FM.mem_ct (m.sp (ix p q) (a.svM f)) _ (i := 0) (by decide))
    have f0 := hf4.bk.free 64
    have hwn : IntKind.i64.wrap (m.ct 0 + n) = m.ct 0 + n := by rw [IntKind.wrap_i64]; have h1 : 0 ≤ m.ct 0 := hc.1; have h2 : m.ct 0 ≤ 1000000 := hc.2; omega
    obtain ⟨hf5, hs5⟩ := hf4.count (i := 0) (by decide) (m.ct 0 + n)
    have HE : Hid (FServed F X w b pp ((m.sp (ix p q) (a.svM f)).sc 0 (m.ct 0 + (a.svL f).length)) (a.svL f) (a.svE f) (.returned (.tuple #[.slice A n c, .int .i64 (a.svE f)])) (wd.setCell ⟨b, 64, none⟩ (.int .i64 (m.ct 0 + n)))) := Lib.hid (by
      obtain ⟨hn, hrd, hkk, hf2, hs2, hg2, hr2⟩ := H2.out
      have hs3 := (hs2.trans (St.ext hbd) (Gr.refl _ _))
      have hsb : St (· = b) wd (wd.setCell ⟨b, 64, none⟩ (.int .i64 (m.ct 0 + n))) := St.setCell (F := (· = b)) wd (a := ⟨b, 64, none⟩) rfl _
      rw [HNL.out] at hf5 hs5 ⊢
      refine ⟨A, _, c, qs, rfl, by rw [← HNL.out]; exact hn, ?_, hkk, F2, FF2, hf5, by rw [← HNL.out] at hs5 ⊢; exact hs3.trans hs5 hg2, hg2, fun q hq => ?_⟩
      · rw [← HNL.out]
        exact (hrd.below hbd).st hsb fun hp ad he e => by
          obtain ⟨g, o, hA, -⟩ := hrd.range hp
          rw [hA] at he hrd
          injection he with he
          subst he
          exact not_fab hrd hn hp hf2.bk e
      · rw [← HNL.out] at hs5 ⊢
        exact ((hr2 q hq).below hbd).st (hs5.mono fun k _ hk => .inl hk) (Gr.refl _ _))
    clear hf4 hf5 hs5 hsz hbd hc
    (refine takeL Ext.tr 0 (by simp only [List.getElem?_toArray, List.getElem?_cons_succ, List.getElem?_cons_zero]; rfl) (by kernel_rfl) (by kernel_rfl) (by kernel_rfl) (by kernel_rfl) (by exact fun _ _ _ h => h) (by first | (refine Or.inl ⟨by rfl, ?_⟩; intro W hW; go_simp; try with_reducible rfl) | exact Or.inr ⟨by rfl, rfl⟩) ?_; try simp only [Act.put, List.setIfInBounds_toArray, List.set_cons_zero, List.set_cons_succ])
    (refine takeL Ext.tr 5 (by simp only [List.getElem?_toArray, List.getElem?_cons_succ, List.getElem?_cons_zero]; rfl) (by kernel_rfl) (by kernel_rfl) (by kernel_rfl) (by kernel_rfl) (by exact fun _ _ _ h => h) (by first | (refine Or.inl ⟨by rfl, ?_⟩; intro W hW; go_simp; try with_reducible rfl) | exact Or.inr ⟨by rfl, rfl⟩) ?_; try simp only [Act.put, List.setIfInBounds_toArray, List.set_cons_zero, List.set_cons_succ])
    (refine takeL Ext.tr 1 (by simp only [List.getElem?_toArray, List.getElem?_cons_succ, List.getElem?_cons_zero]; rfl) (by kernel_rfl) (by kernel_rfl) (by kernel_rfl) (by kernel_rfl) (by exact fun _ _ _ h => h) (by first | (refine Or.inl ⟨by rfl, ?_⟩; intro W hW; go_simp; try with_reducible rfl) | exact Or.inr ⟨by rfl, rfl⟩) ?_; try simp only [Act.put, List.setIfInBounds_toArray, List.set_cons_zero, List.set_cons_succ])
    (refine takeL Ext.tr 6 (by simp only [List.getElem?_toArray, List.getElem?_cons_succ, List.getElem?_cons_zero]; rfl) (by kernel_rfl) (by kernel_rfl) (by kernel_rfl) (by kernel_rfl) (by exact fun _ _ _ h => h) (by first | (refine Or.inl ⟨by rfl, ?_⟩; intro W hW; go_simp; try with_reducible rfl) | exact Or.inr ⟨by rfl, rfl⟩) ?_; try simp only [Act.put, List.setIfInBounds_toArray, List.set_cons_zero, List.set_cons_succ])
    (refine takeL Ext.tr 8 (by simp only [List.getElem?_toArray, List.getElem?_cons_succ, List.getElem?_cons_zero]; rfl) (by kernel_rfl) (by kernel_rfl) (by kernel_rfl) (by kernel_rfl) (by exact fun _ _ _ h => h) (by first | (refine Or.inl ⟨by rfl, ?_⟩; intro W hW; go_simp; try with_reducible rfl) | exact Or.inr ⟨by rfl, rfl⟩) ?_; try simp only [Act.put, List.setIfInBounds_toArray, List.set_cons_zero, List.set_cons_succ])
    (refine takeL Ext.tr 2 (by simp only [List.getElem?_toArray, List.getElem?_cons_succ, List.getElem?_cons_zero]; rfl) (by kernel_rfl) (by kernel_rfl) (by kernel_rfl) (by kernel_rfl) (by exact fun _ _ _ h => h) (by first | (refine Or.inl ⟨by rfl, ?_⟩; intro W hW; go_simp; try with_reducible rfl) | exact Or.inr ⟨by rfl, rfl⟩) ?_; try simp only [Act.put, List.setIfInBounds_toArray, List.set_cons_zero, List.set_cons_succ])
    (refine takeL Ext.tr 9 (by simp only [List.getElem?_toArray, List.getElem?_cons_succ, List.getElem?_cons_zero]; rfl) (by kernel_rfl) (by kernel_rfl) (by kernel_rfl) (by kernel_rfl) (by exact fun _ _ _ h => h) (by first | (refine Or.inl ⟨by rfl, ?_⟩; intro W hW; go_simp; try with_reducible rfl) | exact Or.inr ⟨by rfl, rfl⟩) ?_; try simp only [Act.put, List.setIfInBounds_toArray, List.set_cons_zero, List.set_cons_succ])
    (refine takeL Ext.tr 3 (by simp only [List.getElem?_toArray, List.getElem?_cons_succ, List.getElem?_cons_zero]; rfl) (by kernel_rfl) (by kernel_rfl) (by kernel_rfl) (by kernel_rfl) (by exact fun _ _ _ h => h) (by first | (refine Or.inl ⟨by rfl, ?_⟩; intro W hW; go_simp; try with_reducible rfl) | exact Or.inr ⟨by rfl, rfl⟩) ?_; try simp only [Act.put, List.setIfInBounds_toArray, List.set_cons_zero, List.set_cons_succ])
    (refine takeL Ext.tr 4 (by simp only [List.getElem?_toArray, List.getElem?_cons_succ, List.getElem?_cons_zero]; rfl) (by kernel_rfl) (by kernel_rfl) (by kernel_rfl) (by kernel_rfl) (by exact fun _ _ _ h => h) (by first | (refine Or.inl ⟨by rfl, ?_⟩; intro W hW; go_simp; try with_reducible rfl) | exact Or.inr ⟨by rfl, rfl⟩) ?_; try simp only [Act.put, List.setIfInBounds_toArray, List.set_cons_zero, List.set_cons_succ])
    (refine takeL Ext.tr 7 (by simp only [List.getElem?_toArray, List.getElem?_cons_succ, List.getElem?_cons_zero]; rfl) (by kernel_rfl) (by kernel_rfl) (by kernel_rfl) (by kernel_rfl) (by exact fun _ _ _ h => h) (by first | (refine Or.inl ⟨by rfl, ?_⟩; intro W hW; go_simp; try with_reducible rfl) | exact Or.inr ⟨by rfl, rfl⟩) ?_; try simp only [Act.put, List.setIfInBounds_toArray, List.set_cons_zero, List.set_cons_succ])
    (refine takeL Ext.tr 10 (by simp only [List.getElem?_toArray, List.getElem?_cons_succ, List.getElem?_cons_zero]; rfl) (by kernel_rfl) (by kernel_rfl) (by kernel_rfl) (by kernel_rfl) (by exact fun _ _ _ h => h) (by first | (refine Or.inl ⟨by rfl, ?_⟩; intro W hW; go_simp; try with_reducible rfl) | exact Or.inr ⟨by rfl, rfl⟩) ?_; try simp only [Act.put, List.setIfInBounds_toArray, List.set_cons_zero, List.set_cons_succ])
    refine wpAnyL_one (i := 11) (by kernel_rfl) (by simp only [List.getElem?_toArray, List.getElem?_cons_succ, List.getElem?_cons_zero]; rfl) (fun K hK => ?_)
    go_simp
    refine hK.out _ _ (.inl (by decide)) ?_
    clear hK K
    try simp only [Act.put, List.setIfInBounds_toArray, List.set_cons_zero, List.set_cons_succ]
    refine wpAnyL_done (by kernel_rfl) ?_ _
    skip
    clear k0 f0 c0
    go_wp2
    go_ret2
    exact HE.out
end
end Go.Proofs.Ytboclbanccfbjaa
namespace Go.Proofs.Ytboclbanccfbjaa
set_option linter.unusedSimpArgs false
set_option linter.unusedVariables false
open Go.RowKit Go.Shelf
/-- All cells stay but those of the blocks that Own names; what it names later is named now, or new. -/
def KpO (Own : World → Nat → Prop) (W W' : World) : Prop :=
  W.heap.size ≤ W'.heap.size ∧ (∀ k o, W.heap[k]? = some o → o.isCells = true → ¬ Own W k → W'.heap[k]? = some o) ∧ ∀ k, Own W' k → Own W k ∨ W.heap.size ≤ k
theorem KpO.refl (Own : World → Nat → Prop) (W : World) : KpO Own W W := ⟨Nat.le_refl _, fun _ _ h _ _ => h, fun _ h => .inl h⟩
theorem KpO.trans {Own : World → Nat → Prop} {A B C : World} (h : KpO Own A B) (k : KpO Own B C) : KpO Own A C := by
  refine ⟨Nat.le_trans h.1 k.1, fun i o hi ho hn => ?_, fun i hi => ?_⟩
  · have hlt : i < A.heap.size := (Array.getElem?_eq_some_iff.1 hi).1
    refine k.2.1 i o (h.2.1 i o hi ho hn) ho fun hf => ?_
    rcases h.2.2 i hf with h1 | h1
    · exact hn h1
    · omega
  · rcases k.2.2 i hi with h1 | h1
    · exact h.2.2 i h1
    · exact .inr (Nat.le_trans h.1 h1)
/-- The blocks Bs, the variable Bl, and the block of the slice that the variable holds. -/
def OwnB (Bs : List Nat) (Bl : Nat) (W : World) (k : Nat) : Prop := k ∈ Bs ∨ k = Bl ∨ ∃ ad n c, W.cell? ⟨Bl, 0, none⟩ = some (.slice (some ad) n c) ∧ ad.block = k
theorem OwnB.of_block {Bs : List Nat} {Bl k : Nat} {W W' : World} (h : W'.heap[Bl]? = W.heap[Bl]?) (hk : OwnB Bs Bl W' k) : OwnB Bs Bl W k := by
  rcases hk with h1 | h1 | ⟨ad, n, c, h1, h2⟩
  · exact .inl h1
  · exact .inr (.inl h1)
  · exact .inr (.inr ⟨ad, n, c, (World.cell?_of_block (a := ⟨Bl, 0, none⟩) h).symm.trans h1, h2⟩)
theorem KpO.put (Bs : List Nat) {Bl B : Nat} (hBl : Bl < B) (W : World) (l : Nat) (o o' : Obj) (hl : B ≤ l) (ho : W.heap[l]? = some o) (hc : o.isCells = false) (_ : o.isWalk = false) : KpO (OwnB Bs Bl) W (W.putObj l o') := by
  refine ⟨by simp [World.putObj], fun k x hk hx _ => ?_, fun k hk => .inl (OwnB.of_block (World.putObj_heap_other (by omega)) hk)⟩
  rw [World.putObj_heap_other ?_]
  · exact hk
  · rintro rfl
    rw [ho] at hk
    injection hk with hk
    subst hk
    rw [hc] at hx
    cases hx
section
variable {P : Program} {w : World} {t e : TypeId} {z : Value} {bytes : Nat} {F : Nat → Prop} {A B : Option Addr} {n c m d : Nat} {vs us : List Value}
theorem wpListIn_append_lst {Fe : Fence} {q : Nat} {ops : Array Oper} {rest : List Oper} {o : Oper} {a : Act} {Q : Exit → Act → World → Prop} (E : Elt P t e z bytes) (hgd : o.guard = none) (s x : Operand)
    (ho : o.op = .call { callee := .builtin .append, args := #[s, x], argTypes := #[t, t] })
    (hs : a.eval s = .slice A n c) (h : Lst e F w A n c vs) (hx : a.eval x = .slice B m d) (hu : RdV w B m d us) (hlen : (n + m) * bytes ≤ 140737488355328)
    (hq : ∀ v w', Apd e F w v (vs ++ us) w' → wpListIn Fe q P ops Q rest (a.put o.dst v) w') : wpListIn Fe q P ops Q (o :: rest) a w := by
  obtain ⟨v, w', hrun, hap⟩ := run_append_lst E o.type h hu hlen
  refine wpListIn_plain hgd fun K hK => ?_
  unfold Oper.wpIn
  refine ⟨?_, ?_⟩
  · simp [Oper.about, ho, resolve, Target.leads, Sem.run_pure]
  · rw [Oper.semAt_plain Fe _ _ (by rw [ho]; intro c hc'; cases hc')]
    simp [execOp, ho, resolve, invoke, builtin, hs, hx, hrun, Result.andThen]
    exact hK _ _ (hq v w' hap)
end
theorem KpO.box {Bs : List Nat} {Bl b i : Nat} (hb : b ∈ Bs) (hne : b ≠ Bl) (W : World) (v : Value) : KpO (OwnB Bs Bl) W (W.setCell ⟨b, i, none⟩ v) := by
  refine ⟨by simp [World.setCell], fun k o hk _ hn => ?_, fun k hk => .inl (OwnB.of_block (Below.heap_setCell _ _ _ _ (by simpa using fun e => hne e.symm)) hk)⟩
  have : k ≠ b := fun e => hn (.inl (e ▸ hb))
  rw [Below.heap_setCell _ _ _ _ (by simpa using this)]
  exact hk
theorem fin_take (n k : Nat) (h : k < n) : (List.finRange n).take (k + 1) = (List.finRange n).take k ++ [⟨k, h⟩] := by
  rw [List.take_succ_eq_append_getElem (by simpa using h)]
  simp
end Go.Proofs.Ytboclbanccfbjaa
namespace Go.Proofs.Ytboclbanccfbjaa
set_option linter.unusedSimpArgs false
set_option linter.unusedVariables false
set_option maxRecDepth 100000
open Go.RowKit Go.Shelf
def plc (p : Nat × Nat) : List Value := [.int .i64 p.1, .int .i64 p.2]
theorem plc_len (p : Nat × Nat) : (plc p).length = 2 := rfl
theorem plc_one (p : Nat × Nat) : ∀ v ∈ plc p, v.oneCell' = true := by
  intro v hv
  simp only [plc, List.mem_cons, List.not_mem_nil, or_false] at hv
  rcases hv with rfl | rfl <;> rfl
theorem eltL : EltS Try.prog 118 122 [.int .i64 0, .int .i64 0] 16 := ⟨rfl, by kernel_rfl, by intro v hv; exact plc_one (0, 0) v hv, by decide, by decide, ⟨_, rfl, by decide⟩, by decide⟩
def FM.many (m : FM) (k : Nat) : Nat := (m.lows ((k / 8 : Nat) : Int) ((k % 8 : Nat) : Int)).length + (m.highs ((k / 8 : Nat) : Int) ((k % 8 : Nat) : Int)).length
/-- The busy ones among the first k. -/
def FM.busyN (m : FM) (k : Nat) : List (Nat × Nat) := ((List.range k).filter fun k => decide (0 < m.many k)).map fun k => (k / 8, k % 8)
def FM.busy (m : FM) : List (Nat × Nat) := m.busyN 64
theorem FM.busyN_succ (m : FM) (k : Nat) : m.busyN (k + 1) = if 0 < m.many k then m.busyN k ++ [(k / 8, k % 8)] else m.busyN k := by
  unfold FM.busyN
  rw [List.range_succ, List.filter_append, List.map_append]
  by_cases h : 0 < m.many k <;> simp [h]
theorem FM.busyN_len (m : FM) (k : Nat) : (m.busyN k).length ≤ k := by
  unfold FM.busyN
  rw [List.length_map]
  exact Nat.le_trans (List.length_filter_le _ _) (by simp)
section
variable {F X F1 X1 G : Nat → Prop} {w w' w1 : World} {b : Nat} {m m1 : FM} {pp : Nat → Nat} {FF : Nat → Nat → Prop} {k L H : Nat} {a c : AM} {B C : Int} {P A : Option Addr} {n d : Nat} {ks : List Pk}
theorem FbP.few (h : FbP F X w P m pp FF) (p q : Int) : (m.lows p q).length ≤ 1024 ∧ (m.highs p q).length ≤ 1024 := by
  unfold FM.lows FM.highs
  cases hp : m.port p q with
  | none => exact ⟨Nat.zero_le _, Nat.zero_le _⟩
  | some a =>
    obtain ⟨_, _, _, _, ql, qh, hh⟩ := h.pt hp
    have h1 := hh.sel_len
    have h2 := hh.lo.le
    have h3 := hh.hi.le
    have h4 := hh.lo.2.2.1
    have h5 := hh.hi.2.2.1
    dsimp only
    omega
/-- A list of places of the call's own, in a slice. -/
def PlI (w : World) (ps : List (Nat × Nat)) (v : Value) (wr : World) : Prop := ∃ A n c, v = .slice A n c ∧ n = ps.length ∧ LstR 2 122 (w.heap.size ≤ ·) wr A n c (flat plc ps) ∧ Below w.heap.size w wr
set_option maxHeartbeats 4000000 in
theorem f_places (h : FbP F X w P m pp FF) :
    Calls Try.prog 58 #[.pointer P] w fun e w' => ∃ v, e = .returned v ∧ PlI w m.busy v w' := by
  have HFew := Lib.hid h.few
  have HL := Lib.hid (fun (W : World) (hW : Below w.heap.size w W) (p q : Int) => f_lens (h.below hW) p q)
  clear h
  go_enter Try.func58, Try.ntmps58
  go_wp2
  go_loopw [3, 8] (fun s v wr => ∃ i : Nat, v = .int .i64 i ∧ i ≤ 8 ∧ PlI w (m.busyN (i * 8)) s wr) (fun _ v _ => 8 - (intOf v).toNat)
  case atStart => exact ⟨0, rfl, by decide, none, 0, 0, rfl, rfl, LstR.nil _ _ _ _, Below.refl _ _⟩
  case round =>
    obtain ⟨i, rfl, hi, hP⟩ := hrel
    by_cases hlt : i < 8
    · have hlt' : (i : Int) < 8 := by omega
      have HP := Lib.hid hP
      clear hP
      go_wp2
      go_loopw [3, 11] (fun s v wr => ∃ j : Nat, v = .int .i64 j ∧ j ≤ 8 ∧ PlI w (m.busyN (i * 8 + j)) s wr) (fun _ v _ => 8 - (intOf v).toNat)
      case atStart => exact ⟨0, rfl, by decide, HP.out⟩
      case round =>
        obtain ⟨j, rfl, hj, A, n, c, rfl, hn, hl, hb⟩ := hrel
        by_cases hjl : j < 8
        · have hjl' : (j : Int) < 8 := by omega
          have e1 : (i * 8 + j) / 8 = i := by omega
          have e2 : (i * 8 + j) % 8 = j := by omega
          have hbs := m.busyN_succ (i * 8 + j)
          have hmn : m.many (i * 8 + j) = (m.lows (i : Int) (j : Int)).length + (m.highs (i : Int) (j : Int)).length := by unfold FM.many; rw [e1, e2]
          rw [e1, e2, hmn] at hbs
          have hnl := m.busyN_len (i * 8 + j)
          have hn64 : n ≤ 64 := by omega
          have HLn := Lib.hid (HL.out _ hb (i : Int) (j : Int))
          have hfw := HFew.out (i : Int) (j : Int)
          generalize m.busyN (i * 8 + j) = ps at *
          generalize (m.lows (i : Int) (j : Int)).length = lo at *
          generalize (m.highs (i : Int) (j : Int)).length = hi at *
          have hw : IntKind.i64.wrap ((lo : Int) + hi) = lo + hi := by rw [IntKind.wrap_i64]; omega
          have HN := Lib.hid hn
          have HI := Lib.hid (And.intro hl hb)
          have HBS := Lib.hid hbs
          clear hn hl hb hmn e1 e2 hbs hnl HP
          by_cases hz : 0 < lo + hi
          · have hz' : (0 : Int) < lo + hi := by omega
            go_wp2_with fail
            refine HLn.out.mono ?_
            rintro e w1 ⟨rfl, hb1⟩
            obtain ⟨hl, hb⟩ := HI.out
            have hla := ((hl.below hb1).alloc (.cells (List.toArray (plc (i, j))) 122)).tight
            have hu := RdR.one w1 122 (plc (i, j)) (plc_one _)
            have hk : (n + 1) * 16 ≤ 140737488355328 := by omega
            have hbb := below_on hb hb1
            have HB := Lib.hid hbb
            have hb3 : Below w.heap.size w (w1.alloc (.cells (List.toArray (plc (i, j))) 122)) := hbb.alloc hbb.size _
            have HB3 := Lib.hid hb3
            have HL1 := Lib.hid hl
            clear hl hb hbb hb3
            go_wp2_with (first
              | (refine wpList_build_row eltL rfl (.tmp 28) rfl (xs := plc (i, j)) rfl rfl ?_)
              | (at_builtin
                 refine wpList_append_lstR eltL rfl (.tmp 25) (.tmp 29) rfl rfl hla rfl hu hk ?_
                 rintro v2 w2 ⟨⟨A2, n2, c2, rfl, hl2⟩, hst2⟩))
            have HE : Hid (PlI w (m.busyN (i * 8 + j + 1)) (.slice A2 n2 c2) w2) := Lib.hid (by
              rw [HBS.out, if_pos hz]
              have hF : ∀ k, BlkOf A k → w.heap.size ≤ k := by rintro k ⟨ad, he, rfl⟩; exact (HL1.out.blk ad he).1
              have e : flat plc ps ++ plc (i, j) = flat plc (ps ++ [(i, j)]) := by rw [flat_app]; simp [flat]
              rw [e] at hl2
              refine ⟨A2, n2, c2, rfl, ?_, hl2.mono fun k hk => ?_, HB3.out.trans (hst2.below HB3.out.size hF)⟩
              · have h1 := hl2.1
                rw [flat_len plc_len] at h1
                rw [List.length_append] at h1 ⊢
                simp at h1 ⊢
                omega
              · rcases hk with hk | hk
                · exact hF k hk
                · exact Nat.le_trans HB3.out.size hk)
            clear hst2 hl2 hla hu hb1
            go_wp2
            go_roundw
            case rel => exact ⟨j + 1, by go_num, by omega, HE.out⟩
            case measure => simp [intOf]; omega
          · have hz' : (lo : Int) + hi ≤ 0 := by omega
            go_wp2_with fail
            refine HLn.out.mono ?_
            rintro e w1 ⟨rfl, hb1⟩
            have HE : Hid (PlI w (m.busyN (i * 8 + j + 1)) (.slice A n c) w1) := Lib.hid (by
              rw [HBS.out, if_neg hz]
              exact ⟨A, n, c, rfl, HN.out, HI.out.1.below hb1, below_on HI.out.2 hb1⟩)
            clear hb1
            go_wp2
            go_roundw
            case rel => exact ⟨j + 1, by go_num, by omega, HE.out⟩
            case measure => simp [intOf]; omega
        · obtain rfl : j = 8 := by omega
          have HE : Hid (PlI w (m.busyN ((i + 1) * 8)) (.slice A n c) wr) := Lib.hid (by
            rw [show (i + 1) * 8 = i * 8 + 8 by omega]
            exact ⟨A, n, c, rfl, hn, hl, hb⟩)
          clear hn hl hb
          go_wp2
          go_roundw
          case rel => exact ⟨i + 1, by go_num, by omega, HE.out⟩
          case measure => simp [intOf]; omega
    · obtain rfl : i = 8 := by omega
      have HP := Lib.hid hP
      clear hP
      go_wp2
      go_ret
      exact ⟨_, rfl, HP.out⟩
end
end Go.Proofs.Ytboclbanccfbjaa
namespace Go.Proofs.Ytboclbanccfbjaa
set_option linter.unusedSimpArgs false
set_option linter.unusedVariables false
set_option maxRecDepth 100000
open Go.RowKit Go.Shelf
attribute [local go_sem] Oper.semAt_some
section
variable {F X F1 X1 G : Nat → Prop} {w w' w1 : World} {b : Nat} {m m1 : FM} {pp : Nat → Nat} {FF : Nat → Nat → Prop} {k L H : Nat} {a c : AM} {B C : Int} {P A : Option Addr} {n d : Nat} {ks : List Pk}
/-- The iterator: its list of places in a box. -/
def BusyI (w : World) (ps : List (Nat × Nat)) (g : Nat) (A : Option Addr) (n c : Nat) (w' : World) : Prop :=
  w.heap.size ≤ g ∧ Bk w' 118 g [.slice A n c] ∧ n = ps.length ∧ RdR 2 w' A n c (flat plc ps) ∧ (∀ ad, A = some ad → w.heap.size ≤ ad.block ∧ ad.block < w'.heap.size) ∧ Below w.heap.size w w'
theorem f_Busy (h : FbP F X w P m pp FF) :
    Calls Try.prog 41 #[.pointer P] w fun e w' => ∃ g A n c, e = .returned (.func (.func 59) #[] #[.pointer (some ⟨g, 0, none⟩)]) ∧ BusyI w m.busy g A n c w' := by
  have HP := Lib.hid (f_places h)
  clear h
  go_enter Try.func41, Try.ntmps41
  go_wp2_with fail
  refine HP.out.mono ?_
  rintro e w1 ⟨v, rfl, A, n, c, rfl, hn, hl, hb⟩
  have HE : Hid (BusyI w m.busy w1.heap.size A n c (w1.alloc (.cells #[.slice A n c] 118))) := Lib.hid
    ⟨hb.size, Bk.new w1 _ [.slice A n c], hn, hl.rd.alloc _, fun ad he => ⟨(hl.blk ad he).1, by have := (hl.blk ad he).2; simp; omega⟩, hb.alloc hb.size _⟩
  clear hn hl hb
  go_wp2
  go_ret
  exact ⟨_, _, _, _, rfl, HE.out⟩
theorem KpS.alloc {S : Nat → Prop} (h : KpS S w w1) (hS : ∀ k, S k → k < w.heap.size) (o : Obj) : KpS S w (w1.alloc o) := fun k hk => by
  have h1 := h k hk
  have h2 : k < w1.heap.size := by
    rw [Array.getElem?_eq_getElem (hS k hk)] at h1
    exact (Array.getElem?_eq_some_iff.1 h1).1
  exact (heap_alloc_old w1 _ h2).trans h1
set_option maxHeartbeats 2000000 in
theorem busy_stops (fu : Nat) (hfu : 1 ≤ fu) (T : Nat → Prop) (g : Nat) (ps : List (Nat × Nat)) (A : Option Addr) (n c : Nat) (w : World) (hn : n = ps.length) (h64 : n ≤ 64)
    (h1 : T g) (hA : ∀ ad, A = some ad → T ad.block) (hT : ∀ k, T k → k < w.heap.size) (hb : Bk w 118 g [.slice A n c]) (hl : RdR 2 w A n c (flat plc ps)) :
    SeqStopsK Fence.wide fu Try.prog 59 #[.pointer (some ⟨g, 0, none⟩)] (fun i : Fin ps.length => #[.int .i64 ps[i].1, .int .i64 ps[i].2]) (KpS T)
      (fun ys => ys = List.finRange ps.length) (fun pre => ∃ k, pre = (List.finRange ps.length).take k) ps.length w := fun l J Jx W hW hJ hJx hY h0 => by
  have hKW : KpS T w W := fun k hk => hW.block k (hT k hk)
  have e1 := (show Bk W 118 g [.slice A n c] from (hKW g h1).trans hb).cell 0 rfl
  have HT := Lib.hid hT
  have HRow : Hid (∀ wr, KpS T W wr → ∀ k (hk : k < ps.length), ∃ g' o, A = some ⟨g', o, none⟩ ∧ wr.cell? ⟨g', o + k * 2, none⟩ = some (.int .i64 ps[k].1) ∧ wr.cell? ⟨g', o + k * 2 + 1, none⟩ = some (.int .i64 ps[k].2)) := Lib.hid (by
    intro wr hk k hlt
    obtain ⟨g', o, rfl, hg, hra⟩ := hl.range (i := k) (by omega)
    rw [flat_row plc_len ps k hlt] at hra
    have hS := hA _ rfl
    have hkk := KpS.trans hKW hk
    exact ⟨g', o, rfl, (hkk.cell hS).trans (hra 0 _ rfl), (hkk.cell hS).trans (hra 1 _ rfl)⟩)
  have HN := Lib.hid hn
  have HWS := Lib.hid hW.size
  clear hW hKW hb hl hA hT hn
  refine callsIn_of_wp Try.func59 rfl trivial ?_ rfl
  simp only [Try.ntmps59, List.size_toArray, List.length_cons, List.length_nil, Nat.reduceAdd, Nat.reduceSub, Array.replicate_succ, Array.replicate_zero, List.push_toArray, List.append_toArray, List.nil_append, List.cons_append]
  gi_wp2
  gi_loopw [7] (fun i' wr => ∃ k : Nat, k ≤ n ∧ i' = .int .i64 k ∧ J ((List.finRange ps.length).take k) wr ∧ KpS T W wr) (fun i' _ => n + 1 - (intOf i').toNat)
  case atStart => exact ⟨0, Nat.zero_le _, rfl, by simpa using h0, KpS.refl _ _⟩
  case round =>
    obtain ⟨k, hk, rfl, hJk, hr⟩ := hrel
    by_cases hlt : k < n
    · have hlp : k < ps.length := by rw [← HN.out]; exact hlt
      obtain ⟨g', o, rfl, f1, f2⟩ := HRow.out wr hr k hlp
      obtain ⟨x, hx⟩ : ∃ x, x = ps[k] := ⟨_, rfl⟩
      rw [← hx] at f1 f2
      have HF := Lib.hid (fin_take ps.length k hlp)
      have hJa : J ((List.finRange ps.length).take k) (wr.alloc (.cells #[.int .i64 x.1, .int .i64 x.2] 122)) := hJ _ wr _ none hJk ⟨rfl, rfl, rfl, by simp, fun k hk _ => heap_alloc_old wr _ hk⟩ (by simp)
      obtain ⟨fn, tmps, assign, body, hy, hR⟩ := hY _ ⟨k, hlp⟩ _ hJa (by simp; omega)
      rw [show ps[(⟨k, hlp⟩ : Fin ps.length)] = x from hx.symm] at hy
      have HKA : Hid (KpS T W (wr.alloc (.cells #[.int .i64 x.1, .int .i64 x.2] 122))) := Lib.hid (hr.alloc (fun k hk => Nat.lt_of_lt_of_le (HT.out k hk) HWS.out) _)
      have HR := Lib.hid hR
      clear hJa hx hr e1 hR
      gi_wp2
      refine HR.out.mono ?_
      rintro e W3 (⟨rfl, hJ3, hk3⟩ | ⟨rfl, hJx3⟩)
      · have HK3 := Lib.hid (KpS.trans HKA.out hk3)
        clear hy f1 f2 hk3
        gi_wp2
        go_roundw
        case rel => exact ⟨k + 1, by omega, by go_num, by rw [HF.out]; exact hJ3, HK3.out⟩
        case measure => simp [intOf]; omega
      · clear hy f1 f2
        gi_wp2
        refine bodyPost_ret (results_none rfl _ _ _) rfl ?_
        exact ⟨⟨_, rfl⟩, .inr ⟨_, ⟨k + 1, HF.out.symm⟩, hJx3⟩⟩
    · obtain rfl : k = n := by omega
      have HJ := Lib.hid hJk
      clear hJk hr
      gi_wp2
      go_end0
      exact ⟨⟨_, rfl⟩, .inl ⟨_, List.take_of_length_le (by simp [HN.out]), HJ.out⟩⟩
end
end Go.Proofs.Ytboclbanccfbjaa
namespace Go.Proofs.Ytboclbanccfbjaa
set_option linter.unusedSimpArgs false
set_option linter.unusedVariables false
set_option maxRecDepth 100000
open Go.RowKit Go.Shelf
attribute [local go_sem] Oper.semAt_some
def FM.at2 (m : FM) (p : Nat × Nat) : Nat := (m.lows (p.1 : Int) (p.2 : Int)).length + (m.highs (p.1 : Int) (p.2 : Int)).length
def FM.total (m : FM) : Nat := (m.busy.map m.at2).sum
/-- What has been added up. -/
def accT (m : FM) (ps : List (Nat × Nat)) (pre : List (Fin ps.length)) : Nat := (pre.map fun i => m.at2 ps[i]).sum
theorem accT_snoc (m : FM) (ps : List (Nat × Nat)) (pre : List (Fin ps.length)) (x : Fin ps.length) : accT m ps (pre ++ [x]) = accT m ps pre + m.at2 ps[x] := by
  unfold accT; rw [List.map_append, List.sum_append]; simp
theorem accT_all (m : FM) (ps : List (Nat × Nat)) : accT m ps (List.finRange ps.length) = (ps.map m.at2).sum := by
  unfold accT
  congr 1
  apply List.ext_getElem
  · simp
  · intro i h1 h2
    simp
theorem accT_le (m : FM) (ps : List (Nat × Nat)) (h : ∀ p, m.at2 p ≤ 2048) : ∀ pre : List (Fin ps.length), accT m ps pre ≤ pre.length * 2048
  | [] => Nat.le_refl _
  | x :: r => by
    have h1 := accT_le m ps h r
    have h2 := h ps[x]
    unfold accT at h1 ⊢
    simp only [List.map_cons, List.sum_cons, List.length_cons]
    omega
section
variable {F X F1 X1 G : Nat → Prop} {w w' w1 W W' : World} {b b1 b3 s : Nat} {m m1 : FM} {pp : Nat → Nat} {FF : Nat → Nat → Prop} {k L H : Nat} {a c : AM} {B C : Int} {P A : Option Addr} {n d : Nat} {ks : List Pk}
/-- Within Total. -/
structure TotI (w : World) (P : Option Addr) (L0 : Nat) (s : Nat) (W : World) : Prop where
  bel : Below w.heap.size w W
  sz : L0 ≤ W.heap.size
  bx : Bk W 23 w.heap.size [.pointer P]
  sm : Bk W 3 (w.heap.size + 1) [.int .i64 s]
theorem TotI.own {row : Option Nat} {L0 : Nat} (h : TotI w P L0 s W) (hL : w.heap.size + 2 ≤ L) (hw : W.grownBy W' row)
    (hr : ∀ r, row = some r → L ≤ r ∧ ∃ o : Obj, W.heap[r]? = some o ∧ o.isCells = false) : TotI w P L0 s W' := by
  obtain ⟨h1, h0, h2, h3⟩ := h
  have hk : ∀ k, k < L → k < W.heap.size → W'.heap[k]? = W.heap[k]? := fun k hk hs => hw.block k hs (fun e => by have := (hr _ e.symm).1; omega)
  exact ⟨⟨hw.os.trans h1.os, hw.tape.trans h1.tape, hw.output.trans h1.output, Nat.le_trans h1.size hw.size, fun k hk' => (hk k (by omega) (by have := h1.size; omega)).trans (h1.block k hk')⟩, Nat.le_trans h0 hw.size, (hk _ (by omega) h2.lt).trans h2, (hk _ (by omega) h3.lt).trans h3⟩
set_option maxHeartbeats 4000000 in
theorem f_Total (h : FbP F X w P m pp FF) :
    Calls Try.prog 21 #[.pointer P] w fun e w' => e = .returned (.int .i64 m.total) ∧ Below w.heap.size w w' := by
  have HL := Lib.hid (fun (W : World) (hW : Below w.heap.size w W) (p q : Int) => f_lens (h.below hW) p q)
  have HB := Lib.hid (fun (W : World) (hW : Below w.heap.size w W) => f_Busy (h.below hW))
  have HFew := Lib.hid h.few
  clear h
  refine (callsIn_wide (n := 5)).1 ?_
  refine callsIn_of_wp_marks Try.func21 rfl trivial ?_ rfl
  simp only [Try.ntmps21, List.size_toArray, List.length_cons, List.length_nil, Nat.reduceAdd, Nat.reduceSub, Array.replicate_succ, Array.replicate_zero, List.push_toArray, List.append_toArray, List.nil_append, List.cons_append]
  have hb2 : Below w.heap.size w ((w.alloc (.cells #[.pointer P] 23)).alloc (.cells #[.int .i64 0] 3)) := ((Below.refl _ _).alloc (Nat.le_refl _) _).alloc (by simp) _
  have HI := Lib.hid (show TotI w P 0 0 ((w.alloc (.cells #[.pointer P] 23)).alloc (.cells #[.int .i64 0] 3)) from ⟨hb2, Nat.zero_le _, (Bk.new w 23 [.pointer P]).alloc _, by have := Bk.new (w.alloc (.cells #[.pointer P] 23)) 3 [.int .i64 0]; rw [World.size_alloc] at this; exact this⟩)
  have HBu := Lib.hid (HB.out _ hb2)
  clear hb2
  gi_wp2
  refine ⟨trivial, (callsIn_wide.2 HBu.out).mono ?_⟩
  rintro e W0 ⟨g, A, n, c, rfl, hg, hbx, hn, hrd, hA, hb⟩
  have hI0 : TotI w P W0.heap.size 0 W0 := ⟨HI.out.bel.trans (hb.mono HI.out.bel.size), Nat.le_refl _, HI.out.bx.below hb, HI.out.sm.below hb⟩
  have hgl := hbx.lt
  have hsz0 := hb.size
  simp only [World.size_alloc] at hg hA hsz0
  have HSZ : Hid (w.heap.size + 2 ≤ W0.heap.size) := Lib.hid (by omega)
  have hn64 : n ≤ 64 := by rw [hn]; exact m.busyN_len 64
  have HT : Hid (∀ k, (k = g ∨ BlkOf A k) → w.heap.size + 2 ≤ k ∧ k < W0.heap.size) := Lib.hid (by
    rintro k (rfl | ⟨ad, he, rfl⟩)
    · exact ⟨by omega, hgl⟩
    · exact ⟨by have := (hA ad he).1; omega, (hA ad he).2⟩)
  have HSt := Lib.hid (busy_stops (5 - 1) (by decide) (fun k => k = g ∨ BlkOf A k) g m.busy A n c W0 hn hn64 (.inl rfl) (fun ad he => .inr ⟨ad, he, rfl⟩) (fun k hk => (HT.out k hk).2) hbx hrd)
  have hl64 : m.busy.length ≤ 64 := by omega
  have HTo : Hid (accT m m.busy (List.finRange m.busy.length) = m.total) := Lib.hid (accT_all m m.busy)
  clear hg hbx hn hrd hA hb hgl hn64 HI HBu HB
  generalize m.busy = ps at *
  gi_wp2
  refine wpIn_rangeFunc_ownF rfl (by decide) (gf := 59) (lb := #[.pointer (some ⟨g, 0, none⟩)]) rfl trivial (enters_of Try.func59 (by kernel_rfl) rfl)
    HSt.out KpS.trans (KpS.put (fun k hk => (HT.out k hk).2)) (Below.refl _ _) (fun _ => rfl)
    (fun pre => TotI w P W0.heap.size (accT m ps pre)) (fun _ _ _ => False) (fun pre W W' row hI hw hr => hI.own (L := W0.heap.size) (by omega) hw hr) (fun _ _ _ _ _ hs _ _ => hs) hI0
    (fun i => { tmps := #[.pointer P, .pointer (some ⟨w.heap.size, 0, none⟩), .int .i64 0, .pointer (some ⟨w.heap.size + 1, 0, none⟩), .int .i64 ps[i].1, .int .i64 ps[i].2, undef, undef, .pointer P, .func (.func 59) #[] #[.pointer (some ⟨g, 0, none⟩)], .int .i64 ps[i].1, .int .i64 ps[i].2, undef, undef, undef, undef, undef, undef, undef, undef, undef, undef, undef, undef, undef], defers := [] }) ?assign ?body ?done ?stop
  case assign =>
    intro l x W K hK
    gi_wp2
    simpa using hK
  case body =>
    rintro l pre x W ⟨hbel, hszW, hbx, hsm⟩ hpre
    have c1 := hbx.cell 0 rfl
    have c3 := hsm.cell 0 rfl
    have f3 := hsm.free 0
    have hle := accT_le m ps (fun p => by have := HFew.out (p.1 : Int) (p.2 : Int); unfold FM.at2; omega) pre
    have hac : accT m ps (pre ++ [x]) = accT m ps pre + ((m.lows ((ps[x].1 : Nat) : Int) ((ps[x].2 : Nat) : Int)).length + (m.highs ((ps[x].1 : Nat) : Int) ((ps[x].2 : Nat) : Int)).length) := accT_snoc m ps pre x
    have hfw := HFew.out ((ps[x].1 : Nat) : Int) ((ps[x].2 : Nat) : Int)
    have HLn := Lib.hid (HL.out W hbel ((ps[x].1 : Nat) : Int) ((ps[x].2 : Nat) : Int))
    generalize (m.lows ((ps[x].1 : Nat) : Int) ((ps[x].2 : Nat) : Int)).length = lo at *
    generalize (m.highs ((ps[x].1 : Nat) : Int) ((ps[x].2 : Nat) : Int)).length = hi at *
    have HAC := Lib.hid hac
    obtain ⟨s, hs⟩ : ∃ s, s = accT m ps pre := ⟨_, rfl⟩
    rw [← hs] at hsm hle c3 HAC
    have HI1 := Lib.hid (And.intro hbel (And.intro hszW (And.intro hbx hsm)))
    have hw1 : IntKind.i64.wrap ((lo : Int) + hi) = lo + hi := by rw [IntKind.wrap_i64]; omega
    have hw2 : IntKind.i64.wrap ((s : Int) + (lo + hi)) = s + (lo + hi) := by rw [IntKind.wrap_i64]; omega
    clear hbel hszW hbx hsm hac hs
    gi_wp2
    refine ⟨trivial, (CallsIn.inRound l (callsIn_wide.2 HLn.out)).mono ?_⟩
    rintro e W2 ⟨rfl, hb2⟩
    obtain ⟨hbel, hszW, hbx, hsm⟩ := HI1.out
    have hsm2 := hsm.below hb2
    have c4 := hsm2.cell 0 rfl
    have f4 := hsm2.free 0
    have HE : Hid (KeepsOthers W (W2.setCell ⟨w.heap.size + 1, 0, none⟩ (.int .i64 (s + (lo + hi)))) ∧ KpS (fun k => k = g ∨ BlkOf A k) W (W2.setCell ⟨w.heap.size + 1, 0, none⟩ (.int .i64 (s + (lo + hi)))) ∧ TotI w P W0.heap.size (accT m ps (pre ++ [x])) (W2.setCell ⟨w.heap.size + 1, 0, none⟩ (.int .i64 (s + (lo + hi))))) := Lib.hid (by
      rw [HAC.out]
      refine ⟨(keepsOthers_of hb2).trans (KeepsOthers.setCell _ _ _), fun k hk => ?_, ?_⟩
      · have h1 := HT.out k hk
        exact (Below.heap_setCell _ _ _ _ (by simp; omega)).trans (hb2.block k (by omega))
      · refine ⟨(below_on hbel hb2).setCell (by simp) _, Nat.le_trans hszW (by simpa [World.setCell] using hb2.size), (hbx.below hb2).far (by simp) _, ?_⟩
        have := hsm2.set 0 (.int .i64 (s + (lo + hi)))
        simpa using this)
    clear hbel hszW hbx hsm hsm2 hb2 HI1 HLn c1 c3 f3
    gi_wp2
    exact HE.out
  case done =>
    rintro D ys W hD rfl ⟨hbel, hszW, hbx, hsm⟩ hK
    have c3 := hsm.cell 0 rfl
    rw [HTo.out] at c3
    have HB := Lib.hid hbel
    clear hbel hszW hbx hsm
    gi_wp2
    refine ⟨by simp, .inl ⟨_, _, rfl, run_takeDeferred hK, ?_⟩⟩
    refine ⟨_, results_tmp rfl _ _ _, rfl, ?_⟩
    have hb := HB.out
    refine ⟨hb.os, hb.tape, hb.output, by have := hb.size; simp [World.putObj]; omega, fun k hk => ?_⟩
    have := HSZ.out
    rw [World.putObj_heap_other (by omega)]
    exact hb.block k hk
  case stop =>
    rintro D c' pre W hD _ h _
    exact h.elim
end
end Go.Proofs.Ytboclbanccfbjaa
namespace Go.Proofs.Ytboclbanccfbjaa
set_option linter.unusedSimpArgs false
set_option linter.unusedVariables false
set_option maxRecDepth 100000
open Go.RowKit Go.Shelf
/-- What is told of a list of packets: a slice of its own, whose packets lie off F, and off the slice. -/
def MadeB (F : Nat → Prop) (w : World) (ps : List Pk) (en : Ending) (w' : World) : Prop :=
  ∃ A n c rs, en = .returned (.slice A n c) ∧ n = rs.length ∧ rs.map Pv.pk = ps ∧ LstR 9 65 (w.heap.size ≤ ·) w' A n c (flat Pv.cl rs) ∧ (∀ r ∈ rs, PvR (fun k => F k ∨ BlkOf A k) w' r) ∧ Below w.heap.size w w'
section
variable {F : Nat → Prop} {w : World} {q : Pv}
set_option maxHeartbeats 4000000 in
set_option maxRecDepth 100000 in
theorem p_allAlike2 {p room : Nat} {Fq G : Nat → Prop} {qs : List Pv} (h : Qs Fq w p room qs) (hq : ∀ r ∈ qs, PvR G w r) (hF : ∀ k, F k → k < w.heap.size) :
    Calls Try.prog 57 #[.pointer (some ⟨p, 0, none⟩)] w (MadeB F w (qs.map Pv.pk)) := by
  have HL := Lib.hid (q_list h)
  have h1024 : qs.length ≤ 1024 := Nat.le_trans h.2.2.2.1 h.2.2.1
  have HQ := Lib.hid hq
  have HF := Lib.hid hF
  clear h hq hF
  go_enter Try.func57, Try.ntmps57
  go_wp2_with fail
  refine HL.out.mono ?_
  rintro e w1 ⟨A, n, c, rfl, hn, hl, hb⟩
  have HN := Lib.hid hn
  have hnl : n ≤ 1024 := by omega
  have HB := Lib.hid hb
  have HLs := Lib.hid hl
  clear hn HL hl hb
  go_wp2
  go_loopw [10] (fun v wr => ∃ (i : Nat) (rs : List Pv), v = .int .i64 i ∧ i ≤ n ∧ rs.length = i ∧ rs.map Pv.pk = (qs.take i).map Pv.pk ∧ (∀ r ∈ rs, PvR (fun k => F k ∨ BlkOf A k) wr r) ∧ LstR 9 65 (BlkOf A) wr A n c (flat Pv.cl (rs ++ qs.drop i)) ∧ Below w.heap.size w wr) (fun v _ => n - (intOf v).toNat)
  case atStart => exact ⟨0, [], rfl, Nat.zero_le _, rfl, rfl, by simp, HLs.out.tight, HB.out⟩
  case round =>
    obtain ⟨i, rs, rfl, hi, hrl, hrm, hrr, hls, hb⟩ := hrel
    have hAw : ∀ k, BlkOf A k → w.heap.size ≤ k := by
      rintro k ⟨ad, he, rfl⟩
      exact (HLs.out.blk ad he).1
    by_cases hlt : i < n
    · have hlt' : i < qs.length := by have := HN.out; omega
      obtain ⟨g, o, rfl, hg, hra⟩ := hls.rd.range hlt
      rw [flat_row Pv.cl_len (rs ++ qs.drop i) i (by simp; omega)] at hra
      have hqi : (rs ++ qs.drop i)[i]'(by simp; omega) = qs[i] := by
        rw [List.getElem_append_right (by omega), List.getElem_drop]
        congr 1; omega
      rw [hqi] at hra
      have hq := HQ.out qs[i] (List.getElem_mem _)
      have hset : ∀ q', (rs ++ qs.drop i).set i q' = (rs ++ [q']) ++ qs.drop (i + 1) := fun q' => by
        rw [List.set_append_right _ _ (by omega), hrl, Nat.sub_self, List.drop_eq_getElem_cons hlt', List.set_cons_zero, List.append_assoc]
        rfl
      have htk : (qs.take (i + 1)).map Pv.pk = rs.map Pv.pk ++ [qs[i].pk] := by rw [List.take_succ_eq_append_getElem hlt', List.map_append, ← hrm]; rfl
      generalize qs[i] = q at *
      have hqw := (hq.below hb).below ((Below.refl _ _).alloc (Nat.le_refl _) (.cells (List.toArray [.int .i64 q.h.kd, .int .i64 q.h.fl, .int .i64 q.h.pa, .int .i64 q.h.sr, .int .i64 q.h.ds, .int .i64 q.h.cn, .int .i64 q.h.sq, .int .i64 q.h.pu, .slice q.A q.n q.c]) 65))
      have hbd : ∀ k, (F k ∨ BlkOf (some ⟨g, o, none⟩) k) → k < (wr.alloc (.cells (List.toArray [.int .i64 q.h.kd, .int .i64 q.h.fl, .int .i64 q.h.pa, .int .i64 q.h.sr, .int .i64 q.h.ds, .int .i64 q.h.cn, .int .i64 q.h.sq, .int .i64 q.h.pu, .slice q.A q.n q.c]) 65)).heap.size := by
        intro k hk
        rw [World.size_alloc]
        have := hb.size
        rcases hk with hk | hk
        · have := HF.out k hk; omega
        · obtain ⟨ad, he, rfl⟩ := hk
          have := (hls.blk ad he).2; omega
      have HA := Lib.hid (p_alike (F := fun k => F k ∨ BlkOf (some ⟨g, o, none⟩) k) hqw hbd)
      have hzq := Bk.new wr 65 [.int .i64 q.h.kd, .int .i64 q.h.fl, .int .i64 q.h.pa, .int .i64 q.h.sr, .int .i64 q.h.ds, .int .i64 q.h.cn, .int .i64 q.h.sq, .int .i64 q.h.pu, .slice q.A q.n q.c]
      have HRL := Lib.hid hrl
      have HRM := Lib.hid hrm
      have HSet := Lib.hid hset
      have HTk := Lib.hid htk
      have hlsa := hls.alloc (.cells (List.toArray [.int .i64 q.h.kd, .int .i64 q.h.fl, .int .i64 q.h.pa, .int .i64 q.h.sr, .int .i64 q.h.ds, .int .i64 q.h.cn, .int .i64 q.h.sq, .int .i64 q.h.pu, .slice q.A q.n q.c]) 65)
      clear hrl hrm hset htk hqi hq hqw hbd
      go_wp2_with (first
        | (with_reducible refine at_load 65 (.tmp 13) (by rfl) ?_; refine wpList_load_pk rowP rfl (.tmp 13) rfl q g (o + i * 9) rfl hra ?_)
        | (with_reducible refine at_load 65 (.tmp 5) (by rfl) ?_; refine wpList_load_pk rowP rfl (.tmp 5) rfl q wr.heap.size 0 rfl (Bk.pk (q := q) hzq) ?_)
        | (go_at_call 54; refine HA.out.mono ?_; rintro e w2 ⟨q', rfl, hq', hr', hb2⟩; have hls2 := hlsa.below hb2; clear hzq hlsa)
        | (with_reducible refine at_store 65 (.tmp 19) (.tmp 18) (by rfl) ?_; refine wpList_lay_pk rowP rfl (.tmp 19) (.tmp 18) rfl hls2 hlt rfl q' rfl ?_; rintro w3 hls3 hw3))
      rw [← flat_set Pv.cl_len _ i (by rw [List.length_append, List.length_drop, HRL.out]; omega), HSet.out] at hls3
      have hb3 : Below w.heap.size w w3 := ((hb.alloc hb.size _).trans (hb2.mono (by have := hb.size; simp; omega))).trans (hw3.below (hAw g ⟨_, rfl, rfl⟩) (by have := hb.size; have := hb2.size; simp at this; omega))
      have hrr3 : ∀ r ∈ rs ++ [q'], PvR (fun k => F k ∨ BlkOf (some ⟨g, o, none⟩) k) w3 r := by
        intro r hr
        have hoff : PvR (fun k => F k ∨ BlkOf (some ⟨g, o, none⟩) k) w2 r := by
          rcases List.mem_append.1 hr with hr | hr
          · exact ((hrr r hr).below ((Below.refl _ _).alloc (Nat.le_refl _) _)).below hb2
          · rw [List.mem_singleton.1 hr]; exact hr'
        exact hoff.wr hw3 fun hn ad he e => hoff.2.2.2 hn ad he (.inr ⟨_, rfl, e.symm⟩)
      have HRel := Lib.hid (show (rs ++ [q']).map Pv.pk = (qs.take (i + 1)).map Pv.pk by rw [HTk.out, List.map_append, ← hq']; rfl)
      clear hls2 hls hra hrr HA
      go_wp2
      go_roundw
      case rel => exact ⟨i + 1, rs ++ [q'], by go_num, by omega, by rw [List.length_append, HRL.out]; rfl, HRel.out, hrr3, hls3, hb3⟩
      case measure => simp [intOf]; omega
    · obtain rfl : i = n := by omega
      have hd : qs.drop i = [] := List.drop_of_length_le (by have := HN.out; omega)
      have htk : qs.take i = qs := List.take_of_length_le (by have := HN.out; omega)
      rw [hd, List.append_nil] at hls
      rw [htk] at hrm
      have HRL := Lib.hid hrl
      have HRM := Lib.hid hrm
      clear hd htk hrl hrm
      go_wp2
      go_ret
      exact ⟨A, i, c, rs, rfl, HRL.out.symm, HRM.out, hls.mono hAw, hrr, hb⟩
end
section
variable {F X : Nat → Prop} {w w' : World} {b : Nat} {m : AM} {pl ph : Nat} {Fl Fh : Nat → Prop} {ql qh : List Pv}
theorem pt_rows2 (h : PbC F X w b m pl ph Fl Fh ql qh) {Y : Nat → Prop} (hY : ∀ k, Y k → k < w.heap.size) (hi : Bool) :
    Calls Try.prog 57 #[.pointer (some ⟨ptr pl ph hi, 0, none⟩)] w (MadeB Y w (m.sel hi)) := by
  have := p_allAlike2 (h.qs hi) (h.qp hi) hY
  rw [h.qk hi] at this
  exact this
theorem pt_low2 (h : PbC F X w b m pl ph Fl Fh ql qh) {Y : Nat → Prop} (hY : ∀ k, Y k → k < w.heap.size) :
    Calls Try.prog 39 #[.pointer (some ⟨b, 0, none⟩)] w (MadeB Y w m.low) := by
  have HR := Lib.hid (pt_rows2 h hY false)
  have HM := Lib.hid (pt_made h)
  have c0 := h.bk.cell 0 rfl
  clear h hY
  go_enter Try.func39, Try.ntmps39
  go_wp2_with (first
    | (go_at_call 49; refine HM.out.mono ?_; rintro e w' ⟨rfl, rfl⟩)
    | (go_at_call 57; refine HR.out.mono ?_; rintro e w1 ⟨A, n, c, rs, rfl, hn1, hr1⟩; have HN1 := Lib.hid hn1; clear hn1))
  go_ret
  exact ⟨A, n, c, rs, rfl, HN1.out, hr1⟩
theorem pt_high2 (h : PbC F X w b m pl ph Fl Fh ql qh) {Y : Nat → Prop} (hY : ∀ k, Y k → k < w.heap.size) :
    Calls Try.prog 40 #[.pointer (some ⟨b, 0, none⟩)] w (MadeB Y w m.high) := by
  have HR := Lib.hid (pt_rows2 h hY true)
  have HM := Lib.hid (pt_made h)
  have c0 := h.bk.cell 1 rfl
  clear h hY
  go_enter Try.func40, Try.ntmps40
  go_wp2_with (first
    | (go_at_call 49; refine HM.out.mono ?_; rintro e w' ⟨rfl, rfl⟩)
    | (go_at_call 57; refine HR.out.mono ?_; rintro e w1 ⟨A, n, c, rs, rfl, hn1, hr1⟩; have HN1 := Lib.hid hn1; clear hn1))
  go_ret
  exact ⟨A, n, c, rs, rfl, HN1.out, hr1⟩
end
section
variable {F X Y : Nat → Prop} {w w' w1 : World} {b : Nat} {m : FM} {pp : Nat → Nat} {FF : Nat → Nat → Prop} {P : Option Addr}
theorem f_low (h : FbP F X w P m pp FF) (hY : ∀ k, Y k → k < w.heap.size) (p q : Int) :
    Calls Try.prog 39 #[.pointer (m.addr pp p q)] w (MadeB Y w (m.lows p q)) := by
  unfold FM.addr FM.lows
  cases hp : m.port p q with
  | none =>
    refine (n_low (.inl rfl)).mono ?_
    rintro e w' ⟨rfl, rfl⟩
    exact ⟨none, 0, 0, [], rfl, rfl, rfl, LstR.nil _ _ _ _, by simp, Below.refl _ _⟩
  | some a =>
    obtain ⟨_, _, _, _, _, _, hh⟩ := h.pt hp
    exact pt_low2 hh hY
theorem f_high (h : FbP F X w P m pp FF) (hY : ∀ k, Y k → k < w.heap.size) (p q : Int) :
    Calls Try.prog 40 #[.pointer (m.addr pp p q)] w (MadeB Y w (m.highs p q)) := by
  unfold FM.addr FM.highs
  cases hp : m.port p q with
  | none =>
    refine (n_high (.inl rfl)).mono ?_
    rintro e w' ⟨rfl, rfl⟩
    exact ⟨none, 0, 0, [], rfl, rfl, rfl, LstR.nil _ _ _ _, by simp, Below.refl _ _⟩
  | some a =>
    obtain ⟨_, _, _, _, _, _, hh⟩ := h.pt hp
    exact pt_high2 hh hY
set_option maxHeartbeats 4000000 in
theorem f_Packets (h : FbP F X w P m pp FF) (p q : Int) :
    Calls Try.prog 19 #[.pointer P, .int .i64 p, .int .i64 q] w (MadeA (fun _ => False) w (m.lows p q ++ m.highs p q)) := by
  have HA := Lib.hid (f_at h p q)
  have HLo := Lib.hid (f_low h (Y := fun _ => False) (fun _ h => h.elim) p q)
  have HHi := Lib.hid (fun (W : World) (hW : Below w.heap.size w W) => f_high (h.below hW) (Y := fun k => k < W.heap.size) (fun _ h => h) p q)
  have HFew := Lib.hid (h.few p q)
  clear h
  generalize m.addr pp p q = ad at *
  generalize m.lows p q = lo at *
  generalize m.highs p q = hi at *
  go_enter Try.func19, Try.ntmps19
  go_wp2_with fail
  refine HA.out.mono ?_
  rintro e w' ⟨rfl, rfl⟩
  go_wp2_with fail
  refine HLo.out.mono ?_
  rintro e w1 ⟨A, n, c, rs, rfl, hn, hk, hl, hr, hb⟩
  have HHi1 := Lib.hid (HHi.out w1 hb)
  have H1 := Lib.hid (And.intro hn (And.intro hk (And.intro hl (And.intro hr hb))))
  clear hn hk hl hr hb HHi HLo
  go_wp2_with fail
  refine HHi1.out.mono ?_
  rintro e w2 ⟨B, n2, c2, rs2, rfl, hn2, hk2, hl2, hr2, hb2⟩
  obtain ⟨hn, hk, hl, hr, hb⟩ := H1.out
  have hla := (hl.below hb2).tight
  have hu := hl2.rd
  have hlen : (n + n2) * 88 ≤ 140737488355328 := by
    have h1 := HFew.out
    rw [← hk, ← hk2, List.length_map, List.length_map, ← hn, ← hn2] at h1
    omega
  have H2 := Lib.hid (And.intro hn2 (And.intro hk2 (And.intro hl2 (And.intro hr2 hb2))))
  clear hn hk hl hr hb hn2 hk2 hl2 hr2 hb2 HHi1
  go_wp2_with (at_builtin
               refine wpList_append_lstR eltP rfl (.tmp 13) (.tmp 15) rfl rfl hla rfl hu hlen ?_
               rintro v3 w3 ⟨⟨A3, n3, c3, rfl, hl3⟩, hst3⟩)
  have HE : Hid (MadeA (fun _ => False) w (lo ++ hi) (.returned (.slice A3 n3 c3)) w3) := Lib.hid (by
    obtain ⟨hn, hk, hl, hr, hb⟩ := H1.out
    obtain ⟨hn2, hk2, hl2, hr2, hb2⟩ := H2.out
    rw [← flat_app] at hl3
    have hA : ∀ k, BlkOf A k → w.heap.size ≤ k := by rintro k ⟨ad, he, rfl⟩; exact (hl.blk ad he).1
    have hA1 : ∀ k, BlkOf A k → k < w1.heap.size := by rintro k ⟨ad, he, rfl⟩; exact (hl.blk ad he).2
    have hb3 := below_on hb hb2
    refine ⟨A3, n3, c3, rs ++ rs2, rfl, ?_, by rw [List.map_append, hk, hk2], hl3.mono fun k hk => ?_, fun r hr' => ?_, hb3.trans (hst3.below hb3.size hA)⟩
    · have h1 : (flat Pv.cl (rs ++ rs2)).length = n3 * 9 := hl3.1
      rw [flat_len Pv.cl_len] at h1
      omega
    · rcases hk with hk | hk
      · exact hA k hk
      · exact Nat.le_trans hb3.size hk
    · rcases List.mem_append.1 hr' with hr' | hr'
      · have h1 := (hr r hr').below hb2
        exact ((h1.mono (F' := BlkOf A) fun k hk => .inr hk).st hst3 (F' := fun _ => False) (fun k hk => hk.elim))
      · have h1 := hr2 r hr'
        exact ((h1.mono (F' := BlkOf A) fun k hk => .inl (hA1 k hk)).st hst3 (F' := fun _ => False) (fun k hk => hk.elim)))
  clear hla hu hst3 hl3
  go_wp2
  go_ret
  exact HE.out
theorem f_Counts (h : FbP F X w P m pp FF) :
    Calls Try.prog 23 #[.pointer P] w fun e w' => e = .returned (.agg (tabV 5 m.ct).toArray) ∧ Below w.heap.size w w' := by
  have hz := Bk.new w 28 [.int .i64 0, .int .i64 0, .int .i64 0, .int .i64 0, .int .i64 0]
  rcases h with ⟨rfl, rfl⟩ | ⟨b, rfl, h⟩
  · clear hz
    go_enter Try.func23, Try.ntmps23
    go_wp2
    exact bodyPost_ret (v := .agg (tabV 5 fun _ => 0).toArray) (by simp [results, Try.results23, go_sem]; rfl) rfl ⟨rfl, (Below.refl _ _).alloc (Nat.le_refl _) _⟩
  · have hb := h.bk.alloc (.cells #[.int .i64 0, .int .i64 0, .int .i64 0, .int .i64 0, .int .i64 0] 28)
    have hrow : ((m.mem pp).drop 64).take (tabV 5 m.ct).length = tabV 5 m.ct := by
      rw [tabV_len]
      refine tabV_ext (by simp [FM.mem_len]) fun i hi => ?_
      rw [List.getElem?_take, if_pos hi, List.getElem?_drop, m.mem_ct pp hi]
    clear h
    go_enter Try.func23, Try.ntmps23
    go_wp2_with (first
      | (with_reducible refine at_load 28 (.tmp 8) (by rfl) ?_; refine wpList_load_bk row5 rfl (.tmp 8) rfl b 64 rfl hb (tabV 5 m.ct) (tabV_len _ _) hrow ?_)
      | (with_reducible refine at_store 28 (.tmp 2) (.tmp 9) (by rfl) ?_; refine wpList_store_bk row5 rfl (.tmp 2) (.tmp 9) rfl w.heap.size 0 rfl hz (tabV 5 m.ct) rfl (tabV_len _ _) (by decide) (tabV_one _ _) ?_; rintro w9 hz9 hw9))
    rw [lay_all _ _ (by rw [tabV_len]; rfl)] at hz9
    exact bodyPost_ret (results_cell rfl rfl (row5.load hz9 0 (tabV_len _ _) rfl)) rfl ⟨rfl, Wr.on ((Below.refl _ _).alloc (Nat.le_refl _) _) hw9 (Nat.le_refl _)⟩
end
end Go.Proofs.Ytboclbanccfbjaa
namespace Go.Proofs.Ytboclbanccfbjaa
set_option linter.unusedSimpArgs false
set_option linter.unusedVariables false
open Go.RowKit Go.Shelf
/-- The list of a variable stays where what is no cells turns. -/
theorem Lst.own {e : TypeId} {F : Nat → Prop} {W W' : World} {A : Option Addr} {n c : Nat} {vs : List Value} {row : Option Nat} (h : Lst e F W A n c vs) (hw : W.grownBy W' row) (hr : ∀ r, row = some r → ∃ o : Obj, W.heap[r]? = some o ∧ o.isCells = false) : Lst e F W' A n c vs := by
  refine h.same fun ad he => hw.block _ (h.blk ad he).2 fun e => ?_
  obtain ⟨o, ho, hc⟩ := hr _ e.symm
  rcases h.2.2.2.2 with ⟨rfl, _⟩ | ⟨g, o', cur, rfl, _, hh, _⟩
  · cases he
  · injection he with he
    subst he
    rw [hh] at ho
    injection ho with ho
    subst ho
    cases hc
/-- Variable v holds a list of the loop's own, in memory from L on; what was there before the call (w) stays. -/
structure Col (t e : TypeId) (w : World) (L v : Nat) (ys : List Value) (W : World) : Prop where
  bel : Below w.heap.size w W
  sz : L ≤ W.heap.size
  ex : ∃ A n c, Bk W t v [.slice A n c] ∧ Lst e (L ≤ ·) W A n c ys
theorem Col.own {t e : TypeId} {w : World} {L v B : Nat} {ys : List Value} {W W' : World} {row : Option Nat} (h : Col t e w L v ys W) (hv : v < L) (hL : L ≤ B) (hwL : w.heap.size ≤ L) (hw : W.grownBy W' row)
    (hr : ∀ r, row = some r → B ≤ r ∧ ∃ o : Obj, W.heap[r]? = some o ∧ o.isCells = false) : Col t e w L v ys W' := by
  obtain ⟨h1, h2, A, n, c, h3, h4⟩ := h
  have hk : ∀ k, k < L → k < W.heap.size → W'.heap[k]? = W.heap[k]? := fun k hk hs => hw.block k hs (fun e => by have := (hr _ e.symm).1; omega)
  exact ⟨⟨hw.os.trans h1.os, hw.tape.trans h1.tape, hw.output.trans h1.output, Nat.le_trans h1.size hw.size, fun k hk' => (hk k (by omega) (by have := h1.size; omega)).trans (h1.block k hk')⟩, Nat.le_trans h2 hw.size, A, n, c, (hk v hv h3.lt).trans h3, h4.own hw fun r e => (hr r e).2⟩
/-- What an append to a variable's list leaves. -/
theorem Col.step0 {t e : TypeId} {L v : Nat} {xs ys : List Value} {W w2 : World} {A A' : Option Addr} {n c n' c' : Nat} (hs : L ≤ W.heap.size) (r : Bk W t v [.slice A n c]) (hl : Lst e (L ≤ ·) W A n c xs) (hv : v < L) (o : Obj)
    (hap : Apd e (BlkOf A) (W.alloc o) (.slice A' n' c') ys w2) :
    KeepsOthers W (w2.setCell ⟨v, 0, none⟩ (.slice A' n' c')) ∧ St (fun k => k = v ∨ L ≤ k) W (w2.setCell ⟨v, 0, none⟩ (.slice A' n' c')) ∧
      Bk (w2.setCell ⟨v, 0, none⟩ (.slice A' n' c')) t v [.slice A' n' c'] ∧ Lst e (L ≤ ·) (w2.setCell ⟨v, 0, none⟩ (.slice A' n' c')) A' n' c' ys := by
  obtain ⟨⟨A2, n2, c2, he, hl'⟩, hst⟩ := hap
  injection he with e1 e2 e3
  subst e1 e2 e3
  have hA : ∀ k, BlkOf A k → L ≤ k := by rintro k ⟨ad, he, rfl⟩; exact (hl.blk ad he).1
  have hba : Below W.heap.size W (W.alloc o) := (Below.refl _ _).alloc (Nat.le_refl _) _
  have hla := hl.alloc o
  have hDF : Lst e (L ≤ ·) w2 A' n' c' ys := hl'.mono (by
    rintro k (hk | hk)
    · exact hA k hk
    · have := hba.size; omega)
  have hsta : St (fun k => k = v ∨ L ≤ k) W w2 := (St.ext hba).trans (hst.mono (F' := fun k => k = v ∨ L ≤ k) (fun k _ hk => .inr (hA k hk))) (Gr.refl _ _)
  have hvA : ¬ BlkOf A v := fun h => by have := hA v h; omega
  have r2 : Bk w2 t v [.slice A n c] := (r.alloc o).st hst hvA
  have hst3 : St (fun k => k = v ∨ L ≤ k) W (w2.setCell ⟨v, 0, none⟩ (.slice A' n' c')) := hsta.trans (St.setCell (F := fun k => k = v ∨ L ≤ k) w2 (a := ⟨v, 0, none⟩) (.inl rfl) _) (Gr.refl _ _)
  refine ⟨?_, hst3, r2.set 0 _, hDF.far (fun ad he hne => by have := (hDF.blk ad he).1; simp at hne; omega) _⟩
  refine (keepsOthers_of hba).trans (KeepsOthers.trans ⟨hst.size, fun k o ho hc => ?_⟩ (KeepsOthers.setCell _ _ _))
  rw [hst.block k (Array.getElem?_eq_some_iff.1 ho).1 ?_]
  · exact ho
  · rintro ⟨ad, rfl, rfl⟩
    rcases hla.2.2.2.2 with ⟨h, _⟩ | ⟨g', o', cur, h, _, hh, _⟩
    · cases h
    · injection h with h
      subst h
      rw [hh] at ho
      injection ho with ho
      subst ho
      cases hc
/-- The same, of the variable of a call that turns nothing that was there. -/
theorem Col.step {t e : TypeId} {w : World} {L v : Nat} {xs ys : List Value} {W w2 : World} {A A' : Option Addr} {n c n' c' : Nat} (hb : Below w.heap.size w W) (hs : L ≤ W.heap.size) (r : Bk W t v [.slice A n c]) (hl : Lst e (L ≤ ·) W A n c xs) (hv : v < L) (hwv : w.heap.size ≤ v) (o : Obj)
    (hap : Apd e (BlkOf A) (W.alloc o) (.slice A' n' c') ys w2) :
    KeepsOthers W (w2.setCell ⟨v, 0, none⟩ (.slice A' n' c')) ∧ St (fun k => k = v ∨ L ≤ k) W (w2.setCell ⟨v, 0, none⟩ (.slice A' n' c')) ∧ Col t e w L v ys (w2.setCell ⟨v, 0, none⟩ (.slice A' n' c')) := by
  obtain ⟨h1, h2, h3, h4⟩ := Col.step0 hs r hl hv o hap
  refine ⟨h1, h2, ⟨hb.trans (h2.below hb.size ?_), Nat.le_trans hs h2.size, A', n', c', h3, h4⟩⟩
  rintro k (rfl | hk)
  · exact hwv
  · omega
/-- The mark of the loop is shut: what is there is as it was. -/
theorem Col.shut {t e : TypeId} {w : World} {L v D : Nat} {ys : List Value} {W : World} {A : Option Addr} {n c : Nat} (hb : Below w.heap.size w W) (hl : Lst e (L ≤ ·) W A n c ys) (hK : W.heap[D]? = some (.deferred (some []))) (hD : w.heap.size ≤ D) (hwL : w.heap.size ≤ L) (q : Nat) :
    Made e ys w (.returned (.slice A n c)) ((W.drewN q).putObj D (.deferred none)) := by
  refine ⟨A, n, c, rfl, ?_, ?_⟩
  · refine (hl.mono (F' := (w.heap.size ≤ ·)) fun k hk => Nat.le_trans hwL hk).same fun ad he => ?_
    show (((W.drewN q).putObj D (.deferred none)).heap[ad.block]? = W.heap[ad.block]?)
    rw [World.putObj_heap_other]
    · rfl
    · rintro rfl
      rcases hl.2.2.2.2 with ⟨rfl, _⟩ | ⟨g', o', cur, rfl, _, hh, _⟩
      · cases he
      · injection he with he
        subst he
        rw [hh] at hK
        cases hK
  · refine ⟨hb.os, hb.tape, hb.output, by have := hb.size; simp [World.putObj]; omega, fun k hk => ?_⟩
    rw [World.putObj_heap_other (by omega)]
    exact hb.block k hk
theorem Col.shut0 {t e : TypeId} {w : World} {L v D : Nat} {ys : List Value} {W : World} {A : Option Addr} {n c : Nat} (hb : Below w.heap.size w W) (hl : Lst e (L ≤ ·) W A n c ys) (hK : W.heap[D]? = some (.deferred (some []))) (hD : w.heap.size ≤ D) (hwL : w.heap.size ≤ L) :
    Made e ys w (.returned (.slice A n c)) (W.putObj D (.deferred none)) := Col.shut (t := t) (v := v) hb hl hK hD hwL 0
/-- Two lists of the call's own, apart; all below L stays. -/
structure Two (L : Nat) (e1 e2 : TypeId) (A1 : Option Addr) (n1 c1 : Nat) (xs : List Value) (A2 : Option Addr) (n2 c2 : Nat) (ys : List Value) (W0 W : World) : Prop where
  l1 : Lst e1 (L ≤ ·) W A1 n1 c1 xs
  l2 : Lst e2 (L ≤ ·) W A2 n2 c2 ys
  sep : Sep (BlkOf A1) (BlkOf A2)
  sz : L ≤ W0.heap.size
  bel : Below L W0 W
  kp : KeepsOthers W0 W
section
variable {L : Nat} {e1 e2 : TypeId} {A1 A2 : Option Addr} {n1 c1 n2 c2 : Nat} {xs ys us : List Value} {W0 W W' : World} {v : Value}
theorem Two.next (h : Two L e1 e2 A1 n1 c1 xs A2 n2 c2 ys W0 W) (hb : Below W.heap.size W W') : Two L e1 e2 A1 n1 c1 xs A2 n2 c2 ys W0 W' :=
  ⟨h.l1.below hb, h.l2.below hb, h.sep, h.sz, h.bel.trans (hb.mono (Nat.le_trans h.sz h.bel.size)), h.kp.trans (keepsOthers_of hb)⟩
theorem Two.alloc (h : Two L e1 e2 A1 n1 c1 xs A2 n2 c2 ys W0 W) (o : Obj) : Two L e1 e2 A1 n1 c1 xs A2 n2 c2 ys W0 (W.alloc o) := h.next ((Below.refl _ _).alloc (Nat.le_refl _) o)
end
end Go.Proofs.Ytboclbanccfbjaa
namespace Go.Proofs.Ytboclbanccfbjaa
set_option linter.unusedSimpArgs false
set_option linter.unusedVariables false
set_option maxRecDepth 100000
open Go.RowKit Go.Shelf
attribute [local go_sem] Oper.semAt_some
theorem run_equalIn_func_nil (w : World) (k : Nat) (f : Fn) (ts b : Array Value) : (Op.equalIn (k + 1) 95 (.func f ts b) .nilFunc).run Try.prog w = .ok false w := by
  simp [Op.equalIn, run_underlying Try.underlying95]
theorem run_func_nil (w : World) (f : Fn) (ts b : Array Value) : (binOp .eql 95 (.func f ts b) .nilFunc).run Try.prog w = .ok (.bool false) w := by
  simp only [binOp]
  simp [Op.equal, Op.maxDepth, run_equalIn_func_nil w 9999 f ts b]
def intV (xs : List Int) : List Value := xs.map (.int .i64)
theorem intV_len (xs : List Int) : (intV xs).length = xs.length := by simp [intV]
theorem eltI : Elt Try.prog 51 3 (.int .i64 0) 8 := ⟨rfl, by kernel_rfl, rfl, rfl, by decide⟩
/-- Places as numbers, path, host, path, host. -/
def plcs (ps : List (Nat × Nat)) : List Int := ps.flatMap fun p => [(p.1 : Int), (p.2 : Int)]
theorem plcs_snoc (ps : List (Nat × Nat)) (p : Nat × Nat) : plcs (ps ++ [p]) = plcs ps ++ [(p.1 : Int), (p.2 : Int)] := by simp [plcs]
theorem plcs_len : ∀ ps : List (Nat × Nat), (plcs ps).length = 2 * ps.length
  | [] => rfl
  | p :: r => by
    have := plcs_len r
    simp only [plcs, List.flatMap_cons, List.length_append, List.length_cons, List.length_nil] at this ⊢
    omega
def prePl (ps : List (Nat × Nat)) (pre : List (Fin ps.length)) : List (Nat × Nat) := pre.map fun i => ps[i]
theorem prePl_snoc (ps : List (Nat × Nat)) (pre : List (Fin ps.length)) (x : Fin ps.length) : prePl ps (pre ++ [x]) = prePl ps pre ++ [ps[x]] := by simp [prePl]
theorem prePl_all (ps : List (Nat × Nat)) : prePl ps (List.finRange ps.length) = ps := by
  apply List.ext_getElem
  · simp [prePl]
  · intro i h1 h2
    simp [prePl]
theorem prePl_take (ps : List (Nat × Nat)) (k : Nat) : prePl ps ((List.finRange ps.length).take k) = ps.take k := by
  have := congrArg (List.take k) (prePl_all ps)
  rw [← this, prePl, prePl, List.map_take]
section
variable {F X F1 X1 G : Nat → Prop} {w w' w1 W W' : World} {m m1 : FM} {pp : Nat → Nat} {FF : Nat → Nat → Prop} {k L H : Nat} {P A : Option Addr} {n d : Nat}
theorem RdV.two (w : World) (e : TypeId) (x y : Value) (hx : x.oneCell' = true) (hy : y.oneCell' = true) : RdV (w.alloc (.cells #[x, y] e)) (some ⟨w.heap.size, 0, none⟩) 2 2 [x, y] := by
  have := Lst.made w e #[x, y] 2 [x, y] rfl (by simp) (by simp [maxLen]) (by simp [hx, hy]) (fun i hi => by
    match i, hi with
    | 0, _ => rfl
    | 1, _ => rfl)
  exact this.rdv
/-- Within busy. -/
structure BuI (w : World) (L most : Nat) (ps : List (Nat × Nat)) (pre : List (Fin ps.length)) (W : World) : Prop where
  col : Col 51 3 w L (w.heap.size + 1) (intV (plcs (prePl ps pre))) W
  bx : Bk W 3 w.heap.size [.int .i64 most]
  le : pre.length ≤ most
theorem BuI.own {most : Nat} {ps : List (Nat × Nat)} (hL : w.heap.size + 2 ≤ L) : OwnFrom L (BuI w L most ps) := by
  rintro pre W W' row ⟨h1, h2, h3⟩ hw hr
  exact ⟨h1.own (B := L) (by omega) (Nat.le_refl _) (by omega) hw hr, (hw.block _ h2.lt (fun e => by have := (hr _ e.symm).1; omega)).trans h2, h3⟩
def BuX (w : World) (L most : Nat) (ps : List (Nat × Nat)) (c : Code) (pre' : List (Fin ps.length)) (W : World) : Prop :=
  c = .exit 0 ∧ ∃ pre x, pre' = pre ++ [x] ∧ most ≤ pre.length ∧ BuI w L most ps pre W
set_option maxHeartbeats 8000000 in
theorem l_busy (h : FbP F X w P m pp FF) (most : Nat) (hm : most ≤ 1000) :
    Calls Try.prog 25 #[.pointer P, .int .i64 most] w (Made 3 (intV (plcs (m.busy.take most))) w) := by
  have fn := fun (w : World) (f : Fn) (ts b : Array Value) => run_func_nil w f ts b
  have hb2 : Below w.heap.size w ((w.alloc (.cells #[.int .i64 most] 3)).alloc (.cells #[.slice none 0 0] 51)) := ((Below.refl _ _).alloc (Nat.le_refl _) _).alloc (by simp) _
  have HB := Lib.hid (f_Busy (h.below hb2))
  have HB2 := Lib.hid hb2
  have HQ0 := Lib.hid ((Bk.new w 3 [.int .i64 most]).alloc (.cells #[.slice none 0 0] 51))
  have HQ1 : Hid (Bk ((w.alloc (.cells #[.int .i64 most] 3)).alloc (.cells #[.slice none 0 0] 51)) 51 (w.heap.size + 1) [.slice none 0 0]) := Lib.hid (by
    have := Bk.new (w.alloc (.cells #[.int .i64 most] 3)) 51 [.slice none 0 0]
    rw [World.size_alloc] at this; exact this)
  clear h hb2
  refine (callsIn_wide (n := 5)).1 ?_
  refine callsIn_of_wp_marks Try.func25 rfl trivial ?_ rfl
  simp only [Try.ntmps25, List.size_toArray, List.length_cons, List.length_nil, Nat.reduceAdd, Nat.reduceSub, Array.replicate_succ, Array.replicate_zero, List.push_toArray, List.append_toArray, List.nil_append, List.cons_append]
  gi_wp2
  refine ⟨trivial, (callsIn_wide.2 HB.out).mono ?_⟩
  rintro e W0 ⟨g, A, n, c, rfl, hg, hbx, hn, hrd, hA, hb⟩
  have q0 := HQ0.out.below hb
  have q1 := HQ1.out.below hb
  have hb0 := HB2.out.trans (hb.mono HB2.out.size)
  have hgl := hbx.lt
  have hsz0 := hb.size
  simp only [World.size_alloc] at hg hA hsz0
  have hn64 : n ≤ 64 := by rw [hn]; exact m.busyN_len 64
  have HSZ : Hid (w.heap.size + 2 ≤ W0.heap.size) := Lib.hid (by omega)
  have HT : Hid (∀ k, (k = g ∨ BlkOf A k) → w.heap.size + 2 ≤ k ∧ k < W0.heap.size) := Lib.hid (by
    rintro k (rfl | ⟨ad, he, rfl⟩)
    · exact ⟨by omega, hgl⟩
    · exact ⟨by have := (hA ad he).1; omega, (hA ad he).2⟩)
  have HSt := Lib.hid (busy_stops (5 - 1) (by decide) (fun k => k = g ∨ BlkOf A k) g m.busy A n c W0 hn hn64 (.inl rfl) (fun ad he => .inr ⟨ad, he, rfl⟩) (fun k hk => (HT.out k hk).2) hbx hrd)
  have hl64 : m.busy.length ≤ 64 := by omega
  clear hg hbx hn hrd hA hb hgl hn64 HB HQ0 HQ1 hsz0
  generalize m.busy = ps at *
  gi_wp2
  clear fn
  refine wpIn_rangeFunc_ownF rfl (by decide) (gf := 59) (lb := #[.pointer (some ⟨g, 0, none⟩)]) rfl trivial (enters_of Try.func59 (by kernel_rfl) rfl)
    HSt.out KpS.trans (KpS.put (fun k hk => (HT.out k hk).2)) (Below.refl _ _) (fun _ => rfl)
    (BuI w W0.heap.size most ps) (BuX w W0.heap.size most ps) (BuI.own HSZ.out) (fun c' => ?own) ⟨⟨hb0, Nat.le_refl _, none, 0, 0, q1, Lst.nil _ _ _⟩, q0, Nat.zero_le _⟩
    (fun i => { tmps := #[.pointer P, .int .i64 most, undef, .pointer (some ⟨w.heap.size, 0, none⟩), .slice none 0 0, .pointer (some ⟨w.heap.size + 1, 0, none⟩), .func (.func 59) #[] #[.pointer (some ⟨g, 0, none⟩)], .int .i64 ps[i].1, .int .i64 ps[i].2, .pointer P, .func (.func 59) #[] #[.pointer (some ⟨g, 0, none⟩)], .func (.func 59) #[] #[.pointer (some ⟨g, 0, none⟩)], .bool false, .func (.func 59) #[] #[.pointer (some ⟨g, 0, none⟩)], .int .i64 ps[i].1, .int .i64 ps[i].2, undef, undef, undef, undef, undef, undef, undef, undef, undef, undef, undef], defers := [] }) ?assign ?body ?done ?stop
  case own =>
    rintro pre' W W' row ⟨hc', pre, x, e1, e2, hI⟩ hw hr
    exact ⟨hc', pre, x, e1, e2, BuI.own HSZ.out pre W W' row hI hw hr⟩
  case assign =>
    intro l x W K hK
    gi_wp2
    simpa using hK
  case body =>
    rintro l pre x W ⟨⟨hbel, hsz, A1, n1, c1, r, hl⟩, hbx, hle⟩ hpre
    have c0 := hbx.cell 0 rfl
    have cl := r.cell 0 rfl
    have fl := r.free 0
    have hn1 : n1 = 2 * pre.length := by have := hl.1; rw [intV_len, plcs_len] at this; simp [prePl] at this; omega
    have hpl : pre.length ≤ 64 := by omega
    have hmw : IntKind.i64.wrap (2 * (most : Int)) = 2 * most := by rw [IntKind.wrap_i64]; omega
    by_cases hlt : most ≤ pre.length
    · have HI : Hid (BuI w W0.heap.size most ps pre W) := Lib.hid ⟨⟨hbel, hsz, A1, n1, c1, r, hl⟩, hbx, hle⟩
      have hcmp : 2 * (most : Int) ≤ (n1 : Int) := by omega
      clear hn1 hbel hsz r hl hbx
      gi_wp2
      exact ⟨KeepsOthers.refl _, rfl, pre, x, rfl, hlt, HI.out⟩
    · have hcmp : (n1 : Int) < 2 * (most : Int) := by omega
      have hpp := prePl_snoc ps pre x
      obtain ⟨y, hy⟩ : ∃ y, y = ps[x] := ⟨_, rfl⟩
      rw [← hy] at hpp ⊢
      have HPP := Lib.hid hpp
      have hla := (hl.alloc (.cells #[.int .i64 y.1, .int .i64 y.2] 3)).tight
      have hu := RdV.two W 3 (.int .i64 y.1) (.int .i64 y.2) rfl rfl
      have ra := r.alloc (.cells #[.int .i64 y.1, .int .i64 y.2] 3)
      have hk8 : (n1 + 2) * 8 ≤ 140737488355328 := by omega
      have hvA : ¬ BlkOf A1 (w.heap.size + 1) := by
        rintro ⟨ad, he, hbk⟩
        have := (hl.blk ad he).1
        have := HSZ.out
        omega
      have HI := Lib.hid (And.intro hbel (And.intro hsz (And.intro r (And.intro hl hbx))))
      clear hbel hsz r hl hbx hn1 hy hpp
      gi_wp2_with (gi_at_builtin
                   refine wpListIn_append_lst eltI rfl (.tmp 21) (.tmp 24) rfl rfl hla rfl hu hk8 ?_
                   rintro v w2 hap
                   obtain ⟨A', n', c', rfl, hl'⟩ := hap.ex
                   have HAP := Lib.hid hap
                   have r2 := ra.st hap.st hvA
                   have c3 := r2.cell 0 rfl
                   have f3 := r2.free 0
                   clear hap hl')
      obtain ⟨hbel, hsz, r, hl, hbx⟩ := HI.out
      have hs2 := HSZ.out
      obtain ⟨k1, k2, k3⟩ := Col.step hbel hsz r hl (by omega) (by omega) _ HAP.out
      refine ⟨k1, fun k hk => k2.block k (by have := (HT.out k hk).2; omega) (by have := HT.out k hk; omega), ?_⟩
      refine ⟨?_, hbx.st k2 (by omega), by simp; omega⟩
      rw [HPP.out, plcs_snoc]
      simpa [intV] using k3
  case done =>
    rintro D ys W hD rfl ⟨⟨hbel, hsz, A1, n1, c1, r, hl⟩, hbx, hle⟩ hK
    rw [prePl_all] at hl
    have hvm : ps = ps.take most := by
      rw [List.length_finRange] at hle
      rw [List.take_of_length_le hle]
    have HV := Lib.hid hvm
    have cl := r.cell 0 rfl
    have HE := Lib.hid (Col.shut0 (t := 51) (v := w.heap.size + 1) hbel hl hK (by have := HSZ.out; omega) (by have := HSZ.out; omega))
    rw [hvm] at HE
    clear hvm hl hbel r hbx
    gi_wp2
    refine ⟨by simp, .inl ⟨_, _, rfl, run_takeDeferred hK, ?_⟩⟩
    refine ⟨_, results_tmp rfl _ _ _, ?_⟩
    exact HE.out
  case stop =>
    rintro D c' pre' W hD ⟨k, hpk⟩ ⟨rfl, pre, x, e1, e2, ⟨⟨hbel, hsz, A1, n1, c1, r, hl⟩, hbx, hle⟩⟩ hK
    have hpre : pre = (List.finRange ps.length).take most := by
      obtain rfl : pre.length = most := by omega
      rw [e1] at hpk
      have hk : pre.length ≤ k := by
        have := congrArg List.length hpk
        simp at this
        omega
      have := congrArg (List.take pre.length) hpk
      rw [List.take_take, Nat.min_eq_left hk] at this
      rw [← this]
      simp
    rw [hpre, prePl_take] at hl
    have cl := r.cell 0 rfl
    have HE := Lib.hid (Col.shut0 (t := 51) (v := w.heap.size + 1) hbel hl hK (by have := HSZ.out; omega) (by have := HSZ.out; omega))
    clear hpre e1 hpk hl hbel r hbx
    gi_wp2
    refine ⟨by simp, .inl ⟨_, _, rfl, run_takeDeferred hK, ?_⟩⟩
    refine ⟨_, results_tmp rfl _ _ _, ?_⟩
    exact HE.out
end
end Go.Proofs.Ytboclbanccfbjaa
namespace Go.Proofs.Ytboclbanccfbjaa
set_option linter.unusedSimpArgs false
set_option linter.unusedVariables false
set_option maxRecDepth 100000
open Go.RowKit Go.Shelf
theorem arr5 : ArrE Try.prog 28 3 5 := ⟨rfl, ⟨_, rfl, rfl⟩, by kernel_rfl⟩
theorem eq5 (xs ys : List Int) (hx : xs.length = 5) (hy : ys.length = 5) (W : World) : (binOp .eql 28 (.agg (xs.map (.int .i64)).toArray) (.agg (ys.map (.int .i64)).toArray)).run Try.prog W = .ok (.bool (decide (xs = ys))) W :=
  arr5.eql (.int .i64) (fun a b => eq_int rfl 9998 a b) xs ys hx hy
theorem ne5 (xs ys : List Int) (hx : xs.length = 5) (hy : ys.length = 5) (W : World) : (binOp .neq 28 (.agg (xs.map (.int .i64)).toArray) (.agg (ys.map (.int .i64)).toArray)).run Try.prog W = .ok (.bool (!decide (xs = ys))) W :=
  arr5.neq (.int .i64) (fun a b => eq_int rfl 9998 a b) xs ys hx hy
section
variable {P : Program} {w : World} {Q : Exit → Act → World → Prop} {ops : Array Oper} {rest : List Oper} {op : Oper} {a : Act}
theorem wpList_exec (hw : Region.wanted op (yielded ops a.tmps) = true) {v : Value} (h : (execOp a.eval op).run P w = .ok (.value v) w) (hq : wpList P ops Q rest (a.put op.dst v) w) : wpList P ops Q (op :: rest) a w := by
  refine wpList_step (fun K hK => ?_)
  rw [if_pos hw]
  unfold Oper.wp
  rw [h]
  exact hK _ _ hq
theorem at_bin (bo : BinOp) (t t' : TypeId) (x y : Operand) (ho : op.op = .binOp bo t x y t') (h : wpList P ops Q (op :: rest) a w) : wpList P ops Q (op :: rest) a w := h
end
def dt (seq : Int) : Pk := ⟨⟨1, 0, 0, 0, 1, 1, seq, 0⟩, [97]⟩
theorem p_data (seq : Int) (w : World) : Calls Try.prog 28 #[.int .i64 seq] w fun e w' => ∃ q, e = .returned (.agg #[.int .i64 q.h.kd, .int .i64 q.h.fl, .int .i64 q.h.pa, .int .i64 q.h.sr, .int .i64 q.h.ds, .int .i64 q.h.cn, .int .i64 q.h.sq, .int .i64 q.h.pu, .slice q.A q.n q.c]) ∧ FreshP w (dt seq) q w' := by
  have kc : ∀ (o : Obj) (C : Array Value) (n c : Nat), (convert 63 63 (.slice (some ⟨w.heap.size + 1, 0, none⟩) n c)).run Try.prog ((w.alloc o).alloc (.cells C 5)) = .ok (.slice (some ⟨w.heap.size + 1, 0, none⟩) n c) ((w.alloc o).alloc (.cells C 5 (C.size, C.size + 1))) := fun o C n c => by
    have := Lib.run_convert_bytes_const (P := Try.prog) (w.alloc o) 63 5 C n c Try.underlying63 Try.underlying5
    rw [World.size_alloc] at this
    exact this
  go_enter Try.func28, Try.ntmps28
  go_wp2
  clear kc
  have hz : Bk ((w.alloc (.cells (List.toArray [.int .i64 1, .int .i64 0, .int .i64 0, .int .i64 0, .int .i64 1, .int .i64 1, .int .i64 seq, .int .i64 0, .slice (some ⟨w.heap.size + 1, 0, none⟩) 1 1]) 65)).alloc (.cells #[.int .u8 97] 5 (1, 2))) 65 w.heap.size (Pv.cl ⟨(dt seq).h, some ⟨w.heap.size + 1, 0, none⟩, 1, 1, [97]⟩) := (Bk.new w 65 _).alloc _
  have hrd : Rd .u8 ((w.alloc (.cells (List.toArray [.int .i64 1, .int .i64 0, .int .i64 0, .int .i64 0, .int .i64 1, .int .i64 1, .int .i64 seq, .int .i64 0, .slice (some ⟨w.heap.size + 1, 0, none⟩) 1 1]) 65)).alloc (.cells #[.int .u8 97] 5 (1, 2))) (some ⟨w.heap.size + 1, 0, none⟩) 1 1 [97] := by
    have := Rd.litF (w.alloc (.cells (List.toArray [.int .i64 1, .int .i64 0, .int .i64 0, .int .i64 0, .int .i64 1, .int .i64 1, .int .i64 seq, .int .i64 0, .slice (some ⟨w.heap.size + 1, 0, none⟩) 1 1]) 65)) 5 [97] (1, 2) (by decide) (by decide)
    simpa using this
  refine bodyPost_ret (results_cell rfl rfl (load_pk rowP hz)) rfl ⟨⟨(dt seq).h, some ⟨w.heap.size + 1, 0, none⟩, 1, 1, [97]⟩, rfl, rfl, fun F hF => ⟨hrd, by show 1 ≤ 1100; decide, by show (0 : Int) ≤ 9223372036854775807; decide, fun _ ad he hf => ?_⟩, ((Below.refl _ _).alloc (Nat.le_refl _) _).alloc (by simp) _⟩
  injection he with he
  subst he
  have := hF _ hf
  simp at this
  omega
theorem told4 : tabI 5 ((FM.new 2 1 (AM.new 1 1 1)).puts [dt 0, dt 1, dt 2, dt 3]).2 = [0, 1, 1, 1, 1] := by decide +kernel
def exP : FM := ((FM.new 2 1 (AM.new 1 1 1)).puts [dt 0, dt 1, dt 2, dt 3]).1
theorem exP_E : exP.svE 0 0 1 = 0 := by decide +kernel
theorem exP_L : (exP.svL 0 0 1).map (fun x => (x.h.sq, x.h.sr)) = [(2, 1)] := by decide +kernel
theorem exP_0 : (exP.pt 0).isSome = true := by decide +kernel
theorem exP_c : 0 ≤ exP.ct 0 ∧ exP.ct 0 ≤ 1000000 := by decide +kernel
theorem exP_T : (exP.svM 0 0 1).total = 2 := by decide +kernel
theorem FMb.new (hs ps L H T : Nat) : FMb (FM.new hs ps (AM.new L H T)) L H 0 := fun k a hk => by
  unfold FM.new FM.newN at hk
  dsimp only at hk
  split at hk
  · injection hk with hk; subst hk; exact AMb.new _ _ _
  · cases hk
theorem FM.new_0 (hs ps : Nat) (a : AM) (h1 : 0 < hs) (h2 : 0 < ps) : ((FM.new hs ps a).pt 0).isSome = true := by
  unfold FM.new FM.newN
  dsimp only
  rw [if_pos (by omega)]; rfl
/-- One row of packets that reads. -/
theorem RdR.one_pk {w : World} {A : Option Addr} {n c : Nat} {qs : List Pv} {α : Type} {f : Pk → α} {y : α} (hn : n = qs.length) (h : RdR 9 w A n c (flat Pv.cl qs)) (hk : (qs.map Pv.pk).map f = [y]) : ∃ (g o : Nat) (q : Pv), A = some ⟨g, o, none⟩ ∧ n = 1 ∧ w.rangeAt g o q.cl ∧ f q.pk = y := by
  cases qs with
  | nil => cases hk
  | cons q qs =>
    rw [List.map_cons, List.map_cons] at hk
    injection hk with hk1 hk2
    obtain rfl : qs = [] := List.map_eq_nil_iff.1 (List.map_eq_nil_iff.1 hk2)
    obtain rfl : n = 1 := hn
    obtain ⟨g, o, rfl, hg, hra⟩ := h.range (i := 0) (by decide)
    have hrow := flat_row Pv.cl_len [q] 0 (by simp)
    simp only [Nat.zero_mul, Nat.add_zero, List.drop_zero, List.getElem_cons_zero] at hrow hra
    rw [hrow] at hra
    exact ⟨g, o, q, rfl, rfl, hra, hk1⟩
set_option maxHeartbeats 4000000 in
theorem p_awake (w : World) : Calls Try.prog 8 #[] w fun e w' => e = .returned (.bool true) ∧ Below w.heap.size w w' := by
  have HN := Lib.hid (f_new 2 1 1 1 1 w (by decide) (by decide) (by decide) (by decide) (by decide) (by decide) (by decide) (by decide) (by decide) (by decide))
  go_enter Try.func8, Try.ntmps8
  go_wp2_with fail
  refine HN.out.mono ?_
  rintro e w1 ⟨rfl, F1, pp, FF1, hf1, hF1, hb1⟩
  have H1 := Lib.hid (And.intro hf1 (And.intro hF1 hb1))
  clear hf1 hF1 hb1
  go_wp2_with fail
  have HP := Lib.hid (fun (W : World) (hW : Below w1.heap.size w1 W) => H1.out.1.below hW)
  refine (p_data 0 _).mono ?_
  rintro e w2 ⟨q0, rfl, hk0, hr0, hb2⟩
  have hc0 : PvR F1 w2 q0 := hr0 F1 H1.out.1.bd
  have H2 := Lib.hid (And.intro hk0 (And.intro hc0 hb2))
  clear hk0 hr0 hc0 hb2
  go_wp2_with fail
  refine (p_data 1 _).mono ?_
  rintro e w3 ⟨q1, rfl, hk1, hr1, hb3⟩
  have hc1 : PvR F1 w3 q1 := hr1 F1 (H1.out.1.below H2.out.2.2).bd
  have hd0 := H2.out.2.1.below hb3
  have hbb := below_on H2.out.2.2 hb3
  have H3 := Lib.hid (And.intro H2.out.1 (And.intro hk1 (And.intro hd0 (And.intro hc1 hbb))))
  clear hk1 hr1 hc1 hb3 hd0 hbb H2
  go_wp2_with fail
  refine (p_data 2 _).mono ?_
  rintro e w4 ⟨q2, rfl, hk2, hr2, hb4⟩
  obtain ⟨k0, k1, d0, d1, hbb⟩ := H3.out
  have hc2 : PvR F1 w4 q2 := hr2 F1 (H1.out.1.below hbb).bd
  have H4 := Lib.hid (And.intro k0 (And.intro k1 (And.intro hk2 (And.intro (d0.below hb4) (And.intro (d1.below hb4) (And.intro hc2 (below_on hbb hb4)))))))
  clear hk2 hr2 hc2 hb4 hbb k0 k1 d0 d1 H3
  go_wp2_with fail
  refine (p_data 3 _).mono ?_
  rintro e w5 ⟨q3, rfl, hk3, hr3, hb5⟩
  obtain ⟨k0, k1, k2, d0, d1, d2, hbb⟩ := H4.out
  have hc3 : PvR F1 w5 q3 := hr3 F1 (H1.out.1.below hbb).bd
  have hal := (Below.refl w5.heap.size w5).alloc (Nat.le_refl _) (.cells (flat Pv.cl [q0, q1, q2, q3]).toArray 65)
  have hrd := (LstR.made 9 w5 65 (flat Pv.cl [q0, q1, q2, q3]).toArray 4 4 (flat Pv.cl [q0, q1, q2, q3]) rfl (Nat.le_refl _) (Nat.le_refl 36) (by decide) (flat_wf Pv.cl_one _) (fun i hi => by simp)).rd
  have hb6 := below_on (below_on hbb hb5) hal
  have hsl : SlP F1 (w5.alloc (.cells (flat Pv.cl [q0, q1, q2, q3]).toArray 65)) (some ⟨w5.heap.size, 0, none⟩) 4 4 [dt 0, dt 1, dt 2, dt 3] := by
    refine ⟨[q0, q1, q2, q3], rfl, hrd, by simp [k0, k1, k2, hk3], ?_, fun _ ad he hf => ?_⟩
    · intro q hq
      simp only [List.mem_cons, List.not_mem_nil, or_false] at hq
      rcases hq with rfl | rfl | rfl | rfl
      · exact (d0.below hb5).below hal
      · exact (d1.below hb5).below hal
      · exact (d2.below hb5).below hal
      · exact hc3.below hal
    · injection he with he
      subst he
      have := (H1.out.1.below (below_on hbb hb5)).bd _ hf
      simp at this
  have HPut := Lib.hid (f_Put (n := 4) (H1.out.1.below hb6) (FM.new_0 2 1 _ (by decide) (by decide)) (FMb.new 2 1 1 1 1) (fun i => ⟨Int.le_refl _, Int.le_refl _⟩) (by decide) hsl)
  have HB6 := Lib.hid (H1.out.2.2.trans (hb6.mono H1.out.2.2.size))
  have htl : (tabV 5 ((FM.new 2 1 (AM.new 1 1 1)).puts [dt 0, dt 1, dt 2, dt 3]).2).toArray = #[.int .i64 0, .int .i64 1, .int .i64 1, .int .i64 1, .int .i64 1] := by unfold tabV; rw [told4]; rfl
  rw [htl] at HPut
  have HFM : Hid (FMb exP 1 1 8) := Lib.hid (FMc.take (FMb.new 2 1 1 1 1) (fun i => ⟨Int.le_refl _, Int.le_refl _⟩) [dt 0, dt 1, dt 2, dt 3] 4 (by decide)).b
  clear htl hsl hb6 hrd hal hc3 hbb k0 k1 k2 d0 d1 d2 hk3 hr3 hb5 H4 HP
  go_wp2_with fail
  refine HPut.out.mono ?_
  rintro e w7 ⟨rfl, F7, FF7, hf7, hs7, hg7⟩
  have hb8 := (Below.refl w7.heap.size w7).alloc (Nat.le_refl _) (.cells #[.int .i64 0, .int .i64 1, .int .i64 1, .int .i64 1, .int .i64 1] 28)
  have hf7 : FbC F7 (fun _ => False) w7 w.heap.size exP pp FF7 := hf7
  have HS := Lib.hid (f_Serve (hf7.below hb8) exP_0 HFM.out exP_c (by decide) 0 0 1)
  rw [exP_E] at HS
  have hbx := Bk.new w7 28 [.int .i64 0, .int .i64 1, .int .i64 1, .int .i64 1, .int .i64 1]
  have hnx : ¬ F7 w7.heap.size := fun hf => Nat.lt_irrefl _ (hf7.bd _ hf)
  have HB8 := Lib.hid (below_on (HB6.out.trans (hs7.below (HB6.out.size) H1.out.2.1)) hb8)
  have HF7 := Lib.hid (hg7.ge H1.out.2.1 HB6.out.size)
  clear hf7 hs7 hg7 hb8 HPut
  go_wp2_with fail
  refine HS.out.mono ?_
  rintro e w9 ⟨A, n, c, qs, rfl, hn, hrd, hk, F9, FF9, hf9, hs9, hg9, hr9⟩
  obtain ⟨g, o, q, rfl, rfl, hra, hq⟩ := RdR.one_pk hn hrd (by rw [hk]; exact exP_L)
  have c6 := hra 6 (.int .i64 q.h.sq) rfl
  have c3 := hra 3 (.int .i64 q.h.sr) rfl
  have hq1 : q.h.sq = 2 ∧ q.h.sr = 1 := by injection hq with h1 h2; exact ⟨h1, h2⟩
  rw [hq1.1] at c6
  rw [hq1.2] at c3
  have hbx9 := hbx.st hs9 hnx
  have HTo := Lib.hid (f_Total hf9.fp)
  rw [exP_T] at HTo
  have HB9 := Lib.hid (HB8.out.trans (hs9.below HB8.out.size HF7.out))
  clear hn hrd hk hf9 hs9 hg9 hr9 hra hq hq1 hbx hnx HS
  go_wp2_with (first
    | (with_reducible refine at_load 28 (.tmp 3) (by rfl) ?_; refine wpList_load_bk row5 rfl (.tmp 3) rfl w7.heap.size 0 rfl hbx9 [.int .i64 0, .int .i64 1, .int .i64 1, .int .i64 1, .int .i64 1] rfl rfl ?_)
    | (with_reducible refine at_bin .eql 28 28 (.tmp 28) (.tmp 29) (by rfl) ?_; refine wpList_exec rfl (exec_cmp_agg rfl (by kernel_rfl) rfl rfl (eq5 [0, 1, 1, 1, 1] [0, 1, 1, 1, 1] rfl rfl _)) ?_)
    | (go_at_call 21; refine HTo.out.mono ?_; rintro e w10 ⟨rfl, hb10⟩))
  go_ret
  exact ⟨rfl, below_on HB9.out hb10⟩
end Go.Proofs.Ytboclbanccfbjaa
namespace Go.Proofs.Ytboclbanccfbjaa
set_option linter.unusedSimpArgs false
set_option linter.unusedVariables false
set_option maxRecDepth 100000
open Go.RowKit Go.Shelf
section
variable {F X F1 X1 G : Nat → Prop} {w w' w1 W W' : World} {pp : Nat → Nat} {FF : Nat → Nat → Prop} {P : Option Addr}
end
/-- What stands between two rounds. -/
structure NbI (w : World) (q : Pv) (F : Nat → Prop) (pp : Nat → Nat) (FF : Nat → Nat → Prop) (wr : World) : Prop where
  bx : Bk wr 65 w.heap.size q.cl
  fb : FbC F (fun _ => False) wr (w.heap.size + 1) FM.nobody pp FF
  sl : Bk wr 23 (w.heap.size + 2) [.pointer none, .pointer (some ⟨w.heap.size + 1, 0, none⟩)]
  bl : Below w.heap.size w wr
theorem NbI.below {w wr wr' : World} {q : Pv} {F : Nat → Prop} {pp : Nat → Nat} {FF : Nat → Nat → Prop} (h : NbI w q F pp FF wr) (hb : Below wr.heap.size wr wr') : NbI w q F pp FF wr' :=
  ⟨h.bx.below hb, h.fb.below hb, h.sl.below hb, below_on h.bl hb⟩
end Go.Proofs.Ytboclbanccfbjaa
namespace Go.Proofs.Ytboclbanccfbjaa
set_option linter.unusedSimpArgs false
set_option linter.unusedVariables false
set_option maxRecDepth 100000
open Go.RowKit Go.Shelf
def AM.cnt (a : AM) : Nat := a.low.length + a.high.length
def cntO (a : Option AM) : Nat := match a with | none => 0 | some a => a.cnt
/-- The sum of the first k. -/
def sumN (f : Nat → Nat) : Nat → Nat
  | 0 => 0
  | k + 1 => sumN f k + f k
theorem sumN_congr {f g : Nat → Nat} : ∀ k, (∀ i, i < k → f i = g i) → sumN f k = sumN g k
  | 0, _ => rfl
  | k + 1, h => by simp only [sumN]; rw [sumN_congr k fun i hi => h i (by omega), h k (by omega)]
theorem sumN_filter (f : Nat → Nat) : ∀ k, (((List.range k).filter fun i => decide (0 < f i)).map f).sum = sumN f k
  | 0 => rfl
  | k + 1 => by
    rw [List.range_succ, List.filter_append, List.map_append, List.sum_append, sumN_filter f k]
    simp only [sumN]
    by_cases h : 0 < f k
    · simp [h]
    · simp [h]; omega
section
variable {m : FM} {k : Nat} {a c : AM}
theorem FM.many_eq (m : FM) {k : Nat} (h : k < 64) : m.many k = cntO (m.pt k) := by
  have hp : m.port ((k / 8 : Nat) : Int) ((k % 8 : Nat) : Int) = m.pt k := by
    unfold FM.port
    rw [if_pos (by simp only [inB, decide_eq_true_eq]; omega)]
    unfold ix
    rw [Int.toNat_natCast, Int.toNat_natCast]
    congr 1; omega
  unfold FM.many FM.lows FM.highs
  rw [hp]
  cases m.pt k <;> rfl
theorem FM.total_eq (m : FM) : m.total = sumN (fun k => cntO (m.pt k)) 64 := by
  unfold FM.total FM.busy FM.busyN
  rw [List.map_map, ← sumN_congr 64 (f := m.many) (fun i hi => m.many_eq hi), ← sumN_filter]
  congr 1
end
end Go.Proofs.Ytboclbanccfbjaa
namespace Go.Proofs.Ytboclbanccfbjaa
set_option linter.unusedSimpArgs false
set_option linter.unusedVariables false
set_option maxRecDepth 100000
open Go.RowKit Go.Shelf
def Pv.few (q : Pv) : Pv := ⟨q.h, q.A, min q.n 60, q.c, q.xs.take (min q.n 60)⟩
def Pk.few (p : Pk) : Pk := ⟨p.h, p.xs.take (min p.xs.length 60)⟩
def fewL (ks : List Pk) : List Pk := (ks.take 12).map Pk.few
theorem fewL_len (ks : List Pk) : (fewL ks).length ≤ 12 := by unfold fewL; rw [List.length_map, List.length_take]; omega
/-- Packets that came in: they lie below B. -/
structure RawP (B : Nat) (w : World) (A : Option Addr) (n : Nat) (qs : List Pv) : Prop where
  ln : n = qs.length
  row : ∀ i (h : i < qs.length), ∃ g o, A = some ⟨g, o, none⟩ ∧ g < B ∧ w.rangeAt g (o + i * 9) qs[i].cl
  rd : ∀ q ∈ qs, Rd .u8 w q.A q.n q.c q.xs ∧ q.h.fl ≤ 9223372036854775807 ∧ (0 < q.n → ∀ ad, q.A = some ad → ad.block < B)
  mx : n ≤ 9223372036854775807
  hB : B ≤ w.heap.size
section
variable {B : Nat} {w w' wr : World} {A : Option Addr} {n c : Nat} {qs : List Pv}
theorem RawP.keep (h : RawP B w A n qs) (hb : Below B w w') : RawP B w' A n qs := by
  obtain ⟨h1, h2, h3, h4, h5⟩ := h
  refine ⟨h1, fun i hi => ?_, fun q hq => ?_, h4, Nat.le_trans h5 hb.size⟩
  · obtain ⟨g, o, e, hg, hra⟩ := h2 i hi
    exact ⟨g, o, e, hg, fun j v hv => (hb.cell (p := ⟨g, _, none⟩) hg).trans (hra j v hv)⟩
  · obtain ⟨k1, k2, k3⟩ := h3 q hq
    exact ⟨k1.belowA k3 hb, k2, k3⟩
/-- What few leaves. -/
def Fewed (B : Nat) (w : World) (ks : List Pk) (e : Ending) (w' : World) : Prop := ∃ A n c, e = .returned (.slice A n c) ∧ n = (fewL ks).length ∧ Below w.heap.size w w' ∧ ∀ F : Nat → Prop, (∀ k, F k → B ≤ k ∧ k < w.heap.size) → SlP F w' A n c (fewL ks)
theorem few_snoc (i : Nat) (h : i < qs.length) : (qs.take (i + 1)).map Pv.few = (qs.take i).map Pv.few ++ [qs[i].few] := by
  rw [List.take_succ_eq_append_getElem h, List.map_append]; rfl
/-- A packet cut short reads, off what lies elsewhere. -/
theorem Pv.few_rd {q : Pv} {F : Nat → Prop} (h : Rd .u8 w q.A q.n q.c q.xs ∧ q.h.fl ≤ 9223372036854775807 ∧ (0 < q.n → ∀ ad, q.A = some ad → ad.block < B)) (hF : ∀ k, F k → B ≤ k) : PvR F w q.few ∧ q.few.pk = q.pk.few := by
  obtain ⟨h1, h2, h3⟩ := h
  refine ⟨⟨h1.pre (Nat.min_le_left _ _), by show min q.n 60 ≤ 1100; omega, h2, fun hn ad he hf => ?_⟩, ?_⟩
  · have := h3 (by have : 0 < min q.n 60 := hn; omega) ad he
    have := hF _ hf
    omega
  · unfold Pv.few Pk.few Pv.pk
    dsimp only
    rw [h1.1]
set_option maxHeartbeats 4000000 in
theorem l_few (h : RawP B w A n qs) :
    Calls Try.prog 10 #[.slice A n c] w (Fewed B w (qs.map Pv.pk)) := by
  have HR := Lib.hid (fun (W : World) (hW : Below w.heap.size w W) => h.keep (hW.mono h.hB))
  have HN := Lib.hid h.ln
  have hmx := h.mx
  have HB := Lib.hid h.hB
  clear h
  go_enter Try.func10, Try.ntmps10
  go_wp2
  go_loopw [3, 4] (fun s v wr => ∃ (i : Nat) (A' : Option Addr) (c' : Nat), v = .int .i64 i ∧ s = .slice A' i c' ∧ i ≤ n ∧ i ≤ 12 ∧ LstR 9 65 (w.heap.size ≤ ·) wr A' i c' (flat Pv.cl ((qs.take i).map Pv.few)) ∧ Below w.heap.size w wr) (fun _ v _ => 12 - (intOf v).toNat)
  case atStart => exact ⟨0, none, 0, rfl, rfl, Nat.zero_le _, by decide, LstR.nil _ _ _ _, Below.refl _ _⟩
  case round =>
    obtain ⟨i, A', c', rfl, rfl, hin, hi12, hl, hb⟩ := hrel
    by_cases hc : i < n ∧ i < 12
    · obtain ⟨hlt, h12⟩ := hc
      have hlt' : (i : Int) < n := by omega
      have h12' : (i : Int) < 12 := by omega
      have hiq : i < qs.length := by rw [← HN.out]; exact hlt
      have hRw := HR.out wr hb
      obtain ⟨g, o, rfl, hg, hra⟩ := hRw.row i hiq
      have hq := hRw.rd qs[i] (List.getElem_mem _)
      have hsn := few_snoc i hiq
      generalize qs[i] = q at *
      have HSN := Lib.hid hsn
      have hnc := hq.1.2.1
      have hcm : q.c ≤ maxLen := hq.1.2.2.1
      simp only [maxLen] at hcm
      have HL := Lib.hid hl
      have HBl := Lib.hid hb
      clear hsn hRw hq hl hb
      by_cases h60 : q.n ≤ 60
      · skip
        have hx : Bk (wr.alloc (.cells (List.toArray [.int .i64 q.h.kd, .int .i64 q.h.fl, .int .i64 q.h.pa, .int .i64 q.h.sr, .int .i64 q.h.ds, .int .i64 q.h.cn, .int .i64 q.h.sq, .int .i64 q.h.pu, .slice q.A q.n q.c]) 65)) 65 wr.heap.size [.int .i64 q.h.kd, .int .i64 q.h.fl, .int .i64 q.h.pa, .int .i64 q.h.sr, .int .i64 q.h.ds, .int .i64 q.h.cn, .int .i64 q.h.sq, .int .i64 q.h.pu, .slice q.A q.n q.c] := Bk.new wr 65 [.int .i64 q.h.kd, .int .i64 q.h.fl, .int .i64 q.h.pa, .int .i64 q.h.sr, .int .i64 q.h.ds, .int .i64 q.h.cn, .int .i64 q.h.sq, .int .i64 q.h.pu, .slice q.A q.n q.c]
        have hec : q.few.cl = [.int .i64 q.h.kd, .int .i64 q.h.fl, .int .i64 q.h.pa, .int .i64 q.h.sr, .int .i64 q.h.ds, .int .i64 q.h.cn, .int .i64 q.h.sq, .int .i64 q.h.pu, .slice q.A q.n q.c] := by unfold Pv.few Pv.cl; dsimp only; rw [Nat.min_eq_left h60]
        have HEC := Lib.hid hec
        have hla := ((HL.out.alloc (.cells (List.toArray [.int .i64 q.h.kd, .int .i64 q.h.fl, .int .i64 q.h.pa, .int .i64 q.h.sr, .int .i64 q.h.ds, .int .i64 q.h.cn, .int .i64 q.h.sq, .int .i64 q.h.pu, .slice q.A q.n q.c]) 65)).alloc (.cells (List.toArray [.int .i64 q.h.kd, .int .i64 q.h.fl, .int .i64 q.h.pa, .int .i64 q.h.sr, .int .i64 q.h.ds, .int .i64 q.h.cn, .int .i64 q.h.sq, .int .i64 q.h.pu, .slice q.A q.n q.c]) 65)).tight
        have hu : RdR 9 ((wr.alloc (.cells (List.toArray [.int .i64 q.h.kd, .int .i64 q.h.fl, .int .i64 q.h.pa, .int .i64 q.h.sr, .int .i64 q.h.ds, .int .i64 q.h.cn, .int .i64 q.h.sq, .int .i64 q.h.pu, .slice q.A q.n q.c]) 65)).alloc (.cells (List.toArray [.int .i64 q.h.kd, .int .i64 q.h.fl, .int .i64 q.h.pa, .int .i64 q.h.sr, .int .i64 q.h.ds, .int .i64 q.h.cn, .int .i64 q.h.sq, .int .i64 q.h.pu, .slice q.A q.n q.c]) 65)) (some ⟨wr.heap.size + 1, 0, none⟩) 1 1 [.int .i64 q.h.kd, .int .i64 q.h.fl, .int .i64 q.h.pa, .int .i64 q.h.sr, .int .i64 q.h.ds, .int .i64 q.h.cn, .int .i64 q.h.sq, .int .i64 q.h.pu, .slice q.A q.n q.c] := by
          have := RdR.one (wr.alloc (.cells (List.toArray [.int .i64 q.h.kd, .int .i64 q.h.fl, .int .i64 q.h.pa, .int .i64 q.h.sr, .int .i64 q.h.ds, .int .i64 q.h.cn, .int .i64 q.h.sq, .int .i64 q.h.pu, .slice q.A q.n q.c]) 65)) 65 [.int .i64 q.h.kd, .int .i64 q.h.fl, .int .i64 q.h.pa, .int .i64 q.h.sr, .int .i64 q.h.ds, .int .i64 q.h.cn, .int .i64 q.h.sq, .int .i64 q.h.pu, .slice q.A q.n q.c] (by rw [← hec]; exact Pv.cl_one _)
          rw [World.size_alloc] at this
          exact this
        have hb3 : Below w.heap.size w ((wr.alloc (.cells (List.toArray [.int .i64 q.h.kd, .int .i64 q.h.fl, .int .i64 q.h.pa, .int .i64 q.h.sr, .int .i64 q.h.ds, .int .i64 q.h.cn, .int .i64 q.h.sq, .int .i64 q.h.pu, .slice q.A q.n q.c]) 65)).alloc (.cells (List.toArray [.int .i64 q.h.kd, .int .i64 q.h.fl, .int .i64 q.h.pa, .int .i64 q.h.sr, .int .i64 q.h.ds, .int .i64 q.h.cn, .int .i64 q.h.sq, .int .i64 q.h.pu, .slice q.A q.n q.c]) 65)) := (HBl.out.alloc HBl.out.size _).alloc (by have := HBl.out.size; simp; omega) _
        have hk : (i + 1) * 88 ≤ 140737488355328 := by omega
        have HB3 := Lib.hid hb3
        clear hec hb3
        go_wp2_with (first
          | (with_reducible refine at_load 65 (.tmp 18) (by rfl) ?_; refine wpList_load_pk rowP rfl (.tmp 18) rfl q g (o + i * 9) rfl hra ?_)
          | (at_builtin
             refine wpList_append_lstR eltP rfl (.tmp 28) (.tmp 30) rfl rfl hla rfl hu hk ?_
             rintro v2 w2 ⟨⟨A2, n2, c2, rfl, hl2⟩, hst2⟩))
        obtain ⟨hn2, HE⟩ : n2 = i + 1 ∧ Hid (LstR 9 65 (w.heap.size ≤ ·) w2 A2 (i + 1) c2 (flat Pv.cl ((qs.take (i + 1)).map Pv.few)) ∧ Below w.heap.size w w2) := by
          have hF : ∀ k, BlkOf A' k → w.heap.size ≤ k := by rintro k ⟨ad, he, rfl⟩; exact (HL.out.blk ad he).1
          have e : flat Pv.cl ((qs.take i).map Pv.few) ++ [.int .i64 q.h.kd, .int .i64 q.h.fl, .int .i64 q.h.pa, .int .i64 q.h.sr, .int .i64 q.h.ds, .int .i64 q.h.cn, .int .i64 q.h.sq, .int .i64 q.h.pu, .slice q.A q.n q.c] = flat Pv.cl ((qs.take (i + 1)).map Pv.few) := by rw [HSN.out, flat_app, ← HEC.out]; simp [flat]
          rw [e] at hl2
          have hn2 : n2 = i + 1 := by
            have h1 : (flat Pv.cl ((qs.take (i + 1)).map Pv.few)).length = n2 * 9 := hl2.1
            have h2 : (flat Pv.cl ((qs.take i).map Pv.few)).length = i * 9 := HL.out.1
            rw [flat_len Pv.cl_len, HSN.out, List.length_append, List.length_cons, List.length_nil] at h1
            rw [flat_len Pv.cl_len] at h2
            omega
          subst hn2
          refine ⟨rfl, Lib.hid ⟨hl2.mono fun k hk => ?_, HB3.out.trans (hst2.below HB3.out.size hF)⟩⟩
          rcases hk with hk | hk
          · exact hF k hk
          · exact Nat.le_trans HB3.out.size hk
        subst hn2
        clear hst2 hl2 hla hu hx hra
        go_wp2
        go_roundw
        case rel => exact ⟨i + 1, A2, c2, by go_num, rfl, by omega, by omega, HE.out.1, HE.out.2⟩
        case measure => simp [intOf]; omega
      · have h61 : 60 ≤ q.n := by omega
        have h62 : 60 ≤ q.c := by omega
        have hx : Bk (wr.alloc (.cells (List.toArray [.int .i64 q.h.kd, .int .i64 q.h.fl, .int .i64 q.h.pa, .int .i64 q.h.sr, .int .i64 q.h.ds, .int .i64 q.h.cn, .int .i64 q.h.sq, .int .i64 q.h.pu, .slice q.A 60 q.c]) 65)) 65 wr.heap.size [.int .i64 q.h.kd, .int .i64 q.h.fl, .int .i64 q.h.pa, .int .i64 q.h.sr, .int .i64 q.h.ds, .int .i64 q.h.cn, .int .i64 q.h.sq, .int .i64 q.h.pu, .slice q.A 60 q.c] := Bk.new wr 65 [.int .i64 q.h.kd, .int .i64 q.h.fl, .int .i64 q.h.pa, .int .i64 q.h.sr, .int .i64 q.h.ds, .int .i64 q.h.cn, .int .i64 q.h.sq, .int .i64 q.h.pu, .slice q.A 60 q.c]
        have hec : q.few.cl = [.int .i64 q.h.kd, .int .i64 q.h.fl, .int .i64 q.h.pa, .int .i64 q.h.sr, .int .i64 q.h.ds, .int .i64 q.h.cn, .int .i64 q.h.sq, .int .i64 q.h.pu, .slice q.A 60 q.c] := by unfold Pv.few Pv.cl; dsimp only; rw [Nat.min_eq_right h61]
        have HEC := Lib.hid hec
        have hla := ((HL.out.alloc (.cells (List.toArray [.int .i64 q.h.kd, .int .i64 q.h.fl, .int .i64 q.h.pa, .int .i64 q.h.sr, .int .i64 q.h.ds, .int .i64 q.h.cn, .int .i64 q.h.sq, .int .i64 q.h.pu, .slice q.A 60 q.c]) 65)).alloc (.cells (List.toArray [.int .i64 q.h.kd, .int .i64 q.h.fl, .int .i64 q.h.pa, .int .i64 q.h.sr, .int .i64 q.h.ds, .int .i64 q.h.cn, .int .i64 q.h.sq, .int .i64 q.h.pu, .slice q.A 60 q.c]) 65)).tight
        have hu : RdR 9 ((wr.alloc (.cells (List.toArray [.int .i64 q.h.kd, .int .i64 q.h.fl, .int .i64 q.h.pa, .int .i64 q.h.sr, .int .i64 q.h.ds, .int .i64 q.h.cn, .int .i64 q.h.sq, .int .i64 q.h.pu, .slice q.A 60 q.c]) 65)).alloc (.cells (List.toArray [.int .i64 q.h.kd, .int .i64 q.h.fl, .int .i64 q.h.pa, .int .i64 q.h.sr, .int .i64 q.h.ds, .int .i64 q.h.cn, .int .i64 q.h.sq, .int .i64 q.h.pu, .slice q.A 60 q.c]) 65)) (some ⟨wr.heap.size + 1, 0, none⟩) 1 1 [.int .i64 q.h.kd, .int .i64 q.h.fl, .int .i64 q.h.pa, .int .i64 q.h.sr, .int .i64 q.h.ds, .int .i64 q.h.cn, .int .i64 q.h.sq, .int .i64 q.h.pu, .slice q.A 60 q.c] := by
          have := RdR.one (wr.alloc (.cells (List.toArray [.int .i64 q.h.kd, .int .i64 q.h.fl, .int .i64 q.h.pa, .int .i64 q.h.sr, .int .i64 q.h.ds, .int .i64 q.h.cn, .int .i64 q.h.sq, .int .i64 q.h.pu, .slice q.A 60 q.c]) 65)) 65 [.int .i64 q.h.kd, .int .i64 q.h.fl, .int .i64 q.h.pa, .int .i64 q.h.sr, .int .i64 q.h.ds, .int .i64 q.h.cn, .int .i64 q.h.sq, .int .i64 q.h.pu, .slice q.A 60 q.c] (by rw [← hec]; exact Pv.cl_one _)
          rw [World.size_alloc] at this
          exact this
        have hb3 : Below w.heap.size w ((wr.alloc (.cells (List.toArray [.int .i64 q.h.kd, .int .i64 q.h.fl, .int .i64 q.h.pa, .int .i64 q.h.sr, .int .i64 q.h.ds, .int .i64 q.h.cn, .int .i64 q.h.sq, .int .i64 q.h.pu, .slice q.A 60 q.c]) 65)).alloc (.cells (List.toArray [.int .i64 q.h.kd, .int .i64 q.h.fl, .int .i64 q.h.pa, .int .i64 q.h.sr, .int .i64 q.h.ds, .int .i64 q.h.cn, .int .i64 q.h.sq, .int .i64 q.h.pu, .slice q.A 60 q.c]) 65)) := (HBl.out.alloc HBl.out.size _).alloc (by have := HBl.out.size; simp; omega) _
        have hk : (i + 1) * 88 ≤ 140737488355328 := by omega
        have HB3 := Lib.hid hb3
        clear hec hb3
        go_wp2_with (first
          | (with_reducible refine at_load 65 (.tmp 18) (by rfl) ?_; refine wpList_load_pk rowP rfl (.tmp 18) rfl q g (o + i * 9) rfl hra ?_)
          | (at_builtin
             refine wpList_append_lstR eltP rfl (.tmp 28) (.tmp 30) rfl rfl hla rfl hu hk ?_
             rintro v2 w2 ⟨⟨A2, n2, c2, rfl, hl2⟩, hst2⟩))
        obtain ⟨hn2, HE⟩ : n2 = i + 1 ∧ Hid (LstR 9 65 (w.heap.size ≤ ·) w2 A2 (i + 1) c2 (flat Pv.cl ((qs.take (i + 1)).map Pv.few)) ∧ Below w.heap.size w w2) := by
          have hF : ∀ k, BlkOf A' k → w.heap.size ≤ k := by rintro k ⟨ad, he, rfl⟩; exact (HL.out.blk ad he).1
          have e : flat Pv.cl ((qs.take i).map Pv.few) ++ [.int .i64 q.h.kd, .int .i64 q.h.fl, .int .i64 q.h.pa, .int .i64 q.h.sr, .int .i64 q.h.ds, .int .i64 q.h.cn, .int .i64 q.h.sq, .int .i64 q.h.pu, .slice q.A 60 q.c] = flat Pv.cl ((qs.take (i + 1)).map Pv.few) := by rw [HSN.out, flat_app, ← HEC.out]; simp [flat]
          rw [e] at hl2
          have hn2 : n2 = i + 1 := by
            have h1 : (flat Pv.cl ((qs.take (i + 1)).map Pv.few)).length = n2 * 9 := hl2.1
            have h2 : (flat Pv.cl ((qs.take i).map Pv.few)).length = i * 9 := HL.out.1
            rw [flat_len Pv.cl_len, HSN.out, List.length_append, List.length_cons, List.length_nil] at h1
            rw [flat_len Pv.cl_len] at h2
            omega
          subst hn2
          refine ⟨rfl, Lib.hid ⟨hl2.mono fun k hk => ?_, HB3.out.trans (hst2.below HB3.out.size hF)⟩⟩
          rcases hk with hk | hk
          · exact hF k hk
          · exact Nat.le_trans HB3.out.size hk
        subst hn2
        clear hst2 hl2 hla hu hx hra
        go_wp2
        go_roundw
        case rel => exact ⟨i + 1, A2, c2, by go_num, rfl, by omega, by omega, HE.out.1, HE.out.2⟩
        case measure => simp [intOf]; omega
    · have HL := Lib.hid hl
      have HBl := Lib.hid hb
      have hil : i = (fewL (qs.map Pv.pk)).length := by
        unfold fewL
        rw [List.length_map, List.length_take, List.length_map, ← HN.out]
        omega
      have HIL := Lib.hid hil
      clear hl hb hil
      have HE : Hid (Fewed B w (qs.map Pv.pk) (.returned (.slice A' i c')) wr) := Lib.hid (by
        refine ⟨A', i, c', rfl, HIL.out, HBl.out, fun F hF => ?_⟩
        have hRw := HR.out wr HBl.out
        refine ⟨(qs.take i).map Pv.few, ?_, HL.out.rd, ?_, fun q' hq' => ?_, fun _ ad he hf => ?_⟩
        · rw [List.length_map, List.length_take, ← HN.out, Nat.min_eq_left hin]
        · have e : qs.take i = qs.take 12 := by
            by_cases h12 : i = 12
            · rw [h12]
            · rw [List.take_of_length_le (by rw [← HN.out]; omega), List.take_of_length_le (by rw [← HN.out]; omega)]
          unfold fewL
          rw [List.map_map, ← List.map_take, List.map_map, e]
          refine List.map_congr_left fun q hq => ?_
          exact (Pv.few_rd (hRw.rd q (List.mem_of_mem_take hq)) (F := fun _ => False) (fun _ h => h.elim)).2
        · obtain ⟨q, hq, rfl⟩ := List.mem_map.1 hq'
          exact (Pv.few_rd (hRw.rd q (List.mem_of_mem_take hq)) fun k hk => (hF k hk).1).1
        · have := (HL.out.blk ad he).1
          have := (hF _ hf).2
          omega)
      by_cases h12 : i < 12
      · have hge : (n : Int) ≤ i := by omega
        have h12' : (i : Int) < 12 := by omega
        go_wp2
        go_ret
        exact HE.out
      · have h12' : (12 : Int) ≤ i := by omega
        by_cases hlt : i < n
        · have hlt' : (i : Int) < n := by omega
          go_wp2
          go_ret
          exact HE.out
        · have hge : (n : Int) ≤ i := by omega
          go_wp2
          go_ret
          exact HE.out
end
end Go.Proofs.Ytboclbanccfbjaa
namespace Go.Proofs.Ytboclbanccfbjaa
set_option linter.unusedSimpArgs false
set_option linter.unusedVariables false
open Go.RowKit Go.Shelf Go.ChangeShapes Go.WideShapes
/-- A shape. A struct is a row of fields: 'one' before the others. -/
inductive Ty where
  | int (k : IntKind)
  | bool
  | str
  | sl (e : Ty)
  | unit
  | one (a b : Ty)
structure Sl (α : Type) where
  A : Option Addr
  n : Nat
  c : Nat
  l : List α
def Ty.size : Ty → Nat
  | .unit => 0
  | .one a b => a.size + b.size
  | _ => 1
def Ty.den : Ty → Type
  | .int _ => Int
  | .bool => Bool
  | .str => ByteArray
  | .sl e => Sl e.den
  | .unit => Unit
  | .one a b => a.den × b.den
def Ty.cells : (t : Ty) → t.den → List Value
  | .int k, (x : Int) => [.int k x]
  | .bool, (b : Bool) => [.bool b]
  | .str, (s : ByteArray) => [.string s]
  | .sl e, (s : Sl e.den) => [.slice s.A s.n s.c]
  | .unit, _ => []
  | .one a b, (x : a.den × b.den) => a.cells x.1 ++ b.cells x.2
theorem Ty.cells_length : ∀ (t : Ty) (x : t.den), (t.cells x).length = t.size
  | .int _, _ => rfl
  | .bool, _ => rfl
  | .str, _ => rfl
  | .sl _, _ => rfl
  | .unit, _ => rfl
  | .one a b, x => by
    show (a.cells x.1 ++ b.cells x.2).length = a.size + b.size
    rw [List.length_append, a.cells_length, b.cells_length]
def Ty.reads (w : World) : (t : Ty) → t.den → Prop
  | .int k, (x : Int) => (Lit.int k x).wf = true
  | .bool, _ => True
  | .str, (s : ByteArray) => s.size ≤ maxLen
  | .sl e, (s : Sl e.den) => s.l.length = s.n ∧ s.n ≤ s.c ∧ s.c ≤ maxLen ∧ (s.A = none → s.c = 0) ∧
      (0 < s.n → 0 < e.size → ∃ g o, s.A = some ⟨g, o, none⟩ ∧ g < w.heap.size ∧ ∀ i (h : i < s.l.length) j v, (e.cells s.l[i])[j]? = some v → w.cell? ⟨g, o + i * e.size + j, none⟩ = some v) ∧
      ∀ x ∈ s.l, e.reads w x
  | .unit, _ => True
  | .one a b, (x : a.den × b.den) => a.reads w x.1 ∧ b.reads w x.2
/-- In P, type t (or the fields that are left, from an offset on) is of this shape. -/
def Ty.fits (P : Program) : Ty → (TypeId ⊕ (List Field × Nat)) → Bool
  | .int k, .inl t => match P.underlying t with | some (.int k') => decide (k' = k) | _ => false
  | .bool, .inl t => match P.underlying t with | some .bool => true | _ => false
  | .str, .inl t => match P.underlying t with | some .string => true | _ => false
  | .sl e, .inl t => match P.underlying t with | some (.slice e') => decide (P.cellsOf e' = e.size) && e.fits P (.inl e') | _ => false
  | .unit, .inl t => match P.underlying t with | some (.struct fs) => fs.toList.isEmpty && decide (P.cellsOf t = 0) | _ => false
  | .one a b, .inl t => match P.underlying t with
    | some (.struct fs) => decide (P.cellsOf t = a.size + b.size) && match fs.toList with
      | f :: r => decide (f.offset = 0) && (decide (P.cellsOf f.type = a.size) && (a.fits P (.inl f.type) && b.fits P (.inr (r, a.size))))
      | [] => false
    | _ => false
  | .unit, .inr (fs, _) => fs.isEmpty
  | .one a b, .inr (f :: r, o) => decide (f.offset = o) && (decide (P.cellsOf f.type = a.size) && (a.fits P (.inl f.type) && b.fits P (.inr (r, o + a.size))))
  | _, _ => false
section
variable {H : Type} {enc : TypeId × Value → H} {P : Program} {w : World} {base : Nat} {spare : Nat → Bool} {held : Bool}
theorem mapM_some {α β : Type} (f : α → Option β) : ∀ (l : List α) (r : List β), l.mapM f = some r → ∀ i (h : i < l.length), ∃ b, r[i]? = some b ∧ f l[i] = some b
  | [], r, h, i, hi => by simp at hi
  | a :: l, r, h, i, hi => by
    simp only [List.mapM_cons, Option.bind_eq_bind, Option.bind_eq_some_iff, Option.pure_def, Option.some.injEq] at h
    obtain ⟨b, hb, r', hr, rfl⟩ := h
    cases i with
    | zero => exact ⟨b, rfl, hb⟩
    | succ i => simpa using mapM_some f l r' hr i (by simpa using hi)
theorem mapM_len {α β : Type} (f : α → Option β) : ∀ (l : List α) (r : List β), l.mapM f = some r → r.length = l.length
  | [], r, h => by simp at h; subst h; rfl
  | a :: l, r, h => by
    simp only [List.mapM_cons, Option.bind_eq_bind, Option.bind_eq_some_iff, Option.pure_def, Option.some.injEq] at h
    obtain ⟨b, hb, r', hr, rfl⟩ := h
    simp [mapM_len f l r' hr]
theorem cells_at {a : Addr} {n : Nat} {cs : List Value} (h : w.cells? base a n = some cs) : cs.length = n ∧ ∀ j v, cs[j]? = some v → w.cell? (a.add j) = some v := by
  unfold World.cells? at h
  split at h
  · have hl := mapM_len _ _ _ h
    refine ⟨by simpa using hl, fun j v hv => ?_⟩
    have hj : j < cs.length := (List.getElem?_eq_some_iff.1 hv).1
    obtain ⟨b, hb, hc⟩ := mapM_some _ _ _ h j (by rw [← hl]; exact hj)
    rw [hb] at hv
    injection hv with hv
    subst hv
    simpa using hc
  · simp at h
theorem choose_list {α : Type} {p : Nat → α → Prop} : ∀ (n : Nat), (∀ i, i < n → ∃ x, p i x) → ∃ l : List α, l.length = n ∧ ∀ i (h : i < l.length), p i l[i]
  | 0, _ => ⟨[], rfl, fun i h => by simp at h⟩
  | n + 1, h => by
    obtain ⟨l, hl, hp⟩ := choose_list n (fun i hi => h i (by omega))
    obtain ⟨x, hx⟩ := h n (by omega)
    refine ⟨l ++ [x], by simp [hl], fun i hi => ?_⟩
    rcases Nat.lt_or_ge i l.length with h1 | h1
    · rw [List.getElem_append_left h1]
      exact hp i h1
    · have : i = n := by simp at hi; omega
      subst this
      rw [List.getElem_append_right h1]
      simpa [hl] using hx
theorem Ty.open (ty : Ty) : ∀ {fuel : Nat},
    (∀ {t : TypeId} {cs : List Value} {x : DataW H × List MemPlace}, ty.fits P (.inl t) = true → DataW.trod enc P w base spare held fuel t cs = some x → ∃ d : ty.den, cs = ty.cells d ∧ ty.reads w d) ∧
    (∀ {fs : List Field} {o : Nat} {cs : List Value}, ty.fits P (.inr (fs, o)) = true → cs.length = o + ty.size →
      (∀ f ∈ fs, ∃ x, DataW.trod enc P w base spare held fuel f.type ((cs.drop f.offset).take (P.cellsOf f.type)) = some x) → ∃ d : ty.den, cs.drop o = ty.cells d ∧ ty.reads w d) := by
  induction ty with
  | int k =>
    refine fun {fuel} => ⟨fun {t cs x} hf h => ?_, fun {fs o cs} hf => by simp [Ty.fits] at hf⟩
    unfold Ty.fits at hf
    split at hf
    · rename_i k' hu
      have hk : k' = k := by simpa using hf
      subst hk
      obtain ⟨n, rfl, _, hw⟩ := DataW.trod_int hu h
      exact ⟨(n : Int), rfl, hw⟩
    · simp at hf
  | bool =>
    refine fun {fuel} => ⟨fun {t cs x} hf h => ?_, fun {fs o cs} hf => by simp [Ty.fits] at hf⟩
    unfold Ty.fits at hf
    split at hf
    · rename_i hu
      obtain ⟨n, rfl, _⟩ := DataW.trod_bool hu h
      exact ⟨(n : Bool), rfl, trivial⟩
    · simp at hf
  | str =>
    refine fun {fuel} => ⟨fun {t cs x} hf h => ?_, fun {fs o cs} hf => by simp [Ty.fits] at hf⟩
    unfold Ty.fits at hf
    split at hf
    · rename_i hu
      obtain ⟨n, rfl, _, hs⟩ := DataW.trod_string hu h
      exact ⟨(n : ByteArray), rfl, hs⟩
    · simp at hf
  | sl e ih =>
    refine fun {fuel} => ⟨fun {t cs x} hf h => ?_, fun {fs o cs} hf => by simp [Ty.fits] at hf⟩
    unfold Ty.fits at hf
    split at hf
    · rename_i e' hu
      simp only [Bool.and_eq_true, decide_eq_true_eq] at hf
      obtain ⟨hsz, hfe⟩ := hf
      rcases DataW.trod_slice hu h with ⟨rfl, _⟩ | ⟨a, len, cap, elems, rest, n, rfl, rfl, _, hb, hl, hm, hlen, hel, _, _⟩
      · exact ⟨(⟨none, 0, 0, []⟩ : Sl e.den), rfl, rfl, Nat.le_refl _, Nat.zero_le _, fun _ => rfl, fun h => absurd h (by simp), by simp⟩
      · have hx : ∀ i, i < len → ∃ d : e.den, e.reads w d ∧ ∀ j v, (e.cells d)[j]? = some v → w.cell? ((a.add (i * e.size)).add j) = some v := by
          intro i hi
          have h1 := hel i hi
          rw [List.getElem?_eq_getElem (by omega), Option.bind_eq_some_iff] at h1
          obtain ⟨cs, hc, ht⟩ := h1
          obtain ⟨d, hd, hr⟩ := (ih (fuel := n)).1 hfe ht
          subst hd
          rw [hsz] at hc
          exact ⟨d, hr, (cells_at hc).2⟩
        obtain ⟨l, hll, hp⟩ := choose_list len hx
        refine ⟨(⟨some a, len, cap, l⟩ : Sl e.den), rfl, hll, hl, hm, by simp, fun hn hz => ?_, fun x hx => ?_⟩
        · obtain ⟨b, off, spot⟩ := a
          have h0 := (hp 0 (by show 0 < l.length; rw [hll]; exact hn)).2 0 _ (List.getElem?_eq_getElem (by rw [e.cells_length]; exact hz))
          obtain rfl : spot = none := by simpa [Addr.add] using World.cell?_spot h0
          have hlt := World.block_lt_of_cell? _ _ h0
          refine ⟨b, off, rfl, by simpa [Addr.add] using hlt, fun i hi j v hv => ?_⟩
          have h1 := (hp i hi).2 j v hv
          have hadd : ((⟨b, off, none⟩ : Addr).add (i * e.size)).add j = ⟨b, off + i * e.size + j, none⟩ := by
            unfold Addr.add; split <;> simp_all
            split <;> simp_all
          rw [hadd] at h1
          exact h1
        · obtain ⟨i, hi, rfl⟩ := List.getElem_of_mem hx
          exact (hp i hi).1
    · simp at hf
  | unit =>
    refine fun {fuel} => ⟨fun {t cs x} hf h => ?_, fun {fs o cs} hf hl _ => ⟨(), ?_, trivial⟩⟩
    · unfold Ty.fits at hf
      split at hf
      · rename_i fs hu
        simp only [Bool.and_eq_true, decide_eq_true_eq] at hf
        obtain ⟨xs, n, _, _, hl, _⟩ := DataW.trod_struct hu h
        exact ⟨(), List.eq_nil_of_length_eq_zero (by rw [hl]; exact hf.2), trivial⟩
      · simp at hf
    · exact List.drop_eq_nil_of_le (by rw [hl]; show o + 0 ≤ o; omega)
  | one a b iha ihb =>
    have key : ∀ {fuel : Nat} {f : Field} {r : List Field} {o : Nat} {cs : List Value}, (decide (f.offset = o) && (decide (P.cellsOf f.type = a.size) && (a.fits P (.inl f.type) && b.fits P (.inr (r, o + a.size))))) = true → cs.length = o + (a.size + b.size) →
        (∀ f' ∈ f :: r, ∃ x, DataW.trod enc P w base spare held fuel f'.type ((cs.drop f'.offset).take (P.cellsOf f'.type)) = some x) → ∃ d : (Ty.one a b).den, cs.drop o = (Ty.one a b).cells d ∧ (Ty.one a b).reads w d := by
      intro fuel f r o cs hf hl hall
      simp only [Bool.and_eq_true, decide_eq_true_eq] at hf
      obtain ⟨h1, h2, h3, h4⟩ := hf
      obtain ⟨x, hx⟩ := hall f (by simp)
      obtain ⟨d1, e1, r1⟩ := (iha (fuel := fuel)).1 h3 hx
      obtain ⟨d2, e2, r2⟩ := (ihb (fuel := fuel)).2 h4 (by rw [hl]; omega) (fun f' hf' => hall f' (by simp [hf']))
      refine ⟨(d1, d2), ?_, r1, r2⟩
      show cs.drop o = a.cells d1 ++ b.cells d2
      rw [← e1, ← e2, h1, h2, ← List.drop_drop, List.take_append_drop]
    refine fun {fuel} => ⟨fun {t cs x} hf h => ?_, fun {fs o cs} hf hl hall => ?_⟩
    · unfold Ty.fits at hf
      split at hf
      · rename_i fs hu
        simp only [Bool.and_eq_true, decide_eq_true_eq] at hf
        obtain ⟨hc, hf⟩ := hf
        obtain ⟨xs, n, rfl, _, hl, hxl, hall⟩ := DataW.trod_struct hu h
        split at hf
        · rename_i f r hfs
          have h2 : ∀ f' ∈ f :: r, ∃ x, DataW.trod enc P w base spare held n f'.type ((cs.drop f'.offset).take (P.cellsOf f'.type)) = some x := by
            intro f' hf'
            rw [← hfs] at hf'
            obtain ⟨i, hi, rfl⟩ := List.getElem_of_mem hf'
            have hi' : i < fs.size := by simpa using hi
            have := hall i fs[i] (by simp [hi'])
            rw [List.getElem?_eq_getElem (by rw [hxl]; exact hi')] at this
            exact ⟨_, by simpa using this⟩
          have := key (o := 0) (by simpa using hf) (by rw [hl, hc]; omega) h2
          simpa using this
        · simp at hf
      · simp at hf
    · cases fs with
      | nil => simp [Ty.fits] at hf
      | cons f r => exact key hf hl hall
end
theorem rd_of_reads {k : IntKind} {w : World} (s : Sl Int) (h : (Ty.sl (.int k)).reads w s) : Rd k w s.A s.n s.c s.l := by
  obtain ⟨h1, h2, h3, h4, h5, h6⟩ := h
  refine ⟨h1, h2, h3, h4, fun x hx => h6 x hx, fun hn => ?_⟩
  obtain ⟨g, o, e, hg, hx⟩ := h5 hn (show 0 < 1 from Nat.one_pos)
  refine ⟨g, o, e, hg, fun i hi => ?_⟩
  have h1' : s.l.length = s.n := h1
  have hi' : i < s.l.length := by omega
  have := hx i hi' 0 _ rfl
  simp only [Ty.size, Nat.mul_one, Nat.add_zero] at this
  have e2 : s.l.getD i 0 = s.l[i] := by simp [List.getD, hi']
  rw [e2]
  exact this
end Go.Proofs.Ytboclbanccfbjaa
namespace Go.Proofs.Ytboclbanccfbjaa
set_option linter.unusedSimpArgs false
set_option linter.unusedVariables false
set_option maxRecDepth 100000
open Go.RowKit Go.Shelf
abbrev PkT : Ty := .one (.int .i64) (.one (.int .i64) (.one (.int .i64) (.one (.int .i64) (.one (.int .i64) (.one (.int .i64) (.one (.int .i64) (.one (.int .i64) (.one (.sl (.int .u8)) .unit))))))))
abbrev OpT : Ty := .one (.int .u8) (.one (.sl PkT) (.one (.int .i64) (.one (.int .i64) (.one (.int .i64) .unit))))
def opL (dv : Int) (A : Option Addr) (n c : Nat) (p q f : Int) : List Value := [.int .u8 dv, .slice A n c, .int .i64 p, .int .i64 q, .int .i64 f]
def pvOf (x : PkT.den) : Pv := ⟨⟨x.1, x.2.1, x.2.2.1, x.2.2.2.1, x.2.2.2.2.1, x.2.2.2.2.2.1, x.2.2.2.2.2.2.1, x.2.2.2.2.2.2.2.1⟩, x.2.2.2.2.2.2.2.2.1.A, x.2.2.2.2.2.2.2.2.1.n, x.2.2.2.2.2.2.2.2.1.c, x.2.2.2.2.2.2.2.2.1.l⟩
theorem raw_of {w : World} {s : Sl PkT.den} (h : (Ty.sl PkT).reads w s) : RawP w.heap.size w s.A s.n (s.l.map pvOf) := by
  obtain ⟨h1, h2, h3, h4, h5, h6⟩ := h
  have h1' : s.l.length = s.n := h1
  refine ⟨by rw [List.length_map]; exact h1.symm, fun i hi => ?_, fun q hq => ?_, by simp only [maxLen] at h3; omega, Nat.le_refl _⟩
  · rw [List.length_map] at hi
    obtain ⟨g, o, hA, hg, hx⟩ := h5 (by omega) (show 0 < 9 from by omega)
    refine ⟨g, o, hA, hg, fun j v hv => hx i hi j v ?_⟩
    rw [List.getElem_map] at hv
    exact hv
  · obtain ⟨x, hx, rfl⟩ := List.mem_map.1 hq
    have hr : PkT.reads w x := h6 x hx
    obtain ⟨kd, fl, pa, sr, ds, cn, sq, pu, ⟨A, n, c, xs⟩, u⟩ := x
    have hrd : Rd .u8 w A n c xs := rd_of_reads ⟨A, n, c, xs⟩ hr.2.2.2.2.2.2.2.2.1
    exact ⟨hrd, i64_max hr.2.1, fun hn ad he => hrd.blk hn ad he⟩
/-- The k-th call, as it lies in memory. -/
theorem op_at {w : World} {s : Sl OpT.den} (h : (Ty.sl OpT).reads w s) (k : Nat) (hk : k < s.n) : ∃ (g o dv : Nat) (A : Option Addr) (n c : Nat) (qs : List Pv) (p q f : Int), s.A = some ⟨g, o, none⟩ ∧ g < w.heap.size ∧
    w.rangeAt g (o + k * 5) (opL dv A n c p q f) ∧ dv < 256 ∧ RawP w.heap.size w A n qs := by
  obtain ⟨h1, h2, h3, h4, h5, h6⟩ := h
  have h1' : s.l.length = s.n := h1
  have hkl : k < s.l.length := by omega
  obtain ⟨g, o, hA, hg, hx⟩ := h5 (by omega) (show 0 < 5 from by omega)
  have hr : OpT.reads w s.l[k] := h6 _ (List.getElem_mem _)
  have hx' := hx k hkl
  obtain ⟨x, hxe⟩ : ∃ x, x = s.l[k] := ⟨_, rfl⟩
  rw [← hxe] at hr hx'
  clear hxe hx
  obtain ⟨dv, ⟨A, n, c, l⟩, p, q, f, v⟩ := x
  obtain ⟨r1, r2, r3, r4, r5, _⟩ := hr
  obtain ⟨dn, hdn, hd⟩ := u8_nat r1
  subst hdn
  exact ⟨g, o, dn, A, n, c, l.map pvOf, p, q, f, hA, hg, fun j v hv => hx' j v hv, hd, raw_of (s := ⟨A, n, c, l⟩) r2⟩
section
variable {F X F1 X1 G : Nat → Prop} {w0 w w' w1 : World} {b : Nat} {m m1 : FM} {pp : Nat → Nat} {FF : Nat → Nat → Prop} {k L H : Nat} {a c : AM} {B C : Int} {P A : Option Addr} {n d : Nat} {ks : List Pk}
theorem FM.keep_sv (m : FM) (p q f : Int) {k : Nat} (h : (m.pt k).isSome = true) : ((m.svM p q f).pt k).isSome = true := by
  unfold FM.svM
  split
  · exact h
  · unfold FM.sc FM.sp set1
    dsimp only
    split
    · rfl
    · exact h
theorem FMb.sv (h : FMb m L H B) (p q f : Int) : FMb (m.svM p q f) L H (B + 1) := by
  unfold FM.svM
  cases hp : m.port p q with
  | none => exact h.mono (by omega)
  | some a =>
    have := h.sp (k := ix p q) ((h _ _ (FM.port_pt hp)).sv f) (by omega : B ≤ B + 1)
    exact fun i e hi => this i e hi
/-- What is known of a fabric behind i calls. -/
structure FOk (m : FM) (L H : Nat) (i : Nat) : Prop where
  b : FMb m L H (24 * i)
  c : ∀ j, 0 ≤ m.ct j ∧ m.ct j ≤ 24 * i
  z : (m.pt 0).isSome = true
theorem FOk.sv {i : Nat} (h : FOk m L H i) (p q f : Int) : FOk (m.svM p q f) L H (i + 1) := by
  refine ⟨(h.b.sv p q f).mono (by omega), fun j => ?_, m.keep_sv p q f h.z⟩
  unfold FM.svM
  cases hp : m.port p q with
  | none => have := h.c j; dsimp only; omega
  | some a =>
    have h1 := h.c j
    have h2 := h.c 0
    have h3 := AM.svL_len a f
    show 0 ≤ up m.ct 0 _ j ∧ up m.ct 0 _ j ≤ _
    unfold up
    split <;> omega
theorem FM.puts_made (m : FM) {k : Nat} (h : (m.pt k).isSome = true) : ∀ n (ks : List Pk), n ≤ ks.length → ((m.puts (ks.take n)).1.pt k).isSome = true
  | 0, ks, _ => by rw [List.take_zero]; exact h
  | n + 1, ks, hn => by
    rw [List.take_succ_eq_append_getElem (by omega), FM.puts_snoc]
    exact FM.keep_made _ _ (FM.puts_made m h n ks (by omega))
theorem FOk.put {i : Nat} (h : FOk m L H i) (hk : ks.length ≤ 12) : FOk (m.puts ks).1 L H (i + 1) ∧ ∀ j, 0 ≤ (m.puts ks).2 j ∧ (m.puts ks).2 j ≤ 12 := by
  have h1 := FMc.take h.b h.c ks ks.length (Nat.le_refl _)
  have h2 := FM.puts_made m h.z ks.length ks (Nat.le_refl _)
  rw [List.take_length] at h1 h2
  refine ⟨⟨h1.b.mono (by omega), fun j => ?_, h2⟩, fun j => ?_⟩
  · have := h1.c j; omega
  · have := h1.t j; omega
theorem FOk.new (hs ps L H T : Nat) (h1 : 0 < hs) (h2 : 0 < ps) : FOk (FM.new hs ps (AM.new L H T)) L H 0 :=
  ⟨by simpa using FMb.new hs ps L H T, fun j => ⟨Int.le_refl _, Int.le_refl _⟩, FM.new_0 hs ps _ h1 h2⟩
theorem FbP.total_le (h : FbP F X w P m pp FF) : m.total ≤ 131072 := by
  have h1 := accT_le m m.busy (fun p => by have := h.few (p.1 : Int) (p.2 : Int); unfold FM.at2; omega) (List.finRange m.busy.length)
  rw [accT_all] at h1
  have h2 : m.busy.length ≤ 64 := m.busyN_len 64
  rw [List.length_finRange] at h1
  have h3 : m.total = (m.busy.map m.at2).sum := rfl
  have : m.busy.length * 2048 ≤ 64 * 2048 := Nat.mul_le_mul_right _ h2
  omega
/-- A fabric that the law made. -/
structure FJ (w0 : World) (b : Nat) (m : FM) (w : World) (F : Nat → Prop) (pp : Nat → Nat) (FF : Nat → Nat → Prop) : Prop where
  fb : FbC F (fun _ => False) w b m pp FF
  ge : ∀ j, F j → w0.heap.size ≤ j
  bl : Below w0.heap.size w0 w
variable {FA : Nat → Prop} {FFA : Nat → Nat → Prop}
theorem FJ.below (h : FJ w0 b m w F pp FF) (hb : Below w.heap.size w w') : FJ w0 b m w' F pp FF := ⟨h.fb.below hb, h.ge, below_on h.bl hb⟩
theorem FJ.did (h : FJ w0 b m w F pp FF) (hf : FbC FA (fun _ => False) w' b m1 pp FFA) (hs : St F w w') (hg : Gr F FA w.heap.size) : FJ w0 b m1 w' FA pp FFA :=
  ⟨hf, hg.ge h.ge h.bl.size, h.bl.trans (hs.below h.bl.size h.ge)⟩
end
end Go.Proofs.Ytboclbanccfbjaa
namespace Go.Proofs.Ytboclbanccfbjaa
set_option linter.unusedSimpArgs false
set_option linter.unusedVariables false
set_option maxRecDepth 100000
open Go.RowKit Go.Shelf
theorem hasB_16_8 {f : Int} (h0 : 0 ≤ f) (h8 : hasB f 8 = false) : hasB (f + 8) 16 = hasB f 16 ∧ hasB (f + 8) 8 = true ∧ hasB (f + 8) 4 = hasB f 4 ∧ hasB (f + 8) 2 = hasB f 2 := by
  unfold hasB at *
  simp only [decide_eq_false_iff_not, not_and] at h8
  have := h8 h0
  refine ⟨?_, ?_, ?_, ?_⟩
  · congr 1; apply propext; omega
  · rw [decide_eq_true_eq]; omega
  · congr 1; apply propext; omega
  · congr 1; apply propext; omega
theorem Pk.fl_of {x : Pk} (hc : x.chk = true) (hk : x.h.kd = 1) : 0 ≤ x.h.fl ∧ x.h.fl ≤ 63 := Go.Proofs.Ytboclbanccfbjaa.isd_fl (h := x.h) (n := x.xs.length) (by unfold isdB; rw [show chkB x.h x.xs.length = true from hc, hk]; rfl)
theorem Pk.isd_of {x : Pk} (hc : x.chk = true) (hk : x.h.kd = 1) : x.isd = true := by
  unfold Pk.isd isdB
  rw [show chkB x.h x.xs.length = true from hc, hk]; rfl
/-- What is trimmed is data. -/
theorem Pk.trim_isd {x : Pk} (hc : x.chk = true) (hk : x.h.kd = 1) (h8 : hasB x.h.fl 8 = false) : x.trim = ⟨{ x.h with fl := x.h.fl + 8 }, []⟩ ∧ x.trim.isd = true := by
  have hi := Pk.isd_of hc hk
  have ht : x.trimB = true := by unfold Pk.trimB; rw [hi, h8]; rfl
  have e : x.trim = ⟨{ x.h with fl := x.h.fl + 8 }, []⟩ := by unfold Pk.trim; rw [if_pos ht]
  refine ⟨e, ?_⟩
  rw [e]
  have hf := Pk.fl_of hc hk
  obtain ⟨e16, e8, e4, e2⟩ := hasB_16_8 hf.1 h8
  have hd := hc
  unfold Pk.chk chkB kdB at hd
  rw [if_pos (by simp [hk])] at hd
  simp only [Bool.and_eq_true] at hd
  obtain ⟨⟨h1, h2⟩, h3, h4⟩ := hd
  unfold Pk.isd isdB chkB
  simp only [Bool.and_eq_true]
  refine ⟨by simp [hk], ⟨h1, h2⟩, ?_⟩
  unfold kdB
  rw [if_pos (by simp [hk])]
  simp only [Bool.and_eq_true]
  refine ⟨h3, ?_⟩
  unfold dtB at h4 ⊢
  rw [e16, e8, e4, e2]
  simp only [Bool.and_eq_true] at h4
  obtain ⟨⟨h5, h6⟩, h7⟩ := h4
  have h63 : x.h.fl + 8 ≤ 63 := by
    unfold hasB at h8
    simp only [decide_eq_false_iff_not, not_and] at h8
    have := h8 hf.1
    omega
  have hw : witB (x.h.fl + 8) 0 63 = true := by unfold witB; rw [decide_eq_true_eq]; omega
  rw [hw]
  rw [h8] at h6
  have h16 : hasB x.h.fl 16 = false := by simpa using h6
  rw [h16]
  cases h4' : hasB x.h.fl 4 with
  | true =>
    rw [h4', if_pos rfl] at h7
    simp only [Bool.and_eq_true] at h7
    simp [h7.1]
  | false => simp
theorem Pk.trim_kept {x : Pk} (h8 : hasB x.h.fl 8 = true) : x.trim = x := by
  unfold Pk.trim Pk.trimB
  rw [h8]; simp
theorem Pk.retB_eq {x : Pk} (hc : x.chk = true) : x.retB = (x.h.kd == 1 && !hasB x.h.fl 16) := by
  unfold Pk.retB Pk.bncB
  by_cases hk : x.h.kd = 1
  · rw [hk]
    cases h8 : hasB x.h.fl 8 with
    | true => rw [Pk.trim_kept h8, Pk.isd_of hc hk, h8]; rfl
    | false =>
      obtain ⟨e, hi⟩ := Pk.trim_isd hc hk h8
      obtain ⟨e16, e8, -, -⟩ := hasB_16_8 (Pk.fl_of hc hk).1 h8
      rw [hi, e]
      dsimp only
      rw [e8, e16]; rfl
  · have hk' : (x.h.kd == 1) = false := by simpa using hk
    have hi : x.isd = false := by unfold Pk.isd isdB; rw [hk']; rfl
    have ht : x.trim = x := by unfold Pk.trim Pk.trimB; rw [hi]; simp
    rw [ht, hi, hk']; rfl
theorem new4 {T0 T1 T2 T3 : TypeId} {w w1 : World} {v0 v1 v2 v3 : List Value} (hb : Below ((((w.alloc (.cells v0.toArray T0)).alloc (.cells v1.toArray T1)).alloc (.cells v2.toArray T2)).alloc (.cells v3.toArray T3)).heap.size ((((w.alloc (.cells v0.toArray T0)).alloc (.cells v1.toArray T1)).alloc (.cells v2.toArray T2)).alloc (.cells v3.toArray T3)) w1) :
    Bk w1 T0 w.heap.size v0 ∧ Bk w1 T1 (w.heap.size + 1) v1 ∧ Bk w1 T2 (w.heap.size + 2) v2 ∧ Bk w1 T3 (w.heap.size + 3) v3 ∧ Below w.heap.size w w1 := by
  have a0 := ((((Bk.new w T0 v0).alloc (.cells v1.toArray T1)).alloc (.cells v2.toArray T2)).alloc (.cells v3.toArray T3)).below hb
  have a1 := (((Bk.new (w.alloc (.cells v0.toArray T0)) T1 v1).alloc (.cells v2.toArray T2)).alloc (.cells v3.toArray T3)).below hb
  have a2 := ((Bk.new ((w.alloc (.cells v0.toArray T0)).alloc (.cells v1.toArray T1)) T2 v2).alloc (.cells v3.toArray T3)).below hb
  have a3 := (Bk.new (((w.alloc (.cells v0.toArray T0)).alloc (.cells v1.toArray T1)).alloc (.cells v2.toArray T2)) T3 v3).below hb
  simp only [World.size_alloc, Nat.add_assoc, Nat.reduceAdd] at a1 a2 a3
  exact ⟨a0, a1, a2, a3, (((((Below.refl _ _).alloc (Nat.le_refl _) _).alloc (by simp) _).alloc (by simp; omega) _).alloc (by simp; omega) _).trans (hb.mono (by simp; omega))⟩
def RV.cl (r : RV) (m : AM) : List Value := [.slice r.a1 r.n1 r.c1, .slice r.a2 r.n2 r.c2, .int .i64 m.lr, .int .i64 m.hr, .int .i64 m.wt, .int .i64 m.run, .int .i64 (m.ct 0), .int .i64 (m.ct 1), .int .i64 (m.ct 2), .int .i64 (m.ct 3), .int .i64 (m.ct 4)]
theorem RV.cl_len (r : RV) (m : AM) : (r.cl m).length = 11 := rfl
theorem RV.cl_one (r : RV) (m : AM) : ∀ v ∈ r.cl m, v.oneCell' = true := by
  intro v hv
  simp only [RV.cl, List.mem_cons, List.not_mem_nil, or_false] at hv
  rcases hv with rfl | rfl | rfl | rfl | rfl | rfl | rfl | rfl | rfl | rfl | rfl <;> rfl
theorem results_ctc {P : Program} {w : World} {fn : Func} {s u t : Tmp} {ty ty2 : TypeId} (h : fn.results = #[.cell s ty, .tmp u, .cell t ty2]) {tmps : Array Value} {a a2 : Addr} (ha : tmps.getD s undef = .pointer (some a)) (ha2 : tmps.getD t undef = .pointer (some a2)) {v v2 : Value} (hl : (loadVar ty a).run P w = .ok v w) (hl2 : (loadVar ty2 a2).run P w = .ok v2 w) :
    (results fn tmps).run P w = .ok (.tuple #[v, tmps.getD u undef, v2]) w := by
  rw [Array.getD_eq_getD_getElem?] at ha ha2
  simp [results, h, ha, ha2, asAddr_some, hl, hl2]
section
variable {P : Program} {w : World} {ops : Array Oper} {rest : List Oper} {op : Oper} {a : Act} {Q : Exit → Act → World → Prop}
theorem wpList_load_rp {e t : TypeId} (R : Row P e 11) (hgd : op.guard = none) (x : Operand) (ho : op.op = .load e x) (r : RV) (m : AM) (g : Nat) (hx : a.eval x = .pointer (some ⟨g, 0, none⟩)) (h : Bk w t g (r.cl m))
    (hq : wpList P ops Q rest (a.put op.dst (.agg #[.slice r.a1 r.n1 r.c1, .slice r.a2 r.n2 r.c2, .int .i64 m.lr, .int .i64 m.hr, .int .i64 m.wt, .int .i64 m.run, .int .i64 (m.ct 0), .int .i64 (m.ct 1), .int .i64 (m.ct 2), .int .i64 (m.ct 3), .int .i64 (m.ct 4)])) w) : wpList P ops Q (op :: rest) a w :=
  wpList_load_bk R hgd x ho g 0 hx h (r.cl m) (r.cl_len m) rfl hq
theorem wpList_put_rp {e t : TypeId} (R : Row P e 11) (hgd : op.guard = none) (x y : Operand) (ho : op.op = .store e x y) (g : Nat) (hx : a.eval x = .pointer (some ⟨g, 0, none⟩)) {vs : List Value} (h : Bk w t g vs) (hv : vs.length = 11) (r : RV) (m : AM) (hy : a.eval y = .agg #[.slice r.a1 r.n1 r.c1, .slice r.a2 r.n2 r.c2, .int .i64 m.lr, .int .i64 m.hr, .int .i64 m.wt, .int .i64 m.run, .int .i64 (m.ct 0), .int .i64 (m.ct 1), .int .i64 (m.ct 2), .int .i64 (m.ct 3), .int .i64 (m.ct 4)])
    (hq : ∀ w', Bk w' t g (r.cl m) → Wr g w w' → wpList P ops Q rest (a.put op.dst undef) w') : wpList P ops Q (op :: rest) a w :=
  wpList_store_bk R hgd x y ho g 0 hx h (r.cl m) hy (r.cl_len m) (by rw [hv]; decide) (r.cl_one m) fun w' h' hw => hq w' (by rw [lay_all _ _ (by rw [hv]; rfl)] at h'; exact h') hw
end
end Go.Proofs.Ytboclbanccfbjaa
namespace Go.Proofs.Ytboclbanccfbjaa
set_option linter.unusedSimpArgs false
set_option linter.unusedVariables false
set_option maxRecDepth 100000
open Go.RowKit Go.Shelf
theorem SlP.mono {F F' : Nat → Prop} {w : World} {A : Option Addr} {n c : Nat} {ks : List Pk} (h : SlP F w A n c ks) (hF : ∀ k, F' k → F k) : SlP F' w A n c ks := by
  obtain ⟨qs, h1, h2, h3, h4, h5⟩ := h
  exact ⟨qs, h1, h2, h3, fun q hq => (h4 q hq).mono hF, fun hn ad he hf => h5 hn ad he (hF _ hf)⟩
theorem RpR.mono {F F' : Nat → Prop} {w : World} {r : RV} {m : AM} (h : RpR F w r m) (hF : ∀ k, F' k → F k) : RpR F' w r m := ⟨h.lo.mono hF, h.hi.mono hF⟩
/-- F, and four boxes behind w. -/
def Bx (F : Nat → Prop) (w : World) (k : Nat) : Prop := F k ∨ (w.heap.size ≤ k ∧ k ≤ w.heap.size + 3)
theorem Bx.gr (F : Nat → Prop) (w : World) : Gr F (Bx F w) w.heap.size := fun k hk => hk.imp id And.left
/-- Where the call stands: its boxes, and what they hold. -/
structure RS (F : Nat → Prop) (w W : World) (r : RV) (m : AM) (q : Pv) : Prop where
  b2 : Bk W 76 w.heap.size (r.cl m)
  b3 : Bk W 65 (w.heap.size + 1) q.cl
  b4 : Bk W 76 (w.heap.size + 2) [.slice none 0 0, .slice none 0 0, .int .i64 0, .int .i64 0, .int .i64 0, .int .i64 0, .int .i64 0, .int .i64 0, .int .i64 0, .int .i64 0, .int .i64 0]
  b6 : Bk W 65 (w.heap.size + 3) [.int .i64 0, .int .i64 0, .int .i64 0, .int .i64 0, .int .i64 0, .int .i64 0, .int .i64 0, .int .i64 0, .slice none 0 0]
  bl : Below w.heap.size w W
  rp : RpR (Bx F w) W r m
  pv : PvR (Bx F w) W q
section
variable {F : Nat → Prop} {w W W' : World} {r : RV} {m : AM} {q : Pv}
theorem RS.bd (h : RS F w W r m q) (hF : ∀ k, F k → k < w.heap.size) : ∀ k, Bx F w k → k < W.heap.size := fun k hk => by
  have := h.b6.lt
  have := h.bl.size
  rcases hk with hk | hk
  · have := hF k hk; omega
  · omega
theorem RS.below (h : RS F w W r m q) (hb : Below W.heap.size W W') : RS F w W' r m q :=
  ⟨h.b2.below hb, h.b3.below hb, h.b4.below hb, h.b6.below hb, below_on h.bl hb, h.rp.below hb, h.pv.below hb⟩
theorem wr_bx {F : Nat → Prop} {g : Nat} (hg : w.heap.size ≤ g ∧ g ≤ w.heap.size + 3) (hw : Wr g W W') : St (Bx F w) W W' :=
  ⟨hw.os, hw.tape, hw.output, hw.size, fun k hk hn => hw.block k hk fun e => hn (.inr (by injection e with e; omega))⟩
/-- Another packet is laid into the third box. -/
theorem RS.pack (h : RS F w W r m q) {q1 : Pv} (h1 : PvR (Bx F w) W q1) (hb : Bk W' 65 (w.heap.size + 1) q1.cl) (hw : Wr (w.heap.size + 1) W W') : RS F w W' r m q1 := by
  have hs := wr_bx (F := F) (w := w) (by omega) hw
  exact ⟨h.b2.wr hw (by omega), hb, h.b4.wr hw (by omega), h.b6.wr hw (by omega), h.bl.trans (hw.below (by omega) h.bl.size), h.rp.st hs (Gr.refl _ _), h1.st hs (Gr.refl _ _)⟩
theorem RS.low (h : RS F w W r m q) {A : Option Addr} {n c : Nat} {ks : List Pk} (hs : SlP (Bx F w) W A n c ks) : RS F w (W.setCell ⟨w.heap.size, 0, none⟩ (.slice A n c)) ⟨A, n, c, r.a2, r.n2, r.c2⟩ (m.put false ks) q := by
  have hw := Wr.set W w.heap.size 0 (.slice A n c)
  have hst := wr_bx (F := F) (w := w) (by omega) hw
  exact ⟨h.b2.set 0 _, h.b3.wr hw (by omega), h.b4.wr hw (by omega), h.b6.wr hw (by omega), h.bl.trans (hw.below (Nat.le_refl _) h.bl.size), ⟨hs.st hst (Gr.refl _ _), h.rp.hi.st hst (Gr.refl _ _)⟩, h.pv.st hst (Gr.refl _ _)⟩
theorem RS.high (h : RS F w W r m q) {A : Option Addr} {n c : Nat} {ks : List Pk} (hs : SlP (Bx F w) W A n c ks) : RS F w (W.setCell ⟨w.heap.size, 1, none⟩ (.slice A n c)) ⟨r.a1, r.n1, r.c1, A, n, c⟩ (m.put true ks) q := by
  have hw := Wr.set W w.heap.size 1 (.slice A n c)
  have hst := wr_bx (F := F) (w := w) (by omega) hw
  exact ⟨h.b2.set 1 _, h.b3.wr hw (by omega), h.b4.wr hw (by omega), h.b6.wr hw (by omega), h.bl.trans (hw.below (Nat.le_refl _) h.bl.size), ⟨h.rp.lo.st hst (Gr.refl _ _), hs.st hst (Gr.refl _ _)⟩, h.pv.st hst (Gr.refl _ _)⟩
/-- What the call tells. -/
def RPutTo (F : Nat → Prop) (w : World) (m' : AM) (v : Nat) (x : Pk) (e : Ending) (w' : World) : Prop :=
  ∃ r' q', e = .returned (.tuple #[.agg #[.slice r'.a1 r'.n1 r'.c1, .slice r'.a2 r'.n2 r'.c2, .int .i64 m'.lr, .int .i64 m'.hr, .int .i64 m'.wt, .int .i64 m'.run, .int .i64 (m'.ct 0), .int .i64 (m'.ct 1), .int .i64 (m'.ct 2), .int .i64 (m'.ct 3), .int .i64 (m'.ct 4)], .int .i64 v, .agg #[.int .i64 q'.h.kd, .int .i64 q'.h.fl, .int .i64 q'.h.pa, .int .i64 q'.h.sr, .int .i64 q'.h.ds, .int .i64 q'.h.cn, .int .i64 q'.h.sq, .int .i64 q'.h.pu, .slice q'.A q'.n q'.c]]) ∧ RpR F w' r' m' ∧ q'.pk = x ∧ PvR F w' q' ∧ Below w.heap.size w w'
theorem RPutTo.of {m' : AM} {v : Nat} {x : Pk} {q' : Pv} {e : Ending} {W5 W6 : World} (h : RS F w W r m q) (hq' : PvR (Bx F w) W q') (h5 : Wr (w.heap.size + 2) W W5) (h6 : Wr (w.heap.size + 3) W5 W6)
    (he : e = .returned (.tuple #[.agg #[.slice r.a1 r.n1 r.c1, .slice r.a2 r.n2 r.c2, .int .i64 m.lr, .int .i64 m.hr, .int .i64 m.wt, .int .i64 m.run, .int .i64 (m.ct 0), .int .i64 (m.ct 1), .int .i64 (m.ct 2), .int .i64 (m.ct 3), .int .i64 (m.ct 4)], .int .i64 v, .agg #[.int .i64 q'.h.kd, .int .i64 q'.h.fl, .int .i64 q'.h.pa, .int .i64 q'.h.sr, .int .i64 q'.h.ds, .int .i64 q'.h.cn, .int .i64 q'.h.sq, .int .i64 q'.h.pu, .slice q'.A q'.n q'.c]])) (hm : m' = m) (hx : q'.pk = x) : RPutTo F w m' v x e W6 := by
  subst hm
  have hs := (wr_bx (F := F) (w := w) (by omega) h5).trans (wr_bx (F := F) (w := w) (by omega) h6) (Gr.refl _ _)
  exact ⟨r, q', he, (h.rp.st hs (Gr.refl _ _)).mono fun k hk => .inl hk, hx, (hq'.st hs (Gr.refl _ _)).mono fun k hk => .inl hk, (h.bl.trans (h5.below (by omega) h.bl.size)).trans (h6.below (by omega) (Nat.le_trans h.bl.size h5.size))⟩
theorem RS.new {q : Pv} {w1 : World} (hr : RpR F w r m) (hq : PvR F w q) (hb : Below ((((w.alloc (.cells (r.cl m).toArray 76)).alloc (.cells q.cl.toArray 65)).alloc (.cells (List.toArray [.slice none 0 0, .slice none 0 0, .int .i64 0, .int .i64 0, .int .i64 0, .int .i64 0, .int .i64 0, .int .i64 0, .int .i64 0, .int .i64 0, .int .i64 0]) 76)).alloc (.cells (List.toArray [.int .i64 0, .int .i64 0, .int .i64 0, .int .i64 0, .int .i64 0, .int .i64 0, .int .i64 0, .int .i64 0, .slice none 0 0]) 65)).heap.size
    ((((w.alloc (.cells (r.cl m).toArray 76)).alloc (.cells q.cl.toArray 65)).alloc (.cells (List.toArray [.slice none 0 0, .slice none 0 0, .int .i64 0, .int .i64 0, .int .i64 0, .int .i64 0, .int .i64 0, .int .i64 0, .int .i64 0, .int .i64 0, .int .i64 0]) 76)).alloc (.cells (List.toArray [.int .i64 0, .int .i64 0, .int .i64 0, .int .i64 0, .int .i64 0, .int .i64 0, .int .i64 0, .int .i64 0, .slice none 0 0]) 65)) w1) : RS F w w1 r m q := by
  obtain ⟨h2, h3, h4, h6, hc⟩ := new4 hb
  exact ⟨h2, h3, h4, h6, hc, (hr.st (St.refl F w) (Bx.gr F w)).below hc, (hq.gr (Bx.gr F w)).below hc⟩
theorem base1 {m : AM} {x : Pk} (hv : m.vd x = 1) : m.base x = m.put (!x.heavy) (m.sel (!x.heavy) ++ [x]) ∧ m.out x = x := by
  unfold AM.base AM.out; rw [if_pos hv, if_pos hv]; exact ⟨rfl, rfl⟩
theorem base2 {m : AM} {x : Pk} (hv : m.vd x = 2) : m.base x = m.put true (m.high ++ [x.trim]) ∧ m.out x = x.trim := by
  unfold AM.base AM.out; rw [if_neg (by omega), if_pos hv, if_neg (by omega), if_pos hv]; exact ⟨rfl, rfl⟩
theorem base3 {m : AM} {x : Pk} (hv : m.vd x = 3) : m.base x = m ∧ m.out x = x.ret := by
  unfold AM.base AM.out; rw [if_neg (by omega), if_neg (by omega), if_neg (by omega), if_neg (by omega), if_pos hv]; exact ⟨rfl, rfl⟩
theorem base4 {m : AM} {x : Pk} (hv : m.vd x = 4) : m.base x = m ∧ m.out x = Pk.zero := by
  unfold AM.base AM.out; rw [if_neg (by omega), if_neg (by omega), if_neg (by omega), if_neg (by omega), if_neg (by omega)]; exact ⟨rfl, rfl⟩
set_option maxHeartbeats 4000000 in
set_option maxRecDepth 100000 in
theorem r_putA (h : RpR F w r m) (hq : PvR F w q) (hF : ∀ k, F k → k < w.heap.size) (hc : q.pk.chk = false) :
    Calls Try.prog 60 #[.agg #[.slice r.a1 r.n1 r.c1, .slice r.a2 r.n2 r.c2, .int .i64 m.lr, .int .i64 m.hr, .int .i64 m.wt, .int .i64 m.run, .int .i64 (m.ct 0), .int .i64 (m.ct 1), .int .i64 (m.ct 2), .int .i64 (m.ct 3), .int .i64 (m.ct 4)], .agg #[.int .i64 q.h.kd, .int .i64 q.h.fl, .int .i64 q.h.pa, .int .i64 q.h.sr, .int .i64 q.h.ds, .int .i64 q.h.cn, .int .i64 q.h.sq, .int .i64 q.h.pu, .slice q.A q.n q.c]] w (RPutTo F w (m.base q.pk) (m.vd q.pk) (m.out q.pk)) := by
  have hv : m.vd q.pk = 4 := by unfold AM.vd; rw [if_pos hc]
  rw [hv, (base4 hv).2]
  have HI : Hid (∀ o o' o2 o3, Calls Try.prog 70 #[.agg #[.int .i64 q.h.kd, .int .i64 q.h.fl, .int .i64 q.h.pa, .int .i64 q.h.sr, .int .i64 q.h.ds, .int .i64 q.h.cn, .int .i64 q.h.sq, .int .i64 q.h.pu, .slice q.A q.n q.c]] ((((w.alloc o).alloc o').alloc o2).alloc o3) fun e w' => e = .returned (.bool false) ∧ Below ((((w.alloc o).alloc o').alloc o2).alloc o3).heap.size ((((w.alloc o).alloc o').alloc o2).alloc o3) w') := Lib.hid fun o o' o2 o3 => by
    have := r_is (hq.below (((((Below.refl w.heap.size w).alloc (Nat.le_refl _) o).alloc (by simp) o').alloc (by simp; omega) o2).alloc (by simp; omega) o3))
    rw [hc] at this; exact this
  have HR := Lib.hid h
  have HQ := Lib.hid hq
  have HBs := Lib.hid (base4 hv).1
  clear h hq hc hv
  go_enter Try.func60, Try.ntmps60
  go_wp2_with fail
  refine (HI.out _ _ _ _).mono ?_
  rintro e w1 ⟨rfl, hb1⟩
  have HS := Lib.hid (RS.new HR.out HQ.out hb1)
  have h2 := HS.out.b2
  have h4 := HS.out.b4
  have h6 := HS.out.b6
  clear hb1 HR HQ HI
  go_wp2_with (first
    | (with_reducible refine at_load 76 (.tmp 2) (by rfl) ?_; refine wpList_load_rp rowR rfl (.tmp 2) rfl r m w.heap.size rfl h2 ?_)
    | (with_reducible refine at_store 76 (.tmp 4) (.tmp 12) (by rfl) ?_; refine wpList_put_rp rowR rfl (.tmp 4) (.tmp 12) rfl (w.heap.size + 2) rfl h4 rfl r m rfl ?_; rintro w5 h45 hw5; have h65 := h6.wr hw5 (by omega))
    | (with_reducible refine at_store 65 (.tmp 6) (.tmp 13) (by rfl) ?_; refine wpList_put_pk rowP rfl (.tmp 6) (.tmp 13) rfl (w.heap.size + 3) rfl h65 rfl zPv rfl ?_; rintro w6 h66 hw6; have h46 := h45.wr hw6 (by omega)))
  exact bodyPost_ret (results_ctc rfl rfl rfl (rowR.load h46 0 (r.cl_len m) rfl) (load_pk rowP h66)) rfl (RPutTo.of HS.out (PvR.zero _ _) hw5 hw6 (by kernel_rfl) HBs.out rfl)
end
end Go.Proofs.Ytboclbanccfbjaa
