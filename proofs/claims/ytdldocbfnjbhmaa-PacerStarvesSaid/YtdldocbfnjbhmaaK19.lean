/- The document's pacer: whose turn it is. -/
import Derived.Test.YtdldocbfnjbhmaaK18
set_option linter.unusedSimpArgs false
set_option linter.unusedVariables false
set_option maxRecDepth 100000
namespace Go.Proofs.Ytdldocbfnjbhmaa
open Go.RowKit Go.Shelf
section
variable {X X' F : Nat → Prop} {w w' : World} {v : Rv} {m : Pm} {k : Ky}
theorem exec_loadC {P : Program} {ty t : TypeId} {sz : Nat} {op : Oper} {a : Act} (R : Row P ty sz) (x : Operand) (ho : op.op = .load ty x) (g : Nat) (hx : a.eval x = .pointer (some ⟨g, 0, none⟩)) (cs : List Value) (h : Bk w t g cs) (hm : cs.length = sz) :
    (execOp a.eval op).run P w = .ok (.value (.agg cs.toArray)) w := exec_load_bk R x ho g 0 hx h cs hm (by rw [List.drop_zero, List.take_of_length_le (Nat.le_refl _)])
theorem RdR.cut1 {A : Option Addr} {n c : Nat} {q : List Ky} {x : Ky} (h : LkK X w A n c (x :: q)) : LkK X w (cutR A c 1 2) (n - 1) (c - 1) q := by
  refine ⟨by rw [h.1]; simp, ?_, fun ad he => ?_⟩
  · have := h.2.1.cut (s := 1) (by rw [h.1]; simp)
    exact this
  · unfold cutR at he
    split at he
    · exact h.2.2 ad he
    · cases A with
      | none => simp at he
      | some b =>
        simp at he
        subst he
        exact h.2.2 b rfl
set_option maxHeartbeats 8000000 in
theorem r_turn (h : RpR X w v m) (ok : m.Ok) {km : Ky × Pm} (hp : m.pop = some km) (hX : ∀ j, w.heap.size ≤ j → X j) : Calls Try.prog 53 #[.agg #[.slice v.A v.n v.c, .slice v.B v.k v.d, .slice v.C v.r v.e, .int .i64 m.most, .int .i64 m.run, .int .i64 m.total]] w fun e w' =>
    ∃ v2, e = .returned (.tuple #[.agg #[.slice v2.A v2.n v2.c, .slice v2.B v2.k v2.d, .slice v2.C v2.r v2.e, .int .i64 m.most, .int .i64 km.2.run, .int .i64 m.total], .agg #[.int .i64 km.1.s, .int .i64 km.1.c], .bool true]) ∧ RpR X w' v2 km.2 ∧ Below w.heap.size w w' := by
  have hr0 := ok.r0
  have hln := h.l.2.1.2.2.1
  have hpn := h.p.2.1.2.2.1
  have hun := h.u.2.1.2.2.1
  have hpc := h.p.2.1.2.1
  have huc := h.u.2.1.2.1
  unfold maxLen at hln hpn hun
  obtain ⟨A, n, c, B, k', d, C, r', e'⟩ := v
  obtain ⟨k, m1⟩ := km
  rcases turn_pop ok hp with ⟨r, h1, h2, h3⟩ | ⟨r, h1, h2, h3⟩
  · dsimp only at *
    have hp0 := h.p
    rw [h2] at hp0
    obtain ⟨g, o, rfl, hg, hra⟩ := hp0.row (i := 0) (x := k) rfl
    have hr0' : w.rangeAt g o k.cl := by simpa using hra
    have hb3 : ∀ o1 o2 o3, Below w.heap.size w (((w.alloc o1).alloc o2).alloc o3) := fun o1 o2 o3 => (((Below.refl _ w).alloc (Nat.le_refl _) _).alloc (by simp) _).alloc (by simp; omega) _
    have hk1 : 1 ≤ k' := by have := hp0.1; simp at this; omega
    have hcut : ∀ V, (Instr.slice 28 (.slice (some ⟨g, o, none⟩) k' d) (some (.int .i64 1)) none none).run Try.prog V = .ok (.slice (cutR (some ⟨g, o, none⟩) d 1 2) (k' - 1) (d - 1)) V := fun V => eltRK.run_cut _ k' d 1 hk1 hpc V
    have hk2 : (0 : Int) < k' := by omega
    have hk2' : 0 < k' := by omega
    have hk3 : ((k' : Int) == 0) = false := by simp; omega
    have hk4 : ¬ k' = 0 := by omega
    have HM : Hid (m1.run = 0 ∧ RpR X w ⟨A, n, c, cutR (some ⟨g, o, none⟩) d 1 2, k' - 1, d - 1, C, r', e'⟩ m1) := Lib.hid (by rw [h3]; exact ⟨rfl, h.l, RdR.cut1 hp0, h.u⟩)
    have HRP := Lib.hid h
    have hur := h.u.1
    by_cases hq1 : m.q1.length = 0
    · obtain rfl : r' = 0 := by simp at hur; omega
      clear h h1 h2 h3 hp hX hp0 hra hur hq1 ok
      obtain ⟨W, hW⟩ : ∃ W, W = ((((w.alloc (.cells #[.slice A n c, .slice (cutR (some ⟨g, o, none⟩) d 1 2) (k' - 1) (d - 1), .slice C 0 e', .int .i64 m.most, .int .i64 0, .int .i64 m.total] 30)).alloc (.cells #[.slice none 0 0, .slice none 0 0, .slice none 0 0, .int .i64 0, .int .i64 0, .int .i64 0] 30)).alloc (.cells #[.int .i64 zK.s, .int .i64 zK.c] 35)).alloc (.cells #[.int .i64 k.s, .int .i64 k.c] 35)) := ⟨_, rfl⟩
      have hb1 : Below w.heap.size w W := by rw [hW]; exact ((((Below.refl _ w).alloc (Nat.le_refl _) _).alloc (by simp) _).alloc (by simp; omega) _).alloc (by simp; omega) _
      have z1 : Bk W 30 w.heap.size [.slice A n c, .slice (cutR (some ⟨g, o, none⟩) d 1 2) (k' - 1) (d - 1), .slice C 0 e', .int .i64 m.most, .int .i64 0, .int .i64 m.total] := by rw [hW]; exact (((Bk.new w 30 [.slice A n c, .slice (cutR (some ⟨g, o, none⟩) d 1 2) (k' - 1) (d - 1), .slice C 0 e', .int .i64 m.most, .int .i64 0, .int .i64 m.total]).alloc _).alloc _).alloc _
      have z2 : Bk W 30 (w.heap.size + 1) [.slice none 0 0, .slice none 0 0, .slice none 0 0, .int .i64 0, .int .i64 0, .int .i64 0] := by
        have := ((Bk.new (w.alloc (.cells #[.slice A n c, .slice (cutR (some ⟨g, o, none⟩) d 1 2) (k' - 1) (d - 1), .slice C 0 e', .int .i64 m.most, .int .i64 0, .int .i64 m.total] 30)) 30 [.slice none 0 0, .slice none 0 0, .slice none 0 0, .int .i64 0, .int .i64 0, .int .i64 0]).alloc (.cells #[.int .i64 zK.s, .int .i64 zK.c] 35)).alloc (.cells #[.int .i64 k.s, .int .i64 k.c] 35)
        rw [World.size_alloc] at this
        rw [hW]; exact this
      have z3 : Bk W 35 (w.heap.size + 2) zK.cl := by
        have := (Bk.new ((w.alloc (.cells #[.slice A n c, .slice (cutR (some ⟨g, o, none⟩) d 1 2) (k' - 1) (d - 1), .slice C 0 e', .int .i64 m.most, .int .i64 0, .int .i64 m.total] 30)).alloc (.cells #[.slice none 0 0, .slice none 0 0, .slice none 0 0, .int .i64 0, .int .i64 0, .int .i64 0] 30)) 35 zK.cl).alloc (.cells #[.int .i64 k.s, .int .i64 k.c] 35)
        simp only [World.size_alloc] at this
        rw [hW]; exact this
      have z4 : Bk W 35 (w.heap.size + 3) k.cl := by
        have := Bk.new (((w.alloc (.cells #[.slice A n c, .slice (cutR (some ⟨g, o, none⟩) d 1 2) (k' - 1) (d - 1), .slice C 0 e', .int .i64 m.most, .int .i64 0, .int .i64 m.total] 30)).alloc (.cells #[.slice none 0 0, .slice none 0 0, .slice none 0 0, .int .i64 0, .int .i64 0, .int .i64 0] 30)).alloc (.cells #[.int .i64 zK.s, .int .i64 zK.c] 35)) 35 k.cl
        simp only [World.size_alloc] at this
        rw [hW]; exact this
      have HZ := Lib.hid (And.intro hb1 (And.intro z1 (And.intro z2 (And.intro z3 z4))))
      unfold zK at hW
      dsimp only at hW
      clear hb1 z1 z2 z3 z4
      go_enter Try.func53, Try.ntmps53
      go_wp2_with (first
        | (with_reducible refine at_load 35 (.tmp 47) (by rfl) ?_; refine wpList_load_pk rowRK rfl (.tmp 47) rfl k g o rfl (range_below hr0' hg (hb3 _ _ _)) ?_))
      rw [← hW]
      clear hW
      refine wp_region_E (St (fun j => j = w.heap.size + 1 ∨ j = w.heap.size + 2)) (by kernel_rfl) (fun wd hbd hsz => ?_)
      have z1 := HZ.out.2.1.below hbd
      have z2 := HZ.out.2.2.1.below hbd
      have z3 := HZ.out.2.2.2.1.below hbd
      have z4 := HZ.out.2.2.2.2.below hbd
      have HBD := Lib.hid hbd
      have n1 : ¬ (w.heap.size = w.heap.size + 1 ∨ w.heap.size = w.heap.size + 2) := by omega
      have n4 : ¬ (w.heap.size + 3 = w.heap.size + 1 ∨ w.heap.size + 3 = w.heap.size + 2) := by omega
      clear hsz
      (refine takeE (St.tr (fun j => j = w.heap.size + 1 ∨ j = w.heap.size + 2)) 0 (by simp only [List.getElem?_toArray, List.getElem?_cons_succ, List.getElem?_cons_zero]; rfl) (by kernel_rfl) (by kernel_rfl) (by kernel_rfl) (by exact fun _ _ _ h => h) (by first | (refine Or.inl ⟨by rfl, ?_⟩; intro W hW; exact exec_loadC rowR (.tmp 1) rfl w.heap.size rfl [.slice A n c, .slice (cutR (some ⟨g, o, none⟩) d 1 2) (k' - 1) (d - 1), .slice C 0 e', .int .i64 m.most, .int .i64 0, .int .i64 m.total] (z1.st hW n1) rfl) | exact Or.inr ⟨by rfl, rfl⟩) ?_; try simp only [Act.put, List.setIfInBounds_toArray, List.set_cons_zero, List.set_cons_succ])
      (refine takeE (St.tr (fun j => j = w.heap.size + 1 ∨ j = w.heap.size + 2)) 1 (by simp only [List.getElem?_toArray, List.getElem?_cons_succ, List.getElem?_cons_zero]; rfl) (by kernel_rfl) (by kernel_rfl) (by kernel_rfl) (by exact fun _ _ _ h => h) (by first | (refine Or.inl ⟨by rfl, ?_⟩; intro W hW; exact exec_loadK rowRK (.tmp 6) rfl (w.heap.size + 3) 0 rfl k (rangeK (z4.st hW n4))) | exact Or.inr ⟨by rfl, rfl⟩) ?_; try simp only [Act.put, List.setIfInBounds_toArray, List.set_cons_zero, List.set_cons_succ])
      refine wpAnyE_one (i := 2) (by kernel_rfl) (by simp only [List.getElem?_toArray, List.getElem?_cons_succ, List.getElem?_cons_zero]; rfl) (fun K hK => ?_)
      refine opwp_store_bk rowR rfl (.tmp 2) (.tmp 54) rfl (w.heap.size + 1) 0 rfl z2 [.slice A n c, .slice (cutR (some ⟨g, o, none⟩) d 1 2) (k' - 1) (d - 1), .slice C 0 e', .int .i64 m.most, .int .i64 0, .int .i64 m.total] rfl rfl (by decide) (by simp [Value.oneCell']) ?_
      intro w5 hz5 hw5
      rw [lay_all _ _ (by rfl)] at hz5
      have hs5 := st_wr hw5
      replace z3 := z3.wr hw5 (by omega)
      refine hK.out _ _ (hs5.mono fun j _ e => .inl e) ?_
      clear hK K
      try simp only [Act.put, List.setIfInBounds_toArray, List.set_cons_zero, List.set_cons_succ]
      refine wpAnyE_one (i := 3) (by kernel_rfl) (by simp only [List.getElem?_toArray, List.getElem?_cons_succ, List.getElem?_cons_zero]; rfl) (fun K hK => ?_)
      refine opwp_store_bk rowRK rfl (.tmp 3) (.tmp 55) rfl (w.heap.size + 2) 0 rfl z3 k.cl rfl rfl (by decide) k.cl_one ?_
      intro w6 hz6 hw6
      rw [lay_all _ _ (by rfl)] at hz6
      have hs6 := st_wr hw6
      have hz7 := hz6
      have hz8 := hz5.wr hw6 (by omega)
      refine hK.out _ _ (hs6.mono fun j _ e => .inr e) ?_
      clear hK K
      try simp only [Act.put, List.setIfInBounds_toArray, List.set_cons_zero, List.set_cons_succ]
      (refine takeE (St.tr (fun j => j = w.heap.size + 1 ∨ j = w.heap.size + 2)) 4 (by simp only [List.getElem?_toArray, List.getElem?_cons_succ, List.getElem?_cons_zero]; rfl) (by kernel_rfl) (by kernel_rfl) (by kernel_rfl) (by exact fun _ _ _ h => h) (by first | (refine Or.inl ⟨by rfl, ?_⟩; intro W hW; go_simp; try with_reducible rfl) | exact Or.inr ⟨by rfl, rfl⟩) ?_; try simp only [Act.put, List.setIfInBounds_toArray, List.set_cons_zero, List.set_cons_succ])
      refine wpAnyE_done (by kernel_rfl) ?_ _
      go_wp2
      refine bodyPost_ret (results_cct rfl rfl (rowR.load hz8 0 (cs := [.slice A n c, .slice (cutR (some ⟨g, o, none⟩) d 1 2) (k' - 1) (d - 1), .slice C 0 e', .int .i64 m.most, .int .i64 0, .int .i64 m.total]) rfl rfl) rfl (rowRK.load hz7 0 (cs := k.cl) rfl rfl)) rfl ?_
      have hbF : Below w.heap.size w w6 := by
        have b0 := HZ.out.1.trans (HBD.out.mono HZ.out.1.size)
        first
          | (have b1 := b0.trans (hs5.below b0.size fun j e => by omega); exact b1.trans (hs6.below b1.size fun j e => by omega))
          | (have b1 := b0.trans (hs6.below b0.size fun j e => by omega); exact b1.trans (hs5.below b1.size fun j e => by omega))
      exact ⟨⟨A, n, c, cutR (some ⟨g, o, none⟩) d 1 2, k' - 1, d - 1, C, 0, e'⟩, by rw [HM.out.1]; rfl, HM.out.2.below hbF, hbF⟩
    · have h4 : 4 ≤ m.run := by
        unfold Pm.turn at h1
        split at h1
        · omega
        · omega
      have hu1 : (0 : Int) < r' := by simp at hur; omega
      have hu2 : 0 < r' := by omega
      clear h h1 h2 h3 hp hX hp0 hra hur hq1 ok
      obtain ⟨W, hW⟩ : ∃ W, W = ((((w.alloc (.cells #[.slice A n c, .slice (cutR (some ⟨g, o, none⟩) d 1 2) (k' - 1) (d - 1), .slice C r' e', .int .i64 m.most, .int .i64 0, .int .i64 m.total] 30)).alloc (.cells #[.slice none 0 0, .slice none 0 0, .slice none 0 0, .int .i64 0, .int .i64 0, .int .i64 0] 30)).alloc (.cells #[.int .i64 zK.s, .int .i64 zK.c] 35)).alloc (.cells #[.int .i64 k.s, .int .i64 k.c] 35)) := ⟨_, rfl⟩
      have hb1 : Below w.heap.size w W := by rw [hW]; exact ((((Below.refl _ w).alloc (Nat.le_refl _) _).alloc (by simp) _).alloc (by simp; omega) _).alloc (by simp; omega) _
      have z1 : Bk W 30 w.heap.size [.slice A n c, .slice (cutR (some ⟨g, o, none⟩) d 1 2) (k' - 1) (d - 1), .slice C r' e', .int .i64 m.most, .int .i64 0, .int .i64 m.total] := by rw [hW]; exact (((Bk.new w 30 [.slice A n c, .slice (cutR (some ⟨g, o, none⟩) d 1 2) (k' - 1) (d - 1), .slice C r' e', .int .i64 m.most, .int .i64 0, .int .i64 m.total]).alloc _).alloc _).alloc _
      have z2 : Bk W 30 (w.heap.size + 1) [.slice none 0 0, .slice none 0 0, .slice none 0 0, .int .i64 0, .int .i64 0, .int .i64 0] := by
        have := ((Bk.new (w.alloc (.cells #[.slice A n c, .slice (cutR (some ⟨g, o, none⟩) d 1 2) (k' - 1) (d - 1), .slice C r' e', .int .i64 m.most, .int .i64 0, .int .i64 m.total] 30)) 30 [.slice none 0 0, .slice none 0 0, .slice none 0 0, .int .i64 0, .int .i64 0, .int .i64 0]).alloc (.cells #[.int .i64 zK.s, .int .i64 zK.c] 35)).alloc (.cells #[.int .i64 k.s, .int .i64 k.c] 35)
        rw [World.size_alloc] at this
        rw [hW]; exact this
      have z3 : Bk W 35 (w.heap.size + 2) zK.cl := by
        have := (Bk.new ((w.alloc (.cells #[.slice A n c, .slice (cutR (some ⟨g, o, none⟩) d 1 2) (k' - 1) (d - 1), .slice C r' e', .int .i64 m.most, .int .i64 0, .int .i64 m.total] 30)).alloc (.cells #[.slice none 0 0, .slice none 0 0, .slice none 0 0, .int .i64 0, .int .i64 0, .int .i64 0] 30)) 35 zK.cl).alloc (.cells #[.int .i64 k.s, .int .i64 k.c] 35)
        simp only [World.size_alloc] at this
        rw [hW]; exact this
      have z4 : Bk W 35 (w.heap.size + 3) k.cl := by
        have := Bk.new (((w.alloc (.cells #[.slice A n c, .slice (cutR (some ⟨g, o, none⟩) d 1 2) (k' - 1) (d - 1), .slice C r' e', .int .i64 m.most, .int .i64 0, .int .i64 m.total] 30)).alloc (.cells #[.slice none 0 0, .slice none 0 0, .slice none 0 0, .int .i64 0, .int .i64 0, .int .i64 0] 30)).alloc (.cells #[.int .i64 zK.s, .int .i64 zK.c] 35)) 35 k.cl
        simp only [World.size_alloc] at this
        rw [hW]; exact this
      have HZ := Lib.hid (And.intro hb1 (And.intro z1 (And.intro z2 (And.intro z3 z4))))
      unfold zK at hW
      dsimp only at hW
      clear hb1 z1 z2 z3 z4
      go_enter Try.func53, Try.ntmps53
      go_wp2_with (first
        | (with_reducible refine at_load 35 (.tmp 47) (by rfl) ?_; refine wpList_load_pk rowRK rfl (.tmp 47) rfl k g o rfl (range_below hr0' hg (hb3 _ _ _)) ?_))
      rw [← hW]
      clear hW
      refine wp_region_E (St (fun j => j = w.heap.size + 1 ∨ j = w.heap.size + 2)) (by kernel_rfl) (fun wd hbd hsz => ?_)
      have z1 := HZ.out.2.1.below hbd
      have z2 := HZ.out.2.2.1.below hbd
      have z3 := HZ.out.2.2.2.1.below hbd
      have z4 := HZ.out.2.2.2.2.below hbd
      have HBD := Lib.hid hbd
      have n1 : ¬ (w.heap.size = w.heap.size + 1 ∨ w.heap.size = w.heap.size + 2) := by omega
      have n4 : ¬ (w.heap.size + 3 = w.heap.size + 1 ∨ w.heap.size + 3 = w.heap.size + 2) := by omega
      clear hsz
      (refine takeE (St.tr (fun j => j = w.heap.size + 1 ∨ j = w.heap.size + 2)) 0 (by simp only [List.getElem?_toArray, List.getElem?_cons_succ, List.getElem?_cons_zero]; rfl) (by kernel_rfl) (by kernel_rfl) (by kernel_rfl) (by exact fun _ _ _ h => h) (by first | (refine Or.inl ⟨by rfl, ?_⟩; intro W hW; exact exec_loadC rowR (.tmp 1) rfl w.heap.size rfl [.slice A n c, .slice (cutR (some ⟨g, o, none⟩) d 1 2) (k' - 1) (d - 1), .slice C r' e', .int .i64 m.most, .int .i64 0, .int .i64 m.total] (z1.st hW n1) rfl) | exact Or.inr ⟨by rfl, rfl⟩) ?_; try simp only [Act.put, List.setIfInBounds_toArray, List.set_cons_zero, List.set_cons_succ])
      (refine takeE (St.tr (fun j => j = w.heap.size + 1 ∨ j = w.heap.size + 2)) 1 (by simp only [List.getElem?_toArray, List.getElem?_cons_succ, List.getElem?_cons_zero]; rfl) (by kernel_rfl) (by kernel_rfl) (by kernel_rfl) (by exact fun _ _ _ h => h) (by first | (refine Or.inl ⟨by rfl, ?_⟩; intro W hW; exact exec_loadK rowRK (.tmp 6) rfl (w.heap.size + 3) 0 rfl k (rangeK (z4.st hW n4))) | exact Or.inr ⟨by rfl, rfl⟩) ?_; try simp only [Act.put, List.setIfInBounds_toArray, List.set_cons_zero, List.set_cons_succ])
      refine wpAnyE_one (i := 2) (by kernel_rfl) (by simp only [List.getElem?_toArray, List.getElem?_cons_succ, List.getElem?_cons_zero]; rfl) (fun K hK => ?_)
      refine opwp_store_bk rowR rfl (.tmp 2) (.tmp 54) rfl (w.heap.size + 1) 0 rfl z2 [.slice A n c, .slice (cutR (some ⟨g, o, none⟩) d 1 2) (k' - 1) (d - 1), .slice C r' e', .int .i64 m.most, .int .i64 0, .int .i64 m.total] rfl rfl (by decide) (by simp [Value.oneCell']) ?_
      intro w5 hz5 hw5
      rw [lay_all _ _ (by rfl)] at hz5
      have hs5 := st_wr hw5
      replace z3 := z3.wr hw5 (by omega)
      refine hK.out _ _ (hs5.mono fun j _ e => .inl e) ?_
      clear hK K
      try simp only [Act.put, List.setIfInBounds_toArray, List.set_cons_zero, List.set_cons_succ]
      refine wpAnyE_one (i := 3) (by kernel_rfl) (by simp only [List.getElem?_toArray, List.getElem?_cons_succ, List.getElem?_cons_zero]; rfl) (fun K hK => ?_)
      refine opwp_store_bk rowRK rfl (.tmp 3) (.tmp 55) rfl (w.heap.size + 2) 0 rfl z3 k.cl rfl rfl (by decide) k.cl_one ?_
      intro w6 hz6 hw6
      rw [lay_all _ _ (by rfl)] at hz6
      have hs6 := st_wr hw6
      have hz7 := hz6
      have hz8 := hz5.wr hw6 (by omega)
      refine hK.out _ _ (hs6.mono fun j _ e => .inr e) ?_
      clear hK K
      try simp only [Act.put, List.setIfInBounds_toArray, List.set_cons_zero, List.set_cons_succ]
      (refine takeE (St.tr (fun j => j = w.heap.size + 1 ∨ j = w.heap.size + 2)) 4 (by simp only [List.getElem?_toArray, List.getElem?_cons_succ, List.getElem?_cons_zero]; rfl) (by kernel_rfl) (by kernel_rfl) (by kernel_rfl) (by exact fun _ _ _ h => h) (by first | (refine Or.inl ⟨by rfl, ?_⟩; intro W hW; go_simp; try with_reducible rfl) | exact Or.inr ⟨by rfl, rfl⟩) ?_; try simp only [Act.put, List.setIfInBounds_toArray, List.set_cons_zero, List.set_cons_succ])
      refine wpAnyE_done (by kernel_rfl) ?_ _
      go_wp2
      refine bodyPost_ret (results_cct rfl rfl (rowR.load hz8 0 (cs := [.slice A n c, .slice (cutR (some ⟨g, o, none⟩) d 1 2) (k' - 1) (d - 1), .slice C r' e', .int .i64 m.most, .int .i64 0, .int .i64 m.total]) rfl rfl) rfl (rowRK.load hz7 0 (cs := k.cl) rfl rfl)) rfl ?_
      have hbF : Below w.heap.size w w6 := by
        have b0 := HZ.out.1.trans (HBD.out.mono HZ.out.1.size)
        first
          | (have b1 := b0.trans (hs5.below b0.size fun j e => by omega); exact b1.trans (hs6.below b1.size fun j e => by omega))
          | (have b1 := b0.trans (hs6.below b0.size fun j e => by omega); exact b1.trans (hs5.below b1.size fun j e => by omega))
      exact ⟨⟨A, n, c, cutR (some ⟨g, o, none⟩) d 1 2, k' - 1, d - 1, C, r', e'⟩, by rw [HM.out.1]; rfl, HM.out.2.below hbF, hbF⟩
  · dsimp only at *
    have hp0 := h.u
    rw [h2] at hp0
    obtain ⟨g, o, rfl, hg, hra⟩ := hp0.row (i := 0) (x := k) rfl
    have hr0' : w.rangeAt g o k.cl := by simpa using hra
    have hb3 : ∀ o1 o2 o3, Below w.heap.size w (((w.alloc o1).alloc o2).alloc o3) := fun o1 o2 o3 => (((Below.refl _ w).alloc (Nat.le_refl _) _).alloc (by simp) _).alloc (by simp; omega) _
    have hk1 : 1 ≤ r' := by have := hp0.1; simp at this; omega
    have hcut : ∀ V, (Instr.slice 28 (.slice (some ⟨g, o, none⟩) r' e') (some (.int .i64 1)) none none).run Try.prog V = .ok (.slice (cutR (some ⟨g, o, none⟩) e' 1 2) (r' - 1) (e' - 1)) V := fun V => eltRK.run_cut _ r' e' 1 hk1 huc V
    have hk2 : (0 : Int) < r' := by omega
    have hk2' : 0 < r' := by omega
    have hur := h.p.1
    by_cases hq0 : 0 < m.q0.length
    · have h4 : m.run < 4 := by
        unfold Pm.turn at h1
        split at h1
        · omega
        · next hh => omega
      have HM : Hid (m1.run = m.run + 1 ∧ RpR X w ⟨A, n, c, B, k', d, cutR (some ⟨g, o, none⟩) e' 1 2, r' - 1, e' - 1⟩ m1) := Lib.hid (by rw [h3]; exact ⟨if_pos hq0, h.l, h.p, RdR.cut1 hp0⟩)
      have HRP := Lib.hid h
      have hu1 : (0 : Int) < k' := by simp at hur; omega
      have hu2 : 0 < k' := by omega
      have hu3 : ((k' : Int) == 0) = false := by simp; omega
      have hu4 : ¬ k' = 0 := by omega
      clear h h1 h2 h3 hp hX hp0 hra hur hq0 ok
      obtain ⟨W, hW⟩ : ∃ W, W = ((((w.alloc (.cells #[.slice A n c, .slice B k' d, .slice (cutR (some ⟨g, o, none⟩) e' 1 2) (r' - 1) (e' - 1), .int .i64 m.most, .int .i64 (m.run + 1), .int .i64 m.total] 30)).alloc (.cells #[.slice none 0 0, .slice none 0 0, .slice none 0 0, .int .i64 0, .int .i64 0, .int .i64 0] 30)).alloc (.cells #[.int .i64 zK.s, .int .i64 zK.c] 35)).alloc (.cells #[.int .i64 k.s, .int .i64 k.c] 35)) := ⟨_, rfl⟩
      have hb1 : Below w.heap.size w W := by rw [hW]; exact ((((Below.refl _ w).alloc (Nat.le_refl _) _).alloc (by simp) _).alloc (by simp; omega) _).alloc (by simp; omega) _
      have z1 : Bk W 30 w.heap.size [.slice A n c, .slice B k' d, .slice (cutR (some ⟨g, o, none⟩) e' 1 2) (r' - 1) (e' - 1), .int .i64 m.most, .int .i64 (m.run + 1), .int .i64 m.total] := by rw [hW]; exact (((Bk.new w 30 [.slice A n c, .slice B k' d, .slice (cutR (some ⟨g, o, none⟩) e' 1 2) (r' - 1) (e' - 1), .int .i64 m.most, .int .i64 (m.run + 1), .int .i64 m.total]).alloc _).alloc _).alloc _
      have z2 : Bk W 30 (w.heap.size + 1) [.slice none 0 0, .slice none 0 0, .slice none 0 0, .int .i64 0, .int .i64 0, .int .i64 0] := by
        have := ((Bk.new (w.alloc (.cells #[.slice A n c, .slice B k' d, .slice (cutR (some ⟨g, o, none⟩) e' 1 2) (r' - 1) (e' - 1), .int .i64 m.most, .int .i64 (m.run + 1), .int .i64 m.total] 30)) 30 [.slice none 0 0, .slice none 0 0, .slice none 0 0, .int .i64 0, .int .i64 0, .int .i64 0]).alloc (.cells #[.int .i64 zK.s, .int .i64 zK.c] 35)).alloc (.cells #[.int .i64 k.s, .int .i64 k.c] 35)
        rw [World.size_alloc] at this
        rw [hW]; exact this
      have z3 : Bk W 35 (w.heap.size + 2) zK.cl := by
        have := (Bk.new ((w.alloc (.cells #[.slice A n c, .slice B k' d, .slice (cutR (some ⟨g, o, none⟩) e' 1 2) (r' - 1) (e' - 1), .int .i64 m.most, .int .i64 (m.run + 1), .int .i64 m.total] 30)).alloc (.cells #[.slice none 0 0, .slice none 0 0, .slice none 0 0, .int .i64 0, .int .i64 0, .int .i64 0] 30)) 35 zK.cl).alloc (.cells #[.int .i64 k.s, .int .i64 k.c] 35)
        simp only [World.size_alloc] at this
        rw [hW]; exact this
      have z4 : Bk W 35 (w.heap.size + 3) k.cl := by
        have := Bk.new (((w.alloc (.cells #[.slice A n c, .slice B k' d, .slice (cutR (some ⟨g, o, none⟩) e' 1 2) (r' - 1) (e' - 1), .int .i64 m.most, .int .i64 (m.run + 1), .int .i64 m.total] 30)).alloc (.cells #[.slice none 0 0, .slice none 0 0, .slice none 0 0, .int .i64 0, .int .i64 0, .int .i64 0] 30)).alloc (.cells #[.int .i64 zK.s, .int .i64 zK.c] 35)) 35 k.cl
        simp only [World.size_alloc] at this
        rw [hW]; exact this
      have HZ := Lib.hid (And.intro hb1 (And.intro z1 (And.intro z2 (And.intro z3 z4))))
      unfold zK at hW
      dsimp only at hW
      clear hb1 z1 z2 z3 z4
      go_enter Try.func53, Try.ntmps53
      go_wp2_with (first
        | (with_reducible refine at_load 35 (.tmp 24) (by rfl) ?_; refine wpList_load_pk rowRK rfl (.tmp 24) rfl k g o rfl (range_below hr0' hg (hb3 _ _ _)) ?_))
      rw [← hW]
      clear hW
      refine wp_region_E (St (fun j => j = w.heap.size + 1 ∨ j = w.heap.size + 2)) (by kernel_rfl) (fun wd hbd hsz => ?_)
      have z1 := HZ.out.2.1.below hbd
      have z2 := HZ.out.2.2.1.below hbd
      have z3 := HZ.out.2.2.2.1.below hbd
      have z4 := HZ.out.2.2.2.2.below hbd
      have HBD := Lib.hid hbd
      have n1 : ¬ (w.heap.size = w.heap.size + 1 ∨ w.heap.size = w.heap.size + 2) := by omega
      have n4 : ¬ (w.heap.size + 3 = w.heap.size + 1 ∨ w.heap.size + 3 = w.heap.size + 2) := by omega
      clear hsz
      (refine takeE (St.tr (fun j => j = w.heap.size + 1 ∨ j = w.heap.size + 2)) 0 (by simp only [List.getElem?_toArray, List.getElem?_cons_succ, List.getElem?_cons_zero]; rfl) (by kernel_rfl) (by kernel_rfl) (by kernel_rfl) (by exact fun _ _ _ h => h) (by first | (refine Or.inl ⟨by rfl, ?_⟩; intro W hW; exact exec_loadC rowR (.tmp 1) rfl w.heap.size rfl [.slice A n c, .slice B k' d, .slice (cutR (some ⟨g, o, none⟩) e' 1 2) (r' - 1) (e' - 1), .int .i64 m.most, .int .i64 (m.run + 1), .int .i64 m.total] (z1.st hW n1) rfl) | exact Or.inr ⟨by rfl, rfl⟩) ?_; try simp only [Act.put, List.setIfInBounds_toArray, List.set_cons_zero, List.set_cons_succ])
      (refine takeE (St.tr (fun j => j = w.heap.size + 1 ∨ j = w.heap.size + 2)) 1 (by simp only [List.getElem?_toArray, List.getElem?_cons_succ, List.getElem?_cons_zero]; rfl) (by kernel_rfl) (by kernel_rfl) (by kernel_rfl) (by exact fun _ _ _ h => h) (by first | (refine Or.inl ⟨by rfl, ?_⟩; intro W hW; exact exec_loadK rowRK (.tmp 5) rfl (w.heap.size + 3) 0 rfl k (rangeK (z4.st hW n4))) | exact Or.inr ⟨by rfl, rfl⟩) ?_; try simp only [Act.put, List.setIfInBounds_toArray, List.set_cons_zero, List.set_cons_succ])
      refine wpAnyE_one (i := 2) (by kernel_rfl) (by simp only [List.getElem?_toArray, List.getElem?_cons_succ, List.getElem?_cons_zero]; rfl) (fun K hK => ?_)
      refine opwp_store_bk rowR rfl (.tmp 2) (.tmp 39) rfl (w.heap.size + 1) 0 rfl z2 [.slice A n c, .slice B k' d, .slice (cutR (some ⟨g, o, none⟩) e' 1 2) (r' - 1) (e' - 1), .int .i64 m.most, .int .i64 (m.run + 1), .int .i64 m.total] rfl rfl (by decide) (by simp [Value.oneCell']) ?_
      intro w5 hz5 hw5
      rw [lay_all _ _ (by rfl)] at hz5
      have hs5 := st_wr hw5
      replace z3 := z3.wr hw5 (by omega)
      refine hK.out _ _ (hs5.mono fun j _ e => .inl e) ?_
      clear hK K
      try simp only [Act.put, List.setIfInBounds_toArray, List.set_cons_zero, List.set_cons_succ]
      refine wpAnyE_one (i := 3) (by kernel_rfl) (by simp only [List.getElem?_toArray, List.getElem?_cons_succ, List.getElem?_cons_zero]; rfl) (fun K hK => ?_)
      refine opwp_store_bk rowRK rfl (.tmp 3) (.tmp 40) rfl (w.heap.size + 2) 0 rfl z3 k.cl rfl rfl (by decide) k.cl_one ?_
      intro w6 hz6 hw6
      rw [lay_all _ _ (by rfl)] at hz6
      have hs6 := st_wr hw6
      have hz7 := hz6
      have hz8 := hz5.wr hw6 (by omega)
      refine hK.out _ _ (hs6.mono fun j _ e => .inr e) ?_
      clear hK K
      try simp only [Act.put, List.setIfInBounds_toArray, List.set_cons_zero, List.set_cons_succ]
      (refine takeE (St.tr (fun j => j = w.heap.size + 1 ∨ j = w.heap.size + 2)) 4 (by simp only [List.getElem?_toArray, List.getElem?_cons_succ, List.getElem?_cons_zero]; rfl) (by kernel_rfl) (by kernel_rfl) (by kernel_rfl) (by exact fun _ _ _ h => h) (by first | (refine Or.inl ⟨by rfl, ?_⟩; intro W hW; go_simp; try with_reducible rfl) | exact Or.inr ⟨by rfl, rfl⟩) ?_; try simp only [Act.put, List.setIfInBounds_toArray, List.set_cons_zero, List.set_cons_succ])
      refine wpAnyE_done (by kernel_rfl) ?_ _
      go_wp2
      refine bodyPost_ret (results_cct rfl rfl (rowR.load hz8 0 (cs := [.slice A n c, .slice B k' d, .slice (cutR (some ⟨g, o, none⟩) e' 1 2) (r' - 1) (e' - 1), .int .i64 m.most, .int .i64 (m.run + 1), .int .i64 m.total]) rfl rfl) rfl (rowRK.load hz7 0 (cs := k.cl) rfl rfl)) rfl ?_
      have hbF : Below w.heap.size w w6 := by
        have b0 := HZ.out.1.trans (HBD.out.mono HZ.out.1.size)
        first
          | (have b1 := b0.trans (hs5.below b0.size fun j e => by omega); exact b1.trans (hs6.below b1.size fun j e => by omega))
          | (have b1 := b0.trans (hs6.below b0.size fun j e => by omega); exact b1.trans (hs5.below b1.size fun j e => by omega))
      exact ⟨⟨A, n, c, B, k', d, cutR (some ⟨g, o, none⟩) e' 1 2, r' - 1, e' - 1⟩, by rw [HM.out.1]; rfl, HM.out.2.below hbF, hbF⟩
    · obtain rfl : k' = 0 := by simp at hur; omega
      have HM : Hid (m1.run = 0 ∧ RpR X w ⟨A, n, c, B, 0, d, cutR (some ⟨g, o, none⟩) e' 1 2, r' - 1, e' - 1⟩ m1) := Lib.hid (by rw [h3]; exact ⟨if_neg hq0, h.l, h.p, RdR.cut1 hp0⟩)
      have HRP := Lib.hid h
      clear h h1 h2 h3 hp hX hp0 hra hur hq0 ok
      obtain ⟨W, hW⟩ : ∃ W, W = ((((w.alloc (.cells #[.slice A n c, .slice B 0 d, .slice (cutR (some ⟨g, o, none⟩) e' 1 2) (r' - 1) (e' - 1), .int .i64 m.most, .int .i64 0, .int .i64 m.total] 30)).alloc (.cells #[.slice none 0 0, .slice none 0 0, .slice none 0 0, .int .i64 0, .int .i64 0, .int .i64 0] 30)).alloc (.cells #[.int .i64 zK.s, .int .i64 zK.c] 35)).alloc (.cells #[.int .i64 k.s, .int .i64 k.c] 35)) := ⟨_, rfl⟩
      have hb1 : Below w.heap.size w W := by rw [hW]; exact ((((Below.refl _ w).alloc (Nat.le_refl _) _).alloc (by simp) _).alloc (by simp; omega) _).alloc (by simp; omega) _
      have z1 : Bk W 30 w.heap.size [.slice A n c, .slice B 0 d, .slice (cutR (some ⟨g, o, none⟩) e' 1 2) (r' - 1) (e' - 1), .int .i64 m.most, .int .i64 0, .int .i64 m.total] := by rw [hW]; exact (((Bk.new w 30 [.slice A n c, .slice B 0 d, .slice (cutR (some ⟨g, o, none⟩) e' 1 2) (r' - 1) (e' - 1), .int .i64 m.most, .int .i64 0, .int .i64 m.total]).alloc _).alloc _).alloc _
      have z2 : Bk W 30 (w.heap.size + 1) [.slice none 0 0, .slice none 0 0, .slice none 0 0, .int .i64 0, .int .i64 0, .int .i64 0] := by
        have := ((Bk.new (w.alloc (.cells #[.slice A n c, .slice B 0 d, .slice (cutR (some ⟨g, o, none⟩) e' 1 2) (r' - 1) (e' - 1), .int .i64 m.most, .int .i64 0, .int .i64 m.total] 30)) 30 [.slice none 0 0, .slice none 0 0, .slice none 0 0, .int .i64 0, .int .i64 0, .int .i64 0]).alloc (.cells #[.int .i64 zK.s, .int .i64 zK.c] 35)).alloc (.cells #[.int .i64 k.s, .int .i64 k.c] 35)
        rw [World.size_alloc] at this
        rw [hW]; exact this
      have z3 : Bk W 35 (w.heap.size + 2) zK.cl := by
        have := (Bk.new ((w.alloc (.cells #[.slice A n c, .slice B 0 d, .slice (cutR (some ⟨g, o, none⟩) e' 1 2) (r' - 1) (e' - 1), .int .i64 m.most, .int .i64 0, .int .i64 m.total] 30)).alloc (.cells #[.slice none 0 0, .slice none 0 0, .slice none 0 0, .int .i64 0, .int .i64 0, .int .i64 0] 30)) 35 zK.cl).alloc (.cells #[.int .i64 k.s, .int .i64 k.c] 35)
        simp only [World.size_alloc] at this
        rw [hW]; exact this
      have z4 : Bk W 35 (w.heap.size + 3) k.cl := by
        have := Bk.new (((w.alloc (.cells #[.slice A n c, .slice B 0 d, .slice (cutR (some ⟨g, o, none⟩) e' 1 2) (r' - 1) (e' - 1), .int .i64 m.most, .int .i64 0, .int .i64 m.total] 30)).alloc (.cells #[.slice none 0 0, .slice none 0 0, .slice none 0 0, .int .i64 0, .int .i64 0, .int .i64 0] 30)).alloc (.cells #[.int .i64 zK.s, .int .i64 zK.c] 35)) 35 k.cl
        simp only [World.size_alloc] at this
        rw [hW]; exact this
      have HZ := Lib.hid (And.intro hb1 (And.intro z1 (And.intro z2 (And.intro z3 z4))))
      unfold zK at hW
      dsimp only at hW
      clear hb1 z1 z2 z3 z4
      go_enter Try.func53, Try.ntmps53
      go_wp2_with (first
        | (with_reducible refine at_load 35 (.tmp 24) (by rfl) ?_; refine wpList_load_pk rowRK rfl (.tmp 24) rfl k g o rfl (range_below hr0' hg (hb3 _ _ _)) ?_))
      rw [← hW]
      clear hW
      refine wp_region_E (St (fun j => j = w.heap.size + 1 ∨ j = w.heap.size + 2)) (by kernel_rfl) (fun wd hbd hsz => ?_)
      have z1 := HZ.out.2.1.below hbd
      have z2 := HZ.out.2.2.1.below hbd
      have z3 := HZ.out.2.2.2.1.below hbd
      have z4 := HZ.out.2.2.2.2.below hbd
      have HBD := Lib.hid hbd
      have n1 : ¬ (w.heap.size = w.heap.size + 1 ∨ w.heap.size = w.heap.size + 2) := by omega
      have n4 : ¬ (w.heap.size + 3 = w.heap.size + 1 ∨ w.heap.size + 3 = w.heap.size + 2) := by omega
      clear hsz
      (refine takeE (St.tr (fun j => j = w.heap.size + 1 ∨ j = w.heap.size + 2)) 0 (by simp only [List.getElem?_toArray, List.getElem?_cons_succ, List.getElem?_cons_zero]; rfl) (by kernel_rfl) (by kernel_rfl) (by kernel_rfl) (by exact fun _ _ _ h => h) (by first | (refine Or.inl ⟨by rfl, ?_⟩; intro W hW; exact exec_loadC rowR (.tmp 1) rfl w.heap.size rfl [.slice A n c, .slice B 0 d, .slice (cutR (some ⟨g, o, none⟩) e' 1 2) (r' - 1) (e' - 1), .int .i64 m.most, .int .i64 0, .int .i64 m.total] (z1.st hW n1) rfl) | exact Or.inr ⟨by rfl, rfl⟩) ?_; try simp only [Act.put, List.setIfInBounds_toArray, List.set_cons_zero, List.set_cons_succ])
      (refine takeE (St.tr (fun j => j = w.heap.size + 1 ∨ j = w.heap.size + 2)) 1 (by simp only [List.getElem?_toArray, List.getElem?_cons_succ, List.getElem?_cons_zero]; rfl) (by kernel_rfl) (by kernel_rfl) (by kernel_rfl) (by exact fun _ _ _ h => h) (by first | (refine Or.inl ⟨by rfl, ?_⟩; intro W hW; exact exec_loadK rowRK (.tmp 5) rfl (w.heap.size + 3) 0 rfl k (rangeK (z4.st hW n4))) | exact Or.inr ⟨by rfl, rfl⟩) ?_; try simp only [Act.put, List.setIfInBounds_toArray, List.set_cons_zero, List.set_cons_succ])
      refine wpAnyE_one (i := 2) (by kernel_rfl) (by simp only [List.getElem?_toArray, List.getElem?_cons_succ, List.getElem?_cons_zero]; rfl) (fun K hK => ?_)
      refine opwp_store_bk rowR rfl (.tmp 2) (.tmp 39) rfl (w.heap.size + 1) 0 rfl z2 [.slice A n c, .slice B 0 d, .slice (cutR (some ⟨g, o, none⟩) e' 1 2) (r' - 1) (e' - 1), .int .i64 m.most, .int .i64 0, .int .i64 m.total] rfl rfl (by decide) (by simp [Value.oneCell']) ?_
      intro w5 hz5 hw5
      rw [lay_all _ _ (by rfl)] at hz5
      have hs5 := st_wr hw5
      replace z3 := z3.wr hw5 (by omega)
      refine hK.out _ _ (hs5.mono fun j _ e => .inl e) ?_
      clear hK K
      try simp only [Act.put, List.setIfInBounds_toArray, List.set_cons_zero, List.set_cons_succ]
      refine wpAnyE_one (i := 3) (by kernel_rfl) (by simp only [List.getElem?_toArray, List.getElem?_cons_succ, List.getElem?_cons_zero]; rfl) (fun K hK => ?_)
      refine opwp_store_bk rowRK rfl (.tmp 3) (.tmp 40) rfl (w.heap.size + 2) 0 rfl z3 k.cl rfl rfl (by decide) k.cl_one ?_
      intro w6 hz6 hw6
      rw [lay_all _ _ (by rfl)] at hz6
      have hs6 := st_wr hw6
      have hz7 := hz6
      have hz8 := hz5.wr hw6 (by omega)
      refine hK.out _ _ (hs6.mono fun j _ e => .inr e) ?_
      clear hK K
      try simp only [Act.put, List.setIfInBounds_toArray, List.set_cons_zero, List.set_cons_succ]
      (refine takeE (St.tr (fun j => j = w.heap.size + 1 ∨ j = w.heap.size + 2)) 4 (by simp only [List.getElem?_toArray, List.getElem?_cons_succ, List.getElem?_cons_zero]; rfl) (by kernel_rfl) (by kernel_rfl) (by kernel_rfl) (by exact fun _ _ _ h => h) (by first | (refine Or.inl ⟨by rfl, ?_⟩; intro W hW; go_simp; try with_reducible rfl) | exact Or.inr ⟨by rfl, rfl⟩) ?_; try simp only [Act.put, List.setIfInBounds_toArray, List.set_cons_zero, List.set_cons_succ])
      refine wpAnyE_done (by kernel_rfl) ?_ _
      go_wp2
      refine bodyPost_ret (results_cct rfl rfl (rowR.load hz8 0 (cs := [.slice A n c, .slice B 0 d, .slice (cutR (some ⟨g, o, none⟩) e' 1 2) (r' - 1) (e' - 1), .int .i64 m.most, .int .i64 0, .int .i64 m.total]) rfl rfl) rfl (rowRK.load hz7 0 (cs := k.cl) rfl rfl)) rfl ?_
      have hbF : Below w.heap.size w w6 := by
        have b0 := HZ.out.1.trans (HBD.out.mono HZ.out.1.size)
        first
          | (have b1 := b0.trans (hs5.below b0.size fun j e => by omega); exact b1.trans (hs6.below b1.size fun j e => by omega))
          | (have b1 := b0.trans (hs6.below b0.size fun j e => by omega); exact b1.trans (hs5.below b1.size fun j e => by omega))
      exact ⟨⟨A, n, c, B, 0, d, cutR (some ⟨g, o, none⟩) e' 1 2, r' - 1, e' - 1⟩, by rw [HM.out.1]; rfl, HM.out.2.below hbF, hbF⟩
theorem r_turn_no (h : RpR X w v m) (ok : m.Ok) (hp : m.pop = none) : Calls Try.prog 53 #[.agg #[.slice v.A v.n v.c, .slice v.B v.k v.d, .slice v.C v.r v.e, .int .i64 m.most, .int .i64 m.run, .int .i64 m.total]] w fun e w' =>
    e = .returned (.tuple #[.agg #[.slice v.A v.n v.c, .slice v.B v.k v.d, .slice v.C v.r v.e, .int .i64 m.most, .int .i64 m.run, .int .i64 m.total], .agg #[.int .i64 0, .int .i64 0], .bool false]) ∧ Below w.heap.size w w' := by
  have hq : m.q0 = [] ∧ m.q1 = [] := by
    unfold Pm.pop at hp
    rcases turn_or m with ⟨h1, h2⟩ | h1
    · rw [if_pos h1] at hp
      split at hp
      · next e => rw [e] at h2; simp at h2
      · cases hp
    · rw [if_neg (by omega)] at hp
      split at hp
      · next e =>
        refine ⟨?_, e⟩
        unfold Pm.turn at h1
        split at h1
        · cases h1
        · next hh =>
          rw [e] at hh
          exact List.eq_nil_of_length_eq_zero (by simp at hh; simpa using hh)
      · cases hp
  obtain ⟨A, n, c, B, k', d, C, r', e'⟩ := v
  have e1 := h.p.1
  have e2 := h.u.1
  rw [hq.1] at e1
  rw [hq.2] at e2
  dsimp only at *
  obtain rfl : k' = 0 := e1
  obtain rfl : r' = 0 := e2
  obtain ⟨W, hW⟩ : ∃ W, W = ((w.alloc (.cells #[.slice A n c, .slice B 0 d, .slice C 0 e', .int .i64 m.most, .int .i64 m.run, .int .i64 m.total] 30)).alloc (.cells #[.slice none 0 0, .slice none 0 0, .slice none 0 0, .int .i64 0, .int .i64 0, .int .i64 0] 30)).alloc (.cells #[.int .i64 zK.s, .int .i64 zK.c] 35) := ⟨_, rfl⟩
  have hb1 : Below w.heap.size w W := by rw [hW]; exact (((Below.refl _ w).alloc (Nat.le_refl _) _).alloc (by simp) _).alloc (by simp; omega) _
  have z1 : Bk W 30 w.heap.size [.slice A n c, .slice B 0 d, .slice C 0 e', .int .i64 m.most, .int .i64 m.run, .int .i64 m.total] := by rw [hW]; exact ((Bk.new w 30 [.slice A n c, .slice B 0 d, .slice C 0 e', .int .i64 m.most, .int .i64 m.run, .int .i64 m.total]).alloc _).alloc _
  have z2 : Bk W 30 (w.heap.size + 1) [.slice none 0 0, .slice none 0 0, .slice none 0 0, .int .i64 0, .int .i64 0, .int .i64 0] := by
    have := (Bk.new (w.alloc (.cells #[.slice A n c, .slice B 0 d, .slice C 0 e', .int .i64 m.most, .int .i64 m.run, .int .i64 m.total] 30)) 30 [.slice none 0 0, .slice none 0 0, .slice none 0 0, .int .i64 0, .int .i64 0, .int .i64 0]).alloc (.cells #[.int .i64 zK.s, .int .i64 zK.c] 35)
    rw [World.size_alloc] at this
    rw [hW]; exact this
  have z3 : Bk W 35 (w.heap.size + 2) zK.cl := by
    have := Bk.new ((w.alloc (.cells #[.slice A n c, .slice B 0 d, .slice C 0 e', .int .i64 m.most, .int .i64 m.run, .int .i64 m.total] 30)).alloc (.cells #[.slice none 0 0, .slice none 0 0, .slice none 0 0, .int .i64 0, .int .i64 0, .int .i64 0] 30)) 35 zK.cl
    simp only [World.size_alloc] at this
    rw [hW]; exact this
  unfold zK at hW
  dsimp only at hW
  have HB := Lib.hid hb1
  clear hb1 h hq hp ok
  go_enter Try.func53, Try.ntmps53
  go_wp2_with (first
    | (with_reducible refine at_load 30 (.tmp 1) (by rfl) ?_; rw [← hW]; clear hW; refine wpList_load_bk rowR rfl (.tmp 1) rfl w.heap.size 0 rfl z1 [.slice A n c, .slice B 0 d, .slice C 0 e', .int .i64 m.most, .int .i64 m.run, .int .i64 m.total] rfl rfl ?_)
    | (with_reducible refine at_store 30 (.tmp 2) (.tmp 56) (by rfl) ?_; refine wpList_store_bk rowR rfl (.tmp 2) (.tmp 56) rfl (w.heap.size + 1) 0 rfl z2 [.slice A n c, .slice B 0 d, .slice C 0 e', .int .i64 m.most, .int .i64 m.run, .int .i64 m.total] rfl rfl (by decide) (by simp [Value.oneCell']) ?_; intro w5 hz5 hw5; replace z3 := z3.wr hw5 (by omega))
    | (with_reducible refine at_store 35 (.tmp 3) (.tmp 57) (by rfl) ?_; refine wpList_store_bk rowRK rfl (.tmp 3) (.tmp 57) rfl (w.heap.size + 2) 0 rfl z3 zK.cl rfl rfl (by decide) zK.cl_one ?_; intro w6 hz6 hw6))
  rw [lay_all _ _ (by rfl)] at hz5 hz6
  have hz7 := hz5.wr hw6 (by omega)
  refine bodyPost_ret (results_cct rfl rfl (rowR.load hz7 0 (cs := [.slice A n c, .slice B 0 d, .slice C 0 e', .int .i64 m.most, .int .i64 m.run, .int .i64 m.total]) rfl rfl) rfl (rowRK.load hz6 0 (cs := zK.cl) rfl rfl)) rfl ⟨rfl, ?_⟩
  have b5 := HB.out.trans (hw5.below (B := w.heap.size) (by omega) HB.out.size)
  exact b5.trans (hw6.below (by omega) b5.size)
end
end Go.Proofs.Ytdldocbfnjbhmaa
