/- The page's example; nobody's timers. -/
import Derived.Test.YtpcjmkphdannfaaT3
set_option linter.unusedSimpArgs false
set_option linter.unusedVariables false
namespace Go.Proofs.Ytpcjmkphdannfaa
open Go.RowKit Go.Shelf
section
variable {w W W' : World} {g : Nat} {m m' : Tm} {P : Option Addr}
/-- A timer that is new. -/
def Nw (w : World) (g : Nat) (m : Tm) (W : World) : Prop := TmC W g m ∧ w.heap.size ≤ g ∧ Below w.heap.size w W
theorem Nw.did (h : Nw w g m W) (d : Did W g m' W') : Nw w g m' W' := ⟨d.1, h.2.1, h.2.2.trans (d.2.below h.2.2.size fun j hj => by have := h.2.1; omega)⟩
theorem Nw.next (h : Nw w g m W) (hb : Below W.heap.size W W') : Nw w g m W' := ⟨h.1.below hb, h.2.1, below_on h.2.2 hb⟩
end
/-- The example's timer after n ticks. -/
def sk : Nat → Tm
  | 0 => (Tm.new 2 5).run true
  | n + 1 => (sk n).tick
def kk (i : Nat) : Nat := if i ≤ 2 then 0 else if i ≤ 6 then 1 else if i ≤ 11 then 2 else 3
def av (k : Nat) : Int := if k = 0 then 2 else if k = 1 then 6 else if k = 2 then 11 else 16
theorem sk_ok : ∀ n : Fin 17, 1 ≤ n.val → (sk (n.val - 1)).fires = decide ((n.val : Int) = av (kk n.val)) ∧ (kk (n.val + 1)) = (if (n.val : Int) = av (kk n.val) ∧ kk n.val < 3 then kk n.val + 1 else kk n.val) ∧ kk n.val < 4 := by decide
theorem sk_end : (sk 16).w = 5 ∧ (sk 16).l = 5 := by decide
def AwI (w : World) (g ga n : Nat) (W : World) : Prop := Nw w g (sk (n - 1)) W ∧ Bk W 3 ga [.int .i64 2, .int .i64 6, .int .i64 11, .int .i64 16] ∧ ¬ ga = g
theorem at_cell {W : World} {ga : Nat} (h : Bk W 3 ga [.int .i64 2, .int .i64 6, .int .i64 11, .int .i64 16]) (k : Nat) (hk : k < 4) : W.cell? ⟨ga, k, none⟩ = some (.int .i64 (av k)) := by
  rcases (by omega : k = 0 ∨ k = 1 ∨ k = 2 ∨ k = 3) with rfl | rfl | rfl | rfl
  · exact h.cell 0 rfl
  · exact h.cell 1 rfl
  · exact h.cell 2 rfl
  · exact h.cell 3 rfl
theorem sk_at {n : Nat} (h1 : 1 ≤ n) (h2 : n ≤ 16) : ∃ (k : Nat) (a : Int), kk n = k ∧ k < 4 ∧ (∀ (W : World) (ga : Nat), Bk W 3 ga [.int .i64 2, .int .i64 6, .int .i64 11, .int .i64 16] → W.cell? ⟨ga, k, none⟩ = some (.int .i64 a)) ∧
    (sk (n - 1)).fires = decide ((n : Int) = a) ∧ kk (n + 1) = (if (n : Int) = a ∧ k < 3 then k + 1 else k) := by
  obtain ⟨hfi, hkn, hk4⟩ := sk_ok ⟨n, by omega⟩ h1
  exact ⟨kk n, av (kk n), rfl, hk4, fun W ga h => at_cell h _ hk4, hfi, hkn⟩
set_option maxRecDepth 100000 in
set_option maxHeartbeats 4000000 in
theorem awake_any (w : World) : Calls Try.prog 8 #[] w fun en w' => en = .returned (.bool true) ∧ Below w.heap.size w w' := by
  go_enter Try.func8, Try.ntmps8
  go_wp2_with fail
  refine (t_new (b := 2) (c := 5) (by decide) w).mono ?_
  rintro e w1 ⟨g, rfl, ht, hg, hb⟩
  have H1 : Hid (Nw w g (Tm.new 2 5) w1) := Lib.hid ⟨ht, hg, hb⟩
  clear ht hg hb
  go_wp2_with fail
  refine (t_run H1.out.1 true).mono ?_
  rintro e w2 ⟨⟨v, rfl⟩, hd⟩
  have h2 : Nw w g (sk 0) w2 := H1.out.did hd
  have hba : Below w2.heap.size w2 (w2.alloc (.cells #[.int .i64 2, .int .i64 6, .int .i64 11, .int .i64 16] 3)) := (Below.refl _ _).alloc (Nat.le_refl _) _
  have HI : Hid (AwI w g w2.heap.size 1 (w2.alloc (.cells #[.int .i64 2, .int .i64 6, .int .i64 11, .int .i64 16] 3))) := Lib.hid ⟨h2.next hba, Bk.new w2 3 _, by have := h2.1.1.lt; omega⟩
  clear hd hba h2 H1
  go_wp2
  go_loopw [4, 5] (fun i k wr => ∃ n : Nat, 1 ≤ n ∧ n ≤ 17 ∧ i = .int .i64 n ∧ k = .int .i64 (kk n : Nat) ∧ AwI w g w2.heap.size n wr) (fun i k _ => 17 - (intOf i).toNat)
  case atStart => exact ⟨1, by omega, by omega, rfl, rfl, HI.out⟩
  case round =>
    obtain ⟨n, hn1, hn2, rfl, rfl, hI⟩ := hrel
    clear HI
    by_cases hlt : n ≤ 16
    · obtain ⟨k, a, hkk, hk4, hav, hfi, hkn⟩ := sk_at hn1 hlt
      have hle : (n : Int) ≤ 16 := by omega
      have HS : Hid (sk (n + 1 - 1) = (sk (n - 1)).tick) := Lib.hid (by
        obtain ⟨j, rfl⟩ : ∃ j, n = j + 1 := ⟨n - 1, by omega⟩
        rfl)
      rw [hkk]
      have HN := Lib.hid hI.1
      have HA := Lib.hid hI.2
      have HKN := Lib.hid hkn
      have HFI := Lib.hid hfi
      clear hI hfi hkn hkk
      generalize w2.heap.size = ga at *
      have hk0 : (0 : Int) ≤ k := Int.natCast_nonneg _
      have hk4' : (k : Int) < 4 := by omega
      by_cases hna : (n : Int) = a
      · have HV : Hid ((sk (n - 1)).fires = true) := Lib.hid (by rw [HFI.out]; exact decide_eq_true hna)
        subst hna
        go_wp2
        refine wp_region_E (St (· = g)) (by kernel_rfl) (fun wd hbd hsz => ?_)
        have HNd := Lib.hid (HN.out.next hbd)
        have HAd := Lib.hid (HA.out.1.below hbd)
        have q1 : ∀ W, St (· = g) wd W → W.cell? ⟨ga, k, none⟩ = some (.int .i64 n) := fun W hW => hav W ga (HAd.out.st hW HA.out.2)
        clear hsz
        (refine takeE (St.tr (· = g)) 0 (by simp only [List.getElem?_toArray, List.getElem?_cons_succ, List.getElem?_cons_zero]; rfl) (by kernel_rfl) (by kernel_rfl) (by kernel_rfl) (by exact fun _ _ _ h => h) (by first | (refine Or.inl ⟨by rfl, ?_⟩; intro W hW; go_simp; try with_reducible rfl) | exact Or.inr ⟨by rfl, rfl⟩) ?_; try simp only [Act.put, List.setIfInBounds_toArray, List.set_cons_zero, List.set_cons_succ])
        (refine takeE (St.tr (· = g)) 2 (by simp only [List.getElem?_toArray, List.getElem?_cons_succ, List.getElem?_cons_zero]; rfl) (by kernel_rfl) (by kernel_rfl) (by kernel_rfl) (by exact fun _ _ _ h => h) (by first | (refine Or.inl ⟨by rfl, ?_⟩; intro W hW; go_simp; try with_reducible rfl) | exact Or.inr ⟨by rfl, rfl⟩) ?_; try simp only [Act.put, List.setIfInBounds_toArray, List.set_cons_zero, List.set_cons_succ])
        (refine takeE (St.tr (· = g)) 3 (by simp only [List.getElem?_toArray, List.getElem?_cons_succ, List.getElem?_cons_zero]; rfl) (by kernel_rfl) (by kernel_rfl) (by kernel_rfl) (by exact fun _ _ _ h => h) (by first | (refine Or.inl ⟨by rfl, ?_⟩; intro W hW; go_simp; try with_reducible rfl) | exact Or.inr ⟨by rfl, rfl⟩) ?_; try simp only [Act.put, List.setIfInBounds_toArray, List.set_cons_zero, List.set_cons_succ])
        (refine takeE (St.tr (· = g)) 4 (by simp only [List.getElem?_toArray, List.getElem?_cons_succ, List.getElem?_cons_zero]; rfl) (by kernel_rfl) (by kernel_rfl) (by kernel_rfl) (by exact fun _ _ _ h => h) (by first | (refine Or.inl ⟨by rfl, ?_⟩; intro W hW; go_simp; try with_reducible rfl) | exact Or.inr ⟨by rfl, rfl⟩) ?_; try simp only [Act.put, List.setIfInBounds_toArray, List.set_cons_zero, List.set_cons_succ])
        (refine takeE (St.tr (· = g)) 5 (by simp only [List.getElem?_toArray, List.getElem?_cons_succ, List.getElem?_cons_zero]; rfl) (by kernel_rfl) (by kernel_rfl) (by kernel_rfl) (by exact fun _ _ _ h => h) (by first | (refine Or.inl ⟨by rfl, ?_⟩; intro W hW; go_simp; try with_reducible rfl) | exact Or.inr ⟨by rfl, rfl⟩) ?_; try simp only [Act.put, List.setIfInBounds_toArray, List.set_cons_zero, List.set_cons_succ])
        (refine takeE (St.tr (· = g)) 6 (by simp only [List.getElem?_toArray, List.getElem?_cons_succ, List.getElem?_cons_zero]; rfl) (by kernel_rfl) (by kernel_rfl) (by kernel_rfl) (by exact fun _ _ _ h => h) (by first | (refine Or.inl ⟨by rfl, ?_⟩; intro W hW; go_simp; try with_reducible rfl) | exact Or.inr ⟨by rfl, rfl⟩) ?_; try simp only [Act.put, List.setIfInBounds_toArray, List.set_cons_zero, List.set_cons_succ])
        (refine takeE (St.tr (· = g)) 7 (by simp only [List.getElem?_toArray, List.getElem?_cons_succ, List.getElem?_cons_zero]; rfl) (by kernel_rfl) (by kernel_rfl) (by kernel_rfl) (by exact fun _ _ _ h => h) (by first | (refine Or.inl ⟨by rfl, ?_⟩; intro W hW; go_simp; try with_reducible rfl) | exact Or.inr ⟨by rfl, rfl⟩) ?_; try simp only [Act.put, List.setIfInBounds_toArray, List.set_cons_zero, List.set_cons_succ])
        refine wpAnyE_one (i := 1) (by kernel_rfl) (by simp only [List.getElem?_toArray, List.getElem?_cons_succ, List.getElem?_cons_zero]; rfl) (fun K hK => ?_)
        go_simp
        refine (t_tick HNd.out.1).mono ?_
        rintro en w5 ⟨rfl, hd5⟩
        rw [HV.out]
        have HN5 := Lib.hid (HNd.out.did hd5)
        have HA5 := Lib.hid (HAd.out.st hd5.2 HA.out.2)
        have hst5 := hd5.2
        clear hd5
        refine hK.out _ _ hst5 ?_
        clear hK K
        try simp only [Act.put, List.setIfInBounds_toArray, List.set_cons_zero, List.set_cons_succ]
        (refine takeE (St.tr (· = g)) 8 (by simp only [List.getElem?_toArray, List.getElem?_cons_succ, List.getElem?_cons_zero]; rfl) (by kernel_rfl) (by kernel_rfl) (by kernel_rfl) (by exact fun _ _ _ h => h) (by first | (refine Or.inl ⟨by rfl, ?_⟩; intro W hW; go_simp; try with_reducible rfl) | exact Or.inr ⟨by rfl, rfl⟩) ?_; try simp only [Act.put, List.setIfInBounds_toArray, List.set_cons_zero, List.set_cons_succ])
        refine wpAnyE_done (by kernel_rfl) ?_ _
        clear q1
        have c1 := hav _ _ HA5.out
        by_cases hk3 : (k : Int) < 3
        · have HK : Hid (kk (n + 1) = k + 1) := Lib.hid (by have hk3' : k < 3 := (by omega); rw [HKN.out]; simp [hk3'])
          go_wp2
          go_roundw
          case rel => exact ⟨n + 1, by omega, by omega, by go_num, by rw [HK.out]; go_num, by rw [HS.out]; exact HN5.out, HA5.out, HA.out.2⟩
          case measure => simp [intOf]; omega
        · have HK : Hid (kk (n + 1) = k) := Lib.hid (by rw [HKN.out, if_neg (by omega)])
          go_wp2
          go_roundw
          case rel => exact ⟨n + 1, by omega, by omega, by go_num, by rw [HK.out], by rw [HS.out]; exact HN5.out, HA5.out, HA.out.2⟩
          case measure => simp [intOf]; omega
      · have HV : Hid ((sk (n - 1)).fires = false) := Lib.hid (by rw [HFI.out]; exact decide_eq_false hna)
        have HK : Hid (kk (n + 1) = k) := Lib.hid (by rw [HKN.out, if_neg (by intro h; exact hna h.1)])
        go_wp2
        refine wp_region_E (St (· = g)) (by kernel_rfl) (fun wd hbd hsz => ?_)
        have HNd := Lib.hid (HN.out.next hbd)
        have HAd := Lib.hid (HA.out.1.below hbd)
        have q1 : ∀ W, St (· = g) wd W → W.cell? ⟨ga, k, none⟩ = some (.int .i64 a) := fun W hW => hav W ga (HAd.out.st hW HA.out.2)
        clear hsz
        (refine takeE (St.tr (· = g)) 0 (by simp only [List.getElem?_toArray, List.getElem?_cons_succ, List.getElem?_cons_zero]; rfl) (by kernel_rfl) (by kernel_rfl) (by kernel_rfl) (by exact fun _ _ _ h => h) (by first | (refine Or.inl ⟨by rfl, ?_⟩; intro W hW; go_simp; try with_reducible rfl) | exact Or.inr ⟨by rfl, rfl⟩) ?_; try simp only [Act.put, List.setIfInBounds_toArray, List.set_cons_zero, List.set_cons_succ])
        (refine takeE (St.tr (· = g)) 2 (by simp only [List.getElem?_toArray, List.getElem?_cons_succ, List.getElem?_cons_zero]; rfl) (by kernel_rfl) (by kernel_rfl) (by kernel_rfl) (by exact fun _ _ _ h => h) (by first | (refine Or.inl ⟨by rfl, ?_⟩; intro W hW; go_simp; try with_reducible rfl) | exact Or.inr ⟨by rfl, rfl⟩) ?_; try simp only [Act.put, List.setIfInBounds_toArray, List.set_cons_zero, List.set_cons_succ])
        (refine takeE (St.tr (· = g)) 3 (by simp only [List.getElem?_toArray, List.getElem?_cons_succ, List.getElem?_cons_zero]; rfl) (by kernel_rfl) (by kernel_rfl) (by kernel_rfl) (by exact fun _ _ _ h => h) (by first | (refine Or.inl ⟨by rfl, ?_⟩; intro W hW; go_simp; try with_reducible rfl) | exact Or.inr ⟨by rfl, rfl⟩) ?_; try simp only [Act.put, List.setIfInBounds_toArray, List.set_cons_zero, List.set_cons_succ])
        (refine takeE (St.tr (· = g)) 4 (by simp only [List.getElem?_toArray, List.getElem?_cons_succ, List.getElem?_cons_zero]; rfl) (by kernel_rfl) (by kernel_rfl) (by kernel_rfl) (by exact fun _ _ _ h => h) (by first | (refine Or.inl ⟨by rfl, ?_⟩; intro W hW; go_simp; try with_reducible rfl) | exact Or.inr ⟨by rfl, rfl⟩) ?_; try simp only [Act.put, List.setIfInBounds_toArray, List.set_cons_zero, List.set_cons_succ])
        (refine takeE (St.tr (· = g)) 5 (by simp only [List.getElem?_toArray, List.getElem?_cons_succ, List.getElem?_cons_zero]; rfl) (by kernel_rfl) (by kernel_rfl) (by kernel_rfl) (by exact fun _ _ _ h => h) (by first | (refine Or.inl ⟨by rfl, ?_⟩; intro W hW; go_simp; try with_reducible rfl) | exact Or.inr ⟨by rfl, rfl⟩) ?_; try simp only [Act.put, List.setIfInBounds_toArray, List.set_cons_zero, List.set_cons_succ])
        (refine takeE (St.tr (· = g)) 6 (by simp only [List.getElem?_toArray, List.getElem?_cons_succ, List.getElem?_cons_zero]; rfl) (by kernel_rfl) (by kernel_rfl) (by kernel_rfl) (by exact fun _ _ _ h => h) (by first | (refine Or.inl ⟨by rfl, ?_⟩; intro W hW; go_simp; try with_reducible rfl) | exact Or.inr ⟨by rfl, rfl⟩) ?_; try simp only [Act.put, List.setIfInBounds_toArray, List.set_cons_zero, List.set_cons_succ])
        (refine takeE (St.tr (· = g)) 7 (by simp only [List.getElem?_toArray, List.getElem?_cons_succ, List.getElem?_cons_zero]; rfl) (by kernel_rfl) (by kernel_rfl) (by kernel_rfl) (by exact fun _ _ _ h => h) (by first | (refine Or.inl ⟨by rfl, ?_⟩; intro W hW; go_simp; try with_reducible rfl) | exact Or.inr ⟨by rfl, rfl⟩) ?_; try simp only [Act.put, List.setIfInBounds_toArray, List.set_cons_zero, List.set_cons_succ])
        refine wpAnyE_one (i := 1) (by kernel_rfl) (by simp only [List.getElem?_toArray, List.getElem?_cons_succ, List.getElem?_cons_zero]; rfl) (fun K hK => ?_)
        go_simp
        refine (t_tick HNd.out.1).mono ?_
        rintro en w5 ⟨rfl, hd5⟩
        rw [HV.out]
        have HN5 := Lib.hid (HNd.out.did hd5)
        have HA5 := Lib.hid (HAd.out.st hd5.2 HA.out.2)
        have hst5 := hd5.2
        clear hd5
        refine hK.out _ _ hst5 ?_
        clear hK K
        try simp only [Act.put, List.setIfInBounds_toArray, List.set_cons_zero, List.set_cons_succ]
        (refine takeE (St.tr (· = g)) 8 (by simp only [List.getElem?_toArray, List.getElem?_cons_succ, List.getElem?_cons_zero]; rfl) (by kernel_rfl) (by kernel_rfl) (by kernel_rfl) (by exact fun _ _ _ h => h) (by first | (refine Or.inl ⟨by rfl, ?_⟩; intro W hW; go_simp; try with_reducible rfl) | exact Or.inr ⟨by rfl, rfl⟩) ?_; try simp only [Act.put, List.setIfInBounds_toArray, List.set_cons_zero, List.set_cons_succ])
        refine wpAnyE_done (by kernel_rfl) ?_ _
        clear q1
        have c1 := hav _ _ HA5.out
        go_wp2
        go_roundw
        case rel => exact ⟨n + 1, by omega, by omega, by go_num, by rw [HK.out], by rw [HS.out]; exact HN5.out, HA5.out, HA.out.2⟩
        case measure => simp [intOf]; omega
    · obtain rfl : n = 17 := by omega
      have hN : Nw w g (sk 16) wr := hI.1
      have HN := Lib.hid hN
      clear hI hN
      go_wp2_with (first
        | (go_at_call 18; refine (t_wait HN.out.1).mono ?_; rintro e w7 ⟨rfl, rfl⟩; rw [sk_end.1])
        | (go_at_call 19; refine (t_left HN.out.1).mono ?_; rintro e w7 ⟨rfl, rfl⟩; rw [sk_end.2]))
      go_ret
      exact ⟨rfl, HN.out.2.2⟩
/-- Nobody made it. -/
def NoT (w : World) (P : Option Addr) : Prop := P = none ∨ ∃ p, P = some ⟨p, 0, none⟩ ∧ Bk w 48 p [.int .i64 0, .int .i64 0, .int .i64 0, .int .i64 0]
theorem NoT.below {w w' : World} {P : Option Addr} (h : NoT w P) (hb : Below w.heap.size w w') : NoT w' P := by
  rcases h with h | ⟨p, h1, h2⟩
  · exact .inl h
  · exact .inr ⟨p, h1, h2.below hb⟩
section
variable {w : World} {P : Option Addr}
theorem no_made (h : NoT w P) : Calls Try.prog 23 #[.pointer P] w fun e w' => e = .returned (.bool false) ∧ w = w' := by
  rcases h with rfl | ⟨p, rfl, h⟩
  · go_enter Try.func23, Try.ntmps23
    go_wp2
    go_ret
    exact ⟨rfl, rfl⟩
  · have c1 := h.cell 1 rfl
    go_enter Try.func23, Try.ntmps23
    go_wp2
    go_ret
    exact ⟨rfl, rfl⟩
theorem no_Wait (h : NoT w P) : Calls Try.prog 18 #[.pointer P] w fun e w' => e = .returned (.int .i64 0) ∧ w = w' := by
  go_enter Try.func18, Try.ntmps18
  go_wp2_with (go_at_call 23; refine (no_made h).mono ?_; rintro e w' ⟨rfl, rfl⟩)
  go_ret
  exact ⟨rfl, rfl⟩
theorem no_Left (h : NoT w P) : Calls Try.prog 19 #[.pointer P] w fun e w' => e = .returned (.int .i64 0) ∧ w = w' := by
  go_enter Try.func19, Try.ntmps19
  go_wp2_with (go_at_call 23; refine (no_made h).mono ?_; rintro e w' ⟨rfl, rfl⟩)
  go_ret
  exact ⟨rfl, rfl⟩
theorem no_Running (h : NoT w P) : Calls Try.prog 20 #[.pointer P] w fun e w' => e = .returned (.bool false) ∧ w = w' := by
  go_enter Try.func20, Try.ntmps20
  go_wp2_with (go_at_call 19; refine (no_Left h).mono ?_; rintro e w' ⟨rfl, rfl⟩)
  go_ret
  exact ⟨rfl, rfl⟩
theorem no_Tick (h : NoT w P) : Calls Try.prog 17 #[.pointer P] w fun e w' => e = .returned (.bool false) ∧ w = w' := by
  go_enter Try.func17, Try.ntmps17
  go_wp2_with (go_at_call 20; refine (no_Running h).mono ?_; rintro e w' ⟨rfl, rfl⟩)
  go_ret
  exact ⟨rfl, rfl⟩
theorem no_Fork (h : NoT w P) : Calls Try.prog 15 #[.pointer P] w fun e w' => e = .returned (.pointer none) ∧ w = w' := by
  go_enter Try.func15, Try.ntmps15
  go_wp2_with (go_at_call 23; refine (no_made h).mono ?_; rintro e w' ⟨rfl, rfl⟩)
  go_ret
  exact ⟨rfl, rfl⟩
theorem no_Run (h : NoT w P) (on : Bool) : Calls Try.prog 9 #[.pointer P, .bool on] w fun e w' => (∃ v, e = .returned v) ∧ w = w' := by
  go_enter Try.func9, Try.ntmps9
  go_wp2_with (go_at_call 23; refine (no_made h).mono ?_; rintro e w' ⟨rfl, rfl⟩)
  refine bodyPost_ret (results_none rfl _ _ _) rfl ?_
  exact ⟨⟨_, rfl⟩, rfl⟩
theorem no_Again (h : NoT w P) : Calls Try.prog 11 #[.pointer P] w fun e w' => (∃ v, e = .returned v) ∧ w = w' := by
  go_enter Try.func11, Try.ntmps11
  go_wp2_with (go_at_call 20; refine (no_Running h).mono ?_; rintro e w' ⟨rfl, rfl⟩)
  go_end0
  exact ⟨⟨_, rfl⟩, rfl⟩
theorem no_Reset (h : NoT w P) : Calls Try.prog 13 #[.pointer P] w fun e w' => (∃ v, e = .returned v) ∧ w = w' := by
  go_enter Try.func13, Try.ntmps13
  go_wp2_with (go_at_call 23; refine (no_made h).mono ?_; rintro e w' ⟨rfl, rfl⟩)
  refine bodyPost_ret (results_none rfl _ _ _) rfl ?_
  exact ⟨⟨_, rfl⟩, rfl⟩
end
/-- The row of two timers that nobody made. -/
def NoRow (w W : World) (gl : Nat) : Prop := gl < W.heap.size ∧ Below w.heap.size w W ∧ ∀ k, k < 2 → ∃ P, W.cell? ⟨gl, k, none⟩ = some (.pointer P) ∧ NoT W P
set_option maxRecDepth 100000 in
set_option maxHeartbeats 8000000 in
theorem lawNobody (on : Bool) (w : World) :
    Calls Try.prog 5 #[.bool on] w fun e w' => e = .returned (.bool true) ∧ Below w.heap.size w w' := by
  have hz := Bk.new w 48 [.int .i64 0, .int .i64 0, .int .i64 0, .int .i64 0]
  have hr : NoRow w ((w.alloc (.cells #[.int .i64 0, .int .i64 0, .int .i64 0, .int .i64 0] 48)).alloc (.cells #[.pointer none, .pointer (some ⟨w.heap.size, 0, none⟩)] 23)) (w.heap.size + 1) := by
    have hb := Bk.new (w.alloc (.cells #[.int .i64 0, .int .i64 0, .int .i64 0, .int .i64 0] 48)) 23 [.pointer none, .pointer (some ⟨w.heap.size, 0, none⟩)]
    rw [World.size_alloc] at hb
    refine ⟨by rw [World.size_alloc, World.size_alloc]; omega, ((Below.refl _ _).alloc (Nat.le_refl _) _).alloc (by simp) _, fun k hk => ?_⟩
    rcases (by omega : k = 0 ∨ k = 1) with rfl | rfl
    · exact ⟨none, hb.cell 0 rfl, .inl rfl⟩
    · exact ⟨_, hb.cell 1 rfl, .inr ⟨_, rfl, hz.alloc _⟩⟩
  clear hz
  go_enter Try.func5, Try.ntmps5
  go_wp2
  go_loopw [5, 11] (fun t i wr => ∃ k : Nat, k ≤ 2 ∧ i = .int .i64 k ∧ NoRow w wr (w.heap.size + 1)) (fun t i _ => 2 - (intOf i).toNat)
  case atStart => exact ⟨0, by omega, rfl, hr⟩
  case round =>
    clear hr
    obtain ⟨k, hk, rfl, hr⟩ := hrel
    by_cases hlt : k < 2
    · obtain ⟨P, hcell, hn⟩ := hr.2.2 k hlt
      have hlt' : (k : Int) < 2 := by omega
      have HN := Lib.hid hn
      have HR := Lib.hid hr
      generalize w.heap.size + 1 = gl at *
      clear hr hn
      go_wp2_with (first
        | (go_at_call 9; refine (no_Run HN.out on).mono ?_; rintro e w' ⟨⟨v, rfl⟩, rfl⟩)
        | (go_at_call 11; refine (no_Again HN.out).mono ?_; rintro e w' ⟨⟨v, rfl⟩, rfl⟩)
        | (go_at_call 13; refine (no_Reset HN.out).mono ?_; rintro e w' ⟨⟨v, rfl⟩, rfl⟩)
        | (go_at_call 17; refine (no_Tick HN.out).mono ?_; rintro e w' ⟨rfl, rfl⟩)
        | (go_at_call 20; refine (no_Running HN.out).mono ?_; rintro e w' ⟨rfl, rfl⟩)
        | (go_at_call 18; refine (no_Wait HN.out).mono ?_; rintro e w' ⟨rfl, rfl⟩)
        | (go_at_call 19; refine (no_Left HN.out).mono ?_; rintro e w' ⟨rfl, rfl⟩)
        | (go_at_call 15; refine (no_Fork HN.out).mono ?_; rintro e w' ⟨rfl, rfl⟩))
      go_roundw
      case rel => exact ⟨k + 1, by omega, by go_num, HR.out⟩
      case measure => simp [intOf]; omega
    · obtain rfl : k = 2 := by omega
      have HB := Lib.hid hr.2.1
      have HA := Lib.hid (awake_any wr)
      clear hr hlt
      go_wp2_with fail
      refine HA.out.mono ?_
      rintro e w' ⟨rfl, hb'⟩
      have HB' := Lib.hid hb'
      clear hb'
      go_wp2
      go_ret
      exact ⟨rfl, HB.out.trans (HB'.out.mono HB.out.size)⟩
end Go.Proofs.Ytpcjmkphdannfaa
