/- The reference's bitmap: Advance, Lacking. -/
import Derived.Test.YtcffmghpgbkcdaaB9
set_option linter.unusedSimpArgs false
set_option linter.unusedVariables false
namespace Go.Proofs.Ytcffmghpgbkcdaa
open Go.RowKit Go.Shelf
section
variable {w w' : World} {B : Bm} {A : Option Addr} {n c : Nat}
/-- Between two rounds of Advance. -/
structure RaI (w : World) (B : Bm) (A : Option Addr) (n : Nat) (A' : Option Addr) (n' c' : Nat) (W : World) : Prop where
  bx : Bk W 29 w.heap.size (rvL B A' n' c')
  rs : Bk W 29 (w.heap.size + 1) zR
  rp : Rp W B A' n' c'
  lie : 0 < n' → ∀ ad, A' = some ad → 0 < n ∧ ∃ a0, A = some a0 ∧ ad.block = a0.block
  old : ∀ ad, A' = some ad → 0 < n' → ad.block < w.heap.size
  bel : Below w.heap.size w W
theorem cutA_blk {A : Option Addr} {c s : Nat} {ad : Addr} (h : cutA A c s = some ad) : ∃ a0, A = some a0 ∧ ad.block = a0.block := by
  unfold cutA at h
  split at h
  · exact ⟨ad, h, rfl⟩
  · cases A with
    | none => cases h
    | some a =>
      simp only [Option.map_some, Option.some.injEq] at h
      subst h
      refine ⟨a, rfl, ?_⟩
      unfold Addr.add
      split <;> rfl
theorem RaI.next {A' : Option Addr} {n' c' : Nat} {W : World} (h : RaI w B A n A' n' c' W) (ho : B.ok) (hs : B.s B.base = true) (q : Nat) :
    RaI w (B.on 1) A n (cutA A' c' 1) (n' - 1) (c' - 1) (((W.drewN q).setCell ⟨w.heap.size, 2, none⟩ (.slice (cutA A' c' 1) (n' - 1) (c' - 1))).setCell ⟨w.heap.size, 1, none⟩ (.int .i64 ((B.base : Int) + 1))) := by
  obtain ⟨h1, h2, h3, h4, h5, h6⟩ := h
  have hall := Bm.on_all ho hs
  have hn := h3.len
  have hn1 : 1 ≤ n' := by rw [hn, hall]; simp
  have hst : St (fun k => k = w.heap.size) W (((W.drewN q).setCell ⟨w.heap.size, 2, none⟩ (.slice (cutA A' c' 1) (n' - 1) (c' - 1))).setCell ⟨w.heap.size, 1, none⟩ (.int .i64 ((B.base : Int) + 1))) :=
    (((St.ext (Below.drewN_ W q) (F := fun k => k = w.heap.size)).trans (St.setCell (F := fun k => k = w.heap.size) (W.drewN q) (a := ⟨w.heap.size, 2, none⟩) rfl _) (Gr.refl _ _)).trans (St.setCell (F := fun k => k = w.heap.size) _ (a := ⟨w.heap.size, 1, none⟩) rfl _) (Gr.refl _ _))
  have hlie : 0 < n' - 1 → ∀ ad, cutA A' c' 1 = some ad → ∃ a0, A' = some a0 ∧ ad.block = a0.block := fun _ ad he => cutA_blk he
  refine ⟨((h1.below (Below.drewN_ W q)).set 2 _).set 1 _, h2.st hst (by omega), ?_, fun hn ad he => ?_, fun ad he hn => ?_, h6.trans (hst.below h6.size (by intro k hk; omega))⟩
  · have hr := RdV.cut h3 hn1
    have : (intV (B.all true)).drop 1 = intV ((B.on 1).all true) := by rw [hall]; rfl
    rw [this] at hr
    refine hr.st hst fun hn ad he => ?_
    obtain ⟨a0, ha, hb⟩ := cutA_blk he
    have := h5 a0 ha (by omega)
    omega
  · obtain ⟨a0, ha, hb⟩ := cutA_blk he
    rw [hb]
    exact h4 (by omega) a0 ha
  · obtain ⟨a0, ha, hb⟩ := cutA_blk he
    rw [hb]
    exact h5 a0 ha (by omega)
theorem _root_.Go.Proofs.Ytcffmghpgbkcdaa.RdV.belowA' {W W' : World} {A' : Option Addr} {n' c' L : Nat} {vs : List Value} (h : RdV W A' n' c' vs) (hb : Below L W W') (hA : ∀ ad, A' = some ad → 0 < n' → ad.block < L) : RdV W' A' n' c' vs :=
  h.st (F := fun k => L ≤ k) (St.of_below hb fun k _ hk => by omega) fun hn ad he => by have := hA ad he hn; omega
set_option maxRecDepth 100000 in
set_option maxHeartbeats 4000000 in
theorem radv_any (h : Rp w B A n c) (ho : B.ok) :
    Calls Try.prog 10 #[.agg (rvL B A n c).toArray] w fun e w' => ∃ k A' n' c', B.runs k ∧ e = .returned (.tuple #[.agg (rvL (B.on k) A' n' c').toArray, .int .i64 k]) ∧ Rr w (B.on k) A n A' n' c' w' := by
  have hI : RaI w B A n A n c ((w.alloc (.cells (rvL B A n c).toArray 29)).alloc (.cells #[.int .i64 0, .int .i64 0, .slice none 0 0] 29)) := by
    have hb := ((Below.refl w.heap.size w).alloc (Nat.le_refl _) (.cells (rvL B A n c).toArray 29)).alloc (by simp) (.cells #[.int .i64 0, .int .i64 0, .slice none 0 0] 29)
    refine ⟨(Bk.new w _ (rvL B A n c)).alloc _, ?_, RdV.below h hb, fun hn ad he => ⟨hn, ad, he, rfl⟩, fun ad he hn => h.blk hn ad he, hb⟩
    have := Bk.new (w.alloc (.cells (rvL B A n c).toArray 29)) 29 zR
    rw [World.size_alloc] at this
    exact this
  have HI := Lib.hid hI
  clear hI
  go_enter Try.func10, Try.ntmps10
  go_wp2
  go_loopw [4] (fun i wr => ∃ (k : Nat) (A' : Option Addr) (n' c' : Nat), i = .int .i64 k ∧ (∀ j, j < k → B.s (B.base + j) = true) ∧ RaI w (B.on k) A n A' n' c' wr) (fun i _ => 257 - (intOf i).toNat)
  case atStart => exact ⟨0, A, n, c, rfl, by omega, by rw [Bm.on_zero ho]; exact HI.out⟩
  case round =>
    obtain ⟨k, A', n', c', rfl, hj, hJ⟩ := hrel
    have hk := Bm.runs_le ho hj
    have HJ := Lib.hid hj
    clear hj
    obtain ⟨B1, hB1⟩ : ∃ B1, B1 = B.on k := ⟨_, rfl⟩
    have HB1 := Lib.hid hB1
    have ho1 : B1.ok := by rw [hB1]; exact ho.on HJ.out
    have hbs : B1.base = B.base + k := by rw [hB1]; rfl
    rw [← hB1] at hJ
    have HBS := Lib.hid hbs
    clear hB1 hbs
    have HR := Lib.hid hJ
    have hn' := hJ.rp.len
    have hcc := hJ.rp.2.1
    have hcm := hJ.rp.2.2.1
    unfold maxLen at hcm
    have hb1 := ho1.b1
    have c1 := hJ.bx.cell 1 (v := .int .i64 B1.base) rfl
    have c2 := hJ.bx.cell 2 (v := .slice A' n' c') rfl
    have f1 := hJ.bx.free 1
    have f2 := hJ.bx.free 2
    clear hJ
    cases hs : B1.s B1.base with
    | true =>
      have HJ2 : Hid (∀ j, j < k + 1 → B.s (B.base + j) = true) := Lib.hid (fun j hj => by
        rcases (by omega : j < k ∨ j = k) with h | rfl
        · exact HJ.out j h
        · rw [HBS.out, HB1.out] at hs
          have : (B.s (B.base + j) && decide (B.base + j ≤ B.base + j)) = true := hs
          simpa using this)
      have hk2 : k < 256 := by have := Bm.runs_le ho HJ2.out; omega
      have hall := Bm.on_all ho1 hs
      have hn1 : 0 < n' := by rw [hn', hall]; simp
      have hn1' : (0 : Int) < n' := by omega
      obtain ⟨g, o, hA', hg, d⟩ := intV_at HR.out.rp hn1 (by rw [hall]; simp)
      subst hA'
      have e0 : (B1.all true)[0]'(by rw [hall]; simp) = (B1.base : Int) := by simp [hall]
      rw [e0, Nat.add_zero] at d
      have hrc : ∀ W : World, (Instr.slice 27 (.slice (some ⟨g, o, none⟩) n' c') (some (.int .i64 1)) none none).run Try.prog W = .ok (.slice (cutA (some ⟨g, o, none⟩) c' 1) (n' - 1) (c' - 1)) W := fun W => eltI.run_cut (some ⟨g, o, none⟩) n' c' 1 (by omega) hcc W
      have HNX := Lib.hid (fun q => HR.out.next ho1 hs q)
      have hle := (ho1.win _ hs).2.2
      clear hall e0 hn' hs
      go_wp2
      go_quiet (fail)
      go_wp2
      go_roundw
      case rel =>
        refine ⟨k + 1, cutA (some ⟨g, o, none⟩) c' 1, n' - 1, c' - 1, by go_num, HJ2.out, ?_⟩
        rw [← Bm.on_on, ← HB1.out]
        exact HNX.out _
      case measure => simp [intOf]; omega
    | false =>
      have HRUN : Hid (B.runs k) := Lib.hid ⟨HJ.out, by
        rw [HBS.out, HB1.out] at hs
        have : (B.s (B.base + k) && decide (B.base + k ≤ B.base + k)) = false := hs
        simpa using this⟩
      rcases Nat.eq_zero_or_pos n' with hn0 | hn0
      · subst hn0
        have hn0' : ¬ (0 : Int) < ((0 : Nat) : Int) := by omega
        have hd := decide_eq_false hn0'
        obtain ⟨A1, hA1⟩ : ∃ A1, A1 = A' := ⟨_, rfl⟩
        rw [← hA1] at HR c2
        clear hn' hs hA1
        go_wp2
        go_quiet (fail)
        go_wp2_with (first
          | (with_reducible refine at_load 29 (.tmp 1) (by rfl) ?_; refine wpList_load_bk rowR rfl (.tmp 1) rfl w.heap.size 0 rfl (HR.out.bx.below (Below.drewN_ wr _)) (rvL B1 A1 0 c') rfl rfl ?_)
          | (with_reducible refine at_store 29 (.tmp 2) (.tmp 28) (by rfl) ?_; have hkk := HR.out.rs.below (Below.drewN_ wr nq); refine wpList_store_bk rowR rfl (.tmp 2) (.tmp 28) rfl (w.heap.size + 1) 0 rfl hkk (rvL B1 A1 0 c') rfl rfl (by decide) (rvL_one _ _ _ _) ?_; rintro w5 hr5 hw5))
        rw [lay_zR] at hr5
        have hbl := hw5.below (B := w.heap.size) (by omega) HR.out.bel.size
        refine bodyPost_ret (results_cell_tmp rfl rfl (rowR.load hr5 0 (cs := rvL B1 A1 0 c') rfl rfl)) rfl ⟨k, A1, 0, c', HRUN.out, ?_, ?_, ?_, (HR.out.bel.trans ((Below.drewN_ wr nq).mono HR.out.bel.size)).trans hbl⟩
        · rw [← HB1.out]; rfl
        · rw [← HB1.out]
          exact (RdV.below HR.out.rp (Below.drewN_ wr nq)).belowA' hbl HR.out.old
        · intro hn ad he
          exact .inr (HR.out.lie hn ad he)
      · have hn1' : (0 : Int) < n' := by omega
        have hnh := Bm.not_head ho1 hs (h := by omega)
        obtain ⟨g, o, hA', hg, d⟩ := intV_at HR.out.rp hn0 (by omega)
        rw [Nat.add_zero] at d
        generalize (B1.all true)[0] = y at *
        subst hA'
        obtain ⟨A1, hA1⟩ : ∃ A1 : Option Addr, A1 = some ⟨g, o, none⟩ := ⟨_, rfl⟩
        have hd := decide_eq_true hn1'
        have hd2 : (y == (B1.base : Int)) = false := by simpa using hnh
        have hd3 : ¬ y = (B1.base : Int) := hnh
        clear hn' hs hnh
        go_wp2
        go_quiet (fail)
        go_wp2_with (first
          | (with_reducible refine at_load 29 (.tmp 1) (by rfl) ?_; refine wpList_load_bk rowR rfl (.tmp 1) rfl w.heap.size 0 rfl (HR.out.bx.below (Below.drewN_ wr _)) (rvL B1 (some ⟨g, o, none⟩) n' c') rfl rfl ?_)
          | (with_reducible refine at_store 29 (.tmp 2) (.tmp 28) (by rfl) ?_; have hkk := HR.out.rs.below (Below.drewN_ wr nq); refine wpList_store_bk rowR rfl (.tmp 2) (.tmp 28) rfl (w.heap.size + 1) 0 rfl hkk (rvL B1 (some ⟨g, o, none⟩) n' c') rfl rfl (by decide) (rvL_one _ _ _ _) ?_; rintro w5 hr5 hw5))
        rw [lay_zR] at hr5
        have hbl := hw5.below (B := w.heap.size) (by omega) HR.out.bel.size
        refine bodyPost_ret (results_cell_tmp rfl rfl (rowR.load hr5 0 (cs := rvL B1 (some ⟨g, o, none⟩) n' c') rfl rfl)) rfl ⟨k, some ⟨g, o, none⟩, n', c', HRUN.out, ?_, ?_, ?_, (HR.out.bel.trans ((Below.drewN_ wr nq).mono HR.out.bel.size)).trans hbl⟩
        · rw [← HB1.out]; rfl
        · rw [← HB1.out]
          exact (RdV.below HR.out.rp (Below.drewN_ wr nq)).belowA' hbl HR.out.old
        · intro hn ad he
          exact .inr (HR.out.lie hn ad he)
theorem Bm.cond_false {B : Bm} (ho : B.ok) (j : Nat) (ht : B.base + j ≤ 1152921504606846976) : B.cond false j = !decide (((B.base + j : Nat) : Int) ∈ B.all true) := by
  unfold Bm.cond
  rw [decide_eq_true ht, Bool.and_true]
  have : decide (((B.base + j : Nat) : Int) ∈ B.all true) = B.s (B.base + j) := by
    rw [Bool.eq_iff_iff, decide_eq_true_eq, B.mem_all ho, Int.toNat_natCast]
    exact ⟨fun h => h.2, fun h => ⟨by omega, h⟩⟩
  rw [this]
  cases B.s (B.base + j) <;> rfl
theorem Bm.take_nums (B : Bm) {i : Nat} (hi : i ≤ B.size) {m : Nat} (h : (B.nums false i).length = m) : (B.all false).take m = B.nums false i := by
  obtain ⟨r, hr⟩ := B.nums_pre false i (B.size - i)
  rw [show i + (B.size - i) = B.size from by omega] at hr
  show (B.nums false B.size).take m = _
  rw [hr, ← h, List.take_left]
/-- Between two rounds of Lacking. -/
structure RlI (w : World) (B : Bm) (A : Option Addr) (n c : Nat) (xs : List Int) (A' : Option Addr) (n' c' : Nat) (W : World) : Prop where
  bx : Bk W 29 w.heap.size (rvL B A n c)
  ls : Lst 3 (w.heap.size + 1 ≤ ·) W A' n' c' (intV xs)
  bel : Below w.heap.size w W
theorem RlI.next {xs : List Int} {x : Int} {A' : Option Addr} {n' c' : Nat} {W W' : World} {v : Value} (h : RlI w B A n c xs A' n' c' W) (hap : Apd 3 (w.heap.size + 1 ≤ ·) (W.alloc (.cells #[.int .i64 x] 3)) v (intV xs ++ [.int .i64 x]) W') :
    ∃ A2 n2 c2, v = .slice A2 n2 c2 ∧ RlI w B A n c (xs ++ [x]) A2 n2 c2 W' := by
  obtain ⟨h1, h2, h3⟩ := h
  obtain ⟨A2, n2, c2, rfl, hl⟩ := hap.ex
  have hlt := h1.lt
  refine ⟨A2, n2, c2, rfl, (h1.alloc _).st hap.st (by omega), ?_, ?_⟩
  · rw [intV_snoc]
    exact hl.mono fun k hk => by
      rcases hk with hk | hk
      · exact hk
      · simp at hk; omega
  · exact (h3.trans ((Below.refl _ _).alloc h3.size _)).trans (hap.st.below (by have := h3.size; simp; omega) (fun k hk => by omega))
set_option maxRecDepth 100000 in
set_option maxHeartbeats 4000000 in
theorem rlack_any (h : Rp w B A n c) (ho : B.ok) (most : Int) :
    Calls Try.prog 28 #[.agg (rvL B A n c).toArray, .int .i64 most] w (Made 3 (intV ((B.all false).take most.toNat)) w) := by
  have hs2 := ho.s2
  have hb1 := ho.b1
  have hb := (Below.refl w.heap.size w).alloc (Nat.le_refl _) (.cells (rvL B A n c).toArray 29)
  have HI : Hid (RlI w B A n c (B.nums false 0) none 0 0 (w.alloc (.cells (rvL B A n c).toArray 29))) := Lib.hid ⟨Bk.new w _ (rvL B A n c), Lst.nil _ _ _, hb⟩
  have HH := Lib.hid h
  have hk0 := Bk.new w 29 (rvL B A n c)
  have c1 := hk0.cell 1 (v := .int .i64 B.base) rfl
  clear h hb hk0
  go_enter Try.func28, Try.ntmps28
  go_wp2
  clear c1
  go_loopw [5, 6] (fun v i wr => ∃ (j : Nat) (A' : Option Addr) (n' c' : Nat), j ≤ B.size ∧ v = .slice A' n' c' ∧ i = .int .i64 ((B.base : Int) + j) ∧ (B.nums false j).length ≤ most.toNat ∧ RlI w B A n c (B.nums false j) A' n' c' wr) (fun _ i _ => (B.base + 257 - (intOf i).toNat : Nat))
  case atStart => exact ⟨0, none, 0, 0, Nat.zero_le _, rfl, by simp, Nat.zero_le _, HI.out⟩
  case round =>
    obtain ⟨j, A', n', c', hj, rfl, rfl, hle, hJ⟩ := hrel
    have HLE := Lib.hid hle
    have HR := Lib.hid hJ
    have hn' : n' = (B.nums false j).length := by have := hJ.ls.1; rw [intV_len] at this; exact this.symm
    have hnl := B.nums_len false j
    have c0 := hJ.bx.cell 0 (v := .int .i64 B.size) rfl
    have c1 := hJ.bx.cell 1 (v := .int .i64 B.base) rfl
    have c2 := hJ.bx.cell 2 (v := .slice A n c) rfl
    have HN := Lib.hid hn'
    have hn8 : n' ≤ 256 := by omega
    clear hJ hle hn' hnl
    by_cases hstop : j = B.size ∨ 1152921504606846976 < B.base + j ∨ most ≤ n'
    · have HT : Hid ((B.all false).take most.toNat = B.nums false j) := Lib.hid (by
        have h1 := HLE.out
        have h2 := HN.out
        rcases hstop with rfl | hs | hs
        · exact List.take_of_length_le h1
        · have := B.nums_top false hs (B.size - j)
          rw [show j + (B.size - j) = B.size from by omega] at this
          show (B.nums false B.size).take _ = _
          rw [this]
          exact List.take_of_length_le h1
        · exact B.take_nums hj (by omega))
      have HF : Hid (Made 3 (intV ((B.all false).take most.toNat)) w (.returned (.slice A' n' c')) wr) := Lib.hid ⟨A', n', c', rfl, by rw [HT.out]; exact HR.out.ls.mono fun k hk => by omega, HR.out.bel⟩
      rcases (by omega : (B.base : Int) + B.size ≤ (B.base : Int) + j ∨ ((B.base : Int) + j < (B.base : Int) + B.size ∧ (1152921504606846976 : Int) < (B.base : Int) + j) ∨ ((B.base : Int) + j < (B.base : Int) + B.size ∧ (B.base : Int) + j ≤ 1152921504606846976 ∧ most ≤ n')) with h0 | ⟨h0, h1⟩ | ⟨h0, h1, h2⟩
      all_goals
        clear hstop
        go_wp2
        go_ret
        exact HF.out
    · have hjs : j < B.size := by omega
      have htop : B.base + j ≤ 1152921504606846976 := by omega
      have h0 : (B.base : Int) + j < (B.base : Int) + B.size := by omega
      have h1 : (B.base : Int) + j ≤ 1152921504606846976 := by omega
      have h2 : (n' : Int) < most := by omega
      have hc := B.cond_false ho j htop
      have hsu := B.nums_succ false j
      have HRH := Lib.hid (RdV.belowA' HH.out HR.out.bel (fun ad he hn => RdV.blk HH.out hn ad he))
      clear hstop
      cases hm : decide (((B.base + j : Nat) : Int) ∈ B.all true) with
      | true =>
        rw [hm] at hc
        rw [if_neg (by rw [hc]; simp)] at hsu
        have HSU := Lib.hid hsu
        have hm' : decide ((B.base : Int) + j ∈ B.all true) = true := by have := hm; rw [Int.natCast_add] at this; exact this
        clear hc hsu hm
        go_wp2_with (go_at_call 33; refine (in_any A n c (B.all true) _ _ HRH.out).mono ?_; rintro e w' ⟨rfl, rfl⟩; rw [hm'])
        go_roundw
        case rel => exact ⟨j + 1, A', n', c', by omega, rfl, by go_num, by rw [HSU.out]; exact HLE.out, by rw [HSU.out]; exact HR.out⟩
        case measure => simp [intOf]; omega
      | false =>
        rw [hm] at hc
        rw [if_pos (by rw [hc]; rfl)] at hsu
        have HSU := Lib.hid hsu
        have hm' : decide ((B.base : Int) + j ∈ B.all true) = false := by have := hm; rw [Int.natCast_add] at this; exact this
        have hla := HR.out.ls.alloc (.cells #[.int .i64 ((B.base : Int) + j)] 3)
        have hu := RdV.one wr 3 (.int .i64 ((B.base : Int) + j)) rfl
        clear hc hsu hm
        go_wp2_with (first
          | (go_at_call 33; refine (in_any A n c (B.all true) _ _ HRH.out).mono ?_; rintro e w' ⟨rfl, rfl⟩; rw [hm'])
          | (at_builtin
             refine wpList_append_lst eltI rfl (.tmp 33) (.tmp 35) rfl rfl hla rfl hu (by omega) ?_
             rintro v w2 hap
             obtain ⟨A2, n2, c2', rfl, hnx⟩ := HR.out.next hap
             have HNX := Lib.hid hnx
             clear hap hnx))
        go_roundw
        case rel => exact ⟨j + 1, A2, n2, c2', by omega, rfl, by go_num, by rw [HSU.out, List.length_append, List.length_singleton]; have := HN.out; omega, by rw [HSU.out]; exact HNX.out⟩
        case measure => simp [intOf]; omega
end
end Go.Proofs.Ytcffmghpgbkcdaa
