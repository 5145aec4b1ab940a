/- The law on any calls. -/
import Derived.Test.YtgeihelpggncgaaL7
import Derived.Test.YtgeihelpggncgaaOpenV
set_option linter.unusedSimpArgs false
set_option linter.unusedVariables false
namespace Go.Proofs.Ytgeihelpggncgaa
open Go.RowKit Go.Shelf Rgint

theorem step_any (F : Nat → Prop) (p room : Nat) (xs : List Int) (A : Option Addr) (n c : Nat) (dv : Nat) (B : Option Addr) (m d : Nat) (on : Int) (w : World) (h : Twin F w p room xs A n c) (hdv : dv < 256) (ls : List Int) (hls : Rd .i64 w B m d ls)
    (hBF : 0 < m → ∀ ad, B = some ad → ¬ F ad.block) (ho : (Lit.int .i64 on).wf = true) :
    Calls Try.prog 10 #[.pointer (some ⟨p, 0, none⟩), .agg #[.slice A n c, .int .i64 room], .agg #[.int .u8 dv, .slice B m d, .int .i64 on]] w (Stp F p room A n w) := by
  have hm := hls.2.1
  have hd := hls.2.2.1
  have hcs : dv % 10 < 4 ∨ (dv : Int) % 10 = 4 ∨ (dv : Int) % 10 = 5 ∨ (dv : Int) % 10 = 6 ∨ (dv : Int) % 10 = 7 ∨ (dv : Int) % 10 = 8 ∨ (dv : Int) % 10 = 9 := by omega
  rcases hcs with h0 | h0 | h0 | h0 | h0 | h0 | h0
  · by_cases hf : n + shortN m ≤ room
    · exact step_push_ok F p room xs A n c dv B m d on w h hm hd hdv ls hls hBF hf h0
    · exact step_push_full F p room xs A n c dv B m d on w h hm hd hdv ls hls hBF (by omega) h0
  · exact step_pop F p room xs A n c dv B m d on w h hm hd hdv h0
  · exact step_pop5 F p room xs A n c dv B m d on w h hm hd hdv h0
  · by_cases hi : 0 ≤ on ∧ on < n
    · exact step_peek_in F p room xs A n c dv B m d on w h hm hd hdv on.toNat (by omega) (by omega) h0
    · exact step_peek_out F p room xs A n c dv B m d on w h hm hd hdv (by omega) h0
  · exact step_rot F p room xs A n c dv B m d on w h hm hd hdv ho h0
  · exact step_drop F p room xs A n c dv B m d on w h hm hd hdv ho h0
  · exact step_clear F p room xs A n c dv B m d on w h hm hd hdv h0

abbrev OpT : Ty := .one (.int .u8) (.one (.sl (.int .i64)) (.one (.int .i64) .unit))
/-- The k-th call, as it lies in memory. -/
theorem op_at {w : World} {s : Sl OpT.den} (h : (Ty.sl OpT).reads w s) (k : Nat) (hk : k < s.n) : ∃ (g o dv m d : Nat) (B : Option Addr) (on : Int) (ls : List Int), s.A = some ⟨g, o, none⟩ ∧ g < w.heap.size ∧
    w.cell? ⟨g, o + k * 3, none⟩ = some (.int .u8 dv) ∧ w.cell? ⟨g, o + k * 3 + 1, none⟩ = some (.slice B m d) ∧ w.cell? ⟨g, o + k * 3 + 1 + 1, none⟩ = some (.int .i64 on) ∧ dv < 256 ∧ Rd .i64 w B m d ls ∧ (Lit.int .i64 on).wf = true := by
  obtain ⟨h1, h2, h3, h4, h5, h6⟩ := h
  have h1' : s.l.length = s.n := h1
  have hkl : k < s.l.length := by omega
  obtain ⟨g, o, hA, hg, hx⟩ := h5 (by omega) (show 0 < 3 from by omega)
  obtain ⟨dv, ⟨B, m, d, ls⟩, on, u, hv⟩ : ∃ (dv : Int) (t : Sl Int) (on : Int) (u : Unit), (show OpT.den from (dv, t, on, u)) = s.l[k] := ⟨(s.l[k] : OpT.den).1, (s.l[k] : OpT.den).2.1, (s.l[k] : OpT.den).2.2.1, (s.l[k] : OpT.den).2.2.2, rfl⟩
  have hr : OpT.reads w s.l[k] := h6 _ (List.getElem_mem _)
  rw [← hv] at hr
  obtain ⟨r1, r2, r3, _⟩ := hr
  have hb : 0 ≤ dv ∧ dv < 256 := u8_bounds r1
  have hdv : dv = (dv.toNat : Int) := by omega
  have x0 := hx k hkl 0 (.int .u8 dv) (by rw [← hv]; rfl)
  have x1 := hx k hkl 1 (.slice B m d) (by rw [← hv]; rfl)
  have x2 := hx k hkl 2 (.int .i64 on) (by rw [← hv]; rfl)
  refine ⟨g, o, dv.toNat, m, d, B, on, ls, hA, hg, ?_, x1, x2, by omega, rd_of_reads ⟨B, m, d, ls⟩ r2, r3⟩
  rw [← hdv]
  exact x0

theorem newI_bad (room : Int) (w : World) (h : badRoom room = true) : Calls Try.prog 7 #[.int .i64 room] w fun e w' => e = .returned (.tuple #[.pointer none, .int .i64 40]) ∧ w = w' := new_bad room w h
set_option maxRecDepth 100000 in
set_option maxHeartbeats 4000000 in
theorem runs_bad (room : Int) (A : Option Addr) (n c : Nat) (w : World) (h : badRoom room = true) (hn : n ≤ maxLen) :
    Calls Try.prog 3 #[.int .i64 room, .slice A n c] w fun e w' => e = .returned (.bool true) ∧ Below w.heap.size w w' := by
  unfold maxLen at hn
  go_enter Try.func3, Try.ntmps3
  go_wp2_with fail
  refine (new_bad room w h).mono ?_
  rintro e w' ⟨rfl, rfl⟩
  go_wp2_with fail
  refine (rnew_bad room w h).mono ?_
  rintro e w1 ⟨A1, n1, c1, rfl, hf1, hb1, hg1⟩
  go_wp2_with fail
  refine (awake_any _).mono ?_
  rintro e w2 ⟨rfl, hb2⟩
  have HB : Hid (Below w.heap.size w w2) := Lib.hid ((hb1.alloc hb1.size _).trans (hb2.mono (by have := hb1.size; simp; omega)))
  clear hb1 hb2
  go_wp2
  go_loopw [9] (fun i wr => i = .int .i64 0 ∧ wr = w2) (fun i _ => 0)
  case atStart => exact ⟨rfl, rfl⟩
  case round =>
    obtain ⟨rfl, rfl⟩ := hrel
    by_cases h0 : 0 < n
    · go_wp2
      go_ret
      exact ⟨rfl, HB.out⟩
    · obtain rfl : n = 0 := by omega
      go_wp2
      go_ret
      exact ⟨rfl, HB.out⟩

theorem lenT {F : Nat → Prop} {p room : Nat} {xs : List Int} {A : Option Addr} {n c : Nat} (w : World) (h : Twin F w p room xs A n c) :
    Calls Try.prog 13 #[.pointer (some ⟨p, 0, none⟩)] w fun e w' => e = .returned (.int .i64 n) ∧ w = w' := by
  have := len_any F p room _ w h.1
  rwa [List.length_map, h.2.1.1.1] at this
theorem roomT {F : Nat → Prop} {p room : Nat} {xs : List Int} {A : Option Addr} {n c : Nat} (w : World) (h : Twin F w p room xs A n c) :
    Calls Try.prog 14 #[.pointer (some ⟨p, 0, none⟩)] w fun e w' => e = .returned (.int .i64 (room - n)) ∧ ∃ q, w' = w.drewN q := by
  have := room_any F p room _ w h.1
  rwa [List.length_map, h.2.1.1.1] at this
/-- Between two rounds. -/
def RunI (w : World) (p b room : Nat) (F : Nat → Prop) (xs : List Int) (A : Option Addr) (n c : Nat) (wr : World) : Prop :=
  Twin F wr p room xs A n c ∧ Bk wr 29 b [.slice A n c, .int .i64 room] ∧ ¬ F b ∧ ¬ BlkN A n b ∧ Below w.heap.size w wr ∧ (∀ k, F k → w.heap.size ≤ k) ∧ (∀ k, BlkN A n k → w.heap.size ≤ k) ∧ w.heap.size ≤ b
/-- Within a round, behind the step. -/
def RunJ (w : World) (p b room bz : Nat) (F : Nat → Prop) (xs : List Int) (A : Option Addr) (n c : Nat) (wr : World) : Prop :=
  Twin F wr p room xs A n c ∧ Bk wr 29 bz [.slice A n c, .int .i64 room] ∧ (∃ v0 v1, Bk wr 29 b [v0, v1]) ∧ ¬ F b ∧ ¬ BlkN A n b ∧ Below w.heap.size w wr ∧ (∀ k, F k → w.heap.size ≤ k) ∧ (∀ k, BlkN A n k → w.heap.size ≤ k) ∧ w.heap.size ≤ b
theorem RunJ.stored {w W : World} {p b room bz : Nat} {F : Nat → Prop} {xs : List Int} {A : Option Addr} {n c : Nat} (h : RunJ w p b room bz F xs A n c W) :
    RunI w p b room F xs A n c ((W.setCell ⟨b, 0, none⟩ (.slice A n c)).setCell ⟨b, 1, none⟩ (.int .i64 room)) := by
  obtain ⟨ht, hz, ⟨v0, v1, hb⟩, nF, nA, hw, gF, gA, hbw⟩ := h
  refine ⟨ht.st (St.set2 (F := (· = b)) rfl W _ _) (fun k hk e => nF (e ▸ hk)) (fun k hk e => nA (e ▸ hk)), (hb.set 0 _).set 1 _, nF, nA, (hw.setCell (p := ⟨b, 0, none⟩) hbw _).setCell (p := ⟨b, 1, none⟩) hbw _, gF, gA, hbw⟩
theorem RunI.below {w W W' : World} {p b room : Nat} {F : Nat → Prop} {xs : List Int} {A : Option Addr} {n c : Nat} (h : RunI w p b room F xs A n c W) (hb' : Below W.heap.size W W') : RunI w p b room F xs A n c W' := by
  obtain ⟨ht, hb, nF, nA, hw, gF, gA, hbw⟩ := h
  exact ⟨ht.below hb', hb.below hb', nF, nA, hw.trans (hb'.mono hw.size), gF, gA, hbw⟩
theorem runJ_mk {w wd wc w5 W : World} {p b room bz : Nat} {F F5 : Nat → Prop} {xs xs5 : List Int} {A A5 : Option Addr} {n c n5 c5 : Nat} (h : RunI w p b room F xs A n c wd) (hc : Below wd.heap.size wd wc)
    (ht : Twin F5 w5 p room xs5 A5 n5 c5) (hg : Gr F F5 wc.heap.size) (hst : St F wc w5) (hgA : Gr (BlkN A n) (BlkN A5 n5) wc.heap.size) (hW : St (· = bz) w5 W) (hz : Bk W 29 bz [.slice A5 n5 c5, .int .i64 room]) (hbz : wd.heap.size ≤ bz) (hF5 : ¬ F5 bz) (hA5 : ¬ BlkN A5 n5 bz) :
    RunJ w p b room bz F5 xs5 A5 n5 c5 W := by
  obtain ⟨ht0, hb, nF, nA, hw, gF, gA, hbw⟩ := h
  have hs := hc.size
  have hws := hw.size
  have hblt := hb.lt
  refine ⟨ht.st hW (fun k hk e => hF5 (e ▸ hk)) (fun k hk e => hA5 (e ▸ hk)), hz, ⟨_, _, ((hb.below hc).st hst nF).st hW (by omega)⟩, hg.not (by omega) nF, hgA.not (by omega) nA, ?_, hg.ge gF (by omega), hgA.ge gA (by omega), hbw⟩
  exact ((hw.trans (hc.mono hws)).trans (hst.below (by omega) gF)).trans (hW.below (by have := hst.size; omega) (by rintro k rfl; omega))
set_option maxRecDepth 100000 in
set_option maxHeartbeats 4000000 in
theorem runs_ok (room : Nat) (s : Sl OpT.den) (w : World) (h : (Ty.sl OpT).reads w s) (h0 : 0 < room) (h1 : room ≤ 1024) :
    Calls Try.prog 3 #[.int .i64 room, .slice s.A s.n s.c] w fun e w' => e = .returned (.bool true) ∧ Below w.heap.size w w' := by
  have hnm : s.n ≤ 9223372036854775807 := by have h := h.2; simp only [maxLen] at h; omega
  have HOp := Lib.hid (op_at h)
  obtain ⟨A0, n0, c0, l0⟩ := s
  dsimp only at *
  clear h
  go_enter Try.func3, Try.ntmps3
  go_wp2_with fail
  refine (new_ok room w h0 h1).mono ?_
  rintro e w1 ⟨rfl, hr1, hb1⟩
  go_wp2_with fail
  refine (rnew_ok room w1 h0 h1).mono ?_
  rintro e w2 ⟨A2, n2, c2, rfl, hf2, hb2, hg2⟩
  have hn2 : n2 = 0 := by have := hf2.1.1; simpa using this.symm
  subst hn2
  have hb2z : Below w2.heap.size w2 (w2.alloc (.cells #[.slice A2 0 c2, .int .i64 room] 29)) := (Below.refl _ _).alloc (Nat.le_refl _) _
  have q2 := Bk.new w2 29 [.slice A2 0 c2, .int .i64 room]
  have hr2 := (hr1.below hb2).below hb2z
  have hf2' := hf2.below hb2z
  go_wp2_with fail
  refine (awake_any _).mono ?_
  rintro e w3 ⟨rfl, hb3⟩
  have hI : RunI w w.heap.size w2.heap.size room (· = w.heap.size) [] A2 0 c2 w3 := by
    have hlt := hr1.lt
    have hs2 := hb2.size
    refine ⟨⟨Rg.below hr2 hb3, hf2'.below hb3, by rintro k hk ⟨h, _⟩; omega⟩, q2.below hb3, by omega, by rintro ⟨h, _⟩; omega, ?_, by rintro k rfl; exact Nat.le_refl _, by rintro k ⟨h, _⟩; omega, by omega⟩
    exact (((hb1.trans (hb2.mono hb1.size)).trans (hb2z.mono (by have := hb1.size; omega))).trans (hb3.mono (by simp; omega)))
  have HI0 := Lib.hid hI
  clear hI hb3 hr2 hf2' q2 hb2z hf2 hb2 hg2 hr1 hb1
  generalize hp : w.heap.size = p at HI0 ⊢
  have HP := Lib.hid hp
  clear hp
  generalize w2.heap.size = b at HI0 ⊢
  go_wp2
  go_loopw [9] (fun i wr => ∃ k F xs A n c, k ≤ n0 ∧ k ≤ 50 ∧ i = .int .i64 k ∧ RunI w p b room F xs A n c wr) (fun i _ => n0 + 1 - (intOf i).toNat)
  case atStart => exact ⟨0, _, _, _, _, _, Nat.zero_le _, by omega, rfl, HI0.out⟩
  case round =>
    obtain ⟨k, F, xs, A, n, c, hkn, hk50, rfl, hI⟩ := hrel
    by_cases hc : k < n0 ∧ k < 50
    · obtain ⟨hlt, h50⟩ := hc
      have h50' : (k : Int) < 50 := by omega
      obtain ⟨g, o, dv, m, d, B, on, ls, hA, hg, x0, x1, x2, hdv, hls, ho⟩ := HOp.out k hlt
      subst hA
      have hFo : ∃ Fo : Nat → Prop, (∀ k, F k → Fo k) ∧ (∀ k, wr.heap.size ≤ k → Fo k) ∧ ¬ Fo b ∧ ¬ Fo g := by
        obtain ⟨i1, i2, i3, i4, i5, i6, i7, i8⟩ := hI
        have := i2.lt
        have := i5.size
        refine ⟨fun k => F k ∨ wr.heap.size ≤ k, fun k h => .inl h, fun k h => .inr h, fun h => ?_, fun h => ?_⟩
        · rcases h with h | h
          · exact i3 h
          · omega
        · rcases h with h | h
          · have := i6 _ h; omega
          · omega
      obtain ⟨Fo, hFa, hFc, hFn, hFq⟩ := hFo
      have HI := Lib.hid hI
      clear hI
      go_wp2
      refine wp_region_E (St Fo) (by kernel_rfl) (fun wd hbd hsz => ?_)
      have HSZ := Lib.hid hsz
      clear hsz
      have hFb : ∀ k, wd.heap.size ≤ k → Fo k := fun k hk => hFc k (by rw [← HSZ.out]; exact hk)
      have hI := HI.out.below hbd
      have HT := Lib.hid hI.1
      have hwd := hI.2.2.2.2.1
      have hq := hI.2.1
      have nFb := hI.2.2.1
      have hFg := hI.2.2.2.2.2.1
      have HI2 := Lib.hid hI
      have hlsd := hls.below hwd
      have hnFg : ¬ F g := fun hf => by have := hFg _ hf; omega
      have hgd : g < wd.heap.size := by have := hwd.size; omega
      have hBF : 0 < m → ∀ ad, B = some ad → ¬ F ad.block := fun h0 ad he hf => by
        have h1 := hls.blk h0 ad he
        have h2 := hFg _ hf
        omega
      have x0' := (hwd.cell (p := ⟨g, o + k * 3, none⟩) hg).trans x0
      have x1' := (hwd.cell (p := ⟨g, o + k * 3 + 1, none⟩) hg).trans x1
      have x2' := (hwd.cell (p := ⟨g, o + k * 3 + 1 + 1, none⟩) hg).trans x2
      have k0 := fun W' (hW : St Fo wd W') => (hq.st hW hFn).cell 0 rfl
      have k1 := fun W' (hW : St Fo wd W') => (hq.st hW hFn).cell 1 rfl
      have k2 := fun W' (hW : St Fo wd W') => (hW.cell (p := ⟨g, o + k * 3, none⟩) hgd hFq).trans x0'
      have k3 := fun W' (hW : St Fo wd W') => (hW.cell (p := ⟨g, o + k * 3 + 1, none⟩) hgd hFq).trans x1'
      have k4 := fun W' (hW : St Fo wd W') => (hW.cell (p := ⟨g, o + k * 3 + 1 + 1, none⟩) hgd hFq).trans x2'
      have hki : (k : Int) < n0 := by omega
      have hk0 : (0 : Int) ≤ k := by omega
      clear hI
      (refine takeE (St.tr Fo) 0 (by simp only [List.getElem?_toArray, List.getElem?_cons_succ, List.getElem?_cons_zero]; rfl) (by kernel_rfl) (by kernel_rfl) (by kernel_rfl) (by exact fun _ _ _ h => h) (by first | (refine Or.inl ⟨by rfl, ?_⟩; intro W hW; go_simp; try with_reducible rfl) | exact Or.inr ⟨by rfl, rfl⟩) ?_; try simp only [Act.put, List.setIfInBounds_toArray, List.set_cons_zero, List.set_cons_succ])
      (refine takeE (St.tr Fo) 1 (by simp only [List.getElem?_toArray, List.getElem?_cons_succ, List.getElem?_cons_zero]; rfl) (by kernel_rfl) (by kernel_rfl) (by kernel_rfl) (by exact fun _ _ _ h => h) (by first | (refine Or.inl ⟨by rfl, ?_⟩; intro W hW; go_simp; try with_reducible rfl) | exact Or.inr ⟨by rfl, rfl⟩) ?_; try simp only [Act.put, List.setIfInBounds_toArray, List.set_cons_zero, List.set_cons_succ])
      (refine takeE (St.tr Fo) 2 (by simp only [List.getElem?_toArray, List.getElem?_cons_succ, List.getElem?_cons_zero]; rfl) (by kernel_rfl) (by kernel_rfl) (by kernel_rfl) (by exact fun _ _ _ h => h) (by first | (refine Or.inl ⟨by rfl, ?_⟩; intro W hW; go_simp; try with_reducible rfl) | exact Or.inr ⟨by rfl, rfl⟩) ?_; try simp only [Act.put, List.setIfInBounds_toArray, List.set_cons_zero, List.set_cons_succ])
      (refine takeE (St.tr Fo) 3 (by simp only [List.getElem?_toArray, List.getElem?_cons_succ, List.getElem?_cons_zero]; rfl) (by kernel_rfl) (by kernel_rfl) (by kernel_rfl) (by exact fun _ _ _ h => h) (by first | (refine Or.inl ⟨by rfl, ?_⟩; intro W hW; go_simp; try with_reducible rfl) | exact Or.inr ⟨by rfl, rfl⟩) ?_; try simp only [Act.put, List.setIfInBounds_toArray, List.set_cons_zero, List.set_cons_succ])
      (refine takeE (St.tr Fo) 4 (by simp only [List.getElem?_toArray, List.getElem?_cons_succ, List.getElem?_cons_zero]; rfl) (by kernel_rfl) (by kernel_rfl) (by kernel_rfl) (by exact fun _ _ _ h => h) (by first | (refine Or.inl ⟨by rfl, ?_⟩; intro W hW; go_simp; try with_reducible rfl) | exact Or.inr ⟨by rfl, rfl⟩) ?_; try simp only [Act.put, List.setIfInBounds_toArray, List.set_cons_zero, List.set_cons_succ])
      (refine takeE (St.tr Fo) 5 (by simp only [List.getElem?_toArray, List.getElem?_cons_succ, List.getElem?_cons_zero]; rfl) (by kernel_rfl) (by kernel_rfl) (by kernel_rfl) (by exact fun _ _ _ h => h) (by first | (refine Or.inl ⟨by rfl, ?_⟩; intro W hW; go_simp; try with_reducible rfl) | exact Or.inr ⟨by rfl, rfl⟩) ?_; try simp only [Act.put, List.setIfInBounds_toArray, List.set_cons_zero, List.set_cons_succ])
      refine wpAnyE_two (i := 6) (j := 10) (by kernel_rfl) (by simp only [List.getElem?_toArray, List.getElem?_cons_succ, List.getElem?_cons_zero]; rfl) (by simp only [List.getElem?_toArray, List.getElem?_cons_succ, List.getElem?_cons_zero]; rfl) (fun K hK => ?_) (fun K hK => ?_)
      ·
        go_simp
        refine (step_any F p room xs A n c dv B m d on wd HT.out hdv ls hlsd hBF ho).mono ?_
        rintro e w5 ⟨F5, xs5, A5, n5, c5, rfl, ht5, hg5, hst5, hgA5⟩
        refine hK.out _ _ (hst5.mono fun k _ hk => hFa k hk) ?_
        clear hK K
        try simp only [Act.put, List.setIfInBounds_toArray, List.set_cons_zero, List.set_cons_succ]
        (refine takeE (St.tr Fo) 7 (by simp only [List.getElem?_toArray, List.getElem?_cons_succ, List.getElem?_cons_zero]; rfl) (by kernel_rfl) (by kernel_rfl) (by kernel_rfl) (by exact fun _ _ _ h => h) (by first | (refine Or.inl ⟨by rfl, ?_⟩; intro W hW; go_simp; try with_reducible rfl) | exact Or.inr ⟨by rfl, rfl⟩) ?_; try simp only [Act.put, List.setIfInBounds_toArray, List.set_cons_zero, List.set_cons_succ])
        (refine takeE (St.tr Fo) 8 (by simp only [List.getElem?_toArray, List.getElem?_cons_succ, List.getElem?_cons_zero]; rfl) (by kernel_rfl) (by kernel_rfl) (by kernel_rfl) (by exact fun _ _ _ h => h) (by first | (refine Or.inl ⟨by rfl, ?_⟩; intro W hW; go_simp; try with_reducible rfl) | exact Or.inr ⟨by rfl, rfl⟩) ?_; try simp only [Act.put, List.setIfInBounds_toArray, List.set_cons_zero, List.set_cons_succ])
        (refine takeE (St.tr Fo) 9 (by simp only [List.getElem?_toArray, List.getElem?_cons_succ, List.getElem?_cons_zero]; rfl) (by kernel_rfl) (by kernel_rfl) (by kernel_rfl) (by exact fun _ _ _ h => h) (by first | (refine Or.inl ⟨by rfl, ?_⟩; intro W hW; go_simp; try with_reducible rfl) | exact Or.inr ⟨by rfl, rfl⟩) ?_; try simp only [Act.put, List.setIfInBounds_toArray, List.set_cons_zero, List.set_cons_succ])
        refine wpAnyE_one (i := 10) (by kernel_rfl) (by simp only [List.getElem?_toArray, List.getElem?_cons_succ, List.getElem?_cons_zero]; rfl) (fun K hK => ?_)
        go_simp
        skip
        refine hK.out _ _ (St.alloc _ _ _) ?_
        clear hK K
        try simp only [Act.put, List.setIfInBounds_toArray, List.set_cons_zero, List.set_cons_succ]
        refine wpAnyE_one (i := 11) (by kernel_rfl) (by simp only [List.getElem?_toArray, List.getElem?_cons_succ, List.getElem?_cons_zero]; rfl) (fun K hK => ?_)
        go_simp
        skip
        refine hK.out _ _ (St.of_below (below_alloc2 (Nat.le_refl _) _ _) (fun k hk hn => by have := hst5.size; rcases Nat.lt_or_ge k w5.heap.size with h | h; exact h; exact absurd (hFb k (by omega)) hn)) ?_
        clear hK K
        try simp only [Act.put, List.setIfInBounds_toArray, List.set_cons_zero, List.set_cons_succ]
        (refine takeE (St.tr Fo) 12 (by simp only [List.getElem?_toArray, List.getElem?_cons_succ, List.getElem?_cons_zero]; rfl) (by kernel_rfl) (by kernel_rfl) (by kernel_rfl) (by exact fun _ _ _ h => h) (by first | (refine Or.inl ⟨by rfl, ?_⟩; intro W hW; go_simp; try with_reducible rfl) | exact Or.inr ⟨by rfl, rfl⟩) ?_; try simp only [Act.put, List.setIfInBounds_toArray, List.set_cons_zero, List.set_cons_succ])
        refine wpAnyE_done (by kernel_rfl) ?_ _
        first
        | (have hJ : RunJ w p b room w5.heap.size F5 xs5 A5 n5 c5 (w5.alloc (.cells #[.slice A5 n5 c5, .int .i64 room] 29)) := runJ_mk HI2.out (Below.refl _ _) ht5 hg5 hst5 hgA5 (St.alloc _ _ _) (Bk.new w5 29 [.slice A5 n5 c5, .int .i64 room]) hst5.size (fun hf => absurd (Rg.bd ht5.1 _ hf) (by omega)) (fun hf => absurd (ht5.2.1.2 _ hf) (by omega))
           generalize w5.alloc (.cells #[.slice A5 n5 c5, .int .i64 room] 29) = W8 at hJ ⊢
           generalize w5.heap.size = bz at hJ ⊢)
        | (have hJ : RunJ w p b room wd.heap.size F5 xs5 A5 n5 c5 ((w5.setCell ⟨wd.heap.size, 0, none⟩ (.slice A5 n5 c5)).setCell ⟨wd.heap.size, 1, none⟩ (.int .i64 room)) := runJ_mk HI2.out hbc ht5 hg5 hst5 hgA5 (St.set2 (F := (· = wd.heap.size)) rfl _ _ _) ((hz5.set 0 _).set 1 _) (Nat.le_refl _) (hg5.not hwz.lt hnFz) (hgA5.not hwz.lt hnAz)
           generalize (w5.setCell ⟨wd.heap.size, 0, none⟩ (.slice A5 n5 c5)).setCell ⟨wd.heap.size, 1, none⟩ (.int .i64 room) = W8 at hJ ⊢
           clear z0 z1 fz0 fz1 hz5
           generalize wd.heap.size = bz at hJ ⊢)
        have HJ := Lib.hid hJ
        obtain ⟨ht8, z8, ⟨v0, v1, b8⟩, hJ'⟩ := hJ
        have z0 := z8.cell 0 rfl
        have z1 := z8.cell 1 rfl
        have y0 := b8.cell 0 rfl
        have y1 := b8.cell 1 rfl
        have fy0 := b8.free 0
        have fy1 := b8.free 1
        clear hJ' ht8 b8 z8 k0 k1 k2 k3 k4 x0' x1' x2' hgA5 hst5 hg5 ht5 hq hwd hlsd hki hk0 hFa hFb hFn hFq hBF hnFg hgd hFg nFb
        go_wp2
        clear z0 z1 y0 y1 fy0 fy1
        have HI9 := Lib.hid HJ.out.stored
        generalize (W8.setCell ⟨b, 0, none⟩ (.slice A5 n5 c5)).setCell ⟨b, 1, none⟩ (.int .i64 room) = W9 at HI9 ⊢
        have hln := HI9.out.1.len
        have HWR : IntKind.i64.wrap ((room : Int) - n5) = (room : Int) - n5 := by rw [IntKind.wrap_i64]; omega
        refine wp_region_E Ext (by kernel_rfl) (fun wd2 hbd hsz => ?_)
        have hI9 := HI9.out.below hbd
        have hq9 := hI9.2.1
        have j0 := fun W' (hW : Ext wd2 W') => (hq9.below hW).cell 0 rfl
        have j1 := fun W' (hW : Ext wd2 W') => (hq9.below hW).cell 1 rfl
        have HT9 := Lib.hid hI9
        clear hI9
        (refine takeE Ext.tr 0 (by simp only [List.getElem?_toArray, List.getElem?_cons_succ, List.getElem?_cons_zero]; rfl) (by kernel_rfl) (by kernel_rfl) (by kernel_rfl) (by exact fun _ _ _ h => h) (by first | (refine Or.inl ⟨by rfl, ?_⟩; intro W hW; go_simp; try with_reducible rfl) | exact Or.inr ⟨by rfl, rfl⟩) ?_; try simp only [Act.put, List.setIfInBounds_toArray, List.set_cons_zero, List.set_cons_succ])
        (refine takeE Ext.tr 1 (by simp only [List.getElem?_toArray, List.getElem?_cons_succ, List.getElem?_cons_zero]; rfl) (by kernel_rfl) (by kernel_rfl) (by kernel_rfl) (by exact fun _ _ _ h => h) (by first | (refine Or.inl ⟨by rfl, ?_⟩; intro W hW; go_simp; try with_reducible rfl) | exact Or.inr ⟨by rfl, rfl⟩) ?_; try simp only [Act.put, List.setIfInBounds_toArray, List.set_cons_zero, List.set_cons_succ])
        (refine takeE Ext.tr 2 (by simp only [List.getElem?_toArray, List.getElem?_cons_succ, List.getElem?_cons_zero]; rfl) (by kernel_rfl) (by kernel_rfl) (by kernel_rfl) (by exact fun _ _ _ h => h) (by first | (refine Or.inl ⟨by rfl, ?_⟩; intro W hW; go_simp; try with_reducible rfl) | exact Or.inr ⟨by rfl, rfl⟩) ?_; try simp only [Act.put, List.setIfInBounds_toArray, List.set_cons_zero, List.set_cons_succ])
        (refine takeE Ext.tr 3 (by simp only [List.getElem?_toArray, List.getElem?_cons_succ, List.getElem?_cons_zero]; rfl) (by kernel_rfl) (by kernel_rfl) (by kernel_rfl) (by exact fun _ _ _ h => h) (by first | (refine Or.inl ⟨by rfl, ?_⟩; intro W hW; go_simp; try with_reducible rfl) | exact Or.inr ⟨by rfl, rfl⟩) ?_; try simp only [Act.put, List.setIfInBounds_toArray, List.set_cons_zero, List.set_cons_succ])
        (refine takeE Ext.tr 5 (by simp only [List.getElem?_toArray, List.getElem?_cons_succ, List.getElem?_cons_zero]; rfl) (by kernel_rfl) (by kernel_rfl) (by kernel_rfl) (by exact fun _ _ _ h => h) (by first | (refine Or.inl ⟨by rfl, ?_⟩; intro W hW; go_simp; try with_reducible rfl) | exact Or.inr ⟨by rfl, rfl⟩) ?_; try simp only [Act.put, List.setIfInBounds_toArray, List.set_cons_zero, List.set_cons_succ])
        (refine takeE Ext.tr 6 (by simp only [List.getElem?_toArray, List.getElem?_cons_succ, List.getElem?_cons_zero]; rfl) (by kernel_rfl) (by kernel_rfl) (by kernel_rfl) (by exact fun _ _ _ h => h) (by first | (refine Or.inl ⟨by rfl, ?_⟩; intro W hW; go_simp; try with_reducible rfl) | exact Or.inr ⟨by rfl, rfl⟩) ?_; try simp only [Act.put, List.setIfInBounds_toArray, List.set_cons_zero, List.set_cons_succ])
        refine wpAnyE_one (i := 4) (by kernel_rfl) (by simp only [List.getElem?_toArray, List.getElem?_cons_succ, List.getElem?_cons_zero]; rfl) (fun K hK => ?_)
        go_simp
        refine (list_any F5 p room _ wd2 HT9.out.1.1).mono ?_
        rintro e wL ⟨AL, nL, cL, rfl, hlL, hbL⟩
        clear j0 j1
        have j0 := fun W' (hW : Ext wL W') => ((HT9.out.2.1.below hbL).below hW).cell 0 rfl
        have j1 := fun W' (hW : Ext wL W') => ((HT9.out.2.1.below hbL).below hW).cell 1 rfl
        refine hK.out _ _ hbL ?_
        clear hK K
        try simp only [Act.put, List.setIfInBounds_toArray, List.set_cons_zero, List.set_cons_succ]
        refine wpAnyE_one (i := 7) (by kernel_rfl) (by simp only [List.getElem?_toArray, List.getElem?_cons_succ, List.getElem?_cons_zero]; rfl) (fun K hK => ?_)
        go_simp
        refine (same_yes AL A5 nL cL n5 c5 xs5 wL (hlL.rf HT9.out.1.2.1.1.2.2.2.2.1).1 (HT9.out.1.2.1.1.below hbL)).mono ?_
        rintro e w' ⟨rfl, q7, rfl⟩
        clear j0 j1
        have j0 := fun W' (hW : Ext (wL.drewN q7) W') => (((HT9.out.2.1.below hbL).below (Below.drewN_ wL q7)).below hW).cell 0 rfl
        have j1 := fun W' (hW : Ext (wL.drewN q7) W') => (((HT9.out.2.1.below hbL).below (Below.drewN_ wL q7)).below hW).cell 1 rfl
        refine hK.out _ _ (Below.drewN_ _ _) ?_
        clear hK K
        try simp only [Act.put, List.setIfInBounds_toArray, List.set_cons_zero, List.set_cons_succ]
        (refine takeE Ext.tr 8 (by simp only [List.getElem?_toArray, List.getElem?_cons_succ, List.getElem?_cons_zero]; rfl) (by kernel_rfl) (by kernel_rfl) (by kernel_rfl) (by exact fun _ _ _ h => h) (by first | (refine Or.inl ⟨by rfl, ?_⟩; intro W hW; go_simp; try with_reducible rfl) | exact Or.inr ⟨by rfl, rfl⟩) ?_; try simp only [Act.put, List.setIfInBounds_toArray, List.set_cons_zero, List.set_cons_succ])
        (refine takeE Ext.tr 9 (by simp only [List.getElem?_toArray, List.getElem?_cons_succ, List.getElem?_cons_zero]; rfl) (by kernel_rfl) (by kernel_rfl) (by kernel_rfl) (by exact fun _ _ _ h => h) (by first | (refine Or.inl ⟨by rfl, ?_⟩; intro W hW; go_simp; try with_reducible rfl) | exact Or.inr ⟨by rfl, rfl⟩) ?_; try simp only [Act.put, List.setIfInBounds_toArray, List.set_cons_zero, List.set_cons_succ])
        (refine takeE Ext.tr 10 (by simp only [List.getElem?_toArray, List.getElem?_cons_succ, List.getElem?_cons_zero]; rfl) (by kernel_rfl) (by kernel_rfl) (by kernel_rfl) (by exact fun _ _ _ h => h) (by first | (refine Or.inl ⟨by rfl, ?_⟩; intro W hW; go_simp; try with_reducible rfl) | exact Or.inr ⟨by rfl, rfl⟩) ?_; try simp only [Act.put, List.setIfInBounds_toArray, List.set_cons_zero, List.set_cons_succ])
        (refine takeE Ext.tr 11 (by simp only [List.getElem?_toArray, List.getElem?_cons_succ, List.getElem?_cons_zero]; rfl) (by kernel_rfl) (by kernel_rfl) (by kernel_rfl) (by exact fun _ _ _ h => h) (by first | (refine Or.inl ⟨by rfl, ?_⟩; intro W hW; go_simp; try with_reducible rfl) | exact Or.inr ⟨by rfl, rfl⟩) ?_; try simp only [Act.put, List.setIfInBounds_toArray, List.set_cons_zero, List.set_cons_succ])
        (refine takeE Ext.tr 13 (by simp only [List.getElem?_toArray, List.getElem?_cons_succ, List.getElem?_cons_zero]; rfl) (by kernel_rfl) (by kernel_rfl) (by kernel_rfl) (by exact fun _ _ _ h => h) (by first | (refine Or.inl ⟨by rfl, ?_⟩; intro W hW; go_simp; try with_reducible rfl) | exact Or.inr ⟨by rfl, rfl⟩) ?_; try simp only [Act.put, List.setIfInBounds_toArray, List.set_cons_zero, List.set_cons_succ])
        (refine takeE Ext.tr 14 (by simp only [List.getElem?_toArray, List.getElem?_cons_succ, List.getElem?_cons_zero]; rfl) (by kernel_rfl) (by kernel_rfl) (by kernel_rfl) (by exact fun _ _ _ h => h) (by first | (refine Or.inl ⟨by rfl, ?_⟩; intro W hW; go_simp; try with_reducible rfl) | exact Or.inr ⟨by rfl, rfl⟩) ?_; try simp only [Act.put, List.setIfInBounds_toArray, List.set_cons_zero, List.set_cons_succ])
        (refine takeE Ext.tr 15 (by simp only [List.getElem?_toArray, List.getElem?_cons_succ, List.getElem?_cons_zero]; rfl) (by kernel_rfl) (by kernel_rfl) (by kernel_rfl) (by exact fun _ _ _ h => h) (by first | (refine Or.inl ⟨by rfl, ?_⟩; intro W hW; go_simp; try with_reducible rfl) | exact Or.inr ⟨by rfl, rfl⟩) ?_; try simp only [Act.put, List.setIfInBounds_toArray, List.set_cons_zero, List.set_cons_succ])
        refine wpAnyE_one (i := 12) (by kernel_rfl) (by simp only [List.getElem?_toArray, List.getElem?_cons_succ, List.getElem?_cons_zero]; rfl) (fun K hK => ?_)
        go_simp
        refine (lenT (wL.drewN q7) ((HT9.out.1.below hbL).below (Below.drewN_ _ _))).mono ?_
        rintro e w' ⟨rfl, rfl⟩
        refine hK.out _ _ (Below.refl _ _) ?_
        clear hK K
        try simp only [Act.put, List.setIfInBounds_toArray, List.set_cons_zero, List.set_cons_succ]
        (refine takeE Ext.tr 16 (by simp only [List.getElem?_toArray, List.getElem?_cons_succ, List.getElem?_cons_zero]; rfl) (by kernel_rfl) (by kernel_rfl) (by kernel_rfl) (by exact fun _ _ _ h => h) (by first | (refine Or.inl ⟨by rfl, ?_⟩; intro W hW; go_simp; try with_reducible rfl) | exact Or.inr ⟨by rfl, rfl⟩) ?_; try simp only [Act.put, List.setIfInBounds_toArray, List.set_cons_zero, List.set_cons_succ])
        (refine takeE Ext.tr 17 (by simp only [List.getElem?_toArray, List.getElem?_cons_succ, List.getElem?_cons_zero]; rfl) (by kernel_rfl) (by kernel_rfl) (by kernel_rfl) (by exact fun _ _ _ h => h) (by first | (refine Or.inl ⟨by rfl, ?_⟩; intro W hW; go_simp; try with_reducible rfl) | exact Or.inr ⟨by rfl, rfl⟩) ?_; try simp only [Act.put, List.setIfInBounds_toArray, List.set_cons_zero, List.set_cons_succ])
        (refine takeE Ext.tr 18 (by simp only [List.getElem?_toArray, List.getElem?_cons_succ, List.getElem?_cons_zero]; rfl) (by kernel_rfl) (by kernel_rfl) (by kernel_rfl) (by exact fun _ _ _ h => h) (by first | (refine Or.inl ⟨by rfl, ?_⟩; intro W hW; go_simp; try with_reducible rfl) | exact Or.inr ⟨by rfl, rfl⟩) ?_; try simp only [Act.put, List.setIfInBounds_toArray, List.set_cons_zero, List.set_cons_succ])
        (refine takeE Ext.tr 19 (by simp only [List.getElem?_toArray, List.getElem?_cons_succ, List.getElem?_cons_zero]; rfl) (by kernel_rfl) (by kernel_rfl) (by kernel_rfl) (by exact fun _ _ _ h => h) (by first | (refine Or.inl ⟨by rfl, ?_⟩; intro W hW; go_simp; try with_reducible rfl) | exact Or.inr ⟨by rfl, rfl⟩) ?_; try simp only [Act.put, List.setIfInBounds_toArray, List.set_cons_zero, List.set_cons_succ])
        (refine takeE Ext.tr 21 (by simp only [List.getElem?_toArray, List.getElem?_cons_succ, List.getElem?_cons_zero]; rfl) (by kernel_rfl) (by kernel_rfl) (by kernel_rfl) (by exact fun _ _ _ h => h) (by first | (refine Or.inl ⟨by rfl, ?_⟩; intro W hW; go_simp; try with_reducible rfl) | exact Or.inr ⟨by rfl, rfl⟩) ?_; try simp only [Act.put, List.setIfInBounds_toArray, List.set_cons_zero, List.set_cons_succ])
        (refine takeE Ext.tr 23 (by simp only [List.getElem?_toArray, List.getElem?_cons_succ, List.getElem?_cons_zero]; rfl) (by kernel_rfl) (by kernel_rfl) (by kernel_rfl) (by exact fun _ _ _ h => h) (by first | (refine Or.inl ⟨by rfl, ?_⟩; intro W hW; go_simp; try with_reducible rfl) | exact Or.inr ⟨by rfl, rfl⟩) ?_; try simp only [Act.put, List.setIfInBounds_toArray, List.set_cons_zero, List.set_cons_succ])
        (refine takeE Ext.tr 22 (by simp only [List.getElem?_toArray, List.getElem?_cons_succ, List.getElem?_cons_zero]; rfl) (by kernel_rfl) (by kernel_rfl) (by kernel_rfl) (by exact fun _ _ _ h => h) (by first | (refine Or.inl ⟨by rfl, ?_⟩; intro W hW; go_simp; try with_reducible rfl) | exact Or.inr ⟨by rfl, rfl⟩) ?_; try simp only [Act.put, List.setIfInBounds_toArray, List.set_cons_zero, List.set_cons_succ])
        (refine takeE Ext.tr 24 (by simp only [List.getElem?_toArray, List.getElem?_cons_succ, List.getElem?_cons_zero]; rfl) (by kernel_rfl) (by kernel_rfl) (by kernel_rfl) (by exact fun _ _ _ h => h) (by first | (refine Or.inl ⟨by rfl, ?_⟩; intro W hW; go_simp; try with_reducible rfl) | exact Or.inr ⟨by rfl, rfl⟩) ?_; try simp only [Act.put, List.setIfInBounds_toArray, List.set_cons_zero, List.set_cons_succ])
        (refine takeE Ext.tr 25 (by simp only [List.getElem?_toArray, List.getElem?_cons_succ, List.getElem?_cons_zero]; rfl) (by kernel_rfl) (by kernel_rfl) (by kernel_rfl) (by exact fun _ _ _ h => h) (by first | (refine Or.inl ⟨by rfl, ?_⟩; intro W hW; go_simp; try with_reducible rfl) | exact Or.inr ⟨by rfl, rfl⟩) ?_; try simp only [Act.put, List.setIfInBounds_toArray, List.set_cons_zero, List.set_cons_succ])
        (refine takeE Ext.tr 26 (by simp only [List.getElem?_toArray, List.getElem?_cons_succ, List.getElem?_cons_zero]; rfl) (by kernel_rfl) (by kernel_rfl) (by kernel_rfl) (by exact fun _ _ _ h => h) (by first | (refine Or.inl ⟨by rfl, ?_⟩; intro W hW; go_simp; try with_reducible rfl) | exact Or.inr ⟨by rfl, rfl⟩) ?_; try simp only [Act.put, List.setIfInBounds_toArray, List.set_cons_zero, List.set_cons_succ])
        refine wpAnyE_one (i := 20) (by kernel_rfl) (by simp only [List.getElem?_toArray, List.getElem?_cons_succ, List.getElem?_cons_zero]; rfl) (fun K hK => ?_)
        go_simp
        refine (roomT (wL.drewN q7) ((HT9.out.1.below hbL).below (Below.drewN_ _ _))).mono ?_
        rintro e w' ⟨rfl, q20, rfl⟩
        have HI10 := Lib.hid ((HT9.out.below hbL).below (Below.drewN_ wL (q7 + q20)))
        refine hK.out _ _ (Below.drewN_ _ _) ?_
        clear hK K
        try simp only [Act.put, List.setIfInBounds_toArray, List.set_cons_zero, List.set_cons_succ]
        (refine takeE Ext.tr 27 (by simp only [List.getElem?_toArray, List.getElem?_cons_succ, List.getElem?_cons_zero]; rfl) (by kernel_rfl) (by kernel_rfl) (by kernel_rfl) (by exact fun _ _ _ h => h) (by first | (refine Or.inl ⟨by rfl, ?_⟩; intro W hW; go_simp; try with_reducible rfl) | exact Or.inr ⟨by rfl, rfl⟩) ?_; try simp only [Act.put, List.setIfInBounds_toArray, List.set_cons_zero, List.set_cons_succ])
        (refine takeE Ext.tr 28 (by simp only [List.getElem?_toArray, List.getElem?_cons_succ, List.getElem?_cons_zero]; rfl) (by kernel_rfl) (by kernel_rfl) (by kernel_rfl) (by exact fun _ _ _ h => h) (by first | (refine Or.inl ⟨by rfl, ?_⟩; intro W hW; go_simp; try with_reducible rfl) | exact Or.inr ⟨by rfl, rfl⟩) ?_; try simp only [Act.put, List.setIfInBounds_toArray, List.set_cons_zero, List.set_cons_succ])
        refine wpAnyE_done (by kernel_rfl) ?_ _
        clear j0 j1 HWR
        go_wp2
        go_roundw
        case rel => exact ⟨k + 1, F5, xs5, A5, n5, c5, by omega, by omega, by go_num, HI10.out⟩
        case measure => simp [intOf]; omega
      ·
        go_simp
        skip
        refine hK.out _ _ (St.alloc _ _ _) ?_
        clear hK K
        try simp only [Act.put, List.setIfInBounds_toArray, List.set_cons_zero, List.set_cons_succ]
        refine wpAnyE_one (i := 6) (by kernel_rfl) (by simp only [List.getElem?_toArray, List.getElem?_cons_succ, List.getElem?_cons_zero]; rfl) (fun K hK => ?_)
        go_simp
        obtain ⟨wc, hwc, hbc⟩ : ∃ wc, wc = wd.alloc (.cells #[.slice none 0 0, .int .i64 0] 29) ∧ Below wd.heap.size wd wc := ⟨_, rfl, (Below.refl _ _).alloc (Nat.le_refl _) _⟩
        have hwz : Bk wc 29 wd.heap.size [.slice none 0 0, .int .i64 0] := by rw [hwc]; exact Bk.new wd 29 [.slice none 0 0, .int .i64 0]
        have hnFz : ¬ F wd.heap.size := fun hf => absurd (Rg.bd HT.out.1 _ hf) (by omega)
        have hnAz : ¬ BlkN A n wd.heap.size := fun hf => absurd (HT.out.2.1.2 _ hf) (by omega)
        rw [← hwc]
        refine (step_any F p room xs A n c dv B m d on wc (HT.out.below hbc) hdv ls (hlsd.below hbc) hBF ho).mono ?_
        rintro e w5 ⟨F5, xs5, A5, n5, c5, rfl, ht5, hg5, hst5, hgA5⟩
        have hz5 := hwz.st hst5 hnFz
        have z0 := hz5.cell 0 rfl
        have z1 := hz5.cell 1 rfl
        have fz0 := hz5.free 0
        have fz1 := hz5.free 1
        refine hK.out _ _ (hwc ▸ hst5.mono fun k _ hk => hFa k hk) ?_
        clear hK K
        try simp only [Act.put, List.setIfInBounds_toArray, List.set_cons_zero, List.set_cons_succ]
        (refine takeE (St.tr Fo) 7 (by simp only [List.getElem?_toArray, List.getElem?_cons_succ, List.getElem?_cons_zero]; rfl) (by kernel_rfl) (by kernel_rfl) (by kernel_rfl) (by exact fun _ _ _ h => h) (by first | (refine Or.inl ⟨by rfl, ?_⟩; intro W hW; go_simp; try with_reducible rfl) | exact Or.inr ⟨by rfl, rfl⟩) ?_; try simp only [Act.put, List.setIfInBounds_toArray, List.set_cons_zero, List.set_cons_succ])
        (refine takeE (St.tr Fo) 8 (by simp only [List.getElem?_toArray, List.getElem?_cons_succ, List.getElem?_cons_zero]; rfl) (by kernel_rfl) (by kernel_rfl) (by kernel_rfl) (by exact fun _ _ _ h => h) (by first | (refine Or.inl ⟨by rfl, ?_⟩; intro W hW; go_simp; try with_reducible rfl) | exact Or.inr ⟨by rfl, rfl⟩) ?_; try simp only [Act.put, List.setIfInBounds_toArray, List.set_cons_zero, List.set_cons_succ])
        (refine takeE (St.tr Fo) 9 (by simp only [List.getElem?_toArray, List.getElem?_cons_succ, List.getElem?_cons_zero]; rfl) (by kernel_rfl) (by kernel_rfl) (by kernel_rfl) (by exact fun _ _ _ h => h) (by first | (refine Or.inl ⟨by rfl, ?_⟩; intro W hW; go_simp; try with_reducible rfl) | exact Or.inr ⟨by rfl, rfl⟩) ?_; try simp only [Act.put, List.setIfInBounds_toArray, List.set_cons_zero, List.set_cons_succ])
        refine wpAnyE_one (i := 11) (by kernel_rfl) (by simp only [List.getElem?_toArray, List.getElem?_cons_succ, List.getElem?_cons_zero]; rfl) (fun K hK => ?_)
        go_simp
        skip
        refine hK.out _ _ (St.set2 (hFb _ (Nat.le_refl _)) _ _ _) ?_
        clear hK K
        try simp only [Act.put, List.setIfInBounds_toArray, List.set_cons_zero, List.set_cons_succ]
        (refine takeE (St.tr Fo) 12 (by simp only [List.getElem?_toArray, List.getElem?_cons_succ, List.getElem?_cons_zero]; rfl) (by kernel_rfl) (by kernel_rfl) (by kernel_rfl) (by exact fun _ _ _ h => h) (by first | (refine Or.inl ⟨by rfl, ?_⟩; intro W hW; go_simp; try with_reducible rfl) | exact Or.inr ⟨by rfl, rfl⟩) ?_; try simp only [Act.put, List.setIfInBounds_toArray, List.set_cons_zero, List.set_cons_succ])
        refine wpAnyE_done (by kernel_rfl) ?_ _
        first
        | (have hJ : RunJ w p b room w5.heap.size F5 xs5 A5 n5 c5 (w5.alloc (.cells #[.slice A5 n5 c5, .int .i64 room] 29)) := runJ_mk HI2.out (Below.refl _ _) ht5 hg5 hst5 hgA5 (St.alloc _ _ _) (Bk.new w5 29 [.slice A5 n5 c5, .int .i64 room]) hst5.size (fun hf => absurd (Rg.bd ht5.1 _ hf) (by omega)) (fun hf => absurd (ht5.2.1.2 _ hf) (by omega))
           generalize w5.alloc (.cells #[.slice A5 n5 c5, .int .i64 room] 29) = W8 at hJ ⊢
           generalize w5.heap.size = bz at hJ ⊢)
        | (have hJ : RunJ w p b room wd.heap.size F5 xs5 A5 n5 c5 ((w5.setCell ⟨wd.heap.size, 0, none⟩ (.slice A5 n5 c5)).setCell ⟨wd.heap.size, 1, none⟩ (.int .i64 room)) := runJ_mk HI2.out hbc ht5 hg5 hst5 hgA5 (St.set2 (F := (· = wd.heap.size)) rfl _ _ _) ((hz5.set 0 _).set 1 _) (Nat.le_refl _) (hg5.not hwz.lt hnFz) (hgA5.not hwz.lt hnAz)
           generalize (w5.setCell ⟨wd.heap.size, 0, none⟩ (.slice A5 n5 c5)).setCell ⟨wd.heap.size, 1, none⟩ (.int .i64 room) = W8 at hJ ⊢
           clear z0 z1 fz0 fz1 hz5
           generalize wd.heap.size = bz at hJ ⊢)
        have HJ := Lib.hid hJ
        obtain ⟨ht8, z8, ⟨v0, v1, b8⟩, hJ'⟩ := hJ
        have z0 := z8.cell 0 rfl
        have z1 := z8.cell 1 rfl
        have y0 := b8.cell 0 rfl
        have y1 := b8.cell 1 rfl
        have fy0 := b8.free 0
        have fy1 := b8.free 1
        clear hJ' ht8 b8 z8 k0 k1 k2 k3 k4 x0' x1' x2' hgA5 hst5 hg5 ht5 hq hwd hlsd hki hk0 hFa hFb hFn hFq hBF hnFg hgd hFg nFb
        go_wp2
        clear z0 z1 y0 y1 fy0 fy1
        have HI9 := Lib.hid HJ.out.stored
        generalize (W8.setCell ⟨b, 0, none⟩ (.slice A5 n5 c5)).setCell ⟨b, 1, none⟩ (.int .i64 room) = W9 at HI9 ⊢
        have hln := HI9.out.1.len
        have HWR : IntKind.i64.wrap ((room : Int) - n5) = (room : Int) - n5 := by rw [IntKind.wrap_i64]; omega
        refine wp_region_E Ext (by kernel_rfl) (fun wd2 hbd hsz => ?_)
        have hI9 := HI9.out.below hbd
        have hq9 := hI9.2.1
        have j0 := fun W' (hW : Ext wd2 W') => (hq9.below hW).cell 0 rfl
        have j1 := fun W' (hW : Ext wd2 W') => (hq9.below hW).cell 1 rfl
        have HT9 := Lib.hid hI9
        clear hI9
        (refine takeE Ext.tr 0 (by simp only [List.getElem?_toArray, List.getElem?_cons_succ, List.getElem?_cons_zero]; rfl) (by kernel_rfl) (by kernel_rfl) (by kernel_rfl) (by exact fun _ _ _ h => h) (by first | (refine Or.inl ⟨by rfl, ?_⟩; intro W hW; go_simp; try with_reducible rfl) | exact Or.inr ⟨by rfl, rfl⟩) ?_; try simp only [Act.put, List.setIfInBounds_toArray, List.set_cons_zero, List.set_cons_succ])
        (refine takeE Ext.tr 1 (by simp only [List.getElem?_toArray, List.getElem?_cons_succ, List.getElem?_cons_zero]; rfl) (by kernel_rfl) (by kernel_rfl) (by kernel_rfl) (by exact fun _ _ _ h => h) (by first | (refine Or.inl ⟨by rfl, ?_⟩; intro W hW; go_simp; try with_reducible rfl) | exact Or.inr ⟨by rfl, rfl⟩) ?_; try simp only [Act.put, List.setIfInBounds_toArray, List.set_cons_zero, List.set_cons_succ])
        (refine takeE Ext.tr 2 (by simp only [List.getElem?_toArray, List.getElem?_cons_succ, List.getElem?_cons_zero]; rfl) (by kernel_rfl) (by kernel_rfl) (by kernel_rfl) (by exact fun _ _ _ h => h) (by first | (refine Or.inl ⟨by rfl, ?_⟩; intro W hW; go_simp; try with_reducible rfl) | exact Or.inr ⟨by rfl, rfl⟩) ?_; try simp only [Act.put, List.setIfInBounds_toArray, List.set_cons_zero, List.set_cons_succ])
        (refine takeE Ext.tr 3 (by simp only [List.getElem?_toArray, List.getElem?_cons_succ, List.getElem?_cons_zero]; rfl) (by kernel_rfl) (by kernel_rfl) (by kernel_rfl) (by exact fun _ _ _ h => h) (by first | (refine Or.inl ⟨by rfl, ?_⟩; intro W hW; go_simp; try with_reducible rfl) | exact Or.inr ⟨by rfl, rfl⟩) ?_; try simp only [Act.put, List.setIfInBounds_toArray, List.set_cons_zero, List.set_cons_succ])
        (refine takeE Ext.tr 5 (by simp only [List.getElem?_toArray, List.getElem?_cons_succ, List.getElem?_cons_zero]; rfl) (by kernel_rfl) (by kernel_rfl) (by kernel_rfl) (by exact fun _ _ _ h => h) (by first | (refine Or.inl ⟨by rfl, ?_⟩; intro W hW; go_simp; try with_reducible rfl) | exact Or.inr ⟨by rfl, rfl⟩) ?_; try simp only [Act.put, List.setIfInBounds_toArray, List.set_cons_zero, List.set_cons_succ])
        (refine takeE Ext.tr 6 (by simp only [List.getElem?_toArray, List.getElem?_cons_succ, List.getElem?_cons_zero]; rfl) (by kernel_rfl) (by kernel_rfl) (by kernel_rfl) (by exact fun _ _ _ h => h) (by first | (refine Or.inl ⟨by rfl, ?_⟩; intro W hW; go_simp; try with_reducible rfl) | exact Or.inr ⟨by rfl, rfl⟩) ?_; try simp only [Act.put, List.setIfInBounds_toArray, List.set_cons_zero, List.set_cons_succ])
        refine wpAnyE_one (i := 4) (by kernel_rfl) (by simp only [List.getElem?_toArray, List.getElem?_cons_succ, List.getElem?_cons_zero]; rfl) (fun K hK => ?_)
        go_simp
        refine (list_any F5 p room _ wd2 HT9.out.1.1).mono ?_
        rintro e wL ⟨AL, nL, cL, rfl, hlL, hbL⟩
        clear j0 j1
        have j0 := fun W' (hW : Ext wL W') => ((HT9.out.2.1.below hbL).below hW).cell 0 rfl
        have j1 := fun W' (hW : Ext wL W') => ((HT9.out.2.1.below hbL).below hW).cell 1 rfl
        refine hK.out _ _ hbL ?_
        clear hK K
        try simp only [Act.put, List.setIfInBounds_toArray, List.set_cons_zero, List.set_cons_succ]
        refine wpAnyE_one (i := 7) (by kernel_rfl) (by simp only [List.getElem?_toArray, List.getElem?_cons_succ, List.getElem?_cons_zero]; rfl) (fun K hK => ?_)
        go_simp
        refine (same_yes AL A5 nL cL n5 c5 xs5 wL (hlL.rf HT9.out.1.2.1.1.2.2.2.2.1).1 (HT9.out.1.2.1.1.below hbL)).mono ?_
        rintro e w' ⟨rfl, q7, rfl⟩
        clear j0 j1
        have j0 := fun W' (hW : Ext (wL.drewN q7) W') => (((HT9.out.2.1.below hbL).below (Below.drewN_ wL q7)).below hW).cell 0 rfl
        have j1 := fun W' (hW : Ext (wL.drewN q7) W') => (((HT9.out.2.1.below hbL).below (Below.drewN_ wL q7)).below hW).cell 1 rfl
        refine hK.out _ _ (Below.drewN_ _ _) ?_
        clear hK K
        try simp only [Act.put, List.setIfInBounds_toArray, List.set_cons_zero, List.set_cons_succ]
        (refine takeE Ext.tr 8 (by simp only [List.getElem?_toArray, List.getElem?_cons_succ, List.getElem?_cons_zero]; rfl) (by kernel_rfl) (by kernel_rfl) (by kernel_rfl) (by exact fun _ _ _ h => h) (by first | (refine Or.inl ⟨by rfl, ?_⟩; intro W hW; go_simp; try with_reducible rfl) | exact Or.inr ⟨by rfl, rfl⟩) ?_; try simp only [Act.put, List.setIfInBounds_toArray, List.set_cons_zero, List.set_cons_succ])
        (refine takeE Ext.tr 9 (by simp only [List.getElem?_toArray, List.getElem?_cons_succ, List.getElem?_cons_zero]; rfl) (by kernel_rfl) (by kernel_rfl) (by kernel_rfl) (by exact fun _ _ _ h => h) (by first | (refine Or.inl ⟨by rfl, ?_⟩; intro W hW; go_simp; try with_reducible rfl) | exact Or.inr ⟨by rfl, rfl⟩) ?_; try simp only [Act.put, List.setIfInBounds_toArray, List.set_cons_zero, List.set_cons_succ])
        (refine takeE Ext.tr 10 (by simp only [List.getElem?_toArray, List.getElem?_cons_succ, List.getElem?_cons_zero]; rfl) (by kernel_rfl) (by kernel_rfl) (by kernel_rfl) (by exact fun _ _ _ h => h) (by first | (refine Or.inl ⟨by rfl, ?_⟩; intro W hW; go_simp; try with_reducible rfl) | exact Or.inr ⟨by rfl, rfl⟩) ?_; try simp only [Act.put, List.setIfInBounds_toArray, List.set_cons_zero, List.set_cons_succ])
        (refine takeE Ext.tr 11 (by simp only [List.getElem?_toArray, List.getElem?_cons_succ, List.getElem?_cons_zero]; rfl) (by kernel_rfl) (by kernel_rfl) (by kernel_rfl) (by exact fun _ _ _ h => h) (by first | (refine Or.inl ⟨by rfl, ?_⟩; intro W hW; go_simp; try with_reducible rfl) | exact Or.inr ⟨by rfl, rfl⟩) ?_; try simp only [Act.put, List.setIfInBounds_toArray, List.set_cons_zero, List.set_cons_succ])
        (refine takeE Ext.tr 13 (by simp only [List.getElem?_toArray, List.getElem?_cons_succ, List.getElem?_cons_zero]; rfl) (by kernel_rfl) (by kernel_rfl) (by kernel_rfl) (by exact fun _ _ _ h => h) (by first | (refine Or.inl ⟨by rfl, ?_⟩; intro W hW; go_simp; try with_reducible rfl) | exact Or.inr ⟨by rfl, rfl⟩) ?_; try simp only [Act.put, List.setIfInBounds_toArray, List.set_cons_zero, List.set_cons_succ])
        (refine takeE Ext.tr 14 (by simp only [List.getElem?_toArray, List.getElem?_cons_succ, List.getElem?_cons_zero]; rfl) (by kernel_rfl) (by kernel_rfl) (by kernel_rfl) (by exact fun _ _ _ h => h) (by first | (refine Or.inl ⟨by rfl, ?_⟩; intro W hW; go_simp; try with_reducible rfl) | exact Or.inr ⟨by rfl, rfl⟩) ?_; try simp only [Act.put, List.setIfInBounds_toArray, List.set_cons_zero, List.set_cons_succ])
        (refine takeE Ext.tr 15 (by simp only [List.getElem?_toArray, List.getElem?_cons_succ, List.getElem?_cons_zero]; rfl) (by kernel_rfl) (by kernel_rfl) (by kernel_rfl) (by exact fun _ _ _ h => h) (by first | (refine Or.inl ⟨by rfl, ?_⟩; intro W hW; go_simp; try with_reducible rfl) | exact Or.inr ⟨by rfl, rfl⟩) ?_; try simp only [Act.put, List.setIfInBounds_toArray, List.set_cons_zero, List.set_cons_succ])
        refine wpAnyE_one (i := 12) (by kernel_rfl) (by simp only [List.getElem?_toArray, List.getElem?_cons_succ, List.getElem?_cons_zero]; rfl) (fun K hK => ?_)
        go_simp
        refine (lenT (wL.drewN q7) ((HT9.out.1.below hbL).below (Below.drewN_ _ _))).mono ?_
        rintro e w' ⟨rfl, rfl⟩
        refine hK.out _ _ (Below.refl _ _) ?_
        clear hK K
        try simp only [Act.put, List.setIfInBounds_toArray, List.set_cons_zero, List.set_cons_succ]
        (refine takeE Ext.tr 16 (by simp only [List.getElem?_toArray, List.getElem?_cons_succ, List.getElem?_cons_zero]; rfl) (by kernel_rfl) (by kernel_rfl) (by kernel_rfl) (by exact fun _ _ _ h => h) (by first | (refine Or.inl ⟨by rfl, ?_⟩; intro W hW; go_simp; try with_reducible rfl) | exact Or.inr ⟨by rfl, rfl⟩) ?_; try simp only [Act.put, List.setIfInBounds_toArray, List.set_cons_zero, List.set_cons_succ])
        (refine takeE Ext.tr 17 (by simp only [List.getElem?_toArray, List.getElem?_cons_succ, List.getElem?_cons_zero]; rfl) (by kernel_rfl) (by kernel_rfl) (by kernel_rfl) (by exact fun _ _ _ h => h) (by first | (refine Or.inl ⟨by rfl, ?_⟩; intro W hW; go_simp; try with_reducible rfl) | exact Or.inr ⟨by rfl, rfl⟩) ?_; try simp only [Act.put, List.setIfInBounds_toArray, List.set_cons_zero, List.set_cons_succ])
        (refine takeE Ext.tr 18 (by simp only [List.getElem?_toArray, List.getElem?_cons_succ, List.getElem?_cons_zero]; rfl) (by kernel_rfl) (by kernel_rfl) (by kernel_rfl) (by exact fun _ _ _ h => h) (by first | (refine Or.inl ⟨by rfl, ?_⟩; intro W hW; go_simp; try with_reducible rfl) | exact Or.inr ⟨by rfl, rfl⟩) ?_; try simp only [Act.put, List.setIfInBounds_toArray, List.set_cons_zero, List.set_cons_succ])
        (refine takeE Ext.tr 19 (by simp only [List.getElem?_toArray, List.getElem?_cons_succ, List.getElem?_cons_zero]; rfl) (by kernel_rfl) (by kernel_rfl) (by kernel_rfl) (by exact fun _ _ _ h => h) (by first | (refine Or.inl ⟨by rfl, ?_⟩; intro W hW; go_simp; try with_reducible rfl) | exact Or.inr ⟨by rfl, rfl⟩) ?_; try simp only [Act.put, List.setIfInBounds_toArray, List.set_cons_zero, List.set_cons_succ])
        (refine takeE Ext.tr 21 (by simp only [List.getElem?_toArray, List.getElem?_cons_succ, List.getElem?_cons_zero]; rfl) (by kernel_rfl) (by kernel_rfl) (by kernel_rfl) (by exact fun _ _ _ h => h) (by first | (refine Or.inl ⟨by rfl, ?_⟩; intro W hW; go_simp; try with_reducible rfl) | exact Or.inr ⟨by rfl, rfl⟩) ?_; try simp only [Act.put, List.setIfInBounds_toArray, List.set_cons_zero, List.set_cons_succ])
        (refine takeE Ext.tr 23 (by simp only [List.getElem?_toArray, List.getElem?_cons_succ, List.getElem?_cons_zero]; rfl) (by kernel_rfl) (by kernel_rfl) (by kernel_rfl) (by exact fun _ _ _ h => h) (by first | (refine Or.inl ⟨by rfl, ?_⟩; intro W hW; go_simp; try with_reducible rfl) | exact Or.inr ⟨by rfl, rfl⟩) ?_; try simp only [Act.put, List.setIfInBounds_toArray, List.set_cons_zero, List.set_cons_succ])
        (refine takeE Ext.tr 22 (by simp only [List.getElem?_toArray, List.getElem?_cons_succ, List.getElem?_cons_zero]; rfl) (by kernel_rfl) (by kernel_rfl) (by kernel_rfl) (by exact fun _ _ _ h => h) (by first | (refine Or.inl ⟨by rfl, ?_⟩; intro W hW; go_simp; try with_reducible rfl) | exact Or.inr ⟨by rfl, rfl⟩) ?_; try simp only [Act.put, List.setIfInBounds_toArray, List.set_cons_zero, List.set_cons_succ])
        (refine takeE Ext.tr 24 (by simp only [List.getElem?_toArray, List.getElem?_cons_succ, List.getElem?_cons_zero]; rfl) (by kernel_rfl) (by kernel_rfl) (by kernel_rfl) (by exact fun _ _ _ h => h) (by first | (refine Or.inl ⟨by rfl, ?_⟩; intro W hW; go_simp; try with_reducible rfl) | exact Or.inr ⟨by rfl, rfl⟩) ?_; try simp only [Act.put, List.setIfInBounds_toArray, List.set_cons_zero, List.set_cons_succ])
        (refine takeE Ext.tr 25 (by simp only [List.getElem?_toArray, List.getElem?_cons_succ, List.getElem?_cons_zero]; rfl) (by kernel_rfl) (by kernel_rfl) (by kernel_rfl) (by exact fun _ _ _ h => h) (by first | (refine Or.inl ⟨by rfl, ?_⟩; intro W hW; go_simp; try with_reducible rfl) | exact Or.inr ⟨by rfl, rfl⟩) ?_; try simp only [Act.put, List.setIfInBounds_toArray, List.set_cons_zero, List.set_cons_succ])
        (refine takeE Ext.tr 26 (by simp only [List.getElem?_toArray, List.getElem?_cons_succ, List.getElem?_cons_zero]; rfl) (by kernel_rfl) (by kernel_rfl) (by kernel_rfl) (by exact fun _ _ _ h => h) (by first | (refine Or.inl ⟨by rfl, ?_⟩; intro W hW; go_simp; try with_reducible rfl) | exact Or.inr ⟨by rfl, rfl⟩) ?_; try simp only [Act.put, List.setIfInBounds_toArray, List.set_cons_zero, List.set_cons_succ])
        refine wpAnyE_one (i := 20) (by kernel_rfl) (by simp only [List.getElem?_toArray, List.getElem?_cons_succ, List.getElem?_cons_zero]; rfl) (fun K hK => ?_)
        go_simp
        refine (roomT (wL.drewN q7) ((HT9.out.1.below hbL).below (Below.drewN_ _ _))).mono ?_
        rintro e w' ⟨rfl, q20, rfl⟩
        have HI10 := Lib.hid ((HT9.out.below hbL).below (Below.drewN_ wL (q7 + q20)))
        refine hK.out _ _ (Below.drewN_ _ _) ?_
        clear hK K
        try simp only [Act.put, List.setIfInBounds_toArray, List.set_cons_zero, List.set_cons_succ]
        (refine takeE Ext.tr 27 (by simp only [List.getElem?_toArray, List.getElem?_cons_succ, List.getElem?_cons_zero]; rfl) (by kernel_rfl) (by kernel_rfl) (by kernel_rfl) (by exact fun _ _ _ h => h) (by first | (refine Or.inl ⟨by rfl, ?_⟩; intro W hW; go_simp; try with_reducible rfl) | exact Or.inr ⟨by rfl, rfl⟩) ?_; try simp only [Act.put, List.setIfInBounds_toArray, List.set_cons_zero, List.set_cons_succ])
        (refine takeE Ext.tr 28 (by simp only [List.getElem?_toArray, List.getElem?_cons_succ, List.getElem?_cons_zero]; rfl) (by kernel_rfl) (by kernel_rfl) (by kernel_rfl) (by exact fun _ _ _ h => h) (by first | (refine Or.inl ⟨by rfl, ?_⟩; intro W hW; go_simp; try with_reducible rfl) | exact Or.inr ⟨by rfl, rfl⟩) ?_; try simp only [Act.put, List.setIfInBounds_toArray, List.set_cons_zero, List.set_cons_succ])
        refine wpAnyE_done (by kernel_rfl) ?_ _
        clear j0 j1 HWR
        go_wp2
        go_roundw
        case rel => exact ⟨k + 1, F5, xs5, A5, n5, c5, by omega, by omega, by go_num, HI10.out⟩
        case measure => simp [intOf]; omega
    · have hd : k < n0 ∧ (50 : Int) ≤ k ∨ n0 ≤ k := by omega
      rcases hd with ⟨hlt, h50⟩ | hge
      all_goals
        go_wp2
        go_ret
        first | exact ⟨rfl, hI.2.2.2.2.1⟩ | exact ⟨rfl, by rw [← HP.out]; exact hI.2.2.2.2.1⟩ | exact ⟨rfl, HP.out ▸ hI.2.2.2.2.1⟩
theorem lawRuns (room : Int) (s : Sl OpT.den) (w : World) (h : (Ty.sl OpT).reads w s) :
    Calls Try.prog 3 #[.int .i64 room, .slice s.A s.n s.c] w fun e w' => e = .returned (.bool true) ∧ Below w.heap.size w w' := by
  by_cases hb : badRoom room = true
  · exact runs_bad room s.A s.n s.c w hb (Nat.le_trans h.2.1 h.2.2.1)
  · have h1 : 1 ≤ room ∧ room ≤ 1024 := by simp [badRoom] at hb; omega
    obtain ⟨r, rfl⟩ := Int.eq_ofNat_of_zero_le (show 0 ≤ room by omega)
    exact runs_ok r s w h (by omega) (by omega)
end Go.Proofs.Ytgeihelpggncgaa
