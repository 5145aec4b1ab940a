/- The reference of scores: what it is, and what it is asked. -/
import Derived.Test.YtjoagkekbeogoaaS8
set_option linter.unusedSimpArgs false
set_option linter.unusedVariables false
namespace Go.Proofs.Ytjoagkekbeogoaa
open Go.RowKit Go.Shelf

theorem rowR : Row Try.prog 29 2 := ⟨⟨_, rfl, rfl⟩, by kernel_rfl⟩
theorem rowP : Row Try.prog 63 4 := ⟨⟨_, rfl, rfl⟩, by kernel_rfl⟩
theorem eltP : EltT Try.prog 27 63 4 32 := ⟨rfl, by kernel_rfl, by decide, by decide⟩
/-- The reference's cells: a path after the other. -/
def Sc.row (S : Sc) (j : Nat) : Int := if j % 4 = 0 then S.r (j / 4) else S.c (j / 4 * 3 + (j % 4 - 1))
def Rp (w : World) (g : Nat) (S : Sc) : Prop := ∃ tl, Bk w 63 g (tabV (S.n * 4) S.row ++ tl)
/-- The cells of the reference's score, whose paths lie in block g. -/
def rvL (S : Sc) (g c : Nat) : List Value := [.int .i64 S.rest, .slice (some ⟨g, 0, none⟩) S.n c]
theorem rvL_one (S : Sc) (g c : Nat) : ∀ v ∈ rvL S g c, v.oneCell' = true := by
  intro v hv
  simp only [rvL, List.mem_cons, List.not_mem_nil, or_false] at hv
  rcases hv with rfl | rfl <;> rfl
theorem lay_rv (a b : Value) (S : Sc) (g c : Nat) : lay [a, b] 0 (rvL S g c) = rvL S g c := rfl
section
variable {w w' : World} {g c : Nat} {S : Sc} {b : Int}
theorem Rp.below (h : Rp w g S) (hb : Below w.heap.size w w') : Rp w' g S := by
  obtain ⟨tl, h⟩ := h
  exact ⟨tl, h.below hb⟩
theorem Rp.st (h : Rp w g S) {F : Nat → Prop} (hs : St F w w') (hg : ¬ F g) : Rp w' g S := by
  obtain ⟨tl, h⟩ := h
  exact ⟨tl, h.st hs hg⟩
theorem Rp.lt (h : Rp w g S) : g < w.heap.size := by
  obtain ⟨tl, h⟩ := h
  exact h.lt
theorem Rp.alloc (h : Rp w g S) (o : Obj) : Rp (w.alloc o) g S := h.below ((Below.refl _ _).alloc (Nat.le_refl _) o)
theorem Rp.far (h : Rp w g S) {p : Addr} (hp : g ≠ p.block) (x : Value) : Rp (w.setCell p x) g S := by
  obtain ⟨tl, h⟩ := h
  exact ⟨tl, h.far hp x⟩
theorem row_r (S : Sc) (i : Nat) : S.row (i * 4) = S.r i := by
  unfold Sc.row
  rw [if_pos (by omega)]
  congr 1; omega
theorem row_c (S : Sc) (i k : Nat) (hk : k < 3) : S.row (i * 4 + 1 + k) = S.c (i * 3 + k) := by
  unfold Sc.row
  rw [if_neg (by omega)]
  congr 1; omega
theorem Rp.rt (h : Rp w g S) {i : Nat} (hi : i < S.n) : w.cell? ⟨g, i * 4, none⟩ = some (.int .i64 (S.r i)) := by
  obtain ⟨tl, h⟩ := h
  refine h.cell _ ?_
  rw [tabV_get_app _ _ _ (by omega), row_r]
theorem Rp.ct (h : Rp w g S) {i k : Nat} (hi : i < S.n) (hk : k < 3) : w.cell? ⟨g, i * 4 + 1 + k, none⟩ = some (.int .i64 (S.c (i * 3 + k))) := by
  obtain ⟨tl, h⟩ := h
  refine h.cell _ ?_
  rw [tabV_get_app _ _ _ (by omega), row_c _ _ _ hk]
theorem row_cs (S : Sc) (tl : List Value) {i : Nat} (hi : i < S.n) : ((tabV (S.n * 4) S.row ++ tl).drop (i * 4 + 1)).take (tabV 3 (fun k => S.c (i * 3 + k))).length = tabV 3 (fun k => S.c (i * 3 + k)) :=
  tabV_row_app _ _ _ _ _ (by omega) fun k hk => row_c S i k hk
theorem new_row (n : Nat) (rest : Int) : tabV ((Sc.new n rest).n * 4) (Sc.new n rest).row = tabV (n * 4) (fun _ => 0) := by
  refine tabV_congr fun i hi => ?_
  unfold Sc.row Sc.new
  split <;> rfl
theorem rnew_any (n rest : Int) (w : World) (h1 : 1 ≤ n) (h8 : n ≤ 8) (h0 : 0 ≤ rest) (hr : rest ≤ 1048576) :
    Calls Try.prog 7 #[.int .i64 n, .int .i64 rest] w fun e w' => ∃ g c, e = .returned (.tuple #[.agg (rvL (Sc.new n.toNat rest) g c).toArray, .int .i64 0]) ∧ Rp w' g (Sc.new n.toNat rest) ∧ w.heap.size ≤ g ∧ Below w.heap.size w w' := by
  obtain ⟨m, rfl⟩ := Int.eq_ofNat_of_zero_le (show 0 ≤ n by omega)
  rw [Int.toNat_natCast]
  have hz := Bk.new w 29 [.int .i64 0, .slice none 0 0]
  have hmk := fun W => eltP.run_make m (by omega) W
  have hz2 := hz.alloc (.cells (tabV (m * 4) (fun _ => 0)).toArray 63)
  have hnb := Bk.new (w.alloc (.cells #[.int .i64 0, .slice none 0 0] 29)) 63 (tabV (m * 4) (fun _ => 0))
  rw [World.size_alloc] at hnb
  have HNB := Lib.hid hnb
  clear hnb
  go_enter Try.func7, Try.ntmps7
  go_wp2_with (refine at_store 29 (.tmp 4) (.tmp 24) (by rfl) ?_; refine wpList_store_bk rowR rfl (.tmp 4) (.tmp 24) rfl w.heap.size 0 rfl hz2 (rvL (Sc.new m rest) (w.heap.size + 1) m) rfl rfl (by decide) (rvL_one _ _ _) ?_; rintro w5 hr5 hw5)
  rw [lay_rv] at hr5
  refine bodyPost_ret (results_cell_tmp rfl rfl (rowR.load hr5 0 (cs := rvL (Sc.new m rest) (w.heap.size + 1) m) rfl rfl)) rfl ⟨w.heap.size + 1, m, rfl, ⟨[], ?_⟩, by omega, (((Below.refl _ w).alloc (Nat.le_refl _) _).alloc (by simp) _).trans (hw5.below (Nat.le_refl _) (by simp; omega))⟩
  rw [new_row, List.append_nil]
  exact HNB.out.wr hw5 (by omega)
theorem rnew_bad (n rest : Int) (w : World) (h : n < 1 ∨ 8 < n ∨ rest < 0 ∨ 1048576 < rest) :
    Calls Try.prog 7 #[.int .i64 n, .int .i64 rest] w fun e w' => e = .returned (.tuple #[.agg #[.int .i64 0, .slice none 0 0], .int .i64 70]) ∧ Below w.heap.size w w' := by
  have hz := Bk.new w 29 [.int .i64 0, .slice none 0 0]
  rcases (by omega : n < 1 ∨ 1 ≤ n ∧ 8 < n ∨ 1 ≤ n ∧ n ≤ 8 ∧ rest < 0 ∨ 1 ≤ n ∧ n ≤ 8 ∧ 0 ≤ rest ∧ 1048576 < rest) with h0 | ⟨h0, h1⟩ | ⟨h0, h1, h2⟩ | ⟨h0, h1, h2, h3⟩
  all_goals
    clear h
    go_enter Try.func7, Try.ntmps7
    go_wp2_with (refine at_store 29 (.tmp 4) (.tmp 20) (by rfl) ?_; refine wpList_store_bk rowR rfl (.tmp 4) (.tmp 20) rfl w.heap.size 0 rfl hz [.int .i64 0, .slice none 0 0] rfl rfl (by decide) (by intro v hv; simp at hv; rcases hv with rfl | rfl <;> rfl) ?_; rintro w5 hr5 hw5)
    rw [lay_all _ _ rfl] at hr5
    exact bodyPost_ret (results_cell_tmp rfl rfl (rowR.load hr5 0 (cs := [.int .i64 0, .slice none 0 0]) rfl rfl)) rfl ⟨rfl, ((Below.refl _ w).alloc (Nat.le_refl _) _).trans (hw5.below (Nat.le_refl _) (by simp))⟩
theorem ract_any (h : Rp w g S) (h8 : S.n ≤ 8) :
    Calls Try.prog 25 #[.agg (rvL S g c).toArray] w (Made 3 (intV S.act) w) := by
  have hlt := h.lt
  go_enter Try.func25, Try.ntmps25
  go_wp2
  go_loopw [3, 4] (fun v i wr => ∃ (k : Nat) (B : Option Addr) (m d : Nat), k ≤ S.n ∧ i = .int .i64 k ∧ v = .slice B m d ∧ Lst 3 (w.heap.size + 1 ≤ ·) wr B m d (intV (S.actN k)) ∧ Below w.heap.size w wr ∧ Bk wr 29 w.heap.size (rvL S g c)) (fun _ i _ => S.n - (intOf i).toNat)
  case atStart => exact ⟨0, none, 0, 0, Nat.zero_le _, rfl, rfl, Lst.nil _ _ _, (Below.refl _ _).alloc (Nat.le_refl _) _, Bk.new w _ (rvL S g c)⟩
  case round =>
    obtain ⟨k, B, m, d, hk, rfl, rfl, hl, hb, hbx⟩ := hrel
    have c1 := hbx.cell 1 rfl
    have hm := hl.1
    rw [intV_len] at hm
    have hm8 := S.actN_len k
    by_cases hkn : k < S.n
    · have cr := (hb.cell (p := ⟨g, k * 4, none⟩) hlt).trans (h.rt hkn)
      have HS := Lib.hid (S.actN_succ k)
      by_cases hx : S.r k = 0
      · rw [if_pos hx] at HS
        rw [hx] at cr
        have hls' := hl.alloc (.cells #[.int .i64 k] 3)
        have hu := RdV.one wr 3 (.int .i64 k) rfl
        have hb' := hb.alloc hb.size (.cells #[.int .i64 k] 3)
        have hbx' := hbx.alloc (.cells #[.int .i64 k] 3)
        have hn8 : (m + 1) * 8 ≤ 140737488355328 := by omega
        have HL := Lib.hid hl
        clear hm hm8 hx hl
        go_wp2_with (at_builtin
                     refine wpList_append_lst eltI rfl (.tmp 19) (.tmp 21) rfl rfl hls' rfl hu hn8 ?_
                     rintro v w4 ⟨⟨A4, n4, c4, rfl, hl4⟩, hst4⟩)
        go_roundw
        case rel =>
          refine ⟨k + 1, _, _, _, by omega, by go_num, rfl, ?_, hb'.trans (hst4.below hb'.size (fun j hj => by omega)), hbx'.st hst4 (by omega)⟩
          rw [HS.out, intV_snoc]
          exact hl4.mono (fun j hj => by rcases hj with h | h; exact h; have := hbx'.lt; omega)
        case measure => simp [intOf]; omega
      · rw [if_neg hx] at HS
        have hxb : (S.r k == 0) = false := by simpa using hx
        clear hx
        go_wp2
        go_roundw
        case rel => exact ⟨k + 1, B, m, d, by omega, by go_num, rfl, by rw [HS.out]; exact hl, hb, hbx⟩
        case measure => simp [intOf]; omega
    · obtain rfl : k = S.n := by omega
      go_wp2
      go_ret
      exact ⟨B, m, d, rfl, hl.mono (fun j hj => by omega), hb⟩
theorem rrests_any (h : Rp w g S) (h8 : S.n ≤ 8) (x : Int) :
    Calls Try.prog 29 #[.agg (rvL S g c).toArray, .int .i64 x] w fun e w' => e = .returned (.int .i64 (S.restsAt x)) ∧ Below w.heap.size w w' := by
  have c1 := (Bk.new w 29 (rvL S g c)).cell 1 rfl
  rcases (by omega : x < 0 ∨ 0 ≤ x ∧ (S.n : Int) ≤ x ∨ 0 ≤ x ∧ x < S.n) with h0 | ⟨h0, h1⟩ | ⟨h0, h1⟩
  · have HR : Hid (S.restsAt x = 0) := Lib.hid (by simp [Sc.restsAt, Sc.has]; omega)
    go_enter Try.func29, Try.ntmps29
    go_wp2
    go_ret
    exact ⟨by rw [HR.out]; rfl, (Below.refl _ _).alloc (Nat.le_refl _) _⟩
  · have HR : Hid (S.restsAt x = 0) := Lib.hid (by simp [Sc.restsAt, Sc.has]; omega)
    go_enter Try.func29, Try.ntmps29
    go_wp2
    go_ret
    exact ⟨by rw [HR.out]; rfl, (Below.refl _ _).alloc (Nat.le_refl _) _⟩
  · obtain ⟨k, rfl⟩ := Int.eq_ofNat_of_zero_le h0
    have HR : Hid (S.restsAt k = S.r k) := Lib.hid (by simp [Sc.restsAt, Sc.has]; omega)
    have cr := (h.alloc (.cells (rvL S g c).toArray 29)).rt (i := k) (by omega)
    go_enter Try.func29, Try.ntmps29
    go_wp2
    go_ret
    exact ⟨by rw [HR.out]; rfl, (Below.refl _ _).alloc (Nat.le_refl _) _⟩
theorem rcounts_any (h : Rp w g S) (h8 : S.n ≤ 8) (x : Int) :
    Calls Try.prog 30 #[.agg (rvL S g c).toArray, .int .i64 x] w fun e w' => e = .returned (.agg (tabV 3 (S.countsAt x)).toArray) ∧ Below w.heap.size w w' := by
  have hbx := (Bk.new w 29 (rvL S g c)).alloc (.cells #[.int .i64 0, .int .i64 0, .int .i64 0] 48)
  have c1 := hbx.cell 1 rfl
  have hz : Bk ((w.alloc (.cells (rvL S g c).toArray 29)).alloc (.cells #[.int .i64 0, .int .i64 0, .int .i64 0] 48)) 48 (w.heap.size + 1) (tabV 3 (fun _ => 0)) := by
    have := Bk.new (w.alloc (.cells (rvL S g c).toArray 29)) 48 (tabV 3 (fun _ => 0))
    rw [World.size_alloc] at this
    exact this
  have hb2 : Below w.heap.size w ((w.alloc (.cells (rvL S g c).toArray 29)).alloc (.cells #[.int .i64 0, .int .i64 0, .int .i64 0] 48)) := ((Below.refl _ w).alloc (Nat.le_refl _) _).alloc (by simp) _
  have HB2 := Lib.hid hb2
  clear hb2
  rcases (by omega : x < 0 ∨ 0 ≤ x ∧ (S.n : Int) ≤ x ∨ 0 ≤ x ∧ x < S.n) with h0 | ⟨h0, h1⟩ | ⟨h0, h1⟩
  · have HR : Hid (S.countsAt x = fun _ => 0) := Lib.hid (by funext i; simp [Sc.countsAt, Sc.has]; omega)
    go_enter Try.func30, Try.ntmps30
    go_wp2_with (refine at_store 48 (.tmp 4) (.tmp 14) (by rfl) ?_; refine wpList_store_bk row3 rfl (.tmp 4) (.tmp 14) rfl (w.heap.size + 1) 0 rfl hz (tabV 3 (fun _ => 0)) rfl (tabV_len _ _) (by decide) (tabV_one _ _) ?_; rintro w5 hr5 hw5)
    rw [lay_all _ _ (by simp only [tabV_len])] at hr5
    exact bodyPost_ret (results_cell rfl rfl (row3.load hr5 0 (tabV_len _ _) (List.take_of_length_le (by simp)))) rfl ⟨by rw [HR.out], HB2.out.trans (hw5.below (by omega) HB2.out.size)⟩
  · have HR : Hid (S.countsAt x = fun _ => 0) := Lib.hid (by funext i; simp [Sc.countsAt, Sc.has]; omega)
    go_enter Try.func30, Try.ntmps30
    go_wp2_with (refine at_store 48 (.tmp 4) (.tmp 14) (by rfl) ?_; refine wpList_store_bk row3 rfl (.tmp 4) (.tmp 14) rfl (w.heap.size + 1) 0 rfl hz (tabV 3 (fun _ => 0)) rfl (tabV_len _ _) (by decide) (tabV_one _ _) ?_; rintro w5 hr5 hw5)
    rw [lay_all _ _ (by simp only [tabV_len])] at hr5
    exact bodyPost_ret (results_cell rfl rfl (row3.load hr5 0 (tabV_len _ _) (List.take_of_length_le (by simp)))) rfl ⟨by rw [HR.out], HB2.out.trans (hw5.below (by omega) HB2.out.size)⟩
  · obtain ⟨k, rfl⟩ := Int.eq_ofNat_of_zero_le h0
    have HR : Hid (S.countsAt k = fun i => S.c (k * 3 + i)) := Lib.hid (by funext i; simp [Sc.countsAt, Sc.has]; omega)
    obtain ⟨tl, ht⟩ := (h.alloc (.cells (rvL S g c).toArray 29)).alloc (.cells #[.int .i64 0, .int .i64 0, .int .i64 0] 48)
    have HCS := Lib.hid (row_cs S tl (i := k) (by omega))
    go_enter Try.func30, Try.ntmps30
    go_wp2_with (first
      | (refine at_load 48 (.tmp 19) (by rfl) ?_; refine wpList_load_bk row3 rfl (.tmp 19) rfl g (k * 4 + 1) rfl ht (tabV 3 (fun i => S.c (k * 3 + i))) (tabV_len _ _) HCS.out ?_)
      | (refine at_store 48 (.tmp 4) (.tmp 20) (by rfl) ?_; refine wpList_store_bk row3 rfl (.tmp 4) (.tmp 20) rfl (w.heap.size + 1) 0 rfl hz (tabV 3 (fun i => S.c (k * 3 + i))) rfl (tabV_len _ _) (by decide) (tabV_one _ _) ?_; rintro w5 hr5 hw5))
    rw [lay_all _ _ (by simp only [tabV_len])] at hr5
    exact bodyPost_ret (results_cell rfl rfl (row3.load hr5 0 (tabV_len _ _) (List.take_of_length_le (by simp)))) rfl ⟨by rw [HR.out], HB2.out.trans (hw5.below (by omega) HB2.out.size)⟩
end
end Go.Proofs.Ytjoagkekbeogoaa
