/- Scores in memory: the asking calls; what is counted. -/
import Derived.Test.YtjoagkekbeogoaaS1
import Derived.Test.YtjoagkekbeogoaaRegL
set_option linter.unusedSimpArgs false
set_option linter.unusedVariables false
namespace Go.Proofs.Ytjoagkekbeogoaa
open Go.RowKit Go.Shelf

theorem rowS : Row Try.prog 53 34 := ⟨⟨_, rfl, rfl⟩, by kernel_rfl⟩
theorem rowC : Row Try.prog 49 3 := ⟨⟨_, rfl, rfl⟩, by kernel_rfl⟩
theorem row3 : Row Try.prog 48 3 := ⟨⟨_, rfl, rfl⟩, by kernel_rfl⟩
theorem row8 : Row Try.prog 51 8 := ⟨⟨_, rfl, rfl⟩, by kernel_rfl⟩
/-- Block p is the score S. -/
abbrev Sm (w : World) (p : Nat) (S : Sc) : Prop := Bk w 53 p S.mem
section
variable {w : World} {p : Nat} {S : Sc} {b : Int}
theorem sm_made (h : Sm w p S) (ho : 1 ≤ S.n) :
    Calls Try.prog 28 #[.pointer (some ⟨p, 0, none⟩)] w fun e w' => e = .returned (.bool true) ∧ w = w' := by
  have c0 := h.cell 0 S.mem_n
  have hn : 0 < S.n := by omega
  go_enter Try.func28, Try.ntmps28
  go_wp2
  go_ret
  exact ⟨rfl, rfl⟩
theorem sm_has (h : Sm w p S) (ho : 1 ≤ S.n) (x : Int) :
    Calls Try.prog 31 #[.pointer (some ⟨p, 0, none⟩), .int .i64 x] w fun e w' => e = .returned (.bool (S.has x)) ∧ w = w' := by
  have c0 := h.cell 0 S.mem_n
  rcases (by omega : x < 0 ∨ 0 ≤ x ∧ (S.n : Int) ≤ x ∨ 0 ≤ x ∧ x < S.n) with h0 | ⟨h0, h1⟩ | ⟨h0, h1⟩
  · have hb : S.has x = false := by simp [Sc.has]; omega
    have HB := Lib.hid hb
    clear hb
    go_enter Try.func31, Try.ntmps31
    go_wp2_with (go_at_call 28; refine (sm_made h ho).mono ?_; rintro e w' ⟨rfl, rfl⟩)
    go_ret
    exact ⟨by rw [HB.out]; rfl, rfl⟩
  · have hb : S.has x = false := by simp [Sc.has]; omega
    have HB := Lib.hid hb
    have hd := decide_eq_false (show ¬ x < S.n by omega)
    clear hb
    go_enter Try.func31, Try.ntmps31
    go_wp2_with (go_at_call 28; refine (sm_made h ho).mono ?_; rintro e w' ⟨rfl, rfl⟩)
    go_ret
    exact ⟨by rw [HB.out, ← hd]; rfl, rfl⟩
  · have hb : S.has x = true := by simp [Sc.has]; omega
    have HB := Lib.hid hb
    clear hb
    go_enter Try.func31, Try.ntmps31
    go_wp2_with (go_at_call 28; refine (sm_made h ho).mono ?_; rintro e w' ⟨rfl, rfl⟩)
    go_ret
    exact ⟨by rw [HB.out]; rfl, rfl⟩
theorem sm_rests (h : Sm w p S) (ho : S.ok b) (x : Int) :
    Calls Try.prog 22 #[.pointer (some ⟨p, 0, none⟩), .int .i64 x] w fun e w' => e = .returned (.int .i64 (S.restsAt x)) ∧ w = w' := by
  have h8 := ho.n8
  have h1 := ho.n1
  by_cases hx : S.has x = true
  · have hx' : 0 ≤ x ∧ x < S.n := by simpa [Sc.has] using hx
    have HR : Hid (S.restsAt x = S.r x.toNat) := Lib.hid (by simp [Sc.restsAt, hx])
    obtain ⟨k, rfl⟩ := Int.eq_ofNat_of_zero_le hx'.1
    rw [Int.toNat_natCast] at HR
    have hk : (k : Int) < 8 := by omega
    have c0 := h.cell (26 + k) (S.mem_r (by omega))
    go_enter Try.func22, Try.ntmps22
    go_wp2_with (go_at_call 31; refine (sm_has h h1 _).mono ?_; rintro e w' ⟨rfl, rfl⟩; rw [hx])
    go_ret
    exact ⟨by rw [HR.out]; rfl, rfl⟩
  · have hx' : S.has x = false := by simpa using hx
    have HR : Hid (S.restsAt x = 0) := Lib.hid (by simp [Sc.restsAt, hx])
    go_enter Try.func22, Try.ntmps22
    go_wp2_with (go_at_call 31; refine (sm_has h h1 _).mono ?_; rintro e w' ⟨rfl, rfl⟩; rw [hx'])
    go_ret
    exact ⟨by rw [HR.out]; rfl, rfl⟩
theorem sm_counts (h : Sm w p S) (ho : S.ok b) (x : Int) :
    Calls Try.prog 23 #[.pointer (some ⟨p, 0, none⟩), .int .i64 x] w fun e w' => e = .returned (.agg (tabV 3 (S.countsAt x)).toArray) ∧ Below w.heap.size w w' := by
  have h8 := ho.n8
  have h1 := ho.n1
  have hz := Bk.new w 48 (tabV 3 (fun _ => 0))
  have h3' := h.alloc (.cells (tabV 3 (fun _ => 0)).toArray 48)
  by_cases hx : S.has x = true
  · have hx' : 0 ≤ x ∧ x < S.n := by simpa [Sc.has] using hx
    obtain ⟨k, rfl⟩ := Int.eq_ofNat_of_zero_le hx'.1
    have HR : Hid (S.countsAt k = fun i => S.c (k * 3 + i)) := Lib.hid (by funext i; simp [Sc.countsAt, hx])
    have hk : (k : Int) < 8 := by omega
    have HC := Lib.hid (S.mem_cs (j := k * 3) (k := 3) (by omega))
    go_enter Try.func23, Try.ntmps23
    go_wp2_with (first
      | (go_at_call 31; refine (sm_has h3' h1 _).mono ?_; rintro e w' ⟨rfl, rfl⟩; rw [hx])
      | (refine at_load 49 (.tmp 14) (by rfl) ?_; refine wpList_load_bk rowC rfl (.tmp 14) rfl p (2 + k * 3) rfl h3' (tabV 3 (fun i => S.c (k * 3 + i))) (tabV_len _ _) HC.out ?_)
      | (refine at_store 48 (.tmp 4) (.tmp 15) (by rfl) ?_; refine wpList_store_bk row3 rfl (.tmp 4) (.tmp 15) rfl w.heap.size 0 rfl hz (tabV 3 (fun i => S.c (k * 3 + i))) rfl (tabV_len _ _) (by decide) (tabV_one _ _) ?_; rintro w5 hr5 hw5))
    rw [lay_all _ _ (by simp only [tabV_len])] at hr5
    exact bodyPost_ret (results_cell rfl rfl (row3.load hr5 0 (tabV_len _ _) (List.take_of_length_le (by simp)))) rfl ⟨by rw [HR.out], ((Below.refl _ _).alloc (Nat.le_refl _) _).trans (hw5.below (Nat.le_refl _) (by simp))⟩
  · have hx' : S.has x = false := by simpa using hx
    have HR : Hid (S.countsAt x = fun _ => 0) := Lib.hid (by funext i; simp [Sc.countsAt, hx])
    go_enter Try.func23, Try.ntmps23
    go_wp2_with (first
      | (go_at_call 31; refine (sm_has h3' h1 _).mono ?_; rintro e w' ⟨rfl, rfl⟩; rw [hx'])
      | (refine at_store 48 (.tmp 4) (.tmp 9) (by rfl) ?_; refine wpList_store_bk row3 rfl (.tmp 4) (.tmp 9) rfl w.heap.size 0 rfl hz (tabV 3 (fun _ => 0)) rfl (tabV_len _ _) (by decide) (tabV_one _ _) ?_; rintro w5 hr5 hw5))
    rw [lay_all _ _ (by simp only [tabV_len])] at hr5
    exact bodyPost_ret (results_cell rfl rfl (row3.load hr5 0 (tabV_len _ _) (List.take_of_length_le (by simp)))) rfl ⟨by rw [HR.out], ((Below.refl _ _).alloc (Nat.le_refl _) _).trans (hw5.below (Nat.le_refl _) (by simp))⟩
end
end Go.Proofs.Ytjoagkekbeogoaa
