/- Tombs in memory: New. -/
import Derived.Test.YtopmfpdcdclffaaD3
set_option linter.unusedSimpArgs false
set_option linter.unusedVariables false
namespace Go.Proofs.Ytopmfpdcdclffaa
open Go.RowKit Go.Shelf
set_option maxHeartbeats 1000000 in
theorem t_new (n : Nat) (w : World) (h1 : 1 ≤ n) (h2 : n ≤ 64) :
    Calls Try.prog 7 #[.int .i64 n] w fun e w' => ∃ p, w.heap.size ≤ p ∧ e = .returned (.tuple #[.pointer (some ⟨p, 0, none⟩), .int .i64 0]) ∧ Bmp w' (plT p) (Bm.new n 1) ∧ Below w.heap.size w w' := by
  have hr : inR (n : Int) 1 64 = true := decide_eq_true (by omega)
  go_enter Try.func7, Try.ntmps7
  go_wp2_with fail
  refine (from_any n 1 64 w).mono ?_
  rintro e w1 ⟨rfl, rfl⟩
  rw [hr]
  go_wp2_with fail
  refine (b_new n 1 w (by omega) (by omega) (by omega)).mono ?_
  rintro e w1 ⟨rfl, hm, hb⟩
  obtain ⟨B, hB⟩ : ∃ B, B = Bm.new n 1 := ⟨_, rfl⟩
  have HE := Lib.hid hB
  rw [← hB] at hm
  clear hB
  have HB := Lib.hid hb
  obtain ⟨ho, m, hmk, hk⟩ := hm
  have hk2 : Bk w1 59 w.heap.size [.int .i64 B.size, .int .i64 B.base, .int .u64 (m 0), .int .u64 (m 1), .int .u64 (m 2), .int .u64 (m 3)] := by
    have : Bk w1 59 w.heap.size ((plB w.heap.size).all (B.mem m)) := hk
    unfold Pl.all plB at this
    rw [List.nil_append, List.append_nil] at this
    exact this
  have HQ : Hid (Bmp (w1.alloc (.cells #[.int .i64 B.size, .int .i64 B.base, .int .u64 (m 0), .int .u64 (m 1), .int .u64 (m 2), .int .u64 (m 3)] 63)) (plT w1.heap.size) B) := Lib.hid (bmp_T ho hmk (Bk.new w1 63 (B.mem m)))
  clear hb hk
  go_wp2_with (with_reducible refine at_load 59 (.tmp 15) (by rfl) ?_; refine wpList_load_bk rowB rfl (.tmp 15) rfl w.heap.size 0 rfl hk2 [.int .i64 B.size, .int .i64 B.base, .int .u64 (m 0), .int .u64 (m 1), .int .u64 (m 2), .int .u64 (m 3)] rfl rfl ?_)
  go_ret2
  exact ⟨w1.heap.size, HB.out.size, rfl, HE.out ▸ HQ.out, HB.out.trans ((Below.refl _ _).alloc HB.out.size _)⟩
theorem t_newBad (n : Int) (w : World) (h : n < 1 ∨ 64 < n) :
    Calls Try.prog 7 #[.int .i64 n] w fun e w' => e = .returned (.tuple #[.pointer none, .int .i64 200]) ∧ w = w' := by
  have hr : inR n 1 64 = false := decide_eq_false (by omega)
  go_enter Try.func7, Try.ntmps7
  go_wp2_with fail
  refine (from_any n 1 64 w).mono ?_
  rintro e w1 ⟨rfl, rfl⟩
  rw [hr]
  go_wp2
  go_ret2
  exact ⟨rfl, rfl⟩
end Go.Proofs.Ytopmfpdcdclffaa
