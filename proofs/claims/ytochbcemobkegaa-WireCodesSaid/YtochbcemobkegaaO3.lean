import Derived.Test.YtochbcemobkegaaO2
namespace Go.Proofs.Ytochbcemobkegaa
open Go.RowKit
set_option maxHeartbeats 400000 in
theorem put_no (A : Option Addr) (n c : Nat) (xs : List Int) (s u : Int) (w : World) (h : Rd .u8 w A n c xs) (hn : n ≤ 70368744177664) (hs : sizeB s = false) :
    Calls Try.prog 23 #[.slice A n c, .int .i64 s, .int .u64 u] w fun e w' => ∃ v, e = .returned v ∧ Ow .u8 5 w.heap.size w' v xs ∧ Below w.heap.size w w' := by
  go_enter Try.func23, Try.ntmps23
  go_wp2_with (first
    | (go_at_call 44; refine (isSize_any _ _).mono ?_; rintro e w' ⟨rfl, rfl⟩)
    | (go_at_call 45; refine (clone_any _ _ _ xs _ (by exact h) (by omega)).mono ?_; rintro e w' ⟨v, rfl, hown, hb⟩))
  go_ret
  exact ⟨_, rfl, hown, hb⟩

theorem drop_rep (n : Nat) (xs : List Int) (h : xs.length = n) : xs ++ (List.replicate (n : Int).toNat (0 : Int)).drop xs.length = xs := by
  rw [List.drop_eq_nil_of_le (by simp [h])]; simp

set_option maxHeartbeats 800000 in
theorem put_yes (A : Option Addr) (n c : Nat) (xs : List Int) (s : Nat) (u : Int) (w : World) (h : Rd .u8 w A n c xs) (hn : n ≤ 70368744177664) (h1 : 1 ≤ s) (h8 : s ≤ 8) :
    Calls Try.prog 23 #[.slice A n c, .int .i64 s, .int .u64 u] w fun e w' => ∃ v, e = .returned v ∧ Ow .u8 5 w.heap.size w' v (xs ++ enc s u) ∧ Below w.heap.size w w' := by
  have hsz : sizeB s = true := by unfold sizeB; simp; omega
  have hl := Lib.hid h.1
  have HE := Lib.hid (drop_rep n xs h.1)
  have HA := Lib.hid (List.take_of_length_le (l := enc s u) (i := s) (by simp [enc_length]))
  go_enter Try.func23, Try.ntmps23
  go_wp2_with (first
    | (go_at_call 44; refine (isSize_any _ _).mono ?_; rintro e w' ⟨rfl, rfl⟩)
    | (at_make
       go_must (refine wpList_make_ints bytesT rfl (.tmp 15) (.tmp 19) rfl (kl := .i64) (kc := .i64) (L := n) (C := n + s) rfl rfl (by omega) (by omega) (by omega) (by omega) (w0 := w) (Below.refl _ _) ?_)
       intro v1 w1 hown1 hb1)
    | (refine wpList_copy_ints bytesT rfl (.tmp 21) (.tmp 22) rfl (v := v1) rfl hown1 rfl (by exact h.below hb1) (by simp) hb1 ?_
       intro w2 r2 hown2 hb2
       rw [HE.out] at hown2
       clear hown1 hb1))
  go_loopw [7, 8] (fun v left wr => ∃ k : Nat, k ≤ s ∧ left = .int .i64 ((s : Int) - 1 - k) ∧ Ow .u8 5 w.heap.size wr v (xs ++ (enc s u).take k) ∧ Below w.heap.size w wr) (fun _ left _ => (intOf left + 1).toNat)
  case atStart => exact ⟨0, Nat.zero_le _, by simp, by simpa using hown2, hb2⟩
  case round =>
    obtain ⟨k, hk, rfl, hown, hb⟩ := hrel
    by_cases hlt : k < s
    · have HL := Lib.hid (show ((xs ++ (enc s u).take k).length + 1) * 1 ≤ 140737488355328 by have := hl.out; simp [enc_length]; omega)
      have HT := Lib.hid (enc_take s u k hlt)
      go_wp2_with (
         (at_builtin
          go_must (refine wpList_append_ints bytesT rfl (.tmp 30) (.tmp 36) rfl rfl (w0 := w) (hown.alloc _) rfl (Rd.one wr 5 _ (byteAt_wf u (s - 1 - k))) HL.out (by omega) (hb.alloc hb.size _) ?_)
          intro v3 w3 hown3 hb3
          have hown4 : Ow .u8 5 w.heap.size w3 v3 (xs ++ (enc s u).take (k + 1)) := by rw [HT.out, ← List.append_assoc]; exact hown3
          clear hown3))
      go_roundw
      case rel => exact ⟨k + 1, by omega, by go_num, hown4, hb3⟩
      case measure => simp [intOf]; omega
    · obtain rfl : k = s := by omega
      go_wp2
      go_ret
      exact ⟨_, rfl, by rw [HA.out] at hown; exact hown, hb⟩

theorem own_empty (w : World) : Ow .u8 5 w.heap.size (w.alloc (.cells #[] 5)) (.slice (some ⟨w.heap.size, 0, none⟩) 0 0) [] :=
  ⟨rfl, .inr ⟨w.heap.size, 0, _, rfl, Nat.le_refl _, heap_alloc_new w _, Nat.le_refl _, by decide, by decide, rfl⟩⟩

set_option maxHeartbeats 400000 in
theorem rput_no (A : Option Addr) (n c : Nat) (xs : List Int) (s u : Int) (w : World) (h : Rd .u8 w A n c xs) (hn : n ≤ 70368744177664) (hs : sizeB s = false) :
    Calls Try.prog 25 #[.slice A n c, .int .i64 s, .int .u64 u] w fun e w' => ∃ v, e = .returned v ∧ Ow .u8 5 w.heap.size w' v xs ∧ Below w.heap.size w w' := by
  have HB := Lib.hid ((Below.refl w.heap.size w).alloc (Nat.le_refl _) (.cells #[] 5))
  go_enter Try.func25, Try.ntmps25
  go_wp2_with (first
    | (go_at_call 49; refine (size_any _ _).mono ?_; rintro e w' ⟨rfl, rfl⟩)
    | (at_builtin
       go_must (refine wpList_append_ints bytesT rfl (.tmp 9) (.tmp 10) rfl rfl (w0 := w) (own_empty w) rfl (h.alloc _) (by simp; omega) (by omega) HB.out ?_)
       intro v1 w1 hown1 hb1
       rw [List.nil_append] at hown1))
  go_ret
  exact ⟨_, rfl, hown1, hb1⟩

set_option maxHeartbeats 800000 in
theorem rput_yes (A : Option Addr) (n c : Nat) (xs : List Int) (s : Nat) (u : Int) (w : World) (h : Rd .u8 w A n c xs) (hn : n ≤ 70368744177664) (h1 : 1 ≤ s) (h8 : s ≤ 8) :
    Calls Try.prog 25 #[.slice A n c, .int .i64 s, .int .u64 u] w fun e w' => ∃ v, e = .returned v ∧ Ow .u8 5 w.heap.size w' v (xs ++ enc s u) ∧ Below w.heap.size w w' := by
  have hsz : sizeB s = true := by unfold sizeB; simp; omega
  have hl := Lib.hid h.1
  have HA := Lib.hid (List.take_of_length_le (l := enc s u) (i := s) (by simp [enc_length]))
  have HB := Lib.hid ((Below.refl w.heap.size w).alloc (Nat.le_refl _) (.cells #[] 5))
  go_enter Try.func25, Try.ntmps25
  go_wp2_with (first
    | (go_at_call 49; refine (size_any _ _).mono ?_; rintro e w' ⟨rfl, rfl⟩)
    | (at_builtin
       go_must (refine wpList_append_ints bytesT rfl (.tmp 9) (.tmp 10) rfl rfl (w0 := w) (own_empty w) rfl (h.alloc _) (by simp; omega) (by omega) HB.out ?_)
       intro v1 w1 hown1 hb1
       rw [List.nil_append] at hown1))
  go_loopw [7, 8] (fun v left wr => ∃ k : Nat, k ≤ s ∧ left = .int .i64 ((s : Int) - 1 - k) ∧ Ow .u8 5 w.heap.size wr v (xs ++ (enc s u).take k) ∧ Below w.heap.size w wr) (fun _ left _ => (intOf left + 1).toNat)
  case atStart => exact ⟨0, Nat.zero_le _, by simp, by simpa using hown1, hb1⟩
  case round =>
    obtain ⟨k, hk, rfl, hown, hb⟩ := hrel
    by_cases hlt : k < s
    · have HL := Lib.hid (show ((xs ++ (enc s u).take k).length + 1) * 1 ≤ 140737488355328 by have := hl.out; simp [enc_length]; omega)
      have HT := Lib.hid (enc_take s u k hlt)
      go_wp2_with (
         (at_builtin
          go_must (refine wpList_append_ints bytesT rfl (.tmp 22) (.tmp 29) rfl rfl (w0 := w) (hown.alloc _) rfl (Rd.one wr 5 _ (byteAt_wf u (s - 1 - k))) HL.out (by omega) (hb.alloc hb.size _) ?_)
          intro v3 w3 hown3 hb3
          have hown4 : Ow .u8 5 w.heap.size w3 v3 (xs ++ (enc s u).take (k + 1)) := by rw [HT.out, ← List.append_assoc]; exact hown3
          clear hown3))
      go_roundw
      case rel => exact ⟨k + 1, by omega, by go_num, hown4, hb3⟩
      case measure => simp [intOf]; omega
    · obtain rfl : k = s := by omega
      go_wp2
      go_ret
      exact ⟨_, rfl, by rw [HA.out] at hown; exact hown, hb⟩
end Go.Proofs.Ytochbcemobkegaa
