/- The laws' own helpers; the law of sums; the law of seals. -/
import Derived.Test.YteheffhfhimkdaaD1
import Derived.Lib.SlBytesConst
set_option linter.unusedSimpArgs false
set_option linter.unusedVariables false
namespace Go.Proofs.Yteheffhfhimkdaa
open Go.RowKit Go.Shelf

set_option maxHeartbeats 400000 in
theorem lawcut_any (A : Option Addr) (n c : Nat) (w : World) (hn : n ≤ c) (hc : c ≤ maxLen) :
    Calls Try.prog 9 #[.slice A n c] w fun e w' => e = .returned (.slice A (min n 1500) c) ∧ w = w' := by
  unfold maxLen at hc
  by_cases h5 : n ≤ 1500
  · go_enter Try.func9, Try.ntmps9
    go_wp2
    go_ret
    exact ⟨by rw [Nat.min_eq_left h5]; rfl, rfl⟩
  · have h6 : 1500 ≤ n := by omega
    have h7 : 1500 ≤ c := by omega
    go_enter Try.func9, Try.ntmps9
    go_wp2
    go_ret
    exact ⟨by rw [Nat.min_eq_right h6]; rfl, rfl⟩

set_option maxHeartbeats 1000000 in
theorem join_any (A : Option Addr) (n c : Nat) (xs : List Int) (B : Option Addr) (m d : Nat) (ys : List Int) (w : World) (h : Rd .u8 w A n c xs) (k : Rd .u8 w B m d ys) (hn : n ≤ 65536) (hm : m ≤ 65536) :
    Calls Try.prog 10 #[.slice A n c, .slice B m d] w fun e w' => ∃ v, e = .returned v ∧ Ow .u8 5 w.heap.size w' v (xs ++ ys) ∧ Below w.heap.size w w' := by
  have hl := Lib.hid h.1
  have HB := Lib.hid ((Below.refl w.heap.size w).alloc (Nat.le_refl _) (.cells #[] 5))
  have HL0 := Lib.hid (show (([] : List Int).length + n) * 1 ≤ 140737488355328 by simp; omega)
  have HL1 := Lib.hid (show (xs.length + m) * 1 ≤ 140737488355328 by rw [hl.out]; omega)
  go_enter Try.func10, Try.ntmps10
  go_wp2_with (first
    | (at_builtin
       refine wpList_append_ints bytesT rfl (.tmp 5) (.tmp 6) rfl rfl (w0 := w) (own_empty w) rfl (h.alloc _) HL0.out (by omega) HB.out ?_
       intro v1 w1 hown1 hb1
       rw [List.nil_append] at hown1)
    | (at_builtin
       refine wpList_append_ints bytesT rfl (.tmp 7) (.tmp 8) rfl rfl (w0 := w) hown1 rfl (k.below hb1) HL1.out (by omega) hb1 ?_
       intro v2 w2 hown2 hb2))
  go_ret
  exact ⟨_, rfl, hown2, hb2⟩

theorem Rd.litF (w : World) (e : TypeId) (xs : List Int) (fz : Nat × Nat) (hx : ∀ x ∈ xs, (Lit.int .u8 x).wf = true) (hl : xs.length ≤ 1000) : Rd .u8 (w.alloc (.cells (xs.map (Value.int .u8)).toArray e fz)) (some ⟨w.heap.size, 0, none⟩) xs.length xs.length xs := by
  refine ⟨rfl, Nat.le_refl _, by simp only [maxLen]; omega, by simp, hx, fun _ => ⟨w.heap.size, 0, rfl, by simp, fun i hi => ?_⟩⟩
  have h := heap_alloc_new w (.cells (xs.map (Value.int .u8)).toArray e fz)
  unfold World.cell?
  rw [h]
  simp [hi]
theorem Pts.one' {w : World} {g : Nat} {A : Option Addr} {n c : Nat} {xs : List Int} (h : Rd .u8 w A n c xs) (hg : g = w.heap.size) (hn : n ≤ 65536) :
    Pts (w.alloc (.cells #[.slice A n c] 22)) (some ⟨g, 0, none⟩) 1 [⟨A, n, c, xs⟩] := by subst hg; exact Pts.one h hn
theorem Pts.two {w : World} {g : Nat} {A : Option Addr} {n c : Nat} {xs : List Int} {B : Option Addr} {m d : Nat} {ys : List Int} (h : Rd .u8 w A n c xs) (k : Rd .u8 w B m d ys) (hg : g = w.heap.size) (hn : n ≤ 65536) (hm : m ≤ 65536) :
    Pts (w.alloc (.cells #[.slice A n c, .slice B m d] 22)) (some ⟨g, 0, none⟩) 2 [⟨A, n, c, xs⟩, ⟨B, m, d, ys⟩] := by
  subst hg
  refine Pts.lit w [⟨A, n, c, xs⟩, ⟨B, m, d, ys⟩] (by simp) (fun p hp => ?_)
  simp at hp
  rcases hp with rfl | rfl
  · exact ⟨h, hn⟩
  · exact ⟨k, hm⟩
theorem cat_two (A : Option Addr) (n c : Nat) (xs : List Int) (B : Option Addr) (m d : Nat) (ys : List Int) : cat [⟨A, n, c, xs⟩, ⟨B, m, d, ys⟩] = xs ++ ys := by simp [cat]
theorem on_wiki : onV 1 [87, 105, 107, 105, 112, 101, 100, 105, 97] = 300286872 := by decide
theorem on_none : onV 1 (cat []) = 1 := by decide
theorem ones_123 : onesV [1, 2, 3] = 1026 := by decide

set_option maxHeartbeats 1000000 in
theorem awake_any (w : World) : Calls Try.prog 17 #[] w fun e w' => e = .returned (.bool true) ∧ Below w.heap.size w w' := by
  have W1 := Lib.hid (u8_wf_of (l := [87, 105, 107, 105]) (by decide))
  have W2 := Lib.hid (u8_wf_of (l := [112, 101, 100, 105, 97]) (by decide))
  have W3 := Lib.hid (u8_wf_of (l := [1, 2, 3]) (by decide))
  have kc := fun (w : World) (C : Array Value) (n c : Nat) => Lib.run_convert_bytes_const (P := Try.prog) w 22 5 C n c Try.underlying22 Try.underlying5
  have kc2 : ∀ (w : World) (o : Obj) (C : Array Value) (n c : Nat), (convert 22 22 (.slice (some ⟨w.heap.size + 1, 0, none⟩) n c)).run Try.prog ((w.alloc o).alloc (.cells C 5)) = .ok (.slice (some ⟨w.heap.size + 1, 0, none⟩) n c) ((w.alloc o).alloc (.cells C 5 (C.size, C.size + 1))) := fun w o C n c => by
    have := kc (w.alloc o) C n c
    rw [World.size_alloc] at this
    exact this
  have hb1 : ∀ o1 o2 o3, Below w.heap.size w (((w.alloc o1).alloc o2).alloc o3) := fun o1 o2 o3 => (((Below.refl _ w).alloc (Nat.le_refl _) _).alloc (by simp) _).alloc (by simp; omega) _
  have HB1 := Lib.hid hb1
  have hPts := (Pts.lit ((w.alloc (.cells #[.int .u8 87, .int .u8 105, .int .u8 107, .int .u8 105] 5 (4, 5))).alloc (.cells #[.int .u8 112, .int .u8 101, .int .u8 100, .int .u8 105, .int .u8 97] 5 (5, 6)))
    [⟨some ⟨w.heap.size, 0, none⟩, 4, 4, [87, 105, 107, 105]⟩, ⟨some ⟨w.heap.size + 1, 0, none⟩, 5, 5, [112, 101, 100, 105, 97]⟩] (by simp) (by
      have r1 := (Rd.litF w 5 [87, 105, 107, 105] (4, 5) W1.out (by simp)).alloc (.cells #[.int .u8 112, .int .u8 101, .int .u8 100, .int .u8 105, .int .u8 97] 5 (5, 6))
      have r2 := Rd.litF (w.alloc (.cells #[.int .u8 87, .int .u8 105, .int .u8 107, .int .u8 105] 5 (4, 5))) 5 [112, 101, 100, 105, 97] (5, 6) W2.out (by simp)
      rw [World.size_alloc] at r2
      intro p hp
      simp at hp
      rcases hp with rfl | rfl
      · exact ⟨r1, by simp⟩
      · exact ⟨r2, by simp⟩))
  rw [World.size_alloc, World.size_alloc] at hPts
  have HPts := Lib.hid hPts
  clear hb1 hPts
  go_enter Try.func17, Try.ntmps17
  go_wp2_with fail
  refine (adler_any _ 2 2 _ _ HPts.out).mono ?_
  rintro e w1 ⟨rfl, hb1⟩
  rw [show cat _ = [87, 105, 107, 105, 112, 101, 100, 105, 97] from rfl, on_wiki]
  have hb := (HB1.out _ _ _).trans (hb1.mono (HB1.out _ _ _).size)
  clear hb1
  go_wp2_with fail
  refine (adler_any none 0 0 [] _ (Pts.nil _)).mono ?_
  rintro e w2 ⟨rfl, hb2⟩
  rw [on_none]
  have hbb := hb.trans (hb2.mono hb.size)
  clear hb hb2
  go_wp2_with fail
  refine (ones_any _ 1 1 _ _ (by exact Pts.one' (Rd.lit w2 5 [1, 2, 3] W3.out (by simp)) (by simp) (by simp))).mono ?_
  rintro e w3 ⟨rfl, rfl⟩
  rw [cat_one, ones_123]
  go_wp2
  go_ret
  exact ⟨rfl, (hbb.alloc hbb.size _).alloc (by have := hbb.size; simp; omega) _⟩
end Go.Proofs.Yteheffhfhimkdaa
