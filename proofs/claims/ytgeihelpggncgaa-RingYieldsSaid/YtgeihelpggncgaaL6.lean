/- Rings that hold integers, whatever they hold; the law on the iterator. -/
import Derived.Test.YtgeihelpggncgaaL5
import Derived.Test.YtgeihelpggncgaaL4
set_option linter.unusedSimpArgs false
set_option linter.unusedVariables false
namespace Go.Proofs.Ytgeihelpggncgaa
open Go.RowKit Go.Shelf Rgint

/-- A ring of integers. -/
def RgI (F : Nat → Prop) (w : World) (p room : Nat) (xs : List Int) : Prop := Rg 60 3 F w p room (xs.map (.int .i64))
def DidI (F : Nat → Prop) (p room : Nat) (xs : List Int) (w w' : World) : Prop := Did 60 3 F p room (xs.map (.int .i64)) w w'
def wfI (xs : List Int) : Prop := ∀ x ∈ xs, (Lit.int .i64 x).wf = true
theorem wfI.take {xs : List Int} (h : wfI xs) (k : Nat) : wfI (xs.take k) := fun x hx => h x (List.mem_of_mem_take hx)
theorem wfI.drop {xs : List Int} (h : wfI xs) (k : Nat) : wfI (xs.drop k) := fun x hx => h x (List.mem_of_mem_drop hx)
theorem wfI.app {xs ys : List Int} (h : wfI xs) (k : wfI ys) : wfI (xs ++ ys) := fun x hx => by
  rcases List.mem_append.1 hx with h' | h'
  · exact h x h'
  · exact k x h'

def rotL (t : Int) (xs : List Int) : List Int := xs.drop (rotN t xs.length) ++ xs.take (rotN t xs.length)
def rotV (t : Int) (n : Nat) : Int := if n = 0 then 0 else rotN t n
theorem rotL_len (t : Int) (xs : List Int) : (rotL t xs).length = xs.length := by
  unfold rotL
  simp
  omega
theorem rotL_wf {t : Int} {xs : List Int} (h : wfI xs) : wfI (rotL t xs) := (h.drop _).app (h.take _)
theorem rotI (F : Nat → Prop) (p room : Nat) (xs : List Int) (t : Int) (w : World) (h : RgI F w p room xs) (ht : (Lit.int .i64 t).wf = true) :
    Calls Try.prog 17 #[.pointer (some ⟨p, 0, none⟩), .int .i64 t] w fun e w' => e = .returned (.int .i64 (rotV t xs.length)) ∧ DidI F p room (rotL t xs) w w' := by
  unfold RgI at h
  unfold DidI
  by_cases h0 : xs.length = 0
  · obtain rfl := List.eq_nil_of_length_eq_zero h0
    refine (rot_none F p room t w h).mono ?_
    rintro e w' ⟨rfl, rfl⟩
    exact ⟨rfl, by simpa [rotL] using Did.refl h⟩
  · refine (rot_any F p room _ t w h (by simp; omega) ht).mono ?_
    rintro e w' ⟨rfl, hd⟩
    rw [List.length_map] at hd ⊢
    refine ⟨by simp [rotV, h0], ?_⟩
    rw [← List.map_drop, ← List.map_take, ← List.map_append] at hd
    exact hd
theorem rrotI (A : Option Addr) (n c N : Nat) (t : Int) (xs : List Int) (w : World) (h : Rf w A n c xs) (hn : n ≤ 1024) (ht : (Lit.int .i64 t).wf = true) :
    Calls Try.prog 18 #[.agg #[.slice A n c, .int .i64 N], .int .i64 t] w (Rv A n (rotL t xs) N [.int .i64 (rotV t xs.length)] w) := by
  have hl := h.1.1
  by_cases h0 : n = 0
  · subst h0
    obtain rfl := List.eq_nil_of_length_eq_zero hl
    have := rrot_none A c N t w h
    simpa [rotL, rotV] using this
  · have := rrot_any A n c N t xs w h (by omega) hn ht
    rw [← hl] at this h0
    unfold rotL rotV
    rw [if_neg h0]
    rw [hl] at this ⊢
    exact this
theorem same_yes (A B : Option Addr) (n c m d : Nat) (xs : List Int) (w : World) (h1 : Rd .i64 w A n c xs) (h2 : Rd .i64 w B m d xs) :
    Calls Try.prog 11 #[.slice A n c, .slice B m d] w fun e w' => e = .returned (.bool true) ∧ ∃ q, w' = w.drewN q := by
  have := same_any A B n c m d xs xs w h1 h2
  rw [show sameB xs xs = true from by simp [sameB]] at this
  exact this
theorem pushI_ok (F : Nat → Prop) (p room : Nat) (xs ys : List Int) (B : Option Addr) (m d : Nat) (w : World) (h : RgI F w p room xs) (hu : Rd .i64 w B m d ys) (hB : 0 < m → ∀ ad, B = some ad → ¬ F ad.block) (hl : xs.length + m ≤ room) :
    Calls Try.prog 16 #[.pointer (some ⟨p, 0, none⟩), .slice B m d] w fun e w' => e = .returned (.int .i64 0) ∧ DidI F p room (xs ++ ys) w w' := by
  have := push_ok F p room (xs.map (.int .i64)) (ys.map (.int .i64)) B m d w h hu.rdv hB (by simpa using hl)
  unfold DidI
  rw [List.map_append]
  exact this

set_option maxRecDepth 100000 in
set_option maxHeartbeats 4000000 in
theorem lawYields (A : Option Addr) (n c : Nat) (xs : List Int) (most : Nat) (t : Int) (w : World) (h : Rd .i64 w A n c xs) (hm : most < 256) (ht : (Lit.int .i64 t).wf = true) :
    Calls Try.prog 4 #[.slice A n c, .int .u8 most, .int .i64 t] w fun e w' => e = .returned (.bool true) ∧ Below w.heap.size w w' := by
  have hs := shortN_le n
  have HS := Lib.hid (short_any A n c w h.2.1 h.2.2.1)
  have h1 := h.pre hs.1
  have hz := hs.2
  generalize shortN n = n1 at *
  have hblk := h1.blk
  have HR := Lib.hid h1
  have hlen := h1.1
  generalize xs.take n1 = ys at *
  have HWF : Hid (wfI ys) := Lib.hid h1.2.2.2.2.1
  have HL := Lib.hid hlen
  clear hs h h1 hlen
  go_enter Try.func4, Try.ntmps4
  go_wp2_with fail
  refine HS.out.mono ?_
  rintro e w' ⟨rfl, rfl⟩
  go_wp2_with fail
  refine (new_ok 20 w (by decide) (by decide)).mono ?_
  rintro e w1 ⟨rfl, hr1, hb1⟩
  have hd1 := HR.out.below hb1
  go_wp2_with fail
  refine (pushI_ok (· = w.heap.size) w.heap.size 20 [] ys A n1 c w1 hr1 hd1 (fun h0 ad he e => by have := hblk h0 ad he; omega) (by simpa using hz)).mono ?_
  rintro e w2 ⟨rfl, F2, hr2, hst2, hg2⟩
  rw [List.nil_append] at hr2
  go_wp2_with fail
  refine (awake_any w2).mono ?_
  rintro e w3 ⟨rfl, hb3⟩
  have hr3 := hr2.below hb3
  have hb4 : Below w3.heap.size w3 (w3.alloc (.cells #[.slice A n1 c, .int .i64 20] 29)) := (Below.refl _ _).alloc (Nat.le_refl _) _
  have q4 : Bk (w3.alloc (.cells #[.slice A n1 c, .int .i64 20] 29)) 29 w3.heap.size [.slice A n1 c, .int .i64 20] := Bk.new w3 _ [.slice A n1 c, .int .i64 20]
  have hr4 := hr3.below hb4
  go_wp2_with fail
  refine (rotI F2 w.heap.size 20 ys t _ hr4 ht).mono ?_
  rintro e w5 ⟨rfl, F5, hr5, hst5, hg5⟩
  have gF2 := hg2.ge (B := w.heap.size) (by rintro k rfl; exact Nat.le_refl _) hb1.size
  have hw12 : Below w.heap.size w w2 := hb1.trans (hst2.below hb1.size (by rintro k rfl; exact Nat.le_refl _))
  have hw13 := hw12.trans (hb3.mono hw12.size)
  have hw15 : Below w.heap.size w w5 := (hw13.alloc hw13.size _).trans (hst5.below (by have := hw13.size; simp; omega) gF2)
  have q5 : Bk w5 29 w3.heap.size [.slice A n1 c, .int .i64 20] := q4.st hst5 (fun hf => by
    have := Rg.bd hr2 _ hf
    have := hb3.size
    omega)
  have c50 := q5.cell 0 rfl
  have c51 := q5.cell 1 rfl
  have hd5 := HR.out.below hw15
  have f50 := q5.free 0
  have f51 := q5.free 1
  go_wp2_with fail
  refine (rrotI A n1 c 20 t ys w5 ⟨hd5, fun k hk => by
    obtain ⟨h0, ad, he, rfl⟩ := hk
    exact hd5.blk h0 ad he⟩ (by omega) ht).mono ?_
  rintro e w6 ⟨A6, n6, c6, rfl, hf6, hb6, hg6⟩
  have q6 := q5.below hb6
  have c60 := q6.cell 0 rfl
  have c61 := q6.cell 1 rfl
  have f60 := q6.free 0
  have f61 := q6.free 1
  clear c50 c51 f50 f51
  have nF5 : ¬ F5 w3.heap.size := hg5.not (by simp) (fun hf => by
    have := Rg.bd hr2 _ hf
    have := hb3.size
    omega)
  have hz3 := hw13.size
  have HZ3 := Lib.hid hz3
  have hz5 := hw15.size
  have hl5 : (rotL t ys).length = n1 := by rw [rotL_len]; exact HL.out
  have hn6 : n6 = n1 := by rw [← hf6.1.1]; exact hl5
  subst hn6
  have gF5 := hg5.ge gF2 (by simp; omega)
  have HD : ∀ (v0 v1 : Value), Hid (St (· = w3.heap.size) w6 ((w6.setCell ⟨w3.heap.size, 0, none⟩ v0).setCell ⟨w3.heap.size, 1, none⟩ v1)) := fun v0 v1 => Lib.hid (St.set2 (F := (· = w3.heap.size)) rfl w6 v0 v1)
  have nA6 : ¬ BlkN A6 n6 w3.heap.size := fun h => by
    rcases hg6 _ h with h' | h'
    · obtain ⟨h0, ad, he, h'⟩ := h'
      have := hblk h0 ad he
      omega
    · have := q5.lt
      omega
  have HH := Lib.hid (And.intro hr5 (And.intro hf6 (And.intro hb6 (And.intro hw15 (And.intro nF5 (And.intro nA6 (And.intro gF5 q6)))))))
  clear hr5 hf6 hb6 hw15 nF5 nA6 gF5 q6 hg6 hl5 hz3 hz5 gF2 hg5 hst5 hst2 hg2 hr1 hb1 hr2 hr3 hr4 hb4 q4 hb3 hw12 hw13 hd1 hd5
  go_wp2_with fail
  obtain ⟨hr5, hf6, hb6, hw15, nF5, nA6, gF5, q6⟩ := HH.out
  have hD := (HD (.slice A6 n6 c6) (.int .i64 20)).out
  have q7 := (q6.set 0 (.slice A6 n6 c6)).set 1 (.int .i64 20)
  simp only [List.set_cons_zero, List.set_cons_succ] at q7
  generalize (w6.setCell ⟨w3.heap.size, 0, none⟩ (.slice A6 n6 c6)).setCell ⟨w3.heap.size, 1, none⟩ (.int .i64 20) = w7 at *
  have HZW : Hid (wfI (rotL t ys)) := Lib.hid (rotL_wf HWF.out)
  have hr7 := (hr5.below hb6).st hD (fun k hk e => nF5 (e ▸ hk))
  have hf7 := hf6.st hD (fun k e hk => nA6 (e ▸ hk))
  have hw6 := hw15.trans (hb6.mono hw15.size)
  have hw7 : Below w.heap.size w w7 := hw6.trans (hD.below hw6.size (by rintro k rfl; exact HZ3.out))
  clear hD hr5 hf6 hb6 hw15 nF5 nA6 q6 HH hw6
  generalize rotL t ys = zs at *
  have hzl : zs.length = n6 := hf7.1.1
  have HT1 := Lib.hid (told_any (some ⟨w.heap.size, 0, none⟩) (zs.map (.int .i64)) 100 w7 (by simp; omega) (by decide) (by intro v hv; obtain ⟨x, _, rfl⟩ := List.mem_map.1 hv; rfl) (fun W hW => list_any F5 w.heap.size 20 _ W (hr7.below hW)))
  refine HT1.out.mono ?_
  rintro e w8 ⟨A8, n8, c8, rfl, hl8, hb8⟩
  rw [List.take_of_length_le (by simp; omega)] at hl8
  have hr8 := hr7.below hb8
  have hf8 := hf7.below hb8
  have q8 := q7.below hb8
  have hw8 := hw7.trans (hb8.mono hw7.size)
  have hd8 := (hl8.rf HZW.out).1
  clear HT1 hr7 hf7 q7 hw7 hb8 hl8
  have HT2 := Lib.hid (told_any (some ⟨w.heap.size, 0, none⟩) (zs.map (.int .i64)) most w8 (by simp; omega) (by omega) (by intro v hv; obtain ⟨x, _, rfl⟩ := List.mem_map.1 hv; rfl) (fun W hW => list_any F5 w.heap.size 20 _ W (hr8.below hW)))
  have HZL := Lib.hid hzl
  clear hzl
  go_wp2_with fail
  refine HT2.out.mono ?_
  rintro e w9 ⟨A9, n9, c9, rfl, hl9, hb9⟩
  rw [← List.map_take] at hl9
  have hf9 := hf8.below hb9
  have q9 := q8.below hb9
  have hw9 := hw8.trans (hb9.mono hw8.size)
  have hd9 := (hl9.rf (HZW.out.take most)).1
  have hd89 := hd8.below hb9
  clear HT2 hr8 hf8 q8 hw8 hb9 hl9 hd8
  have c0 := q9.cell 0 rfl
  have c1 := q9.cell 1 rfl
  go_wp2_with fail
  refine (same_yes A8 A6 n8 c8 n6 c6 zs w9 hd89 hf9.1).mono ?_
  rintro e w' ⟨rfl, q, rfl⟩
  have hmn : min n6 most = n9 := by
    have := hd9.1
    simp at this
    rw [HZL.out] at this
    omega
  have hcut : (Instr.slice 27 (.slice A6 n6 c6) none (some (.int .i64 n9)) none).run Try.prog (w9.drewN q) = .ok (.slice A6 n9 c6) (w9.drewN q) := elt.run_pre A6 n6 c6 n9 (by have := hf9.1.2.1; omega) hf9.1.2.1 _
  have hr9 : Rd .i64 w9 A6 n9 c6 (zs.take most) := by
    have := hf9.1.pre (s := n9) (by omega)
    rw [show zs.take n9 = zs.take most from by rw [← hmn, ← HZL.out]; rcases Nat.le_total zs.length most with h | h; rw [Nat.min_eq_left h, List.take_of_length_le h, List.take_of_length_le (Nat.le_refl _)]; rw [Nat.min_eq_right h]] at this
    exact this
  have hcs : (n6 ≤ most ∧ n9 = n6) ∨ (most < n6 ∧ n9 = most) := by omega
  have HD9 := Lib.hid hd9
  have HR9 := Lib.hid hr9
  clear hd9 hr9 hmn hd89
  rcases hcs with ⟨hle, rfl⟩ | ⟨hlt, rfl⟩
  all_goals
    go_wp2_with fail
    refine (same_yes A9 A6 _ c9 _ c6 (zs.take _) _ (by exact HD9.out.below (Below.drewN_ _ _)) (by exact HR9.out.below (Below.drewN_ _ _))).mono ?_
    rintro e w' ⟨rfl, q2, rfl⟩
    go_wp2
    go_ret
    exact ⟨rfl, hw9.trans ((Below.drewN_ w9 _).mono hw9.size)⟩
end Go.Proofs.Ytgeihelpggncgaa
