/- Rings of int: pushed, popped, told, cleared. -/
import Derived.Test.YtgeihelpggncgaaRgaint
import Derived.WalkSpells
set_option linter.unusedSimpArgs false
set_option linter.unusedVariables false
namespace Go.Proofs.Ytgeihelpggncgaa.Rgint
open Go.RowKit Go.Shelf

theorem push_ok (F : Nat → Prop) (p room : Nat) (vs us : List Value) (B : Option Addr) (m d : Nat) (w : World) (h : Rg 60 3 F w p room vs) (hu : RdV w B m d us) (hB : 0 < m → ∀ ad, B = some ad → ¬ F ad.block) (hl : vs.length + m ≤ room) :
    Calls Try.prog 16 #[.pointer (some ⟨p, 0, none⟩), .slice B m d] w fun e w' => e = .returned (.int .i64 0) ∧ Did 60 3 F p room (vs ++ us) w w' := by
  have HRoom := Lib.hid (room_any F p room vs w h)
  have HW := h
  obtain ⟨h1, h2, h3, h4, A, n, c, h5, h6, h7, h8⟩ := h
  have hn := h6.1
  have hm : (m : Int) ≤ (room : Int) - vs.length := by omega
  have hmm := hu.1
  have hlen : (vs ++ us).length ≤ room := by rw [List.length_append]; omega
  have hk : (n + m) * 8 ≤ 140737488355328 := by omega
  have HL := Lib.hid hlen
  have HS := Lib.hid hn
  have HM := Lib.hid hmm
  clear hn hmm hlen
  go_enter Try.func16, Try.ntmps16
  go_wp2_with fail
  refine (made_any p room _ w h5 h2).mono ?_
  rintro e w' ⟨rfl, rfl⟩
  go_wp2_with fail
  refine HRoom.out.mono ?_
  rintro e w' ⟨rfl, q, rfl⟩
  have hpA : ¬ BlkOf A p := fun ⟨ad, h, h'⟩ => h7 ad h h'
  have hb := Below.drewN_ w q
  have h5' := h5.below hb
  have h6' := h6.below hb
  have hu' := hu.below hb
  have c1 := h5'.cell 1 rfl
  go_wp2_with (at_builtin
               refine wpList_append_lst elt rfl (.tmp 17) (.tmp 18) rfl rfl h6'.tight rfl (by exact hu') hk ?_
               rintro v w1 ⟨⟨A', n', c', rfl, hl'⟩, hst⟩
               have h51 := h5'.st hst hpA
               have f1 := h51.free 1
               have c2 := h51.cell 1 rfl
               clear c1)
  have hap : Apd 3 (BlkOf A) (w.drewN q) (.slice A' n' c') (vs ++ us) w1 := ⟨⟨A', n', c', rfl, hl'⟩, hst⟩
  have HD := Lib.hid (Rg.stored h1 h2 h3 HL.out h5' h6' h7 h8 hap)
  go_ret
  exact ⟨rfl, Did.trans (St.ext hb) (Gr.refl _ _) HD.out⟩
theorem push_full (F : Nat → Prop) (p room : Nat) (vs : List Value) (B : Option Addr) (m d : Nat) (w : World) (h : Rg 60 3 F w p room vs) (hm63 : m ≤ maxLen) (hl : room < vs.length + m) :
    Calls Try.prog 16 #[.pointer (some ⟨p, 0, none⟩), .slice B m d] w fun e w' => e = .returned (.int .i64 8) ∧ ∃ q, w' = w.drewN q := by
  have HRoom := Lib.hid (room_any F p room vs w h)
  unfold maxLen at hm63
  obtain ⟨h1, h2, h3, h4, A, n, c, h5, h6, h7, h8⟩ := h
  have hm : (room : Int) - vs.length < (m : Int) := by omega
  go_enter Try.func16, Try.ntmps16
  go_wp2_with fail
  refine (made_any p room _ w h5 h2).mono ?_
  rintro e w' ⟨rfl, rfl⟩
  go_wp2_with fail
  refine HRoom.out.mono ?_
  rintro e w' ⟨rfl, q, rfl⟩
  go_wp2
  go_ret
  exact ⟨rfl, _, rfl⟩
theorem push_no (P : Option Addr) (B : Option Addr) (m d : Nat) (w : World) (hp : NoRg 60 w P) :
    Calls Try.prog 16 #[.pointer P, .slice B m d] w fun e w' => e = .returned (.int .i64 4) ∧ w = w' := by
  go_enter Try.func16, Try.ntmps16
  go_wp2_with fail
  refine (made_no P w hp).mono ?_
  rintro e w' ⟨rfl, rfl⟩
  go_wp2
  go_ret
  exact ⟨rfl, rfl⟩

theorem pop_some (F : Nat → Prop) (p room : Nat) (v : Value) (vs : List Value) (w : World) (h : Rg 60 3 F w p room (v :: vs)) :
    Calls Try.prog 25 #[.pointer (some ⟨p, 0, none⟩)] w fun e w' => e = .returned (.tuple #[v, .bool true]) ∧ Did 60 3 F p room vs w w' := by
  have HPeek := Lib.hid (peek_any F p room (v :: vs) w h 0 (by simp))
  obtain ⟨h1, h2, h3, h4, A, n, c, h5, h6, h7, h8⟩ := h
  have hn := h6.1
  simp only [List.length_cons] at hn h4
  have hnc := h6.2.1
  have hcm := h6.2.2.1
  unfold maxLen at hcm
  have hn1 : 1 ≤ n := by omega
  obtain ⟨g, o, rfl, hg, hc⟩ := h6.rdv.cell (i := 0) hn1
  have hgp : g ≠ p := h7 _ rfl
  have hF : F g := (h6.blk _ rfl).1
  have f0 := h6.free rfl o
  have c1 := h5.cell 1 rfl
  have hcut1 : (Instr.slice 27 (.slice (some ⟨g, o, none⟩) n c) none (some (.int .i64 1)) none).run Try.prog w = .ok (.slice (some ⟨g, o, none⟩) 1 c) w := elt.run_pre (some ⟨g, o, none⟩) n c 1 (by omega) hnc w
  have h6' := (h6.set 0 hn1 (x := (.int .i64 0)) rfl).cut hn1
  have h5' := h5.far (p := ⟨g, o, none⟩) (by intro e; exact hgp e.symm) (.int .i64 0)
  have hcut2 : (Instr.slice 27 (.slice (some ⟨g, o, none⟩) n c) (some (.int .i64 1)) none none).run Try.prog (w.setCell ⟨g, o, none⟩ (.int .i64 0)) = .ok (.slice (cutA (some ⟨g, o, none⟩) c 1) (n - 1) (c - 1)) (w.setCell ⟨g, o, none⟩ (.int .i64 0)) := elt.run_cut (some ⟨g, o, none⟩) n c 1 hn1 hnc (w.setCell ⟨g, o, none⟩ (.int .i64 0))
  have c2 := h5'.cell 1 rfl
  have f2 := h5'.free 1
  have hne : ∀ ad, cutA (some ⟨g, o, none⟩) c 1 = some ad → ad.block ≠ p := by
    intro ad he
    have := (h6'.blk ad he).1
    unfold cutA at he
    split at he
    · injection he with he; subst he; exact hgp
    · simp [Addr.add] at he; subst he; exact hgp
  have HD : Hid (Did 60 3 F p room vs w ((w.setCell ⟨g, o, none⟩ (.int .i64 0)).setCell ⟨p, 1, none⟩ (.slice (cutA (some ⟨g, o, none⟩) c 1) (n - 1) (c - 1)))) := by
    refine Lib.hid ⟨F, ⟨h1, h2, h3, by omega, _, _, _, h5'.set 1 _, ?_, hne, by simpa [World.setCell] using h8⟩, ?_, Gr.refl _ _⟩
    · have := h6'.far (p := ⟨p, 1, none⟩) (fun ad he => hne ad he) (.slice (cutA (some ⟨g, o, none⟩) c 1) (n - 1) (c - 1))
      simpa using this
    · exact (St.setCell w (a := ⟨g, o, none⟩) hF _).trans (St.setCell _ (a := ⟨p, 1, none⟩) h1 _) (Gr.refl _ _)
  generalize hX : cutA (some ⟨g, o, none⟩) c 1 = X at *
  have HN := Lib.hid hn
  have HC := Lib.hid hc
  clear hn h6' hne h6 h7 hX hc
  go_enter Try.func25, Try.ntmps25
  go_wp2_with fail
  refine HPeek.out.mono ?_
  rintro e w' ⟨rfl, rfl⟩
  have hci : (w.cell? ⟨g, o, none⟩).isSome = true := by have := HC.out; rw [Nat.add_zero] at this; rw [this]; rfl
  go_wp2_with (refine wpList_clear_one elt rfl (.tmp 16) rfl rfl hci f0 ?_)
  clear hci
  go_wp2
  go_ret2
  exact ⟨rfl, HD.out⟩
theorem pop_none (F : Nat → Prop) (p room : Nat) (w : World) (h : Rg 60 3 F w p room []) :
    Calls Try.prog 25 #[.pointer (some ⟨p, 0, none⟩)] w fun e w' => e = .returned (.tuple #[(.int .i64 0), .bool false]) ∧ w = w' := by
  have HPeek := Lib.hid (peek_out F p room [] w h 0 (by simp))
  go_enter Try.func25, Try.ntmps25
  go_wp2_with fail
  refine HPeek.out.mono ?_
  rintro e w' ⟨rfl, rfl⟩
  go_wp2
  go_ret2
  exact ⟨rfl, rfl⟩
theorem pop_no (P : Option Addr) (w : World) (hp : NoRg 60 w P) :
    Calls Try.prog 25 #[.pointer P] w fun e w' => e = .returned (.tuple #[(.int .i64 0), .bool false]) ∧ w = w' := by
  go_enter Try.func25, Try.ntmps25
  go_wp2_with fail
  refine (peek_no P w hp 0 (by omega)).mono ?_
  rintro e w' ⟨rfl, rfl⟩
  go_wp2
  go_ret2
  exact ⟨rfl, rfl⟩

theorem clone_any (A : Option Addr) (n c : Nat) (vs : List Value) (w : World) (h : RdV w A n c vs) (hn : n ≤ 1000000) :
    Calls Try.prog 35 #[.slice A n c] w (Made 3 vs w) := by
  cases A with
  | none =>
    obtain rfl : c = 0 := h.2.2.2.1 rfl
    obtain rfl : n = 0 := by have := h.2.1; omega
    obtain rfl : vs = [] := List.eq_nil_of_length_eq_zero h.1
    have he : (binOp .eql 27 (.slice none 0 0) (.slice none 0 0)).run Try.prog w = .ok (.bool true) w := Lib.run_eql_slice_nil w _ _ none 0 0 0 0 elt.ht
    go_enter Try.func35, Try.ntmps35
    go_wp2
    go_ret
    exact ⟨none, 0, 0, rfl, Lst.nil _ _ _, Below.refl _ _⟩
  | some a =>
    have he : (binOp .eql 27 (.slice (some a) n c) (.slice none 0 0)).run Try.prog w = .ok (.bool false) w := Lib.run_eql_slice_nil w _ _ (some a) n c 0 0 elt.ht
    have hl : Lst 3 (BlkOf (some ⟨w.heap.size, 0, none⟩)) (w.alloc (.cells #[] 3)) (some ⟨w.heap.size, 0, none⟩) 0 0 [] := (Lst.made w 3 #[] 0 [] rfl (Nat.le_refl _) (Nat.zero_le _) (by simp) (by simp)).tight
    have hr := h.alloc (.cells #[] 3)
    go_enter Try.func35, Try.ntmps35
    go_wp2_with (at_builtin
                 refine wpList_append_lst elt rfl (.tmp 5) (.tmp 6) rfl rfl hl rfl hr (by omega) ?_
                 rintro v w1 ⟨⟨A', n', c', rfl, hl'⟩, hst⟩)
    have hn' : n' = n := by have := hl'.1; have := h.1; simp at *; omega
    go_ret
    refine ⟨A', n', c', rfl, hl'.mono ?_, ?_⟩
    · rintro k (⟨ad, he, rfl⟩ | hk)
      · injection he with he; subst he; exact Nat.le_refl _
      · simp at hk; omega
    · refine ((Below.refl _ w).alloc (Nat.le_refl _) (.cells #[] 3)).trans (hst.below (by simp) ?_)
      rintro k ⟨ad, he, rfl⟩
      injection he with he; subst he; exact Nat.le_refl _
theorem list_any (F : Nat → Prop) (p room : Nat) (vs : List Value) (w : World) (h : Rg 60 3 F w p room vs) :
    Calls Try.prog 12 #[.pointer (some ⟨p, 0, none⟩)] w (Made 3 vs w) := by
  obtain ⟨h1, h2, h3, h4, A, n, c, h5, h6, h7, h8⟩ := h
  have c1 := h5.cell 1 rfl
  have hn : n ≤ 1000000 := by have := h6.1; omega
  have HC := Lib.hid (clone_any A n c vs w h6.rdv hn)
  go_enter Try.func12, Try.ntmps12
  go_wp2_with fail
  refine (made_any p room _ w h5 h2).mono ?_
  rintro e w' ⟨rfl, rfl⟩
  go_wp2_with fail
  refine HC.out.mono ?_
  rintro e w' ⟨A', n', c', rfl, hl, hb⟩
  go_wp2
  go_ret
  exact ⟨A', n', c', rfl, hl, hb⟩
theorem list_no (P : Option Addr) (w : World) (hp : NoRg 60 w P) :
    Calls Try.prog 12 #[.pointer P] w (Made 3 [] w) := by
  go_enter Try.func12, Try.ntmps12
  go_wp2_with fail
  refine (made_no P w hp).mono ?_
  rintro e w' ⟨rfl, rfl⟩
  go_wp2
  go_ret
  exact ⟨none, 0, 0, rfl, Lst.nil _ _ _, Below.refl _ _⟩
end Go.Proofs.Ytgeihelpggncgaa.Rgint
