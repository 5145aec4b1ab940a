/- Queues of packets in memory: made, asked. -/
import Derived.Test.YtbhhgfpliggkgaaP1
import Derived.Deep.QuietTactic
import Derived.BigQuiet
import Derived.WalkSpells
set_option linter.unusedSimpArgs false
set_option linter.unusedVariables false
set_option maxRecDepth 100000
namespace Go.Proofs.Ytbhhgfpliggkgaa
open Go.RowKit Go.Shelf

/-- Block p holds a queue for room packets, which are qs; all of it lies in the blocks of F. -/
def Qs (F : Nat → Prop) (w : World) (p room : Nat) (qs : List Pv) : Prop :=
  F p ∧ 0 < room ∧ room ≤ 1024 ∧ qs.length ≤ room ∧ ∃ A n c, n = qs.length ∧ Bk w 124 p [.int .i64 room, .slice A n c] ∧ LstR 9 65 F w A n c (flat Pv.cl qs) ∧ (∀ ad, A = some ad → ad.block ≠ p) ∧ ∀ k, F k → k < w.heap.size
section
variable {F F' : Nat → Prop} {w w' : World} {p room : Nat} {qs : List Pv}
theorem Qs.mono (h : Qs F w p room qs) (hF : ∀ k, F k → F' k) (hb : ∀ k, F' k → k < w.heap.size) : Qs F' w p room qs := by
  obtain ⟨h1, h2, h3, h4, A, n, c, h5, h6, h7, h8, h9⟩ := h
  exact ⟨hF _ h1, h2, h3, h4, A, n, c, h5, h6, h7.mono hF, h8, hb⟩
theorem Qs.st (h : Qs F w p room qs) {G : Nat → Prop} (hs : St G w w') (hG : ∀ k, F k → ¬ G k) : Qs F w' p room qs := by
  obtain ⟨h1, h2, h3, h4, A, n, c, h5, h6, h7, h8, h9⟩ := h
  exact ⟨h1, h2, h3, h4, A, n, c, h5, h6.st hs (hG _ h1), h7.st hs hG, h8, fun k hk => Nat.lt_of_lt_of_le (h9 k hk) hs.size⟩
theorem Qs.below (h : Qs F w p room qs) (hb : Below w.heap.size w w') : Qs F w' p room qs := by
  obtain ⟨h1, h2, h3, h4, A, n, c, h5, h6, h7, h8, h9⟩ := h
  exact ⟨h1, h2, h3, h4, A, n, c, h5, h6.below hb, h7.below hb, h8, fun k hk => Nat.lt_of_lt_of_le (h9 k hk) hb.size⟩
theorem Qs.at (h : Qs F w p room qs) : F p := h.1
theorem Qs.bd (h : Qs F w p room qs) : ∀ k, F k → k < w.heap.size := by
  obtain ⟨_, _, _, _, _, _, _, _, _, _, _, h9⟩ := h
  exact h9
theorem Qs.lt (h : Qs F w p room qs) : p < w.heap.size := h.bd _ h.1
theorem Qs.le (h : Qs F w p room qs) : qs.length ≤ room := h.2.2.2.1
/-- The queue holds these now; nothing else of what was there has changed. -/
def DidQ (F : Nat → Prop) (p room : Nat) (qs : List Pv) (w w' : World) : Prop := ∃ F', Qs F' w' p room qs ∧ St F w w' ∧ Gr F F' w.heap.size
theorem DidQ.refl (h : Qs F w p room qs) : DidQ F p room qs w w := ⟨F, h, St.refl _ _, Gr.refl _ _⟩
theorem DidQ.trans {us : List Pv} {w1 : World} {F1 : Nat → Prop} (hs : St F w w1) (hg : Gr F F1 w.heap.size) (h : DidQ F1 p room us w1 w') : DidQ F p room us w w' := by
  obtain ⟨F', h1, h2, h3⟩ := h
  exact ⟨F', h1, hs.trans h2 hg, hg.trans h3 hs.size⟩
/-- A slice of packets of its own, just made. -/
def MadeQ (qs : List Pv) (w : World) (en : Ending) (w' : World) : Prop := ∃ A n c, en = .returned (.slice A n c) ∧ n = qs.length ∧ LstR 9 65 (w.heap.size ≤ ·) w' A n c (flat Pv.cl qs) ∧ Below w.heap.size w w'
theorem Qs.stored {A : Option Addr} {n c : Nat} {us : List Pv} {l : Value} {w1 : World} (hp : F p) (h0 : 0 < room) (h1 : room ≤ 1024) (hl : us.length ≤ room)
    (h5 : Bk w 124 p [.int .i64 room, .slice A n c]) (h6 : LstR 9 65 F w A n c (flat Pv.cl qs)) (h7 : ∀ ad, A = some ad → ad.block ≠ p) (h8 : ∀ k, F k → k < w.heap.size) (ha : ApdR 9 65 (BlkOf A) w l (flat Pv.cl us) w1) : DidQ F p room us w (w1.setCell ⟨p, 1, none⟩ l) := by
  obtain ⟨⟨A', n', c', rfl, hl'⟩, hst⟩ := ha
  have hne : ∀ ad, A' = some ad → ad.block ≠ p := by
    intro ad he
    rcases (hl'.blk ad he).1 with ⟨ad0, h, h'⟩ | h
    · rw [← h']; exact h7 _ h
    · have := h5.lt; omega
  have hpA : ¬ BlkOf A p := fun ⟨ad, h, h'⟩ => h7 ad h h'
  have hn' : n' = us.length := by have := hl'.1; rw [flat_len Pv.cl_len] at this; omega
  have hl2 : LstR 9 65 (fun k => (F k ∨ w.heap.size ≤ k) ∧ k < w1.heap.size) w1 A' n' c' (flat Pv.cl us) := by
    refine hl'.tight.mono ?_
    rintro k ⟨ad, h, rfl⟩
    refine ⟨?_, (hl'.blk _ h).2⟩
    rcases (hl'.blk _ h).1 with ⟨ad0, h', e'⟩ | h'
    · rw [← e']; exact .inl (h6.blk _ h').1
    · exact .inr h'
  refine ⟨fun k => (F k ∨ w.heap.size ≤ k) ∧ k < w1.heap.size, ⟨⟨.inl hp, Nat.lt_of_lt_of_le (h8 _ hp) hst.size⟩, h0, h1, hl, A', n', c', hn', (h5.st hst hpA).set 1 _, hl2.far (fun ad he => hne ad he) _, hne, fun k hk => by simpa [World.setCell] using hk.2⟩, ?_, fun k hk => hk.1⟩
  refine (hst.mono ?_).trans (St.setCell w1 (a := ⟨p, 1, none⟩) hp _) (Gr.refl _ _)
  rintro k _ ⟨ad, h, rfl⟩
  exact (h6.blk _ h).1
end
/-- The first of a list of packets, or none. -/
def hdQ (qs : List Pv) : Pv := qs.head?.getD zPv
section
variable {F : Nat → Prop} {w : World} {p room : Nat} {qs : List Pv}
theorem q_made (p : Nat) (room : Nat) (l : Value) (w : World) (hp : Bk w 124 p [.int .i64 room, l]) (h0 : 0 < room) :
    Calls Try.prog 66 #[.pointer (some ⟨p, 0, none⟩)] w fun e w' => e = .returned (.bool true) ∧ w = w' := by
  go_enter Try.func66, Try.ntmps66
  have c0 := hp.cell 0 rfl
  go_wp2
  go_ret
  exact ⟨rfl, rfl⟩
theorem q_new (room : Nat) (w : World) (h0 : 0 < room) (h1 : room ≤ 1024) :
    Calls Try.prog 43 #[.int .i64 room] w fun e w' => e = .returned (.tuple #[.pointer (some ⟨w.heap.size, 0, none⟩), .int .i64 0]) ∧ Qs (· = w.heap.size) w' w.heap.size room [] ∧ Below w.heap.size w w' := by
  go_enter Try.func43, Try.ntmps43
  go_wp2
  go_ret2
  exact ⟨rfl, ⟨rfl, h0, h1, Nat.zero_le _, none, 0, 0, rfl, Bk.new w _ [.int .i64 room, .slice none 0 0], LstR.nil _ _ _ _, by simp, by simp⟩, (Below.refl _ _).alloc (Nat.le_refl _) _⟩
theorem q_len (h : Qs F w p room qs) :
    Calls Try.prog 56 #[.pointer (some ⟨p, 0, none⟩)] w fun e w' => e = .returned (.int .i64 qs.length) ∧ w = w' := by
  obtain ⟨h1, h2, h3, h4, A, n, c, hn, h5, h6, h7, h8⟩ := h
  have c1 := h5.cell 1 rfl
  have HL := Lib.hid hn
  clear hn
  go_enter Try.func56, Try.ntmps56
  go_wp2_with fail
  refine (q_made p room _ w h5 h2).mono ?_
  rintro e w' ⟨rfl, rfl⟩
  go_wp2
  go_ret
  exact ⟨by rw [HL.out]; rfl, rfl⟩
theorem q_room (h : Qs F w p room qs) :
    Calls Try.prog 67 #[.pointer (some ⟨p, 0, none⟩)] w fun e w' => e = .returned (.int .i64 (room - qs.length)) ∧ Below w.heap.size w w' := by
  obtain ⟨h1, h2, h3, h4, A, n, c, hn, h5, h6, h7, h8⟩ := h
  have c0 := h5.cell 0 rfl
  have c1 := h5.cell 1 rfl
  have hnr : n ≤ room := by omega
  have HL := Lib.hid hn
  clear hn h4
  go_enter Try.func67, Try.ntmps67
  go_wp2_with fail
  refine (q_made p room _ w h5 h2).mono ?_
  rintro e w' ⟨rfl, rfl⟩
  go_wp2
  go_quiet (fail)
  go_wp2
  go_ret
  exact ⟨by rw [HL.out]; rfl, Below.drewN_ _ _⟩
theorem q_lenB (h : Qs F w p room qs) :
    Calls Try.prog 56 #[.pointer (some ⟨p, 0, none⟩)] w fun e w' => e = .returned (.int .i64 qs.length) ∧ Below w.heap.size w w' :=
  (q_len h).mono fun e w' hh => ⟨hh.1, hh.2 ▸ Below.refl _ _⟩
set_option maxHeartbeats 1000000 in
theorem q_peek (q : Pv) (qs : List Pv) (h : Qs F w p room (q :: qs)) :
    Calls Try.prog 65 #[.pointer (some ⟨p, 0, none⟩), .int .i64 0] w fun e w' => e = .returned (.tuple #[.agg #[.int .i64 q.h.kd, .int .i64 q.h.fl, .int .i64 q.h.pa, .int .i64 q.h.sr, .int .i64 q.h.ds, .int .i64 q.h.cn, .int .i64 q.h.sq, .int .i64 q.h.pu, .slice q.A q.n q.c], .bool true]) ∧ Below w.heap.size w w' := by
  have hpos : ((q :: qs).length : Int) = (qs.length : Int) + 1 := by simp
  have HLen : ∀ o, Calls Try.prog 56 #[.pointer (some ⟨p, 0, none⟩)] (w.alloc o) fun e w' => e = .returned (.int .i64 ((qs.length : Int) + 1)) ∧ Below (w.alloc o).heap.size (w.alloc o) w' := fun o => by
    rw [← hpos]; exact q_lenB (h.below ((Below.refl _ _).alloc (Nat.le_refl _) o))
  have HLen' := Lib.hid HLen
  have HH := Lib.hid h
  clear hpos HLen h
  go_enter Try.func65, Try.ntmps65
  go_wp2_with fail
  refine (HLen'.out _).mono ?_
  rintro e w1 ⟨rfl, hb1⟩
  obtain ⟨hz, hb⟩ := pk_new hb1
  have h := HH.out.below hb
  clear hb1 HLen' HH
  obtain ⟨h1, h2, h3, h4, A, n, c, hn, h5, h6, h7, h8⟩ := h
  have hin : 0 < n := by rw [hn]; simp
  have hnc := h6.2.1
  obtain ⟨g, o, rfl, hg, hra⟩ := h6.rd.range hin
  have hrow := flat_row Pv.cl_len (q :: qs) 0 (by simp)
  simp only [Nat.zero_mul, Nat.add_zero, List.drop_zero, List.getElem_cons_zero] at hrow hra
  rw [hrow] at hra
  have c1 := h5.cell 1 rfl
  clear hn h6 hrow h4
  go_wp2_with (first
    | (with_reducible refine at_load 65 (.tmp 21) (by rfl) ?_; refine wpList_load_pk rowP rfl (.tmp 21) rfl q g o rfl hra ?_)
    | (with_reducible refine at_store 65 (.tmp 4) (.tmp 22) (by rfl) ?_; refine wpList_put_pk rowP rfl (.tmp 4) (.tmp 22) rfl w.heap.size rfl hz rfl q rfl ?_; rintro w2 hz2 hw2))
  exact bodyPost_ret (results_cell_tmp rfl rfl (load_pk rowP hz2)) rfl ⟨rfl, hb.trans (hw2.below (Nat.le_refl _) hb.size)⟩
set_option maxHeartbeats 1000000 in
theorem q_peek_none (h : Qs F w p room []) :
    Calls Try.prog 65 #[.pointer (some ⟨p, 0, none⟩), .int .i64 0] w fun e w' => e = .returned (.tuple #[.agg #[.int .i64 0, .int .i64 0, .int .i64 0, .int .i64 0, .int .i64 0, .int .i64 0, .int .i64 0, .int .i64 0, .slice none 0 0], .bool false]) ∧ Below w.heap.size w w' := by
  have HLen : ∀ o, Calls Try.prog 56 #[.pointer (some ⟨p, 0, none⟩)] (w.alloc o) fun e w' => e = .returned (.int .i64 0) ∧ Below (w.alloc o).heap.size (w.alloc o) w' := fun o => q_lenB (h.below ((Below.refl _ _).alloc (Nat.le_refl _) o))
  have HLen' := Lib.hid HLen
  clear HLen
  go_enter Try.func65, Try.ntmps65
  go_wp2_with fail
  refine (HLen'.out _).mono ?_
  rintro e w1 ⟨rfl, hb1⟩
  obtain ⟨hz, hb⟩ := pk_new hb1
  have hz' := hz.alloc (.cells (List.toArray [.int .i64 0, .int .i64 0, .int .i64 0, .int .i64 0, .int .i64 0, .int .i64 0, .int .i64 0, .int .i64 0, .slice none 0 0]) 65)
  have hz3 := Bk.new w1 65 [.int .i64 0, .int .i64 0, .int .i64 0, .int .i64 0, .int .i64 0, .int .i64 0, .int .i64 0, .int .i64 0, .slice none 0 0]
  have hb3 := hb.alloc hb.size (.cells (List.toArray [.int .i64 0, .int .i64 0, .int .i64 0, .int .i64 0, .int .i64 0, .int .i64 0, .int .i64 0, .int .i64 0, .slice none 0 0]) 65)
  clear hb1 HLen'
  go_wp2_with (first
    | (with_reducible refine at_load 65 (.tmp 6) (by rfl) ?_; refine wpList_load_pk rowP rfl (.tmp 6) rfl zPv w1.heap.size 0 rfl (Bk.pk (q := zPv) hz3) ?_)
    | (with_reducible refine at_store 65 (.tmp 4) (.tmp 15) (by rfl) ?_; refine wpList_put_pk rowP rfl (.tmp 4) (.tmp 15) rfl w.heap.size rfl hz' rfl zPv rfl ?_; rintro w2 hz2 hw2))
  exact bodyPost_ret (results_cell_tmp rfl rfl (load_pk rowP hz2)) rfl ⟨rfl, hb3.trans (hw2.below (Nat.le_refl _) hb3.size)⟩
theorem q_push (us : List Pv) (B : Option Addr) (m d : Nat) (h : Qs F w p room qs) (hm : m = us.length) (hu : RdR 9 w B m d (flat Pv.cl us)) (hl : qs.length + m ≤ room) :
    Calls Try.prog 53 #[.pointer (some ⟨p, 0, none⟩), .slice B m d] w fun e w' => e = .returned (.int .i64 0) ∧ DidQ F p room (qs ++ us) w w' := by
  have HRoom := Lib.hid (q_room h)
  obtain ⟨h1, h2, h3, h4, A, n, c, hn, h5, h6, h7, h8⟩ := h
  have hmr : (m : Int) ≤ (room : Int) - qs.length := by omega
  have hlen : (qs ++ us).length ≤ room := by rw [List.length_append]; omega
  have hk : (n + m) * 88 ≤ 140737488355328 := by omega
  have HL := Lib.hid hlen
  have HN := Lib.hid hn
  have HM := Lib.hid hm
  have HF := Lib.hid (flat_app (cl := Pv.cl) qs us)
  clear hn hm hlen h4 hl
  go_enter Try.func53, Try.ntmps53
  go_wp2_with fail
  refine (q_made p room _ w h5 h2).mono ?_
  rintro e w' ⟨rfl, rfl⟩
  go_wp2_with fail
  refine HRoom.out.mono ?_
  rintro e w0 ⟨rfl, hb⟩
  have hpA : ¬ BlkOf A p := fun ⟨ad, h, h'⟩ => h7 ad h h'
  have h5' := h5.below hb
  have h6' := h6.below hb
  have hu' := hu.below hb
  have c1 := h5'.cell 1 rfl
  go_wp2_with (at_builtin
               refine wpList_append_lstR eltP rfl (.tmp 17) (.tmp 18) rfl rfl h6'.tight rfl (by exact hu') hk ?_
               rintro v w1 ⟨⟨A', n', c', rfl, hl'⟩, hst⟩
               have h51 := h5'.st hst hpA
               have f1 := h51.free 1
               have c2 := h51.cell 1 rfl
               clear c1)
  rw [← HF.out] at hl'
  have hap : ApdR 9 65 (BlkOf A) w0 (.slice A' n' c') (flat Pv.cl (qs ++ us)) w1 := ⟨⟨A', n', c', rfl, hl'⟩, hst⟩
  have HD := Lib.hid (Qs.stored h1 h2 h3 HL.out h5' h6' h7 (fun k hk => Nat.lt_of_lt_of_le (h8 k hk) hb.size) hap)
  go_ret
  exact ⟨rfl, DidQ.trans (St.ext hb) (Gr.refl _ _) HD.out⟩
end
end Go.Proofs.Ytbhhgfpliggkgaa
