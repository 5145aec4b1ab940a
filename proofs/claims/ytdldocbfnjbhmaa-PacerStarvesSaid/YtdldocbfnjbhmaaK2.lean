/- Queues of packets in memory: made, asked. -/
import Derived.Test.YtdldocbfnjbhmaaK1
import Derived.Deep.QuietTactic
import Derived.BigQuiet
import Derived.WalkSpells
set_option linter.unusedSimpArgs false
set_option linter.unusedVariables false
set_option maxRecDepth 100000
namespace Go.Proofs.Ytdldocbfnjbhmaa
open Go.RowKit Go.Shelf

section
variable {P : Program} {w w' : World} {ops : Array Oper} {rest : List Oper} {op : Oper} {a : Act} {Q : Exit → Act → World → Prop}
/-- A key is loaded, stored whole. -/
theorem wpList_load_pk {e : TypeId} (R : Row P e 2) (hgd : op.guard = none) (x : Operand) (ho : op.op = .load e x) (q : Ky) (g o : Nat) (hx : a.eval x = .pointer (some ⟨g, o, none⟩)) (h : w.rangeAt g o q.cl)
    (hq : wpList P ops Q rest (a.put op.dst (.agg #[.int .i64 q.s, .int .i64 q.c])) w) : wpList P ops Q (op :: rest) a w := by
  obtain ⟨d, h1, h2⟩ := R.ht
  exact wpList_load_mid hgd e x ho g o hx q.cl d h h1 h2 R.hi hq
theorem Bk.pk {t : TypeId} {g : Nat} {q : Ky} (h : Bk w t g q.cl) : w.rangeAt g 0 q.cl := fun j v hv => h.cell (0 + j) (by rw [Nat.zero_add]; exact hv)
theorem load_pk {e t : TypeId} (R : Row P e 2) {g : Nat} {q : Ky} (h : Bk w t g q.cl) : (loadVar e ⟨g, 0, none⟩).run P w = .ok (.agg #[.int .i64 q.s, .int .i64 q.c]) w := R.load h 0 q.cl_len rfl
theorem wpList_put_pk {e t : TypeId} (R : Row P e 2) (hgd : op.guard = none) (x y : Operand) (ho : op.op = .store e x y) (g : Nat) (hx : a.eval x = .pointer (some ⟨g, 0, none⟩)) {vs : List Value} (h : Bk w t g vs) (hv : vs.length = 2) (q : Ky) (hy : a.eval y = .agg #[.int .i64 q.s, .int .i64 q.c])
    (hq : ∀ w', Bk w' t g q.cl → Wr g w w' → wpList P ops Q rest (a.put op.dst undef) w') : wpList P ops Q (op :: rest) a w :=
  wpList_store_bk R hgd x y ho g 0 hx h q.cl hy q.cl_len (by rw [hv]; decide) q.cl_one fun w' h' hw => hq w' (by rw [lay_all _ _ (by rw [hv]; rfl)] at h'; exact h') hw
theorem pk_new {t : TypeId} (h : Below (w.alloc (.cells #[.int .i64 0, .int .i64 0] t)).heap.size (w.alloc (.cells #[.int .i64 0, .int .i64 0] t)) w') : Bk w' t w.heap.size [.int .i64 0, .int .i64 0] ∧ Below w.heap.size w w' :=
  ⟨(Bk.new w t [.int .i64 0, .int .i64 0]).below h, ((Below.refl _ w).alloc (Nat.le_refl _) _).trans (h.mono (by simp))⟩
end
/-- Block p holds a queue for room packets, which are qs; all of it lies in the blocks of F. -/
def Qs (F : Nat → Prop) (w : World) (p room : Nat) (qs : List Ky) : Prop :=
  F p ∧ 0 < room ∧ room ≤ 1024 ∧ qs.length ≤ room ∧ ∃ A n c, n = qs.length ∧ Bk w 95 p [.int .i64 room, .slice A n c] ∧ LstR 2 39 F w A n c (flat Ky.cl qs) ∧ (∀ ad, A = some ad → ad.block ≠ p) ∧ ∀ k, F k → k < w.heap.size
section
variable {F F' : Nat → Prop} {w w' : World} {p room : Nat} {qs : List Ky}
theorem Qs.mono (h : Qs F w p room qs) (hF : ∀ k, F k → F' k) (hb : ∀ k, F' k → k < w.heap.size) : Qs F' w p room qs := by
  obtain ⟨h1, h2, h3, h4, A, n, c, h5, h6, h7, h8, h9⟩ := h
  exact ⟨hF _ h1, h2, h3, h4, A, n, c, h5, h6, h7.mono hF, h8, hb⟩
theorem Qs.st (h : Qs F w p room qs) {G : Nat → Prop} (hs : St G w w') (hG : ∀ k, F k → ¬ G k) : Qs F w' p room qs := by
  obtain ⟨h1, h2, h3, h4, A, n, c, h5, h6, h7, h8, h9⟩ := h
  exact ⟨h1, h2, h3, h4, A, n, c, h5, h6.st hs (hG _ h1), h7.st hs hG, h8, fun k hk => Nat.lt_of_lt_of_le (h9 k hk) hs.size⟩
theorem Qs.below (h : Qs F w p room qs) (hb : Below w.heap.size w w') : Qs F w' p room qs := by
  obtain ⟨h1, h2, h3, h4, A, n, c, h5, h6, h7, h8, h9⟩ := h
  exact ⟨h1, h2, h3, h4, A, n, c, h5, h6.below hb, h7.below hb, h8, fun k hk => Nat.lt_of_lt_of_le (h9 k hk) hb.size⟩
theorem Qs.at (h : Qs F w p room qs) : F p := h.1
theorem Qs.bd (h : Qs F w p room qs) : ∀ k, F k → k < w.heap.size := by
  obtain ⟨_, _, _, _, _, _, _, _, _, _, _, h9⟩ := h
  exact h9
theorem Qs.lt (h : Qs F w p room qs) : p < w.heap.size := h.bd _ h.1
theorem Qs.le (h : Qs F w p room qs) : qs.length ≤ room := h.2.2.2.1
/-- The queue holds these now; nothing else of what was there has changed. -/
def DidQ (F : Nat → Prop) (p room : Nat) (qs : List Ky) (w w' : World) : Prop := ∃ F', Qs F' w' p room qs ∧ St F w w' ∧ Gr F F' w.heap.size
theorem DidQ.refl (h : Qs F w p room qs) : DidQ F p room qs w w := ⟨F, h, St.refl _ _, Gr.refl _ _⟩
theorem DidQ.trans {us : List Ky} {w1 : World} {F1 : Nat → Prop} (hs : St F w w1) (hg : Gr F F1 w.heap.size) (h : DidQ F1 p room us w1 w') : DidQ F p room us w w' := by
  obtain ⟨F', h1, h2, h3⟩ := h
  exact ⟨F', h1, hs.trans h2 hg, hg.trans h3 hs.size⟩
/-- A slice of packets of its own, just made. -/
def MadeQ (qs : List Ky) (w : World) (en : Ending) (w' : World) : Prop := ∃ A n c, en = .returned (.slice A n c) ∧ n = qs.length ∧ LstR 2 39 (w.heap.size ≤ ·) w' A n c (flat Ky.cl qs) ∧ Below w.heap.size w w'
theorem Qs.stored {A : Option Addr} {n c : Nat} {us : List Ky} {l : Value} {w1 : World} (hp : F p) (h0 : 0 < room) (h1 : room ≤ 1024) (hl : us.length ≤ room)
    (h5 : Bk w 95 p [.int .i64 room, .slice A n c]) (h6 : LstR 2 39 F w A n c (flat Ky.cl qs)) (h7 : ∀ ad, A = some ad → ad.block ≠ p) (h8 : ∀ k, F k → k < w.heap.size) (ha : ApdR 2 39 (BlkOf A) w l (flat Ky.cl us) w1) : DidQ F p room us w (w1.setCell ⟨p, 1, none⟩ l) := by
  obtain ⟨⟨A', n', c', rfl, hl'⟩, hst⟩ := ha
  have hne : ∀ ad, A' = some ad → ad.block ≠ p := by
    intro ad he
    rcases (hl'.blk ad he).1 with ⟨ad0, h, h'⟩ | h
    · rw [← h']; exact h7 _ h
    · have := h5.lt; omega
  have hpA : ¬ BlkOf A p := fun ⟨ad, h, h'⟩ => h7 ad h h'
  have hn' : n' = us.length := by have := hl'.1; rw [flat_len Ky.cl_len] at this; omega
  have hl2 : LstR 2 39 (fun k => (F k ∨ w.heap.size ≤ k) ∧ k < w1.heap.size) w1 A' n' c' (flat Ky.cl us) := by
    refine hl'.tight.mono ?_
    rintro k ⟨ad, h, rfl⟩
    refine ⟨?_, (hl'.blk _ h).2⟩
    rcases (hl'.blk _ h).1 with ⟨ad0, h', e'⟩ | h'
    · rw [← e']; exact .inl (h6.blk _ h').1
    · exact .inr h'
  refine ⟨fun k => (F k ∨ w.heap.size ≤ k) ∧ k < w1.heap.size, ⟨⟨.inl hp, Nat.lt_of_lt_of_le (h8 _ hp) hst.size⟩, h0, h1, hl, A', n', c', hn', (h5.st hst hpA).set 1 _, hl2.far (fun ad he => hne ad he) _, hne, fun k hk => by simpa [World.setCell] using hk.2⟩, ?_, fun k hk => hk.1⟩
  refine (hst.mono ?_).trans (St.setCell w1 (a := ⟨p, 1, none⟩) hp _) (Gr.refl _ _)
  rintro k _ ⟨ad, h, rfl⟩
  exact (h6.blk _ h).1
end
/-- The first of a list of packets, or none. -/
def hdQ (qs : List Ky) : Ky := qs.head?.getD zK
section
variable {F : Nat → Prop} {w : World} {p room : Nat} {qs : List Ky}
theorem q_made (p : Nat) (room : Nat) (l : Value) (w : World) (hp : Bk w 95 p [.int .i64 room, l]) (h0 : 0 < room) :
    Calls Try.prog 45 #[.pointer (some ⟨p, 0, none⟩)] w fun e w' => e = .returned (.bool true) ∧ w = w' := by
  go_enter Try.func45, Try.ntmps45
  have c0 := hp.cell 0 rfl
  go_wp2
  go_ret
  exact ⟨rfl, rfl⟩
theorem q_new (room : Nat) (w : World) (h0 : 0 < room) (h1 : room ≤ 1024) :
    Calls Try.prog 26 #[.int .i64 room] w fun e w' => e = .returned (.tuple #[.pointer (some ⟨w.heap.size, 0, none⟩), .int .i64 0]) ∧ Qs (· = w.heap.size) w' w.heap.size room [] ∧ Below w.heap.size w w' := by
  go_enter Try.func26, Try.ntmps26
  go_wp2
  go_ret2
  exact ⟨rfl, ⟨rfl, h0, h1, Nat.zero_le _, none, 0, 0, rfl, Bk.new w _ [.int .i64 room, .slice none 0 0], LstR.nil _ _ _ _, by simp, by simp⟩, (Below.refl _ _).alloc (Nat.le_refl _) _⟩
theorem q_len (h : Qs F w p room qs) :
    Calls Try.prog 49 #[.pointer (some ⟨p, 0, none⟩)] w fun e w' => e = .returned (.int .i64 qs.length) ∧ w = w' := by
  obtain ⟨h1, h2, h3, h4, A, n, c, hn, h5, h6, h7, h8⟩ := h
  have c1 := h5.cell 1 rfl
  have HL := Lib.hid hn
  clear hn
  go_enter Try.func49, Try.ntmps49
  go_wp2_with fail
  refine (q_made p room _ w h5 h2).mono ?_
  rintro e w' ⟨rfl, rfl⟩
  go_wp2
  go_ret
  exact ⟨by rw [HL.out]; rfl, rfl⟩
theorem q_room (h : Qs F w p room qs) :
    Calls Try.prog 46 #[.pointer (some ⟨p, 0, none⟩)] w fun e w' => e = .returned (.int .i64 (room - qs.length)) ∧ Below w.heap.size w w' := by
  obtain ⟨h1, h2, h3, h4, A, n, c, hn, h5, h6, h7, h8⟩ := h
  have c0 := h5.cell 0 rfl
  have c1 := h5.cell 1 rfl
  have hnr : n ≤ room := by omega
  have HL := Lib.hid hn
  clear hn h4
  go_enter Try.func46, Try.ntmps46
  go_wp2_with fail
  refine (q_made p room _ w h5 h2).mono ?_
  rintro e w' ⟨rfl, rfl⟩
  go_wp2
  go_quiet (fail)
  go_wp2
  go_ret
  exact ⟨by rw [HL.out]; rfl, Below.drewN_ _ _⟩
theorem q_lenB (h : Qs F w p room qs) :
    Calls Try.prog 49 #[.pointer (some ⟨p, 0, none⟩)] w fun e w' => e = .returned (.int .i64 qs.length) ∧ Below w.heap.size w w' :=
  (q_len h).mono fun e w' hh => ⟨hh.1, hh.2 ▸ Below.refl _ _⟩
set_option maxHeartbeats 1000000 in
theorem q_peek (q : Ky) (qs : List Ky) (h : Qs F w p room (q :: qs)) :
    Calls Try.prog 48 #[.pointer (some ⟨p, 0, none⟩), .int .i64 0] w fun e w' => e = .returned (.tuple #[.agg #[.int .i64 q.s, .int .i64 q.c], .bool true]) ∧ Below w.heap.size w w' := by
  have hpos : ((q :: qs).length : Int) = (qs.length : Int) + 1 := by simp
  have HLen : ∀ o, Calls Try.prog 49 #[.pointer (some ⟨p, 0, none⟩)] (w.alloc o) fun e w' => e = .returned (.int .i64 ((qs.length : Int) + 1)) ∧ Below (w.alloc o).heap.size (w.alloc o) w' := fun o => by
    rw [← hpos]; exact q_lenB (h.below ((Below.refl _ _).alloc (Nat.le_refl _) o))
  have HLen' := Lib.hid HLen
  have HH := Lib.hid h
  clear hpos HLen h
  go_enter Try.func48, Try.ntmps48
  go_wp2_with fail
  refine (HLen'.out _).mono ?_
  rintro e w1 ⟨rfl, hb1⟩
  obtain ⟨hz, hb⟩ := pk_new hb1
  have h := HH.out.below hb
  clear hb1 HLen' HH
  obtain ⟨h1, h2, h3, h4, A, n, c, hn, h5, h6, h7, h8⟩ := h
  have hin : 0 < n := by rw [hn]; simp
  have hnc := h6.2.1
  obtain ⟨g, o, rfl, hg, hra⟩ := h6.rd.range hin
  have hrow := flat_row Ky.cl_len (q :: qs) 0 (by simp)
  simp only [Nat.zero_mul, Nat.add_zero, List.drop_zero, List.getElem_cons_zero] at hrow hra
  rw [hrow] at hra
  have c1 := h5.cell 1 rfl
  clear hn h6 hrow h4
  go_wp2_with (first
    | (with_reducible refine at_load 39 (.tmp 21) (by rfl) ?_; refine wpList_load_pk rowK rfl (.tmp 21) rfl q g o rfl hra ?_)
    | (with_reducible refine at_store 39 (.tmp 4) (.tmp 22) (by rfl) ?_; refine wpList_put_pk rowK rfl (.tmp 4) (.tmp 22) rfl w.heap.size rfl hz rfl q rfl ?_; rintro w2 hz2 hw2))
  exact bodyPost_ret (results_cell_tmp rfl rfl (load_pk rowK hz2)) rfl ⟨rfl, hb.trans (hw2.below (Nat.le_refl _) hb.size)⟩
set_option maxHeartbeats 1000000 in
theorem q_peek_none (h : Qs F w p room []) :
    Calls Try.prog 48 #[.pointer (some ⟨p, 0, none⟩), .int .i64 0] w fun e w' => e = .returned (.tuple #[.agg #[.int .i64 0, .int .i64 0], .bool false]) ∧ Below w.heap.size w w' := by
  have HLen : ∀ o, Calls Try.prog 49 #[.pointer (some ⟨p, 0, none⟩)] (w.alloc o) fun e w' => e = .returned (.int .i64 0) ∧ Below (w.alloc o).heap.size (w.alloc o) w' := fun o => q_lenB (h.below ((Below.refl _ _).alloc (Nat.le_refl _) o))
  have HLen' := Lib.hid HLen
  clear HLen
  go_enter Try.func48, Try.ntmps48
  go_wp2_with fail
  refine (HLen'.out _).mono ?_
  rintro e w1 ⟨rfl, hb1⟩
  obtain ⟨hz, hb⟩ := pk_new hb1
  have hz' := hz.alloc (.cells (List.toArray [.int .i64 0, .int .i64 0]) 39)
  have hz3 := Bk.new w1 39 [.int .i64 0, .int .i64 0]
  have hb3 := hb.alloc hb.size (.cells (List.toArray [.int .i64 0, .int .i64 0]) 39)
  clear hb1 HLen'
  go_wp2_with (first
    | (with_reducible refine at_load 39 (.tmp 6) (by rfl) ?_; refine wpList_load_pk rowK rfl (.tmp 6) rfl zK w1.heap.size 0 rfl (Bk.pk (q := zK) hz3) ?_)
    | (with_reducible refine at_store 39 (.tmp 4) (.tmp 15) (by rfl) ?_; refine wpList_put_pk rowK rfl (.tmp 4) (.tmp 15) rfl w.heap.size rfl hz' rfl zK rfl ?_; rintro w2 hz2 hw2))
  exact bodyPost_ret (results_cell_tmp rfl rfl (load_pk rowK hz2)) rfl ⟨rfl, hb3.trans (hw2.below (Nat.le_refl _) hb3.size)⟩
theorem q_push (us : List Ky) (B : Option Addr) (m d : Nat) (h : Qs F w p room qs) (hm : m = us.length) (hu : RdR 2 w B m d (flat Ky.cl us)) (hl : qs.length + m ≤ room) :
    Calls Try.prog 29 #[.pointer (some ⟨p, 0, none⟩), .slice B m d] w fun e w' => e = .returned (.int .i64 0) ∧ DidQ F p room (qs ++ us) w w' := by
  have HRoom := Lib.hid (q_room h)
  obtain ⟨h1, h2, h3, h4, A, n, c, hn, h5, h6, h7, h8⟩ := h
  have hmr : (m : Int) ≤ (room : Int) - qs.length := by omega
  have hlen : (qs ++ us).length ≤ room := by rw [List.length_append]; omega
  have hk : (n + m) * 16 ≤ 140737488355328 := by omega
  have HL := Lib.hid hlen
  have HN := Lib.hid hn
  have HM := Lib.hid hm
  have HF := Lib.hid (flat_app (cl := Ky.cl) qs us)
  clear hn hm hlen h4 hl
  go_enter Try.func29, Try.ntmps29
  go_wp2_with fail
  refine (q_made p room _ w h5 h2).mono ?_
  rintro e w' ⟨rfl, rfl⟩
  go_wp2_with fail
  refine HRoom.out.mono ?_
  rintro e w0 ⟨rfl, hb⟩
  have hpA : ¬ BlkOf A p := fun ⟨ad, h, h'⟩ => h7 ad h h'
  have h5' := h5.below hb
  have h6' := h6.below hb
  have hu' := hu.below hb
  have c1 := h5'.cell 1 rfl
  go_wp2_with (at_builtin
               refine wpList_append_lstR eltK rfl (.tmp 17) (.tmp 18) rfl rfl h6'.tight rfl (by exact hu') hk ?_
               rintro v w1 ⟨⟨A', n', c', rfl, hl'⟩, hst⟩
               have h51 := h5'.st hst hpA
               have f1 := h51.free 1
               have c2 := h51.cell 1 rfl
               clear c1)
  rw [← HF.out] at hl'
  have hap : ApdR 2 39 (BlkOf A) w0 (.slice A' n' c') (flat Ky.cl (qs ++ us)) w1 := ⟨⟨A', n', c', rfl, hl'⟩, hst⟩
  have HD := Lib.hid (Qs.stored h1 h2 h3 HL.out h5' h6' h7 (fun k hk => Nat.lt_of_lt_of_le (h8 k hk) hb.size) hap)
  go_ret
  exact ⟨rfl, DidQ.trans (St.ext hb) (Gr.refl _ _) HD.out⟩
end
section
variable {F : Nat → Prop} {w : World} {p room : Nat} {qs : List Ky}
set_option maxHeartbeats 2000000 in
theorem q_pop (q : Ky) (qs : List Ky) (h : Qs F w p room (q :: qs)) :
    Calls Try.prog 31 #[.pointer (some ⟨p, 0, none⟩)] w fun e w' => e = .returned (.tuple #[.agg #[.int .i64 q.s, .int .i64 q.c], .bool true]) ∧ DidQ F p room qs w w' := by
  have HP : ∀ o, Calls Try.prog 48 #[.pointer (some ⟨p, 0, none⟩), .int .i64 0] (w.alloc o) fun e w' => e = .returned (.tuple #[.agg #[.int .i64 q.s, .int .i64 q.c], .bool true]) ∧ Below (w.alloc o).heap.size (w.alloc o) w' := fun o => q_peek q qs (h.below ((Below.refl _ _).alloc (Nat.le_refl _) o))
  have HP' := Lib.hid HP
  have HH := Lib.hid h
  clear HP h
  go_enter Try.func31, Try.ntmps31
  go_wp2_with fail
  refine (HP'.out _).mono ?_
  rintro e w1 ⟨rfl, hb1⟩
  obtain ⟨hz, hb⟩ := pk_new hb1
  clear hb1 HP'
  have hzq := Bk.new w1 39 [.int .i64 q.s, .int .i64 q.c]
  have hz' := hz.alloc (.cells (List.toArray [.int .i64 q.s, .int .i64 q.c]) 39)
  have hb' := hb.alloc hb.size (.cells (List.toArray [.int .i64 q.s, .int .i64 q.c]) 39)
  have h := HH.out.below hb'
  have hFw := HH.out.bd
  have HFs := Lib.hid hFw
  clear HH hz
  have HZ := Lib.hid hb.size
  obtain ⟨h1, h2, h3, h4, A, n, c, hn, h5, h6, h7, h8⟩ := h
  have hin : 0 < n := by rw [hn]; simp
  have hn1 : 1 ≤ n := hin
  have hnc := h6.2.1
  have hcm := h6.2.2.1
  unfold maxLen at hcm
  obtain ⟨g, o, rfl, hg, -⟩ := h6.rd.range hin
  have hF : F g := (h6.blk _ rfl).1
  have hgw : g < w.heap.size := hFw _ hF
  have hpw : p < w.heap.size := hFw _ h1
  have hgp : g ≠ p := h7 _ rfl
  have hth := h6.there hin
  have h6' := (h6.lay hin (us := zsK) rfl eltK.h1).cut hn1
  have hdr : (lay (flat Ky.cl (q :: qs)) (0 * 2) zsK).drop (1 * 2) = flat Ky.cl qs := rfl
  rw [hdr] at h6'
  rw [Nat.zero_mul, Nat.add_zero] at hth h6'
  have hwr := Wr.setCells g o zsK (w1.alloc (.cells (List.toArray [.int .i64 q.s, .int .i64 q.c]) 39))
  have hcut1 : (Instr.slice 56 (.slice (some ⟨g, o, none⟩) n c) none (some (.int .i64 1)) none).run Try.prog (w1.alloc (.cells (List.toArray [.int .i64 q.s, .int .i64 q.c]) 39)) = .ok (.slice (some ⟨g, o, none⟩) 1 c) (w1.alloc (.cells (List.toArray [.int .i64 q.s, .int .i64 q.c]) 39)) := eltK.run_pre (some ⟨g, o, none⟩) n c 1 (by omega) hnc _
  have c1 := h5.cell 1 rfl
  have hgne1 : g ≠ w1.heap.size := by have := HZ.out; omega
  have hgne2 : g ≠ w.heap.size := by omega
  generalize hW : (w1.alloc (.cells (List.toArray [.int .i64 q.s, .int .i64 q.c]) 39)).setCells g o zsK = W2 at *
  have hcut2 : (Instr.slice 56 (.slice (some ⟨g, o, none⟩) n c) (some (.int .i64 1)) none none).run Try.prog W2 = .ok (.slice (cutR (some ⟨g, o, none⟩) c 1 2) (n - 1) (c - 1)) W2 := eltK.run_cut (some ⟨g, o, none⟩) n c 1 hn1 hnc W2
  have h5' := h5.wr hwr (Ne.symm hgp)
  have hzq2 := hzq.wr hwr (Ne.symm hgne1)
  have hz2 := hz'.wr hwr (Ne.symm hgne2)
  have c2 := h5'.cell 1 rfl
  have f2 := h5'.free 1
  have hne : ∀ ad, cutR (some ⟨g, o, none⟩) c 1 2 = some ad → ad.block ≠ p := by
    intro ad he
    unfold cutR at he
    split at he
    · injection he with he; subst he; exact hgp
    · simp [Addr.add] at he; subst he; exact hgp
  generalize hX : cutR (some ⟨g, o, none⟩) c 1 2 = X at *
  have h53 := h5'.set 1 (.slice X (n - 1) (c - 1))
  have hzq3 := hzq2.far (p := ⟨p, 1, none⟩) (show w1.heap.size ≠ p by have := HZ.out; omega) (.slice X (n - 1) (c - 1))
  have hz3 := hz2.far (p := ⟨p, 1, none⟩) (show w.heap.size ≠ p by omega) (.slice X (n - 1) (c - 1))
  have h63 := h6'.far (p := ⟨p, 1, none⟩) hne (.slice X (n - 1) (c - 1))
  have hst3 : St F w (W2.setCell ⟨p, 1, none⟩ (.slice X (n - 1) (c - 1))) := by
    refine ((St.ext hb').trans (F' := F) ?_ (Gr.refl _ _)).trans (St.setCell _ (a := ⟨p, 1, none⟩) h1 _) (Gr.refl _ _)
    exact ⟨hwr.os, hwr.tape, hwr.output, hwr.size, fun k hk hn => hwr.block k hk fun e => hn (by injection e with e; rw [e]; exact hF)⟩
  have HW := Lib.hid hW
  have HC1 := Lib.hid c1
  have HN := Lib.hid hn
  have HNE := Lib.hid hne
  have HL := Lib.hid h4
  have H8 := Lib.hid h8
  clear hW hX hn hFw h7 h6 hne h6' h4
  clear hdr
  go_wp2_with (first
    | (refine wpList_clear_row eltK rfl (.tmp 16) rfl rfl hth ?_; rw [HW.out]; clear c1 hcut1 hzq hz')
    | (with_reducible refine at_load 39 (.tmp 4) (by rfl) ?_; refine wpList_load_pk rowK rfl (.tmp 4) rfl q w1.heap.size 0 rfl (Bk.pk (q := q) hzq3) ?_)
    | (with_reducible refine at_store 39 (.tmp 2) (.tmp 25) (by rfl) ?_; refine wpList_put_pk rowK rfl (.tmp 2) (.tmp 25) rfl w.heap.size rfl hz3 rfl q rfl ?_; rintro w5 hz5 hw5))
  have hst5 : St F w w5 := ⟨hw5.os.trans hst3.os, hw5.tape.trans hst3.tape, hw5.output.trans hst3.output, Nat.le_trans hst3.size hw5.size, fun k hk hn => (hw5.block k (Nat.lt_of_lt_of_le hk hst3.size) (by intro e; injection e; omega)).trans (hst3.block k hk hn)⟩
  have hn' : n - 1 = qs.length := by have := HN.out; simp at this; omega
  have h4' : qs.length ≤ room := by have := HL.out; simp at this; omega
  have hsz : (w1.alloc (.cells (List.toArray [.int .i64 q.s, .int .i64 q.c]) 39)).heap.size ≤ w5.heap.size := Nat.le_trans hwr.size (Nat.le_trans (by simp [World.setCell]) hw5.size)
  refine bodyPost_ret (results_cell_tmp rfl rfl (load_pk rowK hz5)) rfl ⟨rfl, F, ⟨h1, h2, h3, h4', X, n - 1, c - 1, hn', h53.wr hw5 (by omega), ?_, HNE.out, fun k hk => Nat.lt_of_lt_of_le (H8.out k hk) hsz⟩, hst5, Gr.refl _ _⟩
  exact h63.same fun ad he => hw5.block _ (h63.blk ad he).2 (by intro e; injection e with e; have := HFs.out _ (h63.blk ad he).1; omega)
theorem q_pop_none (h : Qs F w p room []) :
    Calls Try.prog 31 #[.pointer (some ⟨p, 0, none⟩)] w fun e w' => e = .returned (.tuple #[.agg #[.int .i64 0, .int .i64 0], .bool false]) ∧ Below w.heap.size w w' := by
  have HP : ∀ o, Calls Try.prog 48 #[.pointer (some ⟨p, 0, none⟩), .int .i64 0] (w.alloc o) fun e w' => e = .returned (.tuple #[.agg #[.int .i64 0, .int .i64 0], .bool false]) ∧ Below (w.alloc o).heap.size (w.alloc o) w' := fun o => q_peek_none (h.below ((Below.refl _ _).alloc (Nat.le_refl _) o))
  have HP' := Lib.hid HP
  clear HP
  go_enter Try.func31, Try.ntmps31
  go_wp2_with fail
  refine (HP'.out _).mono ?_
  rintro e w1 ⟨rfl, hb1⟩
  obtain ⟨hz, hb⟩ := pk_new hb1
  clear hb1 HP'
  have hzq := Bk.new w1 39 [.int .i64 0, .int .i64 0]
  have hz' := hz.alloc (.cells (List.toArray [.int .i64 0, .int .i64 0]) 39)
  have hb' := hb.alloc hb.size (.cells (List.toArray [.int .i64 0, .int .i64 0]) 39)
  clear hz
  go_wp2_with (first
    | (with_reducible refine at_load 39 (.tmp 4) (by rfl) ?_; refine wpList_load_pk rowK rfl (.tmp 4) rfl zK w1.heap.size 0 rfl (Bk.pk (q := zK) hzq) ?_)
    | (with_reducible refine at_store 39 (.tmp 2) (.tmp 25) (by rfl) ?_; refine wpList_put_pk rowK rfl (.tmp 2) (.tmp 25) rfl w.heap.size rfl hz' rfl zK rfl ?_; rintro w5 hz5 hw5))
  exact bodyPost_ret (results_cell_tmp rfl rfl (load_pk rowK hz5)) rfl ⟨rfl, hb'.trans (hw5.below (Nat.le_refl _) hb'.size)⟩
theorem q_clone (A : Option Addr) (n c : Nat) (hn : n = qs.length) (h : RdR 2 w A n c (flat Ky.cl qs)) (hl : n ≤ 1000000) :
    Calls Try.prog 59 #[.slice A n c] w (MadeQ qs w) := by
  cases A with
  | none =>
    obtain rfl : c = 0 := h.2.2.2.1 rfl
    obtain rfl : n = 0 := by have := h.2.1; omega
    obtain rfl : qs = [] := List.eq_nil_of_length_eq_zero hn.symm
    have he : (binOp .eql 56 (.slice none 0 0) (.slice none 0 0)).run Try.prog w = .ok (.bool true) w := Lib.run_eql_slice_nil w _ _ none 0 0 0 0 eltK.ht
    clear h hn hl
    go_enter Try.func59, Try.ntmps59
    go_wp2
    go_ret
    exact ⟨none, 0, 0, rfl, rfl, LstR.nil _ _ _ _, Below.refl _ _⟩
  | some a =>
    have he : (binOp .eql 56 (.slice (some a) n c) (.slice none 0 0)).run Try.prog w = .ok (.bool false) w := Lib.run_eql_slice_nil w _ _ (some a) n c 0 0 eltK.ht
    have hlm : LstR 2 39 (BlkOf (some ⟨w.heap.size, 0, none⟩)) (w.alloc (.cells #[] 39)) (some ⟨w.heap.size, 0, none⟩) 0 0 [] := (LstR.made 2 w 39 #[] 0 0 [] rfl (Nat.le_refl _) (by simp) (Nat.zero_le _) (by simp) (by simp)).tight
    have hr := h.alloc (.cells #[] 39)
    have HN := Lib.hid hn
    clear hn
    go_enter Try.func59, Try.ntmps59
    go_wp2_with (at_builtin
                 refine wpList_append_lstR eltK rfl (.tmp 5) (.tmp 6) rfl rfl hlm rfl hr (by omega) ?_
                 rintro v w1 ⟨⟨A', n', c', rfl, hl'⟩, hst⟩)
    rw [List.nil_append] at hl'
    have hn' : n' = qs.length := by have h1 : _ = n' * 2 := hl'.1; rw [flat_len Ky.cl_len] at h1; omega
    have HN2 := Lib.hid hn'
    clear hn'
    go_ret
    refine ⟨A', n', c', rfl, HN2.out, hl'.mono ?_, ?_⟩
    · rintro k (⟨ad, he, rfl⟩ | hk)
      · injection he with he; subst he; exact Nat.le_refl _
      · simp at hk; omega
    · refine ((Below.refl _ w).alloc (Nat.le_refl _) (.cells #[] 39)).trans (hst.below (by simp) ?_)
      rintro k ⟨ad, he, rfl⟩
      injection he with he; subst he; exact Nat.le_refl _
theorem q_list (h : Qs F w p room qs) :
    Calls Try.prog 57 #[.pointer (some ⟨p, 0, none⟩)] w (MadeQ qs w) := by
  obtain ⟨h1, h2, h3, h4, A, n, c, hn, h5, h6, h7, h8⟩ := h
  have c1 := h5.cell 1 rfl
  have HC := Lib.hid (q_clone A n c hn h6.rd (by omega))
  clear hn
  go_enter Try.func57, Try.ntmps57
  go_wp2_with fail
  refine (q_made p room _ w h5 h2).mono ?_
  rintro e w' ⟨rfl, rfl⟩
  go_wp2_with fail
  refine HC.out.mono ?_
  rintro e w' ⟨A', n', c', rfl, hn', hl, hb⟩
  have HN := Lib.hid hn'
  clear hn'
  go_wp2
  go_ret
  exact ⟨A', n', c', rfl, HN.out, hl, hb⟩
end
end Go.Proofs.Ytdldocbfnjbhmaa
