/- One call of both rings. -/
import Derived.Test.YtgeihelpggncgaaL6
set_option linter.unusedSimpArgs false
set_option linter.unusedVariables false
namespace Go.Proofs.Ytgeihelpggncgaa
open Go.RowKit Go.Shelf Rgint

def popB (xs : List Int) : Bool := !xs.isEmpty
theorem popI (F : Nat → Prop) (p room : Nat) (xs : List Int) (w : World) (h : RgI F w p room xs) :
    Calls Try.prog 25 #[.pointer (some ⟨p, 0, none⟩)] w fun e w' => e = .returned (.tuple #[.int .i64 (xs.headD 0), .bool (popB xs)]) ∧ DidI F p room xs.tail w w' := by
  cases xs with
  | nil =>
    refine (pop_none F p room w h).mono ?_
    rintro e w' ⟨rfl, rfl⟩
    exact ⟨rfl, Did.refl h⟩
  | cons x xs => exact pop_some F p room (.int .i64 x) (xs.map (.int .i64)) w h
theorem rpopI (A : Option Addr) (n c : Nat) (N : Int) (xs : List Int) (w : World) (h : Rf w A n c xs) :
    Calls Try.prog 30 #[.agg #[.slice A n c, .int .i64 N]] w (Rv A n xs.tail N [.int .i64 (xs.headD 0), .bool (popB xs)] w) := by
  cases xs with
  | nil =>
    obtain rfl : n = 0 := by have := h.1.1; simpa using this.symm
    exact rpop_none A c N w h
  | cons x xs => exact rpop_some A n c N x xs w h

/-- Both rings hold the same, apart. -/
def Twin (F : Nat → Prop) (w : World) (p room : Nat) (xs : List Int) (A : Option Addr) (n c : Nat) : Prop := RgI F w p room xs ∧ Rf w A n c xs ∧ Sep F (BlkN A n)
theorem Twin.below {F : Nat → Prop} {w w' : World} {p room : Nat} {xs : List Int} {A : Option Addr} {n c : Nat} (h : Twin F w p room xs A n c) (hb : Below w.heap.size w w') : Twin F w' p room xs A n c := ⟨Rg.below h.1 hb, h.2.1.below hb, h.2.2⟩
theorem Twin.len {F : Nat → Prop} {w : World} {p room : Nat} {xs : List Int} {A : Option Addr} {n c : Nat} (h : Twin F w p room xs A n c) : n ≤ room ∧ room ≤ 1024 := by
  obtain ⟨⟨h1, h2, h3, h4, _⟩, h5, _⟩ := h
  have := h5.1.1
  simp at h4
  omega
/-- The ring has done, then the value. -/
theorem Twin.both {F : Nat → Prop} {w w1 w2 w3 : World} {p room : Nat} {xs ys : List Int} {A A' : Option Addr} {n c n' c' : Nat} (h : Twin F w p room xs A n c) (hd : DidI F p room ys w w1) (hb : Below w1.heap.size w1 w2) (hf : Rf w2 A' n' c' ys)
    (hg : Gr (BlkN A n) (BlkN A' n') w1.heap.size) (hb3 : Below w2.heap.size w2 w3) : ∃ F', Twin F' w3 p room ys A' n' c' ∧ Gr F F' w.heap.size ∧ St F w w3 ∧ Gr (BlkN A n) (BlkN A' n') w.heap.size := by
  obtain ⟨F', hr, hst, hgr⟩ := hd
  have hs := hst.size
  have hs2 := hb.size
  have h12 : Below w1.heap.size w1 w3 := hb.trans (hb3.mono hs2)
  refine ⟨F', ⟨Rg.below hr h12, hf.below hb3, ?_⟩, hgr, hst.trans (St.ext h12) hgr, fun k hk => ?_⟩
  · have h1 : Sep F' (BlkN A n) := h.2.2.gr hgr (fun k hk => h.2.1.2 k hk)
    exact (h1.symm.gr hg (fun k hk => Rg.bd hr k hk)).symm
  · rcases hg k hk with h' | h'
    · exact .inl h'
    · exact .inr (by omega)
theorem boxes3 (w : World) (A : Option Addr) (n c room : Nat) (dv : Nat) (B : Option Addr) (m d : Nat) (on : Int) : ∃ w3, w3 = ((w.alloc (.cells #[.slice A n c, .int .i64 room] 29)).alloc (.cells #[.int .u8 dv, .slice B m d, .int .i64 on] 36)).alloc (.cells #[.slice none 0 0, .int .i64 0] 29) ∧
    Bk w3 29 w.heap.size [.slice A n c, .int .i64 room] ∧ Bk w3 36 (w.heap.size + 1) [.int .u8 dv, .slice B m d, .int .i64 on] ∧ Bk w3 29 (w.heap.size + 1 + 1) [.slice none 0 0, .int .i64 0] ∧ Below w.heap.size w w3 ∧ w3.heap.size = w.heap.size + 3 := by
  refine ⟨_, rfl, ((Bk.new w 29 [.slice A n c, .int .i64 room]).alloc _).alloc _, ?_, ?_, (((Below.refl w.heap.size w).alloc (Nat.le_refl _) _).alloc (by simp) _).alloc (by simp; omega) _, by simp⟩
  · have := (Bk.new (w.alloc (.cells #[.slice A n c, .int .i64 room] 29)) 36 [.int .u8 dv, .slice B m d, .int .i64 on]).alloc (.cells #[.slice none 0 0, .int .i64 0] 29)
    rwa [World.size_alloc] at this
  · have := Bk.new ((w.alloc (.cells #[.slice A n c, .int .i64 room] 29)).alloc (.cells #[.int .u8 dv, .slice B m d, .int .i64 on] 36)) 29 [.slice none 0 0, .int .i64 0]
    simpa using this
/-- What a step tells: the rings' values, and that all is well. -/
def Stp (F : Nat → Prop) (p room : Nat) (A : Option Addr) (n : Nat) (w : World) (e : Ending) (w' : World) : Prop :=
  ∃ F' xs' A' n' c', e = .returned (.tuple #[.agg #[.slice A' n' c', .int .i64 room], .bool true]) ∧ Twin F' w' p room xs' A' n' c' ∧ Gr F F' w.heap.size ∧ St F w w' ∧ Gr (BlkN A n) (BlkN A' n') w.heap.size

theorem Twin.st {F G : Nat → Prop} {w w' : World} {p room : Nat} {xs : List Int} {A : Option Addr} {n c : Nat} (h : Twin F w p room xs A n c) (hs : St G w w') (h1 : Sep F G) (h2 : Sep (BlkN A n) G) : Twin F w' p room xs A n c :=
  ⟨Rg.st h.1 hs h1, h.2.1.st hs h2.symm, h.2.2⟩
theorem stp_end {F : Nat → Prop} {w w3 w5 : World} {p room : Nat} {xs xs' : List Int} {A A5 : Option Addr} {n c n5 c5 : Nat} (h : Twin F w p room xs A n c)
    (he : ∃ F', Twin F' w5 p room xs' A5 n5 c5 ∧ Gr F F' w3.heap.size ∧ St F w3 w5 ∧ Gr (BlkN A n) (BlkN A5 n5) w3.heap.size) (hz : w.heap.size + 3 ≤ w3.heap.size) (hb3 : Below w.heap.size w w3) {w6 : World} (hb6 : Below w5.heap.size w5 w6) (v0 v1 : Value) :
    Stp F p room A n w (.returned (.tuple #[.agg #[.slice A5 n5 c5, .int .i64 room], .bool true])) ((w6.setCell ⟨w.heap.size + 1 + 1, 0, none⟩ v0).setCell ⟨w.heap.size + 1 + 1, 1, none⟩ v1) := by
  obtain ⟨F', ht, hg, hst, hgA⟩ := he
  have hs5 := hst.size
  have hF : ∀ k, F k → k < w.heap.size := fun k hk => Rg.bd h.1 k hk
  have hA : ∀ k, BlkN A n k → k < w.heap.size := h.2.1.2
  have hg' : Gr F F' w.heap.size := fun k hk => by
    rcases hg k hk with h' | h'
    · exact .inl h'
    · exact .inr (by omega)
  have hgA' : Gr (BlkN A n) (BlkN A5 n5) w.heap.size := fun k hk => by
    rcases hgA k hk with h' | h'
    · exact .inl h'
    · exact .inr (by omega)
  refine ⟨F', xs', A5, n5, c5, rfl, ((ht.below hb6).st (St.set2 (F := (· = w.heap.size + 1 + 1)) rfl _ v0 v1) ?_ ?_), hg', ?_, hgA'⟩
  · rintro k hk rfl
    rcases hg _ hk with h' | h'
    · have := hF _ h'; omega
    · omega
  · rintro k hk rfl
    rcases hgA _ hk with h' | h'
    · have := hA _ h'; omega
    · omega
  · have h1 : St F w w5 := (St.of_below (F := F) hb3 (fun k hk _ => hk)).trans hst (Gr.refl _ _)
    have h2 := h1.trans (St.ext hb6) (Gr.refl _ _)
    refine ⟨h2.os, h2.tape, h2.output, by have := h2.size; simpa [World.setCell] using this, fun k hk hn => ?_⟩
    rw [Below.heap_setCell _ _ _ _ (by simp; omega), Below.heap_setCell _ _ _ _ (by simp; omega)]
    exact h2.block k hk hn
theorem closure (b : Nat) (x on : Int) (dv : Value) (l : Value) (w : World) (h : Bk w 36 b [dv, l, .int .i64 on]) :
    Calls Try.prog 31 (#[.int .i64 x] ++ #[.pointer (some ⟨b, 0, none⟩)]) w fun e w' => e = .returned (.bool (decide (x < on))) ∧ w = w' := by
  have c := h.cell 2 rfl
  show Calls Try.prog 31 #[.int .i64 x, .pointer (some ⟨b, 0, none⟩)] w _
  go_enter Try.func31, Try.ntmps31
  go_wp2
  go_ret
  exact ⟨rfl, rfl⟩
def prV (on : Int) : Value → Bool
  | .int _ x => decide (x < on)
  | _ => false
theorem prV_int (on x : Int) (k : IntKind) : prV on (.int k x) = decide (x < on) := rfl
theorem countV (on : Int) (xs : List Int) : ((xs.map (Value.int .i64)).countP (prV on) : Int) = xs.length - (xs.filter fun x => decide (on ≤ x)).length := by
  induction xs with
  | nil => rfl
  | cons x xs ih =>
    simp only [List.map_cons, List.countP_cons, List.filter_cons, List.length_cons, prV_int]
    by_cases h : x < on
    · have h' : ¬ on ≤ x := by omega
      simp only [h, h', decide_true, decide_false, if_true, if_false, Bool.false_eq_true, Nat.add_zero, List.length_cons]
      omega
    · have h' : on ≤ x := by omega
      simp only [h, h', decide_true, decide_false, if_true, if_false, Bool.false_eq_true, Nat.add_zero, List.length_cons]
      omega
theorem filterV (on : Int) (xs : List Int) : (xs.map (Value.int .i64)).filter (fun v => !prV on v) = (xs.filter fun x => decide (on ≤ x)).map (.int .i64) := by
  induction xs with
  | nil => rfl
  | cons x xs ih =>
    simp only [List.map_cons, List.filter_cons, prV_int]
    by_cases h : x < on
    · have h' : ¬ on ≤ x := by omega
      simp [h, h', ih]
    · have h' : on ≤ x := by omega
      simp [h, h', ih]
theorem dropI (F : Nat → Prop) (p room : Nat) (xs : List Int) (b : Nat) (on : Int) (dv l : Value) (w : World) (h : RgI F w p room xs) (hb : Bk w 36 b [dv, l, .int .i64 on]) :
    Calls Try.prog 28 #[.pointer (some ⟨p, 0, none⟩), .func (.func 31) #[] #[.pointer (some ⟨b, 0, none⟩)]] w fun e w' =>
      e = .returned (.int .i64 (xs.length - (xs.filter fun x => decide (on ≤ x)).length)) ∧ DidI F p room (xs.filter fun x => decide (on ≤ x)) w w' := by
  refine (drop_any F p room (xs.map (.int .i64)) 31 #[.pointer (some ⟨b, 0, none⟩)] (prV on) w h (enters_of Try.func31 (by kernel_rfl) rfl) ?_).mono ?_
  · intro W hW x hx
    obtain ⟨y, _, rfl⟩ := List.mem_map.1 hx
    exact closure b y on dv l W (hb.below hW)
  · rintro e w' ⟨rfl, hd⟩
    rw [filterV] at hd
    rw [countV]
    exact ⟨rfl, hd⟩
set_option maxRecDepth 100000 in
set_option maxHeartbeats 4000000 in
theorem step_pop (F : Nat → Prop) (p room : Nat) (xs : List Int) (A : Option Addr) (n c : Nat) (dv : Nat) (B : Option Addr) (m d : Nat) (on : Int) (w : World) (h : Twin F w p room xs A n c) (hm : m ≤ d) (hd : d ≤ maxLen) (hdv : dv < 256)  (hmod : (dv : Int) % 10 = 4) :
    Calls Try.prog 10 #[.pointer (some ⟨p, 0, none⟩), .agg #[.slice A n c, .int .i64 room], .agg #[.int .u8 dv, .slice B m d, .int .i64 on]] w (Stp F p room A n w) := by
  obtain ⟨w3, hw3, q0, q1, q2, hb3, hs3⟩ := boxes3 w A n c room dv B m d on
  have h3 := h.below hb3
  have HSh := Lib.hid (short_any B m d w3 hm hd)
  rw [hw3] at HSh
  have HW3 := Lib.hid hw3
  have HLen := h.len
  have H := Lib.hid h
  clear hw3 h
  go_enter Try.func10, Try.ntmps10
  go_wp2_with fail
  refine HSh.out.mono ?_
  rintro e w' ⟨rfl, rfl⟩
  rw [← HW3.out]
  clear HSh HW3
  have c00 := q0.cell 0 rfl
  have c01 := q0.cell 1 rfl
  have c10 := q1.cell 0 rfl
  have c12 := q1.cell 2 rfl
  have c20 := q2.cell 0 rfl
  have c21 := q2.cell 1 rfl
  go_wp2_with fail
  refine (popI F p room xs w3 h3.1).mono ?_
  rintro e w4 ⟨rfl, hdid⟩
  obtain ⟨F4, hr4, hst4, hg4⟩ := hdid
  have hnF : ∀ k, w.heap.size ≤ k → ¬ F k := fun k hk hf => by have := Rg.bd H.out.1 k hf; omega
  have r0 := q0.st hst4 (hnF _ (by omega))
  have r1 := q1.st hst4 (hnF _ (by omega))
  have r2 := q2.st hst4 (hnF _ (by omega))
  have hdid4 : DidI F p room xs.tail w3 w4 := ⟨F4, hr4, hst4, hg4⟩
  have hz4 := hst4.size
  have hrf4 : Rf w4 A n c xs := h3.2.1.st hst4 H.out.2.2
  have HQ := Lib.hid (And.intro hdid4 hrf4)
  clear c00 c01 c10 c12 c20 c21 q0 q1 q2 hr4 hst4 hg4 hdid4 hrf4 hnF
  have c00 := r0.cell 0 rfl
  have c01 := r0.cell 1 rfl
  have c10 := r1.cell 0 rfl
  have c12 := r1.cell 2 rfl
  have c20 := r2.cell 0 rfl
  have c21 := r2.cell 1 rfl
  go_wp2_with fail
  refine (rpopI A n c room xs w4 HQ.out.2).mono ?_
  rintro e w5 ⟨A5, n5, c5, rfl, hf5, hb5, hg5⟩
  have s0 := r0.below hb5
  have s2 := r2.below hb5
  have hz5 := hb5.size
  have HE := Lib.hid (Twin.both h3 HQ.out.1 hb5 hf5 (by exact fun k hk => hg5 k hk) (Below.refl _ _))
  clear c00 c01 c10 c12 c20 c21 r0 r1 r2 hf5 hb5 hg5 HQ
  have t2 := s2.alloc (.cells #[.slice A5 n5 c5, .int .i64 room] 29)
  have c20 := t2.cell 0 rfl
  have c21 := t2.cell 1 rfl
  have f20 := t2.free 0
  have f21 := t2.free 1
  clear s0
  go_wp2
  have u2 := (t2.set 0 (.slice A5 n5 c5)).set 1 (.int .i64 room)
  have e0 := u2.cell 0 rfl
  have e1 := u2.cell 1 rfl
  refine bodyPost_ret (v := .tuple #[.agg #[.slice A5 n5 c5, .int .i64 room], .bool true]) (by simp [results, Try.results10, go_sem, e0, e1]) rfl ?_
  exact stp_end H.out HE.out (by omega) hb3 ((Below.refl _ _).alloc (Nat.le_refl _) _) _ _
set_option maxRecDepth 100000 in
set_option maxHeartbeats 4000000 in
theorem step_pop5 (F : Nat → Prop) (p room : Nat) (xs : List Int) (A : Option Addr) (n c : Nat) (dv : Nat) (B : Option Addr) (m d : Nat) (on : Int) (w : World) (h : Twin F w p room xs A n c) (hm : m ≤ d) (hd : d ≤ maxLen) (hdv : dv < 256)  (hmod : (dv : Int) % 10 = 5) :
    Calls Try.prog 10 #[.pointer (some ⟨p, 0, none⟩), .agg #[.slice A n c, .int .i64 room], .agg #[.int .u8 dv, .slice B m d, .int .i64 on]] w (Stp F p room A n w) := by
  obtain ⟨w3, hw3, q0, q1, q2, hb3, hs3⟩ := boxes3 w A n c room dv B m d on
  have h3 := h.below hb3
  have HSh := Lib.hid (short_any B m d w3 hm hd)
  rw [hw3] at HSh
  have HW3 := Lib.hid hw3
  have HLen := h.len
  have H := Lib.hid h
  clear hw3 h
  go_enter Try.func10, Try.ntmps10
  go_wp2_with fail
  refine HSh.out.mono ?_
  rintro e w' ⟨rfl, rfl⟩
  rw [← HW3.out]
  clear HSh HW3
  have c00 := q0.cell 0 rfl
  have c01 := q0.cell 1 rfl
  have c10 := q1.cell 0 rfl
  have c12 := q1.cell 2 rfl
  have c20 := q2.cell 0 rfl
  have c21 := q2.cell 1 rfl
  go_wp2_with fail
  refine (popI F p room xs w3 h3.1).mono ?_
  rintro e w4 ⟨rfl, hdid⟩
  obtain ⟨F4, hr4, hst4, hg4⟩ := hdid
  have hnF : ∀ k, w.heap.size ≤ k → ¬ F k := fun k hk hf => by have := Rg.bd H.out.1 k hf; omega
  have r0 := q0.st hst4 (hnF _ (by omega))
  have r1 := q1.st hst4 (hnF _ (by omega))
  have r2 := q2.st hst4 (hnF _ (by omega))
  have hdid4 : DidI F p room xs.tail w3 w4 := ⟨F4, hr4, hst4, hg4⟩
  have hz4 := hst4.size
  have hrf4 : Rf w4 A n c xs := h3.2.1.st hst4 H.out.2.2
  have HQ := Lib.hid (And.intro hdid4 hrf4)
  clear c00 c01 c10 c12 c20 c21 q0 q1 q2 hr4 hst4 hg4 hdid4 hrf4 hnF
  have c00 := r0.cell 0 rfl
  have c01 := r0.cell 1 rfl
  have c10 := r1.cell 0 rfl
  have c12 := r1.cell 2 rfl
  have c20 := r2.cell 0 rfl
  have c21 := r2.cell 1 rfl
  go_wp2_with fail
  refine (rpopI A n c room xs w4 HQ.out.2).mono ?_
  rintro e w5 ⟨A5, n5, c5, rfl, hf5, hb5, hg5⟩
  have s0 := r0.below hb5
  have s2 := r2.below hb5
  have hz5 := hb5.size
  have HE := Lib.hid (Twin.both h3 HQ.out.1 hb5 hf5 (by exact fun k hk => hg5 k hk) (Below.refl _ _))
  clear c00 c01 c10 c12 c20 c21 r0 r1 r2 hf5 hb5 hg5 HQ
  have t2 := s2.alloc (.cells #[.slice A5 n5 c5, .int .i64 room] 29)
  have c20 := t2.cell 0 rfl
  have c21 := t2.cell 1 rfl
  have f20 := t2.free 0
  have f21 := t2.free 1
  clear s0
  go_wp2
  have u2 := (t2.set 0 (.slice A5 n5 c5)).set 1 (.int .i64 room)
  have e0 := u2.cell 0 rfl
  have e1 := u2.cell 1 rfl
  refine bodyPost_ret (v := .tuple #[.agg #[.slice A5 n5 c5, .int .i64 room], .bool true]) (by simp [results, Try.results10, go_sem, e0, e1]) rfl ?_
  exact stp_end H.out HE.out (by omega) hb3 ((Below.refl _ _).alloc (Nat.le_refl _) _) _ _
set_option maxRecDepth 100000 in
set_option maxHeartbeats 4000000 in
theorem step_rot (F : Nat → Prop) (p room : Nat) (xs : List Int) (A : Option Addr) (n c : Nat) (dv : Nat) (B : Option Addr) (m d : Nat) (on : Int) (w : World) (h : Twin F w p room xs A n c) (hm : m ≤ d) (hd : d ≤ maxLen) (hdv : dv < 256) (ho : (Lit.int .i64 on).wf = true) (hmod : (dv : Int) % 10 = 7) :
    Calls Try.prog 10 #[.pointer (some ⟨p, 0, none⟩), .agg #[.slice A n c, .int .i64 room], .agg #[.int .u8 dv, .slice B m d, .int .i64 on]] w (Stp F p room A n w) := by
  obtain ⟨w3, hw3, q0, q1, q2, hb3, hs3⟩ := boxes3 w A n c room dv B m d on
  have h3 := h.below hb3
  have HSh := Lib.hid (short_any B m d w3 hm hd)
  rw [hw3] at HSh
  have HW3 := Lib.hid hw3
  have HLen := h.len
  have H := Lib.hid h
  clear hw3 h
  go_enter Try.func10, Try.ntmps10
  go_wp2_with fail
  refine HSh.out.mono ?_
  rintro e w' ⟨rfl, rfl⟩
  rw [← HW3.out]
  clear HSh HW3
  have c00 := q0.cell 0 rfl
  have c01 := q0.cell 1 rfl
  have c10 := q1.cell 0 rfl
  have c12 := q1.cell 2 rfl
  have c20 := q2.cell 0 rfl
  have c21 := q2.cell 1 rfl
  go_wp2_with fail
  refine (rotI F p room xs on w3 h3.1 ho).mono ?_
  rintro e w4 ⟨rfl, hdid⟩
  obtain ⟨F4, hr4, hst4, hg4⟩ := hdid
  have hnF : ∀ k, w.heap.size ≤ k → ¬ F k := fun k hk hf => by have := Rg.bd H.out.1 k hf; omega
  have r0 := q0.st hst4 (hnF _ (by omega))
  have r1 := q1.st hst4 (hnF _ (by omega))
  have r2 := q2.st hst4 (hnF _ (by omega))
  have hdid4 : DidI F p room (rotL on xs) w3 w4 := ⟨F4, hr4, hst4, hg4⟩
  have hz4 := hst4.size
  have hrf4 : Rf w4 A n c xs := h3.2.1.st hst4 H.out.2.2
  have HQ := Lib.hid (And.intro hdid4 hrf4)
  clear c00 c01 c10 c12 c20 c21 q0 q1 q2 hr4 hst4 hg4 hdid4 hrf4 hnF
  have c00 := r0.cell 0 rfl
  have c01 := r0.cell 1 rfl
  have c10 := r1.cell 0 rfl
  have c12 := r1.cell 2 rfl
  have c20 := r2.cell 0 rfl
  have c21 := r2.cell 1 rfl
  go_wp2_with fail
  refine (rrotI A n c room on xs w4 HQ.out.2 (by omega) ho).mono ?_
  rintro e w5 ⟨A5, n5, c5, rfl, hf5, hb5, hg5⟩
  have s0 := r0.below hb5
  have s2 := r2.below hb5
  have hz5 := hb5.size
  have HE := Lib.hid (Twin.both h3 HQ.out.1 hb5 hf5 (by exact fun k hk => hg5 k hk) (Below.refl _ _))
  clear c00 c01 c10 c12 c20 c21 r0 r1 r2 hf5 hb5 hg5 HQ
  have t2 := s2.alloc (.cells #[.slice A5 n5 c5, .int .i64 room] 29)
  have c20 := t2.cell 0 rfl
  have c21 := t2.cell 1 rfl
  have f20 := t2.free 0
  have f21 := t2.free 1
  clear s0
  go_wp2
  have u2 := (t2.set 0 (.slice A5 n5 c5)).set 1 (.int .i64 room)
  have e0 := u2.cell 0 rfl
  have e1 := u2.cell 1 rfl
  refine bodyPost_ret (v := .tuple #[.agg #[.slice A5 n5 c5, .int .i64 room], .bool true]) (by simp [results, Try.results10, go_sem, e0, e1]) rfl ?_
  exact stp_end H.out HE.out (by omega) hb3 ((Below.refl _ _).alloc (Nat.le_refl _) _) _ _
set_option maxRecDepth 100000 in
set_option maxHeartbeats 4000000 in
theorem step_drop (F : Nat → Prop) (p room : Nat) (xs : List Int) (A : Option Addr) (n c : Nat) (dv : Nat) (B : Option Addr) (m d : Nat) (on : Int) (w : World) (h : Twin F w p room xs A n c) (hm : m ≤ d) (hd : d ≤ maxLen) (hdv : dv < 256) (ho : (Lit.int .i64 on).wf = true) (hmod : (dv : Int) % 10 = 8) :
    Calls Try.prog 10 #[.pointer (some ⟨p, 0, none⟩), .agg #[.slice A n c, .int .i64 room], .agg #[.int .u8 dv, .slice B m d, .int .i64 on]] w (Stp F p room A n w) := by
  have hmf : ∀ (fn : Fn) (first cap : Array Value) (w : World), (Instr.makeFunc fn first cap).run Try.prog w = .ok (.func fn first cap) w := fun _ _ _ _ => rfl
  obtain ⟨w3, hw3, q0, q1, q2, hb3, hs3⟩ := boxes3 w A n c room dv B m d on
  have h3 := h.below hb3
  have HSh := Lib.hid (short_any B m d w3 hm hd)
  rw [hw3] at HSh
  have HW3 := Lib.hid hw3
  have HLen := h.len
  have H := Lib.hid h
  clear hw3 h
  go_enter Try.func10, Try.ntmps10
  go_wp2_with fail
  refine HSh.out.mono ?_
  rintro e w' ⟨rfl, rfl⟩
  rw [← HW3.out]
  clear HSh HW3
  have c00 := q0.cell 0 rfl
  have c01 := q0.cell 1 rfl
  have c10 := q1.cell 0 rfl
  have c12 := q1.cell 2 rfl
  have c20 := q2.cell 0 rfl
  have c21 := q2.cell 1 rfl
  go_wp2_with fail
  refine (dropI F p room xs (w.heap.size + 1) on _ _ w3 h3.1 q1).mono ?_
  rintro e w4 ⟨rfl, hdid⟩
  obtain ⟨F4, hr4, hst4, hg4⟩ := hdid
  have hnF : ∀ k, w.heap.size ≤ k → ¬ F k := fun k hk hf => by have := Rg.bd H.out.1 k hf; omega
  have r0 := q0.st hst4 (hnF _ (by omega))
  have r1 := q1.st hst4 (hnF _ (by omega))
  have r2 := q2.st hst4 (hnF _ (by omega))
  have hdid4 : DidI F p room (xs.filter fun x => decide (on ≤ x)) w3 w4 := ⟨F4, hr4, hst4, hg4⟩
  have hz4 := hst4.size
  have hrf4 : Rf w4 A n c xs := h3.2.1.st hst4 H.out.2.2
  have HQ := Lib.hid (And.intro hdid4 hrf4)
  clear c00 c01 c10 c12 c20 c21 q0 q1 q2 hr4 hst4 hg4 hdid4 hrf4 hnF
  have c00 := r0.cell 0 rfl
  have c01 := r0.cell 1 rfl
  have c10 := r1.cell 0 rfl
  have c12 := r1.cell 2 rfl
  have c20 := r2.cell 0 rfl
  have c21 := r2.cell 1 rfl
  rw [H.out.2.1.1.1]
  go_wp2_with fail
  refine (rbelow_any A n c room on xs w4 HQ.out.2 (by omega)).mono ?_
  rintro e w5 ⟨A5, n5, c5, rfl, hf5, hb5, hg5⟩
  have s0 := r0.below hb5
  have s2 := r2.below hb5
  have hz5 := hb5.size
  have HE := Lib.hid (Twin.both h3 HQ.out.1 hb5 hf5 (by exact fun k hk => hg5 k hk) (Below.refl _ _))
  clear c00 c01 c10 c12 c20 c21 r0 r1 r2 hf5 hb5 hg5 HQ
  have t2 := s2.alloc (.cells #[.slice A5 n5 c5, .int .i64 room] 29)
  have c20 := t2.cell 0 rfl
  have c21 := t2.cell 1 rfl
  have f20 := t2.free 0
  have f21 := t2.free 1
  clear s0
  go_wp2
  have u2 := (t2.set 0 (.slice A5 n5 c5)).set 1 (.int .i64 room)
  have e0 := u2.cell 0 rfl
  have e1 := u2.cell 1 rfl
  refine bodyPost_ret (v := .tuple #[.agg #[.slice A5 n5 c5, .int .i64 room], .bool true]) (by simp [results, Try.results10, go_sem, e0, e1]) rfl ?_
  exact stp_end H.out HE.out (by omega) hb3 ((Below.refl _ _).alloc (Nat.le_refl _) _) _ _
set_option maxRecDepth 100000 in
set_option maxHeartbeats 4000000 in
theorem step_clear (F : Nat → Prop) (p room : Nat) (xs : List Int) (A : Option Addr) (n c : Nat) (dv : Nat) (B : Option Addr) (m d : Nat) (on : Int) (w : World) (h : Twin F w p room xs A n c) (hm : m ≤ d) (hd : d ≤ maxLen) (hdv : dv < 256)  (hmod : (dv : Int) % 10 = 9) :
    Calls Try.prog 10 #[.pointer (some ⟨p, 0, none⟩), .agg #[.slice A n c, .int .i64 room], .agg #[.int .u8 dv, .slice B m d, .int .i64 on]] w (Stp F p room A n w) := by
  obtain ⟨w3, hw3, q0, q1, q2, hb3, hs3⟩ := boxes3 w A n c room dv B m d on
  have h3 := h.below hb3
  have HSh := Lib.hid (short_any B m d w3 hm hd)
  rw [hw3] at HSh
  have HW3 := Lib.hid hw3
  have HLen := h.len
  have H := Lib.hid h
  clear hw3 h
  go_enter Try.func10, Try.ntmps10
  go_wp2_with fail
  refine HSh.out.mono ?_
  rintro e w' ⟨rfl, rfl⟩
  rw [← HW3.out]
  clear HSh HW3
  have c00 := q0.cell 0 rfl
  have c01 := q0.cell 1 rfl
  have c10 := q1.cell 0 rfl
  have c12 := q1.cell 2 rfl
  have c20 := q2.cell 0 rfl
  have c21 := q2.cell 1 rfl
  go_wp2_with fail
  refine (clear_any F p room _ w3 h3.1).mono ?_
  rintro e w4 ⟨rfl, hdid⟩
  obtain ⟨F4, hr4, hst4, hg4⟩ := hdid
  have hnF : ∀ k, w.heap.size ≤ k → ¬ F k := fun k hk hf => by have := Rg.bd H.out.1 k hf; omega
  have r0 := q0.st hst4 (hnF _ (by omega))
  have r1 := q1.st hst4 (hnF _ (by omega))
  have r2 := q2.st hst4 (hnF _ (by omega))
  have hdid4 : DidI F p room [] w3 w4 := ⟨F4, hr4, hst4, hg4⟩
  have hz4 := hst4.size
  have hrf4 : Rf w4 none 0 0 [] := ⟨Rd.nil _ _, by rintro k ⟨h, _⟩; omega⟩
  have HQ := Lib.hid (And.intro hdid4 hrf4)
  clear c00 c01 c10 c12 c20 c21 q0 q1 q2 hr4 hst4 hg4 hdid4 hrf4 hnF
  have c00 := r0.cell 0 rfl
  have c01 := r0.cell 1 rfl
  have c10 := r1.cell 0 rfl
  have c12 := r1.cell 2 rfl
  have c20 := r2.cell 0 rfl
  have c21 := r2.cell 1 rfl
  have f20 := r2.free 0
  have f21 := r2.free 1
  have hz5 := hz4
  have HE := Lib.hid (Twin.both h3 HQ.out.1 (Below.refl _ _) HQ.out.2 (by rintro k ⟨h, _⟩; omega) (Below.refl _ _))
  go_wp2
  have u2 := (r2.set 0 (.slice none 0 0)).set 1 (.int .i64 room)
  have e0 := u2.cell 0 rfl
  have e1 := u2.cell 1 rfl
  refine bodyPost_ret (v := .tuple #[.agg #[.slice none 0 0, .int .i64 room], .bool true]) (by simp [results, Try.results10, go_sem, e0, e1]) rfl ?_
  exact stp_end H.out HE.out (by omega) hb3 (Below.refl _ _) _ _
set_option maxRecDepth 100000 in
set_option maxHeartbeats 4000000 in
theorem step_push_ok (F : Nat → Prop) (p room : Nat) (xs : List Int) (A : Option Addr) (n c : Nat) (dv : Nat) (B : Option Addr) (m d : Nat) (on : Int) (w : World) (h : Twin F w p room xs A n c) (hm : m ≤ d) (hd : d ≤ maxLen) (hdv : dv < 256) (ls : List Int) (hls : Rd .i64 w B m d ls) (hBF : 0 < m → ∀ ad, B = some ad → ¬ F ad.block)(hfit : n + shortN m ≤ room) (hmod : dv % 10 < 4) :
    Calls Try.prog 10 #[.pointer (some ⟨p, 0, none⟩), .agg #[.slice A n c, .int .i64 room], .agg #[.int .u8 dv, .slice B m d, .int .i64 on]] w (Stp F p room A n w) := by
  obtain ⟨w3, hw3, q0, q1, q2, hb3, hs3⟩ := boxes3 w A n c room dv B m d on
  have h3 := h.below hb3
  have HSh := Lib.hid (short_any B m d w3 hm hd)
  rw [hw3] at HSh
  have HW3 := Lib.hid hw3
  have HLen := h.len
  have H := Lib.hid h
  clear hw3 h
  have t4 : ((dv : Int) % 10 == 4) = false := by rw [beq_eq_false_iff_ne]; omega
  have t5 : ((dv : Int) % 10 == 5) = false := by rw [beq_eq_false_iff_ne]; omega
  have t6 : ((dv : Int) % 10 == 6) = false := by rw [beq_eq_false_iff_ne]; omega
  have t7 : ((dv : Int) % 10 == 7) = false := by rw [beq_eq_false_iff_ne]; omega
  have t8 : ((dv : Int) % 10 == 8) = false := by rw [beq_eq_false_iff_ne]; omega
  have t9 : ((dv : Int) % 10 == 9) = false := by rw [beq_eq_false_iff_ne]; omega
  have hs1 := (shortN_le m).1
  have hl1 := hls.pre hs1
  generalize shortN m = m1 at *
  generalize ls.take m1 = l1 at *
  have HL1 := Lib.hid hl1
  have hn := H.out.2.1.1.1
  have HN := Lib.hid hn
  clear hl1 hn hls
  go_enter Try.func10, Try.ntmps10
  go_wp2_with fail
  refine HSh.out.mono ?_
  rintro e w' ⟨rfl, rfl⟩
  rw [← HW3.out]
  clear HSh HW3
  have c00 := q0.cell 0 rfl
  have c01 := q0.cell 1 rfl
  have c10 := q1.cell 0 rfl
  have c12 := q1.cell 2 rfl
  have c20 := q2.cell 0 rfl
  have c21 := q2.cell 1 rfl
  go_wp2_with fail
  refine (pushI_ok F p room xs l1 B m1 d w3 h3.1 (HL1.out.below hb3) (fun h0 => hBF (by omega)) (by rw [HN.out]; exact hfit)).mono ?_
  rintro e w4 ⟨rfl, hdid⟩
  obtain ⟨F4, hr4, hst4, hg4⟩ := hdid
  have hnF : ∀ k, w.heap.size ≤ k → ¬ F k := fun k hk hf => by have := Rg.bd H.out.1 k hf; omega
  have r0 := q0.st hst4 (hnF _ (by omega))
  have r1 := q1.st hst4 (hnF _ (by omega))
  have r2 := q2.st hst4 (hnF _ (by omega))
  have hdid4 : DidI F p room (xs ++ l1) w3 w4 := ⟨F4, hr4, hst4, hg4⟩
  have hz4 := hst4.size
  have hrf4 : Rf w4 A n c xs := h3.2.1.st hst4 H.out.2.2
  have hb34 : Rd .i64 w4 B m1 d l1 := (HL1.out.below hb3).st hst4 (fun h0 => hBF (by omega))
  have HQ := Lib.hid (And.intro hdid4 hrf4)
  clear c00 c01 c10 c12 c20 c21 q0 q1 q2 hr4 hst4 hg4 hdid4 hrf4 hnF
  have c00 := r0.cell 0 rfl
  have c01 := r0.cell 1 rfl
  have c10 := r1.cell 0 rfl
  have c12 := r1.cell 2 rfl
  have c20 := r2.cell 0 rfl
  have c21 := r2.cell 1 rfl
  go_wp2_with fail
  refine (rpush_ok A B n c m1 d room xs l1 w4 HQ.out.2 hb34 HLen.2 hfit).mono ?_
  rintro e w5 ⟨A5, n5, c5, rfl, hf5, hb5, hg5⟩
  have s0 := r0.below hb5
  have s2 := r2.below hb5
  have hz5 := hb5.size
  have HE := Lib.hid (Twin.both h3 HQ.out.1 hb5 hf5 (by exact fun k hk => hg5 k hk) (Below.refl _ _))
  clear c00 c01 c10 c12 c20 c21 r0 r1 r2 hf5 hb5 hg5 HQ
  have t2 := s2.alloc (.cells #[.slice A5 n5 c5, .int .i64 room] 29)
  have c20 := t2.cell 0 rfl
  have c21 := t2.cell 1 rfl
  have f20 := t2.free 0
  have f21 := t2.free 1
  clear s0
  go_wp2
  have u2 := (t2.set 0 (.slice A5 n5 c5)).set 1 (.int .i64 room)
  have e0 := u2.cell 0 rfl
  have e1 := u2.cell 1 rfl
  refine bodyPost_ret (v := .tuple #[.agg #[.slice A5 n5 c5, .int .i64 room], .bool true]) (by simp [results, Try.results10, go_sem, e0, e1]) rfl ?_
  exact stp_end H.out HE.out (by omega) hb3 ((Below.refl _ _).alloc (Nat.le_refl _) _) _ _
set_option maxRecDepth 100000 in
set_option maxHeartbeats 4000000 in
theorem step_push_full (F : Nat → Prop) (p room : Nat) (xs : List Int) (A : Option Addr) (n c : Nat) (dv : Nat) (B : Option Addr) (m d : Nat) (on : Int) (w : World) (h : Twin F w p room xs A n c) (hm : m ≤ d) (hd : d ≤ maxLen) (hdv : dv < 256) (ls : List Int) (hls : Rd .i64 w B m d ls) (hBF : 0 < m → ∀ ad, B = some ad → ¬ F ad.block)(hfit : room < n + shortN m) (hmod : dv % 10 < 4) :
    Calls Try.prog 10 #[.pointer (some ⟨p, 0, none⟩), .agg #[.slice A n c, .int .i64 room], .agg #[.int .u8 dv, .slice B m d, .int .i64 on]] w (Stp F p room A n w) := by
  obtain ⟨w3, hw3, q0, q1, q2, hb3, hs3⟩ := boxes3 w A n c room dv B m d on
  have h3 := h.below hb3
  have HSh := Lib.hid (short_any B m d w3 hm hd)
  rw [hw3] at HSh
  have HW3 := Lib.hid hw3
  have HLen := h.len
  have H := Lib.hid h
  clear hw3 h
  have t4 : ((dv : Int) % 10 == 4) = false := by rw [beq_eq_false_iff_ne]; omega
  have t5 : ((dv : Int) % 10 == 5) = false := by rw [beq_eq_false_iff_ne]; omega
  have t6 : ((dv : Int) % 10 == 6) = false := by rw [beq_eq_false_iff_ne]; omega
  have t7 : ((dv : Int) % 10 == 7) = false := by rw [beq_eq_false_iff_ne]; omega
  have t8 : ((dv : Int) % 10 == 8) = false := by rw [beq_eq_false_iff_ne]; omega
  have t9 : ((dv : Int) % 10 == 9) = false := by rw [beq_eq_false_iff_ne]; omega
  have hs1 := (shortN_le m).1
  have hl1 := hls.pre hs1
  generalize shortN m = m1 at *
  generalize ls.take m1 = l1 at *
  have HL1 := Lib.hid hl1
  have hn := H.out.2.1.1.1
  have HN := Lib.hid hn
  clear hl1 hn hls
  go_enter Try.func10, Try.ntmps10
  go_wp2_with fail
  refine HSh.out.mono ?_
  rintro e w' ⟨rfl, rfl⟩
  rw [← HW3.out]
  clear HSh HW3
  have c00 := q0.cell 0 rfl
  have c01 := q0.cell 1 rfl
  have c10 := q1.cell 0 rfl
  have c12 := q1.cell 2 rfl
  have c20 := q2.cell 0 rfl
  have c21 := q2.cell 1 rfl
  go_wp2_with fail
  refine (push_full F p room _ B m1 d w3 h3.1 (by omega) (by rw [List.length_map, HN.out]; exact hfit)).mono ?_
  rintro e w4 ⟨rfl, q, hq4⟩
  have hdid : DidI F p room xs w3 w4 := by
    rw [hq4]
    exact ⟨F, Rg.below h3.1 (Below.drewN_ _ _), St.ext (Below.drewN_ _ _), Gr.refl _ _⟩
  clear hq4
  obtain ⟨F4, hr4, hst4, hg4⟩ := hdid
  have hnF : ∀ k, w.heap.size ≤ k → ¬ F k := fun k hk hf => by have := Rg.bd H.out.1 k hf; omega
  have r0 := q0.st hst4 (hnF _ (by omega))
  have r1 := q1.st hst4 (hnF _ (by omega))
  have r2 := q2.st hst4 (hnF _ (by omega))
  have hdid4 : DidI F p room xs w3 w4 := ⟨F4, hr4, hst4, hg4⟩
  have hz4 := hst4.size
  have hrf4 : Rf w4 A n c xs := h3.2.1.st hst4 H.out.2.2
  have HQ := Lib.hid (And.intro hdid4 hrf4)
  clear c00 c01 c10 c12 c20 c21 q0 q1 q2 hr4 hst4 hg4 hdid4 hrf4 hnF
  have c00 := r0.cell 0 rfl
  have c01 := r0.cell 1 rfl
  have c10 := r1.cell 0 rfl
  have c12 := r1.cell 2 rfl
  have c20 := r2.cell 0 rfl
  have c21 := r2.cell 1 rfl
  go_wp2_with fail
  refine (rpush_full A B n c m1 d room xs w4 HQ.out.2 (by omega) hfit HLen.2 HLen.1).mono ?_
  rintro e w5 ⟨A5, n5, c5, rfl, hf5, hb5, hg5⟩
  have s0 := r0.below hb5
  have s2 := r2.below hb5
  have hz5 := hb5.size
  have HE := Lib.hid (Twin.both h3 HQ.out.1 hb5 hf5 (by exact fun k hk => hg5 k hk) (Below.refl _ _))
  clear c00 c01 c10 c12 c20 c21 r0 r1 r2 hf5 hb5 hg5 HQ
  have t2 := s2.alloc (.cells #[.slice A5 n5 c5, .int .i64 room] 29)
  have c20 := t2.cell 0 rfl
  have c21 := t2.cell 1 rfl
  have f20 := t2.free 0
  have f21 := t2.free 1
  clear s0
  go_wp2
  have u2 := (t2.set 0 (.slice A5 n5 c5)).set 1 (.int .i64 room)
  have e0 := u2.cell 0 rfl
  have e1 := u2.cell 1 rfl
  refine bodyPost_ret (v := .tuple #[.agg #[.slice A5 n5 c5, .int .i64 room], .bool true]) (by simp [results, Try.results10, go_sem, e0, e1]) rfl ?_
  exact stp_end H.out HE.out (by omega) hb3 ((Below.refl _ _).alloc (Nat.le_refl _) _) _ _
theorem peekI (F : Nat → Prop) (p room : Nat) (xs : List Int) (i : Nat) (w : World) (h : RgI F w p room xs) (hi : i < xs.length) :
    Calls Try.prog 26 #[.pointer (some ⟨p, 0, none⟩), .int .i64 i] w fun e w' => e = .returned (.tuple #[.int .i64 (xs.getD i 0), .bool true]) ∧ w = w' := by
  refine (peek_any F p room _ w h i (by simpa using hi)).mono ?_
  rintro e w' ⟨rfl, rfl⟩
  refine ⟨?_, rfl⟩
  simp [hi]
set_option maxRecDepth 100000 in
set_option maxHeartbeats 4000000 in
theorem step_peek_in (F : Nat → Prop) (p room : Nat) (xs : List Int) (A : Option Addr) (n c : Nat) (dv : Nat) (B : Option Addr) (m d : Nat) (on : Int) (w : World) (h : Twin F w p room xs A n c) (hm : m ≤ d) (hd : d ≤ maxLen) (hdv : dv < 256) (i : Nat) (hon : on = i) (hi : i < n) (hmod : (dv : Int) % 10 = 6) :
    Calls Try.prog 10 #[.pointer (some ⟨p, 0, none⟩), .agg #[.slice A n c, .int .i64 room], .agg #[.int .u8 dv, .slice B m d, .int .i64 on]] w (Stp F p room A n w) := by
  subst hon
  obtain ⟨w3, hw3, q0, q1, q2, hb3, hs3⟩ := boxes3 w A n c room dv B m d i
  have h3 := h.below hb3
  have HSh := Lib.hid (short_any B m d w3 hm hd)
  rw [hw3] at HSh
  have HW3 := Lib.hid hw3
  have HLen := h.len
  have H := Lib.hid h
  clear hw3 h
  go_enter Try.func10, Try.ntmps10
  go_wp2_with fail
  refine HSh.out.mono ?_
  rintro e w' ⟨rfl, rfl⟩
  rw [← HW3.out]
  clear HSh HW3
  have c00 := q0.cell 0 rfl
  have c01 := q0.cell 1 rfl
  have c10 := q1.cell 0 rfl
  have c12 := q1.cell 2 rfl
  have c20 := q2.cell 0 rfl
  have c21 := q2.cell 1 rfl
  go_wp2_with fail
  refine (peekI F p room xs i w3 h3.1 (by rw [H.out.2.1.1.1]; exact hi)).mono ?_
  rintro e w4 ⟨rfl, rfl⟩
  obtain ⟨g, o, hA, hg, hx⟩ := h3.2.1.1.cell hi
  have hgw : g < w.heap.size := by
    have := H.out.2.1.2 g ⟨by omega, _, hA, rfl⟩
    exact this
  have HE : Hid _ := Lib.hid (show ∃ F', Twin F' w3 p room xs A n c ∧ Gr F F' w3.heap.size ∧ St F w3 w3 ∧ Gr (BlkN A n) (BlkN A n) w3.heap.size from ⟨F, h3, Gr.refl _ _, St.refl _ _, Gr.refl _ _⟩)
  subst hA
  go_wp2
  clear c00 c01 c10 c12 c20 c21
  refine wp_region_E (Wr (w.heap.size + 1 + 1)) (by kernel_rfl) (fun wd hbd hsz => ?_)
  have s0 := q0.below hbd
  have s1 := q1.below hbd
  have s2 := q2.below hbd
  have hxd : wd.cell? ⟨g, o + i, none⟩ = some (.int .i64 (xs.getD i 0)) := (hbd.cell (p := ⟨g, o + i, none⟩) hg).trans hx
  have hgd : g < wd.heap.size := by have := hbd.size; omega
  have hin1 : (i : Int) < n := by omega
  have hi0 : (0 : Int) ≤ i := by omega
  have k0 := fun W' (hW : Wr (w.heap.size + 1 + 1) wd W') => (s0.wr hW (by omega)).cell 0 rfl
  have k1 := fun W' (hW : Wr (w.heap.size + 1 + 1) wd W') => (s0.wr hW (by omega)).cell 1 rfl
  have k2 := fun W' (hW : Wr (w.heap.size + 1 + 1) wd W') => (s1.wr hW (by omega)).cell 2 rfl
  have k7 := fun W' (hW : Wr (w.heap.size + 1 + 1) wd W') => (wr_cell hW (p := ⟨g, o + i, none⟩) (by simp; omega) hgd).trans hxd
  have k3 := s2.cell 0 rfl
  have k4 := s2.cell 1 rfl
  have k5 := s2.free 0
  have k6 := s2.free 1
  (refine takeE (wrTr (w.heap.size + 1 + 1)) 0 (by simp only [List.getElem?_toArray, List.getElem?_cons_succ, List.getElem?_cons_zero]; rfl) (by kernel_rfl) (by kernel_rfl) (by kernel_rfl) (by exact fun _ _ _ h => h) (by first | (refine Or.inl ⟨by rfl, ?_⟩; intro W hW; go_simp; try with_reducible rfl) | exact Or.inr ⟨by rfl, rfl⟩) ?_; try simp only [Act.put, List.setIfInBounds_toArray, List.set_cons_zero, List.set_cons_succ])
  (refine takeE (wrTr (w.heap.size + 1 + 1)) 1 (by simp only [List.getElem?_toArray, List.getElem?_cons_succ, List.getElem?_cons_zero]; rfl) (by kernel_rfl) (by kernel_rfl) (by kernel_rfl) (by exact fun _ _ _ h => h) (by first | (refine Or.inl ⟨by rfl, ?_⟩; intro W hW; go_simp; try with_reducible rfl) | exact Or.inr ⟨by rfl, rfl⟩) ?_; try simp only [Act.put, List.setIfInBounds_toArray, List.set_cons_zero, List.set_cons_succ])
  (refine takeE (wrTr (w.heap.size + 1 + 1)) 2 (by simp only [List.getElem?_toArray, List.getElem?_cons_succ, List.getElem?_cons_zero]; rfl) (by kernel_rfl) (by kernel_rfl) (by kernel_rfl) (by exact fun _ _ _ h => h) (by first | (refine Or.inl ⟨by rfl, ?_⟩; intro W hW; go_simp; try with_reducible rfl) | exact Or.inr ⟨by rfl, rfl⟩) ?_; try simp only [Act.put, List.setIfInBounds_toArray, List.set_cons_zero, List.set_cons_succ])
  (refine takeE (wrTr (w.heap.size + 1 + 1)) 4 (by simp only [List.getElem?_toArray, List.getElem?_cons_succ, List.getElem?_cons_zero]; rfl) (by kernel_rfl) (by kernel_rfl) (by kernel_rfl) (by exact fun _ _ _ h => h) (by first | (refine Or.inl ⟨by rfl, ?_⟩; intro W hW; go_simp; try with_reducible rfl) | exact Or.inr ⟨by rfl, rfl⟩) ?_; try simp only [Act.put, List.setIfInBounds_toArray, List.set_cons_zero, List.set_cons_succ])
  (refine takeE (wrTr (w.heap.size + 1 + 1)) 3 (by simp only [List.getElem?_toArray, List.getElem?_cons_succ, List.getElem?_cons_zero]; rfl) (by kernel_rfl) (by kernel_rfl) (by kernel_rfl) (by exact fun _ _ _ h => h) (by first | (refine Or.inl ⟨by rfl, ?_⟩; intro W hW; go_simp; try with_reducible rfl) | exact Or.inr ⟨by rfl, rfl⟩) ?_; try simp only [Act.put, List.setIfInBounds_toArray, List.set_cons_zero, List.set_cons_succ])
  (refine takeE (wrTr (w.heap.size + 1 + 1)) 5 (by simp only [List.getElem?_toArray, List.getElem?_cons_succ, List.getElem?_cons_zero]; rfl) (by kernel_rfl) (by kernel_rfl) (by kernel_rfl) (by exact fun _ _ _ h => h) (by first | (refine Or.inl ⟨by rfl, ?_⟩; intro W hW; go_simp; try with_reducible rfl) | exact Or.inr ⟨by rfl, rfl⟩) ?_; try simp only [Act.put, List.setIfInBounds_toArray, List.set_cons_zero, List.set_cons_succ])
  (refine takeE (wrTr (w.heap.size + 1 + 1)) 6 (by simp only [List.getElem?_toArray, List.getElem?_cons_succ, List.getElem?_cons_zero]; rfl) (by kernel_rfl) (by kernel_rfl) (by kernel_rfl) (by exact fun _ _ _ h => h) (by first | (refine Or.inl ⟨by rfl, ?_⟩; intro W hW; go_simp; try with_reducible rfl) | exact Or.inr ⟨by rfl, rfl⟩) ?_; try simp only [Act.put, List.setIfInBounds_toArray, List.set_cons_zero, List.set_cons_succ])
  (refine takeE (wrTr (w.heap.size + 1 + 1)) 7 (by simp only [List.getElem?_toArray, List.getElem?_cons_succ, List.getElem?_cons_zero]; rfl) (by kernel_rfl) (by kernel_rfl) (by kernel_rfl) (by exact fun _ _ _ h => h) (by first | (refine Or.inl ⟨by rfl, ?_⟩; intro W hW; go_simp; try with_reducible rfl) | exact Or.inr ⟨by rfl, rfl⟩) ?_; try simp only [Act.put, List.setIfInBounds_toArray, List.set_cons_zero, List.set_cons_succ])
  (refine takeE (wrTr (w.heap.size + 1 + 1)) 8 (by simp only [List.getElem?_toArray, List.getElem?_cons_succ, List.getElem?_cons_zero]; rfl) (by kernel_rfl) (by kernel_rfl) (by kernel_rfl) (by exact fun _ _ _ h => h) (by first | (refine Or.inl ⟨by rfl, ?_⟩; intro W hW; go_simp; try with_reducible rfl) | exact Or.inr ⟨by rfl, rfl⟩) ?_; try simp only [Act.put, List.setIfInBounds_toArray, List.set_cons_zero, List.set_cons_succ])
  (refine takeE (wrTr (w.heap.size + 1 + 1)) 9 (by simp only [List.getElem?_toArray, List.getElem?_cons_succ, List.getElem?_cons_zero]; rfl) (by kernel_rfl) (by kernel_rfl) (by kernel_rfl) (by exact fun _ _ _ h => h) (by first | (refine Or.inl ⟨by rfl, ?_⟩; intro W hW; go_simp; try with_reducible rfl) | exact Or.inr ⟨by rfl, rfl⟩) ?_; try simp only [Act.put, List.setIfInBounds_toArray, List.set_cons_zero, List.set_cons_succ])
  (refine takeE (wrTr (w.heap.size + 1 + 1)) 10 (by simp only [List.getElem?_toArray, List.getElem?_cons_succ, List.getElem?_cons_zero]; rfl) (by kernel_rfl) (by kernel_rfl) (by kernel_rfl) (by exact fun _ _ _ h => h) (by first | (refine Or.inl ⟨by rfl, ?_⟩; intro W hW; go_simp; try with_reducible rfl) | exact Or.inr ⟨by rfl, rfl⟩) ?_; try simp only [Act.put, List.setIfInBounds_toArray, List.set_cons_zero, List.set_cons_succ])
  (refine takeE (wrTr (w.heap.size + 1 + 1)) 11 (by simp only [List.getElem?_toArray, List.getElem?_cons_succ, List.getElem?_cons_zero]; rfl) (by kernel_rfl) (by kernel_rfl) (by kernel_rfl) (by exact fun _ _ _ h => h) (by first | (refine Or.inl ⟨by rfl, ?_⟩; intro W hW; go_simp; try with_reducible rfl) | exact Or.inr ⟨by rfl, rfl⟩) ?_; try simp only [Act.put, List.setIfInBounds_toArray, List.set_cons_zero, List.set_cons_succ])
  refine wpAnyE_one (i := 12) (by kernel_rfl) (by simp only [List.getElem?_toArray, List.getElem?_cons_succ, List.getElem?_cons_zero]; rfl) (fun K hK => ?_)
  go_simp
  refine hK.out _ _ ((Wr.set _ _ _ _).trans (Wr.set _ _ _ _) (by simp [World.setCell])) ?_
  clear hK K
  try simp only [Act.put, List.setIfInBounds_toArray, List.set_cons_zero, List.set_cons_succ]
  (refine takeE (wrTr (w.heap.size + 1 + 1)) 13 (by simp only [List.getElem?_toArray, List.getElem?_cons_succ, List.getElem?_cons_zero]; rfl) (by kernel_rfl) (by kernel_rfl) (by kernel_rfl) (by exact fun _ _ _ h => h) (by first | (refine Or.inl ⟨by rfl, ?_⟩; intro W hW; go_simp; try with_reducible rfl) | exact Or.inr ⟨by rfl, rfl⟩) ?_; try simp only [Act.put, List.setIfInBounds_toArray, List.set_cons_zero, List.set_cons_succ])
  refine wpAnyE_done (by kernel_rfl) ?_ _
  clear k0 k1 k2 k3 k4 k5 k6 k7
  have u2 := (s2.set 0 (.slice (some ⟨g, o, none⟩) n c)).set 1 (.int .i64 room)
  have e0 := u2.cell 0 rfl
  have e1 := u2.cell 1 rfl
  go_wp2
  refine bodyPost_ret (v := .tuple #[.agg #[.slice (some ⟨g, o, none⟩) n c, .int .i64 room], .bool true]) (by simp [results, Try.results10, go_sem, e0, e1]) rfl ?_
  exact stp_end H.out HE.out (by omega) hb3 hbd _ _
set_option maxRecDepth 100000 in
set_option maxHeartbeats 4000000 in
theorem step_peek_out (F : Nat → Prop) (p room : Nat) (xs : List Int) (A : Option Addr) (n c : Nat) (dv : Nat) (B : Option Addr) (m d : Nat) (on : Int) (w : World) (h : Twin F w p room xs A n c) (hm : m ≤ d) (hd : d ≤ maxLen) (hdv : dv < 256) (hi : 0 ≤ on → (n : Int) ≤ on) (hmod : (dv : Int) % 10 = 6) :
    Calls Try.prog 10 #[.pointer (some ⟨p, 0, none⟩), .agg #[.slice A n c, .int .i64 room], .agg #[.int .u8 dv, .slice B m d, .int .i64 on]] w (Stp F p room A n w) := by
  obtain ⟨w3, hw3, q0, q1, q2, hb3, hs3⟩ := boxes3 w A n c room dv B m d on
  have h3 := h.below hb3
  have HSh := Lib.hid (short_any B m d w3 hm hd)
  rw [hw3] at HSh
  have HW3 := Lib.hid hw3
  have HLen := h.len
  have H := Lib.hid h
  clear hw3 h
  go_enter Try.func10, Try.ntmps10
  go_wp2_with fail
  refine HSh.out.mono ?_
  rintro e w' ⟨rfl, rfl⟩
  rw [← HW3.out]
  clear HSh HW3
  have c00 := q0.cell 0 rfl
  have c01 := q0.cell 1 rfl
  have c10 := q1.cell 0 rfl
  have c12 := q1.cell 2 rfl
  have c20 := q2.cell 0 rfl
  have c21 := q2.cell 1 rfl
  go_wp2_with fail
  have hxl : xs.length = n := H.out.2.1.1.1
  refine (peek_out F p room _ w3 h3.1 on (by rw [List.length_map, hxl]; exact hi)).mono ?_
  rintro e w4 ⟨rfl, rfl⟩
  have HE : Hid _ := Lib.hid (show ∃ F', Twin F' w3 p room xs A n c ∧ Gr F F' w3.heap.size ∧ St F w3 w3 ∧ Gr (BlkN A n) (BlkN A n) w3.heap.size from ⟨F, h3, Gr.refl _ _, St.refl _ _, Gr.refl _ _⟩)
  have HXL := Lib.hid hxl
  clear hxl
  have f20 := q2.free 0
  have f21 := q2.free 1
  have hcs : on < 0 ∨ (0 ≤ on ∧ (n : Int) ≤ on) := by omega
  clear hi
  rcases hcs with h0 | ⟨h0, h0'⟩
  all_goals
    go_wp2
    have u2 := (q2.set 0 (.slice A n c)).set 1 (.int .i64 room)
    have e0 := u2.cell 0 rfl
    have e1 := u2.cell 1 rfl
    refine bodyPost_ret (v := .tuple #[.agg #[.slice A n c, .int .i64 room], .bool true]) (by simp [results, Try.results10, go_sem, e0, e1]) rfl ?_
    exact stp_end H.out HE.out (by omega) hb3 (Below.refl _ _) _ _
end Go.Proofs.Ytgeihelpggncgaa
