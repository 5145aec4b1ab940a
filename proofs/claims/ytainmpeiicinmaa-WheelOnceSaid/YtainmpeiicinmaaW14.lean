/- The document's wheel: ticks. -/
import Derived.Test.YtainmpeiicinmaaW13
set_option linter.unusedSimpArgs false
set_option linter.unusedVariables false
set_option maxRecDepth 100000
namespace Go.Proofs.Ytainmpeiicinmaa.Wi
open Go.RowKit Go.Shelf
/-- What Skip of the document's tells. -/
def RtS (m : Wm Int) (n : Int) (w : World) (e : Ending) (w' : World) : Prop := ∃ A k c A' k' c', e = .returned (.tuple #[.agg #[.slice A k c, .int .i64 (m.skip n).most, .int .i64 (m.skip n).now, .int .i64 (m.skip n).sets], .slice A' k' c']) ∧ RvL w' A k c (m.skip n).l ∧ Lst 3 (w.heap.size ≤ ·) w' A' k' c' (kvs (m.due n)) ∧ Below w.heap.size w w'
def slLen : Value → Nat
  | .slice _ n _ => n
  | _ => 0
theorem low_app {l1 rs : List (Tm Int)} {N : Int} (h1 : ∀ t ∈ l1, t.d ≤ N) (h2 : ∀ t r, rs = t :: r → N < t.d) : low (l1 ++ rs) N = l1 ∧ high (l1 ++ rs) N = rs := by
  induction l1 with
  | nil =>
    cases rs with
    | nil => exact ⟨rfl, rfl⟩
    | cons t r =>
      have := h2 t r rfl
      unfold low high
      rw [List.nil_append, List.takeWhile_cons, List.dropWhile_cons, if_neg (by simpa using this), if_neg (by simpa using this)]
      exact ⟨rfl, rfl⟩
  | cons a l ih =>
    have h0 := h1 a (by simp)
    have ih := ih (fun t ht => h1 t (by simp [ht]))
    unfold low high at ih ⊢
    rw [List.cons_append, List.takeWhile_cons, List.dropWhile_cons, if_pos (by simpa using h0), if_pos (by simpa using h0), ih.1, ih.2]
    exact ⟨rfl, rfl⟩
/-- Between two rounds. -/
structure SkJ (m : Wm Int) (X : Int) (w : World) (l1 rs : List (Tm Int)) (A : Option Addr) (n c : Nat) (A' : Option Addr) (n' c' : Nat) (W : World) : Prop where
  eq : m.l = l1 ++ rs
  le : ∀ t ∈ l1, t.d ≤ X
  b0 : Bk W 29 w.heap.size [.slice A n c, .int .i64 m.most, .int .i64 X, .int .i64 m.sets]
  b1 : Bk W 29 (w.heap.size + 1) [.slice none 0 0, .int .i64 0, .int .i64 0, .int .i64 0]
  rv : RvL W A n c rs
  ls : Lst 3 (w.heap.size + 2 ≤ ·) W A' n' c' (kvs (l1.map Tm.k))
  bl : Below w.heap.size w W
  sz : w.heap.size + 2 ≤ W.heap.size
section
variable {w w' w1 w2 : World} {g p : Nat} {m m' : Wm Int} {l : List (Tm Int)} {A : Option Addr} {n c : Nat} {T : TypeId}
theorem SkJ.next {X : Int} {l1 rs : List (Tm Int)} {A' : Option Addr} {n' c' : Nat} {W W' : World} (h : SkJ m X w l1 rs A n c A' n' c' W) (hb : Below W.heap.size W W') : SkJ m X w l1 rs A n c A' n' c' W' :=
  ⟨h.eq, h.le, h.b0.below hb, h.b1.below hb, h.rv.below hb, h.ls.below hb, below_on h.bl hb, Nat.le_trans h.sz hb.size⟩
/-- A key told. -/
theorem SkJ.step {X : Int} {l1 r : List (Tm Int)} {t : Tm Int} {A' A3 : Option Addr} {n' c' n3 c3 : Nat} {W W' : World} (h : SkJ m X w l1 (t :: r) A n c A' n' c' W) (hd : t.d ≤ X) (o : Obj) (hap : Apd 3 (BlkOf A') (W.alloc o) (.slice A3 n3 c3) (kvs (l1.map Tm.k) ++ [.int .i64 t.k]) W') :
    SkJ m X w (l1 ++ [t]) r (cutR A c 1 3) (n - 1) (c - 1) A3 n3 c3 (W'.setCell ⟨w.heap.size, 0, none⟩ (.slice (cutR A c 1 3) (n - 1) (c - 1))) := by
  have hn := h.rv.hn
  rw [List.length_cons] at hn
  obtain ⟨k1, k2⟩ := below_apd (N := w.heap.size + 2) (by have := h.sz; simp; omega) (h.ls.alloc o) hap
  have hba : Below (w.heap.size + 2) W W' := ((Below.refl _ _).alloc h.sz o).trans k2
  have b0 : Bk W' 29 w.heap.size _ := h.b0.keep hba (by omega)
  have b1 : Bk W' 29 (w.heap.size + 1) _ := h.b1.keep hba (by omega)
  have hsz := Nat.le_trans h.sz hba.size
  have hst : St (BlkOf A') (W.alloc o) W' := hap.st
  have rv : RvL W' (cutR A c 1 3) (n - 1) (c - 1) r := by
    have h1 : RvL (W.alloc o) (cutR A c 1 3) (n - 1) (c - 1) r := (h.rv.cut (s := 1) (by omega)).alloc o
    refine LstR.same h1 fun ad he => hst.block _ (h1.blk ad he).2 fun hk => ?_
    have h2 := h1.tyd _ ⟨ad, he, rfl⟩
    have h3 := (h.ls.alloc o)
    obtain ⟨ad', he', hk'⟩ := hk
    rcases h3.2.2.2.2 with ⟨h4, _⟩ | ⟨g', o', cur, h4, _, hh, _⟩
    · rw [h4] at he'; cases he'
    · rw [h4] at he'
      injection he' with he'
      subst he'
      rw [← hk'] at h2
      exact h2.ne (u := 3) (by decide) ⟨_, _, hh⟩
  refine ⟨by rw [h.eq]; simp, ?_, b0.set 0 _, b1.far (p := ⟨w.heap.size, 0, none⟩) (show w.heap.size + 1 ≠ w.heap.size by omega) _, rv.st (p := w.heap.size) (St.setCell (F := (· = w.heap.size)) W' (a := ⟨w.heap.size, 0, none⟩) rfl _) b0.tyd (by decide), ?_, ?_, by simpa [World.setCell] using hsz⟩
  · intro t' ht'
    rcases List.mem_append.1 ht' with ht' | ht'
    · exact h.le t' ht'
    · rw [List.mem_singleton.1 ht']; exact hd
  · have h5 := k1.far (p := ⟨w.heap.size, 0, none⟩) (fun ad he => by have := (k1.blk ad he).1; simp; omega) (.slice (cutR A c 1 3) (n - 1) (c - 1))
    rw [show kvs ((l1 ++ [t]).map Tm.k) = kvs (l1.map Tm.k) ++ [.int .i64 t.k] from by simp [kvs]]
    exact h5
  · exact (h.bl.trans (hba.mono (by omega))).trans ((Below.refl _ _).setCell (by simp) _)
theorem SkJ.fin {X : Int} {l1 rs : List (Tm Int)} {A' : Option Addr} {n' c' : Nat} {W w3 : World} {n0 : Int} (h : SkJ m X w l1 rs A n c A' n' c' W) (hX : m.now + clampN n0 = X) (h2 : ∀ t r, rs = t :: r → X < t.d) (hw3 : Wr (w.heap.size + 1) W w3) :
    RtS m n0 w (.returned (.tuple #[.agg #[.slice A n c, .int .i64 m.most, .int .i64 X, .int .i64 m.sets], .slice A' n' c'])) w3 := by
  obtain ⟨e1, e2⟩ := low_app h.le h2
  refine ⟨A, n, c, A', n', c', by rw [← hX]; rfl, ?_, ?_, h.bl.trans ((st_wr hw3).below (by have := h.sz; omega) (by rintro k rfl; omega))⟩
  · show RvL w3 A n c (high m.l (m.now + clampN n0))
    rw [hX, h.eq, e2]
    exact h.rv.st (st_wr hw3) h.b1.tyd (by decide)
  · show Lst 3 (w.heap.size ≤ ·) w3 A' n' c' (kvs ((low m.l (m.now + clampN n0)).map Tm.k))
    rw [hX, h.eq, e1]
    exact (h.ls.st (st_wr hw3) fun k hk he => by omega).mono fun k hk => by omega
set_option maxHeartbeats 4000000 in
theorem r_skip_yes (h : RvL w A n c m.l) (hnm : m.Nm) (hnb : m.now ≤ 1000000000) (n0 : Int) (hn0 : 0 < n0) (hn1 : n0 ≤ 1048576) : Calls Try.prog 13 #[.agg #[.slice A n c, .int .i64 m.most, .int .i64 m.now, .int .i64 m.sets], .int .i64 n0] w (RtS m n0 w) := by
  obtain ⟨q, z, hb⟩ := bx2 w m A n c
  have c2 := q.cell 2 rfl
  have f2 := q.free 2
  have hnw0 := hnm.n0
  have HX : Hid (m.now + clampN n0 = m.now + n0) := Lib.hid (by unfold clampN; rw [if_neg (by omega), if_pos hn1])
  have hJ : SkJ m (m.now + n0) w [] m.l A n c none 0 0 ((w.alloc (.cells #[.slice A n c, .int .i64 m.most, .int .i64 (m.now + n0), .int .i64 m.sets] 29)).alloc (.cells #[.slice none 0 0, .int .i64 0, .int .i64 0, .int .i64 0] 29)) := by
    obtain ⟨q', z', hb'⟩ := bx2 w ⟨m.most, m.now + n0, m.sets, m.l⟩ A n c
    exact ⟨rfl, by simp, q', z', h.below hb', Lst.nil _ _ _, hb', by simp⟩
  have HNM := Lib.hid hnm
  clear h hb q z hnm
  go_enter Try.func13, Try.ntmps13
  go_wp2
  go_loopw [6] (fun s W => ∃ l1 rs A2 n2 c2 A' n' c', s = .slice A' n' c' ∧ SkJ m (m.now + n0) w l1 rs A2 n2 c2 A' n' c' W) (fun s _ => 4000 - slLen s)
  case atStart => exact ⟨[], m.l, A, n, c, none, 0, 0, rfl, hJ⟩
  case round =>
    clear hJ c2 f2
    obtain ⟨l1, rs, A2, n2, c2, A', n', c', rfl, hj⟩ := hrel
    have hn2 := hj.rv.hn
    have hlen : n' + n2 ≤ 1024 ∧ n' ≤ 1024 := by
      have h1 := congrArg List.length hj.eq
      have h2 := HNM.out.ln
      have h3 := hj.ls.1
      rw [kvs_len, List.length_map] at h3
      rw [List.length_append] at h1
      omega
    have x0 := hj.b0.cell 0 rfl
    have x2 := hj.b0.cell 2 rfl
    cases rs with
    | nil =>
      have hn0' : n2 = 0 := hn2
      subst hn0'
      have HLt : Hid (∀ t r, ([] : List (Tm Int)) = t :: r → m.now + n0 < t.d) := Lib.hid (fun t r h => by cases h)
      have HJ := Lib.hid hj
      clear hj hn2 hlen
      go_wp2_with fail
      go_quiet (fail)
      have HJ9 := Lib.hid (HJ.out.next (Below.drewN_ wr nq))
      clear x0 x2
      go_wp2_with (first
        | (with_reducible refine at_load 29 (.tmp 2) (by rfl) ?_
           refine wpList_load_bk rowR rfl (.tmp 2) rfl w.heap.size 0 rfl (HJ9.out.b0) [.slice A2 0 c2, .int .i64 m.most, .int .i64 (m.now + n0), .int .i64 m.sets] rfl rfl ?_)
        | (with_reducible refine at_store 29 (.tmp 4) (.tmp 40) (by rfl) ?_
           refine wpList_store_bk rowR rfl (.tmp 4) (.tmp 40) rfl (w.heap.size + 1) 0 rfl (HJ9.out.b1) [.slice A2 0 c2, .int .i64 m.most, .int .i64 (m.now + n0), .int .i64 m.sets] rfl rfl (by show 0 + 4 ≤ 4; omega) (by simp [Value.oneCell']) ?_
           intro w3 hz3 hw3
           rw [lay_all _ _ (by rfl)] at hz3))
      refine bodyPost_ret (results_cell_tmp rfl rfl (rowR.load hz3 0 (cs := [.slice A2 0 c2, .int .i64 m.most, .int .i64 (m.now + n0), .int .i64 m.sets]) rfl rfl)) rfl ?_
      exact HJ9.out.fin HX.out HLt.out hw3
    | cons t r =>
      have hl0 : 0 < (t :: r).length := by simp
      obtain ⟨g1, o, rfl, hg1, hra⟩ := hj.rv.row hl0
      rw [show o + 0 * 3 = o from by omega] at hra
      have d0 := hra 0 (.int .i64 t.k) rfl
      rw [Nat.add_zero] at d0
      have d1 := hra 1 (.int .i64 t.d) rfl
      have hN0 : (0 : Int) < n2 := by rw [hn2]; simp
      have hgp : 0 < n2 := by omega
      have hg0 : decide (0 < n2) = true := decide_eq_true hgp
      have hN1 : n2 ≤ 1024 := by omega
      by_cases hd : t.d ≤ m.now + n0
      · have HJ := Lib.hid hj
        have HD := Lib.hid hd
        have HLe := Lib.hid hlen
        have hcut : ∀ W : World, _ := fun W => eltT.run_cut (some ⟨g1, o, none⟩) n2 c2 1 (by omega) hj.rv.2.1 W
        have HRA := Lib.hid (And.intro hra hg1)
        clear hj hra hn2 hlen
        go_wp2_with fail
        go_quiet (fail)
        have hbd := Below.drewN_ wr nq
        have hj9 := HJ.out.next hbd
        have y0 := hj9.b0.cell 0 rfl
        have e0 := hj9.b0.free 0
        have hra9 := range_below HRA.out.1 HRA.out.2 hbd
        have k0 := hra9 0 (.int .i64 t.k) rfl
        rw [Nat.add_zero] at k0
        have hla := (hj9.ls.alloc (.cells #[.int .i64 t.k] 3)).tight
        have hu := RdV.one (wr.drewN nq) 3 (.int .i64 t.k) rfl
        have hn8 : n' ≤ 1024 := HLe.out.2
        have HJ9 := Lib.hid hj9
        clear x0 x2 d0 d1 hj9 hra9 hbd
        generalize wr.drewN nq = wq at *
        go_wp2_with (first
          | (refine wpList_build_one (x := .int .i64 t.k) eltK rfl (.tmp 33) rfl rfl rfl ?_)
          | (refine wpList_append_lst eltK rfl (.tmp 28) (.tmp 34) rfl rfl hla rfl hu (by omega) ?_
             rintro v w3 hap
             obtain ⟨A3, n3, c3, rfl, hl3⟩ := hap.ex
             have HS := Lib.hid (HJ9.out.step HD.out _ hap)
             have hbz : Bk w3 29 w.heap.size [.slice (some ⟨g1, o, none⟩) n2 c2, .int .i64 m.most, .int .i64 (m.now + n0), .int .i64 m.sets] := HJ9.out.b0.keep (((Below.refl _ _).alloc HJ9.out.sz _).trans (below_apd (N := w.heap.size + 2) (by have := HJ9.out.sz; simp; omega) (HJ9.out.ls.alloc _) hap).2) (by omega)
             have y1 := hbz.cell 0 rfl
             have e1 := hbz.free 0
             clear hap hl3 hla hu hbz y0 e0))
        go_roundw
        case rel => exact ⟨_, _, _, _, _, _, _, _, rfl, HS.out⟩
        case measure =>
          have h1 := HS.out.ls.1
          have h2 := HJ.out.ls.1
          rw [kvs_len, List.length_map, List.length_append, List.length_singleton] at h1
          rw [kvs_len, List.length_map] at h2
          show 4000 - n3 < 4000 - n'
          omega
      · have hd' : m.now + n0 < t.d := by omega
        have HLt : Hid (∀ t' r', t :: r = t' :: r' → m.now + n0 < t'.d) := Lib.hid (fun t' r' h => by injection h with h1 h2; rw [← h1]; exact hd')
        have HJ := Lib.hid hj
        clear hj hra hn2 hlen hd
        go_wp2_with fail
        go_quiet (fail)
        have HJ9 := Lib.hid (HJ.out.next (Below.drewN_ wr nq))
        clear x0 x2 d0 d1
        go_wp2_with (first
          | (with_reducible refine at_load 29 (.tmp 2) (by rfl) ?_
             refine wpList_load_bk rowR rfl (.tmp 2) rfl w.heap.size 0 rfl (HJ9.out.b0) [.slice (some ⟨g1, o, none⟩) n2 c2, .int .i64 m.most, .int .i64 (m.now + n0), .int .i64 m.sets] rfl rfl ?_)
          | (with_reducible refine at_store 29 (.tmp 4) (.tmp 40) (by rfl) ?_
             refine wpList_store_bk rowR rfl (.tmp 4) (.tmp 40) rfl (w.heap.size + 1) 0 rfl (HJ9.out.b1) [.slice (some ⟨g1, o, none⟩) n2 c2, .int .i64 m.most, .int .i64 (m.now + n0), .int .i64 m.sets] rfl rfl (by show 0 + 4 ≤ 4; omega) (by simp [Value.oneCell']) ?_
             intro w3 hz3 hw3
             rw [lay_all _ _ (by rfl)] at hz3))
        refine bodyPost_ret (results_cell_tmp rfl rfl (rowR.load hz3 0 (cs := [.slice (some ⟨g1, o, none⟩) n2 c2, .int .i64 m.most, .int .i64 (m.now + n0), .int .i64 m.sets]) rfl rfl)) rfl ?_
        exact HJ9.out.fin HX.out HLt.out hw3
set_option maxHeartbeats 4000000 in
theorem r_skip_no (h : RvL w A n c m.l) (hnm : m.Nm) (hnb : m.now ≤ 1000000000) (n0 : Int) (hn0 : n0 ≤ 0) : Calls Try.prog 13 #[.agg #[.slice A n c, .int .i64 m.most, .int .i64 m.now, .int .i64 m.sets], .int .i64 n0] w (RtS m n0 w) := by
  obtain ⟨q, z, hb⟩ := bx2 w m A n c
  have c2 := q.cell 2 rfl
  have f2 := q.free 2
  have hnw0 := hnm.n0
  have HX : Hid (m.now + clampN n0 = m.now) := Lib.hid (by unfold clampN; split; omega; split <;> omega)
  have hJ : SkJ m (m.now) w [] m.l A n c none 0 0 ((w.alloc (.cells #[.slice A n c, .int .i64 m.most, .int .i64 (m.now), .int .i64 m.sets] 29)).alloc (.cells #[.slice none 0 0, .int .i64 0, .int .i64 0, .int .i64 0] 29)) := by
    obtain ⟨q', z', hb'⟩ := bx2 w ⟨m.most, m.now, m.sets, m.l⟩ A n c
    exact ⟨rfl, by simp, q', z', h.below hb', Lst.nil _ _ _, hb', by simp⟩
  have HNM := Lib.hid hnm
  clear h hb q z hnm
  go_enter Try.func13, Try.ntmps13
  go_wp2
  go_loopw [6] (fun s W => ∃ l1 rs A2 n2 c2 A' n' c', s = .slice A' n' c' ∧ SkJ m (m.now) w l1 rs A2 n2 c2 A' n' c' W) (fun s _ => 4000 - slLen s)
  case atStart => exact ⟨[], m.l, A, n, c, none, 0, 0, rfl, hJ⟩
  case round =>
    clear hJ c2 f2
    obtain ⟨l1, rs, A2, n2, c2, A', n', c', rfl, hj⟩ := hrel
    have hn2 := hj.rv.hn
    have hlen : n' + n2 ≤ 1024 ∧ n' ≤ 1024 := by
      have h1 := congrArg List.length hj.eq
      have h2 := HNM.out.ln
      have h3 := hj.ls.1
      rw [kvs_len, List.length_map] at h3
      rw [List.length_append] at h1
      omega
    have x0 := hj.b0.cell 0 rfl
    have x2 := hj.b0.cell 2 rfl
    cases rs with
    | nil =>
      have hn0' : n2 = 0 := hn2
      subst hn0'
      have HLt : Hid (∀ t r, ([] : List (Tm Int)) = t :: r → m.now < t.d) := Lib.hid (fun t r h => by cases h)
      have HJ := Lib.hid hj
      clear hj hn2 hlen
      go_wp2_with fail
      go_quiet (fail)
      have HJ9 := Lib.hid (HJ.out.next (Below.drewN_ wr nq))
      clear x0 x2
      go_wp2_with (first
        | (with_reducible refine at_load 29 (.tmp 2) (by rfl) ?_
           refine wpList_load_bk rowR rfl (.tmp 2) rfl w.heap.size 0 rfl (HJ9.out.b0) [.slice A2 0 c2, .int .i64 m.most, .int .i64 (m.now), .int .i64 m.sets] rfl rfl ?_)
        | (with_reducible refine at_store 29 (.tmp 4) (.tmp 40) (by rfl) ?_
           refine wpList_store_bk rowR rfl (.tmp 4) (.tmp 40) rfl (w.heap.size + 1) 0 rfl (HJ9.out.b1) [.slice A2 0 c2, .int .i64 m.most, .int .i64 (m.now), .int .i64 m.sets] rfl rfl (by show 0 + 4 ≤ 4; omega) (by simp [Value.oneCell']) ?_
           intro w3 hz3 hw3
           rw [lay_all _ _ (by rfl)] at hz3))
      refine bodyPost_ret (results_cell_tmp rfl rfl (rowR.load hz3 0 (cs := [.slice A2 0 c2, .int .i64 m.most, .int .i64 (m.now), .int .i64 m.sets]) rfl rfl)) rfl ?_
      exact HJ9.out.fin HX.out HLt.out hw3
    | cons t r =>
      have hl0 : 0 < (t :: r).length := by simp
      obtain ⟨g1, o, rfl, hg1, hra⟩ := hj.rv.row hl0
      rw [show o + 0 * 3 = o from by omega] at hra
      have d0 := hra 0 (.int .i64 t.k) rfl
      rw [Nat.add_zero] at d0
      have d1 := hra 1 (.int .i64 t.d) rfl
      have hN0 : (0 : Int) < n2 := by rw [hn2]; simp
      have hgp : 0 < n2 := by omega
      have hg0 : decide (0 < n2) = true := decide_eq_true hgp
      have hN1 : n2 ≤ 1024 := by omega
      by_cases hd : t.d ≤ m.now
      · have HJ := Lib.hid hj
        have HD := Lib.hid hd
        have HLe := Lib.hid hlen
        have hcut : ∀ W : World, _ := fun W => eltT.run_cut (some ⟨g1, o, none⟩) n2 c2 1 (by omega) hj.rv.2.1 W
        have HRA := Lib.hid (And.intro hra hg1)
        clear hj hra hn2 hlen
        go_wp2_with fail
        go_quiet (fail)
        have hbd := Below.drewN_ wr nq
        have hj9 := HJ.out.next hbd
        have y0 := hj9.b0.cell 0 rfl
        have e0 := hj9.b0.free 0
        have hra9 := range_below HRA.out.1 HRA.out.2 hbd
        have k0 := hra9 0 (.int .i64 t.k) rfl
        rw [Nat.add_zero] at k0
        have hla := (hj9.ls.alloc (.cells #[.int .i64 t.k] 3)).tight
        have hu := RdV.one (wr.drewN nq) 3 (.int .i64 t.k) rfl
        have hn8 : n' ≤ 1024 := HLe.out.2
        have HJ9 := Lib.hid hj9
        clear x0 x2 d0 d1 hj9 hra9 hbd
        generalize wr.drewN nq = wq at *
        go_wp2_with (first
          | (refine wpList_build_one (x := .int .i64 t.k) eltK rfl (.tmp 33) rfl rfl rfl ?_)
          | (refine wpList_append_lst eltK rfl (.tmp 28) (.tmp 34) rfl rfl hla rfl hu (by omega) ?_
             rintro v w3 hap
             obtain ⟨A3, n3, c3, rfl, hl3⟩ := hap.ex
             have HS := Lib.hid (HJ9.out.step HD.out _ hap)
             have hbz : Bk w3 29 w.heap.size [.slice (some ⟨g1, o, none⟩) n2 c2, .int .i64 m.most, .int .i64 (m.now), .int .i64 m.sets] := HJ9.out.b0.keep (((Below.refl _ _).alloc HJ9.out.sz _).trans (below_apd (N := w.heap.size + 2) (by have := HJ9.out.sz; simp; omega) (HJ9.out.ls.alloc _) hap).2) (by omega)
             have y1 := hbz.cell 0 rfl
             have e1 := hbz.free 0
             clear hap hl3 hla hu hbz y0 e0))
        go_roundw
        case rel => exact ⟨_, _, _, _, _, _, _, _, rfl, HS.out⟩
        case measure =>
          have h1 := HS.out.ls.1
          have h2 := HJ.out.ls.1
          rw [kvs_len, List.length_map, List.length_append, List.length_singleton] at h1
          rw [kvs_len, List.length_map] at h2
          show 4000 - n3 < 4000 - n'
          omega
      · have hd' : m.now < t.d := by omega
        have HLt : Hid (∀ t' r', t :: r = t' :: r' → m.now < t'.d) := Lib.hid (fun t' r' h => by injection h with h1 h2; rw [← h1]; exact hd')
        have HJ := Lib.hid hj
        clear hj hra hn2 hlen hd
        go_wp2_with fail
        go_quiet (fail)
        have HJ9 := Lib.hid (HJ.out.next (Below.drewN_ wr nq))
        clear x0 x2 d0 d1
        go_wp2_with (first
          | (with_reducible refine at_load 29 (.tmp 2) (by rfl) ?_
             refine wpList_load_bk rowR rfl (.tmp 2) rfl w.heap.size 0 rfl (HJ9.out.b0) [.slice (some ⟨g1, o, none⟩) n2 c2, .int .i64 m.most, .int .i64 (m.now), .int .i64 m.sets] rfl rfl ?_)
          | (with_reducible refine at_store 29 (.tmp 4) (.tmp 40) (by rfl) ?_
             refine wpList_store_bk rowR rfl (.tmp 4) (.tmp 40) rfl (w.heap.size + 1) 0 rfl (HJ9.out.b1) [.slice (some ⟨g1, o, none⟩) n2 c2, .int .i64 m.most, .int .i64 (m.now), .int .i64 m.sets] rfl rfl (by show 0 + 4 ≤ 4; omega) (by simp [Value.oneCell']) ?_
             intro w3 hz3 hw3
             rw [lay_all _ _ (by rfl)] at hz3))
        refine bodyPost_ret (results_cell_tmp rfl rfl (rowR.load hz3 0 (cs := [.slice (some ⟨g1, o, none⟩) n2 c2, .int .i64 m.most, .int .i64 (m.now), .int .i64 m.sets]) rfl rfl)) rfl ?_
        exact HJ9.out.fin HX.out HLt.out hw3

theorem r_skip (h : RvL w A n c m.l) (hnm : m.Nm) (hnb : m.now ≤ 1000000000) (n0 : Int) (hn1 : n0 ≤ 1048576) : Calls Try.prog 13 #[.agg #[.slice A n c, .int .i64 m.most, .int .i64 m.now, .int .i64 m.sets], .int .i64 n0] w (RtS m n0 w) := by
  by_cases hn0 : n0 ≤ 0
  · exact r_skip_no h hnm hnb n0 hn0
  · exact r_skip_yes h hnm hnb n0 (by omega) hn1
end
end Go.Proofs.Ytainmpeiicinmaa.Wi
