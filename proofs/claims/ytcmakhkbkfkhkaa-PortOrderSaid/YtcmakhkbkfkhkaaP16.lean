/- The law of order. -/
import Derived.Test.YtcmakhkbkfkhkaaP14
import Derived.Test.YtcmakhkbkfkhkaaOpen
set_option linter.unusedSimpArgs false
set_option linter.unusedVariables false
namespace Go.Proofs.Ytcmakhkbkfkhkaa
open Go.RowKit Go.Shelf

/-- A row of packets whose numbers rise, between two numbers, with these payloads. -/
structure Up (l : List Pk) (lo i : Int) (xs : List Int) : Prop where
  up : l.Pairwise (fun x y => x.h.sq < y.h.sq)
  lo : ∀ x ∈ l, lo < x.h.sq
  hi : ∀ x ∈ l, x.h.sq < i
  xs : ∀ x ∈ l, x.xs = xs
theorem Up.nil (lo i : Int) (xs : List Int) : Up [] lo i xs := ⟨List.Pairwise.nil, by simp, by simp, by simp⟩
theorem Up.mono {l : List Pk} {lo i j : Int} {xs : List Int} (h : Up l lo i xs) (hj : i ≤ j) : Up l lo j xs := ⟨h.up, h.lo, fun x hx => by have := h.hi x hx; omega, h.xs⟩
theorem Up.snoc {l : List Pk} {lo i : Int} {xs : List Int} (h : Up l lo i xs) {x : Pk} (hs : x.h.sq = i) (hl : lo < i) (hx : x.xs = xs) : Up (l ++ [x]) lo (i + 1) xs := by
  refine ⟨List.pairwise_append.2 ⟨h.up, by simp, fun a ha b hb => by rw [List.mem_singleton.1 hb, hs]; exact h.hi a ha⟩, fun y hy => ?_, fun y hy => ?_, fun y hy => ?_⟩
  all_goals rcases List.mem_append.1 hy with hy | hy
  · exact h.lo y hy
  · rw [List.mem_singleton.1 hy, hs]; exact hl
  · have := h.hi y hy; omega
  · rw [List.mem_singleton.1 hy, hs]; omega
  · exact h.xs y hy
  · rw [List.mem_singleton.1 hy]; exact hx
theorem Up.tail {l : List Pk} {x : Pk} {lo i : Int} {xs : List Int} (h : Up (x :: l) lo i xs) : Up l x.h.sq i xs :=
  ⟨(List.pairwise_cons.1 h.up).2, fun y hy => (List.pairwise_cons.1 h.up).1 y hy, fun y hy => h.hi y (List.mem_cons_of_mem _ hy), fun y hy => h.xs y (List.mem_cons_of_mem _ hy)⟩
/-- What the law keeps of a port. -/
structure OI (m : AM) (lh ll i B : Int) : Prop where
  low : Up m.low lh i [7]
  high : Up m.high ll i []
  bl : -1 ≤ lh
  bh : -1 ≤ ll
  lhi : lh < i
  lli : ll < i
  ok : m.ok B
theorem oi_put {m : AM} {lh ll i B : Int} (h : OI m lh ll i B) {x : Pk} (hs : x.h.sq = i) (h1 : x.heavy = true → x.xs = [7]) (h2 : x.heavy = false → x.xs = []) : OI (m.nx x) lh ll (i + 1) (B + 1) := by
  have hm : ∀ m' : AM, m'.ok (B + 1) → Up m'.low lh (i + 1) [7] → Up m'.high ll (i + 1) [] → OI m' lh ll (i + 1) (B + 1) := fun m' a b c => ⟨b, c, h.bl, h.bh, by have := h.lhi; omega, by have := h.lli; omega, a⟩
  have hl := h.low.mono (show i ≤ i + 1 by omega)
  have hh := h.high.mono (show i ≤ i + 1 by omega)
  refine hm _ (AM.ok_nx h.ok x) ?_ ?_
  all_goals
    unfold AM.nx AM.base
    dsimp only
    split
    · cases hv : x.heavy
      · first | exact hl | exact h.high.snoc hs h.lli (h2 hv)
      · first | exact hh | exact h.low.snoc hs h.lhi (h1 hv)
    · split
      · rename_i hv2
        have ht := (AM.vd_two hv2).1
        have e : x.trim = ⟨{ x.h with fl := x.h.fl + 8 }, []⟩ := by unfold Pk.trim; rw [if_pos ht]
        first | exact hl | exact h.high.snoc (x := x.trim) (by rw [e]; exact hs) h.lli (by rw [e])
      · first | exact hl | exact hh
def ak (i : Int) : Pk := ⟨⟨2, 0, 0, 0, 1, 1, i, 0⟩, []⟩
theorem oi_take {m : AM} {lh ll i B : Int} (h : OI m lh ll i B) {x : Pk} {l : List Pk} (hx : m.sel m.hiB = x :: l) :
    (x.xs = [7] ∧ lh < x.h.sq ∧ x.h.sq < i ∧ OI (m.srv 1 m.hiB x l) x.h.sq ll (i + 1) (B + 1)) ∨ (x.xs = [] ∧ ll < x.h.sq ∧ x.h.sq < i ∧ OI (m.srv 1 m.hiB x l) lh x.h.sq (i + 1) (B + 1)) := by
  have hok : (m.srv 1 m.hiB x l).ok (B + 1) := AM.ok_srv h.ok 1 _ x l
  have hl := h.low.mono (show i ≤ i + 1 by omega)
  have hh := h.high.mono (show i ≤ i + 1 by omega)
  generalize m.hiB = hi at *
  have e : m.srv 1 hi x l = { m.took hi l with ct := up m.ct 0 (m.ct 0 + 1) } := by simp [AM.srv]
  rw [e] at hok ⊢
  cases hi with
  | false =>
    have hx' : m.low = x :: l := hx
    rw [hx'] at hl
    have h1 := h.low.lo x (by rw [hx']; exact List.mem_cons_self)
    have h2 := h.low.hi x (by rw [hx']; exact List.mem_cons_self)
    exact .inl ⟨h.low.xs x (by rw [hx']; exact List.mem_cons_self), h1, h2, hl.tail, hh, by have := h.bl; omega, h.bh, by omega, by have := h.lli; omega, hok⟩
  | true =>
    have hx' : m.high = x :: l := hx
    rw [hx'] at hh
    have h1 := h.high.lo x (by rw [hx']; exact List.mem_cons_self)
    have h2 := h.high.hi x (by rw [hx']; exact List.mem_cons_self)
    exact .inr ⟨h.high.xs x (by rw [hx']; exact List.mem_cons_self), h1, h2, hl, hh.tail, h.bl, by have := h.bh; omega, by have := h.lhi; omega, by omega, hok⟩
set_option maxHeartbeats 8000000 in
set_option maxRecDepth 100000 in
theorem range_belowO {w w1 : World} {g o : Nat} {cs : List Value} (h : w.rangeAt g o cs) (hg : g < w.heap.size) (hb : Below w.heap.size w w1) : w1.rangeAt g o cs := fun j v hv => (hb.cell (p := ⟨g, o + j, none⟩) hg).trans (h j v hv)
set_option maxHeartbeats 8000000 in
set_option maxRecDepth 100000 in
theorem lawOrder (a b : Nat) (A : Option Addr) (n c : Nat) (xs : List Int) (w : World) (ha : a < 256) (hb : b < 256) (h : Rd .u8 w A n c xs) :
    Calls Try.prog 4 #[.int .u8 a, .int .u8 b, .slice A n c] w fun e w' => e = .returned (.bool true) ∧ Below w.heap.size w w' := by
  have e1 : (a : Int).tmod 6 = ((a % 6 : Nat) : Int) := by rw [Int.tmod_eq_emod_of_nonneg (by omega)]; simp
  have e2 : (b : Int).tmod 6 = ((b % 6 : Nat) : Int) := by rw [Int.tmod_eq_emod_of_nonneg (by omega)]; simp
  have hwt : a % 6 < 6 := Nat.mod_lt _ (by decide)
  have hnn : b % 6 < 6 := Nat.mod_lt _ (by decide)
  generalize a % 6 = lo at *
  generalize b % 6 = hi at *
  obtain ⟨L, hL⟩ : ∃ L : Nat, (1 + (lo : Int)) = L := ⟨1 + lo, by omega⟩
  obtain ⟨H, hH⟩ : ∃ H : Nat, (1 + (hi : Int)) = H := ⟨1 + hi, by omega⟩
  have hL1 : 1 ≤ L ∧ L ≤ 6 := by omega
  have hH1 : 1 ≤ H ∧ H ≤ 6 := by omega
  have HR := Lib.hid h
  have hnm : n ≤ 9223372036854775807 := by have h := h.2.1; have := HR.out.2.2.1; simp only [maxLen] at this; omega
  clear h
  go_enter Try.func4, Try.ntmps4
  go_wp2_with fail
  clear hL hH hwt hnn e1 e2
  refine (ptw_new (w0 := w) L H 3 w (Below.refl _ _) hL1.1 (by omega) hH1.1 (by omega) (by decide) (by decide)).mono ?_
  rintro e w1 ⟨rfl, F1, hp1, -, -⟩
  have HP1 := Lib.hid hp1
  clear hp1
  go_wp2_with fail
  refine (p_awake w1).mono ?_
  rintro e w2 ⟨rfl, hb2⟩
  have HP2 := Lib.hid (HP1.out.below hb2)
  have HO : Hid (OI (AM.new L H 3) (-1) (-1) 0 0) := Lib.hid ⟨Up.nil _ _ _, Up.nil _ _ _, by decide, by decide, by decide, by decide, AM.ok_new _ _ _⟩
  clear HP1 hb2 ha hb
  go_wp2
  go_loopw [9, 10, 11] (fun v9 v10 v wr => ∃ (i : Nat) (lh ll : Int) (F : Nat → Prop) (m : AM), v9 = .int .i64 lh ∧ v10 = .int .i64 ll ∧ v = .int .i64 i ∧ i ≤ n ∧ i ≤ 120 ∧ PtW F w wr w.heap.size m ∧ OI m lh ll i i) (fun _ _ v _ => n + 1 - (intOf v).toNat)
  case atStart => exact ⟨0, -1, -1, F1, _, rfl, rfl, rfl, Nat.zero_le _, by decide, HP2.out, HO.out⟩
  case round =>
    obtain ⟨i, lh, ll, F, m, rfl, rfl, rfl, hi1, hi2, hp, hm⟩ := hrel
    by_cases hlt : i < n
    · by_cases hlt2 : i < 120
      · obtain ⟨g, o, rfl, hg, hc⟩ := (HR.out.below hp.bl).cell hlt
        obtain ⟨hx0, hx1⟩ : 0 ≤ xs.getD i 0 ∧ xs.getD i 0 < 256 := by
          have h5 := HR.out.2.2.2.2.1
          have hl : i < xs.length := by rw [HR.out.1]; exact hlt
          have := h5 xs[i] (List.getElem_mem _)
          have h6 := u8_bounds this
          simpa [hl] using h6
        generalize xs.getD i 0 = t at *
        have HPI := Lib.hid hp
        have HM := Lib.hid hm
        clear hp hm
        have hrem : t.tmod 3 = t % 3 := Int.tmod_eq_emod_of_nonneg hx0
        have hr3 : t % 3 = 0 ∨ t % 3 = 1 ∨ t % 3 = 2 := by omega
        rcases hr3 with hr3 | hr3 | hr3
        · rw [hr3] at hrem
          by_cases hsel : m.sel m.hiB = []
          · have HS := Lib.hid (ptw_serve_none HPI.out 1 (by decide) (by decide) hsel)
            clear hr3
            go_wp2_with fail
            refine HS.out.mono ?_
            rintro e w5 ⟨A5, c5, F5, rfl, hd⟩
            have HD := Lib.hid hd.pt
            clear hd HS
            go_wp2
            go_loopw [9, 10, 15] (fun v9 v10 v wr => v9 = .int .i64 lh ∧ v10 = .int .i64 ll ∧ v = .int .i64 0 ∧ PtW F5 w wr w.heap.size m) (fun _ _ _ _ => 0)
            case atStart => exact ⟨rfl, rfl, rfl, HD.out⟩
            case round =>
              obtain ⟨rfl, rfl, rfl, hp⟩ := hrel
              have HP := Lib.hid hp
              clear hp
              go_wp2
              go_roundw
              case rel => exact ⟨i + 1, lh, ll, F5, m, rfl, rfl, by go_num, by omega, by omega, HP.out, by have h1 := HM.out; exact ⟨h1.low.mono (by omega), h1.high.mono (by omega), h1.bl, h1.bh, by have := h1.lhi; omega, by have := h1.lli; omega, h1.ok.mono (by omega)⟩⟩
              case measure => simp [intOf]; omega
          · obtain ⟨x, l, hx⟩ : ∃ x l, m.sel m.hiB = x :: l := by
              cases hsl : m.sel m.hiB with
              | nil => exact absurd hsl hsel
              | cons x l => exact ⟨x, l, rfl⟩
            have HS := Lib.hid (ptw_deliver HPI.out HM.out.ok (by omega) x l hx)
            have ht := oi_take HM.out hx
            have hsq0 : -1 ≤ lh ∧ -1 ≤ ll := ⟨HM.out.bl, HM.out.bh⟩
            generalize hm2 : m.srv 1 m.hiB x l = m2 at *
            clear hr3 hsel hx hm2
            rcases ht with ⟨ht1, ht2, ht3, ht4⟩ | ⟨ht1, ht2, ht3, ht4⟩
            · have HOI := Lib.hid ht4
              have HT1 := Lib.hid ht1
              clear ht4 ht1
              go_wp2_with fail
              refine HS.out.mono ?_
              rintro e w5 ⟨g5, o5, c5, ⟨qh, qA, qn, qc, qx⟩, F5, rfl, hra, hg5, hk, hr5, hd⟩
              have HD := Lib.hid hd.pt
              have hq1 : qh = x.h := by rw [← hk]; rfl
              have hq2 : qx = [7] := by rw [← HT1.out, ← hk]; rfl
              subst hq1 hq2
              have hqn : qn = 1 := by have := hr5.len; simpa using this.symm
              subst hqn
              obtain ⟨g6, o6, hA, hg6, hc6⟩ := hr5.1.cell (i := 0) (by show 0 < 1; decide)
              dsimp only at hA hc6
              subst hA
              clear hd HS hk hr5
              go_wp2
              go_loopw [9, 10, 15] (fun v9 v10 v wr => Below w5.heap.size w5 wr ∧ v10 = .int .i64 ll ∧ ((v = .int .i64 0 ∧ v9 = .int .i64 lh) ∨ (v = .int .i64 1 ∧ v9 = .int .i64 x.h.sq))) (fun _ _ v _ => 1 - (intOf v).toNat)
              case atStart => exact ⟨Below.refl _ _, rfl, .inl ⟨rfl, rfl⟩⟩
              case round =>
                obtain ⟨hb5, rfl, ⟨rfl, rfl⟩ | ⟨rfl, rfl⟩⟩ := hrel
                · have hra5 := range_belowO hra hg5 hb5
                  have hc65 := (hb5.cell (p := ⟨g6, o6 + 0, none⟩) hg6).trans hc6
                  simp only [Nat.add_zero, List.getD_cons_zero] at hc65
                  have hs0 : 0 ≤ x.h.sq := by omega
                  have hs1 : ¬ (x.h.sq < 0) := by omega
                  have hg6w : g6 < wr.heap.size := by have := hb5.size; omega
                  have hbn := hb5.alloc hb5.size (.cells (Pv.cl ⟨x.h, some ⟨g6, o6, none⟩, 1, qc, [7]⟩).toArray 37)
                  go_wp2_with (first
                    | (with_reducible refine at_load 37 (.tmp 95) (by rfl) ?_; refine wpList_load_pk rowP rfl (.tmp 95) rfl ⟨x.h, some ⟨g6, o6, none⟩, 1, qc, [7]⟩ g5 o5 rfl hra5 ?_))
                  go_roundw
                  case rel => exact ⟨hbn, rfl, .inr ⟨by go_num, rfl⟩⟩
                  case measure => simp [intOf]
                · have HPB := Lib.hid (HD.out.below hb5)
                  go_wp2
                  go_roundw
                  case rel => exact ⟨i + 1, x.h.sq, ll, F5, m2, rfl, rfl, by go_num, by omega, by omega, HPB.out, by have := HOI.out; simpa using this⟩
                  case measure => simp [intOf]; omega
            · have HOI := Lib.hid ht4
              have HT1 := Lib.hid ht1
              clear ht4 ht1
              go_wp2_with fail
              refine HS.out.mono ?_
              rintro e w5 ⟨g5, o5, c5, ⟨qh, qA, qn, qc, qx⟩, F5, rfl, hra, hg5, hk, hr5, hd⟩
              have HD := Lib.hid hd.pt
              have hq1 : qh = x.h := by rw [← hk]; rfl
              have hq2 : qx = [] := by rw [← HT1.out, ← hk]; rfl
              subst hq1 hq2
              have hqn : qn = 0 := by have := hr5.len; simpa using this.symm
              subst hqn
              clear hd HS hk hr5
              go_wp2
              go_loopw [9, 10, 15] (fun v9 v10 v wr => Below w5.heap.size w5 wr ∧ v9 = .int .i64 lh ∧ ((v = .int .i64 0 ∧ v10 = .int .i64 ll) ∨ (v = .int .i64 1 ∧ v10 = .int .i64 x.h.sq))) (fun _ _ v _ => 1 - (intOf v).toNat)
              case atStart => exact ⟨Below.refl _ _, rfl, .inl ⟨rfl, rfl⟩⟩
              case round =>
                obtain ⟨hb5, rfl, ⟨rfl, rfl⟩ | ⟨rfl, rfl⟩⟩ := hrel
                · have hra5 := range_belowO hra hg5 hb5
                  have hs0 : 0 ≤ x.h.sq := by omega
                  have hs1 : ¬ (x.h.sq < 0) := by omega
                  have hbn := hb5.alloc hb5.size (.cells (Pv.cl ⟨x.h, qA, 0, qc, []⟩).toArray 37)
                  go_wp2_with (first
                    | (with_reducible refine at_load 37 (.tmp 95) (by rfl) ?_; refine wpList_load_pk rowP rfl (.tmp 95) rfl ⟨x.h, qA, 0, qc, []⟩ g5 o5 rfl hra5 ?_))
                  go_roundw
                  case rel => exact ⟨hbn, rfl, .inr ⟨by go_num, rfl⟩⟩
                  case measure => simp [intOf]
                · have HPB := Lib.hid (HD.out.below hb5)
                  go_wp2
                  go_roundw
                  case rel => exact ⟨i + 1, lh, x.h.sq, F5, m2, rfl, rfl, by go_num, by omega, by omega, HPB.out, by have := HOI.out; simpa using this⟩
                  case measure => simp [intOf]; omega
        · rw [hr3] at hrem
          clear hr3
          go_wp2_with fail
          refine (p_hv i _).mono ?_
          rintro e w3 ⟨q, rfl, hk, hr, hb⟩
          have hz := Bk.new w3 37 [.int .i64 q.h.kd, .int .i64 q.h.fl, .int .i64 q.h.pa, .int .i64 q.h.sr, .int .i64 q.h.ds, .int .i64 q.h.cn, .int .i64 q.h.sq, .int .i64 q.h.pu, .slice q.A q.n q.c]
          have hb3 := hb.alloc hb.size (.cells (List.toArray [.int .i64 q.h.kd, .int .i64 q.h.fl, .int .i64 q.h.pa, .int .i64 q.h.sr, .int .i64 q.h.ds, .int .i64 q.h.cn, .int .i64 q.h.sq, .int .i64 q.h.pu, .slice q.A q.n q.c]) 37)
          have HPut := Lib.hid (ptw_put (HPI.out.below hb3) ((hr F HPI.out.bd).below ((Below.refl _ _).alloc (Nat.le_refl _) (.cells (List.toArray [.int .i64 q.h.kd, .int .i64 q.h.fl, .int .i64 q.h.pa, .int .i64 q.h.sr, .int .i64 q.h.ds, .int .i64 q.h.cn, .int .i64 q.h.sq, .int .i64 q.h.pu, .slice q.A q.n q.c]) 37))) HM.out.ok (by omega))
          have HK := Lib.hid hk
          have hc3 := (hb3.cell (p := ⟨g, o + i, none⟩) hg).trans hc
          have hg3 : g < w3.heap.size := Nat.lt_of_lt_of_le hg hb.size
          clear hk hr hc hb hb3
          go_wp2_with (with_reducible refine at_load 37 (.tmp 12) (by rfl) ?_; refine wpList_load_pk rowP rfl (.tmp 12) rfl q w3.heap.size 0 rfl (Bk.pk (q := q) hz) ?_)
          refine HPut.out.mono ?_
          rintro e w4 ⟨q', F4, rfl, hk4, hr4, hd4⟩
          have HD := Lib.hid hd4.pt
          clear hk4 hr4 hd4 HPut
          go_wp2
          go_roundw
          case rel => exact ⟨i + 1, lh, ll, F4, _, rfl, rfl, by go_num, by omega, by omega, HD.out, by rw [HK.out]; have := oi_put HM.out (x := hv i) rfl (fun _ => rfl) (fun h => by cases h); simpa using this⟩
          case measure => simp [intOf]; omega
        · rw [hr3] at hrem
          clear hr3
          go_wp2_with fail
          refine (p_hv i _).mono ?_
          rintro e w3 ⟨q, rfl, hk, hr, hb⟩
          have hz : Bk (w3.alloc (.cells (List.toArray [.int .i64 2, .int .i64 0, .int .i64 0, .int .i64 0, .int .i64 1, .int .i64 1, .int .i64 i, .int .i64 0, .slice none 0 0]) 37)) 37 w3.heap.size (Pv.cl ⟨(ak i).h, none, 0, 0, []⟩) := Bk.new w3 37 _
          have hb3 := hb.alloc hb.size (.cells (List.toArray [.int .i64 2, .int .i64 0, .int .i64 0, .int .i64 0, .int .i64 1, .int .i64 1, .int .i64 i, .int .i64 0, .slice none 0 0]) 37)
          have HPut := Lib.hid (ptw_put (q := ⟨(ak i).h, none, 0, 0, []⟩) (HPI.out.below hb3) ⟨Rd.nil _ _, by show 0 ≤ 1100; decide, by show (0 : Int) ≤ 9223372036854775807; decide, fun h => absurd h (by show ¬ (0 < 0); decide)⟩ HM.out.ok (by omega))
          have hc3 := (hb.cell (p := ⟨g, o + i, none⟩) hg).trans hc
          have hg3 : g < w3.heap.size := Nat.lt_of_lt_of_le hg hb.size
          have hc4 := ((Below.refl w3.heap.size w3).alloc (Nat.le_refl _) (.cells (List.toArray [.int .i64 q.h.kd, .int .i64 q.h.fl, .int .i64 q.h.pa, .int .i64 q.h.sr, .int .i64 q.h.ds, .int .i64 q.h.cn, .int .i64 q.h.sq, .int .i64 q.h.pu, .slice q.A q.n q.c]) 37)).cell (p := ⟨g, o + i, none⟩) hg3 |>.trans hc3
          clear hk hr hc hb hb3
          go_wp2_with (with_reducible refine at_load 37 (.tmp 12) (by rfl) ?_; refine wpList_load_pk rowP rfl (.tmp 12) rfl ⟨(ak i).h, none, 0, 0, []⟩ w3.heap.size 0 rfl (Bk.pk (q := ⟨(ak i).h, none, 0, 0, []⟩) hz) ?_)
          refine HPut.out.mono ?_
          rintro e w4 ⟨q', F4, rfl, hk4, hr4, hd4⟩
          have HD := Lib.hid hd4.pt
          clear hk4 hr4 hd4 HPut
          go_wp2
          go_roundw
          case rel => exact ⟨i + 1, lh, ll, F4, _, rfl, rfl, by go_num, by omega, by omega, HD.out, by rw [show ((i + 1 : Nat) : Int) = i + 1 by simp]; exact oi_put HM.out (x := ak i) rfl (fun h => by cases h) (fun _ => rfl)⟩
          case measure => simp [intOf]; omega
      · go_wp2
        go_ret
        exact ⟨rfl, hp.bl⟩
    · go_wp2
      go_ret
      exact ⟨rfl, hp.bl⟩
theorem lawOrderI (a b : Int) (A : Option Addr) (n c : Nat) (xs : List Int) (w : World) (ha : (Lit.int .u8 a).wf = true) (hb : (Lit.int .u8 b).wf = true) (h : Rd .u8 w A n c xs) :
    Calls Try.prog 4 #[.int .u8 a, .int .u8 b, .slice A n c] w fun e w' => e = .returned (.bool true) ∧ Below w.heap.size w w' := by
  have h1 := u8_bounds ha
  have h2 := u8_bounds hb
  obtain ⟨m, rfl⟩ := Int.eq_ofNat_of_zero_le h1.1
  obtain ⟨k, rfl⟩ := Int.eq_ofNat_of_zero_le h2.1
  exact lawOrder m k A n c xs w (by omega) (by omega) h
end Go.Proofs.Ytcmakhkbkfkhkaa
