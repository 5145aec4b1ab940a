/- All the waits. -/
import Derived.Test.YtpcjmkphdannfaaT6
import Derived.Sort.LoopGhostIn
set_option linter.unusedSimpArgs false
set_option linter.unusedVariables false
namespace Go.Proofs.Ytpcjmkphdannfaa
open Go.RowKit Go.Shelf
attribute [local go_sem] Oper.semAt_some
set_option maxRecDepth 100000 in
set_option maxHeartbeats 4000000 in
theorem waits_gives (fu : Nat) (hfu : 5 ≤ fu) (M n0 g1 : Nat) (b c : Int) (w : World) (r1 : Bk w 46 g1 [.int .i64 b, .int .i64 c]) (hn0 : n0 ≤ w.heap.size) :
    GivesE Fence.wide fu Try.prog 26 #[.pointer (some ⟨g1, 0, none⟩)] (fun x : Int => #[.int .i64 x]) (fun pre x _ => x = wt b c pre.length) (KpT n0) M (fun ys => fitT b c = false ∧ ys = []) (fun _ => fitT b c = true) w := fun l J Jx W hW hJ hJx hno hY h0 => by
  have hW0 := hW.size
  have hK0 := KpT.below (n0 := n0) (N := W.heap.size) hW
  have hb1 := hK0.bk r1 (by decide) (by decide)
  have hg1 := hb1.lt
  clear hK0 r1 hW
  have hba : Below W.heap.size W (W.alloc (.cells #[.func (.yield l) #[] #[]] 55)) := (Below.refl _ W).alloc (Nat.le_refl _) _
  have q2 : Bk (W.alloc (.cells #[.func (.yield l) #[] #[]] 55)) 55 W.heap.size [.func (.yield l) #[] #[]] := Bk.new W _ _
  have hza : (W.alloc (.cells #[.func (.yield l) #[] #[]] 55)).heap.size = W.heap.size + 1 := by simp
  have hJa : J [] (W.alloc (.cells #[.func (.yield l) #[] #[]] 55)) := hJ [] W _ none h0 (grown_of hba) (by simp)
  have hbm := hb1.below hba
  have HA := Lib.hid (And.intro hbm (And.intro q2 hJa))
  have HJ := Lib.hid hJ
  have HJx := Lib.hid hJx
  have HY := Lib.hid hY
  have HNO := Lib.hid hno
  have HZ := Lib.hid hza
  clear hba hJ hJx hY h0 q2 hJa hno hb1 hza
  refine callsIn_of_wp_marks Try.func26 rfl trivial ?_ rfl
  simp only [Try.ntmps26, List.size_toArray, List.length_cons, List.length_nil, Nat.reduceAdd, Nat.reduceSub, Array.replicate_succ, Array.replicate_zero, List.push_toArray, List.append_toArray, List.nil_append, List.cons_append]
  gi_wp2_with (with_reducible refine at_loadI 46 (.tmp 1) (by rfl) ?_
               refine wpListIn_load_bk rowM rfl (.tmp 1) rfl g1 0 rfl hbm [.int .i64 b, .int .i64 c] rfl rfl ?_)
  generalize W.alloc (.cells #[.func (.yield l) #[] #[]] 55) = Wa at *
  refine ⟨trivial, fun _ => by omega, (callsIn_wide.2 (m_hold b c Wa)).mono ?_⟩
  rintro e W1 ⟨rfl, hb1⟩
  cases hf : fitT b c with
  | false =>
    have hJ1 := HJ.out [] Wa W1 none HA.out.2.2 (grown_of hb1) (by simp)
    clear hbm hb1
    gi_wp2
    exact leaves_marks (Ds := []) rfl (M := fun X => J [] X) (B := W.heap.size) (fun _ X X' row h hw hr => HJ.out _ X X' row h hw hr) (fun v X hX => ⟨⟨v, rfl⟩, .inl ⟨[], ⟨hf, rfl⟩, hX⟩⟩) _ hJ1 (by simp) List.nodup_nil
  | true =>
    obtain ⟨h1, h2, h3⟩ := fitT_of hf
    have hbm1 := hbm.below hb1
    have HB1 := Lib.hid hb1
    have HF := Lib.hid hf
    clear hf hb1
    gi_wp2_with (with_reducible refine at_loadI 46 (.tmp 1) (by rfl) ?_
                 refine wpListIn_load_bk rowM rfl (.tmp 1) rfl g1 0 rfl hbm1 [.int .i64 b, .int .i64 c] rfl rfl ?_)
    refine ⟨trivial, fun _ => by omega, (callsIn_wide.2 (m_rising b c W1)).mono ?_⟩
    rintro e W2 ⟨rfl, hr2, hb2⟩
    have hz1 := HB1.out.size
    have hz2 := hb2.size
    have hbe : Below Wa.heap.size Wa W2 := below_on HB1.out hb2
    have HK2 : Hid (KpT n0 W.heap.size Wa W2) := Lib.hid (KpT.below hbe)
    have hJ2 : J [] W2 := HJ.out [] Wa W2 none HA.out.2.2 (grown_of hbe) (by simp)
    have hgv := rising_gives (fu - 1) (by omega) n0 W1.heap.size b c h1 h2 h3 W2 hr2
    have hza : W.heap.size + 1 ≤ Wa.heap.size := by have := HZ.out; omega
    clear hbm hbm1 hr2 hb2 hbe
    gi_wp2
    refine wpIn_givesM rfl (by omega) (gf := 28) (lb := #[.pointer (some ⟨W1.heap.size, 0, none⟩)]) rfl trivial (enters_of Try.func28 (by kernel_rfl) rfl)
      hgv (Below.refl _ _) (fun _ => rfl) KpT.trans (fun N l W o o' hl ho h0 hc => KpT.put W o o' hl ho (by omega) hc)
      (fun pre' X => J pre' X ∧ KpT n0 W.heap.size W2 X) (fun c' pre' X => c' = .ret ∧ Jx pre' X ∧ KpT n0 W.heap.size W2 X)
      (fun pre' X X' row hI hw hr => ⟨HJ.out _ X X' row hI.1 hw (fun r e => ⟨by have := (hr r e).1; omega, (hr r e).2⟩), hI.2.grown hw hr (by omega)⟩)
      (fun c' pre' X X' row hI hw hr => ⟨hI.1, HJx.out _ X X' row hI.2.1 hw (fun r e => ⟨by have := (hr r e).1; omega, (hr r e).2⟩), hI.2.2.grown hw hr (by omega)⟩)
      ⟨hJ2, KpT.refl _ _ _⟩
      (fun pre' x a' X => x = wt b c pre'.length ∧ a' = { tmps := #[.func (.yield l) #[] #[], .pointer (some ⟨g1, 0, none⟩), .pointer (some ⟨W.heap.size, 0, none⟩), .int .i64 x, .agg #[.int .i64 b, .int .i64 c], .bool true, .bool false, .agg #[.int .i64 b, .int .i64 c], .func (.func 28) #[] #[.pointer (some ⟨W1.heap.size, 0, none⟩)], .int .i64 x, undef, undef, undef, undef, undef, undef, undef, undef], defers := [] })
      ?hAx ?assign ?body ?done ?stop
    case hAx =>
      rintro pre' x a' _ X X' row h hw hr
      exact h
    case assign =>
      rintro l' pre' x X K ⟨hj, hkx⟩ hx hK
      have HI := Lib.hid (And.intro hj hkx)
      have HX := Lib.hid hx
      clear hj hkx hx
      gi_wp2
      exact hK _ _ (KeepsFrom.refl _ _) (KpT.refl _ _ _) HI.out ⟨HX.out, rfl⟩
    case body =>
      rintro l' pre' x a' X hsz ⟨hj, hkx⟩ ⟨hx, rfl⟩
      obtain ⟨fn, tmps, asg, bd, hy, hR⟩ := HY.out pre' x X hj hx
      have c2 := ((HK2.out.trans hkx).bk HA.out.2.1 (by decide) (by decide)).cell 0 rfl
      have HKX := Lib.hid hkx
      clear hkx hj hx
      gi_wp2
      refine ⟨fun _ => by omega, (roundIn_wide hR).mono ?_⟩
      clear hy hR
      rintro e X2 (⟨rfl, hj2, hk2⟩ | ⟨rfl, hj2, hk2⟩)
      · have HH := Lib.hid (And.intro hj2 hk2)
        clear hj2 hk2
        gi_wp2
        exact ⟨HH.out.2.from (by omega), HH.out.2.up (by omega), HH.out.1, HKX.out.trans HH.out.2⟩
      · have HH := Lib.hid (And.intro hj2 hk2)
        clear hj2 hk2
        gi_wp2
        exact ⟨HH.out.2.from (by omega), HH.out.2.up (by omega), rfl, HH.out.1, HKX.out.trans HH.out.2⟩
    case done =>
      rintro D ys X hD hS ⟨hj, hkx⟩ hK
      have HS := Lib.hid hS
      have HK0 := Lib.hid (HK2.out.trans hkx)
      have HJ0 := Lib.hid hj
      have HDK := Lib.hid hK
      clear hj hkx hK hS
      gi_wp2
      refine wpIn_loop_ghost (fun n a wr => ∃ (pre : List Int) (u14 u15 u16 u17 : Value), a = { tmps := #[.func (.yield l) #[] #[], .pointer (some ⟨g1, 0, none⟩), .pointer (some ⟨W.heap.size, 0, none⟩), undef, .agg #[.int .i64 b, .int .i64 c], .bool true, .bool false, .agg #[.int .i64 b, .int .i64 c], .func (.func 28) #[] #[.pointer (some ⟨W1.heap.size, 0, none⟩)], undef, undef, undef, undef, undef, u14, u15, u16, u17], defers := marks [D] } ∧
        n + pre.length = M ∧ ys.length ≤ pre.length ∧ J pre wr ∧ KpT n0 W.heap.size Wa wr ∧ wr.heap[D]? = some (.deferred (some []))) (M - ys.length) ?start ?round
      case start =>
        have hlt : ys.length < M := Nat.lt_of_not_le fun h => HNO.out ys X h HJ0.out
        exact ⟨ys, undef, undef, undef, undef, rfl, by omega, Nat.le_refl _, HJ0.out, HK0.out, HDK.out⟩
      case round =>
        rintro n a wr ⟨pre, u14, u15, u16, u17, rfl, hn, hle, hjp, hkp, hdp⟩
        have hlt : pre.length < M := Nat.lt_of_not_le fun h => HNO.out pre wr h hjp
        obtain ⟨fn, tmps, asg, bd, hy, hR⟩ := HY.out pre c wr hjp (HS.out _ hle).symm
        have c2 := (hkp.bk HA.out.2.1 (by decide) (by decide)).cell 0 rfl
        have c1 := (hkp.bk HA.out.1 (by decide) (by decide)).cell 1 rfl
        have HKP := Lib.hid hkp
        have HDP := Lib.hid hdp
        have HN := Lib.hid (And.intro hn (And.intro hle hlt))
        clear hjp hkp hdp hn hle hlt
        gi_wp2
        refine ⟨fun _ => by omega, hR.mono ?_⟩
        clear hy hR
        rintro e X2 (⟨rfl, hj2, hk2⟩ | ⟨rfl, hj2, hk2⟩)
        · have HH := Lib.hid (And.intro hj2 hk2)
          clear hj2 hk2
          gi_wp2
          obtain ⟨hn, hle, hlt⟩ := HN.out
          exact ⟨n - 1, by omega, pre ++ [c], _, _, _, _, rfl, by simp; omega, by simp; omega, HH.out.1, HKP.out.trans HH.out.2, HH.out.2.2 _ _ HDP.out (.inr (.inl ⟨by omega, rfl⟩))⟩
        · have HH := Lib.hid (And.intro hj2 hk2)
          clear hj2 hk2
          gi_wp2
          exact leaves_marks (Ds := [D]) rfl (M := fun X => Jx (pre ++ [c]) X) (B := W.heap.size) (fun _ X X' row h hw hr => HJx.out _ X X' row h hw hr) (fun v X hX => ⟨⟨v, rfl⟩, .inr ⟨_, HF.out, hX⟩⟩) _ HH.out.1 (fun D' hD' => by
            obtain rfl : D' = D := by simpa using hD'
            exact ⟨by omega, HH.out.2.2 _ _ HDP.out (.inr (.inl ⟨by omega, rfl⟩))⟩) (by simp)
    case stop =>
      rintro D c' pre' X hD _ ⟨rfl, hj, hkx⟩ hK
      gi_wp2
      exact leaves_marks (Ds := [D]) rfl (M := fun X => Jx pre' X) (B := W.heap.size) (fun _ X X' row h hw hr => HJx.out _ X X' row h hw hr) (fun v X hX => ⟨⟨v, rfl⟩, .inr ⟨_, HF.out, hX⟩⟩) _ hj (fun D' hD' => by
        obtain rfl : D' = D := by simpa using hD'
        exact ⟨by omega, hK⟩) (by simp)
end Go.Proofs.Ytpcjmkphdannfaa
