/- The law of any calls. -/
import Derived.Test.YtpcjmkphdannfaaT4
import Derived.Test.YtpcjmkphdannfaaOpenV
import Derived.Test.YtpcjmkphdannfaaTab
set_option linter.unusedSimpArgs false
set_option linter.unusedVariables false
namespace Go.Proofs.Ytpcjmkphdannfaa
open Go.RowKit Go.Shelf
abbrev OpT : Ty := .one (.int .u8) (.one .bool (.one (.int .u8) .unit))
/-- The k-th call, as it lies in memory. -/
theorem op_at {w : World} {s : Sl OpT.den} (h : (Ty.sl OpT).reads w s) (k : Nat) (hk : k < s.n) : ∃ (g o : Nat) (d x : Int) (on : Bool), s.A = some ⟨g, o, none⟩ ∧ g < w.heap.size ∧
    w.rangeAt g (o + k * 3) [.int .u8 d, .bool on, .int .u8 x] ∧ (0 ≤ d ∧ d < 256) ∧ (0 ≤ x ∧ x < 256) := by
  obtain ⟨h1, h2, h3, h4, h5, h6⟩ := h
  have h1' : s.l.length = s.n := h1
  have hkl : k < s.l.length := by omega
  obtain ⟨g, o, hA, hg, hx⟩ := h5 (by omega) (show 0 < 3 from by omega)
  have hr : OpT.reads w s.l[k] := h6 _ (List.getElem_mem _)
  have hx' := hx k hkl
  obtain ⟨x, hxe⟩ : ∃ x, x = s.l[k] := ⟨_, rfl⟩
  rw [← hxe] at hr hx'
  clear hxe hx
  obtain ⟨d, on, y, u⟩ := x
  obtain ⟨r1, r2, r3, _⟩ := hr
  exact ⟨g, o, d, y, on, hA, hg, fun j v hv => hx' j v hv, u8_bounds r1, u8_bounds r3⟩
/-- A timer (mq), and the document's (mr), which lies in box b, side by side. -/
structure JQ (w : World) (b g : Nat) (mq mr : Tm) (W : World) : Prop where
  q : TmC W g mq
  bx : Bk W 28 b [.int .i64 mr.b, .int .i64 mr.c, .int .i64 mr.w, .int .i64 mr.l]
  ne : ¬ b = g
  ge : w.heap.size ≤ g
  bge : w.heap.size ≤ b
  bel : Below w.heap.size w W
section
variable {w W W1 W2 W3 : World} {b g g' : Nat} {m mq mr mr' mq' : Tm}
theorem JQ.next (h : JQ w b g mq mr W) (hb : Below W.heap.size W W1) : JQ w b g mq mr W1 := ⟨h.q.below hb, h.bx.below hb, h.ne, h.ge, h.bge, below_on h.bel hb⟩
theorem JQ.gne (h : JQ w b g mq mr W) : ¬ g = b := fun e => h.ne e.symm
theorem JQ.cell (h : JQ w b g mq mr W) {p : Addr} {v : Value} (hp : p.block < w.heap.size) (hv : w.cell? p = some v) : W.cell? p = some v := (h.bel.cell hp).trans hv
/-- The document's answer goes into the box. -/
theorem JQ.ref (h : JQ w b g mq mr W) (hk : Bk W1 28 b [.int .i64 mr'.b, .int .i64 mr'.c, .int .i64 mr'.w, .int .i64 mr'.l]) (hw : Wr b W W1) : JQ w b g mq mr' W1 := by
  have hst := st_wr hw
  exact ⟨h.q.st hst h.gne, hk, h.ne, h.ge, h.bge, h.bel.trans (hst.below h.bel.size fun j hj => hj ▸ h.bge)⟩
/-- The timer is turned. -/
theorem JQ.did (h : JQ w b g mq mr W) (hd : Did W g mq' W1) : JQ w b g mq' mr W1 :=
  ⟨hd.1, h.bx.st hd.2 h.ne, h.ne, h.ge, h.bge, h.bel.trans (hd.2.below h.bel.size fun j hj => hj ▸ h.ge)⟩
/-- The copy goes on. -/
theorem JQ.fork (h : JQ w b g mq mr W) (hj : TmC W1 g' mq) (hg : W.heap.size ≤ g') (hb : Below W.heap.size W W1) : JQ w b g' mq mr W1 := by
  have hbl := h.bx.lt
  have hs := h.bel.size
  exact ⟨hj, h.bx.below hb, by omega, by omega, h.bge, below_on h.bel hb⟩
end
/-- Between two calls. -/
def JI (w : World) (b : Nat) (P : Option Addr) (W : World) : Prop := ∃ (g : Nat) (m : Tm), P = some ⟨g, 0, none⟩ ∧ JQ w b g m m W
theorem JI.next {w W W' : World} {b : Nat} {P : Option Addr} (h : JI w b P W) (hb : Below W.heap.size W W') : JI w b P W' := by
  obtain ⟨g, m, h1, h2⟩ := h
  exact ⟨g, m, h1, h2.next hb⟩
set_option maxRecDepth 100000 in
set_option maxHeartbeats 16000000 in
theorem lawRuns (b0 c0 : Int) (ops : Sl OpT.den) (w : World) (h : (Ty.sl OpT).reads w ops) :
    Calls Try.prog 3 #[.int .i64 b0, .int .i64 c0, .slice ops.A ops.n ops.c] w fun en w' => en = .returned (.bool true) ∧ Below w.heap.size w w' := by
  have HOp := Lib.hid (op_at h)
  obtain ⟨A0, n0, cap0, l0⟩ := ops
  dsimp only at *
  clear h
  cases hok : fitT b0 c0 with
  | false =>
    go_enter Try.func3, Try.ntmps3
    go_wp2_with fail
    refine (t_new_no hok w).mono ?_
    rintro en w1 ⟨rfl, hb1⟩
    go_wp2_with fail
    refine (r_new_no hok _).mono ?_
    rintro en w2 ⟨rfl, hb2⟩
    have hba : Below w2.heap.size w2 (w2.alloc (.cells #[.int .i64 0, .int .i64 0, .int .i64 0, .int .i64 0] 28)) := (Below.refl _ _).alloc (Nat.le_refl _) _
    have HB2 := Lib.hid (below_on (below_on hb1 hb2) hba)
    clear hb1 hb2 hba hok
    go_wp2_with fail
    refine (awake_any _).mono ?_
    rintro en w3 ⟨rfl, hb3⟩
    have HB3 := Lib.hid (below_on HB2.out hb3)
    clear hb3 HB2
    go_wp2
    go_loopw [7, 11] (fun q i W => q = .pointer none ∧ i = .int .i64 0 ∧ W = w3) (fun q i _ => 0)
    case atStart => exact ⟨rfl, rfl, rfl⟩
    case round =>
      obtain ⟨rfl, rfl, rfl⟩ := hrel
      by_cases hn0 : (0 : Int) < n0
      · go_wp2
        go_ret
        exact ⟨rfl, HB3.out⟩
      · go_wp2
        go_ret
        exact ⟨rfl, HB3.out⟩
  | true =>
    go_enter Try.func3, Try.ntmps3
    go_wp2_with fail
    refine (t_new hok w).mono ?_
    rintro en w1 ⟨gq, rfl, hj1, hg1, hb1⟩
    have HJ1 := Lib.hid (And.intro hj1 (And.intro hg1 hb1))
    clear hj1 hb1 hg1
    go_wp2_with fail
    refine (r_new hok w1).mono ?_
    rintro en w2 ⟨rfl, hb2⟩
    have hba : Below w2.heap.size w2 (w2.alloc (.cells #[.int .i64 (Tm.new b0 c0).b, .int .i64 (Tm.new b0 c0).c, .int .i64 (Tm.new b0 c0).w, .int .i64 (Tm.new b0 c0).l] 28)) := (Below.refl _ _).alloc (Nat.le_refl _) _
    have hJ0 : JI w w2.heap.size (some ⟨gq, 0, none⟩) (w2.alloc (.cells #[.int .i64 (Tm.new b0 c0).b, .int .i64 (Tm.new b0 c0).c, .int .i64 (Tm.new b0 c0).w, .int .i64 (Tm.new b0 c0).l] 28)) := by
      have hl := HJ1.out.1.1.lt
      have hs1 := HJ1.out.2.2.size
      have hs2 := hb2.size
      exact ⟨gq, .new b0 c0, rfl, ⟨(HJ1.out.1.below hb2).below hba, Bk.new w2 28 [.int .i64 (Tm.new b0 c0).b, .int .i64 (Tm.new b0 c0).c, .int .i64 (Tm.new b0 c0).w, .int .i64 (Tm.new b0 c0).l], by omega, HJ1.out.2.1, by omega, below_on (below_on HJ1.out.2.2 hb2) hba⟩⟩
    have HJ0 := Lib.hid hJ0
    have HA := Lib.hid (awake_any (w2.alloc (.cells #[.int .i64 (Tm.new b0 c0).b, .int .i64 (Tm.new b0 c0).c, .int .i64 (Tm.new b0 c0).w, .int .i64 (Tm.new b0 c0).l] 28)))
    clear hb2 hba hJ0 HJ1 hok
    go_wp2_with fail
    refine HA.out.mono ?_
    rintro en w3 ⟨rfl, hb3⟩
    have HJ := Lib.hid (HJ0.out.next hb3)
    clear hb3 HA HJ0
    generalize w2.heap.size = b at *
    go_wp2
    go_loopw [7, 11] (fun q i wr => ∃ (k : Nat) (P : Option Addr), i = .int .i64 k ∧ k ≤ 60 ∧ q = .pointer P ∧ JI w b P wr) (fun q i _ => 60 - (intOf i).toNat)
    case atStart => exact ⟨0, _, rfl, Nat.zero_le _, rfl, HJ.out⟩
    case round =>
      obtain ⟨k, P, rfl, hk, rfl, hJk⟩ := hrel
      obtain ⟨g, m, rfl, hJR⟩ := hJk
      clear HJ
      by_cases hlt : k < n0 ∧ k < 60
      · obtain ⟨go_, oo, d, x, on, rfl, hgo, hra, hd, hx⟩ := HOp.out k hlt.1
        have HC0 := Lib.hid (hra 0 _ rfl)
        have HC1 := Lib.hid (hra 1 _ rfl)
        have HC2 := Lib.hid (hra 2 _ rfl)
        have c0' := hJR.cell (p := ⟨go_, oo + k * 3, none⟩) hgo HC0.out
        have hk1 : (k : Int) < n0 := by omega
        have hk2 : (k : Int) < 60 := by omega
        have HJR := Lib.hid hJR
        obtain ⟨hd1, hd2⟩ := hd
        have HLT := Lib.hid hlt
        have hzb := HJR.out.bx
        clear hra hJR hlt
        rcases (by omega : d % 6 = 0 ∨ d % 6 = 1 ∨ d % 6 = 2 ∨ d % 6 = 3 ∨ d % 6 = 4 ∨ (d % 6 ≠ 0 ∧ d % 6 ≠ 1 ∧ d % 6 ≠ 2 ∧ d % 6 ≠ 3 ∧ d % 6 ≠ 4)) with hd8 | hd8 | hd8 | hd8 | hd8 | hd8
        · as_aux_lemma =>
            have e0 : (d % 6 == 0) = true := by simpa using hd8
            clear hd8
            have c1' := HJR.out.cell (p := ⟨go_, oo + k * 3 + 1, none⟩) hgo HC1.out
            go_wp2_with (go_at_call 9; refine (t_run HJR.out.q on).mono ?_; rintro en W2 ⟨⟨v, rfl⟩, hd2⟩
                         have HJ2 := Lib.hid (HJR.out.did hd2)
                         clear hd2 hzb c0' c1')
            refine wp_region_L Ext [7] (by kernel_rfl) (fun wd hbd hsz => ?_)
            have HJd := Lib.hid (HJ2.out.next hbd)
            have q1 : ∀ W, Ext wd W → W.cell? ⟨go_, oo + k * 3 + 1, none⟩ = some (.bool on) := fun W hW => (HJd.out.next hW).cell (p := ⟨go_, oo + k * 3 + 1, none⟩) hgo HC1.out
            clear hsz
            (refine takeL Ext.tr 0 (by simp only [List.getElem?_toArray, List.getElem?_cons_succ, List.getElem?_cons_zero]; rfl) (by kernel_rfl) (by kernel_rfl) (by kernel_rfl) (by kernel_rfl) (by exact fun _ _ _ h => h) (by first | (refine Or.inl ⟨by rfl, ?_⟩; intro W hW; exact exec_load_bk rowR (.tmp 9) rfl b 0 rfl (HJd.out.bx.below hW) [.int .i64 m.b, .int .i64 m.c, .int .i64 m.w, .int .i64 m.l] rfl rfl) | exact Or.inr ⟨by rfl, rfl⟩) ?_; try simp only [Act.put, List.setIfInBounds_toArray, List.set_cons_zero, List.set_cons_succ])
            (refine takeL Ext.tr 1 (by simp only [List.getElem?_toArray, List.getElem?_cons_succ, List.getElem?_cons_zero]; rfl) (by kernel_rfl) (by kernel_rfl) (by kernel_rfl) (by kernel_rfl) (by exact fun _ _ _ h => h) (by first | (refine Or.inl ⟨by rfl, ?_⟩; intro W hW; go_simp; try with_reducible rfl) | exact Or.inr ⟨by rfl, rfl⟩) ?_; try simp only [Act.put, List.setIfInBounds_toArray, List.set_cons_zero, List.set_cons_succ])
            (refine takeL Ext.tr 2 (by simp only [List.getElem?_toArray, List.getElem?_cons_succ, List.getElem?_cons_zero]; rfl) (by kernel_rfl) (by kernel_rfl) (by kernel_rfl) (by kernel_rfl) (by exact fun _ _ _ h => h) (by first | (refine Or.inl ⟨by rfl, ?_⟩; intro W hW; go_simp; try with_reducible rfl) | exact Or.inr ⟨by rfl, rfl⟩) ?_; try simp only [Act.put, List.setIfInBounds_toArray, List.set_cons_zero, List.set_cons_succ])
            (refine takeL Ext.tr 3 (by simp only [List.getElem?_toArray, List.getElem?_cons_succ, List.getElem?_cons_zero]; rfl) (by kernel_rfl) (by kernel_rfl) (by kernel_rfl) (by kernel_rfl) (by exact fun _ _ _ h => h) (by first | (refine Or.inl ⟨by rfl, ?_⟩; intro W hW; go_simp; try with_reducible rfl) | exact Or.inr ⟨by rfl, rfl⟩) ?_; try simp only [Act.put, List.setIfInBounds_toArray, List.set_cons_zero, List.set_cons_succ])
            (refine takeL Ext.tr 4 (by simp only [List.getElem?_toArray, List.getElem?_cons_succ, List.getElem?_cons_zero]; rfl) (by kernel_rfl) (by kernel_rfl) (by kernel_rfl) (by kernel_rfl) (by exact fun _ _ _ h => h) (by first | (refine Or.inl ⟨by rfl, ?_⟩; intro W hW; go_simp; try with_reducible rfl) | exact Or.inr ⟨by rfl, rfl⟩) ?_; try simp only [Act.put, List.setIfInBounds_toArray, List.set_cons_zero, List.set_cons_succ])
            (refine takeL Ext.tr 5 (by simp only [List.getElem?_toArray, List.getElem?_cons_succ, List.getElem?_cons_zero]; rfl) (by kernel_rfl) (by kernel_rfl) (by kernel_rfl) (by kernel_rfl) (by exact fun _ _ _ h => h) (by first | (refine Or.inl ⟨by rfl, ?_⟩; intro W hW; go_simp; try with_reducible rfl) | exact Or.inr ⟨by rfl, rfl⟩) ?_; try simp only [Act.put, List.setIfInBounds_toArray, List.set_cons_zero, List.set_cons_succ])
            refine wpAnyL_one (i := 6) (by kernel_rfl) (by simp only [List.getElem?_toArray, List.getElem?_cons_succ, List.getElem?_cons_zero]; rfl) (fun K hK => ?_)
            go_simp
            refine (r_run HJR.out.q.2 on _).mono ?_
            rintro en W3 ⟨rfl, hb3⟩
            have HJ3 := Lib.hid (HJd.out.next hb3)
            have hbx3 := HJ3.out.bx
            refine hK.out _ _ (.inr hb3) ?_
            clear hK K
            try simp only [Act.put, List.setIfInBounds_toArray, List.set_cons_zero, List.set_cons_succ]
            refine wpAnyL_one (i := 7) (by kernel_rfl) (by simp only [List.getElem?_toArray, List.getElem?_cons_succ, List.getElem?_cons_zero]; rfl) (fun K hK => ?_)
            refine opwp_store_bk rowR rfl (.tmp 9) (.tmp 81) rfl b 0 rfl hbx3 [.int .i64 (m.run on).b, .int .i64 (m.run on).c, .int .i64 (m.run on).w, .int .i64 (m.run on).l] rfl rfl (by show 0 + 4 ≤ 4; omega) (by simp [Value.oneCell']) ?_
            intro W6 hz6 hw6
            rw [lay_all _ _ (by rfl)] at hz6
            have HJ6 := Lib.hid (JQ.ref HJ3.out hz6 hw6)
            refine hK.out _ _ (.inl (by decide)) ?_
            clear hK K
            try simp only [Act.put, List.setIfInBounds_toArray, List.set_cons_zero, List.set_cons_succ]
            refine wpAnyL_done (by kernel_rfl) ?_ _
            clear q1 hbx3 hz6 hw6 hb3
            go_wp2
            go_loopw [13] (fun i wr => ∃ (j : Nat) (mj : Tm), i = .int .i64 j ∧ (j : Int) ≤ 0 ∧ JQ w b g mj mj wr) (fun i _ => 0 - (intOf i).toNat)
            case atStart => exact ⟨0, m.run on, rfl, by omega, HJ6.out⟩
            case round =>
              obtain ⟨j, mj, rfl, hj, hJ⟩ := hrel
              clear HJ6
              have HJ := Lib.hid hJ
              have hzj := hJ.bx
              clear hJ
              by_cases hjn : (j : Int) < 0
              · exfalso; omega
              · have HJ9 := Lib.hid HJ.out
                clear hzj HJ
                go_wp2
                refine wp_region_E Ext (by kernel_rfl) (fun wd hbd hsz => ?_)
                have HJd := Lib.hid (HJ9.out.next hbd)
                have q2 : ∀ W, Ext wd W → W.cell? ⟨b, 2, none⟩ = some (.int .i64 mj.w) := fun W hW => (HJd.out.bx.below hW).cell 2 rfl
                have q3 : ∀ W, Ext wd W → W.cell? ⟨b, 3, none⟩ = some (.int .i64 mj.l) := fun W hW => (HJd.out.bx.below hW).cell 3 rfl
                clear hsz
                (refine takeE Ext.tr 0 (by simp only [List.getElem?_toArray, List.getElem?_cons_succ, List.getElem?_cons_zero]; rfl) (by kernel_rfl) (by kernel_rfl) (by kernel_rfl) (by exact fun _ _ _ h => h) (by first | (refine Or.inl ⟨by rfl, ?_⟩; intro W hW; go_simp; try with_reducible rfl) | exact Or.inr ⟨by rfl, rfl⟩) ?_; try simp only [Act.put, List.setIfInBounds_toArray, List.set_cons_zero, List.set_cons_succ])
                (refine takeE Ext.tr 2 (by simp only [List.getElem?_toArray, List.getElem?_cons_succ, List.getElem?_cons_zero]; rfl) (by kernel_rfl) (by kernel_rfl) (by kernel_rfl) (by exact fun _ _ _ h => h) (by first | (refine Or.inl ⟨by rfl, ?_⟩; intro W hW; go_simp; try with_reducible rfl) | exact Or.inr ⟨by rfl, rfl⟩) ?_; try simp only [Act.put, List.setIfInBounds_toArray, List.set_cons_zero, List.set_cons_succ])
                (refine takeE Ext.tr 3 (by simp only [List.getElem?_toArray, List.getElem?_cons_succ, List.getElem?_cons_zero]; rfl) (by kernel_rfl) (by kernel_rfl) (by kernel_rfl) (by exact fun _ _ _ h => h) (by first | (refine Or.inl ⟨by rfl, ?_⟩; intro W hW; go_simp; try with_reducible rfl) | exact Or.inr ⟨by rfl, rfl⟩) ?_; try simp only [Act.put, List.setIfInBounds_toArray, List.set_cons_zero, List.set_cons_succ])
                refine wpAnyE_one (i := 1) (by kernel_rfl) (by simp only [List.getElem?_toArray, List.getElem?_cons_succ, List.getElem?_cons_zero]; rfl) (fun K hK => ?_)
                go_simp
                refine (t_wait HJd.out.q).mono ?_
                rintro en v1 ⟨rfl, rfl⟩
                refine hK.out _ _ (Ext.refl _) ?_
                clear hK K
                try simp only [Act.put, List.setIfInBounds_toArray, List.set_cons_zero, List.set_cons_succ]
                (refine takeE Ext.tr 4 (by simp only [List.getElem?_toArray, List.getElem?_cons_succ, List.getElem?_cons_zero]; rfl) (by kernel_rfl) (by kernel_rfl) (by kernel_rfl) (by exact fun _ _ _ h => h) (by first | (refine Or.inl ⟨by rfl, ?_⟩; intro W hW; go_simp; try with_reducible rfl) | exact Or.inr ⟨by rfl, rfl⟩) ?_; try simp only [Act.put, List.setIfInBounds_toArray, List.set_cons_zero, List.set_cons_succ])
                (refine takeE Ext.tr 5 (by simp only [List.getElem?_toArray, List.getElem?_cons_succ, List.getElem?_cons_zero]; rfl) (by kernel_rfl) (by kernel_rfl) (by kernel_rfl) (by exact fun _ _ _ h => h) (by first | (refine Or.inl ⟨by rfl, ?_⟩; intro W hW; go_simp; try with_reducible rfl) | exact Or.inr ⟨by rfl, rfl⟩) ?_; try simp only [Act.put, List.setIfInBounds_toArray, List.set_cons_zero, List.set_cons_succ])
                (refine takeE Ext.tr 6 (by simp only [List.getElem?_toArray, List.getElem?_cons_succ, List.getElem?_cons_zero]; rfl) (by kernel_rfl) (by kernel_rfl) (by kernel_rfl) (by exact fun _ _ _ h => h) (by first | (refine Or.inl ⟨by rfl, ?_⟩; intro W hW; go_simp; try with_reducible rfl) | exact Or.inr ⟨by rfl, rfl⟩) ?_; try simp only [Act.put, List.setIfInBounds_toArray, List.set_cons_zero, List.set_cons_succ])
                (refine takeE Ext.tr 8 (by simp only [List.getElem?_toArray, List.getElem?_cons_succ, List.getElem?_cons_zero]; rfl) (by kernel_rfl) (by kernel_rfl) (by kernel_rfl) (by exact fun _ _ _ h => h) (by first | (refine Or.inl ⟨by rfl, ?_⟩; intro W hW; go_simp; try with_reducible rfl) | exact Or.inr ⟨by rfl, rfl⟩) ?_; try simp only [Act.put, List.setIfInBounds_toArray, List.set_cons_zero, List.set_cons_succ])
                (refine takeE Ext.tr 9 (by simp only [List.getElem?_toArray, List.getElem?_cons_succ, List.getElem?_cons_zero]; rfl) (by kernel_rfl) (by kernel_rfl) (by kernel_rfl) (by exact fun _ _ _ h => h) (by first | (refine Or.inl ⟨by rfl, ?_⟩; intro W hW; go_simp; try with_reducible rfl) | exact Or.inr ⟨by rfl, rfl⟩) ?_; try simp only [Act.put, List.setIfInBounds_toArray, List.set_cons_zero, List.set_cons_succ])
                refine wpAnyE_one (i := 7) (by kernel_rfl) (by simp only [List.getElem?_toArray, List.getElem?_cons_succ, List.getElem?_cons_zero]; rfl) (fun K hK => ?_)
                go_simp
                refine (t_left HJd.out.q).mono ?_
                rintro en v1 ⟨rfl, rfl⟩
                refine hK.out _ _ (Ext.refl _) ?_
                clear hK K
                try simp only [Act.put, List.setIfInBounds_toArray, List.set_cons_zero, List.set_cons_succ]
                (refine takeE Ext.tr 10 (by simp only [List.getElem?_toArray, List.getElem?_cons_succ, List.getElem?_cons_zero]; rfl) (by kernel_rfl) (by kernel_rfl) (by kernel_rfl) (by exact fun _ _ _ h => h) (by first | (refine Or.inl ⟨by rfl, ?_⟩; intro W hW; go_simp; try with_reducible rfl) | exact Or.inr ⟨by rfl, rfl⟩) ?_; try simp only [Act.put, List.setIfInBounds_toArray, List.set_cons_zero, List.set_cons_succ])
                (refine takeE Ext.tr 11 (by simp only [List.getElem?_toArray, List.getElem?_cons_succ, List.getElem?_cons_zero]; rfl) (by kernel_rfl) (by kernel_rfl) (by kernel_rfl) (by exact fun _ _ _ h => h) (by first | (refine Or.inl ⟨by rfl, ?_⟩; intro W hW; go_simp; try with_reducible rfl) | exact Or.inr ⟨by rfl, rfl⟩) ?_; try simp only [Act.put, List.setIfInBounds_toArray, List.set_cons_zero, List.set_cons_succ])
                (refine takeE Ext.tr 12 (by simp only [List.getElem?_toArray, List.getElem?_cons_succ, List.getElem?_cons_zero]; rfl) (by kernel_rfl) (by kernel_rfl) (by kernel_rfl) (by exact fun _ _ _ h => h) (by first | (refine Or.inl ⟨by rfl, ?_⟩; intro W hW; go_simp; try with_reducible rfl) | exact Or.inr ⟨by rfl, rfl⟩) ?_; try simp only [Act.put, List.setIfInBounds_toArray, List.set_cons_zero, List.set_cons_succ])
                (refine takeE Ext.tr 13 (by simp only [List.getElem?_toArray, List.getElem?_cons_succ, List.getElem?_cons_zero]; rfl) (by kernel_rfl) (by kernel_rfl) (by kernel_rfl) (by exact fun _ _ _ h => h) (by first | (refine Or.inl ⟨by rfl, ?_⟩; intro W hW; go_simp; try with_reducible rfl) | exact Or.inr ⟨by rfl, rfl⟩) ?_; try simp only [Act.put, List.setIfInBounds_toArray, List.set_cons_zero, List.set_cons_succ])
                (refine takeE Ext.tr 15 (by simp only [List.getElem?_toArray, List.getElem?_cons_succ, List.getElem?_cons_zero]; rfl) (by kernel_rfl) (by kernel_rfl) (by kernel_rfl) (by exact fun _ _ _ h => h) (by first | (refine Or.inl ⟨by rfl, ?_⟩; intro W hW; go_simp; try with_reducible rfl) | exact Or.inr ⟨by rfl, rfl⟩) ?_; try simp only [Act.put, List.setIfInBounds_toArray, List.set_cons_zero, List.set_cons_succ])
                (refine takeE Ext.tr 16 (by simp only [List.getElem?_toArray, List.getElem?_cons_succ, List.getElem?_cons_zero]; rfl) (by kernel_rfl) (by kernel_rfl) (by kernel_rfl) (by exact fun _ _ _ h => h) (by first | (refine Or.inl ⟨by rfl, ?_⟩; intro W hW; go_simp; try with_reducible rfl) | exact Or.inr ⟨by rfl, rfl⟩) ?_; try simp only [Act.put, List.setIfInBounds_toArray, List.set_cons_zero, List.set_cons_succ])
                (refine takeE Ext.tr 17 (by simp only [List.getElem?_toArray, List.getElem?_cons_succ, List.getElem?_cons_zero]; rfl) (by kernel_rfl) (by kernel_rfl) (by kernel_rfl) (by exact fun _ _ _ h => h) (by first | (refine Or.inl ⟨by rfl, ?_⟩; intro W hW; go_simp; try with_reducible rfl) | exact Or.inr ⟨by rfl, rfl⟩) ?_; try simp only [Act.put, List.setIfInBounds_toArray, List.set_cons_zero, List.set_cons_succ])
                refine wpAnyE_one (i := 14) (by kernel_rfl) (by simp only [List.getElem?_toArray, List.getElem?_cons_succ, List.getElem?_cons_zero]; rfl) (fun K hK => ?_)
                go_simp
                refine (t_running HJd.out.q).mono ?_
                rintro en v1 ⟨rfl, rfl⟩
                refine hK.out _ _ (Ext.refl _) ?_
                clear hK K
                try simp only [Act.put, List.setIfInBounds_toArray, List.set_cons_zero, List.set_cons_succ]
                (refine takeE Ext.tr 18 (by simp only [List.getElem?_toArray, List.getElem?_cons_succ, List.getElem?_cons_zero]; rfl) (by kernel_rfl) (by kernel_rfl) (by kernel_rfl) (by exact fun _ _ _ h => h) (by first | (refine Or.inl ⟨by rfl, ?_⟩; intro W hW; go_simp; try with_reducible rfl) | exact Or.inr ⟨by rfl, rfl⟩) ?_; try simp only [Act.put, List.setIfInBounds_toArray, List.set_cons_zero, List.set_cons_succ])
                (refine takeE Ext.tr 19 (by simp only [List.getElem?_toArray, List.getElem?_cons_succ, List.getElem?_cons_zero]; rfl) (by kernel_rfl) (by kernel_rfl) (by kernel_rfl) (by exact fun _ _ _ h => h) (by first | (refine Or.inl ⟨by rfl, ?_⟩; intro W hW; go_simp; try with_reducible rfl) | exact Or.inr ⟨by rfl, rfl⟩) ?_; try simp only [Act.put, List.setIfInBounds_toArray, List.set_cons_zero, List.set_cons_succ])
                refine wpAnyE_done (by kernel_rfl) ?_ _
                clear q2 q3
                go_wp2
                go_roundw
                case rel => exact ⟨k + 1, _, by go_num, by have := HLT.out; omega, rfl, g, mj, rfl, HJd.out⟩
                case measure => have := HLT.out; simp [intOf]; omega
        · as_aux_lemma =>
            have e0 : (d % 6 == 0) = false := by simp; omega
            have e1 : (d % 6 == 1) = true := by simpa using hd8
            clear hd8
            go_wp2
            go_loopw [13] (fun i wr => ∃ (j : Nat) (mj : Tm), i = .int .i64 j ∧ (j : Int) ≤ 1 ∧ JQ w b g mj mj wr) (fun i _ => 1 - (intOf i).toNat)
            case atStart => exact ⟨0, m, rfl, by omega, HJR.out⟩
            case round =>
              obtain ⟨j, mj, rfl, hj, hJ⟩ := hrel
              clear HJR
              have HJ := Lib.hid hJ
              have hzj := hJ.bx
              clear hJ
              by_cases hjn : (j : Int) < 1
              · go_wp2_with (first
                  | (with_reducible refine at_load 28 (.tmp 9) (by rfl) ?_
                     refine wpList_load_bk rowR rfl (.tmp 9) rfl b 0 rfl hzj [.int .i64 mj.b, .int .i64 mj.c, .int .i64 mj.w, .int .i64 mj.l] rfl rfl ?_)
                  | (go_at_call 16; refine (r_tick HJ.out.q.2 _).mono ?_; rintro en W3 ⟨rfl, hb3⟩
                     have hzn := Bk.new W3 28 [.int .i64 mj.tick.b, .int .i64 mj.tick.c, .int .i64 mj.tick.w, .int .i64 mj.tick.l]
                     have hb4 : Below W3.heap.size W3 (W3.alloc (.cells #[.int .i64 mj.tick.b, .int .i64 mj.tick.c, .int .i64 mj.tick.w, .int .i64 mj.tick.l] 28)) := (Below.refl _ _).alloc (Nat.le_refl _) _
                     have HJ4 := Lib.hid ((HJ.out.next hb3).next hb4)
                     have hbx5 := HJ4.out.bx
                     clear hb3 hb4 hzj)
                  | (with_reducible refine at_load 28 (.tmp 14) (by rfl) ?_
                     refine wpList_load_bk rowR rfl (.tmp 14) rfl W3.heap.size 0 rfl hzn [.int .i64 mj.tick.b, .int .i64 mj.tick.c, .int .i64 mj.tick.w, .int .i64 mj.tick.l] rfl rfl ?_)
                  | (with_reducible refine at_store 28 (.tmp 9) (.tmp 115) (by rfl) ?_
                     refine wpList_store_bk rowR rfl (.tmp 9) (.tmp 115) rfl b 0 rfl hbx5 [.int .i64 mj.tick.b, .int .i64 mj.tick.c, .int .i64 mj.tick.w, .int .i64 mj.tick.l] rfl rfl (by show 0 + 4 ≤ 4; omega) (by simp [Value.oneCell']) ?_
                     intro W6 hz6 hw6
                     rw [lay_all _ _ (by rfl)] at hz6
                     have HJ6 := Lib.hid (JQ.ref HJ4.out hz6 hw6)
                     clear hzn hbx5 hz6 hw6)
                  | (go_at_call 17; refine (t_tick HJ6.out.q).mono ?_; rintro en W7 ⟨rfl, hd7⟩
                     have HJ7 := Lib.hid (HJ6.out.did hd7)
                     clear hd7))
                go_roundw
                case rel => exact ⟨j + 1, mj.tick, by go_num, by omega, HJ7.out⟩
                case measure => simp [intOf]; omega
              · have HJ9 := Lib.hid HJ.out
                clear hzj HJ
                go_wp2
                refine wp_region_E Ext (by kernel_rfl) (fun wd hbd hsz => ?_)
                have HJd := Lib.hid (HJ9.out.next hbd)
                have q2 : ∀ W, Ext wd W → W.cell? ⟨b, 2, none⟩ = some (.int .i64 mj.w) := fun W hW => (HJd.out.bx.below hW).cell 2 rfl
                have q3 : ∀ W, Ext wd W → W.cell? ⟨b, 3, none⟩ = some (.int .i64 mj.l) := fun W hW => (HJd.out.bx.below hW).cell 3 rfl
                clear hsz
                (refine takeE Ext.tr 0 (by simp only [List.getElem?_toArray, List.getElem?_cons_succ, List.getElem?_cons_zero]; rfl) (by kernel_rfl) (by kernel_rfl) (by kernel_rfl) (by exact fun _ _ _ h => h) (by first | (refine Or.inl ⟨by rfl, ?_⟩; intro W hW; go_simp; try with_reducible rfl) | exact Or.inr ⟨by rfl, rfl⟩) ?_; try simp only [Act.put, List.setIfInBounds_toArray, List.set_cons_zero, List.set_cons_succ])
                (refine takeE Ext.tr 2 (by simp only [List.getElem?_toArray, List.getElem?_cons_succ, List.getElem?_cons_zero]; rfl) (by kernel_rfl) (by kernel_rfl) (by kernel_rfl) (by exact fun _ _ _ h => h) (by first | (refine Or.inl ⟨by rfl, ?_⟩; intro W hW; go_simp; try with_reducible rfl) | exact Or.inr ⟨by rfl, rfl⟩) ?_; try simp only [Act.put, List.setIfInBounds_toArray, List.set_cons_zero, List.set_cons_succ])
                (refine takeE Ext.tr 3 (by simp only [List.getElem?_toArray, List.getElem?_cons_succ, List.getElem?_cons_zero]; rfl) (by kernel_rfl) (by kernel_rfl) (by kernel_rfl) (by exact fun _ _ _ h => h) (by first | (refine Or.inl ⟨by rfl, ?_⟩; intro W hW; go_simp; try with_reducible rfl) | exact Or.inr ⟨by rfl, rfl⟩) ?_; try simp only [Act.put, List.setIfInBounds_toArray, List.set_cons_zero, List.set_cons_succ])
                refine wpAnyE_one (i := 1) (by kernel_rfl) (by simp only [List.getElem?_toArray, List.getElem?_cons_succ, List.getElem?_cons_zero]; rfl) (fun K hK => ?_)
                go_simp
                refine (t_wait HJd.out.q).mono ?_
                rintro en v1 ⟨rfl, rfl⟩
                refine hK.out _ _ (Ext.refl _) ?_
                clear hK K
                try simp only [Act.put, List.setIfInBounds_toArray, List.set_cons_zero, List.set_cons_succ]
                (refine takeE Ext.tr 4 (by simp only [List.getElem?_toArray, List.getElem?_cons_succ, List.getElem?_cons_zero]; rfl) (by kernel_rfl) (by kernel_rfl) (by kernel_rfl) (by exact fun _ _ _ h => h) (by first | (refine Or.inl ⟨by rfl, ?_⟩; intro W hW; go_simp; try with_reducible rfl) | exact Or.inr ⟨by rfl, rfl⟩) ?_; try simp only [Act.put, List.setIfInBounds_toArray, List.set_cons_zero, List.set_cons_succ])
                (refine takeE Ext.tr 5 (by simp only [List.getElem?_toArray, List.getElem?_cons_succ, List.getElem?_cons_zero]; rfl) (by kernel_rfl) (by kernel_rfl) (by kernel_rfl) (by exact fun _ _ _ h => h) (by first | (refine Or.inl ⟨by rfl, ?_⟩; intro W hW; go_simp; try with_reducible rfl) | exact Or.inr ⟨by rfl, rfl⟩) ?_; try simp only [Act.put, List.setIfInBounds_toArray, List.set_cons_zero, List.set_cons_succ])
                (refine takeE Ext.tr 6 (by simp only [List.getElem?_toArray, List.getElem?_cons_succ, List.getElem?_cons_zero]; rfl) (by kernel_rfl) (by kernel_rfl) (by kernel_rfl) (by exact fun _ _ _ h => h) (by first | (refine Or.inl ⟨by rfl, ?_⟩; intro W hW; go_simp; try with_reducible rfl) | exact Or.inr ⟨by rfl, rfl⟩) ?_; try simp only [Act.put, List.setIfInBounds_toArray, List.set_cons_zero, List.set_cons_succ])
                (refine takeE Ext.tr 8 (by simp only [List.getElem?_toArray, List.getElem?_cons_succ, List.getElem?_cons_zero]; rfl) (by kernel_rfl) (by kernel_rfl) (by kernel_rfl) (by exact fun _ _ _ h => h) (by first | (refine Or.inl ⟨by rfl, ?_⟩; intro W hW; go_simp; try with_reducible rfl) | exact Or.inr ⟨by rfl, rfl⟩) ?_; try simp only [Act.put, List.setIfInBounds_toArray, List.set_cons_zero, List.set_cons_succ])
                (refine takeE Ext.tr 9 (by simp only [List.getElem?_toArray, List.getElem?_cons_succ, List.getElem?_cons_zero]; rfl) (by kernel_rfl) (by kernel_rfl) (by kernel_rfl) (by exact fun _ _ _ h => h) (by first | (refine Or.inl ⟨by rfl, ?_⟩; intro W hW; go_simp; try with_reducible rfl) | exact Or.inr ⟨by rfl, rfl⟩) ?_; try simp only [Act.put, List.setIfInBounds_toArray, List.set_cons_zero, List.set_cons_succ])
                refine wpAnyE_one (i := 7) (by kernel_rfl) (by simp only [List.getElem?_toArray, List.getElem?_cons_succ, List.getElem?_cons_zero]; rfl) (fun K hK => ?_)
                go_simp
                refine (t_left HJd.out.q).mono ?_
                rintro en v1 ⟨rfl, rfl⟩
                refine hK.out _ _ (Ext.refl _) ?_
                clear hK K
                try simp only [Act.put, List.setIfInBounds_toArray, List.set_cons_zero, List.set_cons_succ]
                (refine takeE Ext.tr 10 (by simp only [List.getElem?_toArray, List.getElem?_cons_succ, List.getElem?_cons_zero]; rfl) (by kernel_rfl) (by kernel_rfl) (by kernel_rfl) (by exact fun _ _ _ h => h) (by first | (refine Or.inl ⟨by rfl, ?_⟩; intro W hW; go_simp; try with_reducible rfl) | exact Or.inr ⟨by rfl, rfl⟩) ?_; try simp only [Act.put, List.setIfInBounds_toArray, List.set_cons_zero, List.set_cons_succ])
                (refine takeE Ext.tr 11 (by simp only [List.getElem?_toArray, List.getElem?_cons_succ, List.getElem?_cons_zero]; rfl) (by kernel_rfl) (by kernel_rfl) (by kernel_rfl) (by exact fun _ _ _ h => h) (by first | (refine Or.inl ⟨by rfl, ?_⟩; intro W hW; go_simp; try with_reducible rfl) | exact Or.inr ⟨by rfl, rfl⟩) ?_; try simp only [Act.put, List.setIfInBounds_toArray, List.set_cons_zero, List.set_cons_succ])
                (refine takeE Ext.tr 12 (by simp only [List.getElem?_toArray, List.getElem?_cons_succ, List.getElem?_cons_zero]; rfl) (by kernel_rfl) (by kernel_rfl) (by kernel_rfl) (by exact fun _ _ _ h => h) (by first | (refine Or.inl ⟨by rfl, ?_⟩; intro W hW; go_simp; try with_reducible rfl) | exact Or.inr ⟨by rfl, rfl⟩) ?_; try simp only [Act.put, List.setIfInBounds_toArray, List.set_cons_zero, List.set_cons_succ])
                (refine takeE Ext.tr 13 (by simp only [List.getElem?_toArray, List.getElem?_cons_succ, List.getElem?_cons_zero]; rfl) (by kernel_rfl) (by kernel_rfl) (by kernel_rfl) (by exact fun _ _ _ h => h) (by first | (refine Or.inl ⟨by rfl, ?_⟩; intro W hW; go_simp; try with_reducible rfl) | exact Or.inr ⟨by rfl, rfl⟩) ?_; try simp only [Act.put, List.setIfInBounds_toArray, List.set_cons_zero, List.set_cons_succ])
                (refine takeE Ext.tr 15 (by simp only [List.getElem?_toArray, List.getElem?_cons_succ, List.getElem?_cons_zero]; rfl) (by kernel_rfl) (by kernel_rfl) (by kernel_rfl) (by exact fun _ _ _ h => h) (by first | (refine Or.inl ⟨by rfl, ?_⟩; intro W hW; go_simp; try with_reducible rfl) | exact Or.inr ⟨by rfl, rfl⟩) ?_; try simp only [Act.put, List.setIfInBounds_toArray, List.set_cons_zero, List.set_cons_succ])
                (refine takeE Ext.tr 16 (by simp only [List.getElem?_toArray, List.getElem?_cons_succ, List.getElem?_cons_zero]; rfl) (by kernel_rfl) (by kernel_rfl) (by kernel_rfl) (by exact fun _ _ _ h => h) (by first | (refine Or.inl ⟨by rfl, ?_⟩; intro W hW; go_simp; try with_reducible rfl) | exact Or.inr ⟨by rfl, rfl⟩) ?_; try simp only [Act.put, List.setIfInBounds_toArray, List.set_cons_zero, List.set_cons_succ])
                (refine takeE Ext.tr 17 (by simp only [List.getElem?_toArray, List.getElem?_cons_succ, List.getElem?_cons_zero]; rfl) (by kernel_rfl) (by kernel_rfl) (by kernel_rfl) (by exact fun _ _ _ h => h) (by first | (refine Or.inl ⟨by rfl, ?_⟩; intro W hW; go_simp; try with_reducible rfl) | exact Or.inr ⟨by rfl, rfl⟩) ?_; try simp only [Act.put, List.setIfInBounds_toArray, List.set_cons_zero, List.set_cons_succ])
                refine wpAnyE_one (i := 14) (by kernel_rfl) (by simp only [List.getElem?_toArray, List.getElem?_cons_succ, List.getElem?_cons_zero]; rfl) (fun K hK => ?_)
                go_simp
                refine (t_running HJd.out.q).mono ?_
                rintro en v1 ⟨rfl, rfl⟩
                refine hK.out _ _ (Ext.refl _) ?_
                clear hK K
                try simp only [Act.put, List.setIfInBounds_toArray, List.set_cons_zero, List.set_cons_succ]
                (refine takeE Ext.tr 18 (by simp only [List.getElem?_toArray, List.getElem?_cons_succ, List.getElem?_cons_zero]; rfl) (by kernel_rfl) (by kernel_rfl) (by kernel_rfl) (by exact fun _ _ _ h => h) (by first | (refine Or.inl ⟨by rfl, ?_⟩; intro W hW; go_simp; try with_reducible rfl) | exact Or.inr ⟨by rfl, rfl⟩) ?_; try simp only [Act.put, List.setIfInBounds_toArray, List.set_cons_zero, List.set_cons_succ])
                (refine takeE Ext.tr 19 (by simp only [List.getElem?_toArray, List.getElem?_cons_succ, List.getElem?_cons_zero]; rfl) (by kernel_rfl) (by kernel_rfl) (by kernel_rfl) (by exact fun _ _ _ h => h) (by first | (refine Or.inl ⟨by rfl, ?_⟩; intro W hW; go_simp; try with_reducible rfl) | exact Or.inr ⟨by rfl, rfl⟩) ?_; try simp only [Act.put, List.setIfInBounds_toArray, List.set_cons_zero, List.set_cons_succ])
                refine wpAnyE_done (by kernel_rfl) ?_ _
                clear q2 q3
                go_wp2
                go_roundw
                case rel => exact ⟨k + 1, _, by go_num, by have := HLT.out; omega, rfl, g, mj, rfl, HJd.out⟩
                case measure => have := HLT.out; simp [intOf]; omega
        · as_aux_lemma =>
            have e0 : (d % 6 == 0) = false := by simp; omega
            have e1 : (d % 6 == 1) = false := by simp; omega
            have e2 : (d % 6 == 2) = true := by simpa using hd8
            clear hd8
            go_wp2_with (first
              | (go_at_call 11; refine (t_again HJR.out.q).mono ?_; rintro en W2 ⟨⟨v, rfl⟩, hd2⟩
                 have HJ2 := Lib.hid (HJR.out.did hd2)
                 have hzb2 := HJ2.out.bx
                 clear hd2 hzb c0')
              | (with_reducible refine at_load 28 (.tmp 9) (by rfl) ?_
                 refine wpList_load_bk rowR rfl (.tmp 9) rfl b 0 rfl hzb2 [.int .i64 m.b, .int .i64 m.c, .int .i64 m.w, .int .i64 m.l] rfl rfl ?_)
              | (go_at_call 12; refine (r_again HJR.out.q.2 _).mono ?_; rintro en W3 ⟨rfl, hb3⟩
                 have HJ3 := Lib.hid (HJ2.out.next hb3)
                 have hbx3 := HJ3.out.bx
                 clear hb3 hzb2)
              | (with_reducible refine at_store 28 (.tmp 9) (.tmp 89) (by rfl) ?_
                 refine wpList_store_bk rowR rfl (.tmp 9) (.tmp 89) rfl b 0 rfl hbx3 [.int .i64 m.again.b, .int .i64 m.again.c, .int .i64 m.again.w, .int .i64 m.again.l] rfl rfl (by show 0 + 4 ≤ 4; omega) (by simp [Value.oneCell']) ?_
                 intro W6 hz6 hw6
                 rw [lay_all _ _ (by rfl)] at hz6
                 have HJ6 := Lib.hid (JQ.ref HJ3.out hz6 hw6)
                 clear hbx3 hz6 hw6))
            go_wp2
            go_loopw [13] (fun i wr => ∃ (j : Nat) (mj : Tm), i = .int .i64 j ∧ (j : Int) ≤ 0 ∧ JQ w b g mj mj wr) (fun i _ => 0 - (intOf i).toNat)
            case atStart => exact ⟨0, m.again, rfl, by omega, HJ6.out⟩
            case round =>
              obtain ⟨j, mj, rfl, hj, hJ⟩ := hrel
              clear HJ6
              have HJ := Lib.hid hJ
              have hzj := hJ.bx
              clear hJ
              by_cases hjn : (j : Int) < 0
              · exfalso; omega
              · have HJ9 := Lib.hid HJ.out
                clear hzj HJ
                go_wp2
                refine wp_region_E Ext (by kernel_rfl) (fun wd hbd hsz => ?_)
                have HJd := Lib.hid (HJ9.out.next hbd)
                have q2 : ∀ W, Ext wd W → W.cell? ⟨b, 2, none⟩ = some (.int .i64 mj.w) := fun W hW => (HJd.out.bx.below hW).cell 2 rfl
                have q3 : ∀ W, Ext wd W → W.cell? ⟨b, 3, none⟩ = some (.int .i64 mj.l) := fun W hW => (HJd.out.bx.below hW).cell 3 rfl
                clear hsz
                (refine takeE Ext.tr 0 (by simp only [List.getElem?_toArray, List.getElem?_cons_succ, List.getElem?_cons_zero]; rfl) (by kernel_rfl) (by kernel_rfl) (by kernel_rfl) (by exact fun _ _ _ h => h) (by first | (refine Or.inl ⟨by rfl, ?_⟩; intro W hW; go_simp; try with_reducible rfl) | exact Or.inr ⟨by rfl, rfl⟩) ?_; try simp only [Act.put, List.setIfInBounds_toArray, List.set_cons_zero, List.set_cons_succ])
                (refine takeE Ext.tr 2 (by simp only [List.getElem?_toArray, List.getElem?_cons_succ, List.getElem?_cons_zero]; rfl) (by kernel_rfl) (by kernel_rfl) (by kernel_rfl) (by exact fun _ _ _ h => h) (by first | (refine Or.inl ⟨by rfl, ?_⟩; intro W hW; go_simp; try with_reducible rfl) | exact Or.inr ⟨by rfl, rfl⟩) ?_; try simp only [Act.put, List.setIfInBounds_toArray, List.set_cons_zero, List.set_cons_succ])
                (refine takeE Ext.tr 3 (by simp only [List.getElem?_toArray, List.getElem?_cons_succ, List.getElem?_cons_zero]; rfl) (by kernel_rfl) (by kernel_rfl) (by kernel_rfl) (by exact fun _ _ _ h => h) (by first | (refine Or.inl ⟨by rfl, ?_⟩; intro W hW; go_simp; try with_reducible rfl) | exact Or.inr ⟨by rfl, rfl⟩) ?_; try simp only [Act.put, List.setIfInBounds_toArray, List.set_cons_zero, List.set_cons_succ])
                refine wpAnyE_one (i := 1) (by kernel_rfl) (by simp only [List.getElem?_toArray, List.getElem?_cons_succ, List.getElem?_cons_zero]; rfl) (fun K hK => ?_)
                go_simp
                refine (t_wait HJd.out.q).mono ?_
                rintro en v1 ⟨rfl, rfl⟩
                refine hK.out _ _ (Ext.refl _) ?_
                clear hK K
                try simp only [Act.put, List.setIfInBounds_toArray, List.set_cons_zero, List.set_cons_succ]
                (refine takeE Ext.tr 4 (by simp only [List.getElem?_toArray, List.getElem?_cons_succ, List.getElem?_cons_zero]; rfl) (by kernel_rfl) (by kernel_rfl) (by kernel_rfl) (by exact fun _ _ _ h => h) (by first | (refine Or.inl ⟨by rfl, ?_⟩; intro W hW; go_simp; try with_reducible rfl) | exact Or.inr ⟨by rfl, rfl⟩) ?_; try simp only [Act.put, List.setIfInBounds_toArray, List.set_cons_zero, List.set_cons_succ])
                (refine takeE Ext.tr 5 (by simp only [List.getElem?_toArray, List.getElem?_cons_succ, List.getElem?_cons_zero]; rfl) (by kernel_rfl) (by kernel_rfl) (by kernel_rfl) (by exact fun _ _ _ h => h) (by first | (refine Or.inl ⟨by rfl, ?_⟩; intro W hW; go_simp; try with_reducible rfl) | exact Or.inr ⟨by rfl, rfl⟩) ?_; try simp only [Act.put, List.setIfInBounds_toArray, List.set_cons_zero, List.set_cons_succ])
                (refine takeE Ext.tr 6 (by simp only [List.getElem?_toArray, List.getElem?_cons_succ, List.getElem?_cons_zero]; rfl) (by kernel_rfl) (by kernel_rfl) (by kernel_rfl) (by exact fun _ _ _ h => h) (by first | (refine Or.inl ⟨by rfl, ?_⟩; intro W hW; go_simp; try with_reducible rfl) | exact Or.inr ⟨by rfl, rfl⟩) ?_; try simp only [Act.put, List.setIfInBounds_toArray, List.set_cons_zero, List.set_cons_succ])
                (refine takeE Ext.tr 8 (by simp only [List.getElem?_toArray, List.getElem?_cons_succ, List.getElem?_cons_zero]; rfl) (by kernel_rfl) (by kernel_rfl) (by kernel_rfl) (by exact fun _ _ _ h => h) (by first | (refine Or.inl ⟨by rfl, ?_⟩; intro W hW; go_simp; try with_reducible rfl) | exact Or.inr ⟨by rfl, rfl⟩) ?_; try simp only [Act.put, List.setIfInBounds_toArray, List.set_cons_zero, List.set_cons_succ])
                (refine takeE Ext.tr 9 (by simp only [List.getElem?_toArray, List.getElem?_cons_succ, List.getElem?_cons_zero]; rfl) (by kernel_rfl) (by kernel_rfl) (by kernel_rfl) (by exact fun _ _ _ h => h) (by first | (refine Or.inl ⟨by rfl, ?_⟩; intro W hW; go_simp; try with_reducible rfl) | exact Or.inr ⟨by rfl, rfl⟩) ?_; try simp only [Act.put, List.setIfInBounds_toArray, List.set_cons_zero, List.set_cons_succ])
                refine wpAnyE_one (i := 7) (by kernel_rfl) (by simp only [List.getElem?_toArray, List.getElem?_cons_succ, List.getElem?_cons_zero]; rfl) (fun K hK => ?_)
                go_simp
                refine (t_left HJd.out.q).mono ?_
                rintro en v1 ⟨rfl, rfl⟩
                refine hK.out _ _ (Ext.refl _) ?_
                clear hK K
                try simp only [Act.put, List.setIfInBounds_toArray, List.set_cons_zero, List.set_cons_succ]
                (refine takeE Ext.tr 10 (by simp only [List.getElem?_toArray, List.getElem?_cons_succ, List.getElem?_cons_zero]; rfl) (by kernel_rfl) (by kernel_rfl) (by kernel_rfl) (by exact fun _ _ _ h => h) (by first | (refine Or.inl ⟨by rfl, ?_⟩; intro W hW; go_simp; try with_reducible rfl) | exact Or.inr ⟨by rfl, rfl⟩) ?_; try simp only [Act.put, List.setIfInBounds_toArray, List.set_cons_zero, List.set_cons_succ])
                (refine takeE Ext.tr 11 (by simp only [List.getElem?_toArray, List.getElem?_cons_succ, List.getElem?_cons_zero]; rfl) (by kernel_rfl) (by kernel_rfl) (by kernel_rfl) (by exact fun _ _ _ h => h) (by first | (refine Or.inl ⟨by rfl, ?_⟩; intro W hW; go_simp; try with_reducible rfl) | exact Or.inr ⟨by rfl, rfl⟩) ?_; try simp only [Act.put, List.setIfInBounds_toArray, List.set_cons_zero, List.set_cons_succ])
                (refine takeE Ext.tr 12 (by simp only [List.getElem?_toArray, List.getElem?_cons_succ, List.getElem?_cons_zero]; rfl) (by kernel_rfl) (by kernel_rfl) (by kernel_rfl) (by exact fun _ _ _ h => h) (by first | (refine Or.inl ⟨by rfl, ?_⟩; intro W hW; go_simp; try with_reducible rfl) | exact Or.inr ⟨by rfl, rfl⟩) ?_; try simp only [Act.put, List.setIfInBounds_toArray, List.set_cons_zero, List.set_cons_succ])
                (refine takeE Ext.tr 13 (by simp only [List.getElem?_toArray, List.getElem?_cons_succ, List.getElem?_cons_zero]; rfl) (by kernel_rfl) (by kernel_rfl) (by kernel_rfl) (by exact fun _ _ _ h => h) (by first | (refine Or.inl ⟨by rfl, ?_⟩; intro W hW; go_simp; try with_reducible rfl) | exact Or.inr ⟨by rfl, rfl⟩) ?_; try simp only [Act.put, List.setIfInBounds_toArray, List.set_cons_zero, List.set_cons_succ])
                (refine takeE Ext.tr 15 (by simp only [List.getElem?_toArray, List.getElem?_cons_succ, List.getElem?_cons_zero]; rfl) (by kernel_rfl) (by kernel_rfl) (by kernel_rfl) (by exact fun _ _ _ h => h) (by first | (refine Or.inl ⟨by rfl, ?_⟩; intro W hW; go_simp; try with_reducible rfl) | exact Or.inr ⟨by rfl, rfl⟩) ?_; try simp only [Act.put, List.setIfInBounds_toArray, List.set_cons_zero, List.set_cons_succ])
                (refine takeE Ext.tr 16 (by simp only [List.getElem?_toArray, List.getElem?_cons_succ, List.getElem?_cons_zero]; rfl) (by kernel_rfl) (by kernel_rfl) (by kernel_rfl) (by exact fun _ _ _ h => h) (by first | (refine Or.inl ⟨by rfl, ?_⟩; intro W hW; go_simp; try with_reducible rfl) | exact Or.inr ⟨by rfl, rfl⟩) ?_; try simp only [Act.put, List.setIfInBounds_toArray, List.set_cons_zero, List.set_cons_succ])
                (refine takeE Ext.tr 17 (by simp only [List.getElem?_toArray, List.getElem?_cons_succ, List.getElem?_cons_zero]; rfl) (by kernel_rfl) (by kernel_rfl) (by kernel_rfl) (by exact fun _ _ _ h => h) (by first | (refine Or.inl ⟨by rfl, ?_⟩; intro W hW; go_simp; try with_reducible rfl) | exact Or.inr ⟨by rfl, rfl⟩) ?_; try simp only [Act.put, List.setIfInBounds_toArray, List.set_cons_zero, List.set_cons_succ])
                refine wpAnyE_one (i := 14) (by kernel_rfl) (by simp only [List.getElem?_toArray, List.getElem?_cons_succ, List.getElem?_cons_zero]; rfl) (fun K hK => ?_)
                go_simp
                refine (t_running HJd.out.q).mono ?_
                rintro en v1 ⟨rfl, rfl⟩
                refine hK.out _ _ (Ext.refl _) ?_
                clear hK K
                try simp only [Act.put, List.setIfInBounds_toArray, List.set_cons_zero, List.set_cons_succ]
                (refine takeE Ext.tr 18 (by simp only [List.getElem?_toArray, List.getElem?_cons_succ, List.getElem?_cons_zero]; rfl) (by kernel_rfl) (by kernel_rfl) (by kernel_rfl) (by exact fun _ _ _ h => h) (by first | (refine Or.inl ⟨by rfl, ?_⟩; intro W hW; go_simp; try with_reducible rfl) | exact Or.inr ⟨by rfl, rfl⟩) ?_; try simp only [Act.put, List.setIfInBounds_toArray, List.set_cons_zero, List.set_cons_succ])
                (refine takeE Ext.tr 19 (by simp only [List.getElem?_toArray, List.getElem?_cons_succ, List.getElem?_cons_zero]; rfl) (by kernel_rfl) (by kernel_rfl) (by kernel_rfl) (by exact fun _ _ _ h => h) (by first | (refine Or.inl ⟨by rfl, ?_⟩; intro W hW; go_simp; try with_reducible rfl) | exact Or.inr ⟨by rfl, rfl⟩) ?_; try simp only [Act.put, List.setIfInBounds_toArray, List.set_cons_zero, List.set_cons_succ])
                refine wpAnyE_done (by kernel_rfl) ?_ _
                clear q2 q3
                go_wp2
                go_roundw
                case rel => exact ⟨k + 1, _, by go_num, by have := HLT.out; omega, rfl, g, mj, rfl, HJd.out⟩
                case measure => have := HLT.out; simp [intOf]; omega
        · as_aux_lemma =>
            have e0 : (d % 6 == 0) = false := by simp; omega
            have e1 : (d % 6 == 1) = false := by simp; omega
            have e2 : (d % 6 == 2) = false := by simp; omega
            have e3 : (d % 6 == 3) = true := by simpa using hd8
            clear hd8
            go_wp2_with (first
              | (go_at_call 13; refine (t_reset HJR.out.q).mono ?_; rintro en W2 ⟨⟨v, rfl⟩, hd2⟩
                 have HJ2 := Lib.hid (HJR.out.did hd2)
                 have hzb2 := HJ2.out.bx
                 clear hd2 hzb c0')
              | (with_reducible refine at_load 28 (.tmp 9) (by rfl) ?_
                 refine wpList_load_bk rowR rfl (.tmp 9) rfl b 0 rfl hzb2 [.int .i64 m.b, .int .i64 m.c, .int .i64 m.w, .int .i64 m.l] rfl rfl ?_)
              | (go_at_call 14; refine (r_reset HJR.out.q.2 _).mono ?_; rintro en W3 ⟨rfl, hb3⟩
                 have HJ3 := Lib.hid (HJ2.out.next hb3)
                 have hbx3 := HJ3.out.bx
                 clear hb3 hzb2)
              | (with_reducible refine at_store 28 (.tmp 9) (.tmp 95) (by rfl) ?_
                 refine wpList_store_bk rowR rfl (.tmp 9) (.tmp 95) rfl b 0 rfl hbx3 [.int .i64 m.reset.b, .int .i64 m.reset.c, .int .i64 m.reset.w, .int .i64 m.reset.l] rfl rfl (by show 0 + 4 ≤ 4; omega) (by simp [Value.oneCell']) ?_
                 intro W6 hz6 hw6
                 rw [lay_all _ _ (by rfl)] at hz6
                 have HJ6 := Lib.hid (JQ.ref HJ3.out hz6 hw6)
                 clear hbx3 hz6 hw6))
            go_wp2
            go_loopw [13] (fun i wr => ∃ (j : Nat) (mj : Tm), i = .int .i64 j ∧ (j : Int) ≤ 0 ∧ JQ w b g mj mj wr) (fun i _ => 0 - (intOf i).toNat)
            case atStart => exact ⟨0, m.reset, rfl, by omega, HJ6.out⟩
            case round =>
              obtain ⟨j, mj, rfl, hj, hJ⟩ := hrel
              clear HJ6
              have HJ := Lib.hid hJ
              have hzj := hJ.bx
              clear hJ
              by_cases hjn : (j : Int) < 0
              · exfalso; omega
              · have HJ9 := Lib.hid HJ.out
                clear hzj HJ
                go_wp2
                refine wp_region_E Ext (by kernel_rfl) (fun wd hbd hsz => ?_)
                have HJd := Lib.hid (HJ9.out.next hbd)
                have q2 : ∀ W, Ext wd W → W.cell? ⟨b, 2, none⟩ = some (.int .i64 mj.w) := fun W hW => (HJd.out.bx.below hW).cell 2 rfl
                have q3 : ∀ W, Ext wd W → W.cell? ⟨b, 3, none⟩ = some (.int .i64 mj.l) := fun W hW => (HJd.out.bx.below hW).cell 3 rfl
                clear hsz
                (refine takeE Ext.tr 0 (by simp only [List.getElem?_toArray, List.getElem?_cons_succ, List.getElem?_cons_zero]; rfl) (by kernel_rfl) (by kernel_rfl) (by kernel_rfl) (by exact fun _ _ _ h => h) (by first | (refine Or.inl ⟨by rfl, ?_⟩; intro W hW; go_simp; try with_reducible rfl) | exact Or.inr ⟨by rfl, rfl⟩) ?_; try simp only [Act.put, List.setIfInBounds_toArray, List.set_cons_zero, List.set_cons_succ])
                (refine takeE Ext.tr 2 (by simp only [List.getElem?_toArray, List.getElem?_cons_succ, List.getElem?_cons_zero]; rfl) (by kernel_rfl) (by kernel_rfl) (by kernel_rfl) (by exact fun _ _ _ h => h) (by first | (refine Or.inl ⟨by rfl, ?_⟩; intro W hW; go_simp; try with_reducible rfl) | exact Or.inr ⟨by rfl, rfl⟩) ?_; try simp only [Act.put, List.setIfInBounds_toArray, List.set_cons_zero, List.set_cons_succ])
                (refine takeE Ext.tr 3 (by simp only [List.getElem?_toArray, List.getElem?_cons_succ, List.getElem?_cons_zero]; rfl) (by kernel_rfl) (by kernel_rfl) (by kernel_rfl) (by exact fun _ _ _ h => h) (by first | (refine Or.inl ⟨by rfl, ?_⟩; intro W hW; go_simp; try with_reducible rfl) | exact Or.inr ⟨by rfl, rfl⟩) ?_; try simp only [Act.put, List.setIfInBounds_toArray, List.set_cons_zero, List.set_cons_succ])
                refine wpAnyE_one (i := 1) (by kernel_rfl) (by simp only [List.getElem?_toArray, List.getElem?_cons_succ, List.getElem?_cons_zero]; rfl) (fun K hK => ?_)
                go_simp
                refine (t_wait HJd.out.q).mono ?_
                rintro en v1 ⟨rfl, rfl⟩
                refine hK.out _ _ (Ext.refl _) ?_
                clear hK K
                try simp only [Act.put, List.setIfInBounds_toArray, List.set_cons_zero, List.set_cons_succ]
                (refine takeE Ext.tr 4 (by simp only [List.getElem?_toArray, List.getElem?_cons_succ, List.getElem?_cons_zero]; rfl) (by kernel_rfl) (by kernel_rfl) (by kernel_rfl) (by exact fun _ _ _ h => h) (by first | (refine Or.inl ⟨by rfl, ?_⟩; intro W hW; go_simp; try with_reducible rfl) | exact Or.inr ⟨by rfl, rfl⟩) ?_; try simp only [Act.put, List.setIfInBounds_toArray, List.set_cons_zero, List.set_cons_succ])
                (refine takeE Ext.tr 5 (by simp only [List.getElem?_toArray, List.getElem?_cons_succ, List.getElem?_cons_zero]; rfl) (by kernel_rfl) (by kernel_rfl) (by kernel_rfl) (by exact fun _ _ _ h => h) (by first | (refine Or.inl ⟨by rfl, ?_⟩; intro W hW; go_simp; try with_reducible rfl) | exact Or.inr ⟨by rfl, rfl⟩) ?_; try simp only [Act.put, List.setIfInBounds_toArray, List.set_cons_zero, List.set_cons_succ])
                (refine takeE Ext.tr 6 (by simp only [List.getElem?_toArray, List.getElem?_cons_succ, List.getElem?_cons_zero]; rfl) (by kernel_rfl) (by kernel_rfl) (by kernel_rfl) (by exact fun _ _ _ h => h) (by first | (refine Or.inl ⟨by rfl, ?_⟩; intro W hW; go_simp; try with_reducible rfl) | exact Or.inr ⟨by rfl, rfl⟩) ?_; try simp only [Act.put, List.setIfInBounds_toArray, List.set_cons_zero, List.set_cons_succ])
                (refine takeE Ext.tr 8 (by simp only [List.getElem?_toArray, List.getElem?_cons_succ, List.getElem?_cons_zero]; rfl) (by kernel_rfl) (by kernel_rfl) (by kernel_rfl) (by exact fun _ _ _ h => h) (by first | (refine Or.inl ⟨by rfl, ?_⟩; intro W hW; go_simp; try with_reducible rfl) | exact Or.inr ⟨by rfl, rfl⟩) ?_; try simp only [Act.put, List.setIfInBounds_toArray, List.set_cons_zero, List.set_cons_succ])
                (refine takeE Ext.tr 9 (by simp only [List.getElem?_toArray, List.getElem?_cons_succ, List.getElem?_cons_zero]; rfl) (by kernel_rfl) (by kernel_rfl) (by kernel_rfl) (by exact fun _ _ _ h => h) (by first | (refine Or.inl ⟨by rfl, ?_⟩; intro W hW; go_simp; try with_reducible rfl) | exact Or.inr ⟨by rfl, rfl⟩) ?_; try simp only [Act.put, List.setIfInBounds_toArray, List.set_cons_zero, List.set_cons_succ])
                refine wpAnyE_one (i := 7) (by kernel_rfl) (by simp only [List.getElem?_toArray, List.getElem?_cons_succ, List.getElem?_cons_zero]; rfl) (fun K hK => ?_)
                go_simp
                refine (t_left HJd.out.q).mono ?_
                rintro en v1 ⟨rfl, rfl⟩
                refine hK.out _ _ (Ext.refl _) ?_
                clear hK K
                try simp only [Act.put, List.setIfInBounds_toArray, List.set_cons_zero, List.set_cons_succ]
                (refine takeE Ext.tr 10 (by simp only [List.getElem?_toArray, List.getElem?_cons_succ, List.getElem?_cons_zero]; rfl) (by kernel_rfl) (by kernel_rfl) (by kernel_rfl) (by exact fun _ _ _ h => h) (by first | (refine Or.inl ⟨by rfl, ?_⟩; intro W hW; go_simp; try with_reducible rfl) | exact Or.inr ⟨by rfl, rfl⟩) ?_; try simp only [Act.put, List.setIfInBounds_toArray, List.set_cons_zero, List.set_cons_succ])
                (refine takeE Ext.tr 11 (by simp only [List.getElem?_toArray, List.getElem?_cons_succ, List.getElem?_cons_zero]; rfl) (by kernel_rfl) (by kernel_rfl) (by kernel_rfl) (by exact fun _ _ _ h => h) (by first | (refine Or.inl ⟨by rfl, ?_⟩; intro W hW; go_simp; try with_reducible rfl) | exact Or.inr ⟨by rfl, rfl⟩) ?_; try simp only [Act.put, List.setIfInBounds_toArray, List.set_cons_zero, List.set_cons_succ])
                (refine takeE Ext.tr 12 (by simp only [List.getElem?_toArray, List.getElem?_cons_succ, List.getElem?_cons_zero]; rfl) (by kernel_rfl) (by kernel_rfl) (by kernel_rfl) (by exact fun _ _ _ h => h) (by first | (refine Or.inl ⟨by rfl, ?_⟩; intro W hW; go_simp; try with_reducible rfl) | exact Or.inr ⟨by rfl, rfl⟩) ?_; try simp only [Act.put, List.setIfInBounds_toArray, List.set_cons_zero, List.set_cons_succ])
                (refine takeE Ext.tr 13 (by simp only [List.getElem?_toArray, List.getElem?_cons_succ, List.getElem?_cons_zero]; rfl) (by kernel_rfl) (by kernel_rfl) (by kernel_rfl) (by exact fun _ _ _ h => h) (by first | (refine Or.inl ⟨by rfl, ?_⟩; intro W hW; go_simp; try with_reducible rfl) | exact Or.inr ⟨by rfl, rfl⟩) ?_; try simp only [Act.put, List.setIfInBounds_toArray, List.set_cons_zero, List.set_cons_succ])
                (refine takeE Ext.tr 15 (by simp only [List.getElem?_toArray, List.getElem?_cons_succ, List.getElem?_cons_zero]; rfl) (by kernel_rfl) (by kernel_rfl) (by kernel_rfl) (by exact fun _ _ _ h => h) (by first | (refine Or.inl ⟨by rfl, ?_⟩; intro W hW; go_simp; try with_reducible rfl) | exact Or.inr ⟨by rfl, rfl⟩) ?_; try simp only [Act.put, List.setIfInBounds_toArray, List.set_cons_zero, List.set_cons_succ])
                (refine takeE Ext.tr 16 (by simp only [List.getElem?_toArray, List.getElem?_cons_succ, List.getElem?_cons_zero]; rfl) (by kernel_rfl) (by kernel_rfl) (by kernel_rfl) (by exact fun _ _ _ h => h) (by first | (refine Or.inl ⟨by rfl, ?_⟩; intro W hW; go_simp; try with_reducible rfl) | exact Or.inr ⟨by rfl, rfl⟩) ?_; try simp only [Act.put, List.setIfInBounds_toArray, List.set_cons_zero, List.set_cons_succ])
                (refine takeE Ext.tr 17 (by simp only [List.getElem?_toArray, List.getElem?_cons_succ, List.getElem?_cons_zero]; rfl) (by kernel_rfl) (by kernel_rfl) (by kernel_rfl) (by exact fun _ _ _ h => h) (by first | (refine Or.inl ⟨by rfl, ?_⟩; intro W hW; go_simp; try with_reducible rfl) | exact Or.inr ⟨by rfl, rfl⟩) ?_; try simp only [Act.put, List.setIfInBounds_toArray, List.set_cons_zero, List.set_cons_succ])
                refine wpAnyE_one (i := 14) (by kernel_rfl) (by simp only [List.getElem?_toArray, List.getElem?_cons_succ, List.getElem?_cons_zero]; rfl) (fun K hK => ?_)
                go_simp
                refine (t_running HJd.out.q).mono ?_
                rintro en v1 ⟨rfl, rfl⟩
                refine hK.out _ _ (Ext.refl _) ?_
                clear hK K
                try simp only [Act.put, List.setIfInBounds_toArray, List.set_cons_zero, List.set_cons_succ]
                (refine takeE Ext.tr 18 (by simp only [List.getElem?_toArray, List.getElem?_cons_succ, List.getElem?_cons_zero]; rfl) (by kernel_rfl) (by kernel_rfl) (by kernel_rfl) (by exact fun _ _ _ h => h) (by first | (refine Or.inl ⟨by rfl, ?_⟩; intro W hW; go_simp; try with_reducible rfl) | exact Or.inr ⟨by rfl, rfl⟩) ?_; try simp only [Act.put, List.setIfInBounds_toArray, List.set_cons_zero, List.set_cons_succ])
                (refine takeE Ext.tr 19 (by simp only [List.getElem?_toArray, List.getElem?_cons_succ, List.getElem?_cons_zero]; rfl) (by kernel_rfl) (by kernel_rfl) (by kernel_rfl) (by exact fun _ _ _ h => h) (by first | (refine Or.inl ⟨by rfl, ?_⟩; intro W hW; go_simp; try with_reducible rfl) | exact Or.inr ⟨by rfl, rfl⟩) ?_; try simp only [Act.put, List.setIfInBounds_toArray, List.set_cons_zero, List.set_cons_succ])
                refine wpAnyE_done (by kernel_rfl) ?_ _
                clear q2 q3
                go_wp2
                go_roundw
                case rel => exact ⟨k + 1, _, by go_num, by have := HLT.out; omega, rfl, g, mj, rfl, HJd.out⟩
                case measure => have := HLT.out; simp [intOf]; omega
        · as_aux_lemma =>
            have e0 : (d % 6 == 0) = false := by simp; omega
            have e1 : (d % 6 == 1) = false := by simp; omega
            have e2 : (d % 6 == 2) = false := by simp; omega
            have e3 : (d % 6 == 3) = false := by simp; omega
            have e4 : (d % 6 == 4) = true := by simpa using hd8
            clear hd8
            have c2' := HJR.out.cell (p := ⟨go_, oo + k * 3 + 2, none⟩) hgo HC2.out
            obtain ⟨hx1, hx2⟩ := hx
            go_wp2
            go_loopw [13] (fun i wr => ∃ (j : Nat) (mj : Tm), i = .int .i64 j ∧ (j : Int) ≤ x % 50 ∧ JQ w b g mj mj wr) (fun i _ => (x % 50).toNat - (intOf i).toNat)
            case atStart => exact ⟨0, m, rfl, by omega, HJR.out⟩
            case round =>
              obtain ⟨j, mj, rfl, hj, hJ⟩ := hrel
              clear HJR
              have HJ := Lib.hid hJ
              have hzj := hJ.bx
              clear hJ
              by_cases hjn : (j : Int) < x % 50
              · go_wp2_with (first
                  | (with_reducible refine at_load 28 (.tmp 9) (by rfl) ?_
                     refine wpList_load_bk rowR rfl (.tmp 9) rfl b 0 rfl hzj [.int .i64 mj.b, .int .i64 mj.c, .int .i64 mj.w, .int .i64 mj.l] rfl rfl ?_)
                  | (go_at_call 16; refine (r_tick HJ.out.q.2 _).mono ?_; rintro en W3 ⟨rfl, hb3⟩
                     have hzn := Bk.new W3 28 [.int .i64 mj.tick.b, .int .i64 mj.tick.c, .int .i64 mj.tick.w, .int .i64 mj.tick.l]
                     have hb4 : Below W3.heap.size W3 (W3.alloc (.cells #[.int .i64 mj.tick.b, .int .i64 mj.tick.c, .int .i64 mj.tick.w, .int .i64 mj.tick.l] 28)) := (Below.refl _ _).alloc (Nat.le_refl _) _
                     have HJ4 := Lib.hid ((HJ.out.next hb3).next hb4)
                     have hbx5 := HJ4.out.bx
                     clear hb3 hb4 hzj)
                  | (with_reducible refine at_load 28 (.tmp 14) (by rfl) ?_
                     refine wpList_load_bk rowR rfl (.tmp 14) rfl W3.heap.size 0 rfl hzn [.int .i64 mj.tick.b, .int .i64 mj.tick.c, .int .i64 mj.tick.w, .int .i64 mj.tick.l] rfl rfl ?_)
                  | (with_reducible refine at_store 28 (.tmp 9) (.tmp 115) (by rfl) ?_
                     refine wpList_store_bk rowR rfl (.tmp 9) (.tmp 115) rfl b 0 rfl hbx5 [.int .i64 mj.tick.b, .int .i64 mj.tick.c, .int .i64 mj.tick.w, .int .i64 mj.tick.l] rfl rfl (by show 0 + 4 ≤ 4; omega) (by simp [Value.oneCell']) ?_
                     intro W6 hz6 hw6
                     rw [lay_all _ _ (by rfl)] at hz6
                     have HJ6 := Lib.hid (JQ.ref HJ4.out hz6 hw6)
                     clear hzn hbx5 hz6 hw6)
                  | (go_at_call 17; refine (t_tick HJ6.out.q).mono ?_; rintro en W7 ⟨rfl, hd7⟩
                     have HJ7 := Lib.hid (HJ6.out.did hd7)
                     clear hd7))
                go_roundw
                case rel => exact ⟨j + 1, mj.tick, by go_num, by omega, HJ7.out⟩
                case measure => simp [intOf]; omega
              · have HJ9 := Lib.hid HJ.out
                clear hzj HJ
                go_wp2
                refine wp_region_E Ext (by kernel_rfl) (fun wd hbd hsz => ?_)
                have HJd := Lib.hid (HJ9.out.next hbd)
                have q2 : ∀ W, Ext wd W → W.cell? ⟨b, 2, none⟩ = some (.int .i64 mj.w) := fun W hW => (HJd.out.bx.below hW).cell 2 rfl
                have q3 : ∀ W, Ext wd W → W.cell? ⟨b, 3, none⟩ = some (.int .i64 mj.l) := fun W hW => (HJd.out.bx.below hW).cell 3 rfl
                clear hsz
                (refine takeE Ext.tr 0 (by simp only [List.getElem?_toArray, List.getElem?_cons_succ, List.getElem?_cons_zero]; rfl) (by kernel_rfl) (by kernel_rfl) (by kernel_rfl) (by exact fun _ _ _ h => h) (by first | (refine Or.inl ⟨by rfl, ?_⟩; intro W hW; go_simp; try with_reducible rfl) | exact Or.inr ⟨by rfl, rfl⟩) ?_; try simp only [Act.put, List.setIfInBounds_toArray, List.set_cons_zero, List.set_cons_succ])
                (refine takeE Ext.tr 2 (by simp only [List.getElem?_toArray, List.getElem?_cons_succ, List.getElem?_cons_zero]; rfl) (by kernel_rfl) (by kernel_rfl) (by kernel_rfl) (by exact fun _ _ _ h => h) (by first | (refine Or.inl ⟨by rfl, ?_⟩; intro W hW; go_simp; try with_reducible rfl) | exact Or.inr ⟨by rfl, rfl⟩) ?_; try simp only [Act.put, List.setIfInBounds_toArray, List.set_cons_zero, List.set_cons_succ])
                (refine takeE Ext.tr 3 (by simp only [List.getElem?_toArray, List.getElem?_cons_succ, List.getElem?_cons_zero]; rfl) (by kernel_rfl) (by kernel_rfl) (by kernel_rfl) (by exact fun _ _ _ h => h) (by first | (refine Or.inl ⟨by rfl, ?_⟩; intro W hW; go_simp; try with_reducible rfl) | exact Or.inr ⟨by rfl, rfl⟩) ?_; try simp only [Act.put, List.setIfInBounds_toArray, List.set_cons_zero, List.set_cons_succ])
                refine wpAnyE_one (i := 1) (by kernel_rfl) (by simp only [List.getElem?_toArray, List.getElem?_cons_succ, List.getElem?_cons_zero]; rfl) (fun K hK => ?_)
                go_simp
                refine (t_wait HJd.out.q).mono ?_
                rintro en v1 ⟨rfl, rfl⟩
                refine hK.out _ _ (Ext.refl _) ?_
                clear hK K
                try simp only [Act.put, List.setIfInBounds_toArray, List.set_cons_zero, List.set_cons_succ]
                (refine takeE Ext.tr 4 (by simp only [List.getElem?_toArray, List.getElem?_cons_succ, List.getElem?_cons_zero]; rfl) (by kernel_rfl) (by kernel_rfl) (by kernel_rfl) (by exact fun _ _ _ h => h) (by first | (refine Or.inl ⟨by rfl, ?_⟩; intro W hW; go_simp; try with_reducible rfl) | exact Or.inr ⟨by rfl, rfl⟩) ?_; try simp only [Act.put, List.setIfInBounds_toArray, List.set_cons_zero, List.set_cons_succ])
                (refine takeE Ext.tr 5 (by simp only [List.getElem?_toArray, List.getElem?_cons_succ, List.getElem?_cons_zero]; rfl) (by kernel_rfl) (by kernel_rfl) (by kernel_rfl) (by exact fun _ _ _ h => h) (by first | (refine Or.inl ⟨by rfl, ?_⟩; intro W hW; go_simp; try with_reducible rfl) | exact Or.inr ⟨by rfl, rfl⟩) ?_; try simp only [Act.put, List.setIfInBounds_toArray, List.set_cons_zero, List.set_cons_succ])
                (refine takeE Ext.tr 6 (by simp only [List.getElem?_toArray, List.getElem?_cons_succ, List.getElem?_cons_zero]; rfl) (by kernel_rfl) (by kernel_rfl) (by kernel_rfl) (by exact fun _ _ _ h => h) (by first | (refine Or.inl ⟨by rfl, ?_⟩; intro W hW; go_simp; try with_reducible rfl) | exact Or.inr ⟨by rfl, rfl⟩) ?_; try simp only [Act.put, List.setIfInBounds_toArray, List.set_cons_zero, List.set_cons_succ])
                (refine takeE Ext.tr 8 (by simp only [List.getElem?_toArray, List.getElem?_cons_succ, List.getElem?_cons_zero]; rfl) (by kernel_rfl) (by kernel_rfl) (by kernel_rfl) (by exact fun _ _ _ h => h) (by first | (refine Or.inl ⟨by rfl, ?_⟩; intro W hW; go_simp; try with_reducible rfl) | exact Or.inr ⟨by rfl, rfl⟩) ?_; try simp only [Act.put, List.setIfInBounds_toArray, List.set_cons_zero, List.set_cons_succ])
                (refine takeE Ext.tr 9 (by simp only [List.getElem?_toArray, List.getElem?_cons_succ, List.getElem?_cons_zero]; rfl) (by kernel_rfl) (by kernel_rfl) (by kernel_rfl) (by exact fun _ _ _ h => h) (by first | (refine Or.inl ⟨by rfl, ?_⟩; intro W hW; go_simp; try with_reducible rfl) | exact Or.inr ⟨by rfl, rfl⟩) ?_; try simp only [Act.put, List.setIfInBounds_toArray, List.set_cons_zero, List.set_cons_succ])
                refine wpAnyE_one (i := 7) (by kernel_rfl) (by simp only [List.getElem?_toArray, List.getElem?_cons_succ, List.getElem?_cons_zero]; rfl) (fun K hK => ?_)
                go_simp
                refine (t_left HJd.out.q).mono ?_
                rintro en v1 ⟨rfl, rfl⟩
                refine hK.out _ _ (Ext.refl _) ?_
                clear hK K
                try simp only [Act.put, List.setIfInBounds_toArray, List.set_cons_zero, List.set_cons_succ]
                (refine takeE Ext.tr 10 (by simp only [List.getElem?_toArray, List.getElem?_cons_succ, List.getElem?_cons_zero]; rfl) (by kernel_rfl) (by kernel_rfl) (by kernel_rfl) (by exact fun _ _ _ h => h) (by first | (refine Or.inl ⟨by rfl, ?_⟩; intro W hW; go_simp; try with_reducible rfl) | exact Or.inr ⟨by rfl, rfl⟩) ?_; try simp only [Act.put, List.setIfInBounds_toArray, List.set_cons_zero, List.set_cons_succ])
                (refine takeE Ext.tr 11 (by simp only [List.getElem?_toArray, List.getElem?_cons_succ, List.getElem?_cons_zero]; rfl) (by kernel_rfl) (by kernel_rfl) (by kernel_rfl) (by exact fun _ _ _ h => h) (by first | (refine Or.inl ⟨by rfl, ?_⟩; intro W hW; go_simp; try with_reducible rfl) | exact Or.inr ⟨by rfl, rfl⟩) ?_; try simp only [Act.put, List.setIfInBounds_toArray, List.set_cons_zero, List.set_cons_succ])
                (refine takeE Ext.tr 12 (by simp only [List.getElem?_toArray, List.getElem?_cons_succ, List.getElem?_cons_zero]; rfl) (by kernel_rfl) (by kernel_rfl) (by kernel_rfl) (by exact fun _ _ _ h => h) (by first | (refine Or.inl ⟨by rfl, ?_⟩; intro W hW; go_simp; try with_reducible rfl) | exact Or.inr ⟨by rfl, rfl⟩) ?_; try simp only [Act.put, List.setIfInBounds_toArray, List.set_cons_zero, List.set_cons_succ])
                (refine takeE Ext.tr 13 (by simp only [List.getElem?_toArray, List.getElem?_cons_succ, List.getElem?_cons_zero]; rfl) (by kernel_rfl) (by kernel_rfl) (by kernel_rfl) (by exact fun _ _ _ h => h) (by first | (refine Or.inl ⟨by rfl, ?_⟩; intro W hW; go_simp; try with_reducible rfl) | exact Or.inr ⟨by rfl, rfl⟩) ?_; try simp only [Act.put, List.setIfInBounds_toArray, List.set_cons_zero, List.set_cons_succ])
                (refine takeE Ext.tr 15 (by simp only [List.getElem?_toArray, List.getElem?_cons_succ, List.getElem?_cons_zero]; rfl) (by kernel_rfl) (by kernel_rfl) (by kernel_rfl) (by exact fun _ _ _ h => h) (by first | (refine Or.inl ⟨by rfl, ?_⟩; intro W hW; go_simp; try with_reducible rfl) | exact Or.inr ⟨by rfl, rfl⟩) ?_; try simp only [Act.put, List.setIfInBounds_toArray, List.set_cons_zero, List.set_cons_succ])
                (refine takeE Ext.tr 16 (by simp only [List.getElem?_toArray, List.getElem?_cons_succ, List.getElem?_cons_zero]; rfl) (by kernel_rfl) (by kernel_rfl) (by kernel_rfl) (by exact fun _ _ _ h => h) (by first | (refine Or.inl ⟨by rfl, ?_⟩; intro W hW; go_simp; try with_reducible rfl) | exact Or.inr ⟨by rfl, rfl⟩) ?_; try simp only [Act.put, List.setIfInBounds_toArray, List.set_cons_zero, List.set_cons_succ])
                (refine takeE Ext.tr 17 (by simp only [List.getElem?_toArray, List.getElem?_cons_succ, List.getElem?_cons_zero]; rfl) (by kernel_rfl) (by kernel_rfl) (by kernel_rfl) (by exact fun _ _ _ h => h) (by first | (refine Or.inl ⟨by rfl, ?_⟩; intro W hW; go_simp; try with_reducible rfl) | exact Or.inr ⟨by rfl, rfl⟩) ?_; try simp only [Act.put, List.setIfInBounds_toArray, List.set_cons_zero, List.set_cons_succ])
                refine wpAnyE_one (i := 14) (by kernel_rfl) (by simp only [List.getElem?_toArray, List.getElem?_cons_succ, List.getElem?_cons_zero]; rfl) (fun K hK => ?_)
                go_simp
                refine (t_running HJd.out.q).mono ?_
                rintro en v1 ⟨rfl, rfl⟩
                refine hK.out _ _ (Ext.refl _) ?_
                clear hK K
                try simp only [Act.put, List.setIfInBounds_toArray, List.set_cons_zero, List.set_cons_succ]
                (refine takeE Ext.tr 18 (by simp only [List.getElem?_toArray, List.getElem?_cons_succ, List.getElem?_cons_zero]; rfl) (by kernel_rfl) (by kernel_rfl) (by kernel_rfl) (by exact fun _ _ _ h => h) (by first | (refine Or.inl ⟨by rfl, ?_⟩; intro W hW; go_simp; try with_reducible rfl) | exact Or.inr ⟨by rfl, rfl⟩) ?_; try simp only [Act.put, List.setIfInBounds_toArray, List.set_cons_zero, List.set_cons_succ])
                (refine takeE Ext.tr 19 (by simp only [List.getElem?_toArray, List.getElem?_cons_succ, List.getElem?_cons_zero]; rfl) (by kernel_rfl) (by kernel_rfl) (by kernel_rfl) (by exact fun _ _ _ h => h) (by first | (refine Or.inl ⟨by rfl, ?_⟩; intro W hW; go_simp; try with_reducible rfl) | exact Or.inr ⟨by rfl, rfl⟩) ?_; try simp only [Act.put, List.setIfInBounds_toArray, List.set_cons_zero, List.set_cons_succ])
                refine wpAnyE_done (by kernel_rfl) ?_ _
                clear q2 q3
                go_wp2
                go_roundw
                case rel => exact ⟨k + 1, _, by go_num, by have := HLT.out; omega, rfl, g, mj, rfl, HJd.out⟩
                case measure => have := HLT.out; simp [intOf]; omega
        · as_aux_lemma =>
            have e0 : (d % 6 == 0) = false := by simp; omega
            have e1 : (d % 6 == 1) = false := by simp; omega
            have e2 : (d % 6 == 2) = false := by simp; omega
            have e3 : (d % 6 == 3) = false := by simp; omega
            have e4 : (d % 6 == 4) = false := by simp; omega
            clear hd8
            go_wp2_with (go_at_call 15; refine (t_fork HJR.out.q).mono ?_; rintro en W2 ⟨rfl, hj2, hb2⟩
                         have HJ2 := Lib.hid (HJR.out.fork hj2 (Nat.le_refl _) hb2)
                         clear hj2 hb2 hzb c0')
            generalize wr.heap.size = g2 at *
            go_wp2
            go_loopw [13] (fun i wr => ∃ (j : Nat) (mj : Tm), i = .int .i64 j ∧ (j : Int) ≤ 0 ∧ JQ w b g2 mj mj wr) (fun i _ => 0 - (intOf i).toNat)
            case atStart => exact ⟨0, m, rfl, by omega, HJ2.out⟩
            case round =>
              obtain ⟨j, mj, rfl, hj, hJ⟩ := hrel
              clear HJ2
              have HJ := Lib.hid hJ
              have hzj := hJ.bx
              clear hJ
              by_cases hjn : (j : Int) < 0
              · exfalso; omega
              · have HJ9 := Lib.hid HJ.out
                clear hzj HJ
                go_wp2
                refine wp_region_E Ext (by kernel_rfl) (fun wd hbd hsz => ?_)
                have HJd := Lib.hid (HJ9.out.next hbd)
                have q2 : ∀ W, Ext wd W → W.cell? ⟨b, 2, none⟩ = some (.int .i64 mj.w) := fun W hW => (HJd.out.bx.below hW).cell 2 rfl
                have q3 : ∀ W, Ext wd W → W.cell? ⟨b, 3, none⟩ = some (.int .i64 mj.l) := fun W hW => (HJd.out.bx.below hW).cell 3 rfl
                clear hsz
                (refine takeE Ext.tr 0 (by simp only [List.getElem?_toArray, List.getElem?_cons_succ, List.getElem?_cons_zero]; rfl) (by kernel_rfl) (by kernel_rfl) (by kernel_rfl) (by exact fun _ _ _ h => h) (by first | (refine Or.inl ⟨by rfl, ?_⟩; intro W hW; go_simp; try with_reducible rfl) | exact Or.inr ⟨by rfl, rfl⟩) ?_; try simp only [Act.put, List.setIfInBounds_toArray, List.set_cons_zero, List.set_cons_succ])
                (refine takeE Ext.tr 2 (by simp only [List.getElem?_toArray, List.getElem?_cons_succ, List.getElem?_cons_zero]; rfl) (by kernel_rfl) (by kernel_rfl) (by kernel_rfl) (by exact fun _ _ _ h => h) (by first | (refine Or.inl ⟨by rfl, ?_⟩; intro W hW; go_simp; try with_reducible rfl) | exact Or.inr ⟨by rfl, rfl⟩) ?_; try simp only [Act.put, List.setIfInBounds_toArray, List.set_cons_zero, List.set_cons_succ])
                (refine takeE Ext.tr 3 (by simp only [List.getElem?_toArray, List.getElem?_cons_succ, List.getElem?_cons_zero]; rfl) (by kernel_rfl) (by kernel_rfl) (by kernel_rfl) (by exact fun _ _ _ h => h) (by first | (refine Or.inl ⟨by rfl, ?_⟩; intro W hW; go_simp; try with_reducible rfl) | exact Or.inr ⟨by rfl, rfl⟩) ?_; try simp only [Act.put, List.setIfInBounds_toArray, List.set_cons_zero, List.set_cons_succ])
                refine wpAnyE_one (i := 1) (by kernel_rfl) (by simp only [List.getElem?_toArray, List.getElem?_cons_succ, List.getElem?_cons_zero]; rfl) (fun K hK => ?_)
                go_simp
                refine (t_wait HJd.out.q).mono ?_
                rintro en v1 ⟨rfl, rfl⟩
                refine hK.out _ _ (Ext.refl _) ?_
                clear hK K
                try simp only [Act.put, List.setIfInBounds_toArray, List.set_cons_zero, List.set_cons_succ]
                (refine takeE Ext.tr 4 (by simp only [List.getElem?_toArray, List.getElem?_cons_succ, List.getElem?_cons_zero]; rfl) (by kernel_rfl) (by kernel_rfl) (by kernel_rfl) (by exact fun _ _ _ h => h) (by first | (refine Or.inl ⟨by rfl, ?_⟩; intro W hW; go_simp; try with_reducible rfl) | exact Or.inr ⟨by rfl, rfl⟩) ?_; try simp only [Act.put, List.setIfInBounds_toArray, List.set_cons_zero, List.set_cons_succ])
                (refine takeE Ext.tr 5 (by simp only [List.getElem?_toArray, List.getElem?_cons_succ, List.getElem?_cons_zero]; rfl) (by kernel_rfl) (by kernel_rfl) (by kernel_rfl) (by exact fun _ _ _ h => h) (by first | (refine Or.inl ⟨by rfl, ?_⟩; intro W hW; go_simp; try with_reducible rfl) | exact Or.inr ⟨by rfl, rfl⟩) ?_; try simp only [Act.put, List.setIfInBounds_toArray, List.set_cons_zero, List.set_cons_succ])
                (refine takeE Ext.tr 6 (by simp only [List.getElem?_toArray, List.getElem?_cons_succ, List.getElem?_cons_zero]; rfl) (by kernel_rfl) (by kernel_rfl) (by kernel_rfl) (by exact fun _ _ _ h => h) (by first | (refine Or.inl ⟨by rfl, ?_⟩; intro W hW; go_simp; try with_reducible rfl) | exact Or.inr ⟨by rfl, rfl⟩) ?_; try simp only [Act.put, List.setIfInBounds_toArray, List.set_cons_zero, List.set_cons_succ])
                (refine takeE Ext.tr 8 (by simp only [List.getElem?_toArray, List.getElem?_cons_succ, List.getElem?_cons_zero]; rfl) (by kernel_rfl) (by kernel_rfl) (by kernel_rfl) (by exact fun _ _ _ h => h) (by first | (refine Or.inl ⟨by rfl, ?_⟩; intro W hW; go_simp; try with_reducible rfl) | exact Or.inr ⟨by rfl, rfl⟩) ?_; try simp only [Act.put, List.setIfInBounds_toArray, List.set_cons_zero, List.set_cons_succ])
                (refine takeE Ext.tr 9 (by simp only [List.getElem?_toArray, List.getElem?_cons_succ, List.getElem?_cons_zero]; rfl) (by kernel_rfl) (by kernel_rfl) (by kernel_rfl) (by exact fun _ _ _ h => h) (by first | (refine Or.inl ⟨by rfl, ?_⟩; intro W hW; go_simp; try with_reducible rfl) | exact Or.inr ⟨by rfl, rfl⟩) ?_; try simp only [Act.put, List.setIfInBounds_toArray, List.set_cons_zero, List.set_cons_succ])
                refine wpAnyE_one (i := 7) (by kernel_rfl) (by simp only [List.getElem?_toArray, List.getElem?_cons_succ, List.getElem?_cons_zero]; rfl) (fun K hK => ?_)
                go_simp
                refine (t_left HJd.out.q).mono ?_
                rintro en v1 ⟨rfl, rfl⟩
                refine hK.out _ _ (Ext.refl _) ?_
                clear hK K
                try simp only [Act.put, List.setIfInBounds_toArray, List.set_cons_zero, List.set_cons_succ]
                (refine takeE Ext.tr 10 (by simp only [List.getElem?_toArray, List.getElem?_cons_succ, List.getElem?_cons_zero]; rfl) (by kernel_rfl) (by kernel_rfl) (by kernel_rfl) (by exact fun _ _ _ h => h) (by first | (refine Or.inl ⟨by rfl, ?_⟩; intro W hW; go_simp; try with_reducible rfl) | exact Or.inr ⟨by rfl, rfl⟩) ?_; try simp only [Act.put, List.setIfInBounds_toArray, List.set_cons_zero, List.set_cons_succ])
                (refine takeE Ext.tr 11 (by simp only [List.getElem?_toArray, List.getElem?_cons_succ, List.getElem?_cons_zero]; rfl) (by kernel_rfl) (by kernel_rfl) (by kernel_rfl) (by exact fun _ _ _ h => h) (by first | (refine Or.inl ⟨by rfl, ?_⟩; intro W hW; go_simp; try with_reducible rfl) | exact Or.inr ⟨by rfl, rfl⟩) ?_; try simp only [Act.put, List.setIfInBounds_toArray, List.set_cons_zero, List.set_cons_succ])
                (refine takeE Ext.tr 12 (by simp only [List.getElem?_toArray, List.getElem?_cons_succ, List.getElem?_cons_zero]; rfl) (by kernel_rfl) (by kernel_rfl) (by kernel_rfl) (by exact fun _ _ _ h => h) (by first | (refine Or.inl ⟨by rfl, ?_⟩; intro W hW; go_simp; try with_reducible rfl) | exact Or.inr ⟨by rfl, rfl⟩) ?_; try simp only [Act.put, List.setIfInBounds_toArray, List.set_cons_zero, List.set_cons_succ])
                (refine takeE Ext.tr 13 (by simp only [List.getElem?_toArray, List.getElem?_cons_succ, List.getElem?_cons_zero]; rfl) (by kernel_rfl) (by kernel_rfl) (by kernel_rfl) (by exact fun _ _ _ h => h) (by first | (refine Or.inl ⟨by rfl, ?_⟩; intro W hW; go_simp; try with_reducible rfl) | exact Or.inr ⟨by rfl, rfl⟩) ?_; try simp only [Act.put, List.setIfInBounds_toArray, List.set_cons_zero, List.set_cons_succ])
                (refine takeE Ext.tr 15 (by simp only [List.getElem?_toArray, List.getElem?_cons_succ, List.getElem?_cons_zero]; rfl) (by kernel_rfl) (by kernel_rfl) (by kernel_rfl) (by exact fun _ _ _ h => h) (by first | (refine Or.inl ⟨by rfl, ?_⟩; intro W hW; go_simp; try with_reducible rfl) | exact Or.inr ⟨by rfl, rfl⟩) ?_; try simp only [Act.put, List.setIfInBounds_toArray, List.set_cons_zero, List.set_cons_succ])
                (refine takeE Ext.tr 16 (by simp only [List.getElem?_toArray, List.getElem?_cons_succ, List.getElem?_cons_zero]; rfl) (by kernel_rfl) (by kernel_rfl) (by kernel_rfl) (by exact fun _ _ _ h => h) (by first | (refine Or.inl ⟨by rfl, ?_⟩; intro W hW; go_simp; try with_reducible rfl) | exact Or.inr ⟨by rfl, rfl⟩) ?_; try simp only [Act.put, List.setIfInBounds_toArray, List.set_cons_zero, List.set_cons_succ])
                (refine takeE Ext.tr 17 (by simp only [List.getElem?_toArray, List.getElem?_cons_succ, List.getElem?_cons_zero]; rfl) (by kernel_rfl) (by kernel_rfl) (by kernel_rfl) (by exact fun _ _ _ h => h) (by first | (refine Or.inl ⟨by rfl, ?_⟩; intro W hW; go_simp; try with_reducible rfl) | exact Or.inr ⟨by rfl, rfl⟩) ?_; try simp only [Act.put, List.setIfInBounds_toArray, List.set_cons_zero, List.set_cons_succ])
                refine wpAnyE_one (i := 14) (by kernel_rfl) (by simp only [List.getElem?_toArray, List.getElem?_cons_succ, List.getElem?_cons_zero]; rfl) (fun K hK => ?_)
                go_simp
                refine (t_running HJd.out.q).mono ?_
                rintro en v1 ⟨rfl, rfl⟩
                refine hK.out _ _ (Ext.refl _) ?_
                clear hK K
                try simp only [Act.put, List.setIfInBounds_toArray, List.set_cons_zero, List.set_cons_succ]
                (refine takeE Ext.tr 18 (by simp only [List.getElem?_toArray, List.getElem?_cons_succ, List.getElem?_cons_zero]; rfl) (by kernel_rfl) (by kernel_rfl) (by kernel_rfl) (by exact fun _ _ _ h => h) (by first | (refine Or.inl ⟨by rfl, ?_⟩; intro W hW; go_simp; try with_reducible rfl) | exact Or.inr ⟨by rfl, rfl⟩) ?_; try simp only [Act.put, List.setIfInBounds_toArray, List.set_cons_zero, List.set_cons_succ])
                (refine takeE Ext.tr 19 (by simp only [List.getElem?_toArray, List.getElem?_cons_succ, List.getElem?_cons_zero]; rfl) (by kernel_rfl) (by kernel_rfl) (by kernel_rfl) (by exact fun _ _ _ h => h) (by first | (refine Or.inl ⟨by rfl, ?_⟩; intro W hW; go_simp; try with_reducible rfl) | exact Or.inr ⟨by rfl, rfl⟩) ?_; try simp only [Act.put, List.setIfInBounds_toArray, List.set_cons_zero, List.set_cons_succ])
                refine wpAnyE_done (by kernel_rfl) ?_ _
                clear q2 q3
                go_wp2
                go_roundw
                case rel => exact ⟨k + 1, _, by go_num, by have := HLT.out; omega, rfl, g2, mj, rfl, HJd.out⟩
                case measure => have := HLT.out; simp [intOf]; omega
      · have HB := Lib.hid hJR.bel
        rcases (by omega : ¬ (k : Int) < n0 ∨ ((k : Int) < n0 ∧ ¬ (k : Int) < 60)) with hge | ⟨hge1, hge2⟩
        all_goals
          clear hJR hlt
          go_wp2
          go_ret
          exact ⟨rfl, HB.out⟩
end Go.Proofs.Ytpcjmkphdannfaa
