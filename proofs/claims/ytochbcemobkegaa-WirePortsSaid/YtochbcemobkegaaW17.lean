/- The law of ports. -/
import Derived.Test.YtochbcemobkegaaW17a
import Derived.Deep.DeepCutAuto
import Derived.Outline
set_option linter.unusedSimpArgs false
set_option linter.unusedVariables false
namespace Go.Proofs.Ytochbcemobkegaa
open Go.RowKit Go.Shelf

theorem pk_new2' {w : World} (vs vs' : List Value) : Bk ((w.alloc (.cells vs.toArray 25)).alloc (.cells vs'.toArray 25)) 25 w.heap.size vs ∧ Bk ((w.alloc (.cells vs.toArray 25)).alloc (.cells vs'.toArray 25)) 25 (w.heap.size + 1) vs' ∧ Below w.heap.size w ((w.alloc (.cells vs.toArray 25)).alloc (.cells vs'.toArray 25)) :=
  pk_new2 (Below.refl _ _)
set_option maxRecDepth 100000 in
set_option maxHeartbeats 8000000 in
theorem lawPorts (kd fl pa sr ds cn sq pu : Int) (A : Option Addr) (n c : Nat) (kd1 fl1 pa1 sr1 ds1 cn1 sq1 pu1 : Int) (A1 : Option Addr) (n1 c1 : Nat) (xs0 ys0 : List Int) (w : World) (h0 : Rd .u8 w A n c xs0) (k0 : Rd .u8 w A1 n1 c1 ys0) (hf : fl ≤ 9223372036854775807) (hf1 : fl1 ≤ 9223372036854775807) :
    Calls Try.prog 4 #[.agg #[.int .i64 kd, .int .i64 fl, .int .i64 pa, .int .i64 sr, .int .i64 ds, .int .i64 cn, .int .i64 sq, .int .i64 pu, .slice A n c], .agg #[.int .i64 kd1, .int .i64 fl1, .int .i64 pa1, .int .i64 sr1, .int .i64 ds1, .int .i64 cn1, .int .i64 sq1, .int .i64 pu1, .slice A1 n1 c1]] w fun e w' => e = .returned (.bool true) ∧ Below w.heap.size w w' := by
  have hnc := h0.2.1
  have hcm := h0.2.2.1
  have hnc1 := k0.2.1
  have hcm1 := k0.2.2.1
  obtain ⟨m, hm⟩ : ∃ m, m = min n 1100 := ⟨_, rfl⟩
  obtain ⟨m1, hm1⟩ : ∃ m, m = min n1 1100 := ⟨_, rfl⟩
  obtain ⟨xs, hxs⟩ : ∃ xs, xs = xs0.take m := ⟨_, rfl⟩
  obtain ⟨ys, hys⟩ : ∃ ys, ys = ys0.take m1 := ⟨_, rfl⟩
  have hx : Rd .u8 w A m c xs := by rw [hxs]; exact h0.pre (by omega)
  have hy : Rd .u8 w A1 m1 c1 ys := by rw [hys]; exact k0.pre (by omega)
  have hm2 : m ≤ 1100 := by omega
  have hm3 : m1 ≤ 1100 := by omega
  have HM := Lib.hid hm
  have HM1 := Lib.hid hm1
  clear hm hm1 hxs hys h0 k0
  have T1 := fun W h => trim_all kd fl pa sr ds cn sq pu A m c xs W h (by omega) hf
  have T2 := fun W h => rtrim_all kd fl pa sr ds cn sq pu A m c xs W h hf
  have B1 := fun W h => bounce_all kd fl pa sr ds cn sq pu A m c xs W h (by omega) hf
  have B2 := fun W h => rbounce_all kd fl pa sr ds cn sq pu A m c xs W h hf
  generalize trF ⟨kd, fl, pa, sr, ds, cn, sq, pu⟩ m = tf at T1 T2
  generalize trB ⟨kd, fl, pa, sr, ds, cn, sq, pu⟩ m = tb at T1 T2
  generalize trX ⟨kd, fl, pa, sr, ds, cn, sq, pu⟩ m xs = tx at T1 T2
  generalize boF ⟨kd, fl, pa, sr, ds, cn, sq, pu⟩ m = bf at B1 B2
  generalize boB ⟨kd, fl, pa, sr, ds, cn, sq, pu⟩ m = bb at B1 B2
  generalize boS ⟨kd, fl, pa, sr, ds, cn, sq, pu⟩ m = bs at B1 B2
  generalize boD ⟨kd, fl, pa, sr, ds, cn, sq, pu⟩ m = bd at B1 B2
  have T1 := Lib.hid T1
  have T2 := Lib.hid T2
  have B1 := Lib.hid B1
  have B2 := Lib.hid B2
  obtain ⟨sb, esb⟩ : ∃ b, smB ⟨kd, fl, pa, sr, ds, cn, sq, pu⟩ ⟨kd1, fl1, pa1, sr1, ds1, cn1, sq1, pu1⟩ xs ys = b := ⟨_, rfl⟩
  have HSB := Lib.hid esb
  clear esb
  go_enter Try.func4, Try.ntmps4
  go_upto_region 1 with fail
  obtain ⟨hp0, hq0, hb0⟩ := pk_new2' (w := w) [.int .i64 kd, .int .i64 fl, .int .i64 pa, .int .i64 sr, .int .i64 ds, .int .i64 cn, .int .i64 sq, .int .i64 pu, .slice A n c] [.int .i64 kd1, .int .i64 fl1, .int .i64 pa1, .int .i64 sr1, .int .i64 ds1, .int .i64 cn1, .int .i64 sq1, .int .i64 pu1, .slice A1 n1 c1]
  go_cut [4] (fun s4 wx => s4 = .bool false ∧ Bk wx 25 w.heap.size [.int .i64 kd, .int .i64 fl, .int .i64 pa, .int .i64 sr, .int .i64 ds, .int .i64 cn, .int .i64 sq, .int .i64 pu, .slice A m c] ∧ Bk wx 25 (w.heap.size + 1) [.int .i64 kd1, .int .i64 fl1, .int .i64 pa1, .int .i64 sr1, .int .i64 ds1, .int .i64 cn1, .int .i64 sq1, .int .i64 pu1, .slice A1 m1 c1] ∧ Below w.heap.size w wx)
  case first =>
    refine wp_region_E (Below w.heap.size) (by kernel_rfl) (fun wd hbd hsz => ?_)
    have hp := (hp0.below hbd)
    have hq := (hq0.below hbd)
    have hc := hb0.trans (hbd.mono (by simp; omega))
    have hsz0 : w.heap.size ≤ wd.heap.size := hc.size
    clear hbd hsz
    have hp9 := hp.cells9
    have hq9 := hq.cells9
    refine wpAnyE_two (i := 0) (j := 2) (by kernel_rfl) (by simp only [List.getElem?_toArray, List.getElem?_cons_succ, List.getElem?_cons_zero]; rfl) (by simp only [List.getElem?_toArray, List.getElem?_cons_succ, List.getElem?_cons_zero]; rfl) (fun K hK => ?_) (fun K hK => ?_)
    ·
      go_simp
      refine hK.out _ _ (Below.refl _ _) ?_
      clear hK K
      try simp only [Act.put, List.setIfInBounds_toArray, List.set_cons_zero, List.set_cons_succ]
      refine wpAnyE_two (i := 1) (j := 2) (by kernel_rfl) (by simp only [List.getElem?_toArray, List.getElem?_cons_succ, List.getElem?_cons_zero]; rfl) (by simp only [List.getElem?_toArray, List.getElem?_cons_succ, List.getElem?_cons_zero]; rfl) (fun K hK => ?_) (fun K hK => ?_)
      ·
        go_simp
        refine (few_any _ _ _ _ _ _ _ _ _ _ _ _ hnc hcm).mono ?_
        rintro e W1 ⟨rfl, hb⟩
        rw [← HM.out]
        have hE := hb.mono hsz0
        have hp := hp.below hb
        have hq := hq.below hb
        have hc := hc.trans hE
        have hsz0 := Nat.le_trans hsz0 hb.size
        clear hb hp9 hq9
        have hp9 := hp.cells9
        have hq9 := hq.cells9
        go_simp
        refine hK.out _ _ hE ?_
        clear hK K
        try simp only [Act.put, List.setIfInBounds_toArray, List.set_cons_zero, List.set_cons_succ]
        refine wpAnyE_one (i := 2) (by kernel_rfl) (by simp only [List.getElem?_toArray, List.getElem?_cons_succ, List.getElem?_cons_zero]; rfl) (fun K hK => ?_)
        go_simp
        refine hK.out _ _ (Below.refl _ _) ?_
        clear hK K
        try simp only [Act.put, List.setIfInBounds_toArray, List.set_cons_zero, List.set_cons_succ]
        refine wpAnyE_one (i := 3) (by kernel_rfl) (by simp only [List.getElem?_toArray, List.getElem?_cons_succ, List.getElem?_cons_zero]; rfl) (fun K hK => ?_)
        go_simp
        refine (few_any _ _ _ _ _ _ _ _ _ _ _ _ hnc1 hcm1).mono ?_
        rintro e W1 ⟨rfl, hb⟩
        rw [← HM1.out]
        have hE := hb.mono hsz0
        have hp := hp.below hb
        have hq := hq.below hb
        have hc := hc.trans hE
        have hsz0 := Nat.le_trans hsz0 hb.size
        clear hb hp9 hq9
        have hp9 := hp.cells9
        have hq9 := hq.cells9
        go_simp
        refine hK.out _ _ hE ?_
        clear hK K
        try simp only [Act.put, List.setIfInBounds_toArray, List.set_cons_zero, List.set_cons_succ]
        refine wpAnyE_one (i := 4) (by kernel_rfl) (by simp only [List.getElem?_toArray, List.getElem?_cons_succ, List.getElem?_cons_zero]; rfl) (fun K hK => ?_)
        have hpf := fun i => hp.free i
        go_simp
        obtain ⟨W2, hW, hWx, hWb, hWk, hWo, hWs, -⟩ := pk_store (.int .i64 kd) (.int .i64 fl) (.int .i64 pa) (.int .i64 sr) (.int .i64 ds) (.int .i64 cn) (.int .i64 sq) (.int .i64 pu) (.slice A m c) hp
        rw [hW]
        have hE := hWb _ (Nat.le_refl _)
        have hq := hWk _ _ _ (by omega) hq
        have hp := hWx
        have hc := hc.trans hE
        clear hW hWx hWb hWk hWo hpf hp9 hq9
        have hp9 := hp.cells9
        have hq9 := hq.cells9
        refine hK.out _ _ hE ?_
        clear hK K
        try simp only [Act.put, List.setIfInBounds_toArray, List.set_cons_zero, List.set_cons_succ]
        refine wpAnyE_one (i := 5) (by kernel_rfl) (by simp only [List.getElem?_toArray, List.getElem?_cons_succ, List.getElem?_cons_zero]; rfl) (fun K hK => ?_)
        have hpf := fun i => hq.free i
        go_simp
        obtain ⟨W2, hW, hWx, hWb, hWk, hWo, hWs, -⟩ := pk_store (.int .i64 kd1) (.int .i64 fl1) (.int .i64 pa1) (.int .i64 sr1) (.int .i64 ds1) (.int .i64 cn1) (.int .i64 sq1) (.int .i64 pu1) (.slice A1 m1 c1) hq
        rw [hW]
        have hE := hWb _ (Nat.le_succ _)
        have hp := hWk _ _ _ (by omega) hp
        have hq := hWx
        have hc := hc.trans hE
        clear hW hWx hWb hWk hWo hpf hp9 hq9
        have hp9 := hp.cells9
        have hq9 := hq.cells9
        refine hK.out _ _ hE ?_
        clear hK K
        try simp only [Act.put, List.setIfInBounds_toArray, List.set_cons_zero, List.set_cons_succ]
        refine wpAnyE_done (by kernel_rfl) ?_ _
        go_wp2_with fail
        go_meet
        exact ⟨rfl, hp, hq, hc⟩
      ·
        go_simp
        refine hK.out _ _ (Below.refl _ _) ?_
        clear hK K
        try simp only [Act.put, List.setIfInBounds_toArray, List.set_cons_zero, List.set_cons_succ]
        refine wpAnyE_one (i := 1) (by kernel_rfl) (by simp only [List.getElem?_toArray, List.getElem?_cons_succ, List.getElem?_cons_zero]; rfl) (fun K hK => ?_)
        go_simp
        refine (few_any _ _ _ _ _ _ _ _ _ _ _ _ hnc hcm).mono ?_
        rintro e W1 ⟨rfl, hb⟩
        rw [← HM.out]
        have hE := hb.mono hsz0
        have hp := hp.below hb
        have hq := hq.below hb
        have hc := hc.trans hE
        have hsz0 := Nat.le_trans hsz0 hb.size
        clear hb hp9 hq9
        have hp9 := hp.cells9
        have hq9 := hq.cells9
        go_simp
        refine hK.out _ _ hE ?_
        clear hK K
        try simp only [Act.put, List.setIfInBounds_toArray, List.set_cons_zero, List.set_cons_succ]
        refine wpAnyE_one (i := 3) (by kernel_rfl) (by simp only [List.getElem?_toArray, List.getElem?_cons_succ, List.getElem?_cons_zero]; rfl) (fun K hK => ?_)
        go_simp
        refine (few_any _ _ _ _ _ _ _ _ _ _ _ _ hnc1 hcm1).mono ?_
        rintro e W1 ⟨rfl, hb⟩
        rw [← HM1.out]
        have hE := hb.mono hsz0
        have hp := hp.below hb
        have hq := hq.below hb
        have hc := hc.trans hE
        have hsz0 := Nat.le_trans hsz0 hb.size
        clear hb hp9 hq9
        have hp9 := hp.cells9
        have hq9 := hq.cells9
        go_simp
        refine hK.out _ _ hE ?_
        clear hK K
        try simp only [Act.put, List.setIfInBounds_toArray, List.set_cons_zero, List.set_cons_succ]
        refine wpAnyE_one (i := 4) (by kernel_rfl) (by simp only [List.getElem?_toArray, List.getElem?_cons_succ, List.getElem?_cons_zero]; rfl) (fun K hK => ?_)
        have hpf := fun i => hp.free i
        go_simp
        obtain ⟨W2, hW, hWx, hWb, hWk, hWo, hWs, -⟩ := pk_store (.int .i64 kd) (.int .i64 fl) (.int .i64 pa) (.int .i64 sr) (.int .i64 ds) (.int .i64 cn) (.int .i64 sq) (.int .i64 pu) (.slice A m c) hp
        rw [hW]
        have hE := hWb _ (Nat.le_refl _)
        have hq := hWk _ _ _ (by omega) hq
        have hp := hWx
        have hc := hc.trans hE
        clear hW hWx hWb hWk hWo hpf hp9 hq9
        have hp9 := hp.cells9
        have hq9 := hq.cells9
        refine hK.out _ _ hE ?_
        clear hK K
        try simp only [Act.put, List.setIfInBounds_toArray, List.set_cons_zero, List.set_cons_succ]
        refine wpAnyE_one (i := 5) (by kernel_rfl) (by simp only [List.getElem?_toArray, List.getElem?_cons_succ, List.getElem?_cons_zero]; rfl) (fun K hK => ?_)
        have hpf := fun i => hq.free i
        go_simp
        obtain ⟨W2, hW, hWx, hWb, hWk, hWo, hWs, -⟩ := pk_store (.int .i64 kd1) (.int .i64 fl1) (.int .i64 pa1) (.int .i64 sr1) (.int .i64 ds1) (.int .i64 cn1) (.int .i64 sq1) (.int .i64 pu1) (.slice A1 m1 c1) hq
        rw [hW]
        have hE := hWb _ (Nat.le_succ _)
        have hp := hWk _ _ _ (by omega) hp
        have hq := hWx
        have hc := hc.trans hE
        clear hW hWx hWb hWk hWo hpf hp9 hq9
        have hp9 := hp.cells9
        have hq9 := hq.cells9
        refine hK.out _ _ hE ?_
        clear hK K
        try simp only [Act.put, List.setIfInBounds_toArray, List.set_cons_zero, List.set_cons_succ]
        refine wpAnyE_done (by kernel_rfl) ?_ _
        go_wp2_with fail
        go_meet
        exact ⟨rfl, hp, hq, hc⟩
    ·
      go_simp
      refine hK.out _ _ (Below.refl _ _) ?_
      clear hK K
      try simp only [Act.put, List.setIfInBounds_toArray, List.set_cons_zero, List.set_cons_succ]
      refine wpAnyE_one (i := 0) (by kernel_rfl) (by simp only [List.getElem?_toArray, List.getElem?_cons_succ, List.getElem?_cons_zero]; rfl) (fun K hK => ?_)
      go_simp
      refine hK.out _ _ (Below.refl _ _) ?_
      clear hK K
      try simp only [Act.put, List.setIfInBounds_toArray, List.set_cons_zero, List.set_cons_succ]
      refine wpAnyE_one (i := 1) (by kernel_rfl) (by simp only [List.getElem?_toArray, List.getElem?_cons_succ, List.getElem?_cons_zero]; rfl) (fun K hK => ?_)
      go_simp
      refine (few_any _ _ _ _ _ _ _ _ _ _ _ _ hnc hcm).mono ?_
      rintro e W1 ⟨rfl, hb⟩
      rw [← HM.out]
      have hE := hb.mono hsz0
      have hp := hp.below hb
      have hq := hq.below hb
      have hc := hc.trans hE
      have hsz0 := Nat.le_trans hsz0 hb.size
      clear hb hp9 hq9
      have hp9 := hp.cells9
      have hq9 := hq.cells9
      go_simp
      refine hK.out _ _ hE ?_
      clear hK K
      try simp only [Act.put, List.setIfInBounds_toArray, List.set_cons_zero, List.set_cons_succ]
      refine wpAnyE_one (i := 3) (by kernel_rfl) (by simp only [List.getElem?_toArray, List.getElem?_cons_succ, List.getElem?_cons_zero]; rfl) (fun K hK => ?_)
      go_simp
      refine (few_any _ _ _ _ _ _ _ _ _ _ _ _ hnc1 hcm1).mono ?_
      rintro e W1 ⟨rfl, hb⟩
      rw [← HM1.out]
      have hE := hb.mono hsz0
      have hp := hp.below hb
      have hq := hq.below hb
      have hc := hc.trans hE
      have hsz0 := Nat.le_trans hsz0 hb.size
      clear hb hp9 hq9
      have hp9 := hp.cells9
      have hq9 := hq.cells9
      go_simp
      refine hK.out _ _ hE ?_
      clear hK K
      try simp only [Act.put, List.setIfInBounds_toArray, List.set_cons_zero, List.set_cons_succ]
      refine wpAnyE_one (i := 4) (by kernel_rfl) (by simp only [List.getElem?_toArray, List.getElem?_cons_succ, List.getElem?_cons_zero]; rfl) (fun K hK => ?_)
      have hpf := fun i => hp.free i
      go_simp
      obtain ⟨W2, hW, hWx, hWb, hWk, hWo, hWs, -⟩ := pk_store (.int .i64 kd) (.int .i64 fl) (.int .i64 pa) (.int .i64 sr) (.int .i64 ds) (.int .i64 cn) (.int .i64 sq) (.int .i64 pu) (.slice A m c) hp
      rw [hW]
      have hE := hWb _ (Nat.le_refl _)
      have hq := hWk _ _ _ (by omega) hq
      have hp := hWx
      have hc := hc.trans hE
      clear hW hWx hWb hWk hWo hpf hp9 hq9
      have hp9 := hp.cells9
      have hq9 := hq.cells9
      refine hK.out _ _ hE ?_
      clear hK K
      try simp only [Act.put, List.setIfInBounds_toArray, List.set_cons_zero, List.set_cons_succ]
      refine wpAnyE_one (i := 5) (by kernel_rfl) (by simp only [List.getElem?_toArray, List.getElem?_cons_succ, List.getElem?_cons_zero]; rfl) (fun K hK => ?_)
      have hpf := fun i => hq.free i
      go_simp
      obtain ⟨W2, hW, hWx, hWb, hWk, hWo, hWs, -⟩ := pk_store (.int .i64 kd1) (.int .i64 fl1) (.int .i64 pa1) (.int .i64 sr1) (.int .i64 ds1) (.int .i64 cn1) (.int .i64 sq1) (.int .i64 pu1) (.slice A1 m1 c1) hq
      rw [hW]
      have hE := hWb _ (Nat.le_succ _)
      have hp := hWk _ _ _ (by omega) hp
      have hq := hWx
      have hc := hc.trans hE
      clear hW hWx hWb hWk hWo hpf hp9 hq9
      have hp9 := hp.cells9
      have hq9 := hq.cells9
      refine hK.out _ _ hE ?_
      clear hK K
      try simp only [Act.put, List.setIfInBounds_toArray, List.set_cons_zero, List.set_cons_succ]
      refine wpAnyE_done (by kernel_rfl) ?_ _
      go_wp2_with fail
      go_meet
      exact ⟨rfl, hp, hq, hc⟩
  case rest =>
    obtain ⟨rfl, hp, hq, hc⟩ := hcut
    clear hp0 hq0 hb0
    have hx := hx.below hc
    have hy := hy.below hc
    have hp9 := hp.cells9
    go_wp2_with fail
    refine (T1.out _ hx).mono ?_
    rintro e W1 ⟨A5, n5, c5, rfl, r5, hb1⟩
    have hp := hp.below hb1
    have hq := hq.below hb1
    have hx := hx.below hb1
    have hy := hy.below hb1
    have hc := below_on hc hb1
    clear hp9 hb1
    have hp9 := hp.cells9
    have hlp := hp.lt
    go_wp2_with fail
    have ha := Bk.new W1 25 [.int .i64 kd, .int .i64 tf, .int .i64 pa, .int .i64 sr, .int .i64 ds, .int .i64 cn, .int .i64 sq, .int .i64 pu, .slice A5 n5 c5]
    have hb0 := (Below.refl W1.heap.size W1).alloc (Nat.le_refl _) (.cells #[.int .i64 kd, .int .i64 tf, .int .i64 pa, .int .i64 sr, .int .i64 ds, .int .i64 cn, .int .i64 sq, .int .i64 pu, .slice A5 n5 c5] 25)
    have hp := hp.below hb0
    have hq := hq.below hb0
    have hx := hx.below hb0
    have hy := hy.below hb0
    have r5 := r5.below hb0
    have hc := below_on hc hb0
    refine (T2.out _ hx).mono ?_
    rintro e W2 ⟨A7, n7, c7, rfl, r7, hb1⟩
    have ha := ha.below hb1
    have hp := hp.below hb1
    have hq := hq.below hb1
    have hx := hx.below hb1
    have hy := hy.below hb1
    have r5 := r5.below hb1
    have hc := below_on hc hb1
    clear hp9 hb1 hb0
    have hp9 := hp.cells9
    have hlp := hp.lt
    go_wp2_with fail
    have hb := Bk.new W2 25 [.int .i64 kd, .int .i64 tf, .int .i64 pa, .int .i64 sr, .int .i64 ds, .int .i64 cn, .int .i64 sq, .int .i64 pu, .slice A7 n7 c7]
    have hb0 := (Below.refl W2.heap.size W2).alloc (Nat.le_refl _) (.cells #[.int .i64 kd, .int .i64 tf, .int .i64 pa, .int .i64 sr, .int .i64 ds, .int .i64 cn, .int .i64 sq, .int .i64 pu, .slice A7 n7 c7] 25)
    have ha := ha.below hb0
    have hp := hp.below hb0
    have hq := hq.below hb0
    have hx := hx.below hb0
    have hy := hy.below hb0
    have r5 := r5.below hb0
    have r7 := r7.below hb0
    have hc := below_on hc hb0
    refine (B1.out _ hx).mono ?_
    rintro e W3 ⟨A9, c9, rfl, r9, hb1⟩
    have ha := ha.below hb1
    have hb := hb.below hb1
    have hp := hp.below hb1
    have hq := hq.below hb1
    have hx := hx.below hb1
    have hy := hy.below hb1
    have r5 := r5.below hb1
    have r7 := r7.below hb1
    have hc := below_on hc hb1
    clear hp9 hb1 hb0
    have hp9 := hp.cells9
    have hlp := hp.lt
    go_wp2_with fail
    have hd := Bk.new W3 25 [.int .i64 kd, .int .i64 bf, .int .i64 pa, .int .i64 bs, .int .i64 bd, .int .i64 cn, .int .i64 sq, .int .i64 pu, .slice A9 m c9]
    have hb0 := (Below.refl W3.heap.size W3).alloc (Nat.le_refl _) (.cells #[.int .i64 kd, .int .i64 bf, .int .i64 pa, .int .i64 bs, .int .i64 bd, .int .i64 cn, .int .i64 sq, .int .i64 pu, .slice A9 m c9] 25)
    have ha := ha.below hb0
    have hb := hb.below hb0
    have hp := hp.below hb0
    have hq := hq.below hb0
    have hx := hx.below hb0
    have hy := hy.below hb0
    have r5 := r5.below hb0
    have r7 := r7.below hb0
    have r9 := r9.below hb0
    have hc := below_on hc hb0
    refine (B2.out _ hx).mono ?_
    rintro e W4 ⟨A11, c11, rfl, r11, hb1⟩
    have ha := ha.below hb1
    have hb := hb.below hb1
    have hd := hd.below hb1
    have hp := hp.below hb1
    have hq := hq.below hb1
    have hx := hx.below hb1
    have hy := hy.below hb1
    have r5 := r5.below hb1
    have r7 := r7.below hb1
    have r9 := r9.below hb1
    have hc := below_on hc hb1
    clear hp9 hb1 hb0
    go_upto_region 6 with fail
    have he := Bk.new W4 25 [.int .i64 kd, .int .i64 bf, .int .i64 pa, .int .i64 bs, .int .i64 bd, .int .i64 cn, .int .i64 sq, .int .i64 pu, .slice A11 m c11]
    have hb0 := (Below.refl W4.heap.size W4).alloc (Nat.le_refl _) (.cells #[.int .i64 kd, .int .i64 bf, .int .i64 pa, .int .i64 bs, .int .i64 bd, .int .i64 cn, .int .i64 sq, .int .i64 pu, .slice A11 m c11] 25)
    have ha := ha.below hb0
    have hb := hb.below hb0
    have hd := hd.below hb0
    have hp := hp.below hb0
    have hq := hq.below hb0
    have hx := hx.below hb0
    have hy := hy.below hb0
    have r5 := r5.below hb0
    have r7 := r7.below hb0
    have r9 := r9.below hb0
    have r11 := r11.below hb0
    have hc := below_on hc hb0
    clear hb0 T1 T2 B1 B2
    refine wp_region_E Ext (by kernel_rfl) (fun wd hbd hsz => ?_)
    have hp := hp.below hbd
    have hq := hq.below hbd
    have ha := ha.below hbd
    have hb := hb.below hbd
    have hd := hd.below hbd
    have he := he.below hbd
    have hx := hx.below hbd
    have hy := hy.below hbd
    have r5 := r5.below hbd
    have r7 := r7.below hbd
    have r9 := r9.below hbd
    have r11 := r11.below hbd
    have hc := below_on hc hbd
    have k_hp := fun W (hW : Ext wd W) => (hp.below hW).cells9
    have k_hq := fun W (hW : Ext wd W) => (hq.below hW).cells9
    have k_ha := fun W (hW : Ext wd W) => (ha.below hW).cells9
    have k_hb := fun W (hW : Ext wd W) => (hb.below hW).cells9
    have k_hd := fun W (hW : Ext wd W) => (hd.below hW).cells9
    have k_he := fun W (hW : Ext wd W) => (he.below hW).cells9
    clear hbd hsz
    have s1 : (tb == tb) = true := by simp
    have s2 : (bb == bb) = true := by simp
    have s3 : (sb == sb) = true := by simp
    (refine takeE Ext.tr 0 (by simp only [List.getElem?_toArray, List.getElem?_cons_succ, List.getElem?_cons_zero]; rfl) (by kernel_rfl) (by kernel_rfl) (by kernel_rfl) (by exact fun _ _ _ h => h) (by first | (refine Or.inl ⟨by rfl, ?_⟩; intro W hW; go_simp; try with_reducible rfl) | exact Or.inr ⟨by rfl, rfl⟩) ?_; try simp only [Act.put, List.setIfInBounds_toArray, List.set_cons_zero, List.set_cons_succ])
    (refine takeE Ext.tr 1 (by simp only [List.getElem?_toArray, List.getElem?_cons_succ, List.getElem?_cons_zero]; rfl) (by kernel_rfl) (by kernel_rfl) (by kernel_rfl) (by exact fun _ _ _ h => h) (by first | (refine Or.inl ⟨by rfl, ?_⟩; intro W hW; go_simp; try with_reducible rfl) | exact Or.inr ⟨by rfl, rfl⟩) ?_; try simp only [Act.put, List.setIfInBounds_toArray, List.set_cons_zero, List.set_cons_succ])
    refine wpAnyE_one (i := 2) (by kernel_rfl) (by simp only [List.getElem?_toArray, List.getElem?_cons_succ, List.getElem?_cons_zero]; rfl) (fun K hK => ?_)
    go_simp
    refine (rsame_any _ _ _ _ _ _ _ _ _ _ _ _ _ _ _ _ _ _ _ _ _ _ tx tx _ (by exact r5) (by exact r7)).mono ?_
    rintro e W2 ⟨rfl, hb2⟩
    rw [smB_refl]
    have hp := hp.below hb2
    have hq := hq.below hb2
    have ha := ha.below hb2
    have hb := hb.below hb2
    have hd := hd.below hb2
    have he := he.below hb2
    have hx := hx.below hb2
    have hy := hy.below hb2
    have r5 := r5.below hb2
    have r7 := r7.below hb2
    have r9 := r9.below hb2
    have r11 := r11.below hb2
    have hc := below_on hc hb2
    clear k_hp k_hq k_ha k_hb k_hd k_he
    have k_hp := fun W (hW : Ext W2 W) => (hp.below hW).cells9
    have k_hq := fun W (hW : Ext W2 W) => (hq.below hW).cells9
    have k_ha := fun W (hW : Ext W2 W) => (ha.below hW).cells9
    have k_hb := fun W (hW : Ext W2 W) => (hb.below hW).cells9
    have k_hd := fun W (hW : Ext W2 W) => (hd.below hW).cells9
    have k_he := fun W (hW : Ext W2 W) => (he.below hW).cells9
    go_simp
    refine hK.out _ _ hb2 ?_
    clear hK K
    try simp only [Act.put, List.setIfInBounds_toArray, List.set_cons_zero, List.set_cons_succ]
    (refine takeE Ext.tr 3 (by simp only [List.getElem?_toArray, List.getElem?_cons_succ, List.getElem?_cons_zero]; rfl) (by kernel_rfl) (by kernel_rfl) (by kernel_rfl) (by exact fun _ _ _ h => h) (by first | (refine Or.inl ⟨by rfl, ?_⟩; intro W hW; go_simp; try with_reducible rfl) | exact Or.inr ⟨by rfl, rfl⟩) ?_; try simp only [Act.put, List.setIfInBounds_toArray, List.set_cons_zero, List.set_cons_succ])
    (refine takeE Ext.tr 4 (by simp only [List.getElem?_toArray, List.getElem?_cons_succ, List.getElem?_cons_zero]; rfl) (by kernel_rfl) (by kernel_rfl) (by kernel_rfl) (by exact fun _ _ _ h => h) (by first | (refine Or.inl ⟨by rfl, ?_⟩; intro W hW; go_simp; try with_reducible rfl) | exact Or.inr ⟨by rfl, rfl⟩) ?_; try simp only [Act.put, List.setIfInBounds_toArray, List.set_cons_zero, List.set_cons_succ])
    (refine takeE Ext.tr 5 (by simp only [List.getElem?_toArray, List.getElem?_cons_succ, List.getElem?_cons_zero]; rfl) (by kernel_rfl) (by kernel_rfl) (by kernel_rfl) (by exact fun _ _ _ h => h) (by first | (refine Or.inl ⟨by rfl, ?_⟩; intro W hW; go_simp; try with_reducible rfl) | exact Or.inr ⟨by rfl, rfl⟩) ?_; try simp only [Act.put, List.setIfInBounds_toArray, List.set_cons_zero, List.set_cons_succ])
    (refine takeE Ext.tr 6 (by simp only [List.getElem?_toArray, List.getElem?_cons_succ, List.getElem?_cons_zero]; rfl) (by kernel_rfl) (by kernel_rfl) (by kernel_rfl) (by exact fun _ _ _ h => h) (by first | (refine Or.inl ⟨by rfl, ?_⟩; intro W hW; go_simp; try with_reducible rfl) | exact Or.inr ⟨by rfl, rfl⟩) ?_; try simp only [Act.put, List.setIfInBounds_toArray, List.set_cons_zero, List.set_cons_succ])
    (refine takeE Ext.tr 7 (by simp only [List.getElem?_toArray, List.getElem?_cons_succ, List.getElem?_cons_zero]; rfl) (by kernel_rfl) (by kernel_rfl) (by kernel_rfl) (by exact fun _ _ _ h => h) (by first | (refine Or.inl ⟨by rfl, ?_⟩; intro W hW; go_simp; try with_reducible rfl) | exact Or.inr ⟨by rfl, rfl⟩) ?_; try simp only [Act.put, List.setIfInBounds_toArray, List.set_cons_zero, List.set_cons_succ])
    (refine takeE Ext.tr 8 (by simp only [List.getElem?_toArray, List.getElem?_cons_succ, List.getElem?_cons_zero]; rfl) (by kernel_rfl) (by kernel_rfl) (by kernel_rfl) (by exact fun _ _ _ h => h) (by first | (refine Or.inl ⟨by rfl, ?_⟩; intro W hW; go_simp; try with_reducible rfl) | exact Or.inr ⟨by rfl, rfl⟩) ?_; try simp only [Act.put, List.setIfInBounds_toArray, List.set_cons_zero, List.set_cons_succ])
    (refine takeE Ext.tr 9 (by simp only [List.getElem?_toArray, List.getElem?_cons_succ, List.getElem?_cons_zero]; rfl) (by kernel_rfl) (by kernel_rfl) (by kernel_rfl) (by exact fun _ _ _ h => h) (by first | (refine Or.inl ⟨by rfl, ?_⟩; intro W hW; go_simp; try with_reducible rfl) | exact Or.inr ⟨by rfl, rfl⟩) ?_; try simp only [Act.put, List.setIfInBounds_toArray, List.set_cons_zero, List.set_cons_succ])
    (refine takeE Ext.tr 10 (by simp only [List.getElem?_toArray, List.getElem?_cons_succ, List.getElem?_cons_zero]; rfl) (by kernel_rfl) (by kernel_rfl) (by kernel_rfl) (by exact fun _ _ _ h => h) (by first | (refine Or.inl ⟨by rfl, ?_⟩; intro W hW; go_simp; try with_reducible rfl) | exact Or.inr ⟨by rfl, rfl⟩) ?_; try simp only [Act.put, List.setIfInBounds_toArray, List.set_cons_zero, List.set_cons_succ])
    refine wpAnyE_one (i := 11) (by kernel_rfl) (by simp only [List.getElem?_toArray, List.getElem?_cons_succ, List.getElem?_cons_zero]; rfl) (fun K hK => ?_)
    go_simp
    refine (rsame_any _ _ _ _ _ _ _ _ _ _ _ _ _ _ _ _ _ _ _ _ _ _ xs xs _ (by exact r9) (by exact r11)).mono ?_
    rintro e W11 ⟨rfl, hb11⟩
    rw [smB_refl]
    have hp := hp.below hb11
    have hq := hq.below hb11
    have ha := ha.below hb11
    have hb := hb.below hb11
    have hd := hd.below hb11
    have he := he.below hb11
    have hx := hx.below hb11
    have hy := hy.below hb11
    have r5 := r5.below hb11
    have r7 := r7.below hb11
    have r9 := r9.below hb11
    have r11 := r11.below hb11
    have hc := below_on hc hb11
    clear k_hp k_hq k_ha k_hb k_hd k_he
    have k_hp := fun W (hW : Ext W11 W) => (hp.below hW).cells9
    have k_hq := fun W (hW : Ext W11 W) => (hq.below hW).cells9
    have k_ha := fun W (hW : Ext W11 W) => (ha.below hW).cells9
    have k_hb := fun W (hW : Ext W11 W) => (hb.below hW).cells9
    have k_hd := fun W (hW : Ext W11 W) => (hd.below hW).cells9
    have k_he := fun W (hW : Ext W11 W) => (he.below hW).cells9
    go_simp
    refine hK.out _ _ hb11 ?_
    clear hK K
    try simp only [Act.put, List.setIfInBounds_toArray, List.set_cons_zero, List.set_cons_succ]
    (refine takeE Ext.tr 12 (by simp only [List.getElem?_toArray, List.getElem?_cons_succ, List.getElem?_cons_zero]; rfl) (by kernel_rfl) (by kernel_rfl) (by kernel_rfl) (by exact fun _ _ _ h => h) (by first | (refine Or.inl ⟨by rfl, ?_⟩; intro W hW; go_simp; try with_reducible rfl) | exact Or.inr ⟨by rfl, rfl⟩) ?_; try simp only [Act.put, List.setIfInBounds_toArray, List.set_cons_zero, List.set_cons_succ])
    (refine takeE Ext.tr 13 (by simp only [List.getElem?_toArray, List.getElem?_cons_succ, List.getElem?_cons_zero]; rfl) (by kernel_rfl) (by kernel_rfl) (by kernel_rfl) (by exact fun _ _ _ h => h) (by first | (refine Or.inl ⟨by rfl, ?_⟩; intro W hW; go_simp; try with_reducible rfl) | exact Or.inr ⟨by rfl, rfl⟩) ?_; try simp only [Act.put, List.setIfInBounds_toArray, List.set_cons_zero, List.set_cons_succ])
    (refine takeE Ext.tr 14 (by simp only [List.getElem?_toArray, List.getElem?_cons_succ, List.getElem?_cons_zero]; rfl) (by kernel_rfl) (by kernel_rfl) (by kernel_rfl) (by exact fun _ _ _ h => h) (by first | (refine Or.inl ⟨by rfl, ?_⟩; intro W hW; go_simp; try with_reducible rfl) | exact Or.inr ⟨by rfl, rfl⟩) ?_; try simp only [Act.put, List.setIfInBounds_toArray, List.set_cons_zero, List.set_cons_succ])
    (refine takeE Ext.tr 15 (by simp only [List.getElem?_toArray, List.getElem?_cons_succ, List.getElem?_cons_zero]; rfl) (by kernel_rfl) (by kernel_rfl) (by kernel_rfl) (by exact fun _ _ _ h => h) (by first | (refine Or.inl ⟨by rfl, ?_⟩; intro W hW; go_simp; try with_reducible rfl) | exact Or.inr ⟨by rfl, rfl⟩) ?_; try simp only [Act.put, List.setIfInBounds_toArray, List.set_cons_zero, List.set_cons_succ])
    (refine takeE Ext.tr 16 (by simp only [List.getElem?_toArray, List.getElem?_cons_succ, List.getElem?_cons_zero]; rfl) (by kernel_rfl) (by kernel_rfl) (by kernel_rfl) (by exact fun _ _ _ h => h) (by first | (refine Or.inl ⟨by rfl, ?_⟩; intro W hW; go_simp; try with_reducible rfl) | exact Or.inr ⟨by rfl, rfl⟩) ?_; try simp only [Act.put, List.setIfInBounds_toArray, List.set_cons_zero, List.set_cons_succ])
    (refine takeE Ext.tr 17 (by simp only [List.getElem?_toArray, List.getElem?_cons_succ, List.getElem?_cons_zero]; rfl) (by kernel_rfl) (by kernel_rfl) (by kernel_rfl) (by exact fun _ _ _ h => h) (by first | (refine Or.inl ⟨by rfl, ?_⟩; intro W hW; go_simp; try with_reducible rfl) | exact Or.inr ⟨by rfl, rfl⟩) ?_; try simp only [Act.put, List.setIfInBounds_toArray, List.set_cons_zero, List.set_cons_succ])
    (refine takeE Ext.tr 18 (by simp only [List.getElem?_toArray, List.getElem?_cons_succ, List.getElem?_cons_zero]; rfl) (by kernel_rfl) (by kernel_rfl) (by kernel_rfl) (by exact fun _ _ _ h => h) (by first | (refine Or.inl ⟨by rfl, ?_⟩; intro W hW; go_simp; try with_reducible rfl) | exact Or.inr ⟨by rfl, rfl⟩) ?_; try simp only [Act.put, List.setIfInBounds_toArray, List.set_cons_zero, List.set_cons_succ])
    (refine takeE Ext.tr 19 (by simp only [List.getElem?_toArray, List.getElem?_cons_succ, List.getElem?_cons_zero]; rfl) (by kernel_rfl) (by kernel_rfl) (by kernel_rfl) (by exact fun _ _ _ h => h) (by first | (refine Or.inl ⟨by rfl, ?_⟩; intro W hW; go_simp; try with_reducible rfl) | exact Or.inr ⟨by rfl, rfl⟩) ?_; try simp only [Act.put, List.setIfInBounds_toArray, List.set_cons_zero, List.set_cons_succ])
    (refine takeE Ext.tr 20 (by simp only [List.getElem?_toArray, List.getElem?_cons_succ, List.getElem?_cons_zero]; rfl) (by kernel_rfl) (by kernel_rfl) (by kernel_rfl) (by exact fun _ _ _ h => h) (by first | (refine Or.inl ⟨by rfl, ?_⟩; intro W hW; go_simp; try with_reducible rfl) | exact Or.inr ⟨by rfl, rfl⟩) ?_; try simp only [Act.put, List.setIfInBounds_toArray, List.set_cons_zero, List.set_cons_succ])
    (refine takeE Ext.tr 22 (by simp only [List.getElem?_toArray, List.getElem?_cons_succ, List.getElem?_cons_zero]; rfl) (by kernel_rfl) (by kernel_rfl) (by kernel_rfl) (by exact fun _ _ _ h => h) (by first | (refine Or.inl ⟨by rfl, ?_⟩; intro W hW; go_simp; try with_reducible rfl) | exact Or.inr ⟨by rfl, rfl⟩) ?_; try simp only [Act.put, List.setIfInBounds_toArray, List.set_cons_zero, List.set_cons_succ])
    (refine takeE Ext.tr 23 (by simp only [List.getElem?_toArray, List.getElem?_cons_succ, List.getElem?_cons_zero]; rfl) (by kernel_rfl) (by kernel_rfl) (by kernel_rfl) (by exact fun _ _ _ h => h) (by first | (refine Or.inl ⟨by rfl, ?_⟩; intro W hW; go_simp; try with_reducible rfl) | exact Or.inr ⟨by rfl, rfl⟩) ?_; try simp only [Act.put, List.setIfInBounds_toArray, List.set_cons_zero, List.set_cons_succ])
    refine wpAnyE_one (i := 21) (by kernel_rfl) (by simp only [List.getElem?_toArray, List.getElem?_cons_succ, List.getElem?_cons_zero]; rfl) (fun K hK => ?_)
    go_simp
    refine (same_any _ _ _ _ _ _ _ _ _ _ _ _ _ _ _ _ _ _ _ _ _ _ xs ys _ (by exact hx) (by exact hy)).mono ?_
    rintro e W21 ⟨rfl, hb21⟩
    rw [HSB.out]
    have hp := hp.below hb21
    have hq := hq.below hb21
    have ha := ha.below hb21
    have hb := hb.below hb21
    have hd := hd.below hb21
    have he := he.below hb21
    have hx := hx.below hb21
    have hy := hy.below hb21
    have r5 := r5.below hb21
    have r7 := r7.below hb21
    have r9 := r9.below hb21
    have r11 := r11.below hb21
    have hc := below_on hc hb21
    clear k_hp k_hq k_ha k_hb k_hd k_he
    have k_hp := fun W (hW : Ext W21 W) => (hp.below hW).cells9
    have k_hq := fun W (hW : Ext W21 W) => (hq.below hW).cells9
    have k_ha := fun W (hW : Ext W21 W) => (ha.below hW).cells9
    have k_hb := fun W (hW : Ext W21 W) => (hb.below hW).cells9
    have k_hd := fun W (hW : Ext W21 W) => (hd.below hW).cells9
    have k_he := fun W (hW : Ext W21 W) => (he.below hW).cells9
    go_simp
    refine hK.out _ _ hb21 ?_
    clear hK K
    try simp only [Act.put, List.setIfInBounds_toArray, List.set_cons_zero, List.set_cons_succ]
    refine wpAnyE_one (i := 24) (by kernel_rfl) (by simp only [List.getElem?_toArray, List.getElem?_cons_succ, List.getElem?_cons_zero]; rfl) (fun K hK => ?_)
    go_simp
    refine (rsame_any _ _ _ _ _ _ _ _ _ _ _ _ _ _ _ _ _ _ _ _ _ _ xs ys _ (by exact hx) (by exact hy)).mono ?_
    rintro e W24 ⟨rfl, hb24⟩
    rw [HSB.out]
    have hp := hp.below hb24
    have hq := hq.below hb24
    have ha := ha.below hb24
    have hb := hb.below hb24
    have hd := hd.below hb24
    have he := he.below hb24
    have hx := hx.below hb24
    have hy := hy.below hb24
    have r5 := r5.below hb24
    have r7 := r7.below hb24
    have r9 := r9.below hb24
    have r11 := r11.below hb24
    have hc := below_on hc hb24
    clear k_hp k_hq k_ha k_hb k_hd k_he
    have k_hp := fun W (hW : Ext W24 W) => (hp.below hW).cells9
    have k_hq := fun W (hW : Ext W24 W) => (hq.below hW).cells9
    have k_ha := fun W (hW : Ext W24 W) => (ha.below hW).cells9
    have k_hb := fun W (hW : Ext W24 W) => (hb.below hW).cells9
    have k_hd := fun W (hW : Ext W24 W) => (hd.below hW).cells9
    have k_he := fun W (hW : Ext W24 W) => (he.below hW).cells9
    go_simp
    refine hK.out _ _ hb24 ?_
    clear hK K
    try simp only [Act.put, List.setIfInBounds_toArray, List.set_cons_zero, List.set_cons_succ]
    (refine takeE Ext.tr 25 (by simp only [List.getElem?_toArray, List.getElem?_cons_succ, List.getElem?_cons_zero]; rfl) (by kernel_rfl) (by kernel_rfl) (by kernel_rfl) (by exact fun _ _ _ h => h) (by first | (refine Or.inl ⟨by rfl, ?_⟩; intro W hW; go_simp; try with_reducible rfl) | exact Or.inr ⟨by rfl, rfl⟩) ?_; try simp only [Act.put, List.setIfInBounds_toArray, List.set_cons_zero, List.set_cons_succ])
    (refine takeE Ext.tr 26 (by simp only [List.getElem?_toArray, List.getElem?_cons_succ, List.getElem?_cons_zero]; rfl) (by kernel_rfl) (by kernel_rfl) (by kernel_rfl) (by exact fun _ _ _ h => h) (by first | (refine Or.inl ⟨by rfl, ?_⟩; intro W hW; go_simp; try with_reducible rfl) | exact Or.inr ⟨by rfl, rfl⟩) ?_; try simp only [Act.put, List.setIfInBounds_toArray, List.set_cons_zero, List.set_cons_succ])
    (refine takeE Ext.tr 27 (by simp only [List.getElem?_toArray, List.getElem?_cons_succ, List.getElem?_cons_zero]; rfl) (by kernel_rfl) (by kernel_rfl) (by kernel_rfl) (by exact fun _ _ _ h => h) (by first | (refine Or.inl ⟨by rfl, ?_⟩; intro W hW; go_simp; try with_reducible rfl) | exact Or.inr ⟨by rfl, rfl⟩) ?_; try simp only [Act.put, List.setIfInBounds_toArray, List.set_cons_zero, List.set_cons_succ])
    (refine takeE Ext.tr 28 (by simp only [List.getElem?_toArray, List.getElem?_cons_succ, List.getElem?_cons_zero]; rfl) (by kernel_rfl) (by kernel_rfl) (by kernel_rfl) (by exact fun _ _ _ h => h) (by first | (refine Or.inl ⟨by rfl, ?_⟩; intro W hW; go_simp; try with_reducible rfl) | exact Or.inr ⟨by rfl, rfl⟩) ?_; try simp only [Act.put, List.setIfInBounds_toArray, List.set_cons_zero, List.set_cons_succ])
    (refine takeE Ext.tr 29 (by simp only [List.getElem?_toArray, List.getElem?_cons_succ, List.getElem?_cons_zero]; rfl) (by kernel_rfl) (by kernel_rfl) (by kernel_rfl) (by exact fun _ _ _ h => h) (by first | (refine Or.inl ⟨by rfl, ?_⟩; intro W hW; go_simp; try with_reducible rfl) | exact Or.inr ⟨by rfl, rfl⟩) ?_; try simp only [Act.put, List.setIfInBounds_toArray, List.set_cons_zero, List.set_cons_succ])
    refine wpAnyE_one (i := 30) (by kernel_rfl) (by simp only [List.getElem?_toArray, List.getElem?_cons_succ, List.getElem?_cons_zero]; rfl) (fun K hK => ?_)
    go_simp
    refine (same_any _ _ _ _ _ _ _ _ _ _ _ _ _ _ _ _ _ _ _ _ _ _ xs xs _ (by exact hx) (by exact hx)).mono ?_
    rintro e W30 ⟨rfl, hb30⟩
    rw [smB_refl]
    have hp := hp.below hb30
    have hq := hq.below hb30
    have ha := ha.below hb30
    have hb := hb.below hb30
    have hd := hd.below hb30
    have he := he.below hb30
    have hx := hx.below hb30
    have hy := hy.below hb30
    have r5 := r5.below hb30
    have r7 := r7.below hb30
    have r9 := r9.below hb30
    have r11 := r11.below hb30
    have hc := below_on hc hb30
    clear k_hp k_hq k_ha k_hb k_hd k_he
    have k_hp := fun W (hW : Ext W30 W) => (hp.below hW).cells9
    have k_hq := fun W (hW : Ext W30 W) => (hq.below hW).cells9
    have k_ha := fun W (hW : Ext W30 W) => (ha.below hW).cells9
    have k_hb := fun W (hW : Ext W30 W) => (hb.below hW).cells9
    have k_hd := fun W (hW : Ext W30 W) => (hd.below hW).cells9
    have k_he := fun W (hW : Ext W30 W) => (he.below hW).cells9
    go_simp
    refine hK.out _ _ hb30 ?_
    clear hK K
    try simp only [Act.put, List.setIfInBounds_toArray, List.set_cons_zero, List.set_cons_succ]
    (refine takeE Ext.tr 31 (by simp only [List.getElem?_toArray, List.getElem?_cons_succ, List.getElem?_cons_zero]; rfl) (by kernel_rfl) (by kernel_rfl) (by kernel_rfl) (by exact fun _ _ _ h => h) (by first | (refine Or.inl ⟨by rfl, ?_⟩; intro W hW; go_simp; try with_reducible rfl) | exact Or.inr ⟨by rfl, rfl⟩) ?_; try simp only [Act.put, List.setIfInBounds_toArray, List.set_cons_zero, List.set_cons_succ])
    (refine takeE Ext.tr 32 (by simp only [List.getElem?_toArray, List.getElem?_cons_succ, List.getElem?_cons_zero]; rfl) (by kernel_rfl) (by kernel_rfl) (by kernel_rfl) (by exact fun _ _ _ h => h) (by first | (refine Or.inl ⟨by rfl, ?_⟩; intro W hW; go_simp; try with_reducible rfl) | exact Or.inr ⟨by rfl, rfl⟩) ?_; try simp only [Act.put, List.setIfInBounds_toArray, List.set_cons_zero, List.set_cons_succ])
    refine wpAnyE_one (i := 33) (by kernel_rfl) (by simp only [List.getElem?_toArray, List.getElem?_cons_succ, List.getElem?_cons_zero]; rfl) (fun K hK => ?_)
    go_simp
    refine (awake_any _).mono ?_
    rintro e W33 ⟨rfl, hb33⟩
    have hc := below_on hc hb33
    go_simp
    refine hK.out _ _ hb33 ?_
    clear hK K
    try simp only [Act.put, List.setIfInBounds_toArray, List.set_cons_zero, List.set_cons_succ]
    (refine takeE Ext.tr 34 (by simp only [List.getElem?_toArray, List.getElem?_cons_succ, List.getElem?_cons_zero]; rfl) (by kernel_rfl) (by kernel_rfl) (by kernel_rfl) (by exact fun _ _ _ h => h) (by first | (refine Or.inl ⟨by rfl, ?_⟩; intro W hW; go_simp; try with_reducible rfl) | exact Or.inr ⟨by rfl, rfl⟩) ?_; try simp only [Act.put, List.setIfInBounds_toArray, List.set_cons_zero, List.set_cons_succ])
    (refine takeE Ext.tr 35 (by simp only [List.getElem?_toArray, List.getElem?_cons_succ, List.getElem?_cons_zero]; rfl) (by kernel_rfl) (by kernel_rfl) (by kernel_rfl) (by exact fun _ _ _ h => h) (by first | (refine Or.inl ⟨by rfl, ?_⟩; intro W hW; go_simp; try with_reducible rfl) | exact Or.inr ⟨by rfl, rfl⟩) ?_; try simp only [Act.put, List.setIfInBounds_toArray, List.set_cons_zero, List.set_cons_succ])
    refine wpAnyE_done (by kernel_rfl) ?_ _
    go_wp2_with fail
    go_ret
    exact ⟨rfl, hc⟩
end Go.Proofs.Ytochbcemobkegaa
