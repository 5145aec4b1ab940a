/- The document's pacer: a key forgotten. -/
import Derived.Test.YtdldocbfnjbhmaaK17
set_option linter.unusedSimpArgs false
set_option linter.unusedVariables false
set_option maxRecDepth 100000
namespace Go.Proofs.Ytdldocbfnjbhmaa
open Go.RowKit Go.Shelf
section
variable {P : Program} {w : World} {fn : Func} {ty ty2 : TypeId} {s s2 u1 u2 : Tmp} {tmps : Array Value} {a a2 : Addr} {v v2 : Value}
theorem results_ctt (h : fn.results = #[.cell s ty, .tmp u1, .tmp u2]) (ha : tmps.getD s undef = .pointer (some a)) (hl : (loadVar ty a).run P w = .ok v w) : (results fn tmps).run P w = .ok (.tuple #[v, tmps.getD u1 undef, tmps.getD u2 undef]) w := by
  rw [Array.getD_eq_getD_getElem?] at ha
  simp [results, h, ha, asAddr_some, hl]
theorem results_cct (h : fn.results = #[.cell s ty, .cell s2 ty2, .tmp u1]) (ha : tmps.getD s undef = .pointer (some a)) (hl : (loadVar ty a).run P w = .ok v w) (ha2 : tmps.getD s2 undef = .pointer (some a2)) (hl2 : (loadVar ty2 a2).run P w = .ok v2 w) :
    (results fn tmps).run P w = .ok (.tuple #[v, v2, tmps.getD u1 undef]) w := by
  rw [Array.getD_eq_getD_getElem?] at ha ha2
  simp [results, h, ha, ha2, asAddr_some, hl, hl2]
theorem results_cctt (h : fn.results = #[.cell s ty, .cell s2 ty2, .tmp u1, .tmp u2]) (ha : tmps.getD s undef = .pointer (some a)) (hl : (loadVar ty a).run P w = .ok v w) (ha2 : tmps.getD s2 undef = .pointer (some a2)) (hl2 : (loadVar ty2 a2).run P w = .ok v2 w) :
    (results fn tmps).run P w = .ok (.tuple #[v, v2, tmps.getD u1 undef, tmps.getD u2 undef]) w := by
  rw [Array.getD_eq_getD_getElem?] at ha ha2
  simp [results, h, ha, ha2, asAddr_some, hl, hl2]
end
section
variable {X X' F : Nat → Prop} {w w' : World} {v : Rv} {m : Pm} {k : Ky}
theorem RdR.pre {sz : Nat} {A : Option Addr} {n c : Nat} {cs : List Value} (h : RdR sz w A n c cs) {s : Nat} (hs : s ≤ n) : RdR sz w A s c (cs.take (s * sz)) := by
  obtain ⟨h1, h2, h3, h4, h5, h6⟩ := h
  have hm : s * sz ≤ n * sz := Nat.mul_le_mul_right _ hs
  refine ⟨by rw [List.length_take]; omega, by omega, h3, h4, fun x hx => h5 x (List.mem_of_mem_take hx), fun hn => ?_⟩
  obtain ⟨g, o, e, hg, hx⟩ := h6 (by omega)
  refine ⟨g, o, e, hg, fun i hi => ?_⟩
  rw [hx i (by omega), List.getElem?_take, if_pos hi]
theorem apd_plain {sz Bd : Nat} {e : TypeId} {A : Option Addr} {n c : Nat} {cs cs' : List Value} {u : Value} {w2 : World} (hl : LstR sz e (Bd ≤ ·) w A n c cs) (hB : Bd ≤ w.heap.size) (h : ApdR sz e (BlkOf A) w u cs' w2) :
    ∃ A' n' c', u = .slice A' n' c' ∧ LstR sz e (Bd ≤ ·) w2 A' n' c' cs' ∧ Below Bd w w2 := by
  obtain ⟨⟨A', n', c', rfl, hl'⟩, hst⟩ := h
  refine ⟨A', n', c', rfl, hl'.mono ?_, ?_⟩
  · rintro k (⟨ad, he, rfl⟩ | hk)
    · exact (hl.blk ad he).1
    · omega
  · refine hst.below hB ?_
    rintro k ⟨ad, he, rfl⟩
    exact (hl.blk ad he).1
theorem flat_take (L : List Kn) (i : Nat) (hi : i ≤ L.length) : (flat Kn.cl L).take (i * 5) = flat Kn.cl (L.take i) := by
  have e : flat Kn.cl L = flat Kn.cl (L.take i) ++ flat Kn.cl (L.drop i) := by rw [← flat_app, List.take_append_drop]
  have hl : (flat Kn.cl (L.take i)).length = i * 5 := by rw [flat_len Kn.cl_len, List.length_take, Nat.min_eq_left hi]
  rw [e, ← hl, List.take_left]
set_option maxHeartbeats 8000000 in
theorem r_forget (h : RpR X w v m) (ok : m.Ok) (k : Ky) (hX : ∀ j, w.heap.size ≤ j → X j) : Calls Try.prog 38 #[.agg #[.slice v.A v.n v.c, .slice v.B v.k v.d, .slice v.C v.r v.e, .int .i64 m.most, .int .i64 m.run, .int .i64 m.total], .agg #[.int .i64 k.s, .int .i64 k.c]] w fun e w' =>
    ∃ v2, e = .returned (.tuple #[.agg #[.slice v2.A v2.n v2.c, .slice v2.B v2.k v2.d, .slice v2.C v2.r v2.e, .int .i64 m.most, .int .i64 m.run, .int .i64 m.total], .int .i64 (m.forgetR k).2.1, .bool (m.forgetR k).2.2]) ∧ RpR X w' v2 (m.forgetR k).1 ∧ Below w.heap.size w w' := by
  obtain ⟨W, hW⟩ : ∃ W, W = ((w.alloc (.cells #[.slice v.A v.n v.c, .slice v.B v.k v.d, .slice v.C v.r v.e, .int .i64 m.most, .int .i64 m.run, .int .i64 m.total] 30)).alloc (.cells #[.int .i64 k.s, .int .i64 k.c] 35)).alloc (.cells #[.slice none 0 0, .slice none 0 0, .slice none 0 0, .int .i64 0, .int .i64 0, .int .i64 0] 30) := ⟨_, rfl⟩
  have hb1 : Below w.heap.size w W := by rw [hW]; exact (((Below.refl _ w).alloc (Nat.le_refl _) _).alloc (by simp) _).alloc (by simp; omega) _
  have hsW : w.heap.size + 1 + 1 + 1 = W.heap.size := by rw [hW]; simp
  have z1 : Bk W 30 w.heap.size ([.slice v.A v.n v.c, .slice v.B v.k v.d, .slice v.C v.r v.e, .int .i64 m.most, .int .i64 m.run, .int .i64 m.total]) := by rw [hW]; exact ((Bk.new w 30 ([.slice v.A v.n v.c, .slice v.B v.k v.d, .slice v.C v.r v.e, .int .i64 m.most, .int .i64 m.run, .int .i64 m.total])).alloc _).alloc _
  have z2 : Bk W 35 (w.heap.size + 1) k.cl := by
    have := (Bk.new (w.alloc (.cells #[.slice v.A v.n v.c, .slice v.B v.k v.d, .slice v.C v.r v.e, .int .i64 m.most, .int .i64 m.run, .int .i64 m.total] 30)) 35 k.cl).alloc (.cells #[.slice none 0 0, .slice none 0 0, .slice none 0 0, .int .i64 0, .int .i64 0, .int .i64 0] 30)
    rw [World.size_alloc] at this
    rw [hW]; exact this
  have z3 : Bk W 30 (w.heap.size + 2) [.slice none 0 0, .slice none 0 0, .slice none 0 0, .int .i64 0, .int .i64 0, .int .i64 0] := by
    have := Bk.new ((w.alloc (.cells #[.slice v.A v.n v.c, .slice v.B v.k v.d, .slice v.C v.r v.e, .int .i64 m.most, .int .i64 m.run, .int .i64 m.total] 30)).alloc (.cells #[.int .i64 k.s, .int .i64 k.c] 35)) 30 [.slice none 0 0, .slice none 0 0, .slice none 0 0, .int .i64 0, .int .i64 0, .int .i64 0]
    simp only [World.size_alloc] at this
    rw [hW]; exact this
  have h' := h.below hb1
  have HA := Lib.hid (And.intro hb1 (And.intro z1 (And.intro z2 (And.intro z3 h'))))
  have HSW := Lib.hid hsW
  have HX := Lib.hid hX
  have HH := Lib.hid h
  clear hsW
  have hvn : v.n ≤ 512 := by have := h.l.1; have := ok.ll; have := ok.mo; omega
  have hvk : v.k ≤ 512 := by have := h.p.1; have := ok.len0; omega
  have hvr : v.r ≤ 512 := by have := h.u.1; have := ok.len1; omega
  have HF := Lib.hid (r_find h' (by omega) k)
  have hc0 := z1.cell 0 rfl
  have hlt := z1.lt
  rcases got_or m.L k with ⟨i, x, hgt⟩ | hl
  · have HR2 := Lib.hid (show m.forgetR k = (m.forget i k, x.p, true) from by unfold Pm.forgetR; rw [got_ix hgt])
    rw [ixI_got hgt] at HF
    have hi0 : ¬ (i : Int) < 0 := by omega
    have hiv : (i : Int) < v.n := by have := hgt.lt; have := h.l.1; omega
    have hin : i + 1 ≤ v.n := by omega
    have HG := Lib.hid hgt
    have HVN := Lib.hid h.l.1
    have HX3 : Hid (RpR (fun j => X j ∧ j ≠ w.heap.size ∧ j ≠ w.heap.size + 2) W v m) := Lib.hid ((h.low.mono fun j hj => ⟨hj.1, by omega, by omega⟩).below hb1)
    have HXN : Hid (∀ j, W.heap.size ≤ j → X j ∧ j ≠ w.heap.size ∧ j ≠ w.heap.size + 2) := Lib.hid fun j hj => by have := HSW.out; exact ⟨HX.out j (by omega), by omega, by omega⟩
    obtain ⟨X2, hX2⟩ : ∃ X2 : Nat → Prop, X2 = fun j => X j ∧ j ≠ w.heap.size ∧ j ≠ w.heap.size + 2 := ⟨_, rfl⟩
    rw [← hX2] at HX3
    have HXE : Hid (∀ j, X2 j → X j ∧ j ≠ w.heap.size ∧ j ≠ w.heap.size + 2) := Lib.hid fun j hj => by rw [hX2] at hj; exact hj
    replace HXN : Hid (∀ j, W.heap.size ≤ j → X2 j) := Lib.hid fun j hj => by rw [hX2]; exact HXN.out j hj
    generalize m.forgetR k = R at *
    clear h h' hb1 z1 z2 z3 hX ok hgt hX2
    go_enter Try.func38, Try.ntmps38
    go_wp2_with fail
    rw [← hW]
    clear hW
    refine HF.out.mono ?_
    rintro e w2 ⟨rfl, hb2⟩
    have zp := HA.out.2.1.below hb2
    have zr := HA.out.2.2.2.1.below hb2
    replace hc0 := zp.cell 0 rfl
    replace hlt := zp.lt
    have HBc := Lib.hid hb2
    clear hb2
    obtain ⟨g, o, hAa, hgg, hra⟩ := (HA.out.2.2.2.2.l.below HBc.out).row HG.out.1
    have x3 : w2.cell? ⟨g, o + i * 5 + 3, none⟩ = some (.int .i64 x.p) := hra 3 _ rfl
    have hnc := (HA.out.2.2.2.2.l).2.1.2.1
    have hcm := (HA.out.2.2.2.2.l).2.1.2.2.1
    unfold maxLen at hcm
    have hpre : ∀ V, (Instr.slice 27 (.slice (some ⟨g, o, none⟩) v.n v.c) none (some (.int .i64 i)) none).run Try.prog V = .ok (.slice (some ⟨g, o, none⟩) i v.c) V := fun V => eltN.run_pre _ v.n v.c i (by omega) hnc V
    have hcut : ∀ V, (Instr.slice 27 (.slice (some ⟨g, o, none⟩) v.n v.c) (some (.int .i64 ((i : Int) + 1))) none none).run Try.prog V = .ok (.slice (cutR (some ⟨g, o, none⟩) v.c (i + 1) 5) (v.n - (i + 1)) (v.c - (i + 1))) V := fun V => eltN.run_cut _ v.n v.c (i + 1) hin hnc V
    have hrd := (HA.out.2.2.2.2.l.below HBc.out).2.1
    rw [hAa] at hc0 hrd
    have HRD := Lib.hid hrd
    have hla := fresh_lst 5 w2 50
    have hu := (hrd.pre (s := i) (by omega)).alloc (.cells #[] 50)
    have hnn : (0 + i) * 40 ≤ 140737488355328 := by omega
    have hi512 : (i : Int) ≤ 512 := by omega
    have HCC := Lib.hid (And.intro hnc hcm)
    clear hAa hra hrd hcm hnc
    go_wp2_with (first
      | (at_builtin
         refine wpList_append_lstR eltN rfl (.tmp 22) (.tmp 26) rfl rfl hla rfl hu hnn ?_
         rintro u w4 hap
         obtain ⟨A1, n1, c1, rfl, hl1, hb4⟩ := apd_fresh hap
         replace hl1 : LstR 5 50 (w2.heap.size ≤ ·) w4 A1 n1 c1 ([] ++ (flat Kn.cl m.L).take (i * 5)) := hl1
         rw [List.nil_append, flat_take m.L i (Nat.le_of_lt HG.out.lt)] at hl1
         have hn1 : n1 = i := by have e1 : _ = n1 * 5 := hl1.1; rw [flat_len Kn.cl_len, List.length_take] at e1; have := HG.out.lt; omega
         have c0' : w4.cell? ⟨w.heap.size, 0, none⟩ = some (.slice (some ⟨g, o, none⟩) v.n v.c) := by rw [← hc0]; exact hb4.cell (p := ⟨w.heap.size, 0, none⟩) hlt
         have hla2 := hl1.tight
         have hu2 := (HRD.out.below hb4).cut hin
         have hnn2 : (n1 + (v.n - (i + 1))) * 40 ≤ 140737488355328 := by omega
         have HB4 := Lib.hid hb4
         have HL1 := Lib.hid hl1
         clear hap hl1 hn1 hb4 hla hu hnn hc0)
      | (at_builtin
         refine wpList_append_lstR eltN rfl (.tmp 28) (.tmp 33) rfl rfl hla2 rfl hu2 hnn2 ?_
         rintro u w5 hap
         obtain ⟨A2, n2, c2, rfl, hl2, hb5⟩ := apd_plain HL1.out HB4.out.size hap
         have hb6 := HB4.out.trans hb5
         have d0 := (zp.below hb6).cell 0 rfl
         have f0 := (zp.below hb6).free 0
         have hl3 : LstR 5 50 (w2.heap.size ≤ ·) w5 A2 n2 c2 (flat Kn.cl (m.L.eraseIdx i)) := by
           have e1 : (flat Kn.cl m.L).drop ((i + 1) * 5) = flat Kn.cl (m.L.drop (i + 1)) := (flat_drop Kn.cl_len m.L (i + 1) HG.out.lt).symm
           rw [e1, ← flat_app] at hl2
           rwa [List.eraseIdx_eq_take_drop_succ]
         have d1 := (zp.below hb6).cell 1 rfl
         have dk0 : w5.cell? ⟨w.heap.size + 1, 0, none⟩ = some (.int .i64 k.s) := ((HA.out.2.2.1.below HBc.out).below hb6).cell 0 rfl
         have dk1 : w5.cell? ⟨w.heap.size + 1, 1, none⟩ = some (.int .i64 k.c) := ((HA.out.2.2.1.below HBc.out).below hb6).cell 1 rfl
         have HB6 := Lib.hid (HBc.out.trans (hb6.mono HBc.out.size))
         have HL3 := Lib.hid hl3
         clear hap hl2 hl3 hb5 hla2 hu2 hnn2 c0' hb6))
    clear d0 f0 d1 dk0 dk1 x3 hpre hcut
    have hst6 : St (· = w.heap.size) w5 (w5.setCell ⟨w.heap.size, 0, none⟩ (.slice A2 n2 c2)) := St.setCell (F := (· = w.heap.size)) w5 (a := ⟨w.heap.size, 0, none⟩) rfl _
    have hn0 : ∀ j, X2 j → ¬ j = w.heap.size := fun j hj => (HXE.out j hj).2.1
    have zp6 := (HA.out.2.1.below HB6.out).set 0 (.slice A2 n2 c2)
    have zr6 := (HA.out.2.2.2.1.below HB6.out).far (p := ⟨w.heap.size, 0, none⟩) (by simp) (.slice A2 n2 c2)
    have zk6 := (HA.out.2.2.1.below HB6.out).far (p := ⟨w.heap.size, 0, none⟩) (by simp) (.slice A2 n2 c2)
    have l6 := (LkN.of HL3.out (fun j hj => HXN.out j (Nat.le_trans HBc.out.size hj))).st hst6 hn0
    have p6 := (HX3.out.p.below HB6.out).st hst6 hn0
    have u6 := (HX3.out.u.below HB6.out).st hst6 hn0
    have b6 : Below w.heap.size w (w5.setCell ⟨w.heap.size, 0, none⟩ (.slice A2 n2 c2)) := (HA.out.1.trans (HB6.out.mono HA.out.1.size)).setCell (by simp) _
    have s6 : W.heap.size ≤ (w5.setCell ⟨w.heap.size, 0, none⟩ (.slice A2 n2 c2)).heap.size := Nat.le_trans HB6.out.size hst6.size
    clear hst6
    generalize w5.setCell ⟨w.heap.size, 0, none⟩ (.slice A2 n2 c2) = w6 at *
    have HW6 := Lib.hid (r_without p6 (by omega) k (fun j hj => HXN.out j (Nat.le_trans s6 hj)))
    refine HW6.out.mono ?_
    rintro e w7 ⟨B2, k2, d2, rfl, p7, b7⟩
    have zp7 := zp6.below b7
    have zr7 := zr6.below b7
    have zk7 := zk6.below b7
    have l7 := l6.below b7
    have u7 := u6.below b7
    have b7w := b6.trans (b7.mono b6.size)
    have s7 := Nat.le_trans s6 b7.size
    have e1 := zp7.cell 1 rfl
    have f1 := zp7.free 1
    have e2 := zp7.cell 2 rfl
    have ek0 : w7.cell? ⟨w.heap.size + 1, 0, none⟩ = some (.int .i64 k.s) := zk7.cell 0 rfl
    have ek1 : w7.cell? ⟨w.heap.size + 1, 1, none⟩ = some (.int .i64 k.c) := zk7.cell 1 rfl
    have H7 := Lib.hid (And.intro zp7 (And.intro zr7 (And.intro zk7 (And.intro l7 (And.intro p7 (And.intro u7 (And.intro b7w s7)))))))
    clear HW6 zp6 zr6 zk6 l6 p6 u6 b6 s6 zp7 zr7 zk7 l7 p7 u7 b7 b7w s7
    go_wp2_with fail
    clear e1 f1 e2 ek0 ek1
    obtain ⟨zp7, zr7, zk7, l7, p7, u7, b7, s7⟩ := H7.out
    have hst8 : St (· = w.heap.size) w7 (w7.setCell ⟨w.heap.size, 1, none⟩ (.slice B2 k2 d2)) := St.setCell (F := (· = w.heap.size)) w7 (a := ⟨w.heap.size, 1, none⟩) rfl _
    have zp8 := zp7.set 1 (.slice B2 k2 d2)
    have zr8 := zr7.far (p := ⟨w.heap.size, 1, none⟩) (by simp) (.slice B2 k2 d2)
    have l8 := l7.st hst8 hn0
    have p8 := p7.st hst8 hn0
    have u8 := u7.st hst8 hn0
    have b8 : Below w.heap.size w (w7.setCell ⟨w.heap.size, 1, none⟩ (.slice B2 k2 d2)) := b7.setCell (by simp) _
    have s8 : W.heap.size ≤ (w7.setCell ⟨w.heap.size, 1, none⟩ (.slice B2 k2 d2)).heap.size := Nat.le_trans s7 hst8.size
    clear hst8 zp7 zr7 zk7 l7 p7 u7 b7 s7 H7
    generalize w7.setCell ⟨w.heap.size, 1, none⟩ (.slice B2 k2 d2) = w8 at *
    have HW8 := Lib.hid (r_without u8 (by omega) k (fun j hj => HXN.out j (Nat.le_trans s8 hj)))
    refine HW8.out.mono ?_
    rintro e w9 ⟨C2, r2, e2, rfl, u9, b9⟩
    have zp9 := zp8.below b9
    have zr9 := zr8.below b9
    have l9 := l8.below b9
    have p9 := p8.below b9
    have b9w := b8.trans (b9.mono b8.size)
    have g2 := zp9.cell 2 rfl
    have h2 := zp9.free 2
    have hst10 : St (· = w.heap.size) w9 (w9.setCell ⟨w.heap.size, 2, none⟩ (.slice C2 r2 e2)) := St.setCell (F := (· = w.heap.size)) w9 (a := ⟨w.heap.size, 2, none⟩) rfl _
    have zp10 := zp9.set 2 (.slice C2 r2 e2)
    have zr10 := zr9.far (p := ⟨w.heap.size, 2, none⟩) (by simp) (.slice C2 r2 e2)
    have H10 := Lib.hid (And.intro (l9.st hst10 hn0) (And.intro (p9.st hst10 hn0) (And.intro (u9.st hst10 hn0) (show Below w.heap.size w (w9.setCell ⟨w.heap.size, 2, none⟩ (.slice C2 r2 e2)) from b9w.setCell (by simp) _))))
    clear HW8 zp8 zr8 l8 p8 u8 b8 s8 zp9 zr9 l9 p9 u9 b9 b9w hst10
    go_wp2_with (first
      | (with_reducible refine at_load 30 (.tmp 2) (by rfl) ?_; refine wpList_load_bk rowR rfl (.tmp 2) rfl w.heap.size 0 rfl zp10 [.slice A2 n2 c2, .slice B2 k2 d2, .slice C2 r2 e2, .int .i64 m.most, .int .i64 m.run, .int .i64 m.total] rfl rfl ?_)
      | (with_reducible refine at_store 30 (.tmp 4) (.tmp 46) (by rfl) ?_; refine wpList_store_bk rowR rfl (.tmp 4) (.tmp 46) rfl (w.heap.size + 2) 0 rfl zr10 [.slice A2 n2 c2, .slice B2 k2 d2, .slice C2 r2 e2, .int .i64 m.most, .int .i64 m.run, .int .i64 m.total] rfl rfl (by decide) (by simp [Value.oneCell']) ?_; intro w11 hz11 hw11))
    rw [lay_all _ _ (by rfl)] at hz11
    have hs11 : St (· = w.heap.size + 2) _ w11 := st_wr hw11
    have hn2 : ∀ j, X2 j → ¬ j = w.heap.size + 2 := fun j hj => (HXE.out j hj).2.2
    refine bodyPost_ret (results_ctt rfl rfl (rowR.load hz11 0 (cs := [.slice A2 n2 c2, .slice B2 k2 d2, .slice C2 r2 e2, .int .i64 m.most, .int .i64 m.run, .int .i64 m.total]) rfl rfl)) rfl ⟨⟨A2, n2, c2, B2, k2, d2, C2, r2, e2⟩, ?_, ?_, ?_⟩
    · rw [HR2.out]; rfl
    · rw [HR2.out]
      exact ⟨(H10.out.1.st hs11 hn2).mono fun j hj => (HXE.out j hj).1, (H10.out.2.1.st hs11 hn2).mono fun j hj => (HXE.out j hj).1, (H10.out.2.2.1.st hs11 hn2).mono fun j hj => (HXE.out j hj).1⟩
    · exact H10.out.2.2.2.trans (hs11.below H10.out.2.2.2.size fun j e => by omega)
  · have HR2 : Hid (m.forgetR k = (m, 0, false)) := Lib.hid (by unfold Pm.forgetR; rw [lacks_ix hl])
    rw [ixI_lacks hl] at HF
    generalize m.forgetR k = R at *
    clear h h' hb1 z1 z2 z3 hX ok hl
    go_enter Try.func38, Try.ntmps38
    go_wp2_with fail
    rw [← hW]
    clear hW
    refine HF.out.mono ?_
    rintro e w2 ⟨rfl, hb2⟩
    have zp := HA.out.2.1.below hb2
    have zr := HA.out.2.2.2.1.below hb2
    replace hc0 := zp.cell 0 rfl
    replace hlt := zp.lt
    have HBc := Lib.hid hb2
    clear hb2
    go_wp2_with (first
      | (with_reducible refine at_load 30 (.tmp 2) (by rfl) ?_; refine wpList_load_bk rowR rfl (.tmp 2) rfl w.heap.size 0 rfl zp ([.slice v.A v.n v.c, .slice v.B v.k v.d, .slice v.C v.r v.e, .int .i64 m.most, .int .i64 m.run, .int .i64 m.total]) rfl rfl ?_)
      | (with_reducible refine at_store 30 (.tmp 4) (.tmp 15) (by rfl) ?_; refine wpList_store_bk rowR rfl (.tmp 4) (.tmp 15) rfl (w.heap.size + 2) 0 rfl zr ([.slice v.A v.n v.c, .slice v.B v.k v.d, .slice v.C v.r v.e, .int .i64 m.most, .int .i64 m.run, .int .i64 m.total]) rfl rfl (by decide) (by simp [Value.oneCell']) ?_; intro w5 hz6 hw5))
    rw [lay_all _ _ (by rfl)] at hz6
    have hbX := HA.out.1.trans (HBc.out.mono HA.out.1.size)
    have hbF : Below w.heap.size w _ := hbX.trans (hw5.below (by omega) hbX.size)
    refine bodyPost_ret (results_ctt rfl rfl (rowR.load hz6 0 (cs := [.slice v.A v.n v.c, .slice v.B v.k v.d, .slice v.C v.r v.e, .int .i64 m.most, .int .i64 m.run, .int .i64 m.total]) rfl rfl)) rfl ⟨v, ?_, ?_, hbF⟩
    · rw [HR2.out]; rfl
    · rw [HR2.out]; exact HH.out.below hbF
end
end Go.Proofs.Ytdldocbfnjbhmaa
