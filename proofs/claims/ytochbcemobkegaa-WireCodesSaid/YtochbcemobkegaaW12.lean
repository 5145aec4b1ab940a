/- Decode, by the program: what is read. -/
import Derived.Test.YtochbcemobkegaaW11
import Derived.Outline
set_option linter.unusedSimpArgs false
set_option linter.unusedVariables false
namespace Go.Proofs.Ytochbcemobkegaa
open Go.RowKit Go.Shelf

def decH (hs : List Int) : Hd := ⟨gN hs 3 1, gN hs 4 1, gN hs 5 1, gN hs 6 1, gN hs 7 1, gN hs 8 4, gN hs 12 8, gN hs 20 8⟩
def magic (hs : List Int) : Prop := (strOfNums (hs.take 3)).toList = [78, 90, 1]
instance (hs : List Int) : Decidable (magic hs) := by unfold magic; infer_instance
/-- What Decode says of bytes: the header's, and the payload's. -/
def decE (hs pl : List Int) : Int :=
  if magic hs ∧ gN hs 28 2 = pl.length then (if num ((hs.drop 32).take 4) = onV 1 (hs.take 32 ++ pl) then (if gN hs 30 2 = 0 ∧ chkB (decH hs) pl.length = true then 0 else 30) else 31) else 30
def decP (hs pl : List Int) : Hd := if decE hs pl = 0 then decH hs else ⟨0, 0, 0, 0, 0, 0, 0, 0⟩
def decX (hs pl : List Int) : List Int := if decE hs pl = 0 then pl else []
theorem dec_err {hs pl : List Int} {k : Int} (h : decE hs pl = k) (hk : k ≠ 0) : decP hs pl = ⟨0, 0, 0, 0, 0, 0, 0, 0⟩ ∧ decX hs pl = [] := by
  subst h
  exact ⟨if_neg hk, if_neg hk⟩
theorem dec_ok {hs pl : List Int} (h : decE hs pl = 0) : decP hs pl = decH hs ∧ decX hs pl = pl := ⟨if_pos h, if_pos h⟩
theorem gN_bd (hs : List Int) (o k : Nat) : gN hs o k ≤ 9223372036854775807 := by
  unfold gN
  unfold wrap64
  omega
theorem gN_drop (hs : List Int) (j o k : Nat) : gN (hs.drop j) o k = gN hs (j + o) k := by simp [gN]
set_option maxHeartbeats 1000000 in
theorem decode_short (A : Option Addr) (n c : Nat) (w : World) (hn : n < 36) :
    Calls Try.prog 10 #[.slice A n c] w fun e w' => e = .returned (.tuple #[.agg #[.int .i64 0, .int .i64 0, .int .i64 0, .int .i64 0, .int .i64 0, .int .i64 0, .int .i64 0, .int .i64 0, .slice none 0 0], .int .i64 6]) ∧ Below w.heap.size w w' := by
  go_enter Try.func10, Try.ntmps10
  go_wp2
  refine bodyPost_ret (v := .tuple #[.agg #[.int .i64 0, .int .i64 0, .int .i64 0, .int .i64 0, .int .i64 0, .int .i64 0, .int .i64 0, .int .i64 0, .slice none 0 0], .int .i64 6]) (by simp [results, Try.results10, go_sem, *]) rfl ⟨rfl, ?_⟩
  exact (Below.refl _ _).alloc (Nat.le_refl _) _
set_option maxRecDepth 100000 in
set_option maxHeartbeats 4000000 in
theorem decode_any (A : Option Addr) (n c : Nat) (bs hs pl : List Int) (w : World) (h : Rd .u8 w A n c bs) (hn : 36 ≤ n) (hn2 : n ≤ 60000) (ehs : hs = bs.take 36) (epl : pl = bs.drop 36) :
    Calls Try.prog 10 #[.slice A n c] w fun e w' => ∃ A' n' c', e = .returned (.tuple #[.agg #[.int .i64 ((decP hs pl).kd), .int .i64 ((decP hs pl).fl), .int .i64 ((decP hs pl).pa), .int .i64 ((decP hs pl).sr), .int .i64 ((decP hs pl).ds), .int .i64 ((decP hs pl).cn), .int .i64 ((decP hs pl).sq), .int .i64 ((decP hs pl).pu), .slice A' n' c'], .int .i64 (decE hs pl)]) ∧ Ow .u8 5 w.heap.size w' (.slice A' n' c') (decX hs pl) ∧ Below w.heap.size w w' := by
  have hA := h.blk
  have hnc := h.2.1
  have hcm := h.2.2.1
  unfold maxLen at hcm
  have kcut : ∀ w, (Instr.slice 23 (.slice A n c) (some (.int .i64 36)) none none).run Try.prog w = .ok (.slice (cutA A c 36) (n - 36) (c - 36)) w := fun w => bytesT.run_cut A n c 36 hn hnc w
  have hlp : pl.length = n - 36 := by rw [epl]; simp; have := h.1; omega
  have hpl : Rd .u8 w (cutA A c 36) (n - 36) (c - 36) pl := by rw [epl]; exact h.cut hn
  have HLP := Lib.hid hlp
  have HPL := Lib.hid hpl
  have HFB := Lib.hid (gN_bd hs 4 1)
  clear hlp hpl epl
  have hls : hs.length = 36 := by rw [ehs]; simp; have := h.1; omega
  have HS := Lib.hid ehs
  have hls0 : 36 ≤ hs.length := by omega
  have HLS := Lib.hid hls
  have hb0 := (Below.refl w.heap.size w).alloc (Nat.le_refl _) (.cells ([.int .i64 0, .int .i64 0, .int .i64 0, .int .i64 0, .int .i64 0, .int .i64 0, .int .i64 0, .int .i64 0, .slice none 0 0]).toArray 25)
  have hre := Bk.new w 25 [.int .i64 0, .int .i64 0, .int .i64 0, .int .i64 0, .int .i64 0, .int .i64 0, .int .i64 0, .int .i64 0, .slice none 0 0]
  have hr36 : Rd .u8 (w.alloc (.cells ([.int .i64 0, .int .i64 0, .int .i64 0, .int .i64 0, .int .i64 0, .int .i64 0, .int .i64 0, .int .i64 0, .slice none 0 0]).toArray 25)) A 36 c hs := by rw [ehs]; exact (h.pre hn).alloc _
  have hbs := h.alloc (.cells ([.int .i64 0, .int .i64 0, .int .i64 0, .int .i64 0, .int .i64 0, .int .i64 0, .int .i64 0, .int .i64 0, .slice none 0 0]).toArray 25)
  clear h ehs hls
  go_enter Try.func10, Try.ntmps10
  go_wp2_with fail
  refine (new_any A 36 c hs _ (by exact hr36) (by omega)).mono ?_
  rintro e w1 ⟨g, rfl, hgs, hG, hb1⟩
  simp only [World.size_alloc] at hgs
  have hbs := hbs.below hb1
  have hre := hre.below hb1
  have hb := hb0.trans (hb1.mono (by simp))
  have hgl := hG.lt
  clear hb0 hb1 hr36
  go_wp2_with fail
  have hi := Bk.new w1 56 [.pointer (some ⟨g, 0, none⟩)]
  have hbs := hbs.alloc (.cells #[.pointer (some ⟨g, 0, none⟩)] 56)
  have hre := hre.alloc (.cells #[.pointer (some ⟨g, 0, none⟩)] 56)
  have hG := hG.below ((Below.refl _ w1).alloc (Nat.le_refl _) (.cells #[.pointer (some ⟨g, 0, none⟩)] 56))
  have hb := hb.alloc hb.size (.cells #[.pointer (some ⟨g, 0, none⟩)] 56)
  refine (take_yes g hs 3 _ (by exact hG) (by omega)).mono ?_
  rintro e w2 ⟨v, rfl, hown, hG2, hw2⟩
  have HX : Hid (∀ x ∈ hs.take 3, (Lit.int .u8 x).wf = true) := Lib.hid (fun x hx => hbs.2.2.2.2.1 x (by rw [HS.out] at hx; exact List.mem_of_mem_take (List.mem_of_mem_take hx)))
  obtain ⟨V, d, rfl, hV⟩ := hown.rd HX.out
  have hV2 := conv_any hV
  have hi := hi.wr hw2 (by omega)
  have hre := hre.wr hw2 (by omega)
  have hbs := hbs.wr' (fun hm ad he => by have := hA hm ad he; omega) hw2
  have hb := hb.trans (hw2.below (B := w.heap.size) (by omega) (by have := hb.size; omega))
  have hgl2 : g < w2.heap.size := hG2.lt
  clear hown hw2 hG hV
  generalize (hs.take 3).length = l3 at *
  have ci := hi.cell 0 rfl
  go_wp2_with fail
  refine (packet_in g (hs.drop 3) _ (by exact hG2) (by simp; omega)).mono ?_
  rintro e w3 ⟨rfl, hG, hw3⟩
  rw [List.drop_drop] at hG
  simp only [Nat.reduceAdd] at hG
  simp only [gN_drop, Nat.reduceAdd]
  have hi := hi.wr hw3 (by omega)
  have hre := hre.wr hw3 (by omega)
  have hbs := hbs.wr' (fun hm ad he => by have := hA hm ad he; omega) hw3
  have hb := hb.trans (hw3.below (B := w.heap.size) (by omega) (by have := hb.size; omega))
  have hgl3 : g < w3.heap.size := hG.lt
  clear hw3 hG2 ci hV2
  generalize ekd : gN hs 3 1 = kd at *
  generalize efl : gN hs 4 1 = fl at *
  generalize epa : gN hs 5 1 = pa at *
  generalize esr : gN hs 6 1 = sr at *
  generalize eds : gN hs 7 1 = ds at *
  generalize ecn : gN hs 8 4 = cn at *
  generalize esq : gN hs 12 8 = sq at *
  generalize epu : gN hs 20 8 = pu at *
  have HH := Lib.hid (show decH hs = ⟨kd, fl, pa, sr, ds, cn, sq, pu⟩ by unfold decH; rw [ekd, efl, epa, esr, eds, ecn, esq, epu])
  clear ekd efl epa esr eds ecn esq epu
  go_wp2_with fail
  have hp := Bk.new w3 25 [.int .i64 kd, .int .i64 fl, .int .i64 pa, .int .i64 sr, .int .i64 ds, .int .i64 cn, .int .i64 sq, .int .i64 pu, .slice none 0 0]
  have hb3 := (Below.refl _ w3).alloc (Nat.le_refl _) (.cells #[.int .i64 kd, .int .i64 fl, .int .i64 pa, .int .i64 sr, .int .i64 ds, .int .i64 cn, .int .i64 sq, .int .i64 pu, .slice none 0 0] 25)
  have hi := hi.below hb3
  have hre := hre.below hb3
  have hbs := hbs.below hb3
  have hG := hG.below hb3
  have hb := below_on hb hb3
  clear hb3
  refine wp_region_E (Wr g) (by kernel_rfl) (fun wd hbd hsz => ?_)
  have hid := hi.below hbd
  have hGd := hG.below hbd
  have kc := fun W (hW : Wr g wd W) => (hid.wr hW (by omega)).cell 0 rfl
  (refine takeE (wrTr g) 0 (by simp only [List.getElem?_toArray, List.getElem?_cons_succ, List.getElem?_cons_zero]; rfl) (by kernel_rfl) (by kernel_rfl) (by kernel_rfl) (by exact fun _ _ _ h => h) (by first | (refine Or.inl ⟨by rfl, ?_⟩; intro W hW; go_simp; try with_reducible rfl) | exact Or.inr ⟨by rfl, rfl⟩) ?_; try simp only [Act.put, List.setIfInBounds_toArray, List.set_cons_zero, List.set_cons_succ])
  (refine takeE (wrTr g) 2 (by simp only [List.getElem?_toArray, List.getElem?_cons_succ, List.getElem?_cons_zero]; rfl) (by kernel_rfl) (by kernel_rfl) (by kernel_rfl) (by exact fun _ _ _ h => h) (by first | (refine Or.inl ⟨by rfl, ?_⟩; intro W hW; go_simp; try with_reducible rfl) | exact Or.inr ⟨by rfl, rfl⟩) ?_; try simp only [Act.put, List.setIfInBounds_toArray, List.set_cons_zero, List.set_cons_succ])
  (refine takeE (wrTr g) 4 (by simp only [List.getElem?_toArray, List.getElem?_cons_succ, List.getElem?_cons_zero]; rfl) (by kernel_rfl) (by kernel_rfl) (by kernel_rfl) (by exact fun _ _ _ h => h) (by first | (refine Or.inl ⟨by rfl, ?_⟩; intro W hW; go_simp; try with_reducible rfl) | exact Or.inr ⟨by rfl, rfl⟩) ?_; try simp only [Act.put, List.setIfInBounds_toArray, List.set_cons_zero, List.set_cons_succ])
  (refine takeE (wrTr g) 5 (by simp only [List.getElem?_toArray, List.getElem?_cons_succ, List.getElem?_cons_zero]; rfl) (by kernel_rfl) (by kernel_rfl) (by kernel_rfl) (by exact fun _ _ _ h => h) (by first | (refine Or.inl ⟨by rfl, ?_⟩; intro W hW; go_simp; try with_reducible rfl) | exact Or.inr ⟨by rfl, rfl⟩) ?_; try simp only [Act.put, List.setIfInBounds_toArray, List.set_cons_zero, List.set_cons_succ])
  refine wpAnyE_one (i := 1) (by kernel_rfl) (by simp only [List.getElem?_toArray, List.getElem?_cons_succ, List.getElem?_cons_zero]; rfl) (fun K hK => ?_)
  go_simp
  refine (next_in g (hs.drop 28) 2 _ (by exact hGd) (by omega) (by omega) (by simp; omega)).mono ?_
  rintro e w5 ⟨rfl, hG5, hw5⟩
  rw [List.drop_drop] at hG5
  simp only [Nat.reduceAdd] at hG5
  have kc5 := fun W (hW : Wr g w5 W) => ((hid.wr hw5 (by omega)).wr hW (by omega)).cell 0 rfl
  go_simp
  refine hK.out _ _ hw5 ?_
  clear hK K
  try simp only [Act.put, List.setIfInBounds_toArray, List.set_cons_zero, List.set_cons_succ]
  refine wpAnyE_one (i := 3) (by kernel_rfl) (by simp only [List.getElem?_toArray, List.getElem?_cons_succ, List.getElem?_cons_zero]; rfl) (fun K hK => ?_)
  go_simp
  refine (next_in g (hs.drop 30) 2 _ (by exact hG5) (by omega) (by omega) (by simp; omega)).mono ?_
  rintro e w6 ⟨rfl, hG6, hw6⟩
  rw [List.drop_drop] at hG6
  simp only [Nat.reduceAdd] at hG6
  go_simp
  refine hK.out _ _ hw6 ?_
  clear hK K
  try simp only [Act.put, List.setIfInBounds_toArray, List.set_cons_zero, List.set_cons_succ]
  refine wpAnyE_one (i := 6) (by kernel_rfl) (by simp only [List.getElem?_toArray, List.getElem?_cons_succ, List.getElem?_cons_zero]; rfl) (fun K hK => ?_)
  go_simp
  refine (num_yes g (hs.drop 32) 4 _ (by exact hG6) (by decide) (by simp; omega)).mono ?_
  rintro e w7 ⟨rfl, hG7, hw7⟩
  go_simp
  refine hK.out _ _ hw7 ?_
  clear hK K
  try simp only [Act.put, List.setIfInBounds_toArray, List.set_cons_zero, List.set_cons_succ]
  (refine takeE (wrTr g) 7 (by simp only [List.getElem?_toArray, List.getElem?_cons_succ, List.getElem?_cons_zero]; rfl) (by kernel_rfl) (by kernel_rfl) (by kernel_rfl) (by exact fun _ _ _ h => h) (by first | (refine Or.inl ⟨by rfl, ?_⟩; intro W hW; go_simp; try with_reducible rfl) | exact Or.inr ⟨by rfl, rfl⟩) ?_; try simp only [Act.put, List.setIfInBounds_toArray, List.set_cons_zero, List.set_cons_succ])
  (refine takeE (wrTr g) 8 (by simp only [List.getElem?_toArray, List.getElem?_cons_succ, List.getElem?_cons_zero]; rfl) (by kernel_rfl) (by kernel_rfl) (by kernel_rfl) (by exact fun _ _ _ h => h) (by first | (refine Or.inl ⟨by rfl, ?_⟩; intro W hW; go_simp; try with_reducible rfl) | exact Or.inr ⟨by rfl, rfl⟩) ?_; try simp only [Act.put, List.setIfInBounds_toArray, List.set_cons_zero, List.set_cons_succ])
  (refine takeE (wrTr g) 9 (by simp only [List.getElem?_toArray, List.getElem?_cons_succ, List.getElem?_cons_zero]; rfl) (by kernel_rfl) (by kernel_rfl) (by kernel_rfl) (by exact fun _ _ _ h => h) (by first | (refine Or.inl ⟨by rfl, ?_⟩; intro W hW; go_simp; try with_reducible rfl) | exact Or.inr ⟨by rfl, rfl⟩) ?_; try simp only [Act.put, List.setIfInBounds_toArray, List.set_cons_zero, List.set_cons_succ])
  refine wpAnyE_done (by kernel_rfl) ?_ _
  have hwx := (((Wr.of_below (g := g) hbd).trans hw5 hbd.size).trans hw6 (by have := hbd.size; have := hw5.size; omega)).trans hw7 (by have := hbd.size; have := hw5.size; have := hw6.size; omega)
  have hre := hre.wr hwx (by omega)
  have hp := hp.wr hwx (by omega)
  have hbs := hbs.wr' (fun hm ad he => by have := hA hm ad he; omega) hwx
  have hb := hb.trans (hwx.below (B := w.heap.size) (by omega) hb.size)
  clear hwx hw5 hw6 hw7 hbd hsz kc kc5 hid hGd hG5 hG6 hG7 hi hG
  obtain ⟨st, est⟩ : ∃ v, v = gN hs 28 2 := ⟨_, rfl⟩
  obtain ⟨ze, eze⟩ : ∃ v, v = gN hs 30 2 := ⟨_, rfl⟩
  have e1 : wrap64 (num ((hs.drop 28).take 2)) = st := by rw [est]; rfl
  have e2 : wrap64 (num ((hs.drop 30).take 2)) = ze := by rw [eze]; rfl
  rw [e1, e2]
  have Hst := Lib.hid est
  have Hze := Lib.hid eze
  clear est eze e1 e2
  generalize esm : num ((hs.drop 32).take 4) = sm at *
  have Hsm := Lib.hid esm
  clear esm
  have h32 : Rd .u8 w7 A 32 c (hs.take 32) := by rw [HS.out, List.take_take]; exact hbs.pre (by omega)
  have hpl7 := HPL.out.below hb
  have hre9 := hre.cells9
  have hrf := fun i => hre.free i
  by_cases hm : (strOfNums (hs.take 3)).toList = [78, 90, 1]
  · have hm' : ((strOfNums (hs.take 3)).toList != [78, 90, 1]) = false := by rw [hm]; rfl
    by_cases hst : st = ((n - 36 : Nat) : Int)
    · have hst' : (st != ((n - 36 : Nat) : Int)) = false := by rw [hst]; simp
      have Hst2 := Lib.hid hst
      have Hm := Lib.hid hm
      clear hst
      go_wp2_with fail
      refine (adler_any _ 2 2 _ _ (by exact Pts.two h32 hpl7 rfl (by omega) (by omega))).mono ?_
      rintro e w8 ⟨rfl, hb8⟩
      rw [cat_two]
      have hre := (hre.alloc _).below hb8
      have hp := (hp.alloc _).below hb8
      have hpl8 := (hpl7.alloc _).below hb8
      have hb := (hb.alloc hb.size _).trans (hb8.mono (by have := hb.size; simp; omega))
      obtain ⟨ha0, ha1⟩ := onV_bd 1 (hs.take 32 ++ pl)
      clear hb8 hbs hre9 hrf hpl7 h32
      generalize eam : onV 1 (hs.take 32 ++ pl) = am at *
      have Ham := Lib.hid eam
      clear eam
      have hre9 := hre.cells9
      have hrf := fun i => hre.free i
      have hp9 := hp.cells9
      have hpf := fun i => hp.free i
      by_cases hsm : sm = am
      · have hsm' : (sm != am) = false := by rw [hsm]; simp
        have Hsm2 := Lib.hid hsm
        clear hsm
        have HFB2 : Hid (fl ≤ 9223372036854775807) := Lib.hid (by have h := HFB.out; have h2 := congrArg Hd.fl HH.out; unfold decH at h2; dsimp only at h2; omega)
        by_cases hz : ze = 0
        · have hz' : (ze != 0) = false := by rw [hz]; rfl
          have Hz := Lib.hid hz
          clear hz
          cases hc : chkB ⟨kd, fl, pa, sr, ds, cn, sq, pu⟩ ((n - 36 : Nat) : Int)
          · have HC := Lib.hid hc
            clear hc
            have HE : Hid (decE hs pl = 30) := Lib.hid (by unfold decE; rw [if_pos ⟨Hm.out, by rw [← Hst.out, Hst2.out, HLP.out]⟩, if_pos (by rw [Ham.out, Hsm.out]; exact Hsm2.out), if_neg (by rw [HH.out, HLP.out, HC.out]; simp)])
            obtain ⟨hP, hX⟩ := dec_err HE.out (by decide)
            have HP := Lib.hid hP
            have HX2 := Lib.hid hX
            clear hP hX
            go_wp2_with (at_builtin
                         refine wpList_append_ints bytesT rfl (.tmp 53) (.tmp 54) rfl rfl (w0 := w8) (Ow.nil _ _ _ _) rfl (by exact hpl8) (by simp; omega) (by omega) (Below.refl _ _) ?_
                         intro v9 w9 hown9 hb9
                         rw [List.nil_append] at hown9
                         obtain ⟨A9, c9, rfl⟩ := own_slice hown9
                         rw [HLP.out] at hown9 ⊢
                         have hp2 := hp.below hb9
                         have hre2 := hre.below hb9
                         have hb2 := below_on hb hb9
                         have hlt8 := hp.lt
                         clear hre9 hrf hp9 hpf hpl8 hb9
                         have hp9 := hp2.cells9
                         have hpf := fun i => hp2.free i
                         have hre9 := hre2.cells9
                         have hrf := fun i => hre2.free i)
            refine (check_any _ _ _ _ _ _ _ _ _ _ _ _ HFB2.out).mono ?_
            rintro e w10 ⟨rfl, hb10⟩
            rw [HC.out]
            have hp3 := (hp2.set 8 (.slice A9 (n - 36) c9)).below hb10
            simp only [List.set_cons_zero, List.set_cons_succ] at hp3
            have hre3 := (hre2.far (p := ⟨w3.heap.size, 8, none⟩) (by simp; omega) (.slice A9 (n - 36) c9)).below hb10
            have hb3 := (hb2.setCell (p := ⟨w3.heap.size, 8, none⟩) (by have := hb.size; have := hre.lt; show _ ≤ w3.heap.size; omega) (.slice A9 (n - 36) c9)).trans (hb10.mono (by have := hb2.size; simp [World.setCell]; omega))
            have hown3 := (own_set (p := ⟨w3.heap.size, 8, none⟩) (u := .slice A9 (n - 36) c9) hown9 (by simp; omega)).keep hb10 (Nat.le_refl _)
            have HO3 := Lib.hid hown3
            clear hre9 hrf hp9 hpf hown9 hb10 hown3
            unfold errV
            have hp9 := hp3.cells9
            have hre9 := hre3.cells9
            have hrf := fun i => hre3.free i
            go_wp2_with fail
            refine bodyPost_ret (v := .tuple #[.agg #[.int .i64 0, .int .i64 0, .int .i64 0, .int .i64 0, .int .i64 0, .int .i64 0, .int .i64 0, .int .i64 0, .slice none 0 0], .int .i64 30]) (by simp [results, Try.results10, go_sem, *]) rfl ⟨none, 0, 0, by rw [HP.out, HE.out], by rw [HX2.out]; exact Ow.nil _ _ _ _, ?_⟩
            clear hp2 hre2 hp3 hre3 hp9 hre9 hrf
            repeat (first | with_reducible refine Below.setCell ?_ (by simp) _ | with_reducible exact hb3)
          · have HC := Lib.hid hc
            clear hc
            have HE : Hid (decE hs pl = 0) := Lib.hid (by unfold decE; rw [if_pos ⟨Hm.out, by rw [← Hst.out, Hst2.out, HLP.out]⟩, if_pos (by rw [Ham.out, Hsm.out]; exact Hsm2.out), if_pos ⟨by rw [← Hze.out]; exact Hz.out, by rw [HH.out, HLP.out, HC.out]⟩])
            obtain ⟨hP, hX⟩ := dec_ok HE.out
            rw [HH.out] at hP
            have HP := Lib.hid hP
            have HX2 := Lib.hid hX
            clear hP hX
            go_wp2_with (at_builtin
                         refine wpList_append_ints bytesT rfl (.tmp 53) (.tmp 54) rfl rfl (w0 := w8) (Ow.nil _ _ _ _) rfl (by exact hpl8) (by simp; omega) (by omega) (Below.refl _ _) ?_
                         intro v9 w9 hown9 hb9
                         rw [List.nil_append] at hown9
                         obtain ⟨A9, c9, rfl⟩ := own_slice hown9
                         rw [HLP.out] at hown9 ⊢
                         have hp2 := hp.below hb9
                         have hre2 := hre.below hb9
                         have hb2 := below_on hb hb9
                         have hlt8 := hp.lt
                         clear hre9 hrf hp9 hpf hpl8 hb9
                         have hp9 := hp2.cells9
                         have hpf := fun i => hp2.free i
                         have hre9 := hre2.cells9
                         have hrf := fun i => hre2.free i)
            refine (check_any _ _ _ _ _ _ _ _ _ _ _ _ HFB2.out).mono ?_
            rintro e w10 ⟨rfl, hb10⟩
            rw [HC.out]
            have hp3 := (hp2.set 8 (.slice A9 (n - 36) c9)).below hb10
            simp only [List.set_cons_zero, List.set_cons_succ] at hp3
            have hre3 := (hre2.far (p := ⟨w3.heap.size, 8, none⟩) (by simp; omega) (.slice A9 (n - 36) c9)).below hb10
            have hb3 := (hb2.setCell (p := ⟨w3.heap.size, 8, none⟩) (by have := hb.size; have := hre.lt; show _ ≤ w3.heap.size; omega) (.slice A9 (n - 36) c9)).trans (hb10.mono (by have := hb2.size; simp [World.setCell]; omega))
            have hown3 := (own_set (p := ⟨w3.heap.size, 8, none⟩) (u := .slice A9 (n - 36) c9) hown9 (by simp; omega)).keep hb10 (Nat.le_refl _)
            have HO3 := Lib.hid hown3
            clear hre9 hrf hp9 hpf hown9 hb10 hown3
            unfold errV
            have hp9 := hp3.cells9
            have hre9 := hre3.cells9
            have hrf := fun i => hre3.free i
            go_wp2_with fail
            refine bodyPost_ret (v := .tuple #[.agg #[.int .i64 kd, .int .i64 fl, .int .i64 pa, .int .i64 sr, .int .i64 ds, .int .i64 cn, .int .i64 sq, .int .i64 pu, .slice A9 (n - 36) c9], .int .i64 0]) (by simp [results, Try.results10, go_sem, *]) rfl ⟨A9, n - 36, c9, by rw [HP.out, HE.out], ?_, ?_⟩
            · rw [HX2.out]
              have hown := HO3.out.mono (B := w.heap.size + 1) (by have := hb.size; have := hre.lt; omega)
              refine Ow.mono (base := w.heap.size + 1) ?_ (by omega)
              clear hp2 hre2 hp3 hre3 hp9 hre9 hrf
              repeat (first | with_reducible refine own_set ?_ (by simp) | with_reducible exact hown)
            · clear hp2 hre2 hp3 hre3 hp9 hre9 hrf
              repeat (first | with_reducible refine Below.setCell ?_ (by simp) _ | with_reducible exact hb3)
        · have hz' : (ze != 0) = true := by simpa using hz
          have HE : Hid (decE hs pl = 30) := Lib.hid (by unfold decE; rw [if_pos ⟨Hm.out, by rw [← Hst.out, Hst2.out, HLP.out]⟩, if_pos (by rw [Ham.out, Hsm.out]; exact Hsm2.out), if_neg (fun h => hz (by rw [Hze.out]; exact h.1))])
          obtain ⟨hP, hX⟩ := dec_err HE.out (by decide)
          have HP := Lib.hid hP
          have HX2 := Lib.hid hX
          clear hP hX
          go_wp2_with (at_builtin
                       refine wpList_append_ints bytesT rfl (.tmp 53) (.tmp 54) rfl rfl (w0 := w8) (Ow.nil _ _ _ _) rfl (by exact hpl8) (by simp; omega) (by omega) (Below.refl _ _) ?_
                       intro v9 w9 hown9 hb9
                       rw [List.nil_append] at hown9
                       obtain ⟨A9, c9, rfl⟩ := own_slice hown9
                       rw [HLP.out] at hown9 ⊢
                       have hp2 := hp.below hb9
                       have hre2 := hre.below hb9
                       have hb2 := below_on hb hb9
                       have hlt8 := hp.lt
                       clear hre9 hrf hp9 hpf hpl8 hb9
                       have hp9 := hp2.cells9
                       have hpf := fun i => hp2.free i
                       have hre9 := hre2.cells9
                       have hrf := fun i => hre2.free i)
          refine bodyPost_ret (v := .tuple #[.agg #[.int .i64 0, .int .i64 0, .int .i64 0, .int .i64 0, .int .i64 0, .int .i64 0, .int .i64 0, .int .i64 0, .slice none 0 0], .int .i64 30]) (by simp [results, Try.results10, go_sem, *]) rfl ⟨none, 0, 0, by rw [HP.out, HE.out], by rw [HX2.out]; exact Ow.nil _ _ _ _, ?_⟩
          clear hp2 hre2 hp9 hre9 hrf
          repeat (first | with_reducible refine Below.setCell ?_ (by simp; try omega) _ | with_reducible exact hb2)
      · have hsm' : (sm != am) = true := by simpa using hsm
        have HE : Hid (decE hs pl = 31) := Lib.hid (by unfold decE; rw [if_pos ⟨Hm.out, by rw [← Hst.out, Hst2.out, HLP.out]⟩, if_neg (by rw [Ham.out, Hsm.out]; exact hsm)])
        obtain ⟨hP, hX⟩ := dec_err HE.out (by decide)
        have HP := Lib.hid hP
        have HX2 := Lib.hid hX
        clear hP hX
        go_wp2_with fail
        refine bodyPost_ret (v := .tuple #[.agg #[.int .i64 0, .int .i64 0, .int .i64 0, .int .i64 0, .int .i64 0, .int .i64 0, .int .i64 0, .int .i64 0, .slice none 0 0], .int .i64 31]) (by simp [results, Try.results10, go_sem, *]) rfl ⟨none, 0, 0, by rw [HP.out, HE.out], by rw [HX2.out]; exact Ow.nil _ _ _ _, ?_⟩
        clear hre hre9 hrf hp hp9 hpf
        repeat (first | with_reducible refine Below.setCell ?_ (by simp) _ | with_reducible exact hb)
    · have hst' : (st != ((n - 36 : Nat) : Int)) = true := by simpa using hst
      have HE : Hid (decE hs pl = 30) := Lib.hid (by unfold decE; rw [if_neg (fun h => hst (by rw [Hst.out, h.2, HLP.out]))])
      obtain ⟨hP, hX⟩ := dec_err HE.out (by decide)
      have HP := Lib.hid hP
      have HX2 := Lib.hid hX
      clear hP hX
      go_wp2_with fail
      refine bodyPost_ret (v := .tuple #[.agg #[.int .i64 0, .int .i64 0, .int .i64 0, .int .i64 0, .int .i64 0, .int .i64 0, .int .i64 0, .int .i64 0, .slice none 0 0], .int .i64 30]) (by simp [results, Try.results10, go_sem, *]) rfl ⟨none, 0, 0, by rw [HP.out, HE.out], by rw [HX2.out]; exact Ow.nil _ _ _ _, ?_⟩
      clear hre hre9 hrf hp hbs
      repeat (first | with_reducible refine Below.setCell ?_ (by simp) _ | with_reducible exact hb)
  · have HE : Hid (decE hs pl = 30) := Lib.hid (by unfold decE; rw [if_neg (fun h => hm h.1)])
    have hm' : ((strOfNums (hs.take 3)).toList != [78, 90, 1]) = true := by simpa using hm
    obtain ⟨hP, hX⟩ := dec_err HE.out (by decide)
    have HP := Lib.hid hP
    have HX2 := Lib.hid hX
    clear hP hX
    go_wp2_with fail
    refine bodyPost_ret (v := .tuple #[.agg #[.int .i64 0, .int .i64 0, .int .i64 0, .int .i64 0, .int .i64 0, .int .i64 0, .int .i64 0, .int .i64 0, .slice none 0 0], .int .i64 30]) (by simp [results, Try.results10, go_sem, *]) rfl ⟨none, 0, 0, by rw [HP.out, HE.out], by rw [HX2.out]; exact Ow.nil _ _ _ _, ?_⟩
    clear hre hre9 hrf hp hbs
    repeat (first | with_reducible refine Below.setCell ?_ (by simp) _ | with_reducible exact hb)
end Go.Proofs.Ytochbcemobkegaa
