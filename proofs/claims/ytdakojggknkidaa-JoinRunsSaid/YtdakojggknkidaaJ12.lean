/- All parts: the messages, as far as they go. -/
import Derived.Test.YtdakojggknkidaaJ4
import Derived.Test.YtdakojggknkidaaOpenV
set_option linter.unusedSimpArgs false
set_option linter.unusedVariables false
namespace Go.Proofs.Ytdakojggknkidaa
open Go.RowKit Go.Shelf
/-! ### What all parts make -/
def Jm.outs (m : Jm) (out : List (List Int)) (x : List Int) (e : Bool) : List (List Int) := if m.is x e = true then out ++ [m.told x e] else out
def allR (es : List Bool) : Nat → Jm → List (List Int) → List (List Int) → List (List Int) × Nat × Int
  | i, _, out, [] => (out, i, 0)
  | i, m, out, x :: r => if m.refuse x = 0 then allR es (i + 1) (m.add x (es.getD i false)) (m.outs out x (es.getD i false)) r else (out, i, m.refuse x)
theorem allR_nil (es : List Bool) (i : Nat) (m : Jm) (out : List (List Int)) : allR es i m out [] = (out, i, 0) := rfl
theorem allR_on (es : List Bool) (i : Nat) (m : Jm) (out : List (List Int)) (x : List Int) (r : List (List Int)) (h : m.refuse x = 0) : allR es i m out (x :: r) = allR es (i + 1) (m.add x (es.getD i false)) (m.outs out x (es.getD i false)) r := by
  rw [allR, if_pos h]
theorem allR_no (es : List Bool) (i : Nat) (m : Jm) (out : List (List Int)) (x : List Int) (r : List (List Int)) (h : m.refuse x ≠ 0) : allR es i m out (x :: r) = (out, i, m.refuse x) := by
  rw [allR, if_neg h]
theorem Jm.add_fl (m : Jm) (out : List (List Int)) (x : List Int) (e : Bool) (h : m.refuse x = 0) : (m.outs out x e).flatten ++ (m.add x e).fl = out.flatten ++ m.fl ++ x := by
  cases e with
  | true =>
    have h1 : m.is x true = true := by simp [Jm.is, h]
    have h2 : m.add x true = ⟨[], m.N + 1, m.T + (m.op + x.length : Nat)⟩ := by unfold Jm.add; rw [if_pos h, if_pos rfl]
    have h3 : m.told x true = m.fl ++ x := by unfold Jm.told; rw [if_pos h1]
    rw [h2]
    unfold Jm.outs
    rw [if_pos h1, h3]
    simp [Jm.fl]
  | false =>
    have h1 : m.is x false = false := by simp [Jm.is]
    have h2 : m.add x false = m.plus x := by unfold Jm.add; rw [if_pos h, if_neg (by simp)]
    rw [h2, Jm.plus_fl]
    unfold Jm.outs
    rw [if_neg (by rw [h1]; simp), List.append_assoc]
/-- What was told, and what is open, is what was added. -/
theorem allR_pre (es : List Bool) : ∀ (r : List (List Int)) (i : Nat) (m : Jm) (out : List (List Int)), ∃ (j : Nat) (t : List Int), (allR es i m out r).2.1 = i + j ∧ j ≤ r.length ∧ (allR es i m out r).1.flatten ++ t = out.flatten ++ m.fl ++ (r.take j).flatten
  | [], i, m, out => ⟨0, m.fl, rfl, Nat.le_refl _, by simp [allR]⟩
  | x :: r, i, m, out => by
    by_cases h : m.refuse x = 0
    · obtain ⟨j, t, h1, h2, h3⟩ := allR_pre es r (i + 1) (m.add x (es.getD i false)) (m.outs out x (es.getD i false))
      rw [allR_on es i m out x r h]
      refine ⟨j + 1, t, by omega, by simp; omega, ?_⟩
      rw [h3, Jm.add_fl m out x _ h]
      simp
    · rw [allR_no es i m out x r h]
      exact ⟨0, m.fl, rfl, Nat.zero_le _, by simp⟩
theorem Jm.add_N (m : Jm) (x : List Int) (e : Bool) (k : Nat) (h : 0 ≤ m.N ∧ m.N ≤ k) : 0 ≤ (m.add x e).N ∧ (m.add x e).N ≤ ((k + 1 : Nat) : Int) := by
  unfold Jm.add Jm.plus
  split
  · split <;> simp only <;> omega
  · omega
theorem Jm.add_T (m : Jm) (x : List Int) (e : Bool) (k : Nat) (h : 0 ≤ m.T ∧ m.T ≤ k * 65536) : 0 ≤ (m.add x e).T ∧ (m.add x e).T ≤ ((k + 1 : Nat) : Int) * 65536 := by
  unfold Jm.add
  split
  · rename_i hr
    unfold Jm.refuse at hr
    split at hr
    · cases hr
    · split at hr
      · cases hr
      · split
        · simp only; omega
        · simp only [Jm.plus]; omega
  · omega
/-! ### The row of messages -/
def OutR (F : Nat → Prop) (w W : World) (A : Option Addr) (n c : Nat) (ms : List (List Int)) : Prop :=
  ∃ bs : List Bs, Lst 25 (fun k => w.heap.size ≤ k ∧ ¬ F k) W A n c (bs.map Bs.val) ∧ bs.map Bs.xs = ms ∧ ∀ b ∈ bs, BsR W b.A b.n b.c b.xs ∧ ∀ k, BlkOf b.A k → w.heap.size ≤ k ∧ ¬ F k
section
variable {F F' : Nat → Prop} {w W W' W1 w2 : World} {A : Option Addr} {n c : Nat} {ms : List (List Int)} {g : Nat} {m : Jm}
theorem OutR.sl (h : OutR F w W A n c ms) : SlB W A n c ms := by
  obtain ⟨bs, h1, h2, h3⟩ := h
  exact ⟨bs, h1.rdv, h2, fun b hb => (h3 b hb).1.1⟩
theorem OutR.nil (F : Nat → Prop) (w W : World) : OutR F w W none 0 0 [] := ⟨[], Lst.nil _ _ _, rfl, by simp⟩
theorem OutR.add (h : OutR F w W A n c ms) (hs : St F W W') (hg : Gr F F' W.heap.size) : OutR F' w W' A n c ms := by
  obtain ⟨bs, h1, h2, h3⟩ := h
  refine ⟨bs, ?_, h2, fun b hb => ?_⟩
  · refine ((h1.st hs (fun k hk => hk.2)).tight).mono ?_
    rintro k ⟨ad, he, rfl⟩
    have hk := h1.blk ad he
    exact ⟨hk.1.1, hg.not hk.2 hk.1.2⟩
  · obtain ⟨k1, k2⟩ := h3 b hb
    exact ⟨k1.st hs fun k hk => (k2 k hk).2, fun k hk => ⟨(k2 k hk).1, hg.not (k1.lt k hk) (k2 k hk).2⟩⟩
theorem OutR.app {b : Bs} {bs : List Bs} {v : Value} (h1 : Lst 25 (fun k => w.heap.size ≤ k ∧ ¬ F k) W A n c (bs.map Bs.val)) (h2 : bs.map Bs.xs = ms) (h3 : ∀ b ∈ bs, BsR W b.A b.n b.c b.xs ∧ ∀ k, BlkOf b.A k → w.heap.size ≤ k ∧ ¬ F k)
    (hF : ∀ k, F k → k < W.heap.size) (hw : w.heap.size ≤ W.heap.size) (hq : BsR W b.A b.n b.c b.xs) (hqk : ∀ k, BlkOf b.A k → w.heap.size ≤ k ∧ ¬ F k) (hb : Below W.heap.size W W1)
    (hap : Apd 25 (BlkOf A) W1 v (bs.map Bs.val ++ [b.val]) w2) : ∃ A' n' c', v = .slice A' n' c' ∧ OutR F w w2 A' n' c' (ms ++ [b.xs]) ∧ St (BlkOf A) W w2 := by
  obtain ⟨⟨A', n', c', rfl, hl'⟩, hst⟩ := hap
  have hnb : ∀ k, BlkOf A k → ¬ Tyd 5 W1 k := fun k hk => ((h1.below hb).tyd k hk).ne (by decide)
  refine ⟨A', n', c', rfl, ⟨bs ++ [b], ?_, by rw [List.map_append, h2]; rfl, fun q hq' => ?_⟩, (St.ext hb).trans hst (Gr.refl _ _)⟩
  · rw [List.map_append]
    refine hl'.mono ?_
    rintro k (⟨ad, rfl, rfl⟩ | hk)
    · exact (h1.blk _ rfl).1
    · have := hb.size
      exact ⟨by omega, fun hf => by have := hF k hf; omega⟩
  · rcases List.mem_append.1 hq' with h | h
    · obtain ⟨k1, k2⟩ := h3 q h
      exact ⟨BsR.stT (k1.below hb) hst hnb, k2⟩
    · obtain rfl : q = b := by simpa using h
      exact ⟨BsR.stT (hq.below hb) hst hnb, hqk⟩
theorem Lst.sepF {vs : List Value} (h1 : Lst 25 (fun k => w.heap.size ≤ k ∧ ¬ F k) W A n c vs) : Sep F (BlkOf A) := fun k hf ⟨ad, he, hk⟩ => by
  subst hk
  exact (h1.blk ad he).1.2 hf
end
/-- What comes of all parts. -/
def AllP (w : World) (R : List (List Int) × Nat × Int) (e : Ending) (w' : World) : Prop := ∃ A n c, e = .returned (.tuple #[.slice A n c, .int .i64 R.2.1, .int .i64 R.2.2]) ∧ SlB w' A n c R.1 ∧ Below w.heap.size w w'
theorem getD_map (es : List Bool) {k : Nat} (hk : k < es.length) : (es.map Value.bool)[k]? = some (.bool (es.getD k false)) := by
  simp [hk]
set_option maxRecDepth 100000 in
set_option maxHeartbeats 8000000 in
theorem all_any {w : World} {A : Option Addr} {n c : Nat} {ps : List (List Int)} {B : Option Addr} {n1 c1 : Nat} {es : List Bool} (h : SlB w A n c ps) (he : RdV w B n1 c1 (es.map .bool)) (hn : n ≤ 1000) :
    Calls Try.prog 16 #[.slice A n c, .slice B n1 c1] w (AllP w (allR es 0 ⟨[], 0, 0⟩ [] ps)) := by
  have hel : es.length = n1 := by have := he.1; simpa using this
  have HL := Lib.hid h.len
  have HH := Lib.hid h
  have HE := Lib.hid he
  have HEL := Lib.hid hel
  obtain ⟨R, hR⟩ : ∃ R, R = allR es 0 ⟨[], 0, 0⟩ [] ps := ⟨_, rfl⟩
  rw [← hR]
  have HR := Lib.hid hR
  clear h he hel hR
  go_enter Try.func16, Try.ntmps16
  go_wp2_with fail
  refine (j_new w).mono ?_
  rintro e w1 ⟨rfl, hj1, hb1⟩
  have HI : Hid (JnC (· = w.heap.size) w1 w.heap.size ⟨[], 0, 0⟩ ∧ Below w.heap.size w w1) := Lib.hid ⟨⟨_, _, _, hj1⟩, hb1⟩
  clear hj1 hb1
  go_wp2
  go_loopw [8, 9, 10, 11, 12, 13, 17] (fun out i9 p m9 ok e9 i wr => ∃ (k : Nat) (A1 : Option Addr) (n2 c2 : Nat) (m : Jm) (ms : List (List Int)) (F : Nat → Prop), i = .int .i64 k ∧ k ≤ n ∧ out = .slice A1 n2 c2 ∧ n2 ≤ k ∧
      JnC F wr w.heap.size m ∧ (0 ≤ m.N ∧ m.N ≤ k) ∧ (0 ≤ m.T ∧ m.T ≤ k * 65536) ∧ OutR F w wr A1 n2 c2 ms ∧ (∀ k, F k → w.heap.size ≤ k) ∧ allR es k m ms (ps.drop k) = R ∧ Below w.heap.size w wr) (fun out i9 p m9 ok e9 i _ => n - (intOf i).toNat)
  case atStart => exact ⟨0, none, 0, 0, ⟨[], 0, 0⟩, [], _, rfl, Nat.zero_le _, rfl, Nat.zero_le _, HI.out.1, by simp, by simp, OutR.nil _ _ _, fun k hk => by subst hk; exact Nat.le_refl _, by rw [HR.out]; rfl, HI.out.2⟩
  case round =>
    obtain ⟨k, A1, n2, c2, m, ms, F, rfl, hk, rfl, hn2, hj, hN, hT, ho, hge, hall, hb⟩ := hrel
    by_cases hlt : k < n
    · obtain ⟨g, o, b, rfl, hcell, hrd, hat⟩ := (HH.out.below hb).at hlt
      have hkI : (k : Int) < n := by omega
      have hdrop : ps.drop k = b.xs :: ps.drop (k + 1) := by
        have hl := HL.out
        rw [List.drop_eq_getElem_cons (by omega)]
        rw [List.getElem?_eq_getElem (by omega)] at hat
        injection hat with hat
        rw [hat]
      rw [hdrop] at hall
      have HAdd := Lib.hid (fun en => j_add hj hrd en (by omega) (by omega))
      have HAll := Lib.hid hall
      have HO := Lib.hid ho
      have HNT := Lib.hid (And.intro hN hT)
      have HG := Lib.hid hge
      have HB := Lib.hid hb
      clear hj hN hT ho hge hall hb hdrop hat hrd
      generalize hen : es.getD k false = en
      have HEn := Lib.hid hen
      rcases (by omega : k < n1 ∨ n1 ≤ k) with h1 | h1
      case' inl =>
        have h1' : (k : Int) < n1 := by omega
        obtain ⟨ge, oe, rfl, hge, hce⟩ := (HE.out.below HB.out).cell h1
        rw [getD_map es (by rw [HEL.out]; exact h1), HEn.out] at hce
      case' inr =>
        have h1' : (n1 : Int) ≤ k := by omega
        obtain rfl : en = false := by
          rw [← hen, List.getD_eq_getElem?_getD, List.getElem?_eq_none (by rw [HEL.out]; exact h1)]; rfl
      case inl =>
        clear hen
        try clear hge
        go_wp2_with fail
        refine (HAdd.out en).mono ?_
        rintro e w2 ⟨A3, n3, c3, F3, rfl, hj3, hq3, hk3, hs3, hg3⟩
        try clear hce
        have ho3 := HO.out.add hs3 hg3
        have hge3 := hg3.ge HG.out HB.out.size
        have hb3 := HB.out.trans (hs3.below HB.out.size HG.out)
        have HAll2 := HAll.out
        by_cases hz : m.refuse b.xs = 0
        · rw [allR_on es k m ms b.xs _ hz, HEn.out] at HAll2
          have HN2 : Hid (0 ≤ (m.add b.xs en).N ∧ (m.add b.xs en).N ≤ ((k + 1 : Nat) : Int)) := Lib.hid (m.add_N b.xs en k HNT.out.1)
          have HT2 : Hid (0 ≤ (m.add b.xs en).T ∧ (m.add b.xs en).T ≤ ((k + 1 : Nat) : Int) * 65536) := Lib.hid (m.add_T b.xs en k HNT.out.2)
          have HA3 := Lib.hid (And.intro HAll2 (And.intro hge3 (And.intro hj3 hb3)))
          have HO3 := Lib.hid ho3
          rw [hz]
          clear HAll2 hge3 hb3 hs3 hg3 HAdd
          cases hi : m.is b.xs en with
          | false =>
            have HM : Hid (m.outs ms b.xs en = ms) := Lib.hid (by unfold Jm.outs; rw [if_neg (by rw [hi]; simp)])
            clear hi hj3 ho3 hq3 hk3 hz
            go_wp2
            go_roundw
            case rel => exact ⟨k + 1, A1, n2, c2, _, _, F3, by go_num, by omega, rfl, by omega, HA3.out.2.2.1, HN2.out, HT2.out, by rw [HM.out]; exact HO3.out, HA3.out.2.1, HA3.out.1, HA3.out.2.2.2⟩
            case measure => simp [intOf]; omega
          | true =>
            have HM : Hid (m.outs ms b.xs en = ms ++ [m.told b.xs en]) := Lib.hid (by unfold Jm.outs; rw [if_pos hi])
            obtain ⟨bs, hl, hbs, hbb⟩ := ho3
            have hbytes : (n2 + 1) * 24 ≤ 140737488355328 := by omega
            have hla := (hl.alloc (.cells #[.slice A3 n3 c3] 25)).tight
            have hu := RdV.one w2 25 (.slice A3 n3 c3) rfl
            have HAp := Lib.hid (fun (v : Value) (w5 : World) => OutR.app (w := w) (v := v) (w2 := w5) (b := ⟨A3, n3, c3, m.told b.xs en⟩) hl hbs hbb hj3.lt HA3.out.2.2.2.size hq3 (fun j hj => ⟨Nat.le_trans HB.out.size (hk3 j hj).1, (hk3 j hj).2⟩) ((Below.refl w2.heap.size w2).alloc (Nat.le_refl _) (.cells #[.slice A3 n3 c3] 25)))
            have HSep := Lib.hid hl.sepF
            have HLb := Lib.hid (fun ad he => (hl.blk ad he).1.1)
            clear hi hj3 hq3 hk3 hz hl hbs hbb
            go_wp2_with (first
              | (refine wpList_build_one (x := .slice A3 n3 c3) eltB rfl (.tmp 46) rfl rfl rfl ?_)
              | (at_builtin
                 refine wpList_append_lst eltB rfl (.tmp 45) (.tmp 47) rfl rfl hla rfl hu hbytes ?_
                 rintro v w5 hap
                 obtain ⟨A', n', c', e5, ho5, hs5⟩ := HAp.out v w5 hap
                 subst e5
                 have hn5 : n' = n2 + 1 := by
                   obtain ⟨⟨A8, n8, c8, e8, hl8⟩, _⟩ := hap
                   injection e8 with f1 f2 f3
                   have h8 := hl8.1
                   have h9 := hla.1
                   simp at h8 h9
                   omega
                 subst hn5
                 have HO5 := Lib.hid ho5
                 have HS5 := Lib.hid hs5
                 clear hap ho5 hs5))
            go_roundw
            case rel =>
              refine ⟨k + 1, A', n2 + 1, c', _, _, F3, by go_num, by omega, rfl, by omega, HA3.out.2.2.1.st HS5.out HSep.out, HN2.out, HT2.out, by rw [HM.out]; exact HO5.out, HA3.out.2.1, HA3.out.1, HA3.out.2.2.2.trans (HS5.out.below HA3.out.2.2.2.size ?_)⟩
              rintro j ⟨ad, he, rfl⟩
              exact HLb.out ad he
            case measure => simp [intOf]; omega
        · rw [allR_no es k m ms b.xs _ hz] at HAll2
          have hz' : (m.refuse b.xs != 0) = true := by simpa using hz
          have HP : Hid (AllP w R (.returned (.tuple #[.slice A1 n2 c2, .int .i64 k, .int .i64 (m.refuse b.xs)])) w2) := Lib.hid (by
            rw [← HAll2]
            exact ⟨A1, n2, c2, rfl, ho3.sl, hb3⟩)
          clear ho3 hge3 hb3 hj3 hq3 hk3 hs3 hg3 HAll2 HAdd hz
          go_wp2
          go_ret3
          exact HP.out
      case inr =>
        clear hen
        try clear hge
        go_wp2_with fail
        refine (HAdd.out false).mono ?_
        rintro e w2 ⟨A3, n3, c3, F3, rfl, hj3, hq3, hk3, hs3, hg3⟩
        try clear hce
        have ho3 := HO.out.add hs3 hg3
        have hge3 := hg3.ge HG.out HB.out.size
        have hb3 := HB.out.trans (hs3.below HB.out.size HG.out)
        have HAll2 := HAll.out
        by_cases hz : m.refuse b.xs = 0
        · rw [allR_on es k m ms b.xs _ hz, HEn.out] at HAll2
          have HN2 : Hid (0 ≤ (m.add b.xs false).N ∧ (m.add b.xs false).N ≤ ((k + 1 : Nat) : Int)) := Lib.hid (m.add_N b.xs false k HNT.out.1)
          have HT2 : Hid (0 ≤ (m.add b.xs false).T ∧ (m.add b.xs false).T ≤ ((k + 1 : Nat) : Int) * 65536) := Lib.hid (m.add_T b.xs false k HNT.out.2)
          have HA3 := Lib.hid (And.intro HAll2 (And.intro hge3 (And.intro hj3 hb3)))
          have HO3 := Lib.hid ho3
          rw [hz]
          clear HAll2 hge3 hb3 hs3 hg3 HAdd
          cases hi : m.is b.xs false with
          | false =>
            have HM : Hid (m.outs ms b.xs false = ms) := Lib.hid (by unfold Jm.outs; rw [if_neg (by rw [hi]; simp)])
            clear hi hj3 ho3 hq3 hk3 hz
            go_wp2
            go_roundw
            case rel => exact ⟨k + 1, A1, n2, c2, _, _, F3, by go_num, by omega, rfl, by omega, HA3.out.2.2.1, HN2.out, HT2.out, by rw [HM.out]; exact HO3.out, HA3.out.2.1, HA3.out.1, HA3.out.2.2.2⟩
            case measure => simp [intOf]; omega
          | true =>
            have HM : Hid (m.outs ms b.xs false = ms ++ [m.told b.xs false]) := Lib.hid (by unfold Jm.outs; rw [if_pos hi])
            obtain ⟨bs, hl, hbs, hbb⟩ := ho3
            have hbytes : (n2 + 1) * 24 ≤ 140737488355328 := by omega
            have hla := (hl.alloc (.cells #[.slice A3 n3 c3] 25)).tight
            have hu := RdV.one w2 25 (.slice A3 n3 c3) rfl
            have HAp := Lib.hid (fun (v : Value) (w5 : World) => OutR.app (w := w) (v := v) (w2 := w5) (b := ⟨A3, n3, c3, m.told b.xs false⟩) hl hbs hbb hj3.lt HA3.out.2.2.2.size hq3 (fun j hj => ⟨Nat.le_trans HB.out.size (hk3 j hj).1, (hk3 j hj).2⟩) ((Below.refl w2.heap.size w2).alloc (Nat.le_refl _) (.cells #[.slice A3 n3 c3] 25)))
            have HSep := Lib.hid hl.sepF
            have HLb := Lib.hid (fun ad he => (hl.blk ad he).1.1)
            clear hi hj3 hq3 hk3 hz hl hbs hbb
            go_wp2_with (first
              | (refine wpList_build_one (x := .slice A3 n3 c3) eltB rfl (.tmp 46) rfl rfl rfl ?_)
              | (at_builtin
                 refine wpList_append_lst eltB rfl (.tmp 45) (.tmp 47) rfl rfl hla rfl hu hbytes ?_
                 rintro v w5 hap
                 obtain ⟨A', n', c', e5, ho5, hs5⟩ := HAp.out v w5 hap
                 subst e5
                 have hn5 : n' = n2 + 1 := by
                   obtain ⟨⟨A8, n8, c8, e8, hl8⟩, _⟩ := hap
                   injection e8 with f1 f2 f3
                   have h8 := hl8.1
                   have h9 := hla.1
                   simp at h8 h9
                   omega
                 subst hn5
                 have HO5 := Lib.hid ho5
                 have HS5 := Lib.hid hs5
                 clear hap ho5 hs5))
            go_roundw
            case rel =>
              refine ⟨k + 1, A', n2 + 1, c', _, _, F3, by go_num, by omega, rfl, by omega, HA3.out.2.2.1.st HS5.out HSep.out, HN2.out, HT2.out, by rw [HM.out]; exact HO5.out, HA3.out.2.1, HA3.out.1, HA3.out.2.2.2.trans (HS5.out.below HA3.out.2.2.2.size ?_)⟩
              rintro j ⟨ad, he, rfl⟩
              exact HLb.out ad he
            case measure => simp [intOf]; omega
        · rw [allR_no es k m ms b.xs _ hz] at HAll2
          have hz' : (m.refuse b.xs != 0) = true := by simpa using hz
          have HP : Hid (AllP w R (.returned (.tuple #[.slice A1 n2 c2, .int .i64 k, .int .i64 (m.refuse b.xs)])) w2) := Lib.hid (by
            rw [← HAll2]
            exact ⟨A1, n2, c2, rfl, ho3.sl, hb3⟩)
          clear ho3 hge3 hb3 hj3 hq3 hk3 hs3 hg3 HAll2 HAdd hz
          go_wp2
          go_ret3
          exact HP.out
    · obtain rfl : k = n := by omega
      rw [List.drop_of_length_le (by rw [HL.out]; exact Nat.le_refl _), allR_nil] at hall
      have HP : Hid (AllP w R (.returned (.tuple #[.slice A1 n2 c2, .int .i64 k, .int .i64 0])) wr) := Lib.hid (by
        rw [← hall]
        exact ⟨A1, n2, c2, rfl, ho.sl, hb⟩)
      clear hj hN hT ho hge hall hb
      go_wp2
      go_ret3
      exact HP.out
end Go.Proofs.Ytdakojggknkidaa
