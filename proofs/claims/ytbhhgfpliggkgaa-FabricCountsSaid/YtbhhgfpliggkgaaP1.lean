/- Packets as values; what is made of one, by what it reads. -/
import Derived.Test.YtbhhgfpliggkgaaW7
import Derived.Test.YtbhhgfpliggkgaaLL
set_option linter.unusedSimpArgs false
set_option linter.unusedVariables false
set_option maxRecDepth 100000
namespace Go.Proofs.Ytbhhgfpliggkgaa
open Go.RowKit Go.Shelf

/-- A packet as a value: its numbers, its payload's slice, and what that reads. -/
structure Pv where
  h : Hd
  A : Option Addr
  n : Nat
  c : Nat
  xs : List Int
/-- A packet by what it says. -/
structure Pk where
  h : Hd
  xs : List Int
def Pv.pk (q : Pv) : Pk := ⟨q.h, q.xs⟩
def Pv.cl (q : Pv) : List Value := [.int .i64 q.h.kd, .int .i64 q.h.fl, .int .i64 q.h.pa, .int .i64 q.h.sr, .int .i64 q.h.ds, .int .i64 q.h.cn, .int .i64 q.h.sq, .int .i64 q.h.pu, .slice q.A q.n q.c]
theorem Pv.cl_len (q : Pv) : q.cl.length = 9 := rfl
theorem Pv.cl_one (q : Pv) : ∀ v ∈ q.cl, v.oneCell' = true := by
  intro v hv
  simp only [Pv.cl, List.mem_cons, List.not_mem_nil, or_false] at hv
  rcases hv with rfl | rfl | rfl | rfl | rfl | rfl | rfl | rfl | rfl <;> rfl
def zsP : List Value := [.int .i64 0, .int .i64 0, .int .i64 0, .int .i64 0, .int .i64 0, .int .i64 0, .int .i64 0, .int .i64 0, .slice none 0 0]
def zPv : Pv := ⟨⟨0, 0, 0, 0, 0, 0, 0, 0⟩, none, 0, 0, []⟩
theorem eltP : EltS Try.prog 34 65 zsP 88 := ⟨rfl, by kernel_rfl, by intro v hv; exact zPv.cl_one v hv, by decide, by decide, ⟨_, rfl, by decide⟩, by decide⟩
theorem rowP : Row Try.prog 65 9 := eltP.row
/-- The value reads, its payload is short, and lies in no block of F. -/
def PvR (F : Nat → Prop) (w : World) (q : Pv) : Prop := Rd .u8 w q.A q.n q.c q.xs ∧ q.n ≤ 1100 ∧ q.h.fl ≤ 9223372036854775807 ∧ (0 < q.n → ∀ ad, q.A = some ad → ¬ F ad.block)
section
variable {F F' : Nat → Prop} {w w' : World} {q : Pv}
theorem PvR.len (h : PvR F w q) : q.xs.length = q.n := h.1.1
theorem PvR.fl (h : PvR F w q) : q.h.fl ≤ 9223372036854775807 := h.2.2.1
theorem PvR.st (h : PvR F w q) (hs : St F w w') (hg : Gr F F' w.heap.size) : PvR F' w' q :=
  ⟨h.1.st hs h.2.2.2, h.2.1, h.2.2.1, fun hn ad he => hg.not (h.1.blk hn ad he) (h.2.2.2 hn ad he)⟩
theorem PvR.below (h : PvR F w q) (hb : Below w.heap.size w w') : PvR F w' q := ⟨h.1.below hb, h.2⟩
theorem PvR.mono (h : PvR F w q) (hF : ∀ k, F' k → F k) : PvR F' w q := ⟨h.1, h.2.1, h.2.2.1, fun hn ad he hf => h.2.2.2 hn ad he (hF _ hf)⟩
theorem PvR.gr (h : PvR F w q) (hg : Gr F F' w.heap.size) : PvR F' w q := h.st (St.refl _ _) hg
theorem PvR.zero (F : Nat → Prop) (w : World) : PvR F w zPv := ⟨Rd.nil _ _, by decide, by decide, fun h => absurd h (by decide)⟩
/-- A payload just made. -/
theorem PvR.own {h : Hd} {A : Option Addr} {n c base : Nat} {xs : List Int} (ho : Ow .u8 5 base w' (.slice A n c) xs) (hw : ∀ x ∈ xs, (Lit.int .u8 x).wf = true) (hn : n ≤ 1100) (hf : h.fl ≤ 9223372036854775807) (hF : ∀ k, F k → k < base) : PvR F w' ⟨h, A, n, c, xs⟩ :=
  ⟨own_rd ho hw, hn, hf, fun hn' ad he hf' => by
    subst he
    have := (World.ownsRow.lt ho ad.block rfl).1
    have := hF _ hf'
    omega⟩
end
/-- Of data: may it be trimmed, returned? -/
def Pk.chk (p : Pk) : Bool := chkB p.h p.xs.length
def Pk.isd (p : Pk) : Bool := isdB p.h p.xs.length
def Pk.trimB (p : Pk) : Bool := p.isd && !hasB p.h.fl 8
def Pk.trim (p : Pk) : Pk := if p.trimB = true then ⟨{ p.h with fl := p.h.fl + 8 }, []⟩ else p
def Pk.bncB (p : Pk) : Bool := p.isd && hasB p.h.fl 8 && !hasB p.h.fl 16
def Pk.bnc (p : Pk) : Pk := if p.bncB = true then ⟨{ p.h with fl := p.h.fl + 16, sr := p.h.ds, ds := p.h.sr }, p.xs⟩ else p
def Pk.heavy (p : Pk) : Bool := p.h.kd == 1 && decide (0 < p.xs.length)
def Pk.zero : Pk := zPv.pk
section
variable {F : Nat → Prop} {w : World} {q : Pv}
theorem Pk.isd_fl {p : Pk} (h : p.isd = true) : 0 ≤ p.h.fl ∧ p.h.fl ≤ 63 := Go.Proofs.Ytbhhgfpliggkgaa.isd_fl h
/-- What a call with a packet makes of it: another one. -/
def MadeP (F : Nat → Prop) (w : World) (p : Pk) (q : Pv) (w' : World) : Prop := q.pk = p ∧ PvR F w' q ∧ Below w.heap.size w w'
theorem p_trim {G : Nat → Prop} (h : PvR G w q) (hF : ∀ k, F k → k < w.heap.size) :
    Calls Try.prog 63 #[.agg #[.int .i64 q.h.kd, .int .i64 q.h.fl, .int .i64 q.h.pa, .int .i64 q.h.sr, .int .i64 q.h.ds, .int .i64 q.h.cn, .int .i64 q.h.sq, .int .i64 q.h.pu, .slice q.A q.n q.c]] w fun e w' => ∃ q', e = .returned (.tuple #[.agg #[.int .i64 q'.h.kd, .int .i64 q'.h.fl, .int .i64 q'.h.pa, .int .i64 q'.h.sr, .int .i64 q'.h.ds, .int .i64 q'.h.cn, .int .i64 q'.h.sq, .int .i64 q'.h.pu, .slice q'.A q'.n q'.c], .bool q.pk.trimB]) ∧ MadeP F w q.pk.trim q' w' := by
  have hl := h.len
  obtain ⟨hr, hn, hf, ho⟩ := h
  have he : q.pk.isd = isdB q.h q.n := by unfold Pk.isd Pv.pk; rw [hl]
  by_cases hb : q.pk.trimB = true
  · have hb1 : isdB q.h q.n = true ∧ hasB q.h.fl 8 = false := by
      unfold Pk.trimB at hb; rw [he] at hb; simpa [Pv.pk] using hb
    have hfl := Go.Proofs.Ytbhhgfpliggkgaa.isd_fl hb1.1
    refine (trim_yes q.h.kd q.h.fl q.h.pa q.h.sr q.h.ds q.h.cn q.h.sq q.h.pu q.A q.n q.c w hf hb1.1 hb1.2).mono ?_
    rintro e w' ⟨rfl, hbw⟩
    refine ⟨⟨{ q.h with fl := q.h.fl + 8 }, none, 0, 0, []⟩, by rw [hb], ?_, ⟨Rd.nil _ _, by simp, by show q.h.fl + 8 ≤ _; omega, fun h => absurd h (by simp)⟩, hbw⟩
    unfold Pk.trim; rw [if_pos hb]; rfl
  · have hb1 : isdB q.h q.n = false ∨ isdB q.h q.n = true ∧ hasB q.h.fl 8 = true := by
      unfold Pk.trimB at hb; rw [he] at hb
      cases h1 : isdB q.h q.n
      · exact .inl rfl
      · rw [h1] at hb; right; exact ⟨rfl, by simpa [Pv.pk] using hb⟩
    have hb2 : q.pk.trimB = false := by simpa using hb
    refine (trim_no q.h.kd q.h.fl q.h.pa q.h.sr q.h.ds q.h.cn q.h.sq q.h.pu q.A q.n q.c q.xs w hr (by omega) hf hb1).mono ?_
    rintro e w' ⟨A', c', rfl, hown, hbw⟩
    refine ⟨⟨q.h, A', q.n, c', q.xs⟩, by rw [hb2], ?_, PvR.own hown hr.2.2.2.2.1 hn hf hF, hbw⟩
    unfold Pk.trim; rw [if_neg hb]; rfl
theorem p_bounce {G : Nat → Prop} (h : PvR G w q) (hF : ∀ k, F k → k < w.heap.size) :
    Calls Try.prog 75 #[.agg #[.int .i64 q.h.kd, .int .i64 q.h.fl, .int .i64 q.h.pa, .int .i64 q.h.sr, .int .i64 q.h.ds, .int .i64 q.h.cn, .int .i64 q.h.sq, .int .i64 q.h.pu, .slice q.A q.n q.c]] w fun e w' => ∃ q', e = .returned (.tuple #[.agg #[.int .i64 q'.h.kd, .int .i64 q'.h.fl, .int .i64 q'.h.pa, .int .i64 q'.h.sr, .int .i64 q'.h.ds, .int .i64 q'.h.cn, .int .i64 q'.h.sq, .int .i64 q'.h.pu, .slice q'.A q'.n q'.c], .bool q.pk.bncB]) ∧ MadeP F w q.pk.bnc q' w' := by
  have hl := h.len
  obtain ⟨hr, hn, hf, ho⟩ := h
  have he : q.pk.bncB = (isdB q.h q.n && hasB q.h.fl 8 && !hasB q.h.fl 16) := by unfold Pk.bncB Pk.isd Pv.pk; rw [hl]
  by_cases hb : q.pk.bncB = true
  · have hb1 : isdB q.h q.n = true ∧ hasB q.h.fl 8 = true ∧ hasB q.h.fl 16 = false := by
      rw [he] at hb; simpa [and_assoc] using hb
    have hfl := Go.Proofs.Ytbhhgfpliggkgaa.isd_fl hb1.1
    refine (bounce_yes q.h.kd q.h.fl q.h.pa q.h.sr q.h.ds q.h.cn q.h.sq q.h.pu q.A q.n q.c q.xs w hr (by omega) hf hb1.1 hb1.2.1 hb1.2.2).mono ?_
    rintro e w' ⟨A', c', rfl, hown, hbw⟩
    refine ⟨⟨{ q.h with fl := q.h.fl + 16, sr := q.h.ds, ds := q.h.sr }, A', q.n, c', q.xs⟩, by rw [hb], ?_, PvR.own hown hr.2.2.2.2.1 hn (by show q.h.fl + 16 ≤ _; omega) hF, hbw⟩
    unfold Pk.bnc; rw [if_pos hb]; rfl
  · have hb2 : q.pk.bncB = false := by simpa using hb
    refine (bounce_no q.h.kd q.h.fl q.h.pa q.h.sr q.h.ds q.h.cn q.h.sq q.h.pu q.A q.n q.c q.xs w hr (by omega) hf (by rw [← he]; exact hb2)).mono ?_
    rintro e w' ⟨A', c', rfl, hown, hbw⟩
    refine ⟨⟨q.h, A', q.n, c', q.xs⟩, by rw [hb2], ?_, PvR.own hown hr.2.2.2.2.1 hn hf hF, hbw⟩
    unfold Pk.bnc; rw [if_neg hb]; rfl
theorem p_check (h : PvR F w q) :
    Calls Try.prog 74 #[.agg #[.int .i64 q.h.kd, .int .i64 q.h.fl, .int .i64 q.h.pa, .int .i64 q.h.sr, .int .i64 q.h.ds, .int .i64 q.h.cn, .int .i64 q.h.sq, .int .i64 q.h.pu, .slice q.A q.n q.c]] w fun e w' => e = .returned (errV q.pk.chk) ∧ Below w.heap.size w w' := by
  refine (check_any q.h.kd q.h.fl q.h.pa q.h.sr q.h.ds q.h.cn q.h.sq q.h.pu q.A q.n q.c w h.fl).mono ?_
  rintro e w' ⟨rfl, hb⟩
  exact ⟨by unfold Pk.chk Pv.pk; rw [h.len], hb⟩
/-! The reference. -/
theorem r_is (h : PvR F w q) :
    Calls Try.prog 70 #[.agg #[.int .i64 q.h.kd, .int .i64 q.h.fl, .int .i64 q.h.pa, .int .i64 q.h.sr, .int .i64 q.h.ds, .int .i64 q.h.cn, .int .i64 q.h.sq, .int .i64 q.h.pu, .slice q.A q.n q.c]] w fun e w' => e = .returned (.bool q.pk.chk) ∧ Below w.heap.size w w' := by
  refine (ris_any q.h.kd q.h.fl q.h.pa q.h.sr q.h.ds q.h.cn q.h.sq q.h.pu q.A q.n q.c w h.fl).mono ?_
  rintro e w' ⟨rfl, hb⟩
  exact ⟨by unfold Pk.chk Pv.pk; rw [h.len], hb⟩
theorem r_trim (h : PvR F w q) :
    Calls Try.prog 71 #[.agg #[.int .i64 q.h.kd, .int .i64 q.h.fl, .int .i64 q.h.pa, .int .i64 q.h.sr, .int .i64 q.h.ds, .int .i64 q.h.cn, .int .i64 q.h.sq, .int .i64 q.h.pu, .slice q.A q.n q.c]] w fun e w' => ∃ q', e = .returned (.tuple #[.agg #[.int .i64 q'.h.kd, .int .i64 q'.h.fl, .int .i64 q'.h.pa, .int .i64 q'.h.sr, .int .i64 q'.h.ds, .int .i64 q'.h.cn, .int .i64 q'.h.sq, .int .i64 q'.h.pu, .slice q'.A q'.n q'.c], .bool q.pk.trimB]) ∧ MadeP F w q.pk.trim q' w' := by
  have hl := h.len
  have hh := h
  obtain ⟨hr, hn, hf, ho⟩ := h
  have he : q.pk.trimB = (isdB q.h q.n && !hasB q.h.fl 8) := by unfold Pk.trimB Pk.isd Pv.pk; rw [hl]
  by_cases hb : q.pk.trimB = true
  · have hb1 : isdB q.h q.n = true ∧ hasB q.h.fl 8 = false := by rw [he] at hb; simpa using hb
    have hfl := Go.Proofs.Ytbhhgfpliggkgaa.isd_fl hb1.1
    refine (rtrim_yes q.h.kd q.h.fl q.h.pa q.h.sr q.h.ds q.h.cn q.h.sq q.h.pu q.A q.n q.c w hf hb1.1 hb1.2).mono ?_
    rintro e w' ⟨rfl, hbw⟩
    refine ⟨⟨{ q.h with fl := q.h.fl + 8 }, none, 0, 0, []⟩, by rw [hb], ?_, ⟨Rd.nil _ _, by simp, by show q.h.fl + 8 ≤ _; omega, fun h => absurd h (by simp)⟩, hbw⟩
    unfold Pk.trim; rw [if_pos hb]; rfl
  · have hb2 : q.pk.trimB = false := by simpa using hb
    refine (rtrim_no q.h.kd q.h.fl q.h.pa q.h.sr q.h.ds q.h.cn q.h.sq q.h.pu q.A q.n q.c w hf (by rw [← he]; exact hb2)).mono ?_
    rintro e w' ⟨rfl, hbw⟩
    refine ⟨q, by rw [hb2], ?_, hh.below hbw, hbw⟩
    unfold Pk.trim; rw [if_neg hb]
theorem r_bounce (h : PvR F w q) :
    Calls Try.prog 73 #[.agg #[.int .i64 q.h.kd, .int .i64 q.h.fl, .int .i64 q.h.pa, .int .i64 q.h.sr, .int .i64 q.h.ds, .int .i64 q.h.cn, .int .i64 q.h.sq, .int .i64 q.h.pu, .slice q.A q.n q.c]] w fun e w' => ∃ q', e = .returned (.tuple #[.agg #[.int .i64 q'.h.kd, .int .i64 q'.h.fl, .int .i64 q'.h.pa, .int .i64 q'.h.sr, .int .i64 q'.h.ds, .int .i64 q'.h.cn, .int .i64 q'.h.sq, .int .i64 q'.h.pu, .slice q'.A q'.n q'.c], .bool q.pk.bncB]) ∧ MadeP F w q.pk.bnc q' w' := by
  have hl := h.len
  have hh := h
  obtain ⟨hr, hn, hf, ho⟩ := h
  have he : q.pk.bncB = (isdB q.h q.n && hasB q.h.fl 8 && !hasB q.h.fl 16) := by unfold Pk.bncB Pk.isd Pv.pk; rw [hl]
  by_cases hb : q.pk.bncB = true
  · have hb1 : isdB q.h q.n = true ∧ hasB q.h.fl 8 = true ∧ hasB q.h.fl 16 = false := by rw [he] at hb; simpa [and_assoc] using hb
    have hfl := Go.Proofs.Ytbhhgfpliggkgaa.isd_fl hb1.1
    refine (rbounce_yes q.h.kd q.h.fl q.h.pa q.h.sr q.h.ds q.h.cn q.h.sq q.h.pu q.A q.n q.c w hf hb1.1 hb1.2.1 hb1.2.2).mono ?_
    rintro e w' ⟨rfl, hbw⟩
    refine ⟨⟨{ q.h with fl := q.h.fl + 16, sr := q.h.ds, ds := q.h.sr }, q.A, q.n, q.c, q.xs⟩, by rw [hb], ?_, ⟨hr.below hbw, hn, by show q.h.fl + 16 ≤ _; omega, ho⟩, hbw⟩
    unfold Pk.bnc; rw [if_pos hb]; rfl
  · have hb2 : q.pk.bncB = false := by simpa using hb
    refine (rbounce_no q.h.kd q.h.fl q.h.pa q.h.sr q.h.ds q.h.cn q.h.sq q.h.pu q.A q.n q.c w hf (by rw [← he]; exact hb2)).mono ?_
    rintro e w' ⟨rfl, hbw⟩
    refine ⟨q, by rw [hb2], ?_, hh.below hbw, hbw⟩
    unfold Pk.bnc; rw [if_neg hb]
def Pk.sameB (a b : Pk) : Bool := smB a.h b.h a.xs b.xs
theorem Pk.same_refl (a : Pk) : a.sameB a = true := smB_refl _ _
theorem r_same {F' : Nat → Prop} {q2 : Pv} (h : PvR F w q) (k : PvR F' w q2) :
    Calls Try.prog 36 #[.agg #[.int .i64 q.h.kd, .int .i64 q.h.fl, .int .i64 q.h.pa, .int .i64 q.h.sr, .int .i64 q.h.ds, .int .i64 q.h.cn, .int .i64 q.h.sq, .int .i64 q.h.pu, .slice q.A q.n q.c], .agg #[.int .i64 q2.h.kd, .int .i64 q2.h.fl, .int .i64 q2.h.pa, .int .i64 q2.h.sr, .int .i64 q2.h.ds, .int .i64 q2.h.cn, .int .i64 q2.h.sq, .int .i64 q2.h.pu, .slice q2.A q2.n q2.c]] w fun e w' => e = .returned (.bool (q.pk.sameB q2.pk)) ∧ Below w.heap.size w w' :=
  (rsame_any q.h.kd q.h.fl q.h.pa q.h.sr q.h.ds q.h.cn q.h.sq q.h.pu q.A q.n q.c q2.h.kd q2.h.fl q2.h.pa q2.h.sr q2.h.ds q2.h.cn q2.h.sq q2.h.pu q2.A q2.n q2.c q.xs q2.xs w h.1 k.1).mono fun e w' hh => hh
end
section
variable {P : Program} {w : World} {ops : Array Oper} {rest : List Oper} {op : Oper} {a : Act} {Q : Exit → Act → World → Prop}
/-- A packet is loaded, stored whole. -/
theorem wpList_load_pk {e : TypeId} (R : Row P e 9) (hgd : op.guard = none) (x : Operand) (ho : op.op = .load e x) (q : Pv) (g o : Nat) (hx : a.eval x = .pointer (some ⟨g, o, none⟩)) (h : w.rangeAt g o q.cl)
    (hq : wpList P ops Q rest (a.put op.dst (.agg #[.int .i64 q.h.kd, .int .i64 q.h.fl, .int .i64 q.h.pa, .int .i64 q.h.sr, .int .i64 q.h.ds, .int .i64 q.h.cn, .int .i64 q.h.sq, .int .i64 q.h.pu, .slice q.A q.n q.c])) w) : wpList P ops Q (op :: rest) a w := by
  obtain ⟨d, h1, h2⟩ := R.ht
  exact wpList_load_mid hgd e x ho g o hx q.cl d h h1 h2 R.hi hq
theorem Bk.pk {t : TypeId} {g : Nat} {q : Pv} (h : Bk w t g q.cl) : w.rangeAt g 0 q.cl := fun j v hv => h.cell (0 + j) (by rw [Nat.zero_add]; exact hv)
theorem load_pk {e t : TypeId} (R : Row P e 9) {g : Nat} {q : Pv} (h : Bk w t g q.cl) : (loadVar e ⟨g, 0, none⟩).run P w = .ok (.agg #[.int .i64 q.h.kd, .int .i64 q.h.fl, .int .i64 q.h.pa, .int .i64 q.h.sr, .int .i64 q.h.ds, .int .i64 q.h.cn, .int .i64 q.h.sq, .int .i64 q.h.pu, .slice q.A q.n q.c]) w := R.load h 0 q.cl_len rfl
theorem wpList_put_pk {e t : TypeId} (R : Row P e 9) (hgd : op.guard = none) (x y : Operand) (ho : op.op = .store e x y) (g : Nat) (hx : a.eval x = .pointer (some ⟨g, 0, none⟩)) {vs : List Value} (h : Bk w t g vs) (hv : vs.length = 9) (q : Pv) (hy : a.eval y = .agg #[.int .i64 q.h.kd, .int .i64 q.h.fl, .int .i64 q.h.pa, .int .i64 q.h.sr, .int .i64 q.h.ds, .int .i64 q.h.cn, .int .i64 q.h.sq, .int .i64 q.h.pu, .slice q.A q.n q.c])
    (hq : ∀ w', Bk w' t g q.cl → Wr g w w' → wpList P ops Q rest (a.put op.dst undef) w') : wpList P ops Q (op :: rest) a w :=
  wpList_store_bk R hgd x y ho g 0 hx h q.cl hy q.cl_len (by rw [hv]; decide) q.cl_one fun w' h' hw => hq w' (by rw [lay_all _ _ (by rw [hv]; rfl)] at h'; exact h') hw
end
end Go.Proofs.Ytbhhgfpliggkgaa
