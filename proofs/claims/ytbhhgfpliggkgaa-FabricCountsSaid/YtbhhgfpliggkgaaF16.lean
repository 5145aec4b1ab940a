/- Calls as they come in; what a fabric keeps behind calls. -/
import Derived.Test.YtbhhgfpliggkgaaF15
set_option linter.unusedSimpArgs false
set_option linter.unusedVariables false
set_option maxRecDepth 100000
namespace Go.Proofs.Ytbhhgfpliggkgaa
open Go.RowKit Go.Shelf

abbrev PkT : Ty := .one (.int .i64) (.one (.int .i64) (.one (.int .i64) (.one (.int .i64) (.one (.int .i64) (.one (.int .i64) (.one (.int .i64) (.one (.int .i64) (.one (.sl (.int .u8)) .unit))))))))
abbrev OpT : Ty := .one (.int .u8) (.one (.sl PkT) (.one (.int .i64) (.one (.int .i64) (.one (.int .i64) .unit))))
def opL (dv : Int) (A : Option Addr) (n c : Nat) (p q f : Int) : List Value := [.int .u8 dv, .slice A n c, .int .i64 p, .int .i64 q, .int .i64 f]
def pvOf (x : PkT.den) : Pv := ⟨⟨x.1, x.2.1, x.2.2.1, x.2.2.2.1, x.2.2.2.2.1, x.2.2.2.2.2.1, x.2.2.2.2.2.2.1, x.2.2.2.2.2.2.2.1⟩, x.2.2.2.2.2.2.2.2.1.A, x.2.2.2.2.2.2.2.2.1.n, x.2.2.2.2.2.2.2.2.1.c, x.2.2.2.2.2.2.2.2.1.l⟩
theorem raw_of {w : World} {s : Sl PkT.den} (h : (Ty.sl PkT).reads w s) : RawP w.heap.size w s.A s.n (s.l.map pvOf) := by
  obtain ⟨h1, h2, h3, h4, h5, h6⟩ := h
  have h1' : s.l.length = s.n := h1
  refine ⟨by rw [List.length_map]; exact h1.symm, fun i hi => ?_, fun q hq => ?_, by simp only [maxLen] at h3; omega, Nat.le_refl _⟩
  · rw [List.length_map] at hi
    obtain ⟨g, o, hA, hg, hx⟩ := h5 (by omega) (show 0 < 9 from by omega)
    refine ⟨g, o, hA, hg, fun j v hv => hx i hi j v ?_⟩
    rw [List.getElem_map] at hv
    exact hv
  · obtain ⟨x, hx, rfl⟩ := List.mem_map.1 hq
    have hr : PkT.reads w x := h6 x hx
    obtain ⟨kd, fl, pa, sr, ds, cn, sq, pu, ⟨A, n, c, xs⟩, u⟩ := x
    have hrd : Rd .u8 w A n c xs := rd_of_reads ⟨A, n, c, xs⟩ hr.2.2.2.2.2.2.2.2.1
    exact ⟨hrd, i64_max hr.2.1, fun hn ad he => hrd.blk hn ad he⟩
/-- The k-th call, as it lies in memory. -/
theorem op_at {w : World} {s : Sl OpT.den} (h : (Ty.sl OpT).reads w s) (k : Nat) (hk : k < s.n) : ∃ (g o dv : Nat) (A : Option Addr) (n c : Nat) (qs : List Pv) (p q f : Int), s.A = some ⟨g, o, none⟩ ∧ g < w.heap.size ∧
    w.rangeAt g (o + k * 5) (opL dv A n c p q f) ∧ dv < 256 ∧ RawP w.heap.size w A n qs := by
  obtain ⟨h1, h2, h3, h4, h5, h6⟩ := h
  have h1' : s.l.length = s.n := h1
  have hkl : k < s.l.length := by omega
  obtain ⟨g, o, hA, hg, hx⟩ := h5 (by omega) (show 0 < 5 from by omega)
  have hr : OpT.reads w s.l[k] := h6 _ (List.getElem_mem _)
  have hx' := hx k hkl
  obtain ⟨x, hxe⟩ : ∃ x, x = s.l[k] := ⟨_, rfl⟩
  rw [← hxe] at hr hx'
  clear hxe hx
  obtain ⟨dv, ⟨A, n, c, l⟩, p, q, f, v⟩ := x
  obtain ⟨r1, r2, r3, r4, r5, _⟩ := hr
  obtain ⟨dn, hdn, hd⟩ := u8_nat r1
  subst hdn
  exact ⟨g, o, dn, A, n, c, l.map pvOf, p, q, f, hA, hg, fun j v hv => hx' j v hv, hd, raw_of (s := ⟨A, n, c, l⟩) r2⟩
section
variable {F X F1 X1 G : Nat → Prop} {w0 w w' w1 : World} {b : Nat} {m m1 : FM} {pp : Nat → Nat} {FF : Nat → Nat → Prop} {k L H : Nat} {a c : AM} {B C : Int} {P A : Option Addr} {n d : Nat} {ks : List Pk}
theorem FM.keep_sv (m : FM) (p q f : Int) {k : Nat} (h : (m.pt k).isSome = true) : ((m.svM p q f).pt k).isSome = true := by
  unfold FM.svM
  split
  · exact h
  · unfold FM.sc FM.sp set1
    dsimp only
    split
    · rfl
    · exact h
theorem FMb.sv (h : FMb m L H B) (p q f : Int) : FMb (m.svM p q f) L H (B + 1) := by
  unfold FM.svM
  cases hp : m.port p q with
  | none => exact h.mono (by omega)
  | some a =>
    have := h.sp (k := ix p q) ((h _ _ (FM.port_pt hp)).sv f) (by omega : B ≤ B + 1)
    exact fun i e hi => this i e hi
/-- What is known of a fabric behind i calls. -/
structure FOk (m : FM) (L H : Nat) (i : Nat) : Prop where
  b : FMb m L H (24 * i)
  c : ∀ j, 0 ≤ m.ct j ∧ m.ct j ≤ 24 * i
  z : (m.pt 0).isSome = true
theorem FOk.sv {i : Nat} (h : FOk m L H i) (p q f : Int) : FOk (m.svM p q f) L H (i + 1) := by
  refine ⟨(h.b.sv p q f).mono (by omega), fun j => ?_, m.keep_sv p q f h.z⟩
  unfold FM.svM
  cases hp : m.port p q with
  | none => have := h.c j; dsimp only; omega
  | some a =>
    have h1 := h.c j
    have h2 := h.c 0
    have h3 := AM.svL_len a f
    show 0 ≤ up m.ct 0 _ j ∧ up m.ct 0 _ j ≤ _
    unfold up
    split <;> omega
theorem FM.puts_made (m : FM) {k : Nat} (h : (m.pt k).isSome = true) : ∀ n (ks : List Pk), n ≤ ks.length → ((m.puts (ks.take n)).1.pt k).isSome = true
  | 0, ks, _ => by rw [List.take_zero]; exact h
  | n + 1, ks, hn => by
    rw [List.take_succ_eq_append_getElem (by omega), FM.puts_snoc]
    exact FM.keep_made _ _ (FM.puts_made m h n ks (by omega))
theorem FOk.put {i : Nat} (h : FOk m L H i) (hk : ks.length ≤ 12) : FOk (m.puts ks).1 L H (i + 1) ∧ ∀ j, 0 ≤ (m.puts ks).2 j ∧ (m.puts ks).2 j ≤ 12 := by
  have h1 := FMc.take h.b h.c ks ks.length (Nat.le_refl _)
  have h2 := FM.puts_made m h.z ks.length ks (Nat.le_refl _)
  rw [List.take_length] at h1 h2
  refine ⟨⟨h1.b.mono (by omega), fun j => ?_, h2⟩, fun j => ?_⟩
  · have := h1.c j; omega
  · have := h1.t j; omega
theorem FOk.new (hs ps L H T : Nat) (h1 : 0 < hs) (h2 : 0 < ps) : FOk (FM.new hs ps (AM.new L H T)) L H 0 :=
  ⟨by simpa using FMb.new hs ps L H T, fun j => ⟨Int.le_refl _, Int.le_refl _⟩, FM.new_0 hs ps _ h1 h2⟩
theorem FbP.total_le (h : FbP F X w P m pp FF) : m.total ≤ 131072 := by
  have h1 := accT_le m m.busy (fun p => by have := h.few (p.1 : Int) (p.2 : Int); unfold FM.at2; omega) (List.finRange m.busy.length)
  rw [accT_all] at h1
  have h2 : m.busy.length ≤ 64 := m.busyN_len 64
  rw [List.length_finRange] at h1
  have h3 : m.total = (m.busy.map m.at2).sum := rfl
  have : m.busy.length * 2048 ≤ 64 * 2048 := Nat.mul_le_mul_right _ h2
  omega
/-- A fabric that the law made. -/
structure FJ (w0 : World) (b : Nat) (m : FM) (w : World) (F : Nat → Prop) (pp : Nat → Nat) (FF : Nat → Nat → Prop) : Prop where
  fb : FbC F (fun _ => False) w b m pp FF
  ge : ∀ j, F j → w0.heap.size ≤ j
  bl : Below w0.heap.size w0 w
variable {FA : Nat → Prop} {FFA : Nat → Nat → Prop}
theorem FJ.below (h : FJ w0 b m w F pp FF) (hb : Below w.heap.size w w') : FJ w0 b m w' F pp FF := ⟨h.fb.below hb, h.ge, below_on h.bl hb⟩
theorem FJ.did (h : FJ w0 b m w F pp FF) (hf : FbC FA (fun _ => False) w' b m1 pp FFA) (hs : St F w w') (hg : Gr F FA w.heap.size) : FJ w0 b m1 w' FA pp FFA :=
  ⟨hf, hg.ge h.ge h.bl.size, h.bl.trans (hs.below h.bl.size h.ge)⟩
end
end Go.Proofs.Ytbhhgfpliggkgaa
