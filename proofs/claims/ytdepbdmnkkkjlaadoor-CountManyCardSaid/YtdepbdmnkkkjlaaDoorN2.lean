/- Counters in memory: the map; an object; what it is asked. -/
import Derived.Test.YtdepbdmnkkkjlaaDoorN1
import Derived.Test.YtdepbdmnkkkjlaaDoorLsrI
import Derived.Test.YtdepbdmnkkkjlaaDoorItrM
import Derived.Test.YtdepbdmnkkkjlaaDoorItr
import Derived.Test.YtdepbdmnkkkjlaaDoorCol
import Derived.Test.YtdepbdmnkkkjlaaDoorKit3
import Derived.Test.YtdepbdmnkkkjlaaDoorRegL
import Derived.Test.YtdepbdmnkkkjlaaDoorOpen
import Derived.Test.YtdepbdmnkkkjlaaDoorOpenV
import Derived.BigQuiet
import Derived.Deep.QuietTactic
import Derived.WalkSpells
import Derived.Laws.Externs
import Derived.StringKeys
import Derived.Deep.LoopGhost

import Derived.MapKept
import Derived.ChangeMaps4
import Derived.Lib.OthersKept
set_option linter.unusedSimpArgs false
set_option linter.unusedVariables false
set_option maxRecDepth 100000
namespace Go.Proofs.YtdepbdmnkkkjlaaDoor
open Go.RowKit Go.Shelf Go.Maps
theorem below_on {w w1 w2 : World} (h : Below w.heap.size w w1) (k : Below w1.heap.size w1 w2) : Below w.heap.size w w2 := h.trans (k.mono h.size)
theorem st_wr {w w' : World} {g : Nat} (hw : Wr g w w') : St (· = g) w w' := ⟨hw.os, hw.tape, hw.output, hw.size, fun j hj hn => hw.block j hj (by intro e; injection e with e; exact hn e)⟩
theorem st_grown {w w' : World} {b : Nat} (h : w.grownBy w' (some b)) : St (· = b) w w' := ⟨h.os, h.tape, h.output, h.size, fun k hk hn => h.block k hk (by intro e; injection e with e; exact hn e)⟩
theorem grown_of {w w' : World} (h : Below w.heap.size w w') : w.grownBy w' none := ⟨h.os, h.tape, h.output, h.size, fun k hk _ => h.block k hk⟩
theorem below_grown {w w' : World} (h : w.grownBy w' none) : Below w.heap.size w w' := ⟨h.os, h.tape, h.output, h.size, fun k hk => h.block k hk (by simp)⟩
abbrev str (s : Nm) : Value := .string ⟨s.toArray⟩
abbrev num (n : Int) : Value := .int .i64 n
theorem str_inj {s t : Nm} (h : str s = str t) : s = t := by simpa [str] using h
theorem str_of (x : ByteArray) : (Value.string x) = str x.data.toList := by simp [str]
theorem str_len (s : Nm) : (⟨s.toArray⟩ : ByteArray).size = s.length := by simp [ByteArray.size]
theorem tyS : Tryd.prog.underlying 9 = some .string := rfl
theorem tyI : Tryd.prog.underlying 3 = some (.int .i64) := rfl
theorem tyM : Tryd.prog.underlying 60 = some (.map 9 3) := rfl
theorem keyS : Keyed Tryd.prog 9 := string_keyed tyS
theorem key_of {s : Nm} (h : s.length ≤ maxLen) : keyOf Tryd.prog 9 (str s) = some (.string s) := by
  have := WideMaps.keyOf_string_mk (P := Tryd.prog) tyS (s := ⟨s.toArray⟩) (by rw [str_len]; exact h)
  simpa using this
theorem zeroI (w : World) : (zeroValue 3).run Tryd.prog w = .ok (.int .i64 0) w := by kernel_rfl
/-- Block b is a map that holds what m tells. -/
def MpN (w : World) (b : Nat) (m : List Cn) : Prop := w.ownsMap Tryd.prog 9 (plainElem Tryd.prog 3) b m.length (datum m)
section
variable {w w' : World} {b g : Nat} {m : List Cn} {s : Nm} {n : Int}
theorem tight {H : Type} {P : Program} {k : TypeId} {R : Value → Option (DataW H × List MemPlace)} {q : Nat} {D : DataW H} (h : w.ownsMap P k R b q D) : w.ownsMap P k R b (Maps.size D) D := by
  obtain ⟨es, clock, hb, F, hs, rfl⟩ := h
  exact ⟨es, clock, hb, F, by simp [Maps.size, length_sorted], rfl⟩
theorem MpN.lt (h : MpN w b m) : b < w.heap.size := World.ownsMap.lt h
theorem MpN.same (h : MpN w b m) (hs : w'.heap[b]? = w.heap[b]?) : MpN w' b m := by
  obtain ⟨es, clock, hb, r⟩ := h
  exact ⟨es, clock, hs.trans hb, r⟩
theorem MpN.st (h : MpN w b m) {G : Nat → Prop} (hs : St G w w') (hG : ¬ G b) : MpN w' b m := h.same (hs.block b h.lt hG)
theorem MpN.below (h : MpN w b m) (hb : Below w.heap.size w w') : MpN w' b m := h.same (hb.block b h.lt)
theorem MpN.new (w : World) : MpN (w.alloc (.map #[] 0)) w.heap.size [] := World.ownsMap_made w _ _ _
theorem look_at (h : MpN w b m) (hs : s.length ≤ maxLen) : (Instr.lookup 60 (.map (some b)) (str s) false).run Tryd.prog w = .ok (num (get m s)) w := by
  obtain ⟨c, hr, hat, _⟩ := World.ownsMap.lookup_int h keyS tyM tyI (zeroI w) (key_of hs)
  rw [at_datum] at hat
  rw [hr]
  unfold get
  cases hl : look m s with
  | none => rw [hl] at hat; simp only [DataW.lit.injEq, Lit.int.injEq, true_and] at hat; rw [← hat]; rfl
  | some v => rw [hl] at hat; simp only [DataW.lit.injEq, Lit.int.injEq, true_and] at hat; rw [← hat]; rfl
theorem look_ok (h : MpN w b m) (hs : s.length ≤ maxLen) : (Instr.lookup 60 (.map (some b)) (str s) true).run Tryd.prog w = .ok (.tuple #[num (get m s), .bool (look m s).isSome]) w := by
  obtain ⟨v, ps, hr, hv⟩ := World.ownsMap.look_ok h keyS tyM (zeroI w) (zd := .lit (.int .i64 0)) (zp := []) (plainElem_int tyI (by decide)) (key_of hs)
  obtain ⟨c, rfl, hc, _⟩ := plainElem_int_inv tyI hv
  rw [hr, has_datum]
  rw [at_datum] at hc
  unfold get
  cases hl : look m s with
  | none => rw [hl] at hc; simp only [Prod.mk.injEq, DataW.lit.injEq, Lit.int.injEq, true_and] at hc; rw [← hc.1]; rfl
  | some v => rw [hl] at hc; simp only [Prod.mk.injEq, DataW.lit.injEq, Lit.int.injEq, true_and] at hc; rw [← hc.1]; rfl
theorem map_len (h : MpN w b m) (ty : TypeId) : (Builtin.len_ #[60] ty #[.map (some b)]).run Tryd.prog w = .ok (.int .i64 m.length) w := by
  have := World.ownsMap.len h tyM ty
  rwa [size_datum] at this
theorem wf_num {n : Int} (h0 : 0 ≤ n) (h1 : n ≤ Most) : (Lit.int .i64 n).wf = true := by
  simp only [Most] at h1
  exact WalkArith.wf_i64 (by omega)
theorem store_to (h : MpN w b m) (hm : Srt m) (hl : m.length < maxLen) (hs : s.length ≤ maxLen) (h0 : 0 ≤ n) (h1 : n ≤ Most) : ∃ w', (Instr.mapUpdate 60 (.map (some b)) (str s) (num n)).run Tryd.prog w = .ok () w' ∧ MpN w' b (put m s n) ∧ St (· = b) w w' := by
  obtain ⟨w', hr, ho, hg⟩ := World.ownsMap.update h keyS tyM hl (key_of hs) (plainElem_int tyI (wf_num h0 h1))
  rw [datum_put hm] at ho
  have ht := tight ho
  rw [size_datum] at ht
  exact ⟨w', hr, ht, st_grown hg⟩
theorem run_eq_nil (d : Nat) (p : Option Nat) (w : World) : (Op.equalIn (d + 1) 60 (.map p) (.map none)).run Tryd.prog w = .ok p.isNone w := by
  cases p <;> simp [Op.equalIn, run_underlying tyM]
theorem run_eql_nil (p : Option Nat) (w : World) : (binOp .eql 60 (.map p) (.map none)).run Tryd.prog w = .ok (.bool p.isNone) w := by
  simp only [binOp]
  simp [show Op.equal 60 (.map p) (.map none) = Op.equalIn (9999 + 1) 60 (.map p) (.map none) from rfl, run_eq_nil 9999 p w]
theorem run_neq_nil (p : Option Nat) (w : World) : (binOp .neq 60 (.map p) (.map none)).run Tryd.prog w = .ok (.bool p.isSome) w := by
  simp only [binOp]
  simp [show Op.equal 60 (.map p) (.map none) = Op.equalIn (9999 + 1) 60 (.map p) (.map none) from rfl, run_eq_nil 9999 p w]
/-- An object g whose map is b. -/
structure CtC (w : World) (g b : Nat) (m : List Cn) : Prop where
  bk : Bk w 62 g [.map (some b)]
  mp : MpN w b m
  ok : Ok m
theorem CtC.ne (h : CtC w g b m) : g ≠ b := by
  rintro rfl
  obtain ⟨es, clock, hb, _⟩ := h.mp
  have := h.bk
  rw [Bk, hb] at this
  cases this
theorem CtC.same (h : CtC w g b m) (hg : w'.heap[g]? = w.heap[g]?) (hb : w'.heap[b]? = w.heap[b]?) : CtC w' g b m := ⟨hg.trans h.bk, h.mp.same hb, h.ok⟩
theorem CtC.below (h : CtC w g b m) (hb : Below w.heap.size w w') : CtC w' g b m := ⟨h.bk.below hb, h.mp.below hb, h.ok⟩
theorem CtC.st (h : CtC w g b m) {G : Nat → Prop} (hs : St G w w') (hg : ¬ G g) (hb : ¬ G b) : CtC w' g b m := ⟨h.bk.st hs hg, h.mp.st hs hb, h.ok⟩
/-- What a call that turns it leaves: its map's block alone is turned. -/
def Did (w : World) (g b : Nat) (m : List Cn) (w' : World) : Prop := CtC w' g b m ∧ St (· = b) w w'
theorem c_made (h : CtC w g b m) : Calls Tryd.prog 33 #[.pointer (some ⟨g, 0, none⟩)] w fun e w' => e = .returned (.bool true) ∧ w = w' := by
  have c0 := h.bk.cell 0 rfl
  have hq := run_neq_nil (some b) w
  simp only [Option.isSome_some] at hq
  go_enter Tryd.func33, Tryd.ntmps33
  go_wp2
  go_ret
  exact ⟨rfl, rfl⟩
/-- Nobody's: a nil one, or one whose map is nil. -/
def NoC (w : World) (A : Option Addr) : Prop := ∀ ad, A = some ad → ∃ g, ad = ⟨g, 0, none⟩ ∧ Bk w 62 g [.map none]
theorem n_made {A : Option Addr} (h : NoC w A) : Calls Tryd.prog 33 #[.pointer A] w fun e w' => e = .returned (.bool false) ∧ w = w' := by
  cases A with
  | none =>
    go_enter Tryd.func33, Tryd.ntmps33
    go_wp2
    go_ret
    exact ⟨rfl, rfl⟩
  | some ad =>
    obtain ⟨g, rfl, hb⟩ := h ad rfl
    have c0 := hb.cell 0 rfl
    have hq := run_neq_nil none w
    simp only [Option.isSome_none] at hq
    go_enter Tryd.func33, Tryd.ntmps33
    go_wp2
    go_ret
    exact ⟨rfl, rfl⟩
theorem c_has (h : CtC w g b m) (hs : s.length ≤ maxLen) : Calls Tryd.prog 34 #[.pointer (some ⟨g, 0, none⟩), str s] w fun e w' => e = .returned (.bool (look m s).isSome) ∧ w = w' := by
  have c0 := h.bk.cell 0 rfl
  have hl := look_ok h.mp hs
  go_enter Tryd.func34, Tryd.ntmps34
  go_wp2
  go_ret
  exact ⟨rfl, rfl⟩
theorem c_get (h : CtC w g b m) (hs : s.length ≤ maxLen) : Calls Tryd.prog 16 #[.pointer (some ⟨g, 0, none⟩), str s] w fun e w' => e = .returned (num (get m s)) ∧ w = w' := by
  have HM := Lib.hid (c_made h)
  have c0 := h.bk.cell 0 rfl
  have hl := look_at h.mp hs
  go_enter Tryd.func16, Tryd.ntmps16
  go_wp2_with (go_at_call 33; refine HM.out.mono ?_; rintro e w' ⟨rfl, rfl⟩)
  go_ret
  exact ⟨rfl, rfl⟩
end
end Go.Proofs.YtdepbdmnkkkjlaaDoor
