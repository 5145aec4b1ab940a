/- Bitmaps in memory: their bits, the asking calls. -/
import Derived.Test.YtopmfpdcdclffaaB1
import Derived.Test.YtopmfpdcdclffaaRegL
import Derived.BigQuiet
import Derived.Deep.QuietTactic
set_option linter.unusedSimpArgs false
set_option linter.unusedVariables false
namespace Go.Proofs.Ytopmfpdcdclffaa
open Go.RowKit Go.Shelf

def wordV (n : Nat) : Nat := n % 256 / 64
def bitV (n : Nat) : Nat := 2 ^ (n % 64)
theorem wordV_lt (n : Nat) : wordV n < 4 := by unfold wordV; omega
theorem bitV_lt (n : Nat) : bitV n < 2 ^ 64 := nat_pow_lt (by omega)
set_option maxHeartbeats 400000 in
theorem place_any (n : Nat) (hn : n < 9223372036854775808) (w : World) : Calls Try.prog 45 #[.int .i64 n] w fun e w' => e = .returned (.tuple #[.int .i64 (wordV n), .int .u64 (bitV n)]) ∧ Below w.heap.size w w' := by
  have e4 : IntKind.u64.wrap (2 ^ (n % 64)) = (bitV n : Int) := by
    have h := nat_pow_lt (j := n % 64) (by omega)
    have h2 : ((bitV n : Nat) : Int) = (2 : Int) ^ (n % 64) := by simp [bitV]
    rw [← h2]
    exact wraps64 _ (by omega) (by unfold bitV; exact_mod_cast h)
  have e5 : (n : Int) % 256 / 64 = (wordV n : Int) := by unfold wordV; omega
  have H4 := Lib.hid e4
  have H5 := Lib.hid e5
  clear e4 e5
  go_enter Try.func45, Try.ntmps45
  go_wp2
  go_quiet (fail)
  go_wp2
  exact bodyPost_ret (v := .tuple #[.int .i64 (wordV n), .int .u64 (bitV n)]) (by simp [results, Try.results45, go_sem, H4.out, H5.out]) rfl ⟨rfl, Below.drewN_ _ _⟩
/-- Where a bitmap lies: in block p, from cell o on; its type, and what lies before and behind. -/
structure Pl where
  p : Nat
  o : Nat
  t : TypeId
  pre : List Value
  suf : List Value
  len : pre.length = o
def Pl.all (P : Pl) (l : List Value) : List Value := P.pre ++ l ++ P.suf
theorem Pl.at (P : Pl) {l : List Value} {k : Nat} (hk : k < l.length) : (P.all l)[P.o + k]? = l[k]? := by
  unfold Pl.all
  rw [List.append_assoc, List.getElem?_append_right (by have := P.len; omega), List.getElem?_append_left (by have := P.len; omega)]
  congr 1
  have := P.len
  omega
theorem Pl.set (P : Pl) {l : List Value} {k : Nat} (hk : k < l.length) (x : Value) : (P.all l).set (P.o + k) x = P.all (l.set k x) := by
  unfold Pl.all
  have h := P.len
  rw [List.append_assoc, List.set_append_right _ _ (by omega), show P.o + k - P.pre.length = k from by omega, List.set_append_left _ _ hk, List.append_assoc]
theorem Pl.cut (P : Pl) (l : List Value) : ((P.all l).drop P.o).take l.length = l := by
  unfold Pl.all
  have h := P.len
  rw [List.append_assoc, ← h, List.drop_left, List.take_left]
/-- The bitmap B lies there. -/
def Bk5 (w : World) (P : Pl) (B : Bm) (m : Nat → Nat) : Prop := Bk w P.t P.p (P.all (B.mem m))
def Bmp (w : World) (P : Pl) (B : Bm) : Prop := B.ok ∧ ∃ m, Marks B m ∧ Bk5 w P B m
/-- The bitmap has become B', and all else is as it was. -/
structure Bd (P : Pl) (B' : Bm) (w w' : World) : Prop where
  bm : Bmp w' P B'
  st : St (· = P.p) w w'
theorem mem_len (B : Bm) (m : Nat → Nat) : (B.mem m).length = 6 := rfl
section
variable {w w' : World} {P : Pl} {B : Bm} {m : Nat → Nat}
theorem Bk5.cell (h : Bk5 w P B m) (k : Nat) {v : Value} (hv : (B.mem m)[k]? = some v) : w.cell? ⟨P.p, P.o + k, none⟩ = some v :=
  Bk.cell h (P.o + k) (by rw [P.at (by obtain ⟨hk, _⟩ := List.getElem?_eq_some_iff.1 hv; exact hk)]; exact hv)
theorem Bk5.cell0 (h : Bk5 w P B m) : w.cell? ⟨P.p, P.o, none⟩ = some (.int .i64 B.size) := h.cell 0 rfl
theorem Bk5.cellw (h : Bk5 w P B m) {k : Nat} (hk : k < 4) : w.cell? ⟨P.p, P.o + 2 + k, none⟩ = some (.int .u64 (m k)) := by
  rw [show P.o + 2 + k = P.o + (2 + k) from by omega]
  exact h.cell (2 + k) (B.mem_word m hk)
theorem Bk5.free (h : Bk5 w P B m) (i : Nat) : w.frozen? ⟨P.p, i, none⟩ = false := Bk.free h i
theorem Bk5.lt (h : Bk5 w P B m) : P.p < w.heap.size := Bk.lt h
theorem Bk5.below (h : Bk5 w P B m) (hb : Below w.heap.size w w') : Bk5 w' P B m := Bk.below h hb
theorem Bk5.st (h : Bk5 w P B m) {F : Nat → Prop} (hs : St F w w') (hF : ¬ F P.p) : Bk5 w' P B m := Bk.st h hs hF
theorem Bk5.setw (h : Bk5 w P B m) {k : Nat} (hk : k < 4) (x : Nat) : Bk5 (w.setCell ⟨P.p, P.o + 2 + k, none⟩ (.int .u64 x)) P B (upN m k x) := by
  have := Bk.set h (P.o + (2 + k)) (.int .u64 x)
  rw [P.set (by rw [mem_len]; omega), B.mem_set m hk, ← Nat.add_assoc] at this
  exact this
theorem Bk5.setb (h : Bk5 w P B m) : Bk5 (w.setCell ⟨P.p, P.o + 1, none⟩ (.int .i64 ((B.base : Int) + 1))) P (B.on 1) m := by
  have := Bk.set h (P.o + 1) (.int .i64 ((B.base : Int) + 1))
  rw [P.set (by rw [mem_len]; omega)] at this
  exact this
theorem Bmp.lt (h : Bmp w P B) : P.p < w.heap.size := by obtain ⟨_, m, _, hb⟩ := h; exact hb.lt
theorem Bmp.below (h : Bmp w P B) (hb : Below w.heap.size w w') : Bmp w' P B := by obtain ⟨h1, m, h2, h3⟩ := h; exact ⟨h1, m, h2, h3.below hb⟩
theorem Bmp.st (h : Bmp w P B) {F : Nat → Prop} (hs : St F w w') (hF : ¬ F P.p) : Bmp w' P B := by obtain ⟨h1, m, h2, h3⟩ := h; exact ⟨h1, m, h2, h3.st hs hF⟩
theorem marks_has (h : Bk5 w P B m) (hm : ∀ k, m k < 2 ^ 64) (n : Nat) (hn : n < 9223372036854775808) :
    Calls Try.prog 43 #[.pointer (some ⟨P.p, P.o + 2, none⟩), .int .i64 n] w fun e w' => e = .returned (.bool ((m (n % 256 / 64)).testBit (n % 64))) ∧ Below w.heap.size w w' := by
  have hw := wordV_lt n
  have hw' : (wordV n : Int) < 4 := by omega
  have hd : (bits .and .u64 (m (wordV n)) (bitV n) != 0) = (m (n % 256 / 64)).testBit (n % 64) := by
    rw [bits_and (hm _) (bitV_lt n), bitV]
    have := and_bit (m (wordV n)) (n % 64)
    cases h : (m (n % 256 / 64)).testBit (n % 64) with
    | true =>
      rw [show wordV n = n % 256 / 64 from rfl, h] at this
      simp only [Bool.not_true, decide_eq_false_iff_not] at this
      simp only [bne_iff_ne, ne_eq]
      exact fun h0 => this (by exact_mod_cast h0)
    | false =>
      rw [show wordV n = n % 256 / 64 from rfl, h] at this
      simp only [Bool.not_false, decide_eq_true_eq] at this
      rw [show wordV n = n % 256 / 64 from rfl, this]
      rfl
  have HD := Lib.hid hd
  have HH := Lib.hid h
  clear hd h
  go_enter Try.func43, Try.ntmps43
  go_wp2_with fail
  refine (place_any n hn w).mono ?_
  rintro e w1 ⟨rfl, hb1⟩
  have c0 := (HH.out.below hb1).cellw hw
  have HB := Lib.hid hb1
  clear hb1
  go_wp2
  go_ret
  exact ⟨by rw [← HD.out]; rfl, HB.out⟩
set_option maxRecDepth 100000 in
set_option maxHeartbeats 1000000 in
theorem marks_put (h : Bk5 w P B m) (hm : ∀ k, m k < 2 ^ 64) (n : Nat) (hn : n < 9223372036854775808) :
    Calls Try.prog 40 #[.pointer (some ⟨P.p, P.o + 2, none⟩), .int .i64 n] w fun e w' => (∃ v, e = .returned v) ∧ Bk5 w' P B (upN m (n % 256 / 64) (m (n % 256 / 64) ||| 2 ^ (n % 64))) ∧ St (· = P.p) w w' := by
  have hw := wordV_lt n
  have hw' : (wordV n : Int) < 4 := by omega
  have hd : bits .or .u64 (m (wordV n)) (bitV n) = ((m (wordV n) ||| bitV n : Nat) : Int) := bits_or (hm _) (bitV_lt n)
  have HH := Lib.hid h
  have HD := Lib.hid hd
  clear h hd
  go_enter Try.func40, Try.ntmps40
  go_wp2_with fail
  refine (place_any n hn w).mono ?_
  rintro e w1 ⟨rfl, hb1⟩
  have HR := Lib.hid (HH.out.below hb1)
  have HB := Lib.hid hb1
  clear hb1
  go_wp2
  refine wp_region_L Ext [9] (by kernel_rfl) (fun wd hbd hsz => ?_)
  have hbk := HR.out.below hbd
  have q0 : ∀ W, Ext wd W → W.cell? ⟨P.p, P.o + 2 + wordV n, none⟩ = some (.int .u64 (m (wordV n))) := fun W hW => (hbk.below hW).cellw hw
  have f0 := hbk.free (P.o + 2 + wordV n)
  have c0 := hbk.cellw hw
  have HB2 := Lib.hid hbd
  have HK := Lib.hid (hbk.setw hw (m (wordV n) ||| bitV n))
  clear hsz
  (refine takeL Ext.tr 0 (by simp only [List.getElem?_toArray, List.getElem?_cons_succ, List.getElem?_cons_zero]; rfl) (by kernel_rfl) (by kernel_rfl) (by kernel_rfl) (by kernel_rfl) (by exact fun _ _ _ h => h) (by first | (refine Or.inl ⟨by rfl, ?_⟩; intro W hW; go_simp; try with_reducible rfl) | exact Or.inr ⟨by rfl, rfl⟩) ?_; try simp only [Act.put, List.setIfInBounds_toArray, List.set_cons_zero, List.set_cons_succ])
  (refine takeL Ext.tr 1 (by simp only [List.getElem?_toArray, List.getElem?_cons_succ, List.getElem?_cons_zero]; rfl) (by kernel_rfl) (by kernel_rfl) (by kernel_rfl) (by kernel_rfl) (by exact fun _ _ _ h => h) (by first | (refine Or.inl ⟨by rfl, ?_⟩; intro W hW; go_simp; try with_reducible rfl) | exact Or.inr ⟨by rfl, rfl⟩) ?_; try simp only [Act.put, List.setIfInBounds_toArray, List.set_cons_zero, List.set_cons_succ])
  (refine takeL Ext.tr 5 (by simp only [List.getElem?_toArray, List.getElem?_cons_succ, List.getElem?_cons_zero]; rfl) (by kernel_rfl) (by kernel_rfl) (by kernel_rfl) (by kernel_rfl) (by exact fun _ _ _ h => h) (by first | (refine Or.inl ⟨by rfl, ?_⟩; intro W hW; go_simp; try with_reducible rfl) | exact Or.inr ⟨by rfl, rfl⟩) ?_; try simp only [Act.put, List.setIfInBounds_toArray, List.set_cons_zero, List.set_cons_succ])
  (refine takeL Ext.tr 2 (by simp only [List.getElem?_toArray, List.getElem?_cons_succ, List.getElem?_cons_zero]; rfl) (by kernel_rfl) (by kernel_rfl) (by kernel_rfl) (by kernel_rfl) (by exact fun _ _ _ h => h) (by first | (refine Or.inl ⟨by rfl, ?_⟩; intro W hW; go_simp; try with_reducible rfl) | exact Or.inr ⟨by rfl, rfl⟩) ?_; try simp only [Act.put, List.setIfInBounds_toArray, List.set_cons_zero, List.set_cons_succ])
  (refine takeL Ext.tr 7 (by simp only [List.getElem?_toArray, List.getElem?_cons_succ, List.getElem?_cons_zero]; rfl) (by kernel_rfl) (by kernel_rfl) (by kernel_rfl) (by kernel_rfl) (by exact fun _ _ _ h => h) (by first | (refine Or.inl ⟨by rfl, ?_⟩; intro W hW; go_simp; try with_reducible rfl) | exact Or.inr ⟨by rfl, rfl⟩) ?_; try simp only [Act.put, List.setIfInBounds_toArray, List.set_cons_zero, List.set_cons_succ])
  (refine takeL Ext.tr 3 (by simp only [List.getElem?_toArray, List.getElem?_cons_succ, List.getElem?_cons_zero]; rfl) (by kernel_rfl) (by kernel_rfl) (by kernel_rfl) (by kernel_rfl) (by exact fun _ _ _ h => h) (by first | (refine Or.inl ⟨by rfl, ?_⟩; intro W hW; go_simp; try with_reducible rfl) | exact Or.inr ⟨by rfl, rfl⟩) ?_; try simp only [Act.put, List.setIfInBounds_toArray, List.set_cons_zero, List.set_cons_succ])
  (refine takeL Ext.tr 4 (by simp only [List.getElem?_toArray, List.getElem?_cons_succ, List.getElem?_cons_zero]; rfl) (by kernel_rfl) (by kernel_rfl) (by kernel_rfl) (by kernel_rfl) (by exact fun _ _ _ h => h) (by first | (refine Or.inl ⟨by rfl, ?_⟩; intro W hW; go_simp; try with_reducible rfl) | exact Or.inr ⟨by rfl, rfl⟩) ?_; try simp only [Act.put, List.setIfInBounds_toArray, List.set_cons_zero, List.set_cons_succ])
  (refine takeL Ext.tr 6 (by simp only [List.getElem?_toArray, List.getElem?_cons_succ, List.getElem?_cons_zero]; rfl) (by kernel_rfl) (by kernel_rfl) (by kernel_rfl) (by kernel_rfl) (by exact fun _ _ _ h => h) (by first | (refine Or.inl ⟨by rfl, ?_⟩; intro W hW; go_simp; try with_reducible rfl) | exact Or.inr ⟨by rfl, rfl⟩) ?_; try simp only [Act.put, List.setIfInBounds_toArray, List.set_cons_zero, List.set_cons_succ])
  (refine takeL Ext.tr 8 (by simp only [List.getElem?_toArray, List.getElem?_cons_succ, List.getElem?_cons_zero]; rfl) (by kernel_rfl) (by kernel_rfl) (by kernel_rfl) (by kernel_rfl) (by exact fun _ _ _ h => h) (by first | (refine Or.inl ⟨by rfl, ?_⟩; intro W hW; go_simp; try with_reducible rfl) | exact Or.inr ⟨by rfl, rfl⟩) ?_; try simp only [Act.put, List.setIfInBounds_toArray, List.set_cons_zero, List.set_cons_succ])
  refine wpAnyL_one (i := 9) (by kernel_rfl) (by simp only [List.getElem?_toArray, List.getElem?_cons_succ, List.getElem?_cons_zero]; rfl) (fun K hK => ?_)
  go_simp
  refine hK.out _ _ (.inl (by decide)) ?_
  clear hK K
  try simp only [Act.put, List.setIfInBounds_toArray, List.set_cons_zero, List.set_cons_succ]
  refine wpAnyL_done (by kernel_rfl) ?_ _
  skip
  have HK2 := HK.out
  have HQ := Lib.hid (And.intro HK2 ((St.of_below HB.out (F := (· = P.p)) (fun k hk _ => hk)).trans ((St.of_below HB2.out (F := (· = P.p)) (fun k hk _ => hk)).trans (St.setCell wd (a := ⟨P.p, P.o + 2 + wordV n, none⟩) (F := (· = P.p)) rfl (.int .u64 ((m (wordV n) ||| bitV n : Nat) : Int))) (Gr.refl _ _)) (Gr.refl _ _)))
  clear HK2
  rw [HD.out]
  go_wp2
  go_end0
  exact ⟨⟨_, rfl⟩, HQ.out⟩
set_option maxRecDepth 100000 in
set_option maxHeartbeats 1000000 in
theorem marks_drop (h : Bk5 w P B m) (hm : ∀ k, m k < 2 ^ 64) (n : Nat) (hn : n < 9223372036854775808) :
    Calls Try.prog 41 #[.pointer (some ⟨P.p, P.o + 2, none⟩), .int .i64 n] w fun e w' => (∃ v, e = .returned v) ∧ Bk5 w' P B (upN m (n % 256 / 64) (noBit (m (n % 256 / 64)) (n % 64))) ∧ St (· = P.p) w w' := by
  have hw := wordV_lt n
  have hw' : (wordV n : Int) < 4 := by omega
  have hd : bits .andNot .u64 (m (wordV n)) (bitV n) = ((noBit (m (wordV n)) (n % 64) : Nat) : Int) := bits_andNot (hm _) (by omega)
  have HH := Lib.hid h
  have HD := Lib.hid hd
  clear h hd
  go_enter Try.func41, Try.ntmps41
  go_wp2_with fail
  refine (place_any n hn w).mono ?_
  rintro e w1 ⟨rfl, hb1⟩
  have HR := Lib.hid (HH.out.below hb1)
  have HB := Lib.hid hb1
  clear hb1
  go_wp2
  refine wp_region_L Ext [9] (by kernel_rfl) (fun wd hbd hsz => ?_)
  have hbk := HR.out.below hbd
  have q0 : ∀ W, Ext wd W → W.cell? ⟨P.p, P.o + 2 + wordV n, none⟩ = some (.int .u64 (m (wordV n))) := fun W hW => (hbk.below hW).cellw hw
  have f0 := hbk.free (P.o + 2 + wordV n)
  have c0 := hbk.cellw hw
  have HB2 := Lib.hid hbd
  have HK := Lib.hid (hbk.setw hw (noBit (m (wordV n)) (n % 64)))
  clear hsz
  (refine takeL Ext.tr 0 (by simp only [List.getElem?_toArray, List.getElem?_cons_succ, List.getElem?_cons_zero]; rfl) (by kernel_rfl) (by kernel_rfl) (by kernel_rfl) (by kernel_rfl) (by exact fun _ _ _ h => h) (by first | (refine Or.inl ⟨by rfl, ?_⟩; intro W hW; go_simp; try with_reducible rfl) | exact Or.inr ⟨by rfl, rfl⟩) ?_; try simp only [Act.put, List.setIfInBounds_toArray, List.set_cons_zero, List.set_cons_succ])
  (refine takeL Ext.tr 1 (by simp only [List.getElem?_toArray, List.getElem?_cons_succ, List.getElem?_cons_zero]; rfl) (by kernel_rfl) (by kernel_rfl) (by kernel_rfl) (by kernel_rfl) (by exact fun _ _ _ h => h) (by first | (refine Or.inl ⟨by rfl, ?_⟩; intro W hW; go_simp; try with_reducible rfl) | exact Or.inr ⟨by rfl, rfl⟩) ?_; try simp only [Act.put, List.setIfInBounds_toArray, List.set_cons_zero, List.set_cons_succ])
  (refine takeL Ext.tr 5 (by simp only [List.getElem?_toArray, List.getElem?_cons_succ, List.getElem?_cons_zero]; rfl) (by kernel_rfl) (by kernel_rfl) (by kernel_rfl) (by kernel_rfl) (by exact fun _ _ _ h => h) (by first | (refine Or.inl ⟨by rfl, ?_⟩; intro W hW; go_simp; try with_reducible rfl) | exact Or.inr ⟨by rfl, rfl⟩) ?_; try simp only [Act.put, List.setIfInBounds_toArray, List.set_cons_zero, List.set_cons_succ])
  (refine takeL Ext.tr 2 (by simp only [List.getElem?_toArray, List.getElem?_cons_succ, List.getElem?_cons_zero]; rfl) (by kernel_rfl) (by kernel_rfl) (by kernel_rfl) (by kernel_rfl) (by exact fun _ _ _ h => h) (by first | (refine Or.inl ⟨by rfl, ?_⟩; intro W hW; go_simp; try with_reducible rfl) | exact Or.inr ⟨by rfl, rfl⟩) ?_; try simp only [Act.put, List.setIfInBounds_toArray, List.set_cons_zero, List.set_cons_succ])
  (refine takeL Ext.tr 7 (by simp only [List.getElem?_toArray, List.getElem?_cons_succ, List.getElem?_cons_zero]; rfl) (by kernel_rfl) (by kernel_rfl) (by kernel_rfl) (by kernel_rfl) (by exact fun _ _ _ h => h) (by first | (refine Or.inl ⟨by rfl, ?_⟩; intro W hW; go_simp; try with_reducible rfl) | exact Or.inr ⟨by rfl, rfl⟩) ?_; try simp only [Act.put, List.setIfInBounds_toArray, List.set_cons_zero, List.set_cons_succ])
  (refine takeL Ext.tr 3 (by simp only [List.getElem?_toArray, List.getElem?_cons_succ, List.getElem?_cons_zero]; rfl) (by kernel_rfl) (by kernel_rfl) (by kernel_rfl) (by kernel_rfl) (by exact fun _ _ _ h => h) (by first | (refine Or.inl ⟨by rfl, ?_⟩; intro W hW; go_simp; try with_reducible rfl) | exact Or.inr ⟨by rfl, rfl⟩) ?_; try simp only [Act.put, List.setIfInBounds_toArray, List.set_cons_zero, List.set_cons_succ])
  (refine takeL Ext.tr 4 (by simp only [List.getElem?_toArray, List.getElem?_cons_succ, List.getElem?_cons_zero]; rfl) (by kernel_rfl) (by kernel_rfl) (by kernel_rfl) (by kernel_rfl) (by exact fun _ _ _ h => h) (by first | (refine Or.inl ⟨by rfl, ?_⟩; intro W hW; go_simp; try with_reducible rfl) | exact Or.inr ⟨by rfl, rfl⟩) ?_; try simp only [Act.put, List.setIfInBounds_toArray, List.set_cons_zero, List.set_cons_succ])
  (refine takeL Ext.tr 6 (by simp only [List.getElem?_toArray, List.getElem?_cons_succ, List.getElem?_cons_zero]; rfl) (by kernel_rfl) (by kernel_rfl) (by kernel_rfl) (by kernel_rfl) (by exact fun _ _ _ h => h) (by first | (refine Or.inl ⟨by rfl, ?_⟩; intro W hW; go_simp; try with_reducible rfl) | exact Or.inr ⟨by rfl, rfl⟩) ?_; try simp only [Act.put, List.setIfInBounds_toArray, List.set_cons_zero, List.set_cons_succ])
  (refine takeL Ext.tr 8 (by simp only [List.getElem?_toArray, List.getElem?_cons_succ, List.getElem?_cons_zero]; rfl) (by kernel_rfl) (by kernel_rfl) (by kernel_rfl) (by kernel_rfl) (by exact fun _ _ _ h => h) (by first | (refine Or.inl ⟨by rfl, ?_⟩; intro W hW; go_simp; try with_reducible rfl) | exact Or.inr ⟨by rfl, rfl⟩) ?_; try simp only [Act.put, List.setIfInBounds_toArray, List.set_cons_zero, List.set_cons_succ])
  refine wpAnyL_one (i := 9) (by kernel_rfl) (by simp only [List.getElem?_toArray, List.getElem?_cons_succ, List.getElem?_cons_zero]; rfl) (fun K hK => ?_)
  go_simp
  refine hK.out _ _ (.inl (by decide)) ?_
  clear hK K
  try simp only [Act.put, List.setIfInBounds_toArray, List.set_cons_zero, List.set_cons_succ]
  refine wpAnyL_done (by kernel_rfl) ?_ _
  skip
  have HK2 := HK.out
  have HQ := Lib.hid (And.intro HK2 ((St.of_below HB.out (F := (· = P.p)) (fun k hk _ => hk)).trans ((St.of_below HB2.out (F := (· = P.p)) (fun k hk _ => hk)).trans (St.setCell wd (a := ⟨P.p, P.o + 2 + wordV n, none⟩) (F := (· = P.p)) rfl (.int .u64 ((noBit (m (wordV n)) (n % 64) : Nat) : Int))) (Gr.refl _ _)) (Gr.refl _ _)))
  clear HK2
  rw [HD.out]
  go_wp2
  go_end0
  exact ⟨⟨_, rfl⟩, HQ.out⟩
end
end Go.Proofs.Ytopmfpdcdclffaa
