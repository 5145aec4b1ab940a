/- Bitmaps in memory: their bits, the asking calls. -/
import Derived.Test.YtmmjhijgedboiaaB1
import Derived.Test.YtmmjhijgedboiaaRegL
import Derived.BigQuiet
import Derived.Deep.QuietTactic
set_option linter.unusedSimpArgs false
set_option linter.unusedVariables false
set_option maxRecDepth 100000
namespace Go.Proofs.Ytmmjhijgedboiaa
open Go.RowKit Go.Shelf

def wordV (n : Nat) : Nat := n % 256 / 64
def bitV (n : Nat) : Nat := 2 ^ (n % 64)
theorem wordV_lt (n : Nat) : wordV n < 4 := by unfold wordV; omega
theorem bitV_lt (n : Nat) : bitV n < 2 ^ 64 := nat_pow_lt (by omega)
set_option maxHeartbeats 400000 in
theorem place_any (n : Nat) (hn : n < 9223372036854775808) (w : World) : Calls Try.prog 67 #[.int .i64 n] w fun e w' => e = .returned (.tuple #[.int .i64 (wordV n), .int .u64 (bitV n)]) ∧ Below w.heap.size w w' := by
  have e4 : IntKind.u64.wrap (2 ^ (n % 64)) = (bitV n : Int) := by
    have h := nat_pow_lt (j := n % 64) (by omega)
    have h2 : ((bitV n : Nat) : Int) = (2 : Int) ^ (n % 64) := by simp [bitV]
    rw [← h2]
    exact wraps64 _ (by omega) (by unfold bitV; exact_mod_cast h)
  have e5 : (n : Int) % 256 / 64 = (wordV n : Int) := by unfold wordV; omega
  have H4 := Lib.hid e4
  have H5 := Lib.hid e5
  clear e4 e5
  go_enter Try.func67, Try.ntmps67
  go_wp2
  go_quiet (fail)
  go_wp2
  exact bodyPost_ret (v := .tuple #[.int .i64 (wordV n), .int .u64 (bitV n)]) (by simp [results, Try.results67, go_sem, H4.out, H5.out]) rfl ⟨rfl, Below.drewN_ _ _⟩
/-- Block p is the bitmap B. -/
abbrev Bk5 (w : World) (p : Nat) (B : Bm) (m : Nat → Nat) : Prop := Bk w 115 p (B.mem m)
def Bmp (w : World) (p : Nat) (B : Bm) : Prop := B.ok ∧ ∃ m, Marks B m ∧ Bk5 w p B m
/-- The bitmap has become B', and all else is as it was. -/
structure Bd (p : Nat) (B' : Bm) (w w' : World) : Prop where
  bm : Bmp w' p B'
  st : St (· = p) w w'
section
variable {w w' : World} {p : Nat} {B : Bm} {m : Nat → Nat}
theorem Bmp.lt (h : Bmp w p B) : p < w.heap.size := by obtain ⟨_, m, _, hb⟩ := h; exact hb.lt
theorem Bmp.below (h : Bmp w p B) (hb : Below w.heap.size w w') : Bmp w' p B := by obtain ⟨h1, m, h2, h3⟩ := h; exact ⟨h1, m, h2, h3.below hb⟩
theorem Bmp.st (h : Bmp w p B) {F : Nat → Prop} (hs : St F w w') (hF : ¬ F p) : Bmp w' p B := by obtain ⟨h1, m, h2, h3⟩ := h; exact ⟨h1, m, h2, h3.st hs hF⟩
theorem marks_has (h : Bk5 w p B m) (hm : ∀ k, m k < 2 ^ 64) (n : Nat) (hn : n < 9223372036854775808) :
    Calls Try.prog 55 #[.pointer (some ⟨p, 2, none⟩), .int .i64 n] w fun e w' => e = .returned (.bool ((m (n % 256 / 64)).testBit (n % 64))) ∧ Below w.heap.size w w' := by
  have hw := wordV_lt n
  have hw' : (wordV n : Int) < 4 := by omega
  have hd : (bits .and .u64 (m (wordV n)) (bitV n) != 0) = (m (n % 256 / 64)).testBit (n % 64) := by
    rw [bits_and (hm _) (bitV_lt n), bitV]
    have := and_bit (m (wordV n)) (n % 64)
    cases h : (m (n % 256 / 64)).testBit (n % 64) with
    | true =>
      rw [show wordV n = n % 256 / 64 from rfl, h] at this
      simp only [Bool.not_true, decide_eq_false_iff_not] at this
      simp only [bne_iff_ne, ne_eq]
      exact fun h0 => this (by exact_mod_cast h0)
    | false =>
      rw [show wordV n = n % 256 / 64 from rfl, h] at this
      simp only [Bool.not_false, decide_eq_true_eq] at this
      rw [show wordV n = n % 256 / 64 from rfl, this]
      rfl
  have HD := Lib.hid hd
  have HH := Lib.hid h
  clear hd h
  go_enter Try.func55, Try.ntmps55
  go_wp2_with fail
  refine (place_any n hn w).mono ?_
  rintro e w1 ⟨rfl, hb1⟩
  have c0 := (HH.out.below hb1).cell _ (B.mem_word m hw)
  have HB := Lib.hid hb1
  clear hb1
  go_wp2
  go_ret
  exact ⟨by rw [← HD.out]; rfl, HB.out⟩
set_option maxRecDepth 100000 in
set_option maxHeartbeats 1000000 in
theorem marks_put (h : Bk5 w p B m) (hm : ∀ k, m k < 2 ^ 64) (n : Nat) (hn : n < 9223372036854775808) :
    Calls Try.prog 68 #[.pointer (some ⟨p, 2, none⟩), .int .i64 n] w fun e w' => (∃ v, e = .returned v) ∧ Bk5 w' p B (upN m (n % 256 / 64) (m (n % 256 / 64) ||| 2 ^ (n % 64))) ∧ St (· = p) w w' := by
  have hw := wordV_lt n
  have hw' : (wordV n : Int) < 4 := by omega
  have hd : bits .or .u64 (m (wordV n)) (bitV n) = ((m (wordV n) ||| bitV n : Nat) : Int) := bits_or (hm _) (bitV_lt n)
  have HS := Lib.hid (B.mem_set m hw (m (wordV n) ||| bitV n))
  have HC := Lib.hid (B.mem_word m hw)
  have HH := Lib.hid h
  have HD := Lib.hid hd
  clear h hd
  go_enter Try.func68, Try.ntmps68
  go_wp2_with fail
  refine (place_any n hn w).mono ?_
  rintro e w1 ⟨rfl, hb1⟩
  have HR := Lib.hid (HH.out.below hb1)
  have HB := Lib.hid hb1
  clear hb1
  go_wp2
  refine wp_region_L Ext [9] (by kernel_rfl) (fun wd hbd hsz => ?_)
  have hbk := HR.out.below hbd
  have q0 : ∀ W, Ext wd W → W.cell? ⟨p, 2 + wordV n, none⟩ = some (.int .u64 (m (wordV n))) := fun W hW => (hbk.below hW).cell _ HC.out
  have f0 := hbk.free (2 + wordV n)
  have c0 := hbk.cell _ HC.out
  have HB2 := Lib.hid hbd
  have HK := Lib.hid (hbk.set (2 + wordV n) (.int .u64 (bits .or .u64 (m (wordV n)) (bitV n))))
  clear hsz
  (refine takeL Ext.tr 0 (by simp only [List.getElem?_toArray, List.getElem?_cons_succ, List.getElem?_cons_zero]; rfl) (by kernel_rfl) (by kernel_rfl) (by kernel_rfl) (by kernel_rfl) (by exact fun _ _ _ h => h) (by first | (refine Or.inl ⟨by rfl, ?_⟩; intro W hW; go_simp; try with_reducible rfl) | exact Or.inr ⟨by rfl, rfl⟩) ?_; try simp only [Act.put, List.setIfInBounds_toArray, List.set_cons_zero, List.set_cons_succ])
  (refine takeL Ext.tr 1 (by simp only [List.getElem?_toArray, List.getElem?_cons_succ, List.getElem?_cons_zero]; rfl) (by kernel_rfl) (by kernel_rfl) (by kernel_rfl) (by kernel_rfl) (by exact fun _ _ _ h => h) (by first | (refine Or.inl ⟨by rfl, ?_⟩; intro W hW; go_simp; try with_reducible rfl) | exact Or.inr ⟨by rfl, rfl⟩) ?_; try simp only [Act.put, List.setIfInBounds_toArray, List.set_cons_zero, List.set_cons_succ])
  (refine takeL Ext.tr 5 (by simp only [List.getElem?_toArray, List.getElem?_cons_succ, List.getElem?_cons_zero]; rfl) (by kernel_rfl) (by kernel_rfl) (by kernel_rfl) (by kernel_rfl) (by exact fun _ _ _ h => h) (by first | (refine Or.inl ⟨by rfl, ?_⟩; intro W hW; go_simp; try with_reducible rfl) | exact Or.inr ⟨by rfl, rfl⟩) ?_; try simp only [Act.put, List.setIfInBounds_toArray, List.set_cons_zero, List.set_cons_succ])
  (refine takeL Ext.tr 2 (by simp only [List.getElem?_toArray, List.getElem?_cons_succ, List.getElem?_cons_zero]; rfl) (by kernel_rfl) (by kernel_rfl) (by kernel_rfl) (by kernel_rfl) (by exact fun _ _ _ h => h) (by first | (refine Or.inl ⟨by rfl, ?_⟩; intro W hW; go_simp; try with_reducible rfl) | exact Or.inr ⟨by rfl, rfl⟩) ?_; try simp only [Act.put, List.setIfInBounds_toArray, List.set_cons_zero, List.set_cons_succ])
  (refine takeL Ext.tr 7 (by simp only [List.getElem?_toArray, List.getElem?_cons_succ, List.getElem?_cons_zero]; rfl) (by kernel_rfl) (by kernel_rfl) (by kernel_rfl) (by kernel_rfl) (by exact fun _ _ _ h => h) (by first | (refine Or.inl ⟨by rfl, ?_⟩; intro W hW; go_simp; try with_reducible rfl) | exact Or.inr ⟨by rfl, rfl⟩) ?_; try simp only [Act.put, List.setIfInBounds_toArray, List.set_cons_zero, List.set_cons_succ])
  (refine takeL Ext.tr 3 (by simp only [List.getElem?_toArray, List.getElem?_cons_succ, List.getElem?_cons_zero]; rfl) (by kernel_rfl) (by kernel_rfl) (by kernel_rfl) (by kernel_rfl) (by exact fun _ _ _ h => h) (by first | (refine Or.inl ⟨by rfl, ?_⟩; intro W hW; go_simp; try with_reducible rfl) | exact Or.inr ⟨by rfl, rfl⟩) ?_; try simp only [Act.put, List.setIfInBounds_toArray, List.set_cons_zero, List.set_cons_succ])
  (refine takeL Ext.tr 4 (by simp only [List.getElem?_toArray, List.getElem?_cons_succ, List.getElem?_cons_zero]; rfl) (by kernel_rfl) (by kernel_rfl) (by kernel_rfl) (by kernel_rfl) (by exact fun _ _ _ h => h) (by first | (refine Or.inl ⟨by rfl, ?_⟩; intro W hW; go_simp; try with_reducible rfl) | exact Or.inr ⟨by rfl, rfl⟩) ?_; try simp only [Act.put, List.setIfInBounds_toArray, List.set_cons_zero, List.set_cons_succ])
  (refine takeL Ext.tr 6 (by simp only [List.getElem?_toArray, List.getElem?_cons_succ, List.getElem?_cons_zero]; rfl) (by kernel_rfl) (by kernel_rfl) (by kernel_rfl) (by kernel_rfl) (by exact fun _ _ _ h => h) (by first | (refine Or.inl ⟨by rfl, ?_⟩; intro W hW; go_simp; try with_reducible rfl) | exact Or.inr ⟨by rfl, rfl⟩) ?_; try simp only [Act.put, List.setIfInBounds_toArray, List.set_cons_zero, List.set_cons_succ])
  (refine takeL Ext.tr 8 (by simp only [List.getElem?_toArray, List.getElem?_cons_succ, List.getElem?_cons_zero]; rfl) (by kernel_rfl) (by kernel_rfl) (by kernel_rfl) (by kernel_rfl) (by exact fun _ _ _ h => h) (by first | (refine Or.inl ⟨by rfl, ?_⟩; intro W hW; go_simp; try with_reducible rfl) | exact Or.inr ⟨by rfl, rfl⟩) ?_; try simp only [Act.put, List.setIfInBounds_toArray, List.set_cons_zero, List.set_cons_succ])
  refine wpAnyL_one (i := 9) (by kernel_rfl) (by simp only [List.getElem?_toArray, List.getElem?_cons_succ, List.getElem?_cons_zero]; rfl) (fun K hK => ?_)
  go_simp
  refine hK.out _ _ (.inl (by decide)) ?_
  clear hK K
  try simp only [Act.put, List.setIfInBounds_toArray, List.set_cons_zero, List.set_cons_succ]
  refine wpAnyL_done (by kernel_rfl) ?_ _
  skip
  rw [HD.out] at HK
  have HK2 := HK.out
  rw [HS.out] at HK2
  have HQ := Lib.hid (And.intro HK2 ((St.of_below HB.out (F := (· = p)) (fun k hk _ => hk)).trans ((St.of_below HB2.out (F := (· = p)) (fun k hk _ => hk)).trans (St.setCell wd (a := ⟨p, 2 + wordV n, none⟩) (F := (· = p)) rfl (.int .u64 ((m (wordV n) ||| bitV n : Nat) : Int))) (Gr.refl _ _)) (Gr.refl _ _)))
  clear HK2
  rw [HD.out]
  go_wp2
  go_end0
  exact ⟨⟨_, rfl⟩, HQ.out⟩
set_option maxRecDepth 100000 in
set_option maxHeartbeats 1000000 in
theorem marks_drop (h : Bk5 w p B m) (hm : ∀ k, m k < 2 ^ 64) (n : Nat) (hn : n < 9223372036854775808) :
    Calls Try.prog 73 #[.pointer (some ⟨p, 2, none⟩), .int .i64 n] w fun e w' => (∃ v, e = .returned v) ∧ Bk5 w' p B (upN m (n % 256 / 64) (noBit (m (n % 256 / 64)) (n % 64))) ∧ St (· = p) w w' := by
  have hw := wordV_lt n
  have hw' : (wordV n : Int) < 4 := by omega
  have hd : bits .andNot .u64 (m (wordV n)) (bitV n) = ((noBit (m (wordV n)) (n % 64) : Nat) : Int) := bits_andNot (hm _) (by omega)
  have HS := Lib.hid (B.mem_set m hw (noBit (m (wordV n)) (n % 64)))
  have HC := Lib.hid (B.mem_word m hw)
  have HH := Lib.hid h
  have HD := Lib.hid hd
  clear h hd
  go_enter Try.func73, Try.ntmps73
  go_wp2_with fail
  refine (place_any n hn w).mono ?_
  rintro e w1 ⟨rfl, hb1⟩
  have HR := Lib.hid (HH.out.below hb1)
  have HB := Lib.hid hb1
  clear hb1
  go_wp2
  refine wp_region_L Ext [9] (by kernel_rfl) (fun wd hbd hsz => ?_)
  have hbk := HR.out.below hbd
  have q0 : ∀ W, Ext wd W → W.cell? ⟨p, 2 + wordV n, none⟩ = some (.int .u64 (m (wordV n))) := fun W hW => (hbk.below hW).cell _ HC.out
  have f0 := hbk.free (2 + wordV n)
  have c0 := hbk.cell _ HC.out
  have HB2 := Lib.hid hbd
  have HK := Lib.hid (hbk.set (2 + wordV n) (.int .u64 (bits .andNot .u64 (m (wordV n)) (bitV n))))
  clear hsz
  (refine takeL Ext.tr 0 (by simp only [List.getElem?_toArray, List.getElem?_cons_succ, List.getElem?_cons_zero]; rfl) (by kernel_rfl) (by kernel_rfl) (by kernel_rfl) (by kernel_rfl) (by exact fun _ _ _ h => h) (by first | (refine Or.inl ⟨by rfl, ?_⟩; intro W hW; go_simp; try with_reducible rfl) | exact Or.inr ⟨by rfl, rfl⟩) ?_; try simp only [Act.put, List.setIfInBounds_toArray, List.set_cons_zero, List.set_cons_succ])
  (refine takeL Ext.tr 1 (by simp only [List.getElem?_toArray, List.getElem?_cons_succ, List.getElem?_cons_zero]; rfl) (by kernel_rfl) (by kernel_rfl) (by kernel_rfl) (by kernel_rfl) (by exact fun _ _ _ h => h) (by first | (refine Or.inl ⟨by rfl, ?_⟩; intro W hW; go_simp; try with_reducible rfl) | exact Or.inr ⟨by rfl, rfl⟩) ?_; try simp only [Act.put, List.setIfInBounds_toArray, List.set_cons_zero, List.set_cons_succ])
  (refine takeL Ext.tr 5 (by simp only [List.getElem?_toArray, List.getElem?_cons_succ, List.getElem?_cons_zero]; rfl) (by kernel_rfl) (by kernel_rfl) (by kernel_rfl) (by kernel_rfl) (by exact fun _ _ _ h => h) (by first | (refine Or.inl ⟨by rfl, ?_⟩; intro W hW; go_simp; try with_reducible rfl) | exact Or.inr ⟨by rfl, rfl⟩) ?_; try simp only [Act.put, List.setIfInBounds_toArray, List.set_cons_zero, List.set_cons_succ])
  (refine takeL Ext.tr 2 (by simp only [List.getElem?_toArray, List.getElem?_cons_succ, List.getElem?_cons_zero]; rfl) (by kernel_rfl) (by kernel_rfl) (by kernel_rfl) (by kernel_rfl) (by exact fun _ _ _ h => h) (by first | (refine Or.inl ⟨by rfl, ?_⟩; intro W hW; go_simp; try with_reducible rfl) | exact Or.inr ⟨by rfl, rfl⟩) ?_; try simp only [Act.put, List.setIfInBounds_toArray, List.set_cons_zero, List.set_cons_succ])
  (refine takeL Ext.tr 7 (by simp only [List.getElem?_toArray, List.getElem?_cons_succ, List.getElem?_cons_zero]; rfl) (by kernel_rfl) (by kernel_rfl) (by kernel_rfl) (by kernel_rfl) (by exact fun _ _ _ h => h) (by first | (refine Or.inl ⟨by rfl, ?_⟩; intro W hW; go_simp; try with_reducible rfl) | exact Or.inr ⟨by rfl, rfl⟩) ?_; try simp only [Act.put, List.setIfInBounds_toArray, List.set_cons_zero, List.set_cons_succ])
  (refine takeL Ext.tr 3 (by simp only [List.getElem?_toArray, List.getElem?_cons_succ, List.getElem?_cons_zero]; rfl) (by kernel_rfl) (by kernel_rfl) (by kernel_rfl) (by kernel_rfl) (by exact fun _ _ _ h => h) (by first | (refine Or.inl ⟨by rfl, ?_⟩; intro W hW; go_simp; try with_reducible rfl) | exact Or.inr ⟨by rfl, rfl⟩) ?_; try simp only [Act.put, List.setIfInBounds_toArray, List.set_cons_zero, List.set_cons_succ])
  (refine takeL Ext.tr 4 (by simp only [List.getElem?_toArray, List.getElem?_cons_succ, List.getElem?_cons_zero]; rfl) (by kernel_rfl) (by kernel_rfl) (by kernel_rfl) (by kernel_rfl) (by exact fun _ _ _ h => h) (by first | (refine Or.inl ⟨by rfl, ?_⟩; intro W hW; go_simp; try with_reducible rfl) | exact Or.inr ⟨by rfl, rfl⟩) ?_; try simp only [Act.put, List.setIfInBounds_toArray, List.set_cons_zero, List.set_cons_succ])
  (refine takeL Ext.tr 6 (by simp only [List.getElem?_toArray, List.getElem?_cons_succ, List.getElem?_cons_zero]; rfl) (by kernel_rfl) (by kernel_rfl) (by kernel_rfl) (by kernel_rfl) (by exact fun _ _ _ h => h) (by first | (refine Or.inl ⟨by rfl, ?_⟩; intro W hW; go_simp; try with_reducible rfl) | exact Or.inr ⟨by rfl, rfl⟩) ?_; try simp only [Act.put, List.setIfInBounds_toArray, List.set_cons_zero, List.set_cons_succ])
  (refine takeL Ext.tr 8 (by simp only [List.getElem?_toArray, List.getElem?_cons_succ, List.getElem?_cons_zero]; rfl) (by kernel_rfl) (by kernel_rfl) (by kernel_rfl) (by kernel_rfl) (by exact fun _ _ _ h => h) (by first | (refine Or.inl ⟨by rfl, ?_⟩; intro W hW; go_simp; try with_reducible rfl) | exact Or.inr ⟨by rfl, rfl⟩) ?_; try simp only [Act.put, List.setIfInBounds_toArray, List.set_cons_zero, List.set_cons_succ])
  refine wpAnyL_one (i := 9) (by kernel_rfl) (by simp only [List.getElem?_toArray, List.getElem?_cons_succ, List.getElem?_cons_zero]; rfl) (fun K hK => ?_)
  go_simp
  refine hK.out _ _ (.inl (by decide)) ?_
  clear hK K
  try simp only [Act.put, List.setIfInBounds_toArray, List.set_cons_zero, List.set_cons_succ]
  refine wpAnyL_done (by kernel_rfl) ?_ _
  skip
  rw [HD.out] at HK
  have HK2 := HK.out
  rw [HS.out] at HK2
  have HQ := Lib.hid (And.intro HK2 ((St.of_below HB.out (F := (· = p)) (fun k hk _ => hk)).trans ((St.of_below HB2.out (F := (· = p)) (fun k hk _ => hk)).trans (St.setCell wd (a := ⟨p, 2 + wordV n, none⟩) (F := (· = p)) rfl (.int .u64 ((noBit (m (wordV n)) (n % 64) : Nat) : Int))) (Gr.refl _ _)) (Gr.refl _ _)))
  clear HK2
  rw [HD.out]
  go_wp2
  go_end0
  exact ⟨⟨_, rfl⟩, HQ.out⟩
end
end Go.Proofs.Ytmmjhijgedboiaa
