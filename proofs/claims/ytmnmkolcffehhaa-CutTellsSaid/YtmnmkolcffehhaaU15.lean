/- The law CutTells, as its inputs come in. -/
import Derived.Test.YtmnmkolcffehhaaU14
import Derived.Test.YtmnmkolcffehhaaOpenV
set_option linter.unusedSimpArgs false
set_option linter.unusedVariables false
namespace Go.Proofs.Ytmnmkolcffehhaa
open Go.RowKit Go.Shelf
theorem lawTellsI (mi : Int) (x : Sl (Sl Int)) (most : Int) (A B : Option Addr) (n c n' c' : Nat) (xs ys : List Int) (e1 f1 e2 f2 : Bool) (w : World) (h : (Ty.sl (.sl (.int .u8))).reads w x) (hm : (Lit.int .u8 most).wf = true)
    (ha : Rd .u8 w A n c xs) (hb : Rd .u8 w B n' c' ys) :
    Calls Try.prog 4 #[.int .i64 mi, .slice x.A x.n x.c, .int .u8 most, .agg #[.slice A n c, .bool e1, .bool f1], .agg #[.slice B n' c', .bool e2, .bool f2]] w fun e w' => e = .returned (.bool true) ∧ Below w.heap.size w w' := by
  obtain ⟨hm1, hm2⟩ := u8_bounds hm
  obtain ⟨k, rfl⟩ := Int.eq_ofNat_of_zero_le hm1
  have h1 := rdv_of_reads (w := w) (.sl (.int .u8)) (fun s : Sl Int => .slice s.A s.n s.c) rfl (fun _ => rfl) (fun _ => rfl) x h
  have h2 : ∀ b ∈ x.l.map (fun s => (⟨s.A, s.n, s.c, s.l⟩ : Bs)), Rd .u8 w b.A b.n b.c b.xs := by
    intro b hb'
    obtain ⟨s, hs, rfl⟩ := List.mem_map.1 hb'
    exact rd_of_reads s (h.2.2.2.2.2 s hs)
  have h3 : RdV w x.A x.n x.c ((x.l.map (fun s => (⟨s.A, s.n, s.c, s.l⟩ : Bs))).map Bs.val) := by
    rw [List.map_map]; exact h1
  exact lawTells mi x.A x.n x.c _ k ⟨A, n, c, xs, e1, f1⟩ ⟨B, n', c', ys, e2, f2⟩ w h3 h2 (by omega) ha hb
end Go.Proofs.Ytmnmkolcffehhaa
