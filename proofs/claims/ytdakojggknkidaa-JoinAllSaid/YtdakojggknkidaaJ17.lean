/- The law JoinAll, as its inputs come in. -/
import Derived.Test.YtdakojggknkidaaJ14
import Derived.Test.YtdakojggknkidaaOpenV
set_option linter.unusedSimpArgs false
set_option linter.unusedVariables false
namespace Go.Proofs.Ytdakojggknkidaa
open Go.RowKit Go.Shelf
theorem lawAllI (x : Sl (Sl Int)) (y : Sl Bool) (w : World) (h : (Ty.sl (.sl (.int .u8))).reads w x) (hy : (Ty.sl .bool).reads w y) :
    Calls Try.prog 4 #[.slice x.A x.n x.c, .slice y.A y.n y.c] w fun e w' => e = .returned (.bool true) ∧ Below w.heap.size w w' := by
  have h1 := rdv_of_reads (w := w) (.sl (.int .u8)) (fun s : Sl Int => .slice s.A s.n s.c) rfl (fun _ => rfl) (fun _ => rfl) x h
  have h2 := rdv_of_reads (w := w) .bool Value.bool rfl (fun _ => rfl) (fun _ => rfl) y hy
  refine lawAll (ps := (x.l.map (fun s => (⟨s.A, s.n, s.c, s.l⟩ : Bs))).map Bs.xs) ⟨x.l.map (fun s => (⟨s.A, s.n, s.c, s.l⟩ : Bs)), ?_, rfl, ?_⟩ h2
  · rw [List.map_map]; exact h1
  · intro b hb'
    obtain ⟨s, hs, rfl⟩ := List.mem_map.1 hb'
    exact rd_of_reads s (h.2.2.2.2.2 s hs)
end Go.Proofs.Ytdakojggknkidaa
