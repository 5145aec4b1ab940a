/- The bytes of a header, before the checksum. -/
import Derived.Test.YtochbcemobkegaaW7
set_option linter.unusedSimpArgs false
set_option linter.unusedVariables false
namespace Go.Proofs.Ytochbcemobkegaa
open Go.RowKit Go.Shelf

/-- How many bytes a header's numbers take, and the numbers. -/
def flds (h : Hd) (n : Int) : List (Nat × Int) := [(1, h.kd), (1, h.fl), (1, h.pa), (1, h.sr), (1, h.ds), (4, h.cn), (8, h.sq), (8, h.pu), (2, n), (2, 0)]
def preL (h : Hd) (n : Int) (k : Nat) : List Int := [78, 90, 1] ++ ((flds h n).take k).flatMap fun p => enc p.1 p.2
def hdL (h : Hd) (n : Int) : List Int := preL h n 10
def InR (x : Int) : Prop := 0 ≤ x ∧ x ≤ 9223372036854775807
def HdR (h : Hd) : Prop := InR h.kd ∧ InR h.fl ∧ InR h.pa ∧ InR h.sr ∧ InR h.ds ∧ InR h.cn ∧ InR h.sq ∧ InR h.pu
theorem preL_succ (h : Hd) (n : Int) (k : Nat) (hk : k < 10) : ∃ s u, (flds h n)[k]? = some (s, u) ∧ preL h n (k + 1) = preL h n k ++ enc s u := by
  have hl : k < (flds h n).length := by simpa [flds] using hk
  refine ⟨(flds h n)[k].1, (flds h n)[k].2, by simp [hl], ?_⟩
  unfold preL
  rw [List.take_succ_eq_append_getElem hl, List.flatMap_append]
  simp
theorem preL_len (h : Hd) (n : Int) (k : Nat) (hk : k ≤ 10) : (preL h n k).length ≤ 100 := by
  have hc : k = 0 ∨ k = 1 ∨ k = 2 ∨ k = 3 ∨ k = 4 ∨ k = 5 ∨ k = 6 ∨ k = 7 ∨ k = 8 ∨ k = 9 ∨ k = 10 := by omega
  rcases hc with rfl | rfl | rfl | rfl | rfl | rfl | rfl | rfl | rfl | rfl | rfl <;> simp [preL, flds, enc_length]
theorem preL_ok (h : Hd) (n : Int) (k : Nat) : ∀ x ∈ preL h n k, (Lit.int .u8 x).wf = true := by
  intro x hx
  unfold preL at hx
  rcases List.mem_append.1 hx with hx | hx
  · exact wf_of_ok (by decide) x hx
  · obtain ⟨p, _, hp⟩ := List.mem_flatMap.1 hx
    exact enc_wf _ _ x hp
theorem fld_ok (h : Hd) (n : Nat) (hh : HdR h) (hn : n ≤ 1000000) (k : Nat) (s : Nat) (u : Int) (hk : (flds h n)[k]? = some (s, u)) : 1 ≤ s ∧ s ≤ 8 ∧ InR u := by
  obtain ⟨h1, h2, h3, h4, h5, h6, h7, h8⟩ := hh
  have hm : (s, u) ∈ flds h n := List.mem_of_getElem? hk
  simp only [flds, List.mem_cons, Prod.mk.injEq, List.not_mem_nil, or_false] at hm
  rcases hm with ⟨rfl, rfl⟩ | ⟨rfl, rfl⟩ | ⟨rfl, rfl⟩ | ⟨rfl, rfl⟩ | ⟨rfl, rfl⟩ | ⟨rfl, rfl⟩ | ⟨rfl, rfl⟩ | ⟨rfl, rfl⟩ | ⟨rfl, rfl⟩ | ⟨rfl, rfl⟩
  all_goals first | exact ⟨by omega, by omega, by assumption⟩ | exact ⟨by omega, by omega, by unfold InR; omega⟩
theorem fld_at (kd fl pa sr ds cn sq pu : Int) (A : Option Addr) (n c : Nat) (k : Nat) (s : Nat) (u : Int) (hk : (flds ⟨kd, fl, pa, sr, ds, cn, sq, pu⟩ n)[k]? = some (s, u)) (w : World) :
    (Instr.index 66 (.agg #[.int .i64 1, .int .i64 kd, .int .i64 1, .int .i64 fl, .int .i64 1, .int .i64 pa, .int .i64 1, .int .i64 sr, .int .i64 1, .int .i64 ds, .int .i64 4, .int .i64 cn, .int .i64 8, .int .i64 sq, .int .i64 8, .int .i64 pu, .int .i64 2, .int .i64 n, .int .i64 2, .int .i64 0]) (.int .i64 k)).run Try.prog w = .ok (.agg #[.int .i64 s, .int .i64 u]) w := by
  have hlt : k < 10 := by
    have := (List.getElem?_eq_some_iff.1 hk).1
    simpa [flds] using this
  have hc : k = 0 ∨ k = 1 ∨ k = 2 ∨ k = 3 ∨ k = 4 ∨ k = 5 ∨ k = 6 ∨ k = 7 ∨ k = 8 ∨ k = 9 := by omega
  rcases hc with rfl | rfl | rfl | rfl | rfl | rfl | rfl | rfl | rfl | rfl
  all_goals
    simp only [flds, List.getElem?_cons_zero, List.getElem?_cons_succ, Option.some.injEq, Prod.mk.injEq] at hk
    obtain ⟨rfl, rfl⟩ := hk
    show _ = _
    kernel_rfl
set_option maxRecDepth 100000 in
set_option maxHeartbeats 4000000 in
theorem head_any (kd fl pa sr ds cn sq pu : Int) (A : Option Addr) (n c : Nat) (w : World) (hh : HdR ⟨kd, fl, pa, sr, ds, cn, sq, pu⟩) (hn : n ≤ 1000000) :
    Calls Try.prog 22 #[.agg #[.int .i64 kd, .int .i64 fl, .int .i64 pa, .int .i64 sr, .int .i64 ds, .int .i64 cn, .int .i64 sq, .int .i64 pu, .slice A n c]] w fun e w' => ∃ v, e = .returned v ∧ Ow .u8 5 w.heap.size w' v (hdL ⟨kd, fl, pa, sr, ds, cn, sq, pu⟩ n) ∧ Below w.heap.size w w' := by
  have kc : ∀ (w : World) (o : Obj) (C : Array Value) (n c : Nat), (convert 23 23 (.slice (some ⟨w.heap.size + 1, 0, none⟩) n c)).run Try.prog ((w.alloc o).alloc (.cells C 5)) = .ok (.slice (some ⟨w.heap.size + 1, 0, none⟩) n c) ((w.alloc o).alloc (.cells C 5 (C.size, C.size + 1))) := fun w o C n c => by
    have := Lib.run_convert_bytes_const (P := Try.prog) (w.alloc o) 23 5 C n c Try.underlying23 Try.underlying5
    rw [World.size_alloc] at this
    exact this
  have HB0 := Lib.hid (((Below.refl w.heap.size w).alloc (Nat.le_refl _) (.cells #[.int .i64 kd, .int .i64 fl, .int .i64 pa, .int .i64 sr, .int .i64 ds, .int .i64 cn, .int .i64 sq, .int .i64 pu, .slice A n c] 25)).alloc (by simp) (.cells #[.int .u8 78, .int .u8 90, .int .u8 1] 5 (3, 4)))
  have HR0 := Lib.hid (Rd.litF (w.alloc (.cells #[.int .i64 kd, .int .i64 fl, .int .i64 pa, .int .i64 sr, .int .i64 ds, .int .i64 cn, .int .i64 sq, .int .i64 pu, .slice A n c] 25)) 5 [78, 90, 1] (3, 4) (wf_of_ok (by decide)) (by decide))
  have HI := Lib.hid (fld_at kd fl pa sr ds cn sq pu A n c)
  have HF := Lib.hid (fld_ok ⟨kd, fl, pa, sr, ds, cn, sq, pu⟩ n hh hn)
  have HL := Lib.hid (preL_len ⟨kd, fl, pa, sr, ds, cn, sq, pu⟩ n)
  have HW := Lib.hid (preL_ok ⟨kd, fl, pa, sr, ds, cn, sq, pu⟩ n)
  go_enter Try.func22, Try.ntmps22
  go_wp2
  go_loopw [3, 38] (fun v i wr => ∃ (k l cc : Nat) (B : Option Addr), k ≤ 10 ∧ i = .int .i64 k ∧ v = .slice B l cc ∧ Rd .u8 wr B l cc (preL ⟨kd, fl, pa, sr, ds, cn, sq, pu⟩ n k) ∧ (1 ≤ k → Ow .u8 5 w.heap.size wr v (preL ⟨kd, fl, pa, sr, ds, cn, sq, pu⟩ n k)) ∧ Below w.heap.size w wr) (fun _ i _ => 10 - (intOf i).toNat)
  case atStart => exact ⟨0, 3, 3, _, by omega, rfl, rfl, by have h := HR0.out; simpa [preL] using h, by omega, HB0.out⟩
  case round =>
    obtain ⟨k, l, cc, B, hk, rfl, rfl, hr, ho, hb⟩ := hrel
    by_cases hlt : k < 10
    · obtain ⟨s, u, hsu, hpre⟩ := preL_succ ⟨kd, fl, pa, sr, ds, cn, sq, pu⟩ n k hlt
      obtain ⟨h1, h8, hu0, hu1⟩ := HF.out k s u hsu
      have hix := HI.out k s u hsu
      have hl := HL.out k hk
      have hle : l ≤ 1000 := by have := hr.1; omega
      have HP := Lib.hid hpre
      have HO := Lib.hid ho
      clear hpre hsu ho hl HI HF HL
      go_wp2_with fail
      refine (put_yes B l cc _ s u _ (by exact hr.alloc _) (by omega) h1 h8).mono ?_
      rintro e w1 ⟨v, rfl, hown, hb1⟩
      rw [← HP.out] at hown
      have hbb : Below w.heap.size w w1 := (hb.alloc hb.size _).trans (hb1.mono (by have := hb.size; simp; omega))
      have hown' : Ow .u8 5 w.heap.size w1 v (preL ⟨kd, fl, pa, sr, ds, cn, sq, pu⟩ n (k + 1)) := hown.mono (by have := hb.size; simp; omega)
      obtain ⟨B', c', rfl, hr1⟩ := hown.rd (HW.out _)
      clear hown hb1 hb hr
      have HO' := Lib.hid hown'
      have HR' := Lib.hid hr1
      clear hown' hr1
      generalize (preL ⟨kd, fl, pa, sr, ds, cn, sq, pu⟩ n (k + 1)).length = l' at *
      go_wp2
      go_roundw
      case rel => exact ⟨k + 1, l', c', B', by omega, by go_num, rfl, HR'.out, fun _ => HO'.out, hbb⟩
      case measure => simp [intOf]; omega
    · obtain rfl : k = 10 := by omega
      have HO := Lib.hid (ho (by omega))
      clear ho hr
      go_wp2
      go_ret
      exact ⟨_, rfl, HO.out, hb⟩
end Go.Proofs.Ytochbcemobkegaa
