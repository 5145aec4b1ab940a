/- A pacer forked. -/
import Derived.Test.YtdldocbfnjbhmaaK12
import Derived.Laws.Externs
set_option linter.unusedSimpArgs false
set_option linter.unusedVariables false
set_option maxRecDepth 100000
namespace Go.Proofs.Ytdldocbfnjbhmaa
open Go.RowKit Go.Shelf
section
variable {P : Program} (w : World)
theorem run_equalIn_map_nil (d : Nat) (t k e : TypeId) (p : Option Nat) (h : P.underlying t = some (.map k e)) : (Op.equalIn (d + 1) t (.map p) (.map none)).run P w = .ok p.isNone w := by
  cases p <;> simp [Op.equalIn, run_underlying h]
theorem run_eql_map_nil (t k e : TypeId) (p : Option Nat) (h : P.underlying t = some (.map k e)) : (binOp .eql t (.map p) (.map none)).run P w = .ok (.bool p.isNone) w := by
  simp only [binOp]
  simp [show Op.equal t (.map p) (.map none) = Op.equalIn (9999 + 1) t (.map p) (.map none) from rfl, run_equalIn_map_nil w 9999 t k e p h]
theorem run_typeAssert_map (t xT k e : TypeId) (v : Value) (h : P.underlying t = some (.map k e)) : (Instr.typeAssert (.iface t v) xT t false).run P w = .ok v w := by
  simp [Instr.typeAssert, run_underlying h, go_sem, Result.andThen]
theorem run_clone_map {r : Nat} {es : Array MapEntry} {clock : Nat} (t : TypeId) (hb : w.heap[r]? = some (.map es clock)) :
    (Extern.MapsClone.clone #[.iface t (.map (some r))]).run P w = .ok (.iface t (.map (some w.heap.size))) (w.alloc (.map es clock)) := by
  have e : Extern.MapsClone.clone #[.iface t (.map (some r))] = (getObj r >>= fun o => match o with
      | .map entries clock => (newObj (.map entries clock) >>= fun n => pure (.iface t (.map (some n))))
      | _ => stuck "maps.clone: a map expected") := rfl
  rw [e]
  simp [MapKept.run_getObj_map hb, Result.andThen, go_sem]
end
theorem c_clone {w : World} {b : Nat} {L : List Kn} (h : MpB w b L) : Calls Try.prog 28 #[.map (some b)] w fun e w' => e = .returned (.map (some w.heap.size)) ∧ MpB w' w.heap.size L ∧ Below w.heap.size w w' := by
  obtain ⟨es, clock, hb, he⟩ := h
  have hq := run_eql_map_nil (P := Try.prog) w 65 _ _ (some b) tyM
  have HE := Lib.hid he
  clear he
  go_enter Try.func28, Try.ntmps28
  go_wp2
  rw [run_callFunc_extern Try.func44 (by kernel_rfl) (by kernel_rfl) (by kernel_rfl) (e := Extern.MapsClone.clone) (by kernel_rfl), run_clone_map w 65 hb]
  simp only [Result.andThen]
  rw [Oper.upon_value]
  go_wp2
  rw [run_typeAssert_map _ 65 _ _ _ _ tyM]
  simp only [Result.andThen]
  rw [Oper.upon_value]
  go_wp2
  go_ret
  exact ⟨rfl, ⟨es, clock, heap_alloc_new w _, HE.out⟩, (Below.refl _ _).alloc (Nat.le_refl _) _⟩
theorem rowQA : Row Try.prog 67 2 := ⟨⟨_, rfl, by decide⟩, by kernel_rfl⟩
section
variable {F F0 F1 : Nat → Prop} {w w' : World} {p b nb p0 p1 : Nat} {m : Pm} {P : Option Addr}
/-- The pacer gets another map. -/
theorem PcX.remap (h : PcX F w p b p0 p1 F0 F1 m) {L : List Kn} (hm : MpB w nb L) (hn : ¬ F nb) : PcX (fun k => F k ∨ k = nb) (w.setCell ⟨p, 1, none⟩ (.map (some nb))) p nb p0 p1 F0 F1 { m with L := L } := by
  have hst : St (· = p) w (w.setCell ⟨p, 1, none⟩ (.map (some nb))) := St.setCell (F := (· = p)) w (a := ⟨p, 1, none⟩) rfl _
  have hpn : p ≠ nb := fun e => hn (e ▸ h.fp)
  refine ⟨h.mo, .inl h.fp, .inr rfl, hpn, h.bk.set 1 _, hm.st hst (fun e => hpn e.symm), h.s0.st hst fun k hk => (h.f0 k hk).2.1, h.s1.st hst fun k hk => (h.f1 k hk).2.1, fun k hk => ⟨.inl (h.f0 k hk).1, (h.f0 k hk).2.1, fun e => hn (e ▸ (h.f0 k hk).1), (h.f0 k hk).2.2.2⟩, fun k hk => ⟨.inl (h.f1 k hk).1, (h.f1 k hk).2.1, fun e => hn (e ▸ (h.f1 k hk).1)⟩, ?_⟩
  rintro k (hk | rfl)
  · simpa [World.setCell] using h.bd k hk
  · simpa [World.setCell] using hm.lt
/-- So many queues are copied. -/
def ForkI (w : World) (m : Pm) (pn nb n0 n1 : Nat) (k : Nat) (wr : World) : Prop :=
  Below w.heap.size w wr ∧ ∃ F F0 F1, PcX F wr pn nb n0 n1 F0 F1 ⟨m.most, m.L, if 1 ≤ k then m.q0 else [], if 2 ≤ k then m.q1 else [], 0, 0⟩ ∧ ∀ j, F j → w.heap.size ≤ j
theorem ge_of {F F' : Nat → Prop} {s B : Nat} (hg : Gr F F' B) (hF : ∀ j, F j → s ≤ j) (hs : s ≤ B) : ∀ j, F' j → s ≤ j := fun j hj => by
  rcases hg j hj with h | h
  · exact hF j h
  · omega
theorem below_st {F : Nat → Prop} {w w1 w2 : World} (h : Below w.heap.size w w1) (hs : St F w1 w2) (hF : ∀ j, F j → w.heap.size ≤ j) : Below w.heap.size w w2 := h.trans (hs.below h.size hF)
set_option maxHeartbeats 8000000 in
theorem p_fork (h : PcA F w p m) (ok : m.Ok) : Calls Try.prog 11 #[.pointer (some ⟨p, 0, none⟩)] w fun e w' =>
    ∃ pn F', e = .returned (.pointer (some ⟨pn, 0, none⟩)) ∧ PcA F' w' pn m ∧ (∀ k, F' k → w.heap.size ≤ k) ∧ Below w.heap.size w w' := by
  have HM := Lib.hid (p_made h)
  have HN := Lib.hid (p_new m.most w h.mo.1 h.mo.2)
  have HH := Lib.hid h
  obtain ⟨b, p0, p1, F0, F1, hx⟩ := h
  have c0 := hx.bk.cell 0 rfl
  have HX := Lib.hid hx
  clear hx ok
  go_enter Try.func11, Try.ntmps11
  go_wp2_with fail
  refine HM.out.mono ?_
  rintro e w' ⟨rfl, rfl⟩
  go_wp2_with fail
  refine HN.out.mono ?_
  rintro e w1 ⟨rfl, ⟨Fn, ⟨b', n0, n1, N0, N1, hn⟩, hFn⟩, hb1⟩
  have c1 := (HX.out.below hb1).bk.cell 1 rfl
  have HC := Lib.hid (c_clone (HX.out.below hb1).mp)
  have HQ := Lib.hid (And.intro hn (And.intro hFn hb1))
  clear hn hFn hb1 c0
  go_wp2_with fail
  refine HC.out.mono ?_
  rintro e w2 ⟨rfl, hm2, hb2⟩
  have hx2 := HQ.out.1.below hb2
  have d1 := hx2.bk.cell 1 rfl
  have f1 := hx2.bk.free 1
  have hx3 := hx2.remap hm2 (fun e => by have := HQ.out.1.bd _ e; omega)
  have HI0 : Hid (ForkI w m (w.heap.size + 1) w1.heap.size n0 n1 0 (w2.setCell ⟨w.heap.size + 1, 1, none⟩ (.map (some w1.heap.size)))) := Lib.hid ⟨(HQ.out.2.2.trans (hb2.mono HQ.out.2.2.size)).setCell (by simp) _, _, _, _, hx3, fun j hj => by
    rcases hj with hj | rfl
    · exact HQ.out.2.1 j hj
    · exact HQ.out.2.2.size⟩
  have hx3b := Lib.hid hx3.bk
  clear hx2 hx3 hm2 hb2 c1 HC
  go_wp2_with (first
    | (with_reducible refine at_load 67 (.tmp 28) (by rfl) ?_; refine wpList_load_bk rowQA rfl (.tmp 28) rfl (w.heap.size + 1) 2 rfl hx3b.out [.pointer (some ⟨n0, 0, none⟩), .pointer (some ⟨n1, 0, none⟩)] rfl rfl ?_))
  clear d1 f1
  generalize w2.setCell ⟨w.heap.size + 1, 1, none⟩ (.map (some w1.heap.size)) = W3 at *
  generalize hnb : w1.heap.size = nb at *
  clear hnb hx3b
  go_loopw [30] (fun v wr => ∃ k : Nat, k ≤ 2 ∧ v = .int .i64 k ∧ ForkI w m (w.heap.size + 1) nb n0 n1 k wr) (fun v _ => 3 - (intOf v).toNat)
  case atStart => exact ⟨0, by omega, rfl, HI0.out⟩
  case round =>
    obtain ⟨k, hk, rfl, hI⟩ := hrel
    have HI := Lib.hid hI
    clear hI
    rcases (by omega : k = 0 ∨ k = 1 ∨ k = 2) with rfl | rfl | rfl
    · have HQu := Lib.hid (p_queue (HH.out.below HI.out.1) 0)
      clear hk
      have hix : (Instr.index 67 (.agg #[.pointer (some ⟨n0, 0, none⟩), .pointer (some ⟨n1, 0, none⟩)]) (.int .i64 0)).run Try.prog wr = .ok (.pointer (some ⟨n0, 0, none⟩)) wr := by kernel_rfl
      go_wp2_with fail
      refine HQu.out.mono ?_
      rintro e w4 ⟨A, n, c, rfl, hn, hl, hb4⟩
      obtain ⟨hbw, F', F0', F1', hx4, hF4⟩ := HI.out
      have hx5 := hx4.below hb4
      have hpush := q_push m.q0 A n c hx5.s0 hn hl.rd (by simp; rw [hn]; exact HX.out.s0.le)
      have HP := Lib.hid (And.intro hpush (And.intro (below_on hbw hb4) (And.intro hx5 hF4)))
      clear hn hl hb4 hbw hx4 hF4 hx5 hpush
      go_wp2_with fail
      refine HP.out.1.mono ?_
      rintro e w6 ⟨rfl, hd⟩
      obtain ⟨F2, F3, hx6, hs6, hg6⟩ := HP.out.2.2.1.turn0 hd
      have HI2 : Hid (ForkI w m (w.heap.size + 1) nb n0 n1 1 w6) := Lib.hid ⟨below_st HP.out.2.1 hs6 HP.out.2.2.2, F2, F3, F1', by simpa using hx6, ge_of hg6 HP.out.2.2.2 HP.out.2.1.size⟩
      clear hd hx6 hs6 hg6
      go_wp2
      go_roundw
      case rel => exact ⟨1, by omega, by go_num, HI2.out⟩
      case measure => simp [intOf]
    · have HQu := Lib.hid (p_queue (HH.out.below HI.out.1) 1)
      clear hk
      have hix : (Instr.index 67 (.agg #[.pointer (some ⟨n0, 0, none⟩), .pointer (some ⟨n1, 0, none⟩)]) (.int .i64 1)).run Try.prog wr = .ok (.pointer (some ⟨n1, 0, none⟩)) wr := by kernel_rfl
      go_wp2_with fail
      refine HQu.out.mono ?_
      rintro e w4 ⟨A, n, c, rfl, hn, hl, hb4⟩
      obtain ⟨hbw, F', F0', F1', hx4, hF4⟩ := HI.out
      have hx5 := hx4.below hb4
      have hpush := q_push m.q1 A n c hx5.s1 hn hl.rd (by simp; rw [hn]; exact HX.out.s1.le)
      have HP := Lib.hid (And.intro hpush (And.intro (below_on hbw hb4) (And.intro hx5 hF4)))
      clear hn hl hb4 hbw hx4 hF4 hx5 hpush
      go_wp2_with fail
      refine HP.out.1.mono ?_
      rintro e w6 ⟨rfl, hd⟩
      obtain ⟨F2, F3, hx6, hs6, hg6⟩ := HP.out.2.2.1.turn1 hd
      have HI2 : Hid (ForkI w m (w.heap.size + 1) nb n0 n1 2 w6) := Lib.hid ⟨below_st HP.out.2.1 hs6 HP.out.2.2.2, F2, F0', F3, by simpa using hx6, ge_of hg6 HP.out.2.2.2 HP.out.2.1.size⟩
      clear hd hx6 hs6 hg6
      go_wp2
      go_roundw
      case rel => exact ⟨2, by omega, by go_num, HI2.out⟩
      case measure => simp [intOf]
    · obtain ⟨hbw, F', F0', F1', hx4, hF4⟩ := HI.out
      have hx4' : PcX F' wr (w.heap.size + 1) nb n0 n1 F0' F1' ⟨m.most, m.L, m.q0, m.q1, 0, 0⟩ := by simpa using hx4
      have HF := Lib.hid (And.intro hbw (And.intro hx4' hF4))
      clear hbw hx4 hF4 hx4'
      go_wp2_with fail
      refine wp_region_E (St (· = w.heap.size + 1)) (by kernel_rfl) (fun wd hbd hsz => ?_)
      have HX9 := Lib.hid (HF.out.2.1.below hbd)
      have HB9 := Lib.hid (HF.out.1.trans (hbd.mono HF.out.1.size))
      have HO9 := Lib.hid (HX.out.below HB9.out)
      have hpp : p ≠ w.heap.size + 1 := fun e => by have := HX.out.bd _ HX.out.fp; omega
      have q1 : ∀ V, St (· = w.heap.size + 1) wd V → V.cell? ⟨p, 4, none⟩ = some (.int .i64 m.run) := fun V hV => (HO9.out.bk.st hV hpp).cell 4 rfl
      have q2 : ∀ V, St (· = w.heap.size + 1) wd V → V.cell? ⟨p, 5, none⟩ = some (.int .i64 m.total) := fun V hV => (HO9.out.bk.st hV hpp).cell 5 rfl
      have d4 := HX9.out.bk.cell 4 rfl
      have e4 := HX9.out.bk.free 4
      have d5 := HX9.out.bk.cell 5 rfl
      have e5 := HX9.out.bk.free 5
      clear hsz
      (refine takeE (St.tr (· = w.heap.size + 1)) 0 (by simp only [List.getElem?_toArray, List.getElem?_cons_succ, List.getElem?_cons_zero]; rfl) (by kernel_rfl) (by kernel_rfl) (by kernel_rfl) (by exact fun _ _ _ h => h) (by first | (refine Or.inl ⟨by rfl, ?_⟩; intro W hW; go_simp; try with_reducible rfl) | exact Or.inr ⟨by rfl, rfl⟩) ?_; try simp only [Act.put, List.setIfInBounds_toArray, List.set_cons_zero, List.set_cons_succ])
      (refine takeE (St.tr (· = w.heap.size + 1)) 1 (by simp only [List.getElem?_toArray, List.getElem?_cons_succ, List.getElem?_cons_zero]; rfl) (by kernel_rfl) (by kernel_rfl) (by kernel_rfl) (by exact fun _ _ _ h => h) (by first | (refine Or.inl ⟨by rfl, ?_⟩; intro W hW; go_simp; try with_reducible rfl) | exact Or.inr ⟨by rfl, rfl⟩) ?_; try simp only [Act.put, List.setIfInBounds_toArray, List.set_cons_zero, List.set_cons_succ])
      (refine takeE (St.tr (· = w.heap.size + 1)) 2 (by simp only [List.getElem?_toArray, List.getElem?_cons_succ, List.getElem?_cons_zero]; rfl) (by kernel_rfl) (by kernel_rfl) (by kernel_rfl) (by exact fun _ _ _ h => h) (by first | (refine Or.inl ⟨by rfl, ?_⟩; intro W hW; go_simp; try with_reducible rfl) | exact Or.inr ⟨by rfl, rfl⟩) ?_; try simp only [Act.put, List.setIfInBounds_toArray, List.set_cons_zero, List.set_cons_succ])
      (refine takeE (St.tr (· = w.heap.size + 1)) 6 (by simp only [List.getElem?_toArray, List.getElem?_cons_succ, List.getElem?_cons_zero]; rfl) (by kernel_rfl) (by kernel_rfl) (by kernel_rfl) (by exact fun _ _ _ h => h) (by first | (refine Or.inl ⟨by rfl, ?_⟩; intro W hW; go_simp; try with_reducible rfl) | exact Or.inr ⟨by rfl, rfl⟩) ?_; try simp only [Act.put, List.setIfInBounds_toArray, List.set_cons_zero, List.set_cons_succ])
      (refine takeE (St.tr (· = w.heap.size + 1)) 3 (by simp only [List.getElem?_toArray, List.getElem?_cons_succ, List.getElem?_cons_zero]; rfl) (by kernel_rfl) (by kernel_rfl) (by kernel_rfl) (by exact fun _ _ _ h => h) (by first | (refine Or.inl ⟨by rfl, ?_⟩; intro W hW; go_simp; try with_reducible rfl) | exact Or.inr ⟨by rfl, rfl⟩) ?_; try simp only [Act.put, List.setIfInBounds_toArray, List.set_cons_zero, List.set_cons_succ])
      (refine takeE (St.tr (· = w.heap.size + 1)) 7 (by simp only [List.getElem?_toArray, List.getElem?_cons_succ, List.getElem?_cons_zero]; rfl) (by kernel_rfl) (by kernel_rfl) (by kernel_rfl) (by exact fun _ _ _ h => h) (by first | (refine Or.inl ⟨by rfl, ?_⟩; intro W hW; go_simp; try with_reducible rfl) | exact Or.inr ⟨by rfl, rfl⟩) ?_; try simp only [Act.put, List.setIfInBounds_toArray, List.set_cons_zero, List.set_cons_succ])
      (refine takeE (St.tr (· = w.heap.size + 1)) 4 (by simp only [List.getElem?_toArray, List.getElem?_cons_succ, List.getElem?_cons_zero]; rfl) (by kernel_rfl) (by kernel_rfl) (by kernel_rfl) (by exact fun _ _ _ h => h) (by first | (refine Or.inl ⟨by rfl, ?_⟩; intro W hW; go_simp; try with_reducible rfl) | exact Or.inr ⟨by rfl, rfl⟩) ?_; try simp only [Act.put, List.setIfInBounds_toArray, List.set_cons_zero, List.set_cons_succ])
      (refine takeE (St.tr (· = w.heap.size + 1)) 8 (by simp only [List.getElem?_toArray, List.getElem?_cons_succ, List.getElem?_cons_zero]; rfl) (by kernel_rfl) (by kernel_rfl) (by kernel_rfl) (by exact fun _ _ _ h => h) (by first | (refine Or.inl ⟨by rfl, ?_⟩; intro W hW; go_simp; try with_reducible rfl) | exact Or.inr ⟨by rfl, rfl⟩) ?_; try simp only [Act.put, List.setIfInBounds_toArray, List.set_cons_zero, List.set_cons_succ])
      (refine takeE (St.tr (· = w.heap.size + 1)) 5 (by simp only [List.getElem?_toArray, List.getElem?_cons_succ, List.getElem?_cons_zero]; rfl) (by kernel_rfl) (by kernel_rfl) (by kernel_rfl) (by exact fun _ _ _ h => h) (by first | (refine Or.inl ⟨by rfl, ?_⟩; intro W hW; go_simp; try with_reducible rfl) | exact Or.inr ⟨by rfl, rfl⟩) ?_; try simp only [Act.put, List.setIfInBounds_toArray, List.set_cons_zero, List.set_cons_succ])
      (refine takeE (St.tr (· = w.heap.size + 1)) 9 (by simp only [List.getElem?_toArray, List.getElem?_cons_succ, List.getElem?_cons_zero]; rfl) (by kernel_rfl) (by kernel_rfl) (by kernel_rfl) (by exact fun _ _ _ h => h) (by first | (refine Or.inl ⟨by rfl, ?_⟩; intro W hW; go_simp; try with_reducible rfl) | exact Or.inr ⟨by rfl, rfl⟩) ?_; try simp only [Act.put, List.setIfInBounds_toArray, List.set_cons_zero, List.set_cons_succ])
      (refine takeE (St.tr (· = w.heap.size + 1)) 10 (by simp only [List.getElem?_toArray, List.getElem?_cons_succ, List.getElem?_cons_zero]; rfl) (by kernel_rfl) (by kernel_rfl) (by kernel_rfl) (by exact fun _ _ _ h => h) (by first | (refine Or.inl ⟨by rfl, ?_⟩; intro W hW; go_simp; try with_reducible rfl) | exact Or.inr ⟨by rfl, rfl⟩) ?_; try simp only [Act.put, List.setIfInBounds_toArray, List.set_cons_zero, List.set_cons_succ])
      (refine takeE (St.tr (· = w.heap.size + 1)) 11 (by simp only [List.getElem?_toArray, List.getElem?_cons_succ, List.getElem?_cons_zero]; rfl) (by kernel_rfl) (by kernel_rfl) (by kernel_rfl) (by exact fun _ _ _ h => h) (by first | (refine Or.inl ⟨by rfl, ?_⟩; intro W hW; go_simp; try with_reducible rfl) | exact Or.inr ⟨by rfl, rfl⟩) ?_; try simp only [Act.put, List.setIfInBounds_toArray, List.set_cons_zero, List.set_cons_succ])
      refine wpAnyE_one (i := 12) (by kernel_rfl) (by simp only [List.getElem?_toArray, List.getElem?_cons_succ, List.getElem?_cons_zero]; rfl) (fun K hK => ?_)
      go_simp
      obtain ⟨hy, hsy⟩ := HX9.out.box (j := 4) (v := .int .i64 m.run) ⟨m.most, m.L, m.q0, m.q1, m.run, 0⟩ rfl rfl rfl rfl rfl
      have g5 := hy.bk.cell 5 rfl
      have i5 := hy.bk.free 5
      have HY := Lib.hid (And.intro hy hsy)
      clear hy hsy
      refine hK.out _ _ (St.setCell (F := (· = w.heap.size + 1)) _ (a := ⟨w.heap.size + 1, 4, none⟩) rfl _) ?_
      clear hK K
      try simp only [Act.put, List.setIfInBounds_toArray, List.set_cons_zero, List.set_cons_succ]
      (refine takeE (St.tr (· = w.heap.size + 1)) 13 (by simp only [List.getElem?_toArray, List.getElem?_cons_succ, List.getElem?_cons_zero]; rfl) (by kernel_rfl) (by kernel_rfl) (by kernel_rfl) (by exact fun _ _ _ h => h) (by first | (refine Or.inl ⟨by rfl, ?_⟩; intro W hW; go_simp; try with_reducible rfl) | exact Or.inr ⟨by rfl, rfl⟩) ?_; try simp only [Act.put, List.setIfInBounds_toArray, List.set_cons_zero, List.set_cons_succ])
      (refine takeE (St.tr (· = w.heap.size + 1)) 14 (by simp only [List.getElem?_toArray, List.getElem?_cons_succ, List.getElem?_cons_zero]; rfl) (by kernel_rfl) (by kernel_rfl) (by kernel_rfl) (by exact fun _ _ _ h => h) (by first | (refine Or.inl ⟨by rfl, ?_⟩; intro W hW; go_simp; try with_reducible rfl) | exact Or.inr ⟨by rfl, rfl⟩) ?_; try simp only [Act.put, List.setIfInBounds_toArray, List.set_cons_zero, List.set_cons_succ])
      refine wpAnyE_one (i := 15) (by kernel_rfl) (by simp only [List.getElem?_toArray, List.getElem?_cons_succ, List.getElem?_cons_zero]; rfl) (fun K hK => ?_)
      go_simp
      obtain ⟨hz, hsz⟩ := HY.out.1.box (j := 5) (v := .int .i64 m.total) m rfl rfl rfl rfl rfl
      have HZ := Lib.hid (And.intro hz (HY.out.2.trans hsz (Gr.refl _ _)))
      clear hz hsz
      refine hK.out _ _ (St.setCell (F := (· = w.heap.size + 1)) _ (a := ⟨w.heap.size + 1, 5, none⟩) rfl _) ?_
      clear hK K
      try simp only [Act.put, List.setIfInBounds_toArray, List.set_cons_zero, List.set_cons_succ]
      refine wpAnyE_done (by kernel_rfl) ?_ _
      clear q1 q2
      have HE := Lib.hid (And.intro HZ.out.1 (below_st HB9.out HZ.out.2 HF.out.2.2))
      go_wp2
      go_ret
      exact ⟨_, rfl, F', ⟨nb, n0, n1, F0', F1', HE.out.1⟩, HF.out.2.2, HE.out.2⟩
end
end Go.Proofs.Ytdldocbfnjbhmaa
