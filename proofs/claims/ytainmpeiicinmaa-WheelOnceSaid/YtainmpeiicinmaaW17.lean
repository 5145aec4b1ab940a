/- The page's example. -/
import Derived.Test.YtainmpeiicinmaaW16
import Derived.Test.YtainmpeiicinmaaW8s
set_option linter.unusedSimpArgs false
set_option linter.unusedVariables false
set_option maxRecDepth 100000
namespace Go.Proofs.Ytainmpeiicinmaa
open Go.RowKit Go.Shelf
section
variable {κ : Type} [DecidableEq κ]
def a0 : Wm κ := Wm.new 9
def a1 (a : κ) : Wm κ := a0.set a 3
def a2 (a b : κ) : Wm κ := (a1 a).set b 1
def a3 (a b c : κ) : Wm κ := (a2 a b).set c 3
theorem a_row (a b c : κ) (h1 : a ≠ b) (h2 : a ≠ c) (h3 : b ≠ c) :
    (a0 : Wm κ).setE a 3 = 0 ∧ (a1 a).setE b 1 = 0 ∧ (a2 a b).setE c 3 = 0 ∧ (a3 a b c).due 1 = [b] ∧ ((a3 a b c).skip 1).left a = 2 ∧ ((a3 a b c).skip 1).has a = true ∧ ((a3 a b c).skip 1).due 1 = [] ∧ (((a3 a b c).skip 1).skip 1).due 1 = [a, c] := by
  have h1' := h1.symm
  have h2' := h2.symm
  have h3' := h3.symm
  have e1 : a1 a = ⟨9, 0, 1, [⟨a, 3, 0⟩]⟩ := by
    simp [a1, a0, Wm.set, Wm.new, Wm.full, Wm.has, Wm.put, rem, ins, low, high]
  have e2 : a2 a b = ⟨9, 0, 2, [⟨b, 1, 1⟩, ⟨a, 3, 0⟩]⟩ := by
    unfold a2
    rw [e1]
    simp [Wm.set, Wm.full, Wm.has, Wm.put, rem, ins, low, high, h1, h1']
  have e3 : a3 a b c = ⟨9, 0, 3, [⟨b, 1, 1⟩, ⟨a, 3, 0⟩, ⟨c, 3, 2⟩]⟩ := by
    unfold a3
    rw [e2]
    simp [Wm.set, Wm.full, Wm.has, Wm.put, rem, ins, low, high, h1, h1', h2, h2', h3, h3']
  have e4 : (a3 a b c).skip 1 = ⟨9, 1, 3, [⟨a, 3, 0⟩, ⟨c, 3, 2⟩]⟩ := by
    rw [e3]
    simp [Wm.skip, clampN, high]
  have e5 : ((a3 a b c).skip 1).skip 1 = ⟨9, 2, 3, [⟨a, 3, 0⟩, ⟨c, 3, 2⟩]⟩ := by
    rw [e4]
    simp [Wm.skip, clampN, high]
  refine ⟨?_, ?_, ?_, ?_, ?_, ?_, ?_, ?_⟩
  · simp [a0, Wm.setE, Wm.new, Wm.full, Wm.has]
  · rw [e1]; simp [Wm.setE, Wm.full, Wm.has, h1, h1']
  · rw [e2]; simp [Wm.setE, Wm.full, Wm.has, h2, h2', h3, h3']
  · rw [e3]; simp [Wm.due, clampN, low]
  · rw [e4]; simp [Wm.left]
  · rw [e4]; simp [Wm.has]
  · rw [e4]; simp [Wm.due, clampN, low]
  · rw [e5]; simp [Wm.due, clampN, low]
end
def bA : ByteArray := ⟨#[97]⟩
def bB : ByteArray := ⟨#[98]⟩
def bC : ByteArray := ⟨#[99]⟩
theorem neAB : bA ≠ bB := fun h => by
  have := congrArg ByteArray.data h
  simp [bA, bB] at this
theorem neAC : bA ≠ bC := fun h => by
  have := congrArg ByteArray.data h
  simp [bA, bC] at this
theorem neBC : bB ≠ bC := fun h => by
  have := congrArg ByteArray.data h
  simp [bB, bC] at this
/-- A wheel that is new. -/
def NwS (w : World) (g : Nat) (m : Wm ByteArray) (W : World) : Prop := Ws.WhC W g m ∧ m.Ok ∧ w.heap.size ≤ g ∧ Below w.heap.size w W
section
variable {w W W' : World} {g : Nat} {m m' : Wm ByteArray} {A : Option Addr} {n c : Nat} {vs : List Value}
theorem NwS.did (h : NwS w g m W) (d : Ws.Did W g m' W') (ok : m'.Ok) : NwS w g m' W' := ⟨d.1, ok, h.2.2.1, h.2.2.2.trans (d.2.below h.2.2.2.size fun j hj => by have := h.2.2.1; omega)⟩
theorem NwS.next (h : NwS w g m W) (hb : Below W.heap.size W W') : NwS w g m W' := ⟨h.1.below hb, h.2.1, h.2.2.1, below_on h.2.2.2 hb⟩
/-- A list that a call told stays while the wheel turns. -/
theorem rdv_st (h : RdV W A n c vs) (hs : St (· = g) W W') (hA : ∀ k, BlkOf A k → ¬ k = g) : RdV W' A n c vs := by
  obtain ⟨h1, h2, h3, h4, h5, h6⟩ := h
  refine ⟨h1, h2, h3, h4, h5, fun hn => ?_⟩
  obtain ⟨g1, o, e, hg, hx⟩ := h6 hn
  exact ⟨g1, o, e, by have := hs.size; omega, fun i hi => (hs.cell (p := ⟨g1, o + i, none⟩) hg (hA g1 ⟨_, e, rfl⟩)).trans (hx i hi)⟩
end
set_option maxHeartbeats 4000000 in
theorem awake_any (w : World) : Calls Try.prog 9 #[] w fun en w' => en = .returned (.bool true) ∧ Below w.heap.size w w' := by
  obtain ⟨r1, r2, r3, r4, r5, r6, r7, r8⟩ := a_row bA bB bC neAB neAC neBC
  have ok0 : (a0 : Wm ByteArray).Ok := Wm.new_ok (by decide)
  have ok1 : (a1 bA).Ok := Wm.set_ok ok0 _ _
  have ok2 : (a2 bA bB).Ok := Wm.set_ok ok1 _ _
  have ok3 : (a3 bA bB bC).Ok := Wm.set_ok ok2 _ _
  have ok4 := Wm.skip_ok ok3 1
  have ok5 := Wm.skip_ok ok4 1
  have ok6 := Wm.skip_ok ok5 1
  have HNB : Hid ((a0 : Wm ByteArray).now ≤ 1000000000 ∧ (a1 bA).now ≤ 1000000000 ∧ (a2 bA bB).now ≤ 1000000000 ∧ (a3 bA bB bC).now ≤ 1000000000 ∧ ((a3 bA bB bC).skip 1).now ≤ 1000000000 ∧ (((a3 bA bB bC).skip 1).skip 1).now ≤ 1000000000) := Lib.hid (by
    have h0 : (a0 : Wm ByteArray).now = 0 := rfl
    have h1 : (a1 bA).now = 0 := (Wm.set_now _ _ _).trans h0
    have h2 : (a2 bA bB).now = 0 := (Wm.set_now _ _ _).trans h1
    have h3 : (a3 bA bB bC).now = 0 := (Wm.set_now _ _ _).trans h2
    have hc := clampN_in 1
    have h4 : ((a3 bA bB bC).skip 1).now = (a3 bA bB bC).now + clampN 1 := rfl
    have h5 : (((a3 bA bB bC).skip 1).skip 1).now = ((a3 bA bB bC).skip 1).now + clampN 1 := rfl
    omega)
  have HR := Lib.hid (And.intro r1 (And.intro r2 (And.intro r3 (And.intro r4 (And.intro r5 (And.intro r6 (And.intro r7 r8)))))))
  have HO := Lib.hid (And.intro ok0 (And.intro ok1 (And.intro ok2 (And.intro ok3 (And.intro ok4 (And.intro ok5 ok6))))))
  clear r1 r2 r3 r4 r5 r6 r7 r8 ok0 ok1 ok2 ok3 ok4 ok5 ok6
  go_enter Try.func9, Try.ntmps9
  go_wp2_with fail
  refine (Ws.w_new 9 (by decide) (by decide)).mono ?_
  rintro e W0 ⟨rfl, hc0, hb0⟩
  have HN0 : Hid (NwS w w.heap.size a0 W0) := Lib.hid ⟨hc0, HO.out.1, Nat.le_refl _, hb0⟩
  clear hc0 hb0
  generalize w.heap.size = g at *
  go_wp2_with fail
  have hs1 := Ws.w_set HN0.out.1 HN0.out.2.1 HNB.out.1 bA 3
  rw [HR.out.1] at hs1
  refine hs1.mono ?_
  rintro e W1 ⟨rfl, hd⟩
  have HN1 : Hid (NwS w g (a1 bA) W1) := Lib.hid (HN0.out.did hd HO.out.2.1)
  clear hd hs1
  go_wp2_with fail
  have hs1 := Ws.w_set HN1.out.1 HN1.out.2.1 HNB.out.2.1 bB 1
  rw [HR.out.2.1] at hs1
  refine hs1.mono ?_
  rintro e W2 ⟨rfl, hd⟩
  have HN2 : Hid (NwS w g (a2 bA bB) W2) := Lib.hid (HN1.out.did hd HO.out.2.2.1)
  clear hd hs1
  go_wp2_with fail
  have hs1 := Ws.w_set HN2.out.1 HN2.out.2.1 HNB.out.2.2.1 bC 3
  rw [HR.out.2.2.1] at hs1
  refine hs1.mono ?_
  rintro e W3 ⟨rfl, hd⟩
  have HN3 : Hid (NwS w g (a3 bA bB bC) W3) := Lib.hid (HN2.out.did hd HO.out.2.2.2.1)
  clear hd hs1
  go_wp2_with fail
  refine (Ws.w_tick HN3.out.1 HNB.out.2.2.2.1).mono ?_
  rintro e W4 ⟨Ax, nx, cx, rfl, hlx, hd⟩
  have HN4 : Hid (NwS w g ((a3 bA bB bC).skip 1) W4) := Lib.hid (HN3.out.did hd HO.out.2.2.2.2.1)
  have HX : Hid (RdV W4 Ax nx cx (Ws.kvs [bB]) ∧ ∀ k, BlkOf Ax k → ¬ k = g) := Lib.hid ⟨by rw [← HR.out.2.2.2.1]; exact hlx.rdv, fun k ⟨ad, he, hk⟩ => by
    have := (hlx.blk ad he).1
    have := HN3.out.1.lt
    omega⟩
  clear hlx hd
  go_wp2_with fail
  have hs1 := Ws.w_left HN4.out.1 HN4.out.2.1 bA
  rw [HR.out.2.2.2.2.1, HR.out.2.2.2.2.2.1] at hs1
  refine hs1.mono ?_
  rintro e W5 ⟨rfl, hb5⟩
  have HN5 := Lib.hid (HN4.out.next hb5)
  have HX5 := Lib.hid (And.intro (HX.out.1.below hb5) HX.out.2)
  clear hb5 hs1
  go_wp2_with fail
  refine (Ws.w_tick HN5.out.1 HNB.out.2.2.2.2.1).mono ?_
  rintro e W6 ⟨Ay, ny, cy, rfl, hly, hd⟩
  have HN6 : Hid (NwS w g (((a3 bA bB bC).skip 1).skip 1) W6) := Lib.hid (HN5.out.did hd HO.out.2.2.2.2.2.1)
  have HX6 := Lib.hid (And.intro (rdv_st HX5.out.1 hd.2 HX5.out.2) HX5.out.2)
  have hny : ny = 0 := by
    have := hly.1
    rw [HR.out.2.2.2.2.2.2.1] at this
    exact this.symm
  subst hny
  clear hly hd
  go_wp2_with fail
  refine (Ws.w_tick HN6.out.1 HNB.out.2.2.2.2.2).mono ?_
  rintro e W7 ⟨Az, nz, cz, rfl, hlz, hd⟩
  have HN7 : Hid (NwS w g ((((a3 bA bB bC).skip 1).skip 1).skip 1) W7) := Lib.hid (HN6.out.did hd HO.out.2.2.2.2.2.2)
  have hx7 := rdv_st HX6.out.1 hd.2 HX6.out.2
  have hz7 := hlz.rdv
  rw [HR.out.2.2.2.2.2.2.2] at hz7
  have hnx : nx = 1 := hx7.1.symm
  have hnz : nz = 2 := hz7.1.symm
  subst hnx
  subst hnz
  obtain ⟨gx, ox, rfl, hgx, hcx⟩ := hx7.2.2.2.2.2 (by decide)
  obtain ⟨gz, oz, rfl, hgz, hcz⟩ := hz7.2.2.2.2.2 (by decide)
  have x0 : W7.cell? ⟨gx, ox, none⟩ = some (.string bB) := hcx 0 (by decide)
  have z0 : W7.cell? ⟨gz, oz, none⟩ = some (.string bA) := hcz 0 (by decide)
  have z1 : W7.cell? ⟨gz, oz + 1, none⟩ = some (.string bC) := hcz 1 (by decide)
  clear hlz hd hx7 hz7 hcx hcz
  have hba : (bA.toList == [97]) = true := by rw [ByteArray.toList_eq]; rfl
  have hbb : (bB.toList == [98]) = true := by rw [ByteArray.toList_eq]; rfl
  have hbc : (bC.toList == [99]) = true := by rw [ByteArray.toList_eq]; rfl
  go_wp2
  go_ret
  exact ⟨rfl, HN7.out.2.2.2⟩
end Go.Proofs.Ytainmpeiicinmaa
