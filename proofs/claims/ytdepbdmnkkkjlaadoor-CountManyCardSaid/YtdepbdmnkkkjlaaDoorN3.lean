/- A name told good: every byte of it; two numbers together. -/
import Derived.Test.YtdepbdmnkkkjlaaDoorN2
set_option linter.unusedSimpArgs false
set_option linter.unusedVariables false
set_option maxRecDepth 100000
namespace Go.Proofs.YtdepbdmnkkkjlaaDoor
open Go.RowKit Go.Shelf Go.Maps
def forB (R : Int) : Bool := decide ((R < 97 ∨ 122 < R) ∧ (R < 48 ∨ 57 < R) ∧ R ≠ 46)
theorem f_foreign (R : Int) (w : World) : Calls Tryd.prog 46 #[.int .i32 R] w fun e w' => e = .returned (.bool (forB R)) ∧ w = w' := by
  by_cases h1 : R < 97
  · by_cases h3 : R < 48
    · by_cases h5 : R = 46
      · obtain hf : forB R = false := by simp [forB, h1, h3, h5]
        rw [hf]
        subst h5
        go_enter Tryd.func46, Tryd.ntmps46
        go_wp2
        go_ret
        exact ⟨rfl, rfl⟩
      · obtain hf : forB R = true := by simp [forB, h1, h3, h5]
        rw [hf]
        clear hf
        have h5b : (R != 46) = true := by simpa using h5
        go_enter Tryd.func46, Tryd.ntmps46
        go_wp2
        go_ret
        exact ⟨rfl, rfl⟩
    · by_cases h4 : 57 < R
      · obtain hf : forB R = true := by simp [forB, h1, h3, h4]; omega
        rw [hf]
        clear hf
        have h5 : (R != 46) = true := by simp; omega
        have h3' : 48 ≤ R := by omega
        clear h3
        go_enter Tryd.func46, Tryd.ntmps46
        go_wp2
        go_ret
        exact ⟨rfl, rfl⟩
      · obtain hf : forB R = false := by simp [forB, h1, h3, h4]
        rw [hf]
        clear hf
        have h3' : 48 ≤ R := by omega
        have h4' : R ≤ 57 := by omega
        clear h3 h4
        go_enter Tryd.func46, Tryd.ntmps46
        go_wp2
        go_ret
        exact ⟨rfl, rfl⟩
  · have h1' : 97 ≤ R := by omega
    by_cases h2 : 122 < R
    · obtain hf : forB R = true := by simp [forB, h1, h2]; omega
      rw [hf]
      clear hf h1
      have h3 : 57 < R := by omega
      have h4 : 48 ≤ R := by omega
      have h5 : (R != 46) = true := by simp; omega
      go_enter Tryd.func46, Tryd.ntmps46
      go_wp2
      go_ret
      exact ⟨rfl, rfl⟩
    · obtain hf : forB R = false := by simp [forB, h1, h2]
      rw [hf]
      clear hf h1
      have h2' : R ≤ 122 := by omega
      clear h2
      go_enter Tryd.func46, Tryd.ntmps46
      go_wp2
      go_ret
      exact ⟨rfl, rfl⟩
/-! Runes: a byte below 128 is its own; another one begins what is foreign. -/
theorem dec_big (s : ByteArray) (i : Nat) (h : 128 ≤ (s.get! i).toNat) : 128 ≤ (Utf8.decode s i).1 := by
  have e : s.get! (i + 0) = s.get! i := rfl
  simp only [Utf8.decode, e, Utf8.runeError]
  rw [if_neg (by omega)]
  split
  · split <;> simp <;> omega
  · split
    · split
      · rename_i hc
        simp only [Bool.and_eq_true, decide_eq_true_eq] at hc
        simp only
        omega
      · simp
    · split
      · split
        · rename_i hc
          simp only [Bool.and_eq_true, decide_eq_true_eq] at hc
          simp only
          omega
        · simp
      · simp
theorem dec_pos (s : ByteArray) (i : Nat) : 1 ≤ (Utf8.decode s i).2 := by
  simp only [Utf8.decode]
  repeat' split
  all_goals simp
theorem get_at (s : Nm) (i : Nat) (h : i < s.length) : (⟨s.toArray⟩ : ByteArray).get! i = s[i] := by
  simp [ByteArray.get!, h]
theorem for_byte (c : UInt8) (h : c.toNat < 128) : forB (c.toNat : Int) = !okC c := by
  have hc : ∀ k : UInt8, (decide (k ≤ c) : Bool) = decide (k.toNat ≤ c.toNat) := fun k => by simp [UInt8.le_iff_toNat_le]
  have hd : ∀ k : UInt8, (decide (c ≤ k) : Bool) = decide (c.toNat ≤ k.toNat) := fun k => by simp [UInt8.le_iff_toNat_le]
  have he : (c == 46) = decide (c.toNat = 46) := by
    by_cases hx : c = 46
    · subst hx; rfl
    · have : c.toNat ≠ 46 := fun e => hx (UInt8.toNat_inj.1 (by rw [e]; rfl))
      simp [hx, this]
  unfold forB okC
  rw [hc, hc, hd, hd, he]
  simp only [UInt8.reduceToNat]
  rw [Bool.eq_iff_iff]
  simp
  omega
theorem idx_any (s : Nm) (w : World) : Calls Tryd.prog 55 #[.string ⟨s.toArray⟩, .func (.func 46) #[] #[], .bool true] w fun e w' => (∃ r : Int, e = .returned (.int .i64 r) ∧ decide (r < 0) = s.all okC ∧ -1 ≤ r) ∧ Below w.heap.size w w' := by
  have hsz := str_len s
  go_enter Tryd.func55, Tryd.ntmps55
  go_wp2
  go_loopg [] s.length (fun gf wx => ∃ pos : Nat, wx.heap[w.heap.size]? = some (.stringIter ⟨s.toArray⟩ pos) ∧ Below w.heap.size w wx ∧ pos + gf = s.length ∧ (s.take pos).all okC = true)
  case atStart => exact ⟨0, World.iter_heap w _ 0, (Below.refl _ w).alloc (Nat.le_refl _) _, by omega, by simp⟩
  case round =>
    obtain ⟨pos, hit, hbw, hg, hall⟩ := hrel
    by_cases hps : pos < s.length
    · have hps' : pos < (⟨s.toArray⟩ : ByteArray).size := by rw [hsz]; exact hps
      have hnx : ∀ ty, (Instr.next (.pointer (some ⟨w.heap.size, 0, none⟩)) true ty).run Tryd.prog wr = _ := fun ty => Lib.run_next_any_at wr w.heap.size ⟨s.toArray⟩ pos ty hit hps'
      have hb0 := get_at s pos hps
      by_cases hlow : (s[pos]).toNat < 128
      · have hd : Utf8.decode ⟨s.toArray⟩ pos = ((s[pos]).toNat, 1) := by
          have e : (⟨s.toArray⟩ : ByteArray).get! (pos + 0) = s[pos] := hb0
          simp only [Utf8.decode, e, hlow, if_true]
        rw [hd] at hnx
        have hit2 := Lib.iterAt_heap wr w.heap.size ⟨s.toArray⟩ pos (pos + 1) hit
        have hbw2 := Lib.below_iterAt hbw (k := w.heap.size) (Nat.le_refl _) ⟨s.toArray⟩ (pos + 1)
        have hfb := for_byte s[pos] hlow
        simp only at hnx
        generalize wr.iterAt w.heap.size ⟨s.toArray⟩ (pos + 1) = W at hnx hit2 hbw2
        have cS := f_foreign ((s[pos]).toNat : Int) W
        rw [hfb] at cS
        have HT : Hid ((s.take (pos + 1)).all okC = ((s.take pos).all okC && okC s[pos])) := Lib.hid (by rw [List.take_succ_eq_append_getElem hps, List.all_append]; simp)
        generalize hR : ((s[pos]).toNat : Int) = R at *
        cases hok : okC s[pos] with
        | true =>
          rw [hok] at cS
          have HG := Lib.hid (And.intro hall (And.intro hg hok))
          clear hall hg hok hfb hR hd hit hb0 hlow
          go_wp2_with fail
          refine cS.mono ?_
          rintro e W' ⟨rfl, rfl⟩
          go_wp2
          obtain ⟨k1, k2, k3⟩ := HG.out
          go_roundg (gk - 1)
          case measure => omega
          case rel => exact ⟨pos + 1, hit2, hbw2, by omega, by rw [HT.out, k1, k3]; rfl⟩
        | false =>
          rw [hok] at cS
          have HF : Hid (s.all okC = false) := Lib.hid (by rw [List.all_eq_false]; exact ⟨s[pos], List.getElem_mem hps, by simp [hok]⟩)
          clear hall hok hfb hR hd hit hb0 hlow hg
          go_wp2_with fail
          refine cS.mono ?_
          rintro e W' ⟨rfl, rfl⟩
          go_wp2
          go_ret
          exact ⟨⟨_, rfl, by rw [HF.out]; simp, by omega⟩, hbw2⟩
      · have hR128 := dec_big ⟨s.toArray⟩ pos (by rw [hb0]; omega)
        obtain ⟨R, hR⟩ : ∃ R, (Utf8.decode ⟨s.toArray⟩ pos).1 = R := ⟨_, rfl⟩
        obtain ⟨K, hK⟩ : ∃ K, (Utf8.decode ⟨s.toArray⟩ pos).2 = K := ⟨_, rfl⟩
        rw [hR, hK] at hnx
        rw [hR] at hR128
        have hbw2 := Lib.below_iterAt hbw (k := w.heap.size) (Nat.le_refl _) ⟨s.toArray⟩ (pos + K)
        generalize wr.iterAt w.heap.size ⟨s.toArray⟩ (pos + K) = W at hnx hbw2
        have cS := f_foreign (R : Int) W
        have hf : forB (R : Int) = true := by simp [forB]; omega
        rw [hf] at cS
        have HF : Hid (s.all okC = false) := Lib.hid (by
          rw [List.all_eq_false]
          refine ⟨s[pos], List.getElem_mem hps, ?_⟩
          have hx : ∀ k : UInt8, (decide (s[pos] ≤ k) : Bool) = decide ((s[pos]).toNat ≤ k.toNat) := fun k => by simp [UInt8.le_iff_toNat_le]
          have he : s[pos] ≠ 46 := fun e => by rw [e] at hlow; exact hlow (by decide)
          unfold okC
          rw [hx, hx]
          simp only [UInt8.reduceToNat]
          simp [he]
          omega)
        clear hall hf hit hb0 hlow hg hK hR hR128
        go_wp2_with fail
        refine cS.mono ?_
        rintro e W' ⟨rfl, rfl⟩
        go_wp2
        go_ret
        exact ⟨⟨_, rfl, by rw [HF.out]; simp, by omega⟩, hbw2⟩
    · have hnx : ∀ ty, (Instr.next (.pointer (some ⟨w.heap.size, 0, none⟩)) true ty).run Tryd.prog wr = _ := fun ty => Lib.run_next_end_at wr w.heap.size ⟨s.toArray⟩ pos ty hit (by rw [hsz]; exact hps)
      have HA : Hid (s.all okC = true) := Lib.hid (by rwa [List.take_of_length_le (by omega)] at hall)
      clear hall hg hit
      go_wp2
      go_ret
      exact ⟨⟨_, rfl, by rw [HA.out]; rfl, by omega⟩, hbw⟩
theorem index_any (s : Nm) (w : World) : Calls Tryd.prog 45 #[.string ⟨s.toArray⟩, .func (.func 46) #[] #[]] w fun e w' => (∃ r : Int, e = .returned (.int .i64 r) ∧ decide (r < 0) = s.all okC ∧ -1 ≤ r) ∧ Below w.heap.size w w' := by
  have H := Lib.hid (idx_any s w)
  go_enter Tryd.func45, Tryd.ntmps45
  go_wp2_with (go_at_call 55; refine H.out.mono ?_; rintro e w1 ⟨⟨r, rfl, hr⟩, hb⟩)
  go_ret
  exact ⟨⟨r, rfl, hr⟩, hb⟩
theorem f_name (s : Nm) (hl : s.length ≤ maxLen) (w : World) : Calls Tryd.prog 30 #[str s] w fun e w' => e = .returned (.bool (good s)) ∧ Below w.heap.size w w' := by
  have HI := Lib.hid (index_any s w)
  have hsz := str_len s
  have HR := Lib.hid (Below.refl w.heap.size w)
  by_cases h0 : s = []
  · subst h0
    go_enter Tryd.func30, Tryd.ntmps30
    go_wp2
    go_ret
    exact ⟨rfl, HR.out⟩
  have hne : s.isEmpty = false := by simpa using h0
  have h1 : 1 ≤ s.length := by
    rcases s with _ | ⟨c, s⟩
    · exact absurd rfl h0
    · simp
  by_cases h2 : s.length ≤ 32
  · have HG : Hid (good s = s.all okC) := Lib.hid (by unfold good; simp [h1, h2])
    clear h0
    go_enter Tryd.func30, Tryd.ntmps30
    go_wp2_with (go_at_call 45; refine HI.out.mono ?_; rintro e w1 ⟨⟨r, rfl, hr, hr1⟩, hb⟩)
    go_ret
    exact ⟨by rw [HG.out, ← hr]; rfl, hb⟩
  · have HG : Hid (good s = false) := Lib.hid (by unfold good; simp [h2])
    have h2' : 32 < s.length := by omega
    clear h2 h0
    go_enter Tryd.func30, Tryd.ntmps30
    go_wp2
    go_ret
    exact ⟨by rw [HG.out]; rfl, HR.out⟩
theorem f_sum {a b : Int} (h0 : 0 ≤ a) (h1 : a ≤ Most) (h2 : 0 ≤ b) (h3 : b ≤ 9223372036854775807) (w : World) : Calls Tryd.prog 35 #[num a, num b] w fun e w' => e = .returned (num (sum a b)) ∧ w = w' := by
  simp only [Most] at h1
  by_cases h : b ≤ 1152921504606846976 - a
  · have HE : Hid (sum a b = a + b) := Lib.hid (by unfold sum; rw [if_neg (by simp only [Most]; omega)])
    go_enter Tryd.func35, Tryd.ntmps35
    go_wp2
    go_ret
    exact ⟨by rw [HE.out]; rfl, rfl⟩
  · have HE : Hid (sum a b = a + (1152921504606846976 - a)) := Lib.hid (by unfold sum; rw [if_pos (by simp only [Most]; omega)]; simp only [Most]; omega)
    have h' : 1152921504606846976 - a < b := by omega
    clear h
    go_enter Tryd.func35, Tryd.ntmps35
    go_wp2
    go_ret
    exact ⟨by rw [HE.out]; rfl, rfl⟩
end Go.Proofs.YtdepbdmnkkkjlaaDoor
