/- The contract of padding. -/
import Derived.Test.YtkhhejkemkldgaaDoorSRow
import Derived.Test.YtkhhejkemkldgaaDoorS8
import Derived.WalkSmall
set_option linter.unusedVariables false
namespace Go.Proofs.YtkhhejkemkldgaaDoor
open Go.RowKit Go.Shelf
theorem pad_wrap (n : Nat) (h : n ≤ 1000000000000) : (IntKind.u64.wrap (55 - (n : Int))).tmod 64 = ((padZeros n : Nat) : Int) := by
  rw [IntKind.wrap_u64, Int.tmod_eq_emod_of_nonneg (by omega)]; unfold padZeros; omega
/-- The cells of the padding, the last r bytes of the length written. -/
def pf (n r j : Nat) : Int := if j = 0 then 128 else if 9 + padZeros n - r ≤ j then ((n * 8 / 2 ^ (8 * (8 + padZeros n - j)) % 256 : Nat) : Int) else 0
theorem padding_get (n j : Nat) (h : n ≤ 1000000000000) (hj : j < 9 + padZeros n) : (padding n).getD j 0 = pf n 8 j := by
  unfold padding pf
  rcases j with _ | j
  · rfl
  · rw [if_neg (by omega)]
    have e : ∀ (L : List Int), (128 :: L : List Int).getD (j + 1) 0 = L.getD j 0 := fun L => by simp [List.getD]
    rw [e]
    by_cases hz : j < padZeros n
    · rw [if_neg (by omega), List.getD, List.getElem?_append_left (by simpa using hz)]; simp [hz]
    · rw [if_pos (by omega), List.getD, List.getElem?_append_right (by simpa using hz), List.length_replicate]
      have : j - padZeros n < 8 := by omega
      rw [big8, List.getElem?_map, List.getElem?_range this]
      simp only [Option.map_some, Option.getD_some]
      rw [Nat.mod_eq_of_lt (show n * 8 < 18446744073709551616 by omega), show 56 - 8 * (j - padZeros n) = 8 * (8 + padZeros n - (j + 1)) by omega]
theorem padding_range (n : Nat) (h : n ≤ 1000000000000) : (List.range (9 + padZeros n)).map (pf n 8) = padding n := by
  apply List.ext_getElem?
  intro j
  by_cases hj : j < 9 + padZeros n
  · have e := padding_get n j h hj
    rw [List.getElem?_map, List.getElem?_range hj]
    have hl : j < (padding n).length := by rw [padding_length]; exact hj
    rw [List.getD, List.getElem?_eq_getElem hl] at e
    rw [List.getElem?_eq_getElem hl]; simp only [Option.getD_some] at e; simp [e]
  · rw [List.getElem?_eq_none (by simpa using hj), List.getElem?_eq_none (by rw [padding_length]; omega)]
theorem pf_bd (n r j : Nat) : 0 ≤ pf n r j ∧ pf n r j < 256 := by
  unfold pf; split
  · omega
  · split <;> omega
theorem pf_set (n r : Nat) (h : r < 8) : (fun j => if j = 8 + padZeros n - r then ((n * 8 / 2 ^ (8 * r) % 256 : Nat) : Int) else pf n r j) = pf n (r + 1) := by
  funext j
  unfold pf
  by_cases h1 : j = 8 + padZeros n - r
  · rw [if_pos h1, if_neg (by omega), if_pos (by omega), show 8 + padZeros n - j = r by omega]
  · rw [if_neg h1]
    by_cases h0 : j = 0
    · rw [if_pos h0, if_pos h0]
    · rw [if_neg h0, if_neg h0]
      by_cases h2 : 9 + padZeros n - r ≤ j
      · rw [if_pos h2, if_pos (by omega)]
      · rw [if_neg h2, if_neg (by omega)]
/-- When nothing is left of the length, the bytes ahead are noughts. -/
theorem pf_rest (n r j : Nat) (h : n * 8 / 2 ^ (8 * r) = 0) (hr : r ≤ 8) (hj : j < 9 + padZeros n) : pf n r j = pf n 8 j := by
  unfold pf
  split
  · rfl
  · by_cases h2 : 9 + padZeros n - r ≤ j
    · rw [if_pos h2, if_pos (by omega)]
    · rw [if_neg h2]
      split
      · have hp : 2 ^ (8 * r) ≤ 2 ^ (8 * (8 + padZeros n - j)) := Nat.pow_le_pow_right (by omega) (by omega)
        have : n * 8 / 2 ^ (8 * (8 + padZeros n - j)) = 0 := by
          have h3 : n * 8 < 2 ^ (8 * r) := by
            rcases Nat.div_eq_zero_iff.1 h with h4 | h4
            · exact absurd h4 (Nat.ne_of_gt (Nat.two_pow_pos _))
            · exact h4
          exact Nat.div_eq_of_lt (Nat.lt_of_lt_of_le h3 hp)
        rw [this]; rfl
      · rfl
theorem shift_step (n r : Nat) : n * 8 / 2 ^ (8 * r) / 256 = n * 8 / 2 ^ (8 * (r + 1)) := by
  rw [Nat.div_div_eq_div_mul, Nat.mul_add, Nat.pow_add]
theorem pad_eight (n : Nat) (h : n ≤ 1000000000000) : n * 8 / 2 ^ (8 * 8) = 0 := Nat.div_eq_of_lt (by omega)
set_option maxRecDepth 100000 in
set_option maxHeartbeats 1000000 in
theorem padding_any (n : Nat) (h : n ≤ 1000000000000) (w : World) :
    Calls Tryd.prog 31 #[.int .u64 n] w fun e w' => ∃ g c, e = .returned (.slice (some ⟨g, 0, none⟩) (padding n).length c) ∧ w.heap.size ≤ g ∧ (padding n).length ≤ c ∧ Bys8 w'.heap.size w' (.slice (some ⟨g, 0, none⟩) (padding n).length c) (padding n) ∧ Below w.heap.size w w' := by
  have HP := Lib.hid (padding_range n h)
  have hpw := pad_wrap n h
  have hpz : padZeros n < 64 := Nat.mod_lt _ (by decide)
  have HL := Lib.hid (padding_length n)
  obtain ⟨i0, hi, hz0, hz1, hz2⟩ := parts8
  have HI0 := Lib.hid hi
  have HZ0 := Lib.hid hz0
  have HZ1 := Lib.hid hz1
  have HZ2 := Lib.hid hz2
  have HN := Lib.hid h
  clear hi hz0 hz1 hz2
  obtain ⟨z, hzz⟩ : ∃ z, padZeros n = z := ⟨_, rfl⟩
  rw [hzz] at hpw hpz
  have HZ := Lib.hid hzz
  clear hzz
  go_enter Tryd.func31, Tryd.ntmps31
  go_wp2_with (at_make; refine wpList_make_full _ rfl _ _ 33 rfl w.heap.size 5 i0 (.int .u8 0) 1 Tryd.underlying33 HI0.out HZ0.out HZ1.out _ _ _ _ (9 + z) rfl rfl (by omega) (by omega) (by rw [HZ2.out]; omega) (by unfold maxLen; omega) (Nat.le_refl _) ?_; intro w1 hO1 hG1; have hR1 : Row8 w.heap.size (9 + z) (fun _ => 0) w1 := Row8.of_owns hO1 (fun j hj => made8_zero (9 + z) j hj); have c0 := (hR1 0 (by omega)).1; have f0 := (hR1 0 (by omega)).2; have HO1 := Lib.hid hO1; have HG1 := Lib.hid hG1; have HR1 := Lib.hid hR1; clear hO1 hG1 hR1)
  have hB1 : Below w.heap.size w w1 := (Below.refl _ _).grown HG1.out (Nat.le_refl _) (by simp)
  have hg1 : w.heap.size < w1.heap.size := by
    rcases HO1.out.2 with ⟨e, _⟩ | ⟨g', cap', cur, e, hg, hb, _⟩
    · cases e
    · cases e; exact (Array.getElem?_eq_some_iff.1 hb).1
  have HR2 := Lib.hid (HR1.out.set 0 128)
  have HB2 := Lib.hid (hB1.setCell (p := ⟨w.heap.size, 0, none⟩) (Nat.le_refl _) (.int .u8 128))
  have HG2 := Lib.hid (show w.heap.size < (w1.setCell ⟨w.heap.size, 0, none⟩ (.int .u8 128)).heap.size by simpa using hg1)
  clear hB1 hg1 hpw HO1 HG1 HR1 c0 f0
  generalize w1.setCell ⟨w.heap.size, 0, none⟩ (.int .u8 128) = w2 at *
  go_loopw [5, 6] (fun b i wr => ∃ (r X : Nat) (iz : Int), r ≤ 8 ∧ X = n * 8 / 2 ^ (8 * r) ∧ iz = 8 + (z : Int) - (r : Int) ∧ b = .int .u64 (X : Int) ∧ i = .int .i64 iz ∧ Row8 w.heap.size (9 + z) (pf n r) wr ∧ w.heap.size < wr.heap.size ∧ Below w.heap.size w wr) (fun b _ _ => (intOf b).toNat)
  case atStart =>
    refine ⟨0, n * 8, 8 + (z : Int), by omega, by simp, by omega, by go_num, by go_num, ?_, HG2.out, HB2.out⟩
    exact HR2.out.congr fun j hj => by
      unfold pf
      by_cases h0 : j = 0
      · rw [if_pos h0, if_pos h0]
      · rw [if_neg h0, if_neg h0, HZ.out, if_neg (by omega)]
  case round =>
    obtain ⟨r, X, iz, hr, hX, hiz, rfl, rfl, hR, hg, hB⟩ := hrel
    by_cases hx : X = 0
    · subst hx
      have hfin : Row8 w.heap.size (9 + z) (pf n 8) wr := hR.congr fun j hj => pf_rest n r j hX.symm hr (by rw [HZ.out]; exact hj)
      have hb := hfin.bys (fun j _ => pf_bd n 8 j) hg (9 + z)
      have hp := HP.out
      rw [HZ.out] at hp
      rw [hp] at hb
      have hl := HL.out
      rw [HZ.out] at hl
      have HL2 := Lib.hid hl
      have HB := Lib.hid hb
      have HW := Lib.hid hB
      clear hX hiz hR hb hB hp hl hfin
      go_wp2
      go_ret
      refine ⟨w.heap.size, 9 + z, by rw [HL2.out]; rfl, Nat.le_refl _, by rw [HL2.out]; exact Nat.le_refl _, ?_, HW.out⟩
      rw [HL2.out]; exact HB.out
    · have hX0 : 0 < X := by omega
      have hr8 : r < 8 := by
        rcases Nat.lt_or_ge r 8 with h | h
        · exact h
        · obtain rfl : r = 8 := by omega
          rw [hX, pad_eight n HN.out] at hX0; omega
      have hXb : X < 18446744073709551616 := by
        rw [hX]; exact Nat.lt_of_le_of_lt (Nat.div_le_self _ _) (by have := HN.out; omega)
      obtain ⟨q, hq⟩ : ∃ q : Nat, q = 8 + z - r := ⟨_, rfl⟩
      obtain rfl : iz = (q : Int) := by omega
      have hq9 : q < 9 + z := by omega
      have hc := (hR q hq9).1
      have hf := (hR q hq9).2
      have hs := hR.set q (((X : Int) % 256))
      have HS : Row8 w.heap.size (9 + z) (pf n (r + 1)) (wr.setCell ⟨w.heap.size, q, none⟩ (.int .u8 ((X : Int) % 256))) := by
        have e := pf_set n r hr8
        rw [HZ.out, ← hq, ← hX] at e
        have e2 : ((X % 256 : Nat) : Int) = (X : Int) % 256 := by omega
        rw [e2] at e
        rw [← e]; exact hs
      have HT := Lib.hid HS
      have HX := Lib.hid hX
      have HQ := Lib.hid hq
      have HB := Lib.hid (hB.setCell (p := ⟨w.heap.size, q, none⟩) (Nat.le_refl _) (.int .u8 ((X : Int) % 256)))
      have HG := Lib.hid (show w.heap.size < (wr.setCell ⟨w.heap.size, q, none⟩ (.int .u8 ((X : Int) % 256))).heap.size by simpa using hg)
      clear hX hiz hR hs HS hB hx hg hq
      go_wp2
      go_roundw
      case rel =>
        have hq := HQ.out
        exact ⟨r + 1, X / 256, (q : Int) - 1, by omega, by rw [HX.out]; exact shift_step n r, by omega, by go_num, rfl, HT.out, HG.out, HB.out⟩
      case measure => simp [intOf]; omega
end Go.Proofs.YtkhhejkemkldgaaDoor
