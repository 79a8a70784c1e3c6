/- The contract of the document's Times: the product of two signed numbers of 64 bits each. -/
import Derived.Test.YthjjlkoddmljbaaDoorRBare
set_option linter.unusedVariables false
namespace Go.Proofs.YthjjlkoddmljbaaDoor.Ref
open Go.RowKit
theorem bit_one {n k : Nat} (h : bitf n k = 1) : n / 2 ^ k % 2 = 1 := by unfold bitf at h; omega
theorem bit_zero {n k : Nat} (h : ¬ bitf n k = 1) : n / 2 ^ k % 2 = 0 := by unfold bitf at h; have := Nat.mod_lt (n / 2 ^ k) (show 0 < 2 by omega); omega
theorem bit_small {n k : Nat} (h : n ≤ 18446744073709551615) (hb : bitf n k = 1) : k ≤ 63 := by
  rcases Nat.lt_or_ge 63 k with h1 | h1
  · have hp : 2 ^ 64 ≤ 2 ^ k := Nat.pow_le_pow_right (by omega) (by omega)
    have hz : n / 2 ^ k = 0 := Nat.div_eq_of_lt (by omega)
    have := bit_one hb
    rw [hz] at this
    omega
  · exact h1
theorem mod_step {n k : Nat} (hb : ¬ bitf n k = 1) : n % 2 ^ (k + 1) = n % 2 ^ k := by
  rw [Nat.mod_pow_succ, bit_zero hb, Nat.mul_zero, Nat.add_zero]
theorem stand_gt {a b : Nat} (h : b < a) : stand a b = 1 := by rw [stand, if_neg (by omega), if_neg (by omega)]
theorem stand_eq {a b : Nat} (h : a = b) : stand a b = 0 := by rw [stand, if_neg (by omega), if_pos h]
theorem stand_lt {a b : Nat} (h : a < b) : stand a b = -1 := by rw [stand, if_pos h]
/-- A number's bits, i places up, of which k have been laid. -/
def shifted (a i k : Nat) (j : Nat) : Int := if i ≤ j ∧ j < i + k then bitf a (j - i) else 0
theorem shifted_zero (a i : Nat) : num false (fun _ => 0) = num false (shifted a i 0) := num_congr fun j _ => by
  unfold shifted; rw [if_neg (by omega)]
theorem shifted_succ (a i k : Nat) : (fun j => if j = k + i then bitf a k else shifted a i k j) = shifted a i (k + 1) := by
  funext j
  unfold shifted
  by_cases h : j = k + i
  · subst h
    rw [if_pos rfl, if_pos (by omega), show k + i - i = k by omega]
  · rw [if_neg h]
    by_cases h2 : i ≤ j ∧ j < i + k
    · rw [if_pos h2, if_pos (by omega)]
    · rw [if_neg h2, if_neg (by omega)]
theorem bitf_shift (a i j : Nat) : bitf (a * 2 ^ i) j = if i ≤ j then bitf a (j - i) else 0 := by
  unfold bitf
  split
  · rename_i h
    have e : 2 ^ j = 2 ^ i * 2 ^ (j - i) := by rw [← Nat.pow_add, show i + (j - i) = j by omega]
    rw [e, ← Nat.div_div_eq_div_mul, Nat.mul_div_cancel _ (Nat.pow_pos (by omega))]
  · rename_i h
    have e : 2 ^ i = 2 ^ j * (2 * 2 ^ (i - j - 1)) := by
      rw [← Nat.pow_succ', ← Nat.pow_add]
      congr 1; omega
    rw [e, ← Nat.mul_assoc, Nat.mul_comm a, Nat.mul_assoc, Nat.mul_div_cancel_left _ (Nat.pow_pos (by omega))]
    rw [show a * (2 * 2 ^ (i - j - 1)) = 2 * (a * 2 ^ (i - j - 1)) by rw [Nat.mul_left_comm]]
    simp
theorem shifted_all (a i k : Nat) (h : k + i = 200) : num false (shifted a i k) = nb false (a * 2 ^ i) := num_congr fun j hj => by
  rw [bitf_shift]
  unfold shifted
  by_cases h2 : i ≤ j
  · rw [if_pos ⟨h2, by omega⟩, if_pos h2]
  · rw [if_neg (by omega), if_neg h2]
theorem part_step {a b i : Nat} (hb : bitf b i = 1) : a * (b % 2 ^ i) + a * 2 ^ i = a * (b % 2 ^ (i + 1)) := by
  rw [Nat.mod_pow_succ, bit_one hb, Nat.mul_one, Nat.mul_add]
theorem part_bd {a b i : Nat} (ha : a ≤ 1329227995784915872903807060280344575) (hi : i ≤ 63) : a * (b % 2 ^ i) + a * 2 ^ i < 2 ^ 200 := by
  have h1 : b % 2 ^ i < 2 ^ i := Nat.mod_lt _ (Nat.pow_pos (by omega))
  have h2 : 2 ^ i ≤ 2 ^ 63 := Nat.pow_le_pow_right (by omega) hi
  have h3 : a * (b % 2 ^ i) ≤ 1329227995784915872903807060280344575 * 9223372036854775808 := Nat.mul_le_mul ha (by omega)
  have h4 : a * 2 ^ i ≤ 1329227995784915872903807060280344575 * 9223372036854775808 := Nat.mul_le_mul ha (by omega)
  omega
theorem nb_zero : nb false 0 = num false (fun _ => 0) := num_congr fun j _ => by simp [bitf]
set_option maxRecDepth 10000 in
set_option maxHeartbeats 2000000 in
theorem times_core (p q : Bool) (a b : Nat) (ha : a ≤ 1329227995784915872903807060280344575) (hb : b ≤ 18446744073709551615) (w : World) :
    Calls Tryd.prog 35 #[.agg (nb p a), .agg (nb q b)] w fun e w' => e = .returned (.agg (nb ((p != q) && decide (0 < a * b)) (a * b))) ∧ Below w.heap.size w w' := by
  have hz := (zero_of_info info42).1
  have HA := Lib.hid ha
  have HBb := Lib.hid hb
  clear ha hb
  go_enter Tryd.func35, Tryd.ntmps35
  go_wp2
  go_loopw [6] (fun iv wr => ∃ i : Nat, i ≤ 200 ∧ iv = .int .i64 i ∧ At wr w.heap.size (num p (bitf a)) ∧ At wr (w.heap.size + 1) (num q (bitf b)) ∧ At wr (w.heap.size + 1 + 1) (num false (fun _ => 0)) ∧ At wr (w.heap.size + 1 + 1 + 1) (num false (bitf (a * (b % 2 ^ i)))) ∧ Below w.heap.size w wr) (fun iv _ => 200 - (intOf iv).toNat)
  case atStart =>
    have b1 := At.new w (nb p a)
    have b2 := At.new (w.alloc (.cells (nb p a) 73)) (nb q b)
    have b3 := At.new ((w.alloc (.cells (nb p a) 73)).alloc (.cells (nb q b) 73)) zeroNum
    have b4 := At.new (((w.alloc (.cells (nb p a) 73)).alloc (.cells (nb q b) 73)).alloc (.cells zeroNum 73)) zeroNum
    simp only [World.size_alloc] at b2 b3 b4
    refine ⟨0, by omega, rfl, ((b1.alloc _).alloc _).alloc _, (b2.alloc _).alloc _, b3.alloc _, ?_, ((((Below.refl _ w).alloc (Nat.le_refl _) _).alloc (by simp) _).alloc (by simp; omega) _).alloc (by simp; omega) _⟩
    rw [Nat.pow_zero, Nat.mod_one, Nat.mul_zero]
    have e := nb_zero
    unfold nb at e
    rw [e]; exact b4
  case round =>
    obtain ⟨i, hi, rfl, h1, h2, h3, h4, hB⟩ := hrel
    by_cases hlt : i < 200
    · have c2 := h2.bit (k := i) hlt
      by_cases hbit : bitf b i = 1
      · have hi63 := bit_small HBb.out hbit
        have hbn : (bitf b i == 0) = false := by rw [hbit]; rfl
        have HT := Lib.hid hbit
        clear hbit
        have hn := h4.lt
        have g1 := h1.alloc (.cells zeroNum 73)
        have g2 := h2.alloc (.cells zeroNum 73)
        have g3 := h3.alloc (.cells zeroNum 73)
        have g4 := h4.alloc (.cells zeroNum 73)
        have g5 := At.new wr zeroNum
        have hB2 := hB.alloc (by omega) (.cells zeroNum 73)
        have G1 := Lib.hid g1
        have G2 := Lib.hid g2
        have G3 := Lib.hid g3
        have G4 := Lib.hid g4
        have G5 := Lib.hid g5
        have HB2 := Lib.hid hB2
        clear g1 g2 g3 g4 g5 hB2 h1 h2 h3 h4
        have hd : decide ((i : Int) < 200) = true := by simp; omega
        go_wp2
        generalize wr.heap.size = y at *
        generalize World.alloc wr _ = w1 at *
        clear hB c2
        go_loopw [8] (fun kv wx => ∃ k : Nat, k + i ≤ 200 ∧ kv = .int .i64 k ∧ At wx w.heap.size (num p (bitf a)) ∧ At wx (w.heap.size + 1) (num q (bitf b)) ∧ At wx (w.heap.size + 1 + 1) (num false (fun _ => 0)) ∧ At wx (w.heap.size + 1 + 1 + 1) (num false (bitf (a * (b % 2 ^ i)))) ∧ At wx y (num false (shifted a i k)) ∧ Below w.heap.size w wx) (fun kv _ => 200 - (intOf kv).toNat)
        case atStart => exact ⟨0, by omega, rfl, G1.out, G2.out, G3.out, G4.out, by rw [← shifted_zero]; exact G5.out, HB2.out⟩
        case round =>
          obtain ⟨k, hk, rfl, h1, h2, h3, h4, h5, hB⟩ := hrel
          clear G1 G2 G3 G4 G5 HB2
          by_cases hkl : k + i < 200
          · have c1 := h1.bit (k := k) (by omega)
            have c5 := h5.bit (k := k + i) hkl
            have f5 := h5.free (1 + (k + i))
            have H1 := Lib.hid h1
            have H2 := Lib.hid h2
            have H3 := Lib.hid h3
            have H4 := Lib.hid h4
            have H5 := Lib.hid h5
            clear h1 h2 h3 h4 h5
            go_wp2
            go_roundw
            case rel =>
              refine ⟨k + 1, by omega, by go_num, H1.out.other _ (by dsimp only; omega), H2.out.other _ (by dsimp only; omega), H3.out.other _ (by dsimp only; omega), H4.out.other _ (by dsimp only; omega), ?_, hB.setCell (p := ⟨y, 1 + (k + i), none⟩) (by dsimp only; omega) _⟩
              have := H5.out.set (k := k + i) hkl (bitf a k)
              rwa [shifted_succ] at this
            case measure => simp [intOf]; omega
          · have ek : k + i = 200 := by omega
            have ef : num false (shifted a i k) = num false (bitf (a * 2 ^ i)) := shifted_all a i k ek
            rw [ef] at h5
            have H1 := Lib.hid h1
            have H2 := Lib.hid h2
            have H3 := Lib.hid h3
            have H4 := Lib.hid h4
            have H5 := Lib.hid h5
            have hkd : ¬ ((k : Int) + (i : Int) < 200) := by omega
            clear h1 h2 h3 h4 h5 ef ek
            go_wp2_with (first | (refine load_num H4.out rfl rfl rfl ?_) | (refine load_num H5.out rfl rfl rfl ?_))
            refine (plus_any false false (a * (b % 2 ^ i)) (a * 2 ^ i) (part_bd HA.out hi63) _).mono ?_
            rintro e w2 ⟨rfl, hB2⟩
            have M1 := Lib.hid (H1.out.below H1.out.lt hB2)
            have M2 := Lib.hid (H2.out.below H2.out.lt hB2)
            have M3 := Lib.hid (H3.out.below H3.out.lt hB2)
            have M4 := Lib.hid (H4.out.below H4.out.lt hB2)
            have hB3 := hB.trans (hB2.mono hB.size)
            clear H1 H2 H3 H4 H5 hB2 hB hkd
            go_wp2_with (refine store_num (neg := false) (f := bitf (a * (b % 2 ^ i) + a * 2 ^ i)) M4.out rfl rfl rfl rfl ?_)
            go_roundw
            case rel =>
              refine ⟨i + 1, by omega, by go_num, M1.out.rowOther _ (by omega), M2.out.rowOther _ (by omega), M3.out.rowOther _ (by omega), ?_, below_row hB3 (by omega) _⟩
              rw [← part_step HT.out]
              exact M4.out.row
            case measure => simp [intOf]; omega
      · have hb0 : bitf b i = 0 := by have := bitf_bd b i; omega
        have hbn : (bitf b i == 0) = true := by rw [hb0]; rfl
        have HT := Lib.hid hbit
        have H1 := Lib.hid h1
        have H2 := Lib.hid h2
        have H3 := Lib.hid h3
        have H4 := Lib.hid h4
        clear hbit hb0 h1 h2 h3 h4
        go_wp2
        go_roundw
        case rel => exact ⟨i + 1, by omega, by go_num, H1.out, H2.out, H3.out, by rw [mod_step HT.out]; exact H4.out, hB⟩
        case measure => simp [intOf]; omega
    · have ei : i = 200 := by omega
      subst ei
      rw [Nat.mod_eq_of_lt (Nat.lt_of_le_of_lt HBb.out (by omega))] at h4
      obtain ⟨w1, ew, x1, keep, hB1⟩ := fresh wr false (fun _ => 0)
      have hn := h4.lt
      have K1 := Lib.hid (keep _ _ h1)
      have K2 := Lib.hid (keep _ _ h2)
      have K3 := Lib.hid (keep _ _ h3)
      have K4 := Lib.hid (keep _ _ h4)
      have KX := Lib.hid x1
      have HX := Lib.hid (At.new wr zeroNum)
      have HW := Lib.hid ew
      have hB2 := hB.trans (hB1.mono hB.size)
      have hP : a * b < 2 ^ 200 := by
        have := Nat.mul_le_mul HA.out HBb.out
        omega
      have HP := Lib.hid hP
      clear h1 h2 h3 h4 ew x1 keep hB hB1 hP
      go_wp2_with (first | (refine build_num rfl rfl ?_) | (refine store_num (neg := false) (f := fun _ => 0) (f' := fun _ => 0) HX.out rfl rfl rfl rfl ?_; rw [HW.out]) | (refine load_num K4.out rfl rfl rfl ?_) | (refine load_num KX.out rfl rfl rfl ?_))
      by_cases h0 : a * b = 0
      · have hbare : ∀ W : World, Calls Tryd.prog 37 #[.agg (num false (bitf (a * b))), .agg (num false (fun _ => 0))] W fun e w' => e = .returned (.int .i64 0) ∧ Below W.heap.size W w' := fun W => by
          have k := bare_any false false (a * b) 0 HP.out (by omega) W
          rw [stand_eq h0, nb_zero] at k
          exact k
        have HN := Lib.hid (show ((p != q) && decide (0 < a * b)) = false from by rw [h0]; simp)
        refine (hbare _).mono ?_
        rintro e w2 ⟨rfl, hB3⟩
        have m1 := K1.out.below K1.out.lt hB3
        have m2 := K2.out.below K2.out.lt hB3
        have m3 := K3.out.below K3.out.lt hB3
        have m4 := K4.out.below K4.out.lt hB3
        have hB4 := hB2.trans (hB3.mono hB2.size)
        clear hbare K1 K2 K3 K4 KX HX HW hB2 hB3 HP h0
        cases p <;> cases q
        · have n1 := m1.neg
          have n2 := m2.neg
          have c4 := m4.neg
          have f4 := m4.free 0
          have L4 := Lib.hid (m4.setNeg false)
          have L3 := Lib.hid (m3.other (.bool false) (a := ⟨w.heap.size + 1 + 1 + 1, 0, none⟩) (by dsimp only; omega))
          have hB5 := hB4.setCell (p := ⟨w.heap.size + 1 + 1 + 1, 0, none⟩) (by dsimp only; omega) (.bool false)
          clear m1 m2 m3 m4 hB4
          go_wp2_with (first | (refine load_num L4.out rfl rfl rfl ?_) | (refine store_num L3.out rfl rfl rfl rfl ?_))
          exact bodyPost_ret (v := .agg (nb false (a * b))) (results_cell_row rfl _ _ (w.heap.size + 1 + 1) _ _ _ _ rfl L3.out.row Tryd.underlying73 rfl (size42 _ _)) rfl ⟨by rw [HN.out], below_row hB5 (by omega) _⟩
        · have n1 := m1.neg
          have n2 := m2.neg
          have c4 := m4.neg
          have f4 := m4.free 0
          have L4 := Lib.hid (m4.setNeg false)
          have L3 := Lib.hid (m3.other (.bool false) (a := ⟨w.heap.size + 1 + 1 + 1, 0, none⟩) (by dsimp only; omega))
          have hB5 := hB4.setCell (p := ⟨w.heap.size + 1 + 1 + 1, 0, none⟩) (by dsimp only; omega) (.bool false)
          clear m1 m2 m3 m4 hB4
          go_wp2_with (first | (refine load_num L4.out rfl rfl rfl ?_) | (refine store_num L3.out rfl rfl rfl rfl ?_))
          exact bodyPost_ret (v := .agg (nb false (a * b))) (results_cell_row rfl _ _ (w.heap.size + 1 + 1) _ _ _ _ rfl L3.out.row Tryd.underlying73 rfl (size42 _ _)) rfl ⟨by rw [HN.out], below_row hB5 (by omega) _⟩
        · have n1 := m1.neg
          have n2 := m2.neg
          have c4 := m4.neg
          have f4 := m4.free 0
          have L4 := Lib.hid (m4.setNeg false)
          have L3 := Lib.hid (m3.other (.bool false) (a := ⟨w.heap.size + 1 + 1 + 1, 0, none⟩) (by dsimp only; omega))
          have hB5 := hB4.setCell (p := ⟨w.heap.size + 1 + 1 + 1, 0, none⟩) (by dsimp only; omega) (.bool false)
          clear m1 m2 m3 m4 hB4
          go_wp2_with (first | (refine load_num L4.out rfl rfl rfl ?_) | (refine store_num L3.out rfl rfl rfl rfl ?_))
          exact bodyPost_ret (v := .agg (nb false (a * b))) (results_cell_row rfl _ _ (w.heap.size + 1 + 1) _ _ _ _ rfl L3.out.row Tryd.underlying73 rfl (size42 _ _)) rfl ⟨by rw [HN.out], below_row hB5 (by omega) _⟩
        · have n1 := m1.neg
          have n2 := m2.neg
          have c4 := m4.neg
          have f4 := m4.free 0
          have L4 := Lib.hid (m4.setNeg false)
          have L3 := Lib.hid (m3.other (.bool false) (a := ⟨w.heap.size + 1 + 1 + 1, 0, none⟩) (by dsimp only; omega))
          have hB5 := hB4.setCell (p := ⟨w.heap.size + 1 + 1 + 1, 0, none⟩) (by dsimp only; omega) (.bool false)
          clear m1 m2 m3 m4 hB4
          go_wp2_with (first | (refine load_num L4.out rfl rfl rfl ?_) | (refine store_num L3.out rfl rfl rfl rfl ?_))
          exact bodyPost_ret (v := .agg (nb false (a * b))) (results_cell_row rfl _ _ (w.heap.size + 1 + 1) _ _ _ _ rfl L3.out.row Tryd.underlying73 rfl (size42 _ _)) rfl ⟨by rw [HN.out], below_row hB5 (by omega) _⟩
      · have hbare : ∀ W : World, Calls Tryd.prog 37 #[.agg (num false (bitf (a * b))), .agg (num false (fun _ => 0))] W fun e w' => e = .returned (.int .i64 1) ∧ Below W.heap.size W w' := fun W => by
          have k := bare_any false false (a * b) 0 HP.out (by omega) W
          rw [stand_gt (Nat.pos_of_ne_zero h0), nb_zero] at k
          exact k
        have HN := Lib.hid (show ((p != q) && decide (0 < a * b)) = (p != q) from by rw [decide_eq_true (Nat.pos_of_ne_zero h0), Bool.and_true])
        refine (hbare _).mono ?_
        rintro e w2 ⟨rfl, hB3⟩
        have m1 := K1.out.below K1.out.lt hB3
        have m2 := K2.out.below K2.out.lt hB3
        have m3 := K3.out.below K3.out.lt hB3
        have m4 := K4.out.below K4.out.lt hB3
        have hB4 := hB2.trans (hB3.mono hB2.size)
        clear hbare K1 K2 K3 K4 KX HX HW hB2 hB3 HP h0
        cases p <;> cases q
        · have n1 := m1.neg
          have n2 := m2.neg
          have c4 := m4.neg
          have f4 := m4.free 0
          have L4 := Lib.hid (m4.setNeg false)
          have L3 := Lib.hid (m3.other (.bool false) (a := ⟨w.heap.size + 1 + 1 + 1, 0, none⟩) (by dsimp only; omega))
          have hB5 := hB4.setCell (p := ⟨w.heap.size + 1 + 1 + 1, 0, none⟩) (by dsimp only; omega) (.bool false)
          clear m1 m2 m3 m4 hB4
          go_wp2_with (first | (refine load_num L4.out rfl rfl rfl ?_) | (refine store_num L3.out rfl rfl rfl rfl ?_))
          exact bodyPost_ret (v := .agg (nb false (a * b))) (results_cell_row rfl _ _ (w.heap.size + 1 + 1) _ _ _ _ rfl L3.out.row Tryd.underlying73 rfl (size42 _ _)) rfl ⟨by rw [HN.out]; rfl, below_row hB5 (by omega) _⟩
        · have n1 := m1.neg
          have n2 := m2.neg
          have c4 := m4.neg
          have f4 := m4.free 0
          have L4 := Lib.hid (m4.setNeg true)
          have L3 := Lib.hid (m3.other (.bool true) (a := ⟨w.heap.size + 1 + 1 + 1, 0, none⟩) (by dsimp only; omega))
          have hB5 := hB4.setCell (p := ⟨w.heap.size + 1 + 1 + 1, 0, none⟩) (by dsimp only; omega) (.bool true)
          clear m1 m2 m3 m4 hB4
          go_wp2_with (first | (refine load_num L4.out rfl rfl rfl ?_) | (refine store_num L3.out rfl rfl rfl rfl ?_))
          exact bodyPost_ret (v := .agg (nb true (a * b))) (results_cell_row rfl _ _ (w.heap.size + 1 + 1) _ _ _ _ rfl L3.out.row Tryd.underlying73 rfl (size42 _ _)) rfl ⟨by rw [HN.out]; rfl, below_row hB5 (by omega) _⟩
        · have n1 := m1.neg
          have n2 := m2.neg
          have c4 := m4.neg
          have f4 := m4.free 0
          have L4 := Lib.hid (m4.setNeg true)
          have L3 := Lib.hid (m3.other (.bool true) (a := ⟨w.heap.size + 1 + 1 + 1, 0, none⟩) (by dsimp only; omega))
          have hB5 := hB4.setCell (p := ⟨w.heap.size + 1 + 1 + 1, 0, none⟩) (by dsimp only; omega) (.bool true)
          clear m1 m2 m3 m4 hB4
          go_wp2_with (first | (refine load_num L4.out rfl rfl rfl ?_) | (refine store_num L3.out rfl rfl rfl rfl ?_))
          exact bodyPost_ret (v := .agg (nb true (a * b))) (results_cell_row rfl _ _ (w.heap.size + 1 + 1) _ _ _ _ rfl L3.out.row Tryd.underlying73 rfl (size42 _ _)) rfl ⟨by rw [HN.out]; rfl, below_row hB5 (by omega) _⟩
        · have n1 := m1.neg
          have n2 := m2.neg
          have c4 := m4.neg
          have f4 := m4.free 0
          have L4 := Lib.hid (m4.setNeg false)
          have L3 := Lib.hid (m3.other (.bool false) (a := ⟨w.heap.size + 1 + 1 + 1, 0, none⟩) (by dsimp only; omega))
          have hB5 := hB4.setCell (p := ⟨w.heap.size + 1 + 1 + 1, 0, none⟩) (by dsimp only; omega) (.bool false)
          clear m1 m2 m3 m4 hB4
          go_wp2_with (first | (refine load_num L4.out rfl rfl rfl ?_) | (refine store_num L3.out rfl rfl rfl rfl ?_))
          exact bodyPost_ret (v := .agg (nb false (a * b))) (results_cell_row rfl _ _ (w.heap.size + 1 + 1) _ _ _ _ rfl L3.out.row Tryd.underlying73 rfl (size42 _ _)) rfl ⟨by rw [HN.out]; rfl, below_row hB5 (by omega) _⟩
end Go.Proofs.YthjjlkoddmljbaaDoor.Ref
