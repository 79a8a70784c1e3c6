/- Joined: Signed RefSum Uint Times Parts. -/
import Derived.Test.YtbffmobjiiicoaaJF1
import Derived.Deep.RegionWith
import Derived.Laws.Shifts
import Derived.Laws.ShiftsVar
section
/- The contract of the document's Signed: a number of int64 as a sign and bits. -/
set_option linter.unusedVariables false
namespace Go.Proofs.Ytbffmobjiiicoaa.F1
open Go.RowKit
theorem of_one (w : World) : Calls Try.prog 23 #[.int .u64 1] w fun e w' => e = .returned (.agg (nb false 1)) ∧ Below w.heap.size w w' := of_any 1 w (by omega)
end Go.Proofs.Ytbffmobjiiicoaa.F1
end
section
/- The contract of the document's Sum of two signed numbers. -/
set_option linter.unusedVariables false
namespace Go.Proofs.Ytbffmobjiiicoaa.F1
open Go.RowKit
/-- A whole number as the document's own: its sign, and its bits without it. -/
def sgn (x : Int) : Array Value := nb (decide (x < 0)) x.natAbs
theorem sgn_neg {x : Int} (h : x < 0) : sgn x = nb true x.natAbs := by rw [sgn, decide_eq_true h]
theorem sgn_pos {x : Int} (h : 0 ≤ x) : sgn x = nb false x.natAbs := by rw [sgn, decide_eq_false (by omega)]
theorem stand_gt {a b : Nat} (h : b < a) : stand a b = 1 := by rw [stand, if_neg (by omega), if_neg (by omega)]
theorem stand_eq {a b : Nat} (h : a = b) : stand a b = 0 := by rw [stand, if_neg (by omega), if_pos h]
theorem stand_lt {a b : Nat} (h : a < b) : stand a b = -1 := by rw [stand, if_pos h]
end Go.Proofs.Ytbffmobjiiicoaa.F1
end
section
/- The contract of the document's Uint: a row of bits as a number of 64 bits, or that it is none. -/
set_option linter.unusedVariables false
namespace Go.Proofs.Ytbffmobjiiicoaa.F1
open Go.RowKit
/-- What the first k bits say. -/
def lowv (n k : Nat) : Int := ((n % 2 ^ k : Nat) : Int)
theorem lowv_zero (n : Nat) : lowv n 0 = 0 := by simp [lowv, Nat.mod_one]
theorem lowv_all {n : Nat} (h : n < 2 ^ 200) : lowv n 200 = (n : Int) := by rw [lowv, Nat.mod_eq_of_lt h]
theorem bit_one {n k : Nat} (h : bitf n k = 1) : n / 2 ^ k % 2 = 1 := by unfold bitf at h; omega
theorem bit_zero {n k : Nat} (h : ¬ bitf n k = 1) : n / 2 ^ k % 2 = 0 := by unfold bitf at h; have := Nat.mod_lt (n / 2 ^ k) (show 0 < 2 by omega); omega
theorem bit_small {n k : Nat} (h : n ≤ 18446744073709551615) (hb : bitf n k = 1) : k ≤ 63 := by
  rcases Nat.lt_or_ge 63 k with h1 | h1
  · have hp : 2 ^ 64 ≤ 2 ^ k := Nat.pow_le_pow_right (by omega) (by omega)
    have hz : n / 2 ^ k = 0 := Nat.div_eq_of_lt (by omega)
    have := bit_one hb
    rw [hz] at this
    omega
  · exact h1
theorem mod_step {n k : Nat} (hb : ¬ bitf n k = 1) : n % 2 ^ (k + 1) = n % 2 ^ k := by
  rw [Nat.mod_pow_succ, bit_zero hb, Nat.mul_zero, Nat.add_zero]
theorem zero_step {n k : Nat} (hb : ¬ bitf n k = 1) : lowv n (k + 1) = lowv n k := by rw [lowv, lowv, mod_step hb]
theorem mod_small {n k : Nat} (h63 : k ≤ 63) : n % 2 ^ (k + 1) < 18446744073709551616 :=
  Nat.lt_of_lt_of_le (Nat.mod_lt _ (Nat.pow_pos (by omega))) (show 2 ^ (k + 1) ≤ 2 ^ 64 from Nat.pow_le_pow_right (by omega) (by omega))
theorem or_step {n k : Nat} (hb : bitf n k = 1) (h63 : k ≤ 63) : bits BinOp.or IntKind.u64 (lowv n k) (IntKind.u64.wrap (2 ^ k)) = lowv n (k + 1) := by
  have hk : 2 ^ k ≤ 2 ^ 63 := Nat.pow_le_pow_right (by omega) h63
  have hl : n % 2 ^ k < 2 ^ k := Nat.mod_lt _ (Nat.pow_pos (by omega))
  have e2 : IntKind.u64.wrap ((2 : Int) ^ k) = ((2 ^ k : Nat) : Int) := by
    rw [IntKind.wrap_u64, show ((2 : Int) ^ k) = ((2 ^ k : Nat) : Int) by simp]; omega
  have h := bits_or_u64_nat (n % 2 ^ k) (2 ^ k) (by omega) (by omega)
  rw [e2, lowv, h, lowv, Nat.mod_pow_succ, bit_one hb, Nat.mul_one]
  have := Nat.two_pow_add_eq_or_of_lt hl 1
  rw [Nat.mul_one] at this
  rw [Nat.or_comm, ← this, Nat.add_comm]
set_option maxRecDepth 10000 in
set_option maxHeartbeats 1000000 in
theorem uint_in (p : Bool) (n : Nat) (h : n ≤ 18446744073709551615) (w : World) :
    Calls Try.prog 25 #[.agg (nb p n)] w fun e w' => e = .returned (.tuple #[.int .u64 n, .bool (!p)]) ∧ Below w.heap.size w w' := by
  have b1 : At (w.alloc (.cells (nb p n) 66)) w.heap.size (num p (bitf n)) := At.new w (nb p n)
  have HB1 := Lib.hid b1
  have HH := Lib.hid h
  clear b1 h
  go_enter Try.func25, Try.ntmps25
  go_wp2
  go_loopw [4, 5] (fun v i wr => ∃ k : Nat, k ≤ 200 ∧ v = .int .u64 (lowv n k) ∧ i = .int .i64 k ∧ At wr w.heap.size (num p (bitf n)) ∧ Below w.heap.size w wr) (fun _ i _ => 200 - (intOf i).toNat)
  case atStart => exact ⟨0, by omega, by rw [lowv_zero], rfl, HB1.out, (Below.refl _ w).alloc (Nat.le_refl _) _⟩
  case round =>
    obtain ⟨k, hk, rfl, rfl, h1, hB⟩ := hrel
    by_cases hlt : k < 200
    · have c1 := h1.bit (k := k) hlt
      obtain ⟨x0, x1⟩ := bitf_bd n k
      have H1 := Lib.hid h1
      clear h1
      by_cases hb : bitf n k = 1
      · have hb2 : (bitf n k == 1) = true := by simpa using hb
        have HBt := Lib.hid hb
        clear hb
        have h63 : k ≤ 63 := bit_small HH.out HBt.out
        go_wp2
        go_roundw
        case rel => exact ⟨k + 1, by omega, by rw [or_step HBt.out h63], by go_num, H1.out, hB⟩
        case measure => simp [intOf]; omega
      · have hb2 : (bitf n k == 1) = false := by simpa using hb
        have HBt := Lib.hid hb
        clear hb
        go_wp2
        go_roundw
        case rel => exact ⟨k + 1, by omega, by rw [zero_step HBt.out], by go_num, H1.out, hB⟩
        case measure => simp [intOf]; omega
    · have ek : k = 200 := by omega
      subst ek
      have n1 := h1.neg
      rw [lowv_all (Nat.lt_of_le_of_lt HH.out (by omega))]
      clear h1
      go_wp2
      go_quiet (fail)
      go_wp2
      go_ret2
      exact ⟨rfl, below_drewN hB _⟩
set_option maxRecDepth 10000 in
set_option maxHeartbeats 1000000 in
theorem uint_out (p : Bool) (n : Nat) (h : 18446744073709551616 ≤ n ∧ n < 2 ^ 200) (w : World) :
    Calls Try.prog 25 #[.agg (nb p n)] w fun e w' => e = .returned (.tuple #[.int .u64 0, .bool false]) ∧ Below w.heap.size w w' := by
  have b1 : At (w.alloc (.cells (nb p n) 66)) w.heap.size (num p (bitf n)) := At.new w (nb p n)
  have HB1 := Lib.hid b1
  have HH := Lib.hid h
  clear b1 h
  go_enter Try.func25, Try.ntmps25
  go_wp2
  go_loopw [4, 5] (fun v i wr => ∃ k : Nat, k ≤ 200 ∧ v = .int .u64 (lowv n k) ∧ i = .int .i64 k ∧ Hid (n % 2 ^ k < 18446744073709551616) ∧ At wr w.heap.size (num p (bitf n)) ∧ Below w.heap.size w wr) (fun _ i _ => 200 - (intOf i).toNat)
  case atStart => exact ⟨0, by omega, by rw [lowv_zero], rfl, Lib.hid (by simp [Nat.mod_one]), HB1.out, (Below.refl _ w).alloc (Nat.le_refl _) _⟩
  case round =>
    obtain ⟨k, hk, rfl, rfl, hs, h1, hB⟩ := hrel
    by_cases hlt : k < 200
    · have c1 := h1.bit (k := k) hlt
      obtain ⟨x0, x1⟩ := bitf_bd n k
      have H1 := Lib.hid h1
      clear h1
      by_cases hb : bitf n k = 1
      · have hb2 : (bitf n k == 1) = true := by simpa using hb
        have HBt := Lib.hid hb
        clear hb
        by_cases h63 : k ≤ 63
        · go_wp2
          go_roundw
          case rel => exact ⟨k + 1, by omega, by rw [or_step HBt.out h63], by go_num, Lib.hid (mod_small h63), H1.out, hB⟩
          case measure => simp [intOf]; omega
        · go_wp2
          go_ret2
          exact ⟨rfl, hB⟩
      · have hb2 : (bitf n k == 1) = false := by simpa using hb
        have HBt := Lib.hid hb
        clear hb
        go_wp2
        go_roundw
        case rel => exact ⟨k + 1, by omega, by rw [zero_step HBt.out], by go_num, Lib.hid (by rw [mod_step HBt.out]; exact hs.out), H1.out, hB⟩
        case measure => simp [intOf]; omega
    · have ek : k = 200 := by omega
      subst ek
      have := hs.out
      rw [Nat.mod_eq_of_lt HH.out.2] at this
      exact absurd HH.out.1 (by omega)
end Go.Proofs.Ytbffmobjiiicoaa.F1
end
section
/- The contract of the document's Times: the product of two signed numbers of 64 bits each. -/
set_option linter.unusedVariables false
namespace Go.Proofs.Ytbffmobjiiicoaa.F1
open Go.RowKit
/-- A number's bits, i places up, of which k have been laid. -/
def shifted (a i k : Nat) (j : Nat) : Int := if i ≤ j ∧ j < i + k then bitf a (j - i) else 0
theorem shifted_zero (a i : Nat) : num false (fun _ => 0) = num false (shifted a i 0) := num_congr fun j _ => by
  unfold shifted; rw [if_neg (by omega)]
theorem shifted_succ (a i k : Nat) : (fun j => if j = k + i then bitf a k else shifted a i k j) = shifted a i (k + 1) := by
  funext j
  unfold shifted
  by_cases h : j = k + i
  · subst h
    rw [if_pos rfl, if_pos (by omega), show k + i - i = k by omega]
  · rw [if_neg h]
    by_cases h2 : i ≤ j ∧ j < i + k
    · rw [if_pos h2, if_pos (by omega)]
    · rw [if_neg h2, if_neg (by omega)]
theorem bitf_shift (a i j : Nat) : bitf (a * 2 ^ i) j = if i ≤ j then bitf a (j - i) else 0 := by
  unfold bitf
  split
  · rename_i h
    have e : 2 ^ j = 2 ^ i * 2 ^ (j - i) := by rw [← Nat.pow_add, show i + (j - i) = j by omega]
    rw [e, ← Nat.div_div_eq_div_mul, Nat.mul_div_cancel _ (Nat.pow_pos (by omega))]
  · rename_i h
    have e : 2 ^ i = 2 ^ j * (2 * 2 ^ (i - j - 1)) := by
      rw [← Nat.pow_succ', ← Nat.pow_add]
      congr 1; omega
    rw [e, ← Nat.mul_assoc, Nat.mul_comm a, Nat.mul_assoc, Nat.mul_div_cancel_left _ (Nat.pow_pos (by omega))]
    rw [show a * (2 * 2 ^ (i - j - 1)) = 2 * (a * 2 ^ (i - j - 1)) by rw [Nat.mul_left_comm]]
    simp
theorem shifted_all (a i k : Nat) (h : k + i = 200) : num false (shifted a i k) = nb false (a * 2 ^ i) := num_congr fun j hj => by
  rw [bitf_shift]
  unfold shifted
  by_cases h2 : i ≤ j
  · rw [if_pos ⟨h2, by omega⟩, if_pos h2]
  · rw [if_neg (by omega), if_neg h2]
theorem part_step {a b i : Nat} (hb : bitf b i = 1) : a * (b % 2 ^ i) + a * 2 ^ i = a * (b % 2 ^ (i + 1)) := by
  rw [Nat.mod_pow_succ, bit_one hb, Nat.mul_one, Nat.mul_add]
theorem part_bd {a b i : Nat} (ha : a ≤ 18446744073709551615) (hi : i ≤ 63) : a * (b % 2 ^ i) + a * 2 ^ i < 2 ^ 200 := by
  have h1 : b % 2 ^ i < 2 ^ i := Nat.mod_lt _ (Nat.pow_pos (by omega))
  have h2 : 2 ^ i ≤ 2 ^ 63 := Nat.pow_le_pow_right (by omega) hi
  have h3 : a * (b % 2 ^ i) ≤ 18446744073709551615 * 9223372036854775808 := Nat.mul_le_mul ha (by omega)
  have h4 : a * 2 ^ i ≤ 18446744073709551615 * 9223372036854775808 := Nat.mul_le_mul ha (by omega)
  omega
theorem nb_zero : nb false 0 = num false (fun _ => 0) := num_congr fun j _ => by simp [bitf]
set_option maxRecDepth 10000 in
set_option maxHeartbeats 2000000 in
theorem times_core (p q : Bool) (a b : Nat) (ha : a ≤ 18446744073709551615) (hb : b ≤ 18446744073709551615) (w : World) :
    Calls Try.prog 22 #[.agg (nb p a), .agg (nb q b)] w fun e w' => e = .returned (.agg (nb ((p != q) && decide (0 < a * b)) (a * b))) ∧ Below w.heap.size w w' := by
  have hz := (zero_of_info info42).1
  have HA := Lib.hid ha
  have HBb := Lib.hid hb
  clear ha hb
  go_enter Try.func22, Try.ntmps22
  go_wp2
  go_loopw [6] (fun iv wr => ∃ i : Nat, i ≤ 200 ∧ iv = .int .i64 i ∧ At wr w.heap.size (num p (bitf a)) ∧ At wr (w.heap.size + 1) (num q (bitf b)) ∧ At wr (w.heap.size + 1 + 1) (num false (fun _ => 0)) ∧ At wr (w.heap.size + 1 + 1 + 1) (num false (bitf (a * (b % 2 ^ i)))) ∧ Below w.heap.size w wr) (fun iv _ => 200 - (intOf iv).toNat)
  case atStart =>
    have b1 := At.new w (nb p a)
    have b2 := At.new (w.alloc (.cells (nb p a) 66)) (nb q b)
    have b3 := At.new ((w.alloc (.cells (nb p a) 66)).alloc (.cells (nb q b) 66)) zeroNum
    have b4 := At.new (((w.alloc (.cells (nb p a) 66)).alloc (.cells (nb q b) 66)).alloc (.cells zeroNum 66)) zeroNum
    simp only [World.size_alloc] at b2 b3 b4
    refine ⟨0, by omega, rfl, ((b1.alloc _).alloc _).alloc _, (b2.alloc _).alloc _, b3.alloc _, ?_, ((((Below.refl _ w).alloc (Nat.le_refl _) _).alloc (by simp) _).alloc (by simp; omega) _).alloc (by simp; omega) _⟩
    rw [Nat.pow_zero, Nat.mod_one, Nat.mul_zero]
    have e := nb_zero
    unfold nb at e
    rw [e]; exact b4
  case round =>
    obtain ⟨i, hi, rfl, h1, h2, h3, h4, hB⟩ := hrel
    by_cases hlt : i < 200
    · have c2 := h2.bit (k := i) hlt
      by_cases hbit : bitf b i = 1
      · have hi63 := bit_small HBb.out hbit
        have hbn : (bitf b i == 0) = false := by rw [hbit]; rfl
        have HT := Lib.hid hbit
        clear hbit
        have hn := h4.lt
        have g1 := h1.alloc (.cells zeroNum 66)
        have g2 := h2.alloc (.cells zeroNum 66)
        have g3 := h3.alloc (.cells zeroNum 66)
        have g4 := h4.alloc (.cells zeroNum 66)
        have g5 := At.new wr zeroNum
        have hB2 := hB.alloc (by omega) (.cells zeroNum 66)
        have G1 := Lib.hid g1
        have G2 := Lib.hid g2
        have G3 := Lib.hid g3
        have G4 := Lib.hid g4
        have G5 := Lib.hid g5
        have HB2 := Lib.hid hB2
        clear g1 g2 g3 g4 g5 hB2 h1 h2 h3 h4
        have hd : decide ((i : Int) < 200) = true := by simp; omega
        go_wp2
        generalize wr.heap.size = y at *
        generalize World.alloc wr _ = w1 at *
        clear hB c2
        go_loopw [8] (fun kv wx => ∃ k : Nat, k + i ≤ 200 ∧ kv = .int .i64 k ∧ At wx w.heap.size (num p (bitf a)) ∧ At wx (w.heap.size + 1) (num q (bitf b)) ∧ At wx (w.heap.size + 1 + 1) (num false (fun _ => 0)) ∧ At wx (w.heap.size + 1 + 1 + 1) (num false (bitf (a * (b % 2 ^ i)))) ∧ At wx y (num false (shifted a i k)) ∧ Below w.heap.size w wx) (fun kv _ => 200 - (intOf kv).toNat)
        case atStart => exact ⟨0, by omega, rfl, G1.out, G2.out, G3.out, G4.out, by rw [← shifted_zero]; exact G5.out, HB2.out⟩
        case round =>
          obtain ⟨k, hk, rfl, h1, h2, h3, h4, h5, hB⟩ := hrel
          clear G1 G2 G3 G4 G5 HB2
          by_cases hkl : k + i < 200
          · have c1 := h1.bit (k := k) (by omega)
            have c5 := h5.bit (k := k + i) hkl
            have f5 := h5.free (1 + (k + i))
            have H1 := Lib.hid h1
            have H2 := Lib.hid h2
            have H3 := Lib.hid h3
            have H4 := Lib.hid h4
            have H5 := Lib.hid h5
            clear h1 h2 h3 h4 h5
            go_wp2
            go_roundw
            case rel =>
              refine ⟨k + 1, by omega, by go_num, H1.out.other _ (by dsimp only; omega), H2.out.other _ (by dsimp only; omega), H3.out.other _ (by dsimp only; omega), H4.out.other _ (by dsimp only; omega), ?_, hB.setCell (p := ⟨y, 1 + (k + i), none⟩) (by dsimp only; omega) _⟩
              have := H5.out.set (k := k + i) hkl (bitf a k)
              rwa [shifted_succ] at this
            case measure => simp [intOf]; omega
          · have ek : k + i = 200 := by omega
            have ef : num false (shifted a i k) = num false (bitf (a * 2 ^ i)) := shifted_all a i k ek
            rw [ef] at h5
            have H1 := Lib.hid h1
            have H2 := Lib.hid h2
            have H3 := Lib.hid h3
            have H4 := Lib.hid h4
            have H5 := Lib.hid h5
            have hkd : ¬ ((k : Int) + (i : Int) < 200) := by omega
            clear h1 h2 h3 h4 h5 ef ek
            go_wp2_with (first | (refine load_num H4.out rfl rfl rfl ?_) | (refine load_num H5.out rfl rfl rfl ?_))
            refine (plus_any false false (a * (b % 2 ^ i)) (a * 2 ^ i) (part_bd HA.out hi63) _).mono ?_
            rintro e w2 ⟨rfl, hB2⟩
            have M1 := Lib.hid (H1.out.below H1.out.lt hB2)
            have M2 := Lib.hid (H2.out.below H2.out.lt hB2)
            have M3 := Lib.hid (H3.out.below H3.out.lt hB2)
            have M4 := Lib.hid (H4.out.below H4.out.lt hB2)
            have hB3 := hB.trans (hB2.mono hB.size)
            clear H1 H2 H3 H4 H5 hB2 hB hkd
            go_wp2_with (refine store_num (neg := false) (f := bitf (a * (b % 2 ^ i) + a * 2 ^ i)) M4.out rfl rfl rfl rfl ?_)
            go_roundw
            case rel =>
              refine ⟨i + 1, by omega, by go_num, M1.out.rowOther _ (by omega), M2.out.rowOther _ (by omega), M3.out.rowOther _ (by omega), ?_, below_row hB3 (by omega) _⟩
              rw [← part_step HT.out]
              exact M4.out.row
            case measure => simp [intOf]; omega
      · have hb0 : bitf b i = 0 := by have := bitf_bd b i; omega
        have hbn : (bitf b i == 0) = true := by rw [hb0]; rfl
        have HT := Lib.hid hbit
        have H1 := Lib.hid h1
        have H2 := Lib.hid h2
        have H3 := Lib.hid h3
        have H4 := Lib.hid h4
        clear hbit hb0 h1 h2 h3 h4
        go_wp2
        go_roundw
        case rel => exact ⟨i + 1, by omega, by go_num, H1.out, H2.out, H3.out, by rw [mod_step HT.out]; exact H4.out, hB⟩
        case measure => simp [intOf]; omega
    · have ei : i = 200 := by omega
      subst ei
      rw [Nat.mod_eq_of_lt (Nat.lt_of_le_of_lt HBb.out (by omega))] at h4
      obtain ⟨w1, ew, x1, keep, hB1⟩ := fresh wr false (fun _ => 0)
      have hn := h4.lt
      have K1 := Lib.hid (keep _ _ h1)
      have K2 := Lib.hid (keep _ _ h2)
      have K3 := Lib.hid (keep _ _ h3)
      have K4 := Lib.hid (keep _ _ h4)
      have KX := Lib.hid x1
      have HX := Lib.hid (At.new wr zeroNum)
      have HW := Lib.hid ew
      have hB2 := hB.trans (hB1.mono hB.size)
      have hP : a * b < 2 ^ 200 := by
        have := Nat.mul_le_mul HA.out HBb.out
        omega
      have HP := Lib.hid hP
      clear h1 h2 h3 h4 ew x1 keep hB hB1 hP
      go_wp2_with (first | (refine build_num rfl rfl ?_) | (refine store_num (neg := false) (f := fun _ => 0) (f' := fun _ => 0) HX.out rfl rfl rfl rfl ?_; rw [HW.out]) | (refine load_num K4.out rfl rfl rfl ?_) | (refine load_num KX.out rfl rfl rfl ?_))
      by_cases h0 : a * b = 0
      · have hbare : ∀ W : World, Calls Try.prog 28 #[.agg (num false (bitf (a * b))), .agg (num false (fun _ => 0))] W fun e w' => e = .returned (.int .i64 0) ∧ Below W.heap.size W w' := fun W => by
          have k := bare_any false false (a * b) 0 HP.out (by omega) W
          rw [stand_eq h0, nb_zero] at k
          exact k
        have HN := Lib.hid (show ((p != q) && decide (0 < a * b)) = false from by rw [h0]; simp)
        refine (hbare _).mono ?_
        rintro e w2 ⟨rfl, hB3⟩
        have m1 := K1.out.below K1.out.lt hB3
        have m2 := K2.out.below K2.out.lt hB3
        have m3 := K3.out.below K3.out.lt hB3
        have m4 := K4.out.below K4.out.lt hB3
        have hB4 := hB2.trans (hB3.mono hB2.size)
        clear hbare K1 K2 K3 K4 KX HX HW hB2 hB3 HP h0
        cases p <;> cases q
        · have n1 := m1.neg
          have n2 := m2.neg
          have c4 := m4.neg
          have f4 := m4.free 0
          have L4 := Lib.hid (m4.setNeg false)
          have L3 := Lib.hid (m3.other (.bool false) (a := ⟨w.heap.size + 1 + 1 + 1, 0, none⟩) (by dsimp only; omega))
          have hB5 := hB4.setCell (p := ⟨w.heap.size + 1 + 1 + 1, 0, none⟩) (by dsimp only; omega) (.bool false)
          clear m1 m2 m3 m4 hB4
          go_wp2_with (first | (refine load_num L4.out rfl rfl rfl ?_) | (refine store_num L3.out rfl rfl rfl rfl ?_))
          exact bodyPost_ret (v := .agg (nb false (a * b))) (results_cell_row rfl _ _ (w.heap.size + 1 + 1) _ _ _ _ rfl L3.out.row Try.underlying66 rfl (size42 _ _)) rfl ⟨by rw [HN.out], below_row hB5 (by omega) _⟩
        · have n1 := m1.neg
          have n2 := m2.neg
          have c4 := m4.neg
          have f4 := m4.free 0
          have L4 := Lib.hid (m4.setNeg false)
          have L3 := Lib.hid (m3.other (.bool false) (a := ⟨w.heap.size + 1 + 1 + 1, 0, none⟩) (by dsimp only; omega))
          have hB5 := hB4.setCell (p := ⟨w.heap.size + 1 + 1 + 1, 0, none⟩) (by dsimp only; omega) (.bool false)
          clear m1 m2 m3 m4 hB4
          go_wp2_with (first | (refine load_num L4.out rfl rfl rfl ?_) | (refine store_num L3.out rfl rfl rfl rfl ?_))
          exact bodyPost_ret (v := .agg (nb false (a * b))) (results_cell_row rfl _ _ (w.heap.size + 1 + 1) _ _ _ _ rfl L3.out.row Try.underlying66 rfl (size42 _ _)) rfl ⟨by rw [HN.out], below_row hB5 (by omega) _⟩
        · have n1 := m1.neg
          have n2 := m2.neg
          have c4 := m4.neg
          have f4 := m4.free 0
          have L4 := Lib.hid (m4.setNeg false)
          have L3 := Lib.hid (m3.other (.bool false) (a := ⟨w.heap.size + 1 + 1 + 1, 0, none⟩) (by dsimp only; omega))
          have hB5 := hB4.setCell (p := ⟨w.heap.size + 1 + 1 + 1, 0, none⟩) (by dsimp only; omega) (.bool false)
          clear m1 m2 m3 m4 hB4
          go_wp2_with (first | (refine load_num L4.out rfl rfl rfl ?_) | (refine store_num L3.out rfl rfl rfl rfl ?_))
          exact bodyPost_ret (v := .agg (nb false (a * b))) (results_cell_row rfl _ _ (w.heap.size + 1 + 1) _ _ _ _ rfl L3.out.row Try.underlying66 rfl (size42 _ _)) rfl ⟨by rw [HN.out], below_row hB5 (by omega) _⟩
        · have n1 := m1.neg
          have n2 := m2.neg
          have c4 := m4.neg
          have f4 := m4.free 0
          have L4 := Lib.hid (m4.setNeg false)
          have L3 := Lib.hid (m3.other (.bool false) (a := ⟨w.heap.size + 1 + 1 + 1, 0, none⟩) (by dsimp only; omega))
          have hB5 := hB4.setCell (p := ⟨w.heap.size + 1 + 1 + 1, 0, none⟩) (by dsimp only; omega) (.bool false)
          clear m1 m2 m3 m4 hB4
          go_wp2_with (first | (refine load_num L4.out rfl rfl rfl ?_) | (refine store_num L3.out rfl rfl rfl rfl ?_))
          exact bodyPost_ret (v := .agg (nb false (a * b))) (results_cell_row rfl _ _ (w.heap.size + 1 + 1) _ _ _ _ rfl L3.out.row Try.underlying66 rfl (size42 _ _)) rfl ⟨by rw [HN.out], below_row hB5 (by omega) _⟩
      · have hbare : ∀ W : World, Calls Try.prog 28 #[.agg (num false (bitf (a * b))), .agg (num false (fun _ => 0))] W fun e w' => e = .returned (.int .i64 1) ∧ Below W.heap.size W w' := fun W => by
          have k := bare_any false false (a * b) 0 HP.out (by omega) W
          rw [stand_gt (Nat.pos_of_ne_zero h0), nb_zero] at k
          exact k
        have HN := Lib.hid (show ((p != q) && decide (0 < a * b)) = (p != q) from by rw [decide_eq_true (Nat.pos_of_ne_zero h0), Bool.and_true])
        refine (hbare _).mono ?_
        rintro e w2 ⟨rfl, hB3⟩
        have m1 := K1.out.below K1.out.lt hB3
        have m2 := K2.out.below K2.out.lt hB3
        have m3 := K3.out.below K3.out.lt hB3
        have m4 := K4.out.below K4.out.lt hB3
        have hB4 := hB2.trans (hB3.mono hB2.size)
        clear hbare K1 K2 K3 K4 KX HX HW hB2 hB3 HP h0
        cases p <;> cases q
        · have n1 := m1.neg
          have n2 := m2.neg
          have c4 := m4.neg
          have f4 := m4.free 0
          have L4 := Lib.hid (m4.setNeg false)
          have L3 := Lib.hid (m3.other (.bool false) (a := ⟨w.heap.size + 1 + 1 + 1, 0, none⟩) (by dsimp only; omega))
          have hB5 := hB4.setCell (p := ⟨w.heap.size + 1 + 1 + 1, 0, none⟩) (by dsimp only; omega) (.bool false)
          clear m1 m2 m3 m4 hB4
          go_wp2_with (first | (refine load_num L4.out rfl rfl rfl ?_) | (refine store_num L3.out rfl rfl rfl rfl ?_))
          exact bodyPost_ret (v := .agg (nb false (a * b))) (results_cell_row rfl _ _ (w.heap.size + 1 + 1) _ _ _ _ rfl L3.out.row Try.underlying66 rfl (size42 _ _)) rfl ⟨by rw [HN.out]; rfl, below_row hB5 (by omega) _⟩
        · have n1 := m1.neg
          have n2 := m2.neg
          have c4 := m4.neg
          have f4 := m4.free 0
          have L4 := Lib.hid (m4.setNeg true)
          have L3 := Lib.hid (m3.other (.bool true) (a := ⟨w.heap.size + 1 + 1 + 1, 0, none⟩) (by dsimp only; omega))
          have hB5 := hB4.setCell (p := ⟨w.heap.size + 1 + 1 + 1, 0, none⟩) (by dsimp only; omega) (.bool true)
          clear m1 m2 m3 m4 hB4
          go_wp2_with (first | (refine load_num L4.out rfl rfl rfl ?_) | (refine store_num L3.out rfl rfl rfl rfl ?_))
          exact bodyPost_ret (v := .agg (nb true (a * b))) (results_cell_row rfl _ _ (w.heap.size + 1 + 1) _ _ _ _ rfl L3.out.row Try.underlying66 rfl (size42 _ _)) rfl ⟨by rw [HN.out]; rfl, below_row hB5 (by omega) _⟩
        · have n1 := m1.neg
          have n2 := m2.neg
          have c4 := m4.neg
          have f4 := m4.free 0
          have L4 := Lib.hid (m4.setNeg true)
          have L3 := Lib.hid (m3.other (.bool true) (a := ⟨w.heap.size + 1 + 1 + 1, 0, none⟩) (by dsimp only; omega))
          have hB5 := hB4.setCell (p := ⟨w.heap.size + 1 + 1 + 1, 0, none⟩) (by dsimp only; omega) (.bool true)
          clear m1 m2 m3 m4 hB4
          go_wp2_with (first | (refine load_num L4.out rfl rfl rfl ?_) | (refine store_num L3.out rfl rfl rfl rfl ?_))
          exact bodyPost_ret (v := .agg (nb true (a * b))) (results_cell_row rfl _ _ (w.heap.size + 1 + 1) _ _ _ _ rfl L3.out.row Try.underlying66 rfl (size42 _ _)) rfl ⟨by rw [HN.out]; rfl, below_row hB5 (by omega) _⟩
        · have n1 := m1.neg
          have n2 := m2.neg
          have c4 := m4.neg
          have f4 := m4.free 0
          have L4 := Lib.hid (m4.setNeg false)
          have L3 := Lib.hid (m3.other (.bool false) (a := ⟨w.heap.size + 1 + 1 + 1, 0, none⟩) (by dsimp only; omega))
          have hB5 := hB4.setCell (p := ⟨w.heap.size + 1 + 1 + 1, 0, none⟩) (by dsimp only; omega) (.bool false)
          clear m1 m2 m3 m4 hB4
          go_wp2_with (first | (refine load_num L4.out rfl rfl rfl ?_) | (refine store_num L3.out rfl rfl rfl rfl ?_))
          exact bodyPost_ret (v := .agg (nb false (a * b))) (results_cell_row rfl _ _ (w.heap.size + 1 + 1) _ _ _ _ rfl L3.out.row Try.underlying66 rfl (size42 _ _)) rfl ⟨by rw [HN.out]; rfl, below_row hB5 (by omega) _⟩
theorem times_any (x y : Int) (hx : x.natAbs ≤ 18446744073709551615) (hy : y.natAbs ≤ 18446744073709551615) (w : World) :
    Calls Try.prog 22 #[.agg (sgn x), .agg (sgn y)] w fun e w' => e = .returned (.agg (sgn (x * y))) ∧ Below w.heap.size w w' := by
  have k := times_core (decide (x < 0)) (decide (y < 0)) x.natAbs y.natAbs hx hy w
  have e : nb ((decide (x < 0) != decide (y < 0)) && decide (0 < x.natAbs * y.natAbs)) (x.natAbs * y.natAbs) = sgn (x * y) := by
    unfold sgn
    rw [Int.natAbs_mul]
    congr 1
    by_cases h0 : x * y = 0
    · have h1 : x.natAbs * y.natAbs = 0 := by rw [← Int.natAbs_mul, h0]; rfl
      rw [h1, h0]; simp
    · have h1 : 0 < x.natAbs * y.natAbs := by rw [← Int.natAbs_mul]; omega
      have hx0 : x ≠ 0 := fun h => h0 (by rw [h, Int.zero_mul])
      have hy0 : y ≠ 0 := fun h => h0 (by rw [h, Int.mul_zero])
      rw [decide_eq_true h1, Bool.and_true]
      rcases Int.lt_or_gt_of_ne hx0 with hx1 | hx1 <;> rcases Int.lt_or_gt_of_ne hy0 with hy1 | hy1
      · have := Int.mul_pos_of_neg_of_neg hx1 hy1
        rw [decide_eq_true hx1, decide_eq_true hy1, decide_eq_false (by omega)]; rfl
      · have := Int.mul_neg_of_neg_of_pos hx1 hy1
        rw [decide_eq_true hx1, decide_eq_false (by omega), decide_eq_true this]; rfl
      · have := Int.mul_neg_of_pos_of_neg hx1 hy1
        rw [decide_eq_false (by omega), decide_eq_true hy1, decide_eq_true this]; rfl
      · have := Int.mul_pos hx1 hy1
        rw [decide_eq_false (by omega), decide_eq_false (by omega), decide_eq_false (by omega)]; rfl
  rw [e] at k
  exact k
end Go.Proofs.Ytbffmobjiiicoaa.F1
end
section
/- The contract of the document's Parts: quotient and rest of two bare numbers of 64 bits. -/
set_option linter.unusedVariables false
namespace Go.Proofs.Ytbffmobjiiicoaa.F1
open Go.RowKit
/-- Two results that lie in memory. -/
theorem results_two_rows {fn : Func} {p u : Tmp} (h : fn.results = #[.cell p 66, .cell u 66]) (tmps : Array Value) (w : World) (g k : Nat) (neg neg' : Bool) (f f' : Nat → Int)
    (hp : tmps.getD p undef = .pointer (some ⟨g, 0, none⟩)) (hu : tmps.getD u undef = .pointer (some ⟨k, 0, none⟩)) (hg : At w g (num neg f)) (hk : At w k (num neg' f')) :
    (results fn tmps).run Try.prog w = .ok (.tuple #[.agg (num neg f), .agg (num neg' f')]) w := by
  have hp' : tmps[p]?.getD undef = .pointer (some ⟨g, 0, none⟩) := by simpa using hp
  have hu' : tmps[u]?.getD undef = .pointer (some ⟨k, 0, none⟩) := by simpa using hu
  have l1 := run_loadVar_row (P := Try.prog) w g _ 66 (num neg f) _ _ hg Try.underlying66 rfl (size42 neg f)
  have l2 := run_loadVar_row (P := Try.prog) w k _ 66 (num neg' f') _ _ hk Try.underlying66 rfl (size42 neg' f')
  simp [results, h, hp', hu', asAddr, l1, l2, Sem.run_bind, Result.andThen]
/-- A number's bits, those above place k one place up. -/
def shl (r k : Nat) (j : Nat) : Int := if k < j then bitf r (j - 1) else bitf r j
theorem shl_start (r : Nat) : num false (bitf r) = num false (shl r 199) := num_congr fun j hj => by unfold shl; rw [if_neg (by omega)]
theorem shl_step (r k : Nat) : (fun j => if j = k + 1 then shl r (k + 1) k else shl r (k + 1) j) = shl r k := by
  funext j
  unfold shl
  by_cases h : j = k + 1
  · subst h
    rw [if_pos rfl, if_neg (by omega), if_pos (by omega)]; rfl
  · rw [if_neg h]
    by_cases h2 : k + 1 < j
    · rw [if_pos h2, if_pos (by omega)]
    · rw [if_neg h2, if_neg (by omega)]
theorem shl_end (r d : Nat) (hd : d ≤ 1) : (fun j => if j = 0 then (d : Int) else shl r 0 j) = bitf (2 * r + d) := by
  funext j
  unfold shl
  rcases j with _ | j
  · unfold bitf
    rw [if_pos rfl, Nat.pow_zero, Nat.div_one]; omega
  · rw [if_neg (by omega), if_pos (by omega)]
    unfold bitf
    rw [Nat.pow_succ', ← Nat.div_div_eq_div_mul, show (2 * r + d) / 2 = r by omega, Nat.add_sub_cancel]
/-- The bits of n from place m on. -/
def highBits (n m : Nat) (j : Nat) : Int := if m ≤ j then bitf n j else 0
theorem highBits_start {n : Nat} (h : n < 2 ^ 200) : num false (fun _ => 0) = num false (highBits n 200) := num_congr fun j hj => by unfold highBits; rw [if_neg (by omega)]
theorem highBits_end (n : Nat) : highBits n 0 = bitf n := by funext j; unfold highBits; rw [if_pos (by omega)]
theorem highBits_one {n m : Nat} (h : bitf n m = 1) : (fun j => if j = m then (1 : Int) else highBits n (m + 1) j) = highBits n m := by
  funext j
  unfold highBits
  by_cases hj : j = m
  · subst hj; rw [if_pos rfl, if_pos (by omega), h]
  · rw [if_neg hj]
    by_cases h2 : m + 1 ≤ j
    · rw [if_pos h2, if_pos (by omega)]
    · rw [if_neg h2, if_neg (by omega)]
theorem highBits_zero {n m : Nat} (h : bitf n m = 0) : highBits n (m + 1) = highBits n m := by
  funext j
  unfold highBits
  by_cases hj : j = m
  · subst hj; rw [if_neg (by omega), if_pos (by omega), h]
  · by_cases h2 : m + 1 ≤ j
    · rw [if_pos h2, if_pos (by omega)]
    · rw [if_neg h2, if_neg (by omega)]
/-- One place of a division. -/
theorem part_place {a b m : Nat} (hb : 0 < b) :
    (b ≤ 2 * (a / 2 ^ (m + 1) % b) + a / 2 ^ m % 2 → bitf (a / b) m = 1 ∧ 2 * (a / 2 ^ (m + 1) % b) + a / 2 ^ m % 2 - b = a / 2 ^ m % b) ∧
    (¬ b ≤ 2 * (a / 2 ^ (m + 1) % b) + a / 2 ^ m % 2 → bitf (a / b) m = 0 ∧ 2 * (a / 2 ^ (m + 1) % b) + a / 2 ^ m % 2 = a / 2 ^ m % b) := by
  have e1 : a / b / 2 ^ m = a / 2 ^ m / b := by rw [Nat.div_div_eq_div_mul, Nat.div_div_eq_div_mul, Nat.mul_comm]
  have e2 : a / 2 ^ (m + 1) = a / 2 ^ m / 2 := div_pow_succ a m
  unfold bitf
  rw [e1, e2]
  generalize a / 2 ^ m = x
  have hx : x = 2 * (x / 2) + x % 2 := by omega
  have hd := Nat.div_add_mod (x / 2) b
  have hlt := Nat.mod_lt (x / 2) hb
  generalize x / 2 / b = Q at *
  generalize x / 2 % b = R at *
  have hx2 : x = b * (2 * Q) + (2 * R + x % 2) := by
    have : b * (2 * Q) = 2 * (b * Q) := by rw [Nat.mul_left_comm]
    omega
  constructor
  · intro hge
    have hx3 : x = b * (2 * Q + 1) + (2 * R + x % 2 - b) := by
      rw [Nat.mul_add, Nat.mul_one]; omega
    have hq : x / b = 2 * Q + 1 := by
      rw [hx3, Nat.mul_add_div hb, Nat.div_eq_of_lt (by omega)]
    have hr : x % b = 2 * R + x % 2 - b := by
      conv => lhs; rw [hx3]
      rw [Nat.mul_add_mod, Nat.mod_eq_of_lt (by omega)]
    rw [hq, hr]
    exact ⟨by omega, rfl⟩
  · intro hlt2
    have hq : x / b = 2 * Q := by
      conv => lhs; rw [hx2]
      rw [Nat.mul_add_div hb, Nat.div_eq_of_lt (by omega)]
      rfl
    have hr : x % b = 2 * R + x % 2 := by
      conv => lhs; rw [hx2]
      rw [Nat.mul_add_mod, Nat.mod_eq_of_lt (by omega)]
    rw [hq, hr]
    exact ⟨by omega, rfl⟩
set_option maxRecDepth 10000 in
set_option maxHeartbeats 2000000 in
theorem parts_core (p q : Bool) (a b : Nat) (ha : a < 2 ^ 200) (hb : b ≤ 18446744073709551615) (hb0 : 0 < b) (w : World) :
    Calls Try.prog 24 #[.agg (nb p a), .agg (nb q b)] w fun e w' => e = .returned (.tuple #[.agg (nb false (a / b)), .agg (nb false (a % b))]) ∧ Below w.heap.size w w' := by
  have hz := (zero_of_info info42).1
  have HA := Lib.hid ha
  have HBb := Lib.hid hb
  have HB0 := Lib.hid hb0
  clear ha hb hb0
  go_enter Try.func24, Try.ntmps24
  go_wp2
  go_loopw [8] (fun iv wr => ∃ m : Nat, m ≤ 200 ∧ iv = .int .i64 ((m : Int) - 1) ∧ At wr w.heap.size (num p (bitf a)) ∧ At wr (w.heap.size + 1) (num q (bitf b)) ∧ At wr (w.heap.size + 1 + 1) (num false (fun _ => 0)) ∧ At wr (w.heap.size + 1 + 1 + 1) (num false (fun _ => 0)) ∧ At wr (w.heap.size + 1 + 1 + 1 + 1) (num false (highBits (a / b) m)) ∧ At wr (w.heap.size + 1 + 1 + 1 + 1 + 1) (num false (bitf (a / 2 ^ m % b))) ∧ Below w.heap.size w wr) (fun iv _ => (intOf iv + 1).toNat)
  case atStart =>
    have b1 := At.new w (nb p a)
    have b2 := At.new (w.alloc (.cells (nb p a) 66)) (nb q b)
    have b3 := At.new ((w.alloc (.cells (nb p a) 66)).alloc (.cells (nb q b) 66)) zeroNum
    have b4 := At.new (((w.alloc (.cells (nb p a) 66)).alloc (.cells (nb q b) 66)).alloc (.cells zeroNum 66)) zeroNum
    have b5 := At.new ((((w.alloc (.cells (nb p a) 66)).alloc (.cells (nb q b) 66)).alloc (.cells zeroNum 66)).alloc (.cells zeroNum 66)) zeroNum
    have b6 := At.new (((((w.alloc (.cells (nb p a) 66)).alloc (.cells (nb q b) 66)).alloc (.cells zeroNum 66)).alloc (.cells zeroNum 66)).alloc (.cells zeroNum 66)) zeroNum
    simp only [World.size_alloc] at b2 b3 b4 b5 b6
    refine ⟨200, by omega, rfl, ((((b1.alloc _).alloc _).alloc _).alloc _).alloc _, (((b2.alloc _).alloc _).alloc _).alloc _, ((b3.alloc _).alloc _).alloc _, (b4.alloc _).alloc _, ?_, ?_, ((((((Below.refl _ w).alloc (Nat.le_refl _) _).alloc (by simp) _).alloc (by simp; omega) _).alloc (by simp; omega) _).alloc (by simp; omega) _).alloc (by simp; omega) _⟩
    · rw [← highBits_start (Nat.lt_of_le_of_lt (Nat.div_le_self _ _) HA.out)]
      exact b5.alloc _
    · rw [Nat.div_eq_of_lt HA.out, Nat.zero_mod]
      have e : num false (bitf 0) = num false (fun _ => 0) := num_congr fun j _ => by simp [bitf]
      rw [e]; exact b6
  case round =>
    obtain ⟨m, hm, rfl, h1, h2, h3, h4, h5, h6, hB⟩ := hrel
    cases m with
    | zero =>
      rw [highBits_end] at h5
      rw [Nat.pow_zero, Nat.div_one] at h6
      have H3 := Lib.hid h3
      have H4 := Lib.hid h4
      have H5 := Lib.hid h5
      have H6 := Lib.hid h6
      clear h1 h2 h3 h4 h5 h6
      go_wp2
      refine wp_region_any (by kernel_rfl) ?_
      change wpAny _ _ _ _ _ _ _ (World.drew _)
      refine wpAny_ready (rs := [0, 1]) (by kernel_rfl) (by simp) ?_
      refine AllReady.cons rfl (fun K hK => ?_) (AllReady.cons rfl (fun K hK => ?_) AllReady.nil)
      · refine step_load_num (w := wr.drew) (g := w.heap.size + 1 + 1 + 1 + 1) H5.out rfl rfl rfl ?_
        refine hK _ _ ?_
        clear hK K
        refine wpAny_ready (rs := [1, 2]) (by kernel_rfl) (by simp) ?_
        refine AllReady.cons rfl (fun K hK => ?_) (AllReady.cons rfl (fun K hK => ?_) AllReady.nil)
        · refine step_load_num (w := wr.drew) (g := w.heap.size + 1 + 1 + 1 + 1 + 1) H6.out rfl rfl rfl ?_
          refine hK _ _ ?_
          clear hK K
          refine wpAny_ready (rs := [2]) (by kernel_rfl) (by simp) (AllReady.cons rfl (fun K hK => ?_) AllReady.nil)
          refine step_store_num (w := wr.drew) (g := w.heap.size + 1 + 1) (neg := false) (f := bitf (a / b)) H3.out rfl rfl rfl rfl ?_
          refine hK _ _ ?_
          clear hK K
          have j4 : At (wr.drew.setRow (w.heap.size + 1 + 1) (num false (bitf (a / b)))) (w.heap.size + 1 + 1 + 1) (num false (fun _ => 0)) := H4.out.rowOther (W := wr.drew) _ (by omega)
          have j3 : At (wr.drew.setRow (w.heap.size + 1 + 1) (num false (bitf (a / b)))) (w.heap.size + 1 + 1) (num false (bitf (a / b))) := H3.out.row (W := wr.drew)
          have j6 : At (wr.drew.setRow (w.heap.size + 1 + 1) (num false (bitf (a / b)))) (w.heap.size + 1 + 1 + 1 + 1 + 1) (num false (bitf (a % b))) := H6.out.rowOther (W := wr.drew) _ (by omega)
          refine wpAny_ready (rs := [3]) (by kernel_rfl) (by simp) (AllReady.cons rfl (fun K hK => ?_) AllReady.nil)
          refine step_store_num (g := w.heap.size + 1 + 1 + 1) (neg := false) (f := bitf (a % b)) j4 rfl rfl rfl rfl ?_
          refine hK _ _ ?_
          clear hK K
          refine wpAny_done (by kernel_rfl) ?_ _
          have J3 := Lib.hid (j3.rowOther (num false (bitf (a % b))) (g := w.heap.size + 1 + 1 + 1) (by omega))
          have J4 := Lib.hid (j4.row (cs' := num false (bitf (a % b))))
          have JB := Lib.hid (below_row (below_row hB.drew (g := w.heap.size + 1 + 1) (by omega) (num false (bitf (a / b)))) (g := w.heap.size + 1 + 1 + 1) (by omega) (num false (bitf (a % b))))
          clear j3 j4 j6 H3 H4 H5 H6
          go_wp2
          exact bodyPost_ret (v := .tuple #[.agg (nb false (a / b)), .agg (nb false (a % b))]) (results_two_rows rfl _ _ (w.heap.size + 1 + 1) (w.heap.size + 1 + 1 + 1) false false _ _ rfl rfl J3.out J4.out) rfl ⟨rfl, JB.out⟩
        · refine step_store_num (w := wr.drew) (g := w.heap.size + 1 + 1) (neg := false) (f := bitf (a / b)) H3.out rfl rfl rfl rfl ?_
          refine hK _ _ ?_
          clear hK K
          have j4 : At (wr.drew.setRow (w.heap.size + 1 + 1) (num false (bitf (a / b)))) (w.heap.size + 1 + 1 + 1) (num false (fun _ => 0)) := H4.out.rowOther (W := wr.drew) _ (by omega)
          have j3 : At (wr.drew.setRow (w.heap.size + 1 + 1) (num false (bitf (a / b)))) (w.heap.size + 1 + 1) (num false (bitf (a / b))) := H3.out.row (W := wr.drew)
          have j6 : At (wr.drew.setRow (w.heap.size + 1 + 1) (num false (bitf (a / b)))) (w.heap.size + 1 + 1 + 1 + 1 + 1) (num false (bitf (a % b))) := H6.out.rowOther (W := wr.drew) _ (by omega)
          refine wpAny_ready (rs := [1]) (by kernel_rfl) (by simp) (AllReady.cons rfl (fun K hK => ?_) AllReady.nil)
          refine step_load_num (g := w.heap.size + 1 + 1 + 1 + 1 + 1) j6 rfl rfl rfl ?_
          refine hK _ _ ?_
          clear hK K
          refine wpAny_ready (rs := [3]) (by kernel_rfl) (by simp) (AllReady.cons rfl (fun K hK => ?_) AllReady.nil)
          refine step_store_num (g := w.heap.size + 1 + 1 + 1) (neg := false) (f := bitf (a % b)) j4 rfl rfl rfl rfl ?_
          refine hK _ _ ?_
          clear hK K
          refine wpAny_done (by kernel_rfl) ?_ _
          have J3 := Lib.hid (j3.rowOther (num false (bitf (a % b))) (g := w.heap.size + 1 + 1 + 1) (by omega))
          have J4 := Lib.hid (j4.row (cs' := num false (bitf (a % b))))
          have JB := Lib.hid (below_row (below_row hB.drew (g := w.heap.size + 1 + 1) (by omega) (num false (bitf (a / b)))) (g := w.heap.size + 1 + 1 + 1) (by omega) (num false (bitf (a % b))))
          clear j3 j4 j6 H3 H4 H5 H6
          go_wp2
          exact bodyPost_ret (v := .tuple #[.agg (nb false (a / b)), .agg (nb false (a % b))]) (results_two_rows rfl _ _ (w.heap.size + 1 + 1) (w.heap.size + 1 + 1 + 1) false false _ _ rfl rfl J3.out J4.out) rfl ⟨rfl, JB.out⟩
      · refine step_load_num (w := wr.drew) (g := w.heap.size + 1 + 1 + 1 + 1 + 1) H6.out rfl rfl rfl ?_
        refine hK _ _ ?_
        clear hK K
        refine wpAny_ready (rs := [0]) (by kernel_rfl) (by simp) (AllReady.cons rfl (fun K hK => ?_) AllReady.nil)
        refine step_load_num (w := wr.drew) (g := w.heap.size + 1 + 1 + 1 + 1) H5.out rfl rfl rfl ?_
        refine hK _ _ ?_
        clear hK K
        refine wpAny_ready (rs := [2]) (by kernel_rfl) (by simp) (AllReady.cons rfl (fun K hK => ?_) AllReady.nil)
        refine step_store_num (w := wr.drew) (g := w.heap.size + 1 + 1) (neg := false) (f := bitf (a / b)) H3.out rfl rfl rfl rfl ?_
        refine hK _ _ ?_
        clear hK K
        have j4 : At (wr.drew.setRow (w.heap.size + 1 + 1) (num false (bitf (a / b)))) (w.heap.size + 1 + 1 + 1) (num false (fun _ => 0)) := H4.out.rowOther (W := wr.drew) _ (by omega)
        have j3 : At (wr.drew.setRow (w.heap.size + 1 + 1) (num false (bitf (a / b)))) (w.heap.size + 1 + 1) (num false (bitf (a / b))) := H3.out.row (W := wr.drew)
        have j6 : At (wr.drew.setRow (w.heap.size + 1 + 1) (num false (bitf (a / b)))) (w.heap.size + 1 + 1 + 1 + 1 + 1) (num false (bitf (a % b))) := H6.out.rowOther (W := wr.drew) _ (by omega)
        refine wpAny_ready (rs := [3]) (by kernel_rfl) (by simp) (AllReady.cons rfl (fun K hK => ?_) AllReady.nil)
        refine step_store_num (g := w.heap.size + 1 + 1 + 1) (neg := false) (f := bitf (a % b)) j4 rfl rfl rfl rfl ?_
        refine hK _ _ ?_
        clear hK K
        refine wpAny_done (by kernel_rfl) ?_ _
        have J3 := Lib.hid (j3.rowOther (num false (bitf (a % b))) (g := w.heap.size + 1 + 1 + 1) (by omega))
        have J4 := Lib.hid (j4.row (cs' := num false (bitf (a % b))))
        have JB := Lib.hid (below_row (below_row hB.drew (g := w.heap.size + 1 + 1) (by omega) (num false (bitf (a / b)))) (g := w.heap.size + 1 + 1 + 1) (by omega) (num false (bitf (a % b))))
        clear j3 j4 j6 H3 H4 H5 H6
        go_wp2
        exact bodyPost_ret (v := .tuple #[.agg (nb false (a / b)), .agg (nb false (a % b))]) (results_two_rows rfl _ _ (w.heap.size + 1 + 1) (w.heap.size + 1 + 1 + 1) false false _ _ rfl rfl J3.out J4.out) rfl ⟨rfl, JB.out⟩
    | succ m =>
      have e1 : (((m + 1 : Nat) : Int) - 1) = (m : Int) := by omega
      rw [e1]
      clear e1
      have hR : a / 2 ^ (m + 1) % b < b := Nat.mod_lt _ HB0.out
      obtain ⟨R, hRR⟩ : ∃ R, a / 2 ^ (m + 1) % b = R := ⟨_, rfl⟩
      have HPl := Lib.hid (part_place (a := a) (b := b) (m := m) HB0.out)
      rw [hRR] at h6 hR HPl
      have HRR := Lib.hid hRR
      have HR := Lib.hid hR
      clear hRR hR
      have G1 := Lib.hid h1
      have G2 := Lib.hid h2
      have G3 := Lib.hid h3
      have G4 := Lib.hid h4
      have G5 := Lib.hid h5
      have G6 := Lib.hid h6
      have GB := Lib.hid hB
      clear h1 h2 h3 h4 h5 h6 hB
      have hd : decide ((0 : Int) ≤ (m : Int)) = true := by simp
      go_wp2
      generalize wr = w1 at *
      go_loopw [9] (fun kv wr => ∃ k : Nat, k ≤ 199 ∧ kv = .int .i64 k ∧ At wr w.heap.size (num p (bitf a)) ∧ At wr (w.heap.size + 1) (num q (bitf b)) ∧ At wr (w.heap.size + 1 + 1) (num false (fun _ => 0)) ∧ At wr (w.heap.size + 1 + 1 + 1) (num false (fun _ => 0)) ∧ At wr (w.heap.size + 1 + 1 + 1 + 1) (num false (highBits (a / b) (m + 1))) ∧ At wr (w.heap.size + 1 + 1 + 1 + 1 + 1) (num false (shl R k)) ∧ Below w.heap.size w wr) (fun kv _ => (intOf kv).toNat)
      case atStart => exact ⟨199, by omega, rfl, G1.out, G2.out, G3.out, G4.out, G5.out, by rw [← shl_start]; exact G6.out, GB.out⟩
      case round =>
        obtain ⟨k, hk, rfl, h1, h2, h3, h4, h5, h6, hB⟩ := hrel
        clear G1 G2 G3 G4 G5 G6 GB
        cases k with
        | zero =>
          have ca := h1.bit (k := m) (by omega)
          have c0 : wr.cell? ⟨w.heap.size + 1 + 1 + 1 + 1 + 1, 1, none⟩ = some (.int .i64 (shl R 0 0)) := h6.bit (k := 0) (by omega)
          have f0 := h6.free 1
          have hd1 : a / 2 ^ m % 2 ≤ 1 := by have := Nat.mod_lt (a / 2 ^ m) (show 0 < 2 by omega); omega
          have hdb : bitf a m = ((a / 2 ^ m % 2 : Nat) : Int) := rfl
          have x6 : At (wr.setCell ⟨w.heap.size + 1 + 1 + 1 + 1 + 1, 1, none⟩ (.int .i64 (bitf a m))) (w.heap.size + 1 + 1 + 1 + 1 + 1) (num false (bitf (2 * R + a / 2 ^ m % 2))) := by
            have := h6.set (k := 0) (by omega) (bitf a m)
            rw [hdb, shl_end R _ hd1] at this
            rw [hdb]; exact this
          have X1 := Lib.hid (h1.other (.int .i64 (bitf a m)) (a := ⟨w.heap.size + 1 + 1 + 1 + 1 + 1, 1, none⟩) (by dsimp only; omega))
          have X2 := Lib.hid (h2.other (.int .i64 (bitf a m)) (a := ⟨w.heap.size + 1 + 1 + 1 + 1 + 1, 1, none⟩) (by dsimp only; omega))
          have X3 := Lib.hid (h3.other (.int .i64 (bitf a m)) (a := ⟨w.heap.size + 1 + 1 + 1 + 1 + 1, 1, none⟩) (by dsimp only; omega))
          have X4 := Lib.hid (h4.other (.int .i64 (bitf a m)) (a := ⟨w.heap.size + 1 + 1 + 1 + 1 + 1, 1, none⟩) (by dsimp only; omega))
          have X5 := Lib.hid (h5.other (.int .i64 (bitf a m)) (a := ⟨w.heap.size + 1 + 1 + 1 + 1 + 1, 1, none⟩) (by dsimp only; omega))
          have X6 := Lib.hid x6
          have XB := Lib.hid (hB.setCell (p := ⟨w.heap.size + 1 + 1 + 1 + 1 + 1, 1, none⟩) (by dsimp only; omega) (.int .i64 (bitf a m)))
          clear h1 h2 h3 h4 h5 h6 hB x6 hdb
          go_wp2_with (first | (refine load_num X6.out rfl rfl rfl ?_) | (refine load_num X2.out rfl rfl rfl ?_))
          obtain ⟨D, hD⟩ : ∃ D, a / 2 ^ m % 2 = D := ⟨_, rfl⟩
          rw [hD] at hd1 X6 HPl
          rw [hD]
          have HD := Lib.hid hD
          clear hD
          have hRb : 2 * R + D < 2 ^ 200 := by have h1 := HR.out; have h2 := HBb.out; omega
          have hbb : b < 2 ^ 200 := Nat.lt_of_le_of_lt HBb.out (by omega)
          have HRb := Lib.hid hRb
          have Hbb := Lib.hid hbb
          clear hRb hbb ca c0 f0
          refine (bare_any false q (2 * R + D) b HRb.out Hbb.out _).mono ?_
          rintro e w3 ⟨rfl, hB3⟩
          have Y1 := Lib.hid (X1.out.below X1.out.lt hB3)
          have Y2 := Lib.hid (X2.out.below X2.out.lt hB3)
          have Y3 := Lib.hid (X3.out.below X3.out.lt hB3)
          have Y4 := Lib.hid (X4.out.below X4.out.lt hB3)
          have Y5 := Lib.hid (X5.out.below X5.out.lt hB3)
          have Y6 := Lib.hid (X6.out.below X6.out.lt hB3)
          have YB := Lib.hid (XB.out.trans (hB3.mono XB.out.size))
          clear X1 X2 X3 X4 X5 X6 XB hB3
          by_cases hge : b ≤ 2 * R + D
          · have hc : 0 ≤ stand (2 * R + D) b := by unfold stand; rw [if_neg (by omega)]; split <;> omega
            generalize stand (2 * R + D) b = c at *
            go_wp2_with (first | (refine load_num Y6.out rfl rfl rfl ?_) | (refine load_num Y2.out rfl rfl rfl ?_))
            refine (minus_any false q (2 * R + D) b ⟨hge, HRb.out⟩ _).mono ?_
            rintro e w4 ⟨rfl, hB4⟩
            have y1 := Y1.out.below Y1.out.lt hB4
            have y2 := Y2.out.below Y2.out.lt hB4
            have y3 := Y3.out.below Y3.out.lt hB4
            have y4 := Y4.out.below Y4.out.lt hB4
            have y5 := Y5.out.below Y5.out.lt hB4
            have y6 := Y6.out.below Y6.out.lt hB4
            have yB := YB.out.trans (hB4.mono YB.out.size)
            obtain ⟨w5, ew5⟩ : ∃ w5, w4.setRow (w.heap.size + 1 + 1 + 1 + 1 + 1) (num false (bitf (2 * R + D - b))) = w5 := ⟨_, rfl⟩
            have Z1 := Lib.hid (ew5 ▸ y1.rowOther (num false (bitf (2 * R + D - b))) (g := w.heap.size + 1 + 1 + 1 + 1 + 1) (by omega))
            have Z2 := Lib.hid (ew5 ▸ y2.rowOther (num false (bitf (2 * R + D - b))) (g := w.heap.size + 1 + 1 + 1 + 1 + 1) (by omega))
            have Z3 := Lib.hid (ew5 ▸ y3.rowOther (num false (bitf (2 * R + D - b))) (g := w.heap.size + 1 + 1 + 1 + 1 + 1) (by omega))
            have Z4 := Lib.hid (ew5 ▸ y4.rowOther (num false (bitf (2 * R + D - b))) (g := w.heap.size + 1 + 1 + 1 + 1 + 1) (by omega))
            have z5 := ew5 ▸ y5.rowOther (num false (bitf (2 * R + D - b))) (g := w.heap.size + 1 + 1 + 1 + 1 + 1) (by omega)
            have Z6 := Lib.hid (ew5 ▸ y6.row (cs' := num false (bitf (2 * R + D - b))))
            have ZB := Lib.hid (ew5 ▸ below_row yB (g := w.heap.size + 1 + 1 + 1 + 1 + 1) (by omega) (num false (bitf (2 * R + D - b))))
            have c5 := z5.bit (k := m) (by omega)
            have f5 := z5.free (1 + m)
            have Z5 := Lib.hid z5
            have Y6' := Lib.hid y6
            have HW5 := Lib.hid ew5
            clear y1 y2 y3 y4 y5 y6 yB ew5 z5 Y1 Y2 Y3 Y4 Y5 Y6 YB hB4
            go_wp2_with (refine store_num (neg := false) (f := bitf (2 * R + D - b)) Y6'.out rfl rfl rfl rfl ?_; rw [HW5.out])
            go_roundw
            case rel =>
              obtain ⟨e1, e2⟩ := HPl.out.1 hge
              refine ⟨m, by omega, rfl, Z1.out.other _ (by dsimp only; omega), Z2.out.other _ (by dsimp only; omega), Z3.out.other _ (by dsimp only; omega), Z4.out.other _ (by dsimp only; omega), ?_, ?_, ZB.out.setCell (p := ⟨w.heap.size + 1 + 1 + 1 + 1, 1 + m, none⟩) (by dsimp only; omega) _⟩
              · have := Z5.out.set (k := m) (by omega) 1
                rwa [highBits_one e1] at this
              · rw [← e2]; exact Z6.out.other _ (by dsimp only; omega)
            case measure => simp [intOf]
          · have hc : stand (2 * R + D) b < 0 := by rw [stand, if_pos (by omega)]; omega
            generalize stand (2 * R + D) b = c at *
            obtain ⟨e1, e2⟩ := HPl.out.2 hge
            rw [e2] at Y6
            rw [highBits_zero e1] at Y5
            clear hge e1 e2
            go_wp2
            go_roundw
            case rel => exact ⟨m, by omega, by go_num, Y1.out, Y2.out, Y3.out, Y4.out, Y5.out, Y6.out, YB.out⟩
            case measure => simp [intOf]
        | succ k =>
          have c1 := h6.bit (k := k) (by omega)
          have c2 := h6.bit (k := k + 1) (by omega)
          have f2 := h6.free (1 + (k + 1))
          have H1 := Lib.hid h1
          have H2 := Lib.hid h2
          have H3 := Lib.hid h3
          have H4 := Lib.hid h4
          have H5 := Lib.hid h5
          have H6 := Lib.hid h6
          clear h1 h2 h3 h4 h5 h6
          go_wp2
          go_roundw
          case rel =>
            refine ⟨k, by omega, rfl, H1.out.other _ (by dsimp only; omega), H2.out.other _ (by dsimp only; omega), H3.out.other _ (by dsimp only; omega), H4.out.other _ (by dsimp only; omega), H5.out.other _ (by dsimp only; omega), ?_, hB.setCell (p := ⟨w.heap.size + 1 + 1 + 1 + 1 + 1, 1 + (k + 1), none⟩) (by dsimp only; omega) _⟩
            have := H6.out.set (k := k + 1) (by omega) (shl R (k + 1) k)
            rwa [shl_step] at this
          case measure => simp [intOf]
end Go.Proofs.Ytbffmobjiiicoaa.F1
end
