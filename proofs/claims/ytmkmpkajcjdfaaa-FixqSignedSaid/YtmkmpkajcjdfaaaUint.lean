/- The contract of the document's Uint: a row of bits as a number of 64 bits, or that it is none. -/
import Derived.Test.YtmkmpkajcjdfaaaPlus
import Derived.Laws.Shifts
import Derived.Laws.ShiftsVar
set_option linter.unusedVariables false
namespace Go.Proofs.Ytmkmpkajcjdfaaa
open Go.RowKit
/-- What the first k bits say. -/
def lowv (n k : Nat) : Int := ((n % 2 ^ k : Nat) : Int)
theorem lowv_zero (n : Nat) : lowv n 0 = 0 := by simp [lowv, Nat.mod_one]
theorem lowv_all {n : Nat} (h : n < 2 ^ 200) : lowv n 200 = (n : Int) := by rw [lowv, Nat.mod_eq_of_lt h]
theorem bit_one {n k : Nat} (h : bitf n k = 1) : n / 2 ^ k % 2 = 1 := by unfold bitf at h; omega
theorem bit_zero {n k : Nat} (h : ¬ bitf n k = 1) : n / 2 ^ k % 2 = 0 := by unfold bitf at h; have := Nat.mod_lt (n / 2 ^ k) (show 0 < 2 by omega); omega
theorem bit_small {n k : Nat} (h : n ≤ 18446744073709551615) (hb : bitf n k = 1) : k ≤ 63 := by
  rcases Nat.lt_or_ge 63 k with h1 | h1
  · have hp : 2 ^ 64 ≤ 2 ^ k := Nat.pow_le_pow_right (by omega) (by omega)
    have hz : n / 2 ^ k = 0 := Nat.div_eq_of_lt (by omega)
    have := bit_one hb
    rw [hz] at this
    omega
  · exact h1
theorem mod_step {n k : Nat} (hb : ¬ bitf n k = 1) : n % 2 ^ (k + 1) = n % 2 ^ k := by
  rw [Nat.mod_pow_succ, bit_zero hb, Nat.mul_zero, Nat.add_zero]
theorem zero_step {n k : Nat} (hb : ¬ bitf n k = 1) : lowv n (k + 1) = lowv n k := by rw [lowv, lowv, mod_step hb]
theorem mod_small {n k : Nat} (h63 : k ≤ 63) : n % 2 ^ (k + 1) < 18446744073709551616 :=
  Nat.lt_of_lt_of_le (Nat.mod_lt _ (Nat.pow_pos (by omega))) (show 2 ^ (k + 1) ≤ 2 ^ 64 from Nat.pow_le_pow_right (by omega) (by omega))
theorem or_step {n k : Nat} (hb : bitf n k = 1) (h63 : k ≤ 63) : bits BinOp.or IntKind.u64 (lowv n k) (IntKind.u64.wrap (2 ^ k)) = lowv n (k + 1) := by
  have hk : 2 ^ k ≤ 2 ^ 63 := Nat.pow_le_pow_right (by omega) h63
  have hl : n % 2 ^ k < 2 ^ k := Nat.mod_lt _ (Nat.pow_pos (by omega))
  have e2 : IntKind.u64.wrap ((2 : Int) ^ k) = ((2 ^ k : Nat) : Int) := by
    rw [IntKind.wrap_u64, show ((2 : Int) ^ k) = ((2 ^ k : Nat) : Int) by simp]; omega
  have h := bits_or_u64_nat (n % 2 ^ k) (2 ^ k) (by omega) (by omega)
  rw [e2, lowv, h, lowv, Nat.mod_pow_succ, bit_one hb, Nat.mul_one]
  have := Nat.two_pow_add_eq_or_of_lt hl 1
  rw [Nat.mul_one] at this
  rw [Nat.or_comm, ← this, Nat.add_comm]
set_option maxRecDepth 10000 in
set_option maxHeartbeats 1000000 in
theorem uint_in (p : Bool) (n : Nat) (h : n ≤ 18446744073709551615) (w : World) :
    Calls Try.prog 35 #[.agg (nb p n)] w fun e w' => e = .returned (.tuple #[.int .u64 n, .bool (!p)]) ∧ Below w.heap.size w w' := by
  have b1 : At (w.alloc (.cells (nb p n) 42)) w.heap.size (num p (bitf n)) := At.new w (nb p n)
  have HB1 := Lib.hid b1
  have HH := Lib.hid h
  clear b1 h
  go_enter Try.func35, Try.ntmps35
  go_wp2
  go_loopw [4, 5] (fun v i wr => ∃ k : Nat, k ≤ 200 ∧ v = .int .u64 (lowv n k) ∧ i = .int .i64 k ∧ At wr w.heap.size (num p (bitf n)) ∧ Below w.heap.size w wr) (fun _ i _ => 200 - (intOf i).toNat)
  case atStart => exact ⟨0, by omega, by rw [lowv_zero], rfl, HB1.out, (Below.refl _ w).alloc (Nat.le_refl _) _⟩
  case round =>
    obtain ⟨k, hk, rfl, rfl, h1, hB⟩ := hrel
    by_cases hlt : k < 200
    · have c1 := h1.bit (k := k) hlt
      obtain ⟨x0, x1⟩ := bitf_bd n k
      have H1 := Lib.hid h1
      clear h1
      by_cases hb : bitf n k = 1
      · have hb2 : (bitf n k == 1) = true := by simpa using hb
        have HBt := Lib.hid hb
        clear hb
        have h63 : k ≤ 63 := bit_small HH.out HBt.out
        go_wp2
        go_roundw
        case rel => exact ⟨k + 1, by omega, by rw [or_step HBt.out h63], by go_num, H1.out, hB⟩
        case measure => simp [intOf]; omega
      · have hb2 : (bitf n k == 1) = false := by simpa using hb
        have HBt := Lib.hid hb
        clear hb
        go_wp2
        go_roundw
        case rel => exact ⟨k + 1, by omega, by rw [zero_step HBt.out], by go_num, H1.out, hB⟩
        case measure => simp [intOf]; omega
    · have ek : k = 200 := by omega
      subst ek
      have n1 := h1.neg
      rw [lowv_all (Nat.lt_of_le_of_lt HH.out (by omega))]
      clear h1
      go_wp2
      go_quiet (fail)
      go_wp2
      go_ret2
      exact ⟨rfl, below_drewN hB _⟩
set_option maxRecDepth 10000 in
set_option maxHeartbeats 1000000 in
theorem uint_out (p : Bool) (n : Nat) (h : 18446744073709551616 ≤ n ∧ n < 2 ^ 200) (w : World) :
    Calls Try.prog 35 #[.agg (nb p n)] w fun e w' => e = .returned (.tuple #[.int .u64 0, .bool false]) ∧ Below w.heap.size w w' := by
  have b1 : At (w.alloc (.cells (nb p n) 42)) w.heap.size (num p (bitf n)) := At.new w (nb p n)
  have HB1 := Lib.hid b1
  have HH := Lib.hid h
  clear b1 h
  go_enter Try.func35, Try.ntmps35
  go_wp2
  go_loopw [4, 5] (fun v i wr => ∃ k : Nat, k ≤ 200 ∧ v = .int .u64 (lowv n k) ∧ i = .int .i64 k ∧ Hid (n % 2 ^ k < 18446744073709551616) ∧ At wr w.heap.size (num p (bitf n)) ∧ Below w.heap.size w wr) (fun _ i _ => 200 - (intOf i).toNat)
  case atStart => exact ⟨0, by omega, by rw [lowv_zero], rfl, Lib.hid (by simp [Nat.mod_one]), HB1.out, (Below.refl _ w).alloc (Nat.le_refl _) _⟩
  case round =>
    obtain ⟨k, hk, rfl, rfl, hs, h1, hB⟩ := hrel
    by_cases hlt : k < 200
    · have c1 := h1.bit (k := k) hlt
      obtain ⟨x0, x1⟩ := bitf_bd n k
      have H1 := Lib.hid h1
      clear h1
      by_cases hb : bitf n k = 1
      · have hb2 : (bitf n k == 1) = true := by simpa using hb
        have HBt := Lib.hid hb
        clear hb
        by_cases h63 : k ≤ 63
        · go_wp2
          go_roundw
          case rel => exact ⟨k + 1, by omega, by rw [or_step HBt.out h63], by go_num, Lib.hid (mod_small h63), H1.out, hB⟩
          case measure => simp [intOf]; omega
        · go_wp2
          go_ret2
          exact ⟨rfl, hB⟩
      · have hb2 : (bitf n k == 1) = false := by simpa using hb
        have HBt := Lib.hid hb
        clear hb
        go_wp2
        go_roundw
        case rel => exact ⟨k + 1, by omega, by rw [zero_step HBt.out], by go_num, Lib.hid (by rw [mod_step HBt.out]; exact hs.out), H1.out, hB⟩
        case measure => simp [intOf]; omega
    · have ek : k = 200 := by omega
      subst ek
      have := hs.out
      rw [Nat.mod_eq_of_lt HH.out.2] at this
      exact absurd HH.out.1 (by omega)
end Go.Proofs.Ytmkmpkajcjdfaaa
