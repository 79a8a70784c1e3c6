/- The law's power: a number moved up by so many bits. -/
import Derived.Test.YthjjlkoddmljbaaDoorRTimes
set_option linter.unusedVariables false
namespace Go.Proofs.YthjjlkoddmljbaaDoor.Ref
open Go.RowKit
/-- The bits of n from bit s on, the first k of them. -/
def sb (n s k j : Nat) : Int := if s ≤ j ∧ j < s + k then bitf n (j - s) else 0
theorem sb_zero (n s : Nat) : zeroNum = num false (sb n s 0) := num_congr fun j _ => by
  unfold sb; rw [if_neg (by omega)]
theorem sb_succ (n s k : Nat) : (fun j => if j = k + s then bitf n k else sb n s k j) = sb n s (k + 1) := by
  funext j
  unfold sb
  by_cases h : j = k + s
  · subst h; rw [if_pos rfl, if_pos (by omega), show k + s - s = k by omega]
  · rw [if_neg h]
    by_cases h2 : s ≤ j ∧ j < s + k
    · rw [if_pos h2, if_pos (by omega)]
    · rw [if_neg h2, if_neg (by omega)]
theorem sb_all {n s : Nat} (hn : n < 2 ^ 64) : num false (sb n s 64) = nb false (n * 2 ^ s) := num_congr fun j _ => by
  unfold sb bitf
  by_cases h1 : s ≤ j
  · obtain ⟨i, rfl⟩ : ∃ i, j = s + i := ⟨j - s, by omega⟩
    have e : n * 2 ^ s / 2 ^ (s + i) = n / 2 ^ i := by
      rw [Nat.pow_add, ← Nat.div_div_eq_div_mul, Nat.mul_div_cancel _ (Nat.two_pow_pos s)]
    rw [e, show s + i - s = i by omega]
    by_cases h2 : i < 64
    · rw [if_pos (by omega)]
    · rw [if_neg (by omega)]
      have : n / 2 ^ i = 0 := Nat.div_eq_of_lt (Nat.lt_of_lt_of_le hn (Nat.pow_le_pow_right (by omega) (by omega)))
      rw [this]; rfl
  · rw [if_neg (by omega)]
    obtain ⟨d, rfl⟩ : ∃ d, s = j + (d + 1) := ⟨s - j - 1, by omega⟩
    have e : n * 2 ^ (j + (d + 1)) / 2 ^ j % 2 = 0 := by
      rw [Nat.pow_add, show n * (2 ^ j * 2 ^ (d + 1)) = n * 2 ^ (d + 1) * 2 ^ j by rw [Nat.mul_comm (2 ^ j), Nat.mul_assoc], Nat.mul_div_cancel _ (Nat.two_pow_pos j), Nat.pow_succ, ← Nat.mul_assoc, Nat.mul_mod_left]
    rw [e]; rfl
set_option maxRecDepth 10000 in
set_option maxHeartbeats 1000000 in
theorem power_any (n s : Nat) (hn : n ≤ 18446744073709551615) (hs : s ≤ 136) (w : World) :
    Calls Tryd.prog 36 #[.int .u64 n, .int .i64 s] w fun e w' => e = .returned (.agg (nb false (n * 2 ^ s))) ∧ Below w.heap.size w w' := by
  have hz := (zero_of_info info42).1
  have b0 := (At.new w zeroNum).alloc (.cells zeroNum 73)
  have b1 := At.new (w.alloc (.cells zeroNum 73)) zeroNum
  rw [World.size_alloc] at b1
  have B0 := Lib.hid b0
  have B1 := Lib.hid b1
  clear b0 b1
  go_enter Tryd.func36, Tryd.ntmps36
  go_wp2_with (first | (refine build_num rfl rfl ?_) | (refine store_num (neg := false) (f := fun _ => 0) (f' := fun _ => 0) B1.out rfl rfl rfl rfl ?_))
  go_loopw [6] (fun i wr => ∃ k : Nat, k ≤ 64 ∧ i = .int .i64 k ∧ At wr (w.heap.size + 1) (num false (sb n s k)) ∧ At wr w.heap.size (num false (fun _ => 0)) ∧ Below w.heap.size w wr) (fun i _ => 64 - (intOf i).toNat)
  case atStart =>
    refine ⟨0, by omega, rfl, ?_, B0.out.rowOther _ (by omega), below_row (((Below.refl _ w).alloc (Nat.le_refl _) _).alloc (by simp) _) (by omega) _⟩
    rw [← sb_zero]
    exact B1.out.row
  case round =>
    clear B0 B1
    obtain ⟨k, hk, rfl, hx, hr, hB⟩ := hrel
    by_cases hlt : k < 64
    · have hc := hx.bit (k := k + s) (by omega)
      have hf := hx.free (1 + (k + s))
      have HX := Lib.hid hx
      have HR := Lib.hid hr
      have hks : (k : Int) + (s : Int) < 200 := by omega
      clear hx hr
      go_wp2
      go_roundw
      case rel =>
        rw [word_bit n k hn]
        refine ⟨k + 1, by omega, by go_num, ?_, HR.out.other _ (by simp), hB.setCell (p := ⟨w.heap.size + 1, 1 + (k + s), none⟩) (by simp) _⟩
        have := HX.out.set (k := k + s) (by omega) (bitf n k)
        rwa [sb_succ] at this
      case measure => simp [intOf]; omega
    · have e64 : k = 64 := by omega
      subst e64
      have ef : num false (sb n s 64) = nb false (n * 2 ^ s) := sb_all (by omega)
      unfold nb at ef
      rw [ef] at hx
      have HX := Lib.hid hx
      have HR := Lib.hid hr
      clear hx hr ef
      go_wp2_with (first | (refine load_num HX.out rfl rfl rfl ?_) | (refine store_num HR.out rfl rfl rfl rfl ?_))
      exact bodyPost_ret (v := .agg (nb false (n * 2 ^ s))) (results_cell_row rfl _ _ w.heap.size _ _ _ _ rfl HR.out.row Tryd.underlying73 rfl (size42 _ _)) rfl ⟨rfl, below_row hB (Nat.le_refl _) _⟩
end Go.Proofs.YthjjlkoddmljbaaDoor.Ref
