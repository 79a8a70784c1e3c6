/- The document's More32: the sum of More32. -/
import Derived.Test.YtmhgphbafiilnaaCSum
set_option linter.unusedVariables false
namespace Go.Proofs.Ytmhgphbafiilnaa
open Go.RowKit Go.Shelf
theorem byte32 (P S m k : Nat) (s0 : Nat) (xs : List Int) (hm : (xs.getD k 0).toNat = m) (h8 : m < 256) (hS : run P s0 (upto (bitAt xs) (8 * k)) = S) :
    run P (S ^^^ m) (zz 8) = run P s0 (upto (bitAt xs) (8 * (k + 1))) := by
  rw [run_word, Nat.shiftRight_eq_div_pow, Nat.div_eq_of_lt (by omega), Nat.xor_zero, Nat.mul_add, Nat.mul_one, upto_add, run_append, hS]
  congr 1
  apply upto_congr
  intro j hj
  unfold bitAt
  rw [show (8 * k + j) / 8 = k by omega, show (8 * k + j) % 8 = j by omega, hm]
theorem zz_succ32 (P S q : Nat) : run P S (zz (q + 1)) = step P (run P S (zz q)) false := by
  rw [show zz (q + 1) = zz q ++ [false] by simp [zz, List.replicate_succ'], run_snoc]
set_option maxRecDepth 100000 in
set_option maxHeartbeats 1000000 in
theorem ref32_cells (s0 : Nat) (hs0 : s0 < 4294967296) (b off cap len : Nat) (xs : List Int) (hlen : xs.length = len) (hx : ∀ x ∈ xs, 0 ≤ x ∧ x < 256) (hreach : len ≤ 100000000000000) (w : World)
    (hc : ∀ j, j < len → w.cell? ⟨b, off + j, none⟩ = some (.int .u8 (xs.getD j 0))) :
    Calls Try.prog 26 #[.int .u32 s0, .slice (some ⟨b, off, none⟩) len cap] w fun e w' => e = .returned (.int .u32 (sum32 s0 xs : Nat)) ∧ w = w' := by
  obtain ⟨s1, hs1⟩ : ∃ s1, 4294967295 ^^^ s0 = s1 := ⟨_, rfl⟩
  have hs1' : s1 < 4294967296 := by rw [← hs1]; exact Nat.xor_lt_two_pow (n := 32) (by decide) hs0
  have hn := xor32 s0 4294967295 hs0 (by decide)
  rw [show ((4294967295 : Nat) : Int) = 4294967295 from rfl, Nat.xor_comm, hs1] at hn
  have HR : Hid (sum32 s0 xs = 4294967295 ^^^ run 3988292384 s1 (bitsL xs)) := by show sum32 s0 xs = _; rw [← hs1]; rfl
  have HS := Lib.hid hs1
  clear hs1
  go_enter Try.func26, Try.ntmps26
  go_wp2
  go_loopw [0, 5] (fun s i wr => wr = w ∧ ∃ k : Nat, k ≤ len ∧ i = .int .i64 k ∧ s = .int .u32 (run 3988292384 s1 (upto (bitAt xs) (8 * k)) : Nat)) (fun _ i _ => len - (intOf i).toNat)
  case atStart => exact ⟨rfl, 0, Nat.zero_le _, rfl, rfl⟩
  case round =>
    obtain ⟨rfl, k, hk, rfl, rfl⟩ := hrel
    by_cases hlt : k < len
    · have hcx := hc k hlt
      have hby := hx (xs.getD k 0) (by simp [List.getD, hlen, hlt])
      have hS : _ < 4294967296 := run_lt (P := 3988292384) (n := 32) (by decide) (upto (bitAt xs) (8 * k)) hs1'
      obtain ⟨m, hm⟩ : ∃ m : Nat, xs.getD k 0 = m := ⟨_, (Int.toNat_of_nonneg hby.1).symm⟩
      have hm8 : m < 256 := by omega
      have hnext := byte32 3988292384 _ m k s1 xs (by omega) hm8 rfl
      rw [hm] at hcx
      generalize run 3988292384 s1 (upto (bitAt xs) (8 * k)) = S at hS hnext ⊢
      have hxo := xor32 S m hS (by omega)
      have hSm : S ^^^ m < 4294967296 := Nat.xor_lt_two_pow (n := 32) hS (by omega)
      have HN := Lib.hid hnext
      have HX := Lib.hid hm
      have HC := Lib.hid hc
      clear hnext hm hc
      have hm0 : 0 ≤ (m : Int) := by omega
      have hm1 : (m : Int) < 256 := by omega
      go_wp2
      generalize S ^^^ m = V at *
      go_loopw [0, 6] (fun s i wx => wx = wr ∧ ∃ q : Nat, q ≤ 8 ∧ i = .int .i64 q ∧ s = .int .u32 (run 3988292384 V (zz q) : Nat)) (fun _ i _ => 8 - (intOf i).toNat)
      case atStart => exact ⟨rfl, 0, Nat.zero_le _, rfl, rfl⟩
      case round =>
        obtain ⟨rfl, q, hq, rfl, rfl⟩ := hrel
        by_cases hq8 : q < 8
        · have hT : _ < 4294967296 := run_lt (P := 3988292384) (n := 32) (by decide) (zz q) hSm
          have hzz := Lib.hid (zz_succ32 3988292384 V q)
          generalize run 3988292384 V (zz q) = T at hT hzz ⊢
          have ha := and32_1 T hT
          by_cases hb : T.testBit 0 = true
          · rw [if_pos hb] at ha
            have E := Lib.hid (stepv32_t (P := 3988292384) (s := T) (x := false) (by decide) hT (by simpa using hb))
            clear hb
            go_wp2
            go_roundw
            case rel => exact ⟨by trivial, q + 1, by omega, by simp, by rw [hzz.out, ← E.out]; rfl⟩
            case measure => simp [intOf]; omega
          · rw [if_neg hb] at ha
            have E := Lib.hid (stepv_f (P := 3988292384) (s := T) (x := false) (by simpa using hb))
            clear hb
            go_wp2
            go_roundw
            case rel => exact ⟨by trivial, q + 1, by omega, by simp, by rw [hzz.out, ← E.out]⟩
            case measure => simp [intOf]; omega
        · obtain rfl : q = 8 := by omega
          go_wp2
          go_roundw
          case rel => exact ⟨by trivial, k + 1, by omega, by simp, by rw [HN.out]⟩
          case measure => simp [intOf]; omega
    · obtain rfl : k = len := by omega
      have hz := run_lt (P := 3988292384) (n := 32) (by decide) (upto (bitAt xs) (8 * k)) hs1'
      have HE : Hid (run 3988292384 s1 (upto (bitAt xs) (8 * k)) = run 3988292384 s1 (bitsL xs)) := by show _ = _; unfold bitsL; rw [hlen]
      generalize run 3988292384 s1 (upto (bitAt xs) (8 * k)) = Z at hz HE ⊢
      have HZ := Lib.hid (xor32 Z 4294967295 hz (by decide))
      go_wp2
      go_ret
      exact ⟨ret_eq (by rw [HR.out, ← HE.out, Nat.xor_comm]; exact HZ.out), rfl⟩
set_option maxRecDepth 100000 in
set_option maxHeartbeats 1000000 in
theorem ref32_none (s0 : Nat) (hs0 : s0 < 4294967296) (a : Option Addr) (cap : Nat) (w : World) :
    Calls Try.prog 26 #[.int .u32 s0, .slice a 0 cap] w fun e w' => e = .returned (.int .u32 (sum32 s0 [] : Nat)) ∧ w = w' := by
  obtain ⟨s1, hs1⟩ : ∃ s1, 4294967295 ^^^ s0 = s1 := ⟨_, rfl⟩
  have hs1' : s1 < 4294967296 := by rw [← hs1]; exact Nat.xor_lt_two_pow (n := 32) (by decide) hs0
  have hn := xor32 s0 4294967295 hs0 (by decide)
  rw [show ((4294967295 : Nat) : Int) = 4294967295 from rfl, Nat.xor_comm, hs1] at hn
  have HR : Hid (sum32 s0 [] = 4294967295 ^^^ s1) := by show sum32 s0 [] = _; rw [← hs1]; rfl
  have HZ := Lib.hid (xor32 s1 4294967295 hs1' (by decide))
  have HS := Lib.hid hs1
  clear hs1
  go_enter Try.func26, Try.ntmps26
  go_wp2
  go_loopw [0, 5] (fun s i wr => wr = w ∧ i = .int .i64 0 ∧ s = .int .u32 (s1 : Nat)) (fun _ i _ => 0)
  case atStart => exact ⟨rfl, rfl, rfl⟩
  case round =>
    obtain ⟨rfl, rfl, rfl⟩ := hrel
    go_wp2
    go_ret
    exact ⟨ret_eq (by rw [HR.out, Nat.xor_comm]; exact HZ.out), rfl⟩
theorem ref32_any (n₀ : Nat) (s0 : Nat) (hs0 : s0 < 4294967296) (a : Option Addr) (len cap : Nat) (xs : List Int) (hreach : xs.length ≤ 100000000000000) (w : World) (hI : Bys n₀ w (.slice a len cap) xs) :
    Calls Try.prog 26 #[.int .u32 s0, .slice a len cap] w fun e w' => e = .returned (.int .u32 (sum32 s0 xs : Nat)) ∧ w = w' := by
  obtain ⟨hr, ⟨rfl, a', cap', e⟩ | ⟨b, off, cap', e, hb, hcs⟩⟩ := hI
  · cases e; exact ref32_none s0 hs0 _ _ w
  · cases e; exact ref32_cells s0 hs0 b off _ _ xs rfl hr hreach w hcs
end Go.Proofs.Ytmhgphbafiilnaa
