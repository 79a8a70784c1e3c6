/- The document's More16: the sum of More16. -/
import Derived.Test.YthcijpfpkainhaaCSum
set_option linter.unusedVariables false
namespace Go.Proofs.Ythcijpfpkainhaa
open Go.RowKit Go.Shelf
theorem byte16 (P S m k : Nat) (s0 : Nat) (xs : List Int) (hm : (xs.getD k 0).toNat = m) (h8 : m < 256) (hS : run P s0 (upto (bitAt xs) (8 * k)) = S) :
    run P (S ^^^ m) (zz 8) = run P s0 (upto (bitAt xs) (8 * (k + 1))) := by
  rw [run_word, Nat.shiftRight_eq_div_pow, Nat.div_eq_of_lt (by omega), Nat.xor_zero, Nat.mul_add, Nat.mul_one, upto_add, run_append, hS]
  congr 1
  apply upto_congr
  intro j hj
  unfold bitAt
  rw [show (8 * k + j) / 8 = k by omega, show (8 * k + j) % 8 = j by omega, hm]
theorem zz_succ16 (P S q : Nat) : run P S (zz (q + 1)) = step P (run P S (zz q)) false := by
  rw [show zz (q + 1) = zz q ++ [false] by simp [zz, List.replicate_succ'], run_snoc]
set_option maxRecDepth 100000 in
set_option maxHeartbeats 1000000 in
theorem ref16_cells (s0 : Nat) (hs0 : s0 < 65536) (b off cap len : Nat) (xs : List Int) (hlen : xs.length = len) (hx : ∀ x ∈ xs, 0 ≤ x ∧ x < 256) (hreach : len ≤ 100000000000000) (w : World)
    (hc : ∀ j, j < len → w.cell? ⟨b, off + j, none⟩ = some (.int .u8 (xs.getD j 0))) :
    Calls Try.prog 11 #[.int .u16 s0, .slice (some ⟨b, off, none⟩) len cap] w fun e w' => e = .returned (.int .u16 (sum16 s0 xs : Nat)) ∧ w = w' := by
  skip
  go_enter Try.func11, Try.ntmps11
  go_wp2
  go_loopw [0, 5] (fun s i wr => wr = w ∧ ∃ k : Nat, k ≤ len ∧ i = .int .i64 k ∧ s = .int .u16 (run 40961 s0 (upto (bitAt xs) (8 * k)) : Nat)) (fun _ i _ => len - (intOf i).toNat)
  case atStart => exact ⟨rfl, 0, Nat.zero_le _, rfl, rfl⟩
  case round =>
    obtain ⟨rfl, k, hk, rfl, rfl⟩ := hrel
    by_cases hlt : k < len
    · have hcx := hc k hlt
      have hby := hx (xs.getD k 0) (by simp [List.getD, hlen, hlt])
      have hS : _ < 65536 := run_lt (P := 40961) (n := 16) (by decide) (upto (bitAt xs) (8 * k)) hs0
      obtain ⟨m, hm⟩ : ∃ m : Nat, xs.getD k 0 = m := ⟨_, (Int.toNat_of_nonneg hby.1).symm⟩
      have hm8 : m < 256 := by omega
      have hnext := byte16 40961 _ m k s0 xs (by omega) hm8 rfl
      rw [hm] at hcx
      generalize run 40961 s0 (upto (bitAt xs) (8 * k)) = S at hS hnext ⊢
      have hxo := xor16 S m hS (by omega)
      have hSm : S ^^^ m < 65536 := Nat.xor_lt_two_pow (n := 16) hS (by omega)
      have HN := Lib.hid hnext
      have HX := Lib.hid hm
      have HC := Lib.hid hc
      clear hnext hm hc
      have hm0 : 0 ≤ (m : Int) := by omega
      have hm1 : (m : Int) < 256 := by omega
      go_wp2
      generalize S ^^^ m = V at *
      go_loopw [0, 6] (fun s i wx => wx = wr ∧ ∃ q : Nat, q ≤ 8 ∧ i = .int .i64 q ∧ s = .int .u16 (run 40961 V (zz q) : Nat)) (fun _ i _ => 8 - (intOf i).toNat)
      case atStart => exact ⟨rfl, 0, Nat.zero_le _, rfl, rfl⟩
      case round =>
        obtain ⟨rfl, q, hq, rfl, rfl⟩ := hrel
        by_cases hq8 : q < 8
        · have hT : _ < 65536 := run_lt (P := 40961) (n := 16) (by decide) (zz q) hSm
          have hzz := Lib.hid (zz_succ16 40961 V q)
          generalize run 40961 V (zz q) = T at hT hzz ⊢
          have ha := and16_1 T hT
          by_cases hb : T.testBit 0 = true
          · rw [if_pos hb] at ha
            have E := Lib.hid (stepv16_t (P := 40961) (s := T) (x := false) (by decide) hT (by simpa using hb))
            clear hb
            go_wp2
            go_roundw
            case rel => exact ⟨by trivial, q + 1, by omega, by simp, by rw [hzz.out, ← E.out]; rfl⟩
            case measure => simp [intOf]; omega
          · rw [if_neg hb] at ha
            have E := Lib.hid (stepv_f (P := 40961) (s := T) (x := false) (by simpa using hb))
            clear hb
            go_wp2
            go_roundw
            case rel => exact ⟨by trivial, q + 1, by omega, by simp, by rw [hzz.out, ← E.out]⟩
            case measure => simp [intOf]; omega
        · obtain rfl : q = 8 := by omega
          go_wp2
          go_roundw
          case rel => exact ⟨by trivial, k + 1, by omega, by simp, by rw [HN.out]⟩
          case measure => simp [intOf]; omega
    · obtain rfl : k = len := by omega
      skip
      go_wp2
      go_ret
      exact ⟨ret_eq (by unfold sum16 bitsL; rw [hlen]), rfl⟩
set_option maxRecDepth 100000 in
set_option maxHeartbeats 1000000 in
theorem ref16_none (s0 : Nat) (hs0 : s0 < 65536) (a : Option Addr) (cap : Nat) (w : World) :
    Calls Try.prog 11 #[.int .u16 s0, .slice a 0 cap] w fun e w' => e = .returned (.int .u16 (sum16 s0 [] : Nat)) ∧ w = w' := by
  skip
  go_enter Try.func11, Try.ntmps11
  go_wp2
  go_loopw [0, 5] (fun s i wr => wr = w ∧ i = .int .i64 0 ∧ s = .int .u16 (s0 : Nat)) (fun _ i _ => 0)
  case atStart => exact ⟨rfl, rfl, rfl⟩
  case round =>
    obtain ⟨rfl, rfl, rfl⟩ := hrel
    go_wp2
    go_ret
    exact ⟨rfl, rfl⟩
theorem ref16_any (n₀ : Nat) (s0 : Nat) (hs0 : s0 < 65536) (a : Option Addr) (len cap : Nat) (xs : List Int) (hreach : xs.length ≤ 100000000000000) (w : World) (hI : Bys n₀ w (.slice a len cap) xs) :
    Calls Try.prog 11 #[.int .u16 s0, .slice a len cap] w fun e w' => e = .returned (.int .u16 (sum16 s0 xs : Nat)) ∧ w = w' := by
  obtain ⟨hr, ⟨rfl, a', cap', e⟩ | ⟨b, off, cap', e, hb, hcs⟩⟩ := hI
  · cases e; exact ref16_none s0 hs0 _ _ w
  · cases e; exact ref16_cells s0 hs0 b off _ _ xs rfl hr hreach w hcs
end Go.Proofs.Ythcijpfpkainhaa
