/- The contracts of More32, Sum32. -/
import Derived.Test.YtpcbolmidnoaiaaCProc32
set_option linter.unusedVariables false
namespace Go.Proofs.Ytpcbolmidnoaiaa
open Go.RowKit Go.Shelf
/-- The sum of 32 bits, of bytes behind some of the sum s. -/
def sum32 (s : Nat) (xs : List Int) : Nat := 4294967295 ^^^ run 3988292384 (4294967295 ^^^ s) (bitsL xs)
theorem sum32_lt (s : Nat) (xs : List Int) (h : s < 4294967296) : sum32 s xs < 4294967296 :=
  Nat.xor_lt_two_pow (n := 32) (by decide) (run_lt (n := 32) (by decide) _ (Nat.xor_lt_two_pow (n := 32) (by decide) h))
theorem not32 (a : Nat) (h : a < 4294967296) : bits .xor .u32 4294967295 (a : Int) = ((4294967295 ^^^ a : Nat) : Int) := by
  have e := xor32 4294967295 a (by decide) h
  rwa [show ((4294967295 : Nat) : Int) = 4294967295 from rfl] at e
theorem more32_any (s : Nat) (hs : s < 4294967296) (a : Option Addr) (len cap : Nat) (xs : List Int) (hreach : xs.length ≤ 100000000000000) (w : World) (hI : Bys w.heap.size w (.slice a len cap) xs) :
    Calls Try.prog 77 #[.int .u32 s, .slice a len cap] w fun e W' => e = .returned (.int .u32 (sum32 s xs : Nat)) ∧ Below w.heap.size w W' := by
  have h1 : 4294967295 ^^^ s < 4294967296 := Nat.xor_lt_two_pow (n := 32) (by decide) hs
  have hp := proc32_any (4294967295 ^^^ s) 3988292384 h1 (by decide) a len cap xs hreach w hI
  rw [show ((3988292384 : Nat) : Int) = 3988292384 from rfl, ← not32 s hs] at hp
  have h2 := run_lt (P := 3988292384) (n := 32) (by decide) (bitsL xs) h1
  have e2 := Lib.hid (not32 _ h2)
  have e3 : Hid (sum32 s xs = 4294967295 ^^^ run 3988292384 (4294967295 ^^^ s) (bitsL xs)) := (rfl : sum32 s xs = _)
  clear hI hs h1
  generalize run 3988292384 (4294967295 ^^^ s) (bitsL xs) = r at *
  go_enter Try.func77, Try.ntmps77
  go_wp2_with (go_at_call 82; refine hp.mono ?_; rintro e w' ⟨rfl, hb⟩)
  go_ret
  exact ⟨ret_eq (by rw [e3.out]; exact e2.out), hb⟩
theorem sum32_any (a : Option Addr) (len cap : Nat) (xs : List Int) (hreach : xs.length ≤ 100000000000000) (w : World) (hI : Bys w.heap.size w (.slice a len cap) xs) :
    Calls Try.prog 78 #[.slice a len cap] w fun e W' => e = .returned (.int .u32 (sum32 0 xs : Nat)) ∧ Below w.heap.size w W' := by
  have hp := more32_any 0 (by decide) a len cap xs hreach w hI
  rw [show ((0 : Nat) : Int) = 0 from rfl] at hp
  clear hI
  go_enter Try.func78, Try.ntmps78
  go_wp2_with (go_at_call 77; refine hp.mono ?_; rintro e w' ⟨rfl, hb⟩)
  go_ret
  exact ⟨rfl, hb⟩
end Go.Proofs.Ytpcbolmidnoaiaa
