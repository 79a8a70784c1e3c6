/- Words of 16 and 32 bits as plain numbers: exclusive or, the lowest bit, a step of the sum. -/
import Derived.Laws.BitsLemmas
import Derived.Test.YtpcbolmidnoaiaaCMath
set_option linter.unusedVariables false
set_option linter.unusedSimpArgs false
namespace Go.Proofs.Ytpcbolmidnoaiaa
theorem wrap_u16 (n : Int) : IntKind.u16.wrap n = n % 65536 := by simp [IntKind.wrap, IntKind.bits, IntKind.signed]
theorem bits_xor_nat (k : IntKind) (hk : ∀ n : Int, 0 ≤ n → n < 2 ^ k.bits → k.wrap n = n) (a b : Nat) (ha : a < 2 ^ k.bits) (hb : b < 2 ^ k.bits) :
    bits .xor k a b = ((a ^^^ b : Nat) : Int) := by
  have ha' : a % 2 ^ k.bits = a := Nat.mod_eq_of_lt ha
  have hb' : b % 2 ^ k.bits = b := Nat.mod_eq_of_lt hb
  have hx : a ^^^ b < 2 ^ k.bits := Nat.xor_lt_two_pow ha hb
  simp only [bits, BitVec.ofInt_natCast, BitVec.toNat_xor, BitVec.toNat_ofNat, ha', hb']
  exact hk _ (Int.natCast_nonneg _) (by exact_mod_cast hx)
theorem wraps_u16 (n : Int) (h₀ : 0 ≤ n) (h₁ : n < 2 ^ 16) : IntKind.u16.wrap n = n := by rw [wrap_u16]; omega
theorem wraps_u32 (n : Int) (h₀ : 0 ≤ n) (h₁ : n < 2 ^ 32) : IntKind.u32.wrap n = n := by rw [IntKind.wrap_u32]; omega
theorem xor16 (a b : Nat) (ha : a < 65536) (hb : b < 65536) : bits .xor .u16 (a : Int) (b : Int) = ((a ^^^ b : Nat) : Int) := bits_xor_nat .u16 wraps_u16 a b ha hb
theorem xor32 (a b : Nat) (ha : a < 4294967296) (hb : b < 4294967296) : bits .xor .u32 (a : Int) (b : Int) = ((a ^^^ b : Nat) : Int) := bits_xor_nat .u32 wraps_u32 a b ha hb
theorem xor8 (a b : Nat) (ha : a < 256) (hb : b < 256) : bits .xor .u8 (a : Int) (b : Int) = ((a ^^^ b : Nat) : Int) := bits_xor_nat .u8 wraps_u8 a b ha hb
theorem and16_1 (a : Nat) (ha : a < 65536) : bits .and .u16 (a : Int) 1 = if a.testBit 0 then 1 else 0 := by
  have h := (bits_nat .u16 16 (by decide) wraps_u16 a 1 ha (by decide)).1
  rw [show ((1 : Nat) : Int) = 1 from rfl] at h
  rw [h, Nat.and_one_is_mod, Nat.testBit_zero]
  have := Nat.mod_two_eq_zero_or_one a
  rcases this with e | e <;> simp [e]
theorem and32_1 (a : Nat) (ha : a < 4294967296) : bits .and .u32 (a : Int) 1 = if a.testBit 0 then 1 else 0 := by
  have h := (bits_nat .u32 32 (by decide) wraps_u32 a 1 ha (by decide)).1
  rw [show ((1 : Nat) : Int) = 1 from rfl] at h
  rw [h, Nat.and_one_is_mod, Nat.testBit_zero]
  have := Nat.mod_two_eq_zero_or_one a
  rcases this with e | e <;> simp [e]
/-- The bit that goes out, as the program reckons it. -/
theorem out16 (s : Nat) (x : Bool) (hs : s < 65536) : bits .and .u16 (bits .xor .u16 (s : Int) (if x then 1 else 0)) 1 = if s.testBit 0 ^^ x then 1 else 0 := by
  have h1 : s ^^^ 1 < 65536 := Nat.xor_lt_two_pow (n := 16) hs (by decide)
  have h0 : s ^^^ 0 < 65536 := by simpa using hs
  cases x
  · have e := xor16 s 0 hs (by decide)
    rw [show ((0 : Nat) : Int) = 0 from rfl] at e
    simp only [Bool.false_eq_true, if_false, Bool.xor_false]
    rw [e, and16_1 _ h0]; simp
  · have e := xor16 s 1 hs (by decide)
    rw [show ((1 : Nat) : Int) = 1 from rfl] at e
    simp only [if_true, Bool.xor_true]
    rw [e, and16_1 _ h1, Nat.testBit_xor]; simp
theorem out32 (s : Nat) (x : Bool) (hs : s < 4294967296) : bits .and .u32 (bits .xor .u32 (s : Int) (if x then 1 else 0)) 1 = if s.testBit 0 ^^ x then 1 else 0 := by
  have h1 : s ^^^ 1 < 4294967296 := Nat.xor_lt_two_pow (n := 32) hs (by decide)
  have h0 : s ^^^ 0 < 4294967296 := by simpa using hs
  cases x
  · have e := xor32 s 0 hs (by decide)
    rw [show ((0 : Nat) : Int) = 0 from rfl] at e
    simp only [Bool.false_eq_true, if_false, Bool.xor_false]
    rw [e, and32_1 _ h0]; simp
  · have e := xor32 s 1 hs (by decide)
    rw [show ((1 : Nat) : Int) = 1 from rfl] at e
    simp only [if_true, Bool.xor_true]
    rw [e, and32_1 _ h1, Nat.testBit_xor]; simp
theorem step_t {P s : Nat} {x : Bool} (h : (s.testBit 0 ^^ x) = true) : step P s x = (s / 2) ^^^ P := by unfold step; rw [if_pos h]
theorem step_f {P s : Nat} {x : Bool} (h : (s.testBit 0 ^^ x) = false) : step P s x = s / 2 := by unfold step; rw [h]; rfl
theorem half_cast (s : Nat) : ((s / 2 : Nat) : Int) = (s : Int) / 2 := by omega
theorem stepv16_t {P s : Nat} {x : Bool} (hP : P < 65536) (hs : s < 65536) (h : (s.testBit 0 ^^ x) = true) : bits .xor .u16 ((s : Int) / 2) (P : Int) = ((step P s x : Nat) : Int) := by
  rw [step_t h, ← half_cast, xor16 _ _ (by omega) hP]
theorem stepv32_t {P s : Nat} {x : Bool} (hP : P < 4294967296) (hs : s < 4294967296) (h : (s.testBit 0 ^^ x) = true) : bits .xor .u32 ((s : Int) / 2) (P : Int) = ((step P s x : Nat) : Int) := by
  rw [step_t h, ← half_cast, xor32 _ _ (by omega) hP]
theorem stepv_f {P s : Nat} {x : Bool} (h : (s.testBit 0 ^^ x) = false) : (s : Int) / 2 = ((step P s x : Nat) : Int) := by
  rw [step_f h, ← half_cast]
theorem int_eq {k : IntKind} {a b : Int} (h : a = b) : Value.int k a = Value.int k b := by rw [h]
theorem ret_eq {k : IntKind} {a b : Int} (h : a = b) : Ending.returned (.int k a) = .returned (.int k b) := by rw [h]
end Go.Proofs.Ytpcbolmidnoaiaa
