/- Joined: Math Leaf. -/
import Derived.Test.YtbffmobjiiicoaaDoorProg
import Derived.WalkKit
import Derived.WalkLawsBesides
import Derived.Lib.Mul64
import Derived.Laws.Bits64b
section
/- Plain words on whole numbers for the layer fixq: which ones fit an int64, and what is told of one that does not; nothing of the program. -/
namespace Go.Proofs.YtbffmobjiiicoaaDoor.F1
open Go.RowKit
/-- Does x fit an int64? -/
def fits (x : Int) : Bool := decide (-9223372036854775808 ≤ x ∧ x ≤ 9223372036854775807)
/-- What is told of x: x itself, or nought. -/
def tv (x : Int) : Int := if fits x then x else 0
/-- The error's number: none, or ErrOver. -/
def te (x : Int) : Int := if fits x then 0 else 10
theorem fits_iff (x : Int) : fits x = true ↔ (-9223372036854775808 ≤ x ∧ x ≤ 9223372036854775807) := by simp [fits]
theorem tv_in {x : Int} (h : -9223372036854775808 ≤ x ∧ x ≤ 9223372036854775807) : tv x = x := by simp [tv, fits, h]
theorem te_in {x : Int} (h : -9223372036854775808 ≤ x ∧ x ≤ 9223372036854775807) : te x = 0 := by simp [te, fits, h]
theorem tv_out {x : Int} (h : ¬ (-9223372036854775808 ≤ x ∧ x ≤ 9223372036854775807)) : tv x = 0 := by simp [tv, fits]; omega
theorem te_out {x : Int} (h : ¬ (-9223372036854775808 ≤ x ∧ x ≤ 9223372036854775807)) : te x = 10 := by simp [te, fits]; omega
theorem tv_bd (x : Int) : -9223372036854775808 ≤ tv x ∧ tv x ≤ 9223372036854775807 := by
  by_cases h : -9223372036854775808 ≤ x ∧ x ≤ 9223372036854775807
  · rw [tv_in h]; exact h
  · rw [tv_out h]; omega
theorem te_01 (x : Int) : te x = 0 ∨ te x = 10 := by unfold te; split <;> simp
/-- The quotient of a by b, rounded down, and its rest, out of what the two are without signs. -/
def fq (a b : Int) : Int :=
  if decide (a < 0) = decide (b < 0) then ((a.natAbs / b.natAbs : Nat) : Int)
  else if a.natAbs % b.natAbs = 0 then -((a.natAbs / b.natAbs : Nat) : Int) else -((a.natAbs / b.natAbs : Nat) : Int) - 1
def fr (a b : Int) : Int :=
  if decide (a < 0) = decide (b < 0) then (if a < 0 then -((a.natAbs % b.natAbs : Nat) : Int) else ((a.natAbs % b.natAbs : Nat) : Int))
  else if a.natAbs % b.natAbs = 0 then 0 else if b < 0 then ((a.natAbs % b.natAbs : Nat) : Int) + b else -((a.natAbs % b.natAbs : Nat) : Int) + b
theorem tdiv_abs (a b : Int) : a.tdiv b = if decide (a < 0) = decide (b < 0) then ((a.natAbs / b.natAbs : Nat) : Int) else -((a.natAbs / b.natAbs : Nat) : Int) := by
  rcases Int.lt_or_le a 0 with h1 | h1 <;> rcases Int.lt_or_le b 0 with h2 | h2
  · rw [if_pos (by simp [h1, h2])]
    obtain ⟨n, rfl⟩ : ∃ n : Nat, a = -(n : Int) := ⟨a.natAbs, by omega⟩
    obtain ⟨m, rfl⟩ : ∃ m : Nat, b = -(m : Int) := ⟨b.natAbs, by omega⟩
    rw [Int.neg_tdiv, Int.tdiv_neg, Int.neg_neg, Int.natAbs_neg, Int.natAbs_neg]; simp
  · rw [if_neg (by simp [h1]; omega)]
    obtain ⟨n, rfl⟩ : ∃ n : Nat, a = -(n : Int) := ⟨a.natAbs, by omega⟩
    obtain ⟨m, rfl⟩ : ∃ m : Nat, b = (m : Int) := ⟨b.natAbs, by omega⟩
    rw [Int.neg_tdiv, Int.natAbs_neg]; simp
  · rw [if_neg (by simp [h2]; omega)]
    obtain ⟨n, rfl⟩ : ∃ n : Nat, a = (n : Int) := ⟨a.natAbs, by omega⟩
    obtain ⟨m, rfl⟩ : ∃ m : Nat, b = -(m : Int) := ⟨b.natAbs, by omega⟩
    rw [Int.tdiv_neg, Int.natAbs_neg]; simp
  · rw [if_pos (by rw [decide_eq_false (by omega), decide_eq_false (by omega)])]
    obtain ⟨n, rfl⟩ : ∃ n : Nat, a = (n : Int) := ⟨a.natAbs, by omega⟩
    obtain ⟨m, rfl⟩ : ∃ m : Nat, b = (m : Int) := ⟨b.natAbs, by omega⟩
    simp
theorem tmod_abs (a b : Int) : a.tmod b = if a < 0 then -((a.natAbs % b.natAbs : Nat) : Int) else ((a.natAbs % b.natAbs : Nat) : Int) := by
  have hb : a.tmod b = a.tmod (b.natAbs : Int) := by
    rcases Int.lt_or_le b 0 with h | h
    · rw [show ((b.natAbs : Nat) : Int) = -b by omega, Int.tmod_neg]
    · rw [show ((b.natAbs : Nat) : Int) = b by omega]
  rw [hb]
  split
  · obtain ⟨n, rfl⟩ : ∃ n : Nat, a = -(n : Int) := ⟨a.natAbs, by omega⟩
    rw [Int.neg_tmod, Int.natAbs_neg, ← Int.ofNat_tmod, Int.natAbs_natCast]
  · obtain ⟨n, rfl⟩ : ∃ n : Nat, a = (n : Int) := ⟨a.natAbs, by omega⟩
    rw [← Int.ofNat_tmod, Int.natAbs_natCast]
/-- How great the bare quotient and rest are. -/
theorem quo_le (a b : Int) (ha1 : -9223372036854775808 ≤ a) (ha2 : a ≤ 9223372036854775807) (hb0 : b ≠ 0) :
    a.natAbs / b.natAbs ≤ 9223372036854775808 ∧ (2 ≤ b.natAbs → a.natAbs / b.natAbs ≤ 4611686018427387904) ∧ a.natAbs % b.natAbs < b.natAbs := by
  refine ⟨Nat.le_trans (Nat.div_le_self _ _) (by omega), fun h => ?_, Nat.mod_lt _ (by omega)⟩
  exact Nat.le_trans (Nat.div_le_div_left h (by omega)) (by omega)
theorem mod_one {a b : Int} (h : a.natAbs % b.natAbs ≠ 0) (hb0 : b ≠ 0) : 2 ≤ b.natAbs := by
  rcases Nat.lt_or_ge b.natAbs 2 with h2 | h2
  · have : b.natAbs = 1 := by omega
    rw [this, Nat.mod_one] at h; omega
  · exact h2
theorem tdiv_in (a b : Int) (ha1 : -9223372036854775808 ≤ a) (ha2 : a ≤ 9223372036854775807) (hb0 : b ≠ 0) (hab : ¬ (a = -9223372036854775808 ∧ b = -1)) :
    -9223372036854775808 ≤ a.tdiv b ∧ a.tdiv b ≤ 9223372036854775807 := by
  obtain ⟨h1, h2, _⟩ := quo_le a b ha1 ha2 hb0
  rw [tdiv_abs]
  by_cases hb2 : 2 ≤ b.natAbs
  · have h3 := h2 hb2
    clear h2
    generalize a.natAbs / b.natAbs = Q at *
    split <;> omega
  · have h1b : b.natAbs = 1 := by omega
    rw [h1b, Nat.div_one]
    split
    · rename_i hd
      by_cases h0 : a < 0
      · have : b < 0 := by simpa [h0] using hd
        omega
      · omega
    · omega
/-- The two words of a whole number, the lower and the upper one. -/
def lw (s : Int) : Int := s % 18446744073709551616
def hw (s : Int) : Int := s / 18446744073709551616 % 18446744073709551616
theorem lw_bd (s : Int) : 0 ≤ lw s ∧ lw s ≤ 18446744073709551615 := by unfold lw; omega
theorem hw_bd (s : Int) : 0 ≤ hw s ∧ hw s ≤ 18446744073709551615 := by unfold hw; omega
/-- The upper word of a number of two words whose lower one is the number's own. -/
def sw (a : Int) : Int := if a < 0 then 18446744073709551615 else 0
theorem sw_neg {a : Int} (h : a < 0) : sw a = 18446744073709551615 := by simp [sw, h]
theorem sw_pos {a : Int} (h : 0 ≤ a) : sw a = 0 := by simp [sw]; omega
theorem sw_bd (a : Int) : 0 ≤ sw a ∧ sw a ≤ 18446744073709551615 := by unfold sw; split <;> omega
/-- Sum and carry of two words and a carry. -/
def adl (x y c : Int) : Int := (x + y + c) % 18446744073709551616
def adh (x y c : Int) : Int := (x + y + c) / 18446744073709551616
theorem adh_bd {x y c : Int} (hx : 0 ≤ x ∧ x ≤ 18446744073709551615) (hy : 0 ≤ y ∧ y ≤ 18446744073709551615) (hc : 0 ≤ c ∧ c ≤ 1) : 0 ≤ adh x y c ∧ adh x y c ≤ 1 := by unfold adh; omega
/-- One more number is added: its word, and the upper word's with the carry. -/
theorem lw_add (s n : Int) : adl (lw s) (n % 18446744073709551616) 0 = lw (s + n) := by unfold adl lw; omega
theorem hw_add (s n : Int) (h1 : -9223372036854775808 ≤ n) (h2 : n ≤ 9223372036854775807) :
    adl (hw s) (sw n) (adh (lw s) (n % 18446744073709551616) 0) = hw (s + n) := by
  unfold adl adh hw lw
  rcases Int.lt_or_le n 0 with h | h
  · rw [sw_neg h]; omega
  · rw [sw_pos h]; omega
/-- Which numbers of two words fit an int64: those whose upper word says the lower one's sign alone. -/
theorem words_fit (s : Int) (h1 : -85070591730234615865843651857942052864 ≤ s) (h2 : s ≤ 85070591730234615865843651857942052864) :
    (hw s != sw (wrap64 (lw s))) = !fits s ∧ (fits s = true → wrap64 (lw s) = s) := by
  have hf := fits_iff s
  constructor
  · by_cases h : fits s = true
    · rw [h]
      have hs := hf.1 h
      have e : wrap64 (lw s) = s := by unfold wrap64 lw; omega
      rw [e]
      rcases Int.lt_or_le s 0 with h0 | h0
      · rw [sw_neg h0]; unfold hw; simp; omega
      · rw [sw_pos h0]; unfold hw; simp; omega
    · have hn : ¬ (-9223372036854775808 ≤ s ∧ s ≤ 9223372036854775807) := fun hh => h (hf.2 hh)
      rw [show fits s = false by simpa using h]
      have hd : hw s ≠ sw (wrap64 (lw s)) := by
        intro e
        rcases Int.lt_or_le (wrap64 (lw s)) 0 with h0 | h0
        · rw [sw_neg h0] at e
          revert e h0
          unfold hw wrap64 lw
          omega
        · rw [sw_pos h0] at e
          revert e h0
          unfold hw wrap64 lw
          omega
      simpa using hd
  · intro h
    have hs := hf.1 h
    unfold wrap64 lw; omega
theorem wrap_bd (n : Int) : -9223372036854775808 ≤ wrap64 n ∧ wrap64 n ≤ 9223372036854775807 := by unfold wrap64; omega
end Go.Proofs.YtbffmobjiiicoaaDoor.F1
end
section
/- Contracts of the small functions of package fixq over any numbers: Add, Sub. -/
namespace Go.Proofs.YtbffmobjiiicoaaDoor.F1
open Go.RowKit
theorem maskN (a : Nat) (ha : a < 18446744073709551616) : bits .and .u64 (a : Int) 4294967295 = ((a % 4294967296 : Nat) : Int) := by
  have h := bits_and_u64_nat a 4294967295 ha (by omega)
  have e : a &&& 4294967295 = a % 4294967296 := Nat.and_two_pow_sub_one_eq_mod a 32
  rw [e] at h
  exact h
theorem divN (a : Nat) : (a : Int) / 4294967296 = ((a / 4294967296 : Nat) : Int) := by omega
theorem mulN (a b : Nat) : (a : Int) * (b : Int) = ((a * b : Nat) : Int) := (Int.natCast_mul a b).symm
theorem addN (a b : Nat) : (a : Int) + (b : Int) = ((a + b : Nat) : Int) := (Int.natCast_add a b).symm
theorem wrapN (a : Nat) (ha : a < 18446744073709551616) : IntKind.u64.wrap (a : Int) = (a : Int) := by rw [IntKind.wrap_u64]; omega
theorem wrapM (a : Nat) : IntKind.u64.wrap (a : Int) = ((a % 18446744073709551616 : Nat) : Int) := by rw [IntKind.wrap_u64]; omega
set_option maxHeartbeats 1000000 in
theorem mul64_any (x y : Nat) (hx : x < 18446744073709551616) (hy : y < 18446744073709551616) (w : World) :
    Calls Tryd.prog 61 #[.int .u64 x, .int .u64 y] w fun e w' => e = .returned (.tuple #[.int .u64 ((x * y / 18446744073709551616 : Nat) : Int), .int .u64 ((x * y % 18446744073709551616 : Nat) : Int)]) ∧ w = w' := by
  obtain ⟨bd, bt, bw, hhi⟩ := Lib.mul64_hi x y hx hy
  have ba := Lib.half_mul_le (a := x / 4294967296) (b := y / 4294967296) (by omega) (by omega)
  have bb := Lib.half_mul_le (a := x / 4294967296) (b := y % 4294967296) (by omega) (by omega)
  have bc := Lib.half_mul_le (a := x % 4294967296) (b := y / 4294967296) (by omega) (by omega)
  have ba' : x / 4294967296 * (y / 4294967296) < 18446744073709551616 := by omega
  have bb' : x / 4294967296 * (y % 4294967296) < 18446744073709551616 := by omega
  have bc' : x % 4294967296 * (y / 4294967296) < 18446744073709551616 := by omega
  have bh1 : x / 4294967296 * (y / 4294967296) + (x / 4294967296 * (y % 4294967296) + x % 4294967296 * (y % 4294967296) / 4294967296) / 4294967296 < 18446744073709551616 := by omega
  have bh : x / 4294967296 * (y / 4294967296) + (x / 4294967296 * (y % 4294967296) + x % 4294967296 * (y % 4294967296) / 4294967296) / 4294967296 + ((x / 4294967296 * (y % 4294967296) + x % 4294967296 * (y % 4294967296) / 4294967296) % 4294967296 + x % 4294967296 * (y / 4294967296)) / 4294967296 < 18446744073709551616 := by omega
  go_enter Tryd.func61, Tryd.ntmps61
  go_wp2
  simp only [maskN x hx, maskN y hy, divN, mulN, addN, wrapN _ bd, wrapN _ bb', wrapN _ bt, maskN _ bt, wrapN _ bc', wrapN _ bw, wrapN _ ba', wrapN _ bh1, wrapN _ bh, wrapM (x * y)]
  rw [hhi]
  go_ret2
  exact ⟨rfl, rfl⟩
end Go.Proofs.YtbffmobjiiicoaaDoor.F1
end
