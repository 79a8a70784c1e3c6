/- Contracts: yearOf, Check. -/
import Derived.Test.YtgedcfgmfhlkdaaDoorKLeaf
set_option linter.unusedVariables false
set_option linter.unusedSimpArgs false
namespace Go.Proofs.YtgedcfgmfhlkdaaDoor
open Go.RowKit
theorem below_drewN {B : Nat} {w X : World} (h : Below B w X) (n : Nat) : Below B w (X.drewN n) := ⟨h.os, h.tape, h.output, h.size, h.block⟩
theorem yearOf_any (n : Int) (h0 : 0 ≤ n) (h1 : n ≤ 2932896) (w : World) :
    Calls Tryd.prog 68 #[.int .i64 n] w fun e w' => (∃ y, 1970 ≤ y ∧ y ≤ 9999 ∧ ahead y ≤ n ∧ n < ahead (y + 1) ∧ e = .returned (.int .i64 y)) ∧ w = w' := by
  have hy := year_start h0 h1
  go_enter Tryd.func68, Tryd.ntmps68
  go_wp2
  go_loopw [3] (fun v wr => ∃ y : Int, v = .int .i64 y ∧ 1970 ≤ y ∧ ahead y ≤ n ∧ w = wr) (fun v _ => (10000 - intOf v).toNat)
  case atStart => exact ⟨1970 + n / 366, rfl, by omega, hy, rfl⟩
  case round =>
    obtain ⟨y, rfl, hy0, hya, rfl⟩ := hrel
    have hy9 := year_end hya h1
    have hc := daysAhead_any (y + 1) (by omega) (by omega)
    by_cases hlt : ahead (y + 1) ≤ n
    · have hy9' := year_end hlt h1
      obtain ⟨L, hL⟩ : ∃ L, L = ahead (y + 1) := ⟨_, rfl⟩
      rw [← hL] at hc hlt
      have HL := Lib.hid hL
      have HC := Lib.hid hc
      clear hL hc hya hy
      go_wp2_with (go_at_call 50; refine (HC.out _).mono ?_; rintro e w' ⟨rfl, rfl⟩)
      go_roundw
      case rel => exact ⟨y + 1, rfl, by omega, by rw [← HL.out]; exact hlt, trivial⟩
      all_goals (simp only [intOf]; omega)
    · obtain ⟨L, hL⟩ : ∃ L, L = ahead (y + 1) := ⟨_, rfl⟩
      rw [← hL] at hc hlt
      have HL := Lib.hid hL
      have HC := Lib.hid hc
      clear hL hc
      go_wp2_with (go_at_call 50; refine (HC.out _).mono ?_; rintro e w' ⟨rfl, rfl⟩)
      go_ret
      exact ⟨⟨y, hy0, hy9, hya, by rw [← HL.out]; omega, rfl⟩, rfl⟩
/-- Whether a date may be: 0, or the error. -/
def mayE (y m d : Int) : Int := if May y m d then 0 else 60
theorem may_iff {y m d : Int} : May y m d ↔ 1970 ≤ y ∧ y ≤ 9999 ∧ 1 ≤ d ∧ d ≤ dlen y m := by
  unfold May
  constructor
  · rintro ⟨h1, h2, h3, h4, h5, h6⟩; exact ⟨h1, h2, h5, h6⟩
  · rintro ⟨h1, h2, h5, h6⟩
    have : 1 ≤ m ∧ m ≤ 12 := by
      by_cases h : m < 1 ∨ 12 < m
      · unfold dlen at h6; rw [if_pos h] at h6; omega
      · omega
    exact ⟨h1, h2, this.1, this.2, h5, h6⟩
theorem mayE_no {y m d : Int} (h : ¬ May y m d) : mayE y m d = 60 := by unfold mayE; rw [if_neg h]
theorem mayE_yes {y m d : Int} (h : May y m d) : mayE y m d = 0 := by unfold mayE; rw [if_pos h]
theorem check_any (y m d : Int) (w : World) (hT : Tabs w) :
    Calls Tryd.prog 49 #[.agg #[.int .i64 y, .int .i64 m, .int .i64 d]] w fun e w' => e = .returned (.int .i64 (mayE y m d)) ∧ Below w.heap.size w w' := by
  by_cases hy0 : y < 1970
  · rw [mayE_no (by rw [may_iff]; omega)]
    go_enter Tryd.func49, Tryd.ntmps49
    go_wp2
    go_ret
    exact ⟨rfl, (Below.refl _ w).alloc (Nat.le_refl _) _⟩
  by_cases hy1 : 9999 < y
  · rw [mayE_no (by rw [may_iff]; omega)]
    go_enter Tryd.func49, Tryd.ntmps49
    go_wp2
    go_ret
    exact ⟨rfl, (Below.refl _ w).alloc (Nat.le_refl _) _⟩
  by_cases hd0 : d < 1
  · rw [mayE_no (by rw [may_iff]; omega)]
    go_enter Tryd.func49, Tryd.ntmps49
    go_wp2
    go_quiet (fail)
    go_wp2
    go_ret
    exact ⟨rfl, below_drewN ((Below.refl _ w).alloc (Nat.le_refl _) _) _⟩
  have hc := fun n => days_any y m _ ((hT.alloc (.cells #[.int .i64 y, .int .i64 m, .int .i64 d] 39)).drewN n)
  have hg : decide (d < 1) = false := decide_eq_false hd0
  by_cases hd1 : dlen y m < d
  · rw [mayE_no (by rw [may_iff]; omega)]
    obtain ⟨L, hL⟩ : ∃ L, L = dlen y m := ⟨_, rfl⟩
    rw [← hL] at hc hd1
    have HC := Lib.hid hc
    clear hc hL
    go_enter Tryd.func49, Tryd.ntmps49
    go_wp2
    go_quiet ((go_at_call 65; exact Calls.quiet_of_same ((HC.out _).mono fun _ _ h => ⟨h.1, h.2.symm⟩)))
    go_wp2
    go_ret
    exact ⟨rfl, below_drewN ((Below.refl _ w).alloc (Nat.le_refl _) _) _⟩
  · rw [mayE_yes (by rw [may_iff]; omega)]
    obtain ⟨L, hL⟩ : ∃ L, L = dlen y m := ⟨_, rfl⟩
    rw [← hL] at hc hd1
    have HC := Lib.hid hc
    clear hc hL
    go_enter Tryd.func49, Tryd.ntmps49
    go_wp2
    go_quiet ((go_at_call 65; exact Calls.quiet_of_same ((HC.out _).mono fun _ _ h => ⟨h.1, h.2.symm⟩)))
    go_wp2
    go_ret
    exact ⟨rfl, below_drewN ((Below.refl _ w).alloc (Nat.le_refl _) _) _⟩
end Go.Proofs.YtgedcfgmfhlkdaaDoor
