/- Contracts of the document's functions: Leap, Days, May, Clock, Weekday, Day, Of. -/
import Derived.Test.YtgedcfgmfhlkdaaDoorKNext
set_option linter.unusedVariables false
set_option linter.unusedSimpArgs false
namespace Go.Proofs.YtgedcfgmfhlkdaaDoor
open Go.RowKit Go.Shelf
theorem rleap_any (y : Int) (w : World) :
    Calls Tryd.prog 47 #[.int .i64 y] w fun e w' => e = .returned (.bool (leap y)) ∧ w = w' := by
  have hdv : (y.tmod 400 == 0) = true → (y.tmod 4 == 0) = true := fun h => by
    have h1 : (400 : Int) ∣ y := Int.dvd_of_tmod_eq_zero (by simpa using h)
    have h2 : (4 : Int) ∣ y := by omega
    simpa using Int.tmod_eq_zero_of_dvd h2
  unfold leap
  cases h400 : (y.tmod 400 == 0)
  · clear hdv
    cases h4 : (y.tmod 4 == 0) <;> cases h100 : (y.tmod 100 != 0)
    all_goals
      go_enter Tryd.func47, Tryd.ntmps47
      go_wp2
      go_ret
      exact ⟨rfl, rfl⟩
  · have h4 := hdv h400
    rw [h4]
    clear hdv
    rw [show (true && ((y.tmod 100 != 0) || true)) = true by simp]
    go_enter Tryd.func47, Tryd.ntmps47
    go_wp2
    go_ret
    exact ⟨rfl, rfl⟩
theorem rdays_any (y m : Int) (w : World) :
    Calls Tryd.prog 44 #[.int .i64 y, .int .i64 m] w fun e w' => e = .returned (.int .i64 (dlen y m)) ∧ w = w' := by
  by_cases h1 : 1 ≤ m ∧ m ≤ 12
  · rw [dlen_in h1.1 h1.2]
    unfold lp mlen
    rcases month_cases h1.1 h1.2 with rfl | rfl | rfl | rfl | rfl | rfl | rfl | rfl | rfl | rfl | rfl | rfl
    all_goals cases hl : leap y
    all_goals
      clear h1
      go_enter Tryd.func44, Tryd.ntmps44
      go_wp2_with (go_at_call 47; refine (rleap_any _ _).mono ?_; rintro e w' ⟨rfl, rfl⟩; rw [hl])
      go_ret
      exact ⟨rfl, rfl⟩
  · rw [show dlen y m = 0 by unfold dlen; rw [if_pos (by omega)]]
    have e4 : (m == 4) = false := by simp; omega
    have e6 : (m == 6) = false := by simp; omega
    have e9 : (m == 9) = false := by simp; omega
    have e11 : (m == 11) = false := by simp; omega
    have e2 : (m == 2) = false := by simp; omega
    by_cases h0 : m < 1
    · clear h1
      go_enter Tryd.func44, Tryd.ntmps44
      go_wp2
      go_ret
      exact ⟨rfl, rfl⟩
    · have h12 : 12 < m := by omega
      clear h1
      go_enter Tryd.func44, Tryd.ntmps44
      go_wp2
      go_ret
      exact ⟨rfl, rfl⟩
theorem rmay_any (y m d : Int) (w : World) :
    Calls Tryd.prog 32 #[.int .i64 y, .int .i64 m, .int .i64 d] w fun e w' => e = .returned (.bool (decide (May y m d))) ∧ w = w' := by
  have hc := rdays_any y m
  have hd : decide (May y m d) = (decide (1970 ≤ y) && (decide (y ≤ 9999) && (decide (1 ≤ m) && (decide (m ≤ 12) && (decide (1 ≤ d) && decide (d ≤ dlen y m)))))) := by
    rw [Bool.eq_iff_iff, decide_eq_true_iff]; simp [May]
  rw [hd]
  obtain ⟨L, hL⟩ : ∃ L, L = dlen y m := ⟨_, rfl⟩
  rw [← hL] at hc ⊢
  have HC := Lib.hid hc
  clear hc hd hL
  cases h1 : decide (1970 ≤ y)
  · go_enter Tryd.func32, Tryd.ntmps32
    go_wp2_with (go_at_call 44; refine (HC.out _).mono ?_; rintro e w' ⟨rfl, rfl⟩)
    go_ret
    exact ⟨rfl, rfl⟩
  · cases h2 : decide (y ≤ 9999)
    · go_enter Tryd.func32, Tryd.ntmps32
      go_wp2_with (go_at_call 44; refine (HC.out _).mono ?_; rintro e w' ⟨rfl, rfl⟩)
      go_ret
      exact ⟨rfl, rfl⟩
    · cases h3 : decide (1 ≤ m)
      · go_enter Tryd.func32, Tryd.ntmps32
        go_wp2_with (go_at_call 44; refine (HC.out _).mono ?_; rintro e w' ⟨rfl, rfl⟩)
        go_ret
        exact ⟨rfl, rfl⟩
      · cases h4 : decide (m ≤ 12)
        · go_enter Tryd.func32, Tryd.ntmps32
          go_wp2_with (go_at_call 44; refine (HC.out _).mono ?_; rintro e w' ⟨rfl, rfl⟩)
          go_ret
          exact ⟨rfl, rfl⟩
        · cases h5 : decide (1 ≤ d)
          · go_enter Tryd.func32, Tryd.ntmps32
            go_wp2_with (go_at_call 44; refine (HC.out _).mono ?_; rintro e w' ⟨rfl, rfl⟩)
            go_ret
            exact ⟨rfl, rfl⟩
          · cases h6 : decide (d ≤ L)
            · go_enter Tryd.func32, Tryd.ntmps32
              go_wp2_with (go_at_call 44; refine (HC.out _).mono ?_; rintro e w' ⟨rfl, rfl⟩)
              go_ret
              exact ⟨rfl, rfl⟩
            · go_enter Tryd.func32, Tryd.ntmps32
              go_wp2_with (go_at_call 44; refine (HC.out _).mono ?_; rintro e w' ⟨rfl, rfl⟩)
              go_ret
              exact ⟨rfl, rfl⟩
theorem rweekday_any (n : Int) (w : World) :
    Calls Tryd.prog 42 #[.int .i64 n] w fun e w' => e = .returned (.int .i64 (wkB n)) ∧ w = w' := by
  unfold wkB
  by_cases h : 0 ≤ n ∧ n ≤ 2932896
  · rw [if_pos h]
    obtain ⟨h0, h1⟩ := h
    go_enter Tryd.func42, Tryd.ntmps42
    go_wp2
    go_loopw [3, 4] (fun k i wr => ∃ j : Nat, (j : Int) ≤ n % 7 ∧ i = .int .i64 j ∧ k = .int .i64 ((3 + (j : Int)) % 7 + 1) ∧ w = wr) (fun _ i _ => 7 - (intOf i).toNat)
    case atStart => exact ⟨0, by omega, rfl, rfl, rfl⟩
    case round =>
      obtain ⟨j, hj, rfl, rfl, rfl⟩ := hrel
      have hj6 : (j : Int) ≤ 6 := by omega
      by_cases hlt : (j : Int) < n % 7
      · have g1 : decide ((j : Int) < n % 7) = true := decide_eq_true hlt
        by_cases h8 : (3 + (j : Int)) % 7 + 1 + 1 = 8
        · have g2 : ((3 + (j : Int)) % 7 + 1 + 1 == 8) = true := by simp [h8]
          go_wp2
          go_roundw
          case rel => exact ⟨j + 1, by omega, by go_num, congrArg (Value.int .i64) (by rw [Int.natCast_add]; omega), trivial⟩
          case measure => simp [intOf]; omega
        · have g2 : ((3 + (j : Int)) % 7 + 1 + 1 == 8) = false := by simp [h8]
          go_wp2
          go_roundw
          case rel => exact ⟨j + 1, by omega, by go_num, congrArg (Value.int .i64) (by rw [Int.natCast_add]; omega), trivial⟩
          case measure => simp [intOf]; omega
      · have g1 : decide ((j : Int) < n % 7) = false := decide_eq_false hlt
        have he : (j : Int) = n % 7 := by omega
        have hw : (3 + (j : Int)) % 7 + 1 = wkday n := by unfold wkday; omega
        go_wp2
        go_ret
        exact ⟨congrArg Ending.returned (congrArg (Value.int .i64) (by unfold wkday; omega)), rfl⟩
  · rw [if_neg h]
    by_cases h0 : n < 0
    · clear h
      go_enter Tryd.func42, Tryd.ntmps42
      go_wp2
      go_ret
      exact ⟨rfl, rfl⟩
    · have h1 : 2932896 < n := by omega
      clear h
      go_enter Tryd.func42, Tryd.ntmps42
      go_wp2
      go_ret
      exact ⟨rfl, rfl⟩
end Go.Proofs.YtgedcfgmfhlkdaaDoor
