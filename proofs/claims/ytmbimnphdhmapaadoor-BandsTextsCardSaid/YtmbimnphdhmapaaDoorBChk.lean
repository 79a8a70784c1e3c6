/- The program's CheckPlan. -/
import Derived.Test.YtmbimnphdhmapaaDoorBStr
import Derived.WalkLawsBesides
import Derived.LoopTactic
import Derived.Laws.Rows
import Derived.Laws.Tables
import Derived.Deep.QuietTactic
import Derived.BigQuiet
import Derived.WalkSmall
set_option linter.unusedVariables false
set_option linter.unusedSimpArgs false
namespace Go.Proofs.YtmbimnphdhmapaaDoor
open Go.RowKit Go.Shelf
theorem isFrom_any (n a b : Int) (w : World) : Calls Tryd.prog 24 #[.int .i64 n, .int .i64 a, .int .i64 b] w fun e w' => e = .returned (.bool (decide (a ≤ n ∧ n ≤ b))) ∧ w = w' := by
  by_cases h1 : a ≤ n
  · by_cases h2 : n ≤ b
    · rw [decide_eq_true ⟨h1, h2⟩]
      go_enter Tryd.func24, Tryd.ntmps24
      go_wp2
      go_ret
      exact ⟨rfl, rfl⟩
    · rw [decide_eq_false (fun h => h2 h.2)]
      go_enter Tryd.func24, Tryd.ntmps24
      go_wp2
      go_ret
      exact ⟨rfl, rfl⟩
  · rw [decide_eq_false (fun h => h1 h.1)]
    go_enter Tryd.func24, Tryd.ntmps24
    go_wp2
    go_ret
    exact ⟨rfl, rfl⟩
theorem isFrom_yes {n a b : Int} (h : a ≤ n ∧ n ≤ b) (w : World) : Calls Tryd.prog 24 #[.int .i64 n, .int .i64 a, .int .i64 b] w fun e w' => e = .returned (.bool true) ∧ w = w' := by
  have := isFrom_any n a b w
  rwa [decide_eq_true h] at this
theorem isFrom_no {n a b : Int} (h : ¬ (a ≤ n ∧ n ≤ b)) (w : World) : Calls Tryd.prog 24 #[.int .i64 n, .int .i64 a, .int .i64 b] w fun e w' => e = .returned (.bool false) ∧ w = w' := by
  have := isFrom_any n a b w
  rwa [decide_eq_false h] at this
def pErr (L : Nat → Sw) (len : Nat) : Int := if PlanIs L len then 0 else 90
theorem pErr_yes {L : Nat → Sw} {len : Nat} (h : PlanIs L len) : pErr L len = 0 := if_pos h
theorem pErr_no {L : Nat → Sw} {len : Nat} (h : ¬ PlanIs L len) : pErr L len = 90 := if_neg h
/-- The minute of the switch ahead of the k-th one. -/
def lastM (L : Nat → Sw) (k : Nat) : Int := if k = 0 then -1 else (L (k - 1)).m
theorem lastM_succ (L : Nat → Sw) (k : Nat) : lastM L (k + 1) = (L k).m := by simp [lastM]
set_option maxRecDepth 100000 in
set_option maxHeartbeats 4000000 in
theorem checkPlan_any (a : Option Addr) (len cap : Nat) (L : Nat → Sw) (w : World) (hA : SwsAt w.heap.size w a len L) (hlm : len ≤ maxLen) :
    Calls Tryd.prog 17 #[.slice a len cap] w fun e w' => e = .returned (.int .i64 (pErr L len)) ∧ Below w.heap.size w w' := by
  unfold maxLen at hlm
  by_cases h1 : 1 ≤ len ∧ len ≤ 48
  · have HF := Lib.hid (isFrom_yes (n := (len : Int)) (a := 1) (b := 48) (by omega) w)
    have h10 := h1.1
    have h11 := h1.2
    have g3 : (0 : Int) < len := by omega
    obtain ⟨b, o, rfl, hc⟩ := hA.base (by omega)
    have hc0 := (hc 0 (by omega)).1
    rw [Nat.zero_mul, Nat.add_zero] at hc0
    obtain ⟨z, hz⟩ : ∃ z, (L 0).m = z := ⟨_, rfl⟩
    rw [hz] at hc0
    have HA := Lib.hid hA
    have HZ := Lib.hid hz
    clear hA hc hz h1
    by_cases h3 : z = 0
    · subst h3
      go_enter Tryd.func17, Tryd.ntmps17
      go_wp2_with (go_at_call 24; refine HF.out.mono ?_; rintro e w' ⟨rfl, rfl⟩)
      go_loopw [3, 19] (fun q i wr => ∃ k : Nat, k ≤ len ∧ i = .int .i64 k ∧ q = .int .i64 (lastM L k) ∧ (-1 ≤ lastM L k ∧ lastM L k ≤ 1439) ∧ (∀ j, j < k → SwOk L j) ∧ Below w.heap.size w wr) (fun _ i _ => (len - intOf i).toNat)
      case atStart => exact ⟨0, Nat.zero_le _, rfl, rfl, by simp [lastM], fun j hj => absurd hj (Nat.not_lt_zero _), Below.refl _ _⟩
      case round =>
        obtain ⟨k, hk, rfl, rfl, ⟨hl0, hl1⟩, hall, hb⟩ := hrel
        have HALL := Lib.hid hall
        have HB := Lib.hid hb
        clear hall hb hc0 HF
        by_cases hlt : k < len
        · have hlti : (k : Int) < len := by omega
          obtain ⟨b', o', e, hcr⟩ := (HA.out.next HB.out (Nat.le_refl _) (Nat.le_refl _)).base (by omega)
          cases e
          obtain ⟨c0, c1⟩ := hcr k hlt
          obtain ⟨m, hm⟩ : ∃ z, (L k).m = z := ⟨_, rfl⟩
          obtain ⟨bb, hbb⟩ : ∃ z, (L k).b = z := ⟨_, rfl⟩
          obtain ⟨q, hq⟩ : ∃ z, lastM L k = z := ⟨_, rfl⟩
          rw [hm] at c0
          rw [hbb] at c1
          rw [hq] at hl0 hl1 ⊢
          have hok : (q + 1 ≤ m ∧ m ≤ 1439) → (0 ≤ bb ∧ bb ≤ 7) → SwOk L k := fun u v => ⟨by rw [hbb]; omega, by rw [hbb]; omega, by rw [hm]; omega, fun h => by
            have e : lastM L k = (L (k - 1)).m := by unfold lastM; rw [if_neg (by omega)]
            rw [← e, hq, hm]; omega⟩
          have hno : SwOk L k → (q + 1 ≤ m ∧ m ≤ 1439) ∧ (0 ≤ bb ∧ bb ≤ 7) := fun u => by
            have u0 := u.1
            have u1 := u.2.1
            have u2 := u.2.2.1
            have u3 := u.2.2.2
            rw [hbb] at u0 u1
            rw [hm] at u2 u3
            refine ⟨⟨?_, by omega⟩, by omega⟩
            rw [← hq]
            unfold lastM
            by_cases hk0 : k = 0
            · have hz := HZ.out
              rw [hk0] at hm
              rw [if_pos hk0]
              omega
            · rw [if_neg hk0]
              have := u3 (by omega)
              omega
          have HOK := Lib.hid hok
          have HNO := Lib.hid hno
          have HM := Lib.hid hm
          clear hm hbb hcr hq hok hno
          have HB1 := Lib.hid (HB.out.alloc HB.out.size (.cells #[.int .i64 m, .int .i64 bb] 39))
          by_cases n1 : q + 1 ≤ m ∧ m ≤ 1439
          · have HF1 := Lib.hid (fun W : World => isFrom_yes n1 W)
            have n10 := n1.1
            have n11 := n1.2
            by_cases n2 : 0 ≤ bb ∧ bb ≤ 7
            · have HF2 := Lib.hid (fun W : World => isFrom_yes n2 W)
              have HSW := Lib.hid (HOK.out n1 n2)
              clear n1 n2
              go_wp2_with (go_at_call 24; refine (HF1.out _).mono ?_; rintro e w' ⟨rfl, rfl⟩; clear HF1)
              go_wp2_with (go_at_call 24; refine (HF2.out _).mono ?_; rintro e w' ⟨rfl, rfl⟩; clear HF2)
              go_roundw
              case rel =>
                refine ⟨k + 1, by omega, by go_num, ?_, ?_, fun j hj => by rcases Nat.lt_succ_iff_lt_or_eq.1 hj with h' | h'; exact HALL.out j h'; rw [h']; exact HSW.out, HB1.out⟩
                · rw [lastM_succ, HM.out]
                · rw [lastM_succ, HM.out]; omega
              case measure => first | (simp [intOf]; done) | (simp [intOf]; omega)
            · have HF2 := Lib.hid (fun W : World => isFrom_no n2 W)
              have HER := Lib.hid (pErr_no (L := L) (len := len) (fun h => n2 (HNO.out (h.2.2.2 k hlt)).2))
              clear n1 n2
              go_wp2_with (go_at_call 24; refine (HF1.out _).mono ?_; rintro e w' ⟨rfl, rfl⟩; clear HF1)
              go_wp2_with (go_at_call 24; refine (HF2.out _).mono ?_; rintro e w' ⟨rfl, rfl⟩; clear HF2)
              go_ret
              rw [HER.out]
              exact ⟨rfl, HB1.out⟩
          · have HF1 := Lib.hid (fun W : World => isFrom_no n1 W)
            have HER := Lib.hid (pErr_no (L := L) (len := len) (fun h => n1 (HNO.out (h.2.2.2 k hlt)).1))
            clear n1
            go_wp2_with (go_at_call 24; refine (HF1.out _).mono ?_; rintro e w' ⟨rfl, rfl⟩; clear HF1)
            go_ret
            rw [HER.out]
            exact ⟨rfl, HB1.out⟩
        · have hke : k = len := by omega
          subst hke
          have HYES := Lib.hid (pErr_yes (L := L) (len := k) ⟨by omega, by omega, HZ.out, HALL.out⟩)
          go_wp2
          go_ret
          rw [HYES.out]
          exact ⟨rfl, HB.out⟩
    · have g4 : (z != 0) = true := by simp [h3]
      have HNO := Lib.hid (pErr_no (L := L) (len := len) (fun q => h3 (by rw [← HZ.out]; exact q.2.2.1)))
      clear h3
      go_enter Tryd.func17, Tryd.ntmps17
      go_wp2_with (go_at_call 24; refine HF.out.mono ?_; rintro e w' ⟨rfl, rfl⟩)
      go_ret
      rw [HNO.out]
      exact ⟨rfl, Below.refl _ _⟩
  · have HF := Lib.hid (isFrom_no (n := (len : Int)) (a := 1) (b := 48) (by omega) w)
    have HNO := Lib.hid (pErr_no (L := L) (len := len) (fun h => h1 ⟨h.1, h.2.1⟩))
    clear h1 hA
    go_enter Tryd.func17, Tryd.ntmps17
    go_wp2_with (go_at_call 24; refine HF.out.mono ?_; rintro e w' ⟨rfl, rfl⟩)
    go_ret
    rw [HNO.out]
    exact ⟨rfl, Below.refl _ _⟩
end Go.Proofs.YtmbimnphdhmapaaDoor
