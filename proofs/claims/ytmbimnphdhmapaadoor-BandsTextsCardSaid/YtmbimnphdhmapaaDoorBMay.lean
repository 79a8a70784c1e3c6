/- The document's May of plans. -/
import Derived.Test.YtmbimnphdhmapaaDoorBMath
import Derived.WalkLawsBesides
import Derived.LoopTactic
import Derived.Laws.Rows
import Derived.Laws.Tables
import Derived.Deep.QuietTactic
import Derived.BigQuiet
import Derived.WalkSmall
set_option linter.unusedVariables false
set_option linter.unusedSimpArgs false
namespace Go.Proofs.YtmbimnphdhmapaaDoor
open Go.RowKit Go.Shelf
theorem below_drewN {B : Nat} {w X : World} (h : Below B w X) (n : Nat) : Below B w (X.drewN n) := ⟨h.os, h.tape, h.output, h.size, h.block⟩
set_option maxRecDepth 100000 in
set_option maxHeartbeats 4000000 in
theorem rMayP_any (a : Option Addr) (len cap : Nat) (L : Nat → Sw) (w : World) (hA : SwsAt w.heap.size w a len L) (hlm : len ≤ maxLen) :
    Calls Tryd.prog 20 #[.slice a len cap] w fun e w' => e = .returned (.bool (decide (PlanIs L len))) ∧ Below w.heap.size w w' := by
  unfold maxLen at hlm
  by_cases h1 : len < 1
  · rw [decide_eq_false (fun h => by have := h.1; omega)]
    have g1 : (len : Int) < 1 := by omega
    go_enter Tryd.func20, Tryd.ntmps20
    go_wp2
    go_ret
    exact ⟨rfl, Below.refl _ _⟩
  by_cases h2 : 48 < len
  · rw [decide_eq_false (fun h => by have := h.2.1; omega)]
    have g1 : ¬ (len : Int) < 1 := by omega
    have g2 : (48 : Int) < len := by omega
    go_enter Tryd.func20, Tryd.ntmps20
    go_wp2
    go_ret
    exact ⟨rfl, Below.refl _ _⟩
  have g1 : ¬ (len : Int) < 1 := by omega
  have g2 : ¬ (48 : Int) < len := by omega
  have g3 : (0 : Int) < len := by omega
  obtain ⟨b, o, rfl, hc⟩ := hA.base (by omega)
  have hc0 := (hc 0 (by omega)).1
  rw [Nat.zero_mul, Nat.add_zero] at hc0
  obtain ⟨z, hz⟩ : ∃ z, (L 0).m = z := ⟨_, rfl⟩
  rw [hz] at hc0
  have HA := Lib.hid hA
  have HZ := Lib.hid hz
  clear hA hc hz
  by_cases h3 : z = 0
  · subst h3
    go_enter Tryd.func20, Tryd.ntmps20
    go_wp2
    go_loopw [3] (fun i wr => ∃ k : Nat, k ≤ len ∧ i = .int .i64 k ∧ (∀ j, j < k → SwOk L j) ∧ Below w.heap.size w wr) (fun i _ => (len - intOf i).toNat)
    case atStart => exact ⟨0, Nat.zero_le _, rfl, fun j hj => absurd hj (Nat.not_lt_zero _), Below.refl _ _⟩
    case round =>
      obtain ⟨k, hk, rfl, hall, hb⟩ := hrel
      have HALL := Lib.hid hall
      have HB := Lib.hid hb
      clear hall hb hc0
      by_cases hlt : k < len
      · have hlti : (k : Int) < len := by omega
        obtain ⟨b', o', e, hcr⟩ := (HA.out.next HB.out (Nat.le_refl _) (Nat.le_refl _)).base (by omega)
        cases e
        obtain ⟨c0, c1⟩ := hcr k hlt
        obtain ⟨m, hm⟩ : ∃ z, (L k).m = z := ⟨_, rfl⟩
        obtain ⟨bb, hbb⟩ : ∃ z, (L k).b = z := ⟨_, rfl⟩
        rw [hm] at c0
        rw [hbb] at c1
        have HM := Lib.hid hm
        have HBB := Lib.hid hbb
        have HCR := Lib.hid hcr
        clear hm hbb hcr
        by_cases n1 : bb < 0
        · have HNO := Lib.hid (show decide (PlanIs L len) = false from decide_eq_false (fun q => by have := (q.2.2.2 k hlt).1; rw [HBB.out] at this; omega))
          go_wp2
          go_ret
          rw [HNO.out]
          exact ⟨rfl, HB.out⟩
        · by_cases n2 : 7 < bb
          · have HNO := Lib.hid (show decide (PlanIs L len) = false from decide_eq_false (fun q => by have := (q.2.2.2 k hlt).2.1; rw [HBB.out] at this; omega))
            go_wp2
            go_ret
            rw [HNO.out]
            exact ⟨rfl, HB.out⟩
          · by_cases n3 : 1440 ≤ m
            · have HNO := Lib.hid (show decide (PlanIs L len) = false from decide_eq_false (fun q => by have := (q.2.2.2 k hlt).2.2.1; rw [HM.out] at this; omega))
              go_wp2
              go_ret
              rw [HNO.out]
              exact ⟨rfl, HB.out⟩
            · by_cases hz0 : k = 0
              · have HK0 := Lib.hid hz0
                have hkn : decide ((0 : Int) < k) = false := decide_eq_false (by omega)
                have hkn2 : decide (0 < k) = false := decide_eq_false (by omega)
                have HOK := Lib.hid (show SwOk L k from ⟨by rw [HBB.out]; omega, by rw [HBB.out]; omega, by rw [HM.out]; omega, fun h => by omega⟩)
                clear hz0
                go_wp2_with fail
                go_quiet (fail)
                go_wp2
                go_roundw
                case rel => exact ⟨k + 1, by omega, by go_num, fun q hq => by rcases Nat.lt_succ_iff_lt_or_eq.1 hq with h' | h'; exact HALL.out q h'; rw [h']; exact HOK.out, below_drewN HB.out _⟩
                case measure => first | (simp [intOf]; done) | (simp [intOf]; omega)
              · obtain ⟨j, hjk⟩ : ∃ j, k = j + 1 := ⟨k - 1, by omega⟩
                have hkp : decide ((0 : Int) < k) = true := decide_eq_true (by omega)
                have hkp2 : decide (0 < k) = true := decide_eq_true (by omega)
                have hkq : (0 : Int) < k := by omega
                have hki : (k : Int) - 1 = j := by omega
                have hjl : j < len := by omega
                have hjli : (j : Int) < len := by omega
                obtain ⟨d0, d1⟩ := HCR.out j hjl
                obtain ⟨pm, hpm⟩ : ∃ z, (L j).m = z := ⟨_, rfl⟩
                rw [hpm] at d0
                have HPM := Lib.hid hpm
                have HJK := Lib.hid hjk
                clear hpm hjk hz0
                by_cases n4 : pm < m
                · have n5 : ¬ m ≤ pm := by omega
                  have HOK := Lib.hid (show SwOk L k from ⟨by rw [HBB.out]; omega, by rw [HBB.out]; omega, by rw [HM.out]; omega, fun h => by rw [show k - 1 = j by have := HJK.out; omega, HPM.out, HM.out]; exact n4⟩)
                  go_wp2_with fail
                  go_quiet (fail)
                  go_wp2
                  go_roundw
                  case rel => exact ⟨k + 1, by omega, by go_num, fun q hq => by rcases Nat.lt_succ_iff_lt_or_eq.1 hq with h' | h'; exact HALL.out q h'; rw [h']; exact HOK.out, below_drewN HB.out _⟩
                  case measure => first | (simp [intOf]; done) | (simp [intOf]; omega)
                · have n5 : m ≤ pm := by omega
                  have HNO := Lib.hid (show decide (PlanIs L len) = false from decide_eq_false (fun q => by have := (q.2.2.2 k hlt).2.2.2 (by omega); rw [show k - 1 = j by have := HJK.out; omega, HPM.out, HM.out] at this; omega))
                  go_wp2_with fail
                  go_quiet (fail)
                  go_wp2
                  go_ret
                  rw [HNO.out]
                  exact ⟨rfl, below_drewN HB.out _⟩
      · have hke : k = len := by omega
        subst hke
        have HYES := Lib.hid (show decide (PlanIs L k) = true from decide_eq_true ⟨by omega, by omega, HZ.out, HALL.out⟩)
        go_wp2
        go_ret
        rw [HYES.out]
        exact ⟨rfl, HB.out⟩
  · have g4 : (z != 0) = true := by simp [h3]
    have HNO := Lib.hid (show decide (PlanIs L len) = false from decide_eq_false (fun q => h3 (by rw [← HZ.out]; exact q.2.2.1)))
    clear h3
    go_enter Tryd.func20, Tryd.ntmps20
    go_wp2
    go_ret
    rw [HNO.out]
    exact ⟨rfl, Below.refl _ _⟩
end Go.Proofs.YtmbimnphdhmapaaDoor
