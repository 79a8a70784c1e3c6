/- The document's Same and Share of plans. -/
import Derived.Test.YtmbimnphdhmapaaBRef1
set_option linter.unusedVariables false
set_option linter.unusedSimpArgs false
namespace Go.Proofs.Ytmbimnphdhmapaa
open Go.RowKit Go.Shelf
set_option maxRecDepth 100000 in
set_option maxHeartbeats 4000000 in
theorem rSameP_no (a : Option Addr) (len cap : Nat) (L : Nat → Sw) (a2 : Option Addr) (len2 cap2 : Nat) (M : Nat → Sw) (hno : ¬ (PlanIs L len ∧ PlanIs M len2)) (w : World) (hA : SwsAt w.heap.size w a len L) (hM : SwsAt w.heap.size w a2 len2 M) (hlm : len ≤ maxLen) (hlm2 : len2 ≤ maxLen) :
    Calls Try.prog 18 #[.slice a len cap, .slice a2 len2 cap2] w fun e w' => e = .returned (.bool false) ∧ Below w.heap.size w w' := by
  have HC := Lib.hid (rMayP_any a len cap L w hA hlm)
  have HM := Lib.hid hM
  clear hA hM hlm
  by_cases h1 : PlanIs L len
  · rw [decide_eq_true h1] at HC
    have HP2 := Lib.hid (decide_eq_false (fun h => hno ⟨h1, h⟩) : decide (PlanIs M len2) = false)
    clear hno h1
    go_enter Try.func18, Try.ntmps18
    go_wp2_with fail
    refine HC.out.mono ?_
    rintro e w1 ⟨rfl, hB⟩
    have HB1 := Lib.hid hB
    clear HC hB
    have HC := Lib.hid (rMayP_any a2 len2 cap2 M w1 ((HM.out.next HB1.out (Nat.le_refl _) (Nat.le_refl _)).mono HB1.out.size) hlm2)
    rw [HP2.out] at HC
    go_wp2_with fail
    refine HC.out.mono ?_
    rintro e w2 ⟨rfl, hB⟩
    have HB2 := Lib.hid (HB1.out.trans (hB.mono HB1.out.size))
    clear HC hB HB1
    go_wp2
    go_ret
    exact ⟨rfl, HB2.out⟩
  · rw [decide_eq_false h1] at HC
    obtain ⟨p2, hp2⟩ : ∃ p, decide (PlanIs M len2) = p := ⟨_, rfl⟩
    have HP2 := Lib.hid hp2
    clear hno h1 hp2
    go_enter Try.func18, Try.ntmps18
    go_wp2_with fail
    refine HC.out.mono ?_
    rintro e w1 ⟨rfl, hB⟩
    have HB1 := Lib.hid hB
    clear HC hB
    have HC := Lib.hid (rMayP_any a2 len2 cap2 M w1 ((HM.out.next HB1.out (Nat.le_refl _) (Nat.le_refl _)).mono HB1.out.size) hlm2)
    rw [HP2.out] at HC
    go_wp2_with fail
    refine HC.out.mono ?_
    rintro e w2 ⟨rfl, hB⟩
    have HB2 := Lib.hid (HB1.out.trans (hB.mono HB1.out.size))
    clear HC hB HB1
    go_wp2
    go_ret
    exact ⟨rfl, HB2.out⟩
set_option maxRecDepth 100000 in
set_option maxHeartbeats 4000000 in
theorem rSameP_yes (a : Option Addr) (len cap : Nat) (L : Nat → Sw) (a2 : Option Addr) (len2 cap2 : Nat) (M : Nat → Sw) (hp1 : PlanIs L len) (hp2 : PlanIs M len2) (w : World) (hA : SwsAt w.heap.size w a len L) (hM : SwsAt w.heap.size w a2 len2 M) (hlm : len ≤ maxLen) (hlm2 : len2 ≤ maxLen) :
    Calls Try.prog 18 #[.slice a len cap, .slice a2 len2 cap2] w fun e w' => e = .returned (.bool (decide (SameP L len M len2))) ∧ Below w.heap.size w w' := by
  have HC := Lib.hid (rMayP_any a len cap L w hA hlm)
  rw [decide_eq_true hp1] at HC
  have HA := Lib.hid hA
  have HM := Lib.hid hM
  have HP2 := Lib.hid (decide_eq_true hp2)
  have HQ1 := Lib.hid hp1
  have HQ2 := Lib.hid hp2
  clear hA hM hlm hp1 hp2
  go_enter Try.func18, Try.ntmps18
  go_wp2_with fail
  refine HC.out.mono ?_
  rintro e w1 ⟨rfl, hB⟩
  have HB1 := Lib.hid hB
  clear HC hB
  have HC := Lib.hid (rMayP_any a2 len2 cap2 M w1 ((HM.out.next HB1.out (Nat.le_refl _) (Nat.le_refl _)).mono HB1.out.size) hlm2)
  rw [HP2.out] at HC
  go_wp2_with fail
  refine HC.out.mono ?_
  rintro e w2 ⟨rfl, hB⟩
  have HB2 := Lib.hid (HB1.out.trans (hB.mono HB1.out.size))
  clear HC hB HB1
  go_wp2
  go_loopw [7] (fun i wr => ∃ n : Nat, i = .int .i64 n ∧ n ≤ 1440 ∧ (∀ j, j < n → bandN L len j = bandN M len2 j) ∧ Below w.heap.size w wr) (fun i _ => (1440 - intOf i).toNat)
  case atStart => exact ⟨0, rfl, Nat.zero_le _, fun j hj => absurd hj (Nat.not_lt_zero _), HB2.out⟩
  case round =>
    obtain ⟨n, rfl, hn, hall, hb⟩ := hrel
    obtain ⟨w3, rfl⟩ : ∃ w3 : World, w3 = wr := ⟨_, rfl⟩
    have HALL := Lib.hid hall
    have HB3 := Lib.hid hb
    clear hall hb HB2
    by_cases hlt : n < 1440
    · have hlti : (n : Int) < 1440 := by omega
      have hin : InDay n := ⟨by omega, by omega⟩
      have HC := Lib.hid (rBandP_yes a len cap L n HQ1.out hin w3 ((HA.out.next HB3.out (Nat.le_refl _) (Nat.le_refl _)).mono HB3.out.size))
      obtain ⟨v1, hv1⟩ : ∃ v, bandN L len n = v := ⟨_, rfl⟩
      obtain ⟨v2, hv2⟩ : ∃ v, bandN M len2 n = v := ⟨_, rfl⟩
      rw [hv1] at HC
      have HV1 := Lib.hid hv1
      have HV2 := Lib.hid hv2
      have HIN := Lib.hid hin
      clear hv1 hv2 hin
      go_wp2_with fail
      refine HC.out.mono ?_
      rintro e w4 ⟨rfl, hB⟩
      have HB4 := Lib.hid (HB3.out.trans (hB.mono HB3.out.size))
      clear HC hB HB3
      have HC := Lib.hid (rBandP_yes a2 len2 cap2 M n HQ2.out HIN.out w4 ((HM.out.next HB4.out (Nat.le_refl _) (Nat.le_refl _)).mono HB4.out.size))
      rw [HV2.out] at HC
      by_cases hv : v1 = v2
      · have q : (v1 != v2) = false := by simp [hv]
        have HV := Lib.hid hv
        clear hv
        go_wp2_with fail
        refine HC.out.mono ?_
        rintro e w5 ⟨rfl, hB⟩
        have HB5 := Lib.hid (HB4.out.trans (hB.mono HB4.out.size))
        clear HC hB HB4
        go_wp2
        go_roundw
        case rel => exact ⟨n + 1, by go_num, by omega, fun j hj => by
            rcases Nat.lt_succ_iff_lt_or_eq.1 hj with h | h
            · exact HALL.out j h
            · rw [h, HV1.out, HV2.out, HV.out], HB5.out⟩
        case measure => first | (simp [intOf]; done) | (simp [intOf]; omega)
      · have q : (v1 != v2) = true := by simp [hv]
        have HNO := Lib.hid (show decide (SameP L len M len2) = false from decide_eq_false (fun h => hv (by rw [← HV1.out, ← HV2.out]; exact h.2.2 n hlt)))
        clear hv
        go_wp2_with fail
        refine HC.out.mono ?_
        rintro e w5 ⟨rfl, hB⟩
        have HB5 := Lib.hid (HB4.out.trans (hB.mono HB4.out.size))
        clear HC hB HB4
        go_wp2
        go_ret
        rw [HNO.out]
        exact ⟨rfl, HB5.out⟩
    · have e : n = 1440 := by omega
      subst e
      have HYES := Lib.hid (show decide (SameP L len M len2) = true from decide_eq_true ⟨HQ1.out, HQ2.out, HALL.out⟩)
      go_wp2
      go_ret
      rw [HYES.out]
      exact ⟨rfl, HB3.out⟩
theorem rSameP_any (a : Option Addr) (len cap : Nat) (L : Nat → Sw) (a2 : Option Addr) (len2 cap2 : Nat) (M : Nat → Sw) (w : World) (hA : SwsAt w.heap.size w a len L) (hM : SwsAt w.heap.size w a2 len2 M) (hlm : len ≤ maxLen) (hlm2 : len2 ≤ maxLen) :
    Calls Try.prog 18 #[.slice a len cap, .slice a2 len2 cap2] w fun e w' => e = .returned (.bool (decide (SameP L len M len2))) ∧ Below w.heap.size w w' := by
  by_cases h1 : PlanIs L len ∧ PlanIs M len2
  · exact rSameP_yes a len cap L a2 len2 cap2 M h1.1 h1.2 w hA hM hlm hlm2
  · rw [decide_eq_false (fun h => h1 ⟨h.1, h.2.1⟩)]
    exact rSameP_no a len cap L a2 len2 cap2 M h1 w hA hM hlm hlm2
end Go.Proofs.Ytmbimnphdhmapaa
