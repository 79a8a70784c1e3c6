/- The statement BandsSame, walked. -/
import Derived.Test.YtmbimnphdhmapaaBPlansW
set_option linter.unusedVariables false
set_option linter.unusedSimpArgs false
namespace Go.Proofs.Ytmbimnphdhmapaa
open Go.RowKit Go.Shelf
theorem sameP_symm {L M : Nat → Sw} {len len2 : Nat} : SameP L len M len2 ↔ SameP M len2 L len := ⟨fun h => ⟨h.2.1, h.1, fun n hn => (h.2.2 n hn).symm⟩, fun h => ⟨h.2.1, h.1, fun n hn => (h.2.2 n hn).symm⟩⟩
theorem sameP_shares {L M : Nat → Sw} {len len2 : Nat} (h : SameP L len M len2) : shF L len = shF M len2 := by
  unfold shF
  rw [if_pos h.1, if_pos h.2.1, (strs_same h.1 h.2.1).2 h]
set_option maxRecDepth 100000 in
set_option maxHeartbeats 4000000 in
theorem sameW (a : Option Addr) (len cap : Nat) (L : Nat → Sw) (a2 : Option Addr) (len2 cap2 : Nat) (M : Nat → Sw) (w : World) (hw : (len ≤ cap ∧ cap ≤ maxLen) ∧ SwsAt w.heap.size w a len L) (hw2 : (len2 ≤ cap2 ∧ cap2 ≤ maxLen) ∧ SwsAt w.heap.size w a2 len2 M) :
    Calls Try.prog 7 #[.slice a len cap, .slice a2 len2 cap2] w fun e w' => e = .returned (.bool true) ∧ Below w.heap.size w w' := by
  have hlm : len ≤ maxLen := by omega
  have hlm2 : len2 ≤ maxLen := by omega
  obtain ⟨_, hA⟩ := hw
  obtain ⟨_, hM⟩ := hw2
  have HAL := Lib.hid (alive_any w)
  by_cases h1 : 60 < len
  · have g1 : (60 : Int) < len := by omega
    clear hA hM
    go_enter Try.func7, Try.ntmps7
    go_wp2_with fail
    refine HAL.out.mono ?_
    rintro e w1 ⟨rfl, hB1⟩
    have HB1 := Lib.hid hB1
    clear hB1
    go_wp2
    go_ret
    exact ⟨rfl, HB1.out⟩
  by_cases h2 : 60 < len2
  · have g1 : ¬ (60 : Int) < len := by omega
    have g2 : (60 : Int) < len2 := by omega
    clear hA hM
    go_enter Try.func7, Try.ntmps7
    go_wp2_with fail
    refine HAL.out.mono ?_
    rintro e w1 ⟨rfl, hB1⟩
    have HB1 := Lib.hid hB1
    clear hB1
    go_wp2
    go_ret
    exact ⟨rfl, HB1.out⟩
  have g1 : ¬ (60 : Int) < len := by omega
  have g2 : ¬ (60 : Int) < len2 := by omega
  have HA := Lib.hid (fun (W : World) (hB : Below w.heap.size w W) => (hA.next hB (Nat.le_refl _) (Nat.le_refl _)).mono hB.size)
  have HM := Lib.hid (fun (W : World) (hB : Below w.heap.size w W) => (hM.next hB (Nat.le_refl _) (Nat.le_refl _)).mono hB.size)
  have HC1 := Lib.hid (fun (W : World) (hB : Below w.heap.size w W) => checkPlan_any a len cap L W (HA.out W hB) hlm)
  have HC2 := Lib.hid (fun (W : World) (hB : Below w.heap.size w W) => checkPlan_any a2 len2 cap2 M W (HM.out W hB) hlm2)
  have HS12 := Lib.hid (fun (W : World) (hB : Below w.heap.size w W) => sameP_any a len cap L a2 len2 cap2 M W (HA.out W hB) (HM.out W hB) hlm hlm2)
  have HS21 := Lib.hid (fun (W : World) (hB : Below w.heap.size w W) => sameP_any a2 len2 cap2 M a len cap L W (HM.out W hB) (HA.out W hB) hlm2 hlm)
  have HB1 := Lib.hid (fun (x : Int) (W : World) (hB : Below w.heap.size w W) => band_any a len cap L x W (HA.out W hB) hlm)
  have HB2 := Lib.hid (fun (x : Int) (W : World) (hB : Below w.heap.size w W) => band_any a2 len2 cap2 M x W (HM.out W hB) hlm2)
  have HH1 := Lib.hid (fun (W : World) (hB : Below w.heap.size w W) => share_any a len cap L W (HA.out W hB) hlm)
  have HH2 := Lib.hid (fun (W : World) (hB : Below w.heap.size w W) => share_any a2 len2 cap2 M W (HM.out W hB) hlm2)
  rw [show decide (SameP M len2 L len) = decide (SameP L len M len2) from decide_eq_decide.2 sameP_symm] at HS21
  clear hA hM hlm hlm2 h1 h2 HA HM
  by_cases hp : PlanIs L len ∧ PlanIs M len2
  · rw [pErr_yes hp.1] at HC1
    rw [pErr_yes hp.2] at HC2
    have HP := Lib.hid hp
    clear hp
    go_enter Try.func7, Try.ntmps7
    go_wp2_with fail
    refine HAL.out.mono ?_
    rintro e w1 ⟨rfl, hB1⟩
    have C1 := Lib.hid hB1
    clear hB1
    go_wp2_with fail
    refine (HC1.out _ C1.out).mono ?_
    rintro e w2 ⟨rfl, hB2⟩
    have C2 := Lib.hid (C1.out.trans (hB2.mono C1.out.size))
    clear hB2 C1
    go_wp2_with fail
    refine (HC2.out _ C2.out).mono ?_
    rintro e w3 ⟨rfl, hB3⟩
    have C3 := Lib.hid (C2.out.trans (hB3.mono C2.out.size))
    clear hB3 C2
    go_wp2_with fail
    go_loopw [7] (fun i wr => ∃ k : Nat, k ≤ 1446 ∧ i = .int .i64 k ∧ Below w.heap.size w wr) (fun i _ => (1446 - intOf i).toNat)
    case atStart => exact ⟨0, Nat.zero_le _, rfl, C3.out⟩
    case round =>
      obtain ⟨k, hk, rfl, hb⟩ := hrel
      have D0 := Lib.hid hb
      clear hb C3
      by_cases hlt : k < 1440
      · have hlti : (k : Int) < 1440 := by omega
        have hin1 := (bandE_in (L := L) (len := len) (x := (k : Int)) ⟨HP.out.1, by omega, by omega⟩).1
        have hin2 := (bandE_in (L := M) (len := len2) (x := (k : Int)) ⟨HP.out.2, by omega, by omega⟩).1
        have HI1 := Lib.hid hin1
        have HI2 := Lib.hid hin2
        obtain ⟨u, hu⟩ : ∃ u, bandE L len (k : Int) = u := ⟨_, rfl⟩
        obtain ⟨v, hv⟩ : ∃ v, bandE M len2 (k : Int) = v := ⟨_, rfl⟩
        have c1 := HB1.out (k : Int)
        have c2 := HB2.out (k : Int)
        rw [hu] at c1
        rw [hv] at c2
        have K1 := Lib.hid c1
        have K2 := Lib.hid c2
        have HU := Lib.hid hu
        have HV := Lib.hid hv
        clear c1 c2 hu hv hin1 hin2
        go_wp2_with fail
        refine (K1.out _ D0.out).mono ?_
        rintro e w4 ⟨rfl, hB4⟩
        have D1 := Lib.hid (D0.out.trans (hB4.mono D0.out.size))
        clear hB4 D0
        go_wp2_with fail
        refine (K2.out _ D1.out).mono ?_
        rintro e w5 ⟨rfl, hB5⟩
        have D2 := Lib.hid (D1.out.trans (hB5.mono D1.out.size))
        clear hB5 D1
        by_cases huv : u = v
        · have q : (u != v) = false := by simp [huv]
          clear huv
          go_wp2
          go_roundw
          case rel => exact ⟨k + 7, by omega, by go_num, D2.out⟩
          case measure => first | (simp [intOf]; done) | (simp [intOf]; omega)
        · have q : (u != v) = true := by simp [huv]
          have HNO := Lib.hid (show decide (SameP L len M len2) = false from decide_eq_false (fun h => huv (by
            rw [← HU.out, ← HV.out, HI1.out, HI2.out]
            exact h.2.2 k hlt)))
          clear huv
          rw [HNO.out] at HS12 HS21
          go_wp2_with fail
          refine (HS12.out _ D2.out).mono ?_
          rintro e w6 ⟨rfl, hB6⟩
          have D3 := Lib.hid (D2.out.trans (hB6.mono D2.out.size))
          clear hB6 D2
          go_wp2_with fail
          refine (HS21.out _ D3.out).mono ?_
          rintro e w7 ⟨rfl, hB7⟩
          have D4 := Lib.hid (D3.out.trans (hB7.mono D3.out.size))
          clear hB7 D3
          go_wp2
          go_ret
          exact ⟨rfl, D4.out⟩
      · have hnl : ¬ ((k : Int) < 1440) := by omega
        obtain ⟨q, hq⟩ : ∃ q, decide (SameP L len M len2) = q := ⟨_, rfl⟩
        rw [hq] at HS12 HS21
        have HQ := Lib.hid hq
        clear hq
        go_wp2_with fail
        refine (HS12.out _ D0.out).mono ?_
        rintro e w6 ⟨rfl, hB6⟩
        have D3 := Lib.hid (D0.out.trans (hB6.mono D0.out.size))
        clear hB6 D0
        go_wp2_with fail
        refine (HS21.out _ D3.out).mono ?_
        rintro e w7 ⟨rfl, hB7⟩
        have D4 := Lib.hid (D3.out.trans (hB7.mono D3.out.size))
        clear hB7 D3
        go_wp2_with fail
        refine (HS12.out _ D4.out).mono ?_
        rintro e w8 ⟨rfl, hB8⟩
        have D5 := Lib.hid (D4.out.trans (hB8.mono D4.out.size))
        clear hB8 D4
        cases q
        · go_wp2
          go_ret
          exact ⟨rfl, D5.out⟩
        · have HSH := Lib.hid (sameP_shares (of_decide_eq_true HQ.out))
          rw [← HSH.out] at HH2
          go_wp2_with fail
          refine (HH1.out _ D5.out).mono ?_
          rintro e w9 ⟨rfl, hB9⟩
          have D6 := Lib.hid (D5.out.trans (hB9.mono D5.out.size))
          clear hB9 D5
          go_wp2_with fail
          refine (HH2.out _ D6.out).mono ?_
          rintro e w10 ⟨rfl, hB10⟩
          have D7 := Lib.hid (D6.out.trans (hB10.mono D6.out.size))
          have heq := eql_sh (shF L len) w10
          clear hB10 D6
          go_wp2
          go_ret
          exact ⟨rfl, D7.out⟩
  · have HNO := Lib.hid (show decide (SameP L len M len2) = false from decide_eq_false (fun h => hp ⟨h.1, h.2.1⟩))
    rw [HNO.out] at HS12 HS21
    have fin : ∀ (pe1 pe2 : Int), pErr L len = pe1 → pErr M len2 = pe2 → (pe1 = 0 ∧ pe2 = 90 ∨ pe1 = 90) →
      Calls Try.prog 7 #[.slice a len cap, .slice a2 len2 cap2] w fun e w' => e = .returned (.bool true) ∧ Below w.heap.size w w' := by
      intro pe1 pe2 h1 h2 hor
      rw [h1] at HC1
      rw [h2] at HC2
      clear h1 h2 hp
      rcases hor with ⟨rfl, rfl⟩ | rfl
      · go_enter Try.func7, Try.ntmps7
        go_wp2_with fail
        refine HAL.out.mono ?_
        rintro e w1 ⟨rfl, hB1⟩
        have C1 := Lib.hid hB1
        clear hB1
        go_wp2_with fail
        refine (HC1.out _ C1.out).mono ?_
        rintro e w2 ⟨rfl, hB2⟩
        have C2 := Lib.hid (C1.out.trans (hB2.mono C1.out.size))
        clear hB2 C1
        go_wp2_with fail
        refine (HC2.out _ C2.out).mono ?_
        rintro e w3 ⟨rfl, hB3⟩
        have C3 := Lib.hid (C2.out.trans (hB3.mono C2.out.size))
        clear hB3 C2
        go_wp2_with fail
        go_loopw [7] (fun i wr => i = .int .i64 0 ∧ Below w.heap.size w wr) (fun i _ => 0)
        case atStart => exact ⟨rfl, C3.out⟩
        case round =>
          obtain ⟨rfl, hb⟩ := hrel
          have D0 := Lib.hid hb
          clear hb C3
          go_wp2_with fail
          refine (HS12.out _ D0.out).mono ?_
          rintro e w6 ⟨rfl, hB6⟩
          have D3 := Lib.hid (D0.out.trans (hB6.mono D0.out.size))
          clear hB6 D0
          go_wp2_with fail
          refine (HS21.out _ D3.out).mono ?_
          rintro e w7 ⟨rfl, hB7⟩
          have D4 := Lib.hid (D3.out.trans (hB7.mono D3.out.size))
          clear hB7 D3
          go_wp2_with fail
          refine (HS12.out _ D4.out).mono ?_
          rintro e w8 ⟨rfl, hB8⟩
          have D5 := Lib.hid (D4.out.trans (hB8.mono D4.out.size))
          clear hB8 D4
          go_wp2
          go_ret
          exact ⟨rfl, D5.out⟩
      · go_enter Try.func7, Try.ntmps7
        go_wp2_with fail
        refine HAL.out.mono ?_
        rintro e w1 ⟨rfl, hB1⟩
        have C1 := Lib.hid hB1
        clear hB1
        go_wp2_with fail
        refine (HC1.out _ C1.out).mono ?_
        rintro e w2 ⟨rfl, hB2⟩
        have C2 := Lib.hid (C1.out.trans (hB2.mono C1.out.size))
        clear hB2 C1
        go_wp2_with fail
        go_loopw [7] (fun i wr => i = .int .i64 0 ∧ Below w.heap.size w wr) (fun i _ => 0)
        case atStart => exact ⟨rfl, C2.out⟩
        case round =>
          obtain ⟨rfl, hb⟩ := hrel
          have D0 := Lib.hid hb
          clear hb C2
          go_wp2_with fail
          refine (HS12.out _ D0.out).mono ?_
          rintro e w6 ⟨rfl, hB6⟩
          have D3 := Lib.hid (D0.out.trans (hB6.mono D0.out.size))
          clear hB6 D0
          go_wp2_with fail
          refine (HS21.out _ D3.out).mono ?_
          rintro e w7 ⟨rfl, hB7⟩
          have D4 := Lib.hid (D3.out.trans (hB7.mono D3.out.size))
          clear hB7 D3
          go_wp2_with fail
          refine (HS12.out _ D4.out).mono ?_
          rintro e w8 ⟨rfl, hB8⟩
          have D5 := Lib.hid (D4.out.trans (hB8.mono D4.out.size))
          clear hB8 D4
          go_wp2
          go_ret
          exact ⟨rfl, D5.out⟩
    by_cases h1 : PlanIs L len
    · exact fin 0 90 (pErr_yes h1) (pErr_no (fun h2 => hp ⟨h1, h2⟩)) (.inl ⟨rfl, rfl⟩)
    · exact fin 90 _ (pErr_no h1) rfl (.inr rfl)
end Go.Proofs.Ytmbimnphdhmapaa
