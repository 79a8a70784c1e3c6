/- The statement BandsTexts, walked. -/
import Derived.Test.YtmbimnphdhmapaaDoorDRParse
import Derived.Test.YtmbimnphdhmapaaDoorBSame
set_option linter.unusedVariables false
set_option linter.unusedSimpArgs false
namespace Go.Proofs.YtmbimnphdhmapaaDoor
open Go.RowKit Go.Shelf
theorem alike_self (L : Nat → Sw) (n : Nat) : decide (Alike L n L n) = true := decide_eq_true ⟨rfl, fun _ _ => rfl⟩
set_option maxRecDepth 100000 in
set_option maxHeartbeats 4000000 in
theorem texts_long (a : Option Addr) (len cap : Nat) (L : Nat → Sw) (s : ByteArray) (h60 : 60 < len) (w : World) (hT : TabsD w) (hA : SwsAt w.heap.size w a len L) (hlm : len ≤ maxLen) :
    Calls Tryd.prog 3 #[.slice a len cap, .string s] w fun e w' => e = .returned (.bool true) ∧ Below w.heap.size w w' := by
  have g1 : (60 : Int) < len := by omega
  clear hT hA hlm h60
  go_enter Tryd.func3, Tryd.ntmps3
  go_wp2
  go_ret
  exact ⟨rfl, Below.refl _ _⟩
set_option maxRecDepth 100000 in
set_option maxHeartbeats 4000000 in
theorem texts_wide (a : Option Addr) (len cap : Nat) (L : Nat → Sw) (s : ByteArray) (h60 : ¬ 60 < len) (h600 : 600 < s.size) (w : World) (hT : TabsD w) (hA : SwsAt w.heap.size w a len L) (hlm : len ≤ maxLen) :
    Calls Tryd.prog 3 #[.slice a len cap, .string s] w fun e w' => e = .returned (.bool true) ∧ Below w.heap.size w w' := by
  have g1 : ¬ (60 : Int) < len := by omega
  have g2 : (600 : Int) < s.size := by omega
  clear hT hA hlm h60 h600
  go_enter Tryd.func3, Tryd.ntmps3
  go_wp2
  go_ret
  exact ⟨rfl, Below.refl _ _⟩
set_option maxRecDepth 100000 in
set_option maxHeartbeats 4000000 in
theorem texts_yes (a : Option Addr) (len cap : Nat) (L : Nat → Sw) (s : ByteArray) (h60 : ¬ 60 < len) (h600 : ¬ 600 < s.size) (hp : PlanIs L len) (w : World) (hT : TabsD w) (hA : SwsAt w.heap.size w a len L) (hlm : len ≤ maxLen) :
    Calls Tryd.prog 3 #[.slice a len cap, .string s] w fun e w' => e = .returned (.bool true) ∧ Below w.heap.size w w' := by
  have g1 : ¬ (60 : Int) < len := by omega
  have g2 : ¬ (600 : Int) < s.size := by omega
  have HT := Lib.hid hT
  have HLM := Lib.hid hlm
  have HA := Lib.hid (fun (W : World) (hB : Below w.heap.size w W) => (hA.next hB (Nat.le_refl _) (Nat.le_refl _)).mono hB.size)
  have htx := text_yes a len cap L hp w hT hA hlm
  have hrt := fun (a' : Option Addr) (c' : Nat) (W : World) (hS : SwsAt W.heap.size W a' len L) => rText_yes a' len c' L hp W hS hlm
  obtain ⟨T, hTT⟩ : ∃ T, textL (swsOf L len) = T := ⟨_, rfl⟩
  rw [hTT] at htx hrt
  clear hTT
  have HTX := Lib.hid htx
  have HRT := Lib.hid hrt
  have HP1 := Lib.hid (fun (W : World) (hB : Below w.heap.size w W) => parse_str s (by omega) W (hT.next hB (Nat.le_refl _)))
  have HP2 := Lib.hid (fun (W : World) => rParse_any s (by omega) W)
  have HPL := Lib.hid (fun (W : World) (hB : Below w.heap.size w W) => plan_any a len cap L W ((hA.next hB (Nat.le_refl _) (Nat.le_refl _)).mono hB.size) (by omega))
  clear hT hA hlm h60 h600 hp htx hrt
  go_enter Tryd.func3, Tryd.ntmps3
  go_wp2_with fail
  refine HTX.out.mono ?_
  rintro e w1 ⟨rfl, hB1⟩
  have HB1 := Lib.hid hB1
  clear hB1
  go_wp2_with fail
  refine (HPL.out w1 HB1.out).mono ?_
  rintro e w2 ⟨⟨a', c', rfl, hS⟩, hB2⟩
  have HB2 := Lib.hid (HB1.out.trans (hB2.mono HB1.out.size))
  have HS := Lib.hid hS
  clear hB2 hS
  go_wp2_with fail
  refine (HRT.out a' c' w2 HS.out).mono ?_
  rintro e w3 ⟨rfl, hB3⟩
  have HB3 := Lib.hid (HB2.out.trans (hB3.mono HB2.out.size))
  clear hB3
  go_wp2_with fail
  refine (HP1.out w3 HB3.out).mono ?_
  rintro e w4 ⟨(⟨v, xs, rfl, hO, hpl, hst⟩ | ⟨rfl, hno⟩), hB4⟩
  · obtain ⟨va, vc, rfl⟩ := hO.form
    have HB4 := Lib.hid (HB3.out.trans (hB4.mono HB3.out.size))
    have HSX := Lib.hid hO.sws
    have HPX := Lib.hid (show PlanL xs ∧ s.data.toList = textL xs from ⟨hpl, hst⟩)
    clear hO hpl hst hB4
    go_wp2_with fail
    refine (HP2.out w4).mono ?_
    rintro e w5 ⟨(⟨v', ys, rfl, hO, hpl, hst⟩ | ⟨rfl, hno⟩), hB5⟩
    · obtain rfl : xs = ys := text_inj HPX.out.1 hpl (HPX.out.2.symm.trans hst)
      obtain ⟨ya, yc, rfl⟩ := hO.form
      have HB5 := Lib.hid (HB4.out.trans (hB5.mono HB4.out.size))
      have hsm := same_any va xs.length vc _ ya xs.length yc _ w5 ((HSX.out.next hB5 (Nat.le_refl _) (Nat.le_refl _)).mono hB5.size) hO.sws (by unfold maxLen; have := HPX.out.1.2.1; omega) (by unfold maxLen; have := HPX.out.1.2.1; omega)
      rw [alike_self] at hsm
      have HSM := Lib.hid hsm
      clear hO hpl hst hB5 hsm
      go_wp2_with fail
      refine HSM.out.mono ?_
      rintro e w6 ⟨rfl, hB6⟩
      have HB6 := Lib.hid (HB5.out.trans (hB6.mono HB5.out.size))
      clear hB6
      go_wp2
      go_ret
      exact ⟨rfl, HB6.out⟩
    · exact absurd HPX.out.2 (hno xs HPX.out.1)
  · have HB4 := Lib.hid (HB3.out.trans (hB4.mono HB3.out.size))
    have HNO := Lib.hid hno
    clear hno hB4
    go_wp2_with fail
    refine (HP2.out w4).mono ?_
    rintro e w5 ⟨(⟨v', ys, rfl, hO, hpl, hst⟩ | ⟨rfl, hno⟩), hB5⟩
    · exact absurd hst (HNO.out ys hpl)
    · have HB5 := Lib.hid (HB4.out.trans (hB5.mono HB4.out.size))
      have hsm := same_any none 0 0 L none 0 0 L w5 (fun i hi => absurd hi (Nat.not_lt_zero _)) (fun i hi => absurd hi (Nat.not_lt_zero _)) (Nat.zero_le _) (Nat.zero_le _)
      rw [alike_self] at hsm
      have HSM := Lib.hid hsm
      clear hno hB5 hsm
      go_wp2_with fail
      refine HSM.out.mono ?_
      rintro e w6 ⟨rfl, hB6⟩
      have HB6 := Lib.hid (HB5.out.trans (hB6.mono HB5.out.size))
      clear hB6
      go_wp2
      go_ret
      exact ⟨rfl, HB6.out⟩
set_option maxRecDepth 100000 in
set_option maxHeartbeats 4000000 in
theorem texts_no (a : Option Addr) (len cap : Nat) (L : Nat → Sw) (s : ByteArray) (h60 : ¬ 60 < len) (h600 : ¬ 600 < s.size) (hp : ¬ PlanIs L len) (w : World) (hT : TabsD w) (hA : SwsAt w.heap.size w a len L) (hlm : len ≤ maxLen) :
    Calls Tryd.prog 3 #[.slice a len cap, .string s] w fun e w' => e = .returned (.bool true) ∧ Below w.heap.size w w' := by
  have g1 : ¬ (60 : Int) < len := by omega
  have g2 : ¬ (600 : Int) < s.size := by omega
  have HT := Lib.hid hT
  have HLM := Lib.hid hlm
  have HA := Lib.hid (fun (W : World) (hB : Below w.heap.size w W) => (hA.next hB (Nat.le_refl _) (Nat.le_refl _)).mono hB.size)
  have htx := text_no a len cap L hp w hA hlm
  have hrt := fun (a' : Option Addr) (c' : Nat) (W : World) (hS : SwsAt W.heap.size W a' len L) => rText_no a' len c' L hp W hS hlm
  have HTX := Lib.hid htx
  have HRT := Lib.hid hrt
  have HP1 := Lib.hid (fun (W : World) (hB : Below w.heap.size w W) => parse_str s (by omega) W (hT.next hB (Nat.le_refl _)))
  have HP2 := Lib.hid (fun (W : World) => rParse_any s (by omega) W)
  have HPL := Lib.hid (fun (W : World) (hB : Below w.heap.size w W) => plan_any a len cap L W ((hA.next hB (Nat.le_refl _) (Nat.le_refl _)).mono hB.size) (by omega))
  clear hT hA hlm h60 h600 hp htx hrt
  go_enter Tryd.func3, Tryd.ntmps3
  go_wp2_with fail
  refine HTX.out.mono ?_
  rintro e w1 ⟨rfl, hB1⟩
  have HB1 := Lib.hid hB1
  clear hB1
  go_wp2_with fail
  refine (HPL.out w1 HB1.out).mono ?_
  rintro e w2 ⟨⟨a', c', rfl, hS⟩, hB2⟩
  have HB2 := Lib.hid (HB1.out.trans (hB2.mono HB1.out.size))
  have HS := Lib.hid hS
  clear hB2 hS
  go_wp2_with fail
  refine (HRT.out a' c' w2 HS.out).mono ?_
  rintro e w3 ⟨rfl, hB3⟩
  have HB3 := Lib.hid (HB2.out.trans (hB3.mono HB2.out.size))
  clear hB3
  go_wp2_with fail
  refine (HP1.out w3 HB3.out).mono ?_
  rintro e w4 ⟨(⟨v, xs, rfl, hO, hpl, hst⟩ | ⟨rfl, hno⟩), hB4⟩
  · obtain ⟨va, vc, rfl⟩ := hO.form
    have HB4 := Lib.hid (HB3.out.trans (hB4.mono HB3.out.size))
    have HSX := Lib.hid hO.sws
    have HPX := Lib.hid (show PlanL xs ∧ s.data.toList = textL xs from ⟨hpl, hst⟩)
    clear hO hpl hst hB4
    go_wp2_with fail
    refine (HP2.out w4).mono ?_
    rintro e w5 ⟨(⟨v', ys, rfl, hO, hpl, hst⟩ | ⟨rfl, hno⟩), hB5⟩
    · obtain rfl : xs = ys := text_inj HPX.out.1 hpl (HPX.out.2.symm.trans hst)
      obtain ⟨ya, yc, rfl⟩ := hO.form
      have HB5 := Lib.hid (HB4.out.trans (hB5.mono HB4.out.size))
      have hsm := same_any va xs.length vc _ ya xs.length yc _ w5 ((HSX.out.next hB5 (Nat.le_refl _) (Nat.le_refl _)).mono hB5.size) hO.sws (by unfold maxLen; have := HPX.out.1.2.1; omega) (by unfold maxLen; have := HPX.out.1.2.1; omega)
      rw [alike_self] at hsm
      have HSM := Lib.hid hsm
      clear hO hpl hst hB5 hsm
      go_wp2_with fail
      refine HSM.out.mono ?_
      rintro e w6 ⟨rfl, hB6⟩
      have HB6 := Lib.hid (HB5.out.trans (hB6.mono HB5.out.size))
      clear hB6
      go_wp2
      go_ret
      exact ⟨rfl, HB6.out⟩
    · exact absurd HPX.out.2 (hno xs HPX.out.1)
  · have HB4 := Lib.hid (HB3.out.trans (hB4.mono HB3.out.size))
    have HNO := Lib.hid hno
    clear hno hB4
    go_wp2_with fail
    refine (HP2.out w4).mono ?_
    rintro e w5 ⟨(⟨v', ys, rfl, hO, hpl, hst⟩ | ⟨rfl, hno⟩), hB5⟩
    · exact absurd hst (HNO.out ys hpl)
    · have HB5 := Lib.hid (HB4.out.trans (hB5.mono HB4.out.size))
      have hsm := same_any none 0 0 L none 0 0 L w5 (fun i hi => absurd hi (Nat.not_lt_zero _)) (fun i hi => absurd hi (Nat.not_lt_zero _)) (Nat.zero_le _) (Nat.zero_le _)
      rw [alike_self] at hsm
      have HSM := Lib.hid hsm
      clear hno hB5 hsm
      go_wp2_with fail
      refine HSM.out.mono ?_
      rintro e w6 ⟨rfl, hB6⟩
      have HB6 := Lib.hid (HB5.out.trans (hB6.mono HB5.out.size))
      clear hB6
      go_wp2
      go_ret
      exact ⟨rfl, HB6.out⟩
theorem textsW (a : Option Addr) (len cap : Nat) (L : Nat → Sw) (s : ByteArray) (w : World) (hT : TabsD w) (hw : (len ≤ cap ∧ cap ≤ maxLen) ∧ SwsAt w.heap.size w a len L) (hs : s.size ≤ maxLen) :
    Calls Tryd.prog 3 #[.slice a len cap, .string s] w fun e w' => e = .returned (.bool true) ∧ Below w.heap.size w w' := by
  obtain ⟨⟨h1, h2⟩, hA⟩ := hw
  by_cases h60 : 60 < len
  · exact texts_long a len cap L s h60 w hT hA (by omega)
  · by_cases h600 : 600 < s.size
    · exact texts_wide a len cap L s h60 h600 w hT hA (by omega)
    · by_cases hp : PlanIs L len
      · exact texts_yes a len cap L s h60 h600 hp w hT hA (by omega)
      · exact texts_no a len cap L s h60 h600 hp w hT hA (by omega)
end Go.Proofs.YtmbimnphdhmapaaDoor
