/- The statement BandsBack, walked. -/
import Derived.Test.YtmbimnphdhmapaaDoorDParse
import Derived.Test.YtmbimnphdhmapaaDoorDText
import Derived.Test.YtmbimnphdhmapaaDoorBAlive
import Derived.Test.YtmbimnphdhmapaaDoorBEqual
set_option linter.unusedVariables false
set_option linter.unusedSimpArgs false
namespace Go.Proofs.YtmbimnphdhmapaaDoor
open Go.RowKit Go.Shelf
theorem swsOf_get {L : Nat → Sw} {n i : Nat} (h : i < n) : (swsOf L n).getD i ⟨0, 0⟩ = L i := by simp [swsOf, List.getD, h]
theorem swsOf_len (L : Nat → Sw) (n : Nat) : (swsOf L n).length = n := by simp [swsOf]
theorem swsOf_self (xs : List Sw) : swsOf (fun i => xs.getD i ⟨0, 0⟩) xs.length = xs := by
  apply List.ext_getElem
  · simp [swsOf]
  · intro i h1 h2
    simp [swsOf, List.getD, h2]
theorem plan_congr {L M : Nat → Sw} {n : Nat} (h : PlanIs L n) (e : ∀ i, i < n → M i = L i) : PlanIs M n := by
  obtain ⟨h1, h2, h3, h4⟩ := h
  refine ⟨h1, h2, by rw [e 0 (by omega)]; exact h3, fun i hi => ?_⟩
  have := h4 i hi
  unfold SwOk at this ⊢
  rw [e i hi, e (i - 1) (by omega)]
  exact this
theorem plan_swsOf {L : Nat → Sw} {n : Nat} (h : PlanIs L n) : PlanL (swsOf L n) := by
  unfold PlanL
  rw [swsOf_len]
  exact plan_congr h (fun i hi => swsOf_get hi)
theorem text_inj {xs ys : List Sw} (hx : PlanL xs) (hy : PlanL ys) (h : textL xs = textL ys) : xs = ys := by
  have e := congrArg pieces h
  rw [pieces_text (plan_ne hx), pieces_text (plan_ne hy)] at e
  exact map_swL_inj (plan_64 hx) (plan_64 hy) e
theorem text_len {L : Nat → Sw} {n : Nat} (h : PlanIs L n) : (textL (swsOf L n)).length ≤ 480 := by
  rw [text_firsts]
  have := join_le (firsts L n) (firsts_le h)
  rw [firsts_len] at this
  have := h.2.1
  omega
theorem text_back {s : ByteArray} {xs : List Sw} (h : s.data.toList = textL xs) : strL (textL (swsOf (fun i => xs.getD i ⟨0, 0⟩) xs.length)) = .string s := by
  rw [swsOf_self, ← h]
/-- What is read of a plan's text. -/
def BackE (L : Nat → Sw) (len : Nat) (e : Ending) (w' : World) : Prop := ∃ va vc, e = .returned (.tuple #[.slice va len vc, .int .i64 0]) ∧ SwsAt w'.heap.size w' va len L
theorem parse_back {L : Nat → Sw} {len : Nat} (hp : PlanIs L len) (w : World) (hT : TabsD w) : Calls Tryd.prog 9 #[strL (textL (swsOf L len))] w fun e w' => BackE L len e w' ∧ Below w.heap.size w w' := by
  refine (parse_any _ (by have := text_len hp; omega) w hT).mono ?_
  rintro e w' ⟨(⟨v, xs, rfl, hO, hpl, hst⟩ | ⟨rfl, hnone⟩), hB⟩
  · obtain rfl := text_inj (plan_swsOf hp) hpl hst
    obtain ⟨va, vc, rfl⟩ := hO.form
    have hs := hO.sws
    rw [swsOf_len] at hs ⊢
    refine ⟨⟨va, vc, rfl, fun i hi => ?_⟩, hB⟩
    have := hs i hi
    simp only [swsOf_get hi] at this
    exact this
  · exact absurd rfl (hnone _ (plan_swsOf hp))
theorem parse_str (s : ByteArray) (hs : s.size ≤ 600) (w : World) (hT : TabsD w) : Calls Tryd.prog 9 #[.string s] w fun e w' => ParseE w.heap.size s.data.toList e w' ∧ Below w.heap.size w w' := by
  have h := parse_any s.data.toList (by have : s.data.toList.length = s.size := by simp
                                        omega) w hT
  have e : (⟨s.data.toList.toArray⟩ : ByteArray) = s := by cases s; simp
  unfold strL at h
  rw [e] at h
  exact h
set_option maxRecDepth 100000 in
set_option maxHeartbeats 4000000 in
theorem back_long (a : Option Addr) (len cap : Nat) (L : Nat → Sw) (s : ByteArray) (h60 : 60 < len) (w : World) (hT : TabsD w) (hA : SwsAt w.heap.size w a len L) (hlm : len ≤ maxLen) :
    Calls Tryd.prog 5 #[.slice a len cap, .string s] w fun e w' => e = .returned (.bool true) ∧ Below w.heap.size w w' := by
  have g1 : (60 : Int) < len := by omega
  have HAL := Lib.hid (alive_any w)
  clear hT hA hlm h60
  go_enter Tryd.func5, Tryd.ntmps5
  go_wp2_with fail
  refine HAL.out.mono ?_
  rintro e w1 ⟨rfl, hB1⟩
  have HB1 := Lib.hid hB1
  clear hB1
  go_wp2
  go_ret
  exact ⟨rfl, HB1.out⟩
set_option maxRecDepth 100000 in
set_option maxHeartbeats 4000000 in
theorem back_wide (a : Option Addr) (len cap : Nat) (L : Nat → Sw) (s : ByteArray) (h60 : ¬ 60 < len) (h600 : 600 < s.size) (w : World) (hT : TabsD w) (hA : SwsAt w.heap.size w a len L) (hlm : len ≤ maxLen) :
    Calls Tryd.prog 5 #[.slice a len cap, .string s] w fun e w' => e = .returned (.bool true) ∧ Below w.heap.size w w' := by
  have g1 : ¬ (60 : Int) < len := by omega
  have g2 : (600 : Int) < s.size := by omega
  have HAL := Lib.hid (alive_any w)
  clear hT hA hlm h60 h600
  go_enter Tryd.func5, Tryd.ntmps5
  go_wp2_with fail
  refine HAL.out.mono ?_
  rintro e w1 ⟨rfl, hB1⟩
  have HB1 := Lib.hid hB1
  clear hB1
  go_wp2
  go_ret
  exact ⟨rfl, HB1.out⟩
set_option maxRecDepth 100000 in
set_option maxHeartbeats 4000000 in
theorem back_no (a : Option Addr) (len cap : Nat) (L : Nat → Sw) (s : ByteArray) (h60 : ¬ 60 < len) (h600 : ¬ 600 < s.size) (hno : ¬ PlanIs L len) (w : World) (hT : TabsD w) (hA : SwsAt w.heap.size w a len L) (hlm : len ≤ maxLen) :
    Calls Tryd.prog 5 #[.slice a len cap, .string s] w fun e w' => e = .returned (.bool true) ∧ Below w.heap.size w w' := by
  have g1 : ¬ (60 : Int) < len := by omega
  have g2 : ¬ (600 : Int) < s.size := by omega
  have HAL := Lib.hid (alive_any w)
  have HT := Lib.hid hT
  have HP2 := Lib.hid (fun (W : World) (hB : Below w.heap.size w W) => parse_str s (by omega) W (hT.next hB (Nat.le_refl _)))
  have HTX := Lib.hid (fun (W : World) (hB : Below w.heap.size w W) => text_no a len cap L hno W ((hA.next hB (Nat.le_refl _) (Nat.le_refl _)).mono hB.size) hlm)
  clear hT hA hlm h60 h600 hno
  go_enter Tryd.func5, Tryd.ntmps5
  go_wp2_with fail
  refine HAL.out.mono ?_
  rintro e w1 ⟨rfl, hB1⟩
  have HB1 := Lib.hid hB1
  clear hB1
  go_wp2_with fail
  refine (HTX.out w1 HB1.out).mono ?_
  rintro e w2 ⟨rfl, hB2⟩
  have HB2 := Lib.hid (HB1.out.trans (hB2.mono HB1.out.size))
  clear hB2
  go_wp2_with fail
  refine (HP2.out w2 HB2.out).mono ?_
  rintro e w5 ⟨(⟨v, xs, rfl, hO, hpl, hst⟩ | ⟨rfl, hnone⟩), hB5⟩
  · obtain ⟨xa, xc, rfl⟩ := hO.form
    have HB5 := Lib.hid (HB2.out.trans (hB5.mono HB2.out.size))
    have hx := text_yes xa xs.length xc _ hpl w5 (HT.out.next HB5.out (Nat.le_refl _)) hO.sws (by unfold maxLen; have := hpl.2.1; omega)
    rw [text_back hst] at hx
    have HX := Lib.hid hx
    clear hO hpl hst hB5 hx
    go_wp2_with fail
    refine HX.out.mono ?_
    rintro e w6 ⟨rfl, hB6⟩
    have HB6 := Lib.hid (HB5.out.trans (hB6.mono HB5.out.size))
    clear hB6
    go_wp2
    go_ret
    exact ⟨rfl, HB6.out⟩
  · have HB5 := Lib.hid (HB2.out.trans (hB5.mono HB2.out.size))
    clear hnone hB5
    go_wp2
    go_ret
    exact ⟨rfl, HB5.out⟩
set_option maxRecDepth 100000 in
set_option maxHeartbeats 4000000 in
theorem back_yes (a : Option Addr) (len cap : Nat) (L : Nat → Sw) (s : ByteArray) (h60 : ¬ 60 < len) (h600 : ¬ 600 < s.size) (hp : PlanIs L len) (w : World) (hT : TabsD w) (hA : SwsAt w.heap.size w a len L) (hlm : len ≤ maxLen) :
    Calls Tryd.prog 5 #[.slice a len cap, .string s] w fun e w' => e = .returned (.bool true) ∧ Below w.heap.size w w' := by
  have g1 : ¬ (60 : Int) < len := by omega
  have g2 : ¬ (600 : Int) < s.size := by omega
  have HAL := Lib.hid (alive_any w)
  have HT := Lib.hid hT
  have HLM := Lib.hid hlm
  have HA := Lib.hid (fun (W : World) (hB : Below w.heap.size w W) => (hA.next hB (Nat.le_refl _) (Nat.le_refl _)).mono hB.size)
  have HP2 := Lib.hid (fun (W : World) (hB : Below w.heap.size w W) => parse_str s (by omega) W (hT.next hB (Nat.le_refl _)))
  have HTX := Lib.hid (fun (W : World) (hB : Below w.heap.size w W) => text_yes a len cap L hp W (hT.next hB (Nat.le_refl _)) ((hA.next hB (Nat.le_refl _) (Nat.le_refl _)).mono hB.size) hlm)
  have HPB := Lib.hid (fun (W : World) (hB : Below w.heap.size w W) => parse_back hp W (hT.next hB (Nat.le_refl _)))
  have HSP : Hid (decide (SameP L len L len) = true) := Lib.hid (decide_eq_true ⟨hp, hp, fun _ _ => rfl⟩)
  have gne : ((len : Int) != len) = false := by simp
  have hl1 := hp.1
  clear hT hA hlm h60 h600 hp
  go_enter Tryd.func5, Tryd.ntmps5
  go_wp2_with fail
  refine HAL.out.mono ?_
  rintro e w1 ⟨rfl, hB1⟩
  have HB1 := Lib.hid hB1
  clear hB1
  go_wp2_with fail
  refine (HTX.out w1 HB1.out).mono ?_
  rintro e w2 ⟨rfl, hB2⟩
  have HB2 := Lib.hid (HB1.out.trans (hB2.mono HB1.out.size))
  clear hB2
  go_wp2_with fail
  refine (HPB.out w2 HB2.out).mono ?_
  rintro e w3 ⟨⟨va, vc, rfl, hM⟩, hB3⟩
  have HB3 := Lib.hid (HB2.out.trans (hB3.mono HB2.out.size))
  have HM := Lib.hid hM
  have HSM := Lib.hid (sameP_any a len cap L va len vc L w3 (HA.out w3 HB3.out) hM HLM.out HLM.out)
  rw [HSP.out] at HSM
  clear hB3 hM
  go_wp2_with fail
  refine HSM.out.mono ?_
  rintro e w4 ⟨rfl, hB4⟩
  have HW4 := Lib.hid hB4
  have HB4 := Lib.hid (HB3.out.trans (hB4.mono HB3.out.size))
  clear hB4
  go_wp2_with fail
  go_loopw [58] (fun i wr => ∃ k : Nat, k ≤ len ∧ i = .int .i64 k ∧ Below w3.heap.size w3 wr) (fun i _ => (len - intOf i).toNat)
  case atStart => exact ⟨0, Nat.zero_le _, rfl, HW4.out⟩
  case round =>
    obtain ⟨k, hk, rfl, hb⟩ := hrel
    have HWR := Lib.hid hb
    have HBR := Lib.hid (HB3.out.trans (hb.mono HB3.out.size))
    clear hb
    by_cases hlt : k < len
    · have hlti : (k : Int) < len := by omega
      obtain ⟨b, o, rfl, h1⟩ := (HA.out wr HBR.out).base (by omega)
      obtain ⟨b', o', rfl, h2⟩ := (HM.out.next HWR.out (Nat.le_refl _) (Nat.le_refl _)).base (by omega)
      obtain ⟨c0, c1⟩ := h1 k hlt
      obtain ⟨d0, d1⟩ := h2 k hlt
      obtain ⟨⟨sm, sb⟩, hs⟩ : ∃ s, L k = s := ⟨_, rfl⟩
      rw [hs] at c0 c1 d0 d1
      simp only at c0 c1 d0 d1
      have hne := neq_sw sm sb sm sb
      rw [show (!((sm == sm) && (sb == sb))) = false by simp] at hne
      clear h1 h2 hs
      go_wp2_with fail
      go_quiet (fail)
      go_wp2
      go_roundw
      case rel => exact ⟨k + 1, by omega, by go_num, below_drewN HWR.out _⟩
      case measure => first | (simp [intOf]; done) | (simp [intOf]; omega)
    · have hke : k = len := by omega
      subst hke
      go_wp2_with fail
      refine (HP2.out wr HBR.out).mono ?_
      rintro e w5 ⟨(⟨v, xs, rfl, hO, hpl, hst⟩ | ⟨rfl, hnone⟩), hB5⟩
      · obtain ⟨xa, xc, rfl⟩ := hO.form
        have HB5 := Lib.hid (HBR.out.trans (hB5.mono HBR.out.size))
        have hx := text_yes xa xs.length xc _ hpl w5 (HT.out.next HB5.out (Nat.le_refl _)) hO.sws (by unfold maxLen; have := hpl.2.1; omega)
        rw [text_back hst] at hx
        have HX := Lib.hid hx
        clear hO hpl hst hB5 hx
        go_wp2_with fail
        refine HX.out.mono ?_
        rintro e w6 ⟨rfl, hB6⟩
        have HB6 := Lib.hid (HB5.out.trans (hB6.mono HB5.out.size))
        clear hB6
        go_wp2
        go_ret
        exact ⟨rfl, HB6.out⟩
      · have HB5 := Lib.hid (HBR.out.trans (hB5.mono HBR.out.size))
        clear hnone hB5
        go_wp2
        go_ret
        exact ⟨rfl, HB5.out⟩
theorem backW (a : Option Addr) (len cap : Nat) (L : Nat → Sw) (s : ByteArray) (w : World) (hT : TabsD w) (hw : (len ≤ cap ∧ cap ≤ maxLen) ∧ SwsAt w.heap.size w a len L) (hs : s.size ≤ maxLen) :
    Calls Tryd.prog 5 #[.slice a len cap, .string s] w fun e w' => e = .returned (.bool true) ∧ Below w.heap.size w w' := by
  obtain ⟨⟨h1, h2⟩, hA⟩ := hw
  by_cases h60 : 60 < len
  · exact back_long a len cap L s h60 w hT hA (by omega)
  · by_cases h600 : 600 < s.size
    · exact back_wide a len cap L s h60 h600 w hT hA (by omega)
    · by_cases hp : PlanIs L len
      · exact back_yes a len cap L s h60 h600 hp w hT hA (by omega)
      · exact back_no a len cap L s h60 h600 hp w hT hA (by omega)
end Go.Proofs.YtmbimnphdhmapaaDoor
