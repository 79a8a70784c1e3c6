/- The statement BandsPlans, walked. -/
import Derived.Test.YtmbimnphdhmapaaBBand
import Derived.Test.YtmbimnphdhmapaaBShare
import Derived.Test.YtmbimnphdhmapaaBEqual
import Derived.Test.YtmbimnphdhmapaaBAlive
import Derived.Test.YtmbimnphdhmapaaBRef2
import Derived.Test.YtmbimnphdhmapaaBRef3
set_option linter.unusedVariables false
set_option linter.unusedSimpArgs false
namespace Go.Proofs.Ytmbimnphdhmapaa
open Go.RowKit Go.Shelf
theorem bandE_in {L : Nat → Sw} {len : Nat} {x : Int} (h : PlanIs L len ∧ InDay x) : bandE L len x = bandN L len x ∧ bandB L len x = true := ⟨if_pos h, decide_eq_true h⟩
theorem bandE_out {L : Nat → Sw} {len : Nat} {x : Int} (h : ¬ (PlanIs L len ∧ InDay x)) : bandE L len x = 0 ∧ bandB L len x = false := ⟨if_neg h, decide_eq_false h⟩
theorem band_any (a : Option Addr) (len cap : Nat) (L : Nat → Sw) (x : Int) (w : World) (hA : SwsAt w.heap.size w a len L) (hlm : len ≤ maxLen) :
    Calls Try.prog 10 #[.slice a len cap, .int .i64 x] w fun e w' => e = .returned (.tuple #[.int .i64 (bandE L len x), .bool (bandB L len x)]) ∧ Below w.heap.size w w' := by
  by_cases h : PlanIs L len ∧ InDay x
  · rw [(bandE_in h).1, (bandE_in h).2]; exact band_yes a len cap L x w hA hlm h.1 h.2
  · rw [(bandE_out h).1, (bandE_out h).2]; exact band_no a len cap L x w hA hlm h
theorem rBand_any (a : Option Addr) (len cap : Nat) (L : Nat → Sw) (x : Int) (w : World) (hA : SwsAt w.heap.size w a len L) (hlm : len ≤ maxLen) :
    Calls Try.prog 11 #[.slice a len cap, .int .i64 x] w fun e w' => e = .returned (.tuple #[.int .i64 (bandE L len x), .bool (bandB L len x)]) ∧ Below w.heap.size w w' := by
  by_cases h : PlanIs L len ∧ InDay x
  · rw [(bandE_in h).1, (bandE_in h).2]; exact rBandP_yes a len cap L x h.1 h.2 w hA
  · rw [(bandE_out h).1, (bandE_out h).2]; exact rBandP_no a len cap L x h w hA hlm
/-- What Next answers, of any plan and minute. -/
def NextOf (L : Nat → Sw) (len : Nat) (x n : Int) (is : Bool) : Prop := (PlanIs L len ∧ InDay x ∧ BNext L len x n is) ∨ (¬ (PlanIs L len ∧ InDay x) ∧ n = 0 ∧ is = false)
theorem NextOf.unique {L : Nat → Sw} {len : Nat} {x n n' : Int} {is is' : Bool} (h : NextOf L len x n is) (h' : NextOf L len x n' is') : n = n' ∧ is = is' := by
  rcases h with ⟨a, b, c⟩ | ⟨a, rfl, rfl⟩ <;> rcases h' with ⟨a', b', c'⟩ | ⟨a', rfl, rfl⟩
  · exact c.unique c'
  · exact absurd ⟨a, b⟩ a'
  · exact absurd ⟨a', b'⟩ a
  · exact ⟨rfl, rfl⟩
def NextEE (L : Nat → Sw) (len : Nat) (x : Int) (e : Ending) : Prop := ∃ n is, NextOf L len x n is ∧ e = .returned (.tuple #[.int .i64 n, .bool is])
theorem next_any (a : Option Addr) (len cap : Nat) (L : Nat → Sw) (x : Int) (w : World) (hA : SwsAt w.heap.size w a len L) (hlm : len ≤ maxLen) :
    Calls Try.prog 12 #[.slice a len cap, .int .i64 x] w fun e w' => NextEE L len x e ∧ Below w.heap.size w w' := by
  by_cases h : PlanIs L len ∧ InDay x
  · refine (next_yes a len cap L x w hA hlm h.1 h.2).mono ?_
    rintro e w' ⟨⟨n, is, hn, rfl⟩, hB⟩
    exact ⟨⟨n, is, .inl ⟨h.1, h.2, hn⟩, rfl⟩, hB⟩
  · refine (next_no a len cap L x w hA hlm h).mono ?_
    rintro e w' ⟨rfl, hB⟩
    exact ⟨⟨_, _, .inr ⟨h, rfl, rfl⟩, rfl⟩, hB⟩
theorem rNext_any (a : Option Addr) (len cap : Nat) (L : Nat → Sw) (x : Int) (w : World) (hA : SwsAt w.heap.size w a len L) (hlm : len ≤ maxLen) :
    Calls Try.prog 13 #[.slice a len cap, .int .i64 x] w fun e w' => NextEE L len x e ∧ Below w.heap.size w w' := by
  by_cases h : PlanIs L len ∧ InDay x
  · refine (rNextP_yes a len cap L x h.1 h.2 w hA).mono ?_
    rintro e w' ⟨⟨n, is, hn, rfl⟩, hB⟩
    exact ⟨⟨n, is, .inl ⟨h.1, h.2, hn⟩, rfl⟩, hB⟩
  · refine (rNextP_no a len cap L x h w hA hlm).mono ?_
    rintro e w' ⟨rfl, hB⟩
    exact ⟨⟨_, _, .inr ⟨h, rfl, rfl⟩, rfl⟩, hB⟩
/-- The shares of any plan. -/
def shF (L : Nat → Sw) (len : Nat) : Int → Int := if PlanIs L len then mins (strs L len) else fun _ => 0
theorem share_any (a : Option Addr) (len cap : Nat) (L : Nat → Sw) (w : World) (hA : SwsAt w.heap.size w a len L) (hlm : len ≤ maxLen) :
    Calls Try.prog 15 #[.slice a len cap] w fun e w' => e = .returned (.agg (shC (shF L len))) ∧ Below w.heap.size w w' := by
  by_cases h : PlanIs L len
  · rw [show shF L len = mins (strs L len) from if_pos h]; exact share_yes a len cap L w hA hlm h
  · rw [show shF L len = fun _ => 0 from if_neg h]; exact share_no a len cap L w hA hlm h
theorem rShare_any (a : Option Addr) (len cap : Nat) (L : Nat → Sw) (w : World) (hA : SwsAt w.heap.size w a len L) (hlm : len ≤ maxLen) :
    Calls Try.prog 16 #[.slice a len cap] w fun e w' => e = .returned (.agg (shC (shF L len))) ∧ Below w.heap.size w w' := by
  by_cases h : PlanIs L len
  · rw [show shF L len = mins (strs L len) from if_pos h]
    have m0 : mins (strs L len) 0 = cntN L len 0 1440 := mins_all h 0
    have m1 : mins (strs L len) 1 = cntN L len 1 1440 := mins_all h 1
    have m2 : mins (strs L len) 2 = cntN L len 2 1440 := mins_all h 2
    have m3 : mins (strs L len) 3 = cntN L len 3 1440 := mins_all h 3
    have m4 : mins (strs L len) 4 = cntN L len 4 1440 := mins_all h 4
    have m5 : mins (strs L len) 5 = cntN L len 5 1440 := mins_all h 5
    have m6 : mins (strs L len) 6 = cntN L len 6 1440 := mins_all h 6
    have m7 : mins (strs L len) 7 = cntN L len 7 1440 := mins_all h 7
    unfold shC
    rw [m0, m1, m2, m3, m4, m5, m6, m7]
    exact rShareP_yes a len cap L h w hA
  · rw [show shF L len = fun _ => 0 from if_neg h]; exact rShareP_no a len cap L h w hA hlm
theorem eql_sh (f : Int → Int) (w : World) : (Op.equalIn 10000 31 (.agg (shC f)) (.agg (shC f))).run Try.prog w = .ok true w := eql_a8 _ _ _ _ _ _ _ _ w
set_option maxRecDepth 100000 in
set_option maxHeartbeats 4000000 in
theorem plansW (a : Option Addr) (len cap : Nat) (L : Nat → Sw) (a2 : Option Addr) (len2 cap2 : Nat) (M : Nat → Sw) (x : Int) (w : World) (hw : (len ≤ cap ∧ cap ≤ maxLen) ∧ SwsAt w.heap.size w a len L) (hw2 : (len2 ≤ cap2 ∧ cap2 ≤ maxLen) ∧ SwsAt w.heap.size w a2 len2 M) (_hx : (Lit.int .i64 x).wf = true) :
    Calls Try.prog 3 #[.slice a len cap, .slice a2 len2 cap2, .int .i64 x] w fun e w' => e = .returned (.bool true) ∧ Below w.heap.size w w' := by
  have hlm : len ≤ maxLen := by omega
  have hlm2 : len2 ≤ maxLen := by omega
  obtain ⟨_, hA⟩ := hw
  obtain ⟨_, hM⟩ := hw2
  by_cases h1 : 60 < len
  · have g1 : (60 : Int) < len := by omega
    clear hA hM
    go_enter Try.func3, Try.ntmps3
    go_wp2
    go_ret
    exact ⟨rfl, Below.refl _ _⟩
  by_cases h2 : 60 < len2
  · have g1 : ¬ (60 : Int) < len := by omega
    have g2 : (60 : Int) < len2 := by omega
    clear hA hM
    go_enter Try.func3, Try.ntmps3
    go_wp2
    go_ret
    exact ⟨rfl, Below.refl _ _⟩
  have g1 : ¬ (60 : Int) < len := by omega
  have g2 : ¬ (60 : Int) < len2 := by omega
  have HA := Lib.hid (fun (W : World) (hB : Below w.heap.size w W) => (hA.next hB (Nat.le_refl _) (Nat.le_refl _)).mono hB.size)
  have HM := Lib.hid (fun (W : World) (hB : Below w.heap.size w W) => (hM.next hB (Nat.le_refl _) (Nat.le_refl _)).mono hB.size)
  have HLM := Lib.hid hlm
  have HLM2 := Lib.hid hlm2
  have HL1 := Lib.hid (show len ≤ 100000 by omega)
  have HL2 := Lib.hid (show len2 ≤ 100000 by omega)
  clear hA hM hlm hlm2 h1 h2
  have tail : ∀ (pe : Int) (pm : Bool), pErr L len = pe → decide (PlanIs L len) = pm → (pe = 0 ∧ pm = true ∨ pe = 90 ∧ pm = false) →
      Calls Try.prog 3 #[.slice a len cap, .slice a2 len2 cap2, .int .i64 x] w fun e w' => e = .returned (.bool true) ∧ Below w.heap.size w w' := by
    intro pe pm hpe hpm hor
    have HPE := Lib.hid hpe
    have HPM := Lib.hid hpm
    clear hpe hpm
    rcases hor with ⟨rfl, rfl⟩ | ⟨rfl, rfl⟩
    all_goals
      go_enter Try.func3, Try.ntmps3
      go_wp2_with fail
      refine (plan_any a len cap L w (HA.out w (Below.refl _ _)) HL1.out).mono ?_
      rintro e w1 ⟨⟨p, pc, rfl, hp⟩, hB1⟩
      have HP := Lib.hid hp
      have B1 := Lib.hid hB1
      clear hp hB1
      go_wp2_with fail
      refine (plan_any a2 len2 cap2 M w1 (HM.out w1 B1.out) HL2.out).mono ?_
      rintro e w2 ⟨⟨q, qc, rfl, hq⟩, hB2⟩
      have HP2 := Lib.hid ((HP.out.next hB2 (Nat.le_refl _) (Nat.le_refl _)).mono hB2.size)
      have HQ := Lib.hid hq
      have B2 := Lib.hid (B1.out.trans (hB2.mono B1.out.size))
      clear hq hB2 HP B1
      have HPX := Lib.hid (fun (W : World) (hB : Below w2.heap.size w2 W) => (HP2.out.next hB (Nat.le_refl _) (Nat.le_refl _)).mono hB.size)
      have HQX := Lib.hid (fun (W : World) (hB : Below w2.heap.size w2 W) => (HQ.out.next hB (Nat.le_refl _) (Nat.le_refl _)).mono hB.size)
      have HWX := Lib.hid (fun (W : World) (hB : Below w2.heap.size w2 W) => B2.out.trans (hB.mono B2.out.size))
      clear HP2 HQ B2
      have C2 := Lib.hid (Below.refl w2.heap.size w2)
      go_wp2_with fail
      refine (checkPlan_any a len cap L w2 (HA.out w2 (HWX.out _ C2.out)) HLM.out).mono ?_
      rw [HPE.out]
      rintro e w3 ⟨rfl, hB3⟩
      have C3 := Lib.hid (C2.out.trans (hB3.mono C2.out.size))
      clear hB3 C2
      go_wp2_with fail
      refine (band_any a len cap L x w3 (HA.out w3 (HWX.out _ C3.out)) HLM.out).mono ?_
      rintro e w4 ⟨rfl, hB4⟩
      have C4 := Lib.hid (C3.out.trans (hB4.mono C3.out.size))
      clear hB4 C3
      go_wp2_with fail
      refine (rBand_any p len pc L x w4 (HPX.out w4 C4.out) HLM.out).mono ?_
      rintro e w5 ⟨rfl, hB5⟩
      have C5 := Lib.hid (C4.out.trans (hB5.mono C4.out.size))
      clear hB5 C4
      go_wp2_with fail
      refine (next_any a len cap L x w5 (HA.out w5 (HWX.out _ C5.out)) HLM.out).mono ?_
      rintro e w6 ⟨⟨n, is, hn, rfl⟩, hB6⟩
      have HN := Lib.hid hn
      have C6 := Lib.hid (C5.out.trans (hB6.mono C5.out.size))
      clear hB6 C5 hn
      go_wp2_with fail
      refine (rNext_any p len pc L x w6 (HPX.out w6 C6.out) HLM.out).mono ?_
      rintro e w7 ⟨⟨n2, is2, hn2, rfl⟩, hB7⟩
      obtain ⟨rfl, rfl⟩ := hn2.unique HN.out
      have C7 := Lib.hid (C6.out.trans (hB7.mono C6.out.size))
      clear hB7 C6 hn2 HN
      go_wp2_with fail
      refine (rMayP_any p len pc L w7 (HPX.out w7 C7.out) HLM.out).mono ?_
      rw [HPM.out]
      rintro e w8 ⟨rfl, hB8⟩
      have C8 := Lib.hid (C7.out.trans (hB8.mono C7.out.size))
      clear hB8 C7
      go_wp2_with fail
      refine (share_any a len cap L w8 (HA.out w8 (HWX.out _ C8.out)) HLM.out).mono ?_
      rintro e w9 ⟨rfl, hB9⟩
      have C9 := Lib.hid (C8.out.trans (hB9.mono C8.out.size))
      clear hB9 C8
      go_wp2_with fail
      refine (rShare_any p len pc L w9 (HPX.out w9 C9.out) HLM.out).mono ?_
      rintro e w10 ⟨rfl, hB10⟩
      have C10 := Lib.hid (C9.out.trans (hB10.mono C9.out.size))
      have heq := eql_sh (shF L len) w10
      clear hB10 C9
      go_wp2_with fail
      refine (sameP_any a len cap L a2 len2 cap2 M w10 (HA.out w10 (HWX.out _ C10.out)) (HM.out w10 (HWX.out _ C10.out)) HLM.out HLM2.out).mono ?_
      rintro e w11 ⟨rfl, hB11⟩
      have C11 := Lib.hid (C10.out.trans (hB11.mono C10.out.size))
      clear hB11 C10 heq
      go_wp2_with fail
      refine (rSameP_any p len pc L q len2 qc M w11 (HPX.out w11 C11.out) (HQX.out w11 C11.out) HLM.out HLM2.out).mono ?_
      rintro e w12 ⟨rfl, hB12⟩
      have C12 := Lib.hid (C11.out.trans (hB12.mono C11.out.size))
      clear hB12 C11
      go_wp2_with fail
      refine (same_any a len cap L p len pc L w12 (HA.out w12 (HWX.out _ C12.out)) (HPX.out w12 C12.out) HLM.out HLM.out).mono ?_
      rw [decide_eq_true (show Alike L len L len from ⟨rfl, fun _ _ => rfl⟩)]
      rintro e w13 ⟨rfl, hB13⟩
      have C13 := Lib.hid (HWX.out _ (C12.out.trans (hB13.mono C12.out.size)))
      clear hB13 C12
      go_wp2
      go_ret
      exact ⟨rfl, C13.out⟩
  by_cases hp : PlanIs L len
  · exact tail 0 true (pErr_yes hp) (decide_eq_true hp) (.inl ⟨rfl, rfl⟩)
  · exact tail 90 false (pErr_no hp) (decide_eq_false hp) (.inr ⟨rfl, rfl⟩)
end Go.Proofs.Ytmbimnphdhmapaa
