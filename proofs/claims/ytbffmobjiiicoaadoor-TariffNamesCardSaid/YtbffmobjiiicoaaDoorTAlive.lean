/- The chapter's first examples: is, alive. -/
import Derived.Test.YtbffmobjiiicoaaDoorTSome
set_option linter.unusedVariables false
set_option linter.unusedSimpArgs false
namespace Go.Proofs.YtbffmobjiiicoaaDoor
open Go.RowKit Go.Shelf
theorem plan0 {k : Int} (hk : k ≠ 3) (s : Int) : B9.PlanOf someQ 1 s k 0 := .inr ⟨rfl, fun j hj => by
  obtain rfl : j = 0 := by omega
  rintro ⟨_, h | h⟩
  · exact absurd h (by decide)
  · exact hk h.symm⟩
theorem plan1 (s : Int) : B9.PlanOf someQ 1 s 3 1 := .inl ⟨0, by decide, ⟨.inl rfl, .inr rfl⟩, rfl, fun j hj => absurd hj (Nat.not_lt_zero _)⟩
theorem band_of (n : Nat) (t y m d s k mi : Int) (p : Nat) (b : Int) (hp : p < 2) (h1 : IsDate (dayT (someT 0) t) y m d) (h2 : k = H8.kindB (dayT (someT 0) t) (decide (dayT (someT 0) t ∈ H8.hds (fun _ => ⟨0, 0, 0, 0, 0, 0⟩) y 0)))
    (h3 : mi = minT (someT 0) t) (h4 : B9.PlanOf someQ 1 0 k p) (h5 : b = B9.bandN (if p = 0 then someL0 else someL1) (if p = 0 then 2 else 1) mi) : BandIs (someT n) t 0 k mi b := by
  refine ⟨⟨y, m, d, h1, .inl ⟨rfl, rfl⟩, h2, h3⟩, p, hp, h4, ?_⟩
  rcases (show p = 0 ∨ p = 1 by omega) with rfl | rfl <;> exact h5
theorem ex0 : OffT (someT 0) 0 ∧ IsDate (dayT (someT 0) 0) 1970 1 1 ∧ H8.kindB (dayT (someT 0) 0) (decide (dayT (someT 0) 0 ∈ H8.hds (fun _ => ⟨0, 0, 0, 0, 0, 0⟩) 1970 0)) = 1 ∧ minT (someT 0) 0 = 60 := by decide +kernel
theorem ex1 : OffT (someT 0) 18000 ∧ IsDate (dayT (someT 0) 18000) 1970 1 1 ∧ H8.kindB (dayT (someT 0) 18000) (decide (dayT (someT 0) 18000 ∈ H8.hds (fun _ => ⟨0, 0, 0, 0, 0, 0⟩) 1970 0)) = 1 ∧ minT (someT 0) 18000 = 360 := by decide +kernel
theorem ex2 : OffT (someT 0) 17999 ∧ IsDate (dayT (someT 0) 17999) 1970 1 1 ∧ H8.kindB (dayT (someT 0) 17999) (decide (dayT (someT 0) 17999 ∈ H8.hds (fun _ => ⟨0, 0, 0, 0, 0, 0⟩) 1970 0)) = 1 ∧ minT (someT 0) 17999 = 359 := by decide +kernel
theorem ex3 : OffT (someT 0) 277200 ∧ IsDate (dayT (someT 0) 277200) 1970 1 4 ∧ H8.kindB (dayT (someT 0) 277200) (decide (dayT (someT 0) 277200 ∈ H8.hds (fun _ => ⟨0, 0, 0, 0, 0, 0⟩) 1970 0)) = 3 ∧ minT (someT 0) 277200 = 360 := by decide +kernel
theorem is_of (t b p : Int) (s k mi : Int) (w : World) (hT : Tabs w) (ho : OffT (someT 0) t) (hb : ∀ n, BandIs (someT n) t s k mi b) (hp : V10.priceO someV t b = some p) :
    Calls Tryd.prog 39 #[.int .i64 t, .int .i64 b, .int .i64 p] w fun e w' => e = .returned (.bool true) ∧ Below w.heap.size w w' := by
  have HS := Lib.hid (some_any w)
  have HO := Lib.hid ho
  have HBB := Lib.hid hb
  have HP := Lib.hid hp
  have HTT := Lib.hid hT
  clear ho hb hp hT
  go_enter Tryd.func39, Tryd.ntmps39
  go_wp2_with fail
  refine HS.out.mono ?_
  rintro e w1 ⟨rfl, hS, hB⟩
  have HS1 := Lib.hid hS
  have HB1 := Lib.hid hB
  clear hS hB
  go_wp2_with fail
  refine (at_ok (someT w.heap.size) t w1 HS1.out.tar (someT_len _) (HTT.out.next HB1.out) (someT_is _) HO.out).mono ?_
  rintro e w2 ⟨⟨s', k', mi', b', hbi, hor⟩, hB⟩
  obtain rfl : b = b' := BandIs.unique (someT_is _) (HBB.out _) hbi
  have hB2 := Lib.hid (HB1.out.trans (hB.mono HB1.out.size))
  obtain ⟨p', hp', rfl⟩ | ⟨hp', _⟩ := hor
  · obtain rfl : p = p' := Option.some.inj (HP.out.symm.trans hp')
    clear hbi hp' hB
    go_wp2
    go_ret
    exact ⟨rfl, hB2.out⟩
  · have : V10.priceO someV t b = none := hp'
    rw [HP.out] at this
    cases this
section
variable (w : World) (hT : Tabs w)
include hT
theorem is0 : Calls Tryd.prog 39 #[.int .i64 0, .int .i64 0, .int .i64 100] w fun e w' => e = .returned (.bool true) ∧ Below w.heap.size w w' :=
  is_of 0 0 100 0 1 60 w hT ex0.1 (fun n => band_of n 0 1970 1 1 0 1 60 0 0 (by decide) ex0.2.1 ex0.2.2.1.symm ex0.2.2.2.symm (plan0 (by decide) 0) (by decide)) (by decide)
theorem is1 : Calls Tryd.prog 39 #[.int .i64 18000, .int .i64 1, .int .i64 250] w fun e w' => e = .returned (.bool true) ∧ Below w.heap.size w w' :=
  is_of 18000 1 250 0 1 360 w hT ex1.1 (fun n => band_of n 18000 1970 1 1 0 1 360 0 1 (by decide) ex1.2.1 ex1.2.2.1.symm ex1.2.2.2.symm (plan0 (by decide) 0) (by decide)) (by decide)
theorem is2 : Calls Tryd.prog 39 #[.int .i64 17999, .int .i64 0, .int .i64 100] w fun e w' => e = .returned (.bool true) ∧ Below w.heap.size w w' :=
  is_of 17999 0 100 0 1 359 w hT ex2.1 (fun n => band_of n 17999 1970 1 1 0 1 359 0 0 (by decide) ex2.2.1 ex2.2.2.1.symm ex2.2.2.2.symm (plan0 (by decide) 0) (by decide)) (by decide)
theorem is3 : Calls Tryd.prog 39 #[.int .i64 277200, .int .i64 0, .int .i64 100] w fun e w' => e = .returned (.bool true) ∧ Below w.heap.size w w' :=
  is_of 277200 0 100 0 3 360 w hT ex3.1 (fun n => band_of n 277200 1970 1 4 0 3 360 1 0 (by decide) ex3.2.1 ex3.2.2.1.symm ex3.2.2.2.symm (plan1 0) (by decide)) (by decide)
end
theorem pay_ex1 : payV (fun _ => 0) 0 1 3999 250 = 0 ∧ payE (fun _ => 0) 0 1 3999 250 = 0 := by decide +kernel
theorem pay_ex2 : payV (payF (fun _ => 0) 0 1 3999 250) 0 1 1 250 = 1 ∧ payE (payF (fun _ => 0) 0 1 3999 250) 0 1 1 250 = 0 ∧ restV (payF (payF (fun _ => 0) 0 1 3999 250) 0 1 1 250) 0 1 = 0 := by decide +kernel
set_option maxRecDepth 20000 in
set_option maxHeartbeats 1000000 in
theorem alive_any (w : World) (hT : Tabs w) : Calls Tryd.prog 13 #[] w fun e w' => e = .returned (.bool true) ∧ Below w.heap.size w w' := by
  have HTT := Lib.hid hT
  have HN := Lib.hid (PAt.new w 54 (fun _ => 0))
  have HB0 := Lib.hid ((Below.refl w.heap.size w).alloc (Nat.le_refl _) (.cells zeroP 54))
  clear hT
  go_enter Tryd.func13, Tryd.ntmps13
  go_wp2_with (refine build_purse rfl rfl ?_)
  refine (pay_any w.heap.size (fun _ => 0) 0 1 3999 250 _ HN.out Rests.zero).mono ?_
  rintro e w1 ⟨rfl, hP, hG⟩
  rw [pay_ex1.1, pay_ex1.2]
  have HP1 := Lib.hid hP
  have HB1 := Lib.hid (below_grown HB0.out hG HB0.out.size (Nat.le_refl _))
  clear hP hG
  go_wp2_with fail
  refine (pay_any w.heap.size _ 0 1 1 250 _ HP1.out (Rests.zero.pay 0 1 3999 250)).mono ?_
  rintro e w2 ⟨rfl, hP, hG⟩
  rw [pay_ex2.1, pay_ex2.2.1]
  have HP2 := Lib.hid hP
  have HB2 := Lib.hid (below_grown HB1.out hG (Nat.le_of_lt HP1.out.lt) (Nat.le_refl _))
  clear hP hG
  go_wp2_with fail
  refine (is0 w2 (HTT.out.next HB2.out)).mono ?_
  rintro e w3 ⟨rfl, hB⟩
  have HP3 := Lib.hid (HP2.out.next hB)
  have HB3 := Lib.hid (HB2.out.trans (hB.mono HB2.out.size))
  clear hB
  go_wp2_with fail
  refine (is1 w3 (HTT.out.next HB3.out)).mono ?_
  rintro e w4 ⟨rfl, hB⟩
  have HP4 := Lib.hid (HP3.out.next hB)
  have HB4 := Lib.hid (HB3.out.trans (hB.mono HB3.out.size))
  clear hB
  go_wp2_with fail
  refine (is2 w4 (HTT.out.next HB4.out)).mono ?_
  rintro e w5 ⟨rfl, hB⟩
  have HP5 := Lib.hid (HP4.out.next hB)
  have HB5 := Lib.hid (HB4.out.trans (hB.mono HB4.out.size))
  clear hB
  go_wp2_with fail
  refine (is3 w5 (HTT.out.next HB5.out)).mono ?_
  rintro e w6 ⟨rfl, hB⟩
  have HP6 := Lib.hid (HP5.out.next hB)
  have HB6 := Lib.hid (HB5.out.trans (hB.mono HB5.out.size))
  clear hB
  go_wp2_with fail
  refine (rest_any w.heap.size _ 0 1 w6 HP6.out).mono ?_
  rintro e _ ⟨rfl, rfl⟩
  rw [pay_ex2.2.2]
  go_wp2
  go_ret
  exact ⟨rfl, HB6.out⟩
end Go.Proofs.YtbffmobjiiicoaaDoor
