/- The contracts of the document's Int and told: a signed number as an int64, or that it is none. -/
import Derived.Test.YtmkmpkajcjdfaaaUint
import Derived.Test.YtmkmpkajcjdfaaaRefSum
import Derived.Test.YtmkmpkajcjdfaaaMath
set_option linter.unusedVariables false
namespace Go.Proofs.Ytmkmpkajcjdfaaa
open Go.RowKit
set_option maxRecDepth 10000 in
set_option maxHeartbeats 1000000 in
theorem int_big (p : Bool) (n : Nat) (h : 18446744073709551616 ≤ n ∧ n < 2 ^ 200) (w : World) :
    Calls Try.prog 30 #[.agg (nb p n)] w fun e w' => e = .returned (.tuple #[.int .i64 0, .bool false]) ∧ Below w.heap.size w w' := by
  have hz := (zero_of_info info42).1
  have b1 : At (w.alloc (.cells (nb p n) 42)) w.heap.size (num p (bitf n)) := At.new w (nb p n)
  obtain ⟨w2, ew, x2, keep, hB2⟩ := fresh (w.alloc (.cells (nb p n) 42)) p (bitf n)
  have k1 := keep _ _ b1
  rw [World.size_alloc] at ew x2 hB2
  have c2 := x2.neg
  have f2 := x2.free 0
  have hB3 : Below w.heap.size w w2 := ((Below.refl _ w).alloc (Nat.le_refl _) _).trans (hB2.mono (by omega))
  have H1 := Lib.hid b1
  have HX : Hid (At ((w.alloc (.cells (nb p n) 42)).alloc (.cells zeroNum 42)) (w.heap.size + 1) (num false (fun _ => 0))) := by
    have := At.new (w.alloc (.cells (nb p n) 42)) zeroNum
    rw [World.size_alloc] at this
    exact this
  have HW := Lib.hid ew
  have HX2 := Lib.hid (x2.setNeg false)
  have HK1 := Lib.hid (k1.other (.bool false) (a := ⟨w.heap.size + 1, 0, none⟩) (by dsimp only; omega))
  have HB4 := Lib.hid (hB3.setCell (p := ⟨w.heap.size + 1, 0, none⟩) (by dsimp only; omega) (.bool false))
  clear b1 ew x2 keep k1 hB2 hB3
  go_enter Try.func30, Try.ntmps30
  go_wp2_with (first | (refine load_num H1.out rfl rfl rfl ?_) | (refine store_num HX.out rfl rfl rfl rfl ?_; rw [HW.out]) | (refine load_num HX2.out rfl rfl rfl ?_))
  refine (uint_out false n h _).mono ?_
  rintro e w3 ⟨rfl, hB5⟩
  have n1 := (HK1.out.below HK1.out.lt hB5).neg
  have hB6 := HB4.out.trans (hB5.mono HB4.out.size)
  clear H1 HX HW HX2 HK1 HB4 hB5 c2 f2
  go_wp2
  go_ret2
  exact ⟨rfl, hB6⟩
set_option maxRecDepth 10000 in
set_option maxHeartbeats 1000000 in
theorem int_over (p : Bool) (n : Nat) (h : 9223372036854775808 < n) (h2 : n ≤ 18446744073709551615) (w : World) :
    Calls Try.prog 30 #[.agg (nb p n)] w fun e w' => e = .returned (.tuple #[.int .i64 0, .bool false]) ∧ Below w.heap.size w w' := by
  have hz := (zero_of_info info42).1
  have b1 : At (w.alloc (.cells (nb p n) 42)) w.heap.size (num p (bitf n)) := At.new w (nb p n)
  obtain ⟨w2, ew, x2, keep, hB2⟩ := fresh (w.alloc (.cells (nb p n) 42)) p (bitf n)
  have k1 := keep _ _ b1
  rw [World.size_alloc] at ew x2 hB2
  have c2 := x2.neg
  have f2 := x2.free 0
  have hB3 : Below w.heap.size w w2 := ((Below.refl _ w).alloc (Nat.le_refl _) _).trans (hB2.mono (by omega))
  have H1 := Lib.hid b1
  have HX : Hid (At ((w.alloc (.cells (nb p n) 42)).alloc (.cells zeroNum 42)) (w.heap.size + 1) (num false (fun _ => 0))) := by
    have := At.new (w.alloc (.cells (nb p n) 42)) zeroNum
    rw [World.size_alloc] at this
    exact this
  have HW := Lib.hid ew
  have HX2 := Lib.hid (x2.setNeg false)
  have HK1 := Lib.hid (k1.other (.bool false) (a := ⟨w.heap.size + 1, 0, none⟩) (by dsimp only; omega))
  have HB4 := Lib.hid (hB3.setCell (p := ⟨w.heap.size + 1, 0, none⟩) (by dsimp only; omega) (.bool false))
  clear b1 ew x2 keep k1 hB2 hB3
  go_enter Try.func30, Try.ntmps30
  go_wp2_with (first | (refine load_num H1.out rfl rfl rfl ?_) | (refine store_num HX.out rfl rfl rfl rfl ?_; rw [HW.out]) | (refine load_num HX2.out rfl rfl rfl ?_))
  refine (uint_in false n h2 _).mono ?_
  rintro e w3 ⟨rfl, hB5⟩
  have n1 := (HK1.out.below HK1.out.lt hB5).neg
  have hB6 := HB4.out.trans (hB5.mono HB4.out.size)
  clear H1 HX HW HX2 HK1 HB4 hB5 c2 f2
  go_wp2
  go_ret2
  exact ⟨rfl, hB6⟩
set_option maxRecDepth 10000 in
set_option maxHeartbeats 1000000 in
theorem int_edge (n : Nat) (h : 9223372036854775807 < n) (h2 : n ≤ 9223372036854775808) (w : World) :
    Calls Try.prog 30 #[.agg (nb false n)] w fun e w' => e = .returned (.tuple #[.int .i64 0, .bool false]) ∧ Below w.heap.size w w' := by
  have hz := (zero_of_info info42).1
  have b1 : At (w.alloc (.cells (nb false n) 42)) w.heap.size (num false (bitf n)) := At.new w (nb false n)
  obtain ⟨w2, ew, x2, keep, hB2⟩ := fresh (w.alloc (.cells (nb false n) 42)) false (bitf n)
  have k1 := keep _ _ b1
  rw [World.size_alloc] at ew x2 hB2
  have c2 := x2.neg
  have f2 := x2.free 0
  have hB3 : Below w.heap.size w w2 := ((Below.refl _ w).alloc (Nat.le_refl _) _).trans (hB2.mono (by omega))
  have H1 := Lib.hid b1
  have HX : Hid (At ((w.alloc (.cells (nb false n) 42)).alloc (.cells zeroNum 42)) (w.heap.size + 1) (num false (fun _ => 0))) := by
    have := At.new (w.alloc (.cells (nb false n) 42)) zeroNum
    rw [World.size_alloc] at this
    exact this
  have HW := Lib.hid ew
  have HX2 := Lib.hid (x2.setNeg false)
  have HK1 := Lib.hid (k1.other (.bool false) (a := ⟨w.heap.size + 1, 0, none⟩) (by dsimp only; omega))
  have HB4 := Lib.hid (hB3.setCell (p := ⟨w.heap.size + 1, 0, none⟩) (by dsimp only; omega) (.bool false))
  clear b1 ew x2 keep k1 hB2 hB3
  go_enter Try.func30, Try.ntmps30
  go_wp2_with (first | (refine load_num H1.out rfl rfl rfl ?_) | (refine store_num HX.out rfl rfl rfl rfl ?_; rw [HW.out]) | (refine load_num HX2.out rfl rfl rfl ?_))
  refine (uint_in false n (by omega) _).mono ?_
  rintro e w3 ⟨rfl, hB5⟩
  have n1 := (HK1.out.below HK1.out.lt hB5).neg
  have hB6 := HB4.out.trans (hB5.mono HB4.out.size)
  clear H1 HX HW HX2 HK1 HB4 hB5 c2 f2
  go_wp2
  go_ret2
  exact ⟨rfl, hB6⟩
set_option maxRecDepth 10000 in
set_option maxHeartbeats 1000000 in
theorem int_pos (n : Nat) (h2 : n ≤ 9223372036854775807) (w : World) :
    Calls Try.prog 30 #[.agg (nb false n)] w fun e w' => e = .returned (.tuple #[.int .i64 n, .bool true]) ∧ Below w.heap.size w w' := by
  have hz := (zero_of_info info42).1
  have b1 : At (w.alloc (.cells (nb false n) 42)) w.heap.size (num false (bitf n)) := At.new w (nb false n)
  obtain ⟨w2, ew, x2, keep, hB2⟩ := fresh (w.alloc (.cells (nb false n) 42)) false (bitf n)
  have k1 := keep _ _ b1
  rw [World.size_alloc] at ew x2 hB2
  have c2 := x2.neg
  have f2 := x2.free 0
  have hB3 : Below w.heap.size w w2 := ((Below.refl _ w).alloc (Nat.le_refl _) _).trans (hB2.mono (by omega))
  have H1 := Lib.hid b1
  have HX : Hid (At ((w.alloc (.cells (nb false n) 42)).alloc (.cells zeroNum 42)) (w.heap.size + 1) (num false (fun _ => 0))) := by
    have := At.new (w.alloc (.cells (nb false n) 42)) zeroNum
    rw [World.size_alloc] at this
    exact this
  have HW := Lib.hid ew
  have HX2 := Lib.hid (x2.setNeg false)
  have HK1 := Lib.hid (k1.other (.bool false) (a := ⟨w.heap.size + 1, 0, none⟩) (by dsimp only; omega))
  have HB4 := Lib.hid (hB3.setCell (p := ⟨w.heap.size + 1, 0, none⟩) (by dsimp only; omega) (.bool false))
  clear b1 ew x2 keep k1 hB2 hB3
  go_enter Try.func30, Try.ntmps30
  go_wp2_with (first | (refine load_num H1.out rfl rfl rfl ?_) | (refine store_num HX.out rfl rfl rfl rfl ?_; rw [HW.out]) | (refine load_num HX2.out rfl rfl rfl ?_))
  refine (uint_in false n (by omega) _).mono ?_
  rintro e w3 ⟨rfl, hB5⟩
  have n1 := (HK1.out.below HK1.out.lt hB5).neg
  have hB6 := HB4.out.trans (hB5.mono HB4.out.size)
  clear H1 HX HW HX2 HK1 HB4 hB5 c2 f2
  go_wp2
  go_ret2
  exact ⟨rfl, hB6⟩
set_option maxRecDepth 10000 in
set_option maxHeartbeats 1000000 in
theorem int_neg (n : Nat) (h : 1 ≤ n) (h2 : n ≤ 9223372036854775808) (w : World) :
    Calls Try.prog 30 #[.agg (nb true n)] w fun e w' => e = .returned (.tuple #[.int .i64 (-(n : Int)), .bool true]) ∧ Below w.heap.size w w' := by
  have hz := (zero_of_info info42).1
  have b1 : At (w.alloc (.cells (nb true n) 42)) w.heap.size (num true (bitf n)) := At.new w (nb true n)
  obtain ⟨w2, ew, x2, keep, hB2⟩ := fresh (w.alloc (.cells (nb true n) 42)) true (bitf n)
  have k1 := keep _ _ b1
  rw [World.size_alloc] at ew x2 hB2
  have c2 := x2.neg
  have f2 := x2.free 0
  have hB3 : Below w.heap.size w w2 := ((Below.refl _ w).alloc (Nat.le_refl _) _).trans (hB2.mono (by omega))
  have H1 := Lib.hid b1
  have HX : Hid (At ((w.alloc (.cells (nb true n) 42)).alloc (.cells zeroNum 42)) (w.heap.size + 1) (num false (fun _ => 0))) := by
    have := At.new (w.alloc (.cells (nb true n) 42)) zeroNum
    rw [World.size_alloc] at this
    exact this
  have HW := Lib.hid ew
  have HX2 := Lib.hid (x2.setNeg false)
  have HK1 := Lib.hid (k1.other (.bool false) (a := ⟨w.heap.size + 1, 0, none⟩) (by dsimp only; omega))
  have HB4 := Lib.hid (hB3.setCell (p := ⟨w.heap.size + 1, 0, none⟩) (by dsimp only; omega) (.bool false))
  clear b1 ew x2 keep k1 hB2 hB3
  go_enter Try.func30, Try.ntmps30
  go_wp2_with (first | (refine load_num H1.out rfl rfl rfl ?_) | (refine store_num HX.out rfl rfl rfl rfl ?_; rw [HW.out]) | (refine load_num HX2.out rfl rfl rfl ?_))
  refine (uint_in false n (by omega) _).mono ?_
  rintro e w3 ⟨rfl, hB5⟩
  have n1 := (HK1.out.below HK1.out.lt hB5).neg
  have hB6 := HB4.out.trans (hB5.mono HB4.out.size)
  clear H1 HX HW HX2 HK1 HB4 hB5 c2 f2
  have hn0 : ((n : Int) == 0) = false := by simp; omega
  go_wp2
  all_goals
    go_ret2
    exact ⟨by rw [show -(n : Int) = -((n : Int) - 1) - 1 by omega]; rfl, hB6⟩
theorem int_yes (v : Int) (h1 : -9223372036854775808 ≤ v) (h2 : v ≤ 9223372036854775807) (w : World) :
    Calls Try.prog 30 #[.agg (sgn v)] w fun e w' => e = .returned (.tuple #[.int .i64 v, .bool true]) ∧ Below w.heap.size w w' := by
  rcases Int.lt_or_le v 0 with h | h
  · have k := int_neg v.natAbs (by omega) (by omega) w
    rw [show -((v.natAbs : Nat) : Int) = v by omega] at k
    rw [sgn_neg h]; exact k
  · have k := int_pos v.natAbs (by omega) w
    rw [show ((v.natAbs : Nat) : Int) = v by omega] at k
    rw [sgn_pos h]; exact k
theorem int_no (v : Int) (h : v.natAbs < 2 ^ 200) (hn : ¬ (-9223372036854775808 ≤ v ∧ v ≤ 9223372036854775807)) (w : World) :
    Calls Try.prog 30 #[.agg (sgn v)] w fun e w' => e = .returned (.tuple #[.int .i64 0, .bool false]) ∧ Below w.heap.size w w' := by
  by_cases hb : 18446744073709551616 ≤ v.natAbs
  · exact int_big _ _ ⟨hb, h⟩ w
  · by_cases ho : 9223372036854775808 < v.natAbs
    · exact int_over _ _ ho (by omega) w
    · rw [sgn_pos (show 0 ≤ v by omega)]
      exact int_edge _ (by omega) (by omega) w
set_option maxRecDepth 10000 in
set_option maxHeartbeats 1000000 in
theorem told_any (v : Int) (h : v.natAbs < 2 ^ 200) (w : World) :
    Calls Try.prog 18 #[.agg (sgn v)] w fun e w' => e = .returned (.tuple #[.int .i64 (tv v), .int .i64 (te v)]) ∧ Below w.heap.size w w' := by
  have b1 : At (w.alloc (.cells (sgn v) 42)) w.heap.size (num (decide (v < 0)) (bitf v.natAbs)) := At.new w (sgn v)
  have hB : Below w.heap.size w (w.alloc (.cells (sgn v) 42)) := (Below.refl _ w).alloc (Nat.le_refl _) _
  have H1 := Lib.hid b1
  have HB := Lib.hid hB
  have HV := Lib.hid h
  clear b1 hB h
  by_cases hf : -9223372036854775808 ≤ v ∧ v ≤ 9223372036854775807
  · rw [tv_in hf, te_in hf]
    have HF := Lib.hid hf
    clear hf
    go_enter Try.func18, Try.ntmps18
    go_wp2_with (refine load_num H1.out rfl rfl rfl ?_)
    refine (int_yes v HF.out.1 HF.out.2 _).mono ?_
    rintro e w1 ⟨rfl, hB1⟩
    go_wp2
    go_ret2
    exact ⟨rfl, HB.out.trans (hB1.mono HB.out.size)⟩
  · rw [tv_out hf, te_out hf]
    have HF := Lib.hid hf
    clear hf
    go_enter Try.func18, Try.ntmps18
    go_wp2_with (refine load_num H1.out rfl rfl rfl ?_)
    refine (int_no v HV.out HF.out _).mono ?_
    rintro e w1 ⟨rfl, hB1⟩
    go_wp2
    go_ret2
    exact ⟨rfl, HB.out.trans (hB1.mono HB.out.size)⟩
end Go.Proofs.Ytmkmpkajcjdfaaa
