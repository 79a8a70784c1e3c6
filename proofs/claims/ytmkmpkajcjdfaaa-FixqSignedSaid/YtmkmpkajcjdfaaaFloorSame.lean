/- The document's Floor, where both numbers stand on one side of nought. -/
import Derived.Test.YtmkmpkajcjdfaaaFive
import Derived.OwnWalk
set_option linter.unusedVariables false
namespace Go.Proofs.Ytmkmpkajcjdfaaa
open Go.RowKit
set_option maxRecDepth 10000 in
set_option maxHeartbeats 2000000 in
theorem rfloor_ff0 (a b n m : Int) (X Y : Nat) (hb0 : (b == 0) = false) (hX : X ≤ 18446744073709551615) (hY : Y ≤ 18446744073709551615) (hY0 : 0 < Y) (hrest : X % Y = 0) 
    (ha : ∀ W : World, Calls Try.prog 20 #[.int .i64 a] W fun e w' => e = .returned (.agg (num false (bitf X))) ∧ Below W.heap.size W w')
    (hb : ∀ W : World, Calls Try.prog 20 #[.int .i64 b] W fun e w' => e = .returned (.agg (num false (bitf Y))) ∧ Below W.heap.size W w')
    (hq : ∀ W : World, Calls Try.prog 30 #[.agg (num false (bitf (X / Y)))] W fun e w' => e = .returned (.tuple #[.int .i64 n, .bool true]) ∧ Below W.heap.size W w')
    (hr : ∀ W : World, Calls Try.prog 30 #[.agg (num false (bitf (X % Y)))] W fun e w' => e = .returned (.tuple #[.int .i64 m, .bool true]) ∧ Below W.heap.size W w') (w : World) :
    Calls Try.prog 14 #[.int .i64 a, .int .i64 b] w fun e w' => e = .returned (.tuple #[.int .i64 n, .int .i64 m, .int .i64 0]) ∧ Below w.heap.size w w' := by
  have hz := (zero_of_info info42).1
  have Hha := Lib.hid ha
  have Hhb := Lib.hid hb
  have Hhq := Lib.hid hq
  have Hhr := Lib.hid hr
  have HhX := Lib.hid hX
  have HhY := Lib.hid hY
  have HhY0 := Lib.hid hY0
  have Hhrest := Lib.hid hrest
  clear ha hb hq hr hX hY hY0 hrest
  go_enter Try.func14, Try.ntmps14
  go_wp2_with fail
  refine (Hha.out _).mono ?_
  rintro e w1 ⟨rfl, hB1⟩
  obtain ⟨w2, ew, x2, keep, hB2⟩ := fresh w1 false (bitf X)
  have KX := Lib.hid (At.new w1 zeroNum)
  have HW := Lib.hid ew
  have X2 := Lib.hid x2
  have s1 := hB1.size
  have HB2 := Lib.hid (hB1.trans (hB2.mono s1))
  clear ew x2 keep hB2 hB1
  go_wp2_with (refine store_num (f' := fun _ => 0) KX.out rfl rfl rfl rfl ?_; rw [HW.out])
  generalize w1.heap.size = bx at *
  clear KX HW
  refine (Hhb.out _).mono ?_
  rintro e w3 ⟨rfl, hB3⟩
  obtain ⟨w4, ew, y4, keep, hB4⟩ := fresh w3 false (bitf Y)
  have x3 := X2.out.below X2.out.lt hB3
  have KX := Lib.hid (At.new w3 zeroNum)
  have HW := Lib.hid ew
  have X4 := Lib.hid (keep _ _ x3)
  have Y4 := Lib.hid y4
  have hB5 := HB2.out.trans (hB3.mono HB2.out.size)
  have HB4 := Lib.hid (hB5.trans (hB4.mono hB5.size))
  have hlt1 := x3.lt
  clear ew y4 keep hB3 hB4 hB5 x3 X2 HB2
  go_wp2_with (first | (refine store_num (f' := fun _ => 0) KX.out rfl rfl rfl rfl ?_; rw [HW.out]) | (refine load_num X4.out rfl rfl rfl ?_) | (refine load_num Y4.out rfl rfl rfl ?_))
  generalize w3.heap.size = bt at *
  clear KX HW
  refine (parts_core false false X Y HhX.out HhY.out HhY0.out _).mono ?_
  rintro e w5 ⟨rfl, hB5⟩
  obtain ⟨w6, ew, a1, a2, q6, r6, keep, hB6⟩ := fresh2 w5 (X / Y) (X % Y)
  have x5 := X4.out.below X4.out.lt hB5
  have y5 := Y4.out.below Y4.out.lt hB5
  have hB7 := HB4.out.trans (hB5.mono HB4.out.size)
  have hB8 := hB7.trans (hB6.mono hB7.size)
  have hlt2 := y5.lt
  obtain ⟨w7, ew7, z7, keep7, hB9⟩ := fresh w6 false (fun _ => 0)
  have hlt3 := r6.lt
  have F7 : Five w w7 bx bt w5.heap.size (w5.heap.size + 1) w6.heap.size false false X Y false (X / Y) false (X % Y) :=
    ⟨keep7 _ _ (keep _ _ x5), keep7 _ _ (keep _ _ y5), keep7 _ _ q6, keep7 _ _ r6, z7, by omega, hlt1, hlt2, by omega, hlt3, hB8.trans (hB9.mono hB8.size)⟩
  have KA := Lib.hid a1
  have KB := Lib.hid a2
  have HW := Lib.hid ew
  have KZ := Lib.hid (At.new w6 zeroNum)
  have HW7 := Lib.hid ew7
  have HF := Lib.hid F7
  clear ew a1 a2 q6 r6 keep hB6 x5 y5 hB7 hB8 ew7 z7 keep7 hB9 F7 hB5 X4 Y4 HB4 hlt1 hlt2 hlt3 s1
  go_wp2_with (first | (refine store_num (f' := fun _ => 0) KA.out rfl rfl rfl rfl ?_) | (refine store_num (f' := fun _ => 0) KB.out rfl rfl rfl rfl ?_; rw [HW.out]) | (refine build_num rfl rfl ?_) | (refine store_num (neg := false) (f := fun _ => 0) (f' := fun _ => 0) KZ.out rfl rfl rfl rfl ?_; rw [HW7.out]) | (refine load_num HF.out.r rfl rfl rfl ?_) | (refine load_num HF.out.z rfl rfl rfl ?_))
  generalize w6.heap.size = bz at *
  generalize hbr : w5.heap.size + 1 = br at *
  clear hbr
  generalize w5.heap.size = bq at *
  clear KA KB HW KZ HW7
  refine (bare_nought false (X % Y) Hhrest.out _).mono ?_
  rintro e w8 ⟨rfl, hB10⟩
  have F := HF.out.below hB10
  clear HF hB10
  have n1 := F.x.neg
  have n2 := F.y.neg
  have HF := Lib.hid F
  clear F
  go_wp2_with (first | (refine load_num HF.out.r rfl rfl rfl ?_) | (refine load_num HF.out.z rfl rfl rfl ?_))
  refine (bare_nought false (X % Y) Hhrest.out _).mono ?_
  rintro e wA ⟨rfl, hBA⟩
  have FA := HF.out.below hBA
  clear HF hBA
  have n2 := FA.y.neg
  have c1 := FA.r.neg
  have f1 := FA.r.free 0
  have HG := Lib.hid (FA.negR false)
  clear FA
  go_wp2_with (refine load_num HG.out.q rfl rfl rfl ?_)
  clear n2 c1 f1
  refine (Hhq.out _).mono ?_
  rintro e wB ⟨rfl, hBB⟩
  have HH := Lib.hid (HG.out.below hBB)
  clear HG hBB
  go_wp2_with (refine load_num HH.out.r rfl rfl rfl ?_)
  refine (Hhr.out _).mono ?_
  rintro e wC ⟨rfl, hBC⟩
  have FC := (HH.out.below hBC).b
  clear HH hBC
  go_wp2
  go_ret3
  exact ⟨rfl, FC⟩
set_option maxRecDepth 10000 in
set_option maxHeartbeats 2000000 in
theorem rfloor_ff1 (a b n m : Int) (X Y : Nat) (hb0 : (b == 0) = false) (hX : X ≤ 18446744073709551615) (hY : Y ≤ 18446744073709551615) (hY0 : 0 < Y) (hrest : 0 < X % Y) 
    (ha : ∀ W : World, Calls Try.prog 20 #[.int .i64 a] W fun e w' => e = .returned (.agg (num false (bitf X))) ∧ Below W.heap.size W w')
    (hb : ∀ W : World, Calls Try.prog 20 #[.int .i64 b] W fun e w' => e = .returned (.agg (num false (bitf Y))) ∧ Below W.heap.size W w')
    (hq : ∀ W : World, Calls Try.prog 30 #[.agg (num false (bitf (X / Y)))] W fun e w' => e = .returned (.tuple #[.int .i64 n, .bool true]) ∧ Below W.heap.size W w')
    (hr : ∀ W : World, Calls Try.prog 30 #[.agg (num false (bitf (X % Y)))] W fun e w' => e = .returned (.tuple #[.int .i64 m, .bool true]) ∧ Below W.heap.size W w') (w : World) :
    Calls Try.prog 14 #[.int .i64 a, .int .i64 b] w fun e w' => e = .returned (.tuple #[.int .i64 n, .int .i64 m, .int .i64 0]) ∧ Below w.heap.size w w' := by
  have hz := (zero_of_info info42).1
  have Hha := Lib.hid ha
  have Hhb := Lib.hid hb
  have Hhq := Lib.hid hq
  have Hhr := Lib.hid hr
  have HhX := Lib.hid hX
  have HhY := Lib.hid hY
  have HhY0 := Lib.hid hY0
  have Hhrest := Lib.hid hrest
  clear ha hb hq hr hX hY hY0 hrest
  go_enter Try.func14, Try.ntmps14
  go_wp2_with fail
  refine (Hha.out _).mono ?_
  rintro e w1 ⟨rfl, hB1⟩
  obtain ⟨w2, ew, x2, keep, hB2⟩ := fresh w1 false (bitf X)
  have KX := Lib.hid (At.new w1 zeroNum)
  have HW := Lib.hid ew
  have X2 := Lib.hid x2
  have s1 := hB1.size
  have HB2 := Lib.hid (hB1.trans (hB2.mono s1))
  clear ew x2 keep hB2 hB1
  go_wp2_with (refine store_num (f' := fun _ => 0) KX.out rfl rfl rfl rfl ?_; rw [HW.out])
  generalize w1.heap.size = bx at *
  clear KX HW
  refine (Hhb.out _).mono ?_
  rintro e w3 ⟨rfl, hB3⟩
  obtain ⟨w4, ew, y4, keep, hB4⟩ := fresh w3 false (bitf Y)
  have x3 := X2.out.below X2.out.lt hB3
  have KX := Lib.hid (At.new w3 zeroNum)
  have HW := Lib.hid ew
  have X4 := Lib.hid (keep _ _ x3)
  have Y4 := Lib.hid y4
  have hB5 := HB2.out.trans (hB3.mono HB2.out.size)
  have HB4 := Lib.hid (hB5.trans (hB4.mono hB5.size))
  have hlt1 := x3.lt
  clear ew y4 keep hB3 hB4 hB5 x3 X2 HB2
  go_wp2_with (first | (refine store_num (f' := fun _ => 0) KX.out rfl rfl rfl rfl ?_; rw [HW.out]) | (refine load_num X4.out rfl rfl rfl ?_) | (refine load_num Y4.out rfl rfl rfl ?_))
  generalize w3.heap.size = bt at *
  clear KX HW
  refine (parts_core false false X Y HhX.out HhY.out HhY0.out _).mono ?_
  rintro e w5 ⟨rfl, hB5⟩
  obtain ⟨w6, ew, a1, a2, q6, r6, keep, hB6⟩ := fresh2 w5 (X / Y) (X % Y)
  have x5 := X4.out.below X4.out.lt hB5
  have y5 := Y4.out.below Y4.out.lt hB5
  have hB7 := HB4.out.trans (hB5.mono HB4.out.size)
  have hB8 := hB7.trans (hB6.mono hB7.size)
  have hlt2 := y5.lt
  obtain ⟨w7, ew7, z7, keep7, hB9⟩ := fresh w6 false (fun _ => 0)
  have hlt3 := r6.lt
  have F7 : Five w w7 bx bt w5.heap.size (w5.heap.size + 1) w6.heap.size false false X Y false (X / Y) false (X % Y) :=
    ⟨keep7 _ _ (keep _ _ x5), keep7 _ _ (keep _ _ y5), keep7 _ _ q6, keep7 _ _ r6, z7, by omega, hlt1, hlt2, by omega, hlt3, hB8.trans (hB9.mono hB8.size)⟩
  have KA := Lib.hid a1
  have KB := Lib.hid a2
  have HW := Lib.hid ew
  have KZ := Lib.hid (At.new w6 zeroNum)
  have HW7 := Lib.hid ew7
  have HF := Lib.hid F7
  clear ew a1 a2 q6 r6 keep hB6 x5 y5 hB7 hB8 ew7 z7 keep7 hB9 F7 hB5 X4 Y4 HB4 hlt1 hlt2 hlt3 s1
  go_wp2_with (first | (refine store_num (f' := fun _ => 0) KA.out rfl rfl rfl rfl ?_) | (refine store_num (f' := fun _ => 0) KB.out rfl rfl rfl rfl ?_; rw [HW.out]) | (refine build_num rfl rfl ?_) | (refine store_num (neg := false) (f := fun _ => 0) (f' := fun _ => 0) KZ.out rfl rfl rfl rfl ?_; rw [HW7.out]) | (refine load_num HF.out.r rfl rfl rfl ?_) | (refine load_num HF.out.z rfl rfl rfl ?_))
  generalize w6.heap.size = bz at *
  generalize hbr : w5.heap.size + 1 = br at *
  clear hbr
  generalize w5.heap.size = bq at *
  clear KA KB HW KZ HW7
  refine (bare_one false (X % Y) (Nat.lt_of_le_of_lt (Nat.mod_le _ _) (Nat.lt_of_le_of_lt HhX.out (by omega))) Hhrest.out _).mono ?_
  rintro e w8 ⟨rfl, hB10⟩
  have F := HF.out.below hB10
  clear HF hB10
  have n1 := F.x.neg
  have n2 := F.y.neg
  have HF := Lib.hid F
  clear F
  go_wp2_with (first | (refine load_num HF.out.r rfl rfl rfl ?_) | (refine load_num HF.out.z rfl rfl rfl ?_))
  refine (bare_one false (X % Y) (Nat.lt_of_le_of_lt (Nat.mod_le _ _) (Nat.lt_of_le_of_lt HhX.out (by omega))) Hhrest.out _).mono ?_
  rintro e wA ⟨rfl, hBA⟩
  have FA := HF.out.below hBA
  clear HF hBA
  have n2 := FA.y.neg
  have c1 := FA.r.neg
  have f1 := FA.r.free 0
  have HG := Lib.hid (FA.negR false)
  clear FA
  go_wp2_with (refine load_num HG.out.q rfl rfl rfl ?_)
  clear n2 c1 f1
  refine (Hhq.out _).mono ?_
  rintro e wB ⟨rfl, hBB⟩
  have HH := Lib.hid (HG.out.below hBB)
  clear HG hBB
  go_wp2_with (refine load_num HH.out.r rfl rfl rfl ?_)
  refine (Hhr.out _).mono ?_
  rintro e wC ⟨rfl, hBC⟩
  have FC := (HH.out.below hBC).b
  clear HH hBC
  go_wp2
  go_ret3
  exact ⟨rfl, FC⟩
set_option maxRecDepth 10000 in
set_option maxHeartbeats 2000000 in
theorem rfloor_tt0 (a b n m : Int) (X Y : Nat) (hb0 : (b == 0) = false) (hX : X ≤ 18446744073709551615) (hY : Y ≤ 18446744073709551615) (hY0 : 0 < Y) (hrest : X % Y = 0) 
    (ha : ∀ W : World, Calls Try.prog 20 #[.int .i64 a] W fun e w' => e = .returned (.agg (num true (bitf X))) ∧ Below W.heap.size W w')
    (hb : ∀ W : World, Calls Try.prog 20 #[.int .i64 b] W fun e w' => e = .returned (.agg (num true (bitf Y))) ∧ Below W.heap.size W w')
    (hq : ∀ W : World, Calls Try.prog 30 #[.agg (num false (bitf (X / Y)))] W fun e w' => e = .returned (.tuple #[.int .i64 n, .bool true]) ∧ Below W.heap.size W w')
    (hr : ∀ W : World, Calls Try.prog 30 #[.agg (num false (bitf (X % Y)))] W fun e w' => e = .returned (.tuple #[.int .i64 m, .bool true]) ∧ Below W.heap.size W w') (w : World) :
    Calls Try.prog 14 #[.int .i64 a, .int .i64 b] w fun e w' => e = .returned (.tuple #[.int .i64 n, .int .i64 m, .int .i64 0]) ∧ Below w.heap.size w w' := by
  have hz := (zero_of_info info42).1
  have Hha := Lib.hid ha
  have Hhb := Lib.hid hb
  have Hhq := Lib.hid hq
  have Hhr := Lib.hid hr
  have HhX := Lib.hid hX
  have HhY := Lib.hid hY
  have HhY0 := Lib.hid hY0
  have Hhrest := Lib.hid hrest
  clear ha hb hq hr hX hY hY0 hrest
  go_enter Try.func14, Try.ntmps14
  go_wp2_with fail
  refine (Hha.out _).mono ?_
  rintro e w1 ⟨rfl, hB1⟩
  obtain ⟨w2, ew, x2, keep, hB2⟩ := fresh w1 true (bitf X)
  have KX := Lib.hid (At.new w1 zeroNum)
  have HW := Lib.hid ew
  have X2 := Lib.hid x2
  have s1 := hB1.size
  have HB2 := Lib.hid (hB1.trans (hB2.mono s1))
  clear ew x2 keep hB2 hB1
  go_wp2_with (refine store_num (f' := fun _ => 0) KX.out rfl rfl rfl rfl ?_; rw [HW.out])
  generalize w1.heap.size = bx at *
  clear KX HW
  refine (Hhb.out _).mono ?_
  rintro e w3 ⟨rfl, hB3⟩
  obtain ⟨w4, ew, y4, keep, hB4⟩ := fresh w3 true (bitf Y)
  have x3 := X2.out.below X2.out.lt hB3
  have KX := Lib.hid (At.new w3 zeroNum)
  have HW := Lib.hid ew
  have X4 := Lib.hid (keep _ _ x3)
  have Y4 := Lib.hid y4
  have hB5 := HB2.out.trans (hB3.mono HB2.out.size)
  have HB4 := Lib.hid (hB5.trans (hB4.mono hB5.size))
  have hlt1 := x3.lt
  clear ew y4 keep hB3 hB4 hB5 x3 X2 HB2
  go_wp2_with (first | (refine store_num (f' := fun _ => 0) KX.out rfl rfl rfl rfl ?_; rw [HW.out]) | (refine load_num X4.out rfl rfl rfl ?_) | (refine load_num Y4.out rfl rfl rfl ?_))
  generalize w3.heap.size = bt at *
  clear KX HW
  refine (parts_core true true X Y HhX.out HhY.out HhY0.out _).mono ?_
  rintro e w5 ⟨rfl, hB5⟩
  obtain ⟨w6, ew, a1, a2, q6, r6, keep, hB6⟩ := fresh2 w5 (X / Y) (X % Y)
  have x5 := X4.out.below X4.out.lt hB5
  have y5 := Y4.out.below Y4.out.lt hB5
  have hB7 := HB4.out.trans (hB5.mono HB4.out.size)
  have hB8 := hB7.trans (hB6.mono hB7.size)
  have hlt2 := y5.lt
  obtain ⟨w7, ew7, z7, keep7, hB9⟩ := fresh w6 false (fun _ => 0)
  have hlt3 := r6.lt
  have F7 : Five w w7 bx bt w5.heap.size (w5.heap.size + 1) w6.heap.size true true X Y false (X / Y) false (X % Y) :=
    ⟨keep7 _ _ (keep _ _ x5), keep7 _ _ (keep _ _ y5), keep7 _ _ q6, keep7 _ _ r6, z7, by omega, hlt1, hlt2, by omega, hlt3, hB8.trans (hB9.mono hB8.size)⟩
  have KA := Lib.hid a1
  have KB := Lib.hid a2
  have HW := Lib.hid ew
  have KZ := Lib.hid (At.new w6 zeroNum)
  have HW7 := Lib.hid ew7
  have HF := Lib.hid F7
  clear ew a1 a2 q6 r6 keep hB6 x5 y5 hB7 hB8 ew7 z7 keep7 hB9 F7 hB5 X4 Y4 HB4 hlt1 hlt2 hlt3 s1
  go_wp2_with (first | (refine store_num (f' := fun _ => 0) KA.out rfl rfl rfl rfl ?_) | (refine store_num (f' := fun _ => 0) KB.out rfl rfl rfl rfl ?_; rw [HW.out]) | (refine build_num rfl rfl ?_) | (refine store_num (neg := false) (f := fun _ => 0) (f' := fun _ => 0) KZ.out rfl rfl rfl rfl ?_; rw [HW7.out]) | (refine load_num HF.out.r rfl rfl rfl ?_) | (refine load_num HF.out.z rfl rfl rfl ?_))
  generalize w6.heap.size = bz at *
  generalize hbr : w5.heap.size + 1 = br at *
  clear hbr
  generalize w5.heap.size = bq at *
  clear KA KB HW KZ HW7
  refine (bare_nought false (X % Y) Hhrest.out _).mono ?_
  rintro e w8 ⟨rfl, hB10⟩
  have F := HF.out.below hB10
  clear HF hB10
  have n1 := F.x.neg
  have n2 := F.y.neg
  have HF := Lib.hid F
  clear F
  go_wp2_with (first | (refine load_num HF.out.r rfl rfl rfl ?_) | (refine load_num HF.out.z rfl rfl rfl ?_))
  refine (bare_nought false (X % Y) Hhrest.out _).mono ?_
  rintro e wA ⟨rfl, hBA⟩
  have FA := HF.out.below hBA
  clear HF hBA
  have n2 := FA.y.neg
  have c1 := FA.r.neg
  have f1 := FA.r.free 0
  have HG := Lib.hid (FA.negR false)
  clear FA
  go_wp2_with (refine load_num HG.out.q rfl rfl rfl ?_)
  clear n2 c1 f1
  refine (Hhq.out _).mono ?_
  rintro e wB ⟨rfl, hBB⟩
  have HH := Lib.hid (HG.out.below hBB)
  clear HG hBB
  go_wp2_with (refine load_num HH.out.r rfl rfl rfl ?_)
  refine (Hhr.out _).mono ?_
  rintro e wC ⟨rfl, hBC⟩
  have FC := (HH.out.below hBC).b
  clear HH hBC
  go_wp2
  go_ret3
  exact ⟨rfl, FC⟩
set_option maxRecDepth 10000 in
set_option maxHeartbeats 2000000 in
theorem rfloor_tt1 (a b n m : Int) (X Y : Nat) (hb0 : (b == 0) = false) (hX : X ≤ 18446744073709551615) (hY : Y ≤ 18446744073709551615) (hY0 : 0 < Y) (hrest : 0 < X % Y) 
    (ha : ∀ W : World, Calls Try.prog 20 #[.int .i64 a] W fun e w' => e = .returned (.agg (num true (bitf X))) ∧ Below W.heap.size W w')
    (hb : ∀ W : World, Calls Try.prog 20 #[.int .i64 b] W fun e w' => e = .returned (.agg (num true (bitf Y))) ∧ Below W.heap.size W w')
    (hq : ∀ W : World, Calls Try.prog 30 #[.agg (num false (bitf (X / Y)))] W fun e w' => e = .returned (.tuple #[.int .i64 n, .bool true]) ∧ Below W.heap.size W w')
    (hr : ∀ W : World, Calls Try.prog 30 #[.agg (num true (bitf (X % Y)))] W fun e w' => e = .returned (.tuple #[.int .i64 m, .bool true]) ∧ Below W.heap.size W w') (w : World) :
    Calls Try.prog 14 #[.int .i64 a, .int .i64 b] w fun e w' => e = .returned (.tuple #[.int .i64 n, .int .i64 m, .int .i64 0]) ∧ Below w.heap.size w w' := by
  have hz := (zero_of_info info42).1
  have Hha := Lib.hid ha
  have Hhb := Lib.hid hb
  have Hhq := Lib.hid hq
  have Hhr := Lib.hid hr
  have HhX := Lib.hid hX
  have HhY := Lib.hid hY
  have HhY0 := Lib.hid hY0
  have Hhrest := Lib.hid hrest
  clear ha hb hq hr hX hY hY0 hrest
  go_enter Try.func14, Try.ntmps14
  go_wp2_with fail
  refine (Hha.out _).mono ?_
  rintro e w1 ⟨rfl, hB1⟩
  obtain ⟨w2, ew, x2, keep, hB2⟩ := fresh w1 true (bitf X)
  have KX := Lib.hid (At.new w1 zeroNum)
  have HW := Lib.hid ew
  have X2 := Lib.hid x2
  have s1 := hB1.size
  have HB2 := Lib.hid (hB1.trans (hB2.mono s1))
  clear ew x2 keep hB2 hB1
  go_wp2_with (refine store_num (f' := fun _ => 0) KX.out rfl rfl rfl rfl ?_; rw [HW.out])
  generalize w1.heap.size = bx at *
  clear KX HW
  refine (Hhb.out _).mono ?_
  rintro e w3 ⟨rfl, hB3⟩
  obtain ⟨w4, ew, y4, keep, hB4⟩ := fresh w3 true (bitf Y)
  have x3 := X2.out.below X2.out.lt hB3
  have KX := Lib.hid (At.new w3 zeroNum)
  have HW := Lib.hid ew
  have X4 := Lib.hid (keep _ _ x3)
  have Y4 := Lib.hid y4
  have hB5 := HB2.out.trans (hB3.mono HB2.out.size)
  have HB4 := Lib.hid (hB5.trans (hB4.mono hB5.size))
  have hlt1 := x3.lt
  clear ew y4 keep hB3 hB4 hB5 x3 X2 HB2
  go_wp2_with (first | (refine store_num (f' := fun _ => 0) KX.out rfl rfl rfl rfl ?_; rw [HW.out]) | (refine load_num X4.out rfl rfl rfl ?_) | (refine load_num Y4.out rfl rfl rfl ?_))
  generalize w3.heap.size = bt at *
  clear KX HW
  refine (parts_core true true X Y HhX.out HhY.out HhY0.out _).mono ?_
  rintro e w5 ⟨rfl, hB5⟩
  obtain ⟨w6, ew, a1, a2, q6, r6, keep, hB6⟩ := fresh2 w5 (X / Y) (X % Y)
  have x5 := X4.out.below X4.out.lt hB5
  have y5 := Y4.out.below Y4.out.lt hB5
  have hB7 := HB4.out.trans (hB5.mono HB4.out.size)
  have hB8 := hB7.trans (hB6.mono hB7.size)
  have hlt2 := y5.lt
  obtain ⟨w7, ew7, z7, keep7, hB9⟩ := fresh w6 false (fun _ => 0)
  have hlt3 := r6.lt
  have F7 : Five w w7 bx bt w5.heap.size (w5.heap.size + 1) w6.heap.size true true X Y false (X / Y) false (X % Y) :=
    ⟨keep7 _ _ (keep _ _ x5), keep7 _ _ (keep _ _ y5), keep7 _ _ q6, keep7 _ _ r6, z7, by omega, hlt1, hlt2, by omega, hlt3, hB8.trans (hB9.mono hB8.size)⟩
  have KA := Lib.hid a1
  have KB := Lib.hid a2
  have HW := Lib.hid ew
  have KZ := Lib.hid (At.new w6 zeroNum)
  have HW7 := Lib.hid ew7
  have HF := Lib.hid F7
  clear ew a1 a2 q6 r6 keep hB6 x5 y5 hB7 hB8 ew7 z7 keep7 hB9 F7 hB5 X4 Y4 HB4 hlt1 hlt2 hlt3 s1
  go_wp2_with (first | (refine store_num (f' := fun _ => 0) KA.out rfl rfl rfl rfl ?_) | (refine store_num (f' := fun _ => 0) KB.out rfl rfl rfl rfl ?_; rw [HW.out]) | (refine build_num rfl rfl ?_) | (refine store_num (neg := false) (f := fun _ => 0) (f' := fun _ => 0) KZ.out rfl rfl rfl rfl ?_; rw [HW7.out]) | (refine load_num HF.out.r rfl rfl rfl ?_) | (refine load_num HF.out.z rfl rfl rfl ?_))
  generalize w6.heap.size = bz at *
  generalize hbr : w5.heap.size + 1 = br at *
  clear hbr
  generalize w5.heap.size = bq at *
  clear KA KB HW KZ HW7
  refine (bare_one false (X % Y) (Nat.lt_of_le_of_lt (Nat.mod_le _ _) (Nat.lt_of_le_of_lt HhX.out (by omega))) Hhrest.out _).mono ?_
  rintro e w8 ⟨rfl, hB10⟩
  have F := HF.out.below hB10
  clear HF hB10
  have n1 := F.x.neg
  have n2 := F.y.neg
  have HF := Lib.hid F
  clear F
  go_wp2_with (first | (refine load_num HF.out.r rfl rfl rfl ?_) | (refine load_num HF.out.z rfl rfl rfl ?_))
  refine (bare_one false (X % Y) (Nat.lt_of_le_of_lt (Nat.mod_le _ _) (Nat.lt_of_le_of_lt HhX.out (by omega))) Hhrest.out _).mono ?_
  rintro e wA ⟨rfl, hBA⟩
  have FA := HF.out.below hBA
  clear HF hBA
  have n2 := FA.y.neg
  have c1 := FA.r.neg
  have f1 := FA.r.free 0
  have HG := Lib.hid (FA.negR true)
  clear FA
  go_wp2_with (refine load_num HG.out.q rfl rfl rfl ?_)
  clear n2 c1 f1
  refine (Hhq.out _).mono ?_
  rintro e wB ⟨rfl, hBB⟩
  have HH := Lib.hid (HG.out.below hBB)
  clear HG hBB
  go_wp2_with (refine load_num HH.out.r rfl rfl rfl ?_)
  refine (Hhr.out _).mono ?_
  rintro e wC ⟨rfl, hBC⟩
  have FC := (HH.out.below hBC).b
  clear HH hBC
  go_wp2
  go_ret3
  exact ⟨rfl, FC⟩
set_option maxRecDepth 10000 in
set_option maxHeartbeats 2000000 in
theorem rfloor_over (a b n m : Int) (X Y : Nat) (hb0 : (b == 0) = false) (hX : X ≤ 18446744073709551615) (hY : Y ≤ 18446744073709551615) (hY0 : 0 < Y) (hrest : X % Y = 0) 
    (ha : ∀ W : World, Calls Try.prog 20 #[.int .i64 a] W fun e w' => e = .returned (.agg (num true (bitf X))) ∧ Below W.heap.size W w')
    (hb : ∀ W : World, Calls Try.prog 20 #[.int .i64 b] W fun e w' => e = .returned (.agg (num true (bitf Y))) ∧ Below W.heap.size W w')
    (hq : ∀ W : World, Calls Try.prog 30 #[.agg (num false (bitf (X / Y)))] W fun e w' => e = .returned (.tuple #[.int .i64 n, .bool false]) ∧ Below W.heap.size W w')
    (hr : ∀ W : World, Calls Try.prog 30 #[.agg (num false (bitf (X % Y)))] W fun e w' => e = .returned (.tuple #[.int .i64 m, .bool true]) ∧ Below W.heap.size W w') (w : World) :
    Calls Try.prog 14 #[.int .i64 a, .int .i64 b] w fun e w' => e = .returned (.tuple #[.int .i64 0, .int .i64 0, .int .i64 10]) ∧ Below w.heap.size w w' := by
  have hz := (zero_of_info info42).1
  have Hha := Lib.hid ha
  have Hhb := Lib.hid hb
  have Hhq := Lib.hid hq
  have Hhr := Lib.hid hr
  have HhX := Lib.hid hX
  have HhY := Lib.hid hY
  have HhY0 := Lib.hid hY0
  have Hhrest := Lib.hid hrest
  clear ha hb hq hr hX hY hY0 hrest
  go_enter Try.func14, Try.ntmps14
  go_wp2_with fail
  refine (Hha.out _).mono ?_
  rintro e w1 ⟨rfl, hB1⟩
  obtain ⟨w2, ew, x2, keep, hB2⟩ := fresh w1 true (bitf X)
  have KX := Lib.hid (At.new w1 zeroNum)
  have HW := Lib.hid ew
  have X2 := Lib.hid x2
  have s1 := hB1.size
  have HB2 := Lib.hid (hB1.trans (hB2.mono s1))
  clear ew x2 keep hB2 hB1
  go_wp2_with (refine store_num (f' := fun _ => 0) KX.out rfl rfl rfl rfl ?_; rw [HW.out])
  generalize w1.heap.size = bx at *
  clear KX HW
  refine (Hhb.out _).mono ?_
  rintro e w3 ⟨rfl, hB3⟩
  obtain ⟨w4, ew, y4, keep, hB4⟩ := fresh w3 true (bitf Y)
  have x3 := X2.out.below X2.out.lt hB3
  have KX := Lib.hid (At.new w3 zeroNum)
  have HW := Lib.hid ew
  have X4 := Lib.hid (keep _ _ x3)
  have Y4 := Lib.hid y4
  have hB5 := HB2.out.trans (hB3.mono HB2.out.size)
  have HB4 := Lib.hid (hB5.trans (hB4.mono hB5.size))
  have hlt1 := x3.lt
  clear ew y4 keep hB3 hB4 hB5 x3 X2 HB2
  go_wp2_with (first | (refine store_num (f' := fun _ => 0) KX.out rfl rfl rfl rfl ?_; rw [HW.out]) | (refine load_num X4.out rfl rfl rfl ?_) | (refine load_num Y4.out rfl rfl rfl ?_))
  generalize w3.heap.size = bt at *
  clear KX HW
  refine (parts_core true true X Y HhX.out HhY.out HhY0.out _).mono ?_
  rintro e w5 ⟨rfl, hB5⟩
  obtain ⟨w6, ew, a1, a2, q6, r6, keep, hB6⟩ := fresh2 w5 (X / Y) (X % Y)
  have x5 := X4.out.below X4.out.lt hB5
  have y5 := Y4.out.below Y4.out.lt hB5
  have hB7 := HB4.out.trans (hB5.mono HB4.out.size)
  have hB8 := hB7.trans (hB6.mono hB7.size)
  have hlt2 := y5.lt
  obtain ⟨w7, ew7, z7, keep7, hB9⟩ := fresh w6 false (fun _ => 0)
  have hlt3 := r6.lt
  have F7 : Five w w7 bx bt w5.heap.size (w5.heap.size + 1) w6.heap.size true true X Y false (X / Y) false (X % Y) :=
    ⟨keep7 _ _ (keep _ _ x5), keep7 _ _ (keep _ _ y5), keep7 _ _ q6, keep7 _ _ r6, z7, by omega, hlt1, hlt2, by omega, hlt3, hB8.trans (hB9.mono hB8.size)⟩
  have KA := Lib.hid a1
  have KB := Lib.hid a2
  have HW := Lib.hid ew
  have KZ := Lib.hid (At.new w6 zeroNum)
  have HW7 := Lib.hid ew7
  have HF := Lib.hid F7
  clear ew a1 a2 q6 r6 keep hB6 x5 y5 hB7 hB8 ew7 z7 keep7 hB9 F7 hB5 X4 Y4 HB4 hlt1 hlt2 hlt3 s1
  go_wp2_with (first | (refine store_num (f' := fun _ => 0) KA.out rfl rfl rfl rfl ?_) | (refine store_num (f' := fun _ => 0) KB.out rfl rfl rfl rfl ?_; rw [HW.out]) | (refine build_num rfl rfl ?_) | (refine store_num (neg := false) (f := fun _ => 0) (f' := fun _ => 0) KZ.out rfl rfl rfl rfl ?_; rw [HW7.out]) | (refine load_num HF.out.r rfl rfl rfl ?_) | (refine load_num HF.out.z rfl rfl rfl ?_))
  generalize w6.heap.size = bz at *
  generalize hbr : w5.heap.size + 1 = br at *
  clear hbr
  generalize w5.heap.size = bq at *
  clear KA KB HW KZ HW7
  refine (bare_nought false (X % Y) Hhrest.out _).mono ?_
  rintro e w8 ⟨rfl, hB10⟩
  have F := HF.out.below hB10
  clear HF hB10
  have n1 := F.x.neg
  have n2 := F.y.neg
  have HF := Lib.hid F
  clear F
  go_wp2_with (first | (refine load_num HF.out.r rfl rfl rfl ?_) | (refine load_num HF.out.z rfl rfl rfl ?_))
  refine (bare_nought false (X % Y) Hhrest.out _).mono ?_
  rintro e wA ⟨rfl, hBA⟩
  have FA := HF.out.below hBA
  clear HF hBA
  have n2 := FA.y.neg
  have c1 := FA.r.neg
  have f1 := FA.r.free 0
  have HG := Lib.hid (FA.negR false)
  clear FA
  go_wp2_with (refine load_num HG.out.q rfl rfl rfl ?_)
  clear n2 c1 f1
  refine (Hhq.out _).mono ?_
  rintro e wB ⟨rfl, hBB⟩
  have HH := Lib.hid (HG.out.below hBB)
  clear HG hBB
  go_wp2_with (refine load_num HH.out.r rfl rfl rfl ?_)
  refine (Hhr.out _).mono ?_
  rintro e wC ⟨rfl, hBC⟩
  have FC := (HH.out.below hBC).b
  clear HH hBC
  go_wp2
  go_ret3
  exact ⟨rfl, FC⟩
end Go.Proofs.Ytmkmpkajcjdfaaa
