/- The walk of the statement FixqSpreads: whatever three numbers of int64, it answers true and writes nothing that was there. -/
import Derived.Test.YtmkmpkajcjdfaaaAlive
set_option linter.unusedVariables false
namespace Go.Proofs.Ytmkmpkajcjdfaaa
open Go.RowKit Go.Shelf
/-- A number of int64, as the walks take it. -/
def InR (x : Int) : Prop := -9223372036854775808 ≤ x ∧ x ≤ 9223372036854775807
theorem add_fit (a b : Int) (ha : InR a) (hb : InR b) (h : InR (a + b)) (w : World) :
    Calls Try.prog 7 #[.int .i64 a, .int .i64 b] w fun e w' => e = .returned (.tuple #[.int .i64 (a + b), .int .i64 0]) ∧ w = w' := by
  have k := add_any a b ha.1 ha.2 hb.1 hb.2 w
  rwa [tv_in h, te_in h] at k
theorem add_not (a b : Int) (ha : InR a) (hb : InR b) (h : ¬ InR (a + b)) (w : World) :
    Calls Try.prog 7 #[.int .i64 a, .int .i64 b] w fun e w' => e = .returned (.tuple #[.int .i64 0, .int .i64 10]) ∧ w = w' := by
  have k := add_any a b ha.1 ha.2 hb.1 hb.2 w
  rwa [tv_out h, te_out h] at k
theorem mul_fit (a b : Int) (ha : InR a) (hb : InR b) (h : InR (a * b)) (w : World) :
    Calls Try.prog 11 #[.int .i64 a, .int .i64 b] w fun e w' => e = .returned (.tuple #[.int .i64 (a * b), .int .i64 0]) ∧ w = w' := by
  have k := mul_any a b ha.1 ha.2 hb.1 hb.2 w
  rwa [tv_in h, te_in h] at k
theorem mul_not (a b : Int) (ha : InR a) (hb : InR b) (h : ¬ InR (a * b)) (w : World) :
    Calls Try.prog 11 #[.int .i64 a, .int .i64 b] w fun e w' => e = .returned (.tuple #[.int .i64 0, .int .i64 10]) ∧ w = w' := by
  have k := mul_any a b ha.1 ha.2 hb.1 hb.2 w
  rwa [tv_out h, te_out h] at k
/-- The same, where it is not known whether it fits: some number, and one of the two errors. -/
theorem mul_some (a b : Int) (ha : InR a) (hb : InR b) : ∃ v e : Int, ∀ w : World,
    Calls Try.prog 11 #[.int .i64 a, .int .i64 b] w fun e' w' => e' = .returned (.tuple #[.int .i64 v, .int .i64 e]) ∧ w = w' :=
  ⟨_, _, fun w => mul_any a b ha.1 ha.2 hb.1 hb.2 w⟩
set_option maxHeartbeats 1000000 in
theorem spreads_first (a b c : Int) (ha : InR a) (hb : InR b) (hc : InR c) (h : ¬ InR (b + c)) (w : World) :
    Calls Try.prog 6 #[.int .i64 a, .int .i64 b, .int .i64 c] w fun e w' => e = .returned (.bool true) ∧ Below w.heap.size w w' := by
  obtain ⟨p, f, h1⟩ := mul_some a b ha hb
  obtain ⟨q, g, h2⟩ := mul_some a c ha hc
  have H1 := Lib.hid h1
  have H2 := Lib.hid h2
  have HA := Lib.hid ha
  have HB := Lib.hid hb
  have HC := Lib.hid hc
  have HN := Lib.hid h
  clear h1 h2 ha hb hc h
  go_enter Try.func6, Try.ntmps6
  go_wp2_with fail
  refine (alive_any w).mono ?_
  rintro e w1 ⟨rfl, hB⟩
  go_wp2_with fail
  refine (add_not b c HB.out HC.out HN.out _).mono ?_
  rintro e w2 ⟨rfl, rfl⟩
  go_wp2_with fail
  refine (H1.out _).mono ?_
  rintro e w2 ⟨rfl, rfl⟩
  go_wp2_with fail
  refine (H2.out _).mono ?_
  rintro e w2 ⟨rfl, rfl⟩
  go_wp2
  go_ret
  exact ⟨rfl, hB⟩
set_option maxHeartbeats 1000000 in
theorem spreads_second (a b c : Int) (ha : InR a) (hb : InR b) (hc : InR c) (h : InR (b + c)) (k : ¬ InR (a * b)) (w : World) :
    Calls Try.prog 6 #[.int .i64 a, .int .i64 b, .int .i64 c] w fun e w' => e = .returned (.bool true) ∧ Below w.heap.size w w' := by
  obtain ⟨q, g, h2⟩ := mul_some a c ha hc
  have Hh2 := Lib.hid h2
  have Hha := Lib.hid ha
  have Hhb := Lib.hid hb
  have Hhc := Lib.hid hc
  have Hh := Lib.hid h
  have Hk := Lib.hid k
  clear h2 ha hb hc h k
  go_enter Try.func6, Try.ntmps6
  go_wp2_with fail
  refine (alive_any w).mono ?_
  rintro e w1 ⟨rfl, hB⟩
  go_wp2_with fail
  refine (add_fit b c Hhb.out Hhc.out Hh.out _).mono ?_
  rintro e w2 ⟨rfl, rfl⟩
  go_wp2_with fail
  refine (mul_not a b Hha.out Hhb.out Hk.out _).mono ?_
  rintro e w2 ⟨rfl, rfl⟩
  go_wp2_with fail
  refine (Hh2.out _).mono ?_
  rintro e w2 ⟨rfl, rfl⟩
  go_wp2
  go_ret
  exact ⟨rfl, hB⟩
set_option maxHeartbeats 1000000 in
theorem spreads_third (a b c : Int) (ha : InR a) (hb : InR b) (hc : InR c) (h : InR (b + c)) (k : InR (a * b)) (l : ¬ InR (a * c)) (w : World) :
    Calls Try.prog 6 #[.int .i64 a, .int .i64 b, .int .i64 c] w fun e w' => e = .returned (.bool true) ∧ Below w.heap.size w w' := by
  have Hha := Lib.hid ha
  have Hhb := Lib.hid hb
  have Hhc := Lib.hid hc
  have Hh := Lib.hid h
  have Hk := Lib.hid k
  have Hl := Lib.hid l
  clear ha hb hc h k l
  go_enter Try.func6, Try.ntmps6
  go_wp2_with fail
  refine (alive_any w).mono ?_
  rintro e w1 ⟨rfl, hB⟩
  go_wp2_with fail
  refine (add_fit b c Hhb.out Hhc.out Hh.out _).mono ?_
  rintro e w2 ⟨rfl, rfl⟩
  go_wp2_with fail
  refine (mul_fit a b Hha.out Hhb.out Hk.out _).mono ?_
  rintro e w2 ⟨rfl, rfl⟩
  go_wp2_with fail
  refine (mul_not a c Hha.out Hhc.out Hl.out _).mono ?_
  rintro e w2 ⟨rfl, rfl⟩
  go_wp2
  go_ret
  exact ⟨rfl, hB⟩
set_option maxHeartbeats 1000000 in
theorem spreads_yes (a b c : Int) (ha : InR a) (hb : InR b) (hc : InR c) (h : InR (b + c)) (k : InR (a * b)) (l : InR (a * c)) (m : InR (a * b + a * c)) (w : World) :
    Calls Try.prog 6 #[.int .i64 a, .int .i64 b, .int .i64 c] w fun e w' => e = .returned (.bool true) ∧ Below w.heap.size w w' := by
  have h5 : ∀ w : World, Calls Try.prog 11 #[.int .i64 a, .int .i64 (b + c)] w fun e w' => e = .returned (.tuple #[.int .i64 (a * b + a * c), .int .i64 0]) ∧ w = w' := fun w => by
    have q := mul_fit a (b + c) ha h (by rw [Int.mul_add]; exact m) w
    rwa [Int.mul_add] at q
  have Hh5 := Lib.hid h5
  have Hha := Lib.hid ha
  have Hhb := Lib.hid hb
  have Hhc := Lib.hid hc
  have Hh := Lib.hid h
  have Hk := Lib.hid k
  have Hl := Lib.hid l
  have Hm := Lib.hid m
  clear h5 ha hb hc h k l m
  go_enter Try.func6, Try.ntmps6
  go_wp2_with fail
  refine (alive_any w).mono ?_
  rintro e w1 ⟨rfl, hB⟩
  go_wp2_with fail
  refine (add_fit b c Hhb.out Hhc.out Hh.out _).mono ?_
  rintro e w2 ⟨rfl, rfl⟩
  go_wp2_with fail
  refine (mul_fit a b Hha.out Hhb.out Hk.out _).mono ?_
  rintro e w2 ⟨rfl, rfl⟩
  go_wp2_with fail
  refine (mul_fit a c Hha.out Hhc.out Hl.out _).mono ?_
  rintro e w2 ⟨rfl, rfl⟩
  go_wp2_with fail
  refine (Hh5.out _).mono ?_
  rintro e w2 ⟨rfl, rfl⟩
  go_wp2_with fail
  refine (add_fit (a * b) (a * c) Hk.out Hl.out Hm.out _).mono ?_
  rintro e w2 ⟨rfl, rfl⟩
  go_wp2
  go_ret
  exact ⟨rfl, hB⟩
set_option maxHeartbeats 1000000 in
theorem spreads_no (a b c : Int) (ha : InR a) (hb : InR b) (hc : InR c) (h : InR (b + c)) (k : InR (a * b)) (l : InR (a * c)) (m : ¬ InR (a * b + a * c)) (w : World) :
    Calls Try.prog 6 #[.int .i64 a, .int .i64 b, .int .i64 c] w fun e w' => e = .returned (.bool true) ∧ Below w.heap.size w w' := by
  have h5 : ∀ w : World, Calls Try.prog 11 #[.int .i64 a, .int .i64 (b + c)] w fun e w' => e = .returned (.tuple #[.int .i64 (0), .int .i64 10]) ∧ w = w' := fun w => by
    have q := mul_not a (b + c) ha h (by rw [Int.mul_add]; exact m) w
    exact q
  have Hh5 := Lib.hid h5
  have Hha := Lib.hid ha
  have Hhb := Lib.hid hb
  have Hhc := Lib.hid hc
  have Hh := Lib.hid h
  have Hk := Lib.hid k
  have Hl := Lib.hid l
  have Hm := Lib.hid m
  clear h5 ha hb hc h k l m
  go_enter Try.func6, Try.ntmps6
  go_wp2_with fail
  refine (alive_any w).mono ?_
  rintro e w1 ⟨rfl, hB⟩
  go_wp2_with fail
  refine (add_fit b c Hhb.out Hhc.out Hh.out _).mono ?_
  rintro e w2 ⟨rfl, rfl⟩
  go_wp2_with fail
  refine (mul_fit a b Hha.out Hhb.out Hk.out _).mono ?_
  rintro e w2 ⟨rfl, rfl⟩
  go_wp2_with fail
  refine (mul_fit a c Hha.out Hhc.out Hl.out _).mono ?_
  rintro e w2 ⟨rfl, rfl⟩
  go_wp2_with fail
  refine (Hh5.out _).mono ?_
  rintro e w2 ⟨rfl, rfl⟩
  go_wp2_with fail
  refine (add_not (a * b) (a * c) Hk.out Hl.out Hm.out _).mono ?_
  rintro e w2 ⟨rfl, rfl⟩
  go_wp2
  go_ret
  exact ⟨rfl, hB⟩
theorem spreads_any (a b c : Int) (ha : InR a) (hb : InR b) (hc : InR c) (w : World) :
    Calls Try.prog 6 #[.int .i64 a, .int .i64 b, .int .i64 c] w fun e w' => e = .returned (.bool true) ∧ Below w.heap.size w w' := by
  by_cases h : InR (b + c)
  · by_cases k : InR (a * b)
    · by_cases l : InR (a * c)
      · by_cases m : InR (a * b + a * c)
        · exact spreads_yes a b c ha hb hc h k l m w
        · exact spreads_no a b c ha hb hc h k l m w
      · exact spreads_third a b c ha hb hc h k l w
    · exact spreads_second a b c ha hb hc h k w
  · exact spreads_first a b c ha hb hc h w
end Go.Proofs.Ytmkmpkajcjdfaaa
