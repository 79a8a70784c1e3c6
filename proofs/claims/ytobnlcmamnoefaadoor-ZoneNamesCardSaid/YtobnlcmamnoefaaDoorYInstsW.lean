/- The walk of the statement ZoneInstants. -/
import Derived.Test.YtobnlcmamnoefaaDoorYInstW
import Derived.Test.YtobnlcmamnoefaaDoorZInstW
import Derived.Test.YtobnlcmamnoefaaDoorZSame
set_option linter.unusedVariables false
set_option linter.unusedSimpArgs false
namespace Go.Proofs.YtobnlcmamnoefaaDoor
open Go.RowKit Go.Shelf
theorem at64_of_bys {W : World} {a : Option Addr} {n c : Nat} {xs : List Int} (h : BysI W.heap.size W (.slice a n c) xs) : At64 W a xs := by
  intro j hj
  rcases h.2 with ⟨rfl, _⟩ | ⟨b, off, cap, e, hb, hc⟩
  · simp at hj
  · cases e
    exact ⟨b, off, rfl, hb, hc j hj⟩
set_option maxRecDepth 100000 in
set_option maxHeartbeats 4000000 in
theorem zinsts_many (off : Int) (a : Option Addr) (len cap : Nat) (R : Nat → Rl) (y m d h mi s : Int) (w : World) (hR : RulesAt w.heap.size w a len R) (hT : Tabs w) (hl : 100 < len) :
    Calls Tryd.prog 4 #[zoneV off a len cap, momV y m d h mi s] w fun e w' => e = .returned (.bool true) ∧ Below w.heap.size w w' := by
  have hl2 : (100 : Int) < len := by omega
  have hb0 := (Below.refl _ w).alloc (Nat.le_refl _) (.cells #[.int .i64 off, .slice a len cap] 24)
  have HB := Lib.hid (hb0.alloc hb0.size (.cells #[.int .i64 y, .int .i64 m, .int .i64 d, .int .i64 h, .int .i64 mi, .int .i64 s] 44))
  clear hb0
  go_enter Tryd.func4, Tryd.ntmps4
  go_wp2
  go_ret
  exact ⟨rfl, HB.out⟩
set_option maxRecDepth 100000 in
set_option maxHeartbeats 4000000 in
theorem zinsts_bad (off : Int) (a : Option Addr) (len cap : Nat) (R : Nat → Rl) (y m d h mi s : Int) (w : World) (hR : RulesAt w.heap.size w a len R) (hT : Tabs w) (hl : len ≤ 100) (hn : ¬ ZoneIs off R len) :
    Calls Tryd.prog 4 #[zoneV off a len cap, momV y m d h mi s] w fun e w' => e = .returned (.bool true) ∧ Below w.heap.size w w' := by
  have hll : (len : Int) ≤ 100 := by omega
  have hl1 : len ≤ 1000 := by omega
  have hb0 := (Below.refl _ w).alloc (Nat.le_refl _) (.cells #[.int .i64 off, .slice a len cap] 24)
  have hb1 := hb0.alloc hb0.size (.cells #[.int .i64 y, .int .i64 m, .int .i64 d, .int .i64 h, .int .i64 mi, .int .i64 s] 44)
  have hm := heap_alloc_new (w.alloc (.cells #[.int .i64 off, .slice a len cap] 24)) (.cells #[.int .i64 y, .int .i64 m, .int .i64 d, .int .i64 h, .int .i64 mi, .int .i64 s] 44)
  have hz := heap_old (heap_alloc_new w (.cells #[.int .i64 off, .slice a len cap] 24)) (.cells #[.int .i64 y, .int .i64 m, .int .i64 d, .int .i64 h, .int .i64 mi, .int .i64 s] 44)
  rw [World.size_alloc] at hm
  have H1 := Lib.hid (instants_bad off a len cap R y m d h mi s _ hl1 ((hR.next hb1).mono hb1.size) hn)
  have H2 := Lib.hid (fun X (hX : Below w.heap.size w X) => by
    have := rmayZ_any off a len cap R X hl1 ((hR.next hX).mono hX.size)
    rw [decide_eq_false hn] at this
    exact this)
  have H3 := Lib.hid (fun X => rday_any y m d X)
  clear hn hR hT hl hl1
  have HB := Lib.hid hb1
  have HM := Lib.hid hm
  have HZ := Lib.hid hz
  clear hb0 hb1 hm hz
  go_enter Tryd.func4, Tryd.ntmps4
  go_wp2_with fail
  refine H1.out.mono ?_
  rintro e X1 ⟨rfl, hB⟩
  have hb := HB.out.trans (hB.mono HB.out.size)
  have hm := (hB.block (w.heap.size + 1) (Array.getElem?_eq_some_iff.1 HM.out).1).trans HM.out
  have hz := (hB.block w.heap.size (Array.getElem?_eq_some_iff.1 HZ.out).1).trans HZ.out
  have z0 : X1.cell? ⟨w.heap.size, 0, none⟩ = some (.int .i64 off) := cell_of_row X1 _ 0 _ _ _ hz
  have z1 : X1.cell? ⟨w.heap.size, 1, none⟩ = some (.slice a len cap) := cell_of_row X1 _ 1 _ _ _ hz
  have m0 : X1.cell? ⟨w.heap.size + 1, 0, none⟩ = some (.int .i64 y) := cell_of_row X1 _ 0 _ _ _ hm
  have m1 : X1.cell? ⟨w.heap.size + 1, 1, none⟩ = some (.int .i64 m) := cell_of_row X1 _ 1 _ _ _ hm
  have m2 : X1.cell? ⟨w.heap.size + 1, 2, none⟩ = some (.int .i64 d) := cell_of_row X1 _ 2 _ _ _ hm
  have m3 : X1.cell? ⟨w.heap.size + 1, 3, none⟩ = some (.int .i64 h) := cell_of_row X1 _ 3 _ _ _ hm
  have m4 : X1.cell? ⟨w.heap.size + 1, 4, none⟩ = some (.int .i64 mi) := cell_of_row X1 _ 4 _ _ _ hm
  have m5 : X1.cell? ⟨w.heap.size + 1, 5, none⟩ = some (.int .i64 s) := cell_of_row X1 _ 5 _ _ _ hm
  have HB1 := Lib.hid hb
  have HM1 := Lib.hid hm
  have HZ1 := Lib.hid hz
  clear hB hb hm hz HB HM HZ H1
  go_wp2_with fail
  refine (H2.out _ HB1.out).mono ?_
  rintro e X2 ⟨rfl, hB⟩
  have hb := HB1.out.trans (hB.mono HB1.out.size)
  have hm := (hB.block (w.heap.size + 1) (Array.getElem?_eq_some_iff.1 HM1.out).1).trans HM1.out
  have hz := (hB.block w.heap.size (Array.getElem?_eq_some_iff.1 HZ1.out).1).trans HZ1.out
  clear z0 z1 m0 m1 m2 m3 m4 m5
  have z0 : X2.cell? ⟨w.heap.size, 0, none⟩ = some (.int .i64 off) := cell_of_row X2 _ 0 _ _ _ hz
  have z1 : X2.cell? ⟨w.heap.size, 1, none⟩ = some (.slice a len cap) := cell_of_row X2 _ 1 _ _ _ hz
  have m0 : X2.cell? ⟨w.heap.size + 1, 0, none⟩ = some (.int .i64 y) := cell_of_row X2 _ 0 _ _ _ hm
  have m1 : X2.cell? ⟨w.heap.size + 1, 1, none⟩ = some (.int .i64 m) := cell_of_row X2 _ 1 _ _ _ hm
  have m2 : X2.cell? ⟨w.heap.size + 1, 2, none⟩ = some (.int .i64 d) := cell_of_row X2 _ 2 _ _ _ hm
  have m3 : X2.cell? ⟨w.heap.size + 1, 3, none⟩ = some (.int .i64 h) := cell_of_row X2 _ 3 _ _ _ hm
  have m4 : X2.cell? ⟨w.heap.size + 1, 4, none⟩ = some (.int .i64 mi) := cell_of_row X2 _ 4 _ _ _ hm
  have m5 : X2.cell? ⟨w.heap.size + 1, 5, none⟩ = some (.int .i64 s) := cell_of_row X2 _ 5 _ _ _ hm
  have HB2 := Lib.hid hb
  have HM2 := Lib.hid hm
  have HZ2 := Lib.hid hz
  clear hB hb hm hz HB1 HM1 HZ1 H2
  go_wp2_with (first | (go_at_call 21; refine (H3.out _).mono ?_; rintro e w' ⟨rfl, rfl⟩) | fail)
  go_ret
  exact ⟨rfl, HB2.out⟩
set_option maxRecDepth 100000 in
set_option maxHeartbeats 4000000 in
theorem zinsts_day (off : Int) (a : Option Addr) (len cap : Nat) (R : Nat → Rl) (y m d h mi s : Int) (w : World) (hR : RulesAt w.heap.size w a len R) (hT : Tabs w) (hl : len ≤ 100) (hn : ZoneIs off R len) (hv : ¬ May y m d) :
    Calls Tryd.prog 4 #[zoneV off a len cap, momV y m d h mi s] w fun e w' => e = .returned (.bool true) ∧ Below w.heap.size w w' := by
  have hll : (len : Int) ≤ 100 := by omega
  have hl1 : len ≤ 1000 := by omega
  have hb0 := (Below.refl _ w).alloc (Nat.le_refl _) (.cells #[.int .i64 off, .slice a len cap] 24)
  have hb1 := hb0.alloc hb0.size (.cells #[.int .i64 y, .int .i64 m, .int .i64 d, .int .i64 h, .int .i64 mi, .int .i64 s] 44)
  have hm := heap_alloc_new (w.alloc (.cells #[.int .i64 off, .slice a len cap] 24)) (.cells #[.int .i64 y, .int .i64 m, .int .i64 d, .int .i64 h, .int .i64 mi, .int .i64 s] 44)
  have hz := heap_old (heap_alloc_new w (.cells #[.int .i64 off, .slice a len cap] 24)) (.cells #[.int .i64 y, .int .i64 m, .int .i64 d, .int .i64 h, .int .i64 mi, .int .i64 s] 44)
  rw [World.size_alloc] at hm
  have H1 := Lib.hid (instants_time off a len cap R y m d h mi s _ ((hR.next hb1).mono hb1.size) hn (hT.next hb1) (fun q => hv q.1))
  have H3 := Lib.hid (fun X => rday_any y m d X)
  rw [show mayE y m d = 60 from if_neg hv] at H3
  clear hv
  have H2 := Lib.hid (fun X (hX : Below w.heap.size w X) => by
    have := rmayZ_any off a len cap R X hl1 ((hR.next hX).mono hX.size)
    rw [decide_eq_true hn] at this
    exact this)
  clear hl hl1
  have HB := Lib.hid hb1
  have HM := Lib.hid hm
  have HZ := Lib.hid hz
  clear hb0 hb1 hm hz
  go_enter Tryd.func4, Tryd.ntmps4
  go_wp2_with fail
  clear hn hR hT
  refine H1.out.mono ?_
  rintro e X1 ⟨rfl, hB⟩
  have hb := HB.out.trans (hB.mono HB.out.size)
  have hm := (hB.block (w.heap.size + 1) (Array.getElem?_eq_some_iff.1 HM.out).1).trans HM.out
  have hz := (hB.block w.heap.size (Array.getElem?_eq_some_iff.1 HZ.out).1).trans HZ.out
  have z0 : X1.cell? ⟨w.heap.size, 0, none⟩ = some (.int .i64 off) := cell_of_row X1 _ 0 _ _ _ hz
  have z1 : X1.cell? ⟨w.heap.size, 1, none⟩ = some (.slice a len cap) := cell_of_row X1 _ 1 _ _ _ hz
  have m0 : X1.cell? ⟨w.heap.size + 1, 0, none⟩ = some (.int .i64 y) := cell_of_row X1 _ 0 _ _ _ hm
  have m1 : X1.cell? ⟨w.heap.size + 1, 1, none⟩ = some (.int .i64 m) := cell_of_row X1 _ 1 _ _ _ hm
  have m2 : X1.cell? ⟨w.heap.size + 1, 2, none⟩ = some (.int .i64 d) := cell_of_row X1 _ 2 _ _ _ hm
  have m3 : X1.cell? ⟨w.heap.size + 1, 3, none⟩ = some (.int .i64 h) := cell_of_row X1 _ 3 _ _ _ hm
  have m4 : X1.cell? ⟨w.heap.size + 1, 4, none⟩ = some (.int .i64 mi) := cell_of_row X1 _ 4 _ _ _ hm
  have m5 : X1.cell? ⟨w.heap.size + 1, 5, none⟩ = some (.int .i64 s) := cell_of_row X1 _ 5 _ _ _ hm
  have HB1 := Lib.hid hb
  have HM1 := Lib.hid hm
  have HZ1 := Lib.hid hz
  clear hB hb hm hz HB HM HZ H1
  go_wp2_with fail
  refine (H2.out _ HB1.out).mono ?_
  rintro e X2 ⟨rfl, hB⟩
  have hb := HB1.out.trans (hB.mono HB1.out.size)
  have hm := (hB.block (w.heap.size + 1) (Array.getElem?_eq_some_iff.1 HM1.out).1).trans HM1.out
  have hz := (hB.block w.heap.size (Array.getElem?_eq_some_iff.1 HZ1.out).1).trans HZ1.out
  clear z0 z1 m0 m1 m2 m3 m4 m5
  have z0 : X2.cell? ⟨w.heap.size, 0, none⟩ = some (.int .i64 off) := cell_of_row X2 _ 0 _ _ _ hz
  have z1 : X2.cell? ⟨w.heap.size, 1, none⟩ = some (.slice a len cap) := cell_of_row X2 _ 1 _ _ _ hz
  have m0 : X2.cell? ⟨w.heap.size + 1, 0, none⟩ = some (.int .i64 y) := cell_of_row X2 _ 0 _ _ _ hm
  have m1 : X2.cell? ⟨w.heap.size + 1, 1, none⟩ = some (.int .i64 m) := cell_of_row X2 _ 1 _ _ _ hm
  have m2 : X2.cell? ⟨w.heap.size + 1, 2, none⟩ = some (.int .i64 d) := cell_of_row X2 _ 2 _ _ _ hm
  have m3 : X2.cell? ⟨w.heap.size + 1, 3, none⟩ = some (.int .i64 h) := cell_of_row X2 _ 3 _ _ _ hm
  have m4 : X2.cell? ⟨w.heap.size + 1, 4, none⟩ = some (.int .i64 mi) := cell_of_row X2 _ 4 _ _ _ hm
  have m5 : X2.cell? ⟨w.heap.size + 1, 5, none⟩ = some (.int .i64 s) := cell_of_row X2 _ 5 _ _ _ hm
  have HB2 := Lib.hid hb
  have HM2 := Lib.hid hm
  have HZ2 := Lib.hid hz
  clear hB hb hm hz HB1 HM1 HZ1 H2
  go_wp2_with (first | (go_at_call 21; refine (H3.out _).mono ?_; rintro e w' ⟨rfl, rfl⟩) | fail)
  go_ret
  exact ⟨rfl, HB2.out⟩
set_option maxRecDepth 100000 in
set_option maxHeartbeats 4000000 in
theorem zinsts_clock (off : Int) (a : Option Addr) (len cap : Nat) (R : Nat → Rl) (y m d h mi s : Int) (w : World) (hR : RulesAt w.heap.size w a len R) (hT : Tabs w) (hl : len ≤ 100) (hn : ZoneIs off R len) (hd : May y m d) (hv : ¬ TimeIs h mi s) :
    Calls Tryd.prog 4 #[zoneV off a len cap, momV y m d h mi s] w fun e w' => e = .returned (.bool true) ∧ Below w.heap.size w w' := by
  have hll : (len : Int) ≤ 100 := by omega
  have hl1 : len ≤ 1000 := by omega
  have hb0 := (Below.refl _ w).alloc (Nat.le_refl _) (.cells #[.int .i64 off, .slice a len cap] 24)
  have hb1 := hb0.alloc hb0.size (.cells #[.int .i64 y, .int .i64 m, .int .i64 d, .int .i64 h, .int .i64 mi, .int .i64 s] 44)
  have hm := heap_alloc_new (w.alloc (.cells #[.int .i64 off, .slice a len cap] 24)) (.cells #[.int .i64 y, .int .i64 m, .int .i64 d, .int .i64 h, .int .i64 mi, .int .i64 s] 44)
  have hz := heap_old (heap_alloc_new w (.cells #[.int .i64 off, .slice a len cap] 24)) (.cells #[.int .i64 y, .int .i64 m, .int .i64 d, .int .i64 h, .int .i64 mi, .int .i64 s] 44)
  rw [World.size_alloc] at hm
  have H1 := Lib.hid (instants_time off a len cap R y m d h mi s _ ((hR.next hb1).mono hb1.size) hn (hT.next hb1) (fun q => hv q.2))
  have H3 := Lib.hid (fun X => rday_any y m d X)
  rw [show mayE y m d = 0 from if_pos hd] at H3
  have H4 := Lib.hid (fun X => rclock_any h mi s X)
  rw [decide_eq_false hv] at H4
  clear hv hd
  have H2 := Lib.hid (fun X (hX : Below w.heap.size w X) => by
    have := rmayZ_any off a len cap R X hl1 ((hR.next hX).mono hX.size)
    rw [decide_eq_true hn] at this
    exact this)
  clear hl hl1
  have HB := Lib.hid hb1
  have HM := Lib.hid hm
  have HZ := Lib.hid hz
  clear hb0 hb1 hm hz
  go_enter Tryd.func4, Tryd.ntmps4
  go_wp2_with fail
  clear hn hR hT
  refine H1.out.mono ?_
  rintro e X1 ⟨rfl, hB⟩
  have hb := HB.out.trans (hB.mono HB.out.size)
  have hm := (hB.block (w.heap.size + 1) (Array.getElem?_eq_some_iff.1 HM.out).1).trans HM.out
  have hz := (hB.block w.heap.size (Array.getElem?_eq_some_iff.1 HZ.out).1).trans HZ.out
  have z0 : X1.cell? ⟨w.heap.size, 0, none⟩ = some (.int .i64 off) := cell_of_row X1 _ 0 _ _ _ hz
  have z1 : X1.cell? ⟨w.heap.size, 1, none⟩ = some (.slice a len cap) := cell_of_row X1 _ 1 _ _ _ hz
  have m0 : X1.cell? ⟨w.heap.size + 1, 0, none⟩ = some (.int .i64 y) := cell_of_row X1 _ 0 _ _ _ hm
  have m1 : X1.cell? ⟨w.heap.size + 1, 1, none⟩ = some (.int .i64 m) := cell_of_row X1 _ 1 _ _ _ hm
  have m2 : X1.cell? ⟨w.heap.size + 1, 2, none⟩ = some (.int .i64 d) := cell_of_row X1 _ 2 _ _ _ hm
  have m3 : X1.cell? ⟨w.heap.size + 1, 3, none⟩ = some (.int .i64 h) := cell_of_row X1 _ 3 _ _ _ hm
  have m4 : X1.cell? ⟨w.heap.size + 1, 4, none⟩ = some (.int .i64 mi) := cell_of_row X1 _ 4 _ _ _ hm
  have m5 : X1.cell? ⟨w.heap.size + 1, 5, none⟩ = some (.int .i64 s) := cell_of_row X1 _ 5 _ _ _ hm
  have HB1 := Lib.hid hb
  have HM1 := Lib.hid hm
  have HZ1 := Lib.hid hz
  clear hB hb hm hz HB HM HZ H1
  go_wp2_with fail
  refine (H2.out _ HB1.out).mono ?_
  rintro e X2 ⟨rfl, hB⟩
  have hb := HB1.out.trans (hB.mono HB1.out.size)
  have hm := (hB.block (w.heap.size + 1) (Array.getElem?_eq_some_iff.1 HM1.out).1).trans HM1.out
  have hz := (hB.block w.heap.size (Array.getElem?_eq_some_iff.1 HZ1.out).1).trans HZ1.out
  clear z0 z1 m0 m1 m2 m3 m4 m5
  have z0 : X2.cell? ⟨w.heap.size, 0, none⟩ = some (.int .i64 off) := cell_of_row X2 _ 0 _ _ _ hz
  have z1 : X2.cell? ⟨w.heap.size, 1, none⟩ = some (.slice a len cap) := cell_of_row X2 _ 1 _ _ _ hz
  have m0 : X2.cell? ⟨w.heap.size + 1, 0, none⟩ = some (.int .i64 y) := cell_of_row X2 _ 0 _ _ _ hm
  have m1 : X2.cell? ⟨w.heap.size + 1, 1, none⟩ = some (.int .i64 m) := cell_of_row X2 _ 1 _ _ _ hm
  have m2 : X2.cell? ⟨w.heap.size + 1, 2, none⟩ = some (.int .i64 d) := cell_of_row X2 _ 2 _ _ _ hm
  have m3 : X2.cell? ⟨w.heap.size + 1, 3, none⟩ = some (.int .i64 h) := cell_of_row X2 _ 3 _ _ _ hm
  have m4 : X2.cell? ⟨w.heap.size + 1, 4, none⟩ = some (.int .i64 mi) := cell_of_row X2 _ 4 _ _ _ hm
  have m5 : X2.cell? ⟨w.heap.size + 1, 5, none⟩ = some (.int .i64 s) := cell_of_row X2 _ 5 _ _ _ hm
  have HB2 := Lib.hid hb
  have HM2 := Lib.hid hm
  have HZ2 := Lib.hid hz
  clear hB hb hm hz HB1 HM1 HZ1 H2
  go_wp2_with (first | (go_at_call 21; refine (H3.out _).mono ?_; rintro e w' ⟨rfl, rfl⟩) | (go_at_call 22; refine (H4.out _).mono ?_; rintro e w' ⟨rfl, rfl⟩) | fail)
  go_ret
  exact ⟨rfl, HB2.out⟩
set_option maxRecDepth 100000 in
set_option maxHeartbeats 4000000 in
theorem zinsts_yes (off : Int) (a : Option Addr) (len cap : Nat) (R : Nat → Rl) (y m d h mi s : Int) (w : World) (hR : RulesAt w.heap.size w a len R) (hT : Tabs w) (hl : len ≤ 100) (hn : ZoneIs off R len) (hd : May y m d) (hv : TimeIs h mi s) :
    Calls Tryd.prog 4 #[zoneV off a len cap, momV y m d h mi s] w fun e w' => e = .returned (.bool true) ∧ Below w.heap.size w w' := by
  have hll : (len : Int) ≤ 100 := by omega
  have hl1 : len ≤ 1000 := by omega
  have hb0 := (Below.refl _ w).alloc (Nat.le_refl _) (.cells #[.int .i64 off, .slice a len cap] 24)
  have hb1 := hb0.alloc hb0.size (.cells #[.int .i64 y, .int .i64 m, .int .i64 d, .int .i64 h, .int .i64 mi, .int .i64 s] 44)
  have hm := heap_alloc_new (w.alloc (.cells #[.int .i64 off, .slice a len cap] 24)) (.cells #[.int .i64 y, .int .i64 m, .int .i64 d, .int .i64 h, .int .i64 mi, .int .i64 s] 44)
  have hz := heap_old (heap_alloc_new w (.cells #[.int .i64 off, .slice a len cap] 24)) (.cells #[.int .i64 y, .int .i64 m, .int .i64 d, .int .i64 h, .int .i64 mi, .int .i64 s] 44)
  rw [World.size_alloc] at hm
  have hmm : MomIs y m d h mi s := ⟨hd, hv⟩
  have hlb := sec_bounds hmm
  have hdb := day_bounds hd
  have hse : dayOf y m d * 86400 + h * 3600 + mi * 60 + s = secOf y m d h mi s := by unfold secOf; omega
  have H1 := Lib.hid (instants_yes off a len cap R y m d h mi s _ ((hR.next hb1).mono hb1.size) hn (hT.next hb1) hmm)
  have H3 := Lib.hid (fun X => rday_any y m d X)
  rw [show mayE y m d = 0 from if_pos hd, show dayE y m d = dayOf y m d from if_pos hd] at H3
  have H4 := Lib.hid (fun X => rclock_any h mi s X)
  rw [decide_eq_true hv] at H4
  obtain ⟨⟨v1, v2⟩, ⟨v3, v4⟩, v5, v6⟩ := hv
  obtain ⟨d0, d1⟩ := hdb
  obtain ⟨D, hD⟩ : ∃ D, D = dayOf y m d := ⟨_, rfl⟩
  obtain ⟨loc, hloc⟩ : ∃ loc, loc = secOf y m d h mi s := ⟨_, rfl⟩
  rw [← hD] at H3 hse d0 d1
  rw [← hloc] at H1 hse hlb
  have H5 := Lib.hid (fun X (hX : Below w.heap.size w X) => rinst_any off loc a len cap R X ((hR.next hX).mono hX.size) hn hlb.1 hlb.2)
  have hrr := insts_runI (loc := loc) hn hlb.2
  rw [← hrr] at H5
  have hil := insts_len (off := off) (R := R) (len := len) (loc := loc)
  have hn2 := hn.2.1
  obtain ⟨L, hL⟩ : ∃ L, L = insts off R len loc := ⟨_, rfl⟩
  rw [← hL] at H1 H5 hil
  have HSE := Lib.hid hse
  obtain ⟨lb1, lb2⟩ := hlb
  clear hmm hse hd hD hloc hrr hL
  have H2 := Lib.hid (fun X (hX : Below w.heap.size w X) => by
    have := rmayZ_any off a len cap R X hl1 ((hR.next hX).mono hX.size)
    rw [decide_eq_true hn] at this
    exact this)
  clear hl hl1
  have HB := Lib.hid hb1
  have HM := Lib.hid hm
  have HZ := Lib.hid hz
  clear hb0 hb1 hm hz
  go_enter Tryd.func4, Tryd.ntmps4
  go_wp2_with fail
  clear hn hR hT
  refine H1.out.mono ?_
  rintro e X1 ⟨ai, ci, rfl, hO, hB⟩
  have hb := HB.out.trans (hB.mono HB.out.size)
  have hm := (hB.block (w.heap.size + 1) (Array.getElem?_eq_some_iff.1 HM.out).1).trans HM.out
  have hz := (hB.block w.heap.size (Array.getElem?_eq_some_iff.1 HZ.out).1).trans HZ.out
  have z0 : X1.cell? ⟨w.heap.size, 0, none⟩ = some (.int .i64 off) := cell_of_row X1 _ 0 _ _ _ hz
  have z1 : X1.cell? ⟨w.heap.size, 1, none⟩ = some (.slice a len cap) := cell_of_row X1 _ 1 _ _ _ hz
  have m0 : X1.cell? ⟨w.heap.size + 1, 0, none⟩ = some (.int .i64 y) := cell_of_row X1 _ 0 _ _ _ hm
  have m1 : X1.cell? ⟨w.heap.size + 1, 1, none⟩ = some (.int .i64 m) := cell_of_row X1 _ 1 _ _ _ hm
  have m2 : X1.cell? ⟨w.heap.size + 1, 2, none⟩ = some (.int .i64 d) := cell_of_row X1 _ 2 _ _ _ hm
  have m3 : X1.cell? ⟨w.heap.size + 1, 3, none⟩ = some (.int .i64 h) := cell_of_row X1 _ 3 _ _ _ hm
  have m4 : X1.cell? ⟨w.heap.size + 1, 4, none⟩ = some (.int .i64 mi) := cell_of_row X1 _ 4 _ _ _ hm
  have m5 : X1.cell? ⟨w.heap.size + 1, 5, none⟩ = some (.int .i64 s) := cell_of_row X1 _ 5 _ _ _ hm
  have HB1 := Lib.hid hb
  have HM1 := Lib.hid hm
  have HZ1 := Lib.hid hz
  clear hB hb hm hz HB HM HZ H1
  have HO := Lib.hid hO.bys
  have hs1 : Below X1.heap.size X1 X1 := Below.refl _ _
  clear hO
  go_wp2_with fail
  refine (H2.out _ HB1.out).mono ?_
  rintro e X2 ⟨rfl, hB⟩
  have HS2 := Lib.hid (hs1.trans hB)
  clear hs1
  have hb := HB1.out.trans (hB.mono HB1.out.size)
  have hm := (hB.block (w.heap.size + 1) (Array.getElem?_eq_some_iff.1 HM1.out).1).trans HM1.out
  have hz := (hB.block w.heap.size (Array.getElem?_eq_some_iff.1 HZ1.out).1).trans HZ1.out
  clear z0 z1 m0 m1 m2 m3 m4 m5
  have z0 : X2.cell? ⟨w.heap.size, 0, none⟩ = some (.int .i64 off) := cell_of_row X2 _ 0 _ _ _ hz
  have z1 : X2.cell? ⟨w.heap.size, 1, none⟩ = some (.slice a len cap) := cell_of_row X2 _ 1 _ _ _ hz
  have m0 : X2.cell? ⟨w.heap.size + 1, 0, none⟩ = some (.int .i64 y) := cell_of_row X2 _ 0 _ _ _ hm
  have m1 : X2.cell? ⟨w.heap.size + 1, 1, none⟩ = some (.int .i64 m) := cell_of_row X2 _ 1 _ _ _ hm
  have m2 : X2.cell? ⟨w.heap.size + 1, 2, none⟩ = some (.int .i64 d) := cell_of_row X2 _ 2 _ _ _ hm
  have m3 : X2.cell? ⟨w.heap.size + 1, 3, none⟩ = some (.int .i64 h) := cell_of_row X2 _ 3 _ _ _ hm
  have m4 : X2.cell? ⟨w.heap.size + 1, 4, none⟩ = some (.int .i64 mi) := cell_of_row X2 _ 4 _ _ _ hm
  have m5 : X2.cell? ⟨w.heap.size + 1, 5, none⟩ = some (.int .i64 s) := cell_of_row X2 _ 5 _ _ _ hm
  have HB2 := Lib.hid hb
  have HM2 := Lib.hid hm
  have HZ2 := Lib.hid hz
  clear hB hb hm hz HB1 HM1 HZ1 H2
  go_wp2_with (first | (go_at_call 21; refine (H3.out _).mono ?_; rintro e w' ⟨rfl, rfl⟩) | (go_at_call 22; refine (H4.out _).mono ?_; rintro e w' ⟨rfl, rfl⟩) | (go_at_call 24; rw [HSE.out]; refine (H5.out _ HB2.out).mono ?_; rintro e X3 ⟨⟨A, cc, rfl, hBys⟩, hB⟩; refine Hid.out ?_) | fail)
  refine Lib.hid ?_
  have hb3 := HB2.out.trans (hB.mono HB2.out.size)
  have hS3 := HS2.out.trans (hB.mono HS2.out.size)
  have h64 := at64_of_bys ((HO.out.below hS3).mono hS3.size)
  have h64b := at64_of_bys hBys
  have HSM := Lib.hid (rsame_any ai A L.length L.length ci cc L L X3 rfl rfl (by omega) h64 h64b)
  rw [decide_eq_true rfl] at HSM
  have HB3 := Lib.hid hb3
  clear hB hb3 hS3 h64 h64b hBys HS2 HO z0 z1 m0 m1 m2 m3 m4 m5 H5 HSE HM2 HZ2
  go_wp2_with (first | (go_at_call 23; refine HSM.out.mono ?_; rintro e X4 ⟨rfl, hB⟩) | fail)
  go_ret
  exact ⟨rfl, HB3.out.trans (hB.mono HB3.out.size)⟩
theorem zoneInstants_any (off : Int) (a : Option Addr) (len cap : Nat) (R : Nat → Rl) (y m d h mi s : Int) (w : World) (hT : Tabs w) (w0 : In64 off ∧ RulesAt w.heap.size w a len R) (w1 : In64 y ∧ In64 m ∧ In64 d ∧ In64 h ∧ In64 mi ∧ In64 s) :
    Calls Tryd.prog 4 #[zoneV off a len cap, momV y m d h mi s] w fun e w' => e = .returned (.bool true) ∧ Below w.heap.size w w' := by
  have hR := w0.2
  by_cases hl : len ≤ 100
  · by_cases hn : ZoneIs off R len
    · by_cases hd : May y m d
      · by_cases hv : TimeIs h mi s
        · exact zinsts_yes off a len cap R y m d h mi s w hR hT hl hn hd hv
        · exact zinsts_clock off a len cap R y m d h mi s w hR hT hl hn hd hv
      · exact zinsts_day off a len cap R y m d h mi s w hR hT hl hn hd
    · exact zinsts_bad off a len cap R y m d h mi s w hR hT hl hn
  · exact zinsts_many off a len cap R y m d h mi s w hR hT (by omega)
end Go.Proofs.YtobnlcmamnoefaaDoor
