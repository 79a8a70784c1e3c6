/- Contract of the program's extraAt: by how many seconds the local time is ahead of a standard time. -/
import Derived.Test.YtobnlcmamnoefaaDoorYChange
import Derived.Test.YtobnlcmamnoefaaDoorZRefuse
set_option linter.unusedVariables false
set_option linter.unusedSimpArgs false
namespace Go.Proofs.YtobnlcmamnoefaaDoor
open Go.RowKit Go.Shelf
def xOf (R : Nat → Rl) (len : Nat) (y s : Int) : Int := if ruleB R len y = true then (if sumP (onOf (ruleR R len y) y) (offOf (ruleR R len y) y) s then (ruleR R len y).x else 0) else 0
theorem xOf_some {R : Nat → Rl} {len : Nat} {y s : Int} {k : Nat} (hi : ruleI R len y = k) : xOf R len y s = if sumP (onOf (R k) y) (offOf (R k) y) s then (R k).x else 0 := by
  obtain ⟨e1, e2⟩ := ruleR_some hi
  unfold xOf; rw [e1, e2]; simp
theorem xOf_none {R : Nat → Rl} {len : Nat} {y s : Int} (hi : ruleI R len y = -1) : xOf R len y s = 0 := by
  unfold xOf; rw [(ruleR_none hi).2]; simp
theorem nOf_x (off : Int) (R : Nat → Rl) (len : Nat) (y s : Int) : nOf off R len y s = off + xOf R len y s := by
  rcases rule_cases R len y with ⟨k, hk, hi, hy⟩ | hi
  · rw [nOf_some hi, xOf_some hi]; split <;> simp
  · rw [nOf_none hi, xOf_none hi]; simp
theorem xOf_bounds {off : Int} {R : Nat → Rl} {len : Nat} (hz : ZoneIs off R len) (y s : Int) : 0 ≤ xOf R len y s ∧ xOf R len y s ≤ 7200 := by
  rcases rule_cases R len y with ⟨k, hk, hi, hy⟩ | hi
  · have := hz.2.2 k hk
    rw [xOf_some hi]; split
    · exact ⟨by have := this.2.1.1; omega, this.2.1.2⟩
    · omega
  · rw [xOf_none hi]; omega
set_option maxRecDepth 100000 in
set_option maxHeartbeats 4000000 in
theorem extraAt_any (off : Int) (a : Option Addr) (len cap : Nat) (R : Nat → Rl) (y s : Int) (w : World) (hR : RulesAt w.heap.size w a len R) (hz : ZoneIs off R len) (hT : Tabs w) :
    Calls Tryd.prog 41 #[zoneV off a len cap, .int .i64 y, .int .i64 s] w fun e w' => e = .returned (.int .i64 (xOf R len y s)) ∧ Below w.heap.size w w' := by
  have hl : len ≤ 1000 := by have := hz.2.1; omega
  have hb0 := (Below.refl _ w).alloc (Nat.le_refl _) (.cells #[.int .i64 off, .slice a len cap] 24)
  have H1 := Lib.hid (ruleOf_any off a len cap R y _ hl ((hR.next hb0).mono hb0.size))
  have HB := Lib.hid hb0
  have HT := Lib.hid (hT.next hb0)
  rcases rule_cases R len y with ⟨k, hk, hi, hy⟩ | hi
  · have hrz := hz.2.2 k hk
    obtain ⟨e1, e2⟩ := ruleR_some hi
    rw [e1, e2] at H1
    rw [xOf_some hi]
    have H2 := Lib.hid (fun X hX => changesOf_any (R k) y X hrz hy hX)
    obtain ⟨V1, hV1⟩ : ∃ v, v = onOf (R k) y := ⟨_, rfl⟩
    obtain ⟨V2, hV2⟩ : ∃ v, v = offOf (R k) y := ⟨_, rfl⟩
    rw [← hV1, ← hV2] at H2 ⊢
    obtain ⟨r, hr⟩ : ∃ r, r = R k := ⟨_, rfl⟩
    rw [← hr] at H1 H2 ⊢
    clear e1 e2 hrz hi hy hk hr hV1 hV2 hz hR hT hb0
    obtain ⟨f, l, m1, w1, n1, t1, m2, w2, n2, t2, x⟩ := r
    show Calls Tryd.prog 41 _ w fun e w' => e = .returned (.int .i64 (if sumP V1 V2 s then x else 0)) ∧ Below w.heap.size w w'
    have hs : sumP V1 V2 s ↔ (V1 < V2 ∧ V1 ≤ s ∧ s < V2) ∨ (V2 < V1 ∧ (s < V2 ∨ V1 ≤ s)) := Iff.rfl
    obtain ⟨G, hG⟩ : ∃ g, g = if sumP V1 V2 s then x else 0 := ⟨_, rfl⟩
    rw [← hG]
    have HGG := Lib.hid hG
    have HS := Lib.hid hs
    clear hG hs
    go_enter Tryd.func41, Tryd.ntmps41
    go_wp2_with fail
    refine H1.out.mono ?_
    rintro e X ⟨rfl, hB1⟩
    have hb1 := HB.out.trans (hB1.mono HB.out.size)
    have HBX := Lib.hid (hb1.alloc hb1.size (.cells #[.int .i64 f, .int .i64 l, .int .i64 m1, .int .i64 w1, .int .i64 n1, .int .i64 t1, .int .i64 m2, .int .i64 w2, .int .i64 n2, .int .i64 t2, .int .i64 x] 31))
    have HTX := Lib.hid (HT.out.next (hB1.alloc hB1.size (.cells #[.int .i64 f, .int .i64 l, .int .i64 m1, .int .i64 w1, .int .i64 n1, .int .i64 t1, .int .i64 m2, .int .i64 w2, .int .i64 n2, .int .i64 t2, .int .i64 x] 31)))
    have HN := Lib.hid (heap_alloc_new X (.cells #[.int .i64 f, .int .i64 l, .int .i64 m1, .int .i64 w1, .int .i64 n1, .int .i64 t1, .int .i64 m2, .int .i64 w2, .int .i64 n2, .int .i64 t2, .int .i64 x] 31))
    clear hB1 hb1 H1 HB HT
    go_wp2_with fail
    refine (H2.out _ HTX.out).mono ?_
    rintro e Y ⟨rfl, hB2⟩
    have hby := HBX.out.trans (hB2.mono HBX.out.size)
    have hny := (hB2.block X.heap.size (by simp)).trans HN.out
    have s10 : Y.cell? ⟨X.heap.size, 10, none⟩ = some (.int .i64 x) := cell_of_row Y _ 10 _ _ _ hny
    have HBY := Lib.hid hby
    clear hB2 hby hny HBX HTX HN H2
    by_cases c1 : V1 ≤ s
    · have gc1 : decide (V1 ≤ s) = true := decide_eq_true c1
      by_cases c2 : s < V2
      · have gc2 : decide (s < V2) = true := decide_eq_true c2
        by_cases c3 : V2 < V1
        · have gc3 : decide (V2 < V1) = true := decide_eq_true c3
          omega
        · have gc3 : decide (V2 < V1) = false := decide_eq_false c3
          obtain rfl : G = x := by rw [HGG.out, if_pos (HS.out.2 (by omega))]
          go_wp2
          go_ret
          exact ⟨rfl, HBY.out⟩
      · have gc2 : decide (s < V2) = false := decide_eq_false c2
        by_cases c3 : V2 < V1
        · have gc3 : decide (V2 < V1) = true := decide_eq_true c3
          obtain rfl : G = x := by rw [HGG.out, if_pos (HS.out.2 (by omega))]
          go_wp2
          go_ret
          exact ⟨rfl, HBY.out⟩
        · have gc3 : decide (V2 < V1) = false := decide_eq_false c3
          obtain rfl : G = 0 := by rw [HGG.out, if_neg (fun z => by have := HS.out.1 z; omega)]
          go_wp2
          go_ret
          exact ⟨rfl, HBY.out⟩
    · have gc1 : decide (V1 ≤ s) = false := decide_eq_false c1
      by_cases c3 : V2 < V1
      · have gc3 : decide (V2 < V1) = true := decide_eq_true c3
        by_cases c2 : s < V2
        · have gc2 : decide (s < V2) = true := decide_eq_true c2
          obtain rfl : G = x := by rw [HGG.out, if_pos (HS.out.2 (by omega))]
          go_wp2
          go_ret
          exact ⟨rfl, HBY.out⟩
        · have gc2 : decide (s < V2) = false := decide_eq_false c2
          obtain rfl : G = 0 := by rw [HGG.out, if_neg (fun z => by have := HS.out.1 z; omega)]
          go_wp2
          go_ret
          exact ⟨rfl, HBY.out⟩
      · have gc3 : decide (V2 < V1) = false := decide_eq_false c3
        obtain rfl : G = 0 := by rw [HGG.out, if_neg (fun z => by have := HS.out.1 z; omega)]
        go_wp2
        go_ret
        exact ⟨rfl, HBY.out⟩
  · obtain ⟨e1, e2⟩ := ruleR_none hi
    rw [e1, e2] at H1
    rw [xOf_none hi]
    clear e1 e2 hi hz hR hT hb0 HT
    go_enter Tryd.func41, Tryd.ntmps41
    go_wp2_with fail
    refine H1.out.mono ?_
    rintro e X ⟨rfl, hB1⟩
    have hb1 := HB.out.trans (hB1.mono HB.out.size)
    have HBX := Lib.hid (hb1.alloc hb1.size (.cells #[.int .i64 0, .int .i64 0, .int .i64 0, .int .i64 0, .int .i64 0, .int .i64 0, .int .i64 0, .int .i64 0, .int .i64 0, .int .i64 0, .int .i64 0] 31))
    clear hB1 hb1 H1 HB
    go_wp2
    go_ret
    exact ⟨rfl, HBX.out⟩
end Go.Proofs.YtobnlcmamnoefaaDoor
