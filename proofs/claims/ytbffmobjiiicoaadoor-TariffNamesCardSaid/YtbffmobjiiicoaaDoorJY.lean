/- Joined: YLeaf YRule YChange YAt. -/
import Derived.Test.YtbffmobjiiicoaaDoorJZ2
section
/- Contracts of the program's small functions of layer 7: isFrom, isChange, isRule. -/
set_option linter.unusedVariables false
set_option linter.unusedSimpArgs false
namespace Go.Proofs.YtbffmobjiiicoaaDoor
open Go.RowKit Go.Shelf
theorem isFrom_any (n a b : Int) (w : World) :
    Calls Tryd.prog 54 #[.int .i64 n, .int .i64 a, .int .i64 b] w fun e w' => e = .returned (.bool (decide (a ≤ n ∧ n ≤ b))) ∧ w = w' := by
  by_cases h0 : a ≤ n <;> by_cases h1 : n ≤ b
  all_goals
    go_enter Tryd.func54, Tryd.ntmps54
    go_wp2
    go_ret
    exact ⟨by simp [h0, h1], rfl⟩
set_option maxRecDepth 100000 in
set_option maxHeartbeats 2000000 in
theorem isChange_any (m w n t : Int) (W : World) :
    Calls Tryd.prog 75 #[chV m w n t] W fun e w' => e = .returned (.bool (decide (ChIs m w n t))) ∧ Below W.heap.size W w' := by
  have HB := Lib.hid ((Below.refl _ W).alloc (Nat.le_refl _) (.cells #[.int .i64 m, .int .i64 w, .int .i64 n, .int .i64 t] 127))
  by_cases c1 : 1 ≤ m ∧ m ≤ 12
  · have g1 := Lib.hid (show decide (1 ≤ m ∧ m ≤ 12) = true from decide_eq_true c1)
    by_cases c2 : 1 ≤ w ∧ w ≤ 7
    · have g2 := Lib.hid (show decide (1 ≤ w ∧ w ≤ 7) = true from decide_eq_true c2)
      by_cases c3 : 1 ≤ n ∧ n ≤ 4
      · have g3 := Lib.hid (show decide (1 ≤ n ∧ n ≤ 4) = true from decide_eq_true c3)
        by_cases c4 : 0 ≤ t ∧ t ≤ 1439
        · have g4 := Lib.hid (show decide (0 ≤ t ∧ t ≤ 1439) = true from decide_eq_true c4)
          rw [show decide (ChIs m w n t) = true from decide_eq_true (by unfold ChIs; omega)]
          clear c1 c2 c3 c4
          go_enter Tryd.func75, Tryd.ntmps75
          go_wp2_with (go_at_call 54; refine (isFrom_any _ _ _ _).mono ?_; rintro e w' ⟨rfl, rfl⟩; first | rw [g1.out] | rw [g2.out] | rw [g3.out] | rw [g4.out])
          go_ret
          exact ⟨rfl, HB.out⟩
        · have g4 := Lib.hid (show decide (0 ≤ t ∧ t ≤ 1439) = false from decide_eq_false c4)
          rw [show decide (ChIs m w n t) = false from decide_eq_false (by unfold ChIs; omega)]
          clear c1 c2 c3 c4
          go_enter Tryd.func75, Tryd.ntmps75
          go_wp2_with (go_at_call 54; refine (isFrom_any _ _ _ _).mono ?_; rintro e w' ⟨rfl, rfl⟩; first | rw [g1.out] | rw [g2.out] | rw [g3.out] | rw [g4.out])
          go_ret
          exact ⟨rfl, HB.out⟩
      · have g3 := Lib.hid (show decide (1 ≤ n ∧ n ≤ 4) = false from decide_eq_false c3)
        by_cases c5 : n = -1
        · have g5 : (n == -1) = true := by simp [c5]
          by_cases c4 : 0 ≤ t ∧ t ≤ 1439
          · have g4 := Lib.hid (show decide (0 ≤ t ∧ t ≤ 1439) = true from decide_eq_true c4)
            rw [show decide (ChIs m w n t) = true from decide_eq_true (by unfold ChIs; omega)]
            clear c1 c2 c3 c5 c4
            go_enter Tryd.func75, Tryd.ntmps75
            go_wp2_with (go_at_call 54; refine (isFrom_any _ _ _ _).mono ?_; rintro e w' ⟨rfl, rfl⟩; first | rw [g1.out] | rw [g2.out] | rw [g3.out] | rw [g4.out])
            go_ret
            exact ⟨rfl, HB.out⟩
          · have g4 := Lib.hid (show decide (0 ≤ t ∧ t ≤ 1439) = false from decide_eq_false c4)
            rw [show decide (ChIs m w n t) = false from decide_eq_false (by unfold ChIs; omega)]
            clear c1 c2 c3 c5 c4
            go_enter Tryd.func75, Tryd.ntmps75
            go_wp2_with (go_at_call 54; refine (isFrom_any _ _ _ _).mono ?_; rintro e w' ⟨rfl, rfl⟩; first | rw [g1.out] | rw [g2.out] | rw [g3.out] | rw [g4.out])
            go_ret
            exact ⟨rfl, HB.out⟩
        · have g5 : (n == -1) = false := by simp [c5]
          rw [show decide (ChIs m w n t) = false from decide_eq_false (by unfold ChIs; omega)]
          clear c1 c2 c3 c5
          go_enter Tryd.func75, Tryd.ntmps75
          go_wp2_with (go_at_call 54; refine (isFrom_any _ _ _ _).mono ?_; rintro e w' ⟨rfl, rfl⟩; first | rw [g1.out] | rw [g2.out] | rw [g3.out])
          go_ret
          exact ⟨rfl, HB.out⟩
    · have g2 := Lib.hid (show decide (1 ≤ w ∧ w ≤ 7) = false from decide_eq_false c2)
      rw [show decide (ChIs m w n t) = false from decide_eq_false (by unfold ChIs; omega)]
      clear c1 c2
      go_enter Tryd.func75, Tryd.ntmps75
      go_wp2_with (go_at_call 54; refine (isFrom_any _ _ _ _).mono ?_; rintro e w' ⟨rfl, rfl⟩; first | rw [g1.out] | rw [g2.out])
      go_ret
      exact ⟨rfl, HB.out⟩
  · have g1 := Lib.hid (show decide (1 ≤ m ∧ m ≤ 12) = false from decide_eq_false c1)
    rw [show decide (ChIs m w n t) = false from decide_eq_false (by unfold ChIs; omega)]
    clear c1
    go_enter Tryd.func75, Tryd.ntmps75
    go_wp2_with (go_at_call 54; refine (isFrom_any _ _ _ _).mono ?_; rintro e w' ⟨rfl, rfl⟩; first | rw [g1.out])
    go_ret
    exact ⟨rfl, HB.out⟩
set_option maxRecDepth 100000 in
set_option maxHeartbeats 4000000 in
theorem isRule_any (r : Rl) (W : World) :
    Calls Tryd.prog 55 #[rlV r] W fun e w' => e = .returned (.bool (decide (RlIs r))) ∧ Below W.heap.size W w' := by
  obtain ⟨f, l, m1, w1, n1, t1, m2, w2, n2, t2, x⟩ := r
  have HB := Lib.hid ((Below.refl _ W).alloc (Nat.le_refl _) (.cells #[.int .i64 f, .int .i64 l, .int .i64 m1, .int .i64 w1, .int .i64 n1, .int .i64 t1, .int .i64 m2, .int .i64 w2, .int .i64 n2, .int .i64 t2, .int .i64 x] 129))
  have HG := Lib.hid (heap_alloc_new W (.cells #[.int .i64 f, .int .i64 l, .int .i64 m1, .int .i64 w1, .int .i64 n1, .int .i64 t1, .int .i64 m2, .int .i64 w2, .int .i64 n2, .int .i64 t2, .int .i64 x] 129))
  have HC1 := Lib.hid (fun X => isChange_any m1 w1 n1 t1 X)
  have HC2 := Lib.hid (fun X => isChange_any m2 w2 n2 t2 X)
  obtain ⟨RV, hRV⟩ : ∃ b, b = decide (RlIs ⟨f, l, m1, w1, n1, t1, m2, w2, n2, t2, x⟩) := ⟨_, rfl⟩
  show Calls Tryd.prog 55 #[.agg #[.int .i64 f, .int .i64 l, .int .i64 m1, .int .i64 w1, .int .i64 n1, .int .i64 t1, .int .i64 m2, .int .i64 w2, .int .i64 n2, .int .i64 t2, .int .i64 x]] W fun e w' => e = .returned (.bool (decide (RlIs ⟨f, l, m1, w1, n1, t1, m2, w2, n2, t2, x⟩))) ∧ Below W.heap.size W w'
  rw [← hRV]
  have hno : ∀ q : ¬ RlIs ⟨f, l, m1, w1, n1, t1, m2, w2, n2, t2, x⟩, RV = false := fun q => by rw [hRV]; exact decide_eq_false q
  have hyes : ∀ q : RlIs ⟨f, l, m1, w1, n1, t1, m2, w2, n2, t2, x⟩, RV = true := fun q => by rw [hRV]; exact decide_eq_true q
  clear hRV
  by_cases c1 : 1970 ≤ f ∧ f ≤ l
  · have g1 := Lib.hid (show decide (1970 ≤ f ∧ f ≤ l) = true from decide_eq_true c1)
    by_cases c2 : l ≤ 9999
    · by_cases c3 : 1 ≤ x ∧ x ≤ 7200
      · have g3 := Lib.hid (show decide (1 ≤ x ∧ x ≤ 7200) = true from decide_eq_true c3)
        by_cases e1 : ChIs m1 w1 n1 t1
        · have q1 := Lib.hid (show decide (ChIs m1 w1 n1 t1) = true from decide_eq_true e1)
          obtain ⟨b2, hb2⟩ : ∃ b, b = decide (ChIs m2 w2 n2 t2) := ⟨_, rfl⟩
          have hfin : b2 = RV := by
            by_cases e2 : ChIs m2 w2 n2 t2
            · rw [hb2, decide_eq_true e2]; exact (hyes ⟨⟨c1.1, c2, c1.2⟩, c3, e1, e2⟩).symm
            · rw [hb2, decide_eq_false e2]; exact (hno (fun z => e2 z.2.2.2)).symm
          obtain rfl := hfin
          have q2 := Lib.hid hb2.symm
          clear hyes hno e1 hb2 c1 c3
          go_enter Tryd.func55, Tryd.ntmps55
          go_wp2_with (go_at_call 54; refine (isFrom_any _ _ _ _).mono ?_; rintro e w' ⟨rfl, rfl⟩; first | rw [g1.out] | rw [g3.out])
          refine (HC1.out _).mono ?_
          rintro e w1' ⟨rfl, hB1⟩
          rw [q1.out]
          have hb1 := HB.out.trans (hB1.mono HB.out.size)
          have hg1 := (hB1.block W.heap.size (Array.getElem?_eq_some_iff.1 HG.out).1).trans HG.out
          have s6 : w1'.cell? ⟨W.heap.size, 6, none⟩ = some (.int .i64 m2) := cell_of_row _ _ 6 _ _ _ hg1
          have s7 : w1'.cell? ⟨W.heap.size, 7, none⟩ = some (.int .i64 w2) := cell_of_row _ _ 7 _ _ _ hg1
          have s8 : w1'.cell? ⟨W.heap.size, 8, none⟩ = some (.int .i64 n2) := cell_of_row _ _ 8 _ _ _ hg1
          have s9 : w1'.cell? ⟨W.heap.size, 9, none⟩ = some (.int .i64 t2) := cell_of_row _ _ 9 _ _ _ hg1
          have HB1 := Lib.hid hb1
          clear hB1 hb1 hg1
          go_wp2_with fail
          refine (HC2.out _).mono ?_
          rintro e w2' ⟨rfl, hB2⟩
          rw [q2.out]
          have HB2 := Lib.hid (HB1.out.trans (hB2.mono HB1.out.size))
          clear hB2 s6 s7 s8 s9
          go_wp2
          go_ret
          exact ⟨rfl, HB2.out⟩
        · have q1 := Lib.hid (show decide (ChIs m1 w1 n1 t1) = false from decide_eq_false e1)
          obtain rfl := hno (fun z => e1 z.2.2.1)
          clear hyes hno e1 c1 c3
          go_enter Tryd.func55, Tryd.ntmps55
          go_wp2_with (go_at_call 54; refine (isFrom_any _ _ _ _).mono ?_; rintro e w' ⟨rfl, rfl⟩; first | rw [g1.out] | rw [g3.out])
          refine (HC1.out _).mono ?_
          rintro e w1' ⟨rfl, hB1⟩
          rw [q1.out]
          have hb1 := HB.out.trans (hB1.mono HB.out.size)
          have hg1 := (hB1.block W.heap.size (Array.getElem?_eq_some_iff.1 HG.out).1).trans HG.out
          have HB1 := Lib.hid hb1
          clear hB1 hb1 hg1
          go_wp2
          go_ret
          exact ⟨rfl, HB1.out⟩
      · have g3 := Lib.hid (show decide (1 ≤ x ∧ x ≤ 7200) = false from decide_eq_false c3)
        obtain rfl := hno (fun z => by obtain ⟨⟨z1, z2, z3⟩, ⟨z4, z5⟩, z6, z7⟩ := z; exact c3 ⟨z4, z5⟩)
        clear hyes hno c1 c3
        go_enter Tryd.func55, Tryd.ntmps55
        go_wp2_with (go_at_call 54; refine (isFrom_any _ _ _ _).mono ?_; rintro e w' ⟨rfl, rfl⟩; first | rw [g1.out] | rw [g3.out])
        go_ret
        exact ⟨rfl, HB.out⟩
    · skip
      obtain rfl := hno (fun z => by obtain ⟨⟨z1, z2, z3⟩, ⟨z4, z5⟩, z6, z7⟩ := z; exact c2 z2)
      clear hyes hno c1
      go_enter Tryd.func55, Tryd.ntmps55
      go_wp2_with (go_at_call 54; refine (isFrom_any _ _ _ _).mono ?_; rintro e w' ⟨rfl, rfl⟩; first | rw [g1.out])
      go_ret
      exact ⟨rfl, HB.out⟩
  · have g1 := Lib.hid (show decide (1970 ≤ f ∧ f ≤ l) = false from decide_eq_false c1)
    obtain rfl := hno (fun z => by obtain ⟨⟨z1, z2, z3⟩, ⟨z4, z5⟩, z6, z7⟩ := z; exact c1 ⟨z1, z3⟩)
    clear hyes hno c1
    go_enter Tryd.func55, Tryd.ntmps55
    go_wp2_with (go_at_call 54; refine (isFrom_any _ _ _ _).mono ?_; rintro e w' ⟨rfl, rfl⟩; first | rw [g1.out])
    go_ret
    exact ⟨rfl, HB.out⟩
end Go.Proofs.YtbffmobjiiicoaaDoor
end
section
/- Contracts of the program's functions Check, ruleOf, Of of layer 7. -/
set_option linter.unusedVariables false
set_option linter.unusedSimpArgs false
namespace Go.Proofs.YtbffmobjiiicoaaDoor
open Go.RowKit Go.Shelf
/-- What Check answers. -/
def zE (off : Int) (R : Nat → Rl) (len : Nat) : Int := if ZoneIs off R len then 0 else 70
theorem zE_yes {off : Int} {R : Nat → Rl} {len : Nat} (h : ZoneIs off R len) : zE off R len = 0 := by unfold zE; rw [if_pos h]
theorem zE_no {off : Int} {R : Nat → Rl} {len : Nat} (h : ¬ ZoneIs off R len) : zE off R len = 70 := by unfold zE; rw [if_neg h]
set_option maxRecDepth 100000 in
set_option maxHeartbeats 4000000 in
theorem checkZ_any (off : Int) (a : Option Addr) (len cap : Nat) (R : Nat → Rl) (w : World) (hl : len ≤ 1000) (hR : RulesAt w.heap.size w a len R) :
    Calls Tryd.prog 27 #[zoneV off a len cap] w fun e w' => e = .returned (.int .i64 (zE off R len)) ∧ Below w.heap.size w w' := by
  have hb0 := (Below.refl _ w).alloc (Nat.le_refl _) (.cells #[.int .i64 off, .slice a len cap] 29)
  have hr := heap_alloc_new w (.cells #[.int .i64 off, .slice a len cap] 29)
  have HR := Lib.hid hR
  have HB := Lib.hid hb0
  have G := Lib.hid hr
  have hli : (len : Int) ≤ 1000 := by omega
  clear hb0 hr hR hl
  obtain ⟨RV, hRV⟩ : ∃ b, b = zE off R len := ⟨_, rfl⟩
  rw [← hRV]
  have hno : ¬ ZoneIs off R len → RV = 70 := fun q => by rw [hRV, zE_no q]
  have hyes : ZoneIs off R len → RV = 0 := fun q => by rw [hRV, zE_yes q]
  clear hRV
  have HNO := Lib.hid hno
  have HYES := Lib.hid hyes
  clear hno hyes
  by_cases c0 : -50400 ≤ off ∧ off ≤ 50400
  · have g0 := Lib.hid (show decide (-50400 ≤ off ∧ off ≤ 50400) = true from decide_eq_true c0)
    by_cases c2 : len ≤ 20
    · have c2i : (len : Int) ≤ 20 := by omega
      have HC := Lib.hid (And.intro c0 c2)
      clear c2 c0
      go_enter Tryd.func27, Tryd.ntmps27
      go_wp2_with (go_at_call 54; refine (isFrom_any _ _ _ _).mono ?_; rintro e w' ⟨rfl, rfl⟩; rw [g0.out])
      obtain ⟨W0, hW0⟩ : ∃ X, X = w.alloc (.cells #[.int .i64 off, .slice a len cap] 29) := ⟨_, rfl⟩
      rw [← hW0] at HB G ⊢
      clear hW0 hli
      go_loopw [18] (fun i wr => ∃ k : Nat, k ≤ len ∧ i = .int .i64 k ∧ (∀ j, j < k → RlIs (R j)) ∧ Below w.heap.size w wr) (fun i _ => (len - intOf i).toNat)
      case atStart => exact ⟨0, Nat.zero_le _, rfl, fun j hj => absurd hj (Nat.not_lt_zero _), HB.out⟩
      case round =>
        obtain ⟨k, hk, rfl, hn, hbw⟩ := hrel
        have HN := Lib.hid hn
        have HBW := Lib.hid hbw
        clear hn hbw HB G
        by_cases hlt : k < len
        · obtain ⟨b, o, rfl, hb, hrl⟩ := HR.out.next HBW.out k hlt
          have hlti : (k : Int) < len := by omega
          obtain ⟨r, hrk⟩ : ∃ r, r = R k := ⟨_, rfl⟩
          rw [← hrk] at hrl
          have HK := Lib.hid hrk
          clear hrk
          have HQ := Lib.hid (fun X => isRule_any r X)
          obtain ⟨bq, hbq⟩ : ∃ b, b = decide (RlIs r) := ⟨_, rfl⟩
          rw [← hbq] at HQ
          have HBQ := Lib.hid hbq
          clear hbq
          obtain ⟨f, l, m1, w1, n1, t1, m2, w2, n2, t2, x⟩ := r
          obtain ⟨r0, r1, r2, r3, r4, r5, r6, r7, r8, r9, r10⟩ := hrl
          simp only [] at r0 r1 r2 r3 r4 r5 r6 r7 r8 r9 r10
          have HBX := Lib.hid (HBW.out.alloc HBW.out.size (.cells #[.int .i64 f, .int .i64 l, .int .i64 m1, .int .i64 w1, .int .i64 n1, .int .i64 t1, .int .i64 m2, .int .i64 w2, .int .i64 n2, .int .i64 t2, .int .i64 x] 129))
          go_wp2_with fail
          refine (HQ.out _).mono ?_
          rintro e w1' ⟨rfl, hB1⟩
          have HB1 := Lib.hid (HBX.out.trans (hB1.mono HBX.out.size))
          clear hB1 HBX HQ r0 r1 r2 r3 r4 r5 r6 r7 r8 r9 r10
          cases bq with
          | false =>
            go_wp2
            go_ret
            exact ⟨by rw [HNO.out (fun z => of_decide_eq_false HBQ.out.symm (by rw [HK.out]; exact z.2.2 k hlt))]; rfl, HB1.out⟩
          | true =>
            go_wp2
            go_roundw
            case rel => exact ⟨k + 1, by omega, by simp, fun j hj => by
                by_cases hjk : j = k
                · subst hjk; rw [← HK.out]; exact of_decide_eq_true HBQ.out.symm
                · exact HN.out j (by omega), HB1.out⟩
            case measure => simp [intOf]; omega
        · obtain rfl : k = len := by omega
          go_wp2
          go_ret
          exact ⟨by rw [HYES.out ⟨HC.out.1, HC.out.2, HN.out⟩]; rfl, HBW.out⟩
    · have c2i : (20 : Int) < len := by omega
      obtain rfl := HNO.out (fun z => c2 z.2.1)
      clear c2 c0
      go_enter Tryd.func27, Tryd.ntmps27
      go_wp2_with (go_at_call 54; refine (isFrom_any _ _ _ _).mono ?_; rintro e w' ⟨rfl, rfl⟩; rw [g0.out])
      go_ret
      exact ⟨rfl, HB.out⟩
  · have g0 := Lib.hid (show decide (-50400 ≤ off ∧ off ≤ 50400) = false from decide_eq_false c0)
    obtain rfl := HNO.out (fun z => c0 z.1)
    clear c0
    go_enter Tryd.func27, Tryd.ntmps27
    go_wp2_with (go_at_call 54; refine (isFrom_any _ _ _ _).mono ?_; rintro e w' ⟨rfl, rfl⟩; rw [g0.out])
    go_ret
    exact ⟨rfl, HB.out⟩
/-- The zero rule; the rule of a year and whether there is one. -/
def noRl : Rl := ⟨0, 0, 0, 0, 0, 0, 0, 0, 0, 0, 0⟩
def ruleR (R : Nat → Rl) (len : Nat) (y : Int) : Rl := match (List.range len).find? (fun i => decide ((R i).of y)) with
  | some i => R i
  | none => noRl
def ruleB (R : Nat → Rl) (len : Nat) (y : Int) : Bool := ((List.range len).find? (fun i => decide ((R i).of y))).isSome
theorem ruleF_some {R : Nat → Rl} {len : Nat} {y : Int} {k : Nat} (hi : ruleI R len y = k) : (List.range len).find? (fun i => decide ((R i).of y)) = some k := by
  unfold ruleI at hi
  split at hi
  · rename_i i h; rw [h]; congr 1; omega
  · omega
theorem ruleF_none {R : Nat → Rl} {len : Nat} {y : Int} (hi : ruleI R len y = -1) : (List.range len).find? (fun i => decide ((R i).of y)) = none := by
  unfold ruleI at hi
  split at hi
  · omega
  · assumption
theorem ruleR_some {R : Nat → Rl} {len : Nat} {y : Int} {k : Nat} (hi : ruleI R len y = k) : ruleR R len y = R k ∧ ruleB R len y = true := by
  unfold ruleR ruleB; rw [ruleF_some hi]; exact ⟨rfl, rfl⟩
theorem ruleR_none {R : Nat → Rl} {len : Nat} {y : Int} (hi : ruleI R len y = -1) : ruleR R len y = noRl ∧ ruleB R len y = false := by
  unfold ruleR ruleB; rw [ruleF_none hi]; exact ⟨rfl, rfl⟩
theorem cells_rule {W : World} {b : Nat} {r : Rl} {t : TypeId} (hb : W.heap[b]? = some (.cells #[.int .i64 r.f, .int .i64 r.l, .int .i64 r.m1, .int .i64 r.w1, .int .i64 r.n1, .int .i64 r.t1, .int .i64 r.m2, .int .i64 r.w2, .int .i64 r.n2, .int .i64 r.t2, .int .i64 r.x] t (0, 0))) :
    RlAt W b 0 r := ⟨cell_of_row W b 0 _ _ _ hb, cell_of_row W b 1 _ _ _ hb, cell_of_row W b 2 _ _ _ hb, cell_of_row W b 3 _ _ _ hb, cell_of_row W b 4 _ _ _ hb, cell_of_row W b 5 _ _ _ hb, cell_of_row W b 6 _ _ _ hb, cell_of_row W b 7 _ _ _ hb, cell_of_row W b 8 _ _ _ hb, cell_of_row W b 9 _ _ _ hb, cell_of_row W b 10 _ _ _ hb⟩

theorem results_ruleOf {r : Rl} {v : Value} {b : Nat} {tmps : Array Value} {w : World} (h2 : tmps.getD 4 undef = .pointer (some ⟨b, 0, none⟩)) (h3 : tmps.getD 5 undef = v)
    (hb : w.heap[b]? = some (.cells #[.int .i64 r.f, .int .i64 r.l, .int .i64 r.m1, .int .i64 r.w1, .int .i64 r.n1, .int .i64 r.t1, .int .i64 r.m2, .int .i64 r.w2, .int .i64 r.n2, .int .i64 r.t2, .int .i64 r.x] 129 (0, 0))) : (results Tryd.f82 tmps).run Tryd.prog w = .ok (.tuple #[rlV r, v]) w := by
  obtain ⟨f, l, m1, w1, n1, t1, m2, w2, n2, t2, x⟩ := r
  obtain ⟨c0, c1, c2, c3, c4, c5, c6, c7, c8, c9, c10⟩ := cells_rule hb
  simp only [Nat.zero_add] at c0 c1 c2 c3 c4 c5 c6 c7 c8 c9 c10
  simp only [Array.getD_eq_getD_getElem?] at h2 h3
  simp [results, Tryd.results82, go_sem, h2, h3, c0, c1, c2, c3, c4, c5, c6, c7, c8, c9, c10, rlV]
/-- A rule, stored cell by cell. -/
theorem rule_put {W : World} {b : Nat} {v0 v1 v2 v3 v4 v5 v6 v7 v8 v9 v10 : Value} {T : TypeId} (f l m1 w1 n1 t1 m2 w2 n2 t2 x : Int) (h : W.heap[b]? = some (.cells #[v0, v1, v2, v3, v4, v5, v6, v7, v8, v9, v10] T (0, 0))) :
    (((((((((((W.setCell ⟨b, 0, none⟩ (.int .i64 f)).setCell ⟨b, 1, none⟩ (.int .i64 l)).setCell ⟨b, 2, none⟩ (.int .i64 m1)).setCell ⟨b, 3, none⟩ (.int .i64 w1)).setCell ⟨b, 4, none⟩ (.int .i64 n1)).setCell ⟨b, 5, none⟩ (.int .i64 t1)).setCell ⟨b, 6, none⟩ (.int .i64 m2)).setCell ⟨b, 7, none⟩ (.int .i64 w2)).setCell ⟨b, 8, none⟩ (.int .i64 n2)).setCell ⟨b, 9, none⟩ (.int .i64 t2)).setCell ⟨b, 10, none⟩ (.int .i64 x)).heap[b]? = some (.cells #[.int .i64 f, .int .i64 l, .int .i64 m1, .int .i64 w1, .int .i64 n1, .int .i64 t1, .int .i64 m2, .int .i64 w2, .int .i64 n2, .int .i64 t2, .int .i64 x] T (0, 0)) := by
  have h0 : (W.setCell ⟨b, 0, none⟩ (.int .i64 f)).heap[b]? = some (.cells #[.int .i64 f, v1, v2, v3, v4, v5, v6, v7, v8, v9, v10] T (0, 0)) := heap_setCell_same _ b 0 #[v0, v1, v2, v3, v4, v5, v6, v7, v8, v9, v10] T (.int .i64 f) h
  have h1 : ((W.setCell ⟨b, 0, none⟩ (.int .i64 f)).setCell ⟨b, 1, none⟩ (.int .i64 l)).heap[b]? = some (.cells #[.int .i64 f, .int .i64 l, v2, v3, v4, v5, v6, v7, v8, v9, v10] T (0, 0)) := heap_setCell_same _ b 1 #[.int .i64 f, v1, v2, v3, v4, v5, v6, v7, v8, v9, v10] T (.int .i64 l) h0
  have h2 : (((W.setCell ⟨b, 0, none⟩ (.int .i64 f)).setCell ⟨b, 1, none⟩ (.int .i64 l)).setCell ⟨b, 2, none⟩ (.int .i64 m1)).heap[b]? = some (.cells #[.int .i64 f, .int .i64 l, .int .i64 m1, v3, v4, v5, v6, v7, v8, v9, v10] T (0, 0)) := heap_setCell_same _ b 2 #[.int .i64 f, .int .i64 l, v2, v3, v4, v5, v6, v7, v8, v9, v10] T (.int .i64 m1) h1
  have h3 : ((((W.setCell ⟨b, 0, none⟩ (.int .i64 f)).setCell ⟨b, 1, none⟩ (.int .i64 l)).setCell ⟨b, 2, none⟩ (.int .i64 m1)).setCell ⟨b, 3, none⟩ (.int .i64 w1)).heap[b]? = some (.cells #[.int .i64 f, .int .i64 l, .int .i64 m1, .int .i64 w1, v4, v5, v6, v7, v8, v9, v10] T (0, 0)) := heap_setCell_same _ b 3 #[.int .i64 f, .int .i64 l, .int .i64 m1, v3, v4, v5, v6, v7, v8, v9, v10] T (.int .i64 w1) h2
  have h4 : (((((W.setCell ⟨b, 0, none⟩ (.int .i64 f)).setCell ⟨b, 1, none⟩ (.int .i64 l)).setCell ⟨b, 2, none⟩ (.int .i64 m1)).setCell ⟨b, 3, none⟩ (.int .i64 w1)).setCell ⟨b, 4, none⟩ (.int .i64 n1)).heap[b]? = some (.cells #[.int .i64 f, .int .i64 l, .int .i64 m1, .int .i64 w1, .int .i64 n1, v5, v6, v7, v8, v9, v10] T (0, 0)) := heap_setCell_same _ b 4 #[.int .i64 f, .int .i64 l, .int .i64 m1, .int .i64 w1, v4, v5, v6, v7, v8, v9, v10] T (.int .i64 n1) h3
  have h5 : ((((((W.setCell ⟨b, 0, none⟩ (.int .i64 f)).setCell ⟨b, 1, none⟩ (.int .i64 l)).setCell ⟨b, 2, none⟩ (.int .i64 m1)).setCell ⟨b, 3, none⟩ (.int .i64 w1)).setCell ⟨b, 4, none⟩ (.int .i64 n1)).setCell ⟨b, 5, none⟩ (.int .i64 t1)).heap[b]? = some (.cells #[.int .i64 f, .int .i64 l, .int .i64 m1, .int .i64 w1, .int .i64 n1, .int .i64 t1, v6, v7, v8, v9, v10] T (0, 0)) := heap_setCell_same _ b 5 #[.int .i64 f, .int .i64 l, .int .i64 m1, .int .i64 w1, .int .i64 n1, v5, v6, v7, v8, v9, v10] T (.int .i64 t1) h4
  have h6 : (((((((W.setCell ⟨b, 0, none⟩ (.int .i64 f)).setCell ⟨b, 1, none⟩ (.int .i64 l)).setCell ⟨b, 2, none⟩ (.int .i64 m1)).setCell ⟨b, 3, none⟩ (.int .i64 w1)).setCell ⟨b, 4, none⟩ (.int .i64 n1)).setCell ⟨b, 5, none⟩ (.int .i64 t1)).setCell ⟨b, 6, none⟩ (.int .i64 m2)).heap[b]? = some (.cells #[.int .i64 f, .int .i64 l, .int .i64 m1, .int .i64 w1, .int .i64 n1, .int .i64 t1, .int .i64 m2, v7, v8, v9, v10] T (0, 0)) := heap_setCell_same _ b 6 #[.int .i64 f, .int .i64 l, .int .i64 m1, .int .i64 w1, .int .i64 n1, .int .i64 t1, v6, v7, v8, v9, v10] T (.int .i64 m2) h5
  have h7 : ((((((((W.setCell ⟨b, 0, none⟩ (.int .i64 f)).setCell ⟨b, 1, none⟩ (.int .i64 l)).setCell ⟨b, 2, none⟩ (.int .i64 m1)).setCell ⟨b, 3, none⟩ (.int .i64 w1)).setCell ⟨b, 4, none⟩ (.int .i64 n1)).setCell ⟨b, 5, none⟩ (.int .i64 t1)).setCell ⟨b, 6, none⟩ (.int .i64 m2)).setCell ⟨b, 7, none⟩ (.int .i64 w2)).heap[b]? = some (.cells #[.int .i64 f, .int .i64 l, .int .i64 m1, .int .i64 w1, .int .i64 n1, .int .i64 t1, .int .i64 m2, .int .i64 w2, v8, v9, v10] T (0, 0)) := heap_setCell_same _ b 7 #[.int .i64 f, .int .i64 l, .int .i64 m1, .int .i64 w1, .int .i64 n1, .int .i64 t1, .int .i64 m2, v7, v8, v9, v10] T (.int .i64 w2) h6
  have h8 : (((((((((W.setCell ⟨b, 0, none⟩ (.int .i64 f)).setCell ⟨b, 1, none⟩ (.int .i64 l)).setCell ⟨b, 2, none⟩ (.int .i64 m1)).setCell ⟨b, 3, none⟩ (.int .i64 w1)).setCell ⟨b, 4, none⟩ (.int .i64 n1)).setCell ⟨b, 5, none⟩ (.int .i64 t1)).setCell ⟨b, 6, none⟩ (.int .i64 m2)).setCell ⟨b, 7, none⟩ (.int .i64 w2)).setCell ⟨b, 8, none⟩ (.int .i64 n2)).heap[b]? = some (.cells #[.int .i64 f, .int .i64 l, .int .i64 m1, .int .i64 w1, .int .i64 n1, .int .i64 t1, .int .i64 m2, .int .i64 w2, .int .i64 n2, v9, v10] T (0, 0)) := heap_setCell_same _ b 8 #[.int .i64 f, .int .i64 l, .int .i64 m1, .int .i64 w1, .int .i64 n1, .int .i64 t1, .int .i64 m2, .int .i64 w2, v8, v9, v10] T (.int .i64 n2) h7
  have h9 : ((((((((((W.setCell ⟨b, 0, none⟩ (.int .i64 f)).setCell ⟨b, 1, none⟩ (.int .i64 l)).setCell ⟨b, 2, none⟩ (.int .i64 m1)).setCell ⟨b, 3, none⟩ (.int .i64 w1)).setCell ⟨b, 4, none⟩ (.int .i64 n1)).setCell ⟨b, 5, none⟩ (.int .i64 t1)).setCell ⟨b, 6, none⟩ (.int .i64 m2)).setCell ⟨b, 7, none⟩ (.int .i64 w2)).setCell ⟨b, 8, none⟩ (.int .i64 n2)).setCell ⟨b, 9, none⟩ (.int .i64 t2)).heap[b]? = some (.cells #[.int .i64 f, .int .i64 l, .int .i64 m1, .int .i64 w1, .int .i64 n1, .int .i64 t1, .int .i64 m2, .int .i64 w2, .int .i64 n2, .int .i64 t2, v10] T (0, 0)) := heap_setCell_same _ b 9 #[.int .i64 f, .int .i64 l, .int .i64 m1, .int .i64 w1, .int .i64 n1, .int .i64 t1, .int .i64 m2, .int .i64 w2, .int .i64 n2, v9, v10] T (.int .i64 t2) h8
  have h10 : (((((((((((W.setCell ⟨b, 0, none⟩ (.int .i64 f)).setCell ⟨b, 1, none⟩ (.int .i64 l)).setCell ⟨b, 2, none⟩ (.int .i64 m1)).setCell ⟨b, 3, none⟩ (.int .i64 w1)).setCell ⟨b, 4, none⟩ (.int .i64 n1)).setCell ⟨b, 5, none⟩ (.int .i64 t1)).setCell ⟨b, 6, none⟩ (.int .i64 m2)).setCell ⟨b, 7, none⟩ (.int .i64 w2)).setCell ⟨b, 8, none⟩ (.int .i64 n2)).setCell ⟨b, 9, none⟩ (.int .i64 t2)).setCell ⟨b, 10, none⟩ (.int .i64 x)).heap[b]? = some (.cells #[.int .i64 f, .int .i64 l, .int .i64 m1, .int .i64 w1, .int .i64 n1, .int .i64 t1, .int .i64 m2, .int .i64 w2, .int .i64 n2, .int .i64 t2, .int .i64 x] T (0, 0)) := heap_setCell_same _ b 10 #[.int .i64 f, .int .i64 l, .int .i64 m1, .int .i64 w1, .int .i64 n1, .int .i64 t1, .int .i64 m2, .int .i64 w2, .int .i64 n2, .int .i64 t2, v10] T (.int .i64 x) h9
  exact h10
theorem rule_putB {B : Nat} {w W : World} {b : Nat} (f l m1 w1 n1 t1 m2 w2 n2 t2 x : Int) (hB : Below B w W) (hb : B ≤ b) :
    Below B w (((((((((((W.setCell ⟨b, 0, none⟩ (.int .i64 f)).setCell ⟨b, 1, none⟩ (.int .i64 l)).setCell ⟨b, 2, none⟩ (.int .i64 m1)).setCell ⟨b, 3, none⟩ (.int .i64 w1)).setCell ⟨b, 4, none⟩ (.int .i64 n1)).setCell ⟨b, 5, none⟩ (.int .i64 t1)).setCell ⟨b, 6, none⟩ (.int .i64 m2)).setCell ⟨b, 7, none⟩ (.int .i64 w2)).setCell ⟨b, 8, none⟩ (.int .i64 n2)).setCell ⟨b, 9, none⟩ (.int .i64 t2)).setCell ⟨b, 10, none⟩ (.int .i64 x)) :=
  (((((((((((hB.setCell (p := ⟨b, 0, none⟩) hb (.int .i64 f)).setCell (p := ⟨b, 1, none⟩) hb (.int .i64 l)).setCell (p := ⟨b, 2, none⟩) hb (.int .i64 m1)).setCell (p := ⟨b, 3, none⟩) hb (.int .i64 w1)).setCell (p := ⟨b, 4, none⟩) hb (.int .i64 n1)).setCell (p := ⟨b, 5, none⟩) hb (.int .i64 t1)).setCell (p := ⟨b, 6, none⟩) hb (.int .i64 m2)).setCell (p := ⟨b, 7, none⟩) hb (.int .i64 w2)).setCell (p := ⟨b, 8, none⟩) hb (.int .i64 n2)).setCell (p := ⟨b, 9, none⟩) hb (.int .i64 t2)).setCell (p := ⟨b, 10, none⟩) hb (.int .i64 x))
theorem rule_putO {W : World} {b k : Nat} (f l m1 w1 n1 t1 m2 w2 n2 t2 x : Int) (h : k ≠ b) : (((((((((((W.setCell ⟨b, 0, none⟩ (.int .i64 f)).setCell ⟨b, 1, none⟩ (.int .i64 l)).setCell ⟨b, 2, none⟩ (.int .i64 m1)).setCell ⟨b, 3, none⟩ (.int .i64 w1)).setCell ⟨b, 4, none⟩ (.int .i64 n1)).setCell ⟨b, 5, none⟩ (.int .i64 t1)).setCell ⟨b, 6, none⟩ (.int .i64 m2)).setCell ⟨b, 7, none⟩ (.int .i64 w2)).setCell ⟨b, 8, none⟩ (.int .i64 n2)).setCell ⟨b, 9, none⟩ (.int .i64 t2)).setCell ⟨b, 10, none⟩ (.int .i64 x)).heap[k]? = W.heap[k]? := by
  simp only [heap_setCell_other _ ⟨b, _, none⟩ k _ h]
set_option maxRecDepth 100000 in
set_option maxHeartbeats 4000000 in
theorem ruleOf_any (off : Int) (a : Option Addr) (len cap : Nat) (R : Nat → Rl) (y : Int) (w : World) (hl : len ≤ 1000) (hR : RulesAt w.heap.size w a len R) :
    Calls Tryd.prog 82 #[zoneV off a len cap, .int .i64 y] w fun e w' => e = .returned (.tuple #[rlV (ruleR R len y), .bool (ruleB R len y)]) ∧ Below w.heap.size w w' := by
  have hb0 := (Below.refl _ w).alloc (Nat.le_refl _) (.cells #[.int .i64 off, .slice a len cap] 29)
  have hb1 := hb0.alloc hb0.size (.cells #[.int .i64 0, .int .i64 0, .int .i64 0, .int .i64 0, .int .i64 0, .int .i64 0, .int .i64 0, .int .i64 0, .int .i64 0, .int .i64 0, .int .i64 0] 129)
  have hr := heap_alloc_new (w.alloc (.cells #[.int .i64 off, .slice a len cap] 29)) (.cells #[.int .i64 0, .int .i64 0, .int .i64 0, .int .i64 0, .int .i64 0, .int .i64 0, .int .i64 0, .int .i64 0, .int .i64 0, .int .i64 0, .int .i64 0] 129)
  rw [World.size_alloc] at hr
  have HR := Lib.hid hR
  have HB := Lib.hid hb1
  have G := Lib.hid hr
  have hli : (len : Int) ≤ 1000 := by omega
  clear hb0 hb1 hr hR hl
  go_enter Tryd.func82, Tryd.ntmps82
  go_wp2
  obtain ⟨W0, hW0⟩ : ∃ X, X = (w.alloc (.cells #[.int .i64 off, .slice a len cap] 29)).alloc (.cells #[.int .i64 0, .int .i64 0, .int .i64 0, .int .i64 0, .int .i64 0, .int .i64 0, .int .i64 0, .int .i64 0, .int .i64 0, .int .i64 0, .int .i64 0] 129) := ⟨_, rfl⟩
  rw [← hW0] at HB G ⊢
  clear hW0
  go_loopw [11] (fun i wr => ∃ k : Nat, k ≤ len ∧ i = .int .i64 k ∧ (∀ j, j < k → ¬ (R j).of y) ∧ Below w.heap.size w wr ∧ wr.heap[w.heap.size + 1]? = some (.cells #[.int .i64 0, .int .i64 0, .int .i64 0, .int .i64 0, .int .i64 0, .int .i64 0, .int .i64 0, .int .i64 0, .int .i64 0, .int .i64 0, .int .i64 0] 129 (0, 0))) (fun i _ => (len - intOf i).toNat)
  case atStart => exact ⟨0, Nat.zero_le _, rfl, fun j hj => absurd hj (Nat.not_lt_zero _), HB.out, G.out⟩
  case round =>
    obtain ⟨k, hk, rfl, hn, hbw, hgw⟩ := hrel
    have HN := Lib.hid hn
    have HBW := Lib.hid hbw
    have HGW := Lib.hid hgw
    have hlw : w.heap.size + 1 < wr.heap.size := (Array.getElem?_eq_some_iff.1 hgw).1
    clear hn hbw hgw HB G
    by_cases hlt : k < len
    · obtain ⟨b, o, rfl, hb, hrl⟩ := HR.out.next HBW.out k hlt
      have hlti : (k : Int) < len := by omega
      obtain ⟨r, hrk⟩ : ∃ r, r = R k := ⟨_, rfl⟩
      rw [← hrk] at hrl
      have HK := Lib.hid hrk
      clear hrk
      obtain ⟨f, l, m1, w1, n1, t1, m2, w2, n2, t2, x⟩ := r
      obtain ⟨r0, r1, r2, r3, r4, r5, r6, r7, r8, r9, r10⟩ := hrl
      simp only [] at r0 r1 r2 r3 r4 r5 r6 r7 r8 r9 r10
      have HBX := Lib.hid (HBW.out.alloc HBW.out.size (.cells #[.int .i64 f, .int .i64 l, .int .i64 m1, .int .i64 w1, .int .i64 n1, .int .i64 t1, .int .i64 m2, .int .i64 w2, .int .i64 n2, .int .i64 t2, .int .i64 x] 129))
      have HGX := Lib.hid (heap_old HGW.out (.cells #[.int .i64 f, .int .i64 l, .int .i64 m1, .int .i64 w1, .int .i64 n1, .int .i64 t1, .int .i64 m2, .int .i64 w2, .int .i64 n2, .int .i64 t2, .int .i64 x] 129))
      by_cases d : f ≤ y ∧ y ≤ l
      · have g := Lib.hid (show decide (f ≤ y ∧ y ≤ l) = true from decide_eq_true d)
        have hfin := ruleR_some (rule_some hlt (by rw [← HK.out]; exact d) HN.out)
        have HF := Lib.hid hfin
        have a0 : wr.cell? ⟨w.heap.size + 1, 0, none⟩ = some (.int .i64 0) := cell_of_row _ _ 0 _ _ _ HGW.out
        have a1 : wr.cell? ⟨w.heap.size + 1, 1, none⟩ = some (.int .i64 0) := cell_of_row _ _ 1 _ _ _ HGW.out
        have a2 : wr.cell? ⟨w.heap.size + 1, 2, none⟩ = some (.int .i64 0) := cell_of_row _ _ 2 _ _ _ HGW.out
        have a3 : wr.cell? ⟨w.heap.size + 1, 3, none⟩ = some (.int .i64 0) := cell_of_row _ _ 3 _ _ _ HGW.out
        have a4 : wr.cell? ⟨w.heap.size + 1, 4, none⟩ = some (.int .i64 0) := cell_of_row _ _ 4 _ _ _ HGW.out
        have a5 : wr.cell? ⟨w.heap.size + 1, 5, none⟩ = some (.int .i64 0) := cell_of_row _ _ 5 _ _ _ HGW.out
        have a6 : wr.cell? ⟨w.heap.size + 1, 6, none⟩ = some (.int .i64 0) := cell_of_row _ _ 6 _ _ _ HGW.out
        have a7 : wr.cell? ⟨w.heap.size + 1, 7, none⟩ = some (.int .i64 0) := cell_of_row _ _ 7 _ _ _ HGW.out
        have a8 : wr.cell? ⟨w.heap.size + 1, 8, none⟩ = some (.int .i64 0) := cell_of_row _ _ 8 _ _ _ HGW.out
        have a9 : wr.cell? ⟨w.heap.size + 1, 9, none⟩ = some (.int .i64 0) := cell_of_row _ _ 9 _ _ _ HGW.out
        have a10 : wr.cell? ⟨w.heap.size + 1, 10, none⟩ = some (.int .i64 0) := cell_of_row _ _ 10 _ _ _ HGW.out
        have f0 := frozen_of_row wr (w.heap.size + 1) 0 _ _ HGW.out
        have f1 := frozen_of_row wr (w.heap.size + 1) 1 _ _ HGW.out
        have f2 := frozen_of_row wr (w.heap.size + 1) 2 _ _ HGW.out
        have f3 := frozen_of_row wr (w.heap.size + 1) 3 _ _ HGW.out
        have f4 := frozen_of_row wr (w.heap.size + 1) 4 _ _ HGW.out
        have f5 := frozen_of_row wr (w.heap.size + 1) 5 _ _ HGW.out
        have f6 := frozen_of_row wr (w.heap.size + 1) 6 _ _ HGW.out
        have f7 := frozen_of_row wr (w.heap.size + 1) 7 _ _ HGW.out
        have f8 := frozen_of_row wr (w.heap.size + 1) 8 _ _ HGW.out
        have f9 := frozen_of_row wr (w.heap.size + 1) 9 _ _ HGW.out
        have f10 := frozen_of_row wr (w.heap.size + 1) 10 _ _ HGW.out
        clear d hfin HN
        go_wp2_with (go_at_call 54; refine (isFrom_any _ _ _ _).mono ?_; rintro e w' ⟨rfl, rfl⟩; rw [g.out])
        have hput := rule_put f l m1 w1 n1 t1 m2 w2 n2 t2 x HGW.out
        have hputB := rule_putB f l m1 w1 n1 t1 m2 w2 n2 t2 x HBW.out (Nat.le_succ w.heap.size)
        refine bodyPost_ret (results_ruleOf (r := ⟨f, l, m1, w1, n1, t1, m2, w2, n2, t2, x⟩) rfl rfl (heap_old hput _)) rfl ?_
        rw [HF.out.1, HF.out.2, ← HK.out]
        exact ⟨rfl, hputB.alloc hputB.size _⟩
      · have g := Lib.hid (show decide (f ≤ y ∧ y ≤ l) = false from decide_eq_false d)
        have HD := Lib.hid d
        clear d
        go_wp2_with (go_at_call 54; refine (isFrom_any _ _ _ _).mono ?_; rintro e w' ⟨rfl, rfl⟩; rw [g.out])
        go_roundw
        case rel => exact ⟨k + 1, by omega, by simp, fun j hj => by
            by_cases hjk : j = k
            · subst hjk; rw [← HK.out]; exact HD.out
            · exact HN.out j (by omega), HBX.out, HGX.out⟩
        case measure => simp [intOf]; omega
    · obtain rfl : k = len := by omega
      have hfin := ruleR_none (rule_none HN.out)
      have HF := Lib.hid hfin
      have a0 : wr.cell? ⟨w.heap.size + 1, 0, none⟩ = some (.int .i64 0) := cell_of_row _ _ 0 _ _ _ HGW.out
      have a1 : wr.cell? ⟨w.heap.size + 1, 1, none⟩ = some (.int .i64 0) := cell_of_row _ _ 1 _ _ _ HGW.out
      have a2 : wr.cell? ⟨w.heap.size + 1, 2, none⟩ = some (.int .i64 0) := cell_of_row _ _ 2 _ _ _ HGW.out
      have a3 : wr.cell? ⟨w.heap.size + 1, 3, none⟩ = some (.int .i64 0) := cell_of_row _ _ 3 _ _ _ HGW.out
      have a4 : wr.cell? ⟨w.heap.size + 1, 4, none⟩ = some (.int .i64 0) := cell_of_row _ _ 4 _ _ _ HGW.out
      have a5 : wr.cell? ⟨w.heap.size + 1, 5, none⟩ = some (.int .i64 0) := cell_of_row _ _ 5 _ _ _ HGW.out
      have a6 : wr.cell? ⟨w.heap.size + 1, 6, none⟩ = some (.int .i64 0) := cell_of_row _ _ 6 _ _ _ HGW.out
      have a7 : wr.cell? ⟨w.heap.size + 1, 7, none⟩ = some (.int .i64 0) := cell_of_row _ _ 7 _ _ _ HGW.out
      have a8 : wr.cell? ⟨w.heap.size + 1, 8, none⟩ = some (.int .i64 0) := cell_of_row _ _ 8 _ _ _ HGW.out
      have a9 : wr.cell? ⟨w.heap.size + 1, 9, none⟩ = some (.int .i64 0) := cell_of_row _ _ 9 _ _ _ HGW.out
      have a10 : wr.cell? ⟨w.heap.size + 1, 10, none⟩ = some (.int .i64 0) := cell_of_row _ _ 10 _ _ _ HGW.out
      have f0 := frozen_of_row wr (w.heap.size + 1) 0 _ _ HGW.out
      have f1 := frozen_of_row wr (w.heap.size + 1) 1 _ _ HGW.out
      have f2 := frozen_of_row wr (w.heap.size + 1) 2 _ _ HGW.out
      have f3 := frozen_of_row wr (w.heap.size + 1) 3 _ _ HGW.out
      have f4 := frozen_of_row wr (w.heap.size + 1) 4 _ _ HGW.out
      have f5 := frozen_of_row wr (w.heap.size + 1) 5 _ _ HGW.out
      have f6 := frozen_of_row wr (w.heap.size + 1) 6 _ _ HGW.out
      have f7 := frozen_of_row wr (w.heap.size + 1) 7 _ _ HGW.out
      have f8 := frozen_of_row wr (w.heap.size + 1) 8 _ _ HGW.out
      have f9 := frozen_of_row wr (w.heap.size + 1) 9 _ _ HGW.out
      have f10 := frozen_of_row wr (w.heap.size + 1) 10 _ _ HGW.out
      clear hfin HN
      go_wp2
      refine bodyPost_ret (results_ruleOf (r := noRl) rfl rfl (rule_put 0 0 0 0 0 0 0 0 0 0 0 HGW.out)) rfl ?_
      rw [HF.out.1, HF.out.2]
      exact ⟨rfl, rule_putB 0 0 0 0 0 0 0 0 0 0 0 HBW.out (Nat.le_succ _)⟩
/-- What Of answers. -/
def ofR (off : Int) (R : Nat → Rl) (len : Nat) (y : Int) : Rl := if ZoneIs off R len then ruleR R len y else noRl
def ofB (off : Int) (R : Nat → Rl) (len : Nat) (y : Int) : Bool := if ZoneIs off R len then ruleB R len y else false
end Go.Proofs.YtbffmobjiiicoaaDoor
end
section
/- Contracts of the program's changesOf and its closure: the standard times of a year's changes. -/
set_option linter.unusedVariables false
set_option linter.unusedSimpArgs false
namespace Go.Proofs.YtbffmobjiiicoaaDoor
open Go.RowKit Go.Shelf
set_option maxRecDepth 100000 in
set_option maxHeartbeats 2000000 in
theorem changeAt_any (y m w n t : Int) (hy : 1970 ≤ y ∧ y ≤ 9999) (h : ChIs m w n t) (b : Nat) (W : World) (hb : W.cell? ⟨b, 0, none⟩ = some (.int .i64 y)) (hT : Tabs W) :
    Calls Tryd.prog 92 #[chV m w n t, .pointer (some ⟨b, 0, none⟩)] W fun e w' => e = .returned (.int .i64 (atV y m w n t)) ∧ Below W.heap.size W w' := by
  have hb0 := (Below.refl _ W).alloc (Nat.le_refl _) (.cells #[.int .i64 m, .int .i64 w, .int .i64 n, .int .i64 t] 127)
  have hg0 := heap_alloc_new W (.cells #[.int .i64 m, .int .i64 w, .int .i64 n, .int .i64 t] 127)
  have hbl : b < W.heap.size := World.block_lt_of_cell? W _ hb
  have HB := Lib.hid hb0
  have HG := Lib.hid hg0
  have HT := Lib.hid (hT.next hb0)
  have hN := nth_is_of hy h
  have hM := nth_may hN
  have ht := h.2.2.2
  obtain ⟨D, hD⟩ : ∃ D, D = nthD y m w n := ⟨_, rfl⟩
  have H1 := Lib.hid (nth_yes y m w n hN _ HT.out)
  rw [← hD] at H1 hM
  have hmi : MomIs y m D (t / 60) (t % 60) 0 := ⟨hM, by omega, by omega, by omega⟩
  have hI : instV y m D (t / 60) (t % 60) 0 = atV y m w n t := by
    unfold instV; rw [if_pos hmi]; unfold secOf atV; rw [← hD]; omega
  have hE : momE y m D (t / 60) (t % 60) 0 = 0 := by unfold momE; rw [if_pos hmi]
  have H2 := Lib.hid (fun X hX => instant_any y m D (t / 60) (t % 60) 0 X hX)
  rw [hI, hE] at H2
  obtain ⟨V, hV⟩ : ∃ V, V = atV y m w n t := ⟨_, rfl⟩
  rw [← hV] at H2 ⊢
  obtain ⟨ht0, ht1⟩ := ht
  clear hN hM hD h hmi hI hE hV hb0 hg0 hT hy
  go_enter Tryd.func92, Tryd.ntmps92
  go_wp2_with fail
  refine H1.out.mono ?_
  rintro e X ⟨rfl, hB1⟩
  have hg1 := (hB1.block W.heap.size (Array.getElem?_eq_some_iff.1 HG.out).1).trans HG.out
  have s3 : X.cell? ⟨W.heap.size, 3, none⟩ = some (.int .i64 t) := cell_of_row X _ 3 _ _ _ hg1
  have hb1 := HB.out.trans (hB1.mono HB.out.size)
  have hb2 := hb1.alloc hb1.size (.cells #[.int .i64 y, .int .i64 m, .int .i64 D] 110)
  have HB2 := Lib.hid hb2
  have HT2 := Lib.hid (HT.out.next (hB1.alloc hB1.size (.cells #[.int .i64 y, .int .i64 m, .int .i64 D] 110)))
  have hlx : W.heap.size < X.heap.size := (Array.getElem?_eq_some_iff.1 hg1).1
  clear hB1 hg1 hb1 hb2 HB HG HT H1 hb
  go_wp2_with fail
  refine (H2.out _ HT2.out).mono ?_
  rintro e Y ⟨rfl, hB2⟩
  go_wp2
  go_ret
  exact ⟨rfl, HB2.out.trans (hB2.mono HB2.out.size)⟩
set_option maxRecDepth 100000 in
set_option maxHeartbeats 4000000 in
theorem changesOf_any (r : Rl) (y : Int) (w : World) (hz : RlIs r) (hy : r.of y) (hT : Tabs w) :
    Calls Tryd.prog 83 #[rlV r, .int .i64 y] w fun e w' => e = .returned (.tuple #[.int .i64 (onOf r y), .int .i64 (offOf r y)]) ∧ Below w.heap.size w w' := by
  have hyy := rl_year hz hy
  have H2 := Lib.hid (fun X (hX : X.cell? ⟨w.heap.size + 1, 0, none⟩ = some (.int .i64 y) ∧ Tabs X) => changeAt_any y r.m1 r.w1 r.n1 r.t1 hyy hz.2.2.1 (w.heap.size + 1) X hX.1 hX.2)
  have H3 := Lib.hid (fun X (hX : X.cell? ⟨w.heap.size + 1, 0, none⟩ = some (.int .i64 y) ∧ Tabs X) => changeAt_any y r.m2 r.w2 r.n2 r.t2 hyy hz.2.2.2 (w.heap.size + 1) X hX.1 hX.2)
  rw [show atV y r.m1 r.w1 r.n1 r.t1 = onOf r y from rfl] at H2
  rw [show atV y r.m2 r.w2 r.n2 r.t2 = offOf r y from rfl] at H3
  obtain ⟨V1, hV1⟩ : ∃ v, v = onOf r y := ⟨_, rfl⟩
  obtain ⟨V2, hV2⟩ : ∃ v, v = offOf r y := ⟨_, rfl⟩
  rw [← hV1] at H2 ⊢
  rw [← hV2] at H3 ⊢
  clear hV1 hV2 hz hy hyy
  obtain ⟨f, l, m1, w1, n1, t1, m2, w2, n2, t2, x⟩ := r
  simp only [] at H2 H3
  have hb0 := (Below.refl _ w).alloc (Nat.le_refl _) (.cells #[.int .i64 f, .int .i64 l, .int .i64 m1, .int .i64 w1, .int .i64 n1, .int .i64 t1, .int .i64 m2, .int .i64 w2, .int .i64 n2, .int .i64 t2, .int .i64 x] 129)
  have hb1 := hb0.alloc hb0.size (.cells #[.int .i64 y] 3)
  have hg := heap_old (heap_alloc_new w (.cells #[.int .i64 f, .int .i64 l, .int .i64 m1, .int .i64 w1, .int .i64 n1, .int .i64 t1, .int .i64 m2, .int .i64 w2, .int .i64 n2, .int .i64 t2, .int .i64 x] 129)) (.cells #[.int .i64 y] 3)
  have hgy := heap_alloc_new (w.alloc (.cells #[.int .i64 f, .int .i64 l, .int .i64 m1, .int .i64 w1, .int .i64 n1, .int .i64 t1, .int .i64 m2, .int .i64 w2, .int .i64 n2, .int .i64 t2, .int .i64 x] 129)) (.cells #[.int .i64 y] 3)
  rw [World.size_alloc] at hgy
  have HB := Lib.hid hb1
  have HG := Lib.hid hg
  have HY := Lib.hid hgy
  have HT := Lib.hid (hT.next hb1)
  have HTb := Lib.hid hT
  clear hb0 hb1 hg hgy hT
  go_enter Tryd.func83, Tryd.ntmps83
  go_wp2_with fail
  obtain ⟨W0, hW0⟩ : ∃ X, X = (w.alloc (.cells #[.int .i64 f, .int .i64 l, .int .i64 m1, .int .i64 w1, .int .i64 n1, .int .i64 t1, .int .i64 m2, .int .i64 w2, .int .i64 n2, .int .i64 t2, .int .i64 x] 129)).alloc (.cells #[.int .i64 y] 3) := ⟨_, rfl⟩
  rw [← hW0] at HB HG HY HT ⊢
  clear hW0
  have c2 : W0.cell? ⟨w.heap.size, 2, none⟩ = some (.int .i64 m1) := cell_of_row W0 _ 2 _ _ _ HG.out
  have c3 : W0.cell? ⟨w.heap.size, 3, none⟩ = some (.int .i64 w1) := cell_of_row W0 _ 3 _ _ _ HG.out
  have c4 : W0.cell? ⟨w.heap.size, 4, none⟩ = some (.int .i64 n1) := cell_of_row W0 _ 4 _ _ _ HG.out
  have c5 : W0.cell? ⟨w.heap.size, 5, none⟩ = some (.int .i64 t1) := cell_of_row W0 _ 5 _ _ _ HG.out
  have c6 : W0.cell? ⟨w.heap.size, 6, none⟩ = some (.int .i64 m2) := cell_of_row W0 _ 6 _ _ _ HG.out
  have c7 : W0.cell? ⟨w.heap.size, 7, none⟩ = some (.int .i64 w2) := cell_of_row W0 _ 7 _ _ _ HG.out
  have c8 : W0.cell? ⟨w.heap.size, 8, none⟩ = some (.int .i64 n2) := cell_of_row W0 _ 8 _ _ _ HG.out
  have c9 : W0.cell? ⟨w.heap.size, 9, none⟩ = some (.int .i64 t2) := cell_of_row W0 _ 9 _ _ _ HG.out
  have cy : W0.cell? ⟨w.heap.size + 1, 0, none⟩ = some (.int .i64 y) := cell_of_row W0 _ 0 _ _ _ HY.out
  have HC := Lib.hid (show W0.drew.cell? ⟨w.heap.size + 1, 0, none⟩ = some (.int .i64 y) ∧ Tabs W0.drew from ⟨cy, HT.out.next (Below.refl _ W0).drew⟩)
  have hl0 : w.heap.size < W0.drew.heap.size := (Array.getElem?_eq_some_iff.1 HG.out).1
  have hl1 : w.heap.size + 1 < W0.drew.heap.size := (Array.getElem?_eq_some_iff.1 HY.out).1
  have HB0 := Lib.hid HB.out.drew
  go_region_held3 (fun w' => w'.cell? ⟨w.heap.size, 2, none⟩ = some (.int .i64 m1) ∧ w'.cell? ⟨w.heap.size, 3, none⟩ = some (.int .i64 w1) ∧ w'.cell? ⟨w.heap.size, 4, none⟩ = some (.int .i64 n1) ∧ w'.cell? ⟨w.heap.size, 5, none⟩ = some (.int .i64 t1) ∧ w'.cell? ⟨w.heap.size, 6, none⟩ = some (.int .i64 m2) ∧ w'.cell? ⟨w.heap.size, 7, none⟩ = some (.int .i64 w2) ∧ w'.cell? ⟨w.heap.size, 8, none⟩ = some (.int .i64 n2) ∧ w'.cell? ⟨w.heap.size, 9, none⟩ = some (.int .i64 t2))
    (first
      | exact ⟨c2, c3, c4, c5, c6, c7, c8, c9⟩
      | exact (show _ ∧ _ from ⟨cell_of_row w3' _ 2 _ _ _ g3, cell_of_row w3' _ 3 _ _ _ g3, cell_of_row w3' _ 4 _ _ _ g3, cell_of_row w3' _ 5 _ _ _ g3, cell_of_row w3' _ 6 _ _ _ g3, cell_of_row w3' _ 7 _ _ _ g3, cell_of_row w3' _ 8 _ _ _ g3, cell_of_row w3' _ 9 _ _ _ g3⟩)
      | exact (show _ ∧ _ from ⟨cell_of_row w2' _ 2 _ _ _ g2, cell_of_row w2' _ 3 _ _ _ g2, cell_of_row w2' _ 4 _ _ _ g2, cell_of_row w2' _ 5 _ _ _ g2, cell_of_row w2' _ 6 _ _ _ g2, cell_of_row w2' _ 7 _ _ _ g2, cell_of_row w2' _ 8 _ _ _ g2, cell_of_row w2' _ 9 _ _ _ g2⟩))
    (first
      | (go_at_call 92; ((with_reducible refine (H2.out _ HC.out).mono ?_); rintro e w2' ⟨rfl, hB2⟩; have b2 := HB0.out.trans (hB2.mono HB0.out.size); have g2 := (hB2.block w.heap.size hl0).trans HG.out; have y2 := (hB2.block (w.heap.size + 1) hl1).trans HY.out; have hl2 := (Array.getElem?_eq_some_iff.1 g2).1; have h2c : w2'.cell? ⟨w.heap.size + 1, 0, none⟩ = some (.int .i64 y) ∧ Tabs w2' := ⟨cell_of_row w2' _ 0 _ _ _ y2, HTb.out.next b2⟩; clear hB2))
      | (go_at_call 92; ((with_reducible refine (H3.out w2' h2c).mono ?_); rintro e w3' ⟨rfl, hB3⟩; have b3 := b2.trans (hB3.mono b2.size); have g3 := (hB3.block w.heap.size hl2).trans g2; clear hB3)))
  go_wp2
  go_ret2
  exact ⟨rfl, b3⟩
end Go.Proofs.YtbffmobjiiicoaaDoor
end
section
/- Contract of the program's extraAt: by how many seconds the local time is ahead of a standard time. -/
set_option linter.unusedVariables false
set_option linter.unusedSimpArgs false
namespace Go.Proofs.YtbffmobjiiicoaaDoor
open Go.RowKit Go.Shelf
def xOf (R : Nat → Rl) (len : Nat) (y s : Int) : Int := if ruleB R len y = true then (if sumP (onOf (ruleR R len y) y) (offOf (ruleR R len y) y) s then (ruleR R len y).x else 0) else 0
theorem xOf_some {R : Nat → Rl} {len : Nat} {y s : Int} {k : Nat} (hi : ruleI R len y = k) : xOf R len y s = if sumP (onOf (R k) y) (offOf (R k) y) s then (R k).x else 0 := by
  obtain ⟨e1, e2⟩ := ruleR_some hi
  unfold xOf; rw [e1, e2]; simp
theorem xOf_none {R : Nat → Rl} {len : Nat} {y s : Int} (hi : ruleI R len y = -1) : xOf R len y s = 0 := by
  unfold xOf; rw [(ruleR_none hi).2]; simp
theorem nOf_x (off : Int) (R : Nat → Rl) (len : Nat) (y s : Int) : nOf off R len y s = off + xOf R len y s := by
  rcases rule_cases R len y with ⟨k, hk, hi, hy⟩ | hi
  · rw [nOf_some hi, xOf_some hi]; split <;> simp
  · rw [nOf_none hi, xOf_none hi]; simp
theorem xOf_bounds {off : Int} {R : Nat → Rl} {len : Nat} (hz : ZoneIs off R len) (y s : Int) : 0 ≤ xOf R len y s ∧ xOf R len y s ≤ 7200 := by
  rcases rule_cases R len y with ⟨k, hk, hi, hy⟩ | hi
  · have := hz.2.2 k hk
    rw [xOf_some hi]; split
    · exact ⟨by have := this.2.1.1; omega, this.2.1.2⟩
    · omega
  · rw [xOf_none hi]; omega
set_option maxRecDepth 100000 in
set_option maxHeartbeats 4000000 in
theorem extraAt_any (off : Int) (a : Option Addr) (len cap : Nat) (R : Nat → Rl) (y s : Int) (w : World) (hR : RulesAt w.heap.size w a len R) (hz : ZoneIs off R len) (hT : Tabs w) :
    Calls Tryd.prog 68 #[zoneV off a len cap, .int .i64 y, .int .i64 s] w fun e w' => e = .returned (.int .i64 (xOf R len y s)) ∧ Below w.heap.size w w' := by
  have hl : len ≤ 1000 := by have := hz.2.1; omega
  have hb0 := (Below.refl _ w).alloc (Nat.le_refl _) (.cells #[.int .i64 off, .slice a len cap] 29)
  have H1 := Lib.hid (ruleOf_any off a len cap R y _ hl ((hR.next hb0).mono hb0.size))
  have HB := Lib.hid hb0
  have HT := Lib.hid (hT.next hb0)
  rcases rule_cases R len y with ⟨k, hk, hi, hy⟩ | hi
  · have hrz := hz.2.2 k hk
    obtain ⟨e1, e2⟩ := ruleR_some hi
    rw [e1, e2] at H1
    rw [xOf_some hi]
    have H2 := Lib.hid (fun X hX => changesOf_any (R k) y X hrz hy hX)
    obtain ⟨V1, hV1⟩ : ∃ v, v = onOf (R k) y := ⟨_, rfl⟩
    obtain ⟨V2, hV2⟩ : ∃ v, v = offOf (R k) y := ⟨_, rfl⟩
    rw [← hV1, ← hV2] at H2 ⊢
    obtain ⟨r, hr⟩ : ∃ r, r = R k := ⟨_, rfl⟩
    rw [← hr] at H1 H2 ⊢
    clear e1 e2 hrz hi hy hk hr hV1 hV2 hz hR hT hb0
    obtain ⟨f, l, m1, w1, n1, t1, m2, w2, n2, t2, x⟩ := r
    show Calls Tryd.prog 68 _ w fun e w' => e = .returned (.int .i64 (if sumP V1 V2 s then x else 0)) ∧ Below w.heap.size w w'
    have hs : sumP V1 V2 s ↔ (V1 < V2 ∧ V1 ≤ s ∧ s < V2) ∨ (V2 < V1 ∧ (s < V2 ∨ V1 ≤ s)) := Iff.rfl
    obtain ⟨G, hG⟩ : ∃ g, g = if sumP V1 V2 s then x else 0 := ⟨_, rfl⟩
    rw [← hG]
    have HGG := Lib.hid hG
    have HS := Lib.hid hs
    clear hG hs
    go_enter Tryd.func68, Tryd.ntmps68
    go_wp2_with fail
    refine H1.out.mono ?_
    rintro e X ⟨rfl, hB1⟩
    have hb1 := HB.out.trans (hB1.mono HB.out.size)
    have HBX := Lib.hid (hb1.alloc hb1.size (.cells #[.int .i64 f, .int .i64 l, .int .i64 m1, .int .i64 w1, .int .i64 n1, .int .i64 t1, .int .i64 m2, .int .i64 w2, .int .i64 n2, .int .i64 t2, .int .i64 x] 129))
    have HTX := Lib.hid (HT.out.next (hB1.alloc hB1.size (.cells #[.int .i64 f, .int .i64 l, .int .i64 m1, .int .i64 w1, .int .i64 n1, .int .i64 t1, .int .i64 m2, .int .i64 w2, .int .i64 n2, .int .i64 t2, .int .i64 x] 129)))
    have HN := Lib.hid (heap_alloc_new X (.cells #[.int .i64 f, .int .i64 l, .int .i64 m1, .int .i64 w1, .int .i64 n1, .int .i64 t1, .int .i64 m2, .int .i64 w2, .int .i64 n2, .int .i64 t2, .int .i64 x] 129))
    clear hB1 hb1 H1 HB HT
    go_wp2_with fail
    refine (H2.out _ HTX.out).mono ?_
    rintro e Y ⟨rfl, hB2⟩
    have hby := HBX.out.trans (hB2.mono HBX.out.size)
    have hny := (hB2.block X.heap.size (by simp)).trans HN.out
    have s10 : Y.cell? ⟨X.heap.size, 10, none⟩ = some (.int .i64 x) := cell_of_row Y _ 10 _ _ _ hny
    have HBY := Lib.hid hby
    clear hB2 hby hny HBX HTX HN H2
    by_cases c1 : V1 ≤ s
    · have gc1 : decide (V1 ≤ s) = true := decide_eq_true c1
      by_cases c2 : s < V2
      · have gc2 : decide (s < V2) = true := decide_eq_true c2
        by_cases c3 : V2 < V1
        · have gc3 : decide (V2 < V1) = true := decide_eq_true c3
          omega
        · have gc3 : decide (V2 < V1) = false := decide_eq_false c3
          obtain rfl : G = x := by rw [HGG.out, if_pos (HS.out.2 (by omega))]
          go_wp2
          go_ret
          exact ⟨rfl, HBY.out⟩
      · have gc2 : decide (s < V2) = false := decide_eq_false c2
        by_cases c3 : V2 < V1
        · have gc3 : decide (V2 < V1) = true := decide_eq_true c3
          obtain rfl : G = x := by rw [HGG.out, if_pos (HS.out.2 (by omega))]
          go_wp2
          go_ret
          exact ⟨rfl, HBY.out⟩
        · have gc3 : decide (V2 < V1) = false := decide_eq_false c3
          obtain rfl : G = 0 := by rw [HGG.out, if_neg (fun z => by have := HS.out.1 z; omega)]
          go_wp2
          go_ret
          exact ⟨rfl, HBY.out⟩
    · have gc1 : decide (V1 ≤ s) = false := decide_eq_false c1
      by_cases c3 : V2 < V1
      · have gc3 : decide (V2 < V1) = true := decide_eq_true c3
        by_cases c2 : s < V2
        · have gc2 : decide (s < V2) = true := decide_eq_true c2
          obtain rfl : G = x := by rw [HGG.out, if_pos (HS.out.2 (by omega))]
          go_wp2
          go_ret
          exact ⟨rfl, HBY.out⟩
        · have gc2 : decide (s < V2) = false := decide_eq_false c2
          obtain rfl : G = 0 := by rw [HGG.out, if_neg (fun z => by have := HS.out.1 z; omega)]
          go_wp2
          go_ret
          exact ⟨rfl, HBY.out⟩
      · have gc3 : decide (V2 < V1) = false := decide_eq_false c3
        obtain rfl : G = 0 := by rw [HGG.out, if_neg (fun z => by have := HS.out.1 z; omega)]
        go_wp2
        go_ret
        exact ⟨rfl, HBY.out⟩
  · obtain ⟨e1, e2⟩ := ruleR_none hi
    rw [e1, e2] at H1
    rw [xOf_none hi]
    clear e1 e2 hi hz hR hT hb0 HT
    go_enter Tryd.func68, Tryd.ntmps68
    go_wp2_with fail
    refine H1.out.mono ?_
    rintro e X ⟨rfl, hB1⟩
    have hb1 := HB.out.trans (hB1.mono HB.out.size)
    have HBX := Lib.hid (hb1.alloc hb1.size (.cells #[.int .i64 0, .int .i64 0, .int .i64 0, .int .i64 0, .int .i64 0, .int .i64 0, .int .i64 0, .int .i64 0, .int .i64 0, .int .i64 0, .int .i64 0] 129))
    clear hB1 hb1 H1 HB
    go_wp2
    go_ret
    exact ⟨rfl, HBX.out⟩
end Go.Proofs.YtbffmobjiiicoaaDoor
end
