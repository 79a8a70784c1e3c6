/- Contracts of the program's functions Check, ruleOf, Of of layer 7. -/
import Derived.Test.YtobnlcmamnoefaaDoorYLeaf
import Derived.Test.YtobnlcmamnoefaaDoorKOf
set_option linter.unusedVariables false
set_option linter.unusedSimpArgs false
namespace Go.Proofs.YtobnlcmamnoefaaDoor
open Go.RowKit Go.Shelf
/-- What Check answers. -/
def zE (off : Int) (R : Nat → Rl) (len : Nat) : Int := if ZoneIs off R len then 0 else 70
theorem zE_yes {off : Int} {R : Nat → Rl} {len : Nat} (h : ZoneIs off R len) : zE off R len = 0 := by unfold zE; rw [if_pos h]
theorem zE_no {off : Int} {R : Nat → Rl} {len : Nat} (h : ¬ ZoneIs off R len) : zE off R len = 70 := by unfold zE; rw [if_neg h]
set_option maxRecDepth 100000 in
set_option maxHeartbeats 4000000 in
theorem checkZ_any (off : Int) (a : Option Addr) (len cap : Nat) (R : Nat → Rl) (w : World) (hl : len ≤ 1000) (hR : RulesAt w.heap.size w a len R) :
    Calls Tryd.prog 10 #[zoneV off a len cap] w fun e w' => e = .returned (.int .i64 (zE off R len)) ∧ Below w.heap.size w w' := by
  have hb0 := (Below.refl _ w).alloc (Nat.le_refl _) (.cells #[.int .i64 off, .slice a len cap] 24)
  have hr := heap_alloc_new w (.cells #[.int .i64 off, .slice a len cap] 24)
  have HR := Lib.hid hR
  have HB := Lib.hid hb0
  have G := Lib.hid hr
  have hli : (len : Int) ≤ 1000 := by omega
  clear hb0 hr hR hl
  obtain ⟨RV, hRV⟩ : ∃ b, b = zE off R len := ⟨_, rfl⟩
  rw [← hRV]
  have hno : ¬ ZoneIs off R len → RV = 70 := fun q => by rw [hRV, zE_no q]
  have hyes : ZoneIs off R len → RV = 0 := fun q => by rw [hRV, zE_yes q]
  clear hRV
  have HNO := Lib.hid hno
  have HYES := Lib.hid hyes
  clear hno hyes
  by_cases c0 : -50400 ≤ off ∧ off ≤ 50400
  · have g0 := Lib.hid (show decide (-50400 ≤ off ∧ off ≤ 50400) = true from decide_eq_true c0)
    by_cases c2 : len ≤ 20
    · have c2i : (len : Int) ≤ 20 := by omega
      have HC := Lib.hid (And.intro c0 c2)
      clear c2 c0
      go_enter Tryd.func10, Tryd.ntmps10
      go_wp2_with (go_at_call 31; refine (isFrom_any _ _ _ _).mono ?_; rintro e w' ⟨rfl, rfl⟩; rw [g0.out])
      obtain ⟨W0, hW0⟩ : ∃ X, X = w.alloc (.cells #[.int .i64 off, .slice a len cap] 24) := ⟨_, rfl⟩
      rw [← hW0] at HB G ⊢
      clear hW0 hli
      go_loopw [18] (fun i wr => ∃ k : Nat, k ≤ len ∧ i = .int .i64 k ∧ (∀ j, j < k → RlIs (R j)) ∧ Below w.heap.size w wr) (fun i _ => (len - intOf i).toNat)
      case atStart => exact ⟨0, Nat.zero_le _, rfl, fun j hj => absurd hj (Nat.not_lt_zero _), HB.out⟩
      case round =>
        obtain ⟨k, hk, rfl, hn, hbw⟩ := hrel
        have HN := Lib.hid hn
        have HBW := Lib.hid hbw
        clear hn hbw HB G
        by_cases hlt : k < len
        · obtain ⟨b, o, rfl, hb, hrl⟩ := HR.out.next HBW.out k hlt
          have hlti : (k : Int) < len := by omega
          obtain ⟨r, hrk⟩ : ∃ r, r = R k := ⟨_, rfl⟩
          rw [← hrk] at hrl
          have HK := Lib.hid hrk
          clear hrk
          have HQ := Lib.hid (fun X => isRule_any r X)
          obtain ⟨bq, hbq⟩ : ∃ b, b = decide (RlIs r) := ⟨_, rfl⟩
          rw [← hbq] at HQ
          have HBQ := Lib.hid hbq
          clear hbq
          obtain ⟨f, l, m1, w1, n1, t1, m2, w2, n2, t2, x⟩ := r
          obtain ⟨r0, r1, r2, r3, r4, r5, r6, r7, r8, r9, r10⟩ := hrl
          simp only [] at r0 r1 r2 r3 r4 r5 r6 r7 r8 r9 r10
          have HBX := Lib.hid (HBW.out.alloc HBW.out.size (.cells #[.int .i64 f, .int .i64 l, .int .i64 m1, .int .i64 w1, .int .i64 n1, .int .i64 t1, .int .i64 m2, .int .i64 w2, .int .i64 n2, .int .i64 t2, .int .i64 x] 31))
          go_wp2_with fail
          refine (HQ.out _).mono ?_
          rintro e w1' ⟨rfl, hB1⟩
          have HB1 := Lib.hid (HBX.out.trans (hB1.mono HBX.out.size))
          clear hB1 HBX HQ r0 r1 r2 r3 r4 r5 r6 r7 r8 r9 r10
          cases bq with
          | false =>
            go_wp2
            go_ret
            exact ⟨by rw [HNO.out (fun z => of_decide_eq_false HBQ.out.symm (by rw [HK.out]; exact z.2.2 k hlt))]; rfl, HB1.out⟩
          | true =>
            go_wp2
            go_roundw
            case rel => exact ⟨k + 1, by omega, by simp, fun j hj => by
                by_cases hjk : j = k
                · subst hjk; rw [← HK.out]; exact of_decide_eq_true HBQ.out.symm
                · exact HN.out j (by omega), HB1.out⟩
            case measure => simp [intOf]; omega
        · obtain rfl : k = len := by omega
          go_wp2
          go_ret
          exact ⟨by rw [HYES.out ⟨HC.out.1, HC.out.2, HN.out⟩]; rfl, HBW.out⟩
    · have c2i : (20 : Int) < len := by omega
      obtain rfl := HNO.out (fun z => c2 z.2.1)
      clear c2 c0
      go_enter Tryd.func10, Tryd.ntmps10
      go_wp2_with (go_at_call 31; refine (isFrom_any _ _ _ _).mono ?_; rintro e w' ⟨rfl, rfl⟩; rw [g0.out])
      go_ret
      exact ⟨rfl, HB.out⟩
  · have g0 := Lib.hid (show decide (-50400 ≤ off ∧ off ≤ 50400) = false from decide_eq_false c0)
    obtain rfl := HNO.out (fun z => c0 z.1)
    clear c0
    go_enter Tryd.func10, Tryd.ntmps10
    go_wp2_with (go_at_call 31; refine (isFrom_any _ _ _ _).mono ?_; rintro e w' ⟨rfl, rfl⟩; rw [g0.out])
    go_ret
    exact ⟨rfl, HB.out⟩
/-- The zero rule; the rule of a year and whether there is one. -/
def noRl : Rl := ⟨0, 0, 0, 0, 0, 0, 0, 0, 0, 0, 0⟩
def ruleR (R : Nat → Rl) (len : Nat) (y : Int) : Rl := match (List.range len).find? (fun i => decide ((R i).of y)) with
  | some i => R i
  | none => noRl
def ruleB (R : Nat → Rl) (len : Nat) (y : Int) : Bool := ((List.range len).find? (fun i => decide ((R i).of y))).isSome
theorem ruleF_some {R : Nat → Rl} {len : Nat} {y : Int} {k : Nat} (hi : ruleI R len y = k) : (List.range len).find? (fun i => decide ((R i).of y)) = some k := by
  unfold ruleI at hi
  split at hi
  · rename_i i h; rw [h]; congr 1; omega
  · omega
theorem ruleF_none {R : Nat → Rl} {len : Nat} {y : Int} (hi : ruleI R len y = -1) : (List.range len).find? (fun i => decide ((R i).of y)) = none := by
  unfold ruleI at hi
  split at hi
  · omega
  · assumption
theorem ruleR_some {R : Nat → Rl} {len : Nat} {y : Int} {k : Nat} (hi : ruleI R len y = k) : ruleR R len y = R k ∧ ruleB R len y = true := by
  unfold ruleR ruleB; rw [ruleF_some hi]; exact ⟨rfl, rfl⟩
theorem ruleR_none {R : Nat → Rl} {len : Nat} {y : Int} (hi : ruleI R len y = -1) : ruleR R len y = noRl ∧ ruleB R len y = false := by
  unfold ruleR ruleB; rw [ruleF_none hi]; exact ⟨rfl, rfl⟩
theorem cells_rule {W : World} {b : Nat} {r : Rl} {t : TypeId} (hb : W.heap[b]? = some (.cells #[.int .i64 r.f, .int .i64 r.l, .int .i64 r.m1, .int .i64 r.w1, .int .i64 r.n1, .int .i64 r.t1, .int .i64 r.m2, .int .i64 r.w2, .int .i64 r.n2, .int .i64 r.t2, .int .i64 r.x] t (0, 0))) :
    RlAt W b 0 r := ⟨cell_of_row W b 0 _ _ _ hb, cell_of_row W b 1 _ _ _ hb, cell_of_row W b 2 _ _ _ hb, cell_of_row W b 3 _ _ _ hb, cell_of_row W b 4 _ _ _ hb, cell_of_row W b 5 _ _ _ hb, cell_of_row W b 6 _ _ _ hb, cell_of_row W b 7 _ _ _ hb, cell_of_row W b 8 _ _ _ hb, cell_of_row W b 9 _ _ _ hb, cell_of_row W b 10 _ _ _ hb⟩

theorem results_ruleOf {r : Rl} {v : Value} {b : Nat} {tmps : Array Value} {w : World} (h2 : tmps.getD 4 undef = .pointer (some ⟨b, 0, none⟩)) (h3 : tmps.getD 5 undef = v)
    (hb : w.heap[b]? = some (.cells #[.int .i64 r.f, .int .i64 r.l, .int .i64 r.m1, .int .i64 r.w1, .int .i64 r.n1, .int .i64 r.t1, .int .i64 r.m2, .int .i64 r.w2, .int .i64 r.n2, .int .i64 r.t2, .int .i64 r.x] 31 (0, 0))) : (results Tryd.f33 tmps).run Tryd.prog w = .ok (.tuple #[rlV r, v]) w := by
  obtain ⟨f, l, m1, w1, n1, t1, m2, w2, n2, t2, x⟩ := r
  obtain ⟨c0, c1, c2, c3, c4, c5, c6, c7, c8, c9, c10⟩ := cells_rule hb
  simp only [Nat.zero_add] at c0 c1 c2 c3 c4 c5 c6 c7 c8 c9 c10
  simp only [Array.getD_eq_getD_getElem?] at h2 h3
  simp [results, Tryd.results33, go_sem, h2, h3, c0, c1, c2, c3, c4, c5, c6, c7, c8, c9, c10, rlV]
theorem results_zOf {r : Rl} {v : Value} {b : Nat} {tmps : Array Value} {w : World} (h2 : tmps.getD 4 undef = .pointer (some ⟨b, 0, none⟩)) (h3 : tmps.getD 5 undef = v)
    (hb : w.heap[b]? = some (.cells #[.int .i64 r.f, .int .i64 r.l, .int .i64 r.m1, .int .i64 r.w1, .int .i64 r.n1, .int .i64 r.t1, .int .i64 r.m2, .int .i64 r.w2, .int .i64 r.n2, .int .i64 r.t2, .int .i64 r.x] 31 (0, 0))) : (results Tryd.f11 tmps).run Tryd.prog w = .ok (.tuple #[rlV r, v]) w := by
  obtain ⟨f, l, m1, w1, n1, t1, m2, w2, n2, t2, x⟩ := r
  obtain ⟨c0, c1, c2, c3, c4, c5, c6, c7, c8, c9, c10⟩ := cells_rule hb
  simp only [Nat.zero_add] at c0 c1 c2 c3 c4 c5 c6 c7 c8 c9 c10
  simp only [Array.getD_eq_getD_getElem?] at h2 h3
  simp [results, Tryd.results11, go_sem, h2, h3, c0, c1, c2, c3, c4, c5, c6, c7, c8, c9, c10, rlV]
/-- A rule, stored cell by cell. -/
theorem rule_put {W : World} {b : Nat} {v0 v1 v2 v3 v4 v5 v6 v7 v8 v9 v10 : Value} {T : TypeId} (f l m1 w1 n1 t1 m2 w2 n2 t2 x : Int) (h : W.heap[b]? = some (.cells #[v0, v1, v2, v3, v4, v5, v6, v7, v8, v9, v10] T (0, 0))) :
    (((((((((((W.setCell ⟨b, 0, none⟩ (.int .i64 f)).setCell ⟨b, 1, none⟩ (.int .i64 l)).setCell ⟨b, 2, none⟩ (.int .i64 m1)).setCell ⟨b, 3, none⟩ (.int .i64 w1)).setCell ⟨b, 4, none⟩ (.int .i64 n1)).setCell ⟨b, 5, none⟩ (.int .i64 t1)).setCell ⟨b, 6, none⟩ (.int .i64 m2)).setCell ⟨b, 7, none⟩ (.int .i64 w2)).setCell ⟨b, 8, none⟩ (.int .i64 n2)).setCell ⟨b, 9, none⟩ (.int .i64 t2)).setCell ⟨b, 10, none⟩ (.int .i64 x)).heap[b]? = some (.cells #[.int .i64 f, .int .i64 l, .int .i64 m1, .int .i64 w1, .int .i64 n1, .int .i64 t1, .int .i64 m2, .int .i64 w2, .int .i64 n2, .int .i64 t2, .int .i64 x] T (0, 0)) := by
  have h0 : (W.setCell ⟨b, 0, none⟩ (.int .i64 f)).heap[b]? = some (.cells #[.int .i64 f, v1, v2, v3, v4, v5, v6, v7, v8, v9, v10] T (0, 0)) := heap_setCell_same _ b 0 #[v0, v1, v2, v3, v4, v5, v6, v7, v8, v9, v10] T (.int .i64 f) h
  have h1 : ((W.setCell ⟨b, 0, none⟩ (.int .i64 f)).setCell ⟨b, 1, none⟩ (.int .i64 l)).heap[b]? = some (.cells #[.int .i64 f, .int .i64 l, v2, v3, v4, v5, v6, v7, v8, v9, v10] T (0, 0)) := heap_setCell_same _ b 1 #[.int .i64 f, v1, v2, v3, v4, v5, v6, v7, v8, v9, v10] T (.int .i64 l) h0
  have h2 : (((W.setCell ⟨b, 0, none⟩ (.int .i64 f)).setCell ⟨b, 1, none⟩ (.int .i64 l)).setCell ⟨b, 2, none⟩ (.int .i64 m1)).heap[b]? = some (.cells #[.int .i64 f, .int .i64 l, .int .i64 m1, v3, v4, v5, v6, v7, v8, v9, v10] T (0, 0)) := heap_setCell_same _ b 2 #[.int .i64 f, .int .i64 l, v2, v3, v4, v5, v6, v7, v8, v9, v10] T (.int .i64 m1) h1
  have h3 : ((((W.setCell ⟨b, 0, none⟩ (.int .i64 f)).setCell ⟨b, 1, none⟩ (.int .i64 l)).setCell ⟨b, 2, none⟩ (.int .i64 m1)).setCell ⟨b, 3, none⟩ (.int .i64 w1)).heap[b]? = some (.cells #[.int .i64 f, .int .i64 l, .int .i64 m1, .int .i64 w1, v4, v5, v6, v7, v8, v9, v10] T (0, 0)) := heap_setCell_same _ b 3 #[.int .i64 f, .int .i64 l, .int .i64 m1, v3, v4, v5, v6, v7, v8, v9, v10] T (.int .i64 w1) h2
  have h4 : (((((W.setCell ⟨b, 0, none⟩ (.int .i64 f)).setCell ⟨b, 1, none⟩ (.int .i64 l)).setCell ⟨b, 2, none⟩ (.int .i64 m1)).setCell ⟨b, 3, none⟩ (.int .i64 w1)).setCell ⟨b, 4, none⟩ (.int .i64 n1)).heap[b]? = some (.cells #[.int .i64 f, .int .i64 l, .int .i64 m1, .int .i64 w1, .int .i64 n1, v5, v6, v7, v8, v9, v10] T (0, 0)) := heap_setCell_same _ b 4 #[.int .i64 f, .int .i64 l, .int .i64 m1, .int .i64 w1, v4, v5, v6, v7, v8, v9, v10] T (.int .i64 n1) h3
  have h5 : ((((((W.setCell ⟨b, 0, none⟩ (.int .i64 f)).setCell ⟨b, 1, none⟩ (.int .i64 l)).setCell ⟨b, 2, none⟩ (.int .i64 m1)).setCell ⟨b, 3, none⟩ (.int .i64 w1)).setCell ⟨b, 4, none⟩ (.int .i64 n1)).setCell ⟨b, 5, none⟩ (.int .i64 t1)).heap[b]? = some (.cells #[.int .i64 f, .int .i64 l, .int .i64 m1, .int .i64 w1, .int .i64 n1, .int .i64 t1, v6, v7, v8, v9, v10] T (0, 0)) := heap_setCell_same _ b 5 #[.int .i64 f, .int .i64 l, .int .i64 m1, .int .i64 w1, .int .i64 n1, v5, v6, v7, v8, v9, v10] T (.int .i64 t1) h4
  have h6 : (((((((W.setCell ⟨b, 0, none⟩ (.int .i64 f)).setCell ⟨b, 1, none⟩ (.int .i64 l)).setCell ⟨b, 2, none⟩ (.int .i64 m1)).setCell ⟨b, 3, none⟩ (.int .i64 w1)).setCell ⟨b, 4, none⟩ (.int .i64 n1)).setCell ⟨b, 5, none⟩ (.int .i64 t1)).setCell ⟨b, 6, none⟩ (.int .i64 m2)).heap[b]? = some (.cells #[.int .i64 f, .int .i64 l, .int .i64 m1, .int .i64 w1, .int .i64 n1, .int .i64 t1, .int .i64 m2, v7, v8, v9, v10] T (0, 0)) := heap_setCell_same _ b 6 #[.int .i64 f, .int .i64 l, .int .i64 m1, .int .i64 w1, .int .i64 n1, .int .i64 t1, v6, v7, v8, v9, v10] T (.int .i64 m2) h5
  have h7 : ((((((((W.setCell ⟨b, 0, none⟩ (.int .i64 f)).setCell ⟨b, 1, none⟩ (.int .i64 l)).setCell ⟨b, 2, none⟩ (.int .i64 m1)).setCell ⟨b, 3, none⟩ (.int .i64 w1)).setCell ⟨b, 4, none⟩ (.int .i64 n1)).setCell ⟨b, 5, none⟩ (.int .i64 t1)).setCell ⟨b, 6, none⟩ (.int .i64 m2)).setCell ⟨b, 7, none⟩ (.int .i64 w2)).heap[b]? = some (.cells #[.int .i64 f, .int .i64 l, .int .i64 m1, .int .i64 w1, .int .i64 n1, .int .i64 t1, .int .i64 m2, .int .i64 w2, v8, v9, v10] T (0, 0)) := heap_setCell_same _ b 7 #[.int .i64 f, .int .i64 l, .int .i64 m1, .int .i64 w1, .int .i64 n1, .int .i64 t1, .int .i64 m2, v7, v8, v9, v10] T (.int .i64 w2) h6
  have h8 : (((((((((W.setCell ⟨b, 0, none⟩ (.int .i64 f)).setCell ⟨b, 1, none⟩ (.int .i64 l)).setCell ⟨b, 2, none⟩ (.int .i64 m1)).setCell ⟨b, 3, none⟩ (.int .i64 w1)).setCell ⟨b, 4, none⟩ (.int .i64 n1)).setCell ⟨b, 5, none⟩ (.int .i64 t1)).setCell ⟨b, 6, none⟩ (.int .i64 m2)).setCell ⟨b, 7, none⟩ (.int .i64 w2)).setCell ⟨b, 8, none⟩ (.int .i64 n2)).heap[b]? = some (.cells #[.int .i64 f, .int .i64 l, .int .i64 m1, .int .i64 w1, .int .i64 n1, .int .i64 t1, .int .i64 m2, .int .i64 w2, .int .i64 n2, v9, v10] T (0, 0)) := heap_setCell_same _ b 8 #[.int .i64 f, .int .i64 l, .int .i64 m1, .int .i64 w1, .int .i64 n1, .int .i64 t1, .int .i64 m2, .int .i64 w2, v8, v9, v10] T (.int .i64 n2) h7
  have h9 : ((((((((((W.setCell ⟨b, 0, none⟩ (.int .i64 f)).setCell ⟨b, 1, none⟩ (.int .i64 l)).setCell ⟨b, 2, none⟩ (.int .i64 m1)).setCell ⟨b, 3, none⟩ (.int .i64 w1)).setCell ⟨b, 4, none⟩ (.int .i64 n1)).setCell ⟨b, 5, none⟩ (.int .i64 t1)).setCell ⟨b, 6, none⟩ (.int .i64 m2)).setCell ⟨b, 7, none⟩ (.int .i64 w2)).setCell ⟨b, 8, none⟩ (.int .i64 n2)).setCell ⟨b, 9, none⟩ (.int .i64 t2)).heap[b]? = some (.cells #[.int .i64 f, .int .i64 l, .int .i64 m1, .int .i64 w1, .int .i64 n1, .int .i64 t1, .int .i64 m2, .int .i64 w2, .int .i64 n2, .int .i64 t2, v10] T (0, 0)) := heap_setCell_same _ b 9 #[.int .i64 f, .int .i64 l, .int .i64 m1, .int .i64 w1, .int .i64 n1, .int .i64 t1, .int .i64 m2, .int .i64 w2, .int .i64 n2, v9, v10] T (.int .i64 t2) h8
  have h10 : (((((((((((W.setCell ⟨b, 0, none⟩ (.int .i64 f)).setCell ⟨b, 1, none⟩ (.int .i64 l)).setCell ⟨b, 2, none⟩ (.int .i64 m1)).setCell ⟨b, 3, none⟩ (.int .i64 w1)).setCell ⟨b, 4, none⟩ (.int .i64 n1)).setCell ⟨b, 5, none⟩ (.int .i64 t1)).setCell ⟨b, 6, none⟩ (.int .i64 m2)).setCell ⟨b, 7, none⟩ (.int .i64 w2)).setCell ⟨b, 8, none⟩ (.int .i64 n2)).setCell ⟨b, 9, none⟩ (.int .i64 t2)).setCell ⟨b, 10, none⟩ (.int .i64 x)).heap[b]? = some (.cells #[.int .i64 f, .int .i64 l, .int .i64 m1, .int .i64 w1, .int .i64 n1, .int .i64 t1, .int .i64 m2, .int .i64 w2, .int .i64 n2, .int .i64 t2, .int .i64 x] T (0, 0)) := heap_setCell_same _ b 10 #[.int .i64 f, .int .i64 l, .int .i64 m1, .int .i64 w1, .int .i64 n1, .int .i64 t1, .int .i64 m2, .int .i64 w2, .int .i64 n2, .int .i64 t2, v10] T (.int .i64 x) h9
  exact h10
theorem rule_putB {B : Nat} {w W : World} {b : Nat} (f l m1 w1 n1 t1 m2 w2 n2 t2 x : Int) (hB : Below B w W) (hb : B ≤ b) :
    Below B w (((((((((((W.setCell ⟨b, 0, none⟩ (.int .i64 f)).setCell ⟨b, 1, none⟩ (.int .i64 l)).setCell ⟨b, 2, none⟩ (.int .i64 m1)).setCell ⟨b, 3, none⟩ (.int .i64 w1)).setCell ⟨b, 4, none⟩ (.int .i64 n1)).setCell ⟨b, 5, none⟩ (.int .i64 t1)).setCell ⟨b, 6, none⟩ (.int .i64 m2)).setCell ⟨b, 7, none⟩ (.int .i64 w2)).setCell ⟨b, 8, none⟩ (.int .i64 n2)).setCell ⟨b, 9, none⟩ (.int .i64 t2)).setCell ⟨b, 10, none⟩ (.int .i64 x)) :=
  (((((((((((hB.setCell (p := ⟨b, 0, none⟩) hb (.int .i64 f)).setCell (p := ⟨b, 1, none⟩) hb (.int .i64 l)).setCell (p := ⟨b, 2, none⟩) hb (.int .i64 m1)).setCell (p := ⟨b, 3, none⟩) hb (.int .i64 w1)).setCell (p := ⟨b, 4, none⟩) hb (.int .i64 n1)).setCell (p := ⟨b, 5, none⟩) hb (.int .i64 t1)).setCell (p := ⟨b, 6, none⟩) hb (.int .i64 m2)).setCell (p := ⟨b, 7, none⟩) hb (.int .i64 w2)).setCell (p := ⟨b, 8, none⟩) hb (.int .i64 n2)).setCell (p := ⟨b, 9, none⟩) hb (.int .i64 t2)).setCell (p := ⟨b, 10, none⟩) hb (.int .i64 x))
theorem rule_putO {W : World} {b k : Nat} (f l m1 w1 n1 t1 m2 w2 n2 t2 x : Int) (h : k ≠ b) : (((((((((((W.setCell ⟨b, 0, none⟩ (.int .i64 f)).setCell ⟨b, 1, none⟩ (.int .i64 l)).setCell ⟨b, 2, none⟩ (.int .i64 m1)).setCell ⟨b, 3, none⟩ (.int .i64 w1)).setCell ⟨b, 4, none⟩ (.int .i64 n1)).setCell ⟨b, 5, none⟩ (.int .i64 t1)).setCell ⟨b, 6, none⟩ (.int .i64 m2)).setCell ⟨b, 7, none⟩ (.int .i64 w2)).setCell ⟨b, 8, none⟩ (.int .i64 n2)).setCell ⟨b, 9, none⟩ (.int .i64 t2)).setCell ⟨b, 10, none⟩ (.int .i64 x)).heap[k]? = W.heap[k]? := by
  simp only [heap_setCell_other _ ⟨b, _, none⟩ k _ h]
set_option maxRecDepth 100000 in
set_option maxHeartbeats 4000000 in
theorem ruleOf_any (off : Int) (a : Option Addr) (len cap : Nat) (R : Nat → Rl) (y : Int) (w : World) (hl : len ≤ 1000) (hR : RulesAt w.heap.size w a len R) :
    Calls Tryd.prog 33 #[zoneV off a len cap, .int .i64 y] w fun e w' => e = .returned (.tuple #[rlV (ruleR R len y), .bool (ruleB R len y)]) ∧ Below w.heap.size w w' := by
  have hb0 := (Below.refl _ w).alloc (Nat.le_refl _) (.cells #[.int .i64 off, .slice a len cap] 24)
  have hb1 := hb0.alloc hb0.size (.cells #[.int .i64 0, .int .i64 0, .int .i64 0, .int .i64 0, .int .i64 0, .int .i64 0, .int .i64 0, .int .i64 0, .int .i64 0, .int .i64 0, .int .i64 0] 31)
  have hr := heap_alloc_new (w.alloc (.cells #[.int .i64 off, .slice a len cap] 24)) (.cells #[.int .i64 0, .int .i64 0, .int .i64 0, .int .i64 0, .int .i64 0, .int .i64 0, .int .i64 0, .int .i64 0, .int .i64 0, .int .i64 0, .int .i64 0] 31)
  rw [World.size_alloc] at hr
  have HR := Lib.hid hR
  have HB := Lib.hid hb1
  have G := Lib.hid hr
  have hli : (len : Int) ≤ 1000 := by omega
  clear hb0 hb1 hr hR hl
  go_enter Tryd.func33, Tryd.ntmps33
  go_wp2
  obtain ⟨W0, hW0⟩ : ∃ X, X = (w.alloc (.cells #[.int .i64 off, .slice a len cap] 24)).alloc (.cells #[.int .i64 0, .int .i64 0, .int .i64 0, .int .i64 0, .int .i64 0, .int .i64 0, .int .i64 0, .int .i64 0, .int .i64 0, .int .i64 0, .int .i64 0] 31) := ⟨_, rfl⟩
  rw [← hW0] at HB G ⊢
  clear hW0
  go_loopw [11] (fun i wr => ∃ k : Nat, k ≤ len ∧ i = .int .i64 k ∧ (∀ j, j < k → ¬ (R j).of y) ∧ Below w.heap.size w wr ∧ wr.heap[w.heap.size + 1]? = some (.cells #[.int .i64 0, .int .i64 0, .int .i64 0, .int .i64 0, .int .i64 0, .int .i64 0, .int .i64 0, .int .i64 0, .int .i64 0, .int .i64 0, .int .i64 0] 31 (0, 0))) (fun i _ => (len - intOf i).toNat)
  case atStart => exact ⟨0, Nat.zero_le _, rfl, fun j hj => absurd hj (Nat.not_lt_zero _), HB.out, G.out⟩
  case round =>
    obtain ⟨k, hk, rfl, hn, hbw, hgw⟩ := hrel
    have HN := Lib.hid hn
    have HBW := Lib.hid hbw
    have HGW := Lib.hid hgw
    have hlw : w.heap.size + 1 < wr.heap.size := (Array.getElem?_eq_some_iff.1 hgw).1
    clear hn hbw hgw HB G
    by_cases hlt : k < len
    · obtain ⟨b, o, rfl, hb, hrl⟩ := HR.out.next HBW.out k hlt
      have hlti : (k : Int) < len := by omega
      obtain ⟨r, hrk⟩ : ∃ r, r = R k := ⟨_, rfl⟩
      rw [← hrk] at hrl
      have HK := Lib.hid hrk
      clear hrk
      obtain ⟨f, l, m1, w1, n1, t1, m2, w2, n2, t2, x⟩ := r
      obtain ⟨r0, r1, r2, r3, r4, r5, r6, r7, r8, r9, r10⟩ := hrl
      simp only [] at r0 r1 r2 r3 r4 r5 r6 r7 r8 r9 r10
      have HBX := Lib.hid (HBW.out.alloc HBW.out.size (.cells #[.int .i64 f, .int .i64 l, .int .i64 m1, .int .i64 w1, .int .i64 n1, .int .i64 t1, .int .i64 m2, .int .i64 w2, .int .i64 n2, .int .i64 t2, .int .i64 x] 31))
      have HGX := Lib.hid (heap_old HGW.out (.cells #[.int .i64 f, .int .i64 l, .int .i64 m1, .int .i64 w1, .int .i64 n1, .int .i64 t1, .int .i64 m2, .int .i64 w2, .int .i64 n2, .int .i64 t2, .int .i64 x] 31))
      by_cases d : f ≤ y ∧ y ≤ l
      · have g := Lib.hid (show decide (f ≤ y ∧ y ≤ l) = true from decide_eq_true d)
        have hfin := ruleR_some (rule_some hlt (by rw [← HK.out]; exact d) HN.out)
        have HF := Lib.hid hfin
        have a0 : wr.cell? ⟨w.heap.size + 1, 0, none⟩ = some (.int .i64 0) := cell_of_row _ _ 0 _ _ _ HGW.out
        have a1 : wr.cell? ⟨w.heap.size + 1, 1, none⟩ = some (.int .i64 0) := cell_of_row _ _ 1 _ _ _ HGW.out
        have a2 : wr.cell? ⟨w.heap.size + 1, 2, none⟩ = some (.int .i64 0) := cell_of_row _ _ 2 _ _ _ HGW.out
        have a3 : wr.cell? ⟨w.heap.size + 1, 3, none⟩ = some (.int .i64 0) := cell_of_row _ _ 3 _ _ _ HGW.out
        have a4 : wr.cell? ⟨w.heap.size + 1, 4, none⟩ = some (.int .i64 0) := cell_of_row _ _ 4 _ _ _ HGW.out
        have a5 : wr.cell? ⟨w.heap.size + 1, 5, none⟩ = some (.int .i64 0) := cell_of_row _ _ 5 _ _ _ HGW.out
        have a6 : wr.cell? ⟨w.heap.size + 1, 6, none⟩ = some (.int .i64 0) := cell_of_row _ _ 6 _ _ _ HGW.out
        have a7 : wr.cell? ⟨w.heap.size + 1, 7, none⟩ = some (.int .i64 0) := cell_of_row _ _ 7 _ _ _ HGW.out
        have a8 : wr.cell? ⟨w.heap.size + 1, 8, none⟩ = some (.int .i64 0) := cell_of_row _ _ 8 _ _ _ HGW.out
        have a9 : wr.cell? ⟨w.heap.size + 1, 9, none⟩ = some (.int .i64 0) := cell_of_row _ _ 9 _ _ _ HGW.out
        have a10 : wr.cell? ⟨w.heap.size + 1, 10, none⟩ = some (.int .i64 0) := cell_of_row _ _ 10 _ _ _ HGW.out
        have f0 := frozen_of_row wr (w.heap.size + 1) 0 _ _ HGW.out
        have f1 := frozen_of_row wr (w.heap.size + 1) 1 _ _ HGW.out
        have f2 := frozen_of_row wr (w.heap.size + 1) 2 _ _ HGW.out
        have f3 := frozen_of_row wr (w.heap.size + 1) 3 _ _ HGW.out
        have f4 := frozen_of_row wr (w.heap.size + 1) 4 _ _ HGW.out
        have f5 := frozen_of_row wr (w.heap.size + 1) 5 _ _ HGW.out
        have f6 := frozen_of_row wr (w.heap.size + 1) 6 _ _ HGW.out
        have f7 := frozen_of_row wr (w.heap.size + 1) 7 _ _ HGW.out
        have f8 := frozen_of_row wr (w.heap.size + 1) 8 _ _ HGW.out
        have f9 := frozen_of_row wr (w.heap.size + 1) 9 _ _ HGW.out
        have f10 := frozen_of_row wr (w.heap.size + 1) 10 _ _ HGW.out
        clear d hfin HN
        go_wp2_with (go_at_call 31; refine (isFrom_any _ _ _ _).mono ?_; rintro e w' ⟨rfl, rfl⟩; rw [g.out])
        have hput := rule_put f l m1 w1 n1 t1 m2 w2 n2 t2 x HGW.out
        have hputB := rule_putB f l m1 w1 n1 t1 m2 w2 n2 t2 x HBW.out (Nat.le_succ w.heap.size)
        refine bodyPost_ret (results_ruleOf (r := ⟨f, l, m1, w1, n1, t1, m2, w2, n2, t2, x⟩) rfl rfl (heap_old hput _)) rfl ?_
        rw [HF.out.1, HF.out.2, ← HK.out]
        exact ⟨rfl, hputB.alloc hputB.size _⟩
      · have g := Lib.hid (show decide (f ≤ y ∧ y ≤ l) = false from decide_eq_false d)
        have HD := Lib.hid d
        clear d
        go_wp2_with (go_at_call 31; refine (isFrom_any _ _ _ _).mono ?_; rintro e w' ⟨rfl, rfl⟩; rw [g.out])
        go_roundw
        case rel => exact ⟨k + 1, by omega, by simp, fun j hj => by
            by_cases hjk : j = k
            · subst hjk; rw [← HK.out]; exact HD.out
            · exact HN.out j (by omega), HBX.out, HGX.out⟩
        case measure => simp [intOf]; omega
    · obtain rfl : k = len := by omega
      have hfin := ruleR_none (rule_none HN.out)
      have HF := Lib.hid hfin
      have a0 : wr.cell? ⟨w.heap.size + 1, 0, none⟩ = some (.int .i64 0) := cell_of_row _ _ 0 _ _ _ HGW.out
      have a1 : wr.cell? ⟨w.heap.size + 1, 1, none⟩ = some (.int .i64 0) := cell_of_row _ _ 1 _ _ _ HGW.out
      have a2 : wr.cell? ⟨w.heap.size + 1, 2, none⟩ = some (.int .i64 0) := cell_of_row _ _ 2 _ _ _ HGW.out
      have a3 : wr.cell? ⟨w.heap.size + 1, 3, none⟩ = some (.int .i64 0) := cell_of_row _ _ 3 _ _ _ HGW.out
      have a4 : wr.cell? ⟨w.heap.size + 1, 4, none⟩ = some (.int .i64 0) := cell_of_row _ _ 4 _ _ _ HGW.out
      have a5 : wr.cell? ⟨w.heap.size + 1, 5, none⟩ = some (.int .i64 0) := cell_of_row _ _ 5 _ _ _ HGW.out
      have a6 : wr.cell? ⟨w.heap.size + 1, 6, none⟩ = some (.int .i64 0) := cell_of_row _ _ 6 _ _ _ HGW.out
      have a7 : wr.cell? ⟨w.heap.size + 1, 7, none⟩ = some (.int .i64 0) := cell_of_row _ _ 7 _ _ _ HGW.out
      have a8 : wr.cell? ⟨w.heap.size + 1, 8, none⟩ = some (.int .i64 0) := cell_of_row _ _ 8 _ _ _ HGW.out
      have a9 : wr.cell? ⟨w.heap.size + 1, 9, none⟩ = some (.int .i64 0) := cell_of_row _ _ 9 _ _ _ HGW.out
      have a10 : wr.cell? ⟨w.heap.size + 1, 10, none⟩ = some (.int .i64 0) := cell_of_row _ _ 10 _ _ _ HGW.out
      have f0 := frozen_of_row wr (w.heap.size + 1) 0 _ _ HGW.out
      have f1 := frozen_of_row wr (w.heap.size + 1) 1 _ _ HGW.out
      have f2 := frozen_of_row wr (w.heap.size + 1) 2 _ _ HGW.out
      have f3 := frozen_of_row wr (w.heap.size + 1) 3 _ _ HGW.out
      have f4 := frozen_of_row wr (w.heap.size + 1) 4 _ _ HGW.out
      have f5 := frozen_of_row wr (w.heap.size + 1) 5 _ _ HGW.out
      have f6 := frozen_of_row wr (w.heap.size + 1) 6 _ _ HGW.out
      have f7 := frozen_of_row wr (w.heap.size + 1) 7 _ _ HGW.out
      have f8 := frozen_of_row wr (w.heap.size + 1) 8 _ _ HGW.out
      have f9 := frozen_of_row wr (w.heap.size + 1) 9 _ _ HGW.out
      have f10 := frozen_of_row wr (w.heap.size + 1) 10 _ _ HGW.out
      clear hfin HN
      go_wp2
      refine bodyPost_ret (results_ruleOf (r := noRl) rfl rfl (rule_put 0 0 0 0 0 0 0 0 0 0 0 HGW.out)) rfl ?_
      rw [HF.out.1, HF.out.2]
      exact ⟨rfl, rule_putB 0 0 0 0 0 0 0 0 0 0 0 HBW.out (Nat.le_succ _)⟩
/-- What Of answers. -/
def ofR (off : Int) (R : Nat → Rl) (len : Nat) (y : Int) : Rl := if ZoneIs off R len then ruleR R len y else noRl
def ofB (off : Int) (R : Nat → Rl) (len : Nat) (y : Int) : Bool := if ZoneIs off R len then ruleB R len y else false
set_option maxRecDepth 100000 in
set_option maxHeartbeats 4000000 in
theorem ofZ_any (off : Int) (a : Option Addr) (len cap : Nat) (R : Nat → Rl) (y : Int) (w : World) (hl : len ≤ 1000) (hR : RulesAt w.heap.size w a len R) :
    Calls Tryd.prog 11 #[zoneV off a len cap, .int .i64 y] w fun e w' => e = .returned (.tuple #[rlV (ofR off R len y), .bool (ofB off R len y)]) ∧ Below w.heap.size w w' := by
  obtain ⟨q, hq⟩ : ∃ q, q = ofR off R len y := ⟨_, rfl⟩
  obtain ⟨qb, hqb⟩ : ∃ q, q = ofB off R len y := ⟨_, rfl⟩
  rw [← hq, ← hqb]
  have HQ := Lib.hid (And.intro hq hqb)
  clear hq hqb
  obtain ⟨f, l, m1, w1, n1, t1, m2, w2, n2, t2, x⟩ := q
  have hb0 := (Below.refl _ w).alloc (Nat.le_refl _) (.cells #[.int .i64 off, .slice a len cap] 24)
  have hb1 := hb0.alloc hb0.size (.cells #[.int .i64 0, .int .i64 0, .int .i64 0, .int .i64 0, .int .i64 0, .int .i64 0, .int .i64 0, .int .i64 0, .int .i64 0, .int .i64 0, .int .i64 0] 31)
  have hr := heap_alloc_new (w.alloc (.cells #[.int .i64 off, .slice a len cap] 24)) (.cells #[.int .i64 0, .int .i64 0, .int .i64 0, .int .i64 0, .int .i64 0, .int .i64 0, .int .i64 0, .int .i64 0, .int .i64 0, .int .i64 0, .int .i64 0] 31)
  rw [World.size_alloc] at hr
  have hz := heap_old (heap_alloc_new w (.cells #[.int .i64 off, .slice a len cap] 24)) (.cells #[.int .i64 0, .int .i64 0, .int .i64 0, .int .i64 0, .int .i64 0, .int .i64 0, .int .i64 0, .int .i64 0, .int .i64 0, .int .i64 0, .int .i64 0] 31)
  have HCK := Lib.hid (checkZ_any off a len cap R _ hl ((hR.next hb1).mono hb1.size))
  have HRO := Lib.hid (fun X (hX : Below w.heap.size w X) => ruleOf_any off a len cap R y X hl ((hR.next hX).mono hX.size))
  have HB := Lib.hid hb1
  have G := Lib.hid hr
  have GZ := Lib.hid hz
  clear hb0 hb1 hr hz hR hl
  go_enter Tryd.func11, Tryd.ntmps11
  go_wp2_with fail
  refine HCK.out.mono ?_
  rintro e X ⟨rfl, hB1⟩
  have hbx := HB.out.trans (hB1.mono HB.out.size)
  have hg := (hB1.block (w.heap.size + 1) (Array.getElem?_eq_some_iff.1 G.out).1).trans G.out
  have hgz := (hB1.block w.heap.size (Array.getElem?_eq_some_iff.1 GZ.out).1).trans GZ.out
  have z0 : X.cell? ⟨w.heap.size, 0, none⟩ = some (.int .i64 off) := cell_of_row _ _ 0 _ _ _ hgz
  have z1 : X.cell? ⟨w.heap.size, 1, none⟩ = some (.slice a len cap) := cell_of_row _ _ 1 _ _ _ hgz
  have hlx : w.heap.size + 1 < X.heap.size := (Array.getElem?_eq_some_iff.1 hg).1
  have HG := Lib.hid hg
  have HBX := Lib.hid hbx
  clear hB1 hbx hg hgz HB G GZ HCK
  by_cases hz : ZoneIs off R len
  · rw [zE_yes hz]
    obtain ⟨e1, e2⟩ := HQ.out
    rw [show ofR off R len y = ruleR R len y by unfold ofR; rw [if_pos hz]] at e1
    rw [show ofB off R len y = ruleB R len y by unfold ofB; rw [if_pos hz]] at e2
    rw [← e1, ← e2] at HRO
    clear e1 e2 HQ hz
    go_wp2_with fail
    refine (HRO.out X HBX.out).mono ?_
    rintro e Y ⟨rfl, hB2⟩
    have hby := HBX.out.trans (hB2.mono HBX.out.size)
    have hg := (hB2.block (w.heap.size + 1) hlx).trans HG.out
    have HGY := Lib.hid hg
    have HBY := Lib.hid hby
    have a0 : Y.cell? ⟨w.heap.size + 1, 0, none⟩ = some (.int .i64 0) := cell_of_row _ _ 0 _ _ _ hg
    have a1 : Y.cell? ⟨w.heap.size + 1, 1, none⟩ = some (.int .i64 0) := cell_of_row _ _ 1 _ _ _ hg
    have a2 : Y.cell? ⟨w.heap.size + 1, 2, none⟩ = some (.int .i64 0) := cell_of_row _ _ 2 _ _ _ hg
    have a3 : Y.cell? ⟨w.heap.size + 1, 3, none⟩ = some (.int .i64 0) := cell_of_row _ _ 3 _ _ _ hg
    have a4 : Y.cell? ⟨w.heap.size + 1, 4, none⟩ = some (.int .i64 0) := cell_of_row _ _ 4 _ _ _ hg
    have a5 : Y.cell? ⟨w.heap.size + 1, 5, none⟩ = some (.int .i64 0) := cell_of_row _ _ 5 _ _ _ hg
    have a6 : Y.cell? ⟨w.heap.size + 1, 6, none⟩ = some (.int .i64 0) := cell_of_row _ _ 6 _ _ _ hg
    have a7 : Y.cell? ⟨w.heap.size + 1, 7, none⟩ = some (.int .i64 0) := cell_of_row _ _ 7 _ _ _ hg
    have a8 : Y.cell? ⟨w.heap.size + 1, 8, none⟩ = some (.int .i64 0) := cell_of_row _ _ 8 _ _ _ hg
    have a9 : Y.cell? ⟨w.heap.size + 1, 9, none⟩ = some (.int .i64 0) := cell_of_row _ _ 9 _ _ _ hg
    have a10 : Y.cell? ⟨w.heap.size + 1, 10, none⟩ = some (.int .i64 0) := cell_of_row _ _ 10 _ _ _ hg
    have f0 := frozen_of_row Y (w.heap.size + 1) 0 _ _ hg
    have f1 := frozen_of_row Y (w.heap.size + 1) 1 _ _ hg
    have f2 := frozen_of_row Y (w.heap.size + 1) 2 _ _ hg
    have f3 := frozen_of_row Y (w.heap.size + 1) 3 _ _ hg
    have f4 := frozen_of_row Y (w.heap.size + 1) 4 _ _ hg
    have f5 := frozen_of_row Y (w.heap.size + 1) 5 _ _ hg
    have f6 := frozen_of_row Y (w.heap.size + 1) 6 _ _ hg
    have f7 := frozen_of_row Y (w.heap.size + 1) 7 _ _ hg
    have f8 := frozen_of_row Y (w.heap.size + 1) 8 _ _ hg
    have f9 := frozen_of_row Y (w.heap.size + 1) 9 _ _ hg
    have f10 := frozen_of_row Y (w.heap.size + 1) 10 _ _ hg
    clear hB2 hby hg z0 z1 HRO
    go_wp2
    refine bodyPost_ret (results_zOf (r := ⟨f, l, m1, w1, n1, t1, m2, w2, n2, t2, x⟩) rfl rfl (rule_put f l m1 w1 n1 t1 m2 w2 n2 t2 x HGY.out)) rfl ?_
    exact ⟨rfl, rule_putB f l m1 w1 n1 t1 m2 w2 n2 t2 x HBY.out (Nat.le_succ _)⟩
  · rw [zE_no hz]
    obtain ⟨e1, e2⟩ := HQ.out
    rw [show ofR off R len y = noRl by unfold ofR; rw [if_neg hz]] at e1
    rw [show ofB off R len y = false by unfold ofB; rw [if_neg hz]] at e2
    simp only [noRl, Rl.mk.injEq] at e1
    obtain ⟨rfl, rfl, rfl, rfl, rfl, rfl, rfl, rfl, rfl, rfl, rfl⟩ := e1
    subst e2
    clear HQ
    have a0 : X.cell? ⟨w.heap.size + 1, 0, none⟩ = some (.int .i64 0) := cell_of_row _ _ 0 _ _ _ HG.out
    have a1 : X.cell? ⟨w.heap.size + 1, 1, none⟩ = some (.int .i64 0) := cell_of_row _ _ 1 _ _ _ HG.out
    have a2 : X.cell? ⟨w.heap.size + 1, 2, none⟩ = some (.int .i64 0) := cell_of_row _ _ 2 _ _ _ HG.out
    have a3 : X.cell? ⟨w.heap.size + 1, 3, none⟩ = some (.int .i64 0) := cell_of_row _ _ 3 _ _ _ HG.out
    have a4 : X.cell? ⟨w.heap.size + 1, 4, none⟩ = some (.int .i64 0) := cell_of_row _ _ 4 _ _ _ HG.out
    have a5 : X.cell? ⟨w.heap.size + 1, 5, none⟩ = some (.int .i64 0) := cell_of_row _ _ 5 _ _ _ HG.out
    have a6 : X.cell? ⟨w.heap.size + 1, 6, none⟩ = some (.int .i64 0) := cell_of_row _ _ 6 _ _ _ HG.out
    have a7 : X.cell? ⟨w.heap.size + 1, 7, none⟩ = some (.int .i64 0) := cell_of_row _ _ 7 _ _ _ HG.out
    have a8 : X.cell? ⟨w.heap.size + 1, 8, none⟩ = some (.int .i64 0) := cell_of_row _ _ 8 _ _ _ HG.out
    have a9 : X.cell? ⟨w.heap.size + 1, 9, none⟩ = some (.int .i64 0) := cell_of_row _ _ 9 _ _ _ HG.out
    have a10 : X.cell? ⟨w.heap.size + 1, 10, none⟩ = some (.int .i64 0) := cell_of_row _ _ 10 _ _ _ HG.out
    have f0 := frozen_of_row X (w.heap.size + 1) 0 _ _ HG.out
    have f1 := frozen_of_row X (w.heap.size + 1) 1 _ _ HG.out
    have f2 := frozen_of_row X (w.heap.size + 1) 2 _ _ HG.out
    have f3 := frozen_of_row X (w.heap.size + 1) 3 _ _ HG.out
    have f4 := frozen_of_row X (w.heap.size + 1) 4 _ _ HG.out
    have f5 := frozen_of_row X (w.heap.size + 1) 5 _ _ HG.out
    have f6 := frozen_of_row X (w.heap.size + 1) 6 _ _ HG.out
    have f7 := frozen_of_row X (w.heap.size + 1) 7 _ _ HG.out
    have f8 := frozen_of_row X (w.heap.size + 1) 8 _ _ HG.out
    have f9 := frozen_of_row X (w.heap.size + 1) 9 _ _ HG.out
    have f10 := frozen_of_row X (w.heap.size + 1) 10 _ _ HG.out
    clear hz z0 z1 HRO
    go_wp2
    refine bodyPost_ret (results_zOf (r := noRl) rfl rfl (rule_put 0 0 0 0 0 0 0 0 0 0 0 HG.out)) rfl ?_
    exact ⟨rfl, rule_putB 0 0 0 0 0 0 0 0 0 0 0 HBX.out (Nat.le_succ _)⟩

end Go.Proofs.YtobnlcmamnoefaaDoor
