/- Joined: ZChange ZRule ZMay ZEdges ZOffset ZRefuse. -/
import Derived.Test.YtbffmobjiiicoaaGreatDoorJK2
import Derived.Deep.RegionHeld3
import Derived.Deep.CutBlock
import Derived.Deep.DeepCutAuto
section
/- Contracts of the document's functions on changes of a zone: change, at. -/
set_option linter.unusedVariables false
set_option linter.unusedSimpArgs false
namespace Go.Proofs.YtbffmobjiiicoaaGreatDoor
open Go.RowKit Go.Shelf
abbrev chV (m w n t : Int) : Value := .agg #[.int .i64 m, .int .i64 w, .int .i64 n, .int .i64 t]
def ChIs (m w n t : Int) : Prop := (1 ≤ m ∧ m ≤ 12) ∧ (1 ≤ w ∧ w ≤ 7) ∧ (n = -1 ∨ (1 ≤ n ∧ n ≤ 4)) ∧ (0 ≤ t ∧ t < 1440)
instance (m w n t : Int) : Decidable (ChIs m w n t) := by unfold ChIs; infer_instance
set_option maxRecDepth 100000 in
set_option maxHeartbeats 2000000 in
theorem rchange_any (m w n t : Int) (W : World) :
    Calls Tryz.prog 47 #[chV m w n t] W fun e w' => e = .returned (.bool (decide (ChIs m w n t))) ∧ Below W.heap.size W w' := by
  have HB := Lib.hid ((Below.refl _ W).alloc (Nat.le_refl _) (.cells #[.int .i64 m, .int .i64 w, .int .i64 n, .int .i64 t] 86))
  have hd : decide (ChIs m w n t) = (decide (1 ≤ m) && (decide (m ≤ 12) && (decide (1 ≤ w) && (decide (w ≤ 7) && ((n == -1) || (decide (1 ≤ n) && decide (n ≤ 4))) && (decide (0 ≤ t) && decide (t < 1440)))))) := by
    rw [Bool.eq_iff_iff, decide_eq_true_iff]; simp [ChIs, and_assoc]
  have hcase : ∀ p : Bool, p = true ∨ p = false := fun p => by cases p <;> simp
  by_cases c1 : 1 ≤ m
  · by_cases c2 : m ≤ 12
    · by_cases c3 : 1 ≤ w
      · by_cases c4 : w ≤ 7
        · by_cases c5 : n = -1
          · have g5 : (n == -1) = true := by simp [c5]
            by_cases c6 : 0 ≤ t
            · by_cases c7 : t < 1440
              · rw [show decide (ChIs m w n t) = true from decide_eq_true (by unfold ChIs; omega)]
                clear hd hcase c5
                go_enter Tryz.func47, Tryz.ntmps47
                go_wp2
                go_ret
                exact ⟨rfl, HB.out⟩
              · rw [show decide (ChIs m w n t) = false from decide_eq_false (by unfold ChIs; omega)]
                clear hd hcase c5
                go_enter Tryz.func47, Tryz.ntmps47
                go_wp2
                go_ret
                exact ⟨rfl, HB.out⟩
            · rw [show decide (ChIs m w n t) = false from decide_eq_false (by unfold ChIs; omega)]
              clear hd hcase c5
              go_enter Tryz.func47, Tryz.ntmps47
              go_wp2
              go_ret
              exact ⟨rfl, HB.out⟩
          · have g5 : (n == -1) = false := by simp [c5]
            by_cases c8 : 1 ≤ n
            · by_cases c9 : n ≤ 4
              · by_cases c6 : 0 ≤ t
                · by_cases c7 : t < 1440
                  · rw [show decide (ChIs m w n t) = true from decide_eq_true (by unfold ChIs; omega)]
                    clear hd hcase
                    go_enter Tryz.func47, Tryz.ntmps47
                    go_wp2
                    go_ret
                    exact ⟨rfl, HB.out⟩
                  · rw [show decide (ChIs m w n t) = false from decide_eq_false (by unfold ChIs; omega)]
                    clear hd hcase
                    go_enter Tryz.func47, Tryz.ntmps47
                    go_wp2
                    go_ret
                    exact ⟨rfl, HB.out⟩
                · rw [show decide (ChIs m w n t) = false from decide_eq_false (by unfold ChIs; omega)]
                  clear hd hcase
                  go_enter Tryz.func47, Tryz.ntmps47
                  go_wp2
                  go_ret
                  exact ⟨rfl, HB.out⟩
              · rw [show decide (ChIs m w n t) = false from decide_eq_false (by unfold ChIs; omega)]
                clear hd hcase
                go_enter Tryz.func47, Tryz.ntmps47
                go_wp2
                go_ret
                exact ⟨rfl, HB.out⟩
            · rw [show decide (ChIs m w n t) = false from decide_eq_false (by unfold ChIs; omega)]
              clear hd hcase
              go_enter Tryz.func47, Tryz.ntmps47
              go_wp2
              go_ret
              exact ⟨rfl, HB.out⟩
        · rw [show decide (ChIs m w n t) = false from decide_eq_false (by unfold ChIs; omega)]
          clear hd hcase
          go_enter Tryz.func47, Tryz.ntmps47
          go_wp2
          go_ret
          exact ⟨rfl, HB.out⟩
      · rw [show decide (ChIs m w n t) = false from decide_eq_false (by unfold ChIs; omega)]
        clear hd hcase
        go_enter Tryz.func47, Tryz.ntmps47
        go_wp2
        go_ret
        exact ⟨rfl, HB.out⟩
    · rw [show decide (ChIs m w n t) = false from decide_eq_false (by unfold ChIs; omega)]
      clear hd hcase
      go_enter Tryz.func47, Tryz.ntmps47
      go_wp2
      go_ret
      exact ⟨rfl, HB.out⟩
  · rw [show decide (ChIs m w n t) = false from decide_eq_false (by unfold ChIs; omega)]
    clear hd hcase
    go_enter Tryz.func47, Tryz.ntmps47
    go_wp2
    go_ret
    exact ⟨rfl, HB.out⟩
def atV (y m w n t : Int) : Int := dayOf y m (nthD y m w n) * 86400 + t * 60
theorem nth_is_of {y m w n t : Int} (hy : 1970 ≤ y ∧ y ≤ 9999) (h : ChIs m w n t) : NthIs y m w n := by
  obtain ⟨⟨h1, h2⟩, h3, h4, h5⟩ := h
  have hdl := dlen_ge (y := y) (m := m) h1 h2
  refine ⟨⟨hy.1, hy.2, h1, h2, by omega, by omega⟩, h3, ?_⟩
  rcases h4 with h4 | h4
  · exact .inl h4
  · refine .inr ⟨h4.1, by omega, ?_⟩
    unfold nthD
    rw [if_neg (by omega)]
    have := nthF_bounds y m w
    omega
theorem nth_may {y m w n : Int} (h : NthIs y m w n) : May y m (nthD y m w n) := by
  obtain ⟨⟨a1, a2, a3, a4, a5, a6⟩, h3, h4⟩ := h
  have hdl := dlen_ge (y := y) (m := m) a3 a4
  have := nthF_bounds y m w
  refine ⟨a1, a2, a3, a4, ?_, ?_⟩ <;> unfold nthD at * <;> rcases h4 with rfl | h4
  · rw [if_pos rfl]; omega
  · rw [if_neg (by omega)]; omega
  · rw [if_pos rfl]; omega
  · rw [if_neg (by omega)] at *; omega
set_option maxHeartbeats 2000000 in
theorem rat_any (y m w n t : Int) (hy : 1970 ≤ y ∧ y ≤ 9999) (h : ChIs m w n t) (W : World) :
    Calls Tryz.prog 85 #[.int .i64 y, chV m w n t] W fun e w' => e = .returned (.int .i64 (atV y m w n t)) ∧ Below W.heap.size W w' := by
  have HB := Lib.hid ((Below.refl _ W).alloc (Nat.le_refl _) (.cells #[.int .i64 m, .int .i64 w, .int .i64 n, .int .i64 t] 86))
  have hN := nth_is_of hy h
  have hM := nth_may hN
  have hb := day_bounds hM
  have H1 := Lib.hid (fun X => rnth_yes y m w n hN X)
  obtain ⟨D, hD⟩ : ∃ D, D = nthD y m w n := ⟨_, rfl⟩
  have H2 := Lib.hid (fun X => rday_any y m D X)
  rw [← hD] at H1 hM hb
  obtain ⟨K, hK⟩ : ∃ K, K = dayOf y m D := ⟨_, rfl⟩
  rw [show dayE y m D = K by unfold dayE; rw [if_pos hM, hK], mayE_yes hM] at H2
  rw [← hK] at hb
  have ht := h.2.2.2
  rw [show atV y m w n t = K * 86400 + t * 60 by unfold atV; rw [← hD, ← hK]]
  clear hN hM hD hK h
  go_enter Tryz.func85, Tryz.ntmps85
  go_wp2_with fail
  refine (H1.out _).mono ?_
  rintro e w' ⟨rfl, rfl⟩
  go_wp2_with fail
  refine (H2.out _).mono ?_
  rintro e w' ⟨rfl, rfl⟩
  go_wp2
  go_ret
  exact ⟨rfl, HB.out⟩
end Go.Proofs.YtbffmobjiiicoaaGreatDoor
end
section
/- Contracts of the document's functions on zones: Rule. -/
set_option linter.unusedVariables false
set_option linter.unusedSimpArgs false
namespace Go.Proofs.YtbffmobjiiicoaaGreatDoor
open Go.RowKit Go.Shelf
structure Rl where (f l m1 w1 n1 t1 m2 w2 n2 t2 x : Int)
abbrev rlV (r : Rl) : Value := .agg #[.int .i64 r.f, .int .i64 r.l, .int .i64 r.m1, .int .i64 r.w1, .int .i64 r.n1, .int .i64 r.t1, .int .i64 r.m2, .int .i64 r.w2, .int .i64 r.n2, .int .i64 r.t2, .int .i64 r.x]
abbrev zoneV (off : Int) (a : Option Addr) (len cap : Nat) : Value := .agg #[.int .i64 off, .slice a len cap]
/-- The eleven cells of a rule. -/
def RlAt (W : World) (b o : Nat) (r : Rl) : Prop := W.cell? ⟨b, o, none⟩ = some (.int .i64 r.f) ∧ W.cell? ⟨b, o + 1, none⟩ = some (.int .i64 r.l) ∧ W.cell? ⟨b, o + 2, none⟩ = some (.int .i64 r.m1) ∧ W.cell? ⟨b, o + 3, none⟩ = some (.int .i64 r.w1) ∧ W.cell? ⟨b, o + 4, none⟩ = some (.int .i64 r.n1) ∧ W.cell? ⟨b, o + 5, none⟩ = some (.int .i64 r.t1) ∧
  W.cell? ⟨b, o + 6, none⟩ = some (.int .i64 r.m2) ∧ W.cell? ⟨b, o + 7, none⟩ = some (.int .i64 r.w2) ∧ W.cell? ⟨b, o + 8, none⟩ = some (.int .i64 r.n2) ∧ W.cell? ⟨b, o + 9, none⟩ = some (.int .i64 r.t2) ∧ W.cell? ⟨b, o + 10, none⟩ = some (.int .i64 r.x)
theorem RlAt.below {B : Nat} {W X : World} {b o : Nat} {r : Rl} (h : RlAt W b o r) (hb : b < B) (hB : Below B W X) : RlAt X b o r := by
  have e := fun k => hB.cell (p := ⟨b, k, none⟩) hb
  unfold RlAt at *
  simp only [e]
  exact h
/-- The rules of a zone, in a block below B. -/
def RulesAt (B : Nat) (W : World) (a : Option Addr) (len : Nat) (R : Nat → Rl) : Prop := ∀ i, i < len → ∃ b o, a = some ⟨b, o, none⟩ ∧ b < B ∧ RlAt W b (o + i * 11) (R i)
theorem RulesAt.next {B : Nat} {W X : World} {a : Option Addr} {len : Nat} {R : Nat → Rl} (h : RulesAt B W a len R) (hB : Below B W X) : RulesAt B X a len R := fun i hi => by
  obtain ⟨b, o, e, hb, hr⟩ := h i hi
  exact ⟨b, o, e, hb, hr.below hb hB⟩
theorem RulesAt.mono {B C : Nat} {W : World} {a : Option Addr} {len : Nat} {R : Nat → Rl} (h : RulesAt B W a len R) (hB : B ≤ C) : RulesAt C W a len R := fun i hi => by
  obtain ⟨b, o, e, hb, hr⟩ := h i hi
  exact ⟨b, o, e, by omega, hr⟩
def Rl.of (r : Rl) (y : Int) : Prop := r.f ≤ y ∧ y ≤ r.l
instance (r : Rl) (y : Int) : Decidable (r.of y) := by unfold Rl.of; infer_instance
def ruleI (R : Nat → Rl) (len : Nat) (y : Int) : Int := match (List.range len).find? (fun i => decide ((R i).of y)) with
  | some i => i
  | none => -1
theorem rule_some {R : Nat → Rl} {len : Nat} {y : Int} {k : Nat} (hk : k < len) (h : (R k).of y) (hn : ∀ j, j < k → ¬ (R j).of y) : ruleI R len y = k := by
  unfold ruleI
  rw [show (List.range len).find? (fun i => decide ((R i).of y)) = some k from List.find?_range_eq_some.2 ⟨by simpa using h, by simpa using hk, fun j hj => by simpa using hn j hj⟩]
theorem rule_none {R : Nat → Rl} {len : Nat} {y : Int} (hn : ∀ j, j < len → ¬ (R j).of y) : ruleI R len y = -1 := by
  unfold ruleI
  rw [show (List.range len).find? (fun i => decide ((R i).of y)) = none from List.find?_range_eq_none.2 fun j hj => by simpa using hn j hj]
theorem rule_cases (R : Nat → Rl) (len : Nat) (y : Int) : (∃ k : Nat, k < len ∧ ruleI R len y = k ∧ (R k).of y) ∨ ruleI R len y = -1 := by
  unfold ruleI
  cases h : (List.range len).find? (fun i => decide ((R i).of y)) with
  | none => exact .inr rfl
  | some k =>
    obtain ⟨h1, h2, _⟩ := List.find?_range_eq_some.1 h
    exact .inl ⟨k, by simpa using h2, rfl, by simpa using h1⟩
set_option maxRecDepth 100000 in
set_option maxHeartbeats 2000000 in
theorem rrule_any (off : Int) (a : Option Addr) (len cap : Nat) (R : Nat → Rl) (y : Int) (w : World) (hl : len ≤ 1000) (hR : RulesAt w.heap.size w a len R) :
    Calls Tryz.prog 65 #[zoneV off a len cap, .int .i64 y] w fun e w' => e = .returned (.int .i64 (ruleI R len y)) ∧ Below w.heap.size w w' := by
  have hb0 := (Below.refl _ w).alloc (Nat.le_refl _) (.cells #[.int .i64 off, .slice a len cap] 24)
  have hr := heap_alloc_new w (.cells #[.int .i64 off, .slice a len cap] 24)
  have HR := Lib.hid (hR.next hb0)
  have HB := Lib.hid hb0
  have G := Lib.hid hr
  have hli : (len : Int) ≤ 1000 := by omega
  have HL := Lib.hid hl
  clear hb0 hr hR hl
  go_enter Tryz.func65, Tryz.ntmps65
  go_wp2
  obtain ⟨W0, hW0⟩ : ∃ X, X = w.alloc (.cells #[.int .i64 off, .slice a len cap] 24) := ⟨_, rfl⟩
  rw [← hW0] at HR HB G ⊢
  clear hW0
  go_loopw [5] (fun i wr => ∃ k : Nat, k ≤ len ∧ i = .int .i64 k ∧ (∀ j, j < k → ¬ (R j).of y) ∧ W0 = wr) (fun i _ => (len - intOf i).toNat)
  case atStart => exact ⟨0, Nat.zero_le _, rfl, fun j hj => absurd hj (Nat.not_lt_zero _), rfl⟩
  case round =>
    obtain ⟨k, hk, rfl, hn, rfl⟩ := hrel
    have HN := Lib.hid hn
    have c1 : W0.cell? ⟨w.heap.size, 1, none⟩ = some (.slice a len cap) := cell_of_row W0 _ 1 _ _ _ G.out
    clear hn
    by_cases hlt : k < len
    · obtain ⟨b, o, rfl, hb, r0, r1, _⟩ := HR.out k hlt
      have g1 : decide ((k : Int) < (len : Int)) = true := decide_eq_true (by omega)
      have hlti : (k : Int) < len := by omega
      obtain ⟨F, hF⟩ : ∃ x, x = (R k).f := ⟨_, rfl⟩
      obtain ⟨L, hL⟩ : ∃ x, x = (R k).l := ⟨_, rfl⟩
      rw [← hF] at r0
      rw [← hL] at r1
      have HF := Lib.hid hF
      have HLL := Lib.hid hL
      clear hF hL
      by_cases d1 : F ≤ y
      · by_cases d2 : y ≤ L
        · go_wp2
          go_ret
          rw [rule_some hlt ⟨by rw [← HF.out]; exact d1, by rw [← HLL.out]; exact d2⟩ HN.out]
          exact ⟨rfl, HB.out⟩
        · go_wp2
          go_roundw
          case rel => exact ⟨k + 1, by omega, by simp, fun j hj => by
              by_cases hjk : j = k
              · subst hjk; exact fun h => d2 (by rw [HLL.out]; exact h.2)
              · exact HN.out j (by omega), trivial⟩
          case measure => simp [intOf]; omega
      · go_wp2
        go_roundw
        case rel => exact ⟨k + 1, by omega, by simp, fun j hj => by
            by_cases hjk : j = k
            · subst hjk; exact fun h => d1 (by rw [HF.out]; exact h.1)
            · exact HN.out j (by omega), trivial⟩
        case measure => simp [intOf]; omega
    · obtain rfl : k = len := by omega
      go_wp2
      go_ret
      rw [rule_none HN.out]
      exact ⟨rfl, HB.out⟩
end Go.Proofs.YtbffmobjiiicoaaGreatDoor
end
section
/- Contracts of the document's functions on zones: May. -/
set_option linter.unusedVariables false
set_option linter.unusedSimpArgs false
namespace Go.Proofs.YtbffmobjiiicoaaGreatDoor
open Go.RowKit Go.Shelf
def RlIs (r : Rl) : Prop := (1970 ≤ r.f ∧ r.l ≤ 9999 ∧ r.f ≤ r.l) ∧ (1 ≤ r.x ∧ r.x ≤ 7200) ∧ ChIs r.m1 r.w1 r.n1 r.t1 ∧ ChIs r.m2 r.w2 r.n2 r.t2
instance (r : Rl) : Decidable (RlIs r) := by unfold RlIs; infer_instance
def ZoneIs (off : Int) (R : Nat → Rl) (len : Nat) : Prop := (-50400 ≤ off ∧ off ≤ 50400) ∧ len ≤ 20 ∧ ∀ i, i < len → RlIs (R i)
instance (off : Int) (R : Nat → Rl) (len : Nat) : Decidable (ZoneIs off R len) := by unfold ZoneIs; infer_instance
set_option maxRecDepth 100000 in
set_option maxHeartbeats 4000000 in
theorem rmayZ_any (off : Int) (a : Option Addr) (len cap : Nat) (R : Nat → Rl) (w : World) (hl : len ≤ 1000) (hR : RulesAt w.heap.size w a len R) :
    Calls Tryz.prog 21 #[zoneV off a len cap] w fun e w' => e = .returned (.bool (decide (ZoneIs off R len))) ∧ Below w.heap.size w w' := by
  have hb0 := (Below.refl _ w).alloc (Nat.le_refl _) (.cells #[.int .i64 off, .slice a len cap] 24)
  have hr := heap_alloc_new w (.cells #[.int .i64 off, .slice a len cap] 24)
  have HR := Lib.hid hR
  have HB := Lib.hid hb0
  have G := Lib.hid hr
  have hli : (len : Int) ≤ 1000 := by omega
  clear hb0 hr hR hl
  obtain ⟨RV, hRV⟩ : ∃ b, b = decide (ZoneIs off R len) := ⟨_, rfl⟩
  rw [← hRV]
  have HV := Lib.hid hRV
  clear hRV
  by_cases c0 : -50400 ≤ off
  · by_cases c1 : off ≤ 50400
    · by_cases c2 : len ≤ 20
      · have c2i : (len : Int) ≤ 20 := by omega
        have HC := Lib.hid (And.intro c0 (And.intro c1 c2))
        clear c2
        go_enter Tryz.func21, Tryz.ntmps21
        go_wp2
        obtain ⟨W0, hW0⟩ : ∃ X, X = w.alloc (.cells #[.int .i64 off, .slice a len cap] 24) := ⟨_, rfl⟩
        rw [← hW0] at HB G ⊢
        clear hW0 c0 c1 hli
        go_loopw [3] (fun i wr => ∃ k : Nat, k ≤ len ∧ i = .int .i64 k ∧ (∀ j, j < k → RlIs (R j)) ∧ Below w.heap.size w wr ∧ wr.heap[w.heap.size]? = some (.cells #[.int .i64 off, .slice a len cap] 24)) (fun i _ => (len - intOf i).toNat)
        case atStart => exact ⟨0, Nat.zero_le _, rfl, fun j hj => absurd hj (Nat.not_lt_zero _), HB.out, G.out⟩
        case round =>
          obtain ⟨k, hk, rfl, hn, hbw, hgw⟩ := hrel
          have HN := Lib.hid hn
          have c1 : wr.cell? ⟨w.heap.size, 1, none⟩ = some (.slice a len cap) := cell_of_row wr _ 1 _ _ _ hgw
          have HBW := Lib.hid hbw
          have HGW := Lib.hid hgw
          have hlw : w.heap.size < wr.heap.size := (Array.getElem?_eq_some_iff.1 hgw).1
          clear hn hbw hgw HB G
          by_cases hlt : k < len
          · obtain ⟨b, o, rfl, hb, hrl⟩ := HR.out.next HBW.out k hlt
            have hlti : (k : Int) < len := by omega
            obtain ⟨r, hrk⟩ : ∃ r, r = R k := ⟨_, rfl⟩
            rw [← hrk] at hrl
            have HK := Lib.hid hrk
            clear hrk
            obtain ⟨f, l, m1, w1, n1, t1, m2, w2, n2, t2, x⟩ := r
            obtain ⟨r0, r1, r2, r3, r4, r5, r6, r7, r8, r9, r10⟩ := hrl
            simp only [] at r0 r1 r2 r3 r4 r5 r6 r7 r8 r9 r10
            have hbx := HBW.out.alloc HBW.out.size (.cells #[.int .i64 f, .int .i64 l, .int .i64 m1, .int .i64 w1, .int .i64 n1, .int .i64 t1, .int .i64 m2, .int .i64 w2, .int .i64 n2, .int .i64 t2, .int .i64 x] 88)
            have hgx := heap_old HGW.out (.cells #[.int .i64 f, .int .i64 l, .int .i64 m1, .int .i64 w1, .int .i64 n1, .int .i64 t1, .int .i64 m2, .int .i64 w2, .int .i64 n2, .int .i64 t2, .int .i64 x] 88)
            have hnx := heap_alloc_new wr (.cells #[.int .i64 f, .int .i64 l, .int .i64 m1, .int .i64 w1, .int .i64 n1, .int .i64 t1, .int .i64 m2, .int .i64 w2, .int .i64 n2, .int .i64 t2, .int .i64 x] 88)
            have HBX := Lib.hid hbx
            have HGX := Lib.hid hgx
            have HNX := Lib.hid hnx
            clear hbx hgx hnx
            have HC1 := Lib.hid (fun X => rchange_any m1 w1 n1 t1 X)
            have HC2 := Lib.hid (fun X => rchange_any m2 w2 n2 t2 X)
            have hno : ∀ q : ¬ RlIs ⟨f, l, m1, w1, n1, t1, m2, w2, n2, t2, x⟩, false = RV := fun q => by
              rw [HV.out]
              exact (decide_eq_false (fun z => q (by rw [HK.out]; exact z.2.2 k hlt))).symm
            have HNO := Lib.hid hno
            clear hno
            by_cases d1 : 1970 ≤ f
            · skip
              by_cases d2 : l ≤ 9999
              · skip
                by_cases d3 : f ≤ l
                · skip
                  by_cases d4 : 1 ≤ x
                  · skip
                    by_cases d5 : x ≤ 7200
                    · skip
                      by_cases e1 : ChIs m1 w1 n1 t1
                      · have q1 := Lib.hid (show decide (ChIs m1 w1 n1 t1) = true from decide_eq_true e1)
                        by_cases e2 : ChIs m2 w2 n2 t2
                        · have q2 := Lib.hid (show decide (ChIs m2 w2 n2 t2) = true from decide_eq_true e2)
                          have HYES := Lib.hid (show RlIs ⟨f, l, m1, w1, n1, t1, m2, w2, n2, t2, x⟩ from ⟨⟨d1, d2, d3⟩, ⟨d4, d5⟩, e1, e2⟩)
                          clear e1 e2 HNO
                          go_wp2_with fail
                          refine (HC1.out _).mono ?_
                          rintro e w1' ⟨rfl, hB1⟩
                          rw [q1.out]
                          have hb1 := HBX.out.trans (hB1.mono HBX.out.size)
                          have hg1 := (hB1.block w.heap.size (Array.getElem?_eq_some_iff.1 HGX.out).1).trans HGX.out
                          have hn1 := (hB1.block wr.heap.size (Array.getElem?_eq_some_iff.1 HNX.out).1).trans HNX.out
                          have s6 : w1'.cell? ⟨wr.heap.size, 6, none⟩ = some (.int .i64 m2) := cell_of_row _ _ 6 _ _ _ hn1
                          have s7 : w1'.cell? ⟨wr.heap.size, 7, none⟩ = some (.int .i64 w2) := cell_of_row _ _ 7 _ _ _ hn1
                          have s8 : w1'.cell? ⟨wr.heap.size, 8, none⟩ = some (.int .i64 n2) := cell_of_row _ _ 8 _ _ _ hn1
                          have s9 : w1'.cell? ⟨wr.heap.size, 9, none⟩ = some (.int .i64 t2) := cell_of_row _ _ 9 _ _ _ hn1
                          have HB1 := Lib.hid hb1
                          have HG1 := Lib.hid hg1
                          clear hB1 hb1 hg1 hn1 HBX HGX HNX
                          go_wp2_with fail
                          refine (HC2.out _).mono ?_
                          rintro e w2' ⟨rfl, hB2⟩
                          rw [q2.out]
                          have hb2 := HB1.out.trans (hB2.mono HB1.out.size)
                          have hg2 := (hB2.block w.heap.size (Array.getElem?_eq_some_iff.1 HG1.out).1).trans HG1.out
                          have HB2 := Lib.hid hb2
                          have HG2 := Lib.hid hg2
                          clear hB2 hb2 hg2 s6 s7 s8 s9
                          go_wp2
                          go_roundw
                          case rel => exact ⟨k + 1, by omega, by simp, fun j hj => by
                              by_cases hjk : j = k
                              · subst hjk; rw [← HK.out]; exact HYES.out
                              · exact HN.out j (by omega), HB2.out, HG2.out⟩
                          case measure => simp [intOf]; omega
                        · have q2 := Lib.hid (show decide (ChIs m2 w2 n2 t2) = false from decide_eq_false e2)
                          have HF := Lib.hid (HNO.out (fun z => e2 z.2.2.2))
                          clear e1 e2 HNO
                          go_wp2_with fail
                          refine (HC1.out _).mono ?_
                          rintro e w1' ⟨rfl, hB1⟩
                          rw [q1.out]
                          have hb1 := HBX.out.trans (hB1.mono HBX.out.size)
                          have hg1 := (hB1.block w.heap.size (Array.getElem?_eq_some_iff.1 HGX.out).1).trans HGX.out
                          have hn1 := (hB1.block wr.heap.size (Array.getElem?_eq_some_iff.1 HNX.out).1).trans HNX.out
                          have s6 : w1'.cell? ⟨wr.heap.size, 6, none⟩ = some (.int .i64 m2) := cell_of_row _ _ 6 _ _ _ hn1
                          have s7 : w1'.cell? ⟨wr.heap.size, 7, none⟩ = some (.int .i64 w2) := cell_of_row _ _ 7 _ _ _ hn1
                          have s8 : w1'.cell? ⟨wr.heap.size, 8, none⟩ = some (.int .i64 n2) := cell_of_row _ _ 8 _ _ _ hn1
                          have s9 : w1'.cell? ⟨wr.heap.size, 9, none⟩ = some (.int .i64 t2) := cell_of_row _ _ 9 _ _ _ hn1
                          have HB1 := Lib.hid hb1
                          have HG1 := Lib.hid hg1
                          clear hB1 hb1 hg1 hn1 HBX HGX HNX
                          go_wp2_with fail
                          refine (HC2.out _).mono ?_
                          rintro e w2' ⟨rfl, hB2⟩
                          rw [q2.out]
                          have hb2 := HB1.out.trans (hB2.mono HB1.out.size)
                          have hg2 := (hB2.block w.heap.size (Array.getElem?_eq_some_iff.1 HG1.out).1).trans HG1.out
                          have HB2 := Lib.hid hb2
                          have HG2 := Lib.hid hg2
                          clear hB2 hb2 hg2 s6 s7 s8 s9
                          go_wp2
                          go_ret
                          rw [← HF.out]
                          exact ⟨rfl, HB2.out⟩
                      · have q1 := Lib.hid (show decide (ChIs m1 w1 n1 t1) = false from decide_eq_false e1)
                        have HF := Lib.hid (HNO.out (fun z => e1 z.2.2.1))
                        clear e1 HNO
                        go_wp2_with fail
                        refine (HC1.out _).mono ?_
                        rintro e w1' ⟨rfl, hB1⟩
                        rw [q1.out]
                        have hb1 := HBX.out.trans (hB1.mono HBX.out.size)
                        have HB1 := Lib.hid hb1
                        clear hB1 hb1
                        go_wp2
                        go_ret
                        rw [← HF.out]
                        exact ⟨rfl, HB1.out⟩
                    · have HF := Lib.hid (HNO.out (fun z => d5 z.2.1.2))
                      clear HNO
                      go_wp2
                      go_ret
                      rw [← HF.out]
                      exact ⟨rfl, HBX.out⟩
                  · have HF := Lib.hid (HNO.out (fun z => d4 z.2.1.1))
                    clear HNO
                    go_wp2
                    go_ret
                    rw [← HF.out]
                    exact ⟨rfl, HBX.out⟩
                · have HF := Lib.hid (HNO.out (fun z => d3 z.1.2.2))
                  clear HNO
                  go_wp2
                  go_ret
                  rw [← HF.out]
                  exact ⟨rfl, HBX.out⟩
              · have HF := Lib.hid (HNO.out (fun z => d2 z.1.2.1))
                clear HNO
                go_wp2
                go_ret
                rw [← HF.out]
                exact ⟨rfl, HBX.out⟩
            · have HF := Lib.hid (HNO.out (fun z => d1 z.1.1))
              clear HNO
              go_wp2
              go_ret
              rw [← HF.out]
              exact ⟨rfl, HBX.out⟩
          · obtain rfl : k = len := by omega
            go_wp2
            go_ret
            rw [HV.out, decide_eq_true (show ZoneIs off R k from ⟨⟨HC.out.1, HC.out.2.1⟩, HC.out.2.2, HN.out⟩)]
            exact ⟨rfl, HBW.out⟩
      · have c2i : 20 < (len : Int) := by omega
        have HF := Lib.hid (show false = RV by rw [HV.out]; exact (decide_eq_false (fun z => c2 z.2.1)).symm)
        clear c2
        go_enter Tryz.func21, Tryz.ntmps21
        go_wp2
        go_ret
        rw [← HF.out]
        exact ⟨rfl, HB.out⟩
    · have HF := Lib.hid (show false = RV by rw [HV.out]; exact (decide_eq_false (fun z => c1 z.1.2)).symm)
      go_enter Tryz.func21, Tryz.ntmps21
      go_wp2
      go_ret
      rw [← HF.out]
      exact ⟨rfl, HB.out⟩
  · have HF := Lib.hid (show false = RV by rw [HV.out]; exact (decide_eq_false (fun z => c0 z.1.1)).symm)
    go_enter Tryz.func21, Tryz.ntmps21
    go_wp2
    go_ret
    rw [← HF.out]
    exact ⟨rfl, HB.out⟩
end Go.Proofs.YtbffmobjiiicoaaGreatDoor
end
section
/- Contracts of the document's functions on zones: Edges. -/
set_option linter.unusedVariables false
set_option linter.unusedSimpArgs false
namespace Go.Proofs.YtbffmobjiiicoaaGreatDoor
open Go.RowKit Go.Shelf
def onOf (r : Rl) (y : Int) : Int := atV y r.m1 r.w1 r.n1 r.t1
def offOf (r : Rl) (y : Int) : Int := atV y r.m2 r.w2 r.n2 r.t2
theorem rl_year {r : Rl} {y : Int} (h : RlIs r) (hy : r.of y) : 1970 ≤ y ∧ y ≤ 9999 := by
  obtain ⟨⟨h1, h2, h3⟩, _⟩ := h
  obtain ⟨h4, h5⟩ := hy
  omega
set_option maxRecDepth 100000 in
set_option maxHeartbeats 4000000 in
theorem redges_yes (off : Int) (a : Option Addr) (len cap : Nat) (R : Nat → Rl) (y : Int) (w : World) (hl : len ≤ 1000) (hR : RulesAt w.heap.size w a len R) (k : Nat) (hk : k < len) (hi : ruleI R len y = k) (hz : RlIs (R k)) (hy : (R k).of y) :
    Calls Tryz.prog 64 #[zoneV off a len cap, .int .i64 y] w fun e w' => e = .returned (.tuple #[.int .i64 (onOf (R k) y), .int .i64 (offOf (R k) y), .bool true]) ∧ Below w.heap.size w w' := by
  have hyy := rl_year hz hy
  have hb0 := (Below.refl _ w).alloc (Nat.le_refl _) (.cells #[.int .i64 off, .slice a len cap] 24)
  have hr := heap_alloc_new w (.cells #[.int .i64 off, .slice a len cap] 24)
  have hRn := (hR.next hb0).mono hb0.size
  have H1 := Lib.hid (rrule_any off a len cap R y _ hl hRn)
  rw [hi] at H1
  obtain ⟨b, o, rfl, hb, hrl⟩ := hR k hk
  have HRL := Lib.hid hrl
  obtain ⟨r, hrk⟩ : ∃ r, r = R k := ⟨_, rfl⟩
  rw [← hrk] at HRL hz ⊢
  have H2 := Lib.hid (fun X => rat_any y r.m1 r.w1 r.n1 r.t1 hyy hz.2.2.1 X)
  have H3 := Lib.hid (fun X => rat_any y r.m2 r.w2 r.n2 r.t2 hyy hz.2.2.2 X)
  rw [show atV y r.m1 r.w1 r.n1 r.t1 = onOf r y from rfl] at H2
  rw [show atV y r.m2 r.w2 r.n2 r.t2 = offOf r y from rfl] at H3
  obtain ⟨V1, hV1⟩ : ∃ v, v = onOf r y := ⟨_, rfl⟩
  obtain ⟨V2, hV2⟩ : ∃ v, v = offOf r y := ⟨_, rfl⟩
  rw [← hV1] at H2 ⊢
  rw [← hV2] at H3 ⊢
  clear hV1 hV2 hz hy hi hrk hl hRn hrl hR hyy
  obtain ⟨f, l, m1, w1, n1, t1, m2, w2, n2, t2, x⟩ := r
  simp only [] at H2 H3
  have HB0 := Lib.hid hb0
  have G0 := Lib.hid hr
  have hki : (k : Int) < len := by omega
  have hk0 : decide ((k : Int) < 0) = false := decide_eq_false (by omega)
  clear hb0 hr
  go_enter Tryz.func64, Tryz.ntmps64
  go_wp2_with fail
  refine H1.out.mono ?_
  rintro e w1' ⟨rfl, hB1⟩
  have hb1 := HB0.out.trans (hB1.mono HB0.out.size)
  have hg1 := (hB1.block w.heap.size (Array.getElem?_eq_some_iff.1 G0.out).1).trans G0.out
  have hl1 : w.heap.size < w1'.drew.heap.size := (Array.getElem?_eq_some_iff.1 hg1).1
  have HB1 := Lib.hid hb1.drew
  have G1 := Lib.hid hg1
  have c1 : w1'.cell? ⟨w.heap.size, 1, none⟩ = some (.slice (some ⟨b, o, none⟩) len cap) := cell_of_row w1' _ 1 _ _ _ hg1
  have hrl1 := HRL.out.below hb hb1
  obtain ⟨r0, r1, r2, r3, r4, r5, r6, r7, r8, r9, r10⟩ := hrl1
  simp only [] at r2 r3 r4 r5 r6 r7 r8 r9
  clear hB1 hb1 hg1 HB0 G0 H1 r0 r1 r10
  go_wp2_with fail
  go_region_held3 (fun w' => w'.cell? ⟨w.heap.size, 1, none⟩ = some (.slice (some ⟨b, o, none⟩) len cap) ∧ w'.cell? ⟨b, o + k * 11 + 2, none⟩ = some (.int .i64 m1) ∧ w'.cell? ⟨b, o + k * 11 + 3, none⟩ = some (.int .i64 w1) ∧ w'.cell? ⟨b, o + k * 11 + 4, none⟩ = some (.int .i64 n1) ∧ w'.cell? ⟨b, o + k * 11 + 5, none⟩ = some (.int .i64 t1) ∧ w'.cell? ⟨b, o + k * 11 + 6, none⟩ = some (.int .i64 m2) ∧ w'.cell? ⟨b, o + k * 11 + 7, none⟩ = some (.int .i64 w2) ∧ w'.cell? ⟨b, o + k * 11 + 8, none⟩ = some (.int .i64 n2) ∧ w'.cell? ⟨b, o + k * 11 + 9, none⟩ = some (.int .i64 t2))
    (first | exact ⟨c1, r2, r3, r4, r5, r6, r7, r8, r9⟩ | exact (show _ ∧ _ from ⟨cell_of_row w3' _ 1 _ _ _ g3, (HRL.out.below hb b3).2.2.1, (HRL.out.below hb b3).2.2.2.1, (HRL.out.below hb b3).2.2.2.2.1, (HRL.out.below hb b3).2.2.2.2.2.1, (HRL.out.below hb b3).2.2.2.2.2.2.1, (HRL.out.below hb b3).2.2.2.2.2.2.2.1, (HRL.out.below hb b3).2.2.2.2.2.2.2.2.1, (HRL.out.below hb b3).2.2.2.2.2.2.2.2.2.1⟩) | exact (show _ ∧ _ from ⟨cell_of_row w2' _ 1 _ _ _ g2, (HRL.out.below hb b2).2.2.1, (HRL.out.below hb b2).2.2.2.1, (HRL.out.below hb b2).2.2.2.2.1, (HRL.out.below hb b2).2.2.2.2.2.1, (HRL.out.below hb b2).2.2.2.2.2.2.1, (HRL.out.below hb b2).2.2.2.2.2.2.2.1, (HRL.out.below hb b2).2.2.2.2.2.2.2.2.1, (HRL.out.below hb b2).2.2.2.2.2.2.2.2.2.1⟩) | go_keep)
    (first
      | (go_at_call 85; ((with_reducible refine (H2.out _).mono ?_); rintro e w2' ⟨rfl, hB2⟩; have b2 := HB1.out.trans (hB2.mono HB1.out.size); have g2 := (hB2.block w.heap.size hl1).trans G1.out; have hl2 := (Array.getElem?_eq_some_iff.1 g2).1; clear hB2))
      | (go_at_call 85; ((with_reducible refine (H3.out w2').mono ?_); rintro e w3' ⟨rfl, hB3⟩; have b3 := b2.trans (hB3.mono b2.size); have g3 := (hB3.block w.heap.size hl2).trans g2; clear hB3)))
  go_wp2
  go_ret3
  exact ⟨rfl, b3⟩
set_option maxHeartbeats 2000000 in
theorem redges_no (off : Int) (a : Option Addr) (len cap : Nat) (R : Nat → Rl) (y : Int) (w : World) (hl : len ≤ 1000) (hR : RulesAt w.heap.size w a len R) (hi : ruleI R len y = -1) :
    Calls Tryz.prog 64 #[zoneV off a len cap, .int .i64 y] w fun e w' => e = .returned (.tuple #[.int .i64 0, .int .i64 0, .bool false]) ∧ Below w.heap.size w w' := by
  have hb0 := (Below.refl _ w).alloc (Nat.le_refl _) (.cells #[.int .i64 off, .slice a len cap] 24)
  have H1 := Lib.hid (rrule_any off a len cap R y _ hl ((hR.next hb0).mono hb0.size))
  rw [hi] at H1
  have HB0 := Lib.hid hb0
  clear hb0 hR hi hl
  go_enter Tryz.func64, Tryz.ntmps64
  go_wp2_with fail
  refine H1.out.mono ?_
  rintro e w1' ⟨rfl, hB1⟩
  go_wp2
  go_ret3
  exact ⟨rfl, HB0.out.trans (hB1.mono HB0.out.size)⟩
end Go.Proofs.YtbffmobjiiicoaaGreatDoor
end
section
/- Contracts of the document's functions on zones: Offset. -/
set_option linter.unusedVariables false
set_option linter.unusedSimpArgs false
namespace Go.Proofs.YtbffmobjiiicoaaGreatDoor
open Go.RowKit Go.Shelf
/-- Is it summer at standard time s, by changes at V1 and V2? -/
def sumP (V1 V2 s : Int) : Prop := (V1 < V2 ∧ V1 ≤ s ∧ s < V2) ∨ (V2 < V1 ∧ (s < V2 ∨ V1 ≤ s))
instance (V1 V2 s : Int) : Decidable (sumP V1 V2 s) := by unfold sumP; infer_instance
set_option maxRecDepth 100000 in
set_option maxHeartbeats 4000000 in
theorem roffset_walk (off t : Int) (a : Option Addr) (len cap : Nat) (R : Nat → Rl) (w : World) (hl : len ≤ 1000) (hR : RulesAt w.heap.size w a len R) (hz : ZoneIs off R len) (h0 : -100000 ≤ t) (h1 : t ≤ 253402400800) (s : Int) (hs : s = t + off) (s0 : 0 ≤ s) (s1 : s < 253402300800)
    (y mo d : Int) (hd : IsDate (s / 86400) y mo d) (V1 V2 : Int) (hasB SB : Bool) (N : Int)
    (HE : ∀ X, RulesAt X.heap.size X a len R → Calls Tryz.prog 64 #[zoneV off a len cap, .int .i64 y] X fun e w' => e = .returned (.tuple #[.int .i64 V1, .int .i64 V2, .bool hasB]) ∧ Below X.heap.size X w')
    (hSB : SB = (hasB && decide (sumP V1 V2 s)))
    (FS : (SB = true ∧ ∃ (k b o : Nat) (r : Rl), k < len ∧ ruleI R len y = k ∧ a = some ⟨b, o, none⟩ ∧ b < w.heap.size ∧ RlAt w b (o + k * 11) r ∧ N = off + r.x ∧ 1 ≤ r.x ∧ r.x ≤ 7200) ∨ (SB = false ∧ N = off)) :
    Calls Tryz.prog 32 #[zoneV off a len cap, .int .i64 t] w fun e w' => e = .returned (if 253402300800 ≤ t + N then .tuple #[.int .i64 0, .int .i64 60] else .tuple #[.int .i64 N, .int .i64 0]) ∧ Below w.heap.size w w' := by
  have hb0 := (Below.refl _ w).alloc (Nat.le_refl _) (.cells #[.int .i64 off, .slice a len cap] 24)
  have hr := heap_alloc_new w (.cells #[.int .i64 off, .slice a len cap] 24)
  have HRW := Lib.hid (show ∀ X, Below w.heap.size w X → RulesAt X.heap.size X a len R from fun X hX => (hR.next hX).mono hX.size)
  have HM := Lib.hid (show ∀ X, RulesAt X.heap.size X a len R → Calls Tryz.prog 21 #[zoneV off a len cap] X fun e w' => e = .returned (.bool true) ∧ Below X.heap.size X w' from fun X hX => by
    have := rmayZ_any off a len cap R X hl hX
    rw [decide_eq_true hz] at this
    exact this)
  have HRU := Lib.hid (show ∀ X, RulesAt X.heap.size X a len R → Calls Tryz.prog 65 #[zoneV off a len cap, .int .i64 y] X fun e w' => e = .returned (.int .i64 (ruleI R len y)) ∧ Below X.heap.size X w' from fun X hX => rrule_any off a len cap R y X hl hX)
  have HO := Lib.hid (fun X => rof_is (s / 86400) y mo d hd X)
  have HHE := Lib.hid HE
  have HSB := Lib.hid hSB
  have HFS := Lib.hid FS
  have HB0 := Lib.hid hb0
  have G0 := Lib.hid hr
  have o0 := hz.1.1
  have o1 := hz.1.2
  have hN : -50400 ≤ N ∧ N ≤ 57600 := by
    rcases FS with ⟨_, k, b, o, r, _, _, _, _, _, h, h2, h3⟩ | ⟨_, h⟩ <;> omega
  have q0 : s.tdiv 86400 = s / 86400 := Int.tdiv_eq_ediv_of_nonneg s0
  have HS := Lib.hid hs
  have hse : t + off = s := hs.symm
  have HSS := Lib.hid (And.intro s0 s1)
  obtain ⟨RV, hrv⟩ : ∃ RV, RV = (if 253402300800 ≤ t + N then Value.tuple #[.int .i64 0, .int .i64 60] else .tuple #[.int .i64 N, .int .i64 0]) := ⟨_, rfl⟩
  rw [← hrv]
  have HRV := Lib.hid hrv
  clear hb0 hr hR hz hl hd HE hSB FS hs hrv
  go_enter Tryz.func32, Tryz.ntmps32
  go_wp2_with fail
  refine (HM.out _ (HRW.out _ HB0.out)).mono ?_
  rintro e W1 ⟨rfl, hB⟩
  have hb1 := HB0.out.trans (hB.mono HB0.out.size)
  have g1 := (hB.block w.heap.size (Array.getElem?_eq_some_iff.1 G0.out).1).trans G0.out
  have HB1 := Lib.hid hb1
  have G1 := Lib.hid g1
  have c0 : W1.cell? ⟨w.heap.size, 0, none⟩ = some (.int .i64 off) := cell_of_row W1 _ 0 _ _ _ g1
  have c1 : W1.cell? ⟨w.heap.size, 1, none⟩ = some (.slice a len cap) := cell_of_row W1 _ 1 _ _ _ g1
  clear hB hb1 g1 HB0 G0
  go_wp2_with (first | (go_at_call 63; refine (HO.out _).mono ?_; rintro e w' ⟨rfl, rfl⟩) | fail)
  refine (HHE.out _ (HRW.out _ HB1.out)).mono ?_
  rintro e W2 ⟨rfl, hB⟩
  have hb2 := HB1.out.trans (hB.mono HB1.out.size)
  have g2 := (hB.block w.heap.size (Array.getElem?_eq_some_iff.1 G1.out).1).trans G1.out
  have HB2 := Lib.hid hb2
  have G2 := Lib.hid g2
  clear hB hb2 c0 c1 HB1 G1
  have c0 : W2.cell? ⟨w.heap.size, 0, none⟩ = some (.int .i64 off) := cell_of_row W2 _ 0 _ _ _ g2
  have c1 : W2.cell? ⟨w.heap.size, 1, none⟩ = some (.slice a len cap) := cell_of_row W2 _ 1 _ _ _ g2
  clear g2
  go_upto_region 11 with fail
  go_cut [15] from 52 to 82 (fun c wx => c = .bool SB ∧ wx = W2)
  case first =>
    have hSB := HSB.out
    have e : decide (sumP V1 V2 s) = ((decide (V1 < V2) && (decide (V1 ≤ s) && decide (s < V2))) || (decide (V2 < V1) && (decide (s < V2) || decide (V1 ≤ s)))) := by
      rw [Bool.eq_iff_iff, decide_eq_true_iff]; simp [sumP]
    rw [e] at hSB
    clear e HRV HM HRU HO HHE HFS HRW HB2 G2 hN
    cases hasB
    · simp only [Bool.false_and] at hSB
      subst hSB
      go_wp2_with fail
      go_meet
      exact ⟨rfl, rfl⟩
    · simp only [Bool.true_and] at hSB
      by_cases b1 : V1 < V2
      · have b2 : ¬ V2 < V1 := by omega
        have g1 := decide_eq_true b1
        have g2 := decide_eq_false b2
        rcases Int.lt_or_le s V1 with b3 | b3
        · have g3 : decide (V1 ≤ s) = false := decide_eq_false (by omega)
          simp only [g1, g2, g3, Bool.true_and, Bool.false_and, Bool.or_false, Bool.and_false] at hSB
          subst hSB
          go_wp2_with fail
          go_meet
          exact ⟨rfl, rfl⟩
        · have g3 : decide (V1 ≤ s) = true := decide_eq_true b3
          rcases Int.lt_or_le s V2 with b4 | b4
          · have g4 : decide (s < V2) = true := decide_eq_true b4
            simp only [g1, g2, g3, g4, Bool.true_and, Bool.false_and, Bool.or_false, Bool.and_false] at hSB
            subst hSB
            go_wp2_with fail
            go_meet
            exact ⟨rfl, rfl⟩
          · have g4 : decide (s < V2) = false := decide_eq_false (by omega)
            simp only [g1, g2, g3, g4, Bool.true_and, Bool.false_and, Bool.or_false, Bool.and_false] at hSB
            subst hSB
            go_wp2_with fail
            go_meet
            exact ⟨rfl, rfl⟩
      · have g1 := decide_eq_false b1
        by_cases b2 : V2 < V1
        · have g2 := decide_eq_true b2
          rcases Int.lt_or_le s V2 with b4 | b4
          · have g4 : decide (s < V2) = true := decide_eq_true b4
            simp only [g1, g2, g4, Bool.true_and, Bool.false_and, Bool.false_or, Bool.true_or] at hSB
            subst hSB
            go_wp2_with fail
            go_meet
            exact ⟨rfl, rfl⟩
          · have g4 : decide (s < V2) = false := decide_eq_false (by omega)
            rcases Int.lt_or_le s V1 with b3 | b3
            · have g3 : decide (V1 ≤ s) = false := decide_eq_false (by omega)
              simp only [g1, g2, g3, g4, Bool.true_and, Bool.false_and, Bool.false_or] at hSB
              subst hSB
              go_wp2_with fail
              go_meet
              exact ⟨rfl, rfl⟩
            · have g3 : decide (V1 ≤ s) = true := decide_eq_true b3
              simp only [g1, g2, g3, g4, Bool.true_and, Bool.false_and, Bool.false_or] at hSB
              subst hSB
              go_wp2_with fail
              go_meet
              exact ⟨rfl, rfl⟩
        · have g2 := decide_eq_false b2
          simp only [g1, g2, Bool.false_and, Bool.or_false] at hSB
          subst hSB
          go_wp2_with fail
          go_meet
          exact ⟨rfl, rfl⟩
  obtain ⟨rfl, hwx⟩ := hcut
  subst wc
  go_upto_if 85 with fail
  go_cut [16] from 86 to 95 (fun c wx => c = .int .i64 N ∧ Below w.heap.size w wx)
  case first =>
    rcases HFS.out with ⟨rfl, k, b, o, r, hk, hi, rfl, hb, hrl, rfl, x1, x2⟩ | ⟨rfl, rfl⟩
    · have HRL := Lib.hid hrl
      have hki : (k : Int) < len := by omega
      have hrl2 := hrl.below hb HB2.out
      have r10 := hrl2.2.2.2.2.2.2.2.2.2.2
      obtain ⟨x, hx⟩ : ∃ x, x = r.x := ⟨_, rfl⟩
      rw [← hx] at x1 x2 r10
      have HRC := Lib.hid (HRU.out _ (HRW.out _ HB2.out.drew))
      rw [hi] at HRC
      have HX := Lib.hid hx
      have HWR := Lib.hid (show IntKind.i64.wrap (off + x) = off + x from by simp only [IntKind.wrap_i64, wrap64]; omega)
      have hl1 : w.heap.size < W2.drew.heap.size := (Array.getElem?_eq_some_iff.1 G2.out).1
      have hbd := HB2.out.drew
      clear hi hk hrl hrl2 hx HRV HM HRU HO HHE HFS HRW HSB hN
      go_wp2_with fail
      go_region_held3 (fun w' => w'.cell? ⟨w.heap.size, 0, none⟩ = some (.int .i64 off) ∧ w'.cell? ⟨w.heap.size, 1, none⟩ = some (.slice (some ⟨b, o, none⟩) len cap) ∧ w'.cell? ⟨b, o + k * 11 + 10, none⟩ = some (.int .i64 x))
        (first | exact ⟨c0, c1, r10⟩ | exact (show _ ∧ _ from ⟨cell_of_row w2' _ 0 _ _ _ q2, cell_of_row w2' _ 1 _ _ _ q2, by have := (HRL.out.below hb b2).2.2.2.2.2.2.2.2.2.2; rw [← HX.out] at this; exact this⟩) | go_keep)
        (first
          | (go_at_call 65; ((with_reducible refine HRC.out.mono ?_); rintro e w2' ⟨rfl, hB2⟩; have q2 := (hB2.block w.heap.size hl1).trans G2.out; have b2 := hbd.trans (hB2.mono hbd.size); clear hB2)))
      go_wp2_with fail
      go_meet
      exact ⟨by rw [← HX.out, HWR.out], b2⟩
    · go_wp2_with fail
      go_meet
      exact ⟨rfl, HB2.out⟩
  obtain ⟨rfl, hbx⟩ := hcut
  by_cases he : 253402300800 ≤ t + N
  · go_wp2
    go_ret2
    rw [HRV.out, if_pos he]
    exact ⟨rfl, hbx⟩
  · go_wp2
    go_ret2
    rw [HRV.out, if_neg (by omega)]
    exact ⟨rfl, hbx⟩
def nOf (off : Int) (R : Nat → Rl) (len : Nat) (y s : Int) : Int := match (List.range len).find? (fun i => decide ((R i).of y)) with
  | some i => if sumP (onOf (R i) y) (offOf (R i) y) s then off + (R i).x else off
  | none => off
theorem nOf_some {off : Int} {R : Nat → Rl} {len : Nat} {y s : Int} {k : Nat} (hi : ruleI R len y = k) : nOf off R len y s = if sumP (onOf (R k) y) (offOf (R k) y) s then off + (R k).x else off := by
  unfold ruleI at hi
  unfold nOf
  split at hi
  · rename_i i h
    try rw [h]
    have : i = k := by omega
    subst this
    rfl
  · omega
theorem nOf_none {off : Int} {R : Nat → Rl} {len : Nat} {y s : Int} (hi : ruleI R len y = -1) : nOf off R len y s = off := by
  unfold ruleI at hi
  unfold nOf
  split at hi
  · omega
  · rename_i h; first | rw [ h] | rfl
theorem roffset_in (off t : Int) (a : Option Addr) (len cap : Nat) (R : Nat → Rl) (w : World) (hR : RulesAt w.heap.size w a len R) (hz : ZoneIs off R len) (h0 : -100000 ≤ t) (h1 : t ≤ 253402400800) (s0 : 0 ≤ t + off) (s1 : t + off < 253402300800)
    (y mo d : Int) (hd : IsDate ((t + off) / 86400) y mo d) :
    Calls Tryz.prog 32 #[zoneV off a len cap, .int .i64 t] w fun e w' => e = .returned (if 253402300800 ≤ t + nOf off R len y (t + off) then .tuple #[.int .i64 0, .int .i64 60] else .tuple #[.int .i64 (nOf off R len y (t + off)), .int .i64 0]) ∧ Below w.heap.size w w' := by
  have hl : len ≤ 1000 := by have := hz.2.1; omega
  rcases rule_cases R len y with ⟨k, hk, hi, hy⟩ | hi
  · have hrz := hz.2.2 k hk
    obtain ⟨b, o, ha, hb, hrl⟩ := hR k hk
    refine roffset_walk off t a len cap R w hl hR hz h0 h1 (t + off) rfl s0 s1 y mo d hd (onOf (R k) y) (offOf (R k) y) true (decide (sumP (onOf (R k) y) (offOf (R k) y) (t + off))) _
      (fun X hX => redges_yes off a len cap R y X hl hX k hk hi hrz hy) (by simp) ?_
    rw [nOf_some hi]
    by_cases hs : sumP (onOf (R k) y) (offOf (R k) y) (t + off)
    · rw [if_pos hs, decide_eq_true hs]
      exact .inl ⟨rfl, k, b, o, R k, hk, hi, ha, hb, hrl, rfl, hrz.2.1.1, hrz.2.1.2⟩
    · rw [if_neg hs, decide_eq_false hs]
      exact .inr ⟨rfl, rfl⟩
  · rw [nOf_none hi]
    exact roffset_walk off t a len cap R w hl hR hz h0 h1 (t + off) rfl s0 s1 y mo d hd 0 0 false false off (fun X hX => redges_no off a len cap R y X hl hX hi) (by simp) (.inr ⟨rfl, rfl⟩)
end Go.Proofs.YtbffmobjiiicoaaGreatDoor
end
section
/- Contracts of the document's functions on zones: what Offset refuses; Offset of anything. -/
set_option linter.unusedVariables false
set_option linter.unusedSimpArgs false
namespace Go.Proofs.YtbffmobjiiicoaaGreatDoor
open Go.RowKit Go.Shelf
theorem roffset_bad (off t : Int) (a : Option Addr) (len cap : Nat) (R : Nat → Rl) (w : World) (hl : len ≤ 1000) (hR : RulesAt w.heap.size w a len R) (hz : ¬ ZoneIs off R len) :
    Calls Tryz.prog 32 #[zoneV off a len cap, .int .i64 t] w fun e w' => e = .returned (.tuple #[.int .i64 0, .int .i64 70]) ∧ Below w.heap.size w w' := by
  have hb0 := (Below.refl _ w).alloc (Nat.le_refl _) (.cells #[.int .i64 off, .slice a len cap] 24)
  have HM := Lib.hid (rmayZ_any off a len cap R _ hl ((hR.next hb0).mono hb0.size))
  rw [decide_eq_false hz] at HM
  have HB0 := Lib.hid hb0
  clear hb0 hz hR hl
  go_enter Tryz.func32, Tryz.ntmps32
  go_wp2_with fail
  refine HM.out.mono ?_
  rintro e W1 ⟨rfl, hB⟩
  go_wp2
  go_ret2
  exact ⟨rfl, HB0.out.trans (hB.mono HB0.out.size)⟩
set_option maxHeartbeats 1000000 in
theorem roffset_far (off t : Int) (a : Option Addr) (len cap : Nat) (R : Nat → Rl) (w : World) (hR : RulesAt w.heap.size w a len R) (hz : ZoneIs off R len) (ht : ¬ (-100000 ≤ t ∧ t ≤ 253402400800)) :
    Calls Tryz.prog 32 #[zoneV off a len cap, .int .i64 t] w fun e w' => e = .returned (.tuple #[.int .i64 0, .int .i64 60]) ∧ Below w.heap.size w w' := by
  have hb0 := (Below.refl _ w).alloc (Nat.le_refl _) (.cells #[.int .i64 off, .slice a len cap] 24)
  have HM := Lib.hid (rmayZ_any off a len cap R _ (by have := hz.2.1; omega) ((hR.next hb0).mono hb0.size))
  rw [decide_eq_true hz] at HM
  have HB0 := Lib.hid hb0
  clear hb0 hz hR
  have hcase : t < -100000 ∨ (-100000 ≤ t ∧ 253402400800 < t) := by omega
  clear ht
  rcases hcase with h1 | ⟨h1, h2⟩
  all_goals
    go_enter Tryz.func32, Tryz.ntmps32
    go_wp2_with fail
    refine HM.out.mono ?_
    rintro e W1 ⟨rfl, hB⟩
    go_wp2
    go_ret2
    exact ⟨rfl, HB0.out.trans (hB.mono HB0.out.size)⟩
set_option maxHeartbeats 1000000 in
theorem roffset_out (off t : Int) (a : Option Addr) (len cap : Nat) (R : Nat → Rl) (w : World) (hR : RulesAt w.heap.size w a len R) (hz : ZoneIs off R len) (h0 : -100000 ≤ t) (h1 : t ≤ 253402400800) (hs : ¬ (0 ≤ t + off ∧ t + off < 253402300800)) :
    Calls Tryz.prog 32 #[zoneV off a len cap, .int .i64 t] w fun e w' => e = .returned (.tuple #[.int .i64 0, .int .i64 60]) ∧ Below w.heap.size w w' := by
  have hb0 := (Below.refl _ w).alloc (Nat.le_refl _) (.cells #[.int .i64 off, .slice a len cap] 24)
  have hr := heap_alloc_new w (.cells #[.int .i64 off, .slice a len cap] 24)
  have HM := Lib.hid (rmayZ_any off a len cap R _ (by have := hz.2.1; omega) ((hR.next hb0).mono hb0.size))
  rw [decide_eq_true hz] at HM
  have HB0 := Lib.hid hb0
  have G0 := Lib.hid hr
  have o0 := hz.1.1
  have o1 := hz.1.2
  clear hb0 hr hz hR
  obtain ⟨s, hse⟩ : ∃ s, t + off = s := ⟨_, rfl⟩
  rw [hse] at hs
  have hcase : s < 0 ∨ (0 ≤ s ∧ 253402300800 ≤ s) := by omega
  clear hs
  rcases hcase with h2 | ⟨h2, h3⟩
  all_goals
    go_enter Tryz.func32, Tryz.ntmps32
    go_wp2_with fail
    refine HM.out.mono ?_
    rintro e W1 ⟨rfl, hB⟩
    have c0 : W1.cell? ⟨w.heap.size, 0, none⟩ = some (.int .i64 off) := cell_of_row W1 _ 0 _ _ _ ((hB.block w.heap.size (Array.getElem?_eq_some_iff.1 G0.out).1).trans G0.out)
    go_wp2
    go_ret2
    exact ⟨rfl, HB0.out.trans (hB.mono HB0.out.size)⟩
/-- The year of standard time s. -/
def yearI (s : Int) : Int := 1970 + (((List.range 8030).find? (fun k : Nat => decide (s / 86400 < ahead (1970 + (k : Int) + 1)))).getD 0 : Nat)
theorem yearI_is {s y mo d : Int} (h : IsDate (s / 86400) y mo d) : yearI s = y := by
  obtain ⟨h1, h2⟩ := in_year h.1
  rw [← h.2] at h1 h2
  have b1 := h.1.1
  have b2 := h.1.2.1
  unfold yearI
  have hf : (List.range 8030).find? (fun k : Nat => decide (s / 86400 < ahead (1970 + (k : Int) + 1))) = some (y - 1970).toNat := by
    refine List.find?_range_eq_some.2 ⟨?_, ?_, fun j hj => ?_⟩
    · rw [decide_eq_true_iff, show 1970 + ((y - 1970).toNat : Int) + 1 = y + 1 by omega]; exact h2
    · rw [List.mem_range]; omega
    · have := ahead_le (a := 1970 + (j : Int) + 1) (b := y) (by omega)
      simp; omega
  rw [hf]
  simp; omega
/-- Has t a standard and a local time? -/
def OffIs (off : Int) (R : Nat → Rl) (len : Nat) (t : Int) : Prop := (0 ≤ t + off ∧ t + off < 253402300800) ∧ t + nOf off R len (yearI (t + off)) (t + off) < 253402300800
theorem roffset_any (off t : Int) (a : Option Addr) (len cap : Nat) (R : Nat → Rl) (w : World) (hR : RulesAt w.heap.size w a len R) (hz : ZoneIs off R len) :
    (OffIs off R len t ∧ Calls Tryz.prog 32 #[zoneV off a len cap, .int .i64 t] w fun e w' => e = .returned (.tuple #[.int .i64 (nOf off R len (yearI (t + off)) (t + off)), .int .i64 0]) ∧ Below w.heap.size w w') ∨
    (¬ OffIs off R len t ∧ Calls Tryz.prog 32 #[zoneV off a len cap, .int .i64 t] w fun e w' => e = .returned (.tuple #[.int .i64 0, .int .i64 60]) ∧ Below w.heap.size w w') := by
  have o0 := hz.1.1
  have o1 := hz.1.2
  by_cases hs : 0 ≤ t + off ∧ t + off < 253402300800
  · obtain ⟨y, mo, d, hd⟩ := date_exists ((t + off) / 86400) (by omega) (by omega)
    have h := roffset_in off t a len cap R w hR hz (by omega) (by omega) hs.1 hs.2 y mo d hd
    unfold OffIs
    rw [yearI_is hd]
    by_cases he : 253402300800 ≤ t + nOf off R len y (t + off)
    · rw [if_pos he] at h
      exact .inr ⟨fun z => by have := z.2; omega, h⟩
    · rw [if_neg he] at h
      exact .inl ⟨⟨hs, by omega⟩, h⟩
  · refine .inr ⟨fun z => hs z.1, ?_⟩
    by_cases ht : -100000 ≤ t ∧ t ≤ 253402400800
    · exact roffset_out off t a len cap R w hR hz ht.1 ht.2 hs
    · exact roffset_far off t a len cap R w hR hz ht
end Go.Proofs.YtbffmobjiiicoaaGreatDoor
end
