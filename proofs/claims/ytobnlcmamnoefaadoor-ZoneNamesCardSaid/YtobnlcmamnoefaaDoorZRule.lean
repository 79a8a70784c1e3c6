/- Contracts of the document's functions on zones: Rule. -/
import Derived.Test.YtobnlcmamnoefaaDoorZChange
set_option linter.unusedVariables false
set_option linter.unusedSimpArgs false
namespace Go.Proofs.YtobnlcmamnoefaaDoor
open Go.RowKit Go.Shelf
structure Rl where (f l m1 w1 n1 t1 m2 w2 n2 t2 x : Int)
abbrev rlV (r : Rl) : Value := .agg #[.int .i64 r.f, .int .i64 r.l, .int .i64 r.m1, .int .i64 r.w1, .int .i64 r.n1, .int .i64 r.t1, .int .i64 r.m2, .int .i64 r.w2, .int .i64 r.n2, .int .i64 r.t2, .int .i64 r.x]
abbrev zoneV (off : Int) (a : Option Addr) (len cap : Nat) : Value := .agg #[.int .i64 off, .slice a len cap]
/-- The eleven cells of a rule. -/
def RlAt (W : World) (b o : Nat) (r : Rl) : Prop := W.cell? ⟨b, o, none⟩ = some (.int .i64 r.f) ∧ W.cell? ⟨b, o + 1, none⟩ = some (.int .i64 r.l) ∧ W.cell? ⟨b, o + 2, none⟩ = some (.int .i64 r.m1) ∧ W.cell? ⟨b, o + 3, none⟩ = some (.int .i64 r.w1) ∧ W.cell? ⟨b, o + 4, none⟩ = some (.int .i64 r.n1) ∧ W.cell? ⟨b, o + 5, none⟩ = some (.int .i64 r.t1) ∧
  W.cell? ⟨b, o + 6, none⟩ = some (.int .i64 r.m2) ∧ W.cell? ⟨b, o + 7, none⟩ = some (.int .i64 r.w2) ∧ W.cell? ⟨b, o + 8, none⟩ = some (.int .i64 r.n2) ∧ W.cell? ⟨b, o + 9, none⟩ = some (.int .i64 r.t2) ∧ W.cell? ⟨b, o + 10, none⟩ = some (.int .i64 r.x)
theorem RlAt.below {B : Nat} {W X : World} {b o : Nat} {r : Rl} (h : RlAt W b o r) (hb : b < B) (hB : Below B W X) : RlAt X b o r := by
  have e := fun k => hB.cell (p := ⟨b, k, none⟩) hb
  unfold RlAt at *
  simp only [e]
  exact h
/-- The rules of a zone, in a block below B. -/
def RulesAt (B : Nat) (W : World) (a : Option Addr) (len : Nat) (R : Nat → Rl) : Prop := ∀ i, i < len → ∃ b o, a = some ⟨b, o, none⟩ ∧ b < B ∧ RlAt W b (o + i * 11) (R i)
theorem RulesAt.next {B : Nat} {W X : World} {a : Option Addr} {len : Nat} {R : Nat → Rl} (h : RulesAt B W a len R) (hB : Below B W X) : RulesAt B X a len R := fun i hi => by
  obtain ⟨b, o, e, hb, hr⟩ := h i hi
  exact ⟨b, o, e, hb, hr.below hb hB⟩
theorem RulesAt.mono {B C : Nat} {W : World} {a : Option Addr} {len : Nat} {R : Nat → Rl} (h : RulesAt B W a len R) (hB : B ≤ C) : RulesAt C W a len R := fun i hi => by
  obtain ⟨b, o, e, hb, hr⟩ := h i hi
  exact ⟨b, o, e, by omega, hr⟩
def Rl.of (r : Rl) (y : Int) : Prop := r.f ≤ y ∧ y ≤ r.l
instance (r : Rl) (y : Int) : Decidable (r.of y) := by unfold Rl.of; infer_instance
def ruleI (R : Nat → Rl) (len : Nat) (y : Int) : Int := match (List.range len).find? (fun i => decide ((R i).of y)) with
  | some i => i
  | none => -1
theorem rule_some {R : Nat → Rl} {len : Nat} {y : Int} {k : Nat} (hk : k < len) (h : (R k).of y) (hn : ∀ j, j < k → ¬ (R j).of y) : ruleI R len y = k := by
  unfold ruleI
  rw [show (List.range len).find? (fun i => decide ((R i).of y)) = some k from List.find?_range_eq_some.2 ⟨by simpa using h, by simpa using hk, fun j hj => by simpa using hn j hj⟩]
theorem rule_none {R : Nat → Rl} {len : Nat} {y : Int} (hn : ∀ j, j < len → ¬ (R j).of y) : ruleI R len y = -1 := by
  unfold ruleI
  rw [show (List.range len).find? (fun i => decide ((R i).of y)) = none from List.find?_range_eq_none.2 fun j hj => by simpa using hn j hj]
theorem rule_cases (R : Nat → Rl) (len : Nat) (y : Int) : (∃ k : Nat, k < len ∧ ruleI R len y = k ∧ (R k).of y) ∨ ruleI R len y = -1 := by
  unfold ruleI
  cases h : (List.range len).find? (fun i => decide ((R i).of y)) with
  | none => exact .inr rfl
  | some k =>
    obtain ⟨h1, h2, _⟩ := List.find?_range_eq_some.1 h
    exact .inl ⟨k, by simpa using h2, rfl, by simpa using h1⟩
set_option maxRecDepth 100000 in
set_option maxHeartbeats 2000000 in
theorem rrule_any (off : Int) (a : Option Addr) (len cap : Nat) (R : Nat → Rl) (y : Int) (w : World) (hl : len ≤ 1000) (hR : RulesAt w.heap.size w a len R) :
    Calls Tryd.prog 14 #[zoneV off a len cap, .int .i64 y] w fun e w' => e = .returned (.int .i64 (ruleI R len y)) ∧ Below w.heap.size w w' := by
  have hb0 := (Below.refl _ w).alloc (Nat.le_refl _) (.cells #[.int .i64 off, .slice a len cap] 24)
  have hr := heap_alloc_new w (.cells #[.int .i64 off, .slice a len cap] 24)
  have HR := Lib.hid (hR.next hb0)
  have HB := Lib.hid hb0
  have G := Lib.hid hr
  have hli : (len : Int) ≤ 1000 := by omega
  have HL := Lib.hid hl
  clear hb0 hr hR hl
  go_enter Tryd.func14, Tryd.ntmps14
  go_wp2
  obtain ⟨W0, hW0⟩ : ∃ X, X = w.alloc (.cells #[.int .i64 off, .slice a len cap] 24) := ⟨_, rfl⟩
  rw [← hW0] at HR HB G ⊢
  clear hW0
  go_loopw [5] (fun i wr => ∃ k : Nat, k ≤ len ∧ i = .int .i64 k ∧ (∀ j, j < k → ¬ (R j).of y) ∧ W0 = wr) (fun i _ => (len - intOf i).toNat)
  case atStart => exact ⟨0, Nat.zero_le _, rfl, fun j hj => absurd hj (Nat.not_lt_zero _), rfl⟩
  case round =>
    obtain ⟨k, hk, rfl, hn, rfl⟩ := hrel
    have HN := Lib.hid hn
    have c1 : W0.cell? ⟨w.heap.size, 1, none⟩ = some (.slice a len cap) := cell_of_row W0 _ 1 _ _ _ G.out
    clear hn
    by_cases hlt : k < len
    · obtain ⟨b, o, rfl, hb, r0, r1, _⟩ := HR.out k hlt
      have g1 : decide ((k : Int) < (len : Int)) = true := decide_eq_true (by omega)
      have hlti : (k : Int) < len := by omega
      obtain ⟨F, hF⟩ : ∃ x, x = (R k).f := ⟨_, rfl⟩
      obtain ⟨L, hL⟩ : ∃ x, x = (R k).l := ⟨_, rfl⟩
      rw [← hF] at r0
      rw [← hL] at r1
      have HF := Lib.hid hF
      have HLL := Lib.hid hL
      clear hF hL
      by_cases d1 : F ≤ y
      · by_cases d2 : y ≤ L
        · go_wp2
          go_ret
          rw [rule_some hlt ⟨by rw [← HF.out]; exact d1, by rw [← HLL.out]; exact d2⟩ HN.out]
          exact ⟨rfl, HB.out⟩
        · go_wp2
          go_roundw
          case rel => exact ⟨k + 1, by omega, by simp, fun j hj => by
              by_cases hjk : j = k
              · subst hjk; exact fun h => d2 (by rw [HLL.out]; exact h.2)
              · exact HN.out j (by omega), trivial⟩
          case measure => simp [intOf]; omega
      · go_wp2
        go_roundw
        case rel => exact ⟨k + 1, by omega, by simp, fun j hj => by
            by_cases hjk : j = k
            · subst hjk; exact fun h => d1 (by rw [HF.out]; exact h.1)
            · exact HN.out j (by omega), trivial⟩
        case measure => simp [intOf]; omega
    · obtain rfl : k = len := by omega
      go_wp2
      go_ret
      rw [rule_none HN.out]
      exact ⟨rfl, HB.out⟩
end Go.Proofs.YtobnlcmamnoefaaDoor
