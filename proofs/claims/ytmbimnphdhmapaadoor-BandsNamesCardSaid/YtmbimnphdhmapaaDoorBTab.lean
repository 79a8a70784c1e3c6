/- Tables of plans, as numbers. -/
import Derived.Test.YtmbimnphdhmapaaDoorBOpen
set_option linter.unusedVariables false
namespace Go.Proofs.YtmbimnphdhmapaaDoor
open Go.RowKit Go.Shelf
def RuIs (r : Ru) (n : Nat) : Prop := (0 ≤ r.s ∧ r.s ≤ 99) ∧ (0 ≤ r.k ∧ r.k ≤ 4) ∧ 0 ≤ r.p ∧ r.p < n
instance (r : Ru) (n : Nat) : Decidable (RuIs r n) := by unfold RuIs; infer_instance
def TabIs (P : Nat → Pl) (pl : Nat) (R : Nat → Ru) (rl : Nat) : Prop := 1 ≤ pl ∧ pl ≤ 50 ∧ rl ≤ 100 ∧ (∀ i, i < pl → PlanIs (P i).L (P i).len) ∧ ∀ i, i < rl → RuIs (R i) pl
instance (P : Nat → Pl) (pl : Nat) (R : Nat → Ru) (rl : Nat) : Decidable (TabIs P pl R rl) := by unfold TabIs; infer_instance
def Fits (r : Ru) (s k : Int) : Prop := (r.s = 0 ∨ r.s = s) ∧ (r.k = 0 ∨ r.k = k)
instance (r : Ru) (s k : Int) : Decidable (Fits r s k) := by unfold Fits; infer_instance
/-- The plan of a day: that of the first rule that fits, or the first plan. -/
def PlanOf (R : Nat → Ru) (rl : Nat) (s k p : Int) : Prop := (∃ i, i < rl ∧ Fits (R i) s k ∧ p = (R i).p ∧ ∀ j, j < i → ¬ Fits (R j) s k) ∨ (p = 0 ∧ ∀ j, j < rl → ¬ Fits (R j) s k)
theorem PlanOf.unique {R : Nat → Ru} {rl : Nat} {s k p p' : Int} (h : PlanOf R rl s k p) (h' : PlanOf R rl s k p') : p = p' := by
  rcases h with ⟨i, hi, f, rfl, n⟩ | ⟨rfl, n⟩ <;> rcases h' with ⟨j, hj, f', rfl, n'⟩ | ⟨rfl, n'⟩
  · rcases Nat.lt_trichotomy i j with q | q | q
    · exact absurd f (n' i q)
    · rw [q]
    · exact absurd f' (n j q)
  · exact absurd f (n' i hi)
  · exact absurd f' (n j hj)
  · rfl
def PlanE (R : Nat → Ru) (rl : Nat) (s k : Int) (e : Ending) : Prop := ∃ p, PlanOf R rl s k p ∧ e = .returned (.tuple #[.int .i64 p, .bool true])
theorem PlanE.mk {R : Nat → Ru} {rl : Nat} {s k p : Int} (h : PlanOf R rl s k p) : PlanE R rl s k (.returned (.tuple #[.int .i64 p, .bool true])) := ⟨p, h, rfl⟩
def PlanMay (P : Nat → Pl) (pl : Nat) (R : Nat → Ru) (rl : Nat) (s kd : Int) : Prop := TabIs P pl R rl ∧ (0 ≤ s ∧ s ≤ 99) ∧ 1 ≤ kd ∧ kd ≤ 4
instance (P : Nat → Pl) (pl : Nat) (R : Nat → Ru) (rl : Nat) (s kd : Int) : Decidable (PlanMay P pl R rl s kd) := by unfold PlanMay; infer_instance
def tErr (P : Nat → Pl) (pl : Nat) (R : Nat → Ru) (rl : Nat) : Int := if TabIs P pl R rl then 0 else 90
theorem tErr_yes {P : Nat → Pl} {pl : Nat} {R : Nat → Ru} {rl : Nat} (h : TabIs P pl R rl) : tErr P pl R rl = 0 := if_pos h
theorem tErr_no {P : Nat → Pl} {pl : Nat} {R : Nat → Ru} {rl : Nat} (h : ¬ TabIs P pl R rl) : tErr P pl R rl = 90 := if_neg h
end Go.Proofs.YtmbimnphdhmapaaDoor
