/- A purse as numbers: what paying answers, and what rests behind it. -/
import Derived.WalkKit
namespace Go.Proofs.YtbffmobjiiicoaaDoor
set_option linter.unusedVariables false
def spot (m b : Int) : Nat := m.toNat * 8 + b.toNat
def upd (f : Nat → Int) (k : Nat) (x : Int) : Nat → Int := fun j => if j = k then x else f j
def Rests (f : Nat → Int) : Prop := ∀ j, 0 ≤ f j ∧ f j < 1000000
def Place (m b : Int) : Prop := (0 ≤ m ∧ m ≤ 63) ∧ 0 ≤ b ∧ b ≤ 7
instance (m b : Int) : Decidable (Place m b) := by unfold Place; infer_instance
def PayArg (m b n p : Int) : Prop := Place m b ∧ (0 ≤ n ∧ n ≤ 4611686018427387904) ∧ 0 ≤ p ∧ p ≤ 1073741824
instance (m b n p : Int) : Decidable (PayArg m b n p) := by unfold PayArg; infer_instance
def payX (f : Nat → Int) (m b n p : Int) : Int := n * p + f (spot m b)
def PayIs (f : Nat → Int) (m b n p : Int) : Prop := PayArg m b n p ∧ payX f m b n p / 1000000 ≤ 4611686018427387904
instance (f : Nat → Int) (m b n p : Int) : Decidable (PayIs f m b n p) := by unfold PayIs; infer_instance
def payV (f : Nat → Int) (m b n p : Int) : Int := if PayIs f m b n p then payX f m b n p / 1000000 else 0
def payE (f : Nat → Int) (m b n p : Int) : Int := if PayIs f m b n p then 0 else if PayArg m b n p then 10 else 2
def payF (f : Nat → Int) (m b n p : Int) : Nat → Int := if PayIs f m b n p then upd f (spot m b) (payX f m b n p % 1000000) else f
def BackIs (m b r : Int) : Prop := Place m b ∧ 0 ≤ r ∧ r ≤ 999999
instance (m b r : Int) : Decidable (BackIs m b r) := by unfold BackIs; infer_instance
def backE (m b r : Int) : Int := if BackIs m b r then 0 else 2
def backF (f : Nat → Int) (m b r : Int) : Nat → Int := if BackIs m b r then upd f (spot m b) r else f
def restV (f : Nat → Int) (m b : Int) : Int := if Place m b then f (spot m b) else 0
theorem Rests.zero : Rests (fun _ => 0) := fun _ => show (0 : Int) ≤ 0 ∧ (0 : Int) < 1000000 by decide
theorem Rests.upd {f : Nat → Int} (h : Rests f) (k : Nat) {x : Int} (h0 : 0 ≤ x) (h1 : x < 1000000) : Rests (upd f k x) := fun j => by
  unfold Go.Proofs.YtbffmobjiiicoaaDoor.upd; split
  · exact ⟨h0, h1⟩
  · exact h j
theorem Rests.pay {f : Nat → Int} (h : Rests f) (m b n p : Int) : Rests (payF f m b n p) := by
  unfold payF; split
  · exact h.upd _ (Int.emod_nonneg _ (by omega)) (Int.emod_lt_of_pos _ (by omega))
  · exact h
theorem Rests.back {f : Nat → Int} (h : Rests f) (m b r : Int) : Rests (backF f m b r) := by
  unfold backF; split
  · rename_i hb; exact h.upd _ hb.2.1 (by have := hb.2.2; omega)
  · exact h
theorem pay_yes {f : Nat → Int} {m b n p : Int} (h : PayIs f m b n p) : payV f m b n p = payX f m b n p / 1000000 ∧ payE f m b n p = 0 ∧ payF f m b n p = upd f (spot m b) (payX f m b n p % 1000000) := by simp [payV, payE, payF, h]
theorem pay_over {f : Nat → Int} {m b n p : Int} (ha : PayArg m b n p) (h : ¬ payX f m b n p / 1000000 ≤ 4611686018427387904) : payV f m b n p = 0 ∧ payE f m b n p = 10 ∧ payF f m b n p = f := by
  have : ¬ PayIs f m b n p := fun k => h k.2
  simp [payV, payE, payF, this, ha]
theorem pay_no {f : Nat → Int} {m b n p : Int} (ha : ¬ PayArg m b n p) : payV f m b n p = 0 ∧ payE f m b n p = 2 ∧ payF f m b n p = f := by
  have : ¬ PayIs f m b n p := fun k => ha k.1
  simp [payV, payE, payF, this, ha]
theorem back_yes {m b r : Int} (h : BackIs m b r) (f : Nat → Int) : backE m b r = 0 ∧ backF f m b r = upd f (spot m b) r := by simp [backE, backF, h]
theorem back_no {m b r : Int} (h : ¬ BackIs m b r) (f : Nat → Int) : backE m b r = 2 ∧ backF f m b r = f := by simp [backE, backF, h]
theorem spot_lt {m b : Int} (h : Place m b) : spot m b < 512 := by obtain ⟨⟨_, _⟩, _, _⟩ := h; unfold spot; omega
theorem spot_nat (m b : Nat) : spot (m : Int) (b : Int) = m * 8 + b := by simp [spot]
end Go.Proofs.YtbffmobjiiicoaaDoor
