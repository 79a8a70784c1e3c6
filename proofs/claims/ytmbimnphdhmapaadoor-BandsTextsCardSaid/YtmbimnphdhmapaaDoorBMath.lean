/- Plans of days, as numbers. -/
import Derived.Test.YtmbimnphdhmapaaDoorProg
import Derived.RangeFuncNested
import Derived.RangeFuncBox
import Derived.OpenShut
import Derived.Maps.AppendAt
import Derived.Laws.OwnMore
import Derived.RegionTactic
import Derived.OwnWalk
import Derived.OwnWalkIn
import Derived.Below
import Derived.WalkKit
import Derived.Shelf.Abstract
import Derived.Lib.Hide
set_option linter.unusedVariables false
namespace Go.Proofs.YtmbimnphdhmapaaDoor
open Go.RowKit Go.Shelf
theorem heap_old {W : World} {b : Nat} {x : Obj} (h : W.heap[b]? = some x) (o : Obj) : (W.alloc o).heap[b]? = some x := (Below.heap_alloc W o b (Array.getElem?_eq_some_iff.1 h).1).trans h
structure Sw where
  m : Int
  b : Int
deriving DecidableEq
def SwOk (L : Nat → Sw) (i : Nat) : Prop := 0 ≤ (L i).b ∧ (L i).b ≤ 7 ∧ (L i).m < 1440 ∧ (0 < i → (L (i - 1)).m < (L i).m)
instance (L : Nat → Sw) (i : Nat) : Decidable (SwOk L i) := by unfold SwOk; infer_instance
def PlanIs (L : Nat → Sw) (len : Nat) : Prop := 1 ≤ len ∧ len ≤ 48 ∧ (L 0).m = 0 ∧ ∀ i, i < len → SwOk L i
instance (L : Nat → Sw) (len : Nat) : Decidable (PlanIs L len) := by unfold PlanIs; infer_instance
/-- The switches lie from a on, in a block below B. -/
def SwsAt (B : Nat) (W : World) (a : Option Addr) (len : Nat) (L : Nat → Sw) : Prop :=
  ∀ i, i < len → ∃ b o, a = some ⟨b, o, none⟩ ∧ b < B ∧ W.cell? ⟨b, o + i * 2, none⟩ = some (.int .i64 (L i).m) ∧ W.cell? ⟨b, o + i * 2 + 1, none⟩ = some (.int .i64 (L i).b)
theorem SwsAt.next {B n : Nat} {W X : World} {a : Option Addr} {len : Nat} {L : Nat → Sw} (h : SwsAt B W a len L) (hB : Below n W X) (hn : B ≤ n) (hs : n ≤ W.heap.size) : SwsAt B X a len L := by
  intro i hi
  obtain ⟨b, o, e, hb, h0, h1⟩ := h i hi
  have hx : ∀ k, X.cell? ⟨b, k, none⟩ = W.cell? ⟨b, k, none⟩ := fun k => hB.cell (p := ⟨b, k, none⟩) (by show b < n; omega)
  exact ⟨b, o, e, hb, (hx _).trans h0, (hx _).trans h1⟩
theorem SwsAt.mono {B B' : Nat} {W : World} {a : Option Addr} {len : Nat} {L : Nat → Sw} (h : SwsAt B W a len L) (hB : B ≤ B') : SwsAt B' W a len L := fun i hi => by
  obtain ⟨b, o, e, hb, k⟩ := h i hi; exact ⟨b, o, e, by omega, k⟩
theorem SwsAt.base {B : Nat} {W : World} {a : Option Addr} {len : Nat} {L : Nat → Sw} (h : SwsAt B W a len L) (h0 : 0 < len) : ∃ b o, a = some ⟨b, o, none⟩ ∧ ∀ i, i < len → W.cell? ⟨b, o + i * 2, none⟩ = some (.int .i64 (L i).m) ∧ W.cell? ⟨b, o + i * 2 + 1, none⟩ = some (.int .i64 (L i).b) := by
  obtain ⟨b, o, rfl, hb, _⟩ := h 0 h0
  refine ⟨b, o, rfl, fun i hi => ?_⟩
  obtain ⟨b', o', e, _, h1, h2⟩ := h i hi
  cases e
  exact ⟨h1, h2⟩
/-- The band of the last switch of the first k whose minute is not above x. -/
def bandN (L : Nat → Sw) : Nat → Int → Int
  | 0, _ => 0
  | k + 1, x => if (L k).m ≤ x then (L k).b else bandN L k x
theorem bandN_range {L : Nat → Sw} (k : Nat) (h : ∀ i, i < k → SwOk L i) (x : Int) : 0 ≤ bandN L k x ∧ bandN L k x ≤ 7 := by
  induction k with
  | zero => simp [bandN]
  | succ k ih =>
    unfold bandN
    have hk := h k (Nat.lt_succ_self _)
    have := ih (fun i hi => h i (Nat.lt_succ_of_lt hi))
    split
    · exact ⟨hk.1, hk.2.1⟩
    · exact this
/-- What Band says. -/
def InDay (x : Int) : Prop := 0 ≤ x ∧ x ≤ 1439
instance (x : Int) : Decidable (InDay x) := by unfold InDay; infer_instance
def bandE (L : Nat → Sw) (len : Nat) (x : Int) : Int := if PlanIs L len ∧ InDay x then bandN L len x else 0
def bandB (L : Nat → Sw) (len : Nat) (x : Int) : Bool := decide (PlanIs L len ∧ InDay x)
/-- What Next says of a plan that is one, at a minute of the day. -/
def BNext (L : Nat → Sw) (len : Nat) (x n : Int) (is : Bool) : Prop :=
  (is = true ∧ x < n ∧ n < 1440 ∧ bandN L len n ≠ bandN L len x ∧ ∀ j, x < j → j < n → bandN L len j = bandN L len x) ∨
  (is = false ∧ n = 0 ∧ ∀ j, x < j → j < 1440 → bandN L len j = bandN L len x)
theorem BNext.unique {L : Nat → Sw} {len : Nat} {x n n' : Int} {is is' : Bool} (h : BNext L len x n is) (h' : BNext L len x n' is') : n = n' ∧ is = is' := by
  rcases h with ⟨a, b, c, d, e⟩ | ⟨a, b, e⟩ <;> rcases h' with ⟨a', b', c', d', e'⟩ | ⟨a', b', e'⟩
  · refine ⟨?_, by rw [a, a']⟩
    rcases Int.lt_trichotomy n n' with q | q | q
    · exact absurd (e' n b q) d
    · exact q
    · exact absurd (e n' b' q) d'
  · exact absurd (e' n b c) d
  · exact absurd (e n' b' c') d'
  · exact ⟨by rw [b, b'], by rw [a, a']⟩
/-- How many of the first n minutes have band b. -/
def cntN (L : Nat → Sw) (len : Nat) (b : Nat) : Nat → Nat
  | 0 => 0
  | n + 1 => cntN L len b n + (if bandN L len n = b then 1 else 0)
theorem cntN_le (L : Nat → Sw) (len b : Nat) (n : Nat) : cntN L len b n ≤ n := by
  induction n with
  | zero => exact Nat.le_refl _
  | succ n ih => unfold cntN; split <;> omega
/-- The two plans say the same. -/
def SameP (L : Nat → Sw) (len : Nat) (M : Nat → Sw) (len' : Nat) : Prop := PlanIs L len ∧ PlanIs M len' ∧ ∀ n : Nat, n < 1440 → bandN L len n = bandN M len' n
instance (L : Nat → Sw) (len : Nat) (M : Nat → Sw) (len' : Nat) : Decidable (SameP L len M len') := by unfold SameP; infer_instance
end Go.Proofs.YtmbimnphdhmapaaDoor
