/- Joined: ZChange ZRule ZMay ZEdges ZOffset ZRefuse. -/
import Derived.Test.YtbffmobjiiicoaaDoorJK2
import Derived.Deep.RegionHeld3
import Derived.Deep.CutBlock
import Derived.Deep.DeepCutAuto
section
/- Contracts of the document's functions on changes of a zone: change, at. -/
set_option linter.unusedVariables false
set_option linter.unusedSimpArgs false
namespace Go.Proofs.YtbffmobjiiicoaaDoor
open Go.RowKit Go.Shelf
abbrev chV (m w n t : Int) : Value := .agg #[.int .i64 m, .int .i64 w, .int .i64 n, .int .i64 t]
def ChIs (m w n t : Int) : Prop := (1 ≤ m ∧ m ≤ 12) ∧ (1 ≤ w ∧ w ≤ 7) ∧ (n = -1 ∨ (1 ≤ n ∧ n ≤ 4)) ∧ (0 ≤ t ∧ t < 1440)
instance (m w n t : Int) : Decidable (ChIs m w n t) := by unfold ChIs; infer_instance
def atV (y m w n t : Int) : Int := dayOf y m (nthD y m w n) * 86400 + t * 60
theorem nth_is_of {y m w n t : Int} (hy : 1970 ≤ y ∧ y ≤ 9999) (h : ChIs m w n t) : NthIs y m w n := by
  obtain ⟨⟨h1, h2⟩, h3, h4, h5⟩ := h
  have hdl := dlen_ge (y := y) (m := m) h1 h2
  refine ⟨⟨hy.1, hy.2, h1, h2, by omega, by omega⟩, h3, ?_⟩
  rcases h4 with h4 | h4
  · exact .inl h4
  · refine .inr ⟨h4.1, by omega, ?_⟩
    unfold nthD
    rw [if_neg (by omega)]
    have := nthF_bounds y m w
    omega
theorem nth_may {y m w n : Int} (h : NthIs y m w n) : May y m (nthD y m w n) := by
  obtain ⟨⟨a1, a2, a3, a4, a5, a6⟩, h3, h4⟩ := h
  have hdl := dlen_ge (y := y) (m := m) a3 a4
  have := nthF_bounds y m w
  refine ⟨a1, a2, a3, a4, ?_, ?_⟩ <;> unfold nthD at * <;> rcases h4 with rfl | h4
  · rw [if_pos rfl]; omega
  · rw [if_neg (by omega)]; omega
  · rw [if_pos rfl]; omega
  · rw [if_neg (by omega)] at *; omega
end Go.Proofs.YtbffmobjiiicoaaDoor
end
section
/- Contracts of the document's functions on zones: Rule. -/
set_option linter.unusedVariables false
set_option linter.unusedSimpArgs false
namespace Go.Proofs.YtbffmobjiiicoaaDoor
open Go.RowKit Go.Shelf
structure Rl where (f l m1 w1 n1 t1 m2 w2 n2 t2 x : Int)
abbrev rlV (r : Rl) : Value := .agg #[.int .i64 r.f, .int .i64 r.l, .int .i64 r.m1, .int .i64 r.w1, .int .i64 r.n1, .int .i64 r.t1, .int .i64 r.m2, .int .i64 r.w2, .int .i64 r.n2, .int .i64 r.t2, .int .i64 r.x]
abbrev zoneV (off : Int) (a : Option Addr) (len cap : Nat) : Value := .agg #[.int .i64 off, .slice a len cap]
/-- The eleven cells of a rule. -/
def RlAt (W : World) (b o : Nat) (r : Rl) : Prop := W.cell? ⟨b, o, none⟩ = some (.int .i64 r.f) ∧ W.cell? ⟨b, o + 1, none⟩ = some (.int .i64 r.l) ∧ W.cell? ⟨b, o + 2, none⟩ = some (.int .i64 r.m1) ∧ W.cell? ⟨b, o + 3, none⟩ = some (.int .i64 r.w1) ∧ W.cell? ⟨b, o + 4, none⟩ = some (.int .i64 r.n1) ∧ W.cell? ⟨b, o + 5, none⟩ = some (.int .i64 r.t1) ∧
  W.cell? ⟨b, o + 6, none⟩ = some (.int .i64 r.m2) ∧ W.cell? ⟨b, o + 7, none⟩ = some (.int .i64 r.w2) ∧ W.cell? ⟨b, o + 8, none⟩ = some (.int .i64 r.n2) ∧ W.cell? ⟨b, o + 9, none⟩ = some (.int .i64 r.t2) ∧ W.cell? ⟨b, o + 10, none⟩ = some (.int .i64 r.x)
theorem RlAt.below {B : Nat} {W X : World} {b o : Nat} {r : Rl} (h : RlAt W b o r) (hb : b < B) (hB : Below B W X) : RlAt X b o r := by
  have e := fun k => hB.cell (p := ⟨b, k, none⟩) hb
  unfold RlAt at *
  simp only [e]
  exact h
/-- The rules of a zone, in a block below B. -/
def RulesAt (B : Nat) (W : World) (a : Option Addr) (len : Nat) (R : Nat → Rl) : Prop := ∀ i, i < len → ∃ b o, a = some ⟨b, o, none⟩ ∧ b < B ∧ RlAt W b (o + i * 11) (R i)
theorem RulesAt.next {B : Nat} {W X : World} {a : Option Addr} {len : Nat} {R : Nat → Rl} (h : RulesAt B W a len R) (hB : Below B W X) : RulesAt B X a len R := fun i hi => by
  obtain ⟨b, o, e, hb, hr⟩ := h i hi
  exact ⟨b, o, e, hb, hr.below hb hB⟩
theorem RulesAt.mono {B C : Nat} {W : World} {a : Option Addr} {len : Nat} {R : Nat → Rl} (h : RulesAt B W a len R) (hB : B ≤ C) : RulesAt C W a len R := fun i hi => by
  obtain ⟨b, o, e, hb, hr⟩ := h i hi
  exact ⟨b, o, e, by omega, hr⟩
def Rl.of (r : Rl) (y : Int) : Prop := r.f ≤ y ∧ y ≤ r.l
instance (r : Rl) (y : Int) : Decidable (r.of y) := by unfold Rl.of; infer_instance
def ruleI (R : Nat → Rl) (len : Nat) (y : Int) : Int := match (List.range len).find? (fun i => decide ((R i).of y)) with
  | some i => i
  | none => -1
theorem rule_some {R : Nat → Rl} {len : Nat} {y : Int} {k : Nat} (hk : k < len) (h : (R k).of y) (hn : ∀ j, j < k → ¬ (R j).of y) : ruleI R len y = k := by
  unfold ruleI
  rw [show (List.range len).find? (fun i => decide ((R i).of y)) = some k from List.find?_range_eq_some.2 ⟨by simpa using h, by simpa using hk, fun j hj => by simpa using hn j hj⟩]
theorem rule_none {R : Nat → Rl} {len : Nat} {y : Int} (hn : ∀ j, j < len → ¬ (R j).of y) : ruleI R len y = -1 := by
  unfold ruleI
  rw [show (List.range len).find? (fun i => decide ((R i).of y)) = none from List.find?_range_eq_none.2 fun j hj => by simpa using hn j hj]
theorem rule_cases (R : Nat → Rl) (len : Nat) (y : Int) : (∃ k : Nat, k < len ∧ ruleI R len y = k ∧ (R k).of y) ∨ ruleI R len y = -1 := by
  unfold ruleI
  cases h : (List.range len).find? (fun i => decide ((R i).of y)) with
  | none => exact .inr rfl
  | some k =>
    obtain ⟨h1, h2, _⟩ := List.find?_range_eq_some.1 h
    exact .inl ⟨k, by simpa using h2, rfl, by simpa using h1⟩
end Go.Proofs.YtbffmobjiiicoaaDoor
end
section
/- Contracts of the document's functions on zones: May. -/
set_option linter.unusedVariables false
set_option linter.unusedSimpArgs false
namespace Go.Proofs.YtbffmobjiiicoaaDoor
open Go.RowKit Go.Shelf
def RlIs (r : Rl) : Prop := (1970 ≤ r.f ∧ r.l ≤ 9999 ∧ r.f ≤ r.l) ∧ (1 ≤ r.x ∧ r.x ≤ 7200) ∧ ChIs r.m1 r.w1 r.n1 r.t1 ∧ ChIs r.m2 r.w2 r.n2 r.t2
instance (r : Rl) : Decidable (RlIs r) := by unfold RlIs; infer_instance
def ZoneIs (off : Int) (R : Nat → Rl) (len : Nat) : Prop := (-50400 ≤ off ∧ off ≤ 50400) ∧ len ≤ 20 ∧ ∀ i, i < len → RlIs (R i)
instance (off : Int) (R : Nat → Rl) (len : Nat) : Decidable (ZoneIs off R len) := by unfold ZoneIs; infer_instance
end Go.Proofs.YtbffmobjiiicoaaDoor
end
section
/- Contracts of the document's functions on zones: Edges. -/
set_option linter.unusedVariables false
set_option linter.unusedSimpArgs false
namespace Go.Proofs.YtbffmobjiiicoaaDoor
open Go.RowKit Go.Shelf
def onOf (r : Rl) (y : Int) : Int := atV y r.m1 r.w1 r.n1 r.t1
def offOf (r : Rl) (y : Int) : Int := atV y r.m2 r.w2 r.n2 r.t2
theorem rl_year {r : Rl} {y : Int} (h : RlIs r) (hy : r.of y) : 1970 ≤ y ∧ y ≤ 9999 := by
  obtain ⟨⟨h1, h2, h3⟩, _⟩ := h
  obtain ⟨h4, h5⟩ := hy
  omega
end Go.Proofs.YtbffmobjiiicoaaDoor
end
section
/- Contracts of the document's functions on zones: Offset. -/
set_option linter.unusedVariables false
set_option linter.unusedSimpArgs false
namespace Go.Proofs.YtbffmobjiiicoaaDoor
open Go.RowKit Go.Shelf
/-- Is it summer at standard time s, by changes at V1 and V2? -/
def sumP (V1 V2 s : Int) : Prop := (V1 < V2 ∧ V1 ≤ s ∧ s < V2) ∨ (V2 < V1 ∧ (s < V2 ∨ V1 ≤ s))
instance (V1 V2 s : Int) : Decidable (sumP V1 V2 s) := by unfold sumP; infer_instance
def nOf (off : Int) (R : Nat → Rl) (len : Nat) (y s : Int) : Int := match (List.range len).find? (fun i => decide ((R i).of y)) with
  | some i => if sumP (onOf (R i) y) (offOf (R i) y) s then off + (R i).x else off
  | none => off
theorem nOf_some {off : Int} {R : Nat → Rl} {len : Nat} {y s : Int} {k : Nat} (hi : ruleI R len y = k) : nOf off R len y s = if sumP (onOf (R k) y) (offOf (R k) y) s then off + (R k).x else off := by
  unfold ruleI at hi
  unfold nOf
  split at hi
  · rename_i i h
    try rw [h]
    have : i = k := by omega
    subst this
    rfl
  · omega
theorem nOf_none {off : Int} {R : Nat → Rl} {len : Nat} {y s : Int} (hi : ruleI R len y = -1) : nOf off R len y s = off := by
  unfold ruleI at hi
  unfold nOf
  split at hi
  · omega
  · rename_i h; first | rw [ h] | rfl
end Go.Proofs.YtbffmobjiiicoaaDoor
end
section
/- Contracts of the document's functions on zones: what Offset refuses; Offset of anything. -/
set_option linter.unusedVariables false
set_option linter.unusedSimpArgs false
namespace Go.Proofs.YtbffmobjiiicoaaDoor
open Go.RowKit Go.Shelf
/-- The year of standard time s. -/
def yearI (s : Int) : Int := 1970 + (((List.range 8030).find? (fun k : Nat => decide (s / 86400 < ahead (1970 + (k : Int) + 1)))).getD 0 : Nat)
theorem yearI_is {s y mo d : Int} (h : IsDate (s / 86400) y mo d) : yearI s = y := by
  obtain ⟨h1, h2⟩ := in_year h.1
  rw [← h.2] at h1 h2
  have b1 := h.1.1
  have b2 := h.1.2.1
  unfold yearI
  have hf : (List.range 8030).find? (fun k : Nat => decide (s / 86400 < ahead (1970 + (k : Int) + 1))) = some (y - 1970).toNat := by
    refine List.find?_range_eq_some.2 ⟨?_, ?_, fun j hj => ?_⟩
    · rw [decide_eq_true_iff, show 1970 + ((y - 1970).toNat : Int) + 1 = y + 1 by omega]; exact h2
    · rw [List.mem_range]; omega
    · have := ahead_le (a := 1970 + (j : Int) + 1) (b := y) (by omega)
      simp; omega
  rw [hf]
  simp; omega
/-- Has t a standard and a local time? -/
def OffIs (off : Int) (R : Nat → Rl) (len : Nat) (t : Int) : Prop := (0 ≤ t + off ∧ t + off < 253402300800) ∧ t + nOf off R len (yearI (t + off)) (t + off) < 253402300800
end Go.Proofs.YtbffmobjiiicoaaDoor
end
