/- Tables of versions, as lists. -/
import Derived.Test.YthlpigffjbhmoaaDoorProg
import Derived.RangeFuncNested
import Derived.RangeFuncBox
import Derived.OpenShut
import Derived.Maps.AppendAt
import Derived.Laws.OwnMore
import Derived.RegionTactic
import Derived.OwnWalk
import Derived.OwnWalkIn
import Derived.Below
import Derived.WalkKit
import Derived.Shelf.Abstract
import Derived.Lib.Hide
set_option linter.unusedVariables false
set_option linter.unusedSimpArgs false
namespace Go.Proofs.YthlpigffjbhmoaaDoor
open Go.RowKit Go.Shelf
theorem heap_old {W : World} {b : Nat} {x : Obj} (h : W.heap[b]? = some x) (o : Obj) : (W.alloc o).heap[b]? = some x := (Below.heap_alloc W o b (Array.getElem?_eq_some_iff.1 h).1).trans h
structure Ve where
  f : Int
  ps : List Int
deriving DecidableEq
def PrMay (p : Int) : Prop := 0 ≤ p ∧ p ≤ 1073741824
instance (p : Int) : Decidable (PrMay p) := by unfold PrMay; infer_instance
def VerMay (v : Ve) : Prop := (0 ≤ v.f ∧ v.f < 253402300800) ∧ (1 ≤ v.ps.length ∧ v.ps.length ≤ 16) ∧ ∀ p ∈ v.ps, PrMay p
instance (v : Ve) : Decidable (VerMay v) := by unfold VerMay; infer_instance
/-- u may stand ahead of v. -/
def Ahead (u v : Ve) : Prop := u.f < v.f ∧ u.ps.length = v.ps.length
instance (u v : Ve) : Decidable (Ahead u v) := by unfold Ahead; infer_instance
/-- v may stand behind the versions of l. -/
def Follows (l : List Ve) (v : Ve) : Prop := l.length < 200 ∧ VerMay v ∧ ∀ u ∈ l.getLast?, Ahead u v
instance (l : List Ve) (v : Ve) : Decidable (Follows l v) := by unfold Follows; infer_instance
def TabMay (l : List Ve) : Prop := ∀ i, i < l.length → ∀ v ∈ l[i]?, Follows (l.take i) v
instance (l : List Ve) : Decidable (TabMay l) := by unfold TabMay; infer_instance
theorem tab_nil : TabMay [] := fun i hi => absurd hi (Nat.not_lt_zero _)
theorem tab_snoc (l : List Ve) (v : Ve) : TabMay (l ++ [v]) ↔ TabMay l ∧ Follows l v := by
  constructor
  · intro h
    refine ⟨fun i hi u hu => ?_, ?_⟩
    · have := h i (by simp; omega) u (by rw [List.getElem?_append_left hi]; exact hu)
      rwa [List.take_append_of_le_length (by omega)] at this
    · have := h l.length (by simp) v (by simp)
      simpa using this
  · rintro ⟨h, hv⟩ i hi u hu
    by_cases hl : i < l.length
    · rw [List.getElem?_append_left hl] at hu
      rw [List.take_append_of_le_length (by omega)]
      exact h i hl u hu
    · have hi' : i = l.length := by simp at hi; omega
      subst hi'
      simp at hu
      subst hu
      simpa using hv
theorem tab_take {l : List Ve} (h : TabMay l) (k : Nat) : TabMay (l.take k) := by
  intro i hi v hv
  have hi2 := hi
  rw [List.length_take] at hi2
  rw [List.getElem?_take_of_lt (by omega)] at hv
  have := h i (by omega) v hv
  rwa [List.take_take, Nat.min_eq_left (by omega)]
theorem tab_at {l : List Ve} (h : TabMay l) {i : Nat} {v : Ve} (hv : l[i]? = some v) : Follows (l.take i) v := h i (List.getElem?_eq_some_iff.1 hv).1 v hv
theorem tab_len {l : List Ve} (h : TabMay l) : l.length ≤ 200 := by
  cases hl : l.length with
  | zero => omega
  | succ n =>
    have hv : l[n]? = some l[n] := List.getElem?_eq_getElem (by omega)
    have := (tab_at h hv).1
    rw [List.length_take] at this
    omega
theorem tab_ver {l : List Ve} (h : TabMay l) {v : Ve} (hv : v ∈ l) : VerMay v := by
  obtain ⟨i, hi, rfl⟩ := List.getElem_of_mem hv
  exact (tab_at h (List.getElem?_eq_getElem hi)).2.1
theorem last_snoc {l : List Ve} {u : Ve} (h : l.getLast? = some u) : ∃ r, l = r ++ [u] := by
  obtain ⟨r, rfl⟩ := List.getLast?_eq_some_iff.1 h
  exact ⟨r, rfl⟩
theorem tab_pair : ∀ (n : Nat) (l : List Ve), l.length = n → TabMay l → l.Pairwise Ahead := by
  intro n
  induction n with
  | zero => intro l hl _; rw [List.length_eq_zero_iff.1 hl]; exact List.Pairwise.nil
  | succ n ih =>
    intro l hl h
    obtain ⟨u, hu⟩ : ∃ u, l.getLast? = some u := by
      cases hg : l.getLast? with
      | none => rw [List.getLast?_eq_none_iff.1 hg] at hl; simp at hl
      | some u => exact ⟨u, rfl⟩
    obtain ⟨r, rfl⟩ := last_snoc hu
    obtain ⟨h1, h2⟩ := (tab_snoc r u).1 h
    have hp := ih r (by simpa using hl) h1
    refine List.pairwise_append.2 ⟨hp, List.pairwise_singleton _ _, fun x hx y hy => ?_⟩
    rw [List.mem_singleton.1 hy]
    cases hg : r.getLast? with
    | none => rw [List.getLast?_eq_none_iff.1 hg] at hx; cases hx
    | some z =>
      have hz := h2.2.2 z hg
      obtain ⟨r', rfl⟩ := last_snoc hg
      rcases List.mem_append.1 hx with q | q
      · have := (List.pairwise_append.1 hp).2.2 x q z (by simp)
        unfold Ahead at this hz ⊢
        omega
      · rw [List.mem_singleton.1 q]; exact hz
theorem pair_tab : ∀ (n : Nat) (l : List Ve), l.length = n → n ≤ 200 → (∀ v ∈ l, VerMay v) → l.Pairwise Ahead → TabMay l := by
  intro n
  induction n with
  | zero => intro l hl _ _ _; rw [List.length_eq_zero_iff.1 hl]; exact tab_nil
  | succ n ih =>
    intro l hl h2 hv hp
    obtain ⟨u, hu⟩ : ∃ u, l.getLast? = some u := by
      cases hg : l.getLast? with
      | none => rw [List.getLast?_eq_none_iff.1 hg] at hl; simp at hl
      | some u => exact ⟨u, rfl⟩
    obtain ⟨r, rfl⟩ := last_snoc hu
    have hq := List.pairwise_append.1 hp
    refine (tab_snoc r u).2 ⟨ih r (by simpa using hl) (by omega) (fun v q => hv v (by simp [q])) hq.1, by simp at hl; omega, hv u (by simp), fun z hz => ?_⟩
    obtain ⟨r', rfl⟩ := last_snoc hz
    exact hq.2.2 z (by simp) u (by simp)
theorem tab_iff (l : List Ve) : TabMay l ↔ l.length ≤ 200 ∧ (∀ v ∈ l, VerMay v) ∧ l.Pairwise Ahead :=
  ⟨fun h => ⟨tab_len h, fun v hv => tab_ver h hv, tab_pair _ l rfl h⟩, fun h => pair_tab _ l rfl h.1 h.2.1 h.2.2⟩
/-- Of a list at whose beginning all stand that are p. -/
theorem pre_split {p : Ve → Bool} : ∀ {l : List Ve}, l.Pairwise (fun u v => p v = true → p u = true) → l.take (l.countP p) = l.filter p ∧ l.drop (l.countP p) = l.filter (fun x => !p x)
  | [], _ => ⟨rfl, rfl⟩
  | u :: l, h => by
    obtain ⟨h1, h2⟩ := List.pairwise_cons.1 h
    obtain ⟨e1, e2⟩ := pre_split h2
    by_cases hu : p u = true
    · rw [List.countP_cons_of_pos hu, List.filter_cons_of_pos hu, List.filter_cons_of_neg (by simp [hu])]
      exact ⟨by rw [List.take_succ_cons, e1], by rw [List.drop_succ_cons, e2]⟩
    · have hn : ∀ v ∈ l, ¬ p v = true := fun v hv q => hu (h1 v hv q)
      have hz : l.countP p = 0 := List.countP_eq_zero.2 hn
      rw [List.countP_cons_of_neg hu, List.filter_cons_of_neg hu, List.filter_cons_of_pos (by simp [hu]), hz]
      refine ⟨?_, ?_⟩
      · rw [List.take_zero, ← e1, hz, List.take_zero]
      · rw [List.drop_zero, ← e2, hz, List.drop_zero]
theorem pre_iff {p : Ve → Bool} : ∀ {l : List Ve}, l.Pairwise (fun u v => p v = true → p u = true) → ∀ {i : Nat} {v : Ve}, l[i]? = some v → (p v = true ↔ i < l.countP p)
  | [], _, i, v, h => by simp at h
  | u :: l, h, i, v, hv => by
    obtain ⟨h1, h2⟩ := List.pairwise_cons.1 h
    by_cases hu : p u = true
    · rw [List.countP_cons_of_pos hu]
      cases i with
      | zero => simp at hv; subst hv; simp [hu]
      | succ i =>
        rw [List.getElem?_cons_succ] at hv
        have := pre_iff h2 hv
        rw [this]; omega
    · have hn : ∀ v ∈ l, ¬ p v = true := fun v hv q => hu (h1 v hv q)
      have hz : l.countP p = 0 := List.countP_eq_zero.2 hn
      rw [List.countP_cons_of_neg hu, hz]
      cases i with
      | zero => simp at hv; subst hv; simp [hu]
      | succ i =>
        rw [List.getElem?_cons_succ] at hv
        have := hn v (List.mem_of_getElem? hv)
        simp [this]
/-- How many versions begin by t. -/
def cnt (l : List Ve) (t : Int) : Nat := l.countP fun v => decide (v.f ≤ t)
def cntB (l : List Ve) (t : Int) : Nat := l.countP fun v => decide (v.f < t)
theorem cnt_le (l : List Ve) (t : Int) : cnt l t ≤ l.length := List.countP_le_length
theorem cntB_le (l : List Ve) (t : Int) : cntB l t ≤ l.length := List.countP_le_length
theorem pair_le {l : List Ve} (h : l.Pairwise Ahead) (t : Int) : l.Pairwise (fun u v => decide (v.f ≤ t) = true → decide (u.f ≤ t) = true) :=
  h.imp fun {u v} q e => by have := of_decide_eq_true e; exact decide_eq_true (by unfold Ahead at q; omega)
theorem pair_lt {l : List Ve} (h : l.Pairwise Ahead) (t : Int) : l.Pairwise (fun u v => decide (v.f < t) = true → decide (u.f < t) = true) :=
  h.imp fun {u v} q e => by have := of_decide_eq_true e; exact decide_eq_true (by unfold Ahead at q; omega)
theorem cnt_iff {l : List Ve} (h : l.Pairwise Ahead) {i : Nat} {v : Ve} (hv : l[i]? = some v) (t : Int) : v.f ≤ t ↔ i < cnt l t := by
  have := pre_iff (pair_le h t) hv
  rw [decide_eq_true_iff] at this
  exact this
theorem cntB_iff {l : List Ve} (h : l.Pairwise Ahead) {i : Nat} {v : Ve} (hv : l[i]? = some v) (t : Int) : v.f < t ↔ i < cntB l t := by
  have := pre_iff (pair_lt h t) hv
  rw [decide_eq_true_iff] at this
  exact this
theorem cnt_take {l : List Ve} (h : l.Pairwise Ahead) (t : Int) : l.take (cnt l t) = l.filter (fun v => decide (v.f ≤ t)) := (pre_split (pair_le h t)).1
theorem cnt_drop {l : List Ve} (h : l.Pairwise Ahead) (t : Int) : l.drop (cnt l t) = l.filter (fun v => decide (t < v.f)) := by
  have := (pre_split (pair_le h t)).2
  rw [show l.drop (cnt l t) = _ from this]
  congr 1
  funext v
  by_cases q : v.f ≤ t
  · first | (simp [q]; done) | (simp [q]; omega)
  · first | (simp [q]; done) | (simp [q]; omega)
theorem cntB_take {l : List Ve} (h : l.Pairwise Ahead) (t : Int) : l.take (cntB l t) = l.filter (fun v => decide (v.f < t)) := (pre_split (pair_lt h t)).1
/-- Where a version's own place begins. -/
theorem begin_is {l : List Ve} (h : l.Pairwise Ahead) (t : Int) : (cntB l t = cnt l t ∧ ∀ v, l[cnt l t - 1]? = some v → 0 < cnt l t → v.f ≠ t) ∨ (0 < cnt l t ∧ cntB l t = cnt l t - 1 ∧ ∀ v, l[cnt l t - 1]? = some v → v.f = t) := by
  have hle : cntB l t ≤ cnt l t := List.countP_mono_left fun v _ e => by have := of_decide_eq_true e; exact decide_eq_true (by omega)
  have hl := cnt_le l t
  by_cases h0 : cnt l t = 0
  · exact .inl ⟨by omega, fun v _ q => by omega⟩
  · obtain ⟨v, hv⟩ : ∃ v, l[cnt l t - 1]? = some v := ⟨_, List.getElem?_eq_getElem (by omega)⟩
    have h1 := cnt_iff h hv t
    have h2 := cntB_iff h hv t
    by_cases he : v.f = t
    · refine .inr ⟨by omega, ?_, fun u hu => by rw [hv] at hu; cases hu; exact he⟩
      by_cases h3 : cnt l t = 1
      · omega
      · obtain ⟨u, hu⟩ : ∃ u, l[cnt l t - 2]? = some u := ⟨_, List.getElem?_eq_getElem (by omega)⟩
        have h4 := cntB_iff h hu t
        have h5 : u.f < v.f := by
          obtain ⟨i1, e1⟩ := List.getElem?_eq_some_iff.1 hu
          obtain ⟨i2, e2⟩ := List.getElem?_eq_some_iff.1 hv
          have := List.pairwise_iff_getElem.1 h (cnt l t - 2) (cnt l t - 1) i1 i2 (by omega)
          rw [e1, e2] at this
          exact this.1
        omega
    · refine .inl ⟨by omega, fun u hu _ => by rw [hv] at hu; cases hu; exact he⟩
def tErr (l : List Ve) : Int := if TabMay l then 0 else 100
theorem tErr_yes {l : List Ve} (h : TabMay l) : tErr l = 0 := if_pos h
theorem tErr_no {l : List Ve} (h : ¬ TabMay l) : tErr l = 100 := if_neg h
/-- The version of an instant; the next one's From; the price of a band. -/
def verO (l : List Ve) (t : Int) : Option Ve := if TabMay l ∧ 0 < cnt l t then l[cnt l t - 1]? else none
def atO (l : List Ve) (t : Int) : Option Int := if TabMay l ∧ 0 < cnt l t then some ((cnt l t : Int) - 1) else none
def nextO (l : List Ve) (t : Int) : Option Int := if TabMay l then l[cnt l t]?.map (·.f) else none
def priceO (l : List Ve) (t band : Int) : Option Int := (verO l t).bind fun v => if 0 ≤ band then v.ps[band.toNat]? else none
/-- The instants at which versions begin, above one and below another one. -/
def spansL (l : List Ve) (t u : Int) : List Int := if TabMay l then (l.filter fun v => decide (t < v.f ∧ v.f < u)).map (·.f) else []
/-- A table with a version more. -/
def withL (l : List Ve) (v : Ve) : List Ve := l.filter (fun u => decide (u.f < v.f)) ++ v :: l.filter (fun u => decide (v.f < u.f))
def WithMay (l : List Ve) (v : Ve) : Prop := TabMay l ∧ TabMay (withL l v)
instance (l : List Ve) (v : Ve) : Decidable (WithMay l v) := by unfold WithMay; infer_instance
end Go.Proofs.YthlpigffjbhmoaaDoor
