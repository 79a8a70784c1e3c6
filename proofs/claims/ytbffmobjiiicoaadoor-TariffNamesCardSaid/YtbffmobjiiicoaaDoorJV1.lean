/- Joined: VMath VOpen VChk VCheck VFind VGets. -/
import Derived.Test.YtbffmobjiiicoaaDoorProg
import Derived.RangeFuncNested
import Derived.RangeFuncBox
import Derived.OpenShut
import Derived.Maps.AppendAt
import Derived.Laws.OwnMore
import Derived.RegionTactic
import Derived.OwnWalk
import Derived.OwnWalkIn
import Derived.Below
import Derived.WalkKit
import Derived.Shelf.Abstract
import Derived.Lib.Hide
import Derived.ChangeArms
import Derived.WideShapes
import Derived.ShutString
import Derived.ChangeOld
import Derived.Stop.Joined
import Derived.Deep.Strs
import Derived.Lib.SmallJoins
import Derived.Deep.Slices
import Derived.Deep.MidRow
import Derived.Deep.SlicePairs
import Derived.WalkLawsBesides
import Derived.LoopTactic
import Derived.Laws.Rows
import Derived.Laws.Tables
import Derived.Deep.QuietTactic
import Derived.BigQuiet
import Derived.WalkSmall
import Derived.OrdersHeld
import Derived.Deep.RegionWith
import Derived.Deep.RegionHeld3
import Derived.Deep.LoopGhost
import Derived.Deep.Draws
section
/- Tables of versions, as lists. -/
set_option linter.unusedVariables false
set_option linter.unusedSimpArgs false
namespace Go.Proofs.YtbffmobjiiicoaaDoor.V10
open Go.RowKit Go.Shelf
theorem heap_old {W : World} {b : Nat} {x : Obj} (h : W.heap[b]? = some x) (o : Obj) : (W.alloc o).heap[b]? = some x := (Below.heap_alloc W o b (Array.getElem?_eq_some_iff.1 h).1).trans h
structure Ve where
  f : Int
  ps : List Int
deriving DecidableEq
def PrMay (p : Int) : Prop := 0 ≤ p ∧ p ≤ 1073741824
instance (p : Int) : Decidable (PrMay p) := by unfold PrMay; infer_instance
def VerMay (v : Ve) : Prop := (0 ≤ v.f ∧ v.f < 253402300800) ∧ (1 ≤ v.ps.length ∧ v.ps.length ≤ 16) ∧ ∀ p ∈ v.ps, PrMay p
instance (v : Ve) : Decidable (VerMay v) := by unfold VerMay; infer_instance
/-- u may stand ahead of v. -/
def Ahead (u v : Ve) : Prop := u.f < v.f ∧ u.ps.length = v.ps.length
instance (u v : Ve) : Decidable (Ahead u v) := by unfold Ahead; infer_instance
/-- v may stand behind the versions of l. -/
def Follows (l : List Ve) (v : Ve) : Prop := l.length < 200 ∧ VerMay v ∧ ∀ u ∈ l.getLast?, Ahead u v
instance (l : List Ve) (v : Ve) : Decidable (Follows l v) := by unfold Follows; infer_instance
def TabMay (l : List Ve) : Prop := ∀ i, i < l.length → ∀ v ∈ l[i]?, Follows (l.take i) v
instance (l : List Ve) : Decidable (TabMay l) := by unfold TabMay; infer_instance
theorem tab_nil : TabMay [] := fun i hi => absurd hi (Nat.not_lt_zero _)
theorem tab_snoc (l : List Ve) (v : Ve) : TabMay (l ++ [v]) ↔ TabMay l ∧ Follows l v := by
  constructor
  · intro h
    refine ⟨fun i hi u hu => ?_, ?_⟩
    · have := h i (by simp; omega) u (by rw [List.getElem?_append_left hi]; exact hu)
      rwa [List.take_append_of_le_length (by omega)] at this
    · have := h l.length (by simp) v (by simp)
      simpa using this
  · rintro ⟨h, hv⟩ i hi u hu
    by_cases hl : i < l.length
    · rw [List.getElem?_append_left hl] at hu
      rw [List.take_append_of_le_length (by omega)]
      exact h i hl u hu
    · have hi' : i = l.length := by simp at hi; omega
      subst hi'
      simp at hu
      subst hu
      simpa using hv
theorem tab_take {l : List Ve} (h : TabMay l) (k : Nat) : TabMay (l.take k) := by
  intro i hi v hv
  have hi2 := hi
  rw [List.length_take] at hi2
  rw [List.getElem?_take_of_lt (by omega)] at hv
  have := h i (by omega) v hv
  rwa [List.take_take, Nat.min_eq_left (by omega)]
theorem tab_at {l : List Ve} (h : TabMay l) {i : Nat} {v : Ve} (hv : l[i]? = some v) : Follows (l.take i) v := h i (List.getElem?_eq_some_iff.1 hv).1 v hv
theorem tab_len {l : List Ve} (h : TabMay l) : l.length ≤ 200 := by
  cases hl : l.length with
  | zero => omega
  | succ n =>
    have hv : l[n]? = some l[n] := List.getElem?_eq_getElem (by omega)
    have := (tab_at h hv).1
    rw [List.length_take] at this
    omega
theorem tab_ver {l : List Ve} (h : TabMay l) {v : Ve} (hv : v ∈ l) : VerMay v := by
  obtain ⟨i, hi, rfl⟩ := List.getElem_of_mem hv
  exact (tab_at h (List.getElem?_eq_getElem hi)).2.1
theorem last_snoc {l : List Ve} {u : Ve} (h : l.getLast? = some u) : ∃ r, l = r ++ [u] := by
  obtain ⟨r, rfl⟩ := List.getLast?_eq_some_iff.1 h
  exact ⟨r, rfl⟩
theorem tab_pair : ∀ (n : Nat) (l : List Ve), l.length = n → TabMay l → l.Pairwise Ahead := by
  intro n
  induction n with
  | zero => intro l hl _; rw [List.length_eq_zero_iff.1 hl]; exact List.Pairwise.nil
  | succ n ih =>
    intro l hl h
    obtain ⟨u, hu⟩ : ∃ u, l.getLast? = some u := by
      cases hg : l.getLast? with
      | none => rw [List.getLast?_eq_none_iff.1 hg] at hl; simp at hl
      | some u => exact ⟨u, rfl⟩
    obtain ⟨r, rfl⟩ := last_snoc hu
    obtain ⟨h1, h2⟩ := (tab_snoc r u).1 h
    have hp := ih r (by simpa using hl) h1
    refine List.pairwise_append.2 ⟨hp, List.pairwise_singleton _ _, fun x hx y hy => ?_⟩
    rw [List.mem_singleton.1 hy]
    cases hg : r.getLast? with
    | none => rw [List.getLast?_eq_none_iff.1 hg] at hx; cases hx
    | some z =>
      have hz := h2.2.2 z hg
      obtain ⟨r', rfl⟩ := last_snoc hg
      rcases List.mem_append.1 hx with q | q
      · have := (List.pairwise_append.1 hp).2.2 x q z (by simp)
        unfold Ahead at this hz ⊢
        omega
      · rw [List.mem_singleton.1 q]; exact hz
theorem pair_tab : ∀ (n : Nat) (l : List Ve), l.length = n → n ≤ 200 → (∀ v ∈ l, VerMay v) → l.Pairwise Ahead → TabMay l := by
  intro n
  induction n with
  | zero => intro l hl _ _ _; rw [List.length_eq_zero_iff.1 hl]; exact tab_nil
  | succ n ih =>
    intro l hl h2 hv hp
    obtain ⟨u, hu⟩ : ∃ u, l.getLast? = some u := by
      cases hg : l.getLast? with
      | none => rw [List.getLast?_eq_none_iff.1 hg] at hl; simp at hl
      | some u => exact ⟨u, rfl⟩
    obtain ⟨r, rfl⟩ := last_snoc hu
    have hq := List.pairwise_append.1 hp
    refine (tab_snoc r u).2 ⟨ih r (by simpa using hl) (by omega) (fun v q => hv v (by simp [q])) hq.1, by simp at hl; omega, hv u (by simp), fun z hz => ?_⟩
    obtain ⟨r', rfl⟩ := last_snoc hz
    exact hq.2.2 z (by simp) u (by simp)
theorem tab_iff (l : List Ve) : TabMay l ↔ l.length ≤ 200 ∧ (∀ v ∈ l, VerMay v) ∧ l.Pairwise Ahead :=
  ⟨fun h => ⟨tab_len h, fun v hv => tab_ver h hv, tab_pair _ l rfl h⟩, fun h => pair_tab _ l rfl h.1 h.2.1 h.2.2⟩
/-- Of a list at whose beginning all stand that are p. -/
theorem pre_split {p : Ve → Bool} : ∀ {l : List Ve}, l.Pairwise (fun u v => p v = true → p u = true) → l.take (l.countP p) = l.filter p ∧ l.drop (l.countP p) = l.filter (fun x => !p x)
  | [], _ => ⟨rfl, rfl⟩
  | u :: l, h => by
    obtain ⟨h1, h2⟩ := List.pairwise_cons.1 h
    obtain ⟨e1, e2⟩ := pre_split h2
    by_cases hu : p u = true
    · rw [List.countP_cons_of_pos hu, List.filter_cons_of_pos hu, List.filter_cons_of_neg (by simp [hu])]
      exact ⟨by rw [List.take_succ_cons, e1], by rw [List.drop_succ_cons, e2]⟩
    · have hn : ∀ v ∈ l, ¬ p v = true := fun v hv q => hu (h1 v hv q)
      have hz : l.countP p = 0 := List.countP_eq_zero.2 hn
      rw [List.countP_cons_of_neg hu, List.filter_cons_of_neg hu, List.filter_cons_of_pos (by simp [hu]), hz]
      refine ⟨?_, ?_⟩
      · rw [List.take_zero, ← e1, hz, List.take_zero]
      · rw [List.drop_zero, ← e2, hz, List.drop_zero]
theorem pre_iff {p : Ve → Bool} : ∀ {l : List Ve}, l.Pairwise (fun u v => p v = true → p u = true) → ∀ {i : Nat} {v : Ve}, l[i]? = some v → (p v = true ↔ i < l.countP p)
  | [], _, i, v, h => by simp at h
  | u :: l, h, i, v, hv => by
    obtain ⟨h1, h2⟩ := List.pairwise_cons.1 h
    by_cases hu : p u = true
    · rw [List.countP_cons_of_pos hu]
      cases i with
      | zero => simp at hv; subst hv; simp [hu]
      | succ i =>
        rw [List.getElem?_cons_succ] at hv
        have := pre_iff h2 hv
        rw [this]; omega
    · have hn : ∀ v ∈ l, ¬ p v = true := fun v hv q => hu (h1 v hv q)
      have hz : l.countP p = 0 := List.countP_eq_zero.2 hn
      rw [List.countP_cons_of_neg hu, hz]
      cases i with
      | zero => simp at hv; subst hv; simp [hu]
      | succ i =>
        rw [List.getElem?_cons_succ] at hv
        have := hn v (List.mem_of_getElem? hv)
        simp [this]
/-- How many versions begin by t. -/
def cnt (l : List Ve) (t : Int) : Nat := l.countP fun v => decide (v.f ≤ t)
def cntB (l : List Ve) (t : Int) : Nat := l.countP fun v => decide (v.f < t)
theorem cnt_le (l : List Ve) (t : Int) : cnt l t ≤ l.length := List.countP_le_length
theorem cntB_le (l : List Ve) (t : Int) : cntB l t ≤ l.length := List.countP_le_length
theorem pair_le {l : List Ve} (h : l.Pairwise Ahead) (t : Int) : l.Pairwise (fun u v => decide (v.f ≤ t) = true → decide (u.f ≤ t) = true) :=
  h.imp fun {u v} q e => by have := of_decide_eq_true e; exact decide_eq_true (by unfold Ahead at q; omega)
theorem pair_lt {l : List Ve} (h : l.Pairwise Ahead) (t : Int) : l.Pairwise (fun u v => decide (v.f < t) = true → decide (u.f < t) = true) :=
  h.imp fun {u v} q e => by have := of_decide_eq_true e; exact decide_eq_true (by unfold Ahead at q; omega)
theorem cnt_iff {l : List Ve} (h : l.Pairwise Ahead) {i : Nat} {v : Ve} (hv : l[i]? = some v) (t : Int) : v.f ≤ t ↔ i < cnt l t := by
  have := pre_iff (pair_le h t) hv
  rw [decide_eq_true_iff] at this
  exact this
theorem cntB_iff {l : List Ve} (h : l.Pairwise Ahead) {i : Nat} {v : Ve} (hv : l[i]? = some v) (t : Int) : v.f < t ↔ i < cntB l t := by
  have := pre_iff (pair_lt h t) hv
  rw [decide_eq_true_iff] at this
  exact this
theorem cnt_take {l : List Ve} (h : l.Pairwise Ahead) (t : Int) : l.take (cnt l t) = l.filter (fun v => decide (v.f ≤ t)) := (pre_split (pair_le h t)).1
theorem cnt_drop {l : List Ve} (h : l.Pairwise Ahead) (t : Int) : l.drop (cnt l t) = l.filter (fun v => decide (t < v.f)) := by
  have := (pre_split (pair_le h t)).2
  rw [show l.drop (cnt l t) = _ from this]
  congr 1
  funext v
  by_cases q : v.f ≤ t
  · first | (simp [q]; done) | (simp [q]; omega)
  · first | (simp [q]; done) | (simp [q]; omega)
theorem cntB_take {l : List Ve} (h : l.Pairwise Ahead) (t : Int) : l.take (cntB l t) = l.filter (fun v => decide (v.f < t)) := (pre_split (pair_lt h t)).1
/-- Where a version's own place begins. -/
theorem begin_is {l : List Ve} (h : l.Pairwise Ahead) (t : Int) : (cntB l t = cnt l t ∧ ∀ v, l[cnt l t - 1]? = some v → 0 < cnt l t → v.f ≠ t) ∨ (0 < cnt l t ∧ cntB l t = cnt l t - 1 ∧ ∀ v, l[cnt l t - 1]? = some v → v.f = t) := by
  have hle : cntB l t ≤ cnt l t := List.countP_mono_left fun v _ e => by have := of_decide_eq_true e; exact decide_eq_true (by omega)
  have hl := cnt_le l t
  by_cases h0 : cnt l t = 0
  · exact .inl ⟨by omega, fun v _ q => by omega⟩
  · obtain ⟨v, hv⟩ : ∃ v, l[cnt l t - 1]? = some v := ⟨_, List.getElem?_eq_getElem (by omega)⟩
    have h1 := cnt_iff h hv t
    have h2 := cntB_iff h hv t
    by_cases he : v.f = t
    · refine .inr ⟨by omega, ?_, fun u hu => by rw [hv] at hu; cases hu; exact he⟩
      by_cases h3 : cnt l t = 1
      · omega
      · obtain ⟨u, hu⟩ : ∃ u, l[cnt l t - 2]? = some u := ⟨_, List.getElem?_eq_getElem (by omega)⟩
        have h4 := cntB_iff h hu t
        have h5 : u.f < v.f := by
          obtain ⟨i1, e1⟩ := List.getElem?_eq_some_iff.1 hu
          obtain ⟨i2, e2⟩ := List.getElem?_eq_some_iff.1 hv
          have := List.pairwise_iff_getElem.1 h (cnt l t - 2) (cnt l t - 1) i1 i2 (by omega)
          rw [e1, e2] at this
          exact this.1
        omega
    · refine .inl ⟨by omega, fun u hu _ => by rw [hv] at hu; cases hu; exact he⟩
def tErr (l : List Ve) : Int := if TabMay l then 0 else 100
theorem tErr_yes {l : List Ve} (h : TabMay l) : tErr l = 0 := if_pos h
theorem tErr_no {l : List Ve} (h : ¬ TabMay l) : tErr l = 100 := if_neg h
/-- The version of an instant; the next one's From; the price of a band. -/
def verO (l : List Ve) (t : Int) : Option Ve := if TabMay l ∧ 0 < cnt l t then l[cnt l t - 1]? else none
def atO (l : List Ve) (t : Int) : Option Int := if TabMay l ∧ 0 < cnt l t then some ((cnt l t : Int) - 1) else none
def nextO (l : List Ve) (t : Int) : Option Int := if TabMay l then l[cnt l t]?.map (·.f) else none
def priceO (l : List Ve) (t band : Int) : Option Int := (verO l t).bind fun v => if 0 ≤ band then v.ps[band.toNat]? else none
/-- The instants at which versions begin, above one and below another one. -/
def spansL (l : List Ve) (t u : Int) : List Int := if TabMay l then (l.filter fun v => decide (t < v.f ∧ v.f < u)).map (·.f) else []
/-- A table with a version more. -/
def withL (l : List Ve) (v : Ve) : List Ve := l.filter (fun u => decide (u.f < v.f)) ++ v :: l.filter (fun u => decide (v.f < u.f))
def WithMay (l : List Ve) (v : Ve) : Prop := TabMay l ∧ TabMay (withL l v)
instance (l : List Ve) (v : Ve) : Decidable (WithMay l v) := by unfold WithMay; infer_instance
end Go.Proofs.YtbffmobjiiicoaaDoor.V10
end
section
/- Tables and versions that came in. -/
namespace Go.Proofs.YtbffmobjiiicoaaDoor.V10
open Go.ChangeShapes Go.WideShapes Go.RowKit
set_option linter.unusedVariables false
/-- The prices lie from a on, in a block below B. -/
def PrAt (B : Nat) (W : World) (a : Option Addr) (ps : List Int) : Prop :=
  ∀ i p, ps[i]? = some p → ∃ b o, a = some ⟨b, o, none⟩ ∧ b < B ∧ W.cell? ⟨b, o + i, none⟩ = some (.int .i64 p)
/-- The versions lie from a on, in a block below B. -/
def VesAt (B : Nat) (W : World) (a : Option Addr) (l : List Ve) : Prop :=
  ∀ i v, l[i]? = some v → ∃ b o a' c', a = some ⟨b, o, none⟩ ∧ b < B ∧ W.cell? ⟨b, o + i * 2, none⟩ = some (.int .i64 v.f) ∧ W.cell? ⟨b, o + i * 2 + 1, none⟩ = some (.slice a' v.ps.length c') ∧ (v.ps.length ≤ c' ∧ c' ≤ maxLen) ∧ PrAt B W a' v.ps
theorem PrAt.next {B n : Nat} {W X : World} {a : Option Addr} {ps : List Int} (h : PrAt B W a ps) (hB : Below n W X) (hn : B ≤ n) : PrAt B X a ps := by
  intro i p hi
  obtain ⟨b, o, e, hb, h0⟩ := h i p hi
  have hx : ∀ k, X.cell? ⟨b, k, none⟩ = W.cell? ⟨b, k, none⟩ := fun k => hB.cell (p := ⟨b, k, none⟩) (by show b < n; omega)
  exact ⟨b, o, e, hb, (hx _).trans h0⟩
theorem PrAt.mono {B B' : Nat} {W : World} {a : Option Addr} {ps : List Int} (h : PrAt B W a ps) (hB : B ≤ B') : PrAt B' W a ps := fun i p hi => by
  obtain ⟨b, o, e, hb, k⟩ := h i p hi; exact ⟨b, o, e, by omega, k⟩
theorem PrAt.nil {B : Nat} {W : World} {a : Option Addr} : PrAt B W a [] := fun i p hi => by simp at hi
theorem VesAt.next {B n : Nat} {W X : World} {a : Option Addr} {l : List Ve} (h : VesAt B W a l) (hB : Below n W X) (hn : B ≤ n) : VesAt B X a l := by
  intro i v hi
  obtain ⟨b, o, a', c', e, hb, h0, h1, hc, h2⟩ := h i v hi
  have hx : ∀ k, X.cell? ⟨b, k, none⟩ = W.cell? ⟨b, k, none⟩ := fun k => hB.cell (p := ⟨b, k, none⟩) (by show b < n; omega)
  exact ⟨b, o, a', c', e, hb, (hx _).trans h0, (hx _).trans h1, hc, h2.next hB hn⟩
theorem VesAt.mono {B B' : Nat} {W : World} {a : Option Addr} {l : List Ve} (h : VesAt B W a l) (hB : B ≤ B') : VesAt B' W a l := fun i v hi => by
  obtain ⟨b, o, a', c', e, hb, h0, h1, hc, h2⟩ := h i v hi; exact ⟨b, o, a', c', e, by omega, h0, h1, hc, h2.mono hB⟩
theorem VesAt.nil {B : Nat} {W : World} {a : Option Addr} : VesAt B W a [] := fun i v hi => by simp at hi
theorem VesAt.take {B : Nat} {W : World} {a : Option Addr} {l : List Ve} (h : VesAt B W a l) (k : Nat) : VesAt B W a (l.take k) := fun i v hi => h i v (by
  rw [List.getElem?_take] at hi
  split at hi
  · exact hi
  · cases hi)
theorem VesAt.grow {W X : World} {a : Option Addr} {l : List Ve} (h : VesAt W.heap.size W a l) (hB : Below W.heap.size W X) : VesAt X.heap.size X a l := (h.next hB (Nat.le_refl _)).mono hB.size
theorem PrAt.grow {W X : World} {a : Option Addr} {ps : List Int} (h : PrAt W.heap.size W a ps) (hB : Below W.heap.size W X) : PrAt X.heap.size X a ps := (h.next hB (Nat.le_refl _)).mono hB.size
theorem VesAt.from {n : Nat} {w W : World} {a : Option Addr} {l : List Ve} (h : VesAt n w a l) (hB : Below n w W) (hn : n ≤ w.heap.size) : VesAt W.heap.size W a l := (h.next hB (Nat.le_refl _)).mono (Nat.le_trans hn hB.size)
theorem PrAt.from {n : Nat} {w W : World} {a : Option Addr} {ps : List Int} (h : PrAt n w a ps) (hB : Below n w W) (hn : n ≤ w.heap.size) : PrAt W.heap.size W a ps := (h.next hB (Nat.le_refl _)).mono (Nat.le_trans hn hB.size)
abbrev verV (f : Int) (a : Option Addr) (n c : Nat) : Value := .agg #[.int .i64 f, .slice a n c]
section
variable {H : Type} {enc : TypeId × Value → H} {W : World} {base : Nat} {sp : Nat → Bool} {held : Bool} {fuel : Nat}
theorem i64_cell {c : Value} {x : DataW H × List MemPlace} (h : DataW.trod enc Tryd.prog W base sp held fuel 2 [c] = some x) : ∃ n : Int, c = .int .i64 n := by
  obtain ⟨n, e, _, hw⟩ := DataW.trod_int Tryd.underlying2 h
  exact ⟨n, by simpa using e⟩
theorem trod_struct2' {t : TypeId} {f0 f1 : Field} {cs : List Value} {x : DataW H × List MemPlace} (ht : Tryd.prog.underlying t = some (.struct #[f0, f1])) (h : DataW.trod enc Tryd.prog W base sp held fuel t cs = some x) :
    ∃ y0 y1 n, cs.length = Tryd.prog.cellsOf t ∧ DataW.trod enc Tryd.prog W base sp held n f0.type ((cs.drop f0.offset).take (Tryd.prog.cellsOf f0.type)) = some y0 ∧
      DataW.trod enc Tryd.prog W base sp held n f1.type ((cs.drop f1.offset).take (Tryd.prog.cellsOf f1.type)) = some y1 := by
  obtain ⟨xs, n, _, rfl, hl, hlen, hf⟩ := DataW.trod_struct ht h
  match xs, hlen with
  | [y0, y1], _ => exact ⟨y0, y1, n, hl, by simpa using hf 0 f0 rfl, by simpa using hf 1 f1 rfl⟩
theorem list_of (n : Nat) (F : Nat → Int) : ((List.range n).map F).length = n ∧ ∀ i p, ((List.range n).map F)[i]? = some p → i < n ∧ p = F i := by
  refine ⟨by simp, fun i p hi => ?_⟩
  obtain ⟨h, e⟩ := List.getElem?_eq_some_iff.1 hi
  simp at h e
  exact ⟨h, e.symm⟩
theorem open_prs {c : Value} {x : DataW H × List MemPlace} (h : DataW.trod enc Tryd.prog W base sp held fuel 42 [c] = some x) :
    ∃ (a : Option Addr) (cap : Nat) (ps : List Int), c = .slice a ps.length cap ∧ (ps.length ≤ cap ∧ cap ≤ maxLen) ∧ PrAt W.heap.size W a ps := by
  rcases Go.Deep.open_slice Tryd.underlying42 h with ⟨hc, _⟩ | ⟨a, len, cap, m, n, D, Pl, hc, _, hl, hm, hmm, _, hx⟩
  · obtain rfl : c = .slice none 0 0 := by simpa using hc
    exact ⟨none, 0, [], rfl, ⟨Nat.le_refl _, Nat.zero_le _⟩, PrAt.nil⟩
  · obtain rfl : c = .slice (some a) len cap := by simpa using hc
    have hk : Tryd.prog.cellsOf 2 = 1 := by kernel_rfl
    rw [hk] at hx
    have hlm : len ≤ m := by rw [hmm]; split <;> omega
    have each : ∀ i : Nat, ∃ r : Int, i < len → ∃ b o, (some a : Option Addr) = some ⟨b, o, none⟩ ∧ b < W.heap.size ∧ W.cell? ⟨b, o + i, none⟩ = some (.int .i64 r) := by
      intro i
      by_cases hi : i < len
      · obtain ⟨cs, h1, h2⟩ := hx i (by omega)
        obtain ⟨_, hlen, hcell⟩ := World.cells?_some h1
        match cs, hlen with
        | [v], _ =>
          obtain ⟨r, rfl⟩ := i64_cell h2
          obtain ⟨b, o, spot⟩ := a
          obtain ⟨cs0, g1, g2⟩ := hx 0 (by omega)
          obtain ⟨_, hlen0, hcell0⟩ := World.cells?_some g1
          match cs0, hlen0 with
          | [v0], _ =>
            have c0 := hcell0 0 (by omega)
            have hspot : spot = none := by
              have := World.cell?_spot c0
              simpa [Addr.add] using this
            subst hspot
            simp only [Addr.add_mid] at hcell
            have q := hcell 0 (by omega)
            exact ⟨r, fun _ => ⟨b, o, rfl, World.block_lt_of_cell? W _ q, by simpa using q⟩⟩
      · exact ⟨0, fun h => absurd h hi⟩
    obtain ⟨R, hR⟩ := Classical.axiomOfChoice each
    obtain ⟨e1, e2⟩ := list_of len R
    refine ⟨some a, cap, (List.range len).map R, by rw [e1], by rw [e1]; exact ⟨hl, hm⟩, fun i p hp => ?_⟩
    obtain ⟨hi, rfl⟩ := e2 i p hp
    exact hR i hi
structure Vm where
  f : Int
  a : Option Addr
  c : Nat
  ps : List Int
set_option maxRecDepth 100000 in
theorem ver_cells {cs : List Value} {x : DataW H × List MemPlace} (hl : cs.length = 2) (h : DataW.trod enc Tryd.prog W base sp held fuel 44 cs = some x) :
    ∃ r : Vm, cs = [.int .i64 r.f, .slice r.a r.ps.length r.c] ∧ (r.ps.length ≤ r.c ∧ r.c ≤ maxLen) ∧ PrAt W.heap.size W r.a r.ps := by
  have k1 : Tryd.prog.cellsOf 2 = 1 := by kernel_rfl
  have k2 : Tryd.prog.cellsOf 42 = 1 := by kernel_rfl
  match cs, hl with
  | [a, b], _ =>
    obtain ⟨y0, y1, n, _, h0, h1⟩ := trod_struct2' Tryd.underlying44 h
    simp only [k1, k2, List.drop, List.take] at h0 h1
    obtain ⟨v0, rfl⟩ := i64_cell h0
    obtain ⟨a', c', ps, rfl, e, hp⟩ := open_prs h1
    exact ⟨⟨v0, a', c', ps⟩, rfl, e, hp⟩
theorem open_vers {c : Value} {x : DataW H × List MemPlace} (h : DataW.trod enc Tryd.prog W base sp held fuel 38 [c] = some x) :
    ∃ (a : Option Addr) (cap : Nat) (l : List Ve), c = .slice a l.length cap ∧ (l.length ≤ cap ∧ cap ≤ maxLen) ∧ VesAt W.heap.size W a l := by
  rcases Go.Deep.open_slice Tryd.underlying38 h with ⟨hc, _⟩ | ⟨a, len, cap, m, n, D, Q, hc, _, hl, hm, hmm, _, hx⟩
  · obtain rfl : c = .slice none 0 0 := by simpa using hc
    exact ⟨none, 0, [], rfl, ⟨Nat.le_refl _, Nat.zero_le _⟩, VesAt.nil⟩
  · obtain rfl : c = .slice (some a) len cap := by simpa using hc
    have hk : Tryd.prog.cellsOf 44 = 2 := by kernel_rfl
    rw [hk] at hx
    have hlm : len ≤ m := by rw [hmm]; split <;> omega
    have each : ∀ i : Nat, ∃ r : Ve, i < len → ∃ b o a' c', (some a : Option Addr) = some ⟨b, o, none⟩ ∧ b < W.heap.size ∧ W.cell? ⟨b, o + i * 2, none⟩ = some (.int .i64 r.f) ∧ W.cell? ⟨b, o + i * 2 + 1, none⟩ = some (.slice a' r.ps.length c') ∧ (r.ps.length ≤ c' ∧ c' ≤ maxLen) ∧ PrAt W.heap.size W a' r.ps := by
      intro i
      by_cases hi : i < len
      · obtain ⟨cs, h1, h2⟩ := hx i (by omega)
        obtain ⟨_, hlen, hcell⟩ := World.cells?_some h1
        obtain ⟨r, rfl, e, hp⟩ := ver_cells hlen h2
        obtain ⟨b, o, spot⟩ := a
        obtain ⟨cs0, g1, g2⟩ := hx 0 (by omega)
        obtain ⟨_, hlen0, hcell0⟩ := World.cells?_some g1
        obtain ⟨r0, rfl, _⟩ := ver_cells hlen0 g2
        have c0 := hcell0 0 (by omega)
        have hspot : spot = none := by
          have := World.cell?_spot c0
          simpa [Addr.add] using this
        subst hspot
        simp only [Addr.add_mid] at hcell
        exact ⟨⟨r.f, r.ps⟩, fun _ => ⟨b, o, r.a, r.c, rfl, World.block_lt_of_cell? W _ (hcell 0 (by omega)), hcell 0 (by omega), hcell 1 (by omega), e, hp⟩⟩
      · exact ⟨⟨0, []⟩, fun h => absurd h hi⟩
    obtain ⟨R, hR⟩ := Classical.axiomOfChoice each
    refine ⟨some a, cap, (List.range len).map R, by simp, by simp; exact ⟨hl, hm⟩, fun i v hv => ?_⟩
    obtain ⟨h, e⟩ := List.getElem?_eq_some_iff.1 hv
    simp at h e
    subst e
    exact hR i h
theorem cells2 {cs : Array Value} (h : cs.size = 2) : ∃ a b, cs = #[a, b] := by
  obtain ⟨l⟩ := cs
  match l, h with
  | [a, b], _ => exact ⟨a, b, rfl⟩
set_option maxRecDepth 100000 in
/-- An argument that is a table. -/
theorem open_tab {base2 : Nat} {r : Reach} {v : Value} {d : DataW H} {p : List MemPlace} (hv : Value.okWide Tryd.prog W r base 38 v) (h : DataW.Trod enc Tryd.prog W base2 sp held 38 v d p) :
    ∃ (a : Option Addr) (cap : Nat) (l : List Ve), v = .slice a l.length cap ∧ (l.length ≤ cap ∧ cap ≤ maxLen) ∧ VesAt W.heap.size W a l := by
  obtain ⟨a, len, cap, rfl⟩ := okWide_slice Tryd.underlying38 hv
  obtain ⟨fuel, hf⟩ := h
  exact open_vers (show DataW.trod enc Tryd.prog W base2 sp held fuel 38 [.slice a len cap] = some _ by simpa [Value.cells] using hf)
set_option maxRecDepth 100000 in
/-- An argument that is a version. -/
theorem open_ver {base2 : Nat} {r : Reach} {v : Value} {d : DataW H} {p : List MemPlace} (hv : Value.okWide Tryd.prog W r base 44 v) (h : DataW.Trod enc Tryd.prog W base2 sp held 44 v d p) :
    ∃ (f : Int) (a : Option Addr) (cap : Nat) (ps : List Int), v = verV f a ps.length cap ∧ (ps.length ≤ cap ∧ cap ≤ maxLen) ∧ PrAt W.heap.size W a ps := by
  obtain ⟨cs, rfl, hsz⟩ := okWide_struct Tryd.underlying44 hv
  obtain ⟨a, b, rfl⟩ := cells2 (hsz.trans (show Tryd.prog.cellsOf 44 = 2 by kernel_rfl))
  obtain ⟨fuel, hf⟩ := h
  obtain ⟨q, e, e1, hp⟩ := ver_cells rfl (show DataW.trod enc Tryd.prog W base2 sp held fuel 44 [a, b] = some _ by simpa [Value.cells] using hf)
  simp only [List.cons.injEq, and_true] at e
  obtain ⟨rfl, rfl⟩ := e
  exact ⟨q.f, q.a, q.c, q.ps, rfl, e1, hp⟩
end
end Go.Proofs.YtbffmobjiiicoaaDoor.V10
end
section
/- The program's Check, and what may follow. -/
set_option linter.unusedVariables false
set_option linter.unusedSimpArgs false
namespace Go.Proofs.YtbffmobjiiicoaaDoor.V10
open Go.RowKit Go.Shelf
theorem isFrom_any (n a b : Int) (w : World) : Calls Tryd.prog 79 #[.int .i64 n, .int .i64 a, .int .i64 b] w fun e w' => e = .returned (.bool (decide (a ≤ n ∧ n ≤ b))) ∧ w = w' := by
  by_cases h1 : a ≤ n
  · by_cases h2 : n ≤ b
    · rw [decide_eq_true ⟨h1, h2⟩]
      go_enter Tryd.func79, Tryd.ntmps79
      go_wp2
      go_ret
      exact ⟨rfl, rfl⟩
    · rw [decide_eq_false (fun h => h2 h.2)]
      go_enter Tryd.func79, Tryd.ntmps79
      go_wp2
      go_ret
      exact ⟨rfl, rfl⟩
  · rw [decide_eq_false (fun h => h1 h.1)]
    go_enter Tryd.func79, Tryd.ntmps79
    go_wp2
    go_ret
    exact ⟨rfl, rfl⟩
theorem isFrom_yes {n a b : Int} (h : a ≤ n ∧ n ≤ b) (w : World) : Calls Tryd.prog 79 #[.int .i64 n, .int .i64 a, .int .i64 b] w fun e w' => e = .returned (.bool true) ∧ w = w' := by
  have := isFrom_any n a b w
  rwa [decide_eq_true h] at this
theorem isFrom_no {n a b : Int} (h : ¬ (a ≤ n ∧ n ≤ b)) (w : World) : Calls Tryd.prog 79 #[.int .i64 n, .int .i64 a, .int .i64 b] w fun e w' => e = .returned (.bool false) ∧ w = w' := by
  have := isFrom_any n a b w
  rwa [decide_eq_false h] at this
theorem last_at {l : List Ve} {k : Nat} (h : l.length = k + 1) : l.getLast? = l[k]? := by
  rw [List.getLast?_eq_getElem?, h, Nat.add_sub_cancel]
set_option maxRecDepth 100000 in
set_option maxHeartbeats 4000000 in
theorem mayFollow_any (a : Option Addr) (n cap : Nat) (l : List Ve) (hn : l.length = n) (f : Int) (a' : Option Addr) (m c' : Nat) (ps : List Int) (hm : ps.length = m) (w : World) (hL : VesAt w.heap.size w a l) (hP : PrAt w.heap.size w a' ps) (hnx : n ≤ maxLen) (hmx : m ≤ maxLen) :
    Calls Tryd.prog 60 #[.slice a n cap, verV f a' m c'] w fun e w' => e = .returned (.bool (decide (Follows l ⟨f, ps⟩))) ∧ Below w.heap.size w w' := by
  unfold maxLen at hnx hmx
  have HB0 := Lib.hid ((Below.refl _ w).alloc (Nat.le_refl _) (.cells #[.int .i64 f, .slice a' m c'] 44))
  have HZ0 := Lib.hid (heap_alloc_new w (.cells #[.int .i64 f, .slice a' m c'] 44))
  have HL := Lib.hid hL
  have HP := Lib.hid hP
  have HN := Lib.hid hn
  have HM := Lib.hid hm
  clear hL hP
  by_cases h1 : 200 ≤ n
  · have g1 : (200 : Int) ≤ n := by omega
    rw [decide_eq_false (fun h : Follows l ⟨f, ps⟩ => by have := h.1; omega)]
    clear hn hm
    go_enter Tryd.func60, Tryd.ntmps60
    go_wp2
    go_ret
    exact ⟨rfl, HB0.out⟩
  have g1 : ¬ (200 : Int) ≤ n := by omega
  by_cases h2 : 0 ≤ f ∧ f ≤ 253402300799
  case neg =>
    have HF := Lib.hid (fun W : World => isFrom_no h2 W)
    rw [decide_eq_false (fun h : Follows l ⟨f, ps⟩ => by have := h.2.1.1; simp only at this; omega)]
    clear hn hm h2
    go_enter Tryd.func60, Tryd.ntmps60
    go_wp2_with fail
    refine (HF.out _).mono ?_
    rintro e w' ⟨rfl, rfl⟩
    go_wp2
    go_ret
    exact ⟨rfl, HB0.out⟩
  have HF := Lib.hid (fun W : World => isFrom_yes h2 W)
  by_cases h3 : 1 ≤ (m : Int) ∧ (m : Int) ≤ 16
  case neg =>
    have HF2 := Lib.hid (fun W : World => isFrom_no h3 W)
    rw [decide_eq_false (fun h : Follows l ⟨f, ps⟩ => by have := h.2.1.2.1; simp only at this; omega)]
    clear hn hm h2 h3
    go_enter Tryd.func60, Tryd.ntmps60
    go_wp2_with fail
    refine (HF.out _).mono ?_
    rintro e w' ⟨rfl, rfl⟩
    go_wp2_with fail
    refine (HF2.out _).mono ?_
    rintro e w' ⟨rfl, rfl⟩
    go_wp2
    go_ret
    exact ⟨rfl, HB0.out⟩
  have HF2 := Lib.hid (fun W : World => isFrom_yes h3 W)
  have H2 := Lib.hid h2
  have H3 := Lib.hid h3
  clear hn hm h2 h3
  go_enter Tryd.func60, Tryd.ntmps60
  go_wp2_with fail
  refine (HF.out _).mono ?_
  rintro e w' ⟨rfl, rfl⟩
  go_wp2_with fail
  refine (HF2.out _).mono ?_
  rintro e w' ⟨rfl, rfl⟩
  clear HF HF2
  go_wp2_with fail
  go_loopw [27] (fun i wr => ∃ k : Nat, k ≤ m ∧ i = .int .i64 k ∧ (∀ j p, j < k → ps[j]? = some p → PrMay p) ∧ wr.heap[w.heap.size]? = some (.cells #[.int .i64 f, .slice a' m c'] 44 (0, 0)) ∧ Below w.heap.size w wr) (fun i _ => (m - intOf i).toNat)
  case atStart => exact ⟨0, Nat.zero_le _, rfl, fun j p hj => absurd hj (Nat.not_lt_zero _), HZ0.out, HB0.out⟩
  case round =>
    obtain ⟨k, hk, rfl, hall, hz, hb⟩ := hrel
    have HALL := Lib.hid hall
    have HB := Lib.hid hb
    have HZ := Lib.hid hz
    have z0 : wr.cell? ⟨w.heap.size, 0, none⟩ = some (.int .i64 f) := cell_of_row _ _ 0 _ _ _ hz
    have z1 : wr.cell? ⟨w.heap.size, 1, none⟩ = some (.slice a' m c') := cell_of_row _ _ 1 _ _ _ hz
    clear hall hb hz HZ0 HB0
    by_cases hlt : k < m
    · have hlti : (k : Int) < m := by omega
      obtain ⟨p, hp⟩ : ∃ p, ps[k]? = some p := ⟨_, List.getElem?_eq_getElem (by rw [HM.out]; exact hlt)⟩
      obtain ⟨b, o, rfl, hbl, c0⟩ := HP.out.next HB.out (Nat.le_refl _) k p hp
      have HPP := Lib.hid hp
      clear hp
      by_cases hpm : 0 ≤ p ∧ p ≤ 1073741824
      · have HF := Lib.hid (fun W : World => isFrom_yes hpm W)
        have HPM := Lib.hid (show PrMay p from hpm)
        clear hpm
        go_wp2_with fail
        refine (HF.out _).mono ?_
        rintro e w' ⟨rfl, rfl⟩
        go_wp2
        go_roundw
        case rel => exact ⟨k + 1, by omega, by go_num, fun j q hj hq => by rcases Nat.lt_succ_iff_lt_or_eq.1 hj with q' | q'; exact HALL.out j q q' hq; rw [q', HPP.out] at hq; cases hq; exact HPM.out, HZ.out, HB.out⟩
        case measure => first | (simp [intOf]; done) | (simp [intOf]; omega)
      · have HF := Lib.hid (fun W : World => isFrom_no hpm W)
        have HNO := Lib.hid (show decide (Follows l ⟨f, ps⟩) = false from decide_eq_false (fun h => hpm (h.2.1.2.2 p (List.mem_of_getElem? HPP.out))))
        clear hpm
        go_wp2_with fail
        refine (HF.out _).mono ?_
        rintro e w' ⟨rfl, rfl⟩
        go_wp2
        go_ret
        rw [HNO.out]
        exact ⟨rfl, HB.out⟩
    · have hke : k = m := by omega
      subst hke
      have hnl : ¬ ((k : Int) < k) := by omega
      have HV := Lib.hid (show VerMay ⟨f, ps⟩ from ⟨by have := H2.out; simp only; omega, by have := H3.out; have := HM.out; simp only; omega, fun p hp => by
        obtain ⟨j, hj, rfl⟩ := List.getElem_of_mem hp
        exact HALL.out j _ (by have := HM.out; have hj' : j < ps.length := hj; omega) (List.getElem?_eq_getElem hj)⟩)
      by_cases hn0 : n = 0
      · have g4 : ((n : Int) == 0) = true := by simp [hn0]
        have HYES := Lib.hid (show decide (Follows l ⟨f, ps⟩) = true from decide_eq_true ⟨by have := HN.out; omega, HV.out, fun u hu => by
          have e0 : l = [] := List.length_eq_zero_iff.1 (by rw [HN.out, hn0])
          rw [e0] at hu
          cases hu⟩)
        clear hn0
        go_wp2
        go_ret
        rw [HYES.out]
        exact ⟨rfl, HB.out⟩
      · obtain ⟨j, rfl⟩ : ∃ j, n = j + 1 := ⟨n - 1, by omega⟩
        have g4 : (((j + 1 : Nat) : Int) == 0) = false := by simp; omega
        have hji : ((j + 1 : Nat) : Int) - 1 = j := by omega
        have hjl : (j : Int) < ((j + 1 : Nat) : Int) := by omega
        obtain ⟨⟨uf, ups⟩, hu⟩ : ∃ u, l[j]? = some u := ⟨_, List.getElem?_eq_getElem (by rw [HN.out]; omega)⟩
        obtain ⟨b, o, ua, uc, rfl, hbl, c0, c1, hle, hup⟩ := HL.out.next HB.out (Nat.le_refl _) j _ hu
        obtain ⟨ul, hul⟩ : ∃ ul, ups.length = ul := ⟨_, rfl⟩
        simp only at c0 c1 hle hup
        rw [hul] at c1 hle
        have HU := Lib.hid hu
        have HUL := Lib.hid hul
        have hz2 := heap_old HZ.out (.cells #[.int .i64 uf, .slice ua ul uc] 44)
        have y0 : (wr.alloc (.cells #[.int .i64 uf, .slice ua ul uc] 44)).cell? ⟨w.heap.size, 0, none⟩ = some (.int .i64 f) := cell_of_row _ _ 0 _ _ _ hz2
        have y1 : (wr.alloc (.cells #[.int .i64 uf, .slice ua ul uc] 44)).cell? ⟨w.heap.size, 1, none⟩ = some (.slice a' k c') := cell_of_row _ _ 1 _ _ _ hz2
        have HB3 := Lib.hid (HB.out.alloc HB.out.size (.cells #[.int .i64 uf, .slice ua ul uc] 44))
        have HAH := Lib.hid (fun h : Follows l ⟨f, ps⟩ => (show Ahead ⟨uf, ups⟩ ⟨f, ps⟩ from h.2.2 _ (by rw [last_at HN.out]; exact HU.out)))
        clear hu hul hz2 hn0 hup
        by_cases q1 : uf < f
        · by_cases q2 : ul = k
          · have g5 : ((ul : Int) == (k : Int)) = true := by simp [q2]
            have HYES := Lib.hid (show decide (Follows l ⟨f, ps⟩) = true from decide_eq_true ⟨by have := HN.out; omega, HV.out, fun u hu => by
              rw [last_at HN.out, HU.out] at hu
              cases hu
              exact ⟨q1, by have := HM.out; have := HUL.out; simp only; omega⟩⟩)
            clear q2
            go_wp2
            go_ret
            rw [HYES.out]
            exact ⟨rfl, HB3.out⟩
          · have g5 : ((ul : Int) == (k : Int)) = false := by simp; omega
            have HNO := Lib.hid (show decide (Follows l ⟨f, ps⟩) = false from decide_eq_false (fun h => by have := (HAH.out h).2; have := HM.out; have := HUL.out; simp only at *; omega))
            clear q2
            go_wp2
            go_ret
            rw [HNO.out]
            exact ⟨rfl, HB3.out⟩
        · have HNO := Lib.hid (show decide (Follows l ⟨f, ps⟩) = false from decide_eq_false (fun h => q1 (HAH.out h).1))
          go_wp2
          go_ret
          rw [HNO.out]
          exact ⟨rfl, HB3.out⟩
end Go.Proofs.YtbffmobjiiicoaaDoor.V10
end
section
/- The program's Check of a table. -/
set_option linter.unusedVariables false
set_option linter.unusedSimpArgs false
namespace Go.Proofs.YtbffmobjiiicoaaDoor.V10
open Go.RowKit Go.Shelf
theorem take_succ {l : List Ve} {k : Nat} {v : Ve} (h : l[k]? = some v) : l.take (k + 1) = l.take k ++ [v] := by
  rw [List.take_add_one, h]; rfl
set_option maxRecDepth 100000 in
set_option maxHeartbeats 4000000 in
theorem check_any (a : Option Addr) (n cap : Nat) (l : List Ve) (hn : l.length = n) (w : World) (hL : VesAt w.heap.size w a l) (hnx : n ≤ cap ∧ cap ≤ maxLen) :
    Calls Tryd.prog 33 #[.slice a n cap] w fun e w' => e = .returned (.int .i64 (tErr l)) ∧ Below w.heap.size w w' := by
  unfold maxLen at hnx
  obtain ⟨hcap, hmx⟩ := hnx
  have HL := Lib.hid hL
  have HN := Lib.hid hn
  have HMX := Lib.hid (show n ≤ maxLen by unfold maxLen; omega)
  clear hL hn
  go_enter Tryd.func33, Tryd.ntmps33
  go_wp2_with fail
  go_loopw [7] (fun i wr => ∃ k : Nat, k ≤ n ∧ i = .int .i64 k ∧ TabMay (l.take k) ∧ Below w.heap.size w wr) (fun i _ => (n - intOf i).toNat)
  case atStart => exact ⟨0, Nat.zero_le _, rfl, by rw [List.take_zero]; exact tab_nil, Below.refl _ _⟩
  case round =>
    obtain ⟨k, hk, rfl, htab, hb⟩ := hrel
    have HT := Lib.hid htab
    have HB := Lib.hid hb
    clear htab hb
    by_cases hlt : k < n
    · have hlti : (k : Int) < n := by omega
      obtain ⟨⟨f, ps⟩, hv⟩ : ∃ v, l[k]? = some v := ⟨_, List.getElem?_eq_getElem (by rw [HN.out]; exact hlt)⟩
      obtain ⟨b, o, pa, pc, rfl, hbl, c0, c1, hle, hup⟩ := HL.out.next HB.out (Nat.le_refl _) k _ hv
      obtain ⟨m, hm⟩ : ∃ m, ps.length = m := ⟨_, rfl⟩
      simp only at c0 c1 hle hup
      rw [hm] at c1 hle
      have HV := Lib.hid hv
      have HSUC := Lib.hid (take_succ hv)
      have hzX := heap_alloc_new wr (.cells #[.int .i64 f, .slice pa m pc] 44)
      have hbX := HB.out.alloc HB.out.size (.cells #[.int .i64 f, .slice pa m pc] 44)
      have hsX : (wr.alloc (.cells #[.int .i64 f, .slice pa m pc] 44)).heap.size = wr.heap.size + 1 := World.size_alloc _ _
      obtain ⟨X, hX⟩ : ∃ X, wr.alloc (.cells #[.int .i64 f, .slice pa m pc] 44) = X := ⟨_, rfl⟩
      rw [hX] at hzX hbX hsX
      have hXw : Below wr.heap.size wr X := by rw [← hX]; exact (Below.refl wr.heap.size wr).alloc (Nat.le_refl _) _
      have HX := Lib.hid hX
      have HM := Lib.hid (mayFollow_any (some ⟨b, o, none⟩) k cap (l.take k) (by rw [List.length_take, HN.out]; omega) f pa m pc ps hm X.drew
        (show VesAt X.drew.heap.size X.drew _ _ from ((HL.out.next hbX (Nat.le_refl _)).mono hbX.size).take k) (show PrAt X.drew.heap.size X.drew _ _ from (hup.next (hXw.drew) HB.out.size).mono hbX.size) (by have := HMX.out; omega) (by unfold maxLen at *; omega))
      have q1 : X.drew.cell? ⟨wr.heap.size, 0, none⟩ = some (.int .i64 f) ∧ X.drew.cell? ⟨wr.heap.size, 1, none⟩ = some (.slice pa m pc) := ⟨cell_of_row X _ 0 _ _ _ hzX, cell_of_row X _ 1 _ _ _ hzX⟩
      have HZX := Lib.hid hzX
      have HBX := Lib.hid hbX
      have HSX := Lib.hid hsX
      have hkn : (k : Int) ≤ cap := by omega
      have hkn' : k ≤ cap := by omega
      clear hv hm hX hzX hbX hsX hup hXw
      by_cases hf : Follows (l.take k) ⟨f, ps⟩
      · rw [decide_eq_true hf] at HM
        have HF := Lib.hid hf
        clear hf
        go_wp2_with fail
        rw [HX.out]
        go_region_held3 (fun w' => w'.cell? ⟨wr.heap.size, 0, none⟩ = some (.int .i64 f) ∧ w'.cell? ⟨wr.heap.size, 1, none⟩ = some (.slice pa m pc))
          (first | (with_reducible exact q1) | (with_reducible exact q2) | go_keep)
          (first | (go_at_call 60; ((with_reducible refine HM.out.mono ?_); rintro e w2' ⟨rfl, hB2'⟩; have g2 := (hB2'.block wr.heap.size (by rw [show X.drew.heap.size = wr.heap.size + 1 from HSX.out]; omega)).trans HZX.out; have q2 : w2'.cell? ⟨wr.heap.size, 0, none⟩ = some (.int .i64 f) ∧ w2'.cell? ⟨wr.heap.size, 1, none⟩ = some (.slice pa m pc) := ⟨cell_of_row w2' _ 0 _ _ _ g2, cell_of_row w2' _ 1 _ _ _ g2⟩; have HB2 := Lib.hid (HBX.out.drew.trans (hB2'.mono HBX.out.size)); clear g2 hB2')))
        all_goals
          rename_i hHeld
          clear hHeld q1 q2 c0 c1
          go_wp2
          go_roundw
          case rel => exact ⟨k + 1, by omega, by go_num, by rw [HSUC.out]; exact (tab_snoc _ _).2 ⟨HT.out, HF.out⟩, HB2.out⟩
          case measure => first | (simp [intOf]; done) | (simp [intOf]; omega)
      · rw [decide_eq_false hf] at HM
        have HF := Lib.hid hf
        clear hf
        go_wp2_with fail
        rw [HX.out]
        go_region_held3 (fun w' => w'.cell? ⟨wr.heap.size, 0, none⟩ = some (.int .i64 f) ∧ w'.cell? ⟨wr.heap.size, 1, none⟩ = some (.slice pa m pc))
          (first | (with_reducible exact q1) | (with_reducible exact q2) | go_keep)
          (first | (go_at_call 60; ((with_reducible refine HM.out.mono ?_); rintro e w2' ⟨rfl, hB2'⟩; have g2 := (hB2'.block wr.heap.size (by rw [show X.drew.heap.size = wr.heap.size + 1 from HSX.out]; omega)).trans HZX.out; have q2 : w2'.cell? ⟨wr.heap.size, 0, none⟩ = some (.int .i64 f) ∧ w2'.cell? ⟨wr.heap.size, 1, none⟩ = some (.slice pa m pc) := ⟨cell_of_row w2' _ 0 _ _ _ g2, cell_of_row w2' _ 1 _ _ _ g2⟩; have HB2 := Lib.hid (HBX.out.drew.trans (hB2'.mono HBX.out.size)); clear g2 hB2')))
        all_goals
          rename_i hHeld
          clear hHeld q1 q2 c0 c1
          go_wp2
          go_ret
          rw [tErr_no (fun h => HF.out (tab_at h HV.out))]
          exact ⟨rfl, HB2.out⟩
    · have hke : k = n := by omega
      subst hke
      have hnl : ¬ ((k : Int) < k) := by omega
      have HYES := Lib.hid (tErr_yes (l := l) (by have := HT.out; rwa [List.take_of_length_le (by have := HN.out; omega)] at this))
      go_wp2
      go_ret
      rw [HYES.out]
      exact ⟨rfl, HB.out⟩
end Go.Proofs.YtbffmobjiiicoaaDoor.V10
end
section
/- The program's search for the first version after an instant. -/
set_option linter.unusedVariables false
set_option linter.unusedSimpArgs false
namespace Go.Proofs.YtbffmobjiiicoaaDoor.V10
open Go.RowKit Go.Shelf
theorem below_drewN {B : Nat} {w X : World} (h : Below B w X) (n : Nat) : Below B w (X.drewN n) := ⟨h.os, h.tape, h.output, h.size, h.block⟩
set_option maxRecDepth 100000 in
set_option maxHeartbeats 2000000 in
theorem after1_any (a : Option Addr) (n cap : Nat) (l : List Ve) (hn : l.length = n) (t : Int) (Bl Bt i B : Nat) (v : Ve) (hv : l[i]? = some v) (w : World) (hl : w.cell? ⟨Bl, 0, none⟩ = some (.slice a n cap)) (ht : w.cell? ⟨Bt, 0, none⟩ = some (.int .i64 t)) (hA : VesAt B w a l) (hnx : n ≤ 1000) :
    Calls Tryd.prog 65 #[.int .i64 i, .pointer (some ⟨Bl, 0, none⟩), .pointer (some ⟨Bt, 0, none⟩)] w fun e w' => e = .returned (.bool (decide (t < v.f))) ∧ ∃ q, w' = w.drewN q := by
  obtain ⟨b, o, pa, pc, rfl, hbl, c0, c1, hle, hup⟩ := hA i v hv
  have hi : i < n := by rw [← hn]; exact (List.getElem?_eq_some_iff.1 hv).1
  have hii : (i : Int) < n := by omega
  obtain ⟨f, hf⟩ : ∃ f, v.f = f := ⟨_, rfl⟩
  rw [hf] at c0 ⊢
  clear hA hn hv c1 hup hle hf
  go_enter Tryd.func65, Tryd.ntmps65
  go_wp2_with fail
  go_quiet (fail)
  go_wp2
  go_ret
  exact ⟨rfl, _, rfl⟩
set_option maxRecDepth 100000 in
set_option maxHeartbeats 4000000 in
theorem search_any (a : Option Addr) (n cap : Nat) (l : List Ve) (hn : l.length = n) (t : Int) (Bl Bt B : Nat) (w : World) (hl : w.cell? ⟨Bl, 0, none⟩ = some (.slice a n cap)) (ht : w.cell? ⟨Bt, 0, none⟩ = some (.int .i64 t)) (hA : VesAt B w a l) (hnx : n ≤ 1000) (hp : l.Pairwise Ahead) :
    Calls Tryd.prog 64 #[.int .i64 n, .func (.func 65) #[] #[.pointer (some ⟨Bl, 0, none⟩), .pointer (some ⟨Bt, 0, none⟩)]] w fun e w' => e = .returned (.int .i64 (cnt l t)) ∧ ∃ q, w' = w.drewN q := by
  have HC := Lib.hid (fun (q i : Nat) (v : Ve) (hv : l[i]? = some v) => after1_any a n cap l hn t Bl Bt i B v hv (w.drewN q) hl ht hA hnx)
  have HP := Lib.hid hp
  have HN := Lib.hid hn
  obtain ⟨c, hc⟩ : ∃ c, cnt l t = c := ⟨_, rfl⟩
  have hcl := cnt_le l t
  rw [hc, hn] at hcl
  rw [hc]
  have HCN := Lib.hid hc
  clear hl ht hA hp hn hc
  go_enter Tryd.func64, Tryd.ntmps64
  go_wp2_with fail
  go_loopg [5, 6] n (fun kx s5 s6 wr => ∃ (lo hi q : Nat), s5 = .int .i64 lo ∧ s6 = .int .i64 hi ∧ lo ≤ hi ∧ hi ≤ n ∧ hi - lo ≤ kx ∧ wr = w.drewN q ∧ lo ≤ c ∧ c ≤ hi)
  case atStart => exact ⟨0, n, 0, rfl, rfl, Nat.zero_le _, Nat.le_refl _, by omega, rfl, Nat.zero_le _, hcl⟩
  case round =>
    obtain ⟨lo, hi, q, rfl, rfl, hlh, hin, hg, rfl, hlc, hch⟩ := hrel
    by_cases hlt : lo < hi
    · have hlti : (lo : Int) < hi := by omega
      obtain ⟨v, hv⟩ : ∃ v, l[(lo + hi) / 2]? = some v := ⟨_, List.getElem?_eq_getElem (by rw [HN.out]; omega)⟩
      have hcc := HC.out q ((lo + hi) / 2) v hv
      have hiff := cnt_iff HP.out hv t
      rw [HCN.out] at hiff
      rw [show (((lo + hi) / 2 : Nat) : Int) = ((lo : Int) + (hi : Int)) / 2 by omega] at hcc
      by_cases hf : t < v.f
      · rw [decide_eq_true hf] at hcc
        have HI := Lib.hid (show c ≤ (lo + hi) / 2 by omega)
        have HCC := Lib.hid hcc
        clear hcc hiff hf hv
        go_wp2_with fail
        refine HCC.out.mono ?_
        rintro e w' ⟨rfl, nq, rfl⟩
        go_wp2
        go_roundg ((lo + hi) / 2 - lo)
        case measure => omega
        case rel => exact ⟨lo, (lo + hi) / 2, q + nq, rfl, by rw [show ((lo : Int) + (hi : Int)) / 2 = (((lo + hi) / 2 : Nat) : Int) by omega], by omega, by omega, Nat.le_refl _, rfl, hlc, HI.out⟩
      · rw [decide_eq_false hf] at hcc
        have HI := Lib.hid (show (lo + hi) / 2 + 1 ≤ c by omega)
        have HCC := Lib.hid hcc
        clear hcc hiff hf hv
        go_wp2_with fail
        refine HCC.out.mono ?_
        rintro e w' ⟨rfl, nq, rfl⟩
        go_wp2
        go_roundg (hi - ((lo + hi) / 2 + 1))
        case measure => omega
        case rel => exact ⟨(lo + hi) / 2 + 1, hi, q + nq, by rw [show ((lo : Int) + (hi : Int)) / 2 + 1 = (((lo + hi) / 2 + 1 : Nat) : Int) by omega], rfl, by have := HI.out; omega, hin, Nat.le_refl _, rfl, HI.out, hch⟩
    · obtain rfl : hi = lo := by omega
      obtain rfl : c = hi := by omega
      go_wp2
      go_ret
      exact ⟨rfl, q, rfl⟩
set_option maxRecDepth 100000 in
set_option maxHeartbeats 2000000 in
theorem after_any (a : Option Addr) (n cap : Nat) (l : List Ve) (hn : l.length = n) (t : Int) (w : World) (hA : VesAt w.heap.size w a l) (ht : TabMay l) :
    Calls Tryd.prog 40 #[.slice a n cap, .int .i64 t] w fun e w' => e = .returned (.int .i64 (cnt l t)) ∧ Below w.heap.size w w' := by
  have hb1 := ((Below.refl _ w).alloc (Nat.le_refl _) (.cells #[.slice a n cap] 38)).alloc (by simp) (.cells #[.int .i64 t] 2)
  have z0 : ((w.alloc (.cells #[.slice a n cap] 38)).alloc (.cells #[.int .i64 t] 2)).heap[w.heap.size]? = some (.cells #[.slice a n cap] 38 (0, 0)) := heap_old (heap_alloc_new w _) _
  have z1 : ((w.alloc (.cells #[.slice a n cap] 38)).alloc (.cells #[.int .i64 t] 2)).heap[w.heap.size + 1]? = some (.cells #[.int .i64 t] 2 (0, 0)) := by
    have := heap_alloc_new (w.alloc (.cells #[.slice a n cap] 38)) (.cells #[.int .i64 t] 2); rw [World.size_alloc] at this; exact this
  have HS := Lib.hid (search_any a n cap l hn t w.heap.size (w.heap.size + 1) w.heap.size _ (cell_of_row _ _ 0 _ _ _ z0) (cell_of_row _ _ 0 _ _ _ z1) (hA.next hb1 (Nat.le_refl _)) (by have := tab_len ht; omega) (tab_pair _ l rfl ht))
  have HB := Lib.hid hb1
  clear hb1 z0 z1 hA ht hn
  go_enter Tryd.func40, Tryd.ntmps40
  go_wp2_with fail
  refine HS.out.mono ?_
  rintro e w' ⟨rfl, q, rfl⟩
  go_wp2
  go_ret
  exact ⟨rfl, below_drewN HB.out q⟩
end Go.Proofs.YtbffmobjiiicoaaDoor.V10
end
section
/- The program's At, Price and Next. -/
set_option linter.unusedVariables false
set_option linter.unusedSimpArgs false
namespace Go.Proofs.YtbffmobjiiicoaaDoor.V10
open Go.RowKit Go.Shelf
theorem ver_some {l : List Ve} {t : Int} {v : Ve} (h : verO l t = some v) : ∃ k : Nat, atO l t = some (k : Int) ∧ l[k]? = some v ∧ TabMay l ∧ k + 1 = cnt l t := by
  unfold verO at h
  unfold atO
  split at h
  · rename_i q
    refine ⟨cnt l t - 1, ?_, h, q.1, by omega⟩
    rw [if_pos q]
    congr 1
    omega
  · cases h
theorem ver_none {l : List Ve} {t : Int} (h : verO l t = none) : atO l t = none ∧ ¬ (TabMay l ∧ 0 < cnt l t) := by
  unfold verO at h
  unfold atO
  split at h
  · rename_i q
    have := cnt_le l t
    rw [List.getElem?_eq_none_iff] at h
    omega
  · rename_i q
    exact ⟨if_neg q, q⟩
def optV (o : Option Int) : Value := .tuple #[.int .i64 (o.getD 0), .bool o.isSome]
theorem optV_some (n : Int) : optV (some n) = .tuple #[.int .i64 n, .bool true] := rfl
theorem optV_none : optV none = .tuple #[.int .i64 0, .bool false] := rfl
set_option maxRecDepth 100000 in
set_option maxHeartbeats 2000000 in
theorem at_any (a : Option Addr) (n cap : Nat) (l : List Ve) (hn : l.length = n) (t : Int) (w : World) (hA : VesAt w.heap.size w a l) (hnx : n ≤ cap ∧ cap ≤ maxLen) :
    Calls Tryd.prog 18 #[.slice a n cap, .int .i64 t] w fun e w' => e = .returned (optV (atO l t)) ∧ Below w.heap.size w w' := by
  have hck := check_any a n cap l hn w hA hnx
  by_cases ht : TabMay l
  · rw [tErr_yes ht] at hck
    have HCK := Lib.hid hck
    have HAF := Lib.hid (fun W (hB : Below w.heap.size w W) => after_any a n cap l hn t W (hA.grow hB) ht)
    obtain ⟨c, hc⟩ : ∃ c, cnt l t = c := ⟨_, rfl⟩
    have hcl : c ≤ 200 := by have := cnt_le l t; have := tab_len ht; omega
    rw [hc] at HAF
    by_cases h0 : c = 0
    · rw [show atO l t = none from if_neg (by omega), optV_none]
      subst h0
      clear hck hA hn hc ht
      go_enter Tryd.func18, Tryd.ntmps18
      go_wp2_with fail
      refine HCK.out.mono ?_
      rintro e w1 ⟨rfl, hB1⟩
      have HB1 := Lib.hid hB1
      clear hB1
      go_wp2_with fail
      refine (HAF.out w1 HB1.out).mono ?_
      rintro e w2 ⟨rfl, hB2⟩
      have HB2 := Lib.hid (HB1.out.trans (hB2.mono HB1.out.size))
      clear hB2
      go_wp2
      go_ret2
      exact ⟨rfl, HB2.out⟩
    · rw [show atO l t = some ((c : Int) - 1) by unfold atO; rw [if_pos ⟨ht, by omega⟩, hc], optV_some]
      have g0 : ((c : Int) == 0) = false := by simp; omega
      clear hck hA hn hc ht
      go_enter Tryd.func18, Tryd.ntmps18
      go_wp2_with fail
      refine HCK.out.mono ?_
      rintro e w1 ⟨rfl, hB1⟩
      have HB1 := Lib.hid hB1
      clear hB1
      go_wp2_with fail
      refine (HAF.out w1 HB1.out).mono ?_
      rintro e w2 ⟨rfl, hB2⟩
      have HB2 := Lib.hid (HB1.out.trans (hB2.mono HB1.out.size))
      clear hB2
      go_wp2
      go_ret2
      exact ⟨rfl, HB2.out⟩
  · rw [tErr_no ht] at hck
    have HCK := Lib.hid hck
    rw [show atO l t = none from if_neg (fun q => ht q.1), optV_none]
    clear hck hA hn ht
    go_enter Tryd.func18, Tryd.ntmps18
    go_wp2_with fail
    refine HCK.out.mono ?_
    rintro e w1 ⟨rfl, hB1⟩
    have HB1 := Lib.hid hB1
    clear hB1
    go_wp2
    go_ret2
    exact ⟨rfl, HB1.out⟩
theorem price_ver {l : List Ve} {t band : Int} {v : Ve} (h : verO l t = some v) : priceO l t band = if 0 ≤ band then v.ps[band.toNat]? else none := by
  unfold priceO; rw [h]; rfl
theorem price_none {l : List Ve} {t band : Int} (h : verO l t = none) : priceO l t band = none := by
  unfold priceO; rw [h]; rfl
set_option maxRecDepth 100000 in
set_option maxHeartbeats 2000000 in
theorem price_any (a : Option Addr) (n cap : Nat) (l : List Ve) (hn : l.length = n) (t band : Int) (w : World) (hA : VesAt w.heap.size w a l) (hnx : n ≤ cap ∧ cap ≤ maxLen) :
    Calls Tryd.prog 22 #[.slice a n cap, .int .i64 t, .int .i64 band] w fun e w' => e = .returned (optV (priceO l t band)) ∧ Below w.heap.size w w' := by
  have hat := at_any a n cap l hn t w hA hnx
  cases hv : verO l t with
  | none =>
    rw [price_none hv, optV_none]
    rw [(ver_none hv).1, optV_none] at hat
    have HAT := Lib.hid hat
    clear hat hA hn hv
    go_enter Tryd.func22, Tryd.ntmps22
    go_wp2_with fail
    refine HAT.out.mono ?_
    rintro e w1 ⟨rfl, hB1⟩
    have HB1 := Lib.hid hB1
    clear hB1
    go_wp2
    go_ret2
    exact ⟨rfl, HB1.out⟩
  | some v =>
    rw [price_ver hv]
    obtain ⟨k, hk, hvk, ht, hkc⟩ := ver_some hv
    rw [hk, optV_some] at hat
    have HAT := Lib.hid hat
    have hkn : k < n := by rw [← hn]; exact (List.getElem?_eq_some_iff.1 hvk).1
    have hki : (k : Int) < n := by omega
    have HA := Lib.hid hA
    have HV := Lib.hid hvk
    obtain ⟨m, hm⟩ : ∃ m, v.ps.length = m := ⟨_, rfl⟩
    have HM := Lib.hid hm
    have hm16 : m ≤ 16 := by have := (tab_ver ht (List.mem_of_getElem? hvk)).2.1.2; omega
    clear hat hA hn hv hvk hk ht hkc hm
    by_cases h0 : 0 ≤ band
    · rw [if_pos h0]
      obtain ⟨j, rfl⟩ : ∃ j : Nat, band = (j : Int) := ⟨band.toNat, by omega⟩
      rw [Int.toNat_natCast]
      have gn : ¬ (j : Int) < 0 := by omega
      by_cases hj : j < m
      · obtain ⟨p, hp⟩ : ∃ p, v.ps[j]? = some p := ⟨_, List.getElem?_eq_getElem (by rw [HM.out]; exact hj)⟩
        rw [hp, optV_some]
        have HP := Lib.hid hp
        have gj : ¬ (m : Int) ≤ j := by omega
        have gj2 : (j : Int) < m := by omega
        clear hp h0
        go_enter Tryd.func22, Tryd.ntmps22
        go_wp2_with fail
        refine HAT.out.mono ?_
        rintro e w1 ⟨rfl, hB1⟩
        have HB1 := Lib.hid hB1
        obtain ⟨b, o, pa, pc, e, hbl, c0, c1, hle, hup⟩ := HA.out.next hB1 (Nat.le_refl _) k v HV.out
        subst e
        obtain ⟨pb, po, e, hpb, d0⟩ := hup j p HP.out
        subst e
        rw [HM.out] at c1
        clear hB1 c0 hle hup
        go_wp2
        go_ret2
        exact ⟨rfl, HB1.out⟩
      · rw [List.getElem?_eq_none (by rw [HM.out]; omega), optV_none]
        have gj : (m : Int) ≤ j := by omega
        clear h0
        go_enter Tryd.func22, Tryd.ntmps22
        go_wp2_with fail
        refine HAT.out.mono ?_
        rintro e w1 ⟨rfl, hB1⟩
        have HB1 := Lib.hid hB1
        obtain ⟨b, o, pa, pc, e, hbl, c0, c1, hle, hup⟩ := HA.out.next hB1 (Nat.le_refl _) k v HV.out
        subst e
        rw [HM.out] at c1
        clear hB1 c0 hle hup
        go_wp2
        go_ret2
        exact ⟨rfl, HB1.out⟩
    · rw [if_neg h0, optV_none]
      have gn : band < 0 := by omega
      clear h0
      go_enter Tryd.func22, Tryd.ntmps22
      go_wp2_with fail
      refine HAT.out.mono ?_
      rintro e w1 ⟨rfl, hB1⟩
      have HB1 := Lib.hid hB1
      clear hB1
      go_wp2
      go_ret2
      exact ⟨rfl, HB1.out⟩
end Go.Proofs.YtbffmobjiiicoaaDoor.V10
end
