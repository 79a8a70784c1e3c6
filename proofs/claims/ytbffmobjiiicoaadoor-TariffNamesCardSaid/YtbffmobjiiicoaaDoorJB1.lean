/- Joined: BMath BOpen BTab BStr BChk BMay BTabC BTabP. -/
import Derived.Test.YtbffmobjiiicoaaDoorProg
import Derived.RangeFuncNested
import Derived.RangeFuncBox
import Derived.OpenShut
import Derived.Maps.AppendAt
import Derived.Laws.OwnMore
import Derived.RegionTactic
import Derived.OwnWalk
import Derived.OwnWalkIn
import Derived.Below
import Derived.WalkKit
import Derived.Shelf.Abstract
import Derived.Lib.Hide
import Derived.ChangeArms
import Derived.WideShapes
import Derived.ShutString
import Derived.ChangeOld
import Derived.Stop.Joined
import Derived.Deep.Strs
import Derived.Lib.SmallJoins
import Derived.Deep.Slices
import Derived.Deep.MidRow
import Derived.Deep.SlicePairs
import Derived.WalkLawsBesides
import Derived.LoopTactic
import Derived.Laws.Rows
import Derived.Laws.Tables
import Derived.Deep.QuietTactic
import Derived.BigQuiet
import Derived.WalkSmall
section
/- Plans of days, as numbers. -/
set_option linter.unusedVariables false
namespace Go.Proofs.YtbffmobjiiicoaaDoor.B9
open Go.RowKit Go.Shelf
theorem heap_old {W : World} {b : Nat} {x : Obj} (h : W.heap[b]? = some x) (o : Obj) : (W.alloc o).heap[b]? = some x := (Below.heap_alloc W o b (Array.getElem?_eq_some_iff.1 h).1).trans h
structure Sw where
  m : Int
  b : Int
deriving DecidableEq
def SwOk (L : Nat → Sw) (i : Nat) : Prop := 0 ≤ (L i).b ∧ (L i).b ≤ 7 ∧ (L i).m < 1440 ∧ (0 < i → (L (i - 1)).m < (L i).m)
instance (L : Nat → Sw) (i : Nat) : Decidable (SwOk L i) := by unfold SwOk; infer_instance
def PlanIs (L : Nat → Sw) (len : Nat) : Prop := 1 ≤ len ∧ len ≤ 48 ∧ (L 0).m = 0 ∧ ∀ i, i < len → SwOk L i
instance (L : Nat → Sw) (len : Nat) : Decidable (PlanIs L len) := by unfold PlanIs; infer_instance
/-- The switches lie from a on, in a block below B. -/
def SwsAt (B : Nat) (W : World) (a : Option Addr) (len : Nat) (L : Nat → Sw) : Prop :=
  ∀ i, i < len → ∃ b o, a = some ⟨b, o, none⟩ ∧ b < B ∧ W.cell? ⟨b, o + i * 2, none⟩ = some (.int .i64 (L i).m) ∧ W.cell? ⟨b, o + i * 2 + 1, none⟩ = some (.int .i64 (L i).b)
theorem SwsAt.next {B n : Nat} {W X : World} {a : Option Addr} {len : Nat} {L : Nat → Sw} (h : SwsAt B W a len L) (hB : Below n W X) (hn : B ≤ n) (hs : n ≤ W.heap.size) : SwsAt B X a len L := by
  intro i hi
  obtain ⟨b, o, e, hb, h0, h1⟩ := h i hi
  have hx : ∀ k, X.cell? ⟨b, k, none⟩ = W.cell? ⟨b, k, none⟩ := fun k => hB.cell (p := ⟨b, k, none⟩) (by show b < n; omega)
  exact ⟨b, o, e, hb, (hx _).trans h0, (hx _).trans h1⟩
theorem SwsAt.mono {B B' : Nat} {W : World} {a : Option Addr} {len : Nat} {L : Nat → Sw} (h : SwsAt B W a len L) (hB : B ≤ B') : SwsAt B' W a len L := fun i hi => by
  obtain ⟨b, o, e, hb, k⟩ := h i hi; exact ⟨b, o, e, by omega, k⟩
theorem SwsAt.base {B : Nat} {W : World} {a : Option Addr} {len : Nat} {L : Nat → Sw} (h : SwsAt B W a len L) (h0 : 0 < len) : ∃ b o, a = some ⟨b, o, none⟩ ∧ ∀ i, i < len → W.cell? ⟨b, o + i * 2, none⟩ = some (.int .i64 (L i).m) ∧ W.cell? ⟨b, o + i * 2 + 1, none⟩ = some (.int .i64 (L i).b) := by
  obtain ⟨b, o, rfl, hb, _⟩ := h 0 h0
  refine ⟨b, o, rfl, fun i hi => ?_⟩
  obtain ⟨b', o', e, _, h1, h2⟩ := h i hi
  cases e
  exact ⟨h1, h2⟩
/-- The band of the last switch of the first k whose minute is not above x. -/
def bandN (L : Nat → Sw) : Nat → Int → Int
  | 0, _ => 0
  | k + 1, x => if (L k).m ≤ x then (L k).b else bandN L k x
theorem bandN_range {L : Nat → Sw} (k : Nat) (h : ∀ i, i < k → SwOk L i) (x : Int) : 0 ≤ bandN L k x ∧ bandN L k x ≤ 7 := by
  induction k with
  | zero => simp [bandN]
  | succ k ih =>
    unfold bandN
    have hk := h k (Nat.lt_succ_self _)
    have := ih (fun i hi => h i (Nat.lt_succ_of_lt hi))
    split
    · exact ⟨hk.1, hk.2.1⟩
    · exact this
/-- What Band says. -/
def InDay (x : Int) : Prop := 0 ≤ x ∧ x ≤ 1439
instance (x : Int) : Decidable (InDay x) := by unfold InDay; infer_instance
def bandE (L : Nat → Sw) (len : Nat) (x : Int) : Int := if PlanIs L len ∧ InDay x then bandN L len x else 0
def bandB (L : Nat → Sw) (len : Nat) (x : Int) : Bool := decide (PlanIs L len ∧ InDay x)
/-- What Next says of a plan that is one, at a minute of the day. -/
def BNext (L : Nat → Sw) (len : Nat) (x n : Int) (is : Bool) : Prop :=
  (is = true ∧ x < n ∧ n < 1440 ∧ bandN L len n ≠ bandN L len x ∧ ∀ j, x < j → j < n → bandN L len j = bandN L len x) ∨
  (is = false ∧ n = 0 ∧ ∀ j, x < j → j < 1440 → bandN L len j = bandN L len x)
theorem BNext.unique {L : Nat → Sw} {len : Nat} {x n n' : Int} {is is' : Bool} (h : BNext L len x n is) (h' : BNext L len x n' is') : n = n' ∧ is = is' := by
  rcases h with ⟨a, b, c, d, e⟩ | ⟨a, b, e⟩ <;> rcases h' with ⟨a', b', c', d', e'⟩ | ⟨a', b', e'⟩
  · refine ⟨?_, by rw [a, a']⟩
    rcases Int.lt_trichotomy n n' with q | q | q
    · exact absurd (e' n b q) d
    · exact q
    · exact absurd (e n' b' q) d'
  · exact absurd (e' n b c) d
  · exact absurd (e n' b' c') d'
  · exact ⟨by rw [b, b'], by rw [a, a']⟩
/-- How many of the first n minutes have band b. -/
def cntN (L : Nat → Sw) (len : Nat) (b : Nat) : Nat → Nat
  | 0 => 0
  | n + 1 => cntN L len b n + (if bandN L len n = b then 1 else 0)
theorem cntN_le (L : Nat → Sw) (len b : Nat) (n : Nat) : cntN L len b n ≤ n := by
  induction n with
  | zero => exact Nat.le_refl _
  | succ n ih => unfold cntN; split <;> omega
/-- The two plans say the same. -/
def SameP (L : Nat → Sw) (len : Nat) (M : Nat → Sw) (len' : Nat) : Prop := PlanIs L len ∧ PlanIs M len' ∧ ∀ n : Nat, n < 1440 → bandN L len n = bandN M len' n
instance (L : Nat → Sw) (len : Nat) (M : Nat → Sw) (len' : Nat) : Decidable (SameP L len M len') := by unfold SameP; infer_instance
end Go.Proofs.YtbffmobjiiicoaaDoor.B9
end
section
/- Plans and tables that came in. -/
namespace Go.Proofs.YtbffmobjiiicoaaDoor.B9
open Go.ChangeShapes Go.WideShapes Go.RowKit
set_option linter.unusedVariables false
def In64 (n : Int) : Prop := -9223372036854775808 ≤ n ∧ n ≤ 9223372036854775807
theorem in64_of {n : Int} (h : (Lit.int .i64 n).wf = true) : In64 n := by
  simp [Lit.wf, IntKind.min, IntKind.max, IntKind.bits, IntKind.signed] at h; exact h
structure Ru where
  s : Int
  k : Int
  p : Int
/-- The rules lie from a on, in a block below B. -/
def RusAt (B : Nat) (W : World) (a : Option Addr) (len : Nat) (R : Nat → Ru) : Prop :=
  ∀ i, i < len → ∃ b o, a = some ⟨b, o, none⟩ ∧ b < B ∧ W.cell? ⟨b, o + i * 3, none⟩ = some (.int .i64 (R i).s) ∧ W.cell? ⟨b, o + i * 3 + 1, none⟩ = some (.int .i64 (R i).k) ∧ W.cell? ⟨b, o + i * 3 + 2, none⟩ = some (.int .i64 (R i).p)
structure Pl where
  a : Option Addr
  len : Nat
  cap : Nat
  L : Nat → Sw
/-- The plans: a row of slices, each with its switches. -/
def PlsAt (B : Nat) (W : World) (a : Option Addr) (len : Nat) (P : Nat → Pl) : Prop :=
  ∀ i, i < len → ∃ b o, a = some ⟨b, o, none⟩ ∧ b < B ∧ W.cell? ⟨b, o + i, none⟩ = some (.slice (P i).a (P i).len (P i).cap) ∧ ((P i).len ≤ (P i).cap ∧ (P i).cap ≤ maxLen) ∧ SwsAt B W (P i).a (P i).len (P i).L
theorem RusAt.next {B n : Nat} {W X : World} {a : Option Addr} {len : Nat} {R : Nat → Ru} (h : RusAt B W a len R) (hB : Below n W X) (hn : B ≤ n) (hs : n ≤ W.heap.size) : RusAt B X a len R := by
  intro i hi
  obtain ⟨b, o, e, hb, h0, h1, h2⟩ := h i hi
  have hx : ∀ k, X.cell? ⟨b, k, none⟩ = W.cell? ⟨b, k, none⟩ := fun k => hB.cell (p := ⟨b, k, none⟩) (by show b < n; omega)
  exact ⟨b, o, e, hb, (hx _).trans h0, (hx _).trans h1, (hx _).trans h2⟩
theorem RusAt.mono {B B' : Nat} {W : World} {a : Option Addr} {len : Nat} {R : Nat → Ru} (h : RusAt B W a len R) (hB : B ≤ B') : RusAt B' W a len R := fun i hi => by
  obtain ⟨b, o, e, hb, k⟩ := h i hi; exact ⟨b, o, e, by omega, k⟩
theorem PlsAt.next {B n : Nat} {W X : World} {a : Option Addr} {len : Nat} {P : Nat → Pl} (h : PlsAt B W a len P) (hB : Below n W X) (hn : B ≤ n) (hs : n ≤ W.heap.size) : PlsAt B X a len P := by
  intro i hi
  obtain ⟨b, o, e, hb, h0, hl, h1⟩ := h i hi
  have hx : ∀ k, X.cell? ⟨b, k, none⟩ = W.cell? ⟨b, k, none⟩ := fun k => hB.cell (p := ⟨b, k, none⟩) (by show b < n; omega)
  exact ⟨b, o, e, hb, (hx _).trans h0, hl, h1.next hB hn hs⟩
theorem PlsAt.mono {B B' : Nat} {W : World} {a : Option Addr} {len : Nat} {P : Nat → Pl} (h : PlsAt B W a len P) (hB : B ≤ B') : PlsAt B' W a len P := fun i hi => by
  obtain ⟨b, o, e, hb, k, hl, h1⟩ := h i hi; exact ⟨b, o, e, by omega, k, hl, h1.mono hB⟩
abbrev tabV (pa : Option Addr) (pl pc : Nat) (ra : Option Addr) (rl rc : Nat) : Value := .agg #[.slice pa pl pc, .slice ra rl rc]
section
variable {H : Type} {enc : TypeId × Value → H} {W : World} {base : Nat} {sp : Nat → Bool} {held : Bool} {fuel : Nat}
theorem int_cell {c : Value} {x : DataW H × List MemPlace} (h : DataW.trod enc Tryd.prog W base sp held fuel 3 [c] = some x) : ∃ n : Int, c = .int .i64 n ∧ In64 n := by
  obtain ⟨n, e, _, hw⟩ := DataW.trod_int Tryd.underlying3 h
  exact ⟨n, by simpa using e, in64_of hw⟩
theorem trod_struct2' {t : TypeId} {f0 f1 : Field} {cs : List Value} {x : DataW H × List MemPlace} (ht : Tryd.prog.underlying t = some (.struct #[f0, f1])) (h : DataW.trod enc Tryd.prog W base sp held fuel t cs = some x) :
    ∃ y0 y1 n, cs.length = Tryd.prog.cellsOf t ∧ DataW.trod enc Tryd.prog W base sp held n f0.type ((cs.drop f0.offset).take (Tryd.prog.cellsOf f0.type)) = some y0 ∧
      DataW.trod enc Tryd.prog W base sp held n f1.type ((cs.drop f1.offset).take (Tryd.prog.cellsOf f1.type)) = some y1 := by
  obtain ⟨xs, n, _, rfl, hl, hlen, hf⟩ := DataW.trod_struct ht h
  match xs, hlen with
  | [y0, y1], _ => exact ⟨y0, y1, n, hl, by simpa using hf 0 f0 rfl, by simpa using hf 1 f1 rfl⟩
theorem trod_struct3' {t : TypeId} {f0 f1 f2 : Field} {cs : List Value} {x : DataW H × List MemPlace} (ht : Tryd.prog.underlying t = some (.struct #[f0, f1, f2])) (h : DataW.trod enc Tryd.prog W base sp held fuel t cs = some x) :
    ∃ y0 y1 y2 n, cs.length = Tryd.prog.cellsOf t ∧ DataW.trod enc Tryd.prog W base sp held n f0.type ((cs.drop f0.offset).take (Tryd.prog.cellsOf f0.type)) = some y0 ∧
      DataW.trod enc Tryd.prog W base sp held n f1.type ((cs.drop f1.offset).take (Tryd.prog.cellsOf f1.type)) = some y1 ∧ DataW.trod enc Tryd.prog W base sp held n f2.type ((cs.drop f2.offset).take (Tryd.prog.cellsOf f2.type)) = some y2 := by
  obtain ⟨xs, n, _, rfl, hl, hlen, hf⟩ := DataW.trod_struct ht h
  match xs, hlen with
  | [y0, y1, y2], _ => exact ⟨y0, y1, y2, n, hl, by simpa using hf 0 f0 rfl, by simpa using hf 1 f1 rfl, by simpa using hf 2 f2 rfl⟩
set_option maxRecDepth 100000 in
theorem sw_cells {cs : List Value} {x : DataW H × List MemPlace} (hl : cs.length = 2) (h : DataW.trod enc Tryd.prog W base sp held fuel 76 cs = some x) :
    ∃ r : Sw, cs = [.int .i64 r.m, .int .i64 r.b] ∧ In64 r.m ∧ In64 r.b := by
  have k1 : Tryd.prog.cellsOf 3 = 1 := by kernel_rfl
  match cs, hl with
  | [a, b], _ =>
    obtain ⟨y0, y1, n, _, h0, h1⟩ := trod_struct2' Tryd.underlying76 h
    simp only [k1, List.drop, List.take] at h0 h1
    obtain ⟨v0, rfl, w0⟩ := int_cell h0
    obtain ⟨v1, rfl, w1⟩ := int_cell h1
    exact ⟨⟨v0, v1⟩, rfl, w0, w1⟩
set_option maxRecDepth 100000 in
theorem ru_cells {cs : List Value} {x : DataW H × List MemPlace} (hl : cs.length = 3) (h : DataW.trod enc Tryd.prog W base sp held fuel 79 cs = some x) :
    ∃ r : Ru, cs = [.int .i64 r.s, .int .i64 r.k, .int .i64 r.p] := by
  have k1 : Tryd.prog.cellsOf 3 = 1 := by kernel_rfl
  match cs, hl with
  | [a, b, c], _ =>
    obtain ⟨y0, y1, y2, n, _, h0, h1, h2⟩ := trod_struct3' Tryd.underlying79 h
    simp only [k1, List.drop, List.take] at h0 h1 h2
    obtain ⟨v0, rfl, _⟩ := int_cell h0
    obtain ⟨v1, rfl, _⟩ := int_cell h1
    obtain ⟨v2, rfl, _⟩ := int_cell h2
    exact ⟨⟨v0, v1, v2⟩, rfl⟩
theorem open_sws {c : Value} {x : DataW H × List MemPlace} (h : DataW.trod enc Tryd.prog W base sp held fuel 77 [c] = some x) :
    ∃ (a : Option Addr) (len cap : Nat) (R : Nat → Sw), c = .slice a len cap ∧ (len ≤ cap ∧ cap ≤ maxLen) ∧ SwsAt W.heap.size W a len R := by
  rcases Go.Deep.open_slice Tryd.underlying77 h with ⟨hc, _⟩ | ⟨a, len, cap, m, n, D, Pl, hc, _, hl, hm, hmm, _, hx⟩
  · obtain rfl : c = .slice none 0 0 := by simpa using hc
    exact ⟨none, 0, 0, fun _ => ⟨0, 0⟩, rfl, ⟨Nat.le_refl _, Nat.zero_le _⟩, fun i hi => absurd hi (Nat.not_lt_zero _)⟩
  · obtain rfl : c = .slice (some a) len cap := by simpa using hc
    have hk : Tryd.prog.cellsOf 76 = 2 := by kernel_rfl
    rw [hk] at hx
    have hlm : len ≤ m := by rw [hmm]; split <;> omega
    have each : ∀ i : Nat, ∃ r : Sw, i < len → ∃ b o, (some a : Option Addr) = some ⟨b, o, none⟩ ∧ b < W.heap.size ∧ W.cell? ⟨b, o + i * 2, none⟩ = some (.int .i64 r.m) ∧ W.cell? ⟨b, o + i * 2 + 1, none⟩ = some (.int .i64 r.b) := by
      intro i
      by_cases hi : i < len
      · obtain ⟨cs, h1, h2⟩ := hx i (by omega)
        obtain ⟨_, hlen, hcell⟩ := World.cells?_some h1
        obtain ⟨r, rfl, _⟩ := sw_cells hlen h2
        obtain ⟨b, o, spot⟩ := a
        obtain ⟨cs0, g1, g2⟩ := hx 0 (by omega)
        obtain ⟨_, hlen0, hcell0⟩ := World.cells?_some g1
        obtain ⟨r0, rfl, _⟩ := sw_cells hlen0 g2
        have c0 := hcell0 0 (by omega)
        have hspot : spot = none := by
          have := World.cell?_spot c0
          simpa [Addr.add] using this
        subst hspot
        simp only [Addr.add_mid] at hcell
        refine ⟨r, fun _ => ⟨b, o, rfl, World.block_lt_of_cell? W _ (hcell 0 (by omega)), hcell 0 (by omega), hcell 1 (by omega)⟩⟩
      · exact ⟨⟨0, 0⟩, fun h => absurd h hi⟩
    obtain ⟨R, hR⟩ := Classical.axiomOfChoice each
    exact ⟨some a, len, cap, R, rfl, ⟨hl, hm⟩, hR⟩
theorem open_rus {c : Value} {x : DataW H × List MemPlace} (h : DataW.trod enc Tryd.prog W base sp held fuel 35 [c] = some x) :
    ∃ (a : Option Addr) (len cap : Nat) (R : Nat → Ru), c = .slice a len cap ∧ (len ≤ cap ∧ cap ≤ maxLen) ∧ RusAt W.heap.size W a len R := by
  rcases Go.Deep.open_slice Tryd.underlying35 h with ⟨hc, _⟩ | ⟨a, len, cap, m, n, D, Pl, hc, _, hl, hm, hmm, _, hx⟩
  · obtain rfl : c = .slice none 0 0 := by simpa using hc
    exact ⟨none, 0, 0, fun _ => ⟨0, 0, 0⟩, rfl, ⟨Nat.le_refl _, Nat.zero_le _⟩, fun i hi => absurd hi (Nat.not_lt_zero _)⟩
  · obtain rfl : c = .slice (some a) len cap := by simpa using hc
    have hk : Tryd.prog.cellsOf 79 = 3 := by kernel_rfl
    rw [hk] at hx
    have hlm : len ≤ m := by rw [hmm]; split <;> omega
    have each : ∀ i : Nat, ∃ r : Ru, i < len → ∃ b o, (some a : Option Addr) = some ⟨b, o, none⟩ ∧ b < W.heap.size ∧ W.cell? ⟨b, o + i * 3, none⟩ = some (.int .i64 r.s) ∧ W.cell? ⟨b, o + i * 3 + 1, none⟩ = some (.int .i64 r.k) ∧ W.cell? ⟨b, o + i * 3 + 2, none⟩ = some (.int .i64 r.p) := by
      intro i
      by_cases hi : i < len
      · obtain ⟨cs, h1, h2⟩ := hx i (by omega)
        obtain ⟨_, hlen, hcell⟩ := World.cells?_some h1
        obtain ⟨r, rfl⟩ := ru_cells hlen h2
        obtain ⟨b, o, spot⟩ := a
        obtain ⟨cs0, g1, g2⟩ := hx 0 (by omega)
        obtain ⟨_, hlen0, hcell0⟩ := World.cells?_some g1
        obtain ⟨r0, rfl⟩ := ru_cells hlen0 g2
        have c0 := hcell0 0 (by omega)
        have hspot : spot = none := by
          have := World.cell?_spot c0
          simpa [Addr.add] using this
        subst hspot
        simp only [Addr.add_mid] at hcell
        refine ⟨r, fun _ => ⟨b, o, rfl, World.block_lt_of_cell? W _ (hcell 0 (by omega)), hcell 0 (by omega), hcell 1 (by omega), hcell 2 (by omega)⟩⟩
      · exact ⟨⟨0, 0, 0⟩, fun h => absurd h hi⟩
    obtain ⟨R, hR⟩ := Classical.axiomOfChoice each
    exact ⟨some a, len, cap, R, rfl, ⟨hl, hm⟩, hR⟩
theorem open_pls {c : Value} {x : DataW H × List MemPlace} (h : DataW.trod enc Tryd.prog W base sp held fuel 34 [c] = some x) :
    ∃ (a : Option Addr) (len cap : Nat) (P : Nat → Pl), c = .slice a len cap ∧ (len ≤ cap ∧ cap ≤ maxLen) ∧ PlsAt W.heap.size W a len P := by
  rcases Go.Deep.open_slice Tryd.underlying34 h with ⟨hc, _⟩ | ⟨a, len, cap, m, n, D, Q, hc, _, hl, hm, hmm, _, hx⟩
  · obtain rfl : c = .slice none 0 0 := by simpa using hc
    exact ⟨none, 0, 0, fun _ => ⟨none, 0, 0, fun _ => ⟨0, 0⟩⟩, rfl, ⟨Nat.le_refl _, Nat.zero_le _⟩, fun i hi => absurd hi (Nat.not_lt_zero _)⟩
  · obtain rfl : c = .slice (some a) len cap := by simpa using hc
    have hk : Tryd.prog.cellsOf 77 = 1 := by kernel_rfl
    rw [hk] at hx
    have hlm : len ≤ m := by rw [hmm]; split <;> omega
    have each : ∀ i : Nat, ∃ r : Pl, i < len → ∃ b o, (some a : Option Addr) = some ⟨b, o, none⟩ ∧ b < W.heap.size ∧ W.cell? ⟨b, o + i, none⟩ = some (.slice r.a r.len r.cap) ∧ (r.len ≤ r.cap ∧ r.cap ≤ maxLen) ∧ SwsAt W.heap.size W r.a r.len r.L := by
      intro i
      by_cases hi : i < len
      · obtain ⟨cs, h1, h2⟩ := hx i (by omega)
        obtain ⟨_, hlen, hcell⟩ := World.cells?_some h1
        match cs, hlen with
        | [v], _ =>
          obtain ⟨ra, rl, rc, L, rfl, hle, hL⟩ := open_sws h2
          obtain ⟨b, o, spot⟩ := a
          obtain ⟨cs0, g1, g2⟩ := hx 0 (by omega)
          obtain ⟨_, hlen0, hcell0⟩ := World.cells?_some g1
          match cs0, hlen0 with
          | [v0], _ =>
            have c0 := hcell0 0 (by omega)
            have hspot : spot = none := by
              have := World.cell?_spot c0
              simpa [Addr.add] using this
            subst hspot
            simp only [Addr.add_mid] at hcell
            have q := hcell 0 (by omega)
            refine ⟨⟨ra, rl, rc, L⟩, fun _ => ⟨b, o, rfl, World.block_lt_of_cell? W _ q, by simpa using q, hle, hL⟩⟩
      · exact ⟨⟨none, 0, 0, fun _ => ⟨0, 0⟩⟩, fun h => absurd h hi⟩
    obtain ⟨R, hR⟩ := Classical.axiomOfChoice each
    exact ⟨some a, len, cap, R, rfl, ⟨hl, hm⟩, hR⟩
theorem cells2 {cs : Array Value} (h : cs.size = 2) : ∃ a b, cs = #[a, b] := by
  obtain ⟨l⟩ := cs
  match l, h with
  | [a, b], _ => exact ⟨a, b, rfl⟩
set_option maxRecDepth 100000 in
/-- An argument that is a plan. -/
theorem open_plan {base2 : Nat} {r : Reach} {v : Value} {d : DataW H} {p : List MemPlace} (hv : Value.okWide Tryd.prog W r base 77 v) (h : DataW.Trod enc Tryd.prog W base2 sp held 77 v d p) :
    ∃ (a : Option Addr) (len cap : Nat) (L : Nat → Sw), v = .slice a len cap ∧ (len ≤ cap ∧ cap ≤ maxLen) ∧ SwsAt W.heap.size W a len L := by
  obtain ⟨a, len, cap, rfl⟩ := okWide_slice Tryd.underlying77 hv
  obtain ⟨fuel, hf⟩ := h
  exact open_sws (show DataW.trod enc Tryd.prog W base2 sp held fuel 77 [.slice a len cap] = some _ by simpa [Value.cells] using hf)
set_option maxRecDepth 100000 in
/-- An argument that is a table. -/
theorem open_tab {base2 : Nat} {r : Reach} {v : Value} {d : DataW H} {p : List MemPlace} (hv : Value.okWide Tryd.prog W r base 37 v) (h : DataW.Trod enc Tryd.prog W base2 sp held 37 v d p) :
    ∃ (pa : Option Addr) (pl pc : Nat) (ra : Option Addr) (rl rc : Nat) (P : Nat → Pl) (R : Nat → Ru), v = tabV pa pl pc ra rl rc ∧ (pl ≤ pc ∧ pc ≤ maxLen) ∧ (rl ≤ rc ∧ rc ≤ maxLen) ∧ PlsAt W.heap.size W pa pl P ∧ RusAt W.heap.size W ra rl R := by
  obtain ⟨cs, rfl, hsz⟩ := okWide_struct Tryd.underlying37 hv
  obtain ⟨a, b, rfl⟩ := cells2 (hsz.trans (show Tryd.prog.cellsOf 37 = 2 by kernel_rfl))
  obtain ⟨fuel, hf⟩ := h
  have k1 : Tryd.prog.cellsOf 34 = 1 := by kernel_rfl
  have ks : Tryd.prog.cellsOf 35 = 1 := by kernel_rfl
  obtain ⟨y0, y1, n, _, h0, h1⟩ := trod_struct2' Tryd.underlying37 (show DataW.trod enc Tryd.prog W base2 sp held fuel 37 [a, b] = some _ by simpa [Value.cells] using hf)
  simp only [k1, List.drop, List.take] at h0
  simp only [ks, List.drop, List.take] at h1
  obtain ⟨pa, pl, pc, P, rfl, e1, hP⟩ := open_pls h0
  obtain ⟨ra, rl, rc, R, rfl, e2, hR⟩ := open_rus h1
  exact ⟨pa, pl, pc, ra, rl, rc, P, R, rfl, e1, e2, hP, hR⟩
end
end Go.Proofs.YtbffmobjiiicoaaDoor.B9
end
section
/- Tables of plans, as numbers. -/
set_option linter.unusedVariables false
namespace Go.Proofs.YtbffmobjiiicoaaDoor.B9
open Go.RowKit Go.Shelf
def RuIs (r : Ru) (n : Nat) : Prop := (0 ≤ r.s ∧ r.s ≤ 99) ∧ (0 ≤ r.k ∧ r.k ≤ 4) ∧ 0 ≤ r.p ∧ r.p < n
instance (r : Ru) (n : Nat) : Decidable (RuIs r n) := by unfold RuIs; infer_instance
def TabIs (P : Nat → Pl) (pl : Nat) (R : Nat → Ru) (rl : Nat) : Prop := 1 ≤ pl ∧ pl ≤ 50 ∧ rl ≤ 100 ∧ (∀ i, i < pl → PlanIs (P i).L (P i).len) ∧ ∀ i, i < rl → RuIs (R i) pl
instance (P : Nat → Pl) (pl : Nat) (R : Nat → Ru) (rl : Nat) : Decidable (TabIs P pl R rl) := by unfold TabIs; infer_instance
def Fits (r : Ru) (s k : Int) : Prop := (r.s = 0 ∨ r.s = s) ∧ (r.k = 0 ∨ r.k = k)
instance (r : Ru) (s k : Int) : Decidable (Fits r s k) := by unfold Fits; infer_instance
/-- The plan of a day: that of the first rule that fits, or the first plan. -/
def PlanOf (R : Nat → Ru) (rl : Nat) (s k p : Int) : Prop := (∃ i, i < rl ∧ Fits (R i) s k ∧ p = (R i).p ∧ ∀ j, j < i → ¬ Fits (R j) s k) ∨ (p = 0 ∧ ∀ j, j < rl → ¬ Fits (R j) s k)
theorem PlanOf.unique {R : Nat → Ru} {rl : Nat} {s k p p' : Int} (h : PlanOf R rl s k p) (h' : PlanOf R rl s k p') : p = p' := by
  rcases h with ⟨i, hi, f, rfl, n⟩ | ⟨rfl, n⟩ <;> rcases h' with ⟨j, hj, f', rfl, n'⟩ | ⟨rfl, n'⟩
  · rcases Nat.lt_trichotomy i j with q | q | q
    · exact absurd f (n' i q)
    · rw [q]
    · exact absurd f' (n j q)
  · exact absurd f (n' i hi)
  · exact absurd f' (n j hj)
  · rfl
def PlanE (R : Nat → Ru) (rl : Nat) (s k : Int) (e : Ending) : Prop := ∃ p, PlanOf R rl s k p ∧ e = .returned (.tuple #[.int .i64 p, .bool true])
theorem PlanE.mk {R : Nat → Ru} {rl : Nat} {s k p : Int} (h : PlanOf R rl s k p) : PlanE R rl s k (.returned (.tuple #[.int .i64 p, .bool true])) := ⟨p, h, rfl⟩
def PlanMay (P : Nat → Pl) (pl : Nat) (R : Nat → Ru) (rl : Nat) (s kd : Int) : Prop := TabIs P pl R rl ∧ (0 ≤ s ∧ s ≤ 99) ∧ 1 ≤ kd ∧ kd ≤ 4
instance (P : Nat → Pl) (pl : Nat) (R : Nat → Ru) (rl : Nat) (s kd : Int) : Decidable (PlanMay P pl R rl s kd) := by unfold PlanMay; infer_instance
def tErr (P : Nat → Pl) (pl : Nat) (R : Nat → Ru) (rl : Nat) : Int := if TabIs P pl R rl then 0 else 90
theorem tErr_yes {P : Nat → Pl} {pl : Nat} {R : Nat → Ru} {rl : Nat} (h : TabIs P pl R rl) : tErr P pl R rl = 0 := if_pos h
theorem tErr_no {P : Nat → Pl} {pl : Nat} {R : Nat → Ru} {rl : Nat} (h : ¬ TabIs P pl R rl) : tErr P pl R rl = 90 := if_neg h
end Go.Proofs.YtbffmobjiiicoaaDoor.B9
end
section
/- The stretches of a plan, as numbers. -/
set_option linter.unusedVariables false
namespace Go.Proofs.YtbffmobjiiicoaaDoor.B9
open Go.RowKit Go.Shelf
structure St where
  b : Int
  e : Int
  d : Int
deriving DecidableEq
/-- What stands behind k switches: the stretches that are over, and the begin and the band of the one that goes on. -/
def stN (L : Nat → Sw) : Nat → List St × Int × Int
  | 0 => ([], 0, (L 0).b)
  | k + 1 => if (L k).b = (stN L k).2.2 then stN L k else ((stN L k).1 ++ [⟨(stN L k).2.1, (L k).m, (stN L k).2.2⟩], (L k).m, (L k).b)
def stsOf (L : Nat → Sw) (k : Nat) : List St := (stN L k).1
def begOf (L : Nat → Sw) (k : Nat) : Int := (stN L k).2.1
def bndOf (L : Nat → Sw) (k : Nat) : Int := (stN L k).2.2
def strs (L : Nat → Sw) (len : Nat) : List St := stsOf L len ++ [⟨begOf L len, 1440, bndOf L len⟩]
theorem st_zero (L : Nat → Sw) : stsOf L 0 = [] ∧ begOf L 0 = 0 ∧ bndOf L 0 = (L 0).b := ⟨rfl, rfl, rfl⟩
theorem st_same {L : Nat → Sw} {k : Nat} (h : (L k).b = bndOf L k) : stsOf L (k + 1) = stsOf L k ∧ begOf L (k + 1) = begOf L k ∧ bndOf L (k + 1) = bndOf L k := by
  have h' : (L k).b = (stN L k).2.2 := h
  unfold stsOf begOf bndOf
  rw [stN, if_pos h']
  exact ⟨rfl, rfl, rfl⟩
theorem st_new {L : Nat → Sw} {k : Nat} (h : (L k).b ≠ bndOf L k) : stsOf L (k + 1) = stsOf L k ++ [⟨begOf L k, (L k).m, bndOf L k⟩] ∧ begOf L (k + 1) = (L k).m ∧ bndOf L (k + 1) = (L k).b := by
  have h' : ¬ (L k).b = (stN L k).2.2 := h
  unfold stsOf begOf bndOf
  rw [stN, if_neg h']
  exact ⟨rfl, rfl, rfl⟩
theorem bnd_succ (L : Nat → Sw) (k : Nat) : bndOf L (k + 1) = (L k).b := by
  by_cases h : (L k).b = bndOf L k
  · rw [(st_same h).2.2, h]
  · exact (st_new h).2.2
theorem sts_prefix (L : Nat → Sw) {k n : Nat} (h : k ≤ n) : stsOf L k <+: stsOf L n := by
  induction n with
  | zero => obtain rfl : k = 0 := by omega
            exact List.prefix_refl _
  | succ n ih =>
    rcases Nat.lt_or_ge n k with hl | hl
    · obtain rfl : k = n + 1 := by omega
      exact List.prefix_refl _
    · refine (ih hl).trans ?_
      by_cases q : (L n).b = bndOf L n
      · rw [(st_same q).1]; exact List.prefix_refl _
      · rw [(st_new q).1]; exact List.prefix_append _ _
theorem sts_strs (L : Nat → Sw) {k n : Nat} (h : k ≤ n) : stsOf L k <+: strs L n := (sts_prefix L h).trans (List.prefix_append _ _)
theorem sts_len (L : Nat → Sw) (k : Nat) : (stsOf L k).length ≤ k := by
  induction k with
  | zero => exact Nat.le_refl _
  | succ n ih =>
    by_cases q : (L n).b = bndOf L n
    · rw [(st_same q).1]; omega
    · rw [(st_new q).1]; simp; omega
theorem strs_len (L : Nat → Sw) (k : Nat) : (strs L k).length ≤ k + 1 := by have := sts_len L k; simp [strs]; omega
/-- The band of the first stretch of a list, or d. -/
def hdB : List St → Int → Int
  | [], d => d
  | s :: _, _ => s.d
/-- Stretches from a to c, without a hole; behind them comes band d. -/
def Runs (f : Int → Int) : Int → List St → Int → Int → Prop
  | a, [], c, _ => a = c
  | a, s :: r, c, d => s.b = a ∧ s.b < s.e ∧ (∀ x, s.b ≤ x → x < s.e → f x = s.d) ∧ hdB r d ≠ s.d ∧ Runs f s.e r c d
theorem hdB_snoc (l : List St) (s : St) (d : Int) : hdB (l ++ [s]) d = hdB l s.d := by cases l <;> rfl
theorem Runs.snoc {f : Int → Int} {b d : Int} {s : St} {d' : Int} (hb : s.b = b) (hd : s.d = d) (he : b < s.e) (hc : ∀ x, b ≤ x → x < s.e → f x = d) (hn : d' ≠ d) : ∀ {l : List St} {a : Int}, Runs f a l b d → Runs f a (l ++ [s]) s.e d'
  | [], a, h => by
    obtain rfl : a = b := h
    refine ⟨hb, by omega, fun x h0 h1 => ?_, ?_, rfl⟩
    · rw [hd]; exact hc x (by omega) h1
    · show d' ≠ s.d; rw [hd]; exact hn
  | t :: r, a, h => by
    obtain ⟨h1, h2, h3, h4, h5⟩ := h
    exact ⟨h1, h2, h3, by show hdB (r ++ [s]) d' ≠ t.d; rw [hdB_snoc, hd]; exact h4, Runs.snoc hb hd he hc hn h5⟩
theorem Runs.le {f : Int → Int} {c d : Int} : ∀ {l : List St} {a : Int}, Runs f a l c d → a ≤ c
  | [], a, h => by have : a = c := h; omega
  | t :: r, a, h => by
    obtain ⟨h1, h2, h3, h4, h5⟩ := h
    have := Runs.le h5
    omega
/-- A list of stretches is told by the minutes' bands. -/
theorem Runs.unique {f g : Int → Int} {c d d' : Int} : ∀ {l q : List St} {a : Int}, Runs f a l c d → Runs g a q c d' → (∀ x, a ≤ x → x < c → f x = g x) → l = q
  | [], [], _, _, _, _ => rfl
  | [], t :: q, a, h, k, _ => by
    have e : a = c := h
    obtain ⟨k1, k2, _, _, k5⟩ := k
    have := Runs.le k5
    omega
  | s :: r, [], a, h, k, _ => by
    have e : a = c := k
    obtain ⟨k1, k2, _, _, k5⟩ := h
    have := Runs.le k5
    omega
  | s :: r, t :: q, a, h, k, hfg => by
    obtain ⟨h1, h2, h3, h4, h5⟩ := h
    obtain ⟨k1, k2, k3, k4, k5⟩ := k
    have hl := Runs.le h5
    have kl := Runs.le k5
    have hd : s.d = t.d := by
      rw [← h3 a (by omega) (by omega), ← k3 a (by omega) (by omega)]
      exact hfg a (Int.le_refl _) (by omega)
    have he : s.e = t.e := by
      rcases Int.lt_trichotomy s.e t.e with z | z | z
      · exfalso
        cases r with
        | nil => have : s.e = c := h5
                 omega
        | cons u r =>
          obtain ⟨m1, m2, m3, _, m5⟩ := h5
          have e1 := m3 s.e (by omega) (by omega)
          have e2 := k3 s.e (by omega) z
          rw [hfg s.e (by omega) (by omega), e2, ← hd] at e1
          exact h4 e1.symm
      · exact z
      · exfalso
        cases q with
        | nil => have : t.e = c := k5
                 omega
        | cons u r =>
          obtain ⟨m1, m2, m3, _, m5⟩ := k5
          have e1 := m3 t.e (by omega) (by omega)
          have e2 := h3 t.e (by omega) z
          rw [← hfg t.e (by omega) (by omega), e2, hd] at e1
          exact k4 e1.symm
    have hst : s = t := by
      obtain ⟨sb, se, sd⟩ := s
      obtain ⟨tb, te, td⟩ := t
      simp only at h1 k1 hd he
      rw [h1, k1, hd, he]
    subst hst
    rw [Runs.unique h5 k5 (fun x h0 h1 => hfg x (by omega) h1)]
/-- The band that a list says of a minute. -/
def bndAt : List St → Int → Int
  | [], _ => 0
  | s :: r, x => if x < s.e then s.d else bndAt r x
theorem Runs.at {f : Int → Int} {c d x : Int} (hx : x < c) : ∀ {l : List St} {a : Int}, Runs f a l c d → a ≤ x → f x = bndAt l x
  | [], a, h, h0 => by have : a = c := h; omega
  | s :: r, a, h, h0 => by
    obtain ⟨h1, h2, h3, h4, h5⟩ := h
    unfold bndAt
    by_cases q : x < s.e
    · rw [if_pos q]; exact h3 x (by omega) q
    · rw [if_neg q]; exact Runs.at hx h5 (by omega)
/-- The first stretch that ends behind a minute. -/
theorem Runs.hit {f : Int → Int} {c d x : Int} {s : St} {r : List St} (hx : x < s.e) : ∀ {q : List St} {a : Int}, Runs f a (q ++ s :: r) c d → a ≤ x → (∀ z ∈ q, ¬ x < z.e) → s.b ≤ x ∧ s.e ≤ c ∧ (∀ j, s.b ≤ j → j < s.e → f j = s.d) ∧ (s.e = c ∨ f s.e ≠ s.d)
  | [], a, h, h0, _ => by
    obtain ⟨h1, h2, h3, h4, h5⟩ := h
    refine ⟨by omega, Runs.le h5, h3, ?_⟩
    cases r with
    | nil => exact .inl h5
    | cons t r =>
      obtain ⟨k1, k2, k3, _, _⟩ := h5
      refine .inr ?_
      rw [k3 s.e (by omega) (by omega)]
      exact h4
  | z :: q, a, h, h0, hq => by
    obtain ⟨h1, h2, h3, h4, h5⟩ := h
    exact Runs.hit hx h5 (by have := hq z (by simp); omega) (fun y hy => hq y (by simp [hy]))
/-- The band of a minute behind the k-th switch, ahead of the next one. -/
theorem bandN_here {L : Nat → Sw} {len : Nat} (hp : PlanIs L len) {j : Nat} (hj : j < len) {x : Int} (h0 : (L j).m ≤ x) (h1 : j + 1 < len → x < (L (j + 1)).m) : bandN L len x = (L j).b := by
  have up : ∀ n, j + 1 ≤ n → n ≤ len → bandN L n x = (L j).b := by
    intro n hn hl
    induction n with
    | zero => omega
    | succ n ih =>
      unfold bandN
      rcases Nat.lt_or_ge j n with q | q
      · have asc : ∀ i, j + 1 ≤ i → i < len → (L (j + 1)).m ≤ (L i).m := by
          intro i hi hil
          induction i with
          | zero => omega
          | succ i ih2 =>
            rcases Nat.lt_or_ge j i with u | u
            · have := ih2 (by omega) (by omega)
              have h := (hp.2.2.2 (i + 1) hil).2.2.2 (by omega)
              simp only [Nat.add_sub_cancel] at h
              omega
            · obtain rfl : i = j := by omega
              exact Int.le_refl _
        have a1 := asc n (by omega) (by omega)
        have a2 := h1 (by omega)
        rw [if_neg (by omega)]
        exact ih (by omega) (by omega)
      · obtain rfl : n = j := by omega
        rw [if_pos h0]
  exact up len (by omega) (Nat.le_refl _)
/-- Where the stretch behind k switches must end. -/
def nextM (L : Nat → Sw) (len k : Nat) : Int := if k < len then (L k).m else 1440
theorem runs_upto {L : Nat → Sw} {len : Nat} (hp : PlanIs L len) {k : Nat} (hk : k < len) : Runs (bandN L len) 0 (stsOf L (k + 1)) (begOf L (k + 1)) (bndOf L (k + 1)) ∧ begOf L (k + 1) ≤ (L k).m ∧ (∀ x, begOf L (k + 1) ≤ x → x < nextM L len (k + 1) → bandN L len x = bndOf L (k + 1)) := by
  have last : ∀ k, k < len → ∀ x, (L k).m ≤ x → x < nextM L len (k + 1) → bandN L len x = (L k).b := fun k hk x h0 h1 => bandN_here hp hk h0 (fun q => by unfold nextM at h1; rw [if_pos q] at h1; exact h1)
  induction k with
  | zero =>
    have h0 := (st_zero L).2.2
    obtain ⟨e1, e2, e3⟩ := st_same (L := L) (k := 0) rfl
    rw [e1, e2, e3, (st_zero L).1, (st_zero L).2.1, (st_zero L).2.2]
    have hm := hp.2.2.1
    exact ⟨rfl, by omega, fun x g0 g1 => last 0 hk x (by omega) g1⟩
  | succ k ih =>
    obtain ⟨i1, i2, i3⟩ := ih (by omega)
    have hasc := (hp.2.2.2 (k + 1) hk).2.2.2 (by omega)
    simp only [Nat.add_sub_cancel] at hasc
    have hnx : nextM L len (k + 1) = (L (k + 1)).m := if_pos hk
    rw [hnx] at i3
    by_cases q : (L (k + 1)).b = bndOf L (k + 1)
    · obtain ⟨e1, e2, e3⟩ := st_same q
      rw [e1, e2, e3]
      refine ⟨i1, by omega, fun x g0 g1 => ?_⟩
      by_cases z : x < (L (k + 1)).m
      · exact i3 x g0 z
      · rw [← q]; exact last (k + 1) hk x (by omega) g1
    · obtain ⟨e1, e2, e3⟩ := st_new q
      rw [e1, e2, e3]
      exact ⟨i1.snoc rfl rfl (by show begOf L (k + 1) < (L (k + 1)).m; omega) i3 q, Int.le_refl _, last (k + 1) hk⟩
theorem runs_all {L : Nat → Sw} {len : Nat} (hp : PlanIs L len) : Runs (bandN L len) 0 (strs L len) 1440 (-1) := by
  obtain ⟨k, rfl⟩ : ∃ k, len = k + 1 := ⟨len - 1, by have := hp.1; omega⟩
  obtain ⟨h1, h2, h3⟩ := runs_upto hp (k := k) (by omega)
  have hn : nextM L (k + 1) (k + 1) = 1440 := if_neg (by omega)
  rw [hn] at h3
  have hk := (hp.2.2.2 k (by omega))
  have hk0 : 0 ≤ (L k).b := hk.1
  have hk1 : (L k).m < 1440 := hk.2.2.1
  have hlt : begOf L (k + 1) < 1440 := by omega
  have hne : (-1 : Int) ≠ bndOf L (k + 1) := by rw [bnd_succ]; omega
  exact Runs.snoc (s := ⟨begOf L (k + 1), 1440, bndOf L (k + 1)⟩) rfl rfl hlt h3 hne h1
/-- The stretches of a plan that is one: begin, end and band. -/
theorem strs_in {L : Nat → Sw} {len : Nat} (hp : PlanIs L len) {s : St} (hs : s ∈ strs L len) : 0 ≤ s.b ∧ s.b < s.e ∧ s.e ≤ 1440 ∧ 0 ≤ s.d ∧ s.d ≤ 7 := by
  have all : ∀ {l : List St} {a : Int}, 0 ≤ a → Runs (bandN L len) a l 1440 (-1) → ∀ s ∈ l, 0 ≤ s.b ∧ s.b < s.e ∧ s.e ≤ 1440 ∧ 0 ≤ s.d ∧ s.d ≤ 7 := by
    intro l
    induction l with
    | nil => intro a _ _ s hs; cases hs
    | cons t r ih =>
      intro a ha h s hs
      obtain ⟨h1, h2, h3, h4, h5⟩ := h
      have hle := Runs.le h5
      rcases List.mem_cons.1 hs with rfl | hs
      · have hb := bandN_range len hp.2.2.2 s.b
        rw [h3 s.b (Int.le_refl _) h2] at hb
        exact ⟨by omega, h2, hle, hb.1, hb.2⟩
      · exact ih (by omega) h5 s hs
  exact all (Int.le_refl _) (runs_all hp) s hs
/-- The stretch that a search finds, as Band and Next say it. -/
theorem strs_hit {L : Nat → Sw} {len : Nat} (hp : PlanIs L len) {q : List St} {s : St} {x : Int} (hpre : q ++ [s] <+: strs L len) (h0 : 0 ≤ x) (hq : ∀ z ∈ q, ¬ x < z.e) (hx : x < s.e) :
    s.d = bandN L len x ∧ (s.e = 1440 → BNext L len x 0 false) ∧ (s.e ≠ 1440 → BNext L len x s.e true) := by
  obtain ⟨r, hr⟩ := hpre
  have hR := runs_all hp
  rw [← hr, List.append_assoc] at hR
  obtain ⟨h1, h2, h3, h4⟩ := Runs.hit hx (q := q) (s := s) (r := r) hR h0 hq
  have hb : bandN L len x = s.d := h3 x h1 hx
  refine ⟨hb.symm, fun e => .inr ⟨rfl, rfl, fun j g0 g1 => ?_⟩, fun e => .inl ⟨rfl, hx, by omega, ?_, fun j g0 g1 => ?_⟩⟩
  · rw [hb]; exact h3 j (by omega) (by omega)
  · rw [hb]
    rcases h4 with h4 | h4
    · exact absurd h4 e
    · exact h4
  · rw [hb]; exact h3 j (by omega) g1
theorem strs_last (L : Nat → Sw) (len : Nat) (x : Int) (hx : x < 1440) (hq : ∀ z ∈ strs L len, ¬ x < z.e) : False :=
  hq ⟨begOf L len, 1440, bndOf L len⟩ (by simp [strs]) hx
/-- Two plans have the same stretches just if each minute has one band in both. -/
theorem strs_same {L M : Nat → Sw} {len len' : Nat} (hL : PlanIs L len) (hM : PlanIs M len') : strs L len = strs M len' ↔ SameP L len M len' := by
  constructor
  · intro h
    refine ⟨hL, hM, fun n hn => ?_⟩
    rw [(runs_all hL).at (x := (n : Int)) (by omega) (by omega), (runs_all hM).at (x := (n : Int)) (by omega) (by omega), h]
  · intro h
    refine Runs.unique (runs_all hL) (runs_all hM) (fun x h0 h1 => ?_)
    have := h.2.2 x.toNat (by omega)
    rwa [show ((x.toNat : Nat) : Int) = x by omega] at this
/-- How many minutes of these stretches have band b. -/
def mins : List St → Int → Int
  | [], _ => 0
  | s :: r, b => (if s.d = b then s.e - s.b else 0) + mins r b
theorem mins_snoc (l : List St) (s : St) (b : Int) : mins (l ++ [s]) b = mins l b + (if s.d = b then s.e - s.b else 0) := by
  induction l with
  | nil => simp [mins]
  | cons t r ih => rw [List.cons_append, mins, mins, ih]; omega
theorem cntN_run {L : Nat → Sw} {len b a : Nat} {d : Int} : ∀ {n : Nat}, (∀ i : Nat, i < n → bandN L len ((a + i : Nat) : Int) = d) → cntN L len b (a + n) = cntN L len b a + (if d = b then n else 0)
  | 0, _ => by simp
  | n + 1, h => by
    rw [show a + (n + 1) = (a + n) + 1 by omega, cntN, cntN_run (fun i hi => h i (by omega)), h n (by omega)]
    by_cases q : d = (b : Int)
    · rw [if_pos q, if_pos q, if_pos q]; omega
    · rw [if_neg q, if_neg q, if_neg q]
theorem Runs.mins {L : Nat → Sw} {len b : Nat} {c : Nat} {d : Int} : ∀ {l : List St} {a : Nat}, Runs (bandN L len) a l c d → (cntN L len b c : Int) = cntN L len b a + mins l b
  | [], a, h => by
    have e : (a : Int) = c := h
    obtain rfl : a = c := by omega
    simp [Go.Proofs.YtbffmobjiiicoaaDoor.B9.mins]
  | s :: r, a, h => by
    obtain ⟨h1, h2, h3, h4, h5⟩ := h
    obtain ⟨n, hn⟩ : ∃ n : Nat, s.e = ((a + n : Nat) : Int) := ⟨(s.e - a).toNat, by omega⟩
    rw [hn] at h5
    have ih := Runs.mins (b := b) h5
    have hc := cntN_run (L := L) (len := len) (b := b) (a := a) (d := s.d) (n := n) (fun i hi => h3 _ (by omega) (by omega))
    unfold Go.Proofs.YtbffmobjiiicoaaDoor.B9.mins
    rw [ih, hc]
    by_cases q : s.d = (b : Int)
    · rw [if_pos q, if_pos q]; omega
    · rw [if_neg q, if_neg q]; omega
theorem mins_all {L : Nat → Sw} {len : Nat} (hp : PlanIs L len) (b : Nat) : mins (strs L len) b = cntN L len b 1440 := by
  have := Runs.mins (b := b) (a := 0) (c := 1440) (runs_all hp)
  have h0 : cntN L len b 0 = 0 := rfl
  rw [h0] at this
  omega
end Go.Proofs.YtbffmobjiiicoaaDoor.B9
end
section
/- The program's CheckPlan. -/
set_option linter.unusedVariables false
set_option linter.unusedSimpArgs false
namespace Go.Proofs.YtbffmobjiiicoaaDoor.B9
open Go.RowKit Go.Shelf
theorem isFrom_any (n a b : Int) (w : World) : Calls Tryd.prog 42 #[.int .i64 n, .int .i64 a, .int .i64 b] w fun e w' => e = .returned (.bool (decide (a ≤ n ∧ n ≤ b))) ∧ w = w' := by
  by_cases h1 : a ≤ n
  · by_cases h2 : n ≤ b
    · rw [decide_eq_true ⟨h1, h2⟩]
      go_enter Tryd.func42, Tryd.ntmps42
      go_wp2
      go_ret
      exact ⟨rfl, rfl⟩
    · rw [decide_eq_false (fun h => h2 h.2)]
      go_enter Tryd.func42, Tryd.ntmps42
      go_wp2
      go_ret
      exact ⟨rfl, rfl⟩
  · rw [decide_eq_false (fun h => h1 h.1)]
    go_enter Tryd.func42, Tryd.ntmps42
    go_wp2
    go_ret
    exact ⟨rfl, rfl⟩
theorem isFrom_yes {n a b : Int} (h : a ≤ n ∧ n ≤ b) (w : World) : Calls Tryd.prog 42 #[.int .i64 n, .int .i64 a, .int .i64 b] w fun e w' => e = .returned (.bool true) ∧ w = w' := by
  have := isFrom_any n a b w
  rwa [decide_eq_true h] at this
theorem isFrom_no {n a b : Int} (h : ¬ (a ≤ n ∧ n ≤ b)) (w : World) : Calls Tryd.prog 42 #[.int .i64 n, .int .i64 a, .int .i64 b] w fun e w' => e = .returned (.bool false) ∧ w = w' := by
  have := isFrom_any n a b w
  rwa [decide_eq_false h] at this
def pErr (L : Nat → Sw) (len : Nat) : Int := if PlanIs L len then 0 else 90
theorem pErr_yes {L : Nat → Sw} {len : Nat} (h : PlanIs L len) : pErr L len = 0 := if_pos h
theorem pErr_no {L : Nat → Sw} {len : Nat} (h : ¬ PlanIs L len) : pErr L len = 90 := if_neg h
/-- The minute of the switch ahead of the k-th one. -/
def lastM (L : Nat → Sw) (k : Nat) : Int := if k = 0 then -1 else (L (k - 1)).m
theorem lastM_succ (L : Nat → Sw) (k : Nat) : lastM L (k + 1) = (L k).m := by simp [lastM]
set_option maxRecDepth 100000 in
set_option maxHeartbeats 4000000 in
theorem checkPlan_any (a : Option Addr) (len cap : Nat) (L : Nat → Sw) (w : World) (hA : SwsAt w.heap.size w a len L) (hlm : len ≤ maxLen) :
    Calls Tryd.prog 58 #[.slice a len cap] w fun e w' => e = .returned (.int .i64 (pErr L len)) ∧ Below w.heap.size w w' := by
  unfold maxLen at hlm
  by_cases h1 : 1 ≤ len ∧ len ≤ 48
  · have HF := Lib.hid (isFrom_yes (n := (len : Int)) (a := 1) (b := 48) (by omega) w)
    have h10 := h1.1
    have h11 := h1.2
    have g3 : (0 : Int) < len := by omega
    obtain ⟨b, o, rfl, hc⟩ := hA.base (by omega)
    have hc0 := (hc 0 (by omega)).1
    rw [Nat.zero_mul, Nat.add_zero] at hc0
    obtain ⟨z, hz⟩ : ∃ z, (L 0).m = z := ⟨_, rfl⟩
    rw [hz] at hc0
    have HA := Lib.hid hA
    have HZ := Lib.hid hz
    clear hA hc hz h1
    by_cases h3 : z = 0
    · subst h3
      go_enter Tryd.func58, Tryd.ntmps58
      go_wp2_with (go_at_call 42; refine HF.out.mono ?_; rintro e w' ⟨rfl, rfl⟩)
      go_loopw [3, 19] (fun q i wr => ∃ k : Nat, k ≤ len ∧ i = .int .i64 k ∧ q = .int .i64 (lastM L k) ∧ (-1 ≤ lastM L k ∧ lastM L k ≤ 1439) ∧ (∀ j, j < k → SwOk L j) ∧ Below w.heap.size w wr) (fun _ i _ => (len - intOf i).toNat)
      case atStart => exact ⟨0, Nat.zero_le _, rfl, rfl, by simp [lastM], fun j hj => absurd hj (Nat.not_lt_zero _), Below.refl _ _⟩
      case round =>
        obtain ⟨k, hk, rfl, rfl, ⟨hl0, hl1⟩, hall, hb⟩ := hrel
        have HALL := Lib.hid hall
        have HB := Lib.hid hb
        clear hall hb hc0 HF
        by_cases hlt : k < len
        · have hlti : (k : Int) < len := by omega
          obtain ⟨b', o', e, hcr⟩ := (HA.out.next HB.out (Nat.le_refl _) (Nat.le_refl _)).base (by omega)
          cases e
          obtain ⟨c0, c1⟩ := hcr k hlt
          obtain ⟨m, hm⟩ : ∃ z, (L k).m = z := ⟨_, rfl⟩
          obtain ⟨bb, hbb⟩ : ∃ z, (L k).b = z := ⟨_, rfl⟩
          obtain ⟨q, hq⟩ : ∃ z, lastM L k = z := ⟨_, rfl⟩
          rw [hm] at c0
          rw [hbb] at c1
          rw [hq] at hl0 hl1 ⊢
          have hok : (q + 1 ≤ m ∧ m ≤ 1439) → (0 ≤ bb ∧ bb ≤ 7) → SwOk L k := fun u v => ⟨by rw [hbb]; omega, by rw [hbb]; omega, by rw [hm]; omega, fun h => by
            have e : lastM L k = (L (k - 1)).m := by unfold lastM; rw [if_neg (by omega)]
            rw [← e, hq, hm]; omega⟩
          have hno : SwOk L k → (q + 1 ≤ m ∧ m ≤ 1439) ∧ (0 ≤ bb ∧ bb ≤ 7) := fun u => by
            have u0 := u.1
            have u1 := u.2.1
            have u2 := u.2.2.1
            have u3 := u.2.2.2
            rw [hbb] at u0 u1
            rw [hm] at u2 u3
            refine ⟨⟨?_, by omega⟩, by omega⟩
            rw [← hq]
            unfold lastM
            by_cases hk0 : k = 0
            · have hz := HZ.out
              rw [hk0] at hm
              rw [if_pos hk0]
              omega
            · rw [if_neg hk0]
              have := u3 (by omega)
              omega
          have HOK := Lib.hid hok
          have HNO := Lib.hid hno
          have HM := Lib.hid hm
          clear hm hbb hcr hq hok hno
          have HB1 := Lib.hid (HB.out.alloc HB.out.size (.cells #[.int .i64 m, .int .i64 bb] 76))
          by_cases n1 : q + 1 ≤ m ∧ m ≤ 1439
          · have HF1 := Lib.hid (fun W : World => isFrom_yes n1 W)
            have n10 := n1.1
            have n11 := n1.2
            by_cases n2 : 0 ≤ bb ∧ bb ≤ 7
            · have HF2 := Lib.hid (fun W : World => isFrom_yes n2 W)
              have HSW := Lib.hid (HOK.out n1 n2)
              clear n1 n2
              go_wp2_with (go_at_call 42; refine (HF1.out _).mono ?_; rintro e w' ⟨rfl, rfl⟩; clear HF1)
              go_wp2_with (go_at_call 42; refine (HF2.out _).mono ?_; rintro e w' ⟨rfl, rfl⟩; clear HF2)
              go_roundw
              case rel =>
                refine ⟨k + 1, by omega, by go_num, ?_, ?_, fun j hj => by rcases Nat.lt_succ_iff_lt_or_eq.1 hj with h' | h'; exact HALL.out j h'; rw [h']; exact HSW.out, HB1.out⟩
                · rw [lastM_succ, HM.out]
                · rw [lastM_succ, HM.out]; omega
              case measure => first | (simp [intOf]; done) | (simp [intOf]; omega)
            · have HF2 := Lib.hid (fun W : World => isFrom_no n2 W)
              have HER := Lib.hid (pErr_no (L := L) (len := len) (fun h => n2 (HNO.out (h.2.2.2 k hlt)).2))
              clear n1 n2
              go_wp2_with (go_at_call 42; refine (HF1.out _).mono ?_; rintro e w' ⟨rfl, rfl⟩; clear HF1)
              go_wp2_with (go_at_call 42; refine (HF2.out _).mono ?_; rintro e w' ⟨rfl, rfl⟩; clear HF2)
              go_ret
              rw [HER.out]
              exact ⟨rfl, HB1.out⟩
          · have HF1 := Lib.hid (fun W : World => isFrom_no n1 W)
            have HER := Lib.hid (pErr_no (L := L) (len := len) (fun h => n1 (HNO.out (h.2.2.2 k hlt)).1))
            clear n1
            go_wp2_with (go_at_call 42; refine (HF1.out _).mono ?_; rintro e w' ⟨rfl, rfl⟩; clear HF1)
            go_ret
            rw [HER.out]
            exact ⟨rfl, HB1.out⟩
        · have hke : k = len := by omega
          subst hke
          have HYES := Lib.hid (pErr_yes (L := L) (len := k) ⟨by omega, by omega, HZ.out, HALL.out⟩)
          go_wp2
          go_ret
          rw [HYES.out]
          exact ⟨rfl, HB.out⟩
    · have g4 : (z != 0) = true := by simp [h3]
      have HNO := Lib.hid (pErr_no (L := L) (len := len) (fun q => h3 (by rw [← HZ.out]; exact q.2.2.1)))
      clear h3
      go_enter Tryd.func58, Tryd.ntmps58
      go_wp2_with (go_at_call 42; refine HF.out.mono ?_; rintro e w' ⟨rfl, rfl⟩)
      go_ret
      rw [HNO.out]
      exact ⟨rfl, Below.refl _ _⟩
  · have HF := Lib.hid (isFrom_no (n := (len : Int)) (a := 1) (b := 48) (by omega) w)
    have HNO := Lib.hid (pErr_no (L := L) (len := len) (fun h => h1 ⟨h.1, h.2.1⟩))
    clear h1 hA
    go_enter Tryd.func58, Tryd.ntmps58
    go_wp2_with (go_at_call 42; refine HF.out.mono ?_; rintro e w' ⟨rfl, rfl⟩)
    go_ret
    rw [HNO.out]
    exact ⟨rfl, Below.refl _ _⟩
end Go.Proofs.YtbffmobjiiicoaaDoor.B9
end
section
/- The document's May of plans. -/
set_option linter.unusedVariables false
set_option linter.unusedSimpArgs false
namespace Go.Proofs.YtbffmobjiiicoaaDoor.B9
open Go.RowKit Go.Shelf
theorem below_drewN {B : Nat} {w X : World} (h : Below B w X) (n : Nat) : Below B w (X.drewN n) := ⟨h.os, h.tape, h.output, h.size, h.block⟩
end Go.Proofs.YtbffmobjiiicoaaDoor.B9
end
section
/- The program's Check of a table. -/
set_option linter.unusedVariables false
set_option linter.unusedSimpArgs false
namespace Go.Proofs.YtbffmobjiiicoaaDoor.B9
open Go.RowKit Go.Shelf
abbrev ruC (r : Ru) : Array Value := #[.int .i64 r.s, .int .i64 r.k, .int .i64 r.p]
abbrev ruV (r : Ru) : Value := .agg #[.int .i64 r.s, .int .i64 r.k, .int .i64 r.p]
set_option maxRecDepth 100000 in
set_option maxHeartbeats 2000000 in
theorem isRule_any (r : Ru) (n : Nat) (hn : n ≤ 1000) (w : World) :
    Calls Tryd.prog 59 #[ruV r, .int .i64 n] w fun e w' => e = .returned (.bool (decide (RuIs r n))) ∧ Below w.heap.size w w' := by
  obtain ⟨s, k, p⟩ := r
  have hb0 := (Below.refl _ w).alloc (Nat.le_refl _) (.cells #[.int .i64 s, .int .i64 k, .int .i64 p] 79)
  have HB := Lib.hid hb0
  clear hb0
  by_cases h1 : 0 ≤ s ∧ s ≤ 99
  · have HF1 := Lib.hid (fun W : World => isFrom_yes h1 W)
    by_cases h2 : 0 ≤ k ∧ k ≤ 4
    · have HF2 := Lib.hid (fun W : World => isFrom_yes h2 W)
      have HR := Lib.hid (show decide (RuIs ⟨s, k, p⟩ n) = decide (0 ≤ p ∧ p ≤ (n : Int) - 1) by
        rw [decide_eq_decide]
        constructor
        · intro h; have := h.2.2; simp only at this; omega
        · intro h; exact ⟨h1, h2, by simp only; omega⟩)
      have HF3 := Lib.hid (fun W : World => isFrom_any p 0 ((n : Int) - 1) W)
      clear h1 h2
      rw [HR.out]
      obtain ⟨q, hq⟩ : ∃ q, decide (0 ≤ p ∧ p ≤ (n : Int) - 1) = q := ⟨_, rfl⟩
      rw [hq] at HF3 ⊢
      clear hq HR
      go_enter Tryd.func59, Tryd.ntmps59
      go_wp2_with fail
      refine (HF1.out _).mono ?_
      rintro e w' ⟨rfl, rfl⟩
      go_wp2_with fail
      refine (HF2.out _).mono ?_
      rintro e w' ⟨rfl, rfl⟩
      go_wp2_with fail
      refine (HF3.out _).mono ?_
      rintro e w' ⟨rfl, rfl⟩
      go_wp2
      go_ret
      exact ⟨rfl, HB.out⟩
    · have HF2 := Lib.hid (fun W : World => isFrom_no h2 W)
      rw [decide_eq_false (fun h => h2 h.2.1)]
      clear h1 h2
      go_enter Tryd.func59, Tryd.ntmps59
      go_wp2_with fail
      refine (HF1.out _).mono ?_
      rintro e w' ⟨rfl, rfl⟩
      go_wp2_with fail
      refine (HF2.out _).mono ?_
      rintro e w' ⟨rfl, rfl⟩
      go_wp2
      go_ret
      exact ⟨rfl, HB.out⟩
  · have HF1 := Lib.hid (fun W : World => isFrom_no h1 W)
    rw [decide_eq_false (fun h => h1 h.1)]
    clear h1
    go_enter Tryd.func59, Tryd.ntmps59
    go_wp2_with fail
    refine (HF1.out _).mono ?_
    rintro e w' ⟨rfl, rfl⟩
    go_wp2
    go_ret
    exact ⟨rfl, HB.out⟩
set_option maxRecDepth 100000 in
set_option maxHeartbeats 4000000 in
theorem checkT_any (pa : Option Addr) (pl pc : Nat) (ra : Option Addr) (rl rc : Nat) (P : Nat → Pl) (R : Nat → Ru) (w : World) (hP : PlsAt w.heap.size w pa pl P) (hR : RusAt w.heap.size w ra rl R) (hlm : pl ≤ maxLen) (hrm : rl ≤ maxLen) :
    Calls Tryd.prog 31 #[tabV pa pl pc ra rl rc] w fun e w' => e = .returned (.int .i64 (tErr P pl R rl)) ∧ Below w.heap.size w w' := by
  unfold maxLen at hlm hrm
  have hz := heap_alloc_new w (.cells #[.slice pa pl pc, .slice ra rl rc] 37)
  have hb0 := (Below.refl _ w).alloc (Nat.le_refl _) (.cells #[.slice pa pl pc, .slice ra rl rc] 37)
  have hxs : (w.alloc (.cells #[.slice pa pl pc, .slice ra rl rc] 37)).heap.size = w.heap.size + 1 := World.size_alloc _ _
  have HZ := Lib.hid hz
  have HB := Lib.hid hb0
  have HXS := Lib.hid hxs
  have HP := Lib.hid hP
  have HR := Lib.hid hR
  clear hz hb0 hxs hP hR
  by_cases h1 : 1 ≤ pl ∧ pl ≤ 50
  · have HF := Lib.hid (fun W : World => isFrom_yes (n := (pl : Int)) (a := 1) (b := 50) (by omega) W)
    have p1 := h1.1
    have p2 := h1.2
    clear h1
    by_cases h2 : 100 < rl
    · rw [tErr_no (fun h => by have := h.2.2.1; omega)]
      have g2 : (100 : Int) < rl := by omega
      go_enter Tryd.func31, Tryd.ntmps31
      go_wp2_with fail
      refine (HF.out _).mono ?_
      rintro e w' ⟨rfl, rfl⟩
      go_wp2
      go_ret
      exact ⟨rfl, HB.out⟩
    · have g2 : ¬ (100 : Int) < rl := by omega
      go_enter Tryd.func31, Tryd.ntmps31
      go_wp2_with fail
      refine (HF.out _).mono ?_
      rintro e w' ⟨rfl, rfl⟩
      clear HF
      go_wp2_with fail
      go_loopw [21] (fun i wr => ∃ k : Nat, k ≤ pl ∧ i = .int .i64 k ∧ (∀ j, j < k → PlanIs (P j).L (P j).len) ∧ wr.heap[w.heap.size]? = some (.cells #[.slice pa pl pc, .slice ra rl rc] 37 (0, 0)) ∧ Below w.heap.size w wr) (fun i _ => (pl - intOf i).toNat)
      case atStart => exact ⟨0, Nat.zero_le _, rfl, fun j hj => absurd hj (Nat.not_lt_zero _), HZ.out, HB.out⟩
      case round =>
        obtain ⟨k, hk, rfl, hall, hzr, hb⟩ := hrel
        have HALL := Lib.hid hall
        have HBR := Lib.hid hb
        have HZR := Lib.hid hzr
        have hzl := (Array.getElem?_eq_some_iff.1 hzr).1
        have z1 : wr.cell? ⟨w.heap.size, 1, none⟩ = some (.slice ra rl rc) := cell_of_row _ _ 1 _ _ _ hzr
        clear hall hb hzr HZ HB
        by_cases hlt : k < pl
        · have hlti : (k : Int) < pl := by omega
          obtain ⟨b, o, rfl, hbl, c0, ⟨hl1, hl2⟩, hsw⟩ := HP.out.next HBR.out (Nat.le_refl _) (Nat.le_refl _) k hlt
          have HC := Lib.hid (checkPlan_any (P k).a (P k).len (P k).cap (P k).L wr (hsw.mono HBR.out.size) (by omega))
          clear hsw
          by_cases hpk : PlanIs (P k).L (P k).len
          · rw [pErr_yes hpk] at HC
            have HPK := Lib.hid hpk
            clear hpk
            go_wp2_with fail
            refine HC.out.mono ?_
            rintro e w2 ⟨rfl, hB2⟩
            have HB2 := Lib.hid (HBR.out.trans (hB2.mono HBR.out.size))
            have HZ2 := Lib.hid ((hB2.block w.heap.size hzl).trans HZR.out)
            clear hB2 HC
            go_wp2
            go_roundw
            case rel => exact ⟨k + 1, by omega, by go_num, fun j hj => by rcases Nat.lt_succ_iff_lt_or_eq.1 hj with q | q; exact HALL.out j q; rw [q]; exact HPK.out, HZ2.out, HB2.out⟩
            case measure => first | (simp [intOf]; done) | (simp [intOf]; omega)
          · rw [pErr_no hpk] at HC
            have HNO := Lib.hid (tErr_no (P := P) (pl := pl) (R := R) (rl := rl) (fun h => hpk (h.2.2.2.1 k hlt)))
            clear hpk
            go_wp2_with fail
            refine HC.out.mono ?_
            rintro e w2 ⟨rfl, hB2⟩
            have HB2 := Lib.hid (HBR.out.trans (hB2.mono HBR.out.size))
            clear hB2 HC
            go_wp2
            go_ret
            rw [HNO.out]
            exact ⟨rfl, HB2.out⟩
        · have hke : k = pl := by omega
          subst hke
          have hnl : ¬ ((k : Int) < k) := by omega
          go_wp2_with fail
          go_loopw [32] (fun i wr2 => ∃ m : Nat, m ≤ rl ∧ i = .int .i64 m ∧ (∀ j, j < m → RuIs (R j) k) ∧ wr2.heap[w.heap.size]? = some (.cells #[.slice pa k pc, .slice ra rl rc] 37 (0, 0)) ∧ Below w.heap.size w wr2) (fun i _ => (rl - intOf i).toNat)
          case atStart => exact ⟨0, Nat.zero_le _, rfl, fun j hj => absurd hj (Nat.not_lt_zero _), HZR.out, HBR.out⟩
          case round =>
            obtain ⟨m, hm, rfl, hall, hzr, hb⟩ := hrel
            have HALL2 := Lib.hid hall
            have HBR2 := Lib.hid hb
            have hzl2 := (Array.getElem?_eq_some_iff.1 hzr).1
            clear hall hb z1 HBR HZR
            by_cases hlt2 : m < rl
            · have hlti2 : (m : Int) < rl := by omega
              obtain ⟨b, o, rfl, hbl, c0, c1, c2⟩ := HR.out.next HBR2.out (Nat.le_refl _) (Nat.le_refl _) m hlt2
              obtain ⟨r, hr⟩ : ∃ r, R m = r := ⟨_, rfl⟩
              rw [hr] at c0 c1 c2
              have HRR := Lib.hid hr
              obtain ⟨rs, rk, rp⟩ := r
              simp only at c0 c1 c2
              have hz2 := heap_old hzr (.cells #[.int .i64 rs, .int .i64 rk, .int .i64 rp] 79)
              have z0 : (wr.alloc (.cells #[.int .i64 rs, .int .i64 rk, .int .i64 rp] 79)).cell? ⟨w.heap.size, 0, none⟩ = some (.slice pa k pc) := cell_of_row _ _ 0 _ _ _ hz2
              have y0 : wr.cell? ⟨w.heap.size, 0, none⟩ = some (.slice pa k pc) := cell_of_row _ _ 0 _ _ _ hzr
              have HB3 := Lib.hid (HBR2.out.alloc HBR2.out.size (.cells #[.int .i64 rs, .int .i64 rk, .int .i64 rp] 79))
              have HZ3 := Lib.hid hz2
              have HI := Lib.hid (isRule_any ⟨rs, rk, rp⟩ k (by omega) (wr.alloc (.cells #[.int .i64 rs, .int .i64 rk, .int .i64 rp] 79)))
              clear hr hzr hz2
              by_cases hri : RuIs ⟨rs, rk, rp⟩ k
              · rw [decide_eq_true hri] at HI
                have HRI := Lib.hid hri
                clear hri
                go_wp2_with fail
                refine HI.out.mono ?_
                rintro e w2 ⟨rfl, hB2⟩
                have HB2 := Lib.hid (HB3.out.trans (hB2.mono HB3.out.size))
                have HZ2 := Lib.hid ((hB2.block w.heap.size (by rw [World.size_alloc]; omega)).trans HZ3.out)
                clear hB2 HI z0 y0
                go_wp2
                go_roundw
                case rel => exact ⟨m + 1, by omega, by go_num, fun j hj => by rcases Nat.lt_succ_iff_lt_or_eq.1 hj with q | q; exact HALL2.out j q; rw [q, HRR.out]; exact HRI.out, HZ2.out, HB2.out⟩
                case measure => first | (simp [intOf]; done) | (simp [intOf]; omega)
              · rw [decide_eq_false hri] at HI
                have HNO := Lib.hid (tErr_no (P := P) (pl := k) (R := R) (rl := rl) (fun h => hri (by rw [← HRR.out]; exact h.2.2.2.2 m hlt2)))
                clear hri
                go_wp2_with fail
                refine HI.out.mono ?_
                rintro e w2 ⟨rfl, hB2⟩
                have HB2 := Lib.hid (HB3.out.trans (hB2.mono HB3.out.size))
                clear hB2 HI z0 y0
                go_wp2
                go_ret
                rw [HNO.out]
                exact ⟨rfl, HB2.out⟩
            · have hme : m = rl := by omega
              subst hme
              have hnl2 : ¬ ((m : Int) < m) := by omega
              have HYES := Lib.hid (tErr_yes (P := P) (pl := k) (R := R) (rl := m) ⟨by omega, by omega, by omega, HALL.out, HALL2.out⟩)
              clear hzr
              go_wp2
              go_ret
              rw [HYES.out]
              exact ⟨rfl, HBR2.out⟩
  · have HF := Lib.hid (fun W : World => isFrom_no (n := (pl : Int)) (a := 1) (b := 50) (by omega) W)
    rw [tErr_no (fun h => h1 ⟨h.1, h.2.1⟩)]
    clear h1
    go_enter Tryd.func31, Tryd.ntmps31
    go_wp2_with fail
    refine (HF.out _).mono ?_
    rintro e w' ⟨rfl, rfl⟩
    go_wp2
    go_ret
    exact ⟨rfl, HB.out⟩
end Go.Proofs.YtbffmobjiiicoaaDoor.B9
end
section
/- The program's Plan of a table. -/
set_option linter.unusedVariables false
set_option linter.unusedSimpArgs false
namespace Go.Proofs.YtbffmobjiiicoaaDoor.B9
open Go.RowKit Go.Shelf
set_option maxRecDepth 100000 in
set_option maxHeartbeats 2000000 in
theorem holds_any (r : Ru) (s k : Int) (Bs Bk : Nat) (w : World) (hs : w.heap[Bs]? = some (.cells #[.int .i64 s] 3 (0, 0))) (hk : w.heap[Bk]? = some (.cells #[.int .i64 k] 3 (0, 0))) :
    Calls Tryd.prog 43 #[ruV r, .pointer (some ⟨Bs, 0, none⟩), .pointer (some ⟨Bk, 0, none⟩)] w fun e w' => e = .returned (.bool (decide (Fits r s k))) ∧ Below w.heap.size w w' := by
  obtain ⟨rs, rk, rp⟩ := r
  have HB := Lib.hid ((Below.refl _ w).alloc (Nat.le_refl _) (.cells #[.int .i64 rs, .int .i64 rk, .int .i64 rp] 79))
  have c1 : (w.alloc (.cells #[.int .i64 rs, .int .i64 rk, .int .i64 rp] 79)).cell? ⟨Bs, 0, none⟩ = some (.int .i64 s) := cell_of_row _ _ 0 _ _ _ (heap_old hs _)
  have c2 : (w.alloc (.cells #[.int .i64 rs, .int .i64 rk, .int .i64 rp] 79)).cell? ⟨Bk, 0, none⟩ = some (.int .i64 k) := cell_of_row _ _ 0 _ _ _ (heap_old hk _)
  clear hs hk
  by_cases s0 : rs = 0
  · have q1 : (rs == 0) = true := by simp [s0]
    by_cases k0 : rk = 0
    · have q3 : (rk == 0) = true := by simp [k0]
      rw [decide_eq_true (show Fits ⟨rs, rk, rp⟩ s k from ⟨.inl s0, .inl k0⟩)]
      clear s0 k0
      go_enter Tryd.func43, Tryd.ntmps43
      go_wp2
      go_ret
      exact ⟨rfl, HB.out⟩
    · have q3 : (rk == 0) = false := by simp [k0]
      have hd : decide (Fits ⟨rs, rk, rp⟩ s k) = (rk == k) := by
        rw [Bool.eq_iff_iff, decide_eq_true_iff, beq_iff_eq]
        constructor
        · intro h; rcases h.2 with h | h
          · exact absurd h k0
          · exact h
        · intro h; exact ⟨.inl s0, .inr h⟩
      rw [hd]
      clear s0 k0 hd
      go_enter Tryd.func43, Tryd.ntmps43
      go_wp2
      go_ret
      exact ⟨rfl, HB.out⟩
  · have q1 : (rs == 0) = false := by simp [s0]
    by_cases s1 : rs = s
    · have q2 : (rs == s) = true := by simp [s1]
      by_cases k0 : rk = 0
      · have q3 : (rk == 0) = true := by simp [k0]
        rw [decide_eq_true (show Fits ⟨rs, rk, rp⟩ s k from ⟨.inr s1, .inl k0⟩)]
        clear s0 k0 s1
        go_enter Tryd.func43, Tryd.ntmps43
        go_wp2
        go_ret
        exact ⟨rfl, HB.out⟩
      · have q3 : (rk == 0) = false := by simp [k0]
        have hd : decide (Fits ⟨rs, rk, rp⟩ s k) = (rk == k) := by
          rw [Bool.eq_iff_iff, decide_eq_true_iff, beq_iff_eq]
          constructor
          · intro h; rcases h.2 with h | h
            · exact absurd h k0
            · exact h
          · intro h; exact ⟨.inr s1, .inr h⟩
        rw [hd]
        clear s0 k0 hd s1
        go_enter Tryd.func43, Tryd.ntmps43
        go_wp2
        go_ret
        exact ⟨rfl, HB.out⟩
    · have q2 : (rs == s) = false := by simp [s1]
      rw [decide_eq_false (show ¬ Fits ⟨rs, rk, rp⟩ s k from fun h => by rcases h.1 with h | h; exact s0 h; exact s1 h)]
      clear s0 s1
      go_enter Tryd.func43, Tryd.ntmps43
      go_wp2
      go_ret
      exact ⟨rfl, HB.out⟩
/-- The index of the first rule that fits, or -1. -/
def IxIs (R : Nat → Ru) (rl : Nat) (s k i : Int) : Prop := (∃ n : Nat, n < rl ∧ i = n ∧ Fits (R n) s k ∧ ∀ j, j < n → ¬ Fits (R j) s k) ∨ (i = -1 ∧ ∀ j, j < rl → ¬ Fits (R j) s k)
def IxE (R : Nat → Ru) (rl : Nat) (s k : Int) (e : Ending) : Prop := ∃ i, IxIs R rl s k i ∧ e = .returned (.int .i64 i)
set_option maxRecDepth 100000 in
set_option maxHeartbeats 2000000 in
theorem index_any (ra : Option Addr) (rl rc : Nat) (R : Nat → Ru) (s k : Int) (Bs Bk n₀ : Nat) (w : World) (hn0 : n₀ ≤ w.heap.size) (hR : RusAt n₀ w ra rl R) (hrm : rl ≤ 1000) (hs : w.heap[Bs]? = some (.cells #[.int .i64 s] 3 (0, 0))) (hk : w.heap[Bk]? = some (.cells #[.int .i64 k] 3 (0, 0))) :
    Calls Tryd.prog 44 #[.slice ra rl rc, .func (.func 43) #[] #[.pointer (some ⟨Bs, 0, none⟩), .pointer (some ⟨Bk, 0, none⟩)]] w fun e w' => IxE R rl s k e ∧ Below w.heap.size w w' := by
  have HR := Lib.hid hR
  have HS := Lib.hid hs
  have HK := Lib.hid hk
  have hbs := (Array.getElem?_eq_some_iff.1 hs).1
  have hbk := (Array.getElem?_eq_some_iff.1 hk).1
  clear hR hs hk
  go_enter Tryd.func44, Tryd.ntmps44
  go_wp2_with fail
  go_loopw [8] (fun i wr => ∃ m : Nat, m ≤ rl ∧ i = .int .i64 m ∧ (∀ j, j < m → ¬ Fits (R j) s k) ∧ Below w.heap.size w wr) (fun i _ => (rl - intOf i).toNat)
  case atStart => exact ⟨0, Nat.zero_le _, rfl, fun j hj => absurd hj (Nat.not_lt_zero _), Below.refl _ _⟩
  case round =>
    obtain ⟨m, hm, rfl, hall, hb⟩ := hrel
    have HALL := Lib.hid hall
    have HB := Lib.hid hb
    clear hall hb
    by_cases hlt : m < rl
    · have hlti : (m : Int) < rl := by omega
      obtain ⟨b, o, rfl, hbl, c0, c1, c2⟩ := HR.out.next HB.out hn0 (Nat.le_refl _) m hlt
      obtain ⟨r, hr⟩ : ∃ r, R m = r := ⟨_, rfl⟩
      rw [hr] at c0 c1 c2
      have HRR := Lib.hid hr
      have HC := Lib.hid (holds_any r s k Bs Bk wr ((HB.out.block Bs hbs).trans HS.out) ((HB.out.block Bk hbk).trans HK.out))
      obtain ⟨rs, rk, rp⟩ := r
      simp only at c0 c1 c2
      clear hr
      by_cases hf : Fits ⟨rs, rk, rp⟩ s k
      · rw [decide_eq_true hf] at HC
        have HF := Lib.hid (show IxIs R rl s k (m : Int) from .inl ⟨m, hlt, rfl, by rw [HRR.out]; exact hf, HALL.out⟩)
        clear hf
        go_wp2_with fail
        refine HC.out.mono ?_
        rintro e w2 ⟨rfl, hB2⟩
        have HB2 := Lib.hid (HB.out.trans (hB2.mono HB.out.size))
        clear hB2 HC
        go_wp2
        go_ret
        exact ⟨⟨_, HF.out, rfl⟩, HB2.out⟩
      · rw [decide_eq_false hf] at HC
        have HF := Lib.hid (show ¬ Fits (R m) s k by rw [HRR.out]; exact hf)
        clear hf
        go_wp2_with fail
        refine HC.out.mono ?_
        rintro e w2 ⟨rfl, hB2⟩
        have HB2 := Lib.hid (HB.out.trans (hB2.mono HB.out.size))
        clear hB2 HC
        go_wp2
        go_roundw
        case rel => exact ⟨m + 1, by omega, by go_num, fun j hj => by rcases Nat.lt_succ_iff_lt_or_eq.1 hj with q | q; exact HALL.out j q; rw [q]; exact HF.out, HB2.out⟩
        case measure => first | (simp [intOf]; done) | (simp [intOf]; omega)
    · have hme : m = rl := by omega
      subst hme
      have HF := Lib.hid (show IxIs R m s k (-1) from .inr ⟨rfl, HALL.out⟩)
      go_wp2
      go_ret
      exact ⟨⟨_, HF.out, rfl⟩, HB.out⟩
set_option maxRecDepth 100000 in
set_option maxHeartbeats 4000000 in
theorem planT_no (pa : Option Addr) (pl pc : Nat) (ra : Option Addr) (rl rc : Nat) (P : Nat → Pl) (R : Nat → Ru) (s kd : Int) (hno : ¬ PlanMay P pl R rl s kd) (w : World) (hP : PlsAt w.heap.size w pa pl P) (hR : RusAt w.heap.size w ra rl R) (hlm : pl ≤ maxLen) (hrm : rl ≤ maxLen) :
    Calls Tryd.prog 20 #[tabV pa pl pc ra rl rc, .int .i64 s, .int .i64 kd] w fun e w' => e = .returned (.tuple #[.int .i64 0, .bool false]) ∧ Below w.heap.size w w' := by
  have hb0 := (((Below.refl _ w).alloc (Nat.le_refl _) (.cells #[.slice pa pl pc, .slice ra rl rc] 37)).alloc (by simp) (.cells #[.int .i64 s] 3)).alloc (by simp; omega) (.cells #[.int .i64 kd] 3)
  have hz1 : (((w.alloc (.cells #[.slice pa pl pc, .slice ra rl rc] 37)).alloc (.cells #[.int .i64 s] 3)).alloc (.cells #[.int .i64 kd] 3)).heap[w.heap.size + 1]? = some (.cells #[.int .i64 s] 3) := heap_old (by have := heap_alloc_new (w.alloc (.cells #[.slice pa pl pc, .slice ra rl rc] 37)) (.cells #[.int .i64 s] 3); rw [World.size_alloc] at this; exact this) _
  have hz2 : (((w.alloc (.cells #[.slice pa pl pc, .slice ra rl rc] 37)).alloc (.cells #[.int .i64 s] 3)).alloc (.cells #[.int .i64 kd] 3)).heap[w.heap.size + 1 + 1]? = some (.cells #[.int .i64 kd] 3) := by have := heap_alloc_new ((w.alloc (.cells #[.slice pa pl pc, .slice ra rl rc] 37)).alloc (.cells #[.int .i64 s] 3)) (.cells #[.int .i64 kd] 3); rw [World.size_alloc, World.size_alloc] at this; exact this
  have hsz : (((w.alloc (.cells #[.slice pa pl pc, .slice ra rl rc] 37)).alloc (.cells #[.int .i64 s] 3)).alloc (.cells #[.int .i64 kd] 3)).heap.size = w.heap.size + 3 := by simp [World.size_alloc]
  have HC := Lib.hid (checkT_any pa pl pc ra rl rc P R _ ((hP.next hb0 (Nat.le_refl _) (Nat.le_refl _)).mono hb0.size) ((hR.next hb0 (Nat.le_refl _) (Nat.le_refl _)).mono hb0.size) hlm hrm)
  have HB0 := Lib.hid hb0
  have HZ1 := Lib.hid hz1
  have HZ2 := Lib.hid hz2
  have HSZ := Lib.hid hsz
  clear hb0 hz1 hz2 hsz hP hR hlm hrm
  by_cases ht : TabIs P pl R rl
  · rw [tErr_yes ht] at HC
    by_cases h1 : 0 ≤ s ∧ s ≤ 99
    · have HF1 := Lib.hid (fun W : World => isFrom_yes h1 W)
      have HF2 := Lib.hid (fun W : World => isFrom_no (n := kd) (a := 1) (b := 4) (fun h => hno ⟨ht, h1, h⟩) W)
      clear ht h1 hno
      go_enter Tryd.func20, Tryd.ntmps20
      go_wp2_with fail
      refine HC.out.mono ?_
      rintro e w1 ⟨rfl, hB1⟩
      have z1 : w1.cell? ⟨w.heap.size + 1, 0, none⟩ = some (.int .i64 s) := cell_of_row _ _ 0 _ _ _ ((hB1.block (w.heap.size + 1) (by rw [HSZ.out]; omega)).trans HZ1.out)
      have z2 : w1.cell? ⟨w.heap.size + 1 + 1, 0, none⟩ = some (.int .i64 kd) := cell_of_row _ _ 0 _ _ _ ((hB1.block (w.heap.size + 1 + 1) (by rw [HSZ.out]; omega)).trans HZ2.out)
      have HB1 := Lib.hid (HB0.out.trans (hB1.mono HB0.out.size))
      clear hB1
      go_wp2_with fail
      refine (HF1.out _).mono ?_
      rintro e w' ⟨rfl, rfl⟩
      go_wp2_with fail
      refine (HF2.out _).mono ?_
      rintro e w' ⟨rfl, rfl⟩
      go_wp2
      go_ret2
      exact ⟨rfl, HB1.out⟩
    · have HF1 := Lib.hid (fun W : World => isFrom_no h1 W)
      clear ht h1 hno
      go_enter Tryd.func20, Tryd.ntmps20
      go_wp2_with fail
      refine HC.out.mono ?_
      rintro e w1 ⟨rfl, hB1⟩
      have z1 : w1.cell? ⟨w.heap.size + 1, 0, none⟩ = some (.int .i64 s) := cell_of_row _ _ 0 _ _ _ ((hB1.block (w.heap.size + 1) (by rw [HSZ.out]; omega)).trans HZ1.out)
      have HB1 := Lib.hid (HB0.out.trans (hB1.mono HB0.out.size))
      clear hB1
      go_wp2_with fail
      refine (HF1.out _).mono ?_
      rintro e w' ⟨rfl, rfl⟩
      go_wp2
      go_ret2
      exact ⟨rfl, HB1.out⟩
  · rw [tErr_no ht] at HC
    clear ht hno
    go_enter Tryd.func20, Tryd.ntmps20
    go_wp2_with fail
    refine HC.out.mono ?_
    rintro e w1 ⟨rfl, hB1⟩
    have HB1 := Lib.hid (HB0.out.trans (hB1.mono HB0.out.size))
    clear hB1
    go_wp2
    go_ret2
    exact ⟨rfl, HB1.out⟩
set_option maxRecDepth 100000 in
set_option maxHeartbeats 4000000 in
theorem planT_yes (pa : Option Addr) (pl pc : Nat) (ra : Option Addr) (rl rc : Nat) (P : Nat → Pl) (R : Nat → Ru) (s kd : Int) (hyes : PlanMay P pl R rl s kd) (w : World) (hP : PlsAt w.heap.size w pa pl P) (hR : RusAt w.heap.size w ra rl R) (hlm : pl ≤ maxLen) (hrm : rl ≤ maxLen) :
    Calls Tryd.prog 20 #[tabV pa pl pc ra rl rc, .int .i64 s, .int .i64 kd] w fun e w' => PlanE R rl s kd e ∧ Below w.heap.size w w' := by
  have hb0 := (((Below.refl _ w).alloc (Nat.le_refl _) (.cells #[.slice pa pl pc, .slice ra rl rc] 37)).alloc (by simp) (.cells #[.int .i64 s] 3)).alloc (by simp; omega) (.cells #[.int .i64 kd] 3)
  have hz0 : (((w.alloc (.cells #[.slice pa pl pc, .slice ra rl rc] 37)).alloc (.cells #[.int .i64 s] 3)).alloc (.cells #[.int .i64 kd] 3)).heap[w.heap.size]? = some (.cells #[.slice pa pl pc, .slice ra rl rc] 37) := heap_old (heap_old (heap_alloc_new w _) _) _
  have hz1 : (((w.alloc (.cells #[.slice pa pl pc, .slice ra rl rc] 37)).alloc (.cells #[.int .i64 s] 3)).alloc (.cells #[.int .i64 kd] 3)).heap[w.heap.size + 1]? = some (.cells #[.int .i64 s] 3) := heap_old (by have := heap_alloc_new (w.alloc (.cells #[.slice pa pl pc, .slice ra rl rc] 37)) (.cells #[.int .i64 s] 3); rw [World.size_alloc] at this; exact this) _
  have hz2 : (((w.alloc (.cells #[.slice pa pl pc, .slice ra rl rc] 37)).alloc (.cells #[.int .i64 s] 3)).alloc (.cells #[.int .i64 kd] 3)).heap[w.heap.size + 1 + 1]? = some (.cells #[.int .i64 kd] 3) := by have := heap_alloc_new ((w.alloc (.cells #[.slice pa pl pc, .slice ra rl rc] 37)).alloc (.cells #[.int .i64 s] 3)) (.cells #[.int .i64 kd] 3); rw [World.size_alloc, World.size_alloc] at this; exact this
  have hsz : (((w.alloc (.cells #[.slice pa pl pc, .slice ra rl rc] 37)).alloc (.cells #[.int .i64 s] 3)).alloc (.cells #[.int .i64 kd] 3)).heap.size = w.heap.size + 3 := by simp [World.size_alloc]
  have hck := checkT_any pa pl pc ra rl rc P R _ ((hP.next hb0 (Nat.le_refl _) (Nat.le_refl _)).mono hb0.size) ((hR.next hb0 (Nat.le_refl _) (Nat.le_refl _)).mono hb0.size) hlm hrm
  rw [tErr_yes hyes.1] at hck
  have HC := Lib.hid hck
  have HF1 := Lib.hid (fun W : World => isFrom_yes hyes.2.1 W)
  have HF2 := Lib.hid (fun W : World => isFrom_yes hyes.2.2 W)
  have hrl := hyes.1.2.2.1
  have HR := Lib.hid hR
  have HB0 := Lib.hid hb0
  have HZ0 := Lib.hid hz0
  have HZ1 := Lib.hid hz1
  have HZ2 := Lib.hid hz2
  have HSZ := Lib.hid hsz
  clear hb0 hz0 hz1 hz2 hsz hP hR hlm hrm hck hyes
  go_enter Tryd.func20, Tryd.ntmps20
  go_wp2_with fail
  refine HC.out.mono ?_
  rintro e w1 ⟨rfl, hB1⟩
  have hr0 := (hB1.block w.heap.size (by rw [HSZ.out]; omega)).trans HZ0.out
  have hr1 := (hB1.block (w.heap.size + 1) (by rw [HSZ.out]; omega)).trans HZ1.out
  have hr2 := (hB1.block (w.heap.size + 1 + 1) (by rw [HSZ.out]; omega)).trans HZ2.out
  have z0 : w1.cell? ⟨w.heap.size, 1, none⟩ = some (.slice ra rl rc) := cell_of_row _ _ 1 _ _ _ hr0
  have z1 : w1.cell? ⟨w.heap.size + 1, 0, none⟩ = some (.int .i64 s) := cell_of_row _ _ 0 _ _ _ hr1
  have z2 : w1.cell? ⟨w.heap.size + 1 + 1, 0, none⟩ = some (.int .i64 kd) := cell_of_row _ _ 0 _ _ _ hr2
  have hb1 := HB0.out.trans (hB1.mono HB0.out.size)
  have HI := Lib.hid (index_any ra rl rc R s kd (w.heap.size + 1) (w.heap.size + 1 + 1) w.heap.size w1 hb1.size (HR.out.next hb1 (Nat.le_refl _) (Nat.le_refl _)) (by omega) hr1 hr2)
  have HB1 := Lib.hid hb1
  have HR0 := Lib.hid hr0
  have hl0 := (Array.getElem?_eq_some_iff.1 hr0).1
  clear hB1 hr0 hr1 hr2 hb1
  go_wp2_with fail
  refine (HF1.out _).mono ?_
  rintro e w' ⟨rfl, rfl⟩
  go_wp2_with fail
  refine (HF2.out _).mono ?_
  rintro e w' ⟨rfl, rfl⟩
  go_wp2_with fail
  refine HI.out.mono ?_
  rintro e w2 ⟨⟨i, hi, rfl⟩, hB2⟩
  have hr02 := (hB2.block w.heap.size hl0).trans HR0.out
  have y0 : w2.cell? ⟨w.heap.size, 1, none⟩ = some (.slice ra rl rc) := cell_of_row _ _ 1 _ _ _ hr02
  have hb2 := HB1.out.trans (hB2.mono HB1.out.size)
  have HB2 := Lib.hid hb2
  rcases hi with ⟨n, hn, rfl, hf, hall⟩ | ⟨rfl, hall⟩
  · obtain ⟨b, o, rfl, hbl, c0, c1, c2⟩ := HR.out.next hb2 (Nat.le_refl _) (Nat.le_refl _) n hn
    have HPL := Lib.hid (show PlanOf R rl s kd (R n).p from .inl ⟨n, hn, hf, rfl, hall⟩)
    have g0 : ¬ ((n : Int) < 0) := by omega
    clear z0 z1 z2 hB2 hb2 hr02 hf hall HI
    have hni : (n : Int) < rl := by omega
    go_wp2
    go_ret2
    exact ⟨⟨_, HPL.out, rfl⟩, HB2.out⟩
  · have HPL := Lib.hid (show PlanOf R rl s kd 0 from .inr ⟨rfl, hall⟩)
    clear z0 z1 z2 hB2 hb2 hr02 hall HI
    go_wp2
    go_ret2
    exact ⟨⟨_, HPL.out, rfl⟩, HB2.out⟩
end Go.Proofs.YtbffmobjiiicoaaDoor.B9
end
