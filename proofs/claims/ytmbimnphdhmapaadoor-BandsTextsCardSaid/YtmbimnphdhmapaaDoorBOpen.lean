/- Plans and tables that came in. -/
import Derived.Test.YtmbimnphdhmapaaDoorBMath
import Derived.OpenShut
import Derived.ChangeArms
import Derived.WideShapes
import Derived.ShutString
import Derived.ChangeOld
import Derived.Stop.Joined
import Derived.Deep.Strs
import Derived.Lib.SmallJoins
import Derived.Deep.Slices
import Derived.Deep.MidRow
import Derived.Deep.SlicePairs
namespace Go.Proofs.YtmbimnphdhmapaaDoor
open Go.ChangeShapes Go.WideShapes Go.RowKit
set_option linter.unusedVariables false
def In64 (n : Int) : Prop := -9223372036854775808 ≤ n ∧ n ≤ 9223372036854775807
theorem in64_of {n : Int} (h : (Lit.int .i64 n).wf = true) : In64 n := by
  simp [Lit.wf, IntKind.min, IntKind.max, IntKind.bits, IntKind.signed] at h; exact h
structure Ru where
  s : Int
  k : Int
  p : Int
/-- The rules lie from a on, in a block below B. -/
def RusAt (B : Nat) (W : World) (a : Option Addr) (len : Nat) (R : Nat → Ru) : Prop :=
  ∀ i, i < len → ∃ b o, a = some ⟨b, o, none⟩ ∧ b < B ∧ W.cell? ⟨b, o + i * 3, none⟩ = some (.int .i64 (R i).s) ∧ W.cell? ⟨b, o + i * 3 + 1, none⟩ = some (.int .i64 (R i).k) ∧ W.cell? ⟨b, o + i * 3 + 2, none⟩ = some (.int .i64 (R i).p)
structure Pl where
  a : Option Addr
  len : Nat
  cap : Nat
  L : Nat → Sw
/-- The plans: a row of slices, each with its switches. -/
def PlsAt (B : Nat) (W : World) (a : Option Addr) (len : Nat) (P : Nat → Pl) : Prop :=
  ∀ i, i < len → ∃ b o, a = some ⟨b, o, none⟩ ∧ b < B ∧ W.cell? ⟨b, o + i, none⟩ = some (.slice (P i).a (P i).len (P i).cap) ∧ ((P i).len ≤ (P i).cap ∧ (P i).cap ≤ maxLen) ∧ SwsAt B W (P i).a (P i).len (P i).L
theorem RusAt.next {B n : Nat} {W X : World} {a : Option Addr} {len : Nat} {R : Nat → Ru} (h : RusAt B W a len R) (hB : Below n W X) (hn : B ≤ n) (hs : n ≤ W.heap.size) : RusAt B X a len R := by
  intro i hi
  obtain ⟨b, o, e, hb, h0, h1, h2⟩ := h i hi
  have hx : ∀ k, X.cell? ⟨b, k, none⟩ = W.cell? ⟨b, k, none⟩ := fun k => hB.cell (p := ⟨b, k, none⟩) (by show b < n; omega)
  exact ⟨b, o, e, hb, (hx _).trans h0, (hx _).trans h1, (hx _).trans h2⟩
theorem RusAt.mono {B B' : Nat} {W : World} {a : Option Addr} {len : Nat} {R : Nat → Ru} (h : RusAt B W a len R) (hB : B ≤ B') : RusAt B' W a len R := fun i hi => by
  obtain ⟨b, o, e, hb, k⟩ := h i hi; exact ⟨b, o, e, by omega, k⟩
theorem PlsAt.next {B n : Nat} {W X : World} {a : Option Addr} {len : Nat} {P : Nat → Pl} (h : PlsAt B W a len P) (hB : Below n W X) (hn : B ≤ n) (hs : n ≤ W.heap.size) : PlsAt B X a len P := by
  intro i hi
  obtain ⟨b, o, e, hb, h0, hl, h1⟩ := h i hi
  have hx : ∀ k, X.cell? ⟨b, k, none⟩ = W.cell? ⟨b, k, none⟩ := fun k => hB.cell (p := ⟨b, k, none⟩) (by show b < n; omega)
  exact ⟨b, o, e, hb, (hx _).trans h0, hl, h1.next hB hn hs⟩
theorem PlsAt.mono {B B' : Nat} {W : World} {a : Option Addr} {len : Nat} {P : Nat → Pl} (h : PlsAt B W a len P) (hB : B ≤ B') : PlsAt B' W a len P := fun i hi => by
  obtain ⟨b, o, e, hb, k, hl, h1⟩ := h i hi; exact ⟨b, o, e, by omega, k, hl, h1.mono hB⟩
abbrev tabV (pa : Option Addr) (pl pc : Nat) (ra : Option Addr) (rl rc : Nat) : Value := .agg #[.slice pa pl pc, .slice ra rl rc]
section
variable {H : Type} {enc : TypeId × Value → H} {W : World} {base : Nat} {sp : Nat → Bool} {held : Bool} {fuel : Nat}
theorem int_cell {c : Value} {x : DataW H × List MemPlace} (h : DataW.trod enc Tryd.prog W base sp held fuel 3 [c] = some x) : ∃ n : Int, c = .int .i64 n ∧ In64 n := by
  obtain ⟨n, e, _, hw⟩ := DataW.trod_int Tryd.underlying3 h
  exact ⟨n, by simpa using e, in64_of hw⟩
theorem trod_struct2' {t : TypeId} {f0 f1 : Field} {cs : List Value} {x : DataW H × List MemPlace} (ht : Tryd.prog.underlying t = some (.struct #[f0, f1])) (h : DataW.trod enc Tryd.prog W base sp held fuel t cs = some x) :
    ∃ y0 y1 n, cs.length = Tryd.prog.cellsOf t ∧ DataW.trod enc Tryd.prog W base sp held n f0.type ((cs.drop f0.offset).take (Tryd.prog.cellsOf f0.type)) = some y0 ∧
      DataW.trod enc Tryd.prog W base sp held n f1.type ((cs.drop f1.offset).take (Tryd.prog.cellsOf f1.type)) = some y1 := by
  obtain ⟨xs, n, _, rfl, hl, hlen, hf⟩ := DataW.trod_struct ht h
  match xs, hlen with
  | [y0, y1], _ => exact ⟨y0, y1, n, hl, by simpa using hf 0 f0 rfl, by simpa using hf 1 f1 rfl⟩
theorem trod_struct3' {t : TypeId} {f0 f1 f2 : Field} {cs : List Value} {x : DataW H × List MemPlace} (ht : Tryd.prog.underlying t = some (.struct #[f0, f1, f2])) (h : DataW.trod enc Tryd.prog W base sp held fuel t cs = some x) :
    ∃ y0 y1 y2 n, cs.length = Tryd.prog.cellsOf t ∧ DataW.trod enc Tryd.prog W base sp held n f0.type ((cs.drop f0.offset).take (Tryd.prog.cellsOf f0.type)) = some y0 ∧
      DataW.trod enc Tryd.prog W base sp held n f1.type ((cs.drop f1.offset).take (Tryd.prog.cellsOf f1.type)) = some y1 ∧ DataW.trod enc Tryd.prog W base sp held n f2.type ((cs.drop f2.offset).take (Tryd.prog.cellsOf f2.type)) = some y2 := by
  obtain ⟨xs, n, _, rfl, hl, hlen, hf⟩ := DataW.trod_struct ht h
  match xs, hlen with
  | [y0, y1, y2], _ => exact ⟨y0, y1, y2, n, hl, by simpa using hf 0 f0 rfl, by simpa using hf 1 f1 rfl, by simpa using hf 2 f2 rfl⟩
set_option maxRecDepth 100000 in
theorem sw_cells {cs : List Value} {x : DataW H × List MemPlace} (hl : cs.length = 2) (h : DataW.trod enc Tryd.prog W base sp held fuel 39 cs = some x) :
    ∃ r : Sw, cs = [.int .i64 r.m, .int .i64 r.b] ∧ In64 r.m ∧ In64 r.b := by
  have k1 : Tryd.prog.cellsOf 3 = 1 := by kernel_rfl
  match cs, hl with
  | [a, b], _ =>
    obtain ⟨y0, y1, n, _, h0, h1⟩ := trod_struct2' Tryd.underlying39 h
    simp only [k1, List.drop, List.take] at h0 h1
    obtain ⟨v0, rfl, w0⟩ := int_cell h0
    obtain ⟨v1, rfl, w1⟩ := int_cell h1
    exact ⟨⟨v0, v1⟩, rfl, w0, w1⟩
set_option maxRecDepth 100000 in
theorem ru_cells {cs : List Value} {x : DataW H × List MemPlace} (hl : cs.length = 3) (h : DataW.trod enc Tryd.prog W base sp held fuel 42 cs = some x) :
    ∃ r : Ru, cs = [.int .i64 r.s, .int .i64 r.k, .int .i64 r.p] := by
  have k1 : Tryd.prog.cellsOf 3 = 1 := by kernel_rfl
  match cs, hl with
  | [a, b, c], _ =>
    obtain ⟨y0, y1, y2, n, _, h0, h1, h2⟩ := trod_struct3' Tryd.underlying42 h
    simp only [k1, List.drop, List.take] at h0 h1 h2
    obtain ⟨v0, rfl, _⟩ := int_cell h0
    obtain ⟨v1, rfl, _⟩ := int_cell h1
    obtain ⟨v2, rfl, _⟩ := int_cell h2
    exact ⟨⟨v0, v1, v2⟩, rfl⟩
theorem open_sws {c : Value} {x : DataW H × List MemPlace} (h : DataW.trod enc Tryd.prog W base sp held fuel 22 [c] = some x) :
    ∃ (a : Option Addr) (len cap : Nat) (R : Nat → Sw), c = .slice a len cap ∧ (len ≤ cap ∧ cap ≤ maxLen) ∧ SwsAt W.heap.size W a len R := by
  rcases Go.Deep.open_slice Tryd.underlying22 h with ⟨hc, _⟩ | ⟨a, len, cap, m, n, D, Pl, hc, _, hl, hm, hmm, _, hx⟩
  · obtain rfl : c = .slice none 0 0 := by simpa using hc
    exact ⟨none, 0, 0, fun _ => ⟨0, 0⟩, rfl, ⟨Nat.le_refl _, Nat.zero_le _⟩, fun i hi => absurd hi (Nat.not_lt_zero _)⟩
  · obtain rfl : c = .slice (some a) len cap := by simpa using hc
    have hk : Tryd.prog.cellsOf 39 = 2 := by kernel_rfl
    rw [hk] at hx
    have hlm : len ≤ m := by rw [hmm]; split <;> omega
    have each : ∀ i : Nat, ∃ r : Sw, i < len → ∃ b o, (some a : Option Addr) = some ⟨b, o, none⟩ ∧ b < W.heap.size ∧ W.cell? ⟨b, o + i * 2, none⟩ = some (.int .i64 r.m) ∧ W.cell? ⟨b, o + i * 2 + 1, none⟩ = some (.int .i64 r.b) := by
      intro i
      by_cases hi : i < len
      · obtain ⟨cs, h1, h2⟩ := hx i (by omega)
        obtain ⟨_, hlen, hcell⟩ := World.cells?_some h1
        obtain ⟨r, rfl, _⟩ := sw_cells hlen h2
        obtain ⟨b, o, spot⟩ := a
        obtain ⟨cs0, g1, g2⟩ := hx 0 (by omega)
        obtain ⟨_, hlen0, hcell0⟩ := World.cells?_some g1
        obtain ⟨r0, rfl, _⟩ := sw_cells hlen0 g2
        have c0 := hcell0 0 (by omega)
        have hspot : spot = none := by
          have := World.cell?_spot c0
          simpa [Addr.add] using this
        subst hspot
        simp only [Addr.add_mid] at hcell
        refine ⟨r, fun _ => ⟨b, o, rfl, World.block_lt_of_cell? W _ (hcell 0 (by omega)), hcell 0 (by omega), hcell 1 (by omega)⟩⟩
      · exact ⟨⟨0, 0⟩, fun h => absurd h hi⟩
    obtain ⟨R, hR⟩ := Classical.axiomOfChoice each
    exact ⟨some a, len, cap, R, rfl, ⟨hl, hm⟩, hR⟩
theorem open_rus {c : Value} {x : DataW H × List MemPlace} (h : DataW.trod enc Tryd.prog W base sp held fuel 43 [c] = some x) :
    ∃ (a : Option Addr) (len cap : Nat) (R : Nat → Ru), c = .slice a len cap ∧ (len ≤ cap ∧ cap ≤ maxLen) ∧ RusAt W.heap.size W a len R := by
  rcases Go.Deep.open_slice Tryd.underlying43 h with ⟨hc, _⟩ | ⟨a, len, cap, m, n, D, Pl, hc, _, hl, hm, hmm, _, hx⟩
  · obtain rfl : c = .slice none 0 0 := by simpa using hc
    exact ⟨none, 0, 0, fun _ => ⟨0, 0, 0⟩, rfl, ⟨Nat.le_refl _, Nat.zero_le _⟩, fun i hi => absurd hi (Nat.not_lt_zero _)⟩
  · obtain rfl : c = .slice (some a) len cap := by simpa using hc
    have hk : Tryd.prog.cellsOf 42 = 3 := by kernel_rfl
    rw [hk] at hx
    have hlm : len ≤ m := by rw [hmm]; split <;> omega
    have each : ∀ i : Nat, ∃ r : Ru, i < len → ∃ b o, (some a : Option Addr) = some ⟨b, o, none⟩ ∧ b < W.heap.size ∧ W.cell? ⟨b, o + i * 3, none⟩ = some (.int .i64 r.s) ∧ W.cell? ⟨b, o + i * 3 + 1, none⟩ = some (.int .i64 r.k) ∧ W.cell? ⟨b, o + i * 3 + 2, none⟩ = some (.int .i64 r.p) := by
      intro i
      by_cases hi : i < len
      · obtain ⟨cs, h1, h2⟩ := hx i (by omega)
        obtain ⟨_, hlen, hcell⟩ := World.cells?_some h1
        obtain ⟨r, rfl⟩ := ru_cells hlen h2
        obtain ⟨b, o, spot⟩ := a
        obtain ⟨cs0, g1, g2⟩ := hx 0 (by omega)
        obtain ⟨_, hlen0, hcell0⟩ := World.cells?_some g1
        obtain ⟨r0, rfl⟩ := ru_cells hlen0 g2
        have c0 := hcell0 0 (by omega)
        have hspot : spot = none := by
          have := World.cell?_spot c0
          simpa [Addr.add] using this
        subst hspot
        simp only [Addr.add_mid] at hcell
        refine ⟨r, fun _ => ⟨b, o, rfl, World.block_lt_of_cell? W _ (hcell 0 (by omega)), hcell 0 (by omega), hcell 1 (by omega), hcell 2 (by omega)⟩⟩
      · exact ⟨⟨0, 0, 0⟩, fun h => absurd h hi⟩
    obtain ⟨R, hR⟩ := Classical.axiomOfChoice each
    exact ⟨some a, len, cap, R, rfl, ⟨hl, hm⟩, hR⟩
theorem open_pls {c : Value} {x : DataW H × List MemPlace} (h : DataW.trod enc Tryd.prog W base sp held fuel 40 [c] = some x) :
    ∃ (a : Option Addr) (len cap : Nat) (P : Nat → Pl), c = .slice a len cap ∧ (len ≤ cap ∧ cap ≤ maxLen) ∧ PlsAt W.heap.size W a len P := by
  rcases Go.Deep.open_slice Tryd.underlying40 h with ⟨hc, _⟩ | ⟨a, len, cap, m, n, D, Q, hc, _, hl, hm, hmm, _, hx⟩
  · obtain rfl : c = .slice none 0 0 := by simpa using hc
    exact ⟨none, 0, 0, fun _ => ⟨none, 0, 0, fun _ => ⟨0, 0⟩⟩, rfl, ⟨Nat.le_refl _, Nat.zero_le _⟩, fun i hi => absurd hi (Nat.not_lt_zero _)⟩
  · obtain rfl : c = .slice (some a) len cap := by simpa using hc
    have hk : Tryd.prog.cellsOf 22 = 1 := by kernel_rfl
    rw [hk] at hx
    have hlm : len ≤ m := by rw [hmm]; split <;> omega
    have each : ∀ i : Nat, ∃ r : Pl, i < len → ∃ b o, (some a : Option Addr) = some ⟨b, o, none⟩ ∧ b < W.heap.size ∧ W.cell? ⟨b, o + i, none⟩ = some (.slice r.a r.len r.cap) ∧ (r.len ≤ r.cap ∧ r.cap ≤ maxLen) ∧ SwsAt W.heap.size W r.a r.len r.L := by
      intro i
      by_cases hi : i < len
      · obtain ⟨cs, h1, h2⟩ := hx i (by omega)
        obtain ⟨_, hlen, hcell⟩ := World.cells?_some h1
        match cs, hlen with
        | [v], _ =>
          obtain ⟨ra, rl, rc, L, rfl, hle, hL⟩ := open_sws h2
          obtain ⟨b, o, spot⟩ := a
          obtain ⟨cs0, g1, g2⟩ := hx 0 (by omega)
          obtain ⟨_, hlen0, hcell0⟩ := World.cells?_some g1
          match cs0, hlen0 with
          | [v0], _ =>
            have c0 := hcell0 0 (by omega)
            have hspot : spot = none := by
              have := World.cell?_spot c0
              simpa [Addr.add] using this
            subst hspot
            simp only [Addr.add_mid] at hcell
            have q := hcell 0 (by omega)
            refine ⟨⟨ra, rl, rc, L⟩, fun _ => ⟨b, o, rfl, World.block_lt_of_cell? W _ q, by simpa using q, hle, hL⟩⟩
      · exact ⟨⟨none, 0, 0, fun _ => ⟨0, 0⟩⟩, fun h => absurd h hi⟩
    obtain ⟨R, hR⟩ := Classical.axiomOfChoice each
    exact ⟨some a, len, cap, R, rfl, ⟨hl, hm⟩, hR⟩
theorem cells2 {cs : Array Value} (h : cs.size = 2) : ∃ a b, cs = #[a, b] := by
  obtain ⟨l⟩ := cs
  match l, h with
  | [a, b], _ => exact ⟨a, b, rfl⟩
set_option maxRecDepth 100000 in
/-- An argument that is a plan. -/
theorem open_plan {base2 : Nat} {r : Reach} {v : Value} {d : DataW H} {p : List MemPlace} (hv : Value.okWide Tryd.prog W r base 22 v) (h : DataW.Trod enc Tryd.prog W base2 sp held 22 v d p) :
    ∃ (a : Option Addr) (len cap : Nat) (L : Nat → Sw), v = .slice a len cap ∧ (len ≤ cap ∧ cap ≤ maxLen) ∧ SwsAt W.heap.size W a len L := by
  obtain ⟨a, len, cap, rfl⟩ := okWide_slice Tryd.underlying22 hv
  obtain ⟨fuel, hf⟩ := h
  exact open_sws (show DataW.trod enc Tryd.prog W base2 sp held fuel 22 [.slice a len cap] = some _ by simpa [Value.cells] using hf)
set_option maxRecDepth 100000 in
/-- An argument that is a table. -/
theorem open_tab {base2 : Nat} {r : Reach} {v : Value} {d : DataW H} {p : List MemPlace} (hv : Value.okWide Tryd.prog W r base 45 v) (h : DataW.Trod enc Tryd.prog W base2 sp held 45 v d p) :
    ∃ (pa : Option Addr) (pl pc : Nat) (ra : Option Addr) (rl rc : Nat) (P : Nat → Pl) (R : Nat → Ru), v = tabV pa pl pc ra rl rc ∧ (pl ≤ pc ∧ pc ≤ maxLen) ∧ (rl ≤ rc ∧ rc ≤ maxLen) ∧ PlsAt W.heap.size W pa pl P ∧ RusAt W.heap.size W ra rl R := by
  obtain ⟨cs, rfl, hsz⟩ := okWide_struct Tryd.underlying45 hv
  obtain ⟨a, b, rfl⟩ := cells2 (hsz.trans (show Tryd.prog.cellsOf 45 = 2 by kernel_rfl))
  obtain ⟨fuel, hf⟩ := h
  have k1 : Tryd.prog.cellsOf 40 = 1 := by kernel_rfl
  have ks : Tryd.prog.cellsOf 43 = 1 := by kernel_rfl
  obtain ⟨y0, y1, n, _, h0, h1⟩ := trod_struct2' Tryd.underlying45 (show DataW.trod enc Tryd.prog W base2 sp held fuel 45 [a, b] = some _ by simpa [Value.cells] using hf)
  simp only [k1, List.drop, List.take] at h0
  simp only [ks, List.drop, List.take] at h1
  obtain ⟨pa, pl, pc, P, rfl, e1, hP⟩ := open_pls h0
  obtain ⟨ra, rl, rc, R, rfl, e2, hR⟩ := open_rus h1
  exact ⟨pa, pl, pc, ra, rl, rc, P, R, rfl, e1, e2, hP, hR⟩
end
end Go.Proofs.YtmbimnphdhmapaaDoor
