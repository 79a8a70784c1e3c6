/- Tables and versions that came in. -/
import Derived.Test.YthlpigffjbhmoaaDoorVMath
import Derived.OpenShut
import Derived.ChangeArms
import Derived.WideShapes
import Derived.ShutString
import Derived.ChangeOld
import Derived.Stop.Joined
import Derived.Deep.Strs
import Derived.Lib.SmallJoins
import Derived.Deep.Slices
import Derived.Deep.MidRow
import Derived.Deep.SlicePairs
namespace Go.Proofs.YthlpigffjbhmoaaDoor
open Go.ChangeShapes Go.WideShapes Go.RowKit
set_option linter.unusedVariables false
/-- The prices lie from a on, in a block below B. -/
def PrAt (B : Nat) (W : World) (a : Option Addr) (ps : List Int) : Prop :=
  ∀ i p, ps[i]? = some p → ∃ b o, a = some ⟨b, o, none⟩ ∧ b < B ∧ W.cell? ⟨b, o + i, none⟩ = some (.int .i64 p)
/-- The versions lie from a on, in a block below B. -/
def VesAt (B : Nat) (W : World) (a : Option Addr) (l : List Ve) : Prop :=
  ∀ i v, l[i]? = some v → ∃ b o a' c', a = some ⟨b, o, none⟩ ∧ b < B ∧ W.cell? ⟨b, o + i * 2, none⟩ = some (.int .i64 v.f) ∧ W.cell? ⟨b, o + i * 2 + 1, none⟩ = some (.slice a' v.ps.length c') ∧ (v.ps.length ≤ c' ∧ c' ≤ maxLen) ∧ PrAt B W a' v.ps
theorem PrAt.next {B n : Nat} {W X : World} {a : Option Addr} {ps : List Int} (h : PrAt B W a ps) (hB : Below n W X) (hn : B ≤ n) : PrAt B X a ps := by
  intro i p hi
  obtain ⟨b, o, e, hb, h0⟩ := h i p hi
  have hx : ∀ k, X.cell? ⟨b, k, none⟩ = W.cell? ⟨b, k, none⟩ := fun k => hB.cell (p := ⟨b, k, none⟩) (by show b < n; omega)
  exact ⟨b, o, e, hb, (hx _).trans h0⟩
theorem PrAt.mono {B B' : Nat} {W : World} {a : Option Addr} {ps : List Int} (h : PrAt B W a ps) (hB : B ≤ B') : PrAt B' W a ps := fun i p hi => by
  obtain ⟨b, o, e, hb, k⟩ := h i p hi; exact ⟨b, o, e, by omega, k⟩
theorem PrAt.nil {B : Nat} {W : World} {a : Option Addr} : PrAt B W a [] := fun i p hi => by simp at hi
theorem VesAt.next {B n : Nat} {W X : World} {a : Option Addr} {l : List Ve} (h : VesAt B W a l) (hB : Below n W X) (hn : B ≤ n) : VesAt B X a l := by
  intro i v hi
  obtain ⟨b, o, a', c', e, hb, h0, h1, hc, h2⟩ := h i v hi
  have hx : ∀ k, X.cell? ⟨b, k, none⟩ = W.cell? ⟨b, k, none⟩ := fun k => hB.cell (p := ⟨b, k, none⟩) (by show b < n; omega)
  exact ⟨b, o, a', c', e, hb, (hx _).trans h0, (hx _).trans h1, hc, h2.next hB hn⟩
theorem VesAt.mono {B B' : Nat} {W : World} {a : Option Addr} {l : List Ve} (h : VesAt B W a l) (hB : B ≤ B') : VesAt B' W a l := fun i v hi => by
  obtain ⟨b, o, a', c', e, hb, h0, h1, hc, h2⟩ := h i v hi; exact ⟨b, o, a', c', e, by omega, h0, h1, hc, h2.mono hB⟩
theorem VesAt.nil {B : Nat} {W : World} {a : Option Addr} : VesAt B W a [] := fun i v hi => by simp at hi
theorem VesAt.take {B : Nat} {W : World} {a : Option Addr} {l : List Ve} (h : VesAt B W a l) (k : Nat) : VesAt B W a (l.take k) := fun i v hi => h i v (by
  rw [List.getElem?_take] at hi
  split at hi
  · exact hi
  · cases hi)
theorem VesAt.grow {W X : World} {a : Option Addr} {l : List Ve} (h : VesAt W.heap.size W a l) (hB : Below W.heap.size W X) : VesAt X.heap.size X a l := (h.next hB (Nat.le_refl _)).mono hB.size
theorem PrAt.grow {W X : World} {a : Option Addr} {ps : List Int} (h : PrAt W.heap.size W a ps) (hB : Below W.heap.size W X) : PrAt X.heap.size X a ps := (h.next hB (Nat.le_refl _)).mono hB.size
theorem VesAt.from {n : Nat} {w W : World} {a : Option Addr} {l : List Ve} (h : VesAt n w a l) (hB : Below n w W) (hn : n ≤ w.heap.size) : VesAt W.heap.size W a l := (h.next hB (Nat.le_refl _)).mono (Nat.le_trans hn hB.size)
theorem PrAt.from {n : Nat} {w W : World} {a : Option Addr} {ps : List Int} (h : PrAt n w a ps) (hB : Below n w W) (hn : n ≤ w.heap.size) : PrAt W.heap.size W a ps := (h.next hB (Nat.le_refl _)).mono (Nat.le_trans hn hB.size)
abbrev verV (f : Int) (a : Option Addr) (n c : Nat) : Value := .agg #[.int .i64 f, .slice a n c]
section
variable {H : Type} {enc : TypeId × Value → H} {W : World} {base : Nat} {sp : Nat → Bool} {held : Bool} {fuel : Nat}
theorem i64_cell {c : Value} {x : DataW H × List MemPlace} (h : DataW.trod enc Tryd.prog W base sp held fuel 2 [c] = some x) : ∃ n : Int, c = .int .i64 n := by
  obtain ⟨n, e, _, hw⟩ := DataW.trod_int Tryd.underlying2 h
  exact ⟨n, by simpa using e⟩
theorem trod_struct2' {t : TypeId} {f0 f1 : Field} {cs : List Value} {x : DataW H × List MemPlace} (ht : Tryd.prog.underlying t = some (.struct #[f0, f1])) (h : DataW.trod enc Tryd.prog W base sp held fuel t cs = some x) :
    ∃ y0 y1 n, cs.length = Tryd.prog.cellsOf t ∧ DataW.trod enc Tryd.prog W base sp held n f0.type ((cs.drop f0.offset).take (Tryd.prog.cellsOf f0.type)) = some y0 ∧
      DataW.trod enc Tryd.prog W base sp held n f1.type ((cs.drop f1.offset).take (Tryd.prog.cellsOf f1.type)) = some y1 := by
  obtain ⟨xs, n, _, rfl, hl, hlen, hf⟩ := DataW.trod_struct ht h
  match xs, hlen with
  | [y0, y1], _ => exact ⟨y0, y1, n, hl, by simpa using hf 0 f0 rfl, by simpa using hf 1 f1 rfl⟩
theorem list_of (n : Nat) (F : Nat → Int) : ((List.range n).map F).length = n ∧ ∀ i p, ((List.range n).map F)[i]? = some p → i < n ∧ p = F i := by
  refine ⟨by simp, fun i p hi => ?_⟩
  obtain ⟨h, e⟩ := List.getElem?_eq_some_iff.1 hi
  simp at h e
  exact ⟨h, e.symm⟩
theorem open_prs {c : Value} {x : DataW H × List MemPlace} (h : DataW.trod enc Tryd.prog W base sp held fuel 38 [c] = some x) :
    ∃ (a : Option Addr) (cap : Nat) (ps : List Int), c = .slice a ps.length cap ∧ (ps.length ≤ cap ∧ cap ≤ maxLen) ∧ PrAt W.heap.size W a ps := by
  rcases Go.Deep.open_slice Tryd.underlying38 h with ⟨hc, _⟩ | ⟨a, len, cap, m, n, D, Pl, hc, _, hl, hm, hmm, _, hx⟩
  · obtain rfl : c = .slice none 0 0 := by simpa using hc
    exact ⟨none, 0, [], rfl, ⟨Nat.le_refl _, Nat.zero_le _⟩, PrAt.nil⟩
  · obtain rfl : c = .slice (some a) len cap := by simpa using hc
    have hk : Tryd.prog.cellsOf 2 = 1 := by kernel_rfl
    rw [hk] at hx
    have hlm : len ≤ m := by rw [hmm]; split <;> omega
    have each : ∀ i : Nat, ∃ r : Int, i < len → ∃ b o, (some a : Option Addr) = some ⟨b, o, none⟩ ∧ b < W.heap.size ∧ W.cell? ⟨b, o + i, none⟩ = some (.int .i64 r) := by
      intro i
      by_cases hi : i < len
      · obtain ⟨cs, h1, h2⟩ := hx i (by omega)
        obtain ⟨_, hlen, hcell⟩ := World.cells?_some h1
        match cs, hlen with
        | [v], _ =>
          obtain ⟨r, rfl⟩ := i64_cell h2
          obtain ⟨b, o, spot⟩ := a
          obtain ⟨cs0, g1, g2⟩ := hx 0 (by omega)
          obtain ⟨_, hlen0, hcell0⟩ := World.cells?_some g1
          match cs0, hlen0 with
          | [v0], _ =>
            have c0 := hcell0 0 (by omega)
            have hspot : spot = none := by
              have := World.cell?_spot c0
              simpa [Addr.add] using this
            subst hspot
            simp only [Addr.add_mid] at hcell
            have q := hcell 0 (by omega)
            exact ⟨r, fun _ => ⟨b, o, rfl, World.block_lt_of_cell? W _ q, by simpa using q⟩⟩
      · exact ⟨0, fun h => absurd h hi⟩
    obtain ⟨R, hR⟩ := Classical.axiomOfChoice each
    obtain ⟨e1, e2⟩ := list_of len R
    refine ⟨some a, cap, (List.range len).map R, by rw [e1], by rw [e1]; exact ⟨hl, hm⟩, fun i p hp => ?_⟩
    obtain ⟨hi, rfl⟩ := e2 i p hp
    exact hR i hi
structure Vm where
  f : Int
  a : Option Addr
  c : Nat
  ps : List Int
set_option maxRecDepth 100000 in
theorem ver_cells {cs : List Value} {x : DataW H × List MemPlace} (hl : cs.length = 2) (h : DataW.trod enc Tryd.prog W base sp held fuel 42 cs = some x) :
    ∃ r : Vm, cs = [.int .i64 r.f, .slice r.a r.ps.length r.c] ∧ (r.ps.length ≤ r.c ∧ r.c ≤ maxLen) ∧ PrAt W.heap.size W r.a r.ps := by
  have k1 : Tryd.prog.cellsOf 2 = 1 := by kernel_rfl
  have k2 : Tryd.prog.cellsOf 38 = 1 := by kernel_rfl
  match cs, hl with
  | [a, b], _ =>
    obtain ⟨y0, y1, n, _, h0, h1⟩ := trod_struct2' Tryd.underlying42 h
    simp only [k1, k2, List.drop, List.take] at h0 h1
    obtain ⟨v0, rfl⟩ := i64_cell h0
    obtain ⟨a', c', ps, rfl, e, hp⟩ := open_prs h1
    exact ⟨⟨v0, a', c', ps⟩, rfl, e, hp⟩
theorem open_vers {c : Value} {x : DataW H × List MemPlace} (h : DataW.trod enc Tryd.prog W base sp held fuel 22 [c] = some x) :
    ∃ (a : Option Addr) (cap : Nat) (l : List Ve), c = .slice a l.length cap ∧ (l.length ≤ cap ∧ cap ≤ maxLen) ∧ VesAt W.heap.size W a l := by
  rcases Go.Deep.open_slice Tryd.underlying22 h with ⟨hc, _⟩ | ⟨a, len, cap, m, n, D, Q, hc, _, hl, hm, hmm, _, hx⟩
  · obtain rfl : c = .slice none 0 0 := by simpa using hc
    exact ⟨none, 0, [], rfl, ⟨Nat.le_refl _, Nat.zero_le _⟩, VesAt.nil⟩
  · obtain rfl : c = .slice (some a) len cap := by simpa using hc
    have hk : Tryd.prog.cellsOf 42 = 2 := by kernel_rfl
    rw [hk] at hx
    have hlm : len ≤ m := by rw [hmm]; split <;> omega
    have each : ∀ i : Nat, ∃ r : Ve, i < len → ∃ b o a' c', (some a : Option Addr) = some ⟨b, o, none⟩ ∧ b < W.heap.size ∧ W.cell? ⟨b, o + i * 2, none⟩ = some (.int .i64 r.f) ∧ W.cell? ⟨b, o + i * 2 + 1, none⟩ = some (.slice a' r.ps.length c') ∧ (r.ps.length ≤ c' ∧ c' ≤ maxLen) ∧ PrAt W.heap.size W a' r.ps := by
      intro i
      by_cases hi : i < len
      · obtain ⟨cs, h1, h2⟩ := hx i (by omega)
        obtain ⟨_, hlen, hcell⟩ := World.cells?_some h1
        obtain ⟨r, rfl, e, hp⟩ := ver_cells hlen h2
        obtain ⟨b, o, spot⟩ := a
        obtain ⟨cs0, g1, g2⟩ := hx 0 (by omega)
        obtain ⟨_, hlen0, hcell0⟩ := World.cells?_some g1
        obtain ⟨r0, rfl, _⟩ := ver_cells hlen0 g2
        have c0 := hcell0 0 (by omega)
        have hspot : spot = none := by
          have := World.cell?_spot c0
          simpa [Addr.add] using this
        subst hspot
        simp only [Addr.add_mid] at hcell
        exact ⟨⟨r.f, r.ps⟩, fun _ => ⟨b, o, r.a, r.c, rfl, World.block_lt_of_cell? W _ (hcell 0 (by omega)), hcell 0 (by omega), hcell 1 (by omega), e, hp⟩⟩
      · exact ⟨⟨0, []⟩, fun h => absurd h hi⟩
    obtain ⟨R, hR⟩ := Classical.axiomOfChoice each
    refine ⟨some a, cap, (List.range len).map R, by simp, by simp; exact ⟨hl, hm⟩, fun i v hv => ?_⟩
    obtain ⟨h, e⟩ := List.getElem?_eq_some_iff.1 hv
    simp at h e
    subst e
    exact hR i h
theorem cells2 {cs : Array Value} (h : cs.size = 2) : ∃ a b, cs = #[a, b] := by
  obtain ⟨l⟩ := cs
  match l, h with
  | [a, b], _ => exact ⟨a, b, rfl⟩
set_option maxRecDepth 100000 in
/-- An argument that is a table. -/
theorem open_tab {base2 : Nat} {r : Reach} {v : Value} {d : DataW H} {p : List MemPlace} (hv : Value.okWide Tryd.prog W r base 22 v) (h : DataW.Trod enc Tryd.prog W base2 sp held 22 v d p) :
    ∃ (a : Option Addr) (cap : Nat) (l : List Ve), v = .slice a l.length cap ∧ (l.length ≤ cap ∧ cap ≤ maxLen) ∧ VesAt W.heap.size W a l := by
  obtain ⟨a, len, cap, rfl⟩ := okWide_slice Tryd.underlying22 hv
  obtain ⟨fuel, hf⟩ := h
  exact open_vers (show DataW.trod enc Tryd.prog W base2 sp held fuel 22 [.slice a len cap] = some _ by simpa [Value.cells] using hf)
set_option maxRecDepth 100000 in
/-- An argument that is a version. -/
theorem open_ver {base2 : Nat} {r : Reach} {v : Value} {d : DataW H} {p : List MemPlace} (hv : Value.okWide Tryd.prog W r base 42 v) (h : DataW.Trod enc Tryd.prog W base2 sp held 42 v d p) :
    ∃ (f : Int) (a : Option Addr) (cap : Nat) (ps : List Int), v = verV f a ps.length cap ∧ (ps.length ≤ cap ∧ cap ≤ maxLen) ∧ PrAt W.heap.size W a ps := by
  obtain ⟨cs, rfl, hsz⟩ := okWide_struct Tryd.underlying42 hv
  obtain ⟨a, b, rfl⟩ := cells2 (hsz.trans (show Tryd.prog.cellsOf 42 = 2 by kernel_rfl))
  obtain ⟨fuel, hf⟩ := h
  obtain ⟨q, e, e1, hp⟩ := ver_cells rfl (show DataW.trod enc Tryd.prog W base2 sp held fuel 42 [a, b] = some _ by simpa [Value.cells] using hf)
  simp only [List.cons.injEq, and_true] at e
  obtain ⟨rfl, rfl⟩ := e
  exact ⟨q.f, q.a, q.c, q.ps, rfl, e1, hp⟩
end
end Go.Proofs.YthlpigffjbhmoaaDoor
