/- Calls of a purse, in memory and as an argument. -/
import Derived.Test.YtbffmobjiiicoaaDoorFRow
import Derived.OpenShut
import Derived.ChangeArms
import Derived.WideShapes
import Derived.ShutString
import Derived.ChangeOld
import Derived.Stop.Joined
import Derived.Deep.Strs
import Derived.Lib.SmallJoins
import Derived.Deep.Slices
import Derived.Deep.MidRow
import Derived.Deep.SlicePairs
namespace Go.Proofs.YtbffmobjiiicoaaDoor
open Go.ChangeShapes Go.WideShapes Go.RowKit
set_option linter.unusedVariables false
structure Opn where
  k : Int
  m : Int
  b : Int
  n : Int
  p : Int
abbrev opC (x : Opn) : Array Value := #[.int .i64 x.k, .int .i64 x.m, .int .i64 x.b, .int .i64 x.n, .int .i64 x.p]
def Five (W : World) (g o : Nat) (x : Opn) : Prop := W.cell? ⟨g, o, none⟩ = some (.int .i64 x.k) ∧ W.cell? ⟨g, o + 1, none⟩ = some (.int .i64 x.m) ∧ W.cell? ⟨g, o + 2, none⟩ = some (.int .i64 x.b) ∧ W.cell? ⟨g, o + 3, none⟩ = some (.int .i64 x.n) ∧ W.cell? ⟨g, o + 4, none⟩ = some (.int .i64 x.p)
def OpAt (W : World) (g : Nat) (x : Opn) : Prop := W.heap[g]? = some (.cells (opC x) 70 (0, 0))
theorem OpAt.lt {W : World} {g : Nat} {x : Opn} (h : OpAt W g x) : g < W.heap.size := (Array.getElem?_eq_some_iff.1 h).1
theorem OpAt.five {W : World} {g : Nat} {x : Opn} (h : OpAt W g x) : W.cell? ⟨g, 0, none⟩ = some (.int .i64 x.k) ∧ W.cell? ⟨g, 1, none⟩ = some (.int .i64 x.m) ∧ W.cell? ⟨g, 2, none⟩ = some (.int .i64 x.b) ∧ W.cell? ⟨g, 3, none⟩ = some (.int .i64 x.n) ∧ W.cell? ⟨g, 4, none⟩ = some (.int .i64 x.p) :=
  ⟨cell_of_row W g 0 _ _ _ h, cell_of_row W g 1 _ _ _ h, cell_of_row W g 2 _ _ _ h, cell_of_row W g 3 _ _ _ h, cell_of_row W g 4 _ _ _ h⟩
theorem OpAt.far {W X : World} {g b : Nat} {x : Opn} (h : OpAt W g x) (hg : W.grownBy X (some b)) (hne : g ≠ b) : OpAt X g x := (hg.block g h.lt (fun e => hne (by injection e))).trans h
theorem OpAt.next {W X : World} {g : Nat} {x : Opn} (h : OpAt W g x) (hB : Below W.heap.size W X) : OpAt X g x := (hB.block g h.lt).trans h
theorem OpAt.new (W : World) (x : Opn) : OpAt (W.alloc (.cells (opC x) 70)) W.heap.size x := heap_alloc_new W _
/-- The calls lie from a on, in a block below B. -/
def OpsAt (B : Nat) (W : World) (a : Option Addr) (len : Nat) (L : Nat → Opn) : Prop :=
  ∀ i, i < len → ∃ b o, a = some ⟨b, o, none⟩ ∧ b < B ∧ Five W b (o + i * 5) (L i)
theorem OpsAt.next {B n : Nat} {W X : World} {a : Option Addr} {len : Nat} {L : Nat → Opn} (h : OpsAt B W a len L) (hB : Below n W X) (hn : B ≤ n) : OpsAt B X a len L := by
  intro i hi
  obtain ⟨b, o, e, hb, h0, h1, h2, h3, h4⟩ := h i hi
  have hx : ∀ k, X.cell? ⟨b, k, none⟩ = W.cell? ⟨b, k, none⟩ := fun k => hB.cell (p := ⟨b, k, none⟩) (by show b < n; omega)
  exact ⟨b, o, e, hb, (hx _).trans h0, (hx _).trans h1, (hx _).trans h2, (hx _).trans h3, (hx _).trans h4⟩
section
variable {H : Type} {enc : TypeId × Value → H} {W : World} {base : Nat} {sp : Nat → Bool} {held : Bool} {fuel : Nat}
theorem oint_cell {c : Value} {x : DataW H × List MemPlace} (h : DataW.trod enc Tryd.prog W base sp held fuel 3 [c] = some x) : ∃ n : Int, c = .int .i64 n := by
  obtain ⟨n, e, _, hw⟩ := DataW.trod_int Tryd.underlying3 h
  exact ⟨n, by simpa using e⟩
theorem oi64_cell {c : Value} {x : DataW H × List MemPlace} (h : DataW.trod enc Tryd.prog W base sp held fuel 2 [c] = some x) : ∃ n : Int, c = .int .i64 n := by
  obtain ⟨n, e, _, hw⟩ := DataW.trod_int Tryd.underlying2 h
  exact ⟨n, by simpa using e⟩
theorem otrod_struct5 {t : TypeId} {f0 f1 f2 f3 f4 : Field} {cs : List Value} {x : DataW H × List MemPlace} (ht : Tryd.prog.underlying t = some (.struct #[f0, f1, f2, f3, f4])) (h : DataW.trod enc Tryd.prog W base sp held fuel t cs = some x) :
    ∃ y0 y1 y2 y3 y4 n, cs.length = Tryd.prog.cellsOf t ∧ DataW.trod enc Tryd.prog W base sp held n f0.type ((cs.drop f0.offset).take (Tryd.prog.cellsOf f0.type)) = some y0 ∧
      DataW.trod enc Tryd.prog W base sp held n f1.type ((cs.drop f1.offset).take (Tryd.prog.cellsOf f1.type)) = some y1 ∧ DataW.trod enc Tryd.prog W base sp held n f2.type ((cs.drop f2.offset).take (Tryd.prog.cellsOf f2.type)) = some y2 ∧
      DataW.trod enc Tryd.prog W base sp held n f3.type ((cs.drop f3.offset).take (Tryd.prog.cellsOf f3.type)) = some y3 ∧ DataW.trod enc Tryd.prog W base sp held n f4.type ((cs.drop f4.offset).take (Tryd.prog.cellsOf f4.type)) = some y4 := by
  obtain ⟨xs, n, _, rfl, hl, hlen, hf⟩ := DataW.trod_struct ht h
  match xs, hlen with
  | [y0, y1, y2, y3, y4], _ => exact ⟨y0, y1, y2, y3, y4, n, hl, by simpa using hf 0 f0 rfl, by simpa using hf 1 f1 rfl, by simpa using hf 2 f2 rfl, by simpa using hf 3 f3 rfl, by simpa using hf 4 f4 rfl⟩
set_option maxRecDepth 100000 in
theorem op_cells {cs : List Value} {x : DataW H × List MemPlace} (hl : cs.length = 5) (h : DataW.trod enc Tryd.prog W base sp held fuel 70 cs = some x) :
    ∃ r : Opn, cs = [.int .i64 r.k, .int .i64 r.m, .int .i64 r.b, .int .i64 r.n, .int .i64 r.p] := by
  have k1 : Tryd.prog.cellsOf 3 = 1 := by kernel_rfl
  have k2 : Tryd.prog.cellsOf 2 = 1 := by kernel_rfl
  match cs, hl with
  | [a, b, c, d, e], _ =>
    obtain ⟨y0, y1, y2, y3, y4, n, _, h0, h1, h2, h3, h4⟩ := otrod_struct5 Tryd.underlying70 h
    simp only [k1, List.drop, List.take] at h0 h1 h2
    simp only [k2, List.drop, List.take] at h3 h4
    obtain ⟨v0, rfl⟩ := oint_cell h0
    obtain ⟨v1, rfl⟩ := oint_cell h1
    obtain ⟨v2, rfl⟩ := oint_cell h2
    obtain ⟨v3, rfl⟩ := oi64_cell h3
    obtain ⟨v4, rfl⟩ := oi64_cell h4
    exact ⟨⟨v0, v1, v2, v3, v4⟩, rfl⟩
theorem open_opl {c : Value} {x : DataW H × List MemPlace} (h : DataW.trod enc Tryd.prog W base sp held fuel 68 [c] = some x) :
    ∃ (a : Option Addr) (len cap : Nat) (L : Nat → Opn), c = .slice a len cap ∧ (len ≤ cap ∧ cap ≤ maxLen) ∧ OpsAt W.heap.size W a len L := by
  rcases Go.Deep.open_slice Tryd.underlying68 h with ⟨hc, _⟩ | ⟨a, len, cap, m, n, D, Pl, hc, _, hl, hm, hmm, _, hx⟩
  · obtain rfl : c = .slice none 0 0 := by simpa using hc
    exact ⟨none, 0, 0, fun _ => ⟨0, 0, 0, 0, 0⟩, rfl, ⟨Nat.le_refl _, Nat.zero_le _⟩, fun i hi => absurd hi (Nat.not_lt_zero _)⟩
  · obtain rfl : c = .slice (some a) len cap := by simpa using hc
    have hk : Tryd.prog.cellsOf 70 = 5 := by kernel_rfl
    rw [hk] at hx
    have hlm : len ≤ m := by rw [hmm]; split <;> omega
    have each : ∀ i : Nat, ∃ r : Opn, i < len → ∃ b o, (some a : Option Addr) = some ⟨b, o, none⟩ ∧ b < W.heap.size ∧ Five W b (o + i * 5) r := by
      intro i
      by_cases hi : i < len
      · obtain ⟨cs, h1, h2⟩ := hx i (by omega)
        obtain ⟨_, hlen, hcell⟩ := World.cells?_some h1
        obtain ⟨r, rfl⟩ := op_cells hlen h2
        obtain ⟨b, o, spot⟩ := a
        obtain ⟨cs0, g1, g2⟩ := hx 0 (by omega)
        obtain ⟨_, hlen0, hcell0⟩ := World.cells?_some g1
        obtain ⟨r0, rfl⟩ := op_cells hlen0 g2
        have c0 := hcell0 0 (by omega)
        have hspot : spot = none := by
          have := World.cell?_spot c0
          simpa [Addr.add] using this
        subst hspot
        simp only [Addr.add_mid] at hcell
        refine ⟨r, fun _ => ⟨b, o, rfl, World.block_lt_of_cell? W _ (hcell 0 (by omega)), hcell 0 (by omega), hcell 1 (by omega), hcell 2 (by omega), hcell 3 (by omega), hcell 4 (by omega)⟩⟩
      · exact ⟨⟨0, 0, 0, 0, 0⟩, fun h => absurd h hi⟩
    obtain ⟨R, hR⟩ := Classical.axiomOfChoice each
    exact ⟨some a, len, cap, R, rfl, ⟨hl, hm⟩, hR⟩
set_option maxRecDepth 100000 in
/-- An argument that is a list of calls. -/
theorem open_ops {base2 : Nat} {r : Reach} {v : Value} {d : DataW H} {p : List MemPlace} (hv : Value.okWide Tryd.prog W r base 68 v) (h : DataW.Trod enc Tryd.prog W base2 sp held 68 v d p) :
    ∃ (a : Option Addr) (len cap : Nat) (L : Nat → Opn), v = .slice a len cap ∧ (len ≤ cap ∧ cap ≤ maxLen) ∧ OpsAt W.heap.size W a len L := by
  obtain ⟨a, len, cap, rfl⟩ := okWide_slice Tryd.underlying68 hv
  obtain ⟨fuel, hf⟩ := h
  exact open_opl (show DataW.trod enc Tryd.prog W base2 sp held fuel 68 [.slice a len cap] = some _ by simpa [Value.cells] using hf)
end
end Go.Proofs.YtbffmobjiiicoaaDoor
