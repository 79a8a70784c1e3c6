/- Pairs of numbers, in memory and as an argument. -/
import Derived.Test.YtbffmobjiiicoaaDoorFOpenO
namespace Go.Proofs.YtbffmobjiiicoaaDoor
open Go.ChangeShapes Go.WideShapes Go.RowKit
set_option linter.unusedVariables false
/-- The pairs lie from a on, in a block below B. -/
def PairsAt (B : Nat) (W : World) (a : Option Addr) (len : Nat) (L : Nat → Int × Int) : Prop :=
  ∀ i, i < len → ∃ b o, a = some ⟨b, o, none⟩ ∧ b < B ∧ W.cell? ⟨b, o + i * 2, none⟩ = some (.int .i64 (L i).1) ∧ W.cell? ⟨b, o + i * 2 + 1, none⟩ = some (.int .i64 (L i).2)
theorem PairsAt.next {B n : Nat} {W X : World} {a : Option Addr} {len : Nat} {L : Nat → Int × Int} (h : PairsAt B W a len L) (hB : Below n W X) (hn : B ≤ n) : PairsAt B X a len L := by
  intro i hi
  obtain ⟨b, o, e, hb, h0, h1⟩ := h i hi
  have hx : ∀ k, X.cell? ⟨b, k, none⟩ = W.cell? ⟨b, k, none⟩ := fun k => hB.cell (p := ⟨b, k, none⟩) (by show b < n; omega)
  exact ⟨b, o, e, hb, (hx _).trans h0, (hx _).trans h1⟩
section
variable {H : Type} {enc : TypeId × Value → H} {W : World} {base : Nat} {sp : Nat → Bool} {held : Bool} {fuel : Nat}
set_option maxRecDepth 100000 in
theorem pair_cells {cs : List Value} {x : DataW H × List MemPlace} (hl : cs.length = 2) (h : DataW.trod enc Tryd.prog W base sp held fuel 25 cs = some x) :
    ∃ r : Int × Int, cs = [.int .i64 r.1, .int .i64 r.2] := by
  have k1 : Tryd.prog.cellsOf 2 = 1 := by kernel_rfl
  match cs, hl with
  | [a, b], _ =>
    obtain ⟨xs, m, _, ex, _, hl, hel⟩ := DataW.trod_array Tryd.underlying25 h
    have h0 := hel 0 (by omega)
    have h1 := hel 1 (by omega)
    rw [k1] at h0 h1
    simp only [List.drop, List.take] at h0 h1
    obtain ⟨y0, h0⟩ : ∃ y, DataW.trod enc Tryd.prog W base sp held m 2 [a] = some y := ⟨_, h0.trans (List.getElem?_eq_getElem (by omega))⟩
    obtain ⟨y1, h1⟩ : ∃ y, DataW.trod enc Tryd.prog W base sp held m 2 [b] = some y := ⟨_, h1.trans (List.getElem?_eq_getElem (by omega))⟩
    obtain ⟨v0, rfl⟩ := oi64_cell h0
    obtain ⟨v1, rfl⟩ := oi64_cell h1
    exact ⟨(v0, v1), rfl⟩
theorem open_pairl {c : Value} {x : DataW H × List MemPlace} (h : DataW.trod enc Tryd.prog W base sp held fuel 26 [c] = some x) :
    ∃ (a : Option Addr) (len cap : Nat) (L : Nat → Int × Int), c = .slice a len cap ∧ (len ≤ cap ∧ cap ≤ maxLen) ∧ PairsAt W.heap.size W a len L := by
  rcases Go.Deep.open_slice Tryd.underlying26 h with ⟨hc, _⟩ | ⟨a, len, cap, m, n, D, Pl, hc, _, hl, hm, hmm, _, hx⟩
  · obtain rfl : c = .slice none 0 0 := by simpa using hc
    exact ⟨none, 0, 0, fun _ => (0, 0), rfl, ⟨Nat.le_refl _, Nat.zero_le _⟩, fun i hi => absurd hi (Nat.not_lt_zero _)⟩
  · obtain rfl : c = .slice (some a) len cap := by simpa using hc
    have hk : Tryd.prog.cellsOf 25 = 2 := by kernel_rfl
    rw [hk] at hx
    have hlm : len ≤ m := by rw [hmm]; split <;> omega
    have each : ∀ i : Nat, ∃ r : Int × Int, i < len → ∃ b o, (some a : Option Addr) = some ⟨b, o, none⟩ ∧ b < W.heap.size ∧ W.cell? ⟨b, o + i * 2, none⟩ = some (.int .i64 r.1) ∧ W.cell? ⟨b, o + i * 2 + 1, none⟩ = some (.int .i64 r.2) := by
      intro i
      by_cases hi : i < len
      · obtain ⟨cs, h1, h2⟩ := hx i (by omega)
        obtain ⟨_, hlen, hcell⟩ := World.cells?_some h1
        obtain ⟨r, rfl⟩ := pair_cells hlen h2
        obtain ⟨b, o, spot⟩ := a
        obtain ⟨cs0, g1, g2⟩ := hx 0 (by omega)
        obtain ⟨_, hlen0, hcell0⟩ := World.cells?_some g1
        obtain ⟨r0, rfl⟩ := pair_cells hlen0 g2
        have c0 := hcell0 0 (by omega)
        have hspot : spot = none := by
          have := World.cell?_spot c0
          simpa [Addr.add] using this
        subst hspot
        simp only [Addr.add_mid] at hcell
        refine ⟨r, fun _ => ⟨b, o, rfl, World.block_lt_of_cell? W _ (hcell 0 (by omega)), hcell 0 (by omega), hcell 1 (by omega)⟩⟩
      · exact ⟨(0, 0), fun h => absurd h hi⟩
    obtain ⟨R, hR⟩ := Classical.axiomOfChoice each
    exact ⟨some a, len, cap, R, rfl, ⟨hl, hm⟩, hR⟩
set_option maxRecDepth 100000 in
/-- An argument that is a list of pairs. -/
theorem open_pairs {base2 : Nat} {r : Reach} {v : Value} {d : DataW H} {p : List MemPlace} (hv : Value.okWide Tryd.prog W r base 26 v) (h : DataW.Trod enc Tryd.prog W base2 sp held 26 v d p) :
    ∃ (a : Option Addr) (len cap : Nat) (L : Nat → Int × Int), v = .slice a len cap ∧ (len ≤ cap ∧ cap ≤ maxLen) ∧ PairsAt W.heap.size W a len L := by
  obtain ⟨a, len, cap, rfl⟩ := okWide_slice Tryd.underlying26 hv
  obtain ⟨fuel, hf⟩ := h
  exact open_pairl (show DataW.trod enc Tryd.prog W base2 sp held fuel 26 [.slice a len cap] = some _ by simpa [Value.cells] using hf)
end
end Go.Proofs.YtbffmobjiiicoaaDoor
