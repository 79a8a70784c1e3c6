/- Zones that came in. -/
import Derived.Test.YtobnlcmamnoefaaDoorZRule
import Derived.Deep.Slices
import Derived.Deep.MidRow
import Derived.Deep.SlicePairs
namespace Go.Proofs.YtobnlcmamnoefaaDoor
open Go.ChangeShapes Go.WideShapes Go.RowKit
set_option linter.unusedVariables false
section
variable {H : Type} {enc : TypeId × Value → H} {W : World} {base : Nat} {sp : Nat → Bool} {held : Bool} {fuel : Nat}
theorem trod_struct5 {t : TypeId} {f0 f1 f2 f3 f4 : Field} {cs : List Value} {x : DataW H × List MemPlace} (ht : Tryd.prog.underlying t = some (.struct #[f0, f1, f2, f3, f4])) (h : DataW.trod enc Tryd.prog W base sp held fuel t cs = some x) :
    ∃ y0 y1 y2 y3 y4 n, cs.length = Tryd.prog.cellsOf t ∧ DataW.trod enc Tryd.prog W base sp held n f0.type ((cs.drop f0.offset).take (Tryd.prog.cellsOf f0.type)) = some y0 ∧
      DataW.trod enc Tryd.prog W base sp held n f1.type ((cs.drop f1.offset).take (Tryd.prog.cellsOf f1.type)) = some y1 ∧ DataW.trod enc Tryd.prog W base sp held n f2.type ((cs.drop f2.offset).take (Tryd.prog.cellsOf f2.type)) = some y2 ∧
      DataW.trod enc Tryd.prog W base sp held n f3.type ((cs.drop f3.offset).take (Tryd.prog.cellsOf f3.type)) = some y3 ∧ DataW.trod enc Tryd.prog W base sp held n f4.type ((cs.drop f4.offset).take (Tryd.prog.cellsOf f4.type)) = some y4 := by
  obtain ⟨xs, n, _, rfl, hl, hlen, hf⟩ := DataW.trod_struct ht h
  match xs, hlen with
  | [y0, y1, y2, y3, y4], _ => exact ⟨y0, y1, y2, y3, y4, n, hl, by simpa using hf 0 f0 rfl, by simpa using hf 1 f1 rfl, by simpa using hf 2 f2 rfl, by simpa using hf 3 f3 rfl, by simpa using hf 4 f4 rfl⟩
set_option maxRecDepth 100000 in
theorem change_cells {a b c d : Value} {x : DataW H × List MemPlace} (h : DataW.trod enc Tryd.prog W base sp held fuel 29 [a, b, c, d] = some x) : ∃ m w n t : Int, a = .int .i64 m ∧ b = .int .i64 w ∧ c = .int .i64 n ∧ d = .int .i64 t := by
  have k1 : Tryd.prog.cellsOf 3 = 1 := by kernel_rfl
  obtain ⟨y0, y1, y2, y3, n, _, _, h0, h1, h2, h3⟩ := Go.Joins.trod_struct4 Tryd.underlying29 h
  simp only [k1, List.drop, List.take] at h0 h1 h2 h3
  obtain ⟨m, rfl, _⟩ := int_cell h0
  obtain ⟨w, rfl, _⟩ := int_cell h1
  obtain ⟨n, rfl, _⟩ := int_cell h2
  obtain ⟨t, rfl, _⟩ := int_cell h3
  exact ⟨m, w, n, t, rfl, rfl, rfl, rfl⟩
set_option maxRecDepth 100000 in
theorem rule_cells {cs : List Value} {x : DataW H × List MemPlace} (hl : cs.length = 11) (h : DataW.trod enc Tryd.prog W base sp held fuel 31 cs = some x) :
    ∃ r : Rl, cs = [.int .i64 r.f, .int .i64 r.l, .int .i64 r.m1, .int .i64 r.w1, .int .i64 r.n1, .int .i64 r.t1, .int .i64 r.m2, .int .i64 r.w2, .int .i64 r.n2, .int .i64 r.t2, .int .i64 r.x] := by
  have k1 : Tryd.prog.cellsOf 3 = 1 := by kernel_rfl
  have k4 : Tryd.prog.cellsOf 29 = 4 := by kernel_rfl
  match cs, hl with
  | [a, b, c, d, e, f, g, i, j, k, l], _ =>
    obtain ⟨y0, y1, y2, y3, y4, n, _, h0, h1, h2, h3, h4⟩ := trod_struct5 Tryd.underlying31 h
    simp only [k4, List.drop, List.take] at h2 h3
    simp only [k1, List.drop, List.take] at h0 h1 h4
    obtain ⟨f', rfl, _⟩ := int_cell h0
    obtain ⟨l', rfl, _⟩ := int_cell h1
    obtain ⟨m1, w1, n1, t1, rfl, rfl, rfl, rfl⟩ := change_cells h2
    obtain ⟨m2, w2, n2, t2, rfl, rfl, rfl, rfl⟩ := change_cells h3
    obtain ⟨x', rfl, _⟩ := int_cell h4
    exact ⟨⟨f', l', m1, w1, n1, t1, m2, w2, n2, t2, x'⟩, rfl⟩
theorem open_rules {c : Value} {x : DataW H × List MemPlace} (h : DataW.trod enc Tryd.prog W base sp held fuel 22 [c] = some x) :
    ∃ (a : Option Addr) (len cap : Nat) (R : Nat → Rl), c = .slice a len cap ∧ len ≤ cap ∧ cap ≤ maxLen ∧ RulesAt W.heap.size W a len R := by
  rcases Go.Deep.open_slice Tryd.underlying22 h with ⟨hc, _⟩ | ⟨a, len, cap, m, n, D, Pl, hc, _, hl, hm, hmm, _, hx⟩
  · obtain rfl : c = .slice none 0 0 := by simpa using hc
    exact ⟨none, 0, 0, fun _ => ⟨0, 0, 0, 0, 0, 0, 0, 0, 0, 0, 0⟩, rfl, Nat.le_refl _, Nat.zero_le _, fun i hi => absurd hi (Nat.not_lt_zero _)⟩
  · obtain rfl : c = .slice (some a) len cap := by simpa using hc
    have hk : Tryd.prog.cellsOf 31 = 11 := by kernel_rfl
    rw [hk] at hx
    have hlm : len ≤ m := by rw [hmm]; split <;> omega
    have each : ∀ i : Nat, ∃ r : Rl, i < len → ∃ b o, (some a : Option Addr) = some ⟨b, o, none⟩ ∧ b < W.heap.size ∧ RlAt W b (o + i * 11) r := by
      intro i
      by_cases hi : i < len
      · obtain ⟨cs, h1, h2⟩ := hx i (by omega)
        obtain ⟨_, hlen, hcell⟩ := World.cells?_some h1
        obtain ⟨r, rfl⟩ := rule_cells hlen h2
        obtain ⟨b, o, spot⟩ := a
        obtain ⟨cs0, g1, g2⟩ := hx 0 (by omega)
        obtain ⟨_, hlen0, hcell0⟩ := World.cells?_some g1
        obtain ⟨r0, rfl⟩ := rule_cells hlen0 g2
        have c0 := hcell0 0 (by omega)
        have hspot : spot = none := by
          have := World.cell?_spot c0
          simpa [Addr.add] using this
        subst hspot
        simp only [Addr.add_mid] at hcell
        refine ⟨r, fun _ => ⟨b, o, rfl, World.block_lt_of_cell? W _ (hcell 0 (by omega)), hcell 0 (by omega), hcell 1 (by omega), hcell 2 (by omega), hcell 3 (by omega), hcell 4 (by omega), hcell 5 (by omega), hcell 6 (by omega), hcell 7 (by omega), hcell 8 (by omega), hcell 9 (by omega), hcell 10 (by omega)⟩⟩
      · exact ⟨⟨0, 0, 0, 0, 0, 0, 0, 0, 0, 0, 0⟩, fun h => absurd h hi⟩
    obtain ⟨R, hR⟩ := Classical.axiomOfChoice each
    exact ⟨some a, len, cap, R, rfl, hl, hm, hR⟩
theorem cells2 {cs : Array Value} (h : cs.size = 2) : ∃ a b, cs = #[a, b] := by
  obtain ⟨l⟩ := cs
  match l, h with
  | [a, b], _ => exact ⟨a, b, rfl⟩
set_option maxRecDepth 100000 in
theorem open_zone {base2 : Nat} {r : Reach} {v : Value} {d : DataW H} {p : List MemPlace} (hv : Value.okWide Tryd.prog W r base 24 v) (h : DataW.Trod enc Tryd.prog W base2 sp held 24 v d p) :
    ∃ (off : Int) (a : Option Addr) (len cap : Nat) (R : Nat → Rl), v = zoneV off a len cap ∧ In64 off ∧ len ≤ cap ∧ cap ≤ maxLen ∧ RulesAt W.heap.size W a len R := by
  obtain ⟨cs, rfl, hsz⟩ := okWide_struct Tryd.underlying24 hv
  obtain ⟨a, b, rfl⟩ := cells2 (hsz.trans (show Tryd.prog.cellsOf 24 = 2 by kernel_rfl))
  obtain ⟨fuel, hf⟩ := h
  have k1 : Tryd.prog.cellsOf 3 = 1 := by kernel_rfl
  have ks : Tryd.prog.cellsOf 22 = 1 := by kernel_rfl
  obtain ⟨y0, y1, n, _, _, h0, h1⟩ := trod_struct2 Tryd.underlying24 (show DataW.trod enc Tryd.prog W base2 sp held fuel 24 [a, b] = some _ by simpa [Value.cells] using hf)
  simp only [k1, List.drop, List.take] at h0
  simp only [ks, List.drop, List.take] at h1
  obtain ⟨off, rfl, ho⟩ := int_cell h0
  obtain ⟨a, len, cap, R, rfl, hl, hm, hR⟩ := open_rules h1
  exact ⟨off, a, len, cap, R, rfl, ho, hl, hm, hR⟩
end
end Go.Proofs.YtobnlcmamnoefaaDoor
