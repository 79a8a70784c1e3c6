/- Calls and crashes as arguments. -/
import Derived.Test.YteopbeafhhfdoaaLOps
import Derived.OpenShut
import Derived.ChangeArms
import Derived.WideShapes
import Derived.ShutString
import Derived.ChangeOld
import Derived.Stop.Joined
import Derived.Deep.Strs
import Derived.Lib.SmallJoins
import Derived.Deep.Slices
import Derived.Deep.MidRow
import Derived.Deep.SlicePairs
set_option linter.unusedVariables false
namespace Go.Proofs.Yteopbeafhhfdoaa
open Go.ChangeShapes Go.WideShapes Go.RowKit Go.Deep
theorem i64_of {n : Int} (h : (Lit.int .i64 n).wf = true) : i64 n := by
  simp [Lit.wf, IntKind.min, IntKind.max, IntKind.bits, IntKind.signed] at h; exact h
theorem u8_of {n : Int} (h : (Lit.int .u8 n).wf = true) : 0 ≤ n ∧ n < 256 := bounds_u8 h
section
variable {H : Type} {enc : TypeId × Value → H} {W : World} {base : Nat} {held : Bool} {fuel : Nat}
theorem op_int {c : Value} {x : DataW H × List MemPlace} (h : DataW.trod enc Try.prog W base (fun _ => true) held fuel 3 [c] = some x) : ∃ n : Int, c = .int .i64 n ∧ i64 n := by
  obtain ⟨n, e, _, hw⟩ := DataW.trod_int Try.underlying3 h
  exact ⟨n, by simpa using e, i64_of hw⟩
theorem op_byte {c : Value} {x : DataW H × List MemPlace} (h : DataW.trod enc Try.prog W base (fun _ => true) held fuel 5 [c] = some x) : ∃ n : Int, c = .int .u8 n ∧ 0 ≤ n ∧ n < 256 := by
  obtain ⟨n, e, _, hw⟩ := DataW.trod_int Try.underlying5 h
  exact ⟨n, by simpa using e, u8_of hw⟩
theorem op_bytes {c : Value} {x : DataW H × List MemPlace} (h : DataW.trod enc Try.prog W base (fun _ => true) held fuel 32 [c] = some x) : ∃ (a : Option Addr) (cap : Nat) (K : List Int), c = .slice a K.length cap ∧ Bys8 W.heap.size W (.slice a K.length cap) K := by
  rcases open_ints Try.underlying32 Try.underlying5 (by kernel_rfl) h with ⟨hcs, _⟩ | ⟨y, l', c', zs, hcs, _, hl', hm', hzl, hx', hcell, hwz⟩
  · exact ⟨none, 0, [], by simpa using hcs, bys8_nil _ _ _ _⟩
  · have hzl' : zs.length = c' := by simpa using hzl
    obtain ⟨xs, hxl, hB⟩ := bys8_of_row (show IsRow .u8 W (some y) l' c' zs from .inr ⟨y, rfl, hl', hm', hzl', hcell, hwz⟩)
    subst hxl
    exact ⟨some y, c', xs, by simpa using hcs, hB⟩
theorem op_struct3 {t : TypeId} {f0 f1 f2 : Field} {cs : List Value} {x : DataW H × List MemPlace} (ht : Try.prog.underlying t = some (.struct #[f0, f1, f2])) (h : DataW.trod enc Try.prog W base (fun _ => true) held fuel t cs = some x) :
    ∃ y0 y1 y2 n, DataW.trod enc Try.prog W base (fun _ => true) held n f0.type ((cs.drop f0.offset).take (Try.prog.cellsOf f0.type)) = some y0 ∧
      DataW.trod enc Try.prog W base (fun _ => true) held n f1.type ((cs.drop f1.offset).take (Try.prog.cellsOf f1.type)) = some y1 ∧
      DataW.trod enc Try.prog W base (fun _ => true) held n f2.type ((cs.drop f2.offset).take (Try.prog.cellsOf f2.type)) = some y2 := by
  obtain ⟨xs, n, _, rfl, hl, hlen, hf⟩ := DataW.trod_struct ht h
  match xs, hlen with
  | [y0, y1, y2], _ => exact ⟨y0, y1, y2, n, by simpa using hf 0 f0 rfl, by simpa using hf 1 f1 rfl, by simpa using hf 2 f2 rfl⟩
theorem op_struct5 {t : TypeId} {f0 f1 f2 f3 f4 : Field} {cs : List Value} {x : DataW H × List MemPlace} (ht : Try.prog.underlying t = some (.struct #[f0, f1, f2, f3, f4])) (h : DataW.trod enc Try.prog W base (fun _ => true) held fuel t cs = some x) :
    ∃ y0 y1 y2 y3 y4 n, DataW.trod enc Try.prog W base (fun _ => true) held n f0.type ((cs.drop f0.offset).take (Try.prog.cellsOf f0.type)) = some y0 ∧
      DataW.trod enc Try.prog W base (fun _ => true) held n f1.type ((cs.drop f1.offset).take (Try.prog.cellsOf f1.type)) = some y1 ∧
      DataW.trod enc Try.prog W base (fun _ => true) held n f2.type ((cs.drop f2.offset).take (Try.prog.cellsOf f2.type)) = some y2 ∧
      DataW.trod enc Try.prog W base (fun _ => true) held n f3.type ((cs.drop f3.offset).take (Try.prog.cellsOf f3.type)) = some y3 ∧
      DataW.trod enc Try.prog W base (fun _ => true) held n f4.type ((cs.drop f4.offset).take (Try.prog.cellsOf f4.type)) = some y4 := by
  obtain ⟨xs, n, _, rfl, hl, hlen, hf⟩ := DataW.trod_struct ht h
  match xs, hlen with
  | [y0, y1, y2, y3, y4], _ => exact ⟨y0, y1, y2, y3, y4, n, by simpa using hf 0 f0 rfl, by simpa using hf 1 f1 rfl, by simpa using hf 2 f2 rfl, by simpa using hf 3 f3 rfl, by simpa using hf 4 f4 rfl⟩
set_option maxRecDepth 100000 in
theorem crash_cells {a b c : Value} {x : DataW H × List MemPlace} (h : DataW.trod enc Try.prog W base (fun _ => true) held fuel 34 [a, b, c] = some x) :
    ∃ (ka : Option Addr) (kc : Nat) (K : List Int) (t y : Int), a = .slice ka K.length kc ∧ b = .int .i64 t ∧ c = .int .i64 y ∧ Bys8 W.heap.size W (.slice ka K.length kc) K := by
  have k1 : Try.prog.cellsOf 3 = 1 := by kernel_rfl
  have ks : Try.prog.cellsOf 32 = 1 := by kernel_rfl
  obtain ⟨y0, y1, y2, n, h0, h1, h2⟩ := op_struct3 Try.underlying34 h
  simp only [ks, List.drop, List.take] at h0
  simp only [k1, List.drop, List.take] at h1 h2
  obtain ⟨ka, kc, K, rfl, hK⟩ := op_bytes h0
  obtain ⟨t, rfl, _⟩ := op_int h1
  obtain ⟨y, rfl, _⟩ := op_int h2
  exact ⟨ka, kc, K, t, y, rfl, rfl, rfl, hK⟩
set_option maxRecDepth 100000 in
theorem op_cells {cs : List Value} {x : DataW H × List MemPlace} (hl : cs.length = 7) (h : DataW.trod enc Try.prog W base (fun _ => true) held fuel 36 cs = some x) :
    ∃ r : Opn, cs = (opC r).toList ∧ Bys8 W.heap.size W (.slice r.ka r.K.length r.kc) r.K ∧ OpnIs r := by
  have k1 : Try.prog.cellsOf 3 = 1 := by kernel_rfl
  have k2 : Try.prog.cellsOf 5 = 1 := by kernel_rfl
  have k3 : Try.prog.cellsOf 34 = 3 := by kernel_rfl
  match cs, hl with
  | [c0, c1, c2, c3, c4, c5, c6], _ =>
    obtain ⟨y0, y1, y2, y3, y4, n, h0, h1, h2, h3, h4⟩ := op_struct5 Try.underlying36 h
    simp only [k1, List.drop, List.take] at h0 h1 h3
    simp only [k2, List.drop, List.take] at h2
    simp only [k3, List.drop, List.take] at h4
    obtain ⟨kind, rfl, _⟩ := op_int h0
    obtain ⟨nn, rfl, wn⟩ := op_int h1
    obtain ⟨b, rfl, wb⟩ := op_byte h2
    obtain ⟨len, rfl, wl⟩ := op_int h3
    obtain ⟨ka, kc, K, t, y, rfl, rfl, rfl, hK⟩ := crash_cells h4
    exact ⟨⟨kind, nn, b, len, ka, kc, K, t, y⟩, rfl, hK, ⟨wn, wb, wl⟩⟩
theorem open_opl {c : Value} {x : DataW H × List MemPlace} (h : DataW.trod enc Try.prog W base (fun _ => true) held fuel 22 [c] = some x) :
    ∃ (a : Option Addr) (len cap : Nat) (L : Nat → Opn), c = .slice a len cap ∧ (len ≤ cap ∧ cap ≤ maxLen) ∧ OpsAt W.heap.size W a len L := by
  rcases Go.Deep.open_slice Try.underlying22 h with ⟨hc, _⟩ | ⟨a, len, cap, m, n, D, Pl, hc, _, hl, hm, hmm, _, hx⟩
  · obtain rfl : c = .slice none 0 0 := by simpa using hc
    exact ⟨none, 0, 0, fun _ => ⟨0, 0, 0, 0, none, 0, [], 0, 0⟩, rfl, ⟨Nat.le_refl _, Nat.zero_le _⟩, fun i hi => absurd hi (Nat.not_lt_zero _)⟩
  · obtain rfl : c = .slice (some a) len cap := by simpa using hc
    have hk : Try.prog.cellsOf 36 = 7 := by kernel_rfl
    rw [hk] at hx
    have hlm : len ≤ m := by rw [hmm]; split <;> omega
    have each : ∀ i : Nat, ∃ r : Opn, i < len → ∃ b o, (some a : Option Addr) = some ⟨b, o, none⟩ ∧ b < W.heap.size ∧ (W.cell? ⟨b, o + i * 7, none⟩ = some (.int .i64 r.kind) ∧ W.cell? ⟨b, o + i * 7 + 1, none⟩ = some (.int .i64 r.n) ∧ W.cell? ⟨b, o + i * 7 + 2, none⟩ = some (.int .u8 r.b) ∧ W.cell? ⟨b, o + i * 7 + 3, none⟩ = some (.int .i64 r.len) ∧
        W.cell? ⟨b, o + i * 7 + 4, none⟩ = some (.slice r.ka r.K.length r.kc) ∧ W.cell? ⟨b, o + i * 7 + 5, none⟩ = some (.int .i64 r.torn) ∧ W.cell? ⟨b, o + i * 7 + 6, none⟩ = some (.int .i64 r.at_)) ∧ Bys8 W.heap.size W (.slice r.ka r.K.length r.kc) r.K ∧ OpnIs r := by
      intro i
      by_cases hi : i < len
      · obtain ⟨cs, h1, h2⟩ := hx i (by omega)
        obtain ⟨_, hlen, hcell⟩ := World.cells?_some h1
        obtain ⟨r, rfl, hK, hO⟩ := op_cells hlen h2
        obtain ⟨b, o, spot⟩ := a
        obtain ⟨cs0, g1, g2⟩ := hx 0 (by omega)
        obtain ⟨_, hlen0, hcell0⟩ := World.cells?_some g1
        obtain ⟨r0, rfl, _⟩ := op_cells hlen0 g2
        have c0 := hcell0 0 (by omega)
        have hspot : spot = none := by
          have := World.cell?_spot c0
          simpa [Addr.add] using this
        subst hspot
        simp only [Addr.add_mid] at hcell
        exact ⟨r, fun _ => ⟨b, o, rfl, World.block_lt_of_cell? W _ (hcell 0 (by omega)), ⟨hcell 0 (by omega), hcell 1 (by omega), hcell 2 (by omega), hcell 3 (by omega), hcell 4 (by omega), hcell 5 (by omega), hcell 6 (by omega)⟩, hK, hO⟩⟩
      · exact ⟨⟨0, 0, 0, 0, none, 0, [], 0, 0⟩, fun h => absurd h hi⟩
    obtain ⟨R, hR⟩ := Classical.axiomOfChoice each
    exact ⟨some a, len, cap, R, rfl, ⟨hl, hm⟩, hR⟩
/-- An argument that is a list of calls. -/
theorem open_ops {base2 : Nat} {r : Reach} {v : Value} {d : DataW H} {p : List MemPlace} (hv : Value.okWide Try.prog W r base 22 v) (h : DataW.Trod enc Try.prog W base2 (fun _ => true) held 22 v d p) :
    ∃ (a : Option Addr) (len cap : Nat) (L : Nat → Opn), v = .slice a len cap ∧ (len ≤ cap ∧ cap ≤ maxLen) ∧ OpsAt W.heap.size W a len L := by
  obtain ⟨a, len, cap, rfl⟩ := okWide_slice Try.underlying22 hv
  obtain ⟨fuel, hf⟩ := h
  exact open_opl (show DataW.trod enc Try.prog W base2 (fun _ => true) held fuel 22 [.slice a len cap] = some _ by simpa [Value.cells] using hf)
theorem cells3o {cs : Array Value} (h : cs.size = 3) : ∃ a b c, cs = #[a, b, c] := by
  obtain ⟨l⟩ := cs
  match l, h with
  | [a, b, c], _ => exact ⟨a, b, c, rfl⟩
/-- An argument that is a crash. -/
theorem open_crash {base2 : Nat} {r : Reach} {v : Value} {d : DataW H} {p : List MemPlace} (hv : Value.okWide Try.prog W r base 34 v) (h : DataW.Trod enc Try.prog W base2 (fun _ => true) held 34 v d p) :
    ∃ (ka : Option Addr) (kc : Nat) (K : List Int) (t y : Int), v = crashV ka K.length kc t y ∧ Bys8 W.heap.size W (.slice ka K.length kc) K := by
  obtain ⟨cs, rfl, hsz⟩ := okWide_struct Try.underlying34 hv
  obtain ⟨c0, c1, c2, rfl⟩ := cells3o (hsz.trans (show Try.prog.cellsOf 34 = 3 by kernel_rfl))
  obtain ⟨fuel, hf⟩ := h
  obtain ⟨ka, kc, K, t, y, rfl, rfl, rfl, hK⟩ := crash_cells (show DataW.trod enc Try.prog W base2 (fun _ => true) held fuel 34 [c0, c1, c2] = some _ by simpa [Value.cells] using hf)
  exact ⟨ka, kc, K, t, y, rfl, hK⟩
end
end Go.Proofs.Yteopbeafhhfdoaa
