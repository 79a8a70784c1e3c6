/- Dates and moments that came in. -/
import Derived.Test.YtgedcfgmfhlkdaaDoorKOf
import Derived.OpenShut
import Derived.ChangeArms
import Derived.WideShapes
import Derived.ShutString
import Derived.ChangeOld
import Derived.Stop.Joined
import Derived.Deep.Strs
import Derived.Lib.SmallJoins
namespace Go.Proofs.YtgedcfgmfhlkdaaDoor
open Go.ChangeShapes Go.WideShapes Go.RowKit
def In64 (n : Int) : Prop := -9223372036854775808 ≤ n ∧ n ≤ 9223372036854775807
theorem in64_of {n : Int} (h : (Lit.int .i64 n).wf = true) : In64 n := by
  simp [Lit.wf, IntKind.min, IntKind.max, IntKind.bits, IntKind.signed] at h; exact h
theorem int_cell {H : Type} {enc : TypeId × Value → H} {W : World} {base : Nat} {sp : Nat → Bool} {held : Bool} {fuel : Nat} {c : Value} {x : DataW H × List MemPlace}
    (h : DataW.trod enc Tryd.prog W base sp held fuel 3 [c] = some x) : ∃ n : Int, c = .int .i64 n ∧ In64 n := by
  obtain ⟨n, e, _, hw⟩ := DataW.trod_int Tryd.underlying3 h
  exact ⟨n, by simpa using e, in64_of hw⟩
theorem cells6 {cs : Array Value} (h : cs.size = 6) : ∃ a b c d e f, cs = #[a, b, c, d, e, f] := by
  obtain ⟨l⟩ := cs
  match l, h with
  | [a, b, c, d, e, f], _ => exact ⟨a, b, c, d, e, f, rfl⟩
theorem cells3 {cs : Array Value} (h : cs.size = 3) : ∃ a b c, cs = #[a, b, c] := by
  obtain ⟨l⟩ := cs
  match l, h with
  | [a, b, c], _ => exact ⟨a, b, c, rfl⟩
set_option maxRecDepth 100000 in
theorem date_cells {H : Type} {enc : TypeId × Value → H} {W : World} {base : Nat} {sp : Nat → Bool} {held : Bool} {fuel : Nat} {a b c : Value} {x : DataW H × List MemPlace}
    (h : DataW.trod enc Tryd.prog W base sp held fuel 39 [a, b, c] = some x) : ∃ y m d : Int, a = .int .i64 y ∧ b = .int .i64 m ∧ c = .int .i64 d ∧ In64 y ∧ In64 m ∧ In64 d := by
  have k1 : Tryd.prog.cellsOf 3 = 1 := by kernel_rfl
  obtain ⟨y0, y1, y2, n, _, _, h0, h1, h2⟩ := Go.Deep.trod_struct3 Tryd.underlying39 h
  simp only [k1, List.drop, List.take] at h0 h1 h2
  obtain ⟨y, rfl, hy⟩ := int_cell h0
  obtain ⟨m, rfl, hm⟩ := int_cell h1
  obtain ⟨d, rfl, hd⟩ := int_cell h2
  exact ⟨y, m, d, rfl, rfl, rfl, hy, hm, hd⟩
set_option maxRecDepth 100000 in
theorem open_date {H : Type} {enc : TypeId × Value → H} {W : World} {base base2 : Nat} {sp : Nat → Bool} {held : Bool} {r : Reach} {v : Value} {d : DataW H} {p : List MemPlace}
    (hv : Value.okWide Tryd.prog W r base 39 v) (h : DataW.Trod enc Tryd.prog W base2 sp held 39 v d p) : ∃ y m d : Int, v = dateV y m d ∧ (In64 y ∧ In64 m ∧ In64 d) := by
  obtain ⟨cs, rfl, hsz⟩ := okWide_struct Tryd.underlying39 hv
  obtain ⟨a, b, c, rfl⟩ := cells3 (hsz.trans (show Tryd.prog.cellsOf 39 = 3 by kernel_rfl))
  obtain ⟨fuel, hf⟩ := h
  obtain ⟨y, m, d, rfl, rfl, rfl, h⟩ := date_cells (show DataW.trod enc Tryd.prog W base2 sp held fuel 39 [a, b, c] = some _ by simpa [Value.cells] using hf)
  exact ⟨y, m, d, rfl, h⟩
abbrev momV (y m d h mi s : Int) : Value := .agg #[.int .i64 y, .int .i64 m, .int .i64 d, .int .i64 h, .int .i64 mi, .int .i64 s]
end Go.Proofs.YtgedcfgmfhlkdaaDoor
