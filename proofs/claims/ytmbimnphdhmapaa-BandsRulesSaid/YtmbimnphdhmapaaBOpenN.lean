/- A table as an argument, with what its rules are where there are none. -/
import Derived.Test.YtmbimnphdhmapaaBOpen
namespace Go.Proofs.Ytmbimnphdhmapaa
open Go.ChangeShapes Go.WideShapes Go.RowKit
set_option linter.unusedVariables false
section
variable {H : Type} {enc : TypeId × Value → H} {W : World} {base : Nat} {sp : Nat → Bool} {held : Bool} {fuel : Nat}
theorem nil_rus {a : Option Addr} {n cap : Nat} {x : DataW H × List MemPlace} (h : DataW.trod enc Try.prog W base sp held fuel 39 [.slice a n cap] = some x) (ha : a = none) : n = 0 ∧ cap = 0 := by
  rcases Go.Deep.open_slice Try.underlying39 h with ⟨hc, _⟩ | ⟨a', len, cap', m, k, D, Pl, hc, _⟩
  · have hc : a = none ∧ n = 0 ∧ cap = 0 := by simpa using hc
    exact hc.2
  · have hc : a = some a' ∧ n = len ∧ cap = cap' := by simpa using hc
    rw [ha] at hc; cases hc.1
set_option maxRecDepth 100000 in
/-- An argument that is a table. -/
theorem open_tabn {base2 : Nat} {r : Reach} {v : Value} {d : DataW H} {p : List MemPlace} (hv : Value.okWide Try.prog W r base 41 v) (h : DataW.Trod enc Try.prog W base2 sp held 41 v d p) :
    ∃ (pa : Option Addr) (pl pc : Nat) (ra : Option Addr) (rl rc : Nat) (P : Nat → Pl) (R : Nat → Ru), v = tabV pa pl pc ra rl rc ∧ (pl ≤ pc ∧ pc ≤ maxLen) ∧ (rl ≤ rc ∧ rc ≤ maxLen) ∧ PlsAt W.heap.size W pa pl P ∧ RusAt W.heap.size W ra rl R ∧ (ra = none → rl = 0 ∧ rc = 0) := by
  obtain ⟨cs, rfl, hsz⟩ := okWide_struct Try.underlying41 hv
  obtain ⟨a, b, rfl⟩ := cells2 (hsz.trans (show Try.prog.cellsOf 41 = 2 by kernel_rfl))
  obtain ⟨fuel, hf⟩ := h
  have k1 : Try.prog.cellsOf 38 = 1 := by kernel_rfl
  have ks : Try.prog.cellsOf 39 = 1 := by kernel_rfl
  obtain ⟨y0, y1, n, _, h0, h1⟩ := trod_struct2' Try.underlying41 (show DataW.trod enc Try.prog W base2 sp held fuel 41 [a, b] = some _ by simpa [Value.cells] using hf)
  simp only [k1, List.drop, List.take] at h0
  simp only [ks, List.drop, List.take] at h1
  obtain ⟨pa, pl, pc, P, rfl, e1, hP⟩ := open_pls h0
  obtain ⟨ra, rl, rc, R, rfl, e2, hR⟩ := open_rus h1
  exact ⟨pa, pl, pc, ra, rl, rc, P, R, rfl, e1, e2, hP, hR, nil_rus h1⟩
end
end Go.Proofs.Ytmbimnphdhmapaa
