/- The document's Words. -/
import Derived.Test.YtkghiendflheiaaRPlace
import Derived.Deep.RegionLaw
import Derived.Deep.RegionWith
import Derived.Deep.CutRange
import Derived.Deep.RegionHeld3
set_option linter.unusedVariables false
namespace Go.Proofs.Ytkghiendflheiaa
open Go.RowKit Go.Sort
theorem div_step2 (v n j : Nat) (h : j < n) : v / 256 ^ (n - (j + 1)) / 256 = v / 256 ^ (n - j) := by
  rw [Nat.div_div_eq_div_mul, ← Nat.pow_succ]
  congr 2
  omega
/-- The first k registers. -/
def firstR (v m : Nat) (o : Int) (k : Nat) : List Int := (List.range k).map fun j => byt v (8 - 2 * m + pl o (2 * j) (2 * m)) * 256 + byt v (8 - 2 * m + pl o (2 * j + 1) (2 * m))
theorem firstR_succ (v m : Nat) (o : Int) (k : Nat) : firstR v m o (k + 1) = firstR v m o k ++ [byt v (8 - 2 * m + pl o (2 * k) (2 * m)) * 256 + byt v (8 - 2 * m + pl o (2 * k + 1) (2 * m))] := by simp [firstR, List.range_succ]
theorem firstR_all (v m : Nat) (hm : m = 1 ∨ m = 2 ∨ m = 4) (o : Int) (ho : o = 1 ∨ o = 2 ∨ o = 3 ∨ o = 4) : firstR v m o m = wordsL v m o := by
  rw [wordsL_eq v m hm o ho]
  unfold firstR pairsL
  simp only [List.length_map, List.length_range, Nat.mul_div_cancel_left _ (show 0 < 2 by decide)]
  apply List.map_congr_left
  intro j hj
  have hj' : j < m := by simpa using hj
  have h1 : 2 * j < 2 * m := by omega
  have h2 : 2 * j + 1 < 2 * m := by omega
  simp only [List.getD, List.getElem?_map, List.getElem?_range h1, List.getElem?_range h2, Option.map_some, Option.getD_some]
theorem step_bapp16 {ops : Array Oper} {o : Oper} {a : Act} {w : World} {K : Act → World → Prop} {Q : Exit → Act → World → Prop} {E : Prop} (hgd : o.guard = none) (s x : Operand)
    (ho : o.op = .call { callee := .builtin .append, args := #[s, x], argTypes := #[22, 22] })
    (base : Nat) (v : Value) (ys : List Int) (hs : a.eval s = v) (hown : Own16 base w v ys) (B : Nat) (A : Option Addr) (m c : Nat) (xs : List Int) (hx : a.eval x = .slice A m c) (hb : Bys16 B w (.slice A m c) xs)
    (hlen : ys.length + xs.length ≤ 10000000000000) (hbase : base ≤ w.heap.size)
    (h : ∀ a' c' w', Own16 base w' (.slice a' (ys ++ xs).length c') (ys ++ xs) → Below base w w' → K (a.put o.dst (.slice a' (ys ++ xs).length c')) w') :
    if Region.wanted o (yielded ops a.tmps) = true then Oper.wp Try.prog o a w K Q else E := by
  have hw : Region.wanted o (yielded ops a.tmps) = true := by simp [Region.wanted, hgd]
  rw [if_pos hw]
  obtain ⟨v', w', hrun, h2, h3⟩ := run_bapp16 base o.type w v ys hown B A m c xs hb hlen hbase
  obtain ⟨a', c', rfl⟩ := h2.form
  unfold Oper.wp execOp
  simp only [ho, resolve, invoke, builtin, Sem.run_bind, Sem.run_pure, Result.andThen_ok, List.map_toArray, List.map_cons, List.map_nil, hs, hx, hrun]
  exact h a' c' w' h2 h3
end Go.Proofs.Ytkghiendflheiaa
