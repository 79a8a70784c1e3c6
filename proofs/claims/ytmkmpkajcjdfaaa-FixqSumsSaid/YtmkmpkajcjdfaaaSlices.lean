/- From a slice that came in, or that the call made by appending, to the list of its numbers, as the contract of fixq.Sum takes it. -/
import Derived.Test.YtmkmpkajcjdfaaaSum
import Derived.OpenShut
set_option linter.unusedVariables false
namespace Go.Proofs.Ytmkmpkajcjdfaaa
open Go.RowKit Go.Shelf
/-- A slice of int64 that came in: nil; or a row of 'cap' cells, the numbers zs, the first len of which are its elements. -/
def IsRow (k : IntKind) (w : World) (a : Option Addr) (len cap : Nat) (zs : List Int) : Prop :=
  (a = none ∧ len = 0 ∧ cap = 0 ∧ zs = []) ∨
  ∃ x, a = some x ∧ len ≤ cap ∧ cap ≤ maxLen ∧ zs.length = cap ∧ (∀ i, i < zs.length → w.cell? (x.add i) = some (.int k (zs.getD i 0))) ∧ ∀ n ∈ zs, (Lit.int k n).wf = true
theorem ints_of_row {w : World} {a : Option Addr} {len cap : Nat} {zs : List Int} (h : IsRow .i64 w a len cap zs) :
    ∃ es : List I64, es.length = len ∧ Ints w.heap.size w (.slice a len cap) es := by
  rcases h with ⟨rfl, rfl, rfl, rfl⟩ | ⟨x, rfl, hl, hm, hz, hcell, hwf⟩
  · exact ⟨[], rfl, .inl ⟨rfl, none, 0, rfl⟩⟩
  · by_cases h0 : len = 0
    · subst h0
      exact ⟨[], rfl, .inl ⟨rfl, some x, cap, rfl⟩⟩
    · obtain ⟨b, off, rfl, hc⟩ := ints_at hcell (by omega)
      have hb : b < w.heap.size := World.block_lt_of_cell? w _ (hc 0 (by omega))
      have hbd : ∀ n ∈ zs.take len, -9223372036854775808 ≤ n ∧ n ≤ 9223372036854775807 := fun n hn => bounds_i64 (hwf n (List.mem_of_mem_take hn))
      refine ⟨(zs.take len).pmap (fun n hn => (⟨n, hn⟩ : I64)) hbd, by simp; omega, .inr ⟨b, off, cap, by simp; omega, hb, fun j hj => ?_⟩⟩
      have hj' : j < len := by simp at hj; omega
      have hjz : j < zs.length := by omega
      rw [hc j hjz]
      simp [hj', hjz]
theorem cells_getD {es : List I64} {j : Nat} (h : j < es.length) : (es.map (fun x : I64 => Value.int .i64 x.1))[j]? = some (.int .i64 (es[j]?.getD z0).1) := by
  simp [h]
/-- What the call has appended. -/
theorem ints_of_owned {w : World} {base : Nat} {v : Value} {es : List I64} (h : w.ownsRow base 2 1 v es.length (es.map (fun x : I64 => Value.int .i64 x.1))) :
    Ints w.heap.size w v es := by
  obtain ⟨_, ⟨rfl, hn⟩ | ⟨g, cap, cur, rfl, hg, hb, hn, hm, hs, ht⟩⟩ := h
  · exact .inl ⟨by simpa using hn, none, 0, rfl⟩
  · refine .inr ⟨g, 0, cap, rfl, (Array.getElem?_eq_some_iff.1 hb).1, fun j hj => ?_⟩
    have e1 := cells_getD hj
    rw [← ht, Nat.mul_one, List.getElem?_take_of_lt hj] at e1
    simp only [World.cell?, hb, Nat.zero_add]
    simpa using e1
theorem isum_reverse (es : List I64) : isum es.reverse = isum es := by
  simp [isum, List.sum_reverse]
theorem isum_two (a b : Int) (ha : -9223372036854775808 ≤ a ∧ a ≤ 9223372036854775807) (hb : -9223372036854775808 ≤ b ∧ b ≤ 9223372036854775807) : isum [⟨a, ha⟩, ⟨b, hb⟩] = a + b := by simp [isum]
end Go.Proofs.Ytmkmpkajcjdfaaa
