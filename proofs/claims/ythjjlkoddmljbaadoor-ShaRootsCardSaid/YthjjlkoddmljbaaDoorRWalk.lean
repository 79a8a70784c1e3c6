/- The walk of the statement ShaRoots. -/
import Derived.Test.YthjjlkoddmljbaaDoorRRoot
import Derived.Test.YthjjlkoddmljbaaDoorSHashed
set_option linter.unusedVariables false
set_option linter.unusedSimpArgs false
namespace Go.Proofs.YthjjlkoddmljbaaDoor
open Go.RowKit
def isP (n : Nat) : Bool := (List.range 19).all fun e => decide (e < 2) || decide (n < e * e) || (n % e != 0)
def upTo (n d : Nat) : Bool := (List.range d).all fun e => decide (e < 2) || (n % e != 0)
def cnt (n : Nat) : Nat := ((List.range n).filter fun k => decide (2 ≤ k) && isP k).length
def okB (p : Nat) (cube : Bool) (word : Nat) : Bool := (List.range 20).any fun i => decide (1 ≤ i) && (if cube then decide ((i * 4294967296 + word) * (i * 4294967296 + word) * (i * 4294967296 + word) ≤ p * 2 ^ 96) && decide (p * 2 ^ 96 < (i * 4294967296 + word + 1) * (i * 4294967296 + word + 1) * (i * 4294967296 + word + 1)) else decide ((i * 4294967296 + word) * (i * 4294967296 + word) ≤ p * 2 ^ 64) && decide (p * 2 ^ 64 < (i * 4294967296 + word + 1) * (i * 4294967296 + word + 1)))
theorem okB_spec {p : Nat} {cube : Bool} {word : Nat} (h : okB p cube word = true) : ∃ i0, 1 ≤ i0 ∧ i0 < 20 ∧ Ref.okR p cube word i0 := by
  unfold okB at h
  rw [List.any_eq_true] at h
  obtain ⟨i, hi, h⟩ := h
  have hi : i < 20 := by simpa using hi
  rw [Bool.and_eq_true, decide_eq_true_eq] at h
  refine ⟨i, h.1, hi, ?_⟩
  unfold Ref.okR
  cases cube
  · rw [if_neg (by decide)]
    have := h.2
    rw [if_neg (by decide), Bool.and_eq_true, decide_eq_true_eq, decide_eq_true_eq] at this
    exact this
  · rw [if_pos rfl]
    have := h.2
    rw [if_pos rfl, Bool.and_eq_true, decide_eq_true_eq, decide_eq_true_eq] at this
    exact this
theorem upTo_succ (n d : Nat) (h : 2 ≤ d) : upTo n (d + 1) = (upTo n d && (n % d != 0)) := by
  unfold upTo
  rw [List.range_succ, List.all_append]
  simp [show ¬ d < 2 by omega]
theorem facts : ∀ n : Fin 312, (cnt n.val < 64) ∧ cnt (n.val + 1) = (if decide (2 ≤ n.val) && isP n.val then cnt n.val + 1 else cnt n.val) ∧ ((decide (2 ≤ n.val) && isP n.val) = true → okB n.val true (roots.getD (cnt n.val) 0) = true ∧ (cnt n.val < 8 → okB n.val false (initial.getD (cnt n.val) 0) = true)) := by decide +kernel
theorem facts2 : ∀ n : Fin 312, ∀ d : Fin 20, 2 ≤ d.val → n.val < d.val * d.val → (d.val - 1) * (d.val - 1) ≤ n.val ∨ d.val = 2 → upTo n.val d.val = isP n.val := by decide +kernel
theorem cnt_last : cnt 312 = 64 := by decide +kernel
theorem roots_word (j : Nat) : roots.getD j 0 < 4294967296 := (Words.of_mem (by decide) : Words roots) j
theorem const_any (w : World) : Calls Tryd.prog 19 #[] w fun e w' => e = .returned (.slice (some ⟨w.heap.size, 0, none⟩) 64 64) ∧ Tab w' w.heap.size (nums .u32 64 (wf roots)) ∧ Below w.heap.size w w' := by
  go_enter Tryd.func19, Tryd.ntmps19
  go_wp2
  go_ret
  exact ⟨rfl, ⟨_, _, heap_alloc_new w _⟩, (Below.refl _ w).alloc (Nat.le_refl _) _⟩
theorem first_any (w : World) : Calls Tryd.prog 20 #[] w fun e w' => e = .returned (.slice (some ⟨w.heap.size, 0, none⟩) 8 8) ∧ Tab w' w.heap.size (nums .u32 8 (wf initial)) ∧ Below w.heap.size w w' := by
  go_enter Tryd.func20, Tryd.ntmps20
  go_wp2
  go_ret
  exact ⟨rfl, ⟨_, _, heap_alloc_new w _⟩, (Below.refl _ w).alloc (Nat.le_refl _) _⟩
end Go.Proofs.YthjjlkoddmljbaaDoor
