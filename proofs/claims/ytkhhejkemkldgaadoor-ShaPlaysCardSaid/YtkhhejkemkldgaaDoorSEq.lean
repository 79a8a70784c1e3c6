/- Hashes compared; an argument that stays. -/
import Derived.Test.YtkhhejkemkldgaaDoorSSum
import Derived.Laws.StructEq
set_option linter.unusedVariables false
namespace Go.Proofs.YtkhhejkemkldgaaDoor
open Go.RowKit Go.Shelf
theorem eq_items (T E : TypeId) (k : IntKind) (n : Nat) (f : Nat → Int) (d : Nat) (hE : Tryd.prog.plainKey E = true) (hs : Tryd.prog.cellsOf E = 1) (hu : Tryd.prog.underlying E = some (.int k)) (w : World) : ∀ is : List Nat, (∀ j ∈ is, j < n) → (Op.eqItems (d + 1) E (Tryd.prog.cellsOf E) (nums k n f) (nums k n f) is).run Tryd.prog w = .ok true w
  | [], _ => by simp [Op.eqItems]
  | j :: is, h => by
    have h1 := run_part_plain (P := Tryd.prog) (w := w) hE (nums_get k n f j (h j (by simp)))
    have h2 := eq_items T E k n f d hE hs hu w is (fun i hi => h i (by simp [hi]))
    rw [hs] at h2 ⊢
    simp only [Op.eqItems, Sem.run_bind, Nat.mul_one, h1, Result.andThen_ok, run_equalIn_int w d E k k (f j) (f j) hu]
    simp [h2]
theorem eq_hash (f : Nat → Int) (w : World) : (Op.equalIn 10000 38 (.agg (nums .u8 32 f)) (.agg (nums .u8 32 f))).run Tryd.prog w = .ok true w := by
  have hi : (Tryd.prog.info? 5).isSome = true := by kernel_rfl
  obtain ⟨i, hi⟩ := Option.isSome_iff_exists.1 hi
  rw [run_equalIn_array w 9999 _ _ Tryd.underlying38 hi]
  exact eq_items 38 5 .u8 32 f 9998 (by kernel_rfl) (by kernel_rfl) Tryd.underlying5 w _ (fun j hj => by simpa using hj)
theorem row_le {w : World} {a : Option Addr} {len cap : Nat} {z : List Int} (h : IsRow .u8 w a len cap z) : len ≤ cap := by
  rcases h with ⟨_, rfl, rfl, _⟩ | ⟨_, _, h, _⟩
  · exact Nat.le_refl _
  · exact h
theorem bys_at {w W X : World} {S : Nat} {a : Option Addr} {xs : List Int} {c : Nat} (h : Bys8 w.heap.size w (.slice a xs.length c) xs) (hD : Below w.heap.size w W) (hS : w.heap.size ≤ S) (hk : KeepsC S W X) : Bys8 W.heap.size X (.slice a xs.length c) xs :=
  ((h.below hD).apart hS hk).mono hD.size
end Go.Proofs.YtkhhejkemkldgaaDoor
