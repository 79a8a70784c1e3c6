/- A purse in memory: 512 cells. -/
import Derived.Test.YtbffmobjiiicoaaDoorFMath
import Derived.Test.YtbffmobjiiicoaaDoorProg
import Derived.WalkKit
import Derived.WalkLawsBesides
import Derived.Laws.Rows
import Derived.Laws.Tables
import Derived.Deep.WholeRow
import Derived.Lib.Hide
import Derived.Below
import Derived.WalkSmall
import Derived.Deep.RegionWith
namespace Go.Proofs.YtbffmobjiiicoaaDoor
open Go.RowKit
set_option linter.unusedVariables false
def restC (f : Nat → Int) : Array Value := ((List.range 512).map (fun i => Value.int .i64 (f i))).toArray
theorem restC_size (f : Nat → Int) : (restC f).size = 512 := by simp [restC]
def PAt (T : TypeId) (W : World) (b : Nat) (f : Nat → Int) : Prop := W.heap[b]? = some (.cells (restC f) T (0, 0))
section
variable {T : TypeId} {W W' : World} {b : Nat} {f : Nat → Int}
theorem PAt.lt (h : PAt T W b f) : b < W.heap.size := (Array.getElem?_eq_some_iff.1 h).1
theorem PAt.cell (h : PAt T W b f) {k : Nat} (hk : k < 512) : W.cell? ⟨b, k, none⟩ = some (.int .i64 (f k)) := by
  rw [cell_of_row W b k _ _ _ h]; simp [restC, hk]
theorem PAt.free (h : PAt T W b f) (j : Nat) : W.frozen? ⟨b, j, none⟩ = false := frozen_of_row W b j _ _ h
theorem restC_set (f : Nat → Int) (k : Nat) (x : Int) (hk : k < 512) : (restC f).setIfInBounds k (.int .i64 x) = restC (upd f k x) := by
  apply Array.ext_getElem?
  intro j
  rw [Array.getElem?_setIfInBounds]
  by_cases hj : k = j
  · subst hj; simp [restC, hk, upd]
  · rw [if_neg hj]
    by_cases h5 : j < 512
    · simp [restC, h5, upd, show ¬ j = k from fun e => hj e.symm]
    · simp [restC, h5]
theorem PAt.set (h : PAt T W b f) {k : Nat} (hk : k < 512) (x : Int) : PAt T (W.setCell ⟨b, k, none⟩ (.int .i64 x)) b (upd f k x) := by
  unfold PAt
  rw [heap_setCell_same W b k _ _ _ h, restC_set f k x hk]
theorem PAt.other (h : PAt T W b f) {a : Addr} (v : Value) (hne : b ≠ a.block) : PAt T (W.setCell a v) b f := (heap_setCell_other W a b v hne).trans h
theorem PAt.below {B : Nat} (h : PAt T W b f) (hb : b < B) (hB : Below B W W') : PAt T W' b f := (hB.block b hb).trans h
theorem PAt.next (h : PAt T W b f) (hB : Below W.heap.size W W') : PAt T W' b f := h.below h.lt hB
theorem PAt.far {g : Nat} (h : PAt T W b f) (hg : W.grownBy W' (some g)) (hne : b ≠ g) : PAt T W' b f := (hg.block b h.lt (fun e => hne (by injection e))).trans h
theorem PAt.new (W : World) (T : TypeId) (f : Nat → Int) : PAt T (W.alloc (.cells (restC f) T)) W.heap.size f := heap_alloc_new W _
theorem PAt.alloc (h : PAt T W b f) (o : Obj) : PAt T (W.alloc o) b f := h.next ((Below.refl _ _).alloc (Nat.le_refl _) _)
theorem PAt.row {cs : Nat → Int} (h : PAt T W b f) : PAt T (W.setRow b (restC cs)) b cs := setRow_heap W b _ _ _ _ h
theorem PAt.rowOther {g : Nat} (h : PAt T W b f) (cs : Array Value) (hne : b ≠ g) : PAt T (W.setRow g cs) b f := (setRow_other W g b cs hne).trans h
end
theorem rest_one (f : Nat → Int) : (restC f).all (·.oneCell') = true := by
  rw [Array.all_eq_true]; intro i hi; simp [restC]; rfl
theorem grown_refl (w : World) (row : Option Nat) : w.grownBy w row := ⟨rfl, rfl, rfl, Nat.le_refl _, fun _ _ _ => rfl⟩
theorem grown_below {w W : World} {row : Option Nat} (h : Below w.heap.size w W) : w.grownBy W row := ⟨h.os, h.tape, h.output, h.size, fun k hk _ => h.block k hk⟩
theorem grown_set {w W : World} {b : Nat} (h : w.grownBy W (some b)) (k : Nat) (v : Value) : w.grownBy (W.setCell ⟨b, k, none⟩ v) (some b) :=
  ⟨h.os, h.tape, h.output, by simpa using h.size, fun j hj hne => (heap_setCell_other W _ j v (fun e => hne (by rw [e]))).trans (h.block j hj hne)⟩
theorem grown_then {w W X : World} {row : Option Nat} (h : w.grownBy W row) (k : W.grownBy X row) : w.grownBy X row :=
  ⟨k.os.trans h.os, k.tape.trans h.tape, k.output.trans h.output, Nat.le_trans h.size k.size, fun j hj hne => (k.block j (Nat.lt_of_lt_of_le hj h.size) hne).trans (h.block j hj hne)⟩
theorem below_grown {B : Nat} {a w W : World} {b : Nat} (h : Below B a w) (hg : w.grownBy W (some b)) (hB : B ≤ w.heap.size) (hb : B ≤ b) : Below B a W := h.grown hg hB (fun k e => by injection e; omega)
end Go.Proofs.YtbffmobjiiicoaaDoor
