/- Arrays of numbers as they lie in memory: states, blocks, schedules, hashes. -/
import Derived.Test.YtmeamdfmcpkofaaDoorSMath
import Derived.Test.YtmeamdfmcpkofaaDoorProg
import Derived.WalkKit
import Derived.WalkLawsBesides
import Derived.IntWalk
import Derived.Lib.Hide
import Derived.Laws.Rows
import Derived.Laws.Tables
import Derived.Deep.WholeRow
import Derived.Deep.MidRow
import Derived.LoopTactic
import Derived.Below
import Derived.ChangeKeysEq
import Derived.DeepKeys
set_option linter.unusedVariables false
namespace Go.Proofs.YtmeamdfmcpkofaaDoor
open Go.RowKit
/-- A block known whole. -/
def At (T : TypeId) (W : World) (b : Nat) (cs : Array Value) : Prop := W.heap[b]? = some (.cells cs T (0, 0))
theorem At.lt {T : TypeId} {W : World} {b : Nat} {cs : Array Value} (h : At T W b cs) : b < W.heap.size := (Array.getElem?_eq_some_iff.1 h).1
theorem At.free {T : TypeId} {W : World} {b : Nat} {cs : Array Value} (h : At T W b cs) (j : Nat) : W.frozen? ⟨b, j, none⟩ = false := frozen_of_row W b j cs _ h
theorem At.cell {T : TypeId} {W : World} {b : Nat} {cs : Array Value} (h : At T W b cs) (j : Nat) : W.cell? ⟨b, j, none⟩ = cs[j]? := cell_of_row W b j cs _ _ h
theorem At.set {T : TypeId} {W : World} {b : Nat} {cs : Array Value} (h : At T W b cs) (k : Nat) (x : Value) : At T (W.setCell ⟨b, k, none⟩ x) b (cs.setIfInBounds k x) := heap_setCell_same W b k _ _ x h
theorem At.other {T : TypeId} {W : World} {b : Nat} {cs : Array Value} (h : At T W b cs) {a : Addr} (v : Value) (hne : b ≠ a.block) : At T (W.setCell a v) b cs := (heap_setCell_other W a b v hne).trans h
theorem At.alloc {T : TypeId} {W : World} {b : Nat} {cs : Array Value} (h : At T W b cs) (o : Obj) : At T (W.alloc o) b cs := by
  have : (W.alloc o).heap[b]? = W.heap[b]? := by
    show (W.heap.push o)[b]? = W.heap[b]?
    rw [Array.getElem?_push, if_neg (Nat.ne_of_lt h.lt)]
  exact this.trans h
theorem At.new (T : TypeId) (W : World) (cs : Array Value) : At T (W.alloc (.cells cs T)) W.heap.size cs := heap_alloc_new W _
theorem At.below {T : TypeId} {W W' : World} {B b : Nat} {cs : Array Value} (h : At T W b cs) (hb : b < B) (hB : Below B W W') : At T W' b cs := (hB.block b hb).trans h
theorem At.row {T : TypeId} {W : World} {b : Nat} {cs cs' : Array Value} (h : At T W b cs) : At T (W.setRow b cs') b cs' := setRow_heap W b cs cs' _ _ h
theorem At.rowOther {T : TypeId} {W : World} {b g : Nat} {cs : Array Value} (h : At T W b cs) (cs' : Array Value) (hne : b ≠ g) : At T (W.setRow g cs') b cs := (setRow_other W g b cs' hne).trans h
theorem At.drewN {T : TypeId} {W : World} {b : Nat} {cs : Array Value} (h : At T W b cs) (n : Nat) : At T (W.drewN n) b cs := h
theorem At.drew {T : TypeId} {W : World} {b : Nat} {cs : Array Value} (h : At T W b cs) : At T W.drew b cs := h
theorem below_row {B : Nat} {w W : World} (h : Below B w W) {g : Nat} (hg : B ≤ g) (cs : Array Value) : Below B w (W.setRow g cs) :=
  ⟨h.os, h.tape, h.output, by simpa using h.size, fun k hk => (setRow_other W g k cs (by omega)).trans (h.block k hk)⟩
/-- A row of n numbers. -/
def nums (k : IntKind) (n : Nat) (f : Nat → Int) : Array Value := ((List.range n).map (fun i => Value.int k (f i))).toArray
theorem nums_size (k : IntKind) (n : Nat) (f : Nat → Int) : (nums k n f).size = n := by simp [nums]
theorem nums_get (k : IntKind) (n : Nat) (f : Nat → Int) (j : Nat) (hj : j < n) : (nums k n f)[j]? = some (.int k (f j)) := by simp [nums, hj]
theorem nums_set (k : IntKind) (n : Nat) (f : Nat → Int) (j : Nat) (x : Int) (hj : j < n) : (nums k n f).setIfInBounds j (.int k x) = nums k n (fun i => if i = j then x else f i) := by
  apply Array.ext_getElem?
  intro i
  rw [Array.getElem?_setIfInBounds]
  by_cases h : j = i
  · subst h; simp [nums, hj]
  · rw [if_neg h]
    by_cases hi : i < n
    · simp [nums, hi, show ¬ i = j from fun e => h e.symm]
    · simp [nums, hi]
theorem nums_congr {k : IntKind} {n : Nat} {f g : Nat → Int} (h : ∀ j, j < n → f j = g j) : nums k n f = nums k n g := by
  unfold nums
  rw [List.map_congr_left (fun i hi => by rw [h i (by simpa using hi)])]
theorem nums_one (k : IntKind) (n : Nat) (f : Nat → Int) : (nums k n f).all (·.oneCell') = true := by
  rw [Array.all_eq_true_iff_forall_mem]
  intro v hv
  simp only [nums, List.mem_toArray, List.mem_map] at hv
  obtain ⟨i, _, rfl⟩ := hv
  rfl
theorem At.num {T : TypeId} {W : World} {b : Nat} {k : IntKind} {n : Nat} {f : Nat → Int} (h : At T W b (nums k n f)) (j : Nat) (hj : j < n) : W.cell? ⟨b, j, none⟩ = some (.int k (f j)) := (h.cell j).trans (nums_get k n f j hj)
theorem At.put {T : TypeId} {W : World} {b : Nat} {k : IntKind} {n : Nat} {f : Nat → Int} (h : At T W b (nums k n f)) (j : Nat) (x : Int) (hj : j < n) : At T (W.setCell ⟨b, j, none⟩ (.int k x)) b (nums k n (fun i => if i = j then x else f i)) := by
  have := h.set j (.int k x)
  rwa [nums_set k n f j x hj] at this
theorem At.like {T : TypeId} {W : World} {b : Nat} {k : IntKind} {n : Nat} {f g : Nat → Int} (h : At T W b (nums k n f)) (e : ∀ j, j < n → f j = g j) : At T W b (nums k n g) := by rwa [nums_congr e] at h
/-- The words of a list, as a row has them. -/
def wf (L : List Nat) (i : Nat) : Int := ((L.getD i 0 : Nat) : Int)
def bf (L : List Int) (i : Nat) : Int := L.getD i 0
abbrev wrow (L : List Nat) : Array Value := nums .u32 8 (wf L)
/-- The element of an array. -/
theorem idx_nums (T E : TypeId) (k : IntKind) (n : Nat) (f : Nat → Int) (j : Nat) (hj : j < n) (hT : Tryd.prog.underlying T = some (.array n E)) (hE : Tryd.prog.plainKey E = true) (hs : Tryd.prog.cellsOf E = 1) (hi : (Tryd.prog.info? E).isSome = true) (w : World) : (Instr.index T (.agg (nums k n f)) (.int .i64 (j : Int))).run Tryd.prog w = .ok (.int k (f j)) w := by
  obtain ⟨i, hi⟩ := Option.isSome_iff_exists.1 hi
  have h1 := run_sizeOf (w := w) hi
  have h2 := run_part_plain (P := Tryd.prog) (w := w) hE (nums_get k n f j hj)
  simp [Instr.index, asIntOf, run_underlying hT, hj, h1, hs, h2]
theorem size_hash (f : Nat → Int) : (Tryd.prog.info? 25).map (·.size) = some (nums .u8 32 f).size := by rw [nums_size]; kernel_rfl
theorem zero_hash : (Tryd.prog.info? 25).map (fun i => (i.zero, i.size)) = some (some (.agg (nums .u8 32 fun _ => 0)), 32) := by kernel_rfl
theorem load_hash {ops : Array Oper} {rest : List Oper} {o : Oper} {a : Act} {w : World} {Q : Exit → Act → World → Prop} {x : Operand} {g : Nat} {f : Nat → Int} (hg : At 25 w g (nums .u8 32 f))
    (hgd : o.guard = none) (ho : o.op = .load 25 x) (hx : a.eval x = .pointer (some ⟨g, 0, none⟩))
    (h : wpList Tryd.prog ops Q rest (a.put o.dst (.agg (nums .u8 32 f))) w) : wpList Tryd.prog ops Q (o :: rest) a w :=
  wpList_load_row hgd 25 x ho g hx _ _ _ _ hg Tryd.underlying25 rfl (size_hash f) h
theorem store_hash {ops : Array Oper} {rest : List Oper} {o : Oper} {a : Act} {w : World} {Q : Exit → Act → World → Prop} {x y : Operand} {g : Nat} {f f' : Nat → Int} (hg : At 25 w g (nums .u8 32 f'))
    (hgd : o.guard = none) (ho : o.op = .store 25 x y) (hx : a.eval x = .pointer (some ⟨g, 0, none⟩)) (hy : a.eval y = .agg (nums .u8 32 f))
    (h : wpList Tryd.prog ops Q rest (a.put o.dst undef) (w.setRow g (nums .u8 32 f))) : wpList Tryd.prog ops Q (o :: rest) a w :=
  wpList_store_row hgd 25 x y ho g (nums .u8 32 f) hx hy _ _ hg (size_hash f) (by rw [nums_size, nums_size]) (nums_one .u8 32 f) h
theorem results_hash {fn : Func} {p : Tmp} (h : fn.results = #[.cell p 25]) (tmps : Array Value) (w : World) (g : Nat) (f : Nat → Int) (hp : tmps.getD p undef = .pointer (some ⟨g, 0, none⟩)) (hg : At 25 w g (nums .u8 32 f)) :
    (results fn tmps).run Tryd.prog w = .ok (.agg (nums .u8 32 f)) w := results_cell_row h tmps w g _ _ _ _ hp hg Tryd.underlying25 rfl (size_hash f)
theorem cast_of {n : Nat} (h : n < 4294967296) : ∃ N : Int, 0 ≤ N ∧ N < 4294967296 ∧ (n : Int) = N := ⟨n, by omega, by omega, rfl⟩
end Go.Proofs.YtmeamdfmcpkofaaDoor
