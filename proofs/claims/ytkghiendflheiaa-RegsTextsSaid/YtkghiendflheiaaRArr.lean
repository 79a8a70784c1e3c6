/- What arrange does to the last bytes of an array of eight; isOrder; the bytes of a number. -/
import Derived.Test.YtkghiendflheiaaRBytes
import Derived.Test.YtkghiendflheiaaROct
set_option linter.unusedVariables false
namespace Go.Proofs.Ytkghiendflheiaa
open Go.RowKit Go.Sort
/-- The last 2m of eight bytes. -/
def tailA (m : Nat) (f : Nat → Int) : Array Int := ((List.range (2 * m)).map (fun j => f (8 - 2 * m + j))).toArray
theorem tailA_size (m : Nat) (f : Nat → Int) : (tailA m f).size = 2 * m := by simp [tailA]
/-- Eight bytes, the last of which are d. -/
def putF (off : Nat) (d : Array Int) (f : Nat → Int) (j : Nat) : Int := if off ≤ j then d[j - off]! else f j
theorem at_putRow {W : World} {blk n off : Nat} {f : Nat → Int} {d : Array Int} (h : At 54 W blk (oct f)) (hd : off + d.size = 8) :
    At 54 (putRow encB (Sort.ahead W n) blk off d) blk (oct (putF off d f)) := by
  have h1 : (putRow encB (Sort.ahead W n) blk off d).heap[blk]? = some (.cells (putCells encB off d (oct f)) 54 (0, 0)) := by
    show (W.heap.modify blk (onCells (putCells encB off d)))[blk]? = _
    rw [Array.getElem?_modify, if_pos rfl, show W.heap[blk]? = _ from h]
    rfl
  have h2 : putCells encB off d (oct f) = oct (putF off d f) := by
    apply Array.ext
    · simp [putCells, oct]
    · intro i hi1 hi2
      have hi8 : i < 8 := by simpa [oct] using hi2
      simp only [putCells, Array.getElem_mapIdx]
      simp only [oct, List.getElem_toArray, List.getElem_map, List.getElem_range, putF]
      by_cases hc : off ≤ i
      · rw [if_pos ⟨hc, by omega⟩, if_pos hc]
      · rw [if_neg (by omega), if_neg hc]
  show (putRow encB (Sort.ahead W n) blk off d).heap[blk]? = _
  rw [h1, h2]
theorem below_putRow {B : Nat} {W : World} {blk n off : Nat} {d : Array Int} (hB : B ≤ blk) : Below B W (putRow encB (Sort.ahead W n) blk off d) := by
  refine ⟨rfl, rfl, rfl, by rw [size_putRow]; exact Nat.le_refl _, fun k hk => ?_⟩
  show (W.heap.modify blk (onCells (putCells encB off d)))[k]? = _
  rw [Array.getElem?_modify, if_neg (by omega)]
theorem holds_tail {W : World} {blk m : Nat} {f : Nat → Int} (h : At 54 W blk (oct f)) (hm : 2 * m ≤ 8) : Holds encB W blk (8 - 2 * m) (tailA m f) := by
  intro j hj
  rw [tailA_size] at hj
  refine ⟨?_, h.free _⟩
  rw [h.cell, oct_get _ _ (by omega)]
  simp [tailA, hj, encB]
theorem arrange_tail (o : Int) (ho : o = 1 ∨ o = 2 ∨ o = 3 ∨ o = 4) (m blk cap : Nat) (hm : 2 * m ≤ 8) (f : Nat → Int) (w : World) (h : At 54 w blk (oct f)) :
    Calls Try.prog 25 #[.slice (some ⟨blk, 8 - 2 * m, none⟩) (2 * m) cap, .int .i64 o] w fun e w' => e = .returned (.tuple #[]) ∧ At 54 w' blk (oct (putF (8 - 2 * m) (arr o (tailA m f)) f)) ∧ Below blk w w' := by
  have hk := arrange_any o ho blk (8 - 2 * m) cap (tailA m f) w (holds_tail h hm) (by rw [tailA_size]; omega)
  rw [tailA_size] at hk
  refine hk.mono ?_
  rintro e w' ⟨rfl, n, rfl⟩
  exact ⟨rfl, at_putRow h (by rw [size_arr, tailA_size]; omega), below_putRow (Nat.le_refl _)⟩
theorem isOrder_yes (o : Int) (ho : o = 1 ∨ o = 2 ∨ o = 3 ∨ o = 4) (w : World) : Calls Try.prog 23 #[.int .i64 o] w fun e w' => e = .returned (.bool true) ∧ w = w' := by
  rcases ho with rfl | rfl | rfl | rfl
  all_goals
    go_enter Try.func23, Try.ntmps23
    go_wp2
    go_ret
    exact ⟨rfl, rfl⟩
theorem isOrder_no (o : Int) (ho : o < 1 ∨ 4 < o) (w : World) : Calls Try.prog 23 #[.int .i64 o] w fun e w' => e = .returned (.bool false) ∧ w = w' := by
  rcases ho with h | h
  · have h1 : decide (1 ≤ o) = false := by simp; omega
    go_enter Try.func23, Try.ntmps23
    go_wp2
    go_ret
    exact ⟨rfl, rfl⟩
  · have h1 : decide (1 ≤ o) = true := by simp; omega
    have h2 : decide (o ≤ 4) = false := by simp; omega
    have h3 : 1 ≤ o := by omega
    go_enter Try.func23, Try.ntmps23
    go_wp2
    go_ret
    exact ⟨rfl, rfl⟩
theorem bys_tail {W : World} {blk m cap : Nat} {f : Nat → Int} (h : At 54 W blk (oct f)) (hm : 2 * m ≤ 8) (hf : ∀ j, j < 8 → 0 ≤ f j ∧ f j < 256) :
    Bys8 W.heap.size W (.slice (some ⟨blk, 8 - 2 * m, none⟩) (2 * m) cap) (tailA m f).toList := by
  refine ⟨?_, .inr ⟨blk, 8 - 2 * m, cap, by simp [tailA], h.lt, ?_⟩⟩
  · intro x hx
    simp only [tailA, List.mem_map, List.mem_range] at hx
    obtain ⟨j, hj, rfl⟩ := hx
    exact hf _ (by omega)
  · intro j hj
    have hj' : j < 2 * m := by simpa [tailA] using hj
    rw [h.cell, oct_get _ _ (by omega)]
    simp [tailA, List.getD, hj']
/-- Which byte of a number (0: the highest) stands at a place. -/
def pl (o : Int) (j many : Nat) : Nat := if o = 2 then many - 2 - j / 2 * 2 + j % 2 else if o = 3 then j / 2 * 2 + 1 - j % 2 else if o = 4 then many - 1 - j else j
theorem pl_lt (o : Int) (m j : Nat) (hj : j < 2 * m) : pl o j (2 * m) < 2 * m := by unfold pl; split <;> (try split) <;> (try split) <;> omega
theorem arr_pl (m : Nat) (hm : m = 1 ∨ m = 2 ∨ m = 4) (o : Int) (ho : o = 1 ∨ o = 2 ∨ o = 3 ∨ o = 4) (f : Nat → Int) :
    arr o (tailA m f) = ((List.range (2 * m)).map (fun j => f (8 - 2 * m + pl o j (2 * m)))).toArray := by
  have hr : ∀ m, (tailA m f).reverse = ((List.range (2 * m)).map (fun j => f (8 - 2 * m + j))).reverse.toArray := fun m => by unfold tailA; rw [List.reverse_toArray]
  have ht : ∀ m o, arr o (tailA m f) = if o = 4 then ((List.range (2 * m)).map (fun j => f (8 - 2 * m + j))).reverse.toArray else if o = 2 then turnA ((List.range (2 * m)).map (fun j => f (8 - 2 * m + j))).reverse.toArray else if o = 3 then turnA (tailA m f) else tailA m f := fun m o => by
    unfold arr; rw [hr]
  rcases hm with rfl | rfl | rfl <;> rcases ho with rfl | rfl | rfl | rfl 
  · exact (ht _ _).trans (by kernel_rfl)
  · exact (ht _ _).trans (by kernel_rfl)
  · exact (ht _ _).trans (by kernel_rfl)
  · exact (ht _ _).trans (by kernel_rfl)
  · exact (ht _ _).trans (by kernel_rfl)
  · exact (ht _ _).trans (by kernel_rfl)
  · exact (ht _ _).trans (by kernel_rfl)
  · exact (ht _ _).trans (by kernel_rfl)
  · exact (ht _ _).trans (by kernel_rfl)
  · exact (ht _ _).trans (by kernel_rfl)
  · exact (ht _ _).trans (by kernel_rfl)
  · exact (ht _ _).trans (by kernel_rfl)
theorem tail_putF (m : Nat) (hm : 2 * m ≤ 8) (d : Array Int) (hd : d.size = 2 * m) (f : Nat → Int) : tailA m (putF (8 - 2 * m) d f) = d := by
  apply Array.ext
  · rw [tailA_size, hd]
  · intro i h1 h2
    simp only [tailA, List.getElem_toArray, List.getElem_map, List.getElem_range, putF]
    rw [if_pos (by omega), Nat.add_sub_cancel_left, getElem!_pos d i h2]
theorem putF_bd (m : Nat) (hm : m = 1 ∨ m = 2 ∨ m = 4) (o : Int) (ho : o = 1 ∨ o = 2 ∨ o = 3 ∨ o = 4) (f g : Nat → Int) (hf : ∀ j, j < 8 → 0 ≤ f j ∧ f j < 256) (hg : ∀ j, j < 8 → 0 ≤ g j ∧ g j < 256) :
    ∀ j, j < 8 → 0 ≤ putF (8 - 2 * m) (arr o (tailA m f)) g j ∧ putF (8 - 2 * m) (arr o (tailA m f)) g j < 256 := by
  intro j hj
  have hm8 : 2 * m ≤ 8 := by omega
  unfold putF
  split
  · rw [arr_pl m hm o ho]
    have hlt : j - (8 - 2 * m) < 2 * m := by omega
    have hp := pl_lt o m _ hlt
    have := hf (8 - 2 * m + pl o (j - (8 - 2 * m)) (2 * m)) (by omega)
    simpa [hlt] using this
  · exact hg j hj
end Go.Proofs.Ytkghiendflheiaa
