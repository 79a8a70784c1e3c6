/- Words: a number in registers. -/
import Derived.Test.YtkghiendflheiaaRArr
set_option linter.unusedVariables false
namespace Go.Proofs.Ytkghiendflheiaa
open Go.RowKit Go.Sort
/-- The registers of v, m of them, in the order o. -/
def wordsL (v m : Nat) (o : Int) : List Int := pairsL (arr o (tailA m (byt v))).toList
theorem byt_bd (v j : Nat) : 0 ≤ byt v j ∧ byt v j < 256 := by unfold byt; omega
/-- How many registers m may be; and how great v may be in them. -/
def fitsB (v m : Nat) : Prop := (m = 1 ∧ v < 65536) ∨ (m = 2 ∧ v < 4294967296) ∨ (m = 4 ∧ v < 18446744073709551616)
theorem fits_yes (v m : Nat) (h : fitsB v m) (w : World) : Calls Try.prog 22 #[.int .u64 v, .int .i64 m] w fun e w' => e = .returned (.bool true) ∧ w = w' := by
  rcases h with ⟨rfl, h⟩ | ⟨rfl, h⟩ | ⟨rfl, h⟩
  · exact fits1_yes v (by omega) (by omega) w
  · exact fits2_yes v (by omega) (by omega) w
  · exact fits4_yes v (by omega) (by omega) w
theorem fits_no (v : Nat) (m : Int) (hv : v < 18446744073709551616) (h : ∀ k : Nat, m = k → ¬ fitsB v k) (w : World) : Calls Try.prog 22 #[.int .u64 v, .int .i64 m] w fun e w' => e = .returned (.bool false) ∧ w = w' := by
  cases hl : lenB m with
  | false => exact fits_len_no v m hl w
  | true =>
    rcases len_yes hl with rfl | rfl | rfl
    · have := h 1 rfl
      exact fits1_no v (by omega) (by simp [fitsB] at this; omega) w
    · have := h 2 rfl
      exact fits2_no v (by omega) (by simp [fitsB] at this; omega) w
    · exact absurd (Or.inr (Or.inr ⟨rfl, hv⟩)) (h 4 rfl)
theorem words_no1 (v : Nat) (m o : Int) (hv : v < 18446744073709551616) (h : ∀ k : Nat, m = k → ¬ fitsB v k) (w : World) :
    Calls Try.prog 13 #[.int .u64 v, .int .i64 m, .int .i64 o] w (Regs [] 20 w) := by
  have hf := fits_no v m hv h w
  clear h
  go_enter Try.func13, Try.ntmps13
  go_wp2_with fail
  refine hf.mono ?_
  rintro e _ ⟨rfl, rfl⟩
  go_wp2
  exact bodyPost_ret (v := .tuple #[.slice none 0 0, .int .i64 20]) (by simp [results, Try.results13, go_sem]) rfl ⟨none, 0, rfl, Own16.nil _ _, Below.refl _ _⟩
theorem words_no2 (v m : Nat) (o : Int) (h : fitsB v m) (ho : o < 1 ∨ 4 < o) (w : World) :
    Calls Try.prog 13 #[.int .u64 v, .int .i64 m, .int .i64 o] w (Regs [] 20 w) := by
  have hf := fits_yes v m h w
  have hno := isOrder_no o ho w
  clear h
  go_enter Try.func13, Try.ntmps13
  go_wp2_with fail
  refine hf.mono ?_
  rintro e _ ⟨rfl, rfl⟩
  go_wp2_with fail
  refine hno.mono ?_
  rintro e _ ⟨rfl, rfl⟩
  go_wp2
  exact bodyPost_ret (v := .tuple #[.slice none 0 0, .int .i64 20]) (by simp [results, Try.results13, go_sem]) rfl ⟨none, 0, rfl, Own16.nil _ _, Below.refl _ _⟩
theorem oct_len : Try.prog.arrayLen 54 = 8 := by kernel_rfl
theorem oct_under : Try.prog.underlying 54 = some (.array (Try.prog.arrayLen 54) (Try.prog.elem 54)) := by kernel_rfl
theorem oct_elem (w : World) : (sizeOf (Try.prog.elem 54)).run Try.prog w = .ok 1 w := by kernel_rfl
theorem slice_oct (g m : Nat) (h1 : 1 ≤ m) (hm : 2 * m ≤ 8) (w : World) :
    (Instr.sliceAt 54 (.pointer (some ⟨g, 0, none⟩)) (some (.int .i64 ((8 - 2 * m : Nat) : Int))) none none).run Try.prog w = .ok (.slice (some ⟨g, 8 - 2 * m, none⟩) (2 * m) (2 * m)) w := by
  rw [run_sliceAt_array_l w 54 ⟨g, 0, none⟩ oct_under .i64 _ (by omega) (by rw [oct_len]; omega), oct_elem]
  simp only [Result.andThen_ok, oct_len, slicedAt, Int.toNat_natCast]
  rw [if_neg (by omega), show 8 - (8 - 2 * m) = 2 * m by omega, Nat.mul_one]
  simp only [Addr.add]
  split
  · simp_all
  · simp
set_option maxRecDepth 100000 in
set_option maxHeartbeats 1000000 in
theorem words_yes (v m : Nat) (o : Int) (h : fitsB v m) (ho : o = 1 ∨ o = 2 ∨ o = 3 ∨ o = 4) (w : World) :
    Calls Try.prog 13 #[.int .u64 v, .int .i64 m, .int .i64 o] w (Regs (wordsL v m o) 0 w) := by
  have hf := fits_yes v m h w
  have hor := isOrder_yes o ho w
  have hm8 : 2 * m ≤ 8 := by rcases h with ⟨rfl, _⟩ | ⟨rfl, _⟩ | ⟨rfl, _⟩ <;> omega
  have hv : v < 18446744073709551616 := by rcases h with ⟨_, _⟩ | ⟨_, _⟩ | ⟨_, _⟩ <;> omega
  have hsp := split_any v hv w
  have hsl := fun g => slice_oct g m (by rcases h with ⟨rfl, _⟩ | ⟨rfl, _⟩ | ⟨rfl, _⟩ <;> omega) hm8
  have hoff : (8 : Int) - 2 * (m : Int) = ((8 - 2 * m : Nat) : Int) := by omega
  have HO := Lib.hid ho
  have HM := Lib.hid h
  have hm124 : Hid (m = 1 ∨ m = 2 ∨ m = 4) := Lib.hid (by rcases h with ⟨rfl, _⟩ | ⟨rfl, _⟩ | ⟨rfl, _⟩ <;> omega)
  clear ho h hv
  go_enter Try.func13, Try.ntmps13
  go_wp2_with fail
  refine hf.mono ?_
  rintro e _ ⟨rfl, rfl⟩
  go_wp2_with fail
  refine hor.mono ?_
  rintro e _ ⟨rfl, rfl⟩
  go_wp2_with fail
  refine hsp.mono ?_
  rintro e w1 ⟨rfl, hB1⟩
  have hA0 : At 54 (w1.alloc (.cells (oct (fun _ => 0)) 54)) w1.heap.size (oct (fun _ => 0)) := At.new _ _ _
  go_wp2_with (refine store_oct hA0 rfl rfl rfl rfl ?_)
  have hA1 : At 54 ((w1.alloc (.cells (oct (fun _ => 0)) 54)).setRow w1.heap.size (oct (byt v))) w1.heap.size (oct (byt v)) := hA0.row
  have hB2 : Below w.heap.size w ((w1.alloc (.cells (oct (fun _ => 0)) 54)).setRow w1.heap.size (oct (byt v))) := below_row (hB1.alloc hB1.size _) hB1.size _
  refine (arrange_tail o HO.out m w1.heap.size (2 * m) hm8 (byt v) _ hA1).mono ?_
  rintro e w3 ⟨rfl, hA3, hB3⟩
  have hB3' := hB2.trans (hB3.mono hB1.size)
  have hbt := bys_tail (cap := 2 * m) hA3 hm8 (putF_bd m hm124.out o HO.out _ _ (fun j _ => byt_bd v j) (fun j _ => byt_bd v j))
  rw [tail_putF m hm8 _ (by rw [size_arr, tailA_size])] at hbt
  have hfr := from_even _ _ _ _ m rfl (by omega) w3 hbt
  go_wp2_with fail
  refine hfr.mono ?_
  rintro e w4 ⟨a4, c4, rfl, hO4, hB4⟩
  go_wp2
  exact bodyPost_ret (v := .tuple #[.slice a4 (wordsL v m o).length c4, .int .i64 0]) (by simp [results, Try.results13, go_sem, wordsL]) rfl ⟨a4, c4, rfl, hO4.le hB3'.size, hB3'.trans (hB4.mono hB3'.size)⟩
end Go.Proofs.Ytkghiendflheiaa
