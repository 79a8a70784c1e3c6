/- The walk of the statement RegsNames. -/
import Derived.Test.YtkghiendflheiaaRUndone
set_option linter.unusedVariables false
set_option linter.unusedSimpArgs false
namespace Go.Proofs.Ytkghiendflheiaa
open Go.RowKit Go.Sort
def sABC : ByteArray := ⟨#[97, 98, 99]⟩
def sFive : ByteArray := ⟨#[97, 98, 99, 100, 101]⟩
def sNull : ByteArray := ⟨#[97, 0]⟩
theorem abc_yes : textB sABC 2 := by unfold textB; decide +kernel
theorem five_no : ¬ textB sFive 2 := by unfold textB; decide +kernel
theorem null_no : ¬ textB sNull 2 := by unfold textB; decide +kernel
theorem abc_regs : pairsL (padL sABC 2) = [24930, 25344] := by decide +kernel
theorem abc_text : strOfNums (textL [24930, 25344]) = sABC := by rw [← abc_regs, textL_pad sABC 2 abc_yes, of_strB]
theorem val_little : valL [4660] 4 = 13330 := by decide +kernel
theorem nm1 (w : World) : Calls Try.prog 13 #[.int .u64 65536, .int .i64 1, .int .i64 1] w fun e w' => ∃ a c, e = .returned (.tuple #[.slice a 0 c, .int .i64 20]) ∧ Below w.heap.size w w' :=
  (words_no1 65536 1 1 (by omega) (fun k hk hf => by unfold fitsB at hf; omega) w).mono fun e w' ⟨a, c, he, _, hb⟩ => ⟨a, c, he, hb⟩
theorem nm2 (a : Option Addr) (c : Nat) (w : World) : Calls Try.prog 14 #[.slice a 3 c, .int .i64 1] w fun e w' => e = .returned (.tuple #[.int .u64 0, .int .i64 20]) ∧ Below w.heap.size w w' := value_no1 a 3 c 1 (by decide) w
theorem nm3 (w : World) : Calls Try.prog 15 #[.int .u64 65535, .int .i64 1] w fun e w' => e = .returned (.tuple #[.int .i64 (-1), .int .i64 0]) ∧ w = w' := signed1_yes 65535 (by omega) (by omega) w
theorem nm4 (w : World) : Calls Try.prog 16 #[.int .i64 (-1), .int .i64 2] w fun e w' => e = .returned (.tuple #[.int .u64 4294967295, .int .i64 0]) ∧ w = w' := unsigned2_neg (-1) (by omega) (by omega) w
theorem nm5 (w : World) : Calls Try.prog 16 #[.int .i64 32768, .int .i64 1] w fun e w' => e = .returned (.tuple #[.int .u64 0, .int .i64 20]) ∧ w = w' := unsigned1_hi 32768 (by omega) (by omega) w
theorem nm6 (w : World) : Calls Try.prog 6 #[.string ⟨#[97, 98, 99]⟩, .int .i64 2] w fun e w' => ∃ a c, e = .returned (.tuple #[.slice a 2 c, .int .i64 0]) ∧ Own16 w.heap.size w' (.slice a 2 c) [24930, 25344] ∧ Below w.heap.size w w' := by
  have h := text_yes sABC 2 abc_yes w
  rw [abc_regs] at h
  exact h
theorem nm7 (w : World) : Calls Try.prog 6 #[.string ⟨#[97, 98, 99, 100, 101]⟩, .int .i64 2] w fun e w' => ∃ a c, e = .returned (.tuple #[.slice a 0 c, .int .i64 20]) ∧ Below w.heap.size w w' :=
  (text_no sFive 2 (fun m e h => five_no (by obtain rfl : m = 2 := by omega
                                             exact h)) w).mono fun e w' ⟨a, c, he, _, hb⟩ => ⟨a, c, he, hb⟩
theorem nm8 (w : World) : Calls Try.prog 6 #[.string ⟨#[97, 0]⟩, .int .i64 2] w fun e w' => ∃ a c, e = .returned (.tuple #[.slice a 0 c, .int .i64 20]) ∧ Below w.heap.size w w' :=
  (text_no sNull 2 (fun m e h => null_no (by obtain rfl : m = 2 := by omega
                                             exact h)) w).mono fun e w' ⟨a, c, he, _, hb⟩ => ⟨a, c, he, hb⟩
theorem nm9 (a : Option Addr) (c : Nat) (w : World) : Calls Try.prog 9 #[.slice a 1 c] w fun e w' => ∃ a c, e = .returned (.tuple #[.slice a 0 c, .int .i64 20]) ∧ Below w.heap.size w w' :=
  (from_odd a 1 c w (by decide) (by decide)).mono fun e w' ⟨a, c, he, _, hb⟩ => ⟨a, c, he, hb⟩
theorem nm10 (a : Option Addr) (c : Nat) (w : World) (hI : Bys16 w.heap.size w (.slice a 1 c) [4660]) : Calls Try.prog 14 #[.slice a 1 c, .int .i64 4] w fun e w' => e = .returned (.tuple #[.int .u64 13330, .int .i64 0]) ∧ Below w.heap.size w w' := by
  have h := value_yes a 1 c [4660] 4 (by omega) (by omega) w hI
  rw [val_little] at h
  exact h
theorem nm11 (a : Option Addr) (c : Nat) (w : World) (hI : Bys16 w.heap.size w (.slice a 2 c) [24930, 25344]) : Calls Try.prog 11 #[.slice a 2 c] w fun e w' => e = .returned (.string ⟨#[97, 98, 99]⟩) ∧ Below w.heap.size w w' := by
  have h := fromt_any a 2 c [24930, 25344] (by omega) w hI
  rw [abc_text] at h
  exact h
set_option maxRecDepth 100000 in
set_option maxHeartbeats 4000000 in
theorem names_any (w : World) : Calls Try.prog 4 #[] w fun e w' => e = .returned (.bool true) ∧ Below w.heap.size w w' := by
  obtain ⟨i0, hi, hz0, hz1, hz2⟩ := parts16
  have HI0 := Lib.hid hi
  have HZ0 := Lib.hid hz0
  have HZ1 := Lib.hid hz1
  have HZ2 := Lib.hid hz2
  clear hi hz0 hz1 hz2
  go_enter Try.func4, Try.ntmps4
  go_wp2_with fail
  refine (nm1 w).mono ?_
  rintro e w1 ⟨a1, c1, rfl, hB1⟩
  have D1 := Lib.hid hB1
  clear hB1
  go_wp2_with (at_make; refine wpList_make_full _ rfl _ _ 22 rfl w1.heap.size 33 i0 (.int .u16 0) 1 Try.underlying22 HI0.out HZ0.out HZ1.out _ _ _ _ 3 rfl rfl (by omega) (by omega) (by rw [HZ2.out]; omega) (by unfold maxLen; omega) (Nat.le_refl _) ?_; intro w2 hO2 hG2; have D2 := Lib.hid (D1.out.grown hG2 D1.out.size (fun k e => by cases e)); clear hO2 hG2)
  refine (nm2 _ _ w2).mono ?_
  rintro e w3 ⟨rfl, hB3⟩
  have D3 := Lib.hid (D2.out.trans (hB3.mono D2.out.size))
  clear hB3 D2 D1
  go_wp2_with fail
  refine (nm3 w3).mono ?_
  rintro e _ ⟨rfl, rfl⟩
  go_wp2_with fail
  refine (nm4 w3).mono ?_
  rintro e _ ⟨rfl, rfl⟩
  go_wp2_with fail
  refine (nm5 w3).mono ?_
  rintro e _ ⟨rfl, rfl⟩
  go_wp2_with fail
  refine (nm6 w3).mono ?_
  rintro e w4 ⟨at_, ct, rfl, hOT, hB4⟩
  have D4 := Lib.hid (D3.out.trans (hB4.mono D3.out.size))
  have T4 := Lib.hid hOT.bys
  clear hB4 D3 hOT
  go_wp2_with fail
  refine (nm7 w4).mono ?_
  rintro e w5 ⟨a5, c5, rfl, hB5⟩
  have D5 := Lib.hid (D4.out.trans (hB5.mono D4.out.size))
  have T5 := Lib.hid ((T4.out.below hB5).mono hB5.size)
  clear hB5 D4 T4
  go_wp2_with fail
  refine (nm8 w5).mono ?_
  rintro e w6 ⟨a6, c6, rfl, hB6⟩
  have D6 := Lib.hid (D5.out.trans (hB6.mono D5.out.size))
  have T6 := Lib.hid ((T5.out.below hB6).mono hB6.size)
  clear hB6 D5 T5
  have hal6 : Below w6.heap.size w6 (w6.alloc (.cells #[.int .u8 1] 5)) := (Below.refl _ _).alloc (Nat.le_refl _) _
  have D7 := Lib.hid (D6.out.trans (hal6.mono D6.out.size))
  have T7 := Lib.hid ((T6.out.below hal6).mono hal6.size)
  clear hal6
  go_wp2_with fail
  refine (nm9 _ _ _).mono ?_
  rintro e w8 ⟨a8, c8, rfl, hB8⟩
  have D8 := Lib.hid (D7.out.trans (hB8.mono D7.out.size))
  have T8 := Lib.hid ((T7.out.below hB8).mono hB8.size)
  clear hB8 D7 T7 D6 T6
  have hal8 : Below w8.heap.size w8 (w8.alloc (.cells #[.int .u16 4660] 33)) := (Below.refl _ _).alloc (Nat.le_refl _) _
  have D9 := Lib.hid (D8.out.trans (hal8.mono D8.out.size))
  have T9 := Lib.hid ((T8.out.below hal8).mono hal8.size)
  have hlit := bys16_alloc (T := 33) w8 [4660] (by decide) #[.int .u16 4660] rfl 1 1 rfl (0, 0)
  have HL := Lib.hid hlit
  clear hal8 hlit
  go_wp2_with fail
  refine (nm10 _ _ _ HL.out).mono ?_
  rintro e w10 ⟨rfl, hB10⟩
  have D10 := Lib.hid (D9.out.trans (hB10.mono D9.out.size))
  have T10 := Lib.hid ((T9.out.below hB10).mono hB10.size)
  clear hB10 D9 T9 D8 T8 HL
  go_wp2_with fail
  refine (alive_any w10).mono ?_
  rintro e w11 ⟨rfl, hB11⟩
  have D11 := Lib.hid (D10.out.trans (hB11.mono D10.out.size))
  have T11 := Lib.hid ((T10.out.below hB11).mono hB11.size)
  clear hB11 D10 T10
  go_wp2_with fail
  refine (als at_ ct _ _ w11 (by omega) (by omega) T11.out).mono ?_
  rintro e w12 ⟨rfl, hB12⟩
  have D12 := Lib.hid (D11.out.trans (hB12.mono D11.out.size))
  have T12 := Lib.hid ((T11.out.below hB12).mono hB12.size)
  clear hB12 D11 T11
  go_wp2_with fail
  refine (nm11 at_ ct w12 T12.out).mono ?_
  rintro e w13 ⟨rfl, hB13⟩
  have D13 := Lib.hid (D12.out.trans (hB13.mono D12.out.size))
  clear hB13 D12 T12
  go_wp2
  go_ret
  exact ⟨rfl, D13.out⟩
end Go.Proofs.Ytkghiendflheiaa
