/- The walk of the statement CrcNames. -/
import Derived.Test.YthcijpfpkainhaaCOpen16
import Derived.Test.YthcijpfpkainhaaCOpen32
set_option linter.unusedVariables false
namespace Go.Proofs.Ythcijpfpkainhaa
open Go.RowKit Go.Shelf
theorem n16 : seal16 [1, 3, 0, 0, 0, 10] = [1, 3, 0, 0, 0, 10, 197, 205] := by decide +kernel
theorem n16n : seal16 [] = [255, 255] := by decide +kernel
theorem n32n : seal32 [] = [0, 0, 0, 0] := by decide +kernel
theorem str8 : strOfNums [1, 3, 0, 0, 0, 10, 197, 205] = ⟨#[1, 3, 0, 0, 0, 10, 197, 205]⟩ := by decide +kernel
theorem str4 : strOfNums [0, 0, 0, 0] = ⟨#[0, 0, 0, 0]⟩ := by decide +kernel
theorem below_new {w w' : World} {o : Obj} (h : Below (w.alloc o).heap.size (w.alloc o) w') : Below w.heap.size w w' :=
  ((Below.refl _ w).alloc (Nat.le_refl _) _).trans (h.mono (by simp))
theorem names_s (w : World) : Calls Try.prog 16 #[.slice (some ⟨w.heap.size, 0, none⟩) 6 6] (w.alloc (.cells #[.int .u8 1, .int .u8 3, .int .u8 0, .int .u8 0, .int .u8 0, .int .u8 10] 5)) (Made [1, 3, 0, 0, 0, 10, 197, 205] w) := by
  have h := seal16_any (some ⟨w.heap.size, 0, none⟩) 6 6 [1, 3, 0, 0, 0, 10] _ (bys_alloc w [1, 3, 0, 0, 0, 10] (by simp) #[.int .u8 1, .int .u8 3, .int .u8 0, .int .u8 0, .int .u8 0, .int .u8 10] rfl 6 6 rfl (0, 0)) (by simp)
  rw [n16] at h
  exact h.mono fun e w' hM => hM.lift ((Below.refl _ w).alloc (Nat.le_refl _) _)
theorem names_t (w : World) : Calls Try.prog 17 #[.slice none 0 0] w (Made [0, 0, 0, 0] w) := by
  have h := seal32_any none 0 0 [] w (bys_nil _ _ _) (by simp)
  rwa [n32n] at h
theorem names_1 (w : World) (a : Option Addr) (n c : Nat) (o : Obj) (hn : n < 2) : Calls Try.prog 19 #[.slice a n c] (w.alloc o) (Shuts16 w) :=
  (Open16_short a n c _ hn).mono fun e w' ⟨h, hb⟩ => ⟨h, below_new hb⟩
theorem names_4 (w : World) (a : Option Addr) (n c : Nat) (o : Obj) (hn : n < 4) : Calls Try.prog 21 #[.slice a n c] (w.alloc o) (Shuts32 w) :=
  (Open32_short a n c _ hn).mono fun e w' ⟨h, hb⟩ => ⟨h, below_new hb⟩
theorem names_2 (w : World) : Calls Try.prog 19 #[.slice (some ⟨w.heap.size, 0, none⟩) 2 2] (w.alloc (.cells #[.int .u8 255, .int .u8 255] 5)) (fun e w' => ∃ a c, e = .returned (.tuple #[.slice a 0 c, .int .i64 0]) ∧ Below w.heap.size w w') := by
  have hb := bys_alloc w [255, 255] (by simp) #[.int .u8 255, .int .u8 255] rfl 2 2 rfl (0, 0)
  rw [← n16n] at hb
  have h := Open16_yes (some ⟨w.heap.size, 0, none⟩) 2 [] _ hb (by simp) (by simp)
  exact h.mono fun e w' ⟨a, c, he, _, hB⟩ => ⟨a, c, he, below_new hB⟩
theorem names_5 (w : World) (a : Option Addr) (c : Nat) (hO : Own 0 w (.slice a 4 c) [0, 0, 0, 0]) : Calls Try.prog 21 #[.slice a 4 c] w (fun e w' => ∃ a c, e = .returned (.tuple #[.slice a 0 c, .int .i64 0]) ∧ Below w.heap.size w w') := by
  have hb := hO.bys
  have hc := hO.cap
  rw [← n32n] at hb
  have h := Open32_yes a c [] w hb hc (by simp)
  exact h.mono fun e w' ⟨a, c, he, _, hB⟩ => ⟨a, c, he, hB⟩
set_option maxRecDepth 100000 in
set_option maxHeartbeats 1000000 in
theorem names_any (w : World) :
    Calls Try.prog 5 #[] w fun e w' => e = .returned (.bool true) ∧ Below w.heap.size w w' := by
  go_enter Try.func5, Try.ntmps5
  go_wp2_with fail
  refine (names_s w).mono ?_
  rintro e w1 ⟨a1, c1, rfl, hO1, h1⟩
  go_wp2_with fail
  refine (names_t w1).mono ?_
  rintro e w2 ⟨a2, c2, rfl, hO2, hB2⟩
  have h2 := h1.trans (hB2.mono h1.size)
  go_wp2_with fail
  refine (names_1 w2 _ _ _ _ (by decide)).mono ?_
  rintro e w3 ⟨rfl, hB3⟩
  have h3 := h2.trans (hB3.mono h2.size)
  have d3 := hO2.below hB3 (Nat.le_refl _)
  go_wp2_with fail
  refine (names_2 w3).mono ?_
  rintro e w4 ⟨a4, c4, rfl, hB4⟩
  have h4 := h3.trans (hB4.mono h3.size)
  have d4 := d3.below hB4 (Nat.le_refl _)
  go_wp2_with fail
  refine (Open16_short none 0 0 w4 (by decide)).mono ?_
  rintro e w5 ⟨rfl, hB5⟩
  have h5 := h4.trans (hB5.mono h4.size)
  have d5 := d4.below hB5 (Nat.le_refl _)
  go_wp2_with fail
  refine (names_4 w5 _ _ _ _ (by decide)).mono ?_
  rintro e w6 ⟨rfl, hB6⟩
  have h6 := h5.trans (hB6.mono h5.size)
  have d6 := d5.below hB6 (Nat.le_refl _)
  go_wp2_with fail
  refine (names_5 w6 a2 c2 (d6.le (Nat.zero_le _))).mono ?_
  rintro e w7 ⟨a7, c7, rfl, hB7⟩
  have h7 := h6.trans (hB7.mono h6.size)
  have d7 := d6.below hB7 (Nat.le_refl _)
  go_wp2_with fail
  refine (alive_any w7).mono ?_
  rintro e w8 ⟨rfl, hB8⟩
  have h8 := h7.trans (hB8.mono h7.size)
  have d8 := d7.below hB8 (Nat.le_refl _)
  have e8 := ((((((hO1.below hB2 (Nat.le_refl _)).below hB3 (Nat.le_refl _)).below hB4 (Nat.le_refl _)).below hB5 (Nat.le_refl _)).below hB6 (Nat.le_refl _)).below hB7 (Nat.le_refl _)).below hB8 (Nat.le_refl _)
  have cs := conv_bys e8.bys
  have ct := conv_bys d8.bys
  rw [str8] at cs
  rw [str4] at ct
  simp only [List.length_cons, List.length_nil, Nat.zero_add, Nat.reduceAdd] at cs ct
  go_wp2
  go_ret
  exact ⟨rfl, h8⟩
end Go.Proofs.Ythcijpfpkainhaa
