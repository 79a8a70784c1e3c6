/- The chapter's first examples. -/
import Derived.Test.YtfpgddkihlpafaaCSum
import Derived.Test.YtfpgddkihlpafaaCRow
import Derived.Lib.SlBytesConst
set_option linter.unusedVariables false
namespace Go.Proofs.Ytfpgddkihlpafaa
open Go.RowKit Go.Shelf
theorem ex16 : sum16 65535 [1, 3, 0, 0, 0, 10] = 52677 := by decide +kernel
theorem ex16n : sum16 65535 [] = 65535 := by decide +kernel
theorem ex32 : sum32 0 [49, 50, 51, 52, 53, 54, 55, 56, 57] = 3421780262 := by decide +kernel
theorem ex32n : sum32 0 [] = 0 := by decide +kernel
theorem bys_nil (n₀ : Nat) (w : World) (cap : Nat) : Bys n₀ w (.slice none 0 cap) [] := ⟨by simp, .inl ⟨rfl, none, cap, rfl⟩⟩
theorem bys_alloc (w : World) (xs : List Int) (hx : ∀ x ∈ xs, 0 ≤ x ∧ x < 256) (vs : Array Value) (hv : vs = (xs.map (Value.int .u8)).toArray) (n cap : Nat) (hn : n = xs.length) (fr : Nat × Nat) :
    Bys (w.alloc (.cells vs 5 fr)).heap.size (w.alloc (.cells vs 5 fr)) (.slice (some ⟨w.heap.size, 0, none⟩) n cap) xs := by
  subst hv hn
  refine ⟨hx, .inr ⟨w.heap.size, 0, cap, rfl, by simp, fun j hj => ?_⟩⟩
  simp only [World.cell?, World.alloc_heap_new]
  simp [List.getD, hj]
theorem alive_16 (w : World) : Calls Try.prog 10 #[.slice (some ⟨w.heap.size, 0, none⟩) 6 6] (w.alloc (.cells #[.int .u8 1, .int .u8 3, .int .u8 0, .int .u8 0, .int .u8 0, .int .u8 10] 5)) fun e w' => e = .returned (.int .u16 52677) ∧ Below w.heap.size w w' := by
  have h := sum16_any (some ⟨w.heap.size, 0, none⟩) 6 6 [1, 3, 0, 0, 0, 10] (by simp) _ (bys_alloc w [1, 3, 0, 0, 0, 10] (by simp) #[.int .u8 1, .int .u8 3, .int .u8 0, .int .u8 0, .int .u8 0, .int .u8 10] rfl 6 6 rfl (0, 0))
  rw [ex16] at h
  exact h.mono fun _ _ ⟨h1, h2⟩ => ⟨h1, ((Below.refl _ w).alloc (Nat.le_refl _) _).trans (h2.mono (by simp))⟩
theorem alive_32 (w : World) : Calls Try.prog 11 #[.slice (some ⟨w.heap.size, 0, none⟩) 9 9] (w.alloc (.cells #[.int .u8 49, .int .u8 50, .int .u8 51, .int .u8 52, .int .u8 53, .int .u8 54, .int .u8 55, .int .u8 56, .int .u8 57] 5 (9, 10))) fun e w' => e = .returned (.int .u32 3421780262) ∧ Below w.heap.size w w' := by
  have h := sum32_any (some ⟨w.heap.size, 0, none⟩) 9 9 [49, 50, 51, 52, 53, 54, 55, 56, 57] (by simp) _ (bys_alloc w [49, 50, 51, 52, 53, 54, 55, 56, 57] (by simp) #[.int .u8 49, .int .u8 50, .int .u8 51, .int .u8 52, .int .u8 53, .int .u8 54, .int .u8 55, .int .u8 56, .int .u8 57] rfl 9 9 rfl (9, 10))
  rw [ex32] at h
  exact h.mono fun _ _ ⟨h1, h2⟩ => ⟨h1, ((Below.refl _ w).alloc (Nat.le_refl _) _).trans (h2.mono (by simp))⟩
theorem nil_16 (w : World) : Calls Try.prog 10 #[.slice none 0 0] w fun e w' => e = .returned (.int .u16 65535) ∧ Below w.heap.size w w' := by
  have h := sum16_any none 0 0 [] (by simp) w (bys_nil _ _ _)
  rwa [ex16n] at h
theorem nil_32 (w : World) : Calls Try.prog 11 #[.slice none 0 0] w fun e w' => e = .returned (.int .u32 0) ∧ Below w.heap.size w w' := by
  have h := sum32_any none 0 0 [] (by simp) w (bys_nil _ _ _)
  rwa [ex32n] at h
set_option maxHeartbeats 1000000 in
theorem alive_any (w : World) :
    Calls Try.prog 4 #[] w fun e w' => e = .returned (.bool true) ∧ Below w.heap.size w w' := by
  go_enter Try.func4, Try.ntmps4
  go_wp2_with fail
  refine (alive_16 w).mono ?_
  rintro e w1 ⟨rfl, hB1⟩
  go_wp2_with fail
  refine (nil_16 w1).mono ?_
  rintro e w2 ⟨rfl, hB2⟩
  have hcv := fun (w : World) (C : Array Value) (n c : Nat) => Lib.run_convert_bytes_const (P := Try.prog) w 22 5 C n c Try.underlying22 Try.underlying5
  go_wp2_with fail
  refine (alive_32 w2).mono ?_
  rintro e w3 ⟨rfl, hB3⟩
  go_wp2_with fail
  refine (nil_32 w3).mono ?_
  rintro e w4 ⟨rfl, hB4⟩
  go_wp2
  go_ret
  exact ⟨rfl, hB1.trans ((hB2.trans ((hB3.trans (hB4.mono hB3.size)).mono hB2.size)).mono hB1.size)⟩
end Go.Proofs.Ytfpgddkihlpafaa
