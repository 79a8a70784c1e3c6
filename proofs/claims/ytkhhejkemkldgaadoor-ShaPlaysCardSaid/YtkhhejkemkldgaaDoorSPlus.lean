/- The contract of plus: word by word. -/
import Derived.Test.YtkhhejkemkldgaaDoorSRow
import Derived.Deep.QuietTactic
import Derived.BigQuiet
import Derived.WalkSmall
set_option linter.unusedVariables false
namespace Go.Proofs.YtkhhejkemkldgaaDoor
open Go.RowKit
/-- The first k sums, then the words of a. -/
def pl (a b : List Nat) (k i : Nat) : Int := if i < k then (((a.getD i 0 + b.getD i 0) % 4294967296 : Nat) : Int) else wf a i
theorem pl_zero (a b : List Nat) : nums .u32 8 (wf a) = nums .u32 8 (pl a b 0) := nums_congr fun j _ => by simp [pl]
theorem pl_all (a b : List Nat) : nums .u32 8 (pl a b 8) = nums .u32 8 (wf (plus a b)) := nums_congr fun j hj => by rw [pl, if_pos hj, wf, plus_get _ _ _ hj]
theorem pl_set (a b : List Nat) (k : Nat) : (fun i => if i = k then (wf a k + wf b k) % 4294967296 else pl a b k i) = pl a b (k + 1) := by
  funext i
  unfold pl wf
  by_cases h : i = k
  · subst h; simp
  · by_cases h2 : i < k
    · simp [h, h2, show i < k + 1 by omega]
    · simp [h, h2, show ¬ i < k + 1 by omega]
theorem pl_at (a b : List Nat) (k : Nat) : pl a b k k = wf a k := by simp [pl]
set_option maxRecDepth 10000 in
set_option maxHeartbeats 1000000 in
theorem plus_any (a b : List Nat) (ha : Words a) (hb : Words b) (w : World) :
    Calls Tryd.prog 27 #[.agg (nums .u32 8 (wf a)), .agg (nums .u32 8 (wf b))] w fun e w' => e = .returned (.agg (nums .u32 8 (wf (plus a b)))) ∧ Below w.heap.size w w' := by
  have hz := (zero_of_info zero_state).1
  have HA := Lib.hid ha
  have HB := Lib.hid hb
  have b2 := At.new 27 (w.alloc (.cells (nums .u32 8 (wf a)) 27)) (nums .u32 8 (wf b))
  rw [World.size_alloc] at b2
  have H2 := Lib.hid (b2.alloc (.cells (nums .u32 8 fun _ => 0) 27))
  clear ha hb b2
  go_enter Tryd.func27, Tryd.ntmps27
  go_wp2_with (refine load_state H2.out rfl rfl rfl ?_)
  go_loopw [8] (fun i wr => ∃ k : Nat, k ≤ 8 ∧ i = .int .i64 k ∧ At 27 wr w.heap.size (nums .u32 8 (pl a b k)) ∧ At 27 wr (w.heap.size + 1 + 1) (nums .u32 8 fun _ => 0) ∧ Below w.heap.size w wr) (fun i _ => 8 - (intOf i).toNat)
  case atStart =>
    have b1 := At.new 27 w (nums .u32 8 (wf a))
    have b3 := At.new 27 ((w.alloc (.cells (nums .u32 8 (wf a)) 27)).alloc (.cells (nums .u32 8 (wf b)) 27)) (nums .u32 8 fun _ => 0)
    simp only [World.size_alloc] at b3
    exact ⟨0, by omega, rfl, by rw [← pl_zero]; exact (b1.alloc _).alloc _, b3, (((Below.refl _ w).alloc (Nat.le_refl _) _).alloc (by simp) _).alloc (by simp; omega) _⟩
  case round =>
    obtain ⟨k, hk, rfl, h1, h3, hB⟩ := hrel
    by_cases hlt : k < 8
    · have c1 := h1.num k hlt
      rw [pl_at] at c1
      have f1 := h1.free k
      have hi := idx_state (wf b) k hlt
      have x0 : 0 ≤ wf a k := Int.natCast_nonneg _
      have x1 : wf a k < 4294967296 := by have := HA.out k; unfold wf; omega
      have y0 : 0 ≤ wf b k := Int.natCast_nonneg _
      have y1 : wf b k < 4294967296 := by have := HB.out k; unfold wf; omega
      have H1 := Lib.hid h1
      have H3 := Lib.hid h3
      clear h1 h3
      have HS := Lib.hid (pl_set a b k)
      generalize wf a k = x at *
      generalize wf b k = y at *
      go_wp2
      go_roundw
      case rel =>
        have := H1.out.put k ((x + y) % 4294967296) hlt
        rw [HS.out] at this
        exact ⟨k + 1, by omega, by go_num, this, H3.out.other _ (by simp; omega), hB.setCell (p := ⟨w.heap.size, k, none⟩) (by simp) _⟩
      case measure => simp [intOf]; omega
    · obtain rfl : k = 8 := by omega
      rw [pl_all] at h1
      have H1 := Lib.hid h1
      have H3 := Lib.hid h3
      clear h1 h3
      go_wp2_with (first | (refine load_state H1.out rfl rfl rfl ?_) | (refine store_state H3.out rfl rfl rfl rfl ?_))
      exact bodyPost_ret (v := .agg (nums .u32 8 (wf (plus a b)))) (results_state rfl _ _ (w.heap.size + 1 + 1) _ rfl H3.out.row) rfl ⟨rfl, below_row hB (by omega) _⟩
end Go.Proofs.YtkhhejkemkldgaaDoor
