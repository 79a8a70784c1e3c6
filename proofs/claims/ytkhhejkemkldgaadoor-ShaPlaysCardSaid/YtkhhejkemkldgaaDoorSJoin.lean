/- The contract of join: the words of a state as bytes. -/
import Derived.Test.YtkhhejkemkldgaaDoorSRow
import Derived.WalkSmall
set_option linter.unusedVariables false
namespace Go.Proofs.YtkhhejkemkldgaaDoor
open Go.RowKit
theorem joined_length (s : List Nat) : (joined s).length = 32 := by simp [joined]
theorem joined_get (s : List Nat) (i : Nat) (h : i < 32) : bf (joined s) i = ((s.getD (i / 4) 0 / 2 ^ (24 - 8 * (i % 4)) % 256 : Nat) : Int) := by simp [joined, bf, List.getD, h]
theorem joined_bytes (s : List Nat) : Bytes (joined s) := fun x hx => by
  simp only [joined, List.mem_map, List.mem_range] at hx
  obtain ⟨i, _, rfl⟩ := hx
  omega
/-- The bytes of the first k words. -/
def jw (s : List Nat) (k i : Nat) : Int := if i < 4 * k then bf (joined s) i else 0
theorem jw_zero (s : List Nat) : nums .u8 32 (fun _ => 0) = nums .u8 32 (jw s 0) := nums_congr fun j _ => by simp [jw]
theorem jw_all (s : List Nat) : nums .u8 32 (jw s 8) = nums .u8 32 (bf (joined s)) := nums_congr fun j hj => by unfold jw; rw [if_pos (by omega)]
theorem jw_set (s : List Nat) (k : Nat) (x : Int) (h : k < 8) (hb : x < 4294967296) (hx : x = wf s k) : (fun i => if i = 4 * k + 3 then x % 256 else (fun i => if i = 4 * k + 2 then x / 256 % 256 else (fun i => if i = 4 * k + 1 then x / 65536 % 256 else (fun i => if i = 4 * k then x / 16777216 else jw s k i) i) i) i) = jw s (k + 1) := by
  subst hx
  funext i
  have hv := fun q (hq : q < 4) => joined_get s (4 * k + q) (by omega)
  have h0 := hv 0 (by omega); have h1 := hv 1 (by omega); have h2 := hv 2 (by omega); have h3 := hv 3 (by omega)
  rw [show (4 * k + 0) / 4 = k by omega, show (4 * k + 0) % 4 = 0 by omega, Nat.add_zero] at h0
  rw [show (4 * k + 1) / 4 = k by omega, show (4 * k + 1) % 4 = 1 by omega] at h1
  rw [show (4 * k + 2) / 4 = k by omega, show (4 * k + 2) % 4 = 2 by omega] at h2
  rw [show (4 * k + 3) / 4 = k by omega, show (4 * k + 3) % 4 = 3 by omega] at h3
  simp only [Nat.mul_zero, Nat.sub_zero, Nat.mul_one, Nat.reduceMul, Nat.reduceSub, Nat.reducePow] at h0 h1 h2 h3
  unfold wf at hb
  unfold jw wf
  dsimp only
  by_cases e3 : i = 4 * k + 3
  · subst e3; rw [if_pos rfl, if_pos (by omega), h3]; omega
  by_cases e2 : i = 4 * k + 2
  · subst e2; rw [if_neg (by omega), if_pos rfl, if_pos (by omega), h2]; omega
  by_cases e1 : i = 4 * k + 1
  · subst e1; rw [if_neg (by omega), if_neg (by omega), if_pos rfl, if_pos (by omega), h1]; omega
  by_cases e0 : i = 4 * k
  · subst e0; rw [if_neg (by omega), if_neg (by omega), if_neg (by omega), if_pos rfl, if_pos (by omega), h0]; omega
  rw [if_neg e3, if_neg e2, if_neg e1, if_neg e0]
  by_cases hl : i < 4 * k
  · rw [if_pos hl, if_pos (by omega)]
  · rw [if_neg hl, if_neg (by omega)]
set_option maxRecDepth 100000 in
set_option maxHeartbeats 1000000 in
theorem join_any (s : List Nat) (hs : Words s) (w : World) :
    Calls Tryd.prog 32 #[.agg (nums .u32 8 (wf s))] w fun e w' => e = .returned (.agg (nums .u8 32 (bf (joined s)))) ∧ Below w.heap.size w w' := by
  have hz := (zero_of_info zero_hash).1
  have HS := Lib.hid hs
  have H1 := Lib.hid (((At.new 27 w (nums .u32 8 (wf s))).alloc (.cells (nums .u8 32 fun _ => 0) 38)).alloc (.cells (nums .u8 32 fun _ => 0) 38))
  clear hs
  go_enter Tryd.func32, Tryd.ntmps32
  go_wp2_with (refine load_state H1.out rfl rfl rfl ?_)
  go_loopw [7] (fun i wr => ∃ k : Nat, k ≤ 8 ∧ i = .int .i64 k ∧ At 38 wr (w.heap.size + 1) (nums .u8 32 fun _ => 0) ∧ At 38 wr (w.heap.size + 1 + 1) (nums .u8 32 (jw s k)) ∧ Below w.heap.size w wr) (fun i _ => 8 - (intOf i).toNat)
  case atStart =>
    have b2 := (At.new 38 (w.alloc (.cells (nums .u32 8 (wf s)) 27)) (nums .u8 32 fun _ => 0)).alloc (.cells (nums .u8 32 fun _ => 0) 38)
    have b3 := At.new 38 ((w.alloc (.cells (nums .u32 8 (wf s)) 27)).alloc (.cells (nums .u8 32 fun _ => 0) 38)) (nums .u8 32 fun _ => 0)
    simp only [World.size_alloc] at b2 b3
    exact ⟨0, by omega, rfl, b2, by rw [← jw_zero]; exact b3, (((Below.refl _ w).alloc (Nat.le_refl _) _).alloc (by simp) _).alloc (by simp; omega) _⟩
  case round =>
    obtain ⟨k, hk, rfl, h2, h3, hB⟩ := hrel
    by_cases hlt : k < 8
    · have c0 := h3.num (4 * k) (by omega)
      have c1 := h3.num (4 * k + 1) (by omega)
      have c2 := h3.num (4 * k + 2) (by omega)
      have c3 := h3.num (4 * k + 3) (by omega)
      have f0 := h3.free (4 * k)
      have f1 := h3.free (4 * k + 1)
      have f2 := h3.free (4 * k + 2)
      have f3 := h3.free (4 * k + 3)
      have hi := idx_state (wf s) k hlt
      obtain ⟨x, x0, x1, ex⟩ := cast_of (HS.out k)
      rw [show wf s k = x from ex] at hi
      have J := Lib.hid (jw_set s k x hlt x1 ex.symm)
      clear ex
      have H2 := Lib.hid h2
      have H3 := Lib.hid h3
      clear h2 h3
      go_wp2
      go_roundw
      case rel =>
        have := (((H3.out.put (4 * k) (x / 16777216) (by omega)).put (4 * k + 1) (x / 65536 % 256) (by omega)).put (4 * k + 2) (x / 256 % 256) (by omega)).put (4 * k + 3) (x % 256) (by omega)
        rw [J.out] at this
        exact ⟨k + 1, by omega, by go_num, (((H2.out.other _ (by simp)).other _ (by simp)).other _ (by simp)).other _ (by simp), this, (((hB.setCell (p := ⟨w.heap.size + 1 + 1, 4 * k, none⟩) (by simp; omega) _).setCell (p := ⟨w.heap.size + 1 + 1, 4 * k + 1, none⟩) (by simp; omega) _).setCell (p := ⟨w.heap.size + 1 + 1, 4 * k + 2, none⟩) (by simp; omega) _).setCell (p := ⟨w.heap.size + 1 + 1, 4 * k + 3, none⟩) (by simp; omega) _⟩
      case measure => simp [intOf]; omega
    · rw [show jw s k = jw s 8 by rw [show k = 8 by omega], jw_all] at h3
      have H2 := Lib.hid h2
      have H3 := Lib.hid h3
      clear h2 h3
      go_wp2_with (first | (refine load_hash H3.out rfl rfl rfl ?_) | (refine store_hash H2.out rfl rfl rfl rfl ?_))
      exact bodyPost_ret (v := .agg (nums .u8 32 (bf (joined s)))) (results_hash rfl _ _ (w.heap.size + 1) _ rfl H2.out.row) rfl ⟨rfl, below_row hB (by omega) _⟩
end Go.Proofs.YtkhhejkemkldgaaDoor
