/- The contract of expand: the words of all rounds. -/
import Derived.Test.YtkhhejkemkldgaaDoorSRow
import Derived.Deep.QuietTactic
import Derived.BigQuiet
import Derived.WalkSmall
import Derived.StillTailTactics
set_option linter.unusedVariables false
namespace Go.Proofs.YtkhhejkemkldgaaDoor
open Go.RowKit
/-- The words behind the first i bytes of a block. -/
def part (b : List Int) (q r : Nat) : Nat := match r with
  | 0 => 0
  | r + 1 => part b q r * 256 + (b.getD (4 * q + r) 0).toNat
theorem part_four (b : List Int) (q : Nat) : part b q 4 = wordAt b q := by simp [part, wordAt]
def ew (b : List Int) (i j : Nat) : Int := if 16 ≤ j then 0 else ((part b j (min 4 (i - 4 * j)) : Nat) : Int)
theorem part_lt {b : List Int} (h : Bytes b) (q r : Nat) (hr : r ≤ 3) : part b q r < 16777216 := by
  have h0 := h.get (4 * q); have h1 := h.get (4 * q + 1); have h2 := h.get (4 * q + 2)
  have : r = 0 ∨ r = 1 ∨ r = 2 ∨ r = 3 := by omega
  rcases this with rfl | rfl | rfl | rfl <;> simp only [part, Nat.add_zero] <;> omega
theorem ew_zero (b : List Int) : nums .u32 64 (fun _ => 0) = nums .u32 64 (ew b 0) := nums_congr fun j _ => by
  unfold ew; split
  · rfl
  · simp [part]
theorem ew_at (b : List Int) (i : Nat) (h : i < 64) : ew b i (i / 4) = ((part b (i / 4) (i % 4) : Nat) : Int) := by
  unfold ew; rw [if_neg (by omega), show min 4 (i - 4 * (i / 4)) = i % 4 by omega]
theorem ew_set (b : List Int) (i : Nat) (h : i < 64) : (fun j => if j = i / 4 then ((part b (i / 4) (i % 4 + 1) : Nat) : Int) else ew b i j) = ew b (i + 1) := by
  funext j
  unfold ew
  by_cases h1 : j = i / 4
  · subst h1; rw [if_pos rfl, if_neg (by omega), show min 4 (i + 1 - 4 * (i / 4)) = i % 4 + 1 by omega]
  · rw [if_neg h1]
    by_cases h2 : 16 ≤ j
    · rw [if_pos h2, if_pos h2]
    · rw [if_neg h2, if_neg h2, show min 4 (i - 4 * j) = min 4 (i + 1 - 4 * j) by omega]
theorem ew_step {b : List Int} (hb : Bytes b) (i : Nat) (h : i < 64) : bits .or .u32 ((ew b i (i / 4)) * 256) (bf b i) = ((part b (i / 4) (i % 4 + 1) : Nat) : Int) := by
  have h0 := hb.get i
  have h1 := part_lt hb (i / 4) (i % 4) (by omega)
  rw [ew_at b i h]
  change bits .or .u32 _ (b.getD i 0) = _
  rw [bits_join .u32 32 (by decide) wraps_u32 8 _ _ (by omega) (by omega) (by omega) h0.1 h0.2 (by have := h0.2; omega)]
  rw [part, show 4 * (i / 4) + i % 4 = i by omega]
  omega
/-- The first t words, the others not yet. -/
def sw (b : List Int) (t j : Nat) : Int := if j < t then wf (words b) j else 0
theorem sw_first (b : List Int) : nums .u32 64 (ew b 64) = nums .u32 64 (sw b 16) := nums_congr fun j hj => by
  unfold ew sw
  by_cases h : 16 ≤ j
  · rw [if_pos h, if_neg (by omega)]
  · rw [if_neg h, if_pos (by omega), show min 4 (64 - 4 * j) = 4 by omega, part_four, wf, words_first _ _ (by omega)]
theorem sw_last (b : List Int) : nums .u32 64 (sw b 64) = nums .u32 64 (wf (words b)) := nums_congr fun j hj => by
  unfold sw; rw [if_pos hj]
theorem sw_set (b : List Int) (t : Nat) : (fun j => if j = t then wf (words b) t else sw b t j) = sw b (t + 1) := by
  funext j
  unfold sw
  by_cases h : j = t
  · subst h; simp
  · by_cases h2 : j < t
    · simp [h, h2, show j < t + 1 by omega]
    · simp [h, h2, show ¬ j < t + 1 by omega]
theorem wf_next (b : List Int) (t : Nat) (h1 : 16 ≤ t) (h2 : t < 64) : (((low1 ((words b).getD (t - 2) 0) : Nat) : Int) + wf (words b) (t - 7) + ((low0 ((words b).getD (t - 15) 0) : Nat) : Int) + wf (words b) (t - 16)) % 4294967296 = wf (words b) t := by
  unfold wf
  rw [words_next b t h1 h2]; omega
set_option maxRecDepth 100000 in
set_option maxHeartbeats 1000000 in
theorem expand_any (b : List Int) (hb : Bytes b) (w : World) :
    Calls Tryd.prog 30 #[.agg (nums .u8 64 (bf b))] w fun e w' => e = .returned (.agg (nums .u32 64 (wf (words b)))) ∧ Below w.heap.size w w' := by
  have hz := (zero_of_info zero_schedule).1
  have HB := Lib.hid hb
  have H1 := Lib.hid (((At.new 29 w (nums .u8 64 (bf b))).alloc (.cells (nums .u32 64 fun _ => 0) 64)).alloc (.cells (nums .u32 64 fun _ => 0) 64))
  clear hb
  go_enter Tryd.func30, Tryd.ntmps30
  go_wp2_with (refine load_block H1.out rfl rfl rfl ?_)
  go_loopw [8] (fun i wr => ∃ k : Nat, k ≤ 64 ∧ i = .int .i64 k ∧ At 64 wr (w.heap.size + 1) (nums .u32 64 fun _ => 0) ∧ At 64 wr (w.heap.size + 1 + 1) (nums .u32 64 (ew b k)) ∧ Below w.heap.size w wr) (fun i _ => 64 - (intOf i).toNat)
  case atStart =>
    have b2 := (At.new 64 (w.alloc (.cells (nums .u8 64 (bf b)) 29)) (nums .u32 64 fun _ => 0)).alloc (.cells (nums .u32 64 fun _ => 0) 64)
    have b3 := At.new 64 ((w.alloc (.cells (nums .u8 64 (bf b)) 29)).alloc (.cells (nums .u32 64 fun _ => 0) 64)) (nums .u32 64 fun _ => 0)
    simp only [World.size_alloc] at b2 b3
    exact ⟨0, by omega, rfl, b2, by rw [← ew_zero]; exact b3, (((Below.refl _ w).alloc (Nat.le_refl _) _).alloc (by simp) _).alloc (by simp; omega) _⟩
  case round =>
    obtain ⟨k, hk, rfl, h2, h3, hB⟩ := hrel
    by_cases hlt : k < 64
    · have c3 := h3.num (k / 4) (by omega)
      have f3 := h3.free (k / 4)
      have hi := idx_block (bf b) k hlt
      have hs := ew_step HB.out k hlt
      have HS := Lib.hid (ew_set b k hlt)
      have hy := HB.out.get k
      change 0 ≤ bf b k ∧ bf b k < 256 at hy
      obtain ⟨y0, y1⟩ := hy
      have hx : 0 ≤ ew b k (k / 4) ∧ ew b k (k / 4) < 16777216 := by
        rw [ew_at b k hlt]; have := part_lt HB.out (k / 4) (k % 4) (by omega); omega
      obtain ⟨x0, x1⟩ := hx
      have q1 : k / 4 < 64 := by omega
      generalize ew b k (k / 4) = x at *
      generalize bf b k = y at *
      have H2 := Lib.hid h2
      have H3 := Lib.hid h3
      clear h2 h3
      go_wp2
      go_roundw
      case rel =>
        have := H3.out.put (k / 4) ((part b (k / 4) (k % 4 + 1) : Nat) : Int) (by omega)
        rw [HS.out] at this
        exact ⟨k + 1, by omega, by go_num, H2.out.other _ (by simp), this, hB.setCell (p := ⟨w.heap.size + 1 + 1, k / 4, none⟩) (by simp; omega) _⟩
      case measure => simp [intOf]; omega
    · rw [show ew b k = ew b 64 by rw [show k = 64 by omega], sw_first] at h3
      have H2 := Lib.hid h2
      have H3 := Lib.hid h3
      have HBw := Lib.hid hB
      clear h2 h3 hB
      go_wp2
      obtain ⟨wo, hwo⟩ : ∃ wo : World, wo = wr := ⟨_, rfl⟩
      rw [← hwo] at H2 H3 HBw
      rw [← hwo]
      clear hwo
      go_loopw [6] (fun i wr => ∃ t : Nat, 16 ≤ t ∧ t ≤ 64 ∧ i = .int .i64 t ∧ At 64 wr (w.heap.size + 1) (nums .u32 64 fun _ => 0) ∧ At 64 wr (w.heap.size + 1 + 1) (nums .u32 64 (sw b t)) ∧ Below w.heap.size w wr) (fun i _ => 64 - (intOf i).toNat)
      case atStart => exact ⟨16, by omega, by omega, rfl, H2.out, H3.out, HBw.out⟩
      case round =>
        obtain ⟨t, ht1, ht2, rfl, h2, h3, hB⟩ := hrel
        by_cases hlt : t < 64
        · have c2 := h3.num (t - 2) (by omega)
          have c7 := h3.num (t - 7) (by omega)
          have c15 := h3.num (t - 15) (by omega)
          have c16 := h3.num (t - 16) (by omega)
          have f3 := h3.free t
          have c0 := h3.num t hlt
          have hw := words_words HB.out
          have hc1 := fun w => low1_any _ (hw (t - 2)) w
          have hc0 := fun w => low0_any _ (hw (t - 15)) w
          obtain ⟨X2, x20, x21, e2⟩ := cast_of (hw (t - 2))
          obtain ⟨X15, x150, x151, e15⟩ := cast_of (hw (t - 15))
          obtain ⟨X7, x70, x71, e7⟩ := cast_of (hw (t - 7))
          obtain ⟨X16, x160, x161, e16⟩ := cast_of (hw (t - 16))
          obtain ⟨Y1, y10, y11, g1⟩ := cast_of (low1_lt (hw (t - 2)))
          obtain ⟨Y0, y00, y01, g0⟩ := cast_of (low0_lt (hw (t - 15)))
          have hn := wf_next b t ht1 hlt
          rw [show sw b t (t - 2) = X2 from (if_pos (by omega)).trans e2] at c2
          rw [show sw b t (t - 7) = X7 from (if_pos (by omega)).trans e7] at c7
          rw [show sw b t (t - 15) = X15 from (if_pos (by omega)).trans e15] at c15
          rw [show sw b t (t - 16) = X16 from (if_pos (by omega)).trans e16] at c16
          rw [show wf (words b) (t - 7) = X7 from e7, show wf (words b) (t - 16) = X16 from e16, g1, g0] at hn
          rw [e2, g1] at hc1
          rw [e15, g0] at hc0
          have HN := Lib.hid hn
          have HS := Lib.hid (sw_set b t)
          have H2 := Lib.hid h2
          have H3 := Lib.hid h3
          clear h2 h3 hw e2 e15 e7 e16 g1 g0 hn
          have T := Lib.hid (And.intro ht1 hlt)
          have ti : (t : Int) < 64 := by omega
          obtain ⟨t2, r2, s2, i2⟩ : ∃ t2, t - 2 = t2 ∧ IntKind.i64.wrap ((t : Int) - 2) = (t2 : Int) ∧ (t2 : Int) < 64 := ⟨t - 2, rfl, by rw [IntKind.wrap_i64]; omega, by omega⟩
          obtain ⟨t7, r7, s7, i7⟩ : ∃ t2, t - 7 = t2 ∧ IntKind.i64.wrap ((t : Int) - 7) = (t2 : Int) ∧ (t2 : Int) < 64 := ⟨t - 7, rfl, by rw [IntKind.wrap_i64]; omega, by omega⟩
          obtain ⟨t15, r15, s15, i15⟩ : ∃ t2, t - 15 = t2 ∧ IntKind.i64.wrap ((t : Int) - 15) = (t2 : Int) ∧ (t2 : Int) < 64 := ⟨t - 15, rfl, by rw [IntKind.wrap_i64]; omega, by omega⟩
          obtain ⟨t16, r16, s16, i16⟩ : ∃ t2, t - 16 = t2 ∧ IntKind.i64.wrap ((t : Int) - 16) = (t2 : Int) ∧ (t2 : Int) < 64 := ⟨t - 16, rfl, by rw [IntKind.wrap_i64]; omega, by omega⟩
          rw [r2] at c2
          rw [r7] at c7
          rw [r15] at c15
          rw [r16] at c16
          clear r2 r7 r15 r16
          go_wp2
          refine wp_region_still_tail 23 (by kernel_rfl) (by kernel_rfl) ?_
          simp only [List.take_succ_cons, List.take_zero, List.drop_succ_cons, List.drop_zero]
          repeat (refine wpStill_step (fun K hK => ?_); go_simp; (first | (refine ⟨_, (hc1 _).mono (fun _ _ h => ⟨h.1, h.2.symm⟩), hK _ ?_⟩) | (refine ⟨_, (hc0 _).mono (fun _ _ h => ⟨h.1, h.2.symm⟩), hK _ ?_⟩) | (refine hK _ ?_)); clear hK K)
          refine wpStill_nil ?_
          change wpList _ _ _ _ _ wr.drew
          have c0' : wr.drew.cell? ⟨w.heap.size + 1 + 1, t, none⟩ = some (.int .u32 (sw b t t)) := c0
          have f3' : wr.drew.frozen? ⟨w.heap.size + 1 + 1, t, none⟩ = false := f3
          have HD := Lib.hid (show At 64 wr.drew (w.heap.size + 1) _ from H2.out)
          have HE := Lib.hid (show At 64 wr.drew (w.heap.size + 1 + 1) _ from H3.out)
          have HF := Lib.hid (show Below w.heap.size w wr.drew from below_drewN hB 1)
          clear c0 f3 H2 H3 hB c2 c7 c15 c16
          generalize wr.drew = w2 at *
          clear s2 s7 s15 s16
          go_wp2
          go_roundw
          case rel =>
            have := HE.out.put t (wf (words b) t) T.out.2
            rw [HS.out] at this
            have hT := T.out
            refine ⟨t + 1, by omega, by omega, by go_num, HD.out.other _ (by simp), ?_, HF.out.setCell (p := ⟨w.heap.size + 1 + 1, t, none⟩) (by simp; omega) _⟩
            rw [HN.out]; exact this
          case measure => simp [intOf]; have := T.out; omega
        · obtain rfl : t = 64 := by omega
          rw [sw_last] at h3
          have H2 := Lib.hid h2
          have H3 := Lib.hid h3
          clear h2 h3
          go_wp2_with (first | (refine load_schedule H3.out rfl rfl rfl ?_) | (refine store_schedule H2.out rfl rfl rfl rfl ?_))
          exact bodyPost_ret (v := .agg (nums .u32 64 (wf (words b)))) (results_schedule rfl _ _ (w.heap.size + 1) _ rfl H2.out.row) rfl ⟨rfl, below_row hB (by omega) _⟩
end Go.Proofs.YtkhhejkemkldgaaDoor
