/- Contracts of the document's functions over texts: Two, Four, number. -/
import Derived.Test.YtjlejpenegjbcaaDoorKBack
import Derived.Laws.BytesArg
set_option linter.unusedVariables false
set_option linter.unusedSimpArgs false
namespace Go.Proofs.YtjlejpenegjbcaaDoor
open Go.RowKit Go.Shelf
theorem conv_two (a b : Int) (w : World) (B : Nat) (hB : w.heap[B]? = some (.cells #[.int .u8 a, .int .u8 b] 5 (0, 0))) : (convert 63 9 (.slice (some ⟨B, 0, none⟩) 2 2)).run Tryd.prog w = .ok (.string (strOfNums [a, b])) w := by
  refine run_convert_bytes_arg w 63 5 Tryd.underlying63 Tryd.underlying5 B 0 2 2 [a, b] rfl (fun i hi => ?_) 9 Tryd.underlying9
  rw [Nat.zero_add, cell_of_row w B i _ _ _ hB]
  obtain rfl | rfl : i = 0 ∨ i = 1 := by omega
  all_goals rfl
theorem two_any (n : Int) (h0 : 0 ≤ n) (h1 : n < 100) (w : World) :
    Calls Tryd.prog 26 #[.int .i64 n] w fun e w' => e = .returned (.string (strOfNums (twoL n))) ∧ Below w.heap.size w w' := by
  have hcv := conv_two (48 + n / 10 % 10) (48 + n % 10) (w.alloc (.cells #[.int .u8 (48 + n / 10 % 10), .int .u8 (48 + n % 10)] 5)) w.heap.size (heap_alloc_new w _)
  have e1 : n.tdiv 10 = n / 10 := Int.tdiv_eq_ediv_of_nonneg h0
  have e2 : (n / 10).tmod 10 = n / 10 % 10 := Int.tmod_eq_emod_of_nonneg (by omega)
  have e3 : n.tmod 10 = n % 10 := Int.tmod_eq_emod_of_nonneg h0
  have HB := Lib.hid ((Below.refl _ w).alloc (Nat.le_refl _) (.cells #[.int .u8 (48 + n / 10 % 10), .int .u8 (48 + n % 10)] 5))
  go_enter Tryd.func26, Tryd.ntmps26
  go_wp2
  go_ret
  exact ⟨rfl, HB.out⟩
theorem four_any (n : Int) (h0 : 0 ≤ n) (h1 : n < 10000) (w : World) :
    Calls Tryd.prog 25 #[.int .i64 n] w fun e w' => e = .returned (.string (strOfNums (fourL n))) ∧ Below w.heap.size w w' := by
  have ha := fun X => two_any (n / 100) (by omega) (by omega) X
  have hb := fun X => two_any (n % 100) (by omega) (by omega) X
  have e1 : n.tdiv 100 = n / 100 := Int.tdiv_eq_ediv_of_nonneg h0
  have e2 : n.tmod 100 = n % 100 := Int.tmod_eq_emod_of_nonneg h0
  have e3 : strOfNums (twoL (n / 100)) ++ strOfNums (twoL (n % 100)) = strOfNums (fourL n) := str_app _ _
  have z1 : (strOfNums (twoL (n / 100))).size = 2 := by rw [strOfNums_size]; rfl
  have z2 : (strOfNums (twoL (n % 100))).size = 2 := by rw [strOfNums_size]; rfl
  have HA := Lib.hid ha
  have HB := Lib.hid hb
  clear ha hb
  generalize hA1 : strOfNums (twoL (n / 100)) = A1 at *
  generalize hA2 : strOfNums (twoL (n % 100)) = A2 at *
  generalize hA3 : strOfNums (fourL n) = A3 at *
  clear hA1 hA2 hA3
  go_enter Tryd.func25, Tryd.ntmps25
  go_wp2_with fail
  refine (HA.out _).mono ?_
  rintro e w1 ⟨rfl, hB1⟩
  go_wp2_with fail
  refine (HB.out _).mono ?_
  rintro e w2 ⟨rfl, hB2⟩
  go_wp2
  go_ret
  exact ⟨rfl, hB1.trans (hB2.mono hB1.size)⟩
/-- What digits say. -/
def dval (xs : List Int) : Nat → Int
  | 0 => 0
  | k + 1 => dval xs k * 10 + (xs.getD k 0 - 48)
instance (x : Int) : Decidable (digit x) := by unfold digit; infer_instance
def allD (xs : List Int) : Prop := ∀ i, i < xs.length → digit (xs.getD i 0)
instance (xs : List Int) : Decidable (allD xs) := by unfold allD; infer_instance
def numR (xs : List Int) : Int := if allD xs then dval xs xs.length else -1
theorem dval_bd (xs : List Int) : ∀ k, (∀ i, i < k → digit (xs.getD i 0)) → 0 ≤ dval xs k ∧ dval xs k < 10 ^ k
  | 0, _ => ⟨by simp [dval], by simp [dval]⟩
  | k + 1, h => by
    obtain ⟨h1, h2⟩ := dval_bd xs k (fun i hi => h i (by omega))
    have := h k (by omega)
    unfold digit at this
    simp only [dval]
    rw [Int.pow_succ]
    omega
theorem pow_small {k : Nat} (h : k ≤ 9) : (10 : Int) ^ k ≤ 1000000000 := by
  obtain rfl | rfl | rfl | rfl | rfl | rfl | rfl | rfl | rfl | rfl : k = 0 ∨ k = 1 ∨ k = 2 ∨ k = 3 ∨ k = 4 ∨ k = 5 ∨ k = 6 ∨ k = 7 ∨ k = 8 ∨ k = 9 := by omega
  all_goals decide
set_option maxRecDepth 100000 in
set_option maxHeartbeats 2000000 in
theorem number_any (s : ByteArray) (hs : s.size ≤ 10) (w : World) :
    Calls Tryd.prog 43 #[.string s] w fun e w' => e = .returned (.int .i64 (numR (strB s))) ∧ w = w' := by
  have hlen := strB_length s
  have HLEN := Lib.hid hlen
  have hsz : (s.size : Int) ≤ 10 := by omega
  clear hlen hs
  go_enter Tryd.func43, Tryd.ntmps43
  go_wp2
  go_loopw [3, 4] (fun v i wr => ∃ k : Nat, k ≤ s.size ∧ i = .int .i64 k ∧ v = .int .i64 (dval (strB s) k) ∧ (∀ j, j < k → digit ((strB s).getD j 0)) ∧ w = wr) (fun _ i _ => (s.size - intOf i).toNat)
  case atStart => exact ⟨0, by omega, rfl, rfl, fun j hj => absurd hj (Nat.not_lt_zero _), rfl⟩
  case round =>
    obtain ⟨k, hk, rfl, rfl, hd, rfl⟩ := hrel
    have hbd := dval_bd (strB s) k hd
    have HD := Lib.hid hd
    by_cases hlt : k < s.size
    · have hpw := pow_small (k := k) (by omega)
      have hix := idx_str s k hlt
      have hq := bt_bd s k
      have hb1 : 0 ≤ dval (strB s) k ∧ dval (strB s) k < 1000000000 := by omega
      have hbS : bt s k = (strB s).getD k 0 := rfl
      have HBS := Lib.hid hbS
      have g1 : decide ((k : Int) < (s.size : Int)) = true := decide_eq_true (by omega)
      have hlti : (k : Int) < 10 := by omega
      obtain ⟨V, hV⟩ : ∃ V, V = dval (strB s) k := ⟨_, rfl⟩
      obtain ⟨x, hx⟩ : ∃ x, x = bt s k := ⟨_, rfl⟩
      rw [← hV] at hb1 ⊢
      rw [← hx] at hq
      simp only [← hx] at hix
      have HX := Lib.hid hx
      have HV := Lib.hid hV
      clear hd hbd hpw hbS hx hV
      by_cases d1 : 48 ≤ x
      · by_cases d2 : x ≤ 57
        · go_wp2
          go_roundw
          case rel =>
            refine ⟨k + 1, by omega, by simp, ?_, fun j hj => ?_, trivial⟩
            · simp only [dval]
              rw [← HBS.out, ← HX.out, ← HV.out]
              exact congrArg (Value.int .i64) (by omega)
            · by_cases hjk : j = k
              · subst hjk; rw [← HBS.out, ← HX.out]; exact ⟨d1, d2⟩
              · exact HD.out j (by omega)
          case measure => simp [intOf]; omega
        · go_wp2
          go_ret
          have hno : ¬ allD (strB s) := fun h => by
            have h2 := h k (by rw [HLEN.out]; exact hlt)
            rw [← HBS.out, ← HX.out] at h2
            have := h2.2; omega
          unfold numR
          rw [if_neg hno]
          exact ⟨rfl, rfl⟩
      · go_wp2
        go_ret
        have hno : ¬ allD (strB s) := fun h => by
          have h2 := h k (by rw [HLEN.out]; exact hlt)
          rw [← HBS.out, ← HX.out] at h2
          have := h2.1; omega
        unfold numR
        rw [if_neg hno]
        exact ⟨rfl, rfl⟩
    · obtain rfl : k = s.size := by omega
      clear hd hbd
      go_wp2
      go_ret
      have hyes : allD (strB s) := fun i hi => HD.out i (by rw [HLEN.out] at hi; exact hi)
      unfold numR
      rw [if_pos hyes, HLEN.out]
      exact ⟨rfl, rfl⟩
end Go.Proofs.YtjlejpenegjbcaaDoor
