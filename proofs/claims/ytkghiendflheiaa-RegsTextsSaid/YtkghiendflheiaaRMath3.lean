/- Registers and numbers: there and back. -/
import Derived.Test.YtkghiendflheiaaRMath2
set_option linter.unusedVariables false
namespace Go.Proofs.Ytkghiendflheiaa
open Go.RowKit Go.Sort
theorem pl_pl (o : Int) (ho : o = 1 ∨ o = 2 ∨ o = 3 ∨ o = 4) (m j : Nat) (hj : j < 2 * m) : pl o (pl o j (2 * m)) (2 * m) = j := by
  rcases ho with rfl | rfl | rfl | rfl <;> simp [pl] <;> omega
theorem bytes_pairs (xs : List Int) (h : ∀ x ∈ xs, 0 ≤ x ∧ x < 256) (n : Nat) (hn : xs.length = 2 * n) : bytesL (pairsL xs) = xs := by
  induction n generalizing xs with
  | zero => rw [List.eq_nil_of_length_eq_zero (by omega : xs.length = 0)]; rfl
  | succ n ih =>
    match xs, hn, h with
    | x :: y :: l, hn, h =>
      have hx := h x (by simp)
      have hy := h y (by simp)
      have hl := ih l (fun z hz => h z (by simp [hz])) (by simp at hn; omega)
      have e : pairsL (x :: y :: l) = (x * 256 + y) :: pairsL l := by
        unfold pairsL
        rw [show (x :: y :: l).length / 2 = l.length / 2 + 1 by simp; omega, List.range_succ_eq_map]
        simp only [List.map_cons, List.map_map]
        congr 1
      rw [e]
      simp only [bytesL, List.flatMap_cons] at hl ⊢
      rw [hl]
      simp only [List.cons_append, List.nil_append]
      congr 1
      · omega
      · congr 1; omega
theorem pairs_bytes (ls : List Int) (h : ∀ x ∈ ls, 0 ≤ x ∧ x < 65536) : pairsL (bytesL ls) = ls := by
  induction ls with
  | nil => rfl
  | cons x l ih =>
    have hx := h x (by simp)
    have e : pairsL (bytesL (x :: l)) = (x / 256 * 256 + x % 256) :: pairsL (bytesL l) := by
      have hb : bytesL (x :: l) = x / 256 :: x % 256 :: bytesL l := rfl
      rw [hb]
      unfold pairsL
      rw [show (x / 256 :: x % 256 :: bytesL l).length / 2 = (bytesL l).length / 2 + 1 by simp; omega, List.range_succ_eq_map]
      simp only [List.map_cons, List.map_map]
      congr 1
    rw [e, ih (fun z hz => h z (by simp [hz]))]
    congr 1
    omega
theorem words_len (v m : Nat) (hm : m = 1 ∨ m = 2 ∨ m = 4) (o : Int) (ho : o = 1 ∨ o = 2 ∨ o = 3 ∨ o = 4) : (wordsL v m o).length = m := by
  rw [wordsL_eq v m hm o ho, pairsL_len]; simp
theorem bytes_words (v m : Nat) (hm : m = 1 ∨ m = 2 ∨ m = 4) (o : Int) (ho : o = 1 ∨ o = 2 ∨ o = 3 ∨ o = 4) : bytesL (wordsL v m o) = (List.range (2 * m)).map (fun j => byt v (8 - 2 * m + pl o j (2 * m))) := by
  rw [wordsL_eq v m hm o ho]
  refine bytes_pairs _ ?_ m (by simp)
  intro x hx
  simp only [List.mem_map, List.mem_range] at hx
  obtain ⟨j, _, rfl⟩ := hx
  exact byt_bd _ _
theorem small_byt (v m : Nat) (h : fitsB v m) (j : Nat) (hj : j < 8 - 2 * m) : byt v j = 0 := by
  have hj8 : j = 0 ∨ j = 1 ∨ j = 2 ∨ j = 3 ∨ j = 4 ∨ j = 5 := by rcases h with ⟨rfl, _⟩ | ⟨rfl, _⟩ | ⟨rfl, _⟩ <;> omega
  obtain ⟨h0, h1, h2, h3, h4, h5, _, _⟩ := bt v
  rcases h with ⟨rfl, h⟩ | ⟨rfl, h⟩ | ⟨rfl, h⟩
  · rcases hj8 with rfl | rfl | rfl | rfl | rfl | rfl
    · rw [h0]; omega
    · rw [h1]; omega
    · rw [h2]; omega
    · rw [h3]; omega
    · rw [h4]; omega
    · rw [h5]; omega
  · rcases hj8 with rfl | rfl | rfl | rfl | rfl | rfl
    · rw [h0]; omega
    · rw [h1]; omega
    · rw [h2]; omega
    · rw [h3]; omega
    · omega
    · omega
  · omega
theorem jn_byt (v : Nat) (hv : v < 18446744073709551616) : jn (byt v) 8 = v := by
  obtain ⟨h0, h1, h2, h3, h4, h5, h6, h7⟩ := bt v
  simp only [jn, h0, h1, h2, h3, h4, h5, h6, h7]
  omega
theorem fits_m {v m : Nat} (h : fitsB v m) : (m = 1 ∨ m = 2 ∨ m = 4) ∧ v < 18446744073709551616 := by
  rcases h with ⟨rfl, _⟩ | ⟨rfl, _⟩ | ⟨rfl, _⟩ <;> omega
/-- A number goes into registers and back. -/
theorem val_words (v m : Nat) (h : fitsB v m) (o : Int) (ho : o = 1 ∨ o = 2 ∨ o = 3 ∨ o = 4) : valL (wordsL v m o) o = v := by
  obtain ⟨hm, hv⟩ := fits_m h
  have e : ∀ j, j < 8 → vb (wordsL v m o) o j = byt v j := by
    intro j hj
    unfold vb
    rw [words_len v m hm o ho, bytes_words v m hm o ho]
    split
    · have hlt : j - (8 - 2 * m) < 2 * m := by omega
      have hp := pl_lt o m _ hlt
      simp only [List.getD, List.getElem?_map, List.getElem?_range hp, Option.map_some, Option.getD_some]
      rw [pl_pl o ho m _ hlt]
      congr 1; omega
    · exact (small_byt v m h j (by omega)).symm
  unfold valL
  rw [jn_congr e 8 (Nat.le_refl _), jn_byt v hv]
theorem jn_nat (f : Nat → Int) (hf : ∀ j, j < 8 → 0 ≤ f j ∧ f j < 256) : ∀ k, k ≤ 8 → ∃ V : Nat, jn f k = V := by
  intro k
  induction k with
  | zero => intro _; exact ⟨0, rfl⟩
  | succ k ih =>
    intro hk
    obtain ⟨V, hV⟩ := ih (by omega)
    have := hf k (by omega)
    exact ⟨V * 256 + (f k).toNat, by simp only [jn]; rw [hV]; omega⟩
theorem jn_div (f : Nat → Int) (hf : ∀ j, j < 8 → 0 ≤ f j ∧ f j < 256) : ∀ i k, k + i ≤ 8 → ∀ V : Nat, jn f (k + i) = V → jn f k = ((V / 256 ^ i : Nat) : Int) := by
  intro i
  induction i with
  | zero => intro k _ V hV; simpa using hV
  | succ i ih =>
    intro k hk V hV
    have h1 := ih (k + 1) (by omega) V (by rw [show k + 1 + i = k + (i + 1) by omega]; exact hV)
    have := hf k (by omega)
    simp only [jn] at h1
    rw [Nat.pow_succ, ← Nat.div_div_eq_div_mul]
    omega
theorem byt_jn (f : Nat → Int) (hf : ∀ j, j < 8 → 0 ≤ f j ∧ f j < 256) (V : Nat) (hV : jn f 8 = V) (j : Nat) (hj : j < 8) : byt V j = f j := by
  have h1 := jn_div f hf (7 - j) (j + 1) (by omega) V (by rw [show j + 1 + (7 - j) = 8 by omega]; exact hV)
  have := hf j hj
  simp only [jn] at h1
  unfold byt
  omega
theorem bytesL_bd (ls : List Int) (h : ∀ x ∈ ls, 0 ≤ x ∧ x < 65536) : ∀ y ∈ bytesL ls, 0 ≤ y ∧ y < 256 := by
  intro y hy
  simp only [bytesL, List.mem_flatMap] at hy
  obtain ⟨x, hx, he⟩ := hy
  have := h x hx
  simp at he
  rcases he with rfl | rfl <;> omega
theorem vb_bd (ls : List Int) (h : ∀ x ∈ ls, 0 ≤ x ∧ x < 65536) (o : Int) : ∀ j, j < 8 → 0 ≤ vb ls o j ∧ vb ls o j < 256 := by
  intro j hj
  unfold vb
  split
  · generalize pl o (j - (8 - 2 * ls.length)) (2 * ls.length) = i
    by_cases hi : i < (bytesL ls).length
    · exact bytesL_bd ls h _ (by simp [List.getD, hi])
    · rw [show (bytesL ls).getD i 0 = 0 by simp [List.getD, hi]]; omega
  · omega
/-- Registers say a number that goes into just these. -/
theorem words_val (ls : List Int) (h : ∀ x ∈ ls, 0 ≤ x ∧ x < 65536) (hm : ls.length = 1 ∨ ls.length = 2 ∨ ls.length = 4) (o : Int) (ho : o = 1 ∨ o = 2 ∨ o = 3 ∨ o = 4) :
    ∃ V : Nat, valL ls o = V ∧ fitsB V ls.length ∧ wordsL V ls.length o = ls := by
  obtain ⟨V, hV⟩ := jn_nat (vb ls o) (vb_bd ls h o) 8 (Nat.le_refl _)
  have hb := fun j hj => byt_jn (vb ls o) (vb_bd ls h o) V hV j hj
  refine ⟨V, hV, ?_, ?_⟩
  · have hbd := vb_bd ls h o
    have hz : ∀ j, j < 8 - 2 * ls.length → vb ls o j = 0 := fun j hj => by unfold vb; rw [if_neg (by omega)]
    have b0 := hbd 0 (by omega)
    have b1 := hbd 1 (by omega)
    have b2 := hbd 2 (by omega)
    have b3 := hbd 3 (by omega)
    have b4 := hbd 4 (by omega)
    have b5 := hbd 5 (by omega)
    have b6 := hbd 6 (by omega)
    have b7 := hbd 7 (by omega)
    simp only [jn] at hV
    unfold fitsB
    rcases hm with e | e | e
    · rw [hz 0 (by omega), hz 1 (by omega), hz 2 (by omega), hz 3 (by omega), hz 4 (by omega), hz 5 (by omega)] at hV
      left; omega
    · rw [hz 0 (by omega), hz 1 (by omega), hz 2 (by omega), hz 3 (by omega)] at hV
      right; left; omega
    · right; right; omega
  · rw [wordsL_eq V ls.length hm o ho]
    have e : (List.range (2 * ls.length)).map (fun j => byt V (8 - 2 * ls.length + pl o j (2 * ls.length))) = bytesL ls := by
      apply List.ext_getElem
      · simp [bytesL_len]
      · intro i h1 h2
        have hi : i < 2 * ls.length := by simpa using h1
        have hp := pl_lt o ls.length i hi
        simp only [List.getElem_map, List.getElem_range]
        rw [hb _ (by omega)]
        unfold vb
        rw [if_pos (by omega), Nat.add_sub_cancel_left, pl_pl o ho ls.length i hi]
        simp [List.getD, h2]
    rw [e, pairs_bytes ls h]
theorem bytes_turned (v m : Nat) (hm : m = 1 ∨ m = 2 ∨ m = 4) (k : Nat) (hk : k < 2 * m) : (bytesL (wordsL v m 4)).getD (2 * m - 1 - k) 0 = (bytesL (wordsL v m 1)).getD k 0 := by
  rw [bytes_words v m hm 4 (by omega), bytes_words v m hm 1 (by omega)]
  have h1 : 2 * m - 1 - k < 2 * m := by omega
  simp only [List.getD, List.getElem?_map, List.getElem?_range hk, List.getElem?_range h1, Option.map_some, Option.getD_some]
  congr 1
  simp [pl]
  omega
end Go.Proofs.Ytkghiendflheiaa
