/- Decimal numerals: what is parsed of a numeral is its number. -/
import Derived.Lib.AtoiAll
import Derived.Lib.ItoaMem
set_option linter.unusedVariables false
namespace Go.Proofs.YthlpigffjbhmoaaDoor
open Go.Lib
def I64 (n : Int) : Prop := -9223372036854775808 ≤ n ∧ n ≤ 9223372036854775807
theorem dig_nat (k : Nat) (h : k < 10) : (UInt8.ofNat (48 + k)).toNat = 48 + k := by
  rw [UInt8.toNat_ofNat']; omega
theorem parse_dec : ∀ (n u : Nat), u ≤ n → u < 18446744073709551616 → ∀ r, parseUint10 0 (decDigits u ++ r) = parseUint10 u r := by
  intro n
  induction n with
  | zero =>
    intro u hu _ r
    have : u = 0 := by omega
    subst this
    rw [decDigits, dif_pos (by omega)]
    simp [parseUint10]
  | succ n ih =>
    intro u hu hlt r
    by_cases h : u < 10
    · rw [decDigits, dif_pos h]
      simp only [List.cons_append, List.nil_append, parseUint10, dig_nat u h]
      rw [if_pos (by omega), if_neg (by omega), if_neg (by omega)]
      congr 1; omega
    · rw [decDigits, dif_neg h, List.append_assoc, ih (u / 10) (by omega) (by omega)]
      simp only [List.cons_append, List.nil_append, parseUint10, dig_nat (u % 10) (by omega)]
      rw [if_pos (by omega), if_neg (by omega), if_neg (by omega)]
      congr 1; omega
/-- A byte of a numeral. -/
def IsDig (c : UInt8) : Prop := 48 ≤ c.toNat ∧ c.toNat ≤ 57
theorem dec_digs : ∀ (n u : Nat), u ≤ n → decDigits u ≠ [] ∧ ∀ c ∈ decDigits u, IsDig c := by
  intro n
  induction n with
  | zero =>
    intro u hu
    have : u = 0 := by omega
    subst this
    rw [decDigits, dif_pos (by omega)]
    exact ⟨by simp, fun c hc => by simp at hc; subst hc; exact ⟨by decide, by decide⟩⟩
  | succ n ih =>
    intro u hu
    by_cases h : u < 10
    · rw [decDigits, dif_pos h]
      refine ⟨by simp, fun c hc => ?_⟩
      rw [List.mem_singleton.1 hc]
      unfold IsDig
      rw [dig_nat u h]; omega
    · rw [decDigits, dif_neg h]
      refine ⟨by simp, fun c hc => ?_⟩
      rcases List.mem_append.1 hc with hc | hc
      · exact (ih (u / 10) (by omega)).2 c hc
      · rw [List.mem_singleton.1 hc]
        unfold IsDig
        rw [dig_nat (u % 10) (by omega)]; omega
theorem dec_cons (u : Nat) : ∃ c r, decDigits u = c :: r ∧ IsDig c := by
  obtain ⟨h1, h2⟩ := dec_digs u u (Nat.le_refl _)
  cases hd : decDigits u with
  | nil => exact absurd hd h1
  | cons c r => exact ⟨c, r, rfl, h2 c (by rw [hd]; simp)⟩
theorem mag_dec (u : Nat) (h : u < 18446744073709551616) : parseMag (decDigits u) = .ok u := by
  unfold parseMag
  rw [if_neg (dec_digs u u (Nat.le_refl _)).1]
  have := parse_dec u u (Nat.le_refl _) h []
  rw [List.append_nil] at this
  rw [this]; rfl
theorem atoi_itoa {m : Int} (h : I64 m) : atoiAll (itoa m) = .ok m := by
  obtain ⟨h0, h1⟩ := h
  rcases Int.lt_or_le m 0 with hm | hm
  · obtain ⟨u, rfl⟩ : ∃ u : Nat, m = -(u : Int) := ⟨m.natAbs, by omega⟩
    rw [itoa_neg u (by omega)]
    unfold atoiAll
    simp only [show (45 : UInt8).toNat = 45 from rfl, or_true, if_true, mag_dec u (by omega)]
    simp
    omega
  · obtain ⟨u, rfl⟩ : ∃ u : Nat, m = (u : Int) := ⟨m.toNat, by omega⟩
    rw [itoa_nonneg]
    obtain ⟨c, r, hd, hc⟩ := dec_cons u
    unfold IsDig at hc
    have hm := mag_dec u (by omega)
    rw [hd] at hm ⊢
    unfold atoiAll
    have e1 : ¬ (c.toNat = 43 ∨ c.toNat = 45) := by omega
    have e2 : ¬ c.toNat = 45 := by omega
    simp only [if_neg e1, hm]
    simp [e2]
    omega
theorem itoa_inj {m n : Int} (hm : I64 m) (hn : I64 n) (h : itoa m = itoa n) : m = n := by
  have h1 := atoi_itoa hm
  rw [h, atoi_itoa hn] at h1
  injection h1 with h1
  exact h1.symm
theorem ok_i64 {l : List UInt8} {v : Int} (h : atoiAll l = .ok v) : I64 v := by
  unfold atoiAll at h
  split at h
  · cases h
  · rename_i c r
    simp only at h
    split at h
    · cases h
    · cases h
    · rename_i u hu
      split at h
      · cases h
      · split at h
        · cases h
        · injection h with h
          rw [← h]
          unfold I64
          split <;> omega
/-- The bytes of a numeral: digits, and a minus ahead. -/
theorem itoa_bytes (m : Int) : itoa m ≠ [] ∧ ∀ c ∈ itoa m, c.toNat = 45 ∨ IsDig c := by
  unfold itoa
  split
  · exact ⟨by simp, fun c hc => by
      rcases List.mem_cons.1 hc with rfl | hc
      · exact .inl rfl
      · exact .inr ((dec_digs _ _ (Nat.le_refl _)).2 c hc)⟩
  · exact ⟨(dec_digs _ _ (Nat.le_refl _)).1, fun c hc => .inr ((dec_digs _ _ (Nat.le_refl _)).2 c hc)⟩
/-- A numeral of an int64 is no longer than 20 bytes. -/
theorem dec_len : ∀ (k u : Nat), u < 10 ^ (k + 1) → (decDigits u).length ≤ k + 1 := by
  intro k
  induction k with
  | zero => intro u h; rw [decDigits, dif_pos (by simpa using h)]; simp
  | succ k ih =>
    intro u h
    by_cases h10 : u < 10
    · rw [decDigits, dif_pos h10]; simp
    · rw [decDigits, dif_neg h10]
      have := ih (u / 10) (by rw [Nat.pow_succ] at h; omega)
      simp; omega
end Go.Proofs.YthlpigffjbhmoaaDoor
