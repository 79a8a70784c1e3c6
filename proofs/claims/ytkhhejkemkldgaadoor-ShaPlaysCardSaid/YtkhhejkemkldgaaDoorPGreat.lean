/- A slice of calls that came in, and the contract of great. -/
import Derived.Test.YtkhhejkemkldgaaDoorSSum
import Derived.Test.YtkhhejkemkldgaaDoorDApp
set_option linter.unusedVariables false
set_option linter.unusedSimpArgs false
namespace Go.Proofs.YtkhhejkemkldgaaDoor
open Go.RowKit Go.Shelf
/-- The calls of a slice: their kinds, and their bytes. -/
def OpsAt (n₀ : Nat) (w : World) (a : Option Addr) (len : Nat) (K : Nat → Int) (A : Nat → Option Addr) (c : Nat → Nat) (X : Nat → List Int) : Prop :=
  ∀ i, i < len → ∃ b off, a = some ⟨b, off, none⟩ ∧ b < n₀ ∧ w.cell? ⟨b, off + i * 2, none⟩ = some (.int .i64 (K i)) ∧ w.cell? ⟨b, off + i * 2 + 1, none⟩ = some (.slice (A i) (X i).length (c i)) ∧ Bys8 n₀ w (.slice (A i) (X i).length (c i)) (X i) ∧ (X i).length ≤ c i ∧ (X i).length ≤ 140737488351232
theorem OpsAt.below {n₀ : Nat} {w W : World} {a : Option Addr} {len : Nat} {K : Nat → Int} {A : Nat → Option Addr} {c : Nat → Nat} {X : Nat → List Int} (h : OpsAt n₀ w a len K A c X) (hb : Below n₀ w W) : OpsAt n₀ W a len K A c X := fun i hi => by
  obtain ⟨b, off, e, hl, h1, h2, h3, h4⟩ := h i hi
  exact ⟨b, off, e, hl, (hb.cell (p := ⟨b, off + i * 2, none⟩) hl).trans h1, (hb.cell (p := ⟨b, off + i * 2 + 1, none⟩) hl).trans h2, h3.below hb, h4⟩
def tot (X : Nat → List Int) : Nat → Nat
  | 0 => 0
  | k + 1 => tot X k + (X k).length
theorem tot_mono (X : Nat → List Int) (k n : Nat) (h : k ≤ n) : tot X k ≤ tot X n := by
  induction n with
  | zero => rw [show k = 0 by omega]; exact Nat.le_refl _
  | succ n ih =>
    by_cases e : k = n + 1
    · rw [e]; exact Nat.le_refl _
    · have := ih (by omega); show _ ≤ tot X n + (X n).length; omega
theorem tot_le (X : Nat → List Int) (k : Nat) (h : ∀ i, i < k → (X i).length ≤ 140737488351232) : tot X k ≤ k * 140737488351232 := by
  induction k with
  | zero => exact Nat.le_refl _
  | succ k ih =>
    have := ih (fun i hi => h i (by omega))
    have := h k (by omega)
    show tot X k + (X k).length ≤ _
    omega
set_option maxRecDepth 100000 in
set_option maxHeartbeats 1000000 in
theorem great_short (n₀ : Nat) (a : Option Addr) (len cap : Nat) (K : Nat → Int) (A : Nat → Option Addr) (c : Nat → Nat) (X : Nat → List Int) (hl : len ≤ 60) (w : World) (h : OpsAt n₀ w a len K A c X) :
    Calls Tryd.prog 8 #[.slice a len cap] w fun e w' => e = .returned (.bool (decide (4000 < tot X len))) ∧ w = w' := by
  have hl1 : ¬ ((60 : Int) < len) := by omega
  have HO := Lib.hid h
  have HT := Lib.hid (tot_le X)
  clear h
  go_enter Tryd.func8, Tryd.ntmps8
  go_wp2_with fail
  go_loop [3, 10] (fun v i => ∃ k : Nat, k ≤ len ∧ i = .int .i64 k ∧ v = .int .i64 (tot X k : Nat)) (fun _ i => len - (intOf i).toNat)
  case atStart => exact ⟨0, Nat.zero_le _, rfl, rfl⟩
  case round =>
    obtain ⟨k, hk, rfl, rfl⟩ := hrel
    have hb1 := HT.out k (fun i hi => (HO.out i (by omega)).elim fun _ h => h.elim fun _ h => h.2.2.2.2.2.2)
    by_cases hlt : k < len
    · have hki : (k : Int) < len := by omega
      obtain ⟨b, off, rfl, hbl, h1, h2, h3, h4, h5⟩ := HO.out k hlt
      have hts : Hid (tot X (k + 1) = tot X k + (X k).length) := Lib.hid rfl
      generalize (X k).length = m at *
      generalize tot X k = t at *
      have htb : (t : Int) + m ≤ 9000000000000000 := by omega
      have HH := Lib.hid (And.intro hk hlt)
      have H5 := Lib.hid h5
      clear hb1 h5 h3 h4 h1
      go_wp2
      go_round
      case rel => have := HH.out; exact ⟨k + 1, by omega, by go_num, by rw [hts.out]; go_num⟩
      case measure => simp [intOf]; have := HH.out; omega
    · obtain rfl : k = len := by omega
      go_wp2
      go_ret
      exact ⟨by simp; omega, rfl⟩
/-- More calls than are gone through, or more bytes. -/
theorem great_far (a : Option Addr) (len cap : Nat) (hl : 60 < len) (w : World) :
    Calls Tryd.prog 8 #[.slice a len cap] w fun e w' => e = .returned (.bool true) ∧ w = w' := by
  have hl1 : (60 : Int) < len := by omega
  go_enter Tryd.func8, Tryd.ntmps8
  go_wp2
  go_ret
  exact ⟨rfl, rfl⟩
end Go.Proofs.YtkhhejkemkldgaaDoor
