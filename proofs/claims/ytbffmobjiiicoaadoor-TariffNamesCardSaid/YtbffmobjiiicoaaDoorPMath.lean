/- Costs together. -/
import Derived.Test.YtbffmobjiiicoaaDoorFMath
set_option linter.unusedVariables false
namespace Go.Proofs.YtbffmobjiiicoaaDoor
/-- The rests behind k pairs, what the k-th costs, its error, what they cost together. -/
def Fs (L : Nat → Int × Int) : Nat → (Nat → Int)
  | 0 => fun _ => 0
  | k + 1 => payF (Fs L k) 0 0 (L k).1 (L k).2
def Xs (L : Nat → Int × Int) (k : Nat) : Int := payV (Fs L k) 0 0 (L k).1 (L k).2
def Es (L : Nat → Int × Int) (k : Nat) : Int := payE (Fs L k) 0 0 (L k).1 (L k).2
def Ts (L : Nat → Int × Int) : Nat → Int
  | 0 => 0
  | k + 1 => Ts L k + Xs L k
theorem fs_rests (L : Nat → Int × Int) : ∀ k, Rests (Fs L k)
  | 0 => Rests.zero
  | k + 1 => Rests.pay (fs_rests L k) _ _ _ _
theorem xs_bounds (L : Nat → Int × Int) (k : Nat) : 0 ≤ Xs L k ∧ Xs L k ≤ 4611686018427387904 := by
  unfold Xs payV
  split
  · rename_i h
    obtain ⟨⟨_, ⟨n0, _⟩, p0, _⟩, h2⟩ := h
    refine ⟨?_, h2⟩
    have q : 0 ≤ payX (Fs L k) 0 0 (L k).1 (L k).2 := by
      unfold payX
      have := Int.mul_nonneg n0 p0
      have := (fs_rests L k (spot 0 0)).1
      omega
    omega
  · omega
theorem ts_bounds (L : Nat → Int × Int) : ∀ k, 0 ≤ Ts L k
  | 0 => Int.le_refl _
  | k + 1 => by have := ts_bounds L k; have := (xs_bounds L k).1; show 0 ≤ Ts L k + Xs L k; omega
theorem ts_mono (L : Nat → Int × Int) {k : Nat} : ∀ {n : Nat}, k ≤ n → Ts L k ≤ Ts L n
  | 0, h => by obtain rfl : k = 0 := by omega
               exact Int.le_refl _
  | n + 1, h => by
    have q := (xs_bounds L n).1
    by_cases e : k = n + 1
    · rw [e]; exact Int.le_refl _
    · have := ts_mono L (k := k) (n := n) (by omega)
      show Ts L k ≤ Ts L n + Xs L n
      omega
/-- The total that is kept. -/
def Ks (L : Nat → Int × Int) (k : Nat) : Int := if Ts L k < 4611686018427387905 then Ts L k else 4611686018427387905
theorem ks_bounds (L : Nat → Int × Int) (k : Nat) : 0 ≤ Ks L k ∧ Ks L k ≤ 4611686018427387905 := by
  have := ts_bounds L k
  unfold Ks; split <;> omega
theorem ks_step (L : Nat → Int × Int) (k : Nat) : Ks L (k + 1) = if Ks L k + Xs L k < 4611686018427387905 then Ks L k + Xs L k else 4611686018427387905 := by
  have h := ts_bounds L k
  have hx := xs_bounds L k
  unfold Ks
  rw [show Ts L (k + 1) = Ts L k + Xs L k from rfl]
  by_cases h1 : Ts L k < 4611686018427387905
  · rw [if_pos h1]
  · rw [if_neg h1, if_neg (by omega), if_neg (by omega)]
/-- What some pairs cost. -/
def CostIs (L : Nat → Int × Int) (len : Nat) (c r e : Int) : Prop :=
  (∃ k, k < len ∧ (∀ j, j < k → Es L j = 0) ∧ Es L k = e ∧ e ≠ 0 ∧ c = 0 ∧ r = 0) ∨
  ((∀ j, j < len → Es L j = 0) ∧ ((Ts L len ≤ 4611686018427387904 ∧ c = Ts L len ∧ r = Fs L len 0 ∧ e = 0) ∨ (4611686018427387904 < Ts L len ∧ c = 0 ∧ r = 0 ∧ e = 10)))
theorem CostIs.unique {L : Nat → Int × Int} {len : Nat} {c r e c' r' e' : Int} (h : CostIs L len c r e) (h' : CostIs L len c' r' e') : c = c' ∧ r = r' ∧ e = e' := by
  rcases h with ⟨k, hk, ha, he, hn, rfl, rfl⟩ | ⟨ha, h⟩ <;> rcases h' with ⟨k', hk', ha', he', hn', rfl, rfl⟩ | ⟨ha', h'⟩
  · obtain rfl : k = k' := by
      rcases Nat.lt_trichotomy k k' with q | q | q
      · exact absurd (he.symm.trans (ha' k q)) hn
      · exact q
      · exact absurd (he'.symm.trans (ha k' q)) hn'
    exact ⟨rfl, rfl, he.symm.trans he'⟩
  · exact absurd (he.symm.trans (ha' k hk)) hn
  · exact absurd (he'.symm.trans (ha k' hk')) hn'
  · rcases h with ⟨h, rfl, rfl, rfl⟩ | ⟨h, rfl, rfl, rfl⟩ <;> rcases h' with ⟨h', rfl, rfl, rfl⟩ | ⟨h', rfl, rfl, rfl⟩
    · exact ⟨rfl, rfl, rfl⟩
    · omega
    · omega
    · exact ⟨rfl, rfl, rfl⟩
end Go.Proofs.YtbffmobjiiicoaaDoor
