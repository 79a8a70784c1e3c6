/- How many bytes of a write a crash applies. -/
import Derived.Test.YtpcbolmidnoaiaaDSafe
import Derived.Laws.Shifts
set_option linter.unusedVariables false
set_option maxRecDepth 100000
set_option linter.unusedSimpArgs false
namespace Go.Proofs.Ytpcbolmidnoaiaa
open Go.RowKit
def crashV (a : Option Addr) (l c : Nat) (t x : Int) : Value := .agg #[.slice a l c, .int .i64 t, .int .i64 x]
theorem leftN_le (K : List Int) (t x : Int) (k : Nat) : leftN K t x k ≤ 128 := by
  unfold leftN
  split
  · omega
  · split <;> omega
theorem and_one (y : Int) (h0 : 0 ≤ y) (h1 : y < 256) : bits BinOp.and IntKind.u8 y 1 = y % 2 := by
  have e : ∀ n : Fin 256, bits BinOp.and IntKind.u8 (n.val : Int) 1 = (n.val : Int) % 2 := by decide +kernel
  have := e ⟨y.toNat, by omega⟩
  simpa [Int.toNat_of_nonneg h0] using this
theorem lt8 (r : Nat) (h : r < 8) : r = 0 ∨ r = 1 ∨ r = 2 ∨ r = 3 ∨ r = 4 ∨ r = 5 ∨ r = 6 ∨ r = 7 := by omega
theorem wrap64_nat (k : Nat) (h : k < 100000) : wrap64 (k : Int) = k := by unfold wrap64; omega
theorem bit_0 (v : Int) (h0 : 0 ≤ v) (h1 : v < 256) : (v.toNat / 2 ^ 0 % 2 = 1 ↔ (v) % 2 = 1) ∧ bits BinOp.and IntKind.u8 (v) 1 = (v) % 2 := ⟨by rw [Nat.pow_zero, Nat.div_one]; omega, and_one _ (by omega) (by omega)⟩
theorem bit_1 (v : Int) (h0 : 0 ≤ v) (h1 : v < 256) : (v.toNat / 2 ^ 1 % 2 = 1 ↔ (v / 2) % 2 = 1) ∧ bits BinOp.and IntKind.u8 (v / 2) 1 = (v / 2) % 2 := ⟨by show v.toNat / 2 % 2 = 1 ↔ _; omega, and_one _ (by omega) (by omega)⟩
theorem bit_2 (v : Int) (h0 : 0 ≤ v) (h1 : v < 256) : (v.toNat / 2 ^ 2 % 2 = 1 ↔ (v / 4) % 2 = 1) ∧ bits BinOp.and IntKind.u8 (v / 4) 1 = (v / 4) % 2 := ⟨by show v.toNat / 4 % 2 = 1 ↔ _; omega, and_one _ (by omega) (by omega)⟩
theorem bit_3 (v : Int) (h0 : 0 ≤ v) (h1 : v < 256) : (v.toNat / 2 ^ 3 % 2 = 1 ↔ (v / 8) % 2 = 1) ∧ bits BinOp.and IntKind.u8 (v / 8) 1 = (v / 8) % 2 := ⟨by show v.toNat / 8 % 2 = 1 ↔ _; omega, and_one _ (by omega) (by omega)⟩
theorem bit_4 (v : Int) (h0 : 0 ≤ v) (h1 : v < 256) : (v.toNat / 2 ^ 4 % 2 = 1 ↔ (v / 16) % 2 = 1) ∧ bits BinOp.and IntKind.u8 (v / 16) 1 = (v / 16) % 2 := ⟨by show v.toNat / 16 % 2 = 1 ↔ _; omega, and_one _ (by omega) (by omega)⟩
theorem bit_5 (v : Int) (h0 : 0 ≤ v) (h1 : v < 256) : (v.toNat / 2 ^ 5 % 2 = 1 ↔ (v / 32) % 2 = 1) ∧ bits BinOp.and IntKind.u8 (v / 32) 1 = (v / 32) % 2 := ⟨by show v.toNat / 32 % 2 = 1 ↔ _; omega, and_one _ (by omega) (by omega)⟩
theorem bit_6 (v : Int) (h0 : 0 ≤ v) (h1 : v < 256) : (v.toNat / 2 ^ 6 % 2 = 1 ↔ (v / 64) % 2 = 1) ∧ bits BinOp.and IntKind.u8 (v / 64) 1 = (v / 64) % 2 := ⟨by show v.toNat / 64 % 2 = 1 ↔ _; omega, and_one _ (by omega) (by omega)⟩
theorem bit_7 (v : Int) (h0 : 0 ≤ v) (h1 : v < 256) : (v.toNat / 2 ^ 7 % 2 = 1 ↔ (v / 128) % 2 = 1) ∧ bits BinOp.and IntKind.u8 (v / 128) 1 = (v / 128) % 2 := ⟨by show v.toNat / 128 % 2 = 1 ↔ _; omega, and_one _ (by omega) (by omega)⟩
set_option maxRecDepth 100000 in
set_option maxHeartbeats 4000000 in
theorem left_any (B : Nat) (a : Option Addr) (l c : Nat) (K : List Int) (t x : Int) (k : Nat) (hk : k < 100000) (w : World) (hK : Bys8 B w (.slice a l c) K) (hlt : B ≤ w.heap.size) :
    Calls Try.prog 41 #[crashV a l c t x, .int .i64 (k : Int)] w fun e w' => e = .returned (.int .i64 (leftN K t x k : Int)) ∧ Below w.heap.size w w' := by
  obtain rfl : l = K.length := by obtain ⟨_, _, e⟩ := hK.is; cases e; rfl
  have HB := Lib.hid ((Below.refl _ w).alloc (Nat.le_refl _) (.cells #[.slice a K.length c, .int .i64 t, .int .i64 x] 25))
  unfold leftN crashV
  by_cases h0 : (k : Int) = t
  · rw [if_pos h0]
    have HV := Lib.hid (show (((min (max x 0) 128).toNat : Nat) : Int) = min (max x 0) 128 by omega)
    subst h0
    clear hK
    go_enter Try.func41, Try.ntmps41
    go_wp2
    all_goals
      go_ret
      refine ⟨?_, HB.out⟩
      show Ending.returned (.int .i64 _) = _
      congr 2
      first | omega | (simp; omega)
  · rw [if_neg h0]
    have e0 : ((k : Int) == t) = false := by simpa using h0
    have e8 : (k : Int).tdiv 8 = ((k / 8 : Nat) : Int) := by rw [Int.tdiv_eq_ediv_of_nonneg (by omega)]; omega
    have e9 : (k : Int).tmod 8 = ((k % 8 : Nat) : Int) := by rw [Int.tmod_eq_emod_of_nonneg (by omega)]; omega
    have wq : wrap64 ((k / 8 : Nat) : Int) = ((k / 8 : Nat) : Int) := wrap64_nat _ (by omega)
    have wr : wrap64 ((k % 8 : Nat) : Int) = ((k % 8 : Nat) : Int) := wrap64_nat _ (by omega)
    by_cases h1 : k / 8 < K.length
    · obtain ⟨b, off, rfl, -, hb, hcell⟩ : ∃ b off, a = some ⟨b, off, none⟩ ∧ True ∧ b < B ∧ ∀ j, j < K.length → w.cell? ⟨b, off + j, none⟩ = some (.int .u8 (K.getD j 0)) := by
        rcases hK.2 with ⟨rfl, _⟩ | ⟨b, off, cap, e, hlt, hc⟩
        · simp at h1
        · cases e; exact ⟨b, off, rfl, trivial, hlt, hc⟩
      have hc := hcell (k / 8) h1
      have hbd := hK.bd (k / 8)
      have hc2 : (w.alloc (.cells #[.slice (some ⟨b, off, none⟩) K.length c, .int .i64 t, .int .i64 x] 25)).cell? ⟨b, off + k / 8, none⟩ = some (.int .u8 (K.getD (k / 8) 0)) := (World.cell?_alloc_lt _ _ _ (by show b < w.heap.size; omega)).trans hc
      generalize K.getD (k / 8) 0 = v at *
      have i8 : ((k / 8 : Nat) : Int) < K.length := by omega
      have i7 : ((k % 8 : Nat) : Int) < 8 := by omega
      clear hK hcell hc
      have hr8 : k % 8 < 8 := Nat.mod_lt _ (by decide)
      generalize k / 8 = q at *
      generalize k % 8 = r at *
      have v0 := hbd.1
      have v1 := hbd.2
      have hrr : r = 0 ∨ r = 1 ∨ r = 2 ∨ r = 3 ∨ r = 4 ∨ r = 5 ∨ r = 6 ∨ r = 7 := lt8 r hr8
      clear hr8 i7 hk
      rcases hrr with rfl | rfl | rfl | rfl | rfl | rfl | rfl | rfl
      · obtain ⟨hv, hb⟩ := bit_0 v v0 v1
        by_cases hbit : (v) % 2 = 1
        · rw [if_pos ⟨h1, hv.2 hbit⟩]
          have hx : (bits BinOp.and IntKind.u8 (v) 1 == 1) = true := by rw [hb, hbit]; rfl
          clear hv hb hbit h1
          go_enter Try.func41, Try.ntmps41
          go_wp2
          go_ret
          exact ⟨rfl, HB.out⟩
        · rw [if_neg (fun z => hbit (hv.1 z.2))]
          have hx : (bits BinOp.and IntKind.u8 (v) 1 == 1) = false := by rw [hb]; simpa using hbit
          clear hv hb hbit h1
          go_enter Try.func41, Try.ntmps41
          go_wp2
          go_ret
          exact ⟨rfl, HB.out⟩
      · obtain ⟨hv, hb⟩ := bit_1 v v0 v1
        by_cases hbit : (v / 2) % 2 = 1
        · rw [if_pos ⟨h1, hv.2 hbit⟩]
          have hx : (bits BinOp.and IntKind.u8 (v / 2) 1 == 1) = true := by rw [hb, hbit]; rfl
          clear hv hb hbit h1
          go_enter Try.func41, Try.ntmps41
          go_wp2
          go_ret
          exact ⟨rfl, HB.out⟩
        · rw [if_neg (fun z => hbit (hv.1 z.2))]
          have hx : (bits BinOp.and IntKind.u8 (v / 2) 1 == 1) = false := by rw [hb]; simpa using hbit
          clear hv hb hbit h1
          go_enter Try.func41, Try.ntmps41
          go_wp2
          go_ret
          exact ⟨rfl, HB.out⟩
      · obtain ⟨hv, hb⟩ := bit_2 v v0 v1
        by_cases hbit : (v / 4) % 2 = 1
        · rw [if_pos ⟨h1, hv.2 hbit⟩]
          have hx : (bits BinOp.and IntKind.u8 (v / 4) 1 == 1) = true := by rw [hb, hbit]; rfl
          clear hv hb hbit h1
          go_enter Try.func41, Try.ntmps41
          go_wp2
          go_ret
          exact ⟨rfl, HB.out⟩
        · rw [if_neg (fun z => hbit (hv.1 z.2))]
          have hx : (bits BinOp.and IntKind.u8 (v / 4) 1 == 1) = false := by rw [hb]; simpa using hbit
          clear hv hb hbit h1
          go_enter Try.func41, Try.ntmps41
          go_wp2
          go_ret
          exact ⟨rfl, HB.out⟩
      · obtain ⟨hv, hb⟩ := bit_3 v v0 v1
        by_cases hbit : (v / 8) % 2 = 1
        · rw [if_pos ⟨h1, hv.2 hbit⟩]
          have hx : (bits BinOp.and IntKind.u8 (v / 8) 1 == 1) = true := by rw [hb, hbit]; rfl
          clear hv hb hbit h1
          go_enter Try.func41, Try.ntmps41
          go_wp2
          go_ret
          exact ⟨rfl, HB.out⟩
        · rw [if_neg (fun z => hbit (hv.1 z.2))]
          have hx : (bits BinOp.and IntKind.u8 (v / 8) 1 == 1) = false := by rw [hb]; simpa using hbit
          clear hv hb hbit h1
          go_enter Try.func41, Try.ntmps41
          go_wp2
          go_ret
          exact ⟨rfl, HB.out⟩
      · obtain ⟨hv, hb⟩ := bit_4 v v0 v1
        by_cases hbit : (v / 16) % 2 = 1
        · rw [if_pos ⟨h1, hv.2 hbit⟩]
          have hx : (bits BinOp.and IntKind.u8 (v / 16) 1 == 1) = true := by rw [hb, hbit]; rfl
          clear hv hb hbit h1
          go_enter Try.func41, Try.ntmps41
          go_wp2
          go_ret
          exact ⟨rfl, HB.out⟩
        · rw [if_neg (fun z => hbit (hv.1 z.2))]
          have hx : (bits BinOp.and IntKind.u8 (v / 16) 1 == 1) = false := by rw [hb]; simpa using hbit
          clear hv hb hbit h1
          go_enter Try.func41, Try.ntmps41
          go_wp2
          go_ret
          exact ⟨rfl, HB.out⟩
      · obtain ⟨hv, hb⟩ := bit_5 v v0 v1
        by_cases hbit : (v / 32) % 2 = 1
        · rw [if_pos ⟨h1, hv.2 hbit⟩]
          have hx : (bits BinOp.and IntKind.u8 (v / 32) 1 == 1) = true := by rw [hb, hbit]; rfl
          clear hv hb hbit h1
          go_enter Try.func41, Try.ntmps41
          go_wp2
          go_ret
          exact ⟨rfl, HB.out⟩
        · rw [if_neg (fun z => hbit (hv.1 z.2))]
          have hx : (bits BinOp.and IntKind.u8 (v / 32) 1 == 1) = false := by rw [hb]; simpa using hbit
          clear hv hb hbit h1
          go_enter Try.func41, Try.ntmps41
          go_wp2
          go_ret
          exact ⟨rfl, HB.out⟩
      · obtain ⟨hv, hb⟩ := bit_6 v v0 v1
        by_cases hbit : (v / 64) % 2 = 1
        · rw [if_pos ⟨h1, hv.2 hbit⟩]
          have hx : (bits BinOp.and IntKind.u8 (v / 64) 1 == 1) = true := by rw [hb, hbit]; rfl
          clear hv hb hbit h1
          go_enter Try.func41, Try.ntmps41
          go_wp2
          go_ret
          exact ⟨rfl, HB.out⟩
        · rw [if_neg (fun z => hbit (hv.1 z.2))]
          have hx : (bits BinOp.and IntKind.u8 (v / 64) 1 == 1) = false := by rw [hb]; simpa using hbit
          clear hv hb hbit h1
          go_enter Try.func41, Try.ntmps41
          go_wp2
          go_ret
          exact ⟨rfl, HB.out⟩
      · obtain ⟨hv, hb⟩ := bit_7 v v0 v1
        by_cases hbit : (v / 128) % 2 = 1
        · rw [if_pos ⟨h1, hv.2 hbit⟩]
          have hx : (bits BinOp.and IntKind.u8 (v / 128) 1 == 1) = true := by rw [hb, hbit]; rfl
          clear hv hb hbit h1
          go_enter Try.func41, Try.ntmps41
          go_wp2
          go_ret
          exact ⟨rfl, HB.out⟩
        · rw [if_neg (fun z => hbit (hv.1 z.2))]
          have hx : (bits BinOp.and IntKind.u8 (v / 128) 1 == 1) = false := by rw [hb]; simpa using hbit
          clear hv hb hbit h1
          go_enter Try.func41, Try.ntmps41
          go_wp2
          go_ret
          exact ⟨rfl, HB.out⟩
    · rw [if_neg (fun q => h1 q.1)]
      have i8 : ¬ (((k / 8 : Nat) : Int) < K.length) := by omega
      clear hK
      generalize k / 8 = q at *
      generalize k % 8 = r at *
      go_enter Try.func41, Try.ntmps41
      go_wp2
      go_ret
      exact ⟨rfl, HB.out⟩
end Go.Proofs.Ytpcbolmidnoaiaa
