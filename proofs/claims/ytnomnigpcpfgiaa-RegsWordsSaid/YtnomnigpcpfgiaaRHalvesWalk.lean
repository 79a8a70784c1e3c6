/- The walk of the statement RegsHalves. -/
import Derived.Test.YtnomnigpcpfgiaaRMath2
set_option linter.unusedVariables false
namespace Go.Proofs.Ytnomnigpcpfgiaa
open Go.RowKit Go.Sort
theorem bounds_u64 {n : Int} (h : (Lit.int .u64 n).wf = true) : 0 ≤ n ∧ n < 18446744073709551616 := by
  simp [Lit.wf, IntKind.min, IntKind.max, IntKind.bits, IntKind.signed] at h; omega
theorem wd_bd (v k : Nat) : 0 ≤ wd v k ∧ wd v k < 65536 := by unfold wd; omega
theorem valueTo (a : Option Addr) (c : Nat) (ls : List Int) (m : Nat) (o : Int) (hm : m = 1 ∨ m = 2 ∨ m = 4) (ho : o = 1 ∨ o = 2 ∨ o = 3 ∨ o = 4) (r : Nat) (hr : valL ls o = r) (w : World) (hI : Bys16 w.heap.size w (.slice a m c) ls) :
    Calls Try.prog 12 #[.slice a m c, .int .i64 o] w (Num r 0 w) := by
  rw [← hr]; exact value_yes a m c ls o hm ho w hI
set_option maxRecDepth 100000 in
set_option maxHeartbeats 1000000 in
theorem halvesL_any (n : Int) (w : World) (hn : (Lit.int .u64 n).wf = true) :
    Calls Try.prog 9 #[.int .u64 n] w fun e w' => e = .returned (.bool true) ∧ Below w.heap.size w w' := by
  obtain ⟨h0, h1⟩ := bounds_u64 hn
  obtain ⟨v, rfl⟩ := Int.eq_ofNat_of_zero_le h0
  have hv : v < 18446744073709551616 := by omega
  clear h0 h1 hn
  have k1 := fun w => words_yes v 4 1 (Or.inr (Or.inr ⟨rfl, hv⟩)) (by omega) w
  have k2 := fun w => words_yes v 4 2 (Or.inr (Or.inr ⟨rfl, hv⟩)) (by omega) w
  rw [words4_big, show ((4 : Nat) : Int) = 4 from rfl] at k1
  rw [words4_swapped, show ((4 : Nat) : Int) = 4 from rfl] at k2
  have E1 := Lib.hid (vA v hv)
  have E2 := Lib.hid (vB v)
  have E3 := Lib.hid (vC v)
  have E4 := Lib.hid (vD v hv)
  have E5 := Lib.hid (vE v)
  obtain ⟨A, hA⟩ : ∃ A, v / 4294967296 = A := ⟨_, rfl⟩
  obtain ⟨B, hB⟩ : ∃ B, v % 4294967296 = B := ⟨_, rfl⟩
  obtain ⟨C, hC⟩ : ∃ C, v % 256 * 256 + v % 65536 / 256 = C := ⟨_, rfl⟩
  rw [hA] at E1 E4
  rw [hB] at E2 E3
  rw [hC] at E5
  have m1 : IntKind.u64.wrap ((A : Int) * 4294967296) = (A : Int) * 4294967296 := by rw [IntKind.wrap_u64]; omega
  have m2 : IntKind.u64.wrap ((A : Int) * 4294967296 + (B : Int)) = (v : Int) := by rw [IntKind.wrap_u64]; omega
  have m2' : (A : Int) * 4294967296 + (B : Int) = (v : Int) := by omega
  have m3 : (C : Int) < 65536 := by omega
  have m4 : (C : Int) % 256 * 256 + (C : Int) / 256 = (v : Int) % 65536 := by
    have p1 : v % 65536 = (v % 65536 / 256) * 256 + v % 256 := by omega
    have p2 : v % 65536 / 256 < 256 := by omega
    have p3 : v % 256 < 256 := by omega
    have p4 : (v : Int) % 65536 = ((v % 65536 : Nat) : Int) := by omega
    rw [p4, p1, ← hC]
    generalize v % 65536 / 256 = p at *
    generalize v % 256 = q at *
    omega
  have HA := Lib.hid hA
  have HB := Lib.hid hB
  have HC := Lib.hid hC
  clear hA hB hC
  go_enter Try.func9, Try.ntmps9
  go_wp2_with fail
  refine (alive_any w).mono ?_
  rintro e w1 ⟨rfl, h1⟩
  go_wp2_with fail
  refine (k1 w1).mono ?_
  rintro e w2 ⟨a2, c2, rfl, hO2, hB2⟩
  have h2 := h1.trans (hB2.mono h1.size)
  obtain ⟨g2, rfl, _, hg2⟩ := hO2.at_ (by simp)
  have q2 := hO2.cap
  go_wp2_with fail
  refine (k2 w2).mono ?_
  rintro e w3 ⟨a3, c3, rfl, hO3, hB3⟩
  have h3 := h2.trans (hB3.mono h2.size)
  obtain ⟨g3, rfl, _, hg3⟩ := hO3.at_ (by simp)
  have q3 := hO3.cap
  simp only [List.length_cons, List.length_nil, Nat.zero_add, Nat.reduceAdd] at q2 q3 hO2 hO3
  have hne2 : ¬ c2 = 2 := by omega
  have hne3 : ¬ c3 = 2 := by omega
  have hne23 : ¬ c2 = 3 := by omega
  have I2 := (hO2.below hB3 (Nat.le_refl _)).bys
  have I3 := hO3.bys
  have J1 := I2.take 2 (by simp)
  have J2 := I2.drop 2 (by simp) (c2 - 2)
  have J3 := I3.take 2 (by simp)
  have J4 := I3.drop 2 (by simp) (c3 - 2)
  have J5 := I2.drop 3 (by simp) (c2 - 3)
  simp only [List.take_succ_cons, List.take_zero, List.drop_succ_cons, List.drop_zero, List.length_cons, List.length_nil, Nat.zero_add, Nat.reduceAdd, Nat.reduceSub] at J1 J2 J3 J4 J5
  clear I2 I3
  go_wp2_with fail
  refine (valueTo _ _ _ 2 1 (by omega) (by omega) A E1.out w3 J1).mono ?_
  rintro e w4 ⟨rfl, hB4⟩
  have h4 := h3.trans (hB4.mono h3.size)
  go_wp2_with fail
  refine (valueTo _ _ _ 2 1 (by omega) (by omega) B E2.out w4 ((J2.below hB4).mono hB4.size)).mono ?_
  rintro e w5 ⟨rfl, hB5⟩
  have h5 := h4.trans (hB5.mono h4.size)
  have d35 := hB4.trans (hB5.mono hB4.size)
  go_wp2_with fail
  refine (valueTo _ _ _ 2 2 (by omega) (by omega) B E3.out w5 ((J3.below d35).mono d35.size)).mono ?_
  rintro e w6 ⟨rfl, hB6⟩
  have h6 := h5.trans (hB6.mono h5.size)
  have d36 := d35.trans (hB6.mono d35.size)
  go_wp2_with fail
  refine (valueTo _ _ _ 2 2 (by omega) (by omega) A E4.out w6 ((J4.below d36).mono d36.size)).mono ?_
  rintro e w7 ⟨rfl, hB7⟩
  have h7 := h6.trans (hB7.mono h6.size)
  have d37 := d36.trans (hB7.mono d36.size)
  go_wp2_with fail
  refine (valueTo _ _ _ 1 3 (by omega) (by omega) C E5.out w7 ((J5.below d37).mono d37.size)).mono ?_
  rintro e w8 ⟨rfl, hB8⟩
  have h8 := h7.trans (hB8.mono h7.size)
  go_wp2
  go_ret
  exact ⟨rfl, h8⟩
end Go.Proofs.Ytnomnigpcpfgiaa
