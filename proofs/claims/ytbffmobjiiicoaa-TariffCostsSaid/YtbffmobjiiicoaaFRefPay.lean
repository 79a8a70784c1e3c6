/- The document's Pay and Back. -/
import Derived.Test.YtbffmobjiiicoaaFPay
import Derived.Test.YtbffmobjiiicoaaFRefCarry
set_option linter.unusedVariables false
set_option linter.unusedSimpArgs false
namespace Go.Proofs.Ytbffmobjiiicoaa
open Go.RowKit
theorem lt_cases {P : Prop} (n lo hi : Int) (h1 : n < lo → P) (h2 : ¬ n < lo → hi < n → P) (h3 : ¬ n < lo → ¬ hi < n → P) : P := by
  by_cases a : n < lo
  · exact h1 a
  · by_cases b : hi < n
    · exact h2 a b
    · exact h3 a b
section
variable (B : Nat) (f : Nat → Int) (m b n p : Int) (w : World)
theorem rpay_refused (h : ¬ PayArg m b n p) :
    Calls Try.prog 6 #[.pointer (some ⟨B, 0, none⟩), .int .i64 m, .int .i64 b, .int .i64 n, .int .i64 p] w fun e w' => e = .returned (.tuple #[.int .i64 0, .int .i64 2]) ∧ w = w' := by
  have hc : (decide (m < 0) = true) ∨ (decide (m < 0) = false ∧ decide (63 < m) = true) ∨ (decide (m < 0) = false ∧ decide (63 < m) = false ∧ decide (b < 0) = true) ∨ (decide (m < 0) = false ∧ decide (63 < m) = false ∧ decide (b < 0) = false ∧ decide (7 < b) = true) ∨
      (decide (m < 0) = false ∧ decide (63 < m) = false ∧ decide (b < 0) = false ∧ decide (7 < b) = false ∧ decide (n < 0) = true) ∨ (decide (m < 0) = false ∧ decide (63 < m) = false ∧ decide (b < 0) = false ∧ decide (7 < b) = false ∧ decide (n < 0) = false ∧ decide (4611686018427387904 < n) = true) ∨
      (decide (m < 0) = false ∧ decide (63 < m) = false ∧ decide (b < 0) = false ∧ decide (7 < b) = false ∧ decide (n < 0) = false ∧ decide (4611686018427387904 < n) = false ∧ decide (p < 0) = true) ∨
      (decide (m < 0) = false ∧ decide (63 < m) = false ∧ decide (b < 0) = false ∧ decide (7 < b) = false ∧ decide (n < 0) = false ∧ decide (4611686018427387904 < n) = false ∧ decide (p < 0) = false ∧ decide (1073741824 < p) = true) := by
    simp only [decide_eq_false_iff_not, decide_eq_true_eq]
    unfold PayArg Place at h
    omega
  clear h
  rcases hc with e1 | ⟨e1, e2⟩ | ⟨e1, e2, e3⟩ | ⟨e1, e2, e3, e4⟩ | ⟨e1, e2, e3, e4, e5⟩ | ⟨e1, e2, e3, e4, e5, e6⟩ | ⟨e1, e2, e3, e4, e5, e6, e7⟩ | ⟨e1, e2, e3, e4, e5, e6, e7, e8⟩
  all_goals
    go_enter Try.func6, Try.ntmps6
    go_wp2
    go_ret2
    exact ⟨rfl, rfl⟩
end
theorem rpay_walk (B : Nat) (f : Nat → Int) (m b : Nat) (n p r : Nat) (w : World) (hm : m ≤ 63) (hb : b ≤ 7) (hn : n ≤ 4611686018427387904) (hp : p ≤ 1073741824) (hP : PAt 30 w B f) (hr : f (m * 8 + b) = (r : Int)) (hr0 : r < 1000000)
    (Q R : Nat) (E : Int) (HC : ∀ w, Calls Try.prog 16 #[.int .u64 n, .int .u64 p, .int .u64 1000000, .int .u64 r] w fun e w' => e = .returned (.tuple #[.int .u64 (Q : Int), .int .u64 (R : Int), .int .i64 E]) ∧ Below w.heap.size w w')
    (hc : (E = 0 ∧ Q ≤ 4611686018427387904 ∧ R < 1000000) ∨ (E = 0 ∧ 4611686018427387904 < Q ∧ Q < 18446744073709551616) ∨ E = 10) :
    Calls Try.prog 6 #[.pointer (some ⟨B, 0, none⟩), .int .i64 m, .int .i64 b, .int .i64 n, .int .i64 p] w fun e w' =>
      (CY E Q R → e = .returned (.tuple #[.int .i64 (Q : Int), .int .i64 0]) ∧ PAt 30 w' B (upd f (m * 8 + b) (R : Int)) ∧ w.grownBy w' (some B)) ∧
      (¬ CY E Q R → e = .returned (.tuple #[.int .i64 0, .int .i64 10]) ∧ PAt 30 w' B f ∧ w.grownBy w' (some B)) := by
  have e1 : decide ((m : Int) < 0) = false := by simp
  have e2 : decide (63 < (m : Int)) = false := by simp; omega
  have e3 : decide ((b : Int) < 0) = false := by simp
  have e4 : decide (7 < (b : Int)) = false := by simp; omega
  have e5 : decide ((n : Int) < 0) = false := by simp
  have e6 : decide (4611686018427387904 < (n : Int)) = false := by simp; omega
  have e7 : decide ((p : Int) < 0) = false := by simp
  have e8 : decide (1073741824 < (p : Int)) = false := by simp; omega
  have hcell := hP.cell (k := m * 8 + b) (by omega)
  rw [hr] at hcell
  have HP := Lib.hid hP
  have HCC := Lib.hid HC
  have HK := Lib.hid hc
  have wn : IntKind.u64.wrap (n : Int) = (n : Int) := by rw [IntKind.wrap_u64]; omega
  have wp : IntKind.u64.wrap (p : Int) = (p : Int) := by rw [IntKind.wrap_u64]; omega
  have wr : IntKind.u64.wrap (r : Int) = (r : Int) := by rw [IntKind.wrap_u64]; omega
  have i1 : (m : Int) < 64 := by omega
  have i2 : (b : Int) < 8 := by omega
  have HI := Lib.hid (And.intro hm hb)
  clear hP HC hc hm hb hn hp hr hr0
  go_enter Try.func6, Try.ntmps6
  go_wp2_with fail
  refine (HCC.out _).mono ?_
  rintro e w1 ⟨rfl, hB⟩
  have h1 := HP.out.next hB
  have hg : w.grownBy w1 (some B) := grown_below hB
  have hf := h1.free (m * 8 + b)
  have hc1 : ∃ x, w1.cell? ⟨B, m * 8 + b, none⟩ = some x := ⟨_, h1.cell (by have := HI.out; omega)⟩
  obtain ⟨x, hx⟩ := hc1
  have G1 := Lib.hid h1
  have GG := Lib.hid hg
  clear hB h1 hg hcell
  rcases HK.out with ⟨e1, e2, e3⟩ | ⟨e1, e2, e3⟩ | e1
  · subst e1
    have cE : decide ((4611686018427387904 : Int) < (Q : Int)) = false := by simp; omega
    have wR : wrap64 (R : Int) = (R : Int) := by unfold wrap64; omega
    have wQ : wrap64 (Q : Int) = (Q : Int) := by unfold wrap64; omega
    have HE := Lib.hid (And.intro e2 e3)
    clear e2 e3
    go_wp2
    go_ret2
    have HS := G1.out.set (k := m * 8 + b) (by have := HI.out; omega) (R : Int)
    exact ⟨fun _ => ⟨(show Ending.returned (.tuple #[.int .i64 (wrap64 (Q : Int)), .int .i64 0]) = _ by rw [wQ]), HS, grown_set GG.out _ _⟩, fun h => absurd ⟨rfl, HE.out.1, HE.out.2⟩ h⟩
  · subst e1
    have cE : decide ((4611686018427387904 : Int) < (Q : Int)) = true := by simp; omega
    have HE := Lib.hid e2
    clear e2 e3
    go_wp2
    go_ret2
    exact ⟨fun h => absurd h.2.1 (by have := HE.out; omega), fun _ => ⟨rfl, G1.out, GG.out⟩⟩
  · subst e1
    go_wp2
    go_ret2
    exact ⟨fun h => absurd h.1 (by decide), fun _ => ⟨rfl, G1.out, GG.out⟩⟩
/-- The document's paying. -/
theorem rpay_any (B : Nat) (f : Nat → Int) (m b n p : Int) (w : World) (hP : PAt 30 w B f) (hf : Rests f) :
    Calls Try.prog 6 #[.pointer (some ⟨B, 0, none⟩), .int .i64 m, .int .i64 b, .int .i64 n, .int .i64 p] w fun e w' =>
      e = .returned (.tuple #[.int .i64 (payV f m b n p), .int .i64 (payE f m b n p)]) ∧ PAt 30 w' B (payF f m b n p) ∧ w.grownBy w' (some B) := by
  by_cases ha : PayArg m b n p
  · obtain ⟨⟨⟨m0, m1⟩, b0, b1⟩, ⟨n0, n1⟩, p0, p1⟩ := id ha
    obtain ⟨m, rfl⟩ := Int.eq_ofNat_of_zero_le m0
    obtain ⟨b, rfl⟩ := Int.eq_ofNat_of_zero_le b0
    obtain ⟨n, rfl⟩ := Int.eq_ofNat_of_zero_le n0
    obtain ⟨p, rfl⟩ := Int.eq_ofNat_of_zero_le p0
    obtain ⟨r0, r1⟩ := hf (m * 8 + b)
    obtain ⟨r, hr⟩ := Int.eq_ofNat_of_zero_le r0
    have hX : payX f m b n p = ((n * p + r : Nat) : Int) := by unfold payX; rw [spot_nat, hr]; simp
    have k := rpay_walk B f m b n p r w (by omega) (by omega) (by omega) (by omega) hP hr (by omega) _ _ _ (fun w => rcarry_any n p r (by omega) (by omega) (by omega) w) (by
      by_cases hq : (n * p + r) / 1000000 < 18446744073709551616
      · rw [(c_in hq).1, (c_in hq).2.1, (c_in hq).2.2]
        have := Nat.mod_lt (n * p + r) (show 0 < 1000000 by decide)
        by_cases h2 : (n * p + r) / 1000000 ≤ 4611686018427387904
        · exact .inl ⟨rfl, h2, this⟩
        · exact .inr (.inl ⟨rfl, by omega, hq⟩)
      · exact .inr (.inr (c_out hq).2.2))
    refine k.mono fun e w' ⟨k1, k2⟩ => ?_
    by_cases h2 : (n * p + r) / 1000000 ≤ 4611686018427387904
    · have hq : (n * p + r) / 1000000 < 18446744073709551616 := by omega
      rw [(c_in hq).1, (c_in hq).2.1, (c_in hq).2.2] at k1
      obtain ⟨e1, e2, e3⟩ := pay_yes (f := f) (m := m) (b := b) (n := n) (p := p) ⟨ha, by rw [hX]; omega⟩
      rw [e1, e2, e3, hX, spot_nat]
      exact k1 ⟨rfl, h2, Nat.mod_lt _ (by decide)⟩
    · obtain ⟨e1, e2, e3⟩ := pay_over (f := f) ha (by rw [hX]; omega)
      rw [e1, e2, e3]
      refine k2 fun hc => h2 ?_
      by_cases hq : (n * p + r) / 1000000 < 18446744073709551616
      · have := hc.2.1; rwa [(c_in hq).1] at this
      · have := hc.1; rw [(c_out hq).2.2] at this; exact absurd this (by decide)
  · obtain ⟨e1, e2, e3⟩ := pay_no (f := f) ha
    rw [e1, e2, e3]
    exact (rpay_refused B m b n p w ha).mono fun e w' ⟨h1, h2⟩ => ⟨h1, h2 ▸ hP, h2 ▸ grown_refl _ _⟩
section
variable (B : Nat) (f : Nat → Int) (m b r : Int) (w : World)
theorem rback_refused (h : ¬ BackIs m b r) :
    Calls Try.prog 8 #[.pointer (some ⟨B, 0, none⟩), .int .i64 m, .int .i64 b, .int .i64 r] w fun e w' => e = .returned (.int .i64 2) ∧ w = w' := by
  have hc : (decide (m < 0) = true) ∨ (decide (m < 0) = false ∧ decide (63 < m) = true) ∨ (decide (m < 0) = false ∧ decide (63 < m) = false ∧ decide (b < 0) = true) ∨ (decide (m < 0) = false ∧ decide (63 < m) = false ∧ decide (b < 0) = false ∧ decide (7 < b) = true) ∨
      (decide (m < 0) = false ∧ decide (63 < m) = false ∧ decide (b < 0) = false ∧ decide (7 < b) = false ∧ decide (r < 0) = true) ∨ (decide (m < 0) = false ∧ decide (63 < m) = false ∧ decide (b < 0) = false ∧ decide (7 < b) = false ∧ decide (r < 0) = false ∧ decide (1000000 ≤ r) = true) := by
    simp only [decide_eq_false_iff_not, decide_eq_true_eq]
    unfold BackIs Place at h
    omega
  clear h
  rcases hc with e1 | ⟨e1, e2⟩ | ⟨e1, e2, e3⟩ | ⟨e1, e2, e3, e4⟩ | ⟨e1, e2, e3, e4, e5⟩ | ⟨e1, e2, e3, e4, e5, e6⟩
  all_goals
    go_enter Try.func8, Try.ntmps8
    go_wp2
    go_ret
    exact ⟨rfl, rfl⟩
theorem rback_done (m b : Nat) (h : BackIs m b r) (hP : PAt 30 w B f) :
    Calls Try.prog 8 #[.pointer (some ⟨B, 0, none⟩), .int .i64 m, .int .i64 b, .int .i64 r] w fun e w' => e = .returned (.int .i64 0) ∧ PAt 30 w' B (upd f (m * 8 + b) r) ∧ w.grownBy w' (some B) := by
  obtain ⟨⟨⟨m0, m1⟩, b0, b1⟩, h0, h1⟩ := id h
  have e1 : decide ((m : Int) < 0) = false := by simp
  have e2 : decide (63 < (m : Int)) = false := by simp; omega
  have e3 : decide ((b : Int) < 0) = false := by simp
  have e4 : decide (7 < (b : Int)) = false := by simp; omega
  have e5 : decide (r < 0) = false := by simp; omega
  have e6 : decide (1000000 ≤ r) = false := by simp; omega
  have i1 : (m : Int) < 64 := by omega
  have i2 : (b : Int) < 8 := by omega
  have hk : m * 8 + b < 512 := by omega
  have hcell := hP.cell hk
  have hfree := hP.free (m * 8 + b)
  have HS := Lib.hid (hP.set hk r)
  clear h h0 h1 m0 m1 b0 b1 hP hk
  go_enter Try.func8, Try.ntmps8
  go_wp2
  go_ret
  exact ⟨rfl, HS.out, grown_set (grown_refl _ _) _ _⟩
/-- The document's giving back. -/
theorem rback_any (hP : PAt 30 w B f) :
    Calls Try.prog 8 #[.pointer (some ⟨B, 0, none⟩), .int .i64 m, .int .i64 b, .int .i64 r] w fun e w' => e = .returned (.int .i64 (backE m b r)) ∧ PAt 30 w' B (backF f m b r) ∧ w.grownBy w' (some B) := by
  by_cases h : BackIs m b r
  · obtain ⟨⟨⟨m0, m1⟩, b0, b1⟩, _⟩ := id h
    obtain ⟨m, rfl⟩ := Int.eq_ofNat_of_zero_le m0
    obtain ⟨b, rfl⟩ := Int.eq_ofNat_of_zero_le b0
    rw [(back_yes h f).1, (back_yes h f).2, spot_nat]
    exact rback_done B f r w m b h hP
  · rw [(back_no h f).1, (back_no h f).2]
    exact (rback_refused B m b r w h).mono fun e w' ⟨h1, h2⟩ => ⟨h1, h2 ▸ hP, h2 ▸ grown_refl _ _⟩
end
end Go.Proofs.Ytbffmobjiiicoaa
