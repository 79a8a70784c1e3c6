/- The contracts of a Purse's methods: Pay, Back, Rest, Copy. -/
import Derived.Test.YtbffmobjiiicoaaDoorFRow
import Derived.Test.YtbffmobjiiicoaaDoorFCarry
set_option linter.unusedVariables false
set_option linter.unusedSimpArgs false
namespace Go.Proofs.YtbffmobjiiicoaaDoor
open Go.RowKit
theorem tFrom_any (n a b : Int) (w : World) :
    Calls Tryd.prog 37 #[.int .i64 n, .int .i64 a, .int .i64 b] w fun e w' => e = .returned (.bool (decide (a ≤ n ∧ n ≤ b))) ∧ w = w' := by
  by_cases h0 : a ≤ n <;> by_cases h1 : n ≤ b
  all_goals
    go_enter Tryd.func37, Tryd.ntmps37
    go_wp2
    go_ret
    exact ⟨by simp [h0, h1], rfl⟩
theorem place_any (m b : Int) (w : World) :
    Calls Tryd.prog 36 #[.int .i64 m, .int .i64 b] w fun e w' => e = .returned (.bool (decide (Place m b))) ∧ w = w' := by
  have hd : decide (Place m b) = (decide (0 ≤ m ∧ m ≤ 63) && decide (0 ≤ b ∧ b ≤ 7)) := by
    rw [Bool.eq_iff_iff, decide_eq_true_iff]; simp [Place]
  rw [hd]
  clear hd
  cases h1 : decide (0 ≤ m ∧ m ≤ 63) <;> cases h2 : decide (0 ≤ b ∧ b ≤ 7)
  all_goals
    have H1 := Lib.hid (h1 ▸ tFrom_any m 0 63)
    have H2 := Lib.hid (h2 ▸ tFrom_any b 0 7)
    clear h1 h2
    go_enter Tryd.func36, Tryd.ntmps36
    go_wp2_with (first | (go_at_call 37; with_reducible refine (H1.out _).mono ?_; rintro e w' ⟨rfl, rfl⟩) | (go_at_call 37; with_reducible refine (H2.out _).mono ?_; rintro e w' ⟨rfl, rfl⟩))
    go_ret
    exact ⟨rfl, rfl⟩
section
variable (B : Nat) (f : Nat → Int) (m b n p : Int) (w : World)
theorem pay_refused (h : ¬ PayArg m b n p) :
    Calls Tryd.prog 12 #[.pointer (some ⟨B, 0, none⟩), .int .i64 m, .int .i64 b, .int .i64 n, .int .i64 p] w fun e w' => e = .returned (.tuple #[.int .i64 0, .int .i64 2]) ∧ w = w' := by
  have H1 := Lib.hid (place_any m b)
  have H2 := Lib.hid (tFrom_any n 0 4611686018427387904)
  have H3 := Lib.hid (tFrom_any p 0 1073741824)
  have hc : decide (Place m b) = false ∨ (decide (Place m b) = true ∧ decide (0 ≤ n ∧ n ≤ 4611686018427387904) = false) ∨ (decide (Place m b) = true ∧ decide (0 ≤ n ∧ n ≤ 4611686018427387904) = true ∧ decide (0 ≤ p ∧ p ≤ 1073741824) = false) := by
    simp only [decide_eq_false_iff_not, decide_eq_true_eq]
    unfold PayArg at h
    by_cases h1 : Place m b
    · by_cases h2 : 0 ≤ n ∧ n ≤ 4611686018427387904
      · exact .inr (.inr ⟨h1, h2, fun h3 => h ⟨h1, h2, h3⟩⟩)
      · exact .inr (.inl ⟨h1, h2⟩)
    · exact .inl h1
  clear h
  rcases hc with e1 | ⟨e1, e2⟩ | ⟨e1, e2, e3⟩
  · rw [e1] at H1
    clear e1
    go_enter Tryd.func12, Tryd.ntmps12
    go_wp2_with (go_at_call 36; with_reducible refine (H1.out _).mono ?_; rintro e w' ⟨rfl, rfl⟩)
    go_ret2
    exact ⟨rfl, rfl⟩
  · rw [e1] at H1
    rw [e2] at H2
    clear e1 e2
    go_enter Tryd.func12, Tryd.ntmps12
    go_wp2_with (first | (go_at_call 36; with_reducible refine (H1.out _).mono ?_; rintro e w' ⟨rfl, rfl⟩) | (go_at_call 37; with_reducible refine (H2.out _).mono ?_; rintro e w' ⟨rfl, rfl⟩))
    go_ret2
    exact ⟨rfl, rfl⟩
  · rw [e1] at H1
    rw [e2] at H2
    rw [e3] at H3
    clear e1 e2 e3
    go_enter Tryd.func12, Tryd.ntmps12
    go_wp2_with (first | (go_at_call 36; with_reducible refine (H1.out _).mono ?_; rintro e w' ⟨rfl, rfl⟩) | (go_at_call 37; with_reducible refine (H2.out _).mono ?_; rintro e w' ⟨rfl, rfl⟩) | (go_at_call 37; with_reducible refine (H3.out _).mono ?_; rintro e w' ⟨rfl, rfl⟩))
    go_ret2
    exact ⟨rfl, rfl⟩
end
def CY (E : Int) (Q R : Nat) : Prop := E = 0 ∧ Q ≤ 4611686018427387904 ∧ R < 1000000
/-- Paying, what Carry answers given. -/
theorem pay_walk (B : Nat) (f : Nat → Int) (m b : Nat) (n p r : Nat) (w : World) (hm : m ≤ 63) (hb : b ≤ 7) (hn : n ≤ 4611686018427387904) (hp : p ≤ 1073741824) (hP : PAt 54 w B f) (hr : f (m * 8 + b) = (r : Int)) (hr0 : r < 1000000)
    (Q R : Nat) (E : Int) (HC : ∀ w, Calls Tryd.prog 38 #[.int .u64 n, .int .u64 p, .int .u64 1000000, .int .u64 r] w fun e w' => e = .returned (.tuple #[.int .u64 (Q : Int), .int .u64 (R : Int), .int .i64 E]) ∧ Below w.heap.size w w')
    (hc : (E = 0 ∧ Q ≤ 4611686018427387904 ∧ R < 1000000) ∨ (E = 0 ∧ 4611686018427387904 < Q ∧ Q < 18446744073709551616) ∨ E = 10) :
    Calls Tryd.prog 12 #[.pointer (some ⟨B, 0, none⟩), .int .i64 m, .int .i64 b, .int .i64 n, .int .i64 p] w fun e w' =>
      (CY E Q R → e = .returned (.tuple #[.int .i64 (Q : Int), .int .i64 0]) ∧ PAt 54 w' B (upd f (m * 8 + b) (R : Int)) ∧ w.grownBy w' (some B)) ∧
      (¬ CY E Q R → e = .returned (.tuple #[.int .i64 0, .int .i64 10]) ∧ PAt 54 w' B f ∧ w.grownBy w' (some B)) := by
  have H1 := Lib.hid (place_any m b)
  rw [decide_eq_true (show Place (m : Int) (b : Int) by unfold Place; omega)] at H1
  have H2 := Lib.hid (tFrom_any n 0 4611686018427387904)
  rw [decide_eq_true (show 0 ≤ (n : Int) ∧ (n : Int) ≤ 4611686018427387904 by omega)] at H2
  have H3 := Lib.hid (tFrom_any p 0 1073741824)
  rw [decide_eq_true (show 0 ≤ (p : Int) ∧ (p : Int) ≤ 1073741824 by omega)] at H3
  have hcell := hP.cell (k := m * 8 + b) (by omega)
  rw [hr] at hcell
  have HP := Lib.hid hP
  have HCC := Lib.hid HC
  have HK := Lib.hid hc
  have wn : IntKind.u64.wrap (n : Int) = (n : Int) := by rw [IntKind.wrap_u64]; omega
  have wp : IntKind.u64.wrap (p : Int) = (p : Int) := by rw [IntKind.wrap_u64]; omega
  have wr : IntKind.u64.wrap (r : Int) = (r : Int) := by rw [IntKind.wrap_u64]; omega
  have i1 : (m : Int) < 64 := by omega
  have i2 : (b : Int) < 8 := by omega
  have HI := Lib.hid (And.intro hm hb)
  clear hP HC hc hm hb hn hp hr hr0
  go_enter Tryd.func12, Tryd.ntmps12
  go_wp2_with (first | (go_at_call 36; with_reducible refine (H1.out _).mono ?_; rintro e w' ⟨rfl, rfl⟩) | (go_at_call 37; with_reducible refine (H2.out _).mono ?_; rintro e w' ⟨rfl, rfl⟩) | (go_at_call 37; with_reducible refine (H3.out _).mono ?_; rintro e w' ⟨rfl, rfl⟩))
  refine (HCC.out _).mono ?_
  rintro e w1 ⟨rfl, hB⟩
  have h1 := HP.out.next hB
  have hg : w.grownBy w1 (some B) := grown_below hB
  have hf := h1.free (m * 8 + b)
  have hc1 : ∃ x, w1.cell? ⟨B, m * 8 + b, none⟩ = some x := ⟨_, h1.cell (by have := HI.out; omega)⟩
  obtain ⟨x, hx⟩ := hc1
  have G1 := Lib.hid h1
  have GG := Lib.hid hg
  clear hB h1 hg hcell
  rcases HK.out with ⟨e1, e2, e3⟩ | ⟨e1, e2, e3⟩ | e1
  · subst e1
    have cE : decide ((4611686018427387904 : Int) < (Q : Int)) = false := by simp; omega
    have wR : wrap64 (R : Int) = (R : Int) := by unfold wrap64; omega
    have wQ : wrap64 (Q : Int) = (Q : Int) := by unfold wrap64; omega
    have HE := Lib.hid (And.intro e2 e3)
    clear e2 e3
    go_wp2
    go_ret2
    have HS := G1.out.set (k := m * 8 + b) (by have := HI.out; omega) (R : Int)
    exact ⟨fun _ => ⟨(show Ending.returned (.tuple #[.int .i64 (wrap64 (Q : Int)), .int .i64 0]) = _ by rw [wQ]), HS, grown_set GG.out _ _⟩, fun h => absurd ⟨rfl, HE.out.1, HE.out.2⟩ h⟩
  · subst e1
    have cE : decide ((4611686018427387904 : Int) < (Q : Int)) = true := by simp; omega
    have HE := Lib.hid e2
    clear e2 e3
    go_wp2
    go_ret2
    exact ⟨fun h => absurd h.2.1 (by have := HE.out; omega), fun _ => ⟨rfl, G1.out, GG.out⟩⟩
  · subst e1
    go_wp2
    go_ret2
    exact ⟨fun h => absurd h.1 (by decide), fun _ => ⟨rfl, G1.out, GG.out⟩⟩
/-- Paying. -/
theorem pay_any (B : Nat) (f : Nat → Int) (m b n p : Int) (w : World) (hP : PAt 54 w B f) (hf : Rests f) :
    Calls Tryd.prog 12 #[.pointer (some ⟨B, 0, none⟩), .int .i64 m, .int .i64 b, .int .i64 n, .int .i64 p] w fun e w' =>
      e = .returned (.tuple #[.int .i64 (payV f m b n p), .int .i64 (payE f m b n p)]) ∧ PAt 54 w' B (payF f m b n p) ∧ w.grownBy w' (some B) := by
  by_cases ha : PayArg m b n p
  · obtain ⟨⟨⟨m0, m1⟩, b0, b1⟩, ⟨n0, n1⟩, p0, p1⟩ := id ha
    obtain ⟨m, rfl⟩ := Int.eq_ofNat_of_zero_le m0
    obtain ⟨b, rfl⟩ := Int.eq_ofNat_of_zero_le b0
    obtain ⟨n, rfl⟩ := Int.eq_ofNat_of_zero_le n0
    obtain ⟨p, rfl⟩ := Int.eq_ofNat_of_zero_le p0
    obtain ⟨r0, r1⟩ := hf (m * 8 + b)
    obtain ⟨r, hr⟩ := Int.eq_ofNat_of_zero_le r0
    have hX : payX f m b n p = ((n * p + r : Nat) : Int) := by unfold payX; rw [spot_nat, hr]; simp
    have k := pay_walk B f m b n p r w (by omega) (by omega) (by omega) (by omega) hP hr (by omega) _ _ _ (fun w => carry_any n p r (by omega) (by omega) (by omega) w) (by
      by_cases hq : (n * p + r) / 1000000 < 18446744073709551616
      · rw [(c_in hq).1, (c_in hq).2.1, (c_in hq).2.2]
        have := Nat.mod_lt (n * p + r) (show 0 < 1000000 by decide)
        by_cases h2 : (n * p + r) / 1000000 ≤ 4611686018427387904
        · exact .inl ⟨rfl, h2, this⟩
        · exact .inr (.inl ⟨rfl, by omega, hq⟩)
      · exact .inr (.inr (c_out hq).2.2))
    refine k.mono fun e w' ⟨k1, k2⟩ => ?_
    by_cases h2 : (n * p + r) / 1000000 ≤ 4611686018427387904
    · have hq : (n * p + r) / 1000000 < 18446744073709551616 := by omega
      rw [(c_in hq).1, (c_in hq).2.1, (c_in hq).2.2] at k1
      obtain ⟨e1, e2, e3⟩ := pay_yes (f := f) (m := m) (b := b) (n := n) (p := p) ⟨ha, by rw [hX]; omega⟩
      rw [e1, e2, e3, hX, spot_nat]
      exact k1 ⟨rfl, h2, Nat.mod_lt _ (by decide)⟩
    · obtain ⟨e1, e2, e3⟩ := pay_over (f := f) ha (by rw [hX]; omega)
      rw [e1, e2, e3]
      refine k2 fun hc => h2 ?_
      by_cases hq : (n * p + r) / 1000000 < 18446744073709551616
      · have := hc.2.1; rwa [(c_in hq).1] at this
      · have := hc.1; rw [(c_out hq).2.2] at this; exact absurd this (by decide)
  · obtain ⟨e1, e2, e3⟩ := pay_no (f := f) ha
    rw [e1, e2, e3]
    exact (pay_refused B m b n p w ha).mono fun e w' ⟨h1, h2⟩ => ⟨h1, h2 ▸ hP, h2 ▸ grown_refl _ _⟩
section
variable (B : Nat) (f : Nat → Int) (m b r : Int) (w : World)
theorem back_refused (h : ¬ BackIs m b r) :
    Calls Tryd.prog 14 #[.pointer (some ⟨B, 0, none⟩), .int .i64 m, .int .i64 b, .int .i64 r] w fun e w' => e = .returned (.int .i64 2) ∧ w = w' := by
  have H1 := Lib.hid (place_any m b)
  have H2 := Lib.hid (tFrom_any r 0 999999)
  have hc : decide (Place m b) = false ∨ (decide (Place m b) = true ∧ decide (0 ≤ r ∧ r ≤ 999999) = false) := by
    simp only [decide_eq_false_iff_not, decide_eq_true_eq]
    by_cases h1 : Place m b
    · exact .inr ⟨h1, fun h3 => h ⟨h1, h3⟩⟩
    · exact .inl h1
  clear h
  rcases hc with e1 | ⟨e1, e2⟩
  · rw [e1] at H1
    clear e1
    go_enter Tryd.func14, Tryd.ntmps14
    go_wp2_with (go_at_call 36; with_reducible refine (H1.out _).mono ?_; rintro e w' ⟨rfl, rfl⟩)
    go_ret
    exact ⟨rfl, rfl⟩
  · rw [e1] at H1
    rw [e2] at H2
    clear e1 e2
    go_enter Tryd.func14, Tryd.ntmps14
    go_wp2_with (first | (go_at_call 36; with_reducible refine (H1.out _).mono ?_; rintro e w' ⟨rfl, rfl⟩) | (go_at_call 37; with_reducible refine (H2.out _).mono ?_; rintro e w' ⟨rfl, rfl⟩))
    go_ret
    exact ⟨rfl, rfl⟩
theorem back_done (m b : Nat) (h : BackIs m b r) (hP : PAt 54 w B f) :
    Calls Tryd.prog 14 #[.pointer (some ⟨B, 0, none⟩), .int .i64 m, .int .i64 b, .int .i64 r] w fun e w' => e = .returned (.int .i64 0) ∧ PAt 54 w' B (upd f (m * 8 + b) r) ∧ w.grownBy w' (some B) := by
  obtain ⟨hp, h0, h1⟩ := id h
  have H1 := Lib.hid (place_any m b)
  rw [decide_eq_true hp] at H1
  have H2 := Lib.hid (tFrom_any r 0 999999)
  rw [decide_eq_true (show 0 ≤ r ∧ r ≤ 999999 from ⟨h0, h1⟩)] at H2
  obtain ⟨⟨m0, m1⟩, b0, b1⟩ := hp
  have i1 : (m : Int) < 64 := by omega
  have i2 : (b : Int) < 8 := by omega
  have hk : m * 8 + b < 512 := by omega
  have hcell := hP.cell hk
  have hfree := hP.free (m * 8 + b)
  have HS := Lib.hid (hP.set hk r)
  clear h h0 h1 m0 m1 b0 b1 hP hk
  go_enter Tryd.func14, Tryd.ntmps14
  go_wp2_with (first | (go_at_call 36; with_reducible refine (H1.out _).mono ?_; rintro e w' ⟨rfl, rfl⟩) | (go_at_call 37; with_reducible refine (H2.out _).mono ?_; rintro e w' ⟨rfl, rfl⟩))
  go_ret
  exact ⟨rfl, HS.out, grown_set (grown_refl _ _) _ _⟩
/-- Giving a rest back. -/
theorem back_any (hP : PAt 54 w B f) :
    Calls Tryd.prog 14 #[.pointer (some ⟨B, 0, none⟩), .int .i64 m, .int .i64 b, .int .i64 r] w fun e w' => e = .returned (.int .i64 (backE m b r)) ∧ PAt 54 w' B (backF f m b r) ∧ w.grownBy w' (some B) := by
  by_cases h : BackIs m b r
  · obtain ⟨⟨⟨m0, m1⟩, b0, b1⟩, _⟩ := id h
    obtain ⟨m, rfl⟩ := Int.eq_ofNat_of_zero_le m0
    obtain ⟨b, rfl⟩ := Int.eq_ofNat_of_zero_le b0
    rw [(back_yes h f).1, (back_yes h f).2, spot_nat]
    exact back_done B f r w m b h hP
  · rw [(back_no h f).1, (back_no h f).2]
    exact (back_refused B m b r w h).mono fun e w' ⟨h1, h2⟩ => ⟨h1, h2 ▸ hP, h2 ▸ grown_refl _ _⟩
/-- The rest that a purse tells. -/
theorem rest_any (hP : PAt 54 w B f) :
    Calls Tryd.prog 15 #[.pointer (some ⟨B, 0, none⟩), .int .i64 m, .int .i64 b] w fun e w' => e = .returned (.int .i64 (restV f m b)) ∧ w = w' := by
  have H1 := Lib.hid (place_any m b)
  by_cases h : Place m b
  · rw [decide_eq_true h] at H1
    obtain ⟨⟨m0, m1⟩, b0, b1⟩ := id h
    obtain ⟨m, rfl⟩ := Int.eq_ofNat_of_zero_le m0
    obtain ⟨b, rfl⟩ := Int.eq_ofNat_of_zero_le b0
    rw [restV, if_pos h, spot_nat]
    have i1 : (m : Int) < 64 := by omega
    have i2 : (b : Int) < 8 := by omega
    have hcell := hP.cell (k := m * 8 + b) (by omega)
    clear h m0 m1 b0 b1 hP
    go_enter Tryd.func15, Tryd.ntmps15
    go_wp2_with (go_at_call 36; with_reducible refine (H1.out _).mono ?_; rintro e w' ⟨rfl, rfl⟩)
    go_ret
    exact ⟨rfl, rfl⟩
  · rw [decide_eq_false h] at H1
    rw [restV, if_neg h]
    clear h hP
    go_enter Tryd.func15, Tryd.ntmps15
    go_wp2_with (go_at_call 36; with_reducible refine (H1.out _).mono ?_; rintro e w' ⟨rfl, rfl⟩)
    go_ret
    exact ⟨rfl, rfl⟩
end
end Go.Proofs.YtbffmobjiiicoaaDoor
