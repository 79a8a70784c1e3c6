/- The document's Plan of tables. -/
import Derived.Test.YtmbimnphdhmapaaBRef4
set_option linter.unusedVariables false
set_option linter.unusedSimpArgs false
namespace Go.Proofs.Ytmbimnphdhmapaa
open Go.RowKit Go.Shelf
set_option maxRecDepth 100000 in
set_option maxHeartbeats 4000000 in
theorem rPlanT_no (pa : Option Addr) (pl pc : Nat) (ra : Option Addr) (rl rc : Nat) (P : Nat → Pl) (R : Nat → Ru) (s kd : Int) (hno : ¬ PlanMay P pl R rl s kd) (w : World) (hP : PlsAt w.heap.size w pa pl P) (hR : RusAt w.heap.size w ra rl R) (hlm : pl ≤ maxLen) (hrm : rl ≤ maxLen) :
    Calls Try.prog 21 #[tabV pa pl pc ra rl rc, .int .i64 s, .int .i64 kd] w fun e w' => e = .returned (.tuple #[.int .i64 0, .bool false]) ∧ Below w.heap.size w w' := by
  unfold maxLen at hlm hrm
  have hz := heap_alloc_new w (.cells #[.slice pa pl pc, .slice ra rl rc] 45)
  have hb0 := (Below.refl _ w).alloc (Nat.le_refl _) (.cells #[.slice pa pl pc, .slice ra rl rc] 45)
  obtain ⟨X, hX⟩ : ∃ X, X = w.alloc (.cells #[.slice pa pl pc, .slice ra rl rc] 45) := ⟨_, rfl⟩
  rw [← hX] at hz hb0
  have hxs : X.heap.size = w.heap.size + 1 := by rw [hX, World.size_alloc]
  have HZ := Lib.hid hz
  have HB := Lib.hid hb0
  have HX := Lib.hid hX
  have HXS := Lib.hid hxs
  have HP := Lib.hid (hP.next hb0 (Nat.le_refl _) (Nat.le_refl _))
  have HR := Lib.hid (hR.next hb0 (Nat.le_refl _) (Nat.le_refl _))
  clear hz hb0 hX hxs hP hR
  have HC := Lib.hid (rCheckT_any pa pl pc ra rl rc P R X (by rw [HXS.out]; exact HP.out.mono (by omega)) (by rw [HXS.out]; exact HR.out.mono (by omega)) (by unfold maxLen; omega) (by unfold maxLen; omega))
  by_cases ht : TabIs P pl R rl
  · rw [decide_eq_true ht] at HC
    by_cases n1 : s < 0
    · clear ht hno
      go_enter Try.func21, Try.ntmps21
      go_wp2_with fail
      rw [← HX.out]
      refine HC.out.mono ?_
      rintro e w1 ⟨rfl, hB⟩
      have HB1 := Lib.hid (HB.out.trans (hB.mono (by rw [HXS.out]; omega)))
      have HBX := Lib.hid hB
      clear HC hB
      go_wp2
      go_ret2
      exact ⟨rfl, HB1.out⟩
    · by_cases n2 : 99 < s
      · clear ht hno
        go_enter Try.func21, Try.ntmps21
        go_wp2_with fail
        rw [← HX.out]
        refine HC.out.mono ?_
        rintro e w1 ⟨rfl, hB⟩
        have HB1 := Lib.hid (HB.out.trans (hB.mono (by rw [HXS.out]; omega)))
        have HBX := Lib.hid hB
        clear HC hB
        go_wp2
        go_ret2
        exact ⟨rfl, HB1.out⟩
      · by_cases n3 : kd < 1
        · clear ht hno
          go_enter Try.func21, Try.ntmps21
          go_wp2_with fail
          rw [← HX.out]
          refine HC.out.mono ?_
          rintro e w1 ⟨rfl, hB⟩
          have HB1 := Lib.hid (HB.out.trans (hB.mono (by rw [HXS.out]; omega)))
          have HBX := Lib.hid hB
          clear HC hB
          go_wp2
          go_ret2
          exact ⟨rfl, HB1.out⟩
        · have n4 : 4 < kd := by
            refine Int.not_le.1 fun q => hno ⟨ht, ⟨by omega, by omega⟩, by omega, q⟩
          clear ht hno
          go_enter Try.func21, Try.ntmps21
          go_wp2_with fail
          rw [← HX.out]
          refine HC.out.mono ?_
          rintro e w1 ⟨rfl, hB⟩
          have HB1 := Lib.hid (HB.out.trans (hB.mono (by rw [HXS.out]; omega)))
          have HBX := Lib.hid hB
          clear HC hB
          go_wp2
          go_ret2
          exact ⟨rfl, HB1.out⟩
  · rw [decide_eq_false ht] at HC
    clear ht hno
    go_enter Try.func21, Try.ntmps21
    go_wp2_with fail
    rw [← HX.out]
    refine HC.out.mono ?_
    rintro e w1 ⟨rfl, hB⟩
    have HB1 := Lib.hid (HB.out.trans (hB.mono (by rw [HXS.out]; omega)))
    have HBX := Lib.hid hB
    clear HC hB
    go_wp2
    go_ret2
    exact ⟨rfl, HB1.out⟩
set_option maxRecDepth 100000 in
set_option maxHeartbeats 4000000 in
theorem rPlanT_yes (pa : Option Addr) (pl pc : Nat) (ra : Option Addr) (rl rc : Nat) (P : Nat → Pl) (R : Nat → Ru) (s kd : Int) (hyes : PlanMay P pl R rl s kd) (w : World) (hP : PlsAt w.heap.size w pa pl P) (hR : RusAt w.heap.size w ra rl R) (hlm : pl ≤ maxLen) (hrm : rl ≤ maxLen) :
    Calls Try.prog 21 #[tabV pa pl pc ra rl rc, .int .i64 s, .int .i64 kd] w fun e w' => PlanE R rl s kd e ∧ Below w.heap.size w w' := by
  unfold maxLen at hlm hrm
  have hz := heap_alloc_new w (.cells #[.slice pa pl pc, .slice ra rl rc] 45)
  have hb0 := (Below.refl _ w).alloc (Nat.le_refl _) (.cells #[.slice pa pl pc, .slice ra rl rc] 45)
  obtain ⟨X, hX⟩ : ∃ X, X = w.alloc (.cells #[.slice pa pl pc, .slice ra rl rc] 45) := ⟨_, rfl⟩
  rw [← hX] at hz hb0
  have hxs : X.heap.size = w.heap.size + 1 := by rw [hX, World.size_alloc]
  have HZ := Lib.hid hz
  have HB := Lib.hid hb0
  have HX := Lib.hid hX
  have HXS := Lib.hid hxs
  have HP := Lib.hid (hP.next hb0 (Nat.le_refl _) (Nat.le_refl _))
  have HR := Lib.hid (hR.next hb0 (Nat.le_refl _) (Nat.le_refl _))
  clear hz hb0 hX hxs hP hR
  have HC := Lib.hid (rCheckT_any pa pl pc ra rl rc P R X (by rw [HXS.out]; exact HP.out.mono (by omega)) (by rw [HXS.out]; exact HR.out.mono (by omega)) (by unfold maxLen; omega) (by unfold maxLen; omega))
  rw [decide_eq_true hyes.1] at HC
  have n1 : ¬ s < 0 := by have := hyes.2.1.1; omega
  have n2 : ¬ 99 < s := by have := hyes.2.1.2; omega
  have n3 : ¬ kd < 1 := by have := hyes.2.2.1; omega
  have n4 : ¬ 4 < kd := by have := hyes.2.2.2; omega
  have h100 := hyes.1.2.2.1
  clear hyes
  go_enter Try.func21, Try.ntmps21
  go_wp2_with fail
  rw [← HX.out]
  refine HC.out.mono ?_
  rintro e w1 ⟨rfl, hB⟩
  have HB1 := Lib.hid (HB.out.trans (hB.mono (by rw [HXS.out]; omega)))
  have HBX := Lib.hid hB
  clear HC hB
  go_wp2_with fail
  go_loopw [9] (fun i wr => ∃ m : Nat, m ≤ rl ∧ i = .int .i64 m ∧ (∀ j, j < m → ¬ Fits (R j) s kd) ∧ Below X.heap.size X wr) (fun i _ => (rl - intOf i).toNat)
  case atStart => exact ⟨0, Nat.zero_le _, rfl, fun j hj => absurd hj (Nat.not_lt_zero _), HBX.out⟩
  case round =>
    obtain ⟨m, hm, rfl, hall, hb⟩ := hrel
    have HA := Lib.hid hall
    have HBR := Lib.hid hb
    have hzr := (hb.block w.heap.size (by rw [HXS.out]; omega)).trans HZ.out
    have d1 : wr.cell? ⟨w.heap.size, 1, none⟩ = some (.slice ra rl rc) := cell_of_row wr _ 1 _ _ _ hzr
    clear hall hb HBX HB1 hzr
    by_cases hlt2 : m < rl
    · have hlti2 : (m : Int) < rl := by omega
      obtain ⟨b, o, rfl, hbl, c0, c1, c2⟩ := HR.out.next HBR.out (by rw [HXS.out]; omega) (Nat.le_refl _) m hlt2
      obtain ⟨r, hr⟩ : ∃ r, R m = r := ⟨_, rfl⟩
      rw [hr] at c0 c1 c2
      obtain ⟨rs, rk, rp⟩ := r
      simp only at c0 c1 c2
      have HE := Lib.hid hr
      have hb1 := HBR.out.alloc HBR.out.size (.cells #[.int .i64 rs, .int .i64 rk, .int .i64 rp] 47)
      have HB1 := Lib.hid hb1
      clear hr hb1
      by_cases s0 : rs = 0
      · have q1 : (rs == 0) = true := by simp [s0]
        by_cases k0 : rk = 0
        · have q3 : (rk == 0) = true := by simp [k0]
          have HF := Lib.hid (show Fits (R m) s kd by rw [HE.out]; exact ⟨by simp only; omega, by simp only; omega⟩)
          clear k0 s0
          go_wp2
          go_ret2
          exact ⟨PlanE.mk (p := rp) (.inl ⟨m, hlt2, HF.out, by rw [HE.out], HA.out⟩), HB.out.trans (HB1.out.mono (by rw [HXS.out]; omega))⟩
        · have q3 : (rk == 0) = false := by simp [k0]
          by_cases k1 : rk = kd
          · have q4 : (rk == kd) = true := by simp [k1]
            have HF := Lib.hid (show Fits (R m) s kd by rw [HE.out]; exact ⟨by simp only; omega, by simp only; omega⟩)
            clear k0 k1 s0
            go_wp2
            go_ret2
            exact ⟨PlanE.mk (p := rp) (.inl ⟨m, hlt2, HF.out, by rw [HE.out], HA.out⟩), HB.out.trans (HB1.out.mono (by rw [HXS.out]; omega))⟩
          · have q4 : (rk == kd) = false := by simp [k1]
            have HF := Lib.hid (show ¬ Fits (R m) s kd by rw [HE.out]; rintro ⟨u, v⟩; simp only at u v; omega)
            clear k0 k1 s0
            go_wp2
            go_roundw
            case rel => exact ⟨m + 1, by omega, by go_num, fun j hj => by rcases Nat.lt_succ_iff_lt_or_eq.1 hj with q | q; exact HA.out j q; rw [q]; exact HF.out, HB1.out⟩
            case measure => first | (simp [intOf]; done) | (simp [intOf]; omega)
      · have q1 : (rs == 0) = false := by simp [s0]
        by_cases s1 : rs = s
        · have q2 : (rs == s) = true := by simp [s1]
          by_cases k0 : rk = 0
          · have q3 : (rk == 0) = true := by simp [k0]
            have HF := Lib.hid (show Fits (R m) s kd by rw [HE.out]; exact ⟨by simp only; omega, by simp only; omega⟩)
            clear k0 s0 s1
            go_wp2
            go_ret2
            exact ⟨PlanE.mk (p := rp) (.inl ⟨m, hlt2, HF.out, by rw [HE.out], HA.out⟩), HB.out.trans (HB1.out.mono (by rw [HXS.out]; omega))⟩
          · have q3 : (rk == 0) = false := by simp [k0]
            by_cases k1 : rk = kd
            · have q4 : (rk == kd) = true := by simp [k1]
              have HF := Lib.hid (show Fits (R m) s kd by rw [HE.out]; exact ⟨by simp only; omega, by simp only; omega⟩)
              clear k0 k1 s0 s1
              go_wp2
              go_ret2
              exact ⟨PlanE.mk (p := rp) (.inl ⟨m, hlt2, HF.out, by rw [HE.out], HA.out⟩), HB.out.trans (HB1.out.mono (by rw [HXS.out]; omega))⟩
            · have q4 : (rk == kd) = false := by simp [k1]
              have HF := Lib.hid (show ¬ Fits (R m) s kd by rw [HE.out]; rintro ⟨u, v⟩; simp only at u v; omega)
              clear k0 k1 s0 s1
              go_wp2
              go_roundw
              case rel => exact ⟨m + 1, by omega, by go_num, fun j hj => by rcases Nat.lt_succ_iff_lt_or_eq.1 hj with q | q; exact HA.out j q; rw [q]; exact HF.out, HB1.out⟩
              case measure => first | (simp [intOf]; done) | (simp [intOf]; omega)
        · have q2 : (rs == s) = false := by simp [s1]
          have HF := Lib.hid (show ¬ Fits (R m) s kd by rw [HE.out]; rintro ⟨u, v⟩; simp only at u v; omega)
          clear s0 s1
          go_wp2
          go_roundw
          case rel => exact ⟨m + 1, by omega, by go_num, fun j hj => by rcases Nat.lt_succ_iff_lt_or_eq.1 hj with q | q; exact HA.out j q; rw [q]; exact HF.out, HB1.out⟩
          case measure => first | (simp [intOf]; done) | (simp [intOf]; omega)
    · have hme : m = rl := by omega
      subst hme
      have hnl2 : ¬ ((m : Int) < m) := by omega
      go_wp2
      go_ret2
      exact ⟨PlanE.mk (p := 0) (.inr ⟨rfl, HA.out⟩), HB.out.trans (HBR.out.mono (by rw [HXS.out]; omega))⟩
end Go.Proofs.Ytmbimnphdhmapaa
