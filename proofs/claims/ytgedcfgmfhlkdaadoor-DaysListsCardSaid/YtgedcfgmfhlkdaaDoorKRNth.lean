/- Contract of the document's function Nth. -/
import Derived.Test.YtgedcfgmfhlkdaaDoorKNth
set_option linter.unusedVariables false
set_option linter.unusedSimpArgs false
namespace Go.Proofs.YtgedcfgmfhlkdaaDoor
open Go.RowKit Go.Shelf
theorem nth_wk (y m wd : Int) (h1 : 1 ≤ wd) (h2 : wd ≤ 7) (k : Int) : wkday (dayOf y m (nthF y m wd + 7 * (k - 1))) = wd := by
  unfold nthF wkday dayOf
  omega
theorem nthD_eq (y m wd k : Int) (h : 1 ≤ k) : nthD y m wd k = nthF y m wd + 7 * (k - 1) := by
  unfold nthD; rw [if_neg (by omega)]; omega
theorem dlen_31 {y m : Int} : dlen y m ≤ 31 := dlen_bounds.2
theorem rnth_bad (y m wd n : Int) (h : ¬ (May y m 1 ∧ (1 ≤ wd ∧ wd ≤ 7) ∧ (n = -1 ∨ (1 ≤ n ∧ n ≤ 5)))) (w : World) :
    Calls Tryd.prog 59 #[.int .i64 y, .int .i64 m, .int .i64 wd, .int .i64 n] w fun e w' => e = .returned (.tuple #[.int .i64 0, .int .i64 60]) ∧ w = w' := by
  have HC := Lib.hid (fun X => rmay_any y m 1 X)
  by_cases cm : May y m 1
  · have gm := Lib.hid (show decide (May y m 1) = true from decide_eq_true cm)
    by_cases c1 : wd < 1
    · clear h cm
      go_enter Tryd.func59, Tryd.ntmps59
      go_wp2_with fail
      refine (HC.out _).mono ?_
      rintro e w' ⟨rfl, rfl⟩
      rw [gm.out]
      go_wp2
      go_ret2
      exact ⟨rfl, rfl⟩
    · by_cases c2 : 7 < wd
      · clear h cm
        go_enter Tryd.func59, Tryd.ntmps59
        go_wp2_with fail
        refine (HC.out _).mono ?_
        rintro e w' ⟨rfl, rfl⟩
        rw [gm.out]
        go_wp2
        go_ret2
        exact ⟨rfl, rfl⟩
      · by_cases c3 : n = -1
        · exact absurd ⟨cm, by omega, .inl c3⟩ h
        · have g3 : (n != -1) = true := by simp [c3]
          by_cases c4 : n < 1
          · clear h cm
            go_enter Tryd.func59, Tryd.ntmps59
            go_wp2_with fail
            refine (HC.out _).mono ?_
            rintro e w' ⟨rfl, rfl⟩
            rw [gm.out]
            go_wp2
            go_ret2
            exact ⟨rfl, rfl⟩
          · by_cases c5 : 5 < n
            · clear h cm
              go_enter Tryd.func59, Tryd.ntmps59
              go_wp2_with fail
              refine (HC.out _).mono ?_
              rintro e w' ⟨rfl, rfl⟩
              rw [gm.out]
              go_wp2
              go_ret2
              exact ⟨rfl, rfl⟩
            · exact absurd ⟨cm, by omega, .inr (by omega)⟩ h
  · have gm := Lib.hid (show decide (May y m 1) = false from decide_eq_false cm)
    clear h cm
    go_enter Tryd.func59, Tryd.ntmps59
    go_wp2_with fail
    refine (HC.out _).mono ?_
    rintro e w' ⟨rfl, rfl⟩
    rw [gm.out]
    go_wp2
    go_ret2
    exact ⟨rfl, rfl⟩
def metB (F d : Int) : Int := (d + 6 - F) / 7
def lastB (F d : Int) : Int := if metB F d = 0 then 0 else F + 7 * (metB F d - 1)
theorem wk_iff (y m wd d : Int) (h1 : 1 ≤ wd) (h2 : wd ≤ 7) : wkday (dayOf y m d) = wd ↔ (d - nthF y m wd) % 7 = 0 := by
  unfold nthF wkday dayOf
  omega
set_option maxRecDepth 100000 in
set_option maxHeartbeats 2000000 in
theorem rnth_good (y m wd n : Int) (hm : May y m 1) (hw1 : 1 ≤ wd) (hw7 : wd ≤ 7) (hn : n = -1 ∨ (1 ≤ n ∧ n ≤ 5)) (w : World) :
    Calls Tryd.prog 59 #[.int .i64 y, .int .i64 m, .int .i64 wd, .int .i64 n] w fun e w' => e = .returned (if NthIs y m wd n then .tuple #[.int .i64 (nthD y m wd n), .int .i64 0] else .tuple #[.int .i64 0, .int .i64 60]) ∧ w = w' := by
  have HC := Lib.hid (fun X => rmay_any y m 1 X)
  have HDS := Lib.hid (fun X => rdays_any y m X)
  have HWK := Lib.hid (fun k X => rweekday_any k X)
  have gm := Lib.hid (show decide (May y m 1) = true from decide_eq_true hm)
  have hdl := dlen_ge (y := y) (m := m) hm.2.2.1 hm.2.2.2.1
  have hdl2 := dlen_31 (y := y) (m := m)
  have HM := Lib.hid hm
  have HN := Lib.hid hn
  have hF := nthF_bounds y m wd
  have HRV : ∃ RV, RV = (if NthIs y m wd n then Value.tuple #[.int .i64 (nthD y m wd n), .int .i64 0] else Value.tuple #[.int .i64 0, .int .i64 60]) := ⟨_, rfl⟩
  obtain ⟨RV, hrv⟩ := HRV
  rw [← hrv]
  have HR := Lib.hid hrv
  have HW := Lib.hid (And.intro hw1 hw7)
  obtain ⟨L, hL⟩ : ∃ L, L = dlen y m := ⟨_, rfl⟩
  rw [← hL] at hdl hdl2
  rw [← hL] at HDS
  obtain ⟨F, hFF⟩ : ∃ F, F = nthF y m wd := ⟨_, rfl⟩
  rw [← hFF] at hF
  have HL := Lib.hid hL
  have HF := Lib.hid hFF
  have hnn : (n != -1) = true ∨ (n != -1) = false := by cases (n != -1) <;> simp
  have hnb : -1 ≤ n ∧ n ≤ 5 := by omega
  clear hm hrv hL hFF hn
  rcases hnn with g3 | g3
  · have hn1 : 1 ≤ n := by
      have := HN.out
      have : n ≠ -1 := by simpa using g3
      omega
    have hn5 := hnb.2
    have g5 : (n == -1) = false := by simp; omega
    go_enter Tryd.func59, Tryd.ntmps59
    go_wp2_with fail
    refine (HC.out _).mono ?_
    rintro e w' ⟨rfl, rfl⟩
    rw [gm.out]
    go_wp2
    clear g3
    go_loopw [10, 11, 12] (fun me la i wr => ∃ d : Int, 1 ≤ d ∧ d ≤ L + 1 ∧ i = .int .i64 d ∧ me = .int .i64 (metB F d) ∧ la = .int .i64 (lastB F d) ∧ (n = -1 ∨ metB F d < n) ∧ w = wr) (fun _ _ i _ => (40 - intOf i).toNat)
    case atStart =>
      have e0 : metB F 1 = 0 := by unfold metB; omega
      exact ⟨1, by omega, by omega, rfl, by rw [e0], by unfold lastB; rw [if_pos e0], by rw [e0]; have := HN.out; omega, rfl⟩
    case round =>
      obtain ⟨d, hd1, hd2, rfl, rfl, rfl, hlt, rfl⟩ := hrel
      have hmb : 0 ≤ metB F d ∧ metB F d ≤ 6 := by unfold metB; omega
      obtain ⟨MB, hMB⟩ : ∃ x, x = metB F d := ⟨_, rfl⟩
      obtain ⟨LB, hLB⟩ : ∃ x, x = lastB F d := ⟨_, rfl⟩
      rw [← hMB] at hlt hmb ⊢
      rw [← hLB]
      by_cases hle : d ≤ L
      · have hmay : May y m d := by
          obtain ⟨k1, k2, k3, k4, k5, k6⟩ := HM.out
          exact ⟨k1, k2, k3, k4, hd1, by rw [← HL.out]; exact hle⟩
        have hb := day_bounds hmay
        have HDY := Lib.hid (fun X => rday_any y m d X)
        rw [show dayE y m d = dayOf y m d by unfold dayE; rw [if_pos hmay], mayE_yes hmay] at HDY
        obtain ⟨K, hK⟩ : ∃ K, K = dayOf y m d := ⟨_, rfl⟩
        rw [← hK] at HDY hb
        have HWD := Lib.hid (fun X => HWK.out K X)
        rw [show wkB K = wkday K by unfold wkB; rw [if_pos hb]] at HWD
        have hiff : wkday K = wd ↔ (d - F) % 7 = 0 := by rw [hK, HF.out]; exact wk_iff y m wd d HW.out.1 HW.out.2
        obtain ⟨V, hV⟩ : ∃ V, V = wkday K := ⟨_, rfl⟩
        rw [← hV] at HWD hiff
        have HMB := Lib.hid hMB
        have HLB := Lib.hid hLB
        have HLT := Lib.hid hlt
        clear hmay hb hK hV hMB hLB hlt
        by_cases hwd : V = wd
        · have h7 := hiff.1 hwd
          have gw : (V != wd) = false := by simp [hwd]
          have e1 : metB F (d + 1) = MB + 1 := by rw [HMB.out]; unfold metB; omega
          have e2 : lastB F (d + 1) = d := by
            unfold lastB
            rw [e1, if_neg (by omega), HMB.out]
            unfold metB; omega
          have H7 := Lib.hid h7
          have E1 := Lib.hid e1
          have E2 := Lib.hid e2
          clear hiff hwd h7 e1 e2
          by_cases hret : MB + 1 = n
          · have gr : (MB + 1 == n) = true := by simp [hret]
            have HRET := Lib.hid hret
            clear hret
            go_wp2_with (first
              | (go_at_call 44; refine (HDS.out _).mono ?_; rintro e w' ⟨rfl, rfl⟩)
              | (go_at_call 22; refine (HDY.out _).mono ?_; rintro e w' ⟨rfl, rfl⟩)
              | (go_at_call 42; refine (HWD.out _).mono ?_; rintro e w' ⟨rfl, rfl⟩))
            go_ret2
            have hnn : 1 ≤ n := by have := HRET.out; omega
            have hD : nthD y m wd n = d := by
              unfold nthD
              rw [if_neg (by omega), ← HF.out, ← HRET.out, HMB.out]
              have := H7.out
              unfold metB; omega
            have hN5 : n ≤ 5 := by have := HN.out; omega
            have hyes : NthIs y m wd n := ⟨HM.out, HW.out, .inr ⟨hnn, hN5, by rw [hD, ← HL.out]; exact hle⟩⟩
            rw [HR.out, if_pos hyes, hD]
            exact ⟨rfl, rfl⟩
          · have gr : (MB + 1 == n) = false := by simp [hret]
            have HRET := Lib.hid hret
            clear hret
            go_wp2_with (first
              | (go_at_call 44; refine (HDS.out _).mono ?_; rintro e w' ⟨rfl, rfl⟩)
              | (go_at_call 22; refine (HDY.out _).mono ?_; rintro e w' ⟨rfl, rfl⟩)
              | (go_at_call 42; refine (HWD.out _).mono ?_; rintro e w' ⟨rfl, rfl⟩))
            go_roundw
            case rel => exact ⟨d + 1, by omega, by omega, rfl, by rw [E1.out], by rw [E2.out], by rw [E1.out]; have := HLT.out; have := HRET.out; omega, trivial⟩
            case measure => simp [intOf]; omega
        · have gw : (V != wd) = true := by simp [hwd]
          have h7 : (d - F) % 7 ≠ 0 := fun h => hwd (hiff.2 h)
          have e1 : metB F (d + 1) = MB := by rw [HMB.out]; unfold metB; omega
          have e2 : lastB F (d + 1) = LB := by
            rw [HLB.out]
            unfold lastB
            rw [e1, HMB.out]
          have E1 := Lib.hid e1
          have E2 := Lib.hid e2
          clear hiff hwd h7 e1 e2
          go_wp2_with (first
            | (go_at_call 44; refine (HDS.out _).mono ?_; rintro e w' ⟨rfl, rfl⟩)
            | (go_at_call 22; refine (HDY.out _).mono ?_; rintro e w' ⟨rfl, rfl⟩)
            | (go_at_call 42; refine (HWD.out _).mono ?_; rintro e w' ⟨rfl, rfl⟩))
          go_roundw
          case rel => exact ⟨d + 1, by omega, by omega, rfl, by rw [E1.out], by rw [E2.out], by rw [E1.out]; exact HLT.out, trivial⟩
          case measure => simp [intOf]; omega
      · have hd : d = L + 1 := by omega
        have hgt : L < d := by omega
        have HMB := Lib.hid hMB
        have HLB := Lib.hid hLB
        have HLT := Lib.hid hlt
        clear hMB hLB hlt hle
        have HDD := Lib.hid hd
        clear hd
        go_wp2_with (first
          | (go_at_call 44; refine (HDS.out _).mono ?_; rintro e w' ⟨rfl, rfl⟩))
        go_ret2
        have hlt := HLT.out
        have hD : ¬ nthD y m wd n ≤ L := by
          unfold nthD
          rw [if_neg (by omega), ← HF.out]
          have h1 := HMB.out
          have h2 := HDD.out
          unfold metB at h1
          omega
        have hno : ¬ NthIs y m wd n := fun h => by
          rcases h.2.2 with h | ⟨_, _, h⟩
          · omega
          · exact hD (by rw [HL.out]; exact h)
        rw [HR.out, if_neg hno]
        exact ⟨rfl, rfl⟩
  · have hn1 : n = -1 := by simpa using g3
    have g5 : (n == -1) = true := by simp [hn1]
    clear hnb
    go_enter Tryd.func59, Tryd.ntmps59
    go_wp2_with fail
    refine (HC.out _).mono ?_
    rintro e w' ⟨rfl, rfl⟩
    rw [gm.out]
    go_wp2
    clear g3
    go_loopw [10, 11, 12] (fun me la i wr => ∃ d : Int, 1 ≤ d ∧ d ≤ L + 1 ∧ i = .int .i64 d ∧ me = .int .i64 (metB F d) ∧ la = .int .i64 (lastB F d) ∧ (n = -1 ∨ metB F d < n) ∧ w = wr) (fun _ _ i _ => (40 - intOf i).toNat)
    case atStart =>
      have e0 : metB F 1 = 0 := by unfold metB; omega
      exact ⟨1, by omega, by omega, rfl, by rw [e0], by unfold lastB; rw [if_pos e0], by rw [e0]; have := HN.out; omega, rfl⟩
    case round =>
      obtain ⟨d, hd1, hd2, rfl, rfl, rfl, hlt, rfl⟩ := hrel
      have hmb : 0 ≤ metB F d ∧ metB F d ≤ 6 := by unfold metB; omega
      obtain ⟨MB, hMB⟩ : ∃ x, x = metB F d := ⟨_, rfl⟩
      obtain ⟨LB, hLB⟩ : ∃ x, x = lastB F d := ⟨_, rfl⟩
      rw [← hMB] at hlt hmb ⊢
      rw [← hLB]
      by_cases hle : d ≤ L
      · have hmay : May y m d := by
          obtain ⟨k1, k2, k3, k4, k5, k6⟩ := HM.out
          exact ⟨k1, k2, k3, k4, hd1, by rw [← HL.out]; exact hle⟩
        have hb := day_bounds hmay
        have HDY := Lib.hid (fun X => rday_any y m d X)
        rw [show dayE y m d = dayOf y m d by unfold dayE; rw [if_pos hmay], mayE_yes hmay] at HDY
        obtain ⟨K, hK⟩ : ∃ K, K = dayOf y m d := ⟨_, rfl⟩
        rw [← hK] at HDY hb
        have HWD := Lib.hid (fun X => HWK.out K X)
        rw [show wkB K = wkday K by unfold wkB; rw [if_pos hb]] at HWD
        have hiff : wkday K = wd ↔ (d - F) % 7 = 0 := by rw [hK, HF.out]; exact wk_iff y m wd d HW.out.1 HW.out.2
        obtain ⟨V, hV⟩ : ∃ V, V = wkday K := ⟨_, rfl⟩
        rw [← hV] at HWD hiff
        have HMB := Lib.hid hMB
        have HLB := Lib.hid hLB
        have HLT := Lib.hid hlt
        clear hmay hb hK hV hMB hLB hlt
        by_cases hwd : V = wd
        · have h7 := hiff.1 hwd
          have gw : (V != wd) = false := by simp [hwd]
          have e1 : metB F (d + 1) = MB + 1 := by rw [HMB.out]; unfold metB; omega
          have e2 : lastB F (d + 1) = d := by
            unfold lastB
            rw [e1, if_neg (by omega), HMB.out]
            unfold metB; omega
          have H7 := Lib.hid h7
          have E1 := Lib.hid e1
          have E2 := Lib.hid e2
          clear hiff hwd h7 e1 e2
          by_cases hret : MB + 1 = n
          · exact absurd hret (by omega)
          · have gr : (MB + 1 == n) = false := by simp [hret]
            have HRET := Lib.hid hret
            clear hret
            go_wp2_with (first
              | (go_at_call 44; refine (HDS.out _).mono ?_; rintro e w' ⟨rfl, rfl⟩)
              | (go_at_call 22; refine (HDY.out _).mono ?_; rintro e w' ⟨rfl, rfl⟩)
              | (go_at_call 42; refine (HWD.out _).mono ?_; rintro e w' ⟨rfl, rfl⟩))
            go_roundw
            case rel => exact ⟨d + 1, by omega, by omega, rfl, by rw [E1.out], by rw [E2.out], by rw [E1.out]; have := HLT.out; have := HRET.out; omega, trivial⟩
            case measure => simp [intOf]; omega
        · have gw : (V != wd) = true := by simp [hwd]
          have h7 : (d - F) % 7 ≠ 0 := fun h => hwd (hiff.2 h)
          have e1 : metB F (d + 1) = MB := by rw [HMB.out]; unfold metB; omega
          have e2 : lastB F (d + 1) = LB := by
            rw [HLB.out]
            unfold lastB
            rw [e1, HMB.out]
          have E1 := Lib.hid e1
          have E2 := Lib.hid e2
          clear hiff hwd h7 e1 e2
          go_wp2_with (first
            | (go_at_call 44; refine (HDS.out _).mono ?_; rintro e w' ⟨rfl, rfl⟩)
            | (go_at_call 22; refine (HDY.out _).mono ?_; rintro e w' ⟨rfl, rfl⟩)
            | (go_at_call 42; refine (HWD.out _).mono ?_; rintro e w' ⟨rfl, rfl⟩))
          go_roundw
          case rel => exact ⟨d + 1, by omega, by omega, rfl, by rw [E1.out], by rw [E2.out], by rw [E1.out]; exact HLT.out, trivial⟩
          case measure => simp [intOf]; omega
      · have hd : d = L + 1 := by omega
        have hgt : L < d := by omega
        have HMB := Lib.hid hMB
        have HLB := Lib.hid hLB
        have HLT := Lib.hid hlt
        clear hMB hLB hlt hle
        have HDD := Lib.hid hd
        clear hd
        go_wp2_with (first
          | (go_at_call 44; refine (HDS.out _).mono ?_; rintro e w' ⟨rfl, rfl⟩))
        go_ret2
        have hyes : NthIs y m wd n := ⟨HM.out, HW.out, .inl hn1⟩
        have hD : nthD y m wd n = LB := by
          unfold nthD
          rw [if_pos hn1, ← HF.out, ← HL.out, HLB.out]
          have h1 := HMB.out
          have h2 := HDD.out
          unfold lastB
          have h3 : metB F d ≠ 0 := by unfold metB; omega
          rw [if_neg h3]
          unfold metB
          omega
        rw [HR.out, if_pos hyes, hD]
        exact ⟨rfl, rfl⟩
theorem rnth_yes (y m wd n : Int) (h : NthIs y m wd n) (w : World) :
    Calls Tryd.prog 59 #[.int .i64 y, .int .i64 m, .int .i64 wd, .int .i64 n] w fun e w' => e = .returned (.tuple #[.int .i64 (nthD y m wd n), .int .i64 0]) ∧ w = w' := by
  have := rnth_good y m wd n h.1 h.2.1.1 h.2.1.2 (by have := h.2.2; omega) w
  rw [if_pos h] at this
  exact this
theorem rnth_no (y m wd n : Int) (h : ¬ NthIs y m wd n) (w : World) :
    Calls Tryd.prog 59 #[.int .i64 y, .int .i64 m, .int .i64 wd, .int .i64 n] w fun e w' => e = .returned (.tuple #[.int .i64 0, .int .i64 60]) ∧ w = w' := by
  by_cases hc : May y m 1 ∧ (1 ≤ wd ∧ wd ≤ 7) ∧ (n = -1 ∨ (1 ≤ n ∧ n ≤ 5))
  · have := rnth_good y m wd n hc.1 hc.2.1.1 hc.2.1.2 hc.2.2 w
    rw [if_neg h] at this
    exact this
  · exact rnth_bad y m wd n hc w
end Go.Proofs.YtgedcfgmfhlkdaaDoor
