/- The document's Same. -/
import Derived.Test.YthlpigffjbhmoaaDoorVRef1
set_option linter.unusedVariables false
set_option linter.unusedSimpArgs false
namespace Go.Proofs.YthlpigffjbhmoaaDoor
open Go.RowKit Go.Shelf
set_option maxRecDepth 100000 in
set_option maxHeartbeats 8000000 in
theorem rSame_any (a : Option Addr) (n cap : Nat) (l : List Ve) (hn : l.length = n) (a2 : Option Addr) (n2 cap2 : Nat) (r : List Ve) (hn2 : r.length = n2) (w : World) (hA : VesAt w.heap.size w a l) (hA2 : VesAt w.heap.size w a2 r) (hnx : n ≤ cap ∧ cap ≤ maxLen) (hnx2 : n2 ≤ cap2 ∧ cap2 ≤ maxLen) :
    Calls Tryd.prog 13 #[.slice a n cap, .slice a2 n2 cap2] w fun e w' => e = .returned (.bool (decide (l = r))) ∧ Below w.heap.size w w' := by
  unfold maxLen at hnx hnx2
  obtain ⟨hcap, hmx⟩ := hnx
  obtain ⟨hcap2, hmx2⟩ := hnx2
  by_cases hnn : n = n2
  case neg =>
    rw [decide_eq_false (fun e : l = r => hnn (by rw [← hn, ← hn2, e]))]
    have g1 : ((n : Int) != (n2 : Int)) = true := by simp; omega
    clear hA hA2 hn hn2
    go_enter Tryd.func13, Tryd.ntmps13
    go_wp2
    go_ret
    exact ⟨rfl, Below.refl _ _⟩
  subst hnn
  have HA := Lib.hid hA
  have HA2 := Lib.hid hA2
  have HN := Lib.hid hn
  have HN2 := Lib.hid hn2
  clear hA hA2 hn hn2
  go_enter Tryd.func13, Tryd.ntmps13
  go_wp2_with fail
  go_loopw [5] (fun i wr => ∃ k : Nat, k ≤ n ∧ i = .int .i64 k ∧ (∀ j, j < k → l[j]? = r[j]?) ∧ Below w.heap.size w wr) (fun i _ => (n - intOf i).toNat)
  case atStart => exact ⟨0, Nat.zero_le _, rfl, fun j hj => absurd hj (Nat.not_lt_zero _), Below.refl _ _⟩
  case round =>
    obtain ⟨k, hk, rfl, hall, hb⟩ := hrel
    have HALL := Lib.hid hall
    have HB := Lib.hid hb
    clear hall hb
    by_cases hlt : k < n
    · have hlti : (k : Int) < n := by omega
      obtain ⟨⟨f, ps⟩, hv⟩ : ∃ v, l[k]? = some v := ⟨_, List.getElem?_eq_getElem (by rw [HN.out]; exact hlt)⟩
      obtain ⟨⟨f2, ps2⟩, hv2⟩ : ∃ v, r[k]? = some v := ⟨_, List.getElem?_eq_getElem (by rw [HN2.out]; exact hlt)⟩
      obtain ⟨b, o, pa, pc, rfl, hbl, c0, c1, hle, hup⟩ := HA.out.next HB.out (Nat.le_refl _) k _ hv
      obtain ⟨b2, o2, pa2, pc2, rfl, hbl2, d0, d1, hle2, hup2⟩ := HA2.out.next HB.out (Nat.le_refl _) k _ hv2
      obtain ⟨m, hm⟩ : ∃ m, ps.length = m := ⟨_, rfl⟩
      obtain ⟨m2, hm2⟩ : ∃ m, ps2.length = m := ⟨_, rfl⟩
      simp only at c0 c1 hle d0 d1 hle2 hup hup2
      rw [hm] at c1 hle
      rw [hm2] at d1 hle2
      have HV := Lib.hid hv
      have HV2 := Lib.hid hv2
      have HM := Lib.hid hm
      have HM2 := Lib.hid hm2
      have HNO := Lib.hid (fun (h : (⟨f, ps⟩ : Ve) ≠ ⟨f2, ps2⟩) => (show decide (l = r) = false from decide_eq_false (fun e => h (by have := HV.out; rw [e, HV2.out] at this; cases this; rfl))))
      have HUP := Lib.hid hup
      have HUP2 := Lib.hid hup2
      clear hv hv2 hm hm2 hup hup2
      unfold maxLen at hle hle2
      by_cases q1 : f = f2
      case neg =>
        have g1 : (f != f2) = true := by simp [q1]
        have HER := Lib.hid (HNO.out (fun e => q1 (by cases e; rfl)))
        clear q1
        go_wp2_with fail
        go_quiet (fail)
        go_wp2
        go_ret
        rw [HER.out]
        exact ⟨rfl, below_drewN HB.out _⟩
      have g1 : (f != f2) = false := by simp [q1]
      by_cases q2 : m = m2
      case neg =>
        have g2 : ((m : Int) != (m2 : Int)) = true := by simp; omega
        have HER := Lib.hid (HNO.out (fun e => q2 (by rw [← HM.out, ← HM2.out]; cases e; rfl)))
        clear q1 q2
        go_wp2_with fail
        go_quiet (fail)
        go_wp2
        go_ret
        rw [HER.out]
        exact ⟨rfl, below_drewN HB.out _⟩
      have g2 : ((m : Int) != (m2 : Int)) = false := by simp [q2]
      have Q1 := Lib.hid q1
      have Q2 := Lib.hid q2
      clear q1 q2
      go_wp2_with fail
      go_quiet (fail)
      go_wp2_with fail
      rename_i nq
      have HBW := Lib.hid (below_drewN HB.out nq)
      obtain ⟨wo, hwo⟩ : ∃ wo : World, wr.drewN nq = wo := ⟨_, rfl⟩
      rw [hwo] at HBW ⊢
      have HWO := Lib.hid hwo
      clear hwo
      go_loopw [6] (fun i w3 => ∃ q : Nat, q ≤ m ∧ i = .int .i64 q ∧ (∀ j, j < q → ps[j]? = ps2[j]?) ∧ Below w.heap.size w w3) (fun i _ => (m - intOf i).toNat)
      case atStart => exact ⟨0, Nat.zero_le _, rfl, fun j hj => absurd hj (Nat.not_lt_zero _), HBW.out⟩
      case round =>
        obtain ⟨q, hq, rfl, hall2, hb2⟩ := hrel
        have HALL2 := Lib.hid hall2
        have HB2 := Lib.hid hb2
        obtain ⟨b', o', pa', pc', e', _, x0, x1, _, hup⟩ := HA.out.next hb2 (Nat.le_refl _) k _ HV.out
        cases e'
        obtain ⟨b', o', pa2', pc2', e', _, y0, y1, _, hup2⟩ := HA2.out.next hb2 (Nat.le_refl _) k _ HV2.out
        cases e'
        simp only at x0 x1 y0 y1 hup hup2
        rw [HM.out] at x1
        rw [HM2.out] at y1
        clear hall2 hb2 c0 c1 d0 d1
        by_cases hqm : q < m
        · have hqi : (q : Int) < m := by omega
          have hqi2 : (q : Int) < m2 := by have := Q2.out; omega
          obtain ⟨p, hp⟩ : ∃ p, ps[q]? = some p := ⟨_, List.getElem?_eq_getElem (by rw [HM.out]; exact hqm)⟩
          obtain ⟨p2, hp2⟩ : ∃ p, ps2[q]? = some p := ⟨_, List.getElem?_eq_getElem (by rw [HM2.out, ← Q2.out]; exact hqm)⟩
          obtain ⟨b3, o3, rfl, _, x2⟩ := hup q p hp
          obtain ⟨b4, o4, rfl, _, y2⟩ := hup2 q p2 hp2
          have HP := Lib.hid hp
          have HP2 := Lib.hid hp2
          clear hp hp2 hup hup2
          by_cases hpp : p = p2
          · have g3 : (p != p2) = false := by simp [hpp]
            have HPP := Lib.hid hpp
            clear hpp
            go_wp2_with fail
            go_quiet (fail)
            go_wp2
            go_roundw
            case rel => exact ⟨q + 1, by omega, by go_num, fun j hj => by rcases Nat.lt_succ_iff_lt_or_eq.1 hj with h' | h'; exact HALL2.out j h'; rw [h', HP.out, HP2.out, HPP.out], below_drewN HB2.out _⟩
            case measure => first | (simp [intOf]; done) | (simp [intOf]; omega)
          · have g3 : (p != p2) = true := by simp [hpp]
            have HER := Lib.hid (HNO.out (fun e => hpp (by
              have := HP.out
              rw [show ps = ps2 by cases e; rfl, HP2.out] at this
              cases this; rfl)))
            clear hpp
            go_wp2_with fail
            go_quiet (fail)
            go_wp2
            go_ret
            rw [HER.out]
            exact ⟨rfl, below_drewN HB2.out _⟩
        · have hqe : q = m := by omega
          subst hqe
          have hnl : ¬ ((q : Int) < q) := by omega
          have HEQ := Lib.hid (show l[k]? = r[k]? by
            rw [HV.out, HV2.out, Q1.out]
            congr 2
            refine List.ext_getElem? (fun i => ?_)
            by_cases hi : i < q
            · exact HALL2.out i hi
            · rw [List.getElem?_eq_none (by rw [HM.out]; omega), List.getElem?_eq_none (by rw [HM2.out]; have := Q2.out; omega)])
          clear hup hup2
          go_wp2
          go_roundw
          case rel => exact ⟨k + 1, by omega, by go_num, fun j hj => by rcases Nat.lt_succ_iff_lt_or_eq.1 hj with h' | h'; exact HALL.out j h'; rw [h']; exact HEQ.out, HB2.out⟩
          case measure => first | (simp [intOf]; done) | (simp [intOf]; omega)
    · have hke : k = n := by omega
      subst hke
      have hnl : ¬ ((k : Int) < k) := by omega
      have HYES := Lib.hid (show decide (l = r) = true from decide_eq_true (List.ext_getElem? (fun i => by
        by_cases hi : i < k
        · exact HALL.out i hi
        · rw [List.getElem?_eq_none (by rw [HN.out]; omega), List.getElem?_eq_none (by rw [HN2.out]; omega)])))
      go_wp2
      go_ret
      rw [HYES.out]
      exact ⟨rfl, HB.out⟩
end Go.Proofs.YthlpigffjbhmoaaDoor
