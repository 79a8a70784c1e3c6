/- The document's Check and Plan of tables. -/
import Derived.Test.YtmbimnphdhmapaaBRef1
import Derived.Test.YtmbimnphdhmapaaBTab
set_option linter.unusedVariables false
set_option linter.unusedSimpArgs false
namespace Go.Proofs.Ytmbimnphdhmapaa
open Go.RowKit Go.Shelf
set_option maxRecDepth 100000 in
set_option maxHeartbeats 4000000 in
theorem rCheckT_any (pa : Option Addr) (pl pc : Nat) (ra : Option Addr) (rl rc : Nat) (P : Nat → Pl) (R : Nat → Ru) (w : World) (hP : PlsAt w.heap.size w pa pl P) (hR : RusAt w.heap.size w ra rl R) (hlm : pl ≤ maxLen) (hrm : rl ≤ maxLen) :
    Calls Try.prog 23 #[tabV pa pl pc ra rl rc] w fun e w' => e = .returned (.bool (decide (TabIs P pl R rl))) ∧ Below w.heap.size w w' := by
  unfold maxLen at hlm hrm
  have hz := heap_alloc_new w (.cells #[.slice pa pl pc, .slice ra rl rc] 45)
  have hb0 := (Below.refl _ w).alloc (Nat.le_refl _) (.cells #[.slice pa pl pc, .slice ra rl rc] 45)
  obtain ⟨X, hX⟩ : ∃ X, X = w.alloc (.cells #[.slice pa pl pc, .slice ra rl rc] 45) := ⟨_, rfl⟩
  rw [← hX] at hz hb0
  have hxs : X.heap.size = w.heap.size + 1 := by rw [hX, World.size_alloc]
  have HZ := Lib.hid hz
  have HB := Lib.hid hb0
  have HX := Lib.hid hX
  have HXS := Lib.hid hxs
  have HP := Lib.hid (hP.next hb0 (Nat.le_refl _) (Nat.le_refl _))
  have HR := Lib.hid (hR.next hb0 (Nat.le_refl _) (Nat.le_refl _))
  clear hz hb0 hX hxs hP hR
  by_cases h1 : pl < 1
  · rw [decide_eq_false (fun h => by have := h.1; omega)]
    rw [HX.out] at HB
    have g1 : (pl : Int) < 1 := by omega
    go_enter Try.func23, Try.ntmps23
    go_wp2
    go_ret
    exact ⟨rfl, HB.out⟩
  by_cases h2 : 50 < pl
  · rw [decide_eq_false (fun h => by have := h.2.1; omega)]
    rw [HX.out] at HB
    have g1 : ¬ (pl : Int) < 1 := by omega
    have g2 : (50 : Int) < pl := by omega
    go_enter Try.func23, Try.ntmps23
    go_wp2
    go_ret
    exact ⟨rfl, HB.out⟩
  by_cases h3 : 100 < rl
  · rw [decide_eq_false (fun h => by have := h.2.2.1; omega)]
    rw [HX.out] at HB
    have g1 : ¬ (pl : Int) < 1 := by omega
    have g2 : ¬ (50 : Int) < pl := by omega
    have g3 : (100 : Int) < rl := by omega
    go_enter Try.func23, Try.ntmps23
    go_wp2
    go_ret
    exact ⟨rfl, HB.out⟩
  have g1 : ¬ (pl : Int) < 1 := by omega
  have g2 : ¬ (50 : Int) < pl := by omega
  have g3 : ¬ (100 : Int) < rl := by omega
  go_enter Try.func23, Try.ntmps23
  go_wp2
  go_loopw [3] (fun i wr => ∃ k : Nat, k ≤ pl ∧ i = .int .i64 k ∧ (∀ j, j < k → PlanIs (P j).L (P j).len) ∧ Below X.heap.size X wr) (fun i _ => (pl - intOf i).toNat)
  case atStart => exact ⟨0, Nat.zero_le _, rfl, fun j hj => absurd hj (Nat.not_lt_zero _), by rw [HX.out]; exact Below.refl _ _⟩
  case round =>
    obtain ⟨k, hk, rfl, hall, hb⟩ := hrel
    have HA := Lib.hid hall
    have HBR := Lib.hid hb
    have hzr := (hb.block w.heap.size (by rw [HXS.out]; omega)).trans HZ.out
    have b0 : wr.cell? ⟨w.heap.size, 0, none⟩ = some (.slice pa pl pc) := cell_of_row wr _ 0 _ _ _ hzr
    have b1 : wr.cell? ⟨w.heap.size, 1, none⟩ = some (.slice ra rl rc) := cell_of_row wr _ 1 _ _ _ hzr
    clear hall hb hzr
    by_cases hlt : k < pl
    · have hlti : (k : Int) < pl := by omega
      obtain ⟨b, o, rfl, hbl, c0, hle, hsw⟩ := HP.out.next HBR.out (by rw [HXS.out]; omega) (Nat.le_refl _) k hlt
      obtain ⟨q, hq⟩ : ∃ q, P k = q := ⟨_, rfl⟩
      rw [hq] at c0 hle hsw
      obtain ⟨qa, ql, qc, qL⟩ := q
      simp only at c0 hle hsw
      have c1 : wr.cell? ⟨b, o + k * 1, none⟩ = some (.slice qa ql qc) := by rw [Nat.mul_one]; exact c0
      have HI := Lib.hid (rMayP_any qa ql qc qL wr (hsw.mono (by have := HBR.out.size; rw [HXS.out] at this; omega)) (Nat.le_trans hle.1 hle.2))
      have HE := Lib.hid hq
      clear hq hle hsw
      by_cases hi : PlanIs qL ql
      · rw [decide_eq_true hi] at HI
        have HK := Lib.hid (show PlanIs (P k).L (P k).len by rw [HE.out]; exact hi)
        clear hi
        go_wp2_with fail
        refine HI.out.mono ?_
        rintro e w2 ⟨rfl, hBi⟩
        have HBI := Lib.hid hBi
        clear hBi
        go_wp2
        go_roundw
        case rel => exact ⟨k + 1, by omega, by go_num, fun j hj => by rcases Nat.lt_succ_iff_lt_or_eq.1 hj with q | q; exact HA.out j q; rw [q]; exact HK.out, HBR.out.trans (HBI.out.mono HBR.out.size)⟩
        case measure => first | (simp [intOf]; done) | (simp [intOf]; omega)
      · rw [decide_eq_false hi] at HI
        have HNO := Lib.hid (show decide (TabIs P pl R rl) = false from decide_eq_false (fun q => hi (by have := q.2.2.2.1 k hlt; rw [HE.out] at this; exact this)))
        clear hi
        go_wp2_with fail
        refine HI.out.mono ?_
        rintro e w2 ⟨rfl, hBi⟩
        have HBI := Lib.hid hBi
        clear hBi
        go_wp2
        go_ret
        rw [HNO.out]
        exact ⟨rfl, HB.out.trans ((HBR.out.trans (HBI.out.mono HBR.out.size)).mono (by rw [HXS.out]; omega))⟩
    · have hke : k = pl := by omega
      subst hke
      have hnl : ¬ ((k : Int) < k) := by omega
      go_wp2
      obtain ⟨wo, rfl⟩ : ∃ wo : World, wo = wr := ⟨_, rfl⟩
      go_loopw [5] (fun i wr2 => ∃ m : Nat, m ≤ rl ∧ i = .int .i64 m ∧ (∀ j, j < m → RuIs (R j) k) ∧ Below X.heap.size X wr2) (fun i _ => (rl - intOf i).toNat)
      case atStart => exact ⟨0, Nat.zero_le _, rfl, fun j hj => absurd hj (Nat.not_lt_zero _), HBR.out⟩
      case round =>
        obtain ⟨m, hm, rfl, hall2, hb2⟩ := hrel
        have HA2 := Lib.hid hall2
        have HBR2 := Lib.hid hb2
        have hzr := (hb2.block w.heap.size (by rw [HXS.out]; omega)).trans HZ.out
        have d0 : wr.cell? ⟨w.heap.size, 0, none⟩ = some (.slice pa k pc) := cell_of_row wr _ 0 _ _ _ hzr
        have d1 : wr.cell? ⟨w.heap.size, 1, none⟩ = some (.slice ra rl rc) := cell_of_row wr _ 1 _ _ _ hzr
        clear hall2 hb2 b0 b1
        by_cases hlt2 : m < rl
        · have hlti2 : (m : Int) < rl := by omega
          obtain ⟨b, o, rfl, hbl, c0, c1, c2⟩ := HR.out.next HBR2.out (by rw [HXS.out]; omega) (Nat.le_refl _) m hlt2
          obtain ⟨r, hr⟩ : ∃ r, R m = r := ⟨_, rfl⟩
          rw [hr] at c0 c1 c2
          obtain ⟨rs, rk, rp⟩ := r
          simp only at c0 c1 c2
          have HE := Lib.hid hr
          have hb1 := HBR2.out.alloc HBR2.out.size (.cells #[.int .i64 rs, .int .i64 rk, .int .i64 rp] 47)
          have HB1 := Lib.hid hb1
          have hz2 := heap_old hzr (.cells #[.int .i64 rs, .int .i64 rk, .int .i64 rp] 47)
          have e0 := cell_of_row _ _ 0 _ _ _ hz2
          clear hr hb1 hzr hz2
          by_cases n0 : rs < 0
          · have HNO := Lib.hid (show decide (TabIs P k R rl) = false from decide_eq_false (fun q => by have h := (q.2.2.2.2 m hlt2).1.1; rw [HE.out] at h; simp only at h; omega))
            go_wp2
            go_ret
            rw [HNO.out]
            exact ⟨rfl, HB.out.trans (HB1.out.mono (by rw [HXS.out]; omega))⟩
          · skip
            by_cases n1 : 99 < rs
            · have HNO := Lib.hid (show decide (TabIs P k R rl) = false from decide_eq_false (fun q => by have h := (q.2.2.2.2 m hlt2).1.2; rw [HE.out] at h; simp only at h; omega))
              go_wp2
              go_ret
              rw [HNO.out]
              exact ⟨rfl, HB.out.trans (HB1.out.mono (by rw [HXS.out]; omega))⟩
            · skip
              by_cases n2 : rk < 0
              · have HNO := Lib.hid (show decide (TabIs P k R rl) = false from decide_eq_false (fun q => by have h := (q.2.2.2.2 m hlt2).2.1.1; rw [HE.out] at h; simp only at h; omega))
                go_wp2
                go_ret
                rw [HNO.out]
                exact ⟨rfl, HB.out.trans (HB1.out.mono (by rw [HXS.out]; omega))⟩
              · skip
                by_cases n3 : 4 < rk
                · have HNO := Lib.hid (show decide (TabIs P k R rl) = false from decide_eq_false (fun q => by have h := (q.2.2.2.2 m hlt2).2.1.2; rw [HE.out] at h; simp only at h; omega))
                  go_wp2
                  go_ret
                  rw [HNO.out]
                  exact ⟨rfl, HB.out.trans (HB1.out.mono (by rw [HXS.out]; omega))⟩
                · skip
                  by_cases n4 : rp < 0
                  · have HNO := Lib.hid (show decide (TabIs P k R rl) = false from decide_eq_false (fun q => by have h := (q.2.2.2.2 m hlt2).2.2.1; rw [HE.out] at h; simp only at h; omega))
                    go_wp2
                    go_ret
                    rw [HNO.out]
                    exact ⟨rfl, HB.out.trans (HB1.out.mono (by rw [HXS.out]; omega))⟩
                  · skip
                    by_cases n5 : (k : Int) ≤ rp
                    · have HNO := Lib.hid (show decide (TabIs P k R rl) = false from decide_eq_false (fun q => by have h := (q.2.2.2.2 m hlt2).2.2.2; rw [HE.out] at h; simp only at h; omega))
                      go_wp2
                      go_ret
                      rw [HNO.out]
                      exact ⟨rfl, HB.out.trans (HB1.out.mono (by rw [HXS.out]; omega))⟩
                    · skip
                      have HOK := Lib.hid (show RuIs (R m) k by rw [HE.out]; exact ⟨⟨by simp only; omega, by simp only; omega⟩, ⟨by simp only; omega, by simp only; omega⟩, by simp only; omega, by simp only; omega⟩)
                      go_wp2
                      go_roundw
                      case rel => exact ⟨m + 1, by omega, by go_num, fun j hj => by rcases Nat.lt_succ_iff_lt_or_eq.1 hj with q | q; exact HA2.out j q; rw [q]; exact HOK.out, HB1.out⟩
                      case measure => first | (simp [intOf]; done) | (simp [intOf]; omega)
        · have hme : m = rl := by omega
          subst hme
          have hnl2 : ¬ ((m : Int) < m) := by omega
          have HYES := Lib.hid (show decide (TabIs P k R m) = true from decide_eq_true ⟨by omega, by omega, by omega, HA.out, HA2.out⟩)
          go_wp2
          go_ret
          rw [HYES.out]
          exact ⟨rfl, HB.out.trans (HBR2.out.mono (by rw [HXS.out]; omega))⟩
end Go.Proofs.Ytmbimnphdhmapaa
