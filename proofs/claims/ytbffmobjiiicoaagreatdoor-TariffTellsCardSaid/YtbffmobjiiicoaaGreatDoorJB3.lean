/- Joined: BRef1 BRef4 BRef5. -/
import Derived.Test.YtbffmobjiiicoaaGreatDoorJB1
section
/- The document's Band and Next of plans. -/
set_option linter.unusedVariables false
set_option linter.unusedSimpArgs false
namespace Go.Proofs.YtbffmobjiiicoaaGreatDoor.B9
open Go.RowKit Go.Shelf
/-- What a Next returns. -/
def BNextE (L : Nat → Sw) (len : Nat) (x : Int) (e : Ending) : Prop := ∃ n is, BNext L len x n is ∧ e = .returned (.tuple #[.int .i64 n, .bool is])
theorem BNextE.mk {L : Nat → Sw} {len : Nat} {x n : Int} {is : Bool} (h : BNext L len x n is) : BNextE L len x (.returned (.tuple #[.int .i64 n, .bool is])) := ⟨n, is, h, rfl⟩
set_option maxRecDepth 100000 in
set_option maxHeartbeats 4000000 in
theorem rBandP_no (a : Option Addr) (len cap : Nat) (L : Nat → Sw) (x : Int) (hno : ¬ (PlanIs L len ∧ InDay x)) (w : World) (hA : SwsAt w.heap.size w a len L) (hlm : len ≤ maxLen) :
    Calls Tryz.prog 36 #[.slice a len cap, .int .i64 x] w fun e w' => e = .returned (.tuple #[.int .i64 0, .bool false]) ∧ Below w.heap.size w w' := by
  have HC := Lib.hid (rMayP_any a len cap L w hA hlm)
  clear hA hlm
  by_cases hp : PlanIs L len
  · have hd : ¬ InDay x := fun h => hno ⟨hp, h⟩
    rw [decide_eq_true hp] at HC
    clear hno hp
    by_cases x0 : x < 0
    · go_enter Tryz.func36, Tryz.ntmps36
      go_wp2_with fail
      refine HC.out.mono ?_
      rintro e w1 ⟨rfl, hB⟩
      have HB := Lib.hid hB
      clear HC hd hB
      go_wp2
      go_ret2
      exact ⟨rfl, HB.out⟩
    · have x1 : 1440 ≤ x := by unfold InDay at hd; omega
      go_enter Tryz.func36, Tryz.ntmps36
      go_wp2_with fail
      refine HC.out.mono ?_
      rintro e w1 ⟨rfl, hB⟩
      have HB := Lib.hid hB
      clear HC hd hB
      go_wp2
      go_ret2
      exact ⟨rfl, HB.out⟩
  · rw [decide_eq_false hp] at HC
    clear hno hp
    go_enter Tryz.func36, Tryz.ntmps36
    go_wp2_with fail
    refine HC.out.mono ?_
    rintro e w1 ⟨rfl, hB⟩
    have HB := Lib.hid hB
    clear HC hB
    go_wp2
    go_ret2
    exact ⟨rfl, HB.out⟩
set_option maxRecDepth 100000 in
set_option maxHeartbeats 4000000 in
theorem rBandP_yes (a : Option Addr) (len cap : Nat) (L : Nat → Sw) (x : Int) (hp : PlanIs L len) (hd : InDay x) (w : World) (hA : SwsAt w.heap.size w a len L) :
    Calls Tryz.prog 36 #[.slice a len cap, .int .i64 x] w fun e w' => e = .returned (.tuple #[.int .i64 (bandN L len x), .bool true]) ∧ Below w.heap.size w w' := by
  have h48 := hp.2.1
  have h1 := hp.1
  have HC := Lib.hid (rMayP_any a len cap L w hA (by unfold maxLen; omega))
  rw [decide_eq_true hp] at HC
  have HA := Lib.hid hA
  have x0 : ¬ x < 0 := by unfold InDay at hd; omega
  have x1 : ¬ 1440 ≤ x := by unfold InDay at hd; omega
  obtain ⟨b, o, rfl, _⟩ := hA.base (by omega)
  clear hp hd hA
  go_enter Tryz.func36, Tryz.ntmps36
  go_wp2_with fail
  refine HC.out.mono ?_
  rintro e w1 ⟨rfl, hB⟩
  have HB1 := Lib.hid hB
  clear HC hB
  go_wp2
  go_loopw [7, 8] (fun u i wr => ∃ k : Nat, k ≤ len ∧ i = .int .i64 k ∧ u = .int .i64 (bandN L k x) ∧ Below w.heap.size w wr) (fun _ i _ => (len - intOf i).toNat)
  case atStart => exact ⟨0, Nat.zero_le _, rfl, rfl, HB1.out⟩
  case round =>
    obtain ⟨k, hk, rfl, rfl, hb⟩ := hrel
    have HB := Lib.hid hb
    clear hb HB1
    by_cases hlt : k < len
    · have hlti : (k : Int) < len := by omega
      obtain ⟨b', o', e, hcr⟩ := (HA.out.next HB.out (Nat.le_refl _) (Nat.le_refl _)).base (by omega)
      cases e
      obtain ⟨c0, c1⟩ := hcr k hlt
      clear hcr
      obtain ⟨v, hv⟩ : ∃ v, bandN L k x = v := ⟨_, rfl⟩
      obtain ⟨m, hm⟩ : ∃ z, (L k).m = z := ⟨_, rfl⟩
      obtain ⟨bb, hbb⟩ : ∃ z, (L k).b = z := ⟨_, rfl⟩
      rw [hm] at c0
      rw [hbb] at c1
      rw [hv]
      by_cases hle : m ≤ x
      · have HN := Lib.hid (show bandN L (k + 1) x = bb by rw [bandN, if_pos (by rw [hm]; exact hle), hbb])
        clear hv hm hbb
        go_wp2
        go_roundw
        case rel => exact ⟨k + 1, by omega, by go_num, by rw [HN.out], HB.out⟩
        case measure => first | (simp [intOf]; done) | (simp [intOf]; omega)
      · have HN := Lib.hid (show bandN L (k + 1) x = v by rw [bandN, if_neg (by rw [hm]; exact hle), hv])
        clear hv hm hbb
        go_wp2
        go_roundw
        case rel => exact ⟨k + 1, by omega, by go_num, by rw [HN.out], HB.out⟩
        case measure => first | (simp [intOf]; done) | (simp [intOf]; omega)
    · have hke : k = len := by omega
      subst hke
      go_wp2
      go_ret2
      exact ⟨rfl, HB.out⟩
end Go.Proofs.YtbffmobjiiicoaaGreatDoor.B9
end
section
/- The document's Check and Plan of tables. -/
set_option linter.unusedVariables false
set_option linter.unusedSimpArgs false
namespace Go.Proofs.YtbffmobjiiicoaaGreatDoor.B9
open Go.RowKit Go.Shelf
set_option maxRecDepth 100000 in
set_option maxHeartbeats 4000000 in
theorem rCheckT_any (pa : Option Addr) (pl pc : Nat) (ra : Option Addr) (rl rc : Nat) (P : Nat → Pl) (R : Nat → Ru) (w : World) (hP : PlsAt w.heap.size w pa pl P) (hR : RusAt w.heap.size w ra rl R) (hlm : pl ≤ maxLen) (hrm : rl ≤ maxLen) :
    Calls Tryz.prog 23 #[tabV pa pl pc ra rl rc] w fun e w' => e = .returned (.bool (decide (TabIs P pl R rl))) ∧ Below w.heap.size w w' := by
  unfold maxLen at hlm hrm
  have hz := heap_alloc_new w (.cells #[.slice pa pl pc, .slice ra rl rc] 65)
  have hb0 := (Below.refl _ w).alloc (Nat.le_refl _) (.cells #[.slice pa pl pc, .slice ra rl rc] 65)
  obtain ⟨X, hX⟩ : ∃ X, X = w.alloc (.cells #[.slice pa pl pc, .slice ra rl rc] 65) := ⟨_, rfl⟩
  rw [← hX] at hz hb0
  have hxs : X.heap.size = w.heap.size + 1 := by rw [hX, World.size_alloc]
  have HZ := Lib.hid hz
  have HB := Lib.hid hb0
  have HX := Lib.hid hX
  have HXS := Lib.hid hxs
  have HP := Lib.hid (hP.next hb0 (Nat.le_refl _) (Nat.le_refl _))
  have HR := Lib.hid (hR.next hb0 (Nat.le_refl _) (Nat.le_refl _))
  clear hz hb0 hX hxs hP hR
  by_cases h1 : pl < 1
  · rw [decide_eq_false (fun h => by have := h.1; omega)]
    rw [HX.out] at HB
    have g1 : (pl : Int) < 1 := by omega
    go_enter Tryz.func23, Tryz.ntmps23
    go_wp2
    go_ret
    exact ⟨rfl, HB.out⟩
  by_cases h2 : 50 < pl
  · rw [decide_eq_false (fun h => by have := h.2.1; omega)]
    rw [HX.out] at HB
    have g1 : ¬ (pl : Int) < 1 := by omega
    have g2 : (50 : Int) < pl := by omega
    go_enter Tryz.func23, Tryz.ntmps23
    go_wp2
    go_ret
    exact ⟨rfl, HB.out⟩
  by_cases h3 : 100 < rl
  · rw [decide_eq_false (fun h => by have := h.2.2.1; omega)]
    rw [HX.out] at HB
    have g1 : ¬ (pl : Int) < 1 := by omega
    have g2 : ¬ (50 : Int) < pl := by omega
    have g3 : (100 : Int) < rl := by omega
    go_enter Tryz.func23, Tryz.ntmps23
    go_wp2
    go_ret
    exact ⟨rfl, HB.out⟩
  have g1 : ¬ (pl : Int) < 1 := by omega
  have g2 : ¬ (50 : Int) < pl := by omega
  have g3 : ¬ (100 : Int) < rl := by omega
  go_enter Tryz.func23, Tryz.ntmps23
  go_wp2
  go_loopw [3] (fun i wr => ∃ k : Nat, k ≤ pl ∧ i = .int .i64 k ∧ (∀ j, j < k → PlanIs (P j).L (P j).len) ∧ Below X.heap.size X wr) (fun i _ => (pl - intOf i).toNat)
  case atStart => exact ⟨0, Nat.zero_le _, rfl, fun j hj => absurd hj (Nat.not_lt_zero _), by rw [HX.out]; exact Below.refl _ _⟩
  case round =>
    obtain ⟨k, hk, rfl, hall, hb⟩ := hrel
    have HA := Lib.hid hall
    have HBR := Lib.hid hb
    have hzr := (hb.block w.heap.size (by rw [HXS.out]; omega)).trans HZ.out
    have b0 : wr.cell? ⟨w.heap.size, 0, none⟩ = some (.slice pa pl pc) := cell_of_row wr _ 0 _ _ _ hzr
    have b1 : wr.cell? ⟨w.heap.size, 1, none⟩ = some (.slice ra rl rc) := cell_of_row wr _ 1 _ _ _ hzr
    clear hall hb hzr
    by_cases hlt : k < pl
    · have hlti : (k : Int) < pl := by omega
      obtain ⟨b, o, rfl, hbl, c0, hle, hsw⟩ := HP.out.next HBR.out (by rw [HXS.out]; omega) (Nat.le_refl _) k hlt
      obtain ⟨q, hq⟩ : ∃ q, P k = q := ⟨_, rfl⟩
      rw [hq] at c0 hle hsw
      obtain ⟨qa, ql, qc, qL⟩ := q
      simp only at c0 hle hsw
      have c1 : wr.cell? ⟨b, o + k * 1, none⟩ = some (.slice qa ql qc) := by rw [Nat.mul_one]; exact c0
      have HI := Lib.hid (rMayP_any qa ql qc qL wr (hsw.mono (by have := HBR.out.size; rw [HXS.out] at this; omega)) (Nat.le_trans hle.1 hle.2))
      have HE := Lib.hid hq
      clear hq hle hsw
      by_cases hi : PlanIs qL ql
      · rw [decide_eq_true hi] at HI
        have HK := Lib.hid (show PlanIs (P k).L (P k).len by rw [HE.out]; exact hi)
        clear hi
        go_wp2_with fail
        refine HI.out.mono ?_
        rintro e w2 ⟨rfl, hBi⟩
        have HBI := Lib.hid hBi
        clear hBi
        go_wp2
        go_roundw
        case rel => exact ⟨k + 1, by omega, by go_num, fun j hj => by rcases Nat.lt_succ_iff_lt_or_eq.1 hj with q | q; exact HA.out j q; rw [q]; exact HK.out, HBR.out.trans (HBI.out.mono HBR.out.size)⟩
        case measure => first | (simp [intOf]; done) | (simp [intOf]; omega)
      · rw [decide_eq_false hi] at HI
        have HNO := Lib.hid (show decide (TabIs P pl R rl) = false from decide_eq_false (fun q => hi (by have := q.2.2.2.1 k hlt; rw [HE.out] at this; exact this)))
        clear hi
        go_wp2_with fail
        refine HI.out.mono ?_
        rintro e w2 ⟨rfl, hBi⟩
        have HBI := Lib.hid hBi
        clear hBi
        go_wp2
        go_ret
        rw [HNO.out]
        exact ⟨rfl, HB.out.trans ((HBR.out.trans (HBI.out.mono HBR.out.size)).mono (by rw [HXS.out]; omega))⟩
    · have hke : k = pl := by omega
      subst hke
      have hnl : ¬ ((k : Int) < k) := by omega
      go_wp2
      obtain ⟨wo, rfl⟩ : ∃ wo : World, wo = wr := ⟨_, rfl⟩
      go_loopw [5] (fun i wr2 => ∃ m : Nat, m ≤ rl ∧ i = .int .i64 m ∧ (∀ j, j < m → RuIs (R j) k) ∧ Below X.heap.size X wr2) (fun i _ => (rl - intOf i).toNat)
      case atStart => exact ⟨0, Nat.zero_le _, rfl, fun j hj => absurd hj (Nat.not_lt_zero _), HBR.out⟩
      case round =>
        obtain ⟨m, hm, rfl, hall2, hb2⟩ := hrel
        have HA2 := Lib.hid hall2
        have HBR2 := Lib.hid hb2
        have hzr := (hb2.block w.heap.size (by rw [HXS.out]; omega)).trans HZ.out
        have d0 : wr.cell? ⟨w.heap.size, 0, none⟩ = some (.slice pa k pc) := cell_of_row wr _ 0 _ _ _ hzr
        have d1 : wr.cell? ⟨w.heap.size, 1, none⟩ = some (.slice ra rl rc) := cell_of_row wr _ 1 _ _ _ hzr
        clear hall2 hb2 b0 b1
        by_cases hlt2 : m < rl
        · have hlti2 : (m : Int) < rl := by omega
          obtain ⟨b, o, rfl, hbl, c0, c1, c2⟩ := HR.out.next HBR2.out (by rw [HXS.out]; omega) (Nat.le_refl _) m hlt2
          obtain ⟨r, hr⟩ : ∃ r, R m = r := ⟨_, rfl⟩
          rw [hr] at c0 c1 c2
          obtain ⟨rs, rk, rp⟩ := r
          simp only at c0 c1 c2
          have HE := Lib.hid hr
          have hb1 := HBR2.out.alloc HBR2.out.size (.cells #[.int .i64 rs, .int .i64 rk, .int .i64 rp] 105)
          have HB1 := Lib.hid hb1
          have hz2 := heap_old hzr (.cells #[.int .i64 rs, .int .i64 rk, .int .i64 rp] 105)
          have e0 := cell_of_row _ _ 0 _ _ _ hz2
          clear hr hb1 hzr hz2
          by_cases n0 : rs < 0
          · have HNO := Lib.hid (show decide (TabIs P k R rl) = false from decide_eq_false (fun q => by have h := (q.2.2.2.2 m hlt2).1.1; rw [HE.out] at h; simp only at h; omega))
            go_wp2
            go_ret
            rw [HNO.out]
            exact ⟨rfl, HB.out.trans (HB1.out.mono (by rw [HXS.out]; omega))⟩
          · skip
            by_cases n1 : 99 < rs
            · have HNO := Lib.hid (show decide (TabIs P k R rl) = false from decide_eq_false (fun q => by have h := (q.2.2.2.2 m hlt2).1.2; rw [HE.out] at h; simp only at h; omega))
              go_wp2
              go_ret
              rw [HNO.out]
              exact ⟨rfl, HB.out.trans (HB1.out.mono (by rw [HXS.out]; omega))⟩
            · skip
              by_cases n2 : rk < 0
              · have HNO := Lib.hid (show decide (TabIs P k R rl) = false from decide_eq_false (fun q => by have h := (q.2.2.2.2 m hlt2).2.1.1; rw [HE.out] at h; simp only at h; omega))
                go_wp2
                go_ret
                rw [HNO.out]
                exact ⟨rfl, HB.out.trans (HB1.out.mono (by rw [HXS.out]; omega))⟩
              · skip
                by_cases n3 : 4 < rk
                · have HNO := Lib.hid (show decide (TabIs P k R rl) = false from decide_eq_false (fun q => by have h := (q.2.2.2.2 m hlt2).2.1.2; rw [HE.out] at h; simp only at h; omega))
                  go_wp2
                  go_ret
                  rw [HNO.out]
                  exact ⟨rfl, HB.out.trans (HB1.out.mono (by rw [HXS.out]; omega))⟩
                · skip
                  by_cases n4 : rp < 0
                  · have HNO := Lib.hid (show decide (TabIs P k R rl) = false from decide_eq_false (fun q => by have h := (q.2.2.2.2 m hlt2).2.2.1; rw [HE.out] at h; simp only at h; omega))
                    go_wp2
                    go_ret
                    rw [HNO.out]
                    exact ⟨rfl, HB.out.trans (HB1.out.mono (by rw [HXS.out]; omega))⟩
                  · skip
                    by_cases n5 : (k : Int) ≤ rp
                    · have HNO := Lib.hid (show decide (TabIs P k R rl) = false from decide_eq_false (fun q => by have h := (q.2.2.2.2 m hlt2).2.2.2; rw [HE.out] at h; simp only at h; omega))
                      go_wp2
                      go_ret
                      rw [HNO.out]
                      exact ⟨rfl, HB.out.trans (HB1.out.mono (by rw [HXS.out]; omega))⟩
                    · skip
                      have HOK := Lib.hid (show RuIs (R m) k by rw [HE.out]; exact ⟨⟨by simp only; omega, by simp only; omega⟩, ⟨by simp only; omega, by simp only; omega⟩, by simp only; omega, by simp only; omega⟩)
                      go_wp2
                      go_roundw
                      case rel => exact ⟨m + 1, by omega, by go_num, fun j hj => by rcases Nat.lt_succ_iff_lt_or_eq.1 hj with q | q; exact HA2.out j q; rw [q]; exact HOK.out, HB1.out⟩
                      case measure => first | (simp [intOf]; done) | (simp [intOf]; omega)
        · have hme : m = rl := by omega
          subst hme
          have hnl2 : ¬ ((m : Int) < m) := by omega
          have HYES := Lib.hid (show decide (TabIs P k R m) = true from decide_eq_true ⟨by omega, by omega, by omega, HA.out, HA2.out⟩)
          go_wp2
          go_ret
          rw [HYES.out]
          exact ⟨rfl, HB.out.trans (HBR2.out.mono (by rw [HXS.out]; omega))⟩
end Go.Proofs.YtbffmobjiiicoaaGreatDoor.B9
end
section
/- The document's Plan of tables. -/
set_option linter.unusedVariables false
set_option linter.unusedSimpArgs false
namespace Go.Proofs.YtbffmobjiiicoaaGreatDoor.B9
open Go.RowKit Go.Shelf
set_option maxRecDepth 100000 in
set_option maxHeartbeats 4000000 in
theorem rPlanT_no (pa : Option Addr) (pl pc : Nat) (ra : Option Addr) (rl rc : Nat) (P : Nat → Pl) (R : Nat → Ru) (s kd : Int) (hno : ¬ PlanMay P pl R rl s kd) (w : World) (hP : PlsAt w.heap.size w pa pl P) (hR : RusAt w.heap.size w ra rl R) (hlm : pl ≤ maxLen) (hrm : rl ≤ maxLen) :
    Calls Tryz.prog 35 #[tabV pa pl pc ra rl rc, .int .i64 s, .int .i64 kd] w fun e w' => e = .returned (.tuple #[.int .i64 0, .bool false]) ∧ Below w.heap.size w w' := by
  unfold maxLen at hlm hrm
  have hz := heap_alloc_new w (.cells #[.slice pa pl pc, .slice ra rl rc] 65)
  have hb0 := (Below.refl _ w).alloc (Nat.le_refl _) (.cells #[.slice pa pl pc, .slice ra rl rc] 65)
  obtain ⟨X, hX⟩ : ∃ X, X = w.alloc (.cells #[.slice pa pl pc, .slice ra rl rc] 65) := ⟨_, rfl⟩
  rw [← hX] at hz hb0
  have hxs : X.heap.size = w.heap.size + 1 := by rw [hX, World.size_alloc]
  have HZ := Lib.hid hz
  have HB := Lib.hid hb0
  have HX := Lib.hid hX
  have HXS := Lib.hid hxs
  have HP := Lib.hid (hP.next hb0 (Nat.le_refl _) (Nat.le_refl _))
  have HR := Lib.hid (hR.next hb0 (Nat.le_refl _) (Nat.le_refl _))
  clear hz hb0 hX hxs hP hR
  have HC := Lib.hid (rCheckT_any pa pl pc ra rl rc P R X (by rw [HXS.out]; exact HP.out.mono (by omega)) (by rw [HXS.out]; exact HR.out.mono (by omega)) (by unfold maxLen; omega) (by unfold maxLen; omega))
  by_cases ht : TabIs P pl R rl
  · rw [decide_eq_true ht] at HC
    by_cases n1 : s < 0
    · clear ht hno
      go_enter Tryz.func35, Tryz.ntmps35
      go_wp2_with fail
      rw [← HX.out]
      refine HC.out.mono ?_
      rintro e w1 ⟨rfl, hB⟩
      have HB1 := Lib.hid (HB.out.trans (hB.mono (by rw [HXS.out]; omega)))
      have HBX := Lib.hid hB
      clear HC hB
      go_wp2
      go_ret2
      exact ⟨rfl, HB1.out⟩
    · by_cases n2 : 99 < s
      · clear ht hno
        go_enter Tryz.func35, Tryz.ntmps35
        go_wp2_with fail
        rw [← HX.out]
        refine HC.out.mono ?_
        rintro e w1 ⟨rfl, hB⟩
        have HB1 := Lib.hid (HB.out.trans (hB.mono (by rw [HXS.out]; omega)))
        have HBX := Lib.hid hB
        clear HC hB
        go_wp2
        go_ret2
        exact ⟨rfl, HB1.out⟩
      · by_cases n3 : kd < 1
        · clear ht hno
          go_enter Tryz.func35, Tryz.ntmps35
          go_wp2_with fail
          rw [← HX.out]
          refine HC.out.mono ?_
          rintro e w1 ⟨rfl, hB⟩
          have HB1 := Lib.hid (HB.out.trans (hB.mono (by rw [HXS.out]; omega)))
          have HBX := Lib.hid hB
          clear HC hB
          go_wp2
          go_ret2
          exact ⟨rfl, HB1.out⟩
        · have n4 : 4 < kd := by
            refine Int.not_le.1 fun q => hno ⟨ht, ⟨by omega, by omega⟩, by omega, q⟩
          clear ht hno
          go_enter Tryz.func35, Tryz.ntmps35
          go_wp2_with fail
          rw [← HX.out]
          refine HC.out.mono ?_
          rintro e w1 ⟨rfl, hB⟩
          have HB1 := Lib.hid (HB.out.trans (hB.mono (by rw [HXS.out]; omega)))
          have HBX := Lib.hid hB
          clear HC hB
          go_wp2
          go_ret2
          exact ⟨rfl, HB1.out⟩
  · rw [decide_eq_false ht] at HC
    clear ht hno
    go_enter Tryz.func35, Tryz.ntmps35
    go_wp2_with fail
    rw [← HX.out]
    refine HC.out.mono ?_
    rintro e w1 ⟨rfl, hB⟩
    have HB1 := Lib.hid (HB.out.trans (hB.mono (by rw [HXS.out]; omega)))
    have HBX := Lib.hid hB
    clear HC hB
    go_wp2
    go_ret2
    exact ⟨rfl, HB1.out⟩
set_option maxRecDepth 100000 in
set_option maxHeartbeats 4000000 in
theorem rPlanT_yes (pa : Option Addr) (pl pc : Nat) (ra : Option Addr) (rl rc : Nat) (P : Nat → Pl) (R : Nat → Ru) (s kd : Int) (hyes : PlanMay P pl R rl s kd) (w : World) (hP : PlsAt w.heap.size w pa pl P) (hR : RusAt w.heap.size w ra rl R) (hlm : pl ≤ maxLen) (hrm : rl ≤ maxLen) :
    Calls Tryz.prog 35 #[tabV pa pl pc ra rl rc, .int .i64 s, .int .i64 kd] w fun e w' => PlanE R rl s kd e ∧ Below w.heap.size w w' := by
  unfold maxLen at hlm hrm
  have hz := heap_alloc_new w (.cells #[.slice pa pl pc, .slice ra rl rc] 65)
  have hb0 := (Below.refl _ w).alloc (Nat.le_refl _) (.cells #[.slice pa pl pc, .slice ra rl rc] 65)
  obtain ⟨X, hX⟩ : ∃ X, X = w.alloc (.cells #[.slice pa pl pc, .slice ra rl rc] 65) := ⟨_, rfl⟩
  rw [← hX] at hz hb0
  have hxs : X.heap.size = w.heap.size + 1 := by rw [hX, World.size_alloc]
  have HZ := Lib.hid hz
  have HB := Lib.hid hb0
  have HX := Lib.hid hX
  have HXS := Lib.hid hxs
  have HP := Lib.hid (hP.next hb0 (Nat.le_refl _) (Nat.le_refl _))
  have HR := Lib.hid (hR.next hb0 (Nat.le_refl _) (Nat.le_refl _))
  clear hz hb0 hX hxs hP hR
  have HC := Lib.hid (rCheckT_any pa pl pc ra rl rc P R X (by rw [HXS.out]; exact HP.out.mono (by omega)) (by rw [HXS.out]; exact HR.out.mono (by omega)) (by unfold maxLen; omega) (by unfold maxLen; omega))
  rw [decide_eq_true hyes.1] at HC
  have n1 : ¬ s < 0 := by have := hyes.2.1.1; omega
  have n2 : ¬ 99 < s := by have := hyes.2.1.2; omega
  have n3 : ¬ kd < 1 := by have := hyes.2.2.1; omega
  have n4 : ¬ 4 < kd := by have := hyes.2.2.2; omega
  have h100 := hyes.1.2.2.1
  clear hyes
  go_enter Tryz.func35, Tryz.ntmps35
  go_wp2_with fail
  rw [← HX.out]
  refine HC.out.mono ?_
  rintro e w1 ⟨rfl, hB⟩
  have HB1 := Lib.hid (HB.out.trans (hB.mono (by rw [HXS.out]; omega)))
  have HBX := Lib.hid hB
  clear HC hB
  go_wp2_with fail
  go_loopw [9] (fun i wr => ∃ m : Nat, m ≤ rl ∧ i = .int .i64 m ∧ (∀ j, j < m → ¬ Fits (R j) s kd) ∧ Below X.heap.size X wr) (fun i _ => (rl - intOf i).toNat)
  case atStart => exact ⟨0, Nat.zero_le _, rfl, fun j hj => absurd hj (Nat.not_lt_zero _), HBX.out⟩
  case round =>
    obtain ⟨m, hm, rfl, hall, hb⟩ := hrel
    have HA := Lib.hid hall
    have HBR := Lib.hid hb
    have hzr := (hb.block w.heap.size (by rw [HXS.out]; omega)).trans HZ.out
    have d1 : wr.cell? ⟨w.heap.size, 1, none⟩ = some (.slice ra rl rc) := cell_of_row wr _ 1 _ _ _ hzr
    clear hall hb HBX HB1 hzr
    by_cases hlt2 : m < rl
    · have hlti2 : (m : Int) < rl := by omega
      obtain ⟨b, o, rfl, hbl, c0, c1, c2⟩ := HR.out.next HBR.out (by rw [HXS.out]; omega) (Nat.le_refl _) m hlt2
      obtain ⟨r, hr⟩ : ∃ r, R m = r := ⟨_, rfl⟩
      rw [hr] at c0 c1 c2
      obtain ⟨rs, rk, rp⟩ := r
      simp only at c0 c1 c2
      have HE := Lib.hid hr
      have hb1 := HBR.out.alloc HBR.out.size (.cells #[.int .i64 rs, .int .i64 rk, .int .i64 rp] 105)
      have HB1 := Lib.hid hb1
      clear hr hb1
      by_cases s0 : rs = 0
      · have q1 : (rs == 0) = true := by simp [s0]
        by_cases k0 : rk = 0
        · have q3 : (rk == 0) = true := by simp [k0]
          have HF := Lib.hid (show Fits (R m) s kd by rw [HE.out]; exact ⟨by simp only; omega, by simp only; omega⟩)
          clear k0 s0
          go_wp2
          go_ret2
          exact ⟨PlanE.mk (p := rp) (.inl ⟨m, hlt2, HF.out, by rw [HE.out], HA.out⟩), HB.out.trans (HB1.out.mono (by rw [HXS.out]; omega))⟩
        · have q3 : (rk == 0) = false := by simp [k0]
          by_cases k1 : rk = kd
          · have q4 : (rk == kd) = true := by simp [k1]
            have HF := Lib.hid (show Fits (R m) s kd by rw [HE.out]; exact ⟨by simp only; omega, by simp only; omega⟩)
            clear k0 k1 s0
            go_wp2
            go_ret2
            exact ⟨PlanE.mk (p := rp) (.inl ⟨m, hlt2, HF.out, by rw [HE.out], HA.out⟩), HB.out.trans (HB1.out.mono (by rw [HXS.out]; omega))⟩
          · have q4 : (rk == kd) = false := by simp [k1]
            have HF := Lib.hid (show ¬ Fits (R m) s kd by rw [HE.out]; rintro ⟨u, v⟩; simp only at u v; omega)
            clear k0 k1 s0
            go_wp2
            go_roundw
            case rel => exact ⟨m + 1, by omega, by go_num, fun j hj => by rcases Nat.lt_succ_iff_lt_or_eq.1 hj with q | q; exact HA.out j q; rw [q]; exact HF.out, HB1.out⟩
            case measure => first | (simp [intOf]; done) | (simp [intOf]; omega)
      · have q1 : (rs == 0) = false := by simp [s0]
        by_cases s1 : rs = s
        · have q2 : (rs == s) = true := by simp [s1]
          by_cases k0 : rk = 0
          · have q3 : (rk == 0) = true := by simp [k0]
            have HF := Lib.hid (show Fits (R m) s kd by rw [HE.out]; exact ⟨by simp only; omega, by simp only; omega⟩)
            clear k0 s0 s1
            go_wp2
            go_ret2
            exact ⟨PlanE.mk (p := rp) (.inl ⟨m, hlt2, HF.out, by rw [HE.out], HA.out⟩), HB.out.trans (HB1.out.mono (by rw [HXS.out]; omega))⟩
          · have q3 : (rk == 0) = false := by simp [k0]
            by_cases k1 : rk = kd
            · have q4 : (rk == kd) = true := by simp [k1]
              have HF := Lib.hid (show Fits (R m) s kd by rw [HE.out]; exact ⟨by simp only; omega, by simp only; omega⟩)
              clear k0 k1 s0 s1
              go_wp2
              go_ret2
              exact ⟨PlanE.mk (p := rp) (.inl ⟨m, hlt2, HF.out, by rw [HE.out], HA.out⟩), HB.out.trans (HB1.out.mono (by rw [HXS.out]; omega))⟩
            · have q4 : (rk == kd) = false := by simp [k1]
              have HF := Lib.hid (show ¬ Fits (R m) s kd by rw [HE.out]; rintro ⟨u, v⟩; simp only at u v; omega)
              clear k0 k1 s0 s1
              go_wp2
              go_roundw
              case rel => exact ⟨m + 1, by omega, by go_num, fun j hj => by rcases Nat.lt_succ_iff_lt_or_eq.1 hj with q | q; exact HA.out j q; rw [q]; exact HF.out, HB1.out⟩
              case measure => first | (simp [intOf]; done) | (simp [intOf]; omega)
        · have q2 : (rs == s) = false := by simp [s1]
          have HF := Lib.hid (show ¬ Fits (R m) s kd by rw [HE.out]; rintro ⟨u, v⟩; simp only at u v; omega)
          clear s0 s1
          go_wp2
          go_roundw
          case rel => exact ⟨m + 1, by omega, by go_num, fun j hj => by rcases Nat.lt_succ_iff_lt_or_eq.1 hj with q | q; exact HA.out j q; rw [q]; exact HF.out, HB1.out⟩
          case measure => first | (simp [intOf]; done) | (simp [intOf]; omega)
    · have hme : m = rl := by omega
      subst hme
      have hnl2 : ¬ ((m : Int) < m) := by omega
      go_wp2
      go_ret2
      exact ⟨PlanE.mk (p := 0) (.inr ⟨rfl, HA.out⟩), HB.out.trans (HBR.out.mono (by rw [HXS.out]; omega))⟩
end Go.Proofs.YtbffmobjiiicoaaGreatDoor.B9
end
