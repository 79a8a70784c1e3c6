/- The program's Check of a table. -/
import Derived.Test.YtmbimnphdhmapaaDoorBTab
import Derived.Test.YtmbimnphdhmapaaDoorBChk
import Derived.Test.YtmbimnphdhmapaaDoorBMay
set_option linter.unusedVariables false
set_option linter.unusedSimpArgs false
namespace Go.Proofs.YtmbimnphdhmapaaDoor
open Go.RowKit Go.Shelf
abbrev ruC (r : Ru) : Array Value := #[.int .i64 r.s, .int .i64 r.k, .int .i64 r.p]
abbrev ruV (r : Ru) : Value := .agg #[.int .i64 r.s, .int .i64 r.k, .int .i64 r.p]
set_option maxRecDepth 100000 in
set_option maxHeartbeats 2000000 in
theorem isRule_any (r : Ru) (n : Nat) (hn : n ≤ 1000) (w : World) :
    Calls Tryd.prog 27 #[ruV r, .int .i64 n] w fun e w' => e = .returned (.bool (decide (RuIs r n))) ∧ Below w.heap.size w w' := by
  obtain ⟨s, k, p⟩ := r
  have hb0 := (Below.refl _ w).alloc (Nat.le_refl _) (.cells #[.int .i64 s, .int .i64 k, .int .i64 p] 42)
  have HB := Lib.hid hb0
  clear hb0
  by_cases h1 : 0 ≤ s ∧ s ≤ 99
  · have HF1 := Lib.hid (fun W : World => isFrom_yes h1 W)
    by_cases h2 : 0 ≤ k ∧ k ≤ 4
    · have HF2 := Lib.hid (fun W : World => isFrom_yes h2 W)
      have HR := Lib.hid (show decide (RuIs ⟨s, k, p⟩ n) = decide (0 ≤ p ∧ p ≤ (n : Int) - 1) by
        rw [decide_eq_decide]
        constructor
        · intro h; have := h.2.2; simp only at this; omega
        · intro h; exact ⟨h1, h2, by simp only; omega⟩)
      have HF3 := Lib.hid (fun W : World => isFrom_any p 0 ((n : Int) - 1) W)
      clear h1 h2
      rw [HR.out]
      obtain ⟨q, hq⟩ : ∃ q, decide (0 ≤ p ∧ p ≤ (n : Int) - 1) = q := ⟨_, rfl⟩
      rw [hq] at HF3 ⊢
      clear hq HR
      go_enter Tryd.func27, Tryd.ntmps27
      go_wp2_with fail
      refine (HF1.out _).mono ?_
      rintro e w' ⟨rfl, rfl⟩
      go_wp2_with fail
      refine (HF2.out _).mono ?_
      rintro e w' ⟨rfl, rfl⟩
      go_wp2_with fail
      refine (HF3.out _).mono ?_
      rintro e w' ⟨rfl, rfl⟩
      go_wp2
      go_ret
      exact ⟨rfl, HB.out⟩
    · have HF2 := Lib.hid (fun W : World => isFrom_no h2 W)
      rw [decide_eq_false (fun h => h2 h.2.1)]
      clear h1 h2
      go_enter Tryd.func27, Tryd.ntmps27
      go_wp2_with fail
      refine (HF1.out _).mono ?_
      rintro e w' ⟨rfl, rfl⟩
      go_wp2_with fail
      refine (HF2.out _).mono ?_
      rintro e w' ⟨rfl, rfl⟩
      go_wp2
      go_ret
      exact ⟨rfl, HB.out⟩
  · have HF1 := Lib.hid (fun W : World => isFrom_no h1 W)
    rw [decide_eq_false (fun h => h1 h.1)]
    clear h1
    go_enter Tryd.func27, Tryd.ntmps27
    go_wp2_with fail
    refine (HF1.out _).mono ?_
    rintro e w' ⟨rfl, rfl⟩
    go_wp2
    go_ret
    exact ⟨rfl, HB.out⟩
set_option maxRecDepth 100000 in
set_option maxHeartbeats 4000000 in
theorem checkT_any (pa : Option Addr) (pl pc : Nat) (ra : Option Addr) (rl rc : Nat) (P : Nat → Pl) (R : Nat → Ru) (w : World) (hP : PlsAt w.heap.size w pa pl P) (hR : RusAt w.heap.size w ra rl R) (hlm : pl ≤ maxLen) (hrm : rl ≤ maxLen) :
    Calls Tryd.prog 14 #[tabV pa pl pc ra rl rc] w fun e w' => e = .returned (.int .i64 (tErr P pl R rl)) ∧ Below w.heap.size w w' := by
  unfold maxLen at hlm hrm
  have hz := heap_alloc_new w (.cells #[.slice pa pl pc, .slice ra rl rc] 45)
  have hb0 := (Below.refl _ w).alloc (Nat.le_refl _) (.cells #[.slice pa pl pc, .slice ra rl rc] 45)
  have hxs : (w.alloc (.cells #[.slice pa pl pc, .slice ra rl rc] 45)).heap.size = w.heap.size + 1 := World.size_alloc _ _
  have HZ := Lib.hid hz
  have HB := Lib.hid hb0
  have HXS := Lib.hid hxs
  have HP := Lib.hid hP
  have HR := Lib.hid hR
  clear hz hb0 hxs hP hR
  by_cases h1 : 1 ≤ pl ∧ pl ≤ 50
  · have HF := Lib.hid (fun W : World => isFrom_yes (n := (pl : Int)) (a := 1) (b := 50) (by omega) W)
    have p1 := h1.1
    have p2 := h1.2
    clear h1
    by_cases h2 : 100 < rl
    · rw [tErr_no (fun h => by have := h.2.2.1; omega)]
      have g2 : (100 : Int) < rl := by omega
      go_enter Tryd.func14, Tryd.ntmps14
      go_wp2_with fail
      refine (HF.out _).mono ?_
      rintro e w' ⟨rfl, rfl⟩
      go_wp2
      go_ret
      exact ⟨rfl, HB.out⟩
    · have g2 : ¬ (100 : Int) < rl := by omega
      go_enter Tryd.func14, Tryd.ntmps14
      go_wp2_with fail
      refine (HF.out _).mono ?_
      rintro e w' ⟨rfl, rfl⟩
      clear HF
      go_wp2_with fail
      go_loopw [21] (fun i wr => ∃ k : Nat, k ≤ pl ∧ i = .int .i64 k ∧ (∀ j, j < k → PlanIs (P j).L (P j).len) ∧ wr.heap[w.heap.size]? = some (.cells #[.slice pa pl pc, .slice ra rl rc] 45 (0, 0)) ∧ Below w.heap.size w wr) (fun i _ => (pl - intOf i).toNat)
      case atStart => exact ⟨0, Nat.zero_le _, rfl, fun j hj => absurd hj (Nat.not_lt_zero _), HZ.out, HB.out⟩
      case round =>
        obtain ⟨k, hk, rfl, hall, hzr, hb⟩ := hrel
        have HALL := Lib.hid hall
        have HBR := Lib.hid hb
        have HZR := Lib.hid hzr
        have hzl := (Array.getElem?_eq_some_iff.1 hzr).1
        have z1 : wr.cell? ⟨w.heap.size, 1, none⟩ = some (.slice ra rl rc) := cell_of_row _ _ 1 _ _ _ hzr
        clear hall hb hzr HZ HB
        by_cases hlt : k < pl
        · have hlti : (k : Int) < pl := by omega
          obtain ⟨b, o, rfl, hbl, c0, ⟨hl1, hl2⟩, hsw⟩ := HP.out.next HBR.out (Nat.le_refl _) (Nat.le_refl _) k hlt
          have HC := Lib.hid (checkPlan_any (P k).a (P k).len (P k).cap (P k).L wr (hsw.mono HBR.out.size) (by omega))
          clear hsw
          by_cases hpk : PlanIs (P k).L (P k).len
          · rw [pErr_yes hpk] at HC
            have HPK := Lib.hid hpk
            clear hpk
            go_wp2_with fail
            refine HC.out.mono ?_
            rintro e w2 ⟨rfl, hB2⟩
            have HB2 := Lib.hid (HBR.out.trans (hB2.mono HBR.out.size))
            have HZ2 := Lib.hid ((hB2.block w.heap.size hzl).trans HZR.out)
            clear hB2 HC
            go_wp2
            go_roundw
            case rel => exact ⟨k + 1, by omega, by go_num, fun j hj => by rcases Nat.lt_succ_iff_lt_or_eq.1 hj with q | q; exact HALL.out j q; rw [q]; exact HPK.out, HZ2.out, HB2.out⟩
            case measure => first | (simp [intOf]; done) | (simp [intOf]; omega)
          · rw [pErr_no hpk] at HC
            have HNO := Lib.hid (tErr_no (P := P) (pl := pl) (R := R) (rl := rl) (fun h => hpk (h.2.2.2.1 k hlt)))
            clear hpk
            go_wp2_with fail
            refine HC.out.mono ?_
            rintro e w2 ⟨rfl, hB2⟩
            have HB2 := Lib.hid (HBR.out.trans (hB2.mono HBR.out.size))
            clear hB2 HC
            go_wp2
            go_ret
            rw [HNO.out]
            exact ⟨rfl, HB2.out⟩
        · have hke : k = pl := by omega
          subst hke
          have hnl : ¬ ((k : Int) < k) := by omega
          go_wp2_with fail
          go_loopw [32] (fun i wr2 => ∃ m : Nat, m ≤ rl ∧ i = .int .i64 m ∧ (∀ j, j < m → RuIs (R j) k) ∧ wr2.heap[w.heap.size]? = some (.cells #[.slice pa k pc, .slice ra rl rc] 45 (0, 0)) ∧ Below w.heap.size w wr2) (fun i _ => (rl - intOf i).toNat)
          case atStart => exact ⟨0, Nat.zero_le _, rfl, fun j hj => absurd hj (Nat.not_lt_zero _), HZR.out, HBR.out⟩
          case round =>
            obtain ⟨m, hm, rfl, hall, hzr, hb⟩ := hrel
            have HALL2 := Lib.hid hall
            have HBR2 := Lib.hid hb
            have hzl2 := (Array.getElem?_eq_some_iff.1 hzr).1
            clear hall hb z1 HBR HZR
            by_cases hlt2 : m < rl
            · have hlti2 : (m : Int) < rl := by omega
              obtain ⟨b, o, rfl, hbl, c0, c1, c2⟩ := HR.out.next HBR2.out (Nat.le_refl _) (Nat.le_refl _) m hlt2
              obtain ⟨r, hr⟩ : ∃ r, R m = r := ⟨_, rfl⟩
              rw [hr] at c0 c1 c2
              have HRR := Lib.hid hr
              obtain ⟨rs, rk, rp⟩ := r
              simp only at c0 c1 c2
              have hz2 := heap_old hzr (.cells #[.int .i64 rs, .int .i64 rk, .int .i64 rp] 42)
              have z0 : (wr.alloc (.cells #[.int .i64 rs, .int .i64 rk, .int .i64 rp] 42)).cell? ⟨w.heap.size, 0, none⟩ = some (.slice pa k pc) := cell_of_row _ _ 0 _ _ _ hz2
              have y0 : wr.cell? ⟨w.heap.size, 0, none⟩ = some (.slice pa k pc) := cell_of_row _ _ 0 _ _ _ hzr
              have HB3 := Lib.hid (HBR2.out.alloc HBR2.out.size (.cells #[.int .i64 rs, .int .i64 rk, .int .i64 rp] 42))
              have HZ3 := Lib.hid hz2
              have HI := Lib.hid (isRule_any ⟨rs, rk, rp⟩ k (by omega) (wr.alloc (.cells #[.int .i64 rs, .int .i64 rk, .int .i64 rp] 42)))
              clear hr hzr hz2
              by_cases hri : RuIs ⟨rs, rk, rp⟩ k
              · rw [decide_eq_true hri] at HI
                have HRI := Lib.hid hri
                clear hri
                go_wp2_with fail
                refine HI.out.mono ?_
                rintro e w2 ⟨rfl, hB2⟩
                have HB2 := Lib.hid (HB3.out.trans (hB2.mono HB3.out.size))
                have HZ2 := Lib.hid ((hB2.block w.heap.size (by rw [World.size_alloc]; omega)).trans HZ3.out)
                clear hB2 HI z0 y0
                go_wp2
                go_roundw
                case rel => exact ⟨m + 1, by omega, by go_num, fun j hj => by rcases Nat.lt_succ_iff_lt_or_eq.1 hj with q | q; exact HALL2.out j q; rw [q, HRR.out]; exact HRI.out, HZ2.out, HB2.out⟩
                case measure => first | (simp [intOf]; done) | (simp [intOf]; omega)
              · rw [decide_eq_false hri] at HI
                have HNO := Lib.hid (tErr_no (P := P) (pl := k) (R := R) (rl := rl) (fun h => hri (by rw [← HRR.out]; exact h.2.2.2.2 m hlt2)))
                clear hri
                go_wp2_with fail
                refine HI.out.mono ?_
                rintro e w2 ⟨rfl, hB2⟩
                have HB2 := Lib.hid (HB3.out.trans (hB2.mono HB3.out.size))
                clear hB2 HI z0 y0
                go_wp2
                go_ret
                rw [HNO.out]
                exact ⟨rfl, HB2.out⟩
            · have hme : m = rl := by omega
              subst hme
              have hnl2 : ¬ ((m : Int) < m) := by omega
              have HYES := Lib.hid (tErr_yes (P := P) (pl := k) (R := R) (rl := m) ⟨by omega, by omega, by omega, HALL.out, HALL2.out⟩)
              clear hzr
              go_wp2
              go_ret
              rw [HYES.out]
              exact ⟨rfl, HBR2.out⟩
  · have HF := Lib.hid (fun W : World => isFrom_no (n := (pl : Int)) (a := 1) (b := 50) (by omega) W)
    rw [tErr_no (fun h => h1 ⟨h.1, h.2.1⟩)]
    clear h1
    go_enter Tryd.func14, Tryd.ntmps14
    go_wp2_with fail
    refine (HF.out _).mono ?_
    rintro e w' ⟨rfl, rfl⟩
    go_wp2
    go_ret
    exact ⟨rfl, HB.out⟩
end Go.Proofs.YtmbimnphdhmapaaDoor
