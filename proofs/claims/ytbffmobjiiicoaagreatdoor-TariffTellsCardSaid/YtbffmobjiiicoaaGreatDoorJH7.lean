/- Joined: HRef3 HRef4. -/
import Derived.Test.YtbffmobjiiicoaaGreatDoorJH6
section
/- Contracts of the document's May and Error. -/
set_option linter.unusedVariables false
set_option linter.unusedSimpArgs false
namespace Go.Proofs.YtbffmobjiiicoaaGreatDoor.H8
open Go.RowKit Go.Shelf
theorem apart_step {S : Nat → Se} {k : Nat} (h : Apart S k) (hk : ∀ j, j < k → ¬ ((S j).m = (S k).m ∧ (S j).d = (S k).d)) : Apart S (k + 1) := by
  intro i hi j hj
  rcases Nat.lt_succ_iff_lt_or_eq.1 hi with q | q
  · exact h i q j hj
  · subst q; exact hk j hj
set_option maxRecDepth 100000 in
set_option maxHeartbeats 4000000 in
theorem rMay_any (ha : Option Addr) (hl hc : Nat) (sa : Option Addr) (sl sc : Nat) (H : Nat → Ho) (S : Nat → Se) (w : World) (hH : HosAt w.heap.size w ha hl H) (hS : SeasAt w.heap.size w sa sl S) (hlm : hl ≤ maxLen) (slm : sl ≤ maxLen) :
    Calls Tryz.prog 22 #[calV ha hl hc sa sl sc] w fun e w' => e = .returned (.bool (decide (CalIs H hl S sl))) ∧ Below w.heap.size w w' := by
  unfold maxLen at hlm slm
  have hz := heap_alloc_new w (.cells #[.slice ha hl hc, .slice sa sl sc] 28)
  have hb0 := (Below.refl _ w).alloc (Nat.le_refl _) (.cells #[.slice ha hl hc, .slice sa sl sc] 28)
  obtain ⟨X, hX⟩ : ∃ X, X = w.alloc (.cells #[.slice ha hl hc, .slice sa sl sc] 28) := ⟨_, rfl⟩
  rw [← hX] at hz hb0
  have hxs : X.heap.size = w.heap.size + 1 := by rw [hX, World.size_alloc]
  have HZ := Lib.hid hz
  have HB := Lib.hid hb0
  have HX := Lib.hid hX
  have HXS := Lib.hid hxs
  have HH := Lib.hid (hH.next hb0 (Nat.le_refl _) (Nat.le_refl _))
  have HS := Lib.hid (hS.next hb0 (Nat.le_refl _) (Nat.le_refl _))
  clear hz hb0 hX hxs hH hS
  by_cases h100 : 100 < hl
  · rw [decide_eq_false (fun h => by have := h.1; omega)]
    rw [HX.out] at HB
    have g1 : (100 : Int) < hl := by omega
    go_enter Tryz.func22, Tryz.ntmps22
    go_wp2
    go_ret
    exact ⟨rfl, HB.out⟩
  by_cases h12 : 12 < sl
  · rw [decide_eq_false (fun h => by have := h.2.1; omega)]
    rw [HX.out] at HB
    have g1 : ¬ (100 : Int) < hl := by omega
    have g2 : (12 : Int) < sl := by omega
    go_enter Tryz.func22, Tryz.ntmps22
    go_wp2
    go_ret
    exact ⟨rfl, HB.out⟩
  have g1 : ¬ (100 : Int) < hl := by omega
  have g2 : ¬ (12 : Int) < sl := by omega
  go_enter Tryz.func22, Tryz.ntmps22
  go_wp2
  go_loopw [3] (fun i wr => ∃ k : Nat, k ≤ hl ∧ i = .int .i64 k ∧ (∀ j, j < k → HoIs (H j)) ∧ Below X.heap.size X wr) (fun i _ => (hl - intOf i).toNat)
  case atStart => exact ⟨0, Nat.zero_le _, rfl, fun j hj => absurd hj (Nat.not_lt_zero _), by rw [HX.out]; exact Below.refl _ _⟩
  case round =>
    obtain ⟨k, hk, rfl, hall, hb⟩ := hrel
    have HA := Lib.hid hall
    have HBR := Lib.hid hb
    have hzr := (hb.block w.heap.size (by rw [HXS.out]; omega)).trans HZ.out
    have b0 : wr.cell? ⟨w.heap.size, 0, none⟩ = some (.slice ha hl hc) := cell_of_row wr _ 0 _ _ _ hzr
    have b1 : wr.cell? ⟨w.heap.size, 1, none⟩ = some (.slice sa sl sc) := cell_of_row wr _ 1 _ _ _ hzr
    clear hall hb hzr
    by_cases hlt : k < hl
    · have hlti : (k : Int) < hl := by omega
      obtain ⟨b, o, rfl, hbl, c0, c1, c2, c3, c4, c5⟩ := HH.out.next HBR.out (by rw [HXS.out]; omega) (Nat.le_refl _) k hlt
      obtain ⟨h, hhk⟩ : ∃ h, h = H k := ⟨_, rfl⟩
      rw [← hhk] at c0 c1 c2 c3 c4 c5
      have HI := Lib.hid (rholiday_any h wr)
      have HE := Lib.hid hhk
      clear hhk
      by_cases hi : HoIs h
      · rw [decide_eq_true hi] at HI
        go_wp2_with (go_at_call 48; refine HI.out.mono ?_; rintro e w2 ⟨rfl, hBi⟩; have HBI := Lib.hid hBi; clear hBi)
        go_roundw
        case rel => exact ⟨k + 1, by omega, by go_num, fun j hj => by rcases Nat.lt_succ_iff_lt_or_eq.1 hj with q | q; exact HA.out j q; rw [q, ← HE.out]; exact hi, HBR.out.trans (HBI.out.mono HBR.out.size)⟩
        case measure => first | (simp [intOf]; done) | (simp [intOf]; omega)
      · rw [decide_eq_false hi] at HI
        have HNO := Lib.hid (show decide (CalIs H hl S sl) = false from decide_eq_false (fun q => hi (by rw [HE.out]; exact q.2.2.1 k hlt)))
        go_wp2_with (go_at_call 48; refine HI.out.mono ?_; rintro e w2 ⟨rfl, hBi⟩; have HBI := Lib.hid hBi; clear hBi)
        go_ret
        rw [HNO.out]
        exact ⟨rfl, HB.out.trans ((HBR.out.trans (HBI.out.mono HBR.out.size)).mono (by rw [HXS.out]; omega))⟩
    · have hke : k = hl := by omega
      subst hke
      have hnl : ¬ ((k : Int) < k) := by omega
      go_wp2
      obtain ⟨wo, rfl⟩ : ∃ wo : World, wo = wr := ⟨_, rfl⟩
      go_loopw [5] (fun i wr2 => ∃ m : Nat, m ≤ sl ∧ i = .int .i64 m ∧ ((∀ j, j < m → SeIs (S j)) ∧ Apart S m) ∧ Below X.heap.size X wr2) (fun i _ => (sl - intOf i).toNat)
      case atStart => exact ⟨0, Nat.zero_le _, rfl, ⟨fun j hj => absurd hj (Nat.not_lt_zero _), fun i hi => absurd hi (Nat.not_lt_zero _)⟩, HBR.out⟩
      case round =>
        obtain ⟨m, hm, rfl, hall2, hb2⟩ := hrel
        have HA2 := Lib.hid hall2
        have HBR2 := Lib.hid hb2
        have hzr := (hb2.block w.heap.size (by rw [HXS.out]; omega)).trans HZ.out
        have d1 : wr.cell? ⟨w.heap.size, 1, none⟩ = some (.slice sa sl sc) := cell_of_row wr _ 1 _ _ _ hzr
        have HZR := Lib.hid hzr
        clear hall2 hb2 b0 b1 hzr
        by_cases hlt2 : m < sl
        · have hlti2 : (m : Int) < sl := by omega
          have HSA := Lib.hid (HS.out.next HBR2.out (by rw [HXS.out]; omega) (Nat.le_refl _))
          obtain ⟨b, o, rfl, hbl, c0, c1, c2⟩ := HSA.out m hlt2
          obtain ⟨s, hsk⟩ : ∃ s, s = S m := ⟨_, rfl⟩
          rw [← hsk] at c0 c1 c2
          have HE := Lib.hid hsk
          clear hsk
          have hb1 := HBR2.out.alloc HBR2.out.size (.cells #[.int .i64 s.n, .int .i64 s.m, .int .i64 s.d] 94)
          have HB1 := Lib.hid hb1
          have HM := Lib.hid (fun W => rmay_any 2001 s.m s.d W)
          clear hb1
          by_cases n1 : s.n < 1
          · have HNO := Lib.hid (show decide (CalIs H k S sl) = false from decide_eq_false (fun q => by have := (q.2.2.2.1 m hlt2).1; rw [← HE.out] at this; omega))
            go_wp2
            go_ret
            rw [HNO.out]
            exact ⟨rfl, HB.out.trans (HB1.out.mono (by rw [HXS.out]; omega))⟩
          · by_cases n2 : 99 < s.n
            · have HNO := Lib.hid (show decide (CalIs H k S sl) = false from decide_eq_false (fun q => by have := (q.2.2.2.1 m hlt2).1; rw [← HE.out] at this; omega))
              go_wp2
              go_ret
              rw [HNO.out]
              exact ⟨rfl, HB.out.trans (HB1.out.mono (by rw [HXS.out]; omega))⟩
            · by_cases hi : May 2001 s.m s.d
              · rw [decide_eq_true hi] at HM
                go_wp2_with (go_at_call 49; refine (HM.out _).mono ?_; rintro e w2 ⟨rfl, rfl⟩)
                have HSE := Lib.hid (show SeIs s from ⟨by omega, hi⟩)
                have yz := heap_alloc_new wr (.cells #[.int .i64 s.n, .int .i64 s.m, .int .i64 s.d] 94)
                have ys : (wr.alloc (.cells #[.int .i64 s.n, .int .i64 s.m, .int .i64 s.d] 94)).heap.size = wr.heap.size + 1 := World.size_alloc _ _
                have yr := heap_old HZR.out (.cells #[.int .i64 s.n, .int .i64 s.m, .int .i64 s.d] 94)
                have ysa := HSA.out.next ((Below.refl _ wr).alloc (Nat.le_refl _) (.cells #[.int .i64 s.n, .int .i64 s.m, .int .i64 s.d] 94)) (by have := HBR2.out.size; rw [HXS.out] at this; omega) (Nat.le_refl _)
                obtain ⟨Y, hY⟩ : ∃ Y, wr.alloc (.cells #[.int .i64 s.n, .int .i64 s.m, .int .i64 s.d] 94) = Y := ⟨_, rfl⟩
                rw [hY] at yz ys yr ysa ⊢
                have HB1Y := Lib.hid (show Below X.heap.size X Y by rw [← hY]; exact HB1.out)
                obtain ⟨Bs, hBs⟩ : ∃ Bs, Bs = wr.heap.size := ⟨_, rfl⟩
                rw [← hBs] at yz ys ⊢
                have hwb : w.heap.size < Bs := by rw [hBs]; have := HBR2.out.size; rw [HXS.out] at this; omega
                have YZ := Lib.hid yz
                have YR := Lib.hid yr
                have YSA := Lib.hid ysa
                have YS := Lib.hid ys
                clear hY yz ys yr ysa hBs c0 c1 c2 d1 HZR HSA HB1 HM
                obtain ⟨wi, hwi⟩ : ∃ wi : World, wi = Y := ⟨_, rfl⟩
                go_loopw [7] (fun i wr3 => ∃ j : Nat, j ≤ m ∧ i = .int .i64 j ∧ (∀ q, q < j → ¬ ((S q).m = s.m ∧ (S q).d = s.d)) ∧ Below Y.heap.size Y wr3) (fun i _ => (m - intOf i).toNat)
                case atStart => exact ⟨0, Nat.zero_le _, rfl, fun j hj => absurd hj (Nat.not_lt_zero _), Below.refl _ _⟩
                case round =>
                  obtain ⟨j, hj, rfl, hall3, hb3⟩ := hrel
                  have HA3 := Lib.hid hall3
                  have HB3 := Lib.hid hb3
                  have r1 := (hb3.block w.heap.size (by rw [YS.out]; omega)).trans YR.out
                  have r2 := (hb3.block Bs (by rw [YS.out]; omega)).trans YZ.out
                  have d1 : wr.cell? ⟨w.heap.size, 1, none⟩ = some (.slice (some ⟨b, o, none⟩) sl sc) := cell_of_row wr _ 1 _ _ _ r1
                  have s1 : wr.cell? ⟨Bs, 1, none⟩ = some (.int .i64 s.m) := cell_of_row wr _ 1 _ _ _ r2
                  have s2 : wr.cell? ⟨Bs, 2, none⟩ = some (.int .i64 s.d) := cell_of_row wr _ 2 _ _ _ r2
                  clear hall3 hb3 r1 r2 hwi
                  by_cases hlt3 : j < m
                  · have hlti3 : (j : Int) < m := by omega
                    have hjs : (j : Int) < sl := by omega
                    obtain ⟨b', o', eq', hbl', t0, t1, t2⟩ := YSA.out.next HB3.out (by rw [YS.out]; omega) (Nat.le_refl _) j (by omega)
                    cases eq'
                    obtain ⟨u, hu⟩ : ∃ u, u = S j := ⟨_, rfl⟩
                    rw [← hu] at t0 t1 t2
                    have HU := Lib.hid hu
                    clear hu
                    by_cases em : u.m = s.m
                    · have gm : (u.m == s.m) = true := by simp [em]
                      by_cases ed : u.d = s.d
                      · have gd : (u.d == s.d) = true := by simp [ed]
                        have HNO := Lib.hid (show decide (CalIs H k S sl) = false from decide_eq_false (fun q => q.2.2.2.2 m hlt2 j hlt3 (by rw [← HU.out, ← HE.out]; exact ⟨em, ed⟩)))
                        clear em ed
                        go_wp2_with fail
                        go_quiet (fail)
                        have HBF := Lib.hid (HB.out.trans ((HB1Y.out.trans ((below_drewN HB3.out nq).mono HB1Y.out.size)).mono (by rw [HXS.out]; omega)))
                        go_wp2
                        go_ret
                        rw [HNO.out]
                        exact ⟨rfl, HBF.out⟩
                      · have gd : (u.d == s.d) = false := by simp [ed]
                        have HNE := Lib.hid (show ¬ ((S j).m = s.m ∧ (S j).d = s.d) by rw [← HU.out]; exact fun h => ed h.2)
                        clear em ed
                        go_wp2_with fail
                        go_quiet (fail)
                        have HBF := Lib.hid (below_drewN HB3.out nq)
                        go_wp2
                        go_roundw
                        case rel => exact ⟨j + 1, by omega, by go_num, fun q hq => by rcases Nat.lt_succ_iff_lt_or_eq.1 hq with h' | h'; exact HA3.out q h'; rw [h']; exact HNE.out, HBF.out⟩
                        case measure => first | (simp [intOf]; done) | (simp [intOf]; omega)
                    · have gm : (u.m == s.m) = false := by simp [em]
                      have HNE := Lib.hid (show ¬ ((S j).m = s.m ∧ (S j).d = s.d) by rw [← HU.out]; exact fun h => em h.1)
                      clear em
                      go_wp2_with fail
                      go_quiet (fail)
                      have HBF := Lib.hid (below_drewN HB3.out nq)
                      go_wp2
                      go_roundw
                      case rel => exact ⟨j + 1, by omega, by go_num, fun q hq => by rcases Nat.lt_succ_iff_lt_or_eq.1 hq with h' | h'; exact HA3.out q h'; rw [h']; exact HNE.out, HBF.out⟩
                      case measure => first | (simp [intOf]; done) | (simp [intOf]; omega)
                  · have hje : j = m := by omega
                    subst hje
                    have hnl3 : ¬ ((j : Int) < j) := by omega
                    go_wp2
                    go_roundw
                    case rel =>
                      refine ⟨j + 1, by omega, by go_num, ⟨fun q hq => ?_, apart_step HA2.out.2 (by rw [← HE.out]; exact HA3.out)⟩, HB1Y.out.trans (HB3.out.mono HB1Y.out.size)⟩
                      rcases Nat.lt_succ_iff_lt_or_eq.1 hq with h' | h'
                      · exact HA2.out.1 q h'
                      · rw [h', ← HE.out]; exact HSE.out
                    case measure => first | (simp [intOf]; done) | (simp [intOf]; omega)
              · rw [decide_eq_false hi] at HM
                have HNO := Lib.hid (show decide (CalIs H k S sl) = false from decide_eq_false (fun q => hi (by rw [HE.out]; exact (q.2.2.2.1 m hlt2).2)))
                go_wp2_with (go_at_call 49; refine (HM.out _).mono ?_; rintro e w2 ⟨rfl, rfl⟩)
                go_ret
                rw [HNO.out]
                exact ⟨rfl, HB.out.trans (HB1.out.mono (by rw [HXS.out]; omega))⟩
        · have hme : m = sl := by omega
          subst hme
          have hnl2 : ¬ ((m : Int) < m) := by omega
          have HYES := Lib.hid (show decide (CalIs H k S m) = true from decide_eq_true ⟨by omega, by omega, HA.out, HA2.out.1, HA2.out.2⟩)
          go_wp2
          go_ret
          rw [HYES.out]
          exact ⟨rfl, HB.out.trans (HBR2.out.mono (by rw [HXS.out]; omega))⟩
def errC (H : Nat → Ho) (hl : Nat) (S : Nat → Se) (sl : Nat) (x : Int) : Int := if CalIs H hl S sl then (if 0 ≤ x ∧ x ≤ 2932896 then 0 else 60) else 80
end Go.Proofs.YtbffmobjiiicoaaGreatDoor.H8
end
section
/- The contract of the document's Season. -/
set_option linter.unusedVariables false
set_option linter.unusedSimpArgs false
namespace Go.Proofs.YtbffmobjiiicoaaGreatDoor.H8
open Go.RowKit Go.Shelf
set_option maxRecDepth 100000 in
set_option maxHeartbeats 4000000 in
theorem rSeason_any (ha : Option Addr) (hl hc : Nat) (sa : Option Addr) (sl sc : Nat) (S : Nat → Se) (x y m d : Int) (hd : IsDate x y m d) (w : World) (hS : SeasAt w.heap.size w sa sl S) (h12 : sl ≤ 12) (hs : ∀ i, i < sl → SeIs (S i)) :
    Calls Tryz.prog 33 #[calV ha hl hc sa sl sc, .int .i64 x] w fun e w' => (∃ r : Int, SeaIs S sl (bgn m d) r ∧ e = .returned (.int .i64 r)) ∧ Below w.heap.size w w' := by
  have hz := heap_alloc_new w (.cells #[.slice ha hl hc, .slice sa sl sc] 28)
  have hb0 := (Below.refl _ w).alloc (Nat.le_refl _) (.cells #[.slice ha hl hc, .slice sa sl sc] 28)
  obtain ⟨X, hX⟩ : ∃ X, X = w.alloc (.cells #[.slice ha hl hc, .slice sa sl sc] 28) := ⟨_, rfl⟩
  rw [← hX] at hz hb0
  have hxs : X.heap.size = w.heap.size + 1 := by rw [hX, World.size_alloc]
  have HZ := Lib.hid hz
  have HB := Lib.hid hb0
  have HX := Lib.hid hX
  have HXS := Lib.hid hxs
  have HS := Lib.hid (hS.next hb0 (Nat.le_refl _) (Nat.le_refl _))
  have HI := Lib.hid hs
  have HO := Lib.hid (rof_is x y m d hd)
  have hst := Back.start (S := S) (sl := sl) hd.1
  have y0 := hd.1.1
  have y1 := hd.1.2.1
  obtain ⟨now, hnow⟩ : ∃ n, n = bgn m d := ⟨_, rfl⟩
  rw [← hnow] at hst ⊢
  have HST := Lib.hid hst
  clear hz hb0 hX hxs hS hs hd hst hnow
  go_enter Tryz.func33, Tryz.ntmps33
  go_wp2_with (go_at_call 63; refine (HO.out _).mono ?_; rintro e w1 ⟨rfl, rfl⟩)
  go_loopw [5, 6, 7, 9] (fun a b c i wr => ∃ (n : Nat) (yy mm dd : Int), n ≤ 800 ∧ i = .int .i64 n ∧ a = .int .i64 yy ∧ b = .int .i64 mm ∧ c = .int .i64 dd ∧ Back S sl now n yy mm dd ∧ (y - n ≤ yy ∧ yy ≤ y) ∧ Below X.heap.size X wr)
    (fun _ _ _ i _ => (800 - intOf i).toNat)
  case atStart => exact ⟨0, y, m, d, by omega, rfl, rfl, rfl, rfl, HST.out, by omega, by rw [HX.out]; exact Below.refl _ _⟩
  case round =>
    obtain ⟨n, yy, mm, dd, hn, rfl, rfl, rfl, rfl, hbk, hyy, hb⟩ := hrel
    obtain ⟨yy0, yy1⟩ := hyy
    have HBK := Lib.hid hbk
    have HBR := Lib.hid hb
    have hzr := (hb.block w.heap.size (by rw [HXS.out]; omega)).trans HZ.out
    have b1 : wr.cell? ⟨w.heap.size, 1, none⟩ = some (.slice sa sl sc) := cell_of_row wr _ 1 _ _ _ hzr
    have hmd : (1 ≤ mm ∧ mm ≤ 12) ∧ (1 ≤ dd ∧ dd ≤ 31) := by
      have h1 := hbk.1
      have h2 := hbk.2.1
      have := dlen_bounds (y := yy) (m := mm)
      omega
    obtain ⟨⟨m1, m2⟩, ⟨d1, d2⟩⟩ := hmd
    clear hbk hb hzr
    by_cases hlt : n < 800
    · have hlti : (n : Int) < 800 := by omega
      go_wp2
      obtain ⟨wo, rfl⟩ : ∃ wo : World, wo = wr := ⟨_, rfl⟩
      go_loopw [10] (fun i wr2 => ∃ j : Nat, j ≤ sl ∧ i = .int .i64 j ∧ (∀ q, q < j → ¬ ((S q).m = mm ∧ (S q).d = dd)) ∧ Below X.heap.size X wr2) (fun i _ => (sl - intOf i).toNat)
      case atStart => exact ⟨0, Nat.zero_le _, rfl, fun q hq => absurd hq (Nat.not_lt_zero _), HBR.out⟩
      case round =>
        obtain ⟨j, hj, rfl, hall, hb⟩ := hrel
        have HA := Lib.hid hall
        have HBI := Lib.hid hb
        have hzr := (hb.block w.heap.size (by rw [HXS.out]; omega)).trans HZ.out
        have e1 : wr.cell? ⟨w.heap.size, 1, none⟩ = some (.slice sa sl sc) := cell_of_row wr _ 1 _ _ _ hzr
        clear hall hb hzr b1
        by_cases hlt2 : j < sl
        · have hlti2 : (j : Int) < sl := by omega
          obtain ⟨b, o, rfl, hbl, t0, t1, t2⟩ := HS.out.next HBI.out (by rw [HXS.out]; omega) (Nat.le_refl _) j hlt2
          obtain ⟨u, hu⟩ : ∃ u, u = S j := ⟨_, rfl⟩
          rw [← hu] at t0 t1 t2
          have HU := Lib.hid hu
          clear hu
          by_cases em : u.m = mm
          · have gm : (u.m == mm) = true := by simp [em]
            by_cases ed : u.d = dd
            · have gd : (u.d == dd) = true := by simp [ed]
              have HF := Lib.hid (HBK.out.found hlt2 (by rw [← HU.out]; exact em) (by rw [← HU.out]; exact ed))
              clear em ed
              go_wp2
              go_ret
              exact ⟨⟨_, by rw [HU.out]; exact HF.out, rfl⟩, HB.out.trans (HBI.out.mono (by rw [HXS.out]; omega))⟩
            · have gd : (u.d == dd) = false := by simp [ed]
              have HNE := Lib.hid (show ¬ ((S j).m = mm ∧ (S j).d = dd) by rw [← HU.out]; exact fun h => ed h.2)
              clear em ed
              go_wp2
              go_roundw
              case rel => exact ⟨j + 1, by omega, by go_num, fun q hq => by rcases Nat.lt_succ_iff_lt_or_eq.1 hq with h' | h'; exact HA.out q h'; rw [h']; exact HNE.out, HBI.out⟩
              case measure => first | (simp [intOf]; done) | (simp [intOf]; omega)
          · have gm : (u.m == mm) = false := by simp [em]
            have HNE := Lib.hid (show ¬ ((S j).m = mm ∧ (S j).d = dd) by rw [← HU.out]; exact fun h => em h.1)
            clear em
            go_wp2
            go_roundw
            case rel => exact ⟨j + 1, by omega, by go_num, fun q hq => by rcases Nat.lt_succ_iff_lt_or_eq.1 hq with h' | h'; exact HA.out q h'; rw [h']; exact HNE.out, HBI.out⟩
            case measure => first | (simp [intOf]; done) | (simp [intOf]; omega)
        · have hje : j = sl := by omega
          subst hje
          have hnl : ¬ ((j : Int) < j) := by omega
          by_cases q1 : 1 < dd
          · have HN := Lib.hid (HBK.out.day HI.out HA.out q1)
            have g1 : (dd - 1 == 0) = false := by simp; omega
            go_wp2
            go_roundw
            case rel => exact ⟨n + 1, _, _, _, by omega, by go_num, rfl, rfl, rfl, HN.out, by omega, HBI.out⟩
            case measure => first | (simp [intOf]; done) | (simp [intOf]; omega)
          · obtain rfl : dd = 1 := by omega
            by_cases q2 : 1 < mm
            · have HN := Lib.hid (HBK.out.month HI.out HA.out q2)
              have g2 : (mm - 1 == 0) = false := by simp; omega
              have HDS := Lib.hid (fun W => rdays_any yy (mm - 1) W)
              go_wp2_with (go_at_call 66; refine (HDS.out _).mono ?_; rintro e w2 ⟨rfl, rfl⟩)
              go_roundw
              case rel => exact ⟨n + 1, _, _, _, by omega, by go_num, rfl, rfl, rfl, HN.out, by omega, HBI.out⟩
              case measure => first | (simp [intOf]; done) | (simp [intOf]; omega)
            · obtain rfl : mm = 1 := by omega
              have HN := Lib.hid (HBK.out.year HI.out HA.out)
              have HDS := Lib.hid (fun W => rdays_any (yy - 1) 12 W)
              go_wp2_with (go_at_call 66; refine (HDS.out _).mono ?_; rintro e w2 ⟨rfl, rfl⟩)
              go_roundw
              case rel => exact ⟨n + 1, _, _, _, by omega, by go_num, rfl, rfl, rfl, HN.out, by omega, HBI.out⟩
              case measure => first | (simp [intOf]; done) | (simp [intOf]; omega)
    · have hn8 : n = 800 := by omega
      subst hn8
      have HF := Lib.hid (HBK.out.none (Nat.le_refl _))
      have hend : ¬ (((800 : Nat) : Int) < 800) := by omega
      go_wp2
      go_ret
      exact ⟨⟨0, HF.out, rfl⟩, HB.out.trans (HBR.out.mono (by rw [HXS.out]; omega))⟩
end Go.Proofs.YtbffmobjiiicoaaGreatDoor.H8
end
