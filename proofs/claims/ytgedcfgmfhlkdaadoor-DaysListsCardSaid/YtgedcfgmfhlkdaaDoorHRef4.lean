/- The contract of the document's Season. -/
import Derived.Test.YtgedcfgmfhlkdaaDoorHRef3
set_option linter.unusedVariables false
set_option linter.unusedSimpArgs false
namespace Go.Proofs.YtgedcfgmfhlkdaaDoor
open Go.RowKit Go.Shelf
set_option maxRecDepth 100000 in
set_option maxHeartbeats 4000000 in
theorem rSeason_any (ha : Option Addr) (hl hc : Nat) (sa : Option Addr) (sl sc : Nat) (S : Nat → Se) (x y m d : Int) (hd : IsDate x y m d) (w : World) (hS : SeasAt w.heap.size w sa sl S) (h12 : sl ≤ 12) (hs : ∀ i, i < sl → SeIs (S i)) :
    Calls Tryd.prog 18 #[calV ha hl hc sa sl sc, .int .i64 x] w fun e w' => (∃ r : Int, SeaIs S sl (bgn m d) r ∧ e = .returned (.int .i64 r)) ∧ Below w.heap.size w w' := by
  have hz := heap_alloc_new w (.cells #[.slice ha hl hc, .slice sa sl sc] 25)
  have hb0 := (Below.refl _ w).alloc (Nat.le_refl _) (.cells #[.slice ha hl hc, .slice sa sl sc] 25)
  obtain ⟨X, hX⟩ : ∃ X, X = w.alloc (.cells #[.slice ha hl hc, .slice sa sl sc] 25) := ⟨_, rfl⟩
  rw [← hX] at hz hb0
  have hxs : X.heap.size = w.heap.size + 1 := by rw [hX, World.size_alloc]
  have HZ := Lib.hid hz
  have HB := Lib.hid hb0
  have HX := Lib.hid hX
  have HXS := Lib.hid hxs
  have HS := Lib.hid (hS.next hb0 (Nat.le_refl _) (Nat.le_refl _))
  have HI := Lib.hid hs
  have HO := Lib.hid (rof_is x y m d hd)
  have hst := Back.start (S := S) (sl := sl) hd.1
  have y0 := hd.1.1
  have y1 := hd.1.2.1
  obtain ⟨now, hnow⟩ : ∃ n, n = bgn m d := ⟨_, rfl⟩
  rw [← hnow] at hst ⊢
  have HST := Lib.hid hst
  clear hz hb0 hX hxs hS hs hd hst hnow
  go_enter Tryd.func18, Tryd.ntmps18
  go_wp2_with (go_at_call 43; refine (HO.out _).mono ?_; rintro e w1 ⟨rfl, rfl⟩)
  go_loopw [5, 6, 7, 9] (fun a b c i wr => ∃ (n : Nat) (yy mm dd : Int), n ≤ 800 ∧ i = .int .i64 n ∧ a = .int .i64 yy ∧ b = .int .i64 mm ∧ c = .int .i64 dd ∧ Back S sl now n yy mm dd ∧ (y - n ≤ yy ∧ yy ≤ y) ∧ Below X.heap.size X wr)
    (fun _ _ _ i _ => (800 - intOf i).toNat)
  case atStart => exact ⟨0, y, m, d, by omega, rfl, rfl, rfl, rfl, HST.out, by omega, by rw [HX.out]; exact Below.refl _ _⟩
  case round =>
    obtain ⟨n, yy, mm, dd, hn, rfl, rfl, rfl, rfl, hbk, hyy, hb⟩ := hrel
    obtain ⟨yy0, yy1⟩ := hyy
    have HBK := Lib.hid hbk
    have HBR := Lib.hid hb
    have hzr := (hb.block w.heap.size (by rw [HXS.out]; omega)).trans HZ.out
    have b1 : wr.cell? ⟨w.heap.size, 1, none⟩ = some (.slice sa sl sc) := cell_of_row wr _ 1 _ _ _ hzr
    have hmd : (1 ≤ mm ∧ mm ≤ 12) ∧ (1 ≤ dd ∧ dd ≤ 31) := by
      have h1 := hbk.1
      have h2 := hbk.2.1
      have := dlen_bounds (y := yy) (m := mm)
      omega
    obtain ⟨⟨m1, m2⟩, ⟨d1, d2⟩⟩ := hmd
    clear hbk hb hzr
    by_cases hlt : n < 800
    · have hlti : (n : Int) < 800 := by omega
      go_wp2
      obtain ⟨wo, rfl⟩ : ∃ wo : World, wo = wr := ⟨_, rfl⟩
      go_loopw [10] (fun i wr2 => ∃ j : Nat, j ≤ sl ∧ i = .int .i64 j ∧ (∀ q, q < j → ¬ ((S q).m = mm ∧ (S q).d = dd)) ∧ Below X.heap.size X wr2) (fun i _ => (sl - intOf i).toNat)
      case atStart => exact ⟨0, Nat.zero_le _, rfl, fun q hq => absurd hq (Nat.not_lt_zero _), HBR.out⟩
      case round =>
        obtain ⟨j, hj, rfl, hall, hb⟩ := hrel
        have HA := Lib.hid hall
        have HBI := Lib.hid hb
        have hzr := (hb.block w.heap.size (by rw [HXS.out]; omega)).trans HZ.out
        have e1 : wr.cell? ⟨w.heap.size, 1, none⟩ = some (.slice sa sl sc) := cell_of_row wr _ 1 _ _ _ hzr
        clear hall hb hzr b1
        by_cases hlt2 : j < sl
        · have hlti2 : (j : Int) < sl := by omega
          obtain ⟨b, o, rfl, hbl, t0, t1, t2⟩ := HS.out.next HBI.out (by rw [HXS.out]; omega) (Nat.le_refl _) j hlt2
          obtain ⟨u, hu⟩ : ∃ u, u = S j := ⟨_, rfl⟩
          rw [← hu] at t0 t1 t2
          have HU := Lib.hid hu
          clear hu
          by_cases em : u.m = mm
          · have gm : (u.m == mm) = true := by simp [em]
            by_cases ed : u.d = dd
            · have gd : (u.d == dd) = true := by simp [ed]
              have HF := Lib.hid (HBK.out.found hlt2 (by rw [← HU.out]; exact em) (by rw [← HU.out]; exact ed))
              clear em ed
              go_wp2
              go_ret
              exact ⟨⟨_, by rw [HU.out]; exact HF.out, rfl⟩, HB.out.trans (HBI.out.mono (by rw [HXS.out]; omega))⟩
            · have gd : (u.d == dd) = false := by simp [ed]
              have HNE := Lib.hid (show ¬ ((S j).m = mm ∧ (S j).d = dd) by rw [← HU.out]; exact fun h => ed h.2)
              clear em ed
              go_wp2
              go_roundw
              case rel => exact ⟨j + 1, by omega, by go_num, fun q hq => by rcases Nat.lt_succ_iff_lt_or_eq.1 hq with h' | h'; exact HA.out q h'; rw [h']; exact HNE.out, HBI.out⟩
              case measure => first | (simp [intOf]; done) | (simp [intOf]; omega)
          · have gm : (u.m == mm) = false := by simp [em]
            have HNE := Lib.hid (show ¬ ((S j).m = mm ∧ (S j).d = dd) by rw [← HU.out]; exact fun h => em h.1)
            clear em
            go_wp2
            go_roundw
            case rel => exact ⟨j + 1, by omega, by go_num, fun q hq => by rcases Nat.lt_succ_iff_lt_or_eq.1 hq with h' | h'; exact HA.out q h'; rw [h']; exact HNE.out, HBI.out⟩
            case measure => first | (simp [intOf]; done) | (simp [intOf]; omega)
        · have hje : j = sl := by omega
          subst hje
          have hnl : ¬ ((j : Int) < j) := by omega
          by_cases q1 : 1 < dd
          · have HN := Lib.hid (HBK.out.day HI.out HA.out q1)
            have g1 : (dd - 1 == 0) = false := by simp; omega
            go_wp2
            go_roundw
            case rel => exact ⟨n + 1, _, _, _, by omega, by go_num, rfl, rfl, rfl, HN.out, by omega, HBI.out⟩
            case measure => first | (simp [intOf]; done) | (simp [intOf]; omega)
          · obtain rfl : dd = 1 := by omega
            by_cases q2 : 1 < mm
            · have HN := Lib.hid (HBK.out.month HI.out HA.out q2)
              have g2 : (mm - 1 == 0) = false := by simp; omega
              have HDS := Lib.hid (fun W => rdays_any yy (mm - 1) W)
              go_wp2_with (go_at_call 44; refine (HDS.out _).mono ?_; rintro e w2 ⟨rfl, rfl⟩)
              go_roundw
              case rel => exact ⟨n + 1, _, _, _, by omega, by go_num, rfl, rfl, rfl, HN.out, by omega, HBI.out⟩
              case measure => first | (simp [intOf]; done) | (simp [intOf]; omega)
            · obtain rfl : mm = 1 := by omega
              have HN := Lib.hid (HBK.out.year HI.out HA.out)
              have HDS := Lib.hid (fun W => rdays_any (yy - 1) 12 W)
              go_wp2_with (go_at_call 44; refine (HDS.out _).mono ?_; rintro e w2 ⟨rfl, rfl⟩)
              go_roundw
              case rel => exact ⟨n + 1, _, _, _, by omega, by go_num, rfl, rfl, rfl, HN.out, by omega, HBI.out⟩
              case measure => first | (simp [intOf]; done) | (simp [intOf]; omega)
    · have hn8 : n = 800 := by omega
      subst hn8
      have HF := Lib.hid (HBK.out.none (Nat.le_refl _))
      have hend : ¬ (((800 : Nat) : Int) < 800) := by omega
      go_wp2
      go_ret
      exact ⟨⟨0, HF.out, rfl⟩, HB.out.trans (HBR.out.mono (by rw [HXS.out]; omega))⟩
end Go.Proofs.YtgedcfgmfhlkdaaDoor
