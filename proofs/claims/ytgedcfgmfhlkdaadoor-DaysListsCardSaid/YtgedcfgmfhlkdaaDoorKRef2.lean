/- Contracts of the document's functions: Day and Of. -/
import Derived.Test.YtgedcfgmfhlkdaaDoorKRef
set_option linter.unusedVariables false
set_option linter.unusedSimpArgs false
namespace Go.Proofs.YtgedcfgmfhlkdaaDoor
open Go.RowKit Go.Shelf
theorem leap_cases (y : Int) : (leap y = true ∧ lp y = 1) ∨ (leap y = false ∧ lp y = 0) := by
  cases h : leap y
  · exact .inr ⟨rfl, lp_no h⟩
  · exact .inl ⟨rfl, lp_leap h⟩
set_option maxHeartbeats 1000000 in
theorem rday_any (y m d : Int) (w : World) :
    Calls Tryd.prog 22 #[.int .i64 y, .int .i64 m, .int .i64 d] w fun e w' => e = .returned (.tuple #[.int .i64 (dayE y m d), .int .i64 (mayE y m d)]) ∧ w = w' := by
  unfold dayE mayE
  by_cases h : May y m d
  · rw [if_pos h, if_pos h]
    have hg := Lib.hid (show decide (May y m d) = true from decide_eq_true h)
    have hdb := day_bounds h
    have hmb : 1970 ≤ y ∧ y ≤ 9999 ∧ 1 ≤ m ∧ m ≤ 12 ∧ 1 ≤ d ∧ d ≤ 31 := by
      have := dlen_bounds (y := y) (m := m)
      obtain ⟨h1, h2, h3, h4, h5, h6⟩ := h
      omega
    obtain ⟨hm1, hm2, hm3, hm4, hm5, hm6⟩ := hmb
    clear h
    go_enter Tryd.func22, Tryd.ntmps22
    go_wp2_with (go_at_call 32; refine (rmay_any _ _ _ _).mono ?_; rintro e w' ⟨rfl, rfl⟩; rw [hg.out])
    go_loopw [9, 10] (fun k i wr => ∃ j : Int, 1970 ≤ j ∧ j ≤ y ∧ i = .int .i64 j ∧ k = .int .i64 (d - 1 + ahead j) ∧ w = wr) (fun _ i _ => (y - intOf i).toNat)
    case atStart => exact ⟨1970, by omega, by omega, rfl, by rw [ahead_1970]; simp, rfl⟩
    case round =>
      obtain ⟨j, hj0, hj1, rfl, rfl, rfl⟩ := hrel
      have ha0 := ahead_le (a := 1970) (b := j) hj0
      have ha1 := ahead_le (a := j) (b := 10000) (by omega)
      rw [ahead_1970] at ha0
      rw [ahead_10000] at ha1
      have hs := ahead_succ (y := j) (by omega)
      by_cases hlt : j < y
      · have g1 : decide (j < y) = true := decide_eq_true hlt
        obtain ⟨A, hA⟩ : ∃ A, A = ahead j := ⟨_, rfl⟩
        rw [← hA] at ha0 ha1 hs ⊢
        have HS := Lib.hid hs
        clear hs hA
        rcases leap_cases j with ⟨hl, hp⟩ | ⟨hl, hp⟩
        · have HLL := Lib.hid hl
          have HP := Lib.hid hp
          clear hl hp
          go_wp2_with (go_at_call 47; refine (rleap_any _ _).mono ?_; rintro e w' ⟨rfl, rfl⟩; rw [HLL.out])
          go_roundw
          case rel =>
            have hs := HS.out
            rw [HP.out] at hs
            exact ⟨j + 1, by omega, by omega, rfl, congrArg (Value.int .i64) (by rw [hs]; omega), trivial⟩
          case measure => simp [intOf]; omega
        · have HLL := Lib.hid hl
          have HP := Lib.hid hp
          clear hl hp
          go_wp2_with (go_at_call 47; refine (rleap_any _ _).mono ?_; rintro e w' ⟨rfl, rfl⟩; rw [HLL.out])
          go_roundw
          case rel =>
            have hs := HS.out
            rw [HP.out] at hs
            exact ⟨j + 1, by omega, by omega, rfl, congrArg (Value.int .i64) (by rw [hs]; omega), trivial⟩
          case measure => simp [intOf]; omega
      · have g1 : decide (j < y) = false := decide_eq_false hlt
        obtain rfl : j = y := by omega
        have HDB := Lib.hid hdb
        clear hs hdb
        obtain ⟨A, hA⟩ : ∃ A, A = ahead j := ⟨_, rfl⟩
        rw [← hA] at ha0 ha1 ⊢
        have HA := Lib.hid hA
        clear hA
        go_wp2
        obtain ⟨wo, hwo⟩ : ∃ wo : World, wo = w := ⟨_, rfl⟩
        go_loopw [9, 11] (fun k i wr => ∃ q : Int, 1 ≤ q ∧ q ≤ m ∧ i = .int .i64 q ∧ k = .int .i64 (d - 1 + A + bef j q) ∧ w = wr) (fun _ i _ => (m - intOf i).toNat)
        case atStart => exact ⟨1, by omega, by omega, rfl, by rw [bef_one]; simp, rfl⟩
        case round =>
          obtain ⟨q, hq0, hq1, rfl, rfl, rfl⟩ := hrel
          have hbb := bef_bounds (y := j) (m := q) (by omega) (by omega)
          by_cases hlq : q < m
          · have g2 : decide (q < m) = true := decide_eq_true hlq
            have hs := bef_succ (y := j) (m := q) (by omega) (by omega)
            have hdl := dlen_bounds (y := j) (m := q)
            have hc := rdays_any j q
            obtain ⟨B, hB⟩ : ∃ A, A = bef j q := ⟨_, rfl⟩
            obtain ⟨D, hD⟩ : ∃ A, A = dlen j q := ⟨_, rfl⟩
            rw [← hB] at hbb hs ⊢
            rw [← hD] at hs hdl hc
            have HS := Lib.hid hs
            have HC := Lib.hid hc
            clear hs hB hD hc
            go_wp2_with (go_at_call 44; refine (HC.out _).mono ?_; rintro e w' ⟨rfl, rfl⟩)
            go_roundw
            case rel =>
              have hs := HS.out
              exact ⟨q + 1, by omega, by omega, rfl, congrArg (Value.int .i64) (by rw [hs]; omega), trivial⟩
            case measure => simp [intOf]; omega
          · have g2 : decide (q < m) = false := decide_eq_false hlq
            obtain rfl : q = m := by omega
            have he : d - 1 + A + bef j q = dayOf j q d := by rw [HA.out]; unfold dayOf; omega
            rw [he]
            clear he hbb
            go_wp2
            go_ret2
            exact ⟨rfl, rfl⟩
  · rw [if_neg h, if_neg h]
    have hg := Lib.hid (show decide (May y m d) = false from decide_eq_false h)
    clear h
    go_enter Tryd.func22, Tryd.ntmps22
    go_wp2_with (go_at_call 32; refine (rmay_any _ _ _ _).mono ?_; rintro e w' ⟨rfl, rfl⟩; rw [hg.out])
    go_ret2
    exact ⟨rfl, rfl⟩
theorem rof_no (n : Int) (h : ¬ (0 ≤ n ∧ n ≤ 2932896)) (w : World) :
    Calls Tryd.prog 43 #[.int .i64 n] w fun e w' => e = .returned (.tuple #[.int .i64 0, .int .i64 0, .int .i64 0, .int .i64 60]) ∧ w = w' := by
  by_cases h0 : n < 0
  · clear h
    go_enter Tryd.func43, Tryd.ntmps43
    go_wp2
    refine bodyPost_ret (v := .tuple #[.int .i64 0, .int .i64 0, .int .i64 0, .int .i64 60]) (by simp [results, Tryd.results43, go_sem]) rfl ⟨rfl, rfl⟩
  · have h1 : 2932896 < n := by omega
    clear h
    go_enter Tryd.func43, Tryd.ntmps43
    go_wp2
    refine bodyPost_ret (v := .tuple #[.int .i64 0, .int .i64 0, .int .i64 0, .int .i64 60]) (by simp [results, Tryd.results43, go_sem]) rfl ⟨rfl, rfl⟩
set_option maxHeartbeats 2000000 in
theorem rof_yes (n : Int) (h0 : 0 ≤ n) (h1 : n ≤ 2932896) (w : World) :
    Calls Tryd.prog 43 #[.int .i64 n] w fun e w' => (∃ y m d, IsDate n y m d ∧ e = .returned (.tuple #[.int .i64 y, .int .i64 m, .int .i64 d, .int .i64 0])) ∧ w = w' := by
  go_enter Tryd.func43, Tryd.ntmps43
  go_wp2
  go_loopw [0, 6, 7] (fun k i l wr => ∃ j : Int, 1970 ≤ j ∧ j ≤ 9999 ∧ i = .int .i64 j ∧ k = .int .i64 (n - ahead j) ∧ ahead j ≤ n ∧ w = wr) (fun _ i _ _ => (9999 - intOf i).toNat)
  case atStart => exact ⟨1970, by omega, by omega, rfl, by rw [ahead_1970]; simp, by rw [ahead_1970]; omega, rfl⟩
  case round =>
    obtain ⟨j, hj0, hj1, rfl, rfl, hja, rfl⟩ := hrel
    have ha0 := ahead_le (a := 1970) (b := j) hj0
    rw [ahead_1970] at ha0
    have hs := ahead_succ (y := j) (by omega)
    have hlpb := lp_le j
    have hlast : 9999 ≤ j → n < ahead j + 365 + lp j := fun hh => by
      obtain rfl : j = 9999 := by omega
      rw [← hs, show (9999 : Int) + 1 = 10000 from rfl, ahead_10000]; omega
    obtain ⟨A, hA⟩ : ∃ A, A = ahead j := ⟨_, rfl⟩
    rw [← hA] at ha0 hs hja hlast ⊢
    have HS := Lib.hid hs
    have HA := Lib.hid hA
    have HL := Lib.hid hlast
    clear hs hA hlast
    by_cases hlt : j < 9999
    · have g1 : decide (j < 9999) = true := decide_eq_true hlt
      by_cases hbr : n - A < 365 + lp j
      · have hrl := hbr
        rcases leap_cases j with ⟨hl, hp⟩ | ⟨hl, hp⟩
        · have gb : decide (n - A < 366) = true := decide_eq_true (by omega)
          have HLL := Lib.hid hl
          clear hl hbr
          go_wp2_with (first | (go_at_call 47; refine (rleap_any _ _).mono ?_; rintro e w' ⟨rfl, rfl⟩; rw [HLL.out]))
          obtain ⟨R, hR⟩ : ∃ R, R = n - A := ⟨_, rfl⟩
          rw [← hR]
          have hR0 : 0 ≤ R ∧ R ≤ 366 := by omega
          have HRY := Lib.hid (show R < 365 + lp j from by omega)
          have HRR := Lib.hid hR
          clear hR hrl
          go_loopw [0, 8] (fun k i wr => ∃ q : Int, 1 ≤ q ∧ q ≤ 12 ∧ i = .int .i64 q ∧ k = .int .i64 (R - bef j q) ∧ bef j q ≤ R ∧ w = wr) (fun _ i _ => (12 - intOf i).toNat)
          case atStart => exact ⟨1, by omega, by omega, rfl, by rw [bef_one]; simp, by rw [bef_one]; omega, rfl⟩
          case round =>
            obtain ⟨q, hq0, hq1, rfl, rfl, hqr, rfl⟩ := hrel
            have hbb := bef_bounds (y := j) (m := q) (by omega) (by omega)
            have hs := bef_succ (y := j) (m := q) (by omega) (by omega)
            have hdl := dlen_bounds (y := j) (m := q)
            have hc := rdays_any j q
            have hfin : R < bef j q + dlen j q → IsDate n j q (R - bef j q + 1) := fun hh => by
              have hr := HRR.out
              have ha := HA.out
              have := isDate_of (n := n) (y := j) (m := q) (by omega) (by omega) hq0 hq1 (by omega) (by omega)
              rw [hr, ha]; exact this
            have h13 := bef_13 j
            have hend : 12 ≤ q → R < bef j q + dlen j q := fun hh => by
              obtain rfl : q = 12 := by omega
              rw [← hs, show (12 : Int) + 1 = 13 from rfl, h13]; exact HRY.out
            obtain ⟨B, hB⟩ : ∃ A, A = bef j q := ⟨_, rfl⟩
            obtain ⟨D, hD⟩ : ∃ A, A = dlen j q := ⟨_, rfl⟩
            rw [← hB] at hbb hs hqr hfin hend ⊢
            rw [← hD] at hs hdl hc hfin hend
            have HS := Lib.hid hs
            have HC := Lib.hid hc
            have HF := Lib.hid hfin
            have HE := Lib.hid hend
            clear hs hB hD hc hfin hend h13
            by_cases hlq : q < 12
            · have g2 : decide (q < 12) = true := decide_eq_true hlq
              by_cases hge : D ≤ R - B
              · have g3 : decide (D ≤ R - B) = true := decide_eq_true hge
                go_wp2_with (go_at_call 44; refine (HC.out _).mono ?_; rintro e w' ⟨rfl, rfl⟩)
                go_roundw
                case rel =>
                  have hs := HS.out
                  exact ⟨q + 1, by omega, by omega, rfl, congrArg (Value.int .i64) (by rw [hs]; omega), by rw [hs]; omega, trivial⟩
                case measure => simp [intOf]; omega
              · have g3 : decide (D ≤ R - B) = false := decide_eq_false hge
                go_wp2_with (go_at_call 44; refine (HC.out _).mono ?_; rintro e w' ⟨rfl, rfl⟩)
                exact bodyPost_ret (v := .tuple #[.int .i64 j, .int .i64 q, .int .i64 (R - B + 1), .int .i64 0]) (by simp [results, Tryd.results43, go_sem]) rfl ⟨⟨j, q, R - B + 1, HF.out (by omega), rfl⟩, rfl⟩
            · have g2 : decide (q < 12) = false := decide_eq_false hlq
              have hgt := HE.out (by omega)
              go_wp2
              exact bodyPost_ret (v := .tuple #[.int .i64 j, .int .i64 q, .int .i64 (R - B + 1), .int .i64 0]) (by simp [results, Tryd.results43, go_sem]) rfl ⟨⟨j, q, R - B + 1, HF.out (by omega), rfl⟩, rfl⟩
        · have gb : decide (n - A < 365) = true := decide_eq_true (by omega)
          have HLL := Lib.hid hl
          clear hl hbr
          go_wp2_with (first | (go_at_call 47; refine (rleap_any _ _).mono ?_; rintro e w' ⟨rfl, rfl⟩; rw [HLL.out]))
          obtain ⟨R, hR⟩ : ∃ R, R = n - A := ⟨_, rfl⟩
          rw [← hR]
          have hR0 : 0 ≤ R ∧ R ≤ 366 := by omega
          have HRY := Lib.hid (show R < 365 + lp j from by omega)
          have HRR := Lib.hid hR
          clear hR hrl
          go_loopw [0, 8] (fun k i wr => ∃ q : Int, 1 ≤ q ∧ q ≤ 12 ∧ i = .int .i64 q ∧ k = .int .i64 (R - bef j q) ∧ bef j q ≤ R ∧ w = wr) (fun _ i _ => (12 - intOf i).toNat)
          case atStart => exact ⟨1, by omega, by omega, rfl, by rw [bef_one]; simp, by rw [bef_one]; omega, rfl⟩
          case round =>
            obtain ⟨q, hq0, hq1, rfl, rfl, hqr, rfl⟩ := hrel
            have hbb := bef_bounds (y := j) (m := q) (by omega) (by omega)
            have hs := bef_succ (y := j) (m := q) (by omega) (by omega)
            have hdl := dlen_bounds (y := j) (m := q)
            have hc := rdays_any j q
            have hfin : R < bef j q + dlen j q → IsDate n j q (R - bef j q + 1) := fun hh => by
              have hr := HRR.out
              have ha := HA.out
              have := isDate_of (n := n) (y := j) (m := q) (by omega) (by omega) hq0 hq1 (by omega) (by omega)
              rw [hr, ha]; exact this
            have h13 := bef_13 j
            have hend : 12 ≤ q → R < bef j q + dlen j q := fun hh => by
              obtain rfl : q = 12 := by omega
              rw [← hs, show (12 : Int) + 1 = 13 from rfl, h13]; exact HRY.out
            obtain ⟨B, hB⟩ : ∃ A, A = bef j q := ⟨_, rfl⟩
            obtain ⟨D, hD⟩ : ∃ A, A = dlen j q := ⟨_, rfl⟩
            rw [← hB] at hbb hs hqr hfin hend ⊢
            rw [← hD] at hs hdl hc hfin hend
            have HS := Lib.hid hs
            have HC := Lib.hid hc
            have HF := Lib.hid hfin
            have HE := Lib.hid hend
            clear hs hB hD hc hfin hend h13
            by_cases hlq : q < 12
            · have g2 : decide (q < 12) = true := decide_eq_true hlq
              by_cases hge : D ≤ R - B
              · have g3 : decide (D ≤ R - B) = true := decide_eq_true hge
                go_wp2_with (go_at_call 44; refine (HC.out _).mono ?_; rintro e w' ⟨rfl, rfl⟩)
                go_roundw
                case rel =>
                  have hs := HS.out
                  exact ⟨q + 1, by omega, by omega, rfl, congrArg (Value.int .i64) (by rw [hs]; omega), by rw [hs]; omega, trivial⟩
                case measure => simp [intOf]; omega
              · have g3 : decide (D ≤ R - B) = false := decide_eq_false hge
                go_wp2_with (go_at_call 44; refine (HC.out _).mono ?_; rintro e w' ⟨rfl, rfl⟩)
                exact bodyPost_ret (v := .tuple #[.int .i64 j, .int .i64 q, .int .i64 (R - B + 1), .int .i64 0]) (by simp [results, Tryd.results43, go_sem]) rfl ⟨⟨j, q, R - B + 1, HF.out (by omega), rfl⟩, rfl⟩
            · have g2 : decide (q < 12) = false := decide_eq_false hlq
              have hgt := HE.out (by omega)
              go_wp2
              exact bodyPost_ret (v := .tuple #[.int .i64 j, .int .i64 q, .int .i64 (R - B + 1), .int .i64 0]) (by simp [results, Tryd.results43, go_sem]) rfl ⟨⟨j, q, R - B + 1, HF.out (by omega), rfl⟩, rfl⟩
      · rcases leap_cases j with ⟨hl, hp⟩ | ⟨hl, hp⟩
        · have gb : decide (n - A < 366) = false := decide_eq_false (by omega)
          have HLL := Lib.hid hl
          have HP := Lib.hid hp
          clear hl hp
          go_wp2_with (go_at_call 47; refine (rleap_any _ _).mono ?_; rintro e w' ⟨rfl, rfl⟩; rw [HLL.out])
          go_roundw
          case rel =>
            have hs := HS.out
            have hp := HP.out
            exact ⟨j + 1, by omega, by omega, rfl, congrArg (Value.int .i64) (by rw [hs, hp]; omega), by rw [hs]; omega, trivial⟩
          case measure => simp [intOf]; omega
        · have gb : decide (n - A < 365) = false := decide_eq_false (by omega)
          have HLL := Lib.hid hl
          have HP := Lib.hid hp
          clear hl hp
          go_wp2_with (go_at_call 47; refine (rleap_any _ _).mono ?_; rintro e w' ⟨rfl, rfl⟩; rw [HLL.out])
          go_roundw
          case rel =>
            have hs := HS.out
            have hp := HP.out
            exact ⟨j + 1, by omega, by omega, rfl, congrArg (Value.int .i64) (by rw [hs, hp]; omega), by rw [hs]; omega, trivial⟩
          case measure => simp [intOf]; omega
    · have g1 : decide (j < 9999) = false := decide_eq_false hlt
      have hrl : n - A < 365 + lp j := by have := HL.out (by omega); omega
      go_wp2
      obtain ⟨R, hR⟩ : ∃ R, R = n - A := ⟨_, rfl⟩
      rw [← hR]
      have hR0 : 0 ≤ R ∧ R ≤ 366 := by omega
      have HRY := Lib.hid (show R < 365 + lp j from by omega)
      have HRR := Lib.hid hR
      clear hR hrl
      go_loopw [0, 8] (fun k i wr => ∃ q : Int, 1 ≤ q ∧ q ≤ 12 ∧ i = .int .i64 q ∧ k = .int .i64 (R - bef j q) ∧ bef j q ≤ R ∧ w = wr) (fun _ i _ => (12 - intOf i).toNat)
      case atStart => exact ⟨1, by omega, by omega, rfl, by rw [bef_one]; simp, by rw [bef_one]; omega, rfl⟩
      case round =>
        obtain ⟨q, hq0, hq1, rfl, rfl, hqr, rfl⟩ := hrel
        have hbb := bef_bounds (y := j) (m := q) (by omega) (by omega)
        have hs := bef_succ (y := j) (m := q) (by omega) (by omega)
        have hdl := dlen_bounds (y := j) (m := q)
        have hc := rdays_any j q
        have hfin : R < bef j q + dlen j q → IsDate n j q (R - bef j q + 1) := fun hh => by
          have hr := HRR.out
          have ha := HA.out
          have := isDate_of (n := n) (y := j) (m := q) (by omega) (by omega) hq0 hq1 (by omega) (by omega)
          rw [hr, ha]; exact this
        have h13 := bef_13 j
        have hend : 12 ≤ q → R < bef j q + dlen j q := fun hh => by
          obtain rfl : q = 12 := by omega
          rw [← hs, show (12 : Int) + 1 = 13 from rfl, h13]; exact HRY.out
        obtain ⟨B, hB⟩ : ∃ A, A = bef j q := ⟨_, rfl⟩
        obtain ⟨D, hD⟩ : ∃ A, A = dlen j q := ⟨_, rfl⟩
        rw [← hB] at hbb hs hqr hfin hend ⊢
        rw [← hD] at hs hdl hc hfin hend
        have HS := Lib.hid hs
        have HC := Lib.hid hc
        have HF := Lib.hid hfin
        have HE := Lib.hid hend
        clear hs hB hD hc hfin hend h13
        by_cases hlq : q < 12
        · have g2 : decide (q < 12) = true := decide_eq_true hlq
          by_cases hge : D ≤ R - B
          · have g3 : decide (D ≤ R - B) = true := decide_eq_true hge
            go_wp2_with (go_at_call 44; refine (HC.out _).mono ?_; rintro e w' ⟨rfl, rfl⟩)
            go_roundw
            case rel =>
              have hs := HS.out
              exact ⟨q + 1, by omega, by omega, rfl, congrArg (Value.int .i64) (by rw [hs]; omega), by rw [hs]; omega, trivial⟩
            case measure => simp [intOf]; omega
          · have g3 : decide (D ≤ R - B) = false := decide_eq_false hge
            go_wp2_with (go_at_call 44; refine (HC.out _).mono ?_; rintro e w' ⟨rfl, rfl⟩)
            exact bodyPost_ret (v := .tuple #[.int .i64 j, .int .i64 q, .int .i64 (R - B + 1), .int .i64 0]) (by simp [results, Tryd.results43, go_sem]) rfl ⟨⟨j, q, R - B + 1, HF.out (by omega), rfl⟩, rfl⟩
        · have g2 : decide (q < 12) = false := decide_eq_false hlq
          have hgt := HE.out (by omega)
          go_wp2
          exact bodyPost_ret (v := .tuple #[.int .i64 j, .int .i64 q, .int .i64 (R - B + 1), .int .i64 0]) (by simp [results, Tryd.results43, go_sem]) rfl ⟨⟨j, q, R - B + 1, HF.out (by omega), rfl⟩, rfl⟩
end Go.Proofs.YtgedcfgmfhlkdaaDoor
