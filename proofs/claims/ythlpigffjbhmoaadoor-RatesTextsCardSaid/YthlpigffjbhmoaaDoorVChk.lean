/- The program's Check, and what may follow. -/
import Derived.Test.YthlpigffjbhmoaaDoorVOpen
import Derived.WalkLawsBesides
import Derived.LoopTactic
import Derived.Laws.Rows
import Derived.Laws.Tables
import Derived.Deep.QuietTactic
import Derived.BigQuiet
import Derived.WalkSmall
import Derived.OrdersHeld
import Derived.Deep.MidRow
import Derived.Deep.RegionWith
set_option linter.unusedVariables false
set_option linter.unusedSimpArgs false
namespace Go.Proofs.YthlpigffjbhmoaaDoor
open Go.RowKit Go.Shelf
theorem isFrom_any (n a b : Int) (w : World) : Calls Tryd.prog 48 #[.int .i64 n, .int .i64 a, .int .i64 b] w fun e w' => e = .returned (.bool (decide (a ≤ n ∧ n ≤ b))) ∧ w = w' := by
  by_cases h1 : a ≤ n
  · by_cases h2 : n ≤ b
    · rw [decide_eq_true ⟨h1, h2⟩]
      go_enter Tryd.func48, Tryd.ntmps48
      go_wp2
      go_ret
      exact ⟨rfl, rfl⟩
    · rw [decide_eq_false (fun h => h2 h.2)]
      go_enter Tryd.func48, Tryd.ntmps48
      go_wp2
      go_ret
      exact ⟨rfl, rfl⟩
  · rw [decide_eq_false (fun h => h1 h.1)]
    go_enter Tryd.func48, Tryd.ntmps48
    go_wp2
    go_ret
    exact ⟨rfl, rfl⟩
theorem isFrom_yes {n a b : Int} (h : a ≤ n ∧ n ≤ b) (w : World) : Calls Tryd.prog 48 #[.int .i64 n, .int .i64 a, .int .i64 b] w fun e w' => e = .returned (.bool true) ∧ w = w' := by
  have := isFrom_any n a b w
  rwa [decide_eq_true h] at this
theorem isFrom_no {n a b : Int} (h : ¬ (a ≤ n ∧ n ≤ b)) (w : World) : Calls Tryd.prog 48 #[.int .i64 n, .int .i64 a, .int .i64 b] w fun e w' => e = .returned (.bool false) ∧ w = w' := by
  have := isFrom_any n a b w
  rwa [decide_eq_false h] at this
theorem last_at {l : List Ve} {k : Nat} (h : l.length = k + 1) : l.getLast? = l[k]? := by
  rw [List.getLast?_eq_getElem?, h, Nat.add_sub_cancel]
set_option maxRecDepth 100000 in
set_option maxHeartbeats 4000000 in
theorem mayFollow_any (a : Option Addr) (n cap : Nat) (l : List Ve) (hn : l.length = n) (f : Int) (a' : Option Addr) (m c' : Nat) (ps : List Int) (hm : ps.length = m) (w : World) (hL : VesAt w.heap.size w a l) (hP : PrAt w.heap.size w a' ps) (hnx : n ≤ maxLen) (hmx : m ≤ maxLen) :
    Calls Tryd.prog 30 #[.slice a n cap, verV f a' m c'] w fun e w' => e = .returned (.bool (decide (Follows l ⟨f, ps⟩))) ∧ Below w.heap.size w w' := by
  unfold maxLen at hnx hmx
  have HB0 := Lib.hid ((Below.refl _ w).alloc (Nat.le_refl _) (.cells #[.int .i64 f, .slice a' m c'] 42))
  have HZ0 := Lib.hid (heap_alloc_new w (.cells #[.int .i64 f, .slice a' m c'] 42))
  have HL := Lib.hid hL
  have HP := Lib.hid hP
  have HN := Lib.hid hn
  have HM := Lib.hid hm
  clear hL hP
  by_cases h1 : 200 ≤ n
  · have g1 : (200 : Int) ≤ n := by omega
    rw [decide_eq_false (fun h : Follows l ⟨f, ps⟩ => by have := h.1; omega)]
    clear hn hm
    go_enter Tryd.func30, Tryd.ntmps30
    go_wp2
    go_ret
    exact ⟨rfl, HB0.out⟩
  have g1 : ¬ (200 : Int) ≤ n := by omega
  by_cases h2 : 0 ≤ f ∧ f ≤ 253402300799
  case neg =>
    have HF := Lib.hid (fun W : World => isFrom_no h2 W)
    rw [decide_eq_false (fun h : Follows l ⟨f, ps⟩ => by have := h.2.1.1; simp only at this; omega)]
    clear hn hm h2
    go_enter Tryd.func30, Tryd.ntmps30
    go_wp2_with fail
    refine (HF.out _).mono ?_
    rintro e w' ⟨rfl, rfl⟩
    go_wp2
    go_ret
    exact ⟨rfl, HB0.out⟩
  have HF := Lib.hid (fun W : World => isFrom_yes h2 W)
  by_cases h3 : 1 ≤ (m : Int) ∧ (m : Int) ≤ 16
  case neg =>
    have HF2 := Lib.hid (fun W : World => isFrom_no h3 W)
    rw [decide_eq_false (fun h : Follows l ⟨f, ps⟩ => by have := h.2.1.2.1; simp only at this; omega)]
    clear hn hm h2 h3
    go_enter Tryd.func30, Tryd.ntmps30
    go_wp2_with fail
    refine (HF.out _).mono ?_
    rintro e w' ⟨rfl, rfl⟩
    go_wp2_with fail
    refine (HF2.out _).mono ?_
    rintro e w' ⟨rfl, rfl⟩
    go_wp2
    go_ret
    exact ⟨rfl, HB0.out⟩
  have HF2 := Lib.hid (fun W : World => isFrom_yes h3 W)
  have H2 := Lib.hid h2
  have H3 := Lib.hid h3
  clear hn hm h2 h3
  go_enter Tryd.func30, Tryd.ntmps30
  go_wp2_with fail
  refine (HF.out _).mono ?_
  rintro e w' ⟨rfl, rfl⟩
  go_wp2_with fail
  refine (HF2.out _).mono ?_
  rintro e w' ⟨rfl, rfl⟩
  clear HF HF2
  go_wp2_with fail
  go_loopw [27] (fun i wr => ∃ k : Nat, k ≤ m ∧ i = .int .i64 k ∧ (∀ j p, j < k → ps[j]? = some p → PrMay p) ∧ wr.heap[w.heap.size]? = some (.cells #[.int .i64 f, .slice a' m c'] 42 (0, 0)) ∧ Below w.heap.size w wr) (fun i _ => (m - intOf i).toNat)
  case atStart => exact ⟨0, Nat.zero_le _, rfl, fun j p hj => absurd hj (Nat.not_lt_zero _), HZ0.out, HB0.out⟩
  case round =>
    obtain ⟨k, hk, rfl, hall, hz, hb⟩ := hrel
    have HALL := Lib.hid hall
    have HB := Lib.hid hb
    have HZ := Lib.hid hz
    have z0 : wr.cell? ⟨w.heap.size, 0, none⟩ = some (.int .i64 f) := cell_of_row _ _ 0 _ _ _ hz
    have z1 : wr.cell? ⟨w.heap.size, 1, none⟩ = some (.slice a' m c') := cell_of_row _ _ 1 _ _ _ hz
    clear hall hb hz HZ0 HB0
    by_cases hlt : k < m
    · have hlti : (k : Int) < m := by omega
      obtain ⟨p, hp⟩ : ∃ p, ps[k]? = some p := ⟨_, List.getElem?_eq_getElem (by rw [HM.out]; exact hlt)⟩
      obtain ⟨b, o, rfl, hbl, c0⟩ := HP.out.next HB.out (Nat.le_refl _) k p hp
      have HPP := Lib.hid hp
      clear hp
      by_cases hpm : 0 ≤ p ∧ p ≤ 1073741824
      · have HF := Lib.hid (fun W : World => isFrom_yes hpm W)
        have HPM := Lib.hid (show PrMay p from hpm)
        clear hpm
        go_wp2_with fail
        refine (HF.out _).mono ?_
        rintro e w' ⟨rfl, rfl⟩
        go_wp2
        go_roundw
        case rel => exact ⟨k + 1, by omega, by go_num, fun j q hj hq => by rcases Nat.lt_succ_iff_lt_or_eq.1 hj with q' | q'; exact HALL.out j q q' hq; rw [q', HPP.out] at hq; cases hq; exact HPM.out, HZ.out, HB.out⟩
        case measure => first | (simp [intOf]; done) | (simp [intOf]; omega)
      · have HF := Lib.hid (fun W : World => isFrom_no hpm W)
        have HNO := Lib.hid (show decide (Follows l ⟨f, ps⟩) = false from decide_eq_false (fun h => hpm (h.2.1.2.2 p (List.mem_of_getElem? HPP.out))))
        clear hpm
        go_wp2_with fail
        refine (HF.out _).mono ?_
        rintro e w' ⟨rfl, rfl⟩
        go_wp2
        go_ret
        rw [HNO.out]
        exact ⟨rfl, HB.out⟩
    · have hke : k = m := by omega
      subst hke
      have hnl : ¬ ((k : Int) < k) := by omega
      have HV := Lib.hid (show VerMay ⟨f, ps⟩ from ⟨by have := H2.out; simp only; omega, by have := H3.out; have := HM.out; simp only; omega, fun p hp => by
        obtain ⟨j, hj, rfl⟩ := List.getElem_of_mem hp
        exact HALL.out j _ (by have := HM.out; have hj' : j < ps.length := hj; omega) (List.getElem?_eq_getElem hj)⟩)
      by_cases hn0 : n = 0
      · have g4 : ((n : Int) == 0) = true := by simp [hn0]
        have HYES := Lib.hid (show decide (Follows l ⟨f, ps⟩) = true from decide_eq_true ⟨by have := HN.out; omega, HV.out, fun u hu => by
          have e0 : l = [] := List.length_eq_zero_iff.1 (by rw [HN.out, hn0])
          rw [e0] at hu
          cases hu⟩)
        clear hn0
        go_wp2
        go_ret
        rw [HYES.out]
        exact ⟨rfl, HB.out⟩
      · obtain ⟨j, rfl⟩ : ∃ j, n = j + 1 := ⟨n - 1, by omega⟩
        have g4 : (((j + 1 : Nat) : Int) == 0) = false := by simp; omega
        have hji : ((j + 1 : Nat) : Int) - 1 = j := by omega
        have hjl : (j : Int) < ((j + 1 : Nat) : Int) := by omega
        obtain ⟨⟨uf, ups⟩, hu⟩ : ∃ u, l[j]? = some u := ⟨_, List.getElem?_eq_getElem (by rw [HN.out]; omega)⟩
        obtain ⟨b, o, ua, uc, rfl, hbl, c0, c1, hle, hup⟩ := HL.out.next HB.out (Nat.le_refl _) j _ hu
        obtain ⟨ul, hul⟩ : ∃ ul, ups.length = ul := ⟨_, rfl⟩
        simp only at c0 c1 hle hup
        rw [hul] at c1 hle
        have HU := Lib.hid hu
        have HUL := Lib.hid hul
        have hz2 := heap_old HZ.out (.cells #[.int .i64 uf, .slice ua ul uc] 42)
        have y0 : (wr.alloc (.cells #[.int .i64 uf, .slice ua ul uc] 42)).cell? ⟨w.heap.size, 0, none⟩ = some (.int .i64 f) := cell_of_row _ _ 0 _ _ _ hz2
        have y1 : (wr.alloc (.cells #[.int .i64 uf, .slice ua ul uc] 42)).cell? ⟨w.heap.size, 1, none⟩ = some (.slice a' k c') := cell_of_row _ _ 1 _ _ _ hz2
        have HB3 := Lib.hid (HB.out.alloc HB.out.size (.cells #[.int .i64 uf, .slice ua ul uc] 42))
        have HAH := Lib.hid (fun h : Follows l ⟨f, ps⟩ => (show Ahead ⟨uf, ups⟩ ⟨f, ps⟩ from h.2.2 _ (by rw [last_at HN.out]; exact HU.out)))
        clear hu hul hz2 hn0 hup
        by_cases q1 : uf < f
        · by_cases q2 : ul = k
          · have g5 : ((ul : Int) == (k : Int)) = true := by simp [q2]
            have HYES := Lib.hid (show decide (Follows l ⟨f, ps⟩) = true from decide_eq_true ⟨by have := HN.out; omega, HV.out, fun u hu => by
              rw [last_at HN.out, HU.out] at hu
              cases hu
              exact ⟨q1, by have := HM.out; have := HUL.out; simp only; omega⟩⟩)
            clear q2
            go_wp2
            go_ret
            rw [HYES.out]
            exact ⟨rfl, HB3.out⟩
          · have g5 : ((ul : Int) == (k : Int)) = false := by simp; omega
            have HNO := Lib.hid (show decide (Follows l ⟨f, ps⟩) = false from decide_eq_false (fun h => by have := (HAH.out h).2; have := HM.out; have := HUL.out; simp only at *; omega))
            clear q2
            go_wp2
            go_ret
            rw [HNO.out]
            exact ⟨rfl, HB3.out⟩
        · have HNO := Lib.hid (show decide (Follows l ⟨f, ps⟩) = false from decide_eq_false (fun h => q1 (HAH.out h).1))
          go_wp2
          go_ret
          rw [HNO.out]
          exact ⟨rfl, HB3.out⟩
end Go.Proofs.YthlpigffjbhmoaaDoor
