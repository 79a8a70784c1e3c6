/- Joined: VRef1 VRefS. -/
import Derived.Test.YtbffmobjiiicoaaGreatDoorJV1
section
/- The document's one, Check, At and Great. -/
set_option linter.unusedVariables false
set_option linter.unusedSimpArgs false
namespace Go.Proofs.YtbffmobjiiicoaaGreatDoor.V10
open Go.RowKit Go.Shelf
set_option maxRecDepth 100000 in
set_option maxHeartbeats 4000000 in
theorem rOne_any (f : Int) (a' : Option Addr) (m c' : Nat) (ps : List Int) (hm : ps.length = m) (w : World) (hP : PrAt w.heap.size w a' ps) (hmx : m ≤ maxLen) :
    Calls Tryz.prog 51 #[verV f a' m c'] w fun e w' => e = .returned (.bool (decide (VerMay ⟨f, ps⟩))) ∧ Below w.heap.size w w' := by
  unfold maxLen at hmx
  have HB0 := Lib.hid ((Below.refl _ w).alloc (Nat.le_refl _) (.cells #[.int .i64 f, .slice a' m c'] 52))
  have HZ0 := Lib.hid (heap_alloc_new w (.cells #[.int .i64 f, .slice a' m c'] 52))
  have HP := Lib.hid hP
  have HM := Lib.hid hm
  clear hP
  by_cases g1 : f < 0
  · rw [decide_eq_false (fun h : VerMay ⟨f, ps⟩ => by have := h.1.1; simp only at this; omega)]
    clear hm
    go_enter Tryz.func51, Tryz.ntmps51
    go_wp2
    go_ret
    exact ⟨rfl, HB0.out⟩
  by_cases g2 : 253402300800 ≤ f
  · rw [decide_eq_false (fun h : VerMay ⟨f, ps⟩ => by have := h.1.2; simp only at this; omega)]
    clear hm
    go_enter Tryz.func51, Tryz.ntmps51
    go_wp2
    go_ret
    exact ⟨rfl, HB0.out⟩
  by_cases h3 : m = 0
  · rw [decide_eq_false (fun h : VerMay ⟨f, ps⟩ => by have := h.2.1.1; simp only at this; omega)]
    have g3 : ((m : Int) == 0) = true := by simp [h3]
    clear hm h3
    go_enter Tryz.func51, Tryz.ntmps51
    go_wp2
    go_ret
    exact ⟨rfl, HB0.out⟩
  have g3 : ((m : Int) == 0) = false := by simp [h3]
  by_cases h4 : 16 < m
  · rw [decide_eq_false (fun h : VerMay ⟨f, ps⟩ => by have := h.2.1.2; simp only at this; omega)]
    have g4 : (16 : Int) < m := by omega
    clear hm h3 h4
    go_enter Tryz.func51, Tryz.ntmps51
    go_wp2
    go_ret
    exact ⟨rfl, HB0.out⟩
  have g4 : ¬ (16 : Int) < m := by omega
  clear hm
  go_enter Tryz.func51, Tryz.ntmps51
  go_wp2_with fail
  go_loopw [3] (fun i wr => ∃ k : Nat, k ≤ m ∧ i = .int .i64 k ∧ (∀ j p, j < k → ps[j]? = some p → PrMay p) ∧ wr.heap[w.heap.size]? = some (.cells #[.int .i64 f, .slice a' m c'] 52 (0, 0)) ∧ Below w.heap.size w wr) (fun i _ => (m - intOf i).toNat)
  case atStart => exact ⟨0, Nat.zero_le _, rfl, fun j p hj => absurd hj (Nat.not_lt_zero _), HZ0.out, HB0.out⟩
  case round =>
    obtain ⟨k, hk, rfl, hall, hz, hb⟩ := hrel
    have HALL := Lib.hid hall
    have HB := Lib.hid hb
    have HZ := Lib.hid hz
    have z1 : wr.cell? ⟨w.heap.size, 1, none⟩ = some (.slice a' m c') := cell_of_row _ _ 1 _ _ _ hz
    clear hall hb hz HZ0 HB0
    by_cases hlt : k < m
    · have hlti : (k : Int) < m := by omega
      obtain ⟨p, hp⟩ : ∃ p, ps[k]? = some p := ⟨_, List.getElem?_eq_getElem (by rw [HM.out]; exact hlt)⟩
      obtain ⟨b, o, rfl, hbl, c0⟩ := HP.out.next HB.out (Nat.le_refl _) k p hp
      have HPP := Lib.hid hp
      clear hp
      by_cases q1 : p < 0
      · have HNO := Lib.hid (show decide (VerMay ⟨f, ps⟩) = false from decide_eq_false (fun h => by have := h.2.2 p (List.mem_of_getElem? HPP.out); unfold PrMay at this; omega))
        go_wp2
        go_ret
        rw [HNO.out]
        exact ⟨rfl, HB.out⟩
      · by_cases q2 : 1073741824 < p
        · have HNO := Lib.hid (show decide (VerMay ⟨f, ps⟩) = false from decide_eq_false (fun h => by have := h.2.2 p (List.mem_of_getElem? HPP.out); unfold PrMay at this; omega))
          go_wp2
          go_ret
          rw [HNO.out]
          exact ⟨rfl, HB.out⟩
        · have HPM := Lib.hid (show PrMay p by unfold PrMay; omega)
          go_wp2
          go_roundw
          case rel => exact ⟨k + 1, by omega, by go_num, fun j q hj hq => by rcases Nat.lt_succ_iff_lt_or_eq.1 hj with q' | q'; exact HALL.out j q q' hq; rw [q', HPP.out] at hq; cases hq; exact HPM.out, HZ.out, HB.out⟩
          case measure => first | (simp [intOf]; done) | (simp [intOf]; omega)
    · have hke : k = m := by omega
      subst hke
      have hnl : ¬ ((k : Int) < k) := by omega
      have HYES := Lib.hid (show decide (VerMay ⟨f, ps⟩) = true from decide_eq_true ⟨by simp only; omega, by have := HM.out; simp only; omega, fun p hp => by
        obtain ⟨j, hj, rfl⟩ := List.getElem_of_mem hp
        exact HALL.out j _ (by have := HM.out; have hj' : j < ps.length := hj; omega) (List.getElem?_eq_getElem hj)⟩)
      go_wp2
      go_ret
      rw [HYES.out]
      exact ⟨rfl, HB.out⟩
theorem last_take {l : List Ve} {j : Nat} {u : Ve} (h : l[j]? = some u) : (l.take (j + 1)).getLast? = some u := by
  rw [take_succ h]; simp
theorem tab_step {l : List Ve} (h : TabMay l) {j : Nat} {u v : Ve} (hu : l[j]? = some u) (hv : l[j + 1]? = some v) : Ahead u v := (tab_at h hv).2.2 u (last_take hu)
theorem first_follows {v : Ve} (h : VerMay v) {l : List Ve} : Follows (l.take 0) v := by
  rw [List.take_zero]
  exact ⟨by decide, h, fun u hu => by cases hu⟩
set_option maxRecDepth 100000 in
set_option maxHeartbeats 4000000 in
theorem rCheck_any (a : Option Addr) (n cap : Nat) (l : List Ve) (hn : l.length = n) (w : World) (hL : VesAt w.heap.size w a l) (hnx : n ≤ cap ∧ cap ≤ maxLen) :
    Calls Tryz.prog 25 #[.slice a n cap] w fun e w' => e = .returned (.int .i64 (tErr l)) ∧ Below w.heap.size w w' := by
  unfold maxLen at hnx
  obtain ⟨hcap, hmx⟩ := hnx
  by_cases h1 : 200 < n
  · rw [tErr_no (fun h => by have := tab_len h; omega)]
    have g1 : (200 : Int) < n := by omega
    clear hL hn
    go_enter Tryz.func25, Tryz.ntmps25
    go_wp2
    go_ret
    exact ⟨rfl, Below.refl _ _⟩
  have g1 : ¬ (200 : Int) < n := by omega
  have HL := Lib.hid hL
  have HN := Lib.hid hn
  clear hL hn
  go_enter Tryz.func25, Tryz.ntmps25
  go_wp2_with fail
  go_loopw [3] (fun i wr => ∃ k : Nat, k ≤ n ∧ i = .int .i64 k ∧ TabMay (l.take k) ∧ Below w.heap.size w wr) (fun i _ => (n - intOf i).toNat)
  case atStart => exact ⟨0, Nat.zero_le _, rfl, by rw [List.take_zero]; exact tab_nil, Below.refl _ _⟩
  case round =>
    obtain ⟨k, hk, rfl, htab, hb⟩ := hrel
    have HT := Lib.hid htab
    have HB := Lib.hid hb
    clear htab hb
    by_cases hlt : k < n
    · have hlti : (k : Int) < n := by omega
      obtain ⟨⟨f, ps⟩, hv⟩ : ∃ v, l[k]? = some v := ⟨_, List.getElem?_eq_getElem (by rw [HN.out]; exact hlt)⟩
      obtain ⟨b, o, pa, pc, rfl, hbl, c0, c1, hle, hup⟩ := HL.out.next HB.out (Nat.le_refl _) k _ hv
      obtain ⟨m, hm⟩ : ∃ m, ps.length = m := ⟨_, rfl⟩
      simp only at c0 c1 hle hup
      rw [hm] at c1 hle
      have HV := Lib.hid hv
      have HSUC := Lib.hid (take_succ hv)
      have HLM := Lib.hid hm
      have hone := rOne_any f pa m pc ps hm wr (hup.mono HB.out.size) (by unfold maxLen at *; omega)
      by_cases hvm : VerMay ⟨f, ps⟩
      · rw [decide_eq_true hvm] at hone
        have HONE := Lib.hid hone
        have HVM := Lib.hid hvm
        clear hv hm hone hvm hup
        by_cases hk0 : k = 0
        · have HF := Lib.hid (show Follows (l.take k) ⟨f, ps⟩ by rw [hk0]; exact first_follows HVM.out)
          have hkn : decide ((0 : Int) < k) = false := decide_eq_false (by omega)
          have hkn2 : decide (0 < k) = false := decide_eq_false (by omega)
          clear hk0
          go_wp2_with fail
          refine HONE.out.mono ?_
          rintro e w2 ⟨rfl, hB2⟩
          have HB2 := Lib.hid (HB.out.trans (hB2.mono HB.out.size))
          clear hB2 c0 c1
          go_wp2_with fail
          go_quiet (fail)
          go_wp2
          go_roundw
          case rel => exact ⟨k + 1, by omega, by go_num, by rw [HSUC.out]; exact (tab_snoc _ _).2 ⟨HT.out, HF.out⟩, below_drewN HB2.out _⟩
          case measure => first | (simp [intOf]; done) | (simp [intOf]; omega)
        · obtain ⟨j, hjk⟩ : ∃ j, k = j + 1 := ⟨k - 1, by omega⟩
          have hkp : decide ((0 : Int) < k) = true := decide_eq_true (by omega)
          have hkp2 : decide (0 < k) = true := decide_eq_true (by omega)
          have hkq : (0 : Int) < k := by omega
          have hki : (k : Int) - 1 = j := by omega
          have hjl : j < n := by omega
          have hjli : (j : Int) < n := by omega
          have hjw : IntKind.i64.wrap (j : Int) = (j : Int) := by simp only [IntKind.wrap_i64, wrap64]; omega
          obtain ⟨⟨uf, ups⟩, hu⟩ : ∃ u, l[j]? = some u := ⟨_, List.getElem?_eq_getElem (by rw [HN.out]; omega)⟩
          have HU := Lib.hid hu
          obtain ⟨ul, hul⟩ : ∃ ul, ups.length = ul := ⟨_, rfl⟩
          have HUL := Lib.hid hul
          have HNO := Lib.hid (fun (h : ¬ Ahead ⟨uf, ups⟩ ⟨f, ps⟩) => tErr_no (l := l) (fun q => h (tab_step q HU.out (by have := HV.out; rwa [hjk] at this))))
          have HYES := Lib.hid (fun (h : Ahead ⟨uf, ups⟩ ⟨f, ps⟩) => (show Follows (l.take k) ⟨f, ps⟩ from ⟨by rw [List.length_take, HN.out]; omega, HVM.out, fun z hz => by
            rw [hjk, last_take HU.out] at hz
            cases hz
            exact h⟩))
          clear hu hul hk0 hjk
          go_wp2_with fail
          refine HONE.out.mono ?_
          rintro e w2 ⟨rfl, hB2⟩
          have HB2 := Lib.hid (HB.out.trans (hB2.mono HB.out.size))
          obtain ⟨b', o', pa', pc', e', _, d0, d1, hle', _⟩ := HL.out.next HB2.out (Nat.le_refl _) k _ HV.out
          cases e'
          obtain ⟨b', o', ua, uc, e', _, y0, y1, hle2, _⟩ := HL.out.next HB2.out (Nat.le_refl _) j _ HU.out
          cases e'
          simp only at d0 d1 y0 y1
          rw [HLM.out] at d1
          rw [HUL.out] at y1
          clear hB2 c0 c1 hle hle' hle2
          by_cases q1 : f ≤ uf
          · have HER := Lib.hid (HNO.out (fun h => by have := h.1; simp only at this; omega))
            go_wp2_with fail
            go_quiet (fail)
            go_wp2
            go_ret
            rw [HER.out]
            exact ⟨rfl, below_drewN HB2.out _⟩
          · by_cases q2 : m = ul
            · have g5 : ((m : Int) != (ul : Int)) = false := by simp [q2]
              have HF := Lib.hid (HYES.out ⟨by simp only; omega, by have := HLM.out; have := HUL.out; simp only; omega⟩)
              clear q2
              go_wp2_with fail
              go_quiet (fail)
              go_wp2
              go_roundw
              case rel => exact ⟨k + 1, by omega, by go_num, by rw [HSUC.out]; exact (tab_snoc _ _).2 ⟨HT.out, HF.out⟩, below_drewN HB2.out _⟩
              case measure => first | (simp [intOf]; done) | (simp [intOf]; omega)
            · have g5 : ((m : Int) != (ul : Int)) = true := by simp; omega
              have HER := Lib.hid (HNO.out (fun h => by have := h.2; have := HLM.out; have := HUL.out; simp only at *; omega))
              clear q2
              go_wp2_with fail
              go_quiet (fail)
              go_wp2
              go_ret
              rw [HER.out]
              exact ⟨rfl, below_drewN HB2.out _⟩
      · rw [decide_eq_false hvm] at hone
        have HONE := Lib.hid hone
        have HER := Lib.hid (tErr_no (l := l) (fun q => hvm (tab_ver q (List.mem_of_getElem? hv))))
        clear hv hm hone hvm hup
        go_wp2_with fail
        refine HONE.out.mono ?_
        rintro e w2 ⟨rfl, hB2⟩
        have HB2 := Lib.hid (HB.out.trans (hB2.mono HB.out.size))
        clear hB2 c0 c1
        go_wp2_with fail
        go_quiet (fail)
        go_wp2
        go_ret
        rw [HER.out]
        exact ⟨rfl, below_drewN HB2.out _⟩
    · have hke : k = n := by omega
      subst hke
      have hnl : ¬ ((k : Int) < k) := by omega
      have HYES := Lib.hid (tErr_yes (l := l) (by have := HT.out; rwa [List.take_of_length_le (by have := HN.out; omega)] at this))
      go_wp2
      go_ret
      rw [HYES.out]
      exact ⟨rfl, HB.out⟩
end Go.Proofs.YtbffmobjiiicoaaGreatDoor.V10
end
section
/- The document's Same. -/
set_option linter.unusedVariables false
set_option linter.unusedSimpArgs false
namespace Go.Proofs.YtbffmobjiiicoaaGreatDoor.V10
open Go.RowKit Go.Shelf
end Go.Proofs.YtbffmobjiiicoaaGreatDoor.V10
end
