/- The program's Same. -/
import Derived.Test.YthlpigffjbhmoaaDoorVGets
set_option linter.unusedVariables false
set_option linter.unusedSimpArgs false
namespace Go.Proofs.YthlpigffjbhmoaaDoor
open Go.RowKit Go.Shelf
set_option maxRecDepth 100000 in
set_option maxHeartbeats 4000000 in
theorem equalP_any (a : Option Addr) (n cap : Nat) (ps : List Int) (hn : ps.length = n) (a2 : Option Addr) (n2 cap2 : Nat) (qs : List Int) (hn2 : qs.length = n2) (w : World) (hA : PrAt w.heap.size w a ps) (hA2 : PrAt w.heap.size w a2 qs) (hnx : n ≤ maxLen) (hnx2 : n2 ≤ maxLen) :
    Calls Tryd.prog 35 #[.slice a n cap, .slice a2 n2 cap2] w fun e w' => e = .returned (.bool (decide (ps = qs))) ∧ Below w.heap.size w w' := by
  unfold maxLen at hnx hnx2
  by_cases hnn : n = n2
  case neg =>
    rw [decide_eq_false (fun e : ps = qs => hnn (by rw [← hn, ← hn2, e]))]
    have g1 : ((n : Int) != (n2 : Int)) = true := by simp; omega
    clear hA hA2 hn hn2
    go_enter Tryd.func35, Tryd.ntmps35
    go_wp2
    go_ret
    exact ⟨rfl, Below.refl _ _⟩
  subst hnn
  have HA := Lib.hid hA
  have HA2 := Lib.hid hA2
  have HN := Lib.hid hn
  have HN2 := Lib.hid hn2
  clear hA hA2 hn hn2
  go_enter Tryd.func35, Tryd.ntmps35
  go_wp2_with fail
  go_loopw [13] (fun i wr => ∃ k : Nat, k ≤ n ∧ i = .int .i64 k ∧ (∀ j, j < k → ps[j]? = qs[j]?) ∧ Below w.heap.size w wr) (fun i _ => (n - intOf i).toNat)
  case atStart => exact ⟨0, Nat.zero_le _, rfl, fun j hj => absurd hj (Nat.not_lt_zero _), Below.refl _ _⟩
  case round =>
    obtain ⟨k, hk, rfl, hall, hb⟩ := hrel
    have HALL := Lib.hid hall
    have HB := Lib.hid hb
    clear hall hb
    by_cases hlt : k < n
    · have hlti : (k : Int) < n := by omega
      obtain ⟨p, hp⟩ : ∃ p, ps[k]? = some p := ⟨_, List.getElem?_eq_getElem (by rw [HN.out]; exact hlt)⟩
      obtain ⟨q, hq⟩ : ∃ p, qs[k]? = some p := ⟨_, List.getElem?_eq_getElem (by rw [HN2.out]; exact hlt)⟩
      obtain ⟨b, o, rfl, _, c0⟩ := HA.out.next HB.out (Nat.le_refl _) k p hp
      obtain ⟨b2, o2, rfl, _, d0⟩ := HA2.out.next HB.out (Nat.le_refl _) k q hq
      have HP := Lib.hid hp
      have HQ := Lib.hid hq
      clear hp hq
      by_cases hpq : p = q
      · have g1 : (p != q) = false := by simp [hpq]
        have HPQ := Lib.hid hpq
        clear hpq
        go_wp2_with fail
        go_quiet (fail)
        go_wp2
        go_roundw
        case rel => exact ⟨k + 1, by omega, by go_num, fun j hj => by rcases Nat.lt_succ_iff_lt_or_eq.1 hj with h' | h'; exact HALL.out j h'; rw [h', HP.out, HQ.out, HPQ.out], below_drewN HB.out _⟩
        case measure => first | (simp [intOf]; done) | (simp [intOf]; omega)
      · have g1 : (p != q) = true := by simp [hpq]
        have HNO := Lib.hid (show decide (ps = qs) = false from decide_eq_false (fun e => hpq (by
          have := HP.out
          rw [e, HQ.out] at this
          cases this; rfl)))
        clear hpq
        go_wp2_with fail
        go_quiet (fail)
        go_wp2
        go_ret
        rw [HNO.out]
        exact ⟨rfl, below_drewN HB.out _⟩
    · have hke : k = n := by omega
      subst hke
      have hnl : ¬ ((k : Int) < k) := by omega
      have HYES := Lib.hid (show decide (ps = qs) = true from decide_eq_true (List.ext_getElem? (fun i => by
        by_cases hi : i < k
        · exact HALL.out i hi
        · rw [List.getElem?_eq_none (by rw [HN.out]; omega), List.getElem?_eq_none (by rw [HN2.out]; omega)])))
      go_wp2
      go_ret
      rw [HYES.out]
      exact ⟨rfl, HB.out⟩
set_option maxRecDepth 100000 in
set_option maxHeartbeats 2000000 in
theorem same1_any (f : Int) (a : Option Addr) (n cap : Nat) (ps : List Int) (hn : ps.length = n) (f2 : Int) (a2 : Option Addr) (n2 cap2 : Nat) (qs : List Int) (hn2 : qs.length = n2) (w : World) (hA : PrAt w.heap.size w a ps) (hA2 : PrAt w.heap.size w a2 qs) (hnx : n ≤ maxLen) (hnx2 : n2 ≤ maxLen) :
    Calls Tryd.prog 34 #[verV f a n cap, verV f2 a2 n2 cap2] w fun e w' => e = .returned (.bool (decide ((⟨f, ps⟩ : Ve) = ⟨f2, qs⟩))) ∧ Below w.heap.size w w' := by
  have hs1 : (w.alloc (.cells #[.int .i64 f, .slice a n cap] 42)).heap.size = w.heap.size + 1 := World.size_alloc _ _
  have hb := ((Below.refl _ w).alloc (Nat.le_refl _) (.cells #[.int .i64 f, .slice a n cap] 42)).alloc (by rw [hs1]; omega) (.cells #[.int .i64 f2, .slice a2 n2 cap2] 42)
  have HEQ := Lib.hid (equalP_any a n cap ps hn a2 n2 cap2 qs hn2 _ (hA.from hb (Nat.le_refl _)) (hA2.from hb (Nat.le_refl _)) hnx hnx2)
  have HB := Lib.hid hb
  have hd : decide ((⟨f, ps⟩ : Ve) = ⟨f2, qs⟩) = ((f == f2) && decide (ps = qs)) := by
    rw [Bool.eq_iff_iff, Bool.and_eq_true, decide_eq_true_iff, decide_eq_true_iff, beq_iff_eq, Ve.mk.injEq]
  have HD := Lib.hid hd
  clear hb hA hA2 hn hn2 hnx hnx2 hd
  by_cases q : f = f2
  · have g1 : (f == f2) = true := by simp [q]
    rw [HD.out, g1, Bool.true_and]
    obtain ⟨z, hz⟩ : ∃ z, decide (ps = qs) = z := ⟨_, rfl⟩
    rw [hz] at HEQ ⊢
    clear hz HD q
    go_enter Tryd.func34, Tryd.ntmps34
    go_wp2_with fail
    refine HEQ.out.mono ?_
    rintro e w1 ⟨rfl, hB1⟩
    have HB1 := Lib.hid (HB.out.trans (hB1.mono HB.out.size))
    clear hB1
    go_wp2
    go_ret
    exact ⟨rfl, HB1.out⟩
  · have g1 : (f == f2) = false := by simp [q]
    rw [HD.out, g1, Bool.false_and]
    clear HD q HEQ
    go_enter Tryd.func34, Tryd.ntmps34
    go_wp2
    go_ret
    exact ⟨rfl, HB.out⟩
set_option maxRecDepth 100000 in
set_option maxHeartbeats 4000000 in
theorem equalV_any (a : Option Addr) (n cap : Nat) (l : List Ve) (hn : l.length = n) (a2 : Option Addr) (n2 cap2 : Nat) (r : List Ve) (hn2 : r.length = n2) (w : World) (hA : VesAt w.heap.size w a l) (hA2 : VesAt w.heap.size w a2 r) (hnx : n ≤ maxLen) (hnx2 : n2 ≤ maxLen) :
    Calls Tryd.prog 33 #[.slice a n cap, .slice a2 n2 cap2, .func (.func 34) #[] #[]] w fun e w' => e = .returned (.bool (decide (l = r))) ∧ Below w.heap.size w w' := by
  unfold maxLen at hnx hnx2
  by_cases hnn : n = n2
  case neg =>
    rw [decide_eq_false (fun e : l = r => hnn (by rw [← hn, ← hn2, e]))]
    have g1 : ((n : Int) != (n2 : Int)) = true := by simp; omega
    clear hA hA2 hn hn2
    go_enter Tryd.func33, Tryd.ntmps33
    go_wp2
    go_ret
    exact ⟨rfl, Below.refl _ _⟩
  subst hnn
  have HA := Lib.hid hA
  have HA2 := Lib.hid hA2
  have HN := Lib.hid hn
  have HN2 := Lib.hid hn2
  clear hA hA2 hn hn2
  go_enter Tryd.func33, Tryd.ntmps33
  go_wp2_with fail
  go_loopw [17] (fun i wr => ∃ k : Nat, k ≤ n ∧ i = .int .i64 k ∧ (∀ j, j < k → l[j]? = r[j]?) ∧ Below w.heap.size w wr) (fun i _ => (n - intOf i).toNat)
  case atStart => exact ⟨0, Nat.zero_le _, rfl, fun j hj => absurd hj (Nat.not_lt_zero _), Below.refl _ _⟩
  case round =>
    obtain ⟨k, hk, rfl, hall, hb⟩ := hrel
    have HALL := Lib.hid hall
    have HB := Lib.hid hb
    clear hall hb
    by_cases hlt : k < n
    · have hlti : (k : Int) < n := by omega
      obtain ⟨⟨f, ps⟩, hv⟩ : ∃ v, l[k]? = some v := ⟨_, List.getElem?_eq_getElem (by rw [HN.out]; exact hlt)⟩
      obtain ⟨⟨f2, ps2⟩, hv2⟩ : ∃ v, r[k]? = some v := ⟨_, List.getElem?_eq_getElem (by rw [HN2.out]; exact hlt)⟩
      obtain ⟨b, o, pa, pc, rfl, hbl, c0, c1, hle, hup⟩ := HA.out.next HB.out (Nat.le_refl _) k _ hv
      obtain ⟨b2, o2, pa2, pc2, rfl, hbl2, d0, d1, hle2, hup2⟩ := HA2.out.next HB.out (Nat.le_refl _) k _ hv2
      obtain ⟨m, hm⟩ : ∃ m, ps.length = m := ⟨_, rfl⟩
      obtain ⟨m2, hm2⟩ : ∃ m, ps2.length = m := ⟨_, rfl⟩
      simp only at c0 c1 hle d0 d1 hle2 hup hup2
      rw [hm] at c1 hle
      rw [hm2] at d1 hle2
      have hbw2 : b2 < wr.heap.size := Nat.lt_of_lt_of_le hbl2 HB.out.size
      have y0 : (wr.alloc (.cells #[.int .i64 f, .slice pa m pc] 42)).cell? ⟨b2, o2 + k * 2, none⟩ = some (.int .i64 f2) := (((Below.refl wr.heap.size wr).alloc (Nat.le_refl _) _).cell (p := ⟨b2, o2 + k * 2, none⟩) hbw2).trans d0
      have y1 : (wr.alloc (.cells #[.int .i64 f, .slice pa m pc] 42)).cell? ⟨b2, o2 + k * 2 + 1, none⟩ = some (.slice pa2 m2 pc2) := (((Below.refl wr.heap.size wr).alloc (Nat.le_refl _) _).cell (p := ⟨b2, o2 + k * 2 + 1, none⟩) hbw2).trans d1
      have hsz : (wr.alloc (.cells #[.int .i64 f, .slice pa m pc] 42)).heap.size = wr.heap.size + 1 := World.size_alloc _ _
      have hbx := ((Below.refl _ wr).alloc (Nat.le_refl _) (.cells #[.int .i64 f, .slice pa m pc] 42)).alloc (by rw [hsz]; omega) (.cells #[.int .i64 f2, .slice pa2 m2 pc2] 42)
      have hbx2 := HB.out.trans (hbx.mono HB.out.size)
      have HS1 := Lib.hid (same1_any f pa m pc ps hm f2 pa2 m2 pc2 ps2 hm2 _ ((hup.next hbx HB.out.size).mono hbx2.size) ((hup2.next hbx HB.out.size).mono hbx2.size) (by unfold maxLen at *; omega) (by unfold maxLen at *; omega))
      have HBX := Lib.hid hbx2
      have HV := Lib.hid hv
      have HV2 := Lib.hid hv2
      clear hv hv2 hm hm2 hup hup2 hbx hbx2 hsz
      by_cases hvv : (⟨f, ps⟩ : Ve) = ⟨f2, ps2⟩
      · rw [decide_eq_true hvv] at HS1
        have HVV := Lib.hid hvv
        clear hvv
        go_wp2_with fail
        refine HS1.out.mono ?_
        rintro e w2 ⟨rfl, hB2⟩
        have HB2 := Lib.hid (HBX.out.trans (hB2.mono HBX.out.size))
        clear hB2 HS1 y0 y1
        go_wp2
        go_roundw
        case rel => exact ⟨k + 1, by omega, by go_num, fun j hj => by rcases Nat.lt_succ_iff_lt_or_eq.1 hj with h' | h'; exact HALL.out j h'; rw [h', HV.out, HV2.out, HVV.out], HB2.out⟩
        case measure => first | (simp [intOf]; done) | (simp [intOf]; omega)
      · rw [decide_eq_false hvv] at HS1
        have HNO := Lib.hid (show decide (l = r) = false from decide_eq_false (fun e => hvv (by
          have := HV.out
          rw [e, HV2.out] at this
          cases this; rfl)))
        clear hvv
        go_wp2_with fail
        refine HS1.out.mono ?_
        rintro e w2 ⟨rfl, hB2⟩
        have HB2 := Lib.hid (HBX.out.trans (hB2.mono HBX.out.size))
        clear hB2 HS1 y0 y1
        go_wp2
        go_ret
        rw [HNO.out]
        exact ⟨rfl, HB2.out⟩
    · have hke : k = n := by omega
      subst hke
      have hnl : ¬ ((k : Int) < k) := by omega
      have HYES := Lib.hid (show decide (l = r) = true from decide_eq_true (List.ext_getElem? (fun i => by
        by_cases hi : i < k
        · exact HALL.out i hi
        · rw [List.getElem?_eq_none (by rw [HN.out]; omega), List.getElem?_eq_none (by rw [HN2.out]; omega)])))
      go_wp2
      go_ret
      rw [HYES.out]
      exact ⟨rfl, HB.out⟩
set_option maxRecDepth 100000 in
theorem same_any (a : Option Addr) (n cap : Nat) (l : List Ve) (hn : l.length = n) (a2 : Option Addr) (n2 cap2 : Nat) (r : List Ve) (hn2 : r.length = n2) (w : World) (hA : VesAt w.heap.size w a l) (hA2 : VesAt w.heap.size w a2 r) (hnx : n ≤ cap ∧ cap ≤ maxLen) (hnx2 : n2 ≤ cap2 ∧ cap2 ≤ maxLen) :
    Calls Tryd.prog 14 #[.slice a n cap, .slice a2 n2 cap2] w fun e w' => e = .returned (.bool (decide (l = r))) ∧ Below w.heap.size w w' := by
  have HE := Lib.hid (equalV_any a n cap l hn a2 n2 cap2 r hn2 w hA hA2 (Nat.le_trans hnx.1 hnx.2) (Nat.le_trans hnx2.1 hnx2.2))
  clear hA hA2 hn hn2
  go_enter Tryd.func14, Tryd.ntmps14
  go_wp2_with fail
  refine HE.out.mono ?_
  rintro e w1 ⟨rfl, hB1⟩
  have HB1 := Lib.hid hB1
  clear hB1
  go_wp2
  go_ret
  exact ⟨rfl, HB1.out⟩
end Go.Proofs.YthlpigffjbhmoaaDoor
