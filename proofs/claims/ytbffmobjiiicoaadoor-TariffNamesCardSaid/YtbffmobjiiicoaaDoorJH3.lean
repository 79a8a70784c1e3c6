/- Joined: HCheck. -/
import Derived.Test.YtbffmobjiiicoaaDoorJH2
section
/- The contract of days.Check. -/
set_option linter.unusedVariables false
set_option linter.unusedSimpArgs false
namespace Go.Proofs.YtbffmobjiiicoaaDoor.H8
open Go.RowKit Go.Shelf Go.Maps
def calE (H : Nat → Ho) (hl : Nat) (S : Nat → Se) (sl : Nat) : Int := if CalIs H hl S sl then 0 else 80
theorem calE_no {H : Nat → Ho} {hl : Nat} {S : Nat → Se} {sl : Nat} (h : ¬ CalIs H hl S sl) : calE H hl S sl = 80 := by unfold calE; rw [if_neg h]
theorem calE_yes {H : Nat → Ho} {hl : Nat} {S : Nat → Se} {sl : Nat} (h : CalIs H hl S sl) : calE H hl S sl = 0 := by unfold calE; rw [if_pos h]
theorem apart_size {S : Nat → Se} {sl : Nat} (hs : ∀ i, i < sl → SeIs (S i)) : Maps.size (Bg (H := Unit) S sl) = sl ↔ Apart S sl := by
  rw [(size_Bg S sl).2, apart_iff hs]
set_option maxRecDepth 100000 in
set_option maxHeartbeats 4000000 in
theorem checkD_any (ha : Option Addr) (hl hc : Nat) (sa : Option Addr) (sl sc : Nat) (H : Nat → Ho) (S : Nat → Se) (w : World) (hH : HosAt w.heap.size w ha hl H) (hS : SeasAt w.heap.size w sa sl S) (hT : Tabs w) (hlm : hl ≤ maxLen) (slm : sl ≤ maxLen) :
    Calls Tryd.prog 29 #[calV ha hl hc sa sl sc] w fun e w' => e = .returned (.int .i64 (calE H hl S sl)) ∧ Below w.heap.size w w' := by
  unfold maxLen at hlm slm
  have hb0 := (Below.refl _ w).alloc (Nat.le_refl _) (.cells #[.slice ha hl hc, .slice sa sl sc] 33)
  have hr0 := heap_alloc_new w (.cells #[.slice ha hl hc, .slice sa sl sc] 33)
  obtain ⟨X, hX⟩ : ∃ X, X = w.alloc (.cells #[.slice ha hl hc, .slice sa sl sc] 33) := ⟨_, rfl⟩
  have hz : X.heap.size = w.heap.size + 1 := by rw [hX, World.size_alloc]
  rw [← hX] at hb0 hr0
  have HH := Lib.hid (hH.next hb0 (Nat.le_refl _) (Nat.le_refl _))
  have HS := Lib.hid (hS.next hb0 (Nat.le_refl _) (Nat.le_refl _))
  have HT := Lib.hid (hT.next hb0)
  have HB := Lib.hid hb0
  have HR := Lib.hid hr0
  have HX := Lib.hid hX
  have HZ := Lib.hid hz
  clear hH hS hT hb0 hr0 hX hz
  by_cases h100 : 100 < hl
  · rw [calE_no (fun h => by have := h.1; omega)]
    rw [HX.out] at HB
    have g1 : (100 : Int) < hl := by omega
    go_enter Tryd.func29, Tryd.ntmps29
    go_wp2
    go_ret
    exact ⟨rfl, HB.out⟩
  by_cases h12 : 12 < sl
  · rw [calE_no (fun h => by have := h.2.1; omega)]
    rw [HX.out] at HB
    have g1 : ¬ (100 : Int) < hl := by omega
    have g2 : (12 : Int) < sl := by omega
    go_enter Tryd.func29, Tryd.ntmps29
    go_wp2
    go_ret
    exact ⟨rfl, HB.out⟩
  have g1 : ¬ (100 : Int) < hl := by omega
  have g2 : ¬ (12 : Int) < sl := by omega
  go_enter Tryd.func29, Tryd.ntmps29
  go_wp2
  go_loopw [20] (fun i wr => ∃ k : Nat, k ≤ hl ∧ i = .int .i64 k ∧ (∀ j, j < k → HoIs (H j)) ∧ Below X.heap.size X wr) (fun i _ => hl - (intOf i).toNat)
  case atStart => exact ⟨0, Nat.zero_le _, rfl, fun j hj => absurd hj (Nat.not_lt_zero _), by rw [HX.out]; exact Below.refl _ _⟩
  case round =>
    obtain ⟨k, hk, rfl, hall, hb⟩ := hrel
    have HA := Lib.hid hall
    have HBR := Lib.hid hb
    clear hall hb
    by_cases hlt : k < hl
    · have hlti : (k : Int) < hl := by omega
      obtain ⟨b, o, rfl, hbl, c0, c1, c2, c3, c4, c5⟩ := HH.out.next HBR.out (by rw [HZ.out]; omega) (Nat.le_refl _) k hlt
      obtain ⟨h, hhk⟩ : ∃ h, h = H k := ⟨_, rfl⟩
      rw [← hhk] at c0 c1 c2 c3 c4 c5
      have HE := Lib.hid hhk
      clear hhk
      have hb1 := HBR.out.alloc HBR.out.size (.cells (hoC h.k h.y h.m h.d h.w h.n) 132)
      have HI := Lib.hid (isHol_any h _ (HT.out.next hb1))
      have HB1 := Lib.hid hb1
      clear hb1
      by_cases hi : HoIs h
      · rw [decide_eq_true hi] at HI
        go_wp2_with (go_at_call 56; refine HI.out.mono ?_; rintro e w' ⟨rfl, hBi⟩; have HBI := Lib.hid hBi; clear hBi)
        go_roundw
        case rel => exact ⟨k + 1, by omega, by go_num, fun j hj => by rcases Nat.lt_succ_iff_lt_or_eq.1 hj with q | q; exact HA.out j q; rw [q, ← HE.out]; exact hi, HB1.out.trans (HBI.out.mono HB1.out.size)⟩
        case measure => first | (simp [intOf]; done) | (simp [intOf]; omega)
      · rw [decide_eq_false hi] at HI
        have HNO := Lib.hid (calE_no (H := H) (hl := hl) (S := S) (sl := sl) (fun q => hi (by rw [HE.out]; exact q.2.2.1 k hlt)))
        go_wp2_with (go_at_call 56; refine HI.out.mono ?_; rintro e w' ⟨rfl, hBi⟩; have HBI := Lib.hid hBi; clear hBi)
        go_ret
        rw [HNO.out]
        exact ⟨rfl, HB.out.trans ((HB1.out.trans (HBI.out.mono HB1.out.size)).mono (by rw [HZ.out]; omega))⟩
    · have hke : k = hl := by omega
      subst hke
      have hnl : ¬ ((k : Int) < k) := by omega
      have hrow := (HBR.out.block w.heap.size (by rw [HZ.out]; omega)).trans HR.out
      have s1 : wr.cell? ⟨w.heap.size, 1, none⟩ = some (.slice sa sl sc) := cell_of_row wr _ 1 _ _ _ hrow
      clear hrow
      go_wp2
      obtain ⟨wo, rfl⟩ : ∃ wo : World, wo = wr := ⟨_, rfl⟩
      go_loopw [31] (fun i wr2 => ∃ m : Nat, m ≤ sl ∧ i = .int .i64 m ∧ (∀ j, j < m → SeIs (S j)) ∧ Below X.heap.size X wr2) (fun i _ => sl - (intOf i).toNat)
      case atStart => exact ⟨0, Nat.zero_le _, rfl, fun j hj => absurd hj (Nat.not_lt_zero _), HBR.out⟩
      case round =>
        obtain ⟨m, hm, rfl, hall2, hb2⟩ := hrel
        have HA2 := Lib.hid hall2
        have HBR2 := Lib.hid hb2
        clear hall2 hb2 s1
        by_cases hlt2 : m < sl
        · have hlti2 : (m : Int) < sl := by omega
          obtain ⟨b, o, rfl, hbl, c0, c1, c2⟩ := HS.out.next HBR2.out (by rw [HZ.out]; omega) (Nat.le_refl _) m hlt2
          obtain ⟨s, hsk⟩ : ∃ s, s = S m := ⟨_, rfl⟩
          rw [← hsk] at c0 c1 c2
          have HE := Lib.hid hsk
          clear hsk
          have hb1 := HBR2.out.alloc HBR2.out.size (.cells #[.int .i64 s.n, .int .i64 s.m, .int .i64 s.d] 135)
          have HI := Lib.hid (isSea_any s _ (HT.out.next hb1))
          have HB1 := Lib.hid hb1
          clear hb1
          by_cases hi : SeIs s
          · rw [decide_eq_true hi] at HI
            go_wp2_with (go_at_call 57; refine HI.out.mono ?_; rintro e w' ⟨rfl, hBi⟩; have HBI := Lib.hid hBi; clear hBi)
            go_roundw
            case rel => exact ⟨m + 1, by omega, by go_num, fun j hj => by rcases Nat.lt_succ_iff_lt_or_eq.1 hj with q | q; exact HA2.out j q; rw [q, ← HE.out]; exact hi, HB1.out.trans (HBI.out.mono HB1.out.size)⟩
            case measure => first | (simp [intOf]; done) | (simp [intOf]; omega)
          · rw [decide_eq_false hi] at HI
            have HNO := Lib.hid (calE_no (H := H) (hl := k) (S := S) (sl := sl) (fun q => hi (by rw [HE.out]; exact q.2.2.2.1 m hlt2)))
            go_wp2_with (go_at_call 57; refine HI.out.mono ?_; rintro e w' ⟨rfl, hBi⟩; have HBI := Lib.hid hBi; clear hBi)
            go_ret
            rw [HNO.out]
            exact ⟨rfl, HB.out.trans ((HB1.out.trans (HBI.out.mono HB1.out.size)).mono (by rw [HZ.out]; omega))⟩
        · have hme : m = sl := by omega
          subst hme
          have hnl2 : ¬ ((m : Int) < m) := by omega
          have hrow := (HBR2.out.block w.heap.size (by rw [HZ.out]; omega)).trans HR.out
          have q1 : wr.drew.cell? ⟨w.heap.size, 0, none⟩ = some (.slice ha k hc) ∧ wr.drew.cell? ⟨w.heap.size, 1, none⟩ = some (.slice sa m sc) := ⟨cell_of_row wr _ 0 _ _ _ hrow, cell_of_row wr _ 1 _ _ _ hrow⟩
          have HRW := Lib.hid hrow
          have HBG := Lib.hid (begins_any (H := Unit) ha k hc sa m sc S wr.drew (show SeasAt wr.drew.heap.size wr.drew sa m S from (HS.out.next HBR2.out (by rw [HZ.out]; omega) (Nat.le_refl _)).mono (by have := HBR2.out.size; rw [HZ.out] at this; show w.heap.size ≤ wr.heap.size; omega)) HA2.out (by omega))
          have hc2 : calE H k S m = if Maps.size (Bg (H := Unit) S m) = m then 0 else 80 := by
            unfold calE
            by_cases q : Maps.size (Bg (H := Unit) S m) = m
            · rw [if_pos q, if_pos ⟨by omega, by omega, HA.out, HA2.out, (apart_size HA2.out).1 q⟩]
            · rw [if_neg q, if_neg (fun h => q ((apart_size HA2.out).2 h.2.2.2.2))]
          have hsz := (size_Bg (H := Unit) S m).1
          have HC2 := Lib.hid hc2
          have hwl : w.heap.size < wr.heap.size := by have := HBR2.out.size; rw [HZ.out] at this; omega
          clear hrow hc2
          obtain ⟨z, hz⟩ : ∃ z, z = Maps.size (Bg (H := Unit) S m) := ⟨_, rfl⟩
          rw [← hz] at HC2 hsz
          have HZZ := Lib.hid hz
          clear hz
          have hmx : Tryd.prog.follows .mixedOrders = true := by kernel_rfl
          by_cases hq : (z : Int) = m
          · have hzm : ((z : Int) != m) = false := by simpa using hq
            go_wp2_with fail
            refine region_held (fun w' => w'.cell? ⟨w.heap.size, 0, none⟩ = some (.slice ha k hc) ∧ w'.cell? ⟨w.heap.size, 1, none⟩ = some (.slice sa m sc)) hmx ?_
            refine held_take (i := 0) (v := calV ha k hc sa m sc) rfl (by kernel_rfl) (by kernel_rfl) (by kernel_rfl) rfl (fun X hX => by obtain ⟨h1, h2⟩ := hX; simp [execOp, go_sem, h1, h2]) q1 ?_
            refine held_take (i := 3) (v := .pointer (some ⟨w.heap.size, 1, none⟩)) rfl (by kernel_rfl) (by kernel_rfl) (by kernel_rfl) rfl (fun X hX => by simp [execOp, go_sem]) q1 ?_
            refine held_take (i := 4) (v := .slice sa m sc) rfl (by kernel_rfl) (by kernel_rfl) (by kernel_rfl) rfl (fun X hX => by obtain ⟨h1, h2⟩ := hX; simp [execOp, go_sem, h2]) q1 ?_
            refine held_take (i := 5) (v := .int .i64 m) rfl (by kernel_rfl) (by kernel_rfl) (by kernel_rfl) rfl (fun X hX => by simp [execOp, go_sem]) q1 ?_
            refine held_call (i := 1) (f := 50) (args := #[calV ha k hc sa m sc]) (R := fun v w' => v = .map (some (wr.heap.size + 1)) ∧ (∀ ty, (Builtin.len_ #[119] ty #[.map (some (wr.heap.size + 1))]).run Tryd.prog w' = .ok (.int .i64 z) w') ∧ Below wr.drew.heap.size wr.drew w') rfl (by kernel_rfl) rfl (by simp [execOp, go_sem])
              (HBG.out.mono ?_) ?_
            · rintro e w2' ⟨rfl, hown2, hB2⟩
              exact ⟨_, rfl, rfl, fun ty => by rw [HZZ.out]; exact hown2.len Tryd.underlying119 ty, hB2⟩
            rintro v w2' ⟨rfl, hlen2, hB2⟩
            have g2 := (hB2.block w.heap.size hwl).trans HRW.out
            have q2 : w2'.cell? ⟨w.heap.size, 0, none⟩ = some (.slice ha k hc) ∧ w2'.cell? ⟨w.heap.size, 1, none⟩ = some (.slice sa m sc) := ⟨cell_of_row w2' _ 0 _ _ _ g2, cell_of_row w2' _ 1 _ _ _ g2⟩
            refine ⟨q2, ?_⟩
            refine held_val (i := 2) (v := .int .i64 z) rfl (by kernel_rfl) rfl (by simp [execOp, go_sem, hlen2]) q2 ?_
            refine held_val (i := 6) (v := .bool false) rfl (by kernel_rfl) rfl (by simp [execOp, go_sem, hzm]) q2 ?_
            refine held_done (by kernel_rfl) ?_ _
            have HBF := Lib.hid (((HB.out.trans (HBR2.out.mono (by rw [HZ.out]; omega))).drew).trans (hB2.mono (show w.heap.size ≤ wr.heap.size by omega)))
            clear hB2 g2 q2 hlen2 q1
            go_frame
            go_wp2
            go_ret
            rw [HC2.out, if_pos (by omega)]
            exact ⟨rfl, HBF.out⟩
          · have hzm : ((z : Int) != m) = true := by simpa using hq
            go_wp2_with fail
            refine region_held (fun w' => w'.cell? ⟨w.heap.size, 0, none⟩ = some (.slice ha k hc) ∧ w'.cell? ⟨w.heap.size, 1, none⟩ = some (.slice sa m sc)) hmx ?_
            refine held_take (i := 0) (v := calV ha k hc sa m sc) rfl (by kernel_rfl) (by kernel_rfl) (by kernel_rfl) rfl (fun X hX => by obtain ⟨h1, h2⟩ := hX; simp [execOp, go_sem, h1, h2]) q1 ?_
            refine held_take (i := 3) (v := .pointer (some ⟨w.heap.size, 1, none⟩)) rfl (by kernel_rfl) (by kernel_rfl) (by kernel_rfl) rfl (fun X hX => by simp [execOp, go_sem]) q1 ?_
            refine held_take (i := 4) (v := .slice sa m sc) rfl (by kernel_rfl) (by kernel_rfl) (by kernel_rfl) rfl (fun X hX => by obtain ⟨h1, h2⟩ := hX; simp [execOp, go_sem, h2]) q1 ?_
            refine held_take (i := 5) (v := .int .i64 m) rfl (by kernel_rfl) (by kernel_rfl) (by kernel_rfl) rfl (fun X hX => by simp [execOp, go_sem]) q1 ?_
            refine held_call (i := 1) (f := 50) (args := #[calV ha k hc sa m sc]) (R := fun v w' => v = .map (some (wr.heap.size + 1)) ∧ (∀ ty, (Builtin.len_ #[119] ty #[.map (some (wr.heap.size + 1))]).run Tryd.prog w' = .ok (.int .i64 z) w') ∧ Below wr.drew.heap.size wr.drew w') rfl (by kernel_rfl) rfl (by simp [execOp, go_sem])
              (HBG.out.mono ?_) ?_
            · rintro e w2' ⟨rfl, hown2, hB2⟩
              exact ⟨_, rfl, rfl, fun ty => by rw [HZZ.out]; exact hown2.len Tryd.underlying119 ty, hB2⟩
            rintro v w2' ⟨rfl, hlen2, hB2⟩
            have g2 := (hB2.block w.heap.size hwl).trans HRW.out
            have q2 : w2'.cell? ⟨w.heap.size, 0, none⟩ = some (.slice ha k hc) ∧ w2'.cell? ⟨w.heap.size, 1, none⟩ = some (.slice sa m sc) := ⟨cell_of_row w2' _ 0 _ _ _ g2, cell_of_row w2' _ 1 _ _ _ g2⟩
            refine ⟨q2, ?_⟩
            refine held_val (i := 2) (v := .int .i64 z) rfl (by kernel_rfl) rfl (by simp [execOp, go_sem, hlen2]) q2 ?_
            refine held_val (i := 6) (v := .bool true) rfl (by kernel_rfl) rfl (by simp [execOp, go_sem, hzm]) q2 ?_
            refine held_done (by kernel_rfl) ?_ _
            have HBF := Lib.hid (((HB.out.trans (HBR2.out.mono (by rw [HZ.out]; omega))).drew).trans (hB2.mono (show w.heap.size ≤ wr.heap.size by omega)))
            clear hB2 g2 q2 hlen2 q1
            go_frame
            go_wp2
            go_ret
            rw [HC2.out, if_neg (by omega)]
            exact ⟨rfl, HBF.out⟩
end Go.Proofs.YtbffmobjiiicoaaDoor.H8
end
