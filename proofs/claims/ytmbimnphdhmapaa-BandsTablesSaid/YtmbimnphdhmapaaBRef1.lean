/- The document's Band and Next of plans. -/
import Derived.Test.YtmbimnphdhmapaaBMay
set_option linter.unusedVariables false
set_option linter.unusedSimpArgs false
namespace Go.Proofs.Ytmbimnphdhmapaa
open Go.RowKit Go.Shelf
/-- What a Next returns. -/
def BNextE (L : Nat → Sw) (len : Nat) (x : Int) (e : Ending) : Prop := ∃ n is, BNext L len x n is ∧ e = .returned (.tuple #[.int .i64 n, .bool is])
theorem BNextE.mk {L : Nat → Sw} {len : Nat} {x n : Int} {is : Bool} (h : BNext L len x n is) : BNextE L len x (.returned (.tuple #[.int .i64 n, .bool is])) := ⟨n, is, h, rfl⟩
set_option maxRecDepth 100000 in
set_option maxHeartbeats 4000000 in
theorem rBandP_no (a : Option Addr) (len cap : Nat) (L : Nat → Sw) (x : Int) (hno : ¬ (PlanIs L len ∧ InDay x)) (w : World) (hA : SwsAt w.heap.size w a len L) (hlm : len ≤ maxLen) :
    Calls Try.prog 11 #[.slice a len cap, .int .i64 x] w fun e w' => e = .returned (.tuple #[.int .i64 0, .bool false]) ∧ Below w.heap.size w w' := by
  have HC := Lib.hid (rMayP_any a len cap L w hA hlm)
  clear hA hlm
  by_cases hp : PlanIs L len
  · have hd : ¬ InDay x := fun h => hno ⟨hp, h⟩
    rw [decide_eq_true hp] at HC
    clear hno hp
    by_cases x0 : x < 0
    · go_enter Try.func11, Try.ntmps11
      go_wp2_with fail
      refine HC.out.mono ?_
      rintro e w1 ⟨rfl, hB⟩
      have HB := Lib.hid hB
      clear HC hd hB
      go_wp2
      go_ret2
      exact ⟨rfl, HB.out⟩
    · have x1 : 1440 ≤ x := by unfold InDay at hd; omega
      go_enter Try.func11, Try.ntmps11
      go_wp2_with fail
      refine HC.out.mono ?_
      rintro e w1 ⟨rfl, hB⟩
      have HB := Lib.hid hB
      clear HC hd hB
      go_wp2
      go_ret2
      exact ⟨rfl, HB.out⟩
  · rw [decide_eq_false hp] at HC
    clear hno hp
    go_enter Try.func11, Try.ntmps11
    go_wp2_with fail
    refine HC.out.mono ?_
    rintro e w1 ⟨rfl, hB⟩
    have HB := Lib.hid hB
    clear HC hB
    go_wp2
    go_ret2
    exact ⟨rfl, HB.out⟩
set_option maxRecDepth 100000 in
set_option maxHeartbeats 4000000 in
theorem rBandP_yes (a : Option Addr) (len cap : Nat) (L : Nat → Sw) (x : Int) (hp : PlanIs L len) (hd : InDay x) (w : World) (hA : SwsAt w.heap.size w a len L) :
    Calls Try.prog 11 #[.slice a len cap, .int .i64 x] w fun e w' => e = .returned (.tuple #[.int .i64 (bandN L len x), .bool true]) ∧ Below w.heap.size w w' := by
  have h48 := hp.2.1
  have h1 := hp.1
  have HC := Lib.hid (rMayP_any a len cap L w hA (by unfold maxLen; omega))
  rw [decide_eq_true hp] at HC
  have HA := Lib.hid hA
  have x0 : ¬ x < 0 := by unfold InDay at hd; omega
  have x1 : ¬ 1440 ≤ x := by unfold InDay at hd; omega
  obtain ⟨b, o, rfl, _⟩ := hA.base (by omega)
  clear hp hd hA
  go_enter Try.func11, Try.ntmps11
  go_wp2_with fail
  refine HC.out.mono ?_
  rintro e w1 ⟨rfl, hB⟩
  have HB1 := Lib.hid hB
  clear HC hB
  go_wp2
  go_loopw [7, 8] (fun u i wr => ∃ k : Nat, k ≤ len ∧ i = .int .i64 k ∧ u = .int .i64 (bandN L k x) ∧ Below w.heap.size w wr) (fun _ i _ => (len - intOf i).toNat)
  case atStart => exact ⟨0, Nat.zero_le _, rfl, rfl, HB1.out⟩
  case round =>
    obtain ⟨k, hk, rfl, rfl, hb⟩ := hrel
    have HB := Lib.hid hb
    clear hb HB1
    by_cases hlt : k < len
    · have hlti : (k : Int) < len := by omega
      obtain ⟨b', o', e, hcr⟩ := (HA.out.next HB.out (Nat.le_refl _) (Nat.le_refl _)).base (by omega)
      cases e
      obtain ⟨c0, c1⟩ := hcr k hlt
      clear hcr
      obtain ⟨v, hv⟩ : ∃ v, bandN L k x = v := ⟨_, rfl⟩
      obtain ⟨m, hm⟩ : ∃ z, (L k).m = z := ⟨_, rfl⟩
      obtain ⟨bb, hbb⟩ : ∃ z, (L k).b = z := ⟨_, rfl⟩
      rw [hm] at c0
      rw [hbb] at c1
      rw [hv]
      by_cases hle : m ≤ x
      · have HN := Lib.hid (show bandN L (k + 1) x = bb by rw [bandN, if_pos (by rw [hm]; exact hle), hbb])
        clear hv hm hbb
        go_wp2
        go_roundw
        case rel => exact ⟨k + 1, by omega, by go_num, by rw [HN.out], HB.out⟩
        case measure => first | (simp [intOf]; done) | (simp [intOf]; omega)
      · have HN := Lib.hid (show bandN L (k + 1) x = v by rw [bandN, if_neg (by rw [hm]; exact hle), hv])
        clear hv hm hbb
        go_wp2
        go_roundw
        case rel => exact ⟨k + 1, by omega, by go_num, by rw [HN.out], HB.out⟩
        case measure => first | (simp [intOf]; done) | (simp [intOf]; omega)
    · have hke : k = len := by omega
      subst hke
      go_wp2
      go_ret2
      exact ⟨rfl, HB.out⟩
set_option maxRecDepth 100000 in
set_option maxHeartbeats 4000000 in
theorem rNextP_no (a : Option Addr) (len cap : Nat) (L : Nat → Sw) (x : Int) (hno : ¬ (PlanIs L len ∧ InDay x)) (w : World) (hA : SwsAt w.heap.size w a len L) (hlm : len ≤ maxLen) :
    Calls Try.prog 13 #[.slice a len cap, .int .i64 x] w fun e w' => e = .returned (.tuple #[.int .i64 0, .bool false]) ∧ Below w.heap.size w w' := by
  have HC := Lib.hid (rBandP_no a len cap L x hno w hA hlm)
  clear hA hlm hno
  go_enter Try.func13, Try.ntmps13
  go_wp2_with fail
  refine HC.out.mono ?_
  rintro e w1 ⟨rfl, hB⟩
  have HB := Lib.hid hB
  clear HC hB
  go_wp2
  go_ret2
  exact ⟨rfl, HB.out⟩
set_option maxRecDepth 100000 in
set_option maxHeartbeats 4000000 in
theorem rNextP_yes (a : Option Addr) (len cap : Nat) (L : Nat → Sw) (x : Int) (hp : PlanIs L len) (hd : InDay x) (w : World) (hA : SwsAt w.heap.size w a len L) :
    Calls Try.prog 13 #[.slice a len cap, .int .i64 x] w fun e w' => BNextE L len x e ∧ Below w.heap.size w w' := by
  have HC := Lib.hid (rBandP_yes a len cap L x hp hd w hA)
  obtain ⟨now, hnow⟩ : ∃ v, bandN L len x = v := ⟨_, rfl⟩
  rw [hnow] at HC
  have HNW := Lib.hid hnow
  have HA := Lib.hid hA
  have HP := Lib.hid hp
  have x0 : 0 ≤ x := hd.1
  have x1 : x ≤ 1439 := hd.2
  clear hA hp hd hnow
  go_enter Try.func13, Try.ntmps13
  go_wp2_with fail
  refine HC.out.mono ?_
  rintro e w1 ⟨rfl, hB⟩
  have HB1 := Lib.hid hB
  clear HC hB
  go_wp2
  go_loopw [8] (fun i wr => ∃ n : Int, i = .int .i64 n ∧ (x < n ∧ n ≤ 1440) ∧ (∀ j, x < j → j < n → bandN L len j = now) ∧ Below w.heap.size w wr) (fun i _ => (1440 - intOf i).toNat)
  case atStart => exact ⟨x + 1, rfl, ⟨by omega, by omega⟩, fun j h1 h2 => by omega, HB1.out⟩
  case round =>
    obtain ⟨n, rfl, ⟨n0, n1⟩, hall, hb⟩ := hrel
    have HALL := Lib.hid hall
    have HB := Lib.hid hb
    have hs := hb.size
    clear hall hb HB1
    by_cases hlt : n < 1440
    · have HC := Lib.hid (rBandP_yes a len cap L n HP.out ⟨by omega, by omega⟩ wr ((HA.out.next HB.out (Nat.le_refl _) (Nat.le_refl _)).mono hs))
      obtain ⟨v, hv⟩ : ∃ v, bandN L len n = v := ⟨_, rfl⟩
      rw [hv] at HC
      have HV := Lib.hid hv
      clear hv
      by_cases hvn : v = now
      · have q : (v != now) = false := by simp [hvn]
        have HE := Lib.hid hvn
        clear hvn
        go_wp2_with fail
        refine HC.out.mono ?_
        rintro e w2 ⟨rfl, hB⟩
        have HB2 := Lib.hid (HB.out.trans (hB.mono hs))
        clear HC hB
        go_wp2
        go_roundw
        case rel => exact ⟨n + 1, by go_num, ⟨by omega, by omega⟩, fun j h1 h2 => by
            by_cases hj : j < n
            · exact HALL.out j h1 hj
            · have : j = n := by omega
              rw [this, HV.out, HE.out], HB2.out⟩
        case measure => first | (simp [intOf]; done) | (simp [intOf]; omega)
      · have q : (v != now) = true := by simp [hvn]
        have HE := Lib.hid hvn
        clear hvn
        go_wp2_with fail
        refine HC.out.mono ?_
        rintro e w2 ⟨rfl, hB⟩
        have HB2 := Lib.hid (HB.out.trans (hB.mono hs))
        clear HC hB
        go_wp2
        go_ret2
        exact ⟨BNextE.mk (n := n) (is := true) (.inl ⟨rfl, n0, hlt, by rw [HV.out, HNW.out]; exact HE.out, by rw [HNW.out]; exact HALL.out⟩), HB2.out⟩
    · have e : n = 1440 := by omega
      subst e
      go_wp2
      go_ret2
      exact ⟨BNextE.mk (n := 0) (is := false) (.inr ⟨rfl, rfl, by rw [HNW.out]; exact HALL.out⟩), HB.out⟩
end Go.Proofs.Ytmbimnphdhmapaa
