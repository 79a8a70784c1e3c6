/- Great: is a tariff more than statements go through? -/
import Derived.Test.YtbffmobjiiicoaaGreatDoorTChk
import Derived.Test.YtbffmobjiiicoaaGreatDoorTOpen
import Derived.LoopTactic
set_option linter.unusedVariables false
set_option linter.unusedSimpArgs false
namespace Go.Proofs.YtbffmobjiiicoaaGreatDoor
open Go.RowKit Go.Shelf
def SmallT (x : Ta) : Prop := x.zl ≤ 30 ∧ x.hl ≤ 120 ∧ x.sl ≤ 30 ∧ x.pl ≤ 60 ∧ x.rl ≤ 110 ∧ x.l.length ≤ 210
def Small2 (x : Ta) : Prop := SmallT x ∧ (∀ i, i < x.pl → (x.P i).len ≤ 60) ∧ ∀ (j : Nat) (v : V10.Ve), x.l[j]? = some v → v.ps.length ≤ 20
set_option maxRecDepth 20000 in
set_option maxHeartbeats 2000000 in
theorem great_any (x : Ta) (w : World) (hA : TarAt w.heap.size w x) (hC : TarCap x) :
    Calls Tryz.prog 4 #[tarV x] w fun e w' => (e = .returned (.int .i64 1) ∨ (e = .returned (.int .i64 0) ∧ Small2 x)) ∧ Below w.heap.size w w' := by
  have hB0 := (Below.refl w.heap.size w).alloc (Nat.le_refl _) (.cells (tarC x) 35)
  have nb : TarBox (w.alloc (.cells (tarC x) 35)) w.heap.size x := heap_alloc_new w _
  obtain ⟨c0, c1, c2, c3, c4, c5, c6⟩ := nb.cells
  have HB0 := Lib.hid hB0
  have hc : (decide (30 < (x.zl : Int)) = true) ∨ (decide (30 < (x.zl : Int)) = false ∧ decide (120 < (x.hl : Int)) = true) ∨ (decide (30 < (x.zl : Int)) = false ∧ decide (120 < (x.hl : Int)) = false ∧ decide (30 < (x.sl : Int)) = true) ∨
      (decide (30 < (x.zl : Int)) = false ∧ decide (120 < (x.hl : Int)) = false ∧ decide (30 < (x.sl : Int)) = false ∧ decide (60 < (x.pl : Int)) = true) ∨
      (decide (30 < (x.zl : Int)) = false ∧ decide (120 < (x.hl : Int)) = false ∧ decide (30 < (x.sl : Int)) = false ∧ decide (60 < (x.pl : Int)) = false ∧ decide (110 < (x.rl : Int)) = true) ∨
      (decide (30 < (x.zl : Int)) = false ∧ decide (120 < (x.hl : Int)) = false ∧ decide (30 < (x.sl : Int)) = false ∧ decide (60 < (x.pl : Int)) = false ∧ decide (110 < (x.rl : Int)) = false ∧ decide (210 < (x.l.length : Int)) = true) ∨
      (decide (30 < (x.zl : Int)) = false ∧ decide (120 < (x.hl : Int)) = false ∧ decide (30 < (x.sl : Int)) = false ∧ decide (60 < (x.pl : Int)) = false ∧ decide (110 < (x.rl : Int)) = false ∧ decide (210 < (x.l.length : Int)) = false ∧ Hid (SmallT x)) := by
    by_cases hs : SmallT x
    · refine .inr (.inr (.inr (.inr (.inr (.inr ⟨?_, ?_, ?_, ?_, ?_, ?_, Lib.hid hs⟩))))) <;> (unfold SmallT at hs; simp; omega)
    · unfold SmallT at hs
      simp only [decide_eq_false_iff_not, decide_eq_true_eq]
      omega
  rcases hc with e1 | ⟨e1, e2⟩ | ⟨e1, e2, e3⟩ | ⟨e1, e2, e3, e4⟩ | ⟨e1, e2, e3, e4, e5⟩ | ⟨e1, e2, e3, e4, e5, e6⟩ | ⟨e1, e2, e3, e4, e5, e6, hs⟩
  case inr.inr.inr.inr.inr.inr =>
    have HA := Lib.hid (hA.up hB0)
    have HN := Lib.hid nb
    clear hA hC hB0 nb
    go_enter Tryz.func4, Tryz.ntmps4
    go_wp2
    go_loopw [48] (fun i wr => ∃ k : Nat, k ≤ x.pl ∧ i = .int .i64 k ∧ (∀ j, j < k → (x.P j).len ≤ 60) ∧ wr = w.alloc (.cells (tarC x) 35)) (fun i _ => x.pl - (intOf i).toNat)
    case atStart => exact ⟨0, Nat.zero_le _, rfl, fun j hj => absurd hj (Nat.not_lt_zero _), rfl⟩
    case round =>
      obtain ⟨k, hk, rfl, hall, rfl⟩ := hrel
      have HALL := Lib.hid hall
      by_cases hlt : k < x.pl
      · obtain ⟨ab, ao, hae, hab, d0, hdl, _⟩ := HA.out.p k hlt
        rw [hae] at c4
        have hd : decide (k < x.pl) = true := by simpa using hlt
        have i1 : (k : Int) < x.pl := by omega
        have HM := Lib.hid (show k ≤ 9223372036854775806 by have := hs.out.2.2.2.1; omega)
        have wk : wrap64 ((k : Int) + 1) = ((k + 1 : Nat) : Int) := by have := HM.out; unfold wrap64; omega
        have HK := Lib.hid hlt
        clear hall hlt hk hdl hab
        by_cases h60 : (x.P k).len ≤ 60
        · have h6 : decide (60 < ((x.P k).len : Int)) = false := by simp; omega
          have H60 := Lib.hid h60
          clear h60
          go_wp2
          go_roundw
          case rel =>
            refine ⟨k + 1, HK.out, by first | rfl | rw [wk], fun j hj => ?_, by trivial⟩
            rcases Nat.lt_or_ge j k with q | q
            · exact HALL.out j q
            · obtain rfl : j = k := by omega
              exact H60.out
          case measure =>
            have hk2 := HK.out
            first
              | (show x.pl - (intOf (.int .i64 (wrap64 ((k : Int) + 1)))).toNat < x.pl - (intOf (.int .i64 (k : Int))).toNat; rw [wk])
              | (show x.pl - (intOf (.int .i64 ((k + 1 : Nat) : Int))).toNat < x.pl - (intOf (.int .i64 (k : Int))).toNat)
            show x.pl - ((k + 1 : Nat) : Int).toNat < x.pl - ((k : Nat) : Int).toNat
            omega
        · have h6 : decide (60 < ((x.P k).len : Int)) = true := by simp; omega
          clear h60
          go_wp2
          go_ret
          exact ⟨.inl rfl, HB0.out⟩
      · have hd : decide (k < x.pl) = false := by simpa using hlt
        have hpk : k = x.pl := by omega
        rw [hpk] at HALL
        clear hall hlt hk hpk
        go_wp2
        go_loopw [63] (fun i wr => ∃ k : Nat, k ≤ x.l.length ∧ i = .int .i64 k ∧ (∀ (j : Nat) (v : V10.Ve), j < k → x.l[j]? = some v → v.ps.length ≤ 20) ∧ wr = w.alloc (.cells (tarC x) 35)) (fun i _ => x.l.length - (intOf i).toNat)
        case atStart => exact ⟨0, Nat.zero_le _, rfl, fun j v hj => absurd hj (Nat.not_lt_zero _), rfl⟩
        case round =>
          clear hd
          obtain ⟨k, hk, rfl, hall, rfl⟩ := hrel
          have HALL2 := Lib.hid hall
          by_cases hlt : k < x.l.length
          · obtain ⟨v, hv⟩ : ∃ v, x.l[k]? = some v := ⟨_, List.getElem?_eq_getElem hlt⟩
            obtain ⟨ab, ao, a', c', hae, hab, d0, d1, hdl, _⟩ := HA.out.v k v hv
            rw [hae] at c6
            have hd : decide (k < x.l.length) = true := by simpa using hlt
            have i1 : (k : Int) < x.l.length := by omega
            have HM := Lib.hid (show k ≤ 9223372036854775806 by have := hs.out.2.2.2.2.2; omega)
            have wk : wrap64 ((k : Int) + 1) = ((k + 1 : Nat) : Int) := by have := HM.out; unfold wrap64; omega
            have HK := Lib.hid hlt
            have HV := Lib.hid hv
            clear hall hlt hk hdl hab hv
            by_cases h20 : v.ps.length ≤ 20
            · have h6 : decide (20 < (v.ps.length : Int)) = false := by simp; omega
              have H20 := Lib.hid h20
              clear h20
              go_wp2
              go_roundw
              case rel =>
                refine ⟨k + 1, HK.out, by first | rfl | rw [wk], fun j u hj hu => ?_, by trivial⟩
                rcases Nat.lt_or_ge j k with q | q
                · exact HALL2.out j u q hu
                · obtain rfl : j = k := by omega
                  rw [HV.out] at hu
                  cases hu
                  exact H20.out
              case measure =>
                have hk2 := HK.out
                first
                  | (show x.l.length - (intOf (.int .i64 (wrap64 ((k : Int) + 1)))).toNat < x.l.length - (intOf (.int .i64 (k : Int))).toNat; rw [wk])
                  | (show x.l.length - (intOf (.int .i64 ((k + 1 : Nat) : Int))).toNat < x.l.length - (intOf (.int .i64 (k : Int))).toNat)
                show x.l.length - ((k + 1 : Nat) : Int).toNat < x.l.length - ((k : Nat) : Int).toNat
                omega
            · have h6 : decide (20 < (v.ps.length : Int)) = true := by simp; omega
              clear h20
              go_wp2
              go_ret
              exact ⟨.inl rfl, HB0.out⟩
          · have hd : decide (k < x.l.length) = false := by simpa using hlt
            have HZ := Lib.hid (show Small2 x from ⟨hs.out, HALL.out, fun j v hv => HALL2.out j v (by
              have := (List.getElem?_eq_some_iff.1 hv).1
              omega) hv⟩)
            clear hall hlt hk
            go_wp2
            go_ret
            exact ⟨.inr ⟨rfl, HZ.out⟩, HB0.out⟩
  all_goals
    clear hA hC hB0 nb
    go_enter Tryz.func4, Tryz.ntmps4
    go_wp2
    go_ret
    exact ⟨.inl rfl, HB0.out⟩
end Go.Proofs.YtbffmobjiiicoaaGreatDoor
