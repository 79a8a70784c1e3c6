/- TariffCosts, walked. -/
import Derived.Test.YtbffmobjiiicoaaPRCost
set_option linter.unusedVariables false
set_option linter.unusedSimpArgs false
namespace Go.Proofs.Ytbffmobjiiicoaa
open Go.RowKit
set_option maxRecDepth 20000 in
set_option maxHeartbeats 2000000 in
theorem costsW (a : Option Addr) (len cap : Nat) (L : Nat → Int × Int) (w : World) (w0 : (len ≤ cap ∧ cap ≤ maxLen) ∧ PairsAt w.heap.size w a len L) :
    Calls Try.prog 4 #[.slice a len cap] w fun e w' => e = .returned (.bool true) ∧ Below w.heap.size w w' := by
  obtain ⟨_, hA⟩ := w0
  by_cases h200 : len ≤ 200
  case neg =>
    have hd : decide ((200 : Int) < (len : Int)) = true := by simp; omega
    clear h200 hA
    go_enter Try.func4, Try.ntmps4
    go_wp2
    go_ret
    exact ⟨rfl, Below.refl _ _⟩
  have hd : decide ((200 : Int) < (len : Int)) = false := by simp; omega
  have H1 := Lib.hid (cost_any a len cap L (by omega) w hA)
  have H2 := Lib.hid (fun W (hW : Below w.heap.size w W) => rcost_any a len cap L (by omega) W (fun i hi => by
    obtain ⟨b, o, e, hb, h⟩ := (hA.next hW (Nat.le_refl _)) i hi
    exact ⟨b, o, e, Nat.lt_of_lt_of_le hb hW.size, h⟩))
  clear h200 hA
  go_enter Try.func4, Try.ntmps4
  go_wp2_with fail
  refine H1.out.mono ?_
  rintro e w1 ⟨⟨c, r, x, hc, rfl⟩, hB⟩
  have HC := Lib.hid hc
  have HB := Lib.hid hB
  clear hB hc
  go_wp2_with fail
  refine (H2.out _ HB.out).mono ?_
  rintro e w2 ⟨⟨c', r', x', hc, rfl⟩, hB2⟩
  obtain ⟨rfl, rfl, rfl⟩ := HC.out.unique hc
  have HB2 := Lib.hid (HB.out.trans (hB2.mono HB.out.size))
  have e1 : (c == c) = true := by simp
  have e2 : (r == r) = true := by simp
  have e3 : (x == x) = true := by simp
  clear hB2 hc H1 H2 HC
  go_wp2
  go_ret
  exact ⟨rfl, HB2.out⟩
end Go.Proofs.Ytbffmobjiiicoaa
