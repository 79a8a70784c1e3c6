/- The program's Band and Next. -/
import Derived.Test.YtmbimnphdhmapaaDoorBFind
set_option linter.unusedVariables false
set_option linter.unusedSimpArgs false
namespace Go.Proofs.YtmbimnphdhmapaaDoor
open Go.RowKit Go.Shelf
theorem band_no (a : Option Addr) (len cap : Nat) (L : Nat → Sw) (x : Int) (w : World) (hA : SwsAt w.heap.size w a len L) (hlm : len ≤ maxLen) (hno : ¬ (PlanIs L len ∧ InDay x)) :
    Calls Tryd.prog 28 #[.slice a len cap, .int .i64 x] w fun e w' => e = .returned (.tuple #[.int .i64 0, .bool false]) ∧ Below w.heap.size w w' := by
  have HC := Lib.hid (stretchAt_no a len cap L x w hA hlm hno)
  clear hA hlm hno
  go_enter Tryd.func28, Tryd.ntmps28
  go_wp2_with fail
  refine HC.out.mono ?_
  rintro e w1 ⟨rfl, hB⟩
  have HB := Lib.hid hB
  clear hB
  go_wp2
  go_ret2
  exact ⟨rfl, HB.out.alloc HB.out.size _⟩
theorem band_yes (a : Option Addr) (len cap : Nat) (L : Nat → Sw) (x : Int) (w : World) (hA : SwsAt w.heap.size w a len L) (hlm : len ≤ maxLen) (hp : PlanIs L len) (hd : InDay x) :
    Calls Tryd.prog 28 #[.slice a len cap, .int .i64 x] w fun e w' => e = .returned (.tuple #[.int .i64 (bandN L len x), .bool true]) ∧ Below w.heap.size w w' := by
  have HC := Lib.hid (stretchAt_yes a len cap L x w hA hlm hp hd)
  clear hA hlm hp hd
  go_enter Tryd.func28, Tryd.ntmps28
  go_wp2_with fail
  refine HC.out.mono ?_
  rintro e w1 ⟨⟨⟨sb, se, sd⟩, hs, rfl⟩, hB⟩
  have HB := Lib.hid hB
  have HS := Lib.hid (show sd = bandN L len x from hs.1)
  clear hB hs
  go_wp2
  go_ret2
  rw [HS.out]
  exact ⟨rfl, HB.out.alloc HB.out.size _⟩
theorem next_no (a : Option Addr) (len cap : Nat) (L : Nat → Sw) (x : Int) (w : World) (hA : SwsAt w.heap.size w a len L) (hlm : len ≤ maxLen) (hno : ¬ (PlanIs L len ∧ InDay x)) :
    Calls Tryd.prog 29 #[.slice a len cap, .int .i64 x] w fun e w' => e = .returned (.tuple #[.int .i64 0, .bool false]) ∧ Below w.heap.size w w' := by
  have HC := Lib.hid (stretchAt_no a len cap L x w hA hlm hno)
  clear hA hlm hno
  go_enter Tryd.func29, Tryd.ntmps29
  go_wp2_with fail
  refine HC.out.mono ?_
  rintro e w1 ⟨rfl, hB⟩
  have HB := Lib.hid hB
  clear hB
  go_wp2
  go_ret2
  exact ⟨rfl, HB.out.alloc HB.out.size _⟩
def NextE (L : Nat → Sw) (len : Nat) (x : Int) (e : Ending) : Prop := ∃ n is, BNext L len x n is ∧ e = .returned (.tuple #[.int .i64 n, .bool is])
theorem next_yes (a : Option Addr) (len cap : Nat) (L : Nat → Sw) (x : Int) (w : World) (hA : SwsAt w.heap.size w a len L) (hlm : len ≤ maxLen) (hp : PlanIs L len) (hd : InDay x) :
    Calls Tryd.prog 29 #[.slice a len cap, .int .i64 x] w fun e w' => NextE L len x e ∧ Below w.heap.size w w' := by
  have HC := Lib.hid (stretchAt_yes a len cap L x w hA hlm hp hd)
  clear hA hlm hp hd
  go_enter Tryd.func29, Tryd.ntmps29
  go_wp2_with fail
  refine HC.out.mono ?_
  rintro e w1 ⟨⟨⟨sb, se, sd⟩, ⟨h1, h2, h3⟩, rfl⟩, hB⟩
  have HB := Lib.hid hB
  have H2 := Lib.hid h2
  have H3 := Lib.hid h3
  clear hB h1 h2 h3
  by_cases he : se = 1440
  · have HN := Lib.hid (H2.out he)
    subst he
    go_wp2
    go_ret2
    exact ⟨⟨_, _, HN.out, rfl⟩, HB.out.alloc HB.out.size _⟩
  · have HN := Lib.hid (H3.out he)
    have g : (se == 1440) = false := by simp [he]
    clear he
    go_wp2
    go_ret2
    exact ⟨⟨_, _, HN.out, rfl⟩, HB.out.alloc HB.out.size _⟩
end Go.Proofs.YtmbimnphdhmapaaDoor
