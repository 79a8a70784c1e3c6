/- The statement RatesBack, walked: part A. -/
import Derived.Test.YthlpigffjbhmoaaDoorMBackM
set_option linter.unusedVariables false
set_option linter.unusedSimpArgs false
namespace Go.Proofs.YthlpigffjbhmoaaDoor
open Go.RowKit Go.Shelf
set_option maxRecDepth 100000 in
set_option maxHeartbeats 8000000 in
theorem back_long (a : Option Addr) (n cap : Nat) (l : List Ve) (hn : l.length = n) (s : List UInt8) (t u band : Int) (w : World) (hA : VesAt w.heap.size w a l) (hnx : n ≤ cap ∧ cap ≤ maxLen) (hT : TabsD w) (hs3 : 3000 < s.length) :
    Calls Tryd.prog 6 #[.slice a n cap, strL s, .int .i64 t, .int .i64 u, .int .i64 band] w fun e w' => e = .returned (.bool true) ∧ Below w.heap.size w w' := by
  have HAL := Lib.hid (alive_any w hT.pow)
  have HGR := Lib.hid (fun (W : World) (hB : Below w.heap.size w W) => rGreat_any a n cap l hn W (hA.grow hB) hnx)
  have hs3i : (3000 : Int) < s.length := by omega
  clear hA hn hT hs3
  go_enter Tryd.func6, Tryd.ntmps6
  go_wp2_with fail
  refine HAL.out.mono ?_
  rintro e w1 ⟨rfl, hB⟩
  have HB1 := Lib.hid hB
  clear hB HAL
  go_wp2_with fail
  refine (HGR.out _ HB1.out).mono ?_
  rintro e w2 ⟨hg | hg, hB⟩
  all_goals
    subst hg
    have HB2 := Lib.hid (HB1.out.trans (hB.mono HB1.out.size))
    clear hB HB1 HGR
  rotate_left
  · go_wp2
    go_ret
    exact ⟨rfl, HB2.out⟩
  go_wp2
  go_ret
  exact ⟨rfl, HB2.out⟩
end Go.Proofs.YthlpigffjbhmoaaDoor
