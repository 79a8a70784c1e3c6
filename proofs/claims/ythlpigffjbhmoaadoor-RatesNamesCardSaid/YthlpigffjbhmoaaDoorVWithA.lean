/- The program's With, of any table. -/
import Derived.Test.YthlpigffjbhmoaaDoorVWith
set_option linter.unusedVariables false
set_option linter.unusedSimpArgs false
namespace Go.Proofs.YthlpigffjbhmoaaDoor
open Go.RowKit Go.Shelf
theorem withP_any (a : Option Addr) (n cap : Nat) (l : List Ve) (hn : l.length = n) (f : Int) (pa : Option Addr) (m pc : Nat) (ps : List Int) (hm : ps.length = m) (w : World) (hA : VesAt w.heap.size w a l) (hP : PrAt w.heap.size w pa ps) (hnx : n ≤ cap ∧ cap ≤ maxLen) (hmx : m ≤ pc ∧ pc ≤ maxLen) :
    Calls Tryd.prog 19 #[.slice a n cap, verV f pa m pc] w fun e w' => WithE l ⟨f, ps⟩ e w' ∧ Below w.heap.size w w' := by
  by_cases h : TabMay l
  · exact withP_yes a n cap l hn f pa m pc ps hm h w hA hP hnx hmx
  · refine (withP_bad a n cap l hn f pa m pc ps h w hA hnx).mono ?_
    rintro e w' ⟨rfl, hB⟩
    exact ⟨.inr ⟨fun q => h q.1, rfl⟩, hB⟩
end Go.Proofs.YthlpigffjbhmoaaDoor
