/- The document's With, its answer named. -/
import Derived.Test.YthlpigffjbhmoaaVHoldM
import Derived.Test.YthlpigffjbhmoaaVRefW
set_option linter.unusedVariables false
set_option linter.unusedSimpArgs false
namespace Go.Proofs.Ythlpigffjbhmoaa
open Go.RowKit Go.Shelf
theorem rWithO_any (a : Option Addr) (n cap : Nat) (l : List Ve) (hn : l.length = n) (f : Int) (pa : Option Addr) (m pc : Nat) (ps : List Int) (hm : ps.length = m) (w : World) (hA : VesAt w.heap.size w a l) (hP : PrAt w.heap.size w pa ps) (hnx : n ≤ cap ∧ cap ≤ maxLen) (hmx : m ≤ pc ∧ pc ≤ maxLen) :
    Calls Try.prog 11 #[.slice a n cap, verV f pa m pc] w fun e w' => WithO l ⟨f, ps⟩ e w' ∧ Below w.heap.size w w' :=
  (rWith_any a n cap l hn f pa m pc ps hm w hA hP hnx hmx).mono fun e w' h => ⟨with_o h.1, h.2⟩
end Go.Proofs.Ythlpigffjbhmoaa
