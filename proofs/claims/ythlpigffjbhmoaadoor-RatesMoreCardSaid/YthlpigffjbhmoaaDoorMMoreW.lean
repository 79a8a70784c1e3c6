/- The statement RatesMore: all cases together. -/
import Derived.Test.YthlpigffjbhmoaaDoorMMoreA
import Derived.Test.YthlpigffjbhmoaaDoorMMoreB
import Derived.Test.YthlpigffjbhmoaaDoorMMoreC
import Derived.Test.YthlpigffjbhmoaaDoorMMoreD
import Derived.Test.YthlpigffjbhmoaaDoorMMoreE
import Derived.Test.YthlpigffjbhmoaaDoorMMoreF
set_option linter.unusedVariables false
namespace Go.Proofs.YthlpigffjbhmoaaDoor
open Go.RowKit Go.Shelf
theorem moreW (a : Option Addr) (cap : Nat) (l : List Ve) (f : Int) (pa : Option Addr) (pc : Nat) (ps : List Int) (t band : Int) (w : World) (hPow : Pow w) (hw : (l.length ≤ cap ∧ cap ≤ maxLen) ∧ VesAt w.heap.size w a l) (hv : (ps.length ≤ pc ∧ pc ≤ maxLen) ∧ PrAt w.heap.size w pa ps) (_ht : (Lit.int .i64 t).wf = true) (_hb : (Lit.int .i64 band).wf = true) :
    Calls Tryd.prog 5 #[.slice a l.length cap, verV f pa ps.length pc, .int .i64 t, .int .i64 band] w fun e w' => e = .returned (.bool true) ∧ Below w.heap.size w w' := by
  obtain ⟨hnx, hA⟩ := hw
  obtain ⟨hmx, hP⟩ := hv
  by_cases h40 : 40 < ps.length
  · exact more_long a _ cap l rfl f pa _ pc ps rfl t band w hA hP hnx hmx hPow h40
  have h40' : ps.length ≤ 40 := by omega
  by_cases hyes : WithMay l ⟨f, ps⟩
  case neg => exact more_no a _ cap l rfl f pa _ pc ps rfl t band w hA hP hnx hmx hPow h40' hyes
  by_cases htf : t < f
  · cases ho : priceO l t band with
    | none => exact more_a0 a _ cap l rfl f pa _ pc ps rfl t band w hA hP hnx hmx hPow h40' hyes htf ho
    | some z => exact more_a1 a _ cap l rfl f pa _ pc ps rfl t band w hA hP hnx hmx hPow h40' hyes htf z ho
  · cases hq : nextO (withL l ⟨f, ps⟩) f with
    | none =>
      by_cases h2 : band < 0
      · exact more_d0 a _ cap l rfl f pa _ pc ps rfl t band w hA hP hnx hmx hPow h40' hyes htf hq h2
      · by_cases h3 : (ps.length : Int) ≤ band
        · exact more_e0 a _ cap l rfl f pa _ pc ps rfl t band w hA hP hnx hmx hPow h40' hyes htf hq h3
        · exact more_f0 a _ cap l rfl f pa _ pc ps rfl t band w hA hP hnx hmx hPow h40' hyes htf hq band.toNat (by omega) (by omega)
    | some q =>
      by_cases hqt : q ≤ t
      · cases ho : priceO l t band with
        | none => exact more_b0 a _ cap l rfl f pa _ pc ps rfl t band w hA hP hnx hmx hPow h40' hyes htf q hq hqt ho
        | some z => exact more_b1 a _ cap l rfl f pa _ pc ps rfl t band w hA hP hnx hmx hPow h40' hyes htf q hq hqt z ho
      · by_cases h2 : band < 0
        · exact more_d1 a _ cap l rfl f pa _ pc ps rfl t band w hA hP hnx hmx hPow h40' hyes htf q hq hqt h2
        · by_cases h3 : (ps.length : Int) ≤ band
          · exact more_e1 a _ cap l rfl f pa _ pc ps rfl t band w hA hP hnx hmx hPow h40' hyes htf q hq hqt h3
          · exact more_f1 a _ cap l rfl f pa _ pc ps rfl t band w hA hP hnx hmx hPow h40' hyes htf q hq hqt band.toNat (by omega) (by omega)
end Go.Proofs.YthlpigffjbhmoaaDoor
