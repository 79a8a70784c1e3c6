/- The statement RatesBack: all cases together. -/
import Derived.Test.YthlpigffjbhmoaaDoorMBackA
import Derived.Test.YthlpigffjbhmoaaDoorMBackB
import Derived.Test.YthlpigffjbhmoaaDoorMBackC
import Derived.Test.YthlpigffjbhmoaaDoorMBackD
import Derived.Test.YthlpigffjbhmoaaDoorMBackE
import Derived.Test.YthlpigffjbhmoaaDoorMBackF
import Derived.Test.YthlpigffjbhmoaaDoorMBackG
import Derived.Test.YthlpigffjbhmoaaDoorMBackH
import Derived.Test.YthlpigffjbhmoaaDoorMBackI
set_option linter.unusedVariables false
namespace Go.Proofs.YthlpigffjbhmoaaDoor
open Go.RowKit Go.Shelf
theorem backW (a : Option Addr) (cap : Nat) (l : List Ve) (b : ByteArray) (t u band : Int) (w : World) (hT : TabsD w) (hw : (l.length ≤ cap ∧ cap ≤ maxLen) ∧ VesAt w.heap.size w a l) (_hb : b.size ≤ maxLen) (_ht : (Lit.int .i64 t).wf = true) (_hu : (Lit.int .i64 u).wf = true) (_hn : (Lit.int .i64 band).wf = true) :
    Calls Tryd.prog 6 #[.slice a l.length cap, .string b, .int .i64 t, .int .i64 u, .int .i64 band] w fun e w' => e = .returned (.bool true) ∧ Below w.heap.size w w' := by
  obtain ⟨hnx, hA⟩ := hw
  obtain ⟨s, rfl⟩ : ∃ s : List UInt8, b = ⟨s.toArray⟩ := ⟨b.data.toList, by cases b; rfl⟩
  by_cases hs3 : 3000 < s.length
  · exact back_long a _ cap l rfl s t u band w hA hnx hT hs3
  have hs3' : s.length ≤ 3000 := by omega
  by_cases ht : TabMay l <;> by_cases hz : ∃ z, TabMay z ∧ s = textL z <;> by_cases htu : u < t
  · obtain ⟨z, h1, h2⟩ := hz
    exact back_111 a _ cap l rfl s t u band w hA hnx hT hs3' ht z h1 h2 htu
  · obtain ⟨z, h1, h2⟩ := hz
    exact back_110 a _ cap l rfl s t u band w hA hnx hT hs3' ht z h1 h2 htu
  · exact back_101 a _ cap l rfl s t u band w hA hnx hT hs3' ht (fun z h1 h2 => hz ⟨z, h1, h2⟩) htu
  · exact back_100 a _ cap l rfl s t u band w hA hnx hT hs3' ht (fun z h1 h2 => hz ⟨z, h1, h2⟩) htu
  · obtain ⟨z, h1, h2⟩ := hz
    exact back_011 a _ cap l rfl s t u band w hA hnx hT hs3' ht z h1 h2 htu
  · obtain ⟨z, h1, h2⟩ := hz
    exact back_010 a _ cap l rfl s t u band w hA hnx hT hs3' ht z h1 h2 htu
  · exact back_001 a _ cap l rfl s t u band w hA hnx hT hs3' ht (fun z h1 h2 => hz ⟨z, h1, h2⟩) htu
  · exact back_000 a _ cap l rfl s t u band w hA hnx hT hs3' ht (fun z h1 h2 => hz ⟨z, h1, h2⟩) htu
end Go.Proofs.YthlpigffjbhmoaaDoor
