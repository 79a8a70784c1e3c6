/- The statement RatesHold: all cases together. -/
import Derived.Test.YthlpigffjbhmoaaVHold
import Derived.Test.YthlpigffjbhmoaaVHoldA
import Derived.Test.YthlpigffjbhmoaaVHoldB
import Derived.Test.YthlpigffjbhmoaaVHoldC
import Derived.Test.YthlpigffjbhmoaaVHoldD
set_option linter.unusedVariables false
set_option linter.unusedSimpArgs false
namespace Go.Proofs.Ythlpigffjbhmoaa
open Go.RowKit Go.Shelf
set_option maxRecDepth 100000 in
set_option maxHeartbeats 2000000 in
theorem hold_long (a : Option Addr) (n cap : Nat) (l : List Ve) (hn : l.length = n) (t u band : Int) (f : Int) (pa : Option Addr) (m pc : Nat) (w : World) (hA : VesAt w.heap.size w a l) (hnx : n ≤ cap ∧ cap ≤ maxLen) (hm40 : 40 < m) :
    Calls Try.prog 3 #[.slice a n cap, .int .i64 t, .int .i64 u, .int .i64 band, verV f pa m pc] w fun e w' => e = .returned (.bool true) ∧ Below w.heap.size w w' := by
  have HB0 := Lib.hid ((Below.refl _ w).alloc (Nat.le_refl _) (.cells #[.int .i64 f, .slice pa m pc] 25))
  have HZ0 := Lib.hid (heap_alloc_new w (.cells #[.int .i64 f, .slice pa m pc] 25))
  have HL0 : Hid ((w.alloc (.cells #[.int .i64 f, .slice pa m pc] 25)).heap.size = w.heap.size + 1) := Lib.hid (World.size_alloc _ _)
  have HGR := Lib.hid (fun (W : World) (hB : Below w.heap.size w W) => rGreat_any a n cap l hn W (hA.grow hB) hnx)
  have hm4 : (40 : Int) < m := by omega
  clear hA hn hm40
  go_enter Try.func3, Try.ntmps3
  go_wp2_with fail
  refine (HGR.out _ HB0.out).mono ?_
  rintro e w1 ⟨hg | hg, hB⟩
  all_goals
    subst hg
    have hz := (hB.block w.heap.size (by rw [HL0.out]; omega)).trans HZ0.out
    have z1 : w1.cell? ⟨w.heap.size, 1, none⟩ = some (.slice pa m pc) := cell_of_row _ _ 1 _ _ _ hz
    have HB1 := Lib.hid (HB0.out.trans (hB.mono HB0.out.size))
    clear hB hz HZ0 HL0 HB0 HGR
    go_wp2
    go_ret
    exact ⟨rfl, HB1.out⟩
theorem holdW (a : Option Addr) (cap : Nat) (l : List Ve) (t u band : Int) (f : Int) (pa : Option Addr) (pc : Nat) (ps : List Int) (w : World) (hw : (l.length ≤ cap ∧ cap ≤ maxLen) ∧ VesAt w.heap.size w a l) (_ht : (Lit.int .i64 t).wf = true) (_hu : (Lit.int .i64 u).wf = true) (_hb : (Lit.int .i64 band).wf = true) (hv : (ps.length ≤ pc ∧ pc ≤ maxLen) ∧ PrAt w.heap.size w pa ps) :
    Calls Try.prog 3 #[.slice a l.length cap, .int .i64 t, .int .i64 u, .int .i64 band, verV f pa ps.length pc] w fun e w' => e = .returned (.bool true) ∧ Below w.heap.size w w' := by
  obtain ⟨hnx, hA⟩ := hw
  obtain ⟨hmx, hP⟩ := hv
  by_cases h40 : 40 < ps.length
  · exact hold_long a _ cap l rfl t u band f pa _ pc w hA hnx h40
  have h40' : ps.length ≤ 40 := by omega
  by_cases ht : TabMay l
  case neg => exact hold_bad a _ cap l rfl t u band f pa _ pc ps rfl w hA hP hnx hmx h40' ht
  by_cases h0 : cnt l t = 0
  · by_cases h1 : l.length = 0
    · exact hold_a0 a _ cap l rfl t u band f pa _ pc ps rfl w hA hP hnx hmx h40' ht h0 h1
    · exact hold_a1 a _ cap l rfl t u band f pa _ pc ps rfl w hA hP hnx hmx h40' ht h0 (by omega)
  · have hcl := cnt_le l t
    obtain ⟨k, hk⟩ : ∃ k, cnt l t = k + 1 := ⟨cnt l t - 1, by omega⟩
    obtain ⟨v, hv⟩ : ∃ v, l[k]? = some v := ⟨_, List.getElem?_eq_getElem (by omega)⟩
    by_cases h2 : band < 0
    · by_cases h1 : l.length = k + 1
      · exact hold_b0 a _ cap l rfl t u band f pa _ pc ps rfl w hA hP hnx hmx h40' ht k v hk hv h2 h1
      · exact hold_b1 a _ cap l rfl t u band f pa _ pc ps rfl w hA hP hnx hmx h40' ht k v hk hv h2 (by omega)
    · by_cases h3 : (v.ps.length : Int) ≤ band
      · by_cases h1 : l.length = k + 1
        · exact hold_c0 a _ cap l rfl t u band f pa _ pc ps rfl w hA hP hnx hmx h40' ht k v hk hv h3 h1
        · exact hold_c1 a _ cap l rfl t u band f pa _ pc ps rfl w hA hP hnx hmx h40' ht k v hk hv h3 (by omega)
      · by_cases h1 : l.length = k + 1
        · exact hold_d0 a _ cap l rfl t u band f pa _ pc ps rfl w hA hP hnx hmx h40' ht k v hk hv ⟨by omega, by omega⟩ h1
        · exact hold_d1 a _ cap l rfl t u band f pa _ pc ps rfl w hA hP hnx hmx h40' ht k v hk hv ⟨by omega, by omega⟩ (by omega)
end Go.Proofs.Ythlpigffjbhmoaa
