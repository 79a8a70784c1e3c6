/- Read. -/
import Derived.Test.YtpcbolmidnoaiaaDCont
set_option linter.unusedVariables false
set_option maxRecDepth 100000
set_option linter.unusedSimpArgs false
namespace Go.Proofs.Ytpcbolmidnoaiaa
open Go.RowKit
set_option maxRecDepth 100000 in
theorem read_yes (p : Pl) (d : Dv) (w : World) (h : DevAt w p d) (n : Int) (hn : accE d n = 0) :
    Calls Try.prog 45 #[ptr p.D, .int .i64 n] w fun e w' => SecOut w w' (d.read n) e ∧ (d.read n).length = 128 := by
  have hh : HasN d n := by
    unfold accE at hn
    refine Classical.byContradiction fun q => ?_
    rw [if_neg q] at hn
    split at hn <;> cases hn
  have ha := access_any p d w h n
  rw [hn] at ha
  have HA := Lib.hid ha
  have HC := Lib.hid (contents_any p d w h n hh)
  have hz := (zero_of_info sec_zero).1
  have sl := fun g W => slice_all g W
  clear h ha hh hn
  go_enter Try.func45, Try.ntmps45
  go_wp2_with (first | (go_at_call 62; refine HA.out.mono ?_; rintro e w' ⟨rfl, rfl⟩) | fail)
  refine HC.out.mono ?_
  rintro e w1 ⟨rfl, hl, hB⟩
  have HS := Lib.hid (At.new 94 w1 (nums .u8 128 fun _ => 0))
  have HB := Lib.hid (hB.alloc hB.size (.cells (nums .u8 128 fun _ => 0) 94))
  have HL := Lib.hid hl
  have HZ := Lib.hid hB.size
  obtain ⟨L, hL⟩ : ∃ L, d.read n = L := ⟨_, rfl⟩
  rw [hL] at HL ⊢
  have HE := Lib.hid hL
  clear hl hB hL
  go_wp2_with (refine store_sec_op HS.out (nums_size _ _ _) HL.out rfl rfl rfl rfl ?_)
  go_ret2
  rw [HE.out]
  exact ⟨⟨w1.heap.size, HZ.out, rfl, HS.out.row, below_row HB.out HZ.out _⟩, HL.out⟩
theorem read_no (p : Pl) (d : Dv) (w : World) (h : DevAt w p d) (n : Int) (hn : accE d n ≠ 0) :
    Calls Try.prog 45 #[ptr p.D, .int .i64 n] w fun e w' => e = .returned (.tuple #[.slice none 0 0, .int .i64 (accE d n)]) ∧ w = w' := by
  have HA := Lib.hid (access_any p d w h n)
  generalize accE d n = x at *
  have e1 : (x != 0) = true := by simpa using hn
  clear h hn
  go_enter Try.func45, Try.ntmps45
  go_wp2_with (refine HA.out.mono ?_; rintro e w' ⟨rfl, rfl⟩)
  go_ret2
  exact ⟨rfl, rfl⟩
end Go.Proofs.Ytpcbolmidnoaiaa
