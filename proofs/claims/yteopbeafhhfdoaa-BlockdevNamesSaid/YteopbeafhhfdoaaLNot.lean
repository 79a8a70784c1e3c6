/- Calls on a device that New didn't make. -/
import Derived.Test.YteopbeafhhfdoaaLSt
set_option linter.unusedVariables false
set_option linter.unusedSimpArgs false
namespace Go.Proofs.Yteopbeafhhfdoaa
open Go.RowKit
abbrev zeroC : Array Value := #[.slice none 0 0, .slice none 0 0, .nilFunc, .int .i64 0, .bool false]
/-- No device, or one that New didn't make. -/
def NotMade (w : World) (v : Value) : Prop := v = .pointer none ∨ ∃ Z, v = .pointer (some ⟨Z, 0, none⟩) ∧ At 62 w Z zeroC
theorem NotMade.next {w w' : World} {v : Value} (h : NotMade w v) (hB : Below w.heap.size w w') : NotMade w' v := h.elim .inl (fun ⟨Z, e, hz⟩ => .inr ⟨Z, e, hz.below hz.lt hB⟩)
theorem made_not (v : Value) (w : World) (h : NotMade w v) : Calls Try.prog 29 #[v] w fun e w' => e = .returned (.bool false) ∧ w = w' := by
  rcases h with rfl | ⟨Z, rfl, hz⟩
  · go_enter Try.func29, Try.ntmps29
    go_wp2
    go_ret
    exact ⟨rfl, rfl⟩
  · have c0 : w.cell? ⟨Z, 0, none⟩ = some (.slice none 0 0) := hz.cell 0
    clear hz
    go_enter Try.func29, Try.ntmps29
    go_wp2
    go_ret
    exact ⟨rfl, rfl⟩
theorem up_not (v : Value) (w : World) (h : NotMade w v) : Calls Try.prog 43 #[v] w fun e w' => e = .returned (.int .i64 1) ∧ w = w' := by
  have HM := Lib.hid (made_not v w h)
  clear h
  go_enter Try.func43, Try.ntmps43
  go_wp2_with (refine HM.out.mono ?_; rintro e w' ⟨rfl, rfl⟩)
  go_ret
  exact ⟨rfl, rfl⟩
theorem access_not (v : Value) (n : Int) (w : World) (h : NotMade w v) : Calls Try.prog 41 #[v, .int .i64 n] w fun e w' => e = .returned (.int .i64 1) ∧ w = w' := by
  have HM := Lib.hid (up_not v w h)
  clear h
  go_enter Try.func41, Try.ntmps41
  go_wp2_with (refine HM.out.mono ?_; rintro e w' ⟨rfl, rfl⟩)
  go_ret
  exact ⟨rfl, rfl⟩
theorem read_not (v : Value) (n : Int) (w : World) (h : NotMade w v) : Calls Try.prog 22 #[v, .int .i64 n] w fun e w' => e = .returned (.tuple #[.slice none 0 0, .int .i64 1]) ∧ w = w' := by
  have HM := Lib.hid (access_not v n w h)
  clear h
  go_enter Try.func22, Try.ntmps22
  go_wp2_with (refine HM.out.mono ?_; rintro e w' ⟨rfl, rfl⟩)
  go_ret2
  exact ⟨rfl, rfl⟩
theorem write_not (v : Value) (n : Int) (a : Option Addr) (l c : Nat) (w : World) (h : NotMade w v) : Calls Try.prog 19 #[v, .int .i64 n, .slice a l c] w fun e w' => e = .returned (.int .i64 1) ∧ w = w' := by
  have HM := Lib.hid (access_not v n w h)
  clear h
  go_enter Try.func19, Try.ntmps19
  go_wp2_with (refine HM.out.mono ?_; rintro e w' ⟨rfl, rfl⟩)
  go_ret
  exact ⟨rfl, rfl⟩
theorem flush_not (v : Value) (w : World) (h : NotMade w v) : Calls Try.prog 23 #[v] w fun e w' => e = .returned (.int .i64 1) ∧ w = w' := by
  have HM := Lib.hid (up_not v w h)
  clear h
  go_enter Try.func23, Try.ntmps23
  go_wp2_with (refine HM.out.mono ?_; rintro e w' ⟨rfl, rfl⟩)
  go_ret
  exact ⟨rfl, rfl⟩
theorem plan_not (v : Value) (n : Int) (w : World) (h : NotMade w v) : Calls Try.prog 21 #[v, .int .i64 n] w fun e w' => e = .returned (.int .i64 1) ∧ w = w' := by
  have HM := Lib.hid (up_not v w h)
  clear h
  go_enter Try.func21, Try.ntmps21
  go_wp2_with (refine HM.out.mono ?_; rintro e w' ⟨rfl, rfl⟩)
  go_ret
  exact ⟨rfl, rfl⟩
theorem pull_not (v : Value) (w : World) (h : NotMade w v) : Calls Try.prog 26 #[v] w fun e w' => e = .returned (.int .i64 1) ∧ w = w' := by
  have HM := Lib.hid (made_not v w h)
  clear h
  go_enter Try.func26, Try.ntmps26
  go_wp2_with (refine HM.out.mono ?_; rintro e w' ⟨rfl, rfl⟩)
  go_ret
  exact ⟨rfl, rfl⟩
theorem safe_not (v : Value) (n : Int) (w : World) (h : NotMade w v) : Calls Try.prog 15 #[v, .int .i64 n] w fun e w' => e = .returned (.tuple #[.slice none 0 0, .int .i64 1]) ∧ w = w' := by
  have HM := Lib.hid (made_not v w h)
  clear h
  go_enter Try.func15, Try.ntmps15
  go_wp2_with (refine HM.out.mono ?_; rintro e w' ⟨rfl, rfl⟩)
  go_ret2
  exact ⟨rfl, rfl⟩
theorem down_not (v : Value) (w : World) (h : NotMade w v) : Calls Try.prog 12 #[v] w fun e w' => e = .returned (.bool false) ∧ w = w' := by
  have HM := Lib.hid (made_not v w h)
  clear h
  go_enter Try.func12, Try.ntmps12
  go_wp2_with (refine HM.out.mono ?_; rintro e w' ⟨rfl, rfl⟩)
  go_ret
  exact ⟨rfl, rfl⟩
theorem calls_not (v : Value) (w : World) (h : NotMade w v) : Calls Try.prog 13 #[v] w fun e w' => e = .returned (.int .i64 0) ∧ w = w' := by
  have HM := Lib.hid (made_not v w h)
  clear h
  go_enter Try.func13, Try.ntmps13
  go_wp2_with (refine HM.out.mono ?_; rintro e w' ⟨rfl, rfl⟩)
  go_ret
  exact ⟨rfl, rfl⟩
theorem len_not (v : Value) (w : World) (h : NotMade w v) : Calls Try.prog 17 #[v] w fun e w' => e = .returned (.int .i64 0) ∧ w = w' := by
  have HM := Lib.hid (made_not v w h)
  clear h
  go_enter Try.func17, Try.ntmps17
  go_wp2_with (refine HM.out.mono ?_; rintro e w' ⟨rfl, rfl⟩)
  go_ret
  exact ⟨rfl, rfl⟩
theorem cached_not (v : Value) (w : World) (h : NotMade w v) : Calls Try.prog 14 #[v] w fun e w' => e = .returned (.slice none 0 0) ∧ w = w' := by
  have HM := Lib.hid (made_not v w h)
  clear h
  go_enter Try.func14, Try.ntmps14
  go_wp2_with (refine HM.out.mono ?_; rintro e w' ⟨rfl, rfl⟩)
  go_ret
  exact ⟨rfl, rfl⟩
theorem copy_not (v : Value) (w : World) (h : NotMade w v) : Calls Try.prog 10 #[v] w fun e w' => e = .returned (.pointer none) ∧ w = w' := by
  have HM := Lib.hid (made_not v w h)
  clear h
  go_enter Try.func10, Try.ntmps10
  go_wp2_with (refine HM.out.mono ?_; rintro e w' ⟨rfl, rfl⟩)
  go_ret
  exact ⟨rfl, rfl⟩
theorem restart_not (v : Value) (a : Option Addr) (l c : Nat) (t x : Int) (w : World) (h : NotMade w v) : Calls Try.prog 18 #[v, crashV a l c t x] w fun e w' => e = .returned (.int .i64 1) ∧ Below w.heap.size w w' := by
  have hB := (Below.refl _ w).alloc (Nat.le_refl _) (.cells #[.slice a l c, .int .i64 t, .int .i64 x] 34)
  have HM := Lib.hid (made_not v _ (h.next hB))
  have HB := Lib.hid hB
  clear h hB
  unfold crashV
  go_enter Try.func18, Try.ntmps18
  go_wp2_with (refine HM.out.mono ?_; rintro e w' ⟨rfl, rfl⟩)
  go_ret
  exact ⟨rfl, HB.out⟩
end Go.Proofs.Yteopbeafhhfdoaa
