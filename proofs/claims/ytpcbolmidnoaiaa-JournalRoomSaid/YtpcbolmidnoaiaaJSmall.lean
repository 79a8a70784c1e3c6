/- made, Broken, Number, Len, capacity, Room, check. -/
import Derived.Test.YtpcbolmidnoaiaaJMem
set_option linter.unusedVariables false
set_option linter.unusedSimpArgs false
namespace Go.Proofs.Ytpcbolmidnoaiaa
open Go.RowKit
section
variable {w : World} {D : Nat} {j : JPl} {J : Jv}
theorem jmade_any (h : JAt w D j J) : Calls Try.prog 35 #[ptr j.B] w fun e w' => e = .returned (.bool true) ∧ w = w' := by
  have c0 : w.cell? ⟨j.B, 0, none⟩ = some (ptr D) := h.jr.cell 0
  clear h
  go_enter Try.func35, Try.ntmps35
  go_wp2
  go_ret
  exact ⟨rfl, rfl⟩
theorem broken_any (h : JAt w D j J) : Calls Try.prog 14 #[ptr j.B] w fun e w' => e = .returned (.int .i64 J.broken) ∧ w = w' := by
  have c9 : w.cell? ⟨j.B, 9, none⟩ = some (.int .i64 J.broken) := h.jr.cell 9
  have HM := Lib.hid (jmade_any h)
  clear h
  go_enter Try.func14, Try.ntmps14
  go_wp2_with (refine HM.out.mono ?_; rintro e w' ⟨rfl, rfl⟩)
  go_ret
  exact ⟨rfl, rfl⟩
theorem number_any (h : JAt w D j J) : Calls Try.prog 18 #[ptr j.B] w fun e w' => e = .returned (.int .u64 (J.num : Nat)) ∧ w = w' := by
  have c7 : w.cell? ⟨j.B, 7, none⟩ = some (.int .u64 (J.num : Nat)) := h.jr.cell 7
  have HM := Lib.hid (jmade_any h)
  clear h
  go_enter Try.func18, Try.ntmps18
  go_wp2_with (refine HM.out.mono ?_; rintro e w' ⟨rfl, rfl⟩)
  go_ret
  exact ⟨rfl, rfl⟩
theorem jlen_any (h : JAt w D j J) : Calls Try.prog 22 #[ptr j.B] w fun e w' => e = .returned (.int .i64 (J.recs.length : Nat)) ∧ w = w' := by
  obtain ⟨a, c, e, _, _⟩ := h.recsBss
  have c1 : w.cell? ⟨j.B, 1, none⟩ = some (.slice a J.recs.length c) := by rw [← e]; exact h.jr.cell 1
  have HM := Lib.hid (jmade_any h)
  clear h
  go_enter Try.func22, Try.ntmps22
  go_wp2_with (refine HM.out.mono ?_; rintro e w' ⟨rfl, rfl⟩)
  go_ret
  exact ⟨rfl, rfl⟩
end
theorem capacity_any (p : Pl) (d : Dv) (w : World) (h : DevAt w p d) (h4 : 4 ≤ d.safe.length) : Calls Try.prog 27 #[ptr p.D] w fun e w' => e = .returned (.int .i64 ((d.safe.length - 2) * 128 : Nat)) ∧ w = w' := by
  have HL := Lib.hid (len_any p d w h)
  have hm := h.ok.most
  obtain ⟨n, hn⟩ : ∃ n, d.safe.length = n + 2 := ⟨d.safe.length - 2, by omega⟩
  rw [hn] at hm HL ⊢
  have w0 : wrap64 (n : Int) = (n : Int) := by unfold wrap64; omega
  have w1 : wrap64 (((n + 2 : Nat) : Int) - 2) = (n : Int) := by unfold wrap64; omega
  have w1' : wrap64 ((n : Int) + 2 - 2) = (n : Int) := by unfold wrap64; omega
  have w2 : wrap64 ((n : Int) * 128) = (n : Int) * 128 := by unfold wrap64; omega
  have HE := Lib.hid (show (((n + 2 - 2) * 128 : Nat) : Int) = (n : Int) * 128 by omega)
  clear h hm h4 hn
  go_enter Try.func27, Try.ntmps27
  go_wp2_with (refine HL.out.mono ?_; rintro e w' ⟨rfl, rfl⟩)
  go_ret
  exact ⟨by rw [HE.out]; first | rfl | simp [w0, w1, w1', w2], rfl⟩
theorem check_ok (p : Pl) (d : Dv) (w : World) (h : DevAt w p d) (h4 : 4 ≤ d.safe.length) (hu : d.down = false) : Calls Try.prog 24 #[ptr p.D] w fun e w' => e = .returned (.int .i64 0) ∧ w = w' := by
  have HL := Lib.hid (len_any p d w h)
  have HD := Lib.hid (down_any p d w h)
  rw [hu] at HD
  obtain ⟨n, hn⟩ : ∃ n, d.safe.length = n := ⟨_, rfl⟩
  rw [hn] at h4 HL
  have i1 : ¬ ((n : Int) < 4) := by omega
  have i0 : ((n : Int) == 0) = false := by simp; omega
  clear h hn h4
  go_enter Try.func24, Try.ntmps24
  go_wp2_with (first
    | (go_at_call 43; (with_reducible refine HL.out.mono ?_); rintro e w' ⟨rfl, rfl⟩)
    | (go_at_call 44; (with_reducible refine HD.out.mono ?_); rintro e w' ⟨rfl, rfl⟩)
    | fail)
  go_ret
  exact ⟨rfl, rfl⟩
def roomN (J : Jv) : Nat := (J.len - 2) * 128 - sizeN J.recs - sizeN J.wait
end Go.Proofs.Ytpcbolmidnoaiaa
