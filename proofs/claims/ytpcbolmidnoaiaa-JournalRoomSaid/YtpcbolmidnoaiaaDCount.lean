/- A counted call. -/
import Derived.Test.YtpcbolmidnoaiaaDCall
import Derived.RegionTactic
import Derived.Deep.RegionWith
import Derived.Deep.RegionHeld3
set_option linter.unusedVariables false
set_option linter.unusedSimpArgs false
namespace Go.Proofs.Ytpcbolmidnoaiaa
open Go.RowKit
theorem wrap64_id {x : Int} (h : -9223372036854775808 ≤ x) (h' : x ≤ 9223372036854775807) : wrap64 x = x := by unfold wrap64; omega
theorem count_any (p : Pl) (d : Dv) (w : World) (h : DevAt w p d) (hu : d.down = false) (hc : d.calls < 4611686018427387904) :
    Calls Try.prog 68 #[ptr p.D] w fun e w' => e = .returned (.int .i64 (downE d.counted.down)) ∧ DevAt w' p d.counted ∧ Step p p w w' := by
  obtain ⟨a1, a2, a3, a4, a5, a6, a7⟩ := apart_own h
  have hk := h.ok.calls
  have hf := h.ok.frm
  have c3 : w.cell? ⟨p.D, 3, none⟩ = some (.int .i64 d.calls) := h.dev.cell 3
  have f3 := h.dev.free 3
  have wk : wrap64 (d.calls + 1) = d.calls + 1 := wrap64_id (by omega) (by omega)
  obtain ⟨W1, hW1⟩ : ∃ W1, W1 = w.setCell ⟨p.D, 3, none⟩ (.int .i64 (d.calls + 1)) := ⟨_, rfl⟩
  have u1 : Upd (fun k => k = p.D) w W1 := by rw [hW1]; exact (Upd.refl (fun k => k = p.D) w).setCell (p := ⟨p.D, 3, none⟩) (.inl rfl) _
  have d1 : At 53 W1 p.D #[.slice (some ⟨p.S, 0, none⟩) d.safe.length p.cS, p.vC, planF p.B1 p.B2, .int .i64 (d.calls + 1), .bool d.down] := by rw [hW1]; exact h.dev.set 3 (.int .i64 (d.calls + 1))
  have e2 : W1.cell? ⟨p.D, 2, none⟩ = some (planF p.B1 p.B2) := d1.cell 2
  have e3 : W1.cell? ⟨p.D, 3, none⟩ = some (.int .i64 (d.calls + 1)) := d1.cell 3
  have e4 : W1.cell? ⟨p.D, 4, none⟩ = some (.bool d.down) := d1.cell 4
  have f4 := d1.free 4
  have HF := Lib.hid (fails_any p.B1 p.B2 d.frm d.num (d.calls + 1) W1.drew (h.b1.upd (O := fun k => k = p.D) u1.drew a3) (h.b2.upd (O := fun k => k = p.D) u1.drew a4) (wrap64_id (by omega) (by omega)))
  have u2 : Upd (fun k => k = p.D) w (W1.drew.setCell ⟨p.D, 4, none⟩ (.bool (decide (d.calls + 1 - d.frm = d.num)))) := u1.drew.setCell (p := ⟨p.D, 4, none⟩) (.inl rfl) _
  have hD : DevAt (W1.drew.setCell ⟨p.D, 4, none⟩ (.bool (decide (d.calls + 1 - d.frm = d.num)))) p d.counted :=
    h.field (vC' := p.vC) (b1 := 0) (b2 := 0) u2 (At.set (W := W1.drew) d1 4 _) rfl rfl rfl rfl (h.ok.counted hu)
  have HU := Lib.hid (up_any p d.counted _ hD)
  have HR := Lib.hid (show DevAt (W1.drew.setCell ⟨p.D, 4, none⟩ (.bool (decide (d.calls + 1 - d.frm = d.num)))) p d.counted ∧ Step p p w (W1.drew.setCell ⟨p.D, 4, none⟩ (.bool (decide (d.calls + 1 - d.frm = d.num)))) from ⟨hD, rfl, u2.mono (fun j e => .inl e), fun k hk => .inl hk⟩)
  have HW := Lib.hid hW1
  have hmx : Try.prog.follows .mixedOrders = true := by kernel_rfl
  dsimp only [planF] at e2
  clear h hk hf u1 u2 d1 hD hW1 a1 a2 a3 a4 a5 a6 a7
  go_enter Try.func68, Try.ntmps68
  go_wp2_with fail
  rw [← HW.out]
  go_region_with (refine HF.out.mono ?_; rintro e w9 ⟨rfl, rfl⟩)
  all_goals
    go_wp2_with (refine HU.out.mono ?_; rintro e w' ⟨rfl, rfl⟩)
    go_ret
    exact ⟨rfl, HR.out⟩
end Go.Proofs.Ytpcbolmidnoaiaa
