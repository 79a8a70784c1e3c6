/- The document's device: place, counts, SetPlan. -/
import Derived.Test.YteopbeafhhfdoaaPMem
set_option linter.unusedVariables false
set_option linter.unusedSimpArgs false
namespace Go.Proofs.Yteopbeafhhfdoaa
open Go.RowKit
theorem leftP_bd {d : Dv} (h : d.Ok) : -1 < leftP d ∧ leftP d ≤ 9223372036854775807 := by
  have h1 := h.calls
  have h2 := h.frm
  have h3 := h.num
  have h4 := h.plan
  unfold leftP
  split
  · omega
  · rcases h4 with e | e | e <;> omega
theorem rplace_any (q : Rl) (d : Dv) (w : World) (h : RefAt w q d) (n : Int) : Calls Try.prog 47 #[ptr q.D, .int .i64 n] w fun e w' => e = .returned (.bool (decide (HasN d n))) ∧ w = w' := by
  have c0 : w.cell? ⟨q.D, 0, none⟩ = some (.int .i64 d.safe.length) := h.dev.cell 0
  clear h
  have hd : decide (HasN d n) = (decide (0 ≤ n) && decide (n < d.safe.length)) := by
    rw [Bool.eq_iff_iff, decide_eq_true_iff]; simp [HasN]
  rw [hd]
  clear hd
  by_cases h0 : 0 ≤ n <;> by_cases h1 : n < d.safe.length
  all_goals
    go_enter Try.func47, Try.ntmps47
    go_wp2
    go_ret
    exact ⟨by simp [h0, h1], rfl⟩
/-- Whether the device goes down at this call. -/
theorem leftP_counted {d : Dv} (h : d.Ok) (hu : d.down = false) : (leftP d = 0 → leftP d.counted = 0 ∧ d.counted.down = false) ∧ (leftP d ≠ 0 → leftP d.counted = leftP d - 1 ∧ (d.counted.down = true ↔ leftP d - 1 = 0)) := by
  have h1 := h.calls
  have h2 := h.frm
  have h3 := h.num
  have h4 := h.plan
  rw [hu] at h4
  have hl : leftP d.counted = if d.num = 0 then 0 else d.num - (d.calls + 1 - d.frm) := rfl
  have hd : d.counted.down = decide (d.calls + 1 - d.frm = d.num) := rfl
  rw [hl, hd]
  unfold leftP
  by_cases e : d.num = 0
  · rw [if_pos e, if_pos e]
    exact ⟨fun _ => ⟨rfl, decide_eq_false (by omega)⟩, fun q => absurd rfl q⟩
  · rw [if_neg e, if_neg e]
    have h5 : d.calls - d.frm < d.num := by rcases h4 with q | q | q; exact absurd q e; exact q; cases q.1
    exact ⟨fun q => by omega, fun _ => ⟨by omega, by rw [decide_eq_true_iff]; omega⟩⟩
theorem rcounts_any (q : Rl) (d : Dv) (w : World) (h : RefAt w q d) (hu : d.down = false) (hc : d.calls < 4611686018427387904) :
    Calls Try.prog 48 #[ptr q.D] w fun e w' => e = .returned (.bool d.counted.down) ∧ RefAt w' q d.counted ∧ RStep q q w w' := by
  have hk := h.ok.calls
  obtain ⟨b0, b1⟩ := leftP_bd h.ok
  obtain ⟨l0, l1⟩ := leftP_counted h.ok hu
  have ho := h.ok.counted hu
  have c5 : w.cell? ⟨q.D, 5, none⟩ = some (.int .i64 d.calls) := h.dev.cell 5
  have f5 := h.dev.free 5
  have wk : wrap64 (d.calls + 1) = d.calls + 1 := wrap64_id (by omega) (by omega)
  obtain ⟨W1, hW1⟩ : ∃ W1, W1 = w.setCell ⟨q.D, 5, none⟩ (.int .i64 (d.calls + 1)) := ⟨_, rfl⟩
  have u1 : Upd (fun k => k = q.D) w W1 := by rw [hW1]; exact (Upd.refl (fun k => k = q.D) w).setCell (p := ⟨q.D, 5, none⟩) (.inl rfl) _
  have d1 : At 42 W1 q.D #[.int .i64 d.safe.length, .map (some q.M), q.vC, .int .i64 (leftP d), .bool d.down, .int .i64 (d.calls + 1)] := by rw [hW1]; exact h.dev.set 5 (.int .i64 (d.calls + 1))
  have e3 : W1.cell? ⟨q.D, 3, none⟩ = some (.int .i64 (leftP d)) := d1.cell 3
  have g3 := d1.free 3
  have HW := Lib.hid hW1
  by_cases hz : leftP d = 0
  · obtain ⟨z1, z2⟩ := l0 hz
    rw [z2]
    have hR : RefAt W1 q d.counted := h.field u1 (by rw [z1, z2, ← hz, ← hu]; exact d1) rfl rfl ho
    have HR := Lib.hid (show RefAt W1 q d.counted ∧ RStep q q w W1 from ⟨hR, rfl, u1.mono (fun j e => .inl e), fun k hk => .inl hk, by omega⟩)
    rw [hz] at e3
    rw [hW1] at e3
    clear h hk u1 d1 hR hW1 l0 l1 z1 z2 ho b0 b1 hz
    go_enter Try.func48, Try.ntmps48
    go_wp2
    go_ret
    have := HR.out
    rw [HW.out] at this
    exact ⟨rfl, this⟩
  · obtain ⟨z1, z2⟩ := l1 hz
    obtain ⟨W2, hW2⟩ : ∃ W2, W2 = W1.setCell ⟨q.D, 3, none⟩ (.int .i64 (leftP d - 1)) := ⟨_, rfl⟩
    have u2 : Upd (fun k => k = q.D) w W2 := by rw [hW2]; exact u1.setCell (p := ⟨q.D, 3, none⟩) (.inl rfl) _
    have d2 : At 42 W2 q.D #[.int .i64 d.safe.length, .map (some q.M), q.vC, .int .i64 (leftP d - 1), .bool d.down, .int .i64 (d.calls + 1)] := by rw [hW2]; exact d1.set 3 _
    have k3 : W2.cell? ⟨q.D, 3, none⟩ = some (.int .i64 (leftP d - 1)) := d2.cell 3
    have g4 := d2.free 4
    have k4 : W2.cell? ⟨q.D, 4, none⟩ = some (.bool d.down) := d2.cell 4
    have wl : wrap64 (leftP d - 1) = leftP d - 1 := wrap64_id (by omega) (by omega)
    have HW2 := Lib.hid hW2
    by_cases hl : leftP d - 1 = 0
    · have hdn : d.counted.down = true := z2.2 hl
      rw [hdn]
      have u3 : Upd (fun k => k = q.D) w (W2.setCell ⟨q.D, 4, none⟩ (.bool true)) := u2.setCell (p := ⟨q.D, 4, none⟩) (.inl rfl) _
      have hR : RefAt (W2.setCell ⟨q.D, 4, none⟩ (.bool true)) q d.counted := h.field u3 (by rw [z1, hdn]; exact d2.set 4 _) rfl rfl ho
      have HR := Lib.hid (show RefAt (W2.setCell ⟨q.D, 4, none⟩ (.bool true)) q d.counted ∧ RStep q q w (W2.setCell ⟨q.D, 4, none⟩ (.bool true)) from ⟨hR, rfl, u3.mono (fun j e => .inl e), fun k hk => .inl hk, by omega⟩)
      subst hW2
      subst hW1
      clear h hk u1 u2 u3 d1 d2 hR l0 l1 z1 z2 ho b0 b1 hdn HW HW2 wl
      generalize leftP d = L at *
      have hL1 : L = 1 := by omega
      subst hL1
      clear hl hz
      simp only [Int.sub_self] at HR k3 k4 g4
      go_enter Try.func48, Try.ntmps48
      go_wp2
      go_ret
      exact ⟨rfl, HR.out⟩
    · have hdn : d.counted.down = false := by
        cases e : d.counted.down
        · rfl
        · exact absurd (z2.1 e) hl
      rw [hdn]
      have hR : RefAt W2 q d.counted := h.field u2 (by rw [z1, hdn, ← hu]; exact d2) rfl rfl ho
      have HR := Lib.hid (show RefAt W2 q d.counted ∧ RStep q q w W2 from ⟨hR, rfl, u2.mono (fun j e => .inl e), fun k hk => .inl hk, by omega⟩)
      obtain ⟨L, hL⟩ : ∃ L, leftP d = L := ⟨_, rfl⟩
      rw [hL] at *
      subst hW2
      subst hW1
      clear h hk u1 u2 d1 d2 hR l0 l1 z1 z2 ho b0 b1 hdn hL HW HW2
      go_enter Try.func48, Try.ntmps48
      go_wp2
      go_ret
      exact ⟨rfl, HR.out⟩
theorem rplan_any (q : Rl) (d : Dv) (w : World) (h : RefAt w q d) (n : Int) (hn : n ≤ 9223372036854775807) :
    Calls Try.prog 34 #[ptr q.D, .int .i64 n] w fun e w' => e = .returned (.int .i64 (planE d n)) ∧ RefAt w' q (d.plan n) ∧ RStep q q w w' := by
  have c4 : w.cell? ⟨q.D, 4, none⟩ = some (.bool d.down) := h.dev.cell 4
  have f3 := h.dev.free 3
  have c3 : w.cell? ⟨q.D, 3, none⟩ = some (.int .i64 (leftP d)) := h.dev.cell 3
  have ho := h.ok.plan' hn
  cases hd : d.down
  · rw [hd] at c4
    by_cases h0 : n < 0
    · have eE : planE d n = 2 := by unfold planE; rw [hd, if_neg (by simp), if_pos h0]
      have eP : d.plan n = d := by unfold Dv.plan; rw [eE, if_pos (by decide)]
      rw [eE, eP]
      have HR := Lib.hid (show RefAt w q d ∧ RStep q q w w from ⟨h, RStep.refl _ _⟩)
      clear h ho hd c3 f3 eE eP
      go_enter Try.func34, Try.ntmps34
      go_wp2
      go_ret
      exact ⟨rfl, HR.out⟩
    · have eE : planE d n = 0 := by unfold planE; rw [hd, if_neg (by simp), if_neg h0]
      have eP : d.plan n = { d with frm := d.calls, num := n } := by unfold Dv.plan; rw [eE, if_neg (by decide)]
      rw [eP] at ho
      rw [eE, eP]
      have hu : Upd (fun k => k = q.D) w (w.setCell ⟨q.D, 3, none⟩ (.int .i64 n)) := (Upd.refl (fun k => k = q.D) w).setCell (p := ⟨q.D, 3, none⟩) (.inl rfl) _
      have hl : leftP { d with frm := d.calls, num := n } = n := by
        show (if n = 0 then 0 else n - (d.calls - d.calls)) = n
        split <;> omega
      have hR : RefAt (w.setCell ⟨q.D, 3, none⟩ (.int .i64 n)) q { d with frm := d.calls, num := n } := h.field hu (by rw [hl]; exact h.dev.set 3 (.int .i64 n)) rfl rfl ho
      have HR := Lib.hid (show RefAt (w.setCell ⟨q.D, 3, none⟩ (.int .i64 n)) q { d with frm := d.calls, num := n } ∧ RStep q q w (w.setCell ⟨q.D, 3, none⟩ (.int .i64 n)) from ⟨hR, rfl, hu.mono (fun j e => .inl e), fun k hk => .inl hk, by omega⟩)
      clear h ho hd eE eP hR hl hu
      go_enter Try.func34, Try.ntmps34
      go_wp2
      go_ret
      exact ⟨rfl, HR.out⟩
  · rw [hd] at c4
    have eE : planE d n = 120 := by unfold planE; rw [hd, if_pos rfl]
    have eP : d.plan n = d := by unfold Dv.plan; rw [eE, if_pos (by decide)]
    rw [eE, eP]
    have HR := Lib.hid (show RefAt w q d ∧ RStep q q w w from ⟨h, RStep.refl _ _⟩)
    clear h ho hd c3 f3 eE eP
    go_enter Try.func34, Try.ntmps34
    go_wp2
    go_ret
    exact ⟨rfl, HR.out⟩
end Go.Proofs.Yteopbeafhhfdoaa
