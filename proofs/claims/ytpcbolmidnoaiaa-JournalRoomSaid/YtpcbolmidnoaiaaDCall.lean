/- The short methods: made, up, has, access, Down, Calls, Len, Pull, Plan; a plan's closure. -/
import Derived.Test.YtpcbolmidnoaiaaDMem
set_option linter.unusedVariables false
set_option linter.unusedSimpArgs false
namespace Go.Proofs.Ytpcbolmidnoaiaa
open Go.RowKit
abbrev ptr (D : Nat) : Value := .pointer (some ⟨D, 0, none⟩)
section
variable (p : Pl) (d : Dv) (w : World) (h : DevAt w p d)
include h
theorem made_any : Calls Try.prog 38 #[ptr p.D] w fun e w' => e = .returned (.bool true) ∧ w = w' := by
  have c0 : w.cell? ⟨p.D, 0, none⟩ = some (.slice (some ⟨p.S, 0, none⟩) d.safe.length p.cS) := h.dev.cell 0
  have hp := Lib.hid h.ok.pos
  clear h
  go_enter Try.func38, Try.ntmps38
  go_wp2
  go_ret
  exact ⟨by rw [show decide (0 < d.safe.length) = true from decide_eq_true hp.out]; rfl, rfl⟩
theorem has_any (n : Int) : Calls Try.prog 73 #[ptr p.D, .int .i64 n] w fun e w' => e = .returned (.bool (decide (HasN d n))) ∧ w = w' := by
  have c0 : w.cell? ⟨p.D, 0, none⟩ = some (.slice (some ⟨p.S, 0, none⟩) d.safe.length p.cS) := h.dev.cell 0
  clear h
  have hd : decide (HasN d n) = (decide (0 ≤ n) && decide (n < d.safe.length)) := by
    rw [Bool.eq_iff_iff, decide_eq_true_iff]; simp [HasN]
  rw [hd]
  clear hd
  by_cases h0 : 0 ≤ n <;> by_cases h1 : n < d.safe.length
  all_goals
    go_enter Try.func73, Try.ntmps73
    go_wp2
    go_ret
    exact ⟨by simp [h0, h1], rfl⟩
theorem up_any : Calls Try.prog 37 #[ptr p.D] w fun e w' => e = .returned (.int .i64 (downE d.down)) ∧ w = w' := by
  have c4 : w.cell? ⟨p.D, 4, none⟩ = some (.bool d.down) := h.dev.cell 4
  have HM := Lib.hid (made_any p d w h)
  clear h
  cases hd : d.down
  all_goals
    rw [hd] at c4
    clear hd
    go_enter Try.func37, Try.ntmps37
    go_wp2_with (refine HM.out.mono ?_; rintro e w' ⟨rfl, rfl⟩)
    go_ret
    exact ⟨rfl, rfl⟩
theorem access_any (n : Int) : Calls Try.prog 62 #[ptr p.D, .int .i64 n] w fun e w' => e = .returned (.int .i64 (accE d n)) ∧ w = w' := by
  have HU := Lib.hid (up_any p d w h)
  have HH := Lib.hid (has_any p d w h n)
  clear h
  unfold accE
  cases hd : d.down
  · rw [hd] at HU
    clear hd
    by_cases hn : HasN d n
    · rw [decide_eq_true hn] at HH
      rw [if_neg (by simp), if_pos hn]
      clear hn
      go_enter Try.func62, Try.ntmps62
      go_wp2_with (first | (go_at_call 37; refine HU.out.mono ?_; rintro e w' ⟨rfl, rfl⟩; simp only [downE]) | (go_at_call 73; refine HH.out.mono ?_; rintro e w' ⟨rfl, rfl⟩))
      go_ret
      exact ⟨rfl, rfl⟩
    · rw [decide_eq_false hn] at HH
      rw [if_neg (by simp), if_neg hn]
      clear hn
      go_enter Try.func62, Try.ntmps62
      go_wp2_with (first | (go_at_call 37; refine HU.out.mono ?_; rintro e w' ⟨rfl, rfl⟩; simp only [downE]) | (go_at_call 73; refine HH.out.mono ?_; rintro e w' ⟨rfl, rfl⟩))
      go_ret
      exact ⟨rfl, rfl⟩
  · rw [hd] at HU
    clear hd
    rw [if_pos rfl]
    go_enter Try.func62, Try.ntmps62
    go_wp2_with (first | (go_at_call 37; refine HU.out.mono ?_; rintro e w' ⟨rfl, rfl⟩; simp only [downE]) | (go_at_call 73; refine HH.out.mono ?_; rintro e w' ⟨rfl, rfl⟩))
    go_ret
    exact ⟨rfl, rfl⟩
theorem down_any : Calls Try.prog 44 #[ptr p.D] w fun e w' => e = .returned (.bool d.down) ∧ w = w' := by
  have c4 : w.cell? ⟨p.D, 4, none⟩ = some (.bool d.down) := h.dev.cell 4
  have HM := Lib.hid (made_any p d w h)
  clear h
  go_enter Try.func44, Try.ntmps44
  go_wp2_with (refine HM.out.mono ?_; rintro e w' ⟨rfl, rfl⟩)
  go_ret
  exact ⟨rfl, rfl⟩
theorem len_any : Calls Try.prog 43 #[ptr p.D] w fun e w' => e = .returned (.int .i64 d.safe.length) ∧ w = w' := by
  have c4 : w.cell? ⟨p.D, 0, none⟩ = some (.slice (some ⟨p.S, 0, none⟩) d.safe.length p.cS) := h.dev.cell 0
  have HM := Lib.hid (made_any p d w h)
  clear h
  go_enter Try.func43, Try.ntmps43
  go_wp2_with (refine HM.out.mono ?_; rintro e w' ⟨rfl, rfl⟩)
  go_ret
  exact ⟨rfl, rfl⟩
end
section
variable {p : Pl} {d : Dv} {w : World}
theorem apart_own (h : DevAt w p d) : p.D ≠ p.S ∧ (∀ k, p.vC.ownBlock = some k → k ≠ p.D ∧ k ≠ p.S) ∧ p.B1 ≠ p.D ∧ p.B2 ≠ p.D ∧ p.B1 ≠ p.S ∧ p.B2 ≠ p.S ∧ (∀ k, p.vC.ownBlock = some k → k ≠ p.B1 ∧ k ≠ p.B2) := by
  have hS : ∃ cap cur, w.heap[p.S]? = some (.cells cur 94 (0, 0)) ∧ cap = p.cS := by
    rcases h.safe.2 with ⟨e, _⟩ | ⟨g, cap, cur, e, _, hh, _⟩
    · cases e
    · cases e; exact ⟨_, cur, hh, rfl⟩
  have hC : ∀ k, p.vC.ownBlock = some k → ∃ cur, w.heap[k]? = some (.cells cur 96 (0, 0)) := by
    intro k hk
    rcases h.cache.2 with ⟨e, _⟩ | ⟨g, cap, cur, e, _, hh, _⟩
    · rw [e] at hk; cases hk
    · rw [e] at hk; cases hk; exact ⟨_, hh⟩
  obtain ⟨_, cs, hs, _⟩ := hS
  have hd := h.dev
  have h1 := h.b1
  have h2 := h.b2
  unfold At at hd h1 h2
  refine ⟨?_, ?_, ?_, ?_, ?_, ?_, ?_⟩
  · intro e; rw [e, hs] at hd; cases hd
  · intro k hk
    obtain ⟨cur, hc⟩ := hC k hk
    exact ⟨fun e => (by rw [e, hd] at hc; cases hc), fun e => (by rw [e, hs] at hc; cases hc)⟩
  · intro e; rw [e, hd] at h1; cases h1
  · intro e; rw [e, hd] at h2; cases h2
  · intro e; rw [e, hs] at h1; cases h1
  · intro e; rw [e, hs] at h2; cases h2
  · intro k hk
    obtain ⟨cur, hc⟩ := hC k hk
    exact ⟨fun e => (by rw [e, h1] at hc; cases hc), fun e => (by rw [e, h2] at hc; cases hc)⟩
/-- A field of the device is written. -/
theorem DevAt.field {w' : World} {d' : Dv} {vC' : Value} {b1 b2 : Nat} (h : DevAt w p d) (hu : Upd (fun k => k = p.D) w w')
    (hd : At 53 w' p.D #[.slice (some ⟨p.S, 0, none⟩) d'.safe.length p.cS, p.vC, planF p.B1 p.B2, .int .i64 d'.calls, .bool d'.down])
    (hs : d'.safe = d.safe) (hc : d'.cache = d.cache) (hf : d'.frm = d.frm) (hn : d'.num = d.num) (ho : d'.Ok) : DevAt w' p d' := by
  obtain ⟨a1, a2, a3, a4, a5, a6, a7⟩ := apart_own h
  refine ⟨hd, by rw [hf]; exact h.b1.upd hu a3, by rw [hn]; exact h.b2.upd hu a4, by rw [hs]; exact ownsRow_upd h.safe hu (fun k e => by cases e; exact fun q => a1 q.symm), by rw [hc]; exact ownsRow_upd h.cache hu (fun k e q => (a2 k e).1 q), ho⟩
end
theorem pull_any (p : Pl) (d : Dv) (w : World) (h : DevAt w p d) : Calls Try.prog 15 #[ptr p.D] w fun e w' => e = .returned (.int .i64 0) ∧ DevAt w' p d.pull ∧ Step p p w w' := by
  have c4 : w.cell? ⟨p.D, 4, none⟩ = some (.bool d.down) := h.dev.cell 4
  have f4 := h.dev.free 4
  have HM := Lib.hid (made_any p d w h)
  have hu : Upd (fun k => k = p.D) w (w.setCell ⟨p.D, 4, none⟩ (.bool true)) := (Upd.refl (fun k => k = p.D) w).setCell (p := ⟨p.D, 4, none⟩) (.inl rfl) _
  have HR := Lib.hid (show DevAt (w.setCell ⟨p.D, 4, none⟩ (.bool true)) p d.pull ∧ Step p p w (w.setCell ⟨p.D, 4, none⟩ (.bool true)) from
    ⟨h.field (vC' := p.vC) (b1 := 0) (b2 := 0) hu (h.dev.set 4 (.bool true)) rfl rfl rfl rfl h.ok.pull, ⟨rfl, hu.mono (fun j e => .inl e), fun k hk => .inl hk⟩⟩)
  clear h hu
  go_enter Try.func15, Try.ntmps15
  go_wp2_with (refine HM.out.mono ?_; rintro e w' ⟨rfl, rfl⟩)
  go_ret
  exact ⟨rfl, HR.out⟩
/-- The boxes that a plan lays. -/
abbrev planW (w : World) (a b : Int) : World := (w.alloc (.cells #[.int .i64 a] 3)).alloc (.cells #[.int .i64 b] 3)
theorem planFrom_any (a b : Int) (w : World) : Calls Try.prog 23 #[.int .i64 a, .int .i64 b] w fun e w' => e = .returned (planF w.heap.size (w.heap.size + 1)) ∧ w' = planW w a b := by
  go_enter Try.func23, Try.ntmps23
  go_wp2
  go_ret
  exact ⟨rfl, rfl⟩
/-- Whether a plan makes a call fail. -/
theorem fails_any (B1 B2 : Nat) (a b c : Int) (w : World) (h1 : At 3 w B1 #[.int .i64 a]) (h2 : At 3 w B2 #[.int .i64 b]) (hw : wrap64 (c - a) = c - a) :
    Calls Try.prog 42 #[.int .i64 c, ptr B1, ptr B2] w fun e w' => e = .returned (.bool (decide (c - a = b))) ∧ w = w' := by
  have c1 : w.cell? ⟨B1, 0, none⟩ = some (.int .i64 a) := h1.cell 0
  have c2 : w.cell? ⟨B2, 0, none⟩ = some (.int .i64 b) := h2.cell 0
  have HW := Lib.hid hw
  clear h1 h2 hw
  go_enter Try.func42, Try.ntmps42
  go_wp2
  go_ret
  refine ⟨?_, rfl⟩
  show Ending.returned (.bool (wrap64 (c - a) == b)) = _
  rw [HW.out]
  rfl
end Go.Proofs.Ytpcbolmidnoaiaa
