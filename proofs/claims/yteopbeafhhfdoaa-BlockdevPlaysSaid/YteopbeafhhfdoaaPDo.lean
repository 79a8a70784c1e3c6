/- A call of both devices: Flush, Plan, Pull, Restart, nothing. -/
import Derived.Test.YteopbeafhhfdoaaPTwo
import Derived.Test.YteopbeafhhfdoaaPPut
import Derived.Test.YteopbeafhhfdoaaDRestartE
set_option linter.unusedVariables false
set_option linter.unusedSimpArgs false
namespace Go.Proofs.Yteopbeafhhfdoaa
open Go.RowKit Go.Maps
/-- What a call leaves. -/
def DoE (w : World) (B : Nat) (p : Pl) (q : Rl) (d : Dv) (e : Ending) (w' : World) : Prop :=
  e = .returned (.bool true) ∧ ∃ p' q' d', Both w' B p' q' d' ∧ Moved B p p' q q' w w' ∧ d'.safe.length = d.safe.length ∧ d'.calls ≤ d.calls + 1
abbrev boxW (w : World) (x : Opn) : World := w.alloc (.cells (opC x) 36)
theorem flush_same (d : Dv) : d.flush.safe.length = d.safe.length ∧ d.flush.calls ≤ d.calls + 1 := by
  unfold Dv.flush
  split
  · exact ⟨rfl, by omega⟩
  · split
    · exact ⟨rfl, Int.le_refl _⟩
    · exact ⟨putAll_len _ _, Int.le_refl _⟩
theorem plan_same (d : Dv) (n : Int) : (d.plan n).safe.length = d.safe.length ∧ (d.plan n).calls ≤ d.calls + 1 := by
  unfold Dv.plan
  split <;> exact ⟨rfl, by show d.calls ≤ _; omega⟩
theorem restart_same (d : Dv) (len : Nat → Nat) : (d.restart len).safe.length = d.safe.length ∧ (d.restart len).calls ≤ d.calls + 1 := by
  unfold Dv.restart
  split
  · exact ⟨putAll_len _ _, by show d.calls ≤ _; omega⟩
  · exact ⟨rfl, by omega⟩
theorem box_at {B : Nat} {w w1 : World} {p p1 : Pl} {q : Rl} {d : Dv} {x : Opn} (h : Both w B p q d) (hs : Step p p1 (boxW w x) w1) : At 36 w1 w.heap.size (opC x) :=
  (At.new 36 w (opC x)).upd hs.upd (fun e => by have := h.dev.lt _ e; omega)
theorem rpull {w : World} {q : Rl} {d : Dv} (h : RefAt w q d) : RefAt (w.setCell ⟨q.D, 4, none⟩ (.bool true)) q d.pull ∧ RStep q q w (w.setCell ⟨q.D, 4, none⟩ (.bool true)) := by
  have hu : Upd (fun k => k = q.D) w (w.setCell ⟨q.D, 4, none⟩ (.bool true)) := (Upd.refl (fun k => k = q.D) w).setCell (p := ⟨q.D, 4, none⟩) (.inl rfl) _
  exact ⟨h.field hu (h.dev.set 4 (.bool true)) rfl rfl h.ok.pull, rfl, hu.mono (fun j e => .inl e), fun k hk => .inl hk, by omega⟩
section
variable {B : Nat} {p : Pl} {q : Rl} {d : Dv} {w : World}
theorem do_none (h : Both w B p q d) (x : Opn) (h0 : x.kind ≠ 0) (h1 : x.kind ≠ 1) (h2 : x.kind ≠ 2) (h3 : x.kind ≠ 3) (h4 : x.kind ≠ 4) (h5 : x.kind ≠ 5) :
    Calls Try.prog 11 #[ptr p.D, ptr q.D, .agg (opC x)] w (DoE w B p q d) := by
  have e0 : (x.kind == 0) = false := by simpa using h0
  have e1 : (x.kind == 1) = false := by simpa using h1
  have e2 : (x.kind == 2) = false := by simpa using h2
  have e3 : (x.kind == 3) = false := by simpa using h3
  have e4 : (x.kind == 4) = false := by simpa using h4
  have e5 : (x.kind == 5) = false := by simpa using h5
  have hb : Below w.heap.size w (boxW w x) := (Below.refl _ _).alloc (Nat.le_refl _) _
  have HR := Lib.hid (show DoE w B p q d (.returned (.bool true)) (boxW w x) from ⟨rfl, p, q, d, h.grow hb, Moved.of h.size hb, rfl, by omega⟩)
  unfold opC at *
  clear h h0 h1 h2 h3 h4 h5 hb
  go_enter Try.func11, Try.ntmps11
  go_wp2
  go_ret
  exact HR.out
theorem do_flush (h : Both w B p q d) (x : Opn) (hk : x.kind = 1) (hc : d.calls < 4611686018427387904) (hu : q.u < 900000000000) :
    Calls Try.prog 11 #[ptr p.D, ptr q.D, .agg (opC x)] w (DoE w B p q d) := by
  have hb : Below w.heap.size w (boxW w x) := (Below.refl _ _).alloc (Nat.le_refl _) _
  have hB := h.grow hb
  have HM0 := Lib.hid (And.intro (hb.mono h.size) h.size)
  have H1 := Lib.hid (flush_any p d _ hB.dev hc)
  have H2 := Lib.hid (fun (w1 : World) (h1 : RefAt w1 q d) => rflush_any q d w1 h1 hc hu)
  obtain ⟨E, hE⟩ : ∃ E, flushE d = E := ⟨_, rfl⟩
  rw [hE] at H1 H2
  have HS := Lib.hid (flush_same d)
  have HB := Lib.hid hB
  have HBX := Lib.hid (fun (w1 : World) (p1 : Pl) (s1 : Step p p1 (boxW w x) w1) => box_at h s1)
  unfold boxW opC at *
  rw [hk] at *
  clear h hb hB hE hk
  go_enter Try.func11, Try.ntmps11
  go_wp2_with (first | (go_at_call 23; refine H1.out.mono ?_; rintro e w1 ⟨rfl, p1, h1, s1⟩; have HR1 := Lib.hid (HB.out.ref.step HB.out.dev s1); have HD1 := Lib.hid (And.intro h1 s1); have H3 := Lib.hid (H2.out w1 HR1.out); have b1 : w1.cell? ⟨w.heap.size, 1, none⟩ = some (.int .i64 x.n) := (HBX.out w1 p1 s1).cell 1; have b4 : w1.cell? ⟨w.heap.size, 4, none⟩ = some (.slice x.ka x.K.length x.kc) := (HBX.out w1 p1 s1).cell 4; have b5 : w1.cell? ⟨w.heap.size, 5, none⟩ = some (.int .i64 x.torn) := (HBX.out w1 p1 s1).cell 5; have b6 : w1.cell? ⟨w.heap.size, 6, none⟩ = some (.int .i64 x.at_) := (HBX.out w1 p1 s1).cell 6; clear h1 s1) | (go_at_call 33; refine H3.out.mono ?_; rintro e w2 ⟨rfl, q1, h2, s2⟩; have HF := Lib.hid (HB.out.call HD1.out.1 HD1.out.2 h2 s2 HR1.out); clear h2 s2) | fail)
  all_goals
    go_ret
    have hf := HF.out
    exact ⟨by first | rfl | simp, p1, q1, _, hf.1, hf.2.box HM0.out.2, HS.out⟩
theorem do_plan (h : Both w B p q d) (x : Opn) (hk : x.kind = 2) (hn : x.n ≤ 9223372036854775807) :
    Calls Try.prog 11 #[ptr p.D, ptr q.D, .agg (opC x)] w (DoE w B p q d) := by
  have hb : Below w.heap.size w (boxW w x) := (Below.refl _ _).alloc (Nat.le_refl _) _
  have hB := h.grow hb
  have HM0 := Lib.hid (And.intro (hb.mono h.size) h.size)
  have H1 := Lib.hid (plan_any p d _ hB.dev x.n hn)
  have H2 := Lib.hid (fun (w1 : World) (h1 : RefAt w1 q d) => (rplan_any q d w1 h1 x.n hn).mono (fun e w2 g => (⟨g.1, q, g.2.1, g.2.2⟩ : e = .returned (.int .i64 (planE d x.n)) ∧ ∃ q1, RefAt w2 q1 (d.plan x.n) ∧ RStep q q1 w1 w2)))
  obtain ⟨E, hE⟩ : ∃ E, planE d x.n = E := ⟨_, rfl⟩
  rw [hE] at H1 H2
  have HS := Lib.hid (plan_same d x.n)
  have HB := Lib.hid hB
  have HBX := Lib.hid (fun (w1 : World) (p1 : Pl) (s1 : Step p p1 (boxW w x) w1) => box_at h s1)
  unfold boxW opC at *
  rw [hk] at *
  clear h hb hB hE hk
  go_enter Try.func11, Try.ntmps11
  go_wp2_with (first | (go_at_call 21; refine H1.out.mono ?_; rintro e w1 ⟨rfl, p1, h1, s1⟩; have HR1 := Lib.hid (HB.out.ref.step HB.out.dev s1); have HD1 := Lib.hid (And.intro h1 s1); have H3 := Lib.hid (H2.out w1 HR1.out); have b1 : w1.cell? ⟨w.heap.size, 1, none⟩ = some (.int .i64 x.n) := (HBX.out w1 p1 s1).cell 1; have b4 : w1.cell? ⟨w.heap.size, 4, none⟩ = some (.slice x.ka x.K.length x.kc) := (HBX.out w1 p1 s1).cell 4; have b5 : w1.cell? ⟨w.heap.size, 5, none⟩ = some (.int .i64 x.torn) := (HBX.out w1 p1 s1).cell 5; have b6 : w1.cell? ⟨w.heap.size, 6, none⟩ = some (.int .i64 x.at_) := (HBX.out w1 p1 s1).cell 6; clear h1 s1) | (go_at_call 34; refine H3.out.mono ?_; rintro e w2 ⟨rfl, q1, h2, s2⟩; have HF := Lib.hid (HB.out.call HD1.out.1 HD1.out.2 h2 s2 HR1.out); clear h2 s2) | fail)
  all_goals
    go_ret
    have hf := HF.out
    exact ⟨by first | rfl | simp, p1, q1, _, hf.1, hf.2.box HM0.out.2, HS.out⟩
theorem do_pull (h : Both w B p q d) (x : Opn) (hk : x.kind = 3) :
    Calls Try.prog 11 #[ptr p.D, ptr q.D, .agg (opC x)] w (DoE w B p q d) := by
  have hb : Below w.heap.size w (boxW w x) := (Below.refl _ _).alloc (Nat.le_refl _) _
  have hB := h.grow hb
  have HM0 := Lib.hid (And.intro (hb.mono h.size) h.size)
  have H1 := Lib.hid (pull_any p d _ hB.dev)
  have HB := Lib.hid hB
  unfold boxW opC at *
  rw [hk] at *
  clear h hb hB hk
  go_enter Try.func11, Try.ntmps11
  go_wp2_with (first | (go_at_call 26; refine H1.out.mono ?_; rintro e w1 ⟨rfl, h1, s1⟩; have hR1 := HB.out.ref.step HB.out.dev s1; have c4 : w1.cell? ⟨q.D, 4, none⟩ = some (.bool d.down) := hR1.dev.cell 4; have f4 := hR1.dev.free 4; have hp := rpull hR1; have HF := Lib.hid (HB.out.call h1 s1 hp.1 hp.2 hR1); clear h1 s1 hR1 hp) | fail)
  go_ret
  have hf := HF.out
  exact ⟨by first | rfl | simp, p, q, _, hf.1, hf.2.box HM0.out.2, rfl, by show d.calls ≤ _; omega⟩
end
end Go.Proofs.Yteopbeafhhfdoaa
