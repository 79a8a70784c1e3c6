/- A call of both devices: Restart. -/
import Derived.Test.YteopbeafhhfdoaaPDo
import Derived.Test.YteopbeafhhfdoaaPRest
import Derived.Test.YteopbeafhhfdoaaDRestartE
set_option linter.unusedVariables false
set_option linter.unusedSimpArgs false
namespace Go.Proofs.Yteopbeafhhfdoaa
open Go.RowKit Go.Maps
section
variable {B : Nat} {p : Pl} {q : Rl} {d : Dv} {w : World}
theorem do_restart (h : Both w B p q d) (x : Opn) (hk : x.kind = 4) (hK : Bys8 B w (.slice x.ka x.K.length x.kc) x.K) (hlo : x.K ≠ [] → ∀ k, (Value.slice x.ka x.K.length x.kc).ownBlock = some k → k < B) (hu : q.u < 900000000000) :
    Calls Try.prog 11 #[ptr p.D, ptr q.D, .agg (opC x)] w (DoE w B p q d) := by
  have hb : Below w.heap.size w (boxW w x) := (Below.refl _ _).alloc (Nat.le_refl _) _
  have hB := h.grow hb
  have HM0 := Lib.hid (And.intro (hb.mono h.size) h.size)
  have hK0 : Bys8 B (boxW w x) (.slice x.ka x.K.length x.kc) x.K := hK.below (hb.mono h.size)
  have H1 := Lib.hid (restart_anyE p d _ hB.dev x.ka x.K.length x.kc x.K x.torn x.at_ (hK0.mono hB.size) (fun e k hk ho => by have := hlo e k hk; have := h.low k ho; omega))
  have H2 := Lib.hid (fun (w1 : World) (h1 : RefAt w1 q d) (k1 : Bys8 w1.heap.size w1 (.slice x.ka x.K.length x.kc) x.K) => rrestart_any q d w1 h1 x.ka x.K.length x.kc x.K x.torn x.at_ k1 (fun e k hk ho => by have := hlo e k hk; have := h.rlow k ho; omega) hu)
  have HKX := Lib.hid (fun (w1 : World) (p1 : Pl) (s1 : Step p p1 (boxW w x) w1) => (bys8_upd hK0 s1.upd hB.size (fun e k hk ho => by have := hlo e k hk; have := h.low k ho; omega)).mono (Nat.le_trans hB.size s1.upd.size))
  obtain ⟨E, hE⟩ : ∃ E, restartE d = E := ⟨_, rfl⟩
  rw [hE] at H1 H2
  have HS := Lib.hid (restart_same d (leftN x.K x.torn x.at_))
  have HB := Lib.hid hB
  have HBX := Lib.hid (fun (w1 : World) (p1 : Pl) (s1 : Step p p1 (boxW w x) w1) => box_at h s1)
  unfold crashV at H1 H2
  unfold boxW opC at *
  rw [hk] at *
  clear h hb hB hE hk hK hK0 hlo
  go_enter Try.func11, Try.ntmps11
  go_wp2_with (first | (go_at_call 18; refine H1.out.mono ?_; rintro e w1 ⟨rfl, p1, h1, s1⟩; have HR1 := Lib.hid (HB.out.ref.step HB.out.dev s1); have HD1 := Lib.hid (And.intro h1 s1); have H3 := Lib.hid (H2.out w1 HR1.out (HKX.out w1 p1 s1)); have b1 : w1.cell? ⟨w.heap.size, 1, none⟩ = some (.int .i64 x.n) := (HBX.out w1 p1 s1).cell 1; have b4 : w1.cell? ⟨w.heap.size, 4, none⟩ = some (.slice x.ka x.K.length x.kc) := (HBX.out w1 p1 s1).cell 4; have b5 : w1.cell? ⟨w.heap.size, 5, none⟩ = some (.int .i64 x.torn) := (HBX.out w1 p1 s1).cell 5; have b6 : w1.cell? ⟨w.heap.size, 6, none⟩ = some (.int .i64 x.at_) := (HBX.out w1 p1 s1).cell 6; clear h1 s1) | (go_at_call 35; refine H3.out.mono ?_; rintro e w2 ⟨rfl, q1, h2, s2⟩; have HF := Lib.hid (HB.out.call HD1.out.1 HD1.out.2 h2 s2 HR1.out); clear h2 s2) | fail)
  all_goals
    go_ret
    have hf := HF.out
    exact ⟨by first | rfl | simp, p1, q1, _, hf.1, hf.2.box HM0.out.2, HS.out⟩
end
end Go.Proofs.Yteopbeafhhfdoaa
