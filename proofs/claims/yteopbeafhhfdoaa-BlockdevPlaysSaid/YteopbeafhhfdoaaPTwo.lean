/- Both devices at once: the program's and the document's, of one state. -/
import Derived.Test.YteopbeafhhfdoaaPMap
import Derived.Test.YteopbeafhhfdoaaLOp
set_option linter.unusedVariables false
set_option linter.unusedSimpArgs false
namespace Go.Proofs.Yteopbeafhhfdoaa
open Go.RowKit Go.Maps
section
variable {B : Nat} {w w' w'' : World} {p p' p'' : Pl} {q q' q'' : Rl} {d e : Dv}
/-- No block is of both. -/
theorem not_both (h : DevAt w p d) (hq : RefAt w q e) : ∀ k, own p k → ¬ rown q k := fun k hk hr => by
  obtain ⟨cs, fr, T, h1, h2⟩ := h.typed k hk
  rcases hq.typed k hr with ⟨cs', fr', T', h3, h4⟩ | ⟨es, c, h3⟩
  · rw [h1] at h3
    cases h3
    rcases h2 with e | e | e <;> rcases h4 with e' | e' <;> rw [e] at e' <;> exact absurd e' (by decide)
  · rw [h1] at h3; cases h3
theorem RefAt.notInt (hq : RefAt w q e) {b : Nat} {cs : Array Value} (hb : At 3 w b cs) : ¬ rown q b := fun ho => by
  unfold At at hb
  rcases hq.typed b ho with ⟨cs', fr', T, h1, h2⟩ | ⟨_, _, h1⟩
  · rw [hb] at h1
    cases h1
    rcases h2 with e | e <;> exact absurd e (by decide)
  · rw [hb] at h1; cases h1
theorem DevAt.not8 (h : DevAt w p d) {b : Nat} {cs : Array Value} {fr : Nat × Nat} (hb : w.heap[b]? = some (.cells cs 5 fr)) : ¬ own p b := fun ho => by
  obtain ⟨cs', fr', T, h1, h2⟩ := h.typed b ho
  rw [hb] at h1
  cases h1
  rcases h2 with e | e | e <;> exact absurd e (by decide)
/-- What the program's device does leaves the document's as it was; and the other way. -/
theorem RefAt.step (hq : RefAt w q e) (h : DevAt w p d) (hs : Step p p' w w') : RefAt w' q e :=
  hq.upd hs.upd (fun k hk ho => not_both h hq k ho hk) (fun k cs fr hk _ => h.not8 hk)
theorem DevAt.rstep (h : DevAt w p d) (hq : RefAt w q e) (hs : RStep q q' w w') : DevAt w' p d :=
  h.upd hs.upd (not_both h hq) (hq.notInt h.b1) (hq.notInt h.b2)
/-- Both, of one state; all blocks from B on. -/
structure Both (w : World) (B : Nat) (p : Pl) (q : Rl) (d : Dv) : Prop where
  dev : DevAt w p d
  ref : RefAt w q d
  low : ∀ k, own p k → B ≤ k
  rlow : ∀ k, rown q k → B ≤ k
/-- What was there below B is as it was. -/
structure Moved (B : Nat) (p p' : Pl) (q q' : Rl) (w w' : World) : Prop where
  D : p'.D = p.D
  rD : q'.D = q.D
  below : Below B w w'
  u : q'.u ≤ q.u + 256
  upd : Upd (fun k => own p k ∨ rown q k) w w'
  has : ∀ k, own p' k ∨ rown q' k → own p k ∨ rown q k ∨ w.heap.size ≤ k
theorem Moved.of (hB : B ≤ w.heap.size) (hb : Below w.heap.size w w') : Moved B p p q q w w' :=
  ⟨rfl, rfl, hb.mono hB, by omega, Upd.of hb _, fun k h => h.elim .inl (fun h => .inr (.inl h))⟩
theorem Moved.from (m : Moved B p p' q q' w' w'') (hb : Below w.heap.size w w') (hB : B ≤ w.heap.size) : Moved B p p' q q' w w'' :=
  ⟨m.D, m.rD, (hb.mono hB).trans m.below, m.u, (Upd.of hb _).trans m.upd (fun j e => .inl e), fun k h => by
    have := hb.size
    rcases m.has k h with e | e | e
    · exact .inl e
    · exact .inr (.inl e)
    · exact .inr (.inr (by omega))⟩
theorem Moved.box {o : Obj} (m : Moved B p p' q q' (w.alloc o) w'') (hB : B ≤ w.heap.size) : Moved B p p' q q' w w'' := m.from ((Below.refl _ _).alloc (Nat.le_refl _) o) hB
theorem Moved.row {g : Nat} (m : Moved B p p' q q' w w') (hu : Upd (fun k => k = g) w' w'') (hg : w.heap.size ≤ g) (hB : B ≤ w.heap.size) : Moved B p p' q q' w w'' :=
  ⟨m.D, m.rD, m.below.trans (hu.below (fun j e => by omega) (Nat.le_trans hB m.upd.size)), m.u, m.upd.trans hu (fun j e => .inr (by omega)), m.has⟩
theorem Both.size (h : Both w B p q d) : B ≤ w.heap.size := Nat.le_trans (h.low _ (.inl rfl)) (Nat.le_of_lt (h.dev.lt _ (.inl rfl)))
theorem Both.grow (h : Both w B p q d) (hb : Below w.heap.size w w') : Both w' B p q d := ⟨h.dev.below hb, h.ref.below hb, h.low, h.rlow⟩
/-- A call of the program's device, then one of the document's. -/
theorem Both.call {w1 w2 : World} (h : Both w B p q d) (h1 : DevAt w1 p' e) (s1 : Step p p' w w1) (h2 : RefAt w2 q' e) (s2 : RStep q q' w1 w2) (hr : RefAt w1 q d) : Both w2 B p' q' e ∧ Moved B p p' q q' w w2 := by
  have hB := h.size
  have l1 := s1.fresh h.low hB
  have b1 : Below B w w1 := s1.below h.low hB
  have hB1 : B ≤ w1.heap.size := Nat.le_trans hB b1.size
  have b2 : Below B w1 w2 := s2.upd.below h.rlow hB1
  refine ⟨⟨h1.rstep hr s2, h2, l1, fun k hk => ?_⟩, s1.D, congrArg Prod.fst s2.D, b1.trans b2, s2.u, (s1.upd.mono (fun k e => .inl e)).trans s2.upd (fun k e => .inl (.inr e)), fun k hk => ?_⟩
  · rcases s2.has k hk with e | e
    · exact h.rlow k e
    · omega
  · rcases hk with hk | hk
    · exact (s1.has k hk).elim .inl (fun e => .inr (.inr e))
    · exact (s2.has k hk).elim (fun e => .inr (.inl e)) (fun e => .inr (.inr (Nat.le_trans s1.upd.size e)))
end
end Go.Proofs.Yteopbeafhhfdoaa
