/- BlockdevPlays: what holds between the calls. -/
import Derived.Test.YteopbeafhhfdoaaPDoA
import Derived.Test.YteopbeafhhfdoaaDCopy
import Derived.Test.YteopbeafhhfdoaaDCached
import Derived.Test.YteopbeafhhfdoaaLKeep
set_option linter.unusedVariables false
set_option linter.unusedSimpArgs false
namespace Go.Proofs.Yteopbeafhhfdoaa
open Go.RowKit Go.Maps
section
variable {P : Program} {md : Region.Mode} {ops : Array Oper} {Q : Exit → Act → World → Prop} {S S' : World → Prop} {z : Nat}
/-- What is held may be more from here on. -/
theorem AnyL.mono (h : ∀ w, S' w → S w) : ∀ (m : Nat) (listed : Array Bool) (a : Act) (w : World), AnyL P md ops Q S' z m listed a w → AnyL P md ops Q S z m listed a w
  | 0, _, _, _, h' => h'
  | m + 1, _, _, _, h' => ⟨h'.1, fun i hi => wpOp_mono (fun a' w' q => ⟨fun e => h _ (q.1 e), AnyL.mono h m _ a' w' q.2⟩) (h'.2 i hi)⟩
end
structure PlS (w : World) (m : Nat) (D Q : Nat) (po : Pl) (k : Nat) (wr : World) (p : Pl) (q : Rl) (d : Dv) : Prop where
  both : Both wr w.heap.size p q d
  D : p.D = D
  Q : q.D = Q
  below : Below w.heap.size w wr
  old : DevAt wr po (Dv.new m)
  apart : ∀ j, own po j → ¬ own p j ∧ ¬ rown q j
  len : d.safe.length = m
  calls : d.calls ≤ k
  u : q.u ≤ 256 * k
section
variable {w wr W W' : World} {m D Q k : Nat} {po p p' : Pl} {q q' : Rl} {d d' : Dv}
theorem PlS.next (h : PlS w m D Q po k wr p q d) (hB : Below wr.heap.size wr W) : PlS w m D Q po k W p q d :=
  ⟨h.both.grow hB, h.D, h.Q, h.below.trans (hB.mono h.both.size), h.old.below hB, h.apart, h.len, h.calls, h.u⟩
theorem PlS.did (h : PlS w m D Q po k wr p q d) (hb : Both W w.heap.size p' q' d') (hm : Moved w.heap.size p p' q q' wr W) (hl : d'.safe.length = d.safe.length) (hc : d'.calls ≤ d.calls + 1) : PlS w m D Q po (k + 1) W p' q' d' :=
  ⟨hb, hm.D.trans h.D, hm.rD.trans h.Q, h.below.trans hm.below,
    h.old.upd hm.upd (fun j hj e => e.elim (h.apart j hj).1 (h.apart j hj).2) (fun e => e.elim (h.both.dev.not1 h.old.b1) (h.both.ref.notInt h.old.b1)) (fun e => e.elim (h.both.dev.not1 h.old.b2) (h.both.ref.notInt h.old.b2)),
    fun j hj => by
      have hlt := h.old.lt j hj
      have ha := h.apart j hj
      refine ⟨fun e => ?_, fun e => ?_⟩
      · rcases hm.has j (.inl e) with e | e | e
        · exact ha.1 e
        · exact ha.2 e
        · omega
      · rcases hm.has j (.inr e) with e | e | e
        · exact ha.1 e
        · exact ha.2 e
        · omega,
    hl.trans h.len, by have := h.calls; omega, by have := h.u; have := hm.u; omega⟩
end
/-- The first state. -/
theorem plS0 {w w1 w2 w3 : World} {m : Nat} {p0 po : Pl} {q0 : Rl} (h1 : DevAt w1 p0 (Dv.new m)) (f1 : ∀ k, own p0 k → w.heap.size ≤ k) (b1 : Below w.heap.size w w1) (h2 : RefAt w2 q0 (Dv.new m)) (f2 : ∀ k, rown q0 k → w1.heap.size ≤ k) (b2 : Below w1.heap.size w1 w2) (hu : q0.u = 0)
    (h3 : DevAt w3 po (Dv.new m)) (f3 : ∀ k, own po k → w2.heap.size ≤ k) (b3 : Below w2.heap.size w2 w3) : PlS w m p0.D q0.D po 0 w3 p0 q0 (Dv.new m) := by
  have s1 := b1.size
  have s2 := b2.size
  refine ⟨⟨(h1.below b2).below b3, h2.below b3, f1, fun k hk => Nat.le_trans s1 (f2 k hk)⟩, rfl, rfl, b1.trans ((b2.mono s1).trans (b3.mono (Nat.le_trans s1 s2))), h3, fun j hj => ⟨fun e => ?_, fun e => ?_⟩, by simp [Dv.new], Int.le_refl _, by omega⟩
  · have := f3 j hj; have := h1.lt j e; omega
  · have := f3 j hj; have := h2.lt j e; omega
theorem rmap_get {c : List (Int × List Int)} {k : Nat} (hk : k < c.length) : (ints (c.map (·.1)))[k]? = some (.int .i64 (c[k]).1) := by
  unfold ints
  rw [List.getElem?_map, List.getElem?_map, List.getElem?_eq_getElem hk]
  rfl
theorem cached_at {w : World} {v : Value} {c : List (Int × List Int)} (h : w.ownsRow 0 3 1 v c.length (ints (c.map (·.1)))) {k : Nat} (hk : k < c.length) : ∃ g cap, v = .slice (some ⟨g, 0, none⟩) c.length cap ∧ w.cell? ⟨g, k, none⟩ = some (.int .i64 (c[k]).1) := by
  rcases h.2 with ⟨e, e2⟩ | ⟨g, cap, cur, e, _⟩
  · omega
  · refine ⟨g, cap, e, ?_⟩
    rw [e] at h
    exact (h.cellAt k (by omega)).trans (rmap_get hk)
theorem cached_form {w : World} {v : Value} {n : Nat} {xs : List Value} (h : w.ownsRow 0 3 1 v n xs) : ∃ a c, v = .slice a n c := by
  rcases h.2 with ⟨e, e2⟩ | ⟨g, cap, cur, e, _⟩
  · exact ⟨none, 0, by rw [e, e2]⟩
  · exact ⟨_, _, e⟩
theorem load_box {w : World} {b : Nat} {x : Opn} (h : At 36 w b (opC x)) : (loadVar 36 ⟨b, 0, none⟩).run Try.prog w = .ok (.agg (opC x)) w := by
  have := run_loadVar_mid (P := Try.prog) w b 0 36 (opC x).toList _ (fun j v hv => by
    rw [Nat.zero_add, h.cell j]; simpa using hv) Try.underlying36 rfl (by
    show _ = some 7
    kernel_rfl)
  simpa using this
end Go.Proofs.Yteopbeafhhfdoaa
