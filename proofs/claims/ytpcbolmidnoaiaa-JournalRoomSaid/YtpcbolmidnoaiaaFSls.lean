/- A row of slices of bytes that the call made, each with bytes of its own. -/
import Derived.Test.YtpcbolmidnoaiaaFRows
import Derived.Deep.MidRow
import Derived.Deep.Slices
set_option linter.unusedVariables false
set_option linter.unusedSimpArgs false
namespace Go.Proofs.Ytpcbolmidnoaiaa
open Go.RowKit Go.Shelf
structure Sl where
  a : Option Addr
  c : Nat
  L : List Int
def Sl.v (r : Sl) : Value := .slice r.a r.L.length r.c
def valsS (rs : List Sl) : List Value := rs.map Sl.v
theorem valsS_one {rs : List Sl} : ∀ u ∈ valsS rs, u.oneCell' = true := by
  intro u hu
  obtain ⟨p, _, rfl⟩ := List.mem_map.1 hu
  rfl
theorem Own8.keep {base : Nat} {W X : World} {v : Value} {xs : List Int} (h : Own8 base W v xs) (hk : ∀ k, base ≤ k → k < W.heap.size → v.ownBlock = some k → X.heap[k]? = W.heap[k]?) : Own8 base X v xs := by
  refine ⟨h.1, h.2.1, ?_⟩
  rcases h.2.2 with e | ⟨g, cap, cur, rfl, hg, hh, r⟩
  · exact .inl e
  · exact .inr ⟨g, cap, cur, rfl, hg, (hk g hg (Array.getElem?_eq_some_iff.1 hh).1 rfl).trans hh, r⟩
/-- The value is the call's own row of these slices, each the call's own row of its bytes. -/
structure SlsAt (base : Nat) (W : World) (v : Value) (rs : List Sl) : Prop where
  row : W.ownsRow base 23 1 v rs.length (valsS rs)
  each : ∀ r ∈ rs, Own8 base W r.v r.L
theorem SlsAt.nil (base : Nat) (W : World) : SlsAt base W (.slice none 0 0) [] := ⟨⟨by simp [valsS], .inl ⟨rfl, rfl⟩⟩, fun r hr => by cases hr⟩
theorem SlsAt.form {base : Nat} {W : World} {v : Value} {rs : List Sl} (h : SlsAt base W v rs) : ∃ a c, v = .slice a rs.length c ∧ rs.length ≤ c := by
  rcases h.row.2 with ⟨rfl, e⟩ | ⟨g, cap, cur, rfl, hg, hh, h1, _⟩
  · exact ⟨none, 0, by rw [e], by omega⟩
  · exact ⟨_, cap, rfl, h1⟩
theorem SlsAt.blk {base : Nat} {W : World} {v : Value} {rs : List Sl} (h : SlsAt base W v rs) : ∀ k, v.ownBlock = some k → base ≤ k ∧ k < W.heap.size := by
  intro k hk
  rcases h.row.2 with ⟨rfl, e⟩ | ⟨g, cap, cur, rfl, hg, hh, _⟩
  · simp [Value.ownBlock] at hk
  · simp [Value.ownBlock] at hk; subst hk; exact ⟨hg, (Array.getElem?_eq_some_iff.1 hh).1⟩
theorem SlsAt.keep {base : Nat} {W X : World} {v : Value} {rs : List Sl} (h : SlsAt base W v rs) (hk : ∀ k, base ≤ k → k < W.heap.size → X.heap[k]? = W.heap[k]?) : SlsAt base X v rs := by
  refine ⟨⟨h.row.1, ?_⟩, fun r hr => (h.each r hr).keep (fun k h1 h2 _ => hk k h1 h2)⟩
  rcases h.row.2 with e | ⟨g, cap, cur, rfl, hg, hh, r⟩
  · exact .inl e
  · exact .inr ⟨g, cap, cur, rfl, hg, (hk g hg (Array.getElem?_eq_some_iff.1 hh).1).trans hh, r⟩
theorem SlsAt.below {base B : Nat} {W X : World} {v : Value} {rs : List Sl} (h : SlsAt base W v rs) (hb : Below B W X) (hB : W.heap.size ≤ B) : SlsAt base X v rs := h.keep (fun k _ h2 => hb.block k (by omega))
theorem SlsAt.le {base base' : Nat} {W : World} {v : Value} {rs : List Sl} (h : SlsAt base W v rs) (hb : base' ≤ base) : SlsAt base' W v rs :=
  ⟨⟨h.row.1, h.row.2.elim Or.inl (fun ⟨g, cap, cur, hv, hg, r⟩ => Or.inr ⟨g, cap, cur, hv, Nat.le_trans hb hg, r⟩)⟩, fun r hr => (h.each r hr).le hb⟩
/-- As it reads. -/
theorem SlsAt.bss {base n c : Nat} {W : World} {a : Option Addr} {rs : List Sl} (h : SlsAt base W (.slice a n c) rs) : BssAt W.heap.size W a (rs.map Sl.L) := by
  intro i L hi
  rw [List.getElem?_map] at hi
  cases hr : rs[i]? with
  | none => rw [hr] at hi; cases hi
  | some r =>
    rw [hr] at hi
    cases hi
    have hlt : i < rs.length := (List.getElem?_eq_some_iff.1 hr).1
    have hm : r ∈ rs := by
      obtain ⟨h1, h2⟩ := List.getElem?_eq_some_iff.1 hr
      rw [← h2]; exact List.getElem_mem _
    have ho := h.each r hm
    rcases h.row.2 with ⟨e, e2⟩ | ⟨g, cap, cur, e, hg, hb, hn, hmx, hs, ht⟩
    · omega
    · cases e
      have e0 : (valsS rs)[i]? = some r.v := by unfold valsS; rw [List.getElem?_map, hr]; rfl
      rw [← ht, List.getElem?_take_of_lt (by omega)] at e0
      refine ⟨g, 0, r.a, r.c, rfl, (Array.getElem?_eq_some_iff.1 hb).1, ?_, ho.cap, ho.bys⟩
      simp only [World.cell?, hb, Nat.zero_add]
      unfold Sl.v at e0
      simpa using e0
theorem infoS : (Try.prog.info? 23).map (fun i => (i.zero, i.size, i.bytes)) = some (some (.slice none 0 0), 1, 24) := by kernel_rfl
theorem partsS : ∃ i, Try.prog.info? 23 = some i ∧ i.zero = some (.slice none 0 0) ∧ i.size = 1 ∧ i.bytes = 24 := by
  have h := infoS
  cases hi : Try.prog.info? 23 with
  | none => rw [hi] at h; cases h
  | some i => rw [hi] at h; simp at h; exact ⟨i, rfl, h.1, h.2.1, h.2.2⟩
/-- Appending one slice that lies in a block of its own. -/
theorem run_push (base ty : Nat) (w : World) (v : Value) (rs : List Sl) (h : SlsAt base w v rs) (r : Sl) (hr : Own8 base w r.v r.L) (g : Nat) (hg : w.cell? ⟨g, 0, none⟩ = some r.v) (hl : rs.length ≤ 10000000) (hb : base ≤ w.heap.size) :
    ∃ v' w', (Builtin.append_ #[22, 22] ty #[v, .slice (some ⟨g, 0, none⟩) 1 1]).run Try.prog w = .ok v' w' ∧ SlsAt base w' v' (rs ++ [r]) ∧ w.grownBy w' v.ownBlock := by
  obtain ⟨i, hi, hz, hs, hby⟩ := partsS
  obtain ⟨v', w', hrun, h2, h3, h4, h5⟩ := run_append_own_at (P := Try.prog) w base 22 ty 23 i _ 1 24 Try.underlying22 hi hz hs hby rfl (by decide) v rs.length (valsS rs) h.row ⟨g, 0, none⟩ 1 1 [r.v] rfl
    (fun j u hj => by
      cases j with
      | zero =>
        have : r.v = u := by simpa using hj
        rw [Addr.add_mid, ← this]; exact hg
      | succ j => simp at hj) (fun u hu => by rw [List.mem_singleton.1 hu]; rfl) (by unfold maxLen; omega) (by omega) hb
  have hk : ∀ k o, w.heap[k]? = some o → (∀ cs fr, o ≠ Obj.cells cs 23 fr) → w'.heap[k]? = some o := fun k o hk ho => by
    refine (h3.block k (Array.getElem?_eq_some_iff.1 hk).1 (fun e => ?_)).trans hk
    rcases h.row.2 with ⟨rfl, _⟩ | ⟨g', cap, cur, rfl, _, hh, _⟩
    · cases e
    · cases e
      rw [hh] at hk
      cases hk
      exact ho _ _ rfl
  refine ⟨v', w', hrun, ⟨?_, ?_⟩, h3⟩
  · rw [List.length_append]
    unfold valsS at h2 ⊢
    rw [List.map_append]
    exact h2
  · intro q hq
    have keep : ∀ p : Sl, Own8 base w p.v p.L → Own8 base w' p.v p.L := fun p hp => by
      refine ⟨hp.1, hp.2.1, ?_⟩
      rcases hp.2.2 with e | ⟨g', cap, cur, e, hg', hh, rr⟩
      · exact .inl e
      · exact .inr ⟨g', cap, cur, e, hg', hk g' _ hh (fun cs fr e => by cases e), rr⟩
    rcases List.mem_append.1 hq with q1 | q1
    · exact keep q (h.each q q1)
    · rw [List.mem_singleton.1 q1]; exact keep r hr
end Go.Proofs.Ytpcbolmidnoaiaa
