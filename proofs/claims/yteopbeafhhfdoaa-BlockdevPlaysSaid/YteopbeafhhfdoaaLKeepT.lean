/- The state of BlockdevKeeps. -/
import Derived.Test.YteopbeafhhfdoaaLKeepS
set_option linter.unusedVariables false
set_option linter.unusedSimpArgs false
namespace Go.Proofs.Yteopbeafhhfdoaa
open Go.RowKit
structure St (w : World) (D : Nat) (C : Array Value) (W : World) (q : Pl) (d : Dv) : Prop where
  dev : DevSt w.heap.size w D W q d
  box : At 34 W w.heap.size C
structure St2 (w : World) (D : Nat) (C : Array Value) (A AA : Nat) (S : Nat → ByteArray) (H : Nat → List ByteArray) (W : World) (q : Pl) (d : Dv) : Prop where
  st : St w D C W q d
  str : At 64 W A (tab8 fun j => .string (S j))
  all : ∃ v, AllAt w.heap.size W AA v H
  lA : w.heap.size ≤ A
section
variable {w W W' : World} {D A AA : Nat} {C : Array Value} {q q' : Pl} {d d' : Dv} {S : Nat → ByteArray} {H : Nat → List ByteArray}
theorem St.step (h : St w D C W q d) (hd : DevAt W' q' d') (hS : Step q q' W W') : St w D C W' q' d' := ⟨h.dev.step hd hS, h.box.upd hS.upd (not_own h.dev.dev h.box (by decide))⟩
theorem St.next (h : St w D C W q d) (hB : Below W.heap.size W W') : St w D C W' q d := ⟨h.dev.next hB, h.box.below h.box.lt hB⟩
theorem St2.step (h : St2 w D C A AA S H W q d) (hd : DevAt W' q' d') (hS : Step q q' W W') : St2 w D C A AA S H W' q' d' :=
  ⟨h.st.step hd hS, h.str.upd hS.upd (not_own h.st.dev.dev h.str (by decide)), let ⟨v, hv⟩ := h.all; ⟨v, hv.step h.st.dev.dev hS⟩, h.lA⟩
theorem St2.next (h : St2 w D C A AA S H W q d) (hB : Below W.heap.size W W') : St2 w D C A AA S H W' q d :=
  ⟨h.st.next hB, h.str.below h.str.lt hB, let ⟨v, hv⟩ := h.all; ⟨v, hv.next hB⟩, h.lA⟩
theorem St2.setS (h : St2 w D C A AA S H W q d) {n : Nat} (hn : n < 8) (s : ByteArray) : St2 w D C A AA (fun j => if j = n then s else S j) H (W.setCell ⟨A, n, none⟩ (.string s)) q d := by
  have hu : Upd (fun k => k = A) W (W.setCell ⟨A, n, none⟩ (.string s)) := (Upd.refl (fun k => k = A) W).setCell (p := ⟨A, n, none⟩) (.inl rfl) _
  have hAb : w.heap.size ≠ A := fun e => by
    have h1 := h.st.box
    have h2 := h.str
    unfold At at h1 h2
    rw [e, h2] at h1; cases h1
  refine ⟨⟨h.st.dev.kind hu (fun k e => ⟨e ▸ h.lA, _, _, _, e ▸ h.str, by decide, by decide⟩), h.st.box.upd hu hAb⟩, ?_, ?_, h.lA⟩
  · have := h.str.set n (.string s)
    rw [tab8_set _ n _ hn] at this
    rw [show (fun j => Value.string (if j = n then s else S j)) = (fun i => if i = n then Value.string s else Value.string (S i)) from funext fun j => by split <;> rfl]
    exact this
  · obtain ⟨v, hv⟩ := h.all
    have h2 := h.str
    unfold At at h2
    refine ⟨v, hv.at_.upd hu (fun e => ?_), fun m hm => ownsRow_upd (hv.row m hm) hu (fun k hk e => ?_), hv.apart, hv.fresh⟩
    · have h1 := hv.at_
      unfold At at h1
      have e : AA = A := e
      rw [e, h2] at h1; simp at h1
    · obtain ⟨cs, hc⟩ := row_type (hv.row m hm) hk
      have e : k = A := e
      rw [e, h2] at hc; cases hc
theorem St2.push (h : St2 w D C A AA S H W q d) {v : Nat → Value} (hv : AllAt w.heap.size W AA v H) {n : Nat} (hn : n < 8) {Y X : World} {x : Value} {s : ByteArray} (hY : Below W.heap.size W Y) (hg : Y.grownBy X (v n).ownBlock)
    (ho : X.ownsRow 0 9 1 x (H n ++ [s]).length (strs (H n ++ [s]))) (hb : x.ownBlock = (v n).ownBlock ∨ ∃ k, x.ownBlock = some k ∧ W.heap.size ≤ k) :
    St2 w D C A AA S (fun i => if i = n then H n ++ [s] else H i) (X.setCell ⟨AA, n, none⟩ x) q d := by
  obtain ⟨h1, h2⟩ := hv.push hn (.inr ⟨Y, hY, hg⟩) h.st.dev.le ho hb
  have hk := hv.pushO hn
  refine ⟨⟨h.st.dev.kind h2 hk, h.st.box.upd h2 (fun e => ?_)⟩, h.str.upd h2 (fun e => ?_), ⟨_, h1⟩, h.lA⟩
  · have hbx := h.st.box
    unfold At at hbx
    rcases e with e | e
    · have ha := hv.at_
      unfold At at ha
      rw [← e, hbx] at ha; simp at ha
    · obtain ⟨cs, hc⟩ := row_type (hv.row n hn) e
      rw [hbx] at hc; cases hc
  · have hbx := h.str
    unfold At at hbx
    rcases e with e | e
    · have ha := hv.at_
      unfold At at ha
      rw [← e, hbx] at ha; simp at ha
    · obtain ⟨cs, hc⟩ := row_type (hv.row n hn) e
      rw [hbx] at hc; cases hc
end
/-- Two devices. -/
structure St3 (w : World) (D D' : Nat) (C : Array Value) (A AA : Nat) (S : Nat → ByteArray) (H : Nat → List ByteArray) (W : World) (q q' : Pl) (d d' : Dv) : Prop where
  one : St2 w D C A AA S H W q d
  two : DevSt w.heap.size w D' W q' d'
  apart : ∀ k, own q' k → ¬ own q k
section
variable {w W W' : World} {D D' A AA : Nat} {C : Array Value} {q q' p p' : Pl} {d d' e : Dv} {S : Nat → ByteArray} {H : Nat → List ByteArray}
theorem DevSt.other (h : DevSt w.heap.size w D' W q' d') (hd : DevSt w.heap.size w D W q d) (hS : Step q p W W') (ha : ∀ k, own q' k → ¬ own q k) : DevSt w.heap.size w D' W' q' d' :=
  ⟨h.dev.step hd.dev hS ha, h.fresh, h.below.trans (hS.below hd.fresh h.le), h.D, Nat.le_trans h.le hS.upd.size⟩
theorem St3.fst (h : St3 w D D' C A AA S H W q q' d d') (hd : DevAt W' p e) (hS : Step q p W W') : St3 w D D' C A AA S H W' p q' e d' :=
  ⟨h.one.step hd hS, h.two.other h.one.st.dev hS h.apart, hS.apart h.two.dev h.apart⟩
theorem St3.snd (h : St3 w D D' C A AA S H W q q' d d') (hd : DevAt W' p e) (hS : Step q' p W W') : St3 w D D' C A AA S H W' q p d e := by
  have ha : ∀ k, own q k → ¬ own q' k := fun k hk hk' => h.apart k hk' hk
  refine ⟨⟨⟨h.one.st.dev.other h.two hS ha, h.one.st.box.upd hS.upd (not_own h.two.dev h.one.st.box (by decide))⟩, h.one.str.upd hS.upd (not_own h.two.dev h.one.str (by decide)), let ⟨v, hv⟩ := h.one.all; ⟨v, hv.step h.two.dev hS⟩, h.one.lA⟩, h.two.step hd hS, fun k hk hk' => hS.apart h.one.st.dev.dev ha k hk' hk⟩
theorem St3.next (h : St3 w D D' C A AA S H W q q' d d') (hB : Below W.heap.size W W') : St3 w D D' C A AA S H W' q q' d d' := ⟨h.one.next hB, h.two.next hB, h.apart⟩
end
end Go.Proofs.Yteopbeafhhfdoaa
