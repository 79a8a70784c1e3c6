/- A region that draws, met by hand outside a fence. -/
import Derived.Test.YtgedcfgmfhlkdaaDoorKLift
set_option linter.unusedVariables false
set_option linter.unusedSimpArgs false
namespace Go.Proofs.YtgedcfgmfhlkdaaDoor
open Go.RowKit
section
variable {P : Program} {md : Region.Mode} {ops : Array Oper} {Q : Exit → Act → World → Prop}
theorem op_only {o : Oper} {a : Act} {w : World} {K K' : Act → World → Prop} (hK : ∀ a w, K a w → K' a w) (h : o.wp P a w K (onlyNormal Q)) : o.wp P a w K' Q := by
  unfold Oper.wp at h ⊢
  generalize (execOp a.eval o).run P w = r at *
  cases r with
  | ok x w' =>
    cases x <;> simp only [Oper.upon] at h ⊢
    case value v => exact hK _ _ h
    case skip => exact hK _ _ h
    case defer d => exact hK _ _ h
    case enter f args =>
      refine h.mono ?_
      intro e w'' he
      cases e with
      | returned v => exact hK _ _ he
      | panicked c => cases he.1
      | outgrown => exact absurd he only_out
    case row row args =>
      intro c cs
      obtain ⟨v, w2, r, s⟩ := h c cs
      exact ⟨v, w2, hK _ _ r, s⟩
  | halt x w' => cases x <;> simp only [Oper.upon] at h ⊢ <;> first | exact h.elim | (cases h.1)
theorem any_only : ∀ (g : Nat) (listed : Array Bool) (a : Act) (w : World), wpAny P md ops (onlyNormal Q) g listed a w → wpAny P md ops Q g listed a w
  | 0, listed, a, w, h => ⟨h.1, h.2.2⟩
  | g + 1, listed, a, w, h => ⟨fun h0 => (h.1 h0).2, fun i hi => by
    have hh := h.2 i hi
    unfold wpOp at hh ⊢
    split
    · rename_i ho; simp only [ho] at hh; exact any_only g _ a w hh
    · rename_i o ho
      simp only [ho] at hh
      split
      · rename_i hw
        simp only [hw, if_true] at hh
        rcases hh with hh | ⟨_, hh⟩
        · exact .inl (op_only (fun a' w' h' => any_only g _ a' w' h') hh)
        · exact absurd hh only_out
      · rename_i hw; simp only [hw] at hh; exact any_only g _ _ w hh⟩
theorem region_held {id : Nat} {a : Act} {w : World} {L : List Oper} (S : World → Prop) (hm : P.follows .mixedOrders = true)
    (h : wpAnyH P .any L.toArray (onlyNormal Q) S L.toArray.size (Array.replicate L.toArray.size false) a w.drew) : (Code.region id L.toArray true).wp P Q a w :=
  wp_region_any hm (any_only _ _ _ _ (wpAny_of_held _ _ _ _ h))
theorem wp_of_call {o : Oper} {a : Act} {w : World} {K : Act → World → Prop} {f : FuncId} {args : Array Value} (hrun : (execOp a.eval o).run P w = .ok (.enter f args) w) (h : Calls P f args w fun e w' => ∃ v, e = .returned v ∧ K (a.put o.dst v) w') : o.wp P a w K Q := by
  unfold Oper.wp; rw [hrun]
  refine Calls.mono h ?_
  rintro e w' ⟨v, rfl, hk⟩
  exact hk
/-- The one operation that may come up is a call. -/
theorem held_call {S : World → Prop} {i : Nat} {o : Oper} {fuel : Nat} {listed : Array Bool} {a : Act} {w : World} {f : FuncId} {args : Array Value} {R : Value → World → Prop} (hi : ops[i]? = some o) (hr : Region.ready .any ops listed = [i]) (hg : o.guard = none) (hrun : (execOp a.eval o).run P w = .ok (.enter f args) w)
    (hc : Calls P f args w fun e w' => ∃ v, e = .returned v ∧ R v w') (h : ∀ v w', R v w' → S w' ∧ wpAnyH P .any ops (onlyNormal Q) S fuel (listed.setIfInBounds i true) (a.put o.dst v) w') : wpAnyH P .any ops (onlyNormal Q) S (fuel + 1) listed a w := by
  refine held_one hi hr hg (wp_of_call hrun (hc.mono ?_))
  rintro e w' ⟨v, rfl, hv⟩
  exact ⟨v, rfl, h v w' hv⟩
end
end Go.Proofs.YtgedcfgmfhlkdaaDoor
