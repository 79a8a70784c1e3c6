/- Whatever is shown of a region that draws its order, outside a fence, goes for it in one that shuts nothing out. -/
import Derived.Test.YtmeamdfmcpkofaaDoorDLift
import Derived.Test.YtmeamdfmcpkofaaDoorSStill
import Derived.Test.YtmeamdfmcpkofaaDoorRRegL
import Derived.OrdersHeld
import Derived.RangeFuncIn
set_option linter.unusedVariables false
namespace Go.Proofs.YtmeamdfmcpkofaaDoor
section
variable {P : Program} {ops : Array Oper} {Q : Exit → Act → World → Prop} {md : Region.Mode}
theorem rows_wide0 {n : Nat} {row : String} {args : Array Value} {w : World} {R : Value → World → Prop} (h : Rows P row args w R) : RowsIn Fence.wide n P row args w R :=
  fun c cs _ => let ⟨v, w', r, s⟩ := h c cs; ⟨v, w', r, stepsIn_wide.2 s⟩
theorem opIn_of_op0 {n : Nat} {o : Oper} {a : Act} {w : World} {K K' : Act → World → Prop} (hnd : ∀ c, o.op ≠ .defer c) (hK : ∀ a w, K a w → K' a w) (h : o.wp P a w K (onlyNormal Q)) : o.wpIn Fence.wide n P a w K' Q := by
  unfold Oper.wp at h
  unfold Oper.wpIn
  refine ⟨fun f _ => trivial, ?_⟩
  rw [Oper.semAt_plain _ _ _ hnd]
  generalize (execOp a.eval o).run P w = r at *
  cases r with
  | ok x w' =>
    cases x <;> simp only [Oper.upon, Oper.uponIn] at h ⊢
    case value v => exact hK _ _ h
    case skip => exact hK _ _ h
    case defer d => exact hK _ _ h
    case enter f args =>
      refine ⟨(fun hd => by cases hd), (callsIn_wide.2 h).mono ?_⟩
      intro e w'' he
      cases e with
      | returned v => exact hK _ _ he
      | panicked c => cases he.1
      | outgrown => exact absurd he only_out
    case row row args => exact ⟨(fun hd => by cases hd), (rows_wide0 h).mono fun v w'' hv => hK _ _ hv⟩
  | halt x w' => cases x <;> simp only [Oper.upon, Oper.uponIn] at h ⊢ <;> first | exact h.elim | (cases h.1)
theorem anyIn_of_any0 {n : Nat} (hnd : ∀ (i : Nat) (o : Oper), ops[i]? = some o → ∀ c, o.op ≠ .defer c) : ∀ (g : Nat) (listed : Array Bool) (a : Act) (w : World), wpAny P md ops (onlyNormal Q) g listed a w → wpAnyIn Fence.wide n P md ops Q g listed a w
  | 0, listed, a, w, h => ⟨h.1, h.2.2⟩
  | g + 1, listed, a, w, h => ⟨fun h0 => (h.1 h0).2, fun i hi => by
    have hh := h.2 i hi
    unfold wpOp at hh
    unfold wpOpIn
    split
    · rename_i ho; simp only [ho] at hh; exact anyIn_of_any0 hnd g _ a w hh
    · rename_i o ho
      simp only [ho] at hh
      split
      · rename_i hw
        simp only [hw, if_true] at hh
        rcases hh with hh | ⟨_, hh⟩
        · exact opIn_of_op0 (hnd _ _ ho) (fun a' w' h' => anyIn_of_any0 hnd g _ a' w' h') hh
        · exact absurd hh only_out
      · rename_i hw; simp only [hw] at hh; exact ⟨fun f _ => trivial, anyIn_of_any0 hnd g _ _ w hh⟩⟩
/-- A region in a round, met as outside. -/
theorem regionIn_held0 {n id : Nat} {a : Act} {w : World} {L : List Oper} (S : World → Prop) (hm : P.follows .mixedOrders = true) (hnd : noDefer L = true)
    (h : wpAnyH P .any L.toArray (onlyNormal Q) S L.toArray.size (Array.replicate L.toArray.size false) a w.drew) : (Code.region id L.toArray true).wpIn Fence.wide n P Q a w :=
  wpIn_region_any hm (anyIn_of_any0 (fun i o ho c => noDefer_spec hnd ho c) _ _ _ _ (wpAny_of_held _ _ _ _ h))
theorem regionLIn0 {n id : Nat} {a : Act} {w : World} {L : List Oper} (S : World → Prop) (z : Nat) (hm : P.follows .mixedOrders = true) (hnd : noDefer L = true)
    (h : AnyL P .any L.toArray (onlyNormal Q) S z L.toArray.size (Array.replicate L.toArray.size false) a w.drew) : (Code.region id L.toArray true).wpIn Fence.wide n P Q a w :=
  wpIn_region_any hm (anyIn_of_any0 (fun i o ho c => noDefer_spec hnd ho c) _ _ _ _ (any_of_L _ _ _ _ h))
end
end Go.Proofs.YtmeamdfmcpkofaaDoor
