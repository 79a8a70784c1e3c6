/- Single operations of Write, told by their runs. -/
import Derived.Test.YtkhhejkemkldgaaDoorSSha
import Derived.Test.YtkhhejkemkldgaaDoorSExp
import Derived.Test.YtkhhejkemkldgaaDoorSLift
import Derived.RangeFuncIn
set_option linter.unusedVariables false
namespace Go.Proofs.YtkhhejkemkldgaaDoor
open Go.RowKit Go.Shelf
theorem exec_nil {o : Oper} {a : Act} {x : Operand} {p : Addr} {w : World} (ho : o.op = .nilCheck x) (hx : a.eval x = .pointer (some p)) : (execOp a.eval o).run Tryd.prog w = .ok (.value (.pointer (some p))) w := by
  unfold execOp
  simp only [ho, hx]
  go_simp
theorem exec_field0 {o : Oper} {a : Act} {x : Operand} {S p : Nat} {w : World} (ho : o.op = .fieldAddr 32 x 0) (hx : a.eval x = .pointer (some ⟨S, p, none⟩)) : (execOp a.eval o).run Tryd.prog w = .ok (.value (.pointer (some ⟨S, p, none⟩))) w := by
  unfold execOp
  simp only [ho, hx]
  go_simp
theorem exec_field1 {o : Oper} {a : Act} {x : Operand} {S p : Nat} {w : World} (ho : o.op = .fieldAddr 32 x 1) (hx : a.eval x = .pointer (some ⟨S, p, none⟩)) : (execOp a.eval o).run Tryd.prog w = .ok (.value (.pointer (some ⟨S, p + 8, none⟩))) w := by
  unfold execOp
  simp only [ho, hx]
  go_simp
theorem wp_call {o : Oper} {a : Act} {w : World} {K : Act → World → Prop} {Q : Exit → Act → World → Prop} {f : FuncId} {args : Array Operand} {ts : Array TypeId} {vs : Array Value} {r : Value} {R : World → Prop}
    (ho : o.op = .call { callee := .value (.func f), args := args, argTypes := ts }) (hv : args.map a.eval = vs) (eg : ∀ args w, (callFunc f args).run Tryd.prog w = .ok (.enter f args) w)
    (hc : Calls Tryd.prog f vs w fun e w' => e = .returned r ∧ R w') (hK : ∀ w', R w' → K (a.put o.dst r) w') : o.wp Tryd.prog a w K Q := by
  subst hv
  have e : (execOp a.eval o).run Tryd.prog w = .ok (.enter f (args.map a.eval)) w := by
    unfold execOp
    simp only [ho]
    simp [resolve, invoke, go_sem, eg]
  unfold Oper.wp
  rw [e]
  refine hc.mono ?_
  rintro e w' ⟨rfl, h⟩
  exact hK _ h
end Go.Proofs.YtkhhejkemkldgaaDoor
