/- Regions that draw, over operations known by their parts: guards too. -/
import Derived.Test.YthjjlkoddmljbaaTRefP
set_option linter.unusedVariables false
set_option linter.unusedSimpArgs false
namespace Go.Proofs.Ythjjlkoddmljbaa
open Go.RowKit Go.Shelf
theorem wp_call {o : Oper} {a : Act} {w : World} {K : Act → World → Prop} {Q : Exit → Act → World → Prop} {f : FuncId} {args : Array Operand} {ts : Array TypeId} {vs : Array Value} {r : Value} {R : World → Prop}
    (ho : o.op = .call { callee := .value (.func f), args := args, argTypes := ts }) (hv : args.map a.eval = vs) (eg : ∀ args w, (callFunc f args).run Try.prog w = .ok (.enter f args) w)
    (hc : Calls Try.prog f vs w fun e w' => e = .returned r ∧ R w') (hK : ∀ w', R w' → K (a.put o.dst r) w') : o.wp Try.prog a w K Q := by
  subst hv
  have e : (execOp a.eval o).run Try.prog w = .ok (.enter f (args.map a.eval)) w := by
    unfold execOp
    simp only [ho]
    simp [resolve, invoke, go_sem, eg]
  unfold Oper.wp
  rw [e]
  refine hc.mono ?_
  rintro e w' ⟨rfl, h⟩
  exact hK _ h
def LR (n : Nat) (s : List Nat) : Array Bool := ((List.range n).map fun i => s.contains i).toArray
section
variable {P : Program} {ops : Array Oper} {Q : Exit → Act → World → Prop} {S : World → Prop}
theorem wanted_none {o : Oper} {y : Nat → Option Bool} (hg : o.guard = none) : Region.wanted o y = true := by simp [Region.wanted, hg]
theorem wanted_some {o oj : Oper} {a : Act} {j d : Nat} {b : Bool} (hg : o.guard = some (j, b)) (hj : ops[j]? = some oj) (hd : oj.dst = some d) (hlt : d < a.tmps.size) (hv : a.eval (.tmp d) = .bool b) : Region.wanted o (yielded ops a.tmps) = true := by
  have e : a.tmps[d]? = some (.bool b) := by
    simp only [Act.eval] at hv
    rw [Array.getElem?_eq_getElem hlt]
    simp [hlt] at hv
    rw [hv]
  simp [Region.wanted, hg, yielded, hj, hd, e]
theorem heldS_take {i : Nat} {oi : Oper} {v : Value} {fuel : Nat} {listed : Array Bool} {a : Act} {w : World} (hi : ops[i]? = some oi) (hs : Region.noSelect ops = true) (hf : Region.free .any ops listed i = true) (hr : (Region.ready .any ops listed).contains i = true)
    (hw : Region.wanted oi (yielded ops a.tmps) = true) (hrun : ∀ W, S W → (execOp a.eval oi).run P W = .ok (.value v) W) (hS : S w) (h : wpAnyH P .any ops (plainQ Q) S fuel (listed.setIfInBounds i true) (a.put oi.dst v) w) : wpAnyH P .any ops (plainQ Q) S (fuel + 1) listed a w :=
  wpAnyH_take hi hs hf hr (fun _ _ _ h => by cases h.1) (.inl ⟨hw, hrun⟩) hS h
theorem unwanted {o oj : Oper} {a : Act} {j d : Nat} {b b' : Bool} (hg : o.guard = some (j, b)) (hj : ops[j]? = some oj) (hd : oj.dst = some d) (hv : a.eval (.tmp d) = .bool b') (hne : b' ≠ b) : Region.wanted o (yielded ops a.tmps) = false := by
  have e : a.tmps[d]? = some (.bool b') := by
    simp only [Act.eval] at hv
    rw [Array.getD_eq_getD_getElem?] at hv
    cases h : a.tmps[d]? with
    | none => rw [h] at hv; cases hv
    | some x => rw [h] at hv; simp at hv; rw [hv]
  simp [Region.wanted, hg, yielded, hj, hd, e, hne]
theorem heldS_skip {i : Nat} {oi : Oper} {fuel : Nat} {listed : Array Bool} {a : Act} {w : World} (hi : ops[i]? = some oi) (hs : Region.noSelect ops = true) (hf : Region.free .any ops listed i = true) (hr : (Region.ready .any ops listed).contains i = true)
    (hw : Region.wanted oi (yielded ops a.tmps) = false) (hS : S w) (h : wpAnyH P .any ops (plainQ Q) S fuel (listed.setIfInBounds i true) (a.put oi.dst undef) w) : wpAnyH P .any ops (plainQ Q) S (fuel + 1) listed a w :=
  wpAnyH_take hi hs hf hr (fun _ _ _ h => by cases h.1) (.inr ⟨hw, rfl⟩) hS h
theorem heldS_one {i : Nat} {o : Oper} {fuel : Nat} {listed : Array Bool} {a : Act} {w : World} (hi : ops[i]? = some o) (hr : Region.ready .any ops listed = [i]) (hw : Region.wanted o (yielded ops a.tmps) = true)
    (h : o.wp P a w (fun a' w' => S w' ∧ wpAnyH P .any ops (plainQ Q) S fuel (listed.setIfInBounds i true) a' w') (plainQ Q)) : wpAnyH P .any ops (plainQ Q) S (fuel + 1) listed a w := by
  refine wpAnyH_all hr (by simp) fun j hj => ?_
  obtain rfl : j = i := by simpa using hj
  unfold wpOp
  simp only [hi]
  rw [if_pos hw]
  exact .inl h
end
theorem exec_eqlnum {o : Oper} {a : Act} {x y : Operand} {T T2 : TypeId} {k : IntKind} {n m : Int} {b : Bool} {w : World} (hT : Try.prog.underlying T = some (.int k)) (ho : o.op = .binOp .eql T x y T2) (hx : a.eval x = .int k n) (hy : a.eval y = .int k m) (hb : (n == m) = b) : (execOp a.eval o).run Try.prog w = .ok (.value (.bool b)) w := by
  subst hb
  unfold execOp
  simp only [ho, hx, hy]
  go_simp
theorem exec_pick {o : Oper} {a : Act} {c x y : Operand} {b : Bool} {v u : Value} {w : World} (ho : o.op = .pick c x y) (hc : a.eval c = .bool b) (hx : a.eval x = v) (hy : a.eval y = u) : (execOp a.eval o).run Try.prog w = .ok (.value (if b then v else u)) w := by
  unfold execOp
  simp only [ho, hx, hy, hc]
  cases b <;> go_simp
theorem exec_eqhash {o : Oper} {a : Act} {x y : Operand} {f : Nat → Int} {w : World} (ho : o.op = .binOp .eql 23 x y 23) (hx : a.eval x = .agg (nums .u8 32 f)) (hy : a.eval y = .agg (nums .u8 32 f)) : (execOp a.eval o).run Try.prog w = .ok (.value (.bool true)) w := by
  have e := eq_hash f w
  unfold execOp
  simp only [ho, hx, hy]
  go_simp
theorem exec_loadhash {o : Oper} {a : Act} {x : Operand} {g : Nat} {f : Nat → Int} {w : World} (ho : o.op = .load 23 x) (hx : a.eval x = .pointer (some ⟨g, 0, none⟩)) (hg : At 23 w g (nums .u8 32 f)) : (execOp a.eval o).run Try.prog w = .ok (.value (.agg (nums .u8 32 f))) w := by
  unfold execOp
  simp only [ho, hx, Instr.loadAt, Instr.sureAddr, Sem.run_bind, Sem.run_pure, Result.andThen_ok, run_loadVar_row w g _ _ _ _ _ hg Try.underlying23 rfl (size_hash f)]
theorem exec_loadarr {o : Oper} {a : Act} {x : Operand} {g : Nat} {f : Nat → Int} {w : World} (ho : o.op = .load 22 x) (hx : a.eval x = .pointer (some ⟨g, 0, none⟩)) (hg : At 22 w g (nums .u8 32 f)) : (execOp a.eval o).run Try.prog w = .ok (.value (.agg (nums .u8 32 f))) w := by
  unfold execOp
  simp only [ho, hx, Instr.loadAt, Instr.sureAddr, Sem.run_bind, Sem.run_pure, Result.andThen_ok, run_loadVar_row w g _ _ _ _ _ hg Try.underlying22 rfl (size_arr f)]
theorem exec_eqstr {o : Oper} {a : Act} {x y : Operand} {s : ByteArray} {w : World} (ho : o.op = .binOp .eql 9 x y 9) (hx : a.eval x = .string s) (hy : a.eval y = .string s) : (execOp a.eval o).run Try.prog w = .ok (.value (.bool true)) w := by
  have e := eq_bytes (rfl : s = s)
  unfold execOp
  simp only [ho, hx, hy]
  go_simp
end Go.Proofs.Ythjjlkoddmljbaa
