/- Regions that draw, over operations known by their parts: guards too. -/
import Derived.Test.YtkhhejkemkldgaaDoorSSum
import Derived.Test.YtkhhejkemkldgaaDoorSText
import Derived.Test.YtkhhejkemkldgaaDoorSEq
set_option linter.unusedVariables false
namespace Go.Proofs.YtkhhejkemkldgaaDoor
open Go.RowKit Go.Shelf
def LR (n : Nat) (s : List Nat) : Array Bool := ((List.range n).map fun i => s.contains i).toArray
section
variable {P : Program} {ops : Array Oper} {Q : Exit → Act → World → Prop} {S : World → Prop}
theorem wanted_none {o : Oper} {y : Nat → Option Bool} (hg : o.guard = none) : Region.wanted o y = true := by simp [Region.wanted, hg]
theorem wanted_some {o oj : Oper} {a : Act} {j d : Nat} {b : Bool} (hg : o.guard = some (j, b)) (hj : ops[j]? = some oj) (hd : oj.dst = some d) (hlt : d < a.tmps.size) (hv : a.eval (.tmp d) = .bool b) : Region.wanted o (yielded ops a.tmps) = true := by
  have e : a.tmps[d]? = some (.bool b) := by
    simp only [Act.eval] at hv
    rw [Array.getElem?_eq_getElem hlt]
    simp [hlt] at hv
    rw [hv]
  simp [Region.wanted, hg, yielded, hj, hd, e]
theorem heldS_take {i : Nat} {oi : Oper} {v : Value} {fuel : Nat} {listed : Array Bool} {a : Act} {w : World} (hi : ops[i]? = some oi) (hs : Region.noSelect ops = true) (hf : Region.free .any ops listed i = true) (hr : (Region.ready .any ops listed).contains i = true)
    (hw : Region.wanted oi (yielded ops a.tmps) = true) (hrun : ∀ W, S W → (execOp a.eval oi).run P W = .ok (.value v) W) (hS : S w) (h : wpAnyH P .any ops (plainQ Q) S fuel (listed.setIfInBounds i true) (a.put oi.dst v) w) : wpAnyH P .any ops (plainQ Q) S (fuel + 1) listed a w :=
  wpAnyH_take hi hs hf hr (fun _ _ _ h => by cases h.1) (.inl ⟨hw, hrun⟩) hS h
theorem unwanted {o oj : Oper} {a : Act} {j d : Nat} {b b' : Bool} (hg : o.guard = some (j, b)) (hj : ops[j]? = some oj) (hd : oj.dst = some d) (hv : a.eval (.tmp d) = .bool b') (hne : b' ≠ b) : Region.wanted o (yielded ops a.tmps) = false := by
  have e : a.tmps[d]? = some (.bool b') := by
    simp only [Act.eval] at hv
    rw [Array.getD_eq_getD_getElem?] at hv
    cases h : a.tmps[d]? with
    | none => rw [h] at hv; cases hv
    | some x => rw [h] at hv; simp at hv; rw [hv]
  simp [Region.wanted, hg, yielded, hj, hd, e, hne]
theorem heldS_skip {i : Nat} {oi : Oper} {fuel : Nat} {listed : Array Bool} {a : Act} {w : World} (hi : ops[i]? = some oi) (hs : Region.noSelect ops = true) (hf : Region.free .any ops listed i = true) (hr : (Region.ready .any ops listed).contains i = true)
    (hw : Region.wanted oi (yielded ops a.tmps) = false) (hS : S w) (h : wpAnyH P .any ops (plainQ Q) S fuel (listed.setIfInBounds i true) (a.put oi.dst undef) w) : wpAnyH P .any ops (plainQ Q) S (fuel + 1) listed a w :=
  wpAnyH_take hi hs hf hr (fun _ _ _ h => by cases h.1) (.inr ⟨hw, rfl⟩) hS h
theorem heldS_one {i : Nat} {o : Oper} {fuel : Nat} {listed : Array Bool} {a : Act} {w : World} (hi : ops[i]? = some o) (hr : Region.ready .any ops listed = [i]) (hw : Region.wanted o (yielded ops a.tmps) = true)
    (h : o.wp P a w (fun a' w' => S w' ∧ wpAnyH P .any ops (plainQ Q) S fuel (listed.setIfInBounds i true) a' w') (plainQ Q)) : wpAnyH P .any ops (plainQ Q) S (fuel + 1) listed a w := by
  refine wpAnyH_all hr (by simp) fun j hj => ?_
  obtain rfl : j = i := by simpa using hj
  unfold wpOp
  simp only [hi]
  rw [if_pos hw]
  exact .inl h
end
theorem exec_eqlnum {o : Oper} {a : Act} {x y : Operand} {T T2 : TypeId} {k : IntKind} {n m : Int} {b : Bool} {w : World} (hT : Tryd.prog.underlying T = some (.int k)) (ho : o.op = .binOp .eql T x y T2) (hx : a.eval x = .int k n) (hy : a.eval y = .int k m) (hb : (n == m) = b) : (execOp a.eval o).run Tryd.prog w = .ok (.value (.bool b)) w := by
  subst hb
  unfold execOp
  simp only [ho, hx, hy]
  go_simp
theorem exec_pick {o : Oper} {a : Act} {c x y : Operand} {b : Bool} {v u : Value} {w : World} (ho : o.op = .pick c x y) (hc : a.eval c = .bool b) (hx : a.eval x = v) (hy : a.eval y = u) : (execOp a.eval o).run Tryd.prog w = .ok (.value (if b then v else u)) w := by
  unfold execOp
  simp only [ho, hx, hy, hc]
  cases b <;> go_simp
theorem exec_eqhash {o : Oper} {a : Act} {x y : Operand} {f : Nat → Int} {w : World} (ho : o.op = .binOp .eql 38 x y 38) (hx : a.eval x = .agg (nums .u8 32 f)) (hy : a.eval y = .agg (nums .u8 32 f)) : (execOp a.eval o).run Tryd.prog w = .ok (.value (.bool true)) w := by
  have e := eq_hash f w
  unfold execOp
  simp only [ho, hx, hy]
  go_simp
theorem exec_loadhash {o : Oper} {a : Act} {x : Operand} {g : Nat} {f : Nat → Int} {w : World} (ho : o.op = .load 38 x) (hx : a.eval x = .pointer (some ⟨g, 0, none⟩)) (hg : At 38 w g (nums .u8 32 f)) : (execOp a.eval o).run Tryd.prog w = .ok (.value (.agg (nums .u8 32 f))) w := by
  unfold execOp
  simp only [ho, hx, Instr.loadAt, Instr.sureAddr, Sem.run_bind, Sem.run_pure, Result.andThen_ok, run_loadVar_row w g _ _ _ _ _ hg Tryd.underlying38 rfl (size_hash f)]
theorem exec_three {o : Oper} {a : Act} {w : World} (ho : o.op = .buildSlice 33 3 #[(0, .const (.int .u8 97)), (1, .const (.int .u8 98)), (2, .const (.int .u8 99))]) : (execOp a.eval o).run Tryd.prog w = .ok (.value (.slice (some ⟨w.heap.size, 0, none⟩) 3 3)) (w.alloc (.cells #[.int .u8 97, .int .u8 98, .int .u8 99] 5)) := by
  unfold execOp
  simp only [ho, List.map_toArray, List.map_cons, List.map_nil]
  go_simp
theorem exec_conv {o : Oper} {a : Act} {x : Operand} {T U : TypeId} {v u : Value} {w w' : World} (ho : o.op = .convert T U x) (hx : a.eval x = v) (h : (convert T U v).run Tryd.prog w = .ok u w') : (execOp a.eval o).run Tryd.prog w = .ok (.value u) w' := by
  unfold execOp
  simp only [ho, hx]
  rw [Sem.run_bind, h]
  rfl
theorem exec_idx8 {o : Oper} {a : Act} {x y : Operand} {b off lb cb k : Nat} {w : World} (hk : k < lb) (ho : o.op = .indexAddr 33 x y) (hx : a.eval x = .slice (some ⟨b, off, none⟩) lb cb) (hy : a.eval y = .int .i64 (k : Nat)) : (execOp a.eval o).run Tryd.prog w = .ok (.value (.pointer (some ⟨b, off + k, none⟩))) w := by
  unfold execOp
  simp only [ho, hx, hy]
  go_simp
theorem exec_load8 {o : Oper} {a : Act} {x : Operand} {p : Addr} {c : Int} {w : World} (ho : o.op = .load 5 x) (hx : a.eval x = .pointer (some p)) (hc : w.cell? p = some (.int .u8 c)) : (execOp a.eval o).run Tryd.prog w = .ok (.value (.int .u8 c)) w := by
  unfold execOp
  simp only [ho, hx]
  go_simp
theorem exec_rem4 {o : Oper} {a : Act} {x : Operand} {c : Int} {w : World} (h0 : 0 ≤ c) (ho : o.op = .binOp .rem 5 x (.const (.int .u8 4)) 5) (hx : a.eval x = .int .u8 c) : (execOp a.eval o).run Tryd.prog w = .ok (.value (.int .u8 (c % 4))) w := by
  have e : a.eval (.const (.int .u8 4)) = .int .u8 4 := rfl
  unfold execOp
  simp only [ho, hx, e]
  go_simp
  exact Int.tmod_eq_emod_of_nonneg h0
theorem exec_len8 {o : Oper} {a : Act} {x : Operand} {A : Option Addr} {L c : Nat} {w : World} (ho : o.op = .call { callee := .builtin .len, args := #[x], argTypes := #[33] }) (hx : a.eval x = .slice A L c) : (execOp a.eval o).run Tryd.prog w = .ok (.value (.int .i64 (L : Nat))) w := by
  unfold execOp
  simp only [ho, resolve, invoke, builtin, Sem.run_bind, Sem.run_pure, Result.andThen_ok, List.map_toArray, List.map_cons, List.map_nil, hx]
  go_simp
theorem exec_sub {o : Oper} {a : Act} {x y : Operand} {n m r : Int} {w : World} (h : IntKind.i64.wrap (n - m) = r) (ho : o.op = .binOp .sub 3 x y 3) (hx : a.eval x = .int .i64 n) (hy : a.eval y = .int .i64 m) : (execOp a.eval o).run Tryd.prog w = .ok (.value (.int .i64 r)) w := by
  unfold execOp
  simp only [ho, hx, hy]
  go_simp
theorem run_sliceh (A : Option Addr) (L ca n : Nat) (hn : n ≤ ca) (w : World) : (Instr.slice 33 (.slice A L ca) none (some (.int .i64 (n : Nat))) none).run Tryd.prog w = .ok (.slice A n ca) w := by
  rw [run_slice_h w 33 A L ca (by kernel_rfl) .i64 (n : Int) (by omega) (by omega), show Tryd.prog.elem 33 = 5 by kernel_rfl, sizeOf_u8]
  cases A with
  | none => simp [Result.andThen, sliced]
  | some x =>
    have e : x.add 0 = x := by unfold Addr.add; split <;> simp_all
    simp [Result.andThen, sliced, e]
theorem exec_sliceh {o : Oper} {a : Act} {x y : Operand} {A : Option Addr} {L ca n : Nat} {w : World} (hn : n ≤ ca) (ho : o.op = .slice 33 x none (some y) none) (hx : a.eval x = .slice A L ca) (hy : a.eval y = .int .i64 (n : Nat)) : (execOp a.eval o).run Tryd.prog w = .ok (.value (.slice A n ca)) w := by
  have h := run_sliceh A L ca n hn w
  unfold execOp
  simp only [ho, hx, hy, Option.map]
  go_simp
theorem exec_neqhash {o : Oper} {a : Act} {x y : Operand} {f : Nat → Int} {w : World} (ho : o.op = .binOp .neq 38 x y 38) (hx : a.eval x = .agg (nums .u8 32 f)) (hy : a.eval y = .agg (nums .u8 32 f)) : (execOp a.eval o).run Tryd.prog w = .ok (.value (.bool false)) w := by
  have e := eq_hash f w
  unfold execOp
  simp only [ho, hx, hy]
  go_simp
end Go.Proofs.YtkhhejkemkldgaaDoor
